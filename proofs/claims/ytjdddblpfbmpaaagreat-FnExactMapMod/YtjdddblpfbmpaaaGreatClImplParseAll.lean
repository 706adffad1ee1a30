/-
 What impl.Parse answers: the walk.
-/
import Derived.Test.YtjdddblpfbmpaaaGreatClImplParseYToImplProgM
import Derived.Test.YtjdddblpfbmpaaaGreatClImplCatch
import Derived.Test.YtjdddblpfbmpaaaGreatClImplLex
namespace Go.Proofs.YtjdddblpfbmpaaaGreat
set_option maxRecDepth 100000
set_option maxHeartbeats 3200000
open Go.RowKit Go.PlainAid Go.Sort
theorem zhX (s:ByteArray) (a b:Nat):(s.extract a b).size≤s.size:=by
 rw[ByteArray.size_extract]
 omega
theorem zul {s:ByteArray} {j:Bool} {a e:Nat} {t:Tk} (h:Tok s j a t e):t.text.size≤s.size:=by
 cases h using Tok.elim with
 |name h w=>exact zhX _ _ _
 |num h w=>exact Nat.zero_le _
 |str h w=>exact zhX _ _ _
 |sign h=>exact zhX _ _ _
theorem zum {s:ByteArray} {A:Bool} {a n:Nat} {r:Except Nat (List Tk)} (h:Lx s A a n r): ∀w,r= .ok w→∀t∈w,t.text.size≤s.size:=by
 induction h using Lx.ind with
 |done=>intro w z;cases z;intro t H;cases H
 |bad _ _=>intro w z;cases z
 | @tok a n e b t r h M H L z J=>
  intro w j
  cases r with
  |error p=>simp[Except.map] at j
  |ok l=>
   simp only[Except.map,Except.ok.injEq] at j
   subst j
   intro x I
   rcases List.mem_cons.1 I with rfl|I
   ·exact zul H
   ·exact J l rfl x I
theorem zun {s:ByteArray} {w:Bool} {j:List Tk} (h:zak s w (.ok j)) (H:s.size≤4294967296):zbn ⟨j,s.size,w⟩:=by
 obtain⟨a,_,A⟩:=h
 intro i
 by_cases z:i<j.length
 ·have:zf ⟨j,s.size,w⟩ i∈j:=by
   rw[zf,List.getD,List.getElem?_eq_getElem z]
   exact List.getElem_mem z
  have:=zum A j rfl _ this
  omega
 ·rw[zdI (by show j.length≤i;omega)]
  exact Nat.zero_le _
theorem zhY {P:Program} {I:Func} {p u:Tmp} {j A:TypeId} (h:I.results= #[.cell p j,.cell u A]) (tmps:Array Value) (w:World) (g z:Nat) (t N:TypeId) (H:Array Value) (v:Value) (d:TypeDesc) (k:IntKind)
  (M:tmps.getD p undef= .pointer (some ⟨g,0,none⟩)) (hg:w.heap[g]? =some (.cells H t (0,0)))
  (Z:P.underlying j=some d) (L:(match d with| .struct _| .array _ _=>true|_=>false)=true) (Y:(P.info? j).map (·.size)=some H.size)
  (O:tmps.getD u undef= .pointer (some ⟨z,0,none⟩)) (J:w.heap[z]? =some (.cells #[v] N (0,0))) (hz:P.underlying A=some (.int k)) (U: ∃n,v= .int k n):
  (results I tmps).run P w= .ok (.tuple #[.agg H,v]) w:=by
 obtain⟨n,rfl⟩:=U
 have X:=run_loadVar_row w g t j H (0,0) d hg Z L Y
 have V:(loadVar A ⟨z,0,none⟩).run P w= .ok (.int k n) w:=by
  have hc:w.cell? ⟨z,0,none⟩=some (.int k n):=by simp[World.cell?,J]
  simp[go_sem,isAgg,run_underlying hz,hc]
 have e:(results I tmps).run P w=((asAddr (tmps.getD p undef)).run P w).andThen fun a w₁=>((loadVar j a).run P w₁).andThen fun v w₂=>((asAddr (tmps.getD u undef)).run P w₂).andThen fun b w₃=>((loadVar A b).run P w₃).andThen fun x w₄=>.ok (.tuple #[v,x]) w₄:=by
  simp only[results,h]
  simp[Sem.run_bind,Result.andThen]
 rw[e,M,O]
 simp[asAddr,Result.andThen,X,V]
theorem zgH {w:World} {b k:Nat} {x0 x1 x2 x3 x4:Value} (h:k≠b):(((((w.setCell ⟨b,0,none⟩ x0).setCell ⟨b,1,none⟩ x1).setCell ⟨b,2,none⟩ x2).setCell ⟨b,3,none⟩ x3).setCell ⟨b,4,none⟩ x4).heap[k]? =w.heap[k]?:=by
 rw[zx h,zx h,zx h,zx h,zx h]
theorem zhZ {w:World} {b:Nat} {u v:Value} {t:TypeId} (h:w.heap[b]? =some (.cells #[v] t (0,0))):(w.setCell ⟨b,0,none⟩ u).heap[b]? =some (.cells #[u] t (0,0)):=(zam h).trans (by simp)
theorem OwnMod.keepI {w w':World} {j:Nat} {S:Sv} {q:PS} (h:OwnMod w j S q) (z: ∀k,j≤k→w'.heap[k]? =w.heap[k]?):OwnMod w' j S q:=
 ⟨h.rq.keep fun k g=>z k (h.rq.typed g).1,h.im.keep fun k g=>z k (h.im.typed g).1,h.ep.keep fun k g=>z k (h.ep.typed g).1,h.st.keep fun k g=>z k (h.st.typed g).1,h.ex.keep fun k g=>z k (h.ex.typed g).1,h.inv⟩
theorem OwnMod.lowI {w:World} {z j:Nat} {S:Sv} {q:PS} (h:OwnMod w z S q) (A:j≤z):OwnMod w j S q:=⟨h.rq.low A,h.im.low A,h.ep.low A,h.st.low A,h.ex.low A,h.inv⟩
theorem zuo (C:Cx) (H z j A:Nat) (S:Sv) (q:PS) (w:World) (h:IM C H z j A S q w) (J:zbn C):
  Calls Tryz.prog 120 #[.pointer (some ⟨A,0,none⟩)] w (zhT j A (zaz C q) w):=by
 cases I:C.scr with
 |true=>exact zt4 C H z j A S q w h I
 |false=>exact zt5 C H z j A S q w h J I
theorem zup (s:ByteArray) (j:Bool) (w:World) (hs:s.size≤4294967296):
  Calls Tryz.prog 89 #[.string s,.bool j] w fun e w'=>ParseOut s j w e w'∧Below w.heap.size w w':=by
 have af: ∀(fn:Fn) (first A:Array Value) (w:World),(Instr.makeFunc fn first A).run Tryz.prog w= .ok (.func fn first A) w:=fun _ _ _ _=>rfl
 go_enter_defers Tryz.func89,Tryz.ntmps89
 go_wp2_with fail
 refine (zuk s j _ hs).mono ?_
 rintro e M ⟨⟨r1,L,O⟩,Y⟩
 have h:((w.alloc (.cells #[.slice none 0 0,.slice none 0 0,.slice none 0 0,.slice none 0 0,.slice none 0 0] 36)).alloc (.cells #[.int .i64 0] 3)).heap.size=w.heap.size+1+1:=zcN w _ _
 have Z:Below w.heap.size w M:=(zba w _ _).trans (Y.mono (by rw[h];omega))
 have X:Hid (M.heap[w.heap.size]? =some (.cells #[.slice none 0 0,.slice none 0 0,.slice none 0 0,.slice none 0 0,.slice none 0 0] 36 (0,0))):=(Y.block _ (by rw[h];omega)).trans (zcA (heap_alloc_new w _))
 have U:Hid (M.heap[w.heap.size+1]? =some (.cells #[.int .i64 0] 3 (0,0))):=(Y.block _ (by rw[h];omega)).trans (new2 w _ _)
 have N:w.heap.size+1+1≤M.heap.size:=by have:=Y.size;rw[h] at this;exact this
 rw[h] at Y
 obtain⟨c0,c1,c2,c3,c4,cf⟩:=zg X.out
 have d0:M.cell? ⟨w.heap.size+1,0,none⟩=some (.int .i64 0):=by simp[World.cell?,U.out]
 have df:M.frozen? ⟨w.heap.size+1,0,none⟩=false:=by simp[World.frozen?,U.out]
 cases r1 with
 |error p=>
  subst O
  have HY:Hid (zb4 s j (.error p)):=⟨_,L,rfl⟩
  have dz:decide ((0:Int)≤(p:Int))=true:=decide_eq_true (by omega)
  clear L Y h
  go_wp2
  exact⟨_,zhY rfl _ _ w.heap.size (w.heap.size+1) 36 3 _ _ _ .i64 rfl ((zx (by omega)).trans (zbH X.out)) Tryz.underlying36 rfl (by kernel_rfl) rfl (zhZ ((zgH (by omega)).trans U.out)) Tryz.underlying3 ⟨_,rfl⟩,⟨_,HY.out,rfl⟩,(zbN Z (Nat.le_refl _) ..).setCell (Nat.le_succ _) _⟩
 |ok ts=>
  obtain⟨g,n,A,rfl,I⟩:=O
  obtain rfl:n=ts.length:=I.2
  rw[h] at I
  have ab:=zi6 L
  have HR:=zc L
  have HC:Hid (zbn ⟨ts,s.size,j⟩):=zun L hs
  have ae:Hid (Mem ⟨ts,s.size,j⟩ g A (w.heap.size+1+1) S0 zbV M):=zi7 I ab N
  clear I L Y h
  go_wp2_with fail
  have ad:IM ⟨ts,s.size,j⟩ g A (w.heap.size+1+1) M.heap.size S0 zbV (M.alloc (.cells #[.slice (some ⟨g,0,none⟩) ts.length A,.int .i64 0,.int .i64 s.size,.bool j,.slice none 0 0,.slice none 0 0,.slice none 0 0,.slice none 0 0,.slice none 0 0,.slice none 0 0] 160)):=⟨ae.out.alloc _,heap_alloc_new M _,N⟩
  have J:Below (w.heap.size+1+1) M (M.alloc (.cells #[.slice (some ⟨g,0,none⟩) ts.length A,.int .i64 0,.int .i64 s.size,.bool j,.slice none 0 0,.slice none 0 0,.slice none 0 0,.slice none 0 0,.slice none 0 0,.slice none 0 0] 160)):=(Below.refl _ _).alloc N _
  refine (zuo _ g A _ _ S0 zbV _ ad HC.out).mono ?_
  cases hp:zaz ⟨ts,s.size,j⟩ zbV with
  |error p=>
   rintro e w2 ⟨rfl,V⟩
   have HY:Hid (zb4 s j (.error p)):=⟨_,HR.out,hp.symm⟩
   have aa:=Z.trans ((J.trans V).mono (by omega))
   have H:Hid (w2.heap[w.heap.size]? =some (.cells #[.slice none 0 0,.slice none 0 0,.slice none 0 0,.slice none 0 0,.slice none 0 0] 36 (0,0))):=((J.trans V).block _ (by omega)).trans X.out
   have z:Hid (w2.heap[w.heap.size+1]? =some (.cells #[.int .i64 0] 3 (0,0))):=((J.trans V).block _ (by omega)).trans U.out
   clear V
   unfold Pan
   go_wp2
   refine leaves_cons (f:=119) (args:=#[.pointer (some ⟨w.heap.size,0,none⟩),.pointer (some ⟨w.heap.size+1,0,none⟩)]) (by simp) (by simp[go_sem]) ?_
   refine (zt9 w.heap.size (w.heap.size+1) p _ _ _ _ _ _ _ H.out z.out (by omega)).mono ?_
   rintro e u' w3 ⟨rfl,rfl,rfl⟩
   exact⟨_,zhY rfl _ _ w.heap.size (w.heap.size+1) 36 3 _ _ _ .i64 rfl ((zx (by omega)).trans (zbH H.out)) Tryz.underlying36 rfl (by kernel_rfl) rfl (zhZ ((zgH (by omega)).trans z.out)) Tryz.underlying3 ⟨_,rfl⟩,⟨_,HY.out,rfl⟩,(zbN aa (Nat.le_refl _) ..).setCell (Nat.le_succ _) _⟩
  |ok q=>
   rintro e w2 ⟨rfl,S2,om,⟨v0,v1,v2,v3,v9,ac⟩,V⟩
   have HY:Hid (zb4 s j (.ok q)):=⟨_,HR.out,hp.symm⟩
   have aa:=Z.trans ((J.trans V).mono (by omega))
   have H:Hid (w2.heap[w.heap.size]? =some (.cells #[.slice none 0 0,.slice none 0 0,.slice none 0 0,.slice none 0 0,.slice none 0 0] 36 (0,0))):=((J.trans V).block _ (by omega)).trans X.out
   have z:Hid (w2.heap[w.heap.size+1]? =some (.cells #[.int .i64 0] 3 (0,0))):=((J.trans V).block _ (by omega)).trans U.out
   have HO:=zc om
   clear V om c0 c1 c2 c3 c4 cf d0 df
   obtain⟨b0,Y,b2,b3,b4,b5,b6,b7,b8,b9,bf⟩:=zah ac
   clear ac
   obtain⟨c0,c1,c2,c3,c4,cf⟩:=zg H.out
   have d0:w2.cell? ⟨w.heap.size+1,0,none⟩=some (.int .i64 0):=by simp[World.cell?,z.out]
   have df:w2.frozen? ⟨w.heap.size+1,0,none⟩=false:=by simp[World.frozen?,z.out]
   go_wp2
   refine leaves_cons (f:=119) (args:=#[.pointer (some ⟨w.heap.size,0,none⟩),.pointer (some ⟨w.heap.size+1,0,none⟩)]) (by simp) (by simp[go_sem]) ?_
   refine (zt8 w.heap.size (w.heap.size+1) _).mono ?_
   rintro e u' w3 ⟨rfl,rfl,rfl⟩
   refine⟨_,zhY rfl _ _ w.heap.size (w.heap.size+1) 36 3 _ _ _ .i64 rfl ((zx (by omega)).trans (zbH H.out)) Tryz.underlying36 rfl (by kernel_rfl) rfl (zhZ ((zgH (by omega)).trans z.out)) Tryz.underlying3 ⟨_,rfl⟩,⟨_,HY.out,S2,by simp[zfL],?_⟩,(zbN aa (Nat.le_refl _) ..).setCell (Nat.le_succ _) _⟩
   exact (HO.out.keepI fun k hk=>(zx (by omega)).trans (zgH (by omega))).lowI (by omega)
end Go.Proofs.YtjdddblpfbmpaaaGreat