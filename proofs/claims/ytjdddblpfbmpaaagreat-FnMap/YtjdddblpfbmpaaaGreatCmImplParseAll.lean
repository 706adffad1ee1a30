/-
 What impl.Parse answers: the walk.
-/
import Derived.Test.YtjdddblpfbmpaaaGreatCmImplParseYToImplProgM
import Derived.Test.YtjdddblpfbmpaaaGreatCmImplCatch
import Derived.Test.YtjdddblpfbmpaaaGreatCmImplLex
namespace Go.Proofs.YtjdddblpfbmpaaaGreat
set_option maxRecDepth 100000
set_option maxHeartbeats 3200000
open Go.RowKit Go.PlainAid Go.Sort
theorem zi6 (s:ByteArray) (a b:Nat):(s.extract a b).size≤s.size:=by
 rw[ByteArray.size_extract]
 omega
theorem zuv {s:ByteArray} {j:Bool} {a e:Nat} {t:Tk} (h:Tok s j a t e):t.text.size≤s.size:=by
 cases h using Tok.elim with
 |name h q=>exact zi6 _ _ _
 |num h q=>exact Nat.zero_le _
 |str h q=>exact zi6 _ _ _
 |sign h=>exact zi6 _ _ _
theorem zuw {s:ByteArray} {A:Bool} {a n:Nat} {r:Except Nat (List Tk)} (h:Lx s A a n r): ∀q,r= .ok q→∀t∈q,t.text.size≤s.size:=by
 induction h using Lx.ind with
 |done=>intro q z;cases z;intro t H;cases H
 |bad _ _=>intro q z;cases z
 | @tok a n e b t r h M H L z J=>
  intro q j
  cases r with
  |error p=>simp[Except.map] at j
  |ok l=>
   simp only[Except.map,Except.ok.injEq] at j
   subst j
   intro x I
   rcases List.mem_cons.1 I with rfl|I
   ·exact zuv H
   ·exact J l rfl x I
theorem zux {s:ByteArray} {q:Bool} {j:List Tk} (h:zai s q (.ok j)) (H:s.size≤4294967296):zbu ⟨j,s.size,q⟩:=by
 obtain⟨a,_,A⟩:=h
 intro i
 by_cases z:i<j.length
 ·have:ze ⟨j,s.size,q⟩ i∈j:=by
   rw[ze,List.getD,List.getElem?_eq_getElem z]
   exact List.getElem_mem z
  have:=zuw A j rfl _ this
  omega
 ·rw[zdF (by show j.length≤i;omega)]
  exact Nat.zero_le _
theorem zi7 {P:Program} {H:Func} {p u:Tmp} {j z:TypeId} (h:H.results= #[.cell p j,.cell u z]) (tmps:Array Value) (w:World) (g q:Nat) (t M:TypeId) (A:Array Value) (v:Value) (d:TypeDesc) (k:IntKind)
  (L:tmps.getD p undef= .pointer (some ⟨g,0,none⟩)) (Z:w.heap[g]? =some (.cells A t (0,0)))
  (Y:P.underlying j=some d) (J:(match d with| .struct _| .array _ _=>true|_=>false)=true) (X:(P.info? j).map (·.size)=some A.size)
  (N:tmps.getD u undef= .pointer (some ⟨q,0,none⟩)) (I:w.heap[q]? =some (.cells #[v] M (0,0))) (hz:P.underlying z=some (.int k)) (O: ∃n,v= .int k n):
  (results H tmps).run P w= .ok (.tuple #[.agg A,v]) w:=by
 obtain⟨n,rfl⟩:=O
 have V:=run_loadVar_row w g t j A (0,0) d Z Y J X
 have U:(loadVar z ⟨q,0,none⟩).run P w= .ok (.int k n) w:=by
  have hc:w.cell? ⟨q,0,none⟩=some (.int k n):=by simp[World.cell?,I]
  simp[go_sem,isAgg,run_underlying hz,hc]
 have e:(results H tmps).run P w=((asAddr (tmps.getD p undef)).run P w).andThen fun a w₁=>((loadVar j a).run P w₁).andThen fun v w₂=>((asAddr (tmps.getD u undef)).run P w₂).andThen fun b w₃=>((loadVar z b).run P w₃).andThen fun x w₄=>.ok (.tuple #[v,x]) w₄:=by
  simp only[results,h]
  simp[Sem.run_bind,Result.andThen]
 rw[e,L,N]
 simp[asAddr,Result.andThen,V,U]
theorem zgZ {w:World} {b k:Nat} {x0 x1 x2 x3 x4:Value} (h:k≠b):(((((w.setCell ⟨b,0,none⟩ x0).setCell ⟨b,1,none⟩ x1).setCell ⟨b,2,none⟩ x2).setCell ⟨b,3,none⟩ x3).setCell ⟨b,4,none⟩ x4).heap[k]? =w.heap[k]?:=by
 rw[zn h,zn h,zn h,zn h,zn h]
theorem zi8 {w:World} {b:Nat} {u v:Value} {t:TypeId} (h:w.heap[b]? =some (.cells #[v] t (0,0))):(w.setCell ⟨b,0,none⟩ u).heap[b]? =some (.cells #[u] t (0,0)):=(zaz h).trans (by simp)
theorem OwnMod.keepI {w w':World} {j:Nat} {S:Sv} {q:PS} (h:OwnMod w j S q) (z: ∀k,j≤k→w'.heap[k]? =w.heap[k]?):OwnMod w' j S q:=
 ⟨h.rq.keep fun k g=>z k (h.rq.typed g).1,h.im.keep fun k g=>z k (h.im.typed g).1,h.ep.keep fun k g=>z k (h.ep.typed g).1,h.st.keep fun k g=>z k (h.st.typed g).1,h.ex.keep fun k g=>z k (h.ex.typed g).1,h.inv⟩
theorem OwnMod.lowI {w:World} {z j:Nat} {S:Sv} {q:PS} (h:OwnMod w z S q) (A:j≤z):OwnMod w j S q:=⟨h.rq.low A,h.im.low A,h.ep.low A,h.st.low A,h.ex.low A,h.inv⟩
theorem zuy (C:Cx) (H z j A:Nat) (S:Sv) (q:PS) (w:World) (h:IM C H z j A S q w) (J:zbu C):
  Calls Tryz.prog 120 #[.pointer (some ⟨A,0,none⟩)] w (zi2 j A (za1 C q) w):=by
 cases I:C.scr with
 |true=>exact ztE C H z j A S q w h I
 |false=>exact ztF C H z j A S q w h J I
theorem zuz (s:ByteArray) (z:Bool) (w:World) (hs:s.size≤4294967296):
  Calls Tryz.prog 89 #[.string s,.bool z] w fun e w'=>ParseOut s z w e w'∧Below w.heap.size w w':=by
 have ag: ∀(fn:Fn) (first H:Array Value) (w:World),(Instr.makeFunc fn first H).run Tryz.prog w= .ok (.func fn first H) w:=fun _ _ _ _=>rfl
 go_enter_defers Tryz.func89,Tryz.ntmps89
 go_wp2_with fail
 refine (zuu s z _ hs).mono ?_
 rintro e N ⟨⟨r1,M,U⟩,Z⟩
 have j:((w.alloc (.cells #[.slice none 0 0,.slice none 0 0,.slice none 0 0,.slice none 0 0,.slice none 0 0] 36)).alloc (.cells #[.int .i64 0] 3)).heap.size=w.heap.size+1+1:=zcQ w _ _
 have aa:Below w.heap.size w N:=(zbc w _ _).trans (Z.mono (by rw[j];omega))
 have Y:Hid (N.heap[w.heap.size]? =some (.cells #[.slice none 0 0,.slice none 0 0,.slice none 0 0,.slice none 0 0,.slice none 0 0] 36 (0,0))):=(Z.block _ (by rw[j];omega)).trans (zcA (heap_alloc_new w _))
 have V:Hid (N.heap[w.heap.size+1]? =some (.cells #[.int .i64 0] 3 (0,0))):=(Z.block _ (by rw[j];omega)).trans (new2 w _ _)
 have O:w.heap.size+1+1≤N.heap.size:=by have:=Z.size;rw[j] at this;exact this
 rw[j] at Z
 obtain⟨c0,c1,c2,c3,c4,cf⟩:=zg Y.out
 have d0:N.cell? ⟨w.heap.size+1,0,none⟩=some (.int .i64 0):=by simp[World.cell?,V.out]
 have df:N.frozen? ⟨w.heap.size+1,0,none⟩=false:=by simp[World.frozen?,V.out]
 cases r1 with
 |error p=>
  subst U
  have HY:Hid (zbs s z (.error p)):=⟨_,M,rfl⟩
  have dz:decide ((0:Int)≤(p:Int))=true:=decide_eq_true (by omega)
  clear M Z j
  go_wp2
  exact⟨_,zi7 rfl _ _ w.heap.size (w.heap.size+1) 36 3 _ _ _ .i64 rfl ((zn (by omega)).trans (zbN Y.out)) Tryz.underlying36 rfl (by kernel_rfl) rfl (zi8 ((zgZ (by omega)).trans V.out)) Tryz.underlying3 ⟨_,rfl⟩,⟨_,HY.out,rfl⟩,(zcb aa (Nat.le_refl _) ..).setCell (Nat.le_succ _) _⟩
 |ok ts=>
  obtain⟨g,n,H,rfl,J⟩:=U
  obtain rfl:n=ts.length:=J.2
  rw[j] at J
  have ac:=ziY M
  have HR:=zc M
  have HC:Hid (zbu ⟨ts,s.size,z⟩):=zux M hs
  have af:Hid (Mem ⟨ts,s.size,z⟩ g H (w.heap.size+1+1) S0 zbS N):=ziZ J ac O
  clear J M Z j
  go_wp2_with fail
  have ae:IM ⟨ts,s.size,z⟩ g H (w.heap.size+1+1) N.heap.size S0 zbS (N.alloc (.cells #[.slice (some ⟨g,0,none⟩) ts.length H,.int .i64 0,.int .i64 s.size,.bool z,.slice none 0 0,.slice none 0 0,.slice none 0 0,.slice none 0 0,.slice none 0 0,.slice none 0 0] 160)):=⟨af.out.alloc _,heap_alloc_new N _,O⟩
  have L:Below (w.heap.size+1+1) N (N.alloc (.cells #[.slice (some ⟨g,0,none⟩) ts.length H,.int .i64 0,.int .i64 s.size,.bool z,.slice none 0 0,.slice none 0 0,.slice none 0 0,.slice none 0 0,.slice none 0 0,.slice none 0 0] 160)):=(Below.refl _ _).alloc O _
  refine (zuy _ g H _ _ S0 zbS _ ae HC.out).mono ?_
  cases hp:za1 ⟨ts,s.size,z⟩ zbS with
  |error p=>
   rintro e w2 ⟨rfl,X⟩
   have HY:Hid (zbs s z (.error p)):=⟨_,HR.out,hp.symm⟩
   have ab:=aa.trans ((L.trans X).mono (by omega))
   have I:Hid (w2.heap[w.heap.size]? =some (.cells #[.slice none 0 0,.slice none 0 0,.slice none 0 0,.slice none 0 0,.slice none 0 0] 36 (0,0))):=((L.trans X).block _ (by omega)).trans Y.out
   have A:Hid (w2.heap[w.heap.size+1]? =some (.cells #[.int .i64 0] 3 (0,0))):=((L.trans X).block _ (by omega)).trans V.out
   clear X
   unfold Pan
   go_wp2
   refine leaves_cons (f:=119) (args:=#[.pointer (some ⟨w.heap.size,0,none⟩),.pointer (some ⟨w.heap.size+1,0,none⟩)]) (by simp) (by simp[go_sem]) ?_
   refine (ztJ w.heap.size (w.heap.size+1) p _ _ _ _ _ _ _ I.out A.out (by omega)).mono ?_
   rintro e u' w3 ⟨rfl,rfl,rfl⟩
   exact⟨_,zi7 rfl _ _ w.heap.size (w.heap.size+1) 36 3 _ _ _ .i64 rfl ((zn (by omega)).trans (zbN I.out)) Tryz.underlying36 rfl (by kernel_rfl) rfl (zi8 ((zgZ (by omega)).trans A.out)) Tryz.underlying3 ⟨_,rfl⟩,⟨_,HY.out,rfl⟩,(zcb ab (Nat.le_refl _) ..).setCell (Nat.le_succ _) _⟩
  |ok q=>
   rintro e w2 ⟨rfl,S2,om,⟨v0,v1,v2,v3,v9,ad⟩,X⟩
   have HY:Hid (zbs s z (.ok q)):=⟨_,HR.out,hp.symm⟩
   have ab:=aa.trans ((L.trans X).mono (by omega))
   have I:Hid (w2.heap[w.heap.size]? =some (.cells #[.slice none 0 0,.slice none 0 0,.slice none 0 0,.slice none 0 0,.slice none 0 0] 36 (0,0))):=((L.trans X).block _ (by omega)).trans Y.out
   have A:Hid (w2.heap[w.heap.size+1]? =some (.cells #[.int .i64 0] 3 (0,0))):=((L.trans X).block _ (by omega)).trans V.out
   have HO:=zc om
   clear X om c0 c1 c2 c3 c4 cf d0 df
   obtain⟨b0,Z,b2,b3,b4,b5,b6,b7,b8,b9,bf⟩:=zag ad
   clear ad
   obtain⟨c0,c1,c2,c3,c4,cf⟩:=zg I.out
   have d0:w2.cell? ⟨w.heap.size+1,0,none⟩=some (.int .i64 0):=by simp[World.cell?,A.out]
   have df:w2.frozen? ⟨w.heap.size+1,0,none⟩=false:=by simp[World.frozen?,A.out]
   go_wp2
   refine leaves_cons (f:=119) (args:=#[.pointer (some ⟨w.heap.size,0,none⟩),.pointer (some ⟨w.heap.size+1,0,none⟩)]) (by simp) (by simp[go_sem]) ?_
   refine (ztI w.heap.size (w.heap.size+1) _).mono ?_
   rintro e u' w3 ⟨rfl,rfl,rfl⟩
   refine⟨_,zi7 rfl _ _ w.heap.size (w.heap.size+1) 36 3 _ _ _ .i64 rfl ((zn (by omega)).trans (zbN I.out)) Tryz.underlying36 rfl (by kernel_rfl) rfl (zi8 ((zgZ (by omega)).trans A.out)) Tryz.underlying3 ⟨_,rfl⟩,⟨_,HY.out,S2,by simp[zgg],?_⟩,(zcb ab (Nat.le_refl _) ..).setCell (Nat.le_succ _) _⟩
   exact (HO.out.keepI fun k hk=>(zn (by omega)).trans (zgZ (by omega))).lowI (by omega)
end Go.Proofs.YtjdddblpfbmpaaaGreat