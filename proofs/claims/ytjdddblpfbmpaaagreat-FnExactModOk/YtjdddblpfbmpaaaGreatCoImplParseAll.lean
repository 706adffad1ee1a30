/-
 What impl.Parse answers: the walk.
-/
import Derived.Test.YtjdddblpfbmpaaaGreatCoImplParseYToImplProgM
import Derived.Test.YtjdddblpfbmpaaaGreatCoImplCatch
import Derived.Test.YtjdddblpfbmpaaaGreatCoImplLex
namespace Go.Proofs.YtjdddblpfbmpaaaGreat
set_option maxRecDepth 100000
set_option maxHeartbeats 3200000
open Go.RowKit Go.PlainAid Go.Sort
theorem zgp (s:ByteArray) (a b:Nat):(s.extract a b).size≤s.size:=by
 rw[ByteArray.size_extract]
 omega
theorem zo4 {s:ByteArray} {j:Bool} {a e:Nat} {t:Tk} (h:Tok s j a t e):t.text.size≤s.size:=by
 cases h using Tok.elim with
 |name h n=>exact zgp _ _ _
 |num h n=>exact Nat.zero_le _
 |str h n=>exact zgp _ _ _
 |sign h=>exact zgp _ _ _
theorem zo5 {s:ByteArray} {z:Bool} {a n:Nat} {r:Except Nat (List Tk)} (h:Lx s z a n r): ∀q,r= .ok q→∀t∈q,t.text.size≤s.size:=by
 induction h using Lx.ind with
 |done=>intro q w;cases w;intro t A;cases A
 |bad _ _=>intro q w;cases w
 | @tok a n e b t r h I A H w E=>
  intro q j
  cases r with
  |error p=>simp[Except.map] at j
  |ok l=>
   simp only[Except.map,Except.ok.injEq] at j
   subst j
   intro x D
   rcases List.mem_cons.1 D with rfl|D
   ·exact zo4 A
   ·exact E l rfl x D
theorem zo6 {s:ByteArray} {n:Bool} {j:List Tk} (h:zaa s n (.ok j)) (z:s.size≤4294967296):zaT ⟨j,s.size,n⟩:=by
 obtain⟨a,_,w⟩:=h
 intro i
 by_cases q:i<j.length
 ·have:ze ⟨j,s.size,n⟩ i∈j:=by
   rw[ze,List.getD,List.getElem?_eq_getElem q]
   exact List.getElem_mem q
  have:=zo5 w j rfl _ this
  omega
 ·rw[zcZ (by show j.length≤i;omega)]
  exact Nat.zero_le _
theorem zgq {P:Program} {D:Func} {p u:Tmp} {j z:TypeId} (h:D.results= #[.cell p j,.cell u z]) (tmps:Array Value) (w:World) (g q:Nat) (t J:TypeId) (A:Array Value) (v:Value) (d:TypeDesc) (k:IntKind)
  (I:tmps.getD p undef= .pointer (some ⟨g,0,none⟩)) (V:w.heap[g]? =some (.cells A t (0,0)))
  (U:P.underlying j=some d) (H:(match d with| .struct _| .array _ _=>true|_=>false)=true) (O:(P.info? j).map (·.size)=some A.size)
  (K:tmps.getD u undef= .pointer (some ⟨q,0,none⟩)) (E:w.heap[q]? =some (.cells #[v] J (0,0))) (Y:P.underlying z=some (.int k)) (L: ∃n,v= .int k n):
  (results D tmps).run P w= .ok (.tuple #[.agg A,v]) w:=by
 obtain⟨n,rfl⟩:=L
 have N:=run_loadVar_row w g t j A (0,0) d V U H O
 have M:(loadVar z ⟨q,0,none⟩).run P w= .ok (.int k n) w:=by
  have X:w.cell? ⟨q,0,none⟩=some (.int k n):=by simp[World.cell?,E]
  simp[go_sem,isAgg,run_underlying Y,X]
 have e:(results D tmps).run P w=((asAddr (tmps.getD p undef)).run P w).andThen fun a w₁=>((loadVar j a).run P w₁).andThen fun v w₂=>((asAddr (tmps.getD u undef)).run P w₂).andThen fun b w₃=>((loadVar z b).run P w₃).andThen fun x w₄=>.ok (.tuple #[v,x]) w₄:=by
  simp only[results,h]
  simp[Sem.run_bind,Result.andThen]
 rw[e,I,K]
 simp[asAddr,Result.andThen,N,M]
theorem zft {w:World} {b k:Nat} {j q A z n:Value} (h:k≠b):(((((w.setCell ⟨b,0,none⟩ j).setCell ⟨b,1,none⟩ q).setCell ⟨b,2,none⟩ A).setCell ⟨b,3,none⟩ z).setCell ⟨b,4,none⟩ n).heap[k]? =w.heap[k]?:=by
 rw[zt h,zt h,zt h,zt h,zt h]
theorem zgr {w:World} {b:Nat} {u v:Value} {t:TypeId} (h:w.heap[b]? =some (.cells #[v] t (0,0))):(w.setCell ⟨b,0,none⟩ u).heap[b]? =some (.cells #[u] t (0,0)):=(zag h).trans (by simp)
theorem OwnMod.keepI {w z:World} {j:Nat} {S:Sv} {q:PS} (h:OwnMod w j S q) (n: ∀k,j≤k→z.heap[k]? =w.heap[k]?):OwnMod z j S q:=
 ⟨h.rq.keep fun k g=>n k (h.rq.typed g).1,h.im.keep fun k g=>n k (h.im.typed g).1,h.ep.keep fun k g=>n k (h.ep.typed g).1,h.st.keep fun k g=>n k (h.st.typed g).1,h.ex.keep fun k g=>n k (h.ex.typed g).1,h.inv⟩
theorem OwnMod.lowI {w:World} {n j:Nat} {S:Sv} {q:PS} (h:OwnMod w n S q) (z:j≤n):OwnMod w j S q:=⟨h.rq.low z,h.im.low z,h.ep.low z,h.st.low z,h.ex.low z,h.inv⟩
theorem zo7 (C:Cx) (A n j z:Nat) (S:Sv) (q:PS) (w:World) (h:IM C A n j z S q w) (E:zaT C):
  Calls Tryz.prog 120 #[.pointer (some ⟨z,0,none⟩)] w (zgl j z (zap C q) w):=by
 cases D:C.scr with
 |true=>exact znN C A n j z S q w h D
 |false=>exact znO C A n j z S q w h E D
theorem zo8 (s:ByteArray) (j:Bool) (w:World) (hs:s.size≤4294967296):
  Calls Tryz.prog 89 #[.string s,.bool j] w fun e w'=>ParseOut s j w e w'∧Below w.heap.size w w':=by
 have ae: ∀(fn:Fn) (first A:Array Value) (w:World),(Instr.makeFunc fn first A).run Tryz.prog w= .ok (.func fn first A) w:=fun _ _ _ _=>rfl
 go_enter_defers Tryz.func89,Tryz.ntmps89
 go_wp2_with fail
 refine (zo3 s j _ hs).mono ?_
 rintro e J ⟨⟨r1,I,L⟩,U⟩
 have h:((w.alloc (.cells #[.slice none 0 0,.slice none 0 0,.slice none 0 0,.slice none 0 0,.slice none 0 0] 36)).alloc (.cells #[.int .i64 0] 3)).heap.size=w.heap.size+1+1:=zcm w _ _
 have V:Below w.heap.size w J:=(zaJ w _ _).trans (U.mono (by rw[h];omega))
 have O:Hid (J.heap[w.heap.size]? =some (.cells #[.slice none 0 0,.slice none 0 0,.slice none 0 0,.slice none 0 0,.slice none 0 0] 36 (0,0))):=(U.block _ (by rw[h];omega)).trans (zca (heap_alloc_new w _))
 have M:Hid (J.heap[w.heap.size+1]? =some (.cells #[.int .i64 0] 3 (0,0))):=(U.block _ (by rw[h];omega)).trans (new2 w _ _)
 have K:w.heap.size+1+1≤J.heap.size:=by have:=U.size;rw[h] at this;exact this
 rw[h] at U
 obtain⟨c0,c1,c2,c3,c4,cf⟩:=zi O.out
 have d0:J.cell? ⟨w.heap.size+1,0,none⟩=some (.int .i64 0):=by simp[World.cell?,M.out]
 have df:J.frozen? ⟨w.heap.size+1,0,none⟩=false:=by simp[World.frozen?,M.out]
 cases r1 with
 |error p=>
  subst L
  have HY:Hid (zb1 s j (.error p)):=⟨_,I,rfl⟩
  have dz:decide ((0:Int)≤(p:Int))=true:=decide_eq_true (by omega)
  clear I U h
  go_wp2
  exact⟨_,zgq rfl _ _ w.heap.size (w.heap.size+1) 36 3 _ _ _ .i64 rfl ((zt (by omega)).trans (zcJ O.out)) Tryz.underlying36 rfl (by kernel_rfl) rfl (zgr ((zft (by omega)).trans M.out)) Tryz.underlying3 ⟨_,rfl⟩,⟨_,HY.out,rfl⟩,(zcS V (Nat.le_refl _) ..).setCell (Nat.le_succ _) _⟩
 |ok Y=>
  obtain⟨g,n,A,rfl,E⟩:=L
  obtain rfl:n=Y.length:=E.2
  rw[h] at E
  have aa:=zgS I
  have HR:=zc I
  have HC:Hid (zaT ⟨Y,s.size,j⟩):=zo6 I hs
  have ad:Hid (Mem ⟨Y,s.size,j⟩ g A (w.heap.size+1+1) S0 zb0 J):=zgT E aa K
  clear E I U h
  go_wp2_with fail
  have ac:IM ⟨Y,s.size,j⟩ g A (w.heap.size+1+1) J.heap.size S0 zb0 (J.alloc (.cells #[.slice (some ⟨g,0,none⟩) Y.length A,.int .i64 0,.int .i64 s.size,.bool j,.slice none 0 0,.slice none 0 0,.slice none 0 0,.slice none 0 0,.slice none 0 0,.slice none 0 0] 160)):=⟨ad.out.alloc _,heap_alloc_new J _,K⟩
  have H:Below (w.heap.size+1+1) J (J.alloc (.cells #[.slice (some ⟨g,0,none⟩) Y.length A,.int .i64 0,.int .i64 s.size,.bool j,.slice none 0 0,.slice none 0 0,.slice none 0 0,.slice none 0 0,.slice none 0 0,.slice none 0 0] 160)):=(Below.refl _ _).alloc K _
  refine (zo7 _ g A _ _ S0 zb0 _ ac HC.out).mono ?_
  cases hp:zap ⟨Y,s.size,j⟩ zb0 with
  |error p=>
   rintro e Z ⟨rfl,N⟩
   have HY:Hid (zb1 s j (.error p)):=⟨_,HR.out,hp.symm⟩
   have X:=V.trans ((H.trans N).mono (by omega))
   have D:Hid (Z.heap[w.heap.size]? =some (.cells #[.slice none 0 0,.slice none 0 0,.slice none 0 0,.slice none 0 0,.slice none 0 0] 36 (0,0))):=((H.trans N).block _ (by omega)).trans O.out
   have z:Hid (Z.heap[w.heap.size+1]? =some (.cells #[.int .i64 0] 3 (0,0))):=((H.trans N).block _ (by omega)).trans M.out
   clear N
   unfold Pan
   go_wp2
   refine leaves_cons (f:=119) (args:=#[.pointer (some ⟨w.heap.size,0,none⟩),.pointer (some ⟨w.heap.size+1,0,none⟩)]) (by simp) (by simp[go_sem]) ?_
   refine (znS w.heap.size (w.heap.size+1) p _ _ _ _ _ _ _ D.out z.out (by omega)).mono ?_
   rintro e u' w3 ⟨rfl,rfl,rfl⟩
   exact⟨_,zgq rfl _ _ w.heap.size (w.heap.size+1) 36 3 _ _ _ .i64 rfl ((zt (by omega)).trans (zcJ D.out)) Tryz.underlying36 rfl (by kernel_rfl) rfl (zgr ((zft (by omega)).trans z.out)) Tryz.underlying3 ⟨_,rfl⟩,⟨_,HY.out,rfl⟩,(zcS X (Nat.le_refl _) ..).setCell (Nat.le_succ _) _⟩
  |ok q=>
   rintro e Z ⟨rfl,S2,om,⟨v0,v1,v2,v3,v9,ab⟩,N⟩
   have HY:Hid (zb1 s j (.ok q)):=⟨_,HR.out,hp.symm⟩
   have X:=V.trans ((H.trans N).mono (by omega))
   have D:Hid (Z.heap[w.heap.size]? =some (.cells #[.slice none 0 0,.slice none 0 0,.slice none 0 0,.slice none 0 0,.slice none 0 0] 36 (0,0))):=((H.trans N).block _ (by omega)).trans O.out
   have z:Hid (Z.heap[w.heap.size+1]? =some (.cells #[.int .i64 0] 3 (0,0))):=((H.trans N).block _ (by omega)).trans M.out
   have HO:=zc om
   clear N om c0 c1 c2 c3 c4 cf d0 df
   obtain⟨b0,U,b2,b3,b4,b5,b6,b7,b8,b9,bf⟩:=zY ab
   clear ab
   obtain⟨c0,c1,c2,c3,c4,cf⟩:=zi D.out
   have d0:Z.cell? ⟨w.heap.size+1,0,none⟩=some (.int .i64 0):=by simp[World.cell?,z.out]
   have df:Z.frozen? ⟨w.heap.size+1,0,none⟩=false:=by simp[World.frozen?,z.out]
   go_wp2
   refine leaves_cons (f:=119) (args:=#[.pointer (some ⟨w.heap.size,0,none⟩),.pointer (some ⟨w.heap.size+1,0,none⟩)]) (by simp) (by simp[go_sem]) ?_
   refine (znR w.heap.size (w.heap.size+1) _).mono ?_
   rintro e u' w3 ⟨rfl,rfl,rfl⟩
   refine⟨_,zgq rfl _ _ w.heap.size (w.heap.size+1) 36 3 _ _ _ .i64 rfl ((zt (by omega)).trans (zcJ D.out)) Tryz.underlying36 rfl (by kernel_rfl) rfl (zgr ((zft (by omega)).trans z.out)) Tryz.underlying3 ⟨_,rfl⟩,⟨_,HY.out,S2,by simp[zeO],?_⟩,(zcS X (Nat.le_refl _) ..).setCell (Nat.le_succ _) _⟩
   exact (HO.out.keepI fun k hk=>(zt (by omega)).trans (zft (by omega))).lowI (by omega)
end Go.Proofs.YtjdddblpfbmpaaaGreat