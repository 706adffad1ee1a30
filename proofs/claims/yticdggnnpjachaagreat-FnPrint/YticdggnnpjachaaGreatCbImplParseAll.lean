/-
 What impl.Parse answers: the walk.
-/
import Derived.Test.YticdggnnpjachaaGreatCbImplParseYToImplProgM
import Derived.Test.YticdggnnpjachaaGreatCbImplCatch
import Derived.Test.YticdggnnpjachaaGreatCbImplLex
namespace Go.Proofs.YticdggnnpjachaaGreat
set_option maxRecDepth 100000
set_option maxHeartbeats 3200000
open Go.RowKit Go.PlainAid Go.Sort
theorem zhq (s:ByteArray) (a b:Nat):(s.extract a b).size≤s.size:=by
 rw[ByteArray.size_extract]
 omega
theorem zrn {s:ByteArray} {j:Bool} {a e:Nat} {t:Tk} (h:Tok s j a t e):t.text.size≤s.size:=by
 cases h using Tok.elim with
 |name h n=>exact zhq _ _ _
 |num h n=>exact Nat.zero_le _
 |str h n=>exact zhq _ _ _
 |sign h=>exact zhq _ _ _
theorem zro {s:ByteArray} {A:Bool} {a n:Nat} {r:Except Nat (List Tk)} (h:Lx s A a n r): ∀o,r= .ok o→∀t∈o,t.text.size≤s.size:=by
 induction h using Lx.ind with
 |done=>intro o q;cases q;intro t D;cases D
 |bad _ _=>intro o q;cases q
 | @tok a n e b t r h I D H q E=>
  intro o j
  cases r with
  |error p=>simp[Except.map] at j
  |ok l=>
   simp only[Except.map,Except.ok.injEq] at j
   subst j
   intro x z
   rcases List.mem_cons.1 z with rfl|z
   ·exact zrn D
   ·exact E l rfl x z
theorem zrp {s:ByteArray} {n:Bool} {j:List Tk} (h:zae s n (.ok j)) (z:s.size≤4294967296):zbf ⟨j,s.size,n⟩:=by
 obtain⟨a,_,q⟩:=h
 intro i
 by_cases o:i<j.length
 ·have:ze ⟨j,s.size,n⟩ i∈j:=by
   rw[ze,List.getD,List.getElem?_eq_getElem o]
   exact List.getElem_mem o
  have:=zro q j rfl _ this
  omega
 ·rw[zdl (by show j.length≤i;omega)]
  exact Nat.zero_le _
theorem zhr {P:Program} {A:Func} {p u:Tmp} {j z:TypeId} (h:A.results= #[.cell p j,.cell u z]) (tmps:Array Value) (w:World) (g o:Nat) (t E:TypeId) (q:Array Value) (v:Value) (d:TypeDesc) (k:IntKind)
  (V:tmps.getD p undef= .pointer (some ⟨g,0,none⟩)) (O:w.heap[g]? =some (.cells q t (0,0)))
  (N:P.underlying j=some d) (M:(match d with| .struct _| .array _ _=>true|_=>false)=true) (H:(P.info? j).map (·.size)=some q.size)
  (L:tmps.getD u undef= .pointer (some ⟨o,0,none⟩)) (D:w.heap[o]? =some (.cells #[v] E (0,0))) (K:P.underlying z=some (.int k)) (U: ∃n,v= .int k n):
  (results A tmps).run P w= .ok (.tuple #[.agg q,v]) w:=by
 obtain⟨n,rfl⟩:=U
 have Q:=run_loadVar_row w g t j q (0,0) d O N M H
 have J:(loadVar z ⟨o,0,none⟩).run P w= .ok (.int k n) w:=by
  have I:w.cell? ⟨o,0,none⟩=some (.int k n):=by simp[World.cell?,D]
  simp[go_sem,isAgg,run_underlying K,I]
 have e:(results A tmps).run P w=((asAddr (tmps.getD p undef)).run P w).andThen fun a w₁=>((loadVar j a).run P w₁).andThen fun v w₂=>((asAddr (tmps.getD u undef)).run P w₂).andThen fun b w₃=>((loadVar z b).run P w₃).andThen fun x w₄=>.ok (.tuple #[v,x]) w₄:=by
  simp only[results,h]
  simp[Sem.run_bind,Result.andThen]
 rw[e,V,L]
 simp[asAddr,Result.andThen,Q,J]
theorem zfQ {w:World} {b k:Nat} {z o j q n:Value} (h:k≠b):(((((w.setCell ⟨b,0,none⟩ z).setCell ⟨b,1,none⟩ o).setCell ⟨b,2,none⟩ j).setCell ⟨b,3,none⟩ q).setCell ⟨b,4,none⟩ n).heap[k]? =w.heap[k]?:=by
 rw[zi h,zi h,zi h,zi h,zi h]
theorem zhs {w:World} {b:Nat} {u v:Value} {t:TypeId} (h:w.heap[b]? =some (.cells #[v] t (0,0))):(w.setCell ⟨b,0,none⟩ u).heap[b]? =some (.cells #[u] t (0,0)):=(za9 h).trans (by simp)
theorem OwnMod.keepI {w o:World} {j:Nat} {S:Sv} {q:PS} (h:OwnMod w j S q) (n: ∀k,j≤k→o.heap[k]? =w.heap[k]?):OwnMod o j S q:=
 ⟨h.rq.keep fun k g=>n k (h.rq.typed g).1,h.im.keep fun k g=>n k (h.im.typed g).1,h.ep.keep fun k g=>n k (h.ep.typed g).1,h.st.keep fun k g=>n k (h.st.typed g).1,h.ex.keep fun k g=>n k (h.ex.typed g).1,h.inv⟩
theorem OwnMod.lowI {w:World} {n j:Nat} {S:Sv} {q:PS} (h:OwnMod w n S q) (o:j≤n):OwnMod w j S q:=⟨h.rq.low o,h.im.low o,h.ep.low o,h.st.low o,h.ex.low o,h.inv⟩
theorem zrq (C:Cx) (z n j o:Nat) (S:Sv) (q:PS) (w:World) (h:IM C z n j o S q w) (D:zbf C):
  Calls Tryz.prog 24 #[.pointer (some ⟨o,0,none⟩)] w (zhm j o (zas C q) w):=by
 cases A:C.scr with
 |true=>exact zq6 C z n j o S q w h A
 |false=>exact zq7 C z n j o S q w h D A
theorem zkj (s:ByteArray) (o:Bool) (w:World) (hs:s.size≤4294967296):
  Calls Tryz.prog 7 #[.string s,.bool o] w fun e w'=>ParseOut s o w e w'∧Below w.heap.size w w':=by
 have ae: ∀(fn:Fn) (first A:Array Value) (w:World),(Instr.makeFunc fn first A).run Tryz.prog w= .ok (.func fn first A) w:=fun _ _ _ _=>rfl
 go_enter_defers Tryz.func7,Tryz.ntmps7
 go_wp2_with fail
 refine (zrm s o _ hs).mono ?_
 rintro e J ⟨⟨r1,H,K⟩,U⟩
 have j:((w.alloc (.cells #[.slice none 0 0,.slice none 0 0,.slice none 0 0,.slice none 0 0,.slice none 0 0] 28)).alloc (.cells #[.int .i64 0] 3)).heap.size=w.heap.size+1+1:=zc1 w _ _
 have Y:Hid (Below w.heap.size w J):=(zaT w _ _).trans (U.mono (by rw[j];omega))
 have N:Hid (J.heap[w.heap.size]? =some (.cells #[.slice none 0 0,.slice none 0 0,.slice none 0 0,.slice none 0 0,.slice none 0 0] 28 (0,0))):=(U.block _ (by rw[j];omega)).trans (zck (heap_alloc_new w _))
 have L:Hid (J.heap[w.heap.size+1]? =some (.cells #[.int .i64 0] 3 (0,0))):=(U.block _ (by rw[j];omega)).trans (zbq w _ _)
 have M:w.heap.size+1+1≤J.heap.size:=by have:=U.size;rw[j] at this;exact this
 rw[j] at U
 obtain⟨c0,c1,c2,c3,c4,cf⟩:=zl N.out
 have d0:J.cell? ⟨w.heap.size+1,0,none⟩=some (.int .i64 0):=by simp[World.cell?,L.out]
 have df:J.frozen? ⟨w.heap.size+1,0,none⟩=false:=by simp[World.frozen?,L.out]
 cases r1 with
 |error p=>
  subst K
  have Z:Hid (zb7 s o (.error p)):=⟨_,H,rfl⟩
  have dz:decide ((0:Int)≤(p:Int))=true:=decide_eq_true (by omega)
  clear H U j
  go_wp2
  exact⟨_,zhr rfl _ _ w.heap.size (w.heap.size+1) 28 3 _ _ _ .i64 rfl ((zi (by omega)).trans (zcZ N.out)) Tryz.underlying28 rfl (by kernel_rfl) rfl (zhs ((zfQ (by omega)).trans L.out)) Tryz.underlying3 ⟨_,rfl⟩,⟨_,Z.out,rfl⟩,(zd1 Y.out (Nat.le_refl _) ..).setCell (Nat.le_succ _) _⟩
 |ok X=>
  obtain⟨g,n,A,rfl,E⟩:=K
  obtain rfl:n=X.length:=E.2
  rw[j] at E
  have aa:=zhN H
  have HR:=zc H
  have HC:Hid (zbf ⟨X,s.size,o⟩):=zrp H hs
  have ad:Hid (Mem ⟨X,s.size,o⟩ g A (w.heap.size+1+1) S0 zbC J):=zhO E aa M
  clear E H U j
  go_wp2_with fail
  have ac:Hid (IM ⟨X,s.size,o⟩ g A (w.heap.size+1+1) J.heap.size S0 zbC (J.alloc (.cells #[.slice (some ⟨g,0,none⟩) X.length A,.int .i64 0,.int .i64 s.size,.bool o,.slice none 0 0,.slice none 0 0,.slice none 0 0,.slice none 0 0,.slice none 0 0,.slice none 0 0] 59))):=⟨ad.out.alloc _,heap_alloc_new J _,M⟩
  have I:Hid (Below (w.heap.size+1+1) J (J.alloc (.cells #[.slice (some ⟨g,0,none⟩) X.length A,.int .i64 0,.int .i64 s.size,.bool o,.slice none 0 0,.slice none 0 0,.slice none 0 0,.slice none 0 0,.slice none 0 0,.slice none 0 0] 59))):=(Below.refl _ _).alloc M _
  refine (zrq _ g A _ _ S0 zbC _ ac.out HC.out).mono ?_
  cases hp:zas ⟨X,s.size,o⟩ zbC with
  |error p=>
   rintro e Q ⟨rfl,O⟩
   have Z:Hid (zb7 s o (.error p)):=⟨_,HR.out,hp.symm⟩
   have V:Hid (Below w.heap.size w Q):=Y.out.trans ((I.out.trans O).mono (by omega))
   have D:Hid (Q.heap[w.heap.size]? =some (.cells #[.slice none 0 0,.slice none 0 0,.slice none 0 0,.slice none 0 0,.slice none 0 0] 28 (0,0))):=((I.out.trans O).block _ (by omega)).trans N.out
   have z:Hid (Q.heap[w.heap.size+1]? =some (.cells #[.int .i64 0] 3 (0,0))):=((I.out.trans O).block _ (by omega)).trans L.out
   clear O
   unfold Pan
   go_wp2
   refine leaves_cons (f:=23) (args:=#[.pointer (some ⟨w.heap.size,0,none⟩),.pointer (some ⟨w.heap.size+1,0,none⟩)]) (by simp) (by simp[go_sem]) ?_
   refine (zqB w.heap.size (w.heap.size+1) p _ _ _ _ _ _ _ D.out z.out (by omega)).mono ?_
   rintro e u' w3 ⟨rfl,rfl,rfl⟩
   exact⟨_,zhr rfl _ _ w.heap.size (w.heap.size+1) 28 3 _ _ _ .i64 rfl ((zi (by omega)).trans (zcZ D.out)) Tryz.underlying28 rfl (by kernel_rfl) rfl (zhs ((zfQ (by omega)).trans z.out)) Tryz.underlying3 ⟨_,rfl⟩,⟨_,Z.out,rfl⟩,(zd1 V.out (Nat.le_refl _) ..).setCell (Nat.le_succ _) _⟩
  |ok q=>
   rintro e Q ⟨rfl,S2,om,⟨v0,v1,v2,v3,v9,ab⟩,O⟩
   have Z:Hid (zb7 s o (.ok q)):=⟨_,HR.out,hp.symm⟩
   have V:Hid (Below w.heap.size w Q):=Y.out.trans ((I.out.trans O).mono (by omega))
   have D:Hid (Q.heap[w.heap.size]? =some (.cells #[.slice none 0 0,.slice none 0 0,.slice none 0 0,.slice none 0 0,.slice none 0 0] 28 (0,0))):=((I.out.trans O).block _ (by omega)).trans N.out
   have z:Hid (Q.heap[w.heap.size+1]? =some (.cells #[.int .i64 0] 3 (0,0))):=((I.out.trans O).block _ (by omega)).trans L.out
   have HO:=zc om
   clear O om c0 c1 c2 c3 c4 cf d0 df
   obtain⟨b0,U,b2,b3,b4,b5,b6,b7,b8,b9,bf⟩:=zac ab
   clear ab
   obtain⟨c0,c1,c2,c3,c4,cf⟩:=zl D.out
   have d0:Q.cell? ⟨w.heap.size+1,0,none⟩=some (.int .i64 0):=by simp[World.cell?,z.out]
   have df:Q.frozen? ⟨w.heap.size+1,0,none⟩=false:=by simp[World.frozen?,z.out]
   go_wp2
   refine leaves_cons (f:=23) (args:=#[.pointer (some ⟨w.heap.size,0,none⟩),.pointer (some ⟨w.heap.size+1,0,none⟩)]) (by simp) (by simp[go_sem]) ?_
   refine (zqA w.heap.size (w.heap.size+1) _).mono ?_
   rintro e u' w3 ⟨rfl,rfl,rfl⟩
   refine⟨_,zhr rfl _ _ w.heap.size (w.heap.size+1) 28 3 _ _ _ .i64 rfl ((zi (by omega)).trans (zcZ D.out)) Tryz.underlying28 rfl (by kernel_rfl) rfl (zhs ((zfQ (by omega)).trans z.out)) Tryz.underlying3 ⟨_,rfl⟩,⟨_,Z.out,S2,by simp[zfv],?_⟩,(zd1 V.out (Nat.le_refl _) ..).setCell (Nat.le_succ _) _⟩
   exact (HO.out.keepI fun k hk=>(zi (by omega)).trans (zfQ (by omega))).lowI (by omega)
end Go.Proofs.YticdggnnpjachaaGreat