/-
 What impl.Parse answers: the walk.
-/
import Derived.Test.YticdggnnpjachaaGreatCbImplParseYToImplProgM
import Derived.Test.YticdggnnpjachaaGreatCbImplCatch
import Derived.Test.YticdggnnpjachaaGreatCbImplLex
namespace Go.Proofs.YticdggnnpjachaaGreat
set_option maxRecDepth 100000
set_option maxHeartbeats 3200000
open Go.RowKit Go.PlainAid Go.Sort
theorem zhq (s:ByteArray) (a b:Nat):(s.extract a b).size≤s.size:=by
 rw[ByteArray.size_extract]
 omega
theorem zrn {s:ByteArray} {j:Bool} {a e:Nat} {t:Tk} (h:Tok s j a t e):t.text.size≤s.size:=by
 cases h using Tok.elim with
 |name h n=>exact zhq _ _ _
 |num h n=>exact Nat.zero_le _
 |str h n=>exact zhq _ _ _
 |sign h=>exact zhq _ _ _
theorem zro {s:ByteArray} {A:Bool} {a n:Nat} {r:Except Nat (List Tk)} (h:Lx s A a n r): ∀o,r= .ok o→∀t∈o,t.text.size≤s.size:=by
 induction h using Lx.ind with
 |done=>intro o q;cases q;intro t D;cases D
 |bad _ _=>intro o q;cases q
 | @tok a n e b t r h H D I q E=>
  intro o j
  cases r with
  |error p=>simp[Except.map] at j
  |ok l=>
   simp only[Except.map,Except.ok.injEq] at j
   subst j
   intro x z
   rcases List.mem_cons.1 z with rfl|z
   ·exact zrn D
   ·exact E l rfl x z
theorem zrp {s:ByteArray} {j:Bool} {n:List Tk} (h:zae s j (.ok n)) (z:s.size≤4294967296):zbf ⟨n,s.size,j⟩:=by
 obtain⟨a,_,q⟩:=h
 intro i
 by_cases o:i<n.length
 ·have:ze ⟨n,s.size,j⟩ i∈n:=by
   rw[ze,List.getD,List.getElem?_eq_getElem o]
   exact List.getElem_mem o
  have:=zro q n rfl _ this
  omega
 ·rw[zdl (by show n.length≤i;omega)]
  exact Nat.zero_le _
theorem zhr {P:Program} {D:Func} {p u:Tmp} {j o:TypeId} (h:D.results= #[.cell p j,.cell u o]) (tmps:Array Value) (w:World) (g q:Nat) (t K:TypeId) (z:Array Value) (v:Value) (d:TypeDesc) (k:IntKind)
  (Q:tmps.getD p undef= .pointer (some ⟨g,0,none⟩)) (E:w.heap[g]? =some (.cells z t (0,0)))
  (V:P.underlying j=some d) (O:(match d with| .struct _| .array _ _=>true|_=>false)=true) (J:(P.info? j).map (·.size)=some z.size)
  (I:tmps.getD u undef= .pointer (some ⟨q,0,none⟩)) (A:w.heap[q]? =some (.cells #[v] K (0,0))) (M:P.underlying o=some (.int k)) (N: ∃n,v= .int k n):
  (results D tmps).run P w= .ok (.tuple #[.agg z,v]) w:=by
 obtain⟨n,rfl⟩:=N
 have L:=run_loadVar_row w g t j z (0,0) d E V O J
 have H:(loadVar o ⟨q,0,none⟩).run P w= .ok (.int k n) w:=by
  have U:w.cell? ⟨q,0,none⟩=some (.int k n):=by simp[World.cell?,A]
  simp[go_sem,isAgg,run_underlying M,U]
 have e:(results D tmps).run P w=((asAddr (tmps.getD p undef)).run P w).andThen fun a w₁=>((loadVar j a).run P w₁).andThen fun v w₂=>((asAddr (tmps.getD u undef)).run P w₂).andThen fun b w₃=>((loadVar o b).run P w₃).andThen fun x w₄=>.ok (.tuple #[v,x]) w₄:=by
  simp only[results,h]
  simp[Sem.run_bind,Result.andThen]
 rw[e,Q,I]
 simp[asAddr,Result.andThen,L,H]
theorem zfQ {w:World} {b k:Nat} {n q j z o:Value} (h:k≠b):(((((w.setCell ⟨b,0,none⟩ n).setCell ⟨b,1,none⟩ q).setCell ⟨b,2,none⟩ j).setCell ⟨b,3,none⟩ z).setCell ⟨b,4,none⟩ o).heap[k]? =w.heap[k]?:=by
 rw[zi h,zi h,zi h,zi h,zi h]
theorem zhs {w:World} {b:Nat} {u v:Value} {t:TypeId} (h:w.heap[b]? =some (.cells #[v] t (0,0))):(w.setCell ⟨b,0,none⟩ u).heap[b]? =some (.cells #[u] t (0,0)):=(za9 h).trans (by simp)
theorem OwnMod.keepI {w o:World} {j:Nat} {S:Sv} {q:PS} (h:OwnMod w j S q) (n: ∀k,j≤k→o.heap[k]? =w.heap[k]?):OwnMod o j S q:=
 ⟨h.rq.keep fun k g=>n k (h.rq.typed g).1,h.im.keep fun k g=>n k (h.im.typed g).1,h.ep.keep fun k g=>n k (h.ep.typed g).1,h.st.keep fun k g=>n k (h.st.typed g).1,h.ex.keep fun k g=>n k (h.ex.typed g).1,h.inv⟩
theorem OwnMod.lowI {w:World} {n j:Nat} {S:Sv} {q:PS} (h:OwnMod w n S q) (o:j≤n):OwnMod w j S q:=⟨h.rq.low o,h.im.low o,h.ep.low o,h.st.low o,h.ex.low o,h.inv⟩
theorem zrq (C:Cx) (z n j o:Nat) (S:Sv) (q:PS) (w:World) (h:IM C z n j o S q w) (D:zbf C):
  Calls Tryz.prog 24 #[.pointer (some ⟨o,0,none⟩)] w (zhm j o (zas C q) w):=by
 cases A:C.scr with
 |true=>exact zq6 C z n j o S q w h A
 |false=>exact zq7 C z n j o S q w h D A
theorem zkj (s:ByteArray) (o:Bool) (w:World) (hs:s.size≤4294967296):
  Calls Tryz.prog 7 #[.string s,.bool o] w fun e w'=>ParseOut s o w e w'∧Below w.heap.size w w':=by
 have ad: ∀(fn:Fn) (first D:Array Value) (w:World),(Instr.makeFunc fn first D).run Tryz.prog w= .ok (.func fn first D) w:=fun _ _ _ _=>rfl
 go_enter_defers Tryz.func7,Tryz.ntmps7
 go_wp2_with fail
 refine (zrm s o _ hs).mono ?_
 rintro e J ⟨⟨r1,I,M⟩,U⟩
 have j:((w.alloc (.cells #[.slice none 0 0,.slice none 0 0,.slice none 0 0,.slice none 0 0,.slice none 0 0] 28)).alloc (.cells #[.int .i64 0] 3)).heap.size=w.heap.size+1+1:=zc1 w _ _
 have Y:Hid (Below w.heap.size w J):=(zaT w _ _).trans (U.mono (by rw[j];omega))
 have Q:Hid (J.heap[w.heap.size]? =some (.cells #[.slice none 0 0,.slice none 0 0,.slice none 0 0,.slice none 0 0,.slice none 0 0] 28 (0,0))):=(U.block _ (by rw[j];omega)).trans (zck (heap_alloc_new w _))
 have K:Hid (J.heap[w.heap.size+1]? =some (.cells #[.int .i64 0] 3 (0,0))):=(U.block _ (by rw[j];omega)).trans (zbq w _ _)
 have L:w.heap.size+1+1≤J.heap.size:=by have:=U.size;rw[j] at this;exact this
 rw[j] at U
 obtain⟨c0,c1,c2,c3,c4,cf⟩:=zl Q.out
 have d0:J.cell? ⟨w.heap.size+1,0,none⟩=some (.int .i64 0):=by simp[World.cell?,K.out]
 have df:J.frozen? ⟨w.heap.size+1,0,none⟩=false:=by simp[World.frozen?,K.out]
 cases r1 with
 |error p=>
  subst M
  have HY:Hid (zb7 s o (.error p)):=⟨_,I,rfl⟩
  have dz:decide ((0:Int)≤(p:Int))=true:=decide_eq_true (by omega)
  clear I U j
  go_wp2
  exact⟨_,zhr rfl _ _ w.heap.size (w.heap.size+1) 28 3 _ _ _ .i64 rfl ((zi (by omega)).trans (zcZ Q.out)) Tryz.underlying28 rfl (by kernel_rfl) rfl (zhs ((zfQ (by omega)).trans K.out)) Tryz.underlying3 ⟨_,rfl⟩,⟨_,HY.out,rfl⟩,(zd0 Y.out (Nat.le_refl _) ..).setCell (Nat.le_succ _) _⟩
 |ok X=>
  obtain⟨g,n,D,rfl,E⟩:=M
  obtain rfl:n=X.length:=E.2
  rw[j] at E
  have aa:=zhN I
  have HR:=zc I
  have HC:Hid (zbf ⟨X,s.size,o⟩):=zrp I hs
  have ac:Hid (Mem ⟨X,s.size,o⟩ g D (w.heap.size+1+1) S0 zbC J):=zhO E aa L
  clear E I U j
  go_wp2_with fail
  have ab:Hid (IM ⟨X,s.size,o⟩ g D (w.heap.size+1+1) J.heap.size S0 zbC (J.alloc (.cells #[.slice (some ⟨g,0,none⟩) X.length D,.int .i64 0,.int .i64 s.size,.bool o,.slice none 0 0,.slice none 0 0,.slice none 0 0,.slice none 0 0,.slice none 0 0,.slice none 0 0] 59))):=⟨ac.out.alloc _,heap_alloc_new J _,L⟩
  have H:Hid (Below (w.heap.size+1+1) J (J.alloc (.cells #[.slice (some ⟨g,0,none⟩) X.length D,.int .i64 0,.int .i64 s.size,.bool o,.slice none 0 0,.slice none 0 0,.slice none 0 0,.slice none 0 0,.slice none 0 0,.slice none 0 0] 59))):=(Below.refl _ _).alloc L _
  refine (zrq _ g D _ _ S0 zbC _ ab.out HC.out).mono ?_
  cases hp:zas ⟨X,s.size,o⟩ zbC with
  |error p=>
   rintro e O ⟨rfl,N⟩
   have HY:Hid (zb7 s o (.error p)):=⟨_,HR.out,hp.symm⟩
   have V:Hid (Below w.heap.size w O):=Y.out.trans ((H.out.trans N).mono (by omega))
   have A:Hid (O.heap[w.heap.size]? =some (.cells #[.slice none 0 0,.slice none 0 0,.slice none 0 0,.slice none 0 0,.slice none 0 0] 28 (0,0))):=((H.out.trans N).block _ (by omega)).trans Q.out
   have z:Hid (O.heap[w.heap.size+1]? =some (.cells #[.int .i64 0] 3 (0,0))):=((H.out.trans N).block _ (by omega)).trans K.out
   clear N
   unfold Pan
   go_wp2
   refine leaves_cons (f:=23) (args:=#[.pointer (some ⟨w.heap.size,0,none⟩),.pointer (some ⟨w.heap.size+1,0,none⟩)]) (by simp) (by simp[go_sem]) ?_
   refine (zqB w.heap.size (w.heap.size+1) p _ _ _ _ _ _ _ A.out z.out (by omega)).mono ?_
   rintro e u' w3 ⟨rfl,rfl,rfl⟩
   exact⟨_,zhr rfl _ _ w.heap.size (w.heap.size+1) 28 3 _ _ _ .i64 rfl ((zi (by omega)).trans (zcZ A.out)) Tryz.underlying28 rfl (by kernel_rfl) rfl (zhs ((zfQ (by omega)).trans z.out)) Tryz.underlying3 ⟨_,rfl⟩,⟨_,HY.out,rfl⟩,(zd0 V.out (Nat.le_refl _) ..).setCell (Nat.le_succ _) _⟩
  |ok q=>
   rintro e O ⟨rfl,S2,om,⟨v0,v1,v2,v3,v9,Z⟩,N⟩
   have HY:Hid (zb7 s o (.ok q)):=⟨_,HR.out,hp.symm⟩
   have V:Hid (Below w.heap.size w O):=Y.out.trans ((H.out.trans N).mono (by omega))
   have A:Hid (O.heap[w.heap.size]? =some (.cells #[.slice none 0 0,.slice none 0 0,.slice none 0 0,.slice none 0 0,.slice none 0 0] 28 (0,0))):=((H.out.trans N).block _ (by omega)).trans Q.out
   have z:Hid (O.heap[w.heap.size+1]? =some (.cells #[.int .i64 0] 3 (0,0))):=((H.out.trans N).block _ (by omega)).trans K.out
   have HO:=zc om
   clear N om c0 c1 c2 c3 c4 cf d0 df
   obtain⟨b0,U,b2,b3,b4,b5,b6,b7,b8,b9,bf⟩:=zac Z
   clear Z
   obtain⟨c0,c1,c2,c3,c4,cf⟩:=zl A.out
   have d0:O.cell? ⟨w.heap.size+1,0,none⟩=some (.int .i64 0):=by simp[World.cell?,z.out]
   have df:O.frozen? ⟨w.heap.size+1,0,none⟩=false:=by simp[World.frozen?,z.out]
   go_wp2
   refine leaves_cons (f:=23) (args:=#[.pointer (some ⟨w.heap.size,0,none⟩),.pointer (some ⟨w.heap.size+1,0,none⟩)]) (by simp) (by simp[go_sem]) ?_
   refine (zqA w.heap.size (w.heap.size+1) _).mono ?_
   rintro e u' w3 ⟨rfl,rfl,rfl⟩
   refine⟨_,zhr rfl _ _ w.heap.size (w.heap.size+1) 28 3 _ _ _ .i64 rfl ((zi (by omega)).trans (zcZ A.out)) Tryz.underlying28 rfl (by kernel_rfl) rfl (zhs ((zfQ (by omega)).trans z.out)) Tryz.underlying3 ⟨_,rfl⟩,⟨_,HY.out,S2,by simp[zfv],?_⟩,(zd0 V.out (Nat.le_refl _) ..).setCell (Nat.le_succ _) _⟩
   exact (HO.out.keepI fun k hk=>(zi (by omega)).trans (zfQ (by omega))).lowI (by omega)
end Go.Proofs.YticdggnnpjachaaGreat