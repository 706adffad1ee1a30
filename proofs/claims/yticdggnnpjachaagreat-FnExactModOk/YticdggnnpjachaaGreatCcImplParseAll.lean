/-
 What impl.Parse answers: the walk.
-/
import Derived.Test.YticdggnnpjachaaGreatCcImplParseYToImplProgM
import Derived.Test.YticdggnnpjachaaGreatCcImplCatch
import Derived.Test.YticdggnnpjachaaGreatCcImplLex
namespace Go.Proofs.YticdggnnpjachaaGreat
set_option maxRecDepth 100000
set_option maxHeartbeats 3200000
open Go.RowKit Go.PlainAid Go.Sort
theorem zgs (s:ByteArray) (a b:Nat):(s.extract a b).size≤s.size:=by
 rw[ByteArray.size_extract]
 omega
theorem zou {s:ByteArray} {j:Bool} {a e:Nat} {t:Tk} (h:Tok s j a t e):t.text.size≤s.size:=by
 cases h using Tok.elim with
 |name h n=>exact zgs _ _ _
 |num h n=>exact Nat.zero_le _
 |str h n=>exact zgs _ _ _
 |sign h=>exact zgs _ _ _
theorem zov {s:ByteArray} {A:Bool} {a n:Nat} {r:Except Nat (List Tk)} (h:Lx s A a n r): ∀o,r= .ok o→∀t∈o,t.text.size≤s.size:=by
 induction h using Lx.ind with
 |done=>intro o q;cases q;intro t w;cases w
 |bad _ _=>intro o q;cases q
 | @tok a n e b t r h E w H q D=>
  intro o j
  cases r with
  |error p=>simp[Except.map] at j
  |ok l=>
   simp only[Except.map,Except.ok.injEq] at j
   subst j
   intro x z
   rcases List.mem_cons.1 z with rfl|z
   ·exact zou w
   ·exact D l rfl x z
theorem zow {s:ByteArray} {n:Bool} {j:List Tk} (h:zac s n (.ok j)) (w:s.size≤4294967296):zaV ⟨j,s.size,n⟩:=by
 obtain⟨a,_,q⟩:=h
 intro i
 by_cases o:i<j.length
 ·have:ze ⟨j,s.size,n⟩ i∈j:=by
   rw[ze,List.getD,List.getElem?_eq_getElem o]
   exact List.getElem_mem o
  have:=zov q j rfl _ this
  omega
 ·rw[zdb (by show j.length≤i;omega)]
  exact Nat.zero_le _
theorem zgt {P:Program} {D:Func} {p u:Tmp} {j z:TypeId} (h:D.results= #[.cell p j,.cell u z]) (tmps:Array Value) (w:World) (g q:Nat) (t K:TypeId) (o:Array Value) (v:Value) (d:TypeDesc) (k:IntKind)
  (X:tmps.getD p undef= .pointer (some ⟨g,0,none⟩)) (H:w.heap[g]? =some (.cells o t (0,0)))
  (V:P.underlying j=some d) (E:(match d with| .struct _| .array _ _=>true|_=>false)=true) (I:(P.info? j).map (·.size)=some o.size)
  (M:tmps.getD u undef= .pointer (some ⟨q,0,none⟩)) (A:w.heap[q]? =some (.cells #[v] K (0,0))) (L:P.underlying z=some (.int k)) (J: ∃n,v= .int k n):
  (results D tmps).run P w= .ok (.tuple #[.agg o,v]) w:=by
 obtain⟨n,rfl⟩:=J
 have O:=run_loadVar_row w g t j o (0,0) d H V E I
 have U:(loadVar z ⟨q,0,none⟩).run P w= .ok (.int k n) w:=by
  have N:w.cell? ⟨q,0,none⟩=some (.int k n):=by simp[World.cell?,A]
  simp[go_sem,isAgg,run_underlying L,N]
 have e:(results D tmps).run P w=((asAddr (tmps.getD p undef)).run P w).andThen fun a w₁=>((loadVar j a).run P w₁).andThen fun v w₂=>((asAddr (tmps.getD u undef)).run P w₂).andThen fun b w₃=>((loadVar z b).run P w₃).andThen fun x w₄=>.ok (.tuple #[v,x]) w₄:=by
  simp only[results,h]
  simp[Sem.run_bind,Result.andThen]
 rw[e,X,M]
 simp[asAddr,Result.andThen,O,U]
theorem zfw {w:World} {b k:Nat} {z n j q o:Value} (h:k≠b):(((((w.setCell ⟨b,0,none⟩ z).setCell ⟨b,1,none⟩ n).setCell ⟨b,2,none⟩ j).setCell ⟨b,3,none⟩ q).setCell ⟨b,4,none⟩ o).heap[k]? =w.heap[k]?:=by
 rw[zp h,zp h,zp h,zp h,zp h]
theorem zgu {w:World} {b:Nat} {u v:Value} {t:TypeId} (h:w.heap[b]? =some (.cells #[v] t (0,0))):(w.setCell ⟨b,0,none⟩ u).heap[b]? =some (.cells #[u] t (0,0)):=(zas h).trans (by simp)
theorem OwnMod.keepI {w o:World} {j:Nat} {S:Sv} {q:PS} (h:OwnMod w j S q) (n: ∀k,j≤k→o.heap[k]? =w.heap[k]?):OwnMod o j S q:=
 ⟨h.rq.keep fun k g=>n k (h.rq.typed g).1,h.im.keep fun k g=>n k (h.im.typed g).1,h.ep.keep fun k g=>n k (h.ep.typed g).1,h.st.keep fun k g=>n k (h.st.typed g).1,h.ex.keep fun k g=>n k (h.ex.typed g).1,h.inv⟩
theorem OwnMod.lowI {w:World} {n j:Nat} {S:Sv} {q:PS} (h:OwnMod w n S q) (o:j≤n):OwnMod w j S q:=⟨h.rq.low o,h.im.low o,h.ep.low o,h.st.low o,h.ex.low o,h.inv⟩
theorem zox (C:Cx) (z n j o:Nat) (S:Sv) (q:PS) (w:World) (h:IM C z n j o S q w) (D:zaV C):
  Calls Tryz.prog 24 #[.pointer (some ⟨o,0,none⟩)] w (zgo j o (zaq C q) w):=by
 cases A:C.scr with
 |true=>exact znD C z n j o S q w h A
 |false=>exact znE C z n j o S q w h D A
theorem zoy (s:ByteArray) (j:Bool) (w:World) (hs:s.size≤4294967296):
  Calls Tryz.prog 7 #[.string s,.bool j] w fun e w'=>ParseOut s j w e w'∧Below w.heap.size w w':=by
 have ad: ∀(fn:Fn) (first A:Array Value) (w:World),(Instr.makeFunc fn first A).run Tryz.prog w= .ok (.func fn first A) w:=fun _ _ _ _=>rfl
 go_enter_defers Tryz.func7,Tryz.ntmps7
 go_wp2_with fail
 refine (zot s j _ hs).mono ?_
 rintro e I ⟨⟨r1,H,L⟩,U⟩
 have h:((w.alloc (.cells #[.slice none 0 0,.slice none 0 0,.slice none 0 0,.slice none 0 0,.slice none 0 0] 28)).alloc (.cells #[.int .i64 0] 3)).heap.size=w.heap.size+1+1:=zcp w _ _
 have V:Hid (Below w.heap.size w I):=(zaM w _ _).trans (U.mono (by rw[h];omega))
 have M:Hid (I.heap[w.heap.size]? =some (.cells #[.slice none 0 0,.slice none 0 0,.slice none 0 0,.slice none 0 0,.slice none 0 0] 28 (0,0))):=(U.block _ (by rw[h];omega)).trans (zce (heap_alloc_new w _))
 have K:Hid (I.heap[w.heap.size+1]? =some (.cells #[.int .i64 0] 3 (0,0))):=(U.block _ (by rw[h];omega)).trans (zbj w _ _)
 have J:w.heap.size+1+1≤I.heap.size:=by have:=U.size;rw[h] at this;exact this
 rw[h] at U
 obtain⟨c0,c1,c2,c3,c4,cf⟩:=zk M.out
 have d0:I.cell? ⟨w.heap.size+1,0,none⟩=some (.int .i64 0):=by simp[World.cell?,K.out]
 have df:I.frozen? ⟨w.heap.size+1,0,none⟩=false:=by simp[World.frozen?,K.out]
 cases r1 with
 |error p=>
  subst L
  have HY:Hid (zb4 s j (.error p)):=⟨_,H,rfl⟩
  have dz:decide ((0:Int)≤(p:Int))=true:=decide_eq_true (by omega)
  clear H U h
  go_wp2
  exact⟨_,zgt rfl _ _ w.heap.size (w.heap.size+1) 28 3 _ _ _ .i64 rfl ((zp (by omega)).trans (zcU M.out)) Tryz.underlying28 rfl (by kernel_rfl) rfl (zgu ((zfw (by omega)).trans K.out)) Tryz.underlying3 ⟨_,rfl⟩,⟨_,HY.out,rfl⟩,(zdg V.out (Nat.le_refl _) ..).setCell (Nat.le_succ _) _⟩
 |ok X=>
  obtain⟨g,n,A,rfl,D⟩:=L
  obtain rfl:n=X.length:=D.2
  rw[h] at D
  have aa:=zgV H
  have HR:=zc H
  have HC:Hid (zaV ⟨X,s.size,j⟩):=zow H hs
  have ac:Hid (Mem ⟨X,s.size,j⟩ g A (w.heap.size+1+1) S0 zb3 I):=zgW D aa J
  clear D H U h
  go_wp2_with fail
  have ab:Hid (IM ⟨X,s.size,j⟩ g A (w.heap.size+1+1) I.heap.size S0 zb3 (I.alloc (.cells #[.slice (some ⟨g,0,none⟩) X.length A,.int .i64 0,.int .i64 s.size,.bool j,.slice none 0 0,.slice none 0 0,.slice none 0 0,.slice none 0 0,.slice none 0 0,.slice none 0 0] 59))):=⟨ac.out.alloc _,heap_alloc_new I _,J⟩
  have E:Hid (Below (w.heap.size+1+1) I (I.alloc (.cells #[.slice (some ⟨g,0,none⟩) X.length A,.int .i64 0,.int .i64 s.size,.bool j,.slice none 0 0,.slice none 0 0,.slice none 0 0,.slice none 0 0,.slice none 0 0,.slice none 0 0] 59))):=(Below.refl _ _).alloc J _
  refine (zox _ g A _ _ S0 zb3 _ ab.out HC.out).mono ?_
  cases hp:zaq ⟨X,s.size,j⟩ zb3 with
  |error p=>
   rintro e N ⟨rfl,O⟩
   have HY:Hid (zb4 s j (.error p)):=⟨_,HR.out,hp.symm⟩
   have Y:Hid (Below w.heap.size w N):=V.out.trans ((E.out.trans O).mono (by omega))
   have z:Hid (N.heap[w.heap.size]? =some (.cells #[.slice none 0 0,.slice none 0 0,.slice none 0 0,.slice none 0 0,.slice none 0 0] 28 (0,0))):=((E.out.trans O).block _ (by omega)).trans M.out
   have o:Hid (N.heap[w.heap.size+1]? =some (.cells #[.int .i64 0] 3 (0,0))):=((E.out.trans O).block _ (by omega)).trans K.out
   clear O
   unfold Pan
   go_wp2
   refine leaves_cons (f:=23) (args:=#[.pointer (some ⟨w.heap.size,0,none⟩),.pointer (some ⟨w.heap.size+1,0,none⟩)]) (by simp) (by simp[go_sem]) ?_
   refine (znI w.heap.size (w.heap.size+1) p _ _ _ _ _ _ _ z.out o.out (by omega)).mono ?_
   rintro e u' w3 ⟨rfl,rfl,rfl⟩
   exact⟨_,zgt rfl _ _ w.heap.size (w.heap.size+1) 28 3 _ _ _ .i64 rfl ((zp (by omega)).trans (zcU z.out)) Tryz.underlying28 rfl (by kernel_rfl) rfl (zgu ((zfw (by omega)).trans o.out)) Tryz.underlying3 ⟨_,rfl⟩,⟨_,HY.out,rfl⟩,(zdg Y.out (Nat.le_refl _) ..).setCell (Nat.le_succ _) _⟩
  |ok q=>
   rintro e N ⟨rfl,S2,om,⟨v0,v1,v2,v3,v9,Z⟩,O⟩
   have HY:Hid (zb4 s j (.ok q)):=⟨_,HR.out,hp.symm⟩
   have Y:Hid (Below w.heap.size w N):=V.out.trans ((E.out.trans O).mono (by omega))
   have z:Hid (N.heap[w.heap.size]? =some (.cells #[.slice none 0 0,.slice none 0 0,.slice none 0 0,.slice none 0 0,.slice none 0 0] 28 (0,0))):=((E.out.trans O).block _ (by omega)).trans M.out
   have o:Hid (N.heap[w.heap.size+1]? =some (.cells #[.int .i64 0] 3 (0,0))):=((E.out.trans O).block _ (by omega)).trans K.out
   have HO:=zc om
   clear O om c0 c1 c2 c3 c4 cf d0 df
   obtain⟨b0,U,b2,b3,b4,b5,b6,b7,b8,b9,bf⟩:=zaa Z
   clear Z
   obtain⟨c0,c1,c2,c3,c4,cf⟩:=zk z.out
   have d0:N.cell? ⟨w.heap.size+1,0,none⟩=some (.int .i64 0):=by simp[World.cell?,o.out]
   have df:N.frozen? ⟨w.heap.size+1,0,none⟩=false:=by simp[World.frozen?,o.out]
   go_wp2
   refine leaves_cons (f:=23) (args:=#[.pointer (some ⟨w.heap.size,0,none⟩),.pointer (some ⟨w.heap.size+1,0,none⟩)]) (by simp) (by simp[go_sem]) ?_
   refine (znH w.heap.size (w.heap.size+1) _).mono ?_
   rintro e u' w3 ⟨rfl,rfl,rfl⟩
   refine⟨_,zgt rfl _ _ w.heap.size (w.heap.size+1) 28 3 _ _ _ .i64 rfl ((zp (by omega)).trans (zcU z.out)) Tryz.underlying28 rfl (by kernel_rfl) rfl (zgu ((zfw (by omega)).trans o.out)) Tryz.underlying3 ⟨_,rfl⟩,⟨_,HY.out,S2,by simp[zeR],?_⟩,(zdg Y.out (Nat.le_refl _) ..).setCell (Nat.le_succ _) _⟩
   exact (HO.out.keepI fun k hk=>(zp (by omega)).trans (zfw (by omega))).lowI (by omega)
end Go.Proofs.YticdggnnpjachaaGreat