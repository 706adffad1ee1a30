/-
 What spec's smallest readers of tokens answer: the walks.
-/
import Derived.Test.YthfeoomfiafldaaGreatCdParseMemToModMem
import Derived.Test.YthfeoomfiafldaaGreatCdSpecLexAll
namespace Go.Proofs.YthfeoomfiafldaaGreat
set_option maxRecDepth 100000
set_option maxHeartbeats 1600000
open Go.RowKit Go.PlainAid
theorem OwnT.cells {w:World} {D g n H:Nat} {e:TypeId} {o:List Tk} (h:OwnT w D e g n H o) {j:Nat} (Q:j<n) {d:Tk}:
  w.cell? ⟨g,j*4,none⟩=some (.int .i64 (o.getD j d).kind)∧w.cell? ⟨g,j*4+1,none⟩=some (.string (o.getD j d).text)∧w.cell? ⟨g,j*4+2,none⟩=some (.int .i64 (o.getD j d).num)∧w.cell? ⟨g,j*4+3,none⟩=some (.int .i64 (o.getD j d).pos):=by
 have O:=h.2
 have z: ∀(l:List Tk) (i c:Nat),c<4→i<l.length→(l.flatMap tkL)[i*4+c]? =(tkL (l.getD i d))[c]?:=by
  intro l
  induction l with
  |nil=>intro i c _ E;simp at E
  |cons x l J=>
   intro i c K E
   match i with
   |0=>
    simp only[List.flatMap_cons,Nat.zero_mul,Nat.zero_add,List.getD_cons_zero]
    rw[List.getElem?_append_left (by simp[tkL];omega)]
   |i+1=>
    simp only[List.flatMap_cons,List.getD_cons_succ]
    rw[List.getElem?_append_right (by simp[tkL];omega)]
    have:(i+1)*4+c-(tkL x).length=i*4+c:=by simp[tkL];omega
    rw[this]
    exact J i c K (by simpa using E)
 have L:=z o j 0 (by omega) (by omega)
 have I:=z o j 1 (by omega) (by omega)
 have N:=z o j 2 (by omega) (by omega)
 have M:=z o j 3 (by omega) (by omega)
 rw[h.1.cellAt _ (by omega),h.1.cellAt _ (by omega),h.1.cellAt _ (by omega),h.1.cellAt _ (by omega)]
 exact⟨L,I,N,M⟩
def pv (C:Cx) (gt cap:Nat) (S:Sv) (q:PS) (z:Int) (d:Nat):Value:=
 .agg #[.slice (some ⟨gt,0,none⟩) C.ts.length cap,.int .i64 q.pos,.int .i64 C.fin,.bool C.scr,.slice S.rq.a q.rq.length S.rq.cap,.slice S.im.a q.im.length S.im.cap,.slice S.ep.a q.ep.length S.ep.cap,
  .slice S.st.a q.st.length S.st.cap,.slice S.ex.a q.ex.length S.ex.cap,.slice S.la.a q.la.length S.la.cap,.int .i64 z,.int .i64 d]
theorem zjO {C:Cx} {i:Nat} {k:Int} {s:ByteArray} (h:((zf C i).kind==k)=false):isT C i k s=false:=by rw[isT,h];rfl
theorem zfA {C:Cx} {i:Nat} {k:Int} {s:ByteArray} (h: ¬i<C.ts.length) (j:k≠0):isT C i k s=false:=by
 rw[Bool.eq_false_iff]
 exact fun g=>h (za1 g j)
theorem zj (C:Cx) (U D H:Nat) (S:Sv) (q:PS) (z:Int) (d:Nat) (k:Int) (s:ByteArray) (w:World) (Q:OwnT w H 40 U C.ts.length D C.ts) (_:C.ts.length≤4000) (V:k≠0):
  Calls Tryz.prog 47 #[pv C U D S q z d,.int .i64 k,.string s] w fun e X=>e= .returned (.bool (decide (z<0)&&isT C q.pos k s))∧Below w.heap.size w X:=by
 unfold pv
 by_cases K:z<0
 ·have E:decide (z<0)=true:=decide_eq_true K
  by_cases L:q.pos<C.ts.length
  ·obtain⟨O,J,_,_⟩:=Q.cells L (d:=⟨0,sNone,0,C.fin⟩)
   have N:=(zan Q).1
   change _=some (Value.int .i64 (zf C q.pos).kind) at O
   change _=some (Value.string (zf C q.pos).text) at J
   generalize j:zf C q.pos=t at O J
   cases I:(t.kind==k) with
   |true=>
    cases M:(t.text.toList==s.toList) with
    |true=>
     have o:Hid (isT C q.pos k s=true):=by show isT C q.pos k s=true;simp only[isT,j,I,M,Bool.and_self]
     clear j
     go_enter Tryz.func47,Tryz.ntmps47
     go_wp2
     go_ret
     exact⟨zq (by rw[E,o.out];rfl),(Below.refl _ _).alloc (Nat.le_refl _) _⟩
    |false=>
     have o:Hid (isT C q.pos k s=false):=by show isT C q.pos k s=false;simp only[isT,j,I,M,Bool.and_false]
     clear j
     go_enter Tryz.func47,Tryz.ntmps47
     go_wp2
     go_ret
     exact⟨zq (by rw[E,o.out];rfl),(Below.refl _ _).alloc (Nat.le_refl _) _⟩
   |false=>
    have o:Hid (isT C q.pos k s=false):=zjO (by rw[j];exact I)
    clear j
    go_enter Tryz.func47,Tryz.ntmps47
    go_wp2
    go_ret
    exact⟨zq (by rw[E,o.out];rfl),(Below.refl _ _).alloc (Nat.le_refl _) _⟩
  ·have o:Hid (isT C q.pos k s=false):=zfA L V
   go_enter Tryz.func47,Tryz.ntmps47
   go_wp2
   go_ret
   exact⟨zq (by rw[E,o.out];rfl),(Below.refl _ _).alloc (Nat.le_refl _) _⟩
 ·have E:decide (z<0)=false:=decide_eq_false K
  go_enter Tryz.func47,Tryz.ntmps47
  go_wp2
  go_ret
  exact⟨zq rfl,(Below.refl _ _).alloc (Nat.le_refl _) _⟩
theorem zok (C:Cx) (H j o:Nat) (S:Sv) (q:PS) (z:Int) (d:Nat) (w:World) (E:OwnT w o 40 H C.ts.length j C.ts) (_:C.ts.length≤4000):
  Calls Tryz.prog 127 #[pv C H j S q z d] w fun e L=>e= .returned (.int .i64 (zu C q.pos))∧Below w.heap.size w L:=by
 unfold pv
 by_cases I:q.pos<C.ts.length
 ·obtain⟨_,_,_,K⟩:=E.cells I (d:=⟨0,sNone,0,C.fin⟩)
  have D:=(zan E).1
  change _=some (Value.int .i64 (zu C q.pos)) at K
  go_enter Tryz.func127,Tryz.ntmps127
  go_wp2
  go_ret
  exact⟨rfl,(Below.refl _ _).alloc (Nat.le_refl _) _⟩
 ·have J:Hid (zu C q.pos=C.fin):=by show zu C q.pos=C.fin;rw[zu,zcT (by omega)]
  go_enter Tryz.func127,Tryz.ntmps127
  go_wp2
  go_ret
  exact⟨zeE (by rw[J.out]),(Below.refl _ _).alloc (Nat.le_refl _) _⟩
def zbC (C:Cx) (i:Nat) (z:Int):Int:=if z<0 then zu C i else z
theorem zv {w:World} {j g n z:Nat} {e:TypeId} {D:List Tk} (h:OwnT w j e g n z D) (o:Obj):OwnT (w.alloc o) j e g n z D:=zcn h ((Below.refl _ _).alloc (Nat.le_refl _) _)
theorem zcv {w:World} {b i:Nat} {cs:Array Value} {u:Value} {t:TypeId} (h:w.heap[b]? =some (.cells cs t (0,0))):(w.setCell ⟨b,i,none⟩ u).heap[b]? =some (.cells (cs.setIfInBounds i u) t (0,0)):=by
 simp only[World.setCell,Array.getElem?_modify]
 rw[if_pos trivial,h]
 rfl
theorem zx {w:World} {b c i:Nat} {u:Value} (h:b≠c):(w.setCell ⟨c,i,none⟩ u).heap[b]? =w.heap[b]?:=Below.heap_setCell w ⟨c,i,none⟩ u b h
structure Box (w:World) (b:Nat) (v0 v1 v2 v3 v4 v5 v6 v7 v8 v9 v10 v11:Value):Prop where
 c0:w.cell? ⟨b,0,none⟩=some v0
 c1:w.cell? ⟨b,1,none⟩=some v1
 c2:w.cell? ⟨b,2,none⟩=some v2
 c3:w.cell? ⟨b,3,none⟩=some v3
 c4:w.cell? ⟨b,4,none⟩=some v4
 c5:w.cell? ⟨b,5,none⟩=some v5
 c6:w.cell? ⟨b,6,none⟩=some v6
 c7:w.cell? ⟨b,7,none⟩=some v7
 c8:w.cell? ⟨b,8,none⟩=some v8
 c9:w.cell? ⟨b,9,none⟩=some v9
 c10:w.cell? ⟨b,10,none⟩=some v10
 c11:w.cell? ⟨b,11,none⟩=some v11
 fz: ∀i,w.frozen? ⟨b,i,none⟩=false
theorem zao {w:World} {b:Nat} {t:TypeId} {N H J D I M K z L E o j:Value} (h:w.heap[b]? =some (.cells #[N,H,J,D,I,M,K,z,L,E,o,j] t (0,0))):Box w b N H J D I M K z L E o j:=by
 constructor<;>simp[World.cell?,World.frozen?,h]
theorem zbj {w:World} {b:Nat} {v0 U X Z V v5 v6 Y v8 v9 D H z J N Q I M O K L E j o:Value} {t:TypeId} (h:w.heap[b]? =some (.cells #[v0,U,X,Z,V,v5,v6,Y,v8,v9,D,H] t (0,0))):
  ((((((((((((w.setCell ⟨b,0,none⟩ z).setCell ⟨b,1,none⟩ J).setCell ⟨b,2,none⟩ N).setCell ⟨b,3,none⟩ Q).setCell ⟨b,4,none⟩ I).setCell ⟨b,5,none⟩ M).setCell ⟨b,6,none⟩ O).setCell ⟨b,7,none⟩ K).setCell ⟨b,8,none⟩ L).setCell ⟨b,9,none⟩ E).setCell ⟨b,10,none⟩ j).setCell ⟨b,11,none⟩ o).heap[b]? =some (.cells #[z,J,N,Q,I,M,O,K,L,E,j,o] t (0,0)):=
 by
 have e:=zcv (i:=11) (u:=o) (zcv (i:=10) (u:=j) (zcv (i:=9) (u:=E) (zcv (i:=8) (u:=L) (zcv (i:=7) (u:=K) (zcv (i:=6) (u:=O) (zcv (i:=5) (u:=M) (zcv (i:=4) (u:=I) (zcv (i:=3) (u:=Q) (zcv (i:=2) (u:=N) (zcv (i:=1) (u:=J) (zcv (i:=0) (u:=z) h)))))))))))
 rw[e]
 simp
theorem zbX {B:Nat} {a w:World} {b:Nat} (h:Below B a w) (j:B≤b) (D K J N I H M L E O o z:Value):
  Below B a ((((((((((((w.setCell ⟨b,0,none⟩ D).setCell ⟨b,1,none⟩ K).setCell ⟨b,2,none⟩ J).setCell ⟨b,3,none⟩ N).setCell ⟨b,4,none⟩ I).setCell ⟨b,5,none⟩ H).setCell ⟨b,6,none⟩ M).setCell ⟨b,7,none⟩ L).setCell ⟨b,8,none⟩ E).setCell ⟨b,9,none⟩ O).setCell ⟨b,10,none⟩ o).setCell ⟨b,11,none⟩ z):=
 (((((((((((h.setCell j _).setCell j _).setCell j _).setCell j _).setCell j _).setCell j _).setCell j _).setCell j _).setCell j _).setCell j _).setCell j _).setCell j _
theorem zcD (w:World) (a b:Obj):Below w.heap.size w ((w.alloc a).alloc b):=((Below.refl _ _).alloc (Nat.le_refl _) _).alloc (by show _≤(w.heap.push _).size;simp) _
theorem zdz (w:World) (a b:Obj):((w.alloc a).alloc b).heap[w.heap.size+1]? =some b:=by
 have j:(w.alloc a).heap.size=w.heap.size+1:=by show (w.heap.push _).size=_;simp
 rw[←j]
 exact heap_alloc_new _ b
theorem zcE {w j:World} {a b:Obj} (o:Below ((w.alloc a).alloc b).heap.size ((w.alloc a).alloc b) j):j.heap[w.heap.size]? =some a∧j.heap[w.heap.size+1]? =some b:=by
 have e:((w.alloc a).alloc b).heap.size=w.heap.size+2:=by show ((w.heap.push _).push _).size=_;simp
 have z:(w.alloc a).heap.size=w.heap.size+1:=by show (w.heap.push _).size=_;simp
 refine⟨?_,?_⟩
 ·rw[o.block _ (by omega),Below.heap_alloc _ _ _ (by omega)]
  exact heap_alloc_new w a
 ·rw[o.block _ (by omega),←z]
  exact heap_alloc_new _ b
theorem zbs {w j:World} {a b:Obj} (z:Below ((w.alloc a).alloc b).heap.size ((w.alloc a).alloc b) j):Below w.heap.size w j:=by
 have D:(w.alloc a).heap.size=w.heap.size+1:=by show (w.heap.push _).size=_;simp
 have o:Below w.heap.size w ((w.alloc a).alloc b):=((Below.refl _ _).alloc (Nat.le_refl _) _).alloc (by omega) _
 exact o.trans (z.mono o.size)
theorem zd0 (C:Cx) (D j o:Nat) (S:Sv) (q:PS) (z:Int) (d:Nat) (w:World) (X:OwnT w o 40 D C.ts.length j C.ts) (L:C.ts.length≤4000):
  Calls Tryz.prog 101 #[pv C D j S q z d] w fun e U=>e= .returned (pv C D j S q (zbC C q.pos z) d)∧Below w.heap.size w U:=by
 by_cases J:z<0
 ·have H:Hid (zbC C q.pos z=zu C q.pos):=if_pos J
  unfold pv
  go_enter Tryz.func101,Tryz.ntmps101
  go_wp2_with fail
  refine (zok C D j o S q z d _ (zv (zv X _) _) L).mono ?_
  rintro e w1 ⟨rfl,I⟩
  obtain⟨K,E⟩:=zcE I
  obtain⟨a0,a1,a2,a3,a4,a5,a6,a7,a8,a9,O,M,af⟩:=zao K
  obtain⟨b0,b1,Z,b3,b4,b5,b6,b7,Y,b9,Q,V,bf⟩:=zao E
  have N:Hid (_=_):=E
  clear K E
  go_wp2
  refine bodyPost_ret (results_cell_row rfl _ _ (w.heap.size+1) 55 _ (0,0) _ rfl (zbj ((zx (by omega)).trans N.out)) Tryz.underlying55 rfl (by kernel_rfl)) rfl ?_
  exact⟨by rw[H.out],zbX ((zbs I).setCell (Nat.le_refl _) _) (Nat.le_succ _) _ _ _ _ _ _ _ _ _ _ _ _⟩
 ·have H:Hid (zbC C q.pos z=z):=if_neg J
  unfold pv
  go_enter Tryz.func101,Tryz.ntmps101
  go_wp2
  refine bodyPost_ret (results_cell_row rfl _ _ (w.heap.size+1) 55 _ (0,0) _ rfl (zdz w _ _) Tryz.underlying55 rfl (by kernel_rfl)) rfl ?_
  exact⟨by rw[H.out],zcD w _ _⟩
end Go.Proofs.YthfeoomfiafldaaGreat