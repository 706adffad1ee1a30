/-
 What spec's smallest readers of tokens answer: the walks.
-/
import Derived.Test.YticdggnnpjachaaGreatCbParseMemToModMem
import Derived.Test.YticdggnnpjachaaGreatCbSpecLexAll
namespace Go.Proofs.YticdggnnpjachaaGreat
set_option maxRecDepth 100000
set_option maxHeartbeats 1600000
open Go.RowKit Go.PlainAid
theorem OwnT.cells {w:World} {z g n A:Nat} {e:TypeId} {q:List Tk} (h:OwnT w z e g n A q) {j:Nat} (M:j<n) {d:Tk}:
  w.cell? ⟨g,j*4,none⟩=some (.int .i64 (q.getD j d).kind)∧w.cell? ⟨g,j*4+1,none⟩=some (.string (q.getD j d).text)∧w.cell? ⟨g,j*4+2,none⟩=some (.int .i64 (q.getD j d).num)∧w.cell? ⟨g,j*4+3,none⟩=some (.int .i64 (q.getD j d).pos):=by
 have N:=h.2
 have o: ∀(l:List Tk) (i c:Nat),c<4→i<l.length→(l.flatMap tkL)[i*4+c]? =(tkL (l.getD i d))[c]?:=by
  intro l
  induction l with
  |nil=>intro i c _ D;simp at D
  |cons x l E=>
   intro i c H D
   match i with
   |0=>
    simp only[List.flatMap_cons,Nat.zero_mul,Nat.zero_add,List.getD_cons_zero]
    rw[List.getElem?_append_left (by simp[tkL];omega)]
   |i+1=>
    simp only[List.flatMap_cons,List.getD_cons_succ]
    rw[List.getElem?_append_right (by simp[tkL];omega)]
    have:(i+1)*4+c-(tkL x).length=i*4+c:=by simp[tkL];omega
    rw[this]
    exact E i c H (by simpa using D)
 have L:=o q j 0 (by omega) (by omega)
 have I:=o q j 1 (by omega) (by omega)
 have J:=o q j 2 (by omega) (by omega)
 have K:=o q j 3 (by omega) (by omega)
 rw[h.1.cellAt _ (by omega),h.1.cellAt _ (by omega),h.1.cellAt _ (by omega),h.1.cellAt _ (by omega)]
 exact⟨L,I,J,K⟩
def pv (C:Cx) (gt cap:Nat) (S:Sv) (q:PS) (z:Int) (d:Nat):Value:=
 .agg #[.slice (some ⟨gt,0,none⟩) C.ts.length cap,.int .i64 q.pos,.int .i64 C.fin,.bool C.scr,.slice S.rq.a q.rq.length S.rq.cap,.slice S.im.a q.im.length S.im.cap,.slice S.ep.a q.ep.length S.ep.cap,
  .slice S.st.a q.st.length S.st.cap,.slice S.ex.a q.ex.length S.ex.cap,.slice S.la.a q.la.length S.la.cap,.int .i64 z,.int .i64 d]
theorem zhY {C:Cx} {i:Nat} {k:Int} {s:ByteArray} (h:((ze C i).kind==k)=false):isT C i k s=false:=by rw[isT,h];rfl
theorem zeE {C:Cx} {i:Nat} {k:Int} {s:ByteArray} (h: ¬i<C.ts.length) (j:k≠0):isT C i k s=false:=by
 rw[Bool.eq_false_iff]
 exact fun g=>h (za1 g j)
theorem zh (C:Cx) (J o A:Nat) (S:Sv) (q:PS) (z:Int) (d:Nat) (k:Int) (s:ByteArray) (w:World) (I:OwnT w A 111 J C.ts.length o C.ts) (_:C.ts.length≤4000) (U:k≠0):
  Calls Tryz.prog 69 #[pv C J o S q z d,.int .i64 k,.string s] w fun e Q=>e= .returned (.bool (decide (z<0)&&isT C q.pos k s))∧Below w.heap.size w Q:=by
 unfold pv
 by_cases N:z<0
 ·have D:decide (z<0)=true:=decide_eq_true N
  by_cases M:q.pos<C.ts.length
  ·obtain⟨O,K,_,_⟩:=I.cells M (d:=⟨0,sNone,0,C.fin⟩)
   have H:=(zan I).1
   change _=some (Value.int .i64 (ze C q.pos).kind) at O
   change _=some (Value.string (ze C q.pos).text) at K
   generalize j:ze C q.pos=t at O K
   cases E:(t.kind==k) with
   |true=>
    cases L:(t.text.toList==s.toList) with
    |true=>
     have n:Hid (isT C q.pos k s=true):=by show isT C q.pos k s=true;simp only[isT,j,E,L,Bool.and_self]
     clear j
     go_enter Tryz.func69,Tryz.ntmps69
     go_wp2
     go_ret
     exact⟨zm (by rw[D,n.out];rfl),(Below.refl _ _).alloc (Nat.le_refl _) _⟩
    |false=>
     have n:Hid (isT C q.pos k s=false):=by show isT C q.pos k s=false;simp only[isT,j,E,L,Bool.and_false]
     clear j
     go_enter Tryz.func69,Tryz.ntmps69
     go_wp2
     go_ret
     exact⟨zm (by rw[D,n.out];rfl),(Below.refl _ _).alloc (Nat.le_refl _) _⟩
   |false=>
    have n:Hid (isT C q.pos k s=false):=zhY (by rw[j];exact E)
    clear j
    go_enter Tryz.func69,Tryz.ntmps69
    go_wp2
    go_ret
    exact⟨zm (by rw[D,n.out];rfl),(Below.refl _ _).alloc (Nat.le_refl _) _⟩
  ·have n:Hid (isT C q.pos k s=false):=zeE M U
   go_enter Tryz.func69,Tryz.ntmps69
   go_wp2
   go_ret
   exact⟨zm (by rw[D,n.out];rfl),(Below.refl _ _).alloc (Nat.le_refl _) _⟩
 ·have D:decide (z<0)=false:=decide_eq_false N
  go_enter Tryz.func69,Tryz.ntmps69
  go_wp2
  go_ret
  exact⟨zm rfl,(Below.refl _ _).alloc (Nat.le_refl _) _⟩
theorem zlC (C:Cx) (D j n:Nat) (S:Sv) (q:PS) (z:Int) (d:Nat) (w:World) (A:OwnT w n 111 D C.ts.length j C.ts) (_:C.ts.length≤4000):
  Calls Tryz.prog 167 #[pv C D j S q z d] w fun e H=>e= .returned (.int .i64 (zr C q.pos))∧Below w.heap.size w H:=by
 unfold pv
 by_cases I:q.pos<C.ts.length
 ·obtain⟨_,_,_,J⟩:=A.cells I (d:=⟨0,sNone,0,C.fin⟩)
  have o:=(zan A).1
  change _=some (Value.int .i64 (zr C q.pos)) at J
  go_enter Tryz.func167,Tryz.ntmps167
  go_wp2
  go_ret
  exact⟨rfl,(Below.refl _ _).alloc (Nat.le_refl _) _⟩
 ·have E:Hid (zr C q.pos=C.fin):=by show zr C q.pos=C.fin;rw[zr,zdl (by omega)]
  go_enter Tryz.func167,Tryz.ntmps167
  go_wp2
  go_ret
  exact⟨zdM (by rw[E.out]),(Below.refl _ _).alloc (Nat.le_refl _) _⟩
def zbp (C:Cx) (i:Nat) (z:Int):Int:=if z<0 then zr C i else z
theorem zq {w:World} {j g n q:Nat} {e:TypeId} {z:List Tk} (h:OwnT w j e g n q z) (o:Obj):OwnT (w.alloc o) j e g n q z:=zbV h ((Below.refl _ _).alloc (Nat.le_refl _) _)
theorem zbW {w:World} {b i:Nat} {j:Array Value} {u:Value} {t:TypeId} (h:w.heap[b]? =some (.cells j t (0,0))):(w.setCell ⟨b,i,none⟩ u).heap[b]? =some (.cells (j.setIfInBounds i u) t (0,0)):=by
 simp only[World.setCell,Array.getElem?_modify]
 rw[if_pos trivial,h]
 rfl
theorem zi {w:World} {b c i:Nat} {u:Value} (h:b≠c):(w.setCell ⟨c,i,none⟩ u).heap[b]? =w.heap[b]?:=Below.heap_setCell w ⟨c,i,none⟩ u b h
structure Box (w:World) (b:Nat) (v0 v1 v2 v3 v4 v5 v6 v7 v8 v9 v10 v11:Value):Prop where
 c0:w.cell? ⟨b,0,none⟩=some v0
 c1:w.cell? ⟨b,1,none⟩=some v1
 c2:w.cell? ⟨b,2,none⟩=some v2
 c3:w.cell? ⟨b,3,none⟩=some v3
 c4:w.cell? ⟨b,4,none⟩=some v4
 c5:w.cell? ⟨b,5,none⟩=some v5
 c6:w.cell? ⟨b,6,none⟩=some v6
 c7:w.cell? ⟨b,7,none⟩=some v7
 c8:w.cell? ⟨b,8,none⟩=some v8
 c9:w.cell? ⟨b,9,none⟩=some v9
 c10:w.cell? ⟨b,10,none⟩=some v10
 c11:w.cell? ⟨b,11,none⟩=some v11
 fz: ∀i,w.frozen? ⟨b,i,none⟩=false
theorem zaj {w:World} {b:Nat} {t:TypeId} {q J I K o E z H A D j n:Value} (h:w.heap[b]? =some (.cells #[q,J,I,K,o,E,z,H,A,D,j,n] t (0,0))):Box w b q J I K o E z H A D j n:=by
 constructor<;>simp[World.cell?,World.frozen?,h]
theorem zaS {w:World} {b:Nat} {Y v1 O V X U Q v7 Z N H I q K o D J M L z E A j n:Value} {t:TypeId} (h:w.heap[b]? =some (.cells #[Y,v1,O,V,X,U,Q,v7,Z,N,H,I] t (0,0))):
  ((((((((((((w.setCell ⟨b,0,none⟩ q).setCell ⟨b,1,none⟩ K).setCell ⟨b,2,none⟩ o).setCell ⟨b,3,none⟩ D).setCell ⟨b,4,none⟩ J).setCell ⟨b,5,none⟩ M).setCell ⟨b,6,none⟩ L).setCell ⟨b,7,none⟩ z).setCell ⟨b,8,none⟩ E).setCell ⟨b,9,none⟩ A).setCell ⟨b,10,none⟩ j).setCell ⟨b,11,none⟩ n).heap[b]? =some (.cells #[q,K,o,D,J,M,L,z,E,A,j,n] t (0,0)):=
 by
 have e:=zbW (i:=11) (u:=n) (zbW (i:=10) (u:=j) (zbW (i:=9) (u:=A) (zbW (i:=8) (u:=E) (zbW (i:=7) (u:=z) (zbW (i:=6) (u:=L) (zbW (i:=5) (u:=M) (zbW (i:=4) (u:=J) (zbW (i:=3) (u:=D) (zbW (i:=2) (u:=o) (zbW (i:=1) (u:=K) (zbW (i:=0) (u:=q) h)))))))))))
 rw[e]
 simp
theorem zbD {B:Nat} {a w:World} {b:Nat} (h:Below B a w) (j:B≤b) (H K A E I J L z q D n o:Value):
  Below B a ((((((((((((w.setCell ⟨b,0,none⟩ H).setCell ⟨b,1,none⟩ K).setCell ⟨b,2,none⟩ A).setCell ⟨b,3,none⟩ E).setCell ⟨b,4,none⟩ I).setCell ⟨b,5,none⟩ J).setCell ⟨b,6,none⟩ L).setCell ⟨b,7,none⟩ z).setCell ⟨b,8,none⟩ q).setCell ⟨b,9,none⟩ D).setCell ⟨b,10,none⟩ n).setCell ⟨b,11,none⟩ o):=
 (((((((((((h.setCell j _).setCell j _).setCell j _).setCell j _).setCell j _).setCell j _).setCell j _).setCell j _).setCell j _).setCell j _).setCell j _).setCell j _
theorem zaT (w:World) (a b:Obj):Below w.heap.size w ((w.alloc a).alloc b):=((Below.refl _ _).alloc (Nat.le_refl _) _).alloc (by show _≤(w.heap.push _).size;simp) _
theorem zbq (w:World) (a b:Obj):((w.alloc a).alloc b).heap[w.heap.size+1]? =some b:=by
 have j:(w.alloc a).heap.size=w.heap.size+1:=by show (w.heap.push _).size=_;simp
 rw[←j]
 exact heap_alloc_new _ b
theorem zcz {w j:World} {a b:Obj} (n:Below ((w.alloc a).alloc b).heap.size ((w.alloc a).alloc b) j):j.heap[w.heap.size]? =some a∧j.heap[w.heap.size+1]? =some b:=by
 have e:((w.alloc a).alloc b).heap.size=w.heap.size+2:=by show ((w.heap.push _).push _).size=_;simp
 have o:(w.alloc a).heap.size=w.heap.size+1:=by show (w.heap.push _).size=_;simp
 refine⟨?_,?_⟩
 ·rw[n.block _ (by omega),Below.heap_alloc _ _ _ (by omega)]
  exact heap_alloc_new w a
 ·rw[n.block _ (by omega),←o]
  exact heap_alloc_new _ b
theorem zaZ {w j:World} {a b:Obj} (o:Below ((w.alloc a).alloc b).heap.size ((w.alloc a).alloc b) j):Below w.heap.size w j:=by
 have q:(w.alloc a).heap.size=w.heap.size+1:=by show (w.heap.push _).size=_;simp
 have n:Below w.heap.size w ((w.alloc a).alloc b):=((Below.refl _ _).alloc (Nat.le_refl _) _).alloc (by omega) _
 exact n.trans (o.mono n.size)
theorem zda (C:Cx) (o j n:Nat) (S:Sv) (q:PS) (z:Int) (d:Nat) (w:World) (L:OwnT w n 111 o C.ts.length j C.ts) (Q:C.ts.length≤4000):
  Calls Tryz.prog 135 #[pv C o j S q z d] w fun e K=>e= .returned (pv C o j S q (zbp C q.pos z) d)∧Below w.heap.size w K:=by
 by_cases E:z<0
 ·have A:Hid (zbp C q.pos z=zr C q.pos):=if_pos E
  unfold pv
  go_enter Tryz.func135,Tryz.ntmps135
  go_wp2_with fail
  refine (zlC C o j n S q z d _ (zq (zq L _) _) Q).mono ?_
  rintro e w1 ⟨rfl,I⟩
  obtain⟨H,D⟩:=zcz I
  obtain⟨a0,a1,a2,a3,a4,a5,a6,a7,a8,a9,M,U,af⟩:=zaj H
  obtain⟨X,b1,b2,b3,b4,b5,b6,Y,V,Z,O,N,bf⟩:=zaj D
  have J:Hid (_=_):=D
  clear H D
  go_wp2
  refine bodyPost_ret (results_cell_row rfl _ _ (w.heap.size+1) 53 _ (0,0) _ rfl (zaS ((zi (by omega)).trans J.out)) Tryz.underlying53 rfl (by kernel_rfl)) rfl ?_
  exact⟨by rw[A.out],zbD ((zaZ I).setCell (Nat.le_refl _) _) (Nat.le_succ _) _ _ _ _ _ _ _ _ _ _ _ _⟩
 ·have A:Hid (zbp C q.pos z=z):=if_neg E
  unfold pv
  go_enter Tryz.func135,Tryz.ntmps135
  go_wp2
  refine bodyPost_ret (results_cell_row rfl _ _ (w.heap.size+1) 53 _ (0,0) _ rfl (zbq w _ _) Tryz.underlying53 rfl (by kernel_rfl)) rfl ?_
  exact⟨by rw[A.out],zaT w _ _⟩
end Go.Proofs.YticdggnnpjachaaGreat