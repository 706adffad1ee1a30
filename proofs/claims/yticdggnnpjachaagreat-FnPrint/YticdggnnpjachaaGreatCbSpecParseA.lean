/-
 What spec's smallest readers of tokens answer: the walks.
-/
import Derived.Test.YticdggnnpjachaaGreatCbParseMemToModMem
import Derived.Test.YticdggnnpjachaaGreatCbSpecLexAll
namespace Go.Proofs.YticdggnnpjachaaGreat
set_option maxRecDepth 100000
set_option maxHeartbeats 1600000
open Go.RowKit Go.PlainAid
theorem OwnT.cells {w:World} {z g n D:Nat} {e:TypeId} {q:List Tk} (h:OwnT w z e g n D q) {j:Nat} (N:j<n) {d:Tk}:
  w.cell? ⟨g,j*4,none⟩=some (.int .i64 (q.getD j d).kind)∧w.cell? ⟨g,j*4+1,none⟩=some (.string (q.getD j d).text)∧w.cell? ⟨g,j*4+2,none⟩=some (.int .i64 (q.getD j d).num)∧w.cell? ⟨g,j*4+3,none⟩=some (.int .i64 (q.getD j d).pos):=by
 have M:=h.2
 have o: ∀(l:List Tk) (i c:Nat),c<4→i<l.length→(l.flatMap tkL)[i*4+c]? =(tkL (l.getD i d))[c]?:=by
  intro l
  induction l with
  |nil=>intro i c _ A;simp at A
  |cons x l H=>
   intro i c E A
   match i with
   |0=>
    simp only[List.flatMap_cons,Nat.zero_mul,Nat.zero_add,List.getD_cons_zero]
    rw[List.getElem?_append_left (by simp[tkL];omega)]
   |i+1=>
    simp only[List.flatMap_cons,List.getD_cons_succ]
    rw[List.getElem?_append_right (by simp[tkL];omega)]
    have:(i+1)*4+c-(tkL x).length=i*4+c:=by simp[tkL];omega
    rw[this]
    exact H i c E (by simpa using A)
 have L:=o q j 0 (by omega) (by omega)
 have I:=o q j 1 (by omega) (by omega)
 have K:=o q j 2 (by omega) (by omega)
 have J:=o q j 3 (by omega) (by omega)
 rw[h.1.cellAt _ (by omega),h.1.cellAt _ (by omega),h.1.cellAt _ (by omega),h.1.cellAt _ (by omega)]
 exact⟨L,I,K,J⟩
def pv (C:Cx) (gt cap:Nat) (S:Sv) (q:PS) (z:Int) (d:Nat):Value:=
 .agg #[.slice (some ⟨gt,0,none⟩) C.ts.length cap,.int .i64 q.pos,.int .i64 C.fin,.bool C.scr,.slice S.rq.a q.rq.length S.rq.cap,.slice S.im.a q.im.length S.im.cap,.slice S.ep.a q.ep.length S.ep.cap,
  .slice S.st.a q.st.length S.st.cap,.slice S.ex.a q.ex.length S.ex.cap,.slice S.la.a q.la.length S.la.cap,.int .i64 z,.int .i64 d]
theorem zhY {C:Cx} {i:Nat} {k:Int} {s:ByteArray} (h:((ze C i).kind==k)=false):isT C i k s=false:=by rw[isT,h];rfl
theorem zeE {C:Cx} {i:Nat} {k:Int} {s:ByteArray} (h: ¬i<C.ts.length) (j:k≠0):isT C i k s=false:=by
 rw[Bool.eq_false_iff]
 exact fun g=>h (za1 g j)
theorem zh (C:Cx) (M A o:Nat) (S:Sv) (q:PS) (z:Int) (d:Nat) (k:Int) (s:ByteArray) (w:World) (I:OwnT w o 111 M C.ts.length A C.ts) (_:C.ts.length≤4000) (U:k≠0):
  Calls Tryz.prog 69 #[pv C M A S q z d,.int .i64 k,.string s] w fun e Q=>e= .returned (.bool (decide (z<0)&&isT C q.pos k s))∧Below w.heap.size w Q:=by
 unfold pv
 by_cases L:z<0
 ·have D:decide (z<0)=true:=decide_eq_true L
  by_cases O:q.pos<C.ts.length
  ·obtain⟨K,H,_,_⟩:=I.cells O (d:=⟨0,sNone,0,C.fin⟩)
   have J:=(zan I).1
   change _=some (Value.int .i64 (ze C q.pos).kind) at K
   change _=some (Value.string (ze C q.pos).text) at H
   generalize j:ze C q.pos=t at K H
   cases E:(t.kind==k) with
   |true=>
    cases N:(t.text.toList==s.toList) with
    |true=>
     have n:Hid (isT C q.pos k s=true):=by show isT C q.pos k s=true;simp only[isT,j,E,N,Bool.and_self]
     clear j
     go_enter Tryz.func69,Tryz.ntmps69
     go_wp2
     go_ret
     exact⟨zm (by rw[D,n.out];rfl),(Below.refl _ _).alloc (Nat.le_refl _) _⟩
    |false=>
     have n:Hid (isT C q.pos k s=false):=by show isT C q.pos k s=false;simp only[isT,j,E,N,Bool.and_false]
     clear j
     go_enter Tryz.func69,Tryz.ntmps69
     go_wp2
     go_ret
     exact⟨zm (by rw[D,n.out];rfl),(Below.refl _ _).alloc (Nat.le_refl _) _⟩
   |false=>
    have n:Hid (isT C q.pos k s=false):=zhY (by rw[j];exact E)
    clear j
    go_enter Tryz.func69,Tryz.ntmps69
    go_wp2
    go_ret
    exact⟨zm (by rw[D,n.out];rfl),(Below.refl _ _).alloc (Nat.le_refl _) _⟩
  ·have n:Hid (isT C q.pos k s=false):=zeE O U
   go_enter Tryz.func69,Tryz.ntmps69
   go_wp2
   go_ret
   exact⟨zm (by rw[D,n.out];rfl),(Below.refl _ _).alloc (Nat.le_refl _) _⟩
 ·have D:decide (z<0)=false:=decide_eq_false L
  go_enter Tryz.func69,Tryz.ntmps69
  go_wp2
  go_ret
  exact⟨zm rfl,(Below.refl _ _).alloc (Nat.le_refl _) _⟩
theorem zlC (C:Cx) (D n j:Nat) (S:Sv) (q:PS) (z:Int) (d:Nat) (w:World) (o:OwnT w j 111 D C.ts.length n C.ts) (_:C.ts.length≤4000):
  Calls Tryz.prog 167 #[pv C D n S q z d] w fun e E=>e= .returned (.int .i64 (zr C q.pos))∧Below w.heap.size w E:=by
 unfold pv
 by_cases J:q.pos<C.ts.length
 ·obtain⟨_,_,_,H⟩:=o.cells J (d:=⟨0,sNone,0,C.fin⟩)
  have A:=(zan o).1
  change _=some (Value.int .i64 (zr C q.pos)) at H
  go_enter Tryz.func167,Tryz.ntmps167
  go_wp2
  go_ret
  exact⟨rfl,(Below.refl _ _).alloc (Nat.le_refl _) _⟩
 ·have I:Hid (zr C q.pos=C.fin):=by show zr C q.pos=C.fin;rw[zr,zdl (by omega)]
  go_enter Tryz.func167,Tryz.ntmps167
  go_wp2
  go_ret
  exact⟨zdM (by rw[I.out]),(Below.refl _ _).alloc (Nat.le_refl _) _⟩
def zbp (C:Cx) (i:Nat) (z:Int):Int:=if z<0 then zr C i else z
theorem zq {w:World} {j g n q:Nat} {e:TypeId} {z:List Tk} (h:OwnT w j e g n q z) (o:Obj):OwnT (w.alloc o) j e g n q z:=zbV h ((Below.refl _ _).alloc (Nat.le_refl _) _)
theorem zbW {w:World} {b i:Nat} {j:Array Value} {u:Value} {t:TypeId} (h:w.heap[b]? =some (.cells j t (0,0))):(w.setCell ⟨b,i,none⟩ u).heap[b]? =some (.cells (j.setIfInBounds i u) t (0,0)):=by
 simp only[World.setCell,Array.getElem?_modify]
 rw[if_pos trivial,h]
 rfl
theorem zi {w:World} {b c i:Nat} {u:Value} (h:b≠c):(w.setCell ⟨c,i,none⟩ u).heap[b]? =w.heap[b]?:=Below.heap_setCell w ⟨c,i,none⟩ u b h
structure Box (w:World) (b:Nat) (v0 v1 v2 v3 v4 v5 v6 v7 v8 v9 v10 v11:Value):Prop where
 c0:w.cell? ⟨b,0,none⟩=some v0
 c1:w.cell? ⟨b,1,none⟩=some v1
 c2:w.cell? ⟨b,2,none⟩=some v2
 c3:w.cell? ⟨b,3,none⟩=some v3
 c4:w.cell? ⟨b,4,none⟩=some v4
 c5:w.cell? ⟨b,5,none⟩=some v5
 c6:w.cell? ⟨b,6,none⟩=some v6
 c7:w.cell? ⟨b,7,none⟩=some v7
 c8:w.cell? ⟨b,8,none⟩=some v8
 c9:w.cell? ⟨b,9,none⟩=some v9
 c10:w.cell? ⟨b,10,none⟩=some v10
 c11:w.cell? ⟨b,11,none⟩=some v11
 fz: ∀i,w.frozen? ⟨b,i,none⟩=false
theorem zaj {w:World} {b:Nat} {t:TypeId} {I K z A o D q H E J j n:Value} (h:w.heap[b]? =some (.cells #[I,K,z,A,o,D,q,H,E,J,j,n] t (0,0))):Box w b I K z A o D q H E J j n:=by
 constructor<;>simp[World.cell?,World.frozen?,h]
theorem zaS {w:World} {b:Nat} {v0 X Q N Y O Z V U v9 J K E M q H I D z A L o n j:Value} {t:TypeId} (h:w.heap[b]? =some (.cells #[v0,X,Q,N,Y,O,Z,V,U,v9,J,K] t (0,0))):
  ((((((((((((w.setCell ⟨b,0,none⟩ E).setCell ⟨b,1,none⟩ M).setCell ⟨b,2,none⟩ q).setCell ⟨b,3,none⟩ H).setCell ⟨b,4,none⟩ I).setCell ⟨b,5,none⟩ D).setCell ⟨b,6,none⟩ z).setCell ⟨b,7,none⟩ A).setCell ⟨b,8,none⟩ L).setCell ⟨b,9,none⟩ o).setCell ⟨b,10,none⟩ n).setCell ⟨b,11,none⟩ j).heap[b]? =some (.cells #[E,M,q,H,I,D,z,A,L,o,n,j] t (0,0)):=
 by
 have e:=zbW (i:=11) (u:=j) (zbW (i:=10) (u:=n) (zbW (i:=9) (u:=o) (zbW (i:=8) (u:=L) (zbW (i:=7) (u:=A) (zbW (i:=6) (u:=z) (zbW (i:=5) (u:=D) (zbW (i:=4) (u:=I) (zbW (i:=3) (u:=H) (zbW (i:=2) (u:=q) (zbW (i:=1) (u:=M) (zbW (i:=0) (u:=E) h)))))))))))
 rw[e]
 simp
theorem zbD {B:Nat} {a w:World} {b:Nat} (h:Below B a w) (j:B≤b) (A K I H J L E q z D o n:Value):
  Below B a ((((((((((((w.setCell ⟨b,0,none⟩ A).setCell ⟨b,1,none⟩ K).setCell ⟨b,2,none⟩ I).setCell ⟨b,3,none⟩ H).setCell ⟨b,4,none⟩ J).setCell ⟨b,5,none⟩ L).setCell ⟨b,6,none⟩ E).setCell ⟨b,7,none⟩ q).setCell ⟨b,8,none⟩ z).setCell ⟨b,9,none⟩ D).setCell ⟨b,10,none⟩ o).setCell ⟨b,11,none⟩ n):=
 (((((((((((h.setCell j _).setCell j _).setCell j _).setCell j _).setCell j _).setCell j _).setCell j _).setCell j _).setCell j _).setCell j _).setCell j _).setCell j _
theorem zaT (w:World) (a b:Obj):Below w.heap.size w ((w.alloc a).alloc b):=((Below.refl _ _).alloc (Nat.le_refl _) _).alloc (by show _≤(w.heap.push _).size;simp) _
theorem zbq (w:World) (a b:Obj):((w.alloc a).alloc b).heap[w.heap.size+1]? =some b:=by
 have j:(w.alloc a).heap.size=w.heap.size+1:=by show (w.heap.push _).size=_;simp
 rw[←j]
 exact heap_alloc_new _ b
theorem zcz {w j:World} {a b:Obj} (n:Below ((w.alloc a).alloc b).heap.size ((w.alloc a).alloc b) j):j.heap[w.heap.size]? =some a∧j.heap[w.heap.size+1]? =some b:=by
 have e:((w.alloc a).alloc b).heap.size=w.heap.size+2:=by show ((w.heap.push _).push _).size=_;simp
 have o:(w.alloc a).heap.size=w.heap.size+1:=by show (w.heap.push _).size=_;simp
 refine⟨?_,?_⟩
 ·rw[n.block _ (by omega),Below.heap_alloc _ _ _ (by omega)]
  exact heap_alloc_new w a
 ·rw[n.block _ (by omega),←o]
  exact heap_alloc_new _ b
theorem zaZ {w n:World} {a b:Obj} (o:Below ((w.alloc a).alloc b).heap.size ((w.alloc a).alloc b) n):Below w.heap.size w n:=by
 have q:(w.alloc a).heap.size=w.heap.size+1:=by show (w.heap.push _).size=_;simp
 have j:Below w.heap.size w ((w.alloc a).alloc b):=((Below.refl _ _).alloc (Nat.le_refl _) _).alloc (by omega) _
 exact j.trans (o.mono j.size)
theorem zda (C:Cx) (o j n:Nat) (S:Sv) (q:PS) (z:Int) (d:Nat) (w:World) (N:OwnT w n 111 o C.ts.length j C.ts) (J:C.ts.length≤4000):
  Calls Tryz.prog 135 #[pv C o j S q z d] w fun e M=>e= .returned (pv C o j S q (zbp C q.pos z) d)∧Below w.heap.size w M:=by
 by_cases E:z<0
 ·have A:Hid (zbp C q.pos z=zr C q.pos):=if_pos E
  unfold pv
  go_enter Tryz.func135,Tryz.ntmps135
  go_wp2_with fail
  refine (zlC C o j n S q z d _ (zq (zq N _) _) J).mono ?_
  rintro e X ⟨rfl,I⟩
  obtain⟨H,D⟩:=zcz I
  obtain⟨a0,a1,a2,a3,a4,V,a6,a7,a8,a9,L,O,af⟩:=zaj H
  obtain⟨Z,b1,b2,Y,b4,b5,b6,b7,b8,b9,U,Q,bf⟩:=zaj D
  have K:Hid (_=_):=D
  clear H D
  go_wp2
  refine bodyPost_ret (results_cell_row rfl _ _ (w.heap.size+1) 53 _ (0,0) _ rfl (zaS ((zi (by omega)).trans K.out)) Tryz.underlying53 rfl (by kernel_rfl)) rfl ?_
  exact⟨by rw[A.out],zbD ((zaZ I).setCell (Nat.le_refl _) _) (Nat.le_succ _) _ _ _ _ _ _ _ _ _ _ _ _⟩
 ·have A:Hid (zbp C q.pos z=z):=if_neg E
  unfold pv
  go_enter Tryz.func135,Tryz.ntmps135
  go_wp2
  refine bodyPost_ret (results_cell_row rfl _ _ (w.heap.size+1) 53 _ (0,0) _ rfl (zbq w _ _) Tryz.underlying53 rfl (by kernel_rfl)) rfl ?_
  exact⟨by rw[A.out],zaT w _ _⟩
end Go.Proofs.YticdggnnpjachaaGreat