/-
 What spec's smallest readers of tokens answer: the walks.
-/
import Derived.Test.YticdggnnpjachaaGreatCcSpecLexAll
namespace Go.Proofs.YticdggnnpjachaaGreat
set_option maxRecDepth 100000
set_option maxHeartbeats 1600000
open Go.RowKit Go.PlainAid
theorem OwnT.cells {w:World} {z g n D:Nat} {e:TypeId} {q:List Tk} (h:OwnT w z e g n D q) {j:Nat} (M:j<n) {d:Tk}:
  w.cell? ⟨g,j*4,none⟩=some (.int .i64 (q.getD j d).kind)∧w.cell? ⟨g,j*4+1,none⟩=some (.string (q.getD j d).text)∧w.cell? ⟨g,j*4+2,none⟩=some (.int .i64 (q.getD j d).num)∧w.cell? ⟨g,j*4+3,none⟩=some (.int .i64 (q.getD j d).pos):=by
 have N:=h.2
 have o: ∀(l:List Tk) (i c:Nat),c<4→i<l.length→(l.flatMap tkL)[i*4+c]? =(tkL (l.getD i d))[c]?:=by
  intro l
  induction l with
  |nil=>intro i c _ A;simp at A
  |cons x l E=>
   intro i c K A
   match i with
   |0=>
    simp only[List.flatMap_cons,Nat.zero_mul,Nat.zero_add,List.getD_cons_zero]
    rw[List.getElem?_append_left (by simp[tkL];omega)]
   |i+1=>
    simp only[List.flatMap_cons,List.getD_cons_succ]
    rw[List.getElem?_append_right (by simp[tkL];omega)]
    have:(i+1)*4+c-(tkL x).length=i*4+c:=by simp[tkL];omega
    rw[this]
    exact E i c K (by simpa using A)
 have H:=o q j 0 (by omega) (by omega)
 have L:=o q j 1 (by omega) (by omega)
 have I:=o q j 2 (by omega) (by omega)
 have J:=o q j 3 (by omega) (by omega)
 rw[h.1.cellAt _ (by omega),h.1.cellAt _ (by omega),h.1.cellAt _ (by omega),h.1.cellAt _ (by omega)]
 exact⟨H,L,I,J⟩
def pv (C:Cx) (gt cap:Nat) (S:Sv) (q:PS) (z:Int) (d:Nat):Value:=
 .agg #[.slice (some ⟨gt,0,none⟩) C.ts.length cap,.int .i64 q.pos,.int .i64 C.fin,.bool C.scr,.slice S.rq.a q.rq.length S.rq.cap,.slice S.im.a q.im.length S.im.cap,.slice S.ep.a q.ep.length S.ep.cap,
  .slice S.st.a q.st.length S.st.cap,.slice S.ex.a q.ex.length S.ex.cap,.slice S.la.a q.la.length S.la.cap,.int .i64 z,.int .i64 d]
theorem zhi {C:Cx} {i:Nat} {k:Int} {s:ByteArray} (h:((ze C i).kind==k)=false):isT C i k s=false:=by rw[isT,h];rfl
theorem zeo {C:Cx} {i:Nat} {k:Int} {s:ByteArray} (h: ¬i<C.ts.length) (j:k≠0):isT C i k s=false:=by
 rw[Bool.eq_false_iff]
 exact fun g=>h (zaz g j)
theorem zg (C:Cx) (M A n:Nat) (S:Sv) (q:PS) (z:Int) (d:Nat) (k:Int) (s:ByteArray) (w:World) (I:OwnT w n 111 M C.ts.length A C.ts) (_:C.ts.length≤4000) (U:k≠0):
  Calls Tryz.prog 69 #[pv C M A S q z d,.int .i64 k,.string s] w fun e O=>e= .returned (.bool (decide (z<0)&&isT C q.pos k s))∧Below w.heap.size w O:=by
 unfold pv
 by_cases K:z<0
 ·have o:decide (z<0)=true:=decide_eq_true K
  by_cases N:q.pos<C.ts.length
  ·obtain⟨J,E,_,_⟩:=I.cells N (d:=⟨0,sNone,0,C.fin⟩)
   have H:=(zak I).1
   change _=some (Value.int .i64 (ze C q.pos).kind) at J
   change _=some (Value.string (ze C q.pos).text) at E
   generalize h:ze C q.pos=t at J E
   cases D:(t.kind==k) with
   |true=>
    cases L:(t.text.toList==s.toList) with
    |true=>
     have j:Hid (isT C q.pos k s=true):=by show isT C q.pos k s=true;simp only[isT,h,D,L,Bool.and_self]
     clear h
     go_enter Tryz.func69,Tryz.ntmps69
     go_wp2
     go_ret
     exact⟨zl (by rw[o,j.out];rfl),(Below.refl _ _).alloc (Nat.le_refl _) _⟩
    |false=>
     have j:Hid (isT C q.pos k s=false):=by show isT C q.pos k s=false;simp only[isT,h,D,L,Bool.and_false]
     clear h
     go_enter Tryz.func69,Tryz.ntmps69
     go_wp2
     go_ret
     exact⟨zl (by rw[o,j.out];rfl),(Below.refl _ _).alloc (Nat.le_refl _) _⟩
   |false=>
    have j:Hid (isT C q.pos k s=false):=zhi (by rw[h];exact D)
    clear h
    go_enter Tryz.func69,Tryz.ntmps69
    go_wp2
    go_ret
    exact⟨zl (by rw[o,j.out];rfl),(Below.refl _ _).alloc (Nat.le_refl _) _⟩
  ·have j:Hid (isT C q.pos k s=false):=zeo N U
   go_enter Tryz.func69,Tryz.ntmps69
   go_wp2
   go_ret
   exact⟨zl (by rw[o,j.out];rfl),(Below.refl _ _).alloc (Nat.le_refl _) _⟩
 ·have o:decide (z<0)=false:=decide_eq_false K
  go_enter Tryz.func69,Tryz.ntmps69
  go_wp2
  go_ret
  exact⟨zl rfl,(Below.refl _ _).alloc (Nat.le_refl _) _⟩
theorem zkp (C:Cx) (A j h:Nat) (S:Sv) (q:PS) (z:Int) (d:Nat) (w:World) (o:OwnT w h 111 A C.ts.length j C.ts) (_:C.ts.length≤4000):
  Calls Tryz.prog 167 #[pv C A j S q z d] w fun e D=>e= .returned (.int .i64 (zq C q.pos))∧Below w.heap.size w D:=by
 unfold pv
 by_cases I:q.pos<C.ts.length
 ·obtain⟨_,_,_,H⟩:=o.cells I (d:=⟨0,sNone,0,C.fin⟩)
  have n:=(zak o).1
  change _=some (Value.int .i64 (zq C q.pos)) at H
  go_enter Tryz.func167,Tryz.ntmps167
  go_wp2
  go_ret
  exact⟨rfl,(Below.refl _ _).alloc (Nat.le_refl _) _⟩
 ·have E:Hid (zq C q.pos=C.fin):=by show zq C q.pos=C.fin;rw[zq,zdb (by omega)]
  go_enter Tryz.func167,Tryz.ntmps167
  go_wp2
  go_ret
  exact⟨zeG (by rw[E.out]),(Below.refl _ _).alloc (Nat.le_refl _) _⟩
def zbi (C:Cx) (i:Nat) (z:Int):Int:=if z<0 then zq C i else z
theorem zo {w:World} {j g n q:Nat} {e:TypeId} {z:List Tk} (h:OwnT w j e g n q z) (o:Obj):OwnT (w.alloc o) j e g n q z:=zbO h ((Below.refl _ _).alloc (Nat.le_refl _) _)
theorem zbP {w:World} {b i:Nat} {j:Array Value} {u:Value} {t:TypeId} (h:w.heap[b]? =some (.cells j t (0,0))):(w.setCell ⟨b,i,none⟩ u).heap[b]? =some (.cells (j.setIfInBounds i u) t (0,0)):=by
 simp only[World.setCell,Array.getElem?_modify]
 rw[if_pos trivial,h]
 rfl
theorem zp {w:World} {b c i:Nat} {u:Value} (h:b≠c):(w.setCell ⟨c,i,none⟩ u).heap[b]? =w.heap[b]?:=Below.heap_setCell w ⟨c,i,none⟩ u b h
structure Box (w:World) (b:Nat) (v0 v1 v2 v3 v4 v5 v6 v7 v8 v9 v10 v11:Value):Prop where
 c0:w.cell? ⟨b,0,none⟩=some v0
 c1:w.cell? ⟨b,1,none⟩=some v1
 c2:w.cell? ⟨b,2,none⟩=some v2
 c3:w.cell? ⟨b,3,none⟩=some v3
 c4:w.cell? ⟨b,4,none⟩=some v4
 c5:w.cell? ⟨b,5,none⟩=some v5
 c6:w.cell? ⟨b,6,none⟩=some v6
 c7:w.cell? ⟨b,7,none⟩=some v7
 c8:w.cell? ⟨b,8,none⟩=some v8
 c9:w.cell? ⟨b,9,none⟩=some v9
 c10:w.cell? ⟨b,10,none⟩=some v10
 c11:w.cell? ⟨b,11,none⟩=some v11
 fz: ∀i,w.frozen? ⟨b,i,none⟩=false
theorem zag {w:World} {b:Nat} {t:TypeId} {H q z A I o K J D E j n:Value} (h:w.heap[b]? =some (.cells #[H,q,z,A,I,o,K,J,D,E,j,n] t (0,0))):Box w b H q z A I o K J D E j n:=by
 constructor<;>simp[World.cell?,World.frozen?,h]
theorem zaL {w:World} {b:Nat} {O v1 N Y v4 U v6 Z V X o M H J I L E A z q D K n j:Value} {t:TypeId} (h:w.heap[b]? =some (.cells #[O,v1,N,Y,v4,U,v6,Z,V,X,o,M] t (0,0))):
  ((((((((((((w.setCell ⟨b,0,none⟩ H).setCell ⟨b,1,none⟩ J).setCell ⟨b,2,none⟩ I).setCell ⟨b,3,none⟩ L).setCell ⟨b,4,none⟩ E).setCell ⟨b,5,none⟩ A).setCell ⟨b,6,none⟩ z).setCell ⟨b,7,none⟩ q).setCell ⟨b,8,none⟩ D).setCell ⟨b,9,none⟩ K).setCell ⟨b,10,none⟩ n).setCell ⟨b,11,none⟩ j).heap[b]? =some (.cells #[H,J,I,L,E,A,z,q,D,K,n,j] t (0,0)):=
 by
 have e:=zbP (i:=11) (u:=j) (zbP (i:=10) (u:=n) (zbP (i:=9) (u:=K) (zbP (i:=8) (u:=D) (zbP (i:=7) (u:=q) (zbP (i:=6) (u:=z) (zbP (i:=5) (u:=A) (zbP (i:=4) (u:=E) (zbP (i:=3) (u:=L) (zbP (i:=2) (u:=I) (zbP (i:=1) (u:=J) (zbP (i:=0) (u:=H) h)))))))))))
 rw[e]
 simp
theorem zb5 {B:Nat} {a w:World} {b:Nat} (h:Below B a w) (j:B≤b) (L z q I E K J H D A n o:Value):
  Below B a ((((((((((((w.setCell ⟨b,0,none⟩ L).setCell ⟨b,1,none⟩ z).setCell ⟨b,2,none⟩ q).setCell ⟨b,3,none⟩ I).setCell ⟨b,4,none⟩ E).setCell ⟨b,5,none⟩ K).setCell ⟨b,6,none⟩ J).setCell ⟨b,7,none⟩ H).setCell ⟨b,8,none⟩ D).setCell ⟨b,9,none⟩ A).setCell ⟨b,10,none⟩ n).setCell ⟨b,11,none⟩ o):=
 (((((((((((h.setCell j _).setCell j _).setCell j _).setCell j _).setCell j _).setCell j _).setCell j _).setCell j _).setCell j _).setCell j _).setCell j _).setCell j _
theorem zaM (w:World) (a b:Obj):Below w.heap.size w ((w.alloc a).alloc b):=((Below.refl _ _).alloc (Nat.le_refl _) _).alloc (by show _≤(w.heap.push _).size;simp) _
theorem zbj (w:World) (a b:Obj):((w.alloc a).alloc b).heap[w.heap.size+1]? =some b:=by
 have h:(w.alloc a).heap.size=w.heap.size+1:=by show (w.heap.push _).size=_;simp
 rw[←h]
 exact heap_alloc_new _ b
theorem zcn {w h:World} {a b:Obj} (j:Below ((w.alloc a).alloc b).heap.size ((w.alloc a).alloc b) h):h.heap[w.heap.size]? =some a∧h.heap[w.heap.size+1]? =some b:=by
 have e:((w.alloc a).alloc b).heap.size=w.heap.size+2:=by show ((w.heap.push _).push _).size=_;simp
 have n:(w.alloc a).heap.size=w.heap.size+1:=by show (w.heap.push _).size=_;simp
 refine⟨?_,?_⟩
 ·rw[j.block _ (by omega),Below.heap_alloc _ _ _ (by omega)]
  exact heap_alloc_new w a
 ·rw[j.block _ (by omega),←n]
  exact heap_alloc_new _ b
theorem zaR {w h:World} {a b:Obj} (n:Below ((w.alloc a).alloc b).heap.size ((w.alloc a).alloc b) h):Below w.heap.size w h:=by
 have o:(w.alloc a).heap.size=w.heap.size+1:=by show (w.heap.push _).size=_;simp
 have j:Below w.heap.size w ((w.alloc a).alloc b):=((Below.refl _ _).alloc (Nat.le_refl _) _).alloc (by omega) _
 exact j.trans (n.mono j.size)
theorem zcL (C:Cx) (n h j:Nat) (S:Sv) (q:PS) (z:Int) (d:Nat) (w:World) (J:OwnT w j 111 n C.ts.length h C.ts) (N:C.ts.length≤4000):
  Calls Tryz.prog 135 #[pv C n h S q z d] w fun e M=>e= .returned (pv C n h S q (zbi C q.pos z) d)∧Below w.heap.size w M:=by
 by_cases D:z<0
 ·have o:Hid (zbi C q.pos z=zq C q.pos):=if_pos D
  unfold pv
  go_enter Tryz.func135,Tryz.ntmps135
  go_wp2_with fail
  refine (zkp C n h j S q z d _ (zo (zo J _) _) N).mono ?_
  rintro e w1 ⟨rfl,H⟩
  obtain⟨E,A⟩:=zcn H
  obtain⟨a0,a1,a2,a3,V,a5,a6,a7,a8,a9,L,K,af⟩:=zag E
  obtain⟨b0,b1,b2,b3,b4,Z,b6,b7,X,Y,I,U,bf⟩:=zag A
  have O:Hid (_=_):=A
  clear E A
  go_wp2
  refine bodyPost_ret (results_cell_row rfl _ _ (w.heap.size+1) 53 _ (0,0) _ rfl (zaL ((zp (by omega)).trans O.out)) Tryz.underlying53 rfl (by kernel_rfl)) rfl ?_
  exact⟨by rw[o.out],zb5 ((zaR H).setCell (Nat.le_refl _) _) (Nat.le_succ _) _ _ _ _ _ _ _ _ _ _ _ _⟩
 ·have o:Hid (zbi C q.pos z=z):=if_neg D
  unfold pv
  go_enter Tryz.func135,Tryz.ntmps135
  go_wp2
  refine bodyPost_ret (results_cell_row rfl _ _ (w.heap.size+1) 53 _ (0,0) _ rfl (zbj w _ _) Tryz.underlying53 rfl (by kernel_rfl)) rfl ?_
  exact⟨by rw[o.out],zaM w _ _⟩
end Go.Proofs.YticdggnnpjachaaGreat