/-
 What spec's smallest readers of tokens answer: the walks.
-/
import Derived.Test.YticdggnnpjachaaGreatCcSpecLexAll
namespace Go.Proofs.YticdggnnpjachaaGreat
set_option maxRecDepth 100000
set_option maxHeartbeats 1600000
open Go.RowKit Go.PlainAid
theorem OwnT.cells {w:World} {z g n A:Nat} {e:TypeId} {q:List Tk} (h:OwnT w z e g n A q) {j:Nat} (N:j<n) {d:Tk}:
  w.cell? ⟨g,j*4,none⟩=some (.int .i64 (q.getD j d).kind)∧w.cell? ⟨g,j*4+1,none⟩=some (.string (q.getD j d).text)∧w.cell? ⟨g,j*4+2,none⟩=some (.int .i64 (q.getD j d).num)∧w.cell? ⟨g,j*4+3,none⟩=some (.int .i64 (q.getD j d).pos):=by
 have M:=h.2
 have o: ∀(l:List Tk) (i c:Nat),c<4→i<l.length→(l.flatMap tkL)[i*4+c]? =(tkL (l.getD i d))[c]?:=by
  intro l
  induction l with
  |nil=>intro i c _ D;simp at D
  |cons x l J=>
   intro i c E D
   match i with
   |0=>
    simp only[List.flatMap_cons,Nat.zero_mul,Nat.zero_add,List.getD_cons_zero]
    rw[List.getElem?_append_left (by simp[tkL];omega)]
   |i+1=>
    simp only[List.flatMap_cons,List.getD_cons_succ]
    rw[List.getElem?_append_right (by simp[tkL];omega)]
    have:(i+1)*4+c-(tkL x).length=i*4+c:=by simp[tkL];omega
    rw[this]
    exact J i c E (by simpa using D)
 have L:=o q j 0 (by omega) (by omega)
 have I:=o q j 1 (by omega) (by omega)
 have H:=o q j 2 (by omega) (by omega)
 have K:=o q j 3 (by omega) (by omega)
 rw[h.1.cellAt _ (by omega),h.1.cellAt _ (by omega),h.1.cellAt _ (by omega),h.1.cellAt _ (by omega)]
 exact⟨L,I,H,K⟩
def pv (C:Cx) (gt cap:Nat) (S:Sv) (q:PS) (z:Int) (d:Nat):Value:=
 .agg #[.slice (some ⟨gt,0,none⟩) C.ts.length cap,.int .i64 q.pos,.int .i64 C.fin,.bool C.scr,.slice S.rq.a q.rq.length S.rq.cap,.slice S.im.a q.im.length S.im.cap,.slice S.ep.a q.ep.length S.ep.cap,
  .slice S.st.a q.st.length S.st.cap,.slice S.ex.a q.ex.length S.ex.cap,.slice S.la.a q.la.length S.la.cap,.int .i64 z,.int .i64 d]
theorem zhi {C:Cx} {i:Nat} {k:Int} {s:ByteArray} (h:((ze C i).kind==k)=false):isT C i k s=false:=by rw[isT,h];rfl
theorem zeo {C:Cx} {i:Nat} {k:Int} {s:ByteArray} (h: ¬i<C.ts.length) (j:k≠0):isT C i k s=false:=by
 rw[Bool.eq_false_iff]
 exact fun g=>h (zaz g j)
theorem zg (C:Cx) (L o A:Nat) (S:Sv) (q:PS) (z:Int) (d:Nat) (k:Int) (s:ByteArray) (w:World) (N:OwnT w A 111 L C.ts.length o C.ts) (_:C.ts.length≤4000) (U:k≠0):
  Calls Tryz.prog 69 #[pv C L o S q z d,.int .i64 k,.string s] w fun e O=>e= .returned (.bool (decide (z<0)&&isT C q.pos k s))∧Below w.heap.size w O:=by
 unfold pv
 by_cases I:z<0
 ·have n:decide (z<0)=true:=decide_eq_true I
  by_cases K:q.pos<C.ts.length
  ·obtain⟨J,H,_,_⟩:=N.cells K (d:=⟨0,sNone,0,C.fin⟩)
   have E:=(zak N).1
   change _=some (Value.int .i64 (ze C q.pos).kind) at J
   change _=some (Value.string (ze C q.pos).text) at H
   generalize h:ze C q.pos=t at J H
   cases D:(t.kind==k) with
   |true=>
    cases M:(t.text.toList==s.toList) with
    |true=>
     have j:Hid (isT C q.pos k s=true):=by show isT C q.pos k s=true;simp only[isT,h,D,M,Bool.and_self]
     clear h
     go_enter Tryz.func69,Tryz.ntmps69
     go_wp2
     go_ret
     exact⟨zl (by rw[n,j.out];rfl),(Below.refl _ _).alloc (Nat.le_refl _) _⟩
    |false=>
     have j:Hid (isT C q.pos k s=false):=by show isT C q.pos k s=false;simp only[isT,h,D,M,Bool.and_false]
     clear h
     go_enter Tryz.func69,Tryz.ntmps69
     go_wp2
     go_ret
     exact⟨zl (by rw[n,j.out];rfl),(Below.refl _ _).alloc (Nat.le_refl _) _⟩
   |false=>
    have j:Hid (isT C q.pos k s=false):=zhi (by rw[h];exact D)
    clear h
    go_enter Tryz.func69,Tryz.ntmps69
    go_wp2
    go_ret
    exact⟨zl (by rw[n,j.out];rfl),(Below.refl _ _).alloc (Nat.le_refl _) _⟩
  ·have j:Hid (isT C q.pos k s=false):=zeo K U
   go_enter Tryz.func69,Tryz.ntmps69
   go_wp2
   go_ret
   exact⟨zl (by rw[n,j.out];rfl),(Below.refl _ _).alloc (Nat.le_refl _) _⟩
 ·have n:decide (z<0)=false:=decide_eq_false I
  go_enter Tryz.func69,Tryz.ntmps69
  go_wp2
  go_ret
  exact⟨zl rfl,(Below.refl _ _).alloc (Nat.le_refl _) _⟩
theorem zkp (C:Cx) (o h j:Nat) (S:Sv) (q:PS) (z:Int) (d:Nat) (w:World) (A:OwnT w j 111 o C.ts.length h C.ts) (_:C.ts.length≤4000):
  Calls Tryz.prog 167 #[pv C o h S q z d] w fun e D=>e= .returned (.int .i64 (zq C q.pos))∧Below w.heap.size w D:=by
 unfold pv
 by_cases H:q.pos<C.ts.length
 ·obtain⟨_,_,_,E⟩:=A.cells H (d:=⟨0,sNone,0,C.fin⟩)
  have n:=(zak A).1
  change _=some (Value.int .i64 (zq C q.pos)) at E
  go_enter Tryz.func167,Tryz.ntmps167
  go_wp2
  go_ret
  exact⟨rfl,(Below.refl _ _).alloc (Nat.le_refl _) _⟩
 ·have I:Hid (zq C q.pos=C.fin):=by show zq C q.pos=C.fin;rw[zq,zdb (by omega)]
  go_enter Tryz.func167,Tryz.ntmps167
  go_wp2
  go_ret
  exact⟨zeG (by rw[I.out]),(Below.refl _ _).alloc (Nat.le_refl _) _⟩
def zbi (C:Cx) (i:Nat) (z:Int):Int:=if z<0 then zq C i else z
theorem zo {w:World} {j g n q:Nat} {e:TypeId} {z:List Tk} (h:OwnT w j e g n q z) (o:Obj):OwnT (w.alloc o) j e g n q z:=zbO h ((Below.refl _ _).alloc (Nat.le_refl _) _)
theorem zbP {w:World} {b i:Nat} {j:Array Value} {u:Value} {t:TypeId} (h:w.heap[b]? =some (.cells j t (0,0))):(w.setCell ⟨b,i,none⟩ u).heap[b]? =some (.cells (j.setIfInBounds i u) t (0,0)):=by
 simp only[World.setCell,Array.getElem?_modify]
 rw[if_pos trivial,h]
 rfl
theorem zp {w:World} {b c i:Nat} {u:Value} (h:b≠c):(w.setCell ⟨c,i,none⟩ u).heap[b]? =w.heap[b]?:=Below.heap_setCell w ⟨c,i,none⟩ u b h
structure Box (w:World) (b:Nat) (v0 v1 v2 v3 v4 v5 v6 v7 v8 v9 v10 v11:Value):Prop where
 c0:w.cell? ⟨b,0,none⟩=some v0
 c1:w.cell? ⟨b,1,none⟩=some v1
 c2:w.cell? ⟨b,2,none⟩=some v2
 c3:w.cell? ⟨b,3,none⟩=some v3
 c4:w.cell? ⟨b,4,none⟩=some v4
 c5:w.cell? ⟨b,5,none⟩=some v5
 c6:w.cell? ⟨b,6,none⟩=some v6
 c7:w.cell? ⟨b,7,none⟩=some v7
 c8:w.cell? ⟨b,8,none⟩=some v8
 c9:w.cell? ⟨b,9,none⟩=some v9
 c10:w.cell? ⟨b,10,none⟩=some v10
 c11:w.cell? ⟨b,11,none⟩=some v11
 fz: ∀i,w.frozen? ⟨b,i,none⟩=false
theorem zag {w:World} {b:Nat} {t:TypeId} {q o z D E K H J A I j n:Value} (h:w.heap[b]? =some (.cells #[q,o,z,D,E,K,H,J,A,I,j,n] t (0,0))):Box w b q o z D E K H J A I j n:=by
 constructor<;>simp[World.cell?,World.frozen?,h]
theorem zaL {w:World} {b:Nat} {X V Y v3 N U Z v7 v8 O J A q z H o D L I E K M n j:Value} {t:TypeId} (h:w.heap[b]? =some (.cells #[X,V,Y,v3,N,U,Z,v7,v8,O,J,A] t (0,0))):
  ((((((((((((w.setCell ⟨b,0,none⟩ q).setCell ⟨b,1,none⟩ z).setCell ⟨b,2,none⟩ H).setCell ⟨b,3,none⟩ o).setCell ⟨b,4,none⟩ D).setCell ⟨b,5,none⟩ L).setCell ⟨b,6,none⟩ I).setCell ⟨b,7,none⟩ E).setCell ⟨b,8,none⟩ K).setCell ⟨b,9,none⟩ M).setCell ⟨b,10,none⟩ n).setCell ⟨b,11,none⟩ j).heap[b]? =some (.cells #[q,z,H,o,D,L,I,E,K,M,n,j] t (0,0)):=
 by
 have e:=zbP (i:=11) (u:=j) (zbP (i:=10) (u:=n) (zbP (i:=9) (u:=M) (zbP (i:=8) (u:=K) (zbP (i:=7) (u:=E) (zbP (i:=6) (u:=I) (zbP (i:=5) (u:=L) (zbP (i:=4) (u:=D) (zbP (i:=3) (u:=o) (zbP (i:=2) (u:=H) (zbP (i:=1) (u:=z) (zbP (i:=0) (u:=q) h)))))))))))
 rw[e]
 simp
theorem zb5 {B:Nat} {a w:World} {b:Nat} (h:Below B a w) (j:B≤b) (E L J D z A K I q H n o:Value):
  Below B a ((((((((((((w.setCell ⟨b,0,none⟩ E).setCell ⟨b,1,none⟩ L).setCell ⟨b,2,none⟩ J).setCell ⟨b,3,none⟩ D).setCell ⟨b,4,none⟩ z).setCell ⟨b,5,none⟩ A).setCell ⟨b,6,none⟩ K).setCell ⟨b,7,none⟩ I).setCell ⟨b,8,none⟩ q).setCell ⟨b,9,none⟩ H).setCell ⟨b,10,none⟩ n).setCell ⟨b,11,none⟩ o):=
 (((((((((((h.setCell j _).setCell j _).setCell j _).setCell j _).setCell j _).setCell j _).setCell j _).setCell j _).setCell j _).setCell j _).setCell j _).setCell j _
theorem zaM (w:World) (a b:Obj):Below w.heap.size w ((w.alloc a).alloc b):=((Below.refl _ _).alloc (Nat.le_refl _) _).alloc (by show _≤(w.heap.push _).size;simp) _
theorem zbj (w:World) (a b:Obj):((w.alloc a).alloc b).heap[w.heap.size+1]? =some b:=by
 have h:(w.alloc a).heap.size=w.heap.size+1:=by show (w.heap.push _).size=_;simp
 rw[←h]
 exact heap_alloc_new _ b
theorem zcn {w h:World} {a b:Obj} (j:Below ((w.alloc a).alloc b).heap.size ((w.alloc a).alloc b) h):h.heap[w.heap.size]? =some a∧h.heap[w.heap.size+1]? =some b:=by
 have e:((w.alloc a).alloc b).heap.size=w.heap.size+2:=by show ((w.heap.push _).push _).size=_;simp
 have n:(w.alloc a).heap.size=w.heap.size+1:=by show (w.heap.push _).size=_;simp
 refine⟨?_,?_⟩
 ·rw[j.block _ (by omega),Below.heap_alloc _ _ _ (by omega)]
  exact heap_alloc_new w a
 ·rw[j.block _ (by omega),←n]
  exact heap_alloc_new _ b
theorem zaR {w j:World} {a b:Obj} (n:Below ((w.alloc a).alloc b).heap.size ((w.alloc a).alloc b) j):Below w.heap.size w j:=by
 have o:(w.alloc a).heap.size=w.heap.size+1:=by show (w.heap.push _).size=_;simp
 have h:Below w.heap.size w ((w.alloc a).alloc b):=((Below.refl _ _).alloc (Nat.le_refl _) _).alloc (by omega) _
 exact h.trans (n.mono h.size)
theorem zcL (C:Cx) (n h j:Nat) (S:Sv) (q:PS) (z:Int) (d:Nat) (w:World) (L:OwnT w j 111 n C.ts.length h C.ts) (O:C.ts.length≤4000):
  Calls Tryz.prog 135 #[pv C n h S q z d] w fun e N=>e= .returned (pv C n h S q (zbi C q.pos z) d)∧Below w.heap.size w N:=by
 by_cases H:z<0
 ·have o:Hid (zbi C q.pos z=zq C q.pos):=if_pos H
  unfold pv
  go_enter Tryz.func135,Tryz.ntmps135
  go_wp2_with fail
  refine (zkp C n h j S q z d _ (zo (zo L _) _) O).mono ?_
  rintro e w1 ⟨rfl,E⟩
  obtain⟨D,A⟩:=zcn E
  obtain⟨a0,a1,a2,a3,a4,a5,a6,Y,a8,Z,J,U,af⟩:=zag D
  obtain⟨b0,b1,V,b3,b4,X,b6,b7,b8,b9,M,K,bf⟩:=zag A
  have I:Hid (_=_):=A
  clear D A
  go_wp2
  refine bodyPost_ret (results_cell_row rfl _ _ (w.heap.size+1) 53 _ (0,0) _ rfl (zaL ((zp (by omega)).trans I.out)) Tryz.underlying53 rfl (by kernel_rfl)) rfl ?_
  exact⟨by rw[o.out],zb5 ((zaR E).setCell (Nat.le_refl _) _) (Nat.le_succ _) _ _ _ _ _ _ _ _ _ _ _ _⟩
 ·have o:Hid (zbi C q.pos z=z):=if_neg H
  unfold pv
  go_enter Tryz.func135,Tryz.ntmps135
  go_wp2
  refine bodyPost_ret (results_cell_row rfl _ _ (w.heap.size+1) 53 _ (0,0) _ rfl (zbj w _ _) Tryz.underlying53 rfl (by kernel_rfl)) rfl ?_
  exact⟨by rw[o.out],zaM w _ _⟩
end Go.Proofs.YticdggnnpjachaaGreat