/-
 What spec's smallest readers of tokens answer: the walks.
-/
import Derived.Test.YticdggnnpjachaaGreatCcParseMemToModMem
import Derived.Test.YticdggnnpjachaaGreatCcSpecLexAll
namespace Go.Proofs.YticdggnnpjachaaGreat
set_option maxRecDepth 100000
set_option maxHeartbeats 1600000
open Go.RowKit Go.PlainAid
theorem zc {p:Prop} (h:p):Hid p:=h
theorem OwnT.cells {w:World} {z g n A:Nat} {e:TypeId} {q:List Tk} (h:OwnT w z e g n A q) {j:Nat} (M:j<n) {d:Tk}:
  w.cell? ⟨g,j*4,none⟩=some (.int .i64 (q.getD j d).kind)∧w.cell? ⟨g,j*4+1,none⟩=some (.string (q.getD j d).text)∧w.cell? ⟨g,j*4+2,none⟩=some (.int .i64 (q.getD j d).num)∧w.cell? ⟨g,j*4+3,none⟩=some (.int .i64 (q.getD j d).pos):=by
 have N:=h.2
 have o: ∀(l:List Tk) (i c:Nat),c<4→i<l.length→(l.flatMap tkL)[i*4+c]? =(tkL (l.getD i d))[c]?:=by
  intro l
  induction l with
  |nil=>intro i c _ D;simp at D
  |cons x l L=>
   intro i c E D
   match i with
   |0=>
    simp only[List.flatMap_cons,Nat.zero_mul,Nat.zero_add,List.getD_cons_zero]
    rw[List.getElem?_append_left (by simp[tkL];omega)]
   |i+1=>
    simp only[List.flatMap_cons,List.getD_cons_succ]
    rw[List.getElem?_append_right (by simp[tkL];omega)]
    have:(i+1)*4+c-(tkL x).length=i*4+c:=by simp[tkL];omega
    rw[this]
    exact L i c E (by simpa using D)
 have K:=o q j 0 (by omega) (by omega)
 have J:=o q j 1 (by omega) (by omega)
 have I:=o q j 2 (by omega) (by omega)
 have H:=o q j 3 (by omega) (by omega)
 rw[h.1.cellAt _ (by omega),h.1.cellAt _ (by omega),h.1.cellAt _ (by omega),h.1.cellAt _ (by omega)]
 exact⟨K,J,I,H⟩
def pv (C:Cx) (gt cap:Nat) (S:Sv) (q:PS) (z:Int) (d:Nat):Value:=
 .agg #[.slice (some ⟨gt,0,none⟩) C.ts.length cap,.int .i64 q.pos,.int .i64 C.fin,.bool C.scr,.slice S.rq.a q.rq.length S.rq.cap,.slice S.im.a q.im.length S.im.cap,.slice S.ep.a q.ep.length S.ep.cap,
  .slice S.st.a q.st.length S.st.cap,.slice S.ex.a q.ex.length S.ex.cap,.slice S.la.a q.la.length S.la.cap,.int .i64 z,.int .i64 d]
theorem zhi {C:Cx} {i:Nat} {k:Int} {s:ByteArray} (h:((ze C i).kind==k)=false):isT C i k s=false:=by rw[isT,h];rfl
theorem zeo {C:Cx} {i:Nat} {k:Int} {s:ByteArray} (h: ¬i<C.ts.length) (j:k≠0):isT C i k s=false:=by
 rw[Bool.eq_false_iff]
 exact fun g=>h (zaz g j)
theorem zg (C:Cx) (N n A:Nat) (S:Sv) (q:PS) (z:Int) (d:Nat) (k:Int) (s:ByteArray) (w:World) (I:OwnT w A 111 N C.ts.length n C.ts) (_:C.ts.length≤4000) (O:k≠0):
  Calls Tryz.prog 69 #[pv C N n S q z d,.int .i64 k,.string s] w fun e U=>e= .returned (.bool (decide (z<0)&&isT C q.pos k s))∧Below w.heap.size w U:=by
 unfold pv
 by_cases H:z<0
 ·have o:decide (z<0)=true:=decide_eq_true H
  by_cases M:q.pos<C.ts.length
  ·obtain⟨L,J,_,_⟩:=I.cells M (d:=⟨0,sNone,0,C.fin⟩)
   have K:=(zak I).1
   change _=some (Value.int .i64 (ze C q.pos).kind) at L
   change _=some (Value.string (ze C q.pos).text) at J
   generalize h:ze C q.pos=t at L J
   cases D:(t.kind==k) with
   |true=>
    cases E:(t.text.toList==s.toList) with
    |true=>
     have j:Hid (isT C q.pos k s=true):=by show isT C q.pos k s=true;simp only[isT,h,D,E,Bool.and_self]
     clear h
     go_enter Tryz.func69,Tryz.ntmps69
     go_wp2
     go_ret
     exact⟨zl (by rw[o,j.out];rfl),(Below.refl _ _).alloc (Nat.le_refl _) _⟩
    |false=>
     have j:Hid (isT C q.pos k s=false):=by show isT C q.pos k s=false;simp only[isT,h,D,E,Bool.and_false]
     clear h
     go_enter Tryz.func69,Tryz.ntmps69
     go_wp2
     go_ret
     exact⟨zl (by rw[o,j.out];rfl),(Below.refl _ _).alloc (Nat.le_refl _) _⟩
   |false=>
    have j:Hid (isT C q.pos k s=false):=zhi (by rw[h];exact D)
    clear h
    go_enter Tryz.func69,Tryz.ntmps69
    go_wp2
    go_ret
    exact⟨zl (by rw[o,j.out];rfl),(Below.refl _ _).alloc (Nat.le_refl _) _⟩
  ·have j:Hid (isT C q.pos k s=false):=zeo M O
   go_enter Tryz.func69,Tryz.ntmps69
   go_wp2
   go_ret
   exact⟨zl (by rw[o,j.out];rfl),(Below.refl _ _).alloc (Nat.le_refl _) _⟩
 ·have o:decide (z<0)=false:=decide_eq_false H
  go_enter Tryz.func69,Tryz.ntmps69
  go_wp2
  go_ret
  exact⟨zl rfl,(Below.refl _ _).alloc (Nat.le_refl _) _⟩
theorem zkp (C:Cx) (A h j:Nat) (S:Sv) (q:PS) (z:Int) (d:Nat) (w:World) (n:OwnT w j 111 A C.ts.length h C.ts) (_:C.ts.length≤4000):
  Calls Tryz.prog 167 #[pv C A h S q z d] w fun e E=>e= .returned (.int .i64 (zq C q.pos))∧Below w.heap.size w E:=by
 unfold pv
 by_cases I:q.pos<C.ts.length
 ·obtain⟨_,_,_,D⟩:=n.cells I (d:=⟨0,sNone,0,C.fin⟩)
  have o:=(zak n).1
  change _=some (Value.int .i64 (zq C q.pos)) at D
  go_enter Tryz.func167,Tryz.ntmps167
  go_wp2
  go_ret
  exact⟨rfl,(Below.refl _ _).alloc (Nat.le_refl _) _⟩
 ·have H:Hid (zq C q.pos=C.fin):=by show zq C q.pos=C.fin;rw[zq,zdb (by omega)]
  go_enter Tryz.func167,Tryz.ntmps167
  go_wp2
  go_ret
  exact⟨zeG (by rw[H.out]),(Below.refl _ _).alloc (Nat.le_refl _) _⟩
def zbi (C:Cx) (i:Nat) (z:Int):Int:=if z<0 then zq C i else z
theorem zo {w:World} {j g n q:Nat} {e:TypeId} {z:List Tk} (h:OwnT w j e g n q z) (o:Obj):OwnT (w.alloc o) j e g n q z:=zbO h ((Below.refl _ _).alloc (Nat.le_refl _) _)
theorem zbP {w:World} {b i:Nat} {j:Array Value} {u:Value} {t:TypeId} (h:w.heap[b]? =some (.cells j t (0,0))):(w.setCell ⟨b,i,none⟩ u).heap[b]? =some (.cells (j.setIfInBounds i u) t (0,0)):=by
 simp only[World.setCell,Array.getElem?_modify]
 rw[if_pos trivial,h]
 rfl
theorem zp {w:World} {b c i:Nat} {u:Value} (h:b≠c):(w.setCell ⟨c,i,none⟩ u).heap[b]? =w.heap[b]?:=Below.heap_setCell w ⟨c,i,none⟩ u b h
structure Box (w:World) (b:Nat) (v0 v1 v2 v3 v4 v5 v6 v7 v8 v9 v10 v11:Value):Prop where
 c0:w.cell? ⟨b,0,none⟩=some v0
 c1:w.cell? ⟨b,1,none⟩=some v1
 c2:w.cell? ⟨b,2,none⟩=some v2
 c3:w.cell? ⟨b,3,none⟩=some v3
 c4:w.cell? ⟨b,4,none⟩=some v4
 c5:w.cell? ⟨b,5,none⟩=some v5
 c6:w.cell? ⟨b,6,none⟩=some v6
 c7:w.cell? ⟨b,7,none⟩=some v7
 c8:w.cell? ⟨b,8,none⟩=some v8
 c9:w.cell? ⟨b,9,none⟩=some v9
 c10:w.cell? ⟨b,10,none⟩=some v10
 c11:w.cell? ⟨b,11,none⟩=some v11
 fz: ∀i,w.frozen? ⟨b,i,none⟩=false
theorem zag {w:World} {b:Nat} {t:TypeId} {I q J D o A H E z K j n:Value} (h:w.heap[b]? =some (.cells #[I,q,J,D,o,A,H,E,z,K,j,n] t (0,0))):Box w b I q J D o A H E z K j n:=by
 constructor<;>simp[World.cell?,World.frozen?,h]
theorem zaL {w:World} {b:Nat} {U N X v3 Y Z v6 v7 O V E q A K M L o J H I z D n j:Value} {t:TypeId} (h:w.heap[b]? =some (.cells #[U,N,X,v3,Y,Z,v6,v7,O,V,E,q] t (0,0))):
  ((((((((((((w.setCell ⟨b,0,none⟩ A).setCell ⟨b,1,none⟩ K).setCell ⟨b,2,none⟩ M).setCell ⟨b,3,none⟩ L).setCell ⟨b,4,none⟩ o).setCell ⟨b,5,none⟩ J).setCell ⟨b,6,none⟩ H).setCell ⟨b,7,none⟩ I).setCell ⟨b,8,none⟩ z).setCell ⟨b,9,none⟩ D).setCell ⟨b,10,none⟩ n).setCell ⟨b,11,none⟩ j).heap[b]? =some (.cells #[A,K,M,L,o,J,H,I,z,D,n,j] t (0,0)):=
 by
 have e:=zbP (i:=11) (u:=j) (zbP (i:=10) (u:=n) (zbP (i:=9) (u:=D) (zbP (i:=8) (u:=z) (zbP (i:=7) (u:=I) (zbP (i:=6) (u:=H) (zbP (i:=5) (u:=J) (zbP (i:=4) (u:=o) (zbP (i:=3) (u:=L) (zbP (i:=2) (u:=M) (zbP (i:=1) (u:=K) (zbP (i:=0) (u:=A) h)))))))))))
 rw[e]
 simp
theorem zb5 {B:Nat} {a w:World} {b:Nat} (h:Below B a w) (j:B≤b) (L q K z D E I J H A n o:Value):
  Below B a ((((((((((((w.setCell ⟨b,0,none⟩ L).setCell ⟨b,1,none⟩ q).setCell ⟨b,2,none⟩ K).setCell ⟨b,3,none⟩ z).setCell ⟨b,4,none⟩ D).setCell ⟨b,5,none⟩ E).setCell ⟨b,6,none⟩ I).setCell ⟨b,7,none⟩ J).setCell ⟨b,8,none⟩ H).setCell ⟨b,9,none⟩ A).setCell ⟨b,10,none⟩ n).setCell ⟨b,11,none⟩ o):=
 (((((((((((h.setCell j _).setCell j _).setCell j _).setCell j _).setCell j _).setCell j _).setCell j _).setCell j _).setCell j _).setCell j _).setCell j _).setCell j _
theorem zaM (w:World) (a b:Obj):Below w.heap.size w ((w.alloc a).alloc b):=((Below.refl _ _).alloc (Nat.le_refl _) _).alloc (by show _≤(w.heap.push _).size;simp) _
theorem zbj (w:World) (a b:Obj):((w.alloc a).alloc b).heap[w.heap.size+1]? =some b:=by
 have h:(w.alloc a).heap.size=w.heap.size+1:=by show (w.heap.push _).size=_;simp
 rw[←h]
 exact heap_alloc_new _ b
theorem zcn {w h:World} {a b:Obj} (j:Below ((w.alloc a).alloc b).heap.size ((w.alloc a).alloc b) h):h.heap[w.heap.size]? =some a∧h.heap[w.heap.size+1]? =some b:=by
 have e:((w.alloc a).alloc b).heap.size=w.heap.size+2:=by show ((w.heap.push _).push _).size=_;simp
 have n:(w.alloc a).heap.size=w.heap.size+1:=by show (w.heap.push _).size=_;simp
 refine⟨?_,?_⟩
 ·rw[j.block _ (by omega),Below.heap_alloc _ _ _ (by omega)]
  exact heap_alloc_new w a
 ·rw[j.block _ (by omega),←n]
  exact heap_alloc_new _ b
theorem zaR {w j:World} {a b:Obj} (n:Below ((w.alloc a).alloc b).heap.size ((w.alloc a).alloc b) j):Below w.heap.size w j:=by
 have o:(w.alloc a).heap.size=w.heap.size+1:=by show (w.heap.push _).size=_;simp
 have h:Below w.heap.size w ((w.alloc a).alloc b):=((Below.refl _ _).alloc (Nat.le_refl _) _).alloc (by omega) _
 exact h.trans (n.mono h.size)
theorem zcL (C:Cx) (n h j:Nat) (S:Sv) (q:PS) (z:Int) (d:Nat) (w:World) (N:OwnT w j 111 n C.ts.length h C.ts) (M:C.ts.length≤4000):
  Calls Tryz.prog 135 #[pv C n h S q z d] w fun e O=>e= .returned (pv C n h S q (zbi C q.pos z) d)∧Below w.heap.size w O:=by
 by_cases D:z<0
 ·have o:Hid (zbi C q.pos z=zq C q.pos):=if_pos D
  unfold pv
  go_enter Tryz.func135,Tryz.ntmps135
  go_wp2_with fail
  refine (zkp C n h j S q z d _ (zo (zo N _) _) M).mono ?_
  rintro e X ⟨rfl,E⟩
  obtain⟨H,A⟩:=zcn E
  obtain⟨a0,a1,a2,a3,a4,V,a6,a7,a8,a9,I,J,af⟩:=zag H
  obtain⟨Z,b1,b2,b3,b4,b5,b6,Y,b8,b9,L,K,bf⟩:=zag A
  have U:Hid (_=_):=A
  clear H A
  go_wp2
  refine bodyPost_ret (results_cell_row rfl _ _ (w.heap.size+1) 53 _ (0,0) _ rfl (zaL ((zp (by omega)).trans U.out)) Tryz.underlying53 rfl (by kernel_rfl)) rfl ?_
  exact⟨by rw[o.out],zb5 ((zaR E).setCell (Nat.le_refl _) _) (Nat.le_succ _) _ _ _ _ _ _ _ _ _ _ _ _⟩
 ·have o:Hid (zbi C q.pos z=z):=if_neg D
  unfold pv
  go_enter Tryz.func135,Tryz.ntmps135
  go_wp2
  refine bodyPost_ret (results_cell_row rfl _ _ (w.heap.size+1) 53 _ (0,0) _ rfl (zbj w _ _) Tryz.underlying53 rfl (by kernel_rfl)) rfl ?_
  exact⟨by rw[o.out],zaM w _ _⟩
end Go.Proofs.YticdggnnpjachaaGreat