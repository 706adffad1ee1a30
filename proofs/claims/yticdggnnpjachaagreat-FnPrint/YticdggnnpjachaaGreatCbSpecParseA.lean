/-
 What spec's smallest readers of tokens answer: the walks.
-/
import Derived.Test.YticdggnnpjachaaGreatCbParseMemToModMem
import Derived.Test.YticdggnnpjachaaGreatCbSpecLexAll
namespace Go.Proofs.YticdggnnpjachaaGreat
set_option maxRecDepth 100000
set_option maxHeartbeats 1600000
open Go.RowKit Go.PlainAid
theorem OwnT.cells {w:World} {z g n D:Nat} {e:TypeId} {o:List Tk} (h:OwnT w z e g n D o) {j:Nat} (N:j<n) {d:Tk}:
  w.cell? ⟨g,j*4,none⟩=some (.int .i64 (o.getD j d).kind)∧w.cell? ⟨g,j*4+1,none⟩=some (.string (o.getD j d).text)∧w.cell? ⟨g,j*4+2,none⟩=some (.int .i64 (o.getD j d).num)∧w.cell? ⟨g,j*4+3,none⟩=some (.int .i64 (o.getD j d).pos):=by
 have M:=h.2
 have q: ∀(l:List Tk) (i c:Nat),c<4→i<l.length→(l.flatMap tkL)[i*4+c]? =(tkL (l.getD i d))[c]?:=by
  intro l
  induction l with
  |nil=>intro i c _ A;simp at A
  |cons x l I=>
   intro i c J A
   match i with
   |0=>
    simp only[List.flatMap_cons,Nat.zero_mul,Nat.zero_add,List.getD_cons_zero]
    rw[List.getElem?_append_left (by simp[tkL];omega)]
   |i+1=>
    simp only[List.flatMap_cons,List.getD_cons_succ]
    rw[List.getElem?_append_right (by simp[tkL];omega)]
    have:(i+1)*4+c-(tkL x).length=i*4+c:=by simp[tkL];omega
    rw[this]
    exact I i c J (by simpa using A)
 have K:=q o j 0 (by omega) (by omega)
 have E:=q o j 1 (by omega) (by omega)
 have L:=q o j 2 (by omega) (by omega)
 have H:=q o j 3 (by omega) (by omega)
 rw[h.1.cellAt _ (by omega),h.1.cellAt _ (by omega),h.1.cellAt _ (by omega),h.1.cellAt _ (by omega)]
 exact⟨K,E,L,H⟩
def pv (C:Cx) (gt cap:Nat) (S:Sv) (q:PS) (z:Int) (d:Nat):Value:=
 .agg #[.slice (some ⟨gt,0,none⟩) C.ts.length cap,.int .i64 q.pos,.int .i64 C.fin,.bool C.scr,.slice S.rq.a q.rq.length S.rq.cap,.slice S.im.a q.im.length S.im.cap,.slice S.ep.a q.ep.length S.ep.cap,
  .slice S.st.a q.st.length S.st.cap,.slice S.ex.a q.ex.length S.ex.cap,.slice S.la.a q.la.length S.la.cap,.int .i64 z,.int .i64 d]
theorem zhY {C:Cx} {i:Nat} {k:Int} {s:ByteArray} (h:((ze C i).kind==k)=false):isT C i k s=false:=by rw[isT,h];rfl
theorem zeE {C:Cx} {i:Nat} {k:Int} {s:ByteArray} (h: ¬i<C.ts.length) (j:k≠0):isT C i k s=false:=by
 rw[Bool.eq_false_iff]
 exact fun g=>h (za1 g j)
theorem zh (C:Cx) (H A o:Nat) (S:Sv) (q:PS) (z:Int) (d:Nat) (k:Int) (s:ByteArray) (w:World) (O:OwnT w o 111 H C.ts.length A C.ts) (_:C.ts.length≤4000) (Q:k≠0):
  Calls Tryz.prog 69 #[pv C H A S q z d,.int .i64 k,.string s] w fun e U=>e= .returned (.bool (decide (z<0)&&isT C q.pos k s))∧Below w.heap.size w U:=by
 unfold pv
 by_cases K:z<0
 ·have D:decide (z<0)=true:=decide_eq_true K
  by_cases M:q.pos<C.ts.length
  ·obtain⟨J,I,_,_⟩:=O.cells M (d:=⟨0,sNone,0,C.fin⟩)
   have L:=(zan O).1
   change _=some (Value.int .i64 (ze C q.pos).kind) at J
   change _=some (Value.string (ze C q.pos).text) at I
   generalize j:ze C q.pos=t at J I
   cases E:(t.kind==k) with
   |true=>
    cases N:(t.text.toList==s.toList) with
    |true=>
     have n:Hid (isT C q.pos k s=true):=by show isT C q.pos k s=true;simp only[isT,j,E,N,Bool.and_self]
     clear j
     go_enter Tryz.func69,Tryz.ntmps69
     go_wp2
     go_ret
     exact⟨zm (by rw[D,n.out];rfl),(Below.refl _ _).alloc (Nat.le_refl _) _⟩
    |false=>
     have n:Hid (isT C q.pos k s=false):=by show isT C q.pos k s=false;simp only[isT,j,E,N,Bool.and_false]
     clear j
     go_enter Tryz.func69,Tryz.ntmps69
     go_wp2
     go_ret
     exact⟨zm (by rw[D,n.out];rfl),(Below.refl _ _).alloc (Nat.le_refl _) _⟩
   |false=>
    have n:Hid (isT C q.pos k s=false):=zhY (by rw[j];exact E)
    clear j
    go_enter Tryz.func69,Tryz.ntmps69
    go_wp2
    go_ret
    exact⟨zm (by rw[D,n.out];rfl),(Below.refl _ _).alloc (Nat.le_refl _) _⟩
  ·have n:Hid (isT C q.pos k s=false):=zeE M Q
   go_enter Tryz.func69,Tryz.ntmps69
   go_wp2
   go_ret
   exact⟨zm (by rw[D,n.out];rfl),(Below.refl _ _).alloc (Nat.le_refl _) _⟩
 ·have D:decide (z<0)=false:=decide_eq_false K
  go_enter Tryz.func69,Tryz.ntmps69
  go_wp2
  go_ret
  exact⟨zm rfl,(Below.refl _ _).alloc (Nat.le_refl _) _⟩
theorem zlC (C:Cx) (o n j:Nat) (S:Sv) (q:PS) (z:Int) (d:Nat) (w:World) (D:OwnT w j 111 o C.ts.length n C.ts) (_:C.ts.length≤4000):
  Calls Tryz.prog 167 #[pv C o n S q z d] w fun e I=>e= .returned (.int .i64 (zr C q.pos))∧Below w.heap.size w I:=by
 unfold pv
 by_cases H:q.pos<C.ts.length
 ·obtain⟨_,_,_,E⟩:=D.cells H (d:=⟨0,sNone,0,C.fin⟩)
  have A:=(zan D).1
  change _=some (Value.int .i64 (zr C q.pos)) at E
  go_enter Tryz.func167,Tryz.ntmps167
  go_wp2
  go_ret
  exact⟨rfl,(Below.refl _ _).alloc (Nat.le_refl _) _⟩
 ·have J:Hid (zr C q.pos=C.fin):=by show zr C q.pos=C.fin;rw[zr,zdl (by omega)]
  go_enter Tryz.func167,Tryz.ntmps167
  go_wp2
  go_ret
  exact⟨zdM (by rw[J.out]),(Below.refl _ _).alloc (Nat.le_refl _) _⟩
def zbp (C:Cx) (i:Nat) (z:Int):Int:=if z<0 then zr C i else z
theorem zq {w:World} {j g n q:Nat} {e:TypeId} {z:List Tk} (h:OwnT w j e g n q z) (o:Obj):OwnT (w.alloc o) j e g n q z:=zbV h ((Below.refl _ _).alloc (Nat.le_refl _) _)
theorem zbW {w:World} {b i:Nat} {j:Array Value} {u:Value} {t:TypeId} (h:w.heap[b]? =some (.cells j t (0,0))):(w.setCell ⟨b,i,none⟩ u).heap[b]? =some (.cells (j.setIfInBounds i u) t (0,0)):=by
 simp only[World.setCell,Array.getElem?_modify]
 rw[if_pos trivial,h]
 rfl
theorem zi {w:World} {b c i:Nat} {u:Value} (h:b≠c):(w.setCell ⟨c,i,none⟩ u).heap[b]? =w.heap[b]?:=Below.heap_setCell w ⟨c,i,none⟩ u b h
structure Box (w:World) (b:Nat) (v0 v1 v2 v3 v4 v5 v6 v7 v8 v9 v10 v11:Value):Prop where
 c0:w.cell? ⟨b,0,none⟩=some v0
 c1:w.cell? ⟨b,1,none⟩=some v1
 c2:w.cell? ⟨b,2,none⟩=some v2
 c3:w.cell? ⟨b,3,none⟩=some v3
 c4:w.cell? ⟨b,4,none⟩=some v4
 c5:w.cell? ⟨b,5,none⟩=some v5
 c6:w.cell? ⟨b,6,none⟩=some v6
 c7:w.cell? ⟨b,7,none⟩=some v7
 c8:w.cell? ⟨b,8,none⟩=some v8
 c9:w.cell? ⟨b,9,none⟩=some v9
 c10:w.cell? ⟨b,10,none⟩=some v10
 c11:w.cell? ⟨b,11,none⟩=some v11
 fz: ∀i,w.frozen? ⟨b,i,none⟩=false
theorem zaj {w:World} {b:Nat} {t:TypeId} {H z o K I q A J E D j n:Value} (h:w.heap[b]? =some (.cells #[H,z,o,K,I,q,A,J,E,D,j,n] t (0,0))):Box w b H z o K I q A J E D j n:=by
 constructor<;>simp[World.cell?,World.frozen?,h]
theorem zaS {w:World} {b:Nat} {Z N X V v4 U O v7 Y Q J H M D A E K o z q I L j n:Value} {t:TypeId} (h:w.heap[b]? =some (.cells #[Z,N,X,V,v4,U,O,v7,Y,Q,J,H] t (0,0))):
  ((((((((((((w.setCell ⟨b,0,none⟩ M).setCell ⟨b,1,none⟩ D).setCell ⟨b,2,none⟩ A).setCell ⟨b,3,none⟩ E).setCell ⟨b,4,none⟩ K).setCell ⟨b,5,none⟩ o).setCell ⟨b,6,none⟩ z).setCell ⟨b,7,none⟩ q).setCell ⟨b,8,none⟩ I).setCell ⟨b,9,none⟩ L).setCell ⟨b,10,none⟩ j).setCell ⟨b,11,none⟩ n).heap[b]? =some (.cells #[M,D,A,E,K,o,z,q,I,L,j,n] t (0,0)):=
 by
 have e:=zbW (i:=11) (u:=n) (zbW (i:=10) (u:=j) (zbW (i:=9) (u:=L) (zbW (i:=8) (u:=I) (zbW (i:=7) (u:=q) (zbW (i:=6) (u:=z) (zbW (i:=5) (u:=o) (zbW (i:=4) (u:=K) (zbW (i:=3) (u:=E) (zbW (i:=2) (u:=A) (zbW (i:=1) (u:=D) (zbW (i:=0) (u:=M) h)))))))))))
 rw[e]
 simp
theorem zbD {B:Nat} {a w:World} {b:Nat} (h:Below B a w) (j:B≤b) (A I z K H q E D L J o n:Value):
  Below B a ((((((((((((w.setCell ⟨b,0,none⟩ A).setCell ⟨b,1,none⟩ I).setCell ⟨b,2,none⟩ z).setCell ⟨b,3,none⟩ K).setCell ⟨b,4,none⟩ H).setCell ⟨b,5,none⟩ q).setCell ⟨b,6,none⟩ E).setCell ⟨b,7,none⟩ D).setCell ⟨b,8,none⟩ L).setCell ⟨b,9,none⟩ J).setCell ⟨b,10,none⟩ o).setCell ⟨b,11,none⟩ n):=
 (((((((((((h.setCell j _).setCell j _).setCell j _).setCell j _).setCell j _).setCell j _).setCell j _).setCell j _).setCell j _).setCell j _).setCell j _).setCell j _
theorem zaT (w:World) (a b:Obj):Below w.heap.size w ((w.alloc a).alloc b):=((Below.refl _ _).alloc (Nat.le_refl _) _).alloc (by show _≤(w.heap.push _).size;simp) _
theorem zbq (w:World) (a b:Obj):((w.alloc a).alloc b).heap[w.heap.size+1]? =some b:=by
 have j:(w.alloc a).heap.size=w.heap.size+1:=by show (w.heap.push _).size=_;simp
 rw[←j]
 exact heap_alloc_new _ b
theorem zcz {w j:World} {a b:Obj} (n:Below ((w.alloc a).alloc b).heap.size ((w.alloc a).alloc b) j):j.heap[w.heap.size]? =some a∧j.heap[w.heap.size+1]? =some b:=by
 have e:((w.alloc a).alloc b).heap.size=w.heap.size+2:=by show ((w.heap.push _).push _).size=_;simp
 have o:(w.alloc a).heap.size=w.heap.size+1:=by show (w.heap.push _).size=_;simp
 refine⟨?_,?_⟩
 ·rw[n.block _ (by omega),Below.heap_alloc _ _ _ (by omega)]
  exact heap_alloc_new w a
 ·rw[n.block _ (by omega),←o]
  exact heap_alloc_new _ b
theorem zaZ {w j:World} {a b:Obj} (o:Below ((w.alloc a).alloc b).heap.size ((w.alloc a).alloc b) j):Below w.heap.size w j:=by
 have q:(w.alloc a).heap.size=w.heap.size+1:=by show (w.heap.push _).size=_;simp
 have n:Below w.heap.size w ((w.alloc a).alloc b):=((Below.refl _ _).alloc (Nat.le_refl _) _).alloc (by omega) _
 exact n.trans (o.mono n.size)
theorem zda (C:Cx) (o j n:Nat) (S:Sv) (q:PS) (z:Int) (d:Nat) (w:World) (N:OwnT w n 111 o C.ts.length j C.ts) (K:C.ts.length≤4000):
  Calls Tryz.prog 135 #[pv C o j S q z d] w fun e U=>e= .returned (pv C o j S q (zbp C q.pos z) d)∧Below w.heap.size w U:=by
 by_cases I:z<0
 ·have A:Hid (zbp C q.pos z=zr C q.pos):=if_pos I
  unfold pv
  go_enter Tryz.func135,Tryz.ntmps135
  go_wp2_with fail
  refine (zlC C o j n S q z d _ (zq (zq N _) _) K).mono ?_
  rintro e Z ⟨rfl,H⟩
  obtain⟨E,D⟩:=zcz H
  obtain⟨a0,a1,a2,a3,a4,a5,a6,a7,V,a9,O,Q,af⟩:=zaj E
  obtain⟨b0,b1,b2,b3,b4,b5,X,b7,Y,b9,L,J,bf⟩:=zaj D
  have M:Hid (_=_):=D
  clear E D
  go_wp2
  refine bodyPost_ret (results_cell_row rfl _ _ (w.heap.size+1) 53 _ (0,0) _ rfl (zaS ((zi (by omega)).trans M.out)) Tryz.underlying53 rfl (by kernel_rfl)) rfl ?_
  exact⟨by rw[A.out],zbD ((zaZ H).setCell (Nat.le_refl _) _) (Nat.le_succ _) _ _ _ _ _ _ _ _ _ _ _ _⟩
 ·have A:Hid (zbp C q.pos z=z):=if_neg I
  unfold pv
  go_enter Tryz.func135,Tryz.ntmps135
  go_wp2
  refine bodyPost_ret (results_cell_row rfl _ _ (w.heap.size+1) 53 _ (0,0) _ rfl (zbq w _ _) Tryz.underlying53 rfl (by kernel_rfl)) rfl ?_
  exact⟨by rw[A.out],zaT w _ _⟩
end Go.Proofs.YticdggnnpjachaaGreat