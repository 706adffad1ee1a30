/-
 What spec's smallest readers of tokens answer: the walks.
-/
import Derived.Test.YthfeoomfiafldaaGreatCdParseMemToModMem
import Derived.Test.YthfeoomfiafldaaGreatCdSpecLexAll
namespace Go.Proofs.YthfeoomfiafldaaGreat
set_option maxRecDepth 100000
set_option maxHeartbeats 1600000
open Go.RowKit Go.PlainAid
theorem OwnT.cells {w:World} {D g n E:Nat} {e:TypeId} {z:List Tk} (h:OwnT w D e g n E z) {j:Nat} (O:j<n) {d:Tk}:
  w.cell? ⟨g,j*4,none⟩=some (.int .i64 (z.getD j d).kind)∧w.cell? ⟨g,j*4+1,none⟩=some (.string (z.getD j d).text)∧w.cell? ⟨g,j*4+2,none⟩=some (.int .i64 (z.getD j d).num)∧w.cell? ⟨g,j*4+3,none⟩=some (.int .i64 (z.getD j d).pos):=by
 have Q:=h.2
 have o: ∀(l:List Tk) (i c:Nat),c<4→i<l.length→(l.flatMap tkL)[i*4+c]? =(tkL (l.getD i d))[c]?:=by
  intro l
  induction l with
  |nil=>intro i c _ H;simp at H
  |cons x l I=>
   intro i c J H
   match i with
   |0=>
    simp only[List.flatMap_cons,Nat.zero_mul,Nat.zero_add,List.getD_cons_zero]
    rw[List.getElem?_append_left (by simp[tkL];omega)]
   |i+1=>
    simp only[List.flatMap_cons,List.getD_cons_succ]
    rw[List.getElem?_append_right (by simp[tkL];omega)]
    have:(i+1)*4+c-(tkL x).length=i*4+c:=by simp[tkL];omega
    rw[this]
    exact I i c J (by simpa using H)
 have L:=o z j 0 (by omega) (by omega)
 have K:=o z j 1 (by omega) (by omega)
 have N:=o z j 2 (by omega) (by omega)
 have M:=o z j 3 (by omega) (by omega)
 rw[h.1.cellAt _ (by omega),h.1.cellAt _ (by omega),h.1.cellAt _ (by omega),h.1.cellAt _ (by omega)]
 exact⟨L,K,N,M⟩
def pv (C:Cx) (gt cap:Nat) (S:Sv) (q:PS) (z:Int) (d:Nat):Value:=
 .agg #[.slice (some ⟨gt,0,none⟩) C.ts.length cap,.int .i64 q.pos,.int .i64 C.fin,.bool C.scr,.slice S.rq.a q.rq.length S.rq.cap,.slice S.im.a q.im.length S.im.cap,.slice S.ep.a q.ep.length S.ep.cap,
  .slice S.st.a q.st.length S.st.cap,.slice S.ex.a q.ex.length S.ex.cap,.slice S.la.a q.la.length S.la.cap,.int .i64 z,.int .i64 d]
theorem zjO {C:Cx} {i:Nat} {k:Int} {s:ByteArray} (h:((zf C i).kind==k)=false):isT C i k s=false:=by rw[isT,h];rfl
theorem zfA {C:Cx} {i:Nat} {k:Int} {s:ByteArray} (h: ¬i<C.ts.length) (j:k≠0):isT C i k s=false:=by
 rw[Bool.eq_false_iff]
 exact fun g=>h (za1 g j)
theorem zj (C:Cx) (N D E:Nat) (S:Sv) (q:PS) (z:Int) (d:Nat) (k:Int) (s:ByteArray) (w:World) (K:OwnT w E 40 N C.ts.length D C.ts) (_:C.ts.length≤4000) (V:k≠0):
  Calls Tryz.prog 47 #[pv C N D S q z d,.int .i64 k,.string s] w fun e X=>e= .returned (.bool (decide (z<0)&&isT C q.pos k s))∧Below w.heap.size w X:=by
 unfold pv
 by_cases Q:z<0
 ·have H:decide (z<0)=true:=decide_eq_true Q
  by_cases O:q.pos<C.ts.length
  ·obtain⟨L,U,_,_⟩:=K.cells O (d:=⟨0,sNone,0,C.fin⟩)
   have M:=(zan K).1
   change _=some (Value.int .i64 (zf C q.pos).kind) at L
   change _=some (Value.string (zf C q.pos).text) at U
   generalize j:zf C q.pos=t at L U
   cases I:(t.kind==k) with
   |true=>
    cases J:(t.text.toList==s.toList) with
    |true=>
     have o:Hid (isT C q.pos k s=true):=by show isT C q.pos k s=true;simp only[isT,j,I,J,Bool.and_self]
     clear j
     go_enter Tryz.func47,Tryz.ntmps47
     go_wp2
     go_ret
     exact⟨zq (by rw[H,o.out];rfl),(Below.refl _ _).alloc (Nat.le_refl _) _⟩
    |false=>
     have o:Hid (isT C q.pos k s=false):=by show isT C q.pos k s=false;simp only[isT,j,I,J,Bool.and_false]
     clear j
     go_enter Tryz.func47,Tryz.ntmps47
     go_wp2
     go_ret
     exact⟨zq (by rw[H,o.out];rfl),(Below.refl _ _).alloc (Nat.le_refl _) _⟩
   |false=>
    have o:Hid (isT C q.pos k s=false):=zjO (by rw[j];exact I)
    clear j
    go_enter Tryz.func47,Tryz.ntmps47
    go_wp2
    go_ret
    exact⟨zq (by rw[H,o.out];rfl),(Below.refl _ _).alloc (Nat.le_refl _) _⟩
  ·have o:Hid (isT C q.pos k s=false):=zfA O V
   go_enter Tryz.func47,Tryz.ntmps47
   go_wp2
   go_ret
   exact⟨zq (by rw[H,o.out];rfl),(Below.refl _ _).alloc (Nat.le_refl _) _⟩
 ·have H:decide (z<0)=false:=decide_eq_false Q
  go_enter Tryz.func47,Tryz.ntmps47
  go_wp2
  go_ret
  exact⟨zq rfl,(Below.refl _ _).alloc (Nat.le_refl _) _⟩
theorem zok (C:Cx) (E j o:Nat) (S:Sv) (q:PS) (z:Int) (d:Nat) (w:World) (D:OwnT w o 40 E C.ts.length j C.ts) (_:C.ts.length≤4000):
  Calls Tryz.prog 127 #[pv C E j S q z d] w fun e I=>e= .returned (.int .i64 (zu C q.pos))∧Below w.heap.size w I:=by
 unfold pv
 by_cases K:q.pos<C.ts.length
 ·obtain⟨_,_,_,J⟩:=D.cells K (d:=⟨0,sNone,0,C.fin⟩)
  have H:=(zan D).1
  change _=some (Value.int .i64 (zu C q.pos)) at J
  go_enter Tryz.func127,Tryz.ntmps127
  go_wp2
  go_ret
  exact⟨rfl,(Below.refl _ _).alloc (Nat.le_refl _) _⟩
 ·have L:Hid (zu C q.pos=C.fin):=by show zu C q.pos=C.fin;rw[zu,zcT (by omega)]
  go_enter Tryz.func127,Tryz.ntmps127
  go_wp2
  go_ret
  exact⟨zeE (by rw[L.out]),(Below.refl _ _).alloc (Nat.le_refl _) _⟩
def zbC (C:Cx) (i:Nat) (z:Int):Int:=if z<0 then zu C i else z
theorem zv {w:World} {j g n z:Nat} {e:TypeId} {D:List Tk} (h:OwnT w j e g n z D) (o:Obj):OwnT (w.alloc o) j e g n z D:=zcn h ((Below.refl _ _).alloc (Nat.le_refl _) _)
theorem zcv {w:World} {b i:Nat} {cs:Array Value} {u:Value} {t:TypeId} (h:w.heap[b]? =some (.cells cs t (0,0))):(w.setCell ⟨b,i,none⟩ u).heap[b]? =some (.cells (cs.setIfInBounds i u) t (0,0)):=by
 simp only[World.setCell,Array.getElem?_modify]
 rw[if_pos trivial,h]
 rfl
theorem zx {w:World} {b c i:Nat} {u:Value} (h:b≠c):(w.setCell ⟨c,i,none⟩ u).heap[b]? =w.heap[b]?:=Below.heap_setCell w ⟨c,i,none⟩ u b h
structure Box (w:World) (b:Nat) (v0 v1 v2 v3 v4 v5 v6 v7 v8 v9 v10 v11:Value):Prop where
 c0:w.cell? ⟨b,0,none⟩=some v0
 c1:w.cell? ⟨b,1,none⟩=some v1
 c2:w.cell? ⟨b,2,none⟩=some v2
 c3:w.cell? ⟨b,3,none⟩=some v3
 c4:w.cell? ⟨b,4,none⟩=some v4
 c5:w.cell? ⟨b,5,none⟩=some v5
 c6:w.cell? ⟨b,6,none⟩=some v6
 c7:w.cell? ⟨b,7,none⟩=some v7
 c8:w.cell? ⟨b,8,none⟩=some v8
 c9:w.cell? ⟨b,9,none⟩=some v9
 c10:w.cell? ⟨b,10,none⟩=some v10
 c11:w.cell? ⟨b,11,none⟩=some v11
 fz: ∀i,w.frozen? ⟨b,i,none⟩=false
theorem zao {w:World} {b:Nat} {t:TypeId} {M J z L E H I N D K o j:Value} (h:w.heap[b]? =some (.cells #[M,J,z,L,E,H,I,N,D,K,o,j] t (0,0))):Box w b M J z L E H I N D K o j:=by
 constructor<;>simp[World.cell?,World.frozen?,h]
theorem zbj {w:World} {b:Nat} {v0 v1 Z Y V U v6 v7 v8 X E N K D O Q M I z L H J o j:Value} {t:TypeId} (h:w.heap[b]? =some (.cells #[v0,v1,Z,Y,V,U,v6,v7,v8,X,E,N] t (0,0))):
  ((((((((((((w.setCell ⟨b,0,none⟩ K).setCell ⟨b,1,none⟩ D).setCell ⟨b,2,none⟩ O).setCell ⟨b,3,none⟩ Q).setCell ⟨b,4,none⟩ M).setCell ⟨b,5,none⟩ I).setCell ⟨b,6,none⟩ z).setCell ⟨b,7,none⟩ L).setCell ⟨b,8,none⟩ H).setCell ⟨b,9,none⟩ J).setCell ⟨b,10,none⟩ o).setCell ⟨b,11,none⟩ j).heap[b]? =some (.cells #[K,D,O,Q,M,I,z,L,H,J,o,j] t (0,0)):=
 by
 have e:=zcv (i:=11) (u:=j) (zcv (i:=10) (u:=o) (zcv (i:=9) (u:=J) (zcv (i:=8) (u:=H) (zcv (i:=7) (u:=L) (zcv (i:=6) (u:=z) (zcv (i:=5) (u:=I) (zcv (i:=4) (u:=M) (zcv (i:=3) (u:=Q) (zcv (i:=2) (u:=O) (zcv (i:=1) (u:=D) (zcv (i:=0) (u:=K) h)))))))))))
 rw[e]
 simp
theorem zbX {B:Nat} {a w:World} {b:Nat} (h:Below B a w) (j:B≤b) (M I H N E K D O J L o z:Value):
  Below B a ((((((((((((w.setCell ⟨b,0,none⟩ M).setCell ⟨b,1,none⟩ I).setCell ⟨b,2,none⟩ H).setCell ⟨b,3,none⟩ N).setCell ⟨b,4,none⟩ E).setCell ⟨b,5,none⟩ K).setCell ⟨b,6,none⟩ D).setCell ⟨b,7,none⟩ O).setCell ⟨b,8,none⟩ J).setCell ⟨b,9,none⟩ L).setCell ⟨b,10,none⟩ o).setCell ⟨b,11,none⟩ z):=
 (((((((((((h.setCell j _).setCell j _).setCell j _).setCell j _).setCell j _).setCell j _).setCell j _).setCell j _).setCell j _).setCell j _).setCell j _).setCell j _
theorem zcD (w:World) (a b:Obj):Below w.heap.size w ((w.alloc a).alloc b):=((Below.refl _ _).alloc (Nat.le_refl _) _).alloc (by show _≤(w.heap.push _).size;simp) _
theorem zdz (w:World) (a b:Obj):((w.alloc a).alloc b).heap[w.heap.size+1]? =some b:=by
 have j:(w.alloc a).heap.size=w.heap.size+1:=by show (w.heap.push _).size=_;simp
 rw[←j]
 exact heap_alloc_new _ b
theorem zcE {w j:World} {a b:Obj} (o:Below ((w.alloc a).alloc b).heap.size ((w.alloc a).alloc b) j):j.heap[w.heap.size]? =some a∧j.heap[w.heap.size+1]? =some b:=by
 have e:((w.alloc a).alloc b).heap.size=w.heap.size+2:=by show ((w.heap.push _).push _).size=_;simp
 have z:(w.alloc a).heap.size=w.heap.size+1:=by show (w.heap.push _).size=_;simp
 refine⟨?_,?_⟩
 ·rw[o.block _ (by omega),Below.heap_alloc _ _ _ (by omega)]
  exact heap_alloc_new w a
 ·rw[o.block _ (by omega),←z]
  exact heap_alloc_new _ b
theorem zbs {w j:World} {a b:Obj} (z:Below ((w.alloc a).alloc b).heap.size ((w.alloc a).alloc b) j):Below w.heap.size w j:=by
 have D:(w.alloc a).heap.size=w.heap.size+1:=by show (w.heap.push _).size=_;simp
 have o:Below w.heap.size w ((w.alloc a).alloc b):=((Below.refl _ _).alloc (Nat.le_refl _) _).alloc (by omega) _
 exact o.trans (z.mono o.size)
theorem zd0 (C:Cx) (D j o:Nat) (S:Sv) (q:PS) (z:Int) (d:Nat) (w:World) (V:OwnT w o 40 D C.ts.length j C.ts) (N:C.ts.length≤4000):
  Calls Tryz.prog 101 #[pv C D j S q z d] w fun e Q=>e= .returned (pv C D j S q (zbC C q.pos z) d)∧Below w.heap.size w Q:=by
 by_cases K:z<0
 ·have H:Hid (zbC C q.pos z=zu C q.pos):=if_pos K
  unfold pv
  go_enter Tryz.func101,Tryz.ntmps101
  go_wp2_with fail
  refine (zok C D j o S q z d _ (zv (zv V _) _) N).mono ?_
  rintro e w1 ⟨rfl,J⟩
  obtain⟨I,E⟩:=zcE J
  obtain⟨a0,a1,a2,Y,a4,a5,a6,a7,a8,a9,M,O,af⟩:=zao I
  obtain⟨b0,b1,b2,b3,b4,b5,b6,b7,b8,Z,U,L,bf⟩:=zao E
  have X:Hid (_=_):=E
  clear I E
  go_wp2
  refine bodyPost_ret (results_cell_row rfl _ _ (w.heap.size+1) 55 _ (0,0) _ rfl (zbj ((zx (by omega)).trans X.out)) Tryz.underlying55 rfl (by kernel_rfl)) rfl ?_
  exact⟨by rw[H.out],zbX ((zbs J).setCell (Nat.le_refl _) _) (Nat.le_succ _) _ _ _ _ _ _ _ _ _ _ _ _⟩
 ·have H:Hid (zbC C q.pos z=z):=if_neg K
  unfold pv
  go_enter Tryz.func101,Tryz.ntmps101
  go_wp2
  refine bodyPost_ret (results_cell_row rfl _ _ (w.heap.size+1) 55 _ (0,0) _ rfl (zdz w _ _) Tryz.underlying55 rfl (by kernel_rfl)) rfl ?_
  exact⟨by rw[H.out],zcD w _ _⟩
end Go.Proofs.YthfeoomfiafldaaGreat