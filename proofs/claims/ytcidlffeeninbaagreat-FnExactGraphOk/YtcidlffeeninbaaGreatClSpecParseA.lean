/-
 What spec's smallest readers of tokens answer: the walks.
-/
import Derived.Test.YtcidlffeeninbaaGreatClParseMemToModMem
import Derived.Test.YtcidlffeeninbaaGreatClSpecLexAllToTokCells
namespace Go.Proofs.YtcidlffeeninbaaGreat
set_option maxRecDepth 100000
set_option maxHeartbeats 1600000
open Go.RowKit Go.PlainAid
def pv (C:Cx) (gt cap:Nat) (S:Sv) (q:PS) (z:Int) (d:Nat):Value:=
 .agg #[.slice (some ⟨gt,0,none⟩) C.ts.length cap,.int .i64 q.pos,.int .i64 C.fin,.bool C.scr,.slice S.rq.a q.rq.length S.rq.cap,.slice S.im.a q.im.length S.im.cap,.slice S.ep.a q.ep.length S.ep.cap,
  .slice S.st.a q.st.length S.st.cap,.slice S.ex.a q.ex.length S.ex.cap,.slice S.la.a q.la.length S.la.cap,.int .i64 z,.int .i64 d]
theorem zje {C:Cx} {i:Nat} {k:Int} {s:ByteArray} (h:((ze C i).kind==k)=false):isT C i k s=false:=by rw[isT,h];rfl
theorem zfn {C:Cx} {i:Nat} {k:Int} {s:ByteArray} (h: ¬i<C.ts.length) (q:k≠0):isT C i k s=false:=by
 rw[Bool.eq_false_iff]
 exact fun g=>h (za8 g q)
theorem zj (C:Cx) (L E D:Nat) (S:Sv) (q:PS) (z:Int) (d:Nat) (k:Int) (s:ByteArray) (w:World) (M:OwnT w D 136 L C.ts.length E C.ts) (_:C.ts.length≤4000) (Y:k≠0):
  Calls Tryz.prog 86 #[pv C L E S q z d,.int .i64 k,.string s] w fun e X=>e= .returned (.bool (decide (z<0)&&isT C q.pos k s))∧Below w.heap.size w X:=by
 unfold pv
 by_cases V:z<0
 ·have H:decide (z<0)=true:=decide_eq_true V
  by_cases J:q.pos<C.ts.length
  ·obtain⟨N,O,_,_⟩:=M.cells J (d:=⟨0,sNone,0,C.fin⟩)
   have K:=(zau M).1
   change _=some (Value.int .i64 (ze C q.pos).kind) at N
   change _=some (Value.string (ze C q.pos).text) at O
   generalize h:ze C q.pos=t at N O
   cases I:(t.kind==k) with
   |true=>
    cases U:(t.text.toList==s.toList) with
    |true=>
     have A:Hid (isT C q.pos k s=true):=by show isT C q.pos k s=true;simp only[isT,h,I,U,Bool.and_self]
     clear h
     go_enter Tryz.func86,Tryz.ntmps86
     go_wp2
     go_ret
     exact⟨zh (by rw[H,A.out];rfl),(Below.refl _ _).alloc (Nat.le_refl _) _⟩
    |false=>
     have A:Hid (isT C q.pos k s=false):=by show isT C q.pos k s=false;simp only[isT,h,I,U,Bool.and_false]
     clear h
     go_enter Tryz.func86,Tryz.ntmps86
     go_wp2
     go_ret
     exact⟨zh (by rw[H,A.out];rfl),(Below.refl _ _).alloc (Nat.le_refl _) _⟩
   |false=>
    have A:Hid (isT C q.pos k s=false):=zje (by rw[h];exact I)
    clear h
    go_enter Tryz.func86,Tryz.ntmps86
    go_wp2
    go_ret
    exact⟨zh (by rw[H,A.out];rfl),(Below.refl _ _).alloc (Nat.le_refl _) _⟩
  ·have A:Hid (isT C q.pos k s=false):=zfn J Y
   go_enter Tryz.func86,Tryz.ntmps86
   go_wp2
   go_ret
   exact⟨zh (by rw[H,A.out];rfl),(Below.refl _ _).alloc (Nat.le_refl _) _⟩
 ·have H:decide (z<0)=false:=decide_eq_false V
  go_enter Tryz.func86,Tryz.ntmps86
  go_wp2
  go_ret
  exact⟨zh rfl,(Below.refl _ _).alloc (Nat.le_refl _) _⟩
theorem znn (C:Cx) (H A h:Nat) (S:Sv) (q:PS) (z:Int) (d:Nat) (w:World) (E:OwnT w h 136 H C.ts.length A C.ts) (_:C.ts.length≤4000):
  Calls Tryz.prog 167 #[pv C H A S q z d] w fun e K=>e= .returned (.int .i64 (zs C q.pos))∧Below w.heap.size w K:=by
 unfold pv
 by_cases I:q.pos<C.ts.length
 ·obtain⟨_,_,_,J⟩:=E.cells I (d:=⟨0,sNone,0,C.fin⟩)
  have D:=(zau E).1
  change _=some (Value.int .i64 (zs C q.pos)) at J
  go_enter Tryz.func167,Tryz.ntmps167
  go_wp2
  go_ret
  exact⟨rfl,(Below.refl _ _).alloc (Nat.le_refl _) _⟩
 ·have L:Hid (zs C q.pos=C.fin):=by show zs C q.pos=C.fin;rw[zs,zdP (by omega)]
  go_enter Tryz.func167,Tryz.ntmps167
  go_wp2
  go_ret
  exact⟨zb7 (by rw[L.out]),(Below.refl _ _).alloc (Nat.le_refl _) _⟩
def zb2 (C:Cx) (i:Nat) (z:Int):Int:=if z<0 then zs C i else z
theorem zr {w:World} {q g n z:Nat} {e:TypeId} {A:List Tk} (h:OwnT w q e g n z A) (o:Obj):OwnT (w.alloc o) q e g n z A:=zcx h ((Below.refl _ _).alloc (Nat.le_refl _) _)
theorem zcy {w:World} {b i:Nat} {q:Array Value} {u:Value} {t:TypeId} (h:w.heap[b]? =some (.cells q t (0,0))):(w.setCell ⟨b,i,none⟩ u).heap[b]? =some (.cells (q.setIfInBounds i u) t (0,0)):=by
 simp only[World.setCell,Array.getElem?_modify]
 rw[if_pos trivial,h]
 rfl
theorem zv {w:World} {b c i:Nat} {u:Value} (h:b≠c):(w.setCell ⟨c,i,none⟩ u).heap[b]? =w.heap[b]?:=Below.heap_setCell w ⟨c,i,none⟩ u b h
structure Box (w:World) (b:Nat) (v0 v1 v2 v3 v4 v5 v6 v7 v8 v9 v10 v11:Value):Prop where
 c0:w.cell? ⟨b,0,none⟩=some v0
 c1:w.cell? ⟨b,1,none⟩=some v1
 c2:w.cell? ⟨b,2,none⟩=some v2
 c3:w.cell? ⟨b,3,none⟩=some v3
 c4:w.cell? ⟨b,4,none⟩=some v4
 c5:w.cell? ⟨b,5,none⟩=some v5
 c6:w.cell? ⟨b,6,none⟩=some v6
 c7:w.cell? ⟨b,7,none⟩=some v7
 c8:w.cell? ⟨b,8,none⟩=some v8
 c9:w.cell? ⟨b,9,none⟩=some v9
 c10:w.cell? ⟨b,10,none⟩=some v10
 c11:w.cell? ⟨b,11,none⟩=some v11
 fz: ∀i,w.frozen? ⟨b,i,none⟩=false
theorem zan {w:World} {b:Nat} {t:TypeId} {D K I J L A H N E M q z:Value} (h:w.heap[b]? =some (.cells #[D,K,I,J,L,A,H,N,E,M,q,z] t (0,0))):Box w b D K I J L A H N E M q z:=by
 constructor<;>simp[World.cell?,World.frozen?,h]
theorem zbb {w:World} {b:Nat} {V X v2 Y v4 Z v6 v7 v8 v9 D L M E N O J A K I H U q z:Value} {t:TypeId} (h:w.heap[b]? =some (.cells #[V,X,v2,Y,v4,Z,v6,v7,v8,v9,D,L] t (0,0))):
  ((((((((((((w.setCell ⟨b,0,none⟩ M).setCell ⟨b,1,none⟩ E).setCell ⟨b,2,none⟩ N).setCell ⟨b,3,none⟩ O).setCell ⟨b,4,none⟩ J).setCell ⟨b,5,none⟩ A).setCell ⟨b,6,none⟩ K).setCell ⟨b,7,none⟩ I).setCell ⟨b,8,none⟩ H).setCell ⟨b,9,none⟩ U).setCell ⟨b,10,none⟩ q).setCell ⟨b,11,none⟩ z).heap[b]? =some (.cells #[M,E,N,O,J,A,K,I,H,U,q,z] t (0,0)):=
 by
 have e:=zcy (i:=11) (u:=z) (zcy (i:=10) (u:=q) (zcy (i:=9) (u:=U) (zcy (i:=8) (u:=H) (zcy (i:=7) (u:=I) (zcy (i:=6) (u:=K) (zcy (i:=5) (u:=A) (zcy (i:=4) (u:=J) (zcy (i:=3) (u:=O) (zcy (i:=2) (u:=N) (zcy (i:=1) (u:=E) (zcy (i:=0) (u:=M) h)))))))))))
 rw[e]
 simp
theorem zbR {B:Nat} {a w:World} {b:Nat} (h:Below B a w) (q:B≤b) (L O J N K E D H I M A z:Value):
  Below B a ((((((((((((w.setCell ⟨b,0,none⟩ L).setCell ⟨b,1,none⟩ O).setCell ⟨b,2,none⟩ J).setCell ⟨b,3,none⟩ N).setCell ⟨b,4,none⟩ K).setCell ⟨b,5,none⟩ E).setCell ⟨b,6,none⟩ D).setCell ⟨b,7,none⟩ H).setCell ⟨b,8,none⟩ I).setCell ⟨b,9,none⟩ M).setCell ⟨b,10,none⟩ A).setCell ⟨b,11,none⟩ z):=
 (((((((((((h.setCell q _).setCell q _).setCell q _).setCell q _).setCell q _).setCell q _).setCell q _).setCell q _).setCell q _).setCell q _).setCell q _).setCell q _
theorem zbc (w:World) (a b:Obj):Below w.heap.size w ((w.alloc a).alloc b):=((Below.refl _ _).alloc (Nat.le_refl _) _).alloc (by show _≤(w.heap.push _).size;simp) _
theorem new2 (w:World) (a b:Obj):((w.alloc a).alloc b).heap[w.heap.size+1]? =some b:=by
 have h:(w.alloc a).heap.size=w.heap.size+1:=by show (w.heap.push _).size=_;simp
 rw[←h]
 exact heap_alloc_new _ b
theorem zcL {w h:World} {a b:Obj} (q:Below ((w.alloc a).alloc b).heap.size ((w.alloc a).alloc b) h):h.heap[w.heap.size]? =some a∧h.heap[w.heap.size+1]? =some b:=by
 have e:((w.alloc a).alloc b).heap.size=w.heap.size+2:=by show ((w.heap.push _).push _).size=_;simp
 have z:(w.alloc a).heap.size=w.heap.size+1:=by show (w.heap.push _).size=_;simp
 refine⟨?_,?_⟩
 ·rw[q.block _ (by omega),Below.heap_alloc _ _ _ (by omega)]
  exact heap_alloc_new w a
 ·rw[q.block _ (by omega),←z]
  exact heap_alloc_new _ b
theorem zbg {w h:World} {a b:Obj} (z:Below ((w.alloc a).alloc b).heap.size ((w.alloc a).alloc b) h):Below w.heap.size w h:=by
 have A:(w.alloc a).heap.size=w.heap.size+1:=by show (w.heap.push _).size=_;simp
 have q:Below w.heap.size w ((w.alloc a).alloc b):=((Below.refl _ _).alloc (Nat.le_refl _) _).alloc (by omega) _
 exact q.trans (z.mono q.size)
theorem zdz (C:Cx) (D h A:Nat) (S:Sv) (q:PS) (z:Int) (d:Nat) (w:World) (V:OwnT w A 136 D C.ts.length h C.ts) (X:C.ts.length≤4000):
  Calls Tryz.prog 136 #[pv C D h S q z d] w fun e L=>e= .returned (pv C D h S q (zb2 C q.pos z) d)∧Below w.heap.size w L:=by
 by_cases J:z<0
 ·have H:Hid (zb2 C q.pos z=zs C q.pos):=if_pos J
  unfold pv
  go_enter Tryz.func136,Tryz.ntmps136
  go_wp2_with fail
  refine (znn C D h A S q z d _ (zr (zr V _) _) X).mono ?_
  rintro e w1 ⟨rfl,I⟩
  obtain⟨K,E⟩:=zcL I
  obtain⟨a0,a1,a2,a3,a4,a5,Z,a7,a8,a9,U,Y,af⟩:=zan K
  obtain⟨b0,b1,b2,b3,b4,b5,b6,b7,b8,b9,N,O,bf⟩:=zan E
  have M:Hid (_=_):=E
  clear K E
  go_wp2
  refine bodyPost_ret (results_cell_row rfl _ _ (w.heap.size+1) 101 _ (0,0) _ rfl (zbb ((zv (by omega)).trans M.out)) Tryz.underlying101 rfl (by kernel_rfl)) rfl ?_
  exact⟨by rw[H.out],zbR ((zbg I).setCell (Nat.le_refl _) _) (Nat.le_succ _) _ _ _ _ _ _ _ _ _ _ _ _⟩
 ·have H:Hid (zb2 C q.pos z=z):=if_neg J
  unfold pv
  go_enter Tryz.func136,Tryz.ntmps136
  go_wp2
  refine bodyPost_ret (results_cell_row rfl _ _ (w.heap.size+1) 101 _ (0,0) _ rfl (new2 w _ _) Tryz.underlying101 rfl (by kernel_rfl)) rfl ?_
  exact⟨by rw[H.out],zbc w _ _⟩
end Go.Proofs.YtcidlffeeninbaaGreat