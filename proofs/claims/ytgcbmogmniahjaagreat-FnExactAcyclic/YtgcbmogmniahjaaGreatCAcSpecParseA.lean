/-
 What spec's smallest readers of tokens answer: the walks.
-/
import Derived.Test.YtgcbmogmniahjaaGreatCAcParseMemToModMem
import Derived.Test.YtgcbmogmniahjaaGreatCAcSpecLexAllToTokCells
namespace Go.Proofs.YtgcbmogmniahjaaGreat
set_option maxRecDepth 100000
set_option maxHeartbeats 1600000
open Go.RowKit Go.PlainAid
def pv (C:Cx) (gt cap:Nat) (S:Sv) (q:PS) (z:Int) (d:Nat):Value:=
 .agg #[.slice (some ⟨gt,0,none⟩) C.ts.length cap,.int .i64 q.pos,.int .i64 C.fin,.bool C.scr,.slice S.rq.a q.rq.length S.rq.cap,.slice S.im.a q.im.length S.im.cap,.slice S.ep.a q.ep.length S.ep.cap,
  .slice S.st.a q.st.length S.st.cap,.slice S.ex.a q.ex.length S.ex.cap,.slice S.la.a q.la.length S.la.cap,.int .i64 z,.int .i64 d]
theorem zjB {C:Cx} {i:Nat} {k:Int} {s:ByteArray} (h:((ze C i).kind==k)=false):isT C i k s=false:=by rw[isT,h];rfl
theorem zfy {C:Cx} {i:Nat} {k:Int} {s:ByteArray} (h: ¬i<C.ts.length) (q:k≠0):isT C i k s=false:=by
 rw[Bool.eq_false_iff]
 exact fun g=>h (za9 g q)
theorem zk (C:Cx) (O H base:Nat) (S:Sv) (q:PS) (z:Int) (d:Nat) (k:Int) (s:ByteArray) (w:World) (N:OwnT w base 158 O C.ts.length H C.ts) (_:C.ts.length≤4000) (Y:k≠0):
  Calls Tryz.prog 113 #[pv C O H S q z d,.int .i64 k,.string s] w fun e w'=>e= .returned (.bool (decide (z<0)&&isT C q.pos k s))∧Below w.heap.size w w':=by
 unfold pv
 by_cases X:z<0
 ·have I:decide (z<0)=true:=decide_eq_true X
  by_cases K:q.pos<C.ts.length
  ·obtain⟨L,V,_,_⟩:=N.cells K (d:=⟨0,sNone,0,C.fin⟩)
   have M:=(zau N).1
   change _=some (Value.int .i64 (ze C q.pos).kind) at L
   change _=some (Value.string (ze C q.pos).text) at V
   generalize h:ze C q.pos=t at L V
   cases J:(t.kind==k) with
   |true=>
    cases U:(t.text.toList==s.toList) with
    |true=>
     have A:Hid (isT C q.pos k s=true):=by show isT C q.pos k s=true;simp only[isT,h,J,U,Bool.and_self]
     clear h
     go_enter Tryz.func113,Tryz.ntmps113
     go_wp2
     go_ret
     exact⟨zi (by rw[I,A.out];rfl),(Below.refl _ _).alloc (Nat.le_refl _) _⟩
    |false=>
     have A:Hid (isT C q.pos k s=false):=by show isT C q.pos k s=false;simp only[isT,h,J,U,Bool.and_false]
     clear h
     go_enter Tryz.func113,Tryz.ntmps113
     go_wp2
     go_ret
     exact⟨zi (by rw[I,A.out];rfl),(Below.refl _ _).alloc (Nat.le_refl _) _⟩
   |false=>
    have A:Hid (isT C q.pos k s=false):=zjB (by rw[h];exact J)
    clear h
    go_enter Tryz.func113,Tryz.ntmps113
    go_wp2
    go_ret
    exact⟨zi (by rw[I,A.out];rfl),(Below.refl _ _).alloc (Nat.le_refl _) _⟩
  ·have A:Hid (isT C q.pos k s=false):=zfy K Y
   go_enter Tryz.func113,Tryz.ntmps113
   go_wp2
   go_ret
   exact⟨zi (by rw[I,A.out];rfl),(Below.refl _ _).alloc (Nat.le_refl _) _⟩
 ·have I:decide (z<0)=false:=decide_eq_false X
  go_enter Tryz.func113,Tryz.ntmps113
  go_wp2
  go_ret
  exact⟨zi rfl,(Below.refl _ _).alloc (Nat.le_refl _) _⟩
theorem znZ (C:Cx) (I h base:Nat) (S:Sv) (q:PS) (z:Int) (d:Nat) (w:World) (H:OwnT w base 158 I C.ts.length h C.ts) (_:C.ts.length≤4000):
  Calls Tryz.prog 180 #[pv C I h S q z d] w fun e w'=>e= .returned (.int .i64 (zs C q.pos))∧Below w.heap.size w w':=by
 unfold pv
 by_cases J:q.pos<C.ts.length
 ·obtain⟨_,_,_,K⟩:=H.cells J (d:=⟨0,sNone,0,C.fin⟩)
  have A:=(zau H).1
  change _=some (Value.int .i64 (zs C q.pos)) at K
  go_enter Tryz.func180,Tryz.ntmps180
  go_wp2
  go_ret
  exact⟨rfl,(Below.refl _ _).alloc (Nat.le_refl _) _⟩
 ·have L:Hid (zs C q.pos=C.fin):=by show zs C q.pos=C.fin;rw[zs,zea (by omega)]
  go_enter Tryz.func180,Tryz.ntmps180
  go_wp2
  go_ret
  exact⟨zbC (by rw[L.out]),(Below.refl _ _).alloc (Nat.le_refl _) _⟩
def zb7 (C:Cx) (i:Nat) (z:Int):Int:=if z<0 then zs C i else z
theorem zr {w:World} {base g n q:Nat} {e:TypeId} {z:List Tk} (h:OwnT w base e g n q z) (o:Obj):OwnT (w.alloc o) base e g n q z:=zc1 h ((Below.refl _ _).alloc (Nat.le_refl _) _)
theorem zc2 {w:World} {b i:Nat} {q:Array Value} {u:Value} {t:TypeId} (h:w.heap[b]? =some (.cells q t (0,0))):(w.setCell ⟨b,i,none⟩ u).heap[b]? =some (.cells (q.setIfInBounds i u) t (0,0)):=by
 simp only[World.setCell,Array.getElem?_modify]
 rw[if_pos trivial,h]
 rfl
theorem zv {w:World} {b c i:Nat} {u:Value} (h:b≠c):(w.setCell ⟨c,i,none⟩ u).heap[b]? =w.heap[b]?:=Below.heap_setCell w ⟨c,i,none⟩ u b h
structure Box (w:World) (b:Nat) (v0 v1 v2 v3 v4 v5 v6 v7 v8 v9 v10 v11:Value):Prop where
 c0:w.cell? ⟨b,0,none⟩=some v0
 c1:w.cell? ⟨b,1,none⟩=some v1
 c2:w.cell? ⟨b,2,none⟩=some v2
 c3:w.cell? ⟨b,3,none⟩=some v3
 c4:w.cell? ⟨b,4,none⟩=some v4
 c5:w.cell? ⟨b,5,none⟩=some v5
 c6:w.cell? ⟨b,6,none⟩=some v6
 c7:w.cell? ⟨b,7,none⟩=some v7
 c8:w.cell? ⟨b,8,none⟩=some v8
 c9:w.cell? ⟨b,9,none⟩=some v9
 c10:w.cell? ⟨b,10,none⟩=some v10
 c11:w.cell? ⟨b,11,none⟩=some v11
 fz: ∀i,w.frozen? ⟨b,i,none⟩=false
theorem zap {w:World} {b:Nat} {t:TypeId} {v0 v1 v2 v3 v4 H A K J I q z:Value} (h:w.heap[b]? =some (.cells #[v0,v1,v2,v3,v4,H,A,K,J,I,q,z] t (0,0))):Box w b v0 v1 v2 v3 v4 H A K J I q z:=by
 constructor<;>simp[World.cell?,World.frozen?,h]
theorem zbd {w:World} {b:Nat} {v0 v1 v2 v3 v4 v5 Y v7 v8 Z H O A X M J I N V K U L z q:Value} {t:TypeId} (h:w.heap[b]? =some (.cells #[v0,v1,v2,v3,v4,v5,Y,v7,v8,Z,H,O] t (0,0))):
  ((((((((((((w.setCell ⟨b,0,none⟩ A).setCell ⟨b,1,none⟩ X).setCell ⟨b,2,none⟩ M).setCell ⟨b,3,none⟩ J).setCell ⟨b,4,none⟩ I).setCell ⟨b,5,none⟩ N).setCell ⟨b,6,none⟩ V).setCell ⟨b,7,none⟩ K).setCell ⟨b,8,none⟩ U).setCell ⟨b,9,none⟩ L).setCell ⟨b,10,none⟩ z).setCell ⟨b,11,none⟩ q).heap[b]? =some (.cells #[A,X,M,J,I,N,V,K,U,L,z,q] t (0,0)):=
 by
 have e:=zc2 (i:=11) (u:=q) (zc2 (i:=10) (u:=z) (zc2 (i:=9) (u:=L) (zc2 (i:=8) (u:=U) (zc2 (i:=7) (u:=K) (zc2 (i:=6) (u:=V) (zc2 (i:=5) (u:=N) (zc2 (i:=4) (u:=I) (zc2 (i:=3) (u:=J) (zc2 (i:=2) (u:=M) (zc2 (i:=1) (u:=X) (zc2 (i:=0) (u:=A) h)))))))))))
 rw[e]
 simp
theorem zbY {B:Nat} {a w:World} {b:Nat} (h:Below B a w) (q:B≤b) (H L U M I V K O J N z A:Value):
  Below B a ((((((((((((w.setCell ⟨b,0,none⟩ H).setCell ⟨b,1,none⟩ L).setCell ⟨b,2,none⟩ U).setCell ⟨b,3,none⟩ M).setCell ⟨b,4,none⟩ I).setCell ⟨b,5,none⟩ V).setCell ⟨b,6,none⟩ K).setCell ⟨b,7,none⟩ O).setCell ⟨b,8,none⟩ J).setCell ⟨b,9,none⟩ N).setCell ⟨b,10,none⟩ z).setCell ⟨b,11,none⟩ A):=
 (((((((((((h.setCell q _).setCell q _).setCell q _).setCell q _).setCell q _).setCell q _).setCell q _).setCell q _).setCell q _).setCell q _).setCell q _).setCell q _
theorem zbe (w:World) (a b:Obj):Below w.heap.size w ((w.alloc a).alloc b):=((Below.refl _ _).alloc (Nat.le_refl _) _).alloc (by show _≤(w.heap.push _).size;simp) _
theorem new2 (w:World) (a b:Obj):((w.alloc a).alloc b).heap[w.heap.size+1]? =some b:=by
 have h:(w.alloc a).heap.size=w.heap.size+1:=by show (w.heap.push _).size=_;simp
 rw[←h]
 exact heap_alloc_new _ b
theorem zcQ {w h:World} {a b:Obj} (q:Below ((w.alloc a).alloc b).heap.size ((w.alloc a).alloc b) h):h.heap[w.heap.size]? =some a∧h.heap[w.heap.size+1]? =some b:=by
 have e:((w.alloc a).alloc b).heap.size=w.heap.size+2:=by show ((w.heap.push _).push _).size=_;simp
 have z:(w.alloc a).heap.size=w.heap.size+1:=by show (w.heap.push _).size=_;simp
 refine⟨?_,?_⟩
 ·rw[q.block _ (by omega),Below.heap_alloc _ _ _ (by omega)]
  exact heap_alloc_new w a
 ·rw[q.block _ (by omega),←z]
  exact heap_alloc_new _ b
theorem zbj {w h:World} {a b:Obj} (z:Below ((w.alloc a).alloc b).heap.size ((w.alloc a).alloc b) h):Below w.heap.size w h:=by
 have A:(w.alloc a).heap.size=w.heap.size+1:=by show (w.heap.push _).size=_;simp
 have q:Below w.heap.size w ((w.alloc a).alloc b):=((Below.refl _ _).alloc (Nat.le_refl _) _).alloc (by omega) _
 exact q.trans (z.mono q.size)
theorem zd7 (C:Cx) (A h base:Nat) (S:Sv) (q:PS) (z:Int) (d:Nat) (w:World) (N:OwnT w base 158 A C.ts.length h C.ts) (Y:C.ts.length≤4000):
  Calls Tryz.prog 157 #[pv C A h S q z d] w fun e w'=>e= .returned (pv C A h S q (zb7 C q.pos z) d)∧Below w.heap.size w w':=by
 by_cases K:z<0
 ·have I:Hid (zb7 C q.pos z=zs C q.pos):=if_pos K
  unfold pv
  go_enter Tryz.func157,Tryz.ntmps157
  go_wp2_with fail
  refine (znZ C A h base S q z d _ (zr (zr N _) _) Y).mono ?_
  rintro e w1 ⟨rfl,J⟩
  obtain⟨L,H⟩:=zcQ J
  obtain⟨a0,a1,a2,a3,a4,a5,a6,a7,Z,a9,U,V,af⟩:=zap L
  obtain⟨b0,b1,b2,b3,b4,b5,b6,b7,b8,b9,O,M,bf⟩:=zap H
  have X:Hid (_=_):=H
  clear L H
  go_wp2
  refine bodyPost_ret (results_cell_row rfl _ _ (w.heap.size+1) 121 _ (0,0) _ rfl (zbd ((zv (by omega)).trans X.out)) Tryz.underlying121 rfl (by kernel_rfl)) rfl ?_
  exact⟨by rw[I.out],zbY ((zbj J).setCell (Nat.le_refl _) _) (Nat.le_succ _) _ _ _ _ _ _ _ _ _ _ _ _⟩
 ·have I:Hid (zb7 C q.pos z=z):=if_neg K
  unfold pv
  go_enter Tryz.func157,Tryz.ntmps157
  go_wp2
  refine bodyPost_ret (results_cell_row rfl _ _ (w.heap.size+1) 121 _ (0,0) _ rfl (new2 w _ _) Tryz.underlying121 rfl (by kernel_rfl)) rfl ?_
  exact⟨by rw[I.out],zbe w _ _⟩
end Go.Proofs.YtgcbmogmniahjaaGreat