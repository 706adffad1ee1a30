/-
 What spec's smallest readers of tokens answer: the walks.
-/
import Derived.Test.YtgcbmogmniahjaaGreatCReParseMemToModMem
import Derived.Test.YtgcbmogmniahjaaGreatCReSpecLexAllToTokCells
namespace Go.Proofs.YtgcbmogmniahjaaGreat
set_option maxRecDepth 100000
set_option maxHeartbeats 1600000
open Go.RowKit Go.PlainAid
def pv (C:Cx) (gt cap:Nat) (S:Sv) (q:PS) (z:Int) (d:Nat):Value:=
 .agg #[.slice (some ⟨gt,0,none⟩) C.ts.length cap,.int .i64 q.pos,.int .i64 C.fin,.bool C.scr,.slice S.rq.a q.rq.length S.rq.cap,.slice S.im.a q.im.length S.im.cap,.slice S.ep.a q.ep.length S.ep.cap,
  .slice S.st.a q.st.length S.st.cap,.slice S.ex.a q.ex.length S.ex.cap,.slice S.la.a q.la.length S.la.cap,.int .i64 z,.int .i64 d]
theorem zjQ {C:Cx} {i:Nat} {k:Int} {s:ByteArray} (h:((ze C i).kind==k)=false):isT C i k s=false:=by rw[isT,h];rfl
theorem zf8 {C:Cx} {i:Nat} {k:Int} {s:ByteArray} (h: ¬i<C.ts.length) (q:k≠0):isT C i k s=false:=by
 rw[Bool.eq_false_iff]
 exact fun g=>h (zaB g q)
theorem zk (C:Cx) (M D base:Nat) (S:Sv) (q:PS) (z:Int) (d:Nat) (k:Int) (s:ByteArray) (w:World) (L:OwnT w base 158 M C.ts.length D C.ts) (_:C.ts.length≤4000) (V:k≠0):
  Calls Tryz.prog 113 #[pv C M D S q z d,.int .i64 k,.string s] w fun e X=>e= .returned (.bool (decide (z<0)&&isT C q.pos k s))∧Below w.heap.size w X:=by
 unfold pv
 by_cases U:z<0
 ·have E:decide (z<0)=true:=decide_eq_true U
  by_cases I:q.pos<C.ts.length
  ·obtain⟨J,O,_,_⟩:=L.cells I (d:=⟨0,sNone,0,C.fin⟩)
   have K:=(zaw L).1
   change _=some (Value.int .i64 (ze C q.pos).kind) at J
   change _=some (Value.string (ze C q.pos).text) at O
   generalize h:ze C q.pos=t at J O
   cases H:(t.kind==k) with
   |true=>
    cases N:(t.text.toList==s.toList) with
    |true=>
     have A:Hid (isT C q.pos k s=true):=by show isT C q.pos k s=true;simp only[isT,h,H,N,Bool.and_self]
     clear h
     go_enter Tryz.func113,Tryz.ntmps113
     go_wp2
     go_ret
     exact⟨zi (by rw[E,A.out];rfl),(Below.refl _ _).alloc (Nat.le_refl _) _⟩
    |false=>
     have A:Hid (isT C q.pos k s=false):=by show isT C q.pos k s=false;simp only[isT,h,H,N,Bool.and_false]
     clear h
     go_enter Tryz.func113,Tryz.ntmps113
     go_wp2
     go_ret
     exact⟨zi (by rw[E,A.out];rfl),(Below.refl _ _).alloc (Nat.le_refl _) _⟩
   |false=>
    have A:Hid (isT C q.pos k s=false):=zjQ (by rw[h];exact H)
    clear h
    go_enter Tryz.func113,Tryz.ntmps113
    go_wp2
    go_ret
    exact⟨zi (by rw[E,A.out];rfl),(Below.refl _ _).alloc (Nat.le_refl _) _⟩
  ·have A:Hid (isT C q.pos k s=false):=zf8 I V
   go_enter Tryz.func113,Tryz.ntmps113
   go_wp2
   go_ret
   exact⟨zi (by rw[E,A.out];rfl),(Below.refl _ _).alloc (Nat.le_refl _) _⟩
 ·have E:decide (z<0)=false:=decide_eq_false U
  go_enter Tryz.func113,Tryz.ntmps113
  go_wp2
  go_ret
  exact⟨zi rfl,(Below.refl _ _).alloc (Nat.le_refl _) _⟩
theorem zov (C:Cx) (E h base:Nat) (S:Sv) (q:PS) (z:Int) (d:Nat) (w:World) (D:OwnT w base 158 E C.ts.length h C.ts) (_:C.ts.length≤4000):
  Calls Tryz.prog 180 #[pv C E h S q z d] w fun e I=>e= .returned (.int .i64 (zt C q.pos))∧Below w.heap.size w I:=by
 unfold pv
 by_cases H:q.pos<C.ts.length
 ·obtain⟨_,_,_,J⟩:=D.cells H (d:=⟨0,sNone,0,C.fin⟩)
  have A:=(zaw D).1
  change _=some (Value.int .i64 (zt C q.pos)) at J
  go_enter Tryz.func180,Tryz.ntmps180
  go_wp2
  go_ret
  exact⟨rfl,(Below.refl _ _).alloc (Nat.le_refl _) _⟩
 ·have K:Hid (zt C q.pos=C.fin):=by show zt C q.pos=C.fin;rw[zt,zek (by omega)]
  go_enter Tryz.func180,Tryz.ntmps180
  go_wp2
  go_ret
  exact⟨zbG (by rw[K.out]),(Below.refl _ _).alloc (Nat.le_refl _) _⟩
def zbB (C:Cx) (i:Nat) (z:Int):Int:=if z<0 then zt C i else z
theorem zr {w:World} {base g n q:Nat} {e:TypeId} {z:List Tk} (h:OwnT w base e g n q z) (o:Obj):OwnT (w.alloc o) base e g n q z:=zc3 h ((Below.refl _ _).alloc (Nat.le_refl _) _)
theorem zc4 {w:World} {b i:Nat} {q:Array Value} {u:Value} {t:TypeId} (h:w.heap[b]? =some (.cells q t (0,0))):(w.setCell ⟨b,i,none⟩ u).heap[b]? =some (.cells (q.setIfInBounds i u) t (0,0)):=by
 simp only[World.setCell,Array.getElem?_modify]
 rw[if_pos trivial,h]
 rfl
theorem zx {w:World} {b c i:Nat} {u:Value} (h:b≠c):(w.setCell ⟨c,i,none⟩ u).heap[b]? =w.heap[b]?:=Below.heap_setCell w ⟨c,i,none⟩ u b h
structure Box (w:World) (b:Nat) (v0 v1 v2 v3 v4 v5 v6 v7 v8 v9 v10 v11:Value):Prop where
 c0:w.cell? ⟨b,0,none⟩=some v0
 c1:w.cell? ⟨b,1,none⟩=some v1
 c2:w.cell? ⟨b,2,none⟩=some v2
 c3:w.cell? ⟨b,3,none⟩=some v3
 c4:w.cell? ⟨b,4,none⟩=some v4
 c5:w.cell? ⟨b,5,none⟩=some v5
 c6:w.cell? ⟨b,6,none⟩=some v6
 c7:w.cell? ⟨b,7,none⟩=some v7
 c8:w.cell? ⟨b,8,none⟩=some v8
 c9:w.cell? ⟨b,9,none⟩=some v9
 c10:w.cell? ⟨b,10,none⟩=some v10
 c11:w.cell? ⟨b,11,none⟩=some v11
 fz: ∀i,w.frozen? ⟨b,i,none⟩=false
theorem zar {w:World} {b:Nat} {t:TypeId} {v0 v1 v2 v3 v4 D A I H E q z:Value} (h:w.heap[b]? =some (.cells #[v0,v1,v2,v3,v4,D,A,I,H,E,q,z] t (0,0))):Box w b v0 v1 v2 v3 v4 D A I H E q z:=by
 constructor<;>simp[World.cell?,World.frozen?,h]
theorem zbf {w:World} {b:Nat} {v0 v1 v2 v3 v4 v5 V Y Z X D M A U K H E L O I N J z q:Value} {t:TypeId} (h:w.heap[b]? =some (.cells #[v0,v1,v2,v3,v4,v5,V,Y,Z,X,D,M] t (0,0))):
  ((((((((((((w.setCell ⟨b,0,none⟩ A).setCell ⟨b,1,none⟩ U).setCell ⟨b,2,none⟩ K).setCell ⟨b,3,none⟩ H).setCell ⟨b,4,none⟩ E).setCell ⟨b,5,none⟩ L).setCell ⟨b,6,none⟩ O).setCell ⟨b,7,none⟩ I).setCell ⟨b,8,none⟩ N).setCell ⟨b,9,none⟩ J).setCell ⟨b,10,none⟩ z).setCell ⟨b,11,none⟩ q).heap[b]? =some (.cells #[A,U,K,H,E,L,O,I,N,J,z,q] t (0,0)):=
 by
 have e:=zc4 (i:=11) (u:=q) (zc4 (i:=10) (u:=z) (zc4 (i:=9) (u:=J) (zc4 (i:=8) (u:=N) (zc4 (i:=7) (u:=I) (zc4 (i:=6) (u:=O) (zc4 (i:=5) (u:=L) (zc4 (i:=4) (u:=E) (zc4 (i:=3) (u:=H) (zc4 (i:=2) (u:=K) (zc4 (i:=1) (u:=U) (zc4 (i:=0) (u:=A) h)))))))))))
 rw[e]
 simp
theorem zce {B:Nat} {a w:World} {b:Nat} (h:Below B a w) (q:B≤b) (D J N K E O I M H L z A:Value):
  Below B a ((((((((((((w.setCell ⟨b,0,none⟩ D).setCell ⟨b,1,none⟩ J).setCell ⟨b,2,none⟩ N).setCell ⟨b,3,none⟩ K).setCell ⟨b,4,none⟩ E).setCell ⟨b,5,none⟩ O).setCell ⟨b,6,none⟩ I).setCell ⟨b,7,none⟩ M).setCell ⟨b,8,none⟩ H).setCell ⟨b,9,none⟩ L).setCell ⟨b,10,none⟩ z).setCell ⟨b,11,none⟩ A):=
 (((((((((((h.setCell q _).setCell q _).setCell q _).setCell q _).setCell q _).setCell q _).setCell q _).setCell q _).setCell q _).setCell q _).setCell q _).setCell q _
theorem zbg (w:World) (a b:Obj):Below w.heap.size w ((w.alloc a).alloc b):=((Below.refl _ _).alloc (Nat.le_refl _) _).alloc (by show _≤(w.heap.push _).size;simp) _
theorem new2 (w:World) (a b:Obj):((w.alloc a).alloc b).heap[w.heap.size+1]? =some b:=by
 have h:(w.alloc a).heap.size=w.heap.size+1:=by show (w.heap.push _).size=_;simp
 rw[←h]
 exact heap_alloc_new _ b
theorem zcV {w h:World} {a b:Obj} (q:Below ((w.alloc a).alloc b).heap.size ((w.alloc a).alloc b) h):h.heap[w.heap.size]? =some a∧h.heap[w.heap.size+1]? =some b:=by
 have e:((w.alloc a).alloc b).heap.size=w.heap.size+2:=by show ((w.heap.push _).push _).size=_;simp
 have z:(w.alloc a).heap.size=w.heap.size+1:=by show (w.heap.push _).size=_;simp
 refine⟨?_,?_⟩
 ·rw[q.block _ (by omega),Below.heap_alloc _ _ _ (by omega)]
  exact heap_alloc_new w a
 ·rw[q.block _ (by omega),←z]
  exact heap_alloc_new _ b
theorem zbm {w h:World} {a b:Obj} (z:Below ((w.alloc a).alloc b).heap.size ((w.alloc a).alloc b) h):Below w.heap.size w h:=by
 have A:(w.alloc a).heap.size=w.heap.size+1:=by show (w.heap.push _).size=_;simp
 have q:Below w.heap.size w ((w.alloc a).alloc b):=((Below.refl _ _).alloc (Nat.le_refl _) _).alloc (by omega) _
 exact q.trans (z.mono q.size)
theorem zdE (C:Cx) (A h base:Nat) (S:Sv) (q:PS) (z:Int) (d:Nat) (w:World) (M:OwnT w base 158 A C.ts.length h C.ts) (X:C.ts.length≤4000):
  Calls Tryz.prog 157 #[pv C A h S q z d] w fun e K=>e= .returned (pv C A h S q (zbB C q.pos z) d)∧Below w.heap.size w K:=by
 by_cases I:z<0
 ·have E:Hid (zbB C q.pos z=zt C q.pos):=if_pos I
  unfold pv
  go_enter Tryz.func157,Tryz.ntmps157
  go_wp2_with fail
  refine (zov C A h base S q z d _ (zr (zr M _) _) X).mono ?_
  rintro e Z ⟨rfl,H⟩
  obtain⟨J,D⟩:=zcV H
  obtain⟨a0,a1,a2,a3,a4,a5,a6,a7,Y,a9,O,U,af⟩:=zar J
  obtain⟨b0,b1,b2,b3,b4,b5,b6,b7,b8,b9,N,L,bf⟩:=zar D
  have V:Hid (_=_):=D
  clear J D
  go_wp2
  refine bodyPost_ret (results_cell_row rfl _ _ (w.heap.size+1) 121 _ (0,0) _ rfl (zbf ((zx (by omega)).trans V.out)) Tryz.underlying121 rfl (by kernel_rfl)) rfl ?_
  exact⟨by rw[E.out],zce ((zbm H).setCell (Nat.le_refl _) _) (Nat.le_succ _) _ _ _ _ _ _ _ _ _ _ _ _⟩
 ·have E:Hid (zbB C q.pos z=z):=if_neg I
  unfold pv
  go_enter Tryz.func157,Tryz.ntmps157
  go_wp2
  refine bodyPost_ret (results_cell_row rfl _ _ (w.heap.size+1) 121 _ (0,0) _ rfl (new2 w _ _) Tryz.underlying121 rfl (by kernel_rfl)) rfl ?_
  exact⟨by rw[E.out],zbg w _ _⟩
end Go.Proofs.YtgcbmogmniahjaaGreat