/-
 What spec's smallest readers of tokens answer: the walks.
-/
import Derived.Test.YtjdddblpfbmpaaaGreatCoParseMemToModMem
import Derived.Test.YtjdddblpfbmpaaaGreatCoSpecLexAllToTokCells
namespace Go.Proofs.YtjdddblpfbmpaaaGreat
set_option maxRecDepth 100000
set_option maxHeartbeats 1600000
open Go.RowKit Go.PlainAid
def pv (C:Cx) (gt cap:Nat) (S:Sv) (q:PS) (z:Int) (d:Nat):Value:=
 .agg #[.slice (some ⟨gt,0,none⟩) C.ts.length cap,.int .i64 q.pos,.int .i64 C.fin,.bool C.scr,.slice S.rq.a q.rq.length S.rq.cap,.slice S.im.a q.im.length S.im.cap,.slice S.ep.a q.ep.length S.ep.cap,
  .slice S.st.a q.st.length S.st.cap,.slice S.ex.a q.ex.length S.ex.cap,.slice S.la.a q.la.length S.la.cap,.int .i64 z,.int .i64 d]
theorem zhf {C:Cx} {i:Nat} {k:Int} {s:ByteArray} (h:((ze C i).kind==k)=false):isT C i k s=false:=by rw[isT,h];rfl
theorem zel {C:Cx} {i:Nat} {k:Int} {s:ByteArray} (h: ¬i<C.ts.length) (j:k≠0):isT C i k s=false:=by
 rw[Bool.eq_false_iff]
 exact fun g=>h (zax g j)
theorem zg (C:Cx) (L n D:Nat) (S:Sv) (q:PS) (z:Int) (d:Nat) (k:Int) (s:ByteArray) (w:World) (K:OwnT w D 143 L C.ts.length n C.ts) (_:C.ts.length≤4000) (U:k≠0):
  Calls Tryz.prog 105 #[pv C L n S q z d,.int .i64 k,.string s] w fun e V=>e= .returned (.bool (decide (z<0)&&isT C q.pos k s))∧Below w.heap.size w V:=by
 unfold pv
 by_cases O:z<0
 ·have A:decide (z<0)=true:=decide_eq_true O
  by_cases H:q.pos<C.ts.length
  ·obtain⟨I,N,_,_⟩:=K.cells H (d:=⟨0,sNone,0,C.fin⟩)
   have J:=(zaj K).1
   change _=some (Value.int .i64 (ze C q.pos).kind) at I
   change _=some (Value.string (ze C q.pos).text) at N
   generalize h:ze C q.pos=t at I N
   cases E:(t.kind==k) with
   |true=>
    cases M:(t.text.toList==s.toList) with
    |true=>
     have j:Hid (isT C q.pos k s=true):=by show isT C q.pos k s=true;simp only[isT,h,E,M,Bool.and_self]
     clear h
     go_enter Tryz.func105,Tryz.ntmps105
     go_wp2
     go_ret
     exact⟨zl (by rw[A,j.out];rfl),(Below.refl _ _).alloc (Nat.le_refl _) _⟩
    |false=>
     have j:Hid (isT C q.pos k s=false):=by show isT C q.pos k s=false;simp only[isT,h,E,M,Bool.and_false]
     clear h
     go_enter Tryz.func105,Tryz.ntmps105
     go_wp2
     go_ret
     exact⟨zl (by rw[A,j.out];rfl),(Below.refl _ _).alloc (Nat.le_refl _) _⟩
   |false=>
    have j:Hid (isT C q.pos k s=false):=zhf (by rw[h];exact E)
    clear h
    go_enter Tryz.func105,Tryz.ntmps105
    go_wp2
    go_ret
    exact⟨zl (by rw[A,j.out];rfl),(Below.refl _ _).alloc (Nat.le_refl _) _⟩
  ·have j:Hid (isT C q.pos k s=false):=zel H U
   go_enter Tryz.func105,Tryz.ntmps105
   go_wp2
   go_ret
   exact⟨zl (by rw[A,j.out];rfl),(Below.refl _ _).alloc (Nat.le_refl _) _⟩
 ·have A:decide (z<0)=false:=decide_eq_false O
  go_enter Tryz.func105,Tryz.ntmps105
  go_wp2
  go_ret
  exact⟨zl rfl,(Below.refl _ _).alloc (Nat.le_refl _) _⟩
theorem zku (C:Cx) (D h j:Nat) (S:Sv) (q:PS) (z:Int) (d:Nat) (w:World) (A:OwnT w j 143 D C.ts.length h C.ts) (_:C.ts.length≤4000):
  Calls Tryz.prog 181 #[pv C D h S q z d] w fun e H=>e= .returned (.int .i64 (zp C q.pos))∧Below w.heap.size w H:=by
 unfold pv
 by_cases E:q.pos<C.ts.length
 ·obtain⟨_,_,_,I⟩:=A.cells E (d:=⟨0,sNone,0,C.fin⟩)
  have n:=(zaj A).1
  change _=some (Value.int .i64 (zp C q.pos)) at I
  go_enter Tryz.func181,Tryz.ntmps181
  go_wp2
  go_ret
  exact⟨rfl,(Below.refl _ _).alloc (Nat.le_refl _) _⟩
 ·have J:Hid (zp C q.pos=C.fin):=by show zp C q.pos=C.fin;rw[zp,zcZ (by omega)]
  go_enter Tryz.func181,Tryz.ntmps181
  go_wp2
  go_ret
  exact⟨zeD (by rw[J.out]),(Below.refl _ _).alloc (Nat.le_refl _) _⟩
def zbf (C:Cx) (i:Nat) (z:Int):Int:=if z<0 then zp C i else z
theorem zo {w:World} {j g n q:Nat} {e:TypeId} {z:List Tk} (h:OwnT w j e g n q z) (o:Obj):OwnT (w.alloc o) j e g n q z:=zbK h ((Below.refl _ _).alloc (Nat.le_refl _) _)
theorem zbL {w:World} {b i:Nat} {j:Array Value} {u:Value} {t:TypeId} (h:w.heap[b]? =some (.cells j t (0,0))):(w.setCell ⟨b,i,none⟩ u).heap[b]? =some (.cells (j.setIfInBounds i u) t (0,0)):=by
 simp only[World.setCell,Array.getElem?_modify]
 rw[if_pos trivial,h]
 rfl
theorem zt {w:World} {b c i:Nat} {u:Value} (h:b≠c):(w.setCell ⟨c,i,none⟩ u).heap[b]? =w.heap[b]?:=Below.heap_setCell w ⟨c,i,none⟩ u b h
structure Box (w:World) (b:Nat) (v0 v1 v2 v3 v4 v5 v6 v7 v8 v9 v10 v11:Value):Prop where
 c0:w.cell? ⟨b,0,none⟩=some v0
 c1:w.cell? ⟨b,1,none⟩=some v1
 c2:w.cell? ⟨b,2,none⟩=some v2
 c3:w.cell? ⟨b,3,none⟩=some v3
 c4:w.cell? ⟨b,4,none⟩=some v4
 c5:w.cell? ⟨b,5,none⟩=some v5
 c6:w.cell? ⟨b,6,none⟩=some v6
 c7:w.cell? ⟨b,7,none⟩=some v7
 c8:w.cell? ⟨b,8,none⟩=some v8
 c9:w.cell? ⟨b,9,none⟩=some v9
 c10:w.cell? ⟨b,10,none⟩=some v10
 c11:w.cell? ⟨b,11,none⟩=some v11
 fz: ∀i,w.frozen? ⟨b,i,none⟩=false
theorem zaf {w:World} {b:Nat} {t:TypeId} {v0 v1 v2 v3 v4 z q E D A j n:Value} (h:w.heap[b]? =some (.cells #[v0,v1,v2,v3,v4,z,q,E,D,A,j,n] t (0,0))):Box w b v0 v1 v2 v3 v4 z q E D A j n:=by
 constructor<;>simp[World.cell?,World.frozen?,h]
theorem zaI {w:World} {b:Nat} {v0 v1 v2 v3 v4 Y O V X U z K q N I D A J M E L H n j:Value} {t:TypeId} (h:w.heap[b]? =some (.cells #[v0,v1,v2,v3,v4,Y,O,V,X,U,z,K] t (0,0))):
  ((((((((((((w.setCell ⟨b,0,none⟩ q).setCell ⟨b,1,none⟩ N).setCell ⟨b,2,none⟩ I).setCell ⟨b,3,none⟩ D).setCell ⟨b,4,none⟩ A).setCell ⟨b,5,none⟩ J).setCell ⟨b,6,none⟩ M).setCell ⟨b,7,none⟩ E).setCell ⟨b,8,none⟩ L).setCell ⟨b,9,none⟩ H).setCell ⟨b,10,none⟩ n).setCell ⟨b,11,none⟩ j).heap[b]? =some (.cells #[q,N,I,D,A,J,M,E,L,H,n,j] t (0,0)):=
 by
 have e:=zbL (i:=11) (u:=j) (zbL (i:=10) (u:=n) (zbL (i:=9) (u:=H) (zbL (i:=8) (u:=L) (zbL (i:=7) (u:=E) (zbL (i:=6) (u:=M) (zbL (i:=5) (u:=J) (zbL (i:=4) (u:=A) (zbL (i:=3) (u:=D) (zbL (i:=2) (u:=I) (zbL (i:=1) (u:=N) (zbL (i:=0) (u:=q) h)))))))))))
 rw[e]
 simp
theorem zb2 {B:Nat} {a w:World} {b:Nat} (h:Below B a w) (j:B≤b) (z H L I A M E K D J n q:Value):
  Below B a ((((((((((((w.setCell ⟨b,0,none⟩ z).setCell ⟨b,1,none⟩ H).setCell ⟨b,2,none⟩ L).setCell ⟨b,3,none⟩ I).setCell ⟨b,4,none⟩ A).setCell ⟨b,5,none⟩ M).setCell ⟨b,6,none⟩ E).setCell ⟨b,7,none⟩ K).setCell ⟨b,8,none⟩ D).setCell ⟨b,9,none⟩ J).setCell ⟨b,10,none⟩ n).setCell ⟨b,11,none⟩ q):=
 (((((((((((h.setCell j _).setCell j _).setCell j _).setCell j _).setCell j _).setCell j _).setCell j _).setCell j _).setCell j _).setCell j _).setCell j _).setCell j _
theorem zaJ (w:World) (a b:Obj):Below w.heap.size w ((w.alloc a).alloc b):=((Below.refl _ _).alloc (Nat.le_refl _) _).alloc (by show _≤(w.heap.push _).size;simp) _
theorem new2 (w:World) (a b:Obj):((w.alloc a).alloc b).heap[w.heap.size+1]? =some b:=by
 have h:(w.alloc a).heap.size=w.heap.size+1:=by show (w.heap.push _).size=_;simp
 rw[←h]
 exact heap_alloc_new _ b
theorem zck {w h:World} {a b:Obj} (j:Below ((w.alloc a).alloc b).heap.size ((w.alloc a).alloc b) h):h.heap[w.heap.size]? =some a∧h.heap[w.heap.size+1]? =some b:=by
 have e:((w.alloc a).alloc b).heap.size=w.heap.size+2:=by show ((w.heap.push _).push _).size=_;simp
 have n:(w.alloc a).heap.size=w.heap.size+1:=by show (w.heap.push _).size=_;simp
 refine⟨?_,?_⟩
 ·rw[j.block _ (by omega),Below.heap_alloc _ _ _ (by omega)]
  exact heap_alloc_new w a
 ·rw[j.block _ (by omega),←n]
  exact heap_alloc_new _ b
theorem zaO {w h:World} {a b:Obj} (n:Below ((w.alloc a).alloc b).heap.size ((w.alloc a).alloc b) h):Below w.heap.size w h:=by
 have q:(w.alloc a).heap.size=w.heap.size+1:=by show (w.heap.push _).size=_;simp
 have j:Below w.heap.size w ((w.alloc a).alloc b):=((Below.refl _ _).alloc (Nat.le_refl _) _).alloc (by omega) _
 exact j.trans (n.mono j.size)
theorem zcK (C:Cx) (n h j:Nat) (S:Sv) (q:PS) (z:Int) (d:Nat) (w:World) (L:OwnT w j 143 n C.ts.length h C.ts) (V:C.ts.length≤4000):
  Calls Tryz.prog 149 #[pv C n h S q z d] w fun e J=>e= .returned (pv C n h S q (zbf C q.pos z) d)∧Below w.heap.size w J:=by
 by_cases H:z<0
 ·have D:Hid (zbf C q.pos z=zp C q.pos):=if_pos H
  unfold pv
  go_enter Tryz.func149,Tryz.ntmps149
  go_wp2_with fail
  refine (zku C n h j S q z d _ (zo (zo L _) _) V).mono ?_
  rintro e Y ⟨rfl,E⟩
  obtain⟨I,A⟩:=zck E
  obtain⟨a0,a1,a2,a3,a4,a5,a6,a7,X,a9,N,O,af⟩:=zaf I
  obtain⟨b0,Z,b2,b3,b4,b5,b6,b7,b8,b9,M,K,bf⟩:=zaf A
  have U:Hid (_=_):=A
  clear I A
  go_wp2
  refine bodyPost_ret (results_cell_row rfl _ _ (w.heap.size+1) 122 _ (0,0) _ rfl (zaI ((zt (by omega)).trans U.out)) Tryz.underlying122 rfl (by kernel_rfl)) rfl ?_
  exact⟨by rw[D.out],zb2 ((zaO E).setCell (Nat.le_refl _) _) (Nat.le_succ _) _ _ _ _ _ _ _ _ _ _ _ _⟩
 ·have D:Hid (zbf C q.pos z=z):=if_neg H
  unfold pv
  go_enter Tryz.func149,Tryz.ntmps149
  go_wp2
  refine bodyPost_ret (results_cell_row rfl _ _ (w.heap.size+1) 122 _ (0,0) _ rfl (new2 w _ _) Tryz.underlying122 rfl (by kernel_rfl)) rfl ?_
  exact⟨by rw[D.out],zaJ w _ _⟩
end Go.Proofs.YtjdddblpfbmpaaaGreat