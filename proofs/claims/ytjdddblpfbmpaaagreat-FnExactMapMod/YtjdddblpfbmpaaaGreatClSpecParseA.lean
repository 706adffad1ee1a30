/-
 What spec's smallest readers of tokens answer: the walks.
-/
import Derived.Test.YtjdddblpfbmpaaaGreatClParseMemToModMem
import Derived.Test.YtjdddblpfbmpaaaGreatClSpecLexAllToTokCells
namespace Go.Proofs.YtjdddblpfbmpaaaGreat
set_option maxRecDepth 100000
set_option maxHeartbeats 1600000
open Go.RowKit Go.PlainAid
def pv (C:Cx) (gt cap:Nat) (S:Sv) (q:PS) (z:Int) (d:Nat):Value:=
 .agg #[.slice (some ⟨gt,0,none⟩) C.ts.length cap,.int .i64 q.pos,.int .i64 C.fin,.bool C.scr,.slice S.rq.a q.rq.length S.rq.cap,.slice S.im.a q.im.length S.im.cap,.slice S.ep.a q.ep.length S.ep.cap,
  .slice S.st.a q.st.length S.st.cap,.slice S.ex.a q.ex.length S.ex.cap,.slice S.la.a q.la.length S.la.cap,.int .i64 z,.int .i64 d]
theorem ziJ {C:Cx} {i:Nat} {k:Int} {s:ByteArray} (h:((zf C i).kind==k)=false):isT C i k s=false:=by rw[isT,h];rfl
theorem zfb {C:Cx} {i:Nat} {k:Int} {s:ByteArray} (h: ¬i<C.ts.length) (j:k≠0):isT C i k s=false:=by
 rw[Bool.eq_false_iff]
 exact fun g=>h (za9 g j)
theorem zl (C:Cx) (U A I:Nat) (S:Sv) (q:PS) (z:Int) (d:Nat) (k:Int) (s:ByteArray) (w:World) (O:OwnT w I 143 U C.ts.length A C.ts) (_:C.ts.length≤4000) (Z:k≠0):
  Calls Tryz.prog 105 #[pv C U A S q z d,.int .i64 k,.string s] w fun e w'=>e= .returned (.bool (decide (z<0)&&isT C q.pos k s))∧Below w.heap.size w w':=by
 unfold pv
 by_cases Y:z<0
 ·have H:decide (z<0)=true:=decide_eq_true Y
  by_cases L:q.pos<C.ts.length
  ·obtain⟨M,X,_,_⟩:=O.cells L (d:=⟨0,sNone,0,C.fin⟩)
   have N:=(zau O).1
   change _=some (Value.int .i64 (zf C q.pos).kind) at M
   change _=some (Value.string (zf C q.pos).text) at X
   generalize h:zf C q.pos=t at M X
   cases J:(t.kind==k) with
   |true=>
    cases V:(t.text.toList==s.toList) with
    |true=>
     have j:Hid (isT C q.pos k s=true):=by show isT C q.pos k s=true;simp only[isT,h,J,V,Bool.and_self]
     clear h
     go_enter Tryz.func105,Tryz.ntmps105
     go_wp2
     go_ret
     exact⟨zk (by rw[H,j.out];rfl),(Below.refl _ _).alloc (Nat.le_refl _) _⟩
    |false=>
     have j:Hid (isT C q.pos k s=false):=by show isT C q.pos k s=false;simp only[isT,h,J,V,Bool.and_false]
     clear h
     go_enter Tryz.func105,Tryz.ntmps105
     go_wp2
     go_ret
     exact⟨zk (by rw[H,j.out];rfl),(Below.refl _ _).alloc (Nat.le_refl _) _⟩
   |false=>
    have j:Hid (isT C q.pos k s=false):=ziJ (by rw[h];exact J)
    clear h
    go_enter Tryz.func105,Tryz.ntmps105
    go_wp2
    go_ret
    exact⟨zk (by rw[H,j.out];rfl),(Below.refl _ _).alloc (Nat.le_refl _) _⟩
  ·have j:Hid (isT C q.pos k s=false):=zfb L Z
   go_enter Tryz.func105,Tryz.ntmps105
   go_wp2
   go_ret
   exact⟨zk (by rw[H,j.out];rfl),(Below.refl _ _).alloc (Nat.le_refl _) _⟩
 ·have H:decide (z<0)=false:=decide_eq_false Y
  go_enter Tryz.func105,Tryz.ntmps105
  go_wp2
  go_ret
  exact⟨zk rfl,(Below.refl _ _).alloc (Nat.le_refl _) _⟩
theorem zm7 (C:Cx) (I h j:Nat) (S:Sv) (q:PS) (z:Int) (d:Nat) (w:World) (H:OwnT w j 143 I C.ts.length h C.ts) (_:C.ts.length≤4000):
  Calls Tryz.prog 181 #[pv C I h S q z d] w fun e w'=>e= .returned (.int .i64 (zu C q.pos))∧Below w.heap.size w w':=by
 unfold pv
 by_cases J:q.pos<C.ts.length
 ·obtain⟨_,_,_,L⟩:=H.cells J (d:=⟨0,sNone,0,C.fin⟩)
  have A:=(zau H).1
  change _=some (Value.int .i64 (zu C q.pos)) at L
  go_enter Tryz.func181,Tryz.ntmps181
  go_wp2
  go_ret
  exact⟨rfl,(Below.refl _ _).alloc (Nat.le_refl _) _⟩
 ·have M:Hid (zu C q.pos=C.fin):=by show zu C q.pos=C.fin;rw[zu,zdI (by omega)]
  go_enter Tryz.func181,Tryz.ntmps181
  go_wp2
  go_ret
  exact⟨zfA (by rw[M.out]),(Below.refl _ _).alloc (Nat.le_refl _) _⟩
def zb5 (C:Cx) (i:Nat) (z:Int):Int:=if z<0 then zu C i else z
theorem zt {w:World} {j g n z:Nat} {e:TypeId} {A:List Tk} (h:OwnT w j e g n z A) (o:Obj):OwnT (w.alloc o) j e g n z A:=zcu h ((Below.refl _ _).alloc (Nat.le_refl _) _)
theorem zcw {w:World} {b i:Nat} {j:Array Value} {u:Value} {t:TypeId} (h:w.heap[b]? =some (.cells j t (0,0))):(w.setCell ⟨b,i,none⟩ u).heap[b]? =some (.cells (j.setIfInBounds i u) t (0,0)):=by
 simp only[World.setCell,Array.getElem?_modify]
 rw[if_pos trivial,h]
 rfl
theorem zx {w:World} {b c i:Nat} {u:Value} (h:b≠c):(w.setCell ⟨c,i,none⟩ u).heap[b]? =w.heap[b]?:=Below.heap_setCell w ⟨c,i,none⟩ u b h
structure Box (w:World) (b:Nat) (v0 v1 v2 v3 v4 v5 v6 v7 v8 v9 v10 v11:Value):Prop where
 c0:w.cell? ⟨b,0,none⟩=some v0
 c1:w.cell? ⟨b,1,none⟩=some v1
 c2:w.cell? ⟨b,2,none⟩=some v2
 c3:w.cell? ⟨b,3,none⟩=some v3
 c4:w.cell? ⟨b,4,none⟩=some v4
 c5:w.cell? ⟨b,5,none⟩=some v5
 c6:w.cell? ⟨b,6,none⟩=some v6
 c7:w.cell? ⟨b,7,none⟩=some v7
 c8:w.cell? ⟨b,8,none⟩=some v8
 c9:w.cell? ⟨b,9,none⟩=some v9
 c10:w.cell? ⟨b,10,none⟩=some v10
 c11:w.cell? ⟨b,11,none⟩=some v11
 fz: ∀i,w.frozen? ⟨b,i,none⟩=false
theorem zaq {w:World} {b:Nat} {t:TypeId} {v0 v1 v2 v3 v4 H A L J I j z:Value} (h:w.heap[b]? =some (.cells #[v0,v1,v2,v3,v4,H,A,L,J,I,j,z] t (0,0))):Box w b v0 v1 v2 v3 v4 H A L J I j z:=by
 constructor<;>simp[World.cell?,World.frozen?,h]
theorem zaZ {w:World} {b:Nat} {v0 v1 v2 v3 v4 V U O Y X A H x0 x1 x2 x3 x4 N J M I L j z:Value} {t:TypeId} (h:w.heap[b]? =some (.cells #[v0,v1,v2,v3,v4,V,U,O,Y,X,A,H] t (0,0))):
  ((((((((((((w.setCell ⟨b,0,none⟩ x0).setCell ⟨b,1,none⟩ x1).setCell ⟨b,2,none⟩ x2).setCell ⟨b,3,none⟩ x3).setCell ⟨b,4,none⟩ x4).setCell ⟨b,5,none⟩ N).setCell ⟨b,6,none⟩ J).setCell ⟨b,7,none⟩ M).setCell ⟨b,8,none⟩ I).setCell ⟨b,9,none⟩ L).setCell ⟨b,10,none⟩ j).setCell ⟨b,11,none⟩ z).heap[b]? =some (.cells #[x0,x1,x2,x3,x4,N,J,M,I,L,j,z] t (0,0)):=
 by
 have e:=zcw (i:=11) (u:=z) (zcw (i:=10) (u:=j) (zcw (i:=9) (u:=L) (zcw (i:=8) (u:=I) (zcw (i:=7) (u:=M) (zcw (i:=6) (u:=J) (zcw (i:=5) (u:=N) (zcw (i:=4) (u:=x4) (zcw (i:=3) (u:=x3) (zcw (i:=2) (u:=x2) (zcw (i:=1) (u:=x1) (zcw (i:=0) (u:=x0) h)))))))))))
 rw[e]
 simp
theorem zbW {B:Nat} {a w:World} {b:Nat} (h:Below B a w) (j:B≤b) (x0 x1 x2 x3 x4 M I L H J z A:Value):
  Below B a ((((((((((((w.setCell ⟨b,0,none⟩ x0).setCell ⟨b,1,none⟩ x1).setCell ⟨b,2,none⟩ x2).setCell ⟨b,3,none⟩ x3).setCell ⟨b,4,none⟩ x4).setCell ⟨b,5,none⟩ M).setCell ⟨b,6,none⟩ I).setCell ⟨b,7,none⟩ L).setCell ⟨b,8,none⟩ H).setCell ⟨b,9,none⟩ J).setCell ⟨b,10,none⟩ z).setCell ⟨b,11,none⟩ A):=
 (((((((((((h.setCell j _).setCell j _).setCell j _).setCell j _).setCell j _).setCell j _).setCell j _).setCell j _).setCell j _).setCell j _).setCell j _).setCell j _
theorem zba (w:World) (a b:Obj):Below w.heap.size w ((w.alloc a).alloc b):=((Below.refl _ _).alloc (Nat.le_refl _) _).alloc (by show _≤(w.heap.push _).size;simp) _
theorem new2 (w:World) (a b:Obj):((w.alloc a).alloc b).heap[w.heap.size+1]? =some b:=by
 have h:(w.alloc a).heap.size=w.heap.size+1:=by show (w.heap.push _).size=_;simp
 rw[←h]
 exact heap_alloc_new _ b
theorem zcL {w h:World} {a b:Obj} (j:Below ((w.alloc a).alloc b).heap.size ((w.alloc a).alloc b) h):h.heap[w.heap.size]? =some a∧h.heap[w.heap.size+1]? =some b:=by
 have e:((w.alloc a).alloc b).heap.size=w.heap.size+2:=by show ((w.heap.push _).push _).size=_;simp
 have z:(w.alloc a).heap.size=w.heap.size+1:=by show (w.heap.push _).size=_;simp
 refine⟨?_,?_⟩
 ·rw[j.block _ (by omega),Below.heap_alloc _ _ _ (by omega)]
  exact heap_alloc_new w a
 ·rw[j.block _ (by omega),←z]
  exact heap_alloc_new _ b
theorem zbh {w h:World} {a b:Obj} (z:Below ((w.alloc a).alloc b).heap.size ((w.alloc a).alloc b) h):Below w.heap.size w h:=by
 have A:(w.alloc a).heap.size=w.heap.size+1:=by show (w.heap.push _).size=_;simp
 have j:Below w.heap.size w ((w.alloc a).alloc b):=((Below.refl _ _).alloc (Nat.le_refl _) _).alloc (by omega) _
 exact j.trans (z.mono j.size)
theorem zdy (C:Cx) (A h j:Nat) (S:Sv) (q:PS) (z:Int) (d:Nat) (w:World) (O:OwnT w j 143 A C.ts.length h C.ts) (Z:C.ts.length≤4000):
  Calls Tryz.prog 149 #[pv C A h S q z d] w fun e w'=>e= .returned (pv C A h S q (zb5 C q.pos z) d)∧Below w.heap.size w w':=by
 by_cases L:z<0
 ·have I:Hid (zb5 C q.pos z=zu C q.pos):=if_pos L
  unfold pv
  go_enter Tryz.func149,Tryz.ntmps149
  go_wp2_with fail
  refine (zm7 C A h j S q z d _ (zt (zt O _) _) Z).mono ?_
  rintro e w1 ⟨rfl,J⟩
  obtain⟨M,H⟩:=zcL J
  obtain⟨a0,a1,a2,a3,a4,a5,a6,a7,a8,a9,V,X,af⟩:=zaq M
  obtain⟨b0,b1,b2,b3,b4,b5,b6,b7,b8,b9,U,N,bf⟩:=zaq H
  have Y:Hid (_=_):=H
  clear M H
  go_wp2
  refine bodyPost_ret (results_cell_row rfl _ _ (w.heap.size+1) 122 _ (0,0) _ rfl (zaZ ((zx (by omega)).trans Y.out)) Tryz.underlying122 rfl (by kernel_rfl)) rfl ?_
  exact⟨by rw[I.out],zbW ((zbh J).setCell (Nat.le_refl _) _) (Nat.le_succ _) _ _ _ _ _ _ _ _ _ _ _ _⟩
 ·have I:Hid (zb5 C q.pos z=z):=if_neg L
  unfold pv
  go_enter Tryz.func149,Tryz.ntmps149
  go_wp2
  refine bodyPost_ret (results_cell_row rfl _ _ (w.heap.size+1) 122 _ (0,0) _ rfl (new2 w _ _) Tryz.underlying122 rfl (by kernel_rfl)) rfl ?_
  exact⟨by rw[I.out],zba w _ _⟩
end Go.Proofs.YtjdddblpfbmpaaaGreat