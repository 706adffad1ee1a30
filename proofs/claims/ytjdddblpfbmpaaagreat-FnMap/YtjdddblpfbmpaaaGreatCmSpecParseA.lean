/-
 What spec's smallest readers of tokens answer: the walks.
-/
import Derived.Test.YtjdddblpfbmpaaaGreatCmParseMemToModMem
import Derived.Test.YtjdddblpfbmpaaaGreatCmSpecLexAllToTokCells
namespace Go.Proofs.YtjdddblpfbmpaaaGreat
set_option maxRecDepth 100000
set_option maxHeartbeats 1600000
open Go.RowKit Go.PlainAid
def pv (C:Cx) (gt cap:Nat) (S:Sv) (q:PS) (z:Int) (d:Nat):Value:=
 .agg #[.slice (some ⟨gt,0,none⟩) C.ts.length cap,.int .i64 q.pos,.int .i64 C.fin,.bool C.scr,.slice S.rq.a q.rq.length S.rq.cap,.slice S.im.a q.im.length S.im.cap,.slice S.ep.a q.ep.length S.ep.cap,
  .slice S.st.a q.st.length S.st.cap,.slice S.ex.a q.ex.length S.ex.cap,.slice S.la.a q.la.length S.la.cap,.int .i64 z,.int .i64 d]
theorem zjl {C:Cx} {i:Nat} {k:Int} {s:ByteArray} (h:((ze C i).kind==k)=false):isT C i k s=false:=by rw[isT,h];rfl
theorem zfl {C:Cx} {i:Nat} {k:Int} {s:ByteArray} (h: ¬i<C.ts.length) (j:k≠0):isT C i k s=false:=by
 rw[Bool.eq_false_iff]
 exact fun g=>h (za9 g j)
theorem zj (C:Cx) (V H J:Nat) (S:Sv) (q:PS) (z:Int) (d:Nat) (k:Int) (s:ByteArray) (w:World) (U:OwnT w J 143 V C.ts.length H C.ts) (_:C.ts.length≤4000) (hk:k≠0):
  Calls Tryz.prog 105 #[pv C V H S q z d,.int .i64 k,.string s] w fun e w'=>e= .returned (.bool (decide (z<0)&&isT C q.pos k s))∧Below w.heap.size w w':=by
 unfold pv
 by_cases Z:z<0
 ·have I:decide (z<0)=true:=decide_eq_true Z
  by_cases M:q.pos<C.ts.length
  ·obtain⟨N,Y,_,_⟩:=U.cells M (d:=⟨0,sNone,0,C.fin⟩)
   have O:=(zav U).1
   change _=some (Value.int .i64 (ze C q.pos).kind) at N
   change _=some (Value.string (ze C q.pos).text) at Y
   generalize j:ze C q.pos=t at N Y
   cases L:(t.kind==k) with
   |true=>
    cases X:(t.text.toList==s.toList) with
    |true=>
     have A:Hid (isT C q.pos k s=true):=by show isT C q.pos k s=true;simp only[isT,j,L,X,Bool.and_self]
     clear j
     go_enter Tryz.func105,Tryz.ntmps105
     go_wp2
     go_ret
     exact⟨zh (by rw[I,A.out];rfl),(Below.refl _ _).alloc (Nat.le_refl _) _⟩
    |false=>
     have A:Hid (isT C q.pos k s=false):=by show isT C q.pos k s=false;simp only[isT,j,L,X,Bool.and_false]
     clear j
     go_enter Tryz.func105,Tryz.ntmps105
     go_wp2
     go_ret
     exact⟨zh (by rw[I,A.out];rfl),(Below.refl _ _).alloc (Nat.le_refl _) _⟩
   |false=>
    have A:Hid (isT C q.pos k s=false):=zjl (by rw[j];exact L)
    clear j
    go_enter Tryz.func105,Tryz.ntmps105
    go_wp2
    go_ret
    exact⟨zh (by rw[I,A.out];rfl),(Below.refl _ _).alloc (Nat.le_refl _) _⟩
  ·have A:Hid (isT C q.pos k s=false):=zfl M hk
   go_enter Tryz.func105,Tryz.ntmps105
   go_wp2
   go_ret
   exact⟨zh (by rw[I,A.out];rfl),(Below.refl _ _).alloc (Nat.le_refl _) _⟩
 ·have I:decide (z<0)=false:=decide_eq_false Z
  go_enter Tryz.func105,Tryz.ntmps105
  go_wp2
  go_ret
  exact⟨zh rfl,(Below.refl _ _).alloc (Nat.le_refl _) _⟩
theorem zne (C:Cx) (J j A:Nat) (S:Sv) (q:PS) (z:Int) (d:Nat) (w:World) (I:OwnT w A 143 J C.ts.length j C.ts) (_:C.ts.length≤4000):
  Calls Tryz.prog 181 #[pv C J j S q z d] w fun e w'=>e= .returned (.int .i64 (zu C q.pos))∧Below w.heap.size w w':=by
 unfold pv
 by_cases L:q.pos<C.ts.length
 ·obtain⟨_,_,_,M⟩:=I.cells L (d:=⟨0,sNone,0,C.fin⟩)
  have H:=(zav I).1
  change _=some (Value.int .i64 (zu C q.pos)) at M
  go_enter Tryz.func181,Tryz.ntmps181
  go_wp2
  go_ret
  exact⟨rfl,(Below.refl _ _).alloc (Nat.le_refl _) _⟩
 ·have N:Hid (zu C q.pos=C.fin):=by show zu C q.pos=C.fin;rw[zu,zdF (by omega)]
  go_enter Tryz.func181,Tryz.ntmps181
  go_wp2
  go_ret
  exact⟨zeu (by rw[N.out]),(Below.refl _ _).alloc (Nat.le_refl _) _⟩
def zb5 (C:Cx) (i:Nat) (z:Int):Int:=if z<0 then zu C i else z
theorem zt {w:World} {j g n q:Nat} {e:TypeId} {z:List Tk} (h:OwnT w j e g n q z) (o:Obj):OwnT (w.alloc o) j e g n q z:=zcv h ((Below.refl _ _).alloc (Nat.le_refl _) _)
theorem zcx {w:World} {b i:Nat} {j:Array Value} {u:Value} {t:TypeId} (h:w.heap[b]? =some (.cells j t (0,0))):(w.setCell ⟨b,i,none⟩ u).heap[b]? =some (.cells (j.setIfInBounds i u) t (0,0)):=by
 simp only[World.setCell,Array.getElem?_modify]
 rw[if_pos trivial,h]
 rfl
theorem zn {w:World} {b c i:Nat} {u:Value} (h:b≠c):(w.setCell ⟨c,i,none⟩ u).heap[b]? =w.heap[b]?:=Below.heap_setCell w ⟨c,i,none⟩ u b h
structure Box (w:World) (b:Nat) (v0 v1 v2 v3 v4 v5 v6 v7 v8 v9 v10 v11:Value):Prop where
 c0:w.cell? ⟨b,0,none⟩=some v0
 c1:w.cell? ⟨b,1,none⟩=some v1
 c2:w.cell? ⟨b,2,none⟩=some v2
 c3:w.cell? ⟨b,3,none⟩=some v3
 c4:w.cell? ⟨b,4,none⟩=some v4
 c5:w.cell? ⟨b,5,none⟩=some v5
 c6:w.cell? ⟨b,6,none⟩=some v6
 c7:w.cell? ⟨b,7,none⟩=some v7
 c8:w.cell? ⟨b,8,none⟩=some v8
 c9:w.cell? ⟨b,9,none⟩=some v9
 c10:w.cell? ⟨b,10,none⟩=some v10
 c11:w.cell? ⟨b,11,none⟩=some v11
 fz: ∀i,w.frozen? ⟨b,i,none⟩=false
theorem zaq {w:World} {b:Nat} {t:TypeId} {v0 v1 v2 v3 v4 A z J I H j q:Value} (h:w.heap[b]? =some (.cells #[v0,v1,v2,v3,v4,A,z,J,I,H,j,q] t (0,0))):Box w b v0 v1 v2 v3 v4 A z J I H j q:=by
 constructor<;>simp[World.cell?,World.frozen?,h]
theorem zbb {w:World} {b:Nat} {v0 v1 v2 v3 v4 U O N X V z A x0 x1 x2 x3 x4 M I L H J j q:Value} {t:TypeId} (h:w.heap[b]? =some (.cells #[v0,v1,v2,v3,v4,U,O,N,X,V,z,A] t (0,0))):
  ((((((((((((w.setCell ⟨b,0,none⟩ x0).setCell ⟨b,1,none⟩ x1).setCell ⟨b,2,none⟩ x2).setCell ⟨b,3,none⟩ x3).setCell ⟨b,4,none⟩ x4).setCell ⟨b,5,none⟩ M).setCell ⟨b,6,none⟩ I).setCell ⟨b,7,none⟩ L).setCell ⟨b,8,none⟩ H).setCell ⟨b,9,none⟩ J).setCell ⟨b,10,none⟩ j).setCell ⟨b,11,none⟩ q).heap[b]? =some (.cells #[x0,x1,x2,x3,x4,M,I,L,H,J,j,q] t (0,0)):=
 by
 have e:=zcx (i:=11) (u:=q) (zcx (i:=10) (u:=j) (zcx (i:=9) (u:=J) (zcx (i:=8) (u:=H) (zcx (i:=7) (u:=L) (zcx (i:=6) (u:=I) (zcx (i:=5) (u:=M) (zcx (i:=4) (u:=x4) (zcx (i:=3) (u:=x3) (zcx (i:=2) (u:=x2) (zcx (i:=1) (u:=x1) (zcx (i:=0) (u:=x0) h)))))))))))
 rw[e]
 simp
theorem zbU {B:Nat} {a w:World} {b:Nat} (h:Below B a w) (j:B≤b) (x0 x1 x2 x3 x4 L H J A I q z:Value):
  Below B a ((((((((((((w.setCell ⟨b,0,none⟩ x0).setCell ⟨b,1,none⟩ x1).setCell ⟨b,2,none⟩ x2).setCell ⟨b,3,none⟩ x3).setCell ⟨b,4,none⟩ x4).setCell ⟨b,5,none⟩ L).setCell ⟨b,6,none⟩ H).setCell ⟨b,7,none⟩ J).setCell ⟨b,8,none⟩ A).setCell ⟨b,9,none⟩ I).setCell ⟨b,10,none⟩ q).setCell ⟨b,11,none⟩ z):=
 (((((((((((h.setCell j _).setCell j _).setCell j _).setCell j _).setCell j _).setCell j _).setCell j _).setCell j _).setCell j _).setCell j _).setCell j _).setCell j _
theorem zbc (w:World) (a b:Obj):Below w.heap.size w ((w.alloc a).alloc b):=((Below.refl _ _).alloc (Nat.le_refl _) _).alloc (by show _≤(w.heap.push _).size;simp) _
theorem new2 (w:World) (a b:Obj):((w.alloc a).alloc b).heap[w.heap.size+1]? =some b:=by
 have j:(w.alloc a).heap.size=w.heap.size+1:=by show (w.heap.push _).size=_;simp
 rw[←j]
 exact heap_alloc_new _ b
theorem zcO {w j:World} {a b:Obj} (q:Below ((w.alloc a).alloc b).heap.size ((w.alloc a).alloc b) j):j.heap[w.heap.size]? =some a∧j.heap[w.heap.size+1]? =some b:=by
 have e:((w.alloc a).alloc b).heap.size=w.heap.size+2:=by show ((w.heap.push _).push _).size=_;simp
 have z:(w.alloc a).heap.size=w.heap.size+1:=by show (w.heap.push _).size=_;simp
 refine⟨?_,?_⟩
 ·rw[q.block _ (by omega),Below.heap_alloc _ _ _ (by omega)]
  exact heap_alloc_new w a
 ·rw[q.block _ (by omega),←z]
  exact heap_alloc_new _ b
theorem zbi {w j:World} {a b:Obj} (z:Below ((w.alloc a).alloc b).heap.size ((w.alloc a).alloc b) j):Below w.heap.size w j:=by
 have A:(w.alloc a).heap.size=w.heap.size+1:=by show (w.heap.push _).size=_;simp
 have q:Below w.heap.size w ((w.alloc a).alloc b):=((Below.refl _ _).alloc (Nat.le_refl _) _).alloc (by omega) _
 exact q.trans (z.mono q.size)
theorem zd1 (C:Cx) (H j A:Nat) (S:Sv) (q:PS) (z:Int) (d:Nat) (w:World) (U:OwnT w A 143 H C.ts.length j C.ts) (hn:C.ts.length≤4000):
  Calls Tryz.prog 149 #[pv C H j S q z d] w fun e w'=>e= .returned (pv C H j S q (zb5 C q.pos z) d)∧Below w.heap.size w w':=by
 by_cases M:z<0
 ·have J:Hid (zb5 C q.pos z=zu C q.pos):=if_pos M
  unfold pv
  go_enter Tryz.func149,Tryz.ntmps149
  go_wp2_with fail
  refine (zne C H j A S q z d _ (zt (zt U _) _) hn).mono ?_
  rintro e w1 ⟨rfl,L⟩
  obtain⟨N,I⟩:=zcO L
  obtain⟨a0,a1,a2,a3,a4,a5,a6,a7,a8,a9,X,Y,af⟩:=zaq N
  obtain⟨b0,b1,b2,b3,b4,b5,b6,b7,b8,b9,V,O,bf⟩:=zaq I
  have Z:Hid (_=_):=I
  clear N I
  go_wp2
  refine bodyPost_ret (results_cell_row rfl _ _ (w.heap.size+1) 122 _ (0,0) _ rfl (zbb ((zn (by omega)).trans Z.out)) Tryz.underlying122 rfl (by kernel_rfl)) rfl ?_
  exact⟨by rw[J.out],zbU ((zbi L).setCell (Nat.le_refl _) _) (Nat.le_succ _) _ _ _ _ _ _ _ _ _ _ _ _⟩
 ·have J:Hid (zb5 C q.pos z=z):=if_neg M
  unfold pv
  go_enter Tryz.func149,Tryz.ntmps149
  go_wp2
  refine bodyPost_ret (results_cell_row rfl _ _ (w.heap.size+1) 122 _ (0,0) _ rfl (new2 w _ _) Tryz.underlying122 rfl (by kernel_rfl)) rfl ?_
  exact⟨by rw[J.out],zbc w _ _⟩
end Go.Proofs.YtjdddblpfbmpaaaGreat