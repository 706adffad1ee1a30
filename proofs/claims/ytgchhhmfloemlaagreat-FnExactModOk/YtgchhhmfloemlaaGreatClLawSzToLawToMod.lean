/-
  What the laws' size counters answer: the walks.
  What the laws' copiers answer: the walks.
  What the laws' toMod answers: the walk.
-/
import Derived.Test.YtgchhhmfloemlaaGreatProg
import Derived.WalkLawsBesides
import Derived.Deep.Cut
import Derived.Test.YtgchhhmfloemlaaGreatClSrcRow
import Derived.Laws.Rows
namespace Go.Proofs.YtgchhhmfloemlaaGreat
open Go.RowKit Go.PlainAid Go.Sort

abbrev MaxI : Nat:=9223372036854775807
def zfn (x : ByteArray) : Nat:=x.size
def zmb (x : ByteArray) : Prop:=x.size ≤ 9223372036854775807
set_option maxRecDepth 100000 in
set_option maxHeartbeats 1600000 in
theorem zbci (a : Option Addr) (cap : Nat) (l : List ByteArray) (left : Int) (w : World) (hr : RowAt w a (fun x => [Value.string x]) 1 l) (hl : l.length ≤ 9223372036854775807) (hb : ∀ x ∈ l,zmb x) (h0 : 0 ≤ left) (h1 : left ≤ 1048576) :
  Calls Tryz.prog 22 #[.slice a l.length cap,.int .i64 left] w fun e w' => zjo left (l.length + zx zfn l) e ∧ Below w.heap.size w w':=by
 have HR:=hidI hr
 have HG:=hidI hb
 clear hr hb
 by_cases hll : (l.length : Int) ≤ left
 case neg =>
  go_enter Tryz.func22,Tryz.ntmps22
  go_wp2
  go_ret
  exact ⟨⟨-1,rfl,by omega,by omega,fun h => by omega⟩,Below.refl _ _⟩
 go_enter Tryz.func22,Tryz.ntmps22
 go_wp2
 go_loopg [1,5] l.length (fun k s1 s5 wr => ∃ (j : Nat) (z : Int),s5 = .int .i64 j ∧ s1 = .int .i64 z ∧ j + k = l.length ∧ 0 ≤ z ∧ z ≤ left ∧ z + ((l.length + zx zfn (l.take j) : Nat) : Int) = left ∧ Below w.heap.size w wr)
 case atStart => exact ⟨0,_,rfl,rfl,by omega,by omega,by omega,by simp [zx],Below.refl _ _⟩
 case round =>
  obtain ⟨j,z,rfl,rfl,hj,hz0,hz1,hz2,hb⟩:=hrel
  have HZ:=hidI hz2
  have HB:=hidI hb
  clear hz2 hb
  by_cases hlt : j < l.length
  ·have hlti : (j : Int) < (l.length : Int):=by omega
   obtain ⟨x,hx⟩ : ∃ x,l[j]? = some x:=⟨_,List.getElem?_eq_getElem hlt⟩
   obtain ⟨b,off,rfl,hc⟩:=(HR.out.later HB.out).get hx
   have hbig:=HG.out x (List.mem_of_getElem? hx)
   have HC:=hidI (zhe zfn hx)
   have c0:=hc 0 _ rfl
   simp only [Nat.add_zero,Nat.mul_one] at c0
   clear hc hx
   obtain ⟨j1,hj1⟩ : ∃ j1,j1 = j + 1:=⟨_,rfl⟩
   have ej : (j : Int) + 1 = (j1 : Int):=by omega
   have HJ:=hidI hj1
   clear hj1
   unfold zmb at hbig
   by_cases hz5 : 0 ≤ z - (x.size : Int)
   ·go_wp2
    go_roundg (gk - 1)
    case rel => exact ⟨j1,_,rfl,rfl,by have:=HJ.out; omega,hz5,by omega,by have:=HZ.out; have : zfn x = x.size:=rfl; rw [HJ.out,HC.out]; omega,HB.out⟩
    case measure => omega
   ·go_wp2
    go_ret
    exact ⟨⟨-1,rfl,by omega,by omega,fun h => by omega⟩,HB.out⟩
  ·have hlti : ¬ (j : Int) < (l.length : Int):=by omega
   obtain rfl : j = l.length:=by omega
   go_wp2
   go_ret
   exact ⟨⟨z,rfl,by omega,hz1,fun _ => by have:=HZ.out; rw [List.take_length] at this; exact this⟩,HB.out⟩
def zft (x : Im) : Nat:=x.spec.size + x.first.size + x.loc.size
def znc (x : Im) : Prop:=x.spec.size ≤ 9223372036854775807 ∧ x.first.size ≤ 9223372036854775807 ∧ x.loc.size ≤ 9223372036854775807
set_option maxHeartbeats 800000 in
theorem zbie (x : Im) (left : Int) (w : World) (hb : znc x) (h0 : 0 ≤ left) (h1 : left ≤ 1048576) :
  Calls Tryz.prog 61 #[.agg #[.string x.spec,.string x.first,.string x.loc],.int .i64 left] w fun e w' => zjo left (zft x) e ∧ Below w.heap.size w w':=by
 unfold znc at hb
 obtain ⟨b0,b1,b2⟩:=hb
 go_enter Tryz.func61,Tryz.ntmps61
 go_wp2
 ·go_ret
  exact ⟨⟨-1,rfl,by omega,by omega,fun h => by omega⟩,(Below.refl _ _).alloc (Nat.le_refl _) _⟩
 ·go_ret
  exact ⟨⟨-1,rfl,by omega,by omega,fun h => by omega⟩,(Below.refl _ _).alloc (Nat.le_refl _) _⟩
 ·go_ret
  exact ⟨⟨-1,rfl,by omega,by omega,fun h => by omega⟩,(Below.refl _ _).alloc (Nat.le_refl _) _⟩
 ·go_ret
  exact ⟨⟨_,rfl,by omega,by omega,fun _ => by unfold zft; omega⟩,(Below.refl _ _).alloc (Nat.le_refl _) _⟩
set_option maxRecDepth 100000 in
set_option maxHeartbeats 1600000 in
theorem zbfh (a : Option Addr) (cap : Nat) (l : List Im) (left : Int) (w : World) (hr : RowAt w a imL 3 l) (hl : l.length ≤ 9223372036854775807) (hb : ∀ x ∈ l,znc x) (h0 : 0 ≤ left) (h1 : left ≤ 1048576) :
  Calls Tryz.prog 23 #[.slice a l.length cap,.int .i64 left] w fun e w' => zjo left (l.length + zx zft l) e ∧ Below w.heap.size w w':=by
 have HR:=hidI hr
 have HG:=hidI hb
 clear hr hb
 by_cases hll : (l.length : Int) ≤ left
 case neg =>
  go_enter Tryz.func23,Tryz.ntmps23
  go_wp2
  go_ret
  exact ⟨⟨-1,rfl,by omega,by omega,fun h => by omega⟩,Below.refl _ _⟩
 go_enter Tryz.func23,Tryz.ntmps23
 go_wp2
 go_loopg [1,5] l.length (fun k s1 s5 wr => ∃ (j : Nat) (z : Int),s5 = .int .i64 j ∧ s1 = .int .i64 z ∧ j + k = l.length ∧ 0 ≤ z ∧ z ≤ left ∧ z + ((l.length + zx zft (l.take j) : Nat) : Int) = left ∧ Below w.heap.size w wr)
 case atStart => exact ⟨0,_,rfl,rfl,by omega,by omega,by omega,by simp [zx],Below.refl _ _⟩
 case round =>
  obtain ⟨j,z,rfl,rfl,hj,hz0,hz1,hz2,hb⟩:=hrel
  have HZ:=hidI hz2
  have HB:=hidI hb
  clear hz2 hb
  by_cases hlt : j < l.length
  ·have hlti : (j : Int) < (l.length : Int):=by omega
   obtain ⟨x,hx⟩ : ∃ x,l[j]? = some x:=⟨_,List.getElem?_eq_getElem hlt⟩
   obtain ⟨b,off,rfl,hc⟩:=(HR.out.later HB.out).get hx
   have hbig:=HG.out x (List.mem_of_getElem? hx)
   have HC:=hidI (zhe zft hx)
   have c0:=hc 0 _ rfl
   have c1:=hc 1 _ rfl
   have c2:=hc 2 _ rfl
   simp only [Nat.add_zero] at c0
   clear hc hx
   obtain ⟨j1,hj1⟩ : ∃ j1,j1 = j + 1:=⟨_,rfl⟩
   have ej : (j : Int) + 1 = (j1 : Int):=by omega
   have HJ:=hidI hj1
   clear hj1
   go_wp2_with fail
   refine (zbie x z _ hbig hz0 (by omega)).mono ?_
   rintro e w1 ⟨⟨z1,rfl,hz3,hz4,hz5⟩,hb1⟩
   have HB1:=hidI (HB.out.trans (hb1.mono HB.out.size))
   have HZ1:=hidI hz5
   clear hb1 hz5 hbig c0 c1 c2
   by_cases hz6 : 0 ≤ z1
   ·go_wp2
    go_roundg (gk - 1)
    case rel => exact ⟨j1,z1,rfl,rfl,by have:=HJ.out; omega,hz6,by omega,by have:=HZ.out; have:=HZ1.out hz6; rw [HJ.out,HC.out]; omega,HB1.out⟩
    case measure => omega
   ·go_wp2
    go_ret
    exact ⟨⟨-1,rfl,by omega,by omega,fun h => by omega⟩,HB1.out⟩
  ·have hlti : ¬ (j : Int) < (l.length : Int):=by omega
   obtain rfl : j = l.length:=by omega
   go_wp2
   go_ret
   exact ⟨⟨z,rfl,by omega,hz1,fun _ => by have:=HZ.out; rw [List.take_length] at this; exact this⟩,HB.out⟩
def zfu (x : Ep) : Nat:=x.name.size + x.loc.size + x.spec.size
def znd (x : Ep) : Prop:=x.name.size ≤ 9223372036854775807 ∧ x.loc.size ≤ 9223372036854775807 ∧ x.spec.size ≤ 9223372036854775807
set_option maxHeartbeats 800000 in
theorem zbif (x : Ep) (left : Int) (w : World) (hb : znd x) (h0 : 0 ≤ left) (h1 : left ≤ 1048576) :
  Calls Tryz.prog 62 #[.agg #[.int .i64 x.kind,.string x.name,.string x.loc,.string x.spec],.int .i64 left] w fun e w' => zjo left (zfu x) e ∧ Below w.heap.size w w':=by
 unfold znd at hb
 obtain ⟨b0,b1,b2⟩:=hb
 go_enter Tryz.func62,Tryz.ntmps62
 go_wp2
 ·go_ret
  exact ⟨⟨-1,rfl,by omega,by omega,fun h => by omega⟩,(Below.refl _ _).alloc (Nat.le_refl _) _⟩
 ·go_ret
  exact ⟨⟨-1,rfl,by omega,by omega,fun h => by omega⟩,(Below.refl _ _).alloc (Nat.le_refl _) _⟩
 ·go_ret
  exact ⟨⟨-1,rfl,by omega,by omega,fun h => by omega⟩,(Below.refl _ _).alloc (Nat.le_refl _) _⟩
 ·go_ret
  exact ⟨⟨_,rfl,by omega,by omega,fun _ => by unfold zfu; omega⟩,(Below.refl _ _).alloc (Nat.le_refl _) _⟩
set_option maxRecDepth 100000 in
set_option maxHeartbeats 1600000 in
theorem zbfi (a : Option Addr) (cap : Nat) (l : List Ep) (left : Int) (w : World) (hr : RowAt w a epL 4 l) (hl : l.length ≤ 9223372036854775807) (hb : ∀ x ∈ l,znd x) (h0 : 0 ≤ left) (h1 : left ≤ 1048576) :
  Calls Tryz.prog 24 #[.slice a l.length cap,.int .i64 left] w fun e w' => zjo left (l.length + zx zfu l) e ∧ Below w.heap.size w w':=by
 have HR:=hidI hr
 have HG:=hidI hb
 clear hr hb
 by_cases hll : (l.length : Int) ≤ left
 case neg =>
  go_enter Tryz.func24,Tryz.ntmps24
  go_wp2
  go_ret
  exact ⟨⟨-1,rfl,by omega,by omega,fun h => by omega⟩,Below.refl _ _⟩
 go_enter Tryz.func24,Tryz.ntmps24
 go_wp2
 go_loopg [1,5] l.length (fun k s1 s5 wr => ∃ (j : Nat) (z : Int),s5 = .int .i64 j ∧ s1 = .int .i64 z ∧ j + k = l.length ∧ 0 ≤ z ∧ z ≤ left ∧ z + ((l.length + zx zfu (l.take j) : Nat) : Int) = left ∧ Below w.heap.size w wr)
 case atStart => exact ⟨0,_,rfl,rfl,by omega,by omega,by omega,by simp [zx],Below.refl _ _⟩
 case round =>
  obtain ⟨j,z,rfl,rfl,hj,hz0,hz1,hz2,hb⟩:=hrel
  have HZ:=hidI hz2
  have HB:=hidI hb
  clear hz2 hb
  by_cases hlt : j < l.length
  ·have hlti : (j : Int) < (l.length : Int):=by omega
   obtain ⟨x,hx⟩ : ∃ x,l[j]? = some x:=⟨_,List.getElem?_eq_getElem hlt⟩
   obtain ⟨b,off,rfl,hc⟩:=(HR.out.later HB.out).get hx
   have hbig:=HG.out x (List.mem_of_getElem? hx)
   have HC:=hidI (zhe zfu hx)
   have c0:=hc 0 _ rfl
   have c1:=hc 1 _ rfl
   have c2:=hc 2 _ rfl
   have c3:=hc 3 _ rfl
   simp only [Nat.add_zero] at c0
   clear hc hx
   obtain ⟨j1,hj1⟩ : ∃ j1,j1 = j + 1:=⟨_,rfl⟩
   have ej : (j : Int) + 1 = (j1 : Int):=by omega
   have HJ:=hidI hj1
   clear hj1
   go_wp2_with fail
   refine (zbif x z _ hbig hz0 (by omega)).mono ?_
   rintro e w1 ⟨⟨z1,rfl,hz3,hz4,hz5⟩,hb1⟩
   have HB1:=hidI (HB.out.trans (hb1.mono HB.out.size))
   have HZ1:=hidI hz5
   clear hb1 hz5 hbig c0 c1 c2 c3
   by_cases hz6 : 0 ≤ z1
   ·go_wp2
    go_roundg (gk - 1)
    case rel => exact ⟨j1,z1,rfl,rfl,by have:=HJ.out; omega,hz6,by omega,by have:=HZ.out; have:=HZ1.out hz6; rw [HJ.out,HC.out]; omega,HB1.out⟩
    case measure => omega
   ·go_wp2
    go_ret
    exact ⟨⟨-1,rfl,by omega,by omega,fun h => by omega⟩,HB1.out⟩
  ·have hlti : ¬ (j : Int) < (l.length : Int):=by omega
   obtain rfl : j = l.length:=by omega
   go_wp2
   go_ret
   exact ⟨⟨z,rfl,by omega,hz1,fun _ => by have:=HZ.out; rw [List.take_length] at this; exact this⟩,HB.out⟩
def zgp (x : Sm) : Nat:=x.name.size
def zne (x : Sm) : Prop:=x.name.size ≤ 9223372036854775807
set_option maxHeartbeats 800000 in
theorem zbig (x : Sm) (left : Int) (w : World) (hb : zne x) (h0 : 0 ≤ left) (h1 : left ≤ 1048576) :
  Calls Tryz.prog 63 #[.agg #[.int .i64 x.kind,.string x.name,.int .i64 x.expr],.int .i64 left] w fun e w' => zjo left (zgp x) e ∧ Below w.heap.size w w':=by
 unfold zne at hb
 go_enter Tryz.func63,Tryz.ntmps63
 go_wp2
 ·go_ret
  exact ⟨⟨-1,rfl,by omega,by omega,fun h => by omega⟩,(Below.refl _ _).alloc (Nat.le_refl _) _⟩
 ·go_ret
  exact ⟨⟨_,rfl,by omega,by omega,fun _ => by unfold zgp; omega⟩,(Below.refl _ _).alloc (Nat.le_refl _) _⟩
set_option maxRecDepth 100000 in
set_option maxHeartbeats 1600000 in
theorem zbfj (a : Option Addr) (cap : Nat) (l : List Sm) (left : Int) (w : World) (hr : RowAt w a smL 3 l) (hl : l.length ≤ 9223372036854775807) (hb : ∀ x ∈ l,zne x) (h0 : 0 ≤ left) (h1 : left ≤ 1048576) :
  Calls Tryz.prog 25 #[.slice a l.length cap,.int .i64 left] w fun e w' => zjo left (l.length + zx zgp l) e ∧ Below w.heap.size w w':=by
 have HR:=hidI hr
 have HG:=hidI hb
 clear hr hb
 by_cases hll : (l.length : Int) ≤ left
 case neg =>
  go_enter Tryz.func25,Tryz.ntmps25
  go_wp2
  go_ret
  exact ⟨⟨-1,rfl,by omega,by omega,fun h => by omega⟩,Below.refl _ _⟩
 go_enter Tryz.func25,Tryz.ntmps25
 go_wp2
 go_loopg [1,5] l.length (fun k s1 s5 wr => ∃ (j : Nat) (z : Int),s5 = .int .i64 j ∧ s1 = .int .i64 z ∧ j + k = l.length ∧ 0 ≤ z ∧ z ≤ left ∧ z + ((l.length + zx zgp (l.take j) : Nat) : Int) = left ∧ Below w.heap.size w wr)
 case atStart => exact ⟨0,_,rfl,rfl,by omega,by omega,by omega,by simp [zx],Below.refl _ _⟩
 case round =>
  obtain ⟨j,z,rfl,rfl,hj,hz0,hz1,hz2,hb⟩:=hrel
  have HZ:=hidI hz2
  have HB:=hidI hb
  clear hz2 hb
  by_cases hlt : j < l.length
  ·have hlti : (j : Int) < (l.length : Int):=by omega
   obtain ⟨x,hx⟩ : ∃ x,l[j]? = some x:=⟨_,List.getElem?_eq_getElem hlt⟩
   obtain ⟨b,off,rfl,hc⟩:=(HR.out.later HB.out).get hx
   have hbig:=HG.out x (List.mem_of_getElem? hx)
   have HC:=hidI (zhe zgp hx)
   have c0:=hc 0 _ rfl
   have c1:=hc 1 _ rfl
   have c2:=hc 2 _ rfl
   simp only [Nat.add_zero] at c0
   clear hc hx
   obtain ⟨j1,hj1⟩ : ∃ j1,j1 = j + 1:=⟨_,rfl⟩
   have ej : (j : Int) + 1 = (j1 : Int):=by omega
   have HJ:=hidI hj1
   clear hj1
   go_wp2_with fail
   refine (zbig x z _ hbig hz0 (by omega)).mono ?_
   rintro e w1 ⟨⟨z1,rfl,hz3,hz4,hz5⟩,hb1⟩
   have HB1:=hidI (HB.out.trans (hb1.mono HB.out.size))
   have HZ1:=hidI hz5
   clear hb1 hz5 hbig c0 c1 c2
   by_cases hz6 : 0 ≤ z1
   ·go_wp2
    go_roundg (gk - 1)
    case rel => exact ⟨j1,z1,rfl,rfl,by have:=HJ.out; omega,hz6,by omega,by have:=HZ.out; have:=HZ1.out hz6; rw [HJ.out,HC.out]; omega,HB1.out⟩
    case measure => omega
   ·go_wp2
    go_ret
    exact ⟨⟨-1,rfl,by omega,by omega,fun h => by omega⟩,HB1.out⟩
  ·have hlti : ¬ (j : Int) < (l.length : Int):=by omega
   obtain rfl : j = l.length:=by omega
   go_wp2
   go_ret
   exact ⟨⟨z,rfl,by omega,hz1,fun _ => by have:=HZ.out; rw [List.take_length] at this; exact this⟩,HB.out⟩
def zhf (x : Ex) : Nat:=x.name.size + x.field.size
def znf (x : Ex) : Prop:=x.name.size ≤ 9223372036854775807 ∧ x.field.size ≤ 9223372036854775807
set_option maxHeartbeats 800000 in
theorem zbih (x : Ex) (left : Int) (w : World) (hb : znf x) (h0 : 0 ≤ left) (h1 : left ≤ 1048576) :
  Calls Tryz.prog 64 #[.agg #[.int .i64 x.kind,.int .i64 x.num,.string x.name,.string x.field,.int .i64 x.l,.int .i64 x.r],.int .i64 left] w fun e w' => zjo left (zhf x) e ∧ Below w.heap.size w w':=by
 unfold znf at hb
 obtain ⟨b0,b1⟩:=hb
 go_enter Tryz.func64,Tryz.ntmps64
 go_wp2
 ·go_ret
  exact ⟨⟨-1,rfl,by omega,by omega,fun h => by omega⟩,(Below.refl _ _).alloc (Nat.le_refl _) _⟩
 ·go_ret
  exact ⟨⟨-1,rfl,by omega,by omega,fun h => by omega⟩,(Below.refl _ _).alloc (Nat.le_refl _) _⟩
 ·go_ret
  exact ⟨⟨_,rfl,by omega,by omega,fun _ => by unfold zhf; omega⟩,(Below.refl _ _).alloc (Nat.le_refl _) _⟩
set_option maxRecDepth 100000 in
set_option maxHeartbeats 1600000 in
theorem zbfk (a : Option Addr) (cap : Nat) (l : List Ex) (left : Int) (w : World) (hr : RowAt w a exL 6 l) (hl : l.length ≤ 9223372036854775807) (hb : ∀ x ∈ l,znf x) (h0 : 0 ≤ left) (h1 : left ≤ 1048576) :
  Calls Tryz.prog 26 #[.slice a l.length cap,.int .i64 left] w fun e w' => zjo left (l.length + zx zhf l) e ∧ Below w.heap.size w w':=by
 have HR:=hidI hr
 have HG:=hidI hb
 clear hr hb
 by_cases hll : (l.length : Int) ≤ left
 case neg =>
  go_enter Tryz.func26,Tryz.ntmps26
  go_wp2
  go_ret
  exact ⟨⟨-1,rfl,by omega,by omega,fun h => by omega⟩,Below.refl _ _⟩
 go_enter Tryz.func26,Tryz.ntmps26
 go_wp2
 go_loopg [1,5] l.length (fun k s1 s5 wr => ∃ (j : Nat) (z : Int),s5 = .int .i64 j ∧ s1 = .int .i64 z ∧ j + k = l.length ∧ 0 ≤ z ∧ z ≤ left ∧ z + ((l.length + zx zhf (l.take j) : Nat) : Int) = left ∧ Below w.heap.size w wr)
 case atStart => exact ⟨0,_,rfl,rfl,by omega,by omega,by omega,by simp [zx],Below.refl _ _⟩
 case round =>
  obtain ⟨j,z,rfl,rfl,hj,hz0,hz1,hz2,hb⟩:=hrel
  have HZ:=hidI hz2
  have HB:=hidI hb
  clear hz2 hb
  by_cases hlt : j < l.length
  ·have hlti : (j : Int) < (l.length : Int):=by omega
   obtain ⟨x,hx⟩ : ∃ x,l[j]? = some x:=⟨_,List.getElem?_eq_getElem hlt⟩
   obtain ⟨b,off,rfl,hc⟩:=(HR.out.later HB.out).get hx
   have hbig:=HG.out x (List.mem_of_getElem? hx)
   have HC:=hidI (zhe zhf hx)
   have c0:=hc 0 _ rfl
   have c1:=hc 1 _ rfl
   have c2:=hc 2 _ rfl
   have c3:=hc 3 _ rfl
   have c4:=hc 4 _ rfl
   have c5:=hc 5 _ rfl
   simp only [Nat.add_zero] at c0
   clear hc hx
   obtain ⟨j1,hj1⟩ : ∃ j1,j1 = j + 1:=⟨_,rfl⟩
   have ej : (j : Int) + 1 = (j1 : Int):=by omega
   have HJ:=hidI hj1
   clear hj1
   go_wp2_with fail
   refine (zbih x z _ hbig hz0 (by omega)).mono ?_
   rintro e w1 ⟨⟨z1,rfl,hz3,hz4,hz5⟩,hb1⟩
   have HB1:=hidI (HB.out.trans (hb1.mono HB.out.size))
   have HZ1:=hidI hz5
   clear hb1 hz5 hbig c0 c1 c2 c3 c4 c5
   by_cases hz6 : 0 ≤ z1
   ·go_wp2
    go_roundg (gk - 1)
    case rel => exact ⟨j1,z1,rfl,rfl,by have:=HJ.out; omega,hz6,by omega,by have:=HZ.out; have:=HZ1.out hz6; rw [HJ.out,HC.out]; omega,HB1.out⟩
    case measure => omega
   ·go_wp2
    go_ret
    exact ⟨⟨-1,rfl,by omega,by omega,fun h => by omega⟩,HB1.out⟩
  ·have hlti : ¬ (j : Int) < (l.length : Int):=by omega
   obtain rfl : j = l.length:=by omega
   go_wp2
   go_ret
   exact ⟨⟨z,rfl,by omega,hz1,fun _ => by have:=HZ.out; rw [List.take_length] at this; exact this⟩,HB.out⟩
/-- Where a program that came in lies. -/
structure MA where
 a0 : Option Addr
 a1 : Option Addr
 a2 : Option Addr
 a3 : Option Addr
 a4 : Option Addr
 c0 : Nat
 c1 : Nat
 c2 : Nat
 c3 : Nat
 c4 : Nat
def modA (A : MA) (m : Md) : Value:=.agg #[.slice A.a0 m.rq.length A.c0,.slice A.a1 m.im.length A.c1,.slice A.a2 m.ep.length A.c2,.slice A.a3 m.st.length A.c3,.slice A.a4 m.ex.length A.c4]
def ModIn (w : World) (A : MA) (m : Md) : Prop:=RowAt w A.a0 (fun x => [Value.string x]) 1 m.rq ∧ RowAt w A.a1 imL 3 m.im ∧ RowAt w A.a2 epL 4 m.ep ∧ RowAt w A.a3 smL 3 m.st ∧ RowAt w A.a4 exL 6 m.ex
theorem ModIn.later {w w' : World} {A : MA} {m : Md} (h : ModIn w A m) (hb : Below w.heap.size w w') : ModIn w' A m:=⟨h.1.later hb,h.2.1.later hb,h.2.2.1.later hb,h.2.2.2.1.later hb,h.2.2.2.2.later hb⟩
/-- Nothing of it is greater than an int can tell. -/
def BigM (m : Md) : Prop:=(m.rq.length ≤ 9223372036854775807 ∧ ∀ x ∈ m.rq,zmb x) ∧ (m.im.length ≤ 9223372036854775807 ∧ ∀ x ∈ m.im,znc x) ∧ (m.ep.length ≤ 9223372036854775807 ∧ ∀ x ∈ m.ep,znd x) ∧ (m.st.length ≤ 9223372036854775807 ∧ ∀ x ∈ m.st,zne x) ∧ (m.ex.length ≤ 9223372036854775807 ∧ ∀ x ∈ m.ex,znf x)
def zkd (m : Md) : Nat:=(m.rq.length + zx zfn m.rq) + (m.im.length + zx zft m.im) + (m.ep.length + zx zfu m.ep) + (m.st.length + zx zgp m.st) + (m.ex.length + zx zhf m.ex)
set_option maxRecDepth 100000 in
set_option maxHeartbeats 3200000 in
theorem zbfl (A : MA) (m : Md) (left : Int) (w : World) (hr : ModIn w A m) (hb : BigM m) (h0 : 0 ≤ left) (h1 : left ≤ 1048576) :
  Calls Tryz.prog 6 #[modA A m,.int .i64 left] w fun e w' => zjo left (zkd m) e ∧ Below w.heap.size w w':=by
 have HR:=hidI hr
 have HG:=hidI hb
 clear hr hb
 unfold modA
 go_enter Tryz.func6,Tryz.ntmps6
 go_upto_region 1 with fail
 have HW : Hid (Below w.heap.size w (w.alloc (.cells #[.slice A.a0 m.rq.length A.c0,.slice A.a1 m.im.length A.c1,.slice A.a2 m.ep.length A.c2,.slice A.a3 m.st.length A.c3,.slice A.a4 m.ex.length A.c4] 28))):=(Below.refl _ _).alloc (Nat.le_refl _) _
 refine zv (R:=fun W => W.heap[w.heap.size]? = some (.cells #[.slice A.a0 m.rq.length A.c0,.slice A.a1 m.im.length A.c1,.slice A.a2 m.ep.length A.c2,.slice A.a3 m.st.length A.c3,.slice A.a4 m.ex.length A.c4] 28 (0,0)) ∧ ModIn W A m ∧ Below w.heap.size w W) ⟨heap_alloc_new w _,HR.out.later HW.out,HW.out⟩ ?_
 obtain ⟨gx,hgx⟩ : ∃ gx,gx = w.heap.size:=⟨_,rfl⟩
 rw [← hgx]
 rintro w0 ⟨hx,hm,hb⟩
 rw [hgx] at hb
 clear hgx HW HR
 have X0:=hidI hx
 have M0:=hidI hm
 have HB0:=hidI hb
 clear hx hm hb
 obtain ⟨c0,c1,c2,c3,c4,cf⟩:=zi X0.out
 go_wp2_with fail
 refine (zbci A.a0 A.c0 m.rq left w0 M0.out.1 HG.out.1.1 HG.out.1.2 (by omega) (by omega)).mono ?_
 rintro e w1 ⟨⟨z0,rfl,y0,u0,v0⟩,hb⟩
 have HB1:=hidI (HB0.out.trans (hb.mono HB0.out.size))
 have M1:=hidI (M0.out.later hb)
 have X1:=hidI ((hb.block _ (Array.getElem?_eq_some_iff.1 X0.out).1).trans X0.out)
 have V0:=hidI v0
 clear hb v0 c0 c1 c2 c3 c4 cf
 obtain ⟨c0,c1,c2,c3,c4,cf⟩:=zi X1.out
 by_cases t0 : 0 ≤ z0
 case neg =>
  go_wp2
  go_ret
  exact ⟨⟨-1,rfl,by omega,by omega,fun h => by omega⟩,HB1.out⟩
 go_wp2_with fail
 refine (zbfh A.a1 A.c1 m.im z0 w1 M1.out.2.1 HG.out.2.1.1 HG.out.2.1.2 (by omega) (by omega)).mono ?_
 rintro e w2 ⟨⟨z1,rfl,y1,u1,v1⟩,hb⟩
 have HB2:=hidI (HB1.out.trans (hb.mono HB1.out.size))
 have M2:=hidI (M1.out.later hb)
 have X2:=hidI ((hb.block _ (Array.getElem?_eq_some_iff.1 X1.out).1).trans X1.out)
 have V1:=hidI v1
 clear hb v1 c0 c1 c2 c3 c4 cf
 obtain ⟨c0,c1,c2,c3,c4,cf⟩:=zi X2.out
 by_cases t1 : 0 ≤ z1
 case neg =>
  go_wp2
  go_ret
  exact ⟨⟨-1,rfl,by omega,by omega,fun h => by omega⟩,HB2.out⟩
 go_wp2_with fail
 refine (zbfi A.a2 A.c2 m.ep z1 w2 M2.out.2.2.1 HG.out.2.2.1.1 HG.out.2.2.1.2 (by omega) (by omega)).mono ?_
 rintro e w3 ⟨⟨z2,rfl,y2,u2,v2⟩,hb⟩
 have HB3:=hidI (HB2.out.trans (hb.mono HB2.out.size))
 have M3:=hidI (M2.out.later hb)
 have X3:=hidI ((hb.block _ (Array.getElem?_eq_some_iff.1 X2.out).1).trans X2.out)
 have V2:=hidI v2
 clear hb v2 c0 c1 c2 c3 c4 cf
 obtain ⟨c0,c1,c2,c3,c4,cf⟩:=zi X3.out
 by_cases t2 : 0 ≤ z2
 case neg =>
  go_wp2
  go_ret
  exact ⟨⟨-1,rfl,by omega,by omega,fun h => by omega⟩,HB3.out⟩
 go_wp2_with fail
 refine (zbfj A.a3 A.c3 m.st z2 w3 M3.out.2.2.2.1 HG.out.2.2.2.1.1 HG.out.2.2.2.1.2 (by omega) (by omega)).mono ?_
 rintro e w4 ⟨⟨z3,rfl,y3,u3,v3⟩,hb⟩
 have HB4:=hidI (HB3.out.trans (hb.mono HB3.out.size))
 have M4:=hidI (M3.out.later hb)
 have X4:=hidI ((hb.block _ (Array.getElem?_eq_some_iff.1 X3.out).1).trans X3.out)
 have V3:=hidI v3
 clear hb v3 c0 c1 c2 c3 c4 cf
 obtain ⟨c0,c1,c2,c3,c4,cf⟩:=zi X4.out
 by_cases t3 : 0 ≤ z3
 case neg =>
  go_wp2
  go_ret
  exact ⟨⟨-1,rfl,by omega,by omega,fun h => by omega⟩,HB4.out⟩
 go_wp2_with fail
 refine (zbfk A.a4 A.c4 m.ex z3 w4 M4.out.2.2.2.2 HG.out.2.2.2.2.1 HG.out.2.2.2.2.2 (by omega) (by omega)).mono ?_
 rintro e w5 ⟨⟨z4,rfl,y4,u4,v4⟩,hb⟩
 have HB5:=hidI (HB4.out.trans (hb.mono HB4.out.size))
 have M5:=hidI (M4.out.later hb)
 have X5:=hidI ((hb.block _ (Array.getElem?_eq_some_iff.1 X4.out).1).trans X4.out)
 have V4:=hidI v4
 clear hb v4 c0 c1 c2 c3 c4 cf
 obtain ⟨c0,c1,c2,c3,c4,cf⟩:=zi X5.out
 by_cases t4 : 0 ≤ z4
 case neg =>
  go_wp2
  go_ret
  exact ⟨⟨-1,rfl,by omega,by omega,fun h => by omega⟩,HB5.out⟩
 go_wp2
 go_ret
 exact ⟨⟨z4,rfl,by omega,by omega,fun _ => by have q0:=V0.out t0; have q1:=V1.out t1; have q2:=V2.out t2; have q3:=V3.out t3; have q4:=V4.out t4; unfold zkd; omega⟩,HB5.out⟩
end Go.Proofs.YtgchhhmfloemlaaGreat
namespace Go.Proofs.YtgchhhmfloemlaaGreat
open Go.RowKit Go.PlainAid Go.Sort

theorem Tryz.infoTStr : (Tryz.prog.info? 9).map (fun i => (i.zero,i.size,i.bytes)) = some (some (.string { data:=#[] }),1,16):=by kernel_rfl
set_option maxRecDepth 100000 in
set_option maxHeartbeats 3200000 in
theorem zbcj (a : Option Addr) (cap : Nat) (l : List ByteArray) (w : World) (hr : RowAt w a (fun x => [Value.string x]) 1 l) (hl : l.length ≤ 1048576) :
  Calls Tryz.prog 28 #[.slice a l.length cap] w fun e w' => zrp w 9 1 l.length (l.flatMap (fun x => [Value.string x])) e w':=by
 have HR:=hidI hr
 clear hr
 obtain ⟨i0,hi,hz0,hz1,hz2⟩:=info_parts Tryz.infoTStr
 go_enter Tryz.func28,Tryz.ntmps28
 go_wp2_with (first | (at_make; refine wpList_make_full w rfl _ _ 22 rfl w.heap.size 9 i0 _ 1 Tryz.underlying22 hi hz0 hz1 .i64 .i64 _ _ l.length (by rfl) (by rfl) rfl rfl (by rw [hz2]; omega) (by unfold maxLen; omega) (Nat.le_refl _) ?_))
 intro w1 hown1 hgr1
 have HB1:=hidI ((Below.refl _ _).grown hgr1 (Nat.le_refl _) (fun k h => by cases h) : Below w.heap.size w w1)
 have HO1 : Hid (OwnC w1 w.heap.size 9 1 w.heap.size l.length (l.flatMap (fun x => [Value.string x])) 0):=⟨_,hown1,fun j hj => absurd hj (Nat.not_lt_zero j)⟩
 clear hown1 hgr1
 obtain ⟨g,hg⟩ : ∃ g,g = w.heap.size:=⟨_,rfl⟩
 have HGG:=hidI hg
 rw [← hg]
 rw [← hg] at HO1
 have HOB : Hid (OwnC w1 w.heap.size 9 1 g l.length (l.flatMap (fun x => [Value.string x])) 0):=by rw [← hg]; exact HO1.out
 clear hg HO1
 go_wp2
 go_loopg [4] l.length (fun k i wr => ∃ j : Nat,i = .int .i64 j ∧ j + k = l.length ∧ OwnC wr w.heap.size 9 1 g l.length (l.flatMap (fun x => [Value.string x])) (j * 1) ∧ Below w.heap.size w wr)
 case atStart => exact ⟨0,rfl,by omega,HOB.out,HB1.out⟩
 case round =>
  obtain ⟨j,rfl,hj,ho,hb⟩:=hrel
  have HO:=hidI ho
  have HB:=hidI hb
  clear ho hb
  by_cases hlt : j < l.length
  ·have hlti : (j : Int) < (l.length : Int):=by omega
   obtain ⟨x,hx⟩ : ∃ x,l[j]? = some x:=⟨_,List.getElem?_eq_getElem hlt⟩
   obtain ⟨b,off,rfl,hc⟩:=(HR.out.later HB.out).get hx
   have HX:=hidI hx
   clear hx
   have c0:=hc 0 _ rfl
   simp only [Nat.add_zero,Nat.mul_one] at c0
   clear hc
   obtain ⟨j1,hj1⟩ : ∃ j1,j1 = j + 1:=⟨_,rfl⟩
   have ej : (j : Int) + 1 = (j1 : Int):=by omega
   have HJ:=hidI hj1
   clear hj1
   obtain ⟨v0,g0⟩:=HO.out.has (j * 1) (by omega)
   have f0:=HO.out.free (j * 1)
   have HN:=hidI (HO.out.put (by omega) (zdw (f:=(fun x => [Value.string x])) (m:=1) (fun _ => rfl) l j x 0 _ HX.out rfl))
   simp only [Nat.mul_one] at g0 f0
   have hge : w.heap.size ≤ g:=by have:=HGG.out; omega
   go_wp2
   go_roundg (gk - 1)
   case rel => exact ⟨j1,rfl,by have:=HJ.out; omega,by have:=HN.out; simp only [Nat.mul_one] at this; rw [HJ.out,Nat.mul_one]; exact this,(HB.out.setCell hge _)⟩
   case measure => omega
  ·have hlti : ¬ (j : Int) < (l.length : Int):=by omega
   obtain rfl : j = l.length:=by omega
   go_wp2
   go_ret
   exact ⟨g,rfl,HO.out.all (zjr (f:=(fun x => [Value.string x])) (fun _ => rfl) l),HB.out⟩
theorem Tryz.infoTIm : (Tryz.prog.info? 100).map (fun i => (i.zero,i.size,i.bytes)) = some (some (.agg #[.string { data:=#[] },.string { data:=#[] },.string { data:=#[] }]),3,48):=by kernel_rfl
set_option maxHeartbeats 800000 in
theorem zbii (x : Im) (w : World) :
  Calls Tryz.prog 65 #[.agg #[.string x.spec,.string x.first,.string x.loc]] w fun e w' => e = .returned (.agg #[.string x.spec,.string x.first,.string x.loc]) ∧ Below w.heap.size w w':=by
 go_enter Tryz.func65,Tryz.ntmps65
 go_wp2
 refine bodyPost_ret (results_cell_row rfl _ _ (w.heap.size + 1) 100 #[.string x.spec,.string x.first,.string x.loc] (0,0) _ rfl ?_ Tryz.underlying100 rfl (by kernel_rfl)) rfl ?_
 ·rw [heap_alloc_old _ _ (by show _ < ((w.heap.push _).push _).size; simp)]
  exact heap_alloc2_new w _ _
 ·exact ⟨rfl,(((Below.refl _ _).alloc (Nat.le_refl _) _).alloc (by show _ ≤ (w.heap.push _).size; simp) _).alloc (by show _ ≤ ((w.heap.push _).push _).size; simp; omega) _⟩
set_option maxRecDepth 100000 in
set_option maxHeartbeats 3200000 in
theorem zbfm (a : Option Addr) (cap : Nat) (l : List Im) (w : World) (hr : RowAt w a imL 3 l) (hl : l.length ≤ 1048576) :
  Calls Tryz.prog 29 #[.slice a l.length cap] w fun e w' => zrp w 100 3 l.length (l.flatMap imL) e w':=by
 have HR:=hidI hr
 clear hr
 obtain ⟨i0,hi,hz0,hz1,hz2⟩:=info_parts Tryz.infoTIm
 go_enter Tryz.func29,Tryz.ntmps29
 go_wp2_with (first | (at_make; refine wpList_make_full w rfl _ _ 31 rfl w.heap.size 100 i0 _ 3 Tryz.underlying31 hi hz0 hz1 .i64 .i64 _ _ l.length (by rfl) (by rfl) rfl rfl (by rw [hz2]; omega) (by unfold maxLen; omega) (Nat.le_refl _) ?_))
 intro w1 hown1 hgr1
 have HB1:=hidI ((Below.refl _ _).grown hgr1 (Nat.le_refl _) (fun k h => by cases h) : Below w.heap.size w w1)
 have HO1 : Hid (OwnC w1 w.heap.size 100 3 w.heap.size l.length (l.flatMap imL) 0):=⟨_,hown1,fun j hj => absurd hj (Nat.not_lt_zero j)⟩
 clear hown1 hgr1
 obtain ⟨g,hg⟩ : ∃ g,g = w.heap.size:=⟨_,rfl⟩
 have HGG:=hidI hg
 rw [← hg]
 rw [← hg] at HO1
 have HOB : Hid (OwnC w1 w.heap.size 100 3 g l.length (l.flatMap imL) 0):=by rw [← hg]; exact HO1.out
 clear hg HO1
 go_wp2
 go_loopg [4] l.length (fun k i wr => ∃ j : Nat,i = .int .i64 j ∧ j + k = l.length ∧ OwnC wr w.heap.size 100 3 g l.length (l.flatMap imL) (j * 3) ∧ Below w.heap.size w wr)
 case atStart => exact ⟨0,rfl,by omega,HOB.out,HB1.out⟩
 case round =>
  obtain ⟨j,rfl,hj,ho,hb⟩:=hrel
  have HO:=hidI ho
  have HB:=hidI hb
  clear ho hb
  by_cases hlt : j < l.length
  ·have hlti : (j : Int) < (l.length : Int):=by omega
   obtain ⟨x,hx⟩ : ∃ x,l[j]? = some x:=⟨_,List.getElem?_eq_getElem hlt⟩
   obtain ⟨b,off,rfl,hc⟩:=(HR.out.later HB.out).get hx
   have HX:=hidI hx
   clear hx
   have c0:=hc 0 _ rfl
   have c1:=hc 1 _ rfl
   have c2:=hc 2 _ rfl
   simp only [Nat.add_zero] at c0
   clear hc
   obtain ⟨j1,hj1⟩ : ∃ j1,j1 = j + 1:=⟨_,rfl⟩
   have ej : (j : Int) + 1 = (j1 : Int):=by omega
   have HJ:=hidI hj1
   clear hj1
   go_wp2_with fail
   refine (zbii x _).mono ?_
   rintro e w2 ⟨rfl,hb2⟩
   have HO2:=hidI (HO.out.later hb2)
   have HB2:=hidI (HB.out.trans (hb2.mono HB.out.size))
   clear hb2 c0 c1 c2
   obtain ⟨v0,g0⟩:=HO2.out.has (j * 3) (by omega)
   have f0:=HO2.out.free (j * 3)
   obtain ⟨v1,g1⟩:=HO2.out.has (j * 3 + 1) (by omega)
   have f1:=HO2.out.free (j * 3 + 1)
   obtain ⟨v2,g2⟩:=HO2.out.has (j * 3 + 2) (by omega)
   have f2:=HO2.out.free (j * 3 + 2)
   have HN:=hidI (((HO2.out.put (by omega) (zdw (f:=imL) (m:=3) (fun _ => rfl) l j x 0 _ HX.out rfl)).put (by omega) (zdw (f:=imL) (m:=3) (fun _ => rfl) l j x 1 _ HX.out rfl)).put (by omega) (zdw (f:=imL) (m:=3) (fun _ => rfl) l j x 2 _ HX.out rfl))
   have hge : w.heap.size ≤ g:=by have:=HGG.out; omega
   go_wp2
   go_roundg (gk - 1)
   case rel => exact ⟨j1,rfl,by have:=HJ.out; omega,by rw [HJ.out,Nat.succ_mul]; exact HN.out,(((HB2.out.setCell hge _).setCell hge _).setCell hge _)⟩
   case measure => omega
  ·have hlti : ¬ (j : Int) < (l.length : Int):=by omega
   obtain rfl : j = l.length:=by omega
   go_wp2
   go_ret
   exact ⟨g,rfl,HO.out.all (zjr (f:=imL) (fun _ => rfl) l),HB.out⟩
theorem Tryz.infoTEp : (Tryz.prog.info? 102).map (fun i => (i.zero,i.size,i.bytes)) = some (some (.agg #[.int .i64 0,.string { data:=#[] },.string { data:=#[] },.string { data:=#[] }]),4,56):=by kernel_rfl
set_option maxHeartbeats 800000 in
theorem zbij (x : Ep) (w : World) :
  Calls Tryz.prog 66 #[.agg #[.int .i64 x.kind,.string x.name,.string x.loc,.string x.spec]] w fun e w' => e = .returned (.agg #[.int .i64 x.kind,.string x.name,.string x.loc,.string x.spec]) ∧ Below w.heap.size w w':=by
 go_enter Tryz.func66,Tryz.ntmps66
 go_wp2
 refine bodyPost_ret (results_cell_row rfl _ _ (w.heap.size + 1) 102 #[.int .i64 x.kind,.string x.name,.string x.loc,.string x.spec] (0,0) _ rfl ?_ Tryz.underlying102 rfl (by kernel_rfl)) rfl ?_
 ·rw [heap_alloc_old _ _ (by show _ < ((w.heap.push _).push _).size; simp)]
  exact heap_alloc2_new w _ _
 ·exact ⟨rfl,(((Below.refl _ _).alloc (Nat.le_refl _) _).alloc (by show _ ≤ (w.heap.push _).size; simp) _).alloc (by show _ ≤ ((w.heap.push _).push _).size; simp; omega) _⟩
set_option maxRecDepth 100000 in
set_option maxHeartbeats 3200000 in
theorem zbfn (a : Option Addr) (cap : Nat) (l : List Ep) (w : World) (hr : RowAt w a epL 4 l) (hl : l.length ≤ 1048576) :
  Calls Tryz.prog 30 #[.slice a l.length cap] w fun e w' => zrp w 102 4 l.length (l.flatMap epL) e w':=by
 have HR:=hidI hr
 clear hr
 obtain ⟨i0,hi,hz0,hz1,hz2⟩:=info_parts Tryz.infoTEp
 go_enter Tryz.func30,Tryz.ntmps30
 go_wp2_with (first | (at_make; refine wpList_make_full w rfl _ _ 32 rfl w.heap.size 102 i0 _ 4 Tryz.underlying32 hi hz0 hz1 .i64 .i64 _ _ l.length (by rfl) (by rfl) rfl rfl (by rw [hz2]; omega) (by unfold maxLen; omega) (Nat.le_refl _) ?_))
 intro w1 hown1 hgr1
 have HB1:=hidI ((Below.refl _ _).grown hgr1 (Nat.le_refl _) (fun k h => by cases h) : Below w.heap.size w w1)
 have HO1 : Hid (OwnC w1 w.heap.size 102 4 w.heap.size l.length (l.flatMap epL) 0):=⟨_,hown1,fun j hj => absurd hj (Nat.not_lt_zero j)⟩
 clear hown1 hgr1
 obtain ⟨g,hg⟩ : ∃ g,g = w.heap.size:=⟨_,rfl⟩
 have HGG:=hidI hg
 rw [← hg]
 rw [← hg] at HO1
 have HOB : Hid (OwnC w1 w.heap.size 102 4 g l.length (l.flatMap epL) 0):=by rw [← hg]; exact HO1.out
 clear hg HO1
 go_wp2
 go_loopg [4] l.length (fun k i wr => ∃ j : Nat,i = .int .i64 j ∧ j + k = l.length ∧ OwnC wr w.heap.size 102 4 g l.length (l.flatMap epL) (j * 4) ∧ Below w.heap.size w wr)
 case atStart => exact ⟨0,rfl,by omega,HOB.out,HB1.out⟩
 case round =>
  obtain ⟨j,rfl,hj,ho,hb⟩:=hrel
  have HO:=hidI ho
  have HB:=hidI hb
  clear ho hb
  by_cases hlt : j < l.length
  ·have hlti : (j : Int) < (l.length : Int):=by omega
   obtain ⟨x,hx⟩ : ∃ x,l[j]? = some x:=⟨_,List.getElem?_eq_getElem hlt⟩
   obtain ⟨b,off,rfl,hc⟩:=(HR.out.later HB.out).get hx
   have HX:=hidI hx
   clear hx
   have c0:=hc 0 _ rfl
   have c1:=hc 1 _ rfl
   have c2:=hc 2 _ rfl
   have c3:=hc 3 _ rfl
   simp only [Nat.add_zero] at c0
   clear hc
   obtain ⟨j1,hj1⟩ : ∃ j1,j1 = j + 1:=⟨_,rfl⟩
   have ej : (j : Int) + 1 = (j1 : Int):=by omega
   have HJ:=hidI hj1
   clear hj1
   go_wp2_with fail
   refine (zbij x _).mono ?_
   rintro e w2 ⟨rfl,hb2⟩
   have HO2:=hidI (HO.out.later hb2)
   have HB2:=hidI (HB.out.trans (hb2.mono HB.out.size))
   clear hb2 c0 c1 c2 c3
   obtain ⟨v0,g0⟩:=HO2.out.has (j * 4) (by omega)
   have f0:=HO2.out.free (j * 4)
   obtain ⟨v1,g1⟩:=HO2.out.has (j * 4 + 1) (by omega)
   have f1:=HO2.out.free (j * 4 + 1)
   obtain ⟨v2,g2⟩:=HO2.out.has (j * 4 + 2) (by omega)
   have f2:=HO2.out.free (j * 4 + 2)
   obtain ⟨v3,g3⟩:=HO2.out.has (j * 4 + 3) (by omega)
   have f3:=HO2.out.free (j * 4 + 3)
   have HN:=hidI ((((HO2.out.put (by omega) (zdw (f:=epL) (m:=4) (fun _ => rfl) l j x 0 _ HX.out rfl)).put (by omega) (zdw (f:=epL) (m:=4) (fun _ => rfl) l j x 1 _ HX.out rfl)).put (by omega) (zdw (f:=epL) (m:=4) (fun _ => rfl) l j x 2 _ HX.out rfl)).put (by omega) (zdw (f:=epL) (m:=4) (fun _ => rfl) l j x 3 _ HX.out rfl))
   have hge : w.heap.size ≤ g:=by have:=HGG.out; omega
   go_wp2
   go_roundg (gk - 1)
   case rel => exact ⟨j1,rfl,by have:=HJ.out; omega,by rw [HJ.out,Nat.succ_mul]; exact HN.out,((((HB2.out.setCell hge _).setCell hge _).setCell hge _).setCell hge _)⟩
   case measure => omega
  ·have hlti : ¬ (j : Int) < (l.length : Int):=by omega
   obtain rfl : j = l.length:=by omega
   go_wp2
   go_ret
   exact ⟨g,rfl,HO.out.all (zjr (f:=epL) (fun _ => rfl) l),HB.out⟩
theorem Tryz.infoTSm : (Tryz.prog.info? 104).map (fun i => (i.zero,i.size,i.bytes)) = some (some (.agg #[.int .i64 0,.string { data:=#[] },.int .i64 0]),3,32):=by kernel_rfl
set_option maxHeartbeats 800000 in
theorem zbik (x : Sm) (w : World) :
  Calls Tryz.prog 67 #[.agg #[.int .i64 x.kind,.string x.name,.int .i64 x.expr]] w fun e w' => e = .returned (.agg #[.int .i64 x.kind,.string x.name,.int .i64 x.expr]) ∧ Below w.heap.size w w':=by
 go_enter Tryz.func67,Tryz.ntmps67
 go_wp2
 refine bodyPost_ret (results_cell_row rfl _ _ (w.heap.size + 1) 104 #[.int .i64 x.kind,.string x.name,.int .i64 x.expr] (0,0) _ rfl ?_ Tryz.underlying104 rfl (by kernel_rfl)) rfl ?_
 ·rw [heap_alloc_old _ _ (by show _ < ((w.heap.push _).push _).size; simp)]
  exact heap_alloc2_new w _ _
 ·exact ⟨rfl,(((Below.refl _ _).alloc (Nat.le_refl _) _).alloc (by show _ ≤ (w.heap.push _).size; simp) _).alloc (by show _ ≤ ((w.heap.push _).push _).size; simp; omega) _⟩
set_option maxRecDepth 100000 in
set_option maxHeartbeats 3200000 in
theorem zbfo (a : Option Addr) (cap : Nat) (l : List Sm) (w : World) (hr : RowAt w a smL 3 l) (hl : l.length ≤ 1048576) :
  Calls Tryz.prog 31 #[.slice a l.length cap] w fun e w' => zrp w 104 3 l.length (l.flatMap smL) e w':=by
 have HR:=hidI hr
 clear hr
 obtain ⟨i0,hi,hz0,hz1,hz2⟩:=info_parts Tryz.infoTSm
 go_enter Tryz.func31,Tryz.ntmps31
 go_wp2_with (first | (at_make; refine wpList_make_full w rfl _ _ 33 rfl w.heap.size 104 i0 _ 3 Tryz.underlying33 hi hz0 hz1 .i64 .i64 _ _ l.length (by rfl) (by rfl) rfl rfl (by rw [hz2]; omega) (by unfold maxLen; omega) (Nat.le_refl _) ?_))
 intro w1 hown1 hgr1
 have HB1:=hidI ((Below.refl _ _).grown hgr1 (Nat.le_refl _) (fun k h => by cases h) : Below w.heap.size w w1)
 have HO1 : Hid (OwnC w1 w.heap.size 104 3 w.heap.size l.length (l.flatMap smL) 0):=⟨_,hown1,fun j hj => absurd hj (Nat.not_lt_zero j)⟩
 clear hown1 hgr1
 obtain ⟨g,hg⟩ : ∃ g,g = w.heap.size:=⟨_,rfl⟩
 have HGG:=hidI hg
 rw [← hg]
 rw [← hg] at HO1
 have HOB : Hid (OwnC w1 w.heap.size 104 3 g l.length (l.flatMap smL) 0):=by rw [← hg]; exact HO1.out
 clear hg HO1
 go_wp2
 go_loopg [4] l.length (fun k i wr => ∃ j : Nat,i = .int .i64 j ∧ j + k = l.length ∧ OwnC wr w.heap.size 104 3 g l.length (l.flatMap smL) (j * 3) ∧ Below w.heap.size w wr)
 case atStart => exact ⟨0,rfl,by omega,HOB.out,HB1.out⟩
 case round =>
  obtain ⟨j,rfl,hj,ho,hb⟩:=hrel
  have HO:=hidI ho
  have HB:=hidI hb
  clear ho hb
  by_cases hlt : j < l.length
  ·have hlti : (j : Int) < (l.length : Int):=by omega
   obtain ⟨x,hx⟩ : ∃ x,l[j]? = some x:=⟨_,List.getElem?_eq_getElem hlt⟩
   obtain ⟨b,off,rfl,hc⟩:=(HR.out.later HB.out).get hx
   have HX:=hidI hx
   clear hx
   have c0:=hc 0 _ rfl
   have c1:=hc 1 _ rfl
   have c2:=hc 2 _ rfl
   simp only [Nat.add_zero] at c0
   clear hc
   obtain ⟨j1,hj1⟩ : ∃ j1,j1 = j + 1:=⟨_,rfl⟩
   have ej : (j : Int) + 1 = (j1 : Int):=by omega
   have HJ:=hidI hj1
   clear hj1
   go_wp2_with fail
   refine (zbik x _).mono ?_
   rintro e w2 ⟨rfl,hb2⟩
   have HO2:=hidI (HO.out.later hb2)
   have HB2:=hidI (HB.out.trans (hb2.mono HB.out.size))
   clear hb2 c0 c1 c2
   obtain ⟨v0,g0⟩:=HO2.out.has (j * 3) (by omega)
   have f0:=HO2.out.free (j * 3)
   obtain ⟨v1,g1⟩:=HO2.out.has (j * 3 + 1) (by omega)
   have f1:=HO2.out.free (j * 3 + 1)
   obtain ⟨v2,g2⟩:=HO2.out.has (j * 3 + 2) (by omega)
   have f2:=HO2.out.free (j * 3 + 2)
   have HN:=hidI (((HO2.out.put (by omega) (zdw (f:=smL) (m:=3) (fun _ => rfl) l j x 0 _ HX.out rfl)).put (by omega) (zdw (f:=smL) (m:=3) (fun _ => rfl) l j x 1 _ HX.out rfl)).put (by omega) (zdw (f:=smL) (m:=3) (fun _ => rfl) l j x 2 _ HX.out rfl))
   have hge : w.heap.size ≤ g:=by have:=HGG.out; omega
   go_wp2
   go_roundg (gk - 1)
   case rel => exact ⟨j1,rfl,by have:=HJ.out; omega,by rw [HJ.out,Nat.succ_mul]; exact HN.out,(((HB2.out.setCell hge _).setCell hge _).setCell hge _)⟩
   case measure => omega
  ·have hlti : ¬ (j : Int) < (l.length : Int):=by omega
   obtain rfl : j = l.length:=by omega
   go_wp2
   go_ret
   exact ⟨g,rfl,HO.out.all (zjr (f:=smL) (fun _ => rfl) l),HB.out⟩
theorem Tryz.infoTEx : (Tryz.prog.info? 106).map (fun i => (i.zero,i.size,i.bytes)) = some (some (.agg #[.int .i64 0,.int .i64 0,.string { data:=#[] },.string { data:=#[] },.int .i64 0,.int .i64 0]),6,64):=by kernel_rfl
set_option maxHeartbeats 800000 in
theorem zbil (x : Ex) (w : World) :
  Calls Tryz.prog 68 #[.agg #[.int .i64 x.kind,.int .i64 x.num,.string x.name,.string x.field,.int .i64 x.l,.int .i64 x.r]] w fun e w' => e = .returned (.agg #[.int .i64 x.kind,.int .i64 x.num,.string x.name,.string x.field,.int .i64 x.l,.int .i64 x.r]) ∧ Below w.heap.size w w':=by
 go_enter Tryz.func68,Tryz.ntmps68
 go_wp2
 refine bodyPost_ret (results_cell_row rfl _ _ (w.heap.size + 1) 106 #[.int .i64 x.kind,.int .i64 x.num,.string x.name,.string x.field,.int .i64 x.l,.int .i64 x.r] (0,0) _ rfl ?_ Tryz.underlying106 rfl (by kernel_rfl)) rfl ?_
 ·rw [heap_alloc_old _ _ (by show _ < ((w.heap.push _).push _).size; simp)]
  exact heap_alloc2_new w _ _
 ·exact ⟨rfl,(((Below.refl _ _).alloc (Nat.le_refl _) _).alloc (by show _ ≤ (w.heap.push _).size; simp) _).alloc (by show _ ≤ ((w.heap.push _).push _).size; simp; omega) _⟩
set_option maxRecDepth 100000 in
set_option maxHeartbeats 3200000 in
theorem zbfp (a : Option Addr) (cap : Nat) (l : List Ex) (w : World) (hr : RowAt w a exL 6 l) (hl : l.length ≤ 1048576) :
  Calls Tryz.prog 32 #[.slice a l.length cap] w fun e w' => zrp w 106 6 l.length (l.flatMap exL) e w':=by
 have HR:=hidI hr
 clear hr
 obtain ⟨i0,hi,hz0,hz1,hz2⟩:=info_parts Tryz.infoTEx
 go_enter Tryz.func32,Tryz.ntmps32
 go_wp2_with (first | (at_make; refine wpList_make_full w rfl _ _ 34 rfl w.heap.size 106 i0 _ 6 Tryz.underlying34 hi hz0 hz1 .i64 .i64 _ _ l.length (by rfl) (by rfl) rfl rfl (by rw [hz2]; omega) (by unfold maxLen; omega) (Nat.le_refl _) ?_))
 intro w1 hown1 hgr1
 have HB1:=hidI ((Below.refl _ _).grown hgr1 (Nat.le_refl _) (fun k h => by cases h) : Below w.heap.size w w1)
 have HO1 : Hid (OwnC w1 w.heap.size 106 6 w.heap.size l.length (l.flatMap exL) 0):=⟨_,hown1,fun j hj => absurd hj (Nat.not_lt_zero j)⟩
 clear hown1 hgr1
 obtain ⟨g,hg⟩ : ∃ g,g = w.heap.size:=⟨_,rfl⟩
 have HGG:=hidI hg
 rw [← hg]
 rw [← hg] at HO1
 have HOB : Hid (OwnC w1 w.heap.size 106 6 g l.length (l.flatMap exL) 0):=by rw [← hg]; exact HO1.out
 clear hg HO1
 go_wp2
 go_loopg [4] l.length (fun k i wr => ∃ j : Nat,i = .int .i64 j ∧ j + k = l.length ∧ OwnC wr w.heap.size 106 6 g l.length (l.flatMap exL) (j * 6) ∧ Below w.heap.size w wr)
 case atStart => exact ⟨0,rfl,by omega,HOB.out,HB1.out⟩
 case round =>
  obtain ⟨j,rfl,hj,ho,hb⟩:=hrel
  have HO:=hidI ho
  have HB:=hidI hb
  clear ho hb
  by_cases hlt : j < l.length
  ·have hlti : (j : Int) < (l.length : Int):=by omega
   obtain ⟨x,hx⟩ : ∃ x,l[j]? = some x:=⟨_,List.getElem?_eq_getElem hlt⟩
   obtain ⟨b,off,rfl,hc⟩:=(HR.out.later HB.out).get hx
   have HX:=hidI hx
   clear hx
   have c0:=hc 0 _ rfl
   have c1:=hc 1 _ rfl
   have c2:=hc 2 _ rfl
   have c3:=hc 3 _ rfl
   have c4:=hc 4 _ rfl
   have c5:=hc 5 _ rfl
   simp only [Nat.add_zero] at c0
   clear hc
   obtain ⟨j1,hj1⟩ : ∃ j1,j1 = j + 1:=⟨_,rfl⟩
   have ej : (j : Int) + 1 = (j1 : Int):=by omega
   have HJ:=hidI hj1
   clear hj1
   go_wp2_with fail
   refine (zbil x _).mono ?_
   rintro e w2 ⟨rfl,hb2⟩
   have HO2:=hidI (HO.out.later hb2)
   have HB2:=hidI (HB.out.trans (hb2.mono HB.out.size))
   clear hb2 c0 c1 c2 c3 c4 c5
   obtain ⟨v0,g0⟩:=HO2.out.has (j * 6) (by omega)
   have f0:=HO2.out.free (j * 6)
   obtain ⟨v1,g1⟩:=HO2.out.has (j * 6 + 1) (by omega)
   have f1:=HO2.out.free (j * 6 + 1)
   obtain ⟨v2,g2⟩:=HO2.out.has (j * 6 + 2) (by omega)
   have f2:=HO2.out.free (j * 6 + 2)
   obtain ⟨v3,g3⟩:=HO2.out.has (j * 6 + 3) (by omega)
   have f3:=HO2.out.free (j * 6 + 3)
   obtain ⟨v4,g4⟩:=HO2.out.has (j * 6 + 4) (by omega)
   have f4:=HO2.out.free (j * 6 + 4)
   obtain ⟨v5,g5⟩:=HO2.out.has (j * 6 + 5) (by omega)
   have f5:=HO2.out.free (j * 6 + 5)
   have HN:=hidI ((((((HO2.out.put (by omega) (zdw (f:=exL) (m:=6) (fun _ => rfl) l j x 0 _ HX.out rfl)).put (by omega) (zdw (f:=exL) (m:=6) (fun _ => rfl) l j x 1 _ HX.out rfl)).put (by omega) (zdw (f:=exL) (m:=6) (fun _ => rfl) l j x 2 _ HX.out rfl)).put (by omega) (zdw (f:=exL) (m:=6) (fun _ => rfl) l j x 3 _ HX.out rfl)).put (by omega) (zdw (f:=exL) (m:=6) (fun _ => rfl) l j x 4 _ HX.out rfl)).put (by omega) (zdw (f:=exL) (m:=6) (fun _ => rfl) l j x 5 _ HX.out rfl))
   have hge : w.heap.size ≤ g:=by have:=HGG.out; omega
   go_wp2
   go_roundg (gk - 1)
   case rel => exact ⟨j1,rfl,by have:=HJ.out; omega,by rw [HJ.out,Nat.succ_mul]; exact HN.out,((((((HB2.out.setCell hge _).setCell hge _).setCell hge _).setCell hge _).setCell hge _).setCell hge _)⟩
   case measure => omega
  ·have hlti : ¬ (j : Int) < (l.length : Int):=by omega
   obtain rfl : j = l.length:=by omega
   go_wp2
   go_ret
   exact ⟨g,rfl,HO.out.all (zjr (f:=exL) (fun _ => rfl) l),HB.out⟩
end Go.Proofs.YtgchhhmfloemlaaGreat
namespace Go.Proofs.YtgchhhmfloemlaaGreat
open Go.RowKit Go.PlainAid Go.Sort

theorem zbfq (l : List ByteArray) : l.map Value.string = l.flatMap (fun x => [Value.string x]):=by
 induction l with
 | nil => rfl
 | cons x l ih => rw [List.map_cons,List.flatMap_cons,ih]; rfl
/-- A program made anew. -/
def zbim (w : World) (m : Md) (e : Ending) (w' : World) : Prop:=∃ S,e = .returned (modD S m) ∧ OwnMd w' w.heap.size S m ∧ Below w.heap.size w w'
theorem zcj {w : World} {base size n c i : Nat} {e : TypeId} {r : Rw} {xs : List Value} {u : Value} {cs : Array Value} (h : OwnR w base e size r n xs) (hc : w.heap[c]? = some (.cells cs 36 (0,0))) (he : e ≠ 36) : OwnR (w.setCell ⟨c,i,none⟩ u) base e size r n xs :=
 h.keep fun k g => heap_setCell_other w ⟨c,i,none⟩ k u fun eq => by
  obtain ⟨_,_,cur,hk⟩:=h.typed g
  simp only at eq
  rw [eq,hc] at hk
  simp only [Option.some.injEq,Obj.cells.injEq] at hk
  exact he hk.2.1.symm
abbrev set5 (w : World) (b : Nat) (x0 x1 x2 x3 x4 : Value) : World:=((((w.setCell ⟨b,0,none⟩ x0).setCell ⟨b,1,none⟩ x1).setCell ⟨b,2,none⟩ x2).setCell ⟨b,3,none⟩ x3).setCell ⟨b,4,none⟩ x4
theorem zis {w : World} {base size n c : Nat} {e : TypeId} {r : Rw} {xs : List Value} {v0 v1 v2 v3 v4 x0 x1 x2 x3 x4 : Value} (h : OwnR w base e size r n xs) (hc : w.heap[c]? = some (.cells #[v0,v1,v2,v3,v4] 36 (0,0))) (he : e ≠ 36) : OwnR (set5 w c x0 x1 x2 x3 x4) base e size r n xs:=by
 have h0:=zcr (i:=0) (u:=x0) hc
 have h1:=zcr (i:=1) (u:=x1) h0
 have h2:=zcr (i:=2) (u:=x2) h1
 have h3:=zcr (i:=3) (u:=x3) h2
 exact zcj (zcj (zcj (zcj (zcj h hc he) h0 he) h1 he) h2 he) h3 he
set_option maxRecDepth 100000 in
set_option maxHeartbeats 6400000 in
theorem zok (A : MA) (m : Md) (w : World) (hr : ModIn w A m) (f1 : m.rq.length ≤ 1048576) (f2 : m.im.length ≤ 1048576) (f3 : m.ep.length ≤ 1048576) (f4 : m.st.length ≤ 1048576) (f5 : m.ex.length ≤ 1048576) :
  Calls Tryz.prog 8 #[modA A m] w fun e w' => zbim w m e w':=by
 have HR:=hidI hr
 clear hr
 unfold modA
 go_enter Tryz.func8,Tryz.ntmps8
 go_upto_region 2 with fail
 obtain ⟨gx,hgx⟩ : ∃ gx,gx = w.heap.size:=⟨_,rfl⟩
 rw [← hgx]
 refine zv (R:=(fun W => W.heap[gx]? = some (.cells #[.slice A.a0 m.rq.length A.c0,.slice A.a1 m.im.length A.c1,.slice A.a2 m.ep.length A.c2,.slice A.a3 m.st.length A.c3,.slice A.a4 m.ex.length A.c4] 28 (0,0)) ∧ W.heap[gx + 1]? = some (.cells #[.slice none 0 0,.slice none 0 0,.slice none 0 0,.slice none 0 0,.slice none 0 0] 36 (0,0)) ∧ W.heap[gx + 2]? = some (.cells #[.slice none 0 0,.slice none 0 0,.slice none 0 0,.slice none 0 0,.slice none 0 0] 36 (0,0)) ∧ Below w.heap.size w W)) ?_ ?_
 ·rw [hgx]
  refine ⟨?_,?_,?_,?_⟩
  ·rw [heap_alloc_old _ _ (by show _ < ((w.heap.push _).push _).size; simp; omega),heap_alloc_old _ _ (by show _ < (w.heap.push _).size; simp)]
   exact heap_alloc_new w _
  ·rw [heap_alloc_old _ _ (by show _ < ((w.heap.push _).push _).size; simp)]
   exact heap_alloc2_new w _ _
  ·have:=heap_alloc_new ((w.alloc (.cells #[.slice A.a0 m.rq.length A.c0,.slice A.a1 m.im.length A.c1,.slice A.a2 m.ep.length A.c2,.slice A.a3 m.st.length A.c3,.slice A.a4 m.ex.length A.c4] 28)).alloc (.cells #[.slice none 0 0,.slice none 0 0,.slice none 0 0,.slice none 0 0,.slice none 0 0] 36)) (.cells #[.slice none 0 0,.slice none 0 0,.slice none 0 0,.slice none 0 0,.slice none 0 0] 36)
   simp only [ze] at this
   exact this
  ·exact (((Below.refl _ _).alloc (Nat.le_refl _) _).alloc (by show _ ≤ (w.heap.push _).size; simp) _).alloc (by show _ ≤ ((w.heap.push _).push _).size; simp; omega) _
 have hge : w.heap.size ≤ gx + 2:=by omega
 have hge1 : w.heap.size ≤ gx + 1:=by omega
 clear hgx
 rintro W0 ⟨hx,hy,hz,hb⟩
 have X:=hidI hx
 have Y:=hidI hy
 have Z:=hidI hz
 have HB:=hidI hb
 clear hx hy hz hb
 obtain ⟨c0,c1,c2,c3,c4,cf⟩:=zi X.out
 go_wp2_with fail
 refine (zbcj A.a0 A.c0 m.rq W0 (HR.out.later HB.out).1 f1).mono ?_
 rintro e V0 ⟨g0,rfl,hown,hb⟩
 have X2:=hidI ((hb.block _ (Array.getElem?_eq_some_iff.1 X.out).1).trans X.out)
 have Y2:=hidI ((hb.block _ (Array.getElem?_eq_some_iff.1 Y.out).1).trans Y.out)
 have Z2:=hidI ((hb.block _ (Array.getElem?_eq_some_iff.1 Z.out).1).trans Z.out)
 have HB2:=hidI (HB.out.trans (hb.mono HB.out.size))
 have P0:=hidI (hown.low HB.out.size)
 clear hown hb c0 c1 c2 c3 c4 cf X Y Z HB
 obtain ⟨c0,c1,c2,c3,c4,cf⟩:=zi Z2.out
 go_upto_region 3 with fail
 refine zv (R:=(fun W => W.heap[gx]? = some (.cells #[.slice A.a0 m.rq.length A.c0,.slice A.a1 m.im.length A.c1,.slice A.a2 m.ep.length A.c2,.slice A.a3 m.st.length A.c3,.slice A.a4 m.ex.length A.c4] 28 (0,0)) ∧ W.heap[gx + 1]? = some (.cells #[.slice none 0 0,.slice none 0 0,.slice none 0 0,.slice none 0 0,.slice none 0 0] 36 (0,0)) ∧ W.heap[gx + 2]? = some (.cells #[.slice (some ⟨g0,0,none⟩) m.rq.length m.rq.length,.slice none 0 0,.slice none 0 0,.slice none 0 0,.slice none 0 0] 36 (0,0)) ∧ Below w.heap.size w W ∧ OwnR W w.heap.size 9 1 ⟨some ⟨g0,0,none⟩,m.rq.length⟩ m.rq.length (m.rq.flatMap (fun x => [Value.string x])))) ⟨(heap_setCell_other _ _ _ _ (by show gx ≠ gx + 2; omega)).trans X2.out,(heap_setCell_other _ _ _ _ (by show gx + 1 ≠ gx + 2; omega)).trans Y2.out,(zcr Z2.out).trans (by simp),HB2.out.setCell hge _,zcj P0.out Z2.out (by decide)⟩ ?_
 clear X2 Y2 Z2 HB2 c0 c1 c2 c3 c4 cf P0
 rintro W1 ⟨hx,hy,hz,hb,o0⟩
 have X:=hidI hx
 have Y:=hidI hy
 have Z:=hidI hz
 have HB:=hidI hb
 have O0:=hidI o0
 clear hx hy hz hb o0
 obtain ⟨c0,c1,c2,c3,c4,cf⟩:=zi X.out
 go_wp2_with fail
 refine (zbfm A.a1 A.c1 m.im W1 (HR.out.later HB.out).2.1 f2).mono ?_
 rintro e V1 ⟨g1,rfl,hown,hb⟩
 have X2:=hidI ((hb.block _ (Array.getElem?_eq_some_iff.1 X.out).1).trans X.out)
 have Y2:=hidI ((hb.block _ (Array.getElem?_eq_some_iff.1 Y.out).1).trans Y.out)
 have Z2:=hidI ((hb.block _ (Array.getElem?_eq_some_iff.1 Z.out).1).trans Z.out)
 have HB2:=hidI (HB.out.trans (hb.mono HB.out.size))
 have P0:=hidI (O0.out.keep fun k g => hb.block k (O0.out.typed g).2.1)
 have P1:=hidI (hown.low HB.out.size)
 clear hown hb c0 c1 c2 c3 c4 cf X Y Z HB O0
 obtain ⟨c0,c1,c2,c3,c4,cf⟩:=zi Z2.out
 go_upto_region 4 with fail
 refine zv (R:=(fun W => W.heap[gx]? = some (.cells #[.slice A.a0 m.rq.length A.c0,.slice A.a1 m.im.length A.c1,.slice A.a2 m.ep.length A.c2,.slice A.a3 m.st.length A.c3,.slice A.a4 m.ex.length A.c4] 28 (0,0)) ∧ W.heap[gx + 1]? = some (.cells #[.slice none 0 0,.slice none 0 0,.slice none 0 0,.slice none 0 0,.slice none 0 0] 36 (0,0)) ∧ W.heap[gx + 2]? = some (.cells #[.slice (some ⟨g0,0,none⟩) m.rq.length m.rq.length,.slice (some ⟨g1,0,none⟩) m.im.length m.im.length,.slice none 0 0,.slice none 0 0,.slice none 0 0] 36 (0,0)) ∧ Below w.heap.size w W ∧ OwnR W w.heap.size 9 1 ⟨some ⟨g0,0,none⟩,m.rq.length⟩ m.rq.length (m.rq.flatMap (fun x => [Value.string x])) ∧ OwnR W w.heap.size 100 3 ⟨some ⟨g1,0,none⟩,m.im.length⟩ m.im.length (m.im.flatMap imL))) ⟨(heap_setCell_other _ _ _ _ (by show gx ≠ gx + 2; omega)).trans X2.out,(heap_setCell_other _ _ _ _ (by show gx + 1 ≠ gx + 2; omega)).trans Y2.out,(zcr Z2.out).trans (by simp),HB2.out.setCell hge _,zcj P0.out Z2.out (by decide),zcj P1.out Z2.out (by decide)⟩ ?_
 clear X2 Y2 Z2 HB2 c0 c1 c2 c3 c4 cf P0 P1
 rintro W2 ⟨hx,hy,hz,hb,o0,o1⟩
 have X:=hidI hx
 have Y:=hidI hy
 have Z:=hidI hz
 have HB:=hidI hb
 have O0:=hidI o0
 have O1:=hidI o1
 clear hx hy hz hb o0 o1
 obtain ⟨c0,c1,c2,c3,c4,cf⟩:=zi X.out
 go_wp2_with fail
 refine (zbfn A.a2 A.c2 m.ep W2 (HR.out.later HB.out).2.2.1 f3).mono ?_
 rintro e V2 ⟨g2,rfl,hown,hb⟩
 have X2:=hidI ((hb.block _ (Array.getElem?_eq_some_iff.1 X.out).1).trans X.out)
 have Y2:=hidI ((hb.block _ (Array.getElem?_eq_some_iff.1 Y.out).1).trans Y.out)
 have Z2:=hidI ((hb.block _ (Array.getElem?_eq_some_iff.1 Z.out).1).trans Z.out)
 have HB2:=hidI (HB.out.trans (hb.mono HB.out.size))
 have P0:=hidI (O0.out.keep fun k g => hb.block k (O0.out.typed g).2.1)
 have P1:=hidI (O1.out.keep fun k g => hb.block k (O1.out.typed g).2.1)
 have P2:=hidI (hown.low HB.out.size)
 clear hown hb c0 c1 c2 c3 c4 cf X Y Z HB O0 O1
 obtain ⟨c0,c1,c2,c3,c4,cf⟩:=zi Z2.out
 go_upto_region 5 with fail
 refine zv (R:=(fun W => W.heap[gx]? = some (.cells #[.slice A.a0 m.rq.length A.c0,.slice A.a1 m.im.length A.c1,.slice A.a2 m.ep.length A.c2,.slice A.a3 m.st.length A.c3,.slice A.a4 m.ex.length A.c4] 28 (0,0)) ∧ W.heap[gx + 1]? = some (.cells #[.slice none 0 0,.slice none 0 0,.slice none 0 0,.slice none 0 0,.slice none 0 0] 36 (0,0)) ∧ W.heap[gx + 2]? = some (.cells #[.slice (some ⟨g0,0,none⟩) m.rq.length m.rq.length,.slice (some ⟨g1,0,none⟩) m.im.length m.im.length,.slice (some ⟨g2,0,none⟩) m.ep.length m.ep.length,.slice none 0 0,.slice none 0 0] 36 (0,0)) ∧ Below w.heap.size w W ∧ OwnR W w.heap.size 9 1 ⟨some ⟨g0,0,none⟩,m.rq.length⟩ m.rq.length (m.rq.flatMap (fun x => [Value.string x])) ∧ OwnR W w.heap.size 100 3 ⟨some ⟨g1,0,none⟩,m.im.length⟩ m.im.length (m.im.flatMap imL) ∧ OwnR W w.heap.size 102 4 ⟨some ⟨g2,0,none⟩,m.ep.length⟩ m.ep.length (m.ep.flatMap epL))) ⟨(heap_setCell_other _ _ _ _ (by show gx ≠ gx + 2; omega)).trans X2.out,(heap_setCell_other _ _ _ _ (by show gx + 1 ≠ gx + 2; omega)).trans Y2.out,(zcr Z2.out).trans (by simp),HB2.out.setCell hge _,zcj P0.out Z2.out (by decide),zcj P1.out Z2.out (by decide),zcj P2.out Z2.out (by decide)⟩ ?_
 clear X2 Y2 Z2 HB2 c0 c1 c2 c3 c4 cf P0 P1 P2
 rintro W3 ⟨hx,hy,hz,hb,o0,o1,o2⟩
 have X:=hidI hx
 have Y:=hidI hy
 have Z:=hidI hz
 have HB:=hidI hb
 have O0:=hidI o0
 have O1:=hidI o1
 have O2:=hidI o2
 clear hx hy hz hb o0 o1 o2
 obtain ⟨c0,c1,c2,c3,c4,cf⟩:=zi X.out
 go_wp2_with fail
 refine (zbfo A.a3 A.c3 m.st W3 (HR.out.later HB.out).2.2.2.1 f4).mono ?_
 rintro e V3 ⟨g3,rfl,hown,hb⟩
 have X2:=hidI ((hb.block _ (Array.getElem?_eq_some_iff.1 X.out).1).trans X.out)
 have Y2:=hidI ((hb.block _ (Array.getElem?_eq_some_iff.1 Y.out).1).trans Y.out)
 have Z2:=hidI ((hb.block _ (Array.getElem?_eq_some_iff.1 Z.out).1).trans Z.out)
 have HB2:=hidI (HB.out.trans (hb.mono HB.out.size))
 have P0:=hidI (O0.out.keep fun k g => hb.block k (O0.out.typed g).2.1)
 have P1:=hidI (O1.out.keep fun k g => hb.block k (O1.out.typed g).2.1)
 have P2:=hidI (O2.out.keep fun k g => hb.block k (O2.out.typed g).2.1)
 have P3:=hidI (hown.low HB.out.size)
 clear hown hb c0 c1 c2 c3 c4 cf X Y Z HB O0 O1 O2
 obtain ⟨c0,c1,c2,c3,c4,cf⟩:=zi Z2.out
 go_upto_region 6 with fail
 refine zv (R:=(fun W => W.heap[gx]? = some (.cells #[.slice A.a0 m.rq.length A.c0,.slice A.a1 m.im.length A.c1,.slice A.a2 m.ep.length A.c2,.slice A.a3 m.st.length A.c3,.slice A.a4 m.ex.length A.c4] 28 (0,0)) ∧ W.heap[gx + 1]? = some (.cells #[.slice none 0 0,.slice none 0 0,.slice none 0 0,.slice none 0 0,.slice none 0 0] 36 (0,0)) ∧ W.heap[gx + 2]? = some (.cells #[.slice (some ⟨g0,0,none⟩) m.rq.length m.rq.length,.slice (some ⟨g1,0,none⟩) m.im.length m.im.length,.slice (some ⟨g2,0,none⟩) m.ep.length m.ep.length,.slice (some ⟨g3,0,none⟩) m.st.length m.st.length,.slice none 0 0] 36 (0,0)) ∧ Below w.heap.size w W ∧ OwnR W w.heap.size 9 1 ⟨some ⟨g0,0,none⟩,m.rq.length⟩ m.rq.length (m.rq.flatMap (fun x => [Value.string x])) ∧ OwnR W w.heap.size 100 3 ⟨some ⟨g1,0,none⟩,m.im.length⟩ m.im.length (m.im.flatMap imL) ∧ OwnR W w.heap.size 102 4 ⟨some ⟨g2,0,none⟩,m.ep.length⟩ m.ep.length (m.ep.flatMap epL) ∧ OwnR W w.heap.size 104 3 ⟨some ⟨g3,0,none⟩,m.st.length⟩ m.st.length (m.st.flatMap smL))) ⟨(heap_setCell_other _ _ _ _ (by show gx ≠ gx + 2; omega)).trans X2.out,(heap_setCell_other _ _ _ _ (by show gx + 1 ≠ gx + 2; omega)).trans Y2.out,(zcr Z2.out).trans (by simp),HB2.out.setCell hge _,zcj P0.out Z2.out (by decide),zcj P1.out Z2.out (by decide),zcj P2.out Z2.out (by decide),zcj P3.out Z2.out (by decide)⟩ ?_
 clear X2 Y2 Z2 HB2 c0 c1 c2 c3 c4 cf P0 P1 P2 P3
 rintro W4 ⟨hx,hy,hz,hb,o0,o1,o2,o3⟩
 have X:=hidI hx
 have Y:=hidI hy
 have Z:=hidI hz
 have HB:=hidI hb
 have O0:=hidI o0
 have O1:=hidI o1
 have O2:=hidI o2
 have O3:=hidI o3
 clear hx hy hz hb o0 o1 o2 o3
 obtain ⟨c0,c1,c2,c3,c4,cf⟩:=zi X.out
 go_wp2_with fail
 refine (zbfp A.a4 A.c4 m.ex W4 (HR.out.later HB.out).2.2.2.2 f5).mono ?_
 rintro e V4 ⟨g4,rfl,hown,hb⟩
 have X2:=hidI ((hb.block _ (Array.getElem?_eq_some_iff.1 X.out).1).trans X.out)
 have Y2:=hidI ((hb.block _ (Array.getElem?_eq_some_iff.1 Y.out).1).trans Y.out)
 have Z2:=hidI ((hb.block _ (Array.getElem?_eq_some_iff.1 Z.out).1).trans Z.out)
 have HB2:=hidI (HB.out.trans (hb.mono HB.out.size))
 have P0:=hidI (O0.out.keep fun k g => hb.block k (O0.out.typed g).2.1)
 have P1:=hidI (O1.out.keep fun k g => hb.block k (O1.out.typed g).2.1)
 have P2:=hidI (O2.out.keep fun k g => hb.block k (O2.out.typed g).2.1)
 have P3:=hidI (O3.out.keep fun k g => hb.block k (O3.out.typed g).2.1)
 have P4:=hidI (hown.low HB.out.size)
 clear hown hb c0 c1 c2 c3 c4 cf X Y Z HB O0 O1 O2 O3
 obtain ⟨c0,c1,c2,c3,c4,cf⟩:=zi Z2.out
 go_upto_region 7 with fail
 refine zv (R:=(fun W => W.heap[gx]? = some (.cells #[.slice A.a0 m.rq.length A.c0,.slice A.a1 m.im.length A.c1,.slice A.a2 m.ep.length A.c2,.slice A.a3 m.st.length A.c3,.slice A.a4 m.ex.length A.c4] 28 (0,0)) ∧ W.heap[gx + 1]? = some (.cells #[.slice none 0 0,.slice none 0 0,.slice none 0 0,.slice none 0 0,.slice none 0 0] 36 (0,0)) ∧ W.heap[gx + 2]? = some (.cells #[.slice (some ⟨g0,0,none⟩) m.rq.length m.rq.length,.slice (some ⟨g1,0,none⟩) m.im.length m.im.length,.slice (some ⟨g2,0,none⟩) m.ep.length m.ep.length,.slice (some ⟨g3,0,none⟩) m.st.length m.st.length,.slice (some ⟨g4,0,none⟩) m.ex.length m.ex.length] 36 (0,0)) ∧ Below w.heap.size w W ∧ OwnR W w.heap.size 9 1 ⟨some ⟨g0,0,none⟩,m.rq.length⟩ m.rq.length (m.rq.flatMap (fun x => [Value.string x])) ∧ OwnR W w.heap.size 100 3 ⟨some ⟨g1,0,none⟩,m.im.length⟩ m.im.length (m.im.flatMap imL) ∧ OwnR W w.heap.size 102 4 ⟨some ⟨g2,0,none⟩,m.ep.length⟩ m.ep.length (m.ep.flatMap epL) ∧ OwnR W w.heap.size 104 3 ⟨some ⟨g3,0,none⟩,m.st.length⟩ m.st.length (m.st.flatMap smL) ∧ OwnR W w.heap.size 106 6 ⟨some ⟨g4,0,none⟩,m.ex.length⟩ m.ex.length (m.ex.flatMap exL))) ⟨(heap_setCell_other _ _ _ _ (by show gx ≠ gx + 2; omega)).trans X2.out,(heap_setCell_other _ _ _ _ (by show gx + 1 ≠ gx + 2; omega)).trans Y2.out,(zcr Z2.out).trans (by simp),HB2.out.setCell hge _,zcj P0.out Z2.out (by decide),zcj P1.out Z2.out (by decide),zcj P2.out Z2.out (by decide),zcj P3.out Z2.out (by decide),zcj P4.out Z2.out (by decide)⟩ ?_
 clear X2 Y2 Z2 HB2 c0 c1 c2 c3 c4 cf P0 P1 P2 P3 P4
 rintro W5 ⟨hx,hy,hz,hb,o0,o1,o2,o3,o4⟩
 have Y:=hidI hy
 have Z:=hidI hz
 have HB:=hidI hb
 have O0:=hidI o0
 have O1:=hidI o1
 have O2:=hidI o2
 have O3:=hidI o3
 have O4:=hidI o4
 clear hx hy hz hb o0 o1 o2 o3 o4
 obtain ⟨c0,c1,c2,c3,c4,cf⟩:=zi Z.out
 obtain ⟨d0,d1,d2,d3,d4,df⟩:=zi Y.out
 go_wp2
 refine bodyPost_ret (results_cell_row rfl _ _ (gx + 1) 36 #[.slice (some ⟨g0,0,none⟩) m.rq.length m.rq.length,.slice (some ⟨g1,0,none⟩) m.im.length m.im.length,.slice (some ⟨g2,0,none⟩) m.ep.length m.ep.length,.slice (some ⟨g3,0,none⟩) m.st.length m.st.length,.slice (some ⟨g4,0,none⟩) m.ex.length m.ex.length] (0,0) _ rfl ?_ Tryz.underlying36 rfl (by kernel_rfl)) rfl ?_
 ·exact put5 Y.out
 ·refine ⟨⟨⟨some ⟨g0,0,none⟩,m.rq.length⟩,⟨some ⟨g1,0,none⟩,m.im.length⟩,⟨some ⟨g2,0,none⟩,m.ep.length⟩,⟨some ⟨g3,0,none⟩,m.st.length⟩,⟨some ⟨g4,0,none⟩,m.ex.length⟩,⟨none,0⟩⟩,rfl,⟨?_,?_,?_,?_,?_⟩,((((HB.out.setCell hge1 _).setCell hge1 _).setCell hge1 _).setCell hge1 _).setCell hge1 _⟩
  ·rw [zbfq]
   exact zis O0.out Y.out (by decide)
  ·exact zis O1.out Y.out (by decide)
  ·exact zis O2.out Y.out (by decide)
  ·exact zis O3.out Y.out (by decide)
  ·exact zis O4.out Y.out (by decide)
end Go.Proofs.YtgchhhmfloemlaaGreat
