/-
  What the laws' size counters answer: the walks.
-/
import Derived.Test.YtdbpknmoacjodaaCkSrcRowToCostMath
import Derived.Deep.Cut
namespace Go.Proofs.Ytdbpknmoacjodaa
open Go.RowKit Go.PlainAid Go.Sort

def BigStr (x : ByteArray) : Prop := x.size ≤ 9223372036854775807
set_option maxRecDepth 100000 in
set_option maxHeartbeats 1600000 in
theorem szStrS_any (a : Option Addr) (cap : Nat) (l : List ByteArray) (left : Int) (w : World) (hr : RowAt w a (fun x => [Value.string x]) 1 l) (hl : l.length ≤ 9223372036854775807) (hb : ∀ x ∈ l, BigStr x) (h0 : 0 ≤ left) (h1 : left ≤ 1048576) :
    Calls Try.prog 45 #[.slice a l.length cap, .int .i64 left] w fun e w' => SzOut left (l.length + rowCost costStr l) e ∧ Below w.heap.size w w' := by
  have HR := hidI hr
  have HG := hidI hb
  clear hr hb
  by_cases hll : (l.length : Int) ≤ left
  case neg =>
    go_enter Try.func45, Try.ntmps45
    go_wp2
    go_ret
    exact ⟨⟨-1, rfl, by omega, by omega, fun h => by omega⟩, Below.refl _ _⟩
  go_enter Try.func45, Try.ntmps45
  go_wp2
  go_loopg [1, 5] l.length (fun k s1 s5 wr => ∃ (j : Nat) (z : Int), s5 = .int .i64 j ∧ s1 = .int .i64 z ∧ j + k = l.length ∧ 0 ≤ z ∧ z ≤ left ∧ z + ((l.length + rowCost costStr (l.take j) : Nat) : Int) = left ∧ Below w.heap.size w wr)
  case atStart => exact ⟨0, _, rfl, rfl, by omega, by omega, by omega, by simp [rowCost], Below.refl _ _⟩
  case round =>
    obtain ⟨j, z, rfl, rfl, hj, hz0, hz1, hz2, hb⟩ := hrel
    have HZ := hidI hz2
    have HB := hidI hb
    clear hz2 hb
    by_cases hlt : j < l.length
    · have hlti : (j : Int) < (l.length : Int) := by omega
      obtain ⟨x, hx⟩ : ∃ x, l[j]? = some x := ⟨_, List.getElem?_eq_getElem hlt⟩
      obtain ⟨b, off, rfl, hc⟩ := (HR.out.later HB.out).get hx
      have hbig := HG.out x (List.mem_of_getElem? hx)
      have HC := hidI (rowCost_succ costStr hx)
      have c0 := hc 0 _ rfl
      simp only [Nat.add_zero, Nat.mul_one] at c0
      clear hc hx
      obtain ⟨j1, hj1⟩ : ∃ j1, j1 = j + 1 := ⟨_, rfl⟩
      have ej : (j : Int) + 1 = (j1 : Int) := by omega
      have HJ := hidI hj1
      clear hj1
      unfold BigStr at hbig
      by_cases hz5 : 0 ≤ z - (x.size : Int)
      · go_wp2
        go_roundg (gk - 1)
        case rel => exact ⟨j1, _, rfl, rfl, by have := HJ.out; omega, hz5, by omega, by have := HZ.out; have : costStr x = x.size := rfl; rw [HJ.out, HC.out]; omega, HB.out⟩
        case measure => omega
      · go_wp2
        go_ret
        exact ⟨⟨-1, rfl, by omega, by omega, fun h => by omega⟩, HB.out⟩
    · have hlti : ¬ (j : Int) < (l.length : Int) := by omega
      obtain rfl : j = l.length := by omega
      go_wp2
      go_ret
      exact ⟨⟨z, rfl, by omega, hz1, fun _ => by have := HZ.out; rw [List.take_length] at this; exact this⟩, HB.out⟩
def BigIm (x : Im) : Prop := x.spec.size ≤ 9223372036854775807 ∧ x.first.size ≤ 9223372036854775807 ∧ x.loc.size ≤ 9223372036854775807
set_option maxHeartbeats 800000 in
theorem szIm_any (x : Im) (left : Int) (w : World) (hb : BigIm x) (h0 : 0 ≤ left) (h1 : left ≤ 1048576) :
    Calls Try.prog 115 #[.agg #[.string x.spec, .string x.first, .string x.loc], .int .i64 left] w fun e w' => SzOut left (costIm x) e ∧ Below w.heap.size w w' := by
  unfold BigIm at hb
  obtain ⟨b0, b1, b2⟩ := hb
  go_enter Try.func115, Try.ntmps115
  go_wp2
  · go_ret
    exact ⟨⟨-1, rfl, by omega, by omega, fun h => by omega⟩, (Below.refl _ _).alloc (Nat.le_refl _) _⟩
  · go_ret
    exact ⟨⟨-1, rfl, by omega, by omega, fun h => by omega⟩, (Below.refl _ _).alloc (Nat.le_refl _) _⟩
  · go_ret
    exact ⟨⟨-1, rfl, by omega, by omega, fun h => by omega⟩, (Below.refl _ _).alloc (Nat.le_refl _) _⟩
  · go_ret
    exact ⟨⟨_, rfl, by omega, by omega, fun _ => by unfold costIm; omega⟩, (Below.refl _ _).alloc (Nat.le_refl _) _⟩
set_option maxRecDepth 100000 in
set_option maxHeartbeats 1600000 in
theorem szImS_any (a : Option Addr) (cap : Nat) (l : List Im) (left : Int) (w : World) (hr : RowAt w a imL 3 l) (hl : l.length ≤ 9223372036854775807) (hb : ∀ x ∈ l, BigIm x) (h0 : 0 ≤ left) (h1 : left ≤ 1048576) :
    Calls Try.prog 46 #[.slice a l.length cap, .int .i64 left] w fun e w' => SzOut left (l.length + rowCost costIm l) e ∧ Below w.heap.size w w' := by
  have HR := hidI hr
  have HG := hidI hb
  clear hr hb
  by_cases hll : (l.length : Int) ≤ left
  case neg =>
    go_enter Try.func46, Try.ntmps46
    go_wp2
    go_ret
    exact ⟨⟨-1, rfl, by omega, by omega, fun h => by omega⟩, Below.refl _ _⟩
  go_enter Try.func46, Try.ntmps46
  go_wp2
  go_loopg [1, 5] l.length (fun k s1 s5 wr => ∃ (j : Nat) (z : Int), s5 = .int .i64 j ∧ s1 = .int .i64 z ∧ j + k = l.length ∧ 0 ≤ z ∧ z ≤ left ∧ z + ((l.length + rowCost costIm (l.take j) : Nat) : Int) = left ∧ Below w.heap.size w wr)
  case atStart => exact ⟨0, _, rfl, rfl, by omega, by omega, by omega, by simp [rowCost], Below.refl _ _⟩
  case round =>
    obtain ⟨j, z, rfl, rfl, hj, hz0, hz1, hz2, hb⟩ := hrel
    have HZ := hidI hz2
    have HB := hidI hb
    clear hz2 hb
    by_cases hlt : j < l.length
    · have hlti : (j : Int) < (l.length : Int) := by omega
      obtain ⟨x, hx⟩ : ∃ x, l[j]? = some x := ⟨_, List.getElem?_eq_getElem hlt⟩
      obtain ⟨b, off, rfl, hc⟩ := (HR.out.later HB.out).get hx
      have hbig := HG.out x (List.mem_of_getElem? hx)
      have HC := hidI (rowCost_succ costIm hx)
      have c0 := hc 0 _ rfl
      have c1 := hc 1 _ rfl
      have c2 := hc 2 _ rfl
      simp only [Nat.add_zero] at c0
      clear hc hx
      obtain ⟨j1, hj1⟩ : ∃ j1, j1 = j + 1 := ⟨_, rfl⟩
      have ej : (j : Int) + 1 = (j1 : Int) := by omega
      have HJ := hidI hj1
      clear hj1
      go_wp2_with fail
      refine (szIm_any x z _ hbig hz0 (by omega)).mono ?_
      rintro e w1 ⟨⟨z1, rfl, hz3, hz4, hz5⟩, hb1⟩
      have HB1 := hidI (HB.out.trans (hb1.mono HB.out.size))
      have HZ1 := hidI hz5
      clear hb1 hz5 hbig c0 c1 c2
      by_cases hz6 : 0 ≤ z1
      · go_wp2
        go_roundg (gk - 1)
        case rel => exact ⟨j1, z1, rfl, rfl, by have := HJ.out; omega, hz6, by omega, by have := HZ.out; have := HZ1.out hz6; rw [HJ.out, HC.out]; omega, HB1.out⟩
        case measure => omega
      · go_wp2
        go_ret
        exact ⟨⟨-1, rfl, by omega, by omega, fun h => by omega⟩, HB1.out⟩
    · have hlti : ¬ (j : Int) < (l.length : Int) := by omega
      obtain rfl : j = l.length := by omega
      go_wp2
      go_ret
      exact ⟨⟨z, rfl, by omega, hz1, fun _ => by have := HZ.out; rw [List.take_length] at this; exact this⟩, HB.out⟩
def BigEp (x : Ep) : Prop := x.name.size ≤ 9223372036854775807 ∧ x.loc.size ≤ 9223372036854775807 ∧ x.spec.size ≤ 9223372036854775807
set_option maxHeartbeats 800000 in
theorem szEp_any (x : Ep) (left : Int) (w : World) (hb : BigEp x) (h0 : 0 ≤ left) (h1 : left ≤ 1048576) :
    Calls Try.prog 116 #[.agg #[.int .i64 x.kind, .string x.name, .string x.loc, .string x.spec], .int .i64 left] w fun e w' => SzOut left (costEp x) e ∧ Below w.heap.size w w' := by
  unfold BigEp at hb
  obtain ⟨b0, b1, b2⟩ := hb
  go_enter Try.func116, Try.ntmps116
  go_wp2
  · go_ret
    exact ⟨⟨-1, rfl, by omega, by omega, fun h => by omega⟩, (Below.refl _ _).alloc (Nat.le_refl _) _⟩
  · go_ret
    exact ⟨⟨-1, rfl, by omega, by omega, fun h => by omega⟩, (Below.refl _ _).alloc (Nat.le_refl _) _⟩
  · go_ret
    exact ⟨⟨-1, rfl, by omega, by omega, fun h => by omega⟩, (Below.refl _ _).alloc (Nat.le_refl _) _⟩
  · go_ret
    exact ⟨⟨_, rfl, by omega, by omega, fun _ => by unfold costEp; omega⟩, (Below.refl _ _).alloc (Nat.le_refl _) _⟩
set_option maxRecDepth 100000 in
set_option maxHeartbeats 1600000 in
theorem szEpS_any (a : Option Addr) (cap : Nat) (l : List Ep) (left : Int) (w : World) (hr : RowAt w a epL 4 l) (hl : l.length ≤ 9223372036854775807) (hb : ∀ x ∈ l, BigEp x) (h0 : 0 ≤ left) (h1 : left ≤ 1048576) :
    Calls Try.prog 47 #[.slice a l.length cap, .int .i64 left] w fun e w' => SzOut left (l.length + rowCost costEp l) e ∧ Below w.heap.size w w' := by
  have HR := hidI hr
  have HG := hidI hb
  clear hr hb
  by_cases hll : (l.length : Int) ≤ left
  case neg =>
    go_enter Try.func47, Try.ntmps47
    go_wp2
    go_ret
    exact ⟨⟨-1, rfl, by omega, by omega, fun h => by omega⟩, Below.refl _ _⟩
  go_enter Try.func47, Try.ntmps47
  go_wp2
  go_loopg [1, 5] l.length (fun k s1 s5 wr => ∃ (j : Nat) (z : Int), s5 = .int .i64 j ∧ s1 = .int .i64 z ∧ j + k = l.length ∧ 0 ≤ z ∧ z ≤ left ∧ z + ((l.length + rowCost costEp (l.take j) : Nat) : Int) = left ∧ Below w.heap.size w wr)
  case atStart => exact ⟨0, _, rfl, rfl, by omega, by omega, by omega, by simp [rowCost], Below.refl _ _⟩
  case round =>
    obtain ⟨j, z, rfl, rfl, hj, hz0, hz1, hz2, hb⟩ := hrel
    have HZ := hidI hz2
    have HB := hidI hb
    clear hz2 hb
    by_cases hlt : j < l.length
    · have hlti : (j : Int) < (l.length : Int) := by omega
      obtain ⟨x, hx⟩ : ∃ x, l[j]? = some x := ⟨_, List.getElem?_eq_getElem hlt⟩
      obtain ⟨b, off, rfl, hc⟩ := (HR.out.later HB.out).get hx
      have hbig := HG.out x (List.mem_of_getElem? hx)
      have HC := hidI (rowCost_succ costEp hx)
      have c0 := hc 0 _ rfl
      have c1 := hc 1 _ rfl
      have c2 := hc 2 _ rfl
      have c3 := hc 3 _ rfl
      simp only [Nat.add_zero] at c0
      clear hc hx
      obtain ⟨j1, hj1⟩ : ∃ j1, j1 = j + 1 := ⟨_, rfl⟩
      have ej : (j : Int) + 1 = (j1 : Int) := by omega
      have HJ := hidI hj1
      clear hj1
      go_wp2_with fail
      refine (szEp_any x z _ hbig hz0 (by omega)).mono ?_
      rintro e w1 ⟨⟨z1, rfl, hz3, hz4, hz5⟩, hb1⟩
      have HB1 := hidI (HB.out.trans (hb1.mono HB.out.size))
      have HZ1 := hidI hz5
      clear hb1 hz5 hbig c0 c1 c2 c3
      by_cases hz6 : 0 ≤ z1
      · go_wp2
        go_roundg (gk - 1)
        case rel => exact ⟨j1, z1, rfl, rfl, by have := HJ.out; omega, hz6, by omega, by have := HZ.out; have := HZ1.out hz6; rw [HJ.out, HC.out]; omega, HB1.out⟩
        case measure => omega
      · go_wp2
        go_ret
        exact ⟨⟨-1, rfl, by omega, by omega, fun h => by omega⟩, HB1.out⟩
    · have hlti : ¬ (j : Int) < (l.length : Int) := by omega
      obtain rfl : j = l.length := by omega
      go_wp2
      go_ret
      exact ⟨⟨z, rfl, by omega, hz1, fun _ => by have := HZ.out; rw [List.take_length] at this; exact this⟩, HB.out⟩
def BigSm (x : Sm) : Prop := x.name.size ≤ 9223372036854775807
set_option maxHeartbeats 800000 in
theorem szSm_any (x : Sm) (left : Int) (w : World) (hb : BigSm x) (h0 : 0 ≤ left) (h1 : left ≤ 1048576) :
    Calls Try.prog 117 #[.agg #[.int .i64 x.kind, .string x.name, .int .i64 x.expr], .int .i64 left] w fun e w' => SzOut left (costSm x) e ∧ Below w.heap.size w w' := by
  unfold BigSm at hb
  go_enter Try.func117, Try.ntmps117
  go_wp2
  · go_ret
    exact ⟨⟨-1, rfl, by omega, by omega, fun h => by omega⟩, (Below.refl _ _).alloc (Nat.le_refl _) _⟩
  · go_ret
    exact ⟨⟨_, rfl, by omega, by omega, fun _ => by unfold costSm; omega⟩, (Below.refl _ _).alloc (Nat.le_refl _) _⟩
set_option maxRecDepth 100000 in
set_option maxHeartbeats 1600000 in
theorem szSmS_any (a : Option Addr) (cap : Nat) (l : List Sm) (left : Int) (w : World) (hr : RowAt w a smL 3 l) (hl : l.length ≤ 9223372036854775807) (hb : ∀ x ∈ l, BigSm x) (h0 : 0 ≤ left) (h1 : left ≤ 1048576) :
    Calls Try.prog 48 #[.slice a l.length cap, .int .i64 left] w fun e w' => SzOut left (l.length + rowCost costSm l) e ∧ Below w.heap.size w w' := by
  have HR := hidI hr
  have HG := hidI hb
  clear hr hb
  by_cases hll : (l.length : Int) ≤ left
  case neg =>
    go_enter Try.func48, Try.ntmps48
    go_wp2
    go_ret
    exact ⟨⟨-1, rfl, by omega, by omega, fun h => by omega⟩, Below.refl _ _⟩
  go_enter Try.func48, Try.ntmps48
  go_wp2
  go_loopg [1, 5] l.length (fun k s1 s5 wr => ∃ (j : Nat) (z : Int), s5 = .int .i64 j ∧ s1 = .int .i64 z ∧ j + k = l.length ∧ 0 ≤ z ∧ z ≤ left ∧ z + ((l.length + rowCost costSm (l.take j) : Nat) : Int) = left ∧ Below w.heap.size w wr)
  case atStart => exact ⟨0, _, rfl, rfl, by omega, by omega, by omega, by simp [rowCost], Below.refl _ _⟩
  case round =>
    obtain ⟨j, z, rfl, rfl, hj, hz0, hz1, hz2, hb⟩ := hrel
    have HZ := hidI hz2
    have HB := hidI hb
    clear hz2 hb
    by_cases hlt : j < l.length
    · have hlti : (j : Int) < (l.length : Int) := by omega
      obtain ⟨x, hx⟩ : ∃ x, l[j]? = some x := ⟨_, List.getElem?_eq_getElem hlt⟩
      obtain ⟨b, off, rfl, hc⟩ := (HR.out.later HB.out).get hx
      have hbig := HG.out x (List.mem_of_getElem? hx)
      have HC := hidI (rowCost_succ costSm hx)
      have c0 := hc 0 _ rfl
      have c1 := hc 1 _ rfl
      have c2 := hc 2 _ rfl
      simp only [Nat.add_zero] at c0
      clear hc hx
      obtain ⟨j1, hj1⟩ : ∃ j1, j1 = j + 1 := ⟨_, rfl⟩
      have ej : (j : Int) + 1 = (j1 : Int) := by omega
      have HJ := hidI hj1
      clear hj1
      go_wp2_with fail
      refine (szSm_any x z _ hbig hz0 (by omega)).mono ?_
      rintro e w1 ⟨⟨z1, rfl, hz3, hz4, hz5⟩, hb1⟩
      have HB1 := hidI (HB.out.trans (hb1.mono HB.out.size))
      have HZ1 := hidI hz5
      clear hb1 hz5 hbig c0 c1 c2
      by_cases hz6 : 0 ≤ z1
      · go_wp2
        go_roundg (gk - 1)
        case rel => exact ⟨j1, z1, rfl, rfl, by have := HJ.out; omega, hz6, by omega, by have := HZ.out; have := HZ1.out hz6; rw [HJ.out, HC.out]; omega, HB1.out⟩
        case measure => omega
      · go_wp2
        go_ret
        exact ⟨⟨-1, rfl, by omega, by omega, fun h => by omega⟩, HB1.out⟩
    · have hlti : ¬ (j : Int) < (l.length : Int) := by omega
      obtain rfl : j = l.length := by omega
      go_wp2
      go_ret
      exact ⟨⟨z, rfl, by omega, hz1, fun _ => by have := HZ.out; rw [List.take_length] at this; exact this⟩, HB.out⟩
def BigEx (x : Ex) : Prop := x.name.size ≤ 9223372036854775807 ∧ x.field.size ≤ 9223372036854775807
set_option maxHeartbeats 800000 in
theorem szEx_any (x : Ex) (left : Int) (w : World) (hb : BigEx x) (h0 : 0 ≤ left) (h1 : left ≤ 1048576) :
    Calls Try.prog 118 #[.agg #[.int .i64 x.kind, .int .i64 x.num, .string x.name, .string x.field, .int .i64 x.l, .int .i64 x.r], .int .i64 left] w fun e w' => SzOut left (costEx x) e ∧ Below w.heap.size w w' := by
  unfold BigEx at hb
  obtain ⟨b0, b1⟩ := hb
  go_enter Try.func118, Try.ntmps118
  go_wp2
  · go_ret
    exact ⟨⟨-1, rfl, by omega, by omega, fun h => by omega⟩, (Below.refl _ _).alloc (Nat.le_refl _) _⟩
  · go_ret
    exact ⟨⟨-1, rfl, by omega, by omega, fun h => by omega⟩, (Below.refl _ _).alloc (Nat.le_refl _) _⟩
  · go_ret
    exact ⟨⟨_, rfl, by omega, by omega, fun _ => by unfold costEx; omega⟩, (Below.refl _ _).alloc (Nat.le_refl _) _⟩
set_option maxRecDepth 100000 in
set_option maxHeartbeats 1600000 in
theorem szExS_any (a : Option Addr) (cap : Nat) (l : List Ex) (left : Int) (w : World) (hr : RowAt w a exL 6 l) (hl : l.length ≤ 9223372036854775807) (hb : ∀ x ∈ l, BigEx x) (h0 : 0 ≤ left) (h1 : left ≤ 1048576) :
    Calls Try.prog 49 #[.slice a l.length cap, .int .i64 left] w fun e w' => SzOut left (l.length + rowCost costEx l) e ∧ Below w.heap.size w w' := by
  have HR := hidI hr
  have HG := hidI hb
  clear hr hb
  by_cases hll : (l.length : Int) ≤ left
  case neg =>
    go_enter Try.func49, Try.ntmps49
    go_wp2
    go_ret
    exact ⟨⟨-1, rfl, by omega, by omega, fun h => by omega⟩, Below.refl _ _⟩
  go_enter Try.func49, Try.ntmps49
  go_wp2
  go_loopg [1, 5] l.length (fun k s1 s5 wr => ∃ (j : Nat) (z : Int), s5 = .int .i64 j ∧ s1 = .int .i64 z ∧ j + k = l.length ∧ 0 ≤ z ∧ z ≤ left ∧ z + ((l.length + rowCost costEx (l.take j) : Nat) : Int) = left ∧ Below w.heap.size w wr)
  case atStart => exact ⟨0, _, rfl, rfl, by omega, by omega, by omega, by simp [rowCost], Below.refl _ _⟩
  case round =>
    obtain ⟨j, z, rfl, rfl, hj, hz0, hz1, hz2, hb⟩ := hrel
    have HZ := hidI hz2
    have HB := hidI hb
    clear hz2 hb
    by_cases hlt : j < l.length
    · have hlti : (j : Int) < (l.length : Int) := by omega
      obtain ⟨x, hx⟩ : ∃ x, l[j]? = some x := ⟨_, List.getElem?_eq_getElem hlt⟩
      obtain ⟨b, off, rfl, hc⟩ := (HR.out.later HB.out).get hx
      have hbig := HG.out x (List.mem_of_getElem? hx)
      have HC := hidI (rowCost_succ costEx hx)
      have c0 := hc 0 _ rfl
      have c1 := hc 1 _ rfl
      have c2 := hc 2 _ rfl
      have c3 := hc 3 _ rfl
      have c4 := hc 4 _ rfl
      have c5 := hc 5 _ rfl
      simp only [Nat.add_zero] at c0
      clear hc hx
      obtain ⟨j1, hj1⟩ : ∃ j1, j1 = j + 1 := ⟨_, rfl⟩
      have ej : (j : Int) + 1 = (j1 : Int) := by omega
      have HJ := hidI hj1
      clear hj1
      go_wp2_with fail
      refine (szEx_any x z _ hbig hz0 (by omega)).mono ?_
      rintro e w1 ⟨⟨z1, rfl, hz3, hz4, hz5⟩, hb1⟩
      have HB1 := hidI (HB.out.trans (hb1.mono HB.out.size))
      have HZ1 := hidI hz5
      clear hb1 hz5 hbig c0 c1 c2 c3 c4 c5
      by_cases hz6 : 0 ≤ z1
      · go_wp2
        go_roundg (gk - 1)
        case rel => exact ⟨j1, z1, rfl, rfl, by have := HJ.out; omega, hz6, by omega, by have := HZ.out; have := HZ1.out hz6; rw [HJ.out, HC.out]; omega, HB1.out⟩
        case measure => omega
      · go_wp2
        go_ret
        exact ⟨⟨-1, rfl, by omega, by omega, fun h => by omega⟩, HB1.out⟩
    · have hlti : ¬ (j : Int) < (l.length : Int) := by omega
      obtain rfl : j = l.length := by omega
      go_wp2
      go_ret
      exact ⟨⟨z, rfl, by omega, hz1, fun _ => by have := HZ.out; rw [List.take_length] at this; exact this⟩, HB.out⟩
structure MA where
  a0 : Option Addr
  a1 : Option Addr
  a2 : Option Addr
  a3 : Option Addr
  a4 : Option Addr
  c0 : Nat
  c1 : Nat
  c2 : Nat
  c3 : Nat
  c4 : Nat
def modA (A : MA) (m : Md) : Value := .agg #[.slice A.a0 m.rq.length A.c0, .slice A.a1 m.im.length A.c1, .slice A.a2 m.ep.length A.c2, .slice A.a3 m.st.length A.c3, .slice A.a4 m.ex.length A.c4]
def ModIn (w : World) (A : MA) (m : Md) : Prop := RowAt w A.a0 (fun x => [Value.string x]) 1 m.rq ∧ RowAt w A.a1 imL 3 m.im ∧ RowAt w A.a2 epL 4 m.ep ∧ RowAt w A.a3 smL 3 m.st ∧ RowAt w A.a4 exL 6 m.ex
theorem ModIn.later {w w' : World} {A : MA} {m : Md} (h : ModIn w A m) (hb : Below w.heap.size w w') : ModIn w' A m := ⟨h.1.later hb, h.2.1.later hb, h.2.2.1.later hb, h.2.2.2.1.later hb, h.2.2.2.2.later hb⟩
def BigM (m : Md) : Prop := (m.rq.length ≤ 9223372036854775807 ∧ ∀ x ∈ m.rq, BigStr x) ∧ (m.im.length ≤ 9223372036854775807 ∧ ∀ x ∈ m.im, BigIm x) ∧ (m.ep.length ≤ 9223372036854775807 ∧ ∀ x ∈ m.ep, BigEp x) ∧ (m.st.length ≤ 9223372036854775807 ∧ ∀ x ∈ m.st, BigSm x) ∧ (m.ex.length ≤ 9223372036854775807 ∧ ∀ x ∈ m.ex, BigEx x)
set_option maxRecDepth 100000 in
set_option maxHeartbeats 3200000 in
theorem szMod_any (A : MA) (m : Md) (left : Int) (w : World) (hr : ModIn w A m) (hb : BigM m) (h0 : 0 ≤ left) (h1 : left ≤ 1048576) :
    Calls Try.prog 9 #[modA A m, .int .i64 left] w fun e w' => SzOut left (costM m) e ∧ Below w.heap.size w w' := by
  have HR := hidI hr
  have HG := hidI hb
  clear hr hb
  unfold modA
  go_enter Try.func9, Try.ntmps9
  go_upto_region 1 with fail
  have HW : Hid (Below w.heap.size w (w.alloc (.cells #[.slice A.a0 m.rq.length A.c0, .slice A.a1 m.im.length A.c1, .slice A.a2 m.ep.length A.c2, .slice A.a3 m.st.length A.c3, .slice A.a4 m.ex.length A.c4] 28))) := (Below.refl _ _).alloc (Nat.le_refl _) _
  refine world_anyI (R := fun W => W.heap[w.heap.size]? = some (.cells #[.slice A.a0 m.rq.length A.c0, .slice A.a1 m.im.length A.c1, .slice A.a2 m.ep.length A.c2, .slice A.a3 m.st.length A.c3, .slice A.a4 m.ex.length A.c4] 28 (0, 0)) ∧ ModIn W A m ∧ Below w.heap.size w W) ⟨heap_alloc_new w _, HR.out.later HW.out, HW.out⟩ ?_
  obtain ⟨gx, hgx⟩ : ∃ gx, gx = w.heap.size := ⟨_, rfl⟩
  rw [← hgx]
  rintro w0 ⟨hx, hm, hb⟩
  rw [hgx] at hb
  clear hgx HW HR
  have X0 := hidI hx
  have M0 := hidI hm
  have HB0 := hidI hb
  clear hx hm hb
  obtain ⟨c0, c1, c2, c3, c4, cf⟩ := five_of X0.out
  go_wp2_with fail
  refine (szStrS_any A.a0 A.c0 m.rq left w0 M0.out.1 HG.out.1.1 HG.out.1.2 (by omega) (by omega)).mono ?_
  rintro e w1 ⟨⟨z0, rfl, y0, u0, v0⟩, hb⟩
  have HB1 := hidI (HB0.out.trans (hb.mono HB0.out.size))
  have M1 := hidI (M0.out.later hb)
  have X1 := hidI ((hb.block _ (Array.getElem?_eq_some_iff.1 X0.out).1).trans X0.out)
  have V0 := hidI v0
  clear hb v0 c0 c1 c2 c3 c4 cf
  obtain ⟨c0, c1, c2, c3, c4, cf⟩ := five_of X1.out
  by_cases t0 : 0 ≤ z0
  case neg =>
    go_wp2
    go_ret
    exact ⟨⟨-1, rfl, by omega, by omega, fun h => by omega⟩, HB1.out⟩
  go_wp2_with fail
  refine (szImS_any A.a1 A.c1 m.im z0 w1 M1.out.2.1 HG.out.2.1.1 HG.out.2.1.2 (by omega) (by omega)).mono ?_
  rintro e w2 ⟨⟨z1, rfl, y1, u1, v1⟩, hb⟩
  have HB2 := hidI (HB1.out.trans (hb.mono HB1.out.size))
  have M2 := hidI (M1.out.later hb)
  have X2 := hidI ((hb.block _ (Array.getElem?_eq_some_iff.1 X1.out).1).trans X1.out)
  have V1 := hidI v1
  clear hb v1 c0 c1 c2 c3 c4 cf
  obtain ⟨c0, c1, c2, c3, c4, cf⟩ := five_of X2.out
  by_cases t1 : 0 ≤ z1
  case neg =>
    go_wp2
    go_ret
    exact ⟨⟨-1, rfl, by omega, by omega, fun h => by omega⟩, HB2.out⟩
  go_wp2_with fail
  refine (szEpS_any A.a2 A.c2 m.ep z1 w2 M2.out.2.2.1 HG.out.2.2.1.1 HG.out.2.2.1.2 (by omega) (by omega)).mono ?_
  rintro e w3 ⟨⟨z2, rfl, y2, u2, v2⟩, hb⟩
  have HB3 := hidI (HB2.out.trans (hb.mono HB2.out.size))
  have M3 := hidI (M2.out.later hb)
  have X3 := hidI ((hb.block _ (Array.getElem?_eq_some_iff.1 X2.out).1).trans X2.out)
  have V2 := hidI v2
  clear hb v2 c0 c1 c2 c3 c4 cf
  obtain ⟨c0, c1, c2, c3, c4, cf⟩ := five_of X3.out
  by_cases t2 : 0 ≤ z2
  case neg =>
    go_wp2
    go_ret
    exact ⟨⟨-1, rfl, by omega, by omega, fun h => by omega⟩, HB3.out⟩
  go_wp2_with fail
  refine (szSmS_any A.a3 A.c3 m.st z2 w3 M3.out.2.2.2.1 HG.out.2.2.2.1.1 HG.out.2.2.2.1.2 (by omega) (by omega)).mono ?_
  rintro e w4 ⟨⟨z3, rfl, y3, u3, v3⟩, hb⟩
  have HB4 := hidI (HB3.out.trans (hb.mono HB3.out.size))
  have M4 := hidI (M3.out.later hb)
  have X4 := hidI ((hb.block _ (Array.getElem?_eq_some_iff.1 X3.out).1).trans X3.out)
  have V3 := hidI v3
  clear hb v3 c0 c1 c2 c3 c4 cf
  obtain ⟨c0, c1, c2, c3, c4, cf⟩ := five_of X4.out
  by_cases t3 : 0 ≤ z3
  case neg =>
    go_wp2
    go_ret
    exact ⟨⟨-1, rfl, by omega, by omega, fun h => by omega⟩, HB4.out⟩
  go_wp2_with fail
  refine (szExS_any A.a4 A.c4 m.ex z3 w4 M4.out.2.2.2.2 HG.out.2.2.2.2.1 HG.out.2.2.2.2.2 (by omega) (by omega)).mono ?_
  rintro e w5 ⟨⟨z4, rfl, y4, u4, v4⟩, hb⟩
  have HB5 := hidI (HB4.out.trans (hb.mono HB4.out.size))
  have M5 := hidI (M4.out.later hb)
  have X5 := hidI ((hb.block _ (Array.getElem?_eq_some_iff.1 X4.out).1).trans X4.out)
  have V4 := hidI v4
  clear hb v4 c0 c1 c2 c3 c4 cf
  obtain ⟨c0, c1, c2, c3, c4, cf⟩ := five_of X5.out
  by_cases t4 : 0 ≤ z4
  case neg =>
    go_wp2
    go_ret
    exact ⟨⟨-1, rfl, by omega, by omega, fun h => by omega⟩, HB5.out⟩
  go_wp2
  go_ret
  exact ⟨⟨z4, rfl, by omega, by omega, fun _ => by have q0 := V0.out t0; have q1 := V1.out t1; have q2 := V2.out t2; have q3 := V3.out t3; have q4 := V4.out t4; unfold costM; omega⟩, HB5.out⟩
end Go.Proofs.Ytdbpknmoacjodaa
