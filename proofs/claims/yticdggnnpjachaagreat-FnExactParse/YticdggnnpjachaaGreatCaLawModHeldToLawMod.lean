/-
  What the laws' askers of marked lists answer: the walks.
  What the laws' comparer, marker and asker of programs answer: the walks.
-/
import Derived.Test.YticdggnnpjachaaGreatCaImplParseAllToLawModMark
namespace Go.Proofs.YticdggnnpjachaaGreat
open Go.RowKit Go.PlainAid Go.Sort

set_option maxRecDepth 100000 in
set_option maxHeartbeats 3200000 in
theorem heldStringS_zero (a1 : Option Addr) (c1 k0 : Nat) (w : World) : Calls Tryz.prog 35 #[.slice a1 0 c1, .int .i64 k0] w fun e w' => e = .returned (.int .i64 k0) ∧ w' = w := by
  go_enter Tryz.func35, Tryz.ntmps35
  go_wp2
  go_loopg [1, 5] 1 (fun k q i wr => k = 1 ∧ q = .int .i64 k0 ∧ i = .int .i64 0 ∧ wr = w)
  case atStart => exact ⟨rfl, rfl, rfl, rfl⟩
  case round =>
    obtain ⟨rfl, rfl, rfl, rfl⟩ := hrel
    go_wp2
    go_ret
    exact ⟨rfl, rfl⟩
set_option maxRecDepth 100000 in
set_option maxHeartbeats 3200000 in
theorem heldStringS_row (base g n k0 : Nat) (r : Rw) (w : World) (h1 : OwnG w base 9 1 r n (FK (fun _ => true) 1 k0) (n)) (e1 : r.a = some ⟨g, 0, none⟩) (hn : n ≤ 4000) (hk0 : 0 < k0) (hk : k0 ≤ 50000) :
    Calls Tryz.prog 35 #[.slice (some ⟨g, 0, none⟩) n r.cap, .int .i64 k0] w fun e w' => e = .returned (.int .i64 ((k0 + n : Nat) : Int)) ∧ Below w.heap.size w w' := by
  have H1 := hidI h1
  have E1 := hidI e1
  clear h1 e1
  go_enter Tryz.func35, Tryz.ntmps35
  go_wp2
  go_loopg [1, 5] n (fun k q i wr => ∃ j : Nat, i = .int .i64 j ∧ j + k = n ∧ q = .int .i64 ((k0 + j : Nat) : Int) ∧ Below w.heap.size w wr)
  case atStart => exact ⟨0, rfl, by omega, by simp, Below.refl _ _⟩
  case round =>
    obtain ⟨j, rfl, hj, hq, hb⟩ := hrel
    have HB := hidI hb
    clear hb
    by_cases hlt : j < n
    · have hlti : (j : Int) < (n : Int) := by omega
      obtain ⟨q0, hq0⟩ : ∃ q0 : Nat, q0 = k0 + (j) := ⟨_, rfl⟩
      rw [← hq0] at hq
      subst hq
      obtain ⟨q1, hq1⟩ : ∃ q1 : Nat, q1 = q0 + 1 := ⟨_, rfl⟩
      have eq1 : (q0 : Int) + 1 = (q1 : Int) := by omega
      have HC0 : Hid (wr.cell? ⟨g, j, none⟩ = some (.string (mtS q0))) := by have := (H1.out.later HB.out).cell E1.out (j) (by omega) (by omega); rw [fk_s (c := 0) (q := q0) (by omega) (by decide) (by omega)] at this; exact this
      have HQ : Hid (q1 = k0 + (j + 1)) := by show q1 = _; omega
      have hglt := ((H1.out.later HB.out).typed (blk_of E1.out)).2.1
      have hqb : q1 ≤ 99000 := by omega
      have HQB0 : Hid (0 < q0 ∧ q0 ≤ 100000) := ⟨by omega, by omega⟩
      obtain ⟨j1, hj1⟩ : ∃ j1, j1 = j + 1 := ⟨_, rfl⟩
      have ej : (j : Int) + 1 = (j1 : Int) := by omega
      have HJ := hidI hj1
      clear hj1 hq0 hq1
      have cQ0 : ∀ d os, Calls Tryz.prog 95 #[.int .i64 (q0 : Int)] (grow (redrawn wr d) os) fun e w'' => e = .returned (.string (mtS q0)) ∧ ∃ p : Regrown, w'' = grow (redrawn wr p.d) p.os := fun d os => Calls.regrown_of (markText_any q0 _ HQB0.out.1 HQB0.out.2)
      go_wp2_with fail
      have k0 := cell_regrown HC0.out
      refine wp_region_quiet_below (by kernel_rfl) (by kernel_rfl) ?_
      repeat (go_big_quiet_step (exact cQ0 _ _))
      refine wpQuiet_nil ?_
      intro w0 hw'
      obtain ⟨⟨dq, osq⟩, hw''⟩ := hw'
      have hb0 : Below wr.heap.size wr w0 := by rw [hw'']; exact below_regrown _ _ _
      have HB0 := hidI (HB.out.trans (hb0.mono HB.out.size))
      have hglt0 := Nat.lt_of_lt_of_le hglt hb0.size
      clear hw'' k0 cQ0 hb0 hglt
      have hglt := hglt0
      clear hglt0
      go_wp2
      go_roundg (gk - 1)
      case rel => exact ⟨j1, rfl, by have := HJ.out; omega, by have := HJ.out; have := HQ.out; rw [show q1 = k0 + j1 from by omega], HB0.out⟩
      case measure => omega
    · have hlti : ¬ (j : Int) < (n : Int) := by omega
      obtain rfl : j = n := by omega
      subst hq
      go_wp2
      go_ret
      exact ⟨rfl, HB.out⟩
theorem heldStringS_any (base n k0 : Nat) (r : Rw) (w : World) (h1 : OwnG w base 9 1 r n (FK (fun _ => true) 1 k0) (n)) (hn : n ≤ 4000) (hk0 : 0 < k0) (hk : k0 ≤ 50000) :
    Calls Tryz.prog 35 #[.slice r.a n r.cap, .int .i64 k0] w fun e w' => e = .returned (.int .i64 ((k0 + n : Nat) : Int)) ∧ Below w.heap.size w w' := by
  by_cases h0 : n = 0
  · subst h0
    refine (heldStringS_zero _ _ k0 w).mono ?_
    rintro e w1 ⟨rfl, rfl⟩
    exact ⟨by simp, Below.refl _ _⟩
  · obtain ⟨xs, h2, h3⟩ := h1
    rcases h2.nil_or with ⟨_, _, e⟩ | ⟨g, e1⟩
    · exact absurd e h0
    · rw [e1]
      exact heldStringS_row base g n k0 r w ⟨xs, h2, h3⟩ e1 hn hk0 hk
set_option maxRecDepth 100000 in
set_option maxHeartbeats 3200000 in
theorem heldImpS_zero (a1 : Option Addr) (c1 k0 : Nat) (w : World) : Calls Tryz.prog 36 #[.slice a1 0 c1, .int .i64 k0] w fun e w' => e = .returned (.int .i64 k0) ∧ w' = w := by
  go_enter Tryz.func36, Tryz.ntmps36
  go_wp2
  go_loopg [1, 5] 1 (fun k q i wr => k = 1 ∧ q = .int .i64 k0 ∧ i = .int .i64 0 ∧ wr = w)
  case atStart => exact ⟨rfl, rfl, rfl, rfl⟩
  case round =>
    obtain ⟨rfl, rfl, rfl, rfl⟩ := hrel
    go_wp2
    go_ret
    exact ⟨rfl, rfl⟩
set_option maxRecDepth 100000 in
set_option maxHeartbeats 3200000 in
theorem heldImpS_row (base g n k0 : Nat) (r : Rw) (w : World) (h1 : OwnG w base 100 3 r n (FK (fun _ => true) 3 k0) (n * 3)) (e1 : r.a = some ⟨g, 0, none⟩) (hn : n ≤ 4000) (hk0 : 0 < k0) (hk : k0 ≤ 50000) :
    Calls Tryz.prog 36 #[.slice (some ⟨g, 0, none⟩) n r.cap, .int .i64 k0] w fun e w' => e = .returned (.int .i64 ((k0 + n * 3 : Nat) : Int)) ∧ Below w.heap.size w w' := by
  have H1 := hidI h1
  have E1 := hidI e1
  clear h1 e1
  go_enter Tryz.func36, Tryz.ntmps36
  go_wp2
  go_loopg [1, 5] n (fun k q i wr => ∃ j : Nat, i = .int .i64 j ∧ j + k = n ∧ q = .int .i64 ((k0 + j * 3 : Nat) : Int) ∧ Below w.heap.size w wr)
  case atStart => exact ⟨0, rfl, by omega, by simp, Below.refl _ _⟩
  case round =>
    obtain ⟨j, rfl, hj, hq, hb⟩ := hrel
    have HB := hidI hb
    clear hb
    by_cases hlt : j < n
    · have hlti : (j : Int) < (n : Int) := by omega
      obtain ⟨q0, hq0⟩ : ∃ q0 : Nat, q0 = k0 + (j * 3) := ⟨_, rfl⟩
      rw [← hq0] at hq
      subst hq
      obtain ⟨q1, hq1⟩ : ∃ q1 : Nat, q1 = q0 + 1 := ⟨_, rfl⟩
      have eq1 : (q0 : Int) + 1 = (q1 : Int) := by omega
      obtain ⟨q2, hq2⟩ : ∃ q2 : Nat, q2 = q1 + 1 := ⟨_, rfl⟩
      have eq2 : (q1 : Int) + 1 = (q2 : Int) := by omega
      obtain ⟨q3, hq3⟩ : ∃ q3 : Nat, q3 = q2 + 1 := ⟨_, rfl⟩
      have eq3 : (q2 : Int) + 1 = (q3 : Int) := by omega
      have HC0 : Hid (wr.cell? ⟨g, j * 3, none⟩ = some (.string (mtS q0))) := by have := (H1.out.later HB.out).cell E1.out (j * 3) (by omega) (by omega); rw [fk_s (c := 0) (q := q0) (by omega) (by decide) (by omega)] at this; exact this
      have HC1 : Hid (wr.cell? ⟨g, j * 3 + 1, none⟩ = some (.string (mtS q1))) := by have := (H1.out.later HB.out).cell E1.out (j * 3 + 1) (by omega) (by omega); rw [fk_s (c := 1) (q := q1) (by omega) (by decide) (by omega)] at this; exact this
      have HC2 : Hid (wr.cell? ⟨g, j * 3 + 2, none⟩ = some (.string (mtS q2))) := by have := (H1.out.later HB.out).cell E1.out (j * 3 + 2) (by omega) (by omega); rw [fk_s (c := 2) (q := q2) (by omega) (by decide) (by omega)] at this; exact this
      have HQ : Hid (q3 = k0 + (j * 3 + 3)) := by show q3 = _; omega
      have hglt := ((H1.out.later HB.out).typed (blk_of E1.out)).2.1
      have hqb : q3 ≤ 99000 := by omega
      have HQB0 : Hid (0 < q0 ∧ q0 ≤ 100000) := ⟨by omega, by omega⟩
      have HQB1 : Hid (0 < q1 ∧ q1 ≤ 100000) := ⟨by omega, by omega⟩
      have HQB2 : Hid (0 < q2 ∧ q2 ≤ 100000) := ⟨by omega, by omega⟩
      obtain ⟨j1, hj1⟩ : ∃ j1, j1 = j + 1 := ⟨_, rfl⟩
      have ej : (j : Int) + 1 = (j1 : Int) := by omega
      have HJ := hidI hj1
      clear hj1 hq0 hq1 hq2 hq3
      have cQ0 : ∀ d os, Calls Tryz.prog 95 #[.int .i64 (q0 : Int)] (grow (redrawn wr d) os) fun e w'' => e = .returned (.string (mtS q0)) ∧ ∃ p : Regrown, w'' = grow (redrawn wr p.d) p.os := fun d os => Calls.regrown_of (markText_any q0 _ HQB0.out.1 HQB0.out.2)
      go_wp2_with fail
      have k0 := cell_regrown HC0.out
      refine wp_region_quiet_below (by kernel_rfl) (by kernel_rfl) ?_
      repeat (go_big_quiet_step (exact cQ0 _ _))
      refine wpQuiet_nil ?_
      intro w0 hw'
      obtain ⟨⟨dq, osq⟩, hw''⟩ := hw'
      have hb0 : Below wr.heap.size wr w0 := by rw [hw'']; exact below_regrown _ _ _
      have HB0 := hidI (HB.out.trans (hb0.mono HB.out.size))
      have HC0_1 := hidI ((hb0.cell hglt).trans HC1.out)
      have HC0_2 := hidI ((hb0.cell hglt).trans HC2.out)
      have hglt0 := Nat.lt_of_lt_of_le hglt hb0.size
      clear hw'' k0 cQ0 hb0 hglt
      have hglt := hglt0
      clear hglt0
      have cQ1 : ∀ d os, Calls Tryz.prog 95 #[.int .i64 (q1 : Int)] (grow (redrawn w0 d) os) fun e w'' => e = .returned (.string (mtS q1)) ∧ ∃ p : Regrown, w'' = grow (redrawn w0 p.d) p.os := fun d os => Calls.regrown_of (markText_any q1 _ HQB1.out.1 HQB1.out.2)
      go_wp2_with fail
      have k1 := cell_regrown HC0_1.out
      refine wp_region_quiet_below (by kernel_rfl) (by kernel_rfl) ?_
      repeat (go_big_quiet_step (exact cQ1 _ _))
      refine wpQuiet_nil ?_
      intro w1 hw'
      obtain ⟨⟨dq, osq⟩, hw''⟩ := hw'
      have hb1 : Below w0.heap.size w0 w1 := by rw [hw'']; exact below_regrown _ _ _
      have HB1 := hidI (HB0.out.trans (hb1.mono HB0.out.size))
      have HC1_2 := hidI ((hb1.cell hglt).trans HC0_2.out)
      have hglt1 := Nat.lt_of_lt_of_le hglt hb1.size
      clear hw'' k1 cQ1 hb1 hglt
      have hglt := hglt1
      clear hglt1
      have cQ2 : ∀ d os, Calls Tryz.prog 95 #[.int .i64 (q2 : Int)] (grow (redrawn w1 d) os) fun e w'' => e = .returned (.string (mtS q2)) ∧ ∃ p : Regrown, w'' = grow (redrawn w1 p.d) p.os := fun d os => Calls.regrown_of (markText_any q2 _ HQB2.out.1 HQB2.out.2)
      go_wp2_with fail
      have k2 := cell_regrown HC1_2.out
      refine wp_region_quiet_below (by kernel_rfl) (by kernel_rfl) ?_
      repeat (go_big_quiet_step (exact cQ2 _ _))
      refine wpQuiet_nil ?_
      intro w2 hw'
      obtain ⟨⟨dq, osq⟩, hw''⟩ := hw'
      have hb2 : Below w1.heap.size w1 w2 := by rw [hw'']; exact below_regrown _ _ _
      have HB2 := hidI (HB1.out.trans (hb2.mono HB1.out.size))
      have hglt2 := Nat.lt_of_lt_of_le hglt hb2.size
      clear hw'' k2 cQ2 hb2 hglt
      have hglt := hglt2
      clear hglt2
      go_wp2
      go_roundg (gk - 1)
      case rel => exact ⟨j1, rfl, by have := HJ.out; omega, by have := HJ.out; have := HQ.out; rw [show q3 = k0 + j1 * 3 from by omega], HB2.out⟩
      case measure => omega
    · have hlti : ¬ (j : Int) < (n : Int) := by omega
      obtain rfl : j = n := by omega
      subst hq
      go_wp2
      go_ret
      exact ⟨rfl, HB.out⟩
theorem heldImpS_any (base n k0 : Nat) (r : Rw) (w : World) (h1 : OwnG w base 100 3 r n (FK (fun _ => true) 3 k0) (n * 3)) (hn : n ≤ 4000) (hk0 : 0 < k0) (hk : k0 ≤ 50000) :
    Calls Tryz.prog 36 #[.slice r.a n r.cap, .int .i64 k0] w fun e w' => e = .returned (.int .i64 ((k0 + n * 3 : Nat) : Int)) ∧ Below w.heap.size w w' := by
  by_cases h0 : n = 0
  · subst h0
    refine (heldImpS_zero _ _ k0 w).mono ?_
    rintro e w1 ⟨rfl, rfl⟩
    exact ⟨by simp, Below.refl _ _⟩
  · obtain ⟨xs, h2, h3⟩ := h1
    rcases h2.nil_or with ⟨_, _, e⟩ | ⟨g, e1⟩
    · exact absurd e h0
    · rw [e1]
      exact heldImpS_row base g n k0 r w ⟨xs, h2, h3⟩ e1 hn hk0 hk
set_option maxRecDepth 100000 in
set_option maxHeartbeats 3200000 in
theorem heldExpS_zero (a1 : Option Addr) (c1 k0 : Nat) (w : World) : Calls Tryz.prog 37 #[.slice a1 0 c1, .int .i64 k0] w fun e w' => e = .returned (.int .i64 k0) ∧ w' = w := by
  go_enter Tryz.func37, Tryz.ntmps37
  go_wp2
  go_loopg [1, 5] 1 (fun k q i wr => k = 1 ∧ q = .int .i64 k0 ∧ i = .int .i64 0 ∧ wr = w)
  case atStart => exact ⟨rfl, rfl, rfl, rfl⟩
  case round =>
    obtain ⟨rfl, rfl, rfl, rfl⟩ := hrel
    go_wp2
    go_ret
    exact ⟨rfl, rfl⟩
set_option maxRecDepth 100000 in
set_option maxHeartbeats 3200000 in
theorem heldExpS_row (base g n k0 : Nat) (r : Rw) (w : World) (h1 : OwnG w base 102 4 r n (FK (fun i => !decide (i = 0)) 4 k0) (n * 4)) (e1 : r.a = some ⟨g, 0, none⟩) (hn : n ≤ 4000) (hk0 : 0 < k0) (hk : k0 ≤ 50000) :
    Calls Tryz.prog 37 #[.slice (some ⟨g, 0, none⟩) n r.cap, .int .i64 k0] w fun e w' => e = .returned (.int .i64 ((k0 + n * 4 : Nat) : Int)) ∧ Below w.heap.size w w' := by
  have H1 := hidI h1
  have E1 := hidI e1
  clear h1 e1
  go_enter Tryz.func37, Tryz.ntmps37
  go_wp2
  go_loopg [1, 5] n (fun k q i wr => ∃ j : Nat, i = .int .i64 j ∧ j + k = n ∧ q = .int .i64 ((k0 + j * 4 : Nat) : Int) ∧ Below w.heap.size w wr)
  case atStart => exact ⟨0, rfl, by omega, by simp, Below.refl _ _⟩
  case round =>
    obtain ⟨j, rfl, hj, hq, hb⟩ := hrel
    have HB := hidI hb
    clear hb
    by_cases hlt : j < n
    · have hlti : (j : Int) < (n : Int) := by omega
      obtain ⟨q0, hq0⟩ : ∃ q0 : Nat, q0 = k0 + (j * 4) := ⟨_, rfl⟩
      rw [← hq0] at hq
      subst hq
      obtain ⟨q1, hq1⟩ : ∃ q1 : Nat, q1 = q0 + 1 := ⟨_, rfl⟩
      have eq1 : (q0 : Int) + 1 = (q1 : Int) := by omega
      obtain ⟨q2, hq2⟩ : ∃ q2 : Nat, q2 = q1 + 1 := ⟨_, rfl⟩
      have eq2 : (q1 : Int) + 1 = (q2 : Int) := by omega
      obtain ⟨q3, hq3⟩ : ∃ q3 : Nat, q3 = q2 + 1 := ⟨_, rfl⟩
      have eq3 : (q2 : Int) + 1 = (q3 : Int) := by omega
      obtain ⟨q4, hq4⟩ : ∃ q4 : Nat, q4 = q3 + 1 := ⟨_, rfl⟩
      have eq4 : (q3 : Int) + 1 = (q4 : Int) := by omega
      have HC0 : Hid (wr.cell? ⟨g, j * 4, none⟩ = some (.int .i64 (q0 : Int))) := by have := (H1.out.later HB.out).cell E1.out (j * 4) (by omega) (by omega); rw [fk_i (c := 0) (q := q0) (by omega) (by decide) (by omega)] at this; exact this
      have HC1 : Hid (wr.cell? ⟨g, j * 4 + 1, none⟩ = some (.string (mtS q1))) := by have := (H1.out.later HB.out).cell E1.out (j * 4 + 1) (by omega) (by omega); rw [fk_s (c := 1) (q := q1) (by omega) (by decide) (by omega)] at this; exact this
      have HC2 : Hid (wr.cell? ⟨g, j * 4 + 2, none⟩ = some (.string (mtS q2))) := by have := (H1.out.later HB.out).cell E1.out (j * 4 + 2) (by omega) (by omega); rw [fk_s (c := 2) (q := q2) (by omega) (by decide) (by omega)] at this; exact this
      have HC3 : Hid (wr.cell? ⟨g, j * 4 + 3, none⟩ = some (.string (mtS q3))) := by have := (H1.out.later HB.out).cell E1.out (j * 4 + 3) (by omega) (by omega); rw [fk_s (c := 3) (q := q3) (by omega) (by decide) (by omega)] at this; exact this
      have HQ : Hid (q4 = k0 + (j * 4 + 4)) := by show q4 = _; omega
      have hglt := ((H1.out.later HB.out).typed (blk_of E1.out)).2.1
      have hqb : q4 ≤ 99000 := by omega
      have HQB1 : Hid (0 < q1 ∧ q1 ≤ 100000) := ⟨by omega, by omega⟩
      have HQB2 : Hid (0 < q2 ∧ q2 ≤ 100000) := ⟨by omega, by omega⟩
      have HQB3 : Hid (0 < q3 ∧ q3 ≤ 100000) := ⟨by omega, by omega⟩
      obtain ⟨j1, hj1⟩ : ∃ j1, j1 = j + 1 := ⟨_, rfl⟩
      have ej : (j : Int) + 1 = (j1 : Int) := by omega
      have HJ := hidI hj1
      clear hj1 hq0 hq1 hq2 hq3 hq4
      have c0 := HC0.out
      have cQ1 : ∀ d os, Calls Tryz.prog 95 #[.int .i64 (q1 : Int)] (grow (redrawn wr d) os) fun e w'' => e = .returned (.string (mtS q1)) ∧ ∃ p : Regrown, w'' = grow (redrawn wr p.d) p.os := fun d os => Calls.regrown_of (markText_any q1 _ HQB1.out.1 HQB1.out.2)
      go_wp2_with fail
      have k1 := cell_regrown HC1.out
      refine wp_region_quiet_below (by kernel_rfl) (by kernel_rfl) ?_
      repeat (go_big_quiet_step (exact cQ1 _ _))
      refine wpQuiet_nil ?_
      intro w1 hw'
      obtain ⟨⟨dq, osq⟩, hw''⟩ := hw'
      have hb1 : Below wr.heap.size wr w1 := by rw [hw'']; exact below_regrown _ _ _
      have HB1 := hidI (HB.out.trans (hb1.mono HB.out.size))
      have HC1_2 := hidI ((hb1.cell hglt).trans HC2.out)
      have HC1_3 := hidI ((hb1.cell hglt).trans HC3.out)
      have hglt1 := Nat.lt_of_lt_of_le hglt hb1.size
      clear hw'' k1 cQ1 hb1 hglt c0
      have hglt := hglt1
      clear hglt1
      have cQ2 : ∀ d os, Calls Tryz.prog 95 #[.int .i64 (q2 : Int)] (grow (redrawn w1 d) os) fun e w'' => e = .returned (.string (mtS q2)) ∧ ∃ p : Regrown, w'' = grow (redrawn w1 p.d) p.os := fun d os => Calls.regrown_of (markText_any q2 _ HQB2.out.1 HQB2.out.2)
      go_wp2_with fail
      have k2 := cell_regrown HC1_2.out
      refine wp_region_quiet_below (by kernel_rfl) (by kernel_rfl) ?_
      repeat (go_big_quiet_step (exact cQ2 _ _))
      refine wpQuiet_nil ?_
      intro w2 hw'
      obtain ⟨⟨dq, osq⟩, hw''⟩ := hw'
      have hb2 : Below w1.heap.size w1 w2 := by rw [hw'']; exact below_regrown _ _ _
      have HB2 := hidI (HB1.out.trans (hb2.mono HB1.out.size))
      have HC2_3 := hidI ((hb2.cell hglt).trans HC1_3.out)
      have hglt2 := Nat.lt_of_lt_of_le hglt hb2.size
      clear hw'' k2 cQ2 hb2 hglt
      have hglt := hglt2
      clear hglt2
      have cQ3 : ∀ d os, Calls Tryz.prog 95 #[.int .i64 (q3 : Int)] (grow (redrawn w2 d) os) fun e w'' => e = .returned (.string (mtS q3)) ∧ ∃ p : Regrown, w'' = grow (redrawn w2 p.d) p.os := fun d os => Calls.regrown_of (markText_any q3 _ HQB3.out.1 HQB3.out.2)
      go_wp2_with fail
      have k3 := cell_regrown HC2_3.out
      refine wp_region_quiet_below (by kernel_rfl) (by kernel_rfl) ?_
      repeat (go_big_quiet_step (exact cQ3 _ _))
      refine wpQuiet_nil ?_
      intro w3 hw'
      obtain ⟨⟨dq, osq⟩, hw''⟩ := hw'
      have hb3 : Below w2.heap.size w2 w3 := by rw [hw'']; exact below_regrown _ _ _
      have HB3 := hidI (HB2.out.trans (hb3.mono HB2.out.size))
      have hglt3 := Nat.lt_of_lt_of_le hglt hb3.size
      clear hw'' k3 cQ3 hb3 hglt
      have hglt := hglt3
      clear hglt3
      go_wp2
      go_roundg (gk - 1)
      case rel => exact ⟨j1, rfl, by have := HJ.out; omega, by have := HJ.out; have := HQ.out; rw [show q4 = k0 + j1 * 4 from by omega], HB3.out⟩
      case measure => omega
    · have hlti : ¬ (j : Int) < (n : Int) := by omega
      obtain rfl : j = n := by omega
      subst hq
      go_wp2
      go_ret
      exact ⟨rfl, HB.out⟩
theorem heldExpS_any (base n k0 : Nat) (r : Rw) (w : World) (h1 : OwnG w base 102 4 r n (FK (fun i => !decide (i = 0)) 4 k0) (n * 4)) (hn : n ≤ 4000) (hk0 : 0 < k0) (hk : k0 ≤ 50000) :
    Calls Tryz.prog 37 #[.slice r.a n r.cap, .int .i64 k0] w fun e w' => e = .returned (.int .i64 ((k0 + n * 4 : Nat) : Int)) ∧ Below w.heap.size w w' := by
  by_cases h0 : n = 0
  · subst h0
    refine (heldExpS_zero _ _ k0 w).mono ?_
    rintro e w1 ⟨rfl, rfl⟩
    exact ⟨by simp, Below.refl _ _⟩
  · obtain ⟨xs, h2, h3⟩ := h1
    rcases h2.nil_or with ⟨_, _, e⟩ | ⟨g, e1⟩
    · exact absurd e h0
    · rw [e1]
      exact heldExpS_row base g n k0 r w ⟨xs, h2, h3⟩ e1 hn hk0 hk
set_option maxRecDepth 100000 in
set_option maxHeartbeats 3200000 in
theorem heldStmtS_zero (a1 : Option Addr) (c1 k0 : Nat) (w : World) : Calls Tryz.prog 38 #[.slice a1 0 c1, .int .i64 k0] w fun e w' => e = .returned (.int .i64 k0) ∧ w' = w := by
  go_enter Tryz.func38, Tryz.ntmps38
  go_wp2
  go_loopg [1, 5] 1 (fun k q i wr => k = 1 ∧ q = .int .i64 k0 ∧ i = .int .i64 0 ∧ wr = w)
  case atStart => exact ⟨rfl, rfl, rfl, rfl⟩
  case round =>
    obtain ⟨rfl, rfl, rfl, rfl⟩ := hrel
    go_wp2
    go_ret
    exact ⟨rfl, rfl⟩
set_option maxRecDepth 100000 in
set_option maxHeartbeats 3200000 in
theorem heldStmtS_row (base g n k0 : Nat) (r : Rw) (w : World) (h1 : OwnG w base 106 3 r n (FK (fun i => decide (i = 1)) 3 k0) (n * 3)) (e1 : r.a = some ⟨g, 0, none⟩) (hn : n ≤ 4000) (hk0 : 0 < k0) (hk : k0 ≤ 50000) :
    Calls Tryz.prog 38 #[.slice (some ⟨g, 0, none⟩) n r.cap, .int .i64 k0] w fun e w' => e = .returned (.int .i64 ((k0 + n * 3 : Nat) : Int)) ∧ Below w.heap.size w w' := by
  have H1 := hidI h1
  have E1 := hidI e1
  clear h1 e1
  go_enter Tryz.func38, Tryz.ntmps38
  go_wp2
  go_loopg [1, 5] n (fun k q i wr => ∃ j : Nat, i = .int .i64 j ∧ j + k = n ∧ q = .int .i64 ((k0 + j * 3 : Nat) : Int) ∧ Below w.heap.size w wr)
  case atStart => exact ⟨0, rfl, by omega, by simp, Below.refl _ _⟩
  case round =>
    obtain ⟨j, rfl, hj, hq, hb⟩ := hrel
    have HB := hidI hb
    clear hb
    by_cases hlt : j < n
    · have hlti : (j : Int) < (n : Int) := by omega
      obtain ⟨q0, hq0⟩ : ∃ q0 : Nat, q0 = k0 + (j * 3) := ⟨_, rfl⟩
      rw [← hq0] at hq
      subst hq
      obtain ⟨q1, hq1⟩ : ∃ q1 : Nat, q1 = q0 + 1 := ⟨_, rfl⟩
      have eq1 : (q0 : Int) + 1 = (q1 : Int) := by omega
      obtain ⟨q2, hq2⟩ : ∃ q2 : Nat, q2 = q1 + 1 := ⟨_, rfl⟩
      have eq2 : (q1 : Int) + 1 = (q2 : Int) := by omega
      obtain ⟨q3, hq3⟩ : ∃ q3 : Nat, q3 = q2 + 1 := ⟨_, rfl⟩
      have eq3 : (q2 : Int) + 1 = (q3 : Int) := by omega
      have HC0 : Hid (wr.cell? ⟨g, j * 3, none⟩ = some (.int .i64 (q0 : Int))) := by have := (H1.out.later HB.out).cell E1.out (j * 3) (by omega) (by omega); rw [fk_i (c := 0) (q := q0) (by omega) (by decide) (by omega)] at this; exact this
      have HC1 : Hid (wr.cell? ⟨g, j * 3 + 1, none⟩ = some (.string (mtS q1))) := by have := (H1.out.later HB.out).cell E1.out (j * 3 + 1) (by omega) (by omega); rw [fk_s (c := 1) (q := q1) (by omega) (by decide) (by omega)] at this; exact this
      have HC2 : Hid (wr.cell? ⟨g, j * 3 + 2, none⟩ = some (.int .i64 (q2 : Int))) := by have := (H1.out.later HB.out).cell E1.out (j * 3 + 2) (by omega) (by omega); rw [fk_i (c := 2) (q := q2) (by omega) (by decide) (by omega)] at this; exact this
      have HQ : Hid (q3 = k0 + (j * 3 + 3)) := by show q3 = _; omega
      have hglt := ((H1.out.later HB.out).typed (blk_of E1.out)).2.1
      have hqb : q3 ≤ 99000 := by omega
      have HQB1 : Hid (0 < q1 ∧ q1 ≤ 100000) := ⟨by omega, by omega⟩
      obtain ⟨j1, hj1⟩ : ∃ j1, j1 = j + 1 := ⟨_, rfl⟩
      have ej : (j : Int) + 1 = (j1 : Int) := by omega
      have HJ := hidI hj1
      clear hj1 hq0 hq1 hq2 hq3
      have c0 := HC0.out
      have cQ1 : ∀ d os, Calls Tryz.prog 95 #[.int .i64 (q1 : Int)] (grow (redrawn wr d) os) fun e w'' => e = .returned (.string (mtS q1)) ∧ ∃ p : Regrown, w'' = grow (redrawn wr p.d) p.os := fun d os => Calls.regrown_of (markText_any q1 _ HQB1.out.1 HQB1.out.2)
      go_wp2_with fail
      have k1 := cell_regrown HC1.out
      refine wp_region_quiet_below (by kernel_rfl) (by kernel_rfl) ?_
      repeat (go_big_quiet_step (exact cQ1 _ _))
      refine wpQuiet_nil ?_
      intro w1 hw'
      obtain ⟨⟨dq, osq⟩, hw''⟩ := hw'
      have hb1 : Below wr.heap.size wr w1 := by rw [hw'']; exact below_regrown _ _ _
      have HB1 := hidI (HB.out.trans (hb1.mono HB.out.size))
      have HC1_2 := hidI ((hb1.cell hglt).trans HC2.out)
      have hglt1 := Nat.lt_of_lt_of_le hglt hb1.size
      clear hw'' k1 cQ1 hb1 hglt c0
      have hglt := hglt1
      clear hglt1
      have c2 := HC1_2.out
      go_wp2
      go_roundg (gk - 1)
      case rel => exact ⟨j1, rfl, by have := HJ.out; omega, by have := HJ.out; have := HQ.out; rw [show q3 = k0 + j1 * 3 from by omega], HB1.out⟩
      case measure => omega
    · have hlti : ¬ (j : Int) < (n : Int) := by omega
      obtain rfl : j = n := by omega
      subst hq
      go_wp2
      go_ret
      exact ⟨rfl, HB.out⟩
theorem heldStmtS_any (base n k0 : Nat) (r : Rw) (w : World) (h1 : OwnG w base 106 3 r n (FK (fun i => decide (i = 1)) 3 k0) (n * 3)) (hn : n ≤ 4000) (hk0 : 0 < k0) (hk : k0 ≤ 50000) :
    Calls Tryz.prog 38 #[.slice r.a n r.cap, .int .i64 k0] w fun e w' => e = .returned (.int .i64 ((k0 + n * 3 : Nat) : Int)) ∧ Below w.heap.size w w' := by
  by_cases h0 : n = 0
  · subst h0
    refine (heldStmtS_zero _ _ k0 w).mono ?_
    rintro e w1 ⟨rfl, rfl⟩
    exact ⟨by simp, Below.refl _ _⟩
  · obtain ⟨xs, h2, h3⟩ := h1
    rcases h2.nil_or with ⟨_, _, e⟩ | ⟨g, e1⟩
    · exact absurd e h0
    · rw [e1]
      exact heldStmtS_row base g n k0 r w ⟨xs, h2, h3⟩ e1 hn hk0 hk
set_option maxRecDepth 100000 in
set_option maxHeartbeats 3200000 in
theorem heldExprS_zero (a1 : Option Addr) (c1 k0 : Nat) (w : World) : Calls Tryz.prog 39 #[.slice a1 0 c1, .int .i64 k0] w fun e w' => e = .returned (.int .i64 k0) ∧ w' = w := by
  go_enter Tryz.func39, Tryz.ntmps39
  go_wp2
  go_loopg [1, 5] 1 (fun k q i wr => k = 1 ∧ q = .int .i64 k0 ∧ i = .int .i64 0 ∧ wr = w)
  case atStart => exact ⟨rfl, rfl, rfl, rfl⟩
  case round =>
    obtain ⟨rfl, rfl, rfl, rfl⟩ := hrel
    go_wp2
    go_ret
    exact ⟨rfl, rfl⟩
set_option maxRecDepth 100000 in
set_option maxHeartbeats 3200000 in
theorem heldExprS_row (base g n k0 : Nat) (r : Rw) (w : World) (h1 : OwnG w base 108 6 r n (FK (fun i => decide (i = 2) || decide (i = 3)) 6 k0) (n * 6)) (e1 : r.a = some ⟨g, 0, none⟩) (hn : n ≤ 4000) (hk0 : 0 < k0) (hk : k0 ≤ 50000) :
    Calls Tryz.prog 39 #[.slice (some ⟨g, 0, none⟩) n r.cap, .int .i64 k0] w fun e w' => e = .returned (.int .i64 ((k0 + n * 6 : Nat) : Int)) ∧ Below w.heap.size w w' := by
  have H1 := hidI h1
  have E1 := hidI e1
  clear h1 e1
  go_enter Tryz.func39, Tryz.ntmps39
  go_wp2
  go_loopg [1, 5] n (fun k q i wr => ∃ j : Nat, i = .int .i64 j ∧ j + k = n ∧ q = .int .i64 ((k0 + j * 6 : Nat) : Int) ∧ Below w.heap.size w wr)
  case atStart => exact ⟨0, rfl, by omega, by simp, Below.refl _ _⟩
  case round =>
    obtain ⟨j, rfl, hj, hq, hb⟩ := hrel
    have HB := hidI hb
    clear hb
    by_cases hlt : j < n
    · have hlti : (j : Int) < (n : Int) := by omega
      obtain ⟨q0, hq0⟩ : ∃ q0 : Nat, q0 = k0 + (j * 6) := ⟨_, rfl⟩
      rw [← hq0] at hq
      subst hq
      obtain ⟨q1, hq1⟩ : ∃ q1 : Nat, q1 = q0 + 1 := ⟨_, rfl⟩
      have eq1 : (q0 : Int) + 1 = (q1 : Int) := by omega
      obtain ⟨q2, hq2⟩ : ∃ q2 : Nat, q2 = q1 + 1 := ⟨_, rfl⟩
      have eq2 : (q1 : Int) + 1 = (q2 : Int) := by omega
      obtain ⟨q3, hq3⟩ : ∃ q3 : Nat, q3 = q2 + 1 := ⟨_, rfl⟩
      have eq3 : (q2 : Int) + 1 = (q3 : Int) := by omega
      obtain ⟨q4, hq4⟩ : ∃ q4 : Nat, q4 = q3 + 1 := ⟨_, rfl⟩
      have eq4 : (q3 : Int) + 1 = (q4 : Int) := by omega
      obtain ⟨q5, hq5⟩ : ∃ q5 : Nat, q5 = q4 + 1 := ⟨_, rfl⟩
      have eq5 : (q4 : Int) + 1 = (q5 : Int) := by omega
      obtain ⟨q6, hq6⟩ : ∃ q6 : Nat, q6 = q5 + 1 := ⟨_, rfl⟩
      have eq6 : (q5 : Int) + 1 = (q6 : Int) := by omega
      have HC0 : Hid (wr.cell? ⟨g, j * 6, none⟩ = some (.int .i64 (q0 : Int))) := by have := (H1.out.later HB.out).cell E1.out (j * 6) (by omega) (by omega); rw [fk_i (c := 0) (q := q0) (by omega) (by decide) (by omega)] at this; exact this
      have HC1 : Hid (wr.cell? ⟨g, j * 6 + 1, none⟩ = some (.int .i64 (q1 : Int))) := by have := (H1.out.later HB.out).cell E1.out (j * 6 + 1) (by omega) (by omega); rw [fk_i (c := 1) (q := q1) (by omega) (by decide) (by omega)] at this; exact this
      have HC2 : Hid (wr.cell? ⟨g, j * 6 + 2, none⟩ = some (.string (mtS q2))) := by have := (H1.out.later HB.out).cell E1.out (j * 6 + 2) (by omega) (by omega); rw [fk_s (c := 2) (q := q2) (by omega) (by decide) (by omega)] at this; exact this
      have HC3 : Hid (wr.cell? ⟨g, j * 6 + 3, none⟩ = some (.string (mtS q3))) := by have := (H1.out.later HB.out).cell E1.out (j * 6 + 3) (by omega) (by omega); rw [fk_s (c := 3) (q := q3) (by omega) (by decide) (by omega)] at this; exact this
      have HC4 : Hid (wr.cell? ⟨g, j * 6 + 4, none⟩ = some (.int .i64 (q4 : Int))) := by have := (H1.out.later HB.out).cell E1.out (j * 6 + 4) (by omega) (by omega); rw [fk_i (c := 4) (q := q4) (by omega) (by decide) (by omega)] at this; exact this
      have HC5 : Hid (wr.cell? ⟨g, j * 6 + 5, none⟩ = some (.int .i64 (q5 : Int))) := by have := (H1.out.later HB.out).cell E1.out (j * 6 + 5) (by omega) (by omega); rw [fk_i (c := 5) (q := q5) (by omega) (by decide) (by omega)] at this; exact this
      have HQ : Hid (q6 = k0 + (j * 6 + 6)) := by show q6 = _; omega
      have hglt := ((H1.out.later HB.out).typed (blk_of E1.out)).2.1
      have hqb : q6 ≤ 99000 := by omega
      have HQB2 : Hid (0 < q2 ∧ q2 ≤ 100000) := ⟨by omega, by omega⟩
      have HQB3 : Hid (0 < q3 ∧ q3 ≤ 100000) := ⟨by omega, by omega⟩
      obtain ⟨j1, hj1⟩ : ∃ j1, j1 = j + 1 := ⟨_, rfl⟩
      have ej : (j : Int) + 1 = (j1 : Int) := by omega
      have HJ := hidI hj1
      clear hj1 hq0 hq1 hq2 hq3 hq4 hq5 hq6
      have c0 := HC0.out
      have c1 := HC1.out
      have cQ2 : ∀ d os, Calls Tryz.prog 95 #[.int .i64 (q2 : Int)] (grow (redrawn wr d) os) fun e w'' => e = .returned (.string (mtS q2)) ∧ ∃ p : Regrown, w'' = grow (redrawn wr p.d) p.os := fun d os => Calls.regrown_of (markText_any q2 _ HQB2.out.1 HQB2.out.2)
      go_wp2_with fail
      have k2 := cell_regrown HC2.out
      refine wp_region_quiet_below (by kernel_rfl) (by kernel_rfl) ?_
      repeat (go_big_quiet_step (exact cQ2 _ _))
      refine wpQuiet_nil ?_
      intro w2 hw'
      obtain ⟨⟨dq, osq⟩, hw''⟩ := hw'
      have hb2 : Below wr.heap.size wr w2 := by rw [hw'']; exact below_regrown _ _ _
      have HB2 := hidI (HB.out.trans (hb2.mono HB.out.size))
      have HC2_3 := hidI ((hb2.cell hglt).trans HC3.out)
      have HC2_4 := hidI ((hb2.cell hglt).trans HC4.out)
      have HC2_5 := hidI ((hb2.cell hglt).trans HC5.out)
      have hglt2 := Nat.lt_of_lt_of_le hglt hb2.size
      clear hw'' k2 cQ2 hb2 hglt c0 c1
      have hglt := hglt2
      clear hglt2
      have cQ3 : ∀ d os, Calls Tryz.prog 95 #[.int .i64 (q3 : Int)] (grow (redrawn w2 d) os) fun e w'' => e = .returned (.string (mtS q3)) ∧ ∃ p : Regrown, w'' = grow (redrawn w2 p.d) p.os := fun d os => Calls.regrown_of (markText_any q3 _ HQB3.out.1 HQB3.out.2)
      go_wp2_with fail
      have k3 := cell_regrown HC2_3.out
      refine wp_region_quiet_below (by kernel_rfl) (by kernel_rfl) ?_
      repeat (go_big_quiet_step (exact cQ3 _ _))
      refine wpQuiet_nil ?_
      intro w3 hw'
      obtain ⟨⟨dq, osq⟩, hw''⟩ := hw'
      have hb3 : Below w2.heap.size w2 w3 := by rw [hw'']; exact below_regrown _ _ _
      have HB3 := hidI (HB2.out.trans (hb3.mono HB2.out.size))
      have HC3_4 := hidI ((hb3.cell hglt).trans HC2_4.out)
      have HC3_5 := hidI ((hb3.cell hglt).trans HC2_5.out)
      have hglt3 := Nat.lt_of_lt_of_le hglt hb3.size
      clear hw'' k3 cQ3 hb3 hglt
      have hglt := hglt3
      clear hglt3
      have c4 := HC3_4.out
      have c5 := HC3_5.out
      go_wp2
      go_roundg (gk - 1)
      case rel => exact ⟨j1, rfl, by have := HJ.out; omega, by have := HJ.out; have := HQ.out; rw [show q6 = k0 + j1 * 6 from by omega], HB3.out⟩
      case measure => omega
    · have hlti : ¬ (j : Int) < (n : Int) := by omega
      obtain rfl : j = n := by omega
      subst hq
      go_wp2
      go_ret
      exact ⟨rfl, HB.out⟩
theorem heldExprS_any (base n k0 : Nat) (r : Rw) (w : World) (h1 : OwnG w base 108 6 r n (FK (fun i => decide (i = 2) || decide (i = 3)) 6 k0) (n * 6)) (hn : n ≤ 4000) (hk0 : 0 < k0) (hk : k0 ≤ 50000) :
    Calls Tryz.prog 39 #[.slice r.a n r.cap, .int .i64 k0] w fun e w' => e = .returned (.int .i64 ((k0 + n * 6 : Nat) : Int)) ∧ Below w.heap.size w w' := by
  by_cases h0 : n = 0
  · subst h0
    refine (heldExprS_zero _ _ k0 w).mono ?_
    rintro e w1 ⟨rfl, rfl⟩
    exact ⟨by simp, Below.refl _ _⟩
  · obtain ⟨xs, h2, h3⟩ := h1
    rcases h2.nil_or with ⟨_, _, e⟩ | ⟨g, e1⟩
    · exact absurd e h0
    · rw [e1]
      exact heldExprS_row base g n k0 r w ⟨xs, h2, h3⟩ e1 hn hk0 hk
end Go.Proofs.YticdggnnpjachaaGreat
namespace Go.Proofs.YticdggnnpjachaaGreat
open Go.RowKit Go.PlainAid Go.Sort

theorem str_flat (l : List ByteArray) : (l.flatMap fun x => [Value.string x]) = l.map .string := by
  induction l with
  | nil => rfl
  | cons x l ih => rw [List.flatMap_cons, ih]; rfl
theorem OwnMod.keepL {w w' : World} {base : Nat} {S : Sv} {q : PS} (h : OwnMod w base S q) (hb : Below w.heap.size w w') : OwnMod w' base S q :=
  ⟨h.rq.keep fun k g => hb.block k (h.rq.typed g).2.1, h.im.keep fun k g => hb.block k (h.im.typed g).2.1, h.ep.keep fun k g => hb.block k (h.ep.typed g).2.1, h.st.keep fun k g => hb.block k (h.st.typed g).2.1, h.ex.keep fun k g => hb.block k (h.ex.typed g).2.1, h.inv⟩
theorem alloc_keepL {w : World} {b : Nat} {o o' : Obj} (h : w.heap[b]? = some o) : (w.alloc o').heap[b]? = some o := (Below.heap_alloc w o' b (Array.getElem?_eq_some_iff.1 h).1).trans h
theorem box2 (w : World) (a b : Obj) : ((w.alloc a).alloc b).heap[w.heap.size]? = some a ∧ ((w.alloc a).alloc b).heap[w.heap.size + 1]? = some b := by
  refine ⟨(Below.heap_alloc (w.alloc a) b _ (by rw [alloc_size]; omega)).trans (heap_alloc_new w _), ?_⟩
  have := heap_alloc_new (w.alloc a) b
  rw [alloc_size] at this
  exact this
def kq (q : PS) : Nat → Nat
  | 0 => 1
  | 1 => 1 + q.rq.length
  | 2 => 1 + q.rq.length + q.im.length * 3
  | 3 => 1 + q.rq.length + q.im.length * 3 + (q.ep ++ q.la).length * 4
  | 4 => 1 + q.rq.length + q.im.length * 3 + (q.ep ++ q.la).length * 4 + q.st.length * 3
  | _ => 1 + q.rq.length + q.im.length * 3 + (q.ep ++ q.la).length * 4 + q.st.length * 3 + q.ex.length * 6
theorem kq_bd {w : World} {base : Nat} {S : Sv} {q : PS} (h : OwnMod w base S q) (i : Nat) : 0 < kq q i ∧ kq q i ≤ 50000 := by
  obtain ⟨h1, h2, h3, h4, h5⟩ := h.inv
  have e : (q.ep ++ q.la).length = q.ep.length + q.la.length := by simp
  unfold kq
  split <;> omega
theorem len_bd {w : World} {base : Nat} {S : Sv} {q : PS} (h : OwnMod w base S q) : q.rq.length ≤ 4000 ∧ q.im.length ≤ 4000 ∧ (q.ep ++ q.la).length ≤ 4000 ∧ q.st.length ≤ 4000 ∧ q.ex.length ≤ 4000 := by
  obtain ⟨h1, h2, h3, h4, h5⟩ := h.inv
  have e : (q.ep ++ q.la).length = q.ep.length + q.la.length := by simp
  omega
structure OwnMk (w : World) (base : Nat) (S : Sv) (q : PS) : Prop where
  rq : OwnG w base 9 1 S.rq q.rq.length (FK (fun _ => true) 1 (kq q 0)) (q.rq.length)
  im : OwnG w base 100 3 S.im q.im.length (FK (fun _ => true) 3 (kq q 1)) (q.im.length * 3)
  ep : OwnG w base 102 4 S.ep (q.ep ++ q.la).length (FK (fun i => !decide (i = 0)) 4 (kq q 2)) ((q.ep ++ q.la).length * 4)
  st : OwnG w base 106 3 S.st q.st.length (FK (fun i => decide (i = 1)) 3 (kq q 3)) (q.st.length * 3)
  ex : OwnG w base 108 6 S.ex q.ex.length (FK (fun i => decide (i = 2) || decide (i = 3)) 6 (kq q 4)) (q.ex.length * 6)
theorem OwnMk.later {w w' : World} {base : Nat} {S : Sv} {q : PS} (h : OwnMk w base S q) (hb : Below w.heap.size w w') : OwnMk w' base S q := ⟨h.rq.later hb, h.im.later hb, h.ep.later hb, h.st.later hb, h.ex.later hb⟩
theorem OwnR.aside {w w' : World} {b s n b2 s2 n2 : Nat} {e e2 : TypeId} {r r2 : Rw} {xs ys : List Value} (h : OwnR w b e s r n xs) (h2 : OwnR w b2 e2 s2 r2 n2 ys) (he : e ≠ e2) (g : w.grownBy w' r2.blk) : OwnR w' b e s r n xs :=
  h.keep fun k hk => g.block k (h.typed hk).2.1 fun e' => h.ne h2 he hk e'.symm
theorem OwnG.aside {w w' : World} {b s n c b2 s2 n2 : Nat} {e e2 : TypeId} {r r2 : Rw} {F : Nat → Value} {ys : List Value} (h : OwnG w b e s r n F c) (h2 : OwnR w b2 e2 s2 r2 n2 ys) (he : e ≠ e2) (g : w.grownBy w' r2.blk) : OwnG w' b e s r n F c := by
  obtain ⟨xs, h1, h3⟩ := h
  exact ⟨xs, h1.aside h2 he g, h3⟩
theorem gb_box {w w' : World} {b s n k : Nat} {e : TypeId} {r : Rw} {ys : List Value} {o : Obj} (h2 : OwnR w b e s r n ys) (hk : w.heap[k]? = some o) (hn : ∀ cur, o ≠ .cells cur e (0, 0)) (g : w.grownBy w' r.blk) : w'.heap[k]? = some o :=
  (g.block k (Array.getElem?_eq_some_iff.1 hk).1 fun e' => by
    obtain ⟨_, _, cur, h3⟩ := h2.typed e'.symm
    rw [hk] at h3
    exact hn cur (Option.some.inj h3)).trans hk
theorem gb_under {w w' : World} {b s n : Nat} {e : TypeId} {r : Rw} {ys : List Value} (h2 : OwnR w b e s r n ys) (hb : b ≤ w.heap.size) (g : w.grownBy w' r.blk) : Below b w w' :=
  ⟨g.os, g.tape, g.output, g.size, fun k hk => g.block k (by omega) fun e' => by have := (h2.typed e'.symm).1; omega⟩
set_option maxRecDepth 100000 in
set_option maxHeartbeats 3200000 in
theorem eqMod_any (bb1 bb2 : Nat) (S1 S2 : Sv) (q : PS) (w : World) (h1 : OwnMod w bb1 S1 q) (h2 : OwnMod w bb2 S2 q) :
    Calls Tryz.prog 8 #[modV S1 q, modV S2 q] w fun e w' => e = .returned (.bool true) ∧ Below w.heap.size w w' := by
  obtain ⟨l1, l2, l3, l4, l5⟩ := len_bd h1
  have H1 := hidI (h1.keepL (below2 w (.cells #[.slice S1.rq.a q.rq.length S1.rq.cap, .slice S1.im.a q.im.length S1.im.cap, .slice S1.ep.a (q.ep ++ q.la).length S1.ep.cap, .slice S1.st.a q.st.length S1.st.cap, .slice S1.ex.a q.ex.length S1.ex.cap] 28) (.cells #[.slice S2.rq.a q.rq.length S2.rq.cap, .slice S2.im.a q.im.length S2.im.cap, .slice S2.ep.a (q.ep ++ q.la).length S2.ep.cap, .slice S2.st.a q.st.length S2.st.cap, .slice S2.ex.a q.ex.length S2.ex.cap] 28)))
  have H2 := hidI (h2.keepL (below2 w (.cells #[.slice S1.rq.a q.rq.length S1.rq.cap, .slice S1.im.a q.im.length S1.im.cap, .slice S1.ep.a (q.ep ++ q.la).length S1.ep.cap, .slice S1.st.a q.st.length S1.st.cap, .slice S1.ex.a q.ex.length S1.ex.cap] 28) (.cells #[.slice S2.rq.a q.rq.length S2.rq.cap, .slice S2.im.a q.im.length S2.im.cap, .slice S2.ep.a (q.ep ++ q.la).length S2.ep.cap, .slice S2.st.a q.st.length S2.st.cap, .slice S2.ex.a q.ex.length S2.ex.cap] 28)))
  have HB := hidI (below2 w (.cells #[.slice S1.rq.a q.rq.length S1.rq.cap, .slice S1.im.a q.im.length S1.im.cap, .slice S1.ep.a (q.ep ++ q.la).length S1.ep.cap, .slice S1.st.a q.st.length S1.st.cap, .slice S1.ex.a q.ex.length S1.ex.cap] 28) (.cells #[.slice S2.rq.a q.rq.length S2.rq.cap, .slice S2.im.a q.im.length S2.im.cap, .slice S2.ep.a (q.ep ++ q.la).length S2.ep.cap, .slice S2.st.a q.st.length S2.st.cap, .slice S2.ex.a q.ex.length S2.ex.cap] 28))
  have HX := hidI (box2 w (.cells #[.slice S1.rq.a q.rq.length S1.rq.cap, .slice S1.im.a q.im.length S1.im.cap, .slice S1.ep.a (q.ep ++ q.la).length S1.ep.cap, .slice S1.st.a q.st.length S1.st.cap, .slice S1.ex.a q.ex.length S1.ex.cap] 28) (.cells #[.slice S2.rq.a q.rq.length S2.rq.cap, .slice S2.im.a q.im.length S2.im.cap, .slice S2.ep.a (q.ep ++ q.la).length S2.ep.cap, .slice S2.st.a q.st.length S2.st.cap, .slice S2.ex.a q.ex.length S2.ex.cap] 28))
  clear h1 h2
  unfold modV
  generalize he : q.ep ++ q.la = ee at *
  have HE : Hid (q.ep ++ q.la = ee) := he
  clear he
  go_enter Tryz.func8, Tryz.ntmps8
  go_wp2_with fail
  refine (eqStringS_any _ _ S1.rq S2.rq q.rq _ (by have := H1.out.rq; rw [← str_flat] at this; exact this) (by have := H2.out.rq; rw [← str_flat] at this; exact this) (Nat.le_trans l1 (by omega))).mono ?_
  rintro e w0 ⟨rfl, hb⟩
  have H10 := hidI (H1.out.keepL hb)
  have H20 := hidI (H2.out.keepL hb)
  have HB0 := hidI (HB.out.trans (hb.mono HB.out.size))
  have HX0 := hidI (And.intro ((hb.block _ (Array.getElem?_eq_some_iff.1 HX.out.1).1).trans HX.out.1) ((hb.block _ (Array.getElem?_eq_some_iff.1 HX.out.2).1).trans HX.out.2))
  clear hb
  obtain ⟨c0, c1, c2, c3, c4, cf⟩ := five_of HX0.out.1
  obtain ⟨d0, d1, d2, d3, d4, df⟩ := five_of HX0.out.2
  go_wp2_with fail
  refine (eqImpS_any _ _ S1.im S2.im q.im _ H10.out.im H20.out.im (Nat.le_trans l2 (by omega))).mono ?_
  rintro e w1 ⟨rfl, hb⟩
  have H11 := hidI (H10.out.keepL hb)
  have H21 := hidI (H20.out.keepL hb)
  have HB1 := hidI (HB0.out.trans (hb.mono HB0.out.size))
  have HX1 := hidI (And.intro ((hb.block _ (Array.getElem?_eq_some_iff.1 HX0.out.1).1).trans HX0.out.1) ((hb.block _ (Array.getElem?_eq_some_iff.1 HX0.out.2).1).trans HX0.out.2))
  clear hb c0 c1 c2 c3 c4 cf d0 d1 d2 d3 d4 df
  obtain ⟨c0, c1, c2, c3, c4, cf⟩ := five_of HX1.out.1
  obtain ⟨d0, d1, d2, d3, d4, df⟩ := five_of HX1.out.2
  go_wp2_with fail
  refine (eqExpS_any _ _ S1.ep S2.ep ee _ (by have := H11.out.ep; rw [HE.out] at this; exact this) (by have := H21.out.ep; rw [HE.out] at this; exact this) (Nat.le_trans l3 (by omega))).mono ?_
  rintro e w2 ⟨rfl, hb⟩
  have H12 := hidI (H11.out.keepL hb)
  have H22 := hidI (H21.out.keepL hb)
  have HB2 := hidI (HB1.out.trans (hb.mono HB1.out.size))
  have HX2 := hidI (And.intro ((hb.block _ (Array.getElem?_eq_some_iff.1 HX1.out.1).1).trans HX1.out.1) ((hb.block _ (Array.getElem?_eq_some_iff.1 HX1.out.2).1).trans HX1.out.2))
  clear hb c0 c1 c2 c3 c4 cf d0 d1 d2 d3 d4 df
  obtain ⟨c0, c1, c2, c3, c4, cf⟩ := five_of HX2.out.1
  obtain ⟨d0, d1, d2, d3, d4, df⟩ := five_of HX2.out.2
  go_wp2_with fail
  refine (eqStmtS_any _ _ S1.st S2.st q.st _ H12.out.st H22.out.st (Nat.le_trans l4 (by omega))).mono ?_
  rintro e w3 ⟨rfl, hb⟩
  have H13 := hidI (H12.out.keepL hb)
  have H23 := hidI (H22.out.keepL hb)
  have HB3 := hidI (HB2.out.trans (hb.mono HB2.out.size))
  have HX3 := hidI (And.intro ((hb.block _ (Array.getElem?_eq_some_iff.1 HX2.out.1).1).trans HX2.out.1) ((hb.block _ (Array.getElem?_eq_some_iff.1 HX2.out.2).1).trans HX2.out.2))
  clear hb c0 c1 c2 c3 c4 cf d0 d1 d2 d3 d4 df
  obtain ⟨c0, c1, c2, c3, c4, cf⟩ := five_of HX3.out.1
  obtain ⟨d0, d1, d2, d3, d4, df⟩ := five_of HX3.out.2
  go_wp2_with fail
  refine (eqExprS_any _ _ S1.ex S2.ex q.ex _ H13.out.ex H23.out.ex (Nat.le_trans l5 (by omega))).mono ?_
  rintro e w4 ⟨rfl, hb⟩
  have H14 := hidI (H13.out.keepL hb)
  have H24 := hidI (H23.out.keepL hb)
  have HB4 := hidI (HB3.out.trans (hb.mono HB3.out.size))
  have HX4 := hidI (And.intro ((hb.block _ (Array.getElem?_eq_some_iff.1 HX3.out.1).1).trans HX3.out.1) ((hb.block _ (Array.getElem?_eq_some_iff.1 HX3.out.2).1).trans HX3.out.2))
  clear hb c0 c1 c2 c3 c4 cf d0 d1 d2 d3 d4 df
  obtain ⟨c0, c1, c2, c3, c4, cf⟩ := five_of HX4.out.1
  obtain ⟨d0, d1, d2, d3, d4, df⟩ := five_of HX4.out.2
  go_wp2
  go_ret
  exact ⟨rfl, HB4.out⟩
set_option maxRecDepth 100000 in
set_option maxHeartbeats 3200000 in
theorem markMod_any (base : Nat) (S : Sv) (q : PS) (w : World) (h : OwnMod w base S q) (hb : base ≤ w.heap.size) :
    Calls Tryz.prog 9 #[modV S q, .int .i64 1] w fun e w' => e = .returned (.int .i64 (kq q 5)) ∧ OwnMk w' base S q ∧ Below base w w' ∧ ∀ (k : Nat) (cs : Array Value), w.heap[k]? = some (.cells cs 28 (0, 0)) → w'.heap[k]? = some (.cells cs 28 (0, 0)) := by
  obtain ⟨l1, l2, l3, l4, l5⟩ := len_bd h
  have kb := kq_bd h
  have hbs : base ≤ w.heap.size + 1 := by omega
  have HM := hidI (h.keepL ((Below.refl w.heap.size w).alloc (Nat.le_refl _) (.cells #[.slice S.rq.a q.rq.length S.rq.cap, .slice S.im.a q.im.length S.im.cap, .slice S.ep.a (q.ep ++ q.la).length S.ep.cap, .slice S.st.a q.st.length S.st.cap, .slice S.ex.a q.ex.length S.ex.cap] 28)))
  have HX : Hid ((w.alloc (.cells #[.slice S.rq.a q.rq.length S.rq.cap, .slice S.im.a q.im.length S.im.cap, .slice S.ep.a (q.ep ++ q.la).length S.ep.cap, .slice S.st.a q.st.length S.st.cap, .slice S.ex.a q.ex.length S.ex.cap] 28)).heap[w.heap.size]? = some (.cells #[.slice S.rq.a q.rq.length S.rq.cap, .slice S.im.a q.im.length S.im.cap, .slice S.ep.a (q.ep ++ q.la).length S.ep.cap, .slice S.st.a q.st.length S.st.cap, .slice S.ex.a q.ex.length S.ex.cap] 28 (0, 0))) := heap_alloc_new w _
  have HU : Hid (Below base w (w.alloc (.cells #[.slice S.rq.a q.rq.length S.rq.cap, .slice S.im.a q.im.length S.im.cap, .slice S.ep.a (q.ep ++ q.la).length S.ep.cap, .slice S.st.a q.st.length S.st.cap, .slice S.ex.a q.ex.length S.ex.cap] 28))) := ((Below.refl w.heap.size w).alloc (Nat.le_refl _) _).mono hb
  have KB := hidI kb
  clear h kb
  unfold modV
  rw [show Value.int .i64 1 = .int .i64 ((kq q 0 : Nat) : Int) from rfl]
  generalize he : q.ep ++ q.la = ee at *
  have HE : Hid (q.ep ++ q.la = ee) := he
  have REP : Hid (OwnR (w.alloc (.cells #[.slice S.rq.a q.rq.length S.rq.cap, .slice S.im.a q.im.length S.im.cap, .slice S.ep.a ee.length S.ep.cap, .slice S.st.a q.st.length S.st.cap, .slice S.ex.a q.ex.length S.ex.cap] 28)) base 102 4 S.ep ee.length (ee.flatMap epL)) := by show OwnR _ _ _ _ _ _ _; subst he; exact HM.out.ep
  clear he
  go_enter Tryz.func9, Tryz.ntmps9
  go_wp2_with fail
  refine (markStringS_any base q.rq.length (kq q 0) S.rq _ (OwnG.start (HM.out.rq) _) l1 (KB.out 0).1 (KB.out 0).2).mono ?_
  rintro e w0 ⟨rfl, o0, g0⟩
  have R0im := hidI ((HM.out.im).aside (HM.out.rq) (by decide) g0)
  have R0ep := hidI ((REP.out).aside (HM.out.rq) (by decide) g0)
  have R0st := hidI ((HM.out.st).aside (HM.out.rq) (by decide) g0)
  have R0ex := hidI ((HM.out.ex).aside (HM.out.rq) (by decide) g0)
  have D0rq := hidI o0
  have HX0 := hidI (gb_box (HM.out.rq) HX.out (by intro cur e; cases e) g0)
  have HU0 := hidI (HU.out.trans (gb_under (HM.out.rq) (Nat.le_trans hb (by have := HU.out.size; exact this)) g0))
  have HN0 := hidI (fun (k : Nat) (cs : Array Value) hk => gb_box (HM.out.rq) (k := k) (o := .cells cs 28 (0, 0)) hk (by intro cur e; cases e) g0)
  clear o0 g0
  obtain ⟨c0, c1, c2, c3, c4, cf⟩ := five_of HX0.out
  have e0 : kq q 0 + q.rq.length = kq q 1 := rfl
  rw [e0]
  clear e0
  go_wp2_with fail
  refine (markImpS_any base q.im.length (kq q 1) S.im _ (OwnG.start (R0im.out) _) l2 (KB.out 1).1 (KB.out 1).2).mono ?_
  rintro e w1 ⟨rfl, o1, g1⟩
  have R1ep := hidI ((R0ep.out).aside (R0im.out) (by decide) g1)
  have R1st := hidI ((R0st.out).aside (R0im.out) (by decide) g1)
  have R1ex := hidI ((R0ex.out).aside (R0im.out) (by decide) g1)
  have D1rq := hidI ((D0rq.out).aside (R0im.out) (by decide) g1)
  have D1im := hidI o1
  have HX1 := hidI (gb_box (R0im.out) HX0.out (by intro cur e; cases e) g1)
  have HU1 := hidI (HU0.out.trans (gb_under (R0im.out) (Nat.le_trans hb (by have := HU0.out.size; exact this)) g1))
  have HN1 := hidI (fun (k : Nat) (cs : Array Value) hk => gb_box (R0im.out) (k := k) (o := .cells cs 28 (0, 0)) hk (by intro cur e; cases e) g1)
  clear o1 g1 c0 c1 c2 c3 c4 cf
  obtain ⟨c0, c1, c2, c3, c4, cf⟩ := five_of HX1.out
  have e1 : kq q 1 + q.im.length * 3 = kq q 2 := rfl
  rw [e1]
  clear e1
  go_wp2_with fail
  refine (markExpS_any base ee.length (kq q 2) S.ep _ (OwnG.start (R1ep.out) _) l3 (KB.out 2).1 (KB.out 2).2).mono ?_
  rintro e w2 ⟨rfl, o2, g2⟩
  have R2st := hidI ((R1st.out).aside (R1ep.out) (by decide) g2)
  have R2ex := hidI ((R1ex.out).aside (R1ep.out) (by decide) g2)
  have D2rq := hidI ((D1rq.out).aside (R1ep.out) (by decide) g2)
  have D2im := hidI ((D1im.out).aside (R1ep.out) (by decide) g2)
  have D2ep := hidI o2
  have HX2 := hidI (gb_box (R1ep.out) HX1.out (by intro cur e; cases e) g2)
  have HU2 := hidI (HU1.out.trans (gb_under (R1ep.out) (Nat.le_trans hb (by have := HU1.out.size; exact this)) g2))
  have HN2 := hidI (fun (k : Nat) (cs : Array Value) hk => gb_box (R1ep.out) (k := k) (o := .cells cs 28 (0, 0)) hk (by intro cur e; cases e) g2)
  clear o2 g2 c0 c1 c2 c3 c4 cf
  obtain ⟨c0, c1, c2, c3, c4, cf⟩ := five_of HX2.out
  have e2 : kq q 2 + ee.length * 4 = kq q 3 := by rw [← HE.out]; rfl
  rw [e2]
  clear e2
  go_wp2_with fail
  refine (markStmtS_any base q.st.length (kq q 3) S.st _ (OwnG.start (R2st.out) _) l4 (KB.out 3).1 (KB.out 3).2).mono ?_
  rintro e w3 ⟨rfl, o3, g3⟩
  have R3ex := hidI ((R2ex.out).aside (R2st.out) (by decide) g3)
  have D3rq := hidI ((D2rq.out).aside (R2st.out) (by decide) g3)
  have D3im := hidI ((D2im.out).aside (R2st.out) (by decide) g3)
  have D3ep := hidI ((D2ep.out).aside (R2st.out) (by decide) g3)
  have D3st := hidI o3
  have HX3 := hidI (gb_box (R2st.out) HX2.out (by intro cur e; cases e) g3)
  have HU3 := hidI (HU2.out.trans (gb_under (R2st.out) (Nat.le_trans hb (by have := HU2.out.size; exact this)) g3))
  have HN3 := hidI (fun (k : Nat) (cs : Array Value) hk => gb_box (R2st.out) (k := k) (o := .cells cs 28 (0, 0)) hk (by intro cur e; cases e) g3)
  clear o3 g3 c0 c1 c2 c3 c4 cf
  obtain ⟨c0, c1, c2, c3, c4, cf⟩ := five_of HX3.out
  have e3 : kq q 3 + q.st.length * 3 = kq q 4 := rfl
  rw [e3]
  clear e3
  go_wp2_with fail
  refine (markExprS_any base q.ex.length (kq q 4) S.ex _ (OwnG.start (R3ex.out) _) l5 (KB.out 4).1 (KB.out 4).2).mono ?_
  rintro e w4 ⟨rfl, o4, g4⟩
  have D4rq := hidI ((D3rq.out).aside (R3ex.out) (by decide) g4)
  have D4im := hidI ((D3im.out).aside (R3ex.out) (by decide) g4)
  have D4ep := hidI ((D3ep.out).aside (R3ex.out) (by decide) g4)
  have D4st := hidI ((D3st.out).aside (R3ex.out) (by decide) g4)
  have D4ex := hidI o4
  have HX4 := hidI (gb_box (R3ex.out) HX3.out (by intro cur e; cases e) g4)
  have HU4 := hidI (HU3.out.trans (gb_under (R3ex.out) (Nat.le_trans hb (by have := HU3.out.size; exact this)) g4))
  have HN4 := hidI (fun (k : Nat) (cs : Array Value) hk => gb_box (R3ex.out) (k := k) (o := .cells cs 28 (0, 0)) hk (by intro cur e; cases e) g4)
  clear o4 g4 c0 c1 c2 c3 c4 cf
  obtain ⟨c0, c1, c2, c3, c4, cf⟩ := five_of HX4.out
  have e4 : kq q 4 + q.ex.length * 6 = kq q 5 := rfl
  rw [e4]
  clear e4
  go_wp2
  go_ret
  exact ⟨rfl, ⟨D4rq.out, D4im.out, (by rw [HE.out]; exact D4ep.out), D4st.out, D4ex.out⟩, HU4.out, fun k cs hk => HN4.out k cs (HN3.out k cs (HN2.out k cs (HN1.out k cs (HN0.out k cs (alloc_keepL hk)))))⟩
set_option maxRecDepth 100000 in
set_option maxHeartbeats 3200000 in
theorem heldMod_any (base : Nat) (S : Sv) (q : PS) (w : World) (h : OwnMk w base S q) (kb : ∀ i, 0 < kq q i ∧ kq q i ≤ 50000) (l1 : q.rq.length ≤ 4000) (l2 : q.im.length ≤ 4000) (l3 : (q.ep ++ q.la).length ≤ 4000) (l4 : q.st.length ≤ 4000) (l5 : q.ex.length ≤ 4000) :
    Calls Tryz.prog 10 #[modV S q, .int .i64 1] w fun e w' => e = .returned (.int .i64 (kq q 5)) ∧ Below w.heap.size w w' := by
  have HM := hidI (h.later ((Below.refl w.heap.size w).alloc (Nat.le_refl _) (.cells #[.slice S.rq.a q.rq.length S.rq.cap, .slice S.im.a q.im.length S.im.cap, .slice S.ep.a (q.ep ++ q.la).length S.ep.cap, .slice S.st.a q.st.length S.st.cap, .slice S.ex.a q.ex.length S.ex.cap] 28)))
  have HX : Hid ((w.alloc (.cells #[.slice S.rq.a q.rq.length S.rq.cap, .slice S.im.a q.im.length S.im.cap, .slice S.ep.a (q.ep ++ q.la).length S.ep.cap, .slice S.st.a q.st.length S.st.cap, .slice S.ex.a q.ex.length S.ex.cap] 28)).heap[w.heap.size]? = some (.cells #[.slice S.rq.a q.rq.length S.rq.cap, .slice S.im.a q.im.length S.im.cap, .slice S.ep.a (q.ep ++ q.la).length S.ep.cap, .slice S.st.a q.st.length S.st.cap, .slice S.ex.a q.ex.length S.ex.cap] 28 (0, 0))) := heap_alloc_new w _
  have HU : Hid (Below w.heap.size w (w.alloc (.cells #[.slice S.rq.a q.rq.length S.rq.cap, .slice S.im.a q.im.length S.im.cap, .slice S.ep.a (q.ep ++ q.la).length S.ep.cap, .slice S.st.a q.st.length S.st.cap, .slice S.ex.a q.ex.length S.ex.cap] 28))) := (Below.refl w.heap.size w).alloc (Nat.le_refl _) _
  have KB := hidI kb
  clear h kb
  unfold modV
  rw [show Value.int .i64 1 = .int .i64 ((kq q 0 : Nat) : Int) from rfl]
  generalize he : q.ep ++ q.la = ee at *
  have HE : Hid (q.ep ++ q.la = ee) := he
  clear he
  go_enter Tryz.func10, Tryz.ntmps10
  go_wp2_with fail
  refine (heldStringS_any base q.rq.length (kq q 0) S.rq _ HM.out.rq l1 (KB.out 0).1 (KB.out 0).2).mono ?_
  rintro e w0 ⟨rfl, hb⟩
  have HM0 := hidI (HM.out.later hb)
  have HX0 := hidI ((hb.block _ (Array.getElem?_eq_some_iff.1 HX.out).1).trans HX.out)
  have HU0 := hidI (HU.out.trans (hb.mono HU.out.size))
  clear hb
  obtain ⟨c0, c1, c2, c3, c4, cf⟩ := five_of HX0.out
  have e0 : kq q 0 + q.rq.length = kq q 1 := rfl
  rw [e0]
  clear e0
  have dz0 : decide ((kq q 1 : Int) < 0) = false := decide_eq_false (by omega)
  go_wp2_with fail
  refine (heldImpS_any base q.im.length (kq q 1) S.im _ HM0.out.im l2 (KB.out 1).1 (KB.out 1).2).mono ?_
  rintro e w1 ⟨rfl, hb⟩
  have HM1 := hidI (HM0.out.later hb)
  have HX1 := hidI ((hb.block _ (Array.getElem?_eq_some_iff.1 HX0.out).1).trans HX0.out)
  have HU1 := hidI (HU0.out.trans (hb.mono HU0.out.size))
  clear hb c0 c1 c2 c3 c4 cf
  obtain ⟨c0, c1, c2, c3, c4, cf⟩ := five_of HX1.out
  have e1 : kq q 1 + q.im.length * 3 = kq q 2 := rfl
  rw [e1]
  clear e1
  have dz1 : decide ((kq q 2 : Int) < 0) = false := decide_eq_false (by omega)
  go_wp2_with fail
  refine (heldExpS_any base ee.length (kq q 2) S.ep _ (by have := HM1.out.ep; rw [HE.out] at this; exact this) l3 (KB.out 2).1 (KB.out 2).2).mono ?_
  rintro e w2 ⟨rfl, hb⟩
  have HM2 := hidI (HM1.out.later hb)
  have HX2 := hidI ((hb.block _ (Array.getElem?_eq_some_iff.1 HX1.out).1).trans HX1.out)
  have HU2 := hidI (HU1.out.trans (hb.mono HU1.out.size))
  clear hb c0 c1 c2 c3 c4 cf
  obtain ⟨c0, c1, c2, c3, c4, cf⟩ := five_of HX2.out
  have e2 : kq q 2 + ee.length * 4 = kq q 3 := by rw [← HE.out]; rfl
  rw [e2]
  clear e2
  have dz2 : decide ((kq q 3 : Int) < 0) = false := decide_eq_false (by omega)
  go_wp2_with fail
  refine (heldStmtS_any base q.st.length (kq q 3) S.st _ HM2.out.st l4 (KB.out 3).1 (KB.out 3).2).mono ?_
  rintro e w3 ⟨rfl, hb⟩
  have HM3 := hidI (HM2.out.later hb)
  have HX3 := hidI ((hb.block _ (Array.getElem?_eq_some_iff.1 HX2.out).1).trans HX2.out)
  have HU3 := hidI (HU2.out.trans (hb.mono HU2.out.size))
  clear hb c0 c1 c2 c3 c4 cf
  obtain ⟨c0, c1, c2, c3, c4, cf⟩ := five_of HX3.out
  have e3 : kq q 3 + q.st.length * 3 = kq q 4 := rfl
  rw [e3]
  clear e3
  have dz3 : decide ((kq q 4 : Int) < 0) = false := decide_eq_false (by omega)
  go_wp2_with fail
  refine (heldExprS_any base q.ex.length (kq q 4) S.ex _ HM3.out.ex l5 (KB.out 4).1 (KB.out 4).2).mono ?_
  rintro e w4 ⟨rfl, hb⟩
  have HM4 := hidI (HM3.out.later hb)
  have HX4 := hidI ((hb.block _ (Array.getElem?_eq_some_iff.1 HX3.out).1).trans HX3.out)
  have HU4 := hidI (HU3.out.trans (hb.mono HU3.out.size))
  clear hb c0 c1 c2 c3 c4 cf
  obtain ⟨c0, c1, c2, c3, c4, cf⟩ := five_of HX4.out
  have e4 : kq q 4 + q.ex.length * 6 = kq q 5 := rfl
  rw [e4]
  clear e4
  have dz4 : decide ((kq q 5 : Int) < 0) = false := decide_eq_false (by omega)
  go_wp2
  go_ret
  exact ⟨rfl, HU4.out⟩

def modN (S : Sv) (q : PS) (n : Nat) : Value := .agg #[.slice S.rq.a q.rq.length S.rq.cap, .slice S.im.a q.im.length S.im.cap, .slice S.ep.a n S.ep.cap, .slice S.st.a q.st.length S.st.cap, .slice S.ex.a q.ex.length S.ex.cap]
theorem modV_n {S : Sv} {q : PS} {n : Nat} (h : (q.ep ++ q.la).length = n) : modV S q = modN S q n := by rw [modV, modN, h]
theorem eqMod_n {n : Nat} (bb1 bb2 : Nat) (S1 S2 : Sv) (q : PS) (w : World) (h1 : OwnMod w bb1 S1 q) (h2 : OwnMod w bb2 S2 q) (hn : (q.ep ++ q.la).length = n) :
    Calls Tryz.prog 8 #[modN S1 q n, modN S2 q n] w fun e w' => e = .returned (.bool true) ∧ Below w.heap.size w w' := by
  rw [← modV_n hn, ← modV_n hn]
  exact eqMod_any bb1 bb2 S1 S2 q w h1 h2
theorem markMod_n {n : Nat} (base : Nat) (S : Sv) (q : PS) (w : World) (h : OwnMod w base S q) (hb : base ≤ w.heap.size) (hn : (q.ep ++ q.la).length = n) :
    Calls Tryz.prog 9 #[modN S q n, .int .i64 1] w fun e w' => e = .returned (.int .i64 (kq q 5)) ∧ OwnMk w' base S q ∧ Below base w w' ∧ ∀ (k : Nat) (cs : Array Value), w.heap[k]? = some (.cells cs 28 (0, 0)) → w'.heap[k]? = some (.cells cs 28 (0, 0)) := by
  rw [← modV_n hn]
  exact markMod_any base S q w h hb
theorem heldMod_n {n : Nat} (base : Nat) (S : Sv) (q : PS) (w w0 : World) (b0 : Nat) (S' : Sv) (h : OwnMk w base S q) (h0 : OwnMod w0 b0 S' q) (hn : (q.ep ++ q.la).length = n) :
    Calls Tryz.prog 10 #[modN S q n, .int .i64 1] w fun e w' => e = .returned (.int .i64 (kq q 5)) ∧ Below w.heap.size w w' := by
  rw [← modV_n hn]
  obtain ⟨l1, l2, l3, l4, l5⟩ := len_bd h0
  exact heldMod_any base S q w h (kq_bd h0) l1 l2 l3 l4 l5
def qOf : PR → PS
  | .ok q => q
  | .error _ => startP
def zOf : PR → Int
  | .ok _ => -1
  | .error p => p
theorem ParseOut.form {s : ByteArray} {scr : Bool} {w w' : World} {e : Ending} (h : ParseOut s scr w e w') : ∃ y S, ParseR s scr y ∧ e = .returned (.tuple #[modV S (qOf y), .int .i64 (zOf y)]) ∧ OwnMod w' w.heap.size S (qOf y) := by
  obtain ⟨y, hy, hm⟩ := h
  cases y with
  | ok q =>
    obtain ⟨S, he, ho⟩ := hm
    exact ⟨_, S, hy, he, ho⟩
  | error p =>
    refine ⟨_, S0, hy, hm, own_nil _ _ _ _, own_nil _ _ _ _, own_nil _ _ _ _, own_nil _ _ _ _, own_nil _ _ _ _, ?_⟩
    exact ⟨Nat.zero_le _, Nat.zero_le _, Nat.zero_le _, Nat.zero_le _, Nat.zero_le _⟩
end Go.Proofs.YticdggnnpjachaaGreat
