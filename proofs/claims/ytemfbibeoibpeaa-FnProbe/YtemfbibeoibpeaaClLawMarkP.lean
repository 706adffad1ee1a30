/-
  What the laws' markers and askers of lists of texts and of files answer: the walks.
-/
import Derived.Test.YtemfbibeoibpeaaClSpecProbeToMarkRow
namespace Go.Proofs.Ytemfbibeoibpeaa
open Go.RowKit Go.PlainAid Go.Sort

set_option maxRecDepth 100000 in
set_option maxHeartbeats 3200000 in
theorem markStringS_zeroP (a1 : Option Addr) (c1 k0 : Nat) (w : World) : Calls Try.prog 22 #[.slice a1 0 c1, .int .i64 k0] w fun e w' => e = .returned (.int .i64 k0) ∧ w' = w := by
  go_enter Try.func22, Try.ntmps22
  go_wp2
  go_loopg [1, 5] 1 (fun k q i wr => k = 1 ∧ q = .int .i64 k0 ∧ i = .int .i64 0 ∧ wr = w)
  case atStart => exact ⟨rfl, rfl, rfl, rfl⟩
  case round =>
    obtain ⟨rfl, rfl, rfl, rfl⟩ := hrel
    go_wp2
    go_ret
    exact ⟨rfl, rfl⟩
set_option maxRecDepth 100000 in
set_option maxHeartbeats 3200000 in
theorem markStringS_rowP (base g n cap k0 : Nat) (w : World) (h1 : OwnM w base 9 1 g n cap k0 (0)) (hn : n ≤ 1048576) (hk0 : 0 < k0) (hk : k0 ≤ 4194304) :
    Calls Try.prog 22 #[.slice (some ⟨g, 0, none⟩) n cap, .int .i64 k0] w fun e w' => e = .returned (.int .i64 ((k0 + n : Nat) : Int)) ∧ OwnM w' base 9 1 g n cap k0 (n) ∧ w.grownBy w' (some g) := by
  have H1 := hidU h1
  clear h1
  go_enter Try.func22, Try.ntmps22
  go_wp2
  go_loopg [1, 5] n (fun k q i wr => ∃ j : Nat, i = .int .i64 j ∧ j + k = n ∧ q = .int .i64 ((k0 + j : Nat) : Int) ∧ OwnM wr base 9 1 g n cap k0 (j) ∧ w.grownBy wr (some g))
  case atStart => exact ⟨0, rfl, by omega, by simp, H1.out, gm_refl _ _⟩
  case round =>
    obtain ⟨j, rfl, hj, hq, ho, hg⟩ := hrel
    have HOr := hidU ho
    have HGr := hidU hg
    clear ho hg
    by_cases hlt : j < n
    · have hlti : (j : Int) < (n : Int) := by omega
      obtain ⟨q0, hq0⟩ : ∃ q0 : Nat, q0 = k0 + (j) := ⟨_, rfl⟩
      rw [← hq0] at hq
      subst hq
      obtain ⟨q1, hq1⟩ : ∃ q1 : Nat, q1 = q0 + 1 := ⟨_, rfl⟩
      have eq1 : (q0 : Int) + 1 = (q1 : Int) := by omega
      have HF0 : Hid (q0 = k0 + (j)) := by show q0 = _; omega
      have HQ : Hid (q1 = k0 + (j + 1)) := by show q1 = _; omega
      have hqb : q1 ≤ 7000000 := by omega
      have hq0p : 0 < q0 := by omega
      have HQB0 : Hid (0 < q0 ∧ q0 ≤ 8000000) := ⟨by omega, by omega⟩
      obtain ⟨j1, hj1⟩ : ∃ j1, j1 = j + 1 := ⟨_, rfl⟩
      have ej : (j : Int) + 1 = (j1 : Int) := by omega
      have HJ := hidU hj1
      clear hj1 hq0 hq1
      obtain ⟨vr0, hvr0⟩ := HOr.out.has (j) (by omega)
      have hfr0 := HOr.out.free (j)
      go_wp2_with fail
      refine (markText_far q0 _ HQB0.out.1 HQB0.out.2).mono ?_
      rintro e w0 ⟨rfl, hb0⟩
      have HO0 := hidU (HOr.out.later hb0)
      have HG0 := hidU (gm_below HGr.out hb0)
      clear hb0
      obtain ⟨vt0_0, hvt0_0⟩ := HO0.out.has (j) (by omega)
      have hft0_0 := HO0.out.free (j)
      have HO0x : Hid (OwnM (w0.setCell ⟨g, j, none⟩ (.string (mtS q0))) base 9 1 g n cap k0 (j + 1)) := HO0.out.put (by omega) HF0.out
      have HG0x : Hid (w.grownBy (w0.setCell ⟨g, j, none⟩ (.string (mtS q0))) (some g)) := gm_set HG0.out
      go_wp2
      go_roundg (gk - 1)
      case rel => exact ⟨j1, rfl, by have := HJ.out; omega, by have := HJ.out; have := HQ.out; rw [show q1 = k0 + j1 from by omega], by have := HO0x.out; rw [show j1 = j + 1 from by have := HJ.out; omega]; exact this, HG0x.out⟩
      case measure => omega
    · have hlti : ¬ (j : Int) < (n : Int) := by omega
      obtain rfl : j = n := by omega
      subst hq
      go_wp2
      go_ret
      exact ⟨rfl, HOr.out, HGr.out⟩
set_option maxRecDepth 100000 in
set_option maxHeartbeats 3200000 in
theorem heldStringS_zeroP (a1 : Option Addr) (c1 k0 : Nat) (w : World) : Calls Try.prog 23 #[.slice a1 0 c1, .int .i64 k0] w fun e w' => e = .returned (.int .i64 k0) ∧ w' = w := by
  go_enter Try.func23, Try.ntmps23
  go_wp2
  go_loopg [1, 5] 1 (fun k q i wr => k = 1 ∧ q = .int .i64 k0 ∧ i = .int .i64 0 ∧ wr = w)
  case atStart => exact ⟨rfl, rfl, rfl, rfl⟩
  case round =>
    obtain ⟨rfl, rfl, rfl, rfl⟩ := hrel
    go_wp2
    go_ret
    exact ⟨rfl, rfl⟩
set_option maxRecDepth 100000 in
set_option maxHeartbeats 3200000 in
theorem heldStringS_rowP (base g n cap k0 : Nat) (w : World) (h1 : OwnM w base 9 1 g n cap k0 (n)) (hn : n ≤ 1048576) (hk0 : 0 < k0) (hk : k0 ≤ 4194304) :
    Calls Try.prog 23 #[.slice (some ⟨g, 0, none⟩) n cap, .int .i64 k0] w fun e w' => e = .returned (.int .i64 ((k0 + n : Nat) : Int)) ∧ Below w.heap.size w w' := by
  have H1 := hidU h1
  clear h1
  go_enter Try.func23, Try.ntmps23
  go_wp2
  go_loopg [1, 5] n (fun k q i wr => ∃ j : Nat, i = .int .i64 j ∧ j + k = n ∧ q = .int .i64 ((k0 + j : Nat) : Int) ∧ Below w.heap.size w wr)
  case atStart => exact ⟨0, rfl, by omega, by simp, Below.refl _ _⟩
  case round =>
    obtain ⟨j, rfl, hj, hq, hb⟩ := hrel
    have HB := hidU hb
    clear hb
    by_cases hlt : j < n
    · have hlti : (j : Int) < (n : Int) := by omega
      obtain ⟨q0, hq0⟩ : ∃ q0 : Nat, q0 = k0 + (j) := ⟨_, rfl⟩
      rw [← hq0] at hq
      subst hq
      obtain ⟨q1, hq1⟩ : ∃ q1 : Nat, q1 = q0 + 1 := ⟨_, rfl⟩
      have eq1 : (q0 : Int) + 1 = (q1 : Int) := by omega
      have HF0 : Hid (q0 = k0 + (j)) := by show q0 = _; omega
      have HQ : Hid (q1 = k0 + (j + 1)) := by show q1 = _; omega
      have hqb : q1 ≤ 7000000 := by omega
      have hq0p : 0 < q0 := by omega
      have HQB0 : Hid (0 < q0 ∧ q0 ≤ 8000000) := ⟨by omega, by omega⟩
      have HC0 : Hid (wr.cell? ⟨g, j, none⟩ = some (.string (mtS q0))) := (H1.out.later HB.out).cell (j) q0 (by omega) (by omega) HF0.out
      have hglt := (H1.out.later HB.out).blk.2
      obtain ⟨j1, hj1⟩ : ∃ j1, j1 = j + 1 := ⟨_, rfl⟩
      have ej : (j : Int) + 1 = (j1 : Int) := by omega
      have HJ := hidU hj1
      clear hj1 hq0 hq1
      have cQ0 : ∀ d os, Calls Try.prog 41 #[.int .i64 (q0 : Int)] (grow (redrawn wr d) os) fun e w'' => e = .returned (.string (mtS q0)) ∧ ∃ p : Regrown, w'' = grow (redrawn wr p.d) p.os := fun d os => Calls.regrown_of (markText_far q0 _ HQB0.out.1 HQB0.out.2)
      go_wp2_with fail
      have kk := cell_regrown HC0.out
      refine wp_region_quiet_below (by kernel_rfl) (by kernel_rfl) ?_
      repeat (go_big_quiet_step (exact cQ0 _ _))
      refine wpQuiet_nil ?_
      intro w0 hw'
      obtain ⟨⟨dq, osq⟩, hw''⟩ := hw'
      have hb0 : Below wr.heap.size wr w0 := by rw [hw'']; exact below_regrown _ _ _
      have HB0 := hidU (HB.out.trans (hb0.mono HB.out.size))
      have hglt0 := Nat.lt_of_lt_of_le hglt hb0.size
      clear hw'' kk cQ0 hb0 hglt
      have hglt := hglt0
      clear hglt0
      go_wp2
      go_roundg (gk - 1)
      case rel => exact ⟨j1, rfl, by have := HJ.out; omega, by have := HJ.out; have := HQ.out; rw [show q1 = k0 + j1 from by omega], HB0.out⟩
      case measure => omega
    · have hlti : ¬ (j : Int) < (n : Int) := by omega
      obtain rfl : j = n := by omega
      subst hq
      go_wp2
      go_ret
      exact ⟨rfl, HB.out⟩
end Go.Proofs.Ytemfbibeoibpeaa
