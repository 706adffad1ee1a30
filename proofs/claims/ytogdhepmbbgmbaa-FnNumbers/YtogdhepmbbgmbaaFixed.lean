/-
  What impl.Fixed and spec.Fixed answer, at every number and width: the walks.
-/
import Derived.Test.YtogdhepmbbgmbaaReadFixed
import Derived.Test.YtogdhepmbbgmbaaStr
namespace Go.Proofs.Ytogdhepmbbgmbaa
open Go.RowKit Go.PlainAid

theorem Try.infoByte : (Try.prog.info? 5).map (fun i => (i.zero, i.size, i.bytes)) = some (some (.int .u8 0), 1, 1) := by kernel_rfl

set_option maxHeartbeats 400000 in
theorem fixed_impl_yes (n : Int) (m : Nat) (w : World) (hn0 : 0 ≤ n) (_ : n ≤ 9223372036854775807) (h1 : 1 ≤ m) (h7 : m ≤ 7) (hfit : n / 2 ^ (8 * m) = 0) :
    Calls Try.prog 17 #[.int .i64 n, .int .i64 m] w fun e w' => e = .returned (.string (strOfNums (dl n m))) ∧ Below w.heap.size w w' := by
  have hin := inB_yes (a := m) (b := 1) (c := 7) (by omega) (by omega)
  obtain ⟨i0, hi, hz0, hz1, hz2⟩ := info_parts Try.infoByte
  go_enter Try.func17, Try.ntmps17
  go_wp2_with (first | (go_at_call 35; refine (isFixedWidth_any _ _).mono ?_; rintro e w' ⟨rfl, rfl⟩) | (at_make; refine wpList_make_full _ rfl _ _ 22 rfl w'.heap.size 5 i0 (.int .u8 0) 1 Try.underlying22 hi hz0 hz1 _ _ _ _ m rfl rfl (by omega) (by omega) ?b2 ?b3 ?b4 ?_))
  case b2 => rw [hz2]; omega
  case b3 => unfold maxLen; omega
  case b4 => exact Nat.le_refl _
  intro w1 hown hgrow
  have hbel := (Below.refl w'.heap.size w').grown hgrow (Nat.le_refl _) (by intro k hk; cases hk)
  rw [toList_madeCells_one] at hown
  clear hgrow
  go_wp2
  go_loopw [6, 24] (fun _ i wr => ∃ k : Nat, k ≤ m ∧ i = .int .i64 k ∧ OwnB wr w'.heap.size 5 (.slice (some ⟨w'.heap.size, 0, none⟩) m m) m (fillTo (dl n m) k) ∧ Below w'.heap.size w' wr) (fun _ i _ => m - (intOf i).toNat)
  case atStart => exact ⟨0, by omega, rfl, by unfold OwnB; rw [fillTo_zero, dl_length, List.map_replicate]; exact hown, hbel⟩
  case round =>
    obtain ⟨k, hk, rfl, hown', hbel'⟩ := hrel
    clear hown hbel
    by_cases hlt : k < m
    · obtain ⟨v, hv⟩ := own_cell hown' k hlt
      have hf := own_free hown' k
      go_wp2
      go_roundw
      case rel => exact ⟨k + 1, by omega, by go_num, by rw [← fillTo_set (dl n m) k _ (by rw [dl_length]; exact hlt) (dl_at n m k hlt)]; exact own_set hown' k _, hbel'.setCell (Nat.le_refl _) _⟩
      case measure => simp [intOf]; omega
    · rw [fillTo_full _ _ (by rw [dl_length]; omega)] at hown'
      have hst := run_string_own (P := Try.prog) (src := 22) (dst := 9) Try.underlying22 Try.underlying5 Try.underlying9 hown'
      go_wp2
      go_ret
      exact ⟨rfl, hbel'⟩

set_option maxHeartbeats 400000 in
theorem fixed_impl (n m : Int) (w : World) (hb : -9223372036854775808 ≤ n ∧ n ≤ 9223372036854775807) :
    Calls Try.prog 17 #[.int .i64 n, .int .i64 m] w fun e w' => e = .returned (.string (strOfNums (fxL n m))) ∧ Below w.heap.size w w' := by
  by_cases hm : 1 ≤ m ∧ m ≤ 7
  · obtain ⟨h1, h7⟩ := hm
    obtain ⟨m, rfl⟩ := Int.eq_ofNat_of_zero_le (show 0 ≤ m by omega)
    by_cases h0 : 0 ≤ n
    · by_cases hfit : n / 2 ^ (8 * m) = 0
      · rw [fxL_yes (by omega) (by omega) h0 hfit]
        exact fixed_impl_yes n m w h0 (by omega) (by omega) (by omega) hfit
      · have HV : Hid (fxL n m = []) := fxL_no (fun h => hfit (by simpa using h.2.2.2))
        have hin := inB_yes (a := m) (b := 1) (c := 7) h1 h7
        have hne : (n / 2 ^ (8 * m) != 0) = true := by simpa using hfit
        clear hfit
        go_enter Try.func17, Try.ntmps17
        go_wp2_with (first | (go_at_call 35; refine (isFixedWidth_any _ _).mono ?_; rintro e w' ⟨rfl, rfl⟩))
        go_ret
        exact ⟨ret_str (by rw [HV.out]; rfl), Below.refl _ _⟩
    · have HV : Hid (fxL n m = []) := fxL_no (fun h => h0 h.2.2.1)
      have hin := inB_yes (a := m) (b := 1) (c := 7) h1 h7
      go_enter Try.func17, Try.ntmps17
      go_wp2_with (first | (go_at_call 35; refine (isFixedWidth_any _ _).mono ?_; rintro e w' ⟨rfl, rfl⟩))
      go_ret
      exact ⟨ret_str (by rw [HV.out]; rfl), Below.refl _ _⟩
  · have HV : Hid (fxL n m = []) := fxL_no (fun h => hm ⟨h.1, h.2.1⟩)
    have hin := inB_no hm
    go_enter Try.func17, Try.ntmps17
    go_wp2_with (first | (go_at_call 35; refine (isFixedWidth_any _ _).mono ?_; rintro e w' ⟨rfl, rfl⟩))
    go_ret
    exact ⟨ret_str (by rw [HV.out]; rfl), Below.refl _ _⟩

set_option maxHeartbeats 400000 in
theorem fixed_spec (n m : Int) (w : World) (hb : -9223372036854775808 ≤ n ∧ n ≤ 9223372036854775807) :
    Calls Try.prog 24 #[.int .i64 n, .int .i64 m] w fun e w' => e = .returned (.string (strOfNums (fxL n m))) ∧ Below w.heap.size w w' := by
  by_cases hm : 1 ≤ m ∧ m ≤ 7
  · obtain ⟨h1, h7⟩ := hm
    obtain ⟨m, rfl⟩ := Int.eq_ofNat_of_zero_le (show 0 ≤ m by omega)
    have hin := inB_yes (a := m) (b := 1) (c := 7) h1 h7
    by_cases h0 : 0 ≤ n
    · have HY : Hid (n / 2 ^ (8 * m) = 0 → fxL n m = dl n m) := fun h => fxL_yes (by omega) (by omega) h0 h
      have HN : Hid (n / 2 ^ (8 * m) ≠ 0 → fxL n m = []) := fun h => fxL_no (fun k => h (by simpa using k.2.2.2))
      go_enter Try.func24, Try.ntmps24
      go_wp2_with (first | (go_at_call 41; refine (l1In_any _ _ _ _).mono ?_; rintro e w' ⟨rfl, rfl⟩))
      go_loopw [0, 5, 6] (fun a o i wr => ∃ k : Nat, k ≤ m ∧ i = .int .i64 k ∧ a = .int .i64 (n / 2 ^ (8 * k)) ∧ o = .string (strOfNums (dl n k)) ∧ Below w'.heap.size w' wr) (fun _ _ i _ => m - (intOf i).toNat)
      case atStart => exact ⟨0, by omega, rfl, by simp, rfl, Below.refl _ _⟩
      case round =>
        obtain ⟨k, hk, rfl, rfl, rfl, hbel⟩ := hrel
        obtain ⟨hq0, hq1⟩ := shr8_bd n k h0
        have hsz : (strOfNums (dl n k)).size ≤ 7 := by rw [strOfNums_size, dl_length]; omega
        by_cases hlt : k < m
        · have hst := fun (w : World) (x : Int) => run_string_one (P := Try.prog) (src := 22) (dst := 9) Try.underlying22 Try.underlying5 Try.underlying9 w x
          have hone := fun x => strOfNums_size [x]
          go_wp2
          go_roundw
          case rel => exact ⟨k + 1, by omega, by go_num, by rw [shr8], by rw [strOfNums_cons]; rfl, hbel.alloc hbel.size _⟩
          case measure => simp [intOf]; omega
        · obtain rfl : k = m := by omega
          by_cases hz : 0 < n / 2 ^ (8 * k)
          · go_wp2
            go_ret
            exact ⟨ret_str (by rw [HN.out (by omega)]; rfl), hbel⟩
          · go_wp2
            go_ret
            exact ⟨ret_str (by rw [HY.out (by omega)]), hbel⟩
    · have HV : Hid (fxL n m = []) := fxL_no (fun h => h0 h.2.2.1)
      go_enter Try.func24, Try.ntmps24
      go_wp2_with (first | (go_at_call 41; refine (l1In_any _ _ _ _).mono ?_; rintro e w' ⟨rfl, rfl⟩))
      go_ret
      exact ⟨ret_str (by rw [HV.out]; rfl), Below.refl _ _⟩
  · have HV : Hid (fxL n m = []) := fxL_no (fun h => hm ⟨h.1, h.2.1⟩)
    have hin := inB_no hm
    go_enter Try.func24, Try.ntmps24
    go_wp2_with (first | (go_at_call 41; refine (l1In_any _ _ _ _).mono ?_; rintro e w' ⟨rfl, rfl⟩))
    go_ret
    exact ⟨ret_str (by rw [HV.out]; rfl), Below.refl _ _⟩
end Go.Proofs.Ytogdhepmbbgmbaa
