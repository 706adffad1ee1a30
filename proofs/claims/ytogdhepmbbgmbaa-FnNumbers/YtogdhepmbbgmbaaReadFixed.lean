/-
  What impl.ReadFixed and spec.ReadFixed answer, at every text and width: the walks.
-/
import Derived.Test.YtogdhepmbbgmbaaProg
import Derived.WalkKit
import Derived.WalkLawsBesides
import Derived.Test.YtogdhepmbbgmbaaAid
namespace Go.Proofs.Ytogdhepmbbgmbaa
open Go.RowKit Go.PlainAid

theorem l1In_any (a b c : Int) (w : World) :
    Calls Try.prog 41 #[.int .i64 a, .int .i64 b, .int .i64 c] w fun e w' => e = .returned (.bool (inB a b c)) ∧ w' = w := by
  by_cases h1 : b ≤ a
  · by_cases h2 : a ≤ c
    · go_enter Try.func41, Try.ntmps41
      go_wp2
      go_ret
      exact ⟨ret_bool (inB_yes h1 h2).symm, rfl⟩
    · go_enter Try.func41, Try.ntmps41
      go_wp2
      go_ret
      exact ⟨ret_bool (inB_no (by omega)).symm, rfl⟩
  · go_enter Try.func41, Try.ntmps41
    go_wp2
    go_ret
    exact ⟨ret_bool (inB_no (by omega)).symm, rfl⟩

theorem isFixedWidth_any (a : Int) (w : World) :
    Calls Try.prog 35 #[.int .i64 a] w fun e w' => e = .returned (.bool (inB a 1 7)) ∧ w' = w := by
  by_cases h1 : 1 ≤ a
  · go_enter Try.func35, Try.ntmps35
    go_wp2
    go_ret
    exact ⟨ret_bool (by simp [inB, h1]), rfl⟩
  · go_enter Try.func35, Try.ntmps35
    go_wp2
    go_ret
    exact ⟨ret_bool (inB_no (by omega)).symm, rfl⟩

set_option maxHeartbeats 400000 in
theorem readFixed_impl (s : ByteArray) (n : Int) (w : World) (_ : s.size ≤ 9223372036854775807) :
    Calls Try.prog 18 #[.string s, .int .i64 n] w fun e w' => e = .returned (.tuple #[.int .i64 (rfV s n), .bool (rfOk s n)]) ∧ w' = w := by
  by_cases hw : 1 ≤ n ∧ n ≤ 7
  · obtain ⟨h1, h7⟩ := hw
    have hin := inB_yes h1 h7
    by_cases hl : n ≤ s.size
    · have hv := rfV_yes h1 h7 hl
      have ho := rfOk_yes h1 h7 hl
      have HV : Hid (rfV s n = rfix s n.toNat ∧ rfOk s n = true) := ⟨hv, ho⟩
      clear hv ho
      go_enter Try.func18, Try.ntmps18
      go_wp2_with (go_at_call 35; refine (isFixedWidth_any _ _).mono ?_; rintro e w' ⟨rfl, rfl⟩)
      go_loop [6, 7, 18] (fun t _ i => ∃ k : Nat, (k : Int) ≤ n ∧ i = .int .i64 k ∧ t = .int .i64 (rfix s k)) (fun _ _ i => (n - intOf i).toNat)
      case atStart => exact ⟨0, by omega, rfl, rfl⟩
      case round =>
        obtain ⟨k, hk, rfl, rfl⟩ := hrel
        by_cases hlt : (k : Int) < n
        · have hmb := rfix_lt s k (by omega)
          have hb0 := bt_nonneg s k
          have hb1 := bt_le s k
          have hb := get_bt s
          have ho := or_byte (rfix s k) (bt s k) hmb.1 hmb.2 hb0 hb1
          go_wp2
          go_round
          case rel => exact ⟨k + 1, by omega, by go_num, rfl⟩
          case measure => simp [intOf]; omega
        · go_wp2
          go_ret2
          exact ⟨ret_int_bool (by rw [HV.out.1, show n.toNat = k from by omega]) HV.out.2.symm, rfl⟩
    · have HV : Hid (rfV s n = 0 ∧ rfOk s n = false) := ⟨rfV_no (by omega), rfOk_no (by omega)⟩
      go_enter Try.func18, Try.ntmps18
      go_wp2_with (go_at_call 35; refine (isFixedWidth_any _ _).mono ?_; rintro e w' ⟨rfl, rfl⟩)
      go_ret2
      exact ⟨ret_int_bool HV.out.1.symm HV.out.2.symm, rfl⟩
  · have HV : Hid (rfV s n = 0 ∧ rfOk s n = false) := ⟨rfV_no (by omega), rfOk_no (by omega)⟩
    have hin := inB_no hw
    go_enter Try.func18, Try.ntmps18
    go_wp2_with (go_at_call 35; refine (isFixedWidth_any _ _).mono ?_; rintro e w' ⟨rfl, rfl⟩)
    go_ret2
    exact ⟨ret_int_bool HV.out.1.symm HV.out.2.symm, rfl⟩

set_option maxHeartbeats 400000 in
theorem readFixed_spec (s : ByteArray) (n : Int) (w : World) (_ : s.size ≤ 9223372036854775807) :
    Calls Try.prog 25 #[.string s, .int .i64 n] w fun e w' => e = .returned (.tuple #[.int .i64 (rfV s n), .bool (rfOk s n)]) ∧ w' = w := by
  by_cases hw : 1 ≤ n ∧ n ≤ 7
  · obtain ⟨h1, h7⟩ := hw
    have hin := inB_yes h1 h7
    by_cases hl : n ≤ s.size
    · have HV : Hid (rfV s n = rfix s n.toNat ∧ rfOk s n = true) := ⟨rfV_yes h1 h7 hl, rfOk_yes h1 h7 hl⟩
      go_enter Try.func25, Try.ntmps25
      go_wp2_with (go_at_call 41; refine (l1In_any _ _ _ _).mono ?_; rintro e w' ⟨rfl, rfl⟩)
      go_loop [6, 7] (fun t i => ∃ k : Nat, (k : Int) ≤ n ∧ i = .int .i64 k ∧ t = .int .i64 (rfix s k)) (fun _ i => (n - intOf i).toNat)
      case atStart => exact ⟨0, by omega, rfl, rfl⟩
      case round =>
        obtain ⟨k, hk, rfl, rfl⟩ := hrel
        by_cases hlt : (k : Int) < n
        · have hmb := rfix_lt s k (by omega)
          have hb0 := bt_nonneg s k
          have hb1 := bt_le s k
          have hb := get_bt s
          go_wp2
          go_round
          case rel => exact ⟨k + 1, by omega, by go_num, rfl⟩
          case measure => simp [intOf]; omega
        · go_wp2
          go_ret2
          exact ⟨ret_int_bool (by rw [HV.out.1, show n.toNat = k from by omega]) HV.out.2.symm, rfl⟩
    · have HV : Hid (rfV s n = 0 ∧ rfOk s n = false) := ⟨rfV_no (by omega), rfOk_no (by omega)⟩
      go_enter Try.func25, Try.ntmps25
      go_wp2_with (go_at_call 41; refine (l1In_any _ _ _ _).mono ?_; rintro e w' ⟨rfl, rfl⟩)
      go_ret2
      exact ⟨ret_int_bool HV.out.1.symm HV.out.2.symm, rfl⟩
  · have HV : Hid (rfV s n = 0 ∧ rfOk s n = false) := ⟨rfV_no (by omega), rfOk_no (by omega)⟩
    have hin := inB_no hw
    go_enter Try.func25, Try.ntmps25
    go_wp2_with (go_at_call 41; refine (l1In_any _ _ _ _).mono ?_; rintro e w' ⟨rfl, rfl⟩)
    go_ret2
    exact ⟨ret_int_bool HV.out.1.symm HV.out.2.symm, rfl⟩
end Go.Proofs.Ytogdhepmbbgmbaa
