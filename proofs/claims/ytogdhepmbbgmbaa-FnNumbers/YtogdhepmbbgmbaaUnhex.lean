/-
  What impl.Unhex and spec.Unhex answer: the walks.
-/
import Derived.Test.YtogdhepmbbgmbaaHex
import Derived.Test.YtogdhepmbbgmbaaUnhexMath
import Derived.Deep.QuietTactic
import Derived.BigQuiet
namespace Go.Proofs.Ytogdhepmbbgmbaa
open Go.RowKit Go.PlainAid

set_option maxRecDepth 100000 in
theorem indexByte_lite (s : ByteArray) (c : Int) (w : World) :
    Calls Try.prog 50 #[.string s, .int .u8 c] w fun e w' => e = .returned (.int .i64 (Lib.indexByte s.data.toList c.toNat.toUInt8)) ∧ w' = w := by
  go_enter Try.func50, Try.ntmps50
  go_wp2
  rw [run_callFunc_extern Try.func51 (by kernel_rfl) (by kernel_rfl) (by kernel_rfl) (e := Extern.BytealgIndexByte.indexByte) (by kernel_rfl), Lib.run_indexByteString]
  simp only [Result.andThen]
  rw [Oper.upon_value]
  go_wp2
  go_ret
  exact ⟨rfl, rfl⟩

theorem indexByte_strings (s : ByteArray) (c : Int) (w : World) :
    Calls Try.prog 48 #[.string s, .int .u8 c] w fun e w' => e = .returned (.int .i64 (Lib.indexByte s.data.toList c.toNat.toUInt8)) ∧ w' = w := by
  go_enter Try.func48, Try.ntmps48
  go_wp2_with fail
  refine (indexByte_lite _ _ _).mono ?_
  rintro e w' ⟨rfl, rfl⟩
  go_wp2
  go_ret
  exact ⟨rfl, rfl⟩

theorem hexValue_any (c : Int) (w : World) (h0 : 0 ≤ c) (h1 : c ≤ 255) :
    Calls Try.prog 38 #[.int .u8 c] w fun e w' => e = .returned (.int .i64 (hexv c)) ∧ w' = w := by
  have HV : Hid (_ = hexv c) := index_is c h0 h1
  go_enter Try.func38, Try.ntmps38
  go_wp2_with fail
  refine (indexByte_strings _ _ _).mono ?_
  rintro e w' ⟨rfl, rfl⟩
  go_wp2
  go_ret
  exact ⟨ret_int HV.out, rfl⟩

set_option maxHeartbeats 400000 in
theorem fromHex_any (c : Int) (w : World) (_ : 0 ≤ c) (_ : c ≤ 255) :
    Calls Try.prog 43 #[.int .u8 c] w fun e w' => e = .returned (.int .i64 (hexv c)) ∧ w' = w := by
  go_enter Try.func43, Try.ntmps43
  go_wp2
  go_loop [3] (fun i => ∃ k : Nat, k ≤ 16 ∧ i = .int .i64 k ∧ (hexv c = -1 ∨ (k : Int) ≤ hexv c)) (fun i => (16 - intOf i).toNat)
  case atStart => exact ⟨0, by omega, rfl, by have := hexv_bd c; omega⟩
  case round =>
    obtain ⟨k, hk, rfl, hv⟩ := hrel
    have hbd := hexv_bd c
    by_cases hlt : k < 16
    · have hx := hexd_bd k
      by_cases he : hexd k = c
      · have HV : Hid (hexv c = k) := (hexv_eq_iff c k hlt).1 he
        have hq : (hexd k == c) = true := by simpa using he
        clear he hv hbd
        go_wp2_with (go_at_call 42; refine (digit_any _ _ (by omega) (by omega)).mono ?_; rintro e w' ⟨rfl, rfl⟩)
        go_ret
        exact ⟨ret_int HV.out.symm, rfl⟩
      · have HV : Hid (hexv c ≠ k) := fun h => he ((hexv_eq_iff c k hlt).2 h)
        have hq : (hexd k == c) = false := by simpa using he
        clear he
        go_wp2_with (go_at_call 42; refine (digit_any _ _ (by omega) (by omega)).mono ?_; rintro e w' ⟨rfl, rfl⟩)
        go_round
        case rel => exact ⟨k + 1, by omega, by go_num, by have := HV.out; omega⟩
        case measure => simp [intOf]; omega
    · have HV : Hid (hexv c = -1) := by show hexv c = -1; omega
      clear hv hbd
      go_wp2
      go_ret
      exact ⟨ret_int HV.out.symm, rfl⟩

set_option maxHeartbeats 800000 in
theorem unhex_impl (s : ByteArray) (w : World) (hs : s.size ≤ 1048576) :
    Calls Try.prog 21 #[.string s] w fun e w' => e = .returned (.tuple #[.string (strOfNums (unhexL s)), .bool (unhexOk s)]) ∧ Below w.heap.size w w' := by
  obtain ⟨i0, hi, hz0, hz1, hz2⟩ := info_parts Try.infoByte
  by_cases ho : s.size % 2 = 0
  · have hne : ((s.size : Int) % 2 != 0) = false := by simp; omega
    go_enter Try.func21, Try.ntmps21
    go_wp2_with (first | (at_make; refine wpList_make_full _ rfl _ _ 22 rfl w.heap.size 5 i0 (.int .u8 0) 1 Try.underlying22 hi hz0 hz1 _ _ _ _ (s.size / 2) rfl rfl (by omega) (by omega) ?b2 ?b3 ?b4 ?_))
    case b2 => rw [hz2]; omega
    case b3 => unfold maxLen; omega
    case b4 => exact Nat.le_refl _
    intro w1 hown hgrow
    have hbel := (Below.refl w.heap.size w).grown hgrow (Nat.le_refl _) (by intro k hk; cases hk)
    rw [toList_madeCells_one] at hown
    clear hgrow
    go_wp2
    go_loopw [5, 6, 7, 18] (fun _ _ _ i wr => ∃ k : Nat, k ≤ s.size / 2 ∧ i = .int .i64 k ∧ unOk s k = true ∧ OwnB wr w.heap.size 5 (.slice (some ⟨w.heap.size, 0, none⟩) (s.size / 2) (s.size / 2)) (s.size / 2) (fillTo (unL s (s.size / 2)) k) ∧ Below w.heap.size w wr) (fun _ _ _ i _ => s.size / 2 - (intOf i).toNat)
    case atStart => exact ⟨0, by omega, rfl, rfl, by unfold OwnB; rw [fillTo_zero, unL_length, List.map_replicate]; exact hown, hbel⟩
    case round =>
      obtain ⟨k, hk, rfl, hok, hown', hbel'⟩ := hrel
      clear hown hbel
      by_cases hlt : k < s.size / 2
      · have hb0 := bt_nonneg s (2 * k)
        have hb1 := bt_le s (2 * k)
        have hb2 := bt_nonneg s (2 * k + 1)
        have hb3 := bt_le s (2 * k + 1)
        have hb := get_bt s
        have hv0 := hexv_bd (bt s (2 * k))
        have hv1 := hexv_bd (bt s (2 * k + 1))
        have e1 : IntKind.i64.wrap (2 * (k : Int)) = 2 * k := IntWalk.i64_in _ ⟨by omega, by omega⟩
        have e2 : IntKind.i64.wrap (2 * (k : Int) + 1) = 2 * k + 1 := IntWalk.i64_in _ ⟨by omega, by omega⟩
        have HOK : Hid (unOk s k = true) := hok
        clear hok
        by_cases hp : 0 ≤ hexv (bt s (2 * k)) ∧ 0 ≤ hexv (bt s (2 * k + 1))
        · obtain ⟨hp0, hp1⟩ := hp
          obtain ⟨v, hv⟩ := own_cell hown' k hlt
          have hf := own_free hown' k
          have HO := own_set hown' k (pairV s k)
          rw [fillTo_set _ _ _ (by rw [unL_length]; omega) (unL_at s _ k hlt)] at HO
          have HP : Hid (unOk s (k + 1) = true) := by show unOk s (k + 1) = true; rw [unOk, HOK.out, pairOk_iff.2 ⟨hp0, hp1⟩]; rfl
          clear hown'
          go_wp2
          go_quiet ((go_at_call 38; exact Calls.quiet_of_same (hexValue_any _ _ (by omega) (by omega))))
          go_wp2
          go_roundw
          case rel => exact ⟨k + 1, by omega, by go_num, HP.out, HO, (below_drewN hbel' nq).setCell (Nat.le_refl _) _⟩
          case measure => simp [intOf]; omega
        · have HN : Hid (unhexOk s = false) := unhexOk_bad hlt (pairOk_no hp)
          by_cases hp0 : 0 ≤ hexv (bt s (2 * k))
          · have hp1 : hexv (bt s (2 * k + 1)) < 0 := by omega
            clear hp
            go_wp2
            go_quiet ((go_at_call 38; exact Calls.quiet_of_same (hexValue_any _ _ (by omega) (by omega))))
            go_wp2
            go_ret2
            exact ⟨ret_str_bool (by rw [unhexL_no HN.out]; rfl) HN.out.symm, below_drewN hbel' nq⟩
          · clear hp
            go_wp2
            go_quiet ((go_at_call 38; exact Calls.quiet_of_same (hexValue_any _ _ (by omega) (by omega))))
            go_wp2
            go_ret2
            exact ⟨ret_str_bool (by rw [unhexL_no HN.out]; rfl) HN.out.symm, below_drewN hbel' nq⟩
      · have HY : Hid (unhexOk s = true) := unhexOk_yes ho (by rw [show s.size / 2 = k from by omega]; exact hok)
        rw [fillTo_full _ _ (by rw [unL_length]; omega)] at hown'
        have hst := run_string_own (P := Try.prog) (src := 22) (dst := 9) Try.underlying22 Try.underlying5 Try.underlying9 hown'
        clear hok
        go_wp2
        go_ret2
        exact ⟨ret_str_bool (by rw [unhexL_yes HY.out]) HY.out.symm, hbel'⟩
  · have HN : Hid (unhexOk s = false) := unhexOk_odd ho
    have hne : ((s.size : Int) % 2 != 0) = true := by simp; omega
    go_enter Try.func21, Try.ntmps21
    go_wp2
    go_ret2
    exact ⟨ret_str_bool (by rw [unhexL_no HN.out]; rfl) HN.out.symm, Below.refl _ _⟩

set_option maxHeartbeats 800000 in
theorem unhex_spec (s : ByteArray) (w : World) (hs : s.size ≤ 1048576) :
    Calls Try.prog 29 #[.string s] w fun e w' => e = .returned (.tuple #[.string (strOfNums (unhexL s)), .bool (unhexOk s)]) ∧ Below w.heap.size w w' := by
  obtain ⟨i0, hi, hz0, hz1, hz2⟩ := info_parts Try.infoByte
  by_cases ho : s.size % 2 = 0
  · have hne : ((s.size : Int) % 2 == 1) = false := by simp; omega
    go_enter Try.func29, Try.ntmps29
    go_wp2
    go_loopw [4, 5, 6, 7] (fun v i _ _ wr => ∃ k : Nat, k ≤ s.size / 2 ∧ i = .int .i64 (2 * k) ∧ unOk s k = true ∧ OwnB wr w.heap.size 5 v k (unL s k) ∧ Below w.heap.size w wr) (fun _ i _ _ _ => s.size - (intOf i).toNat)
    case atStart => exact ⟨0, by omega, rfl, rfl, World.ownsRow_lit w #[] 0 (Nat.le_refl _) (by unfold maxLen; omega) rfl, (Below.refl _ _).alloc (Nat.le_refl _) _⟩
    case round =>
      obtain ⟨k, hk, rfl, hok, hown', hbel'⟩ := hrel
      have hsz := hbel'.size
      by_cases hlt : k < s.size / 2
      · have hb0 := bt_nonneg s (2 * k)
        have hb1 := bt_le s (2 * k)
        have hb2 := bt_nonneg s (2 * k + 1)
        have hb3 := bt_le s (2 * k + 1)
        have hb := get_bt s
        have hv0 := hexv_bd (bt s (2 * k))
        have hv1 := hexv_bd (bt s (2 * k + 1))
        have HOK : Hid (unOk s k = true) := hok
        clear hok
        by_cases hp : 0 ≤ hexv (bt s (2 * k)) ∧ 0 ≤ hexv (bt s (2 * k + 1))
        · obtain ⟨hp0, hp1⟩ := hp
          have HP : Hid (unOk s (k + 1) = true) := by show unOk s (k + 1) = true; rw [unOk, HOK.out, pairOk_iff.2 ⟨hp0, hp1⟩]; rfl
          go_wp2_with (first | (go_at_call 43; refine (fromHex_any _ _ (by omega) (by omega)).mono ?_; rintro e w' ⟨rfl, rfl⟩) | (at_builtin; refine app_byte w' rfl _ _ 22 rfl w.heap.size 5 i0 Try.underlying22 hi hz0 hz1 hz2 _ k (unL s k) (by rfl) hown' (pairV s k) (by rfl) (by omega) hsz ?_))
          intro v' w2 hown2 hb2
          go_wp2
          go_roundw
          case rel => exact ⟨k + 1, by omega, by go_num, HP.out, hown2, hbel'.trans hb2⟩
          case measure => simp [intOf]; omega
        · have HN : Hid (unhexOk s = false) := unhexOk_bad hlt (pairOk_no hp)
          by_cases hp0 : 0 ≤ hexv (bt s (2 * k))
          · have hp1 : hexv (bt s (2 * k + 1)) < 0 := by omega
            clear hp
            go_wp2_with (first | (go_at_call 43; refine (fromHex_any _ _ (by omega) (by omega)).mono ?_; rintro e w' ⟨rfl, rfl⟩))
            go_ret2
            exact ⟨ret_str_bool (by rw [unhexL_no HN.out]; rfl) HN.out.symm, hbel'⟩
          · clear hp
            go_wp2_with (first | (go_at_call 43; refine (fromHex_any _ _ (by omega) (by omega)).mono ?_; rintro e w' ⟨rfl, rfl⟩))
            go_ret2
            exact ⟨ret_str_bool (by rw [unhexL_no HN.out]; rfl) HN.out.symm, hbel'⟩
      · have HY : Hid (unhexOk s = true) := unhexOk_yes ho (by rw [show s.size / 2 = k from by omega]; exact hok)
        have HK : Hid (s.size / 2 = k) := by show s.size / 2 = k; omega
        have hst := run_string_own (P := Try.prog) (src := 22) (dst := 9) Try.underlying22 Try.underlying5 Try.underlying9 hown'
        clear hok
        go_wp2
        go_ret2
        exact ⟨ret_str_bool (by rw [unhexL_yes HY.out, HK.out]) HY.out.symm, hbel'⟩
  · have HN : Hid (unhexOk s = false) := unhexOk_odd ho
    have hne : ((s.size : Int) % 2 == 1) = true := by simp; omega
    go_enter Try.func29, Try.ntmps29
    go_wp2
    go_ret2
    exact ⟨ret_str_bool (by rw [unhexL_no HN.out]; rfl) HN.out.symm, (Below.refl _ _).alloc (Nat.le_refl _) _⟩
end Go.Proofs.Ytogdhepmbbgmbaa
