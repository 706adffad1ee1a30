/-
  What impl.Hex and spec.Hex answer: the walks.
-/
import Derived.Test.YtogdhepmbbgmbaaFixed
import Derived.Test.YtogdhepmbbgmbaaHexMath
import Derived.Deep.RegionLaw
namespace Go.Proofs.Ytogdhepmbbgmbaa
open Go.RowKit Go.PlainAid

set_option maxHeartbeats 800000 in
theorem hex_impl (s : ByteArray) (w : World) (hs : s.size ≤ 1048576) :
    Calls Try.prog 22 #[.string s] w fun e w' => e = .returned (.string (strOfNums (hexL s s.size))) ∧ Below w.heap.size w w' := by
  obtain ⟨i0, hi, hz0, hz1, hz2⟩ := info_parts Try.infoByte
  go_enter Try.func22, Try.ntmps22
  go_wp2_with (first | (at_make; refine wpList_make_full _ rfl _ _ 22 rfl w.heap.size 5 i0 (.int .u8 0) 1 Try.underlying22 hi hz0 hz1 _ _ _ _ (2 * s.size) rfl rfl (by omega) (by omega) ?b2 ?b3 ?b4 ?_))
  case b2 => rw [hz2]; omega
  case b3 => unfold maxLen; omega
  case b4 => exact Nat.le_refl _
  intro w1 hown hgrow
  have hbel := (Below.refl w.heap.size w).grown hgrow (Nat.le_refl _) (by intro k hk; cases hk)
  rw [toList_madeCells_one] at hown
  clear hgrow
  go_wp2
  go_loopw [4, 11] (fun _ i wr => ∃ k : Nat, k ≤ s.size ∧ i = .int .i64 k ∧ OwnB wr w.heap.size 5 (.slice (some ⟨w.heap.size, 0, none⟩) (2 * s.size) (2 * s.size)) (2 * s.size) (fillTo (hexL s s.size) (2 * k)) ∧ Below w.heap.size w wr) (fun _ i _ => s.size - (intOf i).toNat)
  case atStart => exact ⟨0, by omega, rfl, by unfold OwnB; rw [Nat.mul_zero, fillTo_zero, hexL_length, List.map_replicate]; exact hown, hbel⟩
  case round =>
    obtain ⟨k, hk, rfl, hown', hbel'⟩ := hrel
    clear hown hbel
    by_cases hlt : k < s.size
    · obtain ⟨v, hv⟩ := own_cell hown' (2 * k) (by omega)
      obtain ⟨v2, hv2⟩ := own_cell hown' (2 * k + 1) (by omega)
      have hf := own_free hown' (2 * k)
      have hf2 := own_free hown' (2 * k + 1)
      have HO := own_two hown' hlt
      have hb0 := bt_nonneg s k
      have hb1 := bt_le s k
      have hb := get_bt s
      have hx := hex_get
      clear hown'
      go_wp2
      go_roundw
      case rel => exact ⟨k + 1, by omega, by go_num, HO, (hbel'.setCell (Nat.le_refl _) _).setCell (Nat.le_refl _) _⟩
      case measure => simp [intOf]; omega
    · rw [fillTo_full _ _ (by rw [hexL_length]; omega)] at hown'
      have hst := run_string_own (P := Try.prog) (src := 22) (dst := 9) Try.underlying22 Try.underlying5 Try.underlying9 hown'
      go_wp2
      go_ret
      exact ⟨rfl, hbel'⟩

theorem digit_any (q : Int) (w : World) (h0 : 0 ≤ q) (h1 : q ≤ 15) :
    Calls Try.prog 42 #[.int .i64 q] w fun e w' => e = .returned (.int .u8 (hexd q.toNat)) ∧ w' = w := by
  have hx := hex_get
  go_enter Try.func42, Try.ntmps42
  go_wp2
  go_ret
  exact ⟨rfl, rfl⟩

set_option maxHeartbeats 800000 in
theorem hex_spec (s : ByteArray) (w : World) (hs : s.size ≤ 1048576) :
    Calls Try.prog 28 #[.string s] w fun e w' => e = .returned (.string (strOfNums (hexL s s.size))) ∧ Below w.heap.size w w' := by
  obtain ⟨i0, hi, hz0, hz1, hz2⟩ := info_parts Try.infoByte
  go_enter Try.func28, Try.ntmps28
  go_wp2
  go_loopw [3, 4] (fun v i wr => ∃ k : Nat, k ≤ s.size ∧ i = .int .i64 k ∧ OwnB wr w.heap.size 5 v (2 * k) (hexL s k) ∧ Below w.heap.size w wr) (fun _ i _ => s.size - (intOf i).toNat)
  case atStart => exact ⟨0, by omega, rfl, World.ownsRow_lit w #[] 0 (Nat.le_refl _) (by unfold maxLen; omega) rfl, (Below.refl _ _).alloc (Nat.le_refl _) _⟩
  case round =>
    obtain ⟨k, hk, rfl, hown', hbel'⟩ := hrel
    have hsz := hbel'.size
    by_cases hlt : k < s.size
    · have hb0 := bt_nonneg s k
      have hb1 := bt_le s k
      have hb := get_bt s
      have e1 : IntKind.i64.wrap (bt s k) = bt s k := IntWalk.i64_in _ ⟨by omega, by omega⟩
      have e2 : (bt s k).tdiv 16 = bt s k / 16 := Int.tdiv_eq_ediv_of_nonneg hb0
      have e3 : IntKind.i64.wrap (bt s k / 16) = bt s k / 16 := IntWalk.i64_in _ ⟨by omega, by omega⟩
      have e4 : (bt s k).tmod 16 = bt s k % 16 := Int.tmod_eq_emod_of_nonneg hb0
      have e5 : IntKind.i64.wrap (bt s k % 16) = bt s k % 16 := IntWalk.i64_in _ ⟨by omega, by omega⟩
      go_wp2
      go_region_law (first | (refine step_two rfl (.tmp 12) (.tmp 25) 22 rfl w.heap.size 5 i0 Try.underlying22 hi hz0 hz1 hz2 u3 (2 * k) (hexL s k) ?hs ?hown wr.heap.size (hexd (bt s k / 16).toNat) (hexd (bt s k % 16).toNat) ?hx ?h0 ?h1 ?hn ?hb ?_; (case hs => rfl); (case hown => exact ownB_later hown' ((Below.refl _ _).alloc (Nat.le_refl _) _).drew); (case hx => rfl); (case h0 => simp); (case h1 => simp); (case hn => omega); (case hb => simp; omega); intro v' w' ho hb2) | (go_simp; go_wp2_with (go_at_call 42; refine (digit_any _ _ (by omega) (by omega)).mono ?_; rintro e w' ⟨rfl, rfl⟩)))
      all_goals
        go_wp2
        go_roundw
        case rel => exact ⟨k + 1, by omega, by go_num, ho, hbel'.trans ((((Below.refl w.heap.size wr).alloc hsz _).drew).trans hb2)⟩
        case measure => simp [intOf]; omega
    · have hst := run_string_own (P := Try.prog) (src := 22) (dst := 9) Try.underlying22 Try.underlying5 Try.underlying9 hown'
      go_wp2
      go_ret
      exact ⟨ret_str (by rw [show k = s.size from by omega]), hbel'⟩
end Go.Proofs.Ytogdhepmbbgmbaa
