/-
  What impl.Var and spec.Var answer, at every number: the walks.
-/
import Derived.Test.YtjofmbgacmdpeaaIn
import Derived.Test.YtjofmbgacmdpeaaVarMath
import Derived.Test.YtjofmbgacmdpeaaApp
namespace Go.Proofs.Ytjofmbgacmdpeaa
open Go.RowKit Go.PlainAid

set_option maxRecDepth 100000 in
set_option maxHeartbeats 800000 in
theorem var_impl_yes (n : Int) (w : World) (hn0 : 0 ≤ n) (hn1 : n ≤ 562949953421311) :
    Calls Try.prog 43 #[.int .i64 n] w fun e w' => e = .returned (.string (strOfNums (vl 6 n))) ∧ Below w.heap.size w w' := by
  obtain ⟨i0, hi, hz0, hz1, hz2⟩ := info_parts Try.infoByte
  go_enter Try.func43, Try.ntmps43
  go_wp2_with (first | (at_make; refine wpList_make_own _ rfl _ _ 22 rfl w.heap.size 5 i0 (.int .u8 0) 1 Try.underlying22 hi hz0 hz1 _ _ _ 7 rfl rfl (by omega) ?b2 ?b3 ?b4 ?_))
  case b2 => rw [hz2]; omega
  case b3 => unfold maxLen; omega
  case b4 => exact Nat.le_refl _
  intro w1 hown hgrow
  have hbel := (Below.refl w.heap.size w).grown hgrow (Nat.le_refl _) (by intro k hk; cases hk)
  clear hgrow
  go_wp2
  go_loopw [0, 3] (fun a v wr => ∃ (k : Nat) (acc : List Int) (q : Int), VarAt n k acc q ∧ a = .int .i64 q ∧ OwnB wr w.heap.size 5 v k acc ∧ Below w.heap.size w wr) (fun a _ _ => (intOf a).toNat)
  case atStart => exact ⟨0, [], n, varAt_start n hn0, rfl, hown, hbel⟩
  case round =>
    obtain ⟨k, acc, q, hat, rfl, hown', hbel'⟩ := hrel
    have hq0 : 0 ≤ q := hat.2.2.1
    have hqn : q ≤ n := hat.2.2.2.1
    have hk6 : k ≤ 6 := hat.1
    have hsz := hbel'.size
    clear hown hbel
    by_cases hlt : q < 128
    · have HE : Hid (acc ++ [q] = vl 6 n) := varAt_end hat hlt
      clear hat
      go_wp2_with (first | (at_builtin; refine app_byte wr rfl _ _ 22 rfl w.heap.size 5 i0 Try.underlying22 hi hz0 hz1 hz2 _ k acc (by rfl) hown' q (by rfl) (by omega) hsz ?_))
      intro v' w2 hown2 hb2
      rw [HE.out] at hown2
      have hst := run_string_own (P := Try.prog) (src := 22) (dst := 9) Try.underlying22 Try.underlying5 Try.underlying9 hown2
      go_wp2
      go_ret
      exact ⟨rfl, hbel'.trans hb2⟩
    · have hk := varAt_lt hat hn1 hlt
      have HA : Hid (VarAt n (k + 1) (acc ++ [q % 128 + 128]) (q / 128)) := varAt_next hat hn1 hlt
      clear hat
      go_wp2_with (first | (at_builtin; refine app_byte wr rfl _ _ 22 rfl w.heap.size 5 i0 Try.underlying22 hi hz0 hz1 hz2 _ k acc (by rfl) hown' (q % 128 + 128) (by rfl) (by omega) hsz ?_))
      intro v' w2 hown2 hb2
      go_wp2
      go_roundw
      case rel => exact ⟨k + 1, acc ++ [q % 128 + 128], q / 128, HA.out, rfl, hown2, hbel'.trans hb2⟩
      case measure => simp [intOf]; omega

theorem var_impl (n : Int) (w : World) :
    Calls Try.prog 43 #[.int .i64 n] w fun e w' => e = .returned (.string (strOfNums (varL n))) ∧ Below w.heap.size w w' := by
  by_cases h : 0 ≤ n ∧ n ≤ 562949953421311
  · rw [varL_yes h.1 h.2]
    exact var_impl_yes n w h.1 h.2
  · have HV : Hid (varL n = []) := varL_no h
    by_cases h0 : 0 ≤ n
    · go_enter Try.func43, Try.ntmps43
      go_wp2
      go_ret
      exact ⟨ret_str (by rw [HV.out]; rfl), Below.refl _ _⟩
    · go_enter Try.func43, Try.ntmps43
      go_wp2
      go_ret
      exact ⟨ret_str (by rw [HV.out]; rfl), Below.refl _ _⟩

set_option maxRecDepth 100000 in
set_option maxHeartbeats 800000 in
theorem var_spec_yes (n : Int) (w : World) (hn0 : 0 ≤ n) (hn1 : n ≤ 562949953421311) :
    Calls Try.prog 65 #[.int .i64 n] w fun e w' => e = .returned (.string (strOfNums (vl 6 n))) ∧ Below w.heap.size w w' := by
  obtain ⟨i0, hi, hz0, hz1, hz2⟩ := info_parts Try.infoByte
  have hin := inB_yes hn0 hn1
  go_enter Try.func65, Try.ntmps65
  go_wp2_with (first | (go_at_call 89; refine (l1In_any _ _ _ _).mono ?_; rintro e w' ⟨rfl, rfl⟩))
  go_loopw [0, 3] (fun a v wr => ∃ (k : Nat) (acc : List Int) (q : Int), VarAt n k acc q ∧ a = .int .i64 q ∧ OwnB wr w'.heap.size 5 v k acc ∧ Below w'.heap.size w' wr) (fun a _ _ => (intOf a).toNat)
  case atStart => exact ⟨0, [], n, varAt_start n hn0, rfl, World.ownsRow_lit w' #[] 0 (Nat.le_refl _) (by unfold maxLen; omega) rfl, (Below.refl _ _).alloc (Nat.le_refl _) _⟩
  case round =>
    obtain ⟨k, acc, q, hat, rfl, hown', hbel'⟩ := hrel
    have hq0 : 0 ≤ q := hat.2.2.1
    have hqn : q ≤ n := hat.2.2.2.1
    have hk6 : k ≤ 6 := hat.1
    have hsz := hbel'.size
    by_cases hlt : q < 128
    · have HE : Hid (acc ++ [q] = vl 6 n) := varAt_end hat hlt
      clear hat
      go_wp2_with (first | (at_builtin; refine app_byte wr rfl _ _ 22 rfl w'.heap.size 5 i0 Try.underlying22 hi hz0 hz1 hz2 _ k acc (by rfl) hown' q (by rfl) (by omega) hsz ?_))
      intro v' w2 hown2 hb2
      rw [HE.out] at hown2
      have hst := run_string_own (P := Try.prog) (src := 22) (dst := 9) Try.underlying22 Try.underlying5 Try.underlying9 hown2
      go_wp2
      go_ret
      exact ⟨rfl, hbel'.trans hb2⟩
    · have hk := varAt_lt hat hn1 hlt
      have HA : Hid (VarAt n (k + 1) (acc ++ [128 + q % 128]) (q / 128)) := by rw [show 128 + q % 128 = q % 128 + 128 from by omega]; exact varAt_next hat hn1 hlt
      clear hat
      go_wp2_with (first | (at_builtin; refine app_byte wr rfl _ _ 22 rfl w'.heap.size 5 i0 Try.underlying22 hi hz0 hz1 hz2 _ k acc (by rfl) hown' (128 + q % 128) (by rfl) (by omega) hsz ?_))
      intro v' w2 hown2 hb2
      go_wp2
      go_roundw
      case rel => exact ⟨k + 1, acc ++ [128 + q % 128], q / 128, HA.out, rfl, hown2, hbel'.trans hb2⟩
      case measure => simp [intOf]; omega

theorem var_spec (n : Int) (w : World) :
    Calls Try.prog 65 #[.int .i64 n] w fun e w' => e = .returned (.string (strOfNums (varL n))) ∧ Below w.heap.size w w' := by
  by_cases h : 0 ≤ n ∧ n ≤ 562949953421311
  · rw [varL_yes h.1 h.2]
    exact var_spec_yes n w h.1 h.2
  · have HV : Hid (varL n = []) := varL_no h
    have hin := inB_no h
    go_enter Try.func65, Try.ntmps65
    go_wp2_with (first | (go_at_call 89; refine (l1In_any _ _ _ _).mono ?_; rintro e w' ⟨rfl, rfl⟩))
    go_ret
    exact ⟨ret_str (by rw [HV.out]; rfl), Below.refl _ _⟩
end Go.Proofs.Ytjofmbgacmdpeaa
