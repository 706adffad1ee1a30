/-
  What impl.Dec and spec.Dec answer, at every number: the walks.
-/
import Derived.Test.YtogdhepmbbgmbaaFixed
import Derived.Test.YtogdhepmbbgmbaaDecMath
namespace Go.Proofs.Ytogdhepmbbgmbaa
open Go.RowKit Go.PlainAid

set_option maxHeartbeats 400000 in
theorem digitCount_any (m : Int) (w : World) (h0 : 0 ≤ m) (h1 : m ≤ 18446744073709551615) :
    Calls Try.prog 37 #[.int .u64 m] w fun e w' => e = .returned (.int .i64 (dcn m)) ∧ w' = w := by
  have hd := dcn_facts m h0 h1
  have hd1 : dcn m ≤ 20 := hd.2.1
  have hd0 : 1 ≤ dcn m := hd.1
  clear hd
  go_enter Try.func37, Try.ntmps37
  go_wp2
  go_loop [0, 3] (fun a c => ∃ k : Nat, k + 1 ≤ dcn m ∧ a = .int .u64 (m / 10 ^ k) ∧ c = .int .i64 ((k : Int) + 1)) (fun a _ => (intOf a).toNat)
  case atStart => exact ⟨0, hd0, by simp, rfl⟩
  case round =>
    obtain ⟨k, hk, rfl, rfl⟩ := hrel
    have hb := tenth_bd m k h0
    have hm := more_iff m h0 h1 k
    by_cases hlt : 10 ≤ m / 10 ^ k
    · have hk2 := hm.1 hlt
      clear hm
      go_wp2
      go_round
      case rel => exact ⟨k + 1, by omega, by rw [tenth], by go_num⟩
      case measure => simp [intOf]; omega
    · have hk2 : ¬ (k + 1 < dcn m) := fun h => hlt (hm.2 h)
      clear hm
      go_wp2
      go_ret
      exact ⟨ret_int (by omega), rfl⟩

set_option maxHeartbeats 800000 in
theorem dec_impl_pos (n : Int) (w : World) (h0 : 0 ≤ n) (h1 : n ≤ 9223372036854775807) :
    Calls Try.prog 20 #[.int .i64 n] w fun e w' => e = .returned (.string (strOfNums (dgk n (dcn n)))) ∧ Below w.heap.size w w' := by
  obtain ⟨i0, hi, hz0, hz1, hz2⟩ := info_parts Try.infoByte
  have hd := dcn_facts n h0 (by omega)
  have hd1 : dcn n ≤ 20 := hd.2.1
  have hd0 : 1 ≤ dcn n := hd.1
  clear hd
  go_enter Try.func20, Try.ntmps20
  go_wp2_with (first | (go_at_call 37; refine (digitCount_any _ _ (by omega) (by omega)).mono ?_; rintro e w' ⟨rfl, rfl⟩) | (at_make; refine wpList_make_full _ rfl _ _ 22 rfl w'.heap.size 5 i0 (.int .u8 0) 1 Try.underlying22 hi hz0 hz1 _ _ _ _ (dcn n) rfl rfl (by omega) (by omega) ?b2 ?b3 ?b4 ?_))
  case b2 => rw [hz2]; omega
  case b3 => unfold maxLen; omega
  case b4 => exact Nat.le_refl _
  intro w1 hown hgrow
  have hbel := (Below.refl w'.heap.size w').grown hgrow (Nat.le_refl _) (by intro k hk; cases hk)
  rw [toList_madeCells_one] at hown
  clear hgrow
  go_wp2
  go_loopw [3, 7, 21] (fun r _ i wr => ∃ k : Nat, k ≤ dcn n ∧ i = .int .i64 k ∧ r = .int .u64 (n / 10 ^ k) ∧ OwnB wr w'.heap.size 5 (.slice (some ⟨w'.heap.size, 0, none⟩) (dcn n) (dcn n)) (dcn n) (fillBack (dgk n (dcn n)) k) ∧ Below w'.heap.size w' wr) (fun _ _ i _ => dcn n - (intOf i).toNat)
  case atStart => exact ⟨0, by omega, rfl, by simp, by unfold OwnB; rw [fillBack_zero, dgk_length, List.map_replicate]; exact hown, hbel⟩
  case round =>
    obtain ⟨k, hk, rfl, rfl, hown', hbel'⟩ := hrel
    clear hown hbel
    have hb := tenth_bd n k h0
    by_cases hlt : k < dcn n
    · obtain ⟨v, hv⟩ := own_cell hown' (dcn n - 1 - k) (by omega)
      have hf := own_free hown' (dcn n - 1 - k)
      have HO := own_set hown' (dcn n - 1 - k) (48 + n / 10 ^ k % 10)
      have HS := fillBack_set (dgk n (dcn n)) k (48 + n / 10 ^ k % 10) (by rw [dgk_length]; exact hlt) (by rw [dgk_length]; exact dgk_at n _ k hlt)
      rw [dgk_length] at HS
      rw [HS] at HO
      clear HS hown'
      go_wp2
      go_roundw
      case rel => exact ⟨k + 1, by omega, by go_num, by rw [tenth], HO, hbel'.setCell (Nat.le_refl _) _⟩
      case measure => simp [intOf]; omega
    · have HF := fillBack_full (dgk n (dcn n))
      rw [dgk_length] at HF
      rw [show k = dcn n from by omega, HF] at hown'
      clear HF
      have hst := run_string_own (P := Try.prog) (src := 22) (dst := 9) Try.underlying22 Try.underlying5 Try.underlying9 hown'
      go_wp2
      go_ret
      exact ⟨rfl, hbel'⟩

theorem u64_back (m : Int) (h0 : 0 < m) (h1 : m ≤ 9223372036854775808) : IntKind.u64.wrap (-IntKind.u64.wrap (-m)) = m := by
  rw [IntKind.wrap_u64, IntKind.wrap_u64]; omega

set_option maxHeartbeats 800000 in
theorem dec_impl_neg (m : Int) (w : World) (h0 : 0 < m) (h1 : m ≤ 9223372036854775808) :
    Calls Try.prog 20 #[.int .i64 (-m)] w fun e w' => e = .returned (.string (strOfNums (45 :: dgk m (dcn m)))) ∧ Below w.heap.size w w' := by
  obtain ⟨i0, hi, hz0, hz1, hz2⟩ := info_parts Try.infoByte
  have hd := dcn_facts m (by omega) (by omega)
  have hd1 : dcn m ≤ 20 := hd.2.1
  have hd0 : 1 ≤ dcn m := hd.1
  clear hd
  have hu := u64_back m h0 h1
  go_enter Try.func20, Try.ntmps20
  go_wp2_with (first | (go_at_call 37; refine (digitCount_any _ _ (by omega) (by omega)).mono ?_; rintro e w' ⟨rfl, rfl⟩) | (at_make; refine wpList_make_full _ rfl _ _ 22 rfl w'.heap.size 5 i0 (.int .u8 0) 1 Try.underlying22 hi hz0 hz1 _ _ _ _ (dcn m + 1) rfl rfl (by omega) (by omega) ?b2 ?b3 ?b4 ?_))
  case b2 => rw [hz2]; omega
  case b3 => unfold maxLen; omega
  case b4 => exact Nat.le_refl _
  intro w1 hown hgrow
  have hbel := (Below.refl w'.heap.size w').grown hgrow (Nat.le_refl _) (by intro k hk; cases hk)
  rw [toList_madeCells_one] at hown
  clear hgrow
  have hlen : (45 :: dgk m (dcn m)).length = dcn m + 1 := by rw [List.length_cons, dgk_length]
  have HL : Hid ((45 :: dgk m (dcn m)).length = dcn m + 1) := hlen
  clear hlen
  go_wp2
  go_loopw [3, 7, 21] (fun r _ i wr => ∃ k : Nat, k ≤ dcn m ∧ i = .int .i64 k ∧ r = .int .u64 (m / 10 ^ k) ∧ OwnB wr w'.heap.size 5 (.slice (some ⟨w'.heap.size, 0, none⟩) (dcn m + 1) (dcn m + 1)) (dcn m + 1) (fillBack (45 :: dgk m (dcn m)) k) ∧ Below w'.heap.size w' wr) (fun _ _ i _ => dcn m - (intOf i).toNat)
  case atStart => exact ⟨0, by omega, rfl, by simp, by unfold OwnB; rw [fillBack_zero, HL.out, List.map_replicate]; exact hown, hbel⟩
  case round =>
    obtain ⟨k, hk, rfl, rfl, hown', hbel'⟩ := hrel
    clear hown hbel hu
    have hb := tenth_bd m k (by omega)
    by_cases hlt : k < dcn m
    · obtain ⟨v, hv⟩ := own_cell hown' (dcn m - k) (by omega)
      have hf := own_free hown' (dcn m - k)
      have HO := own_set hown' (dcn m - k) (48 + m / 10 ^ k % 10)
      have HS := fillBack_set (45 :: dgk m (dcn m)) k (48 + m / 10 ^ k % 10) (by rw [HL.out]; omega) (back_at [45] m (dcn m) k hlt)
      rw [HL.out, show dcn m + 1 - 1 - k = dcn m - k from by omega] at HS
      rw [HS] at HO
      clear HS hown'
      go_wp2
      go_roundw
      case rel => exact ⟨k + 1, by omega, by go_num, by rw [tenth], HO, hbel'.setCell (Nat.le_refl _) _⟩
      case measure => simp [intOf]; omega
    · have HF := fillBack_head 45 (dgk m (dcn m))
      rw [dgk_length] at HF
      rw [show k = dcn m from by omega] at hown'
      obtain ⟨v, hv⟩ := own_cell hown' 0 (by omega)
      have hf := own_free hown' 0
      have HO := own_set hown' 0 45
      rw [HF] at HO
      clear HF hown'
      have hst := run_string_own (P := Try.prog) (src := 22) (dst := 9) Try.underlying22 Try.underlying5 Try.underlying9 HO
      go_wp2
      go_ret
      exact ⟨rfl, hbel'.setCell (Nat.le_refl _) _⟩

theorem dec_impl (n : Int) (w : World) (hb : -9223372036854775808 ≤ n ∧ n ≤ 9223372036854775807) :
    Calls Try.prog 20 #[.int .i64 n] w fun e w' => e = .returned (.string (strOfNums (decL n))) ∧ Below w.heap.size w w' := by
  by_cases h : 0 ≤ n
  · rw [decL_pos h]
    exact dec_impl_pos n w h hb.2
  · obtain ⟨m, rfl⟩ : ∃ m, n = -m := ⟨-n, by omega⟩
    rw [decL_neg (by omega), Int.neg_neg]
    exact dec_impl_neg m w (by omega) (by omega)

theorem neg_tmod (q : Int) (h : 0 ≤ q) : (-q).tmod 10 = -(q % 10) := by rw [Int.neg_tmod, Int.tmod_eq_emod_of_nonneg h]
theorem neg_tdiv (q : Int) (h : 0 ≤ q) : (-q).tdiv 10 = -(q / 10) := by rw [Int.neg_tdiv, Int.tdiv_eq_ediv_of_nonneg h]

set_option maxHeartbeats 800000 in
theorem dec_spec_pos (n : Int) (w : World) (h0 : 0 < n) (h1 : n ≤ 9223372036854775807) :
    Calls Try.prog 30 #[.int .i64 n] w fun e w' => e = .returned (.string (strOfNums (dgk n (dcn n)))) ∧ Below w.heap.size w w' := by
  have hd := dcn_facts n (by omega) (by omega)
  have hd1 : dcn n ≤ 20 := hd.2.1
  have hd0 : 1 ≤ dcn n := hd.1
  have hne : (n == 0) = false := by simp; omega
  have hlt0 : ¬ n < 0 := by omega
  clear hd
  go_enter Try.func30, Try.ntmps30
  go_wp2
  go_loopw [0, 3, 5] (fun a o _ wr => ∃ k : Nat, k ≤ dcn n ∧ a = .int .i64 (n / 10 ^ k) ∧ o = .string (strOfNums (dgk n k)) ∧ Below w.heap.size w wr) (fun a _ _ _ => (intOf a).toNat)
  case atStart => exact ⟨0, by omega, by simp, rfl, Below.refl _ _⟩
  case round =>
    obtain ⟨k, hk, rfl, rfl, hbel⟩ := hrel
    have hb := tenth_bd n k (by omega)
    have hi := some_iff n (by omega) (by omega) k
    have hsz : (strOfNums (dgk n k)).size ≤ 20 := by rw [strOfNums_size, dgk_length]; omega
    by_cases hz : n / 10 ^ k = 0
    · have hk2 : ¬ (k < dcn n) := fun h => hi.2 h hz
      have hz' : (n / 10 ^ k != 0) = false := by simpa using hz
      clear hi hz
      go_wp2
      go_ret
      exact ⟨ret_str (by rw [show dcn n = k from by omega]), hbel⟩
    · have hk2 := hi.1 hz
      have hz' : (n / 10 ^ k != 0) = true := by simpa using hz
      have hz2 : 0 < n / 10 ^ k := by omega
      clear hi hz
      have hst := fun (w : World) (x : Int) => run_string_one (P := Try.prog) (src := 22) (dst := 9) Try.underlying22 Try.underlying5 Try.underlying9 w x
      have hone := fun x => strOfNums_size [x]
      go_wp2
      go_roundw
      case rel => exact ⟨k + 1, by omega, by rw [tenth], by rw [strOfNums_cons]; rfl, hbel.alloc hbel.size _⟩
      case measure => simp [intOf]; omega

set_option maxHeartbeats 800000 in
theorem dec_spec_neg (m : Int) (w : World) (h0 : 0 < m) (h1 : m ≤ 9223372036854775808) :
    Calls Try.prog 30 #[.int .i64 (-m)] w fun e w' => e = .returned (.string (strOfNums (45 :: dgk m (dcn m)))) ∧ Below w.heap.size w w' := by
  have hd := dcn_facts m (by omega) (by omega)
  have hd1 : dcn m ≤ 20 := hd.2.1
  have hd0 : 1 ≤ dcn m := hd.1
  have hne : (-m == 0) = false := by simp; omega
  clear hd
  go_enter Try.func30, Try.ntmps30
  go_wp2
  go_loopw [0, 3, 5] (fun a o _ wr => ∃ k : Nat, k ≤ dcn m ∧ a = .int .i64 (-(m / 10 ^ k)) ∧ o = .string (strOfNums (dgk m k)) ∧ Below w.heap.size w wr) (fun a _ _ _ => (-(intOf a)).toNat)
  case atStart => exact ⟨0, by omega, by simp, rfl, Below.refl _ _⟩
  case round =>
    obtain ⟨k, hk, rfl, rfl, hbel⟩ := hrel
    have hb := tenth_bd m k (by omega)
    have hi := some_iff m (by omega) (by omega) k
    have hsz : (strOfNums (dgk m k)).size ≤ 20 := by rw [strOfNums_size, dgk_length]; omega
    by_cases hz : m / 10 ^ k = 0
    · have hk2 : ¬ (k < dcn m) := fun h => hi.2 h hz
      have hz' : (-(m / 10 ^ k) != 0) = false := by simpa using hz
      have hmin : (strOfNums [45]).size = 1 := strOfNums_size [45]
      clear hi hz
      go_wp2
      go_ret
      exact ⟨ret_str (by rw [show dcn m = k from by omega]; exact strOfNums_cons 45 _), hbel⟩
    · have hk2 := hi.1 hz
      have hz' : (-(m / 10 ^ k) != 0) = true := by simpa using hz
      have hz2 : 0 < m / 10 ^ k := by omega
      clear hi hz
      have e1 := neg_tmod (m / 10 ^ k) hb.1
      have e2 := neg_tdiv (m / 10 ^ k) hb.1
      have hst := fun (w : World) (x : Int) => run_string_one (P := Try.prog) (src := 22) (dst := 9) Try.underlying22 Try.underlying5 Try.underlying9 w x
      have hone := fun x => strOfNums_size [x]
      by_cases hd : 0 < m / 10 ^ k % 10
      · go_wp2
        go_roundw
        case rel => exact ⟨k + 1, by omega, by rw [tenth], by rw [strOfNums_cons]; rfl, hbel.alloc hbel.size _⟩
        case measure => simp [intOf]; omega
      · go_wp2
        go_roundw
        case rel => exact ⟨k + 1, by omega, by rw [tenth], by rw [strOfNums_cons, show 48 + -(m / 10 ^ k % 10) = 48 + m / 10 ^ k % 10 from by omega]; rfl, hbel.alloc hbel.size _⟩
        case measure => simp [intOf]; omega

theorem dec_spec (n : Int) (w : World) (hb : -9223372036854775808 ≤ n ∧ n ≤ 9223372036854775807) :
    Calls Try.prog 30 #[.int .i64 n] w fun e w' => e = .returned (.string (strOfNums (decL n))) ∧ Below w.heap.size w w' := by
  by_cases h : 0 < n
  · rw [decL_pos (by omega)]
    exact dec_spec_pos n w h hb.2
  · by_cases hz : n = 0
    · subst hz
      have HV : Hid (decL 0 = [48]) := by show decL 0 = [48]; decide
      go_enter Try.func30, Try.ntmps30
      go_wp2
      go_ret
      exact ⟨ret_str (by rw [HV.out]; rfl), Below.refl _ _⟩
    · obtain ⟨m, rfl⟩ : ∃ m, n = -m := ⟨-n, by omega⟩
      rw [decL_neg (by omega), Int.neg_neg]
      exact dec_spec_neg m w (by omega) (by omega)
end Go.Proofs.Ytogdhepmbbgmbaa
