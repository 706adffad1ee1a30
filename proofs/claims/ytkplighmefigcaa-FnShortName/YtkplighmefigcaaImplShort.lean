/-
  What impl.ShortName answers: the walks.
-/
import Derived.Test.YtkplighmefigcaaSpecShort
namespace Go.Proofs.Ytkplighmefigcaa
open Go.RowKit Go.PlainAid

abbrev lets : ByteArray := { data := #[97, 98, 99, 100, 101, 102, 103, 104, 105, 106, 107, 108, 109, 110, 111, 112, 113, 114, 115, 116, 117, 118, 119, 120, 121, 122] }
theorem sn_small {f n : Nat} (h : n < 26) : sn (f + 1) n = [97 + ((n % 26 : Nat) : Int)] := by
  rw [sn, if_pos (Nat.div_eq_of_lt h), List.nil_append]
theorem sn_great {f n : Nat} (h : ¬ n < 26) : sn (f + 1) n = sn f (n / 26) ++ [97 + ((n % 26 : Nat) : Int)] := by
  rw [sn, if_neg (by omega)]
theorem let_at : ∀ k : Nat, k < 26 → (lets.extract k 26).extract 0 1 = strOfNums [97 + (k : Int)] := by decide +kernel
set_option maxRecDepth 100000 in
set_option maxHeartbeats 800000 in
theorem inLetters_any : ∀ (f n : Nat) (w : World), n < 26 ^ (f + 1) → f ≤ 14 → (n : Int) ≤ 9223372036854775807 →
    Calls Try.prog 10 #[.int .i64 (n : Int)] w fun e w' => e = .returned (.string (strOfNums (sn (f + 1) n))) ∧ w' = w := by
  intro f
  induction f with
  | zero =>
    intro n w hn _ hb
    have hlt : n < 26 := by omega
    have hlti : (n : Int) < 26 := by omega
    have HV := hidI (sn_small (f := 0) hlt)
    have HL := hidI (let_at (n % 26) (Nat.mod_lt n (by decide)))
    go_enter Try.func10, Try.ntmps10
    go_wp2
    go_ret
    exact ⟨ret_str (by rw [HV.out]; exact HL.out), rfl⟩
  | succ f ih =>
    intro n w hn hf hb
    have HL := hidI (let_at (n % 26) (Nat.mod_lt n (by decide)))
    by_cases hlt : n < 26
    · have hlti : (n : Int) < 26 := by omega
      have HV := hidI (sn_small (f := f + 1) hlt)
      go_enter Try.func10, Try.ntmps10
      go_wp2
      go_ret
      exact ⟨ret_str (by rw [HV.out]; exact HL.out), rfl⟩
    · have hlti : ¬ (n : Int) < 26 := by omega
      have HV := hidI (sn_great (f := f + 1) hlt)
      have hs := sn_len (f + 1) (n / 26)
      have IH := hidI (ih (n / 26) w (pow_div hn) (by omega) (by omega))
      have hsz := strOfNums_size (sn (f + 1) (n / 26))
      go_enter Try.func10, Try.ntmps10
      go_wp2_with fail
      refine IH.out.mono ?_
      rintro e _ ⟨rfl, rfl⟩
      go_wp2
      go_ret
      exact ⟨ret_str (by rw [HV.out, ← strOfNums_append, ← HL.out]), rfl⟩
set_option maxRecDepth 100000 in
set_option maxHeartbeats 400000 in
theorem short_impl (n : Int) (w : World) (hb : -9223372036854775808 ≤ n ∧ n ≤ 9223372036854775807) :
    Calls Try.prog 6 #[.int .i64 n] w fun e w' => e = .returned (.string (shortS n)) ∧ Below w.heap.size w w' := by
  by_cases hneg : n < 0
  · have HV : Hid (shortS n = { data := #[] }) := by show shortS n = _; rw [shortS, if_pos hneg]
    go_enter Try.func6, Try.ntmps6
    go_wp2
    go_ret
    exact ⟨ret_str (by rw [HV.out]), Below.refl _ _⟩
  · obtain ⟨m, rfl⟩ : ∃ m : Nat, n = (m : Int) := ⟨n.toNat, by omega⟩
    have HV : Hid (shortS (m : Int) = strOfNums (36 :: sn 14 m)) := by show shortS _ = _; rw [shortS, if_neg hneg, Int.toNat_natCast]
    have HT := hidI (short_top hb.2)
    have hl := sn_len 14 m
    have hsz := strOfNums_size (sn 14 m)
    go_enter Try.func6, Try.ntmps6
    go_wp2_with fail
    refine (inLetters_any 13 m w HT.out (by omega) hb.2).mono ?_
    rintro e _ ⟨rfl, rfl⟩
    go_wp2
    go_ret
    exact ⟨ret_str (by rw [HV.out]; exact strOfNums_cons 36 _), Below.refl _ _⟩
end Go.Proofs.Ytkplighmefigcaa
