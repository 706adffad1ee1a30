/-
  What spec's parts of Lex answer: l3Letter, l3Digit, l3Sign, l3Word, l3Num, l3Str, l3Skip: the walks.
-/
import Derived.Test.YtkplighmefigcaaLexMath
import Derived.Test.YtkplighmefigcaaProg
import Derived.WalkLawsBesides
namespace Go.Proofs.Ytkplighmefigcaa
open Go.RowKit Go.PlainAid

theorem letB_no {c : Int} {scr : Bool} (h : ¬ ((97 ≤ c ∧ c ≤ 122) ∨ (65 ≤ c ∧ c ≤ 90) ∨ c = 95 ∨ (scr = true ∧ c = 36))) : letB c scr = false := by
  rw [Bool.eq_false_iff]
  exact fun k => h (letB_iff.1 k)
theorem digB_no {c : Int} (h : ¬ (48 ≤ c ∧ c ≤ 57)) : digB c = false := decide_eq_false h

set_option maxHeartbeats 1600000 in
theorem letter_spec (c : Int) (scr : Bool) (w : World) (h0 : 0 ≤ c) (h1 : c ≤ 255) :
    Calls Try.prog 13 #[.int .u8 c, .bool scr] w fun e w' => e = .returned (.bool (letB c scr)) ∧ w' = w := by
  by_cases a1 : 97 ≤ c
  · by_cases a2 : c ≤ 122
    · skip
      have d1 : decide (97 ≤ c) = true := decide_eq_true (by omega)
      have d2 : decide (c ≤ 122) = true := decide_eq_true (by omega)
      have HV : Hid (letB c scr = true) := letB_iff.2 (by first | omega | (simp; omega))
      go_enter Try.func13, Try.ntmps13
      go_wp2
      go_ret
      exact ⟨ret_bool HV.out.symm, rfl⟩
    · skip
      cases scr with
      | true =>
        have d1 : decide (97 ≤ c) = true := decide_eq_true (by omega)
        have d2 : decide (c ≤ 122) = false := decide_eq_false (by omega)
        have d3 : decide (65 ≤ c) = true := decide_eq_true (by omega)
        have d4 : decide (c ≤ 90) = false := decide_eq_false (by omega)
        have e1 : (c == 95) = false := beq_eq_false_iff_ne.2 (by omega)
        have e2 : (c == 36) = false := beq_eq_false_iff_ne.2 (by omega)
        have HV : Hid (letB c true = false) := letB_no (by first | omega | (simp; omega))
        go_enter Try.func13, Try.ntmps13
        go_wp2
        go_ret
        exact ⟨ret_bool HV.out.symm, rfl⟩
      | false =>
        have d1 : decide (97 ≤ c) = true := decide_eq_true (by omega)
        have d2 : decide (c ≤ 122) = false := decide_eq_false (by omega)
        have d3 : decide (65 ≤ c) = true := decide_eq_true (by omega)
        have d4 : decide (c ≤ 90) = false := decide_eq_false (by omega)
        have e1 : (c == 95) = false := beq_eq_false_iff_ne.2 (by omega)
        have e2 : (c == 36) = false := beq_eq_false_iff_ne.2 (by omega)
        have HV : Hid (letB c false = false) := letB_no (by first | omega | (simp; omega))
        go_enter Try.func13, Try.ntmps13
        go_wp2
        go_ret
        exact ⟨ret_bool HV.out.symm, rfl⟩
  · by_cases a3 : 65 ≤ c
    · by_cases a4 : c ≤ 90
      · skip
        have d1 : decide (97 ≤ c) = false := decide_eq_false (by omega)
        have d3 : decide (65 ≤ c) = true := decide_eq_true (by omega)
        have d4 : decide (c ≤ 90) = true := decide_eq_true (by omega)
        have HV : Hid (letB c scr = true) := letB_iff.2 (by first | omega | (simp; omega))
        go_enter Try.func13, Try.ntmps13
        go_wp2
        go_ret
        exact ⟨ret_bool HV.out.symm, rfl⟩
      · by_cases a5 : c = 95
        · skip
          have d1 : decide (97 ≤ c) = false := decide_eq_false (by omega)
          have d3 : decide (65 ≤ c) = true := decide_eq_true (by omega)
          have d4 : decide (c ≤ 90) = false := decide_eq_false (by omega)
          have e1 : (c == 95) = true := beq_iff_eq.2 (by omega)
          have HV : Hid (letB c scr = true) := letB_iff.2 (by first | omega | (simp; omega))
          clear a5
          go_enter Try.func13, Try.ntmps13
          go_wp2
          go_ret
          exact ⟨ret_bool HV.out.symm, rfl⟩
        · skip
          cases scr with
          | true =>
            have d1 : decide (97 ≤ c) = false := decide_eq_false (by omega)
            have d3 : decide (65 ≤ c) = true := decide_eq_true (by omega)
            have d4 : decide (c ≤ 90) = false := decide_eq_false (by omega)
            have e1 : (c == 95) = false := beq_eq_false_iff_ne.2 (by omega)
            have e2 : (c == 36) = false := beq_eq_false_iff_ne.2 (by omega)
            have HV : Hid (letB c true = false) := letB_no (by first | omega | (simp; omega))
            go_enter Try.func13, Try.ntmps13
            go_wp2
            go_ret
            exact ⟨ret_bool HV.out.symm, rfl⟩
          | false =>
            have d1 : decide (97 ≤ c) = false := decide_eq_false (by omega)
            have d3 : decide (65 ≤ c) = true := decide_eq_true (by omega)
            have d4 : decide (c ≤ 90) = false := decide_eq_false (by omega)
            have e1 : (c == 95) = false := beq_eq_false_iff_ne.2 (by omega)
            have e2 : (c == 36) = false := beq_eq_false_iff_ne.2 (by omega)
            have HV : Hid (letB c false = false) := letB_no (by first | omega | (simp; omega))
            go_enter Try.func13, Try.ntmps13
            go_wp2
            go_ret
            exact ⟨ret_bool HV.out.symm, rfl⟩
    · by_cases a6 : c = 36
      · skip
        cases scr with
        | true =>
          have d1 : decide (97 ≤ c) = false := decide_eq_false (by omega)
          have d3 : decide (65 ≤ c) = false := decide_eq_false (by omega)
          have e1 : (c == 95) = false := beq_eq_false_iff_ne.2 (by omega)
          have e2 : (c == 36) = true := beq_iff_eq.2 (by omega)
          have HV : Hid (letB c true = true) := letB_iff.2 (by first | omega | (simp; omega))
          clear a6
          go_enter Try.func13, Try.ntmps13
          go_wp2
          go_ret
          exact ⟨ret_bool HV.out.symm, rfl⟩
        | false =>
          have d1 : decide (97 ≤ c) = false := decide_eq_false (by omega)
          have d3 : decide (65 ≤ c) = false := decide_eq_false (by omega)
          have e1 : (c == 95) = false := beq_eq_false_iff_ne.2 (by omega)
          have e2 : (c == 36) = true := beq_iff_eq.2 (by omega)
          have HV : Hid (letB c false = false) := letB_no (by first | omega | (simp; omega))
          clear a6
          go_enter Try.func13, Try.ntmps13
          go_wp2
          go_ret
          exact ⟨ret_bool HV.out.symm, rfl⟩
      · skip
        cases scr with
        | true =>
          have d1 : decide (97 ≤ c) = false := decide_eq_false (by omega)
          have d3 : decide (65 ≤ c) = false := decide_eq_false (by omega)
          have e1 : (c == 95) = false := beq_eq_false_iff_ne.2 (by omega)
          have e2 : (c == 36) = false := beq_eq_false_iff_ne.2 (by omega)
          have HV : Hid (letB c true = false) := letB_no (by first | omega | (simp; omega))
          go_enter Try.func13, Try.ntmps13
          go_wp2
          go_ret
          exact ⟨ret_bool HV.out.symm, rfl⟩
        | false =>
          have d1 : decide (97 ≤ c) = false := decide_eq_false (by omega)
          have d3 : decide (65 ≤ c) = false := decide_eq_false (by omega)
          have e1 : (c == 95) = false := beq_eq_false_iff_ne.2 (by omega)
          have e2 : (c == 36) = false := beq_eq_false_iff_ne.2 (by omega)
          have HV : Hid (letB c false = false) := letB_no (by first | omega | (simp; omega))
          go_enter Try.func13, Try.ntmps13
          go_wp2
          go_ret
          exact ⟨ret_bool HV.out.symm, rfl⟩

theorem digit_spec (c : Int) (w : World) (h0 : 0 ≤ c) (h1 : c ≤ 255) :
    Calls Try.prog 15 #[.int .u8 c] w fun e w' => e = .returned (.bool (digB c)) ∧ w' = w := by
  by_cases a1 : 48 ≤ c
  · have d1 : decide (48 ≤ c) = true := decide_eq_true a1
    by_cases a2 : c ≤ 57
    · have d2 : decide (c ≤ 57) = true := decide_eq_true a2
      have HV : Hid (digB c = true) := digB_iff.2 ⟨a1, a2⟩
      go_enter Try.func15, Try.ntmps15
      go_wp2
      go_ret
      exact ⟨ret_bool HV.out.symm, rfl⟩
    · have d2 : decide (c ≤ 57) = false := decide_eq_false a2
      have HV : Hid (digB c = false) := digB_no (by omega)
      go_enter Try.func15, Try.ntmps15
      go_wp2
      go_ret
      exact ⟨ret_bool HV.out.symm, rfl⟩
  · have d1 : decide (48 ≤ c) = false := decide_eq_false a1
    have HV : Hid (digB c = false) := digB_no (by omega)
    go_enter Try.func15, Try.ntmps15
    go_wp2
    go_ret
    exact ⟨ret_bool HV.out.symm, rfl⟩

def signS : ByteArray := { data := #[123, 125, 40, 41, 44, 59, 61, 46, 42, 43, 45] }
theorem signS_at (k : Nat) (h : k < 11) : Sign (bt signS k) := by
  have : ∀ k : Fin 11, Sign (bt signS k.val) := by decide
  exact this ⟨k, h⟩
theorem signS_all (c : Int) (h : Sign c) : ∃ k, k < 11 ∧ bt signS k = c := by
  rcases h with rfl | rfl | rfl | rfl | rfl | rfl | rfl | rfl | rfl | rfl | rfl
  · exact ⟨0, by decide⟩
  · exact ⟨1, by decide⟩
  · exact ⟨2, by decide⟩
  · exact ⟨3, by decide⟩
  · exact ⟨4, by decide⟩
  · exact ⟨5, by decide⟩
  · exact ⟨6, by decide⟩
  · exact ⟨7, by decide⟩
  · exact ⟨8, by decide⟩
  · exact ⟨9, by decide⟩
  · exact ⟨10, by decide⟩
def signB (c : Int) : Bool := decide (Sign c)
set_option maxHeartbeats 800000 in
theorem sign_spec (c : Int) (w : World) :
    Calls Try.prog 18 #[.int .u8 c] w fun e w' => e = .returned (.bool (signB c)) ∧ w' = w := by
  have hb := get_bt signS
  have hsz : signS.size = 11 := rfl
  obtain ⟨S, hS⟩ : ∃ S, signS = S := ⟨_, rfl⟩
  have HS : Hid (signS = S) := hS
  rw [hS] at hb hsz
  go_enter Try.func18, Try.ntmps18
  go_wp2
  rw [show ({ data := #[123, 125, 40, 41, 44, 59, 61, 46, 42, 43, 45] } : ByteArray) = S from hS]
  clear hS
  go_loop [4] (fun i => ∃ k : Nat, k ≤ 11 ∧ i = .int .i64 k ∧ ∀ j, j < k → bt S j ≠ c) (fun i => (11 - intOf i).toNat)
  case atStart => exact ⟨0, by omega, rfl, fun j hj => absurd hj (Nat.not_lt_zero j)⟩
  case round =>
    obtain ⟨k, hk, rfl, hno⟩ := hrel
    have HNO : Hid (∀ j, j < k → bt S j ≠ c) := hno
    clear hno
    by_cases hlt : k < 11
    · by_cases hc : bt S k = c
      · have hq : (bt S k == c) = true := by simpa using hc
        have HV : Hid (signB c = true) := decide_eq_true (by rw [← hc, ← HS.out]; exact signS_at k hlt)
        clear hc
        go_wp2
        go_ret
        exact ⟨ret_bool HV.out.symm, rfl⟩
      · have hq : (bt S k == c) = false := by simpa using hc
        have HX : Hid (∀ j, j < k + 1 → bt S j ≠ c) := fun j hj => by
          by_cases e : j = k
          · rw [e]; exact hc
          · exact HNO.out j (by omega)
        clear hc
        go_wp2
        go_round
        case rel => exact ⟨k + 1, by omega, by go_num, HX.out⟩
        case measure => simp [intOf]; omega
    · have HV : Hid (signB c = false) := decide_eq_false (fun h => by
        obtain ⟨j, hj, e⟩ := signS_all c h
        rw [HS.out] at e
        exact HNO.out j (by omega) e)
      go_wp2
      go_ret
      exact ⟨ret_bool HV.out.symm, rfl⟩
end Go.Proofs.Ytkplighmefigcaa
