/-
  What impl.isDigit, impl.isNameByte and impl.isStrByte answer: the walks.
-/
import Derived.Test.YtcmpakdfebeklaaLexMath
import Derived.Test.YtcmpakdfebeklaaProg
import Derived.WalkLawsBesides
namespace Go.Proofs.Ytcmpakdfebeklaa
open Go.RowKit Go.PlainAid

theorem digI_no {c : Int} (h : ¬ (48 ≤ c ∧ c ≤ 57)) : digB c = false := decide_eq_false h
theorem worB_iff {c : Int} {scr : Bool} : worB scr c = true ↔ (97 ≤ c ∧ c ≤ 122) ∨ (65 ≤ c ∧ c ≤ 90) ∨ c = 95 ∨ (scr = true ∧ c = 36) ∨ (48 ≤ c ∧ c ≤ 57) := by rw [worB, Bool.or_eq_true, letB_iff, digB_iff]; simp only [or_assoc]
theorem worB_no {c : Int} {scr : Bool} (h : ¬ ((97 ≤ c ∧ c ≤ 122) ∨ (65 ≤ c ∧ c ≤ 90) ∨ c = 95 ∨ (scr = true ∧ c = 36) ∨ (48 ≤ c ∧ c ≤ 57))) : worB scr c = false := Bool.eq_false_iff.2 fun e => h (worB_iff.1 e)

theorem isDigit_any (c : Int) (w : World) (_ : 0 ≤ c) (_ : c ≤ 255) :
    Calls Try.prog 25 #[.int .u8 c] w fun e w' => e = .returned (.bool (digB c)) ∧ w' = w := by
  by_cases a1 : 48 ≤ c
  · by_cases a2 : c ≤ 57
    · have HV : Hid (digB c = true) := digB_iff.2 ⟨a1, a2⟩
      have d1 : decide (48 ≤ c) = true := decide_eq_true (by omega)
      have d2 : decide (c ≤ 57) = true := decide_eq_true (by omega)
      go_enter Try.func25, Try.ntmps25
      go_wp2
      go_ret
      exact ⟨ret_bool HV.out.symm, rfl⟩
    · have HV : Hid (digB c = false) := digI_no (by omega)
      have d1 : decide (48 ≤ c) = true := decide_eq_true (by omega)
      have d2 : decide (c ≤ 57) = false := decide_eq_false (by omega)
      go_enter Try.func25, Try.ntmps25
      go_wp2
      go_ret
      exact ⟨ret_bool HV.out.symm, rfl⟩
  · have HV : Hid (digB c = false) := digI_no (by omega)
    have d1 : decide (48 ≤ c) = false := decide_eq_false (by omega)
    go_enter Try.func25, Try.ntmps25
    go_wp2
    go_ret
    exact ⟨ret_bool HV.out.symm, rfl⟩

set_option maxHeartbeats 1600000 in
theorem isNameByte_any (c : Int) (scr : Bool) (w : World) (h0 : 0 ≤ c) (h1 : c ≤ 255) :
    Calls Try.prog 26 #[.int .u8 c, .bool scr] w fun e w' => e = .returned (.bool (worB scr c)) ∧ w' = w := by
  have hreg : (97 ≤ c ∧ c ≤ 122) ∨ (65 ≤ c ∧ c ≤ 90) ∨ (48 ≤ c ∧ c ≤ 57) ∨ c = 95 ∨ c = 36 ∨ (c < 65 ∧ ¬ (48 ≤ c ∧ c ≤ 57) ∧ c ≠ 36) ∨ (91 ≤ c ∧ c ≤ 96 ∧ c ≠ 95) ∨ 123 ≤ c := by omega
  rcases hreg with r | r | r | r | r | r | r | r
  · have HV : Hid (worB scr c = true) := worB_iff.2 (by omega)
    have d1 : decide (97 ≤ c) = true := decide_eq_true (by omega)
    have d2 : decide (c ≤ 122) = true := decide_eq_true (by omega)
    clear r
    go_enter Try.func26, Try.ntmps26
    go_wp2_with (first | (go_at_call 25; refine (isDigit_any _ _ h0 h1).mono ?_; rintro e w' ⟨rfl, rfl⟩))
    go_ret
    exact ⟨ret_bool HV.out.symm, rfl⟩
  · have HV : Hid (worB scr c = true) := worB_iff.2 (by omega)
    have d1 : decide (97 ≤ c) = false := decide_eq_false (by omega)
    have d3 : decide (65 ≤ c) = true := decide_eq_true (by omega)
    have d4 : decide (c ≤ 90) = true := decide_eq_true (by omega)
    clear r
    go_enter Try.func26, Try.ntmps26
    go_wp2_with (first | (go_at_call 25; refine (isDigit_any _ _ h0 h1).mono ?_; rintro e w' ⟨rfl, rfl⟩))
    go_ret
    exact ⟨ret_bool HV.out.symm, rfl⟩
  · have HV : Hid (worB scr c = true) := worB_iff.2 (by omega)
    have d1 : decide (97 ≤ c) = false := decide_eq_false (by omega)
    have d3 : decide (65 ≤ c) = false := decide_eq_false (by omega)
    have hd : digB c = true := digB_iff.2 r
    clear r
    go_enter Try.func26, Try.ntmps26
    go_wp2_with (first | (go_at_call 25; refine (isDigit_any _ _ h0 h1).mono ?_; rintro e w' ⟨rfl, rfl⟩))
    go_ret
    exact ⟨ret_bool HV.out.symm, rfl⟩
  · have HV : Hid (worB scr c = true) := worB_iff.2 (by omega)
    have d1 : decide (97 ≤ c) = false := decide_eq_false (by omega)
    have d3 : decide (65 ≤ c) = true := decide_eq_true (by omega)
    have d4 : decide (c ≤ 90) = false := decide_eq_false (by omega)
    have hd : digB c = false := digI_no (by omega)
    have e1 : (c == 95) = true := beq_iff_eq.2 (by omega)
    clear r
    go_enter Try.func26, Try.ntmps26
    go_wp2_with (first | (go_at_call 25; refine (isDigit_any _ _ h0 h1).mono ?_; rintro e w' ⟨rfl, rfl⟩))
    go_ret
    exact ⟨ret_bool HV.out.symm, rfl⟩
  · cases scr
    · have HV : Hid (worB false c = false) := worB_no (by simp; omega)
      have d1 : decide (97 ≤ c) = false := decide_eq_false (by omega)
      have d3 : decide (65 ≤ c) = false := decide_eq_false (by omega)
      have hd : digB c = false := digI_no (by omega)
      have e1 : (c == 95) = false := beq_eq_false_iff_ne.2 (by omega)
      have e2 : (c == 36) = true := beq_iff_eq.2 (by omega)
      clear r
      go_enter Try.func26, Try.ntmps26
      go_wp2_with (first | (go_at_call 25; refine (isDigit_any _ _ h0 h1).mono ?_; rintro e w' ⟨rfl, rfl⟩))
      go_ret
      exact ⟨ret_bool HV.out.symm, rfl⟩
    · have HV : Hid (worB true c = true) := worB_iff.2 (by simp; omega)
      have d1 : decide (97 ≤ c) = false := decide_eq_false (by omega)
      have d3 : decide (65 ≤ c) = false := decide_eq_false (by omega)
      have hd : digB c = false := digI_no (by omega)
      have e1 : (c == 95) = false := beq_eq_false_iff_ne.2 (by omega)
      have e2 : (c == 36) = true := beq_iff_eq.2 (by omega)
      clear r
      go_enter Try.func26, Try.ntmps26
      go_wp2_with (first | (go_at_call 25; refine (isDigit_any _ _ h0 h1).mono ?_; rintro e w' ⟨rfl, rfl⟩))
      go_ret
      exact ⟨ret_bool HV.out.symm, rfl⟩
  · cases scr
    · have HV : Hid (worB false c = false) := worB_no (by simp; omega)
      have d1 : decide (97 ≤ c) = false := decide_eq_false (by omega)
      have d3 : decide (65 ≤ c) = false := decide_eq_false (by omega)
      have hd : digB c = false := digI_no (by omega)
      have e1 : (c == 95) = false := beq_eq_false_iff_ne.2 (by omega)
      have e2 : (c == 36) = false := beq_eq_false_iff_ne.2 (by omega)
      clear r
      go_enter Try.func26, Try.ntmps26
      go_wp2_with (first | (go_at_call 25; refine (isDigit_any _ _ h0 h1).mono ?_; rintro e w' ⟨rfl, rfl⟩))
      go_ret
      exact ⟨ret_bool HV.out.symm, rfl⟩
    · have HV : Hid (worB true c = false) := worB_no (by simp; omega)
      have d1 : decide (97 ≤ c) = false := decide_eq_false (by omega)
      have d3 : decide (65 ≤ c) = false := decide_eq_false (by omega)
      have hd : digB c = false := digI_no (by omega)
      have e1 : (c == 95) = false := beq_eq_false_iff_ne.2 (by omega)
      have e2 : (c == 36) = false := beq_eq_false_iff_ne.2 (by omega)
      clear r
      go_enter Try.func26, Try.ntmps26
      go_wp2_with (first | (go_at_call 25; refine (isDigit_any _ _ h0 h1).mono ?_; rintro e w' ⟨rfl, rfl⟩))
      go_ret
      exact ⟨ret_bool HV.out.symm, rfl⟩
  · cases scr
    · have HV : Hid (worB false c = false) := worB_no (by simp; omega)
      have d1 : decide (97 ≤ c) = false := decide_eq_false (by omega)
      have d3 : decide (65 ≤ c) = true := decide_eq_true (by omega)
      have d4 : decide (c ≤ 90) = false := decide_eq_false (by omega)
      have hd : digB c = false := digI_no (by omega)
      have e1 : (c == 95) = false := beq_eq_false_iff_ne.2 (by omega)
      have e2 : (c == 36) = false := beq_eq_false_iff_ne.2 (by omega)
      clear r
      go_enter Try.func26, Try.ntmps26
      go_wp2_with (first | (go_at_call 25; refine (isDigit_any _ _ h0 h1).mono ?_; rintro e w' ⟨rfl, rfl⟩))
      go_ret
      exact ⟨ret_bool HV.out.symm, rfl⟩
    · have HV : Hid (worB true c = false) := worB_no (by simp; omega)
      have d1 : decide (97 ≤ c) = false := decide_eq_false (by omega)
      have d3 : decide (65 ≤ c) = true := decide_eq_true (by omega)
      have d4 : decide (c ≤ 90) = false := decide_eq_false (by omega)
      have hd : digB c = false := digI_no (by omega)
      have e1 : (c == 95) = false := beq_eq_false_iff_ne.2 (by omega)
      have e2 : (c == 36) = false := beq_eq_false_iff_ne.2 (by omega)
      clear r
      go_enter Try.func26, Try.ntmps26
      go_wp2_with (first | (go_at_call 25; refine (isDigit_any _ _ h0 h1).mono ?_; rintro e w' ⟨rfl, rfl⟩))
      go_ret
      exact ⟨ret_bool HV.out.symm, rfl⟩
  · cases scr
    · have HV : Hid (worB false c = false) := worB_no (by simp; omega)
      have d1 : decide (97 ≤ c) = true := decide_eq_true (by omega)
      have d2 : decide (c ≤ 122) = false := decide_eq_false (by omega)
      have d3 : decide (65 ≤ c) = true := decide_eq_true (by omega)
      have d4 : decide (c ≤ 90) = false := decide_eq_false (by omega)
      have hd : digB c = false := digI_no (by omega)
      have e1 : (c == 95) = false := beq_eq_false_iff_ne.2 (by omega)
      have e2 : (c == 36) = false := beq_eq_false_iff_ne.2 (by omega)
      clear r
      go_enter Try.func26, Try.ntmps26
      go_wp2_with (first | (go_at_call 25; refine (isDigit_any _ _ h0 h1).mono ?_; rintro e w' ⟨rfl, rfl⟩))
      go_ret
      exact ⟨ret_bool HV.out.symm, rfl⟩
    · have HV : Hid (worB true c = false) := worB_no (by simp; omega)
      have d1 : decide (97 ≤ c) = true := decide_eq_true (by omega)
      have d2 : decide (c ≤ 122) = false := decide_eq_false (by omega)
      have d3 : decide (65 ≤ c) = true := decide_eq_true (by omega)
      have d4 : decide (c ≤ 90) = false := decide_eq_false (by omega)
      have hd : digB c = false := digI_no (by omega)
      have e1 : (c == 95) = false := beq_eq_false_iff_ne.2 (by omega)
      have e2 : (c == 36) = false := beq_eq_false_iff_ne.2 (by omega)
      clear r
      go_enter Try.func26, Try.ntmps26
      go_wp2_with (first | (go_at_call 25; refine (isDigit_any _ _ h0 h1).mono ?_; rintro e w' ⟨rfl, rfl⟩))
      go_ret
      exact ⟨ret_bool HV.out.symm, rfl⟩

def strB (c : Int) : Bool := decide (InStr c)
set_option maxHeartbeats 1600000 in
theorem isStrByte_any (c : Int) (w : World) (h0 : 0 ≤ c) (h1 : c ≤ 255) :
    Calls Try.prog 65 #[.int .u8 c] w fun e w' => e = .returned (.bool (strB c)) ∧ w' = w := by
  have hreg : c < 32 ∨ 127 ≤ c ∨ c = 34 ∨ c = 92 ∨ InStr c := by unfold InStr; omega
  rcases hreg with r | r | r | r | r
  · have HV : Hid (strB c = false) := decide_eq_false (fun h => by unfold InStr at h; omega)
    have d1 : decide (32 ≤ c) = false := decide_eq_false (by omega)
    clear r
    go_enter Try.func65, Try.ntmps65
    go_wp2
    go_ret
    exact ⟨ret_bool HV.out.symm, rfl⟩
  · have HV : Hid (strB c = false) := decide_eq_false (fun h => by unfold InStr at h; omega)
    have d1 : decide (32 ≤ c) = true := decide_eq_true (by omega)
    have d2 : decide (c ≤ 126) = false := decide_eq_false (by omega)
    clear r
    go_enter Try.func65, Try.ntmps65
    go_wp2
    go_ret
    exact ⟨ret_bool HV.out.symm, rfl⟩
  · have HV : Hid (strB c = false) := decide_eq_false (fun h => by unfold InStr at h; omega)
    subst r
    go_enter Try.func65, Try.ntmps65
    go_wp2
    go_ret
    exact ⟨ret_bool HV.out.symm, rfl⟩
  · have HV : Hid (strB c = false) := decide_eq_false (fun h => by unfold InStr at h; omega)
    subst r
    go_enter Try.func65, Try.ntmps65
    go_wp2
    go_ret
    exact ⟨ret_bool HV.out.symm, rfl⟩
  · have HV : Hid (strB c = true) := decide_eq_true r
    obtain ⟨r1, r2, r3, r4⟩ := r
    have d1 : decide (32 ≤ c) = true := decide_eq_true (by omega)
    have d2 : decide (c ≤ 126) = true := decide_eq_true (by omega)
    have n1 : (c != 34) = true := bne_iff_ne.2 (by omega)
    have n2 : (c != 92) = true := bne_iff_ne.2 (by omega)
    clear r1 r2 r3 r4
    go_enter Try.func65, Try.ntmps65
    go_wp2
    go_ret
    exact ⟨ret_bool HV.out.symm, rfl⟩
end Go.Proofs.Ytcmpakdfebeklaa
