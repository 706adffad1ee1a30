/-
  What impl.isDigit, impl.isNameByte and impl.isStrByte answer: the walks.
  Plain facts on decimal digits. No program is spoken of.
  Plain facts on which texts are decimal numbers of at most nine digits, and of which. No program is spoken of.
-/
import Derived.Test.YticdggnnpjachaaGreatProg
import Derived.WalkLawsBesides
import Derived.Test.YticdggnnpjachaaGreatCaBytesToParseMath
namespace Go.Proofs.YticdggnnpjachaaGreat
open Go.RowKit Go.PlainAid

theorem digI_no {c : Int} (h : ¬ (48 ≤ c ∧ c ≤ 57)) : digB c = false := decide_eq_false h
theorem worB_iff {c : Int} {scr : Bool} : worB scr c = true ↔ (97 ≤ c ∧ c ≤ 122) ∨ (65 ≤ c ∧ c ≤ 90) ∨ c = 95 ∨ (scr = true ∧ c = 36) ∨ (48 ≤ c ∧ c ≤ 57) := by rw [worB, Bool.or_eq_true, letB_iff, digB_iff]; simp only [or_assoc]
theorem worB_no {c : Int} {scr : Bool} (h : ¬ ((97 ≤ c ∧ c ≤ 122) ∨ (65 ≤ c ∧ c ≤ 90) ∨ c = 95 ∨ (scr = true ∧ c = 36) ∨ (48 ≤ c ∧ c ≤ 57))) : worB scr c = false := Bool.eq_false_iff.2 fun e => h (worB_iff.1 e)

theorem isDigit_any (c : Int) (w : World) (_ : 0 ≤ c) (_ : c ≤ 255) :
    Calls Tryz.prog 82 #[.int .u8 c] w fun e w' => e = .returned (.bool (digB c)) ∧ w' = w := by
  by_cases a1 : 48 ≤ c
  · by_cases a2 : c ≤ 57
    · have HV : Hid (digB c = true) := digB_iff.2 ⟨a1, a2⟩
      have d1 : decide (48 ≤ c) = true := decide_eq_true (by omega)
      have d2 : decide (c ≤ 57) = true := decide_eq_true (by omega)
      go_enter Tryz.func82, Tryz.ntmps82
      go_wp2
      go_ret
      exact ⟨ret_bool HV.out.symm, rfl⟩
    · have HV : Hid (digB c = false) := digI_no (by omega)
      have d1 : decide (48 ≤ c) = true := decide_eq_true (by omega)
      have d2 : decide (c ≤ 57) = false := decide_eq_false (by omega)
      go_enter Tryz.func82, Tryz.ntmps82
      go_wp2
      go_ret
      exact ⟨ret_bool HV.out.symm, rfl⟩
  · have HV : Hid (digB c = false) := digI_no (by omega)
    have d1 : decide (48 ≤ c) = false := decide_eq_false (by omega)
    go_enter Tryz.func82, Tryz.ntmps82
    go_wp2
    go_ret
    exact ⟨ret_bool HV.out.symm, rfl⟩

set_option maxHeartbeats 1600000 in
theorem isNameByte_any (c : Int) (scr : Bool) (w : World) (h0 : 0 ≤ c) (h1 : c ≤ 255) :
    Calls Tryz.prog 83 #[.int .u8 c, .bool scr] w fun e w' => e = .returned (.bool (worB scr c)) ∧ w' = w := by
  have hreg : (97 ≤ c ∧ c ≤ 122) ∨ (65 ≤ c ∧ c ≤ 90) ∨ (48 ≤ c ∧ c ≤ 57) ∨ c = 95 ∨ c = 36 ∨ (c < 65 ∧ ¬ (48 ≤ c ∧ c ≤ 57) ∧ c ≠ 36) ∨ (91 ≤ c ∧ c ≤ 96 ∧ c ≠ 95) ∨ 123 ≤ c := by omega
  rcases hreg with r | r | r | r | r | r | r | r
  · have HV : Hid (worB scr c = true) := worB_iff.2 (by omega)
    have d1 : decide (97 ≤ c) = true := decide_eq_true (by omega)
    have d2 : decide (c ≤ 122) = true := decide_eq_true (by omega)
    clear r
    go_enter Tryz.func83, Tryz.ntmps83
    go_wp2_with (first | (go_at_call 82; refine (isDigit_any _ _ h0 h1).mono ?_; rintro e w' ⟨rfl, rfl⟩))
    go_ret
    exact ⟨ret_bool HV.out.symm, rfl⟩
  · have HV : Hid (worB scr c = true) := worB_iff.2 (by omega)
    have d1 : decide (97 ≤ c) = false := decide_eq_false (by omega)
    have d3 : decide (65 ≤ c) = true := decide_eq_true (by omega)
    have d4 : decide (c ≤ 90) = true := decide_eq_true (by omega)
    clear r
    go_enter Tryz.func83, Tryz.ntmps83
    go_wp2_with (first | (go_at_call 82; refine (isDigit_any _ _ h0 h1).mono ?_; rintro e w' ⟨rfl, rfl⟩))
    go_ret
    exact ⟨ret_bool HV.out.symm, rfl⟩
  · have HV : Hid (worB scr c = true) := worB_iff.2 (by omega)
    have d1 : decide (97 ≤ c) = false := decide_eq_false (by omega)
    have d3 : decide (65 ≤ c) = false := decide_eq_false (by omega)
    have hd : digB c = true := digB_iff.2 r
    clear r
    go_enter Tryz.func83, Tryz.ntmps83
    go_wp2_with (first | (go_at_call 82; refine (isDigit_any _ _ h0 h1).mono ?_; rintro e w' ⟨rfl, rfl⟩))
    go_ret
    exact ⟨ret_bool HV.out.symm, rfl⟩
  · have HV : Hid (worB scr c = true) := worB_iff.2 (by omega)
    have d1 : decide (97 ≤ c) = false := decide_eq_false (by omega)
    have d3 : decide (65 ≤ c) = true := decide_eq_true (by omega)
    have d4 : decide (c ≤ 90) = false := decide_eq_false (by omega)
    have hd : digB c = false := digI_no (by omega)
    have e1 : (c == 95) = true := beq_iff_eq.2 (by omega)
    clear r
    go_enter Tryz.func83, Tryz.ntmps83
    go_wp2_with (first | (go_at_call 82; refine (isDigit_any _ _ h0 h1).mono ?_; rintro e w' ⟨rfl, rfl⟩))
    go_ret
    exact ⟨ret_bool HV.out.symm, rfl⟩
  · cases scr
    · have HV : Hid (worB false c = false) := worB_no (by simp; omega)
      have d1 : decide (97 ≤ c) = false := decide_eq_false (by omega)
      have d3 : decide (65 ≤ c) = false := decide_eq_false (by omega)
      have hd : digB c = false := digI_no (by omega)
      have e1 : (c == 95) = false := beq_eq_false_iff_ne.2 (by omega)
      have e2 : (c == 36) = true := beq_iff_eq.2 (by omega)
      clear r
      go_enter Tryz.func83, Tryz.ntmps83
      go_wp2_with (first | (go_at_call 82; refine (isDigit_any _ _ h0 h1).mono ?_; rintro e w' ⟨rfl, rfl⟩))
      go_ret
      exact ⟨ret_bool HV.out.symm, rfl⟩
    · have HV : Hid (worB true c = true) := worB_iff.2 (by simp; omega)
      have d1 : decide (97 ≤ c) = false := decide_eq_false (by omega)
      have d3 : decide (65 ≤ c) = false := decide_eq_false (by omega)
      have hd : digB c = false := digI_no (by omega)
      have e1 : (c == 95) = false := beq_eq_false_iff_ne.2 (by omega)
      have e2 : (c == 36) = true := beq_iff_eq.2 (by omega)
      clear r
      go_enter Tryz.func83, Tryz.ntmps83
      go_wp2_with (first | (go_at_call 82; refine (isDigit_any _ _ h0 h1).mono ?_; rintro e w' ⟨rfl, rfl⟩))
      go_ret
      exact ⟨ret_bool HV.out.symm, rfl⟩
  · cases scr
    · have HV : Hid (worB false c = false) := worB_no (by simp; omega)
      have d1 : decide (97 ≤ c) = false := decide_eq_false (by omega)
      have d3 : decide (65 ≤ c) = false := decide_eq_false (by omega)
      have hd : digB c = false := digI_no (by omega)
      have e1 : (c == 95) = false := beq_eq_false_iff_ne.2 (by omega)
      have e2 : (c == 36) = false := beq_eq_false_iff_ne.2 (by omega)
      clear r
      go_enter Tryz.func83, Tryz.ntmps83
      go_wp2_with (first | (go_at_call 82; refine (isDigit_any _ _ h0 h1).mono ?_; rintro e w' ⟨rfl, rfl⟩))
      go_ret
      exact ⟨ret_bool HV.out.symm, rfl⟩
    · have HV : Hid (worB true c = false) := worB_no (by simp; omega)
      have d1 : decide (97 ≤ c) = false := decide_eq_false (by omega)
      have d3 : decide (65 ≤ c) = false := decide_eq_false (by omega)
      have hd : digB c = false := digI_no (by omega)
      have e1 : (c == 95) = false := beq_eq_false_iff_ne.2 (by omega)
      have e2 : (c == 36) = false := beq_eq_false_iff_ne.2 (by omega)
      clear r
      go_enter Tryz.func83, Tryz.ntmps83
      go_wp2_with (first | (go_at_call 82; refine (isDigit_any _ _ h0 h1).mono ?_; rintro e w' ⟨rfl, rfl⟩))
      go_ret
      exact ⟨ret_bool HV.out.symm, rfl⟩
  · cases scr
    · have HV : Hid (worB false c = false) := worB_no (by simp; omega)
      have d1 : decide (97 ≤ c) = false := decide_eq_false (by omega)
      have d3 : decide (65 ≤ c) = true := decide_eq_true (by omega)
      have d4 : decide (c ≤ 90) = false := decide_eq_false (by omega)
      have hd : digB c = false := digI_no (by omega)
      have e1 : (c == 95) = false := beq_eq_false_iff_ne.2 (by omega)
      have e2 : (c == 36) = false := beq_eq_false_iff_ne.2 (by omega)
      clear r
      go_enter Tryz.func83, Tryz.ntmps83
      go_wp2_with (first | (go_at_call 82; refine (isDigit_any _ _ h0 h1).mono ?_; rintro e w' ⟨rfl, rfl⟩))
      go_ret
      exact ⟨ret_bool HV.out.symm, rfl⟩
    · have HV : Hid (worB true c = false) := worB_no (by simp; omega)
      have d1 : decide (97 ≤ c) = false := decide_eq_false (by omega)
      have d3 : decide (65 ≤ c) = true := decide_eq_true (by omega)
      have d4 : decide (c ≤ 90) = false := decide_eq_false (by omega)
      have hd : digB c = false := digI_no (by omega)
      have e1 : (c == 95) = false := beq_eq_false_iff_ne.2 (by omega)
      have e2 : (c == 36) = false := beq_eq_false_iff_ne.2 (by omega)
      clear r
      go_enter Tryz.func83, Tryz.ntmps83
      go_wp2_with (first | (go_at_call 82; refine (isDigit_any _ _ h0 h1).mono ?_; rintro e w' ⟨rfl, rfl⟩))
      go_ret
      exact ⟨ret_bool HV.out.symm, rfl⟩
  · cases scr
    · have HV : Hid (worB false c = false) := worB_no (by simp; omega)
      have d1 : decide (97 ≤ c) = true := decide_eq_true (by omega)
      have d2 : decide (c ≤ 122) = false := decide_eq_false (by omega)
      have d3 : decide (65 ≤ c) = true := decide_eq_true (by omega)
      have d4 : decide (c ≤ 90) = false := decide_eq_false (by omega)
      have hd : digB c = false := digI_no (by omega)
      have e1 : (c == 95) = false := beq_eq_false_iff_ne.2 (by omega)
      have e2 : (c == 36) = false := beq_eq_false_iff_ne.2 (by omega)
      clear r
      go_enter Tryz.func83, Tryz.ntmps83
      go_wp2_with (first | (go_at_call 82; refine (isDigit_any _ _ h0 h1).mono ?_; rintro e w' ⟨rfl, rfl⟩))
      go_ret
      exact ⟨ret_bool HV.out.symm, rfl⟩
    · have HV : Hid (worB true c = false) := worB_no (by simp; omega)
      have d1 : decide (97 ≤ c) = true := decide_eq_true (by omega)
      have d2 : decide (c ≤ 122) = false := decide_eq_false (by omega)
      have d3 : decide (65 ≤ c) = true := decide_eq_true (by omega)
      have d4 : decide (c ≤ 90) = false := decide_eq_false (by omega)
      have hd : digB c = false := digI_no (by omega)
      have e1 : (c == 95) = false := beq_eq_false_iff_ne.2 (by omega)
      have e2 : (c == 36) = false := beq_eq_false_iff_ne.2 (by omega)
      clear r
      go_enter Tryz.func83, Tryz.ntmps83
      go_wp2_with (first | (go_at_call 82; refine (isDigit_any _ _ h0 h1).mono ?_; rintro e w' ⟨rfl, rfl⟩))
      go_ret
      exact ⟨ret_bool HV.out.symm, rfl⟩

def strB (c : Int) : Bool := decide (InStr c)
set_option maxHeartbeats 1600000 in
theorem isStrByte_any (c : Int) (w : World) (h0 : 0 ≤ c) (h1 : c ≤ 255) :
    Calls Tryz.prog 143 #[.int .u8 c] w fun e w' => e = .returned (.bool (strB c)) ∧ w' = w := by
  have hreg : c < 32 ∨ 127 ≤ c ∨ c = 34 ∨ c = 92 ∨ InStr c := by unfold InStr; omega
  rcases hreg with r | r | r | r | r
  · have HV : Hid (strB c = false) := decide_eq_false (fun h => by unfold InStr at h; omega)
    have d1 : decide (32 ≤ c) = false := decide_eq_false (by omega)
    clear r
    go_enter Tryz.func143, Tryz.ntmps143
    go_wp2
    go_ret
    exact ⟨ret_bool HV.out.symm, rfl⟩
  · have HV : Hid (strB c = false) := decide_eq_false (fun h => by unfold InStr at h; omega)
    have d1 : decide (32 ≤ c) = true := decide_eq_true (by omega)
    have d2 : decide (c ≤ 126) = false := decide_eq_false (by omega)
    clear r
    go_enter Tryz.func143, Tryz.ntmps143
    go_wp2
    go_ret
    exact ⟨ret_bool HV.out.symm, rfl⟩
  · have HV : Hid (strB c = false) := decide_eq_false (fun h => by unfold InStr at h; omega)
    subst r
    go_enter Tryz.func143, Tryz.ntmps143
    go_wp2
    go_ret
    exact ⟨ret_bool HV.out.symm, rfl⟩
  · have HV : Hid (strB c = false) := decide_eq_false (fun h => by unfold InStr at h; omega)
    subst r
    go_enter Tryz.func143, Tryz.ntmps143
    go_wp2
    go_ret
    exact ⟨ret_bool HV.out.symm, rfl⟩
  · have HV : Hid (strB c = true) := decide_eq_true r
    obtain ⟨r1, r2, r3, r4⟩ := r
    have d1 : decide (32 ≤ c) = true := decide_eq_true (by omega)
    have d2 : decide (c ≤ 126) = true := decide_eq_true (by omega)
    have n1 : (c != 34) = true := bne_iff_ne.2 (by omega)
    have n2 : (c != 92) = true := bne_iff_ne.2 (by omega)
    clear r1 r2 r3 r4
    go_enter Tryz.func143, Tryz.ntmps143
    go_wp2
    go_ret
    exact ⟨ret_bool HV.out.symm, rfl⟩
end Go.Proofs.YticdggnnpjachaaGreat
namespace Go.Proofs.YticdggnnpjachaaGreat
open Go.RowKit Go.PlainAid

theorem pow10_pos (k : Nat) : (0 : Int) < 10 ^ k := Int.pow_pos (by omega)
theorem pow10 (k : Nat) : (10 : Int) ^ (k + 1) = 10 ^ k * 10 := Int.pow_succ _ _
theorem pow10_mono {a b : Nat} (h : a ≤ b) : (10 : Int) ^ a ≤ 10 ^ b := by
  induction b with
  | zero =>
    obtain rfl : a = 0 := by omega
    exact Int.le_refl _
  | succ b ih =>
    by_cases e : a = b + 1
    · rw [e]; exact Int.le_refl _
    · have := ih (by omega)
      have := pow10_pos b
      rw [pow10]
      omega
theorem tenth (n : Int) (k : Nat) : n / 10 ^ k / 10 = n / 10 ^ (k + 1) := by
  rw [pow10, Int.ediv_ediv_of_nonneg (Int.le_of_lt (pow10_pos k))]
theorem tenth_bd (n : Int) (k : Nat) (h : 0 ≤ n) : 0 ≤ n / 10 ^ k ∧ n / 10 ^ k ≤ n :=
  ⟨Int.ediv_nonneg h (Int.le_of_lt (pow10_pos k)), Int.ediv_le_self _ h⟩

def dc : Nat → Int → Nat
  | 0, _ => 1
  | f + 1, q => if q < 10 then 1 else dc f (q / 10) + 1
theorem dc_facts (f : Nat) (q : Int) (h0 : 0 ≤ q) (h : q < 10 ^ (f + 1)) : 1 ≤ dc f q ∧ dc f q ≤ f + 1 ∧ q < 10 ^ dc f q ∧ (dc f q = 1 ∨ 10 ^ (dc f q - 1) ≤ q) := by
  induction f generalizing q with
  | zero => simpa [dc] using h
  | succ f ih =>
    unfold dc
    by_cases hq : q < 10
    · rw [if_pos hq]
      exact ⟨by omega, by omega, by simpa using hq, .inl rfl⟩
    · rw [if_neg hq]
      obtain ⟨a, b, c, d⟩ := ih (q / 10) (by omega) (by rw [pow10] at h; omega)
      refine ⟨by omega, by omega, ?_, .inr ?_⟩
      · rw [pow10]; omega
      · rw [Nat.add_sub_cancel]
        rcases d with d | d
        · rw [d]
          show (10 : Int) ^ 1 ≤ q
          rw [show (10 : Int) ^ 1 = 10 from by decide]
          omega
        · rw [show dc f (q / 10) = (dc f (q / 10) - 1) + 1 from by omega, pow10]
          omega
def dcn (m : Int) : Nat := dc 19 m
theorem dcn_facts (m : Int) (h0 : 0 ≤ m) (h : m ≤ 18446744073709551615) : 1 ≤ dcn m ∧ dcn m ≤ 20 ∧ m < 10 ^ dcn m ∧ (dcn m = 1 ∨ 10 ^ (dcn m - 1) ≤ m) :=
  dc_facts 19 m h0 (by rw [show (10 : Int) ^ (19 + 1) = 100000000000000000000 by decide]; omega)
theorem more_iff (m : Int) (h0 : 0 ≤ m) (h : m ≤ 18446744073709551615) (k : Nat) : 10 ≤ m / 10 ^ k ↔ k + 1 < dcn m := by
  obtain ⟨a, b, c, d⟩ := dcn_facts m h0 h
  rw [Int.le_ediv_iff_mul_le (pow10_pos k), Int.mul_comm, ← pow10]
  constructor
  · intro hk
    rcases Nat.lt_or_ge (k + 1) (dcn m) with e | e
    · exact e
    · have := pow10_mono e
      omega
  · intro hk
    have := pow10_mono (show k + 1 ≤ dcn m - 1 by omega)
    omega
theorem some_iff (m : Int) (h0 : 1 ≤ m) (h : m ≤ 18446744073709551615) (k : Nat) : m / 10 ^ k ≠ 0 ↔ k < dcn m := by
  obtain ⟨a, b, c, d⟩ := dcn_facts m (by omega) h
  have hb := tenth_bd m k (by omega)
  have : m / 10 ^ k ≠ 0 ↔ 1 ≤ m / 10 ^ k := by omega
  rw [this, Int.le_ediv_iff_mul_le (pow10_pos k), Int.one_mul]
  constructor
  · intro hk
    rcases Nat.lt_or_ge k (dcn m) with e | e
    · exact e
    · have := pow10_mono e
      omega
  · intro hk
    have := pow10_mono (show k ≤ dcn m - 1 by omega)
    rcases d with d | d
    · obtain rfl : k = 0 := by omega
      simpa using h0
    · omega

def dgk (m : Int) : Nat → List Int
  | 0 => []
  | k + 1 => (48 + m / 10 ^ k % 10) :: dgk m k
theorem dgk_length (m : Int) (k : Nat) : (dgk m k).length = k := by
  induction k with
  | zero => rfl
  | succ k ih => simp [dgk, ih]
theorem dgk_at (m : Int) (c k : Nat) (h : k < c) : (dgk m c)[c - 1 - k]? = some (48 + m / 10 ^ k % 10) := by
  induction c with
  | zero => omega
  | succ c ih =>
    by_cases e : k = c
    · subst e
      rw [show k + 1 - 1 - k = 0 from by omega]
      rfl
    · rw [show c + 1 - 1 - k = (c - 1 - k) + 1 from by omega, dgk, List.getElem?_cons_succ]
      exact ih (by omega)
theorem dgk_bd (m : Int) (k : Nat) : ∀ x ∈ dgk m k, 48 ≤ x ∧ x ≤ 57 := by
  induction k with
  | zero => simp [dgk]
  | succ k ih =>
    intro x hx
    simp only [dgk, List.mem_cons] at hx
    rcases hx with rfl | hx
    · omega
    · exact ih x hx
def absI (n : Int) : Int := if n < 0 then -n else n
theorem absI_neg {n : Int} (h : n < 0) : absI n = -n := by simp [absI, h]
theorem absI_pos {n : Int} (h : 0 ≤ n) : absI n = n := by rw [absI, if_neg (by omega)]
def decL (n : Int) : List Int := (if n < 0 then [45] else []) ++ dgk (absI n) (dcn (absI n))
theorem decL_neg {n : Int} (h : n < 0) : decL n = 45 :: dgk (-n) (dcn (-n)) := by simp [decL, h, absI]
theorem decL_pos {n : Int} (h : 0 ≤ n) : decL n = dgk n (dcn n) := by
  have : ¬ n < 0 := by omega
  simp [decL, this, absI]
theorem decL_bd (n : Int) : ∀ x ∈ decL n, 0 ≤ x ∧ x ≤ 255 := by
  intro x hx
  simp only [decL, List.mem_append] at hx
  rcases hx with hx | hx
  · split at hx
    · simp at hx; omega
    · simp at hx
  · have := dgk_bd _ _ x hx
    omega
theorem fillBack_full (L : List Int) : fillBack L L.length = L := by simp [fillBack]
theorem fillBack_head (x : Int) (L : List Int) : (fillBack (x :: L) L.length).set 0 x = x :: L := by
  simp [fillBack]
theorem back_at (p : List Int) (m : Int) (c k : Nat) (h : k < c) : (p ++ dgk m c)[(p ++ dgk m c).length - 1 - k]? = some (48 + m / 10 ^ k % 10) := by
  rw [List.length_append, dgk_length, List.getElem?_append_right (by omega), show p.length + c - 1 - k - p.length = c - 1 - k from by omega]
  exact dgk_at m c k h
end Go.Proofs.YticdggnnpjachaaGreat
namespace Go.Proofs.YticdggnnpjachaaGreat
open Go.RowKit Go.PlainAid

theorem ten_first (m d : Int) (h0 : 0 ≤ d) (h1 : d ≤ 9) (k : Nat) : (m * 10 + d) / 10 ^ (k + 1) = m / 10 ^ k := by
  rw [Int.pow_succ, Int.mul_comm (10 ^ k) 10, ← Int.ediv_ediv_of_nonneg (by omega), show (m * 10 + d) / 10 = m from by omega]
theorem dgk_snoc (m d : Int) (h0 : 0 ≤ d) (h1 : d ≤ 9) (k : Nat) : dgk (m * 10 + d) (k + 1) = dgk m k ++ [48 + d] := by
  induction k with
  | zero =>
    simp only [dgk, Int.pow_zero, Int.ediv_one, List.nil_append]
    rw [show (m * 10 + d) % 10 = d from by omega]
  | succ k ih =>
    rw [dgk, ih, dgk, List.cons_append, ten_first m d h0 h1]

abbrev isDig (c : Int) : Prop := 48 ≤ c ∧ c ≤ 57
def dv (s : ByteArray) (p : Nat) : Nat → Int
  | 0 => 0
  | k + 1 => dv s p k * 10 + (bt s (p + k) - 48)
theorem dv_bd (s : ByteArray) (p k : Nat) (h : ∀ j, j < k → isDig (bt s (p + j))) : 0 ≤ dv s p k ∧ dv s p k < 10 ^ k := by
  induction k with
  | zero => simp [dv]
  | succ k ih =>
    obtain ⟨a, b⟩ := ih (fun j hj => h j (by omega))
    have c := h k (by omega)
    unfold isDig at c
    rw [dv, pow10]
    omega
theorem dv_low (s : ByteArray) (p k : Nat) (h : ∀ j, j < k + 1 → isDig (bt s (p + j))) (h0 : bt s p ≠ 48) : 10 ^ k ≤ dv s p (k + 1) := by
  induction k with
  | zero =>
    have c := h 0 (by omega)
    unfold isDig at c
    rw [Nat.add_zero] at c
    simp only [dv, Nat.add_zero]
    rw [show (10 : Int) ^ 0 = 1 from rfl]
    omega
  | succ k ih =>
    have a := ih (fun j hj => h j (by omega))
    have c := h (k + 1) (by omega)
    unfold isDig at c
    rw [dv, pow10]
    omega
theorem dgk_dv (s : ByteArray) (p k : Nat) (h : ∀ j, j < k → isDig (bt s (p + j))) : dgk (dv s p k) k = bsl s p k := by
  induction k with
  | zero => rfl
  | succ k ih =>
    have c := h k (by omega)
    unfold isDig at c
    rw [dv, dgk_snoc _ _ (by omega) (by omega), ih (fun j hj => h j (by omega)), bsl_snoc]
    congr 2
    omega
theorem dcn_unique (m : Int) (L : Nat) (h0 : 0 ≤ m) (h1 : m ≤ 18446744073709551615) (hL : 1 ≤ L) (hlo : L = 1 ∨ 10 ^ (L - 1) ≤ m) (hhi : m < 10 ^ L) : dcn m = L := by
  obtain ⟨a, b, c, d⟩ := dcn_facts m h0 h1
  rcases Nat.lt_trichotomy (dcn m) L with e | e | e
  · have := pow10_mono (show dcn m ≤ L - 1 by omega)
    omega
  · exact e
  · have := pow10_mono (show L ≤ dcn m - 1 by omega)
    omega
theorem pow10_le (k : Nat) (h : k ≤ 9) : (10 : Int) ^ k ≤ 1000000000 := by
  have := pow10_mono h
  have e : (10 : Int) ^ 9 = 1000000000 := by decide
  omega

def pfx (s : ByteArray) : Nat := if bt s 0 = 45 then 1 else 0
theorem pfx_le (s : ByteArray) : pfx s ≤ s.size := by
  unfold pfx
  split
  · rename_i h
    rcases Nat.eq_zero_or_pos s.size with e | e
    · rw [bt_end s (by omega)] at h
      omega
    · omega
  · omega
abbrev RdP (s : ByteArray) : Prop :=
  1 ≤ s.size - pfx s ∧ s.size - pfx s ≤ 9 ∧ (∀ j, j < s.size - pfx s → isDig (bt s (pfx s + j))) ∧ (bt s (pfx s) ≠ 48 ∨ (pfx s = 0 ∧ s.size = 1))
def rdOk (s : ByteArray) : Bool := decide (RdP s)
def rdV (s : ByteArray) : Int := if rdOk s then (if pfx s = 1 then -dv s 1 (s.size - 1) else dv s 0 s.size) else 0
theorem rdOk_yes {s : ByteArray} (h : RdP s) : rdOk s = true := decide_eq_true h
theorem rdOk_no {s : ByteArray} (h : ¬ RdP s) : rdOk s = false := decide_eq_false h
theorem rdV_no {s : ByteArray} (h : ¬ RdP s) : rdV s = 0 := by rw [rdV, rdOk_no h]; rfl

def spV (s : ByteArray) : Nat → Int
  | 0 => 0
  | k + 1 => if isDig (bt s k) then spV s k * 10 + (bt s k - 48) else spV s k
def spK (s : ByteArray) : Nat → Int
  | 0 => 0
  | k + 1 => if isDig (bt s k) then spK s k + 1 else spK s k
theorem spK_bd (s : ByteArray) (k : Nat) : 0 ≤ spK s k ∧ spK s k ≤ k := by
  induction k with
  | zero => simp [spK]
  | succ k ih =>
    simp only [spK]
    split <;> omega
theorem spV_bd (s : ByteArray) (k : Nat) : 0 ≤ spV s k ∧ spV s k < 10 ^ k := by
  induction k with
  | zero => simp [spV]
  | succ k ih =>
    have := pow10_pos k
    simp only [spV, pow10]
    split
    · rename_i h
      unfold isDig at h
      omega
    · omega
theorem sp_on (s : ByteArray) (p k : Nat) (h : ∀ j, j < k → isDig (bt s (p + j))) (hv : spV s p = 0) (hk : spK s p = 0) : spV s (p + k) = dv s p k ∧ spK s (p + k) = k := by
  induction k with
  | zero => exact ⟨hv, hk⟩
  | succ k ih =>
    obtain ⟨a, b⟩ := ih (fun j hj => h j (by omega))
    have c := h k (by omega)
    rw [show p + (k + 1) = (p + k) + 1 from by omega, spV, spK, if_pos c, if_pos c, a, b, dv]
    exact ⟨rfl, by omega⟩
theorem sp_first {s : ByteArray} (h : bt s 0 = 45) : spV s 1 = 0 ∧ spK s 1 = 0 := by
  have : ¬ isDig (bt s 0) := by rw [h]; decide
  simp [spV, spK, this]
def spN (s : ByteArray) : Int := if bt s 0 = 45 then -spV s s.size else spV s s.size
theorem lead (m : Int) (h0 : 1 ≤ m) (h1 : m ≤ 18446744073709551615) : 48 + m / 10 ^ (dcn m - 1) % 10 ≠ 48 := by
  obtain ⟨a, b, c, d⟩ := dcn_facts m (by omega) h1
  have e : m / 10 ^ (dcn m - 1) < 10 := by
    rw [Int.ediv_lt_iff_lt_mul (pow10_pos _), Int.mul_comm, ← pow10, show dcn m - 1 + 1 = dcn m from by omega]
    exact c
  have f : 1 ≤ m / 10 ^ (dcn m - 1) := by
    rw [Int.le_ediv_iff_mul_le (pow10_pos _), Int.one_mul]
    rcases d with d | d
    · rw [d]; simpa using h0
    · exact d
  omega
theorem spN_of (s : ByteArray) (h : RdP s) : spN s = rdV s ∧ spK s s.size ≤ 9 ∧ s.size ≤ 10 ∧ decL (spN s) = bsl s 0 s.size := by
  have hok := rdOk_yes h
  obtain ⟨h1, h9, hd, hz⟩ := h
  have hp := pfx_le s
  by_cases hm : bt s 0 = 45
  · have ep : pfx s = 1 := by simp [pfx, hm]
    rw [ep] at h1 h9 hd hz hp
    have hf := sp_first hm
    obtain ⟨a, b⟩ := sp_on s 1 (s.size - 1) hd hf.1 hf.2
    rw [show 1 + (s.size - 1) = s.size from by omega] at a b
    have hn : bt s 1 ≠ 48 := by omega
    have hlo := dv_low s 1 (s.size - 1 - 1) (fun j hj => hd j (by omega)) hn
    rw [show s.size - 1 - 1 + 1 = s.size - 1 from by omega] at hlo
    have hbd := dv_bd s 1 (s.size - 1) hd
    have hle := pow10_le (s.size - 1) h9
    have hpos := pow10_pos (s.size - 1 - 1)
    have hc := dcn_unique (dv s 1 (s.size - 1)) (s.size - 1) (by omega) (by omega) h1 (.inr hlo) hbd.2
    have en : spN s = -dv s 1 (s.size - 1) := by rw [spN, if_pos hm, a]
    refine ⟨?_, by omega, by omega, ?_⟩
    · rw [en, rdV, if_pos hok, if_pos ep]
    · rw [en, decL_neg (by omega), Int.neg_neg, hc, dgk_dv s 1 _ hd]
      have : s.size = (s.size - 1) + 1 := by omega
      rw [this, bsl, hm]
      rfl
  · have ep : pfx s = 0 := by simp [pfx, hm]
    rw [ep] at h1 h9 hd hz hp
    rw [Nat.sub_zero] at h1 h9 hd
    obtain ⟨a, b⟩ := sp_on s 0 s.size hd rfl rfl
    rw [Nat.zero_add] at a b
    have hbd := dv_bd s 0 s.size hd
    have hle := pow10_le s.size h9
    have en : spN s = dv s 0 s.size := by rw [spN, if_neg hm, a]
    have hc : dcn (dv s 0 s.size) = s.size := by
      refine dcn_unique _ _ hbd.1 (by omega) h1 ?_ hbd.2
      rcases hz with hz | ⟨_, hz⟩
      · right
        have := dv_low s 0 (s.size - 1) (fun j hj => hd j (by omega)) hz
        rwa [show s.size - 1 + 1 = s.size from by omega] at this
      · exact .inl hz
    refine ⟨?_, by omega, by omega, ?_⟩
    · rw [en, rdV, if_pos hok, if_neg (by omega)]
    · rw [en, decL_pos hbd.1, hc, dgk_dv s 0 _ hd]
theorem dig_of_eq {s : ByteArray} {p k : Nat} {m : Int} (h : bsl s p k = dgk m k) : ∀ j, j < k → isDig (bt s (p + j)) := by
  intro j hj
  have h1 := bsl_at s p k j hj
  rw [h] at h1
  have := dgk_bd m k _ (List.mem_of_getElem? h1)
  exact this
theorem head_of_eq {s : ByteArray} {p k : Nat} {m : Int} (hk : 1 ≤ k) (h : bsl s p k = dgk m k) : bt s p = 48 + m / 10 ^ (k - 1) % 10 := by
  have h1 := bsl_at s p k 0 (by omega)
  have h2 := dgk_at m k (k - 1) (by omega)
  rw [show k - 1 - (k - 1) = 0 from by omega, ← h, h1] at h2
  simpa using h2
theorem rdP_of (s : ByteArray) (hs : s.size ≤ 10) (hk : spK s s.size ≤ 9) (h : decL (spN s) = bsl s 0 s.size) : RdP s := by
  have hv := spV_bd s s.size
  have hv10 : spV s s.size < 10000000000 := by
    have := pow10_mono hs
    have e : (10 : Int) ^ 10 = 10000000000 := by decide
    omega
  by_cases hm : bt s 0 = 45
  · have ep : pfx s = 1 := by simp [pfx, hm]
    have hp := pfx_le s
    have en : spN s = -spV s s.size := by rw [spN, if_pos hm]
    have hsz : s.size = (s.size - 1) + 1 := by omega
    by_cases hz : spV s s.size = 0
    · exfalso
      rw [en, hz, hsz, bsl, hm] at h
      rw [show decL (-0) = [48] from by decide] at h
      simp at h
    · rw [en, decL_neg (by omega), Int.neg_neg, hsz, bsl, hm] at h
      rw [← hsz] at h
      simp only [List.cons.injEq, true_and, Nat.zero_add] at h
      have hl := congrArg List.length h
      rw [dgk_length, bsl_length] at hl
      obtain ⟨a, b, c, d⟩ := dcn_facts (spV s s.size) (by omega) (by omega)
      rw [hl] at h
      have hd := dig_of_eq h.symm
      have hf := sp_first hm
      obtain ⟨_, k2⟩ := sp_on s 1 (s.size - 1) hd hf.1 hf.2
      rw [show 1 + (s.size - 1) = s.size from by omega] at k2
      have hh := head_of_eq (by omega) h.symm
      have hlead := lead (spV s s.size) (by omega) (by omega)
      rw [hl] at hlead
      unfold RdP
      rw [ep]
      exact ⟨by omega, by omega, hd, .inl (by omega)⟩
  · have ep : pfx s = 0 := by simp [pfx, hm]
    have en : spN s = spV s s.size := by rw [spN, if_neg hm]
    rw [en, decL_pos (by omega)] at h
    have hl := congrArg List.length h
    rw [dgk_length, bsl_length] at hl
    obtain ⟨a, b, c, d⟩ := dcn_facts (spV s s.size) (by omega) (by omega)
    rw [hl] at h
    have hd := dig_of_eq h.symm
    obtain ⟨k1, k2⟩ := sp_on s 0 s.size hd rfl rfl
    rw [Nat.zero_add] at k1 k2
    unfold RdP
    rw [ep, Nat.sub_zero]
    refine ⟨by omega, by omega, hd, ?_⟩
    by_cases hz : spV s s.size = 0
    · right
      refine ⟨rfl, ?_⟩
      rw [← hl, hz]
      decide
    · left
      have hh := head_of_eq (by omega) h.symm
      have hlead := lead (spV s s.size) (by omega) (by omega)
      rw [hl] at hlead
      omega
theorem same_dec (s : ByteArray) (hs : s.size ≤ 10) (hk : spK s s.size ≤ 9) : strOfNums (decL (spN s)) = s ↔ RdP s := by
  constructor
  · intro h
    refine rdP_of s hs hk (strOfNums_inj (decL_bd _) (bsl_bd s 0 _) ?_)
    rw [h]
    exact all_bsl s
  · intro h
    rw [(spN_of s h).2.2.2]
    exact (all_bsl s).symm
end Go.Proofs.YticdggnnpjachaaGreat
