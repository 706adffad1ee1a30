/-
  Plain facts on decimal digits. No program is spoken of.
-/
import Derived.Test.YtkplighmefigcaaStr
namespace Go.Proofs.Ytkplighmefigcaa
open Go.RowKit Go.PlainAid

theorem pow10_pos (k : Nat) : (0 : Int) < 10 ^ k := Int.pow_pos (by omega)
theorem pow10 (k : Nat) : (10 : Int) ^ (k + 1) = 10 ^ k * 10 := Int.pow_succ _ _
theorem pow10_mono {a b : Nat} (h : a ≤ b) : (10 : Int) ^ a ≤ 10 ^ b := by
  induction b with
  | zero =>
    obtain rfl : a = 0 := by omega
    exact Int.le_refl _
  | succ b ih =>
    by_cases e : a = b + 1
    · rw [e]; exact Int.le_refl _
    · have := ih (by omega)
      have := pow10_pos b
      rw [pow10]
      omega
theorem tenth (n : Int) (k : Nat) : n / 10 ^ k / 10 = n / 10 ^ (k + 1) := by
  rw [pow10, Int.ediv_ediv_of_nonneg (Int.le_of_lt (pow10_pos k))]
theorem tenth_bd (n : Int) (k : Nat) (h : 0 ≤ n) : 0 ≤ n / 10 ^ k ∧ n / 10 ^ k ≤ n :=
  ⟨Int.ediv_nonneg h (Int.le_of_lt (pow10_pos k)), Int.ediv_le_self _ h⟩

def dc : Nat → Int → Nat
  | 0, _ => 1
  | f + 1, q => if q < 10 then 1 else dc f (q / 10) + 1
theorem dc_facts (f : Nat) (q : Int) (h0 : 0 ≤ q) (h : q < 10 ^ (f + 1)) : 1 ≤ dc f q ∧ dc f q ≤ f + 1 ∧ q < 10 ^ dc f q ∧ (dc f q = 1 ∨ 10 ^ (dc f q - 1) ≤ q) := by
  induction f generalizing q with
  | zero => simpa [dc] using h
  | succ f ih =>
    unfold dc
    by_cases hq : q < 10
    · rw [if_pos hq]
      exact ⟨by omega, by omega, by simpa using hq, .inl rfl⟩
    · rw [if_neg hq]
      obtain ⟨a, b, c, d⟩ := ih (q / 10) (by omega) (by rw [pow10] at h; omega)
      refine ⟨by omega, by omega, ?_, .inr ?_⟩
      · rw [pow10]; omega
      · rw [Nat.add_sub_cancel]
        rcases d with d | d
        · rw [d]
          show (10 : Int) ^ 1 ≤ q
          rw [show (10 : Int) ^ 1 = 10 from by decide]
          omega
        · rw [show dc f (q / 10) = (dc f (q / 10) - 1) + 1 from by omega, pow10]
          omega
def dcn (m : Int) : Nat := dc 19 m
theorem dcn_facts (m : Int) (h0 : 0 ≤ m) (h : m ≤ 18446744073709551615) : 1 ≤ dcn m ∧ dcn m ≤ 20 ∧ m < 10 ^ dcn m ∧ (dcn m = 1 ∨ 10 ^ (dcn m - 1) ≤ m) :=
  dc_facts 19 m h0 (by rw [show (10 : Int) ^ (19 + 1) = 100000000000000000000 by decide]; omega)
theorem more_iff (m : Int) (h0 : 0 ≤ m) (h : m ≤ 18446744073709551615) (k : Nat) : 10 ≤ m / 10 ^ k ↔ k + 1 < dcn m := by
  obtain ⟨a, b, c, d⟩ := dcn_facts m h0 h
  rw [Int.le_ediv_iff_mul_le (pow10_pos k), Int.mul_comm, ← pow10]
  constructor
  · intro hk
    rcases Nat.lt_or_ge (k + 1) (dcn m) with e | e
    · exact e
    · have := pow10_mono e
      omega
  · intro hk
    have := pow10_mono (show k + 1 ≤ dcn m - 1 by omega)
    omega
theorem some_iff (m : Int) (h0 : 1 ≤ m) (h : m ≤ 18446744073709551615) (k : Nat) : m / 10 ^ k ≠ 0 ↔ k < dcn m := by
  obtain ⟨a, b, c, d⟩ := dcn_facts m (by omega) h
  have hb := tenth_bd m k (by omega)
  have : m / 10 ^ k ≠ 0 ↔ 1 ≤ m / 10 ^ k := by omega
  rw [this, Int.le_ediv_iff_mul_le (pow10_pos k), Int.one_mul]
  constructor
  · intro hk
    rcases Nat.lt_or_ge k (dcn m) with e | e
    · exact e
    · have := pow10_mono e
      omega
  · intro hk
    have := pow10_mono (show k ≤ dcn m - 1 by omega)
    rcases d with d | d
    · obtain rfl : k = 0 := by omega
      simpa using h0
    · omega

def dgk (m : Int) : Nat → List Int
  | 0 => []
  | k + 1 => (48 + m / 10 ^ k % 10) :: dgk m k
theorem dgk_length (m : Int) (k : Nat) : (dgk m k).length = k := by
  induction k with
  | zero => rfl
  | succ k ih => simp [dgk, ih]
theorem dgk_at (m : Int) (c k : Nat) (h : k < c) : (dgk m c)[c - 1 - k]? = some (48 + m / 10 ^ k % 10) := by
  induction c with
  | zero => omega
  | succ c ih =>
    by_cases e : k = c
    · subst e
      rw [show k + 1 - 1 - k = 0 from by omega]
      rfl
    · rw [show c + 1 - 1 - k = (c - 1 - k) + 1 from by omega, dgk, List.getElem?_cons_succ]
      exact ih (by omega)
theorem dgk_bd (m : Int) (k : Nat) : ∀ x ∈ dgk m k, 48 ≤ x ∧ x ≤ 57 := by
  induction k with
  | zero => simp [dgk]
  | succ k ih =>
    intro x hx
    simp only [dgk, List.mem_cons] at hx
    rcases hx with rfl | hx
    · omega
    · exact ih x hx
def absI (n : Int) : Int := if n < 0 then -n else n
theorem absI_neg {n : Int} (h : n < 0) : absI n = -n := by simp [absI, h]
theorem absI_pos {n : Int} (h : 0 ≤ n) : absI n = n := by rw [absI, if_neg (by omega)]
def decL (n : Int) : List Int := (if n < 0 then [45] else []) ++ dgk (absI n) (dcn (absI n))
theorem decL_neg {n : Int} (h : n < 0) : decL n = 45 :: dgk (-n) (dcn (-n)) := by simp [decL, h, absI]
theorem decL_pos {n : Int} (h : 0 ≤ n) : decL n = dgk n (dcn n) := by
  have : ¬ n < 0 := by omega
  simp [decL, this, absI]
theorem decL_bd (n : Int) : ∀ x ∈ decL n, 0 ≤ x ∧ x ≤ 255 := by
  intro x hx
  simp only [decL, List.mem_append] at hx
  rcases hx with hx | hx
  · split at hx
    · simp at hx; omega
    · simp at hx
  · have := dgk_bd _ _ x hx
    omega
theorem fillBack_full (L : List Int) : fillBack L L.length = L := by simp [fillBack]
theorem fillBack_head (x : Int) (L : List Int) : (fillBack (x :: L) L.length).set 0 x = x :: L := by
  simp [fillBack]
theorem back_at (p : List Int) (m : Int) (c k : Nat) (h : k < c) : (p ++ dgk m c)[(p ++ dgk m c).length - 1 - k]? = some (48 + m / 10 ^ k % 10) := by
  rw [List.length_append, dgk_length, List.getElem?_append_right (by omega), show p.length + c - 1 - k - p.length = c - 1 - k from by omega]
  exact dgk_at m c k h
end Go.Proofs.Ytkplighmefigcaa
