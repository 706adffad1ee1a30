/-
  Short names, as a plain function: a $, and a number in letters. No program is spoken of.
-/
import Derived.Test.YtkplighmefigcaaBytes
namespace Go.Proofs.Ytkplighmefigcaa
open Go.RowKit Go.PlainAid

def sn : Nat → Nat → List Int
  | 0, _ => []
  | f + 1, n => (if n / 26 = 0 then [] else sn f (n / 26)) ++ [97 + ((n % 26 : Nat) : Int)]
def sn0 (f n : Nat) : List Int := if n = 0 then [] else sn f n
theorem sn_step (f n : Nat) : sn (f + 1) n = sn0 f (n / 26) ++ [97 + ((n % 26 : Nat) : Int)] := rfl
def shortS (n : Int) : ByteArray := if n < 0 then { data := #[] } else strOfNums (36 :: sn 14 n.toNat)
theorem sn_bd (f : Nat) : ∀ n, ∀ x ∈ sn f n, 97 ≤ x ∧ x ≤ 122 := by
  induction f with
  | zero => intro n x hx; cases hx
  | succ f ih =>
    intro n x hx
    rw [sn_step] at hx
    rcases List.mem_append.1 hx with hx | hx
    · unfold sn0 at hx
      split at hx
      · cases hx
      · exact ih _ x hx
    · rw [List.mem_singleton] at hx
      omega
theorem sn_pos (f n : Nat) : 0 < (sn (f + 1) n).length := by rw [sn_step]; simp
theorem sn_len (f : Nat) : ∀ n, (sn f n).length ≤ f := by
  induction f with
  | zero => intro n; exact Nat.le_refl _
  | succ f ih =>
    intro n
    rw [sn_step, List.length_append, List.length_singleton]
    unfold sn0
    split
    · simp
    · have := ih (n / 26); omega
theorem pow_div {f n : Nat} (h : n < 26 ^ (f + 1)) : n / 26 < 26 ^ f := by
  rw [Nat.pow_succ, Nat.mul_comm] at h
  exact Nat.div_lt_of_lt_mul h
theorem sn0_len {f n : Nat} (h : n < 26 ^ f) (h0 : n ≠ 0) : 0 < (sn0 f n).length := by
  unfold sn0
  rw [if_neg h0]
  cases f with
  | zero => rw [Nat.pow_zero] at h; omega
  | succ f => exact sn_pos f n
theorem sn_inj (f : Nat) : ∀ m n, m < 26 ^ f → n < 26 ^ f → sn f m = sn f n → m = n := by
  induction f with
  | zero => intro m n h1 h2 _; rw [Nat.pow_zero] at h1 h2; omega
  | succ f ih =>
    intro m n h1 h2 e
    rw [sn_step, sn_step] at e
    have hl : (sn0 f (m / 26)).length = (sn0 f (n / 26)).length := by
      have := congrArg List.length e
      simp only [List.length_append, List.length_singleton] at this
      omega
    obtain ⟨e1, e2⟩ := List.append_inj e hl
    have e3 : m % 26 = n % 26 := by
      have := (List.cons.inj e2).1
      omega
    have e4 : m / 26 = n / 26 := by
      by_cases hm : m / 26 = 0
      · by_cases hn : n / 26 = 0
        · rw [hm, hn]
        · have := sn0_len (pow_div h2) hn
          rw [← hl, sn0, if_pos hm] at this
          cases this
      · by_cases hn : n / 26 = 0
        · have := sn0_len (pow_div h1) hm
          rw [hl, sn0, if_pos hn] at this
          cases this
        · rw [sn0, if_neg hm, sn0, if_neg hn] at e1
          exact ih _ _ (pow_div h1) (pow_div h2) e1
    omega
theorem sn_mono (f : Nat) : ∀ m n, m ≤ n → n < 26 ^ f → (sn f m).length ≤ (sn f n).length := by
  induction f with
  | zero => intro m n _ _; exact Nat.le_refl _
  | succ f ih =>
    intro m n h h2
    rw [sn_step, sn_step, List.length_append, List.length_append]
    have h3 : (sn0 f (m / 26)).length ≤ (sn0 f (n / 26)).length := by
      by_cases hm : m / 26 = 0
      · rw [sn0, if_pos hm]; exact Nat.zero_le _
      · have hd : m / 26 ≤ n / 26 := Nat.div_le_div_right h
        rw [sn0, if_neg hm, sn0, if_neg (by omega)]
        exact ih _ _ hd (pow_div h2)
    simp only [List.length_singleton]
    omega
theorem short_bd (n : Nat) : ∀ x ∈ 36 :: sn 14 n, 0 ≤ x ∧ x ≤ 255 := by
  intro x hx
  rcases List.mem_cons.1 hx with rfl | hx
  · omega
  · have := sn_bd 14 n x hx; omega
theorem shortS_size (n : Int) : (shortS n).size ≤ 15 := by
  unfold shortS
  split
  · exact Nat.zero_le _
  · rw [strOfNums_size, List.length_cons]
    have := sn_len 14 n.toNat
    omega
theorem short_inj {a b : Nat} (ha : a < 26 ^ 14) (hb : b < 26 ^ 14) (h : shortS a = shortS b) : a = b := by
  unfold shortS at h
  rw [if_neg (by omega), if_neg (by omega)] at h
  have := (List.cons.inj (strOfNums_inj (short_bd _) (short_bd _) h)).2
  rw [Int.toNat_natCast, Int.toNat_natCast] at this
  exact sn_inj 14 a b ha hb this
theorem short_mono {a b : Nat} (h : a ≤ b) (hb : b < 26 ^ 14) : (shortS a).size ≤ (shortS b).size := by
  unfold shortS
  rw [if_neg (by omega), if_neg (by omega), strOfNums_size, strOfNums_size, Int.toNat_natCast, Int.toNat_natCast, List.length_cons, List.length_cons]
  have := sn_mono 14 a b h hb
  omega
end Go.Proofs.Ytkplighmefigcaa
