/-
  Plain facts on what bytes of seven bits say, and on which of them are just the bytes of a number. No program is spoken of.
-/
import Derived.Test.YtkplighmefigcaaVarMath
import Derived.Test.YtkplighmefigcaaBytes
import Derived.Lib.EndianBits
namespace Go.Proofs.Ytkplighmefigcaa
open Go.RowKit Go.PlainAid

def hvm (s : ByteArray) : Nat → Nat → Int
  | _, 0 => 0
  | i, m + 1 => bt s i % 128 + 128 * hvm s (i + 1) m
theorem hvm_nonneg (s : ByteArray) (i m : Nat) : 0 ≤ hvm s i m := by
  induction m generalizing i with
  | zero => simp [hvm]
  | succ m ih => have := ih (i + 1); simp only [hvm]; omega
theorem pow7 (k : Nat) : (2 : Int) ^ (7 * (k + 1)) = 128 * 2 ^ (7 * k) := by
  rw [show 7 * (k + 1) = 7 + 7 * k from by omega, Int.pow_add]; rfl
theorem pow7_pos (k : Nat) : (0 : Int) < 2 ^ (7 * k) := Int.pow_pos (by omega)
theorem hvm_lt (s : ByteArray) (i m : Nat) : hvm s i m < 2 ^ (7 * m) := by
  induction m generalizing i with
  | zero => simp [hvm]
  | succ m ih =>
    have := ih (i + 1)
    have h0 := bt_nonneg s i
    rw [pow7]
    simp only [hvm]
    omega
theorem hvm_snoc (s : ByteArray) (i m : Nat) : hvm s i (m + 1) = hvm s i m + bt s (i + m) % 128 * 2 ^ (7 * m) := by
  induction m generalizing i with
  | zero => simp [hvm]
  | succ m ih =>
    rw [hvm, ih (i + 1), hvm, pow7, show i + 1 + m = i + (m + 1) from by omega, Int.mul_add]
    have : bt s (i + (m + 1)) % 128 * (128 * 2 ^ (7 * m)) = 128 * (bt s (i + (m + 1)) % 128 * 2 ^ (7 * m)) := by
      rw [← Int.mul_assoc, Int.mul_comm _ 128, Int.mul_assoc]
    omega
def rv (s : ByteArray) (k : Nat) : Int := hvm s 0 k
theorem rv_zero (s : ByteArray) : rv s 0 = 0 := rfl
theorem rv_succ (s : ByteArray) (k : Nat) : rv s (k + 1) = rv s k + bt s k % 128 * 2 ^ (7 * k) := by
  have := hvm_snoc s 0 k
  rwa [Nat.zero_add] at this
theorem pow7_le (k : Nat) (h : k ≤ 7) : (2 : Int) ^ (7 * k) ≤ 562949953421312 := by
  match k, h with
  | 0, _ => decide
  | 1, _ => decide
  | 2, _ => decide
  | 3, _ => decide
  | 4, _ => decide
  | 5, _ => decide
  | 6, _ => decide
  | 7, _ => decide
theorem hvm_bd (s : ByteArray) (i k : Nat) (h : k ≤ 7) : 0 ≤ hvm s i k ∧ hvm s i k ≤ 562949953421311 := by
  have h1 := hvm_lt s i k
  have h2 := pow7_le k h
  exact ⟨hvm_nonneg s i k, by omega⟩
theorem rv_bd (s : ByteArray) (k : Nat) (h : k ≤ 7) : 0 ≤ rv s k ∧ rv s k ≤ 562949953421311 := hvm_bd s 0 k h
theorem term_bd (s : ByteArray) (k : Nat) (h : k < 7) : 0 ≤ bt s k % 128 * 2 ^ (7 * k) ∧ bt s k % 128 * 2 ^ (7 * k) ≤ 562949953421311 := by
  have h1 := rv_succ s k
  have h2 := rv_bd s (k + 1) (by omega)
  have h3 := rv_bd s k (by omega)
  have h4 : 0 ≤ bt s k % 128 * 2 ^ (7 * k) := Int.mul_nonneg (by omega) (Int.le_of_lt (pow7_pos k))
  omega
theorem or_term (s : ByteArray) (k : Nat) (h : k < 7) : bits .or .i64 (rv s k) (wrap64 (bt s k % 128 * 2 ^ (7 * k))) = rv s (k + 1) := by
  have h1 := term_bd s k h
  have h2 := rv_bd s k (by omega)
  rw [IntWalk.wrap64_in _ ⟨by omega, by omega⟩, rv_succ]
  refine bits_join_low .i64 63 (by decide) (fun n a b => by rw [IntKind.wrap_i64]; omega) (7 * k) _ _ h2.1 (hvm_lt s 0 k) (by omega) h1.1 ?_ (by omega)
  rw [Int.mul_comm]
  exact Int.mul_emod_right _ _

def Can (s : ByteArray) : Nat → Nat → Prop
  | _, 0 => False
  | i, 1 => bt s i < 128
  | i, m + 2 => 128 ≤ bt s i ∧ Can s (i + 1) (m + 1) ∧ (m = 0 → bt s (i + 1) ≠ 0)
theorem can_iff (s : ByteArray) (i m : Nat) : Can s i (m + 1) ↔ (∀ j, j < m → 128 ≤ bt s (i + j)) ∧ bt s (i + m) < 128 ∧ (m = 0 ∨ bt s (i + m) ≠ 0) := by
  induction m generalizing i with
  | zero => simp [Can]
  | succ m ih =>
    rw [Can, ih (i + 1)]
    constructor
    · rintro ⟨h0, ⟨h1, h2, h3⟩, h4⟩
      refine ⟨?_, ?_, ?_⟩
      · intro j hj
        cases j with
        | zero => exact h0
        | succ j => have := h1 j (by omega); rwa [show i + 1 + j = i + (j + 1) from by omega] at this
      · rwa [show i + 1 + m = i + (m + 1) from by omega] at h2
      · right
        rw [show i + (m + 1) = i + 1 + m from by omega]
        rcases h3 with rfl | h3
        · exact h4 rfl
        · exact h3
    · rintro ⟨h1, h2, h3⟩
      rw [show i + (m + 1) = i + 1 + m from by omega] at h2 h3
      refine ⟨h1 0 (by omega), ⟨?_, h2, ?_⟩, ?_⟩
      · intro j hj
        have := h1 (j + 1) (by omega)
        rwa [show i + (j + 1) = i + 1 + j from by omega] at this
      · rcases h3 with h3 | h3
        · omega
        · exact .inr h3
      · rintro rfl
        rcases h3 with h3 | h3
        · omega
        · exact h3
theorem can_pos (s : ByteArray) (i m : Nat) (h : Can s i (m + 1)) (hz : m = 0 → bt s i ≠ 0) : 1 ≤ hvm s i (m + 1) := by
  induction m generalizing i with
  | zero =>
    have := hz rfl
    have h0 := bt_nonneg s i
    simp only [Can] at h
    simp only [hvm]
    omega
  | succ m ih =>
    obtain ⟨h0, h1, h2⟩ := h
    have := ih (i + 1) h1 h2
    rw [hvm]
    have := bt_nonneg s i
    omega
theorem vl_can (s : ByteArray) (i m f : Nat) (hf : m ≤ f) (h : Can s i (m + 1)) : vl f (hvm s i (m + 1)) = bsl s i (m + 1) := by
  induction m generalizing i f with
  | zero =>
    simp only [Can] at h
    have h0 := bt_nonneg s i
    simp only [hvm, bsl]
    rw [vl_small _ _ (by omega)]
    congr 1
    omega
  | succ m ih =>
    obtain ⟨h0, h1, h2⟩ := h
    have hp := can_pos s (i + 1) m h1 h2
    have hb := bt_le s i
    match f, hf with
    | f + 1, hf =>
      rw [hvm, vl_more _ _ (by omega), bsl, ← ih (i + 1) f (by omega) h1]
      congr 1
      · omega
      · congr 1
        omega
theorem can_of_vl (s : ByteArray) (i m f : Nat) (hf : m ≤ f) (h : vl f (hvm s i (m + 1)) = bsl s i (m + 1)) : Can s i (m + 1) := by
  induction m generalizing i f with
  | zero =>
    have h0 := bt_nonneg s i
    simp only [hvm, bsl] at h
    rw [vl_small _ _ (by omega)] at h
    simp only [List.cons.injEq, and_true] at h
    simp only [Can]
    omega
  | succ m ih =>
    match f, hf with
    | f + 1, hf =>
      have h0 := bt_nonneg s i
      by_cases hq : hvm s i (m + 2) < 128
      · rw [vl_small _ _ hq] at h
        have := congrArg List.length h
        rw [bsl_length] at this
        simp at this
      · rw [vl_more _ _ hq, bsl, List.cons.injEq] at h
        obtain ⟨e1, e2⟩ := h
        rw [hvm] at e1 e2 hq
        rw [show (bt s i % 128 + 128 * hvm s (i + 1) (m + 1)) / 128 = hvm s (i + 1) (m + 1) from by omega] at e2
        refine ⟨by omega, ih (i + 1) f (by omega) e2, ?_⟩
        rintro rfl hz
        simp only [hvm, hz] at hq
        omega
theorem vl_bd (f : Nat) (q : Int) (h0 : 0 ≤ q) (h1 : q < 2 ^ (7 * (f + 1))) : ∀ x ∈ vl f q, 0 ≤ x ∧ x ≤ 255 := by
  induction f generalizing q with
  | zero =>
    intro x hx
    simp only [vl, List.mem_singleton] at hx
    subst hx
    have : (2 : Int) ^ (7 * (0 + 1)) = 128 := by decide
    omega
  | succ f ih =>
    intro x hx
    by_cases hq : q < 128
    · rw [vl_small _ _ hq] at hx
      simp only [List.mem_singleton] at hx
      omega
    · rw [vl_more _ _ hq, List.mem_cons] at hx
      rcases hx with rfl | hx
      · omega
      · rw [pow7] at h1
        exact ih (q / 128) (by omega) (by omega) x hx
theorem same_iff (s : ByteArray) (k : Nat) (hk : k < 7) (hs : k + 1 ≤ s.size) : strOfNums (varL (rv s (k + 1))) = s.extract 0 (k + 1) ↔ Can s 0 (k + 1) := by
  have hb := rv_bd s (k + 1) (by omega)
  rw [varL_yes hb.1 hb.2, extract_bsl s (k + 1) hs]
  constructor
  · intro h
    refine can_of_vl s 0 k 6 (by omega) (strOfNums_inj ?_ (bsl_bd s 0 _) h)
    have hp : (2 : Int) ^ (7 * (6 + 1)) = 562949953421312 := by decide
    exact vl_bd 6 (rv s (k + 1)) hb.1 (by omega)
  · intro h
    exact congrArg strOfNums (vl_can s 0 k 6 (by omega) h)

def rvGo (s : ByteArray) : Nat → Nat → Int × Int
  | 0, _ => (0, 0)
  | f + 1, i => if i < s.size then (if 128 ≤ bt s i then rvGo s f (i + 1) else if bt s i = 0 ∧ 0 < i then (0, 0) else (rv s (i + 1), (i : Int) + 1)) else (0, 0)
def rvAns (s : ByteArray) : Int × Int := rvGo s 7 0
theorem rvGo_on (s : ByteArray) (i : Nat) (hi : i < 7) (hs : i < s.size) (hb : 128 ≤ bt s i) : rvGo s (7 - i) i = rvGo s (7 - (i + 1)) (i + 1) := by
  rw [show 7 - i = (7 - (i + 1)) + 1 from by omega, rvGo, if_pos hs, if_pos hb]
theorem rvGo_none (s : ByteArray) (i : Nat) (hi : i < 7) (hs : i < s.size) (hb : ¬ 128 ≤ bt s i) (hz : bt s i = 0 ∧ 0 < i) : rvGo s (7 - i) i = (0, 0) := by
  rw [show 7 - i = (7 - (i + 1)) + 1 from by omega, rvGo, if_pos hs, if_neg hb, if_pos hz]
theorem rvGo_is (s : ByteArray) (i : Nat) (hi : i < 7) (hs : i < s.size) (hb : ¬ 128 ≤ bt s i) (hz : ¬ (bt s i = 0 ∧ 0 < i)) : rvGo s (7 - i) i = (rv s (i + 1), (i : Int) + 1) := by
  rw [show 7 - i = (7 - (i + 1)) + 1 from by omega, rvGo, if_pos hs, if_neg hb, if_neg hz]
theorem rvGo_end (s : ByteArray) (i : Nat) (h : ¬ (i < s.size ∧ i < 7)) : rvGo s (7 - i) i = (0, 0) := by
  by_cases hi : i < 7
  · rw [show 7 - i = (7 - (i + 1)) + 1 from by omega, rvGo, if_neg (fun k => h ⟨k, hi⟩)]
  · rw [show 7 - i = 0 from by omega, rvGo]
end Go.Proofs.Ytkplighmefigcaa
