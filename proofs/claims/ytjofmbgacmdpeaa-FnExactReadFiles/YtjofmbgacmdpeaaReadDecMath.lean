/-
  Plain facts on which texts are decimal numbers of at most nine digits, and of which. No program is spoken of.
-/
import Derived.Test.YtjofmbgacmdpeaaDecMath
import Derived.Test.YtjofmbgacmdpeaaBytes
namespace Go.Proofs.Ytjofmbgacmdpeaa
open Go.RowKit Go.PlainAid

theorem ten_first (m d : Int) (h0 : 0 ≤ d) (h1 : d ≤ 9) (k : Nat) : (m * 10 + d) / 10 ^ (k + 1) = m / 10 ^ k := by
  rw [Int.pow_succ, Int.mul_comm (10 ^ k) 10, ← Int.ediv_ediv_of_nonneg (by omega), show (m * 10 + d) / 10 = m from by omega]
theorem dgk_snoc (m d : Int) (h0 : 0 ≤ d) (h1 : d ≤ 9) (k : Nat) : dgk (m * 10 + d) (k + 1) = dgk m k ++ [48 + d] := by
  induction k with
  | zero =>
    simp only [dgk, Int.pow_zero, Int.ediv_one, List.nil_append]
    rw [show (m * 10 + d) % 10 = d from by omega]
  | succ k ih =>
    rw [dgk, ih, dgk, List.cons_append, ten_first m d h0 h1]

abbrev isDig (c : Int) : Prop := 48 ≤ c ∧ c ≤ 57
def dv (s : ByteArray) (p : Nat) : Nat → Int
  | 0 => 0
  | k + 1 => dv s p k * 10 + (bt s (p + k) - 48)
theorem dv_bd (s : ByteArray) (p k : Nat) (h : ∀ j, j < k → isDig (bt s (p + j))) : 0 ≤ dv s p k ∧ dv s p k < 10 ^ k := by
  induction k with
  | zero => simp [dv]
  | succ k ih =>
    obtain ⟨a, b⟩ := ih (fun j hj => h j (by omega))
    have c := h k (by omega)
    unfold isDig at c
    rw [dv, pow10]
    omega
theorem dv_low (s : ByteArray) (p k : Nat) (h : ∀ j, j < k + 1 → isDig (bt s (p + j))) (h0 : bt s p ≠ 48) : 10 ^ k ≤ dv s p (k + 1) := by
  induction k with
  | zero =>
    have c := h 0 (by omega)
    unfold isDig at c
    rw [Nat.add_zero] at c
    simp only [dv, Nat.add_zero]
    rw [show (10 : Int) ^ 0 = 1 from rfl]
    omega
  | succ k ih =>
    have a := ih (fun j hj => h j (by omega))
    have c := h (k + 1) (by omega)
    unfold isDig at c
    rw [dv, pow10]
    omega
theorem dgk_dv (s : ByteArray) (p k : Nat) (h : ∀ j, j < k → isDig (bt s (p + j))) : dgk (dv s p k) k = bsl s p k := by
  induction k with
  | zero => rfl
  | succ k ih =>
    have c := h k (by omega)
    unfold isDig at c
    rw [dv, dgk_snoc _ _ (by omega) (by omega), ih (fun j hj => h j (by omega)), bsl_snoc]
    congr 2
    omega
theorem dcn_unique (m : Int) (L : Nat) (h0 : 0 ≤ m) (h1 : m ≤ 18446744073709551615) (hL : 1 ≤ L) (hlo : L = 1 ∨ 10 ^ (L - 1) ≤ m) (hhi : m < 10 ^ L) : dcn m = L := by
  obtain ⟨a, b, c, d⟩ := dcn_facts m h0 h1
  rcases Nat.lt_trichotomy (dcn m) L with e | e | e
  · have := pow10_mono (show dcn m ≤ L - 1 by omega)
    omega
  · exact e
  · have := pow10_mono (show L ≤ dcn m - 1 by omega)
    omega
theorem pow10_le (k : Nat) (h : k ≤ 9) : (10 : Int) ^ k ≤ 1000000000 := by
  have := pow10_mono h
  have e : (10 : Int) ^ 9 = 1000000000 := by decide
  omega

def pfx (s : ByteArray) : Nat := if bt s 0 = 45 then 1 else 0
theorem pfx_le (s : ByteArray) : pfx s ≤ s.size := by
  unfold pfx
  split
  · rename_i h
    rcases Nat.eq_zero_or_pos s.size with e | e
    · rw [bt_end s (by omega)] at h
      omega
    · omega
  · omega
abbrev RdP (s : ByteArray) : Prop :=
  1 ≤ s.size - pfx s ∧ s.size - pfx s ≤ 9 ∧ (∀ j, j < s.size - pfx s → isDig (bt s (pfx s + j))) ∧ (bt s (pfx s) ≠ 48 ∨ (pfx s = 0 ∧ s.size = 1))
def rdOk (s : ByteArray) : Bool := decide (RdP s)
def rdV (s : ByteArray) : Int := if rdOk s then (if pfx s = 1 then -dv s 1 (s.size - 1) else dv s 0 s.size) else 0
theorem rdOk_yes {s : ByteArray} (h : RdP s) : rdOk s = true := decide_eq_true h
theorem rdOk_no {s : ByteArray} (h : ¬ RdP s) : rdOk s = false := decide_eq_false h
theorem rdV_no {s : ByteArray} (h : ¬ RdP s) : rdV s = 0 := by rw [rdV, rdOk_no h]; rfl

def spV (s : ByteArray) : Nat → Int
  | 0 => 0
  | k + 1 => if isDig (bt s k) then spV s k * 10 + (bt s k - 48) else spV s k
def spK (s : ByteArray) : Nat → Int
  | 0 => 0
  | k + 1 => if isDig (bt s k) then spK s k + 1 else spK s k
theorem spK_bd (s : ByteArray) (k : Nat) : 0 ≤ spK s k ∧ spK s k ≤ k := by
  induction k with
  | zero => simp [spK]
  | succ k ih =>
    simp only [spK]
    split <;> omega
theorem spV_bd (s : ByteArray) (k : Nat) : 0 ≤ spV s k ∧ spV s k < 10 ^ k := by
  induction k with
  | zero => simp [spV]
  | succ k ih =>
    have := pow10_pos k
    simp only [spV, pow10]
    split
    · rename_i h
      unfold isDig at h
      omega
    · omega
theorem sp_on (s : ByteArray) (p k : Nat) (h : ∀ j, j < k → isDig (bt s (p + j))) (hv : spV s p = 0) (hk : spK s p = 0) : spV s (p + k) = dv s p k ∧ spK s (p + k) = k := by
  induction k with
  | zero => exact ⟨hv, hk⟩
  | succ k ih =>
    obtain ⟨a, b⟩ := ih (fun j hj => h j (by omega))
    have c := h k (by omega)
    rw [show p + (k + 1) = (p + k) + 1 from by omega, spV, spK, if_pos c, if_pos c, a, b, dv]
    exact ⟨rfl, by omega⟩
theorem sp_first {s : ByteArray} (h : bt s 0 = 45) : spV s 1 = 0 ∧ spK s 1 = 0 := by
  have : ¬ isDig (bt s 0) := by rw [h]; decide
  simp [spV, spK, this]
def spN (s : ByteArray) : Int := if bt s 0 = 45 then -spV s s.size else spV s s.size
theorem lead (m : Int) (h0 : 1 ≤ m) (h1 : m ≤ 18446744073709551615) : 48 + m / 10 ^ (dcn m - 1) % 10 ≠ 48 := by
  obtain ⟨a, b, c, d⟩ := dcn_facts m (by omega) h1
  have e : m / 10 ^ (dcn m - 1) < 10 := by
    rw [Int.ediv_lt_iff_lt_mul (pow10_pos _), Int.mul_comm, ← pow10, show dcn m - 1 + 1 = dcn m from by omega]
    exact c
  have f : 1 ≤ m / 10 ^ (dcn m - 1) := by
    rw [Int.le_ediv_iff_mul_le (pow10_pos _), Int.one_mul]
    rcases d with d | d
    · rw [d]; simpa using h0
    · exact d
  omega
theorem spN_of (s : ByteArray) (h : RdP s) : spN s = rdV s ∧ spK s s.size ≤ 9 ∧ s.size ≤ 10 ∧ decL (spN s) = bsl s 0 s.size := by
  have hok := rdOk_yes h
  obtain ⟨h1, h9, hd, hz⟩ := h
  have hp := pfx_le s
  by_cases hm : bt s 0 = 45
  · have ep : pfx s = 1 := by simp [pfx, hm]
    rw [ep] at h1 h9 hd hz hp
    have hf := sp_first hm
    obtain ⟨a, b⟩ := sp_on s 1 (s.size - 1) hd hf.1 hf.2
    rw [show 1 + (s.size - 1) = s.size from by omega] at a b
    have hn : bt s 1 ≠ 48 := by omega
    have hlo := dv_low s 1 (s.size - 1 - 1) (fun j hj => hd j (by omega)) hn
    rw [show s.size - 1 - 1 + 1 = s.size - 1 from by omega] at hlo
    have hbd := dv_bd s 1 (s.size - 1) hd
    have hle := pow10_le (s.size - 1) h9
    have hpos := pow10_pos (s.size - 1 - 1)
    have hc := dcn_unique (dv s 1 (s.size - 1)) (s.size - 1) (by omega) (by omega) h1 (.inr hlo) hbd.2
    have en : spN s = -dv s 1 (s.size - 1) := by rw [spN, if_pos hm, a]
    refine ⟨?_, by omega, by omega, ?_⟩
    · rw [en, rdV, if_pos hok, if_pos ep]
    · rw [en, decL_neg (by omega), Int.neg_neg, hc, dgk_dv s 1 _ hd]
      have : s.size = (s.size - 1) + 1 := by omega
      rw [this, bsl, hm]
      rfl
  · have ep : pfx s = 0 := by simp [pfx, hm]
    rw [ep] at h1 h9 hd hz hp
    rw [Nat.sub_zero] at h1 h9 hd
    obtain ⟨a, b⟩ := sp_on s 0 s.size hd rfl rfl
    rw [Nat.zero_add] at a b
    have hbd := dv_bd s 0 s.size hd
    have hle := pow10_le s.size h9
    have en : spN s = dv s 0 s.size := by rw [spN, if_neg hm, a]
    have hc : dcn (dv s 0 s.size) = s.size := by
      refine dcn_unique _ _ hbd.1 (by omega) h1 ?_ hbd.2
      rcases hz with hz | ⟨_, hz⟩
      · right
        have := dv_low s 0 (s.size - 1) (fun j hj => hd j (by omega)) hz
        rwa [show s.size - 1 + 1 = s.size from by omega] at this
      · exact .inl hz
    refine ⟨?_, by omega, by omega, ?_⟩
    · rw [en, rdV, if_pos hok, if_neg (by omega)]
    · rw [en, decL_pos hbd.1, hc, dgk_dv s 0 _ hd]
theorem dig_of_eq {s : ByteArray} {p k : Nat} {m : Int} (h : bsl s p k = dgk m k) : ∀ j, j < k → isDig (bt s (p + j)) := by
  intro j hj
  have h1 := bsl_at s p k j hj
  rw [h] at h1
  have := dgk_bd m k _ (List.mem_of_getElem? h1)
  exact this
theorem head_of_eq {s : ByteArray} {p k : Nat} {m : Int} (hk : 1 ≤ k) (h : bsl s p k = dgk m k) : bt s p = 48 + m / 10 ^ (k - 1) % 10 := by
  have h1 := bsl_at s p k 0 (by omega)
  have h2 := dgk_at m k (k - 1) (by omega)
  rw [show k - 1 - (k - 1) = 0 from by omega, ← h, h1] at h2
  simpa using h2
theorem rdP_of (s : ByteArray) (hs : s.size ≤ 10) (hk : spK s s.size ≤ 9) (h : decL (spN s) = bsl s 0 s.size) : RdP s := by
  have hv := spV_bd s s.size
  have hv10 : spV s s.size < 10000000000 := by
    have := pow10_mono hs
    have e : (10 : Int) ^ 10 = 10000000000 := by decide
    omega
  by_cases hm : bt s 0 = 45
  · have ep : pfx s = 1 := by simp [pfx, hm]
    have hp := pfx_le s
    have en : spN s = -spV s s.size := by rw [spN, if_pos hm]
    have hsz : s.size = (s.size - 1) + 1 := by omega
    by_cases hz : spV s s.size = 0
    · exfalso
      rw [en, hz, hsz, bsl, hm] at h
      rw [show decL (-0) = [48] from by decide] at h
      simp at h
    · rw [en, decL_neg (by omega), Int.neg_neg, hsz, bsl, hm] at h
      rw [← hsz] at h
      simp only [List.cons.injEq, true_and, Nat.zero_add] at h
      have hl := congrArg List.length h
      rw [dgk_length, bsl_length] at hl
      obtain ⟨a, b, c, d⟩ := dcn_facts (spV s s.size) (by omega) (by omega)
      rw [hl] at h
      have hd := dig_of_eq h.symm
      have hf := sp_first hm
      obtain ⟨_, k2⟩ := sp_on s 1 (s.size - 1) hd hf.1 hf.2
      rw [show 1 + (s.size - 1) = s.size from by omega] at k2
      have hh := head_of_eq (by omega) h.symm
      have hlead := lead (spV s s.size) (by omega) (by omega)
      rw [hl] at hlead
      unfold RdP
      rw [ep]
      exact ⟨by omega, by omega, hd, .inl (by omega)⟩
  · have ep : pfx s = 0 := by simp [pfx, hm]
    have en : spN s = spV s s.size := by rw [spN, if_neg hm]
    rw [en, decL_pos (by omega)] at h
    have hl := congrArg List.length h
    rw [dgk_length, bsl_length] at hl
    obtain ⟨a, b, c, d⟩ := dcn_facts (spV s s.size) (by omega) (by omega)
    rw [hl] at h
    have hd := dig_of_eq h.symm
    obtain ⟨k1, k2⟩ := sp_on s 0 s.size hd rfl rfl
    rw [Nat.zero_add] at k1 k2
    unfold RdP
    rw [ep, Nat.sub_zero]
    refine ⟨by omega, by omega, hd, ?_⟩
    by_cases hz : spV s s.size = 0
    · right
      refine ⟨rfl, ?_⟩
      rw [← hl, hz]
      decide
    · left
      have hh := head_of_eq (by omega) h.symm
      have hlead := lead (spV s s.size) (by omega) (by omega)
      rw [hl] at hlead
      omega
theorem same_dec (s : ByteArray) (hs : s.size ≤ 10) (hk : spK s s.size ≤ 9) : strOfNums (decL (spN s)) = s ↔ RdP s := by
  constructor
  · intro h
    refine rdP_of s hs hk (strOfNums_inj (decL_bd _) (bsl_bd s 0 _) ?_)
    rw [h]
    exact all_bsl s
  · intro h
    rw [(spN_of s h).2.2.2]
    exact (all_bsl s).symm
end Go.Proofs.Ytjofmbgacmdpeaa
