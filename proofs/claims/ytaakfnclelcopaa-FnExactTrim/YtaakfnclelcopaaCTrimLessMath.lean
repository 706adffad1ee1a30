/-
  The order of texts. No program is spoken of.
-/
import Derived.Test.YtaakfnclelcopaaCTrimAidToTreeMath
namespace Go.Proofs.Ytaakfnclelcopaa
open Go.RowKit Go.PlainAid

theorem less_trans : ∀ a b c : List UInt8, Op.bytesLess a b = true → Op.bytesLess b c = true → Op.bytesLess a c = true := by
  intro a
  induction a with
  | nil => intro b c h1 h2; cases b with
    | nil => simp [Op.bytesLess] at h1
    | cons y b => cases c with
      | nil => simp [Op.bytesLess] at h2
      | cons z c => rfl
  | cons x a ih =>
    intro b c h1 h2
    cases b with
    | nil => simp [Op.bytesLess] at h1
    | cons y b => cases c with
      | nil => simp [Op.bytesLess] at h2
      | cons z c =>
        simp only [Op.bytesLess, Bool.or_eq_true, Bool.and_eq_true, decide_eq_true_eq, beq_iff_eq] at h1 h2 ⊢
        rcases h1 with h1 | ⟨rfl, h1⟩
        · rcases h2 with h2 | ⟨rfl, h2⟩
          · exact .inl (UInt8.lt_trans h1 h2)
          · exact .inl h1
        · rcases h2 with h2 | ⟨rfl, h2⟩
          · exact .inl h2
          · exact .inr ⟨rfl, ih b c h1 h2⟩
theorem less_irr : ∀ a : List UInt8, Op.bytesLess a a = false := by
  intro a
  induction a with
  | nil => rfl
  | cons x a ih => simp [Op.bytesLess, ih]
theorem less_ne {a b : ByteArray} (h : Op.bytesLess a.toList b.toList = true) : a ≠ b := by
  rintro rfl
  rw [less_irr] at h
  cases h
theorem ris_of {P : Nat → ByteArray} {len : Nat} (h : ∀ k, 0 < k → k < len → Op.bytesLess (P (k - 1)).toList (P k).toList = true) : ∀ i j, i < j → j < len → Op.bytesLess (P i).toList (P j).toList = true := by
  intro i j
  induction j with
  | zero => intro h1; omega
  | succ j ih =>
    intro h1 h2
    have h3 := h (j + 1) (by omega) h2
    rw [Nat.add_sub_cancel] at h3
    rcases Nat.lt_or_ge i j with g | g
    · exact less_trans _ _ _ (ih g (by omega)) h3
    · have : i = j := by omega
      subst this
      exact h3
theorem less_pre : ∀ a b : List UInt8, Op.bytesLess (a ++ b) a = false := by
  intro a b
  induction a with
  | nil => cases b <;> rfl
  | cons x a ih => simp [Op.bytesLess, ih]
end Go.Proofs.Ytaakfnclelcopaa
