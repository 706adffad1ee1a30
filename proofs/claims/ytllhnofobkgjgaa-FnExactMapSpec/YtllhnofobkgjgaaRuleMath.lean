/-
  When rules are right: plain facts. No program is spoken of.
-/
import Derived.Test.YtllhnofobkgjgaaFileMath
import Derived.Test.YtllhnofobkgjgaaUpMath
namespace Go.Proofs.Ytllhnofobkgjgaa
open Go.RowKit Go.PlainAid

abbrev ChrP (c : Int) : Prop := 32 ≤ c ∧ c ≤ 126 ∧ c ≠ 34 ∧ c ≠ 92
abbrev StrP (s : ByteArray) : Prop := s.size ≤ 40 ∧ ∀ j, j < s.size → ChrP (bt s j)
def strR (s : ByteArray) : Bool := decide (StrP s)
theorem strR_yes {s : ByteArray} (h : StrP s) : strR s = true := decide_eq_true h
theorem strR_no {s : ByteArray} (h : ¬ StrP s) : strR s = false := decide_eq_false h
theorem strR_iff {s : ByteArray} : strR s = true ↔ StrP s := decide_eq_true_iff
def ruleB (p t : ByteArray) : Bool := !p.toList.isEmpty && strR p && strR t
abbrev RulesP (len : Nat) (Pt Tx : Nat → ByteArray) : Prop := len ≤ 8 ∧ ∀ k, k < len → ruleB (Pt k) (Tx k) = true ∧ (0 < k → Op.bytesLess (Pt (k - 1)).toList (Pt k).toList = true)
def rulesB (len : Nat) (Pt Tx : Nat → ByteArray) : Bool := decide (RulesP len Pt Tx)
theorem rulesB_yes {len : Nat} {Pt Tx : Nat → ByteArray} (h : RulesP len Pt Tx) : rulesB len Pt Tx = true := decide_eq_true h
theorem rulesB_no {len : Nat} {Pt Tx : Nat → ByteArray} (h : ¬ RulesP len Pt Tx) : rulesB len Pt Tx = false := decide_eq_false h
theorem rulesB_iff {len : Nat} {Pt Tx : Nat → ByteArray} : rulesB len Pt Tx = true ↔ RulesP len Pt Tx := decide_eq_true_iff
abbrev RulesTo (k : Nat) (Pt Tx : Nat → ByteArray) : Prop := ∀ j, j < k → ruleB (Pt j) (Tx j) = true ∧ (0 < j → Op.bytesLess (Pt (j - 1)).toList (Pt j).toList = true)
theorem rulesTo_next {k : Nat} {Pt Tx : Nat → ByteArray} (h : RulesTo k Pt Tx) (h1 : ruleB (Pt k) (Tx k) = true) (h2 : 0 < k → Op.bytesLess (Pt (k - 1)).toList (Pt k).toList = true) : RulesTo (k + 1) Pt Tx := by
  intro j hj
  by_cases e : j = k
  · subst e; exact ⟨h1, h2⟩
  · exact h j (by omega)
end Go.Proofs.Ytllhnofobkgjgaa
