/-
  What spec.l2Begins and spec.Resolve answer: the walks.
-/
import Derived.Test.YtllhnofobkgjgaaSpecClean
namespace Go.Proofs.Ytllhnofobkgjgaa
open Go.RowKit Go.PlainAid

def begB (a s : ByteArray) : Bool := decide (a.size ≤ s.size) && ((s.extract 0 a.size).toList == a.toList)
theorem begins_spec (a s : ByteArray) (w : World) (_ : s.size ≤ 9223372036854775807) (_ : a.size ≤ 9223372036854775807) :
    Calls Try.prog 17 #[.string a, .string s] w fun e w' => e = .returned (.bool (begB a s)) ∧ w' = w := by
  by_cases h : a.size ≤ s.size
  · have HB : Hid (begB a s = ((s.extract 0 a.size).toList == a.toList)) := by show begB a s = _; rw [begB, decide_eq_true h, Bool.true_and]
    go_enter Try.func17, Try.ntmps17
    go_wp2
    go_ret
    exact ⟨ret_bool HB.out.symm, rfl⟩
  · have HB : Hid (begB a s = false) := by show begB a s = _; rw [begB, decide_eq_false h, Bool.false_and]
    go_enter Try.func17, Try.ntmps17
    go_wp2
    go_ret
    exact ⟨ret_bool HB.out.symm, rfl⟩

def dirTo (s : ByteArray) : Nat → Nat
  | 0 => 0
  | k + 1 => if bt s k = 47 then k + 1 else dirTo s k
theorem dirTo_bd (s : ByteArray) (h : bt s 0 = 47) (k : Nat) (hk : 1 ≤ k) : 1 ≤ dirTo s k ∧ dirTo s k ≤ k := by
  induction k with
  | zero => omega
  | succ k ih =>
    unfold dirTo
    split
    · omega
    · rename_i hne
      by_cases e : k = 0
      · subst e; exact absurd h hne
      · have := ih (by omega)
        omega
theorem dirTo_yes {s : ByteArray} {k : Nat} (h : bt s k = 47) : dirTo s (k + 1) = k + 1 := by rw [dirTo, if_pos h]
theorem dirTo_no {s : ByteArray} {k : Nat} (h : ¬ bt s k = 47) : dirTo s (k + 1) = dirTo s k := by rw [dirTo, if_neg h]
def resolveS (f sp : ByteArray) : ByteArray :=
  if pathB f = false then { data := #[] } else if begB { data := #[47] } sp = true then cleanS sp
  else if begB { data := #[46, 47] } sp = false ∧ begB { data := #[46, 46, 47] } sp = false then cleanS ({ data := #[47, 108, 105, 98, 47] } ++ sp)
  else cleanS (f.extract 0 (dirTo f f.size) ++ sp)

end Go.Proofs.Ytllhnofobkgjgaa
