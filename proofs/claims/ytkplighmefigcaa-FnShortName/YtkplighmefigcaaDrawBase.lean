/-
  What the cursor's functions of the specification tell, and what they leave of it: l1New, l1Byte, l1Below, l1Once: the walks.
-/
import Derived.Test.YtkplighmefigcaaDrawMath
import Derived.Test.YtkplighmefigcaaProg
import Derived.Deep.QuietTactic
import Derived.BigQuiet
namespace Go.Proofs.Ytkplighmefigcaa
open Go.RowKit Go.PlainAid

theorem curW_drewN {T : TypeId} {S : Src} {w : World} {g : Nat} {q : Nat × Int} (h : CurW T S w g q) (n : Nat) : CurW T S (w.drewN n) g q := curW_kept h fun _ _ => rfl

theorem bw_le {S : Src} {q : Nat × Int} {n : Int} (h : n ≤ 0) : bw S q n = (0, q) := by rw [bw, if_pos h]
theorem bw_mid {S : Src} {q : Nat × Int} {n : Int} (h : ¬ n ≤ 0) (k : n ≤ 256) : bw S q n = ((cb S q).1 % n, (cb S q).2) := by rw [bw, if_neg h, if_pos k]
theorem bw_big {S : Src} {q : Nat × Int} {n : Int} (h : ¬ n ≤ 0) (k : ¬ n ≤ 256) : bw S q n = (((cb S q).1 * 16777216 + (cb S (cb S q).2).1 * 65536 + (cb S (cb S (cb S q).2).2).1 * 256 + (cb S (cb S (cb S (cb S q).2).2).2).1) % n, (cb S (cb S (cb S (cb S q).2).2).2).2) := by rw [bw, if_neg h, if_neg k]

theorem and30 (y : Int) : 0 ≤ bits .and .i64 y 1073741823 ∧ bits .and .i64 y 1073741823 ≤ 1073741823 := by
  have e : bits .and .i64 y 1073741823 = IntKind.i64.wrap (((BitVec.ofInt 64 y &&& BitVec.ofInt 64 1073741823).toNat : Nat) : Int) := rfl
  have h : (BitVec.ofInt 64 y &&& BitVec.ofInt 64 1073741823).toNat ≤ 1073741823 := by
    rw [BitVec.toNat_and]
    exact Nat.and_le_right
  rw [e, IntKind.wrap_i64]
  omega
theorem newH_bd (S : Src) (hS : S.ok) (k : Nat) : 0 ≤ newH S k ∧ newH S k ≤ 1073741823 := by
  cases k with
  | zero => have := hS.1; simp only [newH]; omega
  | succ k => exact and30 _

end Go.Proofs.Ytkplighmefigcaa
