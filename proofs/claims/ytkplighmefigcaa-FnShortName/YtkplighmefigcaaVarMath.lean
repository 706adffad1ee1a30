/-
  Plain facts on numbers of seven bits a byte. No program is spoken of.
-/
import Derived.Test.YtkplighmefigcaaStr
namespace Go.Proofs.Ytkplighmefigcaa
open Go.RowKit Go.PlainAid

def vl : Nat → Int → List Int
  | 0, q => [q]
  | f + 1, q => if q < 128 then [q] else (q % 128 + 128) :: vl f (q / 128)
theorem vl_small (f : Nat) (q : Int) (h : q < 128) : vl f q = [q] := by cases f <;> simp [vl, h]
theorem vl_more (f : Nat) (q : Int) (h : ¬ q < 128) : vl (f + 1) q = (q % 128 + 128) :: vl f (q / 128) := by simp [vl, h]
theorem vl_length (f : Nat) (q : Int) : 1 ≤ (vl f q).length ∧ (vl f q).length ≤ f + 1 := by
  induction f generalizing q with
  | zero => simp [vl]
  | succ f ih =>
    simp only [vl]
    split
    · simp
    · have := ih (q / 128)
      simp; omega
def VarAt (n : Int) (k : Nat) (acc : List Int) (q : Int) : Prop :=
  k ≤ 6 ∧ acc.length = k ∧ 0 ≤ q ∧ q ≤ n ∧ q * 128 ^ k ≤ n ∧ acc ++ vl (6 - k) q = vl 6 n
theorem varAt_start (n : Int) (h : 0 ≤ n) : VarAt n 0 [] n := ⟨by omega, rfl, h, by omega, by simp, rfl⟩
theorem varAt_lt {n : Int} {k : Nat} {acc : List Int} {q : Int} (h : VarAt n k acc q) (hn : n ≤ 562949953421311) (hq : ¬ q < 128) : k < 6 := by
  obtain ⟨h6, -, h0, -, hp, -⟩ := h
  rcases Nat.lt_or_ge k 6 with h | h
  · exact h
  · obtain rfl : k = 6 := by omega
    exfalso
    rw [show (128 : Int) ^ 6 = 4398046511104 from by decide] at hp
    omega
theorem varAt_next {n : Int} {k : Nat} {acc : List Int} {q : Int} (h : VarAt n k acc q) (hn : n ≤ 562949953421311) (hq : ¬ q < 128) : VarAt n (k + 1) (acc ++ [q % 128 + 128]) (q / 128) := by
  have hk := varAt_lt h hn hq
  obtain ⟨h6, hl, h0, hqn, hp, he⟩ := h
  refine ⟨by omega, by simp [hl], by omega, by omega, ?_, ?_⟩
  · have h1 : q / 128 * 128 ≤ q := by omega
    have h2 : q / 128 * 128 ^ (k + 1) = q / 128 * 128 * 128 ^ k := by rw [Int.pow_succ, Int.mul_assoc, Int.mul_comm (128 ^ k) 128]
    rw [h2]
    exact Int.le_trans (Int.mul_le_mul_of_nonneg_right h1 (Int.le_of_lt (Int.pow_pos (by omega)))) hp
  · rw [← he, show 6 - k = (6 - (k + 1)) + 1 from by omega, vl_more _ _ hq, List.append_assoc]
    rfl
theorem varAt_end {n : Int} {k : Nat} {acc : List Int} {q : Int} (h : VarAt n k acc q) (hq : q < 128) : acc ++ [q] = vl 6 n := by
  obtain ⟨-, -, -, -, -, he⟩ := h
  rw [← he, vl_small _ _ hq]
def varL (n : Int) : List Int := if inB n 0 562949953421311 then vl 6 n else []
theorem varL_yes {n : Int} (h0 : 0 ≤ n) (h1 : n ≤ 562949953421311) : varL n = vl 6 n := by simp [varL, inB_yes h0 h1]
theorem varL_no {n : Int} (h : ¬ (0 ≤ n ∧ n ≤ 562949953421311)) : varL n = [] := by simp [varL, inB_no h]
end Go.Proofs.Ytkplighmefigcaa
