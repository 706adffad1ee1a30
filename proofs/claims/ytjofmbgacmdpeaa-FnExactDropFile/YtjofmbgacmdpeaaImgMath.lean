/-
  Files as one text, as plain functions. No program is spoken of.
-/
import Derived.Test.YtjofmbgacmdpeaaFileMath
import Derived.Test.YtjofmbgacmdpeaaVarMath
import Derived.Test.YtjofmbgacmdpeaaUpMath
namespace Go.Proofs.Ytjofmbgacmdpeaa
open Go.RowKit Go.PlainAid

def pieceS (s : ByteArray) : ByteArray := strOfNums (varL (s.size : Int)) ++ s
def showTo (h : ByteArray) (Pt Tx : Nat → ByteArray) : Nat → ByteArray
  | 0 => h
  | k + 1 => showTo h Pt Tx k ++ pieceS (Pt k) ++ pieceS (Tx k)
def headF (len : Nat) : ByteArray := ({ data := #[102] } : ByteArray) ++ strOfNums (varL (len : Int))
def showS (len : Nat) (Pt Tx : Nat → ByteArray) : ByteArray := if filesB len Pt Tx then showTo (headF len) Pt Tx len else { data := #[] }
theorem varL_le (n : Int) : (varL n).length ≤ 7 := by
  unfold varL
  split
  · exact (vl_length 6 n).2
  · exact Nat.zero_le _
theorem var_size (n : Int) : (strOfNums (varL n)).size ≤ 7 := by rw [strOfNums_size]; exact varL_le n
theorem piece_size (s : ByteArray) : (pieceS s).size ≤ s.size + 7 := by
  unfold pieceS
  rw [ByteArray.size_append]
  have := var_size (s.size : Int)
  omega
theorem head_size (len : Nat) : (headF len).size ≤ 8 := by
  unfold headF
  rw [ByteArray.size_append]
  have := var_size (len : Int)
  show 1 + _ ≤ 8
  omega
theorem files_small {len : Nat} {Pt Tx : Nat → ByteArray} (h : filesB len Pt Tx = true) : len ≤ 8 ∧ ∀ j, j < len → (Pt j).size ≤ 40 ∧ (Tx j).size ≤ 1500 := by
  obtain ⟨h1, h2⟩ := filesB_iff.1 h
  refine ⟨h1, fun j hj => ?_⟩
  have h3 := (h2 j hj).1
  unfold fileB fpB at h3
  simp only [Bool.and_eq_true, decide_eq_true_eq] at h3
  have := (pathB_iff.1 h3.1.1.1).2.1
  omega
theorem showTo_size {len : Nat} {Pt Tx : Nat → ByteArray} (h : filesB len Pt Tx = true) (hd : ByteArray) : ∀ k, k ≤ len → (showTo hd Pt Tx k).size ≤ hd.size + 1554 * k := by
  intro k
  induction k with
  | zero => intro _; exact Nat.le_refl _
  | succ k ih =>
    intro hk
    have h1 := ih (by omega)
    have h2 := (files_small h).2 k (by omega)
    have h3 := piece_size (Pt k)
    have h4 := piece_size (Tx k)
    rw [showTo, ByteArray.size_append, ByteArray.size_append]
    omega
end Go.Proofs.Ytjofmbgacmdpeaa
