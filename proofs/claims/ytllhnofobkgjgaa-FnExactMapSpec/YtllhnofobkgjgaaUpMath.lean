/-
  The directories that a path is in, as a plain function. No program is spoken of.
-/
import Derived.Test.YtllhnofobkgjgaaCleanMath
namespace Go.Proofs.Ytllhnofobkgjgaa
open Go.RowKit Go.PlainAid

def upTo (c : ByteArray) : Nat → List ByteArray
  | 0 => []
  | k + 1 => (if bt c (k + 1) = 47 then [c.extract 0 (k + 1)] else []) ++ upTo c k
def upC (c : ByteArray) : List ByteArray := upTo c (c.size - 1) ++ if 1 < c.size then [{ data := #[47] }] else []
def upL (p : ByteArray) : List ByteArray := upC (cleanS p)
theorem upTo_yes {c : ByteArray} {k : Nat} (h : bt c (k + 1) = 47) : upTo c (k + 1) = c.extract 0 (k + 1) :: upTo c k := by rw [upTo, if_pos h]; rfl
theorem upTo_no {c : ByteArray} {k : Nat} (h : bt c (k + 1) ≠ 47) : upTo c (k + 1) = upTo c k := by rw [upTo, if_neg h]; rfl
theorem upTo_len (c : ByteArray) (k : Nat) : (upTo c k).length ≤ k := by
  induction k with
  | zero => exact Nat.le_refl _
  | succ k ih =>
    rw [upTo, List.length_append]
    split
    · simp; omega
    · simp; omega
theorem world_anyU {P : Program} {code : Code} {Q : Exit → Act → World → Prop} {a : Act} {w0 : World} {R : World → Prop} (h0 : R w0) (h : ∀ W, R W → Code.wp P code Q a W) : Code.wp P code Q a w0 := h w0 h0
theorem hidU {p : Prop} (h : p) : Hid p := h
end Go.Proofs.Ytllhnofobkgjgaa
