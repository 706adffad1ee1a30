/-
  Plain facts on what hexadecimal digits say. No program is spoken of.
-/
import Derived.Test.YtdbpknmoacjodaaCfAidToBytes
import Derived.Lib.Bytealg
namespace Go.Proofs.Ytdbpknmoacjodaa
open Go.RowKit Go.PlainAid

def hexv (c : Int) : Int := if 48 ≤ c ∧ c ≤ 57 then c - 48 else if 97 ≤ c ∧ c ≤ 102 then c - 87 else -1
theorem hexv_bd (c : Int) : -1 ≤ hexv c ∧ hexv c ≤ 15 := by
  unfold hexv
  split
  · omega
  · split <;> omega
theorem index_fin : ∀ c : Fin 256, Lib.indexByte [48, 49, 50, 51, 52, 53, 54, 55, 56, 57, 97, 98, 99, 100, 101, 102] ((c.val : Int).toNat.toUInt8) = hexv (c.val : Int) := by decide +kernel
theorem index_is (c : Int) (h0 : 0 ≤ c) (h1 : c ≤ 255) : Lib.indexByte [48, 49, 50, 51, 52, 53, 54, 55, 56, 57, 97, 98, 99, 100, 101, 102] (c.toNat.toUInt8) = hexv c := by
  have h := index_fin ⟨c.toNat, by omega⟩
  simp only at h
  rw [show ((c.toNat : Nat) : Int) = c from by omega] at h
  exact h
theorem hexv_of (j : Nat) (h : j < 16) : hexv (hexd j) = j := by
  rw [hexd_is j (by omega)]
  unfold hexv
  split
  · rw [if_pos (by omega)]; omega
  · rw [if_neg (by omega), if_pos (by omega)]; omega
theorem hexd_of (c : Int) (h : 0 ≤ hexv c) : hexd (hexv c).toNat = c := by
  have hb := hexv_bd c
  rw [hexd_is _ (by omega)]
  unfold hexv at h hb ⊢
  split
  · split <;> omega
  · split
    · split <;> omega
    · rename_i h1 h2
      rw [if_neg h1, if_neg h2] at h
      omega
theorem hexv_eq_iff (c : Int) (j : Nat) (h : j < 16) : hexd j = c ↔ hexv c = j := by
  constructor
  · rintro rfl
    exact hexv_of j h
  · intro e
    rw [← hexd_of c (by omega), e]
    rfl

def pairOk (s : ByteArray) (k : Nat) : Bool := decide (0 ≤ hexv (bt s (2 * k))) && decide (0 ≤ hexv (bt s (2 * k + 1)))
def pairV (s : ByteArray) (k : Nat) : Int := 16 * hexv (bt s (2 * k)) + hexv (bt s (2 * k + 1))
def unL (s : ByteArray) : Nat → List Int
  | 0 => []
  | k + 1 => unL s k ++ [pairV s k]
def unOk (s : ByteArray) : Nat → Bool
  | 0 => true
  | k + 1 => unOk s k && pairOk s k
theorem unL_length (s : ByteArray) (k : Nat) : (unL s k).length = k := by
  induction k with
  | zero => rfl
  | succ k ih => simp [unL, ih]
theorem unL_at (s : ByteArray) (n k : Nat) (h : k < n) : (unL s n)[k]? = some (pairV s k) := by
  induction n with
  | zero => omega
  | succ n ih =>
    rw [unL]
    by_cases e : k = n
    · subst e
      rw [List.getElem?_append_right (by rw [unL_length]; exact Nat.le_refl _), unL_length, Nat.sub_self]
      rfl
    · rw [List.getElem?_append_left (by rw [unL_length]; omega)]
      exact ih (by omega)
theorem unOk_false (s : ByteArray) (n k : Nat) (h : k < n) (hb : pairOk s k = false) : unOk s n = false := by
  induction n with
  | zero => omega
  | succ n ih =>
    rw [unOk]
    by_cases e : k = n
    · subst e; simp [hb]
    · simp [ih (by omega)]
def unhexOk (s : ByteArray) : Bool := decide (s.size % 2 = 0) && unOk s (s.size / 2)
def unhexL (s : ByteArray) : List Int := if unhexOk s then unL s (s.size / 2) else []
theorem unhexOk_odd {s : ByteArray} (h : s.size % 2 ≠ 0) : unhexOk s = false := by simp [unhexOk, h]
theorem unhexOk_bad {s : ByteArray} {k : Nat} (h : k < s.size / 2) (hb : pairOk s k = false) : unhexOk s = false := by simp [unhexOk, unOk_false s _ k h hb]
theorem unhexL_no {s : ByteArray} (h : unhexOk s = false) : unhexL s = [] := by simp [unhexL, h]
theorem unhexOk_yes {s : ByteArray} (h : s.size % 2 = 0) (k : unOk s (s.size / 2) = true) : unhexOk s = true := by simp [unhexOk, h, k]
theorem unhexL_yes {s : ByteArray} (h : unhexOk s = true) : unhexL s = unL s (s.size / 2) := by simp [unhexL, h]
theorem pairOk_iff {s : ByteArray} {k : Nat} : pairOk s k = true ↔ 0 ≤ hexv (bt s (2 * k)) ∧ 0 ≤ hexv (bt s (2 * k + 1)) := by simp [pairOk]
theorem pairOk_no {s : ByteArray} {k : Nat} (h : ¬ (0 ≤ hexv (bt s (2 * k)) ∧ 0 ≤ hexv (bt s (2 * k + 1)))) : pairOk s k = false := by
  rw [Bool.eq_false_iff]; exact fun k => h (pairOk_iff.1 k)
end Go.Proofs.Ytdbpknmoacjodaa
