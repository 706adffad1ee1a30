/-
  Plain facts on hexadecimal digits. No program is spoken of.
-/
import Derived.Test.YtdbpknmoacjodaaCfApp
namespace Go.Proofs.Ytdbpknmoacjodaa
open Go.RowKit Go.PlainAid

def hexd (k : Nat) : Int := bt { data := #[48, 49, 50, 51, 52, 53, 54, 55, 56, 57, 97, 98, 99, 100, 101, 102] } k
theorem hex_get : ∀ (n : Nat) (h : n < ({ data := #[48, 49, 50, 51, 52, 53, 54, 55, 56, 57, 97, 98, 99, 100, 101, 102] } : ByteArray).size), (((({ data := #[48, 49, 50, 51, 52, 53, 54, 55, 56, 57, 97, 98, 99, 100, 101, 102] } : ByteArray)[n]'h).toNat : Nat) : Int) = hexd n := get_bt _
theorem hexd_bd (k : Nat) : 0 ≤ hexd k ∧ hexd k ≤ 255 := ⟨bt_nonneg _ _, bt_le _ _⟩
theorem hexd_is (k : Nat) (h : k ≤ 15) : hexd k = if k < 10 then (48 + k : Int) else 87 + k := by
  match k, h with
  | 0, _ => decide
  | 1, _ => decide
  | 2, _ => decide
  | 3, _ => decide
  | 4, _ => decide
  | 5, _ => decide
  | 6, _ => decide
  | 7, _ => decide
  | 8, _ => decide
  | 9, _ => decide
  | 10, _ => decide
  | 11, _ => decide
  | 12, _ => decide
  | 13, _ => decide
  | 14, _ => decide
  | 15, _ => decide

def hexL (s : ByteArray) : Nat → List Int
  | 0 => []
  | k + 1 => hexL s k ++ [hexd (bt s k / 16).toNat, hexd (bt s k % 16).toNat]
theorem hexL_length (s : ByteArray) (k : Nat) : (hexL s k).length = 2 * k := by
  induction k with
  | zero => rfl
  | succ k ih => simp [hexL, ih]; omega
theorem hexL_hi (s : ByteArray) (n k : Nat) (h : k < n) : (hexL s n)[2 * k]? = some (hexd (bt s k / 16).toNat) := by
  induction n with
  | zero => omega
  | succ n ih =>
    rw [hexL]
    by_cases e : k = n
    · subst e
      rw [List.getElem?_append_right (by rw [hexL_length]; exact Nat.le_refl _), hexL_length, Nat.sub_self]
      rfl
    · rw [List.getElem?_append_left (by rw [hexL_length]; omega)]
      exact ih (by omega)
theorem hexL_lo (s : ByteArray) (n k : Nat) (h : k < n) : (hexL s n)[2 * k + 1]? = some (hexd (bt s k % 16).toNat) := by
  induction n with
  | zero => omega
  | succ n ih =>
    rw [hexL]
    by_cases e : k = n
    · subst e
      rw [List.getElem?_append_right (by rw [hexL_length]; omega), hexL_length, show 2 * k + 1 - 2 * k = 1 from by omega]
      rfl
    · rw [List.getElem?_append_left (by rw [hexL_length]; omega)]
      exact ih (by omega)
theorem own_two {w : World} {B g m : Nat} {e : TypeId} {s : ByteArray} {k : Nat} (h : OwnB w B e (.slice (some ⟨g, 0, none⟩) m m) m (fillTo (hexL s s.size) (2 * k))) (hk : k < s.size) :
    OwnB ((w.setCell ⟨g, 2 * k, none⟩ (.int .u8 (hexd (bt s k / 16).toNat))).setCell ⟨g, 2 * k + 1, none⟩ (.int .u8 (hexd (bt s k % 16).toNat))) B e (.slice (some ⟨g, 0, none⟩) m m) m (fillTo (hexL s s.size) (2 * (k + 1))) := by
  have h1 := own_set h (2 * k) (hexd (bt s k / 16).toNat)
  rw [fillTo_set _ _ _ (by rw [hexL_length]; omega) (hexL_hi s s.size k hk)] at h1
  have h2 := own_set h1 (2 * k + 1) (hexd (bt s k % 16).toNat)
  rw [fillTo_set _ _ _ (by rw [hexL_length]; omega) (hexL_lo s s.size k hk)] at h2
  exact h2
end Go.Proofs.Ytdbpknmoacjodaa
