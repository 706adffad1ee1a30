/-
  The directories that a clean path is in, one behind the other: each is what stands ahead of the last / of the one ahead of it. No program is spoken of.
-/
import Derived.Test.YtemfbibeoibpeaaUpLaw
import Derived.Test.YtemfbibeoibpeaaSpecResolve
namespace Go.Proofs.Ytemfbibeoibpeaa
open Go.RowKit Go.PlainAid

def faC (c : ByteArray) : ByteArray := c.extract 0 (max (dirTo c c.size - 1) 1)
def Sh (c : ByteArray) : Prop := c.size = 0 ∨ (bt c 0 = 47 ∧ (1 < c.size → bt c 1 ≠ 47))
theorem upTo_last (c : ByteArray) : ∀ k, upTo c k = if dirTo c (k + 1) ≤ 1 then [] else c.extract 0 (dirTo c (k + 1) - 1) :: upTo c (dirTo c (k + 1) - 2) := by
  intro k
  induction k with
  | zero =>
    rw [if_pos]
    · rfl
    · unfold dirTo
      split
      · omega
      · exact Nat.zero_le _
  | succ k ih =>
    by_cases h : bt c (k + 1) = 47
    · rw [upTo_yes h, dirTo_yes h, if_neg (by omega)]
      rfl
    · rw [upTo_no h, dirTo_no h]
      exact ih
theorem upTo_extract (c : ByteArray) (m : Nat) (hm : m ≤ c.size) : ∀ k, k < m → upTo (c.extract 0 m) k = upTo c k := by
  intro k
  induction k with
  | zero => intro _; rfl
  | succ k ih =>
    intro hk
    have e : bt (c.extract 0 m) (k + 1) = bt c (k + 1) := by rw [bt_extract _ _ _ _ (by omega), Nat.zero_add]
    have e2 : (c.extract 0 m).extract 0 (k + 1) = c.extract 0 (k + 1) := by
      apply ByteArray.ext
      apply Array.ext'
      rw [Lib.extract_data, Lib.extract_data, Lib.extract_data]
      simp [List.take_take]
      omega
    by_cases h : bt c (k + 1) = 47
    · rw [upTo_yes h, upTo_yes (e.trans h), e2, ih (by omega)]
    · rw [upTo_no h, upTo_no (by rw [e]; exact h), ih (by omega)]
theorem root_of {c : ByteArray} (h1 : c.size = 1) (h : bt c 0 = 47) : c = { data := #[47] } := by
  obtain ⟨⟨l⟩⟩ := c
  match l, h1, h with
  | [x], _, h =>
    have hx : x = 47 := by
      have h2 : ((x.toNat : Nat) : Int) = 47 := h
      apply UInt8.toNat_inj.1
      show x.toNat = 47
      omega
    rw [hx]
theorem upC_none {c : ByteArray} (h : c.size ≤ 1) : upC c = [] := by
  rw [upC, if_neg (by omega), show c.size - 1 = 0 from by omega]
  rfl
theorem dirTo_at (c : ByteArray) : ∀ k, 1 ≤ dirTo c k → bt c (dirTo c k - 1) = 47 := by
  intro k
  induction k with
  | zero => intro h; exact absurd h (by unfold dirTo; omega)
  | succ k ih =>
    intro h
    by_cases g : bt c k = 47
    · rw [dirTo_yes g]; exact g
    · rw [dirTo_no g] at h ⊢; exact ih h
theorem upC_step {c : ByteArray} (h : Sh c) (h1 : 1 < c.size) : upC c = faC c :: upC (faC c) ∧ Sh (faC c) ∧ (faC c).size < c.size ∧ 1 ≤ (faC c).size := by
  rcases h with h | ⟨h0, h2⟩
  · omega
  have h2 := h2 h1
  obtain ⟨d1, d2⟩ := dirTo_bd c h0 c.size (by omega)
  have da := dirTo_at c c.size d1
  have ul := upTo_last c (c.size - 1)
  rw [show c.size - 1 + 1 = c.size from by omega] at ul
  generalize hd : dirTo c c.size = d at d1 d2 da ul
  have hne : d ≠ 2 := fun e => by rw [e] at da; exact h2 da
  have hf : faC c = c.extract 0 (max (d - 1) 1) := by rw [faC, hd]
  by_cases d3 : d = 1
  · subst d3
    have e : faC c = { data := #[47] } := root_of (by rw [hf, ext_size _ _ (by omega)]; rfl) (by rw [hf, bt_extract _ _ _ _ (by omega)]; exact h0)
    rw [if_pos (by omega)] at ul
    rw [e, upC_none (Nat.le_of_eq one47), upC, ul, if_pos h1]
    exact ⟨rfl, .inr ⟨bt_one47, fun k => absurd k (by rw [one47]; omega)⟩, by rw [one47]; omega, Nat.le_of_eq one47.symm⟩
  · have hf : faC c = c.extract 0 (d - 1) := by rw [hf, Nat.max_eq_left (by omega)]
    have hs : (faC c).size = d - 1 := by rw [hf, ext_size _ _ (by omega)]
    rw [if_neg (by omega)] at ul
    refine ⟨?_, .inr ⟨?_, fun _ => ?_⟩, by omega, by omega⟩
    · rw [upC, ul, if_pos h1, upC, hs, if_pos (by omega), show d - 1 - 1 = d - 2 from by omega, hf, upTo_extract c (d - 1) (by omega) (d - 2) (by omega)]
      rfl
    · rw [hf, bt_extract _ _ _ _ (by omega)]; exact h0
    · rw [hf, bt_extract _ _ _ _ (by omega)]; exact h2
theorem clean_shape (p : ByteArray) : Sh (cleanS p) := by
  by_cases hp : pathB p = true
  · by_cases h0 : (parts p).length = 0
    · rw [cleanS_root hp h0]
      exact .inr ⟨bt_one47, fun k => absurd k (by rw [one47]; omega)⟩
    · obtain ⟨k1, k2⟩ := cleanS_path p hp h0
      have hs := join_slash (parts p) 0 (parts p).length (by omega)
      rw [cleanS_yes hp h0]
      refine .inr ⟨hs, fun h1 h => ?_⟩
      obtain ⟨m, hm, e⟩ := slash_at (parts p) k2 (parts p).length (Nat.le_refl _) 1 h1 h
      rcases Nat.eq_zero_or_pos m with g | g
      · subst g
        have : (joinTo (parts p) 0).size = 0 := rfl
        omega
      · have := join_first (parts p) k2 m g (by omega)
        omega
  · rw [cleanS_no (by simpa using hp)]
    exact .inl rfl
end Go.Proofs.Ytemfbibeoibpeaa
