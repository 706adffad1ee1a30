/-
  What an import map tells of a name: plain facts. No program is spoken of.
-/
import Derived.Test.YtllhnofobkgjgaaRuleMath
import Derived.Test.YtllhnofobkgjgaaSpecResolve
namespace Go.Proofs.Ytllhnofobkgjgaa
open Go.RowKit Go.PlainAid

def hitB (p s : ByteArray) : Bool := (p.toList == s.toList) || (bt p (p.size - 1) == 47 && begB p s)
def bestTo (Pt : Nat → ByteArray) (s : ByteArray) : Nat → Option Nat
  | 0 => none
  | k + 1 => match hitB (Pt k) s, bestTo Pt s k with
    | false, o => o
    | true, none => some k
    | true, some b => if (Pt b).size < (Pt k).size then some k else some b
def bestI (o : Option Nat) : Int := match o with | none => -1 | some b => b
theorem bestTo_no {Pt : Nat → ByteArray} {s : ByteArray} {k : Nat} (h : hitB (Pt k) s = false) : bestTo Pt s (k + 1) = bestTo Pt s k := by
  rw [bestTo, h]
theorem bestTo_new {Pt : Nat → ByteArray} {s : ByteArray} {k : Nat} (h : hitB (Pt k) s = true) (h0 : bestTo Pt s k = none) : bestTo Pt s (k + 1) = some k := by
  rw [bestTo, h, h0]
theorem bestTo_long {Pt : Nat → ByteArray} {s : ByteArray} {k b : Nat} (h : hitB (Pt k) s = true) (h0 : bestTo Pt s k = some b) (hl : (Pt b).size < (Pt k).size) : bestTo Pt s (k + 1) = some k := by
  rw [bestTo, h, h0]
  exact if_pos hl
theorem bestTo_old {Pt : Nat → ByteArray} {s : ByteArray} {k b : Nat} (h : hitB (Pt k) s = true) (h0 : bestTo Pt s k = some b) (hl : ¬ (Pt b).size < (Pt k).size) : bestTo Pt s (k + 1) = some b := by
  rw [bestTo, h, h0]
  exact if_neg hl
theorem hit_size {p s : ByteArray} (h : hitB p s = true) : p.size ≤ s.size := by
  rw [hitB, Bool.or_eq_true, Bool.and_eq_true] at h
  rcases h with h | ⟨_, h⟩
  · rw [(toList_eq_iff p s).1 h]
    exact Nat.le_refl _
  · rw [begB, Bool.and_eq_true] at h
    exact of_decide_eq_true h.1
theorem bestTo_is {Pt : Nat → ByteArray} {s : ByteArray} {k b : Nat} (h : bestTo Pt s k = some b) : b < k ∧ hitB (Pt b) s = true := by
  induction k with
  | zero => cases h
  | succ k ih =>
    cases hh : hitB (Pt k) s with
    | false =>
      rw [bestTo_no hh] at h
      have := ih h
      exact ⟨by omega, this.2⟩
    | true =>
      cases h0 : bestTo Pt s k with
      | none =>
        rw [bestTo_new hh h0] at h
        cases h
        exact ⟨by omega, hh⟩
      | some c =>
        by_cases hl : (Pt c).size < (Pt k).size
        · rw [bestTo_long hh h0 hl] at h
          cases h
          exact ⟨by omega, hh⟩
        · rw [bestTo_old hh h0 hl] at h
          cases h
          have := ih h0
          exact ⟨by omega, this.2⟩
def mapS (len : Nat) (Pt Tx : Nat → ByteArray) (s : ByteArray) : ByteArray :=
  match rulesB len Pt Tx, bestTo Pt s len with
  | true, some b => if 40 < ((Tx b).size : Int) + s.size - (Pt b).size then s else Tx b ++ s.extract (Pt b).size s.size
  | _, _ => s
theorem mapS_no {len : Nat} {Pt Tx : Nat → ByteArray} {s : ByteArray} (h : rulesB len Pt Tx = false) : mapS len Pt Tx s = s := by
  rw [mapS, h]
theorem mapS_none {len : Nat} {Pt Tx : Nat → ByteArray} {s : ByteArray} (h : bestTo Pt s len = none) : mapS len Pt Tx s = s := by
  rw [mapS, h]
  cases rulesB len Pt Tx <;> rfl
theorem mapS_far {len b : Nat} {Pt Tx : Nat → ByteArray} {s : ByteArray} (h : bestTo Pt s len = some b) (hl : 40 < ((Tx b).size : Int) + s.size - (Pt b).size) : mapS len Pt Tx s = s := by
  rw [mapS, h]
  cases rulesB len Pt Tx with
  | false => rfl
  | true => exact if_pos hl
theorem mapS_yes {len b : Nat} {Pt Tx : Nat → ByteArray} {s : ByteArray} (hr : rulesB len Pt Tx = true) (h : bestTo Pt s len = some b) (hl : ¬ 40 < ((Tx b).size : Int) + s.size - (Pt b).size) : mapS len Pt Tx s = Tx b ++ s.extract (Pt b).size s.size := by
  rw [mapS, h, hr]
  exact if_neg hl
theorem rule_long {len k : Nat} {Pt Tx : Nat → ByteArray} (h : rulesB len Pt Tx = true) (hk : k < len) : 0 < (Pt k).size := by
  have h1 := ((rulesB_iff.1 h).2 k hk).1
  rw [ruleB, Bool.and_eq_true, Bool.and_eq_true] at h1
  rcases Nat.eq_zero_or_pos (Pt k).size with e | e
  · have h2 := h1.1.1
    rw [show Pt k = { data := #[] } from bytes_ext (List.eq_nil_of_length_eq_zero (by rw [Array.length_toList]; exact e)), Lib.toList_data] at h2
    cases h2
  · exact e
end Go.Proofs.Ytllhnofobkgjgaa
