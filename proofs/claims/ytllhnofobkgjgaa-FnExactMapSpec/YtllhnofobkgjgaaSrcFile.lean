/-
  What is known of a row of files that came in.
-/
import Derived.Test.YtllhnofobkgjgaaFileMath
import Derived.Test.YtllhnofobkgjgaaProg
import Derived.Deep.SlicePairs
import Derived.OpenShut
namespace Go.Proofs.Ytllhnofobkgjgaa
open Go.RowKit Go.PlainAid Go.Deep

structure FSrc where
  a : Option Addr
  b : Nat
  off : Nat
  len : Nat
  cap : Nat
  Pt : Nat → ByteArray
  Tx : Nat → ByteArray
def FSrcIn (S : FSrc) (w : World) : Prop := S.len ≤ 9223372036854775807 ∧ FilesAt w S.a S.b S.off S.len S.Pt S.Tx ∧ ∀ j, j < S.len → (S.Pt j).size ≤ 9223372036854775807 ∧ (S.Tx j).size ≤ 9223372036854775807
theorem fsrc_nil (w : World) : FSrcIn ⟨none, 0, 0, 0, 0, fun _ => { data := #[] }, fun _ => { data := #[] }⟩ w :=
  ⟨by simp, ⟨fun h => absurd h (Nat.lt_irrefl _), fun h => absurd h (Nat.lt_irrefl _), fun j hj => absurd hj (Nat.not_lt_zero j), fun j hj => absurd hj (Nat.not_lt_zero j)⟩, fun j hj => absurd hj (Nat.not_lt_zero j)⟩
theorem fsrc_row {w : World} {x : Addr} {len cap : Nat} {Pt Tx : Nat → ByteArray} (hl : len ≤ cap) (hm : cap ≤ maxLen)
    (h : ∀ j, j < len → w.cell? (x.add (j * 2)) = some (.string (Pt j)) ∧ w.cell? (x.add (j * 2 + 1)) = some (.string (Tx j)) ∧ (Pt j).size ≤ maxLen ∧ (Tx j).size ≤ maxLen) :
    FSrcIn ⟨some x, x.block, x.off, len, cap, Pt, Tx⟩ w := by
  unfold maxLen at hm h
  have hx : 0 < len → x = ⟨x.block, x.off, none⟩ := fun h0 => by
    obtain ⟨b, off, spot⟩ := x
    have h1 := (h 0 h0).1
    have hspot : spot = none := by simpa [Addr.add] using World.cell?_spot h1
    rw [hspot]
  have hadd : ∀ j k, j < len → x.add k = ⟨x.block, x.off + k, none⟩ := fun j k hj => by
    have e := hx (by omega)
    obtain ⟨b, off, spot⟩ := x
    simp only [Addr.mk.injEq, true_and] at e
    subst e
    unfold Addr.add
    split
    · rename_i hk
      rw [hk, Nat.add_zero]
    · rfl
  refine ⟨by show len ≤ _; omega, ⟨fun h0 => by show some x = _; rw [← hx h0], fun h0 => ?_, fun j hj => ?_, fun j hj => ?_⟩, fun j hj => ?_⟩
  · have h1 := (h 0 h0).1
    rw [hadd 0 _ h0] at h1
    show x.block < _
    rcases Nat.lt_or_ge x.block w.heap.size with k | k
    · exact k
    · have e : w.heap[x.block]? = none := Array.getElem?_eq_none k
      simp [World.cell?, e] at h1
  · have h1 := (h j hj).1
    rw [hadd j _ hj] at h1
    exact h1
  · have h1 := (h j hj).2.1
    rw [hadd j _ hj] at h1
    exact h1
  · have h1 := (h j hj).2.2
    simp only at h1 ⊢
    omega
end Go.Proofs.Ytllhnofobkgjgaa
