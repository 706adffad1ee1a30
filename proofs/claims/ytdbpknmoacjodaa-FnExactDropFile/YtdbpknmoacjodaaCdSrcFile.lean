/-
  What is known of a row of files that came in.
-/
import Derived.Test.YtdbpknmoacjodaaCdCleanMathToImgMath
import Derived.Test.YtdbpknmoacjodaaProg
import Derived.Deep.SlicePairs
import Derived.OpenShut
namespace Go.Proofs.Ytdbpknmoacjodaa
open Go.RowKit Go.PlainAid Go.Deep

structure FSrc where
  a : Option Addr
  b : Nat
  off : Nat
  len : Nat
  cap : Nat
  Pt : Nat → ByteArray
  Tx : Nat → ByteArray
def FSrcIn (S : FSrc) (w : World) : Prop := S.len ≤ 9223372036854775807 ∧ FilesAt w S.a S.b S.off S.len S.Pt S.Tx ∧ ∀ j, j < S.len → (S.Pt j).size ≤ 9223372036854775807 ∧ (S.Tx j).size ≤ 9223372036854775807
theorem fsrc_nil (w : World) : FSrcIn ⟨none, 0, 0, 0, 0, fun _ => { data := #[] }, fun _ => { data := #[] }⟩ w :=
  ⟨by simp, ⟨fun h => absurd h (Nat.lt_irrefl _), fun h => absurd h (Nat.lt_irrefl _), fun j hj => absurd hj (Nat.not_lt_zero j), fun j hj => absurd hj (Nat.not_lt_zero j)⟩, fun j hj => absurd hj (Nat.not_lt_zero j)⟩
theorem fsrc_row {w : World} {x : Addr} {len cap : Nat} {Pt Tx : Nat → ByteArray} (hl : len ≤ cap) (hm : cap ≤ maxLen)
    (h : ∀ j, j < len → w.cell? (x.add (j * 2)) = some (.string (Pt j)) ∧ w.cell? (x.add (j * 2 + 1)) = some (.string (Tx j)) ∧ (Pt j).size ≤ maxLen ∧ (Tx j).size ≤ maxLen) :
    FSrcIn ⟨some x, x.block, x.off, len, cap, Pt, Tx⟩ w := by
  unfold maxLen at hm h
  have hx : 0 < len → x = ⟨x.block, x.off, none⟩ := fun h0 => by
    obtain ⟨b, off, spot⟩ := x
    have h1 := (h 0 h0).1
    have hspot : spot = none := by simpa [Addr.add] using World.cell?_spot h1
    rw [hspot]
  have hadd : ∀ j k, j < len → x.add k = ⟨x.block, x.off + k, none⟩ := fun j k hj => by
    have e := hx (by omega)
    obtain ⟨b, off, spot⟩ := x
    simp only [Addr.mk.injEq, true_and] at e
    subst e
    unfold Addr.add
    split
    · rename_i hk
      rw [hk, Nat.add_zero]
    · rfl
  refine ⟨by show len ≤ _; omega, ⟨fun h0 => by show some x = _; rw [← hx h0], fun h0 => ?_, fun j hj => ?_, fun j hj => ?_⟩, fun j hj => ?_⟩
  · have h1 := (h 0 h0).1
    rw [hadd 0 _ h0] at h1
    show x.block < _
    rcases Nat.lt_or_ge x.block w.heap.size with k | k
    · exact k
    · have e : w.heap[x.block]? = none := Array.getElem?_eq_none k
      simp [World.cell?, e] at h1
  · have h1 := (h j hj).1
    rw [hadd j _ hj] at h1
    exact h1
  · have h1 := (h j hj).2.1
    rw [hadd j _ hj] at h1
    exact h1
  · have h1 := (h j hj).2.2
    simp only at h1 ⊢
    omega
theorem files_open {H : Type} {enc : TypeId × Value → H} {w : World} {base fuel : Nat} {spare : Nat → Bool} {held : Bool} {a : Option Addr} {len cap : Nat} {x : DataW H × List MemPlace}
    (h : DataW.trod enc Try.prog w base spare held fuel 43 [.slice a len cap] = some x) : ∃ S : FSrc, a = S.a ∧ len = S.len ∧ cap = S.cap ∧ FSrcIn S w := by
  rcases open_slice_pairs Try.underlying43 Try.underlying45 (by kernel_rfl) rfl rfl (by kernel_rfl) (by kernel_rfl) h with ⟨hcs, _⟩ | ⟨y, l, c, m, n, V0, V1, D0, D1, P0, P1, hcs, _, hl, hm, hmm, _, hx⟩
  · simp at hcs
    obtain ⟨rfl, rfl, rfl⟩ := hcs
    exact ⟨_, rfl, rfl, rfl, fsrc_nil w⟩
  · simp at hcs
    obtain ⟨rfl, rfl, rfl⟩ := hcs
    have hlm : len ≤ m := by rw [hmm]; split <;> omega
    have hc : ∀ i, i < len → ∃ q : ByteArray × ByteArray, w.cell? (y.add (i * 2)) = some (.string q.1) ∧ w.cell? (y.add (i * 2 + 1)) = some (.string q.2) ∧ q.1.size ≤ maxLen ∧ q.2.size ≤ maxLen := by
      intro i hi
      obtain ⟨c0, c1, t0, t1⟩ := hx i (by omega)
      obtain ⟨s0, e0, _, z0⟩ := DataW.trod_string Try.underlying9 t0
      obtain ⟨s1, e1, _, z1⟩ := DataW.trod_string Try.underlying9 t1
      simp only [List.cons.injEq, and_true] at e0 e1
      rw [e0] at c0
      rw [e1] at c1
      exact ⟨(s0, s1), c0, c1, z0, z1⟩
    obtain ⟨f, hf⟩ := choose_lt hc
    exact ⟨_, rfl, rfl, rfl, fsrc_row (Pt := fun j => (f j).1) (Tx := fun j => (f j).2) hl hm hf⟩
end Go.Proofs.Ytdbpknmoacjodaa
