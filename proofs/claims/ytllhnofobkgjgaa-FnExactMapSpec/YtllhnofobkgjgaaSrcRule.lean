/-
  What is known of a row of rules that came in: as of files.
-/
import Derived.Test.YtllhnofobkgjgaaSrcFile
namespace Go.Proofs.Ytllhnofobkgjgaa
open Go.RowKit Go.PlainAid Go.Deep

theorem rules_open {H : Type} {enc : TypeId × Value → H} {w : World} {base fuel : Nat} {spare : Nat → Bool} {held : Bool} {a : Option Addr} {len cap : Nat} {x : DataW H × List MemPlace}
    (h : DataW.trod enc Try.prog w base spare held fuel 22 [.slice a len cap] = some x) : ∃ S : FSrc, a = S.a ∧ len = S.len ∧ cap = S.cap ∧ FSrcIn S w := by
  rcases open_slice_pairs Try.underlying22 Try.underlying33 (by kernel_rfl) rfl rfl (by kernel_rfl) (by kernel_rfl) h with ⟨hcs, _⟩ | ⟨y, l, c, m, n, V0, V1, D0, D1, P0, P1, hcs, _, hl, hm, hmm, _, hx⟩
  · simp at hcs
    obtain ⟨rfl, rfl, rfl⟩ := hcs
    exact ⟨_, rfl, rfl, rfl, fsrc_nil w⟩
  · simp at hcs
    obtain ⟨rfl, rfl, rfl⟩ := hcs
    have hlm : len ≤ m := by rw [hmm]; split <;> omega
    have hc : ∀ i, i < len → ∃ q : ByteArray × ByteArray, w.cell? (y.add (i * 2)) = some (.string q.1) ∧ w.cell? (y.add (i * 2 + 1)) = some (.string q.2) ∧ q.1.size ≤ maxLen ∧ q.2.size ≤ maxLen := by
      intro i hi
      obtain ⟨c0, c1, t0, t1⟩ := hx i (by omega)
      obtain ⟨s0, e0, _, z0⟩ := DataW.trod_string Try.underlying9 t0
      obtain ⟨s1, e1, _, z1⟩ := DataW.trod_string Try.underlying9 t1
      simp only [List.cons.injEq, and_true] at e0 e1
      rw [e0] at c0
      rw [e1] at c1
      exact ⟨(s0, s1), c0, c1, z0, z1⟩
    obtain ⟨f, hf⟩ := choose_lt hc
    exact ⟨_, rfl, rfl, rfl, fsrc_row (Pt := fun j => (f j).1) (Tx := fun j => (f j).2) hl hm hf⟩
end Go.Proofs.Ytllhnofobkgjgaa
