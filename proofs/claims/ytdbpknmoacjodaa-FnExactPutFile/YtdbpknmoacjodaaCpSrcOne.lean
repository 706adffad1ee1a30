/-
  What is known of one file that came in by value.
-/
import Derived.Test.YtdbpknmoacjodaaProg
import Derived.WalkKit
import Derived.OpenShut
import Derived.Deep.RegionHeld3
namespace Go.Proofs.Ytdbpknmoacjodaa

theorem list2 {α : Type} {l : List α} (h : l.length = 2) : ∃ a b, l = [a, b] := by
  match l, h with
  | [a, b], _ => exact ⟨a, b, rfl⟩
theorem file_open {H : Type} {enc : TypeId × Value → H} {w : World} {base : Nat} {spare : Nat → Bool} {held : Bool} {n : Nat} {cs : List Value} {y : DataW H × List MemPlace} (h : DataW.trod enc Try.prog w base spare held n 45 cs = some y) :
    ∃ p t : ByteArray, cs = [.string p, .string t] ∧ p.size ≤ 9223372036854775807 ∧ t.size ≤ 9223372036854775807 := by
  obtain ⟨xs, k, _, _, hl, hxl, hf⟩ := DataW.trod_struct Try.underlying45 h
  have cF : Try.prog.cellsOf 45 = 2 := by kernel_rfl
  rw [cF] at hl
  have cS : Try.prog.cellsOf 9 = 1 := by kernel_rfl
  obtain ⟨v0, v1, rfl⟩ := list2 hl
  obtain ⟨y0, y1, rfl⟩ := list2 (hxl.trans rfl)
  have g0 : DataW.trod enc Try.prog w base spare held k 9 (List.take (Try.prog.cellsOf 9) (List.drop 0 [v0, v1])) = some y0 := hf 0 _ rfl
  rw [cS] at g0
  replace g0 : DataW.trod enc Try.prog w base spare held k 9 [v0] = some y0 := g0
  have g1 : DataW.trod enc Try.prog w base spare held k 9 (List.take (Try.prog.cellsOf 9) (List.drop 1 [v0, v1])) = some y1 := hf 1 _ rfl
  rw [cS] at g1
  replace g1 : DataW.trod enc Try.prog w base spare held k 9 [v1] = some y1 := g1
  obtain ⟨s0, e0, _, z0⟩ := DataW.trod_string Try.underlying9 g0
  simp only [List.cons.injEq, and_true] at e0
  subst e0
  obtain ⟨s1, e1, _, z1⟩ := DataW.trod_string Try.underlying9 g1
  simp only [List.cons.injEq, and_true] at e1
  subst e1
  unfold maxLen at z0
  unfold maxLen at z1
  exact ⟨s0, s1, rfl, by omega, by omega⟩
end Go.Proofs.Ytdbpknmoacjodaa
