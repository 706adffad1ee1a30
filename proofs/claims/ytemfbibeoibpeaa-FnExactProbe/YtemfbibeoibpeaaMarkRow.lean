/-
  Rows of texts of the call's own that are marked cell by cell, without a program's rows. No program is spoken of but for markText.
-/
import Derived.Test.YtemfbibeoibpeaaLawMark
import Derived.Test.YtemfbibeoibpeaaRowStr
import Derived.Test.YtemfbibeoibpeaaRowFile
namespace Go.Proofs.Ytemfbibeoibpeaa
open Go.RowKit Go.PlainAid Go.Sort

def OwnM (w : World) (base : Nat) (e : TypeId) (size g n cap k0 c : Nat) : Prop := ∃ xs, w.ownsRow base e size (.slice (some ⟨g, 0, none⟩) n cap) n xs ∧ ∀ i, i < c → xs[i]? = some (.string (mtS (k0 + i)))
theorem OwnM.start {w : World} {base size g n cap : Nat} {e : TypeId} {xs : List Value} (h : w.ownsRow base e size (.slice (some ⟨g, 0, none⟩) n cap) n xs) (k0 : Nat) : OwnM w base e size g n cap k0 0 := ⟨xs, h, fun i hi => absurd hi (Nat.not_lt_zero i)⟩
theorem OwnM.blk {w : World} {base size g n cap k0 c : Nat} {e : TypeId} (h : OwnM w base e size g n cap k0 c) : base ≤ g ∧ g < w.heap.size := by
  obtain ⟨xs, h1, _⟩ := h
  rcases h1.2 with ⟨h', _⟩ | ⟨g', cap', cur, h', hb, hg, _⟩
  · simp at h'
  · simp only [Value.slice.injEq, Option.some.injEq, Addr.mk.injEq, and_true, true_and] at h'
    obtain ⟨rfl, rfl⟩ := h'
    exact ⟨hb, (Array.getElem?_eq_some_iff.1 hg).1⟩
theorem OwnM.keep {w W : World} {base size g n cap k0 c : Nat} {e : TypeId} (h : OwnM w base e size g n cap k0 c) (hk : W.heap[g]? = w.heap[g]?) : OwnM W base e size g n cap k0 c := by
  obtain ⟨xs, h1, h2⟩ := h
  refine ⟨xs, ⟨h1.1, ?_⟩, h2⟩
  rcases h1.2 with ⟨h', _⟩ | ⟨g', cap', cur, h', hbs, hg, hr⟩
  · simp at h'
  · simp only [Value.slice.injEq, Option.some.injEq, Addr.mk.injEq, and_true, true_and] at h'
    obtain ⟨rfl, rfl⟩ := h'
    exact .inr ⟨g, cap, cur, rfl, hbs, hk.trans hg, hr⟩
theorem OwnM.later {w W : World} {base size g n cap k0 c : Nat} {e : TypeId} (h : OwnM w base e size g n cap k0 c) (hb : Below w.heap.size w W) : OwnM W base e size g n cap k0 c := h.keep (hb.block g h.blk.2)
theorem OwnM.has {w : World} {base size g n cap k0 c : Nat} {e : TypeId} (h : OwnM w base e size g n cap k0 c) (i : Nat) (hi : i < n * size) : ∃ v, w.cell? ⟨g, i, none⟩ = some v := by
  obtain ⟨xs, h1, _⟩ := h
  rw [h1.cellAt i hi]
  exact ⟨_, List.getElem?_eq_getElem (by rw [h1.1]; exact hi)⟩
theorem OwnM.cell {w : World} {base size g n cap k0 c : Nat} {e : TypeId} (h : OwnM w base e size g n cap k0 c) (i q : Nat) (hi : i < n * size) (hc : i < c) (hq : q = k0 + i) : w.cell? ⟨g, i, none⟩ = some (.string (mtS q)) := by
  obtain ⟨xs, h1, h2⟩ := h
  rw [h1.cellAt i hi, hq]
  exact h2 i hc
theorem OwnM.free {w : World} {base size g n cap k0 c : Nat} {e : TypeId} (h : OwnM w base e size g n cap k0 c) (i : Nat) : w.frozen? ⟨g, i, none⟩ = false := by
  obtain ⟨xs, h1, _⟩ := h
  exact h1.frozenAt i
theorem OwnM.put {w : World} {base size g n cap k0 c q : Nat} {e : TypeId} (h : OwnM w base e size g n cap k0 c) (hc : c < n * size) (hq : q = k0 + c) : OwnM (w.setCell ⟨g, c, none⟩ (.string (mtS q))) base e size g n cap k0 (c + 1) := by
  subst hq
  obtain ⟨xs, h1, h2⟩ := h
  have hl := h1.1
  refine ⟨xs.set c (.string (mtS (k0 + c))), (h1.stored c _).1, fun i hi => ?_⟩
  by_cases e : i = c
  · subst e
    exact List.getElem?_set_self (by omega)
  · rw [List.getElem?_set_ne (by omega)]
    exact h2 i (by omega)
theorem OwnM.nil {w : World} {base size g cap k0 c : Nat} {e : TypeId} (h : OwnM w base e size g 0 cap k0 0) (hc : c = 0) : OwnM w base e size g 0 cap k0 c := by rw [hc]; exact h
theorem gm_refl (w : World) (b : Option Nat) : w.grownBy w b := ⟨rfl, rfl, rfl, Nat.le_refl _, fun _ _ _ => rfl⟩
theorem gm_trans {w w1 w2 : World} {b : Option Nat} (h : w.grownBy w1 b) (k : w1.grownBy w2 b) : w.grownBy w2 b :=
  ⟨k.os.trans h.os, k.tape.trans h.tape, k.output.trans h.output, Nat.le_trans h.size k.size, fun i hi hn => (k.block i (Nat.lt_of_lt_of_le hi h.size) hn).trans (h.block i hi hn)⟩
theorem gm_below {w w1 w2 : World} {b : Option Nat} (h : w.grownBy w1 b) (k : Below w1.heap.size w1 w2) : w.grownBy w2 b :=
  gm_trans h ⟨k.os, k.tape, k.output, k.size, fun i hi _ => k.block i hi⟩
theorem gm_set {w w1 : World} {g i : Nat} {u : Value} (h : w.grownBy w1 (some g)) : w.grownBy (w1.setCell ⟨g, i, none⟩ u) (some g) :=
  gm_trans h ⟨rfl, rfl, rfl, by show _ ≤ (w1.heap.modify _ _).size; simp, fun k _ hn => Below.heap_setCell w1 ⟨g, i, none⟩ u k (fun e => hn (by rw [e]))⟩
end Go.Proofs.Ytemfbibeoibpeaa
