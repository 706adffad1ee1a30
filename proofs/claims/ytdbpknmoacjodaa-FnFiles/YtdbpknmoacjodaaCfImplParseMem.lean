/-
  impl's parser in memory: its ten cells beside the six rows. No program is spoken of but for the numbers of its types.
-/
import Derived.Test.YtdbpknmoacjodaaCfParseMemToModMem
namespace Go.Proofs.Ytdbpknmoacjodaa
open Go.RowKit Go.PlainAid

structure Box10 (w : World) (b : Nat) (v0 v1 v2 v3 v4 v5 v6 v7 v8 v9 : Value) : Prop where
  c0 : w.cell? ⟨b, 0, none⟩ = some v0
  c1 : w.cell? ⟨b, 1, none⟩ = some v1
  c2 : w.cell? ⟨b, 2, none⟩ = some v2
  c3 : w.cell? ⟨b, 3, none⟩ = some v3
  c4 : w.cell? ⟨b, 4, none⟩ = some v4
  c5 : w.cell? ⟨b, 5, none⟩ = some v5
  c6 : w.cell? ⟨b, 6, none⟩ = some v6
  c7 : w.cell? ⟨b, 7, none⟩ = some v7
  c8 : w.cell? ⟨b, 8, none⟩ = some v8
  c9 : w.cell? ⟨b, 9, none⟩ = some v9
  fz : ∀ i, w.frozen? ⟨b, i, none⟩ = false
theorem box10_of {w : World} {b : Nat} {t : TypeId} {v0 v1 v2 v3 v4 v5 v6 v7 v8 v9 : Value} (h : w.heap[b]? = some (.cells #[v0, v1, v2, v3, v4, v5, v6, v7, v8, v9] t (0, 0))) : Box10 w b v0 v1 v2 v3 v4 v5 v6 v7 v8 v9 := by
  constructor <;> simp [World.cell?, World.frozen?, h]
structure IS (gp : Nat) (S : Sv) (w : World) (S' : Sv) (w' : World) : Prop where
  os : w'.os = w.os
  tape : w'.tape = w.tape
  output : w'.output = w.output
  size : w.heap.size ≤ w'.heap.size
  block : ∀ k, k < w.heap.size → ¬ S.has k → k ≠ gp → w'.heap[k]? = w.heap[k]?
  sub : ∀ k, S'.has k → S.has k ∨ w.heap.size ≤ k
theorem IS.refl (gp : Nat) (S : Sv) (w : World) : IS gp S w S w := ⟨rfl, rfl, rfl, Nat.le_refl _, fun _ _ _ _ => rfl, fun _ h => .inl h⟩
theorem IS.trans {gp : Nat} {S S1 S2 : Sv} {w w1 w2 : World} (h : IS gp S w S1 w1) (k : IS gp S1 w1 S2 w2) : IS gp S w S2 w2 :=
  ⟨k.os.trans h.os, k.tape.trans h.tape, k.output.trans h.output, Nat.le_trans h.size k.size,
    fun i hi hn hg => (k.block i (Nat.lt_of_lt_of_le hi h.size) (fun g => (h.sub i g).elim hn fun g' => by omega) hg).trans (h.block i hi hn hg),
    fun i hi => (k.sub i hi).elim (h.sub i) fun g => .inr (Nat.le_trans h.size g)⟩
theorem IS.below {gp : Nat} {S : Sv} {w w' : World} (h : Below w.heap.size w w') : IS gp S w S w' := ⟨h.os, h.tape, h.output, h.size, fun k hk _ _ => h.block k hk, fun _ g => .inl g⟩
theorem IS.set {gp : Nat} {S S1 : Sv} {w w1 : World} (h : IS gp S w S1 w1) (i : Nat) (u : Value) : IS gp S w S1 (w1.setCell ⟨gp, i, none⟩ u) :=
  ⟨h.os, h.tape, h.output, by show _ ≤ (w1.heap.modify _ _).size; simp; exact h.size, fun k hk hn hg => (Below.heap_setCell w1 ⟨gp, i, none⟩ u k hg).trans (h.block k hk hn hg), h.sub⟩
theorem IS.under {gp : Nat} {S S' : Sv} {w w' : World} {base : Nat} {q : PS} (h : IS gp S w S' w') (hb : base ≤ w.heap.size) (ho : Own w base S q) (hg : base ≤ gp) : Below base w w' :=
  ⟨h.os, h.tape, h.output, h.size, fun k hk => h.block k (by omega) (fun g => by have := (ho.has g).1; omega) (by omega)⟩

theorem four_of {w : World} {b : Nat} {t : TypeId} {v0 v1 v2 v3 : Value} (h : w.heap[b]? = some (.cells #[v0, v1, v2, v3] t (0, 0))) :
    w.cell? ⟨b, 0, none⟩ = some v0 ∧ w.cell? ⟨b, 1, none⟩ = some v1 ∧ w.cell? ⟨b, 2, none⟩ = some v2 ∧ w.cell? ⟨b, 3, none⟩ = some v3 ∧ ∀ i, w.frozen? ⟨b, i, none⟩ = false := by
  refine ⟨?_, ?_, ?_, ?_, fun i => ?_⟩ <;> simp [World.cell?, World.frozen?, h]
theorem put4 {w : World} {b : Nat} {v0 v1 v2 v3 x0 x1 x2 x3 : Value} {t : TypeId} (h : w.heap[b]? = some (.cells #[v0, v1, v2, v3] t (0, 0))) :
    ((((w.setCell ⟨b, 0, none⟩ x0).setCell ⟨b, 1, none⟩ x1).setCell ⟨b, 2, none⟩ x2).setCell ⟨b, 3, none⟩ x3).heap[b]? = some (.cells #[x0, x1, x2, x3] t (0, 0)) := by
  have e := qcell (i := 3) (u := x3) (qcell (i := 2) (u := x2) (qcell (i := 1) (u := x1) (qcell (i := 0) (u := x0) h)))
  rw [e]
  simp
theorem below4s {B : Nat} {a w : World} {b : Nat} (h : Below B a w) (hb : B ≤ b) (x0 x1 x2 x3 : Value) : Below B a ((((w.setCell ⟨b, 0, none⟩ x0).setCell ⟨b, 1, none⟩ x1).setCell ⟨b, 2, none⟩ x2).setCell ⟨b, 3, none⟩ x3) := (((h.setCell hb _).setCell hb _).setCell hb _).setCell hb _
theorem below_drewN {B : Nat} {a w : World} (h : Below B a w) (n : Nat) : Below B a (w.drewN n) := ⟨h.os, h.tape, h.output, h.size, h.block⟩
theorem IS.new {gp b : Nat} {S S1 : Sv} {w w1 : World} (h : IS gp S w S1 w1) (hb : w.heap.size ≤ b) (i : Nat) (u : Value) : IS gp S w S1 (w1.setCell ⟨b, i, none⟩ u) :=
  ⟨h.os, h.tape, h.output, by show _ ≤ (w1.heap.modify _ _).size; simp; exact h.size, fun k hk hn hg => (Below.heap_setCell w1 ⟨b, i, none⟩ u k (by show k ≠ b; omega)).trans (h.block k hk hn hg), h.sub⟩
theorem IS.scratch {gp b : Nat} {S S1 : Sv} {w w1 : World} (h : IS gp S w S1 w1) (hb : w.heap.size ≤ b) (x0 x1 x2 x3 : Value) : IS gp S w S1 ((((w1.setCell ⟨b, 0, none⟩ x0).setCell ⟨b, 1, none⟩ x1).setCell ⟨b, 2, none⟩ x2).setCell ⟨b, 3, none⟩ x3) :=
  (((h.new hb _ _).new hb _ _).new hb _ _).new hb _ _
theorem alloc_keep {w : World} {b : Nat} {o o' : Obj} (h : w.heap[b]? = some o) : (w.alloc o').heap[b]? = some o := (Below.heap_alloc w o' b (Array.getElem?_eq_some_iff.1 h).1).trans h
theorem IS.alloc {gp : Nat} {S S1 : Sv} {w w1 : World} (h : IS gp S w S1 w1) (o : Obj) : IS gp S w S1 (w1.alloc o) := h.trans (IS.below ((Below.refl _ _).alloc (Nat.le_refl _) _))
end Go.Proofs.Ytdbpknmoacjodaa
