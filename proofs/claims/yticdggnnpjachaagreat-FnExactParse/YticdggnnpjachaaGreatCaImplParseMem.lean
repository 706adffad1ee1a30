/-
  impl's parser in memory: its ten cells beside the six rows. No program is spoken of but for the numbers of its types.
-/
import Derived.Test.YticdggnnpjachaaGreatCaSpecParsePToSpecParseR
import Derived.Deep.Draws
namespace Go.Proofs.YticdggnnpjachaaGreat
open Go.RowKit Go.PlainAid

structure IM (C : Cx) (gt cap base gp : Nat) (S : Sv) (q : PS) (w : World) : Prop where
  mem : Mem C gt cap base S q w
  cells : w.heap[gp]? = some (.cells #[.slice (some ⟨gt, 0, none⟩) C.ts.length cap, .int .i64 q.pos, .int .i64 C.fin, .bool C.scr, .slice S.rq.a q.rq.length S.rq.cap, .slice S.im.a q.im.length S.im.cap, .slice S.ep.a q.ep.length S.ep.cap, .slice S.st.a q.st.length S.st.cap, .slice S.ex.a q.ex.length S.ex.cap, .slice S.la.a q.la.length S.la.cap] 59 (0, 0))
  ge : base ≤ gp
theorem IM.lt {C : Cx} {gt cap base gp : Nat} {S : Sv} {q : PS} {w : World} (h : IM C gt cap base gp S q w) : gp < w.heap.size := (Array.getElem?_eq_some_iff.1 h.cells).1
theorem IM.free {C : Cx} {gt cap base gp : Nat} {S : Sv} {q : PS} {w : World} (h : IM C gt cap base gp S q w) : ¬ S.has gp := h.mem.own.other h.cells (by decide) (by decide) (by decide) (by decide) (by decide)
theorem IM.ne {C : Cx} {gt cap base gp : Nat} {S : Sv} {q : PS} {w : World} (h : IM C gt cap base gp S q w) : gp ≠ gt := by
  rintro rfl
  obtain ⟨c, g⟩ := ownT_block h.mem.tok
  rw [h.cells] at g
  simp only [Option.some.injEq, Obj.cells.injEq] at g
  exact absurd g.2.1 (by decide)
theorem IM.later {C : Cx} {gt cap base gp : Nat} {S : Sv} {q : PS} {w w' : World} (h : IM C gt cap base gp S q w) (hb : Below w.heap.size w w') : IM C gt cap base gp S q w' := ⟨h.mem.later hb, (hb.block _ h.lt).trans h.cells, h.ge⟩
theorem IM.alloc {C : Cx} {gt cap base gp : Nat} {S : Sv} {q : PS} {w : World} (h : IM C gt cap base gp S q w) (o : Obj) : IM C gt cap base gp S q (w.alloc o) := h.later ((Below.refl _ _).alloc (Nat.le_refl _) _)
theorem IM.drew {C : Cx} {gt cap base gp : Nat} {S : Sv} {q : PS} {w : World} (h : IM C gt cap base gp S q w) : IM C gt cap base gp S q w.drew := ⟨⟨⟨h.mem.own.rq, h.mem.own.im, h.mem.own.ep, h.mem.own.st, h.mem.own.ex, h.mem.own.la, h.mem.own.apart⟩, h.mem.inv, h.mem.tok, h.mem.few, h.mem.base⟩, h.cells, h.ge⟩
structure Box10 (w : World) (b : Nat) (v0 v1 v2 v3 v4 v5 v6 v7 v8 v9 : Value) : Prop where
  c0 : w.cell? ⟨b, 0, none⟩ = some v0
  c1 : w.cell? ⟨b, 1, none⟩ = some v1
  c2 : w.cell? ⟨b, 2, none⟩ = some v2
  c3 : w.cell? ⟨b, 3, none⟩ = some v3
  c4 : w.cell? ⟨b, 4, none⟩ = some v4
  c5 : w.cell? ⟨b, 5, none⟩ = some v5
  c6 : w.cell? ⟨b, 6, none⟩ = some v6
  c7 : w.cell? ⟨b, 7, none⟩ = some v7
  c8 : w.cell? ⟨b, 8, none⟩ = some v8
  c9 : w.cell? ⟨b, 9, none⟩ = some v9
  fz : ∀ i, w.frozen? ⟨b, i, none⟩ = false
theorem box10_of {w : World} {b : Nat} {t : TypeId} {v0 v1 v2 v3 v4 v5 v6 v7 v8 v9 : Value} (h : w.heap[b]? = some (.cells #[v0, v1, v2, v3, v4, v5, v6, v7, v8, v9] t (0, 0))) : Box10 w b v0 v1 v2 v3 v4 v5 v6 v7 v8 v9 := by
  constructor <;> simp [World.cell?, World.frozen?, h]
theorem IM.adv {C : Cx} {gt cap base gp : Nat} {S : Sv} {q : PS} {w : World} (h : IM C gt cap base gp S q w) (hl : q.pos < C.ts.length) : IM C gt cap base gp S (adv q) (w.setCell ⟨gp, 1, none⟩ (.int .i64 ((q.pos : Int) + 1))) := by
  have hk : ∀ k, k ≠ gp → (w.setCell ⟨gp, 1, none⟩ (.int .i64 ((q.pos : Int) + 1))).heap[k]? = w.heap[k]? := fun k hk => Below.heap_setCell w ⟨gp, 1, none⟩ _ k hk
  have hsz : (w.setCell ⟨gp, 1, none⟩ (.int .i64 ((q.pos : Int) + 1))).heap.size = w.heap.size := by show (w.heap.modify _ _).size = _; simp
  refine ⟨⟨(h.mem.own.keep fun k g => hk k fun e => h.free (by rw [← e]; exact g)).to rfl rfl rfl rfl rfl rfl, ⟨hl, h.mem.inv.rq, h.mem.inv.im, h.mem.inv.ep, h.mem.inv.st, h.mem.inv.ex⟩, ownT_keep h.mem.tok (hk gt h.ne.symm), h.mem.few, by rw [hsz]; exact h.mem.base⟩, ?_, h.ge⟩
  rw [qcell h.cells]
  simp [Go.Proofs.YticdggnnpjachaaGreat.adv]

structure IS (gp : Nat) (S : Sv) (w : World) (S' : Sv) (w' : World) : Prop where
  os : w'.os = w.os
  tape : w'.tape = w.tape
  output : w'.output = w.output
  size : w.heap.size ≤ w'.heap.size
  block : ∀ k, k < w.heap.size → ¬ S.has k → k ≠ gp → w'.heap[k]? = w.heap[k]?
  sub : ∀ k, S'.has k → S.has k ∨ w.heap.size ≤ k
theorem IS.refl (gp : Nat) (S : Sv) (w : World) : IS gp S w S w := ⟨rfl, rfl, rfl, Nat.le_refl _, fun _ _ _ _ => rfl, fun _ h => .inl h⟩
theorem IS.trans {gp : Nat} {S S1 S2 : Sv} {w w1 w2 : World} (h : IS gp S w S1 w1) (k : IS gp S1 w1 S2 w2) : IS gp S w S2 w2 :=
  ⟨k.os.trans h.os, k.tape.trans h.tape, k.output.trans h.output, Nat.le_trans h.size k.size,
    fun i hi hn hg => (k.block i (Nat.lt_of_lt_of_le hi h.size) (fun g => (h.sub i g).elim hn fun g' => by omega) hg).trans (h.block i hi hn hg),
    fun i hi => (k.sub i hi).elim (h.sub i) fun g => .inr (Nat.le_trans h.size g)⟩
theorem IS.below {gp : Nat} {S : Sv} {w w' : World} (h : Below w.heap.size w w') : IS gp S w S w' := ⟨h.os, h.tape, h.output, h.size, fun k hk _ _ => h.block k hk, fun _ g => .inl g⟩
theorem IS.set {gp : Nat} {S S1 : Sv} {w w1 : World} (h : IS gp S w S1 w1) (i : Nat) (u : Value) : IS gp S w S1 (w1.setCell ⟨gp, i, none⟩ u) :=
  ⟨h.os, h.tape, h.output, by show _ ≤ (w1.heap.modify _ _).size; simp; exact h.size, fun k hk hn hg => (Below.heap_setCell w1 ⟨gp, i, none⟩ u k hg).trans (h.block k hk hn hg), h.sub⟩
theorem IS.under {gp : Nat} {S S' : Sv} {w w' : World} {base : Nat} {q : PS} (h : IS gp S w S' w') (hb : base ≤ w.heap.size) (ho : Own w base S q) (hg : base ≤ gp) : Below base w w' :=
  ⟨h.os, h.tape, h.output, h.size, fun k hk => h.block k (by omega) (fun g => by have := (ho.has g).1; omega) (by omega)⟩

theorem four_of {w : World} {b : Nat} {t : TypeId} {v0 v1 v2 v3 : Value} (h : w.heap[b]? = some (.cells #[v0, v1, v2, v3] t (0, 0))) :
    w.cell? ⟨b, 0, none⟩ = some v0 ∧ w.cell? ⟨b, 1, none⟩ = some v1 ∧ w.cell? ⟨b, 2, none⟩ = some v2 ∧ w.cell? ⟨b, 3, none⟩ = some v3 ∧ ∀ i, w.frozen? ⟨b, i, none⟩ = false := by
  refine ⟨?_, ?_, ?_, ?_, fun i => ?_⟩ <;> simp [World.cell?, World.frozen?, h]
theorem put4 {w : World} {b : Nat} {v0 v1 v2 v3 x0 x1 x2 x3 : Value} {t : TypeId} (h : w.heap[b]? = some (.cells #[v0, v1, v2, v3] t (0, 0))) :
    ((((w.setCell ⟨b, 0, none⟩ x0).setCell ⟨b, 1, none⟩ x1).setCell ⟨b, 2, none⟩ x2).setCell ⟨b, 3, none⟩ x3).heap[b]? = some (.cells #[x0, x1, x2, x3] t (0, 0)) := by
  have e := qcell (i := 3) (u := x3) (qcell (i := 2) (u := x2) (qcell (i := 1) (u := x1) (qcell (i := 0) (u := x0) h)))
  rw [e]
  simp
theorem below4s {B : Nat} {a w : World} {b : Nat} (h : Below B a w) (hb : B ≤ b) (x0 x1 x2 x3 : Value) : Below B a ((((w.setCell ⟨b, 0, none⟩ x0).setCell ⟨b, 1, none⟩ x1).setCell ⟨b, 2, none⟩ x2).setCell ⟨b, 3, none⟩ x3) := (((h.setCell hb _).setCell hb _).setCell hb _).setCell hb _
theorem below_drewN {B : Nat} {a w : World} (h : Below B a w) (n : Nat) : Below B a (w.drewN n) := ⟨h.os, h.tape, h.output, h.size, h.block⟩
theorem IM.set {C : Cx} {gt cap base gp b : Nat} {S : Sv} {q : PS} {w : World} (h : IM C gt cap base gp S q w) (h1 : b ≠ gp) (h2 : b ≠ gt) (h3 : ¬ S.has b) (i : Nat) (u : Value) : IM C gt cap base gp S q (w.setCell ⟨b, i, none⟩ u) := by
  have hk : ∀ k, k ≠ b → (w.setCell ⟨b, i, none⟩ u).heap[k]? = w.heap[k]? := fun k hk => Below.heap_setCell w ⟨b, i, none⟩ _ k hk
  have hsz : (w.setCell ⟨b, i, none⟩ u).heap.size = w.heap.size := by show (w.heap.modify _ _).size = _; simp
  exact ⟨⟨h.mem.own.keep fun k g => hk k fun e => h3 (by rw [← e]; exact g), h.mem.inv, ownT_keep h.mem.tok (hk gt h2.symm), h.mem.few, by rw [hsz]; exact h.mem.base⟩, (hk gp h1.symm).trans h.cells, h.ge⟩
theorem IM.scratch {C : Cx} {gt cap base gp b : Nat} {S : Sv} {q : PS} {w : World} (h : IM C gt cap base gp S q w) (h1 : b ≠ gp) (h2 : b ≠ gt) (h3 : ¬ S.has b) (x0 x1 x2 x3 : Value) : IM C gt cap base gp S q ((((w.setCell ⟨b, 0, none⟩ x0).setCell ⟨b, 1, none⟩ x1).setCell ⟨b, 2, none⟩ x2).setCell ⟨b, 3, none⟩ x3) :=
  (((h.set h1 h2 h3 _ _).set h1 h2 h3 _ _).set h1 h2 h3 _ _).set h1 h2 h3 _ _
theorem IS.new {gp b : Nat} {S S1 : Sv} {w w1 : World} (h : IS gp S w S1 w1) (hb : w.heap.size ≤ b) (i : Nat) (u : Value) : IS gp S w S1 (w1.setCell ⟨b, i, none⟩ u) :=
  ⟨h.os, h.tape, h.output, by show _ ≤ (w1.heap.modify _ _).size; simp; exact h.size, fun k hk hn hg => (Below.heap_setCell w1 ⟨b, i, none⟩ u k (by show k ≠ b; omega)).trans (h.block k hk hn hg), h.sub⟩
theorem IS.scratch {gp b : Nat} {S S1 : Sv} {w w1 : World} (h : IS gp S w S1 w1) (hb : w.heap.size ≤ b) (x0 x1 x2 x3 : Value) : IS gp S w S1 ((((w1.setCell ⟨b, 0, none⟩ x0).setCell ⟨b, 1, none⟩ x1).setCell ⟨b, 2, none⟩ x2).setCell ⟨b, 3, none⟩ x3) :=
  (((h.new hb _ _).new hb _ _).new hb _ _).new hb _ _
theorem alloc_keep {w : World} {b : Nat} {o o' : Obj} (h : w.heap[b]? = some o) : (w.alloc o').heap[b]? = some o := (Below.heap_alloc w o' b (Array.getElem?_eq_some_iff.1 h).1).trans h
theorem IS.alloc {gp : Nat} {S S1 : Sv} {w w1 : World} (h : IS gp S w S1 w1) (o : Obj) : IS gp S w S1 (w1.alloc o) := h.trans (IS.below ((Below.refl _ _).alloc (Nat.le_refl _) _))
def Pan (p : Nat) : Ending := .panicked [{ v := .iface 55 (.int .i64 p), recovered := false }]
def IOut (C : Cx) (gt cap base gp : Nat) {α : Type} (y : Except Nat α) (st : α → PS) (v : α → Value) (S : Sv) (w : World) (e : Ending) (w' : World) : Prop :=
  match y with
  | .ok a => e = .returned (v a) ∧ ∃ S', IM C gt cap base gp S' (st a) w' ∧ IS gp S w S' w'
  | .error p => e = Pan p ∧ Below base w w'
end Go.Proofs.YticdggnnpjachaaGreat
