/-
  What spec.PutFile answers: the walk.
-/
import Derived.Test.YtdbpknmoacjodaaCfNumbersMath
import Derived.Test.YtdbpknmoacjodaaCfDrawReadToSameFiles
import Derived.Deep.CutBlock
namespace Go.Proofs.Ytdbpknmoacjodaa
open Go.RowKit Go.PlainAid Go.Sort

structure PutW (w wr : World) (e : TypeId) (g n cap : Nat) (out : List Fl) (gx : Nat) (x : Fl) : Prop where
  out : OwnFl wr w.heap.size e g n cap out
  box : wr.heap[gx]? = some (.cells #[.string x.1, .string x.2] e (0, 0))
  ne : g ≠ gx
  bel : Below w.heap.size w wr
theorem PutW.later {w wr W : World} {e : TypeId} {g n cap gx : Nat} {out : List Fl} {x : Fl} (h : PutW w wr e g n cap out gx x) (hb : Below wr.heap.size wr W) : PutW w W e g n cap out gx x :=
  ⟨ownFl_later h.out hb, (hb.block gx (Array.getElem?_eq_some_iff.1 h.box).1).trans h.box, h.ne, h.bel.trans (hb.mono h.bel.size)⟩
theorem PutW.grow {w wr W : World} {e : TypeId} {g n cap gx g' cap' : Nat} {out ys : List Fl} {x : Fl} (h : PutW w wr e g n cap out gx x) (ho : OwnFl W w.heap.size e g' (n + 1) cap' ys) (k : wr.grownBy W (some g)) (hg : g' = g ∨ wr.heap.size < g') : PutW w W e g' (n + 1) cap' ys gx x := by
  have hx := (Array.getElem?_eq_some_iff.1 h.box).1
  refine ⟨ho, (k.block gx hx (fun e => h.ne (Option.some.inj e).symm)).trans h.box, ?_, h.bel.grown k h.bel.size (fun j hj => by cases hj; exact (ownFl_blk h.out).1)⟩
  rcases hg with rfl | hg
  · exact h.ne
  · omega
theorem PutW.cells {w wr : World} {e : TypeId} {g n cap gx : Nat} {out : List Fl} {x : Fl} (h : PutW w wr e g n cap out gx x) : wr.cell? ⟨gx, 0, none⟩ = some (.string x.1) ∧ wr.cell? ⟨gx, 1, none⟩ = some (.string x.2) ∧ gx < wr.heap.size := by
  refine ⟨?_, ?_, (Array.getElem?_eq_some_iff.1 h.box).1⟩
  · simp [World.cell?, h.box]
  · simp [World.cell?, h.box]
end Go.Proofs.Ytdbpknmoacjodaa
