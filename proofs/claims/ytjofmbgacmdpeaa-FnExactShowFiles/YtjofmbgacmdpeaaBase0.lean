/-
  Two small facts: a block more, and a fact laid by. No program is spoken of.
-/
import Derived.Test.YtjofmbgacmdpeaaAid
namespace Go.Proofs.Ytjofmbgacmdpeaa
open Go.RowKit Go.PlainAid

theorem alloc_size (w : World) (o : Obj) : (w.alloc o).heap.size = w.heap.size + 1 := by show (w.heap.push _).size = _; simp
theorem hidI {p : Prop} (h : p) : Hid p := h
end Go.Proofs.Ytjofmbgacmdpeaa
