/-
  Two small facts: a block more, and a fact laid by. No program is spoken of.
-/
import Derived.Test.YtkplighmefigcaaAid
namespace Go.Proofs.Ytkplighmefigcaa
open Go.RowKit Go.PlainAid

abbrev sNone : ByteArray := { data := #[] }
theorem alloc_size (w : World) (o : Obj) : (w.alloc o).heap.size = w.heap.size + 1 := by show (w.heap.push _).size = _; simp
theorem hidI {p : Prop} (h : p) : Hid p := h
theorem take_snoc {α : Type} {l : List α} {j : Nat} {x : α} (h : l[j]? = some x) : l.take (j + 1) = l.take j ++ [x] := by
  rw [List.take_add_one, h]
  rfl
end Go.Proofs.Ytkplighmefigcaa
