/-
  Programs in boxes. No program is spoken of but for the numbers of its types.
-/
import Derived.Test.YtdbpknmoacjodaaCfImplParseJToMdMem
namespace Go.Proofs.Ytdbpknmoacjodaa
open Go.RowKit Go.PlainAid Go.Sort

def boxD (S : Sv) (m : Md) : Obj := .cells #[.slice S.rq.a m.rq.length S.rq.cap, .slice S.im.a m.im.length S.im.cap, .slice S.ep.a m.ep.length S.ep.cap, .slice S.st.a m.st.length S.st.cap, .slice S.ex.a m.ex.length S.ex.cap] 37
def box0 : Obj := .cells #[.slice none 0 0, .slice none 0 0, .slice none 0 0, .slice none 0 0, .slice none 0 0] 37
theorem below_al {w w' : World} {o : Obj} (h : Below (w.alloc o).heap.size (w.alloc o) w') : Below w.heap.size w w' := ((Below.refl _ _).alloc (Nat.le_refl _) _).trans (h.mono (by rw [alloc_size]; omega))
theorem blk_later {w w' : World} {k : Nat} {o : Obj} (h : w.heap[k]? = some o) (hb : Below w.heap.size w w') : w'.heap[k]? = some o := (hb.block k (Array.getElem?_eq_some_iff.1 h).1).trans h
end Go.Proofs.Ytdbpknmoacjodaa
