/-
  Rows that came in, and rows of the call's own that are filled cell by cell. No program is spoken of.
  What the laws count of a program, as plain functions. No program is spoken of.
-/
import Derived.Test.YtdbpknmoacjodaaCkImplParseJToMdMem
import Derived.Test.YtdbpknmoacjodaaCkRowBase
namespace Go.Proofs.Ytdbpknmoacjodaa
open Go.RowKit Go.PlainAid Go.Deep

theorem flat_lenC {α : Type} {f : α → List Value} {m : Nat} (hf : ∀ x, (f x).length = m) (l : List α) : (l.flatMap f).length = l.length * m := flat_len f m hf l

def OwnC (w : World) (base : Nat) (e : TypeId) (m g n : Nat) (cs : List Value) (c : Nat) : Prop :=
  ∃ xs, w.ownsRow base e m (.slice (some ⟨g, 0, none⟩) n n) n xs ∧ ∀ i, i < c → xs[i]? = cs[i]?
theorem OwnC.has {w : World} {base g n m c : Nat} {e : TypeId} {cs : List Value} (h : OwnC w base e m g n cs c) (j : Nat) (hj : j < n * m) : ∃ v, w.cell? ⟨g, j, none⟩ = some v := by
  obtain ⟨xs, h1, _⟩ := h
  have hl := h1.1
  rw [h1.cellAt j hj]
  exact ⟨_, List.getElem?_eq_getElem (by omega)⟩
theorem OwnC.free {w : World} {base g n m c : Nat} {e : TypeId} {cs : List Value} (h : OwnC w base e m g n cs c) (j : Nat) : w.frozen? ⟨g, j, none⟩ = false := by
  obtain ⟨xs, h1, _⟩ := h
  exact h1.frozenAt j
theorem OwnC.put {w : World} {base g n m c : Nat} {e : TypeId} {cs : List Value} (h : OwnC w base e m g n cs c) {v : Value} (hc : c < n * m) (hv : cs[c]? = some v) : OwnC (w.setCell ⟨g, c, none⟩ v) base e m g n cs (c + 1) := by
  obtain ⟨xs, h1, h2⟩ := h
  have hl := h1.1
  refine ⟨_, (h1.stored c v).1, fun j hj => ?_⟩
  by_cases e : j = c
  · rw [e, List.getElem?_set, if_pos rfl, if_pos (by omega), hv]
  · rw [List.getElem?_set, if_neg (by omega)]
    exact h2 j (by omega)
theorem OwnC.lt {w : World} {base g n m c : Nat} {e : TypeId} {cs : List Value} (h : OwnC w base e m g n cs c) : g < w.heap.size ∧ base ≤ g := by
  obtain ⟨xs, h1, _⟩ := h
  rcases h1.2 with ⟨h', _⟩ | ⟨g', cap', cur, h', hb, hg, _⟩
  · simp at h'
  · simp only [Value.slice.injEq, Option.some.injEq, Addr.mk.injEq, and_true, true_and] at h'
    obtain ⟨rfl, rfl⟩ := h'
    exact ⟨(Array.getElem?_eq_some_iff.1 hg).1, hb⟩
theorem OwnC.later {w w' : World} {base g n m c : Nat} {e : TypeId} {cs : List Value} (h : OwnC w base e m g n cs c) (hb : Below w.heap.size w w') : OwnC w' base e m g n cs c := by
  have hlt := h.lt.1
  obtain ⟨xs, h1, h2⟩ := h
  refine ⟨xs, ⟨h1.1, ?_⟩, h2⟩
  rcases h1.2 with k | ⟨g', cap', cur, hv, hbase, hg, hr⟩
  · exact .inl k
  · simp only [Value.slice.injEq, Option.some.injEq, Addr.mk.injEq, and_true, true_and] at hv
    obtain ⟨rfl, rfl⟩ := hv
    exact .inr ⟨g, n, cur, rfl, hbase, (hb.block g hlt).trans hg, hr⟩
theorem OwnC.all {w : World} {base g n m : Nat} {e : TypeId} {cs : List Value} (h : OwnC w base e m g n cs (n * m)) (hl : cs.length = n * m) : OwnR w base e m ⟨some ⟨g, 0, none⟩, n⟩ n cs := by
  obtain ⟨xs, h1, h2⟩ := h
  have hx : xs = cs := by
    apply List.ext_getElem?
    intro i
    by_cases hi : i < n * m
    · exact h2 i hi
    · have := h1.1
      rw [List.getElem?_eq_none (by omega), List.getElem?_eq_none (by omega)]
  rw [hx] at h1
  exact h1
def ToOut (w : World) (t : TypeId) (m n : Nat) (cs : List Value) (e : Ending) (w' : World) : Prop := ∃ g, e = .returned (.slice (some ⟨g, 0, none⟩) n n) ∧ OwnR w' w.heap.size t m ⟨some ⟨g, 0, none⟩, n⟩ n cs ∧ Below w.heap.size w w'

end Go.Proofs.Ytdbpknmoacjodaa
namespace Go.Proofs.Ytdbpknmoacjodaa
open Go.RowKit Go.PlainAid

def rowCost {α : Type} (c : α → Nat) (l : List α) : Nat := (l.map c).sum
theorem rowCost_succ {α : Type} (c : α → Nat) {l : List α} {j : Nat} {x : α} (h : l[j]? = some x) : rowCost c (l.take (j + 1)) = rowCost c (l.take j) + c x := by
  obtain ⟨hj, rfl⟩ := List.getElem?_eq_some_iff.1 h
  rw [List.take_succ_eq_append_getElem hj, rowCost, List.map_append, List.sum_append]
  simp [rowCost]
def costStr (x : ByteArray) : Nat := x.size
def costIm (x : Im) : Nat := x.spec.size + x.first.size + x.loc.size
def costEp (x : Ep) : Nat := x.name.size + x.loc.size + x.spec.size
def costSm (x : Sm) : Nat := x.name.size
def costEx (x : Ex) : Nat := x.name.size + x.field.size
def costM (m : Md) : Nat := (m.rq.length + rowCost costStr m.rq) + (m.im.length + rowCost costIm m.im) + (m.ep.length + rowCost costEp m.ep) + (m.st.length + rowCost costSm m.st) + (m.ex.length + rowCost costEx m.ex)
end Go.Proofs.Ytdbpknmoacjodaa
