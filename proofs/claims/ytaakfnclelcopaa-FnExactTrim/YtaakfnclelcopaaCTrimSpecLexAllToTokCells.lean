/-
  What spec.Lex answers: the walk.
  The cells of a token that lies in a row. No program is spoken of.
-/
import Derived.Test.YtaakfnclelcopaaCTrimSpecLex
import Derived.Test.YtaakfnclelcopaaCTrimTokMem
namespace Go.Proofs.Ytaakfnclelcopaa
open Go.RowKit Go.PlainAid

theorem lex_error {s : ByteArray} {scr : Bool} {k n : Nat} {ts : List Tk} (h : ∀ r, Lx s scr k n r → LexR s scr (r.map (ts ++ ·))) (hk : k < s.size) (hb : 4000 ≤ n ∨ ∀ t e, ¬ Tok s scr k t e) : LexR s scr (.error k) := h _ (.bad hk hb)
theorem lex_done {s : ByteArray} {scr : Bool} {k n : Nat} {ts : List Tk} (h : ∀ r, Lx s scr k n r → LexR s scr (r.map (ts ++ ·))) (hk : k = s.size) : LexR s scr (.ok ts) := by
  subst hk
  have := h _ .done
  simpa [Except.map] using this
theorem lex_next {s : ByteArray} {scr : Bool} {k n e b : Nat} {t : Tk} {ts : List Tk} (h : ∀ r, Lx s scr k n r → LexR s scr (r.map (ts ++ ·))) (hk : k < s.size) (hn : n < 4000) (ht : Tok s scr k t e) (hs : Skip s e b) :
    ∀ r, Lx s scr b (n + 1) r → LexR s scr (r.map ((ts ++ [t]) ++ ·)) := by
  intro r hr
  have := h _ (.tok hk hn ht hs hr)
  cases r <;> simpa [Except.map] using this

theorem ownT_nil2 {w : World} {o : Obj} {e : TypeId} {base : Nat} (hb : base ≤ w.heap.size) : OwnT ((w.alloc o).alloc (.cells #[] e)) base e (w.heap.size + 1) 0 0 [] := by
  have := ownT_nil (w.alloc o) e base (by rw [alloc_size]; omega)
  rw [alloc_size] at this
  exact this

end Go.Proofs.Ytaakfnclelcopaa
namespace Go.Proofs.Ytaakfnclelcopaa
open Go.RowKit Go.PlainAid

theorem OwnT.cells {w : World} {base g n cap : Nat} {e : TypeId} {ts : List Tk} (h : OwnT w base e g n cap ts) {j : Nat} (hj : j < n) {d : Tk} :
    w.cell? ⟨g, j * 4, none⟩ = some (.int .i64 (ts.getD j d).kind) ∧ w.cell? ⟨g, j * 4 + 1, none⟩ = some (.string (ts.getD j d).text) ∧ w.cell? ⟨g, j * 4 + 2, none⟩ = some (.int .i64 (ts.getD j d).num) ∧ w.cell? ⟨g, j * 4 + 3, none⟩ = some (.int .i64 (ts.getD j d).pos) := by
  have hl := h.2
  have key : ∀ (l : List Tk) (i c : Nat), c < 4 → i < l.length → (l.flatMap tkL)[i * 4 + c]? = (tkL (l.getD i d))[c]? := by
    intro l
    induction l with
    | nil => intro i c _ hi; simp at hi
    | cons x l ih =>
      intro i c hc hi
      match i with
      | 0 =>
        simp only [List.flatMap_cons, Nat.zero_mul, Nat.zero_add, List.getD_cons_zero]
        rw [List.getElem?_append_left (by simp [tkL]; omega)]
      | i + 1 =>
        simp only [List.flatMap_cons, List.getD_cons_succ]
        rw [List.getElem?_append_right (by simp [tkL]; omega)]
        have : (i + 1) * 4 + c - (tkL x).length = i * 4 + c := by simp [tkL]; omega
        rw [this]
        exact ih i c hc (by simpa using hi)
  have c0 := key ts j 0 (by omega) (by omega)
  have c1 := key ts j 1 (by omega) (by omega)
  have c2 := key ts j 2 (by omega) (by omega)
  have c3 := key ts j 3 (by omega) (by omega)
  rw [h.1.cellAt _ (by omega), h.1.cellAt _ (by omega), h.1.cellAt _ (by omega), h.1.cellAt _ (by omega)]
  exact ⟨c0, c1, c2, c3⟩
end Go.Proofs.Ytaakfnclelcopaa
