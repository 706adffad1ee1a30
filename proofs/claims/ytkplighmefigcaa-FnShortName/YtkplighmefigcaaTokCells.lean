/-
  The cells of a token that lies in a row. No program is spoken of.
-/
import Derived.Test.YtkplighmefigcaaTokMem
namespace Go.Proofs.Ytkplighmefigcaa
open Go.RowKit Go.PlainAid

theorem OwnT.cells {w : World} {base g n cap : Nat} {e : TypeId} {ts : List Tk} (h : OwnT w base e g n cap ts) {j : Nat} (hj : j < n) {d : Tk} :
    w.cell? ⟨g, j * 4, none⟩ = some (.int .i64 (ts.getD j d).kind) ∧ w.cell? ⟨g, j * 4 + 1, none⟩ = some (.string (ts.getD j d).text) ∧ w.cell? ⟨g, j * 4 + 2, none⟩ = some (.int .i64 (ts.getD j d).num) ∧ w.cell? ⟨g, j * 4 + 3, none⟩ = some (.int .i64 (ts.getD j d).pos) := by
  have hl := h.2
  have key : ∀ (l : List Tk) (i c : Nat), c < 4 → i < l.length → (l.flatMap tkL)[i * 4 + c]? = (tkL (l.getD i d))[c]? := by
    intro l
    induction l with
    | nil => intro i c _ hi; simp at hi
    | cons x l ih =>
      intro i c hc hi
      match i with
      | 0 =>
        simp only [List.flatMap_cons, Nat.zero_mul, Nat.zero_add, List.getD_cons_zero]
        rw [List.getElem?_append_left (by simp [tkL]; omega)]
      | i + 1 =>
        simp only [List.flatMap_cons, List.getD_cons_succ]
        rw [List.getElem?_append_right (by simp [tkL]; omega)]
        have : (i + 1) * 4 + c - (tkL x).length = i * 4 + c := by simp [tkL]; omega
        rw [this]
        exact ih i c hc (by simpa using hi)
  have c0 := key ts j 0 (by omega) (by omega)
  have c1 := key ts j 1 (by omega) (by omega)
  have c2 := key ts j 2 (by omega) (by omega)
  have c3 := key ts j 3 (by omega) (by omega)
  rw [h.1.cellAt _ (by omega), h.1.cellAt _ (by omega), h.1.cellAt _ (by omega), h.1.cellAt _ (by omega)]
  exact ⟨c0, c1, c2, c3⟩
end Go.Proofs.Ytkplighmefigcaa
