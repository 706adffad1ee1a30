/-
  What a row of tokens shows, and that there are at most 4000. No program is spoken of.
-/
import Derived.Test.YtcmpakdfebeklaaLawTokB
import Derived.Test.YtcmpakdfebeklaaLexFew
namespace Go.Proofs.Ytcmpakdfebeklaa
open Go.RowKit Go.PlainAid

theorem flat_at (ts : List Tk) (j i : Nat) (hi : i < 4) (t : Tk) (h : ts[j]? = some t) : (ts.flatMap tkL)[j * 4 + i]? = (tkL t)[i]? := by
  induction ts generalizing j with
  | nil => simp at h
  | cons x r ih =>
    rw [List.flatMap_cons]
    have hl : (tkL x).length = 4 := rfl
    match j, h with
    | 0, h =>
      simp only [List.getElem?_cons_zero, Option.some.injEq] at h
      subst h
      rw [Nat.zero_mul, Nat.zero_add, List.getElem?_append_left (by omega)]
    | j + 1, h =>
      simp only [List.getElem?_cons_succ] at h
      rw [List.getElem?_append_right (by omega), show (j + 1) * 4 + i - (tkL x).length = j * 4 + i from by omega]
      exact ih j h
def tkNo : Tk := ⟨0, { data := #[] }, 0, 0⟩
theorem ownT_shows {w : World} {base g n cap : Nat} {e : TypeId} {ts : List Tk} (h : OwnT w base e g n cap ts) : TokAt w (some ⟨g, 0, none⟩) g n (fun j => ts.getD j tkNo) := by
  have hn := h.2
  have hat : ∀ j, j < n → ts[j]? = some (ts.getD j tkNo) := fun j hj => by simp [List.getD, List.getElem?_eq_getElem (show j < ts.length by omega)]
  refine ⟨fun _ => rfl, fun _ => (ownT_lt h).1, fun j hj => ?_, fun j hj => ?_, fun j hj => ?_, fun j hj => ?_⟩
  · have := flat_at ts j 0 (by omega) _ (hat j hj)
    rw [h.1.cellAt _ (by omega)]
    exact this
  · have := flat_at ts j 1 (by omega) _ (hat j hj)
    rw [h.1.cellAt _ (by omega)]
    exact this
  · have := flat_at ts j 2 (by omega) _ (hat j hj)
    rw [h.1.cellAt _ (by omega)]
    exact this
  · have := flat_at ts j 3 (by omega) _ (hat j hj)
    rw [h.1.cellAt _ (by omega)]
    exact this
theorem tokAt_none {w : World} {a : Option Addr} {g : Nat} {ts : Nat → Tk} : TokAt w a g 0 ts :=
  ⟨fun h => absurd h (Nat.lt_irrefl _), fun h => absurd h (Nat.lt_irrefl _), fun j h => absurd h (Nat.not_lt_zero j), fun j h => absurd h (Nat.not_lt_zero j), fun j h => absurd h (Nat.not_lt_zero j), fun j h => absurd h (Nat.not_lt_zero j)⟩
theorem TokAt.below {w w' : World} {a : Option Addr} {g n B : Nat} {ts : Nat → Tk} (h : TokAt w a g n ts) (hg : 0 < n → g < B) (hb : Below B w w') : TokAt w' a g n ts :=
  ⟨h.addr, fun k => Nat.lt_of_lt_of_le (h.lt k) hb.size, fun j hj => by rw [hb.cell (hg (by omega))]; exact h.c0 j hj, fun j hj => by rw [hb.cell (hg (by omega))]; exact h.c1 j hj,
    fun j hj => by rw [hb.cell (hg (by omega))]; exact h.c2 j hj, fun j hj => by rw [hb.cell (hg (by omega))]; exact h.c3 j hj⟩
theorem ownT_mark_later {w w' : World} {base g n cap : Nat} {e : TypeId} {ts : List Tk} (h : OwnT w base e g n cap ts) (hb : Below w.heap.size w w') : OwnM w' base e g n cap 0 := (ownT_later h hb).mark
end Go.Proofs.Ytcmpakdfebeklaa
