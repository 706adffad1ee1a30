/-
  A text has at most 4000 tokens. No program is spoken of.
-/
import Derived.Test.YtcmpakdfebeklaaLexMath
namespace Go.Proofs.Ytcmpakdfebeklaa
open Go.RowKit Go.PlainAid

theorem lx_len {s : ByteArray} {scr : Bool} {a n : Nat} {r : Except Nat (List Tk)} (h : Lx s scr a n r) : ∀ ts, r = .ok ts → n ≤ 4000 → ts.length + n ≤ 4000 := by
  induction h using Lx.ind with
  | done => intro ts hr hn; cases hr; simpa using hn
  | bad _ _ => intro ts hr hn; cases hr
  | @tok a n e b t r h hn ht hs hr ih =>
    intro ts hts _
    cases r with
    | error p => simp [Except.map] at hts
    | ok l =>
      simp only [Except.map, Except.ok.injEq] at hts
      subst hts
      have := ih l rfl (by omega)
      simp only [List.length_cons]
      omega
theorem lexR_len {s : ByteArray} {scr : Bool} {ts : List Tk} (h : LexR s scr (.ok ts)) : ts.length ≤ 4000 := by
  obtain ⟨a, _, hl⟩ := h
  have := lx_len hl ts rfl (by omega)
  omega
end Go.Proofs.Ytcmpakdfebeklaa
