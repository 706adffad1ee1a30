/-
  What spec.l3Token and spec.Lex answer: the walks.
-/
import Derived.Test.YtaakfnclelcopaaCTrimSpecLexAToSpecLexC
import Derived.Laws.Rows
import Derived.Laws.ResultCell
namespace Go.Proofs.Ytaakfnclelcopaa
open Go.RowKit Go.PlainAid

theorem results_cell_row_tmp {P : Program} {fn : Func} {p u : Tmp} {ty : TypeId} (h : fn.results = #[.cell p ty, .tmp u]) (tmps : Array Value) (w : World) (g : Nat) (t : TypeId) (cs : Array Value) (fr : Nat × Nat) (d : TypeDesc)
    (hp : tmps.getD p undef = .pointer (some ⟨g, 0, none⟩)) (hg : w.heap[g]? = some (.cells cs t fr))
    (hu : P.underlying ty = some d) (hd : (match d with | .struct _ | .array _ _ => true | _ => false) = true) (hi : (P.info? ty).map (·.size) = some cs.size) :
    (results fn tmps).run P w = .ok (.tuple #[.agg cs, tmps.getD u undef]) w := by
  rw [results_cell_tmp h, hp]
  simp [asAddr, Result.andThen, run_loadVar_row w g t ty cs fr d hg hu hd hi]
def tkV (t : Tk) : Value := .agg #[.int .i64 t.kind, .string t.text, .int .i64 t.num, .int .i64 t.pos]
def TokOut (s : ByteArray) (scr : Bool) (a : Nat) (v : Value) (z : Int) : Prop :=
  (∃ (t : Tk) (n : Nat), v = tkV t ∧ z = n ∧ Tok s scr a t n) ∨ (z = -1 ∧ (∃ k x y u, v = .agg #[.int .i64 k, .string x, .int .i64 y, .int .i64 u]) ∧ ∀ t n, ¬ Tok s scr a t n)
theorem tokOut_no {s : ByteArray} {scr : Bool} {a : Nat} {k y u : Int} {x : ByteArray} (h : ∀ t n, ¬ Tok s scr a t n) : TokOut s scr a (.agg #[.int .i64 k, .string x, .int .i64 y, .int .i64 u]) (-1) := .inr ⟨rfl, ⟨k, x, y, u, rfl⟩, h⟩
theorem tok_no_num {s : ByteArray} {scr : Bool} {a : Nat} (hd : digB (bt s a) = true) (h : ∀ n e, ¬ NumAt s a scr n e) : ∀ t n, ¬ Tok s scr a t n := by
  intro t n ht
  cases ht using Tok.elim with
  | name h' _ => rw [(let_dig h').1] at hd; cases hd
  | num _ he => exact h _ _ he
  | str h' _ => exact (dig_str hd).1 h'
  | sign h' => exact (dig_str hd).2 h'
theorem tok_no_str {s : ByteArray} {scr : Bool} {a : Nat} (hd : bt s a = 34) (h : ∀ e, ¬ StrAt s a e) : ∀ t n, ¬ Tok s scr a t n := by
  intro t n ht
  cases ht using Tok.elim with
  | name h' _ => exact (let_dig h').2.1 hd
  | num h' _ => exact (dig_str h').1 hd
  | str _ he => exact h _ he
  | sign h' => rw [hd] at h'; unfold Sign at h'; omega
theorem tok_no {s : ByteArray} {scr : Bool} {a : Nat} (h1 : letB (bt s a) scr = false) (h2 : digB (bt s a) = false) (h3 : bt s a ≠ 34) (h4 : ¬ Sign (bt s a)) : ∀ t n, ¬ Tok s scr a t n := by
  intro t n ht
  cases ht using Tok.elim with
  | name h' _ => rw [h1] at h'; cases h'
  | num h' _ => rw [h2] at h'; cases h'
  | str h' _ => exact h3 h'
  | sign h' => exact h4 h'

end Go.Proofs.Ytaakfnclelcopaa
