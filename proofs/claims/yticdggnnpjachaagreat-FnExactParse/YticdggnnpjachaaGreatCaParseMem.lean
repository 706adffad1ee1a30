/-
  A program under way in memory: its six rows, what a step leaves as it was. No program is spoken of but for the numbers of its types.
-/
import Derived.Test.YticdggnnpjachaaGreatCaTokMem
import Derived.Maps.AppendAt
namespace Go.Proofs.YticdggnnpjachaaGreat
open Go.RowKit Go.PlainAid

def imL (x : Im) : List Value := [.string x.spec, .string x.first, .string x.loc]
def epL (x : Ep) : List Value := [.int .i64 x.kind, .string x.name, .string x.loc, .string x.spec]
def smL (x : Sm) : List Value := [.int .i64 x.kind, .string x.name, .int .i64 x.expr]
def exL (x : Ex) : List Value := [.int .i64 x.kind, .int .i64 x.num, .string x.name, .string x.field, .int .i64 x.l, .int .i64 x.r]
structure Rw where
  a : Option Addr
  cap : Nat
structure Sv where
  rq : Rw
  im : Rw
  ep : Rw
  st : Rw
  ex : Rw
  la : Rw
def Rw.blk (r : Rw) : Option Nat := (Value.slice r.a 0 r.cap).ownBlock
def Sv.has (S : Sv) (k : Nat) : Prop := S.rq.blk = some k ∨ S.im.blk = some k ∨ S.ep.blk = some k ∨ S.st.blk = some k ∨ S.ex.blk = some k ∨ S.la.blk = some k
def OwnR (w : World) (base : Nat) (e : TypeId) (size : Nat) (r : Rw) (n : Nat) (xs : List Value) : Prop := w.ownsRow base e size (.slice r.a n r.cap) n xs
theorem blk_any (r : Rw) (n : Nat) : (Value.slice r.a n r.cap).ownBlock = r.blk := by
  unfold Rw.blk Value.ownBlock
  cases r.a <;> rfl
structure Own (w : World) (base : Nat) (S : Sv) (q : PS) : Prop where
  rq : OwnR w base 9 1 S.rq q.rq.length (q.rq.map .string)
  im : OwnR w base 100 3 S.im q.im.length (q.im.flatMap imL)
  ep : OwnR w base 102 4 S.ep q.ep.length (q.ep.flatMap epL)
  st : OwnR w base 106 3 S.st q.st.length (q.st.flatMap smL)
  ex : OwnR w base 108 6 S.ex q.ex.length (q.ex.flatMap exL)
  la : OwnR w base 102 4 S.la q.la.length (q.la.flatMap epL)
  apart : ∀ k, S.ep.blk = some k → S.la.blk ≠ some k

theorem OwnR.typed {w : World} {base size n : Nat} {e : TypeId} {r : Rw} {xs : List Value} (h : OwnR w base e size r n xs) {k : Nat} (hk : r.blk = some k) : base ≤ k ∧ k < w.heap.size ∧ ∃ cur, w.heap[k]? = some (.cells cur e (0, 0)) := by
  rcases h.2 with ⟨hv, _⟩ | ⟨g, cap, cur, hv, hb, hg, _⟩
  · rw [← blk_any r n, hv] at hk
    simp [Value.ownBlock] at hk
  · rw [← blk_any r n, hv] at hk
    simp only [Value.ownBlock, Option.some.injEq] at hk
    subst hk
    exact ⟨hb, (Array.getElem?_eq_some_iff.1 hg).1, cur, hg⟩
theorem OwnR.ne {w : World} {b1 b2 s1 s2 n1 n2 : Nat} {e1 e2 : TypeId} {r1 r2 : Rw} {x1 x2 : List Value} (h1 : OwnR w b1 e1 s1 r1 n1 x1) (h2 : OwnR w b2 e2 s2 r2 n2 x2) (he : e1 ≠ e2) {k : Nat} (hk : r1.blk = some k) : r2.blk ≠ some k := by
  intro h
  obtain ⟨_, _, c1, g1⟩ := h1.typed hk
  obtain ⟨_, _, c2, g2⟩ := h2.typed h
  rw [g1] at g2
  simp only [Option.some.injEq, Obj.cells.injEq] at g2
  exact he g2.2.1
theorem OwnR.keep {w w' : World} {base size n : Nat} {e : TypeId} {r : Rw} {xs : List Value} (h : OwnR w base e size r n xs) (hk : ∀ k, r.blk = some k → w'.heap[k]? = w.heap[k]?) : OwnR w' base e size r n xs := by
  refine ⟨h.1, ?_⟩
  rcases h.2 with hv | ⟨g, cap, cur, hv, hb, hg, rest⟩
  · exact .inl hv
  · refine .inr ⟨g, cap, cur, hv, hb, ?_, rest⟩
    rw [hk g (by rw [← blk_any r n, hv]; rfl)]
    exact hg
theorem Own.keep {w w' : World} {base : Nat} {S : Sv} {q : PS} (h : Own w base S q) (hk : ∀ k, S.has k → w'.heap[k]? = w.heap[k]?) : Own w' base S q :=
  ⟨h.rq.keep fun k e => hk k (.inl e), h.im.keep fun k e => hk k (.inr (.inl e)), h.ep.keep fun k e => hk k (.inr (.inr (.inl e))), h.st.keep fun k e => hk k (.inr (.inr (.inr (.inl e)))),
    h.ex.keep fun k e => hk k (.inr (.inr (.inr (.inr (.inl e))))), h.la.keep fun k e => hk k (.inr (.inr (.inr (.inr (.inr e))))), h.apart⟩
theorem Own.has {w : World} {base : Nat} {S : Sv} {q : PS} (h : Own w base S q) {k : Nat} (hk : S.has k) : base ≤ k ∧ k < w.heap.size := by
  rcases hk with e | e | e | e | e | e
  · exact ⟨(h.rq.typed e).1, (h.rq.typed e).2.1⟩
  · exact ⟨(h.im.typed e).1, (h.im.typed e).2.1⟩
  · exact ⟨(h.ep.typed e).1, (h.ep.typed e).2.1⟩
  · exact ⟨(h.st.typed e).1, (h.st.typed e).2.1⟩
  · exact ⟨(h.ex.typed e).1, (h.ex.typed e).2.1⟩
  · exact ⟨(h.la.typed e).1, (h.la.typed e).2.1⟩
theorem Own.later {w w' : World} {base : Nat} {S : Sv} {q : PS} (h : Own w base S q) (hb : Below w.heap.size w w') : Own w' base S q := h.keep fun k e => hb.block k (h.has e).2
theorem Own.other {w : World} {base : Nat} {S : Sv} {q : PS} (h : Own w base S q) {k : Nat} {cur : Array Value} {e : TypeId} {z : Nat × Nat} (hg : w.heap[k]? = some (.cells cur e z)) (h1 : e ≠ 9) (h2 : e ≠ 100) (h3 : e ≠ 102) (h4 : e ≠ 106) (h5 : e ≠ 108) : ¬ S.has k := by
  rintro (g | g | g | g | g | g)
  · obtain ⟨_, _, c, e'⟩ := h.rq.typed g
    rw [hg] at e'
    simp only [Option.some.injEq, Obj.cells.injEq] at e'
    exact h1 e'.2.1
  · obtain ⟨_, _, c, e'⟩ := h.im.typed g
    rw [hg] at e'
    simp only [Option.some.injEq, Obj.cells.injEq] at e'
    exact h2 e'.2.1
  · obtain ⟨_, _, c, e'⟩ := h.ep.typed g
    rw [hg] at e'
    simp only [Option.some.injEq, Obj.cells.injEq] at e'
    exact h3 e'.2.1
  · obtain ⟨_, _, c, e'⟩ := h.st.typed g
    rw [hg] at e'
    simp only [Option.some.injEq, Obj.cells.injEq] at e'
    exact h4 e'.2.1
  · obtain ⟨_, _, c, e'⟩ := h.ex.typed g
    rw [hg] at e'
    simp only [Option.some.injEq, Obj.cells.injEq] at e'
    exact h5 e'.2.1
  · obtain ⟨_, _, c, e'⟩ := h.la.typed g
    rw [hg] at e'
    simp only [Option.some.injEq, Obj.cells.injEq] at e'
    exact h3 e'.2.1

structure Stp (S : Sv) (w : World) (S' : Sv) (w' : World) : Prop where
  os : w'.os = w.os
  tape : w'.tape = w.tape
  output : w'.output = w.output
  size : w.heap.size ≤ w'.heap.size
  block : ∀ k, k < w.heap.size → ¬ S.has k → w'.heap[k]? = w.heap[k]?
  sub : ∀ k, S'.has k → S.has k ∨ w.heap.size ≤ k
theorem Stp.refl (S : Sv) (w : World) : Stp S w S w := ⟨rfl, rfl, rfl, Nat.le_refl _, fun _ _ _ => rfl, fun _ h => .inl h⟩
theorem Stp.trans {S S1 S2 : Sv} {w w1 w2 : World} (h : Stp S w S1 w1) (k : Stp S1 w1 S2 w2) : Stp S w S2 w2 :=
  ⟨k.os.trans h.os, k.tape.trans h.tape, k.output.trans h.output, Nat.le_trans h.size k.size,
    fun i hi hn => (k.block i (Nat.lt_of_lt_of_le hi h.size) fun g => (h.sub i g).elim hn fun g' => by omega).trans (h.block i hi hn),
    fun i hi => (k.sub i hi).elim (h.sub i) fun g => .inr (Nat.le_trans h.size g)⟩
theorem Stp.below {S : Sv} {w w' : World} (h : Below w.heap.size w w') : Stp S w S w' := ⟨h.os, h.tape, h.output, h.size, fun k hk _ => h.block k hk, fun _ g => .inl g⟩
theorem Stp.under {S S' : Sv} {w w' : World} {base : Nat} {q : PS} (h : Stp S w S' w') (hb : base ≤ w.heap.size) (ho : Own w base S q) : Below base w w' :=
  ⟨h.os, h.tape, h.output, h.size, fun k hk => h.block k (by omega) fun g => by have := (ho.has g).1; omega⟩
theorem Stp.grown {S S' : Sv} {w w' : World} {row : Option Nat} (hg : w.grownBy w' row) (hr : ∀ k, row = some k → S.has k) (hs : ∀ k, S'.has k → S.has k ∨ w.heap.size ≤ k) : Stp S w S' w' :=
  ⟨hg.os, hg.tape, hg.output, hg.size, fun k hk hn => hg.block k hk fun e => hn (hr k e.symm), hs⟩
end Go.Proofs.YticdggnnpjachaaGreat
