/-
  A row of tokens in memory, and appending one. No program is spoken of.
-/
import Derived.Test.YtkplighmefigcaaLexMath
import Derived.Test.YtkplighmefigcaaApp
namespace Go.Proofs.Ytkplighmefigcaa
open Go.RowKit Go.PlainAid

def tkL (t : Tk) : List Value := [.int .i64 t.kind, .string t.text, .int .i64 t.num, .int .i64 t.pos]
def OwnT (w : World) (base : Nat) (e : TypeId) (g n cap : Nat) (ts : List Tk) : Prop := w.ownsRow base e 4 (.slice (some ⟨g, 0, none⟩) n cap) n (ts.flatMap tkL) ∧ n = ts.length
theorem ownT_len {w : World} {base g n cap : Nat} {e : TypeId} {ts : List Tk} (h : OwnT w base e g n cap ts) : n = ts.length := h.2
theorem ownT_lt {w : World} {base g n cap : Nat} {e : TypeId} {ts : List Tk} (h : OwnT w base e g n cap ts) : g < w.heap.size ∧ base ≤ g ∧ n ≤ cap := by
  rcases h.1.2 with ⟨h', _⟩ | ⟨g', cap', cur, h', hb, hg, hn, _⟩
  · simp at h'
  · simp only [Value.slice.injEq, Option.some.injEq, Addr.mk.injEq, and_true, true_and] at h'
    obtain ⟨rfl, rfl⟩ := h'
    exact ⟨(Array.getElem?_eq_some_iff.1 hg).1, hb, hn⟩
theorem ownT_later {w W : World} {base g n cap : Nat} {e : TypeId} {ts : List Tk} (h : OwnT w base e g n cap ts) (hb : Below w.heap.size w W) : OwnT W base e g n cap ts := by
  have hlt := (ownT_lt h).1
  refine ⟨⟨h.1.1, ?_⟩, h.2⟩
  rcases h.1.2 with k | ⟨g', cap', cur, hv, hbase, hg, hr⟩
  · exact .inl k
  · simp only [Value.slice.injEq, Option.some.injEq, Addr.mk.injEq, and_true, true_and] at hv
    obtain ⟨rfl, rfl⟩ := hv
    exact .inr ⟨g, cap, cur, rfl, hbase, (hb.block g hlt).trans hg, hr⟩
theorem ownT_nil (w : World) (e : TypeId) (base : Nat) (hb : base ≤ w.heap.size) : OwnT (w.alloc (.cells #[] e)) base e w.heap.size 0 0 [] :=
  ⟨World.ownsRow_lit w #[] 0 hb (by unfold maxLen; omega) rfl, rfl⟩
theorem app_tok {P : Program} (w : World) {ops : Array Oper} {rest : List Oper} {o : Oper} {a : Act} {Q : Exit → Act → World → Prop} (hgd : o.guard = none) (s x : Operand) (t : TypeId)
    (ho : o.op = .call { callee := .builtin .append, args := #[s, x], argTypes := #[t, t] })
    (base : Nat) (e : TypeId) (i : TypeInfo) (z : Value) (ht : P.underlying t = some (.slice e)) (hi : P.info? e = some i) (hz : i.zero = some z) (hsize : i.size = 4) (hby : i.bytes = 40) (hzs : z.cells.size = 4)
    (g n cap : Nat) (ts : List Tk) (hs : a.eval s = .slice (some ⟨g, 0, none⟩) n cap) (hown : OwnT w base e g n cap ts)
    (b : Tk) (gx : Nat) (hgx : gx = w.heap.size) (hx : a.eval x = .slice (some ⟨gx, 0, none⟩) 1 1) (hn : n + 1 ≤ 1000000) (hbase : base ≤ w.heap.size)
    (h : ∀ g' cap' w', OwnT w' base e g' (n + 1) cap' (ts ++ [b]) → Below base w w' → wpList P ops Q rest (a.put o.dst (.slice (some ⟨g', 0, none⟩) (n + 1) cap')) w') :
    wpList P ops Q (o :: rest) a (w.alloc (.cells #[.int .i64 b.kind, .string b.text, .int .i64 b.num, .int .i64 b.pos] e)) := by
  subst hgx
  refine wpList_append_own _ hgd s x t ho base e i z 4 40 ht hi hz hsize hby hzs (by decide) _ n _ hs (hown.1.alloc _) ⟨w.heap.size, 0, none⟩ 1 1 (tkL b) hx rfl ?_ ?_ ?_ ?_ ?_ ?_
  · intro j u hj
    match j, hj with
    | 0, hj => simp [tkL] at hj; subst hj; simp [Addr.add]
    | 1, hj => simp [tkL] at hj; subst hj; simp [Addr.add]
    | 2, hj => simp [tkL] at hj; subst hj; simp [Addr.add]
    | 3, hj => simp [tkL] at hj; subst hj; simp [Addr.add]
    | j + 4, hj => simp [tkL] at hj
  · intro u hu
    simp [tkL] at hu
    rcases hu with rfl | rfl | rfl | rfl <;> rfl
  · unfold maxLen; omega
  · omega
  · simp; omega
  · intro v' w' h1 h2 h3
    have hb : Below base w w' := ((Below.refl base w).alloc hbase _).grown h2 (by simp; omega) (own_block_ge hown.1)
    rcases h1.2 with ⟨hv, _⟩ | ⟨g', cap', cur, rfl, hrest⟩
    · have := (h3.1 hv).1
      simp at this
    · refine h g' cap' w' ⟨?_, by rw [List.length_append]; have := hown.2; simp; omega⟩ hb
      rw [List.flatMap_append]
      simpa using h1
end Go.Proofs.Ytkplighmefigcaa
