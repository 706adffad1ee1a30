/-
  Rows of the call's own, of elements of any make: grown, kept, marked. No program is spoken of.
-/
import Derived.Test.YtdbpknmoacjodaaCfAidToBytes
import Derived.Laws.OwnMore
namespace Go.Proofs.Ytdbpknmoacjodaa
open Go.RowKit Go.PlainAid

structure Enc (α : Type) where
  f : α → List Value
  m : Nat
  len : ∀ x, (f x).length = m
  pos : 0 < m
  one : ∀ x, ∀ v ∈ f x, v.oneCell' = true
def OwnE {α : Type} (E : Enc α) (w : World) (base : Nat) (e : TypeId) (g n cap : Nat) (l : List α) : Prop := w.ownsRow base e E.m (.slice (some ⟨g, 0, none⟩) n cap) n (l.flatMap E.f) ∧ n = l.length
theorem flatE_len {α : Type} (E : Enc α) (l : List α) : (l.flatMap E.f).length = l.length * E.m := by
  induction l with
  | nil => simp
  | cons x l ih => rw [List.flatMap_cons, List.length_append, ih, E.len, List.length_cons, Nat.succ_mul]; omega
theorem flatE_at {α : Type} (E : Enc α) (l : List α) {j i : Nat} {x : α} {v : Value} (h : l[j]? = some x) (hv : (E.f x)[i]? = some v) : (l.flatMap E.f)[j * E.m + i]? = some v := flat_at E.len l j x i v h hv
theorem OwnE.blk {α : Type} {E : Enc α} {w : World} {base g n cap : Nat} {e : TypeId} {l : List α} (h : OwnE E w base e g n cap l) : base ≤ g ∧ g < w.heap.size := by
  rcases h.1.2 with ⟨h', _⟩ | ⟨g', cap', cur, h', hb, hg, _⟩
  · simp at h'
  · simp only [Value.slice.injEq, Option.some.injEq, Addr.mk.injEq, and_true, true_and] at h'
    obtain ⟨rfl, rfl⟩ := h'
    exact ⟨hb, (Array.getElem?_eq_some_iff.1 hg).1⟩
theorem OwnE.cap {α : Type} {E : Enc α} {w : World} {base g n cap : Nat} {e : TypeId} {l : List α} (h : OwnE E w base e g n cap l) : n ≤ cap := by
  rcases h.1.2 with ⟨h', _⟩ | ⟨g', cap', cur, h', _, _, hc, _⟩
  · simp at h'
  · simp only [Value.slice.injEq, Option.some.injEq, Addr.mk.injEq, and_true, true_and] at h'
    obtain ⟨_, rfl⟩ := h'
    exact hc
theorem OwnE.keep {α : Type} {E : Enc α} {w W : World} {base g n cap : Nat} {e : TypeId} {l : List α} (h : OwnE E w base e g n cap l) (hk : W.heap[g]? = w.heap[g]?) : OwnE E W base e g n cap l := by
  refine ⟨⟨h.1.1, ?_⟩, h.2⟩
  rcases h.1.2 with ⟨h', _⟩ | ⟨g', cap', cur, h', hbs, hg, hr⟩
  · simp at h'
  · simp only [Value.slice.injEq, Option.some.injEq, Addr.mk.injEq, and_true, true_and] at h'
    obtain ⟨rfl, rfl⟩ := h'
    exact .inr ⟨g, cap, cur, rfl, hbs, hk.trans hg, hr⟩
theorem OwnE.later {α : Type} {E : Enc α} {w W : World} {base g n cap : Nat} {e : TypeId} {l : List α} (h : OwnE E w base e g n cap l) (hb : Below w.heap.size w W) : OwnE E W base e g n cap l := h.keep (hb.block g h.blk.2)
theorem OwnE.low {α : Type} {E : Enc α} {w : World} {base b g n cap : Nat} {e : TypeId} {l : List α} (h : OwnE E w base e g n cap l) (hb : b ≤ base) : OwnE E w b e g n cap l := by
  refine ⟨⟨h.1.1, ?_⟩, h.2⟩
  rcases h.1.2 with ⟨h', _⟩ | ⟨g', cap', cur, h', hbs, hg, hr⟩
  · simp at h'
  · exact .inr ⟨g', cap', cur, h', Nat.le_trans hb hbs, hg, hr⟩
theorem OwnE.aside {α : Type} {E : Enc α} {w W : World} {base g n cap : Nat} {e : TypeId} {l : List α} {x : Option Nat} (h : OwnE E w base e g n cap l) (hg : w.grownBy W x) (hx : some g ≠ x) : OwnE E W base e g n cap l := h.keep (hg.block g h.blk.2 hx)
theorem OwnE.nil {α : Type} (E : Enc α) (w : World) (e : TypeId) : OwnE E (w.alloc (.cells #[] e)) w.heap.size e w.heap.size 0 0 [] := ⟨World.ownsRow_lit w #[] 0 (Nat.le_refl _) (by unfold maxLen; omega) (by simp), rfl⟩
theorem OwnE.row {α : Type} {E : Enc α} {w : World} {base g n cap : Nat} {e : TypeId} {l : List α} (h : OwnE E w base e g n cap l) : RowAt w (some ⟨g, 0, none⟩) E.f E.m l := by
  refine .inr ⟨g, 0, rfl, h.blk.2, fun j x hj i v hv => ?_⟩
  have hlj : j < l.length := (List.getElem?_eq_some_iff.1 hj).1
  have hi : i < E.m := by have := (List.getElem?_eq_some_iff.1 hv).1; rw [E.len] at this; exact this
  have hlt : j * E.m + i < n * E.m := by
    rw [h.2]
    have h1 : (j + 1) * E.m ≤ l.length * E.m := Nat.mul_le_mul_right _ hlj
    rw [Nat.succ_mul] at h1
    omega
  rw [Nat.zero_add, h.1.cellAt _ hlt]
  exact flatE_at E l hj hv
theorem addG_at (b o j : Nat) : (⟨b, o, none⟩ : Addr).add j = ⟨b, o + j, none⟩ := by simp [Addr.add]
theorem app_G {P : Program} {α : Type} (E : Enc α) (W : World) {ops : Array Oper} {rest : List Oper} {o : Oper} {a : Act} {Q : Exit → Act → World → Prop} (hgd : o.guard = none) (s x : Operand) (t : TypeId)
    (ho : o.op = .call { callee := .builtin .append, args := #[s, x], argTypes := #[t, t] })
    (base : Nat) (e : TypeId) (i : TypeInfo) (z : Value) (by' : Nat) (ht : P.underlying t = some (.slice e)) (hi : P.info? e = some i) (hz : i.zero = some z) (hsize : i.size = E.m) (hby : i.bytes = by') (hzs : z.cells.size = E.m) (hbb : by' ≤ 1024)
    (g n cap : Nat) (l : List α) (hs : a.eval s = .slice (some ⟨g, 0, none⟩) n cap) (hown : OwnE E W base e g n cap l)
    (gx : Nat) (b : α) (hx : a.eval x = .slice (some ⟨gx, 0, none⟩) 1 1) (hg : W.heap[gx]? = some (.cells (E.f b).toArray e (0, 0))) (hn : n + 1 ≤ 100000000)
    (h : ∀ g' cap' w', OwnE E w' base e g' (n + 1) cap' (l ++ [b]) → W.grownBy w' (some g) → (g' = g ∨ g' = W.heap.size) → wpList P ops Q rest (a.put o.dst (.slice (some ⟨g', 0, none⟩) (n + 1) cap')) w') :
    wpList P ops Q (o :: rest) a W := by
  have hbase : base ≤ W.heap.size := Nat.le_trans hown.blk.1 (Nat.le_of_lt hown.blk.2)
  refine wpList_append_own_at _ hgd s x t ho base e i z E.m by' ht hi hz hsize hby hzs E.pos _ n _ hs hown.1 ⟨gx, 0, none⟩ 1 1 (E.f b) hx (by rw [E.len, Nat.one_mul]) ?_ (E.one b) ?_ ?_ hbase ?_
  · intro j u hj
    rw [addG_at, Nat.zero_add]
    simp [World.cell?, hg, hj]
  · unfold maxLen; omega
  · exact Nat.le_trans (Nat.mul_le_mul hn hbb) (by decide)
  · intro v' w' k1 k2 k3 k4
    rcases k1.2 with ⟨hv, hn0⟩ | ⟨g', cap', cur, rfl, hrest⟩
    · omega
    · refine h g' cap' w' ⟨by rw [List.flatMap_append]; simpa using k1, by rw [List.length_append, ← hown.2]; rfl⟩ k2 ?_
      have k4' : some g' = some g ∨ some g' = some W.heap.size := k4
      rcases k4' with k | k
      · exact .inl (Option.some.inj k)
      · exact .inr (Option.some.inj k)
def OutE {α : Type} (E : Enc α) (e : TypeId) (w : World) (base : Nat) (a : Option Addr) (n cap : Nat) (l : List α) : Prop := n = l.length ∧ (0 < n → ∃ g, a = some ⟨g, 0, none⟩ ∧ OwnE E w base e g n cap l)
theorem OutE.own {α : Type} {E : Enc α} {e : TypeId} {w : World} {base g n cap : Nat} {l : List α} (h : OwnE E w base e g n cap l) : OutE E e w base (some ⟨g, 0, none⟩) n cap l := ⟨h.2, fun _ => ⟨g, rfl, h⟩⟩
theorem OutE.nil {α : Type} (E : Enc α) (e : TypeId) (w : World) (base : Nat) (a : Option Addr) (cap : Nat) : OutE E e w base a 0 cap [] := ⟨rfl, fun h => absurd h (Nat.lt_irrefl _)⟩
theorem OutE.later {α : Type} {E : Enc α} {e : TypeId} {w W : World} {base n cap : Nat} {a : Option Addr} {l : List α} (h : OutE E e w base a n cap l) (hb : Below w.heap.size w W) : OutE E e W base a n cap l :=
  ⟨h.1, fun k => by obtain ⟨g, e', h1⟩ := h.2 k; exact ⟨g, e', h1.later hb⟩⟩
theorem OutE.aside {α : Type} {E : Enc α} {e : TypeId} {w W : World} {base n cap x : Nat} {a : Option Addr} {l : List α} (h : OutE E e w base a n cap l) (hg : w.grownBy W (some x)) (hx : x < base) : OutE E e W base a n cap l :=
  ⟨h.1, fun k => by
    obtain ⟨g, e', h1⟩ := h.2 k
    exact ⟨g, e', h1.aside hg (fun e => by have := Option.some.inj e; have := h1.blk.1; omega)⟩⟩
theorem OutE.row {α : Type} {E : Enc α} {e : TypeId} {w : World} {base n cap : Nat} {a : Option Addr} {l : List α} (h : OutE E e w base a n cap l) : RowAt w a E.f E.m l := by
  rcases Nat.eq_zero_or_pos n with h0 | h0
  · exact .inl (List.length_eq_zero_iff.1 (by rw [← h.1]; exact h0))
  · obtain ⟨g, rfl, h1⟩ := h.2 h0
    exact h1.row
def OwnX (w : World) (base : Nat) (e : TypeId) (size g n cap : Nat) (mk : Nat → Value) (c : Nat) : Prop := ∃ xs, w.ownsRow base e size (.slice (some ⟨g, 0, none⟩) n cap) n xs ∧ ∀ i, i < c → xs[i]? = some (mk i)
theorem OwnX.start {w : World} {base size g n cap : Nat} {e : TypeId} {xs : List Value} (h : w.ownsRow base e size (.slice (some ⟨g, 0, none⟩) n cap) n xs) (mk : Nat → Value) : OwnX w base e size g n cap mk 0 := ⟨xs, h, fun i hi => absurd hi (Nat.not_lt_zero i)⟩
theorem OwnX.blk {w : World} {base size g n cap c : Nat} {mk : Nat → Value} {e : TypeId} (h : OwnX w base e size g n cap mk c) : base ≤ g ∧ g < w.heap.size := by
  obtain ⟨xs, h1, _⟩ := h
  rcases h1.2 with ⟨h', _⟩ | ⟨g', cap', cur, h', hb, hg, _⟩
  · simp at h'
  · simp only [Value.slice.injEq, Option.some.injEq, Addr.mk.injEq, and_true, true_and] at h'
    obtain ⟨rfl, rfl⟩ := h'
    exact ⟨hb, (Array.getElem?_eq_some_iff.1 hg).1⟩
theorem OwnX.keep {w W : World} {base size g n cap c : Nat} {mk : Nat → Value} {e : TypeId} (h : OwnX w base e size g n cap mk c) (hk : W.heap[g]? = w.heap[g]?) : OwnX W base e size g n cap mk c := by
  obtain ⟨xs, h1, h2⟩ := h
  refine ⟨xs, ⟨h1.1, ?_⟩, h2⟩
  rcases h1.2 with ⟨h', _⟩ | ⟨g', cap', cur, h', hbs, hg, hr⟩
  · simp at h'
  · simp only [Value.slice.injEq, Option.some.injEq, Addr.mk.injEq, and_true, true_and] at h'
    obtain ⟨rfl, rfl⟩ := h'
    exact .inr ⟨g, cap, cur, rfl, hbs, hk.trans hg, hr⟩
theorem OwnX.later {w W : World} {base size g n cap c : Nat} {mk : Nat → Value} {e : TypeId} (h : OwnX w base e size g n cap mk c) (hb : Below w.heap.size w W) : OwnX W base e size g n cap mk c := h.keep (hb.block g h.blk.2)
theorem OwnX.has {w : World} {base size g n cap c : Nat} {mk : Nat → Value} {e : TypeId} (h : OwnX w base e size g n cap mk c) (i : Nat) (hi : i < n * size) : ∃ v, w.cell? ⟨g, i, none⟩ = some v := by
  obtain ⟨xs, h1, _⟩ := h
  rw [h1.cellAt i hi]
  exact ⟨_, List.getElem?_eq_getElem (by rw [h1.1]; exact hi)⟩
theorem OwnX.cell {w : World} {base size g n cap c : Nat} {mk : Nat → Value} {e : TypeId} (h : OwnX w base e size g n cap mk c) (i : Nat) (hi : i < n * size) (hc : i < c) : w.cell? ⟨g, i, none⟩ = some (mk i) := by
  obtain ⟨xs, h1, h2⟩ := h
  rw [h1.cellAt i hi]
  exact h2 i hc
theorem OwnX.free {w : World} {base size g n cap c : Nat} {mk : Nat → Value} {e : TypeId} (h : OwnX w base e size g n cap mk c) (i : Nat) : w.frozen? ⟨g, i, none⟩ = false := by
  obtain ⟨xs, h1, _⟩ := h
  exact h1.frozenAt i
theorem OwnX.put {w : World} {base size g n cap c : Nat} {mk : Nat → Value} {e : TypeId} (h : OwnX w base e size g n cap mk c) (hc : c < n * size) : OwnX (w.setCell ⟨g, c, none⟩ (mk c)) base e size g n cap mk (c + 1) := by
  obtain ⟨xs, h1, h2⟩ := h
  have hl := h1.1
  refine ⟨xs.set c (mk c), (h1.stored c _).1, fun i hi => ?_⟩
  by_cases e : i = c
  · subst e
    exact List.getElem?_set_self (by omega)
  · rw [List.getElem?_set_ne (by omega)]
    exact h2 i (by omega)
theorem OwnX.full {α : Type} {E : Enc α} {w : World} {base g n : Nat} {e : TypeId} {l : List α} (h : OwnX w base e E.m g n n (fun i => (l.flatMap E.f).getD i undef) (n * E.m)) (hn : n = l.length) : OwnE E w base e g n n l := by
  obtain ⟨xs, h1, h2⟩ := h
  have hx : xs = l.flatMap E.f := by
    apply List.ext_getElem?
    intro i
    have hl := flatE_len E l
    rcases Nat.lt_or_ge i (n * E.m) with hi | hi
    · have hi2 : i < (l.flatMap E.f).length := by rw [hl, ← hn]; exact hi
      rw [h2 i hi]
      simp [List.getD, List.getElem?_eq_getElem hi2]
    · rw [List.getElem?_eq_none (by rw [h1.1]; exact hi), List.getElem?_eq_none (by rw [hl, ← hn]; exact hi)]
  rw [hx] at h1
  exact ⟨h1, hn⟩
theorem gx_refl (w : World) (b : Option Nat) : w.grownBy w b := ⟨rfl, rfl, rfl, Nat.le_refl _, fun _ _ _ => rfl⟩
theorem gx_trans {w w1 w2 : World} {b : Option Nat} (h : w.grownBy w1 b) (k : w1.grownBy w2 b) : w.grownBy w2 b :=
  ⟨k.os.trans h.os, k.tape.trans h.tape, k.output.trans h.output, Nat.le_trans h.size k.size, fun i hi hn => (k.block i (Nat.lt_of_lt_of_le hi h.size) hn).trans (h.block i hi hn)⟩
theorem gx_set {w w1 : World} {g i : Nat} {u : Value} (h : w.grownBy w1 (some g)) : w.grownBy (w1.setCell ⟨g, i, none⟩ u) (some g) :=
  gx_trans h ⟨rfl, rfl, rfl, by show _ ≤ (w1.heap.modify _ _).size; simp, fun k _ hn => Below.heap_setCell w1 ⟨g, i, none⟩ u k (fun e => hn (by rw [e]))⟩
end Go.Proofs.Ytdbpknmoacjodaa
