/-
  Rows of texts of the call's own, one beside another; whether a text is in a row. No program is spoken of.
  Two small facts: a block more, and a fact laid by. No program is spoken of.
  A text put into a row that rises, as a plain function. No program is spoken of.
-/
import Derived.Maps.AppendAt
import Derived.Test.YtdbpknmoacjodaaCfCleanMathToImgMath
namespace Go.Proofs.Ytdbpknmoacjodaa
open Go.RowKit Go.PlainAid

theorem ownS_blk {w : World} {base g n cap : Nat} {e : TypeId} {xs : List ByteArray} (h : OwnS w base e g n cap xs) : base ≤ g ∧ g < w.heap.size := by
  rcases h.1.2 with ⟨h', _⟩ | ⟨g', cap', cur, h', hb, hg, _⟩
  · simp at h'
  · simp only [Value.slice.injEq, Option.some.injEq, Addr.mk.injEq, and_true, true_and] at h'
    obtain ⟨rfl, rfl⟩ := h'
    exact ⟨hb, (Array.getElem?_eq_some_iff.1 hg).1⟩
theorem ownS_keep {w W : World} {base g n cap : Nat} {e : TypeId} {xs : List ByteArray} (h : OwnS w base e g n cap xs) (hk : W.heap[g]? = w.heap[g]?) : OwnS W base e g n cap xs := by
  refine ⟨⟨h.1.1, ?_⟩, h.2⟩
  rcases h.1.2 with ⟨h', _⟩ | ⟨g', cap', cur, h', hbs, hg, hr⟩
  · simp at h'
  · simp only [Value.slice.injEq, Option.some.injEq, Addr.mk.injEq, and_true, true_and] at h'
    obtain ⟨rfl, rfl⟩ := h'
    exact .inr ⟨g, cap, cur, rfl, hbs, hk.trans hg, hr⟩
theorem ownS_low {w : World} {base b g n cap : Nat} {e : TypeId} {xs : List ByteArray} (h : OwnS w base e g n cap xs) (hb : b ≤ base) : OwnS w b e g n cap xs := by
  refine ⟨⟨h.1.1, ?_⟩, h.2⟩
  rcases h.1.2 with ⟨h', _⟩ | ⟨g', cap', cur, h', hbs, hg, hr⟩
  · simp at h'
  · exact .inr ⟨g', cap', cur, h', Nat.le_trans hb hbs, hg, hr⟩
theorem app_strG {P : Program} (w : World) {ops : Array Oper} {rest : List Oper} {o : Oper} {a : Act} {Q : Exit → Act → World → Prop} (hgd : o.guard = none) (s x : Operand) (t : TypeId)
    (ho : o.op = .call { callee := .builtin .append, args := #[s, x], argTypes := #[t, t] })
    (base : Nat) (e : TypeId) (i : TypeInfo) (z : Value) (ht : P.underlying t = some (.slice e)) (hi : P.info? e = some i) (hz : i.zero = some z) (hsize : i.size = 1) (hby : i.bytes = 16) (hzs : z.cells.size = 1)
    (g n cap : Nat) (xs : List ByteArray) (hs : a.eval s = .slice (some ⟨g, 0, none⟩) n cap) (hown : OwnS w base e g n cap xs)
    (b : ByteArray) (hx : a.eval x = .slice (some ⟨w.heap.size, 0, none⟩) 1 1) (hn : n + 1 ≤ 100000000)
    (h : ∀ g' cap' w', OwnS w' base e g' (n + 1) cap' (xs ++ [b]) → w.grownBy w' (some g) → (g' = g ∨ w.heap.size < g') → wpList P ops Q rest (a.put o.dst (.slice (some ⟨g', 0, none⟩) (n + 1) cap')) w') :
    wpList P ops Q (o :: rest) a (w.alloc (.cells #[.string b] e)) := by
  obtain ⟨hb0, hb1⟩ := ownS_blk hown
  refine wpList_append_own_at _ hgd s x t ho base e i z 1 16 ht hi hz hsize hby hzs (by decide) _ n _ hs (hown.1.alloc _) ⟨w.heap.size, 0, none⟩ 1 1 [.string b] hx rfl ?_ ?_ ?_ ?_ ?_ ?_
  · intro j u hj
    match j, hj with
    | 0, hj =>
      simp at hj
      subst hj
      simp [Addr.add]
  · intro u hu
    simp at hu
    subst hu
    rfl
  · unfold maxLen; omega
  · omega
  · simp; omega
  · intro v' w' k1 k2 k3 k4
    rcases k1.2 with ⟨hv, hn0⟩ | ⟨g', cap', cur, rfl, hrest⟩
    · omega
    · refine h g' cap' w' ⟨by rw [List.map_append]; exact k1, by rw [List.length_append]; have := hown.2; simp; omega⟩ ?_ ?_
      · have k2' : (w.alloc (.cells #[.string b] e)).grownBy w' (some g) := k2
        have hsz : (w.alloc (.cells #[.string b] e)).heap.size = w.heap.size + 1 := by show (w.heap.push _).size = _; simp
        exact ⟨k2'.os, k2'.tape, k2'.output, by have := k2'.size; omega, fun k hk hne => (k2'.block k (by omega) hne).trans (heap_alloc_old w _ hk)⟩
      · have k4' : some g' = some g ∨ some g' = some (w.alloc (.cells #[.string b] e)).heap.size := k4
        rcases k4' with k | k
        · exact .inl (Option.some.inj k)
        · right
          have := Option.some.inj k
          rw [this]
          show w.heap.size < (w.heap.push _).size
          simp
def inT (l : List ByteArray) (s : ByteArray) : Bool := l.any fun y => y.toList == s.toList
theorem inT_yes {l : List ByteArray} {s : ByteArray} {j : Nat} {x : ByteArray} (hx : l[j]? = some x) (h : (x.toList == s.toList) = true) : inT l s = true := List.any_eq_true.2 ⟨x, List.mem_of_getElem? hx, h⟩
theorem inT_no {l : List ByteArray} {s : ByteArray} (h : ∀ (j : Nat) (x : ByteArray), l[j]? = some x → (x.toList == s.toList) = false) : inT l s = false := by
  unfold inT
  rw [List.any_eq_false]
  intro x hx
  obtain ⟨j, hj, rfl⟩ := List.getElem_of_mem hx
  rw [h j _ (List.getElem?_eq_getElem hj)]
  decide
end Go.Proofs.Ytdbpknmoacjodaa
namespace Go.Proofs.Ytdbpknmoacjodaa
open Go.RowKit Go.PlainAid

abbrev sNone : ByteArray := { data := #[] }
theorem alloc_size (w : World) (o : Obj) : (w.alloc o).heap.size = w.heap.size + 1 := by show (w.heap.push _).size = _; simp
theorem hidI {p : Prop} (h : p) : Hid p := h
theorem take_snoc {α : Type} {l : List α} {j : Nat} {x : α} (h : l[j]? = some x) : l.take (j + 1) = l.take j ++ [x] := by
  rw [List.take_add_one, h]
  rfl
end Go.Proofs.Ytdbpknmoacjodaa
namespace Go.Proofs.Ytdbpknmoacjodaa
open Go.RowKit Go.PlainAid

def lessT (s x : ByteArray) : Bool := Op.bytesLess s.toList x.toList
def insT (s : ByteArray) : List ByteArray → List ByteArray
  | [] => [s]
  | x :: l => if lessT s x then s :: x :: l else x :: insT s l
def putT (l : List ByteArray) (s : ByteArray) : List ByteArray := if inT l s then l else insT s l
theorem insT_none {s : ByteArray} (l : List ByteArray) (h : ∀ x ∈ l, lessT s x = false) : insT s l = l ++ [s] := by
  induction l with
  | nil => rfl
  | cons x l ih => rw [insT, h x (by simp), ih fun y hy => h y (by simp [hy])]; rfl
theorem insT_more {s y : ByteArray} (l : List ByteArray) (h : ∃ x ∈ l, lessT s x = true) : insT s (l ++ [y]) = insT s l ++ [y] := by
  induction l with
  | nil => obtain ⟨x, hx, _⟩ := h; cases hx
  | cons x l ih =>
    rw [List.cons_append, insT, insT]
    split
    · rfl
    · next hn =>
      rw [ih, List.cons_append]
      obtain ⟨z, hz, hl⟩ := h
      rcases List.mem_cons.1 hz with rfl | hz
      · exact absurd hl hn
      · exact ⟨z, hz, hl⟩
theorem insT_here {s y : ByteArray} (l : List ByteArray) (h : ∀ x ∈ l, lessT s x = false) (hy : lessT s y = true) : insT s (l ++ [y]) = l ++ [s] ++ [y] := by
  induction l with
  | nil => rw [List.nil_append, insT, if_pos hy]; rfl
  | cons x l ih => rw [List.cons_append, insT, h x (by simp), ih fun z hz => h z (by simp [hz])]; rfl
theorem insT_len (s : ByteArray) (l : List ByteArray) : (insT s l).length = l.length + 1 := by
  induction l with
  | nil => rfl
  | cons x l ih =>
    rw [insT]
    split
    · simp
    · rw [List.length_cons, ih, List.length_cons]
theorem putT_len (l : List ByteArray) (s : ByteArray) : (putT l s).length ≤ l.length + 1 := by
  unfold putT
  split
  · omega
  · rw [insT_len]; exact Nat.le_refl _
def underT (s : ByteArray) (b : Bool) (l : List ByteArray) : List ByteArray := if b then insT s l else l
def PutAt (s : ByteArray) (b : Bool) (l : List ByteArray) : Prop := if b then ∃ x ∈ l, lessT s x = true else ∀ x ∈ l, lessT s x = false
theorem put_was {s y : ByteArray} {l : List ByteArray} (h : PutAt s true l) : underT s true (l ++ [y]) = underT s true l ++ [y] ∧ PutAt s true (l ++ [y]) := by
  obtain ⟨x, hx, hl⟩ := h
  exact ⟨insT_more l ⟨x, hx, hl⟩, x, List.mem_append_left _ hx, hl⟩
theorem put_now {s y : ByteArray} {l : List ByteArray} (h : PutAt s false l) (hy : lessT s y = true) : underT s true (l ++ [y]) = underT s false l ++ [s] ++ [y] ∧ PutAt s true (l ++ [y]) := ⟨insT_here l h hy, y, by simp, hy⟩
theorem put_not {s y : ByteArray} {l : List ByteArray} (h : PutAt s false l) (hy : lessT s y = false) : underT s false (l ++ [y]) = underT s false l ++ [y] ∧ PutAt s false (l ++ [y]) := by
  refine ⟨rfl, fun x hx => ?_⟩
  rcases List.mem_append.1 hx with hx | hx
  · exact h x hx
  · rw [List.mem_singleton] at hx
    rw [hx]
    exact hy
theorem put_end {s : ByteArray} {l : List ByteArray} (h : PutAt s false l) : insT s l = underT s false l ++ [s] := insT_none l h
end Go.Proofs.Ytdbpknmoacjodaa
