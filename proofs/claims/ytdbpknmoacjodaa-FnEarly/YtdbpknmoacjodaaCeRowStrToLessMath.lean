/-
  Rows of texts of the call's own, one beside another; whether a text is in a row. No program is spoken of.
  A text put into a row that rises, as a plain function. No program is spoken of.
  What is used, as plain functions. No program is spoken of.
  The order of texts. No program is spoken of.
-/
import Derived.Test.YtdbpknmoacjodaaCeCleanMathToUpMath
import Derived.Test.YtdbpknmoacjodaaCeImplParseJToOddMath
namespace Go.Proofs.Ytdbpknmoacjodaa
open Go.RowKit Go.PlainAid

theorem ownS_blk {w : World} {base g n cap : Nat} {e : TypeId} {xs : List ByteArray} (h : OwnS w base e g n cap xs) : base ≤ g ∧ g < w.heap.size := by
  rcases h.1.2 with ⟨h', _⟩ | ⟨g', cap', cur, h', hb, hg, _⟩
  · simp at h'
  · simp only [Value.slice.injEq, Option.some.injEq, Addr.mk.injEq, and_true, true_and] at h'
    obtain ⟨rfl, rfl⟩ := h'
    exact ⟨hb, (Array.getElem?_eq_some_iff.1 hg).1⟩
theorem ownS_keep {w W : World} {base g n cap : Nat} {e : TypeId} {xs : List ByteArray} (h : OwnS w base e g n cap xs) (hk : W.heap[g]? = w.heap[g]?) : OwnS W base e g n cap xs := by
  refine ⟨⟨h.1.1, ?_⟩, h.2⟩
  rcases h.1.2 with ⟨h', _⟩ | ⟨g', cap', cur, h', hbs, hg, hr⟩
  · simp at h'
  · simp only [Value.slice.injEq, Option.some.injEq, Addr.mk.injEq, and_true, true_and] at h'
    obtain ⟨rfl, rfl⟩ := h'
    exact .inr ⟨g, cap, cur, rfl, hbs, hk.trans hg, hr⟩
theorem ownS_low {w : World} {base b g n cap : Nat} {e : TypeId} {xs : List ByteArray} (h : OwnS w base e g n cap xs) (hb : b ≤ base) : OwnS w b e g n cap xs := by
  refine ⟨⟨h.1.1, ?_⟩, h.2⟩
  rcases h.1.2 with ⟨h', _⟩ | ⟨g', cap', cur, h', hbs, hg, hr⟩
  · simp at h'
  · exact .inr ⟨g', cap', cur, h', Nat.le_trans hb hbs, hg, hr⟩
theorem app_strG {P : Program} (w : World) {ops : Array Oper} {rest : List Oper} {o : Oper} {a : Act} {Q : Exit → Act → World → Prop} (hgd : o.guard = none) (s x : Operand) (t : TypeId)
    (ho : o.op = .call { callee := .builtin .append, args := #[s, x], argTypes := #[t, t] })
    (base : Nat) (e : TypeId) (i : TypeInfo) (z : Value) (ht : P.underlying t = some (.slice e)) (hi : P.info? e = some i) (hz : i.zero = some z) (hsize : i.size = 1) (hby : i.bytes = 16) (hzs : z.cells.size = 1)
    (g n cap : Nat) (xs : List ByteArray) (hs : a.eval s = .slice (some ⟨g, 0, none⟩) n cap) (hown : OwnS w base e g n cap xs)
    (b : ByteArray) (hx : a.eval x = .slice (some ⟨w.heap.size, 0, none⟩) 1 1) (hn : n + 1 ≤ 100000000)
    (h : ∀ g' cap' w', OwnS w' base e g' (n + 1) cap' (xs ++ [b]) → w.grownBy w' (some g) → (g' = g ∨ w.heap.size < g') → wpList P ops Q rest (a.put o.dst (.slice (some ⟨g', 0, none⟩) (n + 1) cap')) w') :
    wpList P ops Q (o :: rest) a (w.alloc (.cells #[.string b] e)) := by
  obtain ⟨hb0, hb1⟩ := ownS_blk hown
  refine wpList_append_own_at _ hgd s x t ho base e i z 1 16 ht hi hz hsize hby hzs (by decide) _ n _ hs (hown.1.alloc _) ⟨w.heap.size, 0, none⟩ 1 1 [.string b] hx rfl ?_ ?_ ?_ ?_ ?_ ?_
  · intro j u hj
    match j, hj with
    | 0, hj =>
      simp at hj
      subst hj
      simp [Addr.add]
  · intro u hu
    simp at hu
    subst hu
    rfl
  · unfold maxLen; omega
  · omega
  · simp; omega
  · intro v' w' k1 k2 k3 k4
    rcases k1.2 with ⟨hv, hn0⟩ | ⟨g', cap', cur, rfl, hrest⟩
    · omega
    · refine h g' cap' w' ⟨by rw [List.map_append]; exact k1, by rw [List.length_append]; have := hown.2; simp; omega⟩ ?_ ?_
      · have k2' : (w.alloc (.cells #[.string b] e)).grownBy w' (some g) := k2
        have hsz : (w.alloc (.cells #[.string b] e)).heap.size = w.heap.size + 1 := by show (w.heap.push _).size = _; simp
        exact ⟨k2'.os, k2'.tape, k2'.output, by have := k2'.size; omega, fun k hk hne => (k2'.block k (by omega) hne).trans (heap_alloc_old w _ hk)⟩
      · have k4' : some g' = some g ∨ some g' = some (w.alloc (.cells #[.string b] e)).heap.size := k4
        rcases k4' with k | k
        · exact .inl (Option.some.inj k)
        · right
          have := Option.some.inj k
          rw [this]
          show w.heap.size < (w.heap.push _).size
          simp
def inT (l : List ByteArray) (s : ByteArray) : Bool := l.any fun y => y.toList == s.toList
theorem inT_yes {l : List ByteArray} {s : ByteArray} {j : Nat} {x : ByteArray} (hx : l[j]? = some x) (h : (x.toList == s.toList) = true) : inT l s = true := List.any_eq_true.2 ⟨x, List.mem_of_getElem? hx, h⟩
theorem inT_no {l : List ByteArray} {s : ByteArray} (h : ∀ (j : Nat) (x : ByteArray), l[j]? = some x → (x.toList == s.toList) = false) : inT l s = false := by
  unfold inT
  rw [List.any_eq_false]
  intro x hx
  obtain ⟨j, hj, rfl⟩ := List.getElem_of_mem hx
  rw [h j _ (List.getElem?_eq_getElem hj)]
  decide
end Go.Proofs.Ytdbpknmoacjodaa
namespace Go.Proofs.Ytdbpknmoacjodaa
open Go.RowKit Go.PlainAid

def lessT (s x : ByteArray) : Bool := Op.bytesLess s.toList x.toList
def insT (s : ByteArray) : List ByteArray → List ByteArray
  | [] => [s]
  | x :: l => if lessT s x then s :: x :: l else x :: insT s l
def putT (l : List ByteArray) (s : ByteArray) : List ByteArray := if inT l s then l else insT s l
theorem insT_none {s : ByteArray} (l : List ByteArray) (h : ∀ x ∈ l, lessT s x = false) : insT s l = l ++ [s] := by
  induction l with
  | nil => rfl
  | cons x l ih => rw [insT, h x (by simp), ih fun y hy => h y (by simp [hy])]; rfl
theorem insT_more {s y : ByteArray} (l : List ByteArray) (h : ∃ x ∈ l, lessT s x = true) : insT s (l ++ [y]) = insT s l ++ [y] := by
  induction l with
  | nil => obtain ⟨x, hx, _⟩ := h; cases hx
  | cons x l ih =>
    rw [List.cons_append, insT, insT]
    split
    · rfl
    · next hn =>
      rw [ih, List.cons_append]
      obtain ⟨z, hz, hl⟩ := h
      rcases List.mem_cons.1 hz with rfl | hz
      · exact absurd hl hn
      · exact ⟨z, hz, hl⟩
theorem insT_here {s y : ByteArray} (l : List ByteArray) (h : ∀ x ∈ l, lessT s x = false) (hy : lessT s y = true) : insT s (l ++ [y]) = l ++ [s] ++ [y] := by
  induction l with
  | nil => rw [List.nil_append, insT, if_pos hy]; rfl
  | cons x l ih => rw [List.cons_append, insT, h x (by simp), ih fun z hz => h z (by simp [hz])]; rfl
theorem insT_len (s : ByteArray) (l : List ByteArray) : (insT s l).length = l.length + 1 := by
  induction l with
  | nil => rfl
  | cons x l ih =>
    rw [insT]
    split
    · simp
    · rw [List.length_cons, ih, List.length_cons]
theorem putT_len (l : List ByteArray) (s : ByteArray) : (putT l s).length ≤ l.length + 1 := by
  unfold putT
  split
  · omega
  · rw [insT_len]; exact Nat.le_refl _
def underT (s : ByteArray) (b : Bool) (l : List ByteArray) : List ByteArray := if b then insT s l else l
def PutAt (s : ByteArray) (b : Bool) (l : List ByteArray) : Prop := if b then ∃ x ∈ l, lessT s x = true else ∀ x ∈ l, lessT s x = false
theorem put_was {s y : ByteArray} {l : List ByteArray} (h : PutAt s true l) : underT s true (l ++ [y]) = underT s true l ++ [y] ∧ PutAt s true (l ++ [y]) := by
  obtain ⟨x, hx, hl⟩ := h
  exact ⟨insT_more l ⟨x, hx, hl⟩, x, List.mem_append_left _ hx, hl⟩
theorem put_now {s y : ByteArray} {l : List ByteArray} (h : PutAt s false l) (hy : lessT s y = true) : underT s true (l ++ [y]) = underT s false l ++ [s] ++ [y] ∧ PutAt s true (l ++ [y]) := ⟨insT_here l h hy, y, by simp, hy⟩
theorem put_not {s y : ByteArray} {l : List ByteArray} (h : PutAt s false l) (hy : lessT s y = false) : underT s false (l ++ [y]) = underT s false l ++ [y] ∧ PutAt s false (l ++ [y]) := by
  refine ⟨rfl, fun x hx => ?_⟩
  rcases List.mem_append.1 hx with hx | hx
  · exact h x hx
  · rw [List.mem_singleton] at hx
    rw [hx]
    exact hy
theorem put_end {s : ByteArray} {l : List ByteArray} (h : PutAt s false l) : insT s l = underT s false l ++ [s] := insT_none l h
end Go.Proofs.Ytdbpknmoacjodaa
namespace Go.Proofs.Ytdbpknmoacjodaa
open Go.RowKit Go.PlainAid

def namedB (k : Int) : Bool := k == 2 || k == 3 || k == 4 || k == 5
def putIf {α : Type} (p : α → Bool) (f : α → ByteArray) (l : List α) (acc : List ByteArray) : List ByteArray := l.foldl (fun acc x => if p x = true then putT acc (f x) else acc) acc
theorem putIf_nil {α : Type} (p : α → Bool) (f : α → ByteArray) (acc : List ByteArray) : putIf p f [] acc = acc := rfl
theorem putIf_snoc {α : Type} {p : α → Bool} {f : α → ByteArray} {l : List α} {j : Nat} {x : α} (h : l[j]? = some x) (acc : List ByteArray) : putIf p f (l.take (j + 1)) acc = if p x = true then putT (putIf p f (l.take j) acc) (f x) else putIf p f (l.take j) acc := by
  obtain ⟨hj, rfl⟩ := List.getElem?_eq_some_iff.1 h
  rw [putIf, List.take_succ_eq_append_getElem hj, List.foldl_append]
  rfl
theorem putIf_len {α : Type} (p : α → Bool) (f : α → ByteArray) (l : List α) : ∀ acc : List ByteArray, (putIf p f l acc).length ≤ acc.length + l.length := by
  induction l with
  | nil => intro acc; exact Nat.le_refl _
  | cons x l ih =>
    intro acc
    show (putIf p f l (if p x = true then putT acc (f x) else acc)).length ≤ _
    refine Nat.le_trans (ih _) ?_
    rw [List.length_cons]
    split
    · have := putT_len acc (f x); omega
    · omega
def useEx (m : Md) : List ByteArray := putIf (fun x => namedB x.kind) (fun x => x.name) m.ex []
def useSt (m : Md) : List ByteArray := putIf (fun x => x.kind == 3) (fun x => x.name) m.st (useEx m)
def useAll (m : Md) : List ByteArray := putIf (fun x => x.kind == 1) (fun x => x.loc) m.ep (useSt m)
def unusedL (m : Md) : List ByteArray := putIf (fun x => !inT (useAll m) x.loc) (fun x => x.loc) m.im []
def trimMd (m : Md) : Md := { m with im := m.im.filter fun x => !inT (unusedL m) x.loc }
theorem use_len (m : Md) : (useAll m).length ≤ m.ex.length + m.st.length + m.ep.length := by
  have a := putIf_len (fun x : Ex => namedB x.kind) (fun x => x.name) m.ex []
  have b := putIf_len (fun x : Sm => x.kind == 3) (fun x => x.name) m.st (useEx m)
  have c := putIf_len (fun x : Ep => x.kind == 1) (fun x => x.loc) m.ep (useSt m)
  have e1 : (useEx m).length ≤ 0 + m.ex.length := a
  have e2 : (useSt m).length ≤ (useEx m).length + m.st.length := b
  have e3 : (useAll m).length ≤ (useSt m).length + m.ep.length := c
  omega
theorem unused_len (m : Md) : (unusedL m).length ≤ m.im.length := by
  have a := putIf_len (fun x : Im => !inT (useAll m) x.loc) (fun x => x.loc) m.im []
  have e : (unusedL m).length ≤ 0 + m.im.length := a
  omega
def frEx (m : Md) : List ByteArray := putIf (fun x => (x.kind == 2 || x.kind == 3) && !inT (declS m) x.name) (fun x => x.name) m.ex []
def freeL (m : Md) : List ByteArray := putIf (fun x => x.kind == 3 && !inT (declS m) x.name) (fun x => x.name) m.st (frEx m)
theorem free_len (m : Md) : (freeL m).length ≤ m.ex.length + m.st.length := by
  have a := putIf_len (fun x : Ex => (x.kind == 2 || x.kind == 3) && !inT (declS m) x.name) (fun x => x.name) m.ex []
  have b := putIf_len (fun x : Sm => x.kind == 3 && !inT (declS m) x.name) (fun x => x.name) m.st (frEx m)
  have e1 : (frEx m).length ≤ 0 + m.ex.length := a
  have e2 : (freeL m).length ≤ (frEx m).length + m.st.length := b
  omega
theorem take_onD {α : Type} {l : List α} {j : Nat} {x : α} (h : l[j]? = some x) : l.take (j + 1) = l.take j ++ [x] := by
  obtain ⟨hj, rfl⟩ := List.getElem?_eq_some_iff.1 h
  exact List.take_succ_eq_append_getElem hj
theorem stN_next {l : List Sm} {j : Nat} {x : Sm} (h : l[j]? = some x) : stN (l.take (j + 1)) = if decB x = true then stN (l.take j) ++ [x.name] else stN (l.take j) := by
  rw [take_onD h, stN, stN, List.filter_append]
  cases hd : decB x <;> simp [hd]
theorem stN_len (l : List Sm) : (stN l).length ≤ l.length := by rw [stN, List.length_map]; exact List.length_filter_le _ _
theorem fil_next {α : Type} (p : α → Bool) {l : List α} {j : Nat} {x : α} (h : l[j]? = some x) : (l.take (j + 1)).filter p = if p x = true then (l.take j).filter p ++ [x] else (l.take j).filter p := by
  rw [take_onD h, List.filter_append]
  cases hd : p x <;> simp [hd]
theorem imN_next {l : List Im} {j : Nat} {x : Im} (ns : List ByteArray) (h : l[j]? = some x) : ns ++ imN (l.take (j + 1)) = ns ++ imN (l.take j) ++ [x.loc] := by
  rw [take_onD h, imN, imN, List.map_append, List.append_assoc]
  rfl
end Go.Proofs.Ytdbpknmoacjodaa
namespace Go.Proofs.Ytdbpknmoacjodaa
open Go.RowKit Go.PlainAid

theorem less_trans : ∀ a b c : List UInt8, Op.bytesLess a b = true → Op.bytesLess b c = true → Op.bytesLess a c = true := by
  intro a
  induction a with
  | nil => intro b c h1 h2; cases b with
    | nil => simp [Op.bytesLess] at h1
    | cons y b => cases c with
      | nil => simp [Op.bytesLess] at h2
      | cons z c => rfl
  | cons x a ih =>
    intro b c h1 h2
    cases b with
    | nil => simp [Op.bytesLess] at h1
    | cons y b => cases c with
      | nil => simp [Op.bytesLess] at h2
      | cons z c =>
        simp only [Op.bytesLess, Bool.or_eq_true, Bool.and_eq_true, decide_eq_true_eq, beq_iff_eq] at h1 h2 ⊢
        rcases h1 with h1 | ⟨rfl, h1⟩
        · rcases h2 with h2 | ⟨rfl, h2⟩
          · exact .inl (UInt8.lt_trans h1 h2)
          · exact .inl h1
        · rcases h2 with h2 | ⟨rfl, h2⟩
          · exact .inl h2
          · exact .inr ⟨rfl, ih b c h1 h2⟩
theorem less_irr : ∀ a : List UInt8, Op.bytesLess a a = false := by
  intro a
  induction a with
  | nil => rfl
  | cons x a ih => simp [Op.bytesLess, ih]
theorem less_ne {a b : ByteArray} (h : Op.bytesLess a.toList b.toList = true) : a ≠ b := by
  rintro rfl
  rw [less_irr] at h
  cases h
theorem ris_of {P : Nat → ByteArray} {len : Nat} (h : ∀ k, 0 < k → k < len → Op.bytesLess (P (k - 1)).toList (P k).toList = true) : ∀ i j, i < j → j < len → Op.bytesLess (P i).toList (P j).toList = true := by
  intro i j
  induction j with
  | zero => intro h1; omega
  | succ j ih =>
    intro h1 h2
    have h3 := h (j + 1) (by omega) h2
    rw [Nat.add_sub_cancel] at h3
    rcases Nat.lt_or_ge i j with g | g
    · exact less_trans _ _ _ (ih g (by omega)) h3
    · have : i = j := by omega
      subst this
      exact h3
theorem less_pre : ∀ a b : List UInt8, Op.bytesLess (a ++ b) a = false := by
  intro a b
  induction a with
  | nil => cases b <;> rfl
  | cons x a ih => simp [Op.bytesLess, ih]
end Go.Proofs.Ytdbpknmoacjodaa
