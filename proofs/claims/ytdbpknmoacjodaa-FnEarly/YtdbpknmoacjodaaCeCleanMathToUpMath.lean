/-
  Paths, and what Clean makes of them, as plain functions; a row of texts in memory. No program is spoken of.
  The directories that a path is in, as a plain function. No program is spoken of.
-/
import Derived.Test.YtdbpknmoacjodaaCeApp
namespace Go.Proofs.Ytdbpknmoacjodaa
open Go.RowKit Go.PlainAid

abbrev okc (c : Int) : Prop := (97 ≤ c ∧ c ≤ 122) ∨ (48 ≤ c ∧ c ≤ 57) ∨ c = 46 ∨ c = 95 ∨ c = 45 ∨ c = 47
abbrev PathP (s : ByteArray) : Prop := 1 ≤ s.size ∧ s.size ≤ 40 ∧ bt s 0 = 47 ∧ ∀ j, j < s.size → okc (bt s j)
def pathB (s : ByteArray) : Bool := decide (PathP s)
theorem pathB_yes {s : ByteArray} (h : PathP s) : pathB s = true := decide_eq_true h
theorem pathB_no {s : ByteArray} (h : ¬ PathP s) : pathB s = false := decide_eq_false h
theorem pathB_iff {s : ByteArray} : pathB s = true ↔ PathP s := decide_eq_true_iff

def upd (p : ByteArray) (l : List ByteArray) : List ByteArray :=
  if p.toList.isEmpty = true ∨ (p.toList == [46]) = true then l else if (p.toList == [46, 46]) = false then l ++ [p] else l.dropLast
def clStep (s : ByteArray) (i : Nat) (st : Nat × List ByteArray) : Nat × List ByteArray :=
  if i < s.size ∧ bt s i ≠ 47 then st else (i + 1, upd (s.extract st.1 i) st.2)
def clTo (s : ByteArray) : Nat → Nat × List ByteArray
  | 0 => (0, [])
  | k + 1 => clStep s k (clTo s k)
theorem upd_len (p : ByteArray) (l : List ByteArray) : (upd p l).length ≤ l.length + 1 := by
  unfold upd
  split
  · omega
  · split
    · simp
    · simp; omega
theorem clTo_bd (s : ByteArray) (k : Nat) : (clTo s k).1 ≤ k ∧ (clTo s k).2.length ≤ k := by
  induction k with
  | zero => simp [clTo]
  | succ k ih =>
    have h := upd_len (s.extract (clTo s k).1 k) (clTo s k).2
    unfold clTo clStep
    split
    · omega
    · simp only; omega
theorem clTo_on {s : ByteArray} {k : Nat} (h1 : k < s.size) (h2 : bt s k ≠ 47) : clTo s (k + 1) = clTo s k := by rw [clTo, clStep, if_pos ⟨h1, h2⟩]
theorem clTo_part {s : ByteArray} {k : Nat} (h : ¬ (k < s.size ∧ bt s k ≠ 47)) : clTo s (k + 1) = (k + 1, upd (s.extract (clTo s k).1 k) (clTo s k).2) := by rw [clTo, clStep, if_neg h]
theorem upd_empty {p : ByteArray} {l : List ByteArray} (h : p.toList.isEmpty = true) : upd p l = l := by rw [upd, if_pos (.inl h)]
theorem upd_point {p : ByteArray} {l : List ByteArray} (h : (p.toList == [46]) = true) : upd p l = l := by rw [upd, if_pos (.inr h)]
theorem upd_name {p : ByteArray} {l : List ByteArray} (h0 : p.toList.isEmpty = false) (h1 : (p.toList == [46]) = false) (h2 : (p.toList == [46, 46]) = false) : upd p l = l ++ [p] := by
  rw [upd, if_neg (by rw [h0, h1]; simp), if_pos h2]
theorem upd_up {p : ByteArray} {l : List ByteArray} (h0 : p.toList.isEmpty = false) (h1 : (p.toList == [46]) = false) (h2 : (p.toList == [46, 46]) = true) : upd p l = l.dropLast := by
  rw [upd, if_neg (by rw [h0, h1]; simp), if_neg (by rw [h2]; simp)]
def parts (s : ByteArray) : List ByteArray := (clTo s (s.size + 1)).2
def joinTo (l : List ByteArray) : Nat → ByteArray
  | 0 => { data := #[] }
  | k + 1 => joinTo l k ++ { data := #[47] } ++ l.getD k { data := #[] }
def cleanS (s : ByteArray) : ByteArray := if pathB s then (if (parts s).length = 0 then { data := #[47] } else joinTo (parts s) (parts s).length) else { data := #[] }
theorem cleanS_no {s : ByteArray} (h : pathB s = false) : cleanS s = { data := #[] } := by rw [cleanS, h]; rfl
theorem cleanS_root {s : ByteArray} (h : pathB s = true) (hp : (parts s).length = 0) : cleanS s = { data := #[47] } := by rw [cleanS, h, if_pos rfl, if_pos hp]
theorem cleanS_yes {s : ByteArray} (h : pathB s = true) (hp : ¬ (parts s).length = 0) : cleanS s = joinTo (parts s) (parts s).length := by rw [cleanS, h, if_pos rfl, if_neg hp]
theorem upd_sizes (p : ByteArray) (l : List ByteArray) (B : Nat) (hp : p.size ≤ B) (hl : ∀ x ∈ l, x.size ≤ B) : ∀ x ∈ upd p l, x.size ≤ B := by
  intro x hx
  unfold upd at hx
  split at hx
  · exact hl x hx
  · split at hx
    · simp only [List.mem_append, List.mem_singleton] at hx
      rcases hx with hx | rfl
      · exact hl x hx
      · exact hp
    · exact hl x ((List.dropLast_sublist l).subset hx)
theorem clTo_sizes (s : ByteArray) (k : Nat) : ∀ x ∈ (clTo s k).2, x.size ≤ s.size := by
  induction k with
  | zero => simp [clTo]
  | succ k ih =>
    unfold clTo clStep
    split
    · exact ih
    · exact upd_sizes _ _ _ (by rw [ByteArray.size_extract]; omega) ih
theorem getD_size (s : ByteArray) (l : List ByteArray) (h : ∀ x ∈ l, x.size ≤ s.size) (k : Nat) : (l.getD k { data := #[] }).size ≤ s.size := by
  by_cases hk : k < l.length
  · have e : l.getD k { data := #[] } = l[k] := by simp [List.getD, List.getElem?_eq_getElem hk]
    rw [e]
    exact h _ (List.getElem_mem hk)
  · have e : l.getD k { data := #[] } = { data := #[] } := by simp [List.getD, List.getElem?_eq_none (Nat.le_of_not_lt hk)]
    rw [e]
    exact Nat.zero_le _
theorem joinTo_size (s : ByteArray) (l : List ByteArray) (h : ∀ x ∈ l, x.size ≤ s.size) (k : Nat) : (joinTo l k).size ≤ k * (s.size + 1) := by
  induction k with
  | zero => exact Nat.zero_le _
  | succ k ih =>
    have := getD_size s l h k
    rw [joinTo, ByteArray.size_append, ByteArray.size_append, Nat.succ_mul]
    have e : ({ data := #[47] } : ByteArray).size = 1 := rfl
    omega

def OwnS (w : World) (base : Nat) (e : TypeId) (g n cap : Nat) (xs : List ByteArray) : Prop := w.ownsRow base e 1 (.slice (some ⟨g, 0, none⟩) n cap) n (xs.map Value.string) ∧ n = xs.length
theorem ownS_len {w : World} {base g n cap : Nat} {e : TypeId} {xs : List ByteArray} (h : OwnS w base e g n cap xs) : n = xs.length := h.2
theorem ownS_cap {w : World} {base g n cap : Nat} {e : TypeId} {xs : List ByteArray} (h : OwnS w base e g n cap xs) : n ≤ cap ∧ cap ≤ 9223372036854775807 ∧ base ≤ g := by
  rcases h.1.2 with ⟨h', _⟩ | ⟨g', cap', cur, h', hb, _, hn, hm, _⟩
  · simp at h'
  · simp only [Value.slice.injEq, Option.some.injEq, Addr.mk.injEq, and_true, true_and] at h'
    obtain ⟨rfl, rfl⟩ := h'
    unfold maxLen at hm
    exact ⟨hn, by omega, hb⟩
theorem ownS_cell {w : World} {base g n cap : Nat} {e : TypeId} {xs : List ByteArray} (h : OwnS w base e g n cap xs) (j : Nat) (hj : j < n) : w.cell? ⟨g, j, none⟩ = some (.string (xs.getD j { data := #[] })) := by
  have hl := h.2
  rw [h.1.cellAt j (by omega)]
  simp [List.getD, List.getElem?_eq_getElem (show j < xs.length by omega)]
theorem ownS_pop {w : World} {base g n cap : Nat} {e : TypeId} {xs : List ByteArray} (h : OwnS w base e g (n + 1) cap xs) : OwnS w base e g n cap xs.dropLast := by
  obtain ⟨⟨hl, hc⟩, hn⟩ := h
  rw [List.length_map] at hl
  refine ⟨⟨by rw [List.length_map, List.length_dropLast]; omega, ?_⟩, by rw [List.length_dropLast]; omega⟩
  rcases hc with ⟨h', _⟩ | ⟨g', cap', cur, h', hb, hg, hnc, hm, hcs, ht⟩
  · simp at h'
  · simp only [Value.slice.injEq, Option.some.injEq, Addr.mk.injEq, and_true, true_and] at h'
    obtain ⟨rfl, rfl⟩ := h'
    refine .inr ⟨g, cap, cur, rfl, hb, hg, by omega, hm, hcs, ?_⟩
    rw [List.map_dropLast, ← ht, List.dropLast_eq_take, List.length_take, List.take_take]
    congr 1
    have : cur.toList.length = cap := by rw [Array.length_toList, hcs, Nat.mul_one]
    omega
theorem app_str {P : Program} (w : World) {ops : Array Oper} {rest : List Oper} {o : Oper} {a : Act} {Q : Exit → Act → World → Prop} (hgd : o.guard = none) (s x : Operand) (t : TypeId)
    (ho : o.op = .call { callee := .builtin .append, args := #[s, x], argTypes := #[t, t] })
    (base : Nat) (e : TypeId) (i : TypeInfo) (z : Value) (ht : P.underlying t = some (.slice e)) (hi : P.info? e = some i) (hz : i.zero = some z) (hsize : i.size = 1) (hby : i.bytes = 16) (hzs : z.cells.size = 1)
    (g n cap : Nat) (xs : List ByteArray) (hs : a.eval s = .slice (some ⟨g, 0, none⟩) n cap) (hown : OwnS w base e g n cap xs)
    (b : ByteArray) (hx : a.eval x = .slice (some ⟨w.heap.size, 0, none⟩) 1 1) (hn : n + 1 ≤ 100000000) (hbase : base ≤ w.heap.size)
    (h : ∀ g' cap' w', OwnS w' base e g' (n + 1) cap' (xs ++ [b]) → Below base w w' → wpList P ops Q rest (a.put o.dst (.slice (some ⟨g', 0, none⟩) (n + 1) cap')) w') :
    wpList P ops Q (o :: rest) a (w.alloc (.cells #[.string b] e)) := by
  refine wpList_append_own _ hgd s x t ho base e i z 1 16 ht hi hz hsize hby hzs (by decide) _ n _ hs (hown.1.alloc _) ⟨w.heap.size, 0, none⟩ 1 1 [.string b] hx rfl ?_ ?_ ?_ ?_ ?_ ?_
  · intro j u hj
    match j, hj with
    | 0, hj =>
      simp at hj
      subst hj
      simp [Addr.add]
  · intro u hu
    simp at hu
    subst hu
    rfl
  · unfold maxLen; omega
  · omega
  · simp; omega
  · intro v' w' h1 h2 h3
    have hb : Below base w w' := ((Below.refl base w).alloc hbase _).grown h2 (by simp; omega) (own_block_ge hown.1)
    rcases h1.2 with ⟨hv, _⟩ | ⟨g', cap', cur, rfl, hrest⟩
    · have := (h3.1 hv).1
      simp at this
    · refine h g' cap' w' ⟨?_, by rw [List.length_append]; have := hown.2; simp; omega⟩ hb
      rw [List.map_append]
      exact h1
theorem ownS_later {w W : World} {base g n cap : Nat} {e : TypeId} {xs : List ByteArray} (h : OwnS w base e g n cap xs) (hb : Below w.heap.size w W) : OwnS W base e g n cap xs := by
  refine ⟨⟨h.1.1, ?_⟩, h.2⟩
  rcases h.1.2 with k | ⟨g', cap', cur, hv, hbase, hg, hn, hm, hcs, ht⟩
  · exact .inl k
  · have hlt : g' < w.heap.size := by
      rcases Nat.lt_or_ge g' w.heap.size with k | k
      · exact k
      · rw [Array.getElem?_eq_none k] at hg
        cases hg
    exact .inr ⟨g', cap', cur, hv, hbase, (hb.block g' hlt).trans hg, hn, hm, hcs, ht⟩
def begB (a s : ByteArray) : Bool := decide (a.size ≤ s.size) && ((s.extract 0 a.size).toList == a.toList)
end Go.Proofs.Ytdbpknmoacjodaa
namespace Go.Proofs.Ytdbpknmoacjodaa
open Go.RowKit Go.PlainAid

def upTo (c : ByteArray) : Nat → List ByteArray
  | 0 => []
  | k + 1 => (if bt c (k + 1) = 47 then [c.extract 0 (k + 1)] else []) ++ upTo c k
def upC (c : ByteArray) : List ByteArray := upTo c (c.size - 1) ++ if 1 < c.size then [{ data := #[47] }] else []
def upL (p : ByteArray) : List ByteArray := upC (cleanS p)
theorem upTo_yes {c : ByteArray} {k : Nat} (h : bt c (k + 1) = 47) : upTo c (k + 1) = c.extract 0 (k + 1) :: upTo c k := by rw [upTo, if_pos h]; rfl
theorem upTo_no {c : ByteArray} {k : Nat} (h : bt c (k + 1) ≠ 47) : upTo c (k + 1) = upTo c k := by rw [upTo, if_neg h]; rfl
theorem upTo_len (c : ByteArray) (k : Nat) : (upTo c k).length ≤ k := by
  induction k with
  | zero => exact Nat.le_refl _
  | succ k ih =>
    rw [upTo, List.length_append]
    split
    · simp; omega
    · simp; omega
theorem world_anyU {P : Program} {code : Code} {Q : Exit → Act → World → Prop} {a : Act} {w0 : World} {R : World → Prop} (h0 : R w0) (h : ∀ W, R W → Code.wp P code Q a W) : Code.wp P code Q a w0 := h w0 h0
theorem hidU {p : Prop} (h : p) : Hid p := h
end Go.Proofs.Ytdbpknmoacjodaa
