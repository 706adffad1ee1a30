/-
  Paths, and what Clean makes of them, as plain functions; a row of texts in memory. No program is spoken of.
  A row of files in memory, each a path and a text, and when files are right: plain facts. No program is spoken of.
  Plain facts on numbers of seven bits a byte. No program is spoken of.
  The directories that a path is in, as a plain function. No program is spoken of.
  Files as one text, as plain functions. No program is spoken of.
-/
import Derived.Test.YtdbpknmoacjodaaCfApp
namespace Go.Proofs.Ytdbpknmoacjodaa
open Go.RowKit Go.PlainAid

abbrev okc (c : Int) : Prop := (97 ≤ c ∧ c ≤ 122) ∨ (48 ≤ c ∧ c ≤ 57) ∨ c = 46 ∨ c = 95 ∨ c = 45 ∨ c = 47
abbrev PathP (s : ByteArray) : Prop := 1 ≤ s.size ∧ s.size ≤ 40 ∧ bt s 0 = 47 ∧ ∀ j, j < s.size → okc (bt s j)
def pathB (s : ByteArray) : Bool := decide (PathP s)
theorem pathB_yes {s : ByteArray} (h : PathP s) : pathB s = true := decide_eq_true h
theorem pathB_no {s : ByteArray} (h : ¬ PathP s) : pathB s = false := decide_eq_false h
theorem pathB_iff {s : ByteArray} : pathB s = true ↔ PathP s := decide_eq_true_iff

def upd (p : ByteArray) (l : List ByteArray) : List ByteArray :=
  if p.toList.isEmpty = true ∨ (p.toList == [46]) = true then l else if (p.toList == [46, 46]) = false then l ++ [p] else l.dropLast
def clStep (s : ByteArray) (i : Nat) (st : Nat × List ByteArray) : Nat × List ByteArray :=
  if i < s.size ∧ bt s i ≠ 47 then st else (i + 1, upd (s.extract st.1 i) st.2)
def clTo (s : ByteArray) : Nat → Nat × List ByteArray
  | 0 => (0, [])
  | k + 1 => clStep s k (clTo s k)
theorem upd_len (p : ByteArray) (l : List ByteArray) : (upd p l).length ≤ l.length + 1 := by
  unfold upd
  split
  · omega
  · split
    · simp
    · simp; omega
theorem clTo_bd (s : ByteArray) (k : Nat) : (clTo s k).1 ≤ k ∧ (clTo s k).2.length ≤ k := by
  induction k with
  | zero => simp [clTo]
  | succ k ih =>
    have h := upd_len (s.extract (clTo s k).1 k) (clTo s k).2
    unfold clTo clStep
    split
    · omega
    · simp only; omega
theorem clTo_on {s : ByteArray} {k : Nat} (h1 : k < s.size) (h2 : bt s k ≠ 47) : clTo s (k + 1) = clTo s k := by rw [clTo, clStep, if_pos ⟨h1, h2⟩]
theorem clTo_part {s : ByteArray} {k : Nat} (h : ¬ (k < s.size ∧ bt s k ≠ 47)) : clTo s (k + 1) = (k + 1, upd (s.extract (clTo s k).1 k) (clTo s k).2) := by rw [clTo, clStep, if_neg h]
theorem upd_empty {p : ByteArray} {l : List ByteArray} (h : p.toList.isEmpty = true) : upd p l = l := by rw [upd, if_pos (.inl h)]
theorem upd_point {p : ByteArray} {l : List ByteArray} (h : (p.toList == [46]) = true) : upd p l = l := by rw [upd, if_pos (.inr h)]
theorem upd_name {p : ByteArray} {l : List ByteArray} (h0 : p.toList.isEmpty = false) (h1 : (p.toList == [46]) = false) (h2 : (p.toList == [46, 46]) = false) : upd p l = l ++ [p] := by
  rw [upd, if_neg (by rw [h0, h1]; simp), if_pos h2]
theorem upd_up {p : ByteArray} {l : List ByteArray} (h0 : p.toList.isEmpty = false) (h1 : (p.toList == [46]) = false) (h2 : (p.toList == [46, 46]) = true) : upd p l = l.dropLast := by
  rw [upd, if_neg (by rw [h0, h1]; simp), if_neg (by rw [h2]; simp)]
def parts (s : ByteArray) : List ByteArray := (clTo s (s.size + 1)).2
def joinTo (l : List ByteArray) : Nat → ByteArray
  | 0 => { data := #[] }
  | k + 1 => joinTo l k ++ { data := #[47] } ++ l.getD k { data := #[] }
def cleanS (s : ByteArray) : ByteArray := if pathB s then (if (parts s).length = 0 then { data := #[47] } else joinTo (parts s) (parts s).length) else { data := #[] }
theorem cleanS_no {s : ByteArray} (h : pathB s = false) : cleanS s = { data := #[] } := by rw [cleanS, h]; rfl
theorem cleanS_root {s : ByteArray} (h : pathB s = true) (hp : (parts s).length = 0) : cleanS s = { data := #[47] } := by rw [cleanS, h, if_pos rfl, if_pos hp]
theorem cleanS_yes {s : ByteArray} (h : pathB s = true) (hp : ¬ (parts s).length = 0) : cleanS s = joinTo (parts s) (parts s).length := by rw [cleanS, h, if_pos rfl, if_neg hp]
theorem upd_sizes (p : ByteArray) (l : List ByteArray) (B : Nat) (hp : p.size ≤ B) (hl : ∀ x ∈ l, x.size ≤ B) : ∀ x ∈ upd p l, x.size ≤ B := by
  intro x hx
  unfold upd at hx
  split at hx
  · exact hl x hx
  · split at hx
    · simp only [List.mem_append, List.mem_singleton] at hx
      rcases hx with hx | rfl
      · exact hl x hx
      · exact hp
    · exact hl x ((List.dropLast_sublist l).subset hx)
theorem clTo_sizes (s : ByteArray) (k : Nat) : ∀ x ∈ (clTo s k).2, x.size ≤ s.size := by
  induction k with
  | zero => simp [clTo]
  | succ k ih =>
    unfold clTo clStep
    split
    · exact ih
    · exact upd_sizes _ _ _ (by rw [ByteArray.size_extract]; omega) ih
theorem getD_size (s : ByteArray) (l : List ByteArray) (h : ∀ x ∈ l, x.size ≤ s.size) (k : Nat) : (l.getD k { data := #[] }).size ≤ s.size := by
  by_cases hk : k < l.length
  · have e : l.getD k { data := #[] } = l[k] := by simp [List.getD, List.getElem?_eq_getElem hk]
    rw [e]
    exact h _ (List.getElem_mem hk)
  · have e : l.getD k { data := #[] } = { data := #[] } := by simp [List.getD, List.getElem?_eq_none (Nat.le_of_not_lt hk)]
    rw [e]
    exact Nat.zero_le _
theorem joinTo_size (s : ByteArray) (l : List ByteArray) (h : ∀ x ∈ l, x.size ≤ s.size) (k : Nat) : (joinTo l k).size ≤ k * (s.size + 1) := by
  induction k with
  | zero => exact Nat.zero_le _
  | succ k ih =>
    have := getD_size s l h k
    rw [joinTo, ByteArray.size_append, ByteArray.size_append, Nat.succ_mul]
    have e : ({ data := #[47] } : ByteArray).size = 1 := rfl
    omega

def OwnS (w : World) (base : Nat) (e : TypeId) (g n cap : Nat) (xs : List ByteArray) : Prop := w.ownsRow base e 1 (.slice (some ⟨g, 0, none⟩) n cap) n (xs.map Value.string) ∧ n = xs.length
theorem ownS_len {w : World} {base g n cap : Nat} {e : TypeId} {xs : List ByteArray} (h : OwnS w base e g n cap xs) : n = xs.length := h.2
theorem ownS_cap {w : World} {base g n cap : Nat} {e : TypeId} {xs : List ByteArray} (h : OwnS w base e g n cap xs) : n ≤ cap ∧ cap ≤ 9223372036854775807 ∧ base ≤ g := by
  rcases h.1.2 with ⟨h', _⟩ | ⟨g', cap', cur, h', hb, _, hn, hm, _⟩
  · simp at h'
  · simp only [Value.slice.injEq, Option.some.injEq, Addr.mk.injEq, and_true, true_and] at h'
    obtain ⟨rfl, rfl⟩ := h'
    unfold maxLen at hm
    exact ⟨hn, by omega, hb⟩
theorem ownS_cell {w : World} {base g n cap : Nat} {e : TypeId} {xs : List ByteArray} (h : OwnS w base e g n cap xs) (j : Nat) (hj : j < n) : w.cell? ⟨g, j, none⟩ = some (.string (xs.getD j { data := #[] })) := by
  have hl := h.2
  rw [h.1.cellAt j (by omega)]
  simp [List.getD, List.getElem?_eq_getElem (show j < xs.length by omega)]
theorem ownS_pop {w : World} {base g n cap : Nat} {e : TypeId} {xs : List ByteArray} (h : OwnS w base e g (n + 1) cap xs) : OwnS w base e g n cap xs.dropLast := by
  obtain ⟨⟨hl, hc⟩, hn⟩ := h
  rw [List.length_map] at hl
  refine ⟨⟨by rw [List.length_map, List.length_dropLast]; omega, ?_⟩, by rw [List.length_dropLast]; omega⟩
  rcases hc with ⟨h', _⟩ | ⟨g', cap', cur, h', hb, hg, hnc, hm, hcs, ht⟩
  · simp at h'
  · simp only [Value.slice.injEq, Option.some.injEq, Addr.mk.injEq, and_true, true_and] at h'
    obtain ⟨rfl, rfl⟩ := h'
    refine .inr ⟨g, cap, cur, rfl, hb, hg, by omega, hm, hcs, ?_⟩
    rw [List.map_dropLast, ← ht, List.dropLast_eq_take, List.length_take, List.take_take]
    congr 1
    have : cur.toList.length = cap := by rw [Array.length_toList, hcs, Nat.mul_one]
    omega
theorem app_str {P : Program} (w : World) {ops : Array Oper} {rest : List Oper} {o : Oper} {a : Act} {Q : Exit → Act → World → Prop} (hgd : o.guard = none) (s x : Operand) (t : TypeId)
    (ho : o.op = .call { callee := .builtin .append, args := #[s, x], argTypes := #[t, t] })
    (base : Nat) (e : TypeId) (i : TypeInfo) (z : Value) (ht : P.underlying t = some (.slice e)) (hi : P.info? e = some i) (hz : i.zero = some z) (hsize : i.size = 1) (hby : i.bytes = 16) (hzs : z.cells.size = 1)
    (g n cap : Nat) (xs : List ByteArray) (hs : a.eval s = .slice (some ⟨g, 0, none⟩) n cap) (hown : OwnS w base e g n cap xs)
    (b : ByteArray) (hx : a.eval x = .slice (some ⟨w.heap.size, 0, none⟩) 1 1) (hn : n + 1 ≤ 100000000) (hbase : base ≤ w.heap.size)
    (h : ∀ g' cap' w', OwnS w' base e g' (n + 1) cap' (xs ++ [b]) → Below base w w' → wpList P ops Q rest (a.put o.dst (.slice (some ⟨g', 0, none⟩) (n + 1) cap')) w') :
    wpList P ops Q (o :: rest) a (w.alloc (.cells #[.string b] e)) := by
  refine wpList_append_own _ hgd s x t ho base e i z 1 16 ht hi hz hsize hby hzs (by decide) _ n _ hs (hown.1.alloc _) ⟨w.heap.size, 0, none⟩ 1 1 [.string b] hx rfl ?_ ?_ ?_ ?_ ?_ ?_
  · intro j u hj
    match j, hj with
    | 0, hj =>
      simp at hj
      subst hj
      simp [Addr.add]
  · intro u hu
    simp at hu
    subst hu
    rfl
  · unfold maxLen; omega
  · omega
  · simp; omega
  · intro v' w' h1 h2 h3
    have hb : Below base w w' := ((Below.refl base w).alloc hbase _).grown h2 (by simp; omega) (own_block_ge hown.1)
    rcases h1.2 with ⟨hv, _⟩ | ⟨g', cap', cur, rfl, hrest⟩
    · have := (h3.1 hv).1
      simp at this
    · refine h g' cap' w' ⟨?_, by rw [List.length_append]; have := hown.2; simp; omega⟩ hb
      rw [List.map_append]
      exact h1
theorem ownS_later {w W : World} {base g n cap : Nat} {e : TypeId} {xs : List ByteArray} (h : OwnS w base e g n cap xs) (hb : Below w.heap.size w W) : OwnS W base e g n cap xs := by
  refine ⟨⟨h.1.1, ?_⟩, h.2⟩
  rcases h.1.2 with k | ⟨g', cap', cur, hv, hbase, hg, hn, hm, hcs, ht⟩
  · exact .inl k
  · have hlt : g' < w.heap.size := by
      rcases Nat.lt_or_ge g' w.heap.size with k | k
      · exact k
      · rw [Array.getElem?_eq_none k] at hg
        cases hg
    exact .inr ⟨g', cap', cur, hv, hbase, (hb.block g' hlt).trans hg, hn, hm, hcs, ht⟩
def begB (a s : ByteArray) : Bool := decide (a.size ≤ s.size) && ((s.extract 0 a.size).toList == a.toList)
end Go.Proofs.Ytdbpknmoacjodaa
namespace Go.Proofs.Ytdbpknmoacjodaa
open Go.RowKit Go.PlainAid

structure FilesAt (w : World) (a : Option Addr) (b off len : Nat) (Pt Tx : Nat → ByteArray) : Prop where
  addr : 0 < len → a = some ⟨b, off, none⟩
  lt : 0 < len → b < w.heap.size
  path : ∀ j, j < len → w.cell? ⟨b, off + j * 2, none⟩ = some (.string (Pt j))
  text : ∀ j, j < len → w.cell? ⟨b, off + j * 2 + 1, none⟩ = some (.string (Tx j))
theorem FilesAt.later {w w' : World} {a : Option Addr} {b off len : Nat} {Pt Tx : Nat → ByteArray} (h : FilesAt w a b off len Pt Tx) (hb : Below w.heap.size w w') : FilesAt w' a b off len Pt Tx :=
  ⟨h.addr, fun k => Nat.lt_of_lt_of_le (h.lt k) hb.size, fun j hj => by rw [hb.cell (h.lt (by omega))]; exact h.path j hj, fun j hj => by rw [hb.cell (h.lt (by omega))]; exact h.text j hj⟩

def OwnF (w : World) (base : Nat) (e : TypeId) (g len k : Nat) (Pt Tx : Nat → ByteArray) : Prop :=
  ∃ xs, w.ownsRow base e 2 (.slice (some ⟨g, 0, none⟩) len len) len xs ∧ ∀ j, j < k → xs[j * 2]? = some (.string (Pt j)) ∧ xs[j * 2 + 1]? = some (.string (Tx j))
theorem OwnF.has {w : World} {base g len k : Nat} {e : TypeId} {Pt Tx : Nat → ByteArray} (h : OwnF w base e g len k Pt Tx) (j : Nat) (hj : j < len * 2) : ∃ v, w.cell? ⟨g, j, none⟩ = some v := by
  obtain ⟨xs, h1, _⟩ := h
  have hl := h1.1
  rw [h1.cellAt j hj]
  exact ⟨_, List.getElem?_eq_getElem (by omega)⟩
theorem OwnF.free {w : World} {base g len k : Nat} {e : TypeId} {Pt Tx : Nat → ByteArray} (h : OwnF w base e g len k Pt Tx) (j : Nat) : w.frozen? ⟨g, j, none⟩ = false := by
  obtain ⟨xs, h1, _⟩ := h
  exact h1.frozenAt j
theorem OwnF.fill {w : World} {base g len k : Nat} {e : TypeId} {Pt Tx : Nat → ByteArray} (h : OwnF w base e g len k Pt Tx) (hk : k < len) :
    OwnF ((w.setCell ⟨g, k * 2, none⟩ (.string (Pt k))).setCell ⟨g, k * 2 + 1, none⟩ (.string (Tx k))) base e g len (k + 1) Pt Tx := by
  obtain ⟨xs, h1, h2⟩ := h
  have hl := h1.1
  refine ⟨_, ((h1.stored (k * 2) (.string (Pt k))).1.stored (k * 2 + 1) (.string (Tx k))).1, fun j hj => ?_⟩
  by_cases e : j = k
  · subst e
    constructor
    · rw [List.getElem?_set, if_neg (by omega), List.getElem?_set, if_pos rfl, if_pos (by omega)]
    · rw [List.getElem?_set, if_pos rfl, if_pos (by rw [List.length_set]; omega)]
  · have h3 := h2 j (by omega)
    rw [List.getElem?_set, if_neg (by omega), List.getElem?_set, if_neg (by omega), List.getElem?_set, if_neg (by omega), List.getElem?_set, if_neg (by omega)]
    exact h3
theorem OwnF.lt {w : World} {base g len k : Nat} {e : TypeId} {Pt Tx : Nat → ByteArray} (h : OwnF w base e g len k Pt Tx) : g < w.heap.size ∧ base ≤ g := by
  obtain ⟨xs, h1, _⟩ := h
  rcases h1.2 with ⟨h', _⟩ | ⟨g', cap', cur, h', hb, hg, _⟩
  · simp at h'
  · simp only [Value.slice.injEq, Option.some.injEq, Addr.mk.injEq, and_true, true_and] at h'
    obtain ⟨rfl, rfl⟩ := h'
    exact ⟨(Array.getElem?_eq_some_iff.1 hg).1, hb⟩
theorem OwnF.files {w : World} {base g len : Nat} {e : TypeId} {Pt Tx : Nat → ByteArray} (h : OwnF w base e g len len Pt Tx) : FilesAt w (some ⟨g, 0, none⟩) g 0 len Pt Tx := by
  have hlt := h.lt.1
  obtain ⟨xs, h1, h2⟩ := h
  refine ⟨fun _ => rfl, fun _ => hlt, fun j hj => ?_, fun j hj => ?_⟩
  · rw [Nat.zero_add, h1.cellAt _ (by omega)]
    exact (h2 j hj).1
  · rw [Nat.zero_add, h1.cellAt _ (by omega)]
    exact (h2 j hj).2
theorem OwnF.later {w w' : World} {base g len k : Nat} {e : TypeId} {Pt Tx : Nat → ByteArray} (h : OwnF w base e g len k Pt Tx) (hb : Below w.heap.size w w') : OwnF w' base e g len k Pt Tx := by
  have hlt := h.lt.1
  obtain ⟨xs, h1, h2⟩ := h
  refine ⟨xs, ⟨h1.1, ?_⟩, h2⟩
  rcases h1.2 with k | ⟨g', cap', cur, hv, hbase, hg, hr⟩
  · exact .inl k
  · simp only [Value.slice.injEq, Option.some.injEq, Addr.mk.injEq, and_true, true_and] at hv
    obtain ⟨rfl, rfl⟩ := hv
    exact .inr ⟨g, len, cur, rfl, hbase, (hb.block g hlt).trans hg, hr⟩

theorem box_cells {w w1 : World} {p t : ByteArray} {e : TypeId} (hb : Below (w.alloc (.cells #[.string p, .string t] e)).heap.size (w.alloc (.cells #[.string p, .string t] e)) w1) :
    w1.cell? ⟨w.heap.size, 0, none⟩ = some (.string p) ∧ w1.cell? ⟨w.heap.size, 1, none⟩ = some (.string t) ∧ Below w.heap.size w w1 := by
  have hs : (w.alloc (.cells #[.string p, .string t] e)).heap.size = w.heap.size + 1 := by show (w.heap.push _).size = _; simp
  have h1 : Below w.heap.size w (w.alloc (.cells #[.string p, .string t] e)) := (Below.refl _ _).alloc (Nat.le_refl _) _
  refine ⟨?_, ?_, h1.trans (hb.mono h1.size)⟩
  · rw [hb.cell (by show w.heap.size < _; omega), World.cell?_alloc_new]; rfl
  · rw [hb.cell (by show w.heap.size < _; omega), World.cell?_alloc_new]; rfl
def fpB (p : ByteArray) : Bool := pathB p && !(p.toList == [47]) && ((cleanS p).toList == p.toList)
def fileB (p t : ByteArray) : Bool := fpB p && decide ((t.size : Int) ≤ 1500)
abbrev FilesP (len : Nat) (Pt Tx : Nat → ByteArray) : Prop := len ≤ 8 ∧ ∀ k, k < len → fileB (Pt k) (Tx k) = true ∧ (0 < k → Op.bytesLess (Pt (k - 1)).toList (Pt k).toList = true)
def filesB (len : Nat) (Pt Tx : Nat → ByteArray) : Bool := decide (FilesP len Pt Tx)
theorem filesB_yes {len : Nat} {Pt Tx : Nat → ByteArray} (h : FilesP len Pt Tx) : filesB len Pt Tx = true := decide_eq_true h
theorem filesB_no {len : Nat} {Pt Tx : Nat → ByteArray} (h : ¬ FilesP len Pt Tx) : filesB len Pt Tx = false := decide_eq_false h
theorem filesB_iff {len : Nat} {Pt Tx : Nat → ByteArray} : filesB len Pt Tx = true ↔ FilesP len Pt Tx := decide_eq_true_iff
abbrev FilesTo (k : Nat) (Pt Tx : Nat → ByteArray) : Prop := ∀ j, j < k → fileB (Pt j) (Tx j) = true ∧ (0 < j → Op.bytesLess (Pt (j - 1)).toList (Pt j).toList = true)
theorem filesTo_next {k : Nat} {Pt Tx : Nat → ByteArray} (h : FilesTo k Pt Tx) (h1 : fileB (Pt k) (Tx k) = true) (h2 : 0 < k → Op.bytesLess (Pt (k - 1)).toList (Pt k).toList = true) : FilesTo (k + 1) Pt Tx := by
  intro j hj
  by_cases e : j = k
  · subst e; exact ⟨h1, h2⟩
  · exact h j (by omega)
theorem fpB_no_path {p : ByteArray} (h : pathB p = false) : fpB p = false := by rw [fpB, h]; rfl
theorem fpB_root {p : ByteArray} (h : (p.toList == [47]) = true) : fpB p = false := by rw [fpB, h]; simp
theorem fpB_clean {p : ByteArray} (h : ((cleanS p).toList == p.toList) = false) : fpB p = false := by rw [fpB, h]; simp
theorem fpB_yes {p : ByteArray} (h0 : pathB p = true) (h1 : (p.toList == [47]) = false) (h2 : ((cleanS p).toList == p.toList) = true) : fpB p = true := by rw [fpB, h0, h1, h2]; rfl
theorem fpB_empty {p : ByteArray} (h : p.toList.isEmpty = true) : fpB p = false := by
  have hz : p.size = 0 := by
    rw [Lib.toList_data] at h
    have e : p.data.toList.length = p.size := by rw [Array.length_toList]; rfl
    rw [List.isEmpty_iff.1 h] at e
    exact e.symm
  refine fpB_no_path (pathB_no fun k => ?_)
  have := k.1
  omega
theorem path_of_clean {p : ByteArray} (h0 : p.toList.isEmpty = false) (h2 : ((cleanS p).toList == p.toList) = true) : pathB p = true := by
  cases hp : pathB p with
  | true => rfl
  | false =>
    rw [cleanS_no hp] at h2
    have e := (toList_eq_iff _ _).1 h2
    rw [← e, Lib.toList_data] at h0
    cases h0
theorem fileB_path {p t : ByteArray} (h : fpB p = false) : fileB p t = false := by rw [fileB, h]; rfl
theorem fileB_text {p t : ByteArray} (h : ¬ (t.size : Int) ≤ 1500) : fileB p t = false := by rw [fileB, decide_eq_false h]; simp
theorem fileB_yes {p t : ByteArray} (h : fpB p = true) (ht : (t.size : Int) ≤ 1500) : fileB p t = true := by rw [fileB, h, decide_eq_true ht]; rfl

def findTo (Pt Tx : Nat → ByteArray) (q : ByteArray) : Nat → ByteArray × Bool
  | 0 => ({ data := #[] }, false)
  | k + 1 => if (findTo Pt Tx q k).2 = true then findTo Pt Tx q k else if Pt k = q then (Tx k, true) else ({ data := #[] }, false)
def findS (len : Nat) (Pt Tx : Nat → ByteArray) (q : ByteArray) : ByteArray × Bool := if filesB len Pt Tx = true then findTo Pt Tx q len else ({ data := #[] }, false)
theorem findTo_none {Pt Tx : Nat → ByteArray} {q : ByteArray} (k : Nat) (h : ∀ j, j < k → Pt j ≠ q) : findTo Pt Tx q k = ({ data := #[] }, false) := by
  induction k with
  | zero => rfl
  | succ k ih => rw [findTo, ih (fun j hj => h j (by omega)), if_neg (by simp), if_neg (h k (by omega))]
theorem findTo_at {Pt Tx : Nat → ByteArray} {q : ByteArray} {k : Nat} (hk : Pt k = q) (h : ∀ j, j < k → Pt j ≠ q) (m : Nat) (hm : k < m) : findTo Pt Tx q m = (Tx k, true) := by
  induction m with
  | zero => omega
  | succ m ih =>
    rw [findTo]
    by_cases e : k = m
    · subst e
      rw [findTo_none k h, if_neg (by simp), if_pos hk]
    · rw [ih (by omega), if_pos rfl]
theorem findS_bad {len : Nat} {Pt Tx : Nat → ByteArray} {q : ByteArray} (h : filesB len Pt Tx = false) : findS len Pt Tx q = ({ data := #[] }, false) := by rw [findS, h]; rfl
theorem findS_at {len : Nat} {Pt Tx : Nat → ByteArray} {q : ByteArray} {k : Nat} (hb : filesB len Pt Tx = true) (hlt : k < len) (hk : Pt k = q) (h : ∀ j, j < k → Pt j ≠ q) : findS len Pt Tx q = (Tx k, true) := by
  rw [findS, if_pos hb, findTo_at hk h len hlt]
theorem findS_none {len : Nat} {Pt Tx : Nat → ByteArray} {q : ByteArray} (h : ∀ j, j < len → Pt j ≠ q) : findS len Pt Tx q = ({ data := #[] }, false) := by
  rw [findS]
  split
  · exact findTo_none len h
  · rfl
end Go.Proofs.Ytdbpknmoacjodaa
namespace Go.Proofs.Ytdbpknmoacjodaa
open Go.RowKit Go.PlainAid

def vl : Nat → Int → List Int
  | 0, q => [q]
  | f + 1, q => if q < 128 then [q] else (q % 128 + 128) :: vl f (q / 128)
theorem vl_small (f : Nat) (q : Int) (h : q < 128) : vl f q = [q] := by cases f <;> simp [vl, h]
theorem vl_more (f : Nat) (q : Int) (h : ¬ q < 128) : vl (f + 1) q = (q % 128 + 128) :: vl f (q / 128) := by simp [vl, h]
theorem vl_length (f : Nat) (q : Int) : 1 ≤ (vl f q).length ∧ (vl f q).length ≤ f + 1 := by
  induction f generalizing q with
  | zero => simp [vl]
  | succ f ih =>
    simp only [vl]
    split
    · simp
    · have := ih (q / 128)
      simp; omega
def VarAt (n : Int) (k : Nat) (acc : List Int) (q : Int) : Prop :=
  k ≤ 6 ∧ acc.length = k ∧ 0 ≤ q ∧ q ≤ n ∧ q * 128 ^ k ≤ n ∧ acc ++ vl (6 - k) q = vl 6 n
theorem varAt_start (n : Int) (h : 0 ≤ n) : VarAt n 0 [] n := ⟨by omega, rfl, h, by omega, by simp, rfl⟩
theorem varAt_lt {n : Int} {k : Nat} {acc : List Int} {q : Int} (h : VarAt n k acc q) (hn : n ≤ 562949953421311) (hq : ¬ q < 128) : k < 6 := by
  obtain ⟨h6, -, h0, -, hp, -⟩ := h
  rcases Nat.lt_or_ge k 6 with h | h
  · exact h
  · obtain rfl : k = 6 := by omega
    exfalso
    rw [show (128 : Int) ^ 6 = 4398046511104 from by decide] at hp
    omega
theorem varAt_next {n : Int} {k : Nat} {acc : List Int} {q : Int} (h : VarAt n k acc q) (hn : n ≤ 562949953421311) (hq : ¬ q < 128) : VarAt n (k + 1) (acc ++ [q % 128 + 128]) (q / 128) := by
  have hk := varAt_lt h hn hq
  obtain ⟨h6, hl, h0, hqn, hp, he⟩ := h
  refine ⟨by omega, by simp [hl], by omega, by omega, ?_, ?_⟩
  · have h1 : q / 128 * 128 ≤ q := by omega
    have h2 : q / 128 * 128 ^ (k + 1) = q / 128 * 128 * 128 ^ k := by rw [Int.pow_succ, Int.mul_assoc, Int.mul_comm (128 ^ k) 128]
    rw [h2]
    exact Int.le_trans (Int.mul_le_mul_of_nonneg_right h1 (Int.le_of_lt (Int.pow_pos (by omega)))) hp
  · rw [← he, show 6 - k = (6 - (k + 1)) + 1 from by omega, vl_more _ _ hq, List.append_assoc]
    rfl
theorem varAt_end {n : Int} {k : Nat} {acc : List Int} {q : Int} (h : VarAt n k acc q) (hq : q < 128) : acc ++ [q] = vl 6 n := by
  obtain ⟨-, -, -, -, -, he⟩ := h
  rw [← he, vl_small _ _ hq]
def varL (n : Int) : List Int := if inB n 0 562949953421311 then vl 6 n else []
theorem varL_yes {n : Int} (h0 : 0 ≤ n) (h1 : n ≤ 562949953421311) : varL n = vl 6 n := by simp [varL, inB_yes h0 h1]
theorem varL_no {n : Int} (h : ¬ (0 ≤ n ∧ n ≤ 562949953421311)) : varL n = [] := by simp [varL, inB_no h]
end Go.Proofs.Ytdbpknmoacjodaa
namespace Go.Proofs.Ytdbpknmoacjodaa
open Go.RowKit Go.PlainAid

def upTo (c : ByteArray) : Nat → List ByteArray
  | 0 => []
  | k + 1 => (if bt c (k + 1) = 47 then [c.extract 0 (k + 1)] else []) ++ upTo c k
def upC (c : ByteArray) : List ByteArray := upTo c (c.size - 1) ++ if 1 < c.size then [{ data := #[47] }] else []
def upL (p : ByteArray) : List ByteArray := upC (cleanS p)
theorem upTo_yes {c : ByteArray} {k : Nat} (h : bt c (k + 1) = 47) : upTo c (k + 1) = c.extract 0 (k + 1) :: upTo c k := by rw [upTo, if_pos h]; rfl
theorem upTo_no {c : ByteArray} {k : Nat} (h : bt c (k + 1) ≠ 47) : upTo c (k + 1) = upTo c k := by rw [upTo, if_neg h]; rfl
theorem upTo_len (c : ByteArray) (k : Nat) : (upTo c k).length ≤ k := by
  induction k with
  | zero => exact Nat.le_refl _
  | succ k ih =>
    rw [upTo, List.length_append]
    split
    · simp; omega
    · simp; omega
theorem world_anyU {P : Program} {code : Code} {Q : Exit → Act → World → Prop} {a : Act} {w0 : World} {R : World → Prop} (h0 : R w0) (h : ∀ W, R W → Code.wp P code Q a W) : Code.wp P code Q a w0 := h w0 h0
theorem hidU {p : Prop} (h : p) : Hid p := h
end Go.Proofs.Ytdbpknmoacjodaa
namespace Go.Proofs.Ytdbpknmoacjodaa
open Go.RowKit Go.PlainAid

def pieceS (s : ByteArray) : ByteArray := strOfNums (varL (s.size : Int)) ++ s
def showTo (h : ByteArray) (Pt Tx : Nat → ByteArray) : Nat → ByteArray
  | 0 => h
  | k + 1 => showTo h Pt Tx k ++ pieceS (Pt k) ++ pieceS (Tx k)
def headF (len : Nat) : ByteArray := ({ data := #[102] } : ByteArray) ++ strOfNums (varL (len : Int))
def showS (len : Nat) (Pt Tx : Nat → ByteArray) : ByteArray := if filesB len Pt Tx then showTo (headF len) Pt Tx len else { data := #[] }
theorem varL_le (n : Int) : (varL n).length ≤ 7 := by
  unfold varL
  split
  · exact (vl_length 6 n).2
  · exact Nat.zero_le _
theorem var_size (n : Int) : (strOfNums (varL n)).size ≤ 7 := by rw [strOfNums_size]; exact varL_le n
theorem piece_size (s : ByteArray) : (pieceS s).size ≤ s.size + 7 := by
  unfold pieceS
  rw [ByteArray.size_append]
  have := var_size (s.size : Int)
  omega
theorem head_size (len : Nat) : (headF len).size ≤ 8 := by
  unfold headF
  rw [ByteArray.size_append]
  have := var_size (len : Int)
  show 1 + _ ≤ 8
  omega
theorem files_small {len : Nat} {Pt Tx : Nat → ByteArray} (h : filesB len Pt Tx = true) : len ≤ 8 ∧ ∀ j, j < len → (Pt j).size ≤ 40 ∧ (Tx j).size ≤ 1500 := by
  obtain ⟨h1, h2⟩ := filesB_iff.1 h
  refine ⟨h1, fun j hj => ?_⟩
  have h3 := (h2 j hj).1
  unfold fileB fpB at h3
  simp only [Bool.and_eq_true, decide_eq_true_eq] at h3
  have := (pathB_iff.1 h3.1.1.1).2.1
  omega
theorem showTo_size {len : Nat} {Pt Tx : Nat → ByteArray} (h : filesB len Pt Tx = true) (hd : ByteArray) : ∀ k, k ≤ len → (showTo hd Pt Tx k).size ≤ hd.size + 1554 * k := by
  intro k
  induction k with
  | zero => intro _; exact Nat.le_refl _
  | succ k ih =>
    intro hk
    have h1 := ih (by omega)
    have h2 := (files_small h).2 k (by omega)
    have h3 := piece_size (Pt k)
    have h4 := piece_size (Tx k)
    rw [showTo, ByteArray.size_append, ByteArray.size_append]
    omega
end Go.Proofs.Ytdbpknmoacjodaa
