/-
  What the walks of chapter 16 hold; what spec's l16Named answers.
  A row of files in memory, each a path and a text, and when files are right: plain facts. No program is spoken of.
  Rows of files of the call's own that grow. No program is spoken of.
  Rows of texts of the call's own that are marked cell by cell, without a program's rows. No program is spoken of but for markText.
  What the laws' markers and askers of lists of texts and of files answer: the walks.
  What the laws' comparer of lists of texts answers, without a program's rows: the walk.
  What the helpers of the laws over files answer: the walks.
  What the helpers of the laws over files answer, at any rest and any capacity: the walks.
  Rows of texts and of files that a call hands back, nil or not: how the laws' helpers take them.
-/
import Derived.Test.YtdbpknmoacjodaaCsLawBaseToSpecPut
namespace Go.Proofs.Ytdbpknmoacjodaa
open Go.RowKit Go.PlainAid Go.Sort

structure MdR (w : World) (V : Sv) (m : Md) : Prop where
  im : RowAt w V.im.a imL 3 m.im
  ep : RowAt w V.ep.a epL 4 m.ep
  st : RowAt w V.st.a smL 3 m.st
  ex : RowAt w V.ex.a exL 6 m.ex
theorem MdR.later {w w' : World} {V : Sv} {m : Md} (h : MdR w V m) (hb : Below w.heap.size w w') : MdR w' V m := ⟨h.im.later hb, h.ep.later hb, h.st.later hb, h.ex.later hb⟩
theorem five_at {w : World} {b : Nat} {t : TypeId} {v0 v1 v2 v3 v4 : Value} (h : w.heap[b]? = some (.cells #[v0, v1, v2, v3, v4] t (0, 0))) :
    w.cell? ⟨b, 0, none⟩ = some v0 ∧ w.cell? ⟨b, 1, none⟩ = some v1 ∧ w.cell? ⟨b, 2, none⟩ = some v2 ∧ w.cell? ⟨b, 3, none⟩ = some v3 ∧ w.cell? ⟨b, 4, none⟩ = some v4 := by
  refine ⟨?_, ?_, ?_, ?_, ?_⟩ <;> simp [World.cell?, h]
structure UW (w : World) (bx : Obj) (g n cap : Nat) (xs : List ByteArray) (W : World) : Prop where
  box : W.heap[w.heap.size]? = some bx
  bel : Below w.heap.size w W
  own : OwnS W (w.heap.size + 1) 9 g n cap xs
  siz : w.heap.size + 1 ≤ W.heap.size
theorem UW.put {w W W' : World} {bx : Obj} {g n cap g' n' cap' : Nat} {xs ys : List ByteArray} (h : UW w bx g n cap xs W) (hb : Below W.heap.size W W') (ho : OwnS W' (w.heap.size + 1) 9 g' n' cap' ys) : UW w bx g' n' cap' ys W' :=
  ⟨(hb.block _ (Array.getElem?_eq_some_iff.1 h.box).1).trans h.box, h.bel.trans (hb.mono h.bel.size), ho, Nat.le_trans h.siz hb.size⟩
theorem UW.app {w W W' : World} {bx : Obj} {g n cap g' n' cap' : Nat} {xs ys : List ByteArray} (h : UW w bx g n cap xs W) (ho : OwnS W' (w.heap.size + 1) 9 g' n' cap' ys) (hg : W.grownBy W' (some g)) : UW w bx g' n' cap' ys W' := by
  have hk := ownS_blk h.own
  have hx := (Array.getElem?_eq_some_iff.1 h.box).1
  exact ⟨(hg.block _ hx fun e => by have := Option.some.inj e; omega).trans h.box, h.bel.grown hg h.bel.size fun k e => by have := Option.some.inj e; omega, ho, Nat.le_trans h.siz hg.size⟩
theorem UW.aside {w W W' : World} {bx : Obj} {g n cap x : Nat} {xs : List ByteArray} (h : UW w bx g n cap xs W) (hg : W.grownBy W' (some x)) (hx : w.heap.size + 1 ≤ x) (hn : g < x) : UW w bx g n cap xs W' := by
  have hk := ownS_blk h.own
  have hz := (Array.getElem?_eq_some_iff.1 h.box).1
  exact ⟨(hg.block _ hz fun e => by have := Option.some.inj e; omega).trans h.box, h.bel.grown hg h.bel.size fun k e => by have := Option.some.inj e; omega, ownS_keep h.own (hg.block g hk.2 fun e => by have := Option.some.inj e; omega), Nat.le_trans h.siz hg.size⟩
theorem UW.start (w : World) (bx : Obj) : UW w bx (w.heap.size + 1) 0 0 [] ((w.alloc bx).alloc (.cells #[] 9)) := by
  have e : (w.alloc bx).heap.size = w.heap.size + 1 := alloc_size w bx
  refine ⟨(heap_alloc_old _ _ (by rw [e]; omega)).trans (heap_alloc_new w _), ((Below.refl _ _).alloc (Nat.le_refl _) _).alloc (by rw [e]; omega) _, ?_, by rw [alloc_size, e]; omega⟩
  have := World.ownsRow_lit (w.alloc bx) (base := w.heap.size + 1) (e := 9) (size := 1) #[] 0 (by rw [e]; exact Nat.le_refl _) (by unfold maxLen; omega) rfl
  rw [e] at this
  exact ⟨this, rfl⟩
def UseOut (w : World) (l : List ByteArray) (e : Ending) (w' : World) : Prop := ∃ g n cap, e = .returned (.slice (some ⟨g, 0, none⟩) n cap) ∧ OwnS w' w.heap.size 9 g n cap l ∧ Below w.heap.size w w'
end Go.Proofs.Ytdbpknmoacjodaa
namespace Go.Proofs.Ytdbpknmoacjodaa
open Go.RowKit Go.PlainAid

structure FilesAt (w : World) (a : Option Addr) (b off len : Nat) (Pt Tx : Nat → ByteArray) : Prop where
  addr : 0 < len → a = some ⟨b, off, none⟩
  lt : 0 < len → b < w.heap.size
  path : ∀ j, j < len → w.cell? ⟨b, off + j * 2, none⟩ = some (.string (Pt j))
  text : ∀ j, j < len → w.cell? ⟨b, off + j * 2 + 1, none⟩ = some (.string (Tx j))
theorem FilesAt.later {w w' : World} {a : Option Addr} {b off len : Nat} {Pt Tx : Nat → ByteArray} (h : FilesAt w a b off len Pt Tx) (hb : Below w.heap.size w w') : FilesAt w' a b off len Pt Tx :=
  ⟨h.addr, fun k => Nat.lt_of_lt_of_le (h.lt k) hb.size, fun j hj => by rw [hb.cell (h.lt (by omega))]; exact h.path j hj, fun j hj => by rw [hb.cell (h.lt (by omega))]; exact h.text j hj⟩

def OwnF (w : World) (base : Nat) (e : TypeId) (g len k : Nat) (Pt Tx : Nat → ByteArray) : Prop :=
  ∃ xs, w.ownsRow base e 2 (.slice (some ⟨g, 0, none⟩) len len) len xs ∧ ∀ j, j < k → xs[j * 2]? = some (.string (Pt j)) ∧ xs[j * 2 + 1]? = some (.string (Tx j))
theorem OwnF.has {w : World} {base g len k : Nat} {e : TypeId} {Pt Tx : Nat → ByteArray} (h : OwnF w base e g len k Pt Tx) (j : Nat) (hj : j < len * 2) : ∃ v, w.cell? ⟨g, j, none⟩ = some v := by
  obtain ⟨xs, h1, _⟩ := h
  have hl := h1.1
  rw [h1.cellAt j hj]
  exact ⟨_, List.getElem?_eq_getElem (by omega)⟩
theorem OwnF.free {w : World} {base g len k : Nat} {e : TypeId} {Pt Tx : Nat → ByteArray} (h : OwnF w base e g len k Pt Tx) (j : Nat) : w.frozen? ⟨g, j, none⟩ = false := by
  obtain ⟨xs, h1, _⟩ := h
  exact h1.frozenAt j
theorem OwnF.fill {w : World} {base g len k : Nat} {e : TypeId} {Pt Tx : Nat → ByteArray} (h : OwnF w base e g len k Pt Tx) (hk : k < len) :
    OwnF ((w.setCell ⟨g, k * 2, none⟩ (.string (Pt k))).setCell ⟨g, k * 2 + 1, none⟩ (.string (Tx k))) base e g len (k + 1) Pt Tx := by
  obtain ⟨xs, h1, h2⟩ := h
  have hl := h1.1
  refine ⟨_, ((h1.stored (k * 2) (.string (Pt k))).1.stored (k * 2 + 1) (.string (Tx k))).1, fun j hj => ?_⟩
  by_cases e : j = k
  · subst e
    constructor
    · rw [List.getElem?_set, if_neg (by omega), List.getElem?_set, if_pos rfl, if_pos (by omega)]
    · rw [List.getElem?_set, if_pos rfl, if_pos (by rw [List.length_set]; omega)]
  · have h3 := h2 j (by omega)
    rw [List.getElem?_set, if_neg (by omega), List.getElem?_set, if_neg (by omega), List.getElem?_set, if_neg (by omega), List.getElem?_set, if_neg (by omega)]
    exact h3
theorem OwnF.lt {w : World} {base g len k : Nat} {e : TypeId} {Pt Tx : Nat → ByteArray} (h : OwnF w base e g len k Pt Tx) : g < w.heap.size ∧ base ≤ g := by
  obtain ⟨xs, h1, _⟩ := h
  rcases h1.2 with ⟨h', _⟩ | ⟨g', cap', cur, h', hb, hg, _⟩
  · simp at h'
  · simp only [Value.slice.injEq, Option.some.injEq, Addr.mk.injEq, and_true, true_and] at h'
    obtain ⟨rfl, rfl⟩ := h'
    exact ⟨(Array.getElem?_eq_some_iff.1 hg).1, hb⟩
theorem OwnF.files {w : World} {base g len : Nat} {e : TypeId} {Pt Tx : Nat → ByteArray} (h : OwnF w base e g len len Pt Tx) : FilesAt w (some ⟨g, 0, none⟩) g 0 len Pt Tx := by
  have hlt := h.lt.1
  obtain ⟨xs, h1, h2⟩ := h
  refine ⟨fun _ => rfl, fun _ => hlt, fun j hj => ?_, fun j hj => ?_⟩
  · rw [Nat.zero_add, h1.cellAt _ (by omega)]
    exact (h2 j hj).1
  · rw [Nat.zero_add, h1.cellAt _ (by omega)]
    exact (h2 j hj).2
theorem OwnF.later {w w' : World} {base g len k : Nat} {e : TypeId} {Pt Tx : Nat → ByteArray} (h : OwnF w base e g len k Pt Tx) (hb : Below w.heap.size w w') : OwnF w' base e g len k Pt Tx := by
  have hlt := h.lt.1
  obtain ⟨xs, h1, h2⟩ := h
  refine ⟨xs, ⟨h1.1, ?_⟩, h2⟩
  rcases h1.2 with k | ⟨g', cap', cur, hv, hbase, hg, hr⟩
  · exact .inl k
  · simp only [Value.slice.injEq, Option.some.injEq, Addr.mk.injEq, and_true, true_and] at hv
    obtain ⟨rfl, rfl⟩ := hv
    exact .inr ⟨g, len, cur, rfl, hbase, (hb.block g hlt).trans hg, hr⟩

theorem box_cells {w w1 : World} {p t : ByteArray} {e : TypeId} (hb : Below (w.alloc (.cells #[.string p, .string t] e)).heap.size (w.alloc (.cells #[.string p, .string t] e)) w1) :
    w1.cell? ⟨w.heap.size, 0, none⟩ = some (.string p) ∧ w1.cell? ⟨w.heap.size, 1, none⟩ = some (.string t) ∧ Below w.heap.size w w1 := by
  have hs : (w.alloc (.cells #[.string p, .string t] e)).heap.size = w.heap.size + 1 := by show (w.heap.push _).size = _; simp
  have h1 : Below w.heap.size w (w.alloc (.cells #[.string p, .string t] e)) := (Below.refl _ _).alloc (Nat.le_refl _) _
  refine ⟨?_, ?_, h1.trans (hb.mono h1.size)⟩
  · rw [hb.cell (by show w.heap.size < _; omega), World.cell?_alloc_new]; rfl
  · rw [hb.cell (by show w.heap.size < _; omega), World.cell?_alloc_new]; rfl
def fpB (p : ByteArray) : Bool := pathB p && !(p.toList == [47]) && ((cleanS p).toList == p.toList)
def fileB (p t : ByteArray) : Bool := fpB p && decide ((t.size : Int) ≤ 1500)
abbrev FilesP (len : Nat) (Pt Tx : Nat → ByteArray) : Prop := len ≤ 8 ∧ ∀ k, k < len → fileB (Pt k) (Tx k) = true ∧ (0 < k → Op.bytesLess (Pt (k - 1)).toList (Pt k).toList = true)
def filesB (len : Nat) (Pt Tx : Nat → ByteArray) : Bool := decide (FilesP len Pt Tx)
theorem filesB_yes {len : Nat} {Pt Tx : Nat → ByteArray} (h : FilesP len Pt Tx) : filesB len Pt Tx = true := decide_eq_true h
theorem filesB_no {len : Nat} {Pt Tx : Nat → ByteArray} (h : ¬ FilesP len Pt Tx) : filesB len Pt Tx = false := decide_eq_false h
theorem filesB_iff {len : Nat} {Pt Tx : Nat → ByteArray} : filesB len Pt Tx = true ↔ FilesP len Pt Tx := decide_eq_true_iff
abbrev FilesTo (k : Nat) (Pt Tx : Nat → ByteArray) : Prop := ∀ j, j < k → fileB (Pt j) (Tx j) = true ∧ (0 < j → Op.bytesLess (Pt (j - 1)).toList (Pt j).toList = true)
theorem filesTo_next {k : Nat} {Pt Tx : Nat → ByteArray} (h : FilesTo k Pt Tx) (h1 : fileB (Pt k) (Tx k) = true) (h2 : 0 < k → Op.bytesLess (Pt (k - 1)).toList (Pt k).toList = true) : FilesTo (k + 1) Pt Tx := by
  intro j hj
  by_cases e : j = k
  · subst e; exact ⟨h1, h2⟩
  · exact h j (by omega)
theorem fpB_no_path {p : ByteArray} (h : pathB p = false) : fpB p = false := by rw [fpB, h]; rfl
theorem fpB_root {p : ByteArray} (h : (p.toList == [47]) = true) : fpB p = false := by rw [fpB, h]; simp
theorem fpB_clean {p : ByteArray} (h : ((cleanS p).toList == p.toList) = false) : fpB p = false := by rw [fpB, h]; simp
theorem fpB_yes {p : ByteArray} (h0 : pathB p = true) (h1 : (p.toList == [47]) = false) (h2 : ((cleanS p).toList == p.toList) = true) : fpB p = true := by rw [fpB, h0, h1, h2]; rfl
theorem fpB_empty {p : ByteArray} (h : p.toList.isEmpty = true) : fpB p = false := by
  have hz : p.size = 0 := by
    rw [Lib.toList_data] at h
    have e : p.data.toList.length = p.size := by rw [Array.length_toList]; rfl
    rw [List.isEmpty_iff.1 h] at e
    exact e.symm
  refine fpB_no_path (pathB_no fun k => ?_)
  have := k.1
  omega
theorem path_of_clean {p : ByteArray} (h0 : p.toList.isEmpty = false) (h2 : ((cleanS p).toList == p.toList) = true) : pathB p = true := by
  cases hp : pathB p with
  | true => rfl
  | false =>
    rw [cleanS_no hp] at h2
    have e := (toList_eq_iff _ _).1 h2
    rw [← e, Lib.toList_data] at h0
    cases h0
theorem fileB_path {p t : ByteArray} (h : fpB p = false) : fileB p t = false := by rw [fileB, h]; rfl
theorem fileB_text {p t : ByteArray} (h : ¬ (t.size : Int) ≤ 1500) : fileB p t = false := by rw [fileB, decide_eq_false h]; simp
theorem fileB_yes {p t : ByteArray} (h : fpB p = true) (ht : (t.size : Int) ≤ 1500) : fileB p t = true := by rw [fileB, h, decide_eq_true ht]; rfl

def findTo (Pt Tx : Nat → ByteArray) (q : ByteArray) : Nat → ByteArray × Bool
  | 0 => ({ data := #[] }, false)
  | k + 1 => if (findTo Pt Tx q k).2 = true then findTo Pt Tx q k else if Pt k = q then (Tx k, true) else ({ data := #[] }, false)
def findS (len : Nat) (Pt Tx : Nat → ByteArray) (q : ByteArray) : ByteArray × Bool := if filesB len Pt Tx = true then findTo Pt Tx q len else ({ data := #[] }, false)
theorem findTo_none {Pt Tx : Nat → ByteArray} {q : ByteArray} (k : Nat) (h : ∀ j, j < k → Pt j ≠ q) : findTo Pt Tx q k = ({ data := #[] }, false) := by
  induction k with
  | zero => rfl
  | succ k ih => rw [findTo, ih (fun j hj => h j (by omega)), if_neg (by simp), if_neg (h k (by omega))]
theorem findTo_at {Pt Tx : Nat → ByteArray} {q : ByteArray} {k : Nat} (hk : Pt k = q) (h : ∀ j, j < k → Pt j ≠ q) (m : Nat) (hm : k < m) : findTo Pt Tx q m = (Tx k, true) := by
  induction m with
  | zero => omega
  | succ m ih =>
    rw [findTo]
    by_cases e : k = m
    · subst e
      rw [findTo_none k h, if_neg (by simp), if_pos hk]
    · rw [ih (by omega), if_pos rfl]
theorem findS_bad {len : Nat} {Pt Tx : Nat → ByteArray} {q : ByteArray} (h : filesB len Pt Tx = false) : findS len Pt Tx q = ({ data := #[] }, false) := by rw [findS, h]; rfl
theorem findS_at {len : Nat} {Pt Tx : Nat → ByteArray} {q : ByteArray} {k : Nat} (hb : filesB len Pt Tx = true) (hlt : k < len) (hk : Pt k = q) (h : ∀ j, j < k → Pt j ≠ q) : findS len Pt Tx q = (Tx k, true) := by
  rw [findS, if_pos hb, findTo_at hk h len hlt]
theorem findS_none {len : Nat} {Pt Tx : Nat → ByteArray} {q : ByteArray} (h : ∀ j, j < len → Pt j ≠ q) : findS len Pt Tx q = ({ data := #[] }, false) := by
  rw [findS]
  split
  · exact findTo_none len h
  · rfl
end Go.Proofs.Ytdbpknmoacjodaa
namespace Go.Proofs.Ytdbpknmoacjodaa
open Go.RowKit Go.PlainAid

abbrev Fl := ByteArray × ByteArray
def flL (x : Fl) : List Value := [.string x.1, .string x.2]
def flNo : Fl := ({ data := #[] }, { data := #[] })
def ptOf (fs : List Fl) (j : Nat) : ByteArray := (fs.getD j flNo).1
def txOf (fs : List Fl) (j : Nat) : ByteArray := (fs.getD j flNo).2
def flsOf (len : Nat) (Pt Tx : Nat → ByteArray) : List Fl := (List.range len).map fun j => (Pt j, Tx j)
theorem flsOf_len (len : Nat) (Pt Tx : Nat → ByteArray) : (flsOf len Pt Tx).length = len := by simp [flsOf]
theorem flsOf_at {len : Nat} {Pt Tx : Nat → ByteArray} {j : Nat} (h : j < len) : (flsOf len Pt Tx)[j]? = some (Pt j, Tx j) := by
  unfold flsOf
  rw [List.getElem?_map, List.getElem?_range h]
  rfl
theorem fl_flat (fs : List Fl) : ∀ (j i : Nat) (x : Fl), i < 2 → fs[j]? = some x → (fs.flatMap flL)[j * 2 + i]? = (flL x)[i]? := by
  induction fs with
  | nil => intro j i x _ h; cases h
  | cons u fs ih =>
    intro j i x hi h
    rw [List.flatMap_cons]
    cases j with
    | zero =>
      cases h
      rw [Nat.zero_mul, Nat.zero_add, List.getElem?_append_left (by show i < 2; exact hi)]
    | succ j =>
      rw [List.getElem?_append_right (by show 2 ≤ _; omega), show (j + 1) * 2 + i - (flL u).length = j * 2 + i from by show (j + 1) * 2 + i - 2 = _; omega]
      exact ih j i x hi h
theorem fl_flat_len (fs : List Fl) : (fs.flatMap flL).length = fs.length * 2 := by
  induction fs with
  | nil => rfl
  | cons u fs ih => rw [List.flatMap_cons, List.length_append, ih, List.length_cons]; show 2 + _ = _; omega
def OwnFl (w : World) (base : Nat) (e : TypeId) (g n cap : Nat) (fs : List Fl) : Prop := w.ownsRow base e 2 (.slice (some ⟨g, 0, none⟩) n cap) n (fs.flatMap flL) ∧ n = fs.length
theorem ownFl_blk {w : World} {base g n cap : Nat} {e : TypeId} {fs : List Fl} (h : OwnFl w base e g n cap fs) : base ≤ g ∧ g < w.heap.size := by
  rcases h.1.2 with ⟨h', _⟩ | ⟨g', cap', cur, h', hb, hg, _⟩
  · simp at h'
  · simp only [Value.slice.injEq, Option.some.injEq, Addr.mk.injEq, and_true, true_and] at h'
    obtain ⟨rfl, rfl⟩ := h'
    exact ⟨hb, (Array.getElem?_eq_some_iff.1 hg).1⟩
theorem ownFl_cap {w : World} {base g n cap : Nat} {e : TypeId} {fs : List Fl} (h : OwnFl w base e g n cap fs) : n ≤ cap := by
  rcases h.1.2 with ⟨h', _⟩ | ⟨g', cap', cur, h', _, _, hc, _⟩
  · simp at h'
  · simp only [Value.slice.injEq, Option.some.injEq, Addr.mk.injEq, and_true, true_and] at h'
    obtain ⟨_, rfl⟩ := h'
    exact hc
theorem ownFl_keep {w W : World} {base g n cap : Nat} {e : TypeId} {fs : List Fl} (h : OwnFl w base e g n cap fs) (hk : W.heap[g]? = w.heap[g]?) : OwnFl W base e g n cap fs := by
  refine ⟨⟨h.1.1, ?_⟩, h.2⟩
  rcases h.1.2 with ⟨h', _⟩ | ⟨g', cap', cur, h', hbs, hg, hr⟩
  · simp at h'
  · simp only [Value.slice.injEq, Option.some.injEq, Addr.mk.injEq, and_true, true_and] at h'
    obtain ⟨rfl, rfl⟩ := h'
    exact .inr ⟨g, cap, cur, rfl, hbs, hk.trans hg, hr⟩
theorem ownFl_later {w W : World} {base g n cap : Nat} {e : TypeId} {fs : List Fl} (h : OwnFl w base e g n cap fs) (hb : Below w.heap.size w W) : OwnFl W base e g n cap fs := ownFl_keep h (hb.block g (ownFl_blk h).2)
theorem ownFl_low {w : World} {base b g n cap : Nat} {e : TypeId} {fs : List Fl} (h : OwnFl w base e g n cap fs) (hb : b ≤ base) : OwnFl w b e g n cap fs := by
  refine ⟨⟨h.1.1, ?_⟩, h.2⟩
  rcases h.1.2 with ⟨h', _⟩ | ⟨g', cap', cur, h', hbs, hg, hr⟩
  · simp at h'
  · exact .inr ⟨g', cap', cur, h', Nat.le_trans hb hbs, hg, hr⟩
theorem ownFl_nil (w : World) (e : TypeId) : OwnFl (w.alloc (.cells #[] e)) w.heap.size e w.heap.size 0 0 [] := ⟨World.ownsRow_lit w #[] 0 (Nat.le_refl _) (by unfold maxLen; omega) rfl, rfl⟩
theorem ownFl_files {w : World} {base g n cap : Nat} {e : TypeId} {fs : List Fl} (h : OwnFl w base e g n cap fs) : FilesAt w (some ⟨g, 0, none⟩) g 0 n (ptOf fs) (txOf fs) := by
  have hl := h.2
  have at' : ∀ j, j < n → fs[j]? = some (fs.getD j flNo) := fun j hj => by simp [List.getD, List.getElem?_eq_getElem (show j < fs.length by omega)]
  refine ⟨fun _ => rfl, fun _ => (ownFl_blk h).2, fun j hj => ?_, fun j hj => ?_⟩
  · rw [Nat.zero_add, h.1.cellAt _ (by omega)]
    exact fl_flat fs j 0 _ (by omega) (at' j hj)
  · rw [Nat.zero_add, h.1.cellAt _ (by omega)]
    exact fl_flat fs j 1 _ (by omega) (at' j hj)
theorem app_file {P : Program} (w : World) {ops : Array Oper} {rest : List Oper} {o : Oper} {a : Act} {Q : Exit → Act → World → Prop} (hgd : o.guard = none) (s x : Operand) (t : TypeId)
    (ho : o.op = .call { callee := .builtin .append, args := #[s, x], argTypes := #[t, t] })
    (base : Nat) (e : TypeId) (i : TypeInfo) (z : Value) (ht : P.underlying t = some (.slice e)) (hi : P.info? e = some i) (hz : i.zero = some z) (hsize : i.size = 2) (hby : i.bytes = 32) (hzs : z.cells.size = 2)
    (g n cap : Nat) (fs : List Fl) (hs : a.eval s = .slice (some ⟨g, 0, none⟩) n cap) (hown : OwnFl w base e g n cap fs)
    (b : Fl) (hx : a.eval x = .slice (some ⟨w.heap.size, 0, none⟩) 1 1) (hn : n + 1 ≤ 1000000)
    (h : ∀ g' cap' w', OwnFl w' base e g' (n + 1) cap' (fs ++ [b]) → w.grownBy w' (some g) → (g' = g ∨ w.heap.size < g') → wpList P ops Q rest (a.put o.dst (.slice (some ⟨g', 0, none⟩) (n + 1) cap')) w') :
    wpList P ops Q (o :: rest) a (w.alloc (.cells #[.string b.1, .string b.2] e)) := by
  obtain ⟨hb0, hb1⟩ := ownFl_blk hown
  refine wpList_append_own_at _ hgd s x t ho base e i z 2 32 ht hi hz hsize hby hzs (by decide) _ n _ hs (hown.1.alloc _) ⟨w.heap.size, 0, none⟩ 1 1 (flL b) hx rfl ?_ ?_ ?_ ?_ ?_ ?_
  · intro j u hj
    match j, hj with
    | 0, hj => cases hj; simp [Addr.add]
    | 1, hj => cases hj; simp [Addr.add]
  · intro u hu
    simp [flL] at hu
    rcases hu with rfl | rfl <;> rfl
  · unfold maxLen; omega
  · omega
  · simp; omega
  · intro v' w' k1 k2 k3 k4
    rcases k1.2 with ⟨hv, hn0⟩ | ⟨g', cap', cur, rfl, hrest⟩
    · omega
    · refine h g' cap' w' ⟨by rw [List.flatMap_append]; simpa using k1, by rw [List.length_append]; have := hown.2; simp; omega⟩ ?_ ?_
      · have k2' : (w.alloc (.cells #[.string b.1, .string b.2] e)).grownBy w' (some g) := k2
        have hsz : (w.alloc (.cells #[.string b.1, .string b.2] e)).heap.size = w.heap.size + 1 := by show (w.heap.push _).size = _; simp
        exact ⟨k2'.os, k2'.tape, k2'.output, by have := k2'.size; omega, fun k hk hne => (k2'.block k (by omega) hne).trans (heap_alloc_old w _ hk)⟩
      · have k4' : some g' = some g ∨ some g' = some (w.alloc (.cells #[.string b.1, .string b.2] e)).heap.size := k4
        rcases k4' with k | k
        · exact .inl (Option.some.inj k)
        · right
          have := Option.some.inj k
          rw [this]
          show w.heap.size < (w.heap.push _).size
          simp
theorem files_congr {len : Nat} {Pt Tx Pt' Tx' : Nat → ByteArray} (h : ∀ j, j < len → Pt j = Pt' j ∧ Tx j = Tx' j) : filesB len Pt Tx = filesB len Pt' Tx' := by
  have one : ∀ {Pt Tx Pt' Tx' : Nat → ByteArray}, (∀ j, j < len → Pt j = Pt' j ∧ Tx j = Tx' j) → FilesP len Pt Tx → FilesP len Pt' Tx' := fun h k => ⟨k.1, fun j hj => by
    have h1 := k.2 j hj
    rw [← (h j hj).1, ← (h j hj).2]
    refine ⟨h1.1, fun h0 => ?_⟩
    rw [← (h (j - 1) (by omega)).1]
    exact h1.2 h0⟩
  cases hf : filesB len Pt Tx with
  | true => exact (filesB_yes (one h (filesB_iff.1 hf))).symm
  | false =>
    refine (filesB_no fun k => ?_).symm
    have := filesB_yes (one (fun j hj => ⟨(h j hj).1.symm, (h j hj).2.symm⟩) k)
    rw [hf] at this
    cases this
end Go.Proofs.Ytdbpknmoacjodaa
namespace Go.Proofs.Ytdbpknmoacjodaa
open Go.RowKit Go.PlainAid Go.Sort

def OwnM (w : World) (base : Nat) (e : TypeId) (size g n cap k0 c : Nat) : Prop := ∃ xs, w.ownsRow base e size (.slice (some ⟨g, 0, none⟩) n cap) n xs ∧ ∀ i, i < c → xs[i]? = some (.string (mtS (k0 + i)))
theorem OwnM.start {w : World} {base size g n cap : Nat} {e : TypeId} {xs : List Value} (h : w.ownsRow base e size (.slice (some ⟨g, 0, none⟩) n cap) n xs) (k0 : Nat) : OwnM w base e size g n cap k0 0 := ⟨xs, h, fun i hi => absurd hi (Nat.not_lt_zero i)⟩
theorem OwnM.blk {w : World} {base size g n cap k0 c : Nat} {e : TypeId} (h : OwnM w base e size g n cap k0 c) : base ≤ g ∧ g < w.heap.size := by
  obtain ⟨xs, h1, _⟩ := h
  rcases h1.2 with ⟨h', _⟩ | ⟨g', cap', cur, h', hb, hg, _⟩
  · simp at h'
  · simp only [Value.slice.injEq, Option.some.injEq, Addr.mk.injEq, and_true, true_and] at h'
    obtain ⟨rfl, rfl⟩ := h'
    exact ⟨hb, (Array.getElem?_eq_some_iff.1 hg).1⟩
theorem OwnM.keep {w W : World} {base size g n cap k0 c : Nat} {e : TypeId} (h : OwnM w base e size g n cap k0 c) (hk : W.heap[g]? = w.heap[g]?) : OwnM W base e size g n cap k0 c := by
  obtain ⟨xs, h1, h2⟩ := h
  refine ⟨xs, ⟨h1.1, ?_⟩, h2⟩
  rcases h1.2 with ⟨h', _⟩ | ⟨g', cap', cur, h', hbs, hg, hr⟩
  · simp at h'
  · simp only [Value.slice.injEq, Option.some.injEq, Addr.mk.injEq, and_true, true_and] at h'
    obtain ⟨rfl, rfl⟩ := h'
    exact .inr ⟨g, cap, cur, rfl, hbs, hk.trans hg, hr⟩
theorem OwnM.later {w W : World} {base size g n cap k0 c : Nat} {e : TypeId} (h : OwnM w base e size g n cap k0 c) (hb : Below w.heap.size w W) : OwnM W base e size g n cap k0 c := h.keep (hb.block g h.blk.2)
theorem OwnM.has {w : World} {base size g n cap k0 c : Nat} {e : TypeId} (h : OwnM w base e size g n cap k0 c) (i : Nat) (hi : i < n * size) : ∃ v, w.cell? ⟨g, i, none⟩ = some v := by
  obtain ⟨xs, h1, _⟩ := h
  rw [h1.cellAt i hi]
  exact ⟨_, List.getElem?_eq_getElem (by rw [h1.1]; exact hi)⟩
theorem OwnM.cell {w : World} {base size g n cap k0 c : Nat} {e : TypeId} (h : OwnM w base e size g n cap k0 c) (i q : Nat) (hi : i < n * size) (hc : i < c) (hq : q = k0 + i) : w.cell? ⟨g, i, none⟩ = some (.string (mtS q)) := by
  obtain ⟨xs, h1, h2⟩ := h
  rw [h1.cellAt i hi, hq]
  exact h2 i hc
theorem OwnM.free {w : World} {base size g n cap k0 c : Nat} {e : TypeId} (h : OwnM w base e size g n cap k0 c) (i : Nat) : w.frozen? ⟨g, i, none⟩ = false := by
  obtain ⟨xs, h1, _⟩ := h
  exact h1.frozenAt i
theorem OwnM.put {w : World} {base size g n cap k0 c q : Nat} {e : TypeId} (h : OwnM w base e size g n cap k0 c) (hc : c < n * size) (hq : q = k0 + c) : OwnM (w.setCell ⟨g, c, none⟩ (.string (mtS q))) base e size g n cap k0 (c + 1) := by
  subst hq
  obtain ⟨xs, h1, h2⟩ := h
  have hl := h1.1
  refine ⟨xs.set c (.string (mtS (k0 + c))), (h1.stored c _).1, fun i hi => ?_⟩
  by_cases e : i = c
  · subst e
    exact List.getElem?_set_self (by omega)
  · rw [List.getElem?_set_ne (by omega)]
    exact h2 i (by omega)
theorem OwnM.nil {w : World} {base size g cap k0 c : Nat} {e : TypeId} (h : OwnM w base e size g 0 cap k0 0) (hc : c = 0) : OwnM w base e size g 0 cap k0 c := by rw [hc]; exact h
theorem gm_refl (w : World) (b : Option Nat) : w.grownBy w b := ⟨rfl, rfl, rfl, Nat.le_refl _, fun _ _ _ => rfl⟩
theorem gm_trans {w w1 w2 : World} {b : Option Nat} (h : w.grownBy w1 b) (k : w1.grownBy w2 b) : w.grownBy w2 b :=
  ⟨k.os.trans h.os, k.tape.trans h.tape, k.output.trans h.output, Nat.le_trans h.size k.size, fun i hi hn => (k.block i (Nat.lt_of_lt_of_le hi h.size) hn).trans (h.block i hi hn)⟩
theorem gm_below {w w1 w2 : World} {b : Option Nat} (h : w.grownBy w1 b) (k : Below w1.heap.size w1 w2) : w.grownBy w2 b :=
  gm_trans h ⟨k.os, k.tape, k.output, k.size, fun i hi _ => k.block i hi⟩
theorem gm_set {w w1 : World} {g i : Nat} {u : Value} (h : w.grownBy w1 (some g)) : w.grownBy (w1.setCell ⟨g, i, none⟩ u) (some g) :=
  gm_trans h ⟨rfl, rfl, rfl, by show _ ≤ (w1.heap.modify _ _).size; simp, fun k _ hn => Below.heap_setCell w1 ⟨g, i, none⟩ u k (fun e => hn (by rw [e]))⟩
end Go.Proofs.Ytdbpknmoacjodaa
namespace Go.Proofs.Ytdbpknmoacjodaa
open Go.RowKit Go.PlainAid Go.Sort

set_option maxRecDepth 100000 in
set_option maxHeartbeats 3200000 in
theorem markFileS_zeroP (a1 : Option Addr) (c1 k0 : Nat) (w : World) : Calls Try.prog 23 #[.slice a1 0 c1, .int .i64 k0] w fun e w' => e = .returned (.int .i64 k0) ∧ w' = w := by
  go_enter Try.func23, Try.ntmps23
  go_wp2
  go_loopg [1, 5] 1 (fun k q i wr => k = 1 ∧ q = .int .i64 k0 ∧ i = .int .i64 0 ∧ wr = w)
  case atStart => exact ⟨rfl, rfl, rfl, rfl⟩
  case round =>
    obtain ⟨rfl, rfl, rfl, rfl⟩ := hrel
    go_wp2
    go_ret
    exact ⟨rfl, rfl⟩
set_option maxRecDepth 100000 in
set_option maxHeartbeats 3200000 in
theorem markFileS_rowP (base g n cap k0 : Nat) (w : World) (h1 : OwnM w base 52 2 g n cap k0 (0)) (hn : n ≤ 1048576) (hk0 : 0 < k0) (hk : k0 ≤ 4194304) :
    Calls Try.prog 23 #[.slice (some ⟨g, 0, none⟩) n cap, .int .i64 k0] w fun e w' => e = .returned (.int .i64 ((k0 + n * 2 : Nat) : Int)) ∧ OwnM w' base 52 2 g n cap k0 (n * 2) ∧ w.grownBy w' (some g) := by
  have H1 := hidU h1
  clear h1
  go_enter Try.func23, Try.ntmps23
  go_wp2
  go_loopg [1, 5] n (fun k q i wr => ∃ j : Nat, i = .int .i64 j ∧ j + k = n ∧ q = .int .i64 ((k0 + j * 2 : Nat) : Int) ∧ OwnM wr base 52 2 g n cap k0 (j * 2) ∧ w.grownBy wr (some g))
  case atStart => exact ⟨0, rfl, by omega, by simp, by rw [Nat.zero_mul]; exact H1.out, gm_refl _ _⟩
  case round =>
    obtain ⟨j, rfl, hj, hq, ho, hg⟩ := hrel
    have HOr := hidU ho
    have HGr := hidU hg
    clear ho hg
    by_cases hlt : j < n
    · have hlti : (j : Int) < (n : Int) := by omega
      obtain ⟨q0, hq0⟩ : ∃ q0 : Nat, q0 = k0 + (j * 2) := ⟨_, rfl⟩
      rw [← hq0] at hq
      subst hq
      obtain ⟨q1, hq1⟩ : ∃ q1 : Nat, q1 = q0 + 1 := ⟨_, rfl⟩
      have eq1 : (q0 : Int) + 1 = (q1 : Int) := by omega
      obtain ⟨q2, hq2⟩ : ∃ q2 : Nat, q2 = q1 + 1 := ⟨_, rfl⟩
      have eq2 : (q1 : Int) + 1 = (q2 : Int) := by omega
      have HF0 : Hid (q0 = k0 + (j * 2)) := by show q0 = _; omega
      have HF1 : Hid (q1 = k0 + (j * 2 + 1)) := by show q1 = _; omega
      have HQ : Hid (q2 = k0 + (j * 2 + 2)) := by show q2 = _; omega
      have hqb : q2 ≤ 7000000 := by omega
      have hq0p : 0 < q0 := by omega
      have HQB0 : Hid (0 < q0 ∧ q0 ≤ 8000000) := ⟨by omega, by omega⟩
      have HQB1 : Hid (0 < q1 ∧ q1 ≤ 8000000) := ⟨by omega, by omega⟩
      obtain ⟨j1, hj1⟩ : ∃ j1, j1 = j + 1 := ⟨_, rfl⟩
      have ej : (j : Int) + 1 = (j1 : Int) := by omega
      have HJ := hidU hj1
      clear hj1 hq0 hq1 hq2
      obtain ⟨vr0, hvr0⟩ := HOr.out.has (j * 2) (by omega)
      have hfr0 := HOr.out.free (j * 2)
      obtain ⟨vr1, hvr1⟩ := HOr.out.has (j * 2 + 1) (by omega)
      have hfr1 := HOr.out.free (j * 2 + 1)
      go_wp2_with fail
      refine (markText_far q0 _ HQB0.out.1 HQB0.out.2).mono ?_
      rintro e w0 ⟨rfl, hb0⟩
      have HO0 := hidU (HOr.out.later hb0)
      have HG0 := hidU (gm_below HGr.out hb0)
      clear hb0
      obtain ⟨vt0_0, hvt0_0⟩ := HO0.out.has (j * 2) (by omega)
      have hft0_0 := HO0.out.free (j * 2)
      obtain ⟨vt0_1, hvt0_1⟩ := HO0.out.has (j * 2 + 1) (by omega)
      have hft0_1 := HO0.out.free (j * 2 + 1)
      have HO0x : Hid (OwnM (w0.setCell ⟨g, j * 2, none⟩ (.string (mtS q0))) base 52 2 g n cap k0 (j * 2 + 1)) := HO0.out.put (by omega) HF0.out
      have HG0x : Hid (w.grownBy (w0.setCell ⟨g, j * 2, none⟩ (.string (mtS q0))) (some g)) := gm_set HG0.out
      go_wp2_with fail
      refine (markText_far q1 _ HQB1.out.1 HQB1.out.2).mono ?_
      rintro e w1 ⟨rfl, hb1⟩
      have HO1 := hidU (HO0x.out.later hb1)
      have HG1 := hidU (gm_below HG0x.out hb1)
      clear hb1
      obtain ⟨vt1_1, hvt1_1⟩ := HO1.out.has (j * 2 + 1) (by omega)
      have hft1_1 := HO1.out.free (j * 2 + 1)
      have HO1x : Hid (OwnM (w1.setCell ⟨g, j * 2 + 1, none⟩ (.string (mtS q1))) base 52 2 g n cap k0 (j * 2 + 1 + 1)) := HO1.out.put (by omega) HF1.out
      have HG1x : Hid (w.grownBy (w1.setCell ⟨g, j * 2 + 1, none⟩ (.string (mtS q1))) (some g)) := gm_set HG1.out
      go_wp2
      go_roundg (gk - 1)
      case rel => exact ⟨j1, rfl, by have := HJ.out; omega, by have := HJ.out; have := HQ.out; rw [show q2 = k0 + j1 * 2 from by omega], by have := HO1x.out; rw [show j1 * 2 = j * 2 + 1 + 1 from by have := HJ.out; omega]; exact this, HG1x.out⟩
      case measure => omega
    · have hlti : ¬ (j : Int) < (n : Int) := by omega
      obtain rfl : j = n := by omega
      subst hq
      go_wp2
      go_ret
      exact ⟨rfl, HOr.out, HGr.out⟩
set_option maxRecDepth 100000 in
set_option maxHeartbeats 3200000 in
theorem heldFileS_zeroP (a1 : Option Addr) (c1 k0 : Nat) (w : World) : Calls Try.prog 24 #[.slice a1 0 c1, .int .i64 k0] w fun e w' => e = .returned (.int .i64 k0) ∧ w' = w := by
  go_enter Try.func24, Try.ntmps24
  go_wp2
  go_loopg [1, 5] 1 (fun k q i wr => k = 1 ∧ q = .int .i64 k0 ∧ i = .int .i64 0 ∧ wr = w)
  case atStart => exact ⟨rfl, rfl, rfl, rfl⟩
  case round =>
    obtain ⟨rfl, rfl, rfl, rfl⟩ := hrel
    go_wp2
    go_ret
    exact ⟨rfl, rfl⟩
set_option maxRecDepth 100000 in
set_option maxHeartbeats 3200000 in
theorem heldFileS_rowP (base g n cap k0 : Nat) (w : World) (h1 : OwnM w base 52 2 g n cap k0 (n * 2)) (hn : n ≤ 1048576) (hk0 : 0 < k0) (hk : k0 ≤ 4194304) :
    Calls Try.prog 24 #[.slice (some ⟨g, 0, none⟩) n cap, .int .i64 k0] w fun e w' => e = .returned (.int .i64 ((k0 + n * 2 : Nat) : Int)) ∧ Below w.heap.size w w' := by
  have H1 := hidU h1
  clear h1
  go_enter Try.func24, Try.ntmps24
  go_wp2
  go_loopg [1, 5] n (fun k q i wr => ∃ j : Nat, i = .int .i64 j ∧ j + k = n ∧ q = .int .i64 ((k0 + j * 2 : Nat) : Int) ∧ Below w.heap.size w wr)
  case atStart => exact ⟨0, rfl, by omega, by simp, Below.refl _ _⟩
  case round =>
    obtain ⟨j, rfl, hj, hq, hb⟩ := hrel
    have HB := hidU hb
    clear hb
    by_cases hlt : j < n
    · have hlti : (j : Int) < (n : Int) := by omega
      obtain ⟨q0, hq0⟩ : ∃ q0 : Nat, q0 = k0 + (j * 2) := ⟨_, rfl⟩
      rw [← hq0] at hq
      subst hq
      obtain ⟨q1, hq1⟩ : ∃ q1 : Nat, q1 = q0 + 1 := ⟨_, rfl⟩
      have eq1 : (q0 : Int) + 1 = (q1 : Int) := by omega
      obtain ⟨q2, hq2⟩ : ∃ q2 : Nat, q2 = q1 + 1 := ⟨_, rfl⟩
      have eq2 : (q1 : Int) + 1 = (q2 : Int) := by omega
      have HF0 : Hid (q0 = k0 + (j * 2)) := by show q0 = _; omega
      have HF1 : Hid (q1 = k0 + (j * 2 + 1)) := by show q1 = _; omega
      have HQ : Hid (q2 = k0 + (j * 2 + 2)) := by show q2 = _; omega
      have hqb : q2 ≤ 7000000 := by omega
      have hq0p : 0 < q0 := by omega
      have HQB0 : Hid (0 < q0 ∧ q0 ≤ 8000000) := ⟨by omega, by omega⟩
      have HQB1 : Hid (0 < q1 ∧ q1 ≤ 8000000) := ⟨by omega, by omega⟩
      have HC0 : Hid (wr.cell? ⟨g, j * 2, none⟩ = some (.string (mtS q0))) := (H1.out.later HB.out).cell (j * 2) q0 (by omega) (by omega) HF0.out
      have HC1 : Hid (wr.cell? ⟨g, j * 2 + 1, none⟩ = some (.string (mtS q1))) := (H1.out.later HB.out).cell (j * 2 + 1) q1 (by omega) (by omega) HF1.out
      have hglt := (H1.out.later HB.out).blk.2
      obtain ⟨j1, hj1⟩ : ∃ j1, j1 = j + 1 := ⟨_, rfl⟩
      have ej : (j : Int) + 1 = (j1 : Int) := by omega
      have HJ := hidU hj1
      clear hj1 hq0 hq1 hq2
      have cQ0 : ∀ d os, Calls Try.prog 71 #[.int .i64 (q0 : Int)] (grow (redrawn wr d) os) fun e w'' => e = .returned (.string (mtS q0)) ∧ ∃ p : Regrown, w'' = grow (redrawn wr p.d) p.os := fun d os => Calls.regrown_of (markText_far q0 _ HQB0.out.1 HQB0.out.2)
      go_wp2_with fail
      have kk := cell_regrown HC0.out
      refine wp_region_quiet_below (by kernel_rfl) (by kernel_rfl) ?_
      repeat (go_big_quiet_step (exact cQ0 _ _))
      refine wpQuiet_nil ?_
      intro w0 hw'
      obtain ⟨⟨dq, osq⟩, hw''⟩ := hw'
      have hb0 : Below wr.heap.size wr w0 := by rw [hw'']; exact below_regrown _ _ _
      have HB0 := hidU (HB.out.trans (hb0.mono HB.out.size))
      have HD1 := hidU ((hb0.cell hglt).trans HC1.out)
      have hglt0 := Nat.lt_of_lt_of_le hglt hb0.size
      clear hw'' kk cQ0 hb0 hglt
      have hglt := hglt0
      clear hglt0
      have cQ1 : ∀ d os, Calls Try.prog 71 #[.int .i64 (q1 : Int)] (grow (redrawn w0 d) os) fun e w'' => e = .returned (.string (mtS q1)) ∧ ∃ p : Regrown, w'' = grow (redrawn w0 p.d) p.os := fun d os => Calls.regrown_of (markText_far q1 _ HQB1.out.1 HQB1.out.2)
      go_wp2_with fail
      have kk := cell_regrown HD1.out
      refine wp_region_quiet_below (by kernel_rfl) (by kernel_rfl) ?_
      repeat (go_big_quiet_step (exact cQ1 _ _))
      refine wpQuiet_nil ?_
      intro w1 hw'
      obtain ⟨⟨dq, osq⟩, hw''⟩ := hw'
      have hb1 : Below w0.heap.size w0 w1 := by rw [hw'']; exact below_regrown _ _ _
      have HB1 := hidU (HB0.out.trans (hb1.mono HB0.out.size))
      have hglt1 := Nat.lt_of_lt_of_le hglt hb1.size
      clear hw'' kk cQ1 hb1 hglt
      have hglt := hglt1
      clear hglt1
      go_wp2
      go_roundg (gk - 1)
      case rel => exact ⟨j1, rfl, by have := HJ.out; omega, by have := HJ.out; have := HQ.out; rw [show q2 = k0 + j1 * 2 from by omega], HB1.out⟩
      case measure => omega
    · have hlti : ¬ (j : Int) < (n : Int) := by omega
      obtain rfl : j = n := by omega
      subst hq
      go_wp2
      go_ret
      exact ⟨rfl, HB.out⟩
end Go.Proofs.Ytdbpknmoacjodaa
namespace Go.Proofs.Ytdbpknmoacjodaa
open Go.RowKit Go.PlainAid Go.Sort

structure TextsAt (w : World) (a : Option Addr) (g n : Nat) (X : Nat → ByteArray) : Prop where
  addr : 0 < n → a = some ⟨g, 0, none⟩
  lt : 0 < n → g < w.heap.size
  cell : ∀ j, j < n → w.cell? ⟨g, j, none⟩ = some (.string (X j))
theorem TextsAt.later {w w' : World} {a : Option Addr} {g n : Nat} {X : Nat → ByteArray} (h : TextsAt w a g n X) (hb : Below w.heap.size w w') : TextsAt w' a g n X :=
  ⟨h.addr, fun k => Nat.lt_of_lt_of_le (h.lt k) hb.size, fun j hj => by rw [hb.cell (h.lt (by omega))]; exact h.cell j hj⟩
theorem TextsAt.nil (w : World) (a : Option Addr) (g : Nat) (X : Nat → ByteArray) : TextsAt w a g 0 X := ⟨fun h => absurd h (Nat.lt_irrefl _), fun h => absurd h (Nat.lt_irrefl _), fun j hj => absurd hj (Nat.not_lt_zero j)⟩
theorem ownS_texts {w : World} {base g n cap : Nat} {e : TypeId} {xs : List ByteArray} (h : OwnS w base e g n cap xs) : TextsAt w (some ⟨g, 0, none⟩) g n (fun j => xs.getD j { data := #[] }) :=
  ⟨fun _ => rfl, fun _ => (ownS_blk h).2, fun j hj => ownS_cell h j hj⟩
set_option maxRecDepth 100000 in
set_option maxHeartbeats 3200000 in
theorem eqStringS_plain (a1 a2 : Option Addr) (g1 g2 n c1 c2 : Nat) (X : Nat → ByteArray) (w : World) (h1 : TextsAt w a1 g1 n X) (h2 : TextsAt w a2 g2 n X) (hl : n ≤ 4294967296) :
    Calls Try.prog 61 #[.slice a1 n c1, .slice a2 n c2] w fun e w' => e = .returned (.bool true) ∧ Below w.heap.size w w' := by
  have H1 := hidU h1
  have H2 := hidU h2
  clear h1 h2
  go_enter Try.func61, Try.ntmps61
  go_wp2
  go_loopg [5] n (fun k i wr => ∃ j : Nat, i = .int .i64 j ∧ j + k = n ∧ Below w.heap.size w wr)
  case atStart => exact ⟨0, rfl, by omega, Below.refl _ _⟩
  case round =>
    obtain ⟨j, rfl, hj, hb⟩ := hrel
    have HB := hidU hb
    clear hb
    by_cases hlt : j < n
    · have hlti : (j : Int) < (n : Int) := by omega
      obtain rfl := H1.out.addr (by omega)
      obtain rfl := H2.out.addr (by omega)
      have C0 := hidU ((H1.out.later HB.out).cell j hlt)
      have D0 := hidU ((H2.out.later HB.out).cell j hlt)
      obtain ⟨j1, hj1⟩ : ∃ j1, j1 = j + 1 := ⟨_, rfl⟩
      have ej : (j : Int) + 1 = (j1 : Int) := by omega
      have HJ := hidU hj1
      clear hj1
      go_wp2
      have k0 := cell_regrown C0.out
      have l0 := cell_regrown D0.out
      refine wp_region_quiet_below (by kernel_rfl) (by kernel_rfl) ?_
      repeat (go_big_quiet_step (fail))
      refine wpQuiet_nil ?_
      intro w2 hw'
      obtain ⟨⟨dq, osq⟩, hw''⟩ := hw'
      have HB2 : Hid (Below w.heap.size w w2) := by show Below _ _ _; rw [hw'']; exact HB.out.trans ((below_regrown wr dq osq).mono HB.out.size)
      clear hw'' k0 l0 C0 D0
      go_wp2
      go_roundg (gk - 1)
      case rel => exact ⟨j1, rfl, by have := HJ.out; omega, HB2.out⟩
      case measure => omega
    · have hlti : ¬ (j : Int) < (n : Int) := by omega
      go_wp2
      go_ret
      exact ⟨rfl, HB.out⟩
end Go.Proofs.Ytdbpknmoacjodaa
namespace Go.Proofs.Ytdbpknmoacjodaa
open Go.RowKit Go.PlainAid

theorem szFile_any (p t : ByteArray) (left : Int) (w : World) (_ : p.size ≤ 9223372036854775807) (_ : t.size ≤ 9223372036854775807) (_ : 0 ≤ left) (_ : left ≤ 1048576) :
    Calls Try.prog 17 #[.agg #[.string p, .string t], .int .i64 left] w fun e w' => ∃ z : Int, e = .returned (.int .i64 z) ∧ z ≤ left ∧ -1 ≤ z ∧ (0 ≤ z → p.size ≤ 1048576 ∧ t.size ≤ 1048576) ∧ Below w.heap.size w w' := by
  go_enter Try.func17, Try.ntmps17
  go_wp2
  · go_ret
    exact ⟨-1, rfl, by omega, by omega, fun h => by omega, (Below.refl _ _).alloc (Nat.le_refl _) _⟩
  · go_ret
    exact ⟨-1, rfl, by omega, by omega, fun h => by omega, (Below.refl _ _).alloc (Nat.le_refl _) _⟩
  · go_ret
    exact ⟨_, rfl, by omega, by omega, fun h => by omega, (Below.refl _ _).alloc (Nat.le_refl _) _⟩
theorem toFile_any (p t : ByteArray) (w : World) :
    Calls Try.prog 20 #[.agg #[.string p, .string t]] w fun e w' => e = .returned (.agg #[.string p, .string t]) ∧ Below w.heap.size w w' := by
  go_enter Try.func20, Try.ntmps20
  go_wp2
  refine bodyPost_ret (results_cell_row rfl _ _ (w.heap.size + 1) 52 #[.string p, .string t] (0, 0) _ rfl ?_ Try.underlying52 rfl (by kernel_rfl)) rfl ?_
  · rw [heap_alloc_old _ _ (by show _ < ((w.heap.push _).push _).size; simp)]
    exact heap_alloc2_new w _ _
  · exact ⟨rfl, (((Below.refl _ _).alloc (Nat.le_refl _) _).alloc (by show _ ≤ (w.heap.push _).size; simp) _).alloc (by show _ ≤ ((w.heap.push _).push _).size; simp; omega) _⟩
theorem eqFile_any (p t : ByteArray) (w : World) :
    Calls Try.prog 70 #[.agg #[.string p, .string t], .agg #[.string p, .string t]] w fun e w' => e = .returned (.bool true) ∧ Below w.heap.size w w' := by
  go_enter Try.func70, Try.ntmps70
  go_wp2
  go_ret
  exact ⟨rfl, ((Below.refl _ _).alloc (Nat.le_refl _) _).alloc (by show _ ≤ (w.heap.push _).size; simp) _⟩

set_option maxRecDepth 100000 in
set_option maxHeartbeats 1600000 in
theorem szFileS_any (a : Option Addr) (b off len cap : Nat) (Pt Tx : Nat → ByteArray) (w : World) (hf : FilesAt w a b off len Pt Tx) (_ : len ≤ 9223372036854775807)
    (hp : ∀ j, j < len → (Pt j).size ≤ 9223372036854775807) (ht : ∀ j, j < len → (Tx j).size ≤ 9223372036854775807) :
    Calls Try.prog 16 #[.slice a len cap, .int .i64 1048576] w fun e w' => ∃ z : Int, e = .returned (.int .i64 z) ∧ (0 ≤ z → len ≤ 1048576 ∧ ∀ j, j < len → (Pt j).size ≤ 1048576 ∧ (Tx j).size ≤ 1048576) ∧ Below w.heap.size w w' := by
  by_cases hl : len ≤ 1048576
  · go_enter Try.func16, Try.ntmps16
    go_wp2
    go_loopw [1, 5] (fun l i wr => ∃ (k : Nat) (z : Int), k ≤ len ∧ i = .int .i64 k ∧ l = .int .i64 z ∧ 0 ≤ z ∧ z ≤ 1048576 ∧ (∀ j, j < k → (Pt j).size ≤ 1048576 ∧ (Tx j).size ≤ 1048576) ∧ Below w.heap.size w wr) (fun _ i _ => (len - intOf i).toNat)
    case atStart => exact ⟨0, _, by omega, rfl, rfl, by omega, by omega, fun j hj => by omega, Below.refl _ _⟩
    case round =>
      obtain ⟨k, z, hk, rfl, rfl, hz0, hz1, hok, hb⟩ := hrel
      have HOK : Hid (∀ j, j < k → (Pt j).size ≤ 1048576 ∧ (Tx j).size ≤ 1048576) := hok
      clear hok
      by_cases hlt : k < len
      · obtain rfl := hf.addr (by omega)
        have hf' := hf.later hb
        have c0 := hf'.path k hlt
        have c1 := hf'.text k hlt
        go_wp2_with fail
        refine (szFile_any _ _ _ _ (hp k hlt) (ht k hlt) hz0 hz1).mono ?_
        rintro e w1 ⟨z1, rfl, hz2, hz3, hz4, hb1⟩
        have hb2 := hb.trans (hb1.mono hb.size)
        by_cases hz5 : 0 ≤ z1
        · have HN : Hid (∀ j, j < k + 1 → (Pt j).size ≤ 1048576 ∧ (Tx j).size ≤ 1048576) := fun j hj => by
            by_cases e : j = k
            · rw [e]; exact hz4 hz5
            · exact HOK.out j (by omega)
          clear hz4
          go_wp2
          go_roundw
          case rel => exact ⟨k + 1, z1, by omega, by go_num, rfl, hz5, by omega, HN.out, hb2⟩
          case measure => simp [intOf]; omega
        · clear hz4
          go_wp2
          go_ret
          exact ⟨-1, rfl, fun h => by omega, hb2⟩
      · go_wp2
        go_ret
        exact ⟨z, rfl, fun _ => ⟨hl, fun j hj => HOK.out j (by omega)⟩, hb⟩
  · go_enter Try.func16, Try.ntmps16
    go_wp2
    go_ret
    exact ⟨-1, rfl, fun h => by omega, Below.refl _ _⟩

theorem Try.infoFile : (Try.prog.info? 52).map (fun i => (i.zero, i.size, i.bytes)) = some (some (.agg #[.string { data := #[] }, .string { data := #[] }]), 2, 32) := by kernel_rfl
set_option maxRecDepth 100000 in
set_option maxHeartbeats 1600000 in
theorem toFileS_any (a : Option Addr) (b off len cap : Nat) (Pt Tx : Nat → ByteArray) (w : World) (hf : FilesAt w a b off len Pt Tx) (hl : len ≤ 1048576) :
    Calls Try.prog 19 #[.slice a len cap] w fun e w' => ∃ g, e = .returned (.slice (some ⟨g, 0, none⟩) len len) ∧ OwnF w' w.heap.size 52 g len len Pt Tx ∧ Below w.heap.size w w' := by
  obtain ⟨i0, hi, hz0, hz1, hz2⟩ := info_parts Try.infoFile
  go_enter Try.func19, Try.ntmps19
  go_wp2_with (first | (at_make; refine wpList_make_full w rfl _ _ 48 rfl w.heap.size 52 i0 _ 2 Try.underlying48 hi hz0 hz1 .i64 .i64 _ _ len (by rfl) (by rfl) rfl rfl (by rw [hz2]; omega) (by unfold maxLen; omega) (Nat.le_refl _) ?_))
  intro w1 hown1 hgr1
  have hb1 : Below w.heap.size w w1 := (Below.refl _ _).grown hgr1 (Nat.le_refl _) (fun k h => by cases h)
  have hown : OwnF w1 w.heap.size 52 w.heap.size len 0 Pt Tx := ⟨_, hown1, fun j hj => absurd hj (Nat.not_lt_zero j)⟩
  clear hown1 hgr1
  go_wp2
  go_loopw [4] (fun i wr => ∃ k : Nat, k ≤ len ∧ i = .int .i64 k ∧ OwnF wr w.heap.size 52 w.heap.size len k Pt Tx ∧ Below w.heap.size w wr) (fun i _ => (len - intOf i).toNat)
  case atStart => exact ⟨0, by omega, rfl, hown, hb1⟩
  case round =>
    obtain ⟨k, hk, rfl, hown, hb⟩ := hrel
    by_cases hlt : k < len
    · obtain rfl := hf.addr (by omega)
      have hf' := hf.later hb
      have c0 := hf'.path k hlt
      have c1 := hf'.text k hlt
      go_wp2_with fail
      refine (toFile_any _ _ _).mono ?_
      rintro e w2 ⟨rfl, hb2⟩
      have hown2 := hown.later hb2
      obtain ⟨v0, g0⟩ := hown2.has (k * 2) (by omega)
      obtain ⟨v1, g1⟩ := hown2.has (k * 2 + 1) (by omega)
      have f0 := hown2.free (k * 2)
      have f1 := hown2.free (k * 2 + 1)
      have HF := hown2.fill hlt
      have hb3 := hb.trans (hb2.mono hb.size)
      clear c0 c1
      go_wp2
      go_roundw
      case rel => exact ⟨k + 1, by omega, by go_num, HF, (hb3.setCell (Nat.le_refl _) _).setCell (Nat.le_refl _) _⟩
      case measure => simp [intOf]; omega
    · obtain rfl : k = len := by omega
      go_wp2
      go_ret
      exact ⟨_, rfl, hown, hb⟩

set_option maxRecDepth 100000 in
set_option maxHeartbeats 1600000 in
theorem eqFileS_any (g1 g2 len : Nat) (Pt Tx : Nat → ByteArray) (w : World) (hf : FilesAt w (some ⟨g1, 0, none⟩) g1 0 len Pt Tx) (hg : FilesAt w (some ⟨g2, 0, none⟩) g2 0 len Pt Tx) (hl : len ≤ 1048576) :
    Calls Try.prog 22 #[.slice (some ⟨g1, 0, none⟩) len len, .slice (some ⟨g2, 0, none⟩) len len] w fun e w' => e = .returned (.bool true) ∧ Below w.heap.size w w' := by
  go_enter Try.func22, Try.ntmps22
  go_wp2
  go_loopw [5] (fun i wr => ∃ k : Nat, k ≤ len ∧ i = .int .i64 k ∧ Below w.heap.size w wr) (fun i _ => (len - intOf i).toNat)
  case atStart => exact ⟨0, by omega, rfl, Below.refl _ _⟩
  case round =>
    obtain ⟨k, hk, rfl, hb⟩ := hrel
    by_cases hlt : k < len
    · have hf' := hf.later hb
      have hg' := hg.later hb
      have c0 := hf'.path k hlt
      have c1 := hf'.text k hlt
      have d0 := hg'.path k hlt
      have d1 := hg'.text k hlt
      rw [Nat.zero_add] at c0 c1 d0 d1
      clear hf' hg'
      go_wp2
      go_region_law (first | (go_simp; go_wp2_with (go_at_call 70; refine (eqFile_any _ _ _).mono ?_; rintro e w2 ⟨rfl, hb2⟩)))
      all_goals
        have hb3 : Below w.heap.size w w2 := hb.drew.trans (hb2.mono hb.drew.size)
        go_wp2
        go_roundw
        case rel => exact ⟨k + 1, by omega, by go_num, hb3⟩
        case measure => simp [intOf]; omega
    · go_wp2
      go_ret
      exact ⟨rfl, hb⟩
end Go.Proofs.Ytdbpknmoacjodaa
namespace Go.Proofs.Ytdbpknmoacjodaa
open Go.RowKit Go.PlainAid

set_option maxRecDepth 100000 in
set_option maxHeartbeats 1600000 in
theorem szFileS_at (left : Int) (hl0 : 0 ≤ left) (hl1 : left ≤ 1048576) (a : Option Addr) (b off len cap : Nat) (Pt Tx : Nat → ByteArray) (w : World) (hf : FilesAt w a b off len Pt Tx) (_ : len ≤ 9223372036854775807)
    (hp : ∀ j, j < len → (Pt j).size ≤ 9223372036854775807) (ht : ∀ j, j < len → (Tx j).size ≤ 9223372036854775807) :
    Calls Try.prog 16 #[.slice a len cap, .int .i64 left] w fun e w' => ∃ z : Int, e = .returned (.int .i64 z) ∧ z ≤ left ∧ -1 ≤ z ∧ (0 ≤ z → len ≤ 1048576 ∧ ∀ j, j < len → (Pt j).size ≤ 1048576 ∧ (Tx j).size ≤ 1048576) ∧ Below w.heap.size w w' := by
  by_cases hl : (len : Int) ≤ left
  · go_enter Try.func16, Try.ntmps16
    go_wp2
    go_loopw [1, 5] (fun l i wr => ∃ (k : Nat) (z : Int), k ≤ len ∧ i = .int .i64 k ∧ l = .int .i64 z ∧ 0 ≤ z ∧ z ≤ left ∧ (∀ j, j < k → (Pt j).size ≤ 1048576 ∧ (Tx j).size ≤ 1048576) ∧ Below w.heap.size w wr) (fun _ i _ => (len - intOf i).toNat)
    case atStart => exact ⟨0, _, by omega, rfl, rfl, by omega, by omega, fun j hj => by omega, Below.refl _ _⟩
    case round =>
      obtain ⟨k, z, hk, rfl, rfl, hz0, hz1, hok, hb⟩ := hrel
      have HOK : Hid (∀ j, j < k → (Pt j).size ≤ 1048576 ∧ (Tx j).size ≤ 1048576) := hok
      clear hok
      by_cases hlt : k < len
      · obtain rfl := hf.addr (by omega)
        have hf' := hf.later hb
        have c0 := hf'.path k hlt
        have c1 := hf'.text k hlt
        go_wp2_with fail
        refine (szFile_any _ _ _ _ (hp k hlt) (ht k hlt) hz0 (by omega)).mono ?_
        rintro e w1 ⟨z1, rfl, hz2, hz3, hz4, hb1⟩
        have hb2 := hb.trans (hb1.mono hb.size)
        by_cases hz5 : 0 ≤ z1
        · have HN : Hid (∀ j, j < k + 1 → (Pt j).size ≤ 1048576 ∧ (Tx j).size ≤ 1048576) := fun j hj => by
            by_cases e : j = k
            · rw [e]; exact hz4 hz5
            · exact HOK.out j (by omega)
          clear hz4
          go_wp2
          go_roundw
          case rel => exact ⟨k + 1, z1, by omega, by go_num, rfl, hz5, by omega, HN.out, hb2⟩
          case measure => simp [intOf]; omega
        · clear hz4
          go_wp2
          go_ret
          exact ⟨-1, rfl, by omega, by omega, fun h => by omega, hb2⟩
      · go_wp2
        go_ret
        exact ⟨z, rfl, hz1, by omega, fun _ => ⟨by omega, fun j hj => HOK.out j (by omega)⟩, hb⟩
  · go_enter Try.func16, Try.ntmps16
    go_wp2
    go_ret
    exact ⟨-1, rfl, by omega, by omega, fun h => by omega, Below.refl _ _⟩

set_option maxRecDepth 100000 in
set_option maxHeartbeats 1600000 in
theorem eqFileS_anyC (a1 a2 : Option Addr) (g1 g2 len c1 c2 : Nat) (Pt Tx : Nat → ByteArray) (w : World) (hf : FilesAt w a1 g1 0 len Pt Tx) (hg : FilesAt w a2 g2 0 len Pt Tx) (hl : len ≤ 1048576) :
    Calls Try.prog 22 #[.slice a1 len c1, .slice a2 len c2] w fun e w' => e = .returned (.bool true) ∧ Below w.heap.size w w' := by
  go_enter Try.func22, Try.ntmps22
  go_wp2
  go_loopw [5] (fun i wr => ∃ k : Nat, k ≤ len ∧ i = .int .i64 k ∧ Below w.heap.size w wr) (fun i _ => (len - intOf i).toNat)
  case atStart => exact ⟨0, by omega, rfl, Below.refl _ _⟩
  case round =>
    obtain ⟨k, hk, rfl, hb⟩ := hrel
    by_cases hlt : k < len
    · obtain rfl := hf.addr (by omega)
      obtain rfl := hg.addr (by omega)
      have hf' := hf.later hb
      have hg' := hg.later hb
      have c0 := hf'.path k hlt
      have c1 := hf'.text k hlt
      have d0 := hg'.path k hlt
      have d1 := hg'.text k hlt
      rw [Nat.zero_add] at c0 c1 d0 d1
      clear hf' hg'
      go_wp2
      go_region_law (first | (go_simp; go_wp2_with (go_at_call 70; refine (eqFile_any _ _ _).mono ?_; rintro e w2 ⟨rfl, hb2⟩)))
      all_goals
        have hb3 : Below w.heap.size w w2 := hb.drew.trans (hb2.mono hb.drew.size)
        go_wp2
        go_roundw
        case rel => exact ⟨k + 1, by omega, by go_num, hb3⟩
        case measure => simp [intOf]; omega
    · go_wp2
      go_ret
      exact ⟨rfl, hb⟩
end Go.Proofs.Ytdbpknmoacjodaa
namespace Go.Proofs.Ytdbpknmoacjodaa
open Go.RowKit Go.PlainAid Go.Sort

def OutS (w : World) (base : Nat) (a : Option Addr) (n cap : Nat) (xs : List ByteArray) : Prop := n = xs.length ∧ (0 < n → ∃ g, a = some ⟨g, 0, none⟩ ∧ OwnS w base 9 g n cap xs)
theorem OutS.own {w : World} {base g n cap : Nat} {xs : List ByteArray} (h : OwnS w base 9 g n cap xs) : OutS w base (some ⟨g, 0, none⟩) n cap xs := ⟨h.2, fun _ => ⟨g, rfl, h⟩⟩
theorem OutS.nil (w : World) (base : Nat) (a : Option Addr) (cap : Nat) : OutS w base a 0 cap [] := ⟨rfl, fun h => absurd h (Nat.lt_irrefl _)⟩
theorem OutS.later {w W : World} {base n cap : Nat} {a : Option Addr} {xs : List ByteArray} (h : OutS w base a n cap xs) (hb : Below w.heap.size w W) : OutS W base a n cap xs :=
  ⟨h.1, fun k => by obtain ⟨g, e, h1⟩ := h.2 k; exact ⟨g, e, ownS_later h1 hb⟩⟩
theorem OutS.texts {w : World} {base n cap : Nat} {a : Option Addr} {xs : List ByteArray} (h : OutS w base a n cap xs) : ∃ g, TextsAt w a g n (fun j => xs.getD j { data := #[] }) := by
  rcases Nat.eq_zero_or_pos n with e | e
  · subst e
    exact ⟨0, TextsAt.nil _ _ _ _⟩
  · obtain ⟨g, rfl, h1⟩ := h.2 e
    exact ⟨g, ownS_texts h1⟩
def Marked (w : World) (base : Nat) (t : TypeId) (size : Nat) (a : Option Addr) (n cap : Nat) : Prop := 0 < n → ∃ g, a = some ⟨g, 0, none⟩ ∧ OwnM w base t size g n cap 1 (n * size)
theorem Marked.later {w W : World} {base size n cap : Nat} {t : TypeId} {a : Option Addr} (h : Marked w base t size a n cap) (hb : Below w.heap.size w W) : Marked W base t size a n cap :=
  fun k => by obtain ⟨g, e, h1⟩ := h k; exact ⟨g, e, h1.later hb⟩
theorem gm_under {w w' : World} {g b : Nat} (h : w.grownBy w' (some g)) (hb : b ≤ g) (hw : b ≤ w.heap.size) : Below b w w' :=
  ⟨h.os, h.tape, h.output, h.size, fun k hk => h.block k (by omega) fun e => by have := Option.some.inj e; omega⟩
def OutF (w : World) (base : Nat) (a : Option Addr) (n cap : Nat) (fs : List Fl) : Prop := n = fs.length ∧ (0 < n → ∃ g, a = some ⟨g, 0, none⟩ ∧ OwnFl w base 52 g n cap fs)
theorem OutF.own {w : World} {base g n cap : Nat} {fs : List Fl} (h : OwnFl w base 52 g n cap fs) : OutF w base (some ⟨g, 0, none⟩) n cap fs := ⟨h.2, fun _ => ⟨g, rfl, h⟩⟩
theorem OutF.nil (w : World) (base : Nat) (a : Option Addr) (cap : Nat) : OutF w base a 0 cap [] := ⟨rfl, fun h => absurd h (Nat.lt_irrefl _)⟩
theorem OutF.later {w W : World} {base n cap : Nat} {a : Option Addr} {fs : List Fl} (h : OutF w base a n cap fs) (hb : Below w.heap.size w W) : OutF W base a n cap fs :=
  ⟨h.1, fun k => by obtain ⟨g, e, h1⟩ := h.2 k; exact ⟨g, e, ownFl_later h1 hb⟩⟩
theorem files_nil (w : World) (a : Option Addr) (b off : Nat) (Pt Tx : Nat → ByteArray) : FilesAt w a b off 0 Pt Tx := ⟨fun h => absurd h (Nat.lt_irrefl _), fun h => absurd h (Nat.lt_irrefl _), fun j hj => absurd hj (Nat.not_lt_zero j), fun j hj => absurd hj (Nat.not_lt_zero j)⟩
theorem OutF.files {w : World} {base n cap : Nat} {a : Option Addr} {fs : List Fl} (h : OutF w base a n cap fs) : ∃ g, FilesAt w a g 0 n (ptOf fs) (txOf fs) := by
  rcases Nat.eq_zero_or_pos n with e | e
  · subst e
    exact ⟨0, files_nil _ _ _ _ _ _⟩
  · obtain ⟨g, rfl, h1⟩ := h.2 e
    exact ⟨g, ownFl_files h1⟩
theorem markF_out (w : World) (base : Nat) (a : Option Addr) (n cap : Nat) (fs : List Fl) (h : OutF w base a n cap fs) (hw : base ≤ w.heap.size) (hn : n ≤ 1048576) :
    Calls Try.prog 23 #[.slice a n cap, .int .i64 1] w fun e w' => e = .returned (.int .i64 ((1 + n * 2 : Nat) : Int)) ∧ Marked w' base 52 2 a n cap ∧ Below base w w' := by
  rcases Nat.eq_zero_or_pos n with e | e
  · subst e
    refine (markFileS_zeroP a cap 1 w).mono ?_
    rintro e w1 ⟨rfl, rfl⟩
    exact ⟨rfl, fun k => absurd k (Nat.lt_irrefl _), Below.refl _ _⟩
  · obtain ⟨g, rfl, h1⟩ := h.2 e
    refine (markFileS_rowP base g n cap 1 w (OwnM.start h1.1 1) hn (by omega) (by omega)).mono ?_
    rintro e w1 ⟨rfl, h2, h3⟩
    exact ⟨rfl, fun _ => ⟨g, rfl, h2⟩, gm_under h3 (ownFl_blk h1).1 hw⟩
theorem heldF_out (w : World) (base : Nat) (a : Option Addr) (n cap : Nat) (h : Marked w base 52 2 a n cap) (hn : n ≤ 1048576) :
    Calls Try.prog 24 #[.slice a n cap, .int .i64 1] w fun e w' => e = .returned (.int .i64 ((1 + n * 2 : Nat) : Int)) ∧ Below w.heap.size w w' := by
  rcases Nat.eq_zero_or_pos n with e | e
  · subst e
    refine (heldFileS_zeroP a cap 1 w).mono ?_
    rintro e w1 ⟨rfl, rfl⟩
    exact ⟨rfl, Below.refl _ _⟩
  · obtain ⟨g, rfl, h1⟩ := h e
    exact heldFileS_rowP base g n cap 1 w h1 hn (by omega) (by omega)
theorem OutS.aside {w w' : World} {base n cap x : Nat} {a : Option Addr} {xs : List ByteArray} (h : OutS w base a n cap xs) (hg : w.grownBy w' (some x)) (hx : x < base) : OutS w' base a n cap xs :=
  ⟨h.1, fun k => by
    obtain ⟨g, e, h1⟩ := h.2 k
    have hk := ownS_blk h1
    exact ⟨g, e, ownS_keep h1 (hg.block g hk.2 (fun e' => by have := Option.some.inj e'; omega))⟩⟩
theorem OutF.aside {w w' : World} {base n cap x : Nat} {a : Option Addr} {fs : List Fl} (h : OutF w base a n cap fs) (hg : w.grownBy w' (some x)) (hx : x < base) : OutF w' base a n cap fs :=
  ⟨h.1, fun k => by
    obtain ⟨g, e, h1⟩ := h.2 k
    have hk := ownFl_blk h1
    exact ⟨g, e, ownFl_keep h1 (hg.block g hk.2 (fun e' => by have := Option.some.inj e'; omega))⟩⟩
theorem ownF_blk {w : World} {base g len : Nat} {e : TypeId} {Pt Tx : Nat → ByteArray} (h : OwnF w base e g len len Pt Tx) : base ≤ g ∧ g < w.heap.size := by
  obtain ⟨xs, h1, _⟩ := h
  exact (OwnM.start h1 1).blk
theorem markF_arg (w : World) (base g len : Nat) (Pt Tx : Nat → ByteArray) (h : OwnF w base 52 g len len Pt Tx) (hn : len ≤ 1048576) :
    Calls Try.prog 23 #[.slice (some ⟨g, 0, none⟩) len len, .int .i64 1] w fun e w' => e = .returned (.int .i64 ((1 + len * 2 : Nat) : Int)) ∧ w.grownBy w' (some g) := by
  obtain ⟨xs, h1, _⟩ := h
  refine (markFileS_rowP base g len len 1 w (OwnM.start h1 1) hn (by omega) (by omega)).mono ?_
  rintro e w1 ⟨rfl, _, h3⟩
  exact ⟨rfl, h3⟩
theorem markF_argK (k0 : Nat) (w : World) (base g len : Nat) (Pt Tx : Nat → ByteArray) (h : OwnF w base 52 g len len Pt Tx) (hn : len ≤ 1048576) (hk0 : 0 < k0) (hk : k0 ≤ 4194304) :
    Calls Try.prog 23 #[.slice (some ⟨g, 0, none⟩) len len, .int .i64 (k0 : Int)] w fun e w' => e = .returned (.int .i64 ((k0 + len * 2 : Nat) : Int)) ∧ w.grownBy w' (some g) := by
  obtain ⟨xs, h1, _⟩ := h
  refine (markFileS_rowP base g len len k0 w (OwnM.start h1 k0) hn hk0 hk).mono ?_
  rintro e w1 ⟨rfl, _, h3⟩
  exact ⟨rfl, h3⟩
theorem OwnF.asideF {w w' : World} {base g len x : Nat} {e : TypeId} {Pt Tx : Nat → ByteArray} (h : OwnF w base e g len len Pt Tx) (hg : w.grownBy w' (some x)) (hx : x < base) : OwnF w' base e g len len Pt Tx := by
  have hk := ownF_blk h
  obtain ⟨xs, h1, h2⟩ := h
  refine ⟨xs, ⟨h1.1, ?_⟩, h2⟩
  rcases h1.2 with ⟨h', _⟩ | ⟨g', cap', cur, h', hbs, hgg, hr⟩
  · simp at h'
  · simp only [Value.slice.injEq, Option.some.injEq, Addr.mk.injEq, and_true, true_and] at h'
    obtain ⟨rfl, rfl⟩ := h'
    exact .inr ⟨g, len, cur, rfl, hbs, (hg.block g hk.2 (fun e' => by have := Option.some.inj e'; omega)).trans hgg, hr⟩
end Go.Proofs.Ytdbpknmoacjodaa
