/-
  A row of files in memory, each a path and a text, and when files are right: plain facts. No program is spoken of.
-/
import Derived.Test.YtllhnofobkgjgaaCleanMath
namespace Go.Proofs.Ytllhnofobkgjgaa
open Go.RowKit Go.PlainAid

structure FilesAt (w : World) (a : Option Addr) (b off len : Nat) (Pt Tx : Nat → ByteArray) : Prop where
  addr : 0 < len → a = some ⟨b, off, none⟩
  lt : 0 < len → b < w.heap.size
  path : ∀ j, j < len → w.cell? ⟨b, off + j * 2, none⟩ = some (.string (Pt j))
  text : ∀ j, j < len → w.cell? ⟨b, off + j * 2 + 1, none⟩ = some (.string (Tx j))
theorem FilesAt.later {w w' : World} {a : Option Addr} {b off len : Nat} {Pt Tx : Nat → ByteArray} (h : FilesAt w a b off len Pt Tx) (hb : Below w.heap.size w w') : FilesAt w' a b off len Pt Tx :=
  ⟨h.addr, fun k => Nat.lt_of_lt_of_le (h.lt k) hb.size, fun j hj => by rw [hb.cell (h.lt (by omega))]; exact h.path j hj, fun j hj => by rw [hb.cell (h.lt (by omega))]; exact h.text j hj⟩

def OwnF (w : World) (base : Nat) (e : TypeId) (g len k : Nat) (Pt Tx : Nat → ByteArray) : Prop :=
  ∃ xs, w.ownsRow base e 2 (.slice (some ⟨g, 0, none⟩) len len) len xs ∧ ∀ j, j < k → xs[j * 2]? = some (.string (Pt j)) ∧ xs[j * 2 + 1]? = some (.string (Tx j))
theorem OwnF.has {w : World} {base g len k : Nat} {e : TypeId} {Pt Tx : Nat → ByteArray} (h : OwnF w base e g len k Pt Tx) (j : Nat) (hj : j < len * 2) : ∃ v, w.cell? ⟨g, j, none⟩ = some v := by
  obtain ⟨xs, h1, _⟩ := h
  have hl := h1.1
  rw [h1.cellAt j hj]
  exact ⟨_, List.getElem?_eq_getElem (by omega)⟩
theorem OwnF.free {w : World} {base g len k : Nat} {e : TypeId} {Pt Tx : Nat → ByteArray} (h : OwnF w base e g len k Pt Tx) (j : Nat) : w.frozen? ⟨g, j, none⟩ = false := by
  obtain ⟨xs, h1, _⟩ := h
  exact h1.frozenAt j
theorem OwnF.fill {w : World} {base g len k : Nat} {e : TypeId} {Pt Tx : Nat → ByteArray} (h : OwnF w base e g len k Pt Tx) (hk : k < len) :
    OwnF ((w.setCell ⟨g, k * 2, none⟩ (.string (Pt k))).setCell ⟨g, k * 2 + 1, none⟩ (.string (Tx k))) base e g len (k + 1) Pt Tx := by
  obtain ⟨xs, h1, h2⟩ := h
  have hl := h1.1
  refine ⟨_, ((h1.stored (k * 2) (.string (Pt k))).1.stored (k * 2 + 1) (.string (Tx k))).1, fun j hj => ?_⟩
  by_cases e : j = k
  · subst e
    constructor
    · rw [List.getElem?_set, if_neg (by omega), List.getElem?_set, if_pos rfl, if_pos (by omega)]
    · rw [List.getElem?_set, if_pos rfl, if_pos (by rw [List.length_set]; omega)]
  · have h3 := h2 j (by omega)
    rw [List.getElem?_set, if_neg (by omega), List.getElem?_set, if_neg (by omega), List.getElem?_set, if_neg (by omega), List.getElem?_set, if_neg (by omega)]
    exact h3
theorem OwnF.lt {w : World} {base g len k : Nat} {e : TypeId} {Pt Tx : Nat → ByteArray} (h : OwnF w base e g len k Pt Tx) : g < w.heap.size ∧ base ≤ g := by
  obtain ⟨xs, h1, _⟩ := h
  rcases h1.2 with ⟨h', _⟩ | ⟨g', cap', cur, h', hb, hg, _⟩
  · simp at h'
  · simp only [Value.slice.injEq, Option.some.injEq, Addr.mk.injEq, and_true, true_and] at h'
    obtain ⟨rfl, rfl⟩ := h'
    exact ⟨(Array.getElem?_eq_some_iff.1 hg).1, hb⟩
theorem OwnF.files {w : World} {base g len : Nat} {e : TypeId} {Pt Tx : Nat → ByteArray} (h : OwnF w base e g len len Pt Tx) : FilesAt w (some ⟨g, 0, none⟩) g 0 len Pt Tx := by
  have hlt := h.lt.1
  obtain ⟨xs, h1, h2⟩ := h
  refine ⟨fun _ => rfl, fun _ => hlt, fun j hj => ?_, fun j hj => ?_⟩
  · rw [Nat.zero_add, h1.cellAt _ (by omega)]
    exact (h2 j hj).1
  · rw [Nat.zero_add, h1.cellAt _ (by omega)]
    exact (h2 j hj).2
theorem OwnF.later {w w' : World} {base g len k : Nat} {e : TypeId} {Pt Tx : Nat → ByteArray} (h : OwnF w base e g len k Pt Tx) (hb : Below w.heap.size w w') : OwnF w' base e g len k Pt Tx := by
  have hlt := h.lt.1
  obtain ⟨xs, h1, h2⟩ := h
  refine ⟨xs, ⟨h1.1, ?_⟩, h2⟩
  rcases h1.2 with k | ⟨g', cap', cur, hv, hbase, hg, hr⟩
  · exact .inl k
  · simp only [Value.slice.injEq, Option.some.injEq, Addr.mk.injEq, and_true, true_and] at hv
    obtain ⟨rfl, rfl⟩ := hv
    exact .inr ⟨g, len, cur, rfl, hbase, (hb.block g hlt).trans hg, hr⟩

theorem box_cells {w w1 : World} {p t : ByteArray} {e : TypeId} (hb : Below (w.alloc (.cells #[.string p, .string t] e)).heap.size (w.alloc (.cells #[.string p, .string t] e)) w1) :
    w1.cell? ⟨w.heap.size, 0, none⟩ = some (.string p) ∧ w1.cell? ⟨w.heap.size, 1, none⟩ = some (.string t) ∧ Below w.heap.size w w1 := by
  have hs : (w.alloc (.cells #[.string p, .string t] e)).heap.size = w.heap.size + 1 := by show (w.heap.push _).size = _; simp
  have h1 : Below w.heap.size w (w.alloc (.cells #[.string p, .string t] e)) := (Below.refl _ _).alloc (Nat.le_refl _) _
  refine ⟨?_, ?_, h1.trans (hb.mono h1.size)⟩
  · rw [hb.cell (by show w.heap.size < _; omega), World.cell?_alloc_new]; rfl
  · rw [hb.cell (by show w.heap.size < _; omega), World.cell?_alloc_new]; rfl
def fpB (p : ByteArray) : Bool := pathB p && !(p.toList == [47]) && ((cleanS p).toList == p.toList)
def fileB (p t : ByteArray) : Bool := fpB p && decide ((t.size : Int) ≤ 1500)
abbrev FilesP (len : Nat) (Pt Tx : Nat → ByteArray) : Prop := len ≤ 8 ∧ ∀ k, k < len → fileB (Pt k) (Tx k) = true ∧ (0 < k → Op.bytesLess (Pt (k - 1)).toList (Pt k).toList = true)
def filesB (len : Nat) (Pt Tx : Nat → ByteArray) : Bool := decide (FilesP len Pt Tx)
theorem filesB_yes {len : Nat} {Pt Tx : Nat → ByteArray} (h : FilesP len Pt Tx) : filesB len Pt Tx = true := decide_eq_true h
theorem filesB_no {len : Nat} {Pt Tx : Nat → ByteArray} (h : ¬ FilesP len Pt Tx) : filesB len Pt Tx = false := decide_eq_false h
theorem filesB_iff {len : Nat} {Pt Tx : Nat → ByteArray} : filesB len Pt Tx = true ↔ FilesP len Pt Tx := decide_eq_true_iff
abbrev FilesTo (k : Nat) (Pt Tx : Nat → ByteArray) : Prop := ∀ j, j < k → fileB (Pt j) (Tx j) = true ∧ (0 < j → Op.bytesLess (Pt (j - 1)).toList (Pt j).toList = true)
theorem filesTo_next {k : Nat} {Pt Tx : Nat → ByteArray} (h : FilesTo k Pt Tx) (h1 : fileB (Pt k) (Tx k) = true) (h2 : 0 < k → Op.bytesLess (Pt (k - 1)).toList (Pt k).toList = true) : FilesTo (k + 1) Pt Tx := by
  intro j hj
  by_cases e : j = k
  · subst e; exact ⟨h1, h2⟩
  · exact h j (by omega)
theorem fpB_no_path {p : ByteArray} (h : pathB p = false) : fpB p = false := by rw [fpB, h]; rfl
theorem fpB_root {p : ByteArray} (h : (p.toList == [47]) = true) : fpB p = false := by rw [fpB, h]; simp
theorem fpB_clean {p : ByteArray} (h : ((cleanS p).toList == p.toList) = false) : fpB p = false := by rw [fpB, h]; simp
theorem fpB_yes {p : ByteArray} (h0 : pathB p = true) (h1 : (p.toList == [47]) = false) (h2 : ((cleanS p).toList == p.toList) = true) : fpB p = true := by rw [fpB, h0, h1, h2]; rfl
theorem fpB_empty {p : ByteArray} (h : p.toList.isEmpty = true) : fpB p = false := by
  have hz : p.size = 0 := by
    rw [Lib.toList_data] at h
    have e : p.data.toList.length = p.size := by rw [Array.length_toList]; rfl
    rw [List.isEmpty_iff.1 h] at e
    exact e.symm
  refine fpB_no_path (pathB_no fun k => ?_)
  have := k.1
  omega
theorem path_of_clean {p : ByteArray} (h0 : p.toList.isEmpty = false) (h2 : ((cleanS p).toList == p.toList) = true) : pathB p = true := by
  cases hp : pathB p with
  | true => rfl
  | false =>
    rw [cleanS_no hp] at h2
    have e := (toList_eq_iff _ _).1 h2
    rw [← e, Lib.toList_data] at h0
    cases h0
theorem fileB_path {p t : ByteArray} (h : fpB p = false) : fileB p t = false := by rw [fileB, h]; rfl
theorem fileB_text {p t : ByteArray} (h : ¬ (t.size : Int) ≤ 1500) : fileB p t = false := by rw [fileB, decide_eq_false h]; simp
theorem fileB_yes {p t : ByteArray} (h : fpB p = true) (ht : (t.size : Int) ≤ 1500) : fileB p t = true := by rw [fileB, h, decide_eq_true ht]; rfl

def findTo (Pt Tx : Nat → ByteArray) (q : ByteArray) : Nat → ByteArray × Bool
  | 0 => ({ data := #[] }, false)
  | k + 1 => if (findTo Pt Tx q k).2 = true then findTo Pt Tx q k else if Pt k = q then (Tx k, true) else ({ data := #[] }, false)
def findS (len : Nat) (Pt Tx : Nat → ByteArray) (q : ByteArray) : ByteArray × Bool := if filesB len Pt Tx = true then findTo Pt Tx q len else ({ data := #[] }, false)
theorem findTo_none {Pt Tx : Nat → ByteArray} {q : ByteArray} (k : Nat) (h : ∀ j, j < k → Pt j ≠ q) : findTo Pt Tx q k = ({ data := #[] }, false) := by
  induction k with
  | zero => rfl
  | succ k ih => rw [findTo, ih (fun j hj => h j (by omega)), if_neg (by simp), if_neg (h k (by omega))]
theorem findTo_at {Pt Tx : Nat → ByteArray} {q : ByteArray} {k : Nat} (hk : Pt k = q) (h : ∀ j, j < k → Pt j ≠ q) (m : Nat) (hm : k < m) : findTo Pt Tx q m = (Tx k, true) := by
  induction m with
  | zero => omega
  | succ m ih =>
    rw [findTo]
    by_cases e : k = m
    · subst e
      rw [findTo_none k h, if_neg (by simp), if_pos hk]
    · rw [ih (by omega), if_pos rfl]
theorem findS_bad {len : Nat} {Pt Tx : Nat → ByteArray} {q : ByteArray} (h : filesB len Pt Tx = false) : findS len Pt Tx q = ({ data := #[] }, false) := by rw [findS, h]; rfl
theorem findS_at {len : Nat} {Pt Tx : Nat → ByteArray} {q : ByteArray} {k : Nat} (hb : filesB len Pt Tx = true) (hlt : k < len) (hk : Pt k = q) (h : ∀ j, j < k → Pt j ≠ q) : findS len Pt Tx q = (Tx k, true) := by
  rw [findS, if_pos hb, findTo_at hk h len hlt]
theorem findS_none {len : Nat} {Pt Tx : Nat → ByteArray} {q : ByteArray} (h : ∀ j, j < len → Pt j ≠ q) : findS len Pt Tx q = ({ data := #[] }, false) := by
  rw [findS]
  split
  · exact findTo_none len h
  · rfl
end Go.Proofs.Ytllhnofobkgjgaa
