/-
  Rows of files of the call's own that grow. No program is spoken of.
-/
import Derived.Test.YtdbpknmoacjodaaCfCleanMathToImgMath
import Derived.Maps.AppendAt
namespace Go.Proofs.Ytdbpknmoacjodaa
open Go.RowKit Go.PlainAid

abbrev Fl := ByteArray × ByteArray
def flL (x : Fl) : List Value := [.string x.1, .string x.2]
def flNo : Fl := ({ data := #[] }, { data := #[] })
def ptOf (fs : List Fl) (j : Nat) : ByteArray := (fs.getD j flNo).1
def txOf (fs : List Fl) (j : Nat) : ByteArray := (fs.getD j flNo).2
def flsOf (len : Nat) (Pt Tx : Nat → ByteArray) : List Fl := (List.range len).map fun j => (Pt j, Tx j)
theorem flsOf_len (len : Nat) (Pt Tx : Nat → ByteArray) : (flsOf len Pt Tx).length = len := by simp [flsOf]
theorem flsOf_at {len : Nat} {Pt Tx : Nat → ByteArray} {j : Nat} (h : j < len) : (flsOf len Pt Tx)[j]? = some (Pt j, Tx j) := by
  unfold flsOf
  rw [List.getElem?_map, List.getElem?_range h]
  rfl
theorem fl_flat (fs : List Fl) : ∀ (j i : Nat) (x : Fl), i < 2 → fs[j]? = some x → (fs.flatMap flL)[j * 2 + i]? = (flL x)[i]? := by
  induction fs with
  | nil => intro j i x _ h; cases h
  | cons u fs ih =>
    intro j i x hi h
    rw [List.flatMap_cons]
    cases j with
    | zero =>
      cases h
      rw [Nat.zero_mul, Nat.zero_add, List.getElem?_append_left (by show i < 2; exact hi)]
    | succ j =>
      rw [List.getElem?_append_right (by show 2 ≤ _; omega), show (j + 1) * 2 + i - (flL u).length = j * 2 + i from by show (j + 1) * 2 + i - 2 = _; omega]
      exact ih j i x hi h
theorem fl_flat_len (fs : List Fl) : (fs.flatMap flL).length = fs.length * 2 := by
  induction fs with
  | nil => rfl
  | cons u fs ih => rw [List.flatMap_cons, List.length_append, ih, List.length_cons]; show 2 + _ = _; omega
def OwnFl (w : World) (base : Nat) (e : TypeId) (g n cap : Nat) (fs : List Fl) : Prop := w.ownsRow base e 2 (.slice (some ⟨g, 0, none⟩) n cap) n (fs.flatMap flL) ∧ n = fs.length
theorem ownFl_blk {w : World} {base g n cap : Nat} {e : TypeId} {fs : List Fl} (h : OwnFl w base e g n cap fs) : base ≤ g ∧ g < w.heap.size := by
  rcases h.1.2 with ⟨h', _⟩ | ⟨g', cap', cur, h', hb, hg, _⟩
  · simp at h'
  · simp only [Value.slice.injEq, Option.some.injEq, Addr.mk.injEq, and_true, true_and] at h'
    obtain ⟨rfl, rfl⟩ := h'
    exact ⟨hb, (Array.getElem?_eq_some_iff.1 hg).1⟩
theorem ownFl_cap {w : World} {base g n cap : Nat} {e : TypeId} {fs : List Fl} (h : OwnFl w base e g n cap fs) : n ≤ cap := by
  rcases h.1.2 with ⟨h', _⟩ | ⟨g', cap', cur, h', _, _, hc, _⟩
  · simp at h'
  · simp only [Value.slice.injEq, Option.some.injEq, Addr.mk.injEq, and_true, true_and] at h'
    obtain ⟨_, rfl⟩ := h'
    exact hc
theorem ownFl_keep {w W : World} {base g n cap : Nat} {e : TypeId} {fs : List Fl} (h : OwnFl w base e g n cap fs) (hk : W.heap[g]? = w.heap[g]?) : OwnFl W base e g n cap fs := by
  refine ⟨⟨h.1.1, ?_⟩, h.2⟩
  rcases h.1.2 with ⟨h', _⟩ | ⟨g', cap', cur, h', hbs, hg, hr⟩
  · simp at h'
  · simp only [Value.slice.injEq, Option.some.injEq, Addr.mk.injEq, and_true, true_and] at h'
    obtain ⟨rfl, rfl⟩ := h'
    exact .inr ⟨g, cap, cur, rfl, hbs, hk.trans hg, hr⟩
theorem ownFl_later {w W : World} {base g n cap : Nat} {e : TypeId} {fs : List Fl} (h : OwnFl w base e g n cap fs) (hb : Below w.heap.size w W) : OwnFl W base e g n cap fs := ownFl_keep h (hb.block g (ownFl_blk h).2)
theorem ownFl_low {w : World} {base b g n cap : Nat} {e : TypeId} {fs : List Fl} (h : OwnFl w base e g n cap fs) (hb : b ≤ base) : OwnFl w b e g n cap fs := by
  refine ⟨⟨h.1.1, ?_⟩, h.2⟩
  rcases h.1.2 with ⟨h', _⟩ | ⟨g', cap', cur, h', hbs, hg, hr⟩
  · simp at h'
  · exact .inr ⟨g', cap', cur, h', Nat.le_trans hb hbs, hg, hr⟩
theorem ownFl_nil (w : World) (e : TypeId) : OwnFl (w.alloc (.cells #[] e)) w.heap.size e w.heap.size 0 0 [] := ⟨World.ownsRow_lit w #[] 0 (Nat.le_refl _) (by unfold maxLen; omega) rfl, rfl⟩
theorem ownFl_files {w : World} {base g n cap : Nat} {e : TypeId} {fs : List Fl} (h : OwnFl w base e g n cap fs) : FilesAt w (some ⟨g, 0, none⟩) g 0 n (ptOf fs) (txOf fs) := by
  have hl := h.2
  have at' : ∀ j, j < n → fs[j]? = some (fs.getD j flNo) := fun j hj => by simp [List.getD, List.getElem?_eq_getElem (show j < fs.length by omega)]
  refine ⟨fun _ => rfl, fun _ => (ownFl_blk h).2, fun j hj => ?_, fun j hj => ?_⟩
  · rw [Nat.zero_add, h.1.cellAt _ (by omega)]
    exact fl_flat fs j 0 _ (by omega) (at' j hj)
  · rw [Nat.zero_add, h.1.cellAt _ (by omega)]
    exact fl_flat fs j 1 _ (by omega) (at' j hj)
theorem app_file {P : Program} (w : World) {ops : Array Oper} {rest : List Oper} {o : Oper} {a : Act} {Q : Exit → Act → World → Prop} (hgd : o.guard = none) (s x : Operand) (t : TypeId)
    (ho : o.op = .call { callee := .builtin .append, args := #[s, x], argTypes := #[t, t] })
    (base : Nat) (e : TypeId) (i : TypeInfo) (z : Value) (ht : P.underlying t = some (.slice e)) (hi : P.info? e = some i) (hz : i.zero = some z) (hsize : i.size = 2) (hby : i.bytes = 32) (hzs : z.cells.size = 2)
    (g n cap : Nat) (fs : List Fl) (hs : a.eval s = .slice (some ⟨g, 0, none⟩) n cap) (hown : OwnFl w base e g n cap fs)
    (b : Fl) (hx : a.eval x = .slice (some ⟨w.heap.size, 0, none⟩) 1 1) (hn : n + 1 ≤ 1000000)
    (h : ∀ g' cap' w', OwnFl w' base e g' (n + 1) cap' (fs ++ [b]) → w.grownBy w' (some g) → (g' = g ∨ w.heap.size < g') → wpList P ops Q rest (a.put o.dst (.slice (some ⟨g', 0, none⟩) (n + 1) cap')) w') :
    wpList P ops Q (o :: rest) a (w.alloc (.cells #[.string b.1, .string b.2] e)) := by
  obtain ⟨hb0, hb1⟩ := ownFl_blk hown
  refine wpList_append_own_at _ hgd s x t ho base e i z 2 32 ht hi hz hsize hby hzs (by decide) _ n _ hs (hown.1.alloc _) ⟨w.heap.size, 0, none⟩ 1 1 (flL b) hx rfl ?_ ?_ ?_ ?_ ?_ ?_
  · intro j u hj
    match j, hj with
    | 0, hj => cases hj; simp [Addr.add]
    | 1, hj => cases hj; simp [Addr.add]
  · intro u hu
    simp [flL] at hu
    rcases hu with rfl | rfl <;> rfl
  · unfold maxLen; omega
  · omega
  · simp; omega
  · intro v' w' k1 k2 k3 k4
    rcases k1.2 with ⟨hv, hn0⟩ | ⟨g', cap', cur, rfl, hrest⟩
    · omega
    · refine h g' cap' w' ⟨by rw [List.flatMap_append]; simpa using k1, by rw [List.length_append]; have := hown.2; simp; omega⟩ ?_ ?_
      · have k2' : (w.alloc (.cells #[.string b.1, .string b.2] e)).grownBy w' (some g) := k2
        have hsz : (w.alloc (.cells #[.string b.1, .string b.2] e)).heap.size = w.heap.size + 1 := by show (w.heap.push _).size = _; simp
        exact ⟨k2'.os, k2'.tape, k2'.output, by have := k2'.size; omega, fun k hk hne => (k2'.block k (by omega) hne).trans (heap_alloc_old w _ hk)⟩
      · have k4' : some g' = some g ∨ some g' = some (w.alloc (.cells #[.string b.1, .string b.2] e)).heap.size := k4
        rcases k4' with k | k
        · exact .inl (Option.some.inj k)
        · right
          have := Option.some.inj k
          rw [this]
          show w.heap.size < (w.heap.push _).size
          simp
theorem files_congr {len : Nat} {Pt Tx Pt' Tx' : Nat → ByteArray} (h : ∀ j, j < len → Pt j = Pt' j ∧ Tx j = Tx' j) : filesB len Pt Tx = filesB len Pt' Tx' := by
  have one : ∀ {Pt Tx Pt' Tx' : Nat → ByteArray}, (∀ j, j < len → Pt j = Pt' j ∧ Tx j = Tx' j) → FilesP len Pt Tx → FilesP len Pt' Tx' := fun h k => ⟨k.1, fun j hj => by
    have h1 := k.2 j hj
    rw [← (h j hj).1, ← (h j hj).2]
    refine ⟨h1.1, fun h0 => ?_⟩
    rw [← (h (j - 1) (by omega)).1]
    exact h1.2 h0⟩
  cases hf : filesB len Pt Tx with
  | true => exact (filesB_yes (one h (filesB_iff.1 hf))).symm
  | false =>
    refine (filesB_no fun k => ?_).symm
    have := filesB_yes (one (fun j hj => ⟨(h j hj).1.symm, (h j hj).2.symm⟩) k)
    rw [hf] at this
    cases this
end Go.Proofs.Ytdbpknmoacjodaa
