/-
  What impl.copyFiles answers: the walk.
-/
import Derived.Test.YtdbpknmoacjodaaCdImplFiles
import Derived.Test.YtdbpknmoacjodaaCdRowsCat
import Derived.Test.YtdbpknmoacjodaaCdSpecPutFileToFilesLaw
namespace Go.Proofs.Ytdbpknmoacjodaa
open Go.RowKit Go.PlainAid Go.Sort

theorem PutW.grow2 {w wr W : World} {e : TypeId} {g n cap gx g' cap' : Nat} {out ys : List Fl} {x : Fl} (h : PutW w wr e g n cap out gx x) (ho : OwnFl W w.heap.size e g' (n + 1) cap' ys) (k : wr.grownBy W (some g)) (hg : g' = g ∨ wr.heap.size ≤ g') : PutW w W e g' (n + 1) cap' ys gx x := by
  have hx := (Array.getElem?_eq_some_iff.1 h.box).1
  refine ⟨ho, (k.block gx hx (fun e => h.ne (Option.some.inj e).symm)).trans h.box, ?_, h.bel.grown k h.bel.size (fun j hj => by cases hj; exact (ownFl_blk h.out).1)⟩
  rcases hg with rfl | hg
  · exact h.ne
  · omega
theorem PutW.alloc {w wr : World} {e : TypeId} {g n cap gx : Nat} {out : List Fl} {x : Fl} (h : PutW w wr e g n cap out gx x) (o : Obj) : PutW w (wr.alloc o) e g n cap out gx x := h.later ((Below.refl _ _).alloc (Nat.le_refl _) _)
theorem ownFl_has {w : World} {base g n cap : Nat} {e : TypeId} {fs : List Fl} (h : OwnFl w base e g n cap fs) {j : Nat} {x : Fl} (hj : fs[j]? = some x) : w.cell? ⟨g, j * 2, none⟩ = some (.string x.1) ∧ w.cell? ⟨g, j * 2 + 1, none⟩ = some (.string x.2) := by
  have hl : j < n := by rw [h.2]; exact (List.getElem?_eq_some_iff.1 hj).1
  constructor
  · rw [h.1.cellAt _ (by omega)]
    exact fl_flat fs j 0 x (by omega) hj
  · rw [h.1.cellAt _ (by omega)]
    exact fl_flat fs j 1 x (by omega) hj
theorem take_fls {len k : Nat} {Pt Tx : Nat → ByteArray} (h : k < len) : (flsOf len Pt Tx).take (k + 1) = (flsOf len Pt Tx).take k ++ [(Pt k, Tx k)] := take_snoc (flsOf_at h)
theorem files_row {w : World} {a : Option Addr} {g len : Nat} {Pt Tx : Nat → ByteArray} (h : FilesAt w a g 0 len Pt Tx) : RowAt w a flL 2 (flsOf len Pt Tx) := by
  by_cases h0 : len = 0
  · exact .inl (List.eq_nil_of_length_eq_zero (by rw [flsOf_len]; exact h0))
  · refine .inr ⟨g, 0, h.addr (by omega), h.lt (by omega), fun j x hx i v hv => ?_⟩
    have hj : j < len := by have := (List.getElem?_eq_some_iff.1 hx).1; rw [flsOf_len] at this; exact this
    rw [flsOf_at hj] at hx
    obtain rfl := Option.some.inj hx
    match i, hv with
    | 0, hv =>
      cases hv
      have := h.path j hj
      rw [Nat.zero_add] at this ⊢
      exact this
    | 1, hv =>
      cases hv
      have := h.text j hj
      rw [Nat.zero_add] at this ⊢
      exact this
set_option maxRecDepth 100000 in
set_option maxHeartbeats 1600000 in
theorem copyFiles_any (a : Option Addr) (g len cap : Nat) (Pt Tx : Nat → ByteArray) (w : World) (hf : FilesAt w a g 0 len Pt Tx) (hl : len ≤ 1000) (hp : ∀ j, j < len → (Pt j).size ≤ 1048576) (ht : ∀ j, j < len → (Tx j).size ≤ 1048576) :
    Calls Try.prog 69 #[.slice a len cap] w fun e w' => ∃ g' cap', e = .returned (.slice (some ⟨g', 0, none⟩) len cap') ∧ OwnFl w' w.heap.size 52 g' len cap' (flsOf len Pt Tx) ∧ Below w.heap.size w w' := by
  have HC := hidI (copyRowsFile_any a cap (flsOf len Pt Tx) w (files_row hf) (by rw [flsOf_len]; omega) fun x hx => by
    obtain ⟨j, hj⟩ := List.getElem?_of_mem hx
    have hlt : j < len := by have := (List.getElem?_eq_some_iff.1 hj).1; rw [flsOf_len] at this; exact this
    rw [flsOf_at hlt] at hj
    obtain rfl := Option.some.inj hj
    have h1 := hp j hlt
    have h2 := ht j hlt
    exact ⟨by show (Pt j).size ≤ _; omega, by show (Tx j).size ≤ _; omega⟩)
  rw [flsOf_len] at HC
  clear hf hp ht
  go_enter Try.func69, Try.ntmps69
  go_wp2_with fail
  refine HC.out.mono ?_
  rintro e w1 ⟨g', cap', rfl, ho, hb⟩
  have HO := hidI ho
  have HB := hidI hb
  clear ho hb HC
  go_wp2
  go_ret
  exact ⟨g', cap', rfl, HO.out, HB.out⟩
end Go.Proofs.Ytdbpknmoacjodaa
