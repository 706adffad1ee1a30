/-
  What impl.copyFiles answers: the walk.
-/
import Derived.Test.YtjofmbgacmdpeaaCfImplFiles
import Derived.Test.YtjofmbgacmdpeaaCfRowsCat
import Derived.Test.YtjofmbgacmdpeaaCfSpecPutFile
import Derived.Laws.MakeOwn
namespace Go.Proofs.Ytjofmbgacmdpeaa
open Go.RowKit Go.PlainAid Go.Sort

theorem PutW.grow2 {w wr W : World} {e : TypeId} {g n cap gx g' cap' : Nat} {out ys : List Fl} {x : Fl} (h : PutW w wr e g n cap out gx x) (ho : OwnFl W w.heap.size e g' (n + 1) cap' ys) (k : wr.grownBy W (some g)) (hg : g' = g ∨ wr.heap.size ≤ g') : PutW w W e g' (n + 1) cap' ys gx x := by
  have hx := (Array.getElem?_eq_some_iff.1 h.box).1
  refine ⟨ho, (k.block gx hx (fun e => h.ne (Option.some.inj e).symm)).trans h.box, ?_, h.bel.grown k h.bel.size (fun j hj => by cases hj; exact (ownFl_blk h.out).1)⟩
  rcases hg with rfl | hg
  · exact h.ne
  · omega
theorem PutW.alloc {w wr : World} {e : TypeId} {g n cap gx : Nat} {out : List Fl} {x : Fl} (h : PutW w wr e g n cap out gx x) (o : Obj) : PutW w (wr.alloc o) e g n cap out gx x := h.later ((Below.refl _ _).alloc (Nat.le_refl _) _)
theorem ownFl_has {w : World} {base g n cap : Nat} {e : TypeId} {fs : List Fl} (h : OwnFl w base e g n cap fs) {j : Nat} {x : Fl} (hj : fs[j]? = some x) : w.cell? ⟨g, j * 2, none⟩ = some (.string x.1) ∧ w.cell? ⟨g, j * 2 + 1, none⟩ = some (.string x.2) := by
  have hl : j < n := by rw [h.2]; exact (List.getElem?_eq_some_iff.1 hj).1
  constructor
  · rw [h.1.cellAt _ (by omega)]
    exact fl_flat fs j 0 x (by omega) hj
  · rw [h.1.cellAt _ (by omega)]
    exact fl_flat fs j 1 x (by omega) hj
theorem take_fls {len k : Nat} {Pt Tx : Nat → ByteArray} (h : k < len) : (flsOf len Pt Tx).take (k + 1) = (flsOf len Pt Tx).take k ++ [(Pt k, Tx k)] := take_snoc (flsOf_at h)
set_option maxRecDepth 100000 in
set_option maxHeartbeats 1600000 in
theorem copyFiles_any (a : Option Addr) (g len cap : Nat) (Pt Tx : Nat → ByteArray) (w : World) (hf : FilesAt w a g 0 len Pt Tx) (hl : len ≤ 1000) (hp : ∀ j, j < len → (Pt j).size ≤ 1048576) (ht : ∀ j, j < len → (Tx j).size ≤ 1048576) :
    Calls Try.prog 57 #[.slice a len cap] w fun e w' => ∃ g' cap', e = .returned (.slice (some ⟨g', 0, none⟩) len cap') ∧ OwnFl w' w.heap.size 33 g' len cap' (flsOf len Pt Tx) ∧ Below w.heap.size w w' := by
  obtain ⟨i0, hi, hz0, hz1, hz2⟩ := info_parts Try.infoFile
  have HF := hidU hf
  have HP := hidU hp
  have HT := hidU ht
  clear hf hp ht
  obtain ⟨w1, hmk, ho1, hg1⟩ := run_make_own w w.heap.size 24 33 i0 _ 2 Try.underlying24 hi hz0 hz1 .i64 .i64 len (by rw [hz2]; omega) (by unfold maxLen; omega) (Nat.le_refl _)
  have O1 : Hid (OwnFl w1 w.heap.size 33 w.heap.size 0 len []) := ⟨ho1, rfl⟩
  have B1 : Hid (Below w.heap.size w w1) := ⟨hg1.os, hg1.tape, hg1.output, hg1.size, fun k hk => hg1.block k hk (by simp)⟩
  clear ho1 hg1
  go_enter Try.func57, Try.ntmps57
  go_wp2
  go_loopw [11, 3, 5] (fun i o _ wr => ∃ (k g' cap' : Nat), k ≤ len ∧ i = .int .i64 k ∧ o = .slice (some ⟨g', 0, none⟩) k cap' ∧ OwnFl wr w.heap.size 33 g' k cap' ((flsOf len Pt Tx).take k) ∧ Below w.heap.size w wr) (fun i _ _ _ => (len - intOf i).toNat)
  case atStart => exact ⟨0, w.heap.size, len, Nat.zero_le _, rfl, rfl, O1.out, B1.out⟩
  case round =>
    obtain ⟨k, g', cap', hk, rfl, rfl, ho, hb⟩ := hrel
    by_cases hlt : k < len
    · obtain rfl := HF.out.addr (by omega)
      have hf' := HF.out.later hb
      have c0 := hf'.path k hlt
      have c1 := hf'.text k hlt
      rw [Nat.zero_add] at c0 c1
      have hps := HP.out k hlt
      have hts := HT.out k hlt
      obtain ⟨W, hW⟩ : ∃ W, W = wr.alloc (.cells #[.string (Pt k), .string (Tx k)] 33) := ⟨_, rfl⟩
      have H : Hid (PutW w W.drew 33 g' k cap' ((flsOf len Pt Tx).take k) wr.heap.size (Pt k, Tx k)) := by
        show PutW _ _ _ _ _ _ _ _ _
        have h1 : PutW w W 33 g' k cap' ((flsOf len Pt Tx).take k) wr.heap.size (Pt k, Tx k) := by
          subst hW
          exact ⟨ownFl_later ho ((Below.refl _ _).alloc (Nat.le_refl _) _), heap_alloc_new wr _, Nat.ne_of_lt (ownFl_blk ho).2, hb.alloc hb.size _⟩
        exact h1.later (Below.refl _ _).drew
      have HE := hidU (take_fls (Pt := Pt) (Tx := Tx) hlt)
      have HW := hidU hW
      obtain ⟨gx, hgx⟩ : ∃ gx, gx = wr.heap.size := ⟨_, rfl⟩
      have HGX := hidU hgx
      rw [← hgx] at H
      clear ho hb hf' hW hgx O1 B1 hmk
      go_wp2
      rw [← HW.out, ← HGX.out]
      clear HW c0 c1
      obtain ⟨x0, x1, x2⟩ := H.out.cells
      go_region_law (first | (refine step_file rfl (.tmp 15) (.tmp 23) 24 rfl w.heap.size 33 i0 _ Try.underlying24 hi hz0 hz1 hz2 rfl g' k cap' _ (by rfl) (by exact (H.out.alloc _).out) _ (Pt k, Tx k) (by rfl) (by exact heap_alloc_new _ _) (by omega) ?_; intro g4 cap4 w4 ho4 hg4 hat4; have H4 := hidU ((H.out.alloc _).grow2 ho4 hg4 hat4); clear ho4 hg4 hat4) | ((try go_simp); go_wp2_with (go_at_call 58; refine (clone_any _ _ (by omega)).mono ?_; rintro e w3 ⟨rfl, hb3⟩; have H := hidU (H.out.later hb3); obtain ⟨x0, x1, x2⟩ := H.out.cells; clear hb3)))
      all_goals
        go_wp2
        go_roundw
        case rel => exact ⟨k + 1, g4, cap4, hlt, by go_num, rfl, by rw [HE.out]; exact H4.out.out, H4.out.bel⟩
        case measure => simp [intOf]; omega
    · obtain rfl : k = len := by omega
      have O2 := hidU ho
      rw [List.take_of_length_le (by rw [flsOf_len]; omega)] at O2
      clear ho
      go_wp2
      go_ret
      exact ⟨g', cap', rfl, O2.out, hb⟩
end Go.Proofs.Ytjofmbgacmdpeaa
