/-
  What impl.copyFile answers, and impl.copyRows of such: the walks.
-/
import Derived.Test.YtdbpknmoacjodaaCfEncMod
import Derived.Laws.MakeOwn
import Derived.Deep.DeepCutAuto
import Derived.BigRegion
import Derived.Test.YtdbpknmoacjodaaCfOrderInvToSlotsG
namespace Go.Proofs.Ytdbpknmoacjodaa
open Go.RowKit Go.PlainAid Go.Sort

def flE : Enc Fl := ⟨flL, 2, fun _ => rfl, by decide, by simp [Value.oneCell', flL]⟩
theorem Try.infoCFile : (Try.prog.info? 52).map (fun i => (i.zero, i.size, i.bytes)) = some (some (.agg #[.string { data := #[] }, .string { data := #[] }]), 2, 32) := by kernel_rfl
def StFile (x : Fl) : Prop := x.1.size ≤ 281474976710656 ∧ x.2.size ≤ 281474976710656
theorem cellsFile {W : World} {g : Nat} {t : TypeId} {k0 k1 : Value} (h : W.heap[g]? = some (.cells #[k0, k1] t (0, 0))) : W.cell? ⟨g, 0, none⟩ = some k0 ∧ W.cell? ⟨g, 1, none⟩ = some k1 ∧ ∀ i, W.frozen? ⟨g, i, none⟩ = false := by
  refine ⟨?_, ?_, fun i => ?_⟩ <;> simp [World.cell?, World.frozen?, h]
def slVFile (x : Fl) (gx : Nat) : Nat → Value
  | 0 => .pointer (some ⟨gx, 0, none⟩)
  | 1 => .string x.1
  | 2 => .string x.1
  | 3 => .pointer (some ⟨gx, 1, none⟩)
  | 4 => .string x.2
  | 5 => .string x.2
  | 6 => .agg #[.string x.1, .string x.2]
  | 7 => undef
  | _ => undef
def slFFile : Nat → Option Nat
  | 0 => some 3
  | 1 => some 4
  | 2 => some 5
  | 3 => some 6
  | 4 => some 7
  | 5 => some 8
  | 6 => some 9
  | 7 => none
  | _ => none
theorem slFile (a0 : Act) (h : a0.tmps.size = 10) : SlotsOk a0 slFFile 8 := by
  intro i hi s hs
  rw [h]
  obtain rfl | rfl | rfl | rfl | rfl | rfl | rfl | rfl : i = 0 ∨ i = 1 ∨ i = 2 ∨ i = 3 ∨ i = 4 ∨ i = 5 ∨ i = 6 ∨ i = 7 := by omega
  all_goals first
    | (cases hs; done)
    | (cases hs
       refine ⟨by decide, fun j hj hjs => ?_⟩
       obtain rfl | rfl | rfl | rfl | rfl | rfl | rfl | rfl : j = 0 ∨ j = 1 ∨ j = 2 ∨ j = 3 ∨ j = 4 ∨ j = 5 ∨ j = 6 ∨ j = 7 := by omega
       all_goals first | rfl | (exfalso; revert hjs; decide))
structure CIFile (x : Fl) (w : World) (gx gz : Nat) (D : Nat → Bool) (W : World) : Prop where
  bel : Below w.heap.size w W
  box : W.heap[gx]? = some (.cells #[.string x.1, .string x.2] 52)
  r0 : D 7 = false → W.heap[gz]? = some (.cells #[.string { data := #[] }, .string { data := #[] }] 52)
  r1 : D 7 = true → W.heap[gz]? = some (.cells #[.string x.1, .string x.2] 52)
theorem CIFile.later {x : Fl} {w W W' : World} {gx gz : Nat} {D : Nat → Bool} (h : CIFile x w gx gz D W) (hb : Below W.heap.size W W') : CIFile x w gx gz D W' := ⟨h.bel.trans (hb.mono h.bel.size), blk_later h.box hb, fun k => blk_later (h.r0 k) hb, fun k => blk_later (h.r1 k) hb⟩
theorem CIFile.go {x : Fl} {w W : World} {gx gz i : Nat} {D : Nat → Bool} (h : CIFile x w gx gz D W) (hi : i ≠ 7) : CIFile x w gx gz (fun j => D j || decide (j = i)) W := by
  have e : (D 7 || decide (7 = i)) = D 7 := by rw [decide_eq_false (fun k => hi k.symm), Bool.or_false]
  exact ⟨h.bel, h.box, fun k => h.r0 (e ▸ k), fun k => h.r1 (e ▸ k)⟩
set_option maxRecDepth 100000 in
set_option maxHeartbeats 3200000 in
theorem copyFile_any (x : Fl) (w : World) (hs : StFile x) :
    Calls Try.prog 138 #[.agg #[.string x.1, .string x.2]] w fun e w' => e = .returned (.agg #[.string x.1, .string x.2]) ∧ Below w.heap.size w w' := by
  have HS := hidI hs
  clear hs
  go_enter Try.func138, Try.ntmps138
  go_upto_region 1 with fail
  have e1 : (w.alloc (.cells #[.string x.1, .string x.2] 52)).heap.size = w.heap.size + 1 := alloc_size _ _
  refine world_anyI (R := fun W => W.heap[w.heap.size]? = some (.cells #[.string x.1, .string x.2] 52) ∧ W.heap[w.heap.size + 1]? = some (.cells #[.string { data := #[] }, .string { data := #[] }] 52) ∧ Below w.heap.size w W) ⟨blk_later (heap_alloc_new w _) ((Below.refl _ _).alloc (Nat.le_refl _) _), (by have := heap_alloc_new (w.alloc (.cells #[.string x.1, .string x.2] 52)) (.cells #[.string { data := #[] }, .string { data := #[] }] 52); rw [e1] at this; exact this), ((Below.refl _ _).alloc (Nat.le_refl _) _).alloc (by omega) _⟩ ?_
  clear e1
  rintro w1 ⟨hx, hz, hb⟩
  have X1 := hidI hx
  have Z1 := hidI hz
  have B1 := hidI hb
  clear hx hz hb
  have LX : Hid (w.heap.size < w1.heap.size) := (Array.getElem?_eq_some_iff.1 X1.out).1
  generalize ha0 : (Act.mk _ _) = a0
  have OKS : SlotsOk a0 slFFile 8 := slFile a0 (by rw [← ha0]; rfl)
  refine wp_region_inv (by kernel_rfl) (fun D a' W => SlG a0 slFFile 8 (slVFile x w.heap.size) D a' ∧ CIFile x w w.heap.size (w.heap.size + 1) D W) (sort_of (by kernel_rfl)) ⟨SlG.start _ _ _ _, ⟨B1.out.drew, X1.out, fun _ => Z1.out, fun k => by cases k⟩⟩ ?_ ?_
  · rintro D a' W i o ⟨H, J⟩ hi hd hdep
    have hlt : i < 8 := (Array.getElem?_eq_some_iff.1 hi).1
    have o1 : a'.tmps[1]? = some (.pointer (some ⟨w.heap.size, 0, none⟩)) := (H.oth 1 (by decide)).trans (by rw [← ha0]; rfl)
    have o2 : a'.tmps[2]? = some (.pointer (some ⟨w.heap.size + 1, 0, none⟩)) := (H.oth 2 (by decide)).trans (by rw [← ha0]; rfl)
    obtain ⟨c0, c1, cf⟩ := cellsFile J.box
    obtain rfl | rfl | rfl | rfl | rfl | rfl | rfl | rfl : i = 0 ∨ i = 1 ∨ i = 2 ∨ i = 3 ∨ i = 4 ∨ i = 5 ∨ i = 6 ∨ i = 7 := by omega
    · cases hi
      exact wpOp_of rfl rfl (opG_val (w' := W) (v := slVFile x w.heap.size 0) (by simp only [slVFile]; go_simp) ⟨H.put OKS (i := 0) (by decide) rfl, J.go (by decide)⟩)
    · cases hi
      have t1 := H.e 0 (by decide) (hdep ⟨0, .data⟩ (by simp) rfl) 3 rfl
      simp only [slVFile] at t1
      exact wpOp_of rfl rfl (opG_val (w' := W) (v := slVFile x w.heap.size 1) (by simp only [slVFile]; go_simp) ⟨H.put OKS (i := 1) (by decide) rfl, J.go (by decide)⟩)
    · cases hi
      have t1 := H.e 1 (by decide) (hdep ⟨1, .data⟩ (by simp) rfl) 4 rfl
      simp only [slVFile] at t1
      refine wpOp_of rfl rfl (opG_call (f := 92) (args := #[.string x.1]) (by go_simp) ((cloneP_any x.1 W HS.out.1).mono ?_))
      rintro e W' ⟨rfl, hb⟩
      exact ⟨_, rfl, H.put OKS (i := 2) (by decide) rfl, (J.later hb).go (by decide)⟩
    · cases hi
      exact wpOp_of rfl rfl (opG_val (w' := W) (v := slVFile x w.heap.size 3) (by simp only [slVFile]; go_simp) ⟨H.put OKS (i := 3) (by decide) rfl, J.go (by decide)⟩)
    · cases hi
      have t1 := H.e 3 (by decide) (hdep ⟨3, .data⟩ (by simp) rfl) 6 rfl
      simp only [slVFile] at t1
      exact wpOp_of rfl rfl (opG_val (w' := W) (v := slVFile x w.heap.size 4) (by simp only [slVFile]; go_simp) ⟨H.put OKS (i := 4) (by decide) rfl, J.go (by decide)⟩)
    · cases hi
      have t1 := H.e 4 (by decide) (hdep ⟨4, .data⟩ (by simp) rfl) 7 rfl
      simp only [slVFile] at t1
      refine wpOp_of rfl rfl (opG_call (f := 92) (args := #[.string x.2]) (by go_simp) ((cloneP_any x.2 W HS.out.2).mono ?_))
      rintro e W' ⟨rfl, hb⟩
      exact ⟨_, rfl, H.put OKS (i := 5) (by decide) rfl, (J.later hb).go (by decide)⟩
    · cases hi
      have u0 := H.e 2 (by decide) (hdep ⟨2, .data⟩ (by simp) rfl) 5 rfl
      have u1 := H.e 5 (by decide) (hdep ⟨5, .data⟩ (by simp) rfl) 8 rfl
      simp only [slVFile] at u0 u1
      exact wpOp_of rfl rfl (opG_val (w' := W) (v := slVFile x w.heap.size 6) (by simp only [slVFile]; go_simp) ⟨H.put OKS (i := 6) (by decide) rfl, J.go (by decide)⟩)
    · cases hi
      have u0 := H.e 6 (by decide) (hdep ⟨6, .data⟩ (by simp) rfl) 9 rfl
      simp only [slVFile] at u0
      have y0 := J.r0 hd
      obtain ⟨y00, y01, y0f⟩ := cellsFile y0
      have y1 : (W.setCell ⟨w.heap.size + 1, 0, none⟩ (.string x.1)).heap[w.heap.size + 1]? = some (.cells #[.string x.1, .string { data := #[] }] 52) := by
        rw [qcell (i := 0) (u := .string x.1) y0]
        rfl
      obtain ⟨y10, y11, y1f⟩ := cellsFile y1
      have y2 : ((W.setCell ⟨w.heap.size + 1, 0, none⟩ (.string x.1)).setCell ⟨w.heap.size + 1, 1, none⟩ (.string x.2)).heap[w.heap.size + 1]? = some (.cells #[.string x.1, .string x.2] 52) := by
        rw [qcell (i := 1) (u := .string x.2) y1]
        rfl
      obtain ⟨y20, y21, y2f⟩ := cellsFile y2
      have hx : ((W.setCell ⟨w.heap.size + 1, 0, none⟩ (.string x.1)).setCell ⟨w.heap.size + 1, 1, none⟩ (.string x.2)).heap[w.heap.size]? = W.heap[w.heap.size]? := by
        rw [heap_setCell_other _ ⟨w.heap.size + 1, 1, none⟩ w.heap.size _ (by show w.heap.size ≠ w.heap.size + 1; omega), heap_setCell_other _ ⟨w.heap.size + 1, 0, none⟩ w.heap.size _ (by show w.heap.size ≠ w.heap.size + 1; omega)]
      have hl : w.heap.size ≤ w.heap.size + 1 := by omega
      refine wpOp_of rfl rfl (opG_skip (w' := ((W.setCell ⟨w.heap.size + 1, 0, none⟩ (.string x.1)).setCell ⟨w.heap.size + 1, 1, none⟩ (.string x.2))) (by go_simp) ⟨H.skip (i := 7) rfl _, ((J.bel.setCell (p := ⟨w.heap.size + 1, 0, none⟩) hl _).setCell (p := ⟨w.heap.size + 1, 1, none⟩) hl _), hx.trans J.box, fun k => by simp at k, fun _ => y2⟩)
  · rintro D a' W ⟨H, J⟩ hall
    rw [H.all OKS (fun i hi => hall i hi)]
    have R9 := hidI (J.r1 (hall 7 (by decide)))
    have B3 := hidI J.bel
    rw [← ha0]
    simp only [List.range, List.range.loop, List.foldl_cons, List.foldl_nil, slVFile, slFFile]
    rename_i Q' K hK
    refine hK _ _ ?_
    clear hK H J hall OKS ha0 X1 Z1 B1 LX
    simp only [Act.put, List.setIfInBounds_toArray, List.set_cons_succ, List.set_cons_zero]
    go_wp2
    refine bodyPost_ret (results_cell_row rfl _ _ (w.heap.size + 1) 52 #[.string x.1, .string x.2] (0, 0) _ rfl R9.out Try.underlying52 rfl (by kernel_rfl)) rfl ?_
    exact ⟨rfl, B3.out⟩
set_option maxRecDepth 100000 in
set_option maxHeartbeats 1600000 in
theorem copyRowsFile_any (a : Option Addr) (cap : Nat) (xs : List Fl) (w : World) (hr : RowAt w a flL 2 xs) (hl : xs.length ≤ 1048576) (hs : ∀ x ∈ xs, StFile x) :
    Calls Try.prog 137 #[.slice a xs.length cap, .func (.func 138) #[] #[]] w fun e w' => ∃ g' cap', e = .returned (.slice (some ⟨g', 0, none⟩) xs.length cap') ∧ OwnE flE w' w.heap.size 52 g' xs.length cap' xs ∧ Below w.heap.size w w' := by
  obtain ⟨i0, hi, hz0, hz1, hz2⟩ := info_parts Try.infoCFile
  have HF := hidI hr
  have HS := hidI hs
  clear hr hs
  obtain ⟨n, hn⟩ : ∃ n, n = xs.length := ⟨_, rfl⟩
  rw [← hn] at hl ⊢
  have HN := hidI hn
  clear hn
  obtain ⟨w1, hmk, ho1, hg1⟩ := run_make_own w w.heap.size 48 52 i0 _ 2 Try.underlying48 hi hz0 hz1 .i64 .i64 n (by rw [hz2]; omega) (by unfold maxLen; omega) (Nat.le_refl _)
  have O1 : Hid (OwnE flE w1 w.heap.size 52 w.heap.size 0 n []) := ⟨ho1, rfl⟩
  have B1 : Hid (Below w.heap.size w w1) := ⟨hg1.os, hg1.tape, hg1.output, hg1.size, fun k hk => hg1.block k hk (by simp)⟩
  clear ho1 hg1
  go_enter Try.func137, Try.ntmps137
  go_wp2
  go_loopw [13, 5, 7] (fun i o _ wr => ∃ (k g' cap' : Nat), k ≤ n ∧ i = .int .i64 k ∧ o = .slice (some ⟨g', 0, none⟩) k cap' ∧ Hid (OwnE flE wr w.heap.size 52 g' k cap' (xs.take k)) ∧ Hid (Below w.heap.size w wr)) (fun i _ _ _ => (n - intOf i).toNat)
  case atStart => exact ⟨0, w.heap.size, n, Nat.zero_le _, rfl, rfl, O1, B1⟩
  case round =>
    obtain ⟨k, g', cap', hk, rfl, rfl, HO, HB⟩ := hrel
    by_cases hlt : k < n
    · obtain ⟨x, hx⟩ : ∃ x, xs[k]? = some x := ⟨_, List.getElem?_eq_getElem (by rw [← HN.out]; exact hlt)⟩
      obtain ⟨b, off, rfl, hc⟩ := (HF.out.later HB.out).get hx
      have c0 := hc 0 _ rfl
      have c1 := hc 1 _ rfl
      simp only [Nat.add_zero] at c0
      have HX := hidI (take_snoc hx)
      have hxs := HS.out x (List.mem_of_getElem? hx)
      obtain ⟨W2, hW2⟩ : ∃ W2, W2 = wr.alloc (.cells #[.string x.1, .string x.2] 52) := ⟨_, rfl⟩
      have hb2 : Below wr.heap.size wr W2 := by rw [hW2]; exact (Below.refl _ _).alloc (Nat.le_refl _) _
      have O2 := hidI (HO.out.later hb2)
      have B2 := hidI (HB.out.trans (hb2.mono HB.out.size))
      clear hc hx O1 B1 hmk hb2 HO HB
      go_wp2_with fail
      rw [← hW2]
      refine (copyFile_any x W2 hxs).mono ?_
      rintro e w3 ⟨rfl, hb3⟩
      have O3 := hidI (O2.out.later hb3)
      have B3 := hidI (B2.out.trans (hb3.mono B2.out.size))
      clear hb3 O2 B2 hW2 c0
      go_wp2_with (at_builtin; refine app_G flE _ rfl _ _ 48 rfl w.heap.size 52 i0 _ 32 Try.underlying48 hi hz0 hz1 hz2 rfl (by decide) g' k cap' _ (by rfl) (O3.out.later ((Below.refl _ _).alloc (Nat.le_refl _) _)) w3.heap.size x (by rfl) (by exact heap_alloc_new _ _) (by omega) ?_; intro g4 cap4 w4 ho4 hg4 hat4)
      go_roundw
      case rel => exact ⟨k + 1, g4, cap4, hlt, by go_num, rfl, by rw [HX.out]; exact hidI ho4, hidI ((B3.out.alloc B3.out.size _).grown hg4 (B3.out.alloc B3.out.size _).size (fun j hj => by cases hj; exact O3.out.blk.1))⟩
      case measure => simp [intOf]; omega
    · obtain rfl : k = n := by omega
      have O2 := HO.out
      rw [HN.out, List.take_length, ← HN.out] at O2
      have O3 := hidI O2
      clear O2 HO
      go_wp2
      go_ret
      exact ⟨g', cap', rfl, O3.out, HB.out⟩
end Go.Proofs.Ytdbpknmoacjodaa
