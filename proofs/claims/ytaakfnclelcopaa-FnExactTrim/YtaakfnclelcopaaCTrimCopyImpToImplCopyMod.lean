/-
  What impl.copyImp answers, and impl.copyRows of such: the walks.
  What impl.copyExp answers, and impl.copyRows of such: the walks.
  What impl.copyStmt answers, and impl.copyRows of such: the walks.
  What impl.copyExpr answers, and impl.copyRows of such: the walks.
  What impl.copyMod answers, in whatever order it copies the five rows: the walk.
-/
import Derived.Test.YtaakfnclelcopaaCTrimCopyRowsS
import Derived.Test.YtaakfnclelcopaaCTrimSlotsG
namespace Go.Proofs.Ytaakfnclelcopaa
open Go.RowKit Go.PlainAid Go.Sort

theorem Try.infoCImp : (Try.prog.info? 78).map (fun i => (i.zero, i.size, i.bytes)) = some (some (.agg #[.string { data := #[] }, .string { data := #[] }, .string { data := #[] }]), 3, 48) := by kernel_rfl
def StImp (x : Im) : Prop := x.spec.size ≤ 281474976710656 ∧ x.first.size ≤ 281474976710656 ∧ x.loc.size ≤ 281474976710656
theorem cellsImp {W : World} {g : Nat} {t : TypeId} {k0 k1 k2 : Value} (h : W.heap[g]? = some (.cells #[k0, k1, k2] t (0, 0))) : W.cell? ⟨g, 0, none⟩ = some k0 ∧ W.cell? ⟨g, 1, none⟩ = some k1 ∧ W.cell? ⟨g, 2, none⟩ = some k2 ∧ ∀ i, W.frozen? ⟨g, i, none⟩ = false := by
  refine ⟨?_, ?_, ?_, fun i => ?_⟩ <;> simp [World.cell?, World.frozen?, h]
def slVImp (x : Im) (gx : Nat) : Nat → Value
  | 0 => .pointer (some ⟨gx, 0, none⟩)
  | 1 => .string x.spec
  | 2 => .string x.spec
  | 3 => .pointer (some ⟨gx, 1, none⟩)
  | 4 => .string x.first
  | 5 => .string x.first
  | 6 => .pointer (some ⟨gx, 2, none⟩)
  | 7 => .string x.loc
  | 8 => .string x.loc
  | 9 => .agg #[.string x.spec, .string x.first, .string x.loc]
  | 10 => undef
  | _ => undef
def slFImp : Nat → Option Nat
  | 0 => some 3
  | 1 => some 4
  | 2 => some 5
  | 3 => some 6
  | 4 => some 7
  | 5 => some 8
  | 6 => some 9
  | 7 => some 10
  | 8 => some 11
  | 9 => some 12
  | 10 => none
  | _ => none
theorem slImp (a0 : Act) (h : a0.tmps.size = 13) : SlotsOk a0 slFImp 11 := by
  intro i hi s hs
  rw [h]
  obtain rfl | rfl | rfl | rfl | rfl | rfl | rfl | rfl | rfl | rfl | rfl : i = 0 ∨ i = 1 ∨ i = 2 ∨ i = 3 ∨ i = 4 ∨ i = 5 ∨ i = 6 ∨ i = 7 ∨ i = 8 ∨ i = 9 ∨ i = 10 := by omega
  all_goals first
    | (cases hs; done)
    | (cases hs
       refine ⟨by decide, fun j hj hjs => ?_⟩
       obtain rfl | rfl | rfl | rfl | rfl | rfl | rfl | rfl | rfl | rfl | rfl : j = 0 ∨ j = 1 ∨ j = 2 ∨ j = 3 ∨ j = 4 ∨ j = 5 ∨ j = 6 ∨ j = 7 ∨ j = 8 ∨ j = 9 ∨ j = 10 := by omega
       all_goals first | rfl | (exfalso; revert hjs; decide))
structure CIImp (x : Im) (w : World) (gx gz : Nat) (D : Nat → Bool) (W : World) : Prop where
  bel : Below w.heap.size w W
  box : W.heap[gx]? = some (.cells #[.string x.spec, .string x.first, .string x.loc] 78)
  r0 : D 10 = false → W.heap[gz]? = some (.cells #[.string { data := #[] }, .string { data := #[] }, .string { data := #[] }] 78)
  r1 : D 10 = true → W.heap[gz]? = some (.cells #[.string x.spec, .string x.first, .string x.loc] 78)
theorem CIImp.later {x : Im} {w W W' : World} {gx gz : Nat} {D : Nat → Bool} (h : CIImp x w gx gz D W) (hb : Below W.heap.size W W') : CIImp x w gx gz D W' := ⟨h.bel.trans (hb.mono h.bel.size), blk_later h.box hb, fun k => blk_later (h.r0 k) hb, fun k => blk_later (h.r1 k) hb⟩
theorem CIImp.go {x : Im} {w W : World} {gx gz i : Nat} {D : Nat → Bool} (h : CIImp x w gx gz D W) (hi : i ≠ 10) : CIImp x w gx gz (fun j => D j || decide (j = i)) W := by
  have e : (D 10 || decide (10 = i)) = D 10 := by rw [decide_eq_false (fun k => hi k.symm), Bool.or_false]
  exact ⟨h.bel, h.box, fun k => h.r0 (e ▸ k), fun k => h.r1 (e ▸ k)⟩
set_option maxRecDepth 100000 in
set_option maxHeartbeats 3200000 in
theorem copyImp_any (x : Im) (w : World) (hs : StImp x) :
    Calls Try.prog 83 #[.agg #[.string x.spec, .string x.first, .string x.loc]] w fun e w' => e = .returned (.agg #[.string x.spec, .string x.first, .string x.loc]) ∧ Below w.heap.size w w' := by
  have HS := hidI hs
  clear hs
  go_enter Try.func83, Try.ntmps83
  go_upto_region 1 with fail
  have e1 : (w.alloc (.cells #[.string x.spec, .string x.first, .string x.loc] 78)).heap.size = w.heap.size + 1 := alloc_size _ _
  refine world_anyI (R := fun W => W.heap[w.heap.size]? = some (.cells #[.string x.spec, .string x.first, .string x.loc] 78) ∧ W.heap[w.heap.size + 1]? = some (.cells #[.string { data := #[] }, .string { data := #[] }, .string { data := #[] }] 78) ∧ Below w.heap.size w W) ⟨blk_later (heap_alloc_new w _) ((Below.refl _ _).alloc (Nat.le_refl _) _), (by have := heap_alloc_new (w.alloc (.cells #[.string x.spec, .string x.first, .string x.loc] 78)) (.cells #[.string { data := #[] }, .string { data := #[] }, .string { data := #[] }] 78); rw [e1] at this; exact this), ((Below.refl _ _).alloc (Nat.le_refl _) _).alloc (by omega) _⟩ ?_
  clear e1
  rintro w1 ⟨hx, hz, hb⟩
  have X1 := hidI hx
  have Z1 := hidI hz
  have B1 := hidI hb
  clear hx hz hb
  have LX : Hid (w.heap.size < w1.heap.size) := (Array.getElem?_eq_some_iff.1 X1.out).1
  generalize ha0 : (Act.mk _ _) = a0
  have OKS : SlotsOk a0 slFImp 11 := slImp a0 (by rw [← ha0]; rfl)
  refine wp_region_inv (by kernel_rfl) (fun D a' W => SlG a0 slFImp 11 (slVImp x w.heap.size) D a' ∧ CIImp x w w.heap.size (w.heap.size + 1) D W) (sort_of (by kernel_rfl)) ⟨SlG.start _ _ _ _, ⟨B1.out.drew, X1.out, fun _ => Z1.out, fun k => by cases k⟩⟩ ?_ ?_
  · rintro D a' W i o ⟨H, J⟩ hi hd hdep
    have hlt : i < 11 := (Array.getElem?_eq_some_iff.1 hi).1
    have o1 : a'.tmps[1]? = some (.pointer (some ⟨w.heap.size, 0, none⟩)) := (H.oth 1 (by decide)).trans (by rw [← ha0]; rfl)
    have o2 : a'.tmps[2]? = some (.pointer (some ⟨w.heap.size + 1, 0, none⟩)) := (H.oth 2 (by decide)).trans (by rw [← ha0]; rfl)
    obtain ⟨c0, c1, c2, cf⟩ := cellsImp J.box
    obtain rfl | rfl | rfl | rfl | rfl | rfl | rfl | rfl | rfl | rfl | rfl : i = 0 ∨ i = 1 ∨ i = 2 ∨ i = 3 ∨ i = 4 ∨ i = 5 ∨ i = 6 ∨ i = 7 ∨ i = 8 ∨ i = 9 ∨ i = 10 := by omega
    · cases hi
      exact wpOp_of rfl rfl (opG_val (w' := W) (v := slVImp x w.heap.size 0) (by simp only [slVImp]; go_simp) ⟨H.put OKS (i := 0) (by decide) rfl, J.go (by decide)⟩)
    · cases hi
      have t1 := H.e 0 (by decide) (hdep ⟨0, .data⟩ (by simp) rfl) 3 rfl
      simp only [slVImp] at t1
      exact wpOp_of rfl rfl (opG_val (w' := W) (v := slVImp x w.heap.size 1) (by simp only [slVImp]; go_simp) ⟨H.put OKS (i := 1) (by decide) rfl, J.go (by decide)⟩)
    · cases hi
      have t1 := H.e 1 (by decide) (hdep ⟨1, .data⟩ (by simp) rfl) 4 rfl
      simp only [slVImp] at t1
      refine wpOp_of rfl rfl (opG_call (f := 75) (args := #[.string x.spec]) (by go_simp) ((cloneP_any x.spec W HS.out.1).mono ?_))
      rintro e W' ⟨rfl, hb⟩
      exact ⟨_, rfl, H.put OKS (i := 2) (by decide) rfl, (J.later hb).go (by decide)⟩
    · cases hi
      exact wpOp_of rfl rfl (opG_val (w' := W) (v := slVImp x w.heap.size 3) (by simp only [slVImp]; go_simp) ⟨H.put OKS (i := 3) (by decide) rfl, J.go (by decide)⟩)
    · cases hi
      have t1 := H.e 3 (by decide) (hdep ⟨3, .data⟩ (by simp) rfl) 6 rfl
      simp only [slVImp] at t1
      exact wpOp_of rfl rfl (opG_val (w' := W) (v := slVImp x w.heap.size 4) (by simp only [slVImp]; go_simp) ⟨H.put OKS (i := 4) (by decide) rfl, J.go (by decide)⟩)
    · cases hi
      have t1 := H.e 4 (by decide) (hdep ⟨4, .data⟩ (by simp) rfl) 7 rfl
      simp only [slVImp] at t1
      refine wpOp_of rfl rfl (opG_call (f := 75) (args := #[.string x.first]) (by go_simp) ((cloneP_any x.first W HS.out.2.1).mono ?_))
      rintro e W' ⟨rfl, hb⟩
      exact ⟨_, rfl, H.put OKS (i := 5) (by decide) rfl, (J.later hb).go (by decide)⟩
    · cases hi
      exact wpOp_of rfl rfl (opG_val (w' := W) (v := slVImp x w.heap.size 6) (by simp only [slVImp]; go_simp) ⟨H.put OKS (i := 6) (by decide) rfl, J.go (by decide)⟩)
    · cases hi
      have t1 := H.e 6 (by decide) (hdep ⟨6, .data⟩ (by simp) rfl) 9 rfl
      simp only [slVImp] at t1
      exact wpOp_of rfl rfl (opG_val (w' := W) (v := slVImp x w.heap.size 7) (by simp only [slVImp]; go_simp) ⟨H.put OKS (i := 7) (by decide) rfl, J.go (by decide)⟩)
    · cases hi
      have t1 := H.e 7 (by decide) (hdep ⟨7, .data⟩ (by simp) rfl) 10 rfl
      simp only [slVImp] at t1
      refine wpOp_of rfl rfl (opG_call (f := 75) (args := #[.string x.loc]) (by go_simp) ((cloneP_any x.loc W HS.out.2.2).mono ?_))
      rintro e W' ⟨rfl, hb⟩
      exact ⟨_, rfl, H.put OKS (i := 8) (by decide) rfl, (J.later hb).go (by decide)⟩
    · cases hi
      have u0 := H.e 2 (by decide) (hdep ⟨2, .data⟩ (by simp) rfl) 5 rfl
      have u1 := H.e 5 (by decide) (hdep ⟨5, .data⟩ (by simp) rfl) 8 rfl
      have u2 := H.e 8 (by decide) (hdep ⟨8, .data⟩ (by simp) rfl) 11 rfl
      simp only [slVImp] at u0 u1 u2
      exact wpOp_of rfl rfl (opG_val (w' := W) (v := slVImp x w.heap.size 9) (by simp only [slVImp]; go_simp) ⟨H.put OKS (i := 9) (by decide) rfl, J.go (by decide)⟩)
    · cases hi
      have u0 := H.e 9 (by decide) (hdep ⟨9, .data⟩ (by simp) rfl) 12 rfl
      simp only [slVImp] at u0
      have y0 := J.r0 hd
      obtain ⟨y00, y01, y02, y0f⟩ := cellsImp y0
      have y1 : (W.setCell ⟨w.heap.size + 1, 0, none⟩ (.string x.spec)).heap[w.heap.size + 1]? = some (.cells #[.string x.spec, .string { data := #[] }, .string { data := #[] }] 78) := by
        rw [qcell (i := 0) (u := .string x.spec) y0]
        rfl
      obtain ⟨y10, y11, y12, y1f⟩ := cellsImp y1
      have y2 : ((W.setCell ⟨w.heap.size + 1, 0, none⟩ (.string x.spec)).setCell ⟨w.heap.size + 1, 1, none⟩ (.string x.first)).heap[w.heap.size + 1]? = some (.cells #[.string x.spec, .string x.first, .string { data := #[] }] 78) := by
        rw [qcell (i := 1) (u := .string x.first) y1]
        rfl
      obtain ⟨y20, y21, y22, y2f⟩ := cellsImp y2
      have y3 : (((W.setCell ⟨w.heap.size + 1, 0, none⟩ (.string x.spec)).setCell ⟨w.heap.size + 1, 1, none⟩ (.string x.first)).setCell ⟨w.heap.size + 1, 2, none⟩ (.string x.loc)).heap[w.heap.size + 1]? = some (.cells #[.string x.spec, .string x.first, .string x.loc] 78) := by
        rw [qcell (i := 2) (u := .string x.loc) y2]
        rfl
      obtain ⟨y30, y31, y32, y3f⟩ := cellsImp y3
      have hx : (((W.setCell ⟨w.heap.size + 1, 0, none⟩ (.string x.spec)).setCell ⟨w.heap.size + 1, 1, none⟩ (.string x.first)).setCell ⟨w.heap.size + 1, 2, none⟩ (.string x.loc)).heap[w.heap.size]? = W.heap[w.heap.size]? := by
        rw [heap_setCell_other _ ⟨w.heap.size + 1, 2, none⟩ w.heap.size _ (by show w.heap.size ≠ w.heap.size + 1; omega), heap_setCell_other _ ⟨w.heap.size + 1, 1, none⟩ w.heap.size _ (by show w.heap.size ≠ w.heap.size + 1; omega), heap_setCell_other _ ⟨w.heap.size + 1, 0, none⟩ w.heap.size _ (by show w.heap.size ≠ w.heap.size + 1; omega)]
      have hl : w.heap.size ≤ w.heap.size + 1 := by omega
      refine wpOp_of rfl rfl (opG_skip (w' := (((W.setCell ⟨w.heap.size + 1, 0, none⟩ (.string x.spec)).setCell ⟨w.heap.size + 1, 1, none⟩ (.string x.first)).setCell ⟨w.heap.size + 1, 2, none⟩ (.string x.loc))) (by go_simp) ⟨H.skip (i := 10) rfl _, (((J.bel.setCell (p := ⟨w.heap.size + 1, 0, none⟩) hl _).setCell (p := ⟨w.heap.size + 1, 1, none⟩) hl _).setCell (p := ⟨w.heap.size + 1, 2, none⟩) hl _), hx.trans J.box, fun k => by simp at k, fun _ => y3⟩)
  · rintro D a' W ⟨H, J⟩ hall
    rw [H.all OKS (fun i hi => hall i hi)]
    have R9 := hidI (J.r1 (hall 10 (by decide)))
    have B3 := hidI J.bel
    rw [← ha0]
    simp only [List.range, List.range.loop, List.foldl_cons, List.foldl_nil, slVImp, slFImp]
    rename_i Q' K hK
    refine hK _ _ ?_
    clear hK H J hall OKS ha0 X1 Z1 B1 LX
    simp only [Act.put, List.setIfInBounds_toArray, List.set_cons_succ, List.set_cons_zero]
    go_wp2
    refine bodyPost_ret (results_cell_row rfl _ _ (w.heap.size + 1) 78 #[.string x.spec, .string x.first, .string x.loc] (0, 0) _ rfl R9.out Try.underlying78 rfl (by kernel_rfl)) rfl ?_
    exact ⟨rfl, B3.out⟩
set_option maxRecDepth 100000 in
set_option maxHeartbeats 1600000 in
theorem copyRowsImp_any (a : Option Addr) (cap : Nat) (xs : List Im) (w : World) (hr : RowAt w a imL 3 xs) (hl : xs.length ≤ 1048576) (hs : ∀ x ∈ xs, StImp x) :
    Calls Try.prog 82 #[.slice a xs.length cap, .func (.func 83) #[] #[]] w fun e w' => ∃ g' cap', e = .returned (.slice (some ⟨g', 0, none⟩) xs.length cap') ∧ OwnE imE w' w.heap.size 78 g' xs.length cap' xs ∧ Below w.heap.size w w' := by
  obtain ⟨i0, hi, hz0, hz1, hz2⟩ := info_parts Try.infoCImp
  have HF := hidI hr
  have HS := hidI hs
  clear hr hs
  obtain ⟨n, hn⟩ : ∃ n, n = xs.length := ⟨_, rfl⟩
  rw [← hn] at hl ⊢
  have HN := hidI hn
  clear hn
  obtain ⟨w1, hmk, ho1, hg1⟩ := run_make_own w w.heap.size 31 78 i0 _ 3 Try.underlying31 hi hz0 hz1 .i64 .i64 n (by rw [hz2]; omega) (by unfold maxLen; omega) (Nat.le_refl _)
  have O1 : Hid (OwnE imE w1 w.heap.size 78 w.heap.size 0 n []) := ⟨ho1, rfl⟩
  have B1 : Hid (Below w.heap.size w w1) := ⟨hg1.os, hg1.tape, hg1.output, hg1.size, fun k hk => hg1.block k hk (by simp)⟩
  clear ho1 hg1
  go_enter Try.func82, Try.ntmps82
  go_wp2
  go_loopw [13, 5, 7] (fun i o _ wr => ∃ (k g' cap' : Nat), k ≤ n ∧ i = .int .i64 k ∧ o = .slice (some ⟨g', 0, none⟩) k cap' ∧ Hid (OwnE imE wr w.heap.size 78 g' k cap' (xs.take k)) ∧ Hid (Below w.heap.size w wr)) (fun i _ _ _ => (n - intOf i).toNat)
  case atStart => exact ⟨0, w.heap.size, n, Nat.zero_le _, rfl, rfl, O1, B1⟩
  case round =>
    obtain ⟨k, g', cap', hk, rfl, rfl, HO, HB⟩ := hrel
    by_cases hlt : k < n
    · obtain ⟨x, hx⟩ : ∃ x, xs[k]? = some x := ⟨_, List.getElem?_eq_getElem (by rw [← HN.out]; exact hlt)⟩
      obtain ⟨b, off, rfl, hc⟩ := (HF.out.later HB.out).get hx
      have c0 := hc 0 _ rfl
      have c1 := hc 1 _ rfl
      have c2 := hc 2 _ rfl
      simp only [Nat.add_zero] at c0
      have HX := hidI (take_snoc hx)
      have hxs := HS.out x (List.mem_of_getElem? hx)
      obtain ⟨W2, hW2⟩ : ∃ W2, W2 = wr.alloc (.cells #[.string x.spec, .string x.first, .string x.loc] 78) := ⟨_, rfl⟩
      have hb2 : Below wr.heap.size wr W2 := by rw [hW2]; exact (Below.refl _ _).alloc (Nat.le_refl _) _
      have O2 := hidI (HO.out.later hb2)
      have B2 := hidI (HB.out.trans (hb2.mono HB.out.size))
      clear hc hx O1 B1 hmk hb2 HO HB
      go_wp2_with fail
      rw [← hW2]
      refine (copyImp_any x W2 hxs).mono ?_
      rintro e w3 ⟨rfl, hb3⟩
      have O3 := hidI (O2.out.later hb3)
      have B3 := hidI (B2.out.trans (hb3.mono B2.out.size))
      clear hb3 O2 B2 hW2 c0
      go_wp2_with (at_builtin; refine app_G imE _ rfl _ _ 31 rfl w.heap.size 78 i0 _ 48 Try.underlying31 hi hz0 hz1 hz2 rfl (by decide) g' k cap' _ (by rfl) (O3.out.later ((Below.refl _ _).alloc (Nat.le_refl _) _)) w3.heap.size x (by rfl) (by exact heap_alloc_new _ _) (by omega) ?_; intro g4 cap4 w4 ho4 hg4 hat4)
      go_roundw
      case rel => exact ⟨k + 1, g4, cap4, hlt, by go_num, rfl, by rw [HX.out]; exact hidI ho4, hidI ((B3.out.alloc B3.out.size _).grown hg4 (B3.out.alloc B3.out.size _).size (fun j hj => by cases hj; exact O3.out.blk.1))⟩
      case measure => simp [intOf]; omega
    · obtain rfl : k = n := by omega
      have O2 := HO.out
      rw [HN.out, List.take_length, ← HN.out] at O2
      have O3 := hidI O2
      clear O2 HO
      go_wp2
      go_ret
      exact ⟨g', cap', rfl, O3.out, HB.out⟩
end Go.Proofs.Ytaakfnclelcopaa
namespace Go.Proofs.Ytaakfnclelcopaa
open Go.RowKit Go.PlainAid Go.Sort

theorem Try.infoCExp : (Try.prog.info? 55).map (fun i => (i.zero, i.size, i.bytes)) = some (some (.agg #[.int .i64 0, .string { data := #[] }, .string { data := #[] }, .string { data := #[] }]), 4, 56) := by kernel_rfl
def StExp (x : Ep) : Prop := x.name.size ≤ 281474976710656 ∧ x.loc.size ≤ 281474976710656 ∧ x.spec.size ≤ 281474976710656
theorem cellsExp {W : World} {g : Nat} {t : TypeId} {k0 k1 k2 k3 : Value} (h : W.heap[g]? = some (.cells #[k0, k1, k2, k3] t (0, 0))) : W.cell? ⟨g, 0, none⟩ = some k0 ∧ W.cell? ⟨g, 1, none⟩ = some k1 ∧ W.cell? ⟨g, 2, none⟩ = some k2 ∧ W.cell? ⟨g, 3, none⟩ = some k3 ∧ ∀ i, W.frozen? ⟨g, i, none⟩ = false := by
  refine ⟨?_, ?_, ?_, ?_, fun i => ?_⟩ <;> simp [World.cell?, World.frozen?, h]
def slVExp (x : Ep) (gx : Nat) : Nat → Value
  | 0 => .pointer (some ⟨gx, 1, none⟩)
  | 1 => .string x.name
  | 2 => .string x.name
  | 3 => .pointer (some ⟨gx, 2, none⟩)
  | 4 => .string x.loc
  | 5 => .string x.loc
  | 6 => .pointer (some ⟨gx, 3, none⟩)
  | 7 => .string x.spec
  | 8 => .string x.spec
  | 9 => .pointer (some ⟨gx, 1, none⟩)
  | 10 => undef
  | 11 => .pointer (some ⟨gx, 2, none⟩)
  | 12 => undef
  | 13 => .pointer (some ⟨gx, 3, none⟩)
  | 14 => undef
  | _ => undef
def slFExp : Nat → Option Nat
  | 0 => some 3
  | 1 => some 4
  | 2 => some 5
  | 3 => some 6
  | 4 => some 7
  | 5 => some 8
  | 6 => some 9
  | 7 => some 10
  | 8 => some 11
  | 9 => some 12
  | 10 => none
  | 11 => some 13
  | 12 => none
  | 13 => some 14
  | 14 => none
  | _ => none
theorem slExp (a0 : Act) (h : a0.tmps.size = 16) : SlotsOk a0 slFExp 15 := by
  intro i hi s hs
  rw [h]
  obtain rfl | rfl | rfl | rfl | rfl | rfl | rfl | rfl | rfl | rfl | rfl | rfl | rfl | rfl | rfl : i = 0 ∨ i = 1 ∨ i = 2 ∨ i = 3 ∨ i = 4 ∨ i = 5 ∨ i = 6 ∨ i = 7 ∨ i = 8 ∨ i = 9 ∨ i = 10 ∨ i = 11 ∨ i = 12 ∨ i = 13 ∨ i = 14 := by omega
  all_goals first
    | (cases hs; done)
    | (cases hs
       refine ⟨by decide, fun j hj hjs => ?_⟩
       obtain rfl | rfl | rfl | rfl | rfl | rfl | rfl | rfl | rfl | rfl | rfl | rfl | rfl | rfl | rfl : j = 0 ∨ j = 1 ∨ j = 2 ∨ j = 3 ∨ j = 4 ∨ j = 5 ∨ j = 6 ∨ j = 7 ∨ j = 8 ∨ j = 9 ∨ j = 10 ∨ j = 11 ∨ j = 12 ∨ j = 13 ∨ j = 14 := by omega
       all_goals first | rfl | (exfalso; revert hjs; decide))
structure CIExp (x : Ep) (w : World) (gx gz : Nat) (_ : Nat → Bool) (W : World) : Prop where
  bel : Below w.heap.size w W
  box : W.heap[gx]? = some (.cells #[.int .i64 x.kind, .string x.name, .string x.loc, .string x.spec] 55)
  r0 : W.heap[gz]? = some (.cells #[.int .i64 0, .string { data := #[] }, .string { data := #[] }, .string { data := #[] }] 55)
theorem CIExp.later {x : Ep} {w W W' : World} {gx gz : Nat} {D : Nat → Bool} (h : CIExp x w gx gz D W) (hb : Below W.heap.size W W') : CIExp x w gx gz D W' := ⟨h.bel.trans (hb.mono h.bel.size), blk_later h.box hb, blk_later h.r0 hb⟩
theorem CIExp.go {x : Ep} {w W : World} {gx gz : Nat} {D D' : Nat → Bool} (h : CIExp x w gx gz D W) : CIExp x w gx gz D' W := ⟨h.bel, h.box, h.r0⟩
set_option maxRecDepth 100000 in
set_option maxHeartbeats 3200000 in
theorem copyExp_any (x : Ep) (w : World) (hs : StExp x) :
    Calls Try.prog 85 #[.agg #[.int .i64 x.kind, .string x.name, .string x.loc, .string x.spec]] w fun e w' => e = .returned (.agg #[.int .i64 x.kind, .string x.name, .string x.loc, .string x.spec]) ∧ Below w.heap.size w w' := by
  have HS := hidI hs
  clear hs
  go_enter Try.func85, Try.ntmps85
  go_upto_region 1 with fail
  have e1 : (w.alloc (.cells #[.int .i64 x.kind, .string x.name, .string x.loc, .string x.spec] 55)).heap.size = w.heap.size + 1 := alloc_size _ _
  refine world_anyI (R := fun W => W.heap[w.heap.size]? = some (.cells #[.int .i64 x.kind, .string x.name, .string x.loc, .string x.spec] 55) ∧ W.heap[w.heap.size + 1]? = some (.cells #[.int .i64 0, .string { data := #[] }, .string { data := #[] }, .string { data := #[] }] 55) ∧ Below w.heap.size w W) ⟨blk_later (heap_alloc_new w _) ((Below.refl _ _).alloc (Nat.le_refl _) _), (by have := heap_alloc_new (w.alloc (.cells #[.int .i64 x.kind, .string x.name, .string x.loc, .string x.spec] 55)) (.cells #[.int .i64 0, .string { data := #[] }, .string { data := #[] }, .string { data := #[] }] 55); rw [e1] at this; exact this), ((Below.refl _ _).alloc (Nat.le_refl _) _).alloc (by omega) _⟩ ?_
  clear e1
  rintro w1 ⟨hx, hz, hb⟩
  have X1 := hidI hx
  have Z1 := hidI hz
  have B1 := hidI hb
  clear hx hz hb
  have LX : Hid (w.heap.size < w1.heap.size) := (Array.getElem?_eq_some_iff.1 X1.out).1
  generalize ha0 : (Act.mk _ _) = a0
  have OKS : SlotsOk a0 slFExp 15 := slExp a0 (by rw [← ha0]; rfl)
  refine wp_region_inv (by kernel_rfl) (fun D a' W => SlG a0 slFExp 15 (slVExp x w.heap.size) D a' ∧ CIExp x w w.heap.size (w.heap.size + 1) D W) (sort_of (by kernel_rfl)) ⟨SlG.start _ _ _ _, ⟨B1.out.drew, X1.out, Z1.out⟩⟩ ?_ ?_
  · rintro D a' W i o ⟨H, J⟩ hi hd hdep
    have hlt : i < 15 := (Array.getElem?_eq_some_iff.1 hi).1
    have o1 : a'.tmps[1]? = some (.pointer (some ⟨w.heap.size, 0, none⟩)) := (H.oth 1 (by decide)).trans (by rw [← ha0]; rfl)
    have o2 : a'.tmps[2]? = some (.pointer (some ⟨w.heap.size + 1, 0, none⟩)) := (H.oth 2 (by decide)).trans (by rw [← ha0]; rfl)
    obtain ⟨c0, c1, c2, c3, cf⟩ := cellsExp J.box
    obtain rfl | rfl | rfl | rfl | rfl | rfl | rfl | rfl | rfl | rfl | rfl | rfl | rfl | rfl | rfl : i = 0 ∨ i = 1 ∨ i = 2 ∨ i = 3 ∨ i = 4 ∨ i = 5 ∨ i = 6 ∨ i = 7 ∨ i = 8 ∨ i = 9 ∨ i = 10 ∨ i = 11 ∨ i = 12 ∨ i = 13 ∨ i = 14 := by omega
    · cases hi
      exact wpOp_of rfl rfl (opG_val (w' := W) (v := slVExp x w.heap.size 0) (by simp only [slVExp]; go_simp) ⟨H.put OKS (i := 0) (by decide) rfl, J.go⟩)
    · cases hi
      have t1 := H.e 0 (by decide) (hdep ⟨0, .data⟩ (by simp) rfl) 3 rfl
      simp only [slVExp] at t1
      exact wpOp_of rfl rfl (opG_val (w' := W) (v := slVExp x w.heap.size 1) (by simp only [slVExp]; go_simp) ⟨H.put OKS (i := 1) (by decide) rfl, J.go⟩)
    · cases hi
      have t1 := H.e 1 (by decide) (hdep ⟨1, .data⟩ (by simp) rfl) 4 rfl
      simp only [slVExp] at t1
      refine wpOp_of rfl rfl (opG_call (f := 75) (args := #[.string x.name]) (by go_simp) ((cloneP_any x.name W HS.out.1).mono ?_))
      rintro e W' ⟨rfl, hb⟩
      exact ⟨_, rfl, H.put OKS (i := 2) (by decide) rfl, (J.later hb).go⟩
    · cases hi
      exact wpOp_of rfl rfl (opG_val (w' := W) (v := slVExp x w.heap.size 3) (by simp only [slVExp]; go_simp) ⟨H.put OKS (i := 3) (by decide) rfl, J.go⟩)
    · cases hi
      have t1 := H.e 3 (by decide) (hdep ⟨3, .data⟩ (by simp) rfl) 6 rfl
      simp only [slVExp] at t1
      exact wpOp_of rfl rfl (opG_val (w' := W) (v := slVExp x w.heap.size 4) (by simp only [slVExp]; go_simp) ⟨H.put OKS (i := 4) (by decide) rfl, J.go⟩)
    · cases hi
      have t1 := H.e 4 (by decide) (hdep ⟨4, .data⟩ (by simp) rfl) 7 rfl
      simp only [slVExp] at t1
      refine wpOp_of rfl rfl (opG_call (f := 75) (args := #[.string x.loc]) (by go_simp) ((cloneP_any x.loc W HS.out.2.1).mono ?_))
      rintro e W' ⟨rfl, hb⟩
      exact ⟨_, rfl, H.put OKS (i := 5) (by decide) rfl, (J.later hb).go⟩
    · cases hi
      exact wpOp_of rfl rfl (opG_val (w' := W) (v := slVExp x w.heap.size 6) (by simp only [slVExp]; go_simp) ⟨H.put OKS (i := 6) (by decide) rfl, J.go⟩)
    · cases hi
      have t1 := H.e 6 (by decide) (hdep ⟨6, .data⟩ (by simp) rfl) 9 rfl
      simp only [slVExp] at t1
      exact wpOp_of rfl rfl (opG_val (w' := W) (v := slVExp x w.heap.size 7) (by simp only [slVExp]; go_simp) ⟨H.put OKS (i := 7) (by decide) rfl, J.go⟩)
    · cases hi
      have t1 := H.e 7 (by decide) (hdep ⟨7, .data⟩ (by simp) rfl) 10 rfl
      simp only [slVExp] at t1
      refine wpOp_of rfl rfl (opG_call (f := 75) (args := #[.string x.spec]) (by go_simp) ((cloneP_any x.spec W HS.out.2.2).mono ?_))
      rintro e W' ⟨rfl, hb⟩
      exact ⟨_, rfl, H.put OKS (i := 8) (by decide) rfl, (J.later hb).go⟩
    · cases hi
      exact wpOp_of rfl rfl (opG_val (w' := W) (v := slVExp x w.heap.size 9) (by simp only [slVExp]; go_simp) ⟨H.put OKS (i := 9) (by decide) rfl, J.go⟩)
    · cases hi
      have t1 := H.e 9 (by decide) (hdep ⟨9, .data⟩ (by simp) rfl) 12 rfl
      have t2 := H.e 2 (by decide) (hdep ⟨2, .data⟩ (by simp) rfl) 5 rfl
      simp only [slVExp] at t1 t2
      have y : (W.setCell ⟨w.heap.size, 1, none⟩ (.string x.name)).heap[w.heap.size]? = some (.cells #[.int .i64 x.kind, .string x.name, .string x.loc, .string x.spec] 55) := by
        rw [qcell (i := 1) (u := .string x.name) J.box]
        rfl
      exact wpOp_of rfl rfl (opG_skip (w' := W.setCell ⟨w.heap.size, 1, none⟩ (.string x.name)) (by go_simp) ⟨H.skip (i := 10) rfl _, J.bel.setCell (Nat.le_refl _) _, y, (heap_setCell_other W ⟨w.heap.size, 1, none⟩ _ _ (by show w.heap.size + 1 ≠ w.heap.size; omega)).trans J.r0⟩)
    · cases hi
      exact wpOp_of rfl rfl (opG_val (w' := W) (v := slVExp x w.heap.size 11) (by simp only [slVExp]; go_simp) ⟨H.put OKS (i := 11) (by decide) rfl, J.go⟩)
    · cases hi
      have t1 := H.e 11 (by decide) (hdep ⟨11, .data⟩ (by simp) rfl) 13 rfl
      have t2 := H.e 5 (by decide) (hdep ⟨5, .data⟩ (by simp) rfl) 8 rfl
      simp only [slVExp] at t1 t2
      have y : (W.setCell ⟨w.heap.size, 2, none⟩ (.string x.loc)).heap[w.heap.size]? = some (.cells #[.int .i64 x.kind, .string x.name, .string x.loc, .string x.spec] 55) := by
        rw [qcell (i := 2) (u := .string x.loc) J.box]
        rfl
      exact wpOp_of rfl rfl (opG_skip (w' := W.setCell ⟨w.heap.size, 2, none⟩ (.string x.loc)) (by go_simp) ⟨H.skip (i := 12) rfl _, J.bel.setCell (Nat.le_refl _) _, y, (heap_setCell_other W ⟨w.heap.size, 2, none⟩ _ _ (by show w.heap.size + 1 ≠ w.heap.size; omega)).trans J.r0⟩)
    · cases hi
      exact wpOp_of rfl rfl (opG_val (w' := W) (v := slVExp x w.heap.size 13) (by simp only [slVExp]; go_simp) ⟨H.put OKS (i := 13) (by decide) rfl, J.go⟩)
    · cases hi
      have t1 := H.e 13 (by decide) (hdep ⟨13, .data⟩ (by simp) rfl) 14 rfl
      have t2 := H.e 8 (by decide) (hdep ⟨8, .data⟩ (by simp) rfl) 11 rfl
      simp only [slVExp] at t1 t2
      have y : (W.setCell ⟨w.heap.size, 3, none⟩ (.string x.spec)).heap[w.heap.size]? = some (.cells #[.int .i64 x.kind, .string x.name, .string x.loc, .string x.spec] 55) := by
        rw [qcell (i := 3) (u := .string x.spec) J.box]
        rfl
      exact wpOp_of rfl rfl (opG_skip (w' := W.setCell ⟨w.heap.size, 3, none⟩ (.string x.spec)) (by go_simp) ⟨H.skip (i := 14) rfl _, J.bel.setCell (Nat.le_refl _) _, y, (heap_setCell_other W ⟨w.heap.size, 3, none⟩ _ _ (by show w.heap.size + 1 ≠ w.heap.size; omega)).trans J.r0⟩)
  · rintro D a' W ⟨H, J⟩ hall
    rw [H.all OKS (fun i hi => hall i hi)]
    have X3 := hidI J.box
    have Z3 := hidI J.r0
    have B3 := hidI J.bel
    rw [← ha0]
    simp only [List.range, List.range.loop, List.foldl_cons, List.foldl_nil, slVExp, slFExp]
    rename_i Q' K hK
    refine hK _ _ ?_
    clear hK H J hall OKS ha0 X1 Z1 B1 LX
    simp only [Act.put, List.setIfInBounds_toArray, List.set_cons_succ, List.set_cons_zero]
    obtain ⟨c0, c1, c2, c3, cf⟩ := cellsExp X3.out
    obtain ⟨z0, z1, z2, z3, zf⟩ := cellsExp Z3.out
    have y0 := Z3.out
    have y1 : (W.setCell ⟨w.heap.size + 1, 0, none⟩ (.int .i64 x.kind)).heap[w.heap.size + 1]? = some (.cells #[.int .i64 x.kind, .string { data := #[] }, .string { data := #[] }, .string { data := #[] }] 55) := by
      rw [qcell (i := 0) (u := .int .i64 x.kind) y0]
      rfl
    obtain ⟨y10, y11, y12, y13, y1f⟩ := cellsExp y1
    have y2 : ((W.setCell ⟨w.heap.size + 1, 0, none⟩ (.int .i64 x.kind)).setCell ⟨w.heap.size + 1, 1, none⟩ (.string x.name)).heap[w.heap.size + 1]? = some (.cells #[.int .i64 x.kind, .string x.name, .string { data := #[] }, .string { data := #[] }] 55) := by
      rw [qcell (i := 1) (u := .string x.name) y1]
      rfl
    obtain ⟨y20, y21, y22, y23, y2f⟩ := cellsExp y2
    have y3 : (((W.setCell ⟨w.heap.size + 1, 0, none⟩ (.int .i64 x.kind)).setCell ⟨w.heap.size + 1, 1, none⟩ (.string x.name)).setCell ⟨w.heap.size + 1, 2, none⟩ (.string x.loc)).heap[w.heap.size + 1]? = some (.cells #[.int .i64 x.kind, .string x.name, .string x.loc, .string { data := #[] }] 55) := by
      rw [qcell (i := 2) (u := .string x.loc) y2]
      rfl
    obtain ⟨y30, y31, y32, y33, y3f⟩ := cellsExp y3
    have y4 : ((((W.setCell ⟨w.heap.size + 1, 0, none⟩ (.int .i64 x.kind)).setCell ⟨w.heap.size + 1, 1, none⟩ (.string x.name)).setCell ⟨w.heap.size + 1, 2, none⟩ (.string x.loc)).setCell ⟨w.heap.size + 1, 3, none⟩ (.string x.spec)).heap[w.heap.size + 1]? = some (.cells #[.int .i64 x.kind, .string x.name, .string x.loc, .string x.spec] 55) := by
      rw [qcell (i := 3) (u := .string x.spec) y3]
      rfl
    obtain ⟨y40, y41, y42, y43, y4f⟩ := cellsExp y4
    have hl : w.heap.size ≤ w.heap.size + 1 := by omega
    go_wp2
    refine bodyPost_ret (results_cell_row rfl _ _ (w.heap.size + 1) 55 #[.int .i64 x.kind, .string x.name, .string x.loc, .string x.spec] (0, 0) _ rfl y4 Try.underlying55 rfl (by kernel_rfl)) rfl ?_
    exact ⟨rfl, ((((B3.out.setCell (p := ⟨w.heap.size + 1, 0, none⟩) hl _).setCell (p := ⟨w.heap.size + 1, 1, none⟩) hl _).setCell (p := ⟨w.heap.size + 1, 2, none⟩) hl _).setCell (p := ⟨w.heap.size + 1, 3, none⟩) hl _)⟩
set_option maxRecDepth 100000 in
set_option maxHeartbeats 1600000 in
theorem copyRowsExp_any (a : Option Addr) (cap : Nat) (xs : List Ep) (w : World) (hr : RowAt w a epL 4 xs) (hl : xs.length ≤ 1048576) (hs : ∀ x ∈ xs, StExp x) :
    Calls Try.prog 84 #[.slice a xs.length cap, .func (.func 85) #[] #[]] w fun e w' => ∃ g' cap', e = .returned (.slice (some ⟨g', 0, none⟩) xs.length cap') ∧ OwnE epE w' w.heap.size 55 g' xs.length cap' xs ∧ Below w.heap.size w w' := by
  obtain ⟨i0, hi, hz0, hz1, hz2⟩ := info_parts Try.infoCExp
  have HF := hidI hr
  have HS := hidI hs
  clear hr hs
  obtain ⟨n, hn⟩ : ∃ n, n = xs.length := ⟨_, rfl⟩
  rw [← hn] at hl ⊢
  have HN := hidI hn
  clear hn
  obtain ⟨w1, hmk, ho1, hg1⟩ := run_make_own w w.heap.size 32 55 i0 _ 4 Try.underlying32 hi hz0 hz1 .i64 .i64 n (by rw [hz2]; omega) (by unfold maxLen; omega) (Nat.le_refl _)
  have O1 : Hid (OwnE epE w1 w.heap.size 55 w.heap.size 0 n []) := ⟨ho1, rfl⟩
  have B1 : Hid (Below w.heap.size w w1) := ⟨hg1.os, hg1.tape, hg1.output, hg1.size, fun k hk => hg1.block k hk (by simp)⟩
  clear ho1 hg1
  go_enter Try.func84, Try.ntmps84
  go_wp2
  go_loopw [13, 5, 7] (fun i o _ wr => ∃ (k g' cap' : Nat), k ≤ n ∧ i = .int .i64 k ∧ o = .slice (some ⟨g', 0, none⟩) k cap' ∧ Hid (OwnE epE wr w.heap.size 55 g' k cap' (xs.take k)) ∧ Hid (Below w.heap.size w wr)) (fun i _ _ _ => (n - intOf i).toNat)
  case atStart => exact ⟨0, w.heap.size, n, Nat.zero_le _, rfl, rfl, O1, B1⟩
  case round =>
    obtain ⟨k, g', cap', hk, rfl, rfl, HO, HB⟩ := hrel
    by_cases hlt : k < n
    · obtain ⟨x, hx⟩ : ∃ x, xs[k]? = some x := ⟨_, List.getElem?_eq_getElem (by rw [← HN.out]; exact hlt)⟩
      obtain ⟨b, off, rfl, hc⟩ := (HF.out.later HB.out).get hx
      have c0 := hc 0 _ rfl
      have c1 := hc 1 _ rfl
      have c2 := hc 2 _ rfl
      have c3 := hc 3 _ rfl
      simp only [Nat.add_zero] at c0
      have HX := hidI (take_snoc hx)
      have hxs := HS.out x (List.mem_of_getElem? hx)
      obtain ⟨W2, hW2⟩ : ∃ W2, W2 = wr.alloc (.cells #[.int .i64 x.kind, .string x.name, .string x.loc, .string x.spec] 55) := ⟨_, rfl⟩
      have hb2 : Below wr.heap.size wr W2 := by rw [hW2]; exact (Below.refl _ _).alloc (Nat.le_refl _) _
      have O2 := hidI (HO.out.later hb2)
      have B2 := hidI (HB.out.trans (hb2.mono HB.out.size))
      clear hc hx O1 B1 hmk hb2 HO HB
      go_wp2_with fail
      rw [← hW2]
      refine (copyExp_any x W2 hxs).mono ?_
      rintro e w3 ⟨rfl, hb3⟩
      have O3 := hidI (O2.out.later hb3)
      have B3 := hidI (B2.out.trans (hb3.mono B2.out.size))
      clear hb3 O2 B2 hW2 c0
      go_wp2_with (at_builtin; refine app_G epE _ rfl _ _ 32 rfl w.heap.size 55 i0 _ 56 Try.underlying32 hi hz0 hz1 hz2 rfl (by decide) g' k cap' _ (by rfl) (O3.out.later ((Below.refl _ _).alloc (Nat.le_refl _) _)) w3.heap.size x (by rfl) (by exact heap_alloc_new _ _) (by omega) ?_; intro g4 cap4 w4 ho4 hg4 hat4)
      go_roundw
      case rel => exact ⟨k + 1, g4, cap4, hlt, by go_num, rfl, by rw [HX.out]; exact hidI ho4, hidI ((B3.out.alloc B3.out.size _).grown hg4 (B3.out.alloc B3.out.size _).size (fun j hj => by cases hj; exact O3.out.blk.1))⟩
      case measure => simp [intOf]; omega
    · obtain rfl : k = n := by omega
      have O2 := HO.out
      rw [HN.out, List.take_length, ← HN.out] at O2
      have O3 := hidI O2
      clear O2 HO
      go_wp2
      go_ret
      exact ⟨g', cap', rfl, O3.out, HB.out⟩
end Go.Proofs.Ytaakfnclelcopaa
namespace Go.Proofs.Ytaakfnclelcopaa
open Go.RowKit Go.PlainAid Go.Sort

theorem Try.infoCStmt : (Try.prog.info? 53).map (fun i => (i.zero, i.size, i.bytes)) = some (some (.agg #[.int .i64 0, .string { data := #[] }, .int .i64 0]), 3, 32) := by kernel_rfl
def StStmt (x : Sm) : Prop := x.name.size ≤ 281474976710656
theorem cellsStmt {W : World} {g : Nat} {t : TypeId} {k0 k1 k2 : Value} (h : W.heap[g]? = some (.cells #[k0, k1, k2] t (0, 0))) : W.cell? ⟨g, 0, none⟩ = some k0 ∧ W.cell? ⟨g, 1, none⟩ = some k1 ∧ W.cell? ⟨g, 2, none⟩ = some k2 ∧ ∀ i, W.frozen? ⟨g, i, none⟩ = false := by
  refine ⟨?_, ?_, ?_, fun i => ?_⟩ <;> simp [World.cell?, World.frozen?, h]
set_option maxRecDepth 100000 in
set_option maxHeartbeats 3200000 in
theorem copyStmt_any (x : Sm) (w : World) (hs : StStmt x) :
    Calls Try.prog 87 #[.agg #[.int .i64 x.kind, .string x.name, .int .i64 x.expr]] w fun e w' => e = .returned (.agg #[.int .i64 x.kind, .string x.name, .int .i64 x.expr]) ∧ Below w.heap.size w w' := by
  have HS := hidI hs
  clear hs
  go_enter Try.func87, Try.ntmps87
  go_upto_region 1 with fail
  have e1 : (w.alloc (.cells #[.int .i64 x.kind, .string x.name, .int .i64 x.expr] 53)).heap.size = w.heap.size + 1 := alloc_size _ _
  refine world_anyI (R := fun W => W.heap[w.heap.size]? = some (.cells #[.int .i64 x.kind, .string x.name, .int .i64 x.expr] 53) ∧ W.heap[w.heap.size + 1]? = some (.cells #[.int .i64 0, .string { data := #[] }, .int .i64 0] 53) ∧ Below w.heap.size w W) ⟨blk_later (heap_alloc_new w _) ((Below.refl _ _).alloc (Nat.le_refl _) _), (by have := heap_alloc_new (w.alloc (.cells #[.int .i64 x.kind, .string x.name, .int .i64 x.expr] 53)) (.cells #[.int .i64 0, .string { data := #[] }, .int .i64 0] 53); rw [e1] at this; exact this), ((Below.refl _ _).alloc (Nat.le_refl _) _).alloc (by omega) _⟩ ?_
  clear e1
  rintro w1 ⟨hx, hz, hb⟩
  have X1 := hidI hx
  have Z1 := hidI hz
  have B1 := hidI hb
  clear hx hz hb
  obtain ⟨c0, c1, c2, cf⟩ := cellsStmt X1.out
  go_wp2_with fail
  refine (cloneP_any x.name w1 HS.out).mono ?_
  rintro e w2 ⟨rfl, hb⟩
  have X2 := hidI (blk_later X1.out hb)
  have Z2 := hidI (blk_later Z1.out hb)
  have B2 := hidI (B1.out.trans (hb.mono B1.out.size))
  clear hb X1 Z1 B1 c0 c1 c2 cf
  have X3 : Hid ((w2.setCell ⟨w.heap.size, 1, none⟩ (.string x.name)).heap[w.heap.size]? = some (.cells #[.int .i64 x.kind, .string x.name, .int .i64 x.expr] 53)) := by
    show _ = _
    rw [qcell (i := 1) (u := .string x.name) X2.out]
    rfl
  have Z3 : Hid ((w2.setCell ⟨w.heap.size, 1, none⟩ (.string x.name)).heap[w.heap.size + 1]? = some (.cells #[.int .i64 0, .string { data := #[] }, .int .i64 0] 53)) := (heap_setCell_other w2 ⟨w.heap.size, 1, none⟩ _ _ (by show w.heap.size + 1 ≠ w.heap.size; omega)).trans Z2.out
  have B3 : Hid (Below w.heap.size w (w2.setCell ⟨w.heap.size, 1, none⟩ (.string x.name))) := B2.out.setCell (Nat.le_refl _) _
  obtain ⟨c0, c1, c2, cf⟩ := cellsStmt X2.out
  go_upto_region 2 with fail
  obtain ⟨w3, hw3⟩ : ∃ w3, w3 = w2.setCell ⟨w.heap.size, 1, none⟩ (.string x.name) := ⟨_, rfl⟩
  rw [← hw3] at X3 Z3 B3 ⊢
  clear X2 Z2 B2 hw3 c0 c1 c2 cf
  obtain ⟨c0, c1, c2, cf⟩ := cellsStmt X3.out
  obtain ⟨z0, z1, z2, zf⟩ := cellsStmt Z3.out
  have y0 := Z3.out
  have y1 : (w3.setCell ⟨w.heap.size + 1, 0, none⟩ (.int .i64 x.kind)).heap[w.heap.size + 1]? = some (.cells #[.int .i64 x.kind, .string { data := #[] }, .int .i64 0] 53) := by
    rw [qcell (i := 0) (u := .int .i64 x.kind) y0]
    rfl
  obtain ⟨y10, y11, y12, y1f⟩ := cellsStmt y1
  have y2 : ((w3.setCell ⟨w.heap.size + 1, 0, none⟩ (.int .i64 x.kind)).setCell ⟨w.heap.size + 1, 1, none⟩ (.string x.name)).heap[w.heap.size + 1]? = some (.cells #[.int .i64 x.kind, .string x.name, .int .i64 0] 53) := by
    rw [qcell (i := 1) (u := .string x.name) y1]
    rfl
  obtain ⟨y20, y21, y22, y2f⟩ := cellsStmt y2
  have y3 : (((w3.setCell ⟨w.heap.size + 1, 0, none⟩ (.int .i64 x.kind)).setCell ⟨w.heap.size + 1, 1, none⟩ (.string x.name)).setCell ⟨w.heap.size + 1, 2, none⟩ (.int .i64 x.expr)).heap[w.heap.size + 1]? = some (.cells #[.int .i64 x.kind, .string x.name, .int .i64 x.expr] 53) := by
    rw [qcell (i := 2) (u := .int .i64 x.expr) y2]
    rfl
  obtain ⟨y30, y31, y32, y3f⟩ := cellsStmt y3
  have hl : w.heap.size ≤ w.heap.size + 1 := by omega
  go_wp2
  refine bodyPost_ret (results_cell_row rfl _ _ (w.heap.size + 1) 53 #[.int .i64 x.kind, .string x.name, .int .i64 x.expr] (0, 0) _ rfl y3 Try.underlying53 rfl (by kernel_rfl)) rfl ?_
  exact ⟨rfl, (((B3.out.setCell (p := ⟨w.heap.size + 1, 0, none⟩) hl _).setCell (p := ⟨w.heap.size + 1, 1, none⟩) hl _).setCell (p := ⟨w.heap.size + 1, 2, none⟩) hl _)⟩
set_option maxRecDepth 100000 in
set_option maxHeartbeats 1600000 in
theorem copyRowsStmt_any (a : Option Addr) (cap : Nat) (xs : List Sm) (w : World) (hr : RowAt w a smL 3 xs) (hl : xs.length ≤ 1048576) (hs : ∀ x ∈ xs, StStmt x) :
    Calls Try.prog 86 #[.slice a xs.length cap, .func (.func 87) #[] #[]] w fun e w' => ∃ g' cap', e = .returned (.slice (some ⟨g', 0, none⟩) xs.length cap') ∧ OwnE smE w' w.heap.size 53 g' xs.length cap' xs ∧ Below w.heap.size w w' := by
  obtain ⟨i0, hi, hz0, hz1, hz2⟩ := info_parts Try.infoCStmt
  have HF := hidI hr
  have HS := hidI hs
  clear hr hs
  obtain ⟨n, hn⟩ : ∃ n, n = xs.length := ⟨_, rfl⟩
  rw [← hn] at hl ⊢
  have HN := hidI hn
  clear hn
  obtain ⟨w1, hmk, ho1, hg1⟩ := run_make_own w w.heap.size 33 53 i0 _ 3 Try.underlying33 hi hz0 hz1 .i64 .i64 n (by rw [hz2]; omega) (by unfold maxLen; omega) (Nat.le_refl _)
  have O1 : Hid (OwnE smE w1 w.heap.size 53 w.heap.size 0 n []) := ⟨ho1, rfl⟩
  have B1 : Hid (Below w.heap.size w w1) := ⟨hg1.os, hg1.tape, hg1.output, hg1.size, fun k hk => hg1.block k hk (by simp)⟩
  clear ho1 hg1
  go_enter Try.func86, Try.ntmps86
  go_wp2
  go_loopw [13, 5, 7] (fun i o _ wr => ∃ (k g' cap' : Nat), k ≤ n ∧ i = .int .i64 k ∧ o = .slice (some ⟨g', 0, none⟩) k cap' ∧ Hid (OwnE smE wr w.heap.size 53 g' k cap' (xs.take k)) ∧ Hid (Below w.heap.size w wr)) (fun i _ _ _ => (n - intOf i).toNat)
  case atStart => exact ⟨0, w.heap.size, n, Nat.zero_le _, rfl, rfl, O1, B1⟩
  case round =>
    obtain ⟨k, g', cap', hk, rfl, rfl, HO, HB⟩ := hrel
    by_cases hlt : k < n
    · obtain ⟨x, hx⟩ : ∃ x, xs[k]? = some x := ⟨_, List.getElem?_eq_getElem (by rw [← HN.out]; exact hlt)⟩
      obtain ⟨b, off, rfl, hc⟩ := (HF.out.later HB.out).get hx
      have c0 := hc 0 _ rfl
      have c1 := hc 1 _ rfl
      have c2 := hc 2 _ rfl
      simp only [Nat.add_zero] at c0
      have HX := hidI (take_snoc hx)
      have hxs := HS.out x (List.mem_of_getElem? hx)
      obtain ⟨W2, hW2⟩ : ∃ W2, W2 = wr.alloc (.cells #[.int .i64 x.kind, .string x.name, .int .i64 x.expr] 53) := ⟨_, rfl⟩
      have hb2 : Below wr.heap.size wr W2 := by rw [hW2]; exact (Below.refl _ _).alloc (Nat.le_refl _) _
      have O2 := hidI (HO.out.later hb2)
      have B2 := hidI (HB.out.trans (hb2.mono HB.out.size))
      clear hc hx O1 B1 hmk hb2 HO HB
      go_wp2_with fail
      rw [← hW2]
      refine (copyStmt_any x W2 hxs).mono ?_
      rintro e w3 ⟨rfl, hb3⟩
      have O3 := hidI (O2.out.later hb3)
      have B3 := hidI (B2.out.trans (hb3.mono B2.out.size))
      clear hb3 O2 B2 hW2 c0
      go_wp2_with (at_builtin; refine app_G smE _ rfl _ _ 33 rfl w.heap.size 53 i0 _ 32 Try.underlying33 hi hz0 hz1 hz2 rfl (by decide) g' k cap' _ (by rfl) (O3.out.later ((Below.refl _ _).alloc (Nat.le_refl _) _)) w3.heap.size x (by rfl) (by exact heap_alloc_new _ _) (by omega) ?_; intro g4 cap4 w4 ho4 hg4 hat4)
      go_roundw
      case rel => exact ⟨k + 1, g4, cap4, hlt, by go_num, rfl, by rw [HX.out]; exact hidI ho4, hidI ((B3.out.alloc B3.out.size _).grown hg4 (B3.out.alloc B3.out.size _).size (fun j hj => by cases hj; exact O3.out.blk.1))⟩
      case measure => simp [intOf]; omega
    · obtain rfl : k = n := by omega
      have O2 := HO.out
      rw [HN.out, List.take_length, ← HN.out] at O2
      have O3 := hidI O2
      clear O2 HO
      go_wp2
      go_ret
      exact ⟨g', cap', rfl, O3.out, HB.out⟩
end Go.Proofs.Ytaakfnclelcopaa
namespace Go.Proofs.Ytaakfnclelcopaa
open Go.RowKit Go.PlainAid Go.Sort

theorem Try.infoCExpr : (Try.prog.info? 50).map (fun i => (i.zero, i.size, i.bytes)) = some (some (.agg #[.int .i64 0, .int .i64 0, .string { data := #[] }, .string { data := #[] }, .int .i64 0, .int .i64 0]), 6, 64) := by kernel_rfl
def StExpr (x : Ex) : Prop := x.name.size ≤ 281474976710656 ∧ x.field.size ≤ 281474976710656
theorem cellsExpr {W : World} {g : Nat} {t : TypeId} {k0 k1 k2 k3 k4 k5 : Value} (h : W.heap[g]? = some (.cells #[k0, k1, k2, k3, k4, k5] t (0, 0))) : W.cell? ⟨g, 0, none⟩ = some k0 ∧ W.cell? ⟨g, 1, none⟩ = some k1 ∧ W.cell? ⟨g, 2, none⟩ = some k2 ∧ W.cell? ⟨g, 3, none⟩ = some k3 ∧ W.cell? ⟨g, 4, none⟩ = some k4 ∧ W.cell? ⟨g, 5, none⟩ = some k5 ∧ ∀ i, W.frozen? ⟨g, i, none⟩ = false := by
  refine ⟨?_, ?_, ?_, ?_, ?_, ?_, fun i => ?_⟩ <;> simp [World.cell?, World.frozen?, h]
def slVExpr (x : Ex) (gx : Nat) : Nat → Value
  | 0 => .pointer (some ⟨gx, 2, none⟩)
  | 1 => .string x.name
  | 2 => .string x.name
  | 3 => .pointer (some ⟨gx, 3, none⟩)
  | 4 => .string x.field
  | 5 => .string x.field
  | 6 => .pointer (some ⟨gx, 2, none⟩)
  | 7 => undef
  | 8 => .pointer (some ⟨gx, 3, none⟩)
  | 9 => undef
  | _ => undef
def slFExpr : Nat → Option Nat
  | 0 => some 3
  | 1 => some 4
  | 2 => some 5
  | 3 => some 6
  | 4 => some 7
  | 5 => some 8
  | 6 => some 9
  | 7 => none
  | 8 => some 10
  | 9 => none
  | _ => none
theorem slExpr (a0 : Act) (h : a0.tmps.size = 12) : SlotsOk a0 slFExpr 10 := by
  intro i hi s hs
  rw [h]
  obtain rfl | rfl | rfl | rfl | rfl | rfl | rfl | rfl | rfl | rfl : i = 0 ∨ i = 1 ∨ i = 2 ∨ i = 3 ∨ i = 4 ∨ i = 5 ∨ i = 6 ∨ i = 7 ∨ i = 8 ∨ i = 9 := by omega
  all_goals first
    | (cases hs; done)
    | (cases hs
       refine ⟨by decide, fun j hj hjs => ?_⟩
       obtain rfl | rfl | rfl | rfl | rfl | rfl | rfl | rfl | rfl | rfl : j = 0 ∨ j = 1 ∨ j = 2 ∨ j = 3 ∨ j = 4 ∨ j = 5 ∨ j = 6 ∨ j = 7 ∨ j = 8 ∨ j = 9 := by omega
       all_goals first | rfl | (exfalso; revert hjs; decide))
structure CIExpr (x : Ex) (w : World) (gx gz : Nat) (_ : Nat → Bool) (W : World) : Prop where
  bel : Below w.heap.size w W
  box : W.heap[gx]? = some (.cells #[.int .i64 x.kind, .int .i64 x.num, .string x.name, .string x.field, .int .i64 x.l, .int .i64 x.r] 50)
  r0 : W.heap[gz]? = some (.cells #[.int .i64 0, .int .i64 0, .string { data := #[] }, .string { data := #[] }, .int .i64 0, .int .i64 0] 50)
theorem CIExpr.later {x : Ex} {w W W' : World} {gx gz : Nat} {D : Nat → Bool} (h : CIExpr x w gx gz D W) (hb : Below W.heap.size W W') : CIExpr x w gx gz D W' := ⟨h.bel.trans (hb.mono h.bel.size), blk_later h.box hb, blk_later h.r0 hb⟩
theorem CIExpr.go {x : Ex} {w W : World} {gx gz : Nat} {D D' : Nat → Bool} (h : CIExpr x w gx gz D W) : CIExpr x w gx gz D' W := ⟨h.bel, h.box, h.r0⟩
set_option maxRecDepth 100000 in
set_option maxHeartbeats 3200000 in
theorem copyExpr_any (x : Ex) (w : World) (hs : StExpr x) :
    Calls Try.prog 89 #[.agg #[.int .i64 x.kind, .int .i64 x.num, .string x.name, .string x.field, .int .i64 x.l, .int .i64 x.r]] w fun e w' => e = .returned (.agg #[.int .i64 x.kind, .int .i64 x.num, .string x.name, .string x.field, .int .i64 x.l, .int .i64 x.r]) ∧ Below w.heap.size w w' := by
  have HS := hidI hs
  clear hs
  go_enter Try.func89, Try.ntmps89
  go_upto_region 1 with fail
  have e1 : (w.alloc (.cells #[.int .i64 x.kind, .int .i64 x.num, .string x.name, .string x.field, .int .i64 x.l, .int .i64 x.r] 50)).heap.size = w.heap.size + 1 := alloc_size _ _
  refine world_anyI (R := fun W => W.heap[w.heap.size]? = some (.cells #[.int .i64 x.kind, .int .i64 x.num, .string x.name, .string x.field, .int .i64 x.l, .int .i64 x.r] 50) ∧ W.heap[w.heap.size + 1]? = some (.cells #[.int .i64 0, .int .i64 0, .string { data := #[] }, .string { data := #[] }, .int .i64 0, .int .i64 0] 50) ∧ Below w.heap.size w W) ⟨blk_later (heap_alloc_new w _) ((Below.refl _ _).alloc (Nat.le_refl _) _), (by have := heap_alloc_new (w.alloc (.cells #[.int .i64 x.kind, .int .i64 x.num, .string x.name, .string x.field, .int .i64 x.l, .int .i64 x.r] 50)) (.cells #[.int .i64 0, .int .i64 0, .string { data := #[] }, .string { data := #[] }, .int .i64 0, .int .i64 0] 50); rw [e1] at this; exact this), ((Below.refl _ _).alloc (Nat.le_refl _) _).alloc (by omega) _⟩ ?_
  clear e1
  rintro w1 ⟨hx, hz, hb⟩
  have X1 := hidI hx
  have Z1 := hidI hz
  have B1 := hidI hb
  clear hx hz hb
  have LX : Hid (w.heap.size < w1.heap.size) := (Array.getElem?_eq_some_iff.1 X1.out).1
  generalize ha0 : (Act.mk _ _) = a0
  have OKS : SlotsOk a0 slFExpr 10 := slExpr a0 (by rw [← ha0]; rfl)
  refine wp_region_inv (by kernel_rfl) (fun D a' W => SlG a0 slFExpr 10 (slVExpr x w.heap.size) D a' ∧ CIExpr x w w.heap.size (w.heap.size + 1) D W) (sort_of (by kernel_rfl)) ⟨SlG.start _ _ _ _, ⟨B1.out.drew, X1.out, Z1.out⟩⟩ ?_ ?_
  · rintro D a' W i o ⟨H, J⟩ hi hd hdep
    have hlt : i < 10 := (Array.getElem?_eq_some_iff.1 hi).1
    have o1 : a'.tmps[1]? = some (.pointer (some ⟨w.heap.size, 0, none⟩)) := (H.oth 1 (by decide)).trans (by rw [← ha0]; rfl)
    have o2 : a'.tmps[2]? = some (.pointer (some ⟨w.heap.size + 1, 0, none⟩)) := (H.oth 2 (by decide)).trans (by rw [← ha0]; rfl)
    obtain ⟨c0, c1, c2, c3, c4, c5, cf⟩ := cellsExpr J.box
    obtain rfl | rfl | rfl | rfl | rfl | rfl | rfl | rfl | rfl | rfl : i = 0 ∨ i = 1 ∨ i = 2 ∨ i = 3 ∨ i = 4 ∨ i = 5 ∨ i = 6 ∨ i = 7 ∨ i = 8 ∨ i = 9 := by omega
    · cases hi
      exact wpOp_of rfl rfl (opG_val (w' := W) (v := slVExpr x w.heap.size 0) (by simp only [slVExpr]; go_simp) ⟨H.put OKS (i := 0) (by decide) rfl, J.go⟩)
    · cases hi
      have t1 := H.e 0 (by decide) (hdep ⟨0, .data⟩ (by simp) rfl) 3 rfl
      simp only [slVExpr] at t1
      exact wpOp_of rfl rfl (opG_val (w' := W) (v := slVExpr x w.heap.size 1) (by simp only [slVExpr]; go_simp) ⟨H.put OKS (i := 1) (by decide) rfl, J.go⟩)
    · cases hi
      have t1 := H.e 1 (by decide) (hdep ⟨1, .data⟩ (by simp) rfl) 4 rfl
      simp only [slVExpr] at t1
      refine wpOp_of rfl rfl (opG_call (f := 75) (args := #[.string x.name]) (by go_simp) ((cloneP_any x.name W HS.out.1).mono ?_))
      rintro e W' ⟨rfl, hb⟩
      exact ⟨_, rfl, H.put OKS (i := 2) (by decide) rfl, (J.later hb).go⟩
    · cases hi
      exact wpOp_of rfl rfl (opG_val (w' := W) (v := slVExpr x w.heap.size 3) (by simp only [slVExpr]; go_simp) ⟨H.put OKS (i := 3) (by decide) rfl, J.go⟩)
    · cases hi
      have t1 := H.e 3 (by decide) (hdep ⟨3, .data⟩ (by simp) rfl) 6 rfl
      simp only [slVExpr] at t1
      exact wpOp_of rfl rfl (opG_val (w' := W) (v := slVExpr x w.heap.size 4) (by simp only [slVExpr]; go_simp) ⟨H.put OKS (i := 4) (by decide) rfl, J.go⟩)
    · cases hi
      have t1 := H.e 4 (by decide) (hdep ⟨4, .data⟩ (by simp) rfl) 7 rfl
      simp only [slVExpr] at t1
      refine wpOp_of rfl rfl (opG_call (f := 75) (args := #[.string x.field]) (by go_simp) ((cloneP_any x.field W HS.out.2).mono ?_))
      rintro e W' ⟨rfl, hb⟩
      exact ⟨_, rfl, H.put OKS (i := 5) (by decide) rfl, (J.later hb).go⟩
    · cases hi
      exact wpOp_of rfl rfl (opG_val (w' := W) (v := slVExpr x w.heap.size 6) (by simp only [slVExpr]; go_simp) ⟨H.put OKS (i := 6) (by decide) rfl, J.go⟩)
    · cases hi
      have t1 := H.e 6 (by decide) (hdep ⟨6, .data⟩ (by simp) rfl) 9 rfl
      have t2 := H.e 2 (by decide) (hdep ⟨2, .data⟩ (by simp) rfl) 5 rfl
      simp only [slVExpr] at t1 t2
      have y : (W.setCell ⟨w.heap.size, 2, none⟩ (.string x.name)).heap[w.heap.size]? = some (.cells #[.int .i64 x.kind, .int .i64 x.num, .string x.name, .string x.field, .int .i64 x.l, .int .i64 x.r] 50) := by
        rw [qcell (i := 2) (u := .string x.name) J.box]
        rfl
      exact wpOp_of rfl rfl (opG_skip (w' := W.setCell ⟨w.heap.size, 2, none⟩ (.string x.name)) (by go_simp) ⟨H.skip (i := 7) rfl _, J.bel.setCell (Nat.le_refl _) _, y, (heap_setCell_other W ⟨w.heap.size, 2, none⟩ _ _ (by show w.heap.size + 1 ≠ w.heap.size; omega)).trans J.r0⟩)
    · cases hi
      exact wpOp_of rfl rfl (opG_val (w' := W) (v := slVExpr x w.heap.size 8) (by simp only [slVExpr]; go_simp) ⟨H.put OKS (i := 8) (by decide) rfl, J.go⟩)
    · cases hi
      have t1 := H.e 8 (by decide) (hdep ⟨8, .data⟩ (by simp) rfl) 10 rfl
      have t2 := H.e 5 (by decide) (hdep ⟨5, .data⟩ (by simp) rfl) 8 rfl
      simp only [slVExpr] at t1 t2
      have y : (W.setCell ⟨w.heap.size, 3, none⟩ (.string x.field)).heap[w.heap.size]? = some (.cells #[.int .i64 x.kind, .int .i64 x.num, .string x.name, .string x.field, .int .i64 x.l, .int .i64 x.r] 50) := by
        rw [qcell (i := 3) (u := .string x.field) J.box]
        rfl
      exact wpOp_of rfl rfl (opG_skip (w' := W.setCell ⟨w.heap.size, 3, none⟩ (.string x.field)) (by go_simp) ⟨H.skip (i := 9) rfl _, J.bel.setCell (Nat.le_refl _) _, y, (heap_setCell_other W ⟨w.heap.size, 3, none⟩ _ _ (by show w.heap.size + 1 ≠ w.heap.size; omega)).trans J.r0⟩)
  · rintro D a' W ⟨H, J⟩ hall
    rw [H.all OKS (fun i hi => hall i hi)]
    have X3 := hidI J.box
    have Z3 := hidI J.r0
    have B3 := hidI J.bel
    rw [← ha0]
    simp only [List.range, List.range.loop, List.foldl_cons, List.foldl_nil, slVExpr, slFExpr]
    rename_i Q' K hK
    refine hK _ _ ?_
    clear hK H J hall OKS ha0 X1 Z1 B1 LX
    simp only [Act.put, List.setIfInBounds_toArray, List.set_cons_succ, List.set_cons_zero]
    obtain ⟨c0, c1, c2, c3, c4, c5, cf⟩ := cellsExpr X3.out
    obtain ⟨z0, z1, z2, z3, z4, z5, zf⟩ := cellsExpr Z3.out
    have y0 := Z3.out
    have y1 : (W.setCell ⟨w.heap.size + 1, 0, none⟩ (.int .i64 x.kind)).heap[w.heap.size + 1]? = some (.cells #[.int .i64 x.kind, .int .i64 0, .string { data := #[] }, .string { data := #[] }, .int .i64 0, .int .i64 0] 50) := by
      rw [qcell (i := 0) (u := .int .i64 x.kind) y0]
      rfl
    obtain ⟨y10, y11, y12, y13, y14, y15, y1f⟩ := cellsExpr y1
    have y2 : ((W.setCell ⟨w.heap.size + 1, 0, none⟩ (.int .i64 x.kind)).setCell ⟨w.heap.size + 1, 1, none⟩ (.int .i64 x.num)).heap[w.heap.size + 1]? = some (.cells #[.int .i64 x.kind, .int .i64 x.num, .string { data := #[] }, .string { data := #[] }, .int .i64 0, .int .i64 0] 50) := by
      rw [qcell (i := 1) (u := .int .i64 x.num) y1]
      rfl
    obtain ⟨y20, y21, y22, y23, y24, y25, y2f⟩ := cellsExpr y2
    have y3 : (((W.setCell ⟨w.heap.size + 1, 0, none⟩ (.int .i64 x.kind)).setCell ⟨w.heap.size + 1, 1, none⟩ (.int .i64 x.num)).setCell ⟨w.heap.size + 1, 2, none⟩ (.string x.name)).heap[w.heap.size + 1]? = some (.cells #[.int .i64 x.kind, .int .i64 x.num, .string x.name, .string { data := #[] }, .int .i64 0, .int .i64 0] 50) := by
      rw [qcell (i := 2) (u := .string x.name) y2]
      rfl
    obtain ⟨y30, y31, y32, y33, y34, y35, y3f⟩ := cellsExpr y3
    have y4 : ((((W.setCell ⟨w.heap.size + 1, 0, none⟩ (.int .i64 x.kind)).setCell ⟨w.heap.size + 1, 1, none⟩ (.int .i64 x.num)).setCell ⟨w.heap.size + 1, 2, none⟩ (.string x.name)).setCell ⟨w.heap.size + 1, 3, none⟩ (.string x.field)).heap[w.heap.size + 1]? = some (.cells #[.int .i64 x.kind, .int .i64 x.num, .string x.name, .string x.field, .int .i64 0, .int .i64 0] 50) := by
      rw [qcell (i := 3) (u := .string x.field) y3]
      rfl
    obtain ⟨y40, y41, y42, y43, y44, y45, y4f⟩ := cellsExpr y4
    have y5 : (((((W.setCell ⟨w.heap.size + 1, 0, none⟩ (.int .i64 x.kind)).setCell ⟨w.heap.size + 1, 1, none⟩ (.int .i64 x.num)).setCell ⟨w.heap.size + 1, 2, none⟩ (.string x.name)).setCell ⟨w.heap.size + 1, 3, none⟩ (.string x.field)).setCell ⟨w.heap.size + 1, 4, none⟩ (.int .i64 x.l)).heap[w.heap.size + 1]? = some (.cells #[.int .i64 x.kind, .int .i64 x.num, .string x.name, .string x.field, .int .i64 x.l, .int .i64 0] 50) := by
      rw [qcell (i := 4) (u := .int .i64 x.l) y4]
      rfl
    obtain ⟨y50, y51, y52, y53, y54, y55, y5f⟩ := cellsExpr y5
    have y6 : ((((((W.setCell ⟨w.heap.size + 1, 0, none⟩ (.int .i64 x.kind)).setCell ⟨w.heap.size + 1, 1, none⟩ (.int .i64 x.num)).setCell ⟨w.heap.size + 1, 2, none⟩ (.string x.name)).setCell ⟨w.heap.size + 1, 3, none⟩ (.string x.field)).setCell ⟨w.heap.size + 1, 4, none⟩ (.int .i64 x.l)).setCell ⟨w.heap.size + 1, 5, none⟩ (.int .i64 x.r)).heap[w.heap.size + 1]? = some (.cells #[.int .i64 x.kind, .int .i64 x.num, .string x.name, .string x.field, .int .i64 x.l, .int .i64 x.r] 50) := by
      rw [qcell (i := 5) (u := .int .i64 x.r) y5]
      rfl
    obtain ⟨y60, y61, y62, y63, y64, y65, y6f⟩ := cellsExpr y6
    have hl : w.heap.size ≤ w.heap.size + 1 := by omega
    go_wp2
    refine bodyPost_ret (results_cell_row rfl _ _ (w.heap.size + 1) 50 #[.int .i64 x.kind, .int .i64 x.num, .string x.name, .string x.field, .int .i64 x.l, .int .i64 x.r] (0, 0) _ rfl y6 Try.underlying50 rfl (by kernel_rfl)) rfl ?_
    exact ⟨rfl, ((((((B3.out.setCell (p := ⟨w.heap.size + 1, 0, none⟩) hl _).setCell (p := ⟨w.heap.size + 1, 1, none⟩) hl _).setCell (p := ⟨w.heap.size + 1, 2, none⟩) hl _).setCell (p := ⟨w.heap.size + 1, 3, none⟩) hl _).setCell (p := ⟨w.heap.size + 1, 4, none⟩) hl _).setCell (p := ⟨w.heap.size + 1, 5, none⟩) hl _)⟩
set_option maxRecDepth 100000 in
set_option maxHeartbeats 1600000 in
theorem copyRowsExpr_any (a : Option Addr) (cap : Nat) (xs : List Ex) (w : World) (hr : RowAt w a exL 6 xs) (hl : xs.length ≤ 1048576) (hs : ∀ x ∈ xs, StExpr x) :
    Calls Try.prog 88 #[.slice a xs.length cap, .func (.func 89) #[] #[]] w fun e w' => ∃ g' cap', e = .returned (.slice (some ⟨g', 0, none⟩) xs.length cap') ∧ OwnE exE w' w.heap.size 50 g' xs.length cap' xs ∧ Below w.heap.size w w' := by
  obtain ⟨i0, hi, hz0, hz1, hz2⟩ := info_parts Try.infoCExpr
  have HF := hidI hr
  have HS := hidI hs
  clear hr hs
  obtain ⟨n, hn⟩ : ∃ n, n = xs.length := ⟨_, rfl⟩
  rw [← hn] at hl ⊢
  have HN := hidI hn
  clear hn
  obtain ⟨w1, hmk, ho1, hg1⟩ := run_make_own w w.heap.size 34 50 i0 _ 6 Try.underlying34 hi hz0 hz1 .i64 .i64 n (by rw [hz2]; omega) (by unfold maxLen; omega) (Nat.le_refl _)
  have O1 : Hid (OwnE exE w1 w.heap.size 50 w.heap.size 0 n []) := ⟨ho1, rfl⟩
  have B1 : Hid (Below w.heap.size w w1) := ⟨hg1.os, hg1.tape, hg1.output, hg1.size, fun k hk => hg1.block k hk (by simp)⟩
  clear ho1 hg1
  go_enter Try.func88, Try.ntmps88
  go_wp2
  go_loopw [13, 5, 7] (fun i o _ wr => ∃ (k g' cap' : Nat), k ≤ n ∧ i = .int .i64 k ∧ o = .slice (some ⟨g', 0, none⟩) k cap' ∧ Hid (OwnE exE wr w.heap.size 50 g' k cap' (xs.take k)) ∧ Hid (Below w.heap.size w wr)) (fun i _ _ _ => (n - intOf i).toNat)
  case atStart => exact ⟨0, w.heap.size, n, Nat.zero_le _, rfl, rfl, O1, B1⟩
  case round =>
    obtain ⟨k, g', cap', hk, rfl, rfl, HO, HB⟩ := hrel
    by_cases hlt : k < n
    · obtain ⟨x, hx⟩ : ∃ x, xs[k]? = some x := ⟨_, List.getElem?_eq_getElem (by rw [← HN.out]; exact hlt)⟩
      obtain ⟨b, off, rfl, hc⟩ := (HF.out.later HB.out).get hx
      have c0 := hc 0 _ rfl
      have c1 := hc 1 _ rfl
      have c2 := hc 2 _ rfl
      have c3 := hc 3 _ rfl
      have c4 := hc 4 _ rfl
      have c5 := hc 5 _ rfl
      simp only [Nat.add_zero] at c0
      have HX := hidI (take_snoc hx)
      have hxs := HS.out x (List.mem_of_getElem? hx)
      obtain ⟨W2, hW2⟩ : ∃ W2, W2 = wr.alloc (.cells #[.int .i64 x.kind, .int .i64 x.num, .string x.name, .string x.field, .int .i64 x.l, .int .i64 x.r] 50) := ⟨_, rfl⟩
      have hb2 : Below wr.heap.size wr W2 := by rw [hW2]; exact (Below.refl _ _).alloc (Nat.le_refl _) _
      have O2 := hidI (HO.out.later hb2)
      have B2 := hidI (HB.out.trans (hb2.mono HB.out.size))
      clear hc hx O1 B1 hmk hb2 HO HB
      go_wp2_with fail
      rw [← hW2]
      refine (copyExpr_any x W2 hxs).mono ?_
      rintro e w3 ⟨rfl, hb3⟩
      have O3 := hidI (O2.out.later hb3)
      have B3 := hidI (B2.out.trans (hb3.mono B2.out.size))
      clear hb3 O2 B2 hW2 c0
      go_wp2_with (at_builtin; refine app_G exE _ rfl _ _ 34 rfl w.heap.size 50 i0 _ 64 Try.underlying34 hi hz0 hz1 hz2 rfl (by decide) g' k cap' _ (by rfl) (O3.out.later ((Below.refl _ _).alloc (Nat.le_refl _) _)) w3.heap.size x (by rfl) (by exact heap_alloc_new _ _) (by omega) ?_; intro g4 cap4 w4 ho4 hg4 hat4)
      go_roundw
      case rel => exact ⟨k + 1, g4, cap4, hlt, by go_num, rfl, by rw [HX.out]; exact hidI ho4, hidI ((B3.out.alloc B3.out.size _).grown hg4 (B3.out.alloc B3.out.size _).size (fun j hj => by cases hj; exact O3.out.blk.1))⟩
      case measure => simp [intOf]; omega
    · obtain rfl : k = n := by omega
      have O2 := HO.out
      rw [HN.out, List.take_length, ← HN.out] at O2
      have O3 := hidI O2
      clear O2 HO
      go_wp2
      go_ret
      exact ⟨g', cap', rfl, O3.out, HB.out⟩
end Go.Proofs.Ytaakfnclelcopaa
namespace Go.Proofs.Ytaakfnclelcopaa
open Go.RowKit Go.PlainAid Go.Sort

def StM (m : Md) : Prop := (∀ x ∈ m.rq, x.size ≤ 281474976710656) ∧ (∀ x ∈ m.im, StImp x) ∧ (∀ x ∈ m.ep, StExp x) ∧ (∀ x ∈ m.st, StStmt x) ∧ ∀ x ∈ m.ex, StExpr x
def cS (g c : Nat → Nat) : Sv := ⟨⟨some ⟨g 0, 0, none⟩, c 0⟩, ⟨some ⟨g 1, 0, none⟩, c 1⟩, ⟨some ⟨g 2, 0, none⟩, c 2⟩, ⟨some ⟨g 3, 0, none⟩, c 3⟩, ⟨some ⟨g 4, 0, none⟩, c 4⟩, R0⟩
def cmV (S : Sv) (m : Md) (gx : Nat) (g c : Nat → Nat) : Nat → Value
  | 0 => .pointer (some ⟨gx, 0, none⟩)
  | 1 => .slice S.rq.a m.rq.length S.rq.cap
  | 2 => .slice (some ⟨g 0, 0, none⟩) m.rq.length (c 0)
  | 3 => .pointer (some ⟨gx, 1, none⟩)
  | 4 => .slice S.im.a m.im.length S.im.cap
  | 5 => .slice (some ⟨g 1, 0, none⟩) m.im.length (c 1)
  | 6 => .pointer (some ⟨gx, 2, none⟩)
  | 7 => .slice S.ep.a m.ep.length S.ep.cap
  | 8 => .slice (some ⟨g 2, 0, none⟩) m.ep.length (c 2)
  | 9 => .pointer (some ⟨gx, 3, none⟩)
  | 10 => .slice S.st.a m.st.length S.st.cap
  | 11 => .slice (some ⟨g 3, 0, none⟩) m.st.length (c 3)
  | 12 => .pointer (some ⟨gx, 4, none⟩)
  | 13 => .slice S.ex.a m.ex.length S.ex.cap
  | 14 => .slice (some ⟨g 4, 0, none⟩) m.ex.length (c 4)
  | 15 => modD (cS g c) m
  | _ => undef
def cmF (i : Nat) : Option Nat := if i < 16 then some (3 + i) else none
theorem cm_slots (a0 : Act) (h : a0.tmps.size = 19) : SlotsOk a0 cmF 17 := by
  intro i hi s hs
  rw [h]
  unfold cmF at hs
  split at hs
  · cases hs
    refine ⟨by omega, fun j hj hjs => ?_⟩
    unfold cmF at hjs
    split at hjs
    · have := Option.some.inj hjs
      omega
    · cases hjs
  · cases hs
structure CM (S : Sv) (m : Md) (w w1 : World) (gx gz : Nat) (g c : Nat → Nat) (D : Nat → Bool) (W : World) : Prop where
  bel : Below w.heap.size w W
  box : W.heap[gx]? = some (boxD S m)
  o0 : D 2 = true → OwnE stE W w1.heap.size 9 (g 0) m.rq.length (c 0) m.rq
  o1 : D 5 = true → OwnE imE W w1.heap.size 78 (g 1) m.im.length (c 1) m.im
  o2 : D 8 = true → OwnE epE W w1.heap.size 55 (g 2) m.ep.length (c 2) m.ep
  o3 : D 11 = true → OwnE smE W w1.heap.size 53 (g 3) m.st.length (c 3) m.st
  o4 : D 14 = true → OwnE exE W w1.heap.size 50 (g 4) m.ex.length (c 4) m.ex
  cb : D 15 = true → D 2 = true ∧ D 5 = true ∧ D 8 = true ∧ D 11 = true ∧ D 14 = true
  r0 : D 16 = false → W.heap[gz]? = some box0
  r1 : D 16 = true → W.heap[gz]? = some (boxD (cS g c) m)
  c16 : D 16 = true → D 15 = true
theorem CM.later {S : Sv} {m : Md} {w w1 W W' : World} {gx gz : Nat} {g c : Nat → Nat} {D : Nat → Bool} (h : CM S m w w1 gx gz g c D W) (hb : Below W.heap.size W W') : CM S m w w1 gx gz g c D W' :=
  ⟨h.bel.trans (hb.mono h.bel.size), blk_later h.box hb, fun k => (h.o0 k).later hb, fun k => (h.o1 k).later hb, fun k => (h.o2 k).later hb, fun k => (h.o3 k).later hb, fun k => (h.o4 k).later hb, h.cb, fun k => blk_later (h.r0 k) hb, fun k => blk_later (h.r1 k) hb, h.c16⟩
theorem CM.go {S : Sv} {m : Md} {w w1 W : World} {gx gz i : Nat} {g c : Nat → Nat} {D : Nat → Bool} (h : CM S m w w1 gx gz g c D W) (hi : i ≠ 2 ∧ i ≠ 5 ∧ i ≠ 8 ∧ i ≠ 11 ∧ i ≠ 14 ∧ i ≠ 16) (h15 : i = 15 → D 2 = true ∧ D 5 = true ∧ D 8 = true ∧ D 11 = true ∧ D 14 = true) : CM S m w w1 gx gz g c (fun j => D j || decide (j = i)) W := by
  obtain ⟨i2, i5, i8, i11, i14, i16⟩ := hi
  have e2 : (D 2 || decide (2 = i)) = D 2 := by rw [decide_eq_false (fun k => i2 k.symm), Bool.or_false]
  have e5 : (D 5 || decide (5 = i)) = D 5 := by rw [decide_eq_false (fun k => i5 k.symm), Bool.or_false]
  have e8 : (D 8 || decide (8 = i)) = D 8 := by rw [decide_eq_false (fun k => i8 k.symm), Bool.or_false]
  have e11 : (D 11 || decide (11 = i)) = D 11 := by rw [decide_eq_false (fun k => i11 k.symm), Bool.or_false]
  have e14 : (D 14 || decide (14 = i)) = D 14 := by rw [decide_eq_false (fun k => i14 k.symm), Bool.or_false]
  have e16 : (D 16 || decide (16 = i)) = D 16 := by rw [decide_eq_false (fun k => i16 k.symm), Bool.or_false]
  refine ⟨h.bel, h.box, fun k => h.o0 (e2 ▸ k), fun k => h.o1 (e5 ▸ k), fun k => h.o2 (e8 ▸ k), fun k => h.o3 (e11 ▸ k), fun k => h.o4 (e14 ▸ k), fun k => ?_, fun k => h.r0 (e16 ▸ k), fun k => h.r1 (e16 ▸ k), fun k => ?_⟩
  · show (D 2 || decide (2 = i)) = true ∧ (D 5 || decide (5 = i)) = true ∧ (D 8 || decide (8 = i)) = true ∧ (D 11 || decide (11 = i)) = true ∧ (D 14 || decide (14 = i)) = true
    rw [e2, e5, e8, e11, e14]
    by_cases e : i = 15
    · exact h15 e
    · exact h.cb (by simpa [show ¬ 15 = i from fun k => e k.symm] using k)
  · show (D 15 || decide (15 = i)) = true
    rw [h.c16 (e16 ▸ k)]
    rfl
theorem cmV_other {S : Sv} {m : Md} {gx i : Nat} {g c g' c' : Nat → Nat} (hi : i < 17) (h : (∀ j, j < 5 → i = 3 * j + 2 → g' j = g j ∧ c' j = c j)) (h15 : i ≠ 15) : cmV S m gx g' c' i = cmV S m gx g c i := by
  obtain rfl | rfl | rfl | rfl | rfl | rfl | rfl | rfl | rfl | rfl | rfl | rfl | rfl | rfl | rfl | rfl | rfl : i = 0 ∨ i = 1 ∨ i = 2 ∨ i = 3 ∨ i = 4 ∨ i = 5 ∨ i = 6 ∨ i = 7 ∨ i = 8 ∨ i = 9 ∨ i = 10 ∨ i = 11 ∨ i = 12 ∨ i = 13 ∨ i = 14 ∨ i = 15 ∨ i = 16 := by omega
  all_goals first | rfl | (exact absurd rfl h15) | skip
  · show Value.slice (some ⟨g' 0, 0, none⟩) _ (c' 0) = Value.slice (some ⟨g 0, 0, none⟩) _ (c 0)
    rw [(h 0 (by decide) rfl).1, (h 0 (by decide) rfl).2]
  · show Value.slice (some ⟨g' 1, 0, none⟩) _ (c' 1) = Value.slice (some ⟨g 1, 0, none⟩) _ (c 1)
    rw [(h 1 (by decide) rfl).1, (h 1 (by decide) rfl).2]
  · show Value.slice (some ⟨g' 2, 0, none⟩) _ (c' 2) = Value.slice (some ⟨g 2, 0, none⟩) _ (c 2)
    rw [(h 2 (by decide) rfl).1, (h 2 (by decide) rfl).2]
  · show Value.slice (some ⟨g' 3, 0, none⟩) _ (c' 3) = Value.slice (some ⟨g 3, 0, none⟩) _ (c 3)
    rw [(h 3 (by decide) rfl).1, (h 3 (by decide) rfl).2]
  · show Value.slice (some ⟨g' 4, 0, none⟩) _ (c' 4) = Value.slice (some ⟨g 4, 0, none⟩) _ (c 4)
    rw [(h 4 (by decide) rfl).1, (h 4 (by decide) rfl).2]
set_option maxRecDepth 100000 in
set_option maxHeartbeats 6400000 in
theorem copyMod_any (S : Sv) (m : Md) (w : World) (hr : MdR w S m) (hq : RowAt w S.rq.a stE.f 1 m.rq) (hl : m.rq.length ≤ 1048576 ∧ m.im.length ≤ 1048576 ∧ m.ep.length ≤ 1048576 ∧ m.st.length ≤ 1048576 ∧ m.ex.length ≤ 1048576) (hN : StM m) :
    Calls Try.prog 56 #[modD S m] w fun e w' => ∃ g c, e = .returned (modD (cS g c) m) ∧ OwnMd w' w.heap.size (cS g c) m ∧ Below w.heap.size w w' := by
  have HR := hidI hr
  have HQ := hidI hq
  have HN := hidI hN
  have HL := hidI hl
  clear hr hN hl hq
  unfold modD
  go_enter Try.func56, Try.ntmps56
  go_upto_region 1 with fail
  have e1 : (w.alloc (boxD S m)).heap.size = w.heap.size + 1 := alloc_size _ _
  refine world_anyI (R := fun W => W.heap[w.heap.size]? = some (boxD S m) ∧ W.heap[w.heap.size + 1]? = some box0 ∧ Below w.heap.size w W) ⟨blk_later (heap_alloc_new w _) ((Below.refl _ _).alloc (Nat.le_refl _) _), heap_alloc2_new w _ _, ((Below.refl _ _).alloc (Nat.le_refl _) _).alloc (by rw [alloc_size]; omega) _⟩ ?_
  clear e1
  rintro w1 ⟨hx, hz, hb⟩
  have X1 := hidI hx
  have Z1 := hidI hz
  have B1 := hidI hb
  have LZ : Hid (w.heap.size + 1 < w1.heap.size) := hidI (Array.getElem?_eq_some_iff.1 hz).1
  clear hx hz hb
  generalize ha0 : (Act.mk _ _) = a0
  have OKS : SlotsOk a0 cmF 17 := cm_slots a0 (by rw [← ha0]; rfl)
  refine wp_region_inv (by kernel_rfl) (fun D a' W => ∃ g c : Nat → Nat, SlG a0 cmF 17 (cmV S m w.heap.size g c) D a' ∧ CM S m w w1 w.heap.size (w.heap.size + 1) g c D W ∧ (D 16 = false → Below w1.heap.size w1 W)) (sort_of (by kernel_rfl)) ⟨fun _ => 0, fun _ => 0, SlG.start _ _ _ _, ⟨B1.out.drew, X1.out, (fun k => by cases k), (fun k => by cases k), (fun k => by cases k), (fun k => by cases k), (fun k => by cases k), (fun k => by cases k), fun _ => Z1.out, (fun k => by cases k), fun k => by cases k⟩, fun _ => (Below.refl _ _).drew⟩ ?_ ?_
  · rintro D a' W i o ⟨g, c, H, J, BW⟩ hi hd hdep
    have hlt : i < 17 := (Array.getElem?_eq_some_iff.1 hi).1
    have o1 : a'.tmps[1]? = some (.pointer (some ⟨w.heap.size, 0, none⟩)) := (H.oth 1 (by decide)).trans (by rw [← ha0]; rfl)
    have o2 : a'.tmps[2]? = some (.pointer (some ⟨w.heap.size + 1, 0, none⟩)) := (H.oth 2 (by decide)).trans (by rw [← ha0]; rfl)
    obtain rfl | rfl | rfl | rfl | rfl | rfl | rfl | rfl | rfl | rfl | rfl | rfl | rfl | rfl | rfl | rfl | rfl : i = 0 ∨ i = 1 ∨ i = 2 ∨ i = 3 ∨ i = 4 ∨ i = 5 ∨ i = 6 ∨ i = 7 ∨ i = 8 ∨ i = 9 ∨ i = 10 ∨ i = 11 ∨ i = 12 ∨ i = 13 ∨ i = 14 ∨ i = 15 ∨ i = 16 := by omega
    · cases hi
      exact wpOp_of rfl rfl (opG_val (w' := W) (v := cmV S m w.heap.size g c 0) (by simp only [cmV]; go_simp) ⟨g, c, H.put OKS (i := 0) (by decide) rfl, J.go (by decide) (fun k => absurd k (by decide)), fun k => BW (by simpa using k)⟩)
    · cases hi
      have t1 := H.e 0 (by decide) (hdep ⟨0, .data⟩ (by simp) rfl) 3 rfl
      simp only [cmV] at t1
      obtain ⟨c0, c1, c2, c3, c4, cf⟩ := five_of J.box
      exact wpOp_of rfl rfl (opG_val (w' := W) (v := cmV S m w.heap.size g c 1) (by simp only [cmV]; go_simp) ⟨g, c, H.put OKS (i := 1) (by decide) rfl, J.go (by decide) (fun k => absurd k (by decide)), fun k => BW (by simpa using k)⟩)
    · cases hi
      have t1 := H.e 1 (by decide) (hdep ⟨1, .data⟩ (by simp) rfl) 4 rfl
      simp only [cmV] at t1
      refine wpOp_of rfl rfl (opG_call (f := 73) (args := #[.slice S.rq.a m.rq.length S.rq.cap, .func (.func 75) #[] #[]]) (by go_simp) ((copyRowsS_any S.rq.a S.rq.cap m.rq W (HQ.out.later J.bel) (Nat.le_trans HL.out.1 (by decide)) HN.out.1).mono ?_))
      rintro e W' ⟨gn, cn, rfl, ho, hb⟩
      have J' := J.later hb
      have h15 : D 15 = false := by
        cases h : D 15 with
        | false => rfl
        | true => rw [(J.cb h).1] at hd; cases hd
      have h16 : D 16 = false := by
        cases h : D 16 with
        | false => rfl
        | true => rw [J.c16 h] at h15; cases h15
      refine ⟨_, rfl, fun k => if k = 0 then gn else g k, fun k => if k = 0 then cn else c k, (H.anew fun i hi8 hd' => cmV_other hi8 (fun j hj e => ?_) (fun e => by rw [e, h15] at hd'; cases hd')).put OKS (i := 2) (by decide) rfl, ?_, fun _ => (BW h16).trans (hb.mono (BW h16).size)⟩
      · have : j ≠ 0 := fun e2 => by rw [e, e2, hd] at hd'; cases hd'
        exact ⟨if_neg this, if_neg this⟩
      · exact ⟨J'.bel, J'.box, fun _ => ho.low (BW h16).size, fun k => J'.o1 (by simpa using k), fun k => J'.o2 (by simpa using k), fun k => J'.o3 (by simpa using k), fun k => J'.o4 (by simpa using k), fun k => absurd (show D 15 = true by simpa using k) (by rw [h15]; decide), fun k => J'.r0 (by simpa using k), fun k => absurd (show D 16 = true by simpa using k) (by rw [h16]; decide), fun k => absurd (show D 16 = true by simpa using k) (by rw [h16]; decide)⟩
    · cases hi
      exact wpOp_of rfl rfl (opG_val (w' := W) (v := cmV S m w.heap.size g c 3) (by simp only [cmV]; go_simp) ⟨g, c, H.put OKS (i := 3) (by decide) rfl, J.go (by decide) (fun k => absurd k (by decide)), fun k => BW (by simpa using k)⟩)
    · cases hi
      have t1 := H.e 3 (by decide) (hdep ⟨3, .data⟩ (by simp) rfl) 6 rfl
      simp only [cmV] at t1
      obtain ⟨c0, c1, c2, c3, c4, cf⟩ := five_of J.box
      exact wpOp_of rfl rfl (opG_val (w' := W) (v := cmV S m w.heap.size g c 4) (by simp only [cmV]; go_simp) ⟨g, c, H.put OKS (i := 4) (by decide) rfl, J.go (by decide) (fun k => absurd k (by decide)), fun k => BW (by simpa using k)⟩)
    · cases hi
      have t1 := H.e 4 (by decide) (hdep ⟨4, .data⟩ (by simp) rfl) 7 rfl
      simp only [cmV] at t1
      refine wpOp_of rfl rfl (opG_call (f := 82) (args := #[.slice S.im.a m.im.length S.im.cap, .func (.func 83) #[] #[]]) (by go_simp) ((copyRowsImp_any S.im.a S.im.cap m.im W (HR.out.im.later J.bel) HL.out.2.1 HN.out.2.1).mono ?_))
      rintro e W' ⟨gn, cn, rfl, ho, hb⟩
      have J' := J.later hb
      have h15 : D 15 = false := by
        cases h : D 15 with
        | false => rfl
        | true => rw [(J.cb h).2.1] at hd; cases hd
      have h16 : D 16 = false := by
        cases h : D 16 with
        | false => rfl
        | true => rw [J.c16 h] at h15; cases h15
      refine ⟨_, rfl, fun k => if k = 1 then gn else g k, fun k => if k = 1 then cn else c k, (H.anew fun i hi8 hd' => cmV_other hi8 (fun j hj e => ?_) (fun e => by rw [e, h15] at hd'; cases hd')).put OKS (i := 5) (by decide) rfl, ?_, fun _ => (BW h16).trans (hb.mono (BW h16).size)⟩
      · have : j ≠ 1 := fun e2 => by rw [e, e2, hd] at hd'; cases hd'
        exact ⟨if_neg this, if_neg this⟩
      · exact ⟨J'.bel, J'.box, fun k => J'.o0 (by simpa using k), fun _ => ho.low (BW h16).size, fun k => J'.o2 (by simpa using k), fun k => J'.o3 (by simpa using k), fun k => J'.o4 (by simpa using k), fun k => absurd (show D 15 = true by simpa using k) (by rw [h15]; decide), fun k => J'.r0 (by simpa using k), fun k => absurd (show D 16 = true by simpa using k) (by rw [h16]; decide), fun k => absurd (show D 16 = true by simpa using k) (by rw [h16]; decide)⟩
    · cases hi
      exact wpOp_of rfl rfl (opG_val (w' := W) (v := cmV S m w.heap.size g c 6) (by simp only [cmV]; go_simp) ⟨g, c, H.put OKS (i := 6) (by decide) rfl, J.go (by decide) (fun k => absurd k (by decide)), fun k => BW (by simpa using k)⟩)
    · cases hi
      have t1 := H.e 6 (by decide) (hdep ⟨6, .data⟩ (by simp) rfl) 9 rfl
      simp only [cmV] at t1
      obtain ⟨c0, c1, c2, c3, c4, cf⟩ := five_of J.box
      exact wpOp_of rfl rfl (opG_val (w' := W) (v := cmV S m w.heap.size g c 7) (by simp only [cmV]; go_simp) ⟨g, c, H.put OKS (i := 7) (by decide) rfl, J.go (by decide) (fun k => absurd k (by decide)), fun k => BW (by simpa using k)⟩)
    · cases hi
      have t1 := H.e 7 (by decide) (hdep ⟨7, .data⟩ (by simp) rfl) 10 rfl
      simp only [cmV] at t1
      refine wpOp_of rfl rfl (opG_call (f := 84) (args := #[.slice S.ep.a m.ep.length S.ep.cap, .func (.func 85) #[] #[]]) (by go_simp) ((copyRowsExp_any S.ep.a S.ep.cap m.ep W (HR.out.ep.later J.bel) HL.out.2.2.1 HN.out.2.2.1).mono ?_))
      rintro e W' ⟨gn, cn, rfl, ho, hb⟩
      have J' := J.later hb
      have h15 : D 15 = false := by
        cases h : D 15 with
        | false => rfl
        | true => rw [(J.cb h).2.2.1] at hd; cases hd
      have h16 : D 16 = false := by
        cases h : D 16 with
        | false => rfl
        | true => rw [J.c16 h] at h15; cases h15
      refine ⟨_, rfl, fun k => if k = 2 then gn else g k, fun k => if k = 2 then cn else c k, (H.anew fun i hi8 hd' => cmV_other hi8 (fun j hj e => ?_) (fun e => by rw [e, h15] at hd'; cases hd')).put OKS (i := 8) (by decide) rfl, ?_, fun _ => (BW h16).trans (hb.mono (BW h16).size)⟩
      · have : j ≠ 2 := fun e2 => by rw [e, e2, hd] at hd'; cases hd'
        exact ⟨if_neg this, if_neg this⟩
      · exact ⟨J'.bel, J'.box, fun k => J'.o0 (by simpa using k), fun k => J'.o1 (by simpa using k), fun _ => ho.low (BW h16).size, fun k => J'.o3 (by simpa using k), fun k => J'.o4 (by simpa using k), fun k => absurd (show D 15 = true by simpa using k) (by rw [h15]; decide), fun k => J'.r0 (by simpa using k), fun k => absurd (show D 16 = true by simpa using k) (by rw [h16]; decide), fun k => absurd (show D 16 = true by simpa using k) (by rw [h16]; decide)⟩
    · cases hi
      exact wpOp_of rfl rfl (opG_val (w' := W) (v := cmV S m w.heap.size g c 9) (by simp only [cmV]; go_simp) ⟨g, c, H.put OKS (i := 9) (by decide) rfl, J.go (by decide) (fun k => absurd k (by decide)), fun k => BW (by simpa using k)⟩)
    · cases hi
      have t1 := H.e 9 (by decide) (hdep ⟨9, .data⟩ (by simp) rfl) 12 rfl
      simp only [cmV] at t1
      obtain ⟨c0, c1, c2, c3, c4, cf⟩ := five_of J.box
      exact wpOp_of rfl rfl (opG_val (w' := W) (v := cmV S m w.heap.size g c 10) (by simp only [cmV]; go_simp) ⟨g, c, H.put OKS (i := 10) (by decide) rfl, J.go (by decide) (fun k => absurd k (by decide)), fun k => BW (by simpa using k)⟩)
    · cases hi
      have t1 := H.e 10 (by decide) (hdep ⟨10, .data⟩ (by simp) rfl) 13 rfl
      simp only [cmV] at t1
      refine wpOp_of rfl rfl (opG_call (f := 86) (args := #[.slice S.st.a m.st.length S.st.cap, .func (.func 87) #[] #[]]) (by go_simp) ((copyRowsStmt_any S.st.a S.st.cap m.st W (HR.out.st.later J.bel) HL.out.2.2.2.1 HN.out.2.2.2.1).mono ?_))
      rintro e W' ⟨gn, cn, rfl, ho, hb⟩
      have J' := J.later hb
      have h15 : D 15 = false := by
        cases h : D 15 with
        | false => rfl
        | true => rw [(J.cb h).2.2.2.1] at hd; cases hd
      have h16 : D 16 = false := by
        cases h : D 16 with
        | false => rfl
        | true => rw [J.c16 h] at h15; cases h15
      refine ⟨_, rfl, fun k => if k = 3 then gn else g k, fun k => if k = 3 then cn else c k, (H.anew fun i hi8 hd' => cmV_other hi8 (fun j hj e => ?_) (fun e => by rw [e, h15] at hd'; cases hd')).put OKS (i := 11) (by decide) rfl, ?_, fun _ => (BW h16).trans (hb.mono (BW h16).size)⟩
      · have : j ≠ 3 := fun e2 => by rw [e, e2, hd] at hd'; cases hd'
        exact ⟨if_neg this, if_neg this⟩
      · exact ⟨J'.bel, J'.box, fun k => J'.o0 (by simpa using k), fun k => J'.o1 (by simpa using k), fun k => J'.o2 (by simpa using k), fun _ => ho.low (BW h16).size, fun k => J'.o4 (by simpa using k), fun k => absurd (show D 15 = true by simpa using k) (by rw [h15]; decide), fun k => J'.r0 (by simpa using k), fun k => absurd (show D 16 = true by simpa using k) (by rw [h16]; decide), fun k => absurd (show D 16 = true by simpa using k) (by rw [h16]; decide)⟩
    · cases hi
      exact wpOp_of rfl rfl (opG_val (w' := W) (v := cmV S m w.heap.size g c 12) (by simp only [cmV]; go_simp) ⟨g, c, H.put OKS (i := 12) (by decide) rfl, J.go (by decide) (fun k => absurd k (by decide)), fun k => BW (by simpa using k)⟩)
    · cases hi
      have t1 := H.e 12 (by decide) (hdep ⟨12, .data⟩ (by simp) rfl) 15 rfl
      simp only [cmV] at t1
      obtain ⟨c0, c1, c2, c3, c4, cf⟩ := five_of J.box
      exact wpOp_of rfl rfl (opG_val (w' := W) (v := cmV S m w.heap.size g c 13) (by simp only [cmV]; go_simp) ⟨g, c, H.put OKS (i := 13) (by decide) rfl, J.go (by decide) (fun k => absurd k (by decide)), fun k => BW (by simpa using k)⟩)
    · cases hi
      have t1 := H.e 13 (by decide) (hdep ⟨13, .data⟩ (by simp) rfl) 16 rfl
      simp only [cmV] at t1
      refine wpOp_of rfl rfl (opG_call (f := 88) (args := #[.slice S.ex.a m.ex.length S.ex.cap, .func (.func 89) #[] #[]]) (by go_simp) ((copyRowsExpr_any S.ex.a S.ex.cap m.ex W (HR.out.ex.later J.bel) HL.out.2.2.2.2 HN.out.2.2.2.2).mono ?_))
      rintro e W' ⟨gn, cn, rfl, ho, hb⟩
      have J' := J.later hb
      have h15 : D 15 = false := by
        cases h : D 15 with
        | false => rfl
        | true => rw [(J.cb h).2.2.2.2] at hd; cases hd
      have h16 : D 16 = false := by
        cases h : D 16 with
        | false => rfl
        | true => rw [J.c16 h] at h15; cases h15
      refine ⟨_, rfl, fun k => if k = 4 then gn else g k, fun k => if k = 4 then cn else c k, (H.anew fun i hi8 hd' => cmV_other hi8 (fun j hj e => ?_) (fun e => by rw [e, h15] at hd'; cases hd')).put OKS (i := 14) (by decide) rfl, ?_, fun _ => (BW h16).trans (hb.mono (BW h16).size)⟩
      · have : j ≠ 4 := fun e2 => by rw [e, e2, hd] at hd'; cases hd'
        exact ⟨if_neg this, if_neg this⟩
      · exact ⟨J'.bel, J'.box, fun k => J'.o0 (by simpa using k), fun k => J'.o1 (by simpa using k), fun k => J'.o2 (by simpa using k), fun k => J'.o3 (by simpa using k), fun _ => ho.low (BW h16).size, fun k => absurd (show D 15 = true by simpa using k) (by rw [h15]; decide), fun k => J'.r0 (by simpa using k), fun k => absurd (show D 16 = true by simpa using k) (by rw [h16]; decide), fun k => absurd (show D 16 = true by simpa using k) (by rw [h16]; decide)⟩
    · cases hi
      have d0 := hdep ⟨2, .data⟩ (by simp) rfl
      have u0 := H.e 2 (by decide) d0 5 rfl
      have d1 := hdep ⟨5, .data⟩ (by simp) rfl
      have u1 := H.e 5 (by decide) d1 8 rfl
      have d2 := hdep ⟨8, .data⟩ (by simp) rfl
      have u2 := H.e 8 (by decide) d2 11 rfl
      have d3 := hdep ⟨11, .data⟩ (by simp) rfl
      have u3 := H.e 11 (by decide) d3 14 rfl
      have d4 := hdep ⟨14, .data⟩ (by simp) rfl
      have u4 := H.e 14 (by decide) d4 17 rfl
      simp only [cmV] at u0 u1 u2 u3 u4
      exact wpOp_of rfl rfl (opG_val (w' := W) (v := cmV S m w.heap.size g c 15) (by simp only [cmV]; unfold modD cS; go_simp) ⟨g, c, H.put OKS (i := 15) (by decide) rfl, J.go (by decide) (fun _ => ⟨d0, d1, d2, d3, d4⟩), fun k => BW (by simpa using k)⟩)
    · cases hi
      have d15 := hdep ⟨15, .data⟩ (by simp) rfl
      have u0 := H.e 15 (by decide) d15 18 rfl
      simp only [cmV] at u0
      unfold modD at u0
      have y0 := J.r0 hd
      unfold box0 at y0
      obtain ⟨y00, y01, y02, y03, y04, y0f⟩ := five_of y0
      have y1 : (W.setCell ⟨w.heap.size + 1, 0, none⟩ (.slice (cS g c).rq.a m.rq.length (cS g c).rq.cap)).heap[w.heap.size + 1]? = some (.cells #[.slice (cS g c).rq.a m.rq.length (cS g c).rq.cap, .slice none 0 0, .slice none 0 0, .slice none 0 0, .slice none 0 0] 36 (0, 0)) := by
        rw [qcell (i := 0) (u := .slice (cS g c).rq.a m.rq.length (cS g c).rq.cap) y0]
        rfl
      obtain ⟨y10, y11, y12, y13, y14, y1f⟩ := five_of y1
      have y2 : ((W.setCell ⟨w.heap.size + 1, 0, none⟩ (.slice (cS g c).rq.a m.rq.length (cS g c).rq.cap)).setCell ⟨w.heap.size + 1, 1, none⟩ (.slice (cS g c).im.a m.im.length (cS g c).im.cap)).heap[w.heap.size + 1]? = some (.cells #[.slice (cS g c).rq.a m.rq.length (cS g c).rq.cap, .slice (cS g c).im.a m.im.length (cS g c).im.cap, .slice none 0 0, .slice none 0 0, .slice none 0 0] 36 (0, 0)) := by
        rw [qcell (i := 1) (u := .slice (cS g c).im.a m.im.length (cS g c).im.cap) y1]
        rfl
      obtain ⟨y20, y21, y22, y23, y24, y2f⟩ := five_of y2
      have y3 : (((W.setCell ⟨w.heap.size + 1, 0, none⟩ (.slice (cS g c).rq.a m.rq.length (cS g c).rq.cap)).setCell ⟨w.heap.size + 1, 1, none⟩ (.slice (cS g c).im.a m.im.length (cS g c).im.cap)).setCell ⟨w.heap.size + 1, 2, none⟩ (.slice (cS g c).ep.a m.ep.length (cS g c).ep.cap)).heap[w.heap.size + 1]? = some (.cells #[.slice (cS g c).rq.a m.rq.length (cS g c).rq.cap, .slice (cS g c).im.a m.im.length (cS g c).im.cap, .slice (cS g c).ep.a m.ep.length (cS g c).ep.cap, .slice none 0 0, .slice none 0 0] 36 (0, 0)) := by
        rw [qcell (i := 2) (u := .slice (cS g c).ep.a m.ep.length (cS g c).ep.cap) y2]
        rfl
      obtain ⟨y30, y31, y32, y33, y34, y3f⟩ := five_of y3
      have y4 : ((((W.setCell ⟨w.heap.size + 1, 0, none⟩ (.slice (cS g c).rq.a m.rq.length (cS g c).rq.cap)).setCell ⟨w.heap.size + 1, 1, none⟩ (.slice (cS g c).im.a m.im.length (cS g c).im.cap)).setCell ⟨w.heap.size + 1, 2, none⟩ (.slice (cS g c).ep.a m.ep.length (cS g c).ep.cap)).setCell ⟨w.heap.size + 1, 3, none⟩ (.slice (cS g c).st.a m.st.length (cS g c).st.cap)).heap[w.heap.size + 1]? = some (.cells #[.slice (cS g c).rq.a m.rq.length (cS g c).rq.cap, .slice (cS g c).im.a m.im.length (cS g c).im.cap, .slice (cS g c).ep.a m.ep.length (cS g c).ep.cap, .slice (cS g c).st.a m.st.length (cS g c).st.cap, .slice none 0 0] 36 (0, 0)) := by
        rw [qcell (i := 3) (u := .slice (cS g c).st.a m.st.length (cS g c).st.cap) y3]
        rfl
      obtain ⟨y40, y41, y42, y43, y44, y4f⟩ := five_of y4
      have y5 : (((((W.setCell ⟨w.heap.size + 1, 0, none⟩ (.slice (cS g c).rq.a m.rq.length (cS g c).rq.cap)).setCell ⟨w.heap.size + 1, 1, none⟩ (.slice (cS g c).im.a m.im.length (cS g c).im.cap)).setCell ⟨w.heap.size + 1, 2, none⟩ (.slice (cS g c).ep.a m.ep.length (cS g c).ep.cap)).setCell ⟨w.heap.size + 1, 3, none⟩ (.slice (cS g c).st.a m.st.length (cS g c).st.cap)).setCell ⟨w.heap.size + 1, 4, none⟩ (.slice (cS g c).ex.a m.ex.length (cS g c).ex.cap)).heap[w.heap.size + 1]? = some (.cells #[.slice (cS g c).rq.a m.rq.length (cS g c).rq.cap, .slice (cS g c).im.a m.im.length (cS g c).im.cap, .slice (cS g c).ep.a m.ep.length (cS g c).ep.cap, .slice (cS g c).st.a m.st.length (cS g c).st.cap, .slice (cS g c).ex.a m.ex.length (cS g c).ex.cap] 36 (0, 0)) := by
        rw [qcell (i := 4) (u := .slice (cS g c).ex.a m.ex.length (cS g c).ex.cap) y4]
        rfl
      obtain ⟨y50, y51, y52, y53, y54, y5f⟩ := five_of y5
      have hx : ∀ k, k ≠ w.heap.size + 1 → (((((W.setCell ⟨w.heap.size + 1, 0, none⟩ (.slice (cS g c).rq.a m.rq.length (cS g c).rq.cap)).setCell ⟨w.heap.size + 1, 1, none⟩ (.slice (cS g c).im.a m.im.length (cS g c).im.cap)).setCell ⟨w.heap.size + 1, 2, none⟩ (.slice (cS g c).ep.a m.ep.length (cS g c).ep.cap)).setCell ⟨w.heap.size + 1, 3, none⟩ (.slice (cS g c).st.a m.st.length (cS g c).st.cap)).setCell ⟨w.heap.size + 1, 4, none⟩ (.slice (cS g c).ex.a m.ex.length (cS g c).ex.cap)).heap[k]? = W.heap[k]? := fun k hk => by
        rw [heap_setCell_other _ ⟨w.heap.size + 1, 4, none⟩ k _ hk, heap_setCell_other _ ⟨w.heap.size + 1, 3, none⟩ k _ hk, heap_setCell_other _ ⟨w.heap.size + 1, 2, none⟩ k _ hk, heap_setCell_other _ ⟨w.heap.size + 1, 1, none⟩ k _ hk, heap_setCell_other _ ⟨w.heap.size + 1, 0, none⟩ k _ hk]
      have hl : w.heap.size ≤ w.heap.size + 1 := by omega
      have hz := LZ.out
      refine wpOp_of rfl rfl (opG_skip (w' := (((((W.setCell ⟨w.heap.size + 1, 0, none⟩ (.slice (cS g c).rq.a m.rq.length (cS g c).rq.cap)).setCell ⟨w.heap.size + 1, 1, none⟩ (.slice (cS g c).im.a m.im.length (cS g c).im.cap)).setCell ⟨w.heap.size + 1, 2, none⟩ (.slice (cS g c).ep.a m.ep.length (cS g c).ep.cap)).setCell ⟨w.heap.size + 1, 3, none⟩ (.slice (cS g c).st.a m.st.length (cS g c).st.cap)).setCell ⟨w.heap.size + 1, 4, none⟩ (.slice (cS g c).ex.a m.ex.length (cS g c).ex.cap))) (by go_simp) ⟨g, c, H.skip (i := 16) rfl _, ⟨(((((J.bel.setCell (p := ⟨w.heap.size + 1, 0, none⟩) hl _).setCell (p := ⟨w.heap.size + 1, 1, none⟩) hl _).setCell (p := ⟨w.heap.size + 1, 2, none⟩) hl _).setCell (p := ⟨w.heap.size + 1, 3, none⟩) hl _).setCell (p := ⟨w.heap.size + 1, 4, none⟩) hl _), (hx _ (by omega)).trans J.box, fun k => (J.o0 (by simpa using k)).keep (hx _ (by have := (J.o0 (by simpa using k)).blk.1; omega)), fun k => (J.o1 (by simpa using k)).keep (hx _ (by have := (J.o1 (by simpa using k)).blk.1; omega)), fun k => (J.o2 (by simpa using k)).keep (hx _ (by have := (J.o2 (by simpa using k)).blk.1; omega)), fun k => (J.o3 (by simpa using k)).keep (hx _ (by have := (J.o3 (by simpa using k)).blk.1; omega)), fun k => (J.o4 (by simpa using k)).keep (hx _ (by have := (J.o4 (by simpa using k)).blk.1; omega)), fun k => by simpa using J.cb (by simpa using k), fun k => by simp at k, fun _ => y5, fun _ => by simpa using d15⟩, fun k => by simp at k⟩)
  · rintro D a' W ⟨g, c, H, J, BW⟩ hall
    have R9 := hidI (J.r1 (hall 16 (by decide)))
    have q0 := (J.o0 (hall 2 (by decide))).1
    have q1 := (J.o1 (hall 5 (by decide))).1
    have q2 := (J.o2 (hall 8 (by decide))).1
    have q3 := (J.o3 (hall 11 (by decide))).1
    have q4 := (J.o4 (hall 14 (by decide))).1
    rw [st_flat] at q0
    have OM : Hid (OwnMd W w1.heap.size (cS g c) m) := hidI ⟨q0, q1, q2, q3, q4⟩
    have B3 := hidI J.bel
    have o2 : a'.tmps[2]? = some (.pointer (some ⟨w.heap.size + 1, 0, none⟩)) := (H.oth 2 (by decide)).trans (by rw [← ha0]; rfl)
    have odf : a'.defers = [] := H.df.trans (by rw [← ha0])
    rename_i Q' K hK
    refine hK _ _ (wp_ret ?_)
    show bodyPost Try.prog Try.f56 _ .ret _ _
    refine bodyPost_ret (results_cell_row rfl _ _ (w.heap.size + 1) 36 _ (0, 0) _ (evG_of o2) R9.out Try.underlying36 rfl (by kernel_rfl)) odf ?_
    exact ⟨g, c, rfl, OM.out.low (by have := LZ.out; omega), B3.out⟩
end Go.Proofs.Ytaakfnclelcopaa
