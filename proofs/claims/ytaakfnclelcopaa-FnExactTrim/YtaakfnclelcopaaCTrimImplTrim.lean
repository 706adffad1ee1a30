/-
  What impl.Trim answers: the walk.
-/
import Derived.Test.YtaakfnclelcopaaCTrimCopyImpToImplCopyMod
import Derived.Test.YtaakfnclelcopaaCTrimDeleteIm
namespace Go.Proofs.Ytaakfnclelcopaa
open Go.RowKit Go.PlainAid Go.Sort

theorem keep_trim (m : Md) : keepI (usedL m) m.im = (trimMd m).im := by
  show m.im.filter _ = m.im.filter _
  refine List.filter_congr fun x hx => ?_
  have h1 : inT (usedL m) x.loc = inT (useAll m) x.loc := by
    rw [Bool.eq_iff_iff, inT_mem, inT_mem]
    exact (use_mem m _).symm
  rw [h1]
  cases hu : inT (useAll m) x.loc with
  | true =>
    cases hn : inT (unusedL m) x.loc with
    | false => rfl
    | true =>
      have h2 := (unused_mem m x.loc).1 (inT_mem.1 hn)
      have h3 := (List.mem_filter.1 h2).2
      rw [hu] at h3
      cases h3
  | false =>
    have h2 : x.loc ∈ unusedL m := (unused_mem m x.loc).2 (List.mem_filter.2 ⟨List.mem_map.2 ⟨x, hx, rfl⟩, by rw [hu]; rfl⟩)
    rw [inT_mem.2 h2]
    rfl
theorem StM.of_cost {m : Md} (h : costM m ≤ 1048576) : StM m := by
  unfold costM at h
  refine ⟨fun x hx => ?_, fun x hx => ?_, fun x hx => ?_, fun x hx => ?_, fun x hx => ?_⟩
  · have h1 := cost_mem costStr hx
    have h2 : x.size ≤ costStr x := Nat.le_refl _
    omega
  · have h1 := cost_mem costIm hx
    have h2 : x.spec.size + x.first.size + x.loc.size ≤ costIm x := Nat.le_refl _
    refine ⟨?_, ?_, ?_⟩ <;> omega
  · have h1 := cost_mem costEp hx
    have h2 : x.name.size + x.loc.size + x.spec.size ≤ costEp x := Nat.le_refl _
    refine ⟨?_, ?_, ?_⟩ <;> omega
  · have h1 := cost_mem costSm hx
    have h2 : x.name.size ≤ costSm x := Nat.le_refl _
    show x.name.size ≤ _
    omega
  · have h1 := cost_mem costEx hx
    have h2 : x.name.size + x.field.size ≤ costEx x := Nat.le_refl _
    refine ⟨?_, ?_⟩ <;> omega
theorem rq_row {w : World} {base : Nat} {S : Sv} {m : Md} (h : OwnMd w base S m) : RowAt w S.rq.a stE.f 1 m.rq :=
  rowAt_of (f := stE.f) (m := 1) (fun _ => rfl) (by have := h.rq; rw [← st_flat] at this; exact this)
set_option maxRecDepth 100000 in
set_option maxHeartbeats 3200000 in
theorem trim_impl (base : Nat) (S : Sv) (m : Md) (w : World) (h : OwnMd w base S m) (hl : m.rq.length ≤ 1048576 ∧ m.im.length ≤ 1048576 ∧ m.ep.length ≤ 1048576 ∧ m.st.length ≤ 1048576 ∧ m.ex.length ≤ 1048576) (hN : NmSz m) (hM : StM m) :
    Calls Try.prog 21 #[modD S m] w fun e w' => ∃ S', e = .returned (modD S' (trimMd m)) ∧ OwnMd w' w.heap.size S' (trimMd m) ∧ Below w.heap.size w w' := by
  have HH := hidI h
  have HL := hidI hl
  have HN := hidI hN
  have HM := hidI hM
  clear h hl hN hM
  unfold modD
  go_enter Try.func21, Try.ntmps21
  go_upto_region 1 with fail
  have e1 : (w.alloc (boxD S m)).heap.size = w.heap.size + 1 := alloc_size _ _
  have HW : Hid (Below w.heap.size w ((w.alloc (boxD S m)).alloc box0)) := ((Below.refl _ _).alloc (Nat.le_refl _) _).alloc (by rw [e1]; omega) _
  refine world_anyI (R := fun W => W.heap[w.heap.size]? = some (boxD S m) ∧ W.heap[w.heap.size + 1]? = some box0 ∧ OwnMd W base S m ∧ Below w.heap.size w W) ⟨blk_later (heap_alloc_new w _) ((Below.refl _ _).alloc (Nat.le_refl _) _), heap_alloc2_new w _ _, HH.out.later HW.out, HW.out⟩ ?_
  obtain ⟨gx, hgx⟩ : ∃ gx, gx = w.heap.size := ⟨_, rfl⟩
  obtain ⟨gz, hgz⟩ : ∃ gz, gz = w.heap.size + 1 := ⟨_, rfl⟩
  rw [← hgz, ← hgx]
  rintro w1 ⟨hx, hz, ho, hb⟩
  rw [hgx] at hb
  have HXZ : Hid (w.heap.size ≤ gz) := by show _ ≤ _; omega
  clear hgx hgz HW HH e1
  have X1 := hidI hx
  have Z1 := hidI hz
  have O1 := hidI ho
  have B1 := hidI hb
  clear hx hz ho hb
  have LX : Hid (gx < w1.heap.size) := (Array.getElem?_eq_some_iff.1 X1.out).1
  have LZ : Hid (gz < w1.heap.size) := (Array.getElem?_eq_some_iff.1 Z1.out).1
  obtain ⟨c0, c1, c2, c3, c4, cf⟩ := five_of X1.out
  go_wp2_with fail
  refine (usedIn_any S m w1 (MdR.of O1.out) HL.out.2.2.2.1 HL.out.2.2.2.2 HL.out.2.2.1 HN.out.ok).mono ?_
  rintro e w2 ⟨u, rfl, hu, hb, hlu⟩
  have U2 := hidI hu
  have B2 := hidI hb
  have LU := hidI hlu
  clear hu hb hlu c0 c1 c2 c3 c4 cf
  go_upto_region 2 with fail
  refine world_anyI (R := fun W => W.heap[w2.heap.size]? = some (.cells #[.map (some u)] 64 (0, 0)) ∧ SetW W u (usedL m) ∧ Below w1.heap.size w1 W) ⟨heap_alloc_new w2 _, U2.out.kept (((Below.refl _ _).alloc (Nat.le_refl _) _).block u U2.out.lt), B2.out.alloc B2.out.size _⟩ ?_
  obtain ⟨gq, hgq⟩ : ∃ gq, gq = w2.heap.size := ⟨_, rfl⟩
  have HGQ : Hid (w1.heap.size ≤ gq) := by rw [hgq]; exact B2.out.size
  rw [← hgq]
  rintro w3 ⟨hq, hu, hb⟩
  have Q3 := hidI hq
  have U3 := hidI hu
  have B3 := hidI hb
  clear hq hu hb hgq U2 B2
  obtain ⟨c0, c1, c2, c3, c4, cf⟩ := five_of ((B3.out.block gx LX.out).trans X1.out)
  go_wp2_with fail
  refine (copyMod_any S m w3 (MdR.of (O1.out.later B3.out)) (rq_row (O1.out.later B3.out)) HL.out HM.out).mono ?_
  rintro e w4 ⟨g, c, rfl, ho, hb⟩
  have O4 := hidI ho
  have Q4 := hidI (blk_later Q3.out hb)
  have U4 := hidI (U3.out.kept (hb.block u U3.out.lt))
  have B4 := hidI (B3.out.trans (hb.mono B3.out.size))
  have S4 : Hid (w3.heap.size ≤ w4.heap.size ∧ w1.heap.size ≤ w3.heap.size ∧ gq < w3.heap.size ∧ u < w3.heap.size) := hidI ⟨hb.size, B3.out.size, (Array.getElem?_eq_some_iff.1 Q3.out).1, U3.out.lt⟩
  clear ho hb c0 c1 c2 c3 c4 cf Q3 U3 B3
  unfold modD
  go_upto_region 3 with fail
  refine world_anyI (R := fun W => W.heap[w4.heap.size]? = some (boxD (cS g c) m) ∧ OwnMd W w3.heap.size (cS g c) m ∧ W.heap[gq]? = some (.cells #[.map (some u)] 64 (0, 0)) ∧ SetW W u (usedL m) ∧ Below w1.heap.size w1 W ∧ w4.heap.size < W.heap.size) ⟨heap_alloc_new w4 _, O4.out.later ((Below.refl _ _).alloc (Nat.le_refl _) _), blk_later Q4.out ((Below.refl _ _).alloc (Nat.le_refl _) _), U4.out.kept (((Below.refl _ _).alloc (Nat.le_refl _) _).block u U4.out.lt), B4.out.alloc B4.out.size _, by rw [alloc_size]; omega⟩ ?_
  obtain ⟨gy, hgy⟩ : ∃ gy, gy = w4.heap.size := ⟨_, rfl⟩
  have HGY : Hid (w3.heap.size ≤ gy ∧ w1.heap.size ≤ gy) := hidI (by have := S4.out; omega)
  rw [← hgy]
  rintro w5 ⟨hy, ho, hq, hu, hb, hls⟩
  have Y5 := hidI hy
  have O5 := hidI ho
  have Q5 := hidI hq
  have U5 := hidI hu
  have B5 := hidI hb
  have S5 : Hid (w3.heap.size ≤ w5.heap.size) := by have := HGY.out; show _ ≤ _; omega
  clear hy ho hq hu hb hls hgy O4 Q4 U4 B4
  obtain ⟨c0, c1, c2, c3, c4, cf⟩ := five_of Y5.out
  have hc1 : w5.cell? ⟨gy, 1, none⟩ = some (.slice (some ⟨g 1, 0, none⟩) m.im.length (c 1)) := c1
  clear c1
  go_wp2_with fail
  refine (deleteI_any w3.heap.size (g 1) m.im.length (c 1) gq u m.im (usedL m) w5 ⟨O5.out.im, rfl⟩ U5.out Q5.out S5.out HL.out.2.1 HN.out.ok.1).mono ?_
  rintro e w6 ⟨n6, rfl, ho, hb, hk⟩
  have hgyn : gy ≠ g 1 := fun e => by
    obtain ⟨_, _, cur, hc⟩ := O5.out.im.typed (k := g 1) rfl
    rw [← e, Y5.out] at hc
    exact absurd hc (by simp [boxD])
  have hx6 : ∀ k, k < w5.heap.size → k ≠ g 1 → w6.heap[k]? = w5.heap[k]? := hk
  have y6 : w6.heap[gy]? = some (boxD (cS g c) m) := (hx6 gy (Array.getElem?_eq_some_iff.1 Y5.out).1 hgyn).trans Y5.out
  have kp : ∀ {r : Rw} {e : TypeId} {sz n : Nat} {xs : List Value}, OwnR w5 w3.heap.size e sz r n xs → e ≠ 78 → OwnR w6 w3.heap.size e sz r n xs := fun {r e sz n xs} hr he => hr.keep fun k hkk => by
    refine hx6 k (hr.typed hkk).2.1 fun e2 => ?_
    exact OwnR.ne hr O5.out.im he (k := k) hkk (by rw [e2]; rfl)
  have im6 : OwnR w6 w3.heap.size 78 3 (cS g c).im n6 ((trimMd m).im.flatMap imL) := by
    have := ho.1
    rw [keep_trim] at this
    exact this
  have n6e : n6 = (trimMd m).im.length := by rw [← keep_trim]; exact ho.2
  subst n6e
  have O6 : Hid (OwnMd w6 w3.heap.size (cS g c) (trimMd m)) := hidI ⟨kp O5.out.rq (by decide), im6, kp O5.out.ep (by decide), kp O5.out.st (by decide), kp O5.out.ex (by decide)⟩
  have B6 : Hid (Below w1.heap.size w1 w6) := hidI (B5.out.trans (hb.mono (by have := S4.out; omega)))
  clear hk hx6 kp im6 ho hb c0 c2 c3 c4 cf hc1 Q5 U5
  obtain ⟨d0, d1, d2, d3, d4, df⟩ := five_of y6
  obtain ⟨w7, hw7⟩ : ∃ w7, w7 = w6.setCell ⟨gy, 1, none⟩ (.slice (some ⟨g 1, 0, none⟩) (trimMd m).im.length (c 1)) := ⟨_, rfl⟩
  have Y7 : Hid (w7.heap[gy]? = some (boxD (cS g c) (trimMd m))) := by
    show _ = _
    rw [hw7, qcell (i := 1) (u := .slice (some ⟨g 1, 0, none⟩) (trimMd m).im.length (c 1)) y6]
    rfl
  have O7 : Hid (OwnMd w7 w3.heap.size (cS g c) (trimMd m)) := by
    rw [hw7]
    exact hidI ⟨O6.out.rq.aside y6 (by decide), O6.out.im.aside y6 (by decide), O6.out.ep.aside y6 (by decide), O6.out.st.aside y6 (by decide), O6.out.ex.aside y6 (by decide)⟩
  have B7 : Hid (Below w1.heap.size w1 w7) := by rw [hw7]; exact hidI (B6.out.setCell (p := ⟨gy, 1, none⟩) HGY.out.2 _)
  clear O6 B6 O5 Y5 B5
  go_upto_region 4 with fail
  rw [← hw7]
  clear hw7 y6 d0 d1 d2 d3 d4 df
  obtain ⟨d0, d1, d2, d3, d4, df⟩ := five_of Y7.out
  have Z7 := hidI ((B7.out.block gz LZ.out).trans Z1.out)
  obtain ⟨k0, k1, k2, k3, k4, kf⟩ := five_of Z7.out
  go_wp2
  refine bodyPost_ret (results_cell_row rfl _ _ gz 36 _ (0, 0) _ rfl (put5 Z7.out) Try.underlying36 rfl (by kernel_rfl)) rfl ?_
  exact ⟨cS g c, rfl, (five_aside (o := 0) O7.out ⟨_, Z7.out⟩).low (Nat.le_trans B1.out.size S4.out.2.1), below5 (B1.out.trans (B7.out.mono B1.out.size)) HXZ.out _ _ _ _ _⟩
end Go.Proofs.Ytaakfnclelcopaa
