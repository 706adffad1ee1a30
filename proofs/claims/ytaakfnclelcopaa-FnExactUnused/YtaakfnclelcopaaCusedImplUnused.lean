/-
  What impl.Unused answers: the walk.
-/
import Derived.Test.YtaakfnclelcopaaCusedUsedInToImplTold
import Derived.Test.YtaakfnclelcopaaCusedOrderInvToSlotsG
namespace Go.Proofs.Ytaakfnclelcopaa
open Go.RowKit Go.PlainAid

def unL (m : Md) (k : Nat) : List ByteArray := ((m.im.take k).map fun x => x.loc).filter fun y => !inT (usedL m) y
theorem inT_used (m : Md) (y : ByteArray) : inT (usedL m) y = inT (useAll m) y := by
  rw [Bool.eq_iff_iff, inT_mem, inT_mem]
  exact (use_mem m y).symm
theorem unL_all (m : Md) (s : ByteArray) : s ∈ unL m m.im.length ↔ s ∈ unusedL m := by
  rw [unused_mem, unL, List.take_length]
  simp only [inT_used]
theorem unL_more (m : Md) {k : Nat} {x : Im} (h : m.im[k]? = some x) : unL m (k + 1) = if inT (usedL m) x.loc then unL m k else unL m k ++ [x.loc] := by
  rw [unL, take_onD h, List.map_append, List.filter_append]
  cases hi : inT (usedL m) x.loc <;> simp [hi, unL]
theorem unL_len (m : Md) (k : Nat) : (unL m k).length ≤ k := by
  refine Nat.le_trans (List.length_filter_le _ _) ?_
  rw [List.length_map, List.length_take]
  omega
def unV (V : Sv) (m : Md) (b u g : Nat) : Nat → Value
  | 0 => .agg #[.map (some b)]
  | 1 => modD V m
  | 2 => .agg #[.map (some u)]
  | 3 => .map (some u)
  | 4 => .func (.func 48) #[.map (some u)] #[]
  | 5 => .agg #[.map (some b), .func (.func 48) #[.map (some u)] #[]]
  | 6 => .pointer (some ⟨g, 0, none⟩)
  | _ => undef
def unS : Nat → Option Nat
  | 0 => some 6 | 1 => some 7 | 2 => some 8 | 3 => some 9 | 4 => some 10 | 5 => some 11 | 6 => some 3 | _ => none
theorem two_cells {W : World} {g : Nat} {t : TypeId} {u v : Value} (h : W.heap[g]? = some (.cells #[u, v] t (0, 0))) : W.cell? ⟨g, 0, none⟩ = some u ∧ W.cell? ⟨g, 1, none⟩ = some v ∧ ∀ i, W.frozen? ⟨g, i, none⟩ = false := by
  refine ⟨?_, ?_, fun i => ?_⟩ <;> simp [World.cell?, World.frozen?, h]
structure UnI (m : Md) (w1 : World) (b u g : Nat) (D : Nat → Bool) (W : World) : Prop where
  bel : Below w1.heap.size w1 W
  s0 : D 0 = true → SetW W b [] ∧ w1.heap.size ≤ b
  s2 : D 2 = true → SetW W u (usedL m) ∧ w1.heap.size ≤ u
  ne : D 0 = true → D 2 = true → b ≠ u
  g6 : D 6 = true → D 7 = false → W.heap[g]? = some (.cells #[.map none, .nilFunc] 82)
  l6 : D 6 = true → w1.heap.size ≤ g
  g7 : D 7 = true → W.heap[g]? = some (.cells #[.map (some b), .func (.func 48) #[.map (some u)] #[]] 82)
  c3 : D 3 = true → D 2 = true
  c4 : D 4 = true → D 3 = true
  c5 : D 5 = true → D 4 = true ∧ D 0 = true
  c7 : D 7 = true → D 5 = true ∧ D 6 = true
theorem UnI.later {m : Md} {w1 W W' : World} {b u g : Nat} {D : Nat → Bool} (h : UnI m w1 b u g D W) (hb : Below W.heap.size W W') : UnI m w1 b u g D W' :=
  ⟨h.bel.trans (hb.mono h.bel.size), fun k => ⟨(h.s0 k).1.kept (hb.block b (h.s0 k).1.lt), (h.s0 k).2⟩, fun k => ⟨(h.s2 k).1.kept (hb.block u (h.s2 k).1.lt), (h.s2 k).2⟩, h.ne, fun k k' => blk_later (h.g6 k k') hb, h.l6, fun k => blk_later (h.g7 k) hb, h.c3, h.c4, h.c5, h.c7⟩
structure UnW (m : Md) (w : World) (bx : Obj) (b u g : Nat) (L : List ByteArray) (W : World) : Prop where
  set : SetW W b L
  use : SetW W u (usedL m)
  box : W.heap[w.heap.size]? = some bx
  own : W.heap[g]? = some (.cells #[.map (some b), .func (.func 48) #[.map (some u)] #[]] 82)
  bel : Below w.heap.size w W
theorem UnW.later {m : Md} {w W W' : World} {bx : Obj} {b u g : Nat} {L : List ByteArray} (h : UnW m w bx b u g L W) (hb : Below W.heap.size W W') : UnW m w bx b u g L W' :=
  ⟨h.set.kept (hb.block b h.set.lt), h.use.kept (hb.block u h.use.lt), blk_later h.box hb, blk_later h.own hb, h.bel.trans (hb.mono h.bel.size)⟩
theorem UnW.put {m : Md} {w W W' : World} {bx : Obj} {b u g : Nat} {L L' : List ByteArray} (h : UnW m w bx b u g L W) (hs : SetW W' b L') (hg : W.grownBy W' (some b)) (hb : w.heap.size + 1 ≤ b) (hu : u ≠ b) : UnW m w bx b u g L' W' := by
  have k : ∀ j, j ≠ b → ∀ o, W.heap[j]? = some o → W'.heap[j]? = some o := fun j hj o ho => (hg.block j (Array.getElem?_eq_some_iff.1 ho).1 fun e => hj (Option.some.inj e)).trans ho
  have hgb : g ≠ b := fun e => by
    obtain ⟨es, clock, h1, _⟩ := h.set
    rw [← e, h.own] at h1
    cases h1
  exact ⟨hs, h.use.kept (hg.block u h.use.lt fun e => hu (Option.some.inj e)), k _ (by omega) _ h.box, k g hgb _ h.own, h.bel.grown hg h.bel.size fun j e => by have := Option.some.inj e; omega⟩
theorem un_slots (a0 : Act) (h : a0.tmps.size = 27) : SlotsOk a0 unS 8 := by
  intro i hi s hs
  rw [h]
  obtain rfl | rfl | rfl | rfl | rfl | rfl | rfl | rfl : i = 0 ∨ i = 1 ∨ i = 2 ∨ i = 3 ∨ i = 4 ∨ i = 5 ∨ i = 6 ∨ i = 7 := by omega
  all_goals first
    | (cases hs; done)
    | (cases hs
       refine ⟨by decide, fun j hj hjs => ?_⟩
       obtain rfl | rfl | rfl | rfl | rfl | rfl | rfl | rfl : j = 0 ∨ j = 1 ∨ j = 2 ∨ j = 3 ∨ j = 4 ∨ j = 5 ∨ j = 6 ∨ j = 7 := by omega
       all_goals first | rfl | (exfalso; revert hjs; decide))
theorem UnI.go {m : Md} {w1 W : World} {b u g i : Nat} {D : Nat → Bool} (h : UnI m w1 b u g D W) (hi : i = 1 ∨ i = 3 ∨ i = 4 ∨ i = 5) (h3 : i = 3 → D 2 = true) (h4 : i = 4 → D 3 = true) (h5 : i = 5 → D 4 = true ∧ D 0 = true) : UnI m w1 b u g (fun j => D j || decide (j = i)) W := by
  have e0 : (D 0 || decide (0 = i)) = D 0 := by rw [decide_eq_false (by omega), Bool.or_false]
  have e2 : (D 2 || decide (2 = i)) = D 2 := by rw [decide_eq_false (by omega), Bool.or_false]
  have e6 : (D 6 || decide (6 = i)) = D 6 := by rw [decide_eq_false (by omega), Bool.or_false]
  have e7 : (D 7 || decide (7 = i)) = D 7 := by rw [decide_eq_false (by omega), Bool.or_false]
  have mono : ∀ j, D j = true → (D j || decide (j = i)) = true := fun j hj => by rw [hj]; rfl
  refine ⟨h.bel, fun k => h.s0 (e0 ▸ k), fun k => h.s2 (e2 ▸ k), fun k k' => h.ne (e0 ▸ k) (e2 ▸ k'), fun k k' => h.g6 (e6 ▸ k) (e7 ▸ k'), fun k => h.l6 (e6 ▸ k), fun k => h.g7 (e7 ▸ k), fun k => ?_, fun k => ?_, fun k => ?_, fun k => ?_⟩
  · show (D 2 || decide (2 = i)) = true
    by_cases e : i = 3
    · exact mono 2 (h3 e)
    · exact mono 2 (h.c3 (by simpa [show ¬ 3 = i from fun k => e k.symm] using k))
  · show (D 3 || decide (3 = i)) = true
    by_cases e : i = 4
    · exact mono 3 (h4 e)
    · exact mono 3 (h.c4 (by simpa [show ¬ 4 = i from fun k => e k.symm] using k))
  · show (D 4 || decide (4 = i)) = true ∧ (D 0 || decide (0 = i)) = true
    by_cases e : i = 5
    · exact ⟨mono 4 (h5 e).1, mono 0 (h5 e).2⟩
    · have := h.c5 (by simpa [show ¬ 5 = i from fun k => e k.symm] using k)
      exact ⟨mono 4 this.1, mono 0 this.2⟩
  · show (D 5 || decide (5 = i)) = true ∧ (D 6 || decide (6 = i)) = true
    have := h.c7 (e7 ▸ k)
    exact ⟨mono 5 this.1, mono 6 this.2⟩
set_option maxRecDepth 100000 in
set_option maxHeartbeats 4000000 in
theorem unused_impl (V : Sv) (m : Md) (w : World) (hr : MdR w V m) (hl : m.ex.length ≤ 1048576 ∧ m.st.length ≤ 1048576 ∧ m.ep.length ≤ 1048576 ∧ m.im.length ≤ 1048576) (hN : NmSz m) :
    Calls Try.prog 17 #[modD V m] w (UseOutI w (unusedL m)) := by
  have HR := hidI hr
  have HN := hidI hN
  have HL := hidI hl
  clear hr hN hl
  unfold modD
  go_enter Try.func17, Try.ntmps17
  go_upto_region 1 with fail
  refine world_anyI (R := fun W => W.heap[w.heap.size]? = some (boxD V m) ∧ Below w.heap.size w W) ⟨heap_alloc_new w _, (Below.refl _ _).alloc (Nat.le_refl _) _⟩ ?_
  rintro w1 ⟨hx, hb⟩
  have X1 := hidI hx
  have B1 := hidI hb
  clear hx hb
  have LX : Hid (w.heap.size < w1.heap.size) := (Array.getElem?_eq_some_iff.1 X1.out).1
  · skip
    generalize ha0 : (Act.mk _ _) = a0
    have OKS : SlotsOk a0 unS 8 := un_slots a0 (by rw [← ha0]; rfl)
    refine wp_region_inv (by kernel_rfl) (fun D a' W => ∃ b u g, SlG a0 unS 8 (unV V m b u g) D a' ∧ UnI m w1 b u g D W) (sort_of (by kernel_rfl)) ⟨0, 0, 0, SlG.start _ _ _ _, ⟨(Below.refl _ _).drew, (fun k => by cases k), (fun k => by cases k), (fun k => by cases k), (fun k => by cases k), (fun k => by cases k), (fun k => by cases k), (fun k => by cases k), (fun k => by cases k), (fun k => by cases k), (fun k => by cases k)⟩⟩ ?_ ?_
    · rintro D a' W i o ⟨b, u, g, H, J⟩ hi hd hdep
      have hlt : i < 8 := (Array.getElem?_eq_some_iff.1 hi).1
      obtain rfl | rfl | rfl | rfl | rfl | rfl | rfl | rfl : i = 0 ∨ i = 1 ∨ i = 2 ∨ i = 3 ∨ i = 4 ∨ i = 5 ∨ i = 6 ∨ i = 7 := by omega
      · cases hi
        refine wpOp_of rfl rfl (opG_call (f := 47) (args := #[]) (by go_simp) ((newNameSet_any W).mono ?_))
        rintro e W' ⟨b2, rfl, hs, hb, hlb⟩
        have J' := J.later hb
        refine ⟨_, rfl, b2, u, g, (H.anew (U := unV V m b2 u g) fun i hi8 hd' => ?_).put OKS (i := 0) (by decide) rfl, ?_⟩
        · have h5 : D 5 = false := by
            cases h : D 5 with
            | false => rfl
            | true => rw [(J.c5 h).2] at hd; cases hd
          obtain rfl | rfl | rfl | rfl | rfl | rfl | rfl | rfl : i = 0 ∨ i = 1 ∨ i = 2 ∨ i = 3 ∨ i = 4 ∨ i = 5 ∨ i = 6 ∨ i = 7 := by omega
          all_goals first | rfl | (rw [hd] at hd'; cases hd') | (rw [h5] at hd'; cases hd')
        · have h7 : D 7 = false := by
            cases h : D 7 with
            | false => rfl
            | true => rw [(J.c5 (J.c7 h).1).2] at hd; cases hd
          exact ⟨J'.bel, fun _ => ⟨hs, Nat.le_trans J.bel.size hlb⟩, fun k => J'.s2 (by simpa using k), fun _ k => by
              have h2 : D 2 = true := by simpa using k
              have := (J.s2 h2).1.lt
              omega, fun k k' => J'.g6 (by simpa using k) (by simpa using k'), fun k => J'.l6 (by simpa using k), fun k => absurd (show D 7 = true by simpa using k) (by rw [h7]; decide), fun k => by simpa using J'.c3 (by simpa using k), fun k => by simpa using J'.c4 (by simpa using k), fun k => by simpa using (J'.c5 (by simpa using k)).1, fun k => by simpa using J'.c7 (by simpa using k)⟩
      · cases hi
        have o1 : a'.tmps[1]? = some (.pointer (some ⟨w.heap.size, 0, none⟩)) := (H.oth 1 (by decide)).trans (by rw [← ha0]; rfl)
        obtain ⟨c0, c1, c2, c3, c4, cf⟩ := five_of ((J.bel.block _ LX.out).trans X1.out)
        exact wpOp_of rfl rfl (opG_val (w' := W) (v := unV V m b u g 1) (by simp only [unV]; unfold modD; go_simp) ⟨b, u, g, H.put OKS (i := 1) (by decide) rfl, J.go (by decide) (fun k => absurd k (by decide)) (fun k => absurd k (by decide)) (fun k => absurd k (by decide))⟩)
      · cases hi
        have t7 := H.e 1 (by decide) (hdep ⟨1, .data⟩ (by simp) rfl) 7 rfl
        simp only [unV] at t7
        refine wpOp_of rfl rfl (opG_call (f := 35) (args := #[modD V m]) (by unfold modD at t7 ⊢; go_simp) ((usedIn_any V m W (HR.out.later (B1.out.trans (J.bel.mono B1.out.size))) HL.out.2.1 HL.out.1 HL.out.2.2.1 HN.out.ok).mono ?_))
        rintro e W' ⟨u2, rfl, hs, hb, hlu⟩
        have J' := J.later hb
        have h3 : D 3 = false := by
          cases h : D 3 with
          | false => rfl
          | true => rw [J.c3 h] at hd; cases hd
        have h4 : D 4 = false := by
          cases h : D 4 with
          | false => rfl
          | true => rw [J.c4 h] at h3; cases h3
        have h5 : D 5 = false := by
          cases h : D 5 with
          | false => rfl
          | true => rw [(J.c5 h).1] at h4; cases h4
        have h7 : D 7 = false := by
          cases h : D 7 with
          | false => rfl
          | true => rw [(J.c7 h).1] at h5; cases h5
        refine ⟨_, rfl, b, u2, g, (H.anew (U := unV V m b u2 g) fun i hi8 hd' => ?_).put OKS (i := 2) (by decide) rfl, ?_⟩
        · obtain rfl | rfl | rfl | rfl | rfl | rfl | rfl | rfl : i = 0 ∨ i = 1 ∨ i = 2 ∨ i = 3 ∨ i = 4 ∨ i = 5 ∨ i = 6 ∨ i = 7 := by omega
          all_goals first | rfl | (rw [hd] at hd'; cases hd') | (rw [h5] at hd'; cases hd') | (rw [h3] at hd'; cases hd') | (rw [h4] at hd'; cases hd')
        · exact ⟨J'.bel, fun k => J'.s0 (by simpa using k), fun _ => ⟨hs, Nat.le_trans J.bel.size hlu⟩, fun k _ => by
              have h2 : D 0 = true := by simpa using k
              have := (J.s0 h2).1.lt
              omega, fun k k' => J'.g6 (by simpa using k) (by simpa using k'), fun k => J'.l6 (by simpa using k), fun k => absurd (show D 7 = true by simpa using k) (by rw [h7]; decide), fun k => by simp, fun k => by simpa using J'.c4 (by simpa using k), fun k => by simpa using J'.c5 (by simpa using k), fun k => by simpa using J'.c7 (by simpa using k)⟩
      · cases hi
        have d2 := hdep ⟨2, .data⟩ (by simp) rfl
        have t8 := H.e 2 (by decide) d2 8 rfl
        simp only [unV] at t8
        have hfd : (Instr.field 64 (.agg #[.map (some u)]) 0).run Try.prog W = .ok (.map (some u)) W := by kernel_rfl
        exact wpOp_of rfl rfl (opG_val (w' := W) (v := unV V m b u g 3) (by simp only [unV]; go_simp) ⟨b, u, g, H.put OKS (i := 3) (by decide) rfl, J.go (by decide) (fun _ => d2) (fun k => absurd k (by decide)) (fun k => absurd k (by decide))⟩)
      · cases hi
        have d3 := hdep ⟨3, .data⟩ (by simp) rfl
        have t9 := H.e 3 (by decide) d3 9 rfl
        simp only [unV] at t9
        exact wpOp_of rfl rfl (opG_val (w' := W) (v := unV V m b u g 4) (by simp only [unV]; go_simp) ⟨b, u, g, H.put OKS (i := 4) (by decide) rfl, J.go (by decide) (fun k => absurd k (by decide)) (fun _ => d3) (fun k => absurd k (by decide))⟩)
      · cases hi
        have d0 := hdep ⟨0, .data⟩ (by simp) rfl
        have d4 := hdep ⟨4, .data⟩ (by simp) rfl
        have t6 := H.e 0 (by decide) d0 6 rfl
        have t10 := H.e 4 (by decide) d4 10 rfl
        simp only [unV] at t6 t10
        exact wpOp_of rfl rfl (opG_val (w' := W) (v := unV V m b u g 5) (by simp only [unV]; go_simp) ⟨b, u, g, H.put OKS (i := 5) (by decide) rfl, J.go (by decide) (fun k => absurd k (by decide)) (fun k => absurd k (by decide)) (fun _ => ⟨d4, d0⟩)⟩)
      · cases hi
        have h7 : D 7 = false := by
          cases h : D 7 with
          | false => rfl
          | true => rw [(J.c7 h).2] at hd; cases hd
        refine wpOp_of rfl rfl (opG_val (w' := W.alloc (.cells #[.map none, .nilFunc] 82)) (v := .pointer (some ⟨W.heap.size, 0, none⟩)) (by go_simp) ?_)
        have hb : Below W.heap.size W (W.alloc (.cells #[.map none, .nilFunc] 82)) := (Below.refl _ _).alloc (Nat.le_refl _) _
        have J' := J.later hb
        refine ⟨b, u, W.heap.size, (H.anew (U := unV V m b u W.heap.size) fun i hi8 hd' => ?_).put OKS (i := 6) (by decide) rfl, ?_⟩
        · obtain rfl | rfl | rfl | rfl | rfl | rfl | rfl | rfl : i = 0 ∨ i = 1 ∨ i = 2 ∨ i = 3 ∨ i = 4 ∨ i = 5 ∨ i = 6 ∨ i = 7 := by omega
          all_goals first | rfl | (rw [hd] at hd'; cases hd')
        · exact ⟨J'.bel, fun k => J'.s0 (by simpa using k), fun k => J'.s2 (by simpa using k), fun k k' => J'.ne (by simpa using k) (by simpa using k'), fun _ _ => heap_alloc_new W _, fun _ => J.bel.size, fun k => absurd (show D 7 = true by simpa using k) (by rw [h7]; decide), fun k => by simpa using J'.c3 (by simpa using k), fun k => by simpa using J'.c4 (by simpa using k), fun k => by simpa using J'.c5 (by simpa using k), fun k => by simpa using (J'.c7 (by simpa using k)).1⟩
      · cases hi
        have d5 := hdep ⟨5, .data⟩ (by simp) rfl
        have d6 := hdep ⟨6, .data⟩ (by simp) rfl
        have t11 := H.e 5 (by decide) d5 11 rfl
        have t3 := H.e 6 (by decide) d6 3 rfl
        simp only [unV] at t11 t3
        have d0 := (J.c5 d5).2
        have d2 := J.c3 (J.c4 (J.c5 d5).1)
        have hg := J.g6 d6 hd
        have hl6 := J.l6 d6
        obtain ⟨p0, p1, pf⟩ := two_cells hg
        have hg2 : (W.setCell ⟨g, 0, none⟩ (.map (some b))).heap[g]? = some (.cells #[.map (some b), .nilFunc] 82) := by
          have e := qcell (i := 0) (u := .map (some b)) hg
          rw [e]
          rfl
        obtain ⟨q0, q1, qf⟩ := two_cells hg2
        have hg3 : ((W.setCell ⟨g, 0, none⟩ (.map (some b))).setCell ⟨g, 1, none⟩ (.func (.func 48) #[.map (some u)] #[])).heap[g]? = some (.cells #[.map (some b), .func (.func 48) #[.map (some u)] #[]] 82) := by
          have e := qcell (i := 1) (u := .func (.func 48) #[.map (some u)] #[]) hg2
          rw [e]
          rfl
        have hoth : ∀ k, k ≠ g → ((W.setCell ⟨g, 0, none⟩ (.map (some b))).setCell ⟨g, 1, none⟩ (.func (.func 48) #[.map (some u)] #[])).heap[k]? = W.heap[k]? := fun k hk => (heap_setCell_other _ ⟨g, 1, none⟩ k _ hk).trans (heap_setCell_other W ⟨g, 0, none⟩ k _ hk)
        have hnb : b ≠ g := fun e => by
          obtain ⟨es, clock, h1, _⟩ := (J.s0 d0).1
          rw [e, hg] at h1
          cases h1
        have hnu : u ≠ g := fun e => by
          obtain ⟨es, clock, h1, _⟩ := (J.s2 d2).1
          rw [e, hg] at h1
          cases h1
        have hst : (store ⟨g, 1, none⟩ (.func (.func 48) #[.map (some u)] #[])).run Try.prog (W.setCell ⟨g, 0, none⟩ (.map (some b))) = .ok () ((W.setCell ⟨g, 0, none⟩ (.map (some b))).setCell ⟨g, 1, none⟩ (.func (.func 48) #[.map (some u)] #[])) := (run_store _ _ _ _ _ rfl).trans (by simp [q1, qf])
        refine wpOp_of rfl rfl (opG_skip (w' := (W.setCell ⟨g, 0, none⟩ (.map (some b))).setCell ⟨g, 1, none⟩ (.func (.func 48) #[.map (some u)] #[])) (by go_simp) ⟨b, u, g, H.skip (i := 7) rfl _, ?_⟩)
        exact ⟨(J.bel.setCell hl6 _).setCell hl6 _, fun _ => ⟨(J.s0 d0).1.kept (hoth b hnb), (J.s0 d0).2⟩, fun _ => ⟨(J.s2 d2).1.kept (hoth u hnu), (J.s2 d2).2⟩, fun _ _ => J.ne d0 d2, fun _ k => by simp at k, fun _ => hl6, fun _ => hg3, fun k => by simpa using J.c3 (by simpa using k), fun k => by simpa using J.c4 (by simpa using k), fun k => by simpa using J.c5 (by simpa using k), fun k => ⟨by simp [d5], by simp [d6]⟩⟩
    · rintro D a' W ⟨b, u, g, H, J⟩ hall
      rw [H.all OKS (fun i hi => hall i hi)]
      have hs0 := J.s0 (hall 0 (by decide))
      have hs2 := J.s2 (hall 2 (by decide))
      have hne := J.ne (hall 0 (by decide)) (hall 2 (by decide))
      have hg7 := J.g7 (hall 7 (by decide))
      have hlg := J.l6 (hall 6 (by decide))
      have hbel := J.bel
      rw [← ha0]
      simp only [List.range, List.range.loop, List.foldl_cons, List.foldl_nil, unV, unS]
      rename_i K hK
      refine hK _ _ ?_
      clear hK H J hall OKS ha0
      simp only [Act.put, List.setIfInBounds_toArray, List.set_cons_succ, List.set_cons_zero]
      have U0 : Hid (UnW m w (boxD V m) b u g (unL m 0) W) := hidI ⟨hs0.1, hs2.1, (hbel.block _ LX.out).trans X1.out, hg7, B1.out.trans (hbel.mono B1.out.size)⟩
      have HD : Hid (w.heap.size + 1 ≤ b ∧ u ≠ b) := hidI ⟨by have := hs0.2; have := LX.out; omega, fun e => hne e.symm⟩
      clear hs0 hs2 hne hg7 hlg hbel X1 B1 LX
      obtain ⟨c0, c1, c2, c3, c4, cf⟩ := five_of U0.out.box
      go_wp2
      go_loopw [15] (fun i wr => ∃ k : Nat, k ≤ m.im.length ∧ i = .int .i64 k ∧ Hid (UnW m w (boxD V m) b u g (unL m k) wr)) (fun i _ => (m.im.length - intOf i).toNat)
      case atStart => exact ⟨0, Nat.zero_le _, rfl, U0⟩
      case round =>
        obtain ⟨k, hk, rfl, HU⟩ := hrel
        clear U0 c0 c1 c2 c3 c4 cf
        by_cases hlt : k < m.im.length
        · obtain ⟨x, hx⟩ : ∃ x, m.im[k]? = some x := ⟨_, List.getElem?_eq_getElem hlt⟩
          have hli : m.im.length ≤ 1048576 := HL.out.2.2.2
          obtain ⟨b1, off, ha, hc⟩ := (HR.out.im.later HU.out.bel).get hx
          rw [ha]
          have d0 := hc 0 _ rfl
          have d1 := hc 1 _ rfl
          have d2 := hc 2 _ rfl
          simp only [Nat.add_zero] at d0
          have MORE := hidI (unL_more m hx)
          have hxs := Nat.le_trans (HN.out.1 x (List.mem_of_getElem? hx)) (show (281474976710656 : Nat) ≤ maxLen by decide)
          have hln : (unL m k).length < maxLen := by
            have h1 := unL_len m k
            have h2 := HL.out.2.2.2
            unfold maxLen
            omega
          obtain ⟨W2, hW2⟩ : ∃ W2, W2 = wr.alloc (.cells #[.string x.spec, .string x.first, .string x.loc] 78) := ⟨_, rfl⟩
          have hb2 : Below wr.heap.size wr W2 := by rw [hW2]; exact (Below.refl _ _).alloc (Nat.le_refl _) _
          have U2 := hidI (HU.out.later hb2)
          have hgl : g < wr.heap.size := (Array.getElem?_eq_some_iff.1 HU.out.own).1
          obtain ⟨p0, p1, pf⟩ := two_cells HU.out.own
          clear hb2 hc hx ha HU
          go_wp2_with fail
          rw [← hW2]
          refine (restPut_any b u _ _ x.loc W2 U2.out.set U2.out.use hxs hln).mono ?_
          rintro e W3 ⟨⟨v, rfl⟩, hs3, hg3⟩
          rw [← MORE.out] at hs3
          have U3 := hidI (U2.out.put hs3 hg3 HD.out.1 HD.out.2)
          clear U2 hs3 hg3 MORE hW2 p0 p1 pf
          go_wp2
          go_roundw
          case rel => exact ⟨k + 1, hlt, by go_num, U3⟩
          case measure => simp [intOf]; omega
        · obtain rfl : k = m.im.length := by omega
          obtain ⟨p0, p1, pf⟩ := two_cells HU.out.own
          have hln := unL_len m m.im.length
          go_wp2_with fail
          refine (told_any b _ _ _ HU.out.set (unused_ris m) (unL_all m) (by have := HL.out; omega) (ris_len (unused_ris m) fun s hs => (unL_all m s).2 hs) fun s hs => ?_).mono ?_
          · obtain ⟨x, hx, rfl⟩ := List.mem_map.1 (List.mem_filter.1 hs).1
            exact HN.out.1 x (List.mem_of_mem_take hx)
          rintro e w2 ⟨a, n, cap, rfl, ho, hb2⟩
          go_wp2
          go_ret
          exact ⟨a, n, cap, rfl, ⟨ho.1, fun h0 => by obtain ⟨g, hg, h2⟩ := ho.2 h0; exact ⟨g, hg, ownS_low h2 HU.out.bel.size⟩⟩, HU.out.bel.trans (hb2.mono HU.out.bel.size)⟩
end Go.Proofs.Ytaakfnclelcopaa
