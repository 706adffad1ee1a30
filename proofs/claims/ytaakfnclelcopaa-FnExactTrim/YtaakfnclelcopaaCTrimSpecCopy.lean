/-
  What spec.l14Copy answers: the walk.
-/
import Derived.Test.YtaakfnclelcopaaCTrimSpecCopyI
import Derived.Deep.Cut
namespace Go.Proofs.Ytaakfnclelcopaa
open Go.RowKit Go.PlainAid Go.Sort

theorem rows_sm (l : List Sm) : ∀ u ∈ l.flatMap smL, u.oneCell' = true := by
  intro u hu
  obtain ⟨x, _, hx⟩ := List.mem_flatMap.1 hu
  simp [smL] at hx
  rcases hx with rfl | rfl | rfl <;> rfl
theorem rows_ex (l : List Ex) : ∀ u ∈ l.flatMap exL, u.oneCell' = true := by
  intro u hu
  obtain ⟨x, _, hx⟩ := List.mem_flatMap.1 hu
  simp [exL] at hx
  rcases hx with rfl | rfl | rfl | rfl | rfl | rfl <;> rfl
theorem rows_im (l : List Im) : ∀ u ∈ l.flatMap imL, u.oneCell' = true := by
  intro u hu
  obtain ⟨x, _, hx⟩ := List.mem_flatMap.1 hu
  simp [imL] at hx
  rcases hx with rfl | rfl | rfl <;> rfl
theorem rows_rq (l : List ByteArray) : ∀ u ∈ l.map Value.string, u.oneCell' = true := by
  intro u hu
  obtain ⟨x, _, rfl⟩ := List.mem_map.1 hu
  rfl
theorem step_copy {P : Program} {o : Oper} {a : Act} {W : World} {K : Act → World → Prop} {Q : Exit → Act → World → Prop} (hgd : o.guard = none) (s x : Operand) (t : TypeId)
    (ho : o.op = .call { callee := .builtin .append, args := #[s, x], argTypes := #[t, t] })
    (B : Nat) (e : TypeId) (size bytes : Nat) (ht : P.underlying t = some (.slice e)) (hinf : (P.info? e).map (fun i => (i.zero.map fun z => z.cells.size, i.size, i.bytes)) = some (some size, size, bytes)) (hsz : 0 < size) (h100 : bytes ≤ 100)
    (g : Nat) (hs : a.eval s = .slice (some ⟨g, 0, none⟩) 0 0) (hown : OwnR W B e size ⟨some ⟨g, 0, none⟩, 0⟩ 0 [])
    (r : Rw) (n b2 : Nat) (xs : List Value) (hx : a.eval x = .slice r.a n r.cap) (hg : OwnR W b2 e size r n xs) (h1 : ∀ u ∈ xs, u.oneCell' = true) (hn : n ≤ 1048576) (hB : B ≤ W.heap.size)
    (h : ∀ r' w', OwnR w' B e size r' n xs → W.grownBy w' (some g) → K (a.put o.dst (.slice r'.a n r'.cap)) w') : o.wp P a W K Q := by
  have hw : Region.wanted o (yielded #[] a.tmps) = true := by simp [Region.wanted, hgd]
  cases hi : P.info? e with
  | none => rw [hi] at hinf; cases hinf
  | some i =>
    rw [hi] at hinf
    simp only [Option.map_some, Option.some.injEq, Prod.mk.injEq] at hinf
    obtain ⟨hz, h2, h3⟩ := hinf
    cases hz0 : i.zero with
    | none => rw [hz0] at hz; cases hz
    | some z =>
      rw [hz0] at hz
      simp only [Option.map_some, Option.some.injEq] at hz
      rcases hg.nil_or with ⟨ha, hc, rfl⟩ | ⟨gx, ha⟩
      · have hxs : xs = [] := List.eq_nil_of_length_eq_zero (by rw [hg.1, Nat.zero_mul])
        rw [ha, hc] at hx
        have := step_nil (ops := #[]) (K := K) (Q := Q) (E := True) hgd s x t ho e i ht hi B size 0 ⟨some ⟨g, 0, none⟩, 0⟩ [] hs hown hx (h ⟨some ⟨g, 0, none⟩, 0⟩ W (by rw [hxs]; exact hown) ⟨rfl, rfl, rfl, Nat.le_refl _, fun _ _ _ => rfl⟩)
        rw [if_pos hw] at this
        exact this
      · rw [ha] at hx
        have hg' : OwnR W b2 e size ⟨some ⟨gx, 0, none⟩, r.cap⟩ n xs := by
          obtain ⟨ra, rc⟩ := r
          simp only at ha
          subst ha
          exact hg
        have := step_rows (ops := #[]) (K := K) (Q := Q) (E := True) hgd s x t ho B e i z size bytes ht hi hz0 h2 h3 hz hsz h100 ⟨some ⟨g, 0, none⟩, 0⟩ 0 [] hs hown gx n r.cap b2 xs hx hg' h1 (by omega) hB (fun r' w' k1 k2 _ => by
          rw [Nat.zero_add] at k1
          rw [Nat.zero_add]
          exact h r' w' k1 k2)
        rw [if_pos hw] at this
        exact this
theorem ev_of {a : Act} {k : Nat} {v : Value} (h : a.tmps[k]? = some v) : a.eval (.tmp k) = v := by
  show a.tmps.getD k undef = v
  rw [Array.getD_eq_getD_getElem?, h]
  rfl
set_option maxRecDepth 100000 in
set_option maxHeartbeats 3200000 in
theorem copy_spec (base : Nat) (S : Sv) (m : Md) (w : World) (h : OwnMd w base S m) (hl : m.rq.length ≤ 1048576 ∧ m.im.length ≤ 1048576 ∧ m.ep.length ≤ 1048576 ∧ m.st.length ≤ 1048576 ∧ m.ex.length ≤ 1048576) :
    Calls Try.prog 55 #[modD S m] w fun e w' => ∃ S', e = .returned (modD S' m) ∧ OwnMd w' w.heap.size S' m ∧ Below w.heap.size w w' := by
  have HH := hidI h
  have HL := hidI hl
  clear h hl
  unfold modD
  go_enter Try.func55, Try.ntmps55
  go_upto_region 1 with fail
  have e1 : (w.alloc (.cells #[.slice S.rq.a m.rq.length S.rq.cap, .slice S.im.a m.im.length S.im.cap, .slice S.ep.a m.ep.length S.ep.cap, .slice S.st.a m.st.length S.st.cap, .slice S.ex.a m.ex.length S.ex.cap] 36)).heap.size = w.heap.size + 1 := alloc_size _ _
  have HW : Hid (Below w.heap.size w ((w.alloc (.cells #[.slice S.rq.a m.rq.length S.rq.cap, .slice S.im.a m.im.length S.im.cap, .slice S.ep.a m.ep.length S.ep.cap, .slice S.st.a m.st.length S.st.cap, .slice S.ex.a m.ex.length S.ex.cap] 36)).alloc (.cells #[.slice none 0 0, .slice none 0 0, .slice none 0 0, .slice none 0 0, .slice none 0 0] 36))) := ((Below.refl _ _).alloc (Nat.le_refl _) _).alloc (by rw [e1]; omega) _
  refine world_anyI (R := fun W => W.heap[w.heap.size]? = some (.cells #[.slice S.rq.a m.rq.length S.rq.cap, .slice S.im.a m.im.length S.im.cap, .slice S.ep.a m.ep.length S.ep.cap, .slice S.st.a m.st.length S.st.cap, .slice S.ex.a m.ex.length S.ex.cap] 36 (0, 0)) ∧ W.heap[w.heap.size + 1]? = some (.cells #[.slice none 0 0, .slice none 0 0, .slice none 0 0, .slice none 0 0, .slice none 0 0] 36 (0, 0)) ∧ OwnMd W base S m ∧ Below w.heap.size w W) ⟨(heap_alloc_old _ _ (by rw [e1]; omega)).trans (heap_alloc_new w _), heap_alloc2_new w _ _, HH.out.later HW.out, HW.out⟩ ?_
  obtain ⟨gx, hgx⟩ : ∃ gx, gx = w.heap.size := ⟨_, rfl⟩
  obtain ⟨gz, hgz⟩ : ∃ gz, gz = w.heap.size + 1 := ⟨_, rfl⟩
  rw [← hgz, ← hgx]
  rintro w1 ⟨hx, hz, ho, hb⟩
  rw [hgx] at hb
  have HXZ : Hid (w.heap.size ≤ gz) := by show _ ≤ _; omega
  clear hgx hgz HW HH e1
  have X1 := hidI hx
  have Z1 := hidI hz
  have O1 := hidI ho
  have HB1 := hidI hb
  clear hx hz ho hb
  have LX : gx < w1.heap.size := (Array.getElem?_eq_some_iff.1 X1.out).1
  have LZ : gz < w1.heap.size := (Array.getElem?_eq_some_iff.1 Z1.out).1
  have no : ∀ {p : Prop}, (false = true) → p := fun k => by cases k
  refine wp_region_inv (by kernel_rfl) (CpI w1 gx gz S m []) (sort_of (by kernel_rfl)) ⟨rfl, rfl, rfl, rfl, fun _ => (Below.refl _ _).drew, fun _ => ⟨fun k => no k, fun k => no k, fun k => no k, fun k => no k, fun k => no k, fun k => no k⟩, fun _ => ⟨fun k => no k, fun k => no k, fun k => no k, fun k => no k, fun k => no k, fun k => no k⟩, fun _ => ⟨fun k => no k, fun k => no k, fun k => no k, fun k => no k, fun k => no k, fun k => no k⟩, fun _ => ⟨fun k => no k, fun k => no k, fun k => no k, fun k => no k, fun k => no k, fun k => no k⟩, fun _ => ⟨fun k => no k, fun k => no k, fun k => no k, fun k => no k, fun k => no k, fun k => no k⟩, fun k => no k, fun k => no k, fun k => no k, fun k => no k⟩ ?_ ?_
  · intro D a w2 i o H hi hd hdep
    have hlt : i < 22 := (Array.getElem?_eq_some_iff.1 hi).1
    obtain rfl | rfl | rfl | rfl | rfl | rfl | rfl | rfl | rfl | rfl | rfl | rfl | rfl | rfl | rfl | rfl | rfl | rfl | rfl | rfl | rfl | rfl : i = 0 ∨ i = 1 ∨ i = 2 ∨ i = 3 ∨ i = 4 ∨ i = 5 ∨ i = 6 ∨ i = 7 ∨ i = 8 ∨ i = 9 ∨ i = 10 ∨ i = 11 ∨ i = 12 ∨ i = 13 ∨ i = 14 ∨ i = 15 ∨ i = 16 ∨ i = 17 ∨ i = 18 ∨ i = 19 ∨ i = 20 ∨ i = 21 := by omega
    · cases hi
      exact wpOp_of rfl rfl (op_val (w' := w2.alloc (.cells #[] 9)) (v := .slice (some ⟨w2.heap.size, 0, none⟩) 0 0) (by go_simp) (H.s0 hd))
    · cases hi
      have t1 := H.t1
      exact wpOp_of rfl rfl (op_val (w' := w2) (v := .pointer (some ⟨gx, 0, none⟩)) (by go_simp) (H.s1 hd))
    · cases hi
      have hp := hdep ⟨1, .data⟩ (by simp) rfl
      have hn := H.no21 (by decide) hd
      have t1 : a.tmps[4]? = _ := (H.c0 hn).b1 hp
      obtain ⟨c0, c1, c2, c3, c4, cf⟩ := five_of (((H.nb hn).block gx LX).trans X1.out)
      exact wpOp_of rfl rfl (op_val (w' := w2) (v := .slice S.rq.a m.rq.length S.rq.cap) (by go_simp) (H.s2 hd hp))
    · cases hi
      have hp0 := hdep ⟨0, .data⟩ (by simp) rfl
      have hp2 := hdep ⟨2, .data⟩ (by simp) rfl
      have hn := H.no21 (by decide) hd
      have hB := H.nb hn
      obtain ⟨g, h1, h2⟩ := (H.c0 hn).b0 hp0 hd
      have h3 := (H.c0 hn).b2 hp2
      exact wpOp_of rfl rfl (step_copy rfl (.tmp 3) (.tmp 5) 22 rfl w1.heap.size 9 1 16 Try.underlying22 copyInfo0 (by decide) (by decide) g (ev_of h1) h2 S.rq m.rq.length base _ (ev_of h3) ((O1.out.later hB).rq) (rows_rq _) (by have := HL.out; omega) hB.size (fun r' w' k1 k2 => H.s3 hd hp0 hp2 h2 k1 k2))
    · cases hi
      exact wpOp_of rfl rfl (op_val (w' := w2.alloc (.cells #[] 78)) (v := .slice (some ⟨w2.heap.size, 0, none⟩) 0 0) (by go_simp) (H.s4 hd))
    · cases hi
      have t1 := H.t1
      exact wpOp_of rfl rfl (op_val (w' := w2) (v := .pointer (some ⟨gx, 1, none⟩)) (by go_simp) (H.s5 hd))
    · cases hi
      have hp := hdep ⟨5, .data⟩ (by simp) rfl
      have hn := H.no21 (by decide) hd
      have t1 : a.tmps[8]? = _ := (H.c1 hn).b1 hp
      obtain ⟨c0, c1, c2, c3, c4, cf⟩ := five_of (((H.nb hn).block gx LX).trans X1.out)
      exact wpOp_of rfl rfl (op_val (w' := w2) (v := .slice S.im.a m.im.length S.im.cap) (by go_simp) (H.s6 hd hp))
    · cases hi
      have hp0 := hdep ⟨4, .data⟩ (by simp) rfl
      have hp2 := hdep ⟨6, .data⟩ (by simp) rfl
      have hn := H.no21 (by decide) hd
      have hB := H.nb hn
      obtain ⟨g, h1, h2⟩ := (H.c1 hn).b0 hp0 hd
      have h3 := (H.c1 hn).b2 hp2
      exact wpOp_of rfl rfl (step_copy rfl (.tmp 7) (.tmp 9) 31 rfl w1.heap.size 78 3 48 Try.underlying31 copyInfo1 (by decide) (by decide) g (ev_of h1) h2 S.im m.im.length base _ (ev_of h3) ((O1.out.later hB).im) (rows_im _) (by have := HL.out; omega) hB.size (fun r' w' k1 k2 => H.s7 hd hp0 hp2 h2 k1 k2))
    · cases hi
      exact wpOp_of rfl rfl (op_val (w' := w2.alloc (.cells #[] 55)) (v := .slice (some ⟨w2.heap.size, 0, none⟩) 0 0) (by go_simp) (H.s8 hd))
    · cases hi
      have t1 := H.t1
      exact wpOp_of rfl rfl (op_val (w' := w2) (v := .pointer (some ⟨gx, 2, none⟩)) (by go_simp) (H.s9 hd))
    · cases hi
      have hp := hdep ⟨9, .data⟩ (by simp) rfl
      have hn := H.no21 (by decide) hd
      have t1 : a.tmps[12]? = _ := (H.c2 hn).b1 hp
      obtain ⟨c0, c1, c2, c3, c4, cf⟩ := five_of (((H.nb hn).block gx LX).trans X1.out)
      exact wpOp_of rfl rfl (op_val (w' := w2) (v := .slice S.ep.a m.ep.length S.ep.cap) (by go_simp) (H.s10 hd hp))
    · cases hi
      have hp0 := hdep ⟨8, .data⟩ (by simp) rfl
      have hp2 := hdep ⟨10, .data⟩ (by simp) rfl
      have hn := H.no21 (by decide) hd
      have hB := H.nb hn
      obtain ⟨g, h1, h2⟩ := (H.c2 hn).b0 hp0 hd
      have h3 := (H.c2 hn).b2 hp2
      exact wpOp_of rfl rfl (step_copy rfl (.tmp 11) (.tmp 13) 32 rfl w1.heap.size 55 4 56 Try.underlying32 copyInfo2 (by decide) (by decide) g (ev_of h1) h2 S.ep m.ep.length base _ (ev_of h3) ((O1.out.later hB).ep) (eps_one _) (by have := HL.out; omega) hB.size (fun r' w' k1 k2 => H.s11 hd hp0 hp2 h2 k1 k2))
    · cases hi
      exact wpOp_of rfl rfl (op_val (w' := w2.alloc (.cells #[] 53)) (v := .slice (some ⟨w2.heap.size, 0, none⟩) 0 0) (by go_simp) (H.s12 hd))
    · cases hi
      have t1 := H.t1
      exact wpOp_of rfl rfl (op_val (w' := w2) (v := .pointer (some ⟨gx, 3, none⟩)) (by go_simp) (H.s13 hd))
    · cases hi
      have hp := hdep ⟨13, .data⟩ (by simp) rfl
      have hn := H.no21 (by decide) hd
      have t1 : a.tmps[16]? = _ := (H.c3 hn).b1 hp
      obtain ⟨c0, c1, c2, c3, c4, cf⟩ := five_of (((H.nb hn).block gx LX).trans X1.out)
      exact wpOp_of rfl rfl (op_val (w' := w2) (v := .slice S.st.a m.st.length S.st.cap) (by go_simp) (H.s14 hd hp))
    · cases hi
      have hp0 := hdep ⟨12, .data⟩ (by simp) rfl
      have hp2 := hdep ⟨14, .data⟩ (by simp) rfl
      have hn := H.no21 (by decide) hd
      have hB := H.nb hn
      obtain ⟨g, h1, h2⟩ := (H.c3 hn).b0 hp0 hd
      have h3 := (H.c3 hn).b2 hp2
      exact wpOp_of rfl rfl (step_copy rfl (.tmp 15) (.tmp 17) 33 rfl w1.heap.size 53 3 32 Try.underlying33 copyInfo3 (by decide) (by decide) g (ev_of h1) h2 S.st m.st.length base _ (ev_of h3) ((O1.out.later hB).st) (rows_sm _) (by have := HL.out; omega) hB.size (fun r' w' k1 k2 => H.s15 hd hp0 hp2 h2 k1 k2))
    · cases hi
      exact wpOp_of rfl rfl (op_val (w' := w2.alloc (.cells #[] 50)) (v := .slice (some ⟨w2.heap.size, 0, none⟩) 0 0) (by go_simp) (H.s16 hd))
    · cases hi
      have t1 := H.t1
      exact wpOp_of rfl rfl (op_val (w' := w2) (v := .pointer (some ⟨gx, 4, none⟩)) (by go_simp) (H.s17 hd))
    · cases hi
      have hp := hdep ⟨17, .data⟩ (by simp) rfl
      have hn := H.no21 (by decide) hd
      have t1 : a.tmps[20]? = _ := (H.c4 hn).b1 hp
      obtain ⟨c0, c1, c2, c3, c4, cf⟩ := five_of (((H.nb hn).block gx LX).trans X1.out)
      exact wpOp_of rfl rfl (op_val (w' := w2) (v := .slice S.ex.a m.ex.length S.ex.cap) (by go_simp) (H.s18 hd hp))
    · cases hi
      have hp0 := hdep ⟨16, .data⟩ (by simp) rfl
      have hp2 := hdep ⟨18, .data⟩ (by simp) rfl
      have hn := H.no21 (by decide) hd
      have hB := H.nb hn
      obtain ⟨g, h1, h2⟩ := (H.c4 hn).b0 hp0 hd
      have h3 := (H.c4 hn).b2 hp2
      exact wpOp_of rfl rfl (step_copy rfl (.tmp 19) (.tmp 21) 34 rfl w1.heap.size 50 6 64 Try.underlying34 copyInfo4 (by decide) (by decide) g (ev_of h1) h2 S.ex m.ex.length base _ (ev_of h3) ((O1.out.later hB).ex) (rows_ex _) (by have := HL.out; omega) hB.size (fun r' w' k1 k2 => H.s19 hd hp0 hp2 h2 k1 k2))
    · cases hi
      have p0 := hdep ⟨3, .data⟩ (by simp) rfl
      have p1 := hdep ⟨7, .data⟩ (by simp) rfl
      have p2 := hdep ⟨11, .data⟩ (by simp) rfl
      have p3 := hdep ⟨15, .data⟩ (by simp) rfl
      have p4 := hdep ⟨19, .data⟩ (by simp) rfl
      have hn : D 21 = false := by
        cases h2 : D 21 with
        | false => rfl
        | true => exact absurd (H.lt21 h2) (by rw [hd]; decide)
      obtain ⟨r0, t0, o0⟩ := (H.c0 hn).b3 p0
      obtain ⟨r1, t1, o1⟩ := (H.c1 hn).b3 p1
      obtain ⟨r2, t2, o2⟩ := (H.c2 hn).b3 p2
      obtain ⟨r3, t3, o3⟩ := (H.c3 hn).b3 p3
      obtain ⟨r4, t4, o4⟩ := (H.c4 hn).b3 p4
      have u0 : a.tmps[6]? = _ := t0
      have u1 : a.tmps[10]? = _ := t1
      have u2 : a.tmps[14]? = _ := t2
      have u3 : a.tmps[18]? = _ := t3
      have u4 : a.tmps[22]? = _ := t4
      clear t0 t1 t2 t3 t4
      exact wpOp_of rfl rfl (op_val (w' := w2) (v := modD ⟨r0, r1, r2, r3, r4, R0⟩ m) (by unfold modD; go_simp) (H.s20 hd p0 p1 p2 p3 p4 (S' := ⟨r0, r1, r2, r3, r4, R0⟩) ⟨o0, o1, o2, o3, o4⟩))
    · cases hi
      have p := hdep ⟨20, .data⟩ (by simp) rfl
      obtain ⟨S', h1, h2⟩ := H.b20 p hd
      have h3 := H.t2
      unfold modD at h1
      have hB := H.nb hd
      obtain ⟨c0, c1, c2, c3, c4, cf⟩ := five_of ((hB.block gz LZ).trans Z1.out)
      refine wpOp_of rfl rfl ?_
      have hs := H.s21 p h2 hB
      go_simp
  · intro D a w2 H hall
    obtain ⟨S', w3, rfl, ho, hb⟩ := H.fin (hall 21 (by decide))
    rename_i Q' K hK
    refine hK _ _ (wp_ret ?_)
    have hz := (hb.block gz LZ).trans Z1.out
    show bodyPost Try.prog Try.f55 _ .ret _ _
    refine bodyPost_ret (results_cell_row rfl _ _ gz 36 _ (0, 0) _ (ev_of H.t2) (put5 hz) Try.underlying36 rfl (by kernel_rfl)) H.df ?_
    exact ⟨S', rfl, (five_aside (o := 0) ho ⟨_, hz⟩).low HB1.out.size, below5 (HB1.out.trans (hb.mono HB1.out.size)) HXZ.out _ _ _ _ _⟩
end Go.Proofs.Ytaakfnclelcopaa
