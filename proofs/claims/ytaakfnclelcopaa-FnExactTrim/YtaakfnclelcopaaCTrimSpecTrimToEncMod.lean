/-
  What spec.Trim answers: the walk.
  Rows of the call's own, of elements of any make: grown, kept, marked. No program is spoken of.
  How texts and the elements of a program lie in their cells. No program is spoken of.
-/
import Derived.Test.YtaakfnclelcopaaCTrimUseLawToSpecUses
import Derived.Test.YtaakfnclelcopaaCTrimSpecCopy
namespace Go.Proofs.Ytaakfnclelcopaa
open Go.RowKit Go.PlainAid Go.Sort

theorem Try.infoImT : (Try.prog.info? 78).map (fun i => (i.zero, i.size, i.bytes)) = some (some (.agg #[.string { data := #[] }, .string { data := #[] }, .string { data := #[] }]), 3, 48) := by kernel_rfl
theorem im_one (x : Im) : ∀ u ∈ imL x, u.oneCell' = true := by simp [Value.oneCell', imL]
theorem ownS_row {w : World} {base g n cap : Nat} {e : TypeId} {xs : List ByteArray} (h : OwnS w base e g n cap xs) : OwnR w base e 1 ⟨some ⟨g, 0, none⟩, cap⟩ n (xs.map .string) := h.1
structure TW (base gy gu nu capu : Nat) (us : List ByteArray) (w0 W : World) (S : Sv) (n : Md) : Prop where
  box : W.heap[gy]? = some (boxD S n)
  own : OwnMd W base S n
  un : OwnS W base 9 gu nu capu us
  bel : Below base w0 W
  at' : base ≤ gy
variable {base gy gu nu capu : Nat} {us : List ByteArray} {w0 W W' : World} {S : Sv} {n : Md}
theorem TW.size (h : TW base gy gu nu capu us w0 W S n) : base ≤ W.heap.size := by
  have := (Array.getElem?_eq_some_iff.1 h.box).1
  have := h.at'
  omega
theorem TW.later (h : TW base gy gu nu capu us w0 W S n) (hb : Below W.heap.size W W') : TW base gy gu nu capu us w0 W' S n := ⟨blk_later h.box hb, h.own.later hb, ownS_later h.un hb, h.bel.trans (hb.mono h.size), h.at'⟩
theorem TW.box_im (h : TW base gy gu nu capu us w0 W S n) (hg : W.grownBy W' S.im.blk) : W'.heap[gy]? = W.heap[gy]? :=
  hg.block gy (Array.getElem?_eq_some_iff.1 h.box).1 fun e => by
    obtain ⟨_, _, cur, hc⟩ := h.own.im.typed e.symm
    rw [h.box] at hc
    exact absurd hc (by simp [boxD])
theorem TW.push_im (h : TW base gy gu nu capu us w0 W S n) (hg : W.grownBy W' S.im.blk) {r : Rw} {y : Im} (hr : OwnR W' base 78 3 r (n.im.length + 1) (n.im.flatMap imL ++ imL y)) :
    TW base gy gu nu capu us w0 (W'.setCell ⟨gy, 1, none⟩ (.slice r.a (n.im.length + 1 : Nat) r.cap)) { S with im := r } { n with im := n.im ++ [y] } := by
  have hk : ∀ j, j < W.heap.size → S.im.blk ≠ some j → W'.heap[j]? = W.heap[j]? := fun j h1 h2 => hg.block j h1 fun e => h2 e.symm
  have hbx : W'.heap[gy]? = _ := (h.box_im hg).trans h.box
  have hrq := h.own.rq.keep fun k e => hk k (h.own.rq.typed e).2.1 (OwnR.ne h.own.rq h.own.im (by decide) e)
  have hep := h.own.ep.keep fun k e => hk k (h.own.ep.typed e).2.1 (OwnR.ne h.own.ep h.own.im (by decide) e)
  have hst := h.own.st.keep fun k e => hk k (h.own.st.typed e).2.1 (OwnR.ne h.own.st h.own.im (by decide) e)
  have hex := h.own.ex.keep fun k e => hk k (h.own.ex.typed e).2.1 (OwnR.ne h.own.ex h.own.im (by decide) e)
  have hun := ownS_keep h.un (hk gu (ownS_blk h.un).2 (OwnR.ne (ownS_row h.un) h.own.im (by decide) rfl))
  have hug : gu ≠ gy := fun e => by
    obtain ⟨_, _, cur, hc⟩ := (ownS_row h.un).typed rfl
    rw [e, h.box] at hc
    exact absurd hc (by simp [boxD])
  refine ⟨?_, ⟨hrq.aside hbx (by decide), ?_, hep.aside hbx (by decide), hst.aside hbx (by decide), hex.aside hbx (by decide)⟩, ownS_keep hun (heap_setCell_other W' ⟨gy, 1, none⟩ gu _ hug), (h.bel.grown hg h.size fun j e => (h.own.im.typed e).1).setCell h.at' _, h.at'⟩
  · have e := qcell (i := 1) (u := .slice r.a (n.im.length + 1 : Nat) r.cap) hbx
    rw [e]
    show _ = some (Obj.cells #[_, .slice r.a (n.im ++ [y]).length r.cap, _, _, _] _ _)
    rw [List.length_append]
    rfl
  · show OwnR _ _ _ _ _ (n.im ++ [y]).length ((n.im ++ [y]).flatMap imL)
    rw [List.length_append, List.flatMap_append, List.flatMap_singleton]
    exact hr.aside hbx (by decide)
theorem TW.none_im {x : Obj} (hx : W.heap[gy]? = some (boxD S n)) (ho : OwnMd W base S n) (hb : Below base w0 W) (ha : base ≤ gy) (hxo : x = .cells #[] 78 (0, 0)) :
    ((W.alloc x).setCell ⟨gy, 1, none⟩ (.slice (some ⟨W.heap.size, 0, none⟩) 0 0)).heap[gy]? = some (boxD { S with im := ⟨some ⟨W.heap.size, 0, none⟩, 0⟩ } { n with im := [] }) ∧ OwnMd ((W.alloc x).setCell ⟨gy, 1, none⟩ (.slice (some ⟨W.heap.size, 0, none⟩) 0 0)) base { S with im := ⟨some ⟨W.heap.size, 0, none⟩, 0⟩ } { n with im := [] } ∧ Below base w0 ((W.alloc x).setCell ⟨gy, 1, none⟩ (.slice (some ⟨W.heap.size, 0, none⟩) 0 0)) := by
  have hs : base ≤ W.heap.size := by
    have := (Array.getElem?_eq_some_iff.1 hx).1
    omega
  have h1 := ho.alloc x
  have hbx : (W.alloc x).heap[gy]? = some (boxD S n) := blk_later hx ((Below.refl _ _).alloc (Nat.le_refl _) _)
  have hn : OwnR (W.alloc x) base 78 3 ⟨some ⟨W.heap.size, 0, none⟩, 0⟩ 0 [] := by
    rw [hxo]
    exact World.ownsRow_lit W #[] 0 hs (by unfold maxLen; omega) rfl
  refine ⟨?_, ⟨h1.rq.aside hbx (by decide), hn.aside hbx (by decide), h1.ep.aside hbx (by decide), h1.st.aside hbx (by decide), h1.ex.aside hbx (by decide)⟩, (hb.alloc hs x).setCell ha _⟩
  have e := qcell (i := 1) (u := .slice (some ⟨W.heap.size, 0, none⟩) 0 0) hbx
  rw [e]
  rfl
set_option maxRecDepth 100000 in
set_option maxHeartbeats 3200000 in
theorem trim_spec (base : Nat) (S : Sv) (m : Md) (w : World) (h : OwnMd w base S m) (hl : m.rq.length ≤ 1048576 ∧ m.im.length ≤ 1048576 ∧ m.ep.length ≤ 1048576 ∧ m.st.length ≤ 1048576 ∧ m.ex.length ≤ 1048576) :
    Calls Try.prog 20 #[modD S m] w fun e w' => ∃ S', e = .returned (modD S' (trimMd m)) ∧ OwnMd w' w.heap.size S' (trimMd m) ∧ Below w.heap.size w w' := by
  obtain ⟨i0, hi, hz0, hz1, hz2⟩ := info_parts Try.infoImT
  have HH := hidI h
  have HL := hidI hl
  clear h hl
  unfold modD
  go_enter Try.func20, Try.ntmps20
  go_upto_region 1 with fail
  have e1 : (w.alloc (boxD S m)).heap.size = w.heap.size + 1 := alloc_size _ _
  have HW : Hid (Below w.heap.size w ((w.alloc (boxD S m)).alloc box0)) := ((Below.refl _ _).alloc (Nat.le_refl _) _).alloc (by rw [e1]; omega) _
  refine world_anyI (R := fun W => W.heap[w.heap.size]? = some (boxD S m) ∧ W.heap[w.heap.size + 1]? = some box0 ∧ OwnMd W base S m ∧ Below w.heap.size w W) ⟨(heap_alloc_old _ _ (by rw [alloc_size]; omega)).trans (heap_alloc_new w _), heap_alloc2_new w _ _, HH.out.later HW.out, HW.out⟩ ?_
  obtain ⟨gx, hgx⟩ : ∃ gx, gx = w.heap.size := ⟨_, rfl⟩
  obtain ⟨gz, hgz⟩ : ∃ gz, gz = w.heap.size + 1 := ⟨_, rfl⟩
  rw [← hgz, ← hgx]
  rintro w1 ⟨hx, hz, ho, hb⟩
  rw [hgx] at hb
  have HXZ : Hid (w.heap.size ≤ gz) := by show _ ≤ _; omega
  clear hgx hgz HW HH e1
  have X1 := hidI hx
  have Z1 := hidI hz
  have O1 := hidI ho
  have B1 := hidI hb
  clear hx hz ho hb
  have LX : Hid (gx < w1.heap.size) := (Array.getElem?_eq_some_iff.1 X1.out).1
  have LZ : Hid (gz < w1.heap.size) := (Array.getElem?_eq_some_iff.1 Z1.out).1
  obtain ⟨c0, c1, c2, c3, c4, cf⟩ := five_of X1.out
  go_wp2_with fail
  refine (copy_spec base S m w1 O1.out HL.out).mono ?_
  rintro e w2 ⟨Sy, rfl, oy, hb⟩
  have B2 := hidI hb
  have OY := hidI oy
  clear hb oy c0 c1 c2 c3 c4 cf
  unfold modD
  go_upto_region 2 with fail
  refine world_anyI (R := fun W => W.heap[w2.heap.size]? = some (boxD Sy m) ∧ OwnMd W w1.heap.size Sy m ∧ Below w1.heap.size w1 W) ⟨heap_alloc_new w2 _, OY.out.later ((Below.refl _ _).alloc (Nat.le_refl _) _), B2.out.alloc B2.out.size _⟩ ?_
  have HG : Hid (w1.heap.size ≤ w2.heap.size) := B2.out.size
  obtain ⟨gy, hgy⟩ : ∃ gy, gy = w2.heap.size := ⟨_, rfl⟩
  rw [← hgy] at HG ⊢
  rintro w3 ⟨hy, ho, hb⟩
  have Y3 := hidI hy
  have O3 := hidI ho
  have B3 := hidI hb
  clear hgy B2 OY hy ho hb
  obtain ⟨c0, c1, c2, c3, c4, cf⟩ := five_of (blk_later Y3.out ((Below.refl w3.heap.size w3).alloc (Nat.le_refl _) (.cells #[] 78)))
  go_upto_region 3 with fail
  refine world_anyI (R := fun W => ∃ S4, W.heap[gy]? = some (boxD S4 { m with im := [] }) ∧ OwnMd W w1.heap.size S4 { m with im := [] } ∧ Below w1.heap.size w1 W) ⟨_, TW.none_im Y3.out O3.out B3.out HG.out rfl⟩ ?_
  rintro w4 ⟨S4, hy, ho, hb⟩
  have Y4 := hidI hy
  have O4 := hidI ho
  have B4 := hidI hb
  clear hy ho hb Y3 O3 B3 c0 c1 c2 c3 c4 cf
  obtain ⟨c0, c1, c2, c3, c4, cf⟩ := five_of ((B4.out.block gx LX.out).trans X1.out)
  go_wp2_with fail
  refine (unused_spec S m w4 (MdR.of (O1.out.later B4.out)) ⟨HL.out.2.2.2.2, HL.out.2.2.2.1, HL.out.2.2.1, HL.out.2.1⟩).mono ?_
  rintro e w5 ⟨gu, nu, capu, rfl, hou, hb⟩
  have hnu : nu ≤ 1048576 := by rw [hou.2]; exact Nat.le_trans (unused_len m) HL.out.2.1
  have M5 : Hid (TW w1.heap.size gy gu nu capu (unusedL m) w1 w5 S4 { m with im := [] }) := ⟨blk_later Y4.out hb, O4.out.later hb, ownS_low hou B4.out.size, B4.out.trans (hb.mono B4.out.size), HG.out⟩
  clear hou hb Y4 O4 B4 c0 c1 c2 c3 c4 cf
  go_wp2
  go_loopw [5] (fun i wr => ∃ (k : Nat) (Sk : Sv), k ≤ m.im.length ∧ i = .int .i64 k ∧ Hid (TW w1.heap.size gy gu nu capu (unusedL m) w1 wr Sk { m with im := (m.im.take k).filter fun x => !inT (unusedL m) x.loc })) (fun i _ => (m.im.length - intOf i).toNat)
  case atStart => exact ⟨0, S4, Nat.zero_le _, rfl, M5⟩
  case round =>
    obtain ⟨k, Sk, hk, rfl, HM⟩ := hrel
    clear M5
    have hli : m.im.length ≤ 1048576 := HL.out.2.1
    obtain ⟨c0, c1, c2, c3, c4, cf⟩ := five_of ((HM.out.bel.block gx LX.out).trans X1.out)
    by_cases hlt : k < m.im.length
    · obtain ⟨l, hL⟩ : ∃ l, l = (m.im.take k).filter fun x => !inT (unusedL m) x.loc := ⟨_, rfl⟩
      have hll : l.length ≤ k := by rw [hL]; exact Nat.le_trans (List.length_filter_le _ _) (by rw [List.length_take]; omega)
      rw [← hL] at HM
      obtain ⟨x, hx⟩ : ∃ x, m.im[k]? = some x := ⟨_, List.getElem?_eq_getElem hlt⟩
      have HX := hidI (fil_next (fun x : Im => !inT (unusedL m) x.loc) hx)
      rw [← hL] at HX
      obtain ⟨b, off, ha, hc⟩ := (MdR.of (O1.out.later HM.out.bel)).im.get hx
      have HB : Hid (b < wr.heap.size) := by
        obtain ⟨gi, hgi, _⟩ := OwnR.elem (f := imL) (m := 3) (fun _ => rfl) (O1.out.later HM.out.bel).im hx
        rw [hgi] at ha
        cases ha
        exact hidI ((O1.out.later HM.out.bel).im.typed (by rw [Rw.blk, hgi]; rfl)).2.1
      rw [ha] at c1
      have d0 := hc 0 _ rfl
      have d1 := hc 1 _ rfl
      have d2 := hc 2 _ rfl
      simp only [Nat.add_zero] at d0
      clear hL ha hx
      go_wp2_with fail
      refine (l6In_own gu nu capu w1.heap.size (unusedL m) x.loc _ HM.out.un (by omega)).mono ?_
      rintro e w6 ⟨rfl, hw⟩
      rw [hw]
      clear hw w6
      cases hin : inT (unusedL m) x.loc with
      | true =>
        go_wp2
        go_roundw
        case rel => exact ⟨k + 1, Sk, by omega, by go_num, by show TW _ _ _ _ _ _ _ _ _ _; rw [HX.out, if_neg (by rw [hin]; decide)]; exact HM.out⟩
        case measure => simp [intOf]; omega
      | false =>
        have HY : Hid ((m.im.take (k + 1)).filter (fun x => !inT (unusedL m) x.loc) = l ++ [x]) := by
          have := HX.out
          rw [if_pos (by rw [hin]; rfl)] at this
          exact this
        obtain ⟨nl, hnl⟩ : ∃ nl, nl = l.length := ⟨_, rfl⟩
        have HNL := hidI hnl
        have HD := hidI (HM.out.later (Below.refl wr.heap.size wr).drew)
        have hown := fun o1 => HD.out.own.im.alloc (o := o1)
        have hsz : ∀ o1, w1.heap.size ≤ (wr.drew.alloc o1).heap.size := fun o1 => by rw [alloc_size]; have := HD.out.size; omega
        have HM7 := fun o1 => hidI (HD.out.later ((Below.refl wr.drew.heap.size wr.drew).alloc (Nat.le_refl _) o1))
        obtain ⟨q0, q1, q2, q3, q4, qf⟩ := five_of HM.out.box
        have hlb := (HM.out.bel.size)
        clear HX hnl
        have hly := (Array.getElem?_eq_some_iff.1 HM.out.box).1
        have hlx : gx < wr.heap.size := Nat.lt_of_lt_of_le LX.out hlb
        have hlr : b < wr.heap.size := HB.out
        go_wp2_with fail
        go_region_law (first | (refine step_row rfl (.tmp 29) (.tmp 35) 31 rfl w1.heap.size 78 i0 _ 3 48 Try.underlying31 hi hz0 hz1 hz2 rfl (by decide) (by decide) Sk.im l.length (l.flatMap imL) (by rfl) (by exact hown _) _ (imL x) (by rfl) (by exact heap_alloc_new _ _) rfl (im_one x) (by omega) (by exact hsz _) ?_; intro r' wz hr hgr _; have HR := hidI hr; have HGR := hidI hgr; clear hr hgr; have g2 := ((HM7 _).out.box_im HGR.out).trans (HM7 _).out.box; obtain ⟨p0, p1, p2, p3, p4, pf⟩ := five_of g2; have hlz := (Array.getElem?_eq_some_iff.1 g2).1; clear g2))
        all_goals
          go_wp2
          go_roundw
          case rel =>
            refine ⟨k + 1, { Sk with im := r' }, by omega, by go_num, ?_⟩
            show TW _ _ _ _ _ _ _ _ _ _
            rw [HY.out]
            exact (HM7 _).out.push_im HGR.out HR.out
          case measure => simp [intOf]; omega
    · obtain rfl : k = m.im.length := by omega
      rw [List.take_length] at HM
      have HT : Hid (TW w1.heap.size gy gu nu capu (unusedL m) w1 wr Sk (trimMd m)) := HM
      clear HM
      obtain ⟨q0, q1, q2, q3, q4, qf⟩ := five_of HT.out.box
      have Z9 := hidI ((HT.out.bel.block gz LZ.out).trans Z1.out)
      obtain ⟨k0, k1, k2, k3, k4, kf⟩ := five_of Z9.out
      go_wp2
      refine bodyPost_ret (results_cell_row rfl _ _ gz 36 _ (0, 0) _ rfl (put5 Z9.out) Try.underlying36 rfl (by kernel_rfl)) rfl ?_
      exact ⟨Sk, rfl, (five_aside (o := 0) HT.out.own ⟨_, Z9.out⟩).low B1.out.size, below5 (B1.out.trans (HT.out.bel.mono B1.out.size)) HXZ.out _ _ _ _ _⟩
end Go.Proofs.Ytaakfnclelcopaa
namespace Go.Proofs.Ytaakfnclelcopaa
open Go.RowKit Go.PlainAid

structure Enc (α : Type) where
  f : α → List Value
  m : Nat
  len : ∀ x, (f x).length = m
  pos : 0 < m
  one : ∀ x, ∀ v ∈ f x, v.oneCell' = true
def OwnE {α : Type} (E : Enc α) (w : World) (base : Nat) (e : TypeId) (g n cap : Nat) (l : List α) : Prop := w.ownsRow base e E.m (.slice (some ⟨g, 0, none⟩) n cap) n (l.flatMap E.f) ∧ n = l.length
theorem flatE_len {α : Type} (E : Enc α) (l : List α) : (l.flatMap E.f).length = l.length * E.m := by
  induction l with
  | nil => simp
  | cons x l ih => rw [List.flatMap_cons, List.length_append, ih, E.len, List.length_cons, Nat.succ_mul]; omega
theorem flatE_at {α : Type} (E : Enc α) (l : List α) {j i : Nat} {x : α} {v : Value} (h : l[j]? = some x) (hv : (E.f x)[i]? = some v) : (l.flatMap E.f)[j * E.m + i]? = some v := flat_at E.len l j x i v h hv
theorem OwnE.blk {α : Type} {E : Enc α} {w : World} {base g n cap : Nat} {e : TypeId} {l : List α} (h : OwnE E w base e g n cap l) : base ≤ g ∧ g < w.heap.size := by
  rcases h.1.2 with ⟨h', _⟩ | ⟨g', cap', cur, h', hb, hg, _⟩
  · simp at h'
  · simp only [Value.slice.injEq, Option.some.injEq, Addr.mk.injEq, and_true, true_and] at h'
    obtain ⟨rfl, rfl⟩ := h'
    exact ⟨hb, (Array.getElem?_eq_some_iff.1 hg).1⟩
theorem OwnE.cap {α : Type} {E : Enc α} {w : World} {base g n cap : Nat} {e : TypeId} {l : List α} (h : OwnE E w base e g n cap l) : n ≤ cap := by
  rcases h.1.2 with ⟨h', _⟩ | ⟨g', cap', cur, h', _, _, hc, _⟩
  · simp at h'
  · simp only [Value.slice.injEq, Option.some.injEq, Addr.mk.injEq, and_true, true_and] at h'
    obtain ⟨_, rfl⟩ := h'
    exact hc
theorem OwnE.keep {α : Type} {E : Enc α} {w W : World} {base g n cap : Nat} {e : TypeId} {l : List α} (h : OwnE E w base e g n cap l) (hk : W.heap[g]? = w.heap[g]?) : OwnE E W base e g n cap l := by
  refine ⟨⟨h.1.1, ?_⟩, h.2⟩
  rcases h.1.2 with ⟨h', _⟩ | ⟨g', cap', cur, h', hbs, hg, hr⟩
  · simp at h'
  · simp only [Value.slice.injEq, Option.some.injEq, Addr.mk.injEq, and_true, true_and] at h'
    obtain ⟨rfl, rfl⟩ := h'
    exact .inr ⟨g, cap, cur, rfl, hbs, hk.trans hg, hr⟩
theorem OwnE.later {α : Type} {E : Enc α} {w W : World} {base g n cap : Nat} {e : TypeId} {l : List α} (h : OwnE E w base e g n cap l) (hb : Below w.heap.size w W) : OwnE E W base e g n cap l := h.keep (hb.block g h.blk.2)
theorem OwnE.low {α : Type} {E : Enc α} {w : World} {base b g n cap : Nat} {e : TypeId} {l : List α} (h : OwnE E w base e g n cap l) (hb : b ≤ base) : OwnE E w b e g n cap l := by
  refine ⟨⟨h.1.1, ?_⟩, h.2⟩
  rcases h.1.2 with ⟨h', _⟩ | ⟨g', cap', cur, h', hbs, hg, hr⟩
  · simp at h'
  · exact .inr ⟨g', cap', cur, h', Nat.le_trans hb hbs, hg, hr⟩
theorem OwnE.aside {α : Type} {E : Enc α} {w W : World} {base g n cap : Nat} {e : TypeId} {l : List α} {x : Option Nat} (h : OwnE E w base e g n cap l) (hg : w.grownBy W x) (hx : some g ≠ x) : OwnE E W base e g n cap l := h.keep (hg.block g h.blk.2 hx)
theorem OwnE.nil {α : Type} (E : Enc α) (w : World) (e : TypeId) : OwnE E (w.alloc (.cells #[] e)) w.heap.size e w.heap.size 0 0 [] := ⟨World.ownsRow_lit w #[] 0 (Nat.le_refl _) (by unfold maxLen; omega) (by simp), rfl⟩
theorem OwnE.row {α : Type} {E : Enc α} {w : World} {base g n cap : Nat} {e : TypeId} {l : List α} (h : OwnE E w base e g n cap l) : RowAt w (some ⟨g, 0, none⟩) E.f E.m l := by
  refine .inr ⟨g, 0, rfl, h.blk.2, fun j x hj i v hv => ?_⟩
  have hlj : j < l.length := (List.getElem?_eq_some_iff.1 hj).1
  have hi : i < E.m := by have := (List.getElem?_eq_some_iff.1 hv).1; rw [E.len] at this; exact this
  have hlt : j * E.m + i < n * E.m := by
    rw [h.2]
    have h1 : (j + 1) * E.m ≤ l.length * E.m := Nat.mul_le_mul_right _ hlj
    rw [Nat.succ_mul] at h1
    omega
  rw [Nat.zero_add, h.1.cellAt _ hlt]
  exact flatE_at E l hj hv
theorem addG_at (b o j : Nat) : (⟨b, o, none⟩ : Addr).add j = ⟨b, o + j, none⟩ := by simp [Addr.add]
theorem app_G {P : Program} {α : Type} (E : Enc α) (W : World) {ops : Array Oper} {rest : List Oper} {o : Oper} {a : Act} {Q : Exit → Act → World → Prop} (hgd : o.guard = none) (s x : Operand) (t : TypeId)
    (ho : o.op = .call { callee := .builtin .append, args := #[s, x], argTypes := #[t, t] })
    (base : Nat) (e : TypeId) (i : TypeInfo) (z : Value) (by' : Nat) (ht : P.underlying t = some (.slice e)) (hi : P.info? e = some i) (hz : i.zero = some z) (hsize : i.size = E.m) (hby : i.bytes = by') (hzs : z.cells.size = E.m) (hbb : by' ≤ 1024)
    (g n cap : Nat) (l : List α) (hs : a.eval s = .slice (some ⟨g, 0, none⟩) n cap) (hown : OwnE E W base e g n cap l)
    (gx : Nat) (b : α) (hx : a.eval x = .slice (some ⟨gx, 0, none⟩) 1 1) (hg : W.heap[gx]? = some (.cells (E.f b).toArray e (0, 0))) (hn : n + 1 ≤ 100000000)
    (h : ∀ g' cap' w', OwnE E w' base e g' (n + 1) cap' (l ++ [b]) → W.grownBy w' (some g) → (g' = g ∨ g' = W.heap.size) → wpList P ops Q rest (a.put o.dst (.slice (some ⟨g', 0, none⟩) (n + 1) cap')) w') :
    wpList P ops Q (o :: rest) a W := by
  have hbase : base ≤ W.heap.size := Nat.le_trans hown.blk.1 (Nat.le_of_lt hown.blk.2)
  refine wpList_append_own_at _ hgd s x t ho base e i z E.m by' ht hi hz hsize hby hzs E.pos _ n _ hs hown.1 ⟨gx, 0, none⟩ 1 1 (E.f b) hx (by rw [E.len, Nat.one_mul]) ?_ (E.one b) ?_ ?_ hbase ?_
  · intro j u hj
    rw [addG_at, Nat.zero_add]
    simp [World.cell?, hg, hj]
  · unfold maxLen; omega
  · exact Nat.le_trans (Nat.mul_le_mul hn hbb) (by decide)
  · intro v' w' k1 k2 k3 k4
    rcases k1.2 with ⟨hv, hn0⟩ | ⟨g', cap', cur, rfl, hrest⟩
    · omega
    · refine h g' cap' w' ⟨by rw [List.flatMap_append]; simpa using k1, by rw [List.length_append, ← hown.2]; rfl⟩ k2 ?_
      have k4' : some g' = some g ∨ some g' = some W.heap.size := k4
      rcases k4' with k | k
      · exact .inl (Option.some.inj k)
      · exact .inr (Option.some.inj k)
def OutE {α : Type} (E : Enc α) (e : TypeId) (w : World) (base : Nat) (a : Option Addr) (n cap : Nat) (l : List α) : Prop := n = l.length ∧ (0 < n → ∃ g, a = some ⟨g, 0, none⟩ ∧ OwnE E w base e g n cap l)
theorem OutE.own {α : Type} {E : Enc α} {e : TypeId} {w : World} {base g n cap : Nat} {l : List α} (h : OwnE E w base e g n cap l) : OutE E e w base (some ⟨g, 0, none⟩) n cap l := ⟨h.2, fun _ => ⟨g, rfl, h⟩⟩
theorem OutE.nil {α : Type} (E : Enc α) (e : TypeId) (w : World) (base : Nat) (a : Option Addr) (cap : Nat) : OutE E e w base a 0 cap [] := ⟨rfl, fun h => absurd h (Nat.lt_irrefl _)⟩
theorem OutE.later {α : Type} {E : Enc α} {e : TypeId} {w W : World} {base n cap : Nat} {a : Option Addr} {l : List α} (h : OutE E e w base a n cap l) (hb : Below w.heap.size w W) : OutE E e W base a n cap l :=
  ⟨h.1, fun k => by obtain ⟨g, e', h1⟩ := h.2 k; exact ⟨g, e', h1.later hb⟩⟩
theorem OutE.aside {α : Type} {E : Enc α} {e : TypeId} {w W : World} {base n cap x : Nat} {a : Option Addr} {l : List α} (h : OutE E e w base a n cap l) (hg : w.grownBy W (some x)) (hx : x < base) : OutE E e W base a n cap l :=
  ⟨h.1, fun k => by
    obtain ⟨g, e', h1⟩ := h.2 k
    exact ⟨g, e', h1.aside hg (fun e => by have := Option.some.inj e; have := h1.blk.1; omega)⟩⟩
theorem OutE.row {α : Type} {E : Enc α} {e : TypeId} {w : World} {base n cap : Nat} {a : Option Addr} {l : List α} (h : OutE E e w base a n cap l) : RowAt w a E.f E.m l := by
  rcases Nat.eq_zero_or_pos n with h0 | h0
  · exact .inl (List.length_eq_zero_iff.1 (by rw [← h.1]; exact h0))
  · obtain ⟨g, rfl, h1⟩ := h.2 h0
    exact h1.row
def OwnX (w : World) (base : Nat) (e : TypeId) (size g n cap : Nat) (mk : Nat → Value) (c : Nat) : Prop := ∃ xs, w.ownsRow base e size (.slice (some ⟨g, 0, none⟩) n cap) n xs ∧ ∀ i, i < c → xs[i]? = some (mk i)
theorem OwnX.start {w : World} {base size g n cap : Nat} {e : TypeId} {xs : List Value} (h : w.ownsRow base e size (.slice (some ⟨g, 0, none⟩) n cap) n xs) (mk : Nat → Value) : OwnX w base e size g n cap mk 0 := ⟨xs, h, fun i hi => absurd hi (Nat.not_lt_zero i)⟩
theorem OwnX.blk {w : World} {base size g n cap c : Nat} {mk : Nat → Value} {e : TypeId} (h : OwnX w base e size g n cap mk c) : base ≤ g ∧ g < w.heap.size := by
  obtain ⟨xs, h1, _⟩ := h
  rcases h1.2 with ⟨h', _⟩ | ⟨g', cap', cur, h', hb, hg, _⟩
  · simp at h'
  · simp only [Value.slice.injEq, Option.some.injEq, Addr.mk.injEq, and_true, true_and] at h'
    obtain ⟨rfl, rfl⟩ := h'
    exact ⟨hb, (Array.getElem?_eq_some_iff.1 hg).1⟩
theorem OwnX.keep {w W : World} {base size g n cap c : Nat} {mk : Nat → Value} {e : TypeId} (h : OwnX w base e size g n cap mk c) (hk : W.heap[g]? = w.heap[g]?) : OwnX W base e size g n cap mk c := by
  obtain ⟨xs, h1, h2⟩ := h
  refine ⟨xs, ⟨h1.1, ?_⟩, h2⟩
  rcases h1.2 with ⟨h', _⟩ | ⟨g', cap', cur, h', hbs, hg, hr⟩
  · simp at h'
  · simp only [Value.slice.injEq, Option.some.injEq, Addr.mk.injEq, and_true, true_and] at h'
    obtain ⟨rfl, rfl⟩ := h'
    exact .inr ⟨g, cap, cur, rfl, hbs, hk.trans hg, hr⟩
theorem OwnX.later {w W : World} {base size g n cap c : Nat} {mk : Nat → Value} {e : TypeId} (h : OwnX w base e size g n cap mk c) (hb : Below w.heap.size w W) : OwnX W base e size g n cap mk c := h.keep (hb.block g h.blk.2)
theorem OwnX.has {w : World} {base size g n cap c : Nat} {mk : Nat → Value} {e : TypeId} (h : OwnX w base e size g n cap mk c) (i : Nat) (hi : i < n * size) : ∃ v, w.cell? ⟨g, i, none⟩ = some v := by
  obtain ⟨xs, h1, _⟩ := h
  rw [h1.cellAt i hi]
  exact ⟨_, List.getElem?_eq_getElem (by rw [h1.1]; exact hi)⟩
theorem OwnX.cell {w : World} {base size g n cap c : Nat} {mk : Nat → Value} {e : TypeId} (h : OwnX w base e size g n cap mk c) (i : Nat) (hi : i < n * size) (hc : i < c) : w.cell? ⟨g, i, none⟩ = some (mk i) := by
  obtain ⟨xs, h1, h2⟩ := h
  rw [h1.cellAt i hi]
  exact h2 i hc
theorem OwnX.free {w : World} {base size g n cap c : Nat} {mk : Nat → Value} {e : TypeId} (h : OwnX w base e size g n cap mk c) (i : Nat) : w.frozen? ⟨g, i, none⟩ = false := by
  obtain ⟨xs, h1, _⟩ := h
  exact h1.frozenAt i
theorem OwnX.put {w : World} {base size g n cap c : Nat} {mk : Nat → Value} {e : TypeId} (h : OwnX w base e size g n cap mk c) (hc : c < n * size) : OwnX (w.setCell ⟨g, c, none⟩ (mk c)) base e size g n cap mk (c + 1) := by
  obtain ⟨xs, h1, h2⟩ := h
  have hl := h1.1
  refine ⟨xs.set c (mk c), (h1.stored c _).1, fun i hi => ?_⟩
  by_cases e : i = c
  · subst e
    exact List.getElem?_set_self (by omega)
  · rw [List.getElem?_set_ne (by omega)]
    exact h2 i (by omega)
theorem OwnX.full {α : Type} {E : Enc α} {w : World} {base g n : Nat} {e : TypeId} {l : List α} (h : OwnX w base e E.m g n n (fun i => (l.flatMap E.f).getD i undef) (n * E.m)) (hn : n = l.length) : OwnE E w base e g n n l := by
  obtain ⟨xs, h1, h2⟩ := h
  have hx : xs = l.flatMap E.f := by
    apply List.ext_getElem?
    intro i
    have hl := flatE_len E l
    rcases Nat.lt_or_ge i (n * E.m) with hi | hi
    · have hi2 : i < (l.flatMap E.f).length := by rw [hl, ← hn]; exact hi
      rw [h2 i hi]
      simp [List.getD, List.getElem?_eq_getElem hi2]
    · rw [List.getElem?_eq_none (by rw [h1.1]; exact hi), List.getElem?_eq_none (by rw [hl, ← hn]; exact hi)]
  rw [hx] at h1
  exact ⟨h1, hn⟩
theorem gx_refl (w : World) (b : Option Nat) : w.grownBy w b := ⟨rfl, rfl, rfl, Nat.le_refl _, fun _ _ _ => rfl⟩
theorem gx_trans {w w1 w2 : World} {b : Option Nat} (h : w.grownBy w1 b) (k : w1.grownBy w2 b) : w.grownBy w2 b :=
  ⟨k.os.trans h.os, k.tape.trans h.tape, k.output.trans h.output, Nat.le_trans h.size k.size, fun i hi hn => (k.block i (Nat.lt_of_lt_of_le hi h.size) hn).trans (h.block i hi hn)⟩
theorem gx_set {w w1 : World} {g i : Nat} {u : Value} (h : w.grownBy w1 (some g)) : w.grownBy (w1.setCell ⟨g, i, none⟩ u) (some g) :=
  gx_trans h ⟨rfl, rfl, rfl, by show _ ≤ (w1.heap.modify _ _).size; simp, fun k _ hn => Below.heap_setCell w1 ⟨g, i, none⟩ u k (fun e => hn (by rw [e]))⟩
end Go.Proofs.Ytaakfnclelcopaa
namespace Go.Proofs.Ytaakfnclelcopaa
open Go.RowKit

def stE : Enc ByteArray := ⟨fun s => [.string s], 1, fun _ => rfl, by decide, by simp [Value.oneCell']⟩
def imE : Enc Im := ⟨imL, 3, fun _ => rfl, by decide, by simp [Value.oneCell', imL]⟩
def epE : Enc Ep := ⟨epL, 4, fun _ => rfl, by decide, by simp [Value.oneCell', epL]⟩
def smE : Enc Sm := ⟨smL, 3, fun _ => rfl, by decide, by simp [Value.oneCell', smL]⟩
def exE : Enc Ex := ⟨exL, 6, fun _ => rfl, by decide, by simp [Value.oneCell', exL]⟩
theorem st_flat (l : List ByteArray) : l.flatMap stE.f = l.map Value.string := by
  induction l with
  | nil => rfl
  | cons x l ih => rw [List.flatMap_cons, ih]; rfl
end Go.Proofs.Ytaakfnclelcopaa
