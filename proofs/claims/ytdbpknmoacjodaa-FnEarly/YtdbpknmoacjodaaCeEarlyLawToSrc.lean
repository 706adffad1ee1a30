/-
  What laws.FnEarly answers of a code that is not too long: the walk.
  What is known of a []byte that came in. No program is spoken of.
-/
import Derived.Test.YtdbpknmoacjodaaCeSpecEarlyBToSpecEarlyC
import Derived.Test.YtdbpknmoacjodaaCeModOkSpecToBig
namespace Go.Proofs.Ytdbpknmoacjodaa
open Go.RowKit Go.PlainAid Go.Sort

theorem PrOf.alone {T t1 t2 : ByteArray} {m : Md} (h1 : PrOf T m t1) (h2 : PrOf T m t2) : t1 = t2 := by
  rcases h1 with ⟨a, rfl⟩ | ⟨a, rfl⟩ <;> rcases h2 with ⟨b, rfl⟩ | ⟨b, rfl⟩
  · rfl
  · exact absurd a b
  · exact absurd b a
  · rfl
def Rows4 (w : World) (V : Sv) (m : Md) : Prop := RowAt w V.im.a imL 3 m.im ∧ RowAt w V.ep.a epL 4 m.ep ∧ RowAt w V.st.a smL 3 m.st ∧ RowAt w V.ex.a exL 6 m.ex
theorem OwnMd.rows {w : World} {base : Nat} {V : Sv} {m : Md} (h : OwnMd w base V m) : Rows4 w V m :=
  ⟨RowAt.of (f := imL) (m := 3) (fun _ => rfl) h.im, RowAt.of (f := epL) (m := 4) (fun _ => rfl) h.ep, RowAt.of (f := smL) (m := 3) (fun _ => rfl) h.st, RowAt.of (f := exL) (m := 6) (fun _ => rfl) h.ex⟩
theorem Drawn.names {m : Md} (h : Drawn 1 m) : NameOk m := by
  have k : (20000 : Nat) ≤ maxLen := by unfold maxLen; omega
  exact ⟨fun x hx => Nat.le_trans (h.im.2 x hx).2.2 k, fun x hx => Nat.le_trans (h.st.2 x hx) k, fun x hx => ⟨Nat.le_trans (h.ep.2 x hx).1 k, Nat.le_trans (h.ep.2 x hx).2.1 k⟩, fun x hx => Nat.le_trans (h.ex.2 x hx).1 k⟩
theorem drawn_impl {m : Md} (h : Drawn 1 m) (V : Sv) (scr : Bool) (w : World) (hr : Rows4 w V m) :
    Calls Try.prog 40 #[modD V m, .bool scr] w fun e w' => e = .returned (.int .i64 (earlyS m)) ∧ Below w.heap.size w w' :=
  early_impl V m scr w hr.1 hr.2.1 hr.2.2.1 hr.2.2.2 (by have := h.im.1; omega) (by have := h.ep.1; omega) (by have := h.st.1; omega) (by have := h.ex.1; omega) h.names h.fair
theorem drawn_spec {m : Md} (h : Drawn 1 m) (V : Sv) (scr : Bool) (w : World) (hr : Rows4 w V m) :
    Calls Try.prog 41 #[modD V m, .bool scr] w fun e w' => e = .returned (.int .i64 (earlyS m)) ∧ Below w.heap.size w w' :=
  early_spec V m scr w hr.1 hr.2.1 hr.2.2.1 hr.2.2.2 (by have := h.im.1; omega) (by have := h.ep.1; omega) (by have := h.st.1; omega) (by have := h.ex.1; omega)
theorem ep_apart {m : Md} (h : earlyS m = 0) {i j : Nat} {x y : Ep} (hj : j < i) (hx : m.ep[i]? = some x) (hy : m.ep[j]? = some y) (kx : (x.kind == 3) = false) (ky : (y.kind == 3) = false) : (x.name.toList == y.name.toList) = false := by
  cases he : (x.name.toList == y.name.toList) with
  | false => rfl
  | true =>
    have e := (toList_eq_iff _ _).1 he
    have h2 : twB (epN m.ep) = true := by
      rw [twB_iff]
      refine ⟨x.name, ?_⟩
      have e1 : epN m.ep = epN (m.ep.take i) ++ epN (m.ep.drop i) := by rw [epN, epN, epN, ← List.map_append, ← List.filter_append, List.take_append_drop]
      rw [e1, cntB_append]
      have h1 : 0 < cntB (epN (m.ep.take i)) x.name := cntB_pos.2 (List.mem_map.2 ⟨y, List.mem_filter.2 ⟨List.mem_of_getElem? (i := j) (by rw [List.getElem?_take, if_pos hj]; exact hy), by rw [ky]; rfl⟩, e.symm⟩)
      have h3 : 0 < cntB (epN (m.ep.drop i)) x.name := cntB_pos.2 (List.mem_map.2 ⟨x, List.mem_filter.2 ⟨List.mem_of_getElem? (i := 0) (by rw [List.getElem?_drop]; exact hx), by rw [kx]; rfl⟩, rfl⟩)
      omega
    rw [earlyS, h2] at h
    split at h
    · cases h
    · rw [if_pos rfl] at h
      cases h
set_option maxRecDepth 100000 in
set_option maxHeartbeats 12800000 in
theorem fnEarly_any (S : Src) (hS : S.ok) (w : World) (hc : CodeW S w) (hl : S.lim ≤ w.heap.size) (hlen : S.len ≤ 1048576) :
    Calls Try.prog 8 #[.slice S.a S.len S.cap] w fun e w' => e = .returned (.bool true) ∧ Below w.heap.size w w' := by
  have hbig : decide ((1048576 : Int) < S.len) = false := by simp; omega
  have HC := hidI hc
  clear hc
  go_enter Try.func8, Try.ntmps8
  go_wp2_with fail
  refine (big_any _ _ _ _ (by omega)).mono ?_
  rintro e w' ⟨rfl, hw⟩
  rw [hw, hbig]
  clear hw
  go_wp2_with fail
  refine (drawEarly_some S hS w HC.out hl hlen).mono ?_
  rintro e w1 ⟨V, m, scr, rfl, ho, hd, hb⟩
  have O1 := hidI ho
  have DR := hidI hd
  have B1 := hidI hb
  clear ho hd hb HC hbig
  have SM := hidI DR.out.small
  have TS : Hid (Tree m → (textS m).size ≤ 4294967296) := fun t => (DR.out.text t).1
  unfold modD
  go_upto_region 4 with fail
  have HW : Hid (Below w1.heap.size w1 (w1.alloc (.cells #[.slice V.rq.a m.rq.length V.rq.cap, .slice V.im.a m.im.length V.im.cap, .slice V.ep.a m.ep.length V.ep.cap, .slice V.st.a m.st.length V.st.cap, .slice V.ex.a m.ex.length V.ex.cap] 37))) := (Below.refl _ _).alloc (Nat.le_refl _) _
  refine world_anyI (R := fun W => W.heap[w1.heap.size]? = some (.cells #[.slice V.rq.a m.rq.length V.rq.cap, .slice V.im.a m.im.length V.im.cap, .slice V.ep.a m.ep.length V.ep.cap, .slice V.st.a m.st.length V.st.cap, .slice V.ex.a m.ex.length V.ex.cap] 37 (0, 0)) ∧ OwnMd W w.heap.size V m ∧ Below w.heap.size w W) ⟨heap_alloc_new w1 _, O1.out.later HW.out, B1.out.trans (HW.out.mono B1.out.size)⟩ ?_
  obtain ⟨gx, hgx⟩ : ∃ gx, gx = w1.heap.size := ⟨_, rfl⟩
  rw [← hgx]
  rintro w2 ⟨hx, ho, hb⟩
  clear hgx HW O1 B1
  have X2 := hidI hx
  have O2 := hidI ho
  have B2 := hidI hb
  clear hx ho hb
  obtain ⟨c0, c1, c2, c3, c4, cf⟩ := five_of X2.out
  go_wp2_with fail
  refine (drawn_impl DR.out V scr w2 O2.out.rows).mono ?_
  rintro e w3 ⟨rfl, hb⟩
  have X3 := hidI ((hb.block _ (Array.getElem?_eq_some_iff.1 X2.out).1).trans X2.out)
  have O3 := hidI (O2.out.later hb)
  have B3 := hidI (B2.out.trans (hb.mono B2.out.size))
  clear hb c0 c1 c2 c3 c4 cf X2 O2 B2
  obtain ⟨c0, c1, c2, c3, c4, cf⟩ := five_of X3.out
  go_wp2_with fail
  refine (drawn_spec DR.out V scr w3 O3.out.rows).mono ?_
  rintro e w4 ⟨rfl, hb⟩
  have X4 := hidI ((hb.block _ (Array.getElem?_eq_some_iff.1 X3.out).1).trans X3.out)
  have O4 := hidI (O3.out.later hb)
  have B4 := hidI (B3.out.trans (hb.mono B3.out.size))
  clear hb c0 c1 c2 c3 c4 cf X3 O3 B3
  obtain ⟨c0, c1, c2, c3, c4, cf⟩ := five_of X4.out
  obtain ⟨k, hk⟩ : ∃ k, earlyS m = k := ⟨_, rfl⟩
  have HK := hidI hk
  rw [hk]
  clear hk
  have hkk : (k == k) = true := by simp
  go_wp2_with fail
  refine (print_spec w.heap.size V m scr w4 O4.out SM.out (fun t => Nat.le_trans (TS.out t) (by omega))).mono ?_
  rintro e w5 ⟨hpo, hb⟩
  obtain ⟨t, hpr, rfl⟩ := hpo.form
  have PR := hidI hpr
  have hts : t.size ≤ 4294967296 := PR.out.size TS.out
  have X5 := hidI ((hb.block _ (Array.getElem?_eq_some_iff.1 X4.out).1).trans X4.out)
  have O5 := hidI (O4.out.later hb)
  have B5 := hidI (B4.out.trans (hb.mono B4.out.size))
  clear hb hpo hpr c0 c1 c2 c3 c4 cf X4 O4 B4
  go_wp2_with fail
  refine (parse_spec t scr w5 hts).mono ?_
  rintro e w6 ⟨hpo, hb⟩
  have X6 := hidI ((hb.block _ (Array.getElem?_eq_some_iff.1 X5.out).1).trans X5.out)
  have O6 := hidI (O5.out.later hb)
  have B6 := hidI (B5.out.trans (hb.mono B5.out.size))
  clear hb
  rcases hpo.md with ⟨q, S3, n, hy, hn, rfl, hown, hfew⟩ | ⟨p, hy, rfl⟩
  case' inl =>
    have O8 := hidI hown
    have HY := hidI hy
    have HN := hidI hn
    clear hpo hy hn hown hfew
    unfold modD
    go_upto_region 8 with fail
    have HW : Hid (Below w6.heap.size w6 (w6.alloc (.cells #[.slice S3.rq.a n.rq.length S3.rq.cap, .slice S3.im.a n.im.length S3.im.cap, .slice S3.ep.a n.ep.length S3.ep.cap, .slice S3.st.a n.st.length S3.st.cap, .slice S3.ex.a n.ex.length S3.ex.cap] 37))) := (Below.refl _ _).alloc (Nat.le_refl _) _
    refine world_anyI (R := fun W => W.heap[gx]? = some (.cells #[.slice V.rq.a m.rq.length V.rq.cap, .slice V.im.a m.im.length V.im.cap, .slice V.ep.a m.ep.length V.ep.cap, .slice V.st.a m.st.length V.st.cap, .slice V.ex.a m.ex.length V.ex.cap] 37 (0, 0)) ∧ W.heap[w6.heap.size]? = some (.cells #[.slice S3.rq.a n.rq.length S3.rq.cap, .slice S3.im.a n.im.length S3.im.cap, .slice S3.ep.a n.ep.length S3.ep.cap, .slice S3.st.a n.st.length S3.st.cap, .slice S3.ex.a n.ex.length S3.ex.cap] 37 (0, 0)) ∧ OwnMd W w.heap.size V m ∧ OwnMd W w5.heap.size S3 n ∧ Below w.heap.size w W) ⟨(HW.out.block _ (Array.getElem?_eq_some_iff.1 X6.out).1).trans X6.out, heap_alloc_new w6 _, O6.out.later HW.out, O8.out.later HW.out, B6.out.trans (HW.out.mono B6.out.size)⟩ ?_
    obtain ⟨gy, hgy⟩ : ∃ gy, gy = w6.heap.size := ⟨_, rfl⟩
    rw [← hgy]
    rintro w7 ⟨hx7, hy7, ho7, hn7, hb7⟩
    have X7 := hidI hx7
    have Y7 := hidI hy7
    have O7 := hidI ho7
    have N7 := hidI hn7
    have B7 := hidI hb7
    clear hgy HW X6 O6 B6 O8 hx7 hy7 ho7 hn7 hb7 X5 O5 B5
    obtain ⟨c0, c1, c2, c3, c4, cf⟩ := five_of X7.out
    go_wp2_with fail
    refine (modOk_spec w.heap.size V m scr w7 O7.out SM.out TS.out).mono ?_
    rintro e w8 ⟨⟨t2, p2, r, rfl, i2⟩, hb⟩
    obtain rfl : t = t2 := PR.out.alone p2
    have X8 := hidI ((hb.block _ (Array.getElem?_eq_some_iff.1 X7.out).1).trans X7.out)
    have Y8 := hidI ((hb.block _ (Array.getElem?_eq_some_iff.1 Y7.out).1).trans Y7.out)
    have O8 := hidI (O7.out.later hb)
    have N8 := hidI (N7.out.later hb)
    have B8 := hidI (B7.out.trans (hb.mono B7.out.size))
    have I2 := hidI i2
    clear hb p2 i2 c0 c1 c2 c3 c4 cf X7 Y7 O7 N7 B7
    cases r
    case' false =>
      go_upto_region 10 with fail
      have XZ := hidI X8.out
      have OZ := hidI O8.out
      have BZ := hidI B8.out
      clear X8 Y8 O8 N8 B8 I2 HY HN
      obtain ⟨Wz, hWz⟩ : ∃ W, W = w8 := ⟨_, rfl⟩
      rw [← hWz] at XZ OZ BZ ⊢
      clear hWz
    case' true =>
      obtain rfl : m = n := ((ok_iff HY.out HN.out).1 (I2.out.1 rfl)).symm
      obtain ⟨d0, d1, d2, d3, d4, df⟩ := five_of Y8.out
      go_upto_region 10 with (first | (go_at_call 40; refine (drawn_impl DR.out S3 scr w8 N8.out.rows).mono ?_; rintro e w9 ⟨rfl, hb9⟩; rw [HK.out]; have B9 := hidI hb9; clear hb9))
      have XZ := hidI ((B9.out.block _ (Array.getElem?_eq_some_iff.1 X8.out).1).trans X8.out)
      have OZ := hidI (O8.out.later B9.out)
      have BZ := hidI (B8.out.trans (B9.out.mono B8.out.size))
      clear X8 Y8 O8 N8 B8 I2 HY HN B9 d0 d1 d2 d3 d4 df
      obtain ⟨Wz, hWz⟩ : ∃ W, W = w9 := ⟨_, rfl⟩
      rw [← hWz] at XZ OZ BZ ⊢
      clear hWz
  case' inr =>
    have HY := hidI hy
    clear hpo hy
    go_upto_region 8 with fail
    have HW : Hid (Below w6.heap.size w6 (w6.alloc (.cells #[.slice none 0 0, .slice none 0 0, .slice none 0 0, .slice none 0 0, .slice none 0 0] 37))) := (Below.refl _ _).alloc (Nat.le_refl _) _
    refine world_anyI (R := fun W => W.heap[gx]? = some (.cells #[.slice V.rq.a m.rq.length V.rq.cap, .slice V.im.a m.im.length V.im.cap, .slice V.ep.a m.ep.length V.ep.cap, .slice V.st.a m.st.length V.st.cap, .slice V.ex.a m.ex.length V.ex.cap] 37 (0, 0)) ∧ OwnMd W w.heap.size V m ∧ Below w.heap.size w W) ⟨(HW.out.block _ (Array.getElem?_eq_some_iff.1 X6.out).1).trans X6.out, O6.out.later HW.out, B6.out.trans (HW.out.mono B6.out.size)⟩ ?_
    rintro w7 ⟨hx7, ho7, hb7⟩
    have X7 := hidI hx7
    have O7 := hidI ho7
    have B7 := hidI hb7
    clear HW X6 O6 B6 hx7 ho7 hb7 X5 O5 B5
    obtain ⟨c0, c1, c2, c3, c4, cf⟩ := five_of X7.out
    go_wp2_with fail
    refine (modOk_spec w.heap.size V m scr w7 O7.out SM.out TS.out).mono ?_
    rintro e w8 ⟨⟨t2, p2, r, rfl, i2⟩, hb⟩
    obtain rfl : t = t2 := PR.out.alone p2
    obtain rfl : r = false := by
      cases r with
      | false => rfl
      | true => exact absurd (i2.1 rfl) (ok_bad HY.out)
    have XZ := hidI ((hb.block _ (Array.getElem?_eq_some_iff.1 X7.out).1).trans X7.out)
    have OZ := hidI (O7.out.later hb)
    have BZ := hidI (B7.out.trans (hb.mono B7.out.size))
    clear hb p2 i2 c0 c1 c2 c3 c4 cf X7 O7 B7 HY
    go_upto_region 10 with fail
    obtain ⟨Wz, hWz⟩ : ∃ W, W = w8 := ⟨_, rfl⟩
    rw [← hWz] at XZ OZ BZ ⊢
    clear hWz
  all_goals
    obtain ⟨c0, c1, c2, c3, c4, cf⟩ := five_of XZ.out
    go_wp2
    go_loopg [8] m.ep.length (fun kk i wr => ∃ j : Nat, i = .int .i64 j ∧ j + kk = m.ep.length ∧ Below Wz.heap.size Wz wr)
    case atStart => exact ⟨0, rfl, by omega, Below.refl _ _⟩
    case round =>
      clear c0 c1 c2 c3 c4 cf
      obtain ⟨i, rfl, hi, hbe⟩ := hrel
      have HBE := hidI hbe
      have XI := hidI ((hbe.block _ (Array.getElem?_eq_some_iff.1 XZ.out).1).trans XZ.out)
      clear hbe
      obtain ⟨c0, c1, c2, c3, c4, cf⟩ := five_of XI.out
      have BF := hidI (BZ.out.trans (HBE.out.mono BZ.out.size))
      have hep : m.ep.length ≤ 10000 := by have := DR.out.ep.1; omega
      by_cases hlt : i < m.ep.length
      · have hlti : (i : Int) < (m.ep.length : Int) := by omega
        cases hk0 : (k == 0) with
        | false =>
          go_wp2
          go_ret
          exact ⟨rfl, BF.out⟩
        | true =>
          have HK0 : Hid (earlyS m = 0) := by show _ = _; rw [HK.out]; exact eq_of_beq hk0
          obtain ⟨x, hx⟩ : ∃ x, m.ep[i]? = some x := ⟨_, List.getElem?_eq_getElem hlt⟩
          have HX := hidI hx
          clear hx
          obtain ⟨i1, hi1⟩ : ∃ i1, i1 = i + 1 := ⟨_, rfl⟩
          have ei : (i : Int) + 1 = (i1 : Int) := by omega
          have HI1 := hidI hi1
          clear hi1
          go_wp2
          go_loopg [9] i (fun kk jj wr2 => ∃ j : Nat, jj = .int .i64 j ∧ j + kk = i ∧ Below Wz.heap.size Wz wr2)
          case atStart => exact ⟨0, rfl, by omega, HBE.out⟩
          case round =>
            clear c0 c1 c2 c3 c4 cf
            obtain ⟨j, rfl, hj, hbe2⟩ := hrel
            have HB2 := hidI hbe2
            have X2 := hidI ((hbe2.block _ (Array.getElem?_eq_some_iff.1 XZ.out).1).trans XZ.out)
            have RW := hidI (OZ.out.rows.2.1.later hbe2)
            clear hbe2
            obtain ⟨c0, c1, c2, c3, c4, cf⟩ := five_of X2.out
            by_cases hlj : j < i
            · have hlji : (j : Int) < (i : Int) := by omega
              have hjl : (j : Int) < (m.ep.length : Int) := by omega
              obtain ⟨y, hy⟩ : ∃ y, m.ep[j]? = some y := ⟨_, List.getElem?_eq_getElem (by omega)⟩
              obtain ⟨b, off, ha, hc⟩ := RW.out.get HX.out
              obtain ⟨b', off', ha', hc'⟩ := RW.out.get hy
              rw [ha] at ha'
              cases ha'
              have HY := hidI hy
              have d0 := hc 0 _ rfl
              have d1 := hc 1 _ rfl
              have e0 := hc' 0 _ rfl
              have e1 := hc' 1 _ rfl
              simp only [Nat.add_zero] at d0 e0
              rw [ha] at c2
              have C2 := hidI c2
              have D0 := hidI d0
              have D1 := hidI d1
              have E0 := hidI e0
              have E1 := hidI e1
              clear hc hc' hy ha
              obtain ⟨j1, hj1⟩ : ∃ j1, j1 = j + 1 := ⟨_, rfl⟩
              have ej : (j : Int) + 1 = (j1 : Int) := by omega
              have HJ1 := hidI hj1
              clear hj1
              cases kx : (x.kind == 3) with
              | true =>
                have n1 : (x.kind != 3) = false := by show (!(x.kind == 3)) = _; rw [kx]; rfl
                have n2 : (!(x.kind == 3)) = false := by rw [kx]; rfl
                have n4 : decide (x.kind = 3) = true := by rw [← kx]; exact decide_eq_decide.2 Iff.rfl
                have n3 : (!decide (x.kind = 3)) = false := by rw [n4]; rfl
                have n5 : decide (¬ x.kind = 3) = false := by rw [decide_not, n4]; rfl
                go_wp2_with fail
                clear c0 c1 c2 c3 c4 d0 d1 e0 e1
                have f2 := cell_regrown C2.out
                have g0 := cell_regrown D0.out
                have g1 := cell_regrown D1.out
                have g2 := cell_regrown E0.out
                have g3 := cell_regrown E1.out
                refine wp_region_quiet_below (by kernel_rfl) (by kernel_rfl) ?_
                repeat (go_big_quiet_step (fail))
                refine wpQuiet_nil ?_
                intro w9 hw'
                have REL : Hid (Below Wz.heap.size Wz w9) := by obtain ⟨⟨dq, osq⟩, hw''⟩ := hw'; show Below _ _ _; rw [hw'']; exact HB2.out.trans ((below_regrown wr dq osq).mono HB2.out.size)
                clear hw' f2 g0 g1 g2 g3
                go_wp2
                go_roundg (gk - 1)
                case rel => exact ⟨j1, rfl, by have := HJ1.out; omega, REL.out⟩
                case measure => omega
              | false =>
                have n1 : (x.kind != 3) = true := by show (!(x.kind == 3)) = _; rw [kx]; rfl
                have n2 : (!(x.kind == 3)) = true := by rw [kx]; rfl
                have n4 : decide (x.kind = 3) = false := by rw [← kx]; exact decide_eq_decide.2 Iff.rfl
                have n3 : (!decide (x.kind = 3)) = true := by rw [n4]; rfl
                have n5 : decide (¬ x.kind = 3) = true := by rw [decide_not, n4]; rfl
                cases ky : (y.kind == 3) with
                | true =>
                  have p1 : (y.kind != 3) = false := by show (!(y.kind == 3)) = _; rw [ky]; rfl
                  have p2 : (!(y.kind == 3)) = false := by rw [ky]; rfl
                  have p4 : decide (y.kind = 3) = true := by rw [← ky]; exact decide_eq_decide.2 Iff.rfl
                  have p3 : (!decide (y.kind = 3)) = false := by rw [p4]; rfl
                  have p5 : decide (¬ y.kind = 3) = false := by rw [decide_not, p4]; rfl
                  go_wp2_with fail
                  clear c0 c1 c2 c3 c4 d0 d1 e0 e1
                  have f2 := cell_regrown C2.out
                  have g0 := cell_regrown D0.out
                  have g1 := cell_regrown D1.out
                  have g2 := cell_regrown E0.out
                  have g3 := cell_regrown E1.out
                  refine wp_region_quiet_below (by kernel_rfl) (by kernel_rfl) ?_
                  repeat (go_big_quiet_step (fail))
                  refine wpQuiet_nil ?_
                  intro w9 hw'
                  have REL : Hid (Below Wz.heap.size Wz w9) := by obtain ⟨⟨dq, osq⟩, hw''⟩ := hw'; show Below _ _ _; rw [hw'']; exact HB2.out.trans ((below_regrown wr dq osq).mono HB2.out.size)
                  clear hw' f2 g0 g1 g2 g3
                  go_wp2
                  go_roundg (gk - 1)
                  case rel => exact ⟨j1, rfl, by have := HJ1.out; omega, REL.out⟩
                  case measure => omega
                | false =>
                  have p1 : (y.kind != 3) = true := by show (!(y.kind == 3)) = _; rw [ky]; rfl
                  have p2 : (!(y.kind == 3)) = true := by rw [ky]; rfl
                  have p4 : decide (y.kind = 3) = false := by rw [← ky]; exact decide_eq_decide.2 Iff.rfl
                  have p3 : (!decide (y.kind = 3)) = true := by rw [p4]; rfl
                  have p5 : decide (¬ y.kind = 3) = true := by rw [decide_not, p4]; rfl
                  have ne := ep_apart HK0.out hlj HX.out HY.out kx ky
                  go_wp2_with fail
                  clear c0 c1 c2 c3 c4 d0 d1 e0 e1
                  have f2 := cell_regrown C2.out
                  have g0 := cell_regrown D0.out
                  have g1 := cell_regrown D1.out
                  have g2 := cell_regrown E0.out
                  have g3 := cell_regrown E1.out
                  refine wp_region_quiet_below (by kernel_rfl) (by kernel_rfl) ?_
                  repeat (go_big_quiet_step (fail))
                  refine wpQuiet_nil ?_
                  intro w9 hw'
                  have REL : Hid (Below Wz.heap.size Wz w9) := by obtain ⟨⟨dq, osq⟩, hw''⟩ := hw'; show Below _ _ _; rw [hw'']; exact HB2.out.trans ((below_regrown wr dq osq).mono HB2.out.size)
                  clear hw' f2 g0 g1 g2 g3
                  go_wp2
                  go_roundg (gk - 1)
                  case rel => exact ⟨j1, rfl, by have := HJ1.out; omega, REL.out⟩
                  case measure => omega
            · have hlji : ¬ (j : Int) < (i : Int) := by omega
              go_wp2
              go_roundg (m.ep.length - i1)
              case rel => exact ⟨i1, rfl, by have := HI1.out; omega, HB2.out⟩
              case measure => have := HI1.out; omega
      · have hlti : ¬ (i : Int) < (m.ep.length : Int) := by omega
        go_wp2
        go_ret
        exact ⟨rfl, BF.out⟩
end Go.Proofs.Ytdbpknmoacjodaa
namespace Go.Proofs.Ytdbpknmoacjodaa
open Go.RowKit Go.PlainAid

def SrcIn (S : Src) (w : World) : Prop := S.len ≤ 9223372036854775807 ∧ (∀ j, 0 ≤ S.Z j ∧ S.Z j ≤ 255) ∧ CodeW S w ∧ S.lim = w.heap.size ∧ S.len ≤ S.cap
theorem src_nil (w : World) : SrcIn ⟨none, 0, 0, fun _ => 0, w.heap.size⟩ w := ⟨by simp, fun _ => by simp, fun j hj => absurd hj (Nat.not_lt_zero j), rfl, Nat.le_refl _⟩
theorem block_lt {w : World} {b i : Nat} {v : Value} (h : w.cell? ⟨b, i, none⟩ = some v) : b < w.heap.size := by
  rcases Nat.lt_or_ge b w.heap.size with k | k
  · exact k
  · have e : w.heap[b]? = none := Array.getElem?_eq_none k
    simp [World.cell?, e] at h
theorem src_row {w : World} {x : Addr} {len cap : Nat} {zs : List Int} (hl : len ≤ cap) (hm : cap ≤ maxLen) (hz : zs.length = cap) (hcell : ∀ i, i < zs.length → w.cell? (x.add i) = some (.int .u8 (zs.getD i 0))) (hwz : ∀ n ∈ zs, (Lit.int .u8 n).wf = true) :
    SrcIn ⟨some x, len, cap, fun j => zs.getD j 0, w.heap.size⟩ w := by
  refine ⟨?_, fun j => ?_, fun j hj => ?_, rfl, hl⟩
  · unfold maxLen at hm
    simp only
    omega
  · simp only
    by_cases h : j < zs.length
    · have e : zs.getD j 0 = zs[j] := by simp [List.getD, List.getElem?_eq_getElem h]
      rw [e]
      exact bounds_u8 (hwz _ (List.getElem_mem h))
    · have e : zs.getD j 0 = 0 := by simp [List.getD, List.getElem?_eq_none (Nat.le_of_not_lt h)]
      rw [e]
      omega
  · simp only at hj ⊢
    have h := hcell j (by omega)
    obtain ⟨b, off, spot⟩ := x
    have hz0 := hcell 0 (by omega)
    have hspot : spot = none := by simpa [Addr.add] using World.cell?_spot hz0
    subst hspot
    have hplain : (⟨b, off, none⟩ : Addr).add j = ⟨b, off + j, none⟩ := by unfold Addr.add; split <;> simp_all
    have h' : w.cell? ⟨b, off + j, none⟩ = some (.int .u8 (zs.getD j 0)) := by rw [← hplain]; exact h
    exact ⟨b, off, rfl, block_lt h', h'⟩
end Go.Proofs.Ytdbpknmoacjodaa
