/-
  What spec's l4Item answers: the walks.
  What spec's l4Item answers outside of a script: the walks.
  What spec.Parse answers: the walk.
-/
import Derived.Test.YtcmpakdfebeklaaClSpecParseMToSpecParseO
namespace Go.Proofs.Ytcmpakdfebeklaa
open Go.RowKit Go.PlainAid

theorem l4Import_spec (C : Cx) (gt cap base : Nat) (S : Sv) (q : PS) (w : World) (hm : Mem C gt cap base S q w) (hw : isT C q.pos 1 sImport = true) :
    Calls Try.prog 72 #[pv C gt cap S q (-1) 0] w (Out C gt cap base (importP C q) 0 S w) := by
  cases h1 : isT C (q.pos + 1) 4 cLeft with
  | true => exact l4Import_list C gt cap base S q w hm hw h1
  | false =>
    cases h2 : isT C (q.pos + 1) 4 cStar with
    | true => exact l4Import_star C gt cap base S q w hm hw h1 h2
    | false =>
      cases h3 : plainB C (q.pos + 1) false with
      | true => exact l4Import_plain C gt cap base S q w hm hw h1 h2 h3
      | false => exact l4Import_bare C gt cap base S q w hm hw h1 h2 h3
theorem l4Export_spec (C : Cx) (gt cap base : Nat) (S : Sv) (q : PS) (w : World) (hm : Mem C gt cap base S q w) (hw : isT C q.pos 1 sExport = true) :
    Calls Try.prog 73 #[pv C gt cap S q (-1) 0] w (Out C gt cap base (exportP C q) 0 S w) := by
  cases h1 : isT C (q.pos + 1) 4 cLeft with
  | true => exact l4Export_list C gt cap base S q w hm hw h1
  | false =>
    cases h2 : isT C (q.pos + 1) 4 cStar with
    | true => exact l4Export_star C gt cap base S q w hm hw h1 h2
    | false =>
      cases h3 : isT C (q.pos + 1) 1 sDefault with
      | true => exact l4Export_default C gt cap base S q w hm hw h1 h2 h3
      | false =>
        cases h4 : isT C (q.pos + 1) 1 sLet with
        | true => exact l4Export_let C gt cap base S q w hm hw h1 h2 h3 h4
        | false =>
          cases h5 : isT C (q.pos + 1) 1 sFunction with
          | true => exact l4Export_fn C gt cap base S q w hm hw h1 h2 h3 h4 h5
          | false => exact l4Export_none C gt cap base S q w hm hw h1 h2 h3 h4 h5
theorem set_bind {C : Cx} {x : PR} {n : ByteArray} : bd (bd (bd (bd x (tokP C 4 cEq)) (pE C .sum 0)) (tokP C 4 cSemi)) (addSt C 3 n) = bd x fun q => bd (bd (bd (bd (.ok q) (tokP C 4 cEq)) (pE C .sum 0)) (tokP C 4 cSemi)) (addSt C 3 n) := by cases x <;> rfl

set_option maxRecDepth 100000 in
set_option maxHeartbeats 6400000 in
theorem l4Item_slet_true (ts : List Tk) (fin : Nat) (gt cap base : Nat) (S : Sv) (q : PS) (w : World) (hm : Mem (Cx.mk ts fin true) gt cap base S q w) (h0 : isT (Cx.mk ts fin true) q.pos 1 sLet = true) :
    Calls Try.prog 48 #[pv (Cx.mk ts fin true) gt cap S q (-1) 0] w (Out (Cx.mk ts fin true) gt cap base (itemP (Cx.mk ts fin true) q) 0 S w) := by
  have HM := hidI hm
  have htok := hm.tok
  have hfew : (Cx.mk ts fin true).ts.length ≤ 4000 := hm.few
  clear hm
  have HV : Hid (itemP (Cx.mk ts fin true) q = fstP (letP (Cx.mk ts fin true) q)) := by show itemP (Cx.mk ts fin true) q = _; rw [itemP, h0]; rfl
  unfold pv
  go_enter Try.func48, Try.ntmps48
  go_wp2_with fail
  refine (is_spec (Cx.mk ts fin true) gt cap base S q (-1) 0 1 sLet _ (ownT_alloc (ownT_alloc htok _) _) hfew (by decide)).mono ?_
  rintro e w1 ⟨rfl, hb1⟩
  rw [h0]
  obtain ⟨X0, X1, m1, t1⟩ := HM.out.two hb1
  have hX0 := hidI X0
  have hX1 := hidI X1
  have hm1 := hidI m1
  have ht1 := hidI t1
  clear X0 X1 m1 t1 hb1
  clear htok
  obtain ⟨a0, a1, a2, a3, a4, a5, a6, a7, a8, a9, a10, a11, af⟩ := hX0.out.box
  go_wp2_with fail
  refine (l4Let_spec (Cx.mk ts fin true) gt cap base S q _ hm1.out).mono ?_
  rintro e w2 ⟨S2, q2, z2, n2, rfl, i2, m2, s2⟩
  replace hX0 := hidI (hX0.out.stp s2)
  replace hX1 := hidI (hX1.out.stp s2)
  have ht2 := hidI (ht1.out.step s2)
  clear ht1
  have hm2 := hidI m2
  have hi2 := hidI i2
  clear i2 m2 s2 hm1
  clear a0 a1 a2 a3 a4 a5 a6 a7 a8 a9 a10 a11 af
  have hlt2 : w.heap.size + 1 < w2.heap.size := hX1.out.lt
  unfold pv
  go_upto_region 7 with fail
  refine world_any (R := fun W => Bx gt S2 W (w.heap.size) _ ∧ Bx gt S2 W (w.heap.size + 1) _ ∧ Bx gt S2 W (w2.heap.size) _ ∧ Mem (Cx.mk ts fin true) gt cap base S2 q2 W ∧ SB w.heap.size S w S2 W) ⟨(hX0.out.alloc _), (hX1.out.alloc _), (Bx.new hm2.out _), (hm2.out.alloc _), (ht2.out.alloc _)⟩ ?_
  clear hX0 hX1 ht2 hm2
  rintro w3 ⟨X0, X1, X2, m3, t3⟩
  have hX0 := hidI X0
  have hX1 := hidI X1
  have hX2 := hidI X2
  have hm3 := hidI m3
  have ht3 := hidI t3
  clear m3 t3 X0 X1 X2
  obtain ⟨b0, b1, b2, b3, b4, b5, b6, b7, b8, b9, b10, b11, bf⟩ := hX1.out.box
  obtain ⟨c0, c1, c2, c3, c4, c5, c6, c7, c8, c9, c10, c11, cf⟩ := hX2.out.box
  go_wp2
  refine bodyPost_ret (results_cell_row rfl _ _ (w.heap.size + 1) 87 _ (0, 0) _ rfl ((hX1.out.put _ _ _ _ _ _ _ _ _ _ _ _)).heap Try.underlying87 rfl (by kernel_rfl)) rfl ?_
  rw [HV.out]
  exact out_done rfl hi2.out.fst (hm3.out.put hX1.out _ _ _ _ _ _ _ _ _ _ _ _) (ht3.out.put (by omega) _ _ _ _ _ _ _ _ _ _ _ _)
set_option maxRecDepth 100000 in
set_option maxHeartbeats 6400000 in
theorem l4Item_sfunction_true (ts : List Tk) (fin : Nat) (gt cap base : Nat) (S : Sv) (q : PS) (w : World) (hm : Mem (Cx.mk ts fin true) gt cap base S q w) (h0 : isT (Cx.mk ts fin true) q.pos 1 sLet = false) (h1 : isT (Cx.mk ts fin true) q.pos 1 sFunction = true) :
    Calls Try.prog 48 #[pv (Cx.mk ts fin true) gt cap S q (-1) 0] w (Out (Cx.mk ts fin true) gt cap base (itemP (Cx.mk ts fin true) q) 0 S w) := by
  have HM := hidI hm
  have htok := hm.tok
  have hfew : (Cx.mk ts fin true).ts.length ≤ 4000 := hm.few
  clear hm
  have HV : Hid (itemP (Cx.mk ts fin true) q = fstP (fnP (Cx.mk ts fin true) q)) := by show itemP (Cx.mk ts fin true) q = _; rw [itemP, h0, h1]; rfl
  unfold pv
  go_enter Try.func48, Try.ntmps48
  go_wp2_with fail
  refine (is_spec (Cx.mk ts fin true) gt cap base S q (-1) 0 1 sLet _ (ownT_alloc (ownT_alloc htok _) _) hfew (by decide)).mono ?_
  rintro e w1 ⟨rfl, hb1⟩
  rw [h0]
  obtain ⟨X0, X1, m1, t1⟩ := HM.out.two hb1
  have hX0 := hidI X0
  have hX1 := hidI X1
  have hm1 := hidI m1
  have ht1 := hidI t1
  clear X0 X1 m1 t1 hb1
  clear htok
  obtain ⟨a0, a1, a2, a3, a4, a5, a6, a7, a8, a9, a10, a11, af⟩ := hX0.out.box
  go_wp2_with fail
  refine (is_spec (Cx.mk ts fin true) gt cap base S q (-1) 0 1 sFunction _ hm1.out.tok hfew (by decide)).mono ?_
  rintro e w2 ⟨rfl, hb2⟩
  rw [h1]
  replace hX0 := hidI (hX0.out.below hb2)
  replace hX1 := hidI (hX1.out.below hb2)
  have ht2 := hidI (ht1.out.below hb2)
  have hm2 := hidI (hm1.out.later hb2)
  clear hb2 ht1 hm1
  clear a0 a1 a2 a3 a4 a5 a6 a7 a8 a9 a10 a11 af
  obtain ⟨a0, a1, a2, a3, a4, a5, a6, a7, a8, a9, a10, a11, af⟩ := hX0.out.box
  go_wp2_with fail
  refine (l4Fn_spec (Cx.mk ts fin true) gt cap base S q _ hm2.out).mono ?_
  rintro e w3 ⟨S3, q3, z3, n3, rfl, i3, m3, s3⟩
  replace hX0 := hidI (hX0.out.stp s3)
  replace hX1 := hidI (hX1.out.stp s3)
  have ht3 := hidI (ht2.out.step s3)
  clear ht2
  have hm3 := hidI m3
  have hi3 := hidI i3
  clear i3 m3 s3 hm2
  clear a0 a1 a2 a3 a4 a5 a6 a7 a8 a9 a10 a11 af
  have hlt2 : w.heap.size + 1 < w3.heap.size := hX1.out.lt
  unfold pv
  go_upto_region 10 with fail
  refine world_any (R := fun W => Bx gt S3 W (w.heap.size) _ ∧ Bx gt S3 W (w.heap.size + 1) _ ∧ Bx gt S3 W (w3.heap.size) _ ∧ Mem (Cx.mk ts fin true) gt cap base S3 q3 W ∧ SB w.heap.size S w S3 W) ⟨(hX0.out.alloc _), (hX1.out.alloc _), (Bx.new hm3.out _), (hm3.out.alloc _), (ht3.out.alloc _)⟩ ?_
  clear hX0 hX1 ht3 hm3
  rintro w4 ⟨X0, X1, X2, m4, t4⟩
  have hX0 := hidI X0
  have hX1 := hidI X1
  have hX2 := hidI X2
  have hm4 := hidI m4
  have ht4 := hidI t4
  clear m4 t4 X0 X1 X2
  obtain ⟨b0, b1, b2, b3, b4, b5, b6, b7, b8, b9, b10, b11, bf⟩ := hX1.out.box
  obtain ⟨c0, c1, c2, c3, c4, c5, c6, c7, c8, c9, c10, c11, cf⟩ := hX2.out.box
  go_wp2
  refine bodyPost_ret (results_cell_row rfl _ _ (w.heap.size + 1) 87 _ (0, 0) _ rfl ((hX1.out.put _ _ _ _ _ _ _ _ _ _ _ _)).heap Try.underlying87 rfl (by kernel_rfl)) rfl ?_
  rw [HV.out]
  exact out_done rfl hi3.out.fst (hm4.out.put hX1.out _ _ _ _ _ _ _ _ _ _ _ _) (ht4.out.put (by omega) _ _ _ _ _ _ _ _ _ _ _ _)
set_option maxRecDepth 100000 in
set_option maxHeartbeats 6400000 in
theorem l4Item_sprint_true (ts : List Tk) (fin : Nat) (gt cap base : Nat) (S : Sv) (q : PS) (w : World) (hm : Mem (Cx.mk ts fin true) gt cap base S q w) (h0 : isT (Cx.mk ts fin true) q.pos 1 sLet = false) (h1 : isT (Cx.mk ts fin true) q.pos 1 sFunction = false) (h2 : isT (Cx.mk ts fin true) q.pos 1 sPrint = true) :
    Calls Try.prog 48 #[pv (Cx.mk ts fin true) gt cap S q (-1) 0] w (Out (Cx.mk ts fin true) gt cap base (itemP (Cx.mk ts fin true) q) 0 S w) := by
  have HM := hidI hm
  have htok := hm.tok
  have hfew : (Cx.mk ts fin true).ts.length ≤ 4000 := hm.few
  clear hm
  have HV : Hid (itemP (Cx.mk ts fin true) q = bd (bd (bd (bd (bd (bd (.ok q) (tokP (Cx.mk ts fin true) 1 sPrint)) (tokP (Cx.mk ts fin true) 4 cOpen)) (pE (Cx.mk ts fin true) .sum 0)) (tokP (Cx.mk ts fin true) 4 cShut)) (tokP (Cx.mk ts fin true) 4 cSemi)) (addSt (Cx.mk ts fin true) 4 sNone)) := by show itemP (Cx.mk ts fin true) q = _; rw [itemP, h0, h1, h2]; rfl
  unfold pv
  go_enter Try.func48, Try.ntmps48
  go_wp2_with fail
  refine (is_spec (Cx.mk ts fin true) gt cap base S q (-1) 0 1 sLet _ (ownT_alloc (ownT_alloc htok _) _) hfew (by decide)).mono ?_
  rintro e w1 ⟨rfl, hb1⟩
  rw [h0]
  obtain ⟨X0, X1, m1, t1⟩ := HM.out.two hb1
  have hX0 := hidI X0
  have hX1 := hidI X1
  have hm1 := hidI m1
  have ht1 := hidI t1
  clear X0 X1 m1 t1 hb1
  clear htok
  obtain ⟨a0, a1, a2, a3, a4, a5, a6, a7, a8, a9, a10, a11, af⟩ := hX0.out.box
  go_wp2_with fail
  refine (is_spec (Cx.mk ts fin true) gt cap base S q (-1) 0 1 sFunction _ hm1.out.tok hfew (by decide)).mono ?_
  rintro e w2 ⟨rfl, hb2⟩
  rw [h1]
  replace hX0 := hidI (hX0.out.below hb2)
  replace hX1 := hidI (hX1.out.below hb2)
  have ht2 := hidI (ht1.out.below hb2)
  have hm2 := hidI (hm1.out.later hb2)
  clear hb2 ht1 hm1
  clear a0 a1 a2 a3 a4 a5 a6 a7 a8 a9 a10 a11 af
  obtain ⟨a0, a1, a2, a3, a4, a5, a6, a7, a8, a9, a10, a11, af⟩ := hX0.out.box
  go_wp2_with fail
  refine (is_spec (Cx.mk ts fin true) gt cap base S q (-1) 0 1 sPrint _ hm2.out.tok hfew (by decide)).mono ?_
  rintro e w3 ⟨rfl, hb3⟩
  rw [h2]
  replace hX0 := hidI (hX0.out.below hb3)
  replace hX1 := hidI (hX1.out.below hb3)
  have ht3 := hidI (ht2.out.below hb3)
  have hm3 := hidI (hm2.out.later hb3)
  clear hb3 ht2 hm2
  clear a0 a1 a2 a3 a4 a5 a6 a7 a8 a9 a10 a11 af
  obtain ⟨a0, a1, a2, a3, a4, a5, a6, a7, a8, a9, a10, a11, af⟩ := hX0.out.box
  go_wp2_with fail
  refine (l4Word_spec (Cx.mk ts fin true) gt cap base (.ok q) S q (-1) 0 sPrint _ (is_ok q) hm3.out).mono ?_
  rintro e w4 ⟨S4, q4, z4, rfl, i4, m4, s4⟩
  replace hX0 := hidI (hX0.out.stp s4)
  replace hX1 := hidI (hX1.out.stp s4)
  have ht4 := hidI (ht3.out.step s4)
  clear ht3
  have hm4 := hidI m4
  have hi4 := hidI i4
  clear i4 m4 s4 hm3
  clear a0 a1 a2 a3 a4 a5 a6 a7 a8 a9 a10 a11 af
  go_wp2_with fail
  refine (l4Sign_spec (Cx.mk ts fin true) gt cap base _ S4 q4 z4 0 cOpen _ hi4.out hm4.out).mono ?_
  rintro e w5 ⟨S5, q5, z5, rfl, i5, m5, s5⟩
  replace hX0 := hidI (hX0.out.stp s5)
  replace hX1 := hidI (hX1.out.stp s5)
  have ht5 := hidI (ht4.out.step s5)
  clear ht4
  have hm5 := hidI m5
  have hi5 := hidI i5
  clear i5 m5 s5 hm4
  go_wp2_with fail
  refine (l4Sum_spec (Cx.mk ts fin true) gt cap base _ S5 q5 z5 _ hi5.out hm5.out).mono ?_
  rintro e w6 ⟨S6, q6, z6, rfl, i6, m6, s6⟩
  replace hX0 := hidI (hX0.out.stp s6)
  replace hX1 := hidI (hX1.out.stp s6)
  have ht6 := hidI (ht5.out.step s6)
  clear ht5
  have hm6 := hidI m6
  have hi6 := hidI i6
  clear i6 m6 s6 hm5
  go_wp2_with fail
  refine (l4Sign_spec (Cx.mk ts fin true) gt cap base _ S6 q6 z6 0 cShut _ hi6.out hm6.out).mono ?_
  rintro e w7 ⟨S7, q7, z7, rfl, i7, m7, s7⟩
  replace hX0 := hidI (hX0.out.stp s7)
  replace hX1 := hidI (hX1.out.stp s7)
  have ht7 := hidI (ht6.out.step s7)
  clear ht6
  have hm7 := hidI m7
  have hi7 := hidI i7
  clear i7 m7 s7 hm6
  have hlt2 : w.heap.size + 1 < w7.heap.size := hX1.out.lt
  unfold pv
  go_upto_region 13 with fail
  refine world_any (R := fun W => Bx gt S7 W (w.heap.size) _ ∧ Bx gt S7 W (w.heap.size + 1) _ ∧ Bx gt S7 W (w7.heap.size) _ ∧ Mem (Cx.mk ts fin true) gt cap base S7 q7 W ∧ SB w.heap.size S w S7 W) ⟨(hX0.out.alloc _), (hX1.out.alloc _), (Bx.new hm7.out _), (hm7.out.alloc _), (ht7.out.alloc _)⟩ ?_
  clear hX0 hX1 ht7 hm7
  rintro w8 ⟨X0, X1, X2, m8, t8⟩
  have hX0 := hidI X0
  have hX1 := hidI X1
  have hX2 := hidI X2
  have hm8 := hidI m8
  have ht8 := hidI t8
  clear m8 t8 X0 X1 X2
  obtain ⟨c0, c1, c2, c3, c4, c5, c6, c7, c8, c9, c10, c11, cf⟩ := hX2.out.box
  go_wp2_with fail
  refine (l4Sign_spec (Cx.mk ts fin true) gt cap base _ S7 q7 z7 0 cSemi _ hi7.out hm8.out).mono ?_
  rintro e w9 ⟨S9, q9, z9, rfl, i9, m9, s9⟩
  replace hX0 := hidI (hX0.out.stp s9)
  replace hX1 := hidI (hX1.out.stp s9)
  replace hX2 := hidI (hX2.out.stp s9)
  have ht9 := hidI (ht8.out.step s9)
  clear ht8
  have hm9 := hidI m9
  have hi9 := hidI i9
  clear i9 m9 s9 hm8
  clear c0 c1 c2 c3 c4 c5 c6 c7 c8 c9 c10 c11 cf
  go_wp2_with fail
  refine (l4Stmt_spec (Cx.mk ts fin true) gt cap base _ S9 q9 z9 0 4 sNone _ hi9.out hm9.out (pos_tok hi9.out)).mono ?_
  rintro e w10 ⟨S10, q10, z10, rfl, i10, m10, s10⟩
  replace hX0 := hidI (hX0.out.stp s10)
  replace hX1 := hidI (hX1.out.stp s10)
  replace hX2 := hidI (hX2.out.stp s10)
  have ht10 := hidI (ht9.out.step s10)
  clear ht9
  have hm10 := hidI m10
  have hi10 := hidI i10
  clear i10 m10 s10 hm9
  obtain ⟨b0, b1, b2, b3, b4, b5, b6, b7, b8, b9, b10, b11, bf⟩ := hX1.out.box
  unfold pv
  go_wp2
  refine bodyPost_ret (results_cell_row rfl _ _ (w.heap.size + 1) 87 _ (0, 0) _ rfl ((hX1.out.put _ _ _ _ _ _ _ _ _ _ _ _)).heap Try.underlying87 rfl (by kernel_rfl)) rfl ?_
  rw [HV.out]
  exact out_done rfl hi10.out (hm10.out.put hX1.out _ _ _ _ _ _ _ _ _ _ _ _) (ht10.out.put (by omega) _ _ _ _ _ _ _ _ _ _ _ _)
set_option maxRecDepth 100000 in
set_option maxHeartbeats 6400000 in
theorem l4Item_sthrow_true (ts : List Tk) (fin : Nat) (gt cap base : Nat) (S : Sv) (q : PS) (w : World) (hm : Mem (Cx.mk ts fin true) gt cap base S q w) (h0 : isT (Cx.mk ts fin true) q.pos 1 sLet = false) (h1 : isT (Cx.mk ts fin true) q.pos 1 sFunction = false) (h2 : isT (Cx.mk ts fin true) q.pos 1 sPrint = false) (h3 : isT (Cx.mk ts fin true) q.pos 1 sThrow = true) :
    Calls Try.prog 48 #[pv (Cx.mk ts fin true) gt cap S q (-1) 0] w (Out (Cx.mk ts fin true) gt cap base (itemP (Cx.mk ts fin true) q) 0 S w) := by
  have HM := hidI hm
  have htok := hm.tok
  have hfew : (Cx.mk ts fin true).ts.length ≤ 4000 := hm.few
  clear hm
  have HV : Hid (itemP (Cx.mk ts fin true) q = bd (bd (bd (bd (.ok q) (tokP (Cx.mk ts fin true) 1 sThrow)) (pE (Cx.mk ts fin true) .sum 0)) (tokP (Cx.mk ts fin true) 4 cSemi)) (addSt (Cx.mk ts fin true) 5 sNone)) := by show itemP (Cx.mk ts fin true) q = _; rw [itemP, h0, h1, h2, h3]; rfl
  unfold pv
  go_enter Try.func48, Try.ntmps48
  go_wp2_with fail
  refine (is_spec (Cx.mk ts fin true) gt cap base S q (-1) 0 1 sLet _ (ownT_alloc (ownT_alloc htok _) _) hfew (by decide)).mono ?_
  rintro e w1 ⟨rfl, hb1⟩
  rw [h0]
  obtain ⟨X0, X1, m1, t1⟩ := HM.out.two hb1
  have hX0 := hidI X0
  have hX1 := hidI X1
  have hm1 := hidI m1
  have ht1 := hidI t1
  clear X0 X1 m1 t1 hb1
  clear htok
  obtain ⟨a0, a1, a2, a3, a4, a5, a6, a7, a8, a9, a10, a11, af⟩ := hX0.out.box
  go_wp2_with fail
  refine (is_spec (Cx.mk ts fin true) gt cap base S q (-1) 0 1 sFunction _ hm1.out.tok hfew (by decide)).mono ?_
  rintro e w2 ⟨rfl, hb2⟩
  rw [h1]
  replace hX0 := hidI (hX0.out.below hb2)
  replace hX1 := hidI (hX1.out.below hb2)
  have ht2 := hidI (ht1.out.below hb2)
  have hm2 := hidI (hm1.out.later hb2)
  clear hb2 ht1 hm1
  clear a0 a1 a2 a3 a4 a5 a6 a7 a8 a9 a10 a11 af
  obtain ⟨a0, a1, a2, a3, a4, a5, a6, a7, a8, a9, a10, a11, af⟩ := hX0.out.box
  go_wp2_with fail
  refine (is_spec (Cx.mk ts fin true) gt cap base S q (-1) 0 1 sPrint _ hm2.out.tok hfew (by decide)).mono ?_
  rintro e w3 ⟨rfl, hb3⟩
  rw [h2]
  replace hX0 := hidI (hX0.out.below hb3)
  replace hX1 := hidI (hX1.out.below hb3)
  have ht3 := hidI (ht2.out.below hb3)
  have hm3 := hidI (hm2.out.later hb3)
  clear hb3 ht2 hm2
  clear a0 a1 a2 a3 a4 a5 a6 a7 a8 a9 a10 a11 af
  obtain ⟨a0, a1, a2, a3, a4, a5, a6, a7, a8, a9, a10, a11, af⟩ := hX0.out.box
  go_wp2_with fail
  refine (is_spec (Cx.mk ts fin true) gt cap base S q (-1) 0 1 sThrow _ hm3.out.tok hfew (by decide)).mono ?_
  rintro e w4 ⟨rfl, hb4⟩
  rw [h3]
  replace hX0 := hidI (hX0.out.below hb4)
  replace hX1 := hidI (hX1.out.below hb4)
  have ht4 := hidI (ht3.out.below hb4)
  have hm4 := hidI (hm3.out.later hb4)
  clear hb4 ht3 hm3
  clear a0 a1 a2 a3 a4 a5 a6 a7 a8 a9 a10 a11 af
  obtain ⟨a0, a1, a2, a3, a4, a5, a6, a7, a8, a9, a10, a11, af⟩ := hX0.out.box
  go_wp2_with fail
  refine (l4Word_spec (Cx.mk ts fin true) gt cap base (.ok q) S q (-1) 0 sThrow _ (is_ok q) hm4.out).mono ?_
  rintro e w5 ⟨S5, q5, z5, rfl, i5, m5, s5⟩
  replace hX0 := hidI (hX0.out.stp s5)
  replace hX1 := hidI (hX1.out.stp s5)
  have ht5 := hidI (ht4.out.step s5)
  clear ht4
  have hm5 := hidI m5
  have hi5 := hidI i5
  clear i5 m5 s5 hm4
  clear a0 a1 a2 a3 a4 a5 a6 a7 a8 a9 a10 a11 af
  go_wp2_with fail
  refine (l4Sum_spec (Cx.mk ts fin true) gt cap base _ S5 q5 z5 _ hi5.out hm5.out).mono ?_
  rintro e w6 ⟨S6, q6, z6, rfl, i6, m6, s6⟩
  replace hX0 := hidI (hX0.out.stp s6)
  replace hX1 := hidI (hX1.out.stp s6)
  have ht6 := hidI (ht5.out.step s6)
  clear ht5
  have hm6 := hidI m6
  have hi6 := hidI i6
  clear i6 m6 s6 hm5
  go_wp2_with fail
  refine (l4Sign_spec (Cx.mk ts fin true) gt cap base _ S6 q6 z6 0 cSemi _ hi6.out hm6.out).mono ?_
  rintro e w7 ⟨S7, q7, z7, rfl, i7, m7, s7⟩
  replace hX0 := hidI (hX0.out.stp s7)
  replace hX1 := hidI (hX1.out.stp s7)
  have ht7 := hidI (ht6.out.step s7)
  clear ht6
  have hm7 := hidI m7
  have hi7 := hidI i7
  clear i7 m7 s7 hm6
  go_wp2_with fail
  refine (l4Stmt_spec (Cx.mk ts fin true) gt cap base _ S7 q7 z7 0 5 sNone _ hi7.out hm7.out (pos_tok hi7.out)).mono ?_
  rintro e w8 ⟨S8, q8, z8, rfl, i8, m8, s8⟩
  replace hX0 := hidI (hX0.out.stp s8)
  replace hX1 := hidI (hX1.out.stp s8)
  have ht8 := hidI (ht7.out.step s8)
  clear ht7
  have hm8 := hidI m8
  have hi8 := hidI i8
  clear i8 m8 s8 hm7
  obtain ⟨b0, b1, b2, b3, b4, b5, b6, b7, b8, b9, b10, b11, bf⟩ := hX1.out.box
  unfold pv
  go_wp2
  refine bodyPost_ret (results_cell_row rfl _ _ (w.heap.size + 1) 87 _ (0, 0) _ rfl ((hX1.out.put _ _ _ _ _ _ _ _ _ _ _ _)).heap Try.underlying87 rfl (by kernel_rfl)) rfl ?_
  rw [HV.out]
  exact out_done rfl hi8.out (hm8.out.put hX1.out _ _ _ _ _ _ _ _ _ _ _ _) (ht8.out.put (by omega) _ _ _ _ _ _ _ _ _ _ _ _)
set_option maxRecDepth 100000 in
set_option maxHeartbeats 6400000 in
theorem l4Item_sfail_true (ts : List Tk) (fin : Nat) (gt cap base : Nat) (S : Sv) (q : PS) (w : World) (hm : Mem (Cx.mk ts fin true) gt cap base S q w) (h0 : isT (Cx.mk ts fin true) q.pos 1 sLet = false) (h1 : isT (Cx.mk ts fin true) q.pos 1 sFunction = false) (h2 : isT (Cx.mk ts fin true) q.pos 1 sPrint = false) (h3 : isT (Cx.mk ts fin true) q.pos 1 sThrow = false) (h4 : isT (Cx.mk ts fin true) q.pos 1 sFail = true) :
    Calls Try.prog 48 #[pv (Cx.mk ts fin true) gt cap S q (-1) 0] w (Out (Cx.mk ts fin true) gt cap base (itemP (Cx.mk ts fin true) q) 0 S w) := by
  have HM := hidI hm
  have htok := hm.tok
  have hfew : (Cx.mk ts fin true).ts.length ≤ 4000 := hm.few
  clear hm
  have HV : Hid (itemP (Cx.mk ts fin true) q = bd (bd (bd (bd (.ok q) (tokP (Cx.mk ts fin true) 1 sFail)) (pE (Cx.mk ts fin true) .sum 0)) (tokP (Cx.mk ts fin true) 4 cSemi)) (addSt (Cx.mk ts fin true) 6 sNone)) := by show itemP (Cx.mk ts fin true) q = _; rw [itemP, h0, h1, h2, h3, h4]; rfl
  unfold pv
  go_enter Try.func48, Try.ntmps48
  go_wp2_with fail
  refine (is_spec (Cx.mk ts fin true) gt cap base S q (-1) 0 1 sLet _ (ownT_alloc (ownT_alloc htok _) _) hfew (by decide)).mono ?_
  rintro e w1 ⟨rfl, hb1⟩
  rw [h0]
  obtain ⟨X0, X1, m1, t1⟩ := HM.out.two hb1
  have hX0 := hidI X0
  have hX1 := hidI X1
  have hm1 := hidI m1
  have ht1 := hidI t1
  clear X0 X1 m1 t1 hb1
  clear htok
  obtain ⟨a0, a1, a2, a3, a4, a5, a6, a7, a8, a9, a10, a11, af⟩ := hX0.out.box
  go_wp2_with fail
  refine (is_spec (Cx.mk ts fin true) gt cap base S q (-1) 0 1 sFunction _ hm1.out.tok hfew (by decide)).mono ?_
  rintro e w2 ⟨rfl, hb2⟩
  rw [h1]
  replace hX0 := hidI (hX0.out.below hb2)
  replace hX1 := hidI (hX1.out.below hb2)
  have ht2 := hidI (ht1.out.below hb2)
  have hm2 := hidI (hm1.out.later hb2)
  clear hb2 ht1 hm1
  clear a0 a1 a2 a3 a4 a5 a6 a7 a8 a9 a10 a11 af
  obtain ⟨a0, a1, a2, a3, a4, a5, a6, a7, a8, a9, a10, a11, af⟩ := hX0.out.box
  go_wp2_with fail
  refine (is_spec (Cx.mk ts fin true) gt cap base S q (-1) 0 1 sPrint _ hm2.out.tok hfew (by decide)).mono ?_
  rintro e w3 ⟨rfl, hb3⟩
  rw [h2]
  replace hX0 := hidI (hX0.out.below hb3)
  replace hX1 := hidI (hX1.out.below hb3)
  have ht3 := hidI (ht2.out.below hb3)
  have hm3 := hidI (hm2.out.later hb3)
  clear hb3 ht2 hm2
  clear a0 a1 a2 a3 a4 a5 a6 a7 a8 a9 a10 a11 af
  obtain ⟨a0, a1, a2, a3, a4, a5, a6, a7, a8, a9, a10, a11, af⟩ := hX0.out.box
  go_wp2_with fail
  refine (is_spec (Cx.mk ts fin true) gt cap base S q (-1) 0 1 sThrow _ hm3.out.tok hfew (by decide)).mono ?_
  rintro e w4 ⟨rfl, hb4⟩
  rw [h3]
  replace hX0 := hidI (hX0.out.below hb4)
  replace hX1 := hidI (hX1.out.below hb4)
  have ht4 := hidI (ht3.out.below hb4)
  have hm4 := hidI (hm3.out.later hb4)
  clear hb4 ht3 hm3
  clear a0 a1 a2 a3 a4 a5 a6 a7 a8 a9 a10 a11 af
  obtain ⟨a0, a1, a2, a3, a4, a5, a6, a7, a8, a9, a10, a11, af⟩ := hX0.out.box
  go_wp2_with fail
  refine (is_spec (Cx.mk ts fin true) gt cap base S q (-1) 0 1 sFail _ hm4.out.tok hfew (by decide)).mono ?_
  rintro e w5 ⟨rfl, hb5⟩
  rw [h4]
  replace hX0 := hidI (hX0.out.below hb5)
  replace hX1 := hidI (hX1.out.below hb5)
  have ht5 := hidI (ht4.out.below hb5)
  have hm5 := hidI (hm4.out.later hb5)
  clear hb5 ht4 hm4
  clear a0 a1 a2 a3 a4 a5 a6 a7 a8 a9 a10 a11 af
  obtain ⟨a0, a1, a2, a3, a4, a5, a6, a7, a8, a9, a10, a11, af⟩ := hX0.out.box
  go_wp2_with fail
  refine (l4Word_spec (Cx.mk ts fin true) gt cap base (.ok q) S q (-1) 0 sFail _ (is_ok q) hm5.out).mono ?_
  rintro e w6 ⟨S6, q6, z6, rfl, i6, m6, s6⟩
  replace hX0 := hidI (hX0.out.stp s6)
  replace hX1 := hidI (hX1.out.stp s6)
  have ht6 := hidI (ht5.out.step s6)
  clear ht5
  have hm6 := hidI m6
  have hi6 := hidI i6
  clear i6 m6 s6 hm5
  clear a0 a1 a2 a3 a4 a5 a6 a7 a8 a9 a10 a11 af
  go_wp2_with fail
  refine (l4Sum_spec (Cx.mk ts fin true) gt cap base _ S6 q6 z6 _ hi6.out hm6.out).mono ?_
  rintro e w7 ⟨S7, q7, z7, rfl, i7, m7, s7⟩
  replace hX0 := hidI (hX0.out.stp s7)
  replace hX1 := hidI (hX1.out.stp s7)
  have ht7 := hidI (ht6.out.step s7)
  clear ht6
  have hm7 := hidI m7
  have hi7 := hidI i7
  clear i7 m7 s7 hm6
  go_wp2_with fail
  refine (l4Sign_spec (Cx.mk ts fin true) gt cap base _ S7 q7 z7 0 cSemi _ hi7.out hm7.out).mono ?_
  rintro e w8 ⟨S8, q8, z8, rfl, i8, m8, s8⟩
  replace hX0 := hidI (hX0.out.stp s8)
  replace hX1 := hidI (hX1.out.stp s8)
  have ht8 := hidI (ht7.out.step s8)
  clear ht7
  have hm8 := hidI m8
  have hi8 := hidI i8
  clear i8 m8 s8 hm7
  go_wp2_with fail
  refine (l4Stmt_spec (Cx.mk ts fin true) gt cap base _ S8 q8 z8 0 6 sNone _ hi8.out hm8.out (pos_tok hi8.out)).mono ?_
  rintro e w9 ⟨S9, q9, z9, rfl, i9, m9, s9⟩
  replace hX0 := hidI (hX0.out.stp s9)
  replace hX1 := hidI (hX1.out.stp s9)
  have ht9 := hidI (ht8.out.step s9)
  clear ht8
  have hm9 := hidI m9
  have hi9 := hidI i9
  clear i9 m9 s9 hm8
  obtain ⟨b0, b1, b2, b3, b4, b5, b6, b7, b8, b9, b10, b11, bf⟩ := hX1.out.box
  unfold pv
  go_wp2
  refine bodyPost_ret (results_cell_row rfl _ _ (w.heap.size + 1) 87 _ (0, 0) _ rfl ((hX1.out.put _ _ _ _ _ _ _ _ _ _ _ _)).heap Try.underlying87 rfl (by kernel_rfl)) rfl ?_
  rw [HV.out]
  exact out_done rfl hi9.out (hm9.out.put hX1.out _ _ _ _ _ _ _ _ _ _ _ _) (ht9.out.put (by omega) _ _ _ _ _ _ _ _ _ _ _ _)
set_option maxRecDepth 100000 in
set_option maxHeartbeats 6400000 in
theorem l4Item_set_true (ts : List Tk) (fin : Nat) (gt cap base : Nat) (S : Sv) (q : PS) (w : World) (hm : Mem (Cx.mk ts fin true) gt cap base S q w) (h0 : isT (Cx.mk ts fin true) q.pos 1 sLet = false) (h1 : isT (Cx.mk ts fin true) q.pos 1 sFunction = false) (h2 : isT (Cx.mk ts fin true) q.pos 1 sPrint = false) (h3 : isT (Cx.mk ts fin true) q.pos 1 sThrow = false) (h4 : isT (Cx.mk ts fin true) q.pos 1 sFail = false) :
    Calls Try.prog 48 #[pv (Cx.mk ts fin true) gt cap S q (-1) 0] w (Out (Cx.mk ts fin true) gt cap base (itemP (Cx.mk ts fin true) q) 0 S w) := by
  have HM := hidI hm
  have htok := hm.tok
  have hfew : (Cx.mk ts fin true).ts.length ≤ 4000 := hm.few
  clear hm
  have HV : Hid (itemP (Cx.mk ts fin true) q = bd (bd (.ok q) (nameP (Cx.mk ts fin true) false)) fun a => bd (bd (bd (bd (.ok a.1) (tokP (Cx.mk ts fin true) 4 cEq)) (pE (Cx.mk ts fin true) .sum 0)) (tokP (Cx.mk ts fin true) 4 cSemi)) (addSt (Cx.mk ts fin true) 3 a.2)) := by show itemP (Cx.mk ts fin true) q = _; rw [itemP, h0, h1, h2, h3, h4]; rfl
  unfold pv
  go_enter Try.func48, Try.ntmps48
  go_wp2_with fail
  refine (is_spec (Cx.mk ts fin true) gt cap base S q (-1) 0 1 sLet _ (ownT_alloc (ownT_alloc htok _) _) hfew (by decide)).mono ?_
  rintro e w1 ⟨rfl, hb1⟩
  rw [h0]
  obtain ⟨X0, X1, m1, t1⟩ := HM.out.two hb1
  have hX0 := hidI X0
  have hX1 := hidI X1
  have hm1 := hidI m1
  have ht1 := hidI t1
  clear X0 X1 m1 t1 hb1
  clear htok
  obtain ⟨a0, a1, a2, a3, a4, a5, a6, a7, a8, a9, a10, a11, af⟩ := hX0.out.box
  go_wp2_with fail
  refine (is_spec (Cx.mk ts fin true) gt cap base S q (-1) 0 1 sFunction _ hm1.out.tok hfew (by decide)).mono ?_
  rintro e w2 ⟨rfl, hb2⟩
  rw [h1]
  replace hX0 := hidI (hX0.out.below hb2)
  replace hX1 := hidI (hX1.out.below hb2)
  have ht2 := hidI (ht1.out.below hb2)
  have hm2 := hidI (hm1.out.later hb2)
  clear hb2 ht1 hm1
  clear a0 a1 a2 a3 a4 a5 a6 a7 a8 a9 a10 a11 af
  obtain ⟨a0, a1, a2, a3, a4, a5, a6, a7, a8, a9, a10, a11, af⟩ := hX0.out.box
  go_wp2_with fail
  refine (is_spec (Cx.mk ts fin true) gt cap base S q (-1) 0 1 sPrint _ hm2.out.tok hfew (by decide)).mono ?_
  rintro e w3 ⟨rfl, hb3⟩
  rw [h2]
  replace hX0 := hidI (hX0.out.below hb3)
  replace hX1 := hidI (hX1.out.below hb3)
  have ht3 := hidI (ht2.out.below hb3)
  have hm3 := hidI (hm2.out.later hb3)
  clear hb3 ht2 hm2
  clear a0 a1 a2 a3 a4 a5 a6 a7 a8 a9 a10 a11 af
  obtain ⟨a0, a1, a2, a3, a4, a5, a6, a7, a8, a9, a10, a11, af⟩ := hX0.out.box
  go_wp2_with fail
  refine (is_spec (Cx.mk ts fin true) gt cap base S q (-1) 0 1 sThrow _ hm3.out.tok hfew (by decide)).mono ?_
  rintro e w4 ⟨rfl, hb4⟩
  rw [h3]
  replace hX0 := hidI (hX0.out.below hb4)
  replace hX1 := hidI (hX1.out.below hb4)
  have ht4 := hidI (ht3.out.below hb4)
  have hm4 := hidI (hm3.out.later hb4)
  clear hb4 ht3 hm3
  clear a0 a1 a2 a3 a4 a5 a6 a7 a8 a9 a10 a11 af
  obtain ⟨a0, a1, a2, a3, a4, a5, a6, a7, a8, a9, a10, a11, af⟩ := hX0.out.box
  go_wp2_with fail
  refine (is_spec (Cx.mk ts fin true) gt cap base S q (-1) 0 1 sFail _ hm4.out.tok hfew (by decide)).mono ?_
  rintro e w5 ⟨rfl, hb5⟩
  rw [h4]
  replace hX0 := hidI (hX0.out.below hb5)
  replace hX1 := hidI (hX1.out.below hb5)
  have ht5 := hidI (ht4.out.below hb5)
  have hm5 := hidI (hm4.out.later hb5)
  clear hb5 ht4 hm4
  clear a0 a1 a2 a3 a4 a5 a6 a7 a8 a9 a10 a11 af
  obtain ⟨a0, a1, a2, a3, a4, a5, a6, a7, a8, a9, a10, a11, af⟩ := hX0.out.box
  go_wp2_with fail
  refine (l4Name_spec (Cx.mk ts fin true) gt cap base (.ok q) S q (-1) 0 false _ (is_ok q) hm5.out).mono ?_
  rintro e w6 ⟨S6, q6, z6, n6, rfl, i6, m6, s6⟩
  replace hX0 := hidI (hX0.out.stp s6)
  replace hX1 := hidI (hX1.out.stp s6)
  have ht6 := hidI (ht5.out.step s6)
  clear ht5
  have hm6 := hidI m6
  have hi6 := hidI i6
  clear i6 m6 s6 hm5
  clear a0 a1 a2 a3 a4 a5 a6 a7 a8 a9 a10 a11 af
  have hlt2 : w.heap.size + 1 < w6.heap.size := hX1.out.lt
  unfold pv
  go_upto_region 19 with fail
  refine world_any (R := fun W => Bx gt S6 W (w.heap.size) _ ∧ Bx gt S6 W (w.heap.size + 1) _ ∧ Bx gt S6 W (w6.heap.size) _ ∧ Mem (Cx.mk ts fin true) gt cap base S6 q6 W ∧ SB w.heap.size S w S6 W) ⟨(hX0.out.alloc _), (hX1.out.alloc _), (Bx.new hm6.out _), (hm6.out.alloc _), (ht6.out.alloc _)⟩ ?_
  clear hX0 hX1 ht6 hm6
  rintro w7 ⟨X0, X1, X2, m7, t7⟩
  have hX0 := hidI X0
  have hX1 := hidI X1
  have hX2 := hidI X2
  have hm7 := hidI m7
  have ht7 := hidI t7
  clear m7 t7 X0 X1 X2
  obtain ⟨c0, c1, c2, c3, c4, c5, c6, c7, c8, c9, c10, c11, cf⟩ := hX2.out.box
  go_wp2_with fail
  refine (l4Sign_spec (Cx.mk ts fin true) gt cap base _ S6 q6 z6 0 cEq _ hi6.out.fst hm7.out).mono ?_
  rintro e w8 ⟨S8, q8, z8, rfl, i8, m8, s8⟩
  replace hX0 := hidI (hX0.out.stp s8)
  replace hX1 := hidI (hX1.out.stp s8)
  replace hX2 := hidI (hX2.out.stp s8)
  have ht8 := hidI (ht7.out.step s8)
  clear ht7
  have hm8 := hidI m8
  have hi8 := hidI i8
  clear i8 m8 s8 hm7
  clear c0 c1 c2 c3 c4 c5 c6 c7 c8 c9 c10 c11 cf
  go_wp2_with fail
  refine (l4Sum_spec (Cx.mk ts fin true) gt cap base _ S8 q8 z8 _ hi8.out hm8.out).mono ?_
  rintro e w9 ⟨S9, q9, z9, rfl, i9, m9, s9⟩
  replace hX0 := hidI (hX0.out.stp s9)
  replace hX1 := hidI (hX1.out.stp s9)
  replace hX2 := hidI (hX2.out.stp s9)
  have ht9 := hidI (ht8.out.step s9)
  clear ht8
  have hm9 := hidI m9
  have hi9 := hidI i9
  clear i9 m9 s9 hm8
  go_wp2_with fail
  refine (l4Sign_spec (Cx.mk ts fin true) gt cap base _ S9 q9 z9 0 cSemi _ hi9.out hm9.out).mono ?_
  rintro e w10 ⟨S10, q10, z10, rfl, i10, m10, s10⟩
  replace hX0 := hidI (hX0.out.stp s10)
  replace hX1 := hidI (hX1.out.stp s10)
  replace hX2 := hidI (hX2.out.stp s10)
  have ht10 := hidI (ht9.out.step s10)
  clear ht9
  have hm10 := hidI m10
  have hi10 := hidI i10
  clear i10 m10 s10 hm9
  go_wp2_with fail
  refine (l4Stmt_spec (Cx.mk ts fin true) gt cap base _ S10 q10 z10 0 3 n6 _ hi10.out hm10.out (pos_tok hi10.out)).mono ?_
  rintro e w11 ⟨S11, q11, z11, rfl, i11, m11, s11⟩
  replace hX0 := hidI (hX0.out.stp s11)
  replace hX1 := hidI (hX1.out.stp s11)
  replace hX2 := hidI (hX2.out.stp s11)
  have ht11 := hidI (ht10.out.step s11)
  clear ht10
  have hm11 := hidI m11
  have hi11 := hidI i11
  clear i11 m11 s11 hm10
  obtain ⟨b0, b1, b2, b3, b4, b5, b6, b7, b8, b9, b10, b11, bf⟩ := hX1.out.box
  unfold pv
  go_wp2
  refine bodyPost_ret (results_cell_row rfl _ _ (w.heap.size + 1) 87 _ (0, 0) _ rfl ((hX1.out.put _ _ _ _ _ _ _ _ _ _ _ _)).heap Try.underlying87 rfl (by kernel_rfl)) rfl ?_
  rw [HV.out, ← hi6.out.bind (fun q n => bd (bd (bd (bd (.ok q) (tokP (Cx.mk ts fin true) 4 cEq)) (pE (Cx.mk ts fin true) .sum 0)) (tokP (Cx.mk ts fin true) 4 cSemi)) (addSt (Cx.mk ts fin true) 3 n)), ← set_bind]
  exact out_done rfl hi11.out (hm11.out.put hX1.out _ _ _ _ _ _ _ _ _ _ _ _) (ht11.out.put (by omega) _ _ _ _ _ _ _ _ _ _ _ _)
theorem l4Item_true (ts : List Tk) (fin : Nat) (gt cap base : Nat) (S : Sv) (q : PS) (w : World) (hm : Mem (Cx.mk ts fin true) gt cap base S q w) :
    Calls Try.prog 48 #[pv (Cx.mk ts fin true) gt cap S q (-1) 0] w (Out (Cx.mk ts fin true) gt cap base (itemP (Cx.mk ts fin true) q) 0 S w) := by
  cases h0 : isT (Cx.mk ts fin true) q.pos 1 sLet with
  | true => exact l4Item_slet_true ts fin gt cap base S q w hm h0
  | false =>
    cases h1 : isT (Cx.mk ts fin true) q.pos 1 sFunction with
    | true => exact l4Item_sfunction_true ts fin gt cap base S q w hm h0 h1
    | false =>
      cases h2 : isT (Cx.mk ts fin true) q.pos 1 sPrint with
      | true => exact l4Item_sprint_true ts fin gt cap base S q w hm h0 h1 h2
      | false =>
        cases h3 : isT (Cx.mk ts fin true) q.pos 1 sThrow with
        | true => exact l4Item_sthrow_true ts fin gt cap base S q w hm h0 h1 h2 h3
        | false =>
          cases h4 : isT (Cx.mk ts fin true) q.pos 1 sFail with
          | true => exact l4Item_sfail_true ts fin gt cap base S q w hm h0 h1 h2 h3 h4
          | false =>
            exact l4Item_set_true ts fin gt cap base S q w hm h0 h1 h2 h3 h4
end Go.Proofs.Ytcmpakdfebeklaa
namespace Go.Proofs.Ytcmpakdfebeklaa
open Go.RowKit Go.PlainAid

set_option maxRecDepth 100000 in
set_option maxHeartbeats 6400000 in
theorem l4Item_simport_false (ts : List Tk) (fin : Nat) (gt cap base : Nat) (S : Sv) (q : PS) (w : World) (hm : Mem (Cx.mk ts fin false) gt cap base S q w) (h0 : isT (Cx.mk ts fin false) q.pos 1 sImport = true) :
    Calls Try.prog 48 #[pv (Cx.mk ts fin false) gt cap S q (-1) 0] w (Out (Cx.mk ts fin false) gt cap base (itemP (Cx.mk ts fin false) q) 0 S w) := by
  have HM := hidI hm
  have htok := hm.tok
  have hfew : (Cx.mk ts fin false).ts.length ≤ 4000 := hm.few
  clear hm
  have HV : Hid (itemP (Cx.mk ts fin false) q = importP (Cx.mk ts fin false) q) := by show itemP (Cx.mk ts fin false) q = _; rw [itemP, h0]; rfl
  unfold pv
  go_enter Try.func48, Try.ntmps48
  go_wp2_with fail
  refine (is_spec (Cx.mk ts fin false) gt cap base S q (-1) 0 1 sImport _ (ownT_alloc (ownT_alloc htok _) _) hfew (by decide)).mono ?_
  rintro e w1 ⟨rfl, hb1⟩
  rw [h0]
  obtain ⟨X0, X1, m1, t1⟩ := HM.out.two hb1
  have hX0 := hidI X0
  have hX1 := hidI X1
  have hm1 := hidI m1
  have ht1 := hidI t1
  clear X0 X1 m1 t1 hb1
  clear htok
  obtain ⟨a0, a1, a2, a3, a4, a5, a6, a7, a8, a9, a10, a11, af⟩ := hX0.out.box
  go_wp2_with fail
  refine (l4Import_spec (Cx.mk ts fin false) gt cap base S q _ hm1.out h0).mono ?_
  rintro e w2 ⟨S2, q2, z2, rfl, i2, m2, s2⟩
  replace hX0 := hidI (hX0.out.stp s2)
  replace hX1 := hidI (hX1.out.stp s2)
  have ht2 := hidI (ht1.out.step s2)
  clear ht1
  have hm2 := hidI m2
  have hi2 := hidI i2
  clear i2 m2 s2 hm1
  clear a0 a1 a2 a3 a4 a5 a6 a7 a8 a9 a10 a11 af
  obtain ⟨b0, b1, b2, b3, b4, b5, b6, b7, b8, b9, b10, b11, bf⟩ := hX1.out.box
  unfold pv
  go_wp2
  refine bodyPost_ret (results_cell_row rfl _ _ (w.heap.size + 1) 87 _ (0, 0) _ rfl ((hX1.out.put _ _ _ _ _ _ _ _ _ _ _ _)).heap Try.underlying87 rfl (by kernel_rfl)) rfl ?_
  rw [HV.out]
  exact out_done rfl hi2.out (hm2.out.put hX1.out _ _ _ _ _ _ _ _ _ _ _ _) (ht2.out.put (by omega) _ _ _ _ _ _ _ _ _ _ _ _)
set_option maxRecDepth 100000 in
set_option maxHeartbeats 6400000 in
theorem l4Item_sexport_false (ts : List Tk) (fin : Nat) (gt cap base : Nat) (S : Sv) (q : PS) (w : World) (hm : Mem (Cx.mk ts fin false) gt cap base S q w) (h0 : isT (Cx.mk ts fin false) q.pos 1 sImport = false) (h1 : isT (Cx.mk ts fin false) q.pos 1 sExport = true) :
    Calls Try.prog 48 #[pv (Cx.mk ts fin false) gt cap S q (-1) 0] w (Out (Cx.mk ts fin false) gt cap base (itemP (Cx.mk ts fin false) q) 0 S w) := by
  have HM := hidI hm
  have htok := hm.tok
  have hfew : (Cx.mk ts fin false).ts.length ≤ 4000 := hm.few
  clear hm
  have HV : Hid (itemP (Cx.mk ts fin false) q = exportP (Cx.mk ts fin false) q) := by show itemP (Cx.mk ts fin false) q = _; rw [itemP, h0, h1]; rfl
  unfold pv
  go_enter Try.func48, Try.ntmps48
  go_wp2_with fail
  refine (is_spec (Cx.mk ts fin false) gt cap base S q (-1) 0 1 sImport _ (ownT_alloc (ownT_alloc htok _) _) hfew (by decide)).mono ?_
  rintro e w1 ⟨rfl, hb1⟩
  rw [h0]
  obtain ⟨X0, X1, m1, t1⟩ := HM.out.two hb1
  have hX0 := hidI X0
  have hX1 := hidI X1
  have hm1 := hidI m1
  have ht1 := hidI t1
  clear X0 X1 m1 t1 hb1
  clear htok
  obtain ⟨a0, a1, a2, a3, a4, a5, a6, a7, a8, a9, a10, a11, af⟩ := hX0.out.box
  go_wp2_with fail
  refine (is_spec (Cx.mk ts fin false) gt cap base S q (-1) 0 1 sExport _ hm1.out.tok hfew (by decide)).mono ?_
  rintro e w2 ⟨rfl, hb2⟩
  rw [h1]
  replace hX0 := hidI (hX0.out.below hb2)
  replace hX1 := hidI (hX1.out.below hb2)
  have ht2 := hidI (ht1.out.below hb2)
  have hm2 := hidI (hm1.out.later hb2)
  clear hb2 ht1 hm1
  clear a0 a1 a2 a3 a4 a5 a6 a7 a8 a9 a10 a11 af
  obtain ⟨a0, a1, a2, a3, a4, a5, a6, a7, a8, a9, a10, a11, af⟩ := hX0.out.box
  go_wp2_with fail
  refine (l4Export_spec (Cx.mk ts fin false) gt cap base S q _ hm2.out h1).mono ?_
  rintro e w3 ⟨S3, q3, z3, rfl, i3, m3, s3⟩
  replace hX0 := hidI (hX0.out.stp s3)
  replace hX1 := hidI (hX1.out.stp s3)
  have ht3 := hidI (ht2.out.step s3)
  clear ht2
  have hm3 := hidI m3
  have hi3 := hidI i3
  clear i3 m3 s3 hm2
  clear a0 a1 a2 a3 a4 a5 a6 a7 a8 a9 a10 a11 af
  obtain ⟨b0, b1, b2, b3, b4, b5, b6, b7, b8, b9, b10, b11, bf⟩ := hX1.out.box
  unfold pv
  go_wp2
  refine bodyPost_ret (results_cell_row rfl _ _ (w.heap.size + 1) 87 _ (0, 0) _ rfl ((hX1.out.put _ _ _ _ _ _ _ _ _ _ _ _)).heap Try.underlying87 rfl (by kernel_rfl)) rfl ?_
  rw [HV.out]
  exact out_done rfl hi3.out (hm3.out.put hX1.out _ _ _ _ _ _ _ _ _ _ _ _) (ht3.out.put (by omega) _ _ _ _ _ _ _ _ _ _ _ _)
set_option maxRecDepth 100000 in
set_option maxHeartbeats 6400000 in
theorem l4Item_slet_false (ts : List Tk) (fin : Nat) (gt cap base : Nat) (S : Sv) (q : PS) (w : World) (hm : Mem (Cx.mk ts fin false) gt cap base S q w) (h0 : isT (Cx.mk ts fin false) q.pos 1 sImport = false) (h1 : isT (Cx.mk ts fin false) q.pos 1 sExport = false) (h2 : isT (Cx.mk ts fin false) q.pos 1 sLet = true) :
    Calls Try.prog 48 #[pv (Cx.mk ts fin false) gt cap S q (-1) 0] w (Out (Cx.mk ts fin false) gt cap base (itemP (Cx.mk ts fin false) q) 0 S w) := by
  have HM := hidI hm
  have htok := hm.tok
  have hfew : (Cx.mk ts fin false).ts.length ≤ 4000 := hm.few
  clear hm
  have HV : Hid (itemP (Cx.mk ts fin false) q = fstP (letP (Cx.mk ts fin false) q)) := by show itemP (Cx.mk ts fin false) q = _; rw [itemP, h0, h1, h2]; rfl
  unfold pv
  go_enter Try.func48, Try.ntmps48
  go_wp2_with fail
  refine (is_spec (Cx.mk ts fin false) gt cap base S q (-1) 0 1 sImport _ (ownT_alloc (ownT_alloc htok _) _) hfew (by decide)).mono ?_
  rintro e w1 ⟨rfl, hb1⟩
  rw [h0]
  obtain ⟨X0, X1, m1, t1⟩ := HM.out.two hb1
  have hX0 := hidI X0
  have hX1 := hidI X1
  have hm1 := hidI m1
  have ht1 := hidI t1
  clear X0 X1 m1 t1 hb1
  clear htok
  obtain ⟨a0, a1, a2, a3, a4, a5, a6, a7, a8, a9, a10, a11, af⟩ := hX0.out.box
  go_wp2_with fail
  refine (is_spec (Cx.mk ts fin false) gt cap base S q (-1) 0 1 sExport _ hm1.out.tok hfew (by decide)).mono ?_
  rintro e w2 ⟨rfl, hb2⟩
  rw [h1]
  replace hX0 := hidI (hX0.out.below hb2)
  replace hX1 := hidI (hX1.out.below hb2)
  have ht2 := hidI (ht1.out.below hb2)
  have hm2 := hidI (hm1.out.later hb2)
  clear hb2 ht1 hm1
  clear a0 a1 a2 a3 a4 a5 a6 a7 a8 a9 a10 a11 af
  obtain ⟨a0, a1, a2, a3, a4, a5, a6, a7, a8, a9, a10, a11, af⟩ := hX0.out.box
  go_wp2_with fail
  refine (is_spec (Cx.mk ts fin false) gt cap base S q (-1) 0 1 sLet _ hm2.out.tok hfew (by decide)).mono ?_
  rintro e w3 ⟨rfl, hb3⟩
  rw [h2]
  replace hX0 := hidI (hX0.out.below hb3)
  replace hX1 := hidI (hX1.out.below hb3)
  have ht3 := hidI (ht2.out.below hb3)
  have hm3 := hidI (hm2.out.later hb3)
  clear hb3 ht2 hm2
  clear a0 a1 a2 a3 a4 a5 a6 a7 a8 a9 a10 a11 af
  obtain ⟨a0, a1, a2, a3, a4, a5, a6, a7, a8, a9, a10, a11, af⟩ := hX0.out.box
  go_wp2_with fail
  refine (l4Let_spec (Cx.mk ts fin false) gt cap base S q _ hm3.out).mono ?_
  rintro e w4 ⟨S4, q4, z4, n4, rfl, i4, m4, s4⟩
  replace hX0 := hidI (hX0.out.stp s4)
  replace hX1 := hidI (hX1.out.stp s4)
  have ht4 := hidI (ht3.out.step s4)
  clear ht3
  have hm4 := hidI m4
  have hi4 := hidI i4
  clear i4 m4 s4 hm3
  clear a0 a1 a2 a3 a4 a5 a6 a7 a8 a9 a10 a11 af
  have hlt2 : w.heap.size + 1 < w4.heap.size := hX1.out.lt
  unfold pv
  go_upto_region 7 with fail
  refine world_any (R := fun W => Bx gt S4 W (w.heap.size) _ ∧ Bx gt S4 W (w.heap.size + 1) _ ∧ Bx gt S4 W (w4.heap.size) _ ∧ Mem (Cx.mk ts fin false) gt cap base S4 q4 W ∧ SB w.heap.size S w S4 W) ⟨(hX0.out.alloc _), (hX1.out.alloc _), (Bx.new hm4.out _), (hm4.out.alloc _), (ht4.out.alloc _)⟩ ?_
  clear hX0 hX1 ht4 hm4
  rintro w5 ⟨X0, X1, X2, m5, t5⟩
  have hX0 := hidI X0
  have hX1 := hidI X1
  have hX2 := hidI X2
  have hm5 := hidI m5
  have ht5 := hidI t5
  clear m5 t5 X0 X1 X2
  obtain ⟨b0, b1, b2, b3, b4, b5, b6, b7, b8, b9, b10, b11, bf⟩ := hX1.out.box
  obtain ⟨c0, c1, c2, c3, c4, c5, c6, c7, c8, c9, c10, c11, cf⟩ := hX2.out.box
  go_wp2
  refine bodyPost_ret (results_cell_row rfl _ _ (w.heap.size + 1) 87 _ (0, 0) _ rfl ((hX1.out.put _ _ _ _ _ _ _ _ _ _ _ _)).heap Try.underlying87 rfl (by kernel_rfl)) rfl ?_
  rw [HV.out]
  exact out_done rfl hi4.out.fst (hm5.out.put hX1.out _ _ _ _ _ _ _ _ _ _ _ _) (ht5.out.put (by omega) _ _ _ _ _ _ _ _ _ _ _ _)
set_option maxRecDepth 100000 in
set_option maxHeartbeats 6400000 in
theorem l4Item_sfunction_false (ts : List Tk) (fin : Nat) (gt cap base : Nat) (S : Sv) (q : PS) (w : World) (hm : Mem (Cx.mk ts fin false) gt cap base S q w) (h0 : isT (Cx.mk ts fin false) q.pos 1 sImport = false) (h1 : isT (Cx.mk ts fin false) q.pos 1 sExport = false) (h2 : isT (Cx.mk ts fin false) q.pos 1 sLet = false) (h3 : isT (Cx.mk ts fin false) q.pos 1 sFunction = true) :
    Calls Try.prog 48 #[pv (Cx.mk ts fin false) gt cap S q (-1) 0] w (Out (Cx.mk ts fin false) gt cap base (itemP (Cx.mk ts fin false) q) 0 S w) := by
  have HM := hidI hm
  have htok := hm.tok
  have hfew : (Cx.mk ts fin false).ts.length ≤ 4000 := hm.few
  clear hm
  have HV : Hid (itemP (Cx.mk ts fin false) q = fstP (fnP (Cx.mk ts fin false) q)) := by show itemP (Cx.mk ts fin false) q = _; rw [itemP, h0, h1, h2, h3]; rfl
  unfold pv
  go_enter Try.func48, Try.ntmps48
  go_wp2_with fail
  refine (is_spec (Cx.mk ts fin false) gt cap base S q (-1) 0 1 sImport _ (ownT_alloc (ownT_alloc htok _) _) hfew (by decide)).mono ?_
  rintro e w1 ⟨rfl, hb1⟩
  rw [h0]
  obtain ⟨X0, X1, m1, t1⟩ := HM.out.two hb1
  have hX0 := hidI X0
  have hX1 := hidI X1
  have hm1 := hidI m1
  have ht1 := hidI t1
  clear X0 X1 m1 t1 hb1
  clear htok
  obtain ⟨a0, a1, a2, a3, a4, a5, a6, a7, a8, a9, a10, a11, af⟩ := hX0.out.box
  go_wp2_with fail
  refine (is_spec (Cx.mk ts fin false) gt cap base S q (-1) 0 1 sExport _ hm1.out.tok hfew (by decide)).mono ?_
  rintro e w2 ⟨rfl, hb2⟩
  rw [h1]
  replace hX0 := hidI (hX0.out.below hb2)
  replace hX1 := hidI (hX1.out.below hb2)
  have ht2 := hidI (ht1.out.below hb2)
  have hm2 := hidI (hm1.out.later hb2)
  clear hb2 ht1 hm1
  clear a0 a1 a2 a3 a4 a5 a6 a7 a8 a9 a10 a11 af
  obtain ⟨a0, a1, a2, a3, a4, a5, a6, a7, a8, a9, a10, a11, af⟩ := hX0.out.box
  go_wp2_with fail
  refine (is_spec (Cx.mk ts fin false) gt cap base S q (-1) 0 1 sLet _ hm2.out.tok hfew (by decide)).mono ?_
  rintro e w3 ⟨rfl, hb3⟩
  rw [h2]
  replace hX0 := hidI (hX0.out.below hb3)
  replace hX1 := hidI (hX1.out.below hb3)
  have ht3 := hidI (ht2.out.below hb3)
  have hm3 := hidI (hm2.out.later hb3)
  clear hb3 ht2 hm2
  clear a0 a1 a2 a3 a4 a5 a6 a7 a8 a9 a10 a11 af
  obtain ⟨a0, a1, a2, a3, a4, a5, a6, a7, a8, a9, a10, a11, af⟩ := hX0.out.box
  go_wp2_with fail
  refine (is_spec (Cx.mk ts fin false) gt cap base S q (-1) 0 1 sFunction _ hm3.out.tok hfew (by decide)).mono ?_
  rintro e w4 ⟨rfl, hb4⟩
  rw [h3]
  replace hX0 := hidI (hX0.out.below hb4)
  replace hX1 := hidI (hX1.out.below hb4)
  have ht4 := hidI (ht3.out.below hb4)
  have hm4 := hidI (hm3.out.later hb4)
  clear hb4 ht3 hm3
  clear a0 a1 a2 a3 a4 a5 a6 a7 a8 a9 a10 a11 af
  obtain ⟨a0, a1, a2, a3, a4, a5, a6, a7, a8, a9, a10, a11, af⟩ := hX0.out.box
  go_wp2_with fail
  refine (l4Fn_spec (Cx.mk ts fin false) gt cap base S q _ hm4.out).mono ?_
  rintro e w5 ⟨S5, q5, z5, n5, rfl, i5, m5, s5⟩
  replace hX0 := hidI (hX0.out.stp s5)
  replace hX1 := hidI (hX1.out.stp s5)
  have ht5 := hidI (ht4.out.step s5)
  clear ht4
  have hm5 := hidI m5
  have hi5 := hidI i5
  clear i5 m5 s5 hm4
  clear a0 a1 a2 a3 a4 a5 a6 a7 a8 a9 a10 a11 af
  have hlt2 : w.heap.size + 1 < w5.heap.size := hX1.out.lt
  unfold pv
  go_upto_region 10 with fail
  refine world_any (R := fun W => Bx gt S5 W (w.heap.size) _ ∧ Bx gt S5 W (w.heap.size + 1) _ ∧ Bx gt S5 W (w5.heap.size) _ ∧ Mem (Cx.mk ts fin false) gt cap base S5 q5 W ∧ SB w.heap.size S w S5 W) ⟨(hX0.out.alloc _), (hX1.out.alloc _), (Bx.new hm5.out _), (hm5.out.alloc _), (ht5.out.alloc _)⟩ ?_
  clear hX0 hX1 ht5 hm5
  rintro w6 ⟨X0, X1, X2, m6, t6⟩
  have hX0 := hidI X0
  have hX1 := hidI X1
  have hX2 := hidI X2
  have hm6 := hidI m6
  have ht6 := hidI t6
  clear m6 t6 X0 X1 X2
  obtain ⟨b0, b1, b2, b3, b4, b5, b6, b7, b8, b9, b10, b11, bf⟩ := hX1.out.box
  obtain ⟨c0, c1, c2, c3, c4, c5, c6, c7, c8, c9, c10, c11, cf⟩ := hX2.out.box
  go_wp2
  refine bodyPost_ret (results_cell_row rfl _ _ (w.heap.size + 1) 87 _ (0, 0) _ rfl ((hX1.out.put _ _ _ _ _ _ _ _ _ _ _ _)).heap Try.underlying87 rfl (by kernel_rfl)) rfl ?_
  rw [HV.out]
  exact out_done rfl hi5.out.fst (hm6.out.put hX1.out _ _ _ _ _ _ _ _ _ _ _ _) (ht6.out.put (by omega) _ _ _ _ _ _ _ _ _ _ _ _)
set_option maxRecDepth 100000 in
set_option maxHeartbeats 6400000 in
theorem l4Item_sprint_false (ts : List Tk) (fin : Nat) (gt cap base : Nat) (S : Sv) (q : PS) (w : World) (hm : Mem (Cx.mk ts fin false) gt cap base S q w) (h0 : isT (Cx.mk ts fin false) q.pos 1 sImport = false) (h1 : isT (Cx.mk ts fin false) q.pos 1 sExport = false) (h2 : isT (Cx.mk ts fin false) q.pos 1 sLet = false) (h3 : isT (Cx.mk ts fin false) q.pos 1 sFunction = false) (h4 : isT (Cx.mk ts fin false) q.pos 1 sPrint = true) :
    Calls Try.prog 48 #[pv (Cx.mk ts fin false) gt cap S q (-1) 0] w (Out (Cx.mk ts fin false) gt cap base (itemP (Cx.mk ts fin false) q) 0 S w) := by
  have HM := hidI hm
  have htok := hm.tok
  have hfew : (Cx.mk ts fin false).ts.length ≤ 4000 := hm.few
  clear hm
  have HV : Hid (itemP (Cx.mk ts fin false) q = bd (bd (bd (bd (bd (bd (.ok q) (tokP (Cx.mk ts fin false) 1 sPrint)) (tokP (Cx.mk ts fin false) 4 cOpen)) (pE (Cx.mk ts fin false) .sum 0)) (tokP (Cx.mk ts fin false) 4 cShut)) (tokP (Cx.mk ts fin false) 4 cSemi)) (addSt (Cx.mk ts fin false) 4 sNone)) := by show itemP (Cx.mk ts fin false) q = _; rw [itemP, h0, h1, h2, h3, h4]; rfl
  unfold pv
  go_enter Try.func48, Try.ntmps48
  go_wp2_with fail
  refine (is_spec (Cx.mk ts fin false) gt cap base S q (-1) 0 1 sImport _ (ownT_alloc (ownT_alloc htok _) _) hfew (by decide)).mono ?_
  rintro e w1 ⟨rfl, hb1⟩
  rw [h0]
  obtain ⟨X0, X1, m1, t1⟩ := HM.out.two hb1
  have hX0 := hidI X0
  have hX1 := hidI X1
  have hm1 := hidI m1
  have ht1 := hidI t1
  clear X0 X1 m1 t1 hb1
  clear htok
  obtain ⟨a0, a1, a2, a3, a4, a5, a6, a7, a8, a9, a10, a11, af⟩ := hX0.out.box
  go_wp2_with fail
  refine (is_spec (Cx.mk ts fin false) gt cap base S q (-1) 0 1 sExport _ hm1.out.tok hfew (by decide)).mono ?_
  rintro e w2 ⟨rfl, hb2⟩
  rw [h1]
  replace hX0 := hidI (hX0.out.below hb2)
  replace hX1 := hidI (hX1.out.below hb2)
  have ht2 := hidI (ht1.out.below hb2)
  have hm2 := hidI (hm1.out.later hb2)
  clear hb2 ht1 hm1
  clear a0 a1 a2 a3 a4 a5 a6 a7 a8 a9 a10 a11 af
  obtain ⟨a0, a1, a2, a3, a4, a5, a6, a7, a8, a9, a10, a11, af⟩ := hX0.out.box
  go_wp2_with fail
  refine (is_spec (Cx.mk ts fin false) gt cap base S q (-1) 0 1 sLet _ hm2.out.tok hfew (by decide)).mono ?_
  rintro e w3 ⟨rfl, hb3⟩
  rw [h2]
  replace hX0 := hidI (hX0.out.below hb3)
  replace hX1 := hidI (hX1.out.below hb3)
  have ht3 := hidI (ht2.out.below hb3)
  have hm3 := hidI (hm2.out.later hb3)
  clear hb3 ht2 hm2
  clear a0 a1 a2 a3 a4 a5 a6 a7 a8 a9 a10 a11 af
  obtain ⟨a0, a1, a2, a3, a4, a5, a6, a7, a8, a9, a10, a11, af⟩ := hX0.out.box
  go_wp2_with fail
  refine (is_spec (Cx.mk ts fin false) gt cap base S q (-1) 0 1 sFunction _ hm3.out.tok hfew (by decide)).mono ?_
  rintro e w4 ⟨rfl, hb4⟩
  rw [h3]
  replace hX0 := hidI (hX0.out.below hb4)
  replace hX1 := hidI (hX1.out.below hb4)
  have ht4 := hidI (ht3.out.below hb4)
  have hm4 := hidI (hm3.out.later hb4)
  clear hb4 ht3 hm3
  clear a0 a1 a2 a3 a4 a5 a6 a7 a8 a9 a10 a11 af
  obtain ⟨a0, a1, a2, a3, a4, a5, a6, a7, a8, a9, a10, a11, af⟩ := hX0.out.box
  go_wp2_with fail
  refine (is_spec (Cx.mk ts fin false) gt cap base S q (-1) 0 1 sPrint _ hm4.out.tok hfew (by decide)).mono ?_
  rintro e w5 ⟨rfl, hb5⟩
  rw [h4]
  replace hX0 := hidI (hX0.out.below hb5)
  replace hX1 := hidI (hX1.out.below hb5)
  have ht5 := hidI (ht4.out.below hb5)
  have hm5 := hidI (hm4.out.later hb5)
  clear hb5 ht4 hm4
  clear a0 a1 a2 a3 a4 a5 a6 a7 a8 a9 a10 a11 af
  obtain ⟨a0, a1, a2, a3, a4, a5, a6, a7, a8, a9, a10, a11, af⟩ := hX0.out.box
  go_wp2_with fail
  refine (l4Word_spec (Cx.mk ts fin false) gt cap base (.ok q) S q (-1) 0 sPrint _ (is_ok q) hm5.out).mono ?_
  rintro e w6 ⟨S6, q6, z6, rfl, i6, m6, s6⟩
  replace hX0 := hidI (hX0.out.stp s6)
  replace hX1 := hidI (hX1.out.stp s6)
  have ht6 := hidI (ht5.out.step s6)
  clear ht5
  have hm6 := hidI m6
  have hi6 := hidI i6
  clear i6 m6 s6 hm5
  clear a0 a1 a2 a3 a4 a5 a6 a7 a8 a9 a10 a11 af
  go_wp2_with fail
  refine (l4Sign_spec (Cx.mk ts fin false) gt cap base _ S6 q6 z6 0 cOpen _ hi6.out hm6.out).mono ?_
  rintro e w7 ⟨S7, q7, z7, rfl, i7, m7, s7⟩
  replace hX0 := hidI (hX0.out.stp s7)
  replace hX1 := hidI (hX1.out.stp s7)
  have ht7 := hidI (ht6.out.step s7)
  clear ht6
  have hm7 := hidI m7
  have hi7 := hidI i7
  clear i7 m7 s7 hm6
  go_wp2_with fail
  refine (l4Sum_spec (Cx.mk ts fin false) gt cap base _ S7 q7 z7 _ hi7.out hm7.out).mono ?_
  rintro e w8 ⟨S8, q8, z8, rfl, i8, m8, s8⟩
  replace hX0 := hidI (hX0.out.stp s8)
  replace hX1 := hidI (hX1.out.stp s8)
  have ht8 := hidI (ht7.out.step s8)
  clear ht7
  have hm8 := hidI m8
  have hi8 := hidI i8
  clear i8 m8 s8 hm7
  go_wp2_with fail
  refine (l4Sign_spec (Cx.mk ts fin false) gt cap base _ S8 q8 z8 0 cShut _ hi8.out hm8.out).mono ?_
  rintro e w9 ⟨S9, q9, z9, rfl, i9, m9, s9⟩
  replace hX0 := hidI (hX0.out.stp s9)
  replace hX1 := hidI (hX1.out.stp s9)
  have ht9 := hidI (ht8.out.step s9)
  clear ht8
  have hm9 := hidI m9
  have hi9 := hidI i9
  clear i9 m9 s9 hm8
  have hlt2 : w.heap.size + 1 < w9.heap.size := hX1.out.lt
  unfold pv
  go_upto_region 13 with fail
  refine world_any (R := fun W => Bx gt S9 W (w.heap.size) _ ∧ Bx gt S9 W (w.heap.size + 1) _ ∧ Bx gt S9 W (w9.heap.size) _ ∧ Mem (Cx.mk ts fin false) gt cap base S9 q9 W ∧ SB w.heap.size S w S9 W) ⟨(hX0.out.alloc _), (hX1.out.alloc _), (Bx.new hm9.out _), (hm9.out.alloc _), (ht9.out.alloc _)⟩ ?_
  clear hX0 hX1 ht9 hm9
  rintro w10 ⟨X0, X1, X2, m10, t10⟩
  have hX0 := hidI X0
  have hX1 := hidI X1
  have hX2 := hidI X2
  have hm10 := hidI m10
  have ht10 := hidI t10
  clear m10 t10 X0 X1 X2
  obtain ⟨c0, c1, c2, c3, c4, c5, c6, c7, c8, c9, c10, c11, cf⟩ := hX2.out.box
  go_wp2_with fail
  refine (l4Sign_spec (Cx.mk ts fin false) gt cap base _ S9 q9 z9 0 cSemi _ hi9.out hm10.out).mono ?_
  rintro e w11 ⟨S11, q11, z11, rfl, i11, m11, s11⟩
  replace hX0 := hidI (hX0.out.stp s11)
  replace hX1 := hidI (hX1.out.stp s11)
  replace hX2 := hidI (hX2.out.stp s11)
  have ht11 := hidI (ht10.out.step s11)
  clear ht10
  have hm11 := hidI m11
  have hi11 := hidI i11
  clear i11 m11 s11 hm10
  clear c0 c1 c2 c3 c4 c5 c6 c7 c8 c9 c10 c11 cf
  go_wp2_with fail
  refine (l4Stmt_spec (Cx.mk ts fin false) gt cap base _ S11 q11 z11 0 4 sNone _ hi11.out hm11.out (pos_tok hi11.out)).mono ?_
  rintro e w12 ⟨S12, q12, z12, rfl, i12, m12, s12⟩
  replace hX0 := hidI (hX0.out.stp s12)
  replace hX1 := hidI (hX1.out.stp s12)
  replace hX2 := hidI (hX2.out.stp s12)
  have ht12 := hidI (ht11.out.step s12)
  clear ht11
  have hm12 := hidI m12
  have hi12 := hidI i12
  clear i12 m12 s12 hm11
  obtain ⟨b0, b1, b2, b3, b4, b5, b6, b7, b8, b9, b10, b11, bf⟩ := hX1.out.box
  unfold pv
  go_wp2
  refine bodyPost_ret (results_cell_row rfl _ _ (w.heap.size + 1) 87 _ (0, 0) _ rfl ((hX1.out.put _ _ _ _ _ _ _ _ _ _ _ _)).heap Try.underlying87 rfl (by kernel_rfl)) rfl ?_
  rw [HV.out]
  exact out_done rfl hi12.out (hm12.out.put hX1.out _ _ _ _ _ _ _ _ _ _ _ _) (ht12.out.put (by omega) _ _ _ _ _ _ _ _ _ _ _ _)
set_option maxRecDepth 100000 in
set_option maxHeartbeats 6400000 in
theorem l4Item_sthrow_false (ts : List Tk) (fin : Nat) (gt cap base : Nat) (S : Sv) (q : PS) (w : World) (hm : Mem (Cx.mk ts fin false) gt cap base S q w) (h0 : isT (Cx.mk ts fin false) q.pos 1 sImport = false) (h1 : isT (Cx.mk ts fin false) q.pos 1 sExport = false) (h2 : isT (Cx.mk ts fin false) q.pos 1 sLet = false) (h3 : isT (Cx.mk ts fin false) q.pos 1 sFunction = false) (h4 : isT (Cx.mk ts fin false) q.pos 1 sPrint = false) (h5 : isT (Cx.mk ts fin false) q.pos 1 sThrow = true) :
    Calls Try.prog 48 #[pv (Cx.mk ts fin false) gt cap S q (-1) 0] w (Out (Cx.mk ts fin false) gt cap base (itemP (Cx.mk ts fin false) q) 0 S w) := by
  have HM := hidI hm
  have htok := hm.tok
  have hfew : (Cx.mk ts fin false).ts.length ≤ 4000 := hm.few
  clear hm
  have HV : Hid (itemP (Cx.mk ts fin false) q = bd (bd (bd (bd (.ok q) (tokP (Cx.mk ts fin false) 1 sThrow)) (pE (Cx.mk ts fin false) .sum 0)) (tokP (Cx.mk ts fin false) 4 cSemi)) (addSt (Cx.mk ts fin false) 5 sNone)) := by show itemP (Cx.mk ts fin false) q = _; rw [itemP, h0, h1, h2, h3, h4, h5]; rfl
  unfold pv
  go_enter Try.func48, Try.ntmps48
  go_wp2_with fail
  refine (is_spec (Cx.mk ts fin false) gt cap base S q (-1) 0 1 sImport _ (ownT_alloc (ownT_alloc htok _) _) hfew (by decide)).mono ?_
  rintro e w1 ⟨rfl, hb1⟩
  rw [h0]
  obtain ⟨X0, X1, m1, t1⟩ := HM.out.two hb1
  have hX0 := hidI X0
  have hX1 := hidI X1
  have hm1 := hidI m1
  have ht1 := hidI t1
  clear X0 X1 m1 t1 hb1
  clear htok
  obtain ⟨a0, a1, a2, a3, a4, a5, a6, a7, a8, a9, a10, a11, af⟩ := hX0.out.box
  go_wp2_with fail
  refine (is_spec (Cx.mk ts fin false) gt cap base S q (-1) 0 1 sExport _ hm1.out.tok hfew (by decide)).mono ?_
  rintro e w2 ⟨rfl, hb2⟩
  rw [h1]
  replace hX0 := hidI (hX0.out.below hb2)
  replace hX1 := hidI (hX1.out.below hb2)
  have ht2 := hidI (ht1.out.below hb2)
  have hm2 := hidI (hm1.out.later hb2)
  clear hb2 ht1 hm1
  clear a0 a1 a2 a3 a4 a5 a6 a7 a8 a9 a10 a11 af
  obtain ⟨a0, a1, a2, a3, a4, a5, a6, a7, a8, a9, a10, a11, af⟩ := hX0.out.box
  go_wp2_with fail
  refine (is_spec (Cx.mk ts fin false) gt cap base S q (-1) 0 1 sLet _ hm2.out.tok hfew (by decide)).mono ?_
  rintro e w3 ⟨rfl, hb3⟩
  rw [h2]
  replace hX0 := hidI (hX0.out.below hb3)
  replace hX1 := hidI (hX1.out.below hb3)
  have ht3 := hidI (ht2.out.below hb3)
  have hm3 := hidI (hm2.out.later hb3)
  clear hb3 ht2 hm2
  clear a0 a1 a2 a3 a4 a5 a6 a7 a8 a9 a10 a11 af
  obtain ⟨a0, a1, a2, a3, a4, a5, a6, a7, a8, a9, a10, a11, af⟩ := hX0.out.box
  go_wp2_with fail
  refine (is_spec (Cx.mk ts fin false) gt cap base S q (-1) 0 1 sFunction _ hm3.out.tok hfew (by decide)).mono ?_
  rintro e w4 ⟨rfl, hb4⟩
  rw [h3]
  replace hX0 := hidI (hX0.out.below hb4)
  replace hX1 := hidI (hX1.out.below hb4)
  have ht4 := hidI (ht3.out.below hb4)
  have hm4 := hidI (hm3.out.later hb4)
  clear hb4 ht3 hm3
  clear a0 a1 a2 a3 a4 a5 a6 a7 a8 a9 a10 a11 af
  obtain ⟨a0, a1, a2, a3, a4, a5, a6, a7, a8, a9, a10, a11, af⟩ := hX0.out.box
  go_wp2_with fail
  refine (is_spec (Cx.mk ts fin false) gt cap base S q (-1) 0 1 sPrint _ hm4.out.tok hfew (by decide)).mono ?_
  rintro e w5 ⟨rfl, hb5⟩
  rw [h4]
  replace hX0 := hidI (hX0.out.below hb5)
  replace hX1 := hidI (hX1.out.below hb5)
  have ht5 := hidI (ht4.out.below hb5)
  have hm5 := hidI (hm4.out.later hb5)
  clear hb5 ht4 hm4
  clear a0 a1 a2 a3 a4 a5 a6 a7 a8 a9 a10 a11 af
  obtain ⟨a0, a1, a2, a3, a4, a5, a6, a7, a8, a9, a10, a11, af⟩ := hX0.out.box
  go_wp2_with fail
  refine (is_spec (Cx.mk ts fin false) gt cap base S q (-1) 0 1 sThrow _ hm5.out.tok hfew (by decide)).mono ?_
  rintro e w6 ⟨rfl, hb6⟩
  rw [h5]
  replace hX0 := hidI (hX0.out.below hb6)
  replace hX1 := hidI (hX1.out.below hb6)
  have ht6 := hidI (ht5.out.below hb6)
  have hm6 := hidI (hm5.out.later hb6)
  clear hb6 ht5 hm5
  clear a0 a1 a2 a3 a4 a5 a6 a7 a8 a9 a10 a11 af
  obtain ⟨a0, a1, a2, a3, a4, a5, a6, a7, a8, a9, a10, a11, af⟩ := hX0.out.box
  go_wp2_with fail
  refine (l4Word_spec (Cx.mk ts fin false) gt cap base (.ok q) S q (-1) 0 sThrow _ (is_ok q) hm6.out).mono ?_
  rintro e w7 ⟨S7, q7, z7, rfl, i7, m7, s7⟩
  replace hX0 := hidI (hX0.out.stp s7)
  replace hX1 := hidI (hX1.out.stp s7)
  have ht7 := hidI (ht6.out.step s7)
  clear ht6
  have hm7 := hidI m7
  have hi7 := hidI i7
  clear i7 m7 s7 hm6
  clear a0 a1 a2 a3 a4 a5 a6 a7 a8 a9 a10 a11 af
  go_wp2_with fail
  refine (l4Sum_spec (Cx.mk ts fin false) gt cap base _ S7 q7 z7 _ hi7.out hm7.out).mono ?_
  rintro e w8 ⟨S8, q8, z8, rfl, i8, m8, s8⟩
  replace hX0 := hidI (hX0.out.stp s8)
  replace hX1 := hidI (hX1.out.stp s8)
  have ht8 := hidI (ht7.out.step s8)
  clear ht7
  have hm8 := hidI m8
  have hi8 := hidI i8
  clear i8 m8 s8 hm7
  go_wp2_with fail
  refine (l4Sign_spec (Cx.mk ts fin false) gt cap base _ S8 q8 z8 0 cSemi _ hi8.out hm8.out).mono ?_
  rintro e w9 ⟨S9, q9, z9, rfl, i9, m9, s9⟩
  replace hX0 := hidI (hX0.out.stp s9)
  replace hX1 := hidI (hX1.out.stp s9)
  have ht9 := hidI (ht8.out.step s9)
  clear ht8
  have hm9 := hidI m9
  have hi9 := hidI i9
  clear i9 m9 s9 hm8
  go_wp2_with fail
  refine (l4Stmt_spec (Cx.mk ts fin false) gt cap base _ S9 q9 z9 0 5 sNone _ hi9.out hm9.out (pos_tok hi9.out)).mono ?_
  rintro e w10 ⟨S10, q10, z10, rfl, i10, m10, s10⟩
  replace hX0 := hidI (hX0.out.stp s10)
  replace hX1 := hidI (hX1.out.stp s10)
  have ht10 := hidI (ht9.out.step s10)
  clear ht9
  have hm10 := hidI m10
  have hi10 := hidI i10
  clear i10 m10 s10 hm9
  obtain ⟨b0, b1, b2, b3, b4, b5, b6, b7, b8, b9, b10, b11, bf⟩ := hX1.out.box
  unfold pv
  go_wp2
  refine bodyPost_ret (results_cell_row rfl _ _ (w.heap.size + 1) 87 _ (0, 0) _ rfl ((hX1.out.put _ _ _ _ _ _ _ _ _ _ _ _)).heap Try.underlying87 rfl (by kernel_rfl)) rfl ?_
  rw [HV.out]
  exact out_done rfl hi10.out (hm10.out.put hX1.out _ _ _ _ _ _ _ _ _ _ _ _) (ht10.out.put (by omega) _ _ _ _ _ _ _ _ _ _ _ _)
set_option maxRecDepth 100000 in
set_option maxHeartbeats 6400000 in
theorem l4Item_set_false (ts : List Tk) (fin : Nat) (gt cap base : Nat) (S : Sv) (q : PS) (w : World) (hm : Mem (Cx.mk ts fin false) gt cap base S q w) (h0 : isT (Cx.mk ts fin false) q.pos 1 sImport = false) (h1 : isT (Cx.mk ts fin false) q.pos 1 sExport = false) (h2 : isT (Cx.mk ts fin false) q.pos 1 sLet = false) (h3 : isT (Cx.mk ts fin false) q.pos 1 sFunction = false) (h4 : isT (Cx.mk ts fin false) q.pos 1 sPrint = false) (h5 : isT (Cx.mk ts fin false) q.pos 1 sThrow = false) :
    Calls Try.prog 48 #[pv (Cx.mk ts fin false) gt cap S q (-1) 0] w (Out (Cx.mk ts fin false) gt cap base (itemP (Cx.mk ts fin false) q) 0 S w) := by
  have HM := hidI hm
  have htok := hm.tok
  have hfew : (Cx.mk ts fin false).ts.length ≤ 4000 := hm.few
  clear hm
  have HV : Hid (itemP (Cx.mk ts fin false) q = bd (bd (.ok q) (nameP (Cx.mk ts fin false) false)) fun a => bd (bd (bd (bd (.ok a.1) (tokP (Cx.mk ts fin false) 4 cEq)) (pE (Cx.mk ts fin false) .sum 0)) (tokP (Cx.mk ts fin false) 4 cSemi)) (addSt (Cx.mk ts fin false) 3 a.2)) := by show itemP (Cx.mk ts fin false) q = _; rw [itemP, h0, h1, h2, h3, h4, h5]; rfl
  unfold pv
  go_enter Try.func48, Try.ntmps48
  go_wp2_with fail
  refine (is_spec (Cx.mk ts fin false) gt cap base S q (-1) 0 1 sImport _ (ownT_alloc (ownT_alloc htok _) _) hfew (by decide)).mono ?_
  rintro e w1 ⟨rfl, hb1⟩
  rw [h0]
  obtain ⟨X0, X1, m1, t1⟩ := HM.out.two hb1
  have hX0 := hidI X0
  have hX1 := hidI X1
  have hm1 := hidI m1
  have ht1 := hidI t1
  clear X0 X1 m1 t1 hb1
  clear htok
  obtain ⟨a0, a1, a2, a3, a4, a5, a6, a7, a8, a9, a10, a11, af⟩ := hX0.out.box
  go_wp2_with fail
  refine (is_spec (Cx.mk ts fin false) gt cap base S q (-1) 0 1 sExport _ hm1.out.tok hfew (by decide)).mono ?_
  rintro e w2 ⟨rfl, hb2⟩
  rw [h1]
  replace hX0 := hidI (hX0.out.below hb2)
  replace hX1 := hidI (hX1.out.below hb2)
  have ht2 := hidI (ht1.out.below hb2)
  have hm2 := hidI (hm1.out.later hb2)
  clear hb2 ht1 hm1
  clear a0 a1 a2 a3 a4 a5 a6 a7 a8 a9 a10 a11 af
  obtain ⟨a0, a1, a2, a3, a4, a5, a6, a7, a8, a9, a10, a11, af⟩ := hX0.out.box
  go_wp2_with fail
  refine (is_spec (Cx.mk ts fin false) gt cap base S q (-1) 0 1 sLet _ hm2.out.tok hfew (by decide)).mono ?_
  rintro e w3 ⟨rfl, hb3⟩
  rw [h2]
  replace hX0 := hidI (hX0.out.below hb3)
  replace hX1 := hidI (hX1.out.below hb3)
  have ht3 := hidI (ht2.out.below hb3)
  have hm3 := hidI (hm2.out.later hb3)
  clear hb3 ht2 hm2
  clear a0 a1 a2 a3 a4 a5 a6 a7 a8 a9 a10 a11 af
  obtain ⟨a0, a1, a2, a3, a4, a5, a6, a7, a8, a9, a10, a11, af⟩ := hX0.out.box
  go_wp2_with fail
  refine (is_spec (Cx.mk ts fin false) gt cap base S q (-1) 0 1 sFunction _ hm3.out.tok hfew (by decide)).mono ?_
  rintro e w4 ⟨rfl, hb4⟩
  rw [h3]
  replace hX0 := hidI (hX0.out.below hb4)
  replace hX1 := hidI (hX1.out.below hb4)
  have ht4 := hidI (ht3.out.below hb4)
  have hm4 := hidI (hm3.out.later hb4)
  clear hb4 ht3 hm3
  clear a0 a1 a2 a3 a4 a5 a6 a7 a8 a9 a10 a11 af
  obtain ⟨a0, a1, a2, a3, a4, a5, a6, a7, a8, a9, a10, a11, af⟩ := hX0.out.box
  go_wp2_with fail
  refine (is_spec (Cx.mk ts fin false) gt cap base S q (-1) 0 1 sPrint _ hm4.out.tok hfew (by decide)).mono ?_
  rintro e w5 ⟨rfl, hb5⟩
  rw [h4]
  replace hX0 := hidI (hX0.out.below hb5)
  replace hX1 := hidI (hX1.out.below hb5)
  have ht5 := hidI (ht4.out.below hb5)
  have hm5 := hidI (hm4.out.later hb5)
  clear hb5 ht4 hm4
  clear a0 a1 a2 a3 a4 a5 a6 a7 a8 a9 a10 a11 af
  obtain ⟨a0, a1, a2, a3, a4, a5, a6, a7, a8, a9, a10, a11, af⟩ := hX0.out.box
  go_wp2_with fail
  refine (is_spec (Cx.mk ts fin false) gt cap base S q (-1) 0 1 sThrow _ hm5.out.tok hfew (by decide)).mono ?_
  rintro e w6 ⟨rfl, hb6⟩
  rw [h5]
  replace hX0 := hidI (hX0.out.below hb6)
  replace hX1 := hidI (hX1.out.below hb6)
  have ht6 := hidI (ht5.out.below hb6)
  have hm6 := hidI (hm5.out.later hb6)
  clear hb6 ht5 hm5
  clear a0 a1 a2 a3 a4 a5 a6 a7 a8 a9 a10 a11 af
  obtain ⟨a0, a1, a2, a3, a4, a5, a6, a7, a8, a9, a10, a11, af⟩ := hX0.out.box
  go_wp2_with fail
  refine (l4Name_spec (Cx.mk ts fin false) gt cap base (.ok q) S q (-1) 0 false _ (is_ok q) hm6.out).mono ?_
  rintro e w7 ⟨S7, q7, z7, n7, rfl, i7, m7, s7⟩
  replace hX0 := hidI (hX0.out.stp s7)
  replace hX1 := hidI (hX1.out.stp s7)
  have ht7 := hidI (ht6.out.step s7)
  clear ht6
  have hm7 := hidI m7
  have hi7 := hidI i7
  clear i7 m7 s7 hm6
  clear a0 a1 a2 a3 a4 a5 a6 a7 a8 a9 a10 a11 af
  have hlt2 : w.heap.size + 1 < w7.heap.size := hX1.out.lt
  unfold pv
  go_upto_region 19 with fail
  refine world_any (R := fun W => Bx gt S7 W (w.heap.size) _ ∧ Bx gt S7 W (w.heap.size + 1) _ ∧ Bx gt S7 W (w7.heap.size) _ ∧ Mem (Cx.mk ts fin false) gt cap base S7 q7 W ∧ SB w.heap.size S w S7 W) ⟨(hX0.out.alloc _), (hX1.out.alloc _), (Bx.new hm7.out _), (hm7.out.alloc _), (ht7.out.alloc _)⟩ ?_
  clear hX0 hX1 ht7 hm7
  rintro w8 ⟨X0, X1, X2, m8, t8⟩
  have hX0 := hidI X0
  have hX1 := hidI X1
  have hX2 := hidI X2
  have hm8 := hidI m8
  have ht8 := hidI t8
  clear m8 t8 X0 X1 X2
  obtain ⟨c0, c1, c2, c3, c4, c5, c6, c7, c8, c9, c10, c11, cf⟩ := hX2.out.box
  go_wp2_with fail
  refine (l4Sign_spec (Cx.mk ts fin false) gt cap base _ S7 q7 z7 0 cEq _ hi7.out.fst hm8.out).mono ?_
  rintro e w9 ⟨S9, q9, z9, rfl, i9, m9, s9⟩
  replace hX0 := hidI (hX0.out.stp s9)
  replace hX1 := hidI (hX1.out.stp s9)
  replace hX2 := hidI (hX2.out.stp s9)
  have ht9 := hidI (ht8.out.step s9)
  clear ht8
  have hm9 := hidI m9
  have hi9 := hidI i9
  clear i9 m9 s9 hm8
  clear c0 c1 c2 c3 c4 c5 c6 c7 c8 c9 c10 c11 cf
  go_wp2_with fail
  refine (l4Sum_spec (Cx.mk ts fin false) gt cap base _ S9 q9 z9 _ hi9.out hm9.out).mono ?_
  rintro e w10 ⟨S10, q10, z10, rfl, i10, m10, s10⟩
  replace hX0 := hidI (hX0.out.stp s10)
  replace hX1 := hidI (hX1.out.stp s10)
  replace hX2 := hidI (hX2.out.stp s10)
  have ht10 := hidI (ht9.out.step s10)
  clear ht9
  have hm10 := hidI m10
  have hi10 := hidI i10
  clear i10 m10 s10 hm9
  go_wp2_with fail
  refine (l4Sign_spec (Cx.mk ts fin false) gt cap base _ S10 q10 z10 0 cSemi _ hi10.out hm10.out).mono ?_
  rintro e w11 ⟨S11, q11, z11, rfl, i11, m11, s11⟩
  replace hX0 := hidI (hX0.out.stp s11)
  replace hX1 := hidI (hX1.out.stp s11)
  replace hX2 := hidI (hX2.out.stp s11)
  have ht11 := hidI (ht10.out.step s11)
  clear ht10
  have hm11 := hidI m11
  have hi11 := hidI i11
  clear i11 m11 s11 hm10
  go_wp2_with fail
  refine (l4Stmt_spec (Cx.mk ts fin false) gt cap base _ S11 q11 z11 0 3 n7 _ hi11.out hm11.out (pos_tok hi11.out)).mono ?_
  rintro e w12 ⟨S12, q12, z12, rfl, i12, m12, s12⟩
  replace hX0 := hidI (hX0.out.stp s12)
  replace hX1 := hidI (hX1.out.stp s12)
  replace hX2 := hidI (hX2.out.stp s12)
  have ht12 := hidI (ht11.out.step s12)
  clear ht11
  have hm12 := hidI m12
  have hi12 := hidI i12
  clear i12 m12 s12 hm11
  obtain ⟨b0, b1, b2, b3, b4, b5, b6, b7, b8, b9, b10, b11, bf⟩ := hX1.out.box
  unfold pv
  go_wp2
  refine bodyPost_ret (results_cell_row rfl _ _ (w.heap.size + 1) 87 _ (0, 0) _ rfl ((hX1.out.put _ _ _ _ _ _ _ _ _ _ _ _)).heap Try.underlying87 rfl (by kernel_rfl)) rfl ?_
  rw [HV.out, ← hi7.out.bind (fun q n => bd (bd (bd (bd (.ok q) (tokP (Cx.mk ts fin false) 4 cEq)) (pE (Cx.mk ts fin false) .sum 0)) (tokP (Cx.mk ts fin false) 4 cSemi)) (addSt (Cx.mk ts fin false) 3 n)), ← set_bind]
  exact out_done rfl hi12.out (hm12.out.put hX1.out _ _ _ _ _ _ _ _ _ _ _ _) (ht12.out.put (by omega) _ _ _ _ _ _ _ _ _ _ _ _)
theorem l4Item_false (ts : List Tk) (fin : Nat) (gt cap base : Nat) (S : Sv) (q : PS) (w : World) (hm : Mem (Cx.mk ts fin false) gt cap base S q w) :
    Calls Try.prog 48 #[pv (Cx.mk ts fin false) gt cap S q (-1) 0] w (Out (Cx.mk ts fin false) gt cap base (itemP (Cx.mk ts fin false) q) 0 S w) := by
  cases h0 : isT (Cx.mk ts fin false) q.pos 1 sImport with
  | true => exact l4Item_simport_false ts fin gt cap base S q w hm h0
  | false =>
    cases h1 : isT (Cx.mk ts fin false) q.pos 1 sExport with
    | true => exact l4Item_sexport_false ts fin gt cap base S q w hm h0 h1
    | false =>
      cases h2 : isT (Cx.mk ts fin false) q.pos 1 sLet with
      | true => exact l4Item_slet_false ts fin gt cap base S q w hm h0 h1 h2
      | false =>
        cases h3 : isT (Cx.mk ts fin false) q.pos 1 sFunction with
        | true => exact l4Item_sfunction_false ts fin gt cap base S q w hm h0 h1 h2 h3
        | false =>
          cases h4 : isT (Cx.mk ts fin false) q.pos 1 sPrint with
          | true => exact l4Item_sprint_false ts fin gt cap base S q w hm h0 h1 h2 h3 h4
          | false =>
            cases h5 : isT (Cx.mk ts fin false) q.pos 1 sThrow with
            | true => exact l4Item_sthrow_false ts fin gt cap base S q w hm h0 h1 h2 h3 h4 h5
            | false =>
              exact l4Item_set_false ts fin gt cap base S q w hm h0 h1 h2 h3 h4 h5
theorem l4Item_spec (C : Cx) (gt cap base : Nat) (S : Sv) (q : PS) (w : World) (hm : Mem C gt cap base S q w) :
    Calls Try.prog 48 #[pv C gt cap S q (-1) 0] w (Out C gt cap base (itemP C q) 0 S w) := by
  obtain ⟨ts, fin, scr⟩ := C
  cases scr with
  | true => exact l4Item_true ts fin gt cap base S q w hm
  | false => exact l4Item_false ts fin gt cap base S q w hm
end Go.Proofs.Ytcmpakdfebeklaa
namespace Go.Proofs.Ytcmpakdfebeklaa
open Go.RowKit Go.PlainAid

set_option maxRecDepth 100000 in
set_option maxHeartbeats 6400000 in
theorem parse_spec (s : ByteArray) (scr : Bool) (w : World) (hs : s.size ≤ 4294967296) :
    Calls Try.prog 17 #[.string s, .bool scr] w fun e w' => ParseOut s scr w e w' ∧ Below w.heap.size w w' := by
  obtain ⟨i0, hi, hz0, hz1, hz2⟩ := info_parts Try.infoExp
  go_enter Try.func17, Try.ntmps17
  go_wp2_with fail
  refine (lex_spec s scr _ hs).mono ?_
  rintro e w1 ⟨⟨r1, hr1, hout1⟩, b1⟩
  have HB1 : Hid (Below w.heap.size w w1) := ((Below.refl _ _).alloc (Nat.le_refl _) _).trans (b1.mono (by rw [alloc_size]; omega))
  have hG : w1.heap[w.heap.size]? = some (.cells #[.slice none 0 0, .slice none 0 0, .slice none 0 0, .slice none 0 0, .slice none 0 0] 41 (0, 0)) := (b1.block _ (by rw [alloc_size]; omega)).trans (heap_alloc_new w _)
  rw [alloc_size] at b1
  cases r1 with
  | error p =>
    obtain ⟨g, cap, rfl, own0⟩ := hout1
    have HY : Hid (ParseR s scr (.error p)) := ⟨_, hr1, rfl⟩
    have HG := hidI hG
    obtain ⟨c0, c1, c2, c3, c4, cf⟩ := five_of hG
    have dz : decide ((0 : Int) ≤ (p : Int)) = true := decide_eq_true (by omega)
    clear own0 hr1 b1 hG
    go_wp2
    refine bodyPost_ret (results_cell_row_tmp rfl _ _ w.heap.size 41 _ (0, 0) _ rfl (put5 HG.out) Try.underlying41 rfl (by kernel_rfl)) rfl ?_
    exact ⟨⟨_, HY.out, rfl⟩, below5 HB1.out (Nat.le_refl _) _ _ _ _ _⟩
  | ok ts =>
    obtain ⟨g, n, cap, rfl, own0⟩ := hout1
    obtain rfl : n = ts.length := own0.2
    rw [alloc_size] at own0
    have hlt1 : w.heap.size + 1 ≤ w1.heap.size := by have := b1.size; rw [alloc_size] at this; exact this
    have hlen := lexR_len hr1
    have HR := hidI hr1
    have hM0 : Mem ⟨ts, s.size, scr⟩ g cap (w.heap.size + 1) S0 startP w1 := mem_start own0 hlen hlt1
    have HM0 := hidI hM0
    have HG := hidI hG
    clear own0 hr1 hM0 hG
    go_wp2
    go_loopg [] (ts.length + 1) (fun k wr => ∃ (x' : PR) (S' : Sv) (q' : PS) (z' : Int), Is x' q' z' ∧ bd x' (itemsP ⟨ts, s.size, scr⟩) = itemsP ⟨ts, s.size, scr⟩ startP ∧ (z' < 0 → ts.length - q'.pos < k) ∧ Mem ⟨ts, s.size, scr⟩ g cap (w.heap.size + 1) S' q' wr ∧ Below w.heap.size w wr ∧ Bx g S' wr w1.heap.size #[.slice (some ⟨g, 0, none⟩) ts.length cap, .int .i64 q'.pos, .int .i64 s.size, .bool scr, .slice S'.rq.a q'.rq.length S'.rq.cap, .slice S'.im.a q'.im.length S'.im.cap, .slice S'.ep.a q'.ep.length S'.ep.cap, .slice S'.st.a q'.st.length S'.st.cap, .slice S'.ex.a q'.ex.length S'.ex.cap, .slice S'.la.a q'.la.length S'.la.cap, .int .i64 z', .int .i64 0] ∧ wr.heap[w.heap.size]? = some (.cells #[.slice none 0 0, .slice none 0 0, .slice none 0 0, .slice none 0 0, .slice none 0 0] 41 (0, 0)))
    case atStart => exact ⟨.ok startP, S0, startP, -1, is_ok _, rfl, fun _ => by show ts.length - 0 < ts.length + 1; omega, HM0.out.alloc _, HB1.out.alloc HB1.out.size _, Bx.new HM0.out _, (Below.heap_alloc _ _ _ (by omega)).trans HG.out⟩
    case round =>
      obtain ⟨x2, S2, q2, z2, i2, e2, l2, m2, t2, X0, G2⟩ := hrel
      have hi2 := hidI i2
      have he2 := hidI e2
      have hl2 := hidI l2
      have hm2 := hidI m2
      have ht2 := hidI t2
      have hX0 := hidI X0
      have HG2 := hidI G2
      have hpl : q2.pos ≤ ts.length := m2.inv.pos
      obtain ⟨a0, a1, a2, a3, a4, a5, a6, a7, a8, a9, a10, a11, af⟩ := X0.box
      clear i2 e2 l2 m2 t2 X0 G2
      by_cases hz : z2 < 0
      · have dz : decide (z2 < 0) = true := decide_eq_true hz
        obtain ⟨rfl, rfl⟩ := is_neg hi2.out hz
        by_cases hp : q2.pos < ts.length
        · have hlk := hl2.out hz
          go_wp2_with fail
          refine (l4Item_spec ⟨ts, s.size, scr⟩ g cap (w.heap.size + 1) S2 q2 _ hm2.out).mono ?_
          rintro e w3 ⟨S3, q3, z3, rfl, i3, m3, s3⟩
          have hm3 := hidI m3
          have hi3 := hidI i3
          have hbs : Hid (Below (w.heap.size + 1) wr w3) := s3.under hm2.out.base hm2.out.own
          have hX3 : Hid (Bx g S3 w3 w1.heap.size _) := hX0.out.stp s3
          have ht3 : Hid (Below w.heap.size w w3) := ht2.out.trans (hbs.out.mono (by omega))
          have HG3 : Hid (w3.heap[w.heap.size]? = some (.cells #[.slice none 0 0, .slice none 0 0, .slice none 0 0, .slice none 0 0, .slice none 0 0] 41 (0, 0))) := (hbs.out.block _ (by omega)).trans HG2.out
          have HE : Hid (bd (itemP ⟨ts, s.size, scr⟩ q2) (itemsP ⟨ts, s.size, scr⟩) = itemsP ⟨ts, s.size, scr⟩ startP) := by
            show _ = _
            rw [← he2.out, bd_ok, itemsP_step, if_pos hp]
          have HP : Hid (z3 < 0 → q2.pos < q3.pos) := fun h => itemP_pos (is_neg hi3.out h).1
          clear i3 m3 s3 a0 a1 a2 a3 a4 a5 a6 a7 a8 a9 a10 a11 af
          obtain ⟨a0, a1, a2, a3, a4, a5, a6, a7, a8, a9, a10, a11, af⟩ := hX3.out.box
          unfold pv
          go_wp2
          go_roundg (gk - 1)
          case rel => exact ⟨_, S3, q3, z3, hi3.out, HE.out, fun h => by have := HP.out h; omega, hm3.out.put hX3.out _ _ _ _ _ _ _ _ _ _ _ _, below12 ht3.out (by omega) _ _ _ _ _ _ _ _ _ _ _ _, hX3.out.put _ _ _ _ _ _ _ _ _ _ _ _, (set12_other (by omega) _ _ _ _ _ _ _ _ _ _ _ _).trans HG3.out⟩
          case measure => omega
        · have HD : Hid (itemsP ⟨ts, s.size, scr⟩ startP = .ok q2) := by
            show _ = _
            rw [← he2.out, bd_ok, itemsP_step, if_neg hp]
          have HY : Hid (ParseR s scr (.ok q2)) := ⟨_, HR.out, HD.out.symm⟩
          have hbw : w1.heap.size < wr.heap.size := hX0.out.lt
          have hlep := hm2.out.inv.ep
          have hown := hm2.out.own.ep
          have hbs := hm2.out.base
          rcases hm2.out.own.la.nil_or with ⟨ha, hc, hn⟩ | ⟨gl, ha⟩
          · have HN : Hid (q2.la = []) := List.eq_nil_of_length_eq_zero hn
            rw [ha, hc, hn] at a9
            obtain ⟨c0, c1, c2, c3, c4, cf⟩ := five_of HG2.out
            clear ha hc hn
            go_wp2_with (at_builtin; refine app_nil _ rfl _ _ 37 rfl 50 i0 Try.underlying37 hi (w.heap.size + 1) 4 q2.ep.length S2.ep _ (by rfl) hown (by rfl) ?_)
            clear hown
            go_wp2
            refine bodyPost_ret (results_cell_row_tmp rfl _ _ w.heap.size 41 _ (0, 0) _ rfl (put5 ((pother (by omega)).trans HG2.out)) Try.underlying41 rfl (by kernel_rfl)) rfl ?_
            refine ⟨⟨_, HY.out, S2, by simp [modV, HN.out], hm2.out.whole0 HN.out (Nat.lt_succ_self _) hX0.out.free fun k h1 h2 => ?_⟩, below5 (ht2.out.setCell (by show _ ≤ w1.heap.size; omega) _) (Nat.le_refl _) _ _ _ _ _⟩
            rw [pother h1, pother h1, pother h1, pother h1, pother h1, pother h2]
          · have hla : OwnR wr (w.heap.size + 1) 50 4 ⟨some ⟨gl, 0, none⟩, S2.la.cap⟩ q2.la.length (q2.la.flatMap epL) := by have := hm2.out.own.la; unfold OwnR at this ⊢; rw [ha] at this; exact this
            rw [ha] at a9
            go_wp2_with (at_builtin; refine app_rows _ rfl _ _ 37 rfl (w.heap.size + 1) 50 i0 _ 4 56 Try.underlying37 hi hz0 hz1 hz2 rfl (by decide) (by decide) S2.ep q2.ep.length _ (by rfl) hown gl q2.la.length S2.la.cap (w.heap.size + 1) _ (by rfl) hla (eps_one _) (by omega) hbs ?_)
            intro r' w3 hr hg hat
            have HRR := hidI hr
            have HGR := hidI hg
            have HAT := hidI hat
            have hne := fun b hb => wpos (W := wr) hm2.out.own (Nat.le_refl _) (r := S2.ep.blk) (fun k e => .inr (.inr (.inl e))) b hb
            have hX3 : Hid (w3.heap[w1.heap.size]? = _) := (hg.block _ hbw (fun e => hX0.out.free (.inr (.inr (.inl e.symm))))).trans hX0.out.heap
            have HG3 : Hid (w3.heap[w.heap.size]? = _) := (hg.block _ (by omega) (fun e => by have := (hown.typed e.symm).1; omega)).trans HG2.out
            clear a0 a1 a2 a3 a4 a5 a6 a7 a8 a9 a10 a11 af hr hg hat hne hown hla
            obtain ⟨a0, a1, a2, a3, a4, a5, a6, a7, a8, a9, a10, a11, af⟩ := box_of hX3.out
            obtain ⟨c0, c1, c2, c3, c4, cf⟩ := five_of HG3.out
            go_wp2
            refine bodyPost_ret (results_cell_row_tmp rfl _ _ w.heap.size 41 _ (0, 0) _ rfl (put5 ((pother (by omega)).trans HG3.out)) Try.underlying41 rfl (by kernel_rfl)) rfl ?_
            refine ⟨⟨_, HY.out, { S2 with ep := r' }, by simp [modV], hm2.out.whole HGR.out HRR.out HAT.out (Nat.lt_succ_self _) hbw hX0.out.free fun k h1 h2 => ?_⟩, below5 ((ht2.out.trans (Below.mono (B := w.heap.size + 1) ⟨HGR.out.os, HGR.out.tape, HGR.out.output, HGR.out.size, fun k hk => HGR.out.block k (by omega) fun e => by have := (hm2.out.own.ep.typed e.symm).1; omega⟩ (by omega))).setCell (by show _ ≤ w1.heap.size; omega) _) (Nat.le_refl _) _ _ _ _ _⟩
            rw [pother h1, pother h1, pother h1, pother h1, pother h1, pother h2]
      · have dz : decide (z2 < 0) = false := decide_eq_false hz
        obtain ⟨e0, rfl, rfl⟩ := is_bad hi2.out hz
        have dz2 : decide ((0 : Int) ≤ (e0 : Int)) = true := decide_eq_true (by omega)
        have HY : Hid (ParseR s scr (.error e0)) := ⟨_, HR.out, (show (.error e0 : PR) = itemsP ⟨ts, s.size, scr⟩ startP from he2.out)⟩
        obtain ⟨c0, c1, c2, c3, c4, cf⟩ := five_of HG2.out
        go_wp2
        go_region
        all_goals
          go_wp2
          refine bodyPost_ret (results_cell_row_tmp rfl _ _ w.heap.size 41 _ (0, 0) _ rfl (put5 HG2.out) Try.underlying41 rfl (by kernel_rfl)) rfl ?_
          exact ⟨⟨_, HY.out, rfl⟩, (below5 ht2.out (Nat.le_refl _) _ _ _ _ _).drew⟩
end Go.Proofs.Ytcmpakdfebeklaa
