/-
  What spec's l4Item answers: the walks.
  What spec's l4Item answers outside of a script: the walks.
  A whole program, as a plain function of its tokens: items one behind the other. No program is spoken of.
  A text has at most 4000 tokens. No program is spoken of.
  A program in memory, as Parse hands it back. No program is spoken of but for the numbers of its types.
  What spec.Parse answers: the walk.
-/
import Derived.Test.YticdggnnpjachaaGreatCaSpecParseMToSpecParseO
namespace Go.Proofs.YticdggnnpjachaaGreat
open Go.RowKit Go.PlainAid

theorem l4Import_spec (C : Cx) (gt cap base : Nat) (S : Sv) (q : PS) (w : World) (hm : Mem C gt cap base S q w) (hw : isT C q.pos 1 sImport = true) :
    Calls Tryz.prog 70 #[pv C gt cap S q (-1) 0] w (Out C gt cap base (importP C q) 0 S w) := by
  cases h1 : isT C (q.pos + 1) 4 cLeft with
  | true => exact l4Import_list C gt cap base S q w hm hw h1
  | false =>
    cases h2 : isT C (q.pos + 1) 4 cStar with
    | true => exact l4Import_star C gt cap base S q w hm hw h1 h2
    | false =>
      cases h3 : plainB C (q.pos + 1) false with
      | true => exact l4Import_plain C gt cap base S q w hm hw h1 h2 h3
      | false => exact l4Import_bare C gt cap base S q w hm hw h1 h2 h3
theorem l4Export_spec (C : Cx) (gt cap base : Nat) (S : Sv) (q : PS) (w : World) (hm : Mem C gt cap base S q w) (hw : isT C q.pos 1 sExport = true) :
    Calls Tryz.prog 71 #[pv C gt cap S q (-1) 0] w (Out C gt cap base (exportP C q) 0 S w) := by
  cases h1 : isT C (q.pos + 1) 4 cLeft with
  | true => exact l4Export_list C gt cap base S q w hm hw h1
  | false =>
    cases h2 : isT C (q.pos + 1) 4 cStar with
    | true => exact l4Export_star C gt cap base S q w hm hw h1 h2
    | false =>
      cases h3 : isT C (q.pos + 1) 1 sDefault with
      | true => exact l4Export_default C gt cap base S q w hm hw h1 h2 h3
      | false =>
        cases h4 : isT C (q.pos + 1) 1 sLet with
        | true => exact l4Export_let C gt cap base S q w hm hw h1 h2 h3 h4
        | false =>
          cases h5 : isT C (q.pos + 1) 1 sFunction with
          | true => exact l4Export_fn C gt cap base S q w hm hw h1 h2 h3 h4 h5
          | false => exact l4Export_none C gt cap base S q w hm hw h1 h2 h3 h4 h5
theorem set_bind {C : Cx} {x : PR} {n : ByteArray} : bd (bd (bd (bd x (tokP C 4 cEq)) (pE C .sum 0)) (tokP C 4 cSemi)) (addSt C 3 n) = bd x fun q => bd (bd (bd (bd (.ok q) (tokP C 4 cEq)) (pE C .sum 0)) (tokP C 4 cSemi)) (addSt C 3 n) := by cases x <;> rfl

set_option maxRecDepth 100000 in
set_option maxHeartbeats 6400000 in
theorem l4Item_slet_true (ts : List Tk) (fin : Nat) (gt cap base : Nat) (S : Sv) (q : PS) (w : World) (hm : Mem (Cx.mk ts fin true) gt cap base S q w) (h0 : isT (Cx.mk ts fin true) q.pos 1 sLet = true) :
    Calls Tryz.prog 21 #[pv (Cx.mk ts fin true) gt cap S q (-1) 0] w (Out (Cx.mk ts fin true) gt cap base (itemP (Cx.mk ts fin true) q) 0 S w) := by
  have HM := hidI hm
  have htok := hm.tok
  have hfew : (Cx.mk ts fin true).ts.length ≤ 4000 := hm.few
  clear hm
  have HV : Hid (itemP (Cx.mk ts fin true) q = fstP (letP (Cx.mk ts fin true) q)) := by show itemP (Cx.mk ts fin true) q = _; rw [itemP, h0]; rfl
  unfold pv
  go_enter Tryz.func21, Tryz.ntmps21
  go_wp2_with fail
  refine (is_spec (Cx.mk ts fin true) gt cap base S q (-1) 0 1 sLet _ (ownT_alloc (ownT_alloc htok _) _) hfew (by decide)).mono ?_
  rintro e w1 ⟨rfl, hb1⟩
  rw [h0]
  obtain ⟨X0, X1, m1, t1⟩ := HM.out.two hb1
  have hX0 := hidI X0
  have hX1 := hidI X1
  have hm1 := hidI m1
  have ht1 := hidI t1
  clear X0 X1 m1 t1 hb1
  clear htok
  obtain ⟨a0, a1, a2, a3, a4, a5, a6, a7, a8, a9, a10, a11, af⟩ := hX0.out.box
  go_wp2_with fail
  refine (l4Let_spec (Cx.mk ts fin true) gt cap base S q _ hm1.out).mono ?_
  rintro e w2 ⟨S2, q2, z2, n2, rfl, i2, m2, s2⟩
  replace hX0 := hidI (hX0.out.stp s2)
  replace hX1 := hidI (hX1.out.stp s2)
  have ht2 := hidI (ht1.out.step s2)
  clear ht1
  have hm2 := hidI m2
  have hi2 := hidI i2
  clear i2 m2 s2 hm1
  clear a0 a1 a2 a3 a4 a5 a6 a7 a8 a9 a10 a11 af
  have hlt2 : w.heap.size + 1 < w2.heap.size := hX1.out.lt
  unfold pv
  go_upto_region 7 with fail
  refine world_any (R := fun W => Bx gt S2 W (w.heap.size) _ ∧ Bx gt S2 W (w.heap.size + 1) _ ∧ Bx gt S2 W (w2.heap.size) _ ∧ Mem (Cx.mk ts fin true) gt cap base S2 q2 W ∧ SB w.heap.size S w S2 W) ⟨(hX0.out.alloc _), (hX1.out.alloc _), (Bx.new hm2.out _), (hm2.out.alloc _), (ht2.out.alloc _)⟩ ?_
  clear hX0 hX1 ht2 hm2
  rintro w3 ⟨X0, X1, X2, m3, t3⟩
  have hX0 := hidI X0
  have hX1 := hidI X1
  have hX2 := hidI X2
  have hm3 := hidI m3
  have ht3 := hidI t3
  clear m3 t3 X0 X1 X2
  obtain ⟨b0, b1, b2, b3, b4, b5, b6, b7, b8, b9, b10, b11, bf⟩ := hX1.out.box
  obtain ⟨c0, c1, c2, c3, c4, c5, c6, c7, c8, c9, c10, c11, cf⟩ := hX2.out.box
  go_wp2
  refine bodyPost_ret (results_cell_row rfl _ _ (w.heap.size + 1) 53 _ (0, 0) _ rfl ((hX1.out.put _ _ _ _ _ _ _ _ _ _ _ _)).heap Tryz.underlying53 rfl (by kernel_rfl)) rfl ?_
  rw [HV.out]
  exact out_done rfl hi2.out.fst (hm3.out.put hX1.out _ _ _ _ _ _ _ _ _ _ _ _) (ht3.out.put (by omega) _ _ _ _ _ _ _ _ _ _ _ _)
set_option maxRecDepth 100000 in
set_option maxHeartbeats 6400000 in
theorem l4Item_sfunction_true (ts : List Tk) (fin : Nat) (gt cap base : Nat) (S : Sv) (q : PS) (w : World) (hm : Mem (Cx.mk ts fin true) gt cap base S q w) (h0 : isT (Cx.mk ts fin true) q.pos 1 sLet = false) (h1 : isT (Cx.mk ts fin true) q.pos 1 sFunction = true) :
    Calls Tryz.prog 21 #[pv (Cx.mk ts fin true) gt cap S q (-1) 0] w (Out (Cx.mk ts fin true) gt cap base (itemP (Cx.mk ts fin true) q) 0 S w) := by
  have HM := hidI hm
  have htok := hm.tok
  have hfew : (Cx.mk ts fin true).ts.length ≤ 4000 := hm.few
  clear hm
  have HV : Hid (itemP (Cx.mk ts fin true) q = fstP (fnP (Cx.mk ts fin true) q)) := by show itemP (Cx.mk ts fin true) q = _; rw [itemP, h0, h1]; rfl
  unfold pv
  go_enter Tryz.func21, Tryz.ntmps21
  go_wp2_with fail
  refine (is_spec (Cx.mk ts fin true) gt cap base S q (-1) 0 1 sLet _ (ownT_alloc (ownT_alloc htok _) _) hfew (by decide)).mono ?_
  rintro e w1 ⟨rfl, hb1⟩
  rw [h0]
  obtain ⟨X0, X1, m1, t1⟩ := HM.out.two hb1
  have hX0 := hidI X0
  have hX1 := hidI X1
  have hm1 := hidI m1
  have ht1 := hidI t1
  clear X0 X1 m1 t1 hb1
  clear htok
  obtain ⟨a0, a1, a2, a3, a4, a5, a6, a7, a8, a9, a10, a11, af⟩ := hX0.out.box
  go_wp2_with fail
  refine (is_spec (Cx.mk ts fin true) gt cap base S q (-1) 0 1 sFunction _ hm1.out.tok hfew (by decide)).mono ?_
  rintro e w2 ⟨rfl, hb2⟩
  rw [h1]
  replace hX0 := hidI (hX0.out.below hb2)
  replace hX1 := hidI (hX1.out.below hb2)
  have ht2 := hidI (ht1.out.below hb2)
  have hm2 := hidI (hm1.out.later hb2)
  clear hb2 ht1 hm1
  clear a0 a1 a2 a3 a4 a5 a6 a7 a8 a9 a10 a11 af
  obtain ⟨a0, a1, a2, a3, a4, a5, a6, a7, a8, a9, a10, a11, af⟩ := hX0.out.box
  go_wp2_with fail
  refine (l4Fn_spec (Cx.mk ts fin true) gt cap base S q _ hm2.out).mono ?_
  rintro e w3 ⟨S3, q3, z3, n3, rfl, i3, m3, s3⟩
  replace hX0 := hidI (hX0.out.stp s3)
  replace hX1 := hidI (hX1.out.stp s3)
  have ht3 := hidI (ht2.out.step s3)
  clear ht2
  have hm3 := hidI m3
  have hi3 := hidI i3
  clear i3 m3 s3 hm2
  clear a0 a1 a2 a3 a4 a5 a6 a7 a8 a9 a10 a11 af
  have hlt2 : w.heap.size + 1 < w3.heap.size := hX1.out.lt
  unfold pv
  go_upto_region 10 with fail
  refine world_any (R := fun W => Bx gt S3 W (w.heap.size) _ ∧ Bx gt S3 W (w.heap.size + 1) _ ∧ Bx gt S3 W (w3.heap.size) _ ∧ Mem (Cx.mk ts fin true) gt cap base S3 q3 W ∧ SB w.heap.size S w S3 W) ⟨(hX0.out.alloc _), (hX1.out.alloc _), (Bx.new hm3.out _), (hm3.out.alloc _), (ht3.out.alloc _)⟩ ?_
  clear hX0 hX1 ht3 hm3
  rintro w4 ⟨X0, X1, X2, m4, t4⟩
  have hX0 := hidI X0
  have hX1 := hidI X1
  have hX2 := hidI X2
  have hm4 := hidI m4
  have ht4 := hidI t4
  clear m4 t4 X0 X1 X2
  obtain ⟨b0, b1, b2, b3, b4, b5, b6, b7, b8, b9, b10, b11, bf⟩ := hX1.out.box
  obtain ⟨c0, c1, c2, c3, c4, c5, c6, c7, c8, c9, c10, c11, cf⟩ := hX2.out.box
  go_wp2
  refine bodyPost_ret (results_cell_row rfl _ _ (w.heap.size + 1) 53 _ (0, 0) _ rfl ((hX1.out.put _ _ _ _ _ _ _ _ _ _ _ _)).heap Tryz.underlying53 rfl (by kernel_rfl)) rfl ?_
  rw [HV.out]
  exact out_done rfl hi3.out.fst (hm4.out.put hX1.out _ _ _ _ _ _ _ _ _ _ _ _) (ht4.out.put (by omega) _ _ _ _ _ _ _ _ _ _ _ _)
set_option maxRecDepth 100000 in
set_option maxHeartbeats 6400000 in
theorem l4Item_sprint_true (ts : List Tk) (fin : Nat) (gt cap base : Nat) (S : Sv) (q : PS) (w : World) (hm : Mem (Cx.mk ts fin true) gt cap base S q w) (h0 : isT (Cx.mk ts fin true) q.pos 1 sLet = false) (h1 : isT (Cx.mk ts fin true) q.pos 1 sFunction = false) (h2 : isT (Cx.mk ts fin true) q.pos 1 sPrint = true) :
    Calls Tryz.prog 21 #[pv (Cx.mk ts fin true) gt cap S q (-1) 0] w (Out (Cx.mk ts fin true) gt cap base (itemP (Cx.mk ts fin true) q) 0 S w) := by
  have HM := hidI hm
  have htok := hm.tok
  have hfew : (Cx.mk ts fin true).ts.length ≤ 4000 := hm.few
  clear hm
  have HV : Hid (itemP (Cx.mk ts fin true) q = bd (bd (bd (bd (bd (bd (.ok q) (tokP (Cx.mk ts fin true) 1 sPrint)) (tokP (Cx.mk ts fin true) 4 cOpen)) (pE (Cx.mk ts fin true) .sum 0)) (tokP (Cx.mk ts fin true) 4 cShut)) (tokP (Cx.mk ts fin true) 4 cSemi)) (addSt (Cx.mk ts fin true) 4 sNone)) := by show itemP (Cx.mk ts fin true) q = _; rw [itemP, h0, h1, h2]; rfl
  unfold pv
  go_enter Tryz.func21, Tryz.ntmps21
  go_wp2_with fail
  refine (is_spec (Cx.mk ts fin true) gt cap base S q (-1) 0 1 sLet _ (ownT_alloc (ownT_alloc htok _) _) hfew (by decide)).mono ?_
  rintro e w1 ⟨rfl, hb1⟩
  rw [h0]
  obtain ⟨X0, X1, m1, t1⟩ := HM.out.two hb1
  have hX0 := hidI X0
  have hX1 := hidI X1
  have hm1 := hidI m1
  have ht1 := hidI t1
  clear X0 X1 m1 t1 hb1
  clear htok
  obtain ⟨a0, a1, a2, a3, a4, a5, a6, a7, a8, a9, a10, a11, af⟩ := hX0.out.box
  go_wp2_with fail
  refine (is_spec (Cx.mk ts fin true) gt cap base S q (-1) 0 1 sFunction _ hm1.out.tok hfew (by decide)).mono ?_
  rintro e w2 ⟨rfl, hb2⟩
  rw [h1]
  replace hX0 := hidI (hX0.out.below hb2)
  replace hX1 := hidI (hX1.out.below hb2)
  have ht2 := hidI (ht1.out.below hb2)
  have hm2 := hidI (hm1.out.later hb2)
  clear hb2 ht1 hm1
  clear a0 a1 a2 a3 a4 a5 a6 a7 a8 a9 a10 a11 af
  obtain ⟨a0, a1, a2, a3, a4, a5, a6, a7, a8, a9, a10, a11, af⟩ := hX0.out.box
  go_wp2_with fail
  refine (is_spec (Cx.mk ts fin true) gt cap base S q (-1) 0 1 sPrint _ hm2.out.tok hfew (by decide)).mono ?_
  rintro e w3 ⟨rfl, hb3⟩
  rw [h2]
  replace hX0 := hidI (hX0.out.below hb3)
  replace hX1 := hidI (hX1.out.below hb3)
  have ht3 := hidI (ht2.out.below hb3)
  have hm3 := hidI (hm2.out.later hb3)
  clear hb3 ht2 hm2
  clear a0 a1 a2 a3 a4 a5 a6 a7 a8 a9 a10 a11 af
  obtain ⟨a0, a1, a2, a3, a4, a5, a6, a7, a8, a9, a10, a11, af⟩ := hX0.out.box
  go_wp2_with fail
  refine (l4Word_spec (Cx.mk ts fin true) gt cap base (.ok q) S q (-1) 0 sPrint _ (is_ok q) hm3.out).mono ?_
  rintro e w4 ⟨S4, q4, z4, rfl, i4, m4, s4⟩
  replace hX0 := hidI (hX0.out.stp s4)
  replace hX1 := hidI (hX1.out.stp s4)
  have ht4 := hidI (ht3.out.step s4)
  clear ht3
  have hm4 := hidI m4
  have hi4 := hidI i4
  clear i4 m4 s4 hm3
  clear a0 a1 a2 a3 a4 a5 a6 a7 a8 a9 a10 a11 af
  go_wp2_with fail
  refine (l4Sign_spec (Cx.mk ts fin true) gt cap base _ S4 q4 z4 0 cOpen _ hi4.out hm4.out).mono ?_
  rintro e w5 ⟨S5, q5, z5, rfl, i5, m5, s5⟩
  replace hX0 := hidI (hX0.out.stp s5)
  replace hX1 := hidI (hX1.out.stp s5)
  have ht5 := hidI (ht4.out.step s5)
  clear ht4
  have hm5 := hidI m5
  have hi5 := hidI i5
  clear i5 m5 s5 hm4
  go_wp2_with fail
  refine (l4Sum_spec (Cx.mk ts fin true) gt cap base _ S5 q5 z5 _ hi5.out hm5.out).mono ?_
  rintro e w6 ⟨S6, q6, z6, rfl, i6, m6, s6⟩
  replace hX0 := hidI (hX0.out.stp s6)
  replace hX1 := hidI (hX1.out.stp s6)
  have ht6 := hidI (ht5.out.step s6)
  clear ht5
  have hm6 := hidI m6
  have hi6 := hidI i6
  clear i6 m6 s6 hm5
  go_wp2_with fail
  refine (l4Sign_spec (Cx.mk ts fin true) gt cap base _ S6 q6 z6 0 cShut _ hi6.out hm6.out).mono ?_
  rintro e w7 ⟨S7, q7, z7, rfl, i7, m7, s7⟩
  replace hX0 := hidI (hX0.out.stp s7)
  replace hX1 := hidI (hX1.out.stp s7)
  have ht7 := hidI (ht6.out.step s7)
  clear ht6
  have hm7 := hidI m7
  have hi7 := hidI i7
  clear i7 m7 s7 hm6
  have hlt2 : w.heap.size + 1 < w7.heap.size := hX1.out.lt
  unfold pv
  go_upto_region 13 with fail
  refine world_any (R := fun W => Bx gt S7 W (w.heap.size) _ ∧ Bx gt S7 W (w.heap.size + 1) _ ∧ Bx gt S7 W (w7.heap.size) _ ∧ Mem (Cx.mk ts fin true) gt cap base S7 q7 W ∧ SB w.heap.size S w S7 W) ⟨(hX0.out.alloc _), (hX1.out.alloc _), (Bx.new hm7.out _), (hm7.out.alloc _), (ht7.out.alloc _)⟩ ?_
  clear hX0 hX1 ht7 hm7
  rintro w8 ⟨X0, X1, X2, m8, t8⟩
  have hX0 := hidI X0
  have hX1 := hidI X1
  have hX2 := hidI X2
  have hm8 := hidI m8
  have ht8 := hidI t8
  clear m8 t8 X0 X1 X2
  obtain ⟨c0, c1, c2, c3, c4, c5, c6, c7, c8, c9, c10, c11, cf⟩ := hX2.out.box
  go_wp2_with fail
  refine (l4Sign_spec (Cx.mk ts fin true) gt cap base _ S7 q7 z7 0 cSemi _ hi7.out hm8.out).mono ?_
  rintro e w9 ⟨S9, q9, z9, rfl, i9, m9, s9⟩
  replace hX0 := hidI (hX0.out.stp s9)
  replace hX1 := hidI (hX1.out.stp s9)
  replace hX2 := hidI (hX2.out.stp s9)
  have ht9 := hidI (ht8.out.step s9)
  clear ht8
  have hm9 := hidI m9
  have hi9 := hidI i9
  clear i9 m9 s9 hm8
  clear c0 c1 c2 c3 c4 c5 c6 c7 c8 c9 c10 c11 cf
  go_wp2_with fail
  refine (l4Stmt_spec (Cx.mk ts fin true) gt cap base _ S9 q9 z9 0 4 sNone _ hi9.out hm9.out (pos_tok hi9.out)).mono ?_
  rintro e w10 ⟨S10, q10, z10, rfl, i10, m10, s10⟩
  replace hX0 := hidI (hX0.out.stp s10)
  replace hX1 := hidI (hX1.out.stp s10)
  replace hX2 := hidI (hX2.out.stp s10)
  have ht10 := hidI (ht9.out.step s10)
  clear ht9
  have hm10 := hidI m10
  have hi10 := hidI i10
  clear i10 m10 s10 hm9
  obtain ⟨b0, b1, b2, b3, b4, b5, b6, b7, b8, b9, b10, b11, bf⟩ := hX1.out.box
  unfold pv
  go_wp2
  refine bodyPost_ret (results_cell_row rfl _ _ (w.heap.size + 1) 53 _ (0, 0) _ rfl ((hX1.out.put _ _ _ _ _ _ _ _ _ _ _ _)).heap Tryz.underlying53 rfl (by kernel_rfl)) rfl ?_
  rw [HV.out]
  exact out_done rfl hi10.out (hm10.out.put hX1.out _ _ _ _ _ _ _ _ _ _ _ _) (ht10.out.put (by omega) _ _ _ _ _ _ _ _ _ _ _ _)
set_option maxRecDepth 100000 in
set_option maxHeartbeats 6400000 in
theorem l4Item_sthrow_true (ts : List Tk) (fin : Nat) (gt cap base : Nat) (S : Sv) (q : PS) (w : World) (hm : Mem (Cx.mk ts fin true) gt cap base S q w) (h0 : isT (Cx.mk ts fin true) q.pos 1 sLet = false) (h1 : isT (Cx.mk ts fin true) q.pos 1 sFunction = false) (h2 : isT (Cx.mk ts fin true) q.pos 1 sPrint = false) (h3 : isT (Cx.mk ts fin true) q.pos 1 sThrow = true) :
    Calls Tryz.prog 21 #[pv (Cx.mk ts fin true) gt cap S q (-1) 0] w (Out (Cx.mk ts fin true) gt cap base (itemP (Cx.mk ts fin true) q) 0 S w) := by
  have HM := hidI hm
  have htok := hm.tok
  have hfew : (Cx.mk ts fin true).ts.length ≤ 4000 := hm.few
  clear hm
  have HV : Hid (itemP (Cx.mk ts fin true) q = bd (bd (bd (bd (.ok q) (tokP (Cx.mk ts fin true) 1 sThrow)) (pE (Cx.mk ts fin true) .sum 0)) (tokP (Cx.mk ts fin true) 4 cSemi)) (addSt (Cx.mk ts fin true) 5 sNone)) := by show itemP (Cx.mk ts fin true) q = _; rw [itemP, h0, h1, h2, h3]; rfl
  unfold pv
  go_enter Tryz.func21, Tryz.ntmps21
  go_wp2_with fail
  refine (is_spec (Cx.mk ts fin true) gt cap base S q (-1) 0 1 sLet _ (ownT_alloc (ownT_alloc htok _) _) hfew (by decide)).mono ?_
  rintro e w1 ⟨rfl, hb1⟩
  rw [h0]
  obtain ⟨X0, X1, m1, t1⟩ := HM.out.two hb1
  have hX0 := hidI X0
  have hX1 := hidI X1
  have hm1 := hidI m1
  have ht1 := hidI t1
  clear X0 X1 m1 t1 hb1
  clear htok
  obtain ⟨a0, a1, a2, a3, a4, a5, a6, a7, a8, a9, a10, a11, af⟩ := hX0.out.box
  go_wp2_with fail
  refine (is_spec (Cx.mk ts fin true) gt cap base S q (-1) 0 1 sFunction _ hm1.out.tok hfew (by decide)).mono ?_
  rintro e w2 ⟨rfl, hb2⟩
  rw [h1]
  replace hX0 := hidI (hX0.out.below hb2)
  replace hX1 := hidI (hX1.out.below hb2)
  have ht2 := hidI (ht1.out.below hb2)
  have hm2 := hidI (hm1.out.later hb2)
  clear hb2 ht1 hm1
  clear a0 a1 a2 a3 a4 a5 a6 a7 a8 a9 a10 a11 af
  obtain ⟨a0, a1, a2, a3, a4, a5, a6, a7, a8, a9, a10, a11, af⟩ := hX0.out.box
  go_wp2_with fail
  refine (is_spec (Cx.mk ts fin true) gt cap base S q (-1) 0 1 sPrint _ hm2.out.tok hfew (by decide)).mono ?_
  rintro e w3 ⟨rfl, hb3⟩
  rw [h2]
  replace hX0 := hidI (hX0.out.below hb3)
  replace hX1 := hidI (hX1.out.below hb3)
  have ht3 := hidI (ht2.out.below hb3)
  have hm3 := hidI (hm2.out.later hb3)
  clear hb3 ht2 hm2
  clear a0 a1 a2 a3 a4 a5 a6 a7 a8 a9 a10 a11 af
  obtain ⟨a0, a1, a2, a3, a4, a5, a6, a7, a8, a9, a10, a11, af⟩ := hX0.out.box
  go_wp2_with fail
  refine (is_spec (Cx.mk ts fin true) gt cap base S q (-1) 0 1 sThrow _ hm3.out.tok hfew (by decide)).mono ?_
  rintro e w4 ⟨rfl, hb4⟩
  rw [h3]
  replace hX0 := hidI (hX0.out.below hb4)
  replace hX1 := hidI (hX1.out.below hb4)
  have ht4 := hidI (ht3.out.below hb4)
  have hm4 := hidI (hm3.out.later hb4)
  clear hb4 ht3 hm3
  clear a0 a1 a2 a3 a4 a5 a6 a7 a8 a9 a10 a11 af
  obtain ⟨a0, a1, a2, a3, a4, a5, a6, a7, a8, a9, a10, a11, af⟩ := hX0.out.box
  go_wp2_with fail
  refine (l4Word_spec (Cx.mk ts fin true) gt cap base (.ok q) S q (-1) 0 sThrow _ (is_ok q) hm4.out).mono ?_
  rintro e w5 ⟨S5, q5, z5, rfl, i5, m5, s5⟩
  replace hX0 := hidI (hX0.out.stp s5)
  replace hX1 := hidI (hX1.out.stp s5)
  have ht5 := hidI (ht4.out.step s5)
  clear ht4
  have hm5 := hidI m5
  have hi5 := hidI i5
  clear i5 m5 s5 hm4
  clear a0 a1 a2 a3 a4 a5 a6 a7 a8 a9 a10 a11 af
  go_wp2_with fail
  refine (l4Sum_spec (Cx.mk ts fin true) gt cap base _ S5 q5 z5 _ hi5.out hm5.out).mono ?_
  rintro e w6 ⟨S6, q6, z6, rfl, i6, m6, s6⟩
  replace hX0 := hidI (hX0.out.stp s6)
  replace hX1 := hidI (hX1.out.stp s6)
  have ht6 := hidI (ht5.out.step s6)
  clear ht5
  have hm6 := hidI m6
  have hi6 := hidI i6
  clear i6 m6 s6 hm5
  go_wp2_with fail
  refine (l4Sign_spec (Cx.mk ts fin true) gt cap base _ S6 q6 z6 0 cSemi _ hi6.out hm6.out).mono ?_
  rintro e w7 ⟨S7, q7, z7, rfl, i7, m7, s7⟩
  replace hX0 := hidI (hX0.out.stp s7)
  replace hX1 := hidI (hX1.out.stp s7)
  have ht7 := hidI (ht6.out.step s7)
  clear ht6
  have hm7 := hidI m7
  have hi7 := hidI i7
  clear i7 m7 s7 hm6
  go_wp2_with fail
  refine (l4Stmt_spec (Cx.mk ts fin true) gt cap base _ S7 q7 z7 0 5 sNone _ hi7.out hm7.out (pos_tok hi7.out)).mono ?_
  rintro e w8 ⟨S8, q8, z8, rfl, i8, m8, s8⟩
  replace hX0 := hidI (hX0.out.stp s8)
  replace hX1 := hidI (hX1.out.stp s8)
  have ht8 := hidI (ht7.out.step s8)
  clear ht7
  have hm8 := hidI m8
  have hi8 := hidI i8
  clear i8 m8 s8 hm7
  obtain ⟨b0, b1, b2, b3, b4, b5, b6, b7, b8, b9, b10, b11, bf⟩ := hX1.out.box
  unfold pv
  go_wp2
  refine bodyPost_ret (results_cell_row rfl _ _ (w.heap.size + 1) 53 _ (0, 0) _ rfl ((hX1.out.put _ _ _ _ _ _ _ _ _ _ _ _)).heap Tryz.underlying53 rfl (by kernel_rfl)) rfl ?_
  rw [HV.out]
  exact out_done rfl hi8.out (hm8.out.put hX1.out _ _ _ _ _ _ _ _ _ _ _ _) (ht8.out.put (by omega) _ _ _ _ _ _ _ _ _ _ _ _)
set_option maxRecDepth 100000 in
set_option maxHeartbeats 6400000 in
theorem l4Item_sfail_true (ts : List Tk) (fin : Nat) (gt cap base : Nat) (S : Sv) (q : PS) (w : World) (hm : Mem (Cx.mk ts fin true) gt cap base S q w) (h0 : isT (Cx.mk ts fin true) q.pos 1 sLet = false) (h1 : isT (Cx.mk ts fin true) q.pos 1 sFunction = false) (h2 : isT (Cx.mk ts fin true) q.pos 1 sPrint = false) (h3 : isT (Cx.mk ts fin true) q.pos 1 sThrow = false) (h4 : isT (Cx.mk ts fin true) q.pos 1 sFail = true) :
    Calls Tryz.prog 21 #[pv (Cx.mk ts fin true) gt cap S q (-1) 0] w (Out (Cx.mk ts fin true) gt cap base (itemP (Cx.mk ts fin true) q) 0 S w) := by
  have HM := hidI hm
  have htok := hm.tok
  have hfew : (Cx.mk ts fin true).ts.length ≤ 4000 := hm.few
  clear hm
  have HV : Hid (itemP (Cx.mk ts fin true) q = bd (bd (bd (bd (.ok q) (tokP (Cx.mk ts fin true) 1 sFail)) (pE (Cx.mk ts fin true) .sum 0)) (tokP (Cx.mk ts fin true) 4 cSemi)) (addSt (Cx.mk ts fin true) 6 sNone)) := by show itemP (Cx.mk ts fin true) q = _; rw [itemP, h0, h1, h2, h3, h4]; rfl
  unfold pv
  go_enter Tryz.func21, Tryz.ntmps21
  go_wp2_with fail
  refine (is_spec (Cx.mk ts fin true) gt cap base S q (-1) 0 1 sLet _ (ownT_alloc (ownT_alloc htok _) _) hfew (by decide)).mono ?_
  rintro e w1 ⟨rfl, hb1⟩
  rw [h0]
  obtain ⟨X0, X1, m1, t1⟩ := HM.out.two hb1
  have hX0 := hidI X0
  have hX1 := hidI X1
  have hm1 := hidI m1
  have ht1 := hidI t1
  clear X0 X1 m1 t1 hb1
  clear htok
  obtain ⟨a0, a1, a2, a3, a4, a5, a6, a7, a8, a9, a10, a11, af⟩ := hX0.out.box
  go_wp2_with fail
  refine (is_spec (Cx.mk ts fin true) gt cap base S q (-1) 0 1 sFunction _ hm1.out.tok hfew (by decide)).mono ?_
  rintro e w2 ⟨rfl, hb2⟩
  rw [h1]
  replace hX0 := hidI (hX0.out.below hb2)
  replace hX1 := hidI (hX1.out.below hb2)
  have ht2 := hidI (ht1.out.below hb2)
  have hm2 := hidI (hm1.out.later hb2)
  clear hb2 ht1 hm1
  clear a0 a1 a2 a3 a4 a5 a6 a7 a8 a9 a10 a11 af
  obtain ⟨a0, a1, a2, a3, a4, a5, a6, a7, a8, a9, a10, a11, af⟩ := hX0.out.box
  go_wp2_with fail
  refine (is_spec (Cx.mk ts fin true) gt cap base S q (-1) 0 1 sPrint _ hm2.out.tok hfew (by decide)).mono ?_
  rintro e w3 ⟨rfl, hb3⟩
  rw [h2]
  replace hX0 := hidI (hX0.out.below hb3)
  replace hX1 := hidI (hX1.out.below hb3)
  have ht3 := hidI (ht2.out.below hb3)
  have hm3 := hidI (hm2.out.later hb3)
  clear hb3 ht2 hm2
  clear a0 a1 a2 a3 a4 a5 a6 a7 a8 a9 a10 a11 af
  obtain ⟨a0, a1, a2, a3, a4, a5, a6, a7, a8, a9, a10, a11, af⟩ := hX0.out.box
  go_wp2_with fail
  refine (is_spec (Cx.mk ts fin true) gt cap base S q (-1) 0 1 sThrow _ hm3.out.tok hfew (by decide)).mono ?_
  rintro e w4 ⟨rfl, hb4⟩
  rw [h3]
  replace hX0 := hidI (hX0.out.below hb4)
  replace hX1 := hidI (hX1.out.below hb4)
  have ht4 := hidI (ht3.out.below hb4)
  have hm4 := hidI (hm3.out.later hb4)
  clear hb4 ht3 hm3
  clear a0 a1 a2 a3 a4 a5 a6 a7 a8 a9 a10 a11 af
  obtain ⟨a0, a1, a2, a3, a4, a5, a6, a7, a8, a9, a10, a11, af⟩ := hX0.out.box
  go_wp2_with fail
  refine (is_spec (Cx.mk ts fin true) gt cap base S q (-1) 0 1 sFail _ hm4.out.tok hfew (by decide)).mono ?_
  rintro e w5 ⟨rfl, hb5⟩
  rw [h4]
  replace hX0 := hidI (hX0.out.below hb5)
  replace hX1 := hidI (hX1.out.below hb5)
  have ht5 := hidI (ht4.out.below hb5)
  have hm5 := hidI (hm4.out.later hb5)
  clear hb5 ht4 hm4
  clear a0 a1 a2 a3 a4 a5 a6 a7 a8 a9 a10 a11 af
  obtain ⟨a0, a1, a2, a3, a4, a5, a6, a7, a8, a9, a10, a11, af⟩ := hX0.out.box
  go_wp2_with fail
  refine (l4Word_spec (Cx.mk ts fin true) gt cap base (.ok q) S q (-1) 0 sFail _ (is_ok q) hm5.out).mono ?_
  rintro e w6 ⟨S6, q6, z6, rfl, i6, m6, s6⟩
  replace hX0 := hidI (hX0.out.stp s6)
  replace hX1 := hidI (hX1.out.stp s6)
  have ht6 := hidI (ht5.out.step s6)
  clear ht5
  have hm6 := hidI m6
  have hi6 := hidI i6
  clear i6 m6 s6 hm5
  clear a0 a1 a2 a3 a4 a5 a6 a7 a8 a9 a10 a11 af
  go_wp2_with fail
  refine (l4Sum_spec (Cx.mk ts fin true) gt cap base _ S6 q6 z6 _ hi6.out hm6.out).mono ?_
  rintro e w7 ⟨S7, q7, z7, rfl, i7, m7, s7⟩
  replace hX0 := hidI (hX0.out.stp s7)
  replace hX1 := hidI (hX1.out.stp s7)
  have ht7 := hidI (ht6.out.step s7)
  clear ht6
  have hm7 := hidI m7
  have hi7 := hidI i7
  clear i7 m7 s7 hm6
  go_wp2_with fail
  refine (l4Sign_spec (Cx.mk ts fin true) gt cap base _ S7 q7 z7 0 cSemi _ hi7.out hm7.out).mono ?_
  rintro e w8 ⟨S8, q8, z8, rfl, i8, m8, s8⟩
  replace hX0 := hidI (hX0.out.stp s8)
  replace hX1 := hidI (hX1.out.stp s8)
  have ht8 := hidI (ht7.out.step s8)
  clear ht7
  have hm8 := hidI m8
  have hi8 := hidI i8
  clear i8 m8 s8 hm7
  go_wp2_with fail
  refine (l4Stmt_spec (Cx.mk ts fin true) gt cap base _ S8 q8 z8 0 6 sNone _ hi8.out hm8.out (pos_tok hi8.out)).mono ?_
  rintro e w9 ⟨S9, q9, z9, rfl, i9, m9, s9⟩
  replace hX0 := hidI (hX0.out.stp s9)
  replace hX1 := hidI (hX1.out.stp s9)
  have ht9 := hidI (ht8.out.step s9)
  clear ht8
  have hm9 := hidI m9
  have hi9 := hidI i9
  clear i9 m9 s9 hm8
  obtain ⟨b0, b1, b2, b3, b4, b5, b6, b7, b8, b9, b10, b11, bf⟩ := hX1.out.box
  unfold pv
  go_wp2
  refine bodyPost_ret (results_cell_row rfl _ _ (w.heap.size + 1) 53 _ (0, 0) _ rfl ((hX1.out.put _ _ _ _ _ _ _ _ _ _ _ _)).heap Tryz.underlying53 rfl (by kernel_rfl)) rfl ?_
  rw [HV.out]
  exact out_done rfl hi9.out (hm9.out.put hX1.out _ _ _ _ _ _ _ _ _ _ _ _) (ht9.out.put (by omega) _ _ _ _ _ _ _ _ _ _ _ _)
set_option maxRecDepth 100000 in
set_option maxHeartbeats 6400000 in
theorem l4Item_set_true (ts : List Tk) (fin : Nat) (gt cap base : Nat) (S : Sv) (q : PS) (w : World) (hm : Mem (Cx.mk ts fin true) gt cap base S q w) (h0 : isT (Cx.mk ts fin true) q.pos 1 sLet = false) (h1 : isT (Cx.mk ts fin true) q.pos 1 sFunction = false) (h2 : isT (Cx.mk ts fin true) q.pos 1 sPrint = false) (h3 : isT (Cx.mk ts fin true) q.pos 1 sThrow = false) (h4 : isT (Cx.mk ts fin true) q.pos 1 sFail = false) :
    Calls Tryz.prog 21 #[pv (Cx.mk ts fin true) gt cap S q (-1) 0] w (Out (Cx.mk ts fin true) gt cap base (itemP (Cx.mk ts fin true) q) 0 S w) := by
  have HM := hidI hm
  have htok := hm.tok
  have hfew : (Cx.mk ts fin true).ts.length ≤ 4000 := hm.few
  clear hm
  have HV : Hid (itemP (Cx.mk ts fin true) q = bd (bd (.ok q) (nameP (Cx.mk ts fin true) false)) fun a => bd (bd (bd (bd (.ok a.1) (tokP (Cx.mk ts fin true) 4 cEq)) (pE (Cx.mk ts fin true) .sum 0)) (tokP (Cx.mk ts fin true) 4 cSemi)) (addSt (Cx.mk ts fin true) 3 a.2)) := by show itemP (Cx.mk ts fin true) q = _; rw [itemP, h0, h1, h2, h3, h4]; rfl
  unfold pv
  go_enter Tryz.func21, Tryz.ntmps21
  go_wp2_with fail
  refine (is_spec (Cx.mk ts fin true) gt cap base S q (-1) 0 1 sLet _ (ownT_alloc (ownT_alloc htok _) _) hfew (by decide)).mono ?_
  rintro e w1 ⟨rfl, hb1⟩
  rw [h0]
  obtain ⟨X0, X1, m1, t1⟩ := HM.out.two hb1
  have hX0 := hidI X0
  have hX1 := hidI X1
  have hm1 := hidI m1
  have ht1 := hidI t1
  clear X0 X1 m1 t1 hb1
  clear htok
  obtain ⟨a0, a1, a2, a3, a4, a5, a6, a7, a8, a9, a10, a11, af⟩ := hX0.out.box
  go_wp2_with fail
  refine (is_spec (Cx.mk ts fin true) gt cap base S q (-1) 0 1 sFunction _ hm1.out.tok hfew (by decide)).mono ?_
  rintro e w2 ⟨rfl, hb2⟩
  rw [h1]
  replace hX0 := hidI (hX0.out.below hb2)
  replace hX1 := hidI (hX1.out.below hb2)
  have ht2 := hidI (ht1.out.below hb2)
  have hm2 := hidI (hm1.out.later hb2)
  clear hb2 ht1 hm1
  clear a0 a1 a2 a3 a4 a5 a6 a7 a8 a9 a10 a11 af
  obtain ⟨a0, a1, a2, a3, a4, a5, a6, a7, a8, a9, a10, a11, af⟩ := hX0.out.box
  go_wp2_with fail
  refine (is_spec (Cx.mk ts fin true) gt cap base S q (-1) 0 1 sPrint _ hm2.out.tok hfew (by decide)).mono ?_
  rintro e w3 ⟨rfl, hb3⟩
  rw [h2]
  replace hX0 := hidI (hX0.out.below hb3)
  replace hX1 := hidI (hX1.out.below hb3)
  have ht3 := hidI (ht2.out.below hb3)
  have hm3 := hidI (hm2.out.later hb3)
  clear hb3 ht2 hm2
  clear a0 a1 a2 a3 a4 a5 a6 a7 a8 a9 a10 a11 af
  obtain ⟨a0, a1, a2, a3, a4, a5, a6, a7, a8, a9, a10, a11, af⟩ := hX0.out.box
  go_wp2_with fail
  refine (is_spec (Cx.mk ts fin true) gt cap base S q (-1) 0 1 sThrow _ hm3.out.tok hfew (by decide)).mono ?_
  rintro e w4 ⟨rfl, hb4⟩
  rw [h3]
  replace hX0 := hidI (hX0.out.below hb4)
  replace hX1 := hidI (hX1.out.below hb4)
  have ht4 := hidI (ht3.out.below hb4)
  have hm4 := hidI (hm3.out.later hb4)
  clear hb4 ht3 hm3
  clear a0 a1 a2 a3 a4 a5 a6 a7 a8 a9 a10 a11 af
  obtain ⟨a0, a1, a2, a3, a4, a5, a6, a7, a8, a9, a10, a11, af⟩ := hX0.out.box
  go_wp2_with fail
  refine (is_spec (Cx.mk ts fin true) gt cap base S q (-1) 0 1 sFail _ hm4.out.tok hfew (by decide)).mono ?_
  rintro e w5 ⟨rfl, hb5⟩
  rw [h4]
  replace hX0 := hidI (hX0.out.below hb5)
  replace hX1 := hidI (hX1.out.below hb5)
  have ht5 := hidI (ht4.out.below hb5)
  have hm5 := hidI (hm4.out.later hb5)
  clear hb5 ht4 hm4
  clear a0 a1 a2 a3 a4 a5 a6 a7 a8 a9 a10 a11 af
  obtain ⟨a0, a1, a2, a3, a4, a5, a6, a7, a8, a9, a10, a11, af⟩ := hX0.out.box
  go_wp2_with fail
  refine (l4Name_spec (Cx.mk ts fin true) gt cap base (.ok q) S q (-1) 0 false _ (is_ok q) hm5.out).mono ?_
  rintro e w6 ⟨S6, q6, z6, n6, rfl, i6, m6, s6⟩
  replace hX0 := hidI (hX0.out.stp s6)
  replace hX1 := hidI (hX1.out.stp s6)
  have ht6 := hidI (ht5.out.step s6)
  clear ht5
  have hm6 := hidI m6
  have hi6 := hidI i6
  clear i6 m6 s6 hm5
  clear a0 a1 a2 a3 a4 a5 a6 a7 a8 a9 a10 a11 af
  have hlt2 : w.heap.size + 1 < w6.heap.size := hX1.out.lt
  unfold pv
  go_upto_region 19 with fail
  refine world_any (R := fun W => Bx gt S6 W (w.heap.size) _ ∧ Bx gt S6 W (w.heap.size + 1) _ ∧ Bx gt S6 W (w6.heap.size) _ ∧ Mem (Cx.mk ts fin true) gt cap base S6 q6 W ∧ SB w.heap.size S w S6 W) ⟨(hX0.out.alloc _), (hX1.out.alloc _), (Bx.new hm6.out _), (hm6.out.alloc _), (ht6.out.alloc _)⟩ ?_
  clear hX0 hX1 ht6 hm6
  rintro w7 ⟨X0, X1, X2, m7, t7⟩
  have hX0 := hidI X0
  have hX1 := hidI X1
  have hX2 := hidI X2
  have hm7 := hidI m7
  have ht7 := hidI t7
  clear m7 t7 X0 X1 X2
  obtain ⟨c0, c1, c2, c3, c4, c5, c6, c7, c8, c9, c10, c11, cf⟩ := hX2.out.box
  go_wp2_with fail
  refine (l4Sign_spec (Cx.mk ts fin true) gt cap base _ S6 q6 z6 0 cEq _ hi6.out.fst hm7.out).mono ?_
  rintro e w8 ⟨S8, q8, z8, rfl, i8, m8, s8⟩
  replace hX0 := hidI (hX0.out.stp s8)
  replace hX1 := hidI (hX1.out.stp s8)
  replace hX2 := hidI (hX2.out.stp s8)
  have ht8 := hidI (ht7.out.step s8)
  clear ht7
  have hm8 := hidI m8
  have hi8 := hidI i8
  clear i8 m8 s8 hm7
  clear c0 c1 c2 c3 c4 c5 c6 c7 c8 c9 c10 c11 cf
  go_wp2_with fail
  refine (l4Sum_spec (Cx.mk ts fin true) gt cap base _ S8 q8 z8 _ hi8.out hm8.out).mono ?_
  rintro e w9 ⟨S9, q9, z9, rfl, i9, m9, s9⟩
  replace hX0 := hidI (hX0.out.stp s9)
  replace hX1 := hidI (hX1.out.stp s9)
  replace hX2 := hidI (hX2.out.stp s9)
  have ht9 := hidI (ht8.out.step s9)
  clear ht8
  have hm9 := hidI m9
  have hi9 := hidI i9
  clear i9 m9 s9 hm8
  go_wp2_with fail
  refine (l4Sign_spec (Cx.mk ts fin true) gt cap base _ S9 q9 z9 0 cSemi _ hi9.out hm9.out).mono ?_
  rintro e w10 ⟨S10, q10, z10, rfl, i10, m10, s10⟩
  replace hX0 := hidI (hX0.out.stp s10)
  replace hX1 := hidI (hX1.out.stp s10)
  replace hX2 := hidI (hX2.out.stp s10)
  have ht10 := hidI (ht9.out.step s10)
  clear ht9
  have hm10 := hidI m10
  have hi10 := hidI i10
  clear i10 m10 s10 hm9
  go_wp2_with fail
  refine (l4Stmt_spec (Cx.mk ts fin true) gt cap base _ S10 q10 z10 0 3 n6 _ hi10.out hm10.out (pos_tok hi10.out)).mono ?_
  rintro e w11 ⟨S11, q11, z11, rfl, i11, m11, s11⟩
  replace hX0 := hidI (hX0.out.stp s11)
  replace hX1 := hidI (hX1.out.stp s11)
  replace hX2 := hidI (hX2.out.stp s11)
  have ht11 := hidI (ht10.out.step s11)
  clear ht10
  have hm11 := hidI m11
  have hi11 := hidI i11
  clear i11 m11 s11 hm10
  obtain ⟨b0, b1, b2, b3, b4, b5, b6, b7, b8, b9, b10, b11, bf⟩ := hX1.out.box
  unfold pv
  go_wp2
  refine bodyPost_ret (results_cell_row rfl _ _ (w.heap.size + 1) 53 _ (0, 0) _ rfl ((hX1.out.put _ _ _ _ _ _ _ _ _ _ _ _)).heap Tryz.underlying53 rfl (by kernel_rfl)) rfl ?_
  rw [HV.out, ← hi6.out.bind (fun q n => bd (bd (bd (bd (.ok q) (tokP (Cx.mk ts fin true) 4 cEq)) (pE (Cx.mk ts fin true) .sum 0)) (tokP (Cx.mk ts fin true) 4 cSemi)) (addSt (Cx.mk ts fin true) 3 n)), ← set_bind]
  exact out_done rfl hi11.out (hm11.out.put hX1.out _ _ _ _ _ _ _ _ _ _ _ _) (ht11.out.put (by omega) _ _ _ _ _ _ _ _ _ _ _ _)
theorem l4Item_true (ts : List Tk) (fin : Nat) (gt cap base : Nat) (S : Sv) (q : PS) (w : World) (hm : Mem (Cx.mk ts fin true) gt cap base S q w) :
    Calls Tryz.prog 21 #[pv (Cx.mk ts fin true) gt cap S q (-1) 0] w (Out (Cx.mk ts fin true) gt cap base (itemP (Cx.mk ts fin true) q) 0 S w) := by
  cases h0 : isT (Cx.mk ts fin true) q.pos 1 sLet with
  | true => exact l4Item_slet_true ts fin gt cap base S q w hm h0
  | false =>
    cases h1 : isT (Cx.mk ts fin true) q.pos 1 sFunction with
    | true => exact l4Item_sfunction_true ts fin gt cap base S q w hm h0 h1
    | false =>
      cases h2 : isT (Cx.mk ts fin true) q.pos 1 sPrint with
      | true => exact l4Item_sprint_true ts fin gt cap base S q w hm h0 h1 h2
      | false =>
        cases h3 : isT (Cx.mk ts fin true) q.pos 1 sThrow with
        | true => exact l4Item_sthrow_true ts fin gt cap base S q w hm h0 h1 h2 h3
        | false =>
          cases h4 : isT (Cx.mk ts fin true) q.pos 1 sFail with
          | true => exact l4Item_sfail_true ts fin gt cap base S q w hm h0 h1 h2 h3 h4
          | false =>
            exact l4Item_set_true ts fin gt cap base S q w hm h0 h1 h2 h3 h4
end Go.Proofs.YticdggnnpjachaaGreat
namespace Go.Proofs.YticdggnnpjachaaGreat
open Go.RowKit Go.PlainAid

set_option maxRecDepth 100000 in
set_option maxHeartbeats 6400000 in
theorem l4Item_simport_false (ts : List Tk) (fin : Nat) (gt cap base : Nat) (S : Sv) (q : PS) (w : World) (hm : Mem (Cx.mk ts fin false) gt cap base S q w) (h0 : isT (Cx.mk ts fin false) q.pos 1 sImport = true) :
    Calls Tryz.prog 21 #[pv (Cx.mk ts fin false) gt cap S q (-1) 0] w (Out (Cx.mk ts fin false) gt cap base (itemP (Cx.mk ts fin false) q) 0 S w) := by
  have HM := hidI hm
  have htok := hm.tok
  have hfew : (Cx.mk ts fin false).ts.length ≤ 4000 := hm.few
  clear hm
  have HV : Hid (itemP (Cx.mk ts fin false) q = importP (Cx.mk ts fin false) q) := by show itemP (Cx.mk ts fin false) q = _; rw [itemP, h0]; rfl
  unfold pv
  go_enter Tryz.func21, Tryz.ntmps21
  go_wp2_with fail
  refine (is_spec (Cx.mk ts fin false) gt cap base S q (-1) 0 1 sImport _ (ownT_alloc (ownT_alloc htok _) _) hfew (by decide)).mono ?_
  rintro e w1 ⟨rfl, hb1⟩
  rw [h0]
  obtain ⟨X0, X1, m1, t1⟩ := HM.out.two hb1
  have hX0 := hidI X0
  have hX1 := hidI X1
  have hm1 := hidI m1
  have ht1 := hidI t1
  clear X0 X1 m1 t1 hb1
  clear htok
  obtain ⟨a0, a1, a2, a3, a4, a5, a6, a7, a8, a9, a10, a11, af⟩ := hX0.out.box
  go_wp2_with fail
  refine (l4Import_spec (Cx.mk ts fin false) gt cap base S q _ hm1.out h0).mono ?_
  rintro e w2 ⟨S2, q2, z2, rfl, i2, m2, s2⟩
  replace hX0 := hidI (hX0.out.stp s2)
  replace hX1 := hidI (hX1.out.stp s2)
  have ht2 := hidI (ht1.out.step s2)
  clear ht1
  have hm2 := hidI m2
  have hi2 := hidI i2
  clear i2 m2 s2 hm1
  clear a0 a1 a2 a3 a4 a5 a6 a7 a8 a9 a10 a11 af
  obtain ⟨b0, b1, b2, b3, b4, b5, b6, b7, b8, b9, b10, b11, bf⟩ := hX1.out.box
  unfold pv
  go_wp2
  refine bodyPost_ret (results_cell_row rfl _ _ (w.heap.size + 1) 53 _ (0, 0) _ rfl ((hX1.out.put _ _ _ _ _ _ _ _ _ _ _ _)).heap Tryz.underlying53 rfl (by kernel_rfl)) rfl ?_
  rw [HV.out]
  exact out_done rfl hi2.out (hm2.out.put hX1.out _ _ _ _ _ _ _ _ _ _ _ _) (ht2.out.put (by omega) _ _ _ _ _ _ _ _ _ _ _ _)
set_option maxRecDepth 100000 in
set_option maxHeartbeats 6400000 in
theorem l4Item_sexport_false (ts : List Tk) (fin : Nat) (gt cap base : Nat) (S : Sv) (q : PS) (w : World) (hm : Mem (Cx.mk ts fin false) gt cap base S q w) (h0 : isT (Cx.mk ts fin false) q.pos 1 sImport = false) (h1 : isT (Cx.mk ts fin false) q.pos 1 sExport = true) :
    Calls Tryz.prog 21 #[pv (Cx.mk ts fin false) gt cap S q (-1) 0] w (Out (Cx.mk ts fin false) gt cap base (itemP (Cx.mk ts fin false) q) 0 S w) := by
  have HM := hidI hm
  have htok := hm.tok
  have hfew : (Cx.mk ts fin false).ts.length ≤ 4000 := hm.few
  clear hm
  have HV : Hid (itemP (Cx.mk ts fin false) q = exportP (Cx.mk ts fin false) q) := by show itemP (Cx.mk ts fin false) q = _; rw [itemP, h0, h1]; rfl
  unfold pv
  go_enter Tryz.func21, Tryz.ntmps21
  go_wp2_with fail
  refine (is_spec (Cx.mk ts fin false) gt cap base S q (-1) 0 1 sImport _ (ownT_alloc (ownT_alloc htok _) _) hfew (by decide)).mono ?_
  rintro e w1 ⟨rfl, hb1⟩
  rw [h0]
  obtain ⟨X0, X1, m1, t1⟩ := HM.out.two hb1
  have hX0 := hidI X0
  have hX1 := hidI X1
  have hm1 := hidI m1
  have ht1 := hidI t1
  clear X0 X1 m1 t1 hb1
  clear htok
  obtain ⟨a0, a1, a2, a3, a4, a5, a6, a7, a8, a9, a10, a11, af⟩ := hX0.out.box
  go_wp2_with fail
  refine (is_spec (Cx.mk ts fin false) gt cap base S q (-1) 0 1 sExport _ hm1.out.tok hfew (by decide)).mono ?_
  rintro e w2 ⟨rfl, hb2⟩
  rw [h1]
  replace hX0 := hidI (hX0.out.below hb2)
  replace hX1 := hidI (hX1.out.below hb2)
  have ht2 := hidI (ht1.out.below hb2)
  have hm2 := hidI (hm1.out.later hb2)
  clear hb2 ht1 hm1
  clear a0 a1 a2 a3 a4 a5 a6 a7 a8 a9 a10 a11 af
  obtain ⟨a0, a1, a2, a3, a4, a5, a6, a7, a8, a9, a10, a11, af⟩ := hX0.out.box
  go_wp2_with fail
  refine (l4Export_spec (Cx.mk ts fin false) gt cap base S q _ hm2.out h1).mono ?_
  rintro e w3 ⟨S3, q3, z3, rfl, i3, m3, s3⟩
  replace hX0 := hidI (hX0.out.stp s3)
  replace hX1 := hidI (hX1.out.stp s3)
  have ht3 := hidI (ht2.out.step s3)
  clear ht2
  have hm3 := hidI m3
  have hi3 := hidI i3
  clear i3 m3 s3 hm2
  clear a0 a1 a2 a3 a4 a5 a6 a7 a8 a9 a10 a11 af
  obtain ⟨b0, b1, b2, b3, b4, b5, b6, b7, b8, b9, b10, b11, bf⟩ := hX1.out.box
  unfold pv
  go_wp2
  refine bodyPost_ret (results_cell_row rfl _ _ (w.heap.size + 1) 53 _ (0, 0) _ rfl ((hX1.out.put _ _ _ _ _ _ _ _ _ _ _ _)).heap Tryz.underlying53 rfl (by kernel_rfl)) rfl ?_
  rw [HV.out]
  exact out_done rfl hi3.out (hm3.out.put hX1.out _ _ _ _ _ _ _ _ _ _ _ _) (ht3.out.put (by omega) _ _ _ _ _ _ _ _ _ _ _ _)
set_option maxRecDepth 100000 in
set_option maxHeartbeats 6400000 in
theorem l4Item_slet_false (ts : List Tk) (fin : Nat) (gt cap base : Nat) (S : Sv) (q : PS) (w : World) (hm : Mem (Cx.mk ts fin false) gt cap base S q w) (h0 : isT (Cx.mk ts fin false) q.pos 1 sImport = false) (h1 : isT (Cx.mk ts fin false) q.pos 1 sExport = false) (h2 : isT (Cx.mk ts fin false) q.pos 1 sLet = true) :
    Calls Tryz.prog 21 #[pv (Cx.mk ts fin false) gt cap S q (-1) 0] w (Out (Cx.mk ts fin false) gt cap base (itemP (Cx.mk ts fin false) q) 0 S w) := by
  have HM := hidI hm
  have htok := hm.tok
  have hfew : (Cx.mk ts fin false).ts.length ≤ 4000 := hm.few
  clear hm
  have HV : Hid (itemP (Cx.mk ts fin false) q = fstP (letP (Cx.mk ts fin false) q)) := by show itemP (Cx.mk ts fin false) q = _; rw [itemP, h0, h1, h2]; rfl
  unfold pv
  go_enter Tryz.func21, Tryz.ntmps21
  go_wp2_with fail
  refine (is_spec (Cx.mk ts fin false) gt cap base S q (-1) 0 1 sImport _ (ownT_alloc (ownT_alloc htok _) _) hfew (by decide)).mono ?_
  rintro e w1 ⟨rfl, hb1⟩
  rw [h0]
  obtain ⟨X0, X1, m1, t1⟩ := HM.out.two hb1
  have hX0 := hidI X0
  have hX1 := hidI X1
  have hm1 := hidI m1
  have ht1 := hidI t1
  clear X0 X1 m1 t1 hb1
  clear htok
  obtain ⟨a0, a1, a2, a3, a4, a5, a6, a7, a8, a9, a10, a11, af⟩ := hX0.out.box
  go_wp2_with fail
  refine (is_spec (Cx.mk ts fin false) gt cap base S q (-1) 0 1 sExport _ hm1.out.tok hfew (by decide)).mono ?_
  rintro e w2 ⟨rfl, hb2⟩
  rw [h1]
  replace hX0 := hidI (hX0.out.below hb2)
  replace hX1 := hidI (hX1.out.below hb2)
  have ht2 := hidI (ht1.out.below hb2)
  have hm2 := hidI (hm1.out.later hb2)
  clear hb2 ht1 hm1
  clear a0 a1 a2 a3 a4 a5 a6 a7 a8 a9 a10 a11 af
  obtain ⟨a0, a1, a2, a3, a4, a5, a6, a7, a8, a9, a10, a11, af⟩ := hX0.out.box
  go_wp2_with fail
  refine (is_spec (Cx.mk ts fin false) gt cap base S q (-1) 0 1 sLet _ hm2.out.tok hfew (by decide)).mono ?_
  rintro e w3 ⟨rfl, hb3⟩
  rw [h2]
  replace hX0 := hidI (hX0.out.below hb3)
  replace hX1 := hidI (hX1.out.below hb3)
  have ht3 := hidI (ht2.out.below hb3)
  have hm3 := hidI (hm2.out.later hb3)
  clear hb3 ht2 hm2
  clear a0 a1 a2 a3 a4 a5 a6 a7 a8 a9 a10 a11 af
  obtain ⟨a0, a1, a2, a3, a4, a5, a6, a7, a8, a9, a10, a11, af⟩ := hX0.out.box
  go_wp2_with fail
  refine (l4Let_spec (Cx.mk ts fin false) gt cap base S q _ hm3.out).mono ?_
  rintro e w4 ⟨S4, q4, z4, n4, rfl, i4, m4, s4⟩
  replace hX0 := hidI (hX0.out.stp s4)
  replace hX1 := hidI (hX1.out.stp s4)
  have ht4 := hidI (ht3.out.step s4)
  clear ht3
  have hm4 := hidI m4
  have hi4 := hidI i4
  clear i4 m4 s4 hm3
  clear a0 a1 a2 a3 a4 a5 a6 a7 a8 a9 a10 a11 af
  have hlt2 : w.heap.size + 1 < w4.heap.size := hX1.out.lt
  unfold pv
  go_upto_region 7 with fail
  refine world_any (R := fun W => Bx gt S4 W (w.heap.size) _ ∧ Bx gt S4 W (w.heap.size + 1) _ ∧ Bx gt S4 W (w4.heap.size) _ ∧ Mem (Cx.mk ts fin false) gt cap base S4 q4 W ∧ SB w.heap.size S w S4 W) ⟨(hX0.out.alloc _), (hX1.out.alloc _), (Bx.new hm4.out _), (hm4.out.alloc _), (ht4.out.alloc _)⟩ ?_
  clear hX0 hX1 ht4 hm4
  rintro w5 ⟨X0, X1, X2, m5, t5⟩
  have hX0 := hidI X0
  have hX1 := hidI X1
  have hX2 := hidI X2
  have hm5 := hidI m5
  have ht5 := hidI t5
  clear m5 t5 X0 X1 X2
  obtain ⟨b0, b1, b2, b3, b4, b5, b6, b7, b8, b9, b10, b11, bf⟩ := hX1.out.box
  obtain ⟨c0, c1, c2, c3, c4, c5, c6, c7, c8, c9, c10, c11, cf⟩ := hX2.out.box
  go_wp2
  refine bodyPost_ret (results_cell_row rfl _ _ (w.heap.size + 1) 53 _ (0, 0) _ rfl ((hX1.out.put _ _ _ _ _ _ _ _ _ _ _ _)).heap Tryz.underlying53 rfl (by kernel_rfl)) rfl ?_
  rw [HV.out]
  exact out_done rfl hi4.out.fst (hm5.out.put hX1.out _ _ _ _ _ _ _ _ _ _ _ _) (ht5.out.put (by omega) _ _ _ _ _ _ _ _ _ _ _ _)
set_option maxRecDepth 100000 in
set_option maxHeartbeats 6400000 in
theorem l4Item_sfunction_false (ts : List Tk) (fin : Nat) (gt cap base : Nat) (S : Sv) (q : PS) (w : World) (hm : Mem (Cx.mk ts fin false) gt cap base S q w) (h0 : isT (Cx.mk ts fin false) q.pos 1 sImport = false) (h1 : isT (Cx.mk ts fin false) q.pos 1 sExport = false) (h2 : isT (Cx.mk ts fin false) q.pos 1 sLet = false) (h3 : isT (Cx.mk ts fin false) q.pos 1 sFunction = true) :
    Calls Tryz.prog 21 #[pv (Cx.mk ts fin false) gt cap S q (-1) 0] w (Out (Cx.mk ts fin false) gt cap base (itemP (Cx.mk ts fin false) q) 0 S w) := by
  have HM := hidI hm
  have htok := hm.tok
  have hfew : (Cx.mk ts fin false).ts.length ≤ 4000 := hm.few
  clear hm
  have HV : Hid (itemP (Cx.mk ts fin false) q = fstP (fnP (Cx.mk ts fin false) q)) := by show itemP (Cx.mk ts fin false) q = _; rw [itemP, h0, h1, h2, h3]; rfl
  unfold pv
  go_enter Tryz.func21, Tryz.ntmps21
  go_wp2_with fail
  refine (is_spec (Cx.mk ts fin false) gt cap base S q (-1) 0 1 sImport _ (ownT_alloc (ownT_alloc htok _) _) hfew (by decide)).mono ?_
  rintro e w1 ⟨rfl, hb1⟩
  rw [h0]
  obtain ⟨X0, X1, m1, t1⟩ := HM.out.two hb1
  have hX0 := hidI X0
  have hX1 := hidI X1
  have hm1 := hidI m1
  have ht1 := hidI t1
  clear X0 X1 m1 t1 hb1
  clear htok
  obtain ⟨a0, a1, a2, a3, a4, a5, a6, a7, a8, a9, a10, a11, af⟩ := hX0.out.box
  go_wp2_with fail
  refine (is_spec (Cx.mk ts fin false) gt cap base S q (-1) 0 1 sExport _ hm1.out.tok hfew (by decide)).mono ?_
  rintro e w2 ⟨rfl, hb2⟩
  rw [h1]
  replace hX0 := hidI (hX0.out.below hb2)
  replace hX1 := hidI (hX1.out.below hb2)
  have ht2 := hidI (ht1.out.below hb2)
  have hm2 := hidI (hm1.out.later hb2)
  clear hb2 ht1 hm1
  clear a0 a1 a2 a3 a4 a5 a6 a7 a8 a9 a10 a11 af
  obtain ⟨a0, a1, a2, a3, a4, a5, a6, a7, a8, a9, a10, a11, af⟩ := hX0.out.box
  go_wp2_with fail
  refine (is_spec (Cx.mk ts fin false) gt cap base S q (-1) 0 1 sLet _ hm2.out.tok hfew (by decide)).mono ?_
  rintro e w3 ⟨rfl, hb3⟩
  rw [h2]
  replace hX0 := hidI (hX0.out.below hb3)
  replace hX1 := hidI (hX1.out.below hb3)
  have ht3 := hidI (ht2.out.below hb3)
  have hm3 := hidI (hm2.out.later hb3)
  clear hb3 ht2 hm2
  clear a0 a1 a2 a3 a4 a5 a6 a7 a8 a9 a10 a11 af
  obtain ⟨a0, a1, a2, a3, a4, a5, a6, a7, a8, a9, a10, a11, af⟩ := hX0.out.box
  go_wp2_with fail
  refine (is_spec (Cx.mk ts fin false) gt cap base S q (-1) 0 1 sFunction _ hm3.out.tok hfew (by decide)).mono ?_
  rintro e w4 ⟨rfl, hb4⟩
  rw [h3]
  replace hX0 := hidI (hX0.out.below hb4)
  replace hX1 := hidI (hX1.out.below hb4)
  have ht4 := hidI (ht3.out.below hb4)
  have hm4 := hidI (hm3.out.later hb4)
  clear hb4 ht3 hm3
  clear a0 a1 a2 a3 a4 a5 a6 a7 a8 a9 a10 a11 af
  obtain ⟨a0, a1, a2, a3, a4, a5, a6, a7, a8, a9, a10, a11, af⟩ := hX0.out.box
  go_wp2_with fail
  refine (l4Fn_spec (Cx.mk ts fin false) gt cap base S q _ hm4.out).mono ?_
  rintro e w5 ⟨S5, q5, z5, n5, rfl, i5, m5, s5⟩
  replace hX0 := hidI (hX0.out.stp s5)
  replace hX1 := hidI (hX1.out.stp s5)
  have ht5 := hidI (ht4.out.step s5)
  clear ht4
  have hm5 := hidI m5
  have hi5 := hidI i5
  clear i5 m5 s5 hm4
  clear a0 a1 a2 a3 a4 a5 a6 a7 a8 a9 a10 a11 af
  have hlt2 : w.heap.size + 1 < w5.heap.size := hX1.out.lt
  unfold pv
  go_upto_region 10 with fail
  refine world_any (R := fun W => Bx gt S5 W (w.heap.size) _ ∧ Bx gt S5 W (w.heap.size + 1) _ ∧ Bx gt S5 W (w5.heap.size) _ ∧ Mem (Cx.mk ts fin false) gt cap base S5 q5 W ∧ SB w.heap.size S w S5 W) ⟨(hX0.out.alloc _), (hX1.out.alloc _), (Bx.new hm5.out _), (hm5.out.alloc _), (ht5.out.alloc _)⟩ ?_
  clear hX0 hX1 ht5 hm5
  rintro w6 ⟨X0, X1, X2, m6, t6⟩
  have hX0 := hidI X0
  have hX1 := hidI X1
  have hX2 := hidI X2
  have hm6 := hidI m6
  have ht6 := hidI t6
  clear m6 t6 X0 X1 X2
  obtain ⟨b0, b1, b2, b3, b4, b5, b6, b7, b8, b9, b10, b11, bf⟩ := hX1.out.box
  obtain ⟨c0, c1, c2, c3, c4, c5, c6, c7, c8, c9, c10, c11, cf⟩ := hX2.out.box
  go_wp2
  refine bodyPost_ret (results_cell_row rfl _ _ (w.heap.size + 1) 53 _ (0, 0) _ rfl ((hX1.out.put _ _ _ _ _ _ _ _ _ _ _ _)).heap Tryz.underlying53 rfl (by kernel_rfl)) rfl ?_
  rw [HV.out]
  exact out_done rfl hi5.out.fst (hm6.out.put hX1.out _ _ _ _ _ _ _ _ _ _ _ _) (ht6.out.put (by omega) _ _ _ _ _ _ _ _ _ _ _ _)
set_option maxRecDepth 100000 in
set_option maxHeartbeats 6400000 in
theorem l4Item_sprint_false (ts : List Tk) (fin : Nat) (gt cap base : Nat) (S : Sv) (q : PS) (w : World) (hm : Mem (Cx.mk ts fin false) gt cap base S q w) (h0 : isT (Cx.mk ts fin false) q.pos 1 sImport = false) (h1 : isT (Cx.mk ts fin false) q.pos 1 sExport = false) (h2 : isT (Cx.mk ts fin false) q.pos 1 sLet = false) (h3 : isT (Cx.mk ts fin false) q.pos 1 sFunction = false) (h4 : isT (Cx.mk ts fin false) q.pos 1 sPrint = true) :
    Calls Tryz.prog 21 #[pv (Cx.mk ts fin false) gt cap S q (-1) 0] w (Out (Cx.mk ts fin false) gt cap base (itemP (Cx.mk ts fin false) q) 0 S w) := by
  have HM := hidI hm
  have htok := hm.tok
  have hfew : (Cx.mk ts fin false).ts.length ≤ 4000 := hm.few
  clear hm
  have HV : Hid (itemP (Cx.mk ts fin false) q = bd (bd (bd (bd (bd (bd (.ok q) (tokP (Cx.mk ts fin false) 1 sPrint)) (tokP (Cx.mk ts fin false) 4 cOpen)) (pE (Cx.mk ts fin false) .sum 0)) (tokP (Cx.mk ts fin false) 4 cShut)) (tokP (Cx.mk ts fin false) 4 cSemi)) (addSt (Cx.mk ts fin false) 4 sNone)) := by show itemP (Cx.mk ts fin false) q = _; rw [itemP, h0, h1, h2, h3, h4]; rfl
  unfold pv
  go_enter Tryz.func21, Tryz.ntmps21
  go_wp2_with fail
  refine (is_spec (Cx.mk ts fin false) gt cap base S q (-1) 0 1 sImport _ (ownT_alloc (ownT_alloc htok _) _) hfew (by decide)).mono ?_
  rintro e w1 ⟨rfl, hb1⟩
  rw [h0]
  obtain ⟨X0, X1, m1, t1⟩ := HM.out.two hb1
  have hX0 := hidI X0
  have hX1 := hidI X1
  have hm1 := hidI m1
  have ht1 := hidI t1
  clear X0 X1 m1 t1 hb1
  clear htok
  obtain ⟨a0, a1, a2, a3, a4, a5, a6, a7, a8, a9, a10, a11, af⟩ := hX0.out.box
  go_wp2_with fail
  refine (is_spec (Cx.mk ts fin false) gt cap base S q (-1) 0 1 sExport _ hm1.out.tok hfew (by decide)).mono ?_
  rintro e w2 ⟨rfl, hb2⟩
  rw [h1]
  replace hX0 := hidI (hX0.out.below hb2)
  replace hX1 := hidI (hX1.out.below hb2)
  have ht2 := hidI (ht1.out.below hb2)
  have hm2 := hidI (hm1.out.later hb2)
  clear hb2 ht1 hm1
  clear a0 a1 a2 a3 a4 a5 a6 a7 a8 a9 a10 a11 af
  obtain ⟨a0, a1, a2, a3, a4, a5, a6, a7, a8, a9, a10, a11, af⟩ := hX0.out.box
  go_wp2_with fail
  refine (is_spec (Cx.mk ts fin false) gt cap base S q (-1) 0 1 sLet _ hm2.out.tok hfew (by decide)).mono ?_
  rintro e w3 ⟨rfl, hb3⟩
  rw [h2]
  replace hX0 := hidI (hX0.out.below hb3)
  replace hX1 := hidI (hX1.out.below hb3)
  have ht3 := hidI (ht2.out.below hb3)
  have hm3 := hidI (hm2.out.later hb3)
  clear hb3 ht2 hm2
  clear a0 a1 a2 a3 a4 a5 a6 a7 a8 a9 a10 a11 af
  obtain ⟨a0, a1, a2, a3, a4, a5, a6, a7, a8, a9, a10, a11, af⟩ := hX0.out.box
  go_wp2_with fail
  refine (is_spec (Cx.mk ts fin false) gt cap base S q (-1) 0 1 sFunction _ hm3.out.tok hfew (by decide)).mono ?_
  rintro e w4 ⟨rfl, hb4⟩
  rw [h3]
  replace hX0 := hidI (hX0.out.below hb4)
  replace hX1 := hidI (hX1.out.below hb4)
  have ht4 := hidI (ht3.out.below hb4)
  have hm4 := hidI (hm3.out.later hb4)
  clear hb4 ht3 hm3
  clear a0 a1 a2 a3 a4 a5 a6 a7 a8 a9 a10 a11 af
  obtain ⟨a0, a1, a2, a3, a4, a5, a6, a7, a8, a9, a10, a11, af⟩ := hX0.out.box
  go_wp2_with fail
  refine (is_spec (Cx.mk ts fin false) gt cap base S q (-1) 0 1 sPrint _ hm4.out.tok hfew (by decide)).mono ?_
  rintro e w5 ⟨rfl, hb5⟩
  rw [h4]
  replace hX0 := hidI (hX0.out.below hb5)
  replace hX1 := hidI (hX1.out.below hb5)
  have ht5 := hidI (ht4.out.below hb5)
  have hm5 := hidI (hm4.out.later hb5)
  clear hb5 ht4 hm4
  clear a0 a1 a2 a3 a4 a5 a6 a7 a8 a9 a10 a11 af
  obtain ⟨a0, a1, a2, a3, a4, a5, a6, a7, a8, a9, a10, a11, af⟩ := hX0.out.box
  go_wp2_with fail
  refine (l4Word_spec (Cx.mk ts fin false) gt cap base (.ok q) S q (-1) 0 sPrint _ (is_ok q) hm5.out).mono ?_
  rintro e w6 ⟨S6, q6, z6, rfl, i6, m6, s6⟩
  replace hX0 := hidI (hX0.out.stp s6)
  replace hX1 := hidI (hX1.out.stp s6)
  have ht6 := hidI (ht5.out.step s6)
  clear ht5
  have hm6 := hidI m6
  have hi6 := hidI i6
  clear i6 m6 s6 hm5
  clear a0 a1 a2 a3 a4 a5 a6 a7 a8 a9 a10 a11 af
  go_wp2_with fail
  refine (l4Sign_spec (Cx.mk ts fin false) gt cap base _ S6 q6 z6 0 cOpen _ hi6.out hm6.out).mono ?_
  rintro e w7 ⟨S7, q7, z7, rfl, i7, m7, s7⟩
  replace hX0 := hidI (hX0.out.stp s7)
  replace hX1 := hidI (hX1.out.stp s7)
  have ht7 := hidI (ht6.out.step s7)
  clear ht6
  have hm7 := hidI m7
  have hi7 := hidI i7
  clear i7 m7 s7 hm6
  go_wp2_with fail
  refine (l4Sum_spec (Cx.mk ts fin false) gt cap base _ S7 q7 z7 _ hi7.out hm7.out).mono ?_
  rintro e w8 ⟨S8, q8, z8, rfl, i8, m8, s8⟩
  replace hX0 := hidI (hX0.out.stp s8)
  replace hX1 := hidI (hX1.out.stp s8)
  have ht8 := hidI (ht7.out.step s8)
  clear ht7
  have hm8 := hidI m8
  have hi8 := hidI i8
  clear i8 m8 s8 hm7
  go_wp2_with fail
  refine (l4Sign_spec (Cx.mk ts fin false) gt cap base _ S8 q8 z8 0 cShut _ hi8.out hm8.out).mono ?_
  rintro e w9 ⟨S9, q9, z9, rfl, i9, m9, s9⟩
  replace hX0 := hidI (hX0.out.stp s9)
  replace hX1 := hidI (hX1.out.stp s9)
  have ht9 := hidI (ht8.out.step s9)
  clear ht8
  have hm9 := hidI m9
  have hi9 := hidI i9
  clear i9 m9 s9 hm8
  have hlt2 : w.heap.size + 1 < w9.heap.size := hX1.out.lt
  unfold pv
  go_upto_region 13 with fail
  refine world_any (R := fun W => Bx gt S9 W (w.heap.size) _ ∧ Bx gt S9 W (w.heap.size + 1) _ ∧ Bx gt S9 W (w9.heap.size) _ ∧ Mem (Cx.mk ts fin false) gt cap base S9 q9 W ∧ SB w.heap.size S w S9 W) ⟨(hX0.out.alloc _), (hX1.out.alloc _), (Bx.new hm9.out _), (hm9.out.alloc _), (ht9.out.alloc _)⟩ ?_
  clear hX0 hX1 ht9 hm9
  rintro w10 ⟨X0, X1, X2, m10, t10⟩
  have hX0 := hidI X0
  have hX1 := hidI X1
  have hX2 := hidI X2
  have hm10 := hidI m10
  have ht10 := hidI t10
  clear m10 t10 X0 X1 X2
  obtain ⟨c0, c1, c2, c3, c4, c5, c6, c7, c8, c9, c10, c11, cf⟩ := hX2.out.box
  go_wp2_with fail
  refine (l4Sign_spec (Cx.mk ts fin false) gt cap base _ S9 q9 z9 0 cSemi _ hi9.out hm10.out).mono ?_
  rintro e w11 ⟨S11, q11, z11, rfl, i11, m11, s11⟩
  replace hX0 := hidI (hX0.out.stp s11)
  replace hX1 := hidI (hX1.out.stp s11)
  replace hX2 := hidI (hX2.out.stp s11)
  have ht11 := hidI (ht10.out.step s11)
  clear ht10
  have hm11 := hidI m11
  have hi11 := hidI i11
  clear i11 m11 s11 hm10
  clear c0 c1 c2 c3 c4 c5 c6 c7 c8 c9 c10 c11 cf
  go_wp2_with fail
  refine (l4Stmt_spec (Cx.mk ts fin false) gt cap base _ S11 q11 z11 0 4 sNone _ hi11.out hm11.out (pos_tok hi11.out)).mono ?_
  rintro e w12 ⟨S12, q12, z12, rfl, i12, m12, s12⟩
  replace hX0 := hidI (hX0.out.stp s12)
  replace hX1 := hidI (hX1.out.stp s12)
  replace hX2 := hidI (hX2.out.stp s12)
  have ht12 := hidI (ht11.out.step s12)
  clear ht11
  have hm12 := hidI m12
  have hi12 := hidI i12
  clear i12 m12 s12 hm11
  obtain ⟨b0, b1, b2, b3, b4, b5, b6, b7, b8, b9, b10, b11, bf⟩ := hX1.out.box
  unfold pv
  go_wp2
  refine bodyPost_ret (results_cell_row rfl _ _ (w.heap.size + 1) 53 _ (0, 0) _ rfl ((hX1.out.put _ _ _ _ _ _ _ _ _ _ _ _)).heap Tryz.underlying53 rfl (by kernel_rfl)) rfl ?_
  rw [HV.out]
  exact out_done rfl hi12.out (hm12.out.put hX1.out _ _ _ _ _ _ _ _ _ _ _ _) (ht12.out.put (by omega) _ _ _ _ _ _ _ _ _ _ _ _)
set_option maxRecDepth 100000 in
set_option maxHeartbeats 6400000 in
theorem l4Item_sthrow_false (ts : List Tk) (fin : Nat) (gt cap base : Nat) (S : Sv) (q : PS) (w : World) (hm : Mem (Cx.mk ts fin false) gt cap base S q w) (h0 : isT (Cx.mk ts fin false) q.pos 1 sImport = false) (h1 : isT (Cx.mk ts fin false) q.pos 1 sExport = false) (h2 : isT (Cx.mk ts fin false) q.pos 1 sLet = false) (h3 : isT (Cx.mk ts fin false) q.pos 1 sFunction = false) (h4 : isT (Cx.mk ts fin false) q.pos 1 sPrint = false) (h5 : isT (Cx.mk ts fin false) q.pos 1 sThrow = true) :
    Calls Tryz.prog 21 #[pv (Cx.mk ts fin false) gt cap S q (-1) 0] w (Out (Cx.mk ts fin false) gt cap base (itemP (Cx.mk ts fin false) q) 0 S w) := by
  have HM := hidI hm
  have htok := hm.tok
  have hfew : (Cx.mk ts fin false).ts.length ≤ 4000 := hm.few
  clear hm
  have HV : Hid (itemP (Cx.mk ts fin false) q = bd (bd (bd (bd (.ok q) (tokP (Cx.mk ts fin false) 1 sThrow)) (pE (Cx.mk ts fin false) .sum 0)) (tokP (Cx.mk ts fin false) 4 cSemi)) (addSt (Cx.mk ts fin false) 5 sNone)) := by show itemP (Cx.mk ts fin false) q = _; rw [itemP, h0, h1, h2, h3, h4, h5]; rfl
  unfold pv
  go_enter Tryz.func21, Tryz.ntmps21
  go_wp2_with fail
  refine (is_spec (Cx.mk ts fin false) gt cap base S q (-1) 0 1 sImport _ (ownT_alloc (ownT_alloc htok _) _) hfew (by decide)).mono ?_
  rintro e w1 ⟨rfl, hb1⟩
  rw [h0]
  obtain ⟨X0, X1, m1, t1⟩ := HM.out.two hb1
  have hX0 := hidI X0
  have hX1 := hidI X1
  have hm1 := hidI m1
  have ht1 := hidI t1
  clear X0 X1 m1 t1 hb1
  clear htok
  obtain ⟨a0, a1, a2, a3, a4, a5, a6, a7, a8, a9, a10, a11, af⟩ := hX0.out.box
  go_wp2_with fail
  refine (is_spec (Cx.mk ts fin false) gt cap base S q (-1) 0 1 sExport _ hm1.out.tok hfew (by decide)).mono ?_
  rintro e w2 ⟨rfl, hb2⟩
  rw [h1]
  replace hX0 := hidI (hX0.out.below hb2)
  replace hX1 := hidI (hX1.out.below hb2)
  have ht2 := hidI (ht1.out.below hb2)
  have hm2 := hidI (hm1.out.later hb2)
  clear hb2 ht1 hm1
  clear a0 a1 a2 a3 a4 a5 a6 a7 a8 a9 a10 a11 af
  obtain ⟨a0, a1, a2, a3, a4, a5, a6, a7, a8, a9, a10, a11, af⟩ := hX0.out.box
  go_wp2_with fail
  refine (is_spec (Cx.mk ts fin false) gt cap base S q (-1) 0 1 sLet _ hm2.out.tok hfew (by decide)).mono ?_
  rintro e w3 ⟨rfl, hb3⟩
  rw [h2]
  replace hX0 := hidI (hX0.out.below hb3)
  replace hX1 := hidI (hX1.out.below hb3)
  have ht3 := hidI (ht2.out.below hb3)
  have hm3 := hidI (hm2.out.later hb3)
  clear hb3 ht2 hm2
  clear a0 a1 a2 a3 a4 a5 a6 a7 a8 a9 a10 a11 af
  obtain ⟨a0, a1, a2, a3, a4, a5, a6, a7, a8, a9, a10, a11, af⟩ := hX0.out.box
  go_wp2_with fail
  refine (is_spec (Cx.mk ts fin false) gt cap base S q (-1) 0 1 sFunction _ hm3.out.tok hfew (by decide)).mono ?_
  rintro e w4 ⟨rfl, hb4⟩
  rw [h3]
  replace hX0 := hidI (hX0.out.below hb4)
  replace hX1 := hidI (hX1.out.below hb4)
  have ht4 := hidI (ht3.out.below hb4)
  have hm4 := hidI (hm3.out.later hb4)
  clear hb4 ht3 hm3
  clear a0 a1 a2 a3 a4 a5 a6 a7 a8 a9 a10 a11 af
  obtain ⟨a0, a1, a2, a3, a4, a5, a6, a7, a8, a9, a10, a11, af⟩ := hX0.out.box
  go_wp2_with fail
  refine (is_spec (Cx.mk ts fin false) gt cap base S q (-1) 0 1 sPrint _ hm4.out.tok hfew (by decide)).mono ?_
  rintro e w5 ⟨rfl, hb5⟩
  rw [h4]
  replace hX0 := hidI (hX0.out.below hb5)
  replace hX1 := hidI (hX1.out.below hb5)
  have ht5 := hidI (ht4.out.below hb5)
  have hm5 := hidI (hm4.out.later hb5)
  clear hb5 ht4 hm4
  clear a0 a1 a2 a3 a4 a5 a6 a7 a8 a9 a10 a11 af
  obtain ⟨a0, a1, a2, a3, a4, a5, a6, a7, a8, a9, a10, a11, af⟩ := hX0.out.box
  go_wp2_with fail
  refine (is_spec (Cx.mk ts fin false) gt cap base S q (-1) 0 1 sThrow _ hm5.out.tok hfew (by decide)).mono ?_
  rintro e w6 ⟨rfl, hb6⟩
  rw [h5]
  replace hX0 := hidI (hX0.out.below hb6)
  replace hX1 := hidI (hX1.out.below hb6)
  have ht6 := hidI (ht5.out.below hb6)
  have hm6 := hidI (hm5.out.later hb6)
  clear hb6 ht5 hm5
  clear a0 a1 a2 a3 a4 a5 a6 a7 a8 a9 a10 a11 af
  obtain ⟨a0, a1, a2, a3, a4, a5, a6, a7, a8, a9, a10, a11, af⟩ := hX0.out.box
  go_wp2_with fail
  refine (l4Word_spec (Cx.mk ts fin false) gt cap base (.ok q) S q (-1) 0 sThrow _ (is_ok q) hm6.out).mono ?_
  rintro e w7 ⟨S7, q7, z7, rfl, i7, m7, s7⟩
  replace hX0 := hidI (hX0.out.stp s7)
  replace hX1 := hidI (hX1.out.stp s7)
  have ht7 := hidI (ht6.out.step s7)
  clear ht6
  have hm7 := hidI m7
  have hi7 := hidI i7
  clear i7 m7 s7 hm6
  clear a0 a1 a2 a3 a4 a5 a6 a7 a8 a9 a10 a11 af
  go_wp2_with fail
  refine (l4Sum_spec (Cx.mk ts fin false) gt cap base _ S7 q7 z7 _ hi7.out hm7.out).mono ?_
  rintro e w8 ⟨S8, q8, z8, rfl, i8, m8, s8⟩
  replace hX0 := hidI (hX0.out.stp s8)
  replace hX1 := hidI (hX1.out.stp s8)
  have ht8 := hidI (ht7.out.step s8)
  clear ht7
  have hm8 := hidI m8
  have hi8 := hidI i8
  clear i8 m8 s8 hm7
  go_wp2_with fail
  refine (l4Sign_spec (Cx.mk ts fin false) gt cap base _ S8 q8 z8 0 cSemi _ hi8.out hm8.out).mono ?_
  rintro e w9 ⟨S9, q9, z9, rfl, i9, m9, s9⟩
  replace hX0 := hidI (hX0.out.stp s9)
  replace hX1 := hidI (hX1.out.stp s9)
  have ht9 := hidI (ht8.out.step s9)
  clear ht8
  have hm9 := hidI m9
  have hi9 := hidI i9
  clear i9 m9 s9 hm8
  go_wp2_with fail
  refine (l4Stmt_spec (Cx.mk ts fin false) gt cap base _ S9 q9 z9 0 5 sNone _ hi9.out hm9.out (pos_tok hi9.out)).mono ?_
  rintro e w10 ⟨S10, q10, z10, rfl, i10, m10, s10⟩
  replace hX0 := hidI (hX0.out.stp s10)
  replace hX1 := hidI (hX1.out.stp s10)
  have ht10 := hidI (ht9.out.step s10)
  clear ht9
  have hm10 := hidI m10
  have hi10 := hidI i10
  clear i10 m10 s10 hm9
  obtain ⟨b0, b1, b2, b3, b4, b5, b6, b7, b8, b9, b10, b11, bf⟩ := hX1.out.box
  unfold pv
  go_wp2
  refine bodyPost_ret (results_cell_row rfl _ _ (w.heap.size + 1) 53 _ (0, 0) _ rfl ((hX1.out.put _ _ _ _ _ _ _ _ _ _ _ _)).heap Tryz.underlying53 rfl (by kernel_rfl)) rfl ?_
  rw [HV.out]
  exact out_done rfl hi10.out (hm10.out.put hX1.out _ _ _ _ _ _ _ _ _ _ _ _) (ht10.out.put (by omega) _ _ _ _ _ _ _ _ _ _ _ _)
set_option maxRecDepth 100000 in
set_option maxHeartbeats 6400000 in
theorem l4Item_set_false (ts : List Tk) (fin : Nat) (gt cap base : Nat) (S : Sv) (q : PS) (w : World) (hm : Mem (Cx.mk ts fin false) gt cap base S q w) (h0 : isT (Cx.mk ts fin false) q.pos 1 sImport = false) (h1 : isT (Cx.mk ts fin false) q.pos 1 sExport = false) (h2 : isT (Cx.mk ts fin false) q.pos 1 sLet = false) (h3 : isT (Cx.mk ts fin false) q.pos 1 sFunction = false) (h4 : isT (Cx.mk ts fin false) q.pos 1 sPrint = false) (h5 : isT (Cx.mk ts fin false) q.pos 1 sThrow = false) :
    Calls Tryz.prog 21 #[pv (Cx.mk ts fin false) gt cap S q (-1) 0] w (Out (Cx.mk ts fin false) gt cap base (itemP (Cx.mk ts fin false) q) 0 S w) := by
  have HM := hidI hm
  have htok := hm.tok
  have hfew : (Cx.mk ts fin false).ts.length ≤ 4000 := hm.few
  clear hm
  have HV : Hid (itemP (Cx.mk ts fin false) q = bd (bd (.ok q) (nameP (Cx.mk ts fin false) false)) fun a => bd (bd (bd (bd (.ok a.1) (tokP (Cx.mk ts fin false) 4 cEq)) (pE (Cx.mk ts fin false) .sum 0)) (tokP (Cx.mk ts fin false) 4 cSemi)) (addSt (Cx.mk ts fin false) 3 a.2)) := by show itemP (Cx.mk ts fin false) q = _; rw [itemP, h0, h1, h2, h3, h4, h5]; rfl
  unfold pv
  go_enter Tryz.func21, Tryz.ntmps21
  go_wp2_with fail
  refine (is_spec (Cx.mk ts fin false) gt cap base S q (-1) 0 1 sImport _ (ownT_alloc (ownT_alloc htok _) _) hfew (by decide)).mono ?_
  rintro e w1 ⟨rfl, hb1⟩
  rw [h0]
  obtain ⟨X0, X1, m1, t1⟩ := HM.out.two hb1
  have hX0 := hidI X0
  have hX1 := hidI X1
  have hm1 := hidI m1
  have ht1 := hidI t1
  clear X0 X1 m1 t1 hb1
  clear htok
  obtain ⟨a0, a1, a2, a3, a4, a5, a6, a7, a8, a9, a10, a11, af⟩ := hX0.out.box
  go_wp2_with fail
  refine (is_spec (Cx.mk ts fin false) gt cap base S q (-1) 0 1 sExport _ hm1.out.tok hfew (by decide)).mono ?_
  rintro e w2 ⟨rfl, hb2⟩
  rw [h1]
  replace hX0 := hidI (hX0.out.below hb2)
  replace hX1 := hidI (hX1.out.below hb2)
  have ht2 := hidI (ht1.out.below hb2)
  have hm2 := hidI (hm1.out.later hb2)
  clear hb2 ht1 hm1
  clear a0 a1 a2 a3 a4 a5 a6 a7 a8 a9 a10 a11 af
  obtain ⟨a0, a1, a2, a3, a4, a5, a6, a7, a8, a9, a10, a11, af⟩ := hX0.out.box
  go_wp2_with fail
  refine (is_spec (Cx.mk ts fin false) gt cap base S q (-1) 0 1 sLet _ hm2.out.tok hfew (by decide)).mono ?_
  rintro e w3 ⟨rfl, hb3⟩
  rw [h2]
  replace hX0 := hidI (hX0.out.below hb3)
  replace hX1 := hidI (hX1.out.below hb3)
  have ht3 := hidI (ht2.out.below hb3)
  have hm3 := hidI (hm2.out.later hb3)
  clear hb3 ht2 hm2
  clear a0 a1 a2 a3 a4 a5 a6 a7 a8 a9 a10 a11 af
  obtain ⟨a0, a1, a2, a3, a4, a5, a6, a7, a8, a9, a10, a11, af⟩ := hX0.out.box
  go_wp2_with fail
  refine (is_spec (Cx.mk ts fin false) gt cap base S q (-1) 0 1 sFunction _ hm3.out.tok hfew (by decide)).mono ?_
  rintro e w4 ⟨rfl, hb4⟩
  rw [h3]
  replace hX0 := hidI (hX0.out.below hb4)
  replace hX1 := hidI (hX1.out.below hb4)
  have ht4 := hidI (ht3.out.below hb4)
  have hm4 := hidI (hm3.out.later hb4)
  clear hb4 ht3 hm3
  clear a0 a1 a2 a3 a4 a5 a6 a7 a8 a9 a10 a11 af
  obtain ⟨a0, a1, a2, a3, a4, a5, a6, a7, a8, a9, a10, a11, af⟩ := hX0.out.box
  go_wp2_with fail
  refine (is_spec (Cx.mk ts fin false) gt cap base S q (-1) 0 1 sPrint _ hm4.out.tok hfew (by decide)).mono ?_
  rintro e w5 ⟨rfl, hb5⟩
  rw [h4]
  replace hX0 := hidI (hX0.out.below hb5)
  replace hX1 := hidI (hX1.out.below hb5)
  have ht5 := hidI (ht4.out.below hb5)
  have hm5 := hidI (hm4.out.later hb5)
  clear hb5 ht4 hm4
  clear a0 a1 a2 a3 a4 a5 a6 a7 a8 a9 a10 a11 af
  obtain ⟨a0, a1, a2, a3, a4, a5, a6, a7, a8, a9, a10, a11, af⟩ := hX0.out.box
  go_wp2_with fail
  refine (is_spec (Cx.mk ts fin false) gt cap base S q (-1) 0 1 sThrow _ hm5.out.tok hfew (by decide)).mono ?_
  rintro e w6 ⟨rfl, hb6⟩
  rw [h5]
  replace hX0 := hidI (hX0.out.below hb6)
  replace hX1 := hidI (hX1.out.below hb6)
  have ht6 := hidI (ht5.out.below hb6)
  have hm6 := hidI (hm5.out.later hb6)
  clear hb6 ht5 hm5
  clear a0 a1 a2 a3 a4 a5 a6 a7 a8 a9 a10 a11 af
  obtain ⟨a0, a1, a2, a3, a4, a5, a6, a7, a8, a9, a10, a11, af⟩ := hX0.out.box
  go_wp2_with fail
  refine (l4Name_spec (Cx.mk ts fin false) gt cap base (.ok q) S q (-1) 0 false _ (is_ok q) hm6.out).mono ?_
  rintro e w7 ⟨S7, q7, z7, n7, rfl, i7, m7, s7⟩
  replace hX0 := hidI (hX0.out.stp s7)
  replace hX1 := hidI (hX1.out.stp s7)
  have ht7 := hidI (ht6.out.step s7)
  clear ht6
  have hm7 := hidI m7
  have hi7 := hidI i7
  clear i7 m7 s7 hm6
  clear a0 a1 a2 a3 a4 a5 a6 a7 a8 a9 a10 a11 af
  have hlt2 : w.heap.size + 1 < w7.heap.size := hX1.out.lt
  unfold pv
  go_upto_region 19 with fail
  refine world_any (R := fun W => Bx gt S7 W (w.heap.size) _ ∧ Bx gt S7 W (w.heap.size + 1) _ ∧ Bx gt S7 W (w7.heap.size) _ ∧ Mem (Cx.mk ts fin false) gt cap base S7 q7 W ∧ SB w.heap.size S w S7 W) ⟨(hX0.out.alloc _), (hX1.out.alloc _), (Bx.new hm7.out _), (hm7.out.alloc _), (ht7.out.alloc _)⟩ ?_
  clear hX0 hX1 ht7 hm7
  rintro w8 ⟨X0, X1, X2, m8, t8⟩
  have hX0 := hidI X0
  have hX1 := hidI X1
  have hX2 := hidI X2
  have hm8 := hidI m8
  have ht8 := hidI t8
  clear m8 t8 X0 X1 X2
  obtain ⟨c0, c1, c2, c3, c4, c5, c6, c7, c8, c9, c10, c11, cf⟩ := hX2.out.box
  go_wp2_with fail
  refine (l4Sign_spec (Cx.mk ts fin false) gt cap base _ S7 q7 z7 0 cEq _ hi7.out.fst hm8.out).mono ?_
  rintro e w9 ⟨S9, q9, z9, rfl, i9, m9, s9⟩
  replace hX0 := hidI (hX0.out.stp s9)
  replace hX1 := hidI (hX1.out.stp s9)
  replace hX2 := hidI (hX2.out.stp s9)
  have ht9 := hidI (ht8.out.step s9)
  clear ht8
  have hm9 := hidI m9
  have hi9 := hidI i9
  clear i9 m9 s9 hm8
  clear c0 c1 c2 c3 c4 c5 c6 c7 c8 c9 c10 c11 cf
  go_wp2_with fail
  refine (l4Sum_spec (Cx.mk ts fin false) gt cap base _ S9 q9 z9 _ hi9.out hm9.out).mono ?_
  rintro e w10 ⟨S10, q10, z10, rfl, i10, m10, s10⟩
  replace hX0 := hidI (hX0.out.stp s10)
  replace hX1 := hidI (hX1.out.stp s10)
  replace hX2 := hidI (hX2.out.stp s10)
  have ht10 := hidI (ht9.out.step s10)
  clear ht9
  have hm10 := hidI m10
  have hi10 := hidI i10
  clear i10 m10 s10 hm9
  go_wp2_with fail
  refine (l4Sign_spec (Cx.mk ts fin false) gt cap base _ S10 q10 z10 0 cSemi _ hi10.out hm10.out).mono ?_
  rintro e w11 ⟨S11, q11, z11, rfl, i11, m11, s11⟩
  replace hX0 := hidI (hX0.out.stp s11)
  replace hX1 := hidI (hX1.out.stp s11)
  replace hX2 := hidI (hX2.out.stp s11)
  have ht11 := hidI (ht10.out.step s11)
  clear ht10
  have hm11 := hidI m11
  have hi11 := hidI i11
  clear i11 m11 s11 hm10
  go_wp2_with fail
  refine (l4Stmt_spec (Cx.mk ts fin false) gt cap base _ S11 q11 z11 0 3 n7 _ hi11.out hm11.out (pos_tok hi11.out)).mono ?_
  rintro e w12 ⟨S12, q12, z12, rfl, i12, m12, s12⟩
  replace hX0 := hidI (hX0.out.stp s12)
  replace hX1 := hidI (hX1.out.stp s12)
  replace hX2 := hidI (hX2.out.stp s12)
  have ht12 := hidI (ht11.out.step s12)
  clear ht11
  have hm12 := hidI m12
  have hi12 := hidI i12
  clear i12 m12 s12 hm11
  obtain ⟨b0, b1, b2, b3, b4, b5, b6, b7, b8, b9, b10, b11, bf⟩ := hX1.out.box
  unfold pv
  go_wp2
  refine bodyPost_ret (results_cell_row rfl _ _ (w.heap.size + 1) 53 _ (0, 0) _ rfl ((hX1.out.put _ _ _ _ _ _ _ _ _ _ _ _)).heap Tryz.underlying53 rfl (by kernel_rfl)) rfl ?_
  rw [HV.out, ← hi7.out.bind (fun q n => bd (bd (bd (bd (.ok q) (tokP (Cx.mk ts fin false) 4 cEq)) (pE (Cx.mk ts fin false) .sum 0)) (tokP (Cx.mk ts fin false) 4 cSemi)) (addSt (Cx.mk ts fin false) 3 n)), ← set_bind]
  exact out_done rfl hi12.out (hm12.out.put hX1.out _ _ _ _ _ _ _ _ _ _ _ _) (ht12.out.put (by omega) _ _ _ _ _ _ _ _ _ _ _ _)
theorem l4Item_false (ts : List Tk) (fin : Nat) (gt cap base : Nat) (S : Sv) (q : PS) (w : World) (hm : Mem (Cx.mk ts fin false) gt cap base S q w) :
    Calls Tryz.prog 21 #[pv (Cx.mk ts fin false) gt cap S q (-1) 0] w (Out (Cx.mk ts fin false) gt cap base (itemP (Cx.mk ts fin false) q) 0 S w) := by
  cases h0 : isT (Cx.mk ts fin false) q.pos 1 sImport with
  | true => exact l4Item_simport_false ts fin gt cap base S q w hm h0
  | false =>
    cases h1 : isT (Cx.mk ts fin false) q.pos 1 sExport with
    | true => exact l4Item_sexport_false ts fin gt cap base S q w hm h0 h1
    | false =>
      cases h2 : isT (Cx.mk ts fin false) q.pos 1 sLet with
      | true => exact l4Item_slet_false ts fin gt cap base S q w hm h0 h1 h2
      | false =>
        cases h3 : isT (Cx.mk ts fin false) q.pos 1 sFunction with
        | true => exact l4Item_sfunction_false ts fin gt cap base S q w hm h0 h1 h2 h3
        | false =>
          cases h4 : isT (Cx.mk ts fin false) q.pos 1 sPrint with
          | true => exact l4Item_sprint_false ts fin gt cap base S q w hm h0 h1 h2 h3 h4
          | false =>
            cases h5 : isT (Cx.mk ts fin false) q.pos 1 sThrow with
            | true => exact l4Item_sthrow_false ts fin gt cap base S q w hm h0 h1 h2 h3 h4 h5
            | false =>
              exact l4Item_set_false ts fin gt cap base S q w hm h0 h1 h2 h3 h4 h5
theorem l4Item_spec (C : Cx) (gt cap base : Nat) (S : Sv) (q : PS) (w : World) (hm : Mem C gt cap base S q w) :
    Calls Tryz.prog 21 #[pv C gt cap S q (-1) 0] w (Out C gt cap base (itemP C q) 0 S w) := by
  obtain ⟨ts, fin, scr⟩ := C
  cases scr with
  | true => exact l4Item_true ts fin gt cap base S q w hm
  | false => exact l4Item_false ts fin gt cap base S q w hm
end Go.Proofs.YticdggnnpjachaaGreat
namespace Go.Proofs.YticdggnnpjachaaGreat
open Go.RowKit Go.PlainAid

theorem tokP_le {C : Cx} {k : Int} {s : ByteArray} {q q' : PS} (h : tokP C k s q = .ok q') : q.pos + 1 = q'.pos := by
  obtain ⟨rfl, _⟩ := tokP_ok h
  rfl
theorem nameP_le {C : Cx} {o : Bool} {q : PS} {a : PS × ByteArray} (h : nameP C o q = .ok a) : q.pos + 1 = a.1.pos := by
  obtain ⟨rfl, _⟩ := nameP_ok h
  rfl
theorem specP_le {C : Cx} {q : PS} {a : PS × ByteArray} (h : specP C q = .ok a) : q.pos + 1 = a.1.pos := by
  unfold specP at h
  split at h
  · split at h
    · cases h; rfl
    · split at h
      · cases h
      · cases h; rfl
  · cases h
theorem addSt_le {C : Cx} {k : Int} {n : ByteArray} {q q' : PS} (h : addSt C k n q = .ok q') : q.pos = q'.pos := by
  unfold addSt at h
  split at h
  · cases h
  · cases h; rfl
theorem addIm_le {C : Cx} {y : Im} {q q' : PS} (h : addIm C y q = .ok q') : q.pos = q'.pos := by
  unfold addIm at h
  split at h
  · cases h
  · cases h; rfl
theorem addEp_le {C : Cx} {y : Ep} {q q' : PS} (h : addEp C y q = .ok q') : q.pos = q'.pos := by
  unfold addEp at h
  split at h
  · cases h
  · split at h
    · cases h; rfl
    · cases h; rfl
theorem addAll_le {α : Type} {f : α → PS → PR} (hf : ∀ a q q', f a q = .ok q' → q.pos = q'.pos) (l : List α) : ∀ (x : PR) (q' : PS), addAll f l x = .ok q' → ∃ q, x = .ok q ∧ q.pos = q'.pos := by
  induction l with
  | nil => intro x q' h; exact ⟨q', h, rfl⟩
  | cons a l ih =>
    intro x q' h
    obtain ⟨b, h1, h2⟩ := ih _ _ h
    obtain ⟨c, h3, h4⟩ := bd_eq_ok h1
    exact ⟨c, h3, (hf _ _ _ h4).trans h2⟩
theorem listL_le {C : Cx} {exp : Bool} (m : Nat) : ∀ (q : PS) (acc : List Ep) (a : PS × List Ep), C.ts.length - q.pos < m → listL C exp q acc = .ok a → q.pos ≤ a.1.pos := by
  induction m with
  | zero => intro q acc a h; omega
  | succ m ih =>
    intro q acc a hm h
    rw [listL_step] at h
    obtain ⟨b, h1, h2⟩ := bd_eq_ok h
    obtain ⟨c, h3, h4⟩ := bd_eq_ok h2
    have e1 := nameP_le h1
    have e2 := asP_ok h3
    split at h4
    · next hc =>
      have e3 := isT_lt hc (by decide)
      have := ih _ _ _ (by rw [adv_pos]; omega) h4
      rw [adv_pos] at this
      omega
    · obtain ⟨d, h5, h6⟩ := bd_eq_ok h4
      have e3 := tokP_le h5
      cases h6
      show q.pos ≤ d.pos
      omega
theorem semi_le {C : Cx} {x : PR} {b : PS × ByteArray} (h : semiN C (tailS C x) = .ok b) : ∃ q, x = .ok q ∧ q.pos ≤ b.1.pos := by
  obtain ⟨a, h1, h2⟩ := bd_eq_ok h
  obtain ⟨c, h3, h4⟩ := bd_eq_ok h2
  obtain ⟨d, h5, h6⟩ := bd_eq_ok h1
  obtain ⟨e, h7, h8⟩ := bd_eq_ok h5
  have e1 := tokP_le h3
  have e2 := specP_le h6
  have e3 := tokP_le h8
  cases h4
  exact ⟨e, h7, by show e.pos ≤ c.pos; omega⟩
theorem importP_pos {C : Cx} {q q' : PS} (h : importP C q = .ok q') : q.pos < q'.pos := by
  obtain ⟨q1, h1, h2⟩ := bd_eq_ok h
  have e1 := tokP_le h1
  split at h2
  · obtain ⟨a, h3, h4⟩ := bd_eq_ok h2
    obtain ⟨b, h5, h6⟩ := bd_eq_ok h4
    obtain ⟨c, h7, h8⟩ := bd_eq_ok h3
    obtain ⟨d, h9, h10⟩ := semi_le h5
    obtain ⟨f, h11, h12⟩ := addAll_le (fun _ _ _ h => addIm_le h) _ _ _ h6
    have e2 := tokP_le h7
    have e3 := listL_le _ _ _ _ (Nat.lt_succ_self _) h8
    cases h9
    cases h11
    omega
  · split at h2
    · obtain ⟨a, h3, h4⟩ := bd_eq_ok h2
      obtain ⟨b, h5, h6⟩ := bd_eq_ok h4
      obtain ⟨c, h7, h8⟩ := bd_eq_ok h3
      obtain ⟨d, h9, h10⟩ := bd_eq_ok h7
      obtain ⟨f, h11, h12⟩ := semi_le h5
      have e2 := addIm_le h6
      have e3 := nameP_le h8
      have e4 := tokP_le h9
      have e5 := tokP_le h10
      cases h11
      omega
    · split at h2
      · obtain ⟨a, h3, h4⟩ := bd_eq_ok h2
        obtain ⟨b, h5, h6⟩ := bd_eq_ok h4
        obtain ⟨f, h11, h12⟩ := semi_le h5
        have e2 := addIm_le h6
        have e3 := nameP_le h3
        cases h11
        omega
      · obtain ⟨a, h3, h4⟩ := bd_eq_ok h2
        have e2 := specP_le h3
        have e3 := tokP_le h4
        omega
theorem withN_le {y : PRN} {F : PR → ByteArray → PR} {a : PS × ByteArray} (h : withN y F = .ok a) : ∃ b, y = .ok b ∧ F (.ok b.1) b.2 = .ok a.1 := by
  obtain ⟨b, h1, h2⟩ := bd_eq_ok h
  obtain ⟨c, h3, h4⟩ := bd_eq_ok h2
  cases h4
  exact ⟨b, h1, h3⟩
theorem letP_pos {C : Cx} {q : PS} {a : PS × ByteArray} (h : letP C q = .ok a) : q.pos < a.1.pos := by
  obtain ⟨b, h1, h2⟩ := withN_le h
  obtain ⟨c, h3, h4⟩ := bd_eq_ok h1
  obtain ⟨d, h5, h6⟩ := bd_eq_ok h2
  obtain ⟨f, h7, h8⟩ := bd_eq_ok h5
  obtain ⟨g, h9, h10⟩ := bd_eq_ok h7
  have e1 := tokP_le h3
  have e2 := nameP_le h4
  have e3 := tokP_le (show tokP C 4 cEq b.1 = .ok g from h9)
  have e4 := pE_pos h10
  have e5 := tokP_le h8
  have e6 := addSt_le h6
  omega
theorem fnP_pos {C : Cx} {q : PS} {a : PS × ByteArray} (h : fnP C q = .ok a) : q.pos < a.1.pos := by
  obtain ⟨b, h1, h2⟩ := withN_le h
  obtain ⟨c, h3, h4⟩ := bd_eq_ok h1
  obtain ⟨d, h5, h6⟩ := bd_eq_ok h2
  obtain ⟨f, h7, h8⟩ := bd_eq_ok h5
  obtain ⟨g, h9, h10⟩ := bd_eq_ok h7
  obtain ⟨i, h11, h12⟩ := bd_eq_ok h9
  obtain ⟨j, h13, h14⟩ := bd_eq_ok h11
  obtain ⟨k, h15, h16⟩ := bd_eq_ok h13
  obtain ⟨l, h17, h18⟩ := bd_eq_ok h15
  have e1 := tokP_le h3
  have e2 := nameP_le h4
  have e3 := tokP_le (show tokP C 4 cOpen b.1 = .ok l from h17)
  have e4 := tokP_le h18
  have e5 := tokP_le h16
  have e6 := tokP_le h14
  have e7 := pE_pos h12
  have e8 := tokP_le h10
  have e9 := tokP_le h8
  have e10 := addSt_le h6
  omega
theorem exportP_pos {C : Cx} {q q' : PS} (h : exportP C q = .ok q') : q.pos < q'.pos := by
  obtain ⟨q1, h1, h2⟩ := bd_eq_ok h
  have e1 := tokP_le h1
  split at h2
  · obtain ⟨a, h3, h4⟩ := bd_eq_ok h2
    obtain ⟨c, h7, h8⟩ := bd_eq_ok h3
    have e2 := tokP_le h7
    have e3 := listL_le _ _ _ _ (Nat.lt_succ_self _) h8
    split at h4
    · obtain ⟨b, h5, h6⟩ := bd_eq_ok h4
      obtain ⟨f, h11, h12⟩ := addAll_le (fun _ _ _ h => addEp_le h) _ _ _ h6
      have e4 := tokP_le h5
      cases h11
      omega
    · obtain ⟨b, h5, h6⟩ := bd_eq_ok h4
      obtain ⟨d, h9, h10⟩ := semi_le h5
      obtain ⟨f, h11, h12⟩ := addAll_le (fun _ _ _ h => addEp_le h) _ _ _ h6
      cases h9
      cases h11
      omega
  · split at h2
    · obtain ⟨b, h5, h6⟩ := bd_eq_ok h2
      obtain ⟨d, h9, h10⟩ := semi_le h5
      have e2 := tokP_le h9
      have e3 := addEp_le h6
      omega
    · split at h2
      · obtain ⟨a, h3, h4⟩ := bd_eq_ok h2
        obtain ⟨b, h5, h6⟩ := bd_eq_ok h3
        obtain ⟨c, h7, h8⟩ := bd_eq_ok h5
        obtain ⟨d, h9, h10⟩ := bd_eq_ok h7
        have e2 := tokP_le h9
        have e3 := pE_pos h10
        have e4 := tokP_le h8
        have e5 := addSt_le h6
        have e6 := addEp_le h4
        omega
      · split at h2
        · obtain ⟨a, h3, h4⟩ := bd_eq_ok h2
          have e2 := letP_pos h3
          have e3 := addEp_le h4
          omega
        · split at h2
          · obtain ⟨a, h3, h4⟩ := bd_eq_ok h2
            have e2 := fnP_pos h3
            have e3 := addEp_le h4
            omega
          · cases h2
theorem stmt_pos {C : Cx} {s : ByteArray} {k : Int} {n : ByteArray} {q q' : PS} (h : bd (bd (bd (tokP C 1 s q) (pE C .sum 0)) (tokP C 4 cSemi)) (addSt C k n) = .ok q') : q.pos < q'.pos := by
  obtain ⟨a, h1, h2⟩ := bd_eq_ok h
  obtain ⟨b, h3, h4⟩ := bd_eq_ok h1
  obtain ⟨c, h5, h6⟩ := bd_eq_ok h3
  have e1 := tokP_le h5
  have e2 := pE_pos h6
  have e3 := tokP_le h4
  have e4 := addSt_le h2
  omega
theorem itemP_pos {C : Cx} {q q' : PS} (h : itemP C q = .ok q') : q.pos < q'.pos := by
  unfold itemP at h
  split at h
  · exact importP_pos h
  · split at h
    · exact exportP_pos h
    · split at h
      · obtain ⟨a, h1, h2⟩ := bd_eq_ok h
        cases h2
        exact letP_pos h1
      · split at h
        · obtain ⟨a, h1, h2⟩ := bd_eq_ok h
          cases h2
          exact fnP_pos h1
        · split at h
          · obtain ⟨a, h1, h2⟩ := bd_eq_ok h
            obtain ⟨b, h3, h4⟩ := bd_eq_ok h1
            obtain ⟨c, h5, h6⟩ := bd_eq_ok h3
            obtain ⟨d, h7, h8⟩ := bd_eq_ok h5
            obtain ⟨e, h9, h10⟩ := bd_eq_ok h7
            have e1 := tokP_le h9
            have e2 := tokP_le h10
            have e3 := pE_pos h8
            have e4 := tokP_le h6
            have e5 := tokP_le h4
            have e6 := addSt_le h2
            omega
          · split at h
            · exact stmt_pos h
            · split at h
              · exact stmt_pos h
              · obtain ⟨a, h1, h2⟩ := bd_eq_ok h
                obtain ⟨b, h3, h4⟩ := bd_eq_ok h2
                obtain ⟨c, h5, h6⟩ := bd_eq_ok h3
                obtain ⟨d, h7, h8⟩ := bd_eq_ok h5
                have e1 := nameP_le h1
                have e2 := tokP_le h7
                have e3 := pE_pos h8
                have e4 := tokP_le h6
                have e5 := addSt_le h4
                omega
def itemsG (C : Cx) : Nat → PS → PR
  | 0, _ => .error 0
  | f + 1, q => if q.pos < C.ts.length then bd (itemP C q) (itemsG C f) else .ok q
def itemsP (C : Cx) (q : PS) : PR := itemsG C (C.ts.length - q.pos + 1) q
theorem itemsG_enough {C : Cx} (f : Nat) : ∀ (g : Nat) (q : PS), C.ts.length - q.pos < f → C.ts.length - q.pos < g → itemsG C f q = itemsG C g q := by
  induction f with
  | zero => intro g q h; omega
  | succ f ih =>
    intro g q h1 h2
    obtain ⟨g, rfl⟩ : ∃ g', g = g' + 1 := ⟨g - 1, by omega⟩
    rw [itemsG, itemsG]
    split
    · refine bd_congr fun a ha => ?_
      have := itemP_pos ha
      exact ih g a (by omega) (by omega)
    · rfl
theorem itemsP_step (C : Cx) (q : PS) : itemsP C q = if q.pos < C.ts.length then bd (itemP C q) (itemsP C) else .ok q := by
  rw [itemsP, itemsG]
  split
  · refine bd_congr fun a ha => ?_
    have := itemP_pos ha
    exact itemsG_enough _ _ _ (by omega) (by omega)
  · rfl
def startP : PS := ⟨0, [], [], [], [], [], []⟩
def ParseR (s : ByteArray) (scr : Bool) (y : PR) : Prop := ∃ r, LexR s scr r ∧ y = match r with
  | .error p => .error p
  | .ok ts => itemsP ⟨ts, s.size, scr⟩ startP
theorem parseR_one {s : ByteArray} {scr : Bool} {y1 y2 : PR} (h1 : ParseR s scr y1) (h2 : ParseR s scr y2) : y1 = y2 := by
  obtain ⟨r1, l1, rfl⟩ := h1
  obtain ⟨r2, l2, rfl⟩ := h2
  obtain rfl := lexR_one l1 l2
  rfl
end Go.Proofs.YticdggnnpjachaaGreat
namespace Go.Proofs.YticdggnnpjachaaGreat
open Go.RowKit Go.PlainAid

theorem lx_len {s : ByteArray} {scr : Bool} {a n : Nat} {r : Except Nat (List Tk)} (h : Lx s scr a n r) : ∀ ts, r = .ok ts → n ≤ 4000 → ts.length + n ≤ 4000 := by
  induction h using Lx.ind with
  | done => intro ts hr hn; cases hr; simpa using hn
  | bad _ _ => intro ts hr hn; cases hr
  | @tok a n e b t r h hn ht hs hr ih =>
    intro ts hts _
    cases r with
    | error p => simp [Except.map] at hts
    | ok l =>
      simp only [Except.map, Except.ok.injEq] at hts
      subst hts
      have := ih l rfl (by omega)
      simp only [List.length_cons]
      omega
theorem lexR_len {s : ByteArray} {scr : Bool} {ts : List Tk} (h : LexR s scr (.ok ts)) : ts.length ≤ 4000 := by
  obtain ⟨a, _, hl⟩ := h
  have := lx_len hl ts rfl (by omega)
  omega
end Go.Proofs.YticdggnnpjachaaGreat
namespace Go.Proofs.YticdggnnpjachaaGreat
open Go.RowKit Go.PlainAid

def R0 : Rw := ⟨none, 0⟩
def S0 : Sv := ⟨R0, R0, R0, R0, R0, R0⟩
theorem own_nil (w : World) (base size : Nat) (e : TypeId) : OwnR w base e size R0 0 [] := World.ownsRow_nil w base e size
theorem own_start (w : World) (base : Nat) : Own w base S0 startP :=
  ⟨own_nil _ _ _ _, own_nil _ _ _ _, own_nil _ _ _ _, own_nil _ _ _ _, own_nil _ _ _ _, own_nil _ _ _ _, fun k h => by simp [S0, R0, Rw.blk, Value.ownBlock] at h⟩
theorem mem_start {w : World} {base g cap : Nat} {ts : List Tk} {n : Nat} {scr : Bool} (h : OwnT w base 111 g ts.length cap ts) (hl : ts.length ≤ 4000) (hb : base ≤ w.heap.size) : Mem ⟨ts, n, scr⟩ g cap base S0 startP w :=
  ⟨own_start _ _, ⟨Nat.zero_le _, Nat.zero_le _, Nat.zero_le _, Nat.zero_le _, Nat.zero_le _, Nat.zero_le _⟩, h, hl, hb⟩
structure OwnMod (w : World) (base : Nat) (S : Sv) (q : PS) : Prop where
  rq : OwnR w base 9 1 S.rq q.rq.length (q.rq.map .string)
  im : OwnR w base 100 3 S.im q.im.length (q.im.flatMap imL)
  ep : OwnR w base 102 4 S.ep (q.ep ++ q.la).length ((q.ep ++ q.la).flatMap epL)
  st : OwnR w base 106 3 S.st q.st.length (q.st.flatMap smL)
  ex : OwnR w base 108 6 S.ex q.ex.length (q.ex.flatMap exL)
  inv : q.rq.length ≤ 40 ∧ q.im.length ≤ 40 ∧ q.ep.length + q.la.length ≤ 40 ∧ q.st.length ≤ 80 ∧ q.ex.length ≤ 300
def modV (S : Sv) (q : PS) : Value := .agg #[.slice S.rq.a q.rq.length S.rq.cap, .slice S.im.a q.im.length S.im.cap, .slice S.ep.a (q.ep ++ q.la).length S.ep.cap, .slice S.st.a q.st.length S.st.cap, .slice S.ex.a q.ex.length S.ex.cap]
def ParseOut (s : ByteArray) (scr : Bool) (w : World) (e : Ending) (w' : World) : Prop :=
  ∃ y, ParseR s scr y ∧ match y with
    | .ok q => ∃ S, e = .returned (.tuple #[modV S q, .int .i64 (-1)]) ∧ OwnMod w' w.heap.size S q
    | .error p => e = .returned (.tuple #[.agg #[.slice none 0 0, .slice none 0 0, .slice none 0 0, .slice none 0 0, .slice none 0 0], .int .i64 p])
theorem OwnR.low {w : World} {base base' size n : Nat} {e : TypeId} {r : Rw} {xs : List Value} (h : OwnR w base e size r n xs) (hb : base' ≤ base) : OwnR w base' e size r n xs := by
  refine ⟨h.1, ?_⟩
  rcases h.2 with hv | ⟨g, cap, cur, hv, h1, rest⟩
  · exact .inl hv
  · exact .inr ⟨g, cap, cur, hv, Nat.le_trans hb h1, rest⟩
theorem OwnR.nil_or {w : World} {base size n : Nat} {e : TypeId} {r : Rw} {xs : List Value} (h : OwnR w base e size r n xs) : (r.a = none ∧ r.cap = 0 ∧ n = 0) ∨ ∃ g, r.a = some ⟨g, 0, none⟩ := by
  rcases h.2 with ⟨hv, hn⟩ | ⟨g, cap, cur, hv, _⟩
  · simp only [Value.slice.injEq] at hv
    exact .inl ⟨hv.1, hv.2.2, hn⟩
  · simp only [Value.slice.injEq] at hv
    exact .inr ⟨g, hv.1⟩
theorem app_rows {P : Program} (W : World) {ops : Array Oper} {rest : List Oper} {o : Oper} {a : Act} {Q : Exit → Act → World → Prop} (hgd : o.guard = none) (s x : Operand) (t : TypeId)
    (ho : o.op = .call { callee := .builtin .append, args := #[s, x], argTypes := #[t, t] })
    (base : Nat) (e : TypeId) (i : TypeInfo) (z : Value) (size bytes : Nat) (ht : P.underlying t = some (.slice e)) (hi : P.info? e = some i) (hz : i.zero = some z) (hsize : i.size = size) (hby : i.bytes = bytes) (hzs : z.cells.size = size) (hsz : 0 < size) (h100 : bytes ≤ 100)
    (r : Rw) (n : Nat) (xs : List Value) (hs : a.eval s = .slice r.a n r.cap) (hown : OwnR W base e size r n xs)
    (gx m c base2 : Nat) (news : List Value) (hx : a.eval x = .slice (some ⟨gx, 0, none⟩) m c) (hg : OwnR W base2 e size ⟨some ⟨gx, 0, none⟩, c⟩ m news) (h1 : ∀ u ∈ news, u.oneCell' = true) (hn : n + m ≤ 1000000) (hbase : base ≤ W.heap.size)
    (h : ∀ r' w', OwnR w' base e size r' (n + m) (xs ++ news) → W.grownBy w' r.blk → (r'.blk = r.blk ∨ r'.blk = some W.heap.size) → wpList P ops Q rest (a.put o.dst (.slice r'.a (n + m : Nat) r'.cap)) w') :
    wpList P ops Q (o :: rest) a W := by
  refine wpList_append_own_at _ hgd s x t ho base e i z size bytes ht hi hz hsize hby hzs hsz _ n _ hs hown ⟨gx, 0, none⟩ m c news hx hg.1 ?_ h1 ?_ ?_ hbase ?_
  · intro j u hj
    have e1 : (⟨gx, 0, none⟩ : Addr).add j = ⟨gx, j, none⟩ := by simp [Addr.add]; exact fun h => h.symm
    have hlt : j < news.length := (List.getElem?_eq_some_iff.1 hj).1
    rw [e1, World.ownsRow.cellAt hg j (by rw [← hg.1]; exact hlt)]
    exact hj
  · unfold maxLen; omega
  · have : (n + m) * bytes ≤ 1000000 * 100 := Nat.mul_le_mul hn h100
    omega
  · intro v' w' k1 k2 k3 k4
    rcases k1.2 with ⟨hv, hn0⟩ | ⟨g', cap', cur, rfl, hrest⟩
    · subst hv
      have := h ⟨none, 0⟩ w' (by rw [hn0] at k1 ⊢; exact k1) (by rw [← blk_any r n]; exact k2) (by rw [← blk_any r n]; exact k4)
      rw [hn0] at this
      exact this
    · refine h ⟨some ⟨g', 0, none⟩, cap'⟩ w' k1 ?_ ?_
      · rw [← blk_any r n]; exact k2
      · rw [← blk_any r n, ← blk_any ⟨some ⟨g', 0, none⟩, cap'⟩ (n + m)]; exact k4
theorem app_nil {P : Program} (W : World) {ops : Array Oper} {rest : List Oper} {o : Oper} {a : Act} {Q : Exit → Act → World → Prop} (hgd : o.guard = none) (s x : Operand) (t : TypeId)
    (ho : o.op = .call { callee := .builtin .append, args := #[s, x], argTypes := #[t, t] })
    (e : TypeId) (i : TypeInfo) (ht : P.underlying t = some (.slice e)) (hi : P.info? e = some i) (base size n : Nat)
    (r : Rw) (xs : List Value) (hs : a.eval s = .slice r.a n r.cap) (hown : OwnR W base e size r n xs) (hx : a.eval x = .slice none 0 0)
    (h : wpList P ops Q rest (a.put o.dst (.slice r.a n r.cap)) W) : wpList P ops Q (o :: rest) a W := by
  have hr : (Builtin.append_ #[t, t] o.type #[.slice r.a n r.cap, .slice none 0 0]).run P W = .ok (.slice r.a n r.cap) W := by
    rcases hown.2 with ⟨hv, _⟩ | ⟨g, cap, cur, hv, _, _, hn, _⟩
    · rw [hv]
      simp [Builtin.append_, run_underlying ht, sizeOf, typeInfo, hi, Builtin.lenOf, Builtin.firstCells]
    · rw [hv]
      simp [Builtin.append_, run_underlying ht, sizeOf, typeInfo, hi, Builtin.lenOf, Builtin.firstCells, loadCells, hn, storeCells]
  refine wpList_plain hgd fun K hK => ?_
  unfold Oper.wp execOp
  simp only [ho, resolve, invoke, builtin, Sem.run_bind, Sem.run_pure, Result.andThen_ok, List.map_toArray, List.map_cons, List.map_nil, hs, hx, hr]
  exact hK _ _ h
theorem eps_one (l : List Ep) : ∀ u ∈ l.flatMap epL, u.oneCell' = true := by
  intro u hu
  rw [List.mem_flatMap] at hu
  obtain ⟨x, _, hx⟩ := hu
  simp [epL] at hx
  rcases hx with rfl | rfl | rfl | rfl <;> rfl
theorem Mem.whole {C : Cx} {gt cap base b B : Nat} {S : Sv} {q : PS} {W w' wF : World} {r' : Rw} (hm : Mem C gt cap base S q W) (hg : W.grownBy w' S.ep.blk) (hr : OwnR w' base 102 4 r' (q.ep.length + q.la.length) (q.ep.flatMap epL ++ q.la.flatMap epL)) (hat : r'.blk = S.ep.blk ∨ r'.blk = some W.heap.size) (hB : B < base) (hb : b < W.heap.size) (hfree : ¬ S.has b)
    (hF : ∀ k, k ≠ B → k ≠ b → wF.heap[k]? = w'.heap[k]?) : OwnMod wF B { S with ep := r' } q := by
  have hlen : (q.ep ++ q.la).length = q.ep.length + q.la.length := by simp
  have hk : ∀ (r : Rw) (e : TypeId) (size n : Nat) (xs : List Value), OwnR W base e size r n xs → e ≠ 102 → (∀ k, r.blk = some k → S.has k) → OwnR wF B e size r n xs := fun r e size n xs h he hs =>
    ((h.keep fun k g => (hF k (by have := (h.typed g).1; omega) (fun eq => hfree (by rw [← eq]; exact hs k g))).trans (hg.block k (h.typed g).2.1 fun e' => (h.ne hm.own.ep he g) e'.symm)).low (by omega))
  refine ⟨hk _ _ _ _ _ hm.own.rq (by decide) fun k g => .inl g, hk _ _ _ _ _ hm.own.im (by decide) fun k g => .inr (.inl g), ?_, hk _ _ _ _ _ hm.own.st (by decide) fun k g => .inr (.inr (.inr (.inl g))), hk _ _ _ _ _ hm.own.ex (by decide) fun k g => .inr (.inr (.inr (.inr (.inl g)))), hm.inv.rq, hm.inv.im, hm.inv.ep, hm.inv.st, hm.inv.ex⟩
  rw [hlen, List.flatMap_append]
  refine (hr.keep fun k g => hF k (by have := (hr.typed g).1; omega) ?_).low (by omega)
  rcases hat with e | e
  · intro eq
    exact hfree (by rw [← eq]; exact .inr (.inr (.inl (by rw [← e]; exact g))))
  · have : W.heap.size = k := Option.some.inj (e.symm.trans g)
    omega
theorem Mem.whole0 {C : Cx} {gt cap base b B : Nat} {S : Sv} {q : PS} {W wF : World} (hm : Mem C gt cap base S q W) (hl : q.la = []) (hB : B < base) (hfree : ¬ S.has b)
    (hF : ∀ k, k ≠ B → k ≠ b → wF.heap[k]? = W.heap[k]?) : OwnMod wF B S q := by
  have hk : ∀ (r : Rw) (e : TypeId) (size n : Nat) (xs : List Value), OwnR W base e size r n xs → (∀ k, r.blk = some k → S.has k) → OwnR wF B e size r n xs := fun r e size n xs h hs =>
    ((h.keep fun k g => hF k (by have := (h.typed g).1; omega) (fun eq => hfree (by rw [← eq]; exact hs k g))).low (by omega))
  refine ⟨hk _ _ _ _ _ hm.own.rq fun k g => .inl g, hk _ _ _ _ _ hm.own.im fun k g => .inr (.inl g), ?_, hk _ _ _ _ _ hm.own.st fun k g => .inr (.inr (.inr (.inl g))), hk _ _ _ _ _ hm.own.ex fun k g => .inr (.inr (.inr (.inr (.inl g)))), hm.inv.rq, hm.inv.im, hm.inv.ep, hm.inv.st, hm.inv.ex⟩
  rw [hl, List.append_nil]
  exact hk _ _ _ _ _ hm.own.ep fun k g => .inr (.inr (.inl g))
theorem five_of {w : World} {b : Nat} {t : TypeId} {v0 v1 v2 v3 v4 : Value} (h : w.heap[b]? = some (.cells #[v0, v1, v2, v3, v4] t (0, 0))) :
    w.cell? ⟨b, 0, none⟩ = some v0 ∧ w.cell? ⟨b, 1, none⟩ = some v1 ∧ w.cell? ⟨b, 2, none⟩ = some v2 ∧ w.cell? ⟨b, 3, none⟩ = some v3 ∧ w.cell? ⟨b, 4, none⟩ = some v4 ∧ ∀ i, w.frozen? ⟨b, i, none⟩ = false := by
  refine ⟨?_, ?_, ?_, ?_, ?_, fun i => ?_⟩ <;> simp [World.cell?, World.frozen?, h]
theorem qcell {w : World} {b i : Nat} {cs : Array Value} {u : Value} {t : TypeId} (h : w.heap[b]? = some (.cells cs t (0, 0))) : (w.setCell ⟨b, i, none⟩ u).heap[b]? = some (.cells (cs.setIfInBounds i u) t (0, 0)) := by
  simp only [World.setCell, Array.getElem?_modify]
  rw [if_pos trivial, h]
  rfl
theorem put5 {w : World} {b : Nat} {v0 v1 v2 v3 v4 x0 x1 x2 x3 x4 : Value} {t : TypeId} (h : w.heap[b]? = some (.cells #[v0, v1, v2, v3, v4] t (0, 0))) :
    (((((w.setCell ⟨b, 0, none⟩ x0).setCell ⟨b, 1, none⟩ x1).setCell ⟨b, 2, none⟩ x2).setCell ⟨b, 3, none⟩ x3).setCell ⟨b, 4, none⟩ x4).heap[b]? = some (.cells #[x0, x1, x2, x3, x4] t (0, 0)) := by
  have e := qcell (i := 4) (u := x4) (qcell (i := 3) (u := x3) (qcell (i := 2) (u := x2) (qcell (i := 1) (u := x1) (qcell (i := 0) (u := x0) h))))
  rw [e]
  simp
theorem below5 {B : Nat} {a w : World} {b : Nat} (h : Below B a w) (hb : B ≤ b) (x0 x1 x2 x3 x4 : Value) : Below B a (((((w.setCell ⟨b, 0, none⟩ x0).setCell ⟨b, 1, none⟩ x1).setCell ⟨b, 2, none⟩ x2).setCell ⟨b, 3, none⟩ x3).setCell ⟨b, 4, none⟩ x4) :=
  ((((h.setCell hb _).setCell hb _).setCell hb _).setCell hb _).setCell hb _
end Go.Proofs.YticdggnnpjachaaGreat
namespace Go.Proofs.YticdggnnpjachaaGreat
open Go.RowKit Go.PlainAid

set_option maxRecDepth 100000 in
set_option maxHeartbeats 6400000 in
theorem parse_spec (s : ByteArray) (scr : Bool) (w : World) (hs : s.size ≤ 4294967296) :
    Calls Tryz.prog 6 #[.string s, .bool scr] w fun e w' => ParseOut s scr w e w' ∧ Below w.heap.size w w' := by
  obtain ⟨i0, hi, hz0, hz1, hz2⟩ := info_parts Tryz.infoExp
  go_enter Tryz.func6, Tryz.ntmps6
  go_wp2_with fail
  refine (lex_spec s scr _ hs).mono ?_
  rintro e w1 ⟨⟨r1, hr1, hout1⟩, b1⟩
  have HB1 : Hid (Below w.heap.size w w1) := ((Below.refl _ _).alloc (Nat.le_refl _) _).trans (b1.mono (by rw [alloc_size]; omega))
  have hG : w1.heap[w.heap.size]? = some (.cells #[.slice none 0 0, .slice none 0 0, .slice none 0 0, .slice none 0 0, .slice none 0 0] 28 (0, 0)) := (b1.block _ (by rw [alloc_size]; omega)).trans (heap_alloc_new w _)
  rw [alloc_size] at b1
  cases r1 with
  | error p =>
    obtain ⟨g, cap, rfl, own0⟩ := hout1
    have HY : Hid (ParseR s scr (.error p)) := ⟨_, hr1, rfl⟩
    have HG := hidI hG
    obtain ⟨c0, c1, c2, c3, c4, cf⟩ := five_of hG
    have dz : decide ((0 : Int) ≤ (p : Int)) = true := decide_eq_true (by omega)
    clear own0 hr1 b1 hG
    go_wp2
    refine bodyPost_ret (results_cell_row_tmp rfl _ _ w.heap.size 28 _ (0, 0) _ rfl (put5 HG.out) Tryz.underlying28 rfl (by kernel_rfl)) rfl ?_
    exact ⟨⟨_, HY.out, rfl⟩, below5 HB1.out (Nat.le_refl _) _ _ _ _ _⟩
  | ok ts =>
    obtain ⟨g, n, cap, rfl, own0⟩ := hout1
    obtain rfl : n = ts.length := own0.2
    rw [alloc_size] at own0
    have hlt1 : w.heap.size + 1 ≤ w1.heap.size := by have := b1.size; rw [alloc_size] at this; exact this
    have hlen := lexR_len hr1
    have HR := hidI hr1
    have hM0 : Mem ⟨ts, s.size, scr⟩ g cap (w.heap.size + 1) S0 startP w1 := mem_start own0 hlen hlt1
    have HM0 := hidI hM0
    have HG := hidI hG
    clear own0 hr1 hM0 hG
    go_wp2
    go_loopg [] (ts.length + 1) (fun k wr => ∃ (x' : PR) (S' : Sv) (q' : PS) (z' : Int), Is x' q' z' ∧ bd x' (itemsP ⟨ts, s.size, scr⟩) = itemsP ⟨ts, s.size, scr⟩ startP ∧ (z' < 0 → ts.length - q'.pos < k) ∧ Mem ⟨ts, s.size, scr⟩ g cap (w.heap.size + 1) S' q' wr ∧ Below w.heap.size w wr ∧ Bx g S' wr w1.heap.size #[.slice (some ⟨g, 0, none⟩) ts.length cap, .int .i64 q'.pos, .int .i64 s.size, .bool scr, .slice S'.rq.a q'.rq.length S'.rq.cap, .slice S'.im.a q'.im.length S'.im.cap, .slice S'.ep.a q'.ep.length S'.ep.cap, .slice S'.st.a q'.st.length S'.st.cap, .slice S'.ex.a q'.ex.length S'.ex.cap, .slice S'.la.a q'.la.length S'.la.cap, .int .i64 z', .int .i64 0] ∧ wr.heap[w.heap.size]? = some (.cells #[.slice none 0 0, .slice none 0 0, .slice none 0 0, .slice none 0 0, .slice none 0 0] 28 (0, 0)))
    case atStart => exact ⟨.ok startP, S0, startP, -1, is_ok _, rfl, fun _ => by show ts.length - 0 < ts.length + 1; omega, HM0.out.alloc _, HB1.out.alloc HB1.out.size _, Bx.new HM0.out _, (Below.heap_alloc _ _ _ (by omega)).trans HG.out⟩
    case round =>
      obtain ⟨x2, S2, q2, z2, i2, e2, l2, m2, t2, X0, G2⟩ := hrel
      have hi2 := hidI i2
      have he2 := hidI e2
      have hl2 := hidI l2
      have hm2 := hidI m2
      have ht2 := hidI t2
      have hX0 := hidI X0
      have HG2 := hidI G2
      have hpl : q2.pos ≤ ts.length := m2.inv.pos
      obtain ⟨a0, a1, a2, a3, a4, a5, a6, a7, a8, a9, a10, a11, af⟩ := X0.box
      clear i2 e2 l2 m2 t2 X0 G2
      by_cases hz : z2 < 0
      · have dz : decide (z2 < 0) = true := decide_eq_true hz
        obtain ⟨rfl, rfl⟩ := is_neg hi2.out hz
        by_cases hp : q2.pos < ts.length
        · have hlk := hl2.out hz
          go_wp2_with fail
          refine (l4Item_spec ⟨ts, s.size, scr⟩ g cap (w.heap.size + 1) S2 q2 _ hm2.out).mono ?_
          rintro e w3 ⟨S3, q3, z3, rfl, i3, m3, s3⟩
          have hm3 := hidI m3
          have hi3 := hidI i3
          have hbs : Hid (Below (w.heap.size + 1) wr w3) := s3.under hm2.out.base hm2.out.own
          have hX3 : Hid (Bx g S3 w3 w1.heap.size _) := hX0.out.stp s3
          have ht3 : Hid (Below w.heap.size w w3) := ht2.out.trans (hbs.out.mono (by omega))
          have HG3 : Hid (w3.heap[w.heap.size]? = some (.cells #[.slice none 0 0, .slice none 0 0, .slice none 0 0, .slice none 0 0, .slice none 0 0] 28 (0, 0))) := (hbs.out.block _ (by omega)).trans HG2.out
          have HE : Hid (bd (itemP ⟨ts, s.size, scr⟩ q2) (itemsP ⟨ts, s.size, scr⟩) = itemsP ⟨ts, s.size, scr⟩ startP) := by
            show _ = _
            rw [← he2.out, bd_ok, itemsP_step, if_pos hp]
          have HP : Hid (z3 < 0 → q2.pos < q3.pos) := fun h => itemP_pos (is_neg hi3.out h).1
          clear i3 m3 s3 a0 a1 a2 a3 a4 a5 a6 a7 a8 a9 a10 a11 af
          obtain ⟨a0, a1, a2, a3, a4, a5, a6, a7, a8, a9, a10, a11, af⟩ := hX3.out.box
          unfold pv
          go_wp2
          go_roundg (gk - 1)
          case rel => exact ⟨_, S3, q3, z3, hi3.out, HE.out, fun h => by have := HP.out h; omega, hm3.out.put hX3.out _ _ _ _ _ _ _ _ _ _ _ _, below12 ht3.out (by omega) _ _ _ _ _ _ _ _ _ _ _ _, hX3.out.put _ _ _ _ _ _ _ _ _ _ _ _, (set12_other (by omega) _ _ _ _ _ _ _ _ _ _ _ _).trans HG3.out⟩
          case measure => omega
        · have HD : Hid (itemsP ⟨ts, s.size, scr⟩ startP = .ok q2) := by
            show _ = _
            rw [← he2.out, bd_ok, itemsP_step, if_neg hp]
          have HY : Hid (ParseR s scr (.ok q2)) := ⟨_, HR.out, HD.out.symm⟩
          have hbw : w1.heap.size < wr.heap.size := hX0.out.lt
          have hlep := hm2.out.inv.ep
          have hown := hm2.out.own.ep
          have hbs := hm2.out.base
          rcases hm2.out.own.la.nil_or with ⟨ha, hc, hn⟩ | ⟨gl, ha⟩
          · have HN : Hid (q2.la = []) := List.eq_nil_of_length_eq_zero hn
            rw [ha, hc, hn] at a9
            obtain ⟨c0, c1, c2, c3, c4, cf⟩ := five_of HG2.out
            clear ha hc hn
            go_wp2_with (at_builtin; refine app_nil _ rfl _ _ 24 rfl 102 i0 Tryz.underlying24 hi (w.heap.size + 1) 4 q2.ep.length S2.ep _ (by rfl) hown (by rfl) ?_)
            clear hown
            go_wp2
            refine bodyPost_ret (results_cell_row_tmp rfl _ _ w.heap.size 28 _ (0, 0) _ rfl (put5 ((pother (by omega)).trans HG2.out)) Tryz.underlying28 rfl (by kernel_rfl)) rfl ?_
            refine ⟨⟨_, HY.out, S2, by simp [modV, HN.out], hm2.out.whole0 HN.out (Nat.lt_succ_self _) hX0.out.free fun k h1 h2 => ?_⟩, below5 (ht2.out.setCell (by show _ ≤ w1.heap.size; omega) _) (Nat.le_refl _) _ _ _ _ _⟩
            rw [pother h1, pother h1, pother h1, pother h1, pother h1, pother h2]
          · have hla : OwnR wr (w.heap.size + 1) 102 4 ⟨some ⟨gl, 0, none⟩, S2.la.cap⟩ q2.la.length (q2.la.flatMap epL) := by have := hm2.out.own.la; unfold OwnR at this ⊢; rw [ha] at this; exact this
            rw [ha] at a9
            go_wp2_with (at_builtin; refine app_rows _ rfl _ _ 24 rfl (w.heap.size + 1) 102 i0 _ 4 56 Tryz.underlying24 hi hz0 hz1 hz2 rfl (by decide) (by decide) S2.ep q2.ep.length _ (by rfl) hown gl q2.la.length S2.la.cap (w.heap.size + 1) _ (by rfl) hla (eps_one _) (by omega) hbs ?_)
            intro r' w3 hr hg hat
            have HRR := hidI hr
            have HGR := hidI hg
            have HAT := hidI hat
            have hne := fun b hb => wpos (W := wr) hm2.out.own (Nat.le_refl _) (r := S2.ep.blk) (fun k e => .inr (.inr (.inl e))) b hb
            have hX3 : Hid (w3.heap[w1.heap.size]? = _) := (hg.block _ hbw (fun e => hX0.out.free (.inr (.inr (.inl e.symm))))).trans hX0.out.heap
            have HG3 : Hid (w3.heap[w.heap.size]? = _) := (hg.block _ (by omega) (fun e => by have := (hown.typed e.symm).1; omega)).trans HG2.out
            clear a0 a1 a2 a3 a4 a5 a6 a7 a8 a9 a10 a11 af hr hg hat hne hown hla
            obtain ⟨a0, a1, a2, a3, a4, a5, a6, a7, a8, a9, a10, a11, af⟩ := box_of hX3.out
            obtain ⟨c0, c1, c2, c3, c4, cf⟩ := five_of HG3.out
            go_wp2
            refine bodyPost_ret (results_cell_row_tmp rfl _ _ w.heap.size 28 _ (0, 0) _ rfl (put5 ((pother (by omega)).trans HG3.out)) Tryz.underlying28 rfl (by kernel_rfl)) rfl ?_
            refine ⟨⟨_, HY.out, { S2 with ep := r' }, by simp [modV], hm2.out.whole HGR.out HRR.out HAT.out (Nat.lt_succ_self _) hbw hX0.out.free fun k h1 h2 => ?_⟩, below5 ((ht2.out.trans (Below.mono (B := w.heap.size + 1) ⟨HGR.out.os, HGR.out.tape, HGR.out.output, HGR.out.size, fun k hk => HGR.out.block k (by omega) fun e => by have := (hm2.out.own.ep.typed e.symm).1; omega⟩ (by omega))).setCell (by show _ ≤ w1.heap.size; omega) _) (Nat.le_refl _) _ _ _ _ _⟩
            rw [pother h1, pother h1, pother h1, pother h1, pother h1, pother h2]
      · have dz : decide (z2 < 0) = false := decide_eq_false hz
        obtain ⟨e0, rfl, rfl⟩ := is_bad hi2.out hz
        have dz2 : decide ((0 : Int) ≤ (e0 : Int)) = true := decide_eq_true (by omega)
        have HY : Hid (ParseR s scr (.error e0)) := ⟨_, HR.out, (show (.error e0 : PR) = itemsP ⟨ts, s.size, scr⟩ startP from he2.out)⟩
        obtain ⟨c0, c1, c2, c3, c4, cf⟩ := five_of HG2.out
        go_wp2
        go_region
        all_goals
          go_wp2
          refine bodyPost_ret (results_cell_row_tmp rfl _ _ w.heap.size 28 _ (0, 0) _ rfl (put5 HG2.out) Tryz.underlying28 rfl (by kernel_rfl)) rfl ?_
          exact ⟨⟨_, HY.out, rfl⟩, (below5 ht2.out (Nat.le_refl _) _ _ _ _ _).drew⟩
end Go.Proofs.YticdggnnpjachaaGreat
