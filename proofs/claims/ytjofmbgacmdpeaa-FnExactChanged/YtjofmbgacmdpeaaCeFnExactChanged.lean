/-
  At every two rows of files laws.FnExactChanged returns true: impl.Changed answers as spec.Changed does, writes into no argument and keeps nothing of one, and its answer owns its memory; no condition.
-/
import Derived.Test.YtjofmbgacmdpeaaRows
import Derived.ProofKit
import Derived.ShutString
import Derived.ChangeOld
import Derived.Below
import Derived.Test.YtjofmbgacmdpeaaCeSrcFile
import Derived.Test.YtjofmbgacmdpeaaCeImplChangedAll
namespace Go.Proofs.Ytjofmbgacmdpeaa.fnExactChanged
open Go.ChangeShapes Go.WideShapes Go.ChangeAt Go.RowKit
open Go.ChangeMaps (open_string shut_string)

theorem own : ownKnob Try.prog.godebug = none := by kernel_rfl
theorem laidOut : laidOutB Try.prog = true := by kernel_rfl

set_option maxHeartbeats 12800000 in
theorem walk (S T : FSrc) (w : World) (w0 : FSrcIn S w) (w1 : FSrcIn T w) :
    Calls Try.prog 8 #[.slice S.a S.len S.cap, .slice T.a T.len T.cap] w fun e w' => e = .returned (.bool true) ∧ Below w.heap.size w w' := by
  obtain ⟨a, b, off, la, ca, Pa, Ta⟩ := S
  obtain ⟨a', b', off', lb, cb, Pb, Tb⟩ := T
  obtain ⟨hlenA, hfa, hszA⟩ := w0
  obtain ⟨hlenB, hfb, hszB⟩ := w1
  simp only at hlenA hfa hszA hlenB hfb hszB ⊢
  go_enter Try.func8, Try.ntmps8
  go_wp2_with fail
  refine (szFileS_at 1048576 (by omega) (by omega) a b off la ca Pa Ta _ hfa hlenA (fun j hj => (hszA j hj).1) (fun j hj => (hszA j hj).2)).mono ?_
  rintro e w1 ⟨z, rfl, hz1, hz2, hz, hb1⟩
  by_cases hz0 : 0 ≤ z
  · obtain ⟨hla, hsizes⟩ := hz hz0
    have HPA : Hid (∀ j, j < la → (Pa j).size ≤ 1048576) := fun j hj => (hsizes j hj).1
    have HTA : Hid (∀ j, j < la → (Ta j).size ≤ 1048576) := fun j hj => (hsizes j hj).2
    have HFA := hidU hfa
    have HFB := hidU hfb
    have HSB := hidU hszB
    clear hszA hszB hsizes hz hfa hfb
    go_wp2_with fail
    refine (szFileS_at z hz0 hz1 a' b' off' lb cb Pb Tb _ (HFB.out.later hb1) hlenB (fun j hj => (HSB.out j hj).1) (fun j hj => (HSB.out j hj).2)).mono ?_
    rintro e w2 ⟨y, rfl, hy1, hy2, hy, hb2⟩
    have Q2 := hidU (hb1.trans (hb2.mono hb1.size))
    clear hb1 hb2 HSB
    by_cases hy0 : 0 ≤ y
    · obtain ⟨hlb, hsizes⟩ := hy hy0
      have HPB : Hid (∀ j, j < lb → (Pb j).size ≤ 1048576) := fun j hj => (hsizes j hj).1
      have HTB : Hid (∀ j, j < lb → (Tb j).size ≤ 1048576) := fun j hj => (hsizes j hj).2
      clear hsizes hy
      go_wp2_with fail
      refine (toFileS_any a b off la ca Pa Ta _ (HFA.out.later Q2.out) hla).mono ?_
      rintro e w3 ⟨g3, rfl, o3, b3⟩
      have O3 := hidU o3.files
      have Q3 := hidU (Q2.out.trans (b3.mono Q2.out.size))
      clear o3 b3 Q2
      go_wp2_with fail
      refine (toFileS_any a' b' off' lb cb Pb Tb _ (HFB.out.later Q3.out) hlb).mono ?_
      rintro e w4 ⟨g4, rfl, o4, b4⟩
      have O4 := hidU o4.files
      have O3' := hidU (O3.out.later b4)
      have Q4 := hidU (Q3.out.trans (b4.mono Q3.out.size))
      clear o4 b4 Q3 O3
      go_wp2_with fail
      refine (changed_spec g3 la Pa Ta g4 lb Pb Tb _ O3'.out O4.out hla hlb HPA.out HTA.out HPB.out HTB.out).mono ?_
      rintro e w5 ⟨g0, n0, cap0, rfl, own0, b5⟩
      have Q5 := hidU (Q4.out.trans (b5.mono Q4.out.size))
      have hn : n0 ≤ 16 := by rw [own0.2]; exact changedS_len la Pa Ta lb Pb Tb
      have SH0 := hidU (ownS_texts own0)
      have N0 := hidU own0.2
      clear own0 b5 Q4 O3' O4
      go_wp2_with fail
      refine (toFileS_any a b off la ca Pa Ta _ (HFA.out.later Q5.out) hla).mono ?_
      rintro e w6 ⟨g6, rfl, o6, b6⟩
      have O6 := hidU o6
      have X6 := hidU (ownF_blk o6)
      have D6 := hidU b6
      clear o6 b6
      go_wp2_with fail
      refine (toFileS_any a' b' off' lb cb Pb Tb _ (HFB.out.later (Q5.out.trans (D6.out.mono Q5.out.size))) hlb).mono ?_
      rintro e w7 ⟨g7, rfl, o7, b7⟩
      have O7 := hidU o7
      have X7 := hidU (ownF_blk o7)
      have R7 := hidU (O6.out.later b7)
      have D7 := hidU (D6.out.trans (b7.mono D6.out.size))
      have S67 := hidU b7.size
      clear o7 b7 O6
      go_wp2_with fail
      refine (changed_impl g6 la Pa Ta g7 lb Pb Tb _ R7.out.files O7.out.files hla hlb HPA.out HTA.out HPB.out HTB.out).mono ?_
      rintro e w8 ⟨a8, n8, cap8, rfl, own8, b8⟩
      obtain rfl : n8 = n0 := by rw [own8.1, N0.out]
      have G8 := hidU own8
      have R8 := hidU (R7.out.later b8)
      have O8 := hidU (O7.out.later b8)
      have D8 := hidU (D7.out.trans (b8.mono D7.out.size))
      have Z8 := hidU b8.size
      obtain ⟨x8, t8⟩ := own8.texts
      have T8 := hidU t8
      clear own8 b8 t8 R7 O7 D7
      go_wp2_with fail
      refine (eqStringS_plain _ _ _ _ _ _ _ _ _ T8.out (SH0.out.later D8.out) (by omega)).mono ?_
      rintro e w9 ⟨rfl, b9⟩
      have G9 := hidU (G8.out.later b9)
      have R9 := hidU (R8.out.later b9)
      have O9 := hidU (O8.out.later b9)
      have D9 := hidU (D8.out.trans (b9.mono D8.out.size))
      have Z9 := hidU (Nat.le_trans Z8.out b9.size)
      clear b9 T8 G8 R8 O8 D8 Z8
      go_wp2_with fail
      refine (toFileS_any a b off la ca Pa Ta _ (HFA.out.later (Q5.out.trans (D9.out.mono Q5.out.size))) hla).mono ?_
      rintro e wa ⟨ga, rfl, oa, ba⟩
      have Pfa := hidU oa.files
      have Ga := hidU (G9.out.later ba)
      have Ra := hidU (R9.out.later ba)
      have Oa := hidU (O9.out.later ba)
      have Da := hidU (D9.out.trans (ba.mono D9.out.size))
      have Za := hidU (Nat.le_trans Z9.out ba.size)
      clear oa ba G9 R9 O9 D9 Z9
      go_wp2_with fail
      refine (eqFileS_any g6 ga la Pa Ta _ Ra.out.files Pfa.out hla).mono ?_
      rintro e wb ⟨rfl, bb⟩
      have Gb := hidU (Ga.out.later bb)
      have Rb := hidU (Ra.out.later bb)
      have Ob := hidU (Oa.out.later bb)
      have Db := hidU (Da.out.trans (bb.mono Da.out.size))
      have Zb := hidU (Nat.le_trans Za.out bb.size)
      clear bb Pfa Ga Ra Oa Da Za
      go_wp2_with fail
      refine (toFileS_any a' b' off' lb cb Pb Tb _ (HFB.out.later (Q5.out.trans (Db.out.mono Q5.out.size))) hlb).mono ?_
      rintro e wc ⟨gc, rfl, oc, bc⟩
      have Pfc := hidU oc.files
      have Gc := hidU (Gb.out.later bc)
      have Rc := hidU (Rb.out.later bc)
      have Oc := hidU (Ob.out.later bc)
      have Dc := hidU (Db.out.trans (bc.mono Db.out.size))
      have Zc := hidU (Nat.le_trans Zb.out bc.size)
      clear oc bc Gb Rb Ob Db Zb
      go_wp2_with fail
      refine (eqFileS_any g7 gc lb Pb Tb _ Oc.out.files Pfc.out hlb).mono ?_
      rintro e wd ⟨rfl, bd⟩
      have Gd := hidU (Gc.out.later bd)
      have Rd := hidU (Rc.out.later bd)
      have Od := hidU (Oc.out.later bd)
      have Dd := hidU (Dc.out.trans (bd.mono Dc.out.size))
      have Zd := hidU (Nat.le_trans Zc.out bd.size)
      clear bd Pfc Gc Rc Oc Dc Zc
      go_wp2_with fail
      refine (markF_arg _ w5.heap.size g6 la Pa Ta Rd.out hla).mono ?_
      rintro e we ⟨rfl, ke⟩
      have Ge := hidU (Gd.out.aside ke (Nat.lt_of_lt_of_le X6.out.2 S67.out))
      have Oe := hidU (Od.out.asideF ke X6.out.2)
      have De := hidU (Dd.out.trans (gm_under ke X6.out.1 Dd.out.size))
      have Ze := hidU (Nat.le_trans Zd.out ke.size)
      clear ke Gd Rd Od Dd Zd
      go_wp2_with fail
      refine (markF_argK (1 + la * 2) _ w6.heap.size g7 lb Pb Tb Oe.out hlb (by omega) (by omega)).mono ?_
      rintro e wf ⟨rfl, kf⟩
      have Gf := hidU (Ge.out.aside kf X7.out.2)
      have Df := hidU (De.out.trans (gm_under kf (Nat.le_trans D6.out.size X7.out.1) De.out.size))
      have Zf := hidU (Nat.le_trans Ze.out kf.size)
      have qk : decide (((1 + la * 2 + lb * 2 : Nat) : Int) < 0) = false := decide_eq_false (by omega)
      clear kf Ge Oe De Ze
      obtain ⟨xf, tf⟩ := Gf.out.texts
      have Tf := hidU tf
      clear tf
      go_wp2_with fail
      refine (eqStringS_plain _ _ _ _ _ _ _ _ _ Tf.out (SH0.out.later Df.out) (by omega)).mono ?_
      rintro e wg ⟨rfl, bg⟩
      have Gg := hidU (Gf.out.later bg)
      have Dg := hidU (Df.out.trans (bg.mono Df.out.size))
      have Zg := hidU (Nat.le_trans Zf.out bg.size)
      have W57 : Hid (w5.heap.size ≤ w7.heap.size) := Nat.le_trans D6.out.size S67.out
      clear bg Tf Gf Df Zf
      go_wp2_with fail
      refine (markS_out _ w7.heap.size _ _ _ _ Gg.out Zg.out (by omega)).mono ?_
      rintro e wh ⟨rfl, mh, bh⟩
      have Mh := hidU mh
      have Dh := hidU (Dg.out.trans (bh.mono W57.out))
      clear mh bh Gg Dg Zg
      go_wp2_with fail
      refine (heldS_out _ w7.heap.size _ _ _ Mh.out (by omega)).mono ?_
      rintro e wi ⟨rfl, bi⟩
      have Mi := hidU (Mh.out.later bi)
      have Di := hidU (Dh.out.trans (bi.mono Dh.out.size))
      have q1 : decide (((1 + n8 : Nat) : Int) < 0) = false := decide_eq_false (by omega)
      clear bi Mh Dh
      go_wp2_with fail
      refine (toFileS_any a b off la ca Pa Ta _ (HFA.out.later (Q5.out.trans (Di.out.mono Q5.out.size))) hla).mono ?_
      rintro e wj ⟨gj, rfl, oj, bj⟩
      have Pj := hidU oj.files
      have Mj := hidU (Mi.out.later bj)
      have Dj := hidU (Di.out.trans (bj.mono Di.out.size))
      clear oj bj Mi Di
      go_wp2_with fail
      refine (toFileS_any a' b' off' lb cb Pb Tb _ (HFB.out.later (Q5.out.trans (Dj.out.mono Q5.out.size))) hlb).mono ?_
      rintro e wk ⟨gk', rfl, ok, bk⟩
      have Pk := hidU ok.files
      have Pj' := hidU (Pj.out.later bk)
      have Mk := hidU (Mj.out.later bk)
      have Dk := hidU (Dj.out.trans (bk.mono Dj.out.size))
      clear ok bk Mj Dj Pj
      go_wp2_with fail
      refine (changed_impl gj la Pa Ta gk' lb Pb Tb _ Pj'.out Pk.out hla hlb HPA.out HTA.out HPB.out HTB.out).mono ?_
      rintro e wl ⟨al, nl, capl, rfl, ownl, bl⟩
      obtain rfl : nl = n8 := by rw [ownl.1, N0.out]
      have Ml := hidU (Mk.out.later bl)
      have Dl := hidU (Dk.out.trans (bl.mono Dk.out.size))
      obtain ⟨xl, tl⟩ := ownl.texts
      have Tl := hidU tl
      clear ownl bl tl Mk Dk Pk Pj'
      go_wp2_with fail
      refine (eqStringS_plain _ _ _ _ _ _ _ _ _ Tl.out (SH0.out.later Dl.out) (by omega)).mono ?_
      rintro e wm ⟨rfl, bm⟩
      have Mm := hidU (Ml.out.later bm)
      have Dm := hidU (Dl.out.trans (bm.mono Dl.out.size))
      clear bm Tl Ml Dl
      go_wp2_with fail
      refine (heldS_out _ w7.heap.size _ _ _ Mm.out (by omega)).mono ?_
      rintro e wn ⟨rfl, bn⟩
      have Dn := hidU (Dm.out.trans (bn.mono Dm.out.size))
      clear bn Mm Dm
      go_wp2
      go_ret
      exact ⟨rfl, Q5.out.trans (Dn.out.mono Q5.out.size)⟩
    · clear hy
      go_wp2
      go_ret
      exact ⟨rfl, Q2.out⟩
  · clear hz
    go_wp2
    go_ret
    exact ⟨rfl, hb1⟩

set_option linter.unusedVariables false in
set_option maxRecDepth 100000 in
theorem lifted (os : Os) (started : os.Started) (H : Type) (enc : TypeId × Value → H) :
    ReturnsInHanded {} Try.checked os 8 .any (Rows.fnExactChangedSpec.pre6 enc Try.prog Try.f8 Rows.fnExactChangedRow.domain false) (Rows.fnExactChangedSpec.post enc Try.prog Try.f8 false true false false) := by
  refine returnsInHanded_of_change (C := Try.checked) own started (by kernel_rfl) Try.func8
    (ChangeSpec.witness6 (enc := enc) (C := Try.checked) false ⟨#[], #[.slice none 0 0, .slice none 0 0], []⟩ 8 (by kernel_rfl) (by kernel_rfl) (by kernel_rfl) (by kernel_rfl)) ?_
  intro W base args ds gs before hval0 hW hcnd _
  have hval : ∀ (j : Nat) t v, Try.f8.params[j]? = some t → args[j]? = some v → Value.okWide Try.prog W .any base t v := hval0
  have hW' := hW
  obtain ⟨p, q, hA0, hV, rfl, hfz, hnd⟩ := hW
  have hA : DataW.TrodAll enc Try.prog W 0 (fun _ => true) true Try.f8.params.toList args.toList ds p := hA0
  rw [Try.params8] at hA hval
  obtain ⟨v0, vs0, d0, ds0, p0, q0, hargs, rfl, rfl, h0, r0⟩ := trodAll_cons hA
  obtain ⟨v1, vs1, d1, ds1, p1, q1, rfl, rfl, rfl, h1, r1⟩ := trodAll_cons r0
  obtain ⟨rfl, rfl, rfl⟩ := trodAll_nil r1
  obtain rfl : args = #[v0, v1] := by cases args; simp_all
  obtain ⟨rfl, rfl⟩ := trodVars_none hV
  obtain ⟨a0, len0, cap0, rfl⟩ := okWide_slice Try.underlying42 (hval 0 42 v0 rfl rfl)
  have k0 := h0
  have lt0 : ∀ x ∈ p0, x.block < W.heap.size := by obtain ⟨m, hm⟩ := k0; exact DataW.trod_lt m _ _ _ hm
  obtain ⟨S0, rfl, rfl, rfl, w0⟩ : ∃ S : FSrc, a0 = S.a ∧ len0 = S.len ∧ cap0 = S.cap ∧ FSrcIn S W := by
    obtain ⟨fuel, hf⟩ := h0
    exact files_open hf
  obtain ⟨a1, len1, cap1, rfl⟩ := okWide_slice Try.underlying42 (hval 1 42 v1 rfl rfl)
  have k1 := h1
  have lt1 : ∀ x ∈ p1, x.block < W.heap.size := by obtain ⟨m, hm⟩ := k1; exact DataW.trod_lt m _ _ _ hm
  obtain ⟨S1, rfl, rfl, rfl, w1⟩ : ∃ S : FSrc, a1 = S.a ∧ len1 = S.len ∧ cap1 = S.cap ∧ FSrcIn S W := by
    obtain ⟨fuel, hf⟩ := h1
    exact files_open hf
  clear hA0 hval0
  refine (walk S0 S1 W w0 w1).mono fun e W' ⟨he, bel⟩ => ?_
  subst he
  exact ⟨_, rfl, _, _, _, [], _, [], hW', trodAll_mk1 (shut_bool Try.underlying4 _), (trodAll_cons_mk (Below.trod laidOut (by kernel_rfl) (of_decide_eq_true (by kernel_rfl)) k0 bel lt0) (trodAll_cons_mk (Below.trod laidOut (by kernel_rfl) (of_decide_eq_true (by kernel_rfl)) k1 bel lt1) trodAll_mk0)), rfl, bel.frame _, fun h => by cases h⟩

theorem over : Rows.fnExactChangedRow.holds Try.pinned (OpenSpec.ofChange Rows.fnExactChangedSpec) :=
  OpenClaim.holds_of_wide 8 Try.f8 rfl rfl rfl rfl rfl rfl rfl ⟨rfl, rfl, rfl, rfl, rfl⟩ rfl rfl rfl rfl rfl (by kernel_rfl) Try.func8 (by kernel_rfl)
    (of_decide_eq_true (by kernel_rfl)) (by unfold Func.isWrapper; first | (rw [if_pos (by decide +kernel)]; kernel_rfl) | (rw [if_neg (by decide +kernel)]; exact ⟨rfl, rfl⟩))
    (fun os started H enc _ => lifted os started H enc)
end Go.Proofs.Ytjofmbgacmdpeaa.fnExactChanged
namespace Go.Proofs.Ytjofmbgacmdpeaa
theorem fnExactChanged_holds : Rows.FnExactChangedSaid := fnExactChanged.over
end Go.Proofs.Ytjofmbgacmdpeaa
