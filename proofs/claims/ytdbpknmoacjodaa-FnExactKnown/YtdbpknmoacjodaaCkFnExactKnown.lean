/-
  At every program and number laws.FnExactKnown returns true: impl.Known answers as spec.Known does and writes into no argument; no condition.
-/
import Derived.Test.YtdbpknmoacjodaaRows
import Derived.ProofKit
import Derived.ShutString
import Derived.ChangeOld
import Derived.Test.YtdbpknmoacjodaaCkImplKnownToImplKnownB
namespace Go.Proofs.Ytdbpknmoacjodaa.fnExactKnown
open Go.ChangeShapes Go.WideShapes Go.ChangeAt Go.RowKit
open Go.ChangeMaps (open_string shut_string)

theorem own : ownKnob Try.prog.godebug = none := by kernel_rfl
theorem laidOut : laidOutB Try.prog = true := by kernel_rfl

set_option maxRecDepth 100000 in
set_option maxHeartbeats 3200000 in
theorem walk (A : MA) (m : Md) (a1 : Int) (w : World) (hin : ModIn w A m) (hbig : BigM m) (hnm : Nums m.ex) (_ : (Lit.int .i64 a1).wf = true) :
    Calls Try.prog 3 #[modA A m, .int .i64 a1] w fun e w' => e = .returned (.bool true) ∧ Below w.heap.size w w' := by
  have HI := hidI hin
  have HG := hidI hbig
  have HNM := hidI hnm
  clear hin hbig hnm
  unfold modA
  go_enter Try.func3, Try.ntmps3
  go_upto_region 1 with fail
  refine world_anyI (R := fun W => W.heap[w.heap.size]? = some (boxA A m) ∧ Below w.heap.size w W) ⟨heap_alloc_new w _, (Below.refl _ _).alloc (Nat.le_refl _) _⟩ ?_
  obtain ⟨gx, hgx⟩ : ∃ gx, gx = w.heap.size := ⟨_, rfl⟩
  rw [← hgx]
  rintro w1 ⟨hx, hb⟩
  rw [hgx] at hb
  clear hgx
  have X1 := hidI hx
  have B1 := hidI hb
  clear hx hb
  obtain ⟨c0, c1, c2, c3, c4, cf⟩ := five_of X1.out
  go_wp2_with fail
  refine (szMod_any A m 1048576 _ (HI.out.later B1.out) HG.out (by decide) (by decide)).mono ?_
  rintro e w2 ⟨⟨y, rfl, hy1, hy2, hy3⟩, hb⟩
  have X2 := hidI (blk_later X1.out hb)
  have B2 := hidI (B1.out.trans (hb.mono B1.out.size))
  clear hb X1 B1 c0 c1 c2 c3 c4 cf
  by_cases hy : 0 ≤ y
  case neg =>
    clear hy3
    go_wp2
    go_ret
    exact ⟨rfl, B2.out⟩
  have HC : Hid (costM m ≤ 1048576) := by have := hy3 hy; exact hidI (by omega)
  have FW := hidI (lens_of HC.out)
  have FEW : Hid (MdFew m) := ⟨by have := FW.out; omega, by have := FW.out; omega, by have := FW.out; omega, by have := FW.out; omega, by have := FW.out; omega⟩
  clear hy3 hy1 hy2
  obtain ⟨c0, c1, c2, c3, c4, cf⟩ := five_of X2.out
  go_wp2_with fail
  refine (toMod_any A m w2 (HI.out.later B2.out) FW.out.1 FW.out.2.1 FW.out.2.2.1 FW.out.2.2.2.1 FW.out.2.2.2.2).mono ?_
  rintro e w3 ⟨S0, rfl, o3, hb⟩
  have X3 := hidI (blk_later X2.out hb)
  have B3 := hidI (B2.out.trans (hb.mono B2.out.size))
  have O3 := hidI o3
  clear o3 hb X2 B2 c0 c1 c2 c3 c4 cf
  go_wp2_with fail
  refine (known_spec _ S0 m a1 w3 O3.out FW.out.2.2.2.2 FW.out.2.2.2.1).mono ?_
  rintro e w4 ⟨v0, b0, rfl, hk0, hb⟩
  have X4 := hidI (blk_later X3.out hb)
  have B4 := hidI (B3.out.trans (hb.mono B3.out.size))
  clear hb X3 B3 O3
  obtain ⟨c0, c1, c2, c3, c4, cf⟩ := five_of X4.out
  go_wp2_with fail
  refine (toMod_any A m w4 (HI.out.later B4.out) FW.out.1 FW.out.2.1 FW.out.2.2.1 FW.out.2.2.2.1 FW.out.2.2.2.2).mono ?_
  rintro e w5 ⟨S1, rfl, o5, hb⟩
  have O5 := hidI o5
  have X5 := hidI (blk_later X4.out hb)
  have B5 := hidI (B4.out.trans (hb.mono B4.out.size))
  clear o5 hb X4 B4 c0 c1 c2 c3 c4 cf
  unfold modD
  go_upto_region 7 with fail
  refine world_anyI (R := fun W => W.heap[w5.heap.size]? = some (boxD S1 m) ∧ Below w5.heap.size w5 W) ⟨heap_alloc_new w5 _, (Below.refl _ _).alloc (Nat.le_refl _) _⟩ ?_
  obtain ⟨gy, hgy⟩ : ∃ gy, gy = w5.heap.size := ⟨_, rfl⟩
  rw [← hgy]
  rintro w6 ⟨hy6, hb⟩
  rw [hgy] at hb
  clear hgy
  have Y6 := hidI hy6
  have O6 := hidI (O5.out.later hb)
  have X6 := hidI (blk_later X5.out hb)
  have B6 := hidI (B5.out.trans (hb.mono B5.out.size))
  clear hy6 hb O5 X5 B5
  obtain ⟨c0, c1, c2, c3, c4, cf⟩ := five_of Y6.out
  go_wp2_with fail
  refine (known_impl _ S1 m a1 w6 O6.out FW.out.2.2.2.2 FW.out.2.2.2.1 HNM.out).mono ?_
  rintro e w7 ⟨v1, b1, rfl, hk1, hb⟩
  have Y7 := hidI (blk_later Y6.out hb)
  have O7 := hidI (O6.out.later hb)
  have X7 := hidI (blk_later X6.out hb)
  have B7 := hidI (B6.out.trans (hb.mono B6.out.size))
  clear hb Y6 O6 X6 B6 c0 c1 c2 c3 c4 cf
  obtain ⟨rfl, rfl⟩ := hk0.one hk1
  clear hk0 hk1
  have nv : (v1 != v1) = false := by simp
  have nb : (b1 != b1) = false := by simp
  go_upto_region 10 with fail
  go_cut [43] (fun sx wx => sx = .bool false ∧ Hid (Below w7.heap.size w7 wx))
  case first =>
    obtain ⟨c0, c1, c2, c3, c4, cf⟩ := five_of Y7.out
    obtain ⟨d0, d1, d2, d3, d4, df⟩ := five_of X7.out
    have hyl := (Array.getElem?_eq_some_iff.1 Y7.out).1
    have hxl := (Array.getElem?_eq_some_iff.1 X7.out).1
    go_region_with (first | (go_at_call 11; refine (toMod_any A m _ (HI.out.later B7.out.drew) FW.out.1 FW.out.2.1 FW.out.2.2.1 FW.out.2.2.2.1 FW.out.2.2.2.2).mono ?_; rintro e wa ⟨Sa, rfl, oa, ba⟩; have OA := hidI oa; have BA := hidI (((Below.refl w7.heap.size w7).drew).trans ba); have YA := hidI (blk_later Y7.out BA.out); clear oa ba; obtain ⟨q0, q1, q2, q3, q4, qf⟩ := five_of YA.out; have hyla := (Array.getElem?_eq_some_iff.1 YA.out).1; unfold modD) | (go_at_call 13; refine (eqMd_any _ _ S1 Sa m _ (O7.out.later BA.out) OA.out FEW.out).mono ?_; rintro e wb ⟨rfl, bb⟩; have BB := hidI (BA.out.trans (bb.mono BA.out.size)); clear bb))
    all_goals
      go_wp2
      go_meet
      case rel => exact ⟨rfl, BB⟩
  case rest =>
    obtain ⟨rfl, hb⟩ := hcut
    have B8 := hidI (B7.out.trans (hb.out.mono B7.out.size))
    clear hb
    go_wp2
    go_ret
    exact ⟨rfl, B8.out⟩

set_option linter.unusedVariables false in
set_option maxRecDepth 100000 in
theorem lifted (os : Os) (started : os.Started) (H : Type) (enc : TypeId × Value → H) :
    ReturnsInHanded {} Try.checked os 3 .any (Rows.fnExactKnownSpec.pre6 enc Try.prog Try.f3 Rows.fnExactKnownRow.domain false) (Rows.fnExactKnownSpec.post enc Try.prog Try.f3 false true false false) := by
  refine returnsInHanded_of_change (C := Try.checked) own started (by kernel_rfl) Try.func3
    (ChangeSpec.witness6 (enc := enc) (C := Try.checked) false ⟨#[], #[.agg #[.slice none 0 0, .slice none 0 0, .slice none 0 0, .slice none 0 0, .slice none 0 0], .int .i64 0], []⟩ 8 (by kernel_rfl) (by kernel_rfl) (by kernel_rfl) (by kernel_rfl)) ?_
  intro W base args ds gs before hval0 hW hcnd _
  have hval : ∀ (j : Nat) t v, Try.f3.params[j]? = some t → args[j]? = some v → Value.okWide Try.prog W .any base t v := hval0
  have hW' := hW
  obtain ⟨p, q, hA0, hV, rfl, hfz, hnd⟩ := hW
  have hA : DataW.TrodAll enc Try.prog W 0 (fun _ => true) true Try.f3.params.toList args.toList ds p := hA0
  rw [Try.params3] at hA hval
  obtain ⟨v0, vs0, d0, ds0, p0, q0, hargs, rfl, rfl, h0, r0⟩ := trodAll_cons hA
  obtain ⟨v1, vs1, d1, ds1, p1, q1, rfl, rfl, rfl, h1, r1⟩ := trodAll_cons r0
  obtain ⟨rfl, rfl, rfl⟩ := trodAll_nil r1
  obtain rfl : args = #[v0, v1] := by cases args; simp_all
  obtain ⟨rfl, rfl⟩ := trodVars_none hV
  obtain ⟨cs0, rfl, _⟩ := okWide_struct Try.underlying28 (hval 0 28 v0 rfl rfl)
  have k0 := h0
  have lt0 : ∀ x ∈ p0, x.block < W.heap.size := by obtain ⟨m, hm⟩ := k0; exact DataW.trod_lt m _ _ _ hm
  obtain ⟨A0, m0, rfl, in0, big0, nums0⟩ : ∃ (A : MA) (m : Md), cs0 = (modA A m).cells ∧ ModIn W A m ∧ BigM m ∧ Nums m.ex := by
    obtain ⟨fuel, hf⟩ := h0
    obtain ⟨A, m, e, h⟩ := mod_open hf
    exact ⟨A, m, Array.toList_inj.1 e, h⟩
  obtain ⟨a1, rfl, rfl, rfl, w1⟩ := open_int Try.underlying3 (hval 1 3 v1 rfl rfl) h1
  clear hA0 hval0
  refine (walk A0 m0 a1 W in0 big0 nums0 w1).mono fun e W' ⟨he, bel⟩ => ?_
  subst he
  exact ⟨_, rfl, _, _, _, [], _, [], hW', trodAll_mk1 (shut_bool Try.underlying4 _), (trodAll_cons_mk (Below.trod laidOut (by kernel_rfl) (of_decide_eq_true (by kernel_rfl)) k0 bel lt0) (trodAll_cons_mk (shut_int Try.underlying3 w1) trodAll_mk0)), rfl, bel.frame _, fun h => by cases h⟩

theorem over : Rows.fnExactKnownRow.holds Try.pinned (OpenSpec.ofChange Rows.fnExactKnownSpec) :=
  OpenClaim.holds_of_wide 3 Try.f3 rfl rfl rfl rfl rfl rfl rfl ⟨rfl, rfl, rfl, rfl, rfl⟩ rfl rfl rfl rfl rfl (by kernel_rfl) Try.func3 (by kernel_rfl)
    (of_decide_eq_true (by kernel_rfl)) (by unfold Func.isWrapper; first | (rw [if_pos (by decide +kernel)]; kernel_rfl) | (rw [if_neg (by decide +kernel)]; exact ⟨rfl, rfl⟩))
    (fun os started H enc _ => lifted os started H enc)
end Go.Proofs.Ytdbpknmoacjodaa.fnExactKnown
namespace Go.Proofs.Ytdbpknmoacjodaa
theorem fnExactKnown_holds : Rows.FnExactKnownSaid := fnExactKnown.over
end Go.Proofs.Ytdbpknmoacjodaa
