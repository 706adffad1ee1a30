/-
  At every program laws.FnExactUses returns true: impl.Uses answers as spec.Uses does, writes into no argument and keeps nothing of one, and its answer owns its memory; no condition.
-/
import Derived.Test.YtaakfnclelcopaaRows
import Derived.ProofKit
import Derived.ShutString
import Derived.ChangeOld
import Derived.Test.YtaakfnclelcopaaCUsesUsedInToImplTold
namespace Go.Proofs.Ytaakfnclelcopaa.fnExactUses
open Go.ChangeShapes Go.WideShapes Go.ChangeAt Go.RowKit
open Go.ChangeMaps (open_string shut_string)

theorem own : ownKnob Try.prog.godebug = none := by kernel_rfl
theorem laidOut : laidOutB Try.prog = true := by kernel_rfl

set_option maxRecDepth 100000 in
set_option maxHeartbeats 3200000 in
theorem walk (A : MA) (m : Md) (w : World) (hin : ModIn w A m) (hbig : BigM m) (_ : Nums m.ex) :
    Calls Try.prog 3 #[modA A m] w fun e w' => e = .returned (.bool true) ∧ Below w.heap.size w w' := by
  have HI := hidI hin
  have HG := hidI hbig
  clear hin hbig
  unfold modA
  go_enter Try.func3, Try.ntmps3
  go_upto_region 1 with fail
  refine world_anyI (R := fun W => W.heap[w.heap.size]? = some (boxA A m) ∧ Below w.heap.size w W) ⟨heap_alloc_new w _, (Below.refl _ _).alloc (Nat.le_refl _) _⟩ ?_
  obtain ⟨gx, hgx⟩ : ∃ gx, gx = w.heap.size := ⟨_, rfl⟩
  rw [← hgx]
  rintro w1 ⟨hx, hb⟩
  rw [hgx] at hb
  have HGX := hidI hgx
  clear hgx
  have X1 := hidI hx
  have B1 := hidI hb
  clear hx hb
  obtain ⟨c0, c1, c2, c3, c4, cf⟩ := five_of X1.out
  go_wp2_with fail
  refine (szMod_any A m 1048576 _ (HI.out.later B1.out) HG.out (by decide) (by decide)).mono ?_
  rintro e w2 ⟨⟨y, rfl, hy1, hy2, hy3⟩, hb⟩
  have X2 := hidI (blk_later X1.out hb)
  have B2 := hidI (B1.out.trans (hb.mono B1.out.size))
  clear hb X1 B1 c0 c1 c2 c3 c4 cf
  by_cases hy : 0 ≤ y
  case neg =>
    clear hy3
    go_wp2
    go_ret
    exact ⟨rfl, B2.out⟩
  have HC : Hid (costM m ≤ 1048576) := by have := hy3 hy; exact hidI (by omega)
  have FW := hidI (lens_of HC.out)
  clear hy3 hy1 hy2
  obtain ⟨c0, c1, c2, c3, c4, cf⟩ := five_of X2.out
  go_wp2_with fail
  refine (toMod_any A m w2 (HI.out.later B2.out) FW.out.1 FW.out.2.1 FW.out.2.2.1 FW.out.2.2.2.1 FW.out.2.2.2.2).mono ?_
  rintro e w3 ⟨S0, rfl, o3, hb⟩
  have X3 := hidI (blk_later X2.out hb)
  have B3 := hidI (B2.out.trans (hb.mono B2.out.size))
  have O3 := hidI o3
  clear o3 hb X2 B2 c0 c1 c2 c3 c4 cf
  go_wp2_with fail
  refine (uses_spec S0 m w3 (MdR.of O3.out) ⟨FW.out.2.2.2.2, FW.out.2.2.2.1, FW.out.2.2.1⟩).mono ?_
  rintro e w4 ⟨g0, n0, cap0, rfl, own0, hb⟩
  have hnn : n0 ≤ 1048576 := by rw [own0.2]; exact Nat.le_trans (use_len m) (by have := cost_lens HC.out; omega)
  have N0 := hidI own0.2
  have L4 : Hid (U1 w A m gx g0 n0 _ w4) := ⟨blk_later X3.out hb, B3.out.trans (hb.mono B3.out.size), ownS_texts own0⟩
  have G4 : Hid (g0 < w4.heap.size) := (ownS_blk own0).2
  clear own0 hb X3 B3 O3
  obtain ⟨c0, c1, c2, c3, c4, cf⟩ := five_of L4.out.x
  go_wp2_with fail
  refine (toMod_any A m w4 (HI.out.later L4.out.bel) FW.out.1 FW.out.2.1 FW.out.2.2.1 FW.out.2.2.2.1 FW.out.2.2.2.2).mono ?_
  rintro e w5 ⟨S1, rfl, o5, hb⟩
  have O5 := hidI o5
  have L5 := hidI (L4.out.later hb)
  have G5 : Hid (w4.heap.size ≤ w5.heap.size) := hb.size
  clear o5 hb c0 c1 c2 c3 c4 cf
  unfold modD
  go_upto_region 7 with fail
  refine world_anyI (R := fun W => W.heap[w5.heap.size]? = some (boxD S1 m) ∧ Below w5.heap.size w5 W) ⟨heap_alloc_new w5 _, (Below.refl _ _).alloc (Nat.le_refl _) _⟩ ?_
  obtain ⟨gy, hgy⟩ : ∃ gy, gy = w5.heap.size := ⟨_, rfl⟩
  rw [← hgy]
  rintro w6 ⟨hy6, hb⟩
  rw [hgy] at hb
  clear hgy
  have Y6 := hidI hy6
  have O6 := hidI (O5.out.later hb)
  have L6 := hidI (L5.out.later hb)
  have H6 : Hid (∀ k, MdHas S1 k → k < w6.heap.size) := fun k hk => Nat.lt_of_lt_of_le (O5.out.in hk).2.1 hb.size
  have G6 : Hid (w4.heap.size ≤ w6.heap.size) := Nat.le_trans G5.out hb.size
  clear hy6 hb O5 L5 G5
  obtain ⟨c0, c1, c2, c3, c4, cf⟩ := five_of Y6.out
  go_wp2_with fail
  refine (uses_impl S1 m w6 (MdR.of O6.out) ⟨FW.out.2.2.2.2, FW.out.2.2.2.1, FW.out.2.2.1⟩ (NmSz.of_cost HC.out)).mono ?_
  rintro e w7 ⟨a7, n7, cap7, rfl, own7, hb⟩
  obtain rfl : n7 = n0 := by rw [own7.1, N0.out]
  have M7 : Hid (U2 w4.heap.size S1 m gy w6.heap.size a7 n7 cap7 (useAll m) w7) := ⟨blk_later Y6.out hb, O6.out.later hb, own7⟩
  have L7 := hidI (L6.out.later hb)
  have G7 : Hid (w6.heap.size ≤ w7.heap.size) := hb.size
  clear own7 hb Y6 O6 L6 c0 c1 c2 c3 c4 cf
  obtain ⟨x7, t7⟩ := M7.out.out.texts
  have T7 := hidI t7
  clear t7
  go_wp2_with fail
  refine (eqStringS_plain _ _ _ _ _ _ _ _ _ T7.out L7.out.sh (by omega)).mono ?_
  rintro e w8 ⟨rfl, hb⟩
  have M8 := hidI (M7.out.later hb)
  have L8 := hidI (L7.out.later hb)
  have G8 : Hid (w6.heap.size ≤ w8.heap.size) := Nat.le_trans G7.out hb.size
  clear hb M7 L7 G7 T7
  go_upto_region 10 with fail
  go_cut [31] (fun s31 wx => s31 = .bool false ∧ Hid (Below w8.heap.size w8 wx))
  case first =>
    obtain ⟨c0, c1, c2, c3, c4, cf⟩ := five_of M8.out.y
    obtain ⟨d0, d1, d2, d3, d4, df⟩ := five_of L8.out.x
    have hyl := (Array.getElem?_eq_some_iff.1 M8.out.y).1
    have hxl := (Array.getElem?_eq_some_iff.1 L8.out.x).1
    have FEW : Hid (MdFew m) := ⟨by have := FW.out; omega, by have := FW.out; omega, by have := FW.out; omega, by have := FW.out; omega, by have := FW.out; omega⟩
    go_region_with (first | (go_at_call 9; refine (toMod_any A m _ (HI.out.later L8.out.bel.drew) FW.out.1 FW.out.2.1 FW.out.2.2.1 FW.out.2.2.2.1 FW.out.2.2.2.2).mono ?_; rintro e wa ⟨Sa, rfl, oa, ba⟩; have OA := hidI oa; have BA := hidI (((Below.refl w8.heap.size w8).drew).trans ba); have YA := hidI (blk_later M8.out.y BA.out); clear oa ba; obtain ⟨q0, q1, q2, q3, q4, qf⟩ := five_of YA.out; have hyla := (Array.getElem?_eq_some_iff.1 YA.out).1; unfold modD) | (go_at_call 12; refine (eqMd_any _ _ S1 Sa m _ (M8.out.own.later BA.out) OA.out FEW.out).mono ?_; rintro e wb ⟨rfl, bb⟩; have BB := hidI (BA.out.trans (bb.mono BA.out.size)); clear bb))
    all_goals
      go_wp2
      go_meet
      case rel => exact ⟨rfl, BB⟩
  case rest =>
    obtain ⟨rfl, hb⟩ := hcut
    have M9 := hidI (M8.out.later hb.out)
    have L9 := hidI (L8.out.later hb.out)
    have G9 : Hid (w6.heap.size ≤ wc.heap.size) := Nat.le_trans G8.out hb.out.size
    clear hb M8 L8 G8
    obtain ⟨c0, c1, c2, c3, c4, cf⟩ := five_of M9.out.y
    go_wp2_with fail
    refine (markMd_any w4.heap.size S1 m 1 wc M9.out.own (Nat.le_trans G6.out G9.out) (km_one HC.out)).mono ?_
    rintro e w10 ⟨rfl, _, hb, hk⟩
    have HGL : Hid (gx < w4.heap.size) := (Array.getElem?_eq_some_iff.1 L4.out.x).1
    have L10 := hidI (L9.out.under hb L4.out.bel.size HGL.out G4.out)
    have O10 := hidI (M9.out.out.keepM fun j h1 h2 => hk j h2 fun hh => absurd (H6.out j hh) (by omega))
    have G10 : Hid (w6.heap.size ≤ w10.heap.size) := Nat.le_trans G9.out hb.size
    obtain ⟨k1, HK1⟩ : ∃ k1, Hid (k1 = kM m 1 5) := ⟨_, hidI rfl⟩
    rw [← HK1.out]
    clear hb hk M9 L9 G9 c0 c1 c2 c3 c4 cf
    have dz : decide ((k1 : Int) < 0) = false := decide_eq_false (by omega)
    obtain ⟨x10, t10⟩ := O10.out.texts
    have T10 := hidI t10
    clear t10
    go_wp2_with fail
    refine (eqStringS_plain _ _ _ _ _ _ _ _ _ T10.out L10.out.sh (by omega)).mono ?_
    rintro e w11 ⟨rfl, hb⟩
    have L11 := hidI (L10.out.later hb)
    have O11 := hidI (O10.out.later hb)
    have G11 : Hid (w6.heap.size ≤ w11.heap.size) := Nat.le_trans G10.out hb.size
    clear hb L10 O10 G10 T10
    go_wp2_with fail
    refine (markS_out _ w6.heap.size _ _ _ _ O11.out G11.out (by omega)).mono ?_
    rintro e w12 ⟨rfl, m12, hb⟩
    have MK := hidI m12
    have L12 := hidI (L11.out.under hb (Nat.le_trans L4.out.bel.size G6.out) (Nat.lt_of_lt_of_le HGL.out G6.out) (Nat.lt_of_lt_of_le G4.out G6.out))
    clear hb m12 L11 O11
    go_wp2_with fail
    refine (heldS_out _ w6.heap.size _ _ _ MK.out (by omega)).mono ?_
    rintro e w13 ⟨rfl, hb⟩
    have MK13 := hidI (MK.out.later hb)
    have L13 := hidI (L12.out.later hb)
    have q1 : decide (((1 + n7 : Nat) : Int) < 0) = false := decide_eq_false (by omega)
    clear hb MK L12
    obtain ⟨c0, c1, c2, c3, c4, cf⟩ := five_of L13.out.x
    go_wp2_with fail
    refine (toMod_any A m w13 (HI.out.later L13.out.bel) FW.out.1 FW.out.2.1 FW.out.2.2.1 FW.out.2.2.2.1 FW.out.2.2.2.2).mono ?_
    rintro e w14 ⟨S2, rfl, o14, hb⟩
    have O14 := hidI o14
    have L14 := hidI (L13.out.later hb)
    have MK14 := hidI (MK13.out.later hb)
    clear o14 hb L13 MK13 c0 c1 c2 c3 c4 cf
    go_wp2_with fail
    refine (uses_impl S2 m w14 (MdR.of O14.out) ⟨FW.out.2.2.2.2, FW.out.2.2.2.1, FW.out.2.2.1⟩ (NmSz.of_cost HC.out)).mono ?_
    rintro e w15 ⟨a15, n15, cap15, rfl, own15, hb⟩
    obtain rfl : n15 = n7 := by rw [own15.1, N0.out]
    have L15 := hidI (L14.out.later hb)
    have MK15 := hidI (MK14.out.later hb)
    obtain ⟨x15, t15⟩ := own15.texts
    have T15 := hidI t15
    clear own15 t15 hb L14 MK14 O14
    go_wp2_with fail
    refine (eqStringS_plain _ _ _ _ _ _ _ _ _ T15.out L15.out.sh (by omega)).mono ?_
    rintro e w16 ⟨rfl, hb⟩
    have L16 := hidI (L15.out.later hb)
    have MK16 := hidI (MK15.out.later hb)
    clear hb L15 MK15 T15
    go_wp2_with fail
    refine (heldS_out _ w6.heap.size _ _ _ MK16.out (by omega)).mono ?_
    rintro e w17 ⟨rfl, hb⟩
    have L17 := hidI (L16.out.later hb)
    clear hb
    go_wp2
    go_ret
    exact ⟨rfl, L17.out.bel⟩

set_option linter.unusedVariables false in
set_option maxRecDepth 100000 in
theorem lifted (os : Os) (started : os.Started) (H : Type) (enc : TypeId × Value → H) :
    ReturnsInHanded {} Try.checked os 3 .any (Rows.fnExactUsesSpec.pre6 enc Try.prog Try.f3 Rows.fnExactUsesRow.domain false) (Rows.fnExactUsesSpec.post enc Try.prog Try.f3 false true false false) := by
  refine returnsInHanded_of_change (C := Try.checked) own started (by kernel_rfl) Try.func3
    (ChangeSpec.witness6 (enc := enc) (C := Try.checked) false ⟨#[], #[.agg #[.slice none 0 0, .slice none 0 0, .slice none 0 0, .slice none 0 0, .slice none 0 0]], []⟩ 8 (by kernel_rfl) (by kernel_rfl) (by kernel_rfl) (by kernel_rfl)) ?_
  intro W base args ds gs before hval0 hW hcnd _
  have hval : ∀ (j : Nat) t v, Try.f3.params[j]? = some t → args[j]? = some v → Value.okWide Try.prog W .any base t v := hval0
  have hW' := hW
  obtain ⟨p, q, hA0, hV, rfl, hfz, hnd⟩ := hW
  have hA : DataW.TrodAll enc Try.prog W 0 (fun _ => true) true Try.f3.params.toList args.toList ds p := hA0
  rw [Try.params3] at hA hval
  obtain ⟨v0, vs0, d0, ds0, p0, q0, hargs, rfl, rfl, h0, r0⟩ := trodAll_cons hA
  obtain ⟨rfl, rfl, rfl⟩ := trodAll_nil r0
  obtain rfl : args = #[v0] := by cases args; simp_all
  obtain ⟨rfl, rfl⟩ := trodVars_none hV
  obtain ⟨cs0, rfl, _⟩ := okWide_struct Try.underlying28 (hval 0 28 v0 rfl rfl)
  have k0 := h0
  have lt0 : ∀ x ∈ p0, x.block < W.heap.size := by obtain ⟨m, hm⟩ := k0; exact DataW.trod_lt m _ _ _ hm
  obtain ⟨A0, m0, rfl, in0, big0, nums0⟩ : ∃ (A : MA) (m : Md), cs0 = (modA A m).cells ∧ ModIn W A m ∧ BigM m ∧ Nums m.ex := by
    obtain ⟨fuel, hf⟩ := h0
    obtain ⟨A, m, e, h⟩ := mod_open hf
    exact ⟨A, m, Array.toList_inj.1 e, h⟩
  clear hA0 hval0
  refine (walk A0 m0 W in0 big0 nums0).mono fun e W' ⟨he, bel⟩ => ?_
  subst he
  exact ⟨_, rfl, _, _, _, [], _, [], hW', trodAll_mk1 (shut_bool Try.underlying4 _), (trodAll_cons_mk (Below.trod laidOut (by kernel_rfl) (of_decide_eq_true (by kernel_rfl)) k0 bel lt0) trodAll_mk0), rfl, bel.frame _, fun h => by cases h⟩

theorem over : Rows.fnExactUsesRow.holds Try.pinned (OpenSpec.ofChange Rows.fnExactUsesSpec) :=
  OpenClaim.holds_of_wide 3 Try.f3 rfl rfl rfl rfl rfl rfl rfl ⟨rfl, rfl, rfl, rfl, rfl⟩ rfl rfl rfl rfl rfl (by kernel_rfl) Try.func3 (by kernel_rfl)
    (of_decide_eq_true (by kernel_rfl)) (by unfold Func.isWrapper; first | (rw [if_pos (by decide +kernel)]; kernel_rfl) | (rw [if_neg (by decide +kernel)]; exact ⟨rfl, rfl⟩))
    (fun os started H enc _ => lifted os started H enc)
end Go.Proofs.Ytaakfnclelcopaa.fnExactUses
namespace Go.Proofs.Ytaakfnclelcopaa
theorem fnExactUses_holds : Rows.FnExactUsesSaid := fnExactUses.over
end Go.Proofs.Ytaakfnclelcopaa
