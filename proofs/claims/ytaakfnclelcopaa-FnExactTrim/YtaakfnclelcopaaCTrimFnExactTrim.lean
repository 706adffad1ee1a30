/-
  At every program laws.FnExactTrim returns true: impl.Trim answers as spec.Trim does, writes into no argument and keeps nothing of one, and its answer owns its memory; no condition.
-/
import Derived.Test.YtaakfnclelcopaaRows
import Derived.ProofKit
import Derived.ShutString
import Derived.ChangeOld
import Derived.Test.YtaakfnclelcopaaCTrimImplTrim
namespace Go.Proofs.Ytaakfnclelcopaa.fnExactTrim
open Go.ChangeShapes Go.WideShapes Go.ChangeAt Go.RowKit
open Go.ChangeMaps (open_string shut_string)

theorem own : ownKnob Try.prog.godebug = none := by kernel_rfl
theorem laidOut : laidOutB Try.prog = true := by kernel_rfl

set_option maxRecDepth 100000 in
set_option maxHeartbeats 6400000 in
theorem walk (A : MA) (m : Md) (w : World) (hin : ModIn w A m) (hbig : BigM m) (_ : Nums m.ex) :
    Calls Try.prog 6 #[modA A m] w fun e w' => e = .returned (.bool true) ∧ Below w.heap.size w w' := by
  have HI := hidI hin
  have HG := hidI hbig
  clear hin hbig
  unfold modA
  go_enter Try.func6, Try.ntmps6
  go_upto_region 1 with fail
  refine world_anyI (R := fun W => W.heap[w.heap.size]? = some (boxA A m) ∧ Below w.heap.size w W) ⟨heap_alloc_new w _, (Below.refl _ _).alloc (Nat.le_refl _) _⟩ ?_
  obtain ⟨gx, hgx⟩ : ∃ gx, gx = w.heap.size := ⟨_, rfl⟩
  rw [← hgx]
  rintro w1 ⟨hx, hb⟩
  rw [hgx] at hb
  clear hgx
  have X1 := hidI hx
  have B1 := hidI hb
  clear hx hb
  obtain ⟨c0, c1, c2, c3, c4, cf⟩ := five_of X1.out
  go_wp2_with fail
  refine (szMod_any A m 1048576 _ (HI.out.later B1.out) HG.out (by decide) (by decide)).mono ?_
  rintro e w2 ⟨⟨y, rfl, hy1, hy2, hy3⟩, hb⟩
  have X2 := hidI (blk_later X1.out hb)
  have B2 := hidI (B1.out.trans (hb.mono B1.out.size))
  clear hb X1 B1 c0 c1 c2 c3 c4 cf
  by_cases hy : 0 ≤ y
  case neg =>
    clear hy3
    go_wp2
    go_ret
    exact ⟨rfl, B2.out⟩
  have HC : Hid (costM m ≤ 1048576) := by have := hy3 hy; exact hidI (by omega)
  have FW := hidI (lens_of HC.out)
  have FEW : Hid (MdFew m) := ⟨by have := FW.out; omega, by have := FW.out; omega, by have := FW.out; omega, by have := FW.out; omega, by have := FW.out; omega⟩
  have FWT := hidI (lens_trim FW.out)
  have FET : Hid (MdFew (trimMd m)) := by have := FWT.out; exact hidI ⟨by omega, by omega, by omega, by omega, by omega⟩
  have KT := hidI (km_trim HC.out)
  obtain ⟨N, HN⟩ : ∃ N, Hid (N = trimMd m) := ⟨_, hidI rfl⟩
  rw [← HN.out] at FWT FET KT
  clear hy3 hy1 hy2
  obtain ⟨c0, c1, c2, c3, c4, cf⟩ := five_of X2.out
  go_wp2_with fail
  refine (toMod_any A m w2 (HI.out.later B2.out) FW.out.1 FW.out.2.1 FW.out.2.2.1 FW.out.2.2.2.1 FW.out.2.2.2.2).mono ?_
  rintro e w3 ⟨S0, rfl, o3, hb⟩
  have X3 := hidI (blk_later X2.out hb)
  have B3 := hidI (B2.out.trans (hb.mono B2.out.size))
  have O3 := hidI o3
  clear o3 hb X2 B2 c0 c1 c2 c3 c4 cf
  go_wp2_with fail
  refine (trim_spec _ S0 m w3 O3.out FW.out).mono ?_
  rintro e w4 ⟨S1, rfl, o4, hb⟩
  rw [← HN.out] at o4 ⊢
  have X4 := hidI (blk_later X3.out hb)
  have B4 := hidI (B3.out.trans (hb.mono B3.out.size))
  have O4 := hidI o4
  clear o4 hb X3 B3 O3
  unfold modD
  go_upto_region 6 with fail
  refine world_anyI (R := fun W => W.heap[w4.heap.size]? = some (boxD S1 N) ∧ Below w4.heap.size w4 W) ⟨heap_alloc_new w4 _, (Below.refl _ _).alloc (Nat.le_refl _) _⟩ ?_
  obtain ⟨gw, hgw⟩ : ∃ gw, gw = w4.heap.size := ⟨_, rfl⟩
  rw [← hgw]
  rintro w5 ⟨hw5, hb⟩
  rw [hgw] at hb
  clear hgw
  have L5 : Hid (T1 w A m gx gw w3.heap.size S1 N w5) := ⟨blk_later X4.out hb, B4.out.trans (hb.mono B4.out.size), hw5, O4.out.later hb⟩
  clear hw5 hb X4 B4 O4
  obtain ⟨c0, c1, c2, c3, c4, cf⟩ := five_of L5.out.x
  go_wp2_with fail
  refine (toMod_any A m w5 (HI.out.later L5.out.bel) FW.out.1 FW.out.2.1 FW.out.2.2.1 FW.out.2.2.2.1 FW.out.2.2.2.2).mono ?_
  rintro e w6 ⟨S2, rfl, o6, hb⟩
  have O6 := hidI o6
  have L6 := hidI (L5.out.later hb)
  have G6 : Hid (w5.heap.size ≤ w6.heap.size) := hb.size
  clear o6 hb c0 c1 c2 c3 c4 cf
  unfold modD
  go_upto_region 7 with fail
  refine world_anyI (R := fun W => W.heap[w6.heap.size]? = some (boxD S2 m) ∧ Below w6.heap.size w6 W) ⟨heap_alloc_new w6 _, (Below.refl _ _).alloc (Nat.le_refl _) _⟩ ?_
  obtain ⟨gy, hgy⟩ : ∃ gy, gy = w6.heap.size := ⟨_, rfl⟩
  rw [← hgy]
  rintro w7 ⟨hy7, hb⟩
  rw [hgy] at hb
  clear hgy
  have Y7 := hidI hy7
  have O7 := hidI (O6.out.later hb)
  have L7 := hidI (L6.out.later hb)
  have H7 : Hid (∀ k, MdHas S2 k → k < w7.heap.size) := fun k hk => Nat.lt_of_lt_of_le (O6.out.in hk).2.1 hb.size
  have G7 : Hid (w5.heap.size ≤ w7.heap.size) := Nat.le_trans G6.out hb.size
  clear hy7 hb O6 L6 G6
  obtain ⟨c0, c1, c2, c3, c4, cf⟩ := five_of Y7.out
  go_wp2_with fail
  refine (trim_impl _ S2 m w7 O7.out FW.out (NmSz.of_cost HC.out) (StM.of_cost HC.out)).mono ?_
  rintro e w8 ⟨S3, rfl, o8, hb⟩
  rw [← HN.out] at o8 ⊢
  have O8 := hidI o8
  have Y8 := hidI (blk_later Y7.out hb)
  have P8 := hidI (O7.out.later hb)
  have L8 := hidI (L7.out.later hb)
  have G8 : Hid (w7.heap.size ≤ w8.heap.size) := hb.size
  clear o8 hb Y7 O7 L7 c0 c1 c2 c3 c4 cf
  unfold modD
  go_upto_region 8 with fail
  refine world_anyI (R := fun W => W.heap[w8.heap.size]? = some (boxD S3 N) ∧ Below w8.heap.size w8 W) ⟨heap_alloc_new w8 _, (Below.refl _ _).alloc (Nat.le_refl _) _⟩ ?_
  obtain ⟨gg, hgg⟩ : ∃ gg, gg = w8.heap.size := ⟨_, rfl⟩
  rw [← hgg]
  rintro w9 ⟨hg9, hb⟩
  rw [hgg] at hb
  clear hgg
  have M9 : Hid (T3 w5.heap.size gy S2 m w7.heap.size gg S3 N w9) := ⟨Nat.le_trans G7.out (Nat.le_trans G8.out hb.size), Nat.le_trans G8.out hb.size, blk_later Y8.out hb, P8.out.later hb, H7.out, hg9, O8.out.later hb⟩
  have L9 := hidI (L8.out.later hb)
  clear hg9 hb Y8 P8 O8 L8 G8
  obtain ⟨c0, c1, c2, c3, c4, cf⟩ := five_of M9.out.gb
  obtain ⟨d0, d1, d2, d3, d4, df⟩ := five_of L9.out.wb
  go_wp2_with fail
  refine (eqMd_any _ _ S3 S1 N w9 M9.out.o4 L9.out.o FET.out).mono ?_
  rintro e w10 ⟨rfl, hb⟩
  have M10 := hidI (M9.out.later hb)
  have L10 := hidI (L9.out.later hb)
  clear hb M9 L9 c0 c1 c2 c3 c4 cf d0 d1 d2 d3 d4 df
  go_upto_region 10 with fail
  go_cut [31] (fun s31 wx => s31 = .bool false ∧ Hid (Below w10.heap.size w10 wx))
  case first =>
    obtain ⟨c0, c1, c2, c3, c4, cf⟩ := five_of M10.out.y
    obtain ⟨d0, d1, d2, d3, d4, df⟩ := five_of L10.out.x
    have hyl := (Array.getElem?_eq_some_iff.1 M10.out.y).1
    have hxl := (Array.getElem?_eq_some_iff.1 L10.out.x).1
    go_region_with (first | (go_at_call 9; refine (toMod_any A m _ (HI.out.later L10.out.bel.drew) FW.out.1 FW.out.2.1 FW.out.2.2.1 FW.out.2.2.2.1 FW.out.2.2.2.2).mono ?_; rintro e wa ⟨Sa, rfl, oa, ba⟩; have OA := hidI oa; have BA := hidI (((Below.refl w10.heap.size w10).drew).trans ba); have YA := hidI (blk_later M10.out.y BA.out); clear oa ba; obtain ⟨q0, q1, q2, q3, q4, qf⟩ := five_of YA.out; have hyla := (Array.getElem?_eq_some_iff.1 YA.out).1; unfold modD) | (go_at_call 12; refine (eqMd_any _ _ S2 Sa m _ (M10.out.o3.later BA.out) OA.out FEW.out).mono ?_; rintro e wb ⟨rfl, bb⟩; have BB := hidI (BA.out.trans (bb.mono BA.out.size)); clear bb))
    all_goals
      go_wp2
      go_meet
      case rel => exact ⟨rfl, BB⟩
  case rest =>
    obtain ⟨rfl, hb⟩ := hcut
    have M11 := hidI (M10.out.later hb.out)
    have L11 := hidI (L10.out.later hb.out)
    clear hb M10 L10
    obtain ⟨c0, c1, c2, c3, c4, cf⟩ := five_of M11.out.y
    go_wp2_with fail
    refine (markMd_any w5.heap.size S2 m 1 wc M11.out.o3 M11.out.l5 (km_one HC.out)).mono ?_
    rintro e w12 ⟨rfl, _, hb, hk⟩
    have L12 := hidI (L11.out.under (c := w5.heap.size) (Nat.le_refl _) L5.out hb)
    have O12 := hidI (M11.out.md hk).2
    have J12 := hidI (M11.out.md hk).1
    have G12 : Hid (w7.heap.size ≤ w12.heap.size) := Nat.le_trans M11.out.l7 hb.size
    obtain ⟨k1, HK1⟩ : ∃ k1, Hid (k1 = kM m 1 5) := ⟨_, hidI rfl⟩
    rw [← HK1.out]
    clear hb hk M11 L11 c0 c1 c2 c3 c4 cf
    have dz : decide ((k1 : Int) < 0) = false := decide_eq_false (by omega)
    obtain ⟨c0, c1, c2, c3, c4, cf⟩ := five_of J12.out
    obtain ⟨d0, d1, d2, d3, d4, df⟩ := five_of L12.out.wb
    go_wp2_with fail
    refine (eqMd_any _ _ S3 S1 N w12 O12.out L12.out.o FET.out).mono ?_
    rintro e w13 ⟨rfl, hb⟩
    have L13 := hidI (L12.out.later hb)
    have O13 := hidI (O12.out.later hb)
    have J13 := hidI (blk_later J12.out hb)
    have G13 : Hid (w7.heap.size ≤ w13.heap.size) := Nat.le_trans G12.out hb.size
    clear hb L12 O12 J12 G12 c0 c1 c2 c3 c4 cf d0 d1 d2 d3 d4 df
    obtain ⟨c0, c1, c2, c3, c4, cf⟩ := five_of J13.out
    go_wp2_with fail
    refine (markMd_any w7.heap.size S3 N 1 w13 O13.out G13.out KT.out).mono ?_
    rintro e w14 ⟨rfl, mk, hb, hk⟩
    have L14 := hidI (L13.out.under (c := w7.heap.size) G7.out L5.out hb)
    have J14 := hidI ((hk gg (Array.getElem?_eq_some_iff.1 J13.out).1 (O13.out.not J13.out (by decide))).trans J13.out)
    have K14 := hidI mk
    obtain ⟨k3, HK3⟩ : ∃ k3, Hid (k3 = kM N 1 5) := ⟨_, hidI rfl⟩
    rw [← HK3.out]
    clear hb hk mk L13 O13 J13 c0 c1 c2 c3 c4 cf
    have dk : decide ((k3 : Int) < 0) = false := decide_eq_false (by omega)
    have nk : ((k3 : Int) != k3) = false := by simp
    obtain ⟨c0, c1, c2, c3, c4, cf⟩ := five_of J14.out
    go_wp2_with fail
    refine (heldMd_any w7.heap.size S3 N 1 w14 K14.out KT.out (km_held KT.out)).mono ?_
    rintro e w15 ⟨rfl, hb⟩
    rw [← HK3.out]
    have L15 := hidI (L14.out.later hb)
    have J15 := hidI (blk_later J14.out hb)
    have K15 := hidI (K14.out.later hb)
    clear hb L14 J14 K14 c0 c1 c2 c3 c4 cf
    obtain ⟨c0, c1, c2, c3, c4, cf⟩ := five_of L15.out.x
    go_wp2_with fail
    refine (toMod_any A m w15 (HI.out.later L15.out.bel) FW.out.1 FW.out.2.1 FW.out.2.2.1 FW.out.2.2.2.1 FW.out.2.2.2.2).mono ?_
    rintro e w16 ⟨S4, rfl, o16, hb⟩
    have O16 := hidI o16
    have L16 := hidI (L15.out.later hb)
    have J16 := hidI (blk_later J15.out hb)
    have K16 := hidI (K15.out.later hb)
    clear o16 hb L15 J15 K15 c0 c1 c2 c3 c4 cf
    go_wp2_with fail
    refine (trim_impl _ S4 m w16 O16.out FW.out (NmSz.of_cost HC.out) (StM.of_cost HC.out)).mono ?_
    rintro e w17 ⟨S5, rfl, o17, hb⟩
    rw [← HN.out] at o17 ⊢
    have O17 := hidI o17
    have L17 := hidI (L16.out.later hb)
    have J17 := hidI (blk_later J16.out hb)
    have K17 := hidI (K16.out.later hb)
    clear o17 hb L16 J16 K16 O16
    unfold modD
    go_upto_region 25 with fail
    refine world_anyI (R := fun W => W.heap[w17.heap.size]? = some (boxD S5 N) ∧ Below w17.heap.size w17 W) ⟨heap_alloc_new w17 _, (Below.refl _ _).alloc (Nat.le_refl _) _⟩ ?_
    obtain ⟨gh, hgh⟩ : ∃ gh, gh = w17.heap.size := ⟨_, rfl⟩
    rw [← hgh]
    rintro w18 ⟨hh18, hb⟩
    rw [hgh] at hb
    clear hgh
    have H18 := hidI hh18
    have O18 := hidI (O17.out.later hb)
    have L18 := hidI (L17.out.later hb)
    have J18 := hidI (blk_later J17.out hb)
    have K18 := hidI (K17.out.later hb)
    clear hh18 hb O17 L17 J17 K17
    obtain ⟨c0, c1, c2, c3, c4, cf⟩ := five_of H18.out
    obtain ⟨d0, d1, d2, d3, d4, df⟩ := five_of L18.out.wb
    go_wp2_with fail
    refine (eqMd_any _ _ S5 S1 N w18 O18.out L18.out.o FET.out).mono ?_
    rintro e w20 ⟨rfl, hb⟩
    have L20 := hidI (L18.out.later hb)
    have J20 := hidI (blk_later J18.out hb)
    have K20 := hidI (K18.out.later hb)
    clear hb L18 J18 K18 H18 O18 c0 c1 c2 c3 c4 cf d0 d1 d2 d3 d4 df
    obtain ⟨c0, c1, c2, c3, c4, cf⟩ := five_of J20.out
    go_wp2_with fail
    refine (heldMd_any w7.heap.size S3 N 1 w20 K20.out KT.out (km_held KT.out)).mono ?_
    rintro e w21 ⟨rfl, hb⟩
    rw [← HK3.out]
    have L21 := hidI (L20.out.later hb)
    clear hb
    go_wp2
    go_ret
    exact ⟨rfl, L21.out.bel⟩

set_option linter.unusedVariables false in
set_option maxRecDepth 100000 in
theorem lifted (os : Os) (started : os.Started) (H : Type) (enc : TypeId × Value → H) :
    ReturnsInHanded {} Try.checked os 6 .any (Rows.fnExactTrimSpec.pre6 enc Try.prog Try.f6 Rows.fnExactTrimRow.domain false) (Rows.fnExactTrimSpec.post enc Try.prog Try.f6 false true false false) := by
  refine returnsInHanded_of_change (C := Try.checked) own started (by kernel_rfl) Try.func6
    (ChangeSpec.witness6 (enc := enc) (C := Try.checked) false ⟨#[], #[.agg #[.slice none 0 0, .slice none 0 0, .slice none 0 0, .slice none 0 0, .slice none 0 0]], []⟩ 8 (by kernel_rfl) (by kernel_rfl) (by kernel_rfl) (by kernel_rfl)) ?_
  intro W base args ds gs before hval0 hW hcnd _
  have hval : ∀ (j : Nat) t v, Try.f6.params[j]? = some t → args[j]? = some v → Value.okWide Try.prog W .any base t v := hval0
  have hW' := hW
  obtain ⟨p, q, hA0, hV, rfl, hfz, hnd⟩ := hW
  have hA : DataW.TrodAll enc Try.prog W 0 (fun _ => true) true Try.f6.params.toList args.toList ds p := hA0
  rw [Try.params6] at hA hval
  obtain ⟨v0, vs0, d0, ds0, p0, q0, hargs, rfl, rfl, h0, r0⟩ := trodAll_cons hA
  obtain ⟨rfl, rfl, rfl⟩ := trodAll_nil r0
  obtain rfl : args = #[v0] := by cases args; simp_all
  obtain ⟨rfl, rfl⟩ := trodVars_none hV
  obtain ⟨cs0, rfl, _⟩ := okWide_struct Try.underlying28 (hval 0 28 v0 rfl rfl)
  have k0 := h0
  have lt0 : ∀ x ∈ p0, x.block < W.heap.size := by obtain ⟨m, hm⟩ := k0; exact DataW.trod_lt m _ _ _ hm
  obtain ⟨A0, m0, rfl, in0, big0, nums0⟩ : ∃ (A : MA) (m : Md), cs0 = (modA A m).cells ∧ ModIn W A m ∧ BigM m ∧ Nums m.ex := by
    obtain ⟨fuel, hf⟩ := h0
    obtain ⟨A, m, e, h⟩ := mod_open hf
    exact ⟨A, m, Array.toList_inj.1 e, h⟩
  clear hA0 hval0
  refine (walk A0 m0 W in0 big0 nums0).mono fun e W' ⟨he, bel⟩ => ?_
  subst he
  exact ⟨_, rfl, _, _, _, [], _, [], hW', trodAll_mk1 (shut_bool Try.underlying4 _), (trodAll_cons_mk (Below.trod laidOut (by kernel_rfl) (of_decide_eq_true (by kernel_rfl)) k0 bel lt0) trodAll_mk0), rfl, bel.frame _, fun h => by cases h⟩

theorem over : Rows.fnExactTrimRow.holds Try.pinned (OpenSpec.ofChange Rows.fnExactTrimSpec) :=
  OpenClaim.holds_of_wide 6 Try.f6 rfl rfl rfl rfl rfl rfl rfl ⟨rfl, rfl, rfl, rfl, rfl⟩ rfl rfl rfl rfl rfl (by kernel_rfl) Try.func6 (by kernel_rfl)
    (of_decide_eq_true (by kernel_rfl)) (by unfold Func.isWrapper; first | (rw [if_pos (by decide +kernel)]; kernel_rfl) | (rw [if_neg (by decide +kernel)]; exact ⟨rfl, rfl⟩))
    (fun os started H enc _ => lifted os started H enc)
end Go.Proofs.Ytaakfnclelcopaa.fnExactTrim
namespace Go.Proofs.Ytaakfnclelcopaa
theorem fnExactTrim_holds : Rows.FnExactTrimSaid := fnExactTrim.over
end Go.Proofs.Ytaakfnclelcopaa
