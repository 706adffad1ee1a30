/-
  At every row of rules and every text laws.FnExactMapSpec returns true: impl.MapSpec answers as spec.MapSpec does and writes into no argument; no condition.
-/
import Derived.Test.YtllhnofobkgjgaaRows
import Derived.ProofKit
import Derived.ShutString
import Derived.ChangeOld
import Derived.Below
import Derived.Test.YtllhnofobkgjgaaLawRules
import Derived.Test.YtllhnofobkgjgaaSrcRule
import Derived.Test.YtllhnofobkgjgaaImplMap
namespace Go.Proofs.Ytllhnofobkgjgaa.fnExactMapSpec
open Go.ChangeShapes Go.WideShapes Go.ChangeAt Go.RowKit
open Go.ChangeMaps (open_string shut_string)

theorem own : ownKnob Try.prog.godebug = none := by kernel_rfl
theorem laidOut : laidOutB Try.prog = true := by kernel_rfl

set_option maxHeartbeats 3200000 in
theorem walk (S : FSrc) (q : ByteArray) (w : World) (w0 : FSrcIn S w) (wq0 : q.size ≤ maxLen) :
    Calls Try.prog 4 #[.slice S.a S.len S.cap, .string q] w fun e w' => e = .returned (.bool true) ∧ Below w.heap.size w w' := by
  obtain ⟨a, b, off, len, cap, Pt, Tx⟩ := S
  obtain ⟨hlen, hfa, hsz⟩ := w0
  simp only at hlen hfa hsz ⊢
  have hq0 : q.size ≤ 9223372036854775807 := by unfold maxLen at wq0; omega
  clear wq0
  by_cases hb0' : (1048576 : Int) < q.size
  · go_enter Try.func4, Try.ntmps4
    go_wp2
    go_ret
    exact ⟨rfl, Below.refl _ _⟩
  · have hs0 : q.size ≤ 1048576 := by omega
    go_enter Try.func4, Try.ntmps4
    go_wp2_with fail
    refine (szRuleS_any a b off len cap Pt Tx _ hfa hlen (fun j hj => (hsz j hj).1) (fun j hj => (hsz j hj).2)).mono ?_
    rintro e w1 ⟨z, rfl, hz, hb1⟩
    by_cases hz0 : 0 ≤ z
    · obtain ⟨hl, hsizes⟩ := hz hz0
      have HP : Hid (∀ j, j < len → (Pt j).size ≤ 1048576) := fun j hj => (hsizes j hj).1
      have HT : Hid (∀ j, j < len → (Tx j).size ≤ 1048576) := fun j hj => (hsizes j hj).2
      have HFA := hidU hfa
      clear hsz hsizes hz hfa
      go_wp2_with fail
      refine (toRuleS_any a b off len cap Pt Tx _ (HFA.out.later hb1) hl).mono ?_
      rintro e w2 ⟨g1, rfl, o1, hb2⟩
      have B2 := hb1.trans (hb2.mono hb1.size)
      go_wp2_with fail
      refine (mapSpec_spec g1 len len Pt Tx q _ o1.files hl HP.out HT.out hs0).mono ?_
      rintro e w3 ⟨rfl, hb3⟩
      have B3 := hidU (B2.trans (hb3.mono B2.size))
      clear o1 hb1 hb2 hb3 B2
      obtain ⟨v1, hv1⟩ : ∃ v1, mapS len Pt Tx q = v1 := ⟨_, rfl⟩
      rw [hv1]
      have HV1 := hidU hv1
      clear hv1
      go_wp2_with fail
      refine (toRuleS_any a b off len cap Pt Tx _ (HFA.out.later B3.out) hl).mono ?_
      rintro e w4 ⟨g2, rfl, o2, hb4⟩
      have B4 := hidU (B3.out.trans (hb4.mono B3.out.size))
      have f2 := hidU o2.files
      clear o2 hb4
      go_wp2_with fail
      refine (mapSpec_impl g2 len len Pt Tx q _ f2.out hl HP.out HT.out hs0).mono ?_
      rintro e w5 ⟨rfl, hb5⟩
      have B5 := hidU (B4.out.trans (hb5.mono B4.out.size))
      have f3 := hidU (f2.out.later hb5)
      clear f2 hb5
      rw [HV1.out]
      go_wp2_with fail
      refine (toRuleS_any a b off len cap Pt Tx _ (HFA.out.later B5.out) hl).mono ?_
      rintro e w6 ⟨g3, rfl, o3, hb6⟩
      have B6 := hidU (B5.out.trans (hb6.mono B5.out.size))
      have f4 := hidU (f3.out.later hb6)
      have f5 := hidU o3.files
      clear f3 o3 hb6
      go_wp2_with fail
      refine (eqRuleS_any g2 g3 len Pt Tx _ f4.out f5.out hl).mono ?_
      rintro e w7 ⟨rfl, hb7⟩
      have B7 := hidU (B6.out.trans (hb7.mono B6.out.size))
      clear hb7
      go_wp2
      go_ret
      exact ⟨rfl, B7.out⟩
    · clear hz
      go_wp2
      go_ret
      exact ⟨rfl, hb1⟩

set_option linter.unusedVariables false in
set_option maxRecDepth 100000 in
theorem lifted (os : Os) (started : os.Started) (H : Type) (enc : TypeId × Value → H) :
    ReturnsInHanded {} Try.checked os 4 .any (Rows.fnExactMapSpecSpec.pre6 enc Try.prog Try.f4 Rows.fnExactMapSpecRow.domain false) (Rows.fnExactMapSpecSpec.post enc Try.prog Try.f4 false true false false) := by
  refine returnsInHanded_of_change (C := Try.checked) own started (by kernel_rfl) Try.func4
    (ChangeSpec.witness6 (enc := enc) (C := Try.checked) false ⟨#[], #[.slice none 0 0, .string ByteArray.empty], []⟩ 8 (by kernel_rfl) (by kernel_rfl) (by kernel_rfl) (by kernel_rfl)) ?_
  intro W base args ds gs before hval0 hW hcnd _
  have hval : ∀ (j : Nat) t v, Try.f4.params[j]? = some t → args[j]? = some v → Value.okWide Try.prog W .any base t v := hval0
  have hW' := hW
  obtain ⟨p, q, hA0, hV, rfl, hfz, hnd⟩ := hW
  have hA : DataW.TrodAll enc Try.prog W 0 (fun _ => true) true Try.f4.params.toList args.toList ds p := hA0
  rw [Try.params4] at hA hval
  obtain ⟨v0, vs0, d0, ds0, p0, q0, hargs, rfl, rfl, h0, r0⟩ := trodAll_cons hA
  obtain ⟨v1, vs1, d1, ds1, p1, q1, rfl, rfl, rfl, h1, r1⟩ := trodAll_cons r0
  obtain ⟨rfl, rfl, rfl⟩ := trodAll_nil r1
  obtain rfl : args = #[v0, v1] := by cases args; simp_all
  obtain ⟨rfl, rfl⟩ := trodVars_none hV
  obtain ⟨a0, len0, cap0, rfl⟩ := okWide_slice Try.underlying22 (hval 0 22 v0 rfl rfl)
  have k0 := h0
  have lt0 : ∀ x ∈ p0, x.block < W.heap.size := by obtain ⟨m, hm⟩ := k0; exact DataW.trod_lt m _ _ _ hm
  obtain ⟨S0, rfl, rfl, rfl, w0⟩ : ∃ S : FSrc, a0 = S.a ∧ len0 = S.len ∧ cap0 = S.cap ∧ FSrcIn S W := by
    obtain ⟨fuel, hf⟩ := h0
    exact rules_open hf
  obtain ⟨a1, rfl, rfl, rfl, w1⟩ := open_string Try.underlying9 (hval 1 9 v1 rfl rfl) h1
  clear hA0 hval0
  refine (walk S0 a1 W w0 w1).mono fun e W' ⟨he, bel⟩ => ?_
  subst he
  exact ⟨_, rfl, _, _, _, [], _, [], hW', trodAll_mk1 (shut_bool Try.underlying4 _), (trodAll_cons_mk (Below.trod laidOut (by kernel_rfl) (of_decide_eq_true (by kernel_rfl)) k0 bel lt0) (trodAll_cons_mk (shut_string Try.underlying9 w1) trodAll_mk0)), rfl, bel.frame _, fun h => by cases h⟩

theorem over : Rows.fnExactMapSpecRow.holds Try.pinned (OpenSpec.ofChange Rows.fnExactMapSpecSpec) :=
  OpenClaim.holds_of_wide 4 Try.f4 rfl rfl rfl rfl rfl rfl rfl ⟨rfl, rfl, rfl, rfl, rfl⟩ rfl rfl rfl rfl rfl (by kernel_rfl) Try.func4 (by kernel_rfl)
    (of_decide_eq_true (by kernel_rfl)) (by unfold Func.isWrapper; first | (rw [if_pos (by decide +kernel)]; kernel_rfl) | (rw [if_neg (by decide +kernel)]; exact ⟨rfl, rfl⟩))
    (fun os started H enc _ => lifted os started H enc)
end Go.Proofs.Ytllhnofobkgjgaa.fnExactMapSpec
namespace Go.Proofs.Ytllhnofobkgjgaa
theorem fnExactMapSpec_holds : Rows.FnExactMapSpecSaid := fnExactMapSpec.over
end Go.Proofs.Ytllhnofobkgjgaa
