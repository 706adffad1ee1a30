/-
  At every row of files and every two texts laws.FnExactProbe returns true: impl.Probe answers as spec.Probe does and writes into no argument; no condition.
-/
import Derived.Test.YtemfbibeoibpeaaRows
import Derived.ProofKit
import Derived.ShutString
import Derived.ChangeOld
import Derived.Below
import Derived.Test.YtemfbibeoibpeaaSrcFile
import Derived.Test.YtemfbibeoibpeaaImplProbe
namespace Go.Proofs.Ytemfbibeoibpeaa.fnExactProbe
open Go.ChangeShapes Go.WideShapes Go.ChangeAt Go.RowKit
open Go.ChangeMaps (open_string shut_string)

theorem own : ownKnob Try.prog.godebug = none := by kernel_rfl
theorem laidOut : laidOutB Try.prog = true := by kernel_rfl

set_option maxHeartbeats 3200000 in
theorem walk (S : FSrc) (f : ByteArray) (sp : ByteArray) (w : World) (w0 : FSrcIn S w) (wq0 : f.size ≤ maxLen) (wq1 : sp.size ≤ maxLen) :
    Calls Try.prog 7 #[.slice S.a S.len S.cap, .string f, .string sp] w fun e w' => e = .returned (.bool true) ∧ Below w.heap.size w w' := by
  obtain ⟨a, b, off, len, cap, Pt, Tx⟩ := S
  obtain ⟨hlen, hfa, hsz⟩ := w0
  simp only at hlen hfa hsz ⊢
  have hq0 : f.size ≤ 9223372036854775807 := by unfold maxLen at wq0; omega
  clear wq0
  have hq1 : sp.size ≤ 9223372036854775807 := by unfold maxLen at wq1; omega
  clear wq1
  by_cases hb0' : (1048576 : Int) < f.size
  · go_enter Try.func7, Try.ntmps7
    go_wp2
    go_ret
    exact ⟨rfl, Below.refl _ _⟩
  · have hs0 : f.size ≤ 1048576 := by omega
    by_cases hb1' : (1048576 : Int) < sp.size
    · go_enter Try.func7, Try.ntmps7
      go_wp2
      go_ret
      exact ⟨rfl, Below.refl _ _⟩
    · have hs1 : sp.size ≤ 1048576 := by omega
      go_enter Try.func7, Try.ntmps7
      go_wp2_with fail
      refine (szFileS_any a b off len cap Pt Tx _ hfa hlen (fun j hj => (hsz j hj).1) (fun j hj => (hsz j hj).2)).mono ?_
      rintro e w1 ⟨z, rfl, hz, hb1⟩
      by_cases hz0 : 0 ≤ z
      · obtain ⟨hl, hsizes⟩ := hz hz0
        have HP : Hid (∀ j, j < len → (Pt j).size ≤ 1048576) := fun j hj => (hsizes j hj).1
        have HT : Hid (∀ j, j < len → (Tx j).size ≤ 1048576) := fun j hj => (hsizes j hj).2
        have HFA := hidU hfa
        clear hsz hsizes hz hfa
        go_wp2_with fail
        refine (toFileS_any a b off len cap Pt Tx _ (HFA.out.later hb1) hl).mono ?_
        rintro e w2 ⟨g1, rfl, o1, hb2⟩
        have B2 := hb1.trans (hb2.mono hb1.size)
        go_wp2_with fail
        refine (probe_spec g1 len Pt Tx f sp _ o1.files hl HP.out HT.out hs0 hs1).mono ?_
        rintro e w3 ⟨rfl, hb3⟩
        have B3 := hidU (B2.trans (hb3.mono B2.size))
        clear o1 hb1 hb2 hb3 B2
        obtain ⟨v1, hv1⟩ : ∃ v1, (probeS len Pt Tx f sp).1 = v1 := ⟨_, rfl⟩
        obtain ⟨v2, hv2⟩ : ∃ v2, (probeS len Pt Tx f sp).2 = v2 := ⟨_, rfl⟩
        rw [hv1, hv2]
        have HV1 := hidU hv1
        have HV2 := hidU hv2
        have hsame : (!(v2 == v2)) = false := by cases v2 <;> rfl
        have hsame' : (v2 == v2) = true := by cases v2 <;> rfl
        clear hv1 hv2
        go_wp2_with fail
        refine (toFileS_any a b off len cap Pt Tx _ (HFA.out.later B3.out) hl).mono ?_
        rintro e w4 ⟨g2, rfl, o2, hb4⟩
        have B4 := hidU (B3.out.trans (hb4.mono B3.out.size))
        have f2 := hidU o2.files
        clear o2 hb4
        go_wp2_with fail
        refine (probe_impl g2 len Pt Tx f sp _ f2.out hl HP.out HT.out hs0 hs1).mono ?_
        rintro e w5 ⟨rfl, hb5⟩
        have B5 := hidU (B4.out.trans (hb5.mono B4.out.size))
        have f3 := hidU (f2.out.later hb5)
        clear f2 hb5
        rw [HV1.out, HV2.out]
        go_wp2_with fail
        refine (toFileS_any a b off len cap Pt Tx _ (HFA.out.later B5.out) hl).mono ?_
        rintro e w6 ⟨g3, rfl, o3, hb6⟩
        have B6 := hidU (B5.out.trans (hb6.mono B5.out.size))
        have f4 := hidU (f3.out.later hb6)
        have f5 := hidU o3.files
        clear f3 o3 hb6
        go_wp2_with fail
        refine (eqFileS_any g2 g3 len Pt Tx _ f4.out f5.out hl).mono ?_
        rintro e w7 ⟨rfl, hb7⟩
        have B7 := hidU (B6.out.trans (hb7.mono B6.out.size))
        clear hb7
        go_wp2
        go_ret
        exact ⟨rfl, B7.out⟩
      · clear hz
        go_wp2
        go_ret
        exact ⟨rfl, hb1⟩

set_option linter.unusedVariables false in
set_option maxRecDepth 100000 in
theorem lifted (os : Os) (started : os.Started) (H : Type) (enc : TypeId × Value → H) :
    ReturnsInHanded {} Try.checked os 7 .any (Rows.fnExactProbeSpec.pre6 enc Try.prog Try.f7 Rows.fnExactProbeRow.domain false) (Rows.fnExactProbeSpec.post enc Try.prog Try.f7 false true false false) := by
  refine returnsInHanded_of_change (C := Try.checked) own started (by kernel_rfl) Try.func7
    (ChangeSpec.witness6 (enc := enc) (C := Try.checked) false ⟨#[], #[.slice none 0 0, .string ByteArray.empty, .string ByteArray.empty], []⟩ 8 (by kernel_rfl) (by kernel_rfl) (by kernel_rfl) (by kernel_rfl)) ?_
  intro W base args ds gs before hval0 hW hcnd _
  have hval : ∀ (j : Nat) t v, Try.f7.params[j]? = some t → args[j]? = some v → Value.okWide Try.prog W .any base t v := hval0
  have hW' := hW
  obtain ⟨p, q, hA0, hV, rfl, hfz, hnd⟩ := hW
  have hA : DataW.TrodAll enc Try.prog W 0 (fun _ => true) true Try.f7.params.toList args.toList ds p := hA0
  rw [Try.params7] at hA hval
  obtain ⟨v0, vs0, d0, ds0, p0, q0, hargs, rfl, rfl, h0, r0⟩ := trodAll_cons hA
  obtain ⟨v1, vs1, d1, ds1, p1, q1, rfl, rfl, rfl, h1, r1⟩ := trodAll_cons r0
  obtain ⟨v2, vs2, d2, ds2, p2, q2, rfl, rfl, rfl, h2, r2⟩ := trodAll_cons r1
  obtain ⟨rfl, rfl, rfl⟩ := trodAll_nil r2
  obtain rfl : args = #[v0, v1, v2] := by cases args; simp_all
  obtain ⟨rfl, rfl⟩ := trodVars_none hV
  obtain ⟨a0, len0, cap0, rfl⟩ := okWide_slice Try.underlying40 (hval 0 40 v0 rfl rfl)
  have k0 := h0
  have lt0 : ∀ x ∈ p0, x.block < W.heap.size := by obtain ⟨m, hm⟩ := k0; exact DataW.trod_lt m _ _ _ hm
  obtain ⟨S0, rfl, rfl, rfl, w0⟩ : ∃ S : FSrc, a0 = S.a ∧ len0 = S.len ∧ cap0 = S.cap ∧ FSrcIn S W := by
    obtain ⟨fuel, hf⟩ := h0
    exact files_open hf
  obtain ⟨a1, rfl, rfl, rfl, w1⟩ := open_string Try.underlying9 (hval 1 9 v1 rfl rfl) h1
  obtain ⟨a2, rfl, rfl, rfl, w2⟩ := open_string Try.underlying9 (hval 2 9 v2 rfl rfl) h2
  clear hA0 hval0
  refine (walk S0 a1 a2 W w0 w1 w2).mono fun e W' ⟨he, bel⟩ => ?_
  subst he
  exact ⟨_, rfl, _, _, _, [], _, [], hW', trodAll_mk1 (shut_bool Try.underlying4 _), (trodAll_cons_mk (Below.trod laidOut (by kernel_rfl) (of_decide_eq_true (by kernel_rfl)) k0 bel lt0) (trodAll_cons_mk (shut_string Try.underlying9 w1) (trodAll_cons_mk (shut_string Try.underlying9 w2) trodAll_mk0))), rfl, bel.frame _, fun h => by cases h⟩

theorem over : Rows.fnExactProbeRow.holds Try.pinned (OpenSpec.ofChange Rows.fnExactProbeSpec) :=
  OpenClaim.holds_of_wide 7 Try.f7 rfl rfl rfl rfl rfl rfl rfl ⟨rfl, rfl, rfl, rfl, rfl⟩ rfl rfl rfl rfl rfl (by kernel_rfl) Try.func7 (by kernel_rfl)
    (of_decide_eq_true (by kernel_rfl)) (by unfold Func.isWrapper; first | (rw [if_pos (by decide +kernel)]; kernel_rfl) | (rw [if_neg (by decide +kernel)]; exact ⟨rfl, rfl⟩))
    (fun os started H enc _ => lifted os started H enc)
end Go.Proofs.Ytemfbibeoibpeaa.fnExactProbe
namespace Go.Proofs.Ytemfbibeoibpeaa
theorem fnExactProbe_holds : Rows.FnExactProbeSaid := fnExactProbe.over
end Go.Proofs.Ytemfbibeoibpeaa
