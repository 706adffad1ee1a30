/-
  At every two texts laws.FnExactCandidates returns true: impl.Candidates answers as spec.Candidates does, and its answer owns its memory; no condition.
-/
import Derived.Test.YtemfbibeoibpeaaRows
import Derived.ProofKit
import Derived.OpenShut
import Derived.ShutString
import Derived.ChangeOld
import Derived.Below
import Derived.Test.YtemfbibeoibpeaaSpecProbe
import Derived.Test.YtemfbibeoibpeaaImplCand
namespace Go.Proofs.Ytemfbibeoibpeaa.fnExactCandidates
open Go.ChangeShapes Go.WideShapes Go.ChangeAt Go.RowKit
open Go.ChangeMaps (open_string shut_string)

theorem own : ownKnob Try.prog.godebug = none := by kernel_rfl

set_option maxHeartbeats 3200000 in
theorem walk (a0 : ByteArray) (a1 : ByteArray) (_ : a0.size ≤ maxLen) (_ : a1.size ≤ maxLen) (w : World) :
    Calls Try.prog 6 #[.string a0, .string a1] w fun e w' => e = .returned (.bool true) ∧ Below w.heap.size w w' := by
  by_cases hb0 : (1048576 : Int) < a0.size
  · go_enter Try.func6, Try.ntmps6
    go_wp2
    go_ret
    exact ⟨rfl, Below.refl _ _⟩
  · have hs0 : a0.size ≤ 1048576 := by omega
    by_cases hb1 : (1048576 : Int) < a1.size
    · go_enter Try.func6, Try.ntmps6
      go_wp2
      go_ret
      exact ⟨rfl, Below.refl _ _⟩
    · have hs1 : a1.size ≤ 1048576 := by omega
      go_enter Try.func6, Try.ntmps6
      go_wp2_with fail
      refine (cand_spec a0 a1 _ hs0 hs1).mono ?_
      rintro e w1 ⟨g0, n0, cap0, rfl, own0, b1⟩
      have hn : n0 ≤ 10000 := by rw [own0.2]; exact Nat.le_trans (candS_len a0 a1) (by omega)
      have SH0 := hidU (ownS_texts own0)
      have N0 := hidU own0.2
      clear own0
      go_wp2_with fail
      refine (cand_impl a0 a1 _ hs0 hs1).mono ?_
      rintro e w2 ⟨a2', n2, cap2, rfl, own2, b2⟩
      obtain rfl : n2 = n0 := by rw [own2.1, N0.out]
      have O2 := hidU own2
      obtain ⟨x2, t2⟩ := own2.texts
      have T2 := hidU t2
      clear own2 t2
      go_wp2_with fail
      refine (eqStringS_plain _ _ _ _ _ _ _ _ _ T2.out (SH0.out.later b2) (by omega)).mono ?_
      rintro e w3 ⟨rfl, b3⟩
      have O3 := hidU (O2.out.later b3)
      have B3 := b2.trans (b3.mono b2.size)
      clear O2 T2
      go_wp2_with fail
      refine (markS_out _ w1.heap.size _ _ _ _ O3.out B3.size (by omega)).mono ?_
      rintro e w4 ⟨rfl, m4, b4⟩
      have M4 := hidU m4
      have B4 := B3.trans b4
      clear m4 O3
      go_wp2_with fail
      refine (heldS_out _ w1.heap.size _ _ _ M4.out (by omega)).mono ?_
      rintro e w5 ⟨rfl, b5⟩
      have M5 := hidU (M4.out.later b5)
      have B5 := B4.trans (b5.mono B4.size)
      have q1 : decide (((1 + n2 : Nat) : Int) < 0) = false := decide_eq_false (by omega)
      clear M4
      go_wp2_with fail
      refine (cand_impl a0 a1 _ hs0 hs1).mono ?_
      rintro e w6 ⟨a6', n6, cap6, rfl, own6, b6⟩
      obtain rfl : n6 = n2 := by rw [own6.1, N0.out]
      have B6 := B5.trans (b6.mono B5.size)
      have M6 := hidU (M5.out.later b6)
      obtain ⟨x6, t6⟩ := own6.texts
      have T6 := hidU t6
      clear own6 t6 M5
      go_wp2_with fail
      refine (eqStringS_plain _ _ _ _ _ _ _ _ _ T6.out (SH0.out.later B6) (by omega)).mono ?_
      rintro e w7 ⟨rfl, b7⟩
      have B7 := B6.trans (b7.mono B6.size)
      have M7 := hidU (M6.out.later b7)
      clear T6 M6
      go_wp2_with fail
      refine (heldS_out _ w1.heap.size _ _ _ M7.out (by omega)).mono ?_
      rintro e w8 ⟨rfl, b8⟩
      have B8 := B7.trans (b8.mono B7.size)
      go_wp2
      go_ret
      exact ⟨rfl, b1.trans (B8.mono b1.size)⟩

set_option linter.unusedVariables false in
set_option maxRecDepth 100000 in
theorem lifted (os : Os) (started : os.Started) (H : Type) (enc : TypeId × Value → H) :
    ReturnsInHanded {} Try.checked os 6 .any (Rows.fnExactCandidatesSpec.pre6 enc Try.prog Try.f6 Rows.fnExactCandidatesRow.domain false) (Rows.fnExactCandidatesSpec.post enc Try.prog Try.f6 false true false false) := by
  refine returnsInHanded_of_change (C := Try.checked) own started (by kernel_rfl) Try.func6
    (ChangeSpec.witness6 (enc := enc) (C := Try.checked) false ⟨#[], #[.string ByteArray.empty, .string ByteArray.empty], []⟩ 8 (by kernel_rfl) (by kernel_rfl) (by kernel_rfl) (by kernel_rfl)) ?_
  intro W base args ds gs before hval0 hW hcnd _
  have hval : ∀ (j : Nat) t v, Try.f6.params[j]? = some t → args[j]? = some v → Value.okWide Try.prog W .any base t v := hval0
  have hW' := hW
  obtain ⟨p, q, hA0, hV, rfl, hfz, hnd⟩ := hW
  have hA : DataW.TrodAll enc Try.prog W 0 (fun _ => true) true Try.f6.params.toList args.toList ds p := hA0
  rw [Try.params6] at hA hval
  obtain ⟨v0, vs0, d0, ds0, p0, q0, hargs, rfl, rfl, h0, r0⟩ := trodAll_cons hA
  obtain ⟨v1, vs1, d1, ds1, p1, q1, rfl, rfl, rfl, h1, r1⟩ := trodAll_cons r0
  obtain ⟨rfl, rfl, rfl⟩ := trodAll_nil r1
  obtain rfl : args = #[v0, v1] := by cases args; simp_all
  obtain ⟨rfl, rfl⟩ := trodVars_none hV
  obtain ⟨a0, rfl, rfl, rfl, w0⟩ := open_string Try.underlying9 (hval 0 9 v0 rfl rfl) h0
  obtain ⟨a1, rfl, rfl, rfl, w1⟩ := open_string Try.underlying9 (hval 1 9 v1 rfl rfl) h1
  clear hA0 hval0
  simp only [List.append_nil] at hW'
  refine (walk a0 a1 w0 w1 W).mono fun e W' ⟨he, bel⟩ => ?_
  subst he
  exact ⟨_, rfl, _, _, _, [], [], [], hW', trodAll_mk1 (shut_bool Try.underlying4 _), (trodAll_cons_mk (shut_string Try.underlying9 w0) (trodAll_cons_mk (shut_string Try.underlying9 w1) trodAll_mk0)), rfl, bel.frame _, fun h => by cases h⟩

theorem over : Rows.fnExactCandidatesRow.holds Try.pinned (OpenSpec.ofChange Rows.fnExactCandidatesSpec) :=
  OpenClaim.holds_of_wide 6 Try.f6 rfl rfl rfl rfl rfl rfl rfl ⟨rfl, rfl, rfl, rfl, rfl⟩ rfl rfl rfl rfl rfl (by kernel_rfl) Try.func6 (by kernel_rfl)
    (of_decide_eq_true (by kernel_rfl)) (by unfold Func.isWrapper; first | (rw [if_pos (by decide +kernel)]; kernel_rfl) | (rw [if_neg (by decide +kernel)]; exact ⟨rfl, rfl⟩))
    (fun os started H enc _ => lifted os started H enc)
end Go.Proofs.Ytemfbibeoibpeaa.fnExactCandidates
namespace Go.Proofs.Ytemfbibeoibpeaa
theorem fnExactCandidates_holds : Rows.FnExactCandidatesSaid := fnExactCandidates.over
end Go.Proofs.Ytemfbibeoibpeaa
