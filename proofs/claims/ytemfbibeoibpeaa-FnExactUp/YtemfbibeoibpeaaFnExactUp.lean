/-
  At every text laws.FnExactUp returns true: impl.Up answers as spec.Up does, and its answer owns its memory; no condition.
-/
import Derived.Test.YtemfbibeoibpeaaRows
import Derived.ProofKit
import Derived.OpenShut
import Derived.ShutString
import Derived.ChangeOld
import Derived.Below
import Derived.Test.YtemfbibeoibpeaaSpecUp
import Derived.Test.YtemfbibeoibpeaaImplUp
namespace Go.Proofs.Ytemfbibeoibpeaa.fnExactUp
open Go.ChangeShapes Go.WideShapes Go.ChangeAt Go.RowKit
open Go.ChangeMaps (open_string shut_string)

theorem own : ownKnob Try.prog.godebug = none := by kernel_rfl

set_option maxHeartbeats 3200000 in
theorem walk (a0 : ByteArray) (_ : a0.size ≤ maxLen) (w : World) :
    Calls Try.prog 5 #[.string a0] w fun e w' => e = .returned (.bool true) ∧ Below w.heap.size w w' := by
  by_cases hb0 : (1048576 : Int) < a0.size
  · go_enter Try.func5, Try.ntmps5
    go_wp2
    go_ret
    exact ⟨rfl, Below.refl _ _⟩
  · have hs0 : a0.size ≤ 1048576 := by omega
    go_enter Try.func5, Try.ntmps5
    go_wp2_with fail
    refine (up_spec a0 _ (by omega) (clean_2000 a0)).mono ?_
    rintro e w1 ⟨g0, n0, cap0, rfl, own0, b1⟩
    have hn : n0 ≤ 10000 := by rw [own0.2]; exact Nat.le_trans (upL_len a0 (clean_2000 a0)) (by omega)
    have SH0 := hidU (ownS_texts own0)
    have N0 := hidU own0.2
    clear own0
    go_wp2_with fail
    refine (up_impl a0 _ hs0).mono ?_
    rintro e w2 ⟨a2', n2, cap2, rfl, own2, b2⟩
    obtain rfl : n2 = n0 := by rw [own2.1, N0.out]
    have O2 := hidU own2
    obtain ⟨x2, t2⟩ := own2.texts
    have T2 := hidU t2
    clear own2 t2
    go_wp2_with fail
    refine (eqStringS_plain _ _ _ _ _ _ _ _ _ T2.out (SH0.out.later b2) (by omega)).mono ?_
    rintro e w3 ⟨rfl, b3⟩
    have O3 := hidU (O2.out.later b3)
    have B3 := b2.trans (b3.mono b2.size)
    clear O2 T2
    go_wp2_with fail
    refine (markS_out _ w1.heap.size _ _ _ _ O3.out B3.size (by omega)).mono ?_
    rintro e w4 ⟨rfl, m4, b4⟩
    have M4 := hidU m4
    have B4 := B3.trans b4
    clear m4 O3
    go_wp2_with fail
    refine (heldS_out _ w1.heap.size _ _ _ M4.out (by omega)).mono ?_
    rintro e w5 ⟨rfl, b5⟩
    have M5 := hidU (M4.out.later b5)
    have B5 := B4.trans (b5.mono B4.size)
    have q1 : decide (((1 + n2 : Nat) : Int) < 0) = false := decide_eq_false (by omega)
    clear M4
    go_wp2_with fail
    refine (up_impl a0 _ hs0).mono ?_
    rintro e w6 ⟨a6', n6, cap6, rfl, own6, b6⟩
    obtain rfl : n6 = n2 := by rw [own6.1, N0.out]
    have B6 := B5.trans (b6.mono B5.size)
    have M6 := hidU (M5.out.later b6)
    obtain ⟨x6, t6⟩ := own6.texts
    have T6 := hidU t6
    clear own6 t6 M5
    go_wp2_with fail
    refine (eqStringS_plain _ _ _ _ _ _ _ _ _ T6.out (SH0.out.later B6) (by omega)).mono ?_
    rintro e w7 ⟨rfl, b7⟩
    have B7 := B6.trans (b7.mono B6.size)
    have M7 := hidU (M6.out.later b7)
    clear T6 M6
    go_wp2_with fail
    refine (heldS_out _ w1.heap.size _ _ _ M7.out (by omega)).mono ?_
    rintro e w8 ⟨rfl, b8⟩
    have B8 := B7.trans (b8.mono B7.size)
    go_wp2
    go_ret
    exact ⟨rfl, b1.trans (B8.mono b1.size)⟩

set_option linter.unusedVariables false in
set_option maxRecDepth 100000 in
theorem lifted (os : Os) (started : os.Started) (H : Type) (enc : TypeId × Value → H) :
    ReturnsInHanded {} Try.checked os 5 .any (Rows.fnExactUpSpec.pre6 enc Try.prog Try.f5 Rows.fnExactUpRow.domain false) (Rows.fnExactUpSpec.post enc Try.prog Try.f5 false true false false) := by
  refine returnsInHanded_of_change (C := Try.checked) own started (by kernel_rfl) Try.func5
    (ChangeSpec.witness6 (enc := enc) (C := Try.checked) false ⟨#[], #[.string ByteArray.empty], []⟩ 8 (by kernel_rfl) (by kernel_rfl) (by kernel_rfl) (by kernel_rfl)) ?_
  intro W base args ds gs before hval0 hW hcnd _
  have hval : ∀ (j : Nat) t v, Try.f5.params[j]? = some t → args[j]? = some v → Value.okWide Try.prog W .any base t v := hval0
  have hW' := hW
  obtain ⟨p, q, hA0, hV, rfl, hfz, hnd⟩ := hW
  have hA : DataW.TrodAll enc Try.prog W 0 (fun _ => true) true Try.f5.params.toList args.toList ds p := hA0
  rw [Try.params5] at hA hval
  obtain ⟨v0, vs0, d0, ds0, p0, q0, hargs, rfl, rfl, h0, r0⟩ := trodAll_cons hA
  obtain ⟨rfl, rfl, rfl⟩ := trodAll_nil r0
  obtain rfl : args = #[v0] := by cases args; simp_all
  obtain ⟨rfl, rfl⟩ := trodVars_none hV
  obtain ⟨a0, rfl, rfl, rfl, w0⟩ := open_string Try.underlying9 (hval 0 9 v0 rfl rfl) h0
  clear hA0 hval0
  simp only [List.append_nil] at hW'
  refine (walk a0 w0 W).mono fun e W' ⟨he, bel⟩ => ?_
  subst he
  exact ⟨_, rfl, _, _, _, [], [], [], hW', trodAll_mk1 (shut_bool Try.underlying4 _), (trodAll_cons_mk (shut_string Try.underlying9 w0) trodAll_mk0), rfl, bel.frame _, fun h => by cases h⟩

theorem over : Rows.fnExactUpRow.holds Try.pinned (OpenSpec.ofChange Rows.fnExactUpSpec) :=
  OpenClaim.holds_of_wide 5 Try.f5 rfl rfl rfl rfl rfl rfl rfl ⟨rfl, rfl, rfl, rfl, rfl⟩ rfl rfl rfl rfl rfl (by kernel_rfl) Try.func5 (by kernel_rfl)
    (of_decide_eq_true (by kernel_rfl)) (by unfold Func.isWrapper; first | (rw [if_pos (by decide +kernel)]; kernel_rfl) | (rw [if_neg (by decide +kernel)]; exact ⟨rfl, rfl⟩))
    (fun os started H enc _ => lifted os started H enc)
end Go.Proofs.Ytemfbibeoibpeaa.fnExactUp
namespace Go.Proofs.Ytemfbibeoibpeaa
theorem fnExactUp_holds : Rows.FnExactUpSaid := fnExactUp.over
end Go.Proofs.Ytemfbibeoibpeaa
