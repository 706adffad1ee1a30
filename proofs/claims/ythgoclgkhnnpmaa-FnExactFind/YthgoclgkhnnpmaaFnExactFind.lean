/-
  At every row of files and every text laws.FnExactFind returns true: impl.Find answers as spec.Find does and writes into no argument; no condition.
-/
import Derived.Test.YthgoclgkhnnpmaaRows
import Derived.WalkKit
import Derived.WalkLawsBesides
import Derived.ProofKit
import Derived.OpenShut
import Derived.ShutString
import Derived.ChangeOld
import Derived.Below
import Derived.Test.YthgoclgkhnnpmaaImplFiles
import Derived.Test.YthgoclgkhnnpmaaSpecFind
import Derived.Test.YthgoclgkhnnpmaaLawFiles
import Derived.Test.YthgoclgkhnnpmaaSrcFile
namespace Go.Proofs.Ythgoclgkhnnpmaa.fnExactFind
open Go.ChangeShapes Go.WideShapes Go.ChangeAt Go.RowKit
open Go.ChangeMaps (open_string shut_string)

theorem own : ownKnob Try.prog.godebug = none := by kernel_rfl
theorem laidOut : laidOutB Try.prog = true := by kernel_rfl

set_option maxHeartbeats 800000 in
theorem walk (S : FSrc) (q : ByteArray) (w : World) (w0 : FSrcIn S w) (w1 : q.size ≤ maxLen) :
    Calls Try.prog 7 #[.slice S.a S.len S.cap, .string q] w fun e w' => e = .returned (.bool true) ∧ Below w.heap.size w w' := by
  obtain ⟨a, b, off, len, cap, Pt, Tx⟩ := S
  obtain ⟨hlen, hfa, hsz⟩ := w0
  have hq : q.size ≤ 9223372036854775807 := by unfold maxLen at w1; omega
  clear w1
  simp only at hlen hfa hsz ⊢
  by_cases hb : (1048576 : Int) < q.size
  · go_enter Try.func7, Try.ntmps7
    go_wp2
    go_ret
    exact ⟨rfl, Below.refl _ _⟩
  · go_enter Try.func7, Try.ntmps7
    go_wp2_with fail
    refine (szFileS_any a b off len cap Pt Tx _ hfa hlen (fun j hj => (hsz j hj).1) (fun j hj => (hsz j hj).2)).mono ?_
    rintro e w1 ⟨z, rfl, hz, hb1⟩
    by_cases hz0 : 0 ≤ z
    · obtain ⟨hl, hsizes⟩ := hz hz0
      have hp : ∀ j, j < len → (Pt j).size ≤ 1048576 := fun j hj => (hsizes j hj).1
      have ht : ∀ j, j < len → (Tx j).size ≤ 1048576 := fun j hj => (hsizes j hj).2
      clear hsz hsizes hz
      go_wp2_with fail
      refine (toFileS_any a b off len cap Pt Tx _ (hfa.later hb1) hl).mono ?_
      rintro e w2 ⟨g1, rfl, o1, hb2⟩
      have B2 := hb1.trans (hb2.mono hb1.size)
      go_wp2_with fail
      refine (find_spec g1 len Pt Tx q _ o1.files hl hp ht).mono ?_
      rintro e w3 ⟨rfl, hb3⟩
      have B3 := B2.trans (hb3.mono B2.size)
      clear o1
      go_wp2_with fail
      refine (toFileS_any a b off len cap Pt Tx _ (hfa.later B3) hl).mono ?_
      rintro e w4 ⟨g2, rfl, o2, hb4⟩
      have B4 := B3.trans (hb4.mono B3.size)
      have f2 := o2.files
      clear o2
      go_wp2_with fail
      refine (find_impl g2 len Pt Tx q _ f2 hl hp ht).mono ?_
      rintro e w5 ⟨rfl, hb5⟩
      have B5 := B4.trans (hb5.mono B4.size)
      have f3 := f2.later hb5
      clear f2
      go_wp2_with fail
      refine (toFileS_any a b off len cap Pt Tx _ (hfa.later B5) hl).mono ?_
      rintro e w6 ⟨g3, rfl, o3, hb6⟩
      have B6 := B5.trans (hb6.mono B5.size)
      have f4 := f3.later hb6
      have f5 := o3.files
      clear f3 o3
      go_wp2_with fail
      refine (eqFileS_any g2 g3 len Pt Tx _ f4 f5 hl).mono ?_
      rintro e w7 ⟨rfl, hb7⟩
      have B7 := B6.trans (hb7.mono B6.size)
      go_wp2
      go_ret
      exact ⟨rfl, B7⟩
    · clear hz
      go_wp2
      go_ret
      exact ⟨rfl, hb1⟩

set_option linter.unusedVariables false in
set_option maxRecDepth 100000 in
theorem lifted (os : Os) (started : os.Started) (H : Type) (enc : TypeId × Value → H) :
    ReturnsInHanded {} Try.checked os 7 .any (Rows.fnExactFindSpec.pre6 enc Try.prog Try.f7 Rows.fnExactFindRow.domain false) (Rows.fnExactFindSpec.post enc Try.prog Try.f7 false true false false) := by
  refine returnsInHanded_of_change (C := Try.checked) own started (by kernel_rfl) Try.func7
    (ChangeSpec.witness6 (enc := enc) (C := Try.checked) false ⟨#[], #[.slice none 0 0, .string ByteArray.empty], []⟩ 8 (by kernel_rfl) (by kernel_rfl) (by kernel_rfl) (by kernel_rfl)) ?_
  intro W base args ds gs before hval0 hW hcnd _
  have hval : ∀ (j : Nat) t v, Try.f7.params[j]? = some t → args[j]? = some v → Value.okWide Try.prog W .any base t v := hval0
  have hW' := hW
  obtain ⟨p, q, hA0, hV, rfl, hfz, hnd⟩ := hW
  have hA : DataW.TrodAll enc Try.prog W 0 (fun _ => true) true Try.f7.params.toList args.toList ds p := hA0
  rw [Try.params7] at hA hval
  obtain ⟨v0, vs0, d0, ds0, p0, q0, hargs, rfl, rfl, h0, r0⟩ := trodAll_cons hA
  obtain ⟨v1, vs1, d1, ds1, p1, q1, rfl, rfl, rfl, h1, r1⟩ := trodAll_cons r0
  obtain ⟨rfl, rfl, rfl⟩ := trodAll_nil r1
  obtain rfl : args = #[v0, v1] := by cases args; simp_all
  obtain ⟨rfl, rfl⟩ := trodVars_none hV
  obtain ⟨a0, len0, cap0, rfl⟩ := okWide_slice Try.underlying29 (hval 0 29 v0 rfl rfl)
  have k0 := h0
  have lt0 : ∀ x ∈ p0, x.block < W.heap.size := by obtain ⟨m, hm⟩ := k0; exact DataW.trod_lt m _ _ _ hm
  obtain ⟨S0, rfl, rfl, rfl, w0⟩ : ∃ S : FSrc, a0 = S.a ∧ len0 = S.len ∧ cap0 = S.cap ∧ FSrcIn S W := by
    obtain ⟨fuel, hf⟩ := h0
    exact files_open hf
  obtain ⟨a1, rfl, rfl, rfl, w1⟩ := open_string Try.underlying9 (hval 1 9 v1 rfl rfl) h1
  clear hA0 hval0
  refine (walk S0 a1 W w0 w1).mono fun e W' ⟨he, bel⟩ => ?_
  subst he
  exact ⟨_, rfl, _, _, _, [], _, [], hW', trodAll_mk1 (shut_bool Try.underlying4 _), (trodAll_cons_mk (Below.trod laidOut (by kernel_rfl) (of_decide_eq_true (by kernel_rfl)) k0 bel lt0) (trodAll_cons_mk (shut_string Try.underlying9 w1) trodAll_mk0)), rfl, bel.frame _, fun h => by cases h⟩

theorem over : Rows.fnExactFindRow.holds Try.pinned (OpenSpec.ofChange Rows.fnExactFindSpec) :=
  OpenClaim.holds_of_wide 7 Try.f7 rfl rfl rfl rfl rfl rfl rfl ⟨rfl, rfl, rfl, rfl, rfl⟩ rfl rfl rfl rfl rfl (by kernel_rfl) Try.func7 (by kernel_rfl)
    (of_decide_eq_true (by kernel_rfl)) (by unfold Func.isWrapper; first | (rw [if_pos (by decide +kernel)]; kernel_rfl) | (rw [if_neg (by decide +kernel)]; exact ⟨rfl, rfl⟩))
    (fun os started H enc _ => lifted os started H enc)
end Go.Proofs.Ythgoclgkhnnpmaa.fnExactFind
namespace Go.Proofs.Ythgoclgkhnnpmaa
theorem fnExactFind_holds : Rows.FnExactFindSaid := fnExactFind.over
end Go.Proofs.Ythgoclgkhnnpmaa
