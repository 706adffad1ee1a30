/-
  At every text and flag laws.FnExactLex returns true: impl.Lex answers as spec.Lex does, field by field, and its answer owns its memory; no condition.
-/
import Derived.Test.YtcmpakdfebeklaaRows
import Derived.ProofKit
import Derived.OpenShut
import Derived.ShutString
import Derived.ChangeOld
import Derived.Below
import Derived.Test.YtcmpakdfebeklaaImplLex
import Derived.Test.YtcmpakdfebeklaaLexLen
namespace Go.Proofs.Ytcmpakdfebeklaa.fnExactLex
open Go.ChangeShapes Go.WideShapes Go.ChangeAt Go.RowKit
open Go.ChangeMaps (open_string shut_string)

theorem own : ownKnob Try.prog.godebug = none := by kernel_rfl

set_option maxHeartbeats 3200000 in
theorem walk (a0 : ByteArray) (a1 : Bool) (_ : a0.size ≤ maxLen) (w : World) :
    Calls Try.prog 3 #[.string a0, .bool a1] w fun e w' => e = .returned (.bool true) ∧ Below w.heap.size w w' := by
  by_cases hb : (1048576 : Int) < a0.size
  · go_enter Try.func3, Try.ntmps3
    go_wp2
    go_ret
    exact ⟨rfl, Below.refl _ _⟩
  · have hs : a0.size ≤ 4294967296 := by omega
    go_enter Try.func3, Try.ntmps3
    go_wp2_with fail
    refine (lex_spec a0 a1 _ hs).mono ?_
    rintro e w1 ⟨⟨r1, hr1, hout1⟩, b1⟩
    cases r1 with
    | ok ts =>
      obtain ⟨g0, n0, cap0, rfl, own0⟩ := hout1
      have hlen := lexR_len hr1
      have HR : Hid (LexR a0 a1 (.ok ts)) := hr1
      clear hr1
      go_wp2_with fail
      refine (lex_impl a0 a1 _ hs).mono ?_
      rintro e w2 ⟨⟨r2, hr2, hout2⟩, b2⟩
      obtain rfl := lexR_one hr2 HR.out
      obtain ⟨g1, n1, cap1, rfl, own1⟩ := hout2
      obtain rfl : n1 = n0 := by rw [own1.2, own0.2]
      have hn : n1 ≤ 4000 := by rw [own1.2]; exact hlen
      have HN1 : Hid (n1 = ts.length) := own1.2
      have sh0 := ownT_shows own0
      have hg0 := (ownT_lt own0).1
      have sh0b := sh0.later b2
      clear hr2
      go_wp2_with fail
      refine (eqTokenS_any _ _ _ _ _ _ _ _ _ (ownT_shows own1) sh0b hn).mono ?_
      rintro e w3 ⟨rfl, b3⟩
      have m3 := ownT_mark_later own1 b3
      have B3 := b2.trans (b3.mono b2.size)
      clear own0
      go_wp2_with fail
      refine (markTokenS_any w1.heap.size g1 n1 cap1 _ m3 hn).mono ?_
      rintro e w4 ⟨rfl, m4, b4⟩
      have B4 := B3.trans b4
      clear m3 own1
      go_wp2_with fail
      refine (heldTokenS_any w1.heap.size g1 n1 cap1 _ m4 hn).mono ?_
      rintro e w5 ⟨rfl, b5⟩
      have m5 := m4.later b5
      have B5 := B4.trans (b5.mono B4.size)
      have q1 : decide (1 + 4 * (n1 : Int) < 0) = false := decide_eq_false (by omega)
      clear m4
      go_wp2_with fail
      refine (lex_impl a0 a1 _ hs).mono ?_
      rintro e w6 ⟨⟨r3, hr3, hout3⟩, b6⟩
      obtain rfl := lexR_one hr3 HR.out
      obtain ⟨g2, n2, cap2, rfl, own2⟩ := hout3
      obtain rfl : n2 = n1 := by rw [own2.2, HN1.out]
      have B6 := B5.trans (b6.mono B5.size)
      have sh6 := sh0.below (fun _ => hg0) B6
      have m6 := m5.later b6
      clear hr3 m5
      go_wp2_with fail
      refine (eqTokenS_any _ _ _ _ _ _ _ _ _ (ownT_shows own2) sh6 hn).mono ?_
      rintro e w7 ⟨rfl, b7⟩
      have B7 := B6.trans (b7.mono B6.size)
      have m7 := m6.later b7
      clear m6 own2 sh6
      go_wp2_with fail
      refine (heldTokenS_any w1.heap.size g1 n2 cap1 _ m7 hn).mono ?_
      rintro e w8 ⟨rfl, b8⟩
      have B8 := B7.trans (b8.mono B7.size)
      go_wp2
      go_ret
      exact ⟨rfl, b1.trans (B8.mono b1.size)⟩
    | error p =>
      obtain ⟨g0, cap0, rfl, own0⟩ := hout1
      have HR : Hid (LexR a0 a1 (.error p)) := hr1
      clear hr1 own0
      go_wp2_with fail
      refine (lex_impl a0 a1 _ hs).mono ?_
      rintro e w2 ⟨⟨r2, hr2, hout2⟩, b2⟩
      obtain rfl := lexR_one hr2 HR.out
      obtain rfl := hout2
      clear hr2
      have hz : (0 : Nat) ≤ 4000 := by omega
      go_wp2_with fail
      refine (eqTokenS_any none (some ⟨g0, 0, none⟩) 0 0 0 0 cap0 (fun _ => tkNo) _ tokAt_none tokAt_none hz).mono ?_
      rintro e w3 ⟨rfl, b3⟩
      have B3 := b2.trans (b3.mono b2.size)
      go_wp2_with fail
      refine (markTokenS_nil _).mono ?_
      rintro e w4 ⟨rfl, b4⟩
      have B4 := B3.trans (b4.mono B3.size)
      go_wp2_with fail
      refine (heldTokenS_nil _).mono ?_
      rintro e w5 ⟨rfl, b5⟩
      have B5 := B4.trans (b5.mono B4.size)
      go_wp2_with fail
      refine (lex_impl a0 a1 _ hs).mono ?_
      rintro e w6 ⟨⟨r3, hr3, hout3⟩, b6⟩
      obtain rfl := lexR_one hr3 HR.out
      obtain rfl := hout3
      have B6 := B5.trans (b6.mono B5.size)
      clear hr3
      go_wp2_with fail
      refine (eqTokenS_any none (some ⟨g0, 0, none⟩) 0 0 0 0 cap0 (fun _ => tkNo) _ tokAt_none tokAt_none hz).mono ?_
      rintro e w7 ⟨rfl, b7⟩
      have B7 := B6.trans (b7.mono B6.size)
      go_wp2_with fail
      refine (heldTokenS_nil _).mono ?_
      rintro e w8 ⟨rfl, b8⟩
      have B8 := B7.trans (b8.mono B7.size)
      go_wp2
      go_ret
      exact ⟨rfl, b1.trans (B8.mono b1.size)⟩

set_option linter.unusedVariables false in
set_option maxRecDepth 100000 in
theorem lifted (os : Os) (started : os.Started) (H : Type) (enc : TypeId × Value → H) :
    ReturnsInHanded {} Try.checked os 3 .any (Rows.fnExactLexSpec.pre6 enc Try.prog Try.f3 Rows.fnExactLexRow.domain false) (Rows.fnExactLexSpec.post enc Try.prog Try.f3 false true false false) := by
  refine returnsInHanded_of_change (C := Try.checked) own started (by kernel_rfl) Try.func3
    (ChangeSpec.witness6 (enc := enc) (C := Try.checked) false ⟨#[], #[.string ByteArray.empty, .bool false], []⟩ 8 (by kernel_rfl) (by kernel_rfl) (by kernel_rfl) (by kernel_rfl)) ?_
  intro W base args ds gs before hval0 hW hcnd _
  have hval : ∀ (j : Nat) t v, Try.f3.params[j]? = some t → args[j]? = some v → Value.okWide Try.prog W .any base t v := hval0
  have hW' := hW
  obtain ⟨p, q, hA0, hV, rfl, hfz, hnd⟩ := hW
  have hA : DataW.TrodAll enc Try.prog W 0 (fun _ => true) true Try.f3.params.toList args.toList ds p := hA0
  rw [Try.params3] at hA hval
  obtain ⟨v0, vs0, d0, ds0, p0, q0, hargs, rfl, rfl, h0, r0⟩ := trodAll_cons hA
  obtain ⟨v1, vs1, d1, ds1, p1, q1, rfl, rfl, rfl, h1, r1⟩ := trodAll_cons r0
  obtain ⟨rfl, rfl, rfl⟩ := trodAll_nil r1
  obtain rfl : args = #[v0, v1] := by cases args; simp_all
  obtain ⟨rfl, rfl⟩ := trodVars_none hV
  obtain ⟨a0, rfl, rfl, rfl, w0⟩ := open_string Try.underlying9 (hval 0 9 v0 rfl rfl) h0
  obtain ⟨a1, rfl, rfl, rfl⟩ := open_bool Try.underlying4 (hval 1 4 v1 rfl rfl) h1
  clear hA0 hval0
  simp only [List.append_nil] at hW'
  refine (walk a0 a1 w0 W).mono fun e W' ⟨he, bel⟩ => ?_
  subst he
  exact ⟨_, rfl, _, _, _, [], [], [], hW', trodAll_mk1 (shut_bool Try.underlying4 _), (trodAll_cons_mk (shut_string Try.underlying9 w0) (trodAll_cons_mk (shut_bool Try.underlying4 _) trodAll_mk0)), rfl, bel.frame _, fun h => by cases h⟩

theorem over : Rows.fnExactLexRow.holds Try.pinned (OpenSpec.ofChange Rows.fnExactLexSpec) :=
  OpenClaim.holds_of_wide 3 Try.f3 rfl rfl rfl rfl rfl rfl rfl ⟨rfl, rfl, rfl, rfl, rfl⟩ rfl rfl rfl rfl rfl (by kernel_rfl) Try.func3 (by kernel_rfl)
    (of_decide_eq_true (by kernel_rfl)) (by unfold Func.isWrapper; first | (rw [if_pos (by decide +kernel)]; kernel_rfl) | (rw [if_neg (by decide +kernel)]; exact ⟨rfl, rfl⟩))
    (fun os started H enc _ => lifted os started H enc)
end Go.Proofs.Ytcmpakdfebeklaa.fnExactLex
namespace Go.Proofs.Ytcmpakdfebeklaa
theorem fnExactLex_holds : Rows.FnExactLexSaid := fnExactLex.over
end Go.Proofs.Ytcmpakdfebeklaa
