/-
  At every text and flag laws.FnExactParse returns true: impl.Parse answers as spec.Parse does, field by field, and its answer owns its memory; no condition.
-/
import Derived.Test.YticdggnnpjachaaGreatRows
import Derived.ProofKit
import Derived.OpenShut
import Derived.ShutString
import Derived.ChangeOld
import Derived.Below
import Derived.Test.YticdggnnpjachaaGreatCaLawModHeldToLawMod
namespace Go.Proofs.YticdggnnpjachaaGreat.fnExactParse
open Go.ChangeShapes Go.WideShapes Go.ChangeAt Go.RowKit
open Go.ChangeMaps (open_string shut_string)

theorem own : ownKnob Tryz.prog.godebug = none := by kernel_rfl

set_option maxRecDepth 100000 in
set_option maxHeartbeats 6400000 in
theorem walk (a0 : ByteArray) (a1 : Bool) (_ : a0.size ≤ maxLen) (w : World) :
    Calls Tryz.prog 3 #[.string a0, .bool a1] w fun e w' => e = .returned (.bool true) ∧ Below w.heap.size w w' := by
  by_cases hb : (1048576 : Int) < a0.size
  · go_enter Tryz.func3, Tryz.ntmps3
    go_wp2
    go_ret
    exact ⟨rfl, Below.refl _ _⟩
  · have hs : a0.size ≤ 4294967296 := by omega
    go_enter Tryz.func3, Tryz.ntmps3
    go_wp2_with fail
    refine (parse_spec a0 a1 _ hs).mono ?_
    rintro e w1 ⟨ho, b1⟩
    obtain ⟨y, S1, hy, rfl, o1⟩ := ho.form
    obtain ⟨n, hn⟩ : ∃ n, ((qOf y).ep ++ (qOf y).la).length = n := ⟨_, rfl⟩
    rw [modV_n hn]
    have HY := hidI hy
    have HN := hidI hn
    have O1 := hidI o1
    have B1 := hidI b1
    clear ho hy hn o1 b1
    unfold modN
    go_wp2_with fail
    refine (parse_impl a0 a1 _ hs).mono ?_
    rintro e w2 ⟨ho, b2⟩
    obtain ⟨y2, S2, hy2, rfl, o2⟩ := ho.form
    obtain rfl := parseR_one hy2 HY.out
    rw [modV_n HN.out]
    have HX1 := hidI ((b2.block _ (by rw [alloc_size]; omega)).trans (heap_alloc_new w1 _))
    have hsz2 : w1.heap.size + 1 ≤ w2.heap.size := by have := b2.size; rw [alloc_size] at this; exact this
    have hltx : w1.heap.size < w2.heap.size := by omega
    rw [alloc_size] at o2
    have O2 := hidI o2
    have B2 := hidI (((Below.refl w1.heap.size w1).alloc (Nat.le_refl _) _).trans (b2.mono (by rw [alloc_size]; omega)))
    clear ho hy2 o2 b2
    unfold modN
    obtain ⟨c0, c1, c2, c3, c4, cf⟩ := five_of HX1.out
    go_wp2_with fail
    refine (eqMod_n _ _ S2 S1 (qOf y2) _ (O2.out.keepL ((Below.refl _ _).alloc (Nat.le_refl _) _)) (O1.out.keepL (B2.out.alloc B2.out.size _)) HN.out).mono ?_
    rintro e w3 ⟨rfl, b3⟩
    have hsz3 : w2.heap.size + 1 ≤ w3.heap.size := by have := b3.size; rw [alloc_size] at this; exact this
    have C3 := hidI (((Below.refl w2.heap.size w2).alloc (Nat.le_refl _) _).trans (b3.mono (by rw [alloc_size]; omega)))
    have HX2 := hidI ((b3.block _ (by rw [alloc_size]; omega)).trans (heap_alloc_new w2 _))
    have HX13 := hidI ((C3.out.block _ (by omega)).trans HX1.out)
    have O23 := hidI (O2.out.keepL C3.out)
    have B3 := hidI (B2.out.trans (C3.out.mono B2.out.size))
    clear b3 c0 c1 c2 c3 c4 cf
    obtain ⟨c0, c1, c2, c3, c4, cf⟩ := five_of HX13.out
    obtain ⟨d0, d1, d2, d3, d4, df⟩ := five_of HX2.out
    go_wp2_with fail
    refine (markMod_n _ S2 (qOf y2) _ O23.out (by omega) HN.out).mono ?_
    rintro e w4 ⟨rfl, m4, b4, k4⟩
    have M4 := hidI m4
    have HX14 := hidI (k4 _ _ HX13.out)
    have HX24 := hidI (k4 _ _ HX2.out)
    have B4 := hidI (B3.out.trans (b4.mono (Nat.le_succ _)))
    clear m4 b4 k4 c0 c1 c2 c3 c4 cf d0 d1 d2 d3 d4 df
    obtain ⟨c0, c1, c2, c3, c4, cf⟩ := five_of HX14.out
    obtain ⟨d0, d1, d2, d3, d4, df⟩ := five_of HX24.out
    go_wp2_with fail
    refine (heldMod_n _ S2 (qOf y2) _ _ _ _ M4.out O1.out HN.out).mono ?_
    rintro e w5 ⟨rfl, b5⟩
    have M5 := hidI (M4.out.later b5)
    have hlt1 := (Array.getElem?_eq_some_iff.1 HX14.out).1
    have hlt2 := (Array.getElem?_eq_some_iff.1 HX24.out).1
    have HX15 := hidI ((b5.block _ hlt1).trans HX14.out)
    have HX25 := hidI ((b5.block _ hlt2).trans HX24.out)
    have B5 := hidI (B4.out.trans (b5.mono B4.out.size))
    have dz : decide ((kq (qOf y2) 5 : Int) < 0) = false := decide_eq_false (by omega)
    clear b5 hlt1 hlt2 c0 c1 c2 c3 c4 cf d0 d1 d2 d3 d4 df
    obtain ⟨c0, c1, c2, c3, c4, cf⟩ := five_of HX15.out
    obtain ⟨d0, d1, d2, d3, d4, df⟩ := five_of HX25.out
    go_wp2_with fail
    refine (parse_impl a0 a1 _ hs).mono ?_
    rintro e w6 ⟨ho, b6⟩
    obtain ⟨y3, S3, hy3, rfl, o3⟩ := ho.form
    obtain rfl := parseR_one hy3 HY.out
    rw [modV_n HN.out]
    have O3 := hidI o3
    have M6 := hidI (M5.out.later b6)
    have hlt1 := (Array.getElem?_eq_some_iff.1 HX15.out).1
    have hlt2 := (Array.getElem?_eq_some_iff.1 HX25.out).1
    have HX16 := hidI ((b6.block _ hlt1).trans HX15.out)
    have HX26 := hidI ((b6.block _ hlt2).trans HX25.out)
    have B6 := hidI (B5.out.trans (b6.mono B5.out.size))
    clear ho hy3 o3 b6 hlt1 hlt2 c0 c1 c2 c3 c4 cf d0 d1 d2 d3 d4 df
    unfold modN
    obtain ⟨c0, c1, c2, c3, c4, cf⟩ := five_of HX16.out
    obtain ⟨d0, d1, d2, d3, d4, df⟩ := five_of HX26.out
    have hlt1 := (Array.getElem?_eq_some_iff.1 HX16.out).1
    have hlt2 := (Array.getElem?_eq_some_iff.1 HX26.out).1
    go_wp2_with fail
    refine (eqMod_n _ _ S3 S1 (qOf y3) _ (O3.out.keepL ((Below.refl _ _).alloc (Nat.le_refl _) _)) (O1.out.keepL (B6.out.alloc B6.out.size _)) HN.out).mono ?_
    rintro e w7 ⟨rfl, b7⟩
    have C7 := hidI (((Below.refl w6.heap.size w6).alloc (Nat.le_refl _) _).trans (b7.mono (by rw [alloc_size]; omega)))
    have M7 := hidI (M6.out.later C7.out)
    have HX27 := hidI ((C7.out.block _ hlt2).trans HX26.out)
    have B7 := hidI (B6.out.trans (C7.out.mono B6.out.size))
    clear b7 hlt1 hlt2 c0 c1 c2 c3 c4 cf d0 d1 d2 d3 d4 df
    obtain ⟨d0, d1, d2, d3, d4, df⟩ := five_of HX27.out
    go_wp2_with fail
    refine (heldMod_n _ S2 (qOf y3) _ _ _ _ M7.out O1.out HN.out).mono ?_
    rintro e w8 ⟨rfl, b8⟩
    have B8 := hidI (B7.out.trans (b8.mono B7.out.size))
    clear b8
    go_wp2
    go_ret
    exact ⟨rfl, B1.out.trans (B8.out.mono B1.out.size)⟩

set_option linter.unusedVariables false in
set_option maxRecDepth 100000 in
theorem lifted (os : Os) (started : os.Started) (H : Type) (enc : TypeId × Value → H) :
    ReturnsInHanded {} Tryz.checked os 3 .any (Rows.fnExactParseSpec.pre6 enc Tryz.prog Tryz.f3 Rows.fnExactParseRow.domain false) (Rows.fnExactParseSpec.post enc Tryz.prog Tryz.f3 false true false false) := by
  refine returnsInHanded_of_change (C := Tryz.checked) own started (by kernel_rfl) Tryz.func3
    (ChangeSpec.witness6 (enc := enc) (C := Tryz.checked) false ⟨#[], #[.string ByteArray.empty, .bool false], []⟩ 8 (by kernel_rfl) (by kernel_rfl) (by kernel_rfl) (by kernel_rfl)) ?_
  intro W base args ds gs before hval0 hW hcnd _
  have hval : ∀ (j : Nat) t v, Tryz.f3.params[j]? = some t → args[j]? = some v → Value.okWide Tryz.prog W .any base t v := hval0
  have hW' := hW
  obtain ⟨p, q, hA0, hV, rfl, hfz, hnd⟩ := hW
  have hA : DataW.TrodAll enc Tryz.prog W 0 (fun _ => true) true Tryz.f3.params.toList args.toList ds p := hA0
  rw [Tryz.params3] at hA hval
  obtain ⟨v0, vs0, d0, ds0, p0, q0, hargs, rfl, rfl, h0, r0⟩ := trodAll_cons hA
  obtain ⟨v1, vs1, d1, ds1, p1, q1, rfl, rfl, rfl, h1, r1⟩ := trodAll_cons r0
  obtain ⟨rfl, rfl, rfl⟩ := trodAll_nil r1
  obtain rfl : args = #[v0, v1] := by cases args; simp_all
  obtain ⟨rfl, rfl⟩ := trodVars_none hV
  obtain ⟨a0, rfl, rfl, rfl, w0⟩ := open_string Tryz.underlying9 (hval 0 9 v0 rfl rfl) h0
  obtain ⟨a1, rfl, rfl, rfl⟩ := open_bool Tryz.underlying4 (hval 1 4 v1 rfl rfl) h1
  clear hA0 hval0
  simp only [List.append_nil] at hW'
  refine (walk a0 a1 w0 W).mono fun e W' ⟨he, bel⟩ => ?_
  subst he
  exact ⟨_, rfl, _, _, _, [], [], [], hW', trodAll_mk1 (shut_bool Tryz.underlying4 _), (trodAll_cons_mk (shut_string Tryz.underlying9 w0) (trodAll_cons_mk (shut_bool Tryz.underlying4 _) trodAll_mk0)), rfl, bel.frame _, fun h => by cases h⟩

theorem over : Rows.fnExactParseRow.holds Tryz.pinned (OpenSpec.ofChange Rows.fnExactParseSpec) :=
  OpenClaim.holds_of_wide 3 Tryz.f3 rfl rfl rfl rfl rfl rfl rfl ⟨rfl, rfl, rfl, rfl, rfl⟩ rfl rfl rfl rfl rfl (by kernel_rfl) Tryz.func3 (by kernel_rfl)
    (of_decide_eq_true (by kernel_rfl)) (by unfold Func.isWrapper; first | (rw [if_pos (by decide +kernel)]; kernel_rfl) | (rw [if_neg (by decide +kernel)]; exact ⟨rfl, rfl⟩))
    (fun os started H enc _ => lifted os started H enc)
end Go.Proofs.YticdggnnpjachaaGreat.fnExactParse
namespace Go.Proofs.YticdggnnpjachaaGreat
theorem fnExactParse_holds : Rows.FnExactParseSaid := fnExactParse.over
end Go.Proofs.YticdggnnpjachaaGreat
