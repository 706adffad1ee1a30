/-
  At every row of files and every text laws.FnExactDropFile returns true: impl.DropFile answers as spec.DropFile does, writes into no argument and keeps nothing of one, and its answer owns its memory; no condition.
-/
import Derived.Test.YtdbpknmoacjodaaRows
import Derived.ProofKit
import Derived.ShutString
import Derived.ChangeOld
import Derived.Test.YtdbpknmoacjodaaCdSrcFile
import Derived.Test.YtdbpknmoacjodaaCdDeleteFToImplDrop
namespace Go.Proofs.Ytdbpknmoacjodaa.fnExactDropFile
open Go.ChangeShapes Go.WideShapes Go.ChangeAt Go.RowKit
open Go.ChangeMaps (open_string shut_string)

theorem own : ownKnob Try.prog.godebug = none := by kernel_rfl
theorem laidOut : laidOutB Try.prog = true := by kernel_rfl

set_option maxHeartbeats 6400000 in
theorem walk (S : FSrc) (q : ByteArray) (w : World) (w0 : FSrcIn S w) (w1 : q.size ≤ maxLen) :
    Calls Try.prog 6 #[.slice S.a S.len S.cap, .string q] w fun e w' => e = .returned (.bool true) ∧ Below w.heap.size w w' := by
  obtain ⟨a, b, off, len, cap, Pt, Tx⟩ := S
  obtain ⟨hlen, hfa, hsz⟩ := w0
  have hq : q.size ≤ 9223372036854775807 := by unfold maxLen at w1; omega
  clear w1
  simp only at hlen hfa hsz ⊢
  by_cases hb : (1048576 : Int) < q.size
  · go_enter Try.func6, Try.ntmps6
    go_wp2
    go_ret
    exact ⟨rfl, Below.refl _ _⟩
  · have hq1 : q.size ≤ 1048576 := by omega
    go_enter Try.func6, Try.ntmps6
    go_wp2_with fail
    refine (szFileS_any a b off len cap Pt Tx _ hfa hlen (fun j hj => (hsz j hj).1) (fun j hj => (hsz j hj).2)).mono ?_
    rintro e w1 ⟨z, rfl, hz, hb1⟩
    by_cases hz0 : 0 ≤ z
    · obtain ⟨hl, hsizes⟩ := hz hz0
      have HP : Hid (∀ j, j < len → (Pt j).size ≤ 1048576) := fun j hj => (hsizes j hj).1
      have HT : Hid (∀ j, j < len → (Tx j).size ≤ 1048576) := fun j hj => (hsizes j hj).2
      have HFA := hidU hfa
      clear hsz hsizes hz hfa
      go_wp2_with fail
      refine (toFileS_any a b off len cap Pt Tx _ (HFA.out.later hb1) hl).mono ?_
      rintro e w2 ⟨g1, rfl, o1, hb2⟩
      have B2 := hb1.trans (hb2.mono hb1.size)
      have F1 := hidU o1.files
      clear o1
      go_wp2_with fail
      refine (dropFile_spec g1 len Pt Tx q _ F1.out hl HP.out HT.out).mono ?_
      rintro e w3 ⟨g0, n0, cap0, rfl, own0, hb3⟩
      have B3 := hidU (B2.trans (hb3.mono B2.size))
      have hn : n0 ≤ len := by rw [own0.2]; exact dropS_len len Pt Tx q
      have SH0 := hidU (ownFl_files own0)
      have N0 := hidU own0.2
      obtain ⟨bb, hbb⟩ : ∃ bb, (dropS len Pt Tx q).2 = bb := ⟨_, rfl⟩
      rw [hbb]
      have HBB := hidU hbb
      have hsame : (!(bb == bb)) = false := by cases bb <;> rfl
      have hsame' : (bb == bb) = true := by cases bb <;> rfl
      clear own0 hbb F1 B2 hb1 hb2 hb3
      go_wp2_with fail
      refine (toFileS_any a b off len cap Pt Tx _ (HFA.out.later B3.out) hl).mono ?_
      rintro e w4 ⟨g2, rfl, o2, b4⟩
      have O2 := hidU o2
      have D4 := hidU b4
      clear o2 b4
      go_wp2_with fail
      refine (dropFile_impl g2 len Pt Tx q _ O2.out.files hl HP.out HT.out hq1).mono ?_
      rintro e w5 ⟨a5, n5, cap5, rfl, own5, b5⟩
      rw [HBB.out]
      obtain rfl : n5 = n0 := by rw [own5.1, N0.out]
      have G5 := hidU own5
      have O5 := hidU (O2.out.later b5)
      have X4 := hidU (ownF_blk O2.out)
      have D5 := hidU (D4.out.trans (b5.mono D4.out.size))
      have E5 := hidU b5
      obtain ⟨x5, t5⟩ := own5.files
      have T5 := hidU t5
      clear own5 b5 t5 O2
      go_wp2_with fail
      refine (eqFileS_anyC _ _ _ _ _ _ _ _ _ _ T5.out (SH0.out.later D5.out) (by omega)).mono ?_
      rintro e w6 ⟨rfl, b6⟩
      have G6 := hidU (G5.out.later b6)
      have O6 := hidU (O5.out.later b6)
      have D6 := hidU (D5.out.trans (b6.mono D5.out.size))
      have E6 := hidU (E5.out.trans (b6.mono E5.out.size))
      clear b6 T5 G5 O5 D5 E5
      go_wp2_with fail
      refine (toFileS_any a b off len cap Pt Tx _ (HFA.out.later (B3.out.trans (D6.out.mono B3.out.size))) hl).mono ?_
      rintro e w7 ⟨g7, rfl, o7, b7⟩
      have P7 := hidU o7.files
      have G7 := hidU (G6.out.later b7)
      have O7 := hidU (O6.out.later b7)
      have D7 := hidU (D6.out.trans (b7.mono D6.out.size))
      have E7 := hidU (E6.out.trans (b7.mono E6.out.size))
      clear o7 b7 G6 O6 D6 E6
      go_wp2_with fail
      refine (eqFileS_any g2 g7 len Pt Tx _ O7.out.files P7.out hl).mono ?_
      rintro e w8 ⟨rfl, b8⟩
      have G8 := hidU (G7.out.later b8)
      have O8 := hidU (O7.out.later b8)
      have D8 := hidU (D7.out.trans (b8.mono D7.out.size))
      have E8 := hidU (E7.out.trans (b8.mono E7.out.size))
      clear b8 P7 G7 O7 D7 E7
      have qk : decide (((1 + len * 2 : Nat) : Int) < 0) = false := decide_eq_false (by omega)
      go_wp2_with fail
      refine (markF_arg _ w3.heap.size g2 len Pt Tx O8.out hl).mono ?_
      rintro e w9 ⟨rfl, k9⟩
      have G9 := hidU (G8.out.aside k9 X4.out.2)
      have D9 := hidU (D8.out.trans (gm_under k9 X4.out.1 D8.out.size))
      have Z9 := hidU (show w4.heap.size ≤ w9.heap.size from Nat.le_trans E8.out.size k9.size)
      clear k9 G8 O8 D8 E8
      obtain ⟨x9, t9⟩ := G9.out.files
      have T9 := hidU t9
      clear t9
      go_wp2_with fail
      refine (eqFileS_anyC _ _ _ _ _ _ _ _ _ _ T9.out (SH0.out.later D9.out) (by omega)).mono ?_
      rintro e wa ⟨rfl, ba⟩
      have Ga := hidU (G9.out.later ba)
      have Da := hidU (D9.out.trans (ba.mono D9.out.size))
      have Za := hidU (Nat.le_trans Z9.out ba.size)
      have W34 : Hid (w3.heap.size ≤ w4.heap.size) := D4.out.size
      clear ba T9 G9 D9 Z9
      go_wp2_with fail
      refine (markF_out _ w4.heap.size _ _ _ _ Ga.out Za.out (by omega)).mono ?_
      rintro e wb ⟨rfl, mb, bb4⟩
      have Mb := hidU mb
      have Db := hidU (Da.out.trans (bb4.mono W34.out))
      clear mb bb4 Ga Da Za
      go_wp2_with fail
      refine (heldF_out _ w4.heap.size _ _ _ Mb.out (by omega)).mono ?_
      rintro e wc ⟨rfl, bc⟩
      have Mc := hidU (Mb.out.later bc)
      have Dc := hidU (Db.out.trans (bc.mono Db.out.size))
      have q1 : decide (((1 + n5 * 2 : Nat) : Int) < 0) = false := decide_eq_false (by omega)
      clear bc Mb Db
      go_wp2_with fail
      refine (toFileS_any a b off len cap Pt Tx _ (HFA.out.later (B3.out.trans (Dc.out.mono B3.out.size))) hl).mono ?_
      rintro e wd ⟨gd, rfl, od, bd⟩
      have Pd := hidU od.files
      have Md := hidU (Mc.out.later bd)
      have Dd := hidU (Dc.out.trans (bd.mono Dc.out.size))
      clear od bd Mc Dc
      go_wp2_with fail
      refine (dropFile_impl gd len Pt Tx q _ Pd.out hl HP.out HT.out hq1).mono ?_
      rintro e we ⟨ae, ne, cape, rfl, owne, be⟩
      rw [HBB.out]
      obtain rfl : ne = n5 := by rw [owne.1, N0.out]
      have Me := hidU (Md.out.later be)
      have De := hidU (Dd.out.trans (be.mono Dd.out.size))
      obtain ⟨xe, te⟩ := owne.files
      have Te := hidU te
      clear owne be te Md Dd Pd
      go_wp2_with fail
      refine (eqFileS_anyC _ _ _ _ _ _ _ _ _ _ Te.out (SH0.out.later De.out) (by omega)).mono ?_
      rintro e wf ⟨rfl, bf⟩
      have Mf := hidU (Me.out.later bf)
      have Df := hidU (De.out.trans (bf.mono De.out.size))
      clear bf Te Me De
      go_wp2_with fail
      refine (heldF_out _ w4.heap.size _ _ _ Mf.out (by omega)).mono ?_
      rintro e wg ⟨rfl, bg⟩
      have Dg := hidU (Df.out.trans (bg.mono Df.out.size))
      clear bg Mf Df
      go_wp2
      go_ret
      exact ⟨rfl, B3.out.trans (Dg.out.mono B3.out.size)⟩
    · clear hz
      go_wp2
      go_ret
      exact ⟨rfl, hb1⟩

set_option linter.unusedVariables false in
set_option maxRecDepth 100000 in
theorem lifted (os : Os) (started : os.Started) (H : Type) (enc : TypeId × Value → H) :
    ReturnsInHanded {} Try.checked os 6 .any (Rows.fnExactDropFileSpec.pre6 enc Try.prog Try.f6 Rows.fnExactDropFileRow.domain false) (Rows.fnExactDropFileSpec.post enc Try.prog Try.f6 false true false false) := by
  refine returnsInHanded_of_change (C := Try.checked) own started (by kernel_rfl) Try.func6
    (ChangeSpec.witness6 (enc := enc) (C := Try.checked) false ⟨#[], #[.slice none 0 0, .string ByteArray.empty], []⟩ 8 (by kernel_rfl) (by kernel_rfl) (by kernel_rfl) (by kernel_rfl)) ?_
  intro W base args ds gs before hval0 hW hcnd _
  have hval : ∀ (j : Nat) t v, Try.f6.params[j]? = some t → args[j]? = some v → Value.okWide Try.prog W .any base t v := hval0
  have hW' := hW
  obtain ⟨p, q, hA0, hV, rfl, hfz, hnd⟩ := hW
  have hA : DataW.TrodAll enc Try.prog W 0 (fun _ => true) true Try.f6.params.toList args.toList ds p := hA0
  rw [Try.params6] at hA hval
  obtain ⟨v0, vs0, d0, ds0, p0, q0, hargs, rfl, rfl, h0, r0⟩ := trodAll_cons hA
  obtain ⟨v1, vs1, d1, ds1, p1, q1, rfl, rfl, rfl, h1, r1⟩ := trodAll_cons r0
  obtain ⟨rfl, rfl, rfl⟩ := trodAll_nil r1
  obtain rfl : args = #[v0, v1] := by cases args; simp_all
  obtain ⟨rfl, rfl⟩ := trodVars_none hV
  obtain ⟨a0, len0, cap0, rfl⟩ := okWide_slice Try.underlying43 (hval 0 43 v0 rfl rfl)
  have k0 := h0
  have lt0 : ∀ x ∈ p0, x.block < W.heap.size := by obtain ⟨m, hm⟩ := k0; exact DataW.trod_lt m _ _ _ hm
  obtain ⟨S0, rfl, rfl, rfl, w0⟩ : ∃ S : FSrc, a0 = S.a ∧ len0 = S.len ∧ cap0 = S.cap ∧ FSrcIn S W := by
    obtain ⟨fuel, hf⟩ := h0
    exact files_open hf
  obtain ⟨a1, rfl, rfl, rfl, w1⟩ := open_string Try.underlying9 (hval 1 9 v1 rfl rfl) h1
  clear hA0 hval0
  refine (walk S0 a1 W w0 w1).mono fun e W' ⟨he, bel⟩ => ?_
  subst he
  exact ⟨_, rfl, _, _, _, [], _, [], hW', trodAll_mk1 (shut_bool Try.underlying4 _), (trodAll_cons_mk (Below.trod laidOut (by kernel_rfl) (of_decide_eq_true (by kernel_rfl)) k0 bel lt0) (trodAll_cons_mk (shut_string Try.underlying9 w1) trodAll_mk0)), rfl, bel.frame _, fun h => by cases h⟩

theorem over : Rows.fnExactDropFileRow.holds Try.pinned (OpenSpec.ofChange Rows.fnExactDropFileSpec) :=
  OpenClaim.holds_of_wide 6 Try.f6 rfl rfl rfl rfl rfl rfl rfl ⟨rfl, rfl, rfl, rfl, rfl⟩ rfl rfl rfl rfl rfl (by kernel_rfl) Try.func6 (by kernel_rfl)
    (of_decide_eq_true (by kernel_rfl)) (by unfold Func.isWrapper; first | (rw [if_pos (by decide +kernel)]; kernel_rfl) | (rw [if_neg (by decide +kernel)]; exact ⟨rfl, rfl⟩))
    (fun os started H enc _ => lifted os started H enc)
end Go.Proofs.Ytdbpknmoacjodaa.fnExactDropFile
namespace Go.Proofs.Ytdbpknmoacjodaa
theorem fnExactDropFile_holds : Rows.FnExactDropFileSaid := fnExactDropFile.over
end Go.Proofs.Ytdbpknmoacjodaa
