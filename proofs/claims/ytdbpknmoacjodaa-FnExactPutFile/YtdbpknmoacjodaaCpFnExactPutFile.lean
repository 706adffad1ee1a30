/-
  At every row of files and every file laws.FnExactPutFile returns true: impl.PutFile answers as spec.PutFile does, writes into no argument and keeps nothing of one, and its answer owns its memory; no condition.
-/
import Derived.Test.YtdbpknmoacjodaaRows
import Derived.ProofKit
import Derived.ShutString
import Derived.ChangeOld
import Derived.Test.YtdbpknmoacjodaaCpSrcFile
import Derived.Test.YtdbpknmoacjodaaCpSrcOne
import Derived.Test.YtdbpknmoacjodaaCpPutLen
import Derived.Test.YtdbpknmoacjodaaCpCopyFilesToImplPutFile
namespace Go.Proofs.Ytdbpknmoacjodaa.fnExactPutFile
open Go.ChangeShapes Go.WideShapes Go.ChangeAt Go.RowKit
open Go.ChangeMaps (open_string shut_string)

theorem own : ownKnob Try.prog.godebug = none := by kernel_rfl
theorem laidOut : laidOutB Try.prog = true := by kernel_rfl

theorem box_later {w W : World} {gx : Nat} {o : Obj} (h : w.heap[gx]? = some o) (hb : Below w.heap.size w W) : W.heap[gx]? = some o := (hb.block gx (Array.getElem?_eq_some_iff.1 h).1).trans h
theorem box_cells {w : World} {gx : Nat} {e : TypeId} {p t : ByteArray} (h : w.heap[gx]? = some (.cells #[.string p, .string t] e (0, 0))) : w.cell? ⟨gx, 0, none⟩ = some (.string p) ∧ w.cell? ⟨gx, 1, none⟩ = some (.string t) := by
  constructor <;> simp [World.cell?, h]
set_option maxRecDepth 100000 in
set_option maxHeartbeats 12800000 in
theorem walk (S : FSrc) (x : ByteArray × ByteArray) (w : World) (w0 : FSrcIn S w) (w1 : x.1.size ≤ 9223372036854775807 ∧ x.2.size ≤ 9223372036854775807) :
    Calls Try.prog 5 #[.slice S.a S.len S.cap, .agg #[.string x.1, .string x.2]] w fun e w' => e = .returned (.bool true) ∧ Below w.heap.size w w' := by
  obtain ⟨a, b, off, len, cap, Pt, Tx⟩ := S
  obtain ⟨xp, xt⟩ := x
  obtain ⟨hlen, hfa, hsz⟩ := w0
  obtain ⟨hxp, hxt⟩ := w1
  simp only at hlen hfa hsz hxp hxt ⊢
  have A0 : Hid (Below w.heap.size w (w.alloc (.cells #[.string xp, .string xt] 45))) := (Below.refl _ _).alloc (Nat.le_refl _) _
  have X0 : Hid ((w.alloc (.cells #[.string xp, .string xt] 45)).heap[w.heap.size]? = some (.cells #[.string xp, .string xt] 45 (0, 0))) := heap_alloc_new w _
  go_enter Try.func5, Try.ntmps5
  go_wp2_with fail
  refine (szFileS_at 1048576 (by omega) (by omega) a b off len cap Pt Tx _ (hfa.later A0.out) hlen (fun j hj => (hsz j hj).1) (fun j hj => (hsz j hj).2)).mono ?_
  rintro e w1 ⟨z, rfl, hz1, hz2, hz, hb1⟩
  have X1 := hidU (box_later X0.out hb1)
  have A1 := hidU (A0.out.trans (hb1.mono A0.out.size))
  clear X0 A0 hb1
  by_cases hz0 : 0 ≤ z
  · obtain ⟨hl, hsizes⟩ := hz hz0
    have HP : Hid (∀ j, j < len → (Pt j).size ≤ 1048576) := fun j hj => (hsizes j hj).1
    have HT : Hid (∀ j, j < len → (Tx j).size ≤ 1048576) := fun j hj => (hsizes j hj).2
    have HFA := hidU hfa
    clear hsz hsizes hz hfa
    obtain ⟨x1p, x1t⟩ := box_cells X1.out
    go_wp2_with fail
    refine (szFile_any xp xt z _ hxp hxt hz0 hz1).mono ?_
    rintro e w1a ⟨y, rfl, hy1, hy2, hy, hb1a⟩
    have X1a := hidU (box_later X1.out hb1a)
    have hb1 := A1.out.trans (hb1a.mono A1.out.size)
    clear X1 A1 hb1a x1p x1t
    by_cases hy0 : 0 ≤ y
    · obtain ⟨hxp1, hxt1⟩ := hy hy0
      clear hy
      have B1d := hidU hb1.drew
      have X1d := hidU (box_later X1a.out (Below.refl _ _).drew)
      obtain ⟨x1p, x1t⟩ := box_cells X1d.out
      clear hb1 X1a
      go_wp2_with fail
      go_region_held3 (fun W => W.cell? ⟨w.heap.size, 0, none⟩ = some (.string xp) ∧ W.cell? ⟨w.heap.size, 1, none⟩ = some (.string xt)) (first | exact ⟨x1p, x1t⟩ | exact x2c | exact x2d | exact x3c | go_keep) (first | (go_at_call 19; refine (toFileS_any a b off len cap Pt Tx _ (HFA.out.later B1d.out) hl).mono ?_; rintro e w2z ⟨g1, rfl, o1, hb2z⟩; have X2 := hidU (box_later X1d.out hb2z); have x2c := box_cells X2.out; obtain ⟨x2p, x2t⟩ := box_cells X2.out; have B2z := hidU (B1d.out.trans (hb2z.mono B1d.out.size)); have F1z := hidU o1.files; clear o1 hb2z) | (go_at_call 20; refine (toFile_any xp xt _).mono ?_; rintro e w2 ⟨rfl, hb2⟩; have X2y := hidU (box_later X2.out hb2); have x2d := box_cells X2y.out; have B2 := hidU (B2z.out.trans (hb2.mono B2z.out.size)); have F1 := hidU (F1z.out.later hb2); clear hb2) | (go_at_call 18; refine (putFile_spec g1 len Pt Tx xp xt _ F1.out hl HP.out HT.out hxp1 hxt1).mono ?_; rintro e w3 ⟨g0, n0, cap0, rfl, own0, hb3⟩; have B3 := hidU (B2.out.trans (hb3.mono B2.out.size)); have X3 := hidU (box_later X2y.out hb3); have x3c := box_cells X3.out))
      clear x1p x1t x2c x2d x3c x2p x2t X2 X2y F1z F1 B1d B2z B2 X1d hb3
      have hn : n0 ≤ 1048576 := by rw [own0.2]; exact putS_len len Pt Tx (xp, xt) hl
      have SH0 := hidU (ownFl_files own0)
      have N0 := hidU own0.2
      obtain ⟨bb, hbb⟩ : ∃ bb, (putS len Pt Tx (xp, xt)).2 = bb := ⟨_, rfl⟩
      rw [hbb]
      have HBB := hidU hbb
      have hsame : (!(bb == bb)) = false := by cases bb <;> rfl
      have hsame' : (bb == bb) = true := by cases bb <;> rfl
      clear own0 hbb
      go_wp2_with fail
      refine (toFileS_any a b off len cap Pt Tx _ (HFA.out.later B3.out) hl).mono ?_
      rintro e w4z ⟨g2, rfl, o2z, b4z⟩
      have O2z := hidU o2z
      have D4z := hidU b4z
      clear o2z b4z
      obtain ⟨x4p, x4t⟩ := box_cells (box_later X3.out D4z.out)
      go_wp2_with fail
      refine (toFile_any xp xt _).mono ?_
      rintro e w4 ⟨rfl, b4⟩
      have O2 := hidU (O2z.out.later b4)
      have D4 := hidU (D4z.out.trans (b4.mono D4z.out.size))
      clear b4 x4p x4t O2z D4z
      go_wp2_with fail
      refine (putFile_impl g2 len Pt Tx xp xt _ O2.out.files hl HP.out HT.out hxp1 hxt1).mono ?_
      rintro e w5 ⟨a5, n5, cap5, rfl, own5, b5⟩
      rw [HBB.out]
      obtain rfl : n5 = n0 := by rw [own5.1, N0.out]
      have G5 := hidU own5
      have O5 := hidU (O2.out.later b5)
      have X4 := hidU (ownF_blk O2.out)
      have D5 := hidU (D4.out.trans (b5.mono D4.out.size))
      have E5 := hidU b5
      obtain ⟨x5, t5⟩ := own5.files
      have T5 := hidU t5
      clear own5 b5 t5 O2
      go_wp2_with fail
      refine (eqFileS_anyC _ _ _ _ _ _ _ _ _ _ T5.out (SH0.out.later D5.out) (by omega)).mono ?_
      rintro e w6 ⟨rfl, b6⟩
      have G6 := hidU (G5.out.later b6)
      have O6 := hidU (O5.out.later b6)
      have D6 := hidU (D5.out.trans (b6.mono D5.out.size))
      have E6 := hidU (E5.out.trans (b6.mono E5.out.size))
      clear b6 T5 G5 O5 D5 E5
      go_wp2_with fail
      refine (toFileS_any a b off len cap Pt Tx _ (HFA.out.later (B3.out.trans (D6.out.mono B3.out.size))) hl).mono ?_
      rintro e w7 ⟨g7, rfl, o7, b7⟩
      have P7 := hidU o7.files
      have G7 := hidU (G6.out.later b7)
      have O7 := hidU (O6.out.later b7)
      have D7 := hidU (D6.out.trans (b7.mono D6.out.size))
      have E7 := hidU (E6.out.trans (b7.mono E6.out.size))
      clear o7 b7 G6 O6 D6 E6
      go_wp2_with fail
      refine (eqFileS_any g2 g7 len Pt Tx _ O7.out.files P7.out hl).mono ?_
      rintro e w8 ⟨rfl, b8⟩
      have G8 := hidU (G7.out.later b8)
      have O8 := hidU (O7.out.later b8)
      have D8 := hidU (D7.out.trans (b8.mono D7.out.size))
      have E8 := hidU (E7.out.trans (b8.mono E7.out.size))
      clear b8 P7 G7 O7 D7 E7
      have qk : decide (((1 + len * 2 : Nat) : Int) < 0) = false := decide_eq_false (by omega)
      go_wp2_with fail
      refine (markF_arg _ w3.heap.size g2 len Pt Tx O8.out hl).mono ?_
      rintro e w9 ⟨rfl, k9⟩
      have G9 := hidU (G8.out.aside k9 X4.out.2)
      have D9 := hidU (D8.out.trans (gm_under k9 X4.out.1 D8.out.size))
      have Z9 := hidU (show w4.heap.size ≤ w9.heap.size from Nat.le_trans E8.out.size k9.size)
      clear k9 G8 O8 D8 E8
      obtain ⟨x9, t9⟩ := G9.out.files
      have T9 := hidU t9
      clear t9
      go_wp2_with fail
      refine (eqFileS_anyC _ _ _ _ _ _ _ _ _ _ T9.out (SH0.out.later D9.out) (by omega)).mono ?_
      rintro e wa ⟨rfl, ba⟩
      have Ga := hidU (G9.out.later ba)
      have Da := hidU (D9.out.trans (ba.mono D9.out.size))
      have Za := hidU (Nat.le_trans Z9.out ba.size)
      have W34 : Hid (w3.heap.size ≤ w4.heap.size) := D4.out.size
      clear ba T9 G9 D9 Z9
      go_wp2_with fail
      refine (markF_out _ w4.heap.size _ _ _ _ Ga.out Za.out (by omega)).mono ?_
      rintro e wb ⟨rfl, mb, bb4⟩
      have Mb := hidU mb
      have Db := hidU (Da.out.trans (bb4.mono W34.out))
      clear mb bb4 Ga Da Za
      go_wp2_with fail
      refine (heldF_out _ w4.heap.size _ _ _ Mb.out (by omega)).mono ?_
      rintro e wc ⟨rfl, bc⟩
      have Mc := hidU (Mb.out.later bc)
      have Dc := hidU (Db.out.trans (bc.mono Db.out.size))
      have q1 : decide (((1 + n5 * 2 : Nat) : Int) < 0) = false := decide_eq_false (by omega)
      clear bc Mb Db
      have Dcd := hidU Dc.out.drew
      have Mcd := hidU (Mc.out.later (Below.refl _ _).drew)
      have xdc := box_cells (box_later X3.out Dcd.out)
      obtain ⟨xcp, xct⟩ := box_cells (box_later X3.out Dcd.out)
      clear Mc Dc
      go_wp2_with fail
      go_region_held3 (fun W => W.cell? ⟨w.heap.size, 0, none⟩ = some (.string xp) ∧ W.cell? ⟨w.heap.size, 1, none⟩ = some (.string xt)) (first | exact xdc | exact xdz | exact xdy | exact xdx | go_keep) (first | (go_at_call 19; refine (toFileS_any a b off len cap Pt Tx _ (HFA.out.later (B3.out.trans (Dcd.out.mono B3.out.size))) hl).mono ?_; rintro e wdz ⟨gd, rfl, od, bdz⟩; have Pdz := hidU od.files; have Mdz := hidU (Mcd.out.later bdz); have Ddz := hidU (Dcd.out.trans (bdz.mono Dcd.out.size)); have xdz := box_cells (box_later X3.out Ddz.out); obtain ⟨xdp, xdt⟩ := box_cells (box_later X3.out Ddz.out); clear od bdz) | (go_at_call 20; refine (toFile_any xp xt _).mono ?_; rintro e wd ⟨rfl, bd⟩; have Pd := hidU (Pdz.out.later bd); have Md := hidU (Mdz.out.later bd); have Dd := hidU (Ddz.out.trans (bd.mono Ddz.out.size)); have xdy := box_cells (box_later X3.out Dd.out); clear bd) | (go_at_call 21; refine (putFile_impl gd len Pt Tx xp xt _ Pd.out hl HP.out HT.out hxp1 hxt1).mono ?_; rintro e we ⟨ae, ne, cape, rfl, owne, be⟩; rw [HBB.out]; have xdx := box_cells (box_later X3.out (Dd.out.trans (be.mono Dd.out.size)))))
      clear xdc xdz xdy xdx xdp xdt xcp xct Mcd Dcd Pdz Mdz Ddz
      obtain rfl : ne = n5 := by rw [owne.1, N0.out]
      have Me := hidU (Md.out.later be)
      have De := hidU (Dd.out.trans (be.mono Dd.out.size))
      obtain ⟨xe, te⟩ := owne.files
      have Te := hidU te
      clear owne be te Md Dd Pd
      go_wp2_with fail
      refine (eqFileS_anyC _ _ _ _ _ _ _ _ _ _ Te.out (SH0.out.later De.out) (by omega)).mono ?_
      rintro e wf ⟨rfl, bf⟩
      have Mf := hidU (Me.out.later bf)
      have Df := hidU (De.out.trans (bf.mono De.out.size))
      clear bf Te Me De
      go_wp2_with fail
      refine (heldF_out _ w4.heap.size _ _ _ Mf.out (by omega)).mono ?_
      rintro e wg ⟨rfl, bg⟩
      have Dg := hidU (Df.out.trans (bg.mono Df.out.size))
      clear bg Mf Df
      go_wp2
      go_ret
      exact ⟨rfl, B3.out.trans (Dg.out.mono B3.out.size)⟩
    · clear hy
      go_wp2
      go_ret
      exact ⟨rfl, hb1⟩
  · clear hz
    go_wp2
    go_ret
    exact ⟨rfl, A1.out⟩

set_option linter.unusedVariables false in
set_option maxRecDepth 100000 in
theorem lifted (os : Os) (started : os.Started) (H : Type) (enc : TypeId × Value → H) :
    ReturnsInHanded {} Try.checked os 5 .any (Rows.fnExactPutFileSpec.pre6 enc Try.prog Try.f5 Rows.fnExactPutFileRow.domain false) (Rows.fnExactPutFileSpec.post enc Try.prog Try.f5 false true false false) := by
  refine returnsInHanded_of_change (C := Try.checked) own started (by kernel_rfl) Try.func5
    (ChangeSpec.witness6 (enc := enc) (C := Try.checked) false ⟨#[], #[.slice none 0 0, .agg #[.string ByteArray.empty, .string ByteArray.empty]], []⟩ 8 (by kernel_rfl) (by kernel_rfl) (by kernel_rfl) (by kernel_rfl)) ?_
  intro W base args ds gs before hval0 hW hcnd _
  have hval : ∀ (j : Nat) t v, Try.f5.params[j]? = some t → args[j]? = some v → Value.okWide Try.prog W .any base t v := hval0
  have hW' := hW
  obtain ⟨p, q, hA0, hV, rfl, hfz, hnd⟩ := hW
  have hA : DataW.TrodAll enc Try.prog W 0 (fun _ => true) true Try.f5.params.toList args.toList ds p := hA0
  rw [Try.params5] at hA hval
  obtain ⟨v0, vs0, d0, ds0, p0, q0, hargs, rfl, rfl, h0, r0⟩ := trodAll_cons hA
  obtain ⟨v1, vs1, d1, ds1, p1, q1, rfl, rfl, rfl, h1, r1⟩ := trodAll_cons r0
  obtain ⟨rfl, rfl, rfl⟩ := trodAll_nil r1
  obtain rfl : args = #[v0, v1] := by cases args; simp_all
  obtain ⟨rfl, rfl⟩ := trodVars_none hV
  obtain ⟨a0, len0, cap0, rfl⟩ := okWide_slice Try.underlying43 (hval 0 43 v0 rfl rfl)
  have k0 := h0
  have lt0 : ∀ x ∈ p0, x.block < W.heap.size := by obtain ⟨m, hm⟩ := k0; exact DataW.trod_lt m _ _ _ hm
  obtain ⟨S0, rfl, rfl, rfl, w0⟩ : ∃ S : FSrc, a0 = S.a ∧ len0 = S.len ∧ cap0 = S.cap ∧ FSrcIn S W := by
    obtain ⟨fuel, hf⟩ := h0
    exact files_open hf
  obtain ⟨cs1, rfl, _⟩ := okWide_struct Try.underlying45 (hval 1 45 v1 rfl rfl)
  have k1 := h1
  have lt1 : ∀ x ∈ p1, x.block < W.heap.size := by obtain ⟨m, hm⟩ := k1; exact DataW.trod_lt m _ _ _ hm
  obtain ⟨a1, rfl, w1⟩ : ∃ x : ByteArray × ByteArray, cs1 = #[.string x.1, .string x.2] ∧ x.1.size ≤ 9223372036854775807 ∧ x.2.size ≤ 9223372036854775807 := by
    obtain ⟨fuel, hf⟩ := h1
    obtain ⟨p, t, e, h⟩ := file_open hf
    exact ⟨(p, t), Array.toList_inj.1 e, h⟩
  clear hA0 hval0
  refine (walk S0 a1 W w0 w1).mono fun e W' ⟨he, bel⟩ => ?_
  subst he
  exact ⟨_, rfl, _, _, _, [], _, [], hW', trodAll_mk1 (shut_bool Try.underlying4 _), (trodAll_cons_mk (Below.trod laidOut (by kernel_rfl) (of_decide_eq_true (by kernel_rfl)) k0 bel lt0) (trodAll_cons_mk (Below.trod laidOut (by kernel_rfl) (of_decide_eq_true (by kernel_rfl)) k1 bel lt1) trodAll_mk0)), rfl, bel.frame _, fun h => by cases h⟩

theorem over : Rows.fnExactPutFileRow.holds Try.pinned (OpenSpec.ofChange Rows.fnExactPutFileSpec) :=
  OpenClaim.holds_of_wide 5 Try.f5 rfl rfl rfl rfl rfl rfl rfl ⟨rfl, rfl, rfl, rfl, rfl⟩ rfl rfl rfl rfl rfl (by kernel_rfl) Try.func5 (by kernel_rfl)
    (of_decide_eq_true (by kernel_rfl)) (by unfold Func.isWrapper; first | (rw [if_pos (by decide +kernel)]; kernel_rfl) | (rw [if_neg (by decide +kernel)]; exact ⟨rfl, rfl⟩))
    (fun os started H enc _ => lifted os started H enc)
end Go.Proofs.Ytdbpknmoacjodaa.fnExactPutFile
namespace Go.Proofs.Ytdbpknmoacjodaa
theorem fnExactPutFile_holds : Rows.FnExactPutFileSaid := fnExactPutFile.over
end Go.Proofs.Ytdbpknmoacjodaa
