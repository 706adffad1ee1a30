/-
  At every code laws.FnFiles returns true: files are read from the text that they are shown as, and no other text is read; what is put is found, what is dropped is not, all others stay; what has changed is just what is told; no condition.
-/
import Derived.Test.YtdbpknmoacjodaaRows
import Derived.ProofKit
import Derived.ShutString
import Derived.ChangeOld
import Derived.Test.YtdbpknmoacjodaaCfFilesLawW
import Derived.Test.YtdbpknmoacjodaaCfImplShow
import Derived.Test.YtdbpknmoacjodaaCfEqlFile
namespace Go.Proofs.Ytdbpknmoacjodaa.fnFiles
open Go.ChangeShapes Go.WideShapes Go.ChangeAt Go.RowKit
open Go.ChangeMaps (open_string shut_string)

theorem own : ownKnob Try.prog.godebug = none := by kernel_rfl
theorem laidOut : laidOutB Try.prog = true := by kernel_rfl

theorem imgC : ImgC where
  shw := fun a b len cap Pt Tx w h1 h2 h3 h4 => showFiles_implA a b len cap Pt Tx w h1 h2 h3 h4
  rd := fun s w h => readFiles_impl s w h
  pt := fun g len cap Pt Tx x w h1 h0 h2 h3 h4 h5 h6 => putFile_implC g len cap Pt Tx x.1 x.2 w h1 h0 h2 h3 h4 h5 h6
  fnd := fun g len cap Pt Tx q w h1 h2 h3 h4 _ => find_implC g len cap Pt Tx q w h1 h2 h3 h4
  drp := fun g len cap Pt Tx q w h1 h2 h3 h4 h5 => dropFile_implC g len cap Pt Tx q w h1 h2 h3 h4 h5
  chg := fun g1 l1 c1 P1 T1 g2 l2 c2 P2 T2 w h1 h2 h3 h4 h5 h6 h7 h8 => changed_implC g1 l1 c1 P1 T1 g2 l2 c2 P2 T2 w h1 h2 h3 h4 h5 h6 h7 h8
set_option maxRecDepth 100000 in
theorem walk (S : Src) (w : World) (w0 : SrcIn S w) :
    Calls Try.prog 7 #[.slice S.a S.len S.cap] w fun e w' => e = .returned (.bool true) ∧ Below w.heap.size w w' := by
  by_cases hb : S.len ≤ 1048576
  · exact fnFiles_any imgC S ⟨hb, w0.2.1⟩ w w0.2.2.1 (Nat.le_of_eq w0.2.2.2.1) w0.2.2.2.2
  · have hbig : decide ((1048576 : Int) < S.len) = true := by simp; omega
    have hlen := w0.1
    go_enter Try.func7, Try.ntmps7
    go_wp2_with fail
    refine (big_any _ _ _ _ hlen).mono ?_
    rintro e w' ⟨rfl, rfl⟩
    go_wp2
    go_ret
    exact ⟨rfl, Below.refl _ _⟩

set_option linter.unusedVariables false in
set_option maxRecDepth 100000 in
theorem lifted (os : Os) (started : os.Started) (H : Type) (enc : TypeId × Value → H) :
    ReturnsInHanded {} Try.checked os 7 .any (Rows.fnFilesSpec.pre6 enc Try.prog Try.f7 Rows.fnFilesRow.domain false) (Rows.fnFilesSpec.post enc Try.prog Try.f7 false true false false) := by
  refine returnsInHanded_of_change (C := Try.checked) own started (by kernel_rfl) Try.func7
    (ChangeSpec.witness6 (enc := enc) (C := Try.checked) false ⟨#[], #[.slice none 0 0], []⟩ 8 (by kernel_rfl) (by kernel_rfl) (by kernel_rfl) (by kernel_rfl)) ?_
  intro W base args ds gs before hval0 hW hcnd _
  have hval : ∀ (j : Nat) t v, Try.f7.params[j]? = some t → args[j]? = some v → Value.okWide Try.prog W .any base t v := hval0
  have hW' := hW
  obtain ⟨p, q, hA0, hV, rfl, hfz, hnd⟩ := hW
  have hA : DataW.TrodAll enc Try.prog W 0 (fun _ => true) true Try.f7.params.toList args.toList ds p := hA0
  rw [Try.params7] at hA hval
  obtain ⟨v0, vs0, d0, ds0, p0, q0, hargs, rfl, rfl, h0, r0⟩ := trodAll_cons hA
  obtain ⟨rfl, rfl, rfl⟩ := trodAll_nil r0
  obtain rfl : args = #[v0] := by cases args; simp_all
  obtain ⟨rfl, rfl⟩ := trodVars_none hV
  obtain ⟨a0, len0, cap0, rfl⟩ := okWide_slice Try.underlying59 (hval 0 59 v0 rfl rfl)
  have k0 := h0
  have lt0 : ∀ x ∈ p0, x.block < W.heap.size := by obtain ⟨m, hm⟩ := k0; exact DataW.trod_lt m _ _ _ hm
  obtain ⟨S, rfl, rfl, rfl, w0⟩ : ∃ S : Src, a0 = S.a ∧ len0 = S.len ∧ cap0 = S.cap ∧ SrcIn S W := by
    obtain ⟨fuel, hf⟩ := h0
    rcases open_ints Try.underlying59 Try.underlying5 (by kernel_rfl) hf with ⟨hcs, _⟩ | ⟨x, l, c, zs, hcs, _, hl, hm, hz, _, hcell, hwz⟩
    · simp [Value.cells] at hcs
      obtain ⟨rfl, rfl, rfl⟩ := hcs
      exact ⟨⟨none, 0, 0, fun _ => 0, W.heap.size⟩, rfl, rfl, rfl, src_nil W⟩
    · simp [Value.cells] at hcs
      obtain ⟨rfl, rfl, rfl⟩ := hcs
      exact ⟨⟨some x, len0, cap0, fun j => zs.getD j 0, W.heap.size⟩, rfl, rfl, rfl, src_row hl hm (by simpa using hz) hcell hwz⟩
  clear hA0 hval0
  refine (walk S W w0).mono fun e W' ⟨he, bel⟩ => ?_
  subst he
  exact ⟨_, rfl, _, _, _, [], _, [], hW', trodAll_mk1 (shut_bool Try.underlying4 _), (trodAll_cons_mk (Below.trod laidOut (by kernel_rfl) (of_decide_eq_true (by kernel_rfl)) k0 bel lt0) trodAll_mk0), rfl, bel.frame _, fun h => by cases h⟩

theorem over : Rows.fnFilesRow.holds Try.pinned (OpenSpec.ofChange Rows.fnFilesSpec) :=
  OpenClaim.holds_of_wide 7 Try.f7 rfl rfl rfl rfl rfl rfl rfl ⟨rfl, rfl, rfl, rfl, rfl⟩ rfl rfl rfl rfl rfl (by kernel_rfl) Try.func7 (by kernel_rfl)
    (of_decide_eq_true (by kernel_rfl)) (by unfold Func.isWrapper; first | (rw [if_pos (by decide +kernel)]; kernel_rfl) | (rw [if_neg (by decide +kernel)]; exact ⟨rfl, rfl⟩))
    (fun os started H enc _ => lifted os started H enc)
end Go.Proofs.Ytdbpknmoacjodaa.fnFiles
namespace Go.Proofs.Ytdbpknmoacjodaa
theorem fnFiles_holds : Rows.FnFilesSaid := fnFiles.over
end Go.Proofs.Ytdbpknmoacjodaa
