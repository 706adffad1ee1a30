/-
  What impl.DropFile answers: the walk.
-/
import Derived.Test.YtjofmbgacmdpeaaDeleteF
namespace Go.Proofs.Ytjofmbgacmdpeaa
open Go.RowKit Go.PlainAid Go.Sort

set_option maxRecDepth 100000 in
set_option maxHeartbeats 1600000 in
theorem dropFile_implC (g len cap : Nat) (Pt Tx : Nat → ByteArray) (q : ByteArray) (w : World) (hf : FilesAt w (some ⟨g, 0, none⟩) g 0 len Pt Tx) (hl : len ≤ 1048576) (hp : ∀ j, j < len → (Pt j).size ≤ 1048576) (ht : ∀ j, j < len → (Tx j).size ≤ 1048576) (_ : q.size ≤ 1048576) :
    Calls Try.prog 21 #[.slice (some ⟨g, 0, none⟩) len cap, .string q] w fun e w' => ∃ a n c, e = .returned (.tuple #[.slice a n c, .bool (dropS len Pt Tx q).2]) ∧ OutF w' w.heap.size a n c (dropS len Pt Tx q).1 ∧ Below w.heap.size w w' := by
  have X0 : Hid ((w.alloc (.cells #[.string q] 9)).heap[w.heap.size]? = some (.cells #[.string q] 9 (0, 0))) := heap_alloc_new w _
  have A0 : Hid (Below w.heap.size w (w.alloc (.cells #[.string q] 9))) := (Below.refl _ _).alloc (Nat.le_refl _) _
  have HF := hidU hf
  have HP := hidU hp
  have HT := hidU ht
  clear hf hp ht
  cases hfb : filesB len Pt Tx with
  | false =>
    have HV : Hid (dropS len Pt Tx q = ([], false)) := by show dropS len Pt Tx q = _; rw [dropS, hfb]; rfl
    go_enter Try.func21, Try.ntmps21
    go_wp2_with fail
    refine (filesOk_implA _ g len cap Pt Tx _ (HF.out.later A0.out) hl HP.out HT.out).mono ?_
    rintro e w1 ⟨rfl, hb1⟩
    rw [hfb]
    have B1 := hidU (A0.out.trans (hb1.mono A0.out.size))
    clear hb1
    go_wp2
    go_ret2
    exact ⟨none, 0, 0, by rw [HV.out]; rfl, by rw [HV.out]; exact OutF.nil _ _ _ _, B1.out⟩
  | true =>
    have hl8 : len ≤ 8 := (filesB_iff.1 hfb).1
    have HV : Hid (dropS len Pt Tx q = (dropL (flsOf len Pt Tx) q, decide ((dropL (flsOf len Pt Tx) q).length < len))) := by show dropS len Pt Tx q = _; rw [dropS, hfb]; rfl
    go_enter Try.func21, Try.ntmps21
    go_wp2_with fail
    refine (filesOk_implA _ g len cap Pt Tx _ (HF.out.later A0.out) hl HP.out HT.out).mono ?_
    rintro e w1 ⟨rfl, hb1⟩
    rw [hfb]
    have B1 := hidU (A0.out.trans (hb1.mono A0.out.size))
    have X1 := hidU (boxF2_later X0.out hb1)
    clear hb1 X0 A0
    go_wp2_with fail
    refine (copyFiles_any _ g len cap Pt Tx _ (HF.out.later B1.out) (by omega) HP.out HT.out).mono ?_
    rintro e w2 ⟨g2, cap2, rfl, ho2, hb2⟩
    have B2 := hidU (B1.out.trans (hb2.mono B1.out.size))
    have X2 := hidU (boxF2_later X1.out hb2)
    have hne : Hid (w.heap.size ≠ g2) := by
      have h1 := (Array.getElem?_eq_some_iff.1 X1.out).1
      have h2 := (ownFl_blk ho2).1
      show _ ≠ _
      omega
    have O2 := hidU (ownFl_low ho2 B1.out.size)
    clear hb2 ho2 X1
    go_wp2_with fail
    refine (deleteF_any w.heap.size g2 len cap2 w.heap.size _ q _ O2.out X2.out hne.out B2.out.size (by omega)).mono ?_
    rintro e w3 ⟨m, rfl, ho3, hb3⟩
    have O3 := hidU ho3
    have B3 := hidU (B2.out.trans hb3)
    have HM : Hid (dropS len Pt Tx q = (dropL (flsOf len Pt Tx) q, decide (m < len))) := by
      show _ = _
      rw [HV.out, ho3.2]
    clear ho3 hb3 O2 X2 hne HV
    go_wp2
    go_ret2
    exact ⟨_, m, cap2, by rw [HM.out]; rfl, by rw [HM.out]; exact OutF.own O3.out, B3.out⟩
theorem dropFile_impl (g len : Nat) (Pt Tx : Nat → ByteArray) (q : ByteArray) (w : World) (hf : FilesAt w (some ⟨g, 0, none⟩) g 0 len Pt Tx) (hl : len ≤ 1048576) (hp : ∀ j, j < len → (Pt j).size ≤ 1048576) (ht : ∀ j, j < len → (Tx j).size ≤ 1048576) (hq : q.size ≤ 1048576) :
    Calls Try.prog 21 #[.slice (some ⟨g, 0, none⟩) len len, .string q] w fun e w' => ∃ a n c, e = .returned (.tuple #[.slice a n c, .bool (dropS len Pt Tx q).2]) ∧ OutF w' w.heap.size a n c (dropS len Pt Tx q).1 ∧ Below w.heap.size w w' := dropFile_implC g len len Pt Tx q w hf hl hp ht hq
end Go.Proofs.Ytjofmbgacmdpeaa
