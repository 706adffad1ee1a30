/-
  What impl.Changed answers, with the model's == of files.
-/
import Derived.Test.YtjofmbgacmdpeaaCfEqlFile
namespace Go.Proofs.Ytjofmbgacmdpeaa
open Go.RowKit Go.PlainAid Go.Sort

theorem changed_implC (g1 l1 c1 : Nat) (P1 T1 : Nat → ByteArray) (g2 l2 c2 : Nat) (P2 T2 : Nat → ByteArray) (w : World) (hf1 : FilesAt w (some ⟨g1, 0, none⟩) g1 0 l1 P1 T1) (hf2 : FilesAt w (some ⟨g2, 0, none⟩) g2 0 l2 P2 T2) (hl1 : l1 ≤ 1048576) (hl2 : l2 ≤ 1048576) (hp1 : ∀ j, j < l1 → (P1 j).size ≤ 1048576) (ht1 : ∀ j, j < l1 → (T1 j).size ≤ 1048576) (hp2 : ∀ j, j < l2 → (P2 j).size ≤ 1048576) (ht2 : ∀ j, j < l2 → (T2 j).size ≤ 1048576) :
    Calls Try.prog 22 #[.slice (some ⟨g1, 0, none⟩) l1 c1, .slice (some ⟨g2, 0, none⟩) l2 c2] w fun e w' => ∃ a n c, e = .returned (.slice a n c) ∧ OutS w' w.heap.size a n c (changedS l1 P1 T1 l2 P2 T2) ∧ Below w.heap.size w w' :=
  changed_with eqlFl grdEq g1 l1 c1 P1 T1 g2 l2 c2 P2 T2 w hf1 hf2 hl1 hl2 hp1 ht1 hp2 ht2
theorem changed_impl (g1 l1 : Nat) (P1 T1 : Nat → ByteArray) (g2 l2 : Nat) (P2 T2 : Nat → ByteArray) (w : World) (hf1 : FilesAt w (some ⟨g1, 0, none⟩) g1 0 l1 P1 T1) (hf2 : FilesAt w (some ⟨g2, 0, none⟩) g2 0 l2 P2 T2) (hl1 : l1 ≤ 1048576) (hl2 : l2 ≤ 1048576) (hp1 : ∀ j, j < l1 → (P1 j).size ≤ 1048576) (ht1 : ∀ j, j < l1 → (T1 j).size ≤ 1048576) (hp2 : ∀ j, j < l2 → (P2 j).size ≤ 1048576) (ht2 : ∀ j, j < l2 → (T2 j).size ≤ 1048576) :
    Calls Try.prog 22 #[.slice (some ⟨g1, 0, none⟩) l1 l1, .slice (some ⟨g2, 0, none⟩) l2 l2] w fun e w' => ∃ a n c, e = .returned (.slice a n c) ∧ OutS w' w.heap.size a n c (changedS l1 P1 T1 l2 P2 T2) ∧ Below w.heap.size w w' :=
  changed_implC g1 l1 l1 P1 T1 g2 l2 l2 P2 T2 w hf1 hf2 hl1 hl2 hp1 ht1 hp2 ht2
end Go.Proofs.Ytjofmbgacmdpeaa
