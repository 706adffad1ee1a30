/-
  What impl.MapSpec answers, with the model's != of rules.
-/
import Derived.Test.YtllhnofobkgjgaaImplMapA
import Derived.Test.YtllhnofobkgjgaaNeqRule
namespace Go.Proofs.Ytllhnofobkgjgaa
open Go.RowKit Go.PlainAid Go.Sort

theorem mapSpec_implA (a : Option Addr) (g len cap : Nat) (Pt Tx : Nat → ByteArray) (s : ByteArray) (w : World) (hf : FilesAt w a g 0 len Pt Tx) (hl : len ≤ 1048576) (hp : ∀ j, j < len → (Pt j).size ≤ 1048576) (ht : ∀ j, j < len → (Tx j).size ≤ 1048576) (hs : s.size ≤ 1048576) :
    Calls Try.prog 11 #[.slice a len cap, .string s] w fun e w' => e = .returned (.string (mapS len Pt Tx s)) ∧ Below w.heap.size w w' := mapSpec_with neqRl grdRl a g len cap Pt Tx s w hf hl hp ht hs
theorem mapSpec_impl (g len cap : Nat) (Pt Tx : Nat → ByteArray) (s : ByteArray) (w : World) (hf : FilesAt w (some ⟨g, 0, none⟩) g 0 len Pt Tx) (hl : len ≤ 1048576) (hp : ∀ j, j < len → (Pt j).size ≤ 1048576) (ht : ∀ j, j < len → (Tx j).size ≤ 1048576) (hs : s.size ≤ 1048576) :
    Calls Try.prog 11 #[.slice (some ⟨g, 0, none⟩) len cap, .string s] w fun e w' => e = .returned (.string (mapS len Pt Tx s)) ∧ Below w.heap.size w w' := mapSpec_implA _ g len cap Pt Tx s w hf hl hp ht hs
end Go.Proofs.Ytllhnofobkgjgaa
