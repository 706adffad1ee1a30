/-
  How texts and the elements of a program lie in their cells. No program is spoken of.
-/
import Derived.Test.YtdbpknmoacjodaaCfRowG
import Derived.Test.YtdbpknmoacjodaaCfImplParseJToMdMem
namespace Go.Proofs.Ytdbpknmoacjodaa
open Go.RowKit

def stE : Enc ByteArray := ⟨fun s => [.string s], 1, fun _ => rfl, by decide, by simp [Value.oneCell']⟩
def imE : Enc Im := ⟨imL, 3, fun _ => rfl, by decide, by simp [Value.oneCell', imL]⟩
def epE : Enc Ep := ⟨epL, 4, fun _ => rfl, by decide, by simp [Value.oneCell', epL]⟩
def smE : Enc Sm := ⟨smL, 3, fun _ => rfl, by decide, by simp [Value.oneCell', smL]⟩
def exE : Enc Ex := ⟨exL, 6, fun _ => rfl, by decide, by simp [Value.oneCell', exL]⟩
theorem st_flat (l : List ByteArray) : l.flatMap stE.f = l.map Value.string := by
  induction l with
  | nil => rfl
  | cons x l ih => rw [List.flatMap_cons, ih]; rfl
end Go.Proofs.Ytdbpknmoacjodaa
