/-
 The closed facts of the row of laws.FnExactAcyclic,in a text of their own.
-/
import Derived.Test.YtgcbmogmniahjaaGreatRows
import Derived.ProofKit
import Derived.JoinedOf
import Derived.KernelRfl
namespace Go.Proofs.YtgcbmogmniahjaaGreat
theorem znj:joinedFacts Tryz.checked.prog 4 Tryz.f4 Rows.fnExactAcyclicSpec Rows.fnExactAcyclicRow=true:=by kernel_rfl
end Go.Proofs.YtgcbmogmniahjaaGreat