/-
 The closed facts of the row of laws.FnExactGraphOk,in a text of their own.
-/
import Derived.Test.YtgcbmogmniahjaaGreatRows
import Derived.ProofKit
import Derived.JoinedOf
import Derived.KernelRfl
namespace Go.Proofs.YtgcbmogmniahjaaGreat
theorem zmI:joinedFacts Tryz.checked.prog 3 Tryz.f3 Rows.fnExactGraphOkSpec Rows.fnExactGraphOkRow=true:=by kernel_rfl
end Go.Proofs.YtgcbmogmniahjaaGreat