/- Facts and walks that the theorem stands on. -/
import Derived.Test.YtgcbmogmniahjaaGreatRows
import Derived.ProofKit
import Derived.JoinedOf
namespace Go.Proofs.YtgcbmogmniahjaaGreat
theorem znj:joinedFacts Tryz.checked.prog 4 Tryz.f4 Rows.fnExactAcyclicSpec Rows.fnExactAcyclicRow=true:=by kernel_rfl
end Go.Proofs.YtgcbmogmniahjaaGreat
