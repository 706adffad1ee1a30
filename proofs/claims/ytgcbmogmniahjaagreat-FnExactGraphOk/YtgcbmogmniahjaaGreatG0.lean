/- Facts and walks that the theorem stands on. -/
import Derived.Test.YtgcbmogmniahjaaGreatRows
import Derived.ProofKit
import Derived.JoinedOf
namespace Go.Proofs.YtgcbmogmniahjaaGreat
theorem zmI:joinedFacts Tryz.checked.prog 3 Tryz.f3 Rows.fnExactGraphOkSpec Rows.fnExactGraphOkRow=true:=by kernel_rfl
end Go.Proofs.YtgcbmogmniahjaaGreat
