/- Facts and walks. -/
import Derived.Test.YtgcbmogmniahjaaGreatRows
import Derived.ProofKit
import Derived.JoinedOf
namespace Go.Proofs.YtgcbmogmniahjaaGreat
theorem zn5:joinedFacts Tryz.checked.prog 5 Tryz.f5 Rows.fnExactReachOfSpec Rows.fnExactReachOfRow=true:=by kernel_rfl
end Go.Proofs.YtgcbmogmniahjaaGreat
