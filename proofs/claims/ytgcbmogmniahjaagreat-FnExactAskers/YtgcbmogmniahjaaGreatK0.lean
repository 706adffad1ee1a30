/- Facts and walks. -/
import Derived.Test.YtgcbmogmniahjaaGreatRows
import Derived.ProofKit
import Derived.JoinedOf
namespace Go.Proofs.YtgcbmogmniahjaaGreat
theorem zn5:joinedFacts Tryz.checked.prog 6 Tryz.f6 Rows.fnExactAskersSpec Rows.fnExactAskersRow=true:=by kernel_rfl
end Go.Proofs.YtgcbmogmniahjaaGreat
