/- Facts. -/
import Derived.Test.YtegdaafmaookjaaGreatRows
import Derived.ProofKit
import Derived.JoinedOf
namespace Go.Proofs.YtegdaafmaookjaaGreat
theorem zzx:joinedFacts Tryz.checked.prog 6 Tryz.f6 Rows.fnExactAskersSpec Rows.fnExactAskersRow=true:=by kernel_rfl
