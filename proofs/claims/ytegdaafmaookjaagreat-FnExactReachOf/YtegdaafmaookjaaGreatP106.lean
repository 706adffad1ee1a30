/- Facts. -/
import Derived.Test.YtegdaafmaookjaaGreatRows
import Derived.ProofKit
import Derived.JoinedOf
namespace Go.Proofs.YtegdaafmaookjaaGreat
theorem zzt:joinedFacts Tryz.checked.prog 5 Tryz.f5 Rows.fnExactReachOfSpec Rows.fnExactReachOfRow=true:=by kernel_rfl
