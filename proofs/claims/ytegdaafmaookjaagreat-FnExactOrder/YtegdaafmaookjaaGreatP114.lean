/- Facts. -/
import Derived.Test.YtegdaafmaookjaaGreatRows
import Derived.ProofKit
import Derived.JoinedOf
namespace Go.Proofs.YtegdaafmaookjaaGreat
theorem zz1:joinedFacts Tryz.checked.prog 7 Tryz.f7 Rows.fnExactOrderSpec Rows.fnExactOrderRow=true:=by kernel_rfl
