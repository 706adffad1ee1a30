/- Facts. -/
import Derived.Test.YtegdaafmaookjaaGreatRows
import Derived.ProofKit
import Derived.JoinedOf
namespace Go.Proofs.YtegdaafmaookjaaGreat
theorem zzD:joinedFacts Tryz.checked.prog 9 Tryz.f9 Rows.fnExactTogetherSpec Rows.fnExactTogetherRow=true:=by kernel_rfl
