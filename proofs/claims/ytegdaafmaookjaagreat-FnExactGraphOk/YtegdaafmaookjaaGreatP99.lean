/- Facts. -/
import Derived.Test.YtegdaafmaookjaaGreatRows
import Derived.ProofKit
import Derived.JoinedOf
namespace Go.Proofs.YtegdaafmaookjaaGreat
theorem zzj:joinedFacts Tryz.checked.prog 3 Tryz.f3 Rows.fnExactGraphOkSpec Rows.fnExactGraphOkRow=true:=by kernel_rfl
