/- Facts. -/
import Derived.Test.YtegdaafmaookjaaGreatRows
import Derived.ProofKit
import Derived.JoinedOf
namespace Go.Proofs.YtegdaafmaookjaaGreat
theorem zzk:joinedFacts Tryz.checked.prog 4 Tryz.f4 Rows.fnExactAcyclicSpec Rows.fnExactAcyclicRow=true:=by kernel_rfl
