/- Facts. -/
import Derived.Test.YtegdaafmaookjaaGreatRows
import Derived.ProofKit
import Derived.JoinedOf
namespace Go.Proofs.YtegdaafmaookjaaGreat
theorem zz6:joinedFacts Tryz.checked.prog 8 Tryz.f8 Rows.fnExactLayerSpec Rows.fnExactLayerRow=true:=by kernel_rfl
