/-
 The closed facts of the row of laws.FnExactGraphOk,in a text of their own.
-/
import Derived.Test.YtcidlffeeninbaaGreatRows
import Derived.ProofKit
import Derived.JoinedOf
import Derived.KernelRfl
namespace Go.Proofs.YtcidlffeeninbaaGreat
theorem zmx:joinedFacts Tryz.checked.prog 3 Tryz.f3 Rows.fnExactGraphOkSpec Rows.fnExactGraphOkRow=true:=by kernel_rfl
end Go.Proofs.YtcidlffeeninbaaGreat