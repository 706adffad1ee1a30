/-
 The closed facts of the row of laws.FnParse,in a text of their own.
-/
import Derived.Test.YthfeoomfiafldaaGreatRows
import Derived.ProofKit
import Derived.JoinedOf
import Derived.KernelRfl
namespace Go.Proofs.YthfeoomfiafldaaGreat
theorem zmN:joinedFacts Tryz.checked.prog 3 Tryz.f3 Rows.fnParseSpec Rows.fnParseRow=true:=by kernel_rfl
end Go.Proofs.YthfeoomfiafldaaGreat