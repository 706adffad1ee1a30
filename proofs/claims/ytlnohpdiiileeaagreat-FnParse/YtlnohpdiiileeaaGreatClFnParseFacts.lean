/-
 The closed facts of the row of laws.FnParse,in a text of their own.
-/
import Derived.Test.YtlnohpdiiileeaaGreatRows
import Derived.ProofKit
import Derived.JoinedOf
import Derived.KernelRfl
namespace Go.Proofs.YtlnohpdiiileeaaGreat
theorem zbal:joinedFacts Tryz.checked.prog 10 Tryz.f10 Rows.fnParseSpec Rows.fnParseRow=true:=by kernel_rfl
end Go.Proofs.YtlnohpdiiileeaaGreat