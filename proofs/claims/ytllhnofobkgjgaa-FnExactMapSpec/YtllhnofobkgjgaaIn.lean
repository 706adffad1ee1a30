/-
  What spec.l1In answers.
-/
import Derived.Test.YtllhnofobkgjgaaInByte
namespace Go.Proofs.Ytllhnofobkgjgaa
open Go.RowKit Go.PlainAid

end Go.Proofs.Ytllhnofobkgjgaa
