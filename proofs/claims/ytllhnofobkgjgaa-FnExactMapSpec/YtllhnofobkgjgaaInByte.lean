/-
  The row of the type byte.
-/
import Derived.Test.YtllhnofobkgjgaaProg
import Derived.WalkLawsBesides
import Derived.Test.YtllhnofobkgjgaaAid
namespace Go.Proofs.Ytllhnofobkgjgaa
open Go.RowKit Go.PlainAid

theorem Try.infoByte : (Try.prog.info? 5).map (fun i => (i.zero, i.size, i.bytes)) = some (some (.int .u8 0), 1, 1) := by kernel_rfl
end Go.Proofs.Ytllhnofobkgjgaa
