/-
  The row of the type byte.
  What spec.l1In answers.
-/
import Derived.Test.YtaakfnclelcopaaProg
import Derived.WalkLawsBesides
import Derived.Test.YtaakfnclelcopaaCTrimAidToTreeMath
namespace Go.Proofs.Ytaakfnclelcopaa
open Go.RowKit Go.PlainAid

theorem Try.infoByte : (Try.prog.info? 5).map (fun i => (i.zero, i.size, i.bytes)) = some (some (.int .u8 0), 1, 1) := by kernel_rfl
end Go.Proofs.Ytaakfnclelcopaa
namespace Go.Proofs.Ytaakfnclelcopaa
open Go.RowKit Go.PlainAid

end Go.Proofs.Ytaakfnclelcopaa
