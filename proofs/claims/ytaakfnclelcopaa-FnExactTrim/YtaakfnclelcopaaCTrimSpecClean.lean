/-
  What spec.l2Path and spec.Clean answer, at every text: the walks.
-/
import Derived.Test.YtaakfnclelcopaaCTrimLawBaseToRowStr
import Derived.Test.YtaakfnclelcopaaCTrimInByteToIn
namespace Go.Proofs.Ytaakfnclelcopaa
open Go.RowKit Go.PlainAid

theorem Try.infoStr : (Try.prog.info? 9).map (fun i => (i.zero, i.size, i.bytes)) = some (some (.string { data := #[] }), 1, 16) := by kernel_rfl

theorem size_lit1 (c : UInt8) : ({ data := #[c] } : ByteArray).size = 1 := rfl

end Go.Proofs.Ytaakfnclelcopaa
