/-
  What spec.l6In answers of a row of texts of the call's own: the walk.
  What spec.l8Put answers: the walk.
-/
import Derived.Test.YtgcbmogmniahjaaGreatCGrRowStrToLessMath
import Derived.Test.YtgcbmogmniahjaaGreatCGrSpecClean
namespace Go.Proofs.YtgcbmogmniahjaaGreat
open Go.RowKit Go.PlainAid
end Go.Proofs.YtgcbmogmniahjaaGreat
