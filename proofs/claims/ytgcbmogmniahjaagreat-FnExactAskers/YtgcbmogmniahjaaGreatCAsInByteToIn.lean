/-
  The row of the type byte.
  What spec.l1In answers.
-/
import Derived.Test.YtgcbmogmniahjaaGreatCAsEqModToCountMath
namespace Go.Proofs.YtgcbmogmniahjaaGreat
open Go.RowKit Go.PlainAid
theorem zfs (a b c:Int) (w:World):
  Calls Tryz.prog 25 #[.int .i64 a,.int .i64 b,.int .i64 c] w fun e q=>e= .returned (.bool (inB a b c))∧q=w:=by
 by_cases h:b≤a
 ·by_cases z:a≤c
  ·go_enter Tryz.func25,Tryz.ntmps25
   go_wp2
   go_ret
   exact⟨zi (zjq h z).symm,rfl⟩
  ·go_enter Tryz.func25,Tryz.ntmps25
   go_wp2
   go_ret
   exact⟨zi (zhw (by omega)).symm,rfl⟩
 ·go_enter Tryz.func25,Tryz.ntmps25
  go_wp2
  go_ret
  exact⟨zi (zhw (by omega)).symm,rfl⟩
end Go.Proofs.YtgcbmogmniahjaaGreat
