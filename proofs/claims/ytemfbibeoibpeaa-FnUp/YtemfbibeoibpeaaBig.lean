/-
  What laws.big answers: the walk.
-/
import Derived.Test.YtemfbibeoibpeaaProg
import Derived.WalkLawsBesides
import Derived.Test.YtemfbibeoibpeaaAid
namespace Go.Proofs.Ytemfbibeoibpeaa
open Go.RowKit Go.PlainAid

theorem big_any (a : Option Addr) (len cap : Nat) (w : World) (_ : len ≤ 9223372036854775807) :
    Calls Try.prog 8 #[.slice a len cap] w fun e w' => e = .returned (.bool (decide ((1048576 : Int) < len))) ∧ w' = w := by
  go_enter Try.func8, Try.ntmps8
  go_wp2
  go_ret
  exact ⟨rfl, rfl⟩
end Go.Proofs.Ytemfbibeoibpeaa
