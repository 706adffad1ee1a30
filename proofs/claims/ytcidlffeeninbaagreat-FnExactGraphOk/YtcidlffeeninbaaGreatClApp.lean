/-
 'b = append(b,x)' and 'b = append(b,x,y)' of bytes onto a row of the call's own: laws at the operation. No program is spoken of.
-/
import Derived.Test.YtcidlffeeninbaaGreatClAidToTreeMath
import Derived.Deep.RegionLaw
namespace Go.Proofs.YtcidlffeeninbaaGreat
open Go.RowKit Go.PlainAid
theorem zhc {w:World} {q n:Nat} {e:TypeId} {size:Nat} {v:Value} {xs:List Value} (h:w.ownsRow q e size v n xs): ∀k,v.ownBlock=some k→q≤k:=by
 intro k z
 rcases h.2 with ⟨rfl,_⟩|⟨g,D,A,rfl,E,_⟩
 ·simp[Value.ownBlock] at z
 ·simp only[Value.ownBlock,Option.some.injEq] at z
  omega
end Go.Proofs.YtcidlffeeninbaaGreat