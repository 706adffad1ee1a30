/-
 'b = append(b,x)' and 'b = append(b,x,y)' of bytes onto a row of the call's own: laws at the operation. No program is spoken of.
-/
import Derived.Test.YticdggnnpjachaaGreatCcStr
import Derived.Deep.RegionLaw
namespace Go.Proofs.YticdggnnpjachaaGreat
open Go.RowKit Go.PlainAid
theorem zgN {w:World} {j n:Nat} {e:TypeId} {size:Nat} {v:Value} {xs:List Value} (h:w.ownsRow j e size v n xs): ∀k,v.ownBlock=some k→j≤k:=by
 intro k o
 rcases h.2 with ⟨rfl,_⟩|⟨g,z,q,rfl,A,_⟩
 ·simp[Value.ownBlock] at o
 ·simp only[Value.ownBlock,Option.some.injEq] at o
  omega
end Go.Proofs.YticdggnnpjachaaGreat