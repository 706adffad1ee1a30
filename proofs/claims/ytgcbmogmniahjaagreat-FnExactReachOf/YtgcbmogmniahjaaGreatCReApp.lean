/-
 'b = append(b,x)' and 'b = append(b,x,y)' of bytes onto a row of the call's own: laws at the operation. No program is spoken of.
-/
import Derived.Test.YtgcbmogmniahjaaGreatCReAidToTreeMath
import Derived.Deep.RegionLaw
namespace Go.Proofs.YtgcbmogmniahjaaGreat
open Go.RowKit Go.PlainAid
theorem zh8 {w:World} {base n:Nat} {e:TypeId} {size:Nat} {v:Value} {xs:List Value} (h:w.ownsRow base e size v n xs): ∀k,v.ownBlock=some k→base≤k:=by
 intro k q
 rcases h.2 with ⟨rfl,_⟩|⟨g,A,z,rfl,D,_⟩
 ·simp[Value.ownBlock] at q
 ·simp only[Value.ownBlock,Option.some.injEq] at q
  omega
end Go.Proofs.YtgcbmogmniahjaaGreat