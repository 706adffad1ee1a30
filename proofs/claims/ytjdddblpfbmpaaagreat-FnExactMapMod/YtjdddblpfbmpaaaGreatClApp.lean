/-
 'b = append(b,x)' and 'b = append(b,x,y)' of bytes onto a row of the call's own: laws at the operation. No program is spoken of.
-/
import Derived.Test.YtjdddblpfbmpaaaGreatClAidToTreeMath
import Derived.Deep.RegionLaw
namespace Go.Proofs.YtjdddblpfbmpaaaGreat
open Go.RowKit Go.PlainAid
theorem ziy {w:World} {j n:Nat} {e:TypeId} {size:Nat} {v:Value} {xs:List Value} (h:w.ownsRow j e size v n xs): ∀k,v.ownBlock=some k→j≤k:=by
 intro k z
 rcases h.2 with ⟨rfl,_⟩|⟨g,H,A,rfl,I,_⟩
 ·simp[Value.ownBlock] at z
 ·simp only[Value.ownBlock,Option.some.injEq] at z
  omega
end Go.Proofs.YtjdddblpfbmpaaaGreat