/-
  What room of impl's parser answers where there is none; addExpr, addImp whole: the walks.
  What addExp of impl's parser answers: the walks.
-/
import Derived.RegionDies
import Derived.Test.YtdbpknmoacjodaaCfImplParseEToImplParseG
namespace Go.Proofs.Ytdbpknmoacjodaa
open Go.RowKit Go.PlainAid Go.Sort

end Go.Proofs.Ytdbpknmoacjodaa
namespace Go.Proofs.Ytdbpknmoacjodaa
open Go.RowKit Go.PlainAid Go.Sort

theorem world_anyI {P : Program} {code : Code} {Q : Exit → Act → World → Prop} {a : Act} {w0 : World} {R : World → Prop} (h0 : R w0) (h : ∀ W, R W → Code.wp P code Q a W) : Code.wp P code Q a w0 := h w0 h0
theorem ep_ones (x : Ep) : ∀ u ∈ epL x, u.oneCell' = true := by
  intro u hu
  simp [epL] at hu
  rcases hu with rfl | rfl | rfl | rfl <;> rfl
theorem IS.grownI {gp : Nat} {S S' : Sv} {w w1 w' : World} (h : Below w.heap.size w w1) (k : IS gp S w1 S' w') : IS gp S w S' w' := (IS.below h).trans k

end Go.Proofs.Ytdbpknmoacjodaa
