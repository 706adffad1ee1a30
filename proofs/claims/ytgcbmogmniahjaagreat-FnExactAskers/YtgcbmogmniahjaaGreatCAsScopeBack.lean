/-
 A goto back to a label. No program is spoken of.
-/
import Derived.ScopeJumps
import Derived.WalkKit
namespace Go.Proofs.YtgcbmogmniahjaaGreat
open Go.RowKit
theorem znj {P:Program} {a:Act} {w:World} {Q:Exit→Act→World→Prop} {c rest:Code} (l:Nat) (J:Act→World→Prop) (μ:Act→World→Nat) (E:findLabel c l=some (Code.skip.seq rest))
  (q: ∀a w,J a w→rest.wp P (Exit.jump l (fun D A=>J D A∧μ D A<μ a w) Q) a w) (first:(∀a w,J a w→rest.wp P (Exit.jump l J Q) a w)→c.wp P (Exit.jump l J Q) a w):(Code.scope c).wp P Q a w:=by
 refine wp_scope_jumps l J μ E (first fun a w h=>wp_mono (q a w h) ?_) (fun a w h=>wp_seq (wp_skip (q a w h)))
 intro e D A z
 cases e with
 |goto I=>exact⟨z.1,z.2.1⟩
 |normal=>exact z
 |exit H=>exact z
 |ret=>exact z
 |panic K=>exact z
 |outgrown=>exact z
end Go.Proofs.YtgcbmogmniahjaaGreat