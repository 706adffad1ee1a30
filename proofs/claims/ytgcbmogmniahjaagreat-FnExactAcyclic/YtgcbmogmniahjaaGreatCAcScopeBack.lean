/-
 A goto back to a label. No program is spoken of.
-/
import Derived.ScopeJumps
import Derived.WalkKit
namespace Go.Proofs.YtgcbmogmniahjaaGreat
open Go.RowKit
theorem zmV {P:Program} {a:Act} {w:World} {Q:Exit→Act→World→Prop} {c rest:Code} (l:Nat) (J:Act→World→Prop) (μ:Act→World→Nat) (H:findLabel c l=some (Code.skip.seq rest))
  (q: ∀a w,J a w→rest.wp P (Exit.jump l (fun A w'=>J A w'∧μ A w'<μ a w) Q) a w) (first:(∀a w,J a w→rest.wp P (Exit.jump l J Q) a w)→c.wp P (Exit.jump l J Q) a w):(Code.scope c).wp P Q a w:=by
 refine wp_scope_jumps l J μ H (first fun a w h=>wp_mono (q a w h) ?_) (fun a w h=>wp_seq (wp_skip (q a w h)))
 intro e A w' z
 cases e with
 |goto K=>exact⟨z.1,z.2.1⟩
 |normal=>exact z
 |exit I=>exact z
 |ret=>exact z
 |panic L=>exact z
 |outgrown=>exact z
end Go.Proofs.YtgcbmogmniahjaaGreat