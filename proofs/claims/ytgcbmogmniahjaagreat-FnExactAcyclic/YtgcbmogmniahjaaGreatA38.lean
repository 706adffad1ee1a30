/- Facts and walks that the theorem stands on. -/
import Derived.WalkKit
import Derived.ScopeJumps
namespace Go.Proofs.YtgcbmogmniahjaaGreat
open Go.RowKit
def Leaves (J:Nat->Act->World->Prop) (Q:Exit->Act->World->Prop):Exit->Act->World->Prop
 | .goto l,a,w=>J l a w
 |e,a,w=>Q e a w
theorem Leaves.mono {J q:Nat->Act->World->Prop} {Q:Exit->Act->World->Prop} (h: ∀l a w,J l a w->q l a w): ∀e a w,Leaves J Q e a w->Leaves q Q e a w:=by
 intro e a w k;cases e with
 |goto l=>exact h l a w k
 |normal=>exact k
 |exit A=>exact k
 |ret=>exact k
 |panic z=>exact k
 |outgrown=>exact k
theorem zuR {P:Program} {a:Act} {w:World} {Q:Exit->Act->World->Prop} {c:Code} (J:Nat->Act->World->Prop) (μ:Nat->Act->World->Nat)
  (N: ∀l a w,J l a w->(∀q z A w',findLabel c q=some (Code.skip.seq z)->J q A w'->μ q A w'<μ l a w->z.wp P (Leaves (fun Z M Y=>J Z M Y/\μ Z M Y<μ l a w) Q) A w')->
   ∃rest,findLabel c l=some (Code.skip.seq rest)/\rest.wp P (Leaves (fun q A w'=>J q A w'/\μ q A w'<μ l a w) Q) a w)
  (first:(∀l rest a w,findLabel c l=some (Code.skip.seq rest)->J l a w->rest.wp P (Leaves J Q) a w)->c.wp P (Leaves J Q) a w):(Code.scope c).wp P Q a w:=by
 have O: ∀n l a w,μ l a w=n->J l a w->∃rest,findLabel c l=some (Code.skip.seq rest)/\rest.wp P (Leaves (fun q A w'=>J q A w'/\μ q A w'<μ l a w) Q) a w:=by
  intro n
  induction n using Nat.strongRecOn with
  |_ n ih=>
   intro l a w hn X;refine N l a w X fun q z A w' V H aa=>?_;obtain⟨r,I,U⟩:=ih _ (by omega) q A w' rfl H;rw[V] at I;simp only[Option.some.injEq,Code.seq.injEq,true_and] at I;subst I;exact wp_mono U (Leaves.mono fun l2 a2 w2 h=>⟨h.1,by omega⟩)
 have K:=first fun l rest a w V X=>by
  obtain⟨r,I,U⟩:=O _ l a w rfl X;rw[V] at I;simp only[Option.some.injEq,Code.seq.injEq,true_and] at I;subst I;exact wp_mono U (Leaves.mono fun l2 a2 w2 h=>h.1)
 intro b k cs;have L: ∀n l a w,μ l a w=n->J l a w->∃rest,findLabel c l=some rest/\∃e A w',Q e A w'/\Arrives P (lone (b.at a (.code rest:: .inScope c::k)) cs w) b k cs e A w':=by
  intro n
  induction n using Nat.strongRecOn with
  |_ n ih=>
   intro l a w hn X;obtain⟨rest,V,U⟩:=O _ l a w rfl X;refine⟨_,V,?_⟩;obtain⟨e,a₁,w₁,hq,harr⟩:=(wp_seq (wp_skip U):(Code.skip.seq rest).wp P _ a w) b (.inScope c::k) cs;cases e with
   |normal=>exact⟨.normal,a₁,w₁,hq,Steps.trans harr (.one step_inScope)⟩
   |exit id=>exact⟨.exit id,a₁,w₁,hq,fun k' hk=>harr k' (by simp[exitTo,hk])⟩
   |goto q=>
    obtain⟨H,aa⟩:=hq;obtain⟨r2,hf2,e₂,a₂,w₂,hq₂,harr₂⟩:=ih _ (by omega) q a₁ w₁ rfl H;exact⟨e₂,a₂,w₂,hq₂,.of_steps (harr _ (by simp[gotoIn,hf2])) harr₂⟩
   |ret=>exact⟨_,a₁,w₁,hq,harr⟩
   |panic ch=>exact⟨_,a₁,w₁,hq,harr⟩
   |outgrown=>exact⟨_,a₁,w₁,hq,harr⟩
 obtain⟨e,a₁,w₁,hq,harr⟩:=K b (.inScope c::k) cs;cases e with
 |normal=>exact⟨.normal,a₁,w₁,hq,.head step_scope (Steps.trans harr (.one step_inScope))⟩
 |exit id=>exact⟨.exit id,a₁,w₁,hq,fun k' hk=>.head step_scope (harr k' (by simp[exitTo,hk]))⟩
 |goto q=>
  obtain⟨r2,hf2,e₂,a₂,w₂,hq₂,harr₂⟩:=L _ q a₁ w₁ rfl hq;exact⟨e₂,a₂,w₂,hq₂,.of_steps (.head step_scope (harr _ (by simp[gotoIn,hf2]))) harr₂⟩
 |ret=>exact⟨_,a₁,w₁,hq,.of_steps (.one step_scope) harr⟩
 |panic ch=>exact⟨_,a₁,w₁,hq,.of_steps (.one step_scope) harr⟩
 |outgrown=>exact⟨_,a₁,w₁,hq,.of_steps (.one step_scope) harr⟩
end Go.Proofs.YtgcbmogmniahjaaGreat
namespace Go.Proofs.YtgcbmogmniahjaaGreat
open Go.RowKit
theorem zmV {P:Program} {a:Act} {w:World} {Q:Exit->Act->World->Prop} {c rest:Code} (l:Nat) (J:Act->World->Prop) (μ:Act->World->Nat) (H:findLabel c l=some (Code.skip.seq rest))
  (q: ∀a w,J a w->rest.wp P (Exit.jump l (fun A w'=>J A w'/\μ A w'<μ a w) Q) a w) (first:(∀a w,J a w->rest.wp P (Exit.jump l J Q) a w)->c.wp P (Exit.jump l J Q) a w):(Code.scope c).wp P Q a w:=by
 refine wp_scope_jumps l J μ H (first fun a w h=>wp_mono (q a w h) ?_) (fun a w h=>wp_seq (wp_skip (q a w h)));intro e A w' z;cases e with
 |goto K=>exact⟨z.1,z.2.1⟩
 |normal=>exact z
 |exit I=>exact z
 |ret=>exact z
 |panic L=>exact z
 |outgrown=>exact z
end Go.Proofs.YtgcbmogmniahjaaGreat
