/- Facts and walks. -/
import Derived.WalkKit
import Derived.ScopeJumps
namespace Go.Proofs.YtgcbmogmniahjaaGreat
open Go.RowKit
def Leaves (J:Nat->Act->World->Prop) (Q:Exit->Act->World->Prop):Exit->Act->World->Prop
 | .goto l,a,w=>J l a w
 |e,a,w=>Q e a w
theorem Leaves.mono {J q:Nat->Act->World->Prop} {Q:Exit->Act->World->Prop} (h: ∀l a w,J l a w->q l a w): ∀e a w,Leaves J Q e a w->Leaves q Q e a w:=by
 intro e a w k;cases e with
 |goto l=>exact h l a w k
 |normal=>exact k
 |exit A=>exact k
 |ret=>exact k
 |panic z=>exact k
 |outgrown=>exact k
theorem zvn {P:Program} {a:Act} {w:World} {Q:Exit->Act->World->Prop} {c:Code} (J:Nat->Act->World->Prop) (μ:Nat->Act->World->Nat)
  (M: ∀l a w,J l a w->(∀q z D A,findLabel c q=some (Code.skip.seq z)->J q D A->μ q D A<μ l a w->z.wp P (Leaves (fun Y L X=>J Y L X/\μ Y L X<μ l a w) Q) D A)->
   ∃rest,findLabel c l=some (Code.skip.seq rest)/\rest.wp P (Leaves (fun q D A=>J q D A/\μ q D A<μ l a w) Q) a w)
  (first:(∀l rest a w,findLabel c l=some (Code.skip.seq rest)->J l a w->rest.wp P (Leaves J Q) a w)->c.wp P (Leaves J Q) a w):(Code.scope c).wp P Q a w:=by
 have N: ∀n l a w,μ l a w=n->J l a w->∃rest,findLabel c l=some (Code.skip.seq rest)/\rest.wp P (Leaves (fun q D A=>J q D A/\μ q D A<μ l a w) Q) a w:=by
  intro n
  induction n using Nat.strongRecOn with
  |_ n ih=>
   intro l a w hn V;refine M l a w V fun q z D A U E aa=>?_;obtain⟨r,H,O⟩:=ih _ (by omega) q D A rfl E;rw[U] at H;simp only[Option.some.injEq,Code.seq.injEq,true_and] at H;subst H;exact wp_mono O (Leaves.mono fun l2 a2 w2 h=>⟨h.1,by omega⟩)
 have I:=first fun l rest a w U V=>by
  obtain⟨r,H,O⟩:=N _ l a w rfl V;rw[U] at H;simp only[Option.some.injEq,Code.seq.injEq,true_and] at H;subst H;exact wp_mono O (Leaves.mono fun l2 a2 w2 h=>h.1)
 intro b k Z;have K: ∀n l a w,μ l a w=n->J l a w->∃rest,findLabel c l=some rest/\∃e D A,Q e D A/\Arrives P (lone (b.at a (.code rest:: .inScope c::k)) Z w) b k Z e D A:=by
  intro n
  induction n using Nat.strongRecOn with
  |_ n ih=>
   intro l a w hn V;obtain⟨rest,U,O⟩:=N _ l a w rfl V;refine⟨_,U,?_⟩;obtain⟨e,a₁,w₁,hq,harr⟩:=(wp_seq (wp_skip O):(Code.skip.seq rest).wp P _ a w) b (.inScope c::k) Z;cases e with
   |normal=>exact⟨.normal,a₁,w₁,hq,Steps.trans harr (.one step_inScope)⟩
   |exit id=>exact⟨.exit id,a₁,w₁,hq,fun k' hk=>harr k' (by simp[exitTo,hk])⟩
   |goto q=>
    obtain⟨E,aa⟩:=hq;obtain⟨r2,hf2,e₂,a₂,w₂,hq₂,harr₂⟩:=ih _ (by omega) q a₁ w₁ rfl E;exact⟨e₂,a₂,w₂,hq₂,.of_steps (harr _ (by simp[gotoIn,hf2])) harr₂⟩
   |ret=>exact⟨_,a₁,w₁,hq,harr⟩
   |panic ch=>exact⟨_,a₁,w₁,hq,harr⟩
   |outgrown=>exact⟨_,a₁,w₁,hq,harr⟩
 obtain⟨e,a₁,w₁,hq,harr⟩:=I b (.inScope c::k) Z;cases e with
 |normal=>exact⟨.normal,a₁,w₁,hq,.head step_scope (Steps.trans harr (.one step_inScope))⟩
 |exit id=>exact⟨.exit id,a₁,w₁,hq,fun k' hk=>.head step_scope (harr k' (by simp[exitTo,hk]))⟩
 |goto q=>
  obtain⟨r2,hf2,e₂,a₂,w₂,hq₂,harr₂⟩:=K _ q a₁ w₁ rfl hq;exact⟨e₂,a₂,w₂,hq₂,.of_steps (.head step_scope (harr _ (by simp[gotoIn,hf2]))) harr₂⟩
 |ret=>exact⟨_,a₁,w₁,hq,.of_steps (.one step_scope) harr⟩
 |panic ch=>exact⟨_,a₁,w₁,hq,.of_steps (.one step_scope) harr⟩
 |outgrown=>exact⟨_,a₁,w₁,hq,.of_steps (.one step_scope) harr⟩
end Go.Proofs.YtgcbmogmniahjaaGreat
namespace Go.Proofs.YtgcbmogmniahjaaGreat
open Go.RowKit
theorem znj {P:Program} {a:Act} {w:World} {Q:Exit->Act->World->Prop} {c rest:Code} (l:Nat) (J:Act->World->Prop) (μ:Act->World->Nat) (E:findLabel c l=some (Code.skip.seq rest))
  (q: ∀a w,J a w->rest.wp P (Exit.jump l (fun D A=>J D A/\μ D A<μ a w) Q) a w) (first:(∀a w,J a w->rest.wp P (Exit.jump l J Q) a w)->c.wp P (Exit.jump l J Q) a w):(Code.scope c).wp P Q a w:=by
 refine wp_scope_jumps l J μ E (first fun a w h=>wp_mono (q a w h) ?_) (fun a w h=>wp_seq (wp_skip (q a w h)));intro e D A z;cases e with
 |goto I=>exact⟨z.1,z.2.1⟩
 |normal=>exact z
 |exit H=>exact z
 |ret=>exact z
 |panic K=>exact z
 |outgrown=>exact z
end Go.Proofs.YtgcbmogmniahjaaGreat
