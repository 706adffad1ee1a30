/- Facts. -/
import Derived.WalkKit
import Derived.ScopeJumps
namespace Go.Proofs.YtegdaafmaookjaaGreat
open Go.RowKit
def Leaves (J:Nat->Act->World->Prop) (Q:Exit->Act->World->Prop):Exit->Act->World->Prop
 | .goto l,a,w=>J l a w
 |e,a,w=>Q e a w
theorem Leaves.mono {J q:Nat->Act->World->Prop} {Q:Exit->Act->World->Prop} (h: ∀l a w,J l a w->q l a w): ∀e a w,Leaves J Q e a w->Leaves q Q e a w:=by
 intro e a w k;cases e with
 |goto l=>exact h l a w k
 |normal=>exact k
 |exit H=>exact k
 |ret=>exact k
 |panic A=>exact k
 |outgrown=>exact k
theorem zwV {P:Program} {a:Act} {w:World} {Q:Exit->Act->World->Prop} {c:Code} (J:Nat->Act->World->Prop) (μ:Nat->Act->World->Nat)
  (O: ∀l a w,J l a w->(∀q A H w',findLabel c q=some (Code.skip.seq A)->J q H w'->μ q H w'<μ l a w->A.wp P (Leaves (fun aa N Z=>J aa N Z/\μ aa N Z<μ l a w) Q) H w')->
   ∃rest,findLabel c l=some (Code.skip.seq rest)/\rest.wp P (Leaves (fun q H w'=>J q H w'/\μ q H w'<μ l a w) Q) a w)
  (first:(∀l rest a w,findLabel c l=some (Code.skip.seq rest)->J l a w->rest.wp P (Leaves J Q) a w)->c.wp P (Leaves J Q) a w):(Code.scope c).wp P Q a w:=by
 have U: ∀n l a w,μ l a w=n->J l a w->∃rest,findLabel c l=some (Code.skip.seq rest)/\rest.wp P (Leaves (fun q H w'=>J q H w'/\μ q H w'<μ l a w) Q) a w:=by
  intro n
  induction n using Nat.strongRecOn with
  |_ n ih=>
   intro l a w hn Y;refine O l a w Y fun q A H w' X I ab=>?_;obtain⟨r,K,V⟩:=ih _ (by omega) q H w' rfl I;rw[X] at K;simp only[Option.some.injEq,Code.seq.injEq,true_and] at K;subst K;exact wp_mono V (Leaves.mono fun l2 a2 w2 h=>⟨h.1,by omega⟩)
 have L:=first fun l rest a w X Y=>by
  obtain⟨r,K,V⟩:=U _ l a w rfl Y;rw[X] at K;simp only[Option.some.injEq,Code.seq.injEq,true_and] at K;subst K;exact wp_mono V (Leaves.mono fun l2 a2 w2 h=>h.1)
 intro b k cs;have M: ∀n l a w,μ l a w=n->J l a w->∃rest,findLabel c l=some rest/\∃e H w',Q e H w'/\Arrives P (lone (b.at a (.code rest:: .inScope c::k)) cs w) b k cs e H w':=by
  intro n
  induction n using Nat.strongRecOn with
  |_ n ih=>
   intro l a w hn Y;obtain⟨rest,X,V⟩:=U _ l a w rfl Y;refine⟨_,X,?_⟩;obtain⟨e,a₁,w₁,hq,harr⟩:=(wp_seq (wp_skip V):(Code.skip.seq rest).wp P _ a w) b (.inScope c::k) cs;cases e with
   |normal=>exact⟨.normal,a₁,w₁,hq,Steps.trans harr (.one step_inScope)⟩
   |exit id=>exact⟨.exit id,a₁,w₁,hq,fun k' hk=>harr k' (by simp[exitTo,hk])⟩
   |goto q=>
    obtain⟨I,ab⟩:=hq;obtain⟨r2,hf2,e₂,a₂,w₂,hq₂,harr₂⟩:=ih _ (by omega) q a₁ w₁ rfl I;exact⟨e₂,a₂,w₂,hq₂,.of_steps (harr _ (by simp[gotoIn,hf2])) harr₂⟩
   |ret=>exact⟨_,a₁,w₁,hq,harr⟩
   |panic ch=>exact⟨_,a₁,w₁,hq,harr⟩
   |outgrown=>exact⟨_,a₁,w₁,hq,harr⟩
 obtain⟨e,a₁,w₁,hq,harr⟩:=L b (.inScope c::k) cs;cases e with
 |normal=>exact⟨.normal,a₁,w₁,hq,.head step_scope (Steps.trans harr (.one step_inScope))⟩
 |exit id=>exact⟨.exit id,a₁,w₁,hq,fun k' hk=>.head step_scope (harr k' (by simp[exitTo,hk]))⟩
 |goto q=>
  obtain⟨r2,hf2,e₂,a₂,w₂,hq₂,harr₂⟩:=M _ q a₁ w₁ rfl hq;exact⟨e₂,a₂,w₂,hq₂,.of_steps (.head step_scope (harr _ (by simp[gotoIn,hf2]))) harr₂⟩
 |ret=>exact⟨_,a₁,w₁,hq,.of_steps (.one step_scope) harr⟩
 |panic ch=>exact⟨_,a₁,w₁,hq,.of_steps (.one step_scope) harr⟩
 |outgrown=>exact⟨_,a₁,w₁,hq,.of_steps (.one step_scope) harr⟩
theorem zoj {P:Program} {a:Act} {w:World} {Q:Exit->Act->World->Prop} {c rest:Code} (l:Nat) (J:Act->World->Prop) (μ:Act->World->Nat) (I:findLabel c l=some (Code.skip.seq rest))
  (q: ∀a w,J a w->rest.wp P (Exit.jump l (fun H w'=>J H w'/\μ H w'<μ a w) Q) a w) (first:(∀a w,J a w->rest.wp P (Exit.jump l J Q) a w)->c.wp P (Exit.jump l J Q) a w):(Code.scope c).wp P Q a w:=by
 refine wp_scope_jumps l J μ I (first fun a w h=>wp_mono (q a w h) ?_) (fun a w h=>wp_seq (wp_skip (q a w h)));intro e H w' A;cases e with
 |goto L=>exact⟨A.1,A.2.1⟩
 |normal=>exact A
 |exit K=>exact A
 |ret=>exact A
 |panic M=>exact A
 |outgrown=>exact A
