/-
 A scope with several labels,between which the run jumps: what holds at each label,and a measure that falls from each jump to the next one. No program is spoken of.
-/
import Derived.WalkKit
import Derived.ScopeJumps
namespace Go.Proofs.YticdggnnpjachaaGreat
open Go.RowKit
def Leaves (J:Nat→Act→World→Prop) (Q:Exit→Act→World→Prop):Exit→Act→World→Prop
 | .goto l,a,w=>J l a w
 |e,a,w=>Q e a w
theorem Leaves.mono {J j:Nat→Act→World→Prop} {Q:Exit→Act→World→Prop} (h: ∀l a w,J l a w→j l a w): ∀e a w,Leaves J Q e a w→Leaves j Q e a w:=by
 intro e a w k
 cases e with
 |goto l=>exact h l a w k
 |normal=>exact k
 |exit n=>exact k
 |ret=>exact k
 |panic o=>exact k
 |outgrown=>exact k
theorem zrh {P:Program} {a:Act} {w:World} {Q:Exit→Act→World→Prop} {c:Code} (J:Nat→Act→World→Prop) (μ:Nat→Act→World→Nat)
  (O: ∀l a w,J l a w→(∀j o z q,findLabel c j=some (Code.skip.seq o)→J j z q→μ j z q<μ l a w→o.wp P (Leaves (fun L I K=>J L I K∧μ L I K<μ l a w) Q) z q)→
   ∃rest,findLabel c l=some (Code.skip.seq rest)∧rest.wp P (Leaves (fun j z q=>J j z q∧μ j z q<μ l a w) Q) a w)
  (first:(∀l rest a w,findLabel c l=some (Code.skip.seq rest)→J l a w→rest.wp P (Leaves J Q) a w)→c.wp P (Leaves J Q) a w):(Code.scope c).wp P Q a w:=by
 have N: ∀n l a w,μ l a w=n→J l a w→∃rest,findLabel c l=some (Code.skip.seq rest)∧rest.wp P (Leaves (fun j z q=>J j z q∧μ j z q<μ l a w) Q) a w:=by
  intro n
  induction n using Nat.strongRecOn with
  |_ n Z=>
   intro l a w hn M
   refine O l a w M fun j o z q H A aa=>?_
   obtain⟨r,D,E⟩:=Z _ (by omega) j z q rfl A
   rw[H] at D
   simp only[Option.some.injEq,Code.seq.injEq,true_and] at D
   subst D
   exact wp_mono E (Leaves.mono fun l2 a2 w2 h=>⟨h.1,by omega⟩)
 have start:=first fun l rest a w H M=>by
  obtain⟨r,D,E⟩:=N _ l a w rfl M
  rw[H] at D
  simp only[Option.some.injEq,Code.seq.injEq,true_and] at D
  subst D
  exact wp_mono E (Leaves.mono fun l2 a2 w2 h=>h.1)
 intro b k V
 have U: ∀n l a w,μ l a w=n→J l a w→∃rest,findLabel c l=some rest∧∃e z q,Q e z q∧Arrives P (lone (b.at a (.code rest:: .inScope c::k)) V w) b k V e z q:=by
  intro n
  induction n using Nat.strongRecOn with
  |_ n Z=>
   intro l a w hn M
   obtain⟨rest,H,E⟩:=N _ l a w rfl M
   refine⟨_,H,?_⟩
   obtain⟨e,a₁,w₁,hq,harr⟩:=(wp_seq (wp_skip E):(Code.skip.seq rest).wp P _ a w) b (.inScope c::k) V
   cases e with
   |normal=>exact⟨.normal,a₁,w₁,hq,Steps.trans harr (.one step_inScope)⟩
   |exit X=>exact⟨.exit X,a₁,w₁,hq,fun k' Y=>harr k' (by simp[exitTo,Y])⟩
   |goto j=>
    obtain⟨A,aa⟩:=hq
    obtain⟨r2,hf2,e₂,a₂,w₂,hq₂,harr₂⟩:=Z _ (by omega) j a₁ w₁ rfl A
    exact⟨e₂,a₂,w₂,hq₂,.of_steps (harr _ (by simp[gotoIn,hf2])) harr₂⟩
   |ret=>exact⟨_,a₁,w₁,hq,harr⟩
   |panic ch=>exact⟨_,a₁,w₁,hq,harr⟩
   |outgrown=>exact⟨_,a₁,w₁,hq,harr⟩
 obtain⟨e,a₁,w₁,hq,harr⟩:=start b (.inScope c::k) V
 cases e with
 |normal=>exact⟨.normal,a₁,w₁,hq,.head step_scope (Steps.trans harr (.one step_inScope))⟩
 |exit X=>exact⟨.exit X,a₁,w₁,hq,fun k' Y=>.head step_scope (harr k' (by simp[exitTo,Y]))⟩
 |goto j=>
  obtain⟨r2,hf2,e₂,a₂,w₂,hq₂,harr₂⟩:=U _ j a₁ w₁ rfl hq
  exact⟨e₂,a₂,w₂,hq₂,.of_steps (.head step_scope (harr _ (by simp[gotoIn,hf2]))) harr₂⟩
 |ret=>exact⟨_,a₁,w₁,hq,.of_steps (.one step_scope) harr⟩
 |panic ch=>exact⟨_,a₁,w₁,hq,.of_steps (.one step_scope) harr⟩
 |outgrown=>exact⟨_,a₁,w₁,hq,.of_steps (.one step_scope) harr⟩
end Go.Proofs.YticdggnnpjachaaGreat