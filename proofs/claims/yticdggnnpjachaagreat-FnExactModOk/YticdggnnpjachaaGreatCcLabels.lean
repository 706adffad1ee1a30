/-
 A scope with several labels,between which the run jumps: what holds at each label,and a measure that falls from each jump to the next one. No program is spoken of.
-/
import Derived.WalkKit
import Derived.ScopeJumps
namespace Go.Proofs.YticdggnnpjachaaGreat
open Go.RowKit
def Leaves (J:Nat→Act→World→Prop) (Q:Exit→Act→World→Prop):Exit→Act→World→Prop
 | .goto l,a,w=>J l a w
 |e,a,w=>Q e a w
theorem Leaves.mono {J j:Nat→Act→World→Prop} {Q:Exit→Act→World→Prop} (h: ∀l a w,J l a w→j l a w): ∀e a w,Leaves J Q e a w→Leaves j Q e a w:=by
 intro e a w k
 cases e with
 |goto l=>exact h l a w k
 |normal=>exact k
 |exit n=>exact k
 |ret=>exact k
 |panic o=>exact k
 |outgrown=>exact k
theorem zoo {P:Program} {a:Act} {w:World} {Q:Exit→Act→World→Prop} {c:Code} (J:Nat→Act→World→Prop) (μ:Nat→Act→World→Nat)
  (L: ∀l a w,J l a w→(∀j o z q,findLabel c j=some (Code.skip.seq o)→J j z q→μ j z q<μ l a w→o.wp P (Leaves (fun U O H=>J U O H∧μ U O H<μ l a w) Q) z q)→
   ∃rest,findLabel c l=some (Code.skip.seq rest)∧rest.wp P (Leaves (fun j z q=>J j z q∧μ j z q<μ l a w) Q) a w)
  (first:(∀l rest a w,findLabel c l=some (Code.skip.seq rest)→J l a w→rest.wp P (Leaves J Q) a w)→c.wp P (Leaves J Q) a w):(Code.scope c).wp P Q a w:=by
 have N: ∀n l a w,μ l a w=n→J l a w→∃rest,findLabel c l=some (Code.skip.seq rest)∧rest.wp P (Leaves (fun j z q=>J j z q∧μ j z q<μ l a w) Q) a w:=by
  intro n
  induction n using Nat.strongRecOn with
  |_ n Y=>
   intro l a w hn K
   refine L l a w K fun j o z q I D aa=>?_
   obtain⟨r,A,M⟩:=Y _ (by omega) j z q rfl D
   rw[I] at A
   simp only[Option.some.injEq,Code.seq.injEq,true_and] at A
   subst A
   exact wp_mono M (Leaves.mono fun l2 a2 w2 h=>⟨h.1,by omega⟩)
 have E:=first fun l rest a w I K=>by
  obtain⟨r,A,M⟩:=N _ l a w rfl K
  rw[I] at A
  simp only[Option.some.injEq,Code.seq.injEq,true_and] at A
  subst A
  exact wp_mono M (Leaves.mono fun l2 a2 w2 h=>h.1)
 intro b k X
 have V: ∀n l a w,μ l a w=n→J l a w→∃rest,findLabel c l=some rest∧∃e z q,Q e z q∧Arrives P (lone (b.at a (.code rest:: .inScope c::k)) X w) b k X e z q:=by
  intro n
  induction n using Nat.strongRecOn with
  |_ n Y=>
   intro l a w hn K
   obtain⟨rest,I,M⟩:=N _ l a w rfl K
   refine⟨_,I,?_⟩
   obtain⟨e,a₁,w₁,hq,harr⟩:=(wp_seq (wp_skip M):(Code.skip.seq rest).wp P _ a w) b (.inScope c::k) X
   cases e with
   |normal=>exact⟨.normal,a₁,w₁,hq,Steps.trans harr (.one step_inScope)⟩
   |exit Z=>exact⟨.exit Z,a₁,w₁,hq,fun k' hk=>harr k' (by simp[exitTo,hk])⟩
   |goto j=>
    obtain⟨D,aa⟩:=hq
    obtain⟨r2,hf2,e₂,a₂,w₂,hq₂,harr₂⟩:=Y _ (by omega) j a₁ w₁ rfl D
    exact⟨e₂,a₂,w₂,hq₂,.of_steps (harr _ (by simp[gotoIn,hf2])) harr₂⟩
   |ret=>exact⟨_,a₁,w₁,hq,harr⟩
   |panic ch=>exact⟨_,a₁,w₁,hq,harr⟩
   |outgrown=>exact⟨_,a₁,w₁,hq,harr⟩
 obtain⟨e,a₁,w₁,hq,harr⟩:=E b (.inScope c::k) X
 cases e with
 |normal=>exact⟨.normal,a₁,w₁,hq,.head step_scope (Steps.trans harr (.one step_inScope))⟩
 |exit Z=>exact⟨.exit Z,a₁,w₁,hq,fun k' hk=>.head step_scope (harr k' (by simp[exitTo,hk]))⟩
 |goto j=>
  obtain⟨r2,hf2,e₂,a₂,w₂,hq₂,harr₂⟩:=V _ j a₁ w₁ rfl hq
  exact⟨e₂,a₂,w₂,hq₂,.of_steps (.head step_scope (harr _ (by simp[gotoIn,hf2]))) harr₂⟩
 |ret=>exact⟨_,a₁,w₁,hq,.of_steps (.one step_scope) harr⟩
 |panic ch=>exact⟨_,a₁,w₁,hq,.of_steps (.one step_scope) harr⟩
 |outgrown=>exact⟨_,a₁,w₁,hq,.of_steps (.one step_scope) harr⟩
end Go.Proofs.YticdggnnpjachaaGreat