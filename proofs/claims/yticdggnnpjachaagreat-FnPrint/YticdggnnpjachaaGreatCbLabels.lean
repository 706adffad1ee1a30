/-
 A scope with several labels,between which the run jumps: what holds at each label,and a measure that falls from each jump to the next one. No program is spoken of.
-/
import Derived.WalkKit
import Derived.ScopeJumps
namespace Go.Proofs.YticdggnnpjachaaGreat
open Go.RowKit
def Leaves (J:Nat→Act→World→Prop) (Q:Exit→Act→World→Prop):Exit→Act→World→Prop
 | .goto l,a,w=>J l a w
 |e,a,w=>Q e a w
theorem Leaves.mono {J j:Nat→Act→World→Prop} {Q:Exit→Act→World→Prop} (h: ∀l a w,J l a w→j l a w): ∀e a w,Leaves J Q e a w→Leaves j Q e a w:=by
 intro e a w k
 cases e with
 |goto l=>exact h l a w k
 |normal=>exact k
 |exit o=>exact k
 |ret=>exact k
 |panic n=>exact k
 |outgrown=>exact k
theorem zrh {P:Program} {a:Act} {w:World} {Q:Exit→Act→World→Prop} {c:Code} (J:Nat→Act→World→Prop) (μ:Nat→Act→World→Nat)
  (N: ∀l a w,J l a w→(∀o j z q,findLabel c o=some (Code.skip.seq j)→J o z q→μ o z q<μ l a w→j.wp P (Leaves (fun E U M=>J E U M∧μ E U M<μ l a w) Q) z q)→
   ∃rest,findLabel c l=some (Code.skip.seq rest)∧rest.wp P (Leaves (fun o z q=>J o z q∧μ o z q<μ l a w) Q) a w)
  (first:(∀l rest a w,findLabel c l=some (Code.skip.seq rest)→J l a w→rest.wp P (Leaves J Q) a w)→c.wp P (Leaves J Q) a w):(Code.scope c).wp P Q a w:=by
 have O: ∀n l a w,μ l a w=n→J l a w→∃rest,findLabel c l=some (Code.skip.seq rest)∧rest.wp P (Leaves (fun o z q=>J o z q∧μ o z q<μ l a w) Q) a w:=by
  intro n
  induction n using Nat.strongRecOn with
  |_ n Y=>
   intro l a w hn H
   refine N l a w H fun o j z q I D aa=>?_
   obtain⟨r,A,L⟩:=Y _ (by omega) o z q rfl D
   rw[I] at A
   simp only[Option.some.injEq,Code.seq.injEq,true_and] at A
   subst A
   exact wp_mono L (Leaves.mono fun l2 a2 w2 h=>⟨h.1,by omega⟩)
 have start:=first fun l rest a w I H=>by
  obtain⟨r,A,L⟩:=O _ l a w rfl H
  rw[I] at A
  simp only[Option.some.injEq,Code.seq.injEq,true_and] at A
  subst A
  exact wp_mono L (Leaves.mono fun l2 a2 w2 h=>h.1)
 intro b k V
 have K: ∀n l a w,μ l a w=n→J l a w→∃rest,findLabel c l=some rest∧∃e z q,Q e z q∧Arrives P (lone (b.at a (.code rest:: .inScope c::k)) V w) b k V e z q:=by
  intro n
  induction n using Nat.strongRecOn with
  |_ n Y=>
   intro l a w hn H
   obtain⟨rest,I,L⟩:=O _ l a w rfl H
   refine⟨_,I,?_⟩
   obtain⟨e,a₁,w₁,hq,harr⟩:=(wp_seq (wp_skip L):(Code.skip.seq rest).wp P _ a w) b (.inScope c::k) V
   cases e with
   |normal=>exact⟨.normal,a₁,w₁,hq,Steps.trans harr (.one step_inScope)⟩
   |exit id=>exact⟨.exit id,a₁,w₁,hq,fun X Z=>harr X (by simp[exitTo,Z])⟩
   |goto o=>
    obtain⟨D,aa⟩:=hq
    obtain⟨r2,hf2,e₂,a₂,w₂,hq₂,harr₂⟩:=Y _ (by omega) o a₁ w₁ rfl D
    exact⟨e₂,a₂,w₂,hq₂,.of_steps (harr _ (by simp[gotoIn,hf2])) harr₂⟩
   |ret=>exact⟨_,a₁,w₁,hq,harr⟩
   |panic ch=>exact⟨_,a₁,w₁,hq,harr⟩
   |outgrown=>exact⟨_,a₁,w₁,hq,harr⟩
 obtain⟨e,a₁,w₁,hq,harr⟩:=start b (.inScope c::k) V
 cases e with
 |normal=>exact⟨.normal,a₁,w₁,hq,.head step_scope (Steps.trans harr (.one step_inScope))⟩
 |exit id=>exact⟨.exit id,a₁,w₁,hq,fun X Z=>.head step_scope (harr X (by simp[exitTo,Z]))⟩
 |goto o=>
  obtain⟨r2,hf2,e₂,a₂,w₂,hq₂,harr₂⟩:=K _ o a₁ w₁ rfl hq
  exact⟨e₂,a₂,w₂,hq₂,.of_steps (.head step_scope (harr _ (by simp[gotoIn,hf2]))) harr₂⟩
 |ret=>exact⟨_,a₁,w₁,hq,.of_steps (.one step_scope) harr⟩
 |panic ch=>exact⟨_,a₁,w₁,hq,.of_steps (.one step_scope) harr⟩
 |outgrown=>exact⟨_,a₁,w₁,hq,.of_steps (.one step_scope) harr⟩
end Go.Proofs.YticdggnnpjachaaGreat