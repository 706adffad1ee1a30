/-
 A scope with several labels,between which the run jumps: what holds at each label,and a measure that falls from each jump to the next one. No program is spoken of.
-/
import Derived.WalkKit
import Derived.ScopeJumps
namespace Go.Proofs.YticdggnnpjachaaGreat
open Go.RowKit
def Leaves (J:Nat→Act→World→Prop) (Q:Exit→Act→World→Prop):Exit→Act→World→Prop
 | .goto l,a,w=>J l a w
 |e,a,w=>Q e a w
theorem Leaves.mono {J j:Nat→Act→World→Prop} {Q:Exit→Act→World→Prop} (h: ∀l a w,J l a w→j l a w): ∀e a w,Leaves J Q e a w→Leaves j Q e a w:=by
 intro e a w k
 cases e with
 |goto l=>exact h l a w k
 |normal=>exact k
 |exit n=>exact k
 |ret=>exact k
 |panic o=>exact k
 |outgrown=>exact k
theorem zrh {P:Program} {a:Act} {w:World} {Q:Exit→Act→World→Prop} {c:Code} (J:Nat→Act→World→Prop) (μ:Nat→Act→World→Nat)
  (I: ∀l a w,J l a w→(∀o j q z,findLabel c o=some (Code.skip.seq j)→J o q z→μ o q z<μ l a w→j.wp P (Leaves (fun H O U=>J H O U∧μ H O U<μ l a w) Q) q z)→
   ∃rest,findLabel c l=some (Code.skip.seq rest)∧rest.wp P (Leaves (fun o q z=>J o q z∧μ o q z<μ l a w) Q) a w)
  (first:(∀l rest a w,findLabel c l=some (Code.skip.seq rest)→J l a w→rest.wp P (Leaves J Q) a w)→c.wp P (Leaves J Q) a w):(Code.scope c).wp P Q a w:=by
 have K: ∀n l a w,μ l a w=n→J l a w→∃rest,findLabel c l=some (Code.skip.seq rest)∧rest.wp P (Leaves (fun o q z=>J o q z∧μ o q z<μ l a w) Q) a w:=by
  intro n
  induction n using Nat.strongRecOn with
  |_ n ih=>
   intro l a w hn E
   refine I l a w E fun o j q z N A Y=>?_
   obtain⟨r,D,L⟩:=ih _ (by omega) o q z rfl A
   rw[N] at D
   simp only[Option.some.injEq,Code.seq.injEq,true_and] at D
   subst D
   exact wp_mono L (Leaves.mono fun l2 a2 w2 h=>⟨h.1,by omega⟩)
 have start:=first fun l rest a w N E=>by
  obtain⟨r,D,L⟩:=K _ l a w rfl E
  rw[N] at D
  simp only[Option.some.injEq,Code.seq.injEq,true_and] at D
  subst D
  exact wp_mono L (Leaves.mono fun l2 a2 w2 h=>h.1)
 intro b k V
 have M: ∀n l a w,μ l a w=n→J l a w→∃rest,findLabel c l=some rest∧∃e q z,Q e q z∧Arrives P (lone (b.at a (.code rest:: .inScope c::k)) V w) b k V e q z:=by
  intro n
  induction n using Nat.strongRecOn with
  |_ n ih=>
   intro l a w hn E
   obtain⟨rest,N,L⟩:=K _ l a w rfl E
   refine⟨_,N,?_⟩
   obtain⟨e,a₁,w₁,hq,harr⟩:=(wp_seq (wp_skip L):(Code.skip.seq rest).wp P _ a w) b (.inScope c::k) V
   cases e with
   |normal=>exact⟨.normal,a₁,w₁,hq,Steps.trans harr (.one step_inScope)⟩
   |exit id=>exact⟨.exit id,a₁,w₁,hq,fun Z X=>harr Z (by simp[exitTo,X])⟩
   |goto o=>
    obtain⟨A,Y⟩:=hq
    obtain⟨r2,hf2,e₂,a₂,w₂,hq₂,harr₂⟩:=ih _ (by omega) o a₁ w₁ rfl A
    exact⟨e₂,a₂,w₂,hq₂,.of_steps (harr _ (by simp[gotoIn,hf2])) harr₂⟩
   |ret=>exact⟨_,a₁,w₁,hq,harr⟩
   |panic ch=>exact⟨_,a₁,w₁,hq,harr⟩
   |outgrown=>exact⟨_,a₁,w₁,hq,harr⟩
 obtain⟨e,a₁,w₁,hq,harr⟩:=start b (.inScope c::k) V
 cases e with
 |normal=>exact⟨.normal,a₁,w₁,hq,.head step_scope (Steps.trans harr (.one step_inScope))⟩
 |exit id=>exact⟨.exit id,a₁,w₁,hq,fun Z X=>.head step_scope (harr Z (by simp[exitTo,X]))⟩
 |goto o=>
  obtain⟨r2,hf2,e₂,a₂,w₂,hq₂,harr₂⟩:=M _ o a₁ w₁ rfl hq
  exact⟨e₂,a₂,w₂,hq₂,.of_steps (.head step_scope (harr _ (by simp[gotoIn,hf2]))) harr₂⟩
 |ret=>exact⟨_,a₁,w₁,hq,.of_steps (.one step_scope) harr⟩
 |panic ch=>exact⟨_,a₁,w₁,hq,.of_steps (.one step_scope) harr⟩
 |outgrown=>exact⟨_,a₁,w₁,hq,.of_steps (.one step_scope) harr⟩
end Go.Proofs.YticdggnnpjachaaGreat