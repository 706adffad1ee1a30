/-
 A scope with several labels,between which the run jumps: what holds at each label,and a measure that falls from each jump to the next one. No program is spoken of.
-/
import Derived.WalkKit
import Derived.ScopeJumps
namespace Go.Proofs.YticdggnnpjachaaGreat
open Go.RowKit
def Leaves (J:Nat→Act→World→Prop) (Q:Exit→Act→World→Prop):Exit→Act→World→Prop
 | .goto l,a,w=>J l a w
 |e,a,w=>Q e a w
theorem Leaves.mono {J j:Nat→Act→World→Prop} {Q:Exit→Act→World→Prop} (h: ∀l a w,J l a w→j l a w): ∀e a w,Leaves J Q e a w→Leaves j Q e a w:=by
 intro e a w k
 cases e with
 |goto l=>exact h l a w k
 |normal=>exact k
 |exit n=>exact k
 |ret=>exact k
 |panic o=>exact k
 |outgrown=>exact k
theorem zoo {P:Program} {a:Act} {w:World} {Q:Exit→Act→World→Prop} {c:Code} (J:Nat→Act→World→Prop) (μ:Nat→Act→World→Nat)
  (V: ∀l a w,J l a w→(∀o j z q,findLabel c o=some (Code.skip.seq j)→J o z q→μ o z q<μ l a w→j.wp P (Leaves (fun H N L=>J H N L∧μ H N L<μ l a w) Q) z q)→
   ∃rest,findLabel c l=some (Code.skip.seq rest)∧rest.wp P (Leaves (fun o z q=>J o z q∧μ o z q<μ l a w) Q) a w)
  (first:(∀l rest a w,findLabel c l=some (Code.skip.seq rest)→J l a w→rest.wp P (Leaves J Q) a w)→c.wp P (Leaves J Q) a w):(Code.scope c).wp P Q a w:=by
 have I: ∀n l a w,μ l a w=n→J l a w→∃rest,findLabel c l=some (Code.skip.seq rest)∧rest.wp P (Leaves (fun o z q=>J o z q∧μ o z q<μ l a w) Q) a w:=by
  intro n
  induction n using Nat.strongRecOn with
  |_ n ih=>
   intro l a w hn M
   refine V l a w M fun o j z q U D aa=>?_
   obtain⟨r,A,O⟩:=ih _ (by omega) o z q rfl D
   rw[U] at A
   simp only[Option.some.injEq,Code.seq.injEq,true_and] at A
   subst A
   exact wp_mono O (Leaves.mono fun l2 a2 w2 h=>⟨h.1,by omega⟩)
 have E:=first fun l rest a w U M=>by
  obtain⟨r,A,O⟩:=I _ l a w rfl M
  rw[U] at A
  simp only[Option.some.injEq,Code.seq.injEq,true_and] at A
  subst A
  exact wp_mono O (Leaves.mono fun l2 a2 w2 h=>h.1)
 intro b k X
 have K: ∀n l a w,μ l a w=n→J l a w→∃rest,findLabel c l=some rest∧∃e z q,Q e z q∧Arrives P (lone (b.at a (.code rest:: .inScope c::k)) X w) b k X e z q:=by
  intro n
  induction n using Nat.strongRecOn with
  |_ n ih=>
   intro l a w hn M
   obtain⟨rest,U,O⟩:=I _ l a w rfl M
   refine⟨_,U,?_⟩
   obtain⟨e,a₁,w₁,hq,harr⟩:=(wp_seq (wp_skip O):(Code.skip.seq rest).wp P _ a w) b (.inScope c::k) X
   cases e with
   |normal=>exact⟨.normal,a₁,w₁,hq,Steps.trans harr (.one step_inScope)⟩
   |exit Z=>exact⟨.exit Z,a₁,w₁,hq,fun Y hk=>harr Y (by simp[exitTo,hk])⟩
   |goto o=>
    obtain⟨D,aa⟩:=hq
    obtain⟨r2,hf2,e₂,a₂,w₂,hq₂,harr₂⟩:=ih _ (by omega) o a₁ w₁ rfl D
    exact⟨e₂,a₂,w₂,hq₂,.of_steps (harr _ (by simp[gotoIn,hf2])) harr₂⟩
   |ret=>exact⟨_,a₁,w₁,hq,harr⟩
   |panic ch=>exact⟨_,a₁,w₁,hq,harr⟩
   |outgrown=>exact⟨_,a₁,w₁,hq,harr⟩
 obtain⟨e,a₁,w₁,hq,harr⟩:=E b (.inScope c::k) X
 cases e with
 |normal=>exact⟨.normal,a₁,w₁,hq,.head step_scope (Steps.trans harr (.one step_inScope))⟩
 |exit Z=>exact⟨.exit Z,a₁,w₁,hq,fun Y hk=>.head step_scope (harr Y (by simp[exitTo,hk]))⟩
 |goto o=>
  obtain⟨r2,hf2,e₂,a₂,w₂,hq₂,harr₂⟩:=K _ o a₁ w₁ rfl hq
  exact⟨e₂,a₂,w₂,hq₂,.of_steps (.head step_scope (harr _ (by simp[gotoIn,hf2]))) harr₂⟩
 |ret=>exact⟨_,a₁,w₁,hq,.of_steps (.one step_scope) harr⟩
 |panic ch=>exact⟨_,a₁,w₁,hq,.of_steps (.one step_scope) harr⟩
 |outgrown=>exact⟨_,a₁,w₁,hq,.of_steps (.one step_scope) harr⟩
end Go.Proofs.YticdggnnpjachaaGreat