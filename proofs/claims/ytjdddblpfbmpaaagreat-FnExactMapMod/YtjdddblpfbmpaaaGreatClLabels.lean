/-
 A scope with several labels,between which the run jumps: what holds at each label,and a measure that falls from each jump to the next one. No program is spoken of.
-/
import Derived.WalkKit
import Derived.ScopeJumps
namespace Go.Proofs.YtjdddblpfbmpaaaGreat
open Go.RowKit
def Leaves (J:Nat→Act→World→Prop) (Q:Exit→Act→World→Prop):Exit→Act→World→Prop
 | .goto l,a,w=>J l a w
 |e,a,w=>Q e a w
theorem Leaves.mono {J j:Nat→Act→World→Prop} {Q:Exit→Act→World→Prop} (h: ∀l a w,J l a w→j l a w): ∀e a w,Leaves J Q e a w→Leaves j Q e a w:=by
 intro e a w k
 cases e with
 |goto l=>exact h l a w k
 |normal=>exact k
 |exit A=>exact k
 |ret=>exact k
 |panic z=>exact k
 |outgrown=>exact k
theorem zuf {P:Program} {a:Act} {w:World} {Q:Exit→Act→World→Prop} {c:Code} (J:Nat→Act→World→Prop) (μ:Nat→Act→World→Nat)
  (O: ∀l a w,J l a w→(∀j z A w',findLabel c j=some (Code.skip.seq z)→J j A w'→μ j A w'<μ l a w→z.wp P (Leaves (fun aa N Z=>J aa N Z∧μ aa N Z<μ l a w) Q) A w')→
   ∃rest,findLabel c l=some (Code.skip.seq rest)∧rest.wp P (Leaves (fun j A w'=>J j A w'∧μ j A w'<μ l a w) Q) a w)
  (first:(∀l rest a w,findLabel c l=some (Code.skip.seq rest)→J l a w→rest.wp P (Leaves J Q) a w)→c.wp P (Leaves J Q) a w):(Code.scope c).wp P Q a w:=by
 have U: ∀n l a w,μ l a w=n→J l a w→∃rest,findLabel c l=some (Code.skip.seq rest)∧rest.wp P (Leaves (fun j A w'=>J j A w'∧μ j A w'<μ l a w) Q) a w:=by
  intro n
  induction n using Nat.strongRecOn with
  |_ n ih=>
   intro l a w hn Y
   refine O l a w Y fun j z A w' X H ab=>?_
   obtain⟨r,I,V⟩:=ih _ (by omega) j A w' rfl H
   rw[X] at I
   simp only[Option.some.injEq,Code.seq.injEq,true_and] at I
   subst I
   exact wp_mono V (Leaves.mono fun l2 a2 w2 h=>⟨h.1,by omega⟩)
 have L:=first fun l rest a w X Y=>by
  obtain⟨r,I,V⟩:=U _ l a w rfl Y
  rw[X] at I
  simp only[Option.some.injEq,Code.seq.injEq,true_and] at I
  subst I
  exact wp_mono V (Leaves.mono fun l2 a2 w2 h=>h.1)
 intro b k cs
 have M: ∀n l a w,μ l a w=n→J l a w→∃rest,findLabel c l=some rest∧∃e A w',Q e A w'∧Arrives P (lone (b.at a (.code rest:: .inScope c::k)) cs w) b k cs e A w':=by
  intro n
  induction n using Nat.strongRecOn with
  |_ n ih=>
   intro l a w hn Y
   obtain⟨rest,X,V⟩:=U _ l a w rfl Y
   refine⟨_,X,?_⟩
   obtain⟨e,a₁,w₁,hq,harr⟩:=(wp_seq (wp_skip V):(Code.skip.seq rest).wp P _ a w) b (.inScope c::k) cs
   cases e with
   |normal=>exact⟨.normal,a₁,w₁,hq,Steps.trans harr (.one step_inScope)⟩
   |exit id=>exact⟨.exit id,a₁,w₁,hq,fun k' hk=>harr k' (by simp[exitTo,hk])⟩
   |goto j=>
    obtain⟨H,ab⟩:=hq
    obtain⟨r2,hf2,e₂,a₂,w₂,hq₂,harr₂⟩:=ih _ (by omega) j a₁ w₁ rfl H
    exact⟨e₂,a₂,w₂,hq₂,.of_steps (harr _ (by simp[gotoIn,hf2])) harr₂⟩
   |ret=>exact⟨_,a₁,w₁,hq,harr⟩
   |panic ch=>exact⟨_,a₁,w₁,hq,harr⟩
   |outgrown=>exact⟨_,a₁,w₁,hq,harr⟩
 obtain⟨e,a₁,w₁,hq,harr⟩:=L b (.inScope c::k) cs
 cases e with
 |normal=>exact⟨.normal,a₁,w₁,hq,.head step_scope (Steps.trans harr (.one step_inScope))⟩
 |exit id=>exact⟨.exit id,a₁,w₁,hq,fun k' hk=>.head step_scope (harr k' (by simp[exitTo,hk]))⟩
 |goto j=>
  obtain⟨r2,hf2,e₂,a₂,w₂,hq₂,harr₂⟩:=M _ j a₁ w₁ rfl hq
  exact⟨e₂,a₂,w₂,hq₂,.of_steps (.head step_scope (harr _ (by simp[gotoIn,hf2]))) harr₂⟩
 |ret=>exact⟨_,a₁,w₁,hq,.of_steps (.one step_scope) harr⟩
 |panic ch=>exact⟨_,a₁,w₁,hq,.of_steps (.one step_scope) harr⟩
 |outgrown=>exact⟨_,a₁,w₁,hq,.of_steps (.one step_scope) harr⟩
end Go.Proofs.YtjdddblpfbmpaaaGreat