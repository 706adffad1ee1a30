/-
 A scope with several labels,between which the run jumps: what holds at each label,and a measure that falls from each jump to the next one. No program is spoken of.
-/
import Derived.WalkKit
import Derived.ScopeJumps
namespace Go.Proofs.YticdggnnpjachaaGreat
open Go.RowKit
def Leaves (J:Nat→Act→World→Prop) (Q:Exit→Act→World→Prop):Exit→Act→World→Prop
 | .goto l,a,w=>J l a w
 |e,a,w=>Q e a w
theorem Leaves.mono {J j:Nat→Act→World→Prop} {Q:Exit→Act→World→Prop} (h: ∀l a w,J l a w→j l a w): ∀e a w,Leaves J Q e a w→Leaves j Q e a w:=by
 intro e a w k
 cases e with
 |goto l=>exact h l a w k
 |normal=>exact k
 |exit o=>exact k
 |ret=>exact k
 |panic n=>exact k
 |outgrown=>exact k
theorem zoo {P:Program} {a:Act} {w:World} {Q:Exit→Act→World→Prop} {c:Code} (J:Nat→Act→World→Prop) (μ:Nat→Act→World→Nat)
  (M: ∀l a w,J l a w→(∀j o q z,findLabel c j=some (Code.skip.seq o)→J j q z→μ j q z<μ l a w→o.wp P (Leaves (fun N I K=>J N I K∧μ N I K<μ l a w) Q) q z)→
   ∃rest,findLabel c l=some (Code.skip.seq rest)∧rest.wp P (Leaves (fun j q z=>J j q z∧μ j q z<μ l a w) Q) a w)
  (first:(∀l rest a w,findLabel c l=some (Code.skip.seq rest)→J l a w→rest.wp P (Leaves J Q) a w)→c.wp P (Leaves J Q) a w):(Code.scope c).wp P Q a w:=by
 have U: ∀n l a w,μ l a w=n→J l a w→∃rest,findLabel c l=some (Code.skip.seq rest)∧rest.wp P (Leaves (fun j q z=>J j q z∧μ j q z<μ l a w) Q) a w:=by
  intro n
  induction n using Nat.strongRecOn with
  |_ n Y=>
   intro l a w hn L
   refine M l a w L fun j o q z O A aa=>?_
   obtain⟨r,D,V⟩:=Y _ (by omega) j q z rfl A
   rw[O] at D
   simp only[Option.some.injEq,Code.seq.injEq,true_and] at D
   subst D
   exact wp_mono V (Leaves.mono fun l2 a2 w2 h=>⟨h.1,by omega⟩)
 have E:=first fun l rest a w O L=>by
  obtain⟨r,D,V⟩:=U _ l a w rfl L
  rw[O] at D
  simp only[Option.some.injEq,Code.seq.injEq,true_and] at D
  subst D
  exact wp_mono V (Leaves.mono fun l2 a2 w2 h=>h.1)
 intro b k X
 have H: ∀n l a w,μ l a w=n→J l a w→∃rest,findLabel c l=some rest∧∃e q z,Q e q z∧Arrives P (lone (b.at a (.code rest:: .inScope c::k)) X w) b k X e q z:=by
  intro n
  induction n using Nat.strongRecOn with
  |_ n Y=>
   intro l a w hn L
   obtain⟨rest,O,V⟩:=U _ l a w rfl L
   refine⟨_,O,?_⟩
   obtain⟨e,a₁,w₁,hq,harr⟩:=(wp_seq (wp_skip V):(Code.skip.seq rest).wp P _ a w) b (.inScope c::k) X
   cases e with
   |normal=>exact⟨.normal,a₁,w₁,hq,Steps.trans harr (.one step_inScope)⟩
   |exit id=>exact⟨.exit id,a₁,w₁,hq,fun k' Z=>harr k' (by simp[exitTo,Z])⟩
   |goto j=>
    obtain⟨A,aa⟩:=hq
    obtain⟨r2,hf2,e₂,a₂,w₂,hq₂,harr₂⟩:=Y _ (by omega) j a₁ w₁ rfl A
    exact⟨e₂,a₂,w₂,hq₂,.of_steps (harr _ (by simp[gotoIn,hf2])) harr₂⟩
   |ret=>exact⟨_,a₁,w₁,hq,harr⟩
   |panic ch=>exact⟨_,a₁,w₁,hq,harr⟩
   |outgrown=>exact⟨_,a₁,w₁,hq,harr⟩
 obtain⟨e,a₁,w₁,hq,harr⟩:=E b (.inScope c::k) X
 cases e with
 |normal=>exact⟨.normal,a₁,w₁,hq,.head step_scope (Steps.trans harr (.one step_inScope))⟩
 |exit id=>exact⟨.exit id,a₁,w₁,hq,fun k' Z=>.head step_scope (harr k' (by simp[exitTo,Z]))⟩
 |goto j=>
  obtain⟨r2,hf2,e₂,a₂,w₂,hq₂,harr₂⟩:=H _ j a₁ w₁ rfl hq
  exact⟨e₂,a₂,w₂,hq₂,.of_steps (.head step_scope (harr _ (by simp[gotoIn,hf2]))) harr₂⟩
 |ret=>exact⟨_,a₁,w₁,hq,.of_steps (.one step_scope) harr⟩
 |panic ch=>exact⟨_,a₁,w₁,hq,.of_steps (.one step_scope) harr⟩
 |outgrown=>exact⟨_,a₁,w₁,hq,.of_steps (.one step_scope) harr⟩
end Go.Proofs.YticdggnnpjachaaGreat