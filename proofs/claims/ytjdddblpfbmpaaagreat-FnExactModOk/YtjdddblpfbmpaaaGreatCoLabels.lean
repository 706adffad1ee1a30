/-
 A scope with several labels,between which the run jumps: what holds at each label,and a measure that falls from each jump to the next one. No program is spoken of.
-/
import Derived.WalkKit
import Derived.ScopeJumps
namespace Go.Proofs.YtjdddblpfbmpaaaGreat
open Go.RowKit
def Leaves (J:Nat→Act→World→Prop) (Q:Exit→Act→World→Prop):Exit→Act→World→Prop
 | .goto l,a,w=>J l a w
 |e,a,w=>Q e a w
theorem Leaves.mono {J j:Nat→Act→World→Prop} {Q:Exit→Act→World→Prop} (h: ∀l a w,J l a w→j l a w): ∀e a w,Leaves J Q e a w→Leaves j Q e a w:=by
 intro e a w k
 cases e with
 |goto l=>exact h l a w k
 |normal=>exact k
 |exit q=>exact k
 |ret=>exact k
 |panic n=>exact k
 |outgrown=>exact k
theorem zoy {P:Program} {a:Act} {w:World} {Q:Exit→Act→World→Prop} {c:Code} (J:Nat→Act→World→Prop) (μ:Nat→Act→World→Nat)
  (L: ∀l a w,J l a w→(∀j q A z,findLabel c j=some (Code.skip.seq q)→J j A z→μ j A z<μ l a w→q.wp P (Leaves (fun X K V=>J X K V∧μ X K V<μ l a w) Q) A z)→
   ∃rest,findLabel c l=some (Code.skip.seq rest)∧rest.wp P (Leaves (fun j A z=>J j A z∧μ j A z<μ l a w) Q) a w)
  (first:(∀l rest a w,findLabel c l=some (Code.skip.seq rest)→J l a w→rest.wp P (Leaves J Q) a w)→c.wp P (Leaves J Q) a w):(Code.scope c).wp P Q a w:=by
 have M: ∀n l a w,μ l a w=n→J l a w→∃rest,findLabel c l=some (Code.skip.seq rest)∧rest.wp P (Leaves (fun j A z=>J j A z∧μ j A z<μ l a w) Q) a w:=by
  intro n
  induction n using Nat.strongRecOn with
  |_ n ih=>
   intro l a w hn U
   refine L l a w U fun j q A z O D Z=>?_
   obtain⟨r,E,N⟩:=ih _ (by omega) j A z rfl D
   rw[O] at E
   simp only[Option.some.injEq,Code.seq.injEq,true_and] at E
   subst E
   exact wp_mono N (Leaves.mono fun l2 a2 w2 h=>⟨h.1,by omega⟩)
 have H:=first fun l rest a w O U=>by
  obtain⟨r,E,N⟩:=M _ l a w rfl U
  rw[O] at E
  simp only[Option.some.injEq,Code.seq.injEq,true_and] at E
  subst E
  exact wp_mono N (Leaves.mono fun l2 a2 w2 h=>h.1)
 intro b k Y
 have I: ∀n l a w,μ l a w=n→J l a w→∃rest,findLabel c l=some rest∧∃e A z,Q e A z∧Arrives P (lone (b.at a (.code rest:: .inScope c::k)) Y w) b k Y e A z:=by
  intro n
  induction n using Nat.strongRecOn with
  |_ n ih=>
   intro l a w hn U
   obtain⟨rest,O,N⟩:=M _ l a w rfl U
   refine⟨_,O,?_⟩
   obtain⟨e,a₁,w₁,hq,harr⟩:=(wp_seq (wp_skip N):(Code.skip.seq rest).wp P _ a w) b (.inScope c::k) Y
   cases e with
   |normal=>exact⟨.normal,a₁,w₁,hq,Steps.trans harr (.one step_inScope)⟩
   |exit id=>exact⟨.exit id,a₁,w₁,hq,fun k' hk=>harr k' (by simp[exitTo,hk])⟩
   |goto j=>
    obtain⟨D,Z⟩:=hq
    obtain⟨r2,hf2,e₂,a₂,w₂,hq₂,harr₂⟩:=ih _ (by omega) j a₁ w₁ rfl D
    exact⟨e₂,a₂,w₂,hq₂,.of_steps (harr _ (by simp[gotoIn,hf2])) harr₂⟩
   |ret=>exact⟨_,a₁,w₁,hq,harr⟩
   |panic ch=>exact⟨_,a₁,w₁,hq,harr⟩
   |outgrown=>exact⟨_,a₁,w₁,hq,harr⟩
 obtain⟨e,a₁,w₁,hq,harr⟩:=H b (.inScope c::k) Y
 cases e with
 |normal=>exact⟨.normal,a₁,w₁,hq,.head step_scope (Steps.trans harr (.one step_inScope))⟩
 |exit id=>exact⟨.exit id,a₁,w₁,hq,fun k' hk=>.head step_scope (harr k' (by simp[exitTo,hk]))⟩
 |goto j=>
  obtain⟨r2,hf2,e₂,a₂,w₂,hq₂,harr₂⟩:=I _ j a₁ w₁ rfl hq
  exact⟨e₂,a₂,w₂,hq₂,.of_steps (.head step_scope (harr _ (by simp[gotoIn,hf2]))) harr₂⟩
 |ret=>exact⟨_,a₁,w₁,hq,.of_steps (.one step_scope) harr⟩
 |panic ch=>exact⟨_,a₁,w₁,hq,.of_steps (.one step_scope) harr⟩
 |outgrown=>exact⟨_,a₁,w₁,hq,.of_steps (.one step_scope) harr⟩
end Go.Proofs.YtjdddblpfbmpaaaGreat