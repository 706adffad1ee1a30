/-
  A region that draws its order, whatever slots its operations fill: what each slot holds once its operation has come up. No program is spoken of.
-/
import Derived.Test.YtaakfnclelcopaaCTrimOrderInv
namespace Go.Proofs.Ytaakfnclelcopaa

structure SlG (a0 : Act) (f : Nat → Option Nat) (n : Nat) (V : Nat → Value) (D : Nat → Bool) (a : Act) : Prop where
  sz : a.tmps.size = a0.tmps.size
  df : a.defers = a0.defers
  oth : ∀ k, (∀ i, i < n → f i ≠ some k) → a.tmps[k]? = a0.tmps[k]?
  e : ∀ i, i < n → D i = true → ∀ s, f i = some s → a.tmps[s]? = some (V i)
def SlotsOk (a0 : Act) (f : Nat → Option Nat) (n : Nat) : Prop := ∀ i, i < n → ∀ s, f i = some s → s < a0.tmps.size ∧ ∀ j, j < n → f j = some s → j = i
section
variable {a0 a : Act} {f : Nat → Option Nat} {n : Nat} {V U : Nat → Value} {D : Nat → Bool}
theorem SlG.start (a0 : Act) (f : Nat → Option Nat) (n : Nat) (V : Nat → Value) : SlG a0 f n V (fun _ => false) a0 := ⟨rfl, rfl, fun _ _ => rfl, fun _ _ h => (by cases h)⟩
theorem SlG.put (h : SlG a0 f n V D a) (ok : SlotsOk a0 f n) {i s : Nat} (hi : i < n) (hf : f i = some s) : SlG a0 f n V (fun j => D j || decide (j = i)) (a.put (some s) (V i)) := by
  obtain ⟨h1, h2⟩ := ok i hi s hf
  refine ⟨?_, h.df, fun k hk => ?_, fun j hj hd t ht => ?_⟩
  · show (a.tmps.setIfInBounds _ _).size = _
    rw [Array.size_setIfInBounds]
    exact h.sz
  · show (a.tmps.setIfInBounds _ _)[k]? = _
    rw [Array.getElem?_setIfInBounds_ne (fun e => hk i hi (by rw [hf, e]))]
    exact h.oth k hk
  · show (a.tmps.setIfInBounds _ _)[t]? = _
    by_cases e : t = s
    · subst e
      obtain rfl := h2 j hj ht
      rw [Array.getElem?_setIfInBounds_self_of_lt (by rw [h.sz]; exact h1)]
    · rw [Array.getElem?_setIfInBounds_ne (fun k => e k.symm)]
      have hji : j ≠ i := fun k => by subst k; rw [hf] at ht; exact e (Option.some.inj ht).symm
      exact h.e j hj (by simpa [hji] using hd) t ht
theorem SlG.skip (h : SlG a0 f n V D a) {i : Nat} (hf : f i = none) (v : Value) : SlG a0 f n V (fun j => D j || decide (j = i)) (a.put none v) :=
  ⟨h.sz, h.df, h.oth, fun j hj hd t ht => h.e j hj (by
    have hji : j ≠ i := fun k => by subst k; rw [hf] at ht; cases ht
    simpa [hji] using hd) t ht⟩
theorem SlG.anew (h : SlG a0 f n V D a) (hu : ∀ i, i < n → D i = true → U i = V i) : SlG a0 f n U D a := ⟨h.sz, h.df, h.oth, fun i hi hd s hs => by rw [hu i hi hd]; exact h.e i hi hd s hs⟩
theorem SlG.all (h : SlG a0 f n V D a) (ok : SlotsOk a0 f n) (hd : ∀ i, i < n → D i = true) : a = (List.range n).foldl (fun b i => match f i with | some s => b.put (some s) (V i) | none => b) a0 := by
  have H : ∀ k, k ≤ n → ∀ b : Act, b = (List.range k).foldl (fun b i => match f i with | some s => b.put (some s) (V i) | none => b) a0 → b.tmps.size = a0.tmps.size ∧ b.defers = a0.defers ∧ (∀ j, (∀ i, i < k → f i ≠ some j) → b.tmps[j]? = a0.tmps[j]?) ∧ ∀ i, i < k → ∀ s, f i = some s → b.tmps[s]? = some (V i) := by
    intro k
    induction k with
    | zero => rintro _ b rfl; exact ⟨rfl, rfl, fun _ _ => rfl, fun i hi => absurd hi (Nat.not_lt_zero i)⟩
    | succ k ih =>
      rintro hk b rfl
      obtain ⟨h1, h2, h3, h4⟩ := ih (by omega) _ rfl
      rw [List.range_succ, List.foldl_append, List.foldl_cons, List.foldl_nil]
      generalize (List.range k).foldl (fun b i => match f i with | some s => b.put (some s) (V i) | none => b) a0 = b at h1 h2 h3 h4
      cases hf : f k with
      | none =>
        refine ⟨h1, h2, fun j hj => h3 j fun i hi => hj i (by omega), fun i hi s hs => ?_⟩
        have : i ≠ k := fun e => by rw [e, hf] at hs; cases hs
        exact h4 i (by omega) s hs
      | some t =>
        obtain ⟨o1, o2⟩ := ok k (by omega) t hf
        refine ⟨?_, h2, fun j hj => ?_, fun i hi s hs => ?_⟩
        · show (b.tmps.setIfInBounds _ _).size = _
          rw [Array.size_setIfInBounds]; exact h1
        · show (b.tmps.setIfInBounds _ _)[j]? = _
          rw [Array.getElem?_setIfInBounds_ne (fun e => hj k (by omega) (by rw [hf, e]))]
          exact h3 j fun i hi => hj i (by omega)
        · show (b.tmps.setIfInBounds _ _)[s]? = _
          by_cases e : s = t
          · subst e
            obtain rfl := o2 i (by omega) hs
            rw [Array.getElem?_setIfInBounds_self_of_lt (by omega)]
          · rw [Array.getElem?_setIfInBounds_ne (fun k => e k.symm)]
            have : i ≠ k := fun k' => by rw [k', hf] at hs; exact e (Option.some.inj hs).symm
            exact h4 i (by omega) s hs
  obtain ⟨h1, h2, h3, h4⟩ := H n (Nat.le_refl _) _ rfl
  generalize (List.range n).foldl (fun b i => match f i with | some s => b.put (some s) (V i) | none => b) a0 = b at h1 h2 h3 h4
  obtain ⟨ta, da⟩ := a
  obtain ⟨tb, db⟩ := b
  have e1 : da = db := h.df.trans h2.symm
  have e2 : ta = tb := Array.ext_getElem? fun k => by
    by_cases hk : ∀ i, i < n → f i ≠ some k
    · exact (h.oth k hk).trans (h3 k hk).symm
    · obtain ⟨i, hi⟩ := Classical.not_forall.1 hk
      obtain ⟨hi1, hi2⟩ := Classical.not_imp.1 hi
      have hi3 : f i = some k := Classical.not_not.1 hi2
      exact (h.e i hi1 (hd i hi1) k hi3).trans (h4 i hi1 k hi3).symm
  rw [e1, e2]
end
theorem opG_val {P : Program} {o : Oper} {a : Act} {w w' : World} {v : Value} {K : Act → World → Prop} {Q : Exit → Act → World → Prop} (hr : (execOp a.eval o).run P w = .ok (.value v) w') (h : K (a.put o.dst v) w') : o.wp P a w K Q := by
  unfold Oper.wp
  rw [hr]
  exact h
theorem evG_of {a : Act} {k : Nat} {v : Value} (h : a.tmps[k]? = some v) : a.tmps.getD k undef = v := by rw [Array.getD_eq_getD_getElem?, h]; rfl
theorem opG_skip {P : Program} {o : Oper} {a : Act} {w w' : World} {K : Act → World → Prop} {Q : Exit → Act → World → Prop} (hr : (execOp a.eval o).run P w = .ok .skip w') (h : K (a.put o.dst undef) w') : o.wp P a w K Q := by
  unfold Oper.wp
  rw [hr]
  exact h
theorem opG_call {P : Program} {o : Oper} {a : Act} {w : World} {f : FuncId} {args : Array Value} {K : Act → World → Prop} {Q : Exit → Act → World → Prop} (hr : (execOp a.eval o).run P w = .ok (.enter f args) w) (h : Calls P f args w fun e w' => ∃ v, e = .returned v ∧ K (a.put o.dst v) w') : o.wp P a w K Q := by
  unfold Oper.wp
  rw [hr]
  refine Calls.mono h ?_
  rintro e w' ⟨v, rfl, hk⟩
  exact hk
end Go.Proofs.Ytaakfnclelcopaa
