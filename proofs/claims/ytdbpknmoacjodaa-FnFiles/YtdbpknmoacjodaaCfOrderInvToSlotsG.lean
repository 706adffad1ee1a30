/-
  A region that draws its order, by what holds of the operations that have come up so far. No program is spoken of.
  A region that draws its order, whatever slots its operations fill: what each slot holds once its operation has come up. No program is spoken of.
-/
import Derived.Orders
namespace Go.Proofs.Ytdbpknmoacjodaa

def leftD (D : Nat → Bool) : Nat → Nat
  | 0 => 0
  | n + 1 => leftD D n + if D n = true then 0 else 1
theorem leftD_zero {D : Nat → Bool} : ∀ {n : Nat}, leftD D n = 0 → ∀ i, i < n → D i = true
  | 0, _, i, hi => absurd hi (Nat.not_lt_zero i)
  | n + 1, h, i, hi => by
    rw [leftD] at h
    by_cases hn : D n = true
    · by_cases e : i = n
      · rw [e]; exact hn
      · rw [if_pos hn] at h; exact leftD_zero (n := n) (by omega) i (by omega)
    · rw [if_neg hn] at h
      omega
theorem leftD_congr {D E : Nat → Bool} : ∀ {n : Nat}, (∀ i, i < n → D i = E i) → leftD D n = leftD E n
  | 0, _ => rfl
  | n + 1, h => by rw [leftD, leftD, leftD_congr fun i hi => h i (by omega), h n (by omega)]
theorem leftD_one {D : Nat → Bool} {i : Nat} (h : D i = false) : ∀ {n : Nat}, i < n → leftD (fun j => D j || decide (j = i)) n + 1 = leftD D n
  | 0, hi => absurd hi (Nat.not_lt_zero i)
  | n + 1, hi => by
    rw [leftD, leftD]
    by_cases e : i = n
    · subst e
      rw [leftD_congr (E := D) fun j hj => by simp [show ¬ j = i from by omega], h]
      simp
    · have := leftD_one h (n := n) (by omega)
      simp only [show ¬ n = i from fun k => e k.symm, decide_false, Bool.or_false]
      omega
theorem leftD_all {D : Nat → Bool} (h : ∀ i, D i = false) : ∀ n, leftD D n = n
  | 0 => rfl
  | n + 1 => by rw [leftD, leftD_all h n, h]; rfl
section
variable {P : Program} {ops : Array Oper} {Q : Exit → Act → World → Prop} {md : Region.Mode} {I : (Nat → Bool) → Act → World → Prop}
theorem ready_done {listed : Array Bool} (hsort : ∀ (i : Nat) (o : Oper), ops[i]? = some o → ∀ e ∈ o.after, Region.binds md e = true → e.on < i) (hs : listed.size = ops.size) (h : Region.ready md ops listed = []) (i : Nat) (hi : i < ops.size) : listed.getD i false = true := by
  induction i using Nat.strongRecOn with
  | _ i ih =>
    cases hd : listed.getD i false with
    | true => rfl
    | false =>
      exfalso
      have hl : i < listed.size := by omega
      have hm : i ∈ Region.ready md ops listed := mem_ready.2 ⟨by rw [← hd, Array.getD_eq_getD_getElem?, Array.getD_eq_getD_getElem?, Array.getElem?_eq_getElem hl]; rfl, ops[i], Array.getElem?_eq_getElem hi, fun e he hb => ih e.on (hsort i _ (Array.getElem?_eq_getElem hi) e he hb) (Nat.lt_trans (hsort i _ (Array.getElem?_eq_getElem hi) e he hb) hi)⟩
      rw [h] at hm
      cases hm
theorem wpAny_inv (hsort : ∀ (i : Nat) (o : Oper), ops[i]? = some o → ∀ e ∈ o.after, Region.binds md e = true → e.on < i)
    (hstep : ∀ (D : Nat → Bool) (a : Act) (w : World) (i : Nat) (o : Oper), I D a w → ops[i]? = some o → D i = false → (∀ e ∈ o.after, Region.binds md e = true → D e.on = true) → wpOp P ops Q i (fun a' w' => I (fun j => D j || decide (j = i)) a' w') a w)
    (hend : ∀ (D : Nat → Bool) (a : Act) (w : World), I D a w → (∀ i, i < ops.size → D i = true) → Q .normal a w) :
    ∀ (fuel : Nat) (listed : Array Bool) (a : Act) (w : World), listed.size = ops.size → leftD (fun j => listed.getD j false) ops.size ≤ fuel → I (fun j => listed.getD j false) a w → wpAny P md ops Q fuel listed a w
  | 0, listed, a, w, hs, hf, hI => by
    have hall := leftD_zero (Nat.le_zero.1 hf)
    refine ⟨?_, hend _ a w hI hall⟩
    cases hr : Region.ready md ops listed with
    | nil => rfl
    | cons i l =>
      exfalso
      obtain ⟨h1, o, ho, _⟩ := mem_ready.1 (by rw [hr]; exact List.mem_cons_self : i ∈ Region.ready md ops listed)
      have hi := (Array.getElem?_eq_some_iff.1 ho).1
      have h2 := hall i hi
      rw [Array.getD_eq_getD_getElem?, Array.getElem?_eq_getElem (by omega)] at h1 h2
      exact absurd (h1.symm.trans h2) (by decide)
  | fuel + 1, listed, a, w, hs, hf, hI => by
    refine ⟨fun hr => hend _ a w hI (ready_done hsort hs hr), fun i hr => ?_⟩
    obtain ⟨h1, o, ho, hdep⟩ := mem_ready.1 hr
    have hi := (Array.getElem?_eq_some_iff.1 ho).1
    have h2 : listed.getD i false = false := by rw [← h1, Array.getD_eq_getD_getElem?, Array.getD_eq_getD_getElem?, Array.getElem?_eq_getElem (by omega)]; rfl
    have hE : (fun j => (listed.setIfInBounds i true).getD j false) = fun j => listed.getD j false || decide (j = i) := by
      funext j
      by_cases e : j = i
      · subst e
        rw [Array.getD_eq_getD_getElem?, Array.getElem?_setIfInBounds_self_of_lt (by omega)]
        simp
      · rw [getD_set_ne false (fun k => e k.symm)]
        simp [e]
    refine wpOp_mono (fun a' w' h => ?_) (hstep _ a w i o hI ho h2 hdep)
    have h3 := leftD_one (D := fun j => listed.getD j false) h2 hi
    exact wpAny_inv hsort hstep hend fuel _ a' w' (by rw [Array.size_setIfInBounds]; exact hs) (by rw [hE]; omega) (by rw [hE]; exact h)
theorem wp_region_inv {id : Nat} {a : Act} {w : World} (hm : P.follows .mixedOrders = true) (I : (Nat → Bool) → Act → World → Prop) (hsort : ∀ (i : Nat) (o : Oper), ops[i]? = some o → ∀ e ∈ o.after, Region.binds .any e = true → e.on < i)
    (h0 : I (fun _ => false) a { w with drawn := w.drawn + 1 })
    (hstep : ∀ (D : Nat → Bool) (a : Act) (w : World) (i : Nat) (o : Oper), I D a w → ops[i]? = some o → D i = false → (∀ e ∈ o.after, Region.binds .any e = true → D e.on = true) → wpOp P ops Q i (fun a' w' => I (fun j => D j || decide (j = i)) a' w') a w)
    (hend : ∀ (D : Nat → Bool) (a : Act) (w : World), I D a w → (∀ i, i < ops.size → D i = true) → Q .normal a w) : (Code.region id ops true).wp P Q a w := by
  have hE : (fun j => (Array.replicate ops.size false).getD j false) = fun _ => false := by
    funext j
    rw [Array.getD_eq_getD_getElem?, Array.getElem?_replicate]
    split <;> rfl
  refine wp_region_any hm (wpAny_inv hsort hstep hend ops.size _ a _ Array.size_replicate ?_ ?_)
  · rw [hE, leftD_all fun _ => rfl]
    exact Nat.le_refl _
  · rw [hE]
    exact h0
def sortB (ops : Array Oper) : Bool := (List.range ops.size).all fun i => match ops[i]? with | none => true | some o => o.after.all fun e => !Region.binds .any e || decide (e.on < i)
theorem sort_of (h : sortB ops = true) : ∀ (i : Nat) (o : Oper), ops[i]? = some o → ∀ e ∈ o.after, Region.binds .any e = true → e.on < i := by
  intro i o ho e he hb
  have h1 := List.all_eq_true.1 h i (List.mem_range.2 (Array.getElem?_eq_some_iff.1 ho).1)
  rw [ho] at h1
  have h2 := Array.all_eq_true_iff_forall_mem.1 h1 e he
  rw [hb] at h2
  exact of_decide_eq_true h2
theorem wpOp_of {i : Nat} {o : Oper} {a : Act} {w : World} {K : Act → World → Prop} (hi : ops[i]? = some o) (hg : o.guard = none) (h : o.wp P a w K Q) : wpOp P ops Q i K a w := by
  unfold wpOp
  rw [hi]
  have hw : Region.wanted o (yielded ops a.tmps) = true := by simp [Region.wanted, hg]
  simp only [hw, if_true]
  exact .inl h
end
end Go.Proofs.Ytdbpknmoacjodaa
namespace Go.Proofs.Ytdbpknmoacjodaa

structure SlG (a0 : Act) (f : Nat → Option Nat) (n : Nat) (V : Nat → Value) (D : Nat → Bool) (a : Act) : Prop where
  sz : a.tmps.size = a0.tmps.size
  df : a.defers = a0.defers
  oth : ∀ k, (∀ i, i < n → f i ≠ some k) → a.tmps[k]? = a0.tmps[k]?
  e : ∀ i, i < n → D i = true → ∀ s, f i = some s → a.tmps[s]? = some (V i)
def SlotsOk (a0 : Act) (f : Nat → Option Nat) (n : Nat) : Prop := ∀ i, i < n → ∀ s, f i = some s → s < a0.tmps.size ∧ ∀ j, j < n → f j = some s → j = i
section
variable {a0 a : Act} {f : Nat → Option Nat} {n : Nat} {V U : Nat → Value} {D : Nat → Bool}
theorem SlG.start (a0 : Act) (f : Nat → Option Nat) (n : Nat) (V : Nat → Value) : SlG a0 f n V (fun _ => false) a0 := ⟨rfl, rfl, fun _ _ => rfl, fun _ _ h => (by cases h)⟩
theorem SlG.put (h : SlG a0 f n V D a) (ok : SlotsOk a0 f n) {i s : Nat} (hi : i < n) (hf : f i = some s) : SlG a0 f n V (fun j => D j || decide (j = i)) (a.put (some s) (V i)) := by
  obtain ⟨h1, h2⟩ := ok i hi s hf
  refine ⟨?_, h.df, fun k hk => ?_, fun j hj hd t ht => ?_⟩
  · show (a.tmps.setIfInBounds _ _).size = _
    rw [Array.size_setIfInBounds]
    exact h.sz
  · show (a.tmps.setIfInBounds _ _)[k]? = _
    rw [Array.getElem?_setIfInBounds_ne (fun e => hk i hi (by rw [hf, e]))]
    exact h.oth k hk
  · show (a.tmps.setIfInBounds _ _)[t]? = _
    by_cases e : t = s
    · subst e
      obtain rfl := h2 j hj ht
      rw [Array.getElem?_setIfInBounds_self_of_lt (by rw [h.sz]; exact h1)]
    · rw [Array.getElem?_setIfInBounds_ne (fun k => e k.symm)]
      have hji : j ≠ i := fun k => by subst k; rw [hf] at ht; exact e (Option.some.inj ht).symm
      exact h.e j hj (by simpa [hji] using hd) t ht
theorem SlG.skip (h : SlG a0 f n V D a) {i : Nat} (hf : f i = none) (v : Value) : SlG a0 f n V (fun j => D j || decide (j = i)) (a.put none v) :=
  ⟨h.sz, h.df, h.oth, fun j hj hd t ht => h.e j hj (by
    have hji : j ≠ i := fun k => by subst k; rw [hf] at ht; cases ht
    simpa [hji] using hd) t ht⟩
theorem SlG.anew (h : SlG a0 f n V D a) (hu : ∀ i, i < n → D i = true → U i = V i) : SlG a0 f n U D a := ⟨h.sz, h.df, h.oth, fun i hi hd s hs => by rw [hu i hi hd]; exact h.e i hi hd s hs⟩
theorem SlG.all (h : SlG a0 f n V D a) (ok : SlotsOk a0 f n) (hd : ∀ i, i < n → D i = true) : a = (List.range n).foldl (fun b i => match f i with | some s => b.put (some s) (V i) | none => b) a0 := by
  have H : ∀ k, k ≤ n → ∀ b : Act, b = (List.range k).foldl (fun b i => match f i with | some s => b.put (some s) (V i) | none => b) a0 → b.tmps.size = a0.tmps.size ∧ b.defers = a0.defers ∧ (∀ j, (∀ i, i < k → f i ≠ some j) → b.tmps[j]? = a0.tmps[j]?) ∧ ∀ i, i < k → ∀ s, f i = some s → b.tmps[s]? = some (V i) := by
    intro k
    induction k with
    | zero => rintro _ b rfl; exact ⟨rfl, rfl, fun _ _ => rfl, fun i hi => absurd hi (Nat.not_lt_zero i)⟩
    | succ k ih =>
      rintro hk b rfl
      obtain ⟨h1, h2, h3, h4⟩ := ih (by omega) _ rfl
      rw [List.range_succ, List.foldl_append, List.foldl_cons, List.foldl_nil]
      generalize (List.range k).foldl (fun b i => match f i with | some s => b.put (some s) (V i) | none => b) a0 = b at h1 h2 h3 h4
      cases hf : f k with
      | none =>
        refine ⟨h1, h2, fun j hj => h3 j fun i hi => hj i (by omega), fun i hi s hs => ?_⟩
        have : i ≠ k := fun e => by rw [e, hf] at hs; cases hs
        exact h4 i (by omega) s hs
      | some t =>
        obtain ⟨o1, o2⟩ := ok k (by omega) t hf
        refine ⟨?_, h2, fun j hj => ?_, fun i hi s hs => ?_⟩
        · show (b.tmps.setIfInBounds _ _).size = _
          rw [Array.size_setIfInBounds]; exact h1
        · show (b.tmps.setIfInBounds _ _)[j]? = _
          rw [Array.getElem?_setIfInBounds_ne (fun e => hj k (by omega) (by rw [hf, e]))]
          exact h3 j fun i hi => hj i (by omega)
        · show (b.tmps.setIfInBounds _ _)[s]? = _
          by_cases e : s = t
          · subst e
            obtain rfl := o2 i (by omega) hs
            rw [Array.getElem?_setIfInBounds_self_of_lt (by omega)]
          · rw [Array.getElem?_setIfInBounds_ne (fun k => e k.symm)]
            have : i ≠ k := fun k' => by rw [k', hf] at hs; exact e (Option.some.inj hs).symm
            exact h4 i (by omega) s hs
  obtain ⟨h1, h2, h3, h4⟩ := H n (Nat.le_refl _) _ rfl
  generalize (List.range n).foldl (fun b i => match f i with | some s => b.put (some s) (V i) | none => b) a0 = b at h1 h2 h3 h4
  obtain ⟨ta, da⟩ := a
  obtain ⟨tb, db⟩ := b
  have e1 : da = db := h.df.trans h2.symm
  have e2 : ta = tb := Array.ext_getElem? fun k => by
    by_cases hk : ∀ i, i < n → f i ≠ some k
    · exact (h.oth k hk).trans (h3 k hk).symm
    · obtain ⟨i, hi⟩ := Classical.not_forall.1 hk
      obtain ⟨hi1, hi2⟩ := Classical.not_imp.1 hi
      have hi3 : f i = some k := Classical.not_not.1 hi2
      exact (h.e i hi1 (hd i hi1) k hi3).trans (h4 i hi1 k hi3).symm
  rw [e1, e2]
end
theorem opG_val {P : Program} {o : Oper} {a : Act} {w w' : World} {v : Value} {K : Act → World → Prop} {Q : Exit → Act → World → Prop} (hr : (execOp a.eval o).run P w = .ok (.value v) w') (h : K (a.put o.dst v) w') : o.wp P a w K Q := by
  unfold Oper.wp
  rw [hr]
  exact h
theorem evG_of {a : Act} {k : Nat} {v : Value} (h : a.tmps[k]? = some v) : a.tmps.getD k undef = v := by rw [Array.getD_eq_getD_getElem?, h]; rfl
theorem opG_skip {P : Program} {o : Oper} {a : Act} {w w' : World} {K : Act → World → Prop} {Q : Exit → Act → World → Prop} (hr : (execOp a.eval o).run P w = .ok .skip w') (h : K (a.put o.dst undef) w') : o.wp P a w K Q := by
  unfold Oper.wp
  rw [hr]
  exact h
theorem opG_call {P : Program} {o : Oper} {a : Act} {w : World} {f : FuncId} {args : Array Value} {K : Act → World → Prop} {Q : Exit → Act → World → Prop} (hr : (execOp a.eval o).run P w = .ok (.enter f args) w) (h : Calls P f args w fun e w' => ∃ v, e = .returned v ∧ K (a.put o.dst v) w') : o.wp P a w K Q := by
  unfold Oper.wp
  rw [hr]
  refine Calls.mono h ?_
  rintro e w' ⟨v, rfl, hk⟩
  exact hk
end Go.Proofs.Ytdbpknmoacjodaa
