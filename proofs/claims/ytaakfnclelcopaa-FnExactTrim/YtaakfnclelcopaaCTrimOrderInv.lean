/-
  A region that draws its order, by what holds of the operations that have come up so far. No program is spoken of.
-/
import Derived.Orders
namespace Go.Proofs.Ytaakfnclelcopaa

def leftD (D : Nat → Bool) : Nat → Nat
  | 0 => 0
  | n + 1 => leftD D n + if D n = true then 0 else 1
theorem leftD_zero {D : Nat → Bool} : ∀ {n : Nat}, leftD D n = 0 → ∀ i, i < n → D i = true
  | 0, _, i, hi => absurd hi (Nat.not_lt_zero i)
  | n + 1, h, i, hi => by
    rw [leftD] at h
    by_cases hn : D n = true
    · by_cases e : i = n
      · rw [e]; exact hn
      · rw [if_pos hn] at h; exact leftD_zero (n := n) (by omega) i (by omega)
    · rw [if_neg hn] at h
      omega
theorem leftD_congr {D E : Nat → Bool} : ∀ {n : Nat}, (∀ i, i < n → D i = E i) → leftD D n = leftD E n
  | 0, _ => rfl
  | n + 1, h => by rw [leftD, leftD, leftD_congr fun i hi => h i (by omega), h n (by omega)]
theorem leftD_one {D : Nat → Bool} {i : Nat} (h : D i = false) : ∀ {n : Nat}, i < n → leftD (fun j => D j || decide (j = i)) n + 1 = leftD D n
  | 0, hi => absurd hi (Nat.not_lt_zero i)
  | n + 1, hi => by
    rw [leftD, leftD]
    by_cases e : i = n
    · subst e
      rw [leftD_congr (E := D) fun j hj => by simp [show ¬ j = i from by omega], h]
      simp
    · have := leftD_one h (n := n) (by omega)
      simp only [show ¬ n = i from fun k => e k.symm, decide_false, Bool.or_false]
      omega
theorem leftD_all {D : Nat → Bool} (h : ∀ i, D i = false) : ∀ n, leftD D n = n
  | 0 => rfl
  | n + 1 => by rw [leftD, leftD_all h n, h]; rfl
section
variable {P : Program} {ops : Array Oper} {Q : Exit → Act → World → Prop} {md : Region.Mode} {I : (Nat → Bool) → Act → World → Prop}
theorem ready_done {listed : Array Bool} (hsort : ∀ (i : Nat) (o : Oper), ops[i]? = some o → ∀ e ∈ o.after, Region.binds md e = true → e.on < i) (hs : listed.size = ops.size) (h : Region.ready md ops listed = []) (i : Nat) (hi : i < ops.size) : listed.getD i false = true := by
  induction i using Nat.strongRecOn with
  | _ i ih =>
    cases hd : listed.getD i false with
    | true => rfl
    | false =>
      exfalso
      have hl : i < listed.size := by omega
      have hm : i ∈ Region.ready md ops listed := mem_ready.2 ⟨by rw [← hd, Array.getD_eq_getD_getElem?, Array.getD_eq_getD_getElem?, Array.getElem?_eq_getElem hl]; rfl, ops[i], Array.getElem?_eq_getElem hi, fun e he hb => ih e.on (hsort i _ (Array.getElem?_eq_getElem hi) e he hb) (Nat.lt_trans (hsort i _ (Array.getElem?_eq_getElem hi) e he hb) hi)⟩
      rw [h] at hm
      cases hm
theorem wpAny_inv (hsort : ∀ (i : Nat) (o : Oper), ops[i]? = some o → ∀ e ∈ o.after, Region.binds md e = true → e.on < i)
    (hstep : ∀ (D : Nat → Bool) (a : Act) (w : World) (i : Nat) (o : Oper), I D a w → ops[i]? = some o → D i = false → (∀ e ∈ o.after, Region.binds md e = true → D e.on = true) → wpOp P ops Q i (fun a' w' => I (fun j => D j || decide (j = i)) a' w') a w)
    (hend : ∀ (D : Nat → Bool) (a : Act) (w : World), I D a w → (∀ i, i < ops.size → D i = true) → Q .normal a w) :
    ∀ (fuel : Nat) (listed : Array Bool) (a : Act) (w : World), listed.size = ops.size → leftD (fun j => listed.getD j false) ops.size ≤ fuel → I (fun j => listed.getD j false) a w → wpAny P md ops Q fuel listed a w
  | 0, listed, a, w, hs, hf, hI => by
    have hall := leftD_zero (Nat.le_zero.1 hf)
    refine ⟨?_, hend _ a w hI hall⟩
    cases hr : Region.ready md ops listed with
    | nil => rfl
    | cons i l =>
      exfalso
      obtain ⟨h1, o, ho, _⟩ := mem_ready.1 (by rw [hr]; exact List.mem_cons_self : i ∈ Region.ready md ops listed)
      have hi := (Array.getElem?_eq_some_iff.1 ho).1
      have h2 := hall i hi
      rw [Array.getD_eq_getD_getElem?, Array.getElem?_eq_getElem (by omega)] at h1 h2
      exact absurd (h1.symm.trans h2) (by decide)
  | fuel + 1, listed, a, w, hs, hf, hI => by
    refine ⟨fun hr => hend _ a w hI (ready_done hsort hs hr), fun i hr => ?_⟩
    obtain ⟨h1, o, ho, hdep⟩ := mem_ready.1 hr
    have hi := (Array.getElem?_eq_some_iff.1 ho).1
    have h2 : listed.getD i false = false := by rw [← h1, Array.getD_eq_getD_getElem?, Array.getD_eq_getD_getElem?, Array.getElem?_eq_getElem (by omega)]; rfl
    have hE : (fun j => (listed.setIfInBounds i true).getD j false) = fun j => listed.getD j false || decide (j = i) := by
      funext j
      by_cases e : j = i
      · subst e
        rw [Array.getD_eq_getD_getElem?, Array.getElem?_setIfInBounds_self_of_lt (by omega)]
        simp
      · rw [getD_set_ne false (fun k => e k.symm)]
        simp [e]
    refine wpOp_mono (fun a' w' h => ?_) (hstep _ a w i o hI ho h2 hdep)
    have h3 := leftD_one (D := fun j => listed.getD j false) h2 hi
    exact wpAny_inv hsort hstep hend fuel _ a' w' (by rw [Array.size_setIfInBounds]; exact hs) (by rw [hE]; omega) (by rw [hE]; exact h)
theorem wp_region_inv {id : Nat} {a : Act} {w : World} (hm : P.follows .mixedOrders = true) (I : (Nat → Bool) → Act → World → Prop) (hsort : ∀ (i : Nat) (o : Oper), ops[i]? = some o → ∀ e ∈ o.after, Region.binds .any e = true → e.on < i)
    (h0 : I (fun _ => false) a { w with drawn := w.drawn + 1 })
    (hstep : ∀ (D : Nat → Bool) (a : Act) (w : World) (i : Nat) (o : Oper), I D a w → ops[i]? = some o → D i = false → (∀ e ∈ o.after, Region.binds .any e = true → D e.on = true) → wpOp P ops Q i (fun a' w' => I (fun j => D j || decide (j = i)) a' w') a w)
    (hend : ∀ (D : Nat → Bool) (a : Act) (w : World), I D a w → (∀ i, i < ops.size → D i = true) → Q .normal a w) : (Code.region id ops true).wp P Q a w := by
  have hE : (fun j => (Array.replicate ops.size false).getD j false) = fun _ => false := by
    funext j
    rw [Array.getD_eq_getD_getElem?, Array.getElem?_replicate]
    split <;> rfl
  refine wp_region_any hm (wpAny_inv hsort hstep hend ops.size _ a _ Array.size_replicate ?_ ?_)
  · rw [hE, leftD_all fun _ => rfl]
    exact Nat.le_refl _
  · rw [hE]
    exact h0
def sortB (ops : Array Oper) : Bool := (List.range ops.size).all fun i => match ops[i]? with | none => true | some o => o.after.all fun e => !Region.binds .any e || decide (e.on < i)
theorem sort_of (h : sortB ops = true) : ∀ (i : Nat) (o : Oper), ops[i]? = some o → ∀ e ∈ o.after, Region.binds .any e = true → e.on < i := by
  intro i o ho e he hb
  have h1 := List.all_eq_true.1 h i (List.mem_range.2 (Array.getElem?_eq_some_iff.1 ho).1)
  rw [ho] at h1
  have h2 := Array.all_eq_true_iff_forall_mem.1 h1 e he
  rw [hb] at h2
  exact of_decide_eq_true h2
theorem wpOp_of {i : Nat} {o : Oper} {a : Act} {w : World} {K : Act → World → Prop} (hi : ops[i]? = some o) (hg : o.guard = none) (h : o.wp P a w K Q) : wpOp P ops Q i K a w := by
  unfold wpOp
  rw [hi]
  have hw : Region.wanted o (yielded ops a.tmps) = true := by simp [Region.wanted, hg]
  simp only [hw, if_true]
  exact .inl h
end
end Go.Proofs.Ytaakfnclelcopaa
