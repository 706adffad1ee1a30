/-
  Rows that came in, of elements of any make. No program is spoken of.
-/
import Derived.Test.YtdbpknmoacjodaaCfRowStrToPutMath
import Derived.Deep.Slices
import Derived.OpenShut
import Derived.Below
namespace Go.Proofs.Ytdbpknmoacjodaa
open Go.RowKit Go.PlainAid Go.Deep

def RowAt {α : Type} (w : World) (a : Option Addr) (f : α → List Value) (m : Nat) (l : List α) : Prop :=
  l = [] ∨ ∃ b off, a = some ⟨b, off, none⟩ ∧ b < w.heap.size ∧ ∀ j x, l[j]? = some x → ∀ i v, (f x)[i]? = some v → w.cell? ⟨b, off + j * m + i, none⟩ = some v
theorem RowAt.later {α : Type} {w w' : World} {a : Option Addr} {f : α → List Value} {m : Nat} {l : List α} (h : RowAt w a f m l) (hb : Below w.heap.size w w') : RowAt w' a f m l := by
  rcases h with h | ⟨b, off, ha, hlt, hc⟩
  · exact .inl h
  · exact .inr ⟨b, off, ha, Nat.lt_of_lt_of_le hlt hb.size, fun j x hx i v hv => by rw [hb.cell hlt]; exact hc j x hx i v hv⟩
theorem RowAt.get {α : Type} {w : World} {a : Option Addr} {f : α → List Value} {m : Nat} {l : List α} (h : RowAt w a f m l) {j : Nat} {x : α} (hj : l[j]? = some x) : ∃ b off, a = some ⟨b, off, none⟩ ∧ ∀ i v, (f x)[i]? = some v → w.cell? ⟨b, off + j * m + i, none⟩ = some v := by
  rcases h with h | ⟨b, off, ha, hlt, hc⟩
  · rw [h] at hj
    cases hj
  · exact ⟨b, off, ha, hc j x hj⟩
theorem flat_at {α : Type} {f : α → List Value} {m : Nat} (hf : ∀ x, (f x).length = m) (l : List α) : ∀ (k : Nat) (x : α) (i : Nat) (v : Value), l[k]? = some x → (f x)[i]? = some v → (l.flatMap f)[k * m + i]? = some v := by
  induction l with
  | nil => intro k x i v h; cases h
  | cons y l ih =>
    intro k x i v h hv
    rw [List.flatMap_cons]
    cases k with
    | zero =>
      cases h
      rw [Nat.zero_mul, Nat.zero_add, List.getElem?_append_left (by rw [List.getElem?_eq_some_iff] at hv; exact hv.1)]
      exact hv
    | succ k =>
      rw [List.getElem?_append_right (by rw [hf, Nat.succ_mul]; omega), hf, show (k + 1) * m + i - m = k * m + i by rw [Nat.succ_mul]; omega]
      exact ih k x i v h hv
def SzOut (left : Int) (c : Nat) (e : Ending) : Prop := ∃ z : Int, e = .returned (.int .i64 z) ∧ -1 ≤ z ∧ z ≤ left ∧ (0 ≤ z → z + (c : Int) = left)
theorem add_in {w : World} {y : Addr} {v : Value} (h : w.cell? (y.add 0) = some v) : y = ⟨y.block, y.off, none⟩ ∧ y.block < w.heap.size := by
  have e0 : y.add 0 = y := by unfold Addr.add; simp
  rw [e0] at h
  obtain ⟨b, off, spot⟩ := y
  have hs : spot = none := by simpa using World.cell?_spot h
  subst hs
  refine ⟨rfl, ?_⟩
  show b < _
  rcases Nat.lt_or_ge b w.heap.size with k1 | k1
  · exact k1
  · have e2 : w.heap[b]? = none := Array.getElem?_eq_none k1
    simp [World.cell?, e2] at h
theorem add_at {y : Addr} (h : y = ⟨y.block, y.off, none⟩) (k : Nat) : y.add k = ⟨y.block, y.off + k, none⟩ := by
  obtain ⟨b, off, spot⟩ := y
  simp only [Addr.mk.injEq, true_and] at h
  subst h
  unfold Addr.add
  split
  · rename_i hk
    rw [hk, Nat.add_zero]
  · rfl
theorem row_open {H : Type} {enc : TypeId × Value → H} {P : Program} {w : World} {base fuel : Nat} {spare : Nat → Bool} {held : Bool} {α : Type} (x0 : α) {f : α → List Value} {m : Nat} (hm0 : 0 < m) (hf : ∀ x, (f x).length = m) {Q : α → Prop} {t e : TypeId} {v : Value} {z : DataW H × List MemPlace}
    (ht : P.underlying t = some (.slice e)) (ce : P.cellsOf e = m) (hd : ∀ n cs y, DataW.trod enc P w base spare held n e cs = some y → cs.length = m → ∃ x, cs = f x ∧ Q x)
    (h : DataW.trod enc P w base spare held fuel t [v] = some z) : ∃ (a : Option Addr) (cap : Nat) (l : List α), v = .slice a l.length cap ∧ l.length ≤ maxLen ∧ RowAt w a f m l ∧ ∀ x ∈ l, Q x := by
  haveI : Inhabited α := ⟨x0⟩
  rcases open_slice ht h with ⟨h0, _⟩ | ⟨a, len, cap, mm, n, D, Pl, h0, hb, hl, hm, hmm, _, hx⟩
  · simp only [List.cons.injEq, and_true] at h0
    exact ⟨none, 0, [], h0, Nat.zero_le _, .inl rfl, fun x hx => by cases hx⟩
  · simp only [List.cons.injEq, and_true] at h0
    have hlm : len ≤ mm := by rw [hmm]; split <;> omega
    have each : ∀ i, i < len → ∃ x : α, Q x ∧ ∀ j v, (f x)[j]? = some v → w.cell? (a.add (i * m + j)) = some v := by
      intro i hi
      obtain ⟨cs', h1, h2⟩ := hx i (by omega)
      rw [ce] at h1
      obtain ⟨_, hlen, hcell⟩ := World.cells?_some h1
      obtain ⟨x, rfl, hq⟩ := hd _ _ _ h2 hlen
      refine ⟨x, hq, fun j v hv => ?_⟩
      have hj : j < m := by have := (List.getElem?_eq_some_iff.1 hv).1; rw [hf] at this; exact this
      have := hcell j (by omega)
      rw [add_add] at this
      rw [this]
      exact hv
    obtain ⟨g, hg⟩ := choose_lt each
    have hlen : ((List.range len).map g).length = len := by simp
    refine ⟨some a, cap, (List.range len).map g, by rw [hlen]; exact h0, by rw [hlen]; omega, ?_, ?_⟩
    · by_cases hz : len = 0
      · exact .inl (by rw [hz]; rfl)
      · have hc0 : ∃ v0, w.cell? (a.add 0) = some v0 := by
          have := (hg 0 (by omega)).2 0 ((f (g 0))[0]'(by rw [hf]; exact hm0)) (List.getElem?_eq_getElem _)
          rw [Nat.zero_mul] at this
          exact ⟨_, this⟩
        obtain ⟨v0, hc0⟩ := hc0
        have ha := add_in hc0
        refine .inr ⟨a.block, a.off, by rw [← ha.1], ha.2, fun j x hj i v hv => ?_⟩
        have hj2 : j < len := by have := (List.getElem?_eq_some_iff.1 hj).1; rw [hlen] at this; exact this
        rw [List.getElem?_map, List.getElem?_range hj2] at hj
        cases hj
        have hc := (hg j hj2).2 i v hv
        rw [add_at ha.1] at hc
        rw [Nat.add_assoc]
        exact hc
    · intro x hx
      obtain ⟨i, hi, rfl⟩ := List.mem_map.1 hx
      exact (hg i (List.mem_range.1 hi)).1
end Go.Proofs.Ytdbpknmoacjodaa
