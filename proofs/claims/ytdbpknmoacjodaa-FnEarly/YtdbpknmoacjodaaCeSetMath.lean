/-
  Texts that rise, each once, told by what is among them. No program is spoken of.
-/
import Derived.Test.YtdbpknmoacjodaaCeRowStrToLessMath
import Derived.Sort.KeysCollected
import Derived.Sort.Walk0
namespace Go.Proofs.Ytdbpknmoacjodaa
open Go.RowKit Go.PlainAid

def RisT (l : List ByteArray) : Prop := l.Pairwise fun a b => lessT a b = true
theorem lessT_is (a b : ByteArray) : lessT a b = decide (a.data.toList < b.data.toList) := by
  rw [lessT, bytesLess_eq, ByteArray.toList_eq, ByteArray.toList_eq]
theorem ltL {a b : List UInt8} (h : ¬ a < b) (hn : a ≠ b) : b < a := by
  refine Classical.byContradiction fun k => hn ?_
  exact List.le_antisymm (List.not_lt.1 k) (List.not_lt.1 h)
theorem lessT_trans {a b c : ByteArray} (h1 : lessT a b = true) (h2 : lessT b c = true) : lessT a c = true := less_trans _ _ _ h1 h2
theorem lessT_irr (a : ByteArray) : lessT a a = false := less_irr _
theorem lessT_total {a b : ByteArray} (h : lessT a b = false) (hn : a ≠ b) : lessT b a = true := by
  rw [lessT_is] at h ⊢
  have h2 : ¬ a.data.toList < b.data.toList := by simpa using h
  rw [decide_eq_true_eq]
  exact ltL h2 fun e => hn (bytes_ext e)
theorem inT_mem {l : List ByteArray} {s : ByteArray} : inT l s = true ↔ s ∈ l := by
  rw [inT, List.any_eq_true]
  constructor
  · rintro ⟨y, hy, e⟩
    rw [beq_iff_eq, ByteArray.toList_eq, ByteArray.toList_eq] at e
    exact bytes_ext e ▸ hy
  · intro h
    exact ⟨s, h, beq_self_eq_true _⟩
theorem insT_mem {s x : ByteArray} (l : List ByteArray) : x ∈ insT s l ↔ x = s ∨ x ∈ l := by
  induction l with
  | nil => simp [insT]
  | cons y l ih =>
    rw [insT]
    split
    · simp
    · rw [List.mem_cons, ih, List.mem_cons]
      constructor
      · rintro (h | h | h)
        · exact .inr (.inl h)
        · exact .inl h
        · exact .inr (.inr h)
      · rintro (h | h | h)
        · exact .inr (.inl h)
        · exact .inl h
        · exact .inr (.inr h)
theorem putT_mem {l : List ByteArray} {s x : ByteArray} : x ∈ putT l s ↔ x = s ∨ x ∈ l := by
  unfold putT
  split
  · next h => exact ⟨.inr, fun k => k.elim (fun e => e ▸ inT_mem.1 h) id⟩
  · exact insT_mem l
theorem insT_ris {s : ByteArray} {l : List ByteArray} (h : RisT l) (hn : s ∉ l) : RisT (insT s l) := by
  induction l with
  | nil => exact List.pairwise_cons.2 ⟨fun _ k => (by cases k), .nil⟩
  | cons y l ih =>
    obtain ⟨h1, h2⟩ := List.pairwise_cons.1 h
    rw [insT]
    split
    · next hl =>
      refine List.pairwise_cons.2 ⟨fun z hz => ?_, h⟩
      rcases List.mem_cons.1 hz with rfl | hz
      · exact hl
      · exact lessT_trans hl (h1 z hz)
    · next hl =>
      refine List.pairwise_cons.2 ⟨fun z hz => ?_, ih h2 fun k => hn (List.mem_cons_of_mem _ k)⟩
      rcases (insT_mem l).1 hz with rfl | hz
      · exact lessT_total (by simpa using hl) fun e => hn (e ▸ List.mem_cons_self ..)
      · exact h1 z hz
theorem putT_ris {s : ByteArray} {l : List ByteArray} (h : RisT l) : RisT (putT l s) := by
  unfold putT
  split
  · exact h
  · next hn => exact insT_ris h fun k => hn (inT_mem.2 k)
theorem putIf_ris {α : Type} (p : α → Bool) (f : α → ByteArray) (l : List α) : ∀ {acc : List ByteArray}, RisT acc → RisT (putIf p f l acc) := by
  induction l with
  | nil => exact fun h => h
  | cons x l ih =>
    intro acc h
    refine ih (acc := if p x = true then putT acc (f x) else acc) ?_
    split
    · exact putT_ris h
    · exact h
theorem putIf_mem {α : Type} (p : α → Bool) (f : α → ByteArray) (l : List α) {s : ByteArray} : ∀ {acc : List ByteArray}, s ∈ putIf p f l acc ↔ s ∈ acc ∨ s ∈ (l.filter p).map f := by
  induction l with
  | nil => intro acc; simp [putIf]
  | cons x l ih =>
    intro acc
    refine (ih (acc := if p x = true then putT acc (f x) else acc)).trans ?_
    rw [List.filter_cons]
    split
    · rw [putT_mem, List.map_cons, List.mem_cons]
      exact ⟨fun h => h.elim (fun h => h.elim (fun e => .inr (.inl e)) .inl) fun h => .inr (.inr h), fun h => h.elim (fun h => .inl (.inr h)) fun h => h.elim (fun e => .inl (.inl e)) .inr⟩
    · exact Iff.rfl
theorem ris_nodup {l : List ByteArray} (h : RisT l) : l.Nodup := h.imp fun {a b} hl e => by rw [e, lessT_irr] at hl; cases hl
theorem ris_one {l l' : List ByteArray} (h : RisT l) (h' : RisT l') (hm : ∀ s, s ∈ l ↔ s ∈ l') : l = l' := by
  refine List.Perm.eq_of_pairwise (le := fun a b => lessT a b = true) (fun a b _ _ h1 h2 => ?_) h h' ((List.perm_ext_iff_of_nodup (ris_nodup h) (ris_nodup h')).2 hm)
  have := lessT_trans h1 h2
  rw [lessT_irr] at this
  cases this
theorem ris_sorted {ss keys : List (List UInt8)} (hp : ss.Perm keys) (hn : keys.Nodup) {l : List ByteArray} (hl : RisT l) (hm : ∀ s : ByteArray, s.data.toList ∈ keys ↔ s ∈ l) :
    (ss.mergeSort fun x y => decide (x ≤ y)).map encStr = l.map Value.string := by
  have tr : ∀ a b c : List UInt8, decide (a ≤ b) = true → decide (b ≤ c) = true → decide (a ≤ c) = true := fun a b c h1 h2 => by simp only [decide_eq_true_eq] at *; exact List.le_trans h1 h2
  have to : ∀ a b : List UInt8, (decide (a ≤ b) || decide (b ≤ a)) = true := fun a b => by simp only [Bool.or_eq_true, decide_eq_true_eq]; exact List.le_total a b
  obtain ⟨t, ht⟩ : ∃ t, t = ss.mergeSort fun x y => decide (x ≤ y) := ⟨_, rfl⟩
  have hpt : t.Perm keys := by rw [ht]; exact (List.mergeSort_perm ss _).trans hp
  have hst := List.pairwise_mergeSort tr to ss
  rw [← ht] at hst ⊢
  have hnt : t.Nodup := hpt.nodup_iff.2 hn
  have e : t.map (fun x => (⟨x.toArray⟩ : ByteArray)) = l := by
    refine ris_one ?_ hl fun s => ?_
    · refine List.pairwise_map.2 ((List.Pairwise.and hst hnt).imp fun {a b} k => ?_)
      rw [lessT_is, decide_eq_true_eq]
      exact ltL (List.not_lt.2 (by simpa using k.1)) fun e => k.2 (by simpa using e.symm)
    · rw [← hm, ← hpt.mem_iff, List.mem_map]
      constructor
      · rintro ⟨x, hx, rfl⟩
        simpa using hx
      · intro h
        exact ⟨_, h, by simp⟩
  rw [← e, List.map_map]
  rfl
theorem use_ris (m : Md) : RisT (useAll m) := putIf_ris _ _ _ (putIf_ris _ _ _ (putIf_ris _ _ _ .nil))
theorem unused_ris (m : Md) : RisT (unusedL m) := putIf_ris _ _ _ .nil
def nmSt (l : List Sm) : List ByteArray := (l.filter fun x => x.kind == 3).map fun x => x.name
def nmEx (l : List Ex) : List ByteArray := (l.filter fun x => x.kind == 2 || x.kind == 3).map fun x => x.name
def nmMem (l : List Ex) : List ByteArray := (l.filter fun x => x.kind == 4 || x.kind == 5).map fun x => x.name
def nmEp (l : List Ep) : List ByteArray := (l.filter fun x => x.kind == 1).map fun x => x.loc
theorem use_mem (m : Md) (s : ByteArray) : s ∈ useAll m ↔ s ∈ nmSt m.st ++ nmEx m.ex ++ nmMem m.ex ++ nmEp m.ep := by
  unfold useAll useSt useEx
  rw [putIf_mem, putIf_mem, putIf_mem]
  have e : s ∈ (m.ex.filter fun x => namedB x.kind).map (fun x => x.name) ↔ s ∈ nmEx m.ex ∨ s ∈ nmMem m.ex := by
    simp only [nmEx, nmMem, List.mem_map, List.mem_filter, namedB, Bool.or_eq_true, beq_iff_eq]
    constructor
    · rintro ⟨x, ⟨hx, hk⟩, rfl⟩
      rcases hk with ((hk | hk) | hk) | hk
      · exact .inl ⟨x, ⟨hx, .inl hk⟩, rfl⟩
      · exact .inl ⟨x, ⟨hx, .inr hk⟩, rfl⟩
      · exact .inr ⟨x, ⟨hx, .inl hk⟩, rfl⟩
      · exact .inr ⟨x, ⟨hx, .inr hk⟩, rfl⟩
    · rintro (⟨x, ⟨hx, hk⟩, rfl⟩ | ⟨x, ⟨hx, hk⟩, rfl⟩)
      · exact ⟨x, ⟨hx, .inl (.inl hk)⟩, rfl⟩
      · exact ⟨x, ⟨hx, hk.elim (fun h => .inl (.inr h)) .inr⟩, rfl⟩
  rw [e]
  simp only [List.mem_append, List.not_mem_nil, false_or, nmSt, nmEp]
  constructor
  · rintro ((h | h) | h)
    · exact .inl (h.elim (fun k => .inl (.inr k)) .inr)
    · exact .inl (.inl (.inl h))
    · exact .inr h
  · rintro (((h | h) | h) | h)
    · exact .inl (.inr h)
    · exact .inl (.inl (.inl h))
    · exact .inl (.inl (.inr h))
    · exact .inr h
theorem unused_mem (m : Md) (s : ByteArray) : s ∈ unusedL m ↔ s ∈ (m.im.map fun x => x.loc).filter fun y => !inT (useAll m) y := by
  unfold unusedL
  rw [putIf_mem]
  simp only [List.not_mem_nil, false_or, List.mem_map, List.mem_filter]
  constructor
  · rintro ⟨x, ⟨hx, hk⟩, rfl⟩
    exact ⟨⟨x, hx, rfl⟩, hk⟩
  · rintro ⟨⟨x, hx, rfl⟩, hk⟩
    exact ⟨x, ⟨hx, hk⟩, rfl⟩
end Go.Proofs.Ytdbpknmoacjodaa
