/-
  A text put into a row that rises, as a plain function. No program is spoken of.
  What a program declares, as plain functions. No program is spoken of.
  What is used, as plain functions. No program is spoken of.
-/
import Derived.Test.YtaakfnclelcopaaCTrimLawBaseToRowStr
namespace Go.Proofs.Ytaakfnclelcopaa
open Go.RowKit Go.PlainAid

def lessT (s x : ByteArray) : Bool := Op.bytesLess s.toList x.toList
def insT (s : ByteArray) : List ByteArray → List ByteArray
  | [] => [s]
  | x :: l => if lessT s x then s :: x :: l else x :: insT s l
def putT (l : List ByteArray) (s : ByteArray) : List ByteArray := if inT l s then l else insT s l
theorem insT_none {s : ByteArray} (l : List ByteArray) (h : ∀ x ∈ l, lessT s x = false) : insT s l = l ++ [s] := by
  induction l with
  | nil => rfl
  | cons x l ih => rw [insT, h x (by simp), ih fun y hy => h y (by simp [hy])]; rfl
theorem insT_more {s y : ByteArray} (l : List ByteArray) (h : ∃ x ∈ l, lessT s x = true) : insT s (l ++ [y]) = insT s l ++ [y] := by
  induction l with
  | nil => obtain ⟨x, hx, _⟩ := h; cases hx
  | cons x l ih =>
    rw [List.cons_append, insT, insT]
    split
    · rfl
    · next hn =>
      rw [ih, List.cons_append]
      obtain ⟨z, hz, hl⟩ := h
      rcases List.mem_cons.1 hz with rfl | hz
      · exact absurd hl hn
      · exact ⟨z, hz, hl⟩
theorem insT_here {s y : ByteArray} (l : List ByteArray) (h : ∀ x ∈ l, lessT s x = false) (hy : lessT s y = true) : insT s (l ++ [y]) = l ++ [s] ++ [y] := by
  induction l with
  | nil => rw [List.nil_append, insT, if_pos hy]; rfl
  | cons x l ih => rw [List.cons_append, insT, h x (by simp), ih fun z hz => h z (by simp [hz])]; rfl
theorem insT_len (s : ByteArray) (l : List ByteArray) : (insT s l).length = l.length + 1 := by
  induction l with
  | nil => rfl
  | cons x l ih =>
    rw [insT]
    split
    · simp
    · rw [List.length_cons, ih, List.length_cons]
theorem putT_len (l : List ByteArray) (s : ByteArray) : (putT l s).length ≤ l.length + 1 := by
  unfold putT
  split
  · omega
  · rw [insT_len]; exact Nat.le_refl _
def underT (s : ByteArray) (b : Bool) (l : List ByteArray) : List ByteArray := if b then insT s l else l
def PutAt (s : ByteArray) (b : Bool) (l : List ByteArray) : Prop := if b then ∃ x ∈ l, lessT s x = true else ∀ x ∈ l, lessT s x = false
theorem put_was {s y : ByteArray} {l : List ByteArray} (h : PutAt s true l) : underT s true (l ++ [y]) = underT s true l ++ [y] ∧ PutAt s true (l ++ [y]) := by
  obtain ⟨x, hx, hl⟩ := h
  exact ⟨insT_more l ⟨x, hx, hl⟩, x, List.mem_append_left _ hx, hl⟩
theorem put_now {s y : ByteArray} {l : List ByteArray} (h : PutAt s false l) (hy : lessT s y = true) : underT s true (l ++ [y]) = underT s false l ++ [s] ++ [y] ∧ PutAt s true (l ++ [y]) := ⟨insT_here l h hy, y, by simp, hy⟩
theorem put_not {s y : ByteArray} {l : List ByteArray} (h : PutAt s false l) (hy : lessT s y = false) : underT s false (l ++ [y]) = underT s false l ++ [y] ∧ PutAt s false (l ++ [y]) := by
  refine ⟨rfl, fun x hx => ?_⟩
  rcases List.mem_append.1 hx with hx | hx
  · exact h x hx
  · rw [List.mem_singleton] at hx
    rw [hx]
    exact hy
theorem put_end {s : ByteArray} {l : List ByteArray} (h : PutAt s false l) : insT s l = underT s false l ++ [s] := insT_none l h
end Go.Proofs.Ytaakfnclelcopaa
namespace Go.Proofs.Ytaakfnclelcopaa
open Go.RowKit Go.PlainAid

abbrev dN : List UInt8 := [42, 100, 101, 102, 97, 117, 108, 116]
def decB (s : Sm) : Bool := (s.kind == 1 || s.kind == 2) && !(s.name.toList == dN)
def stN (l : List Sm) : List ByteArray := (l.filter decB).map (·.name)
def imN (l : List Im) : List ByteArray := l.map (·.loc)
def declS (m : Md) : List ByteArray := stN m.st ++ imN m.im
end Go.Proofs.Ytaakfnclelcopaa
namespace Go.Proofs.Ytaakfnclelcopaa
open Go.RowKit Go.PlainAid

def namedB (k : Int) : Bool := k == 2 || k == 3 || k == 4 || k == 5
def putIf {α : Type} (p : α → Bool) (f : α → ByteArray) (l : List α) (acc : List ByteArray) : List ByteArray := l.foldl (fun acc x => if p x = true then putT acc (f x) else acc) acc
theorem putIf_nil {α : Type} (p : α → Bool) (f : α → ByteArray) (acc : List ByteArray) : putIf p f [] acc = acc := rfl
theorem putIf_snoc {α : Type} {p : α → Bool} {f : α → ByteArray} {l : List α} {j : Nat} {x : α} (h : l[j]? = some x) (acc : List ByteArray) : putIf p f (l.take (j + 1)) acc = if p x = true then putT (putIf p f (l.take j) acc) (f x) else putIf p f (l.take j) acc := by
  obtain ⟨hj, rfl⟩ := List.getElem?_eq_some_iff.1 h
  rw [putIf, List.take_succ_eq_append_getElem hj, List.foldl_append]
  rfl
theorem putIf_len {α : Type} (p : α → Bool) (f : α → ByteArray) (l : List α) : ∀ acc : List ByteArray, (putIf p f l acc).length ≤ acc.length + l.length := by
  induction l with
  | nil => intro acc; exact Nat.le_refl _
  | cons x l ih =>
    intro acc
    show (putIf p f l (if p x = true then putT acc (f x) else acc)).length ≤ _
    refine Nat.le_trans (ih _) ?_
    rw [List.length_cons]
    split
    · have := putT_len acc (f x); omega
    · omega
def useEx (m : Md) : List ByteArray := putIf (fun x => namedB x.kind) (fun x => x.name) m.ex []
def useSt (m : Md) : List ByteArray := putIf (fun x => x.kind == 3) (fun x => x.name) m.st (useEx m)
def useAll (m : Md) : List ByteArray := putIf (fun x => x.kind == 1) (fun x => x.loc) m.ep (useSt m)
def unusedL (m : Md) : List ByteArray := putIf (fun x => !inT (useAll m) x.loc) (fun x => x.loc) m.im []
def trimMd (m : Md) : Md := { m with im := m.im.filter fun x => !inT (unusedL m) x.loc }
theorem use_len (m : Md) : (useAll m).length ≤ m.ex.length + m.st.length + m.ep.length := by
  have a := putIf_len (fun x : Ex => namedB x.kind) (fun x => x.name) m.ex []
  have b := putIf_len (fun x : Sm => x.kind == 3) (fun x => x.name) m.st (useEx m)
  have c := putIf_len (fun x : Ep => x.kind == 1) (fun x => x.loc) m.ep (useSt m)
  have e1 : (useEx m).length ≤ 0 + m.ex.length := a
  have e2 : (useSt m).length ≤ (useEx m).length + m.st.length := b
  have e3 : (useAll m).length ≤ (useSt m).length + m.ep.length := c
  omega
theorem unused_len (m : Md) : (unusedL m).length ≤ m.im.length := by
  have a := putIf_len (fun x : Im => !inT (useAll m) x.loc) (fun x => x.loc) m.im []
  have e : (unusedL m).length ≤ 0 + m.im.length := a
  omega
def frEx (m : Md) : List ByteArray := putIf (fun x => (x.kind == 2 || x.kind == 3) && !inT (declS m) x.name) (fun x => x.name) m.ex []
def freeL (m : Md) : List ByteArray := putIf (fun x => x.kind == 3 && !inT (declS m) x.name) (fun x => x.name) m.st (frEx m)
theorem free_len (m : Md) : (freeL m).length ≤ m.ex.length + m.st.length := by
  have a := putIf_len (fun x : Ex => (x.kind == 2 || x.kind == 3) && !inT (declS m) x.name) (fun x => x.name) m.ex []
  have b := putIf_len (fun x : Sm => x.kind == 3 && !inT (declS m) x.name) (fun x => x.name) m.st (frEx m)
  have e1 : (frEx m).length ≤ 0 + m.ex.length := a
  have e2 : (freeL m).length ≤ (frEx m).length + m.st.length := b
  omega
theorem take_onD {α : Type} {l : List α} {j : Nat} {x : α} (h : l[j]? = some x) : l.take (j + 1) = l.take j ++ [x] := by
  obtain ⟨hj, rfl⟩ := List.getElem?_eq_some_iff.1 h
  exact List.take_succ_eq_append_getElem hj
theorem stN_next {l : List Sm} {j : Nat} {x : Sm} (h : l[j]? = some x) : stN (l.take (j + 1)) = if decB x = true then stN (l.take j) ++ [x.name] else stN (l.take j) := by
  rw [take_onD h, stN, stN, List.filter_append]
  cases hd : decB x <;> simp [hd]
theorem stN_len (l : List Sm) : (stN l).length ≤ l.length := by rw [stN, List.length_map]; exact List.length_filter_le _ _
theorem fil_next {α : Type} (p : α → Bool) {l : List α} {j : Nat} {x : α} (h : l[j]? = some x) : (l.take (j + 1)).filter p = if p x = true then (l.take j).filter p ++ [x] else (l.take j).filter p := by
  rw [take_onD h, List.filter_append]
  cases hd : p x <;> simp [hd]
theorem imN_next {l : List Im} {j : Nat} {x : Im} (ns : List ByteArray) (h : l[j]? = some x) : ns ++ imN (l.take (j + 1)) = ns ++ imN (l.take j) ++ [x.loc] := by
  rw [take_onD h, imN, imN, List.map_append, List.append_assoc]
  rfl
end Go.Proofs.Ytaakfnclelcopaa
