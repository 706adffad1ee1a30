/-
  A text put into a row that rises, as a plain function. No program is spoken of.
-/
import Derived.Test.YtjofmbgacmdpeaaRowStr
namespace Go.Proofs.Ytjofmbgacmdpeaa
open Go.RowKit Go.PlainAid

def lessT (s x : ByteArray) : Bool := Op.bytesLess s.toList x.toList
def insT (s : ByteArray) : List ByteArray → List ByteArray
  | [] => [s]
  | x :: l => if lessT s x then s :: x :: l else x :: insT s l
def putT (l : List ByteArray) (s : ByteArray) : List ByteArray := if inT l s then l else insT s l
theorem insT_none {s : ByteArray} (l : List ByteArray) (h : ∀ x ∈ l, lessT s x = false) : insT s l = l ++ [s] := by
  induction l with
  | nil => rfl
  | cons x l ih => rw [insT, h x (by simp), ih fun y hy => h y (by simp [hy])]; rfl
theorem insT_more {s y : ByteArray} (l : List ByteArray) (h : ∃ x ∈ l, lessT s x = true) : insT s (l ++ [y]) = insT s l ++ [y] := by
  induction l with
  | nil => obtain ⟨x, hx, _⟩ := h; cases hx
  | cons x l ih =>
    rw [List.cons_append, insT, insT]
    split
    · rfl
    · next hn =>
      rw [ih, List.cons_append]
      obtain ⟨z, hz, hl⟩ := h
      rcases List.mem_cons.1 hz with rfl | hz
      · exact absurd hl hn
      · exact ⟨z, hz, hl⟩
theorem insT_here {s y : ByteArray} (l : List ByteArray) (h : ∀ x ∈ l, lessT s x = false) (hy : lessT s y = true) : insT s (l ++ [y]) = l ++ [s] ++ [y] := by
  induction l with
  | nil => rw [List.nil_append, insT, if_pos hy]; rfl
  | cons x l ih => rw [List.cons_append, insT, h x (by simp), ih fun z hz => h z (by simp [hz])]; rfl
theorem insT_len (s : ByteArray) (l : List ByteArray) : (insT s l).length = l.length + 1 := by
  induction l with
  | nil => rfl
  | cons x l ih =>
    rw [insT]
    split
    · simp
    · rw [List.length_cons, ih, List.length_cons]
theorem putT_len (l : List ByteArray) (s : ByteArray) : (putT l s).length ≤ l.length + 1 := by
  unfold putT
  split
  · omega
  · rw [insT_len]; exact Nat.le_refl _
def underT (s : ByteArray) (b : Bool) (l : List ByteArray) : List ByteArray := if b then insT s l else l
def PutAt (s : ByteArray) (b : Bool) (l : List ByteArray) : Prop := if b then ∃ x ∈ l, lessT s x = true else ∀ x ∈ l, lessT s x = false
theorem take_snoc {α : Type} {l : List α} {j : Nat} {x : α} (h : l[j]? = some x) : l.take (j + 1) = l.take j ++ [x] := by
  obtain ⟨hj, rfl⟩ := List.getElem?_eq_some_iff.1 h
  exact List.take_succ_eq_append_getElem hj
theorem put_was {s y : ByteArray} {l : List ByteArray} (h : PutAt s true l) : underT s true (l ++ [y]) = underT s true l ++ [y] ∧ PutAt s true (l ++ [y]) := by
  obtain ⟨x, hx, hl⟩ := h
  exact ⟨insT_more l ⟨x, hx, hl⟩, x, List.mem_append_left _ hx, hl⟩
theorem put_now {s y : ByteArray} {l : List ByteArray} (h : PutAt s false l) (hy : lessT s y = true) : underT s true (l ++ [y]) = underT s false l ++ [s] ++ [y] ∧ PutAt s true (l ++ [y]) := ⟨insT_here l h hy, y, by simp, hy⟩
theorem put_not {s y : ByteArray} {l : List ByteArray} (h : PutAt s false l) (hy : lessT s y = false) : underT s false (l ++ [y]) = underT s false l ++ [y] ∧ PutAt s false (l ++ [y]) := by
  refine ⟨rfl, fun x hx => ?_⟩
  rcases List.mem_append.1 hx with hx | hx
  · exact h x hx
  · rw [List.mem_singleton] at hx
    rw [hx]
    exact hy
theorem put_end {s : ByteArray} {l : List ByteArray} (h : PutAt s false l) : insT s l = underT s false l ++ [s] := insT_none l h
end Go.Proofs.Ytjofmbgacmdpeaa
