/-
  Candidates one behind the other: what pathsFor tells of each, and which of these are new. No program is spoken of.
-/
import Derived.Test.YtemfbibeoibpeaaCandMath
import Derived.Test.YtemfbibeoibpeaaUpSeq
namespace Go.Proofs.Ytemfbibeoibpeaa
open Go.RowKit Go.PlainAid

def pathsC (b : ByteArray) : List ByteArray := if b.toList.isEmpty then [] else (trio b).filter pathB
def addT (out : List ByteArray) (x : ByteArray) : List ByteArray := if inT out x then out else out ++ [x]
theorem addT_in {out : List ByteArray} {x : ByteArray} (h : inT out x = true) : addT out x = out := by rw [addT, if_pos h]
theorem addT_new {out : List ByteArray} {x : ByteArray} (h : inT out x = false) : addT out x = out ++ [x] := by rw [addT, h]; rfl
theorem addT_pre (out : List ByteArray) (x : ByteArray) : out <+: addT out x := by
  unfold addT
  split
  · exact List.prefix_rfl
  · exact List.prefix_append _ _
theorem foldT_pre (l : List ByteArray) : ∀ out : List ByteArray, out <+: l.foldl addT out := by
  induction l with
  | nil => intro out; exact List.prefix_rfl
  | cons x l ih => intro out; exact (addT_pre out x).trans (ih _)
theorem foldC_filter (l : List ByteArray) : ∀ out : List ByteArray, l.foldl addC out = (l.filter pathB).foldl addT out := by
  induction l with
  | nil => intro out; rfl
  | cons x l ih =>
    intro out
    rw [List.foldl_cons, ih, List.filter_cons]
    cases hp : pathB x with
    | false => rw [addC_path hp]; rfl
    | true =>
      rw [if_pos rfl, List.foldl_cons]
      congr 1
      cases hi : inT out x with
      | true => rw [addC_in hi, addT_in hi]
      | false => rw [addC_yes hp hi, addT_new hi]
theorem candB_paths (out : List ByteArray) (b : ByteArray) : candB out b = (pathsC b).foldl addT out := by
  unfold candB pathsC
  split
  · rfl
  · exact foldC_filter _ _
theorem candB_pre (out : List ByteArray) (b : ByteArray) : out <+: candB out b := by rw [candB_paths]; exact foldT_pre _ _
theorem candF_snoc (bs : List ByteArray) (b : ByteArray) : candF (bs ++ [b]) = candB (candF bs) b := by rw [candF, List.foldl_append]; rfl
theorem candF_pre (l : List ByteArray) : ∀ bs : List ByteArray, candF bs <+: candF (bs ++ l) := by
  induction l with
  | nil => intro bs; rw [List.append_nil]; exact List.prefix_rfl
  | cons x l ih =>
    intro bs
    have h := ih (bs ++ [x])
    rw [List.append_assoc, List.singleton_append, candF_snoc] at h
    exact (candB_pre _ _).trans h
theorem pathsC_len (b : ByteArray) : (pathsC b).length ≤ 3 := by
  unfold pathsC
  split
  · exact Nat.zero_le _
  · exact List.length_filter_le _ _
theorem clean_none {f : ByteArray} (h : pathB f = false) : upL f = [] := up_none f (by rw [cleanS_no h]; exact Nat.zero_le _)
theorem cand_base (f sp : ByteArray) : candF (baseC f sp) = candS f sp := by
  unfold candS
  cases hp : pathB f with
  | true => rfl
  | false =>
    show candF (baseC f sp) = []
    unfold baseC
    split
    · have e : resolveS f sp = { data := #[] } := by rw [resolveS, hp]; rfl
      rw [e]
      exact candB_empty (by rw [Lib.toList_data]; rfl)
    · rw [clean_none hp]
      rfl
theorem filter_take {l : List ByteArray} {k : Nat} {x : ByteArray} (h : l[k]? = some x) (p : ByteArray → Bool) : (l.take (k + 1)).filter p = (l.take k).filter p ++ if p x then [x] else [] := by
  obtain ⟨hk, rfl⟩ := List.getElem?_eq_some_iff.1 h
  rw [List.take_succ_eq_append_getElem hk, List.filter_append]
  cases hp : p l[k] <;> simp [hp]
end Go.Proofs.Ytemfbibeoibpeaa
