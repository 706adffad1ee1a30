/-
  Candidates of a request, as plain functions. No program is spoken of.
-/
import Derived.Test.YtdbpknmoacjodaaCpRowStrToPutMath
import Derived.Test.YtdbpknmoacjodaaCpLawFilesToSpecResolve
namespace Go.Proofs.Ytdbpknmoacjodaa
open Go.RowKit Go.PlainAid

abbrev tJs : ByteArray := { data := #[46, 106, 115] }
abbrev tIndex : ByteArray := { data := #[47, 105, 110, 100, 101, 120, 46, 106, 115] }
abbrev tLib : ByteArray := { data := #[47, 108, 105, 98, 47] }
def trio (b : ByteArray) : List ByteArray := [b, b ++ tJs, b ++ tIndex]
def addC (out : List ByteArray) (x : ByteArray) : List ByteArray := if pathB x && !inT out x then out ++ [x] else out
def candB (out : List ByteArray) (b : ByteArray) : List ByteArray := if b.toList.isEmpty then out else (trio b).foldl addC out
def candF (bs : List ByteArray) : List ByteArray := bs.foldl candB []
def relB (sp : ByteArray) : Bool := begB { data := #[47] } sp || begB { data := #[46, 47] } sp || begB { data := #[46, 46, 47] } sp
def libC (sp u : ByteArray) : ByteArray := cleanS (u ++ tLib ++ sp)
def baseC (f sp : ByteArray) : List ByteArray := if relB sp then [resolveS f sp] else (upL f).map (libC sp)
def candS (f sp : ByteArray) : List ByteArray := if pathB f then candF (baseC f sp) else []
theorem addC_yes {out : List ByteArray} {x : ByteArray} (h1 : pathB x = true) (h2 : inT out x = false) : addC out x = out ++ [x] := by rw [addC, h1, h2]; rfl
theorem addC_path {out : List ByteArray} {x : ByteArray} (h1 : pathB x = false) : addC out x = out := by rw [addC, h1]; rfl
theorem addC_in {out : List ByteArray} {x : ByteArray} (h2 : inT out x = true) : addC out x = out := by rw [addC, h2, Bool.not_true, Bool.and_false]; rfl
theorem addC_len (out : List ByteArray) (x : ByteArray) : (addC out x).length ≤ out.length + 1 := by
  unfold addC
  split
  · simp
  · omega
theorem foldC_len (l : List ByteArray) : ∀ out : List ByteArray, (l.foldl addC out).length ≤ out.length + l.length := by
  induction l with
  | nil => intro out; exact Nat.le_refl _
  | cons x l ih =>
    intro out
    have h1 := ih (addC out x)
    have h2 := addC_len out x
    rw [List.foldl_cons, List.length_cons]
    omega
theorem candB_len (out : List ByteArray) (b : ByteArray) : (candB out b).length ≤ out.length + 3 := by
  unfold candB
  split
  · omega
  · exact foldC_len (trio b) out
theorem candB_fold (l : List ByteArray) : ∀ out : List ByteArray, (l.foldl candB out).length ≤ out.length + 3 * l.length := by
  induction l with
  | nil => intro out; exact Nat.le_refl _
  | cons x l ih =>
    intro out
    have h1 := ih (candB out x)
    have h2 := candB_len out x
    rw [List.foldl_cons, List.length_cons]
    omega
theorem candF_len (bs : List ByteArray) : (candF bs).length ≤ 3 * bs.length := by
  have := candB_fold bs []
  rw [List.length_nil, Nat.zero_add] at this
  exact this
theorem fold_take {α β : Type} (f : β → α → β) (a : β) {l : List α} {j : Nat} {x : α} (h : l[j]? = some x) : (l.take (j + 1)).foldl f a = f ((l.take j).foldl f a) x := by
  obtain ⟨hj, rfl⟩ := List.getElem?_eq_some_iff.1 h
  rw [List.take_succ_eq_append_getElem hj, List.foldl_append]
  rfl
theorem map_take {α β : Type} (f : α → β) {l : List α} {j : Nat} {x : α} (h : l[j]? = some x) : (l.take (j + 1)).map f = (l.take j).map f ++ [f x] := by
  obtain ⟨hj, rfl⟩ := List.getElem?_eq_some_iff.1 h
  rw [List.take_succ_eq_append_getElem hj, List.map_append]
  rfl
theorem clean_2000 (s : ByteArray) : (cleanS s).size ≤ 2000 := by
  cases hp : pathB s with
  | false => rw [cleanS_no hp]; exact Nat.zero_le _
  | true =>
    by_cases h0 : (parts s).length = 0
    · rw [cleanS_root hp h0]
      show 1 ≤ 2000
      omega
    · rw [cleanS_yes hp h0]
      have h1 := joinTo_size s (parts s) (clTo_sizes s _) (parts s).length
      have hsz : s.size ≤ 40 := (pathB_iff.1 hp).2.1
      have h2 : (parts s).length * (s.size + 1) ≤ 41 * 41 := Nat.mul_le_mul (by have : (parts s).length ≤ s.size + 1 := (clTo_bd s _).2; omega) (by omega)
      omega
theorem upL_len (p : ByteArray) (h : (cleanS p).size ≤ 2000) : (upL p).length ≤ 2001 := by
  unfold upL upC
  have := upTo_len (cleanS p) ((cleanS p).size - 1)
  rw [List.length_append]
  split
  · simp; omega
  · simp; omega
theorem up_size (c : ByteArray) (k : Nat) : ∀ x ∈ upTo c k, x.size ≤ c.size := by
  induction k with
  | zero => intro x hx; cases hx
  | succ k ih =>
    intro x hx
    rw [upTo] at hx
    rcases List.mem_append.1 hx with hx | hx
    · split at hx
      · rw [List.mem_singleton] at hx
        rw [hx, ByteArray.size_extract]
        omega
      · cases hx
    · exact ih x hx
theorem upL_size (p : ByteArray) : ∀ x ∈ upL p, x.size ≤ (cleanS p).size + 1 := by
  intro x hx
  unfold upL upC at hx
  rcases List.mem_append.1 hx with hx | hx
  · have := up_size _ _ x hx
    omega
  · split at hx
    · rw [List.mem_singleton] at hx
      rw [hx]
      show 1 ≤ _
      omega
    · cases hx
theorem baseC_len (f sp : ByteArray) : (baseC f sp).length ≤ 2001 := by
  unfold baseC
  split
  · simp
  · rw [List.length_map]; exact upL_len f (clean_2000 f)
theorem resolve_2000 (f sp : ByteArray) : (resolveS f sp).size ≤ 2000 := by
  unfold resolveS
  split
  · exact Nat.zero_le _
  · split
    · exact clean_2000 _
    · split
      · exact clean_2000 _
      · exact clean_2000 _
theorem baseC_size (f sp : ByteArray) : ∀ x ∈ baseC f sp, x.size ≤ 2000 := by
  unfold baseC
  split
  · intro x hx
    rw [List.mem_singleton] at hx
    rw [hx]
    exact resolve_2000 f sp
  · intro x hx
    obtain ⟨u, _, rfl⟩ := List.mem_map.1 hx
    exact clean_2000 _
theorem candF_succ {bs : List ByteArray} {k : Nat} {b : ByteArray} (h : bs[k]? = some b) : candF (bs.take (k + 1)) = candB (candF (bs.take k)) b := fold_take candB [] h
theorem candB_empty {out : List ByteArray} {b : ByteArray} (h : b.toList.isEmpty = true) : candB out b = out := by rw [candB, if_pos h]
theorem candB_some {out : List ByteArray} {b : ByteArray} (h : b.toList.isEmpty = false) : candB out b = (trio b).foldl addC out := by rw [candB, h]; rfl
theorem trio_at (b : ByteArray) {m : Nat} (h : m < 3) : ∃ x, (trio b)[m]? = some x ∧ x.size ≤ b.size + 9 := by
  match m, h with
  | 0, _ => exact ⟨b, rfl, by omega⟩
  | 1, _ => exact ⟨b ++ tJs, rfl, by rw [ByteArray.size_append]; show b.size + 3 ≤ _; omega⟩
  | 2, _ => exact ⟨b ++ tIndex, rfl, by rw [ByteArray.size_append]; exact Nat.le_refl _⟩
theorem trio_cell {w : World} {g : Nat} {e : TypeId} {b x : ByteArray} {m : Nat} (h : w.heap[g]? = some (.cells #[.string b, .string (b ++ tJs), .string (b ++ tIndex)] e (0, 0))) (hx : (trio b)[m]? = some x) : w.cell? ⟨g, m, none⟩ = some (.string x) := by
  match m, hx with
  | 0, hx => cases hx; simp [World.cell?, h]
  | 1, hx => cases hx; simp [World.cell?, h]
  | 2, hx => cases hx; simp [World.cell?, h]
end Go.Proofs.Ytdbpknmoacjodaa
