/-
  What holds of the directories that a path is in: each begins it, is smaller than the one ahead of it, and is clean; the last one is the first directory of all. No program is spoken of.
-/
import Derived.Test.YtemfbibeoibpeaaUpMath
import Derived.Test.YtemfbibeoibpeaaPartMath
import Derived.Test.YtemfbibeoibpeaaCleanTwice
namespace Go.Proofs.Ytemfbibeoibpeaa
open Go.RowKit Go.PlainAid

theorem joinTo_take (l : List ByteArray) (m : Nat) : ∀ k, k ≤ m → joinTo (l.take m) k = joinTo l k := by
  intro k
  induction k with
  | zero => intro _; rfl
  | succ k ih =>
    intro hk
    rw [joinTo, joinTo, ih (by omega)]
    have e : (l.take m).getD k { data := #[] } = l.getD k { data := #[] } := by
      rw [List.getD_eq_getElem?_getD, List.getD_eq_getElem?_getD, List.getElem?_take_of_lt (by omega)]
    rw [e]
theorem good_some {p : ByteArray} (h : Good p) : 1 ≤ p.size := by
  have h0 := h.1
  rcases Nat.lt_or_ge 0 p.size with k | k
  · exact k
  · obtain ⟨⟨l⟩⟩ := p
    cases l with
    | nil => rw [Lib.toList_data] at h0; simp at h0
    | cons a l => simp [ByteArray.size] at k
theorem slash_at (l : List ByteArray) (hl : ∀ x ∈ l, Good x) : ∀ n, n ≤ l.length → ∀ k, k < (joinTo l n).size → bt (joinTo l n) k = 47 → ∃ m, m < n ∧ k = (joinTo l m).size := by
  intro n
  induction n with
  | zero =>
    intro _ k hk _
    have : (joinTo l 0).size = 0 := rfl
    omega
  | succ n ih =>
    intro hn k hk h
    rw [joinTo_next] at hk
    rcases Nat.lt_trichotomy k (joinTo l n).size with g | g | g
    · obtain ⟨r, e⟩ := joinTo_pre l n (n + 1) (by omega)
      rw [e, bt_append, if_pos g] at h
      obtain ⟨m, hm, hk'⟩ := ih (by omega) k g h
      exact ⟨m, by omega, hk'⟩
    · exact ⟨n, by omega, g⟩
    · have e := join_part l n (n + 1) (by omega) (k - (joinTo l n).size - 1) (by omega)
      rw [show (joinTo l n).size + 1 + (k - (joinTo l n).size - 1) = k from by omega] at e
      have hmem : l.getD n { data := #[] } ∈ l := by
        rw [List.getD_eq_getElem?_getD, List.getElem?_eq_getElem (by omega)]
        exact List.getElem_mem _
      exact absurd (e.symm.trans h) ((hl _ hmem).2.2.2 _ (by omega)).2
theorem join_ext (l : List ByteArray) (m n : Nat) (h : m ≤ n) : (joinTo l n).extract 0 (joinTo l m).size = joinTo l m := by
  obtain ⟨r, e⟩ := joinTo_pre l m n h
  rw [e]
  apply ByteArray.ext
  apply Array.ext'
  rw [Lib.extract_data]
  have e2 : (joinTo l m ++ r).data.toList = (joinTo l m).data.toList ++ r.data.toList := by simp
  have e3 : (joinTo l m).size = (joinTo l m).data.toList.length := by rw [Array.length_toList]; rfl
  rw [e2, e3]
  simp
theorem join_first (l : List ByteArray) (hl : ∀ x ∈ l, Good x) (m : Nat) (h1 : 1 ≤ m) (h : m ≤ l.length) : 2 ≤ (joinTo l m).size := by
  have e : (joinTo l 1).size = (joinTo l 0).size + 1 + (l.getD 0 { data := #[] }).size := joinTo_next l 0
  have h0 : (joinTo l 0).size = 0 := rfl
  have hm := joinTo_mono l 1 m h1
  have hmem : l.getD 0 { data := #[] } ∈ l := by
    rw [List.getD_eq_getElem?_getD, List.getElem?_eq_getElem (by omega)]
    exact List.getElem_mem _
  have := good_some (hl _ hmem)
  omega
theorem join_clean_self (l : List ByteArray) (hl : ∀ x ∈ l, Good x) (m : Nat) (h1 : 1 ≤ m) (h : m ≤ l.length) (hz : (joinTo l m).size ≤ 40) : cleanS (joinTo l m) = joinTo l m := by
  have hl' : ∀ x ∈ l.take m, Good x := fun x hx => hl x (List.mem_of_mem_take hx)
  have hlen : (l.take m).length = m := by simp; omega
  have e : joinTo (l.take m) (l.take m).length = joinTo l m := by rw [hlen]; exact joinTo_take l m m (Nat.le_refl _)
  have hp : parts (joinTo l m) = l.take m := by rw [← e]; exact parts_join _ hl' (by omega)
  have h2 := join_first l hl m h1 h
  have hpath : pathB (joinTo l m) = true := pathB_yes ⟨by omega, hz, join_slash l 0 m (by omega), join_ok l hl m h⟩
  rw [cleanS_yes hpath (by rw [hp, hlen]; omega), hp, e]
def UpOk (c x : ByteArray) : Prop := x.size < c.size ∧ (c.extract 0 x.size).toList = x.toList ∧ cleanS x = x
theorem ext_size (c : ByteArray) (k : Nat) (h : k ≤ c.size) : (c.extract 0 k).size = k := by simp [ByteArray.size_extract]; omega
theorem upTo_all (l : List ByteArray) (hl : ∀ x ∈ l, Good x) (n : Nat) (hn : n ≤ l.length) (hz : (joinTo l n).size ≤ 40) : ∀ k, k < (joinTo l n).size →
    (∀ x ∈ upTo (joinTo l n) k, UpOk (joinTo l n) x ∧ 2 ≤ x.size ∧ x.size ≤ k) ∧ (upTo (joinTo l n) k).Pairwise (fun a b => b.size < a.size) := by
  intro k
  induction k with
  | zero => intro _; exact ⟨fun x hx => by simp [upTo] at hx, List.Pairwise.nil⟩
  | succ k ih =>
    intro hk
    obtain ⟨i1, i2⟩ := ih (by omega)
    by_cases h : bt (joinTo l n) (k + 1) = 47
    · rw [upTo_yes h]
      obtain ⟨m, hm, e⟩ := slash_at l hl n hn (k + 1) hk h
      have h1 : 1 ≤ m := by
        rcases Nat.lt_or_ge 0 m with g | g
        · exact g
        · obtain rfl : m = 0 := by omega
          have : (joinTo l 0).size = 0 := rfl
          omega
      have e2 : (joinTo l n).extract 0 (k + 1) = joinTo l m := by rw [e]; exact join_ext l m n (by omega)
      have h2 := join_first l hl m h1 (by omega)
      refine ⟨fun x hx => ?_, List.Pairwise.cons (fun x hx => ?_) i2⟩
      · rcases List.mem_cons.1 hx with rfl | hx
        · refine ⟨⟨?_, ?_, ?_⟩, ?_, ?_⟩
          · rw [e2]; omega
          · rw [ext_size _ _ (by omega)]
          · rw [e2]; exact join_clean_self l hl m h1 (by omega) (by omega)
          · rw [e2]; exact h2
          · rw [e2]; omega
        · obtain ⟨a, b, c⟩ := i1 x hx
          exact ⟨a, b, by omega⟩
      · have := (i1 x hx).2.2
        rw [e2]
        omega
    · rw [upTo_no h]
      exact ⟨fun x hx => ⟨(i1 x hx).1, (i1 x hx).2.1, by have := (i1 x hx).2.2; omega⟩, i2⟩
theorem up_none (p : ByteArray) (h : (cleanS p).size ≤ 1) : upL p = [] := by
  rw [upL, upC, if_neg (by omega), show (cleanS p).size - 1 = 0 from by omega]
  rfl
theorem up_some (p : ByteArray) (h : 1 < (cleanS p).size) : ∃ xs, upL p = xs ++ [{ data := #[47] }] ∧ (∀ x ∈ upL p, UpOk (cleanS p) x) ∧ (upL p).Pairwise (fun a b => b.size < a.size) := by
  have e : upL p = upTo (cleanS p) ((cleanS p).size - 1) ++ [{ data := #[47] }] := by rw [upL, upC, if_pos h]
  by_cases hp : pathB p = true
  · by_cases h0 : (parts p).length = 0
    · rw [cleanS_root hp h0, one47] at h
      omega
    · obtain ⟨k1, k2⟩ := cleanS_path p hp h0
      have ec := cleanS_yes hp h0
      have hz := (pathB_iff.1 k1).2.1
      have hs := join_slash (parts p) 0 (parts p).length (by omega)
      obtain ⟨a1, a2⟩ := upTo_all (parts p) k2 (parts p).length (Nat.le_refl _) hz ((cleanS p).size - 1) (by rw [ec] at h ⊢; omega)
      rw [← ec] at a1 a2 hs
      refine ⟨_, e, fun x hx => ?_, ?_⟩
      · rw [e] at hx
        rcases List.mem_append.1 hx with hx | hx
        · exact (a1 x hx).1
        · obtain rfl := List.mem_singleton.1 hx
          refine ⟨h, ?_, cleanS_root_root⟩
          have h1 : (cleanS p).extract 0 ({ data := #[47] } : ByteArray).size = { data := #[47] } := by
            apply ByteArray.ext
            apply Array.ext'
            have hs0 : bt (cleanS p) 0 = 47 := hs
            rw [Lib.extract_data, one47]
            have hb := (byte_at (cleanS p) 0).2 ⟨by omega, hs0⟩
            cases hd : (cleanS p).data.toList with
            | nil => rw [hd] at hb; simp at hb
            | cons a t =>
              rw [hd] at hb
              simp at hb
              rw [hb]
              rfl
          rw [h1]
      · rw [e]
        refine List.pairwise_append.2 ⟨a2, List.pairwise_singleton _ _, fun a ha b hb => ?_⟩
        obtain rfl := List.mem_singleton.1 hb
        have := (a1 a ha).2.1
        rw [one47]
        omega
  · have h' : pathB p = false := by simpa using hp
    rw [cleanS_no h'] at h
    have : ({ data := #[] } : ByteArray).size = 0 := rfl
    omega
end Go.Proofs.Ytemfbibeoibpeaa
