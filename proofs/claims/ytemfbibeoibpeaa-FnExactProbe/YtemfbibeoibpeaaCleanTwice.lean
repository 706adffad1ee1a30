/-
  What is cleaned twice is cleaned once, and what Clean tells is empty just where there is no path: the plain facts. No program is spoken of.
-/
import Derived.Test.YtemfbibeoibpeaaCleanMath
namespace Go.Proofs.Ytemfbibeoibpeaa
open Go.RowKit Go.PlainAid

theorem bt_append (a b : ByteArray) (k : Nat) : bt (a ++ b) k = if k < a.size then bt a k else bt b (k - a.size) := by
  have hl : (a.data.toList.map (fun b => (b.toNat : Int))).length = a.size := by rw [List.length_map, Array.length_toList]; rfl
  rw [bt_list, append_list, List.map_append, List.getD]
  split
  · rename_i h
    rw [List.getElem?_append_left (by omega), bt_list a, List.getD]
  · rename_i h
    rw [List.getElem?_append_right (by omega), hl, bt_list b, List.getD]
theorem extract_mid (a b c : ByteArray) : (a ++ b ++ c).extract a.size (a.size + b.size) = b := by
  refine bytes_ext ?_
  have ha : a.data.toList.length = a.size := by rw [Array.length_toList]; rfl
  have hb : b.data.toList.length = b.size := by rw [Array.length_toList]; rfl
  rw [Lib.extract_data, append_list, append_list, List.append_assoc, List.drop_left' ha, show a.size + b.size - a.size = b.data.toList.length from by omega, List.take_left' rfl]
theorem bt_extract (s : ByteArray) (f k j : Nat) (h : f + j < k) : bt (s.extract f k) j = bt s (f + j) := by
  rw [bt_list, bt_list, Lib.extract_data, List.map_take, List.map_drop, List.getD, List.getD, List.getElem?_take, if_pos (by omega), List.getElem?_drop]

def Good (p : ByteArray) : Prop := p.toList.isEmpty = false ∧ (p.toList == [46]) = false ∧ (p.toList == [46, 46]) = false ∧ ∀ j, j < p.size → okc (bt p j) ∧ bt p j ≠ 47
def tot : List ByteArray → Nat
  | [] => 0
  | x :: l => x.size + 1 + tot l
theorem tot_append (a b : List ByteArray) : tot (a ++ b) = tot a + tot b := by
  induction a with
  | nil => simp [tot]
  | cons x a ih => simp only [List.cons_append, tot, ih]; omega
theorem tot_dropLast (l : List ByteArray) : tot l.dropLast ≤ tot l := by
  rcases List.eq_nil_or_concat l with rfl | ⟨a, x, rfl⟩
  · simp [tot]
  · rw [List.concat_eq_append, List.dropLast_concat, tot_append]
    omega
theorem clTo_inv (s : ByteArray) (hs : PathP s) (k : Nat) (hk : k ≤ s.size) :
    1 ≤ (clTo s (k + 1)).1 ∧ (clTo s (k + 1)).1 ≤ k + 1 ∧ tot (clTo s (k + 1)).2 + 1 ≤ (clTo s (k + 1)).1 ∧ (∀ j, (clTo s (k + 1)).1 ≤ j → j < k + 1 → bt s j ≠ 47) ∧ ∀ x ∈ (clTo s (k + 1)).2, Good x := by
  induction k with
  | zero =>
    have e : clTo s (0 + 1) = (0 + 1, upd (s.extract (clTo s 0).1 0) (clTo s 0).2) := clTo_part (fun h => h.2 hs.2.2.1)
    have hz : (s.extract 0 0).toList.isEmpty = true := by rw [Lib.toList_data, Lib.extract_data]; simp
    rw [e, clTo, upd_empty hz]
    exact ⟨by omega, by omega, by simp [tot], fun j h1 h2 => by omega, by simp⟩
  | succ k ih =>
    obtain ⟨i1, i2, i3, i4, i5⟩ := ih (by omega)
    by_cases h : k + 1 < s.size ∧ bt s (k + 1) ≠ 47
    · rw [clTo_on h.1 h.2]
      refine ⟨i1, by omega, i3, fun j h1 h2 => ?_, i5⟩
      by_cases e : j = k + 1
      · rw [e]; exact h.2
      · exact i4 j h1 (by omega)
    · rw [clTo_part h]
      generalize hst : clTo s (k + 1) = st at *
      obtain ⟨fr, xs⟩ := st
      simp only at i1 i2 i3 i4 i5 ⊢
      have hsz : (s.extract fr (k + 1)).size = k + 1 - fr := by rw [ByteArray.size_extract]; omega
      refine ⟨by omega, by omega, ?_, fun j h1 h2 => by omega, ?_⟩
      · unfold upd
        split
        · omega
        · split
          · rw [tot_append]; simp only [tot]; omega
          · have := tot_dropLast xs; omega
      · intro x hx
        unfold upd at hx
        split at hx
        · exact i5 x hx
        · rename_i hn
          split at hx
          · rename_i h46
            simp only [List.mem_append, List.mem_singleton] at hx
            rcases hx with hx | rfl
            · exact i5 x hx
            · have hn1 : (s.extract fr (k + 1)).toList.isEmpty = false := by
                rcases hx : (s.extract fr (k + 1)).toList.isEmpty with _ | _
                · rfl
                · exact absurd (.inl hx) hn
              have hn2 : ((s.extract fr (k + 1)).toList == [46]) = false := by
                rcases hx : ((s.extract fr (k + 1)).toList == [46]) with _ | _
                · rfl
                · exact absurd (.inr hx) hn
              refine ⟨hn1, hn2, h46, fun j hj => ?_⟩
              rw [hsz] at hj
              rw [bt_extract s fr (k + 1) j (by omega)]
              exact ⟨hs.2.2.2 _ (by omega), i4 _ (by omega) (by omega)⟩
          · exact i5 x ((List.dropLast_sublist xs).subset hx)

theorem bytes_assoc (a b c : ByteArray) : a ++ b ++ c = a ++ (b ++ c) := by
  refine bytes_ext ?_
  rw [append_list, append_list, append_list, append_list, List.append_assoc]
theorem joinTo_pre (l : List ByteArray) (m n : Nat) (h : m ≤ n) : ∃ r, joinTo l n = joinTo l m ++ r := by
  induction n with
  | zero =>
    obtain rfl : m = 0 := by omega
    exact ⟨{ data := #[] }, rfl⟩
  | succ n ih =>
    by_cases e : m = n + 1
    · subst e
      refine ⟨{ data := #[] }, bytes_ext ?_⟩
      rw [append_list]
      simp
    · obtain ⟨r, hr⟩ := ih (by omega)
      exact ⟨r ++ ({ data := #[47] } ++ l.getD n { data := #[] }), by rw [joinTo, hr, bytes_assoc, bytes_assoc]⟩
theorem one47 : ({ data := #[47] } : ByteArray).size = 1 := rfl
theorem bt_one47 : bt { data := #[47] } 0 = 47 := by decide
theorem joinTo_next (l : List ByteArray) (m : Nat) : (joinTo l (m + 1)).size = (joinTo l m).size + 1 + (l.getD m { data := #[] }).size := by
  rw [joinTo, ByteArray.size_append, ByteArray.size_append, one47]
theorem joinTo_mono (l : List ByteArray) (m n : Nat) (h : m ≤ n) : (joinTo l m).size ≤ (joinTo l n).size := by
  obtain ⟨r, hr⟩ := joinTo_pre l m n h
  rw [hr, ByteArray.size_append]
  omega
theorem join_slash (l : List ByteArray) (m n : Nat) (h : m < n) : bt (joinTo l n) (joinTo l m).size = 47 := by
  obtain ⟨r, hr⟩ := joinTo_pre l (m + 1) n h
  rw [hr, joinTo, bt_append, if_pos (by rw [ByteArray.size_append, ByteArray.size_append, one47]; omega), bt_append, if_pos (by rw [ByteArray.size_append, one47]; omega), bt_append, if_neg (by omega), Nat.sub_self, bt_one47]
theorem join_part (l : List ByteArray) (m n : Nat) (h : m < n) (j : Nat) (hj : j < (l.getD m { data := #[] }).size) : bt (joinTo l n) ((joinTo l m).size + 1 + j) = bt (l.getD m { data := #[] }) j := by
  obtain ⟨r, hr⟩ := joinTo_pre l (m + 1) n h
  rw [hr, joinTo, bt_append, if_pos (by rw [ByteArray.size_append, ByteArray.size_append, one47]; omega), bt_append, if_neg (by rw [ByteArray.size_append, one47]; omega), ByteArray.size_append, one47]
  congr 1
  omega
theorem join_extract (l : List ByteArray) (m n : Nat) (h : m < n) : (joinTo l n).extract ((joinTo l m).size + 1) (joinTo l (m + 1)).size = l.getD m { data := #[] } := by
  obtain ⟨r, hr⟩ := joinTo_pre l (m + 1) n h
  have e := extract_mid (joinTo l m ++ { data := #[47] }) (l.getD m { data := #[] }) r
  rw [ByteArray.size_append, one47] at e
  rw [hr, joinTo_next, joinTo]
  exact e
theorem clTo_join (l : List ByteArray) (hl : ∀ x ∈ l, Good x) (hn : 1 ≤ l.length) (m : Nat) (hm : m ≤ l.length) :
    clTo (joinTo l l.length) ((joinTo l m).size + 1) = ((joinTo l m).size + 1, l.take m) := by
  induction m with
  | zero =>
    have h0 : (joinTo l 0).size = 0 := rfl
    have hs := join_slash l 0 l.length (by omega)
    rw [h0] at hs ⊢
    have e : clTo (joinTo l l.length) (0 + 1) = (0 + 1, upd ((joinTo l l.length).extract (clTo (joinTo l l.length) 0).1 0) (clTo (joinTo l l.length) 0).2) := clTo_part (fun h => h.2 hs)
    have hz : ((joinTo l l.length).extract 0 0).toList.isEmpty = true := by rw [Lib.toList_data, Lib.extract_data]; simp
    rw [e, clTo, upd_empty hz, List.take_zero]
  | succ m ih =>
    have ih := ih (by omega)
    have hmem : l.getD m { data := #[] } ∈ l := by
      have e : l.getD m { data := #[] } = l[m] := by simp [List.getD, List.getElem?_eq_getElem (show m < l.length by omega)]
      rw [e]
      exact List.getElem_mem _
    have hg := hl _ hmem
    have hmono := joinTo_mono l (m + 1) l.length hm
    have hnx := joinTo_next l m
    have go : ∀ i, i ≤ (l.getD m { data := #[] }).size → clTo (joinTo l l.length) ((joinTo l m).size + 1 + i) = ((joinTo l m).size + 1, l.take m) := by
      intro i
      induction i with
      | zero => intro _; exact ih
      | succ i ihi =>
        intro hi
        rw [show (joinTo l m).size + 1 + (i + 1) = ((joinTo l m).size + 1 + i) + 1 from by omega, clTo_on (by omega) (by rw [join_part l m l.length (by omega) i (by omega)]; exact (hg.2.2.2 i (by omega)).2)]
        exact ihi (by omega)
    have hlast := go _ (Nat.le_refl _)
    rw [← hnx] at hlast
    have hend : ¬ ((joinTo l (m + 1)).size < (joinTo l l.length).size ∧ bt (joinTo l l.length) (joinTo l (m + 1)).size ≠ 47) := by
      rintro ⟨h1, h2⟩
      by_cases e : m + 1 = l.length
      · rw [e] at h1; omega
      · exact h2 (join_slash l (m + 1) l.length (by omega))
    rw [clTo_part hend, hlast]
    simp only
    rw [join_extract l m l.length (by omega), upd_name hg.1 hg.2.1 hg.2.2.1]
    congr 1
    rw [List.take_add_one]
    congr 1
    simp [List.getD, List.getElem?_eq_getElem (show m < l.length by omega)]
theorem parts_join (l : List ByteArray) (hl : ∀ x ∈ l, Good x) (hn : 1 ≤ l.length) : parts (joinTo l l.length) = l := by
  rw [parts, clTo_join l hl hn l.length (Nat.le_refl _), List.take_length]

theorem join_size (l : List ByteArray) (k : Nat) (hk : k ≤ l.length) : (joinTo l k).size = tot (l.take k) := by
  induction k with
  | zero => simp [tot, joinTo, ByteArray.size]
  | succ k ih =>
    rw [joinTo_next, ih (by omega), List.take_add_one, tot_append, List.getElem?_eq_getElem (show k < l.length by omega)]
    simp only [Option.toList_some, tot, List.getD, List.getElem?_eq_getElem (show k < l.length by omega), Option.getD_some]
    omega
theorem join_ok (l : List ByteArray) (hl : ∀ x ∈ l, Good x) (k : Nat) (hk : k ≤ l.length) : ∀ j, j < (joinTo l k).size → okc (bt (joinTo l k) j) := by
  induction k with
  | zero => intro j hj; exact absurd hj (Nat.not_lt_zero j)
  | succ k ih =>
    intro j hj
    have hmem : l.getD k { data := #[] } ∈ l := by
      have e : l.getD k { data := #[] } = l[k] := by simp [List.getD, List.getElem?_eq_getElem (show k < l.length by omega)]
      rw [e]
      exact List.getElem_mem _
    rw [joinTo_next] at hj
    rw [joinTo, bt_append]
    split
    · rw [bt_append]
      split
      · rename_i h; exact ih (by omega) j h
      · rename_i h1 h2
        rw [ByteArray.size_append, one47] at h1
        rw [show j - (joinTo l k).size = 0 from by omega, bt_one47]
        decide
    · rename_i h
      rw [ByteArray.size_append, one47] at h ⊢
      exact ((hl _ hmem).2.2.2 _ (by omega)).1
theorem cleanS_path (s : ByteArray) (h : pathB s = true) (hp : ¬ (parts s).length = 0) : pathB (joinTo (parts s) (parts s).length) = true ∧ ∀ x ∈ parts s, Good x := by
  have hP := pathB_iff.1 h
  obtain ⟨i1, i2, i3, _, i5⟩ := clTo_inv s hP s.size (Nat.le_refl _)
  have hz := join_size (parts s) _ (Nat.le_refl _)
  rw [List.take_length] at hz
  have h0 := join_slash (parts s) 0 (parts s).length (by omega)
  have hmono := joinTo_mono (parts s) 1 (parts s).length (by omega)
  rw [joinTo_next] at hmono
  refine ⟨pathB_yes ⟨by omega, ?_, h0, join_ok _ i5 _ (Nat.le_refl _)⟩, i5⟩
  have : tot (parts s) + 1 ≤ s.size + 1 := Nat.le_trans i3 i2
  have := hP.2.1
  omega
theorem ext_empty (s : ByteArray) (k : Nat) : (s.extract k k).toList.isEmpty = true := by rw [Lib.toList_data, Lib.extract_data]; simp
theorem cleanS_root_root : cleanS { data := #[47] } = { data := #[47] } := by
  have hp : pathB { data := #[47] } = true := by decide
  refine cleanS_root hp ?_
  have e1 : clTo { data := #[47] } 1 = (1, []) := by
    rw [clTo_part (k := 0) (fun h => h.2 bt_one47), clTo, upd_empty (ext_empty _ 0)]
  have e2 : clTo { data := #[47] } 2 = (2, []) := by
    rw [clTo_part (k := 1) (fun h => absurd h.1 (by decide)), e1, upd_empty (ext_empty _ 1)]
  show (clTo { data := #[47] } 2).2.length = 0
  rw [e2]
  rfl
theorem cleanS_empty : cleanS { data := #[] } = { data := #[] } := cleanS_no (by decide)
theorem cleanS_twice (s : ByteArray) : cleanS (cleanS s) = cleanS s := by
  by_cases h : pathB s = true
  · by_cases hp : (parts s).length = 0
    · rw [cleanS_root h hp, cleanS_root_root]
    · obtain ⟨h1, h2⟩ := cleanS_path s h hp
      rw [cleanS_yes h hp, cleanS_yes h1 (by rw [parts_join _ h2 (by omega)]; exact hp), parts_join _ h2 (by omega)]
  · have h' : pathB s = false := by simpa using h
    rw [cleanS_no h', cleanS_empty]
theorem cleanS_some (s : ByteArray) : (cleanS s).toList.isEmpty = !pathB s := by
  by_cases h : pathB s = true
  · rw [h]
    by_cases hp : (parts s).length = 0
    · rw [cleanS_root h hp, Lib.toList_data]; rfl
    · have h1 := (pathB_iff.1 (cleanS_path s h hp).1).1
      rw [cleanS_yes h hp, Lib.toList_data]
      rcases hx : (joinTo (parts s) (parts s).length).data.toList with _ | ⟨a, r⟩
      · exfalso
        have e : (joinTo (parts s) (parts s).length).data.toList.length = (joinTo (parts s) (parts s).length).size := by rw [Array.length_toList]; rfl
        rw [hx] at e
        simp only [List.length_nil] at e
        omega
      · rfl
  · have h' : pathB s = false := by simpa using h
    rw [cleanS_no h', h', Lib.toList_data]; rfl
end Go.Proofs.Ytemfbibeoibpeaa
