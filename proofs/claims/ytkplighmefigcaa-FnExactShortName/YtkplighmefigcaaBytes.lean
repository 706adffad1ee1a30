/-
  Plain facts on texts as lists of numbers. No program is spoken of.
-/
import Derived.Test.YtkplighmefigcaaStr
import Derived.Lib.Strings
namespace Go.Proofs.Ytkplighmefigcaa
open Go.RowKit Go.PlainAid

theorem strOfNums_back (l : List Int) (h : ∀ x ∈ l, 0 ≤ x ∧ x ≤ 255) : (strOfNums l).data.toList.map (fun b => (b.toNat : Int)) = l := by
  rw [strOfNums_data, List.map_map]
  conv => rhs; rw [← List.map_id l]
  apply List.map_congr_left
  intro x hx
  have := h x hx
  simp only [Function.comp, id, UInt8.toNat_ofNat']
  omega
theorem strOfNums_inj {a b : List Int} (ha : ∀ x ∈ a, 0 ≤ x ∧ x ≤ 255) (hb : ∀ x ∈ b, 0 ≤ x ∧ x ≤ 255) (h : strOfNums a = strOfNums b) : a = b := by
  rw [← strOfNums_back a ha, ← strOfNums_back b hb, h]

def bsl (s : ByteArray) : Nat → Nat → List Int
  | _, 0 => []
  | i, m + 1 => bt s i :: bsl s (i + 1) m
theorem bsl_length (s : ByteArray) (i m : Nat) : (bsl s i m).length = m := by
  induction m generalizing i with
  | zero => rfl
  | succ m ih => simp [bsl, ih]
theorem bsl_bd (s : ByteArray) (i m : Nat) : ∀ x ∈ bsl s i m, 0 ≤ x ∧ x ≤ 255 := by
  induction m generalizing i with
  | zero => simp [bsl]
  | succ m ih =>
    intro x hx
    simp only [bsl, List.mem_cons] at hx
    rcases hx with rfl | hx
    · exact ⟨bt_nonneg s i, bt_le s i⟩
    · exact ih (i + 1) x hx
theorem ofNat_bt (s : ByteArray) (i : Nat) (h : i < s.data.toList.length) : UInt8.ofNat (bt s i).toNat = s.data.toList[i] := by
  have hs : i < s.size := by simpa using h
  rw [← get_bt s i hs, Int.toNat_natCast, UInt8.ofNat_toNat]
  rfl
theorem bsl_data (s : ByteArray) (i m : Nat) (h : i + m ≤ s.size) : (bsl s i m).map (fun n => UInt8.ofNat n.toNat) = (s.data.toList.drop i).take m := by
  induction m generalizing i with
  | zero => simp [bsl]
  | succ m ih =>
    have hl : i < s.data.toList.length := by rw [Array.length_toList]; exact Nat.lt_of_lt_of_le (show i < i + (m + 1) by omega) h
    rw [bsl, List.map_cons, ih (i + 1) (by omega), List.drop_eq_getElem_cons hl, List.take_succ_cons, ofNat_bt s i hl]
theorem extract_bsl (s : ByteArray) (k : Nat) (h : k ≤ s.size) : s.extract 0 k = strOfNums (bsl s 0 k) := by
  have e : (s.extract 0 k).data.toList = (strOfNums (bsl s 0 k)).data.toList := by
    rw [Lib.extract_data, strOfNums_data, bsl_data s 0 k (by omega), Nat.sub_zero]
  have e2 : (s.extract 0 k).data = (strOfNums (bsl s 0 k)).data := by
    rw [← Array.toArray_toList (xs := (s.extract 0 k).data), e, Array.toArray_toList]
  have cl : ∀ a b : ByteArray, a.data = b.data → a = b := by rintro ⟨a⟩ ⟨b⟩ h; cases h; rfl
  exact cl _ _ e2
theorem bytes_ext {a b : ByteArray} (h : a.data.toList = b.data.toList) : a = b := by
  obtain ⟨⟨a⟩⟩ := a
  obtain ⟨⟨b⟩⟩ := b
  simp only at h
  rw [h]
theorem toList_eq_iff (a b : ByteArray) : (a.toList == b.toList) = true ↔ a = b := by
  rw [beq_iff_eq, Lib.toList_data, Lib.toList_data]
  exact ⟨bytes_ext, fun h => by rw [h]⟩
theorem toList_ne {a b : ByteArray} (h : a ≠ b) : (a.toList == b.toList) = false := by
  rw [Bool.eq_false_iff]
  exact fun k => h ((toList_eq_iff a b).1 k)
theorem bsl_snoc (s : ByteArray) (i m : Nat) : bsl s i (m + 1) = bsl s i m ++ [bt s (i + m)] := by
  induction m generalizing i with
  | zero => simp [bsl]
  | succ m ih =>
    rw [bsl, ih (i + 1), bsl, show i + 1 + m = i + (m + 1) from by omega]
    rfl
theorem bsl_at (s : ByteArray) (i m k : Nat) (h : k < m) : (bsl s i m)[k]? = some (bt s (i + k)) := by
  induction m generalizing i k with
  | zero => omega
  | succ m ih =>
    match k with
    | 0 => simp [bsl]
    | k + 1 => rw [bsl, List.getElem?_cons_succ, ih (i + 1) k (by omega), show i + 1 + k = i + (k + 1) from by omega]
theorem all_bsl (s : ByteArray) : s = strOfNums (bsl s 0 s.size) := by
  rw [← extract_bsl s s.size (Nat.le_refl _)]
  refine bytes_ext ?_
  rw [Lib.extract_data, List.drop_zero, Nat.sub_zero, List.take_of_length_le]
  rw [Array.length_toList]
  exact Nat.le_refl _
theorem bt_list (s : ByteArray) (k : Nat) : bt s k = (s.data.toList.map (fun b => (b.toNat : Int))).getD k 0 := by
  unfold bt
  by_cases h : k < s.size
  · rw [dif_pos h]
    have hl : k < s.data.toList.length := by rw [Array.length_toList]; exact h
    simp only [List.getD, List.getElem?_map, List.getElem?_eq_getElem hl, Option.map_some, Option.getD_some]
    rfl
  · rw [dif_neg h]
    have hl : s.data.toList.length ≤ k := by rw [Array.length_toList]; exact Nat.le_of_not_lt h
    simp [List.getD, List.getElem?_eq_none hl]
theorem append_list (a b : ByteArray) : (a ++ b).data.toList = a.data.toList ++ b.data.toList := by
  obtain ⟨⟨a⟩⟩ := a
  obtain ⟨⟨b⟩⟩ := b
  rw [ByteArray.mk_append_mk]
end Go.Proofs.Ytkplighmefigcaa
