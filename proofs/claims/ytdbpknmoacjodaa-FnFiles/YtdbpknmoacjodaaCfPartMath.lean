/-
  Where a part of a path ends, and what a row of parts is joined to: plain facts. No program is spoken of.
-/
import Derived.Test.YtdbpknmoacjodaaCfAidToBytes
import Derived.Lib.Join
import Derived.Lib.IndexLaws
namespace Go.Proofs.Ytdbpknmoacjodaa
open Go.RowKit Go.PlainAid

def PEnd (s : ByteArray) (a e : Nat) : Prop := a ≤ e ∧ e ≤ s.size ∧ (∀ j, a ≤ j → j < e → bt s j ≠ 47) ∧ (e < s.size → bt s e = 47)
theorem clTo_within {s : ByteArray} {a e : Nat} {xs : List ByteArray} (h : clTo s a = (a, xs)) (he : PEnd s a e) : clTo s e = (a, xs) := by
  obtain ⟨h1, h2, h3, _⟩ := he
  have key : ∀ d, a + d ≤ e → clTo s (a + d) = (a, xs) := by
    intro d
    induction d with
    | zero => intro _; exact h
    | succ d ih =>
      intro hd
      rw [show a + (d + 1) = a + d + 1 from by omega, clTo_on (by omega) (h3 (a + d) (by omega) (by omega))]
      exact ih (by omega)
  have := key (e - a) (by omega)
  rwa [show a + (e - a) = e from by omega] at this
theorem clTo_end {s : ByteArray} {a e : Nat} {xs : List ByteArray} (h : clTo s a = (a, xs)) (he : PEnd s a e) : clTo s (e + 1) = (e + 1, upd (s.extract a e) xs) := by
  have h1 := clTo_within h he
  rw [clTo_part (fun k => k.2 (he.2.2.2 k.1)), h1]
theorem clTo_first {s : ByteArray} (h : bt s 0 = 47) : clTo s 1 = (1, []) := by
  have h0 : clTo s 0 = (0, []) := rfl
  have := clTo_end h0 (e := 0) ⟨Nat.le_refl _, Nat.zero_le _, fun j _ hj => absurd hj (by omega), fun _ => h⟩
  rw [this, upd_empty (by
    have e : s.extract 0 0 = { data := #[] } := bytes_ext (by rw [Lib.extract_data]; simp)
    rw [e, Lib.toList_data]; rfl)]
theorem byte_at (s : ByteArray) (k : Nat) : s.data.toList[k]? = some 47 ↔ k < s.size ∧ bt s k = 47 := by
  by_cases hk : k < s.size
  · have hl : k < s.data.toList.length := by rw [Array.length_toList]; exact hk
    have hb : bt s k = ((s.data.toList[k]).toNat : Int) := by rw [bt_list]; simp [List.getD, List.getElem?_eq_getElem hl]
    rw [List.getElem?_eq_getElem hl, hb]
    refine ⟨fun h => ⟨hk, by simp only [Option.some.injEq] at h; rw [h]; rfl⟩, fun h => ?_⟩
    have h2 := h.2
    have : (s.data.toList[k]) = 47 := by
      apply UInt8.toNat_inj.1
      show (s.data.toList[k]).toNat = 47
      omega
    rw [this]
  · have hl : s.data.toList.length ≤ k := by rw [Array.length_toList]; exact Nat.le_of_not_lt hk
    rw [List.getElem?_eq_none hl]
    simp [hk]
theorem rest_at (s : ByteArray) (a k : Nat) : (s.extract a s.size).data.toList[k]? = some 47 ↔ a + k < s.size ∧ bt s (a + k) = 47 := by
  rw [Lib.extract_data, ← byte_at]
  have hl : (s.data.toList.drop a).length = s.size - a := by rw [List.length_drop, Array.length_toList]; rfl
  rw [List.take_of_length_le (by omega), List.getElem?_drop]
def pend (s : ByteArray) (a : Nat) : Nat := if 0 ≤ Lib.indexByte (s.extract a s.size).data.toList 47 then a + (Lib.indexByte (s.extract a s.size).data.toList 47).toNat else s.size
theorem pend_ok (s : ByteArray) (a : Nat) (ha : a ≤ s.size) : PEnd s a (pend s a) := by
  have hge := Lib.indexByte_ge (s.extract a s.size).data.toList 47
  unfold pend
  split
  · rename_i h
    obtain ⟨o, ho⟩ : ∃ o : Nat, Lib.indexByte (s.extract a s.size).data.toList 47 = o := ⟨_, (Int.toNat_of_nonneg h).symm⟩
    obtain ⟨h1, h2⟩ := Lib.indexByte_some ho
    rw [ho, Int.toNat_natCast]
    have h3 := (rest_at s a o).1 h1
    refine ⟨by omega, by omega, fun j hj1 hj2 hb => ?_, fun _ => h3.2⟩
    have := h2 (j - a) (by omega)
    apply this
    rw [rest_at, show a + (j - a) = j from by omega]
    exact ⟨by omega, hb⟩
  · rename_i h
    have h1 : Lib.indexByte (s.extract a s.size).data.toList 47 = -1 := by omega
    refine ⟨ha, Nat.le_refl _, fun j hj1 hj2 hb => ?_, fun h => absurd h (Nat.lt_irrefl _)⟩
    apply Lib.indexByte_none h1 (j - a)
    rw [rest_at, show a + (j - a) = j from by omega]
    exact ⟨hj2, hb⟩
theorem pend_yes {s : ByteArray} {a : Nat} {o : Int} (h0 : 0 ≤ o) (h : Lib.indexByte (s.extract a s.size).data.toList 47 = o) : (a : Int) + o = (pend s a : Int) := by
  rw [pend, h, if_pos h0, Int.natCast_add, Int.toNat_of_nonneg h0]
theorem pend_no {s : ByteArray} {a : Nat} (h : ¬ 0 ≤ Lib.indexByte (s.extract a s.size).data.toList 47) : pend s a = s.size := by
  rw [pend, if_neg h]

theorem joinTo_list (l : List ByteArray) (k : Nat) (hk : k ≤ l.length) : (joinTo l k).data.toList = Lib.joinTail [47] ((l.take k).map (·.data.toList)) := by
  induction k with
  | zero => rfl
  | succ k ih =>
    have hl : k < l.length := by omega
    have e : l.take (k + 1) = l.take k ++ [l[k]] := by rw [List.take_add_one, List.getElem?_eq_getElem hl]; rfl
    have e2 : l.getD k { data := #[] } = l[k] := by simp [List.getD, List.getElem?_eq_getElem hl]
    rw [joinTo, append_list, append_list, ih (by omega), e, e2, List.map_append, Lib.joinTail, Lib.joinTail, List.map_append, List.flatten_append, List.append_assoc]
    congr 1
    simp
theorem join_clean {s : ByteArray} (hp : pathB s = true) : ({ data := #[47] } : ByteArray) ++ ⟨(Lib.join ((parts s).map (·.data.toList)) [47]).toArray⟩ = cleanS s := by
  apply bytes_ext
  by_cases h0 : (parts s).length = 0
  · rw [cleanS_root hp h0, List.length_eq_zero_iff.1 h0, append_list]
    rfl
  · rw [cleanS_yes hp h0, joinTo_list _ _ (Nat.le_refl _), List.take_length, append_list]
    cases hx : parts s with
    | nil => rw [hx] at h0; exact absurd rfl h0
    | cons x r =>
      show [47] ++ Lib.join ((x :: r).map (·.data.toList)) [47] = _
      rw [List.map_cons, Lib.join_cons]
      simp [Lib.joinTail]
theorem parts_len (s : ByteArray) : (parts s).length ≤ s.size + 1 := (clTo_bd s _).2
theorem parts_join_len (s : ByteArray) (hp : pathB s = true) : (Lib.join ((parts s).map (·.data.toList)) [47]).length ≤ 2000 := by
  have hsz : s.size ≤ 40 := (pathB_iff.1 hp).2.1
  have e := congrArg ByteArray.size (join_clean hp)
  rw [ByteArray.size_append] at e
  have e2 : (⟨(Lib.join ((parts s).map (·.data.toList)) [47]).toArray⟩ : ByteArray).size = (Lib.join ((parts s).map (·.data.toList)) [47]).length := rfl
  rw [e2] at e
  have hb : (cleanS s).size ≤ 2000 := by
    by_cases h0 : (parts s).length = 0
    · rw [cleanS_root hp h0]; decide
    · rw [cleanS_yes hp h0]
      have h1 := joinTo_size s (parts s) (clTo_sizes s _) (parts s).length
      have h2 : (parts s).length * (s.size + 1) ≤ 41 * 41 := Nat.mul_le_mul (by have := parts_len s; omega) (by omega)
      omega
  omega
end Go.Proofs.Ytdbpknmoacjodaa
