/-
  The last of rules that rise and are for a name is the longest one. No program is spoken of.
-/
import Derived.Test.YtllhnofobkgjgaaMapMath
import Derived.Test.YtllhnofobkgjgaaLessMath
namespace Go.Proofs.Ytllhnofobkgjgaa
open Go.RowKit Go.PlainAid

theorem beg_pre {p s : ByteArray} (h : begB p s = true) : p.toList = s.toList.take p.size := by
  rw [begB, Bool.and_eq_true, beq_iff_eq] at h
  rw [← h.2, Lib.extract_toList, List.drop_zero, Nat.sub_zero, Lib.toList_data]
theorem hit_pre {p s : ByteArray} (h : hitB p s = true) : p.toList = s.toList.take p.size := by
  have hz : p.toList.length = p.size := by rw [Lib.toList_data, Array.length_toList]; rfl
  rw [hitB, Bool.or_eq_true, Bool.and_eq_true] at h
  rcases h with h | ⟨_, h⟩
  · rw [beq_iff_eq] at h
    rw [← h, ← hz, List.take_length]
  · exact beg_pre h
theorem hit_long {p q s : ByteArray} (hp : hitB p s = true) (hq : hitB q s = true) (h : Op.bytesLess p.toList q.toList = true) : p.size < q.size := by
  rcases Nat.lt_or_ge p.size q.size with g | g
  · exact g
  · have e : p.toList = q.toList ++ (s.toList.take p.size).drop q.size := by
      have e1 : q.toList = (s.toList.take p.size).take q.size := by rw [List.take_take, Nat.min_eq_left g]; exact hit_pre hq
      rw [e1, List.take_append_drop]
      exact hit_pre hp
    rw [e, less_pre] at h
    cases h
theorem best_last {len k : Nat} {Pt Tx : Nat → ByteArray} {s : ByteArray} (hr : rulesB len Pt Tx = true) (hk : k < len) (h : hitB (Pt k) s = true) : bestTo Pt s (k + 1) = some k := by
  cases h0 : bestTo Pt s k with
  | none => exact bestTo_new h h0
  | some b =>
    obtain ⟨hb, hh⟩ := bestTo_is h0
    exact bestTo_long h h0 (hit_long hh h (ris_of (fun j h1 h2 => ((rulesB_iff.1 hr).2 j h2).2 h1) b k hb hk))
def ruleAt (Pt Tx : Nat → ByteArray) : Option Nat → ByteArray × ByteArray
  | none => ({ data := #[] }, { data := #[] })
  | some b => (Pt b, Tx b)
theorem last_byte {p : ByteArray} (h : 0 < p.size) : Lib.hasSuffix p.data.toList [47] = (bt p (p.size - 1) == 47) := by
  have hz : p.data.toList.length = p.size := by rw [Array.length_toList]; rfl
  have h1 := Lib.hasSuffix_of_drop p.data.toList [47]
  rw [← h1, bt_list, decide_eq_true (by rw [hz]; exact h), Bool.true_and]
  obtain ⟨xs, x, e⟩ : ∃ xs x, p.data.toList = xs ++ [x] := by
    rcases List.eq_nil_or_concat p.data.toList with e | ⟨xs, x, e⟩
    · rw [e] at hz; simp at hz; omega
    · exact ⟨xs, x, by rw [e, List.concat_eq_append]⟩
  have hx : p.size = xs.length + 1 := by rw [← hz, e, List.length_append]; rfl
  rw [e, hx, show [(47 : UInt8)].length = 1 from rfl, List.length_append, show [x].length = 1 from rfl, Nat.add_sub_cancel, List.drop_left]
  have eg : ((xs ++ [x]).map (fun b => (b.toNat : Int))).getD xs.length 0 = (x.toNat : Int) := by simp
  rw [eg]
  show ([x] == [47]) = ((x.toNat : Int) == 47)
  rw [Bool.eq_iff_iff, beq_iff_eq, beq_iff_eq]
  constructor
  · intro h; cases h; rfl
  · intro h
    have : x.toNat = (47 : UInt8).toNat := by have e47 : (47 : UInt8).toNat = 47 := rfl; omega
    rw [UInt8.toNat_inj.1 this]
end Go.Proofs.Ytllhnofobkgjgaa
