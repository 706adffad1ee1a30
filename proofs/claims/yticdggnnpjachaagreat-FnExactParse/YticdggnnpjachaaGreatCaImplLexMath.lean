/-
  Plain facts behind impl.Lex: a byte that is one of some, where a comment ends, a beginning of two /, a number's text. No program is spoken of.
-/
import Derived.Test.YticdggnnpjachaaGreatCaImplLexAToReadDecMath
import Derived.Lib.IndexLaws
namespace Go.Proofs.YticdggnnpjachaaGreat
open Go.RowKit Go.PlainAid

theorem byte_is (s : ByteArray) (k c : Nat) (hc : c < 256) : s.data.toList[k]? = some (UInt8.ofNat c) ↔ k < s.size ∧ bt s k = (c : Int) := by
  by_cases hk : k < s.size
  · have hl : k < s.data.toList.length := by rw [Array.length_toList]; exact hk
    have hb : bt s k = ((s.data.toList[k]).toNat : Int) := by rw [bt_list]; simp [List.getD, List.getElem?_eq_getElem hl]
    have hn : (UInt8.ofNat c).toNat = c := by rw [UInt8.toNat_ofNat']; omega
    rw [List.getElem?_eq_getElem hl, hb]
    refine ⟨fun h => ⟨hk, by simp only [Option.some.injEq] at h; rw [h, hn]⟩, fun h => ?_⟩
    have h2 := h.2
    have : (s.data.toList[k]) = UInt8.ofNat c := by
      apply UInt8.toNat_inj.1
      rw [hn]
      omega
    rw [this]
  · have hl : s.data.toList.length ≤ k := by rw [Array.length_toList]; exact Nat.le_of_not_lt hk
    rw [List.getElem?_eq_none hl]
    simp [hk]
theorem rest_is (s : ByteArray) (a k c : Nat) (hc : c < 256) : (s.extract a s.size).data.toList[k]? = some (UInt8.ofNat c) ↔ a + k < s.size ∧ bt s (a + k) = (c : Int) := by
  rw [Lib.extract_data, ← byte_is _ _ _ hc]
  have hl : (s.data.toList.drop a).length = s.size - a := by rw [List.length_drop, Array.length_toList]; rfl
  rw [List.take_of_length_le (by omega), List.getElem?_drop]
theorem u8_of (c : Int) : c.toNat.toUInt8 = UInt8.ofNat c.toNat := rfl
def blankB (c : Int) : Bool := decide (Blank c)
def sgnB (c : Int) : Bool := decide (Sign c)
theorem blank_one (c : Int) (h0 : 0 ≤ c) (h1 : c ≤ 255) : decide (0 ≤ Lib.indexByte [9, 10, 13, 32] c.toNat.toUInt8) = blankB c := by
  obtain ⟨n, rfl⟩ : ∃ n : Nat, c = n := ⟨c.toNat, by omega⟩
  have key : ∀ n : Fin 256, decide (0 ≤ Lib.indexByte [9, 10, 13, 32] (UInt8.ofNat n.1)) = blankB (n.1 : Int) := by decide +kernel
  exact key ⟨n, by omega⟩
theorem sign_one (c : Int) (h0 : 0 ≤ c) (h1 : c ≤ 255) : decide (0 ≤ Lib.indexByte [123, 125, 40, 41, 44, 59, 61, 46, 42, 43, 45] c.toNat.toUInt8) = sgnB c := by
  obtain ⟨n, rfl⟩ : ∃ n : Nat, c = n := ⟨c.toNat, by omega⟩
  have key : ∀ n : Fin 256, decide (0 ≤ Lib.indexByte [123, 125, 40, 41, 44, 59, 61, 46, 42, 43, 45] (UInt8.ofNat n.1)) = sgnB (n.1 : Int) := by decide +kernel
  exact key ⟨n, by omega⟩

theorem comment_yes {s : ByteArray} {a : Nat} {o : Int} (h0 : 0 ≤ o) (h : Lib.indexByte (s.extract a s.size).data.toList (10 : Int).toNat.toUInt8 = o) : ∃ e : Nat, (a : Int) + o = (e : Int) ∧ RunEnd notNl s a e ∧ e < s.size := by
  obtain ⟨n, rfl⟩ : ∃ n : Nat, o = n := ⟨o.toNat, by omega⟩
  obtain ⟨h1, h2⟩ := Lib.indexByte_some h
  have h3 := (rest_is s a n 10 (by decide)).1 h1
  refine ⟨a + n, by omega, ⟨by omega, by omega, fun j hj1 hj2 => decide_eq_true fun hb => ?_, fun _ => by rw [notNl, h3.2]; rfl⟩, h3.1⟩
  apply h2 (j - a) (by omega)
  have := (rest_is s a (j - a) 10 (by decide)).2 (by rw [show a + (j - a) = j from by omega]; exact ⟨by omega, hb⟩)
  exact this
theorem comment_no {s : ByteArray} {a : Nat} (ha : a ≤ s.size) (h : ¬ 0 ≤ Lib.indexByte (s.extract a s.size).data.toList (10 : Int).toNat.toUInt8) : RunEnd notNl s a s.size := by
  have hge := Lib.indexByte_ge (s.extract a s.size).data.toList (10 : Int).toNat.toUInt8
  have h1 : Lib.indexByte (s.extract a s.size).data.toList (10 : Int).toNat.toUInt8 = -1 := by omega
  refine ⟨ha, Nat.le_refl _, fun j hj1 hj2 => decide_eq_true fun hb => ?_, fun h => absurd h (Nat.lt_irrefl _)⟩
  apply Lib.indexByte_none h1 (j - a)
  have := (rest_is s a (j - a) 10 (by decide)).2 (by rw [show a + (j - a) = j from by omega]; exact ⟨by omega, hb⟩)
  exact this

theorem comment_lt {s : ByteArray} {a c : Nat} (ha : a < s.size) (hs : Slashes s a) (h : RunEnd notNl s a c) : a < c := by
  rcases Nat.lt_or_ge a c with k | k
  · exact k
  · have e1 : c = a := by have := h.1; omega
    subst e1
    have := h.2.2.2 ha
    rw [notNl, hs.1] at this
    simp at this
theorem two_prefix (l : List UInt8) (x y : UInt8) : [x, y].isPrefixOf l = true ↔ l[0]? = some x ∧ l[1]? = some y := by
  match l with
  | [] => simp
  | [p] => simp
  | p :: q :: r =>
    simp
    exact ⟨fun h => ⟨h.1.symm, h.2.symm⟩, fun h => ⟨h.1.symm, h.2.symm⟩⟩
def slashB (s : ByteArray) (a : Nat) : Bool := decide (Slashes s a)
theorem slash_is (s : ByteArray) (a : Nat) : Lib.hasPrefix (s.extract a s.size).data.toList [47, 47] = slashB s a := by
  rw [Bool.eq_iff_iff, Lib.hasPrefix, two_prefix, slashB, decide_eq_true_eq]
  have h0 := rest_is s a 0 47 (by decide)
  have h1 := rest_is s a 1 47 (by decide)
  rw [Nat.add_zero] at h0
  constructor
  · rintro ⟨g0, g1⟩
    exact ⟨(h0.1 g0).2, (h1.1 g1).1, (h1.1 g1).2⟩
  · rintro ⟨g0, g1, g2⟩
    exact ⟨h0.2 ⟨by omega, g0⟩, h1.2 ⟨g1, g2⟩⟩

theorem bt_piece (s : ByteArray) (a e k : Nat) (_ : e ≤ s.size) (hk : a + k < e) : bt (s.extract a e) k = bt s (a + k) := by
  rw [bt_list, bt_list, Lib.extract_data]
  have hl : s.data.toList.length = s.size := Array.length_toList
  simp only [List.getD, List.getElem?_map]
  rw [List.getElem?_take, if_pos (by omega), List.getElem?_drop]
theorem size_piece (s : ByteArray) (a e : Nat) (he : e ≤ s.size) : (s.extract a e).size = e - a := by rw [ByteArray.size_extract]; omega
theorem dv_piece (s : ByteArray) (a e : Nat) (he : e ≤ s.size) (k : Nat) (hk : a + k ≤ e) : dv (s.extract a e) 0 k = dval s a k := by
  induction k with
  | zero => rfl
  | succ k ih => rw [dv, dval, ih (by omega), Nat.zero_add, bt_piece s a e k he (by omega)]

theorem pfx_piece {s : ByteArray} {a e : Nat} (he : e ≤ s.size) (ha : a < e) (hd : digB (bt s a) = true) : pfx (s.extract a e) = 0 := by
  unfold pfx
  rw [bt_piece s a e 0 he (by omega), Nat.add_zero, if_neg]
  rw [digB_iff] at hd
  omega
theorem run_lt {s : ByteArray} {a e : Nat} {scr : Bool} (ha : a < s.size) (hd : digB (bt s a) = true) (hr : RunEnd (worB scr) s a e) : a < e := by
  rcases Nat.lt_or_ge a e with k | k
  · exact k
  · have e1 : e = a := by have := hr.1; omega
    subst e1
    have := hr.2.2.2 ha
    simp [worB, hd] at this
theorem num_yes {s : ByteArray} {a e : Nat} {scr : Bool} (ha : a < s.size) (hd : digB (bt s a) = true) (hr : RunEnd (worB scr) s a e) (h : RdP (s.extract a e)) (hv : rdV (s.extract a e) ≤ 1000000) : NumAt s a scr (rdV (s.extract a e)) e := by
  have hlt := run_lt ha hd hr
  have he := hr.2.1
  have hp := pfx_piece he hlt hd
  have hsz := size_piece s a e he
  obtain ⟨h1, h2, h3, h4⟩ := h
  rw [hp] at h1 h2 h3 h4
  have hw : ∀ j, j < e - a → isDig (bt s (a + j)) := fun j hj => by
    have := h3 j (by omega)
    rw [Nat.zero_add, bt_piece s a e j he (by omega)] at this
    exact this
  have hend : e < s.size → worB scr (bt s e) = false := hr.2.2.2
  refine ⟨⟨hr.1, he, fun j h1 h2 => ?_, fun h => ?_⟩, hlt, ?_, ?_, hv, fun h => ?_⟩
  · have := hw (j - a) (by omega)
    rw [show a + (j - a) = j from by omega] at this
    exact digB_iff.2 this
  · have := hend h
    simp [worB] at this
    exact this.2
  · rcases h4 with g | g
    · rw [bt_piece s a e 0 he (by omega), Nat.add_zero] at g
      exact .inr g
    · left; have := g.2; omega
  · have hok : rdOk (s.extract a e) = true := rdOk_yes ⟨by rw [hp]; exact h1, by rw [hp]; exact h2, by rw [hp]; exact h3, by rw [hp]; exact h4⟩
    rw [rdV, if_pos hok, if_neg (by rw [hp]; decide), hsz, dv_piece s a e he _ (by omega)]
  · have := hend h
    simp [worB] at this
    exact this.1
theorem run_of_num {s : ByteArray} {a e : Nat} {scr : Bool} {n : Int} (h : NumAt s a scr n e) : RunEnd (worB scr) s a e :=
  ⟨h.1.1, h.1.2.1, fun j h1 h2 => by simp [worB, h.1.2.2.1 j h1 h2], fun k => by simp [worB, h.1.2.2.2 k, h.2.2.2.2.2 k]⟩
theorem dval_eight {s : ByteArray} {a : Nat} (h0 : 49 ≤ bt s a) (hd : ∀ j, j < 8 → 48 ≤ bt s (a + j)) : 10000000 ≤ dval s a 8 := by
  have d1 := hd 1 (by omega)
  have d2 := hd 2 (by omega)
  have d3 := hd 3 (by omega)
  have d4 := hd 4 (by omega)
  have d5 := hd 5 (by omega)
  have d6 := hd 6 (by omega)
  have d7 := hd 7 (by omega)
  simp only [dval, Nat.add_zero]
  omega
theorem num_no {s : ByteArray} {a e : Nat} {scr : Bool} (ha : a < s.size) (hd : digB (bt s a) = true) (hr : RunEnd (worB scr) s a e) (h : ¬ RdP (s.extract a e) ∨ 1000000 < rdV (s.extract a e)) : ∀ n e', ¬ NumAt s a scr n e' := by
  intro n e' hn
  obtain rfl := runEnd_one (run_of_num hn) hr
  have hlt := run_lt ha hd hr
  have he := hr.2.1
  have hp := pfx_piece he hlt hd
  have hsz := size_piece s a e' he
  obtain ⟨⟨_, _, hdig, _⟩, _, hz, hv, hm, _⟩ := hn
  have hrd : RdP (s.extract a e') := by
    unfold RdP
    rw [hp, hsz]
    refine ⟨by omega, ?_, fun j hj => ?_, ?_⟩
    · rcases Nat.lt_or_ge 9 (e' - a) with g | g
      · exfalso
        have hge : ∀ j, j < e' - a → 48 ≤ bt s (a + j) := fun j hj => (digB_iff.1 (hdig (a + j) (by omega) (by omega))).1
        have h49 : 49 ≤ bt s a := by
          have := hge 0 (by omega)
          rw [Nat.add_zero] at this
          rcases hz with z | z
          · omega
          · omega
        have h8 := dval_eight h49 (fun j hj => hge j (by omega))
        have hmo := (dval_mono 8 (e' - a) hge (by omega)).2
        omega
      · omega
    · rw [Nat.zero_add, bt_piece s a e' j he (by omega)]
      exact digB_iff.1 (hdig (a + j) (by omega) (by omega))
    · rw [bt_piece s a e' 0 he (by omega), Nat.add_zero]
      rcases hz with z | z
      · right; exact ⟨rfl, by omega⟩
      · exact .inl z
  rcases h with h | h
  · exact h hrd
  · rw [rdV, if_pos (rdOk_yes hrd), if_neg (by rw [hp]; decide), hsz, dv_piece s a e' he _ (by omega)] at h
    omega
end Go.Proofs.YticdggnnpjachaaGreat
