/-
  What spec's parts of Lex answer: l3Letter, l3Digit, l3Sign, l3Word, l3Num, l3Str, l3Skip: the walks.
  What spec's parts of Lex answer: l3Word, l3Num, l3Str, l3Skip: the walks.
  What spec's parts of Lex answer: l3Num, l3Skip: the walks.
-/
import Derived.Test.YtaakfnclelcopaaProg
import Derived.WalkLawsBesides
import Derived.Test.YtaakfnclelcopaaCTrimAidToTreeMath
namespace Go.Proofs.Ytaakfnclelcopaa
open Go.RowKit Go.PlainAid

theorem letB_no {c : Int} {scr : Bool} (h : ¬ ((97 ≤ c ∧ c ≤ 122) ∨ (65 ≤ c ∧ c ≤ 90) ∨ c = 95 ∨ (scr = true ∧ c = 36))) : letB c scr = false := by
  rw [Bool.eq_false_iff]
  exact fun k => h (letB_iff.1 k)
theorem digB_no {c : Int} (h : ¬ (48 ≤ c ∧ c ≤ 57)) : digB c = false := decide_eq_false h

def signS : ByteArray := { data := #[123, 125, 40, 41, 44, 59, 61, 46, 42, 43, 45] }
theorem signS_at (k : Nat) (h : k < 11) : Sign (bt signS k) := by
  have : ∀ k : Fin 11, Sign (bt signS k.val) := by decide
  exact this ⟨k, h⟩
theorem signS_all (c : Int) (h : Sign c) : ∃ k, k < 11 ∧ bt signS k = c := by
  rcases h with rfl | rfl | rfl | rfl | rfl | rfl | rfl | rfl | rfl | rfl | rfl
  · exact ⟨0, by decide⟩
  · exact ⟨1, by decide⟩
  · exact ⟨2, by decide⟩
  · exact ⟨3, by decide⟩
  · exact ⟨4, by decide⟩
  · exact ⟨5, by decide⟩
  · exact ⟨6, by decide⟩
  · exact ⟨7, by decide⟩
  · exact ⟨8, by decide⟩
  · exact ⟨9, by decide⟩
  · exact ⟨10, by decide⟩
def signB (c : Int) : Bool := decide (Sign c)
end Go.Proofs.Ytaakfnclelcopaa
namespace Go.Proofs.Ytaakfnclelcopaa
open Go.RowKit Go.PlainAid

theorem wor_let {c : Int} {scr : Bool} (h : letB c scr = true) : worB scr c = true := by simp [worB, h]
theorem wor_dig {c : Int} {scr : Bool} (h : digB c = true) : worB scr c = true := by simp [worB, h]
theorem wor_no {c : Int} {scr : Bool} (h : letB c scr = false) (k : digB c = false) : worB scr c = false := by simp [worB, h, k]
theorem run_next {p : Int → Bool} {s : ByteArray} {a k : Nat} (h : ∀ j, a ≤ j → j < k → p (bt s j) = true) (hk : p (bt s k) = true) : ∀ j, a ≤ j → j < k + 1 → p (bt s j) = true := by
  intro j h1 h2
  by_cases e : j = k
  · rw [e]; exact hk
  · exact h j h1 (by omega)

theorem str_no_end {s : ByteArray} {a k : Nat} (hok : ∀ j, a < j → j < k → InStr (bt s j)) (h : s.size ≤ k ∨ a + 42 ≤ k) : ∀ e, ¬ StrAt s a e := by
  intro e ⟨h1, h2, h3, h4, _⟩
  exact absurd h4 (hok (e - 1) (by omega) (by omega)).2.2.1
theorem str_no_byte {s : ByteArray} {a k : Nat} (hk : a < k) (hok : ∀ j, a < j → j < k → InStr (bt s j)) (h34 : bt s k ≠ 34) (h : ¬ InStr (bt s k)) : ∀ e, ¬ StrAt s a e := by
  intro e ⟨h1, h2, h3, h4, h5⟩
  rcases Nat.lt_trichotomy (e - 1) k with g | g | g
  · exact absurd h4 (hok (e - 1) (by omega) g).2.2.1
  · rw [g] at h4; exact h34 h4
  · exact h (h5 k hk (by omega))

end Go.Proofs.Ytaakfnclelcopaa
namespace Go.Proofs.Ytaakfnclelcopaa
open Go.RowKit Go.PlainAid

theorem num_run {s : ByteArray} {a k e : Nat} {scr : Bool} {n : Int} (hok : ∀ j, a ≤ j → j < k → digB (bt s j) = true) (h : NumAt s a scr n e) : k ≤ e ∨ e < k ∧ s.size ≤ e := by
  obtain ⟨⟨h1, h2, h3, h4⟩, h5, _⟩ := h
  rcases Nat.lt_or_ge e k with g | g
  · right
    refine ⟨g, ?_⟩
    rcases Nat.lt_or_ge e s.size with q | q
    · have := hok e h1 g
      rw [h4 q] at this
      cases this
    · exact q
  · exact .inl g
theorem num_no_zero {s : ByteArray} {a k : Nat} {scr : Bool} (hk : a < k) (hks : k < s.size) (hok : ∀ j, a ≤ j → j < k + 1 → digB (bt s j) = true) (h0 : bt s a = 48) : ∀ n e, ¬ NumAt s a scr n e := by
  intro n e h
  have h1 := num_run hok h
  rcases h.2.2.1 with g | g
  · omega
  · exact g h0
theorem num_no_great {s : ByteArray} {a k : Nat} {scr : Bool} (hak : a ≤ k) (hks : k < s.size) (hok : ∀ j, a ≤ j → j < k + 1 → digB (bt s j) = true) (hg : 1000000 < dval s a (k + 1 - a)) : ∀ n e, ¬ NumAt s a scr n e := by
  intro n e h
  have h1 := num_run hok h
  have h2 := dval_mono (s := s) (a := a) (k + 1 - a) (e - a) (fun j hj => (digB_iff.1 (h.1.2.2.1 (a + j) (by omega) (by omega))).1) (by omega)
  have h3 := h.2.2.2.1
  have h4 := h.2.2.2.2.1
  omega
theorem num_no_let {s : ByteArray} {a k : Nat} {scr : Bool} (hr : RunEnd digB s a k) (hk : k < s.size) (hl : letB (bt s k) scr = true) : ∀ n e, ¬ NumAt s a scr n e := by
  intro n e h
  have := runEnd_one hr h.1
  subst this
  have h6 := h.2.2.2.2.2 hk
  rw [hl] at h6
  cases h6

end Go.Proofs.Ytaakfnclelcopaa
