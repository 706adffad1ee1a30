/-
  What spec's parts of Lex answer: l3Word, l3Num, l3Str, l3Skip: the walks.
-/
import Derived.Test.YtkplighmefigcaaSpecLexA
namespace Go.Proofs.Ytkplighmefigcaa
open Go.RowKit Go.PlainAid

theorem wor_let {c : Int} {scr : Bool} (h : letB c scr = true) : worB scr c = true := by simp [worB, h]
theorem wor_dig {c : Int} {scr : Bool} (h : digB c = true) : worB scr c = true := by simp [worB, h]
theorem wor_no {c : Int} {scr : Bool} (h : letB c scr = false) (k : digB c = false) : worB scr c = false := by simp [worB, h, k]
theorem run_next {p : Int → Bool} {s : ByteArray} {a k : Nat} (h : ∀ j, a ≤ j → j < k → p (bt s j) = true) (hk : p (bt s k) = true) : ∀ j, a ≤ j → j < k + 1 → p (bt s j) = true := by
  intro j h1 h2
  by_cases e : j = k
  · rw [e]; exact hk
  · exact h j h1 (by omega)

set_option maxHeartbeats 1600000 in
theorem word_spec (s : ByteArray) (a : Nat) (scr : Bool) (w : World) (ha : a ≤ s.size) (hs : s.size ≤ 4294967296) :
    Calls Try.prog 14 #[.string s, .int .i64 a, .bool scr] w fun e w' => ∃ n : Nat, e = .returned (.int .i64 n) ∧ RunEnd (worB scr) s a n ∧ w' = w := by
  have hb := get_bt s
  go_enter Try.func14, Try.ntmps14
  go_wp2
  go_loop [1] (fun i => ∃ k : Nat, a ≤ k ∧ k ≤ s.size ∧ i = .int .i64 k ∧ ∀ j, a ≤ j → j < k → worB scr (bt s j) = true) (fun i => (s.size - intOf i).toNat)
  case atStart => exact ⟨a, Nat.le_refl _, ha, rfl, fun j h1 h2 => by omega⟩
  case round =>
    obtain ⟨k, hk1, hk2, rfl, hok⟩ := hrel
    have HOK : Hid (∀ j, a ≤ j → j < k → worB scr (bt s j) = true) := hok
    clear hok
    by_cases hlt : k < s.size
    · have hb0 := bt_nonneg s k
      have hb1 := bt_le s k
      cases hl : letB (bt s k) scr with
      | true =>
        have HX : Hid (∀ j, a ≤ j → j < k + 1 → worB scr (bt s j) = true) := run_next HOK.out (wor_let hl)
        go_wp2_with (first | (go_at_call 13; refine (letter_spec _ _ _ hb0 hb1).mono ?_; rintro e w' ⟨rfl, rfl⟩) | (go_at_call 15; refine (digit_spec _ _ hb0 hb1).mono ?_; rintro e w' ⟨rfl, rfl⟩))
        go_round
        case rel => exact ⟨k + 1, by omega, by omega, by go_num, HX.out⟩
        case measure => simp [intOf]; omega
      | false =>
        cases hd : digB (bt s k) with
        | true =>
          have HX : Hid (∀ j, a ≤ j → j < k + 1 → worB scr (bt s j) = true) := run_next HOK.out (wor_dig hd)
          go_wp2_with (first | (go_at_call 13; refine (letter_spec _ _ _ hb0 hb1).mono ?_; rintro e w' ⟨rfl, rfl⟩) | (go_at_call 15; refine (digit_spec _ _ hb0 hb1).mono ?_; rintro e w' ⟨rfl, rfl⟩))
          go_round
          case rel => exact ⟨k + 1, by omega, by omega, by go_num, HX.out⟩
          case measure => simp [intOf]; omega
        | false =>
          have HE : Hid (RunEnd (worB scr) s a k) := ⟨hk1, hk2, HOK.out, fun _ => wor_no hl hd⟩
          go_wp2_with (first | (go_at_call 13; refine (letter_spec _ _ _ hb0 hb1).mono ?_; rintro e w' ⟨rfl, rfl⟩) | (go_at_call 15; refine (digit_spec _ _ hb0 hb1).mono ?_; rintro e w' ⟨rfl, rfl⟩))
          go_ret
          exact ⟨k, rfl, HE.out, rfl⟩
    · have HE : Hid (RunEnd (worB scr) s a k) := ⟨hk1, hk2, HOK.out, fun h => absurd h hlt⟩
      go_wp2
      go_ret
      exact ⟨k, rfl, HE.out, rfl⟩

theorem str_no_end {s : ByteArray} {a k : Nat} (hok : ∀ j, a < j → j < k → InStr (bt s j)) (h : s.size ≤ k ∨ a + 42 ≤ k) : ∀ e, ¬ StrAt s a e := by
  intro e ⟨h1, h2, h3, h4, _⟩
  exact absurd h4 (hok (e - 1) (by omega) (by omega)).2.2.1
theorem str_no_byte {s : ByteArray} {a k : Nat} (hk : a < k) (hok : ∀ j, a < j → j < k → InStr (bt s j)) (h34 : bt s k ≠ 34) (h : ¬ InStr (bt s k)) : ∀ e, ¬ StrAt s a e := by
  intro e ⟨h1, h2, h3, h4, h5⟩
  rcases Nat.lt_trichotomy (e - 1) k with g | g | g
  · exact absurd h4 (hok (e - 1) (by omega) g).2.2.1
  · rw [g] at h4; exact h34 h4
  · exact h (h5 k hk (by omega))

set_option maxHeartbeats 1600000 in
theorem str_spec (s : ByteArray) (a : Nat) (w : World) (ha : a < s.size) (hs : s.size ≤ 4294967296) :
    Calls Try.prog 17 #[.string s, .int .i64 a] w fun e w' => ∃ z : Int, e = .returned (.int .i64 z) ∧ ((∃ n : Nat, z = n ∧ StrAt s a n) ∨ (z = -1 ∧ ∀ n, ¬ StrAt s a n)) ∧ w' = w := by
  have hb := get_bt s
  go_enter Try.func17, Try.ntmps17
  go_wp2
  go_loop [5] (fun i => ∃ k : Nat, a < k ∧ k ≤ s.size ∧ k ≤ a + 42 ∧ i = .int .i64 k ∧ ∀ j, a < j → j < k → InStr (bt s j)) (fun i => (s.size - intOf i).toNat)
  case atStart => exact ⟨a + 1, by omega, by omega, by omega, by go_num, fun j h1 h2 => by omega⟩
  case round =>
    obtain ⟨k, hk1, hk2, hk3, rfl, hok⟩ := hrel
    have HOK : Hid (∀ j, a < j → j < k → InStr (bt s j)) := hok
    clear hok
    by_cases hlt : k < s.size
    · have hb0 := bt_nonneg s k
      have hb1 := bt_le s k
      by_cases hlim : k ≤ a + 41
      · have q0 : decide ((k : Int) ≤ (a : Int) + 1 + 40) = true := decide_eq_true (by omega)
        by_cases h34 : bt s k = 34
        · have HE : Hid (StrAt s a (k + 1)) := ⟨by omega, by omega, by omega, by rw [Nat.add_sub_cancel]; exact h34, fun j h1 h2 => HOK.out j h1 (by omega)⟩
          have hq : (bt s k == 34) = true := by simpa using h34
          clear h34
          go_wp2
          go_ret
          exact ⟨(k : Int) + 1, rfl, .inl ⟨k + 1, by omega, HE.out⟩, rfl⟩
        · have hq : (bt s k == 34) = false := by simpa using h34
          by_cases h1 : bt s k < 32
          · have HN : Hid (∀ e, ¬ StrAt s a e) := str_no_byte hk1 HOK.out h34 (fun h => by have := h.1; omega)
            have q1 : decide (bt s k < 32) = true := decide_eq_true h1
            clear h34
            go_wp2
            go_ret
            exact ⟨-1, rfl, .inr ⟨rfl, HN.out⟩, rfl⟩
          · have q1 : decide (bt s k < 32) = false := decide_eq_false h1
            by_cases h2 : 126 < bt s k
            · have HN : Hid (∀ e, ¬ StrAt s a e) := str_no_byte hk1 HOK.out h34 (fun h => by have := h.2.1; omega)
              have q2 : decide (126 < bt s k) = true := decide_eq_true h2
              clear h34
              go_wp2
              go_ret
              exact ⟨-1, rfl, .inr ⟨rfl, HN.out⟩, rfl⟩
            · have q2 : decide (126 < bt s k) = false := decide_eq_false h2
              by_cases h3 : bt s k = 92
              · have HN : Hid (∀ e, ¬ StrAt s a e) := str_no_byte hk1 HOK.out h34 (fun h => h.2.2.2 h3)
                have q3 : (bt s k == 92) = true := by simpa using h3
                clear h34 h3 hq
                have hq : (bt s k == 34) = false := beq_eq_false_iff_ne.2 (by have := beq_iff_eq.1 q3; omega)
                go_wp2
                go_ret
                exact ⟨-1, rfl, .inr ⟨rfl, HN.out⟩, rfl⟩
              · have q3 : (bt s k == 92) = false := by simpa using h3
                have HX : Hid (∀ j, a < j → j < k + 1 → InStr (bt s j)) := fun j g1 g2 => by
                  by_cases e : j = k
                  · rw [e]; exact ⟨by omega, by omega, h34, h3⟩
                  · exact HOK.out j g1 (by omega)
                clear h34 h3
                go_wp2
                go_round
                case rel => exact ⟨k + 1, by omega, by omega, by omega, by go_num, HX.out⟩
                case measure => simp [intOf]; omega
      · have HN : Hid (∀ e, ¬ StrAt s a e) := str_no_end HOK.out (.inr (by omega))
        have q0 : decide ((k : Int) ≤ (a : Int) + 1 + 40) = false := decide_eq_false (by omega)
        go_wp2
        go_ret
        exact ⟨-1, rfl, .inr ⟨rfl, HN.out⟩, rfl⟩
    · have HN : Hid (∀ e, ¬ StrAt s a e) := str_no_end HOK.out (.inl (by omega))
      go_wp2
      go_ret
      exact ⟨-1, rfl, .inr ⟨rfl, HN.out⟩, rfl⟩
end Go.Proofs.Ytkplighmefigcaa
