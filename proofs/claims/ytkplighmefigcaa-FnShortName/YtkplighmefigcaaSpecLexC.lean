/-
  What spec's parts of Lex answer: l3Num, l3Skip: the walks.
-/
import Derived.Test.YtkplighmefigcaaSpecLexB
namespace Go.Proofs.Ytkplighmefigcaa
open Go.RowKit Go.PlainAid

theorem num_run {s : ByteArray} {a k e : Nat} {scr : Bool} {n : Int} (hok : ∀ j, a ≤ j → j < k → digB (bt s j) = true) (h : NumAt s a scr n e) : k ≤ e ∨ e < k ∧ s.size ≤ e := by
  obtain ⟨⟨h1, h2, h3, h4⟩, h5, _⟩ := h
  rcases Nat.lt_or_ge e k with g | g
  · right
    refine ⟨g, ?_⟩
    rcases Nat.lt_or_ge e s.size with q | q
    · have := hok e h1 g
      rw [h4 q] at this
      cases this
    · exact q
  · exact .inl g
theorem num_no_zero {s : ByteArray} {a k : Nat} {scr : Bool} (hk : a < k) (hks : k < s.size) (hok : ∀ j, a ≤ j → j < k + 1 → digB (bt s j) = true) (h0 : bt s a = 48) : ∀ n e, ¬ NumAt s a scr n e := by
  intro n e h
  have h1 := num_run hok h
  rcases h.2.2.1 with g | g
  · omega
  · exact g h0
theorem num_no_great {s : ByteArray} {a k : Nat} {scr : Bool} (hak : a ≤ k) (hks : k < s.size) (hok : ∀ j, a ≤ j → j < k + 1 → digB (bt s j) = true) (hg : 1000000 < dval s a (k + 1 - a)) : ∀ n e, ¬ NumAt s a scr n e := by
  intro n e h
  have h1 := num_run hok h
  have h2 := dval_mono (s := s) (a := a) (k + 1 - a) (e - a) (fun j hj => (digB_iff.1 (h.1.2.2.1 (a + j) (by omega) (by omega))).1) (by omega)
  have h3 := h.2.2.2.1
  have h4 := h.2.2.2.2.1
  omega
theorem num_no_let {s : ByteArray} {a k : Nat} {scr : Bool} (hr : RunEnd digB s a k) (hk : k < s.size) (hl : letB (bt s k) scr = true) : ∀ n e, ¬ NumAt s a scr n e := by
  intro n e h
  have := runEnd_one hr h.1
  subst this
  have h6 := h.2.2.2.2.2 hk
  rw [hl] at h6
  cases h6

set_option maxHeartbeats 3200000 in
theorem num_spec (s : ByteArray) (a : Nat) (scr : Bool) (w : World) (ha : a < s.size) (hd0 : digB (bt s a) = true) (hs : s.size ≤ 4294967296) :
    Calls Try.prog 16 #[.string s, .int .i64 a, .bool scr] w fun e w' => ∃ n z : Int, e = .returned (.tuple #[.int .i64 n, .int .i64 z]) ∧ ((∃ m : Nat, z = m ∧ NumAt s a scr n m) ∨ (n = 0 ∧ z = -1 ∧ ∀ n m, ¬ NumAt s a scr n m)) ∧ w' = w := by
  have hb := get_bt s
  have HD0 : Hid (digB (bt s a) = true) := hd0
  clear hd0
  go_enter Try.func16, Try.ntmps16
  go_wp2
  go_loop [8, 9] (fun n i => ∃ (k : Nat) (v : Int), a ≤ k ∧ k ≤ s.size ∧ i = .int .i64 k ∧ n = .int .i64 v ∧ v = dval s a (k - a) ∧ 0 ≤ v ∧ v ≤ 1000000 ∧ (k ≤ a + 1 ∨ bt s a ≠ 48) ∧ ∀ j, a ≤ j → j < k → digB (bt s j) = true) (fun _ i => (s.size - intOf i).toNat)
  case atStart => exact ⟨a, 0, Nat.le_refl _, by omega, rfl, rfl, by rw [Nat.sub_self]; rfl, by omega, by omega, .inl (by omega), fun j h1 h2 => by omega⟩
  case round =>
    obtain ⟨k, v, hk1, hk2, rfl, rfl, hv, hv0, hv1, hz, hok⟩ := hrel
    have HOK : Hid (∀ j, a ≤ j → j < k → digB (bt s j) = true) := hok
    have HV : Hid (v = dval s a (k - a)) := hv
    have HZ : Hid (k ≤ a + 1 ∨ bt s a ≠ 48) := hz
    clear hok hv hz
    by_cases hlt : k < s.size
    · have hb0 := bt_nonneg s k
      have hb1 := bt_le s k
      cases hd : digB (bt s k) with
      | true =>
        have hd' := digB_iff.1 hd
        obtain ⟨hd1, hd2⟩ := hd'
        have HX : Hid (∀ j, a ≤ j → j < k + 1 → digB (bt s j) = true) := run_next HOK.out hd
        by_cases hzz : a < k ∧ bt s a = 48
        · obtain ⟨z1, z2⟩ := hzz
          have HN : Hid (∀ n e, ¬ NumAt s a scr n e) := num_no_zero z1 hlt HX.out z2
          have q1 : (bt s a == 48) = true := by simpa using z2
          clear z2
          go_wp2_with (first | (go_at_call 15; refine (digit_spec _ _ hb0 hb1).mono ?_; rintro e w' ⟨rfl, rfl⟩))
          go_ret2
          exact ⟨0, -1, rfl, .inr ⟨rfl, rfl, HN.out⟩, rfl⟩
        · have HD : Hid (dval s a (k + 1 - a) = v * 10 + (bt s k - 48)) := by
            show dval s a (k + 1 - a) = _
            rw [show k + 1 - a = (k - a) + 1 from by omega, dval, ← HV.out, show a + (k - a) = k from by omega]
          have HZ2 : Hid (k + 1 ≤ a + 1 ∨ bt s a ≠ 48) := by
            rcases Nat.lt_or_ge a k with g | g
            · exact .inr fun h => hzz ⟨g, h⟩
            · exact .inl (by omega)
          by_cases hg : 1000000 < v * 10 + (bt s k - 48)
          · have HN : Hid (∀ n e, ¬ NumAt s a scr n e) := num_no_great hk1 hlt HX.out (by rw [HD.out]; exact hg)
            by_cases hak : a < k
            · have q1 : (bt s a == 48) = false := beq_eq_false_iff_ne.2 (fun h => hzz ⟨hak, h⟩)
              clear hzz
              go_wp2_with (first | (go_at_call 15; refine (digit_spec _ _ hb0 hb1).mono ?_; rintro e w' ⟨rfl, rfl⟩))
              go_ret2
              exact ⟨0, -1, rfl, .inr ⟨rfl, rfl, HN.out⟩, rfl⟩
            · clear hzz
              go_wp2_with (first | (go_at_call 15; refine (digit_spec _ _ hb0 hb1).mono ?_; rintro e w' ⟨rfl, rfl⟩))
              go_ret2
              exact ⟨0, -1, rfl, .inr ⟨rfl, rfl, HN.out⟩, rfl⟩
          · by_cases hak : a < k
            · have q1 : (bt s a == 48) = false := beq_eq_false_iff_ne.2 (fun h => hzz ⟨hak, h⟩)
              clear hzz
              go_wp2_with (first | (go_at_call 15; refine (digit_spec _ _ hb0 hb1).mono ?_; rintro e w' ⟨rfl, rfl⟩))
              go_round
              case rel => exact ⟨k + 1, v * 10 + (bt s k - 48), by omega, by omega, by go_num, by go_num, HD.out.symm, by omega, by omega, HZ2.out, HX.out⟩
              case measure => simp [intOf]; omega
            · clear hzz
              go_wp2_with (first | (go_at_call 15; refine (digit_spec _ _ hb0 hb1).mono ?_; rintro e w' ⟨rfl, rfl⟩))
              go_round
              case rel => exact ⟨k + 1, v * 10 + (bt s k - 48), by omega, by omega, by go_num, by go_num, HD.out.symm, by omega, by omega, HZ2.out, HX.out⟩
              case measure => simp [intOf]; omega
      | false =>
        have HR : Hid (RunEnd digB s a k) := ⟨hk1, hk2, HOK.out, fun _ => hd⟩
        have hak : a < k := by
          rcases Nat.lt_or_ge a k with g | g
          · exact g
          · have e : k = a := by omega
            rw [e, HD0.out] at hd
            cases hd
        cases hl : letB (bt s k) scr with
        | true =>
          have HN : Hid (∀ n e, ¬ NumAt s a scr n e) := num_no_let HR.out hlt hl
          go_wp2_with (first | (go_at_call 13; refine (letter_spec _ _ _ hb0 hb1).mono ?_; rintro e w' ⟨rfl, rfl⟩) | (go_at_call 15; refine (digit_spec _ _ hb0 hb1).mono ?_; rintro e w' ⟨rfl, rfl⟩))
          go_ret2
          exact ⟨0, -1, rfl, .inr ⟨rfl, rfl, HN.out⟩, rfl⟩
        | false =>
          have HA : Hid (NumAt s a scr v k) := ⟨HR.out, hak, HZ.out.imp (fun g => by omega) id, HV.out, hv1, fun _ => hl⟩
          go_wp2_with (first | (go_at_call 13; refine (letter_spec _ _ _ hb0 hb1).mono ?_; rintro e w' ⟨rfl, rfl⟩) | (go_at_call 15; refine (digit_spec _ _ hb0 hb1).mono ?_; rintro e w' ⟨rfl, rfl⟩))
          go_ret2
          exact ⟨v, k, rfl, .inl ⟨k, rfl, HA.out⟩, rfl⟩
    · have hak : a < k := by omega
      have HA : Hid (NumAt s a scr v k) := ⟨⟨hk1, hk2, HOK.out, fun h => absurd h hlt⟩, hak, HZ.out.imp (fun g => by omega) id, HV.out, hv1, fun h => absurd h hlt⟩
      go_wp2
      go_ret2
      exact ⟨v, k, rfl, .inl ⟨k, rfl, HA.out⟩, rfl⟩

set_option maxHeartbeats 3200000 in
theorem skip_spec (s : ByteArray) (a : Nat) (w : World) (ha : a ≤ s.size) (hs : s.size ≤ 4294967296) :
    Calls Try.prog 11 #[.string s, .int .i64 a] w fun e w' => ∃ n : Nat, e = .returned (.int .i64 n) ∧ Skip s a n ∧ w' = w := by
  have hb := get_bt s
  go_enter Try.func11, Try.ntmps11
  go_wp2
  go_loop [1, 5] (fun i _ => ∃ k : Nat, k ≤ s.size ∧ i = .int .i64 k ∧ ∀ c, Skip s k c → Skip s a c) (fun i _ => (s.size - intOf i).toNat)
  case atStart => exact ⟨a, ha, rfl, fun c h => h⟩
  case round =>
    obtain ⟨k, hk, rfl, hsk⟩ := hrel
    have HSK : Hid (∀ c, Skip s k c → Skip s a c) := hsk
    clear hsk
    by_cases hlt : k < s.size
    · have hb0 := bt_nonneg s k
      have hb1 := bt_le s k
      by_cases hbl : Blank (bt s k)
      · have HX : Hid (∀ c, Skip s (k + 1) c → Skip s a c) := fun c h => HSK.out c (.blank hlt hbl h)
        have hcs : bt s k = 9 ∨ bt s k = 10 ∨ bt s k = 13 ∨ bt s k = 32 := hbl
        clear hbl
        rcases hcs with q | q | q | q
        all_goals
          go_wp2
          go_round
          case rel => exact ⟨k + 1, by omega, by go_num, HX.out⟩
          case measure => simp [intOf]; omega
      · have e1 : (bt s k == 9) = false := beq_eq_false_iff_ne.2 (fun h => hbl (.inl h))
        have e2 : (bt s k == 10) = false := beq_eq_false_iff_ne.2 (fun h => hbl (.inr (.inl h)))
        have e3 : (bt s k == 13) = false := beq_eq_false_iff_ne.2 (fun h => hbl (.inr (.inr (.inl h))))
        have e4 : (bt s k == 32) = false := beq_eq_false_iff_ne.2 (fun h => hbl (.inr (.inr (.inr h))))
        by_cases hsl : Slashes s k
        · obtain ⟨s1, s2, s3⟩ := hsl
          have HSL : Hid (Slashes s k) := ⟨s1, s2, s3⟩
          have q1 : (bt s k != 47) = false := by simp [s1]
          have q2 : (bt s (k + 1) != 47) = false := by simp [s3]
          have hc1 := bt_nonneg s (k + 1)
          have hc2 := bt_le s (k + 1)
          have H10 : Hid (bt s k ≠ 10) := by show bt s k ≠ 10; rw [s1]; omega
          clear s1 s3 hbl
          go_wp2
          go_loop [1] (fun i => ∃ m : Nat, k ≤ m ∧ m ≤ s.size ∧ i = .int .i64 m ∧ ∀ j, k ≤ j → j < m → notNl (bt s j) = true) (fun i => (s.size - intOf i).toNat)
          case atStart => exact ⟨k, Nat.le_refl _, hk, rfl, fun j h1 h2 => by omega⟩
          case round =>
            obtain ⟨m, hm1, hm2, rfl, hnl⟩ := hrel
            have HNL : Hid (∀ j, k ≤ j → j < m → notNl (bt s j) = true) := hnl
            clear hnl
            by_cases hml : m < s.size
            · have hm3 := bt_nonneg s m
              have hm4 := bt_le s m
              by_cases h10 : bt s m = 10
              · have hkm : k < m := by
                  rcases Nat.lt_or_ge k m with g | g
                  · exact g
                  · have e : m = k := by omega
                    rw [e] at h10
                    exact absurd h10 H10.out
                have HE : Hid (RunEnd notNl s k m) := ⟨hm1, hm2, HNL.out, fun _ => by simp [notNl, h10]⟩
                have HX : Hid (∀ c, Skip s m c → Skip s a c) := fun c h => HSK.out c (.comment hlt HSL.out HE.out h)
                have r1 : (bt s m != 10) = false := by simp [h10]
                clear h10
                go_wp2
                go_round
                case rel => exact ⟨m, hm2, rfl, HX.out⟩
                case measure => simp [intOf]; omega
              · have HX : Hid (∀ j, k ≤ j → j < m + 1 → notNl (bt s j) = true) := run_next HNL.out (by simp [notNl, h10])
                have r1 : (bt s m != 10) = true := by simpa using h10
                clear h10
                go_wp2
                go_round
                case rel => exact ⟨m + 1, by omega, by omega, by go_num, HX.out⟩
                case measure => simp [intOf]; omega
            · have HE : Hid (RunEnd notNl s k m) := ⟨hm1, hm2, HNL.out, fun h => absurd h hml⟩
              have HX : Hid (∀ c, Skip s m c → Skip s a c) := fun c h => HSK.out c (.comment hlt HSL.out HE.out h)
              go_wp2
              go_round
              case rel => exact ⟨m, hm2, rfl, HX.out⟩
              case measure => simp [intOf]; omega
        · have HE : Hid (Skip s a k) := HSK.out k (.stop hlt hbl hsl)
          clear hbl
          by_cases s1 : bt s k = 47
          · have q1 : (bt s k != 47) = false := by simp [s1]
            by_cases s2 : k + 1 < s.size
            · have q2 : (bt s (k + 1) != 47) = true := by simpa using fun h => hsl ⟨s1, s2, h⟩
              have hc1 := bt_nonneg s (k + 1)
              have hc2 := bt_le s (k + 1)
              clear s1 hsl
              go_wp2
              go_ret
              exact ⟨k, rfl, HE.out, rfl⟩
            · clear s1 hsl
              go_wp2
              go_ret
              exact ⟨k, rfl, HE.out, rfl⟩
          · have q1 : (bt s k != 47) = true := by simpa using s1
            clear s1 hsl
            go_wp2
            go_ret
            exact ⟨k, rfl, HE.out, rfl⟩
    · have HE : Hid (Skip s a k) := HSK.out k (by rw [show k = s.size from by omega]; exact .done)
      go_wp2
      go_ret
      exact ⟨k, rfl, HE.out, rfl⟩
end Go.Proofs.Ytkplighmefigcaa
