/-
  What impl.isPathByte and impl.isPath answer: the walks.
-/
import Derived.Test.YtdbpknmoacjodaaCfDrawLineToSpecClean
namespace Go.Proofs.Ytdbpknmoacjodaa
open Go.RowKit Go.PlainAid

def okB (c : Int) : Bool := decide (okc c)
theorem okB_yes {c : Int} (h : okc c) : okB c = true := decide_eq_true h
theorem okB_no {c : Int} (h : ¬ okc c) : okB c = false := decide_eq_false h
set_option maxRecDepth 100000 in
set_option maxHeartbeats 1600000 in
theorem pathByte_any (c : Int) (w : World) (h0 : 0 ≤ c) (h1 : c ≤ 255) :
    Calls Try.prog 213 #[.int .u8 c] w fun e w' => e = .returned (.bool (okB c)) ∧ w' = w := by
  by_cases hc : okc c
  · have HV : Hid (okB c = true) := okB_yes hc
    have hcases : (c = 46 ∨ c = 95 ∨ c = 45 ∨ c = 47) ∨ (97 ≤ c ∧ c ≤ 122) ∨ (48 ≤ c ∧ c ≤ 57) := by unfold okc at hc; omega
    clear hc
    rcases hcases with a | a | a
    · rcases a with rfl | rfl | rfl | rfl
      all_goals
        go_enter Try.func213, Try.ntmps213
        go_wp2
        go_ret
        exact ⟨ret_bool HV.out.symm, rfl⟩
    · have e1 : (c == 46) = false := beq_eq_false_iff_ne.2 (by omega)
      have e2 : (c == 95) = false := beq_eq_false_iff_ne.2 (by omega)
      have e3 : (c == 45) = false := beq_eq_false_iff_ne.2 (by omega)
      have e4 : (c == 47) = false := beq_eq_false_iff_ne.2 (by omega)
      obtain ⟨a1, a2⟩ := a
      have q2 : decide (c ≤ 122) = true := decide_eq_true a2
      go_enter Try.func213, Try.ntmps213
      go_wp2
      go_ret
      exact ⟨ret_bool HV.out.symm, rfl⟩
    · have e1 : (c == 46) = false := beq_eq_false_iff_ne.2 (by omega)
      have e2 : (c == 95) = false := beq_eq_false_iff_ne.2 (by omega)
      have e3 : (c == 45) = false := beq_eq_false_iff_ne.2 (by omega)
      have e4 : (c == 47) = false := beq_eq_false_iff_ne.2 (by omega)
      obtain ⟨a1, a2⟩ := a
      have q2 : decide (c ≤ 57) = true := decide_eq_true a2
      go_enter Try.func213, Try.ntmps213
      go_wp2
      go_ret
      exact ⟨ret_bool HV.out.symm, rfl⟩
  · have HV : Hid (okB c = false) := okB_no hc
    have hcases : c ≠ 46 ∧ c ≠ 95 ∧ c ≠ 45 ∧ c ≠ 47 ∧ ¬ (97 ≤ c ∧ c ≤ 122) ∧ ¬ (48 ≤ c ∧ c ≤ 57) := by unfold okc at hc; omega
    clear hc
    obtain ⟨c1, c2, c3, c4, c5, c6⟩ := hcases
    have e1 : (c == 46) = false := beq_eq_false_iff_ne.2 c1
    have e2 : (c == 95) = false := beq_eq_false_iff_ne.2 c2
    have e3 : (c == 45) = false := beq_eq_false_iff_ne.2 c3
    have e4 : (c == 47) = false := beq_eq_false_iff_ne.2 c4
    by_cases g1 : 97 ≤ c
    · have q1 : decide (c ≤ 122) = false := decide_eq_false (by omega)
      have q2 : decide (c ≤ 57) = false := decide_eq_false (by omega)
      have g2 : 48 ≤ c := by omega
      clear c1 c2 c3 c4 c5 c6
      go_enter Try.func213, Try.ntmps213
      go_wp2
      go_ret
      exact ⟨ret_bool HV.out.symm, rfl⟩
    · by_cases g3 : 48 ≤ c
      · have q2 : decide (c ≤ 57) = false := decide_eq_false (by omega)
        clear c1 c2 c3 c4 c5 c6
        go_enter Try.func213, Try.ntmps213
        go_wp2
        go_ret
        exact ⟨ret_bool HV.out.symm, rfl⟩
      · clear c1 c2 c3 c4 c5 c6
        go_enter Try.func213, Try.ntmps213
        go_wp2
        go_ret
        exact ⟨ret_bool HV.out.symm, rfl⟩

set_option maxRecDepth 100000 in
set_option maxHeartbeats 1600000 in
theorem isPath_any (s : ByteArray) (w : World) (_ : s.size ≤ 9223372036854775807) :
    Calls Try.prog 207 #[.string s] w fun e w' => e = .returned (.bool (pathB s)) ∧ w' = w := by
  have hb := get_bt s
  by_cases hl1 : 1 ≤ s.size
  · by_cases hl2 : s.size ≤ 40
    · by_cases h47 : (bt s 0 == 47) = true
      · have e47 : bt s 0 = 47 := by simpa using h47
        have E47 : Hid (bt s 0 = 47) := e47
        have hne : (bt s 0 != 47) = false := by simpa using e47
        clear e47 h47
        go_enter Try.func207, Try.ntmps207
        go_wp2
        go_loop [19, 3] (fun i _ => ∃ k : Nat, k ≤ s.size ∧ i = .int .i64 k ∧ ∀ j, j < k → okc (bt s j)) (fun i _ => (s.size - intOf i).toNat)
        case atStart => exact ⟨0, by omega, rfl, fun j hj => by omega⟩
        case round =>
          obtain ⟨k, hk, rfl, hok⟩ := hrel
          have HOK : Hid (∀ j, j < k → okc (bt s j)) := hok
          clear hok
          by_cases hlt : k < s.size
          · have hb0 := bt_nonneg s k
            have hb1 := bt_le s k
            by_cases hc : okc (bt s k)
            · have HN : Hid (∀ j, j < k + 1 → okc (bt s j)) := fun j hj => by
                by_cases e : j = k
                · rw [e]; exact hc
                · exact HOK.out j (by omega)
              have hq := okB_yes hc
              clear hc
              go_wp2_with (go_at_call 213; refine (pathByte_any _ _ hb0 hb1).mono ?_; rintro e w' ⟨rfl, rfl⟩)
              go_round
              case rel => exact ⟨k + 1, by omega, by go_num, HN.out⟩
              case measure => simp [intOf]; omega
            · have HN : Hid (¬ PathP s) := fun h => hc (h.2.2.2 k hlt)
              have hq := okB_no hc
              clear hc
              go_wp2_with (go_at_call 213; refine (pathByte_any _ _ hb0 hb1).mono ?_; rintro e w' ⟨rfl, rfl⟩)
              go_ret
              exact ⟨ret_bool (pathB_no HN.out).symm, rfl⟩
          · have HY : Hid (PathP s) := ⟨hl1, hl2, E47.out, fun j hj => HOK.out j (by omega)⟩
            go_wp2
            go_ret
            exact ⟨ret_bool (pathB_yes HY.out).symm, rfl⟩
      · have HN : Hid (¬ PathP s) := fun h => h47 (by rw [h.2.2.1]; rfl)
        have hne : (bt s 0 != 47) = true := by simpa using h47
        clear h47
        go_enter Try.func207, Try.ntmps207
        go_wp2
        go_ret
        exact ⟨ret_bool (pathB_no HN.out).symm, rfl⟩
    · have HN : Hid (¬ PathP s) := fun h => hl2 h.2.1
      go_enter Try.func207, Try.ntmps207
      go_wp2
      go_ret
      exact ⟨ret_bool (pathB_no HN.out).symm, rfl⟩
  · have HN : Hid (¬ PathP s) := fun h => hl1 h.1
    go_enter Try.func207, Try.ntmps207
    go_wp2
    go_ret
    exact ⟨ret_bool (pathB_no HN.out).symm, rfl⟩
end Go.Proofs.Ytdbpknmoacjodaa
