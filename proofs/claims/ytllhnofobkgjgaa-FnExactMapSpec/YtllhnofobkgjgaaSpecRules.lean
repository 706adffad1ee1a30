/-
  What spec.l14Str and spec.RulesOk answer: the walks.
-/
import Derived.Test.YtllhnofobkgjgaaRuleMath
import Derived.Test.YtllhnofobkgjgaaSpecClean
import Derived.Lib.QuietBelow
import Derived.BigQuiet
namespace Go.Proofs.Ytllhnofobkgjgaa
open Go.RowKit Go.PlainAid Go.Sort

set_option maxRecDepth 100000 in
set_option maxHeartbeats 1600000 in
theorem l14Str_spec (s : ByteArray) (w : World) (_ : s.size ≤ 1048576) :
    Calls Try.prog 13 #[.string s] w fun e w' => e = .returned (.bool (strR s)) ∧ Below w.heap.size w w' := by
  have hb := get_bt s
  by_cases hl : s.size ≤ 40
  · go_enter Try.func13, Try.ntmps13
    go_wp2
    go_loop [3] (fun i => ∃ k : Nat, k ≤ s.size ∧ i = .int .i64 k ∧ ∀ j, j < k → ChrP (bt s j)) (fun i => (s.size - intOf i).toNat)
    case atStart => exact ⟨0, by omega, rfl, fun j hj => by omega⟩
    case round =>
      obtain ⟨k, hk, rfl, hok⟩ := hrel
      have HOK := hidU hok
      clear hok
      by_cases hlt : k < s.size
      · have hb0 := bt_nonneg s k
        have hb1 := bt_le s k
        by_cases hc : ChrP (bt s k)
        · have HN : Hid (∀ j, j < k + 1 → ChrP (bt s j)) := fun j hj => by
            by_cases e : j = k
            · rw [e]; exact hc
            · exact HOK.out j (by omega)
          obtain ⟨h1, h2, h3, h4⟩ := hc
          have q1 : decide (bt s k < 32) = false := decide_eq_false (by omega)
          have q2 : decide (126 < bt s k) = false := decide_eq_false (by omega)
          have q3 : (bt s k == 34) = false := beq_eq_false_iff_ne.2 h3
          have q4 : (bt s k == 92) = false := beq_eq_false_iff_ne.2 h4
          clear h3 h4
          go_wp2
          go_round
          case rel => exact ⟨k + 1, by omega, by go_num, HN.out⟩
          case measure => simp [intOf]; omega
        · have HN : Hid (¬ StrP s) := fun h => hc (h.2 k hlt)
          by_cases g1 : bt s k < 32
          · clear hc
            go_wp2
            go_ret
            exact ⟨ret_bool (strR_no HN.out).symm, Below.refl _ _⟩
          · by_cases g2 : 126 < bt s k
            · clear hc
              go_wp2
              go_ret
              exact ⟨ret_bool (strR_no HN.out).symm, Below.refl _ _⟩
            · by_cases g3 : bt s k = 34
              · have q3 : (bt s k == 34) = true := by rw [g3]; rfl
                clear hc g3
                go_wp2
                go_ret
                exact ⟨ret_bool (strR_no HN.out).symm, Below.refl _ _⟩
              · have g4 : bt s k = 92 := by
                  rcases Classical.em (bt s k = 92) with e | e
                  · exact e
                  · exact absurd ⟨by omega, by omega, g3, e⟩ hc
                have q3 : (bt s k == 34) = false := beq_eq_false_iff_ne.2 g3
                have q4 : (bt s k == 92) = true := by rw [g4]; rfl
                clear hc g3 g4
                go_wp2
                go_ret
                exact ⟨ret_bool (strR_no HN.out).symm, Below.refl _ _⟩
      · have HY : Hid (StrP s) := ⟨hl, fun j hj => HOK.out j (by omega)⟩
        go_wp2
        go_ret
        exact ⟨ret_bool (strR_yes HY.out).symm, Below.refl _ _⟩
  · have HN : Hid (¬ StrP s) := fun h => hl h.1
    go_enter Try.func13, Try.ntmps13
    go_wp2
    go_ret
    exact ⟨ret_bool (strR_no HN.out).symm, Below.refl _ _⟩
set_option maxRecDepth 100000 in
set_option maxHeartbeats 6400000 in
theorem rulesOk_spec (g len cap : Nat) (Pt Tx : Nat → ByteArray) (w : World) (hf : FilesAt w (some ⟨g, 0, none⟩) g 0 len Pt Tx) (hl : len ≤ 1048576) (hp : ∀ j, j < len → (Pt j).size ≤ 1048576) (ht : ∀ j, j < len → (Tx j).size ≤ 1048576) :
    Calls Try.prog 6 #[.slice (some ⟨g, 0, none⟩) len cap] w fun e w' => e = .returned (.bool (rulesB len Pt Tx)) ∧ Below w.heap.size w w' := by
  by_cases hl8 : len ≤ 8
  · go_enter Try.func6, Try.ntmps6
    go_wp2
    go_loopw [3] (fun i wr => ∃ k : Nat, k ≤ len ∧ i = .int .i64 k ∧ RulesTo k Pt Tx ∧ Below w.heap.size w wr) (fun i _ => (len - intOf i).toNat)
    case atStart => exact ⟨0, by omega, rfl, fun j hj => absurd hj (Nat.not_lt_zero j), Below.refl _ _⟩
    case round =>
      obtain ⟨k, hk, rfl, hok, hb⟩ := hrel
      have HOK := hidU hok
      clear hok
      by_cases hlt : k < len
      · have hf' := hf.later hb
        have c0 := hf'.path k hlt
        have c1 := hf'.text k hlt
        rw [Nat.zero_add] at c0 c1
        have hp1 := hp k hlt
        have ht1 := ht k hlt
        have C0 := hidU c0
        have C1 := hidU c1
        have cP : ∀ d os, Calls Try.prog 13 #[.string (Pt k)] (grow (redrawn wr d) os) fun e w'' => e = .returned (.bool (strR (Pt k))) ∧ ∃ p : Regrown, w'' = grow (redrawn wr p.d) p.os := fun d os => Calls.regrown_of (l14Str_spec _ _ (by omega))
        have cT : ∀ d os, Calls Try.prog 13 #[.string (Tx k)] (grow (redrawn wr d) os) fun e w'' => e = .returned (.bool (strR (Tx k))) ∧ ∃ p : Regrown, w'' = grow (redrawn wr p.d) p.os := fun d os => Calls.regrown_of (l14Str_spec _ _ (by omega))
        clear c0 c1
        cases h1 : (Pt k).toList.isEmpty with
        | true =>
          have HN : Hid (¬ RulesP len Pt Tx) := fun h => by have := (h.2 (k) hlt).1; rw [ruleB, h1] at this; cases this
          go_wp2
          have k0 := cell_regrown C0.out
          have k1 := cell_regrown C1.out
          refine wp_region_quiet_below (by kernel_rfl) (by kernel_rfl) ?_
          repeat (go_big_quiet_step (first | with_reducible exact cP _ _ | with_reducible exact cT _ _))
          refine wpQuiet_nil ?_
          intro _ hw'
          obtain ⟨⟨dq, osq⟩, hw''⟩ := hw'
          subst hw''
          have hbE := hb.trans ((below_regrown wr dq osq).mono hb.size)
          go_wp2
          go_ret
          exact ⟨ret_bool (rulesB_no HN.out).symm, hbE⟩
        | false =>
          cases h2 : strR (Pt k) with
          | false =>
            have HN : Hid (¬ RulesP len Pt Tx) := fun h => by have := (h.2 (k) hlt).1; rw [ruleB, h1, h2] at this; cases this
            go_wp2
            have k0 := cell_regrown C0.out
            have k1 := cell_regrown C1.out
            refine wp_region_quiet_below (by kernel_rfl) (by kernel_rfl) ?_
            repeat (go_big_quiet_step (first | with_reducible exact cP _ _ | with_reducible exact cT _ _))
            refine wpQuiet_nil ?_
            intro _ hw'
            obtain ⟨⟨dq, osq⟩, hw''⟩ := hw'
            subst hw''
            have hbE := hb.trans ((below_regrown wr dq osq).mono hb.size)
            go_wp2
            go_ret
            exact ⟨ret_bool (rulesB_no HN.out).symm, hbE⟩
          | true =>
            cases h3 : strR (Tx k) with
            | false =>
              have HN : Hid (¬ RulesP len Pt Tx) := fun h => by have := (h.2 (k) hlt).1; rw [ruleB, h1, h2, h3] at this; cases this
              go_wp2
              have k0 := cell_regrown C0.out
              have k1 := cell_regrown C1.out
              refine wp_region_quiet_below (by kernel_rfl) (by kernel_rfl) ?_
              repeat (go_big_quiet_step (first | with_reducible exact cP _ _ | with_reducible exact cT _ _))
              refine wpQuiet_nil ?_
              intro _ hw'
              obtain ⟨⟨dq, osq⟩, hw''⟩ := hw'
              subst hw''
              have hbE := hb.trans ((below_regrown wr dq osq).mono hb.size)
              go_wp2
              go_ret
              exact ⟨ret_bool (rulesB_no HN.out).symm, hbE⟩
            | true =>
              have hru : ruleB (Pt k) (Tx k) = true := by rw [ruleB, h1, h2, h3]; rfl
              by_cases hk0 : k = 0
              · subst hk0
                have HX : Hid (RulesTo (0 + 1) Pt Tx) := rulesTo_next HOK.out hru (fun h => absurd h (Nat.lt_irrefl _))
                go_wp2
                have k0 := cell_regrown C0.out
                have k1 := cell_regrown C1.out
                refine wp_region_quiet_below (by kernel_rfl) (by kernel_rfl) ?_
                repeat (go_big_quiet_step (first | with_reducible exact cP _ _ | with_reducible exact cT _ _))
                refine wpQuiet_nil ?_
                intro _ hw'
                obtain ⟨⟨dq, osq⟩, hw''⟩ := hw'
                subst hw''
                have hbE := hb.trans ((below_regrown wr dq osq).mono hb.size)
                go_wp2
                go_roundw
                case rel => exact ⟨0 + 1, by omega, by go_num, HX.out, hbE⟩
                case measure => simp [intOf]; omega
              · obtain ⟨m, rfl⟩ : ∃ m, k = m + 1 := ⟨k - 1, by omega⟩
                have ez : ((m + 1 : Nat) : Int) = (m : Int) + 1 := by omega
                have eq1 : decide ((0 : Int) < ((m + 1 : Nat) : Int)) = true := decide_eq_true (by omega)
                have p0 := hf'.path m (by omega)
                rw [Nat.zero_add] at p0
                have P0 := hidU p0
                clear p0
                cases hls : Op.bytesLess (Pt m).toList (Pt (m + 1)).toList with
                | true =>
                  have HX : Hid (RulesTo (m + 1 + 1) Pt Tx) := rulesTo_next HOK.out hru (fun _ => hls)
                  go_wp2
                  have k0 := cell_regrown C0.out
                  have k1 := cell_regrown C1.out
                  have k2 := cell_regrown P0.out
                  refine wp_region_quiet_below (by kernel_rfl) (by kernel_rfl) ?_
                  repeat (go_big_quiet_step (first | with_reducible exact cP _ _ | with_reducible exact cT _ _))
                  refine wpQuiet_nil ?_
                  intro _ hw'
                  obtain ⟨⟨dq, osq⟩, hw''⟩ := hw'
                  subst hw''
                  have hbE := hb.trans ((below_regrown wr dq osq).mono hb.size)
                  go_wp2
                  go_roundw
                  case rel => exact ⟨m + 1 + 1, by omega, by go_num, HX.out, hbE⟩
                  case measure => simp [intOf]; omega
                | false =>
                  have HN : Hid (¬ RulesP len Pt Tx) := fun h => by have := (h.2 (m + 1) hlt).2 (by omega); rw [Nat.add_sub_cancel, hls] at this; cases this
                  go_wp2
                  have k0 := cell_regrown C0.out
                  have k1 := cell_regrown C1.out
                  have k2 := cell_regrown P0.out
                  refine wp_region_quiet_below (by kernel_rfl) (by kernel_rfl) ?_
                  repeat (go_big_quiet_step (first | with_reducible exact cP _ _ | with_reducible exact cT _ _))
                  refine wpQuiet_nil ?_
                  intro _ hw'
                  obtain ⟨⟨dq, osq⟩, hw''⟩ := hw'
                  subst hw''
                  have hbE := hb.trans ((below_regrown wr dq osq).mono hb.size)
                  go_wp2
                  go_ret
                  exact ⟨ret_bool (rulesB_no HN.out).symm, hbE⟩
      · have HY : Hid (RulesP len Pt Tx) := ⟨hl8, fun j hj => HOK.out j (by omega)⟩
        go_wp2
        go_ret
        exact ⟨ret_bool (rulesB_yes HY.out).symm, hb⟩
  · have HN : Hid (¬ RulesP len Pt Tx) := fun h => hl8 h.1
    go_enter Try.func6, Try.ntmps6
    go_wp2
    go_ret
    exact ⟨ret_bool (rulesB_no HN.out).symm, Below.refl _ _⟩
end Go.Proofs.Ytllhnofobkgjgaa
