/-
  What impl's isStrByte, isStr, Rule.isRight and RulesOk answer: the walks.
-/
import Derived.Test.YtllhnofobkgjgaaSpecRules
namespace Go.Proofs.Ytllhnofobkgjgaa
open Go.RowKit Go.PlainAid Go.Sort

set_option maxHeartbeats 1600000 in
theorem isStrByteR_any (c : Int) (w : World) (h0 : 0 ≤ c) (h1 : c ≤ 255) :
    Calls Try.prog 24 #[.int .u8 c] w fun e w' => e = .returned (.bool (decide (ChrP c))) ∧ w' = w := by
  have hreg : c < 32 ∨ 127 ≤ c ∨ c = 34 ∨ c = 92 ∨ ChrP c := by unfold ChrP; omega
  rcases hreg with r | r | r | r | r
  · have HV : Hid (decide (ChrP c) = false) := decide_eq_false (fun h => by unfold ChrP at h; omega)
    have d1 : decide (32 ≤ c) = false := decide_eq_false (by omega)
    clear r
    go_enter Try.func24, Try.ntmps24
    go_wp2
    go_ret
    exact ⟨ret_bool HV.out.symm, rfl⟩
  · have HV : Hid (decide (ChrP c) = false) := decide_eq_false (fun h => by unfold ChrP at h; omega)
    have d1 : decide (32 ≤ c) = true := decide_eq_true (by omega)
    have d2 : decide (c ≤ 126) = false := decide_eq_false (by omega)
    clear r
    go_enter Try.func24, Try.ntmps24
    go_wp2
    go_ret
    exact ⟨ret_bool HV.out.symm, rfl⟩
  · have HV : Hid (decide (ChrP c) = false) := decide_eq_false (fun h => by unfold ChrP at h; omega)
    subst r
    go_enter Try.func24, Try.ntmps24
    go_wp2
    go_ret
    exact ⟨ret_bool HV.out.symm, rfl⟩
  · have HV : Hid (decide (ChrP c) = false) := decide_eq_false (fun h => by unfold ChrP at h; omega)
    subst r
    go_enter Try.func24, Try.ntmps24
    go_wp2
    go_ret
    exact ⟨ret_bool HV.out.symm, rfl⟩
  · have HV : Hid (decide (ChrP c) = true) := decide_eq_true r
    obtain ⟨r1, r2, r3, r4⟩ := r
    have d1 : decide (32 ≤ c) = true := decide_eq_true (by omega)
    have d2 : decide (c ≤ 126) = true := decide_eq_true (by omega)
    have n1 : (c != 34) = true := bne_iff_ne.2 (by omega)
    have n2 : (c != 92) = true := bne_iff_ne.2 (by omega)
    clear r1 r2 r3 r4
    go_enter Try.func24, Try.ntmps24
    go_wp2
    go_ret
    exact ⟨ret_bool HV.out.symm, rfl⟩
set_option maxRecDepth 100000 in
set_option maxHeartbeats 1600000 in
theorem isStr_any (s : ByteArray) (w : World) (_ : s.size ≤ 9223372036854775807) :
    Calls Try.prog 21 #[.string s] w fun e w' => e = .returned (.bool (strR s)) ∧ w' = w := by
  have hb := get_bt s
  by_cases hl : s.size ≤ 40
  · go_enter Try.func21, Try.ntmps21
    go_wp2
    go_loop [9, 3] (fun i _ => ∃ k : Nat, k ≤ s.size ∧ i = .int .i64 k ∧ ∀ j, j < k → ChrP (bt s j)) (fun i _ => (s.size - intOf i).toNat)
    case atStart => exact ⟨0, by omega, rfl, fun j hj => by omega⟩
    case round =>
      obtain ⟨k, hk, rfl, hok⟩ := hrel
      have HOK := hidU hok
      clear hok
      by_cases hlt : k < s.size
      · have hb0 := bt_nonneg s k
        have hb1 := bt_le s k
        by_cases hc : ChrP (bt s k)
        · have HN : Hid (∀ j, j < k + 1 → ChrP (bt s j)) := fun j hj => by
            by_cases e : j = k
            · rw [e]; exact hc
            · exact HOK.out j (by omega)
          have HC := hidU (decide_eq_true hc)
          clear hc
          go_wp2_with fail
          refine (isStrByteR_any _ _ hb0 hb1).mono ?_
          rintro e w' ⟨rfl, rfl⟩
          rw [HC.out]
          go_wp2
          go_round
          case rel => exact ⟨k + 1, by omega, by go_num, HN.out⟩
          case measure => simp [intOf]; omega
        · have HN : Hid (¬ StrP s) := fun h => hc (h.2 k hlt)
          have HC := hidU (decide_eq_false hc)
          clear hc
          go_wp2_with fail
          refine (isStrByteR_any _ _ hb0 hb1).mono ?_
          rintro e w' ⟨rfl, rfl⟩
          rw [HC.out]
          go_wp2
          go_ret
          exact ⟨ret_bool (strR_no HN.out).symm, rfl⟩
      · have HY : Hid (StrP s) := ⟨hl, fun j hj => HOK.out j (by omega)⟩
        go_wp2
        go_ret
        exact ⟨ret_bool (strR_yes HY.out).symm, rfl⟩
  · have HN : Hid (¬ StrP s) := fun h => hl h.1
    go_enter Try.func21, Try.ntmps21
    go_wp2
    go_ret
    exact ⟨ret_bool (strR_no HN.out).symm, rfl⟩
set_option maxHeartbeats 1600000 in
theorem isRight_any (p t : ByteArray) (w : World) (hp : p.size ≤ 9223372036854775807) (ht : t.size ≤ 9223372036854775807) :
    Calls Try.prog 15 #[.agg #[.string p, .string t]] w fun e w' => e = .returned (.bool (ruleB p t)) ∧ Below w.heap.size w w' := by
  have HB : Hid (Below w.heap.size w (w.alloc (.cells #[.string p, .string t] 34))) := (Below.refl _ _).alloc (Nat.le_refl _) _
  cases h1 : p.toList.isEmpty with
  | true =>
    have HV : Hid (ruleB p t = false) := by show _ = _; rw [ruleB, h1]; rfl
    go_enter Try.func15, Try.ntmps15
    go_wp2
    go_ret
    exact ⟨ret_bool HV.out.symm, HB.out⟩
  | false =>
    have HV : Hid (ruleB p t = (strR p && strR t)) := by show _ = _; rw [ruleB, h1]; rfl
    generalize ruleB p t = rb at HV
    go_enter Try.func15, Try.ntmps15
    go_wp2_with fail
    refine (isStr_any _ _ hp).mono ?_
    rintro e w' ⟨rfl, rfl⟩
    generalize strR p = b1 at HV
    cases b1 with
    | false =>
      go_wp2
      go_ret
      exact ⟨ret_bool HV.out.symm, HB.out⟩
    | true =>
      go_wp2_with fail
      refine (isStr_any _ _ ht).mono ?_
      rintro e w' ⟨rfl, rfl⟩
      go_wp2
      go_ret
      exact ⟨ret_bool HV.out.symm, HB.out⟩
theorem box_newR {w0 wr W : World} {p t : ByteArray} {e : TypeId} (hb : Below w0.heap.size w0 wr) (hW : W = wr.alloc (.cells #[.string p, .string t] e)) :
    W.cell? ⟨wr.heap.size, 0, none⟩ = some (.string p) ∧ W.cell? ⟨wr.heap.size, 1, none⟩ = some (.string t) ∧ Below w0.heap.size w0 W := by
  subst hW
  refine ⟨?_, ?_, hb.alloc hb.size _⟩
  · rw [World.cell?_alloc_new]; rfl
  · rw [World.cell?_alloc_new]; rfl
set_option maxRecDepth 100000 in
set_option maxHeartbeats 1600000 in
theorem rulesOk_implA (a : Option Addr) (g len cap : Nat) (Pt Tx : Nat → ByteArray) (w : World) (hf : FilesAt w a g 0 len Pt Tx) (hl : len ≤ 1048576) (hp : ∀ j, j < len → (Pt j).size ≤ 1048576) (ht : ∀ j, j < len → (Tx j).size ≤ 1048576) :
    Calls Try.prog 8 #[.slice a len cap] w fun e w' => e = .returned (.bool (rulesB len Pt Tx)) ∧ Below w.heap.size w w' := by
  by_cases hl8 : len ≤ 8
  · go_enter Try.func8, Try.ntmps8
    go_wp2
    go_loopw [10, 3, 4] (fun i _ _ wr => ∃ k : Nat, k ≤ len ∧ i = .int .i64 k ∧ RulesTo k Pt Tx ∧ Below w.heap.size w wr) (fun i _ _ _ => (len - intOf i).toNat)
    case atStart => exact ⟨0, by omega, rfl, fun j hj => absurd hj (Nat.not_lt_zero j), Below.refl _ _⟩
    case round =>
      obtain ⟨k, hk, rfl, hok, hb⟩ := hrel
      have HOK : Hid (RulesTo k Pt Tx) := hok
      clear hok
      by_cases hlt : k < len
      · obtain rfl := hf.addr (by omega)
        have hf' := hf.later hb
        have c0 := hf'.path k hlt
        have c1 := hf'.text k hlt
        rw [Nat.zero_add] at c0 c1
        have hp1 := hp k hlt
        have ht1 := ht k hlt
        obtain ⟨W, hW⟩ : ∃ W, W = wr.alloc (.cells #[.string (Pt k), .string (Tx k)] 34) := ⟨_, rfl⟩
        have HW : Hid (W = wr.alloc (.cells #[.string (Pt k), .string (Tx k)] 34)) := hW
        obtain ⟨b0, b1, hbW⟩ := box_newR hb hW
        have B0 : Hid (W.cell? ⟨wr.heap.size, 0, none⟩ = some (.string (Pt k))) := b0
        have B1 : Hid (W.cell? ⟨wr.heap.size, 1, none⟩ = some (.string (Tx k))) := b1
        have hfW := hf.later hbW
        have cQ : ∀ d os, Calls Try.prog 15 #[.agg #[.string (Pt k), .string (Tx k)]] (grow (redrawn W d) os) fun e w'' => e = .returned (.bool (ruleB (Pt k) (Tx k))) ∧ ∃ p : Regrown, w'' = grow (redrawn W p.d) p.os :=
          fun d os => Calls.regrown_of (isRight_any _ _ _ (by omega) (by omega))
        clear hW b0 b1
        cases hfl : ruleB (Pt k) (Tx k) with
        | false =>
          have HN : Hid (¬ RulesP len Pt Tx) := fun h => by have := (h.2 k hlt).1; rw [hfl] at this; cases this
          rw [hfl] at cQ
          go_wp2
          rw [← HW.out]
          have k0 := cell_regrown B0.out
          have k1 := cell_regrown B1.out
          refine wp_region_quiet_below (by kernel_rfl) (by kernel_rfl) ?_
          repeat (go_big_quiet_step (exact cQ _ _))
          refine wpQuiet_nil ?_
          intro _ hw'
          obtain ⟨⟨dq, osq⟩, hw''⟩ := hw'
          subst hw''
          go_wp2
          go_ret
          exact ⟨ret_bool (rulesB_no HN.out).symm, hbW.trans ((below_regrown W dq osq).mono hbW.size)⟩
        | true =>
          rw [hfl] at cQ
          by_cases hk0 : k = 0
          · subst hk0
            have HX : Hid (RulesTo (0 + 1) Pt Tx) := rulesTo_next HOK.out hfl (fun h => absurd h (Nat.lt_irrefl _))
            go_wp2
            rw [← HW.out]
            have k0 := cell_regrown B0.out
            have k1 := cell_regrown B1.out
            refine wp_region_quiet_below (by kernel_rfl) (by kernel_rfl) ?_
            repeat (go_big_quiet_step (exact cQ _ _))
            refine wpQuiet_nil ?_
            intro _ hw'
            obtain ⟨⟨dq, osq⟩, hw''⟩ := hw'
            subst hw''
            have hbE := hbW.trans ((below_regrown W dq osq).mono hbW.size)
            go_wp2
            go_roundw
            case rel => exact ⟨0 + 1, by omega, by go_num, HX.out, hbE⟩
            case measure => simp [intOf]; omega
          · obtain ⟨m, rfl⟩ : ∃ m, k = m + 1 := ⟨k - 1, by omega⟩
            have ez : ((m + 1 : Nat) : Int) = (m : Int) + 1 := by omega
            have eq1 : decide ((0 : Int) < ((m + 1 : Nat) : Int)) = true := decide_eq_true (by omega)
            have p0 := hfW.path m (by omega)
            rw [Nat.zero_add] at p0
            have P0 : Hid (W.cell? ⟨g, m * 2, none⟩ = some (.string (Pt m))) := p0
            clear p0
            cases hls : Op.bytesLess (Pt m).toList (Pt (m + 1)).toList with
            | true =>
              have HX : Hid (RulesTo (m + 1 + 1) Pt Tx) := rulesTo_next HOK.out hfl (fun _ => hls)
              go_wp2
              rw [← HW.out]
              have k0 := cell_regrown B0.out
              have k1 := cell_regrown B1.out
              have k2 := cell_regrown P0.out
              refine wp_region_quiet_below (by kernel_rfl) (by kernel_rfl) ?_
              repeat (go_big_quiet_step (exact cQ _ _))
              refine wpQuiet_nil ?_
              intro _ hw'
              obtain ⟨⟨dq, osq⟩, hw''⟩ := hw'
              subst hw''
              have hbE := hbW.trans ((below_regrown W dq osq).mono hbW.size)
              go_wp2
              go_roundw
              case rel => exact ⟨m + 1 + 1, by omega, by go_num, HX.out, hbE⟩
              case measure => simp [intOf]; omega
            | false =>
              have HN : Hid (¬ RulesP len Pt Tx) := fun h => by have := (h.2 (m + 1) hlt).2 (by omega); rw [Nat.add_sub_cancel, hls] at this; cases this
              go_wp2
              rw [← HW.out]
              have k0 := cell_regrown B0.out
              have k1 := cell_regrown B1.out
              have k2 := cell_regrown P0.out
              refine wp_region_quiet_below (by kernel_rfl) (by kernel_rfl) ?_
              repeat (go_big_quiet_step (exact cQ _ _))
              refine wpQuiet_nil ?_
              intro _ hw'
              obtain ⟨⟨dq, osq⟩, hw''⟩ := hw'
              subst hw''
              have hbE := hbW.trans ((below_regrown W dq osq).mono hbW.size)
              go_wp2
              go_ret
              exact ⟨ret_bool (rulesB_no HN.out).symm, hbE⟩
      · have HY : Hid (RulesP len Pt Tx) := ⟨hl8, fun j hj => HOK.out j (by omega)⟩
        go_wp2
        go_ret
        exact ⟨ret_bool (rulesB_yes HY.out).symm, hb⟩
  · have HN : Hid (¬ RulesP len Pt Tx) := fun h => hl8 h.1
    go_enter Try.func8, Try.ntmps8
    go_wp2
    go_ret
    exact ⟨ret_bool (rulesB_no HN.out).symm, Below.refl _ _⟩

theorem rulesOk_impl (g len cap : Nat) (Pt Tx : Nat → ByteArray) (w : World) (hf : FilesAt w (some ⟨g, 0, none⟩) g 0 len Pt Tx) (hl : len ≤ 1048576) (hp : ∀ j, j < len → (Pt j).size ≤ 1048576) (ht : ∀ j, j < len → (Tx j).size ≤ 1048576) :
    Calls Try.prog 8 #[.slice (some ⟨g, 0, none⟩) len cap] w fun e w' => e = .returned (.bool (rulesB len Pt Tx)) ∧ Below w.heap.size w w' := rulesOk_implA _ g len cap Pt Tx w hf hl hp ht
end Go.Proofs.Ytllhnofobkgjgaa
