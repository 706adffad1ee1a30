/-
  What spec.MapSpec answers: the walk.
-/
import Derived.Test.YtllhnofobkgjgaaMapMath
import Derived.Test.YtllhnofobkgjgaaSpecRules
namespace Go.Proofs.Ytllhnofobkgjgaa
open Go.RowKit Go.PlainAid Go.Sort

theorem below_redrawn {w w' : World} {n d : Nat} (h : Below n w w') : Below n w (redrawn w' d) := ⟨h.os, h.tape, h.output, h.size, h.block⟩
set_option maxRecDepth 100000 in
set_option maxHeartbeats 12800000 in
theorem mapSpec_spec (g len cap : Nat) (Pt Tx : Nat → ByteArray) (s : ByteArray) (w : World) (hf : FilesAt w (some ⟨g, 0, none⟩) g 0 len Pt Tx) (hl : len ≤ 1048576) (hp : ∀ j, j < len → (Pt j).size ≤ 1048576) (ht : ∀ j, j < len → (Tx j).size ≤ 1048576) (hs : s.size ≤ 1048576) :
    Calls Try.prog 10 #[.slice (some ⟨g, 0, none⟩) len cap, .string s] w fun e w' => e = .returned (.string (mapS len Pt Tx s)) ∧ Below w.heap.size w w' := by
  go_enter Try.func10, Try.ntmps10
  go_wp2
  go_loopw [5, 6, 7] (fun b i _ wr => ∃ k : Nat, k ≤ len ∧ i = .int .i64 k ∧ b = .int .i64 (bestI (bestTo Pt s k)) ∧ (k = 0 ∨ rulesB len Pt Tx = true) ∧ Below w.heap.size w wr) (fun _ i _ _ => (len - intOf i).toNat)
  case atStart => exact ⟨0, Nat.zero_le _, rfl, rfl, .inl rfl, Below.refl _ _⟩
  case round =>
    obtain ⟨k, hk, rfl, rfl, hor, hb⟩ := hrel
    have HOR := hidU hor
    clear hor
    by_cases hlt : k < len
    · have hf' := hf.later hb
      cases hrb : rulesB len Pt Tx with
      | false =>
        have HN : Hid (mapS len Pt Tx s = s) := mapS_no hrb
        obtain rfl : k = 0 := by
          rcases HOR.out with e | e
          · exact e
          · rw [hrb] at e; cases e
        rw [show bestI (bestTo Pt s 0) = -1 from rfl]
        go_wp2_with (go_at_call 6; refine (rulesOk_spec g len cap Pt Tx _ hf' hl hp ht).mono ?_; rintro e w2 ⟨rfl, hb2⟩; rw [hrb])
        have HE := hidU (hb.trans (hb2.mono hb.size))
        go_quiet (fail)
        go_wp2
        go_ret
        exact ⟨ret_str HN.out.symm, below_redrawn HE.out⟩
      | true =>
        have hpos := rule_long hrb hlt
        have c0 := hf'.path k hlt
        rw [Nat.zero_add] at c0
        have hp1 := hp k hlt
        have gb := get_bt (Pt k) ((Pt k).size - 1)
        have ez : ((Pt k).size : Int) - 1 = ((Pt k).size - 1 : Nat) := by omega
        cases e1 : ((Pt k).toList == s.toList) with
        | true =>
          have HH : Hid (hitB (Pt k) s = true) := by show _ = _; rw [hitB, e1]; rfl
          cases hbt : bestTo Pt s k with
          | none =>
            have HX : Hid (bestTo Pt s (k + 1) = some k) := bestTo_new HH.out hbt
            rw [show bestI none = -1 from rfl]
            go_wp2_with (go_at_call 6; refine (rulesOk_spec g len cap Pt Tx _ hf' hl hp ht).mono ?_; rintro e w2 ⟨rfl, hb2⟩; rw [hrb]; replace c0 := (hb2.cell (hf'.lt (by omega))).trans c0; have HB := hidU (hb.trans (hb2.mono hb.size)); clear hb2)
            go_roundw
            case rel => exact ⟨k + 1, hlt, by go_num, by rw [HX.out]; rfl, .inr trivial, HB.out⟩
            case measure => simp [intOf]; omega
          | some b =>
            have hbk := (bestTo_is hbt).1
            have p0 := hf'.path b (by omega)
            rw [Nat.zero_add] at p0
            have hpb := hp b (by omega)
            rw [show bestI (some b) = (b : Int) from rfl]
            have hm : decide ((b : Int) < 0) = false := decide_eq_false (by omega)
            by_cases hlo : (Pt b).size < (Pt k).size
            · have HX : Hid (bestTo Pt s (k + 1) = some k) := bestTo_long HH.out hbt hlo
              go_wp2_with (go_at_call 6; refine (rulesOk_spec g len cap Pt Tx _ hf' hl hp ht).mono ?_; rintro e w2 ⟨rfl, hb2⟩; rw [hrb]; replace c0 := (hb2.cell (hf'.lt (by omega))).trans c0; replace p0 := (hb2.cell (hf'.lt (by omega))).trans p0; have HB := hidU (hb.trans (hb2.mono hb.size)); clear hb2)
              go_roundw
              case rel => exact ⟨k + 1, hlt, by go_num, by rw [HX.out]; rfl, .inr trivial, HB.out⟩
              case measure => simp [intOf]; omega
            · have HX : Hid (bestTo Pt s (k + 1) = some b) := bestTo_old HH.out hbt hlo
              go_wp2_with (go_at_call 6; refine (rulesOk_spec g len cap Pt Tx _ hf' hl hp ht).mono ?_; rintro e w2 ⟨rfl, hb2⟩; rw [hrb]; replace c0 := (hb2.cell (hf'.lt (by omega))).trans c0; replace p0 := (hb2.cell (hf'.lt (by omega))).trans p0; have HB := hidU (hb.trans (hb2.mono hb.size)); clear hb2)
              go_roundw
              case rel => exact ⟨k + 1, hlt, by go_num, by rw [HX.out]; rfl, .inr trivial, HB.out⟩
              case measure => simp [intOf]; omega
        | false =>
          cases e2 : (bt (Pt k) ((Pt k).size - 1) == 47) with
          | false =>
            have HX : Hid (bestTo Pt s (k + 1) = bestTo Pt s k) := bestTo_no (by rw [hitB, e1, e2]; rfl)
            go_wp2_with (go_at_call 6; refine (rulesOk_spec g len cap Pt Tx _ hf' hl hp ht).mono ?_; rintro e w2 ⟨rfl, hb2⟩; rw [hrb]; replace c0 := (hb2.cell (hf'.lt (by omega))).trans c0; have HB := hidU (hb.trans (hb2.mono hb.size)); clear hb2)
            go_roundw
            case rel => exact ⟨k + 1, hlt, by go_num, by rw [HX.out], .inr trivial, HB.out⟩
            case measure => simp [intOf]; omega
          | true =>
            cases e3 : begB (Pt k) s with
            | false =>
              have HX : Hid (bestTo Pt s (k + 1) = bestTo Pt s k) := bestTo_no (by rw [hitB, e1, e2, e3]; rfl)
              go_wp2_with (first | (go_at_call 6; refine (rulesOk_spec g len cap Pt Tx _ hf' hl hp ht).mono ?_; rintro e w2 ⟨rfl, hb2⟩; rw [hrb]; replace c0 := (hb2.cell (hf'.lt (by omega))).trans c0; have HB := hidU (hb.trans (hb2.mono hb.size)); clear hb2) | (go_at_call 17; refine (begins_spec (Pt k) s _ (by omega) (by omega)).mono ?_; rintro e w' ⟨rfl, rfl⟩; rw [e3]))
              go_roundw
              case rel => exact ⟨k + 1, hlt, by go_num, by rw [HX.out], .inr trivial, HB.out⟩
              case measure => simp [intOf]; omega
            | true =>
              have HH : Hid (hitB (Pt k) s = true) := by show _ = _; rw [hitB, e1, e2, e3]; rfl
              cases hbt : bestTo Pt s k with
              | none =>
                have HX : Hid (bestTo Pt s (k + 1) = some k) := bestTo_new HH.out hbt
                rw [show bestI none = -1 from rfl]
                go_wp2_with (first | (go_at_call 6; refine (rulesOk_spec g len cap Pt Tx _ hf' hl hp ht).mono ?_; rintro e w2 ⟨rfl, hb2⟩; rw [hrb]; replace c0 := (hb2.cell (hf'.lt (by omega))).trans c0; have HB := hidU (hb.trans (hb2.mono hb.size)); clear hb2) | (go_at_call 17; refine (begins_spec (Pt k) s _ (by omega) (by omega)).mono ?_; rintro e w' ⟨rfl, rfl⟩; rw [e3]))
                go_roundw
                case rel => exact ⟨k + 1, hlt, by go_num, by rw [HX.out]; rfl, .inr trivial, HB.out⟩
                case measure => simp [intOf]; omega
              | some b =>
                have hbk := (bestTo_is hbt).1
                have p0 := hf'.path b (by omega)
                rw [Nat.zero_add] at p0
                have hpb := hp b (by omega)
                rw [show bestI (some b) = (b : Int) from rfl]
                have hm : decide ((b : Int) < 0) = false := decide_eq_false (by omega)
                by_cases hlo : (Pt b).size < (Pt k).size
                · have HX : Hid (bestTo Pt s (k + 1) = some k) := bestTo_long HH.out hbt hlo
                  go_wp2_with (first | (go_at_call 6; refine (rulesOk_spec g len cap Pt Tx _ hf' hl hp ht).mono ?_; rintro e w2 ⟨rfl, hb2⟩; rw [hrb]; replace c0 := (hb2.cell (hf'.lt (by omega))).trans c0; replace p0 := (hb2.cell (hf'.lt (by omega))).trans p0; have HB := hidU (hb.trans (hb2.mono hb.size)); clear hb2) | (go_at_call 17; refine (begins_spec (Pt k) s _ (by omega) (by omega)).mono ?_; rintro e w' ⟨rfl, rfl⟩; rw [e3]))
                  go_roundw
                  case rel => exact ⟨k + 1, hlt, by go_num, by rw [HX.out]; rfl, .inr trivial, HB.out⟩
                  case measure => simp [intOf]; omega
                · have HX : Hid (bestTo Pt s (k + 1) = some b) := bestTo_old HH.out hbt hlo
                  go_wp2_with (first | (go_at_call 6; refine (rulesOk_spec g len cap Pt Tx _ hf' hl hp ht).mono ?_; rintro e w2 ⟨rfl, hb2⟩; rw [hrb]; replace c0 := (hb2.cell (hf'.lt (by omega))).trans c0; replace p0 := (hb2.cell (hf'.lt (by omega))).trans p0; have HB := hidU (hb.trans (hb2.mono hb.size)); clear hb2) | (go_at_call 17; refine (begins_spec (Pt k) s _ (by omega) (by omega)).mono ?_; rintro e w' ⟨rfl, rfl⟩; rw [e3]))
                  go_roundw
                  case rel => exact ⟨k + 1, hlt, by go_num, by rw [HX.out]; rfl, .inr trivial, HB.out⟩
                  case measure => simp [intOf]; omega
    · obtain rfl : k = len := by omega
      cases hbt : bestTo Pt s k with
      | none =>
        have HN : Hid (mapS k Pt Tx s = s) := mapS_none hbt
        rw [show bestI none = -1 from rfl]
        go_wp2
        go_quiet (fail)
        go_wp2
        go_ret
        exact ⟨ret_str HN.out.symm, below_redrawn hb⟩
      | some b =>
        have hf' := hf.later hb
        have hbi := bestTo_is hbt
        have hsz := hit_size hbi.2
        have hbk := hbi.1
        have p0 := hf'.path b hbk
        have p1 := hf'.text b hbk
        rw [Nat.zero_add] at p0 p1
        have hpb := hp b hbk
        have htb := ht b hbk
        have hrb : rulesB k Pt Tx = true := by
          rcases HOR.out with e | e
          · omega
          · exact e
        rw [show bestI (some b) = (b : Int) from rfl]
        have hm : decide ((b : Int) < 0) = false := decide_eq_false (by omega)
        by_cases hfar : 40 < ((Tx b).size : Int) + s.size - (Pt b).size
        · have HN : Hid (mapS k Pt Tx s = s) := mapS_far hbt hfar
          clear hrb hbi hbt
          go_wp2
          go_quiet (fail)
          go_wp2
          go_ret
          exact ⟨ret_str HN.out.symm, below_redrawn hb⟩
        · have HN : Hid (mapS k Pt Tx s = Tx b ++ s.extract (Pt b).size s.size) := mapS_yes hrb hbt hfar
          clear hrb hbi hbt
          go_wp2
          go_quiet (fail)
          go_wp2
          go_quiet (fail)
          go_wp2
          go_ret
          exact ⟨ret_str HN.out.symm, below_redrawn (below_redrawn hb)⟩
end Go.Proofs.Ytllhnofobkgjgaa
