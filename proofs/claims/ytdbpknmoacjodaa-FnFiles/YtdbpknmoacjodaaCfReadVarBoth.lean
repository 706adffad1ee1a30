/-
  What impl.ReadVar and spec.ReadVar answer: the walks.
-/
import Derived.Test.YtdbpknmoacjodaaCfSpecFilesToSpecShow
namespace Go.Proofs.Ytdbpknmoacjodaa
open Go.RowKit Go.PlainAid

set_option maxHeartbeats 1600000 in
theorem readVar_impl (s : ByteArray) (w : World) (_ : s.size ≤ 9223372036854775807) :
    Calls Try.prog 76 #[.string s] w fun e w' => e = .returned (.tuple #[.int .i64 (rvAns s).1, .int .i64 (rvAns s).2]) ∧ w' = w := by
  by_cases h7 : (7 : Int) < s.size
  · go_enter Try.func76, Try.ntmps76
    go_wp2
    go_loop [4, 5, 9] (fun t _ i => ∃ k : Nat, k ≤ 7 ∧ k ≤ s.size ∧ i = .int .i64 k ∧ t = .int .i64 (rv s k) ∧ rvGo s (7 - k) k = rvAns s) (fun _ _ i => (7 - intOf i).toNat)
    case atStart => exact ⟨0, by omega, by omega, rfl, rfl, rfl⟩
    case round =>
      obtain ⟨k, hk, hk2, rfl, rfl, hgo⟩ := hrel
      have HG : Hid (rvGo s (7 - k) k = rvAns s) := hgo
      clear hgo
      by_cases hlt : k < s.size ∧ k < 7
      · obtain ⟨hl1, hl2⟩ := hlt
        have hb0 := bt_nonneg s k
        have hb1 := bt_le s k
        have hb := get_bt s
        have ho := or_term s k hl2
        by_cases h128 : 128 ≤ bt s k
        · have HN : Hid (rvGo s (7 - (k + 1)) (k + 1) = rvAns s) := (rvGo_on s k hl2 hl1 h128).symm.trans HG.out
          go_wp2
          go_round
          case rel => exact ⟨k + 1, by omega, by omega, by go_num, rfl, HN.out⟩
          case measure => simp [intOf]; omega
        · by_cases hz : (bt s k == 0) = true
          · by_cases hk0 : 0 < k
            · have HA : Hid (rvAns s = (0, 0)) := HG.out.symm.trans (rvGo_none s k hl2 hl1 h128 ⟨by simpa using hz, hk0⟩)
              go_wp2
              go_ret2
              exact ⟨ret_int_int (by rw [HA.out]) (by rw [HA.out]), rfl⟩
            · have HA : Hid (rvAns s = (rv s (k + 1), (k : Int) + 1)) := HG.out.symm.trans (rvGo_is s k hl2 hl1 h128 (fun h => hk0 h.2))
              go_wp2
              go_ret2
              exact ⟨ret_int_int (by rw [HA.out]) (by rw [HA.out]), rfl⟩
          · have HA : Hid (rvAns s = (rv s (k + 1), (k : Int) + 1)) := HG.out.symm.trans (rvGo_is s k hl2 hl1 h128 (fun h => hz (by simpa using h.1)))
            have hz' : (bt s k == 0) = false := by simpa using hz
            clear hz
            go_wp2
            go_ret2
            exact ⟨ret_int_int (by rw [HA.out]) (by rw [HA.out]), rfl⟩
      · have HA : Hid (rvAns s = (0, 0)) := HG.out.symm.trans (rvGo_end s k hlt)
        go_wp2
        go_ret2
        exact ⟨ret_int_int (by rw [HA.out]) (by rw [HA.out]), rfl⟩
  · go_enter Try.func76, Try.ntmps76
    go_wp2
    go_loop [4, 5, 9] (fun t _ i => ∃ k : Nat, k ≤ 7 ∧ k ≤ s.size ∧ i = .int .i64 k ∧ t = .int .i64 (rv s k) ∧ rvGo s (7 - k) k = rvAns s) (fun _ _ i => (7 - intOf i).toNat)
    case atStart => exact ⟨0, by omega, by omega, rfl, rfl, rfl⟩
    case round =>
      obtain ⟨k, hk, hk2, rfl, rfl, hgo⟩ := hrel
      have HG : Hid (rvGo s (7 - k) k = rvAns s) := hgo
      clear hgo
      by_cases hlt : k < s.size ∧ k < 7
      · obtain ⟨hl1, hl2⟩ := hlt
        have hb0 := bt_nonneg s k
        have hb1 := bt_le s k
        have hb := get_bt s
        have ho := or_term s k hl2
        by_cases h128 : 128 ≤ bt s k
        · have HN : Hid (rvGo s (7 - (k + 1)) (k + 1) = rvAns s) := (rvGo_on s k hl2 hl1 h128).symm.trans HG.out
          go_wp2
          go_round
          case rel => exact ⟨k + 1, by omega, by omega, by go_num, rfl, HN.out⟩
          case measure => simp [intOf]; omega
        · by_cases hz : (bt s k == 0) = true
          · by_cases hk0 : 0 < k
            · have HA : Hid (rvAns s = (0, 0)) := HG.out.symm.trans (rvGo_none s k hl2 hl1 h128 ⟨by simpa using hz, hk0⟩)
              go_wp2
              go_ret2
              exact ⟨ret_int_int (by rw [HA.out]) (by rw [HA.out]), rfl⟩
            · have HA : Hid (rvAns s = (rv s (k + 1), (k : Int) + 1)) := HG.out.symm.trans (rvGo_is s k hl2 hl1 h128 (fun h => hk0 h.2))
              go_wp2
              go_ret2
              exact ⟨ret_int_int (by rw [HA.out]) (by rw [HA.out]), rfl⟩
          · have HA : Hid (rvAns s = (rv s (k + 1), (k : Int) + 1)) := HG.out.symm.trans (rvGo_is s k hl2 hl1 h128 (fun h => hz (by simpa using h.1)))
            have hz' : (bt s k == 0) = false := by simpa using hz
            clear hz
            go_wp2
            go_ret2
            exact ⟨ret_int_int (by rw [HA.out]) (by rw [HA.out]), rfl⟩
      · have HA : Hid (rvAns s = (0, 0)) := HG.out.symm.trans (rvGo_end s k hlt)
        go_wp2
        go_ret2
        exact ⟨ret_int_int (by rw [HA.out]) (by rw [HA.out]), rfl⟩

def RvAt (s : ByteArray) (i : Nat) : Prop := ((∀ j, j < i → 128 ≤ bt s j) ∧ rvGo s (7 - i) i = rvAns s) ∨ (rvAns s = (0, 0) ∧ ∃ j, j < i ∧ bt s j < 128)
theorem rvAt_yes {s : ByteArray} {i : Nat} (h : RvAt s i) (hi : i < 7) (hs : i < s.size) (hc : Can s 0 (i + 1)) : rvAns s = (rv s (i + 1), (i : Int) + 1) := by
  rw [can_iff] at hc
  simp only [Nat.zero_add] at hc
  obtain ⟨c1, c2, c3⟩ := hc
  rcases h with ⟨_, hg⟩ | ⟨_, j, hj, hb⟩
  · rw [← hg]
    exact rvGo_is s i hi hs (by omega) (by omega)
  · have := c1 j hj
    omega
theorem rvAt_next {s : ByteArray} {i : Nat} (h : RvAt s i) (hi : i < 7) (hs : i < s.size) (hc : ¬ Can s 0 (i + 1)) : RvAt s (i + 1) := by
  rw [can_iff] at hc
  simp only [Nat.zero_add] at hc
  rcases h with ⟨ha, hg⟩ | ⟨h0, j, hj, hb⟩
  · by_cases h128 : 128 ≤ bt s i
    · refine .inl ⟨fun j hj => ?_, (rvGo_on s i hi hs h128).symm.trans hg⟩
      by_cases e : j = i
      · rw [e]; exact h128
      · exact ha j (by omega)
    · refine .inr ⟨?_, i, by omega, by omega⟩
      rw [← hg]
      refine rvGo_none s i hi hs h128 ?_
      rcases Classical.em (i = 0 ∨ bt s i ≠ 0) with k | k
      · exact absurd ⟨ha, by omega, k⟩ hc
      · omega
  · exact .inr ⟨h0, j, by omega, hb⟩
theorem rvAt_end {s : ByteArray} {i : Nat} (h : RvAt s i) (he : ¬ (i < s.size ∧ i < 7)) : rvAns s = (0, 0) := by
  rcases h with ⟨_, hg⟩ | ⟨h0, _⟩
  · rw [← hg]; exact rvGo_end s i he
  · exact h0

set_option maxHeartbeats 1600000 in
theorem readVar_spec (s : ByteArray) (w : World) (_ : s.size ≤ 9223372036854775807) :
    Calls Try.prog 150 #[.string s] w fun e w' => e = .returned (.tuple #[.int .i64 (rvAns s).1, .int .i64 (rvAns s).2]) ∧ Below w.heap.size w w' := by
  go_enter Try.func150, Try.ntmps150
  go_wp2
  go_loopw [4, 5, 6] (fun kk _ _ wr => ∃ i : Nat, i ≤ 7 ∧ i ≤ s.size ∧ kk = .int .i64 ((i : Int) + 1) ∧ RvAt s i ∧ Below w.heap.size w wr) (fun kk _ _ _ => (8 - intOf kk).toNat)
  case atStart => exact ⟨0, by omega, by omega, rfl, .inl ⟨fun j hj => by omega, rfl⟩, Below.refl _ _⟩
  case round =>
    obtain ⟨i, hi, hi2, rfl, hat, hbel⟩ := hrel
    have HAT : Hid (RvAt s i) := hat
    clear hat
    by_cases hlt : i < s.size ∧ i < 7
    · obtain ⟨hl1, hl2⟩ := hlt
      go_wp2
      go_loopw [5, 6] (fun t z wq => wq = wr ∧ ∃ j : Nat, j ≤ i + 1 ∧ z = .int .i64 ((j : Int) - 1) ∧ t = .int .i64 (hvm s j (i + 1 - j))) (fun _ z _ => (intOf z + 1).toNat)
      case atStart => exact ⟨rfl, i + 1, by omega, by go_num, by rw [Nat.sub_self]; rfl⟩
      case round =>
        obtain ⟨rfl, j, hj, rfl, rfl⟩ := hrel
        match j, hj with
        | j + 1, hj =>
          have ez : ((j + 1 : Nat) : Int) - 1 = (j : Int) := by omega
          rw [ez]
          have hb0 := bt_nonneg s j
          have hb1 := bt_le s j
          have hb := get_bt s
          have hh := hvm_bd s (j + 1) (i - j) (by omega)
          have HS : Hid (hvm s j (i + 1 - j) = hvm s (j + 1) (i - j) * 128 + bt s j % 128) := by
            show hvm s j (i + 1 - j) = _
            rw [show i + 1 - j = (i - j) + 1 from by omega, hvm]
            omega
          go_wp2
          go_roundw
          case rel => exact ⟨trivial, j, by omega, rfl, by rw [HS.out]⟩
          case measure => simp [intOf]
        | 0, _ =>
          simp only [Nat.sub_zero]
          have hh := hvm_bd s 0 (i + 1) (by omega)
          have hl3 : (i : Int) + 1 ≤ s.size := by omega
          have hl4 : (0 : Int) ≤ (i : Int) + 1 := by omega
          by_cases hc : Can s 0 (i + 1)
          · have HA : Hid (rvAns s = (rv s (i + 1), (i : Int) + 1)) := rvAt_yes HAT.out hl2 hl1 hc
            have hq : ((strOfNums (varL (hvm s 0 (i + 1)))).toList == (s.extract 0 (i + 1)).toList) = true := (toList_eq_iff _ _).2 ((same_iff s i hl2 (by omega)).2 hc)
            clear hc
            go_wp2
            go_region_law (go_simp; go_wp2_with (go_at_call 144; refine (var_spec _ _).mono ?_; rintro e w' ⟨rfl, hb1⟩))
            all_goals
              go_wp2
              go_ret2
              exact ⟨ret_int_int (by rw [HA.out]; rfl) (by rw [HA.out]), hbel.drew.trans (hb1.mono hbel.size)⟩
          · have HN : Hid (RvAt s (i + 1)) := rvAt_next HAT.out hl2 hl1 hc
            have hq : ((strOfNums (varL (hvm s 0 (i + 1)))).toList == (s.extract 0 (i + 1)).toList) = false := toList_ne (fun h => hc ((same_iff s i hl2 (by omega)).1 h))
            clear hc
            go_wp2
            go_region_law (go_simp; go_wp2_with (go_at_call 144; refine (var_spec _ _).mono ?_; rintro e w' ⟨rfl, hb1⟩))
            all_goals
              go_wp2
              go_roundw
              case rel => exact ⟨i + 1, by omega, by omega, by go_num, HN.out, hbel.drew.trans (hb1.mono hbel.size)⟩
              case measure => simp [intOf]; omega
    · have HA : Hid (rvAns s = (0, 0)) := rvAt_end HAT.out hlt
      by_cases h7 : i < 7
      all_goals
        go_wp2
        go_ret2
        exact ⟨ret_int_int (by rw [HA.out]) (by rw [HA.out]), hbel⟩
end Go.Proofs.Ytdbpknmoacjodaa
