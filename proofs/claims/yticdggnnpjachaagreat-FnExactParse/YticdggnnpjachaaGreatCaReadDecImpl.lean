/-
  What impl.ReadDec answers: the walk.
-/
import Derived.Test.YticdggnnpjachaaGreatCaImplLexAToReadDecMath
import Derived.WalkMore
namespace Go.Proofs.YticdggnnpjachaaGreat
open Go.RowKit Go.PlainAid

theorem byte_eq_iff (x : Int) (h0 : 0 ≤ x) (h1 : x ≤ 255) (c : Nat) (hc : c < 256) : UInt8.ofNat x.toNat = UInt8.ofNat c ↔ x = c := by
  constructor
  · intro h
    have := congrArg UInt8.toNat h
    simp only [UInt8.toNat_ofNat'] at this
    omega
  · intro h
    rw [h]
    rfl
theorem first_is (s : ByteArray) (h : 1 ≤ s.size) : ((s.extract 0 1).toList == [45]) = decide (bt s 0 = 45) := by
  rw [extract_bsl s 1 h, Lib.toList_data, strOfNums_data]
  simp only [bsl, List.map_cons, List.map_nil]
  rw [Bool.eq_iff_iff, beq_iff_eq, decide_eq_true_eq]
  have := byte_eq_iff (bt s 0) (bt_nonneg s 0) (bt_le s 0) 45 (by decide)
  simp only [List.cons.injEq, and_true]
  exact this

theorem hasMinus_any (s : ByteArray) (w : World) (_ : s.size ≤ 9223372036854775807) :
    Calls Tryz.prog 140 #[.string s, .string { data := #[45] }] w fun e w' => e = .returned (.bool (decide (bt s 0 = 45))) ∧ w' = w := by
  by_cases h : 1 ≤ s.size
  · have HV : Hid (((s.extract 0 1).toList == [45]) = decide (bt s 0 = 45)) := first_is s h
    go_enter Tryz.func140, Tryz.ntmps140
    go_wp2
    go_ret
    exact ⟨ret_bool HV.out, rfl⟩
  · have HV : Hid (decide (bt s 0 = 45) = false) := by show decide (bt s 0 = 45) = false; rw [bt_end s (by omega)]; rfl
    go_enter Tryz.func140, Tryz.ntmps140
    go_wp2
    go_ret
    exact ⟨ret_bool HV.out.symm, rfl⟩

theorem cutLite_no (s : ByteArray) (w : World) (hs : s.size ≤ 9223372036854775807) (h : decide (bt s 0 = 45) = false) :
    Calls Tryz.prog 193 #[.string s, .string { data := #[45] }] w fun e w' => e = .returned (.tuple #[.string s, .bool false]) ∧ w' = w := by
  go_enter Tryz.func193, Tryz.ntmps193
  go_wp2_with fail
  refine (hasMinus_any _ _ hs).mono ?_
  rintro e w' ⟨rfl, rfl⟩
  go_wp2
  go_ret2
  exact ⟨rfl, rfl⟩
theorem cutLite_yes (s : ByteArray) (w : World) (hs : s.size ≤ 9223372036854775807) (h : decide (bt s 0 = 45) = true) (hl : 1 ≤ s.size) :
    Calls Tryz.prog 193 #[.string s, .string { data := #[45] }] w fun e w' => e = .returned (.tuple #[.string (s.extract 1 s.size), .bool true]) ∧ w' = w := by
  go_enter Tryz.func193, Tryz.ntmps193
  go_wp2_with fail
  refine (hasMinus_any _ _ hs).mono ?_
  rintro e w' ⟨rfl, rfl⟩
  go_wp2
  go_ret2
  exact ⟨rfl, rfl⟩
theorem cut_no (s : ByteArray) (w : World) (hs : s.size ≤ 9223372036854775807) (h : decide (bt s 0 = 45) = false) :
    Calls Tryz.prog 170 #[.string s, .string { data := #[45] }] w fun e w' => e = .returned (.tuple #[.string s, .bool false]) ∧ w' = w := by
  go_enter Tryz.func170, Tryz.ntmps170
  go_wp2_with fail
  refine (cutLite_no _ _ hs h).mono ?_
  rintro e w' ⟨rfl, rfl⟩
  go_wp2
  go_ret2
  exact ⟨rfl, rfl⟩
theorem cut_yes (s : ByteArray) (w : World) (hs : s.size ≤ 9223372036854775807) (h : decide (bt s 0 = 45) = true) (hl : 1 ≤ s.size) :
    Calls Tryz.prog 170 #[.string s, .string { data := #[45] }] w fun e w' => e = .returned (.tuple #[.string (s.extract 1 s.size), .bool true]) ∧ w' = w := by
  go_enter Tryz.func170, Tryz.ntmps170
  go_wp2_with fail
  refine (cutLite_yes _ _ hs h hl).mono ?_
  rintro e w' ⟨rfl, rfl⟩
  go_wp2
  go_ret2
  exact ⟨rfl, rfl⟩

theorem zero_text (s : ByteArray) (h : bt s (pfx s) = 48) : (s.toList == [48]) = true ↔ (pfx s = 0 ∧ s.size = 1) := by
  have e : s.toList = (bsl s 0 s.size).map (fun n => UInt8.ofNat n.toNat) := by
    rw [Lib.toList_data, ← strOfNums_data, ← all_bsl s]
  rw [e, beq_iff_eq]
  constructor
  · intro k
    have hl := congrArg List.length k
    rw [List.length_map, bsl_length] at hl
    have h1 : s.size = 1 := by simpa using hl
    rw [h1] at k
    simp only [bsl, List.map_cons, List.map_nil, List.cons.injEq, and_true] at k
    have := (byte_eq_iff (bt s 0) (bt_nonneg s 0) (bt_le s 0) 48 (by decide)).1 k
    refine ⟨?_, h1⟩
    unfold pfx
    rw [if_neg (by omega)]
  · rintro ⟨k0, k1⟩
    rw [k0] at h
    rw [k1]
    simp [bsl, h]
def RdTo (s : ByteArray) (k : Nat) : Prop := (∀ j, j < k → isDig (bt s (pfx s + j))) ∧ (1 ≤ k → bt s (pfx s) ≠ 48 ∨ (pfx s = 0 ∧ s.size = 1))
theorem rdTo_start (s : ByteArray) : RdTo s 0 := ⟨fun _ h => by omega, fun h => by omega⟩
theorem rdTo_end {s : ByteArray} {k : Nat} (h : RdTo s k) (hk : k = s.size - pfx s) (h1 : 1 ≤ k) (h9 : k ≤ 9) : RdP s := by
  subst hk
  exact ⟨h1, h9, h.1, h.2 h1⟩
theorem rdTo_next {s : ByteArray} {k : Nat} (h : RdTo s k) (hd : 48 ≤ bt s (pfx s + k) ∧ bt s (pfx s + k) ≤ 57) (hz : k = 0 → bt s (pfx s) ≠ 48 ∨ (pfx s = 0 ∧ s.size = 1)) : RdTo s (k + 1) := by
  refine ⟨fun j hj => ?_, fun _ => ?_⟩
  · by_cases e : j = k
    · rw [e]; exact hd
    · exact h.1 j (by omega)
  · by_cases e : k = 0
    · exact hz e
    · exact h.2 (by omega)
theorem rdTo_fail {s : ByteArray} {k : Nat} (hk : k < s.size - pfx s) (hd : ¬ (48 ≤ bt s (pfx s + k) ∧ bt s (pfx s + k) ≤ 57)) : ¬ RdP s := fun h => hd (h.2.2.1 k hk)
theorem rdTo_nought {s : ByteArray} (h0 : bt s (pfx s) = 48) (h : ¬ (pfx s = 0 ∧ s.size = 1)) : ¬ RdP s := fun k => by
  rcases k.2.2.2 with e | e
  · exact e h0
  · exact h e
theorem rdTo_bd {s : ByteArray} {k : Nat} (h : RdTo s k) (h9 : k ≤ 9) : 0 ≤ dv s (pfx s) k ∧ dv s (pfx s) k ≤ 1000000000 := by
  have a := dv_bd s (pfx s) k h.1
  have b := pow10_le k h9
  omega

theorem rdV_yes {s : ByteArray} (h : RdP s) : rdV s = if pfx s = 1 then -dv s (pfx s) (s.size - pfx s) else dv s (pfx s) (s.size - pfx s) := by
  rw [rdV, if_pos (rdOk_yes h)]
  by_cases e : bt s 0 = 45
  · have ep : pfx s = 1 := by simp [pfx, e]
    rw [ep, if_pos rfl, if_pos rfl]
  · have ep : pfx s = 0 := by simp [pfx, e]
    rw [ep]
    rfl

set_option maxHeartbeats 1600000 in
theorem readDec_core (s t : ByteArray) (b : Bool) (w : World) (hbp : b = decide (pfx s = 1)) (hbt : ∀ k, bt t k = bt s (pfx s + k)) (hsz : t.size = s.size - pfx s)
    (hc : ∀ w, Calls Tryz.prog 170 #[.string s, .string { data := #[45] }] w fun e w' => e = .returned (.tuple #[.string t, .bool b]) ∧ w' = w) (h1 : 1 ≤ t.size) (h9 : t.size ≤ 9) :
    Calls Tryz.prog 142 #[.string s] w fun e w' => e = .returned (.tuple #[.int .i64 (rdV s), .bool (rdOk s)]) ∧ w' = w := by
  have HC : Hid (∀ w, Calls Tryz.prog 170 #[.string s, .string { data := #[45] }] w fun e w' => e = .returned (.tuple #[.string t, .bool b]) ∧ w' = w) := hc
  have HB : Hid (∀ k, bt t k = bt s (pfx s + k)) := hbt
  have HSZ : Hid (t.size = s.size - pfx s) := hsz
  have HBP : Hid (b = decide (pfx s = 1)) := hbp
  clear hc hbt hsz hbp
  have t1 : (1 : Int) ≤ t.size := by omega
  have t9 : (t.size : Int) ≤ 9 := by omega
  cases b
  all_goals
    go_enter Tryz.func142, Tryz.ntmps142
    go_wp2
    go_step3
    go_wp2_with (go_at_call 170; refine (HC.out _).mono ?_; rintro e w' ⟨rfl, rfl⟩)
    go_step3
    go_wp2
    go_loop [6, 7, 25] (fun n o i => ∃ k : Nat, k ≤ t.size ∧ i = .int .i64 k ∧ n = .int .i64 (dv s (pfx s) k) ∧ o = .bool true ∧ RdTo s k) (fun _ _ i => (t.size - intOf i).toNat)
    case atStart => exact ⟨0, by omega, rfl, rfl, rfl, rdTo_start s⟩
    case round =>
      obtain ⟨k, hk, rfl, rfl, rfl, hto⟩ := hrel
      have HT : Hid (RdTo s k) := hto
      have hv := rdTo_bd hto (by omega)
      clear hto
      by_cases hlt : k < t.size
      · have hb0 := bt_nonneg t k
        have hb1 := bt_le t k
        have hb := get_bt t
        by_cases hd : 48 ≤ bt t k ∧ bt t k ≤ 57
        · obtain ⟨hd0, hd1⟩ := hd
          have HD : Hid (dv s (pfx s) (k + 1) = 10 * dv s (pfx s) k + (bt t k - 48)) := by
            show dv s (pfx s) (k + 1) = _
            rw [dv, HB.out k]; omega
          by_cases hz : (bt t k - 48 == 0) = true
          · by_cases hk0 : ((k : Int) == 0) = true
            · have e0 : k = 0 := by simpa using hk0
              have ez : bt s (pfx s) = 48 := by
                have e1 := HB.out k
                rw [e0] at e1
                rw [e0] at hz
                have e2 : bt t 0 - 48 = 0 := by simpa using hz
                rw [Nat.add_zero] at e1
                omega
              by_cases hq : (s.toList == [48]) = true
              · have HN : Hid (RdTo s (k + 1)) := rdTo_next HT.out (by rw [← HB.out k]; exact ⟨hd0, hd1⟩) (fun _ => .inr ((zero_text s ez).1 hq))
                clear e0 ez
                go_wp2
                go_round
                case rel => exact ⟨k + 1, by omega, by go_num, by rw [HD.out], rfl, HN.out⟩
                case measure => simp [intOf]; omega
              · have HN : Hid (¬ RdP s) := rdTo_nought ez (fun h => hq ((zero_text s ez).2 h))
                have hq' : (s.toList == [48]) = false := by simpa using hq
                clear e0 ez hq
                go_wp2
                go_ret2
                exact ⟨ret_int_bool (by rw [rdV_no HN.out]) (rdOk_no HN.out).symm, rfl⟩
            · have HN : Hid (RdTo s (k + 1)) := rdTo_next HT.out (by rw [← HB.out k]; exact ⟨hd0, hd1⟩) (fun e => absurd (show ((k : Int) == 0) = true by rw [e]; rfl) hk0)
              have hk0' : ((k : Int) == 0) = false := by simpa using hk0
              clear hk0
              go_wp2
              go_round
              case rel => exact ⟨k + 1, by omega, by go_num, by rw [HD.out], rfl, HN.out⟩
              case measure => simp [intOf]; omega
          · have HN : Hid (RdTo s (k + 1)) := rdTo_next HT.out (by rw [← HB.out k]; exact ⟨hd0, hd1⟩) (fun e => by
              left
              intro h48
              apply hz
              have e1 := HB.out k
              rw [e, Nat.add_zero] at e1
              rw [e, e1, h48]
              rfl)
            have hz' : (bt t k - 48 == 0) = false := by simpa using hz
            clear hz
            go_wp2
            go_round
            case rel => exact ⟨k + 1, by omega, by go_num, by rw [HD.out], rfl, HN.out⟩
            case measure => simp [intOf]; omega
        · have HN : Hid (¬ RdP s) := rdTo_fail (k := k) (by rw [← HSZ.out]; exact hlt) (by rw [← HB.out k]; exact hd)
          by_cases hd0 : 48 ≤ bt t k
          · have hd1 : 57 < bt t k := by omega
            clear hd
            go_wp2
            go_ret2
            exact ⟨ret_int_bool (by rw [rdV_no HN.out]) (rdOk_no HN.out).symm, rfl⟩
          · clear hd
            go_wp2
            go_ret2
            exact ⟨ret_int_bool (by rw [rdV_no HN.out]) (rdOk_no HN.out).symm, rfl⟩
      · have HY : Hid (RdP s) := rdTo_end HT.out (by rw [← HSZ.out]; omega) (by omega) (by omega)
        have HK : Hid (k = s.size - pfx s) := by show k = s.size - pfx s; rw [← HSZ.out]; omega
        go_wp2
        go_ret2
        refine ⟨ret_int_bool ?_ (rdOk_yes HY.out).symm, rfl⟩
        rw [rdV_yes HY.out, HK.out]
        have := HBP.out
        simp at this
        simp [this]

theorem bt_tail (s : ByteArray) (k : Nat) : bt (s.extract 1 s.size) k = bt s (1 + k) := by
  rw [bt_list, bt_list, Lib.extract_data, List.take_of_length_le (by rw [List.length_drop, Array.length_toList]; exact Nat.le_refl _), List.map_drop]
  simp only [List.getD, List.getElem?_drop]
theorem size_tail (s : ByteArray) : (s.extract 1 s.size).size = s.size - 1 := by simp

set_option maxHeartbeats 800000 in
theorem readDec_impl (s : ByteArray) (w : World) (hs : s.size ≤ 9223372036854775807) :
    Calls Tryz.prog 142 #[.string s] w fun e w' => e = .returned (.tuple #[.int .i64 (rdV s), .bool (rdOk s)]) ∧ w' = w := by
  by_cases hm : bt s 0 = 45
  · have ep : pfx s = 1 := by simp [pfx, hm]
    have hp := pfx_le s
    have hd : decide (bt s 0 = 45) = true := decide_eq_true hm
    have hl : 1 ≤ s.size := by omega
    obtain ⟨t, ht⟩ : ∃ t, t = s.extract 1 s.size := ⟨_, rfl⟩
    have hc : ∀ w, Calls Tryz.prog 170 #[.string s, .string { data := #[45] }] w fun e w' => e = .returned (.tuple #[.string t, .bool true]) ∧ w' = w := by
      intro w
      rw [ht]
      exact cut_yes s w hs hd hl
    have hsz : t.size = s.size - pfx s := by rw [ht, ep, size_tail s]
    by_cases h : 1 ≤ t.size ∧ t.size ≤ 9
    · exact readDec_core s t true w (by rw [ep]; rfl) (fun k => by rw [ht, ep]; exact bt_tail s k) hsz hc h.1 h.2
    · have HN : Hid (¬ RdP s) := fun k => h (by rw [hsz]; exact ⟨k.1, k.2.1⟩)
      have HC : Hid (∀ w, Calls Tryz.prog 170 #[.string s, .string { data := #[45] }] w fun e w' => e = .returned (.tuple #[.string t, .bool true]) ∧ w' = w) := hc
      have hts : t.size ≤ 9223372036854775807 := by omega
      clear hc hsz ht hp hd ep hm
      by_cases h1 : 1 ≤ t.size
      · have h9 : (9 : Int) < t.size := by omega
        clear h
        go_enter Tryz.func142, Tryz.ntmps142
        go_wp2
        go_step3
        go_wp2_with (go_at_call 170; refine (HC.out _).mono ?_; rintro e w' ⟨rfl, rfl⟩)
        try rw [Exit.noGoto_ret]
        go_ret2
        exact ⟨ret_int_bool (by rw [rdV_no HN.out]) (rdOk_no HN.out).symm, rfl⟩
      · clear h
        go_enter Tryz.func142, Tryz.ntmps142
        go_wp2
        go_step3
        go_wp2_with (go_at_call 170; refine (HC.out _).mono ?_; rintro e w' ⟨rfl, rfl⟩)
        try rw [Exit.noGoto_ret]
        go_ret2
        exact ⟨ret_int_bool (by rw [rdV_no HN.out]) (rdOk_no HN.out).symm, rfl⟩
  · have ep : pfx s = 0 := by simp [pfx, hm]
    have hd : decide (bt s 0 = 45) = false := decide_eq_false hm
    have hc := fun w => cut_no s w hs hd
    by_cases h : 1 ≤ s.size ∧ s.size ≤ 9
    · exact readDec_core s s false w (by rw [ep]; rfl) (fun k => by rw [ep, Nat.zero_add]) (by rw [ep]; rfl) hc h.1 h.2
    · have HN : Hid (¬ RdP s) := fun k => h (by have a := k.1; have b := k.2.1; rw [ep] at a b; exact ⟨a, b⟩)
      clear hc ep hm
      by_cases h1 : 1 ≤ s.size
      · have h9 : (9 : Int) < s.size := by omega
        clear h
        go_enter Tryz.func142, Tryz.ntmps142
        go_wp2
        go_step3
        go_wp2_with (go_at_call 170; refine (cut_no _ _ hs hd).mono ?_; rintro e w' ⟨rfl, rfl⟩)
        try rw [Exit.noGoto_ret]
        go_ret2
        exact ⟨ret_int_bool (by rw [rdV_no HN.out]) (rdOk_no HN.out).symm, rfl⟩
      · clear h
        go_enter Tryz.func142, Tryz.ntmps142
        go_wp2
        go_step3
        go_wp2_with (go_at_call 170; refine (cut_no _ _ hs hd).mono ?_; rintro e w' ⟨rfl, rfl⟩)
        try rw [Exit.noGoto_ret]
        go_ret2
        exact ⟨ret_int_bool (by rw [rdV_no HN.out]) (rdOk_no HN.out).symm, rfl⟩
end Go.Proofs.YticdggnnpjachaaGreat
