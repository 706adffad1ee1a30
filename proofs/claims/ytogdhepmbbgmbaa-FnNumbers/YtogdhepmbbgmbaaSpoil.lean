/-
  What the drawing functions of the specification tell: the spoiling of a text, and the draws for Var, Hex and ReadVar: the walks.
-/
import Derived.Test.YtogdhepmbbgmbaaDraw
namespace Go.Proofs.Ytogdhepmbbgmbaa
open Go.RowKit Go.PlainAid

theorem spoil_e {S : Src} {q : Nat × Int} {s : ByteArray} (h : s.size = 0) : spoil S q s = (strOfNums (tx S q 3).1, (tx S q 3).2) := by rw [spoil, if_pos h]
theorem spoil_0 {S : Src} {q : Nat × Int} {s : ByteArray} {k : Nat} (h : s.size ≠ 0) (hk : (bw S q s.size).1 = k) (hm : (bw S (bw S q s.size).2 4).1 = 0) : spoil S q s = (s.extract 0 k ++ s.extract (k + 1) s.size, (bw S (bw S q s.size).2 4).2) := by
  rw [spoil, if_neg h, if_pos hm, hk]; rfl
theorem spoil_1 {S : Src} {q : Nat × Int} {s : ByteArray} {k : Nat} (h : s.size ≠ 0) (hk : (bw S q s.size).1 = k) (hm : (bw S (bw S q s.size).2 4).1 = 1) : spoil S q s = (s.extract 0 k ++ strOfNums [(cb S (bw S (bw S q s.size).2 4).2).1] ++ s.extract k s.size, (cb S (bw S (bw S q s.size).2 4).2).2) := by
  rw [spoil, if_neg h, if_neg (by omega), if_pos hm, hk]; rfl
theorem spoil_2 {S : Src} {q : Nat × Int} {s : ByteArray} {k : Nat} (h : s.size ≠ 0) (hk : (bw S q s.size).1 = k) (hm : (bw S (bw S q s.size).2 4).1 = 2) : spoil S q s = (s.extract 0 k, (bw S (bw S q s.size).2 4).2) := by
  rw [spoil, if_neg h, if_neg (by omega), if_neg (by omega), if_pos hm, hk]; rfl
theorem spoil_3 {S : Src} {q : Nat × Int} {s : ByteArray} {k : Nat} (h : s.size ≠ 0) (hk : (bw S q s.size).1 = k) (h0 : (bw S (bw S q s.size).2 4).1 ≠ 0) (h1 : (bw S (bw S q s.size).2 4).1 ≠ 1) (h2 : (bw S (bw S q s.size).2 4).1 ≠ 2) :
    spoil S q s = (s.extract 0 k ++ strOfNums [IntKind.u8.wrap (bits .xor .i64 (bt s k) (1 + (bw S (bw S (bw S q s.size).2 4).2 255).1))] ++ s.extract (k + 1) s.size, (bw S (bw S (bw S q s.size).2 4).2 255).2) := by
  rw [spoil, if_neg h, if_neg h0, if_neg h1, if_neg h2, hk]; rfl

set_option maxHeartbeats 3200000 in
theorem l1Spoil_any (S : Src) (hS : S.ok) (g : Nat) (q : Nat × Int) (s : ByteArray) (w : World) (hc : CurW 54 S w g q) (hs : s.size ≤ 1000) :
    Calls Try.prog 40 #[.pointer (some ⟨g, 0, none⟩), .string s] w fun e w' => e = .returned (.string (spoil S q s).1) ∧ CurW 54 S w' g (spoil S q s).2 ∧ w.grownBy w' (some g) := by
  by_cases h0 : s.size = 0
  · have HS : Hid (spoil S q s = (strOfNums (tx S q 3).1, (tx S q 3).2)) := spoil_e h0
    have hq : ((s.size : Int) == 0) = true := by rw [h0]; rfl
    clear h0
    go_enter Try.func40, Try.ntmps40
    go_wp2_with fail
    refine (l1Text_any S hS g q 3 _ hc (by omega) (by omega)).mono ?_
    rintro e w1 ⟨rfl, hc1, hg1⟩
    go_wp2
    go_ret
    exact ⟨ret_str (by rw [HS.out]), by rw [HS.out]; exact hc1, hg1⟩
  · have hq : ((s.size : Int) == 0) = false := beq_eq_false_iff_ne.2 (by omega)
    have hbk := bw_bd S q s.size (by omega)
    obtain ⟨k, hk⟩ : ∃ k : Nat, (bw S q s.size).1 = k := ⟨(bw S q s.size).1.toNat, by omega⟩
    have HK : Hid ((bw S q s.size).1 = k) := hk
    have hks : k < s.size := by omega
    have hbm := bw_bd S (bw S q s.size).2 4 (by omega)
    have hb := get_bt s
    have hb0 := bt_nonneg s k
    have hb1 := bt_le s k
    have e1 : IntKind.i64.wrap ((k : Int) + 1) = (k : Int) + 1 := IntWalk.i64_in _ ⟨by omega, by omega⟩
    have e2 : IntKind.i64.wrap (bt s k) = bt s k := IntWalk.i64_in _ ⟨by omega, by omega⟩
    have l1 : (0 : Int) ≤ (k : Int) := by omega
    have l2 : (k : Int) ≤ s.size := by omega
    have l3 : (0 : Int) ≤ (k : Int) + 1 := by omega
    have l4 : (k : Int) + 1 ≤ s.size := by omega
    have z1 : (s.extract 0 k).size ≤ 1000 := by simp; omega
    have z2 : (s.extract (k + 1) s.size).size ≤ 1000 := by simp; omega
    have z3 : (s.extract k s.size).size ≤ 1000 := by simp; omega
    have hst := fun (w : World) (x : Int) => run_string_one (P := Try.prog) (src := 22) (dst := 9) Try.underlying22 Try.underlying5 Try.underlying9 w x
    have hone := fun x => strOfNums_size [x]
    have y1 : ¬ (9223372036854775807 < min k s.size + 1) := by omega
    have y2 : ¬ (9223372036854775807 < min k s.size + 1 + (s.size - k)) := by omega
    have y3 : ¬ (9223372036854775807 < min k s.size + 1 + (s.size - (k + 1))) := by omega
    clear hbk
    by_cases m0 : (bw S (bw S q s.size).2 4).1 = 0
    · have HS : Hid (spoil S q s = (s.extract 0 k ++ s.extract (k + 1) s.size, (bw S (bw S q s.size).2 4).2)) := spoil_0 h0 hk m0
      have q0 : ((bw S (bw S q s.size).2 4).1 == 0) = true := by simpa using m0
      clear hk m0 h0
      go_enter Try.func40, Try.ntmps40
      go_wp2_with fail
      refine (l1Below_any S hS g q s.size _ hc (by omega)).mono ?_
      rintro e w1 ⟨rfl, hc1, hg1⟩
      rw [HK.out]
      go_wp2_with fail
      refine (l1Below_any S hS g _ 4 _ hc1 (by omega)).mono ?_
      rintro e w2 ⟨rfl, hc2, hg2⟩
      go_wp2
      go_quiet (fail)
      go_wp2
      go_ret
      exact ⟨ret_str (by rw [HS.out]), by rw [HS.out]; exact curW_drewN hc2 _, grown_drewN (grown_trans hg1 hg2) _⟩
    · have q0 : ((bw S (bw S q s.size).2 4).1 == 0) = false := by simpa using m0
      by_cases m1 : (bw S (bw S q s.size).2 4).1 = 1
      · have HS : Hid (spoil S q s = (s.extract 0 k ++ strOfNums [(cb S (bw S (bw S q s.size).2 4).2).1] ++ s.extract k s.size, (cb S (bw S (bw S q s.size).2 4).2).2)) := spoil_1 h0 hk m1
        have q1 : ((bw S (bw S q s.size).2 4).1 == 1) = true := by simpa using m1
        have hcb := cb_bd S (bw S (bw S q s.size).2 4).2
        have e3 : IntKind.u8.wrap (cb S (bw S (bw S q s.size).2 4).2).1 = (cb S (bw S (bw S q s.size).2 4).2).1 := IntWalk.u8_in _ hcb
        have z4 : (s.extract 0 k ++ strOfNums [(cb S (bw S (bw S q s.size).2 4).2).1]).size ≤ 1001 := by rw [ByteArray.size_append, strOfNums_size]; simp; omega
        clear hk m0 m1 h0
        go_enter Try.func40, Try.ntmps40
        go_wp2_with fail
        refine (l1Below_any S hS g q s.size _ hc (by omega)).mono ?_
        rintro e w1 ⟨rfl, hc1, hg1⟩
        rw [HK.out]
        go_wp2_with fail
        refine (l1Below_any S hS g _ 4 _ hc1 (by omega)).mono ?_
        rintro e w2 ⟨rfl, hc2, hg2⟩
        go_wp2
        have hcd : CurW 54 S w2.drew g (bw S (bw S q s.size).2 4).2 := curW_kept hc2 fun _ _ => rfl
        have hgd : w.grownBy w2.drew (some g) := grown_drewN (grown_trans hg1 hg2) 1
        have hgs := curW_lt hcd
        go_region_law (go_simp; go_wp2_with (go_at_call 46; refine (l1Byte_any S hS g _ _ hcd).mono ?_; rintro e w3 ⟨rfl, hc3, hg3⟩))
        all_goals
          go_wp2
          go_ret
          refine ⟨ret_str (by rw [HS.out]), ?_, grown_below (grown_trans hgd hg3) ((Below.refl w3.heap.size w3).alloc (Nat.le_refl _) _) (Nat.le_trans hgd.size hg3.size)⟩
          rw [HS.out]
          exact curW_below hc3 ((Below.refl w3.heap.size w3).alloc (Nat.le_refl _) _) (Nat.lt_of_lt_of_le hgs hg3.size)
      · have q1 : ((bw S (bw S q s.size).2 4).1 == 1) = false := by simpa using m1
        by_cases m2 : (bw S (bw S q s.size).2 4).1 = 2
        · have HS : Hid (spoil S q s = (s.extract 0 k, (bw S (bw S q s.size).2 4).2)) := spoil_2 h0 hk m2
          have q2 : ((bw S (bw S q s.size).2 4).1 == 2) = true := by simpa using m2
          clear hk m0 m1 m2 h0
          go_enter Try.func40, Try.ntmps40
          go_wp2_with fail
          refine (l1Below_any S hS g q s.size _ hc (by omega)).mono ?_
          rintro e w1 ⟨rfl, hc1, hg1⟩
          rw [HK.out]
          go_wp2_with fail
          refine (l1Below_any S hS g _ 4 _ hc1 (by omega)).mono ?_
          rintro e w2 ⟨rfl, hc2, hg2⟩
          go_wp2
          go_ret
          exact ⟨ret_str (by rw [HS.out]), by rw [HS.out]; exact hc2, grown_trans hg1 hg2⟩
        · have q2 : ((bw S (bw S q s.size).2 4).1 == 2) = false := by simpa using m2
          have HS : Hid (spoil S q s = (s.extract 0 k ++ strOfNums [IntKind.u8.wrap (bits .xor .i64 (bt s k) (1 + (bw S (bw S (bw S q s.size).2 4).2 255).1))] ++ s.extract (k + 1) s.size, (bw S (bw S (bw S q s.size).2 4).2 255).2)) := spoil_3 h0 hk m0 m1 m2
          have hcb := bw_bd S (bw S (bw S q s.size).2 4).2 255 (by omega)
          have e3 : IntKind.i64.wrap (1 + (bw S (bw S (bw S q s.size).2 4).2 255).1) = 1 + (bw S (bw S (bw S q s.size).2 4).2 255).1 := IntWalk.i64_in _ ⟨by omega, by omega⟩
          have z4 : (s.extract 0 k ++ strOfNums [IntKind.u8.wrap (bits .xor .i64 (bt s k) (1 + (bw S (bw S (bw S q s.size).2 4).2 255).1))]).size ≤ 1001 := by rw [ByteArray.size_append, strOfNums_size]; simp; omega
          clear hk m0 m1 m2 h0
          go_enter Try.func40, Try.ntmps40
          go_wp2_with fail
          refine (l1Below_any S hS g q s.size _ hc (by omega)).mono ?_
          rintro e w1 ⟨rfl, hc1, hg1⟩
          rw [HK.out]
          go_wp2_with fail
          refine (l1Below_any S hS g _ 4 _ hc1 (by omega)).mono ?_
          rintro e w2 ⟨rfl, hc2, hg2⟩
          go_wp2
          have hcd : CurW 54 S w2.drew g (bw S (bw S q s.size).2 4).2 := curW_kept hc2 fun _ _ => rfl
          have hgd : w.grownBy w2.drew (some g) := grown_drewN (grown_trans hg1 hg2) 1
          have hgs := curW_lt hcd
          go_region_law (go_simp; go_wp2_with (go_at_call 44; refine (l1Below_any S hS g _ 255 _ hcd (by omega)).mono ?_; rintro e w3 ⟨rfl, hc3, hg3⟩))
          all_goals
            go_wp2
            go_ret
            refine ⟨ret_str (by rw [HS.out]), ?_, grown_below (grown_trans hgd hg3) ((Below.refl w3.heap.size w3).alloc (Nat.le_refl _) _) (Nat.le_trans hgd.size hg3.size)⟩
            rw [HS.out]
            exact curW_below hc3 ((Below.refl w3.heap.size w3).alloc (Nat.le_refl _) _) (Nat.lt_of_lt_of_le hgs hg3.size)

theorem big_any (a : Option Addr) (len cap : Nat) (w : World) (_ : len ≤ 9223372036854775807) :
    Calls Try.prog 12 #[.slice a len cap] w fun e w' => e = .returned (.bool (decide ((1048576 : Int) < len))) ∧ w' = w := by
  go_enter Try.func12, Try.ntmps12
  go_wp2
  go_ret
  exact ⟨rfl, rfl⟩

set_option maxHeartbeats 800000 in
theorem drawVar_any (S : Src) (hS : S.ok) (w : World) (hc : CodeW S w) (hl : S.lim ≤ w.heap.size) :
    Calls Try.prog 13 #[.slice S.a S.len S.cap] w fun e w' => e = .returned (.int .i64 (drawVar S)) ∧ Below w.heap.size w w' := by
  go_enter Try.func13, Try.ntmps13
  go_wp2_with fail
  refine (l1New_any S hS _ hc hl).mono ?_
  rintro e w1 ⟨rfl, hc1, hb1⟩
  go_wp2_with fail
  refine (l1Num_any S hS _ _ _ hc1).mono ?_
  rintro e w2 ⟨rfl, hc2, hg2⟩
  go_wp2
  go_ret
  exact ⟨rfl, below_grown hb1 hg2 (Nat.le_refl _) hb1.size⟩

set_option maxHeartbeats 800000 in
theorem drawHex_any (S : Src) (hS : S.ok) (w : World) (hc : CodeW S w) (hl : S.lim ≤ w.heap.size) :
    Calls Try.prog 14 #[.slice S.a S.len S.cap] w fun e w' => e = .returned (.string (strOfNums (drawHex S))) ∧ Below w.heap.size w w' := by
  go_enter Try.func14, Try.ntmps14
  go_wp2_with fail
  refine (l1New_any S hS _ hc hl).mono ?_
  rintro e w1 ⟨rfl, hc1, hb1⟩
  go_wp2_with fail
  refine (l1Text_any S hS _ _ 40 _ hc1 (by omega) (by omega)).mono ?_
  rintro e w2 ⟨rfl, hc2, hg2⟩
  go_wp2
  go_ret
  exact ⟨rfl, below_grown hb1 hg2 (Nat.le_refl _) hb1.size⟩

theorem varL_len (n : Int) : (varL n).length ≤ 7 := by
  unfold varL
  split
  · exact (vl_length 6 n).2
  · simp
theorem drawRv0_size (S : Src) : (drawRv0 S).size ≤ 11 := by
  rw [drawRv0, ByteArray.size_append, strOfNums_size, strOfNums_size]
  have := varL_len (nm S (start S)).1
  have := tx_len S (nm S (start S)).2 4 (by omega)
  omega

set_option maxHeartbeats 1600000 in
theorem drawRv_any (S : Src) (hS : S.ok) (w : World) (hc : CodeW S w) (hl : S.lim ≤ w.heap.size) :
    Calls Try.prog 23 #[.slice S.a S.len S.cap] w fun e w' => e = .returned (.string (drawRv S)) ∧ Below w.heap.size w w' := by
  have hsz : (strOfNums (varL (nm S (start S)).1)).size ≤ 7 := by rw [strOfNums_size]; exact varL_len _
  have hsz2 : (strOfNums (tx S (nm S (start S)).2 4).1).size ≤ 4 := by
    rw [strOfNums_size]
    have := tx_len S (nm S (start S)).2 4 (by omega)
    omega
  have H0 : Hid (strOfNums (varL (nm S (start S)).1) ++ strOfNums (tx S (nm S (start S)).2 4).1 = drawRv0 S) := rfl
  have hz0 := drawRv0_size S
  by_cases ho : (bw S (tx S (nm S (start S)).2 4).2 4).1 = 0
  · have HD : Hid (drawRv S = (spoil S (bw S (tx S (nm S (start S)).2 4).2 4).2 (drawRv0 S)).1) := by show drawRv S = _; rw [drawRv, if_pos ho]
    have hq : ((bw S (tx S (nm S (start S)).2 4).2 4).1 == 0) = true := by simpa using ho
    clear ho
    go_enter Try.func23, Try.ntmps23
    go_wp2_with fail
    refine (l1New_any S hS _ hc hl).mono ?_
    rintro e w1 ⟨rfl, hc1, hb1⟩
    go_wp2_with fail
    refine (l1Num_any S hS _ _ _ hc1).mono ?_
    rintro e w2 ⟨rfl, hc2, hg2⟩
    go_wp2_with fail
    refine (var_spec _ _).mono ?_
    rintro e w3 ⟨rfl, hb3⟩
    go_wp2_with fail
    refine (l1Text_any S hS _ _ 4 _ (curW_below hc2 hb3 (curW_lt hc2)) (by omega) (by omega)).mono ?_
    rintro e w4 ⟨rfl, hc4, hg4⟩
    go_wp2_with fail
    refine (l1Once_any S hS _ _ 4 _ hc4 (by omega)).mono ?_
    rintro e w5 ⟨rfl, hc5, hg5⟩
    go_wp2_with fail
    rw [H0.out]
    refine (l1Spoil_any S hS _ _ _ _ hc5 (by omega)).mono ?_
    rintro e w6 ⟨rfl, hc6, hg6⟩
    go_wp2
    go_ret
    have b2 := below_grown hb1 hg2 (Nat.le_refl _) hb1.size
    have b3 := b2.trans (hb3.mono b2.size)
    have b4 := below_grown b3 hg4 (Nat.le_refl _) b3.size
    have b5 := below_grown b4 hg5 (Nat.le_refl _) b4.size
    exact ⟨ret_str (by rw [HD.out]), below_grown b5 hg6 (Nat.le_refl _) b5.size⟩
  · have HD : Hid (drawRv S = drawRv0 S) := by show drawRv S = _; rw [drawRv, if_neg ho]
    have hq : ((bw S (tx S (nm S (start S)).2 4).2 4).1 == 0) = false := by simpa using ho
    clear ho
    go_enter Try.func23, Try.ntmps23
    go_wp2_with fail
    refine (l1New_any S hS _ hc hl).mono ?_
    rintro e w1 ⟨rfl, hc1, hb1⟩
    go_wp2_with fail
    refine (l1Num_any S hS _ _ _ hc1).mono ?_
    rintro e w2 ⟨rfl, hc2, hg2⟩
    go_wp2_with fail
    refine (var_spec _ _).mono ?_
    rintro e w3 ⟨rfl, hb3⟩
    go_wp2_with fail
    refine (l1Text_any S hS _ _ 4 _ (curW_below hc2 hb3 (curW_lt hc2)) (by omega) (by omega)).mono ?_
    rintro e w4 ⟨rfl, hc4, hg4⟩
    go_wp2_with fail
    refine (l1Once_any S hS _ _ 4 _ hc4 (by omega)).mono ?_
    rintro e w5 ⟨rfl, hc5, hg5⟩
    go_wp2
    go_ret
    have b2 := below_grown hb1 hg2 (Nat.le_refl _) hb1.size
    have b3 := b2.trans (hb3.mono b2.size)
    have b4 := below_grown b3 hg4 (Nat.le_refl _) b3.size
    exact ⟨ret_str (by rw [HD.out, ← H0.out]), below_grown b4 hg5 (Nat.le_refl _) b4.size⟩
end Go.Proofs.Ytogdhepmbbgmbaa
