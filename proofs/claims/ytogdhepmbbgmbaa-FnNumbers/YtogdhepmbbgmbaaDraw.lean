/-
  What the drawing functions of the specification tell, and what they leave of their cursor: the walks.
-/
import Derived.Test.YtogdhepmbbgmbaaDrawMath
import Derived.Test.YtogdhepmbbgmbaaVar
import Derived.Deep.QuietTactic
import Derived.BigQuiet
namespace Go.Proofs.Ytogdhepmbbgmbaa
open Go.RowKit Go.PlainAid

theorem curW_drewN {T : TypeId} {S : Src} {w : World} {g : Nat} {q : Nat × Int} (h : CurW T S w g q) (n : Nat) : CurW T S (w.drewN n) g q := curW_kept h fun _ _ => rfl

set_option maxHeartbeats 1600000 in
theorem l1Byte_any (S : Src) (hS : S.ok) (g : Nat) (q : Nat × Int) (w : World) (hc : CurW 54 S w g q) :
    Calls Try.prog 46 #[.pointer (some ⟨g, 0, none⟩)] w fun e w' => e = .returned (.int .i64 (cb S q).1) ∧ CurW 54 S w' g (cb S q).2 ∧ w.grownBy w' (some g) := by
  obtain ⟨i, h⟩ := q
  obtain ⟨hc0, hc1, hc2, hf1, hf2⟩ := curW_cells hc
  have hlen := hS.1
  have hbh := bh_is
  have hbx := bx_is
  simp only at hc1 hc2
  by_cases hi : i < S.len
  · obtain ⟨b, off, ha, hb, hcell⟩ := hc.2.2.2 i hi
    have hbg : b < g := Nat.lt_of_lt_of_le hb hc.2.1
    have hz := hS.2 i
    rw [ha] at hc0
    have HA := cb_yes (h := h) hi
    have hx := and255 (bits .xor .i64 (bh h / 8589934592) (bh h / 35184372088832))
    rw [bx_is] at hx
    have HC : Hid (CurW 54 S w g (i, h)) := hc
    have HA' : Hid (cb S (i, h) = (bits .and .i64 (bx h + S.Z i) 255, (i + 1, bh h))) := HA
    clear hc HA
    go_enter Try.func46, Try.ntmps46
    go_wp2
    go_quiet (fail)
    go_wp2
    go_quiet (fail)
    go_wp2
    go_quiet (fail)
    go_wp2
    go_ret
    refine ⟨ret_int (by rw [HA'.out]), ?_, grown_setCell (grown_drewN (grown_setCell (World.grownBy.refl _ _) _) _) _⟩
    rw [HA'.out]
    exact curW_i (curW_drewN (curW_h HC.out _) _) (i + 1) (by omega)
  · have HC : Hid (CurW 54 S w g (i, h)) := hc
    have HA' : Hid (cb S (i, h) = (bx h, (i, bh h))) := cb_no hi
    clear hc
    go_enter Try.func46, Try.ntmps46
    go_wp2
    go_quiet (fail)
    go_wp2
    go_quiet (fail)
    go_wp2
    go_ret
    exact ⟨ret_int (by rw [HA'.out]), by rw [HA'.out]; exact curW_drewN (curW_drewN (curW_h HC.out _) _) _, grown_drewN (grown_drewN (grown_setCell (World.grownBy.refl _ _) _) _) _⟩

theorem bw_le {S : Src} {q : Nat × Int} {n : Int} (h : n ≤ 0) : bw S q n = (0, q) := by rw [bw, if_pos h]
theorem bw_mid {S : Src} {q : Nat × Int} {n : Int} (h : ¬ n ≤ 0) (k : n ≤ 256) : bw S q n = ((cb S q).1 % n, (cb S q).2) := by rw [bw, if_neg h, if_pos k]
theorem bw_big {S : Src} {q : Nat × Int} {n : Int} (h : ¬ n ≤ 0) (k : ¬ n ≤ 256) : bw S q n = (((cb S q).1 * 16777216 + (cb S (cb S q).2).1 * 65536 + (cb S (cb S (cb S q).2).2).1 * 256 + (cb S (cb S (cb S (cb S q).2).2).2).1) % n, (cb S (cb S (cb S (cb S q).2).2).2).2) := by rw [bw, if_neg h, if_neg k]

set_option maxHeartbeats 1600000 in
theorem l1Below_any (S : Src) (hS : S.ok) (g : Nat) (q : Nat × Int) (n : Int) (w : World) (hc : CurW 54 S w g q) (_ : n ≤ 9223372036854775807) :
    Calls Try.prog 44 #[.pointer (some ⟨g, 0, none⟩), .int .i64 n] w fun e w' => e = .returned (.int .i64 (bw S q n).1) ∧ CurW 54 S w' g (bw S q n).2 ∧ w.grownBy w' (some g) := by
  by_cases h0 : n ≤ 0
  · rw [bw_le h0]
    go_enter Try.func44, Try.ntmps44
    go_wp2
    go_ret
    exact ⟨rfl, hc, World.grownBy.refl _ _⟩
  · by_cases h1 : n ≤ 256
    · rw [bw_mid h0 h1]
      have hb := cb_bd S q
      go_enter Try.func44, Try.ntmps44
      go_wp2_with fail
      refine (l1Byte_any S hS g q _ hc).mono ?_
      rintro e w1 ⟨rfl, hc1, hg1⟩
      go_wp2
      go_ret
      exact ⟨rfl, hc1, hg1⟩
    · rw [bw_big h0 h1]
      have hb1 := cb_bd S q
      have hb2 := cb_bd S (cb S q).2
      have hb3 := cb_bd S (cb S (cb S q).2).2
      have hb4 := cb_bd S (cb S (cb S (cb S q).2).2).2
      go_enter Try.func44, Try.ntmps44
      go_wp2_with fail
      refine (l1Byte_any S hS g q _ hc).mono ?_
      rintro e w1 ⟨rfl, hc1, hg1⟩
      go_wp2_with fail
      refine (l1Byte_any S hS g _ _ hc1).mono ?_
      rintro e w2 ⟨rfl, hc2, hg2⟩
      go_wp2_with fail
      refine (l1Byte_any S hS g _ _ hc2).mono ?_
      rintro e w3 ⟨rfl, hc3, hg3⟩
      go_wp2_with fail
      refine (l1Byte_any S hS g _ _ hc3).mono ?_
      rintro e w4 ⟨rfl, hc4, hg4⟩
      go_wp2
      go_ret
      exact ⟨rfl, hc4, grown_trans (grown_trans (grown_trans hg1 hg2) hg3) hg4⟩

set_option maxHeartbeats 800000 in
theorem l1Once_any (S : Src) (hS : S.ok) (g : Nat) (q : Nat × Int) (n : Int) (w : World) (hc : CurW 54 S w g q) (hn : n ≤ 9223372036854775807) :
    Calls Try.prog 39 #[.pointer (some ⟨g, 0, none⟩), .int .i64 n] w fun e w' => e = .returned (.bool ((bw S q n).1 == 0)) ∧ CurW 54 S w' g (bw S q n).2 ∧ w.grownBy w' (some g) := by
  go_enter Try.func39, Try.ntmps39
  go_wp2_with fail
  refine (l1Below_any S hS g q n _ hc hn).mono ?_
  rintro e w1 ⟨rfl, hc1, hg1⟩
  go_wp2
  go_ret
  exact ⟨rfl, hc1, hg1⟩

set_option maxHeartbeats 800000 in
theorem l1PickInt_any (S : Src) (hS : S.ok) (g : Nat) (q : Nat × Int) (L : List Int) (b m : Nat) (w : World) (hc : CurW 54 S w g q) (hm : 1 ≤ m) (hm2 : m ≤ 1000)
    (hbw : b < w.heap.size) (hbg : b ≠ g) (hcell : ∀ j, j < m → w.cell? ⟨b, j, none⟩ = some (.int .i64 (L.getD j 0))) :
    Calls Try.prog 45 #[.pointer (some ⟨g, 0, none⟩), .slice (some ⟨b, 0, none⟩) m m] w fun e w' => e = .returned (.int .i64 (L.getD (bw S q m).1.toNat 0)) ∧ CurW 54 S w' g (bw S q m).2 ∧ w.grownBy w' (some g) := by
  have hbd := bw_bd S q m (by omega)
  go_enter Try.func45, Try.ntmps45
  go_wp2_with fail
  refine (l1Below_any S hS g q m _ hc (by omega)).mono ?_
  rintro e w1 ⟨rfl, hc1, hg1⟩
  have hcl : w1.cell? ⟨b, (bw S q m).1.toNat, none⟩ = some (.int .i64 (L.getD (bw S q m).1.toNat 0)) := by
    have := hcell (bw S q m).1.toNat (by omega)
    rw [← this]
    exact World.cell?_of_block (w := w) (a := ⟨b, _, none⟩) (hg1.block b hbw (by simpa using hbg))
  have HC : Hid (CurW 54 S w1 g (bw S q m).2) := hc1
  clear hcell hc hc1
  go_wp2
  go_ret
  exact ⟨rfl, HC.out, hg1⟩

theorem picks_cell (w : World) (e : TypeId) : ∀ j, j < 17 → (w.alloc (.cells #[.int .i64 (-1), .int .i64 0, .int .i64 127, .int .i64 128, .int .i64 255, .int .i64 256, .int .i64 16383, .int .i64 16384, .int .i64 65535, .int .i64 65536, .int .i64 562949953421311, .int .i64 562949953421312, .int .i64 999999999, .int .i64 1000000000, .int .i64 (-999999999), .int .i64 9223372036854775807, .int .i64 (-9223372036854775808)] e)).cell? ⟨w.heap.size, j, none⟩ = some (.int .i64 (picks.getD j 0)) := by
  intro j hj
  rw [World.cell?_alloc_new]
  match j, hj with
  | 0, _ | 1, _ | 2, _ | 3, _ | 4, _ | 5, _ | 6, _ | 7, _ | 8, _ | 9, _ | 10, _ | 11, _ | 12, _ | 13, _ | 14, _ | 15, _ | 16, _ => rfl
  | j + 17, hj => omega

theorem nm_0 {S : Src} {q : Nat × Int} (h : (bw S q 8).1 = 0) : nm S q = (picks.getD (bw S (bw S q 8).2 17).1.toNat 0, (bw S (bw S q 8).2 17).2) := by rw [nm, if_pos h]
theorem nm_1 {S : Src} {q : Nat × Int} (h : (bw S q 8).1 = 1) : nm S q = (wrap64 ((bw S (bw S q 8).2 1000000000).1 * (bw S (bw S (bw S q 8).2 1000000000).2 1000000000).1), (bw S (bw S (bw S q 8).2 1000000000).2 1000000000).2) := by rw [nm, if_neg (by omega), if_pos h]
theorem nm_2 {S : Src} {q : Nat × Int} (h : (bw S q 8).1 = 2) : nm S q = (-(bw S (bw S q 8).2 100000).1, (bw S (bw S q 8).2 100000).2) := by rw [nm, if_neg (by omega), if_neg (by omega), if_pos h]
theorem nm_3 {S : Src} {q : Nat × Int} (h0 : (bw S q 8).1 ≠ 0) (h1 : (bw S q 8).1 ≠ 1) (h2 : (bw S q 8).1 ≠ 2) : nm S q = bw S (bw S q 8).2 70000 := by rw [nm, if_neg h0, if_neg h1, if_neg h2]

set_option maxHeartbeats 1600000 in
theorem l1Num_any (S : Src) (hS : S.ok) (g : Nat) (q : Nat × Int) (w : World) (hc : CurW 54 S w g q) :
    Calls Try.prog 33 #[.pointer (some ⟨g, 0, none⟩)] w fun e w' => e = .returned (.int .i64 (nm S q).1) ∧ CurW 54 S w' g (nm S q).2 ∧ w.grownBy w' (some g) := by
  have hbd := bw_bd S q 8 (by omega)
  by_cases h0 : (bw S q 8).1 = 0
  · rw [nm_0 h0]
    have hq0 : ((bw S q 8).1 == 0) = true := by simpa using h0
    clear h0
    go_enter Try.func33, Try.ntmps33
    go_wp2_with fail
    refine (l1Below_any S hS g q 8 _ hc (by omega)).mono ?_
    rintro e w1 ⟨rfl, hc1, hg1⟩
    go_wp2_with fail
    refine (l1PickInt_any S hS g (bw S q 8).2 picks w1.heap.size 17 _ (curW_below hc1 ((Below.refl w1.heap.size w1).alloc (Nat.le_refl _) _) (curW_lt hc1)) (by omega) (by omega) (by simp) (by have := curW_lt hc1; omega) (picks_cell w1 _)).mono ?_
    rintro e w2 ⟨rfl, hc2, hg2⟩
    go_wp2
    go_ret
    exact ⟨rfl, hc2, grown_trans (grown_below hg1 ((Below.refl w1.heap.size w1).alloc (Nat.le_refl _) _) hg1.size) hg2⟩
  · have hq0 : ((bw S q 8).1 == 0) = false := by simpa using h0
    by_cases h1 : (bw S q 8).1 = 1
    · rw [nm_1 h1]
      have hq1 : ((bw S q 8).1 == 1) = true := by simpa using h1
      clear h0 h1
      go_enter Try.func33, Try.ntmps33
      go_wp2_with fail
      refine (l1Below_any S hS g q 8 _ hc (by omega)).mono ?_
      rintro e w1 ⟨rfl, hc1, hg1⟩
      go_wp2_with fail
      refine (l1Below_any S hS g _ 1000000000 _ hc1 (by omega)).mono ?_
      rintro e w2 ⟨rfl, hc2, hg2⟩
      go_wp2_with fail
      refine (l1Below_any S hS g _ 1000000000 _ hc2 (by omega)).mono ?_
      rintro e w3 ⟨rfl, hc3, hg3⟩
      go_wp2
      go_ret
      exact ⟨rfl, hc3, grown_trans (grown_trans hg1 hg2) hg3⟩
    · have hq1 : ((bw S q 8).1 == 1) = false := by simpa using h1
      by_cases h2 : (bw S q 8).1 = 2
      · rw [nm_2 h2]
        have hq2 : ((bw S q 8).1 == 2) = true := by simpa using h2
        have hb2 := bw_bd S (bw S q 8).2 100000 (by omega)
        clear h0 h1 h2
        go_enter Try.func33, Try.ntmps33
        go_wp2_with fail
        refine (l1Below_any S hS g q 8 _ hc (by omega)).mono ?_
        rintro e w1 ⟨rfl, hc1, hg1⟩
        go_wp2_with fail
        refine (l1Below_any S hS g _ 100000 _ hc1 (by omega)).mono ?_
        rintro e w2 ⟨rfl, hc2, hg2⟩
        go_wp2
        go_ret
        exact ⟨rfl, hc2, grown_trans hg1 hg2⟩
      · rw [nm_3 h0 h1 h2]
        have hq2 : ((bw S q 8).1 == 2) = false := by simpa using h2
        clear h0 h1 h2
        go_enter Try.func33, Try.ntmps33
        go_wp2_with fail
        refine (l1Below_any S hS g q 8 _ hc (by omega)).mono ?_
        rintro e w1 ⟨rfl, hc1, hg1⟩
        go_wp2_with fail
        refine (l1Below_any S hS g _ 70000 _ hc1 (by omega)).mono ?_
        rintro e w2 ⟨rfl, hc2, hg2⟩
        go_wp2
        go_ret
        exact ⟨rfl, hc2, grown_trans hg1 hg2⟩

/-- What stands behind some letters: those that are drawn yet make the text whole. -/
def TxAt (S : Src) (y : Int) (T : List Int × (Nat × Int)) (acc : List Int) (n : Nat) (q : Nat × Int) : Prop := acc ++ (txGo S y n q).1 = T.1 ∧ (txGo S y n q).2 = T.2
theorem txAt_next {S : Src} {y : Int} {T : List Int × (Nat × Int)} {acc : List Int} {n : Nat} {q : Nat × Int} (h : TxAt S y T acc (n + 1) q) : TxAt S y T (acc ++ [chr y (cb S q).1]) n (cb S q).2 := by
  obtain ⟨a, b⟩ := h
  rw [txGo] at a b
  exact ⟨by rw [List.append_assoc]; exact a, b⟩
theorem txAt_end {S : Src} {y : Int} {T : List Int × (Nat × Int)} {acc : List Int} {q : Nat × Int} (h : TxAt S y T acc 0 q) : acc = T.1 ∧ q = T.2 := by
  obtain ⟨a, b⟩ := h
  rw [txGo] at a b
  exact ⟨by simpa using a, b⟩

set_option maxHeartbeats 1600000 in
theorem l1Text_any (S : Src) (hS : S.ok) (g : Nat) (q : Nat × Int) (most : Int) (w : World) (hc : CurW 54 S w g q) (hm0 : 0 ≤ most) (hm1 : most ≤ 1000) :
    Calls Try.prog 34 #[.pointer (some ⟨g, 0, none⟩), .int .i64 most] w fun e w' => e = .returned (.string (strOfNums (tx S q most).1)) ∧ CurW 54 S w' g (tx S q most).2 ∧ w.grownBy w' (some g) := by
  obtain ⟨i0, hi, hz0, hz1, hz2⟩ := info_parts Try.infoByte
  have hgw := curW_lt hc
  have hbn := bw_bd S (bw S q 4).2 (most + 1) (by omega)
  have HT : Hid (tx S q most = txGo S (bw S q 4).1 (bw S (bw S q 4).2 (most + 1)).1.toNat (bw S (bw S q 4).2 (most + 1)).2) := rfl
  go_enter Try.func34, Try.ntmps34
  go_wp2_with fail
  refine (l1Below_any S hS g q 4 _ (curW_below hc ((Below.refl w.heap.size w).alloc (Nat.le_refl _) _) hgw) (by omega)).mono ?_
  rintro e w1 ⟨rfl, hc1, hg1⟩
  go_wp2_with fail
  refine (l1Below_any S hS g _ (most + 1) _ hc1 (by omega)).mono ?_
  rintro e w2 ⟨rfl, hc2, hg2⟩
  have hown : OwnB w2 w.heap.size 5 (.slice (some ⟨w.heap.size, 0, none⟩) 0 0) 0 [] := by
    have h0 : OwnB (w.alloc (.cells #[] 5)) w.heap.size 5 (.slice (some ⟨w.heap.size, 0, none⟩) 0 0) 0 [] := World.ownsRow_lit w #[] 0 (Nat.le_refl _) (by unfold maxLen; omega) rfl
    exact ownB_grown (ownB_grown h0 hg1 hgw) hg2 hgw
  have hgr : w.grownBy w2 (some g) := grown_trans (grown_trans (grown_below (World.grownBy.refl w _) ((Below.refl w.heap.size w).alloc (Nat.le_refl _) (.cells #[] 5)) (Nat.le_refl _)) hg1) hg2
  obtain ⟨m0, hm0e⟩ : ∃ m : Nat, (bw S (bw S q 4).2 (most + 1)).1 = m := ⟨(bw S (bw S q 4).2 (most + 1)).1.toNat, by omega⟩
  rw [hm0e]
  have HST : Hid (TxAt S (bw S q 4).1 (tx S q most) [] m0 (bw S (bw S q 4).2 (most + 1)).2) := by
    show TxAt _ _ _ _ _ _
    have e := HT.out
    rw [hm0e, Int.toNat_natCast] at e
    rw [e]
    exact ⟨rfl, rfl⟩
  have hm0b : m0 ≤ 1000 := by omega
  clear hm0e HT hbn hc hc1 hg1 hg2
  go_wp2
  go_loopw [5, 7, 8] (fun v n _ wr => ∃ (k : Nat) (acc : List Int) (m : Nat) (p : Nat × Int), n = .int .i64 m ∧ k + m ≤ 1000 ∧ TxAt S (bw S q 4).1 (tx S q most) acc m p ∧ OwnB wr w.heap.size 5 v k acc ∧ CurW 54 S wr g p ∧ w.grownBy wr (some g)) (fun _ n _ _ => (intOf n).toNat)
  case atStart => exact ⟨0, [], m0, _, rfl, by omega, HST.out, hown, hc2, hgr⟩
  case round =>
    obtain ⟨k, acc, m, p, rfl, hkm, hat, hownr, hcr, hgrr⟩ := hrel
    have HAT := hat
    clear hat hown hc2 hgr
    match m, hkm, HAT with
    | 0, hkm, HAT =>
      obtain ⟨e1, e2⟩ := txAt_end HAT
      have HE1 : Hid (acc = (tx S q most).1) := e1
      have HE2 : Hid (p = (tx S q most).2) := e2
      clear e1 e2 HAT
      rw [HE1.out] at hownr
      have hst := run_string_own (P := Try.prog) (src := 22) (dst := 9) Try.underlying22 Try.underlying5 Try.underlying9 hownr
      go_wp2
      go_ret
      exact ⟨rfl, by rw [← HE2.out]; exact hcr, hgrr⟩
    | m + 1, hkm, HAT0 =>
      have HAT : Hid (TxAt S (bw S q 4).1 (tx S q most) acc (m + 1) p) := HAT0
      clear HAT0
      have hcb := cb_bd S p
      by_cases h1 : (bw S q 4).1 = 1
      · have q1 : ((bw S q 4).1 == 1) = true := by simpa using h1
        have q2 : ((bw S q 4).1 == 2) = false := by rw [h1]; rfl
        have HCH : Hid (chr (bw S q 4).1 (cb S p).1 = (cb S p).1 % 2) := by show chr _ _ = _; rw [chr, if_pos h1]
        clear h1
        go_wp2_with (first | (go_at_call 46; refine (l1Byte_any S hS g p _ hcr).mono ?_; rintro e w3 ⟨rfl, hc3, hg3⟩; have hown3 := ownB_grown hownr hg3 hgw; have hsz3 := Nat.le_trans hgrr.size hg3.size) | (at_builtin; refine app_byte w3 rfl _ _ 22 rfl w.heap.size 5 i0 Try.underlying22 hi hz0 hz1 hz2 _ k acc (by rfl) hown3 ((cb S p).1 % 2) (by rfl) (by omega) hsz3 ?_))
        intro v' w4 hown4 hb4
        go_wp2
        go_roundw
        case rel => exact ⟨k + 1, acc ++ [(cb S p).1 % 2], m, (cb S p).2, by go_num, by omega, by rw [← HCH.out]; exact txAt_next HAT.out, hown4, curW_below hc3 hb4 hgw, grown_below (grown_trans hgrr hg3) hb4 (Nat.le_refl _)⟩
        case measure => simp [intOf]
      · have q1 : ((bw S q 4).1 == 1) = false := by simpa using h1
        by_cases h2 : (bw S q 4).1 = 2
        · have q2 : ((bw S q 4).1 == 2) = true := by simpa using h2
          have HCH : Hid (chr (bw S q 4).1 (cb S p).1 = 97 + (cb S p).1 % 4) := by show chr _ _ = _; rw [chr, if_neg h1, if_pos h2]
          clear h1 h2
          go_wp2_with (first | (go_at_call 46; refine (l1Byte_any S hS g p _ hcr).mono ?_; rintro e w3 ⟨rfl, hc3, hg3⟩; have hown3 := ownB_grown hownr hg3 hgw; have hsz3 := Nat.le_trans hgrr.size hg3.size) | (at_builtin; refine app_byte w3 rfl _ _ 22 rfl w.heap.size 5 i0 Try.underlying22 hi hz0 hz1 hz2 _ k acc (by rfl) hown3 (97 + (cb S p).1 % 4) (by rfl) (by omega) hsz3 ?_))
          intro v' w4 hown4 hb4
          go_wp2
          go_roundw
          case rel => exact ⟨k + 1, acc ++ [97 + (cb S p).1 % 4], m, (cb S p).2, by go_num, by omega, by rw [← HCH.out]; exact txAt_next HAT.out, hown4, curW_below hc3 hb4 hgw, grown_below (grown_trans hgrr hg3) hb4 (Nat.le_refl _)⟩
          case measure => simp [intOf]
        · have q2 : ((bw S q 4).1 == 2) = false := by simpa using h2
          have HCH : Hid (chr (bw S q 4).1 (cb S p).1 = (cb S p).1) := by show chr _ _ = _; rw [chr, if_neg h1, if_neg h2]
          clear h1 h2
          go_wp2_with (first | (go_at_call 46; refine (l1Byte_any S hS g p _ hcr).mono ?_; rintro e w3 ⟨rfl, hc3, hg3⟩; have hown3 := ownB_grown hownr hg3 hgw; have hsz3 := Nat.le_trans hgrr.size hg3.size) | (at_builtin; refine app_byte w3 rfl _ _ 22 rfl w.heap.size 5 i0 Try.underlying22 hi hz0 hz1 hz2 _ k acc (by rfl) hown3 ((cb S p).1) (by rfl) (by omega) hsz3 ?_))
          intro v' w4 hown4 hb4
          go_wp2
          go_roundw
          case rel => exact ⟨k + 1, acc ++ [(cb S p).1], m, (cb S p).2, by go_num, by omega, by rw [← HCH.out]; exact txAt_next HAT.out, hown4, curW_below hc3 hb4 hgw, grown_below (grown_trans hgrr hg3) hb4 (Nat.le_refl _)⟩
          case measure => simp [intOf]

theorem and30 (y : Int) : 0 ≤ bits .and .i64 y 1073741823 ∧ bits .and .i64 y 1073741823 ≤ 1073741823 := by
  have e : bits .and .i64 y 1073741823 = IntKind.i64.wrap (((BitVec.ofInt 64 y &&& BitVec.ofInt 64 1073741823).toNat : Nat) : Int) := rfl
  have h : (BitVec.ofInt 64 y &&& BitVec.ofInt 64 1073741823).toNat ≤ 1073741823 := by
    rw [BitVec.toNat_and]
    exact Nat.and_le_right
  rw [e, IntKind.wrap_i64]
  omega
theorem newH_bd (S : Src) (hS : S.ok) (k : Nat) : 0 ≤ newH S k ∧ newH S k ≤ 1073741823 := by
  cases k with
  | zero => have := hS.1; simp only [newH]; omega
  | succ k => exact and30 _

set_option maxHeartbeats 1600000 in
set_option maxRecDepth 100000 in
theorem l1New_any (S : Src) (hS : S.ok) (w : World) (hc : CodeW S w) (hl : S.lim ≤ w.heap.size) :
    Calls Try.prog 32 #[.slice S.a S.len S.cap] w fun e w' => e = .returned (.pointer (some ⟨w.heap.size, 0, none⟩)) ∧ CurW 54 S w' w.heap.size (start S) ∧ Below w.heap.size w w' := by
  have hlen := hS.1
  by_cases h0 : 0 < S.len
  · obtain ⟨b, off, ha, hb, hcell⟩ := hc 0 h0
    have hcells : ∀ j, j < S.len → w.cell? ⟨b, off + j, none⟩ = some (.int .u8 (S.Z j)) := by
      intro j hj
      obtain ⟨b', off', ha', hb', hcell'⟩ := hc j hj
      rw [ha] at ha'
      simp only [Option.some.injEq, Addr.mk.injEq, and_true] at ha'
      rw [ha'.1, ha'.2]
      exact hcell'
    rw [ha]
    go_enter Try.func32, Try.ntmps32
    go_wp2
    go_loop [3, 4] (fun h i => ∃ k : Nat, k ≤ S.len ∧ k ≤ 4000 ∧ i = .int .i64 k ∧ h = .int .i64 (newH S k)) (fun _ i => (4000 - intOf i).toNat)
    case atStart => exact ⟨0, by omega, by omega, rfl, rfl⟩
    case round =>
      obtain ⟨k, hk, hk4, rfl, rfl⟩ := hrel
      have hn := newH_bd S hS k
      have hz := hS.2 k
      by_cases hlt : k < S.len ∧ k < 4000
      · obtain ⟨hl1, hl2⟩ := hlt
        have hck := hcells k hl1
        clear hcells
        go_wp2
        go_round
        case rel => exact ⟨k + 1, by omega, by omega, by go_num, rfl⟩
        case measure => simp [intOf]; omega
      · have HS : Hid (start S = (0, newH S k)) := by
          show start S = _
          rw [start, show min S.len 4000 = k from by omega]
        clear hcells
        by_cases hks : k < S.len
        all_goals
          go_wp2
          go_ret
          refine ⟨rfl, ?_, (Below.refl _ _).alloc (Nat.le_refl _) _⟩
          rw [HS.out]
          refine ⟨?_, hl, by simp, codeW_below hc ((Below.refl w.heap.size w).alloc (Nat.le_refl _) _) hl⟩
          rw [heap_alloc_new, ha]
          rfl
  · have HS : Hid (start S = (0, newH S 0)) := by
      show start S = _
      rw [start, show min S.len 4000 = 0 from by omega]
    go_enter Try.func32, Try.ntmps32
    go_wp2
    go_loop [3, 4] (fun h i => i = .int .i64 0 ∧ h = .int .i64 (newH S 0)) (fun _ _ => 0)
    case atStart => exact ⟨rfl, rfl⟩
    case round =>
      obtain ⟨rfl, rfl⟩ := hrel
      go_wp2
      go_ret
      refine ⟨rfl, ?_, (Below.refl _ _).alloc (Nat.le_refl _) _⟩
      rw [HS.out]
      refine ⟨?_, hl, by simp, codeW_below hc ((Below.refl w.heap.size w).alloc (Nat.le_refl _) _) hl⟩
      rw [heap_alloc_new]
      rfl
end Go.Proofs.Ytogdhepmbbgmbaa
