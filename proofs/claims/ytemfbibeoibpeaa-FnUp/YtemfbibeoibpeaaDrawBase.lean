/-
  What the cursor's functions of the specification tell, and what they leave of it: l1New, l1Byte, l1Below, l1Once: the walks.
-/
import Derived.Test.YtemfbibeoibpeaaDrawMath
import Derived.Test.YtemfbibeoibpeaaProg
import Derived.Deep.QuietTactic
import Derived.BigQuiet
namespace Go.Proofs.Ytemfbibeoibpeaa
open Go.RowKit Go.PlainAid

theorem curW_drewN {T : TypeId} {S : Src} {w : World} {g : Nat} {q : Nat × Int} (h : CurW T S w g q) (n : Nat) : CurW T S (w.drewN n) g q := curW_kept h fun _ _ => rfl

set_option maxHeartbeats 1600000 in
theorem l1Byte_any (S : Src) (hS : S.ok) (g : Nat) (q : Nat × Int) (w : World) (hc : CurW 65 S w g q) :
    Calls Try.prog 57 #[.pointer (some ⟨g, 0, none⟩)] w fun e w' => e = .returned (.int .i64 (cb S q).1) ∧ CurW 65 S w' g (cb S q).2 ∧ w.grownBy w' (some g) := by
  obtain ⟨i, h⟩ := q
  obtain ⟨hc0, hc1, hc2, hf1, hf2⟩ := curW_cells hc
  have hlen := hS.1
  have hbh := bh_is
  have hbx := bx_is
  simp only at hc1 hc2
  by_cases hi : i < S.len
  · obtain ⟨b, off, ha, hb, hcell⟩ := hc.2.2.2 i hi
    have hbg : b < g := Nat.lt_of_lt_of_le hb hc.2.1
    have hz := hS.2 i
    rw [ha] at hc0
    have HA := cb_yes (h := h) hi
    have hx := and255 (bits .xor .i64 (bh h / 8589934592) (bh h / 35184372088832))
    rw [bx_is] at hx
    have HC : Hid (CurW 65 S w g (i, h)) := hc
    have HA' : Hid (cb S (i, h) = (bits .and .i64 (bx h + S.Z i) 255, (i + 1, bh h))) := HA
    clear hc HA
    go_enter Try.func57, Try.ntmps57
    go_wp2
    go_quiet (fail)
    go_wp2
    go_quiet (fail)
    go_wp2
    go_quiet (fail)
    go_wp2
    go_ret
    refine ⟨ret_int (by rw [HA'.out]), ?_, grown_setCell (grown_drewN (grown_setCell (World.grownBy.refl _ _) _) _) _⟩
    rw [HA'.out]
    exact curW_i (curW_drewN (curW_h HC.out _) _) (i + 1) (by omega)
  · have HC : Hid (CurW 65 S w g (i, h)) := hc
    have HA' : Hid (cb S (i, h) = (bx h, (i, bh h))) := cb_no hi
    clear hc
    go_enter Try.func57, Try.ntmps57
    go_wp2
    go_quiet (fail)
    go_wp2
    go_quiet (fail)
    go_wp2
    go_ret
    exact ⟨ret_int (by rw [HA'.out]), by rw [HA'.out]; exact curW_drewN (curW_drewN (curW_h HC.out _) _) _, grown_drewN (grown_drewN (grown_setCell (World.grownBy.refl _ _) _) _) _⟩

theorem bw_le {S : Src} {q : Nat × Int} {n : Int} (h : n ≤ 0) : bw S q n = (0, q) := by rw [bw, if_pos h]
theorem bw_mid {S : Src} {q : Nat × Int} {n : Int} (h : ¬ n ≤ 0) (k : n ≤ 256) : bw S q n = ((cb S q).1 % n, (cb S q).2) := by rw [bw, if_neg h, if_pos k]
theorem bw_big {S : Src} {q : Nat × Int} {n : Int} (h : ¬ n ≤ 0) (k : ¬ n ≤ 256) : bw S q n = (((cb S q).1 * 16777216 + (cb S (cb S q).2).1 * 65536 + (cb S (cb S (cb S q).2).2).1 * 256 + (cb S (cb S (cb S (cb S q).2).2).2).1) % n, (cb S (cb S (cb S (cb S q).2).2).2).2) := by rw [bw, if_neg h, if_neg k]

set_option maxHeartbeats 1600000 in
theorem l1Below_any (S : Src) (hS : S.ok) (g : Nat) (q : Nat × Int) (n : Int) (w : World) (hc : CurW 65 S w g q) (_ : n ≤ 9223372036854775807) :
    Calls Try.prog 45 #[.pointer (some ⟨g, 0, none⟩), .int .i64 n] w fun e w' => e = .returned (.int .i64 (bw S q n).1) ∧ CurW 65 S w' g (bw S q n).2 ∧ w.grownBy w' (some g) := by
  by_cases h0 : n ≤ 0
  · rw [bw_le h0]
    go_enter Try.func45, Try.ntmps45
    go_wp2
    go_ret
    exact ⟨rfl, hc, World.grownBy.refl _ _⟩
  · by_cases h1 : n ≤ 256
    · rw [bw_mid h0 h1]
      have hb := cb_bd S q
      go_enter Try.func45, Try.ntmps45
      go_wp2_with fail
      refine (l1Byte_any S hS g q _ hc).mono ?_
      rintro e w1 ⟨rfl, hc1, hg1⟩
      go_wp2
      go_ret
      exact ⟨rfl, hc1, hg1⟩
    · rw [bw_big h0 h1]
      have hb1 := cb_bd S q
      have hb2 := cb_bd S (cb S q).2
      have hb3 := cb_bd S (cb S (cb S q).2).2
      have hb4 := cb_bd S (cb S (cb S (cb S q).2).2).2
      go_enter Try.func45, Try.ntmps45
      go_wp2_with fail
      refine (l1Byte_any S hS g q _ hc).mono ?_
      rintro e w1 ⟨rfl, hc1, hg1⟩
      go_wp2_with fail
      refine (l1Byte_any S hS g _ _ hc1).mono ?_
      rintro e w2 ⟨rfl, hc2, hg2⟩
      go_wp2_with fail
      refine (l1Byte_any S hS g _ _ hc2).mono ?_
      rintro e w3 ⟨rfl, hc3, hg3⟩
      go_wp2_with fail
      refine (l1Byte_any S hS g _ _ hc3).mono ?_
      rintro e w4 ⟨rfl, hc4, hg4⟩
      go_wp2
      go_ret
      exact ⟨rfl, hc4, grown_trans (grown_trans (grown_trans hg1 hg2) hg3) hg4⟩

set_option maxHeartbeats 800000 in
theorem l1Once_any (S : Src) (hS : S.ok) (g : Nat) (q : Nat × Int) (n : Int) (w : World) (hc : CurW 65 S w g q) (hn : n ≤ 9223372036854775807) :
    Calls Try.prog 29 #[.pointer (some ⟨g, 0, none⟩), .int .i64 n] w fun e w' => e = .returned (.bool ((bw S q n).1 == 0)) ∧ CurW 65 S w' g (bw S q n).2 ∧ w.grownBy w' (some g) := by
  go_enter Try.func29, Try.ntmps29
  go_wp2_with fail
  refine (l1Below_any S hS g q n _ hc hn).mono ?_
  rintro e w1 ⟨rfl, hc1, hg1⟩
  go_wp2
  go_ret
  exact ⟨rfl, hc1, hg1⟩

theorem and30 (y : Int) : 0 ≤ bits .and .i64 y 1073741823 ∧ bits .and .i64 y 1073741823 ≤ 1073741823 := by
  have e : bits .and .i64 y 1073741823 = IntKind.i64.wrap (((BitVec.ofInt 64 y &&& BitVec.ofInt 64 1073741823).toNat : Nat) : Int) := rfl
  have h : (BitVec.ofInt 64 y &&& BitVec.ofInt 64 1073741823).toNat ≤ 1073741823 := by
    rw [BitVec.toNat_and]
    exact Nat.and_le_right
  rw [e, IntKind.wrap_i64]
  omega
theorem newH_bd (S : Src) (hS : S.ok) (k : Nat) : 0 ≤ newH S k ∧ newH S k ≤ 1073741823 := by
  cases k with
  | zero => have := hS.1; simp only [newH]; omega
  | succ k => exact and30 _

set_option maxHeartbeats 1600000 in
set_option maxRecDepth 100000 in
theorem l1New_any (S : Src) (hS : S.ok) (w : World) (hc : CodeW S w) (hl : S.lim ≤ w.heap.size) :
    Calls Try.prog 28 #[.slice S.a S.len S.cap] w fun e w' => e = .returned (.pointer (some ⟨w.heap.size, 0, none⟩)) ∧ CurW 65 S w' w.heap.size (start S) ∧ Below w.heap.size w w' := by
  have hlen := hS.1
  by_cases h0 : 0 < S.len
  · obtain ⟨b, off, ha, hb, hcell⟩ := hc 0 h0
    have hcells : ∀ j, j < S.len → w.cell? ⟨b, off + j, none⟩ = some (.int .u8 (S.Z j)) := by
      intro j hj
      obtain ⟨b', off', ha', hb', hcell'⟩ := hc j hj
      rw [ha] at ha'
      simp only [Option.some.injEq, Addr.mk.injEq, and_true] at ha'
      rw [ha'.1, ha'.2]
      exact hcell'
    rw [ha]
    go_enter Try.func28, Try.ntmps28
    go_wp2
    go_loop [3, 4] (fun h i => ∃ k : Nat, k ≤ S.len ∧ k ≤ 4000 ∧ i = .int .i64 k ∧ h = .int .i64 (newH S k)) (fun _ i => (4000 - intOf i).toNat)
    case atStart => exact ⟨0, by omega, by omega, rfl, rfl⟩
    case round =>
      obtain ⟨k, hk, hk4, rfl, rfl⟩ := hrel
      have hn := newH_bd S hS k
      have hz := hS.2 k
      by_cases hlt : k < S.len ∧ k < 4000
      · obtain ⟨hl1, hl2⟩ := hlt
        have hck := hcells k hl1
        clear hcells
        go_wp2
        go_round
        case rel => exact ⟨k + 1, by omega, by omega, by go_num, rfl⟩
        case measure => simp [intOf]; omega
      · have HS : Hid (start S = (0, newH S k)) := by
          show start S = _
          rw [start, show min S.len 4000 = k from by omega]
        clear hcells
        by_cases hks : k < S.len
        all_goals
          go_wp2
          go_ret
          refine ⟨rfl, ?_, (Below.refl _ _).alloc (Nat.le_refl _) _⟩
          rw [HS.out]
          refine ⟨?_, hl, by simp, codeW_below hc ((Below.refl w.heap.size w).alloc (Nat.le_refl _) _) hl⟩
          rw [heap_alloc_new, ha]
          rfl
  · have HS : Hid (start S = (0, newH S 0)) := by
      show start S = _
      rw [start, show min S.len 4000 = 0 from by omega]
    go_enter Try.func28, Try.ntmps28
    go_wp2
    go_loop [3, 4] (fun h i => i = .int .i64 0 ∧ h = .int .i64 (newH S 0)) (fun _ _ => 0)
    case atStart => exact ⟨rfl, rfl⟩
    case round =>
      obtain ⟨rfl, rfl⟩ := hrel
      go_wp2
      go_ret
      refine ⟨rfl, ?_, (Below.refl _ _).alloc (Nat.le_refl _) _⟩
      rw [HS.out]
      refine ⟨?_, hl, by simp, codeW_below hc ((Below.refl w.heap.size w).alloc (Nat.le_refl _) _) hl⟩
      rw [heap_alloc_new]
      rfl
end Go.Proofs.Ytemfbibeoibpeaa
