/-
  What spec's l4Part answers where no number and no bracket stands: the walks.
-/
import Derived.Test.YtoojlbaaekjjkaaGreatClSpecRowToSpecParseH
namespace Go.Proofs.YtoojlbaaekjjkaaGreat
open Go.RowKit Go.PlainAid

set_option maxRecDepth 100000 in
set_option maxHeartbeats 6400000 in
theorem l4Part_end_false (ts : List Tk) (fin : Nat) (gt cap base : Nat) (S : Sv) (q : PS) (d : Nat) (w : World) (hm : Mem (Cx.mk ts fin false) gt cap base S q w) (hp : ¬ q.pos < (Cx.mk ts fin false).ts.length) :
    Calls Tryz.prog 173 #[pv (Cx.mk ts fin false) gt cap S q (-1) d] w (Out (Cx.mk ts fin false) gt cap base (pE (Cx.mk ts fin false) .part d q) d S w) := by
  have HM : Hid (Mem (Cx.mk ts fin false) gt cap base S q w) := hm
  have htok := hm.tok
  have hfew : (Cx.mk ts fin false).ts.length ≤ 4000 := hm.few
  have hglt := (ownT_lt hm.tok).1
  clear hm
  have hk : ((tokAt (Cx.mk ts fin false) q.pos).kind == 2) = false := by rw [tokAt_none (by omega)]; rfl
  have ho : isT (Cx.mk ts fin false) q.pos 4 cOpen = false := isT_end hp (by decide)
  have hu : isT (Cx.mk ts fin false) q.pos 1 sUndef = false := isT_end hp (by decide)
  have hn : plainB (Cx.mk ts fin false) q.pos false = false := plain_end hp
  have HV : Hid (pE (Cx.mk ts fin false) .part d q = .error (here (Cx.mk ts fin false) q.pos)) := by show pE (Cx.mk ts fin false) .part d q = _; rw [pE_part, hk, ho, nameP, hn]; rfl
  have hp' : ¬ q.pos < ts.length := hp
  unfold pv
  go_enter Tryz.func173, Tryz.ntmps173
  go_wp2_with fail
  refine (is_spec (Cx.mk ts fin false) gt cap base S q (-1) d 4 cOpen _ (ownT_alloc (ownT_alloc htok _) _) hfew (by decide)).mono ?_
  rintro e w1 ⟨rfl, hb1⟩
  rw [ho]
  obtain ⟨X0, X1, m1, t1⟩ := HM.out.two hb1
  have hX0 : Hid (Bx gt S w1 _ _) := X0
  have hX1 : Hid (Bx gt S w1 _ _) := X1
  have hm1 : Hid (Mem (Cx.mk ts fin false) gt cap base S q w1) := m1
  have ht1 : Hid (SB w.heap.size S w S w1) := t1
  clear X0 X1 m1 t1 hb1
  obtain ⟨a0, a1, a2, a3, a4, a5, a6, a7, a8, a9, a10, a11, af⟩ := hX0.out.box
  go_wp2_with fail
  refine (l4Name_spec (Cx.mk ts fin false) gt cap base (.ok q) S q (-1) d false _ (is_ok q) hm1.out).mono ?_
  rintro e w2 ⟨S2, q2, z2, n2, rfl, i2, m2, s2⟩
  have hX0n : Hid (Bx gt S2 w2 _ _) := hX0.out.stp s2
  have hX1n : Hid (Bx gt S2 w2 _ _) := hX1.out.stp s2
  have ht2 : Hid (SB w.heap.size S w S2 w2) := ht1.out.step s2
  clear hX0 hX1 ht1
  have hX0 : Hid (Bx gt S2 w2 _ _) := hX0n
  have hX1 : Hid (Bx gt S2 w2 _ _) := hX1n
  clear hX0n hX1n
  have hm2 : Hid (Mem (Cx.mk ts fin false) gt cap base S2 q2 w2) := m2
  have hi2 : Hid (Is2 _ q2 z2 n2) := i2
  clear i2 m2 s2 hm1
  clear a0 a1 a2 a3 a4 a5 a6 a7 a8 a9 a10 a11 af
  obtain rfl := name_no hi2.out hn
  have dz : decide ((0 : Int) ≤ (here (Cx.mk ts fin false) q.pos : Int)) = true := decide_eq_true (by omega)
  have hlt2 : w.heap.size + 1 < w2.heap.size := hX1.out.lt
  unfold pv
  go_upto_region 17 with fail
  refine world_any (R := fun W => Bx gt S2 W (w.heap.size) _ ∧ Bx gt S2 W (w.heap.size + 1) _ ∧ Bx gt S2 W (w2.heap.size) _ ∧ Mem (Cx.mk ts fin false) gt cap base S2 q2 W ∧ SB w.heap.size S w S2 W) ⟨(hX0.out.alloc _), (hX1.out.alloc _), (Bx.new hm2.out _), (hm2.out.alloc _), (ht2.out.alloc _)⟩ ?_
  clear hX0 hX1 ht2 hm2
  rintro w3 ⟨X0, X1, X2, m3, t3⟩
  have hX0 : Hid (Bx gt S2 w3 _ _) := X0
  have hX1 : Hid (Bx gt S2 w3 _ _) := X1
  have hX2 : Hid (Bx gt S2 w3 _ _) := X2
  have hm3 : Hid (Mem (Cx.mk ts fin false) gt cap base S2 q2 w3) := m3
  have ht3 : Hid (SB w.heap.size S w S2 w3) := t3
  clear m3 t3 X0 X1 X2
  obtain ⟨b0, b1, b2, b3, b4, b5, b6, b7, b8, b9, b10, b11, bf⟩ := hX1.out.box
  obtain ⟨c0, c1, c2, c3, c4, c5, c6, c7, c8, c9, c10, c11, cf⟩ := hX2.out.box
  go_wp2
  refine bodyPost_ret (results_cell_row rfl _ _ (w.heap.size + 1) 59 _ (0, 0) _ rfl ((hX1.out.put _ _ _ _ _ _ _ _ _ _ _ _)).heap Tryz.underlying59 rfl (by kernel_rfl)) rfl ?_
  rw [HV.out]
  exact out_done rfl (show Is (.error (here (Cx.mk ts fin false) q.pos)) q2 _ from rfl) (hm3.out.put hX1.out _ _ _ _ _ _ _ _ _ _ _ _) (ht3.out.put (by omega) _ _ _ _ _ _ _ _ _ _ _ _)
set_option maxRecDepth 100000 in
set_option maxHeartbeats 6400000 in
theorem l4Part_none_false (ts : List Tk) (fin : Nat) (gt cap base : Nat) (S : Sv) (q : PS) (d : Nat) (w : World) (hm : Mem (Cx.mk ts fin false) gt cap base S q w) (hk : ((tokAt (Cx.mk ts fin false) q.pos).kind == 2) = false) (ho : isT (Cx.mk ts fin false) q.pos 4 cOpen = false) (hp : q.pos < (Cx.mk ts fin false).ts.length) (hn : plainB (Cx.mk ts fin false) q.pos false = false) :
    Calls Tryz.prog 173 #[pv (Cx.mk ts fin false) gt cap S q (-1) d] w (Out (Cx.mk ts fin false) gt cap base (pE (Cx.mk ts fin false) .part d q) d S w) := by
  have HM : Hid (Mem (Cx.mk ts fin false) gt cap base S q w) := hm
  have htok := hm.tok
  have hfew : (Cx.mk ts fin false).ts.length ≤ 4000 := hm.few
  have hglt := (ownT_lt hm.tok).1
  clear hm
  have HV : Hid (pE (Cx.mk ts fin false) .part d q = .error (here (Cx.mk ts fin false) q.pos)) := by show pE (Cx.mk ts fin false) .part d q = _; rw [pE_part, hk, ho, nameP, hn]; rfl
  have hp' : q.pos < ts.length := hp
  obtain ⟨c0, _, _, _⟩ := htok.cells hp (d := ⟨0, sNone, 0, (Cx.mk ts fin false).fin⟩)
  change _ = some (Value.int .i64 (tokAt (Cx.mk ts fin false) q.pos).kind) at c0
  generalize (tokAt (Cx.mk ts fin false) q.pos).kind = kd at c0 hk
  unfold pv
  go_enter Tryz.func173, Tryz.ntmps173
  go_wp2_with fail
  refine (is_spec (Cx.mk ts fin false) gt cap base S q (-1) d 4 cOpen _ (ownT_alloc (ownT_alloc htok _) _) hfew (by decide)).mono ?_
  rintro e w1 ⟨rfl, hb1⟩
  rw [ho]
  obtain ⟨X0, X1, m1, t1⟩ := HM.out.two hb1
  have hX0 : Hid (Bx gt S w1 _ _) := X0
  have hX1 : Hid (Bx gt S w1 _ _) := X1
  have hm1 : Hid (Mem (Cx.mk ts fin false) gt cap base S q w1) := m1
  have ht1 : Hid (SB w.heap.size S w S w1) := t1
  clear X0 X1 m1 t1 hb1
  obtain ⟨a0, a1, a2, a3, a4, a5, a6, a7, a8, a9, a10, a11, af⟩ := hX0.out.box
  go_wp2_with fail
  refine (l4Name_spec (Cx.mk ts fin false) gt cap base (.ok q) S q (-1) d false _ (is_ok q) hm1.out).mono ?_
  rintro e w2 ⟨S2, q2, z2, n2, rfl, i2, m2, s2⟩
  have hX0n : Hid (Bx gt S2 w2 _ _) := hX0.out.stp s2
  have hX1n : Hid (Bx gt S2 w2 _ _) := hX1.out.stp s2
  have ht2 : Hid (SB w.heap.size S w S2 w2) := ht1.out.step s2
  clear hX0 hX1 ht1
  have hX0 : Hid (Bx gt S2 w2 _ _) := hX0n
  have hX1 : Hid (Bx gt S2 w2 _ _) := hX1n
  clear hX0n hX1n
  have hm2 : Hid (Mem (Cx.mk ts fin false) gt cap base S2 q2 w2) := m2
  have hi2 : Hid (Is2 _ q2 z2 n2) := i2
  clear i2 m2 s2 hm1
  clear a0 a1 a2 a3 a4 a5 a6 a7 a8 a9 a10 a11 af
  obtain rfl := name_no hi2.out hn
  have dz : decide ((0 : Int) ≤ (here (Cx.mk ts fin false) q.pos : Int)) = true := decide_eq_true (by omega)
  have hlt2 : w.heap.size + 1 < w2.heap.size := hX1.out.lt
  unfold pv
  go_upto_region 17 with fail
  refine world_any (R := fun W => Bx gt S2 W (w.heap.size) _ ∧ Bx gt S2 W (w.heap.size + 1) _ ∧ Bx gt S2 W (w2.heap.size) _ ∧ Mem (Cx.mk ts fin false) gt cap base S2 q2 W ∧ SB w.heap.size S w S2 W) ⟨(hX0.out.alloc _), (hX1.out.alloc _), (Bx.new hm2.out _), (hm2.out.alloc _), (ht2.out.alloc _)⟩ ?_
  clear hX0 hX1 ht2 hm2
  rintro w3 ⟨X0, X1, X2, m3, t3⟩
  have hX0 : Hid (Bx gt S2 w3 _ _) := X0
  have hX1 : Hid (Bx gt S2 w3 _ _) := X1
  have hX2 : Hid (Bx gt S2 w3 _ _) := X2
  have hm3 : Hid (Mem (Cx.mk ts fin false) gt cap base S2 q2 w3) := m3
  have ht3 : Hid (SB w.heap.size S w S2 w3) := t3
  clear m3 t3 X0 X1 X2
  obtain ⟨b0, b1, b2, b3, b4, b5, b6, b7, b8, b9, b10, b11, bf⟩ := hX1.out.box
  obtain ⟨c0, c1, c2, c3, c4, c5, c6, c7, c8, c9, c10, c11, cf⟩ := hX2.out.box
  go_wp2
  refine bodyPost_ret (results_cell_row rfl _ _ (w.heap.size + 1) 59 _ (0, 0) _ rfl ((hX1.out.put _ _ _ _ _ _ _ _ _ _ _ _)).heap Tryz.underlying59 rfl (by kernel_rfl)) rfl ?_
  rw [HV.out]
  exact out_done rfl (show Is (.error (here (Cx.mk ts fin false) q.pos)) q2 _ from rfl) (hm3.out.put hX1.out _ _ _ _ _ _ _ _ _ _ _ _) (ht3.out.put (by omega) _ _ _ _ _ _ _ _ _ _ _ _)
set_option maxRecDepth 100000 in
set_option maxHeartbeats 6400000 in
theorem l4Part_bad_false (ts : List Tk) (fin : Nat) (gt cap base : Nat) (S : Sv) (q : PS) (d : Nat) (w : World) (hm : Mem (Cx.mk ts fin false) gt cap base S q w) (e0 : Nat) :
    Calls Tryz.prog 173 #[pv (Cx.mk ts fin false) gt cap S q (e0 : Int) d] w (Out (Cx.mk ts fin false) gt cap base (.error e0) d S w) := by
  have HM : Hid (Mem (Cx.mk ts fin false) gt cap base S q w) := hm
  have htok := hm.tok
  have hfew : (Cx.mk ts fin false).ts.length ≤ 4000 := hm.few
  have hglt := (ownT_lt hm.tok).1
  clear hm
  have hz : ¬ (e0 : Int) < 0 := by omega
  have hs : ∀ k s, (decide ((e0 : Int) < 0) && isT (Cx.mk ts fin false) q.pos k s) = false := fun k s => by rw [decide_eq_false hz]; rfl
  unfold pv
  go_enter Tryz.func173, Tryz.ntmps173
  go_wp2_with fail
  refine (is_spec (Cx.mk ts fin false) gt cap base S q (e0 : Int) d 4 cOpen _ (ownT_alloc (ownT_alloc htok _) _) hfew (by decide)).mono ?_
  rintro e w1 ⟨rfl, hb1⟩
  rw [hs]
  obtain ⟨X0, X1, m1, t1⟩ := HM.out.two hb1
  have hX0 : Hid (Bx gt S w1 _ _) := X0
  have hX1 : Hid (Bx gt S w1 _ _) := X1
  have hm1 : Hid (Mem (Cx.mk ts fin false) gt cap base S q w1) := m1
  have ht1 : Hid (SB w.heap.size S w S w1) := t1
  clear X0 X1 m1 t1 hb1
  obtain ⟨a0, a1, a2, a3, a4, a5, a6, a7, a8, a9, a10, a11, af⟩ := hX0.out.box
  go_wp2_with fail
  refine (l4Name_spec (Cx.mk ts fin false) gt cap base (.error e0) S q (e0 : Int) d false _ (show Is (.error e0) q _ from rfl) hm1.out).mono ?_
  rintro e w2 ⟨S2, q2, z2, n2, rfl, i2, m2, s2⟩
  have hX0n : Hid (Bx gt S2 w2 _ _) := hX0.out.stp s2
  have hX1n : Hid (Bx gt S2 w2 _ _) := hX1.out.stp s2
  have ht2 : Hid (SB w.heap.size S w S2 w2) := ht1.out.step s2
  clear hX0 hX1 ht1
  have hX0 : Hid (Bx gt S2 w2 _ _) := hX0n
  have hX1 : Hid (Bx gt S2 w2 _ _) := hX1n
  clear hX0n hX1n
  have hm2 : Hid (Mem (Cx.mk ts fin false) gt cap base S2 q2 w2) := m2
  have hi2 : Hid (Is2 _ q2 z2 n2) := i2
  clear i2 m2 s2 hm1
  clear a0 a1 a2 a3 a4 a5 a6 a7 a8 a9 a10 a11 af
  obtain rfl : z2 = (e0 : Int) := hi2.out
  have dz : decide ((0 : Int) ≤ (e0 : Int)) = true := decide_eq_true (by omega)
  have hlt2 : w.heap.size + 1 < w2.heap.size := hX1.out.lt
  unfold pv
  go_upto_region 17 with fail
  refine world_any (R := fun W => Bx gt S2 W (w.heap.size) _ ∧ Bx gt S2 W (w.heap.size + 1) _ ∧ Bx gt S2 W (w2.heap.size) _ ∧ Mem (Cx.mk ts fin false) gt cap base S2 q2 W ∧ SB w.heap.size S w S2 W) ⟨(hX0.out.alloc _), (hX1.out.alloc _), (Bx.new hm2.out _), (hm2.out.alloc _), (ht2.out.alloc _)⟩ ?_
  clear hX0 hX1 ht2 hm2
  rintro w3 ⟨X0, X1, X2, m3, t3⟩
  have hX0 : Hid (Bx gt S2 w3 _ _) := X0
  have hX1 : Hid (Bx gt S2 w3 _ _) := X1
  have hX2 : Hid (Bx gt S2 w3 _ _) := X2
  have hm3 : Hid (Mem (Cx.mk ts fin false) gt cap base S2 q2 w3) := m3
  have ht3 : Hid (SB w.heap.size S w S2 w3) := t3
  clear m3 t3 X0 X1 X2
  obtain ⟨b0, b1, b2, b3, b4, b5, b6, b7, b8, b9, b10, b11, bf⟩ := hX1.out.box
  obtain ⟨c0, c1, c2, c3, c4, c5, c6, c7, c8, c9, c10, c11, cf⟩ := hX2.out.box
  go_wp2
  refine bodyPost_ret (results_cell_row rfl _ _ (w.heap.size + 1) 59 _ (0, 0) _ rfl ((hX1.out.put _ _ _ _ _ _ _ _ _ _ _ _)).heap Tryz.underlying59 rfl (by kernel_rfl)) rfl ?_
  exact out_done rfl (show Is (.error e0) q2 _ from rfl) (hm3.out.put hX1.out _ _ _ _ _ _ _ _ _ _ _ _) (ht3.out.put (by omega) _ _ _ _ _ _ _ _ _ _ _ _)
set_option maxRecDepth 100000 in
set_option maxHeartbeats 6400000 in
theorem l4Part_tail_false (ts : List Tk) (fin : Nat) (gt cap base : Nat) (S : Sv) (q : PS) (d : Nat) (w : World) (hm : Mem (Cx.mk ts fin false) gt cap base S q w) (hk : ((tokAt (Cx.mk ts fin false) q.pos).kind == 2) = false) (ho : isT (Cx.mk ts fin false) q.pos 4 cOpen = false) (hp : q.pos < (Cx.mk ts fin false).ts.length) (hn : plainB (Cx.mk ts fin false) q.pos false = true) (hd : isT (Cx.mk ts fin false) (q.pos + 1) 4 cPoint = false) :
    Calls Tryz.prog 173 #[pv (Cx.mk ts fin false) gt cap S q (-1) d] w (Out (Cx.mk ts fin false) gt cap base (pE (Cx.mk ts fin false) .part d q) d S w) := by
  have HM : Hid (Mem (Cx.mk ts fin false) gt cap base S q w) := hm
  have htok := hm.tok
  have hfew : (Cx.mk ts fin false).ts.length ≤ 4000 := hm.few
  have hglt := (ownT_lt hm.tok).1
  clear hm
  have HV : Hid (pE (Cx.mk ts fin false) .part d q = tailP (Cx.mk ts fin false) (tokAt (Cx.mk ts fin false) q.pos).text (adv q)) := by show pE (Cx.mk ts fin false) .part d q = _; rw [pE_part, hk, ho, nameP, hn]; show (if isT (Cx.mk ts fin false) (adv q).pos 4 cPoint then _ else _) = _; rw [adv_pos, hd]; rfl
  have hp' : q.pos < ts.length := hp
  obtain ⟨c0, _, _, _⟩ := htok.cells hp (d := ⟨0, sNone, 0, (Cx.mk ts fin false).fin⟩)
  change _ = some (Value.int .i64 (tokAt (Cx.mk ts fin false) q.pos).kind) at c0
  generalize (tokAt (Cx.mk ts fin false) q.pos).kind = kd at c0 hk
  unfold pv
  go_enter Tryz.func173, Tryz.ntmps173
  go_wp2_with fail
  refine (is_spec (Cx.mk ts fin false) gt cap base S q (-1) d 4 cOpen _ (ownT_alloc (ownT_alloc htok _) _) hfew (by decide)).mono ?_
  rintro e w1 ⟨rfl, hb1⟩
  rw [ho]
  obtain ⟨X0, X1, m1, t1⟩ := HM.out.two hb1
  have hX0 : Hid (Bx gt S w1 _ _) := X0
  have hX1 : Hid (Bx gt S w1 _ _) := X1
  have hm1 : Hid (Mem (Cx.mk ts fin false) gt cap base S q w1) := m1
  have ht1 : Hid (SB w.heap.size S w S w1) := t1
  clear X0 X1 m1 t1 hb1
  obtain ⟨a0, a1, a2, a3, a4, a5, a6, a7, a8, a9, a10, a11, af⟩ := hX0.out.box
  go_wp2_with fail
  refine (l4Name_spec (Cx.mk ts fin false) gt cap base (.ok q) S q (-1) d false _ (is_ok q) hm1.out).mono ?_
  rintro e w2 ⟨S2, q2, z2, n2, rfl, i2, m2, s2⟩
  have hX0n : Hid (Bx gt S2 w2 _ _) := hX0.out.stp s2
  have hX1n : Hid (Bx gt S2 w2 _ _) := hX1.out.stp s2
  have ht2 : Hid (SB w.heap.size S w S2 w2) := ht1.out.step s2
  clear hX0 hX1 ht1
  have hX0 : Hid (Bx gt S2 w2 _ _) := hX0n
  have hX1 : Hid (Bx gt S2 w2 _ _) := hX1n
  clear hX0n hX1n
  have hm2 : Hid (Mem (Cx.mk ts fin false) gt cap base S2 q2 w2) := m2
  have hi2 : Hid (Is2 _ q2 z2 n2) := i2
  clear i2 m2 s2 hm1
  clear a0 a1 a2 a3 a4 a5 a6 a7 a8 a9 a10 a11 af
  obtain ⟨hq, rfl, hnm⟩ := name_yes hi2.out hn
  have HQ : Hid (q2 = adv q) := hq
  have HNM : Hid (n2 = (tokAt (Cx.mk ts fin false) q.pos).text) := hnm
  have hqp : q2.pos = q.pos + 1 := by rw [hq]; rfl
  have hd' : isT (Cx.mk ts fin false) q2.pos 4 cPoint = false := by rw [hqp]; exact hd
  clear hq hnm hi2
  have hlt2 : w.heap.size + 1 < w2.heap.size := hX1.out.lt
  unfold pv
  clear hqp
  go_wp2_with fail
  refine (is_spec (Cx.mk ts fin false) gt cap base S2 q2 (-1) d 4 cPoint _ (hm2.out.alloc _).tok hfew (by decide)).mono ?_
  rintro e w3 ⟨rfl, hb3⟩
  rw [hd']
  have hX0n : Hid (Bx gt S2 w3 _ _) := (hX0.out.alloc _).below hb3
  have hX1n : Hid (Bx gt S2 w3 _ _) := (hX1.out.alloc _).below hb3
  have hX2n : Hid (Bx gt S2 w3 _ _) := (Bx.new hm2.out _).below hb3
  have ht3 : Hid (SB w.heap.size S w S2 w3) := (ht2.out.alloc _).below hb3
  have hm3 : Hid (Mem (Cx.mk ts fin false) gt cap base S2 q2 w3) := (hm2.out.alloc _).later hb3
  clear hb3 hX0 hX1 ht2 hm2
  have hX0 : Hid (Bx gt S2 w3 _ _) := hX0n
  have hX1 : Hid (Bx gt S2 w3 _ _) := hX1n
  have hX2 : Hid (Bx gt S2 w3 _ _) := hX2n
  clear hX0n hX1n hX2n
  obtain ⟨c0, c1, c2, c3, c4, c5, c6, c7, c8, c9, c10, c11, cf⟩ := hX2.out.box
  go_wp2_with fail
  refine (l4Tail_spec (Cx.mk ts fin false) gt cap base S2 q2 d n2 _ hm3.out (by rw [HQ.out]; simp [adv])).mono ?_
  rintro e w4 ⟨S4, q4, z4, rfl, i4, m4, s4⟩
  have hX0n : Hid (Bx gt S4 w4 _ _) := hX0.out.stp s4
  have hX1n : Hid (Bx gt S4 w4 _ _) := hX1.out.stp s4
  have hX2n : Hid (Bx gt S4 w4 _ _) := hX2.out.stp s4
  have ht4 : Hid (SB w.heap.size S w S4 w4) := ht3.out.step s4
  clear hX0 hX1 hX2 ht3
  have hX0 : Hid (Bx gt S4 w4 _ _) := hX0n
  have hX1 : Hid (Bx gt S4 w4 _ _) := hX1n
  have hX2 : Hid (Bx gt S4 w4 _ _) := hX2n
  clear hX0n hX1n hX2n
  have hm4 : Hid (Mem (Cx.mk ts fin false) gt cap base S4 q4 w4) := m4
  have hi4 : Hid (Is _ q4 z4) := i4
  clear i4 m4 s4 hm3
  clear c0 c1 c2 c3 c4 c5 c6 c7 c8 c9 c10 c11 cf
  obtain ⟨b0, b1, b2, b3, b4, b5, b6, b7, b8, b9, b10, b11, bf⟩ := hX1.out.box
  unfold pv
  go_wp2
  refine bodyPost_ret (results_cell_row rfl _ _ (w.heap.size + 1) 59 _ (0, 0) _ rfl ((hX1.out.put _ _ _ _ _ _ _ _ _ _ _ _)).heap Tryz.underlying59 rfl (by kernel_rfl)) rfl ?_
  rw [HV.out, ← HQ.out, ← HNM.out]
  exact out_done rfl hi4.out (hm4.out.put hX1.out _ _ _ _ _ _ _ _ _ _ _ _) (ht4.out.put (by omega) _ _ _ _ _ _ _ _ _ _ _ _)
set_option maxRecDepth 100000 in
set_option maxHeartbeats 6400000 in
theorem l4Part_member_false (ts : List Tk) (fin : Nat) (gt cap base : Nat) (S : Sv) (q : PS) (d : Nat) (w : World) (hm : Mem (Cx.mk ts fin false) gt cap base S q w) (hk : ((tokAt (Cx.mk ts fin false) q.pos).kind == 2) = false) (ho : isT (Cx.mk ts fin false) q.pos 4 cOpen = false) (hp : q.pos < (Cx.mk ts fin false).ts.length) (hn : plainB (Cx.mk ts fin false) q.pos false = true) (hd : isT (Cx.mk ts fin false) (q.pos + 1) 4 cPoint = true) :
    Calls Tryz.prog 173 #[pv (Cx.mk ts fin false) gt cap S q (-1) d] w (Out (Cx.mk ts fin false) gt cap base (pE (Cx.mk ts fin false) .part d q) d S w) := by
  have HM : Hid (Mem (Cx.mk ts fin false) gt cap base S q w) := hm
  have htok := hm.tok
  have hfew : (Cx.mk ts fin false).ts.length ≤ 4000 := hm.few
  have hglt := (ownT_lt hm.tok).1
  clear hm
  have HV : Hid (pE (Cx.mk ts fin false) .part d q = bd (bd (.ok (adv (adv q))) (nameP (Cx.mk ts fin false) true)) fun y => memP (Cx.mk ts fin false) (tokAt (Cx.mk ts fin false) q.pos).text y.2 y.1) := by show pE (Cx.mk ts fin false) .part d q = _; rw [pE_part, hk, ho, nameP, hn]; show (if isT (Cx.mk ts fin false) (adv q).pos 4 cPoint then _ else _) = _; rw [adv_pos, hd]; rfl
  have hp' : q.pos < ts.length := hp
  obtain ⟨c0, _, _, _⟩ := htok.cells hp (d := ⟨0, sNone, 0, (Cx.mk ts fin false).fin⟩)
  change _ = some (Value.int .i64 (tokAt (Cx.mk ts fin false) q.pos).kind) at c0
  generalize (tokAt (Cx.mk ts fin false) q.pos).kind = kd at c0 hk
  unfold pv
  go_enter Tryz.func173, Tryz.ntmps173
  go_wp2_with fail
  refine (is_spec (Cx.mk ts fin false) gt cap base S q (-1) d 4 cOpen _ (ownT_alloc (ownT_alloc htok _) _) hfew (by decide)).mono ?_
  rintro e w1 ⟨rfl, hb1⟩
  rw [ho]
  obtain ⟨X0, X1, m1, t1⟩ := HM.out.two hb1
  have hX0 : Hid (Bx gt S w1 _ _) := X0
  have hX1 : Hid (Bx gt S w1 _ _) := X1
  have hm1 : Hid (Mem (Cx.mk ts fin false) gt cap base S q w1) := m1
  have ht1 : Hid (SB w.heap.size S w S w1) := t1
  clear X0 X1 m1 t1 hb1
  obtain ⟨a0, a1, a2, a3, a4, a5, a6, a7, a8, a9, a10, a11, af⟩ := hX0.out.box
  go_wp2_with fail
  refine (l4Name_spec (Cx.mk ts fin false) gt cap base (.ok q) S q (-1) d false _ (is_ok q) hm1.out).mono ?_
  rintro e w2 ⟨S2, q2, z2, n2, rfl, i2, m2, s2⟩
  have hX0n : Hid (Bx gt S2 w2 _ _) := hX0.out.stp s2
  have hX1n : Hid (Bx gt S2 w2 _ _) := hX1.out.stp s2
  have ht2 : Hid (SB w.heap.size S w S2 w2) := ht1.out.step s2
  clear hX0 hX1 ht1
  have hX0 : Hid (Bx gt S2 w2 _ _) := hX0n
  have hX1 : Hid (Bx gt S2 w2 _ _) := hX1n
  clear hX0n hX1n
  have hm2 : Hid (Mem (Cx.mk ts fin false) gt cap base S2 q2 w2) := m2
  have hi2 : Hid (Is2 _ q2 z2 n2) := i2
  clear i2 m2 s2 hm1
  clear a0 a1 a2 a3 a4 a5 a6 a7 a8 a9 a10 a11 af
  obtain ⟨hq, rfl, hnm⟩ := name_yes hi2.out hn
  have HQ : Hid (q2 = adv q) := hq
  have HNM : Hid (n2 = (tokAt (Cx.mk ts fin false) q.pos).text) := hnm
  have hqp : q2.pos = q.pos + 1 := by rw [hq]; rfl
  have hd' : isT (Cx.mk ts fin false) q2.pos 4 cPoint = true := by rw [hqp]; exact hd
  clear hq hnm hi2
  have hlt2 : w.heap.size + 1 < w2.heap.size := hX1.out.lt
  unfold pv
  clear hqp
  go_wp2_with fail
  refine (is_spec (Cx.mk ts fin false) gt cap base S2 q2 (-1) d 4 cPoint _ (hm2.out.alloc _).tok hfew (by decide)).mono ?_
  rintro e w3 ⟨rfl, hb3⟩
  rw [hd']
  have hX0n : Hid (Bx gt S2 w3 _ _) := (hX0.out.alloc _).below hb3
  have hX1n : Hid (Bx gt S2 w3 _ _) := (hX1.out.alloc _).below hb3
  have hX2n : Hid (Bx gt S2 w3 _ _) := (Bx.new hm2.out _).below hb3
  have ht3 : Hid (SB w.heap.size S w S2 w3) := (ht2.out.alloc _).below hb3
  have hm3 : Hid (Mem (Cx.mk ts fin false) gt cap base S2 q2 w3) := (hm2.out.alloc _).later hb3
  clear hb3 hX0 hX1 ht2 hm2
  have hX0 : Hid (Bx gt S2 w3 _ _) := hX0n
  have hX1 : Hid (Bx gt S2 w3 _ _) := hX1n
  have hX2 : Hid (Bx gt S2 w3 _ _) := hX2n
  clear hX0n hX1n hX2n
  obtain ⟨c0, c1, c2, c3, c4, c5, c6, c7, c8, c9, c10, c11, cf⟩ := hX2.out.box
  have hp2 : q2.pos < (Cx.mk ts fin false).ts.length := isT_lt hd' (by decide)
  have hp2' : q2.pos < ts.length := hp2
  go_wp2_with fail
  refine (l4Name_spec (Cx.mk ts fin false) gt cap base (.ok (adv q2)) S2 (adv q2) (-1) d true _ (is_ok _) ((hm3.out.adv hp2).set hX2.out 1 _)).mono ?_
  rintro e w4 ⟨S4, q4, z4, n4, rfl, i4, m4, s4⟩
  have hX0n : Hid (Bx gt S4 w4 _ _) := (hX0.out.set_other (by omega) 1 _).stp s4
  have hX1n : Hid (Bx gt S4 w4 _ _) := (hX1.out.set_other (by omega) 1 _).stp s4
  have hX2n : Hid (Bx gt S4 w4 _ _) := (hX2.out.at1 _).stp s4
  have ht4 : Hid (SB w.heap.size S w S4 w4) := (ht3.out.set (by omega) 1 _).step s4
  clear hX0 hX1 hX2 ht3
  have hX0 : Hid (Bx gt S4 w4 _ _) := hX0n
  have hX1 : Hid (Bx gt S4 w4 _ _) := hX1n
  have hX2 : Hid (Bx gt S4 w4 _ _) := hX2n
  clear hX0n hX1n hX2n
  have hm4 : Hid (Mem (Cx.mk ts fin false) gt cap base S4 q4 w4) := m4
  have hi4 : Hid (Is2 _ q4 z4 n4) := i4
  clear i4 m4 s4 hm3
  clear c0 c1 c2 c3 c4 c5 c6 c7 c8 c9 c10 c11 cf
  have hlt3 : w.heap.size + 1 < w4.heap.size := hX1.out.lt
  have hlt3_2 : w2.heap.size < w4.heap.size := hX2.out.lt
  cases hc : (decide (z4 < 0) && isT (Cx.mk ts fin false) q4.pos 4 cOpen) with
  | true =>
    unfold pv
    go_wp2_with fail
    refine (is_spec (Cx.mk ts fin false) gt cap base S4 q4 z4 d 4 cOpen _ (hm4.out.alloc _).tok hfew (by decide)).mono ?_
    rintro e w5 ⟨rfl, hb5⟩
    rw [hc]
    have hX0n : Hid (Bx gt S4 w5 _ _) := (hX0.out.alloc _).below hb5
    have hX1n : Hid (Bx gt S4 w5 _ _) := (hX1.out.alloc _).below hb5
    have hX2n : Hid (Bx gt S4 w5 _ _) := (hX2.out.alloc _).below hb5
    have hX3n : Hid (Bx gt S4 w5 _ _) := (Bx.new hm4.out _).below hb5
    have ht5 : Hid (SB w.heap.size S w S4 w5) := (ht4.out.alloc _).below hb5
    have hm5 : Hid (Mem (Cx.mk ts fin false) gt cap base S4 q4 w5) := (hm4.out.alloc _).later hb5
    clear hb5 hX0 hX1 hX2 ht4 hm4
    have hX0 : Hid (Bx gt S4 w5 _ _) := hX0n
    have hX1 : Hid (Bx gt S4 w5 _ _) := hX1n
    have hX2 : Hid (Bx gt S4 w5 _ _) := hX2n
    have hX3 : Hid (Bx gt S4 w5 _ _) := hX3n
    clear hX0n hX1n hX2n hX3n
    obtain ⟨d0, d1, d2, d3, d4, d5, d6, d7, d8, d9, d10, d11, df⟩ := hX3.out.box
    go_wp2_with fail
    refine (l4Sign_spec (Cx.mk ts fin false) gt cap base _ S4 q4 z4 d cOpen _ hi4.out.fst hm5.out).mono ?_
    rintro e w6 ⟨S6, q6, z6, rfl, i6, m6, s6⟩
    have hX0n : Hid (Bx gt S6 w6 _ _) := hX0.out.stp s6
    have hX1n : Hid (Bx gt S6 w6 _ _) := hX1.out.stp s6
    have hX2n : Hid (Bx gt S6 w6 _ _) := hX2.out.stp s6
    have hX3n : Hid (Bx gt S6 w6 _ _) := hX3.out.stp s6
    have ht6 : Hid (SB w.heap.size S w S6 w6) := ht5.out.step s6
    clear hX0 hX1 hX2 hX3 ht5
    have hX0 : Hid (Bx gt S6 w6 _ _) := hX0n
    have hX1 : Hid (Bx gt S6 w6 _ _) := hX1n
    have hX2 : Hid (Bx gt S6 w6 _ _) := hX2n
    have hX3 : Hid (Bx gt S6 w6 _ _) := hX3n
    clear hX0n hX1n hX2n hX3n
    have hm6 : Hid (Mem (Cx.mk ts fin false) gt cap base S6 q6 w6) := m6
    have hi6 : Hid (Is _ q6 z6) := i6
    clear i6 m6 s6 hm5
    clear d0 d1 d2 d3 d4 d5 d6 d7 d8 d9 d10 d11 df
    go_wp2_with fail
    refine (l4Sign_spec (Cx.mk ts fin false) gt cap base _ S6 q6 z6 d cShut _ hi6.out hm6.out).mono ?_
    rintro e w7 ⟨S7, q7, z7, rfl, i7, m7, s7⟩
    have hX0n : Hid (Bx gt S7 w7 _ _) := hX0.out.stp s7
    have hX1n : Hid (Bx gt S7 w7 _ _) := hX1.out.stp s7
    have hX2n : Hid (Bx gt S7 w7 _ _) := hX2.out.stp s7
    have hX3n : Hid (Bx gt S7 w7 _ _) := hX3.out.stp s7
    have ht7 : Hid (SB w.heap.size S w S7 w7) := ht6.out.step s7
    clear hX0 hX1 hX2 hX3 ht6
    have hX0 : Hid (Bx gt S7 w7 _ _) := hX0n
    have hX1 : Hid (Bx gt S7 w7 _ _) := hX1n
    have hX2 : Hid (Bx gt S7 w7 _ _) := hX2n
    have hX3 : Hid (Bx gt S7 w7 _ _) := hX3n
    clear hX0n hX1n hX2n hX3n
    have hm7 : Hid (Mem (Cx.mk ts fin false) gt cap base S7 q7 w7) := m7
    have hi7 : Hid (Is _ q7 z7) := i7
    clear i7 m7 s7 hm6
    obtain ⟨d0, d1, d2, d3, d4, d5, d6, d7, d8, d9, d10, d11, df⟩ := hX3.out.box
    unfold pv
    go_wp2_with fail
    refine (l4Add_spec (Cx.mk ts fin false) gt cap base _ S7 q7 z7 d ⟨5, 0, n2, n4, 0, 0⟩ _ hi7.out (hm7.out.put hX3.out _ _ _ _ _ _ _ _ _ _ _ _) (pos_tok hi7.out)).mono ?_
    rintro e w8 ⟨S8, q8, z8, rfl, i8, m8, s8⟩
    have hX0n : Hid (Bx gt S8 w8 _ _) := (hX0.out.other (by omega) _ _ _ _ _ _ _ _ _ _ _ _).stp s8
    have hX1n : Hid (Bx gt S8 w8 _ _) := (hX1.out.other (by omega) _ _ _ _ _ _ _ _ _ _ _ _).stp s8
    have hX2n : Hid (Bx gt S8 w8 _ _) := (hX2.out.other (by omega) _ _ _ _ _ _ _ _ _ _ _ _).stp s8
    have hX3n : Hid (Bx gt S8 w8 _ _) := (hX3.out.put _ _ _ _ _ _ _ _ _ _ _ _).stp s8
    have ht8 : Hid (SB w.heap.size S w S8 w8) := (ht7.out.put (by omega) _ _ _ _ _ _ _ _ _ _ _ _).step s8
    clear hX0 hX1 hX2 hX3 ht7
    have hX0 : Hid (Bx gt S8 w8 _ _) := hX0n
    have hX1 : Hid (Bx gt S8 w8 _ _) := hX1n
    have hX2 : Hid (Bx gt S8 w8 _ _) := hX2n
    have hX3 : Hid (Bx gt S8 w8 _ _) := hX3n
    clear hX0n hX1n hX2n hX3n
    have hm8 : Hid (Mem (Cx.mk ts fin false) gt cap base S8 q8 w8) := m8
    have hi8 : Hid (Is _ q8 z8) := i8
    clear i8 m8 s8 hm7
    clear d0 d1 d2 d3 d4 d5 d6 d7 d8 d9 d10 d11 df
    obtain ⟨b0, b1, b2, b3, b4, b5, b6, b7, b8, b9, b10, b11, bf⟩ := hX1.out.box
    unfold pv
    go_wp2
    refine bodyPost_ret (results_cell_row rfl _ _ (w.heap.size + 1) 59 _ (0, 0) _ rfl ((hX1.out.put _ _ _ _ _ _ _ _ _ _ _ _)).heap Tryz.underlying59 rfl (by kernel_rfl)) rfl ?_
    rw [HV.out, ← HQ.out, ← HNM.out, ← mem_bind hi4.out hc]
    exact out_done rfl hi8.out (hm8.out.put hX1.out _ _ _ _ _ _ _ _ _ _ _ _) (ht8.out.put (by omega) _ _ _ _ _ _ _ _ _ _ _ _)
  | false =>
    unfold pv
    go_wp2_with fail
    refine (is_spec (Cx.mk ts fin false) gt cap base S4 q4 z4 d 4 cOpen _ (hm4.out.alloc _).tok hfew (by decide)).mono ?_
    rintro e w5 ⟨rfl, hb5⟩
    rw [hc]
    have hX0n : Hid (Bx gt S4 w5 _ _) := (hX0.out.alloc _).below hb5
    have hX1n : Hid (Bx gt S4 w5 _ _) := (hX1.out.alloc _).below hb5
    have hX2n : Hid (Bx gt S4 w5 _ _) := (hX2.out.alloc _).below hb5
    have hX3n : Hid (Bx gt S4 w5 _ _) := (Bx.new hm4.out _).below hb5
    have ht5 : Hid (SB w.heap.size S w S4 w5) := (ht4.out.alloc _).below hb5
    have hm5 : Hid (Mem (Cx.mk ts fin false) gt cap base S4 q4 w5) := (hm4.out.alloc _).later hb5
    clear hb5 hX0 hX1 hX2 ht4 hm4
    have hX0 : Hid (Bx gt S4 w5 _ _) := hX0n
    have hX1 : Hid (Bx gt S4 w5 _ _) := hX1n
    have hX2 : Hid (Bx gt S4 w5 _ _) := hX2n
    have hX3 : Hid (Bx gt S4 w5 _ _) := hX3n
    clear hX0n hX1n hX2n hX3n
    obtain ⟨d0, d1, d2, d3, d4, d5, d6, d7, d8, d9, d10, d11, df⟩ := hX3.out.box
    go_wp2_with fail
    refine (l4Add_spec (Cx.mk ts fin false) gt cap base _ S4 q4 z4 d ⟨4, 0, n2, n4, 0, 0⟩ _ hi4.out.fst hm5.out (pos_name hi4.out)).mono ?_
    rintro e w6 ⟨S6, q6, z6, rfl, i6, m6, s6⟩
    have hX0n : Hid (Bx gt S6 w6 _ _) := hX0.out.stp s6
    have hX1n : Hid (Bx gt S6 w6 _ _) := hX1.out.stp s6
    have hX2n : Hid (Bx gt S6 w6 _ _) := hX2.out.stp s6
    have hX3n : Hid (Bx gt S6 w6 _ _) := hX3.out.stp s6
    have ht6 : Hid (SB w.heap.size S w S6 w6) := ht5.out.step s6
    clear hX0 hX1 hX2 hX3 ht5
    have hX0 : Hid (Bx gt S6 w6 _ _) := hX0n
    have hX1 : Hid (Bx gt S6 w6 _ _) := hX1n
    have hX2 : Hid (Bx gt S6 w6 _ _) := hX2n
    have hX3 : Hid (Bx gt S6 w6 _ _) := hX3n
    clear hX0n hX1n hX2n hX3n
    have hm6 : Hid (Mem (Cx.mk ts fin false) gt cap base S6 q6 w6) := m6
    have hi6 : Hid (Is _ q6 z6) := i6
    clear i6 m6 s6 hm5
    clear d0 d1 d2 d3 d4 d5 d6 d7 d8 d9 d10 d11 df
    obtain ⟨b0, b1, b2, b3, b4, b5, b6, b7, b8, b9, b10, b11, bf⟩ := hX1.out.box
    unfold pv
    go_wp2
    refine bodyPost_ret (results_cell_row rfl _ _ (w.heap.size + 1) 59 _ (0, 0) _ rfl ((hX1.out.put _ _ _ _ _ _ _ _ _ _ _ _)).heap Tryz.underlying59 rfl (by kernel_rfl)) rfl ?_
    rw [HV.out, ← HQ.out, ← HNM.out, ← mem_bind' hi4.out hc]
    exact out_done rfl hi6.out (hm6.out.put hX1.out _ _ _ _ _ _ _ _ _ _ _ _) (ht6.out.put (by omega) _ _ _ _ _ _ _ _ _ _ _ _)
end Go.Proofs.YtoojlbaaekjjkaaGreat
