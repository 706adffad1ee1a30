/-
  What spec's l4Part, l4Product and l4Sum answer: the walks of the two loops, and the three together.
  What spec's l4Let and l4Fn answer: the walks.
-/
import Derived.Test.YtdbpknmoacjodaaCeSpecBoxToSpecParseI
namespace Go.Proofs.Ytdbpknmoacjodaa
open Go.RowKit Go.PlainAid

def PartOK (C : Cx) (gt cap base m : Nat) : Prop := ∀ (x : PR) (S : Sv) (q : PS) (z : Int) (d : Nat) (w : World), Is x q z → Mem C gt cap base S q w → (z < 0 → C.ts.length - q.pos < m) → d ≤ 20 →
  Calls Try.prog 212 #[pv C gt cap S q z d] w (Out C gt cap base (bd x (pE C .part d)) d S w)
def ProdOK (C : Cx) (gt cap base m : Nat) : Prop := ∀ (x : PR) (S : Sv) (q : PS) (z : Int) (d : Nat) (w : World), Is x q z → Mem C gt cap base S q w → (z < 0 → C.ts.length - q.pos < m) → d ≤ 20 →
  Calls Try.prog 202 #[pv C gt cap S q z d] w (Out C gt cap base (bd x (pE C .prod d)) d S w)
theorem SumOK.mono {C : Cx} {gt cap base m k : Nat} (h : SumOK C gt cap base m) (hk : k ≤ m) : SumOK C gt cap base k := fun x S q z d w h1 h2 h3 h4 => h x S q z d w h1 h2 (fun g => Nat.lt_of_lt_of_le (h3 g) hk) h4
theorem part_of {C : Cx} {gt cap base m : Nat} (hS : SumOK C gt cap base m) : PartOK C gt cap base (m + 1) := by
  intro x S q z d w hx hm hl hd
  by_cases hz : z < 0
  · obtain ⟨rfl, rfl⟩ := is_neg hx hz
    rw [bd_ok]
    have hS' : SumOK C gt cap base (C.ts.length - q.pos) := hS.mono (by have := hl hz; omega)
    cases hk : ((tokAt C q.pos).kind == 2) with
    | true => exact l4Part_num C gt cap base S q d w hm hk
    | false =>
      cases ho : isT C q.pos 4 cOpen with
      | true =>
        by_cases h20 : 20 ≤ d
        · exact l4Part_deep C gt cap base S q d w hm hk ho h20 hd
        · exact l4Part_open C gt cap base S q d w hm hk ho (by omega) hS'
      | false =>
        obtain ⟨ts, fin, scr⟩ := C
        cases scr with
        | true =>
          by_cases hp : q.pos < ts.length
          · cases hu : isT (Cx.mk ts fin true) q.pos 1 sUndef with
            | true => exact l4Part_undef_true ts fin gt cap base S q d w hm hk ho hp hu
            | false =>
              cases hn : plainB (Cx.mk ts fin true) q.pos false with
              | false => exact l4Part_none_true ts fin gt cap base S q d w hm hk ho hp hu hn
              | true =>
                cases hd : isT (Cx.mk ts fin true) (q.pos + 1) 4 cPoint with
                | false => exact l4Part_tail_true ts fin gt cap base S q d w hm hk ho hp hu hn hd
                | true => exact l4Part_member_true ts fin gt cap base S q d w hm hk ho hp hu hn hd
          · exact l4Part_end_true ts fin gt cap base S q d w hm hp
        | false =>
          by_cases hp : q.pos < ts.length
          · cases hn : plainB (Cx.mk ts fin false) q.pos false with
            | false => exact l4Part_none_false ts fin gt cap base S q d w hm hk ho hp hn
            | true =>
              cases hd : isT (Cx.mk ts fin false) (q.pos + 1) 4 cPoint with
              | false => exact l4Part_tail_false ts fin gt cap base S q d w hm hk ho hp hn hd
              | true => exact l4Part_member_false ts fin gt cap base S q d w hm hk ho hp hn hd
          · exact l4Part_end_false ts fin gt cap base S q d w hm hp
  · obtain ⟨e, rfl, rfl⟩ := is_bad hx hz
    rw [bd_error]
    obtain ⟨ts, fin, scr⟩ := C
    cases scr with
    | true => exact l4Part_bad_true ts fin gt cap base S q d w hm e
    | false => exact l4Part_bad_false ts fin gt cap base S q d w hm e
theorem add_with {C : Cx} {x : PR} {q : PS} {z : Int} (h : Is x q z) (F : PS → Ex) : bd x (addEx C (F q)) = bd x fun q' => addEx C (F q') q' := by
  cases x with
  | ok a => obtain ⟨rfl, _⟩ := h; rfl
  | error e => rfl
theorem addEx_pos {C : Cx} {y : PS → Ex} {x : PR} {q : PS} {n : Nat} (hx : ∀ a, x = .ok a → n ≤ a.pos) (h : (bd x fun q' => addEx C (y q') q') = .ok q) : n ≤ q.pos := by
  obtain ⟨a, h1, h2⟩ := bd_eq_ok h
  obtain ⟨rfl, _⟩ := addEx_ok h2
  exact hx a h1

theorem part_left {C : Cx} {d m : Nat} {x : PR} {q q1 : PS} {z z1 : Int} (hx : Is x q z) (h1 : Is (bd x (pE C .part d)) q1 z1) (hl : z < 0 → C.ts.length - q.pos < m) (hz : z1 < 0) : C.ts.length - q1.pos < m := by
  obtain ⟨e, _⟩ := is_neg h1 hz
  obtain ⟨a, e1, e2⟩ := bd_eq_ok e
  subst e1
  obtain ⟨rfl, rfl⟩ := hx
  have := pE_pos e2
  have := hl (by decide)
  omega
theorem prod_left {C : Cx} {d m : Nat} {x : PR} {q q1 : PS} {z z1 : Int} (hx : Is x q z) (h1 : Is (bd x (pE C .prod d)) q1 z1) (hl : z < 0 → C.ts.length - q.pos < m) (hz : z1 < 0) : C.ts.length - q1.pos < m := by
  obtain ⟨e, _⟩ := is_neg h1 hz
  obtain ⟨a, e1, e2⟩ := bd_eq_ok e
  subst e1
  obtain ⟨rfl, rfl⟩ := hx
  have := pE_pos e2
  have := hl (by decide)
  omega
theorem part_pos1 {C : Cx} {d : Nat} {q2 q : PS} {z : Int} (h : Is (bd (.ok (adv q2)) (pE C .part d)) q z) (hz : z < 0) : 1 ≤ q.pos := by
  obtain ⟨e, _⟩ := is_neg h hz
  have := pE_pos (show pE C .part d (adv q2) = .ok q from e)
  rw [adv_pos] at this
  omega
theorem prod_pos1 {C : Cx} {d : Nat} {q2 q : PS} {z : Int} (h : Is (bd (.ok (adv q2)) (pE C .prod d)) q z) (hz : z < 0) : 1 ≤ q.pos := by
  obtain ⟨e, _⟩ := is_neg h hz
  have := pE_pos (show pE C .prod d (adv q2) = .ok q from e)
  rw [adv_pos] at this
  omega
theorem part_next {C : Cx} {d : Nat} {F : PS → Ex} {q2 q : PS} {z : Int} (h : Is (bd (bd (.ok (adv q2)) (pE C .part d)) fun q' => addEx C (F q') q') q z) (hz : z < 0) : q2.pos + 1 ≤ q.pos := by
  obtain ⟨e, _⟩ := is_neg h hz
  exact addEx_pos (fun a ha => by have := pE_pos (show pE C .part d (adv q2) = .ok a from ha); rw [adv_pos] at this; exact this) e
theorem prod_next {C : Cx} {d : Nat} {F : PS → Ex} {q2 q : PS} {z : Int} (h : Is (bd (bd (.ok (adv q2)) (pE C .prod d)) fun q' => addEx C (F q') q') q z) (hz : z < 0) : q2.pos + 1 ≤ q.pos := by
  obtain ⟨e, _⟩ := is_neg h hz
  exact addEx_pos (fun a ha => by have := pE_pos (show pE C .prod d (adv q2) = .ok a from ha); rw [adv_pos] at this; exact this) e
theorem step_l4Product {C : Cx} {d : Nat} {q : PS} (hs : isT C q.pos 4 cStar = true) (_ : q.pos < C.ts.length) :
    bd (.ok q) (pE C .prodT d) = bd (bd (bd (.ok (adv q)) (pE C .part d)) fun q' => addEx C ⟨8, 0, sNone, sNone, (q.ex.length : Int) - 1, (q'.ex.length : Int) - 1⟩ q') (pE C .prodT d) := by
  show pE C .prodT d q = _
  rw [pE_prodT, if_pos hs]
  rfl
theorem step_l4Sum {C : Cx} {d : Nat} {q : PS} {k : Int} (hs : (isT C q.pos 4 cPlus || isT C q.pos 4 cMinus) = true) (hk : kindPM C q.pos = k) (_ : q.pos < C.ts.length) :
    bd (.ok q) (pE C .sumT d) = bd (bd (bd (.ok (adv q)) (pE C .prod d)) fun q' => addEx C ⟨k, 0, sNone, sNone, (q.ex.length : Int) - 1, (q'.ex.length : Int) - 1⟩ q') (pE C .sumT d) := by
  show pE C .sumT d q = _
  rw [pE_sumT, if_pos hs, hk]
  rfl
theorem stop_l4Product {C : Cx} {d : Nat} {x : PR} {q : PS} {z : Int} (hi : Is x q z) (hc : (decide (z < 0) && isT C q.pos 4 cStar) = false) : Is (bd x (pE C .prodT d)) q z := by
  cases x with
  | ok a =>
    obtain ⟨rfl, rfl⟩ := hi
    rw [Bool.and_eq_false_iff] at hc
    rw [bd_ok, pE_prodT, hc.resolve_left (by decide)]
    exact ⟨rfl, rfl⟩
  | error e => exact hi
theorem stop_l4Sum {C : Cx} {d : Nat} {x : PR} {q : PS} {z : Int} (hi : Is x q z) (hc : (decide (z < 0) && isT C q.pos 4 cPlus) = false) (hc2 : (decide (z < 0) && isT C q.pos 4 cMinus) = false) : Is (bd x (pE C .sumT d)) q z := by
  cases x with
  | ok a =>
    obtain ⟨rfl, rfl⟩ := hi
    rw [Bool.and_eq_false_iff] at hc hc2
    rw [bd_ok, pE_sumT, hc.resolve_left (by decide), hc2.resolve_left (by decide)]
    exact ⟨rfl, rfl⟩
  | error e => exact hi
theorem plus_minus {C : Cx} {i : Nat} (h : isT C i 4 cPlus = true) : isT C i 4 cMinus = false := by
  simp only [isT, Bool.and_eq_true, beq_iff_eq] at h
  simp only [isT, h.2]
  rw [Bool.and_eq_false_iff]
  exact .inr (by simp)
set_option maxRecDepth 100000 in
set_option maxHeartbeats 6400000 in
theorem prod_of {C : Cx} {gt cap base m : Nat} (hP : PartOK C gt cap base m) : ProdOK C gt cap base m := by
  intro x S q z d w hx hm hl hd20
  have HP := hidI hP
  have HM := hidI hm
  have HX := hidI hx
  have HL := hidI hl
  have hfew := hm.few
  clear hP hm hx hl
  unfold pv
  go_enter Try.func202, Try.ntmps202
  go_wp2_with fail
  refine (HP.out x S q z d _ HX.out ((HM.out.alloc _).alloc _) HL.out hd20).mono ?_
  rintro e w1 ⟨S1, q1, z1, rfl, hi1, m1, s1⟩
  have F := HM.out.fm2 m1 s1
  have ab := F.x0.boxC
  unfold pv
  go_wp2
  go_loopg [] (C.ts.length + 1) (fun k wr => ∃ (x' : PR) (S' : Sv) (q' : PS) (z' : Int), Is x' q' z' ∧ bd x' (pE C .prodT d) = bd x (pE C .prod d) ∧ (z' < 0 → C.ts.length - q'.pos < k) ∧ (z' < 0 → C.ts.length - q'.pos < m) ∧ Mem C gt cap base S' q' wr ∧ SB w.heap.size S w S' wr ∧ Bx gt S' wr w.heap.size #[.slice (some ⟨gt, 0, none⟩) C.ts.length cap, .int .i64 q'.pos, .int .i64 C.fin, .bool C.scr, .slice S'.rq.a q'.rq.length S'.rq.cap, .slice S'.im.a q'.im.length S'.im.cap, .slice S'.ep.a q'.ep.length S'.ep.cap, .slice S'.st.a q'.st.length S'.st.cap, .slice S'.ex.a q'.ex.length S'.ex.cap, .slice S'.la.a q'.la.length S'.la.cap, .int .i64 z', .int .i64 d] ∧ Bx gt S' wr (w.heap.size + 1) #[.slice none 0 0, .int .i64 0, .int .i64 0, .bool false, .slice none 0 0, .slice none 0 0, .slice none 0 0, .slice none 0 0, .slice none 0 0, .slice none 0 0, .int .i64 0, .int .i64 0])
  case atStart => exact ⟨_, S1, q1, z1, hi1.out, by rw [bd_bd]; exact bd_congr fun a _ => (pE_prod C d a).symm, fun _ => by omega, fun hz => part_left HX.out hi1.out HL.out hz, (F.put0 _ _ _ _ _ _ _ _ _ _ _ _).m, (F.put0 _ _ _ _ _ _ _ _ _ _ _ _).t, (F.put0 _ _ _ _ _ _ _ _ _ _ _ _).x0, (F.put0 _ _ _ _ _ _ _ _ _ _ _ _).x1⟩
  case round =>
    obtain ⟨x2, S2, q2, z2, i2, e2, l2, b2, m2, t2, X0, X1⟩ := hrel
    have F := Fm.of2 X0 X1 m2 t2 (by omega) (by omega) (by omega)
    have hi2 := hidI i2
    have he2 := hidI e2
    have hl2 := hidI l2
    have hb2 := hidI b2
    have hex := m2.inv.ex
    clear X0 X1 i2 m2 t2 e2 l2 b2
    cases hc : (decide (z2 < 0) && isT C q2.pos 4 cStar) with
    | true =>
      have ab := F.x0.boxC
      go_wp2_with fail
      refine (is_spec C gt cap base S2 q2 z2 d 4 cStar _ F.m.tok hfew (by decide)).mono ?_
      rintro e w3 ⟨rfl, hb3⟩
      rw [hc]
      replace F := F.below hb3
      clear ab
      rw [Bool.and_eq_true, decide_eq_true_eq] at hc
      obtain ⟨hz, hs⟩ := hc
      have hp : q2.pos < C.ts.length := isT_lt hs (by decide)
      obtain ⟨rfl, rfl⟩ := is_neg hi2.out hz
      have hln := hl2.out hz
      have hbn := hb2.out hz
      skip
      have ab := F.x0.boxC
      go_wp2_with fail
      refine (HP.out (.ok (adv q2)) S2 (adv q2) (-1) d _ (is_ok _) ((F.adv hp).set0_1 _).m (fun _ => by rw [adv_pos]; omega) hd20).mono ?_
      rintro e w4 ⟨S4, q4, z4, rfl, hi4, m4, s4⟩
      replace F := (F.set0_1 _).stp m4 s4
      clear ab
      have ab := F.x0.boxC
      unfold pv
      go_upto_region 6 with fail
      refine (F.put0 _ _ _ _ _ _ _ _ _ _ _ _).cut ?_
      clear ab
      intro w5 F
      have ab := F.x0.boxC
      have hex3 := F.m.inv.ex
      go_wp2_with fail
      refine (l4Add_spec C gt cap base _ S4 q4 z4 d ⟨8, 0, sNone, sNone, (q2.ex.length : Int) - 1, (q4.ex.length : Int) - 1⟩ _ hi4.out F.m (fun h => part_pos1 hi4.out h)).mono ?_
      rintro e w6 ⟨S6, q6, z6, rfl, hi6, m6, s6⟩
      replace F := F.stp m6 s6
      clear ab
      have HI : Hid (Is (bd (bd (.ok (adv q2)) (pE C .part d)) fun q' => addEx C ⟨8, 0, sNone, sNone, (q2.ex.length : Int) - 1, (q'.ex.length : Int) - 1⟩ q') q6 z6) := by rw [← add_with hi4.out (fun q' => ⟨8, 0, sNone, sNone, (q2.ex.length : Int) - 1, (q'.ex.length : Int) - 1⟩)]; exact hi6.out
      have HPOS : Hid (z6 < 0 → q2.pos + 1 ≤ q6.pos) := fun h => part_next HI.out h
      have ab := F.x0.boxC
      unfold pv
      go_wp2
      go_roundg (gk - 1)
      case rel => exact ⟨_, S6, q6, z6, HI.out, by rw [← he2.out]; exact (step_l4Product (d := d) hs hp).symm, fun h => by have := HPOS.out h; omega, fun h => by have := HPOS.out h; omega, (F.put0 _ _ _ _ _ _ _ _ _ _ _ _).m, (F.put0 _ _ _ _ _ _ _ _ _ _ _ _).t, (F.put0 _ _ _ _ _ _ _ _ _ _ _ _).x0, (F.put0 _ _ _ _ _ _ _ _ _ _ _ _).x1⟩
      case measure => omega
    | false =>
      have ab := F.x0.boxC
      go_wp2_with fail
      refine (is_spec C gt cap base S2 q2 z2 d 4 cStar _ F.m.tok hfew (by decide)).mono ?_
      rintro e w3 ⟨rfl, hb3⟩
      rw [hc]
      replace F := F.below hb3
      clear ab
      have ab := F.x0.boxC
      obtain ⟨b0, b1, b2, b3, b4, b5, b6, b7, b8, b9, b10, b11, bf⟩ := F.x1.box
      go_wp2
      refine (F.x1.put _ _ _ _ _ _ _ _ _ _ _ _).ret rfl rfl ?_
      exact (F.put1 _ _ _ _ _ _ _ _ _ _ _ _).done rfl (show Is (bd x (pE C .prod d)) q2 z2 from by rw [← he2.out]; exact stop_l4Product hi2.out hc)
set_option maxRecDepth 100000 in
set_option maxHeartbeats 6400000 in
theorem sum_of {C : Cx} {gt cap base m : Nat} (hP : ProdOK C gt cap base m) : SumOK C gt cap base m := by
  intro x S q z d w hx hm hl hd20
  have HP := hidI hP
  have HM := hidI hm
  have HX := hidI hx
  have HL := hidI hl
  have hfew := hm.few
  clear hP hm hx hl
  unfold pv
  go_enter Try.func172, Try.ntmps172
  go_wp2_with fail
  refine (HP.out x S q z d _ HX.out ((HM.out.alloc _).alloc _) HL.out hd20).mono ?_
  rintro e w1 ⟨S1, q1, z1, rfl, hi1, m1, s1⟩
  have F := HM.out.fm2 m1 s1
  have ab := F.x0.boxC
  unfold pv
  go_wp2
  go_loopg [] (C.ts.length + 1) (fun k wr => ∃ (x' : PR) (S' : Sv) (q' : PS) (z' : Int), Is x' q' z' ∧ bd x' (pE C .sumT d) = bd x (pE C .sum d) ∧ (z' < 0 → C.ts.length - q'.pos < k) ∧ (z' < 0 → C.ts.length - q'.pos < m) ∧ Mem C gt cap base S' q' wr ∧ SB w.heap.size S w S' wr ∧ Bx gt S' wr w.heap.size #[.slice (some ⟨gt, 0, none⟩) C.ts.length cap, .int .i64 q'.pos, .int .i64 C.fin, .bool C.scr, .slice S'.rq.a q'.rq.length S'.rq.cap, .slice S'.im.a q'.im.length S'.im.cap, .slice S'.ep.a q'.ep.length S'.ep.cap, .slice S'.st.a q'.st.length S'.st.cap, .slice S'.ex.a q'.ex.length S'.ex.cap, .slice S'.la.a q'.la.length S'.la.cap, .int .i64 z', .int .i64 d] ∧ Bx gt S' wr (w.heap.size + 1) #[.slice none 0 0, .int .i64 0, .int .i64 0, .bool false, .slice none 0 0, .slice none 0 0, .slice none 0 0, .slice none 0 0, .slice none 0 0, .slice none 0 0, .int .i64 0, .int .i64 0])
  case atStart => exact ⟨_, S1, q1, z1, hi1.out, by rw [bd_bd]; exact bd_congr fun a _ => (pE_sum C d a).symm, fun _ => by omega, fun hz => prod_left HX.out hi1.out HL.out hz, (F.put0 _ _ _ _ _ _ _ _ _ _ _ _).m, (F.put0 _ _ _ _ _ _ _ _ _ _ _ _).t, (F.put0 _ _ _ _ _ _ _ _ _ _ _ _).x0, (F.put0 _ _ _ _ _ _ _ _ _ _ _ _).x1⟩
  case round =>
    obtain ⟨x2, S2, q2, z2, i2, e2, l2, b2, m2, t2, X0, X1⟩ := hrel
    have F := Fm.of2 X0 X1 m2 t2 (by omega) (by omega) (by omega)
    have hi2 := hidI i2
    have he2 := hidI e2
    have hl2 := hidI l2
    have hb2 := hidI b2
    have hex := m2.inv.ex
    clear X0 X1 i2 m2 t2 e2 l2 b2
    cases hc : (decide (z2 < 0) && isT C q2.pos 4 cPlus) with
    | true =>
      have ab := F.x0.boxC
      go_wp2_with fail
      refine (is_spec C gt cap base S2 q2 z2 d 4 cPlus _ F.m.tok hfew (by decide)).mono ?_
      rintro e w3 ⟨rfl, hb3⟩
      rw [hc]
      replace F := F.below hb3
      clear ab
      rw [Bool.and_eq_true, decide_eq_true_eq] at hc
      obtain ⟨hz, hs⟩ := hc
      have hmi : isT C q2.pos 4 cMinus = false := plus_minus hs
      have hc2 : (decide (z2 < 0) && isT C q2.pos 4 cMinus) = false := by rw [hmi, Bool.and_false]
      have ab := F.x0.boxC
      go_wp2_with fail
      refine (is_spec C gt cap base S2 q2 z2 d 4 cMinus _ F.m.tok hfew (by decide)).mono ?_
      rintro e w4 ⟨rfl, hb4⟩
      rw [hc2]
      replace F := F.below hb4
      clear ab
      clear hc2
      have hp : q2.pos < C.ts.length := isT_lt hs (by decide)
      obtain ⟨rfl, rfl⟩ := is_neg hi2.out hz
      have hln := hl2.out hz
      have hbn := hb2.out hz
      skip
      have ab := F.x0.boxC
      go_wp2_with fail
      refine (HP.out (.ok (adv q2)) S2 (adv q2) (-1) d _ (is_ok _) ((F.adv hp).set0_1 _).m (fun _ => by rw [adv_pos]; omega) hd20).mono ?_
      rintro e w5 ⟨S5, q5, z5, rfl, hi5, m5, s5⟩
      replace F := (F.set0_1 _).stp m5 s5
      clear ab
      have ab := F.x0.boxC
      unfold pv
      go_upto_region 9 with fail
      refine (F.put0 _ _ _ _ _ _ _ _ _ _ _ _).cut ?_
      clear ab
      intro w6 F
      have ab := F.x0.boxC
      have hex3 := F.m.inv.ex
      go_wp2_with fail
      refine (l4Add_spec C gt cap base _ S5 q5 z5 d ⟨6, 0, sNone, sNone, (q2.ex.length : Int) - 1, (q5.ex.length : Int) - 1⟩ _ hi5.out F.m (fun h => prod_pos1 hi5.out h)).mono ?_
      rintro e w7 ⟨S7, q7, z7, rfl, hi7, m7, s7⟩
      replace F := F.stp m7 s7
      clear ab
      have HI : Hid (Is (bd (bd (.ok (adv q2)) (pE C .prod d)) fun q' => addEx C ⟨6, 0, sNone, sNone, (q2.ex.length : Int) - 1, (q'.ex.length : Int) - 1⟩ q') q7 z7) := by rw [← add_with hi5.out (fun q' => ⟨6, 0, sNone, sNone, (q2.ex.length : Int) - 1, (q'.ex.length : Int) - 1⟩)]; exact hi7.out
      have HPOS : Hid (z7 < 0 → q2.pos + 1 ≤ q7.pos) := fun h => prod_next HI.out h
      have ab := F.x0.boxC
      unfold pv
      go_wp2
      go_roundg (gk - 1)
      case rel => exact ⟨_, S7, q7, z7, HI.out, by rw [← he2.out]; exact (step_l4Sum (d := d) (by rw [hs]; rfl) (show kindPM C q2.pos = 6 by rw [kindPM, hmi]; rfl) hp).symm, fun h => by have := HPOS.out h; omega, fun h => by have := HPOS.out h; omega, (F.put0 _ _ _ _ _ _ _ _ _ _ _ _).m, (F.put0 _ _ _ _ _ _ _ _ _ _ _ _).t, (F.put0 _ _ _ _ _ _ _ _ _ _ _ _).x0, (F.put0 _ _ _ _ _ _ _ _ _ _ _ _).x1⟩
      case measure => omega
    | false =>
      have ab := F.x0.boxC
      go_wp2_with fail
      refine (is_spec C gt cap base S2 q2 z2 d 4 cPlus _ F.m.tok hfew (by decide)).mono ?_
      rintro e w3 ⟨rfl, hb3⟩
      rw [hc]
      replace F := F.below hb3
      clear ab
      cases hc2 : (decide (z2 < 0) && isT C q2.pos 4 cMinus) with
      | true =>
        have ab := F.x0.boxC
        go_wp2_with fail
        refine (is_spec C gt cap base S2 q2 z2 d 4 cMinus _ F.m.tok hfew (by decide)).mono ?_
        rintro e w4 ⟨rfl, hb4⟩
        rw [hc2]
        replace F := F.below hb4
        clear ab
        have ab := F.x0.boxC
        go_wp2_with fail
        refine (is_spec C gt cap base S2 q2 z2 d 4 cMinus _ F.m.tok hfew (by decide)).mono ?_
        rintro e w5 ⟨rfl, hb5⟩
        rw [hc2]
        replace F := F.below hb5
        clear ab
        rw [Bool.and_eq_true, decide_eq_true_eq] at hc2
        obtain ⟨hz, hs⟩ := hc2
        have hp : q2.pos < C.ts.length := isT_lt hs (by decide)
        obtain ⟨rfl, rfl⟩ := is_neg hi2.out hz
        have hln := hl2.out hz
        have hbn := hb2.out hz
        skip
        have ab := F.x0.boxC
        go_wp2_with fail
        refine (HP.out (.ok (adv q2)) S2 (adv q2) (-1) d _ (is_ok _) ((F.adv hp).set0_1 _).m (fun _ => by rw [adv_pos]; omega) hd20).mono ?_
        rintro e w6 ⟨S6, q6, z6, rfl, hi6, m6, s6⟩
        replace F := (F.set0_1 _).stp m6 s6
        clear ab
        have ab := F.x0.boxC
        unfold pv
        go_upto_region 9 with fail
        refine (F.put0 _ _ _ _ _ _ _ _ _ _ _ _).cut ?_
        clear ab
        intro w7 F
        have ab := F.x0.boxC
        have hex3 := F.m.inv.ex
        go_wp2_with fail
        refine (l4Add_spec C gt cap base _ S6 q6 z6 d ⟨7, 0, sNone, sNone, (q2.ex.length : Int) - 1, (q6.ex.length : Int) - 1⟩ _ hi6.out F.m (fun h => prod_pos1 hi6.out h)).mono ?_
        rintro e w8 ⟨S8, q8, z8, rfl, hi8, m8, s8⟩
        replace F := F.stp m8 s8
        clear ab
        have HI : Hid (Is (bd (bd (.ok (adv q2)) (pE C .prod d)) fun q' => addEx C ⟨7, 0, sNone, sNone, (q2.ex.length : Int) - 1, (q'.ex.length : Int) - 1⟩ q') q8 z8) := by rw [← add_with hi6.out (fun q' => ⟨7, 0, sNone, sNone, (q2.ex.length : Int) - 1, (q'.ex.length : Int) - 1⟩)]; exact hi8.out
        have HPOS : Hid (z8 < 0 → q2.pos + 1 ≤ q8.pos) := fun h => prod_next HI.out h
        have ab := F.x0.boxC
        unfold pv
        go_wp2
        go_roundg (gk - 1)
        case rel => exact ⟨_, S8, q8, z8, HI.out, by rw [← he2.out]; exact (step_l4Sum (d := d) (by rw [hs, Bool.or_true]) (show kindPM C q2.pos = 7 by rw [kindPM, hs]; rfl) hp).symm, fun h => by have := HPOS.out h; omega, fun h => by have := HPOS.out h; omega, (F.put0 _ _ _ _ _ _ _ _ _ _ _ _).m, (F.put0 _ _ _ _ _ _ _ _ _ _ _ _).t, (F.put0 _ _ _ _ _ _ _ _ _ _ _ _).x0, (F.put0 _ _ _ _ _ _ _ _ _ _ _ _).x1⟩
        case measure => omega
      | false =>
        have ab := F.x0.boxC
        go_wp2_with fail
        refine (is_spec C gt cap base S2 q2 z2 d 4 cMinus _ F.m.tok hfew (by decide)).mono ?_
        rintro e w4 ⟨rfl, hb4⟩
        rw [hc2]
        replace F := F.below hb4
        clear ab
        have ab := F.x0.boxC
        obtain ⟨b0, b1, b2, b3, b4, b5, b6, b7, b8, b9, b10, b11, bf⟩ := F.x1.box
        go_wp2
        refine (F.x1.put _ _ _ _ _ _ _ _ _ _ _ _).ret rfl rfl ?_
        exact (F.put1 _ _ _ _ _ _ _ _ _ _ _ _).done rfl (show Is (bd x (pE C .sum d)) q2 z2 from by rw [← he2.out]; exact stop_l4Sum hi2.out hc hc2)
theorem part_zero (C : Cx) (gt cap base : Nat) : PartOK C gt cap base 0 := by
  intro x S q z d w hx hm hl hd
  by_cases hz : z < 0
  · have := hl hz
    omega
  · obtain ⟨e, rfl, rfl⟩ := is_bad hx hz
    rw [bd_error]
    obtain ⟨ts, fin, scr⟩ := C
    cases scr with
    | true => exact l4Part_bad_true ts fin gt cap base S q d w hm e
    | false => exact l4Part_bad_false ts fin gt cap base S q d w hm e
theorem sum_all (C : Cx) (gt cap base : Nat) (m : Nat) : SumOK C gt cap base m := by
  induction m with
  | zero => exact sum_of (prod_of (part_zero C gt cap base))
  | succ m ih => exact sum_of (prod_of (part_of ih))
theorem l4Sum_spec (C : Cx) (gt cap base : Nat) (x : PR) (S : Sv) (q : PS) (z : Int) (w : World) (hx : Is x q z) (hm : Mem C gt cap base S q w) :
    Calls Try.prog 172 #[pv C gt cap S q z 0] w (Out C gt cap base (bd x (pE C .sum 0)) 0 S w) :=
  sum_all C gt cap base (C.ts.length + 1) x S q z 0 w hx hm (fun _ => by omega) (by omega)

end Go.Proofs.Ytdbpknmoacjodaa
namespace Go.Proofs.Ytdbpknmoacjodaa
open Go.RowKit Go.PlainAid

theorem Is2.withN {y : PRN} {q q' : PS} {z z' : Int} {n : ByteArray} {F : PR → ByteArray → PR} (h : Is2 y q z n) (hF : ∀ e n, F (.error e) n = .error e) (h' : Is (F (fstP y) n) q' z') : Is2 (withN y F) q' z' n := by
  cases y with
  | ok a =>
    obtain ⟨_, _, rfl⟩ := h
    have e : fstP (.ok a) = .ok a.1 := rfl
    rw [e] at h'
    show Is2 (bd (F (.ok a.1) a.2) fun q => .ok (q, a.2)) q' z' a.2
    cases hr : F (.ok a.1) a.2 with
    | ok b => rw [hr] at h'; exact ⟨h'.1, h'.2, rfl⟩
    | error e => rw [hr] at h'; exact h'
  | error e =>
    have e1 : fstP (.error e) = .error e := rfl
    rw [e1, hF] at h'
    exact h'
theorem out2_done {C : Cx} {gt cap base : Nat} {y : PRN} {d : Nat} {S S' : Sv} {w w' : World} {q' : PS} {z' : Int} {n' : ByteArray} {v : Value} (hv : v = pv C gt cap S' q' z' d) (hi : Is2 y q' z' n') (hm : Mem C gt cap base S' q' w') (hs : SB w.heap.size S w S' w') : Out2 C gt cap base y d S w (.returned (.tuple #[v, .string n'])) w' :=
  ⟨S', q', z', n', by rw [hv], hi, hm, hs.done⟩
set_option maxRecDepth 100000 in
set_option maxHeartbeats 6400000 in
theorem l4Let_spec (C : Cx) (gt cap base : Nat) (S : Sv) (q : PS) (w : World) (hm : Mem C gt cap base S q w) :
    Calls Try.prog 169 #[pv C gt cap S q (-1) 0] w (Out2 C gt cap base (letP C q) 0 S w) := by
  have HM := hidI hm
  clear hm
  unfold pv
  go_enter Try.func169, Try.ntmps169
  go_wp2_with fail
  refine (l4Word_spec C gt cap base (.ok q) S q (-1) 0 sLet _ (is_ok q) ((HM.out.alloc _).alloc _)).mono ?_
  rintro e w1 ⟨S1, q1, z1, rfl, hi1, m1, s1⟩
  have F := HM.out.fm2 m1 s1
  go_wp2_with fail
  refine (l4Name_spec C gt cap base _ S1 q1 z1 0 false _ hi1.out F.m).mono ?_
  rintro e w2 ⟨S2, q2, z2, n2, rfl, hi2, m2, s2⟩
  replace F := F.stp m2 s2
  have hlt2 : w.heap.size + 1 < w2.heap.size := F.x1.lt
  unfold pv
  go_wp2_with fail
  refine (l4Sign_spec C gt cap base _ S2 q2 z2 0 cEq _ hi2.out.fst (F.alloc _).m).mono ?_
  rintro e w3 ⟨S3, q3, z3, rfl, hi3, m3, s3⟩
  replace F := (F.new2 _).stp m3 s3
  go_wp2_with fail
  refine (l4Sum_spec C gt cap base _ S3 q3 z3 _ hi3.out F.m).mono ?_
  rintro e w4 ⟨S4, q4, z4, rfl, hi4, m4, s4⟩
  replace F := F.stp m4 s4
  go_wp2_with fail
  refine (l4Sign_spec C gt cap base _ S4 q4 z4 0 cSemi _ hi4.out F.m).mono ?_
  rintro e w5 ⟨S5, q5, z5, rfl, hi5, m5, s5⟩
  replace F := F.stp m5 s5
  have cb := F.x2.boxC
  unfold pv
  go_upto_region 3 with fail
  refine (F.put2 _ _ _ _ _ _ _ _ _ _ _ _).cut ?_
  clear cb
  intro w6 F
  have cb := F.x2.boxC
  go_wp2_with fail
  refine (l4Stmt_spec C gt cap base _ S5 q5 z5 0 1 n2 _ hi5.out F.m (pos_tok hi5.out)).mono ?_
  rintro e w7 ⟨S7, q7, z7, rfl, hi7, m7, s7⟩
  replace F := F.stp m7 s7
  clear cb
  have bb := F.x1.boxC
  unfold pv
  go_wp2
  refine bodyPost_ret (results_cell_row_tmp rfl _ _ (w.heap.size + 1) 164 _ (0, 0) _ rfl ((F.x1.put _ _ _ _ _ _ _ _ _ _ _ _)).heap Try.underlying164 rfl (by kernel_rfl)) rfl ?_
  exact out2_done rfl (hi2.out.withN (F := fun x n => _) (fun _ _ => rfl) hi7.out) (F.put1 _ _ _ _ _ _ _ _ _ _ _ _).m (F.put1 _ _ _ _ _ _ _ _ _ _ _ _).t
set_option maxRecDepth 100000 in
set_option maxHeartbeats 6400000 in
theorem l4Fn_spec (C : Cx) (gt cap base : Nat) (S : Sv) (q : PS) (w : World) (hm : Mem C gt cap base S q w) :
    Calls Try.prog 170 #[pv C gt cap S q (-1) 0] w (Out2 C gt cap base (fnP C q) 0 S w) := by
  have HM := hidI hm
  clear hm
  unfold pv
  go_enter Try.func170, Try.ntmps170
  go_wp2_with fail
  refine (l4Word_spec C gt cap base (.ok q) S q (-1) 0 sFunction _ (is_ok q) ((HM.out.alloc _).alloc _)).mono ?_
  rintro e w1 ⟨S1, q1, z1, rfl, hi1, m1, s1⟩
  have F := HM.out.fm2 m1 s1
  go_wp2_with fail
  refine (l4Name_spec C gt cap base _ S1 q1 z1 0 false _ hi1.out F.m).mono ?_
  rintro e w2 ⟨S2, q2, z2, n2, rfl, hi2, m2, s2⟩
  replace F := F.stp m2 s2
  have hlt2 : w.heap.size + 1 < w2.heap.size := F.x1.lt
  unfold pv
  go_wp2_with fail
  refine (l4Sign_spec C gt cap base _ S2 q2 z2 0 cOpen _ hi2.out.fst (F.alloc _).m).mono ?_
  rintro e w3 ⟨S3, q3, z3, rfl, hi3, m3, s3⟩
  replace F := (F.new2 _).stp m3 s3
  go_wp2_with fail
  refine (l4Sign_spec C gt cap base _ S3 q3 z3 0 cShut _ hi3.out F.m).mono ?_
  rintro e w4 ⟨S4, q4, z4, rfl, hi4, m4, s4⟩
  replace F := F.stp m4 s4
  go_wp2_with fail
  refine (l4Sign_spec C gt cap base _ S4 q4 z4 0 cLeft _ hi4.out F.m).mono ?_
  rintro e w5 ⟨S5, q5, z5, rfl, hi5, m5, s5⟩
  replace F := F.stp m5 s5
  have cb := F.x2.boxC
  unfold pv
  go_upto_region 3 with fail
  refine (F.put2 _ _ _ _ _ _ _ _ _ _ _ _).cut ?_
  clear cb
  intro w6 F
  have cb := F.x2.boxC
  go_wp2_with fail
  refine (l4Word_spec C gt cap base _ S5 q5 z5 0 sReturn _ hi5.out F.m).mono ?_
  rintro e w7 ⟨S7, q7, z7, rfl, hi7, m7, s7⟩
  replace F := F.stp m7 s7
  clear cb
  go_wp2_with fail
  refine (l4Sum_spec C gt cap base _ S7 q7 z7 _ hi7.out F.m).mono ?_
  rintro e w8 ⟨S8, q8, z8, rfl, hi8, m8, s8⟩
  replace F := F.stp m8 s8
  have cb := F.x2.boxC
  unfold pv
  go_upto_region 4 with fail
  refine (F.put2 _ _ _ _ _ _ _ _ _ _ _ _).cut ?_
  clear cb
  intro w9 F
  have cb := F.x2.boxC
  go_wp2_with fail
  refine (l4Sign_spec C gt cap base _ S8 q8 z8 0 cSemi _ hi8.out F.m).mono ?_
  rintro e w10 ⟨S10, q10, z10, rfl, hi10, m10, s10⟩
  replace F := F.stp m10 s10
  clear cb
  go_wp2_with fail
  refine (l4Sign_spec C gt cap base _ S10 q10 z10 0 cRight _ hi10.out F.m).mono ?_
  rintro e w11 ⟨S11, q11, z11, rfl, hi11, m11, s11⟩
  replace F := F.stp m11 s11
  have cb := F.x2.boxC
  unfold pv
  go_upto_region 5 with fail
  refine (F.put2 _ _ _ _ _ _ _ _ _ _ _ _).cut ?_
  clear cb
  intro w12 F
  have cb := F.x2.boxC
  go_wp2_with fail
  refine (l4Stmt_spec C gt cap base _ S11 q11 z11 0 2 n2 _ hi11.out F.m (pos_tok hi11.out)).mono ?_
  rintro e w13 ⟨S13, q13, z13, rfl, hi13, m13, s13⟩
  replace F := F.stp m13 s13
  clear cb
  have bb := F.x1.boxC
  unfold pv
  go_wp2
  refine bodyPost_ret (results_cell_row_tmp rfl _ _ (w.heap.size + 1) 164 _ (0, 0) _ rfl ((F.x1.put _ _ _ _ _ _ _ _ _ _ _ _)).heap Try.underlying164 rfl (by kernel_rfl)) rfl ?_
  exact out2_done rfl (hi2.out.withN (F := fun x n => _) (fun _ _ => rfl) hi13.out) (F.put1 _ _ _ _ _ _ _ _ _ _ _ _).m (F.put1 _ _ _ _ _ _ _ _ _ _ _ _).t
end Go.Proofs.Ytdbpknmoacjodaa
