/-
  What passSigns of impl's parser answers: the walk.
  'append' of one element onto a row of the call's own, as one step of a region that draws its order. No program is spoken of.
  What spec's readers of one token answer: l4Full, l4Sign, l4Word, l4Reserved, l4Plain, l4Name: the walks.
  What spec's l4Plain and l4Name answer: the walks.
  What spec's l4Add, l4Imp, l4Stmt and l4Exp answer: the walks.
  What addExpr of impl's parser answers where there is room: the walk.
  A row of impl's parser grows by one element; what addImp answers where there is room: the walk.
-/
import Derived.Deep.LoopGhost
import Derived.Test.YtdbpknmoacjodaaCfSpecLexAllToTokCells
namespace Go.Proofs.Ytdbpknmoacjodaa
open Go.RowKit Go.PlainAid Go.Sort

def signsP (C : Cx) (s : ByteArray) : Nat → Nat → PS → PR
  | 0, _, q => .ok q
  | n + 1, k, q => bd (tokP C 4 (s.extract k (k + 1)) q) (signsP C s n (k + 1))
theorem tok_fail {C : Cx} {k : Int} {x : ByteArray} {q : PS} (h : isT C q.pos k x = false) : tokP C k x q = .error (here C q.pos) := by rw [tokP, h]; rfl
theorem tok_pass {C : Cx} {k : Int} {x : ByteArray} {q : PS} (h : isT C q.pos k x = true) : tokP C k x q = .ok (adv q) := if_pos h
end Go.Proofs.Ytdbpknmoacjodaa
namespace Go.Proofs.Ytdbpknmoacjodaa
open Go.RowKit Go.PlainAid

theorem step_row {P : Program} {ops : Array Oper} {o : Oper} {a : Act} {W : World} {K : Act → World → Prop} {Q : Exit → Act → World → Prop} {E : Prop} (hgd : o.guard = none) (s x : Operand) (t : TypeId)
    (ho : o.op = .call { callee := .builtin .append, args := #[s, x], argTypes := #[t, t] })
    (base : Nat) (e : TypeId) (i : TypeInfo) (z : Value) (size bytes : Nat) (ht : P.underlying t = some (.slice e)) (hi : P.info? e = some i) (hz : i.zero = some z) (hsize : i.size = size) (hby : i.bytes = bytes) (hzs : z.cells.size = size) (hsz : 0 < size) (h100 : bytes ≤ 100)
    (r : Rw) (n : Nat) (xs : List Value) (hs : a.eval s = .slice r.a n r.cap) (hown : OwnR W base e size r n xs)
    (gx : Nat) (news : List Value) (hx : a.eval x = .slice (some ⟨gx, 0, none⟩) 1 1) (hg : W.heap[gx]? = some (.cells news.toArray e (0, 0))) (hl : news.length = size) (h1 : ∀ u ∈ news, u.oneCell' = true) (hn : n + 1 ≤ 4000000) (hbase : base ≤ W.heap.size)
    (h : ∀ r' w', OwnR w' base e size r' (n + 1) (xs ++ news) → W.grownBy w' r.blk → (r'.blk = r.blk ∨ r'.blk = some W.heap.size) → K (a.put o.dst (.slice r'.a (n + 1) r'.cap)) w') :
    if Region.wanted o (yielded ops a.tmps) = true then Oper.wp P o a W K Q else E := by
  have hw : Region.wanted o (yielded ops a.tmps) = true := by simp [Region.wanted, hgd]
  rw [if_pos hw]
  obtain ⟨v', w', hr, h2, h3, _, h5⟩ := run_append_own_at (P := P) W base t o.type e i z size bytes ht hi hz hsize hby hzs hsz _ n xs hown ⟨gx, 0, none⟩ 1 1 news (by omega) (by
    intro j u hj
    have e1 : (⟨gx, 0, none⟩ : Addr).add j = ⟨gx, j, none⟩ := by simp [Addr.add]; exact fun h => h.symm
    rw [e1]
    simp [World.cell?, hg, hj]) h1 (by unfold maxLen; omega) (by have : (n + 1) * bytes ≤ 4000000 * 100 := Nat.mul_le_mul hn h100; omega) hbase
  unfold Oper.wp execOp
  simp only [ho, resolve, invoke, builtin, Sem.run_bind, Sem.run_pure, Result.andThen_ok, List.map_toArray, List.map_cons, List.map_nil, hs, hx, hr]
  rcases h2.2 with ⟨hv, hn0⟩ | ⟨g', cap', cur, rfl, hrest⟩
  · omega
  · refine h ⟨some ⟨g', 0, none⟩, cap'⟩ w' h2 ?_ ?_
    · rw [← blk_any r n]; exact h3
    · rw [← blk_any r n, ← blk_any ⟨some ⟨g', 0, none⟩, cap'⟩ (n + 1)]; exact h5
end Go.Proofs.Ytdbpknmoacjodaa
namespace Go.Proofs.Ytdbpknmoacjodaa
open Go.RowKit Go.PlainAid

def Is (x : PR) (q : PS) (z : Int) : Prop :=
  match x with
  | .ok q0 => q = q0 ∧ z = -1
  | .error e => z = (e : Int)
theorem is_ok (q : PS) : Is (.ok q) q (-1) := ⟨rfl, rfl⟩
theorem is_neg {x : PR} {q : PS} {z : Int} (h : Is x q z) (hz : z < 0) : x = .ok q ∧ z = -1 := by
  cases x with
  | ok q0 => obtain ⟨rfl, rfl⟩ := h; exact ⟨rfl, rfl⟩
  | error e => have : z = (e : Int) := h; omega
theorem is_bad {x : PR} {q : PS} {z : Int} (h : Is x q z) (hz : ¬ z < 0) : ∃ e, x = .error e ∧ z = (e : Int) := by
  cases x with
  | ok q0 => obtain ⟨rfl, rfl⟩ := h; exact absurd (by decide) hz
  | error e => exact ⟨e, rfl, h⟩
def Out (C : Cx) (gt cap base : Nat) (y : PR) (d : Nat) (S : Sv) (w : World) (e : Ending) (w' : World) : Prop :=
  ∃ S' q' z', e = .returned (pv C gt cap S' q' z' d) ∧ Hid (Is y q' z') ∧ Mem C gt cap base S' q' w' ∧ Stp S w S' w'
theorem out_below {C : Cx} {gt cap base : Nat} {y : PR} {d : Nat} {S : Sv} {w w' : World} {q' : PS} {z' : Int} {v : Value} (hv : v = pv C gt cap S q' z' d) (hi : Is y q' z') (hm : Mem C gt cap base S q' w) (hb : Below w.heap.size w w') : Out C gt cap base y d S w (.returned v) w' :=
  ⟨S, q', z', by rw [hv], hi, hm.later hb, Stp.below hb⟩

set_option maxRecDepth 100000 in
set_option maxHeartbeats 1600000 in
theorem l4Full_spec (C : Cx) (gt cap base : Nat) (S : Sv) (q : PS) (z : Int) (d : Nat) (w : World) (hm : Mem C gt cap base S q w) (hz : z < 0) (hp : 1 ≤ q.pos) :
    Calls Try.prog 204 #[pv C gt cap S q z d] w fun e w' => e = .returned (pv C gt cap S q (here C (q.pos - 1)) d) ∧ Below w.heap.size w w' := by
  obtain ⟨p, hp1⟩ : ∃ p, q.pos = p + 1 := ⟨q.pos - 1, by omega⟩
  have hlt : p < C.ts.length := by have := hm.inv.pos; omega
  have hfew := hm.few
  obtain ⟨_, _, _, c3⟩ := hm.tok.cells hlt (d := ⟨0, sNone, 0, C.fin⟩)
  have hglt := (ownT_lt hm.tok).1
  change _ = some (Value.int .i64 (here C p)) at c3
  rw [show q.pos - 1 = p from by omega]
  have hpi : (q.pos : Int) - 1 = p := by omega
  clear hp1
  unfold pv
  go_enter Try.func204, Try.ntmps204
  go_wp2
  refine bodyPost_ret (results_cell_row rfl _ _ (w.heap.size + 1) 164 _ (0, 0) _ rfl (new2 w _ _) Try.underlying164 rfl (by kernel_rfl)) rfl ?_
  exact ⟨rfl, below2 w _ _⟩

set_option maxRecDepth 100000 in
set_option maxHeartbeats 1600000 in
theorem l4Sign_spec (C : Cx) (gt cap base : Nat) (x : PR) (S : Sv) (q : PS) (z : Int) (d : Nat) (s : ByteArray) (w : World) (hx : Is x q z) (hm : Mem C gt cap base S q w) :
    Calls Try.prog 171 #[pv C gt cap S q z d, .string s] w (Out C gt cap base (bd x (tokP C 4 s)) d S w) := by
  have HM := hidI hm
  have htok := hm.tok
  have hfew := hm.few
  have HX := hidI hx
  clear hx hm
  cases hi : (decide (z < 0) && isT C q.pos 4 s) with
  | true =>
    have hlt : q.pos < C.ts.length := by rw [Bool.and_eq_true] at hi; exact isT_lt hi.2 (by decide)
    have HY : Hid (Is (bd x (tokP C 4 s)) (adv q) z) := by
      rw [Bool.and_eq_true, decide_eq_true_eq] at hi
      obtain ⟨h1, h2⟩ := is_neg HX.out hi.1
      show Is (bd x (tokP C 4 s)) (adv q) z
      rw [h1, bd_ok, tokP, if_pos hi.2]
      exact ⟨rfl, h2⟩
    unfold pv
    go_enter Try.func171, Try.ntmps171
    go_wp2_with fail
    refine (is_spec C gt cap base S q z d 4 s _ (ownT_alloc (ownT_alloc htok _) _) hfew (by decide)).mono ?_
    rintro e w1 ⟨rfl, hb⟩
    rw [hi]
    obtain ⟨g1, g2⟩ := two_new hb
    obtain ⟨a0, a1, a2, a3, a4, a5, a6, a7, a8, a9, a10, a11, af⟩ := box_of g1
    obtain ⟨b0, b1, b2, b3, b4, b5, b6, b7, b8, b9, b10, b11, bf⟩ := box_of g2
    have G2 := hidI g2
    clear g1 g2 hi
    go_wp2
    refine bodyPost_ret (results_cell_row rfl _ _ (w.heap.size + 1) 164 _ (0, 0) _ rfl (put12 ((pother (by omega)).trans G2.out)) Try.underlying164 rfl (by kernel_rfl)) rfl ?_
    exact out_below rfl HY.out (HM.out.adv hlt) (below12 ((two_below hb).setCell (Nat.le_refl _) _) (Nat.le_succ _) _ _ _ _ _ _ _ _ _ _ _ _)
  | false =>
    have HY : Hid (Is (bd x (tokP C 4 s)) q (badOf C q.pos z)) := by
      show Is (bd x (tokP C 4 s)) q (badOf C q.pos z)
      unfold badOf
      by_cases hz : z < 0
      · obtain ⟨h1, h2⟩ := is_neg HX.out hz
        simp only [hz, decide_true, Bool.true_and] at hi
        rw [h1, bd_ok, tokP, hi, if_pos hz]
        rfl
      · obtain ⟨e, h1, h2⟩ := is_bad HX.out hz
        rw [h1, bd_error, if_neg hz]
        exact h2
    unfold pv
    go_enter Try.func171, Try.ntmps171
    go_wp2_with fail
    refine (is_spec C gt cap base S q z d 4 s _ (ownT_alloc (ownT_alloc htok _) _) hfew (by decide)).mono ?_
    rintro e w1 ⟨rfl, hb⟩
    rw [hi]
    obtain ⟨g1, g2⟩ := two_new hb
    obtain ⟨a0, a1, a2, a3, a4, a5, a6, a7, a8, a9, a10, a11, af⟩ := box_of g1
    obtain ⟨b0, b1, b2, b3, b4, b5, b6, b7, b8, b9, b10, b11, bf⟩ := box_of g2
    have G2 := hidI g2
    have htok1 := ownT_later htok (two_below hb)
    clear g1 g2 hi
    go_wp2_with fail
    refine (fail_spec C gt cap base S q z d _ htok1 hfew).mono ?_
    rintro e w2 ⟨rfl, hb2⟩
    have G3 : Hid (_ = _) := (hb2.block _ (Nat.lt_of_lt_of_le (by simp) hb.size)).trans G2.out
    obtain ⟨c0, c1, c2, c3, c4, c5, c6, c7, c8, c9, c10, c11, cf⟩ := box_of G3.out
    have hbb := (two_below hb).trans (hb2.mono (two_below hb).size)
    clear a0 a1 a2 a3 a4 a5 a6 a7 a8 a9 a10 a11 b0 b1 b2 b3 b4 b5 b6 b7 b8 b9 b10 b11 af bf
    unfold pv
    go_wp2
    refine bodyPost_ret (results_cell_row rfl _ _ (w.heap.size + 1) 164 _ (0, 0) _ rfl (put12 G3.out) Try.underlying164 rfl (by kernel_rfl)) rfl ?_
    exact out_below rfl HY.out HM.out (below12 hbb (Nat.le_succ _) _ _ _ _ _ _ _ _ _ _ _ _)
-- GEN
set_option maxRecDepth 100000 in
set_option maxHeartbeats 1600000 in
theorem l4Word_spec (C : Cx) (gt cap base : Nat) (x : PR) (S : Sv) (q : PS) (z : Int) (d : Nat) (s : ByteArray) (w : World) (hx : Is x q z) (hm : Mem C gt cap base S q w) :
    Calls Try.prog 173 #[pv C gt cap S q z d, .string s] w (Out C gt cap base (bd x (tokP C 1 s)) d S w) := by
  have HM := hidI hm
  have htok := hm.tok
  have hfew := hm.few
  have HX := hidI hx
  clear hx hm
  cases hi : (decide (z < 0) && isT C q.pos 1 s) with
  | true =>
    have hlt : q.pos < C.ts.length := by rw [Bool.and_eq_true] at hi; exact isT_lt hi.2 (by decide)
    have HY : Hid (Is (bd x (tokP C 1 s)) (adv q) z) := by
      rw [Bool.and_eq_true, decide_eq_true_eq] at hi
      obtain ⟨h1, h2⟩ := is_neg HX.out hi.1
      show Is (bd x (tokP C 1 s)) (adv q) z
      rw [h1, bd_ok, tokP, if_pos hi.2]
      exact ⟨rfl, h2⟩
    unfold pv
    go_enter Try.func173, Try.ntmps173
    go_wp2_with fail
    refine (is_spec C gt cap base S q z d 1 s _ (ownT_alloc (ownT_alloc htok _) _) hfew (by decide)).mono ?_
    rintro e w1 ⟨rfl, hb⟩
    rw [hi]
    obtain ⟨g1, g2⟩ := two_new hb
    obtain ⟨a0, a1, a2, a3, a4, a5, a6, a7, a8, a9, a10, a11, af⟩ := box_of g1
    obtain ⟨b0, b1, b2, b3, b4, b5, b6, b7, b8, b9, b10, b11, bf⟩ := box_of g2
    have G2 := hidI g2
    clear g1 g2 hi
    go_wp2
    refine bodyPost_ret (results_cell_row rfl _ _ (w.heap.size + 1) 164 _ (0, 0) _ rfl (put12 ((pother (by omega)).trans G2.out)) Try.underlying164 rfl (by kernel_rfl)) rfl ?_
    exact out_below rfl HY.out (HM.out.adv hlt) (below12 ((two_below hb).setCell (Nat.le_refl _) _) (Nat.le_succ _) _ _ _ _ _ _ _ _ _ _ _ _)
  | false =>
    have HY : Hid (Is (bd x (tokP C 1 s)) q (badOf C q.pos z)) := by
      show Is (bd x (tokP C 1 s)) q (badOf C q.pos z)
      unfold badOf
      by_cases hz : z < 0
      · obtain ⟨h1, h2⟩ := is_neg HX.out hz
        simp only [hz, decide_true, Bool.true_and] at hi
        rw [h1, bd_ok, tokP, hi, if_pos hz]
        rfl
      · obtain ⟨e, h1, h2⟩ := is_bad HX.out hz
        rw [h1, bd_error, if_neg hz]
        exact h2
    unfold pv
    go_enter Try.func173, Try.ntmps173
    go_wp2_with fail
    refine (is_spec C gt cap base S q z d 1 s _ (ownT_alloc (ownT_alloc htok _) _) hfew (by decide)).mono ?_
    rintro e w1 ⟨rfl, hb⟩
    rw [hi]
    obtain ⟨g1, g2⟩ := two_new hb
    obtain ⟨a0, a1, a2, a3, a4, a5, a6, a7, a8, a9, a10, a11, af⟩ := box_of g1
    obtain ⟨b0, b1, b2, b3, b4, b5, b6, b7, b8, b9, b10, b11, bf⟩ := box_of g2
    have G2 := hidI g2
    have htok1 := ownT_later htok (two_below hb)
    clear g1 g2 hi
    go_wp2_with fail
    refine (fail_spec C gt cap base S q z d _ htok1 hfew).mono ?_
    rintro e w2 ⟨rfl, hb2⟩
    have G3 : Hid (_ = _) := (hb2.block _ (Nat.lt_of_lt_of_le (by simp) hb.size)).trans G2.out
    obtain ⟨c0, c1, c2, c3, c4, c5, c6, c7, c8, c9, c10, c11, cf⟩ := box_of G3.out
    have hbb := (two_below hb).trans (hb2.mono (two_below hb).size)
    clear a0 a1 a2 a3 a4 a5 a6 a7 a8 a9 a10 a11 b0 b1 b2 b3 b4 b5 b6 b7 b8 b9 b10 b11 af bf
    unfold pv
    go_wp2
    refine bodyPost_ret (results_cell_row rfl _ _ (w.heap.size + 1) 164 _ (0, 0) _ rfl (put12 G3.out) Try.underlying164 rfl (by kernel_rfl)) rfl ?_
    exact out_below rfl HY.out HM.out (below12 hbb (Nat.le_succ _) _ _ _ _ _ _ _ _ _ _ _ _)

set_option maxRecDepth 100000 in
set_option maxHeartbeats 3200000 in
theorem l4Reserved_spec (s : ByteArray) (scr : Bool) (w : World) :
    Calls Try.prog 210 #[.string s, .bool scr] w fun e w' => e = .returned (.bool (resB s scr)) ∧ w' = w := by
  cases e0 : (s.toList == [105, 109, 112, 111, 114, 116]) with
  | true =>
    have HV : Hid (resB s scr = true) := by show resB s scr = true; simp [resB, e0]
    go_enter Try.func210, Try.ntmps210
    go_wp2
    go_ret
    exact ⟨ret_bool HV.out.symm, rfl⟩
  | false =>
    cases e1 : (s.toList == [101, 120, 112, 111, 114, 116]) with
    | true =>
      have HV : Hid (resB s scr = true) := by show resB s scr = true; simp [resB, e0, e1]
      go_enter Try.func210, Try.ntmps210
      go_wp2
      go_ret
      exact ⟨ret_bool HV.out.symm, rfl⟩
    | false =>
      cases e2 : (s.toList == [100, 101, 102, 97, 117, 108, 116]) with
      | true =>
        have HV : Hid (resB s scr = true) := by show resB s scr = true; simp [resB, e0, e1, e2]
        go_enter Try.func210, Try.ntmps210
        go_wp2
        go_ret
        exact ⟨ret_bool HV.out.symm, rfl⟩
      | false =>
        cases e3 : (s.toList == [108, 101, 116]) with
        | true =>
          have HV : Hid (resB s scr = true) := by show resB s scr = true; simp [resB, e0, e1, e2, e3]
          go_enter Try.func210, Try.ntmps210
          go_wp2
          go_ret
          exact ⟨ret_bool HV.out.symm, rfl⟩
        | false =>
          cases e4 : (s.toList == [102, 117, 110, 99, 116, 105, 111, 110]) with
          | true =>
            have HV : Hid (resB s scr = true) := by show resB s scr = true; simp [resB, e0, e1, e2, e3, e4]
            go_enter Try.func210, Try.ntmps210
            go_wp2
            go_ret
            exact ⟨ret_bool HV.out.symm, rfl⟩
          | false =>
            cases e5 : (s.toList == [114, 101, 116, 117, 114, 110]) with
            | true =>
              have HV : Hid (resB s scr = true) := by show resB s scr = true; simp [resB, e0, e1, e2, e3, e4, e5]
              go_enter Try.func210, Try.ntmps210
              go_wp2
              go_ret
              exact ⟨ret_bool HV.out.symm, rfl⟩
            | false =>
              cases e6 : (s.toList == [112, 114, 105, 110, 116]) with
              | true =>
                have HV : Hid (resB s scr = true) := by show resB s scr = true; simp [resB, e0, e1, e2, e3, e4, e5, e6]
                go_enter Try.func210, Try.ntmps210
                go_wp2
                go_ret
                exact ⟨ret_bool HV.out.symm, rfl⟩
              | false =>
                cases e7 : (s.toList == [116, 104, 114, 111, 119]) with
                | true =>
                  have HV : Hid (resB s scr = true) := by show resB s scr = true; simp [resB, e0, e1, e2, e3, e4, e5, e6, e7]
                  go_enter Try.func210, Try.ntmps210
                  go_wp2
                  go_ret
                  exact ⟨ret_bool HV.out.symm, rfl⟩
                | false =>
                  cases e8 : (s.toList == [102, 97, 105, 108]) with
                  | true =>
                    have HV : Hid (resB s scr = scr) := by show resB s scr = scr; simp [resB, e0, e1, e2, e3, e4, e5, e6, e7, e8]
                    go_enter Try.func210, Try.ntmps210
                    go_wp2
                    go_ret
                    exact ⟨ret_bool HV.out.symm, rfl⟩
                  | false =>
                    cases e9 : (s.toList == [117, 110, 100, 101, 102]) with
                    | true =>
                      have HV : Hid (resB s scr = scr) := by show resB s scr = scr; simp [resB, e0, e1, e2, e3, e4, e5, e6, e7, e8, e9]
                      go_enter Try.func210, Try.ntmps210
                      go_wp2
                      go_ret
                      exact ⟨ret_bool HV.out.symm, rfl⟩
                    | false =>
                      have HV : Hid (resB s scr = false) := by show resB s scr = false; simp [resB, e0, e1, e2, e3, e4, e5, e6, e7, e8, e9]
                      go_enter Try.func210, Try.ntmps210
                      go_wp2
                      go_ret
                      exact ⟨ret_bool HV.out.symm, rfl⟩
end Go.Proofs.Ytdbpknmoacjodaa
namespace Go.Proofs.Ytdbpknmoacjodaa
open Go.RowKit Go.PlainAid

theorem plain_kind {C : Cx} {i : Nat} {o : Bool} (h : ((tokAt C i).kind == 1) = false) : plainB C i o = false := by rw [plainB, h]; rfl
theorem plain_end {C : Cx} {i : Nat} {o : Bool} (h : ¬ i < C.ts.length) : plainB C i o = false := by
  rw [Bool.eq_false_iff]
  exact fun g => h (plain_lt g)
set_option maxRecDepth 100000 in
set_option maxHeartbeats 1600000 in
theorem l4Plain_spec (C : Cx) (gt cap base : Nat) (S : Sv) (q : PS) (z : Int) (d : Nat) (o : Bool) (w : World) (ht : OwnT w base 223 gt C.ts.length cap C.ts) (_ : C.ts.length ≤ 4000) :
    Calls Try.prog 199 #[pv C gt cap S q z d, .bool o] w fun e w' => e = .returned (.bool (decide (z < 0) && plainB C q.pos o)) ∧ Below w.heap.size w w' := by
  unfold pv
  by_cases hz : z < 0
  · have dz : decide (z < 0) = true := decide_eq_true hz
    have dz2 : decide (0 ≤ z) = false := decide_eq_false (by omega)
    by_cases hp : q.pos < C.ts.length
    · obtain ⟨c0, c1, _, _⟩ := ht.cells hp (d := ⟨0, sNone, 0, C.fin⟩)
      have hglt := (ownT_lt ht).1
      change _ = some (Value.int .i64 (tokAt C q.pos).kind) at c0
      change _ = some (Value.string (tokAt C q.pos).text) at c1
      generalize htk : tokAt C q.pos = t at c0 c1
      cases e1 : (t.kind == 1) with
      | true =>
        have e1' : (t.kind != 1) = false := by rw [bne, e1]; rfl
        cases e2 : resB t.text C.scr with
        | false =>
          have HV : Hid (plainB C q.pos o = true) := by show plainB C q.pos o = true; simp only [plainB, htk, e1, e2, Bool.not_false, Bool.true_or, Bool.and_self]
          clear htk
          go_enter Try.func199, Try.ntmps199
          go_wp2_with (first | (go_at_call 210; refine (l4Reserved_spec _ _ _).mono ?_; rintro e w' ⟨rfl, rfl⟩))
          go_ret
          exact ⟨ret_bool (by first | (rw [dz, HV.out]; rfl) | rfl), (Below.refl _ _).alloc (Nat.le_refl _) _⟩
        | true =>
          cases o with
          | true =>
            cases e3 : (t.text.toList == [100, 101, 102, 97, 117, 108, 116]) with
            | true =>
              have HV : Hid (plainB C q.pos true = true) := by show plainB C q.pos true = true; simp only [plainB, htk, e1, e2, e3, Bool.not_true, Bool.and_self, Bool.false_or]
              clear htk
              go_enter Try.func199, Try.ntmps199
              go_wp2_with (first | (go_at_call 210; refine (l4Reserved_spec _ _ _).mono ?_; rintro e w' ⟨rfl, rfl⟩))
              go_ret
              exact ⟨ret_bool (by first | (rw [dz, HV.out]; rfl) | rfl), (Below.refl _ _).alloc (Nat.le_refl _) _⟩
            | false =>
              have HV : Hid (plainB C q.pos true = false) := by show plainB C q.pos true = false; simp only [plainB, htk, e1, e2, e3, Bool.not_true, Bool.true_and, Bool.or_self]
              clear htk
              go_enter Try.func199, Try.ntmps199
              go_wp2_with (first | (go_at_call 210; refine (l4Reserved_spec _ _ _).mono ?_; rintro e w' ⟨rfl, rfl⟩))
              go_ret
              exact ⟨ret_bool (by first | (rw [dz, HV.out]; rfl) | rfl), (Below.refl _ _).alloc (Nat.le_refl _) _⟩
          | false =>
            have HV : Hid (plainB C q.pos false = false) := by show plainB C q.pos false = false; simp only [plainB, htk, e1, e2, Bool.not_true, Bool.false_and, Bool.or_self, Bool.and_false]
            clear htk
            go_enter Try.func199, Try.ntmps199
            go_wp2_with (first | (go_at_call 210; refine (l4Reserved_spec _ _ _).mono ?_; rintro e w' ⟨rfl, rfl⟩))
            go_ret
            exact ⟨ret_bool (by first | (rw [dz, HV.out]; rfl) | rfl), (Below.refl _ _).alloc (Nat.le_refl _) _⟩
      | false =>
        have e1' : (t.kind != 1) = true := by rw [bne, e1]; rfl
        have HV : Hid (plainB C q.pos o = false) := plain_kind (by rw [htk]; exact e1)
        clear htk
        go_enter Try.func199, Try.ntmps199
        go_wp2_with (first | (go_at_call 210; refine (l4Reserved_spec _ _ _).mono ?_; rintro e w' ⟨rfl, rfl⟩))
        go_ret
        exact ⟨ret_bool (by first | (rw [dz, HV.out]; rfl) | rfl), (Below.refl _ _).alloc (Nat.le_refl _) _⟩
    · have HV : Hid (plainB C q.pos o = false) := plain_end hp
      go_enter Try.func199, Try.ntmps199
      go_wp2_with (first | (go_at_call 210; refine (l4Reserved_spec _ _ _).mono ?_; rintro e w' ⟨rfl, rfl⟩))
      go_ret
      exact ⟨ret_bool (by first | (rw [dz, HV.out]; rfl) | rfl), (Below.refl _ _).alloc (Nat.le_refl _) _⟩
  · have dz : decide (z < 0) = false := decide_eq_false hz
    have dz2 : decide (0 ≤ z) = true := decide_eq_true (by omega)
    have HV : Hid (plainB C q.pos o = plainB C q.pos o) := rfl
    go_enter Try.func199, Try.ntmps199
    go_wp2_with (first | (go_at_call 210; refine (l4Reserved_spec _ _ _).mono ?_; rintro e w' ⟨rfl, rfl⟩))
    go_ret
    exact ⟨ret_bool (by first | (rw [dz, HV.out]; rfl) | rfl), (Below.refl _ _).alloc (Nat.le_refl _) _⟩

def Is2 (y : Except Nat (PS × ByteArray)) (q : PS) (z : Int) (n : ByteArray) : Prop :=
  match y with
  | .ok a => q = a.1 ∧ z = -1 ∧ n = a.2
  | .error e => z = (e : Int)
theorem Is2.fst {y : Except Nat (PS × ByteArray)} {q : PS} {z : Int} {n : ByteArray} (h : Is2 y q z n) : Is (fstP y) q z := by
  cases y with
  | ok a => exact ⟨h.1, h.2.1⟩
  | error e => exact h
theorem Is2.bind {y : Except Nat (PS × ByteArray)} {q : PS} {z : Int} {n : ByteArray} (h : Is2 y q z n) {β : Type} (F : PS → ByteArray → Except Nat β) : bd (fstP y) (fun q => F q n) = bd y fun a => F a.1 a.2 := by
  cases y with
  | ok a => obtain ⟨_, _, rfl⟩ := h; rfl
  | error e => rfl
def Out2 (C : Cx) (gt cap base : Nat) (y : Except Nat (PS × ByteArray)) (d : Nat) (S : Sv) (w : World) (e : Ending) (w' : World) : Prop :=
  ∃ S' q' z' n', e = .returned (.tuple #[pv C gt cap S' q' z' d, .string n']) ∧ Hid (Is2 y q' z' n') ∧ Mem C gt cap base S' q' w' ∧ Stp S w S' w'
theorem out2_below {C : Cx} {gt cap base : Nat} {y : Except Nat (PS × ByteArray)} {d : Nat} {S : Sv} {w w' : World} {q' : PS} {z' : Int} {n' : ByteArray} {v : Value} (hv : v = pv C gt cap S q' z' d) (hi : Is2 y q' z' n') (hm : Mem C gt cap base S q' w) (hb : Below w.heap.size w w') : Out2 C gt cap base y d S w (.returned (.tuple #[v, .string n'])) w' :=
  ⟨S, q', z', n', by rw [hv], hi, hm.later hb, Stp.below hb⟩

set_option maxRecDepth 100000 in
set_option maxHeartbeats 1600000 in
theorem l4Name_spec (C : Cx) (gt cap base : Nat) (x : PR) (S : Sv) (q : PS) (z : Int) (d : Nat) (o : Bool) (w : World) (hx : Is x q z) (hm : Mem C gt cap base S q w) :
    Calls Try.prog 175 #[pv C gt cap S q z d, .bool o] w (Out2 C gt cap base (bd x (nameP C o)) d S w) := by
  have HM := hidI hm
  have htok := hm.tok
  have hfew := hm.few
  have HX := hidI hx
  clear hx hm
  cases hi : (decide (z < 0) && plainB C q.pos o) with
  | true =>
    have hlt : q.pos < C.ts.length := by rw [Bool.and_eq_true] at hi; exact plain_lt hi.2
    have HY : Hid (Is2 (bd x (nameP C o)) (adv q) z (tokAt C q.pos).text) := by
      rw [Bool.and_eq_true, decide_eq_true_eq] at hi
      obtain ⟨h1, h2⟩ := is_neg HX.out hi.1
      show Is2 (bd x (nameP C o)) (adv q) z (tokAt C q.pos).text
      rw [h1, bd_ok, nameP, if_pos hi.2]
      exact ⟨rfl, h2, rfl⟩
    unfold pv
    go_enter Try.func175, Try.ntmps175
    go_wp2_with fail
    refine (l4Plain_spec C gt cap base S q z d o _ (ownT_alloc (ownT_alloc htok _) _) hfew).mono ?_
    rintro e w1 ⟨rfl, hb⟩
    rw [hi]
    obtain ⟨g1, g2⟩ := two_new hb
    obtain ⟨a0, a1, a2, a3, a4, a5, a6, a7, a8, a9, a10, a11, af⟩ := box_of g1
    obtain ⟨b0, b1, b2, b3, b4, b5, b6, b7, b8, b9, b10, b11, bf⟩ := box_of g2
    have htok1 := ownT_later htok (two_below hb)
    obtain ⟨_, c1, _, _⟩ := htok1.cells hlt (d := ⟨0, sNone, 0, C.fin⟩)
    change _ = some (Value.string (tokAt C q.pos).text) at c1
    have G2 := hidI g2
    clear g1 g2 hi
    go_wp2
    refine bodyPost_ret (results_cell_row_tmp rfl _ _ (w.heap.size + 1) 164 _ (0, 0) _ rfl (put12 ((pother (by omega)).trans G2.out)) Try.underlying164 rfl (by kernel_rfl)) rfl ?_
    exact out2_below rfl HY.out (HM.out.adv hlt) (below12 ((two_below hb).setCell (Nat.le_refl _) _) (Nat.le_succ _) _ _ _ _ _ _ _ _ _ _ _ _)
  | false =>
    have HY : Hid (Is2 (bd x (nameP C o)) q (badOf C q.pos z) sNone) := by
      show Is2 (bd x (nameP C o)) q (badOf C q.pos z) sNone
      unfold badOf
      by_cases hz : z < 0
      · obtain ⟨h1, h2⟩ := is_neg HX.out hz
        simp only [hz, decide_true, Bool.true_and] at hi
        rw [h1, bd_ok, nameP, hi, if_pos hz]
        rfl
      · obtain ⟨e, h1, h2⟩ := is_bad HX.out hz
        rw [h1, bd_error, if_neg hz]
        exact h2
    unfold pv
    go_enter Try.func175, Try.ntmps175
    go_wp2_with fail
    refine (l4Plain_spec C gt cap base S q z d o _ (ownT_alloc (ownT_alloc htok _) _) hfew).mono ?_
    rintro e w1 ⟨rfl, hb⟩
    rw [hi]
    obtain ⟨g1, g2⟩ := two_new hb
    obtain ⟨a0, a1, a2, a3, a4, a5, a6, a7, a8, a9, a10, a11, af⟩ := box_of g1
    have G2 := hidI g2
    have htok1 := ownT_later htok (two_below hb)
    clear g1 g2 hi
    go_wp2_with fail
    refine (fail_spec C gt cap base S q z d _ htok1 hfew).mono ?_
    rintro e w2 ⟨rfl, hb2⟩
    have G3 : Hid (_ = _) := (hb2.block _ (Nat.lt_of_lt_of_le (by simp) hb.size)).trans G2.out
    obtain ⟨c0, c1, c2, c3, c4, c5, c6, c7, c8, c9, c10, c11, cf⟩ := box_of G3.out
    have hbb := (two_below hb).trans (hb2.mono (two_below hb).size)
    clear a0 a1 a2 a3 a4 a5 a6 a7 a8 a9 a10 a11 af
    unfold pv
    go_wp2
    refine bodyPost_ret (results_cell_row_tmp rfl _ _ (w.heap.size + 1) 164 _ (0, 0) _ rfl (put12 G3.out) Try.underlying164 rfl (by kernel_rfl)) rfl ?_
    exact out2_below rfl HY.out HM.out (below12 hbb (Nat.le_succ _) _ _ _ _ _ _ _ _ _ _ _ _)
end Go.Proofs.Ytdbpknmoacjodaa
namespace Go.Proofs.Ytdbpknmoacjodaa
open Go.RowKit Go.PlainAid

theorem Try.infoImp : (Try.prog.info? 154).map (fun i => (i.zero, i.size, i.bytes)) = some (some (.agg #[.string { data := #[] }, .string { data := #[] }, .string { data := #[] }]), 3, 48) := by kernel_rfl
theorem Try.infoExp : (Try.prog.info? 79).map (fun i => (i.zero, i.size, i.bytes)) = some (some (.agg #[.int .i64 0, .string { data := #[] }, .string { data := #[] }, .string { data := #[] }]), 4, 56) := by kernel_rfl
theorem Try.infoStmt : (Try.prog.info? 159).map (fun i => (i.zero, i.size, i.bytes)) = some (some (.agg #[.int .i64 0, .string { data := #[] }, .int .i64 0]), 3, 32) := by kernel_rfl
theorem Try.infoExpr : (Try.prog.info? 96).map (fun i => (i.zero, i.size, i.bytes)) = some (some (.agg #[.int .i64 0, .int .i64 0, .string { data := #[] }, .string { data := #[] }, .int .i64 0, .int .i64 0]), 6, 64) := by kernel_rfl
def imV (x : Im) : Value := .agg #[.string x.spec, .string x.first, .string x.loc]
def epV (x : Ep) : Value := .agg #[.int .i64 x.kind, .string x.name, .string x.loc, .string x.spec]
def exV (x : Ex) : Value := .agg #[.int .i64 x.kind, .int .i64 x.num, .string x.name, .string x.field, .int .i64 x.l, .int .i64 x.r]
theorem below3 (w : World) (a b c : Obj) : Below w.heap.size w (((w.alloc a).alloc b).alloc c) := (below2 w a b).alloc (below2 w a b).size c
theorem below4 (w : World) (a b c d : Obj) : Below w.heap.size w ((((w.alloc a).alloc b).alloc c).alloc d) := (below3 w a b c).alloc (below3 w a b c).size d
theorem size2 (w : World) (a b : Obj) : ((w.alloc a).alloc b).heap.size = w.heap.size + 1 + 1 := by rw [alloc_size, alloc_size]
theorem size3 (w : World) (a b c : Obj) : (((w.alloc a).alloc b).alloc c).heap.size = w.heap.size + 1 + 1 + 1 := by rw [alloc_size, size2]
theorem size4 (w : World) (a b c d : Obj) : ((((w.alloc a).alloc b).alloc c).alloc d).heap.size = w.heap.size + 1 + 1 + 1 + 1 := by rw [alloc_size, size3]
theorem new3 (w : World) (a b c : Obj) : (((w.alloc a).alloc b).alloc c).heap[w.heap.size]? = some a ∧ (((w.alloc a).alloc b).alloc c).heap[w.heap.size + 1]? = some b ∧ (((w.alloc a).alloc b).alloc c).heap[w.heap.size + 1 + 1]? = some c := by
  refine ⟨?_, ?_, ?_⟩
  · rw [Below.heap_alloc _ _ _ (by rw [size2]; omega), Below.heap_alloc _ _ _ (by rw [alloc_size]; omega)]
    exact heap_alloc_new w a
  · rw [Below.heap_alloc _ _ _ (by rw [size2]; omega)]
    exact new2 w a b
  · rw [← size2 w a b]
    exact heap_alloc_new _ c
theorem new4 (w : World) (a b c d : Obj) : ((((w.alloc a).alloc b).alloc c).alloc d).heap[w.heap.size]? = some a ∧ ((((w.alloc a).alloc b).alloc c).alloc d).heap[w.heap.size + 1]? = some b ∧ ((((w.alloc a).alloc b).alloc c).alloc d).heap[w.heap.size + 1 + 1]? = some c ∧ ((((w.alloc a).alloc b).alloc c).alloc d).heap[w.heap.size + 1 + 1 + 1]? = some d := by
  obtain ⟨h1, h2, h3⟩ := new3 w a b c
  refine ⟨?_, ?_, ?_, ?_⟩
  · rw [Below.heap_alloc _ _ _ (by rw [size3]; omega)]
    exact h1
  · rw [Below.heap_alloc _ _ _ (by rw [size3]; omega)]
    exact h2
  · rw [Below.heap_alloc _ _ _ (by rw [size3]; omega)]
    exact h3
  · rw [← size3 w a b c]
    exact heap_alloc_new _ d
theorem three_below {w w1 : World} {a b c : Obj} (hb : Below (((w.alloc a).alloc b).alloc c).heap.size (((w.alloc a).alloc b).alloc c) w1) : Below w.heap.size w w1 := (below3 w a b c).trans (hb.mono (below3 w a b c).size)
theorem is_full {C : Cx} {x : PR} {q : PS} {z : Int} {f : PS → PR} (hx : Is x q z) (hz : z < 0) (hf : f q = .error (here C (q.pos - 1))) : Is (bd x f) q (here C (q.pos - 1)) := by
  obtain ⟨rfl, _⟩ := is_neg hx hz
  rw [bd_ok, hf]
  rfl
theorem is_stay {x : PR} {q : PS} {z : Int} {f : PS → PR} (hx : Is x q z) (hz : ¬ z < 0) : Is (bd x f) q z := by
  obtain ⟨e, rfl, h2⟩ := is_bad hx hz
  exact h2
theorem is_went {x : PR} {q q' : PS} {z : Int} {f : PS → PR} (hx : Is x q z) (hz : z < 0) (hf : f q = .ok q') : Is (bd x f) q' z := by
  obtain ⟨rfl, h2⟩ := is_neg hx hz
  rw [bd_ok, hf]
  exact ⟨rfl, h2⟩
theorem wpos {w W : World} {base : Nat} {S : Sv} {q : PS} (ho : Own w base S q) (_ : w.heap.size ≤ W.heap.size) {r : Option Nat} (hr : ∀ k, r = some k → S.has k) (b : Nat) (hb : w.heap.size ≤ b) : some b ≠ r := fun e => by have := (ho.has (hr b e.symm)).2; omega

set_option maxRecDepth 100000 in
set_option maxHeartbeats 3200000 in
theorem l4Add_spec (C : Cx) (gt cap base : Nat) (x : PR) (S : Sv) (q : PS) (z : Int) (d : Nat) (y : Ex) (w : World) (hx : Is x q z) (hm : Mem C gt cap base S q w) (hp : z < 0 → 1 ≤ q.pos) :
    Calls Try.prog 203 #[pv C gt cap S q z d, exV y] w (Out C gt cap base (bd x (addEx C y)) d S w) := by
  obtain ⟨i0, hi, hz0, hz1, hz2⟩ := info_parts Try.infoExpr
  have HM := hidI hm
  have HX := hidI hx
  have hlex : q.ex.length ≤ 300 := by have := hm.inv.ex; omega
  clear hx
  by_cases hz : z < 0
  · have dz : decide (0 ≤ z) = false := decide_eq_false (by omega)
    by_cases hn : 300 ≤ q.ex.length
    · have HY : Hid (Is (bd x (addEx C y)) q (here C (q.pos - 1))) := is_full HX.out hz (if_pos hn)
      have qn : decide ((300 : Int) ≤ (q.ex.length : Int)) = true := decide_eq_true (by omega)
      have hpos := hp hz
      clear hp hm
      unfold pv exV
      go_enter Try.func203, Try.ntmps203
      go_wp2_with fail
      refine (l4Full_spec C gt cap base S q z d _ (((HM.out.alloc _).alloc _).alloc _) hz hpos).mono ?_
      rintro e w2 ⟨rfl, hb2⟩
      have hbb : Below w.heap.size w w2 := three_below hb2
      have G3 : Hid (_ = _) := (hb2.block (w.heap.size + 1 + 1) (by rw [size3]; omega)).trans ((new3 w _ _ _).2.2)
      obtain ⟨c0, c1, c2, c3, c4, c5, c6, c7, c8, c9, c10, c11, cf⟩ := box_of G3.out
      clear hb2
      unfold pv
      go_wp2
      refine bodyPost_ret (results_cell_row rfl _ _ (w.heap.size + 1 + 1) 164 _ (0, 0) _ rfl (put12 G3.out) Try.underlying164 rfl (by kernel_rfl)) rfl ?_
      exact out_below rfl HY.out HM.out (below12 hbb (by omega) _ _ _ _ _ _ _ _ _ _ _ _)
    · have qn : decide ((300 : Int) ≤ (q.ex.length : Int)) = false := decide_eq_false (by omega)
      have HY : Hid (Is (bd x (addEx C y)) { q with ex := q.ex ++ [y] } z) := is_went HX.out hz (if_neg hn)
      have hown := fun o1 o2 o3 o4 => ((((HM.out.own.ex.alloc o1).alloc o2).alloc o3).alloc o4)
      clear hp hm
      unfold pv exV
      go_enter Try.func203, Try.ntmps203
      go_wp2_with (at_builtin; refine app_row _ rfl _ _ 35 rfl base 96 i0 _ 6 64 Try.underlying35 hi hz0 hz1 hz2 rfl (by decide) (by decide) S.ex q.ex.length _ (by rfl) (hown _ _ _ _) (w.heap.size + 1 + 1 + 1) (exL y) (by rfl) (by first | exact (new4 w _ _ _ _).2.2.2 | exact (new3 w _ _ _).2.2) rfl (by intro u hu; simp [exL] at hu; rcases hu with rfl | rfl | rfl | rfl | rfl | rfl <;> rfl) (by omega) (by have := HM.out.base; (first | rw [size4] | rw [size3]); omega) ?_)
      intro r' w2 hr hg hat
      have HR := hidI hr
      have HG := hidI hg
      have HAT := hidI hat
      have hne := fun b hb => wpos (W := w) HM.out.own (Nat.le_refl _) (r := S.ex.blk) (fun k e => .inr (.inr (.inr (.inr (.inl e))))) b hb
      have g1 := (hg.block w.heap.size (by (first | rw [size4] | rw [size3]); omega) (hne _ (Nat.le_refl _))).trans (by first | exact (new4 w _ _ _ _).1 | exact (new3 w _ _ _).1)
      have g2 := (hg.block (w.heap.size + 1 + 1) (by (first | rw [size4] | rw [size3]); omega) (hne _ (by omega))).trans (by first | exact (new4 w _ _ _ _).2.2.1 | exact (new3 w _ _ _).2.1)
      obtain ⟨a0, a1, a2, a3, a4, a5, a6, a7, a8, a9, a10, a11, af⟩ := box_of g1
      obtain ⟨b0, b1, b2, b3, b4, b5, b6, b7, b8, b9, b10, b11, bf⟩ := box_of g2
      have G2 := hidI g2
      clear g1 g2 hg hr hat hne hown
      go_wp2
      refine bodyPost_ret (results_cell_row rfl _ _ (w.heap.size + 1 + 1) 164 _ (0, 0) _ rfl (put12 ((pother (by omega)).trans G2.out)) Try.underlying164 rfl (by kernel_rfl)) rfl ?_
      obtain ⟨m', s'⟩ := HM.out.grow_ex (x := y) (below4 w _ _ _ _) HG.out HR.out (by (first | rw [size4] | rw [size3]); exact HAT.out) (((Off.refl _ _ _).set (b := w.heap.size) (Nat.le_refl _) (by (first | rw [size4] | rw [size3]); omega) _ _).set12 (b := w.heap.size + 1 + 1) (by omega) (by (first | rw [size4] | rw [size3]); omega) _ _ _ _ _ _ _ _ _ _ _ _) (by omega)
      exact ⟨_, { q with ex := q.ex ++ [y] }, z, by simp [pv], HY.out, m', s'⟩
  · have dz : decide (0 ≤ z) = true := decide_eq_true (by omega)
    have HY : Hid (Is (bd x (addEx C y)) q z) := is_stay HX.out hz
    clear hp hm
    unfold pv exV
    go_enter Try.func203, Try.ntmps203
    go_wp2
    refine bodyPost_ret (results_cell_row rfl _ _ (w.heap.size + 1 + 1) 164 _ (0, 0) _ rfl ((new3 w _ _ _).2.2) Try.underlying164 rfl (by kernel_rfl)) rfl ?_
    exact out_below rfl HY.out HM.out (below3 w _ _ _)
set_option maxRecDepth 100000 in
set_option maxHeartbeats 3200000 in
theorem l4Imp_spec (C : Cx) (gt cap base : Nat) (x : PR) (S : Sv) (q : PS) (z : Int) (d : Nat) (y : Im) (w : World) (hx : Is x q z) (hm : Mem C gt cap base S q w) (hp : z < 0 → 1 ≤ q.pos) :
    Calls Try.prog 198 #[pv C gt cap S q z d, imV y] w (Out C gt cap base (bd x (addIm C y)) d S w) := by
  obtain ⟨i0, hi, hz0, hz1, hz2⟩ := info_parts Try.infoImp
  have HM := hidI hm
  have HX := hidI hx
  have hlim : q.im.length ≤ 40 := by have := hm.inv.im; omega
  clear hx
  by_cases hz : z < 0
  · have dz : decide (0 ≤ z) = false := decide_eq_false (by omega)
    by_cases hn : 40 ≤ q.im.length
    · have HY : Hid (Is (bd x (addIm C y)) q (here C (q.pos - 1))) := is_full HX.out hz (if_pos hn)
      have qn : decide ((40 : Int) ≤ (q.im.length : Int)) = true := decide_eq_true (by omega)
      have hpos := hp hz
      clear hp hm
      unfold pv imV
      go_enter Try.func198, Try.ntmps198
      go_wp2_with fail
      refine (l4Full_spec C gt cap base S q z d _ (((HM.out.alloc _).alloc _).alloc _) hz hpos).mono ?_
      rintro e w2 ⟨rfl, hb2⟩
      have hbb : Below w.heap.size w w2 := three_below hb2
      have G3 : Hid (_ = _) := (hb2.block (w.heap.size + 1 + 1) (by rw [size3]; omega)).trans ((new3 w _ _ _).2.2)
      obtain ⟨c0, c1, c2, c3, c4, c5, c6, c7, c8, c9, c10, c11, cf⟩ := box_of G3.out
      clear hb2
      unfold pv
      go_wp2
      refine bodyPost_ret (results_cell_row rfl _ _ (w.heap.size + 1 + 1) 164 _ (0, 0) _ rfl (put12 G3.out) Try.underlying164 rfl (by kernel_rfl)) rfl ?_
      exact out_below rfl HY.out HM.out (below12 hbb (by omega) _ _ _ _ _ _ _ _ _ _ _ _)
    · have qn : decide ((40 : Int) ≤ (q.im.length : Int)) = false := decide_eq_false (by omega)
      have HY : Hid (Is (bd x (addIm C y)) { q with im := q.im ++ [y] } z) := is_went HX.out hz (if_neg hn)
      have hown := fun o1 o2 o3 o4 => ((((HM.out.own.im.alloc o1).alloc o2).alloc o3).alloc o4)
      clear hp hm
      unfold pv imV
      go_enter Try.func198, Try.ntmps198
      go_wp2_with (at_builtin; refine app_row _ rfl _ _ 32 rfl base 154 i0 _ 3 48 Try.underlying32 hi hz0 hz1 hz2 rfl (by decide) (by decide) S.im q.im.length _ (by rfl) (hown _ _ _ _) (w.heap.size + 1 + 1 + 1) (imL y) (by rfl) (by first | exact (new4 w _ _ _ _).2.2.2 | exact (new3 w _ _ _).2.2) rfl (by intro u hu; simp [imL] at hu; rcases hu with rfl | rfl | rfl <;> rfl) (by omega) (by have := HM.out.base; (first | rw [size4] | rw [size3]); omega) ?_)
      intro r' w2 hr hg hat
      have HR := hidI hr
      have HG := hidI hg
      have HAT := hidI hat
      have hne := fun b hb => wpos (W := w) HM.out.own (Nat.le_refl _) (r := S.im.blk) (fun k e => .inr (.inl e)) b hb
      have g1 := (hg.block w.heap.size (by (first | rw [size4] | rw [size3]); omega) (hne _ (Nat.le_refl _))).trans (by first | exact (new4 w _ _ _ _).1 | exact (new3 w _ _ _).1)
      have g2 := (hg.block (w.heap.size + 1 + 1) (by (first | rw [size4] | rw [size3]); omega) (hne _ (by omega))).trans (by first | exact (new4 w _ _ _ _).2.2.1 | exact (new3 w _ _ _).2.1)
      obtain ⟨a0, a1, a2, a3, a4, a5, a6, a7, a8, a9, a10, a11, af⟩ := box_of g1
      obtain ⟨b0, b1, b2, b3, b4, b5, b6, b7, b8, b9, b10, b11, bf⟩ := box_of g2
      have G2 := hidI g2
      clear g1 g2 hg hr hat hne hown
      go_wp2
      refine bodyPost_ret (results_cell_row rfl _ _ (w.heap.size + 1 + 1) 164 _ (0, 0) _ rfl (put12 ((pother (by omega)).trans G2.out)) Try.underlying164 rfl (by kernel_rfl)) rfl ?_
      obtain ⟨m', s'⟩ := HM.out.grow_im (x := y) (below4 w _ _ _ _) HG.out HR.out (by (first | rw [size4] | rw [size3]); exact HAT.out) (((Off.refl _ _ _).set (b := w.heap.size) (Nat.le_refl _) (by (first | rw [size4] | rw [size3]); omega) _ _).set12 (b := w.heap.size + 1 + 1) (by omega) (by (first | rw [size4] | rw [size3]); omega) _ _ _ _ _ _ _ _ _ _ _ _) (by omega)
      exact ⟨_, { q with im := q.im ++ [y] }, z, by simp [pv], HY.out, m', s'⟩
  · have dz : decide (0 ≤ z) = true := decide_eq_true (by omega)
    have HY : Hid (Is (bd x (addIm C y)) q z) := is_stay HX.out hz
    clear hp hm
    unfold pv imV
    go_enter Try.func198, Try.ntmps198
    go_wp2
    refine bodyPost_ret (results_cell_row rfl _ _ (w.heap.size + 1 + 1) 164 _ (0, 0) _ rfl ((new3 w _ _ _).2.2) Try.underlying164 rfl (by kernel_rfl)) rfl ?_
    exact out_below rfl HY.out HM.out (below3 w _ _ _)
set_option maxRecDepth 100000 in
set_option maxHeartbeats 3200000 in
theorem l4Exp_spec (C : Cx) (gt cap base : Nat) (x : PR) (S : Sv) (q : PS) (z : Int) (d : Nat) (y : Ep) (w : World) (hx : Is x q z) (hm : Mem C gt cap base S q w) (hp : z < 0 → 1 ≤ q.pos) :
    Calls Try.prog 200 #[pv C gt cap S q z d, epV y] w (Out C gt cap base (bd x (addEp C y)) d S w) := by
  obtain ⟨i0, hi, hz0, hz1, hz2⟩ := info_parts Try.infoExp
  have HM := hidI hm
  have HX := hidI hx
  have hlep : q.ep.length ≤ 40 := by have := hm.inv.ep; omega
  have hlla : q.la.length ≤ 40 := by have := hm.inv.ep; omega
  clear hx
  by_cases hz : z < 0
  · have dz : decide (0 ≤ z) = false := decide_eq_false (by omega)
    by_cases hn : 40 ≤ q.ep.length + q.la.length
    · have HY : Hid (Is (bd x (addEp C y)) q (here C (q.pos - 1))) := is_full HX.out hz (if_pos hn)
      have qn : decide ((40 : Int) ≤ (q.ep.length : Int) + (q.la.length : Int)) = true := decide_eq_true (by omega)
      have hpos := hp hz
      clear hp hm
      unfold pv epV
      go_enter Try.func200, Try.ntmps200
      go_wp2_with fail
      refine (l4Full_spec C gt cap base S q z d _ (((HM.out.alloc _).alloc _).alloc _) hz hpos).mono ?_
      rintro e w2 ⟨rfl, hb2⟩
      have hbb : Below w.heap.size w w2 := three_below hb2
      have G3 : Hid (_ = _) := (hb2.block (w.heap.size + 1 + 1) (by rw [size3]; omega)).trans ((new3 w _ _ _).2.2)
      obtain ⟨c0, c1, c2, c3, c4, c5, c6, c7, c8, c9, c10, c11, cf⟩ := box_of G3.out
      clear hb2
      unfold pv
      go_wp2
      refine bodyPost_ret (results_cell_row rfl _ _ (w.heap.size + 1 + 1) 164 _ (0, 0) _ rfl (put12 G3.out) Try.underlying164 rfl (by kernel_rfl)) rfl ?_
      exact out_below rfl HY.out HM.out (below12 hbb (by omega) _ _ _ _ _ _ _ _ _ _ _ _)
    · have qn : decide ((40 : Int) ≤ (q.ep.length : Int) + (q.la.length : Int)) = false := decide_eq_false (by omega)
      cases hd : (y.loc.toList == [42, 100, 101, 102, 97, 117, 108, 116]) with
      | true =>
        have HY : Hid (Is (bd x (addEp C y)) { q with la := q.la ++ [y] } z) := is_went HX.out hz (by rw [addEp, if_neg hn, if_pos hd])
        have hown := fun o1 o2 o3 o4 => ((((HM.out.own.la.alloc o1).alloc o2).alloc o3).alloc o4)
        clear hp hm
        unfold pv epV
        go_enter Try.func200, Try.ntmps200
        go_wp2_with (at_builtin; refine app_row _ rfl _ _ 33 rfl base 79 i0 _ 4 56 Try.underlying33 hi hz0 hz1 hz2 rfl (by decide) (by decide) S.la q.la.length _ (by rfl) (hown _ _ _ _) (w.heap.size + 1 + 1 + 1) (epL y) (by rfl) (by first | exact (new4 w _ _ _ _).2.2.2 | exact (new3 w _ _ _).2.2) rfl (by intro u hu; simp [epL] at hu; rcases hu with rfl | rfl | rfl | rfl <;> rfl) (by omega) (by have := HM.out.base; (first | rw [size4] | rw [size3]); omega) ?_)
        intro r' w2 hr hg hat
        have HR := hidI hr
        have HG := hidI hg
        have HAT := hidI hat
        have hne := fun b hb => wpos (W := w) HM.out.own (Nat.le_refl _) (r := S.la.blk) (fun k e => .inr (.inr (.inr (.inr (.inr e))))) b hb
        have g1 := (hg.block w.heap.size (by (first | rw [size4] | rw [size3]); omega) (hne _ (Nat.le_refl _))).trans (by first | exact (new4 w _ _ _ _).1 | exact (new3 w _ _ _).1)
        have g2 := (hg.block (w.heap.size + 1 + 1) (by (first | rw [size4] | rw [size3]); omega) (hne _ (by omega))).trans (by first | exact (new4 w _ _ _ _).2.2.1 | exact (new3 w _ _ _).2.1)
        obtain ⟨a0, a1, a2, a3, a4, a5, a6, a7, a8, a9, a10, a11, af⟩ := box_of g1
        obtain ⟨b0, b1, b2, b3, b4, b5, b6, b7, b8, b9, b10, b11, bf⟩ := box_of g2
        have G2 := hidI g2
        clear g1 g2 hg hr hat hne hown
        go_wp2
        refine bodyPost_ret (results_cell_row rfl _ _ (w.heap.size + 1 + 1) 164 _ (0, 0) _ rfl (put12 ((pother (by omega)).trans G2.out)) Try.underlying164 rfl (by kernel_rfl)) rfl ?_
        obtain ⟨m', s'⟩ := HM.out.grow_la (x := y) (below4 w _ _ _ _) HG.out HR.out (by (first | rw [size4] | rw [size3]); exact HAT.out) (((Off.refl _ _ _).set (b := w.heap.size) (Nat.le_refl _) (by (first | rw [size4] | rw [size3]); omega) _ _).set12 (b := w.heap.size + 1 + 1) (by omega) (by (first | rw [size4] | rw [size3]); omega) _ _ _ _ _ _ _ _ _ _ _ _) (by omega)
        exact ⟨_, { q with la := q.la ++ [y] }, z, by simp [pv], HY.out, m', s'⟩
      | false =>
        have HY : Hid (Is (bd x (addEp C y)) { q with ep := q.ep ++ [y] } z) := is_went HX.out hz (by rw [addEp, if_neg hn, hd]; rfl)
        have hown := fun o1 o2 o3 o4 => ((((HM.out.own.ep.alloc o1).alloc o2).alloc o3).alloc o4)
        clear hp hm
        unfold pv epV
        go_enter Try.func200, Try.ntmps200
        go_wp2_with (at_builtin; refine app_row _ rfl _ _ 33 rfl base 79 i0 _ 4 56 Try.underlying33 hi hz0 hz1 hz2 rfl (by decide) (by decide) S.ep q.ep.length _ (by rfl) (hown _ _ _ _) (w.heap.size + 1 + 1 + 1) (epL y) (by rfl) (by first | exact (new4 w _ _ _ _).2.2.2 | exact (new3 w _ _ _).2.2) rfl (by intro u hu; simp [epL] at hu; rcases hu with rfl | rfl | rfl | rfl <;> rfl) (by omega) (by have := HM.out.base; (first | rw [size4] | rw [size3]); omega) ?_)
        intro r' w2 hr hg hat
        have HR := hidI hr
        have HG := hidI hg
        have HAT := hidI hat
        have hne := fun b hb => wpos (W := w) HM.out.own (Nat.le_refl _) (r := S.ep.blk) (fun k e => .inr (.inr (.inl e))) b hb
        have g1 := (hg.block w.heap.size (by (first | rw [size4] | rw [size3]); omega) (hne _ (Nat.le_refl _))).trans (by first | exact (new4 w _ _ _ _).1 | exact (new3 w _ _ _).1)
        have g2 := (hg.block (w.heap.size + 1 + 1) (by (first | rw [size4] | rw [size3]); omega) (hne _ (by omega))).trans (by first | exact (new4 w _ _ _ _).2.2.1 | exact (new3 w _ _ _).2.1)
        obtain ⟨a0, a1, a2, a3, a4, a5, a6, a7, a8, a9, a10, a11, af⟩ := box_of g1
        obtain ⟨b0, b1, b2, b3, b4, b5, b6, b7, b8, b9, b10, b11, bf⟩ := box_of g2
        have G2 := hidI g2
        clear g1 g2 hg hr hat hne hown
        go_wp2
        refine bodyPost_ret (results_cell_row rfl _ _ (w.heap.size + 1 + 1) 164 _ (0, 0) _ rfl (put12 ((pother (by omega)).trans G2.out)) Try.underlying164 rfl (by kernel_rfl)) rfl ?_
        obtain ⟨m', s'⟩ := HM.out.grow_ep (x := y) (below4 w _ _ _ _) HG.out HR.out (by (first | rw [size4] | rw [size3]); exact HAT.out) (((Off.refl _ _ _).set (b := w.heap.size) (Nat.le_refl _) (by (first | rw [size4] | rw [size3]); omega) _ _).set12 (b := w.heap.size + 1 + 1) (by omega) (by (first | rw [size4] | rw [size3]); omega) _ _ _ _ _ _ _ _ _ _ _ _) (by omega)
        exact ⟨_, { q with ep := q.ep ++ [y] }, z, by simp [pv], HY.out, m', s'⟩
  · have dz : decide (0 ≤ z) = true := decide_eq_true (by omega)
    have HY : Hid (Is (bd x (addEp C y)) q z) := is_stay HX.out hz
    clear hp hm
    unfold pv epV
    go_enter Try.func200, Try.ntmps200
    go_wp2
    refine bodyPost_ret (results_cell_row rfl _ _ (w.heap.size + 1 + 1) 164 _ (0, 0) _ rfl ((new3 w _ _ _).2.2) Try.underlying164 rfl (by kernel_rfl)) rfl ?_
    exact out_below rfl HY.out HM.out (below3 w _ _ _)
set_option maxRecDepth 100000 in
set_option maxHeartbeats 3200000 in
theorem l4Stmt_spec (C : Cx) (gt cap base : Nat) (x : PR) (S : Sv) (q : PS) (z : Int) (d : Nat) (k : Int) (nm : ByteArray) (w : World) (hx : Is x q z) (hm : Mem C gt cap base S q w) (hp : z < 0 → 1 ≤ q.pos) :
    Calls Try.prog 174 #[pv C gt cap S q z d, .int .i64 k, .string nm] w (Out C gt cap base (bd x (addSt C k nm)) d S w) := by
  obtain ⟨i0, hi, hz0, hz1, hz2⟩ := info_parts Try.infoStmt
  have HM := hidI hm
  have HX := hidI hx
  have hlex : q.ex.length ≤ 300 := by have := hm.inv.ex; omega
  have hlst : q.st.length ≤ 80 := by have := hm.inv.st; omega
  clear hx
  by_cases hz : z < 0
  · have dz : decide (0 ≤ z) = false := decide_eq_false (by omega)
    by_cases hn : 80 ≤ q.st.length
    · have HY : Hid (Is (bd x (addSt C k nm)) q (here C (q.pos - 1))) := is_full HX.out hz (if_pos hn)
      have qn : decide ((80 : Int) ≤ (q.st.length : Int)) = true := decide_eq_true (by omega)
      have hpos := hp hz
      clear hp hm
      unfold pv
      go_enter Try.func174, Try.ntmps174
      go_wp2_with fail
      refine (l4Full_spec C gt cap base S q z d _ ((HM.out.alloc _).alloc _) hz hpos).mono ?_
      rintro e w2 ⟨rfl, hb2⟩
      have hbb : Below w.heap.size w w2 := two_below hb2
      have G3 : Hid (_ = _) := (hb2.block (w.heap.size + 1) (by rw [size2]; omega)).trans (new2 w _ _)
      obtain ⟨c0, c1, c2, c3, c4, c5, c6, c7, c8, c9, c10, c11, cf⟩ := box_of G3.out
      clear hb2
      unfold pv
      go_wp2
      refine bodyPost_ret (results_cell_row rfl _ _ (w.heap.size + 1) 164 _ (0, 0) _ rfl (put12 G3.out) Try.underlying164 rfl (by kernel_rfl)) rfl ?_
      exact out_below rfl HY.out HM.out (below12 hbb (by omega) _ _ _ _ _ _ _ _ _ _ _ _)
    · have qn : decide ((80 : Int) ≤ (q.st.length : Int)) = false := decide_eq_false (by omega)
      have HY : Hid (Is (bd x (addSt C k nm)) { q with st := q.st ++ [⟨k, nm, (q.ex.length : Int) - 1⟩] } z) := is_went HX.out hz (if_neg hn)
      have hown := fun o1 o2 o3 => (((HM.out.own.st.alloc o1).alloc o2).alloc o3)
      clear hp hm
      unfold pv
      go_enter Try.func174, Try.ntmps174
      go_wp2_with (at_builtin; refine app_row _ rfl _ _ 34 rfl base 159 i0 _ 3 32 Try.underlying34 hi hz0 hz1 hz2 rfl (by decide) (by decide) S.st q.st.length _ (by rfl) (hown _ _ _) (w.heap.size + 1 + 1) (smL ⟨k, nm, (q.ex.length : Int) - 1⟩) (by rfl) (by first | exact (new4 w _ _ _ _).2.2.2 | exact (new3 w _ _ _).2.2) rfl (by intro u hu; simp [smL] at hu; rcases hu with rfl | rfl | rfl <;> rfl) (by omega) (by have := HM.out.base; (first | rw [size4] | rw [size3]); omega) ?_)
      intro r' w2 hr hg hat
      have HR := hidI hr
      have HG := hidI hg
      have HAT := hidI hat
      have hne := fun b hb => wpos (W := w) HM.out.own (Nat.le_refl _) (r := S.st.blk) (fun k e => .inr (.inr (.inr (.inl e)))) b hb
      have g1 := (hg.block w.heap.size (by (first | rw [size4] | rw [size3]); omega) (hne _ (Nat.le_refl _))).trans (by first | exact (new4 w _ _ _ _).1 | exact (new3 w _ _ _).1)
      have g2 := (hg.block (w.heap.size + 1) (by (first | rw [size4] | rw [size3]); omega) (hne _ (by omega))).trans (by first | exact (new4 w _ _ _ _).2.2.1 | exact (new3 w _ _ _).2.1)
      obtain ⟨a0, a1, a2, a3, a4, a5, a6, a7, a8, a9, a10, a11, af⟩ := box_of g1
      obtain ⟨b0, b1, b2, b3, b4, b5, b6, b7, b8, b9, b10, b11, bf⟩ := box_of g2
      have G2 := hidI g2
      clear g1 g2 hg hr hat hne hown
      go_wp2
      refine bodyPost_ret (results_cell_row rfl _ _ (w.heap.size + 1) 164 _ (0, 0) _ rfl (put12 ((pother (by omega)).trans G2.out)) Try.underlying164 rfl (by kernel_rfl)) rfl ?_
      obtain ⟨m', s'⟩ := HM.out.grow_st (x := ⟨k, nm, (q.ex.length : Int) - 1⟩) (below3 w _ _ _) HG.out HR.out (by (first | rw [size4] | rw [size3]); exact HAT.out) (((Off.refl _ _ _).set (b := w.heap.size) (Nat.le_refl _) (by (first | rw [size4] | rw [size3]); omega) _ _).set12 (b := w.heap.size + 1) (by omega) (by (first | rw [size4] | rw [size3]); omega) _ _ _ _ _ _ _ _ _ _ _ _) (by omega)
      exact ⟨_, { q with st := q.st ++ [⟨k, nm, (q.ex.length : Int) - 1⟩] }, z, by simp [pv], HY.out, m', s'⟩
  · have dz : decide (0 ≤ z) = true := decide_eq_true (by omega)
    have HY : Hid (Is (bd x (addSt C k nm)) q z) := is_stay HX.out hz
    clear hp hm
    unfold pv
    go_enter Try.func174, Try.ntmps174
    go_wp2
    refine bodyPost_ret (results_cell_row rfl _ _ (w.heap.size + 1) 164 _ (0, 0) _ rfl (new2 w _ _) Try.underlying164 rfl (by kernel_rfl)) rfl ?_
    exact out_below rfl HY.out HM.out (below2 w _ _)
end Go.Proofs.Ytdbpknmoacjodaa
namespace Go.Proofs.Ytdbpknmoacjodaa
open Go.RowKit Go.PlainAid Go.Sort

theorem OwnR.drew {w : World} {base size n : Nat} {e : TypeId} {r : Rw} {xs : List Value} (h : OwnR w base e size r n xs) : OwnR w.drew base e size r n xs := h
theorem ex_ones (x : Ex) : ∀ u ∈ exL x, u.oneCell' = true := by
  intro u hu
  simp [exL] at hu
  rcases hu with rfl | rfl | rfl | rfl | rfl | rfl <;> rfl
end Go.Proofs.Ytdbpknmoacjodaa
namespace Go.Proofs.Ytdbpknmoacjodaa
open Go.RowKit Go.PlainAid Go.Sort

theorem im_ones (x : Im) : ∀ u ∈ imL x, u.oneCell' = true := by
  intro u hu
  simp [imL] at hu
  rcases hu with rfl | rfl | rfl <;> rfl
end Go.Proofs.Ytdbpknmoacjodaa
