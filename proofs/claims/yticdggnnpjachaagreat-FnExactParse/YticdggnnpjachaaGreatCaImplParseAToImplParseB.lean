/-
  What the smallest methods of impl's parser answer: peek, refuse, comes, passes: the walks.
  What the readers of one token of impl's parser answer: isWord, take, passName, plainName, plainOrDefault, itemWord: the walks.
-/
import Derived.Deep.QuietTactic
import Derived.BigQuiet
import Derived.Test.YticdggnnpjachaaGreatCaImplParseMem
namespace Go.Proofs.YticdggnnpjachaaGreat
open Go.RowKit Go.PlainAid

set_option maxRecDepth 100000 in
set_option maxHeartbeats 1600000 in
theorem peek_any (C : Cx) (gt cap base gp : Nat) (S : Sv) (q : PS) (w : World) (h : IM C gt cap base gp S q w) :
    Calls Tryz.prog 151 #[.pointer (some ⟨gp, 0, none⟩)] w fun e w' => e = .returned (tkV (tokAt C q.pos)) ∧ Below w.heap.size w w' := by
  obtain ⟨c0, c1, c2, c3, _, _, _, _, _, _, cf⟩ := box10_of h.cells
  have hlt := h.lt
  have hglt := (ownT_lt h.mem.tok).1
  have hfew := h.mem.few
  by_cases hp : q.pos < C.ts.length
  · obtain ⟨t0, t1, t2, t3⟩ := h.mem.tok.cells hp (d := ⟨0, sNone, 0, C.fin⟩)
    change _ = some (Value.int .i64 (tokAt C q.pos).kind) at t0
    change _ = some (Value.string (tokAt C q.pos).text) at t1
    change _ = some (Value.int .i64 (tokAt C q.pos).num) at t2
    change _ = some (Value.int .i64 (tokAt C q.pos).pos) at t3
    unfold tkV
    generalize tokAt C q.pos = t at t0 t1 t2 t3
    have hpi : (q.pos : Int) < (C.ts.length : Int) := by omega
    clear h
    go_enter Tryz.func151, Tryz.ntmps151
    go_wp2_with fail
    go_quiet (fail)
    go_wp2
    go_region
    all_goals
      go_wp2
      refine bodyPost_ret (results_cell_row rfl _ _ w.heap.size 111 _ (0, 0) _ rfl (put4 (show ((w.alloc _).drewN _).heap[w.heap.size]? = _ from heap_alloc_new w _)) Tryz.underlying111 rfl (by kernel_rfl)) rfl ?_
      exact ⟨rfl, below4s (below_drewN ((Below.refl _ _).alloc (Nat.le_refl _) _) _) (Nat.le_refl _) _ _ _ _⟩
  · rw [tokAt_none (by omega)]
    unfold tkV
    have hpi : ¬ (q.pos : Int) < (C.ts.length : Int) := by omega
    clear h
    go_enter Tryz.func151, Tryz.ntmps151
    go_wp2_with fail
    go_quiet (fail)
    go_wp2
    refine bodyPost_ret (results_cell_row rfl _ _ w.heap.size 111 _ (0, 0) _ rfl (put4 (show ((w.alloc _).drewN _).heap[w.heap.size]? = _ from heap_alloc_new w _)) Tryz.underlying111 rfl (by kernel_rfl)) rfl ?_
    exact ⟨rfl, below4s (below_drewN ((Below.refl _ _).alloc (Nat.le_refl _) _) _) (Nat.le_refl _) _ _ _ _⟩

theorem run_field0 (a c d : Int) (b : ByteArray) (w : World) : (Instr.field 111 (.agg #[.int .i64 a, .string b, .int .i64 c, .int .i64 d]) 0).run Tryz.prog w = .ok (.int .i64 a) w := by kernel_rfl
theorem run_field1 (a c d : Int) (b : ByteArray) (w : World) : (Instr.field 111 (.agg #[.int .i64 a, .string b, .int .i64 c, .int .i64 d]) 1).run Tryz.prog w = .ok (.string b) w := by kernel_rfl
theorem run_field2 (a c d : Int) (b : ByteArray) (w : World) : (Instr.field 111 (.agg #[.int .i64 a, .string b, .int .i64 c, .int .i64 d]) 2).run Tryz.prog w = .ok (.int .i64 c) w := by kernel_rfl
theorem run_field3 (a c d : Int) (b : ByteArray) (w : World) : (Instr.field 111 (.agg #[.int .i64 a, .string b, .int .i64 c, .int .i64 d]) 3).run Tryz.prog w = .ok (.int .i64 d) w := by kernel_rfl
set_option maxRecDepth 100000 in
theorem refuse_any (C : Cx) (gt cap base gp : Nat) (S : Sv) (q : PS) (w : World) (h : IM C gt cap base gp S q w) :
    Calls Tryz.prog 180 #[.pointer (some ⟨gp, 0, none⟩)] w fun e w' => e = Pan (here C q.pos) ∧ Below w.heap.size w w' := by
  have HH := hidI h
  clear h
  have hf := run_field3
  go_enter Tryz.func180, Tryz.ntmps180
  go_wp2_with fail
  refine (peek_any C gt cap base gp S q _ HH.out).mono ?_
  rintro e w1 ⟨rfl, hb⟩
  unfold tkV
  go_wp2
  exact ⟨rfl, rfl, hb⟩

set_option maxRecDepth 100000 in
theorem comes_any (C : Cx) (gt cap base gp : Nat) (S : Sv) (q : PS) (k : Int) (x : ByteArray) (w : World) (h : IM C gt cap base gp S q w) :
    Calls Tryz.prog 195 #[.pointer (some ⟨gp, 0, none⟩), .int .i64 k, .string x] w fun e w' => e = .returned (.bool (isT C q.pos k x)) ∧ Below w.heap.size w w' := by
  have HH := hidI h
  clear h
  have HT : Hid (tkV (tokAt C q.pos) = .agg #[.int .i64 (tokAt C q.pos).kind, .string (tokAt C q.pos).text, .int .i64 (tokAt C q.pos).num, .int .i64 (tokAt C q.pos).pos]) := rfl
  cases e1 : ((tokAt C q.pos).kind == k) with
  | true =>
    cases e2 : ((tokAt C q.pos).text.toList == x.toList) with
    | true =>
      have HI : Hid (isT C q.pos k x = true) := by show isT C q.pos k x = true; rw [isT, e1, e2]; rfl
      clear HT
      go_enter Tryz.func195, Tryz.ntmps195
      go_wp2_with fail
      refine (peek_any C gt cap base gp S q _ HH.out).mono ?_
      rintro e w1 ⟨rfl, hb⟩
      unfold tkV
      generalize tokAt C q.pos = t at e1 e2 ⊢
      go_wp2
      go_ret
      exact ⟨ret_bool HI.out.symm, hb.alloc hb.size _⟩
    | false =>
      have HI : Hid (isT C q.pos k x = false) := by show isT C q.pos k x = false; rw [isT, e1, e2]; rfl
      clear HT
      go_enter Tryz.func195, Tryz.ntmps195
      go_wp2_with fail
      refine (peek_any C gt cap base gp S q _ HH.out).mono ?_
      rintro e w1 ⟨rfl, hb⟩
      unfold tkV
      generalize tokAt C q.pos = t at e1 e2 ⊢
      go_wp2
      go_ret
      exact ⟨ret_bool HI.out.symm, hb.alloc hb.size _⟩
  | false =>
    have HI : Hid (isT C q.pos k x = false) := isT_kind e1
    clear HT
    go_enter Tryz.func195, Tryz.ntmps195
    go_wp2_with fail
    refine (peek_any C gt cap base gp S q _ HH.out).mono ?_
    rintro e w1 ⟨rfl, hb⟩
    unfold tkV
    generalize tokAt C q.pos = t at e1 ⊢
    go_wp2
    go_ret
    exact ⟨ret_bool HI.out.symm, hb.alloc hb.size _⟩

set_option maxRecDepth 100000 in
theorem passes_any (C : Cx) (gt cap base gp : Nat) (S : Sv) (q : PS) (k : Int) (x : ByteArray) (w : World) (h : IM C gt cap base gp S q w) (hk : k ≠ 0) :
    Calls Tryz.prog 173 #[.pointer (some ⟨gp, 0, none⟩), .int .i64 k, .string x] w fun e w' => e = .returned (.bool (isT C q.pos k x)) ∧ IM C gt cap base gp S (if isT C q.pos k x then adv q else q) w' ∧ IS gp S w S w' := by
  have HH := hidI h
  have hfew := h.mem.few
  clear h
  cases hi : isT C q.pos k x with
  | true =>
    have hp : q.pos < C.ts.length := isT_lt hi hk
    go_enter Tryz.func173, Tryz.ntmps173
    go_wp2_with fail
    refine (comes_any C gt cap base gp S q k x _ HH.out).mono ?_
    rintro e w1 ⟨rfl, hb⟩
    rw [hi]
    have h1 : Hid (IM C gt cap base gp S q w1) := HH.out.later hb
    obtain ⟨c0, c1, c2, c3, _, _, _, _, _, _, cf⟩ := box10_of h1.out.cells
    go_wp2
    go_ret
    exact ⟨rfl, h1.out.adv hp, (IS.below hb).set _ _⟩
  | false =>
    go_enter Tryz.func173, Tryz.ntmps173
    go_wp2_with fail
    refine (comes_any C gt cap base gp S q k x _ HH.out).mono ?_
    rintro e w1 ⟨rfl, hb⟩
    rw [hi]
    go_wp2
    go_ret
    exact ⟨rfl, HH.out.later hb, IS.below hb⟩
end Go.Proofs.YticdggnnpjachaaGreat
namespace Go.Proofs.YticdggnnpjachaaGreat
open Go.RowKit Go.PlainAid

set_option maxRecDepth 100000 in
set_option maxHeartbeats 3200000 in
theorem isWord_any (s : ByteArray) (scr : Bool) (w : World) :
    Calls Tryz.prog 181 #[.string s, .bool scr] w fun e w' => e = .returned (.bool (resB s scr)) ∧ w' = w := by
  cases e0 : (s.toList == [105, 109, 112, 111, 114, 116]) with
  | true =>
    have HV : Hid (resB s scr = true) := by show resB s scr = true; simp [resB, e0]
    go_enter Tryz.func181, Tryz.ntmps181
    go_wp2
    go_ret
    exact ⟨ret_bool HV.out.symm, rfl⟩
  | false =>
    cases e1 : (s.toList == [101, 120, 112, 111, 114, 116]) with
    | true =>
      have HV : Hid (resB s scr = true) := by show resB s scr = true; simp [resB, e0, e1]
      go_enter Tryz.func181, Tryz.ntmps181
      go_wp2
      go_ret
      exact ⟨ret_bool HV.out.symm, rfl⟩
    | false =>
      cases e2 : (s.toList == [100, 101, 102, 97, 117, 108, 116]) with
      | true =>
        have HV : Hid (resB s scr = true) := by show resB s scr = true; simp [resB, e0, e1, e2]
        go_enter Tryz.func181, Tryz.ntmps181
        go_wp2
        go_ret
        exact ⟨ret_bool HV.out.symm, rfl⟩
      | false =>
        cases e3 : (s.toList == [108, 101, 116]) with
        | true =>
          have HV : Hid (resB s scr = true) := by show resB s scr = true; simp [resB, e0, e1, e2, e3]
          go_enter Tryz.func181, Tryz.ntmps181
          go_wp2
          go_ret
          exact ⟨ret_bool HV.out.symm, rfl⟩
        | false =>
          cases e4 : (s.toList == [102, 117, 110, 99, 116, 105, 111, 110]) with
          | true =>
            have HV : Hid (resB s scr = true) := by show resB s scr = true; simp [resB, e0, e1, e2, e3, e4]
            go_enter Tryz.func181, Tryz.ntmps181
            go_wp2
            go_ret
            exact ⟨ret_bool HV.out.symm, rfl⟩
          | false =>
            cases e5 : (s.toList == [114, 101, 116, 117, 114, 110]) with
            | true =>
              have HV : Hid (resB s scr = true) := by show resB s scr = true; simp [resB, e0, e1, e2, e3, e4, e5]
              go_enter Tryz.func181, Tryz.ntmps181
              go_wp2
              go_ret
              exact ⟨ret_bool HV.out.symm, rfl⟩
            | false =>
              cases e6 : (s.toList == [112, 114, 105, 110, 116]) with
              | true =>
                have HV : Hid (resB s scr = true) := by show resB s scr = true; simp [resB, e0, e1, e2, e3, e4, e5, e6]
                go_enter Tryz.func181, Tryz.ntmps181
                go_wp2
                go_ret
                exact ⟨ret_bool HV.out.symm, rfl⟩
              | false =>
                cases e7 : (s.toList == [116, 104, 114, 111, 119]) with
                | true =>
                  have HV : Hid (resB s scr = true) := by show resB s scr = true; simp [resB, e0, e1, e2, e3, e4, e5, e6, e7]
                  go_enter Tryz.func181, Tryz.ntmps181
                  go_wp2
                  go_ret
                  exact ⟨ret_bool HV.out.symm, rfl⟩
                | false =>
                  cases e8 : (s.toList == [102, 97, 105, 108]) with
                  | true =>
                    have HV : Hid (resB s scr = scr) := by show resB s scr = scr; simp [resB, e0, e1, e2, e3, e4, e5, e6, e7, e8]
                    go_enter Tryz.func181, Tryz.ntmps181
                    go_wp2
                    go_ret
                    exact ⟨ret_bool HV.out.symm, rfl⟩
                  | false =>
                    cases e9 : (s.toList == [117, 110, 100, 101, 102]) with
                    | true =>
                      have HV : Hid (resB s scr = scr) := by show resB s scr = scr; simp [resB, e0, e1, e2, e3, e4, e5, e6, e7, e8, e9]
                      go_enter Tryz.func181, Tryz.ntmps181
                      go_wp2
                      go_ret
                      exact ⟨ret_bool HV.out.symm, rfl⟩
                    | false =>
                      have HV : Hid (resB s scr = false) := by show resB s scr = false; simp [resB, e0, e1, e2, e3, e4, e5, e6, e7, e8, e9]
                      go_enter Tryz.func181, Tryz.ntmps181
                      go_wp2
                      go_ret
                      exact ⟨ret_bool HV.out.symm, rfl⟩
set_option maxRecDepth 100000 in
set_option maxHeartbeats 1600000 in
theorem take_yes (C : Cx) (gt cap base gp : Nat) (S : Sv) (q : PS) (k : Int) (w : World) (h : IM C gt cap base gp S q w) (hk : ((tokAt C q.pos).kind == k) = true) (h0 : k ≠ 0) :
    Calls Tryz.prog 182 #[.pointer (some ⟨gp, 0, none⟩), .int .i64 k] w fun e w' => e = .returned (tkV (tokAt C q.pos)) ∧ IM C gt cap base gp S (adv q) w' ∧ IS gp S w S w' := by
  have HH := hidI h
  have hfew := h.mem.few
  have hp : q.pos < C.ts.length := kind_lt hk h0
  have hk2 : ((tokAt C q.pos).kind != k) = false := by rw [bne, hk]; rfl
  clear h
  go_enter Tryz.func182, Tryz.ntmps182
  go_wp2_with fail
  refine (peek_any C gt cap base gp S q _ (HH.out.alloc _)).mono ?_
  rintro e w1 ⟨rfl, hb⟩
  have HB : Hid (Below w.heap.size w w1) := ((Below.refl _ _).alloc (Nat.le_refl _) _).trans (hb.mono (by rw [alloc_size]; omega))
  have HG : Hid (w1.heap[w.heap.size]? = _) := (hb.block _ (by rw [alloc_size]; omega)).trans (heap_alloc_new w _)
  have hw1 : w.heap.size < w1.heap.size := by have := hb.size; rw [alloc_size] at this; omega
  have h1 : Hid (IM C gt cap base gp S q w1) := HH.out.later HB.out
  have hgp : gp < w.heap.size := HH.out.lt
  have hgp1 : gp < w1.heap.size := h1.out.lt
  obtain ⟨c0, c1, c2, c3, _, _, _, _, _, _, cf⟩ := box10_of h1.out.cells
  obtain ⟨d0, d1, d2, d3, df⟩ := four_of HG.out
  clear hb
  unfold tkV
  generalize htk : tokAt C q.pos = t at hk hk2 ⊢
  have HTK := hidI htk
  clear htk
  go_wp2
  refine bodyPost_ret (results_cell_row rfl _ _ w.heap.size 111 _ (0, 0) _ rfl (alloc_keep (put4 ((pother (c := gp) (by omega)).trans HG.out))) Tryz.underlying111 rfl (by kernel_rfl)) rfl ?_
  refine ⟨by rw [HTK.out]; rfl, ?_, ?_⟩
  · exact (IM.scratch (b := w.heap.size) (h1.out.adv hp) (by omega) (by have := (ownT_lt HH.out.mem.tok).1; omega) (fun g => by have := (HH.out.mem.own.has g).2; omega) _ _ _ _).alloc _
  · exact (IS.scratch (b := w.heap.size) ((IS.below HB.out).set _ _) (Nat.le_refl _) _ _ _ _).alloc _

set_option maxRecDepth 100000 in
set_option maxHeartbeats 1600000 in
theorem take_no (C : Cx) (gt cap base gp : Nat) (S : Sv) (q : PS) (k : Int) (w : World) (h : IM C gt cap base gp S q w) (hk : ((tokAt C q.pos).kind == k) = false) :
    Calls Tryz.prog 182 #[.pointer (some ⟨gp, 0, none⟩), .int .i64 k] w fun e w' => e = Pan (here C q.pos) ∧ Below w.heap.size w w' := by
  have HH := hidI h
  have hk2 : ((tokAt C q.pos).kind != k) = true := by rw [bne, hk]; rfl
  clear h
  go_enter Tryz.func182, Tryz.ntmps182
  go_wp2_with fail
  refine (peek_any C gt cap base gp S q _ (HH.out.alloc _)).mono ?_
  rintro e w1 ⟨rfl, hb⟩
  have HB : Hid (Below w.heap.size w w1) := ((Below.refl _ _).alloc (Nat.le_refl _) _).trans (hb.mono (by rw [alloc_size]; omega))
  have h1 : Hid (IM C gt cap base gp S q w1) := HH.out.later HB.out
  clear hb
  unfold tkV
  go_wp2_with fail
  refine (refuse_any C gt cap base gp S q _ (h1.out.alloc _)).mono ?_
  rintro e w2 ⟨rfl, hb2⟩
  have HB2 : Hid (Below w.heap.size w w2) := (HB.out.alloc HB.out.size _).trans (hb2.mono (by rw [alloc_size]; have := HB.out.size; omega))
  unfold Pan
  go_wp2
  exact ⟨rfl, rfl, HB2.out⟩

set_option maxRecDepth 100000 in
theorem passName_any (C : Cx) (gt cap base gp : Nat) (S : Sv) (q : PS) (x : ByteArray) (w : World) (h : IM C gt cap base gp S q w) :
    Calls Tryz.prog 171 #[.pointer (some ⟨gp, 0, none⟩), .string x] w (IOut C gt cap base gp (tokP C 1 x q) id (fun _ => .tuple #[]) S w) := by
  have HH := hidI h
  clear h
  cases hi : isT C q.pos 1 x with
  | true =>
    have HV : Hid (tokP C 1 x q = .ok (adv q)) := if_pos hi
    go_enter Tryz.func171, Tryz.ntmps171
    go_wp2_with fail
    refine (passes_any C gt cap base gp S q 1 x _ HH.out (by decide)).mono ?_
    rintro e w1 ⟨rfl, h1, s1⟩
    rw [hi] at h1 ⊢
    have H1 := hidI h1
    clear h1
    go_wp2
    go_end0
    rw [HV.out]
    exact ⟨rfl, S, H1.out, s1⟩
  | false =>
    have HV : Hid (tokP C 1 x q = .error (here C q.pos)) := by show tokP C 1 x q = _; rw [tokP, hi]; rfl
    go_enter Tryz.func171, Tryz.ntmps171
    go_wp2_with fail
    refine (passes_any C gt cap base gp S q 1 x _ HH.out (by decide)).mono ?_
    rintro e w1 ⟨rfl, h1, s1⟩
    rw [hi] at h1 ⊢
    have H1 := hidI h1
    have HS : Hid (Below base w w1) := s1.under HH.out.mem.base HH.out.mem.own HH.out.ge
    clear h1 s1
    go_wp2_with fail
    refine (refuse_any C gt cap base gp S q _ H1.out).mono ?_
    rintro e w2 ⟨rfl, hb2⟩
    have HB : Hid (Below base w w2) := HS.out.trans (hb2.mono H1.out.mem.base)
    unfold Pan
    go_wp2
    refine ⟨rfl, ?_⟩
    rw [HV.out]
    exact ⟨rfl, HB.out⟩

end Go.Proofs.YticdggnnpjachaaGreat
