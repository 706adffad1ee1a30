/-
  What plainName, plainOrDefault and itemWord of impl's parser answer: the walks.
  What room of impl's parser answers: the walks.
-/
import Derived.Lib.QuietBelow
import Derived.Test.YticdggnnpjachaaGreatCaImplParseAToImplParseB
namespace Go.Proofs.YticdggnnpjachaaGreat
open Go.RowKit Go.PlainAid Go.Sort

theorem name_no_res {C : Cx} {q : PS} (h : resB (tokAt C q.pos).text C.scr = true) : nameP C false q = .error (here C q.pos) := by
  have : plainB C q.pos false = false := by rw [plainB, h]; simp
  rw [nameP, this]; rfl
theorem name_no_kind {C : Cx} {o : Bool} {q : PS} (h : ((tokAt C q.pos).kind == 1) = false) : nameP C o q = .error (here C q.pos) := by
  have : plainB C q.pos o = false := by rw [plainB, h]; rfl
  rw [nameP, this]; rfl
theorem name_is {C : Cx} {q : PS} (h : ((tokAt C q.pos).kind == 1) = true) (h2 : resB (tokAt C q.pos).text C.scr = false) : nameP C false q = .ok (adv q, (tokAt C q.pos).text) := by
  have : plainB C q.pos false = true := by rw [plainB, h, h2]; rfl
  rw [nameP, this]; rfl
set_option maxRecDepth 100000 in
set_option maxHeartbeats 1600000 in
theorem plainName_any (C : Cx) (gt cap base gp : Nat) (S : Sv) (q : PS) (w : World) (h : IM C gt cap base gp S q w) :
    Calls Tryz.prog 152 #[.pointer (some ⟨gp, 0, none⟩)] w (IOut C gt cap base gp (nameP C false q) (·.1) (fun a => .string a.2) S w) := by
  have HH := hidI h
  have hlt := h.lt
  obtain ⟨_, _, _, c3, _, _, _, _, _, _, cf⟩ := box10_of h.cells
  have C3 := hidI c3
  have hf1 := run_field1
  have cP : ∀ d os, Calls Tryz.prog 151 #[.pointer (some ⟨gp, 0, none⟩)] (grow (redrawn w d) os) fun e w'' => e = .returned (.agg #[.int .i64 (tokAt C q.pos).kind, .string (tokAt C q.pos).text, .int .i64 (tokAt C q.pos).num, .int .i64 (tokAt C q.pos).pos]) ∧ ∃ p : Regrown, w'' = grow (redrawn w p.d) p.os :=
    fun d os => Calls.regrown_of (peek_any C gt cap base gp S q _ (HH.out.later (below_regrown w d os)))
  have cW : ∀ d os, Calls Tryz.prog 181 #[.string (tokAt C q.pos).text, .bool C.scr] (grow (redrawn w d) os) fun e w'' => e = .returned (.bool (resB (tokAt C q.pos).text C.scr)) ∧ ∃ p : Regrown, w'' = grow (redrawn w p.d) p.os :=
    fun d os => Calls.regrown_of ((isWord_any _ _ _).mono (by rintro e w' ⟨rfl, rfl⟩; exact ⟨rfl, Below.refl _ _⟩))
  clear h c3
  cases h1 : resB (tokAt C q.pos).text C.scr with
  | true =>
    have HV : Hid (nameP C false q = .error (here C q.pos)) := name_no_res h1
    rw [h1] at cW
    go_enter Tryz.func152, Tryz.ntmps152
    go_wp2_with fail
    have k3 := cell_regrown C3.out
    refine wp_region_quiet_below (by kernel_rfl) (by kernel_rfl) ?_
    repeat (go_big_quiet_step (first | exact cP _ _ | exact cW _ _))
    refine wpQuiet_nil ?_
    intro _ hw'
    obtain ⟨⟨dq, osq⟩, hw''⟩ := hw'
    subst hw''
    have H1 : Hid (IM C gt cap base gp S q (grow (redrawn w dq) osq)) := HH.out.later (below_regrown w dq osq)
    go_wp2_with fail
    refine (refuse_any C gt cap base gp S q _ H1.out).mono ?_
    rintro e w2 ⟨rfl, hb2⟩
    have HB : Hid (Below base w w2) := ((below_regrown w dq osq).mono HH.out.mem.base).trans (hb2.mono H1.out.mem.base)
    unfold Pan
    go_wp2
    refine ⟨rfl, ?_⟩
    rw [HV.out]
    exact ⟨rfl, HB.out⟩
  | false =>
    rw [h1] at cW
    cases h2 : ((tokAt C q.pos).kind == 1) with
    | true =>
      have HV : Hid (nameP C false q = .ok (adv q, (tokAt C q.pos).text)) := name_is h2 h1
      go_enter Tryz.func152, Tryz.ntmps152
      go_wp2_with fail
      have k3 := cell_regrown C3.out
      refine wp_region_quiet_below (by kernel_rfl) (by kernel_rfl) ?_
      repeat (go_big_quiet_step (first | exact cP _ _ | exact cW _ _))
      refine wpQuiet_nil ?_
      intro _ hw'
      obtain ⟨⟨dq, osq⟩, hw''⟩ := hw'
      subst hw''
      have HQ : Hid (Below w.heap.size w (grow (redrawn w dq) osq)) := below_regrown w dq osq
      have H1 : Hid (IM C gt cap base gp S q (grow (redrawn w dq) osq)) := HH.out.later HQ.out
      go_wp2_with fail
      refine (take_yes C gt cap base gp S q 1 _ H1.out h2 (by decide)).mono ?_
      rintro e w2 ⟨rfl, m2, s2⟩
      have HM := hidI m2
      have HS : Hid (IS gp S w S w2) := (IS.below HQ.out).trans s2
      clear m2 s2
      unfold tkV
      go_wp2
      go_ret
      rw [HV.out]
      exact ⟨rfl, S, HM.out, HS.out⟩
    | false =>
      have HV : Hid (nameP C false q = .error (here C q.pos)) := name_no_kind h2
      go_enter Tryz.func152, Tryz.ntmps152
      go_wp2_with fail
      have k3 := cell_regrown C3.out
      refine wp_region_quiet_below (by kernel_rfl) (by kernel_rfl) ?_
      repeat (go_big_quiet_step (first | exact cP _ _ | exact cW _ _))
      refine wpQuiet_nil ?_
      intro _ hw'
      obtain ⟨⟨dq, osq⟩, hw''⟩ := hw'
      subst hw''
      have HQ : Hid (Below w.heap.size w (grow (redrawn w dq) osq)) := below_regrown w dq osq
      have H1 : Hid (IM C gt cap base gp S q (grow (redrawn w dq) osq)) := HH.out.later HQ.out
      go_wp2_with fail
      refine (take_no C gt cap base gp S q 1 _ H1.out h2).mono ?_
      rintro e w2 ⟨rfl, hb2⟩
      have HB : Hid (Below base w w2) := (HQ.out.mono HH.out.mem.base).trans (hb2.mono H1.out.mem.base)
      unfold Pan
      go_wp2
      refine ⟨rfl, ?_⟩
      rw [HV.out]
      exact ⟨rfl, HB.out⟩

theorem name_def {C : Cx} {q : PS} (h : isT C q.pos 1 sDefault = true) : nameP C true q = .ok (adv q, (tokAt C q.pos).text) := by
  have h' := h
  simp only [isT, Bool.and_eq_true] at h'
  have h2 : ((tokAt C q.pos).text.toList == [100, 101, 102, 97, 117, 108, 116]) = true := by
    have e : sDefault.toList = [100, 101, 102, 97, 117, 108, 116] := by simp
    rw [← e]; exact h'.2
  have : plainB C q.pos true = true := by rw [plainB, h'.1, h2]; simp
  rw [nameP, this]; rfl
theorem name_other {C : Cx} {q : PS} (h : isT C q.pos 1 sDefault = false) : nameP C true q = nameP C false q := by
  have e : sDefault.toList = [100, 101, 102, 97, 117, 108, 116] := by simp
  have : plainB C q.pos true = plainB C q.pos false := by
    simp only [isT, e] at h
    simp only [plainB]
    cases h1 : ((tokAt C q.pos).kind == 1) with
    | false => rfl
    | true =>
      rw [h1, Bool.true_and] at h
      rw [h]
      simp
  rw [nameP, nameP, this]
set_option maxRecDepth 100000 in
set_option maxHeartbeats 1600000 in
theorem plainOrDefault_any (C : Cx) (gt cap base gp : Nat) (S : Sv) (q : PS) (w : World) (h : IM C gt cap base gp S q w) :
    Calls Tryz.prog 200 #[.pointer (some ⟨gp, 0, none⟩)] w (IOut C gt cap base gp (nameP C true q) (·.1) (fun a => .string a.2) S w) := by
  have HH := hidI h
  have hf1 := run_field1
  clear h
  cases h1 : isT C q.pos 1 sDefault with
  | true =>
    have HV : Hid (nameP C true q = .ok (adv q, (tokAt C q.pos).text)) := name_def h1
    have h2 : ((tokAt C q.pos).kind == 1) = true := by simp only [isT, Bool.and_eq_true] at h1; exact h1.1
    go_enter Tryz.func200, Tryz.ntmps200
    go_wp2_with fail
    refine (comes_any C gt cap base gp S q 1 sDefault _ HH.out).mono ?_
    rintro e w1 ⟨rfl, hb⟩
    rw [h1]
    have HQ := hidI hb
    have H1 : Hid (IM C gt cap base gp S q w1) := HH.out.later hb
    clear hb
    go_wp2_with fail
    refine (take_yes C gt cap base gp S q 1 _ H1.out h2 (by decide)).mono ?_
    rintro e w2 ⟨rfl, m2, s2⟩
    have HM := hidI m2
    have HS : Hid (IS gp S w S w2) := (IS.below HQ.out).trans s2
    clear m2 s2
    unfold tkV
    go_wp2
    go_ret
    rw [HV.out]
    exact ⟨rfl, S, HM.out, HS.out⟩
  | false =>
    have HV : Hid (nameP C true q = nameP C false q) := name_other h1
    go_enter Tryz.func200, Tryz.ntmps200
    go_wp2_with fail
    refine (comes_any C gt cap base gp S q 1 sDefault _ HH.out).mono ?_
    rintro e w1 ⟨rfl, hb⟩
    rw [h1]
    have HQ := hidI hb
    have H1 : Hid (IM C gt cap base gp S q w1) := HH.out.later hb
    clear hb
    go_wp2_with fail
    refine (plainName_any C gt cap base gp S q _ H1.out).mono ?_
    cases hn : nameP C false q with
    | ok a =>
      rintro e w2 ⟨rfl, S2, m2, s2⟩
      have HM := hidI m2
      have HS : Hid (IS gp S w S2 w2) := (IS.below HQ.out).trans s2
      clear m2 s2
      go_wp2
      go_ret
      rw [HV.out, hn]
      exact ⟨rfl, S2, HM.out, HS.out⟩
    | error p =>
      rintro e w2 ⟨rfl, hb2⟩
      have HB : Hid (Below base w w2) := (HQ.out.mono HH.out.mem.base).trans hb2
      unfold Pan
      go_wp2
      refine ⟨rfl, ?_⟩
      rw [HV.out, hn]
      exact ⟨rfl, HB.out⟩
end Go.Proofs.YticdggnnpjachaaGreat
namespace Go.Proofs.YticdggnnpjachaaGreat
open Go.RowKit Go.PlainAid Go.Sort

set_option maxRecDepth 100000 in
theorem room_yes (gp : Nat) (c m : Int) (w : World) (h : ¬ m ≤ c) :
    Calls Tryz.prog 184 #[.pointer (some ⟨gp, 0, none⟩), .int .i64 c, .int .i64 m] w fun e w' => e = .returned (.tuple #[]) ∧ w' = w := by
  have hd : decide (m ≤ c) = false := decide_eq_false h
  go_enter Tryz.func184, Tryz.ntmps184
  go_wp2
  go_end0
  exact ⟨rfl, rfl⟩
end Go.Proofs.YticdggnnpjachaaGreat
