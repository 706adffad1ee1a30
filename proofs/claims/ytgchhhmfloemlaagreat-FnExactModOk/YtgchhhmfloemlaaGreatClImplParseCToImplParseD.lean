/-
  What plainName,plainOrDefault and itemWord of impl's parser answer: the walks.
  What room of impl's parser answers: the walks.
-/
import Derived.Lib.QuietBelow
import Derived.Test.YtgchhhmfloemlaaGreatClImplParseAToImplParseB
namespace Go.Proofs.YtgchhhmfloemlaaGreat
open Go.RowKit Go.PlainAid Go.Sort

theorem zxq {C : Cx} {q : PS} (h : resB (zd C q.pos).text C.scr = true) : zl C false q = .error (here C q.pos):=by
 have : zba C q.pos false = false:=by rw [zba,h]; simp
 rw [zl,this]; rfl
theorem zvb {C : Cx} {o : Bool} {q : PS} (h : ((zd C q.pos).kind == 1) = false) : zl C o q = .error (here C q.pos):=by
 have : zba C q.pos o = false:=by rw [zba,h]; rfl
 rw [zl,this]; rfl
theorem zbjt {C : Cx} {q : PS} (h : ((zd C q.pos).kind == 1) = true) (h2 : resB (zd C q.pos).text C.scr = false) : zl C false q = .ok (adv q,(zd C q.pos).text):=by
 have : zba C q.pos false = true:=by rw [zba,h,h2]; rfl
 rw [zl,this]; rfl
set_option maxRecDepth 100000 in
set_option maxHeartbeats 1600000 in
theorem zdr (C : Cx) (gt cap base gp : Nat) (S : Sv) (q : PS) (w : World) (h : IM C gt cap base gp S q w) :
  Calls Tryz.prog 138 #[.pointer (some ⟨gp,0,none⟩)] w (IOut C gt cap base gp (zl C false q) (·.1) (fun a => .string a.2) S w):=by
 have HH : Hid (IM C gt cap base gp S q w):=h
 have hlt:=h.lt
 obtain ⟨_,_,_,c3,_,_,_,_,_,_,cf⟩:=zz h.cells
 have C3 : Hid (_ = _):=c3
 have hf1:=zeb
 have cP : ∀ d os,Calls Tryz.prog 137 #[.pointer (some ⟨gp,0,none⟩)] (grow (redrawn w d) os) fun e w'' => e = .returned (.agg #[.int .i64 (zd C q.pos).kind,.string (zd C q.pos).text,.int .i64 (zd C q.pos).num,.int .i64 (zd C q.pos).pos]) ∧ ∃ p : Regrown,w'' = grow (redrawn w p.d) p.os :=
  fun d os => Calls.regrown_of (zcy C gt cap base gp S q _ (HH.out.later (below_regrown w d os)))
 have cW : ∀ d os,Calls Tryz.prog 169 #[.string (zd C q.pos).text,.bool C.scr] (grow (redrawn w d) os) fun e w'' => e = .returned (.bool (resB (zd C q.pos).text C.scr)) ∧ ∃ p : Regrown,w'' = grow (redrawn w p.d) p.os :=
  fun d os => Calls.regrown_of ((zbam _ _ _).mono (by rintro e w' ⟨rfl,rfl⟩; exact ⟨rfl,Below.refl _ _⟩))
 clear h c3
 cases h1 : resB (zd C q.pos).text C.scr with
 | true =>
  have HV : Hid (zl C false q = .error (here C q.pos)):=zxq h1
  rw [h1] at cW
  go_enter Tryz.func138,Tryz.ntmps138
  go_wp2_with fail
  have k3:=cell_regrown C3.out
  refine wp_region_quiet_below (by kernel_rfl) (by kernel_rfl) ?_
  repeat (go_big_quiet_step (first | exact cP _ _ | exact cW _ _))
  refine wpQuiet_nil ?_
  intro _ hw'
  obtain ⟨⟨dq,osq⟩,hw''⟩:=hw'
  subst hw''
  have H1 : Hid (IM C gt cap base gp S q (grow (redrawn w dq) osq)):=HH.out.later (below_regrown w dq osq)
  go_wp2_with fail
  refine (zhk C gt cap base gp S q _ H1.out).mono ?_
  rintro e w2 ⟨rfl,hb2⟩
  have HB : Hid (Below base w w2):=((below_regrown w dq osq).mono HH.out.mem.base).trans (hb2.mono H1.out.mem.base)
  unfold Pan
  go_wp2
  refine ⟨rfl,?_⟩
  rw [HV.out]
  exact ⟨rfl,HB.out⟩
 | false =>
  rw [h1] at cW
  cases h2 : ((zd C q.pos).kind == 1) with
  | true =>
   have HV : Hid (zl C false q = .ok (adv q,(zd C q.pos).text)):=zbjt h2 h1
   go_enter Tryz.func138,Tryz.ntmps138
   go_wp2_with fail
   have k3:=cell_regrown C3.out
   refine wp_region_quiet_below (by kernel_rfl) (by kernel_rfl) ?_
   repeat (go_big_quiet_step (first | exact cP _ _ | exact cW _ _))
   refine wpQuiet_nil ?_
   intro _ hw'
   obtain ⟨⟨dq,osq⟩,hw''⟩:=hw'
   subst hw''
   have HQ : Hid (Below w.heap.size w (grow (redrawn w dq) osq)):=below_regrown w dq osq
   have H1 : Hid (IM C gt cap base gp S q (grow (redrawn w dq) osq)):=HH.out.later HQ.out
   go_wp2_with fail
   refine (zhz C gt cap base gp S q 1 _ H1.out h2 (by decide)).mono ?_
   rintro e w2 ⟨rfl,m2,s2⟩
   have HM : Hid (IM C gt cap base gp S (adv q) w2):=m2
   have HS : Hid (IS gp S w S w2):=(IS.below HQ.out).trans s2
   clear m2 s2
   unfold tkV
   go_wp2
   go_ret
   rw [HV.out]
   exact ⟨rfl,S,HM.out,HS.out⟩
  | false =>
   have HV : Hid (zl C false q = .error (here C q.pos)):=zvb h2
   go_enter Tryz.func138,Tryz.ntmps138
   go_wp2_with fail
   have k3:=cell_regrown C3.out
   refine wp_region_quiet_below (by kernel_rfl) (by kernel_rfl) ?_
   repeat (go_big_quiet_step (first | exact cP _ _ | exact cW _ _))
   refine wpQuiet_nil ?_
   intro _ hw'
   obtain ⟨⟨dq,osq⟩,hw''⟩:=hw'
   subst hw''
   have HQ : Hid (Below w.heap.size w (grow (redrawn w dq) osq)):=below_regrown w dq osq
   have H1 : Hid (IM C gt cap base gp S q (grow (redrawn w dq) osq)):=HH.out.later HQ.out
   go_wp2_with fail
   refine (zzi C gt cap base gp S q 1 _ H1.out h2).mono ?_
   rintro e w2 ⟨rfl,hb2⟩
   have HB : Hid (Below base w w2):=(HQ.out.mono HH.out.mem.base).trans (hb2.mono H1.out.mem.base)
   unfold Pan
   go_wp2
   refine ⟨rfl,?_⟩
   rw [HV.out]
   exact ⟨rfl,HB.out⟩

theorem zbgf {C : Cx} {q : PS} (h : isT C q.pos 1 sDefault = true) : zl C true q = .ok (adv q,(zd C q.pos).text):=by
 have h':=h
 simp only [isT,Bool.and_eq_true] at h'
 have h2 : ((zd C q.pos).text.toList == [100,101,102,97,117,108,116]) = true:=by
  have e : sDefault.toList = [100,101,102,97,117,108,116]:=by simp
  rw [← e]; exact h'.2
 have : zba C q.pos true = true:=by rw [zba,h'.1,h2]; simp
 rw [zl,this]; rfl
theorem zban {C : Cx} {q : PS} (h : isT C q.pos 1 sDefault = false) : zl C true q = zl C false q:=by
 have e : sDefault.toList = [100,101,102,97,117,108,116]:=by simp
 have : zba C q.pos true = zba C q.pos false:=by
  simp only [isT,e] at h
  simp only [zba]
  cases h1 : ((zd C q.pos).kind == 1) with
  | false => rfl
  | true =>
   rw [h1,Bool.true_and] at h
   rw [h]
   simp
 rw [zl,zl,this]
set_option maxRecDepth 100000 in
set_option maxHeartbeats 1600000 in
theorem zev (C : Cx) (gt cap base gp : Nat) (S : Sv) (q : PS) (w : World) (h : IM C gt cap base gp S q w) :
  Calls Tryz.prog 188 #[.pointer (some ⟨gp,0,none⟩)] w (IOut C gt cap base gp (zl C true q) (·.1) (fun a => .string a.2) S w):=by
 have HH : Hid (IM C gt cap base gp S q w):=h
 have hf1:=zeb
 clear h
 cases h1 : isT C q.pos 1 sDefault with
 | true =>
  have HV : Hid (zl C true q = .ok (adv q,(zd C q.pos).text)):=zbgf h1
  have h2 : ((zd C q.pos).kind == 1) = true:=by simp only [isT,Bool.and_eq_true] at h1; exact h1.1
  go_enter Tryz.func188,Tryz.ntmps188
  go_wp2_with fail
  refine (zdm C gt cap base gp S q 1 sDefault _ HH.out).mono ?_
  rintro e w1 ⟨rfl,hb⟩
  rw [h1]
  have HQ : Hid (Below w.heap.size w w1):=hb
  have H1 : Hid (IM C gt cap base gp S q w1):=HH.out.later hb
  clear hb
  go_wp2_with fail
  refine (zhz C gt cap base gp S q 1 _ H1.out h2 (by decide)).mono ?_
  rintro e w2 ⟨rfl,m2,s2⟩
  have HM : Hid (IM C gt cap base gp S (adv q) w2):=m2
  have HS : Hid (IS gp S w S w2):=(IS.below HQ.out).trans s2
  clear m2 s2
  unfold tkV
  go_wp2
  go_ret
  rw [HV.out]
  exact ⟨rfl,S,HM.out,HS.out⟩
 | false =>
  have HV : Hid (zl C true q = zl C false q):=zban h1
  go_enter Tryz.func188,Tryz.ntmps188
  go_wp2_with fail
  refine (zdm C gt cap base gp S q 1 sDefault _ HH.out).mono ?_
  rintro e w1 ⟨rfl,hb⟩
  rw [h1]
  have HQ : Hid (Below w.heap.size w w1):=hb
  have H1 : Hid (IM C gt cap base gp S q w1):=HH.out.later hb
  clear hb
  go_wp2_with fail
  refine (zdr C gt cap base gp S q _ H1.out).mono ?_
  cases hn : zl C false q with
  | ok a =>
   rintro e w2 ⟨rfl,S2,m2,s2⟩
   have HM : Hid (IM C gt cap base gp S2 a.1 w2):=m2
   have HS : Hid (IS gp S w S2 w2):=(IS.below HQ.out).trans s2
   clear m2 s2
   go_wp2
   go_ret
   rw [HV.out,hn]
   exact ⟨rfl,S2,HM.out,HS.out⟩
  | error p =>
   rintro e w2 ⟨rfl,hb2⟩
   have HB : Hid (Below base w w2):=(HQ.out.mono HH.out.mem.base).trans hb2
   unfold Pan
   go_wp2
   refine ⟨rfl,?_⟩
   rw [HV.out,hn]
   exact ⟨rfl,HB.out⟩
end Go.Proofs.YtgchhhmfloemlaaGreat
namespace Go.Proofs.YtgchhhmfloemlaaGreat
open Go.RowKit Go.PlainAid Go.Sort

set_option maxRecDepth 100000 in
theorem zia (gp : Nat) (c m : Int) (w : World) (h : ¬ m ≤ c) :
  Calls Tryz.prog 172 #[.pointer (some ⟨gp,0,none⟩),.int .i64 c,.int .i64 m] w fun e w' => e = .returned (.tuple #[]) ∧ w' = w:=by
 have hd : decide (m ≤ c) = false:=decide_eq_false h
 go_enter Tryz.func172,Tryz.ntmps172
 go_wp2
 go_end0
 exact ⟨rfl,rfl⟩
end Go.Proofs.YtgchhhmfloemlaaGreat
