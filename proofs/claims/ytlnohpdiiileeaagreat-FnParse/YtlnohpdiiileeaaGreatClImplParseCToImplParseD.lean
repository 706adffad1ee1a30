/-
  What plainName,plainOrDefault and itemWord of impl's parser answer: the walks.
  What room of impl's parser answers: the walks.
-/
import Derived.Lib.QuietBelow
import Derived.Test.YtlnohpdiiileeaaGreatClImplParseAToImplParseB
namespace Go.Proofs.YtlnohpdiiileeaaGreat
set_option maxRecDepth 100000
set_option maxHeartbeats 1600000
open Go.RowKit Go.PlainAid Go.Sort
theorem zbej {C:Cx} {q:PS} (h:resB (zd C q.pos).text C.scr=true):zk C false q= .error (here C q.pos):=by
 have:plainB C q.pos false=false:=by rw[plainB,h];simp
 rw[zk,this];rfl
theorem zbbi {C:Cx} {o:Bool} {q:PS} (h:((zd C q.pos).kind==1)=false):zk C o q= .error (here C q.pos):=by
 have:plainB C q.pos o=false:=by rw[plainB,h];rfl
 rw[zk,this];rfl
theorem zbsj {C:Cx} {q:PS} (h:((zd C q.pos).kind==1)=true) (h2:resB (zd C q.pos).text C.scr=false):zk C false q= .ok (adv q,(zd C q.pos).text):=by
 have:plainB C q.pos false=true:=by rw[plainB,h,h2];rfl
 rw[zk,this];rfl
theorem zeo (C:Cx) (gt cap base gp:Nat) (S:Sv) (q:PS) (w:World) (h:IM C gt cap base gp S q w):
  Calls Tryz.prog 233 #[.pointer (some ⟨gp,0,none⟩)] w (IOut C gt cap base gp (zk C false q) (·.1) (fun a=>.string a.2) S w):=by
 have HH:=hidI h
 have hlt:=h.lt
 obtain⟨_,_,_,c3,_,_,_,_,_,_,cf⟩:=zbe h.cells
 have C3:=hidI c3
 have hf1:=zey
 have cP: ∀d os,Calls Tryz.prog 232 #[.pointer (some ⟨gp,0,none⟩)] (grow (redrawn w d) os) fun e w''=>e= .returned (.agg #[.int .i64 (zd C q.pos).kind,.string (zd C q.pos).text,.int .i64 (zd C q.pos).num,.int .i64 (zd C q.pos).pos])∧∃p:Regrown,w''=grow (redrawn w p.d) p.os:=
  fun d os=>Calls.regrown_of (zdl C gt cap base gp S q _ (HH.out.later (below_regrown w d os)))
 have cW: ∀d os,Calls Tryz.prog 290 #[.string (zd C q.pos).text,.bool C.scr] (grow (redrawn w d) os) fun e w''=>e= .returned (.bool (resB (zd C q.pos).text C.scr))∧∃p:Regrown,w''=grow (redrawn w p.d) p.os:=
  fun d os=>Calls.regrown_of ((zbif _ _ _).mono (by rintro e w' ⟨rfl,rfl⟩;exact⟨rfl,Below.refl _ _⟩))
 clear h c3
 cases h1:resB (zd C q.pos).text C.scr with
 |true=>
  have HV:Hid (zk C false q= .error (here C q.pos)):=zbej h1
  rw[h1] at cW
  go_enter Tryz.func233,Tryz.ntmps233
  go_wp2_with fail
  have k3:=cell_regrown C3.out
  refine wp_region_quiet_below (by kernel_rfl) (by kernel_rfl) ?_
  repeat (go_big_quiet_step (first|exact cP _ _|exact cW _ _))
  refine wpQuiet_nil ?_
  intro _ hw'
  obtain⟨⟨dq,osq⟩,hw''⟩:=hw'
  subst hw''
  have H1:Hid (IM C gt cap base gp S q (grow (redrawn w dq) osq)):=HH.out.later (below_regrown w dq osq)
  go_wp2_with fail
  refine (zjd C gt cap base gp S q _ H1.out).mono ?_
  rintro e w2 ⟨rfl,hb2⟩
  have HB:Hid (Below base w w2):=((below_regrown w dq osq).mono HH.out.mem.base).trans (hb2.mono H1.out.mem.base)
  unfold Pan
  go_wp2
  refine⟨rfl,?_⟩
  rw[HV.out]
  exact⟨rfl,HB.out⟩
 |false=>
  rw[h1] at cW
  cases h2:((zd C q.pos).kind==1) with
  |true=>
   have HV:Hid (zk C false q= .ok (adv q,(zd C q.pos).text)):=zbsj h2 h1
   go_enter Tryz.func233,Tryz.ntmps233
   go_wp2_with fail
   have k3:=cell_regrown C3.out
   refine wp_region_quiet_below (by kernel_rfl) (by kernel_rfl) ?_
   repeat (go_big_quiet_step (first|exact cP _ _|exact cW _ _))
   refine wpQuiet_nil ?_
   intro _ hw'
   obtain⟨⟨dq,osq⟩,hw''⟩:=hw'
   subst hw''
   have HQ:Hid (Below w.heap.size w (grow (redrawn w dq) osq)):=below_regrown w dq osq
   have H1:Hid (IM C gt cap base gp S q (grow (redrawn w dq) osq)):=HH.out.later HQ.out
   go_wp2_with fail
   refine (zju C gt cap base gp S q 1 _ H1.out h2 (by decide)).mono ?_
   rintro e w2 ⟨rfl,m2,s2⟩
   have HM:=hidI m2
   have HS:Hid (IS gp S w S w2):=(IS.below HQ.out).trans s2
   clear m2 s2
   unfold tkV
   go_wp2
   go_ret
   rw[HV.out]
   exact⟨rfl,S,HM.out,HS.out⟩
  |false=>
   have HV:Hid (zk C false q= .error (here C q.pos)):=zbbi h2
   go_enter Tryz.func233,Tryz.ntmps233
   go_wp2_with fail
   have k3:=cell_regrown C3.out
   refine wp_region_quiet_below (by kernel_rfl) (by kernel_rfl) ?_
   repeat (go_big_quiet_step (first|exact cP _ _|exact cW _ _))
   refine wpQuiet_nil ?_
   intro _ hw'
   obtain⟨⟨dq,osq⟩,hw''⟩:=hw'
   subst hw''
   have HQ:Hid (Below w.heap.size w (grow (redrawn w dq) osq)):=below_regrown w dq osq
   have H1:Hid (IM C gt cap base gp S q (grow (redrawn w dq) osq)):=HH.out.later HQ.out
   go_wp2_with fail
   refine (zbgh C gt cap base gp S q 1 _ H1.out h2).mono ?_
   rintro e w2 ⟨rfl,hb2⟩
   have HB:Hid (Below base w w2):=(HQ.out.mono HH.out.mem.base).trans (hb2.mono H1.out.mem.base)
   unfold Pan
   go_wp2
   refine⟨rfl,?_⟩
   rw[HV.out]
   exact⟨rfl,HB.out⟩
theorem zbpd {C:Cx} {q:PS} (h:isT C q.pos 1 sDefault=true):zk C true q= .ok (adv q,(zd C q.pos).text):=by
 have h':=h
 simp only[isT,Bool.and_eq_true] at h'
 have h2:((zd C q.pos).text.toList==[100,101,102,97,117,108,116])=true:=by
  have e:sDefault.toList=[100,101,102,97,117,108,116]:=by simp
  rw[←e];exact h'.2
 have:plainB C q.pos true=true:=by rw[plainB,h'.1,h2];simp
 rw[zk,this];rfl
theorem zbig {C:Cx} {q:PS} (h:isT C q.pos 1 sDefault=false):zk C true q=zk C false q:=by
 have e:sDefault.toList=[100,101,102,97,117,108,116]:=by simp
 have:plainB C q.pos true=plainB C q.pos false:=by
  simp only[isT,e] at h
  simp only[plainB]
  cases h1:((zd C q.pos).kind==1) with
  |false=>rfl
  |true=>
   rw[h1,Bool.true_and] at h
   rw[h]
   simp
 rw[zk,zk,this]
theorem zfv (C:Cx) (gt cap base gp:Nat) (S:Sv) (q:PS) (w:World) (h:IM C gt cap base gp S q w):
  Calls Tryz.prog 315 #[.pointer (some ⟨gp,0,none⟩)] w (IOut C gt cap base gp (zk C true q) (·.1) (fun a=>.string a.2) S w):=by
 have HH:=hidI h
 have hf1:=zey
 clear h
 cases h1:isT C q.pos 1 sDefault with
 |true=>
  have HV:Hid (zk C true q= .ok (adv q,(zd C q.pos).text)):=zbpd h1
  have h2:((zd C q.pos).kind==1)=true:=by simp only[isT,Bool.and_eq_true] at h1;exact h1.1
  go_enter Tryz.func315,Tryz.ntmps315
  go_wp2_with fail
  refine (zek C gt cap base gp S q 1 sDefault _ HH.out).mono ?_
  rintro e w1 ⟨rfl,hb⟩
  rw[h1]
  have HQ:=hidI hb
  have H1:Hid (IM C gt cap base gp S q w1):=HH.out.later hb
  clear hb
  go_wp2_with fail
  refine (zju C gt cap base gp S q 1 _ H1.out h2 (by decide)).mono ?_
  rintro e w2 ⟨rfl,m2,s2⟩
  have HM:=hidI m2
  have HS:Hid (IS gp S w S w2):=(IS.below HQ.out).trans s2
  clear m2 s2
  unfold tkV
  go_wp2
  go_ret
  rw[HV.out]
  exact⟨rfl,S,HM.out,HS.out⟩
 |false=>
  have HV:Hid (zk C true q=zk C false q):=zbig h1
  go_enter Tryz.func315,Tryz.ntmps315
  go_wp2_with fail
  refine (zek C gt cap base gp S q 1 sDefault _ HH.out).mono ?_
  rintro e w1 ⟨rfl,hb⟩
  rw[h1]
  have HQ:=hidI hb
  have H1:Hid (IM C gt cap base gp S q w1):=HH.out.later hb
  clear hb
  go_wp2_with fail
  refine (zeo C gt cap base gp S q _ H1.out).mono ?_
  cases hn:zk C false q with
  |ok a=>
   rintro e w2 ⟨rfl,S2,m2,s2⟩
   have HM:=hidI m2
   have HS:Hid (IS gp S w S2 w2):=(IS.below HQ.out).trans s2
   clear m2 s2
   go_wp2
   go_ret
   rw[HV.out,hn]
   exact⟨rfl,S2,HM.out,HS.out⟩
  |error p=>
   rintro e w2 ⟨rfl,hb2⟩
   have HB:Hid (Below base w w2):=(HQ.out.mono HH.out.mem.base).trans hb2
   unfold Pan
   go_wp2
   refine⟨rfl,?_⟩
   rw[HV.out,hn]
   exact⟨rfl,HB.out⟩
theorem zjv (gp:Nat) (c m:Int) (w:World) (h: ¬m≤c):
  Calls Tryz.prog 293 #[.pointer (some ⟨gp,0,none⟩),.int .i64 c,.int .i64 m] w fun e w'=>e= .returned (.tuple #[])∧w'=w:=by
 have hd:decide (m≤c)=false:=decide_eq_false h
 go_enter Tryz.func293,Tryz.ntmps293
 go_wp2
 go_end0
 exact⟨rfl,rfl⟩
end Go.Proofs.YtlnohpdiiileeaaGreat
