/-
  What plainName,plainOrDefault and itemWord of impl's parser answer: the walks.
  What room of impl's parser answers: the walks.
-/
import Derived.Lib.QuietBelow
import Derived.Test.YtcidlffeeninbaaGreatClImplParseAToImplParseB
namespace Go.Proofs.YtcidlffeeninbaaGreat
set_option maxRecDepth 100000
set_option maxHeartbeats 1600000
open Go.RowKit Go.PlainAid Go.Sort
theorem znq {C:Cx} {q:PS} (h:zu (ze C q.pos).text C.scr=true):zl C false q= .error (zs C q.pos):=by
 have:zG C q.pos false=false:=by rw[zG,h];simp
 rw[zl,this];rfl
theorem znr {C:Cx} {o:Bool} {q:PS} (h:((ze C q.pos).kind==1)=false):zl C o q= .error (zs C q.pos):=by
 have:zG C q.pos o=false:=by rw[zG,h];rfl
 rw[zl,this];rfl
theorem zns {C:Cx} {q:PS} (h:((ze C q.pos).kind==1)=true) (w:zu (ze C q.pos).text C.scr=false):zl C false q= .ok (adv q,(ze C q.pos).text):=by
 have:zG C q.pos false=true:=by rw[zG,h,w];rfl
 rw[zl,this];rfl
theorem zd0 (C:Cx) (K D z H:Nat) (S:Sv) (q:PS) (w:World) (h:IM C K D z H S q w):
  Calls Tryz.prog 184 #[.pointer (some ⟨H,0,none⟩)] w (zT C K D z H (zl C false q) (·.1) (fun a=>.string a.2) S w):=by
 have U:=zc h
 have aa:=h.lt
 obtain⟨_,_,_,c3,_,_,_,_,_,_,cf⟩:=zah h.cells
 have C3:=zc c3
 have ab:=zcM
 have cP: ∀d O,Calls Tryz.prog 183 #[.pointer (some ⟨H,0,none⟩)] (grow (redrawn w d) O) fun e L=>e= .returned (.agg #[.int .i64 (ze C q.pos).kind,.string (ze C q.pos).text,.int .i64 (ze C q.pos).num,.int .i64 (ze C q.pos).pos])∧∃p:Regrown,L=grow (redrawn w p.d) p.os:=
  fun d O=>Calls.regrown_of (zb3 C K D z H S q _ (U.out.later (below_regrown w d O)))
 have X: ∀d O,Calls Tryz.prog 204 #[.string (ze C q.pos).text,.bool C.scr] (grow (redrawn w d) O) fun e L=>e= .returned (.bool (zu (ze C q.pos).text C.scr))∧∃p:Regrown,L=grow (redrawn w p.d) p.os:=
  fun d O=>Calls.regrown_of ((znp _ _ _).mono (by rintro e w' ⟨rfl,rfl⟩;exact⟨rfl,Below.refl _ _⟩))
 clear h c3
 cases h1:zu (ze C q.pos).text C.scr with
 |true=>
  have V:Hid (zl C false q= .error (zs C q.pos)):=znq h1
  rw[h1] at X
  go_enter Tryz.func184,Tryz.ntmps184
  go_wp2_with fail
  have k3:=cell_regrown C3.out
  refine wp_region_quiet_below (by kernel_rfl) (by kernel_rfl) ?_
  repeat (go_big_quiet_step (first|exact cP _ _|exact X _ _))
  refine wpQuiet_nil ?_
  intro _ J
  obtain⟨⟨I,A⟩,E⟩:=J
  subst E
  have M:Hid (IM C K D z H S q (grow (redrawn w I) A)):=U.out.later (below_regrown w I A)
  go_wp2_with fail
  refine (zeC C K D z H S q _ M.out).mono ?_
  rintro e Y ⟨rfl,N⟩
  have HB:Hid (Below z w Y):=((below_regrown w I A).mono U.out.mem.base).trans (N.mono M.out.mem.base)
  unfold Pan
  go_wp2
  refine⟨rfl,?_⟩
  rw[V.out]
  exact⟨rfl,HB.out⟩
 |false=>
  rw[h1] at X
  cases h2:((ze C q.pos).kind==1) with
  |true=>
   have V:Hid (zl C false q= .ok (adv q,(ze C q.pos).text)):=zns h2 h1
   go_enter Tryz.func184,Tryz.ntmps184
   go_wp2_with fail
   have k3:=cell_regrown C3.out
   refine wp_region_quiet_below (by kernel_rfl) (by kernel_rfl) ?_
   repeat (go_big_quiet_step (first|exact cP _ _|exact X _ _))
   refine wpQuiet_nil ?_
   intro _ J
   obtain⟨⟨I,A⟩,E⟩:=J
   subst E
   have Z:Hid (Below w.heap.size w (grow (redrawn w I) A)):=below_regrown w I A
   have M:Hid (IM C K D z H S q (grow (redrawn w I) A)):=U.out.later Z.out
   go_wp2_with fail
   refine (zdW C K D z H S q 1 _ M.out h2 (by decide)).mono ?_
   rintro e Y ⟨rfl,m2,s2⟩
   have HM:=zc m2
   have HS:Hid (IS H S w S Y):=(IS.below Z.out).trans s2
   clear m2 s2
   unfold tkV
   go_wp2
   go_ret
   rw[V.out]
   exact⟨rfl,S,HM.out,HS.out⟩
  |false=>
   have V:Hid (zl C false q= .error (zs C q.pos)):=znr h2
   go_enter Tryz.func184,Tryz.ntmps184
   go_wp2_with fail
   have k3:=cell_regrown C3.out
   refine wp_region_quiet_below (by kernel_rfl) (by kernel_rfl) ?_
   repeat (go_big_quiet_step (first|exact cP _ _|exact X _ _))
   refine wpQuiet_nil ?_
   intro _ J
   obtain⟨⟨I,A⟩,E⟩:=J
   subst E
   have Z:Hid (Below w.heap.size w (grow (redrawn w I) A)):=below_regrown w I A
   have M:Hid (IM C K D z H S q (grow (redrawn w I) A)):=U.out.later Z.out
   go_wp2_with fail
   refine (zjf C K D z H S q 1 _ M.out h2).mono ?_
   rintro e Y ⟨rfl,N⟩
   have HB:Hid (Below z w Y):=(Z.out.mono U.out.mem.base).trans (N.mono M.out.mem.base)
   unfold Pan
   go_wp2
   refine⟨rfl,?_⟩
   rw[V.out]
   exact⟨rfl,HB.out⟩
theorem znt {C:Cx} {q:PS} (h:isT C q.pos 1 sDefault=true):zl C true q= .ok (adv q,(ze C q.pos).text):=by
 have w:=h
 simp only[isT,Bool.and_eq_true] at w
 have z:((ze C q.pos).text.toList==[100,101,102,97,117,108,116])=true:=by
  have e:sDefault.toList=[100,101,102,97,117,108,116]:=by simp
  rw[←e];exact w.2
 have:zG C q.pos true=true:=by rw[zG,w.1,z];simp
 rw[zl,this];rfl
theorem znu {C:Cx} {q:PS} (h:isT C q.pos 1 sDefault=false):zl C true q=zl C false q:=by
 have e:sDefault.toList=[100,101,102,97,117,108,116]:=by simp
 have:zG C q.pos true=zG C q.pos false:=by
  simp only[isT,e] at h
  simp only[zG]
  cases w:((ze C q.pos).kind==1) with
  |false=>rfl
  |true=>
   rw[w,Bool.true_and] at h
   rw[h]
   simp
 rw[zl,zl,this]
theorem zfo (C:Cx) (E A z D:Nat) (S:Sv) (q:PS) (w:World) (h:IM C E A z D S q w):
  Calls Tryz.prog 218 #[.pointer (some ⟨D,0,none⟩)] w (zT C E A z D (zl C true q) (·.1) (fun a=>.string a.2) S w):=by
 have K:=zc h
 have aa:=zcM
 clear h
 cases I:isT C q.pos 1 sDefault with
 |true=>
  have N:Hid (zl C true q= .ok (adv q,(ze C q.pos).text)):=znt I
  have h2:((ze C q.pos).kind==1)=true:=by simp only[isT,Bool.and_eq_true] at I;exact I.1
  go_enter Tryz.func218,Tryz.ntmps218
  go_wp2_with fail
  refine (zck C E A z D S q 1 sDefault _ K.out).mono ?_
  rintro e V ⟨rfl,H⟩
  rw[I]
  have O:=zc H
  have X:Hid (IM C E A z D S q V):=K.out.later H
  clear H
  go_wp2_with fail
  refine (zdW C E A z D S q 1 _ X.out h2 (by decide)).mono ?_
  rintro e M ⟨rfl,L,J⟩
  have Z:=zc L
  have U:Hid (IS D S w S M):=(IS.below O.out).trans J
  clear L J
  unfold tkV
  go_wp2
  go_ret
  rw[N.out]
  exact⟨rfl,S,Z.out,U.out⟩
 |false=>
  have N:Hid (zl C true q=zl C false q):=znu I
  go_enter Tryz.func218,Tryz.ntmps218
  go_wp2_with fail
  refine (zck C E A z D S q 1 sDefault _ K.out).mono ?_
  rintro e V ⟨rfl,H⟩
  rw[I]
  have O:=zc H
  have X:Hid (IM C E A z D S q V):=K.out.later H
  clear H
  go_wp2_with fail
  refine (zd0 C E A z D S q _ X.out).mono ?_
  cases hn:zl C false q with
  |ok a=>
   rintro e M ⟨rfl,S2,L,J⟩
   have Z:=zc L
   have U:Hid (IS D S w S2 M):=(IS.below O.out).trans J
   clear L J
   go_wp2
   go_ret
   rw[N.out,hn]
   exact⟨rfl,S2,Z.out,U.out⟩
  |error p=>
   rintro e M ⟨rfl,Y⟩
   have HB:Hid (Below z w M):=(O.out.mono K.out.mem.base).trans Y
   unfold Pan
   go_wp2
   refine⟨rfl,?_⟩
   rw[N.out,hn]
   exact⟨rfl,HB.out⟩
theorem zdX (q:Nat) (c m:Int) (w:World) (h: ¬m≤c):
  Calls Tryz.prog 207 #[.pointer (some ⟨q,0,none⟩),.int .i64 c,.int .i64 m] w fun e z=>e= .returned (.tuple #[])∧z=w:=by
 have A:decide (m≤c)=false:=decide_eq_false h
 go_enter Tryz.func207,Tryz.ntmps207
 go_wp2
 go_end0
 exact⟨rfl,rfl⟩
end Go.Proofs.YtcidlffeeninbaaGreat
