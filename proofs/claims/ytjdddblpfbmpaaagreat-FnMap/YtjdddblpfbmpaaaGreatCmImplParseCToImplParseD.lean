/-
  What plainName,plainOrDefault and itemWord of impl's parser answer: the walks.
  What room of impl's parser answers: the walks.
-/
import Derived.Lib.QuietBelow
import Derived.Test.YtjdddblpfbmpaaaGreatCmImplParseAToImplParseB
namespace Go.Proofs.YtjdddblpfbmpaaaGreat
set_option maxRecDepth 100000
set_option maxHeartbeats 1600000
open Go.RowKit Go.PlainAid Go.Sort
theorem znh {C:Cx} {q:PS} (h:zw (ze C q.pos).text C.scr=true):zo C false q= .error (zu C q.pos):=by
 have:zH C q.pos false=false:=by rw[zH,h];simp
 rw[zo,this];rfl
theorem zni {C:Cx} {o:Bool} {q:PS} (h:((ze C q.pos).kind==1)=false):zo C o q= .error (zu C q.pos):=by
 have:zH C q.pos o=false:=by rw[zH,h];rfl
 rw[zo,this];rfl
theorem znj {C:Cx} {q:PS} (h:((ze C q.pos).kind==1)=true) (j:zw (ze C q.pos).text C.scr=false):zo C false q= .ok (adv q,(ze C q.pos).text):=by
 have:zH C q.pos false=true:=by rw[zH,h,j];rfl
 rw[zo,this];rfl
theorem zd2 (C:Cx) (U H j J:Nat) (S:Sv) (q:PS) (w:World) (h:IM C U H j J S q w):
  Calls Tryz.prog 194 #[.pointer (some ⟨J,0,none⟩)] w (zW C U H j J (zo C false q) (·.1) (fun a=>.string a.2) S w):=by
 have aa:=h.lt
 obtain⟨_,_,_,c3,_,_,_,_,_,_,cf⟩:=zag h.cells
 have C3:=zc c3
 have ab:=zcP
 have cP: ∀d O,Calls Tryz.prog 193 #[.pointer (some ⟨J,0,none⟩)] (grow (redrawn w d) O) fun e N=>e= .returned (.agg #[.int .i64 (ze C q.pos).kind,.string (ze C q.pos).text,.int .i64 (ze C q.pos).num,.int .i64 (ze C q.pos).pos])∧∃p:Regrown,N=grow (redrawn w p.d) p.os:=
  fun d O=>Calls.regrown_of (zb6 C U H j J S q _ (h.later (below_regrown w d O)))
 have Y: ∀d O,Calls Tryz.prog 215 #[.string (ze C q.pos).text,.bool C.scr] (grow (redrawn w d) O) fun e N=>e= .returned (.bool (zw (ze C q.pos).text C.scr))∧∃p:Regrown,N=grow (redrawn w p.d) p.os:=
  fun d O=>Calls.regrown_of ((zng _ _ _).mono (by rintro e w' ⟨rfl,rfl⟩;exact⟨rfl,Below.refl _ _⟩))
 clear c3
 cases h1:zw (ze C q.pos).text C.scr with
 |true=>
  have Z:Hid (zo C false q= .error (zu C q.pos)):=znh h1
  rw[h1] at Y
  go_enter Tryz.func194,Tryz.ntmps194
  go_wp2_with fail
  have k3:=cell_regrown C3.out
  refine wp_region_quiet_below (by kernel_rfl) (by kernel_rfl) ?_
  repeat (go_big_quiet_step (first|exact cP _ _|exact Y _ _))
  refine wpQuiet_nil ?_
  intro _ I
  obtain⟨⟨V,A⟩,z⟩:=I
  subst z
  have L:=h.later (below_regrown w V A)
  go_wp2_with fail
  refine (ze6 C U H j J S q _ L).mono ?_
  rintro e w2 ⟨rfl,M⟩
  have HB:=((below_regrown w V A).mono h.mem.base).trans (M.mono L.mem.base)
  unfold Pan
  go_wp2
  refine⟨rfl,?_⟩
  rw[Z.out]
  exact⟨rfl,HB⟩
 |false=>
  rw[h1] at Y
  cases h2:((ze C q.pos).kind==1) with
  |true=>
   have Z:Hid (zo C false q= .ok (adv q,(ze C q.pos).text)):=znj h2 h1
   go_enter Tryz.func194,Tryz.ntmps194
   go_wp2_with fail
   have k3:=cell_regrown C3.out
   refine wp_region_quiet_below (by kernel_rfl) (by kernel_rfl) ?_
   repeat (go_big_quiet_step (first|exact cP _ _|exact Y _ _))
   refine wpQuiet_nil ?_
   intro _ I
   obtain⟨⟨V,A⟩,z⟩:=I
   subst z
   have X:=below_regrown w V A
   have L:=h.later X
   go_wp2_with fail
   refine (zdX C U H j J S q 1 _ L h2 (by decide)).mono ?_
   rintro e w2 ⟨rfl,m2,s2⟩
   have HM:=zc m2
   have HS:IS J S w S w2:=(IS.below X).trans s2
   clear m2 s2
   unfold tkV
   go_wp2
   go_ret
   rw[Z.out]
   exact⟨rfl,S,HM.out,HS⟩
  |false=>
   have Z:Hid (zo C false q= .error (zu C q.pos)):=zni h2
   go_enter Tryz.func194,Tryz.ntmps194
   go_wp2_with fail
   have k3:=cell_regrown C3.out
   refine wp_region_quiet_below (by kernel_rfl) (by kernel_rfl) ?_
   repeat (go_big_quiet_step (first|exact cP _ _|exact Y _ _))
   refine wpQuiet_nil ?_
   intro _ I
   obtain⟨⟨V,A⟩,z⟩:=I
   subst z
   have X:=below_regrown w V A
   have L:=h.later X
   go_wp2_with fail
   refine (zjm C U H j J S q 1 _ L h2).mono ?_
   rintro e w2 ⟨rfl,M⟩
   have HB:=(X.mono h.mem.base).trans (M.mono L.mem.base)
   unfold Pan
   go_wp2
   refine⟨rfl,?_⟩
   rw[Z.out]
   exact⟨rfl,HB⟩
theorem znk {C:Cx} {q:PS} (h:isT C q.pos 1 sDefault=true):zo C true q= .ok (adv q,(ze C q.pos).text):=by
 have j:=h
 simp only[isT,Bool.and_eq_true] at j
 have z:((ze C q.pos).text.toList==[100,101,102,97,117,108,116])=true:=by
  have e:sDefault.toList=[100,101,102,97,117,108,116]:=by simp
  rw[←e];exact j.2
 have:zH C q.pos true=true:=by rw[zH,j.1,z];simp
 rw[zo,this];rfl
theorem znl {C:Cx} {q:PS} (h:isT C q.pos 1 sDefault=false):zo C true q=zo C false q:=by
 have e:sDefault.toList=[100,101,102,97,117,108,116]:=by simp
 have:zH C q.pos true=zH C q.pos false:=by
  simp only[isT,e] at h
  simp only[zH]
  cases j:((ze C q.pos).kind==1) with
  |false=>rfl
  |true=>
   rw[j,Bool.true_and] at h
   rw[h]
   simp
 rw[zo,zo,this]
theorem zfm (C:Cx) (J z j A:Nat) (S:Sv) (q:PS) (w:World) (h:IM C J z j A S q w):
  Calls Tryz.prog 230 #[.pointer (some ⟨A,0,none⟩)] w (zW C J z j A (zo C true q) (·.1) (fun a=>.string a.2) S w):=by
 have aa:=zcP
 cases I:isT C q.pos 1 sDefault with
 |true=>
  have N:Hid (zo C true q= .ok (adv q,(ze C q.pos).text)):=znk I
  have h2:((ze C q.pos).kind==1)=true:=by simp only[isT,Bool.and_eq_true] at I;exact I.1
  go_enter Tryz.func230,Tryz.ntmps230
  go_wp2_with fail
  refine (zcm C J z j A S q 1 sDefault _ h).mono ?_
  rintro e w1 ⟨rfl,H⟩
  rw[I]
  have V:=h.later H
  go_wp2_with fail
  refine (zdX C J z j A S q 1 _ V h2 (by decide)).mono ?_
  rintro e O ⟨rfl,L,M⟩
  have U:=zc L
  have X:IS A S w S O:=(IS.below H).trans M
  clear L M
  unfold tkV
  go_wp2
  go_ret
  rw[N.out]
  exact⟨rfl,S,U.out,X⟩
 |false=>
  have N:Hid (zo C true q=zo C false q):=znl I
  go_enter Tryz.func230,Tryz.ntmps230
  go_wp2_with fail
  refine (zcm C J z j A S q 1 sDefault _ h).mono ?_
  rintro e w1 ⟨rfl,H⟩
  rw[I]
  have V:=h.later H
  go_wp2_with fail
  refine (zd2 C J z j A S q _ V).mono ?_
  cases hn:zo C false q with
  |ok a=>
   rintro e O ⟨rfl,Z,L,M⟩
   have U:=zc L
   have X:IS A S w Z O:=(IS.below H).trans M
   clear L M
   go_wp2
   go_ret
   rw[N.out,hn]
   exact⟨rfl,Z,U.out,X⟩
  |error p=>
   rintro e O ⟨rfl,Y⟩
   have HB:=(H.mono h.mem.base).trans Y
   unfold Pan
   go_wp2
   refine⟨rfl,?_⟩
   rw[N.out,hn]
   exact⟨rfl,HB⟩
theorem zdY (j:Nat) (c m:Int) (w:World) (h: ¬m≤c):
  Calls Tryz.prog 218 #[.pointer (some ⟨j,0,none⟩),.int .i64 c,.int .i64 m] w fun e w'=>e= .returned (.tuple #[])∧w'=w:=by
 have q:decide (m≤c)=false:=decide_eq_false h
 go_enter Tryz.func218,Tryz.ntmps218
 go_wp2
 go_end0
 exact⟨rfl,rfl⟩
end Go.Proofs.YtjdddblpfbmpaaaGreat
