/-
  What plainName,plainOrDefault and itemWord of impl's parser answer: the walks.
  What room of impl's parser answers: the walks.
-/
import Derived.Lib.QuietBelow
import Derived.Test.YticdggnnpjachaaGreatCcImplParseAToImplParseB
namespace Go.Proofs.YticdggnnpjachaaGreat
set_option maxRecDepth 100000
set_option maxHeartbeats 1600000
open Go.RowKit Go.PlainAid Go.Sort
theorem zks {C:Cx} {q:PS} (h:zs (ze C q.pos).text C.scr=true):zh C false q= .error (zq C q.pos):=by
 have:zB C q.pos false=false:=by rw[zB,h];simp
 rw[zh,this];rfl
theorem zkt {C:Cx} {o:Bool} {q:PS} (h:((ze C q.pos).kind==1)=false):zh C o q= .error (zq C q.pos):=by
 have:zB C q.pos o=false:=by rw[zB,h];rfl
 rw[zh,this];rfl
theorem zku {C:Cx} {q:PS} (h:((ze C q.pos).kind==1)=true) (j:zs (ze C q.pos).text C.scr=false):zh C false q= .ok (adv q,(ze C q.pos).text):=by
 have:zB C q.pos false=true:=by rw[zB,h,j];rfl
 rw[zh,this];rfl
theorem zcM (C:Cx) (H o j A:Nat) (S:Sv) (q:PS) (w:World) (h:IM C H o j A S q w):
  Calls Tryz.prog 152 #[.pointer (some ⟨A,0,none⟩)] w (zN C H o j A (zh C false q) (·.1) (fun a=>.string a.2) S w):=by
 have L:=zc h
 have ab:=h.lt
 obtain⟨_,_,_,c3,_,_,_,_,_,_,cf⟩:=zaa h.cells
 have C3:=zc c3
 have aa:=zco
 have Z: ∀d M,Calls Tryz.prog 151 #[.pointer (some ⟨A,0,none⟩)] (grow (redrawn w d) M) fun e I=>e= .returned (.agg #[.int .i64 (ze C q.pos).kind,.string (ze C q.pos).text,.int .i64 (ze C q.pos).num,.int .i64 (ze C q.pos).pos])∧∃p:Regrown,I=grow (redrawn w p.d) p.os:=
  fun d M=>Calls.regrown_of (zbk C H o j A S q _ (L.out.later (below_regrown w d M)))
 have O: ∀d M,Calls Tryz.prog 181 #[.string (ze C q.pos).text,.bool C.scr] (grow (redrawn w d) M) fun e I=>e= .returned (.bool (zs (ze C q.pos).text C.scr))∧∃p:Regrown,I=grow (redrawn w p.d) p.os:=
  fun d M=>Calls.regrown_of ((zkr _ _ _).mono (by rintro e w' ⟨rfl,rfl⟩;exact⟨rfl,Below.refl _ _⟩))
 clear h c3
 cases Y:zs (ze C q.pos).text C.scr with
 |true=>
  have N:Hid (zh C false q= .error (zq C q.pos)):=zks Y
  rw[Y] at O
  go_enter Tryz.func152,Tryz.ntmps152
  go_wp2_with fail
  have k3:=cell_regrown C3.out
  refine wp_region_quiet_below (by kernel_rfl) (by kernel_rfl) ?_
  repeat (go_big_quiet_step (first|exact Z _ _|exact O _ _))
  refine wpQuiet_nil ?_
  intro _ E
  obtain⟨⟨D,n⟩,z⟩:=E
  subst z
  have K:Hid (IM C H o j A S q (grow (redrawn w D) n)):=L.out.later (below_regrown w D n)
  go_wp2_with fail
  refine (zdG C H o j A S q _ K.out).mono ?_
  rintro e U ⟨rfl,J⟩
  have HB:Hid (Below j w U):=((below_regrown w D n).mono L.out.mem.base).trans (J.mono K.out.mem.base)
  unfold Pan
  go_wp2
  refine⟨rfl,?_⟩
  rw[N.out]
  exact⟨rfl,HB.out⟩
 |false=>
  rw[Y] at O
  cases X:((ze C q.pos).kind==1) with
  |true=>
   have N:Hid (zh C false q= .ok (adv q,(ze C q.pos).text)):=zku X Y
   go_enter Tryz.func152,Tryz.ntmps152
   go_wp2_with fail
   have k3:=cell_regrown C3.out
   refine wp_region_quiet_below (by kernel_rfl) (by kernel_rfl) ?_
   repeat (go_big_quiet_step (first|exact Z _ _|exact O _ _))
   refine wpQuiet_nil ?_
   intro _ E
   obtain⟨⟨D,n⟩,z⟩:=E
   subst z
   have V:Hid (Below w.heap.size w (grow (redrawn w D) n)):=below_regrown w D n
   have K:Hid (IM C H o j A S q (grow (redrawn w D) n)):=L.out.later V.out
   go_wp2_with fail
   refine (zdi C H o j A S q 1 _ K.out X (by decide)).mono ?_
   rintro e U ⟨rfl,m2,s2⟩
   have HM:=zc m2
   have HS:Hid (IS A S w S U):=(IS.below V.out).trans s2
   clear m2 s2
   unfold tkV
   go_wp2
   go_ret
   rw[N.out]
   exact⟨rfl,S,HM.out,HS.out⟩
  |false=>
   have N:Hid (zh C false q= .error (zq C q.pos)):=zkt X
   go_enter Tryz.func152,Tryz.ntmps152
   go_wp2_with fail
   have k3:=cell_regrown C3.out
   refine wp_region_quiet_below (by kernel_rfl) (by kernel_rfl) ?_
   repeat (go_big_quiet_step (first|exact Z _ _|exact O _ _))
   refine wpQuiet_nil ?_
   intro _ E
   obtain⟨⟨D,n⟩,z⟩:=E
   subst z
   have V:Hid (Below w.heap.size w (grow (redrawn w D) n)):=below_regrown w D n
   have K:Hid (IM C H o j A S q (grow (redrawn w D) n)):=L.out.later V.out
   go_wp2_with fail
   refine (zhj C H o j A S q 1 _ K.out X).mono ?_
   rintro e U ⟨rfl,J⟩
   have HB:Hid (Below j w U):=(V.out.mono L.out.mem.base).trans (J.mono K.out.mem.base)
   unfold Pan
   go_wp2
   refine⟨rfl,?_⟩
   rw[N.out]
   exact⟨rfl,HB.out⟩
theorem zkv {C:Cx} {q:PS} (h:isT C q.pos 1 sDefault=true):zh C true q= .ok (adv q,(ze C q.pos).text):=by
 have j:=h
 simp only[isT,Bool.and_eq_true] at j
 have n:((ze C q.pos).text.toList==[100,101,102,97,117,108,116])=true:=by
  have e:sDefault.toList=[100,101,102,97,117,108,116]:=by simp
  rw[←e];exact j.2
 have:zB C q.pos true=true:=by rw[zB,j.1,n];simp
 rw[zh,this];rfl
theorem zkw {C:Cx} {q:PS} (h:isT C q.pos 1 sDefault=false):zh C true q=zh C false q:=by
 have e:sDefault.toList=[100,101,102,97,117,108,116]:=by simp
 have:zB C q.pos true=zB C q.pos false:=by
  simp only[isT,e] at h
  simp only[zB]
  cases j:((ze C q.pos).kind==1) with
  |false=>rfl
  |true=>
   rw[j,Bool.true_and] at h
   rw[h]
   simp
 rw[zh,zh,this]
theorem zep (C:Cx) (z n j o:Nat) (S:Sv) (q:PS) (w:World) (h:IM C z n j o S q w):
  Calls Tryz.prog 200 #[.pointer (some ⟨o,0,none⟩)] w (zN C z n j o (zh C true q) (·.1) (fun a=>.string a.2) S w):=by
 have E:=zc h
 have Z:=zco
 clear h
 cases D:isT C q.pos 1 sDefault with
 |true=>
  have K:Hid (zh C true q= .ok (adv q,(ze C q.pos).text)):=zkv D
  have h2:((ze C q.pos).kind==1)=true:=by simp only[isT,Bool.and_eq_true] at D;exact D.1
  go_enter Tryz.func200,Tryz.ntmps200
  go_wp2_with fail
  refine (zbI C z n j o S q 1 sDefault _ E.out).mono ?_
  rintro e V ⟨rfl,A⟩
  rw[D]
  have L:=zc A
  have O:Hid (IM C z n j o S q V):=E.out.later A
  clear A
  go_wp2_with fail
  refine (zdi C z n j o S q 1 _ O.out h2 (by decide)).mono ?_
  rintro e H ⟨rfl,I,J⟩
  have U:=zc I
  have M:Hid (IS o S w S H):=(IS.below L.out).trans J
  clear I J
  unfold tkV
  go_wp2
  go_ret
  rw[K.out]
  exact⟨rfl,S,U.out,M.out⟩
 |false=>
  have K:Hid (zh C true q=zh C false q):=zkw D
  go_enter Tryz.func200,Tryz.ntmps200
  go_wp2_with fail
  refine (zbI C z n j o S q 1 sDefault _ E.out).mono ?_
  rintro e V ⟨rfl,A⟩
  rw[D]
  have L:=zc A
  have O:Hid (IM C z n j o S q V):=E.out.later A
  clear A
  go_wp2_with fail
  refine (zcM C z n j o S q _ O.out).mono ?_
  cases X:zh C false q with
  |ok a=>
   rintro e H ⟨rfl,Y,I,J⟩
   have U:=zc I
   have M:Hid (IS o S w Y H):=(IS.below L.out).trans J
   clear I J
   go_wp2
   go_ret
   rw[K.out,X]
   exact⟨rfl,Y,U.out,M.out⟩
  |error p=>
   rintro e H ⟨rfl,N⟩
   have HB:Hid (Below j w H):=(L.out.mono E.out.mem.base).trans N
   unfold Pan
   go_wp2
   refine⟨rfl,?_⟩
   rw[K.out,X]
   exact⟨rfl,HB.out⟩
theorem zdj (n:Nat) (c m:Int) (w:World) (h: ¬m≤c):
  Calls Tryz.prog 184 #[.pointer (some ⟨n,0,none⟩),.int .i64 c,.int .i64 m] w fun e j=>e= .returned (.tuple #[])∧j=w:=by
 have o:decide (m≤c)=false:=decide_eq_false h
 go_enter Tryz.func184,Tryz.ntmps184
 go_wp2
 go_end0
 exact⟨rfl,rfl⟩
end Go.Proofs.YticdggnnpjachaaGreat
