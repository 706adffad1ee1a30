/-
  What plainName,plainOrDefault and itemWord of impl's parser answer: the walks.
  What room of impl's parser answers: the walks.
-/
import Derived.Lib.QuietBelow
import Derived.Test.YticdggnnpjachaaGreatCbImplParseAToImplParseB
namespace Go.Proofs.YticdggnnpjachaaGreat
set_option maxRecDepth 100000
set_option maxHeartbeats 1600000
open Go.RowKit Go.PlainAid Go.Sort
theorem zlF {C:Cx} {q:PS} (h:zu (ze C q.pos).text C.scr=true):zj C false q= .error (zr C q.pos):=by
 have:zD C q.pos false=false:=by rw[zD,h];simp
 rw[zj,this];rfl
theorem zlG {C:Cx} {o:Bool} {q:PS} (h:((ze C q.pos).kind==1)=false):zj C o q= .error (zr C q.pos):=by
 have:zD C q.pos o=false:=by rw[zD,h];rfl
 rw[zj,this];rfl
theorem zlH {C:Cx} {q:PS} (h:((ze C q.pos).kind==1)=true) (j:zu (ze C q.pos).text C.scr=false):zj C false q= .ok (adv q,(ze C q.pos).text):=by
 have:zD C q.pos false=true:=by rw[zD,h,j];rfl
 rw[zj,this];rfl
theorem zdb (C:Cx) (H o j A:Nat) (S:Sv) (q:PS) (w:World) (h:IM C H o j A S q w):
  Calls Tryz.prog 152 #[.pointer (some ⟨A,0,none⟩)] w (zQ C H o j A (zj C false q) (·.1) (fun a=>.string a.2) S w):=by
 have M:=zc h
 have aa:=h.lt
 obtain⟨_,_,_,c3,_,_,_,_,_,_,cf⟩:=zac h.cells
 have C3:=zc c3
 have ab:=zc0
 have Y: ∀d L,Calls Tryz.prog 151 #[.pointer (some ⟨A,0,none⟩)] (grow (redrawn w d) L) fun e J=>e= .returned (.agg #[.int .i64 (ze C q.pos).kind,.string (ze C q.pos).text,.int .i64 (ze C q.pos).num,.int .i64 (ze C q.pos).pos])∧∃p:Regrown,J=grow (redrawn w p.d) p.os:=
  fun d L=>Calls.regrown_of (zbr C H o j A S q _ (M.out.later (below_regrown w d L)))
 have N: ∀d L,Calls Tryz.prog 181 #[.string (ze C q.pos).text,.bool C.scr] (grow (redrawn w d) L) fun e J=>e= .returned (.bool (zu (ze C q.pos).text C.scr))∧∃p:Regrown,J=grow (redrawn w p.d) p.os:=
  fun d L=>Calls.regrown_of ((zlE _ _ _).mono (by rintro e w' ⟨rfl,rfl⟩;exact⟨rfl,Below.refl _ _⟩))
 clear h c3
 cases X:zu (ze C q.pos).text C.scr with
 |true=>
  have U:Hid (zj C false q= .error (zr C q.pos)):=zlF X
  rw[X] at N
  go_enter Tryz.func152,Tryz.ntmps152
  go_wp2_with fail
  have k3:=cell_regrown C3.out
  refine wp_region_quiet_below (by kernel_rfl) (by kernel_rfl) ?_
  repeat (go_big_quiet_step (first|exact Y _ _|exact N _ _))
  refine wpQuiet_nil ?_
  intro _ E
  obtain⟨⟨D,n⟩,z⟩:=E
  subst z
  have K:Hid (IM C H o j A S q (grow (redrawn w D) n)):=M.out.later (below_regrown w D n)
  go_wp2_with fail
  refine (zdZ C H o j A S q _ K.out).mono ?_
  rintro e Q ⟨rfl,I⟩
  have Z:Hid (Below j w Q):=((below_regrown w D n).mono M.out.mem.base).trans (I.mono K.out.mem.base)
  unfold Pan
  go_wp2
  refine⟨rfl,?_⟩
  rw[U.out]
  exact⟨rfl,Z.out⟩
 |false=>
  rw[X] at N
  cases V:((ze C q.pos).kind==1) with
  |true=>
   have U:Hid (zj C false q= .ok (adv q,(ze C q.pos).text)):=zlH V X
   go_enter Tryz.func152,Tryz.ntmps152
   go_wp2_with fail
   have k3:=cell_regrown C3.out
   refine wp_region_quiet_below (by kernel_rfl) (by kernel_rfl) ?_
   repeat (go_big_quiet_step (first|exact Y _ _|exact N _ _))
   refine wpQuiet_nil ?_
   intro _ E
   obtain⟨⟨D,n⟩,z⟩:=E
   subst z
   have O:Hid (Below w.heap.size w (grow (redrawn w D) n)):=below_regrown w D n
   have K:Hid (IM C H o j A S q (grow (redrawn w D) n)):=M.out.later O.out
   go_wp2_with fail
   refine (zd2 C H o j A S q 1 _ K.out V (by decide)).mono ?_
   rintro e Q ⟨rfl,m2,s2⟩
   have HM:=zc m2
   have HS:Hid (IS A S w S Q):=(IS.below O.out).trans s2
   clear m2 s2
   unfold tkV
   go_wp2
   go_ret
   rw[U.out]
   exact⟨rfl,S,HM.out,HS.out⟩
  |false=>
   have U:Hid (zj C false q= .error (zr C q.pos)):=zlG V
   go_enter Tryz.func152,Tryz.ntmps152
   go_wp2_with fail
   have k3:=cell_regrown C3.out
   refine wp_region_quiet_below (by kernel_rfl) (by kernel_rfl) ?_
   repeat (go_big_quiet_step (first|exact Y _ _|exact N _ _))
   refine wpQuiet_nil ?_
   intro _ E
   obtain⟨⟨D,n⟩,z⟩:=E
   subst z
   have O:Hid (Below w.heap.size w (grow (redrawn w D) n)):=below_regrown w D n
   have K:Hid (IM C H o j A S q (grow (redrawn w D) n)):=M.out.later O.out
   go_wp2_with fail
   refine (zhZ C H o j A S q 1 _ K.out V).mono ?_
   rintro e Q ⟨rfl,I⟩
   have Z:Hid (Below j w Q):=(O.out.mono M.out.mem.base).trans (I.mono K.out.mem.base)
   unfold Pan
   go_wp2
   refine⟨rfl,?_⟩
   rw[U.out]
   exact⟨rfl,Z.out⟩
theorem zlI {C:Cx} {q:PS} (h:isT C q.pos 1 sDefault=true):zj C true q= .ok (adv q,(ze C q.pos).text):=by
 have j:=h
 simp only[isT,Bool.and_eq_true] at j
 have n:((ze C q.pos).text.toList==[100,101,102,97,117,108,116])=true:=by
  have e:sDefault.toList=[100,101,102,97,117,108,116]:=by simp
  rw[←e];exact j.2
 have:zD C q.pos true=true:=by rw[zD,j.1,n];simp
 rw[zj,this];rfl
theorem zlJ {C:Cx} {q:PS} (h:isT C q.pos 1 sDefault=false):zj C true q=zj C false q:=by
 have e:sDefault.toList=[100,101,102,97,117,108,116]:=by simp
 have:zD C q.pos true=zD C q.pos false:=by
  simp only[isT,e] at h
  simp only[zD]
  cases j:((ze C q.pos).kind==1) with
  |false=>rfl
  |true=>
   rw[j,Bool.true_and] at h
   rw[h]
   simp
 rw[zj,zj,this]
theorem zeF (C:Cx) (z n j o:Nat) (S:Sv) (q:PS) (w:World) (h:IM C z n j o S q w):
  Calls Tryz.prog 200 #[.pointer (some ⟨o,0,none⟩)] w (zQ C z n j o (zj C true q) (·.1) (fun a=>.string a.2) S w):=by
 have E:=zc h
 have aa:=zc0
 clear h
 cases D:isT C q.pos 1 sDefault with
 |true=>
  have L:Hid (zj C true q= .ok (adv q,(ze C q.pos).text)):=zlI D
  have Z:((ze C q.pos).kind==1)=true:=by simp only[isT,Bool.and_eq_true] at D;exact D.1
  go_enter Tryz.func200,Tryz.ntmps200
  go_wp2_with fail
  refine (zbO C z n j o S q 1 sDefault _ E.out).mono ?_
  rintro e M ⟨rfl,A⟩
  rw[D]
  have K:=zc A
  have U:Hid (IM C z n j o S q M):=E.out.later A
  clear A
  go_wp2_with fail
  refine (zd2 C z n j o S q 1 _ U.out Z (by decide)).mono ?_
  rintro e J ⟨rfl,I,H⟩
  have Q:=zc I
  have O:Hid (IS o S w S J):=(IS.below K.out).trans H
  clear I H
  unfold tkV
  go_wp2
  go_ret
  rw[L.out]
  exact⟨rfl,S,Q.out,O.out⟩
 |false=>
  have L:Hid (zj C true q=zj C false q):=zlJ D
  go_enter Tryz.func200,Tryz.ntmps200
  go_wp2_with fail
  refine (zbO C z n j o S q 1 sDefault _ E.out).mono ?_
  rintro e M ⟨rfl,A⟩
  rw[D]
  have K:=zc A
  have U:Hid (IM C z n j o S q M):=E.out.later A
  clear A
  go_wp2_with fail
  refine (zdb C z n j o S q _ U.out).mono ?_
  cases V:zj C false q with
  |ok a=>
   rintro e J ⟨rfl,X,I,H⟩
   have Q:=zc I
   have O:Hid (IS o S w X J):=(IS.below K.out).trans H
   clear I H
   go_wp2
   go_ret
   rw[L.out,V]
   exact⟨rfl,X,Q.out,O.out⟩
  |error p=>
   rintro e J ⟨rfl,N⟩
   have Y:Hid (Below j w J):=(K.out.mono E.out.mem.base).trans N
   unfold Pan
   go_wp2
   refine⟨rfl,?_⟩
   rw[L.out,V]
   exact⟨rfl,Y.out⟩
theorem zd3 (n:Nat) (c m:Int) (w:World) (h: ¬m≤c):
  Calls Tryz.prog 184 #[.pointer (some ⟨n,0,none⟩),.int .i64 c,.int .i64 m] w fun e j=>e= .returned (.tuple #[])∧j=w:=by
 have o:decide (m≤c)=false:=decide_eq_false h
 go_enter Tryz.func184,Tryz.ntmps184
 go_wp2
 go_end0
 exact⟨rfl,rfl⟩
end Go.Proofs.YticdggnnpjachaaGreat
