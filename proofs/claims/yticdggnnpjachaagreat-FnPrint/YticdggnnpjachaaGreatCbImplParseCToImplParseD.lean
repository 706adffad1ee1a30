/-
  What plainName,plainOrDefault and itemWord of impl's parser answer: the walks.
  What room of impl's parser answers: the walks.
-/
import Derived.Lib.QuietBelow
import Derived.Test.YticdggnnpjachaaGreatCbImplParseAToImplParseB
namespace Go.Proofs.YticdggnnpjachaaGreat
set_option maxRecDepth 100000
set_option maxHeartbeats 1600000
open Go.RowKit Go.PlainAid Go.Sort
theorem zl2 {C:Cx} {q:PS} (h:zu (ze C q.pos).text C.scr=true):zj C false q= .error (zr C q.pos):=by
 have:zD C q.pos false=false:=by rw[zD,h];simp
 rw[zj,this];rfl
theorem zl3 {C:Cx} {o:Bool} {q:PS} (h:((ze C q.pos).kind==1)=false):zj C o q= .error (zr C q.pos):=by
 have:zD C q.pos o=false:=by rw[zD,h];rfl
 rw[zj,this];rfl
theorem zl4 {C:Cx} {q:PS} (h:((ze C q.pos).kind==1)=true) (j:zu (ze C q.pos).text C.scr=false):zj C false q= .ok (adv q,(ze C q.pos).text):=by
 have:zD C q.pos false=true:=by rw[zD,h,j];rfl
 rw[zj,this];rfl
theorem zdb (C:Cx) (H o j A:Nat) (S:Sv) (q:PS) (w:World) (h:IM C H o j A S q w):
  Calls Tryz.prog 152 #[.pointer (some ⟨A,0,none⟩)] w (zQ C H o j A (zj C false q) (·.1) (fun a=>.string a.2) S w):=by
 have L:=zc h
 have ab:=h.lt
 obtain⟨_,_,_,c3,_,_,_,_,_,_,cf⟩:=zac h.cells
 have Z:=zc c3
 have aa:=zc0
 have cP: ∀d M,Calls Tryz.prog 151 #[.pointer (some ⟨A,0,none⟩)] (grow (redrawn w d) M) fun e I=>e= .returned (.agg #[.int .i64 (ze C q.pos).kind,.string (ze C q.pos).text,.int .i64 (ze C q.pos).num,.int .i64 (ze C q.pos).pos])∧∃p:Regrown,I=grow (redrawn w p.d) p.os:=
  fun d M=>Calls.regrown_of (zbr C H o j A S q _ (L.out.later (below_regrown w d M)))
 have N: ∀d M,Calls Tryz.prog 181 #[.string (ze C q.pos).text,.bool C.scr] (grow (redrawn w d) M) fun e I=>e= .returned (.bool (zu (ze C q.pos).text C.scr))∧∃p:Regrown,I=grow (redrawn w p.d) p.os:=
  fun d M=>Calls.regrown_of ((zl1 _ _ _).mono (by rintro e w' ⟨rfl,rfl⟩;exact⟨rfl,Below.refl _ _⟩))
 clear h c3
 cases V:zu (ze C q.pos).text C.scr with
 |true=>
  have Q:Hid (zj C false q= .error (zr C q.pos)):=zl2 V
  rw[V] at N
  go_enter Tryz.func152,Tryz.ntmps152
  go_wp2_with fail
  have k3:=cell_regrown Z.out
  refine wp_region_quiet_below (by kernel_rfl) (by kernel_rfl) ?_
  repeat (go_big_quiet_step (first|exact cP _ _|exact N _ _))
  refine wpQuiet_nil ?_
  intro _ D
  obtain⟨⟨E,n⟩,z⟩:=D
  subst z
  have J:Hid (IM C H o j A S q (grow (redrawn w E) n)):=L.out.later (below_regrown w E n)
  go_wp2_with fail
  refine (zdZ C H o j A S q _ J.out).mono ?_
  rintro e O ⟨rfl,K⟩
  have Y:Hid (Below j w O):=((below_regrown w E n).mono L.out.mem.base).trans (K.mono J.out.mem.base)
  unfold Pan
  go_wp2
  refine⟨rfl,?_⟩
  rw[Q.out]
  exact⟨rfl,Y.out⟩
 |false=>
  rw[V] at N
  cases X:((ze C q.pos).kind==1) with
  |true=>
   have Q:Hid (zj C false q= .ok (adv q,(ze C q.pos).text)):=zl4 X V
   go_enter Tryz.func152,Tryz.ntmps152
   go_wp2_with fail
   have k3:=cell_regrown Z.out
   refine wp_region_quiet_below (by kernel_rfl) (by kernel_rfl) ?_
   repeat (go_big_quiet_step (first|exact cP _ _|exact N _ _))
   refine wpQuiet_nil ?_
   intro _ D
   obtain⟨⟨E,n⟩,z⟩:=D
   subst z
   have U:Hid (Below w.heap.size w (grow (redrawn w E) n)):=below_regrown w E n
   have J:Hid (IM C H o j A S q (grow (redrawn w E) n)):=L.out.later U.out
   go_wp2_with fail
   refine (zd1 C H o j A S q 1 _ J.out X (by decide)).mono ?_
   rintro e O ⟨rfl,m2,s2⟩
   have HM:=zc m2
   have HS:Hid (IS A S w S O):=(IS.below U.out).trans s2
   clear m2 s2
   unfold tkV
   go_wp2
   go_ret
   rw[Q.out]
   exact⟨rfl,S,HM.out,HS.out⟩
  |false=>
   have Q:Hid (zj C false q= .error (zr C q.pos)):=zl3 X
   go_enter Tryz.func152,Tryz.ntmps152
   go_wp2_with fail
   have k3:=cell_regrown Z.out
   refine wp_region_quiet_below (by kernel_rfl) (by kernel_rfl) ?_
   repeat (go_big_quiet_step (first|exact cP _ _|exact N _ _))
   refine wpQuiet_nil ?_
   intro _ D
   obtain⟨⟨E,n⟩,z⟩:=D
   subst z
   have U:Hid (Below w.heap.size w (grow (redrawn w E) n)):=below_regrown w E n
   have J:Hid (IM C H o j A S q (grow (redrawn w E) n)):=L.out.later U.out
   go_wp2_with fail
   refine (zhZ C H o j A S q 1 _ J.out X).mono ?_
   rintro e O ⟨rfl,K⟩
   have Y:Hid (Below j w O):=(U.out.mono L.out.mem.base).trans (K.mono J.out.mem.base)
   unfold Pan
   go_wp2
   refine⟨rfl,?_⟩
   rw[Q.out]
   exact⟨rfl,Y.out⟩
theorem zl5 {C:Cx} {q:PS} (h:isT C q.pos 1 sDefault=true):zj C true q= .ok (adv q,(ze C q.pos).text):=by
 have j:=h
 simp only[isT,Bool.and_eq_true] at j
 have n:((ze C q.pos).text.toList==[100,101,102,97,117,108,116])=true:=by
  have e:sDefault.toList=[100,101,102,97,117,108,116]:=by simp
  rw[←e];exact j.2
 have:zD C q.pos true=true:=by rw[zD,j.1,n];simp
 rw[zj,this];rfl
theorem zl6 {C:Cx} {q:PS} (h:isT C q.pos 1 sDefault=false):zj C true q=zj C false q:=by
 have e:sDefault.toList=[100,101,102,97,117,108,116]:=by simp
 have:zD C q.pos true=zD C q.pos false:=by
  simp only[isT,e] at h
  simp only[zD]
  cases j:((ze C q.pos).kind==1) with
  |false=>rfl
  |true=>
   rw[j,Bool.true_and] at h
   rw[h]
   simp
 rw[zj,zj,this]
theorem zeD (C:Cx) (z n j o:Nat) (S:Sv) (q:PS) (w:World) (h:IM C z n j o S q w):
  Calls Tryz.prog 200 #[.pointer (some ⟨o,0,none⟩)] w (zQ C z n j o (zj C true q) (·.1) (fun a=>.string a.2) S w):=by
 have J:=zc h
 have Y:=zc0
 clear h
 cases D:isT C q.pos 1 sDefault with
 |true=>
  have K:Hid (zj C true q= .ok (adv q,(ze C q.pos).text)):=zl5 D
  have h2:((ze C q.pos).kind==1)=true:=by simp only[isT,Bool.and_eq_true] at D;exact D.1
  go_enter Tryz.func200,Tryz.ntmps200
  go_wp2_with fail
  refine (zbO C z n j o S q 1 sDefault _ J.out).mono ?_
  rintro e N ⟨rfl,A⟩
  rw[D]
  have L:=zc A
  have O:Hid (IM C z n j o S q N):=J.out.later A
  clear A
  go_wp2_with fail
  refine (zd1 C z n j o S q 1 _ O.out h2 (by decide)).mono ?_
  rintro e E ⟨rfl,H,I⟩
  have U:=zc H
  have M:Hid (IS o S w S E):=(IS.below L.out).trans I
  clear H I
  unfold tkV
  go_wp2
  go_ret
  rw[K.out]
  exact⟨rfl,S,U.out,M.out⟩
 |false=>
  have K:Hid (zj C true q=zj C false q):=zl6 D
  go_enter Tryz.func200,Tryz.ntmps200
  go_wp2_with fail
  refine (zbO C z n j o S q 1 sDefault _ J.out).mono ?_
  rintro e N ⟨rfl,A⟩
  rw[D]
  have L:=zc A
  have O:Hid (IM C z n j o S q N):=J.out.later A
  clear A
  go_wp2_with fail
  refine (zdb C z n j o S q _ O.out).mono ?_
  cases X:zj C false q with
  |ok a=>
   rintro e E ⟨rfl,V,H,I⟩
   have U:=zc H
   have M:Hid (IS o S w V E):=(IS.below L.out).trans I
   clear H I
   go_wp2
   go_ret
   rw[K.out,X]
   exact⟨rfl,V,U.out,M.out⟩
  |error p=>
   rintro e E ⟨rfl,Q⟩
   have Z:Hid (Below j w E):=(L.out.mono J.out.mem.base).trans Q
   unfold Pan
   go_wp2
   refine⟨rfl,?_⟩
   rw[K.out,X]
   exact⟨rfl,Z.out⟩
theorem zd2 (n:Nat) (c m:Int) (w:World) (h: ¬m≤c):
  Calls Tryz.prog 184 #[.pointer (some ⟨n,0,none⟩),.int .i64 c,.int .i64 m] w fun e j=>e= .returned (.tuple #[])∧j=w:=by
 have o:decide (m≤c)=false:=decide_eq_false h
 go_enter Tryz.func184,Tryz.ntmps184
 go_wp2
 go_end0
 exact⟨rfl,rfl⟩
end Go.Proofs.YticdggnnpjachaaGreat
