/-
  What plainName,plainOrDefault and itemWord of impl's parser answer: the walks.
  What room of impl's parser answers: the walks.
-/
import Derived.Lib.QuietBelow
import Derived.Test.YthfeoomfiafldaaGreatCdImplParseAToImplParseB
namespace Go.Proofs.YthfeoomfiafldaaGreat
set_option maxRecDepth 100000
set_option maxHeartbeats 1600000
open Go.RowKit Go.PlainAid Go.Sort
theorem zon {C:Cx} {q:PS} (h:zr (zf C q.pos).text C.scr=true):zk C false q= .error (zu C q.pos):=by
 have:plainB C q.pos false=false:=by rw[plainB,h];simp
 rw[zk,this];rfl
theorem zoo {C:Cx} {o:Bool} {q:PS} (h:((zf C q.pos).kind==1)=false):zk C o q= .error (zu C q.pos):=by
 have:plainB C q.pos o=false:=by rw[plainB,h];rfl
 rw[zk,this];rfl
theorem zop {C:Cx} {q:PS} (h:((zf C q.pos).kind==1)=true) (j:zr (zf C q.pos).text C.scr=false):zk C false q= .ok (adv q,(zf C q.pos).text):=by
 have:plainB C q.pos false=true:=by rw[plainB,h,j];rfl
 rw[zk,this];rfl
theorem zd1 (C:Cx) (J z j E:Nat) (S:Sv) (q:PS) (w:World) (h:IM C J z j E S q w):
  Calls Tryz.prog 93 #[.pointer (some ⟨E,0,none⟩)] w (zT C J z j E (zk C false q) (·.1) (fun a=>.string a.2) S w):=by
 have O:=zc h
 have ab:=h.lt
 obtain⟨_,_,_,c3,_,_,_,_,_,_,cf⟩:=zag h.cells
 have C3:=zc c3
 have aa:=zcF
 have cP: ∀d N,Calls Tryz.prog 92 #[.pointer (some ⟨E,0,none⟩)] (grow (redrawn w d) N) fun e L=>e= .returned (.agg #[.int .i64 (zf C q.pos).kind,.string (zf C q.pos).text,.int .i64 (zf C q.pos).num,.int .i64 (zf C q.pos).pos])∧∃p:Regrown,L=grow (redrawn w p.d) p.os:=
  fun d N=>Calls.regrown_of (zbD C J z j E S q _ (O.out.later (below_regrown w d N)))
 have U: ∀d N,Calls Tryz.prog 122 #[.string (zf C q.pos).text,.bool C.scr] (grow (redrawn w d) N) fun e L=>e= .returned (.bool (zr (zf C q.pos).text C.scr))∧∃p:Regrown,L=grow (redrawn w p.d) p.os:=
  fun d N=>Calls.regrown_of ((zom _ _ _).mono (by rintro e w' ⟨rfl,rfl⟩;exact⟨rfl,Below.refl _ _⟩))
 clear h c3
 cases Y:zr (zf C q.pos).text C.scr with
 |true=>
  have V:Hid (zk C false q= .error (zu C q.pos)):=zon Y
  rw[Y] at U
  go_enter Tryz.func93,Tryz.ntmps93
  go_wp2_with fail
  have k3:=cell_regrown C3.out
  refine wp_region_quiet_below (by kernel_rfl) (by kernel_rfl) ?_
  repeat (go_big_quiet_step (first|exact cP _ _|exact U _ _))
  refine wpQuiet_nil ?_
  intro _ H
  obtain⟨⟨I,o⟩,D⟩:=H
  subst D
  have K:Hid (IM C J z j E S q (grow (redrawn w I) o)):=O.out.later (below_regrown w I o)
  go_wp2_with fail
  refine (zeT C J z j E S q _ K.out).mono ?_
  rintro e X ⟨rfl,M⟩
  have HB:Hid (Below j w X):=((below_regrown w I o).mono O.out.mem.base).trans (M.mono K.out.mem.base)
  unfold Pan
  go_wp2
  refine⟨rfl,?_⟩
  rw[V.out]
  exact⟨rfl,HB.out⟩
 |false=>
  rw[Y] at U
  cases Z:((zf C q.pos).kind==1) with
  |true=>
   have V:Hid (zk C false q= .ok (adv q,(zf C q.pos).text)):=zop Z Y
   go_enter Tryz.func93,Tryz.ntmps93
   go_wp2_with fail
   have k3:=cell_regrown C3.out
   refine wp_region_quiet_below (by kernel_rfl) (by kernel_rfl) ?_
   repeat (go_big_quiet_step (first|exact cP _ _|exact U _ _))
   refine wpQuiet_nil ?_
   intro _ H
   obtain⟨⟨I,o⟩,D⟩:=H
   subst D
   have Q:Hid (Below w.heap.size w (grow (redrawn w I) o)):=below_regrown w I o
   have K:Hid (IM C J z j E S q (grow (redrawn w I) o)):=O.out.later Q.out
   go_wp2_with fail
   refine (zel C J z j E S q 1 _ K.out Z (by decide)).mono ?_
   rintro e X ⟨rfl,m2,s2⟩
   have HM:=zc m2
   have HS:Hid (IS E S w S X):=(IS.below Q.out).trans s2
   clear m2 s2
   unfold tkV
   go_wp2
   go_ret
   rw[V.out]
   exact⟨rfl,S,HM.out,HS.out⟩
  |false=>
   have V:Hid (zk C false q= .error (zu C q.pos)):=zoo Z
   go_enter Tryz.func93,Tryz.ntmps93
   go_wp2_with fail
   have k3:=cell_regrown C3.out
   refine wp_region_quiet_below (by kernel_rfl) (by kernel_rfl) ?_
   repeat (go_big_quiet_step (first|exact cP _ _|exact U _ _))
   refine wpQuiet_nil ?_
   intro _ H
   obtain⟨⟨I,o⟩,D⟩:=H
   subst D
   have Q:Hid (Below w.heap.size w (grow (redrawn w I) o)):=below_regrown w I o
   have K:Hid (IM C J z j E S q (grow (redrawn w I) o)):=O.out.later Q.out
   go_wp2_with fail
   refine (zjP C J z j E S q 1 _ K.out Z).mono ?_
   rintro e X ⟨rfl,M⟩
   have HB:Hid (Below j w X):=(Q.out.mono O.out.mem.base).trans (M.mono K.out.mem.base)
   unfold Pan
   go_wp2
   refine⟨rfl,?_⟩
   rw[V.out]
   exact⟨rfl,HB.out⟩
theorem zoq {C:Cx} {q:PS} (h:isT C q.pos 1 sDefault=true):zk C true q= .ok (adv q,(zf C q.pos).text):=by
 have j:=h
 simp only[isT,Bool.and_eq_true] at j
 have o:((zf C q.pos).text.toList==[100,101,102,97,117,108,116])=true:=by
  have e:sDefault.toList=[100,101,102,97,117,108,116]:=by simp
  rw[←e];exact j.2
 have:plainB C q.pos true=true:=by rw[plainB,j.1,o];simp
 rw[zk,this];rfl
theorem zor {C:Cx} {q:PS} (h:isT C q.pos 1 sDefault=false):zk C true q=zk C false q:=by
 have e:sDefault.toList=[100,101,102,97,117,108,116]:=by simp
 have:plainB C q.pos true=plainB C q.pos false:=by
  simp only[isT,e] at h
  simp only[plainB]
  cases j:((zf C q.pos).kind==1) with
  |false=>rfl
  |true=>
   rw[j,Bool.true_and] at h
   rw[h]
   simp
 rw[zk,zk,this]
theorem zfB (C:Cx) (D o j z:Nat) (S:Sv) (q:PS) (w:World) (h:IM C D o j z S q w):
  Calls Tryz.prog 141 #[.pointer (some ⟨z,0,none⟩)] w (zT C D o j z (zk C true q) (·.1) (fun a=>.string a.2) S w):=by
 have J:=zc h
 have aa:=zcF
 clear h
 cases H:isT C q.pos 1 sDefault with
 |true=>
  have N:Hid (zk C true q= .ok (adv q,(zf C q.pos).text)):=zoq H
  have h2:((zf C q.pos).kind==1)=true:=by simp only[isT,Bool.and_eq_true] at H;exact H.1
  go_enter Tryz.func141,Tryz.ntmps141
  go_wp2_with fail
  refine (zco C D o j z S q 1 sDefault _ J.out).mono ?_
  rintro e X ⟨rfl,E⟩
  rw[H]
  have M:=zc E
  have Q:Hid (IM C D o j z S q X):=J.out.later E
  clear E
  go_wp2_with fail
  refine (zel C D o j z S q 1 _ Q.out h2 (by decide)).mono ?_
  rintro e L ⟨rfl,K,I⟩
  have V:=zc K
  have O:Hid (IS z S w S L):=(IS.below M.out).trans I
  clear K I
  unfold tkV
  go_wp2
  go_ret
  rw[N.out]
  exact⟨rfl,S,V.out,O.out⟩
 |false=>
  have N:Hid (zk C true q=zk C false q):=zor H
  go_enter Tryz.func141,Tryz.ntmps141
  go_wp2_with fail
  refine (zco C D o j z S q 1 sDefault _ J.out).mono ?_
  rintro e X ⟨rfl,E⟩
  rw[H]
  have M:=zc E
  have Q:Hid (IM C D o j z S q X):=J.out.later E
  clear E
  go_wp2_with fail
  refine (zd1 C D o j z S q _ Q.out).mono ?_
  cases Y:zk C false q with
  |ok a=>
   rintro e L ⟨rfl,Z,K,I⟩
   have V:=zc K
   have O:Hid (IS z S w Z L):=(IS.below M.out).trans I
   clear K I
   go_wp2
   go_ret
   rw[N.out,Y]
   exact⟨rfl,Z,V.out,O.out⟩
  |error p=>
   rintro e L ⟨rfl,U⟩
   have HB:Hid (Below j w L):=(M.out.mono J.out.mem.base).trans U
   unfold Pan
   go_wp2
   refine⟨rfl,?_⟩
   rw[N.out,Y]
   exact⟨rfl,HB.out⟩
theorem zem (o:Nat) (c m:Int) (w:World) (h: ¬m≤c):
  Calls Tryz.prog 125 #[.pointer (some ⟨o,0,none⟩),.int .i64 c,.int .i64 m] w fun e j=>e= .returned (.tuple #[])∧j=w:=by
 have hd:decide (m≤c)=false:=decide_eq_false h
 go_enter Tryz.func125,Tryz.ntmps125
 go_wp2
 go_end0
 exact⟨rfl,rfl⟩
end Go.Proofs.YthfeoomfiafldaaGreat
