/-
  What plainName,plainOrDefault and itemWord of impl's parser answer: the walks.
  What room of impl's parser answers: the walks.
-/
import Derived.Lib.QuietBelow
import Derived.Test.YtjdddblpfbmpaaaGreatCoImplParseAToImplParseB
namespace Go.Proofs.YtjdddblpfbmpaaaGreat
set_option maxRecDepth 100000
set_option maxHeartbeats 1600000
open Go.RowKit Go.PlainAid Go.Sort
theorem zkx {C:Cx} {q:PS} (h:zs (ze C q.pos).text C.scr=true):zh C false q= .error (zp C q.pos):=by
 have:zB C q.pos false=false:=by rw[zB,h];simp
 rw[zh,this];rfl
theorem zky {C:Cx} {o:Bool} {q:PS} (h:((ze C q.pos).kind==1)=false):zh C o q= .error (zp C q.pos):=by
 have:zB C q.pos o=false:=by rw[zB,h];rfl
 rw[zh,this];rfl
theorem zkz {C:Cx} {q:PS} (h:((ze C q.pos).kind==1)=true) (j:zs (ze C q.pos).text C.scr=false):zh C false q= .ok (adv q,(ze C q.pos).text):=by
 have:zB C q.pos false=true:=by rw[zB,h,j];rfl
 rw[zh,this];rfl
theorem zcL (C:Cx) (L A j E:Nat) (S:Sv) (q:PS) (w:World) (h:IM C L A j E S q w):
  Calls Tryz.prog 194 #[.pointer (some ⟨E,0,none⟩)] w (zM C L A j E (zh C false q) (·.1) (fun a=>.string a.2) S w):=by
 have aa:=h.lt
 obtain⟨_,_,_,c3,_,_,_,_,_,_,cf⟩:=zY h.cells
 have C3:=zc c3
 have ab:=zcl
 have Y: ∀d K,Calls Tryz.prog 193 #[.pointer (some ⟨E,0,none⟩)] (grow (redrawn w d) K) fun e J=>e= .returned (.agg #[.int .i64 (ze C q.pos).kind,.string (ze C q.pos).text,.int .i64 (ze C q.pos).num,.int .i64 (ze C q.pos).pos])∧∃p:Regrown,J=grow (redrawn w p.d) p.os:=
  fun d K=>Calls.regrown_of (zbg C L A j E S q _ (h.later (below_regrown w d K)))
 have O: ∀d K,Calls Tryz.prog 215 #[.string (ze C q.pos).text,.bool C.scr] (grow (redrawn w d) K) fun e J=>e= .returned (.bool (zs (ze C q.pos).text C.scr))∧∃p:Regrown,J=grow (redrawn w p.d) p.os:=
  fun d K=>Calls.regrown_of ((zkw _ _ _).mono (by rintro e w' ⟨rfl,rfl⟩;exact⟨rfl,Below.refl _ _⟩))
 clear c3
 cases X:zs (ze C q.pos).text C.scr with
 |true=>
  have U:Hid (zh C false q= .error (zp C q.pos)):=zkx X
  rw[X] at O
  go_enter Tryz.func194,Tryz.ntmps194
  go_wp2_with fail
  have k3:=cell_regrown C3.out
  refine wp_region_quiet_below (by kernel_rfl) (by kernel_rfl) ?_
  repeat (go_big_quiet_step (first|exact Y _ _|exact O _ _))
  refine wpQuiet_nil ?_
  intro _ D
  obtain⟨⟨M,z⟩,n⟩:=D
  subst n
  have H:=h.later (below_regrown w M z)
  go_wp2_with fail
  refine (zdD C L A j E S q _ H).mono ?_
  rintro e w2 ⟨rfl,I⟩
  have Z:=((below_regrown w M z).mono h.mem.base).trans (I.mono H.mem.base)
  unfold Pan
  go_wp2
  refine⟨rfl,?_⟩
  rw[U.out]
  exact⟨rfl,Z⟩
 |false=>
  rw[X] at O
  cases V:((ze C q.pos).kind==1) with
  |true=>
   have U:Hid (zh C false q= .ok (adv q,(ze C q.pos).text)):=zkz V X
   go_enter Tryz.func194,Tryz.ntmps194
   go_wp2_with fail
   have k3:=cell_regrown C3.out
   refine wp_region_quiet_below (by kernel_rfl) (by kernel_rfl) ?_
   repeat (go_big_quiet_step (first|exact Y _ _|exact O _ _))
   refine wpQuiet_nil ?_
   intro _ D
   obtain⟨⟨M,z⟩,n⟩:=D
   subst n
   have N:=below_regrown w M z
   have H:=h.later N
   go_wp2_with fail
   refine (zdf C L A j E S q 1 _ H V (by decide)).mono ?_
   rintro e w2 ⟨rfl,m2,s2⟩
   have HM:=zc m2
   have HS:IS E S w S w2:=(IS.below N).trans s2
   clear m2 s2
   unfold tkV
   go_wp2
   go_ret
   rw[U.out]
   exact⟨rfl,S,HM.out,HS⟩
  |false=>
   have U:Hid (zh C false q= .error (zp C q.pos)):=zky V
   go_enter Tryz.func194,Tryz.ntmps194
   go_wp2_with fail
   have k3:=cell_regrown C3.out
   refine wp_region_quiet_below (by kernel_rfl) (by kernel_rfl) ?_
   repeat (go_big_quiet_step (first|exact Y _ _|exact O _ _))
   refine wpQuiet_nil ?_
   intro _ D
   obtain⟨⟨M,z⟩,n⟩:=D
   subst n
   have N:=below_regrown w M z
   have H:=h.later N
   go_wp2_with fail
   refine (zhg C L A j E S q 1 _ H V).mono ?_
   rintro e w2 ⟨rfl,I⟩
   have Z:=(N.mono h.mem.base).trans (I.mono H.mem.base)
   unfold Pan
   go_wp2
   refine⟨rfl,?_⟩
   rw[U.out]
   exact⟨rfl,Z⟩
theorem zk0 {C:Cx} {q:PS} (h:isT C q.pos 1 sDefault=true):zh C true q= .ok (adv q,(ze C q.pos).text):=by
 have j:=h
 simp only[isT,Bool.and_eq_true] at j
 have n:((ze C q.pos).text.toList==[100,101,102,97,117,108,116])=true:=by
  have e:sDefault.toList=[100,101,102,97,117,108,116]:=by simp
  rw[←e];exact j.2
 have:zB C q.pos true=true:=by rw[zB,j.1,n];simp
 rw[zh,this];rfl
theorem zk1 {C:Cx} {q:PS} (h:isT C q.pos 1 sDefault=false):zh C true q=zh C false q:=by
 have e:sDefault.toList=[100,101,102,97,117,108,116]:=by simp
 have:zB C q.pos true=zB C q.pos false:=by
  simp only[isT,e] at h
  simp only[zB]
  cases j:((ze C q.pos).kind==1) with
  |false=>rfl
  |true=>
   rw[j,Bool.true_and] at h
   rw[h]
   simp
 rw[zh,zh,this]
theorem zem (C:Cx) (E n j z:Nat) (S:Sv) (q:PS) (w:World) (h:IM C E n j z S q w):
  Calls Tryz.prog 230 #[.pointer (some ⟨z,0,none⟩)] w (zM C E n j z (zh C true q) (·.1) (fun a=>.string a.2) S w):=by
 have aa:=zcl
 cases D:isT C q.pos 1 sDefault with
 |true=>
  have J:Hid (zh C true q= .ok (adv q,(ze C q.pos).text)):=zk0 D
  have Y:((ze C q.pos).kind==1)=true:=by simp only[isT,Bool.and_eq_true] at D;exact D.1
  go_enter Tryz.func230,Tryz.ntmps230
  go_wp2_with fail
  refine (zbE C E n j z S q 1 sDefault _ h).mono ?_
  rintro e X ⟨rfl,A⟩
  rw[D]
  have M:=h.later A
  go_wp2_with fail
  refine (zdf C E n j z S q 1 _ M Y (by decide)).mono ?_
  rintro e K ⟨rfl,H,I⟩
  have L:=zc H
  have N:IS z S w S K:=(IS.below A).trans I
  clear H I
  unfold tkV
  go_wp2
  go_ret
  rw[J.out]
  exact⟨rfl,S,L.out,N⟩
 |false=>
  have J:Hid (zh C true q=zh C false q):=zk1 D
  go_enter Tryz.func230,Tryz.ntmps230
  go_wp2_with fail
  refine (zbE C E n j z S q 1 sDefault _ h).mono ?_
  rintro e X ⟨rfl,A⟩
  rw[D]
  have M:=h.later A
  go_wp2_with fail
  refine (zcL C E n j z S q _ M).mono ?_
  cases V:zh C false q with
  |ok a=>
   rintro e K ⟨rfl,U,H,I⟩
   have L:=zc H
   have N:IS z S w U K:=(IS.below A).trans I
   clear H I
   go_wp2
   go_ret
   rw[J.out,V]
   exact⟨rfl,U,L.out,N⟩
  |error p=>
   rintro e K ⟨rfl,O⟩
   have Z:=(A.mono h.mem.base).trans O
   unfold Pan
   go_wp2
   refine⟨rfl,?_⟩
   rw[J.out,V]
   exact⟨rfl,Z⟩
theorem zdg (n:Nat) (c m:Int) (w:World) (h: ¬m≤c):
  Calls Tryz.prog 218 #[.pointer (some ⟨n,0,none⟩),.int .i64 c,.int .i64 m] w fun e j=>e= .returned (.tuple #[])∧j=w:=by
 have q:decide (m≤c)=false:=decide_eq_false h
 go_enter Tryz.func218,Tryz.ntmps218
 go_wp2
 go_end0
 exact⟨rfl,rfl⟩
end Go.Proofs.YtjdddblpfbmpaaaGreat
