/- Facts. -/
import Derived.Lib.QuietBelow
import Derived.Test.YtegdaafmaookjaaGreatP11
namespace Go.Proofs.YtegdaafmaookjaaGreat
open Go.Proofs.Tryz
open Go.RowKit Go.PlainAid Go.Sort in
theorem cR0 {w:World} {a:Addr} {v:Value} (h:w.cell? a = some v) (d:Nat) (os:Array Obj):(grow (redrawn w d) os).cell? a = some v:=cell_regrown h d os
set_option maxRecDepth 100000
set_option maxHeartbeats 1600000
open Go.RowKit Go.PlainAid Go.Sort
variable {C:Cx} {q:PS}
theorem zqk (h:zB (ze C q.pos).text C.scr=true):zq C false q= .error (zz C q.pos):=by
 have:zO C q.pos false=false:=by rw[zO,h];simp
 rw[zq,this];rfl
theorem zql {o:Bool} (h:((ze C q.pos).kind==1)=false):zq C o q= .error (zz C q.pos):=by
 have:zO C q.pos o=false:=by rw[zO,h];rfl
 rw[zq,this];rfl
theorem zqm (h:((ze C q.pos).kind==1)=true) (w:zB (ze C q.pos).text C.scr=false):zq C false q= .ok (adv q,(ze C q.pos).text):=by
 have:zO C q.pos false=true:=by rw[zO,h,w];rfl
 rw[zq,this];rfl
theorem zdX (C:Cx) (U I base K:Nat) (S:Sv) (q:PS) (w:World) (h:IM C U I base K S q w):
  Calls prog 235 #[.pointer (some ⟨K,0,none⟩)] w (zaa C U I base K (zq C false q) (·.1) (fun a=>.string a.2) S w):=by
 have aa:=h.lt;obtain⟨_,_,_,c3,_,_,_,_,_,_,cf⟩:=zan h.cells;have C3:=zc c3;have ab:=zdk;have cP: ∀d O,Calls prog 234 #[.pointer (some ⟨K,0,none⟩)] (grow (redrawn w d) O) fun e N=>e= .returned (.agg #[.int .i64 (ze C q.pos).kind,.string (ze C q.pos).text,.int .i64 (ze C q.pos).num,.int .i64 (ze C q.pos).pos])/\∃p:Regrown,N=grow (redrawn w p.d) p.os:=
  fun d O=>Calls.regrown_of (zbL C U I base K S q _ (h.later (below_regrown w d O)))
 have Y: ∀d O,Calls prog 253 #[.string (ze C q.pos).text,.bool C.scr] (grow (redrawn w d) O) fun e N=>e= .returned (.bool (zB (ze C q.pos).text C.scr))/\∃p:Regrown,N=grow (redrawn w p.d) p.os:=
  fun d O=>Calls.regrown_of ((zqj _ _ _).mono (by rintro e w' ⟨rfl,rfl⟩;exact⟨rfl,Below.refl _ _⟩))
 clear c3;cases h1:zB (ze C q.pos).text C.scr with
 |true=>
  have Z:Hid (zq C false q= .error (zz C q.pos)):=zqk h1;rw[h1] at Y;go_enter func235,ntmps235;go_wp2_with fail;have k3:=cR0 C3.o;refine wp_region_quiet_below (by kernel_rfl) (by kernel_rfl) ?_
  repeat (go_big_quiet_step (first|exact cP _ _|exact Y _ _))
  refine wpQuiet_nil ?_;intro _ J;obtain⟨⟨V,H⟩,A⟩:=J;subst A;have L:=h.later (below_regrown w V H);go_wp2_with fail;refine (zft C U I base K S q _ L).mono ?_;rintro e w2 ⟨rfl,M⟩;have HB:=((below_regrown w V H).mono h.mem.base).trans (M.mono L.mem.base);unfold Pan;go_wp2;refine⟨rfl,?_⟩;rw[Z.o];exact⟨rfl,HB⟩
 |false=>
  rw[h1] at Y;cases h2:((ze C q.pos).kind==1) with
  |true=>
   have Z:Hid (zq C false q= .ok (adv q,(ze C q.pos).text)):=zqm h2 h1;go_enter func235,ntmps235;go_wp2_with fail;have k3:=cR0 C3.o;refine wp_region_quiet_below (by kernel_rfl) (by kernel_rfl) ?_
   repeat (go_big_quiet_step (first|exact cP _ _|exact Y _ _))
   refine wpQuiet_nil ?_;intro _ J;obtain⟨⟨V,H⟩,A⟩:=J;subst A;have X:=below_regrown w V H;have L:=h.later X;go_wp2_with fail;refine (zeD C U I base K S q 1 _ L h2 (by decide)).mono ?_;rintro e w2 ⟨rfl,m2,s2⟩;have HM:=zc m2;have HS:IS K S w S w2:=(IS.below X).trans s2;clear m2 s2;unfold tkV;go_wp2;go_ret;rw[Z.o];exact⟨rfl,S,HM.o,HS⟩
  |false=>
   have Z:Hid (zq C false q= .error (zz C q.pos)):=zql h2;go_enter func235,ntmps235;go_wp2_with fail;have k3:=cR0 C3.o;refine wp_region_quiet_below (by kernel_rfl) (by kernel_rfl) ?_
   repeat (go_big_quiet_step (first|exact cP _ _|exact Y _ _))
   refine wpQuiet_nil ?_;intro _ J;obtain⟨⟨V,H⟩,A⟩:=J;subst A;have X:=below_regrown w V H;have L:=h.later X;go_wp2_with fail;refine (zkN C U I base K S q 1 _ L h2).mono ?_;rintro e w2 ⟨rfl,M⟩;have HB:=(X.mono h.mem.base).trans (M.mono L.mem.base);unfold Pan;go_wp2;refine⟨rfl,?_⟩;rw[Z.o];exact⟨rfl,HB⟩
theorem zqn (h:isT C q.pos 1 sDefault=true):zq C true q= .ok (adv q,(ze C q.pos).text):=by
 have w:=h;simp only[isT,Bool.and_eq_true] at w;have A:((ze C q.pos).text.toList==[100,101,102,97,117,108,116])=true:=by
  have e:sDefault.toList=[100,101,102,97,117,108,116]:=by simp
  rw[<-e];exact w.2
 have:zO C q.pos true=true:=by rw[zO,w.1,A];simp
 rw[zq,this];rfl
theorem zqo (h:isT C q.pos 1 sDefault=false):zq C true q=zq C false q:=by
 have e:sDefault.toList=[100,101,102,97,117,108,116]:=by simp
 have:zO C q.pos true=zO C q.pos false:=by
  simp only[isT,e] at h;simp only[zO];cases w:((ze C q.pos).kind==1) with
  |false=>rfl
  |true=>
   rw[w,Bool.true_and] at h;rw[h];simp
 rw[zq,zq,this]
theorem zgf (C:Cx) (K A base H:Nat) (S:Sv) (q:PS) (w:World) (h:IM C K A base H S q w):
  Calls prog 267 #[.pointer (some ⟨H,0,none⟩)] w (zaa C K A base H (zq C true q) (·.1) (fun a=>.string a.2) S w):=by
 have aa:=zdk;cases J:isT C q.pos 1 sDefault with
 |true=>
  have N:Hid (zq C true q= .ok (adv q,(ze C q.pos).text)):=zqn J;have h2:((ze C q.pos).kind==1)=true:=by simp only[isT,Bool.and_eq_true] at J;exact J.1
  go_enter func267,ntmps267;go_wp2_with fail;refine (zc4 C K A base H S q 1 sDefault _ h).mono ?_;rintro e w1 ⟨rfl,I⟩;rw[J];have V:=h.later I;go_wp2_with fail;refine (zeD C K A base H S q 1 _ V h2 (by decide)).mono ?_;rintro e O ⟨rfl,L,M⟩;have U:=zc L;have X:IS H S w S O:=(IS.below I).trans M;clear L M;unfold tkV;go_wp2;go_ret;rw[N.o];exact⟨rfl,S,U.o,X⟩
 |false=>
  have N:Hid (zq C true q=zq C false q):=zqo J;go_enter func267,ntmps267;go_wp2_with fail;refine (zc4 C K A base H S q 1 sDefault _ h).mono ?_;rintro e w1 ⟨rfl,I⟩;rw[J];have V:=h.later I;go_wp2_with fail;refine (zdX C K A base H S q _ V).mono ?_;cases hn:zq C false q with
  |ok a=>
   rintro e O ⟨rfl,Z,L,M⟩;have U:=zc L;have X:IS H S w Z O:=(IS.below I).trans M;clear L M;go_wp2;go_ret;rw[N.o,hn];exact⟨rfl,Z,U.o,X⟩
  |error p=>
   rintro e O ⟨rfl,Y⟩;have HB:=(I.mono h.mem.base).trans Y;unfold Pan;go_wp2;refine⟨rfl,?_⟩;rw[N.o,hn];exact⟨rfl,HB⟩
theorem zeE (q:Nat) (c m:Int) (w:World) (h: ¬m<=c):
  Calls prog 256 #[.pointer (some ⟨q,0,none⟩),.int .i64 c,.int .i64 m] w fun e w'=>e= .returned (.tuple #[])/\w'=w:=by
 have A:decide (m<=c)=false:=dF h;go_enter func256,ntmps256;go_wp2;go_end0;exact⟨rfl,rfl⟩
