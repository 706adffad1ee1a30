/- Facts and walks that the theorem stands on. -/
import Derived.Lib.QuietBelow
import Derived.Test.YtgcbmogmniahjaaGreatA10
namespace Go.Proofs.YtgcbmogmniahjaaGreat
open Go.Proofs.Tryz
set_option maxRecDepth 100000
set_option maxHeartbeats 1600000
open Go.RowKit Go.PlainAid Go.Sort
theorem zoc {C:Cx} {q:PS} (h:zu (ze C q.pos).text C.scr=true):zm C false q= .error (zs C q.pos):=by
 have:zH C q.pos false=false:=by rw[zH,h];simp
 rw[zm,this];rfl
theorem zod {C:Cx} {o:Bool} {q:PS} (h:((ze C q.pos).kind==1)=false):zm C o q= .error (zs C q.pos):=by
 have:zH C q.pos o=false:=by rw[zH,h];rfl
 rw[zm,this];rfl
theorem zoe {C:Cx} {q:PS} (h:((ze C q.pos).kind==1)=true) (w:zu (ze C q.pos).text C.scr=false):zm C false q= .ok (adv q,(ze C q.pos).text):=by
 have:zH C q.pos false=true:=by rw[zH,h,w];rfl
 rw[zm,this];rfl
theorem zd8 (C:Cx) (O H base J:Nat) (S:Sv) (q:PS) (w:World) (h:IM C O H base J S q w):
  Calls prog 219 #[.pointer (some ⟨J,0,none⟩)] w (zU C O H base J (zm C false q) (·.1) (fun a=>.string a.2) S w):=by
 have aa:=h.lt;obtain⟨_,_,_,c3,_,_,_,_,_,_,cf⟩:=zah h.cells;have C3:=zc c3;have ab:=zcR;have cP: ∀d N,Calls prog 218 #[.pointer (some ⟨J,0,none⟩)] (grow (redrawn w d) N) fun e M=>e= .returned (.agg #[.int .i64 (ze C q.pos).kind,.string (ze C q.pos).text,.int .i64 (ze C q.pos).num,.int .i64 (ze C q.pos).pos])/\∃p:Regrown,M=grow (redrawn w p.d) p.os:=
  fun d N=>Calls.regrown_of (zb8 C O H base J S q _ (h.later (below_regrown w d N)))
 have X: ∀d N,Calls prog 237 #[.string (ze C q.pos).text,.bool C.scr] (grow (redrawn w d) N) fun e M=>e= .returned (.bool (zu (ze C q.pos).text C.scr))/\∃p:Regrown,M=grow (redrawn w p.d) p.os:=
  fun d N=>Calls.regrown_of ((zob _ _ _).mono (by rintro e w' ⟨rfl,rfl⟩;exact⟨rfl,Below.refl _ _⟩))
 clear c3;cases h1:zu (ze C q.pos).text C.scr with
 |true=>
  have Y:Hid (zm C false q= .error (zs C q.pos)):=zoc h1;rw[h1] at X;go_enter func219,ntmps219;go_wp2_with fail;have k3:=cell_regrown C3.o;refine wp_region_quiet_below (by kernel_rfl) (by kernel_rfl) ?_
  repeat (go_big_quiet_step (first|exact cP _ _|exact X _ _))
  refine wpQuiet_nil ?_;intro _ I;obtain⟨⟨U,A⟩,z⟩:=I;subst z;have K:=h.later (below_regrown w U A);go_wp2_with fail;refine (zeI C O H base J S q _ K).mono ?_;rintro e w2 ⟨rfl,L⟩;have HB:=((below_regrown w U A).mono h.mem.base).trans (L.mono K.mem.base);unfold Pan;go_wp2;refine⟨rfl,?_⟩;rw[Y.o];exact⟨rfl,HB⟩
 |false=>
  rw[h1] at X;cases Z:((ze C q.pos).kind==1) with
  |true=>
   have Y:Hid (zm C false q= .ok (adv q,(ze C q.pos).text)):=zoe Z h1;go_enter func219,ntmps219;go_wp2_with fail;have k3:=cell_regrown C3.o;refine wp_region_quiet_below (by kernel_rfl) (by kernel_rfl) ?_
   repeat (go_big_quiet_step (first|exact cP _ _|exact X _ _))
   refine wpQuiet_nil ?_;intro _ I;obtain⟨⟨U,A⟩,z⟩:=I;subst z;have V:=below_regrown w U A;have K:=h.later V;go_wp2_with fail;refine (zef C O H base J S q 1 _ K Z (by decide)).mono ?_;rintro e w2 ⟨rfl,m2,s2⟩;have HM:=zc m2;have HS:IS J S w S w2:=(IS.below V).trans s2;clear m2 s2;unfold tkV;go_wp2;go_ret;rw[Y.o];exact⟨rfl,S,HM.o,HS⟩
  |false=>
   have Y:Hid (zm C false q= .error (zs C q.pos)):=zod Z;go_enter func219,ntmps219;go_wp2_with fail;have k3:=cell_regrown C3.o;refine wp_region_quiet_below (by kernel_rfl) (by kernel_rfl) ?_
   repeat (go_big_quiet_step (first|exact cP _ _|exact X _ _))
   refine wpQuiet_nil ?_;intro _ I;obtain⟨⟨U,A⟩,z⟩:=I;subst z;have V:=below_regrown w U A;have K:=h.later V;go_wp2_with fail;refine (zjC C O H base J S q 1 _ K Z).mono ?_;rintro e w2 ⟨rfl,L⟩;have HB:=(V.mono h.mem.base).trans (L.mono K.mem.base);unfold Pan;go_wp2;refine⟨rfl,?_⟩;rw[Y.o];exact⟨rfl,HB⟩
theorem zof {C:Cx} {q:PS} (h:isT C q.pos 1 sDefault=true):zm C true q= .ok (adv q,(ze C q.pos).text):=by
 have w:=h;simp only[isT,Bool.and_eq_true] at w;have z:((ze C q.pos).text.toList==[100,101,102,97,117,108,116])=true:=by
  have e:sDefault.toList=[100,101,102,97,117,108,116]:=by simp
  rw[<-e];exact w.2
 have:zH C q.pos true=true:=by rw[zH,w.1,z];simp
 rw[zm,this];rfl
theorem zog {C:Cx} {q:PS} (h:isT C q.pos 1 sDefault=false):zm C true q=zm C false q:=by
 have e:sDefault.toList=[100,101,102,97,117,108,116]:=by simp
 have:zH C q.pos true=zH C q.pos false:=by
  simp only[isT,e] at h;simp only[zH];cases w:((ze C q.pos).kind==1) with
  |false=>rfl
  |true=>
   rw[w,Bool.true_and] at h;rw[h];simp
 rw[zm,zm,this]
theorem zfz (C:Cx) (J z base A:Nat) (S:Sv) (q:PS) (w:World) (h:IM C J z base A S q w):
  Calls prog 251 #[.pointer (some ⟨A,0,none⟩)] w (zU C J z base A (zm C true q) (·.1) (fun a=>.string a.2) S w):=by
 have aa:=zcR;cases I:isT C q.pos 1 sDefault with
 |true=>
  have M:Hid (zm C true q= .ok (adv q,(ze C q.pos).text)):=zof I;have h2:((ze C q.pos).kind==1)=true:=by simp only[isT,Bool.and_eq_true] at I;exact I.1
  go_enter func251,ntmps251;go_wp2_with fail;refine (zcr C J z base A S q 1 sDefault _ h).mono ?_;rintro e w1 ⟨rfl,H⟩;rw[I];have U:=h.later H;go_wp2_with fail;refine (zef C J z base A S q 1 _ U h2 (by decide)).mono ?_;rintro e N ⟨rfl,K,L⟩;have O:=zc K;have V:IS A S w S N:=(IS.below H).trans L;clear K L;unfold tkV;go_wp2;go_ret;rw[M.o];exact⟨rfl,S,O.o,V⟩
 |false=>
  have M:Hid (zm C true q=zm C false q):=zog I;go_enter func251,ntmps251;go_wp2_with fail;refine (zcr C J z base A S q 1 sDefault _ h).mono ?_;rintro e w1 ⟨rfl,H⟩;rw[I];have U:=h.later H;go_wp2_with fail;refine (zd8 C J z base A S q _ U).mono ?_;cases Z:zm C false q with
  |ok a=>
   rintro e N ⟨rfl,Y,K,L⟩;have O:=zc K;have V:IS A S w Y N:=(IS.below H).trans L;clear K L;go_wp2;go_ret;rw[M.o,Z];exact⟨rfl,Y,O.o,V⟩
  |error p=>
   rintro e N ⟨rfl,X⟩;have HB:=(H.mono h.mem.base).trans X;unfold Pan;go_wp2;refine⟨rfl,?_⟩;rw[M.o,Z];exact⟨rfl,HB⟩
theorem zeg (q:Nat) (c m:Int) (w:World) (h: ¬m<=c):
  Calls prog 240 #[.pointer (some ⟨q,0,none⟩),.int .i64 c,.int .i64 m] w fun e w'=>e= .returned (.tuple #[])/\w'=w:=by
 have z:decide (m<=c)=false:=decide_eq_false h;go_enter func240,ntmps240;go_wp2;go_end0;exact⟨rfl,rfl⟩
end Go.Proofs.YtgcbmogmniahjaaGreat
