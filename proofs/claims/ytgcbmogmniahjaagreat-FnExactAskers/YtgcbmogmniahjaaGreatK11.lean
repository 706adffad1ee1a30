/- Facts and walks. -/
import Derived.Lib.QuietBelow
import Derived.Test.YtgcbmogmniahjaaGreatK10
namespace Go.Proofs.YtgcbmogmniahjaaGreat
open Go.Proofs.Tryz
set_option maxRecDepth 100000
set_option maxHeartbeats 1600000
open Go.RowKit Go.PlainAid Go.Sort
variable {C:Cx} {q:PS}
theorem zoy (h:zw (ze C q.pos).text C.scr=true):zm C false q= .error (zt C q.pos):=by
 have:zJ C q.pos false=false:=by rw[zJ,h];simp
 rw[zm,this];rfl
theorem zoz {o:Bool} (h:((ze C q.pos).kind==1)=false):zm C o q= .error (zt C q.pos):=by
 have:zJ C q.pos o=false:=by rw[zJ,h];rfl
 rw[zm,this];rfl
theorem zo0 (h:((ze C q.pos).kind==1)=true) (w:zw (ze C q.pos).text C.scr=false):zm C false q= .ok (adv q,(ze C q.pos).text):=by
 have:zJ C q.pos false=true:=by rw[zJ,h,w];rfl
 rw[zm,this];rfl
theorem zdF (C:Cx) (M D base H:Nat) (S:Sv) (q:PS) (w:World) (h:IM C M D base H S q w):
  Calls prog 219 #[.pointer (some ⟨H,0,none⟩)] w (zV C M D base H (zm C false q) (·.1) (fun a=>.string a.2) S w):=by
 have aa:=h.lt;obtain⟨_,_,_,c3,_,_,_,_,_,_,cf⟩:=zai h.cells;have C3:=zc c3;have ab:=zcW;have Z: ∀d L,Calls prog 218 #[.pointer (some ⟨H,0,none⟩)] (grow (redrawn w d) L) fun e K=>e= .returned (.agg #[.int .i64 (ze C q.pos).kind,.string (ze C q.pos).text,.int .i64 (ze C q.pos).num,.int .i64 (ze C q.pos).pos])/\∃p:Regrown,K=grow (redrawn w p.d) p.os:=
  fun d L=>Calls.regrown_of (zbC C M D base H S q _ (h.later (below_regrown w d L)))
 have U: ∀d L,Calls prog 237 #[.string (ze C q.pos).text,.bool C.scr] (grow (redrawn w d) L) fun e K=>e= .returned (.bool (zw (ze C q.pos).text C.scr))/\∃p:Regrown,K=grow (redrawn w p.d) p.os:=
  fun d L=>Calls.regrown_of ((zox _ _ _).mono (by rintro e w' ⟨rfl,rfl⟩;exact⟨rfl,Below.refl _ _⟩))
 clear c3;cases Y:zw (ze C q.pos).text C.scr with
 |true=>
  have V:Hid (zm C false q= .error (zt C q.pos)):=zoy Y;rw[Y] at U;go_enter func219,ntmps219;go_wp2_with fail;have k3:=cell_regrown C3.o;refine wp_region_quiet_below (by kernel_rfl) (by kernel_rfl) ?_
  repeat (go_big_quiet_step (first|exact Z _ _|exact U _ _))
  refine wpQuiet_nil ?_;intro _ E;obtain⟨⟨N,A⟩,z⟩:=E;subst z;have I:=h.later (below_regrown w N A);go_wp2_with fail;refine (zeS C M D base H S q _ I).mono ?_;rintro e w2 ⟨rfl,J⟩;have HB:=((below_regrown w N A).mono h.mem.base).trans (J.mono I.mem.base);unfold Pan;go_wp2;refine⟨rfl,?_⟩;rw[V.o];exact⟨rfl,HB⟩
 |false=>
  rw[Y] at U;cases X:((ze C q.pos).kind==1) with
  |true=>
   have V:Hid (zm C false q= .ok (adv q,(ze C q.pos).text)):=zo0 X Y;go_enter func219,ntmps219;go_wp2_with fail;have k3:=cell_regrown C3.o;refine wp_region_quiet_below (by kernel_rfl) (by kernel_rfl) ?_
   repeat (go_big_quiet_step (first|exact Z _ _|exact U _ _))
   refine wpQuiet_nil ?_;intro _ E;obtain⟨⟨N,A⟩,z⟩:=E;subst z;have O:=below_regrown w N A;have I:=h.later O;go_wp2_with fail;refine (zep C M D base H S q 1 _ I X (by decide)).mono ?_;rintro e w2 ⟨rfl,m2,s2⟩;have HM:=zc m2;have HS:IS H S w S w2:=(IS.below O).trans s2;clear m2 s2;unfold tkV;go_wp2;go_ret;rw[V.o];exact⟨rfl,S,HM.o,HS⟩
  |false=>
   have V:Hid (zm C false q= .error (zt C q.pos)):=zoz X;go_enter func219,ntmps219;go_wp2_with fail;have k3:=cell_regrown C3.o;refine wp_region_quiet_below (by kernel_rfl) (by kernel_rfl) ?_
   repeat (go_big_quiet_step (first|exact Z _ _|exact U _ _))
   refine wpQuiet_nil ?_;intro _ E;obtain⟨⟨N,A⟩,z⟩:=E;subst z;have O:=below_regrown w N A;have I:=h.later O;go_wp2_with fail;refine (zjR C M D base H S q 1 _ I X).mono ?_;rintro e w2 ⟨rfl,J⟩;have HB:=(O.mono h.mem.base).trans (J.mono I.mem.base);unfold Pan;go_wp2;refine⟨rfl,?_⟩;rw[V.o];exact⟨rfl,HB⟩
theorem zo1 (h:isT C q.pos 1 sDefault=true):zm C true q= .ok (adv q,(ze C q.pos).text):=by
 have w:=h;simp only[isT,Bool.and_eq_true] at w;have z:((ze C q.pos).text.toList==[100,101,102,97,117,108,116])=true:=by
  have e:sDefault.toList=[100,101,102,97,117,108,116]:=by simp
  rw[<-e];exact w.2
 have:zJ C q.pos true=true:=by rw[zJ,w.1,z];simp
 rw[zm,this];rfl
theorem zo2 (h:isT C q.pos 1 sDefault=false):zm C true q=zm C false q:=by
 have e:sDefault.toList=[100,101,102,97,117,108,116]:=by simp
 have:zJ C q.pos true=zJ C q.pos false:=by
  simp only[isT,e] at h;simp only[zJ];cases w:((ze C q.pos).kind==1) with
  |false=>rfl
  |true=>
   rw[w,Bool.true_and] at h;rw[h];simp
 rw[zm,zm,this]
theorem zf9 (C:Cx) (H z base A:Nat) (S:Sv) (q:PS) (w:World) (h:IM C H z base A S q w):
  Calls prog 251 #[.pointer (some ⟨A,0,none⟩)] w (zV C H z base A (zm C true q) (·.1) (fun a=>.string a.2) S w):=by
 have aa:=zcW;cases E:isT C q.pos 1 sDefault with
 |true=>
  have K:Hid (zm C true q= .ok (adv q,(ze C q.pos).text)):=zo1 E;have Z:((ze C q.pos).kind==1)=true:=by simp only[isT,Bool.and_eq_true] at E;exact E.1
  go_enter func251,ntmps251;go_wp2_with fail;refine (zcu C H z base A S q 1 sDefault _ h).mono ?_;rintro e Y ⟨rfl,D⟩;rw[E];have N:=h.later D;go_wp2_with fail;refine (zep C H z base A S q 1 _ N Z (by decide)).mono ?_;rintro e L ⟨rfl,I,J⟩;have M:=zc I;have O:IS A S w S L:=(IS.below D).trans J;clear I J;unfold tkV;go_wp2;go_ret;rw[K.o];exact⟨rfl,S,M.o,O⟩
 |false=>
  have K:Hid (zm C true q=zm C false q):=zo2 E;go_enter func251,ntmps251;go_wp2_with fail;refine (zcu C H z base A S q 1 sDefault _ h).mono ?_;rintro e Y ⟨rfl,D⟩;rw[E];have N:=h.later D;go_wp2_with fail;refine (zdF C H z base A S q _ N).mono ?_;cases X:zm C false q with
  |ok a=>
   rintro e L ⟨rfl,V,I,J⟩;have M:=zc I;have O:IS A S w V L:=(IS.below D).trans J;clear I J;go_wp2;go_ret;rw[K.o,X];exact⟨rfl,V,M.o,O⟩
  |error p=>
   rintro e L ⟨rfl,U⟩;have HB:=(D.mono h.mem.base).trans U;unfold Pan;go_wp2;refine⟨rfl,?_⟩;rw[K.o,X];exact⟨rfl,HB⟩
theorem zeq (z:Nat) (c m:Int) (w:World) (h: ¬m<=c):
  Calls prog 240 #[.pointer (some ⟨z,0,none⟩),.int .i64 c,.int .i64 m] w fun e q=>e= .returned (.tuple #[])/\q=w:=by
 have A:decide (m<=c)=false:=decide_eq_false h;go_enter func240,ntmps240;go_wp2;go_end0;exact⟨rfl,rfl⟩
end Go.Proofs.YtgcbmogmniahjaaGreat
