/-
 At every graph laws.FnExactAcyclic returns true: impl.Acyclic answers as spec.Acyclic does and writes into no argument; no condition.
-/
import Derived.ShutString
import Derived.ChangeOld
import Derived.Test.YtegdaafmaookjaaGreatP101
import Derived.Test.YtegdaafmaookjaaGreatP103
import Derived.Test.YtegdaafmaookjaaGreatP104
namespace Go.Proofs.YtegdaafmaookjaaGreat.fnExactAcyclic
set_option maxRecDepth 100000
set_option maxHeartbeats 6400000
set_option linter.unusedVariables false
open Go.ChangeShapes Go.WideShapes Go.ChangeAt Go.RowKit
open Go.ChangeMaps (open_string shut_string)
theorem own:ownKnob Tryz.prog.godebug=none:=by kernel_rfl
theorem laidOut:laidOutB Tryz.prog=true:=by kernel_rfl
theorem walk (A:GA) (g:Gr) (w:World) (aj:GrIn w A g) (J:BigG A g) (hn: ∀x∈A.ms,zay x.2.ex):
  Calls Tryz.prog 4 #[grA A g] w fun e w'=>e= .returned (.bool true)∧Below w.heap.size w w':=by
 have HI:=zc aj;have HG:=zc J;have HN:=zc hn;clear aj J hn;unfold grA;go_enter Tryz.func4,Tryz.ntmps4;go_upto_region 1 with fail;obtain⟨gx,K⟩: ∃gx,gx=w.heap.size:=⟨_,rfl⟩;rw[←K];refine zp (R:=fun W=>Bk W gx (lgC A g) 26∧Below w.heap.size w W) ⟨by rw[K];exact heap_alloc_new w _,zn w _⟩ ?_;clear K;rintro w1 ⟨hx,h⟩;have X1:=zc hx;have O:=zc h;clear hx h;obtain⟨c0,Y,X,Z⟩:=zg X1.o;go_wp2_with fail;refine (zeT A g 1048576 w1 (HI.o.later O.o) HG.o (by omega) (by omega)).mono ?_;rintro e w2 ⟨⟨z,rfl,ao,an,ac⟩,h⟩;have HZ:=zc ac;have X2:=zc (X1.o.later h);have H:=zc (zi O.o h);clear h ac c0 Y X Z X1 O;obtain⟨c0,Y,X,Z⟩:=zg X2.o;by_cases hz:0≤z
 case neg=>
  go_wp2;go_ret;exact⟨rfl,H.o⟩
 have hc:zcx A g≤1048576:=by have:=HZ.o hz;omega
 obtain⟨q,ab,ad,L⟩:=ze4 HI.o.same hc HN.o;have GD:=zc q;have FW:=zc ab;have MF:=zc ad;have M:=q.pl;have U:=q.ll;clear hc HZ q ab ad;go_wp2_with fail;refine (zaY A g w2 (HI.o.later H.o) MF.o M L U).mono ?_;rintro e w3 ⟨G1,rfl,I,h⟩;have O1:=zc I;have X3:=zc (X2.o.later h);have am:=zc (zi H.o h);clear I h c0 Y X Z X2;go_wp2_with fail;refine (zzr zfN w2.heap.size G1 g w3 O1.o GD.o).mono ?_;rintro e w4 ⟨⟨r1,rfl,i1⟩,h⟩;have I1:=zc i1;have X4:=zc (X3.o.later h);have ah:=zc (zi am.o h);clear h i1 O1 X3 H;obtain⟨c0,Y,X,Z⟩:=zg X4.o;go_wp2_with fail;refine (zaY A g w4 (HI.o.later ah.o) MF.o M L U).mono ?_;rintro e w5 ⟨G2,rfl,I,h⟩;have O5:=zc I;have X5:=zc (X4.o.later h);have ai:=zc (zi ah.o h);clear I h c0 Y X Z X4;unfold grD;go_upto_region 7 with fail;obtain⟨gy,V⟩: ∃gy,gy=w5.heap.size:=⟨_,rfl⟩;rw[←V];refine zp (R:=fun W=>Bk W gx (lgC A g) 26∧Bk W gy (grC G2 g) 32∧GrOwn W w4.heap.size G2 g∧Below w.heap.size w W) ⟨X5.o.later (zn w5 _),by rw[V];exact heap_alloc_new w5 _,O5.o.later (zn w5 _),zi ai.o (zn w5 _)⟩ ?_;clear V X5 O5 ai;rintro w6 ⟨hx,hy,I,h⟩;have X6:=zc hx;have Y6:=zc hy;have O6:=zc I;have af:=zc h;clear hx hy I h;obtain⟨d0,d1,d2,df⟩:=zg Y6.o;go_wp2_with fail;refine (zzs zdv w4.heap.size G2 g w6 O6.o GD.o).mono ?_;rintro e w7 ⟨⟨r2,rfl,i2⟩,h⟩;obtain rfl:r2=r1:=by
  have k:=i2.trans I1.o.symm;cases r1<;>cases r2<;>simp_all
 have O7:=zc (O6.o.later h);have Y7:=zc (Y6.o.later h);have X7:=zc (X6.o.later h);have ag:=zc (zi af.o h);clear h i2 I1 O6 Y6 X6 af d0 d1 d2 df;obtain⟨c0,Y,X,Z⟩:=zg X7.o;obtain⟨d0,d1,d2,df⟩:=zg Y7.o
 cases r2<;>(
  go_wp2_with fail;go_region_with (first|(go_at_call 12;refine (zaY A g _ (HI.o.later ag.o.drew) MF.o M L U).mono ?_;rintro e w8 ⟨G3,rfl,aa,ae⟩;have O8:=zc aa;have N:Hid (Below w7.heap.size w7 w8):=(((Below.refl _ _).drew).trans ae);have Y8:=zc (Y7.o.later N.o);clear aa ae;obtain⟨q0,q1,q2,qf⟩:=zg Y8.o)|(go_at_call 14;refine (zfe w4.heap.size w7.heap.size G2 G3 g _ (O7.o.later N.o) O8.o FW.o).mono ?_;rintro e w9 ⟨rfl,ak⟩))
  all_goals (have al:=zc (zi (zi ag.o N.o) ak);go_wp2;go_ret;exact⟨rfl,al.o⟩))
theorem lifted (os:Os) (I:os.Started) (H:Type) (enc:TypeId×Value→H):
  ReturnsInHanded {} Tryz.checked os 4 .any (Rows.fnExactAcyclicSpec.pre6 enc Tryz.prog Tryz.f4 Rows.fnExactAcyclicRow.domain false) (Rows.fnExactAcyclicSpec.post enc Tryz.prog Tryz.f4 false true false false):=by
 refine returnsInHanded_of_change (C:=Tryz.checked) own I (by kernel_rfl) Tryz.func4
  (ChangeSpec.witness6 (enc:=enc) (C:=Tryz.checked) false ⟨#[],#[.agg #[.slice none 0 0,.slice none 0 0,.slice none 0 0]],[]⟩ 8 (by kernel_rfl) (by kernel_rfl) (by kernel_rfl) (by kernel_rfl)) ?_
 intro W M w ds gs U J hW ab _
 have K: ∀(j:Nat) t v,Tryz.f4.params[j]? =some t→w[j]? =some v→Value.okWide Tryz.prog W .any M t v:=J
 have aa:=hW
 obtain⟨p,q,N,hV,rfl,ag,ae⟩:=hW
 have hA:DataW.TrodAll enc Tryz.prog W 0 (fun _=>true) true Tryz.f4.params.toList w.toList ds p:=N
 rw[Tryz.params4] at hA K
 obtain⟨v0,af,d0,ad,p0,q0,Y,rfl,rfl,h0,r0⟩:=trodAll_cons hA
 obtain⟨rfl,rfl,rfl⟩:=trodAll_nil r0
 obtain rfl:w= #[v0]:=by cases w;simp_all
 obtain⟨rfl,rfl⟩:=trodVars_none hV
 obtain⟨Z,rfl,_⟩:=okWide_struct Tryz.underlying26 (K 0 26 v0 rfl rfl)
 have k0:=h0
 have V: ∀x∈p0,x.block<W.heap.size:=by obtain⟨m,hm⟩:=k0;exact DataW.trod_lt m _ _ _ hm
 obtain⟨A0,m0,rfl,X,O,L⟩: ∃(A:GA) (m:Gr),Z=(grA A m).cells∧GrIn W A m∧BigG A m∧∀x∈A.ms,zay x.2.ex:=by
  obtain⟨ac,hf⟩:=h0
  obtain⟨A,m,e,h⟩:=zff hf
  exact⟨A,m,Array.toList_inj.1 e,h⟩
 clear N J
 refine (walk A0 m0 W X O L).mono fun e W' ⟨he,bel⟩=>?_
 subst he
 exact⟨_,rfl,_,_,_,[],_,[],aa,trodAll_mk1 (shut_bool Tryz.underlying4 _),(trodAll_cons_mk (Below.trod laidOut (by kernel_rfl) (of_decide_eq_true (by kernel_rfl)) k0 bel V) trodAll_mk0),rfl,bel.frame _,fun h=>by cases h⟩
theorem over:Rows.fnExactAcyclicRow.holds Tryz.pinned (OpenSpec.ofChange Rows.fnExactAcyclicSpec):=
 OpenClaim.holds_of_wide 4 Tryz.f4 rfl rfl rfl rfl rfl rfl rfl ⟨rfl,rfl,rfl,rfl,rfl⟩ rfl rfl rfl rfl rfl (by kernel_rfl) Tryz.func4 zzk
  (of_decide_eq_true (by kernel_rfl)) (by unfold Func.isWrapper;first|(rw[if_pos (by decide+kernel)];kernel_rfl)|(rw[if_neg (by decide+kernel)];exact⟨rfl,rfl⟩))
  (fun w h H q _=>lifted w h H q)
end Go.Proofs.YtegdaafmaookjaaGreat.fnExactAcyclic
namespace Go.Proofs.YtegdaafmaookjaaGreat
theorem fnExactAcyclic_holds:Rows.FnExactAcyclicSaid:=fnExactAcyclic.over
end Go.Proofs.YtegdaafmaookjaaGreat
