/-
 At every graph laws.FnExactAcyclic returns true: impl.Acyclic answers as spec.Acyclic does and writes into no argument; no condition.
-/
import Derived.ShutString
import Derived.ChangeOld
import Derived.Test.YtgcbmogmniahjaaGreatA0
import Derived.Test.YtgcbmogmniahjaaGreatA65
namespace Go.Proofs.YtgcbmogmniahjaaGreat.fnExactAcyclic
set_option maxRecDepth 100000
set_option maxHeartbeats 6400000
set_option linter.unusedVariables false
open Go.ChangeShapes Go.WideShapes Go.ChangeAt Go.RowKit
open Go.ChangeMaps (open_string shut_string)
theorem own:ownKnob Tryz.prog.godebug=none:=by kernel_rfl
theorem laidOut:laidOutB Tryz.prog=true:=by kernel_rfl
theorem walk (A:GA) (g:Gr) (w:World) (aj:GrIn w A g) (J:BigG A g) (hn: ∀x∈A.ms,zaW x.2.ex):
  Calls Tryz.prog 4 #[grA A g] w fun e w'=>e= .returned (.bool true)∧Below w.heap.size w w':=by
 have HI:=zc aj
 have HG:=zc J
 have HN:=zc hn
 clear aj J hn
 unfold grA
 go_enter Tryz.func4,Tryz.ntmps4
 go_upto_region 1 with fail
 obtain⟨gx,K⟩: ∃gx,gx=w.heap.size:=⟨_,rfl⟩
 rw[←K]
 refine zx (R:=fun W=>Bk W gx (lgC A g) 26∧Below w.heap.size w W) ⟨by rw[K];exact heap_alloc_new w _,zaB w _⟩ ?_
 clear K
 rintro w1 ⟨hx,h⟩
 have X1:=zc hx
 have O:=zc h
 clear hx h
 obtain⟨c0,Y,X,Z⟩:=zo X1.out
 go_wp2_with fail
 refine (zqH A g 1048576 w1 (HI.out.later O.out) HG.out (by omega) (by omega)).mono ?_
 rintro e w2 ⟨⟨z,rfl,ao,an,ac⟩,h⟩
 have HZ:=zc ac
 have X2:=zc (X1.out.later h)
 have H:=zc (zaf O.out h)
 clear h ac c0 Y X Z X1 O
 obtain⟨c0,Y,X,Z⟩:=zo X2.out
 by_cases hz:0≤z
 case neg=>
  go_wp2
  go_ret
  exact⟨rfl,H.out⟩
 have hc:zfF A g≤1048576:=by have:=HZ.out hz;omega
 obtain⟨q,ab,ad,L⟩:=zwH HI.out.same hc HN.out
 have GD:=zc q
 have FW:=zc ab
 have MF:=zc ad
 have M:=q.pl
 have U:=q.ll
 clear hc HZ q ab ad
 go_wp2_with fail
 refine (zhZ A g w2 (HI.out.later H.out) MF.out M L U).mono ?_
 rintro e w3 ⟨G1,rfl,I,h⟩
 have O1:=zc I
 have X3:=zc (X2.out.later h)
 have am:=zc (zaf H.out h)
 clear I h c0 Y X Z X2
 go_wp2_with fail
 refine (zwP zw9 w2.heap.size G1 g w3 O1.out GD.out).mono ?_
 rintro e w4 ⟨⟨r1,rfl,i1⟩,h⟩
 have I1:=zc i1
 have X4:=zc (X3.out.later h)
 have ah:=zc (zaf am.out h)
 clear h i1 O1 X3 H
 obtain⟨c0,Y,X,Z⟩:=zo X4.out
 go_wp2_with fail
 refine (zhZ A g w4 (HI.out.later ah.out) MF.out M L U).mono ?_
 rintro e w5 ⟨G2,rfl,I,h⟩
 have O5:=zc I
 have X5:=zc (X4.out.later h)
 have ai:=zc (zaf ah.out h)
 clear I h c0 Y X Z X4
 unfold grD
 go_upto_region 7 with fail
 obtain⟨gy,V⟩: ∃gy,gy=w5.heap.size:=⟨_,rfl⟩
 rw[←V]
 refine zx (R:=fun W=>Bk W gx (lgC A g) 26∧Bk W gy (grC G2 g) 32∧GrOwn W w4.heap.size G2 g∧Below w.heap.size w W) ⟨X5.out.later (zaB w5 _),by rw[V];exact heap_alloc_new w5 _,O5.out.later (zaB w5 _),zaf ai.out (zaB w5 _)⟩ ?_
 clear V X5 O5 ai
 rintro w6 ⟨hx,hy,I,h⟩
 have X6:=zc hx
 have Y6:=zc hy
 have O6:=zc I
 have af:=zc h
 clear hx hy I h
 obtain⟨d0,d1,d2,df⟩:=zo Y6.out
 go_wp2_with fail
 refine (zxa zwA w4.heap.size G2 g w6 O6.out GD.out).mono ?_
 rintro e w7 ⟨⟨r2,rfl,i2⟩,h⟩
 obtain rfl:r2=r1:=by
  have k:=i2.trans I1.out.symm
  cases r1<;>cases r2<;>simp_all
 have O7:=zc (O6.out.later h)
 have Y7:=zc (Y6.out.later h)
 have X7:=zc (X6.out.later h)
 have ag:=zc (zaf af.out h)
 clear h i2 I1 O6 Y6 X6 af d0 d1 d2 df
 obtain⟨c0,Y,X,Z⟩:=zo X7.out
 obtain⟨d0,d1,d2,df⟩:=zo Y7.out
 cases r2<;>(
  go_wp2_with fail
  go_region_with (first|(go_at_call 9;refine (zhZ A g _ (HI.out.later ag.out.drew) MF.out M L U).mono ?_;rintro e w8 ⟨G3,rfl,aa,ae⟩;have O8:=zc aa;have N:Hid (Below w7.heap.size w7 w8):=(((Below.refl _ _).drew).trans ae);have Y8:=zc (Y7.out.later N.out);clear aa ae;obtain⟨q0,q1,q2,qf⟩:=zo Y8.out)|(go_at_call 11;refine (zwG w4.heap.size w7.heap.size G2 G3 g _ (O7.out.later N.out) O8.out FW.out).mono ?_;rintro e w9 ⟨rfl,ak⟩))
  all_goals (have al:=zc (zaf (zaf ag.out N.out) ak);go_wp2;go_ret;exact⟨rfl,al.out⟩))
theorem lifted (os:Os) (z:os.Started) (H:Type) (enc:TypeId×Value→H):
  ReturnsInHanded {} Tryz.checked os 4 .any (Rows.fnExactAcyclicSpec.pre6 enc Tryz.prog Tryz.f4 Rows.fnExactAcyclicRow.domain false) (Rows.fnExactAcyclicSpec.post enc Tryz.prog Tryz.f4 false true false false):=by
 refine returnsInHanded_of_change (C:=Tryz.checked) own z (by kernel_rfl) Tryz.func4
  (ChangeSpec.witness6 (enc:=enc) (C:=Tryz.checked) false ⟨#[],#[.agg #[.slice none 0 0,.slice none 0 0,.slice none 0 0]],[]⟩ 8 (by kernel_rfl) (by kernel_rfl) (by kernel_rfl) (by kernel_rfl)) ?_
 intro W L w ds gs O I hW aa _
 have J: ∀(j:Nat) t v,Tryz.f4.params[j]? =some t→w[j]? =some v→Value.okWide Tryz.prog W .any L t v:=I
 have Z:=hW
 obtain⟨p,q,M,hV,rfl,af,ad⟩:=hW
 have hA:DataW.TrodAll enc Tryz.prog W 0 (fun _=>true) true Tryz.f4.params.toList w.toList ds p:=M
 rw[Tryz.params4] at hA J
 obtain⟨v0,ae,d0,ac,p0,q0,X,rfl,rfl,h0,r0⟩:=trodAll_cons hA
 obtain⟨rfl,rfl,rfl⟩:=trodAll_nil r0
 obtain rfl:w= #[v0]:=by cases w;simp_all
 obtain⟨rfl,rfl⟩:=trodVars_none hV
 obtain⟨Y,rfl,_⟩:=okWide_struct Tryz.underlying26 (J 0 26 v0 rfl rfl)
 have k0:=h0
 have U: ∀x∈p0,x.block<W.heap.size:=by obtain⟨m,hm⟩:=k0;exact DataW.trod_lt m _ _ _ hm
 obtain⟨A0,m0,rfl,V,N,K⟩: ∃(A:GA) (m:Gr),Y=(grA A m).cells∧GrIn W A m∧BigG A m∧∀x∈A.ms,zaW x.2.ex:=by
  obtain⟨ab,hf⟩:=h0
  obtain⟨A,m,e,h⟩:=zxb hf
  exact⟨A,m,Array.toList_inj.1 e,h⟩
 clear M I
 refine (walk A0 m0 W V N K).mono fun e W' ⟨he,bel⟩=>?_
 subst he
 exact⟨_,rfl,_,_,_,[],_,[],Z,trodAll_mk1 (shut_bool Tryz.underlying4 _),(trodAll_cons_mk (Below.trod laidOut (by kernel_rfl) (of_decide_eq_true (by kernel_rfl)) k0 bel U) trodAll_mk0),rfl,bel.frame _,fun h=>by cases h⟩
theorem over:Rows.fnExactAcyclicRow.holds Tryz.pinned (OpenSpec.ofChange Rows.fnExactAcyclicSpec):=
 OpenClaim.holds_of_wide 4 Tryz.f4 rfl rfl rfl rfl rfl rfl rfl ⟨rfl,rfl,rfl,rfl,rfl⟩ rfl rfl rfl rfl rfl (by kernel_rfl) Tryz.func4 znj
  (of_decide_eq_true (by kernel_rfl)) (by unfold Func.isWrapper;first|(rw[if_pos (by decide+kernel)];kernel_rfl)|(rw[if_neg (by decide+kernel)];exact⟨rfl,rfl⟩))
  (fun w h H q _=>lifted w h H q)
end Go.Proofs.YtgcbmogmniahjaaGreat.fnExactAcyclic
namespace Go.Proofs.YtgcbmogmniahjaaGreat
theorem fnExactAcyclic_holds:Rows.FnExactAcyclicSaid:=fnExactAcyclic.over
end Go.Proofs.YtgcbmogmniahjaaGreat
