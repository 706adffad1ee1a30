/-
 At every graph laws.FnExactGraphOk returns true: impl.GraphOk answers as spec.GraphOk does and writes into no argument; no condition.
-/
import Derived.ShutString
import Derived.ChangeOld
import Derived.Test.YtcidlffeeninbaaGreatClFnExactGraphOkFacts
import Derived.Test.YtcidlffeeninbaaGreatClImplOrderToSrcGraph
import Derived.Test.YtcidlffeeninbaaGreatClGrPre
namespace Go.Proofs.YtcidlffeeninbaaGreat.fnExactGraphOk
set_option maxRecDepth 100000
set_option maxHeartbeats 6400000
set_option linter.unusedVariables false
open Go.ChangeShapes Go.WideShapes Go.ChangeAt Go.RowKit
open Go.ChangeMaps (open_string shut_string)
theorem own:ownKnob Tryz.prog.godebug=none:=by kernel_rfl
theorem laidOut:laidOutB Tryz.prog=true:=by kernel_rfl
theorem zvB {A:GA} {g:Gr} (D:A.ms.map (·.2)=g.ms) (h:zf2 A g≤1048576) (H: ∀x∈A.ms,zaY x.2.ex):GdG g∧zi2 g∧(∀x∈A.ms,zf3 x.2)∧A.ms.length≤1048576:=by
 have e:zf2 A g=(g.ps.length+zE zbU g.ps)+(A.ms.length+zE zdn A.ms)+(g.ls.length+zE zem g.ls):=rfl
 have J:A.ms.length=g.ms.length:=by rw[←D,List.length_map]
 have w: ∀x∈A.ms,zb4 x.2≤1048576:=fun x q=>by have:=zdo (c:=zdn) q;have K:zdn x=zb4 x.2:=rfl;omega
 have L:zao (zC g)≤zE zdn A.ms:=by
  unfold zao zC zE
  rw[←D,List.map_map,List.map_map]
  clear D h H e J w
  induction A.ms with
  |nil=>exact Nat.le_refl _
  |cons x l M=>
   rw[List.map_cons,List.sum_cons,List.map_cons,List.sum_cons]
   have:x.2.rq.length≤zdn x:=by
    show _≤zb4 x.2
    unfold zb4
    omega
   exact Nat.add_le_add this M
 have z: ∀x∈A.ms,zf3 x.2:=fun x q=>by
  have:=w x q
  unfold zb4 at this
  exact⟨by omega,by omega,by omega,by omega,by omega⟩
 refine⟨⟨fun m E=>?_,fun p I=>?_,by omega,by omega,by omega,by omega⟩,⟨by omega,by omega,by omega,fun m E=>?_⟩,z,by omega⟩
 ·rw[←D] at E
  obtain⟨x,q,rfl⟩:=List.mem_map.1 E
  exact⟨w x q,H x q⟩
 ·have:=zdo (c:=zbU) I
  have K:zbU p=p.size:=rfl
  omega
 ·rw[←D] at E
  obtain⟨x,q,rfl⟩:=List.mem_map.1 E
  have:=z x q
  unfold zf3 at this
  exact⟨by omega,by omega,by omega,by omega,by omega⟩
theorem walk (A:GA) (g:Gr) (w:World) (af:GrIn w A g) (E:BigG A g) (hn: ∀x∈A.ms,zaY x.2.ex):
  Calls Tryz.prog 3 #[grA A g] w fun e w'=>e= .returned (.bool true)∧Below w.heap.size w w':=by
 have HI:=zc af
 have HG:=zc E
 have HN:=zc hn
 clear af E hn
 unfold grA
 go_enter Tryz.func3,Tryz.ntmps3
 go_upto_region 1 with fail
 obtain⟨gx,M⟩: ∃gx,gx=w.heap.size:=⟨_,rfl⟩
 rw[←M]
 refine zx (R:=fun W=>Bk W gx (lgC A g) 26∧Below w.heap.size w W) ⟨by rw[M];exact heap_alloc_new w _,zaN w _⟩ ?_
 clear M
 rintro w1 ⟨hx,h⟩
 have X1:=zc hx
 have J:=zc h
 clear hx h
 obtain⟨Y,X,U,V⟩:=zq X1.out
 go_wp2_with fail
 refine (zpT A g 1048576 w1 (HI.out.later J.out) HG.out (by omega) (by omega)).mono ?_
 rintro e w2 ⟨⟨z,rfl,an,am,ai⟩,h⟩
 have HZ:=zc ai
 have X2:=zc (X1.out.later h)
 have q:=zc (zar J.out h)
 clear h ai Y X U V X1 J
 obtain⟨Y,X,U,V⟩:=zq X2.out
 by_cases hz:0≤z
 case neg=>
  go_wp2
  go_ret
  exact⟨rfl,q.out⟩
 have hc:zf2 A g≤1048576:=by have:=HZ.out hz;omega
 obtain⟨D,ac,Z,O⟩:=zvB HI.out.same hc HN.out
 have GD:=zc D
 have FW:=zc ac
 have MF:=zc Z
 have N:=D.pl
 have L:=D.ll
 clear hc HZ D ac Z
 go_wp2_with fail
 refine (zhC A g w2 (HI.out.later q.out) MF.out N O L).mono ?_
 rintro e w3 ⟨G1,rfl,H,h⟩
 have O1:=zc H
 have X3:=zc (X2.out.later h)
 have aj:=zc (zar q.out h)
 clear H h Y X U V X2
 go_wp2_with fail
 refine (zvg zuR zuT w2.heap.size G1 g w3 O1.out GD.out).mono ?_
 rintro e w4 ⟨⟨r1,rfl,i1⟩,h⟩
 have I1:=zc i1
 have X4:=zc (X3.out.later h)
 have ab:=zc (zar aj.out h)
 clear h i1 O1 X3 q
 obtain⟨Y,X,U,V⟩:=zq X4.out
 go_wp2_with fail
 refine (zhC A g w4 (HI.out.later ab.out) MF.out N O L).mono ?_
 rintro e w5 ⟨G2,rfl,H,h⟩
 have O5:=zc H
 have X5:=zc (X4.out.later h)
 have ah:=zc (zar ab.out h)
 clear H h Y X U V X4
 unfold grD
 go_upto_region 7 with fail
 obtain⟨gy,K⟩: ∃gy,gy=w5.heap.size:=⟨_,rfl⟩
 rw[←K]
 refine zx (R:=fun W=>Bk W gx (lgC A g) 26∧Bk W gy (grC G2 g) 32∧GrOwn W w4.heap.size G2 g∧Below w.heap.size w W) ⟨X5.out.later (zaN w5 _),by rw[K];exact heap_alloc_new w5 _,O5.out.later (zaN w5 _),zar ah.out (zaN w5 _)⟩ ?_
 clear K X5 O5 ah
 rintro w6 ⟨hx,hy,H,h⟩
 have X6:=zc hx
 have Y6:=zc hy
 have O6:=zc H
 have ae:=zc h
 clear hx hy H h
 obtain⟨d0,d1,d2,df⟩:=zq Y6.out
 go_wp2_with fail
 refine (zv3 zuS zuV w4.heap.size G2 g w6 O6.out GD.out).mono ?_
 rintro e w7 ⟨⟨r2,rfl,i2⟩,h⟩
 obtain rfl:r2=r1:=by
  have k:=(i2.trans (zqh g).symm).trans I1.out.symm
  cases r1<;>cases r2<;>simp_all
 have O7:=zc (O6.out.later h)
 have Y7:=zc (Y6.out.later h)
 have X7:=zc (X6.out.later h)
 have aa:=zc (zar ae.out h)
 clear h i2 I1 O6 Y6 X6 ae d0 d1 d2 df
 obtain⟨Y,X,U,V⟩:=zq X7.out
 obtain⟨d0,d1,d2,df⟩:=zq Y7.out
 cases r2<;>(
  go_wp2_with fail
  go_region_with (first|(go_at_call 6;refine (zhC A g _ (HI.out.later aa.out.drew) MF.out N O L).mono ?_;rintro e w8 ⟨G3,rfl,ad,ag⟩;have O8:=zc ad;have I:Hid (Below w7.heap.size w7 w8):=(((Below.refl _ _).drew).trans ag);have Y8:=zc (Y7.out.later I.out);clear ad ag;obtain⟨q0,q1,q2,qf⟩:=zq Y8.out)|(go_at_call 8;refine (zv9 w4.heap.size w7.heap.size G2 G3 g _ (O7.out.later I.out) O8.out FW.out).mono ?_;rintro e w9 ⟨rfl,ak⟩))
  all_goals (have al:=zc (zar (zar aa.out I.out) ak);go_wp2;go_ret;exact⟨rfl,al.out⟩))
theorem lifted (os:Os) (z:os.Started) (H:Type) (enc:TypeId×Value→H):
  ReturnsInHanded {} Tryz.checked os 3 .any (Rows.fnExactGraphOkSpec.pre6 enc Tryz.prog Tryz.f3 Rows.fnExactGraphOkRow.domain false) (Rows.fnExactGraphOkSpec.post enc Tryz.prog Tryz.f3 false true false false):=by
 refine returnsInHanded_of_change (C:=Tryz.checked) own z (by kernel_rfl) Tryz.func3
  (ChangeSpec.witness6 (enc:=enc) (C:=Tryz.checked) false ⟨#[],#[.agg #[.slice none 0 0,.slice none 0 0,.slice none 0 0]],[]⟩ 8 (by kernel_rfl) (by kernel_rfl) (by kernel_rfl) (by kernel_rfl)) ?_
 intro W J w ds gs M D hW Z _
 have E: ∀(j:Nat) t v,Tryz.f3.params[j]? =some t→w[j]? =some v→Value.okWide Tryz.prog W .any J t v:=D
 have V:=hW
 obtain⟨p,q,K,hV,rfl,ad,ae⟩:=hW
 have Y:DataW.TrodAll enc Tryz.prog W 0 (fun _=>true) true Tryz.f3.params.toList w.toList ds p:=K
 rw[Tryz.params3] at Y E
 obtain⟨v0,ac,d0,ab,p0,q0,O,rfl,rfl,h0,r0⟩:=trodAll_cons Y
 obtain⟨rfl,rfl,rfl⟩:=trodAll_nil r0
 obtain rfl:w= #[v0]:=by cases w;simp_all
 obtain⟨rfl,rfl⟩:=trodVars_none hV
 obtain⟨N,rfl,_⟩:=okWide_struct Tryz.underlying26 (E 0 26 v0 rfl rfl)
 have k0:=h0
 have X: ∀x∈p0,x.block<W.heap.size:=by obtain⟨m,hm⟩:=k0;exact DataW.trod_lt m _ _ _ hm
 obtain⟨A0,m0,rfl,U,L,I⟩: ∃(A:GA) (m:Gr),N=(grA A m).cells∧GrIn W A m∧BigG A m∧∀x∈A.ms,zaY x.2.ex:=by
  obtain⟨aa,hf⟩:=h0
  obtain⟨A,m,e,h⟩:=zvA hf
  exact⟨A,m,Array.toList_inj.1 e,h⟩
 clear K D
 refine (walk A0 m0 W U L I).mono fun e W' ⟨he,bel⟩=>?_
 subst he
 exact⟨_,rfl,_,_,_,[],_,[],V,trodAll_mk1 (shut_bool Tryz.underlying4 _),(trodAll_cons_mk (Below.trod laidOut (by kernel_rfl) (of_decide_eq_true (by kernel_rfl)) k0 bel X) trodAll_mk0),rfl,bel.frame _,fun h=>by cases h⟩
theorem over:Rows.fnExactGraphOkRow.holds Tryz.pinned (OpenSpec.ofChange Rows.fnExactGraphOkSpec):=
 OpenClaim.holds_of_wide 3 Tryz.f3 rfl rfl rfl rfl rfl rfl rfl ⟨rfl,rfl,rfl,rfl,rfl⟩ rfl rfl rfl rfl rfl (by kernel_rfl) Tryz.func3 zmx
  (of_decide_eq_true (by kernel_rfl)) (by unfold Func.isWrapper;first|(rw[if_pos (by decide+kernel)];kernel_rfl)|(rw[if_neg (by decide+kernel)];exact⟨rfl,rfl⟩))
  (fun w h H q _=>lifted w h H q)
end Go.Proofs.YtcidlffeeninbaaGreat.fnExactGraphOk
namespace Go.Proofs.YtcidlffeeninbaaGreat
theorem fnExactGraphOk_holds:Rows.FnExactGraphOkSaid:=fnExactGraphOk.over
end Go.Proofs.YtcidlffeeninbaaGreat