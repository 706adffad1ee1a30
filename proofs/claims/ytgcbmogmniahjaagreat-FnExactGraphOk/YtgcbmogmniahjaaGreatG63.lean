/-
 At every graph laws.FnExactGraphOk returns true: impl.GraphOk answers as spec.GraphOk does and writes into no argument; no condition.
-/
import Derived.ShutString
import Derived.ChangeOld
import Derived.Test.YtgcbmogmniahjaaGreatG0
import Derived.Test.YtgcbmogmniahjaaGreatG62
namespace Go.Proofs.YtgcbmogmniahjaaGreat.fnExactGraphOk
set_option maxRecDepth 100000
set_option maxHeartbeats 6400000
set_option linter.unusedVariables false
open Go.ChangeShapes Go.WideShapes Go.ChangeAt Go.RowKit
open Go.ChangeMaps (open_string shut_string)
theorem own:ownKnob Tryz.prog.godebug=none:=by kernel_rfl
theorem laidOut:laidOutB Tryz.prog=true:=by kernel_rfl
theorem zwr {A:GA} {g:Gr} (D:A.ms.map (·.2)=g.ms) (h:zf6 A g≤1048576) (H: ∀x∈A.ms,zaU x.2.ex):GdG g∧ziG g∧(∀x∈A.ms,zf7 x.2)∧A.ms.length≤1048576:=by
 have e:zf6 A g=(g.ps.length+zE zbW g.ps)+(A.ms.length+zE zdn A.ms)+(g.ls.length+zE zem g.ls):=rfl
 have K:A.ms.length=g.ms.length:=by rw[←D,List.length_map]
 have w: ∀x∈A.ms,zbu x.2≤1048576:=fun x q=>by have:=zdo (c:=zdn) q;have M:zdn x=zbu x.2:=rfl;omega
 have L:zao (zC g)≤zE zdn A.ms:=by
  unfold zao zC zE
  rw[←D,List.map_map,List.map_map]
  clear D h H e K w
  induction A.ms with
  |nil=>exact Nat.le_refl _
  |cons x l J=>
   rw[List.map_cons,List.sum_cons,List.map_cons,List.sum_cons]
   have:x.2.rq.length≤zdn x:=by
    show _≤zbu x.2
    unfold zbu
    omega
   exact Nat.add_le_add this J
 have E: ∀x∈A.ms,zf7 x.2:=fun x q=>by
  have:=w x q
  unfold zbu at this
  exact⟨by omega,by omega,by omega,by omega,by omega⟩
 refine⟨⟨fun m z=>?_,fun p I=>?_,by omega,by omega,by omega,by omega⟩,⟨by omega,by omega,by omega,fun m z=>?_⟩,E,by omega⟩
 ·rw[←D] at z
  obtain⟨x,q,rfl⟩:=List.mem_map.1 z
  exact⟨w x q,H x q⟩
 ·have:=zdo (c:=zbW) I
  have M:zbW p=p.size:=rfl
  omega
 ·rw[←D] at z
  obtain⟨x,q,rfl⟩:=List.mem_map.1 z
  have:=E x q
  unfold zf7 at this
  exact⟨by omega,by omega,by omega,by omega,by omega⟩
theorem walk (A:GA) (g:Gr) (w:World) (ai:GrIn w A g) (H:BigG A g) (hn: ∀x∈A.ms,zaU x.2.ex):
  Calls Tryz.prog 3 #[grA A g] w fun e w'=>e= .returned (.bool true)∧Below w.heap.size w w':=by
 have HI:=zc ai
 have HG:=zc H
 have HN:=zc hn
 clear ai H hn
 unfold grA
 go_enter Tryz.func3,Tryz.ntmps3
 go_upto_region 1 with fail
 obtain⟨gx,I⟩: ∃gx,gx=w.heap.size:=⟨_,rfl⟩
 rw[←I]
 refine zy (R:=fun W=>Bk W gx (lgC A g) 26∧Below w.heap.size w W) ⟨by rw[I];exact heap_alloc_new w _,zaN w _⟩ ?_
 clear I
 rintro w1 ⟨hx,h⟩
 have X1:=zc hx
 have M:=zc h
 clear hx h
 obtain⟨Y,V,U,X⟩:=zq X1.out
 go_wp2_with fail
 refine (zqs A g 1048576 w1 (HI.out.later M.out) HG.out (by omega) (by omega)).mono ?_
 rintro e w2 ⟨⟨z,rfl,an,am,ab⟩,h⟩
 have HZ:=zc ab
 have X2:=zc (X1.out.later h)
 have D:=zc (zaq M.out h)
 clear h ab Y V U X X1 M
 obtain⟨Y,V,U,X⟩:=zq X2.out
 by_cases hz:0≤z
 case neg=>
  go_wp2
  go_ret
  exact⟨rfl,D.out⟩
 have hc:zf6 A g≤1048576:=by have:=HZ.out hz;omega
 obtain⟨q,aa,ac,J⟩:=zwr HI.out.same hc HN.out
 have GD:=zc q
 have FW:=zc aa
 have MF:=zc ac
 have K:=q.pl
 have N:=q.ll
 clear hc HZ q aa ac
 go_wp2_with fail
 refine (zhJ A g w2 (HI.out.later D.out) MF.out K J N).mono ?_
 rintro e w3 ⟨G1,rfl,E,h⟩
 have O1:=zc E
 have X3:=zc (X2.out.later h)
 have al:=zc (zaq D.out h)
 clear E h Y V U X X2
 go_wp2_with fail
 refine (zvM zv9 zvB w2.heap.size G1 g w3 O1.out GD.out).mono ?_
 rintro e w4 ⟨⟨r1,rfl,i1⟩,h⟩
 have I1:=zc i1
 have X4:=zc (X3.out.later h)
 have ag:=zc (zaq al.out h)
 clear h i1 O1 X3 D
 obtain⟨Y,V,U,X⟩:=zq X4.out
 go_wp2_with fail
 refine (zhJ A g w4 (HI.out.later ag.out) MF.out K J N).mono ?_
 rintro e w5 ⟨G2,rfl,E,h⟩
 have O5:=zc E
 have X5:=zc (X4.out.later h)
 have ah:=zc (zaq ag.out h)
 clear E h Y V U X X4
 unfold grD
 go_upto_region 7 with fail
 obtain⟨gy,O⟩: ∃gy,gy=w5.heap.size:=⟨_,rfl⟩
 rw[←O]
 refine zy (R:=fun W=>Bk W gx (lgC A g) 26∧Bk W gy (grC G2 g) 32∧GrOwn W w4.heap.size G2 g∧Below w.heap.size w W) ⟨X5.out.later (zaN w5 _),by rw[O];exact heap_alloc_new w5 _,O5.out.later (zaN w5 _),zaq ah.out (zaN w5 _)⟩ ?_
 clear O X5 O5 ah
 rintro w6 ⟨hx,hy,E,h⟩
 have X6:=zc hx
 have Y6:=zc hy
 have O6:=zc E
 have ae:=zc h
 clear hx hy E h
 obtain⟨d0,d1,d2,df⟩:=zq Y6.out
 go_wp2_with fail
 refine (zwj zvA zvD w4.heap.size G2 g w6 O6.out GD.out).mono ?_
 rintro e w7 ⟨⟨r2,rfl,i2⟩,h⟩
 obtain rfl:r2=r1:=by
  have k:=(i2.trans (zq4 g).symm).trans I1.out.symm
  cases r1<;>cases r2<;>simp_all
 have O7:=zc (O6.out.later h)
 have Y7:=zc (Y6.out.later h)
 have X7:=zc (X6.out.later h)
 have af:=zc (zaq ae.out h)
 clear h i2 I1 O6 Y6 X6 ae d0 d1 d2 df
 obtain⟨Y,V,U,X⟩:=zq X7.out
 obtain⟨d0,d1,d2,df⟩:=zq Y7.out
 cases r2<;>(
  go_wp2_with fail
  go_region_with (first|(go_at_call 9;refine (zhJ A g _ (HI.out.later af.out.drew) MF.out K J N).mono ?_;rintro e w8 ⟨G3,rfl,Z,ad⟩;have O8:=zc Z;have L:Hid (Below w7.heap.size w7 w8):=(((Below.refl _ _).drew).trans ad);have Y8:=zc (Y7.out.later L.out);clear Z ad;obtain⟨q0,q1,q2,qf⟩:=zq Y8.out)|(go_at_call 11;refine (zwp w4.heap.size w7.heap.size G2 G3 g _ (O7.out.later L.out) O8.out FW.out).mono ?_;rintro e w9 ⟨rfl,aj⟩))
  all_goals (have ak:=zc (zaq (zaq af.out L.out) aj);go_wp2;go_ret;exact⟨rfl,ak.out⟩))
theorem lifted (os:Os) (z:os.Started) (H:Type) (enc:TypeId×Value→H):
  ReturnsInHanded {} Tryz.checked os 3 .any (Rows.fnExactGraphOkSpec.pre6 enc Tryz.prog Tryz.f3 Rows.fnExactGraphOkRow.domain false) (Rows.fnExactGraphOkSpec.post enc Tryz.prog Tryz.f3 false true false false):=by
 refine returnsInHanded_of_change (C:=Tryz.checked) own z (by kernel_rfl) Tryz.func3
  (ChangeSpec.witness6 (enc:=enc) (C:=Tryz.checked) false ⟨#[],#[.agg #[.slice none 0 0,.slice none 0 0,.slice none 0 0]],[]⟩ 8 (by kernel_rfl) (by kernel_rfl) (by kernel_rfl) (by kernel_rfl)) ?_
 intro W J w ds gs M D Z aa _
 have E: ∀(j:Nat) t v,Tryz.f3.params[j]? =some t→w[j]? =some v→Value.okWide Tryz.prog W .any J t v:=D
 have X:=Z
 obtain⟨p,q,K,hV,rfl,af,ad⟩:=Z
 have hA:DataW.TrodAll enc Tryz.prog W 0 (fun _=>true) true Tryz.f3.params.toList w.toList ds p:=K
 rw[Tryz.params3] at hA E
 obtain⟨v0,ae,d0,ac,p0,q0,U,rfl,rfl,Y,r0⟩:=trodAll_cons hA
 obtain⟨rfl,rfl,rfl⟩:=trodAll_nil r0
 obtain rfl:w= #[v0]:=by cases w;simp_all
 obtain⟨rfl,rfl⟩:=trodVars_none hV
 obtain⟨V,rfl,_⟩:=okWide_struct Tryz.underlying26 (E 0 26 v0 rfl rfl)
 have k0:=Y
 have N: ∀x∈p0,x.block<W.heap.size:=by obtain⟨m,hm⟩:=k0;exact DataW.trod_lt m _ _ _ hm
 obtain⟨A0,m0,rfl,O,L,I⟩: ∃(A:GA) (m:Gr),V=(grA A m).cells∧GrIn W A m∧BigG A m∧∀x∈A.ms,zaU x.2.ex:=by
  obtain⟨ab,hf⟩:=Y
  obtain⟨A,m,e,h⟩:=zwq hf
  exact⟨A,m,Array.toList_inj.1 e,h⟩
 clear K D
 refine (walk A0 m0 W O L I).mono fun e W' ⟨he,bel⟩=>?_
 subst he
 exact⟨_,rfl,_,_,_,[],_,[],X,trodAll_mk1 (shut_bool Tryz.underlying4 _),(trodAll_cons_mk (Below.trod laidOut (by kernel_rfl) (of_decide_eq_true (by kernel_rfl)) k0 bel N) trodAll_mk0),rfl,bel.frame _,fun h=>by cases h⟩
theorem over:Rows.fnExactGraphOkRow.holds Tryz.pinned (OpenSpec.ofChange Rows.fnExactGraphOkSpec):=
 OpenClaim.holds_of_wide 3 Tryz.f3 rfl rfl rfl rfl rfl rfl rfl ⟨rfl,rfl,rfl,rfl,rfl⟩ rfl rfl rfl rfl rfl (by kernel_rfl) Tryz.func3 zmI
  (of_decide_eq_true (by kernel_rfl)) (by unfold Func.isWrapper;first|(rw[if_pos (by decide+kernel)];kernel_rfl)|(rw[if_neg (by decide+kernel)];exact⟨rfl,rfl⟩))
  (fun w h H q _=>lifted w h H q)
end Go.Proofs.YtgcbmogmniahjaaGreat.fnExactGraphOk
namespace Go.Proofs.YtgcbmogmniahjaaGreat
theorem fnExactGraphOk_holds:Rows.FnExactGraphOkSaid:=fnExactGraphOk.over
end Go.Proofs.YtgcbmogmniahjaaGreat
