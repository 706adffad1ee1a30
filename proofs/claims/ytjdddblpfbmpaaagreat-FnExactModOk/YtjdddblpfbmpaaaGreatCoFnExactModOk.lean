/-
 At every program,as a module or as a script,laws.FnExactModOk returns true: impl.ModOk answers as spec.ModOk does and writes into no argument; no condition.
-/
import Derived.Test.YtjdddblpfbmpaaaGreatRows
import Derived.ProofKit
import Derived.ShutString
import Derived.ChangeOld
import Derived.Test.YtjdddblpfbmpaaaGreatCoModOkSpec
import Derived.Test.YtjdddblpfbmpaaaGreatCoLawEqMdToSizeMath
import Derived.Test.YtjdddblpfbmpaaaGreatCoSrcMod
namespace Go.Proofs.YtjdddblpfbmpaaaGreat.fnExactModOk
set_option maxRecDepth 100000
set_option maxHeartbeats 6400000
set_option linter.unusedVariables false
open Go.ChangeShapes Go.WideShapes Go.ChangeAt Go.RowKit
open Go.ChangeMaps (open_string shut_string)
theorem own:ownKnob Tryz.prog.godebug=none:=by kernel_rfl
theorem laidOut:laidOutB Tryz.prog=true:=by kernel_rfl
theorem walk (A:MA) (m:Md) (N:Bool) (w:World) (ag:ModIn w A m) (I:zf0 m) (hn:zaR m.ex):
  Calls Tryz.prog 3 #[zcX A m,.bool N] w fun e w'=>e= .returned (.bool true)∧Below w.heap.size w w':=by
 have HI:=zc ag
 have HG:=zc I
 have HN:=zc hn
 clear ag I hn
 unfold zcX
 go_enter Tryz.func3,Tryz.ntmps3
 go_upto_region 1 with fail
 have K:Hid (Below w.heap.size w (w.alloc (.cells #[.slice A.a0 m.rq.length A.c0,.slice A.a1 m.im.length A.c1,.slice A.a2 m.ep.length A.c2,.slice A.a3 m.st.length A.c3,.slice A.a4 m.ex.length A.c4] 28))):=(Below.refl _ _).alloc (Nat.le_refl _) _
 refine zac (R:=fun W=>W.heap[w.heap.size]? =some (.cells #[.slice A.a0 m.rq.length A.c0,.slice A.a1 m.im.length A.c1,.slice A.a2 m.ep.length A.c2,.slice A.a3 m.st.length A.c3,.slice A.a4 m.ex.length A.c4] 28 (0,0))∧Below w.heap.size w W) ⟨heap_alloc_new w _,K.out⟩ ?_
 obtain⟨gx,J⟩: ∃gx,gx=w.heap.size:=⟨_,rfl⟩
 rw[←J]
 rintro w1 ⟨hx,h⟩
 rw[J] at h
 clear J K
 have X1:=zc hx
 have L:=zc h
 clear hx h
 obtain⟨c0,V,U,Y,Z,X⟩:=zi X1.out
 go_wp2_with fail
 refine (zqq A m 1048576 w1 (HI.out.later L.out) HG.out (by omega) (by omega)).mono ?_
 rintro e w2 ⟨⟨z,rfl,an,al,ab⟩,h⟩
 have HZ:=zc ab
 have X2:=zc ((h.block _ (Array.getElem?_eq_some_iff.1 X1.out).1).trans X1.out)
 have D:=zc (L.out.trans (h.mono L.out.size))
 clear h ab c0 V U Y Z X
 obtain⟨c0,V,U,Y,Z,X⟩:=zi X2.out
 by_cases hz:0≤z
 case neg=>
  go_wp2
  go_ret
  exact⟨rfl,D.out⟩
 have hc:zcE m≤1048576:=by have:=HZ.out hz;omega
 have SM:=zc (zqU hc HN.out)
 have TS:Hid (Tree m→(zbP m).size≤4294967296):=fun t=>by have:=(zj0 t HN.out).1;omega
 have TI:Hid (Tree m→(zbp m).size≤4294967296):=fun t=>by have:=(zj0 t HN.out).2;omega
 have n:Hid (m.rq.length≤1048576∧m.im.length≤1048576∧m.ep.length≤1048576∧m.st.length≤1048576∧m.ex.length≤1048576):=by
  have e:zcE m=(m.rq.length+zP zbW m.rq)+(m.im.length+zP zbA m.im)+(m.ep.length+zP zbB m.ep)+(m.st.length+zP zbX m.st)+(m.ex.length+zP zct m.ex):=rfl
  exact⟨by omega,by omega,by omega,by omega,by omega⟩
 clear hc HZ
 go_wp2_with fail
 refine (zg2 A m w2 (HI.out.later D.out) n.out.1 n.out.2.1 n.out.2.2.1 n.out.2.2.2.1 n.out.2.2.2.2).mono ?_
 rintro e w3 ⟨S1,rfl,H,h⟩
 have O1:=zc H
 have X3:=zc ((h.block _ (Array.getElem?_eq_some_iff.1 X2.out).1).trans X2.out)
 have ae:=zc (D.out.trans (h.mono D.out.size))
 clear H h c0 V U Y Z X
 go_wp2_with fail
 refine (zqe w2.heap.size S1 m N w3 O1.out SM.out TS.out).mono ?_
 rintro e w4 ⟨⟨t1,p1,r1,rfl,i1⟩,h⟩
 have P1:=zc p1
 have I1:=zc i1
 have X4:=zc ((h.block _ (Array.getElem?_eq_some_iff.1 X3.out).1).trans X3.out)
 have M:=zc (ae.out.trans (h.mono ae.out.size))
 clear h p1 i1 O1
 obtain⟨c0,V,U,Y,Z,X⟩:=zi X4.out
 go_wp2_with fail
 refine (zg2 A m w4 (HI.out.later M.out) n.out.1 n.out.2.1 n.out.2.2.1 n.out.2.2.2.1 n.out.2.2.2.2).mono ?_
 rintro e w5 ⟨j,rfl,H,h⟩
 have O5:=zc H
 have X5:=zc ((h.block _ (Array.getElem?_eq_some_iff.1 X4.out).1).trans X4.out)
 have O:=zc (M.out.trans (h.mono M.out.size))
 clear H h c0 V U Y Z X
 unfold zq
 go_upto_region 7 with fail
 have K:Hid (Below w5.heap.size w5 (w5.alloc (.cells #[.slice j.rq.a m.rq.length j.rq.cap,.slice j.im.a m.im.length j.im.cap,.slice j.ep.a m.ep.length j.ep.cap,.slice j.st.a m.st.length j.st.cap,.slice j.ex.a m.ex.length j.ex.cap] 36))):=(Below.refl _ _).alloc (Nat.le_refl _) _
 refine zac (R:=fun W=>W.heap[gx]? =some (.cells #[.slice A.a0 m.rq.length A.c0,.slice A.a1 m.im.length A.c1,.slice A.a2 m.ep.length A.c2,.slice A.a3 m.st.length A.c3,.slice A.a4 m.ex.length A.c4] 28 (0,0))∧W.heap[w5.heap.size]? =some (.cells #[.slice j.rq.a m.rq.length j.rq.cap,.slice j.im.a m.im.length j.im.cap,.slice j.ep.a m.ep.length j.ep.cap,.slice j.st.a m.st.length j.st.cap,.slice j.ex.a m.ex.length j.ex.cap] 36 (0,0))∧OwnMd W w4.heap.size j m∧Below w.heap.size w W) ⟨(K.out.block _ (Array.getElem?_eq_some_iff.1 X5.out).1).trans X5.out,heap_alloc_new w5 _,O5.out.later K.out,O.out.trans (K.out.mono O.out.size)⟩ ?_
 obtain⟨gy,af⟩: ∃gy,gy=w5.heap.size:=⟨_,rfl⟩
 rw[←af]
 rintro w6 ⟨hx,hy,H,h⟩
 clear af K X5 O5 O
 have X6:=zc hx
 have Y6:=zc hy
 have O6:=zc H
 have ad:=zc h
 clear hx hy H h
 obtain⟨d0,d1,d2,d3,d4,df⟩:=zi Y6.out
 go_wp2_with fail
 refine (zoB w4.heap.size j m N w6 O6.out SM.out TI.out).mono ?_
 rintro e w7 ⟨⟨t2,p2,r2,rfl,i2⟩,h⟩
 obtain rfl:r2=r1:=by
  have k:=(i2.trans ((zlL P1.out p2).symm)).trans I1.out.symm
  cases r1<;>cases r2<;>simp_all
 have O7:=zc (O6.out.later h)
 have Y7:=zc ((h.block _ (Array.getElem?_eq_some_iff.1 Y6.out).1).trans Y6.out)
 have X7:=zc ((h.block _ (Array.getElem?_eq_some_iff.1 X6.out).1).trans X6.out)
 have q:=zc (ad.out.trans (h.mono ad.out.size))
 clear h p2 i2 P1 I1 O6 Y6 d0 d1 d2 d3 d4 df
 obtain⟨c0,V,U,Y,Z,X⟩:=zi X7.out
 obtain⟨d0,d1,d2,d3,d4,df⟩:=zi Y7.out
 have am:=(Array.getElem?_eq_some_iff.1 Y7.out).1
 have ak:=(Array.getElem?_eq_some_iff.1 X7.out).1
 cases r2<;>(
  go_wp2_with fail
  go_region_with (first|(go_at_call 8;refine (zg2 A m _ (HI.out.later q.out.drew) n.out.1 n.out.2.1 n.out.2.2.1 n.out.2.2.2.1 n.out.2.2.2.2).mono ?_;rintro e w8 ⟨S3,rfl,aa,ac⟩;have O8:=zc aa;have E:=zc (((Below.refl w7.heap.size w7).drew).trans ac);have Y8:=zc ((E.out.block _ (Array.getElem?_eq_some_iff.1 Y7.out).1).trans Y7.out);clear aa ac;obtain⟨q0,q1,q2,q3,q4,qf⟩:=zi Y8.out;have aj:=(Array.getElem?_eq_some_iff.1 Y8.out).1)|(go_at_call 10;refine (zqM w4.heap.size w7.heap.size j S3 m _ (O7.out.later E.out) O8.out SM.out.few).mono ?_;rintro e w9 ⟨rfl,ah⟩))
  all_goals (have ai:=zc ((q.out.trans (E.out.mono q.out.size)).trans (ah.mono (q.out.trans (E.out.mono q.out.size)).size));go_wp2;go_ret;exact⟨rfl,ai.out⟩))
theorem lifted (Z:Os) (w:Z.Started) (H:Type) (enc:TypeId×Value→H):
  ReturnsInHanded {} Tryz.checked Z 3 .any (Rows.fnExactModOkSpec.pre6 enc Tryz.prog Tryz.f3 Rows.fnExactModOkRow.domain false) (Rows.fnExactModOkSpec.post enc Tryz.prog Tryz.f3 false true false false):=by
 refine returnsInHanded_of_change (C:=Tryz.checked) own w (by kernel_rfl) Tryz.func3
  (ChangeSpec.witness6 (enc:=enc) (C:=Tryz.checked) false ⟨#[],#[.agg #[.slice none 0 0,.slice none 0 0,.slice none 0 0,.slice none 0 0,.slice none 0 0],.bool false],[]⟩ 8 (by kernel_rfl) (by kernel_rfl) (by kernel_rfl) (by kernel_rfl)) ?_
 intro W I n ds gs L D Y aa _
 have z: ∀(j:Nat) t v,Tryz.f3.params[j]? =some t→n[j]? =some v→Value.okWide Tryz.prog W .any I t v:=D
 have V:=Y
 obtain⟨p,q,J,hV,rfl,ah,af⟩:=Y
 have hA:DataW.TrodAll enc Tryz.prog W 0 (fun _=>true) true Tryz.f3.params.toList n.toList ds p:=J
 rw[Tryz.params3] at hA z
 obtain⟨v0,ag,d0,ad,p0,q0,O,rfl,rfl,X,r0⟩:=trodAll_cons hA
 obtain⟨v1,ac,d1,ae,p1,q1,rfl,rfl,rfl,h1,r1⟩:=trodAll_cons r0
 obtain⟨rfl,rfl,rfl⟩:=trodAll_nil r1
 obtain rfl:n= #[v0,v1]:=by cases n;simp_all
 obtain⟨rfl,rfl⟩:=trodVars_none hV
 obtain⟨U,rfl,_⟩:=okWide_struct Tryz.underlying28 (z 0 28 v0 rfl rfl)
 have k0:=X
 have M: ∀x∈p0,x.block<W.heap.size:=by obtain⟨m,hm⟩:=k0;exact DataW.trod_lt m _ _ _ hm
 obtain⟨A0,m0,rfl,N,K,E⟩: ∃(A:MA) (m:Md),U=(zcX A m).cells∧ModIn W A m∧zf0 m∧zaR m.ex:=by
  obtain⟨ab,hf⟩:=X
  obtain⟨A,m,e,h⟩:=zrb hf
  exact⟨A,m,Array.toList_inj.1 e,h⟩
 obtain⟨a1,rfl,rfl,rfl⟩:=open_bool Tryz.underlying4 (z 1 4 v1 rfl rfl) h1
 clear J D
 refine (walk A0 m0 a1 W N K E).mono fun e W' ⟨he,bel⟩=>?_
 subst he
 exact⟨_,rfl,_,_,_,[],_,[],V,trodAll_mk1 (shut_bool Tryz.underlying4 _),(trodAll_cons_mk (Below.trod laidOut (by kernel_rfl) (of_decide_eq_true (by kernel_rfl)) k0 bel M) (trodAll_cons_mk (shut_bool Tryz.underlying4 _) trodAll_mk0)),rfl,bel.frame _,fun h=>by cases h⟩
theorem over:Rows.fnExactModOkRow.holds Tryz.pinned (OpenSpec.ofChange Rows.fnExactModOkSpec):=
 OpenClaim.holds_of_wide 3 Tryz.f3 rfl rfl rfl rfl rfl rfl rfl ⟨rfl,rfl,rfl,rfl,rfl⟩ rfl rfl rfl rfl rfl (by kernel_rfl) Tryz.func3 (by kernel_rfl)
  (of_decide_eq_true (by kernel_rfl)) (by unfold Func.isWrapper;first|(rw[if_pos (by decide+kernel)];kernel_rfl)|(rw[if_neg (by decide+kernel)];exact⟨rfl,rfl⟩))
  (fun n h H j _=>lifted n h H j)
end Go.Proofs.YtjdddblpfbmpaaaGreat.fnExactModOk
namespace Go.Proofs.YtjdddblpfbmpaaaGreat
theorem fnExactModOk_holds:Rows.FnExactModOkSaid:=fnExactModOk.over
end Go.Proofs.YtjdddblpfbmpaaaGreat