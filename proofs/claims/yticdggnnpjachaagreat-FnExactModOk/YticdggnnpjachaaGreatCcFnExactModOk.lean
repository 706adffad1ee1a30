/-
 At every program,as a module or as a script,laws.FnExactModOk returns true: impl.ModOk answers as spec.ModOk does and writes into no argument; no condition.
-/
import Derived.Test.YticdggnnpjachaaGreatRows
import Derived.ProofKit
import Derived.ShutString
import Derived.ChangeOld
import Derived.Below
import Derived.Test.YticdggnnpjachaaGreatCcModOkSpec
import Derived.Test.YticdggnnpjachaaGreatCcLawEqMdToSizeMath
import Derived.Test.YticdggnnpjachaaGreatCcSrcMod
namespace Go.Proofs.YticdggnnpjachaaGreat.fnExactModOk
set_option maxRecDepth 100000
set_option maxHeartbeats 6400000
set_option linter.unusedVariables false
open Go.ChangeShapes Go.WideShapes Go.ChangeAt Go.RowKit
open Go.ChangeMaps (open_string shut_string)
theorem own:ownKnob Tryz.prog.godebug=none:=by kernel_rfl
theorem laidOut:laidOutB Tryz.prog=true:=by kernel_rfl
theorem walk (A:MA) (m:Md) (K:Bool) (w:World) (ad:ModIn w A m) (E:zf3 m) (hn:zbg m.ex):
  Calls Tryz.prog 4 #[zcZ A m,.bool K] w fun e w'=>e= .returned (.bool true)∧Below w.heap.size w w':=by
 have HI:=zc ad
 have HG:=zc E
 have HN:=zc hn
 clear ad E hn
 unfold zcZ
 go_enter Tryz.func4,Tryz.ntmps4
 go_upto_region 1 with fail
 have J:Hid (Below w.heap.size w (w.alloc (.cells #[.slice A.a0 m.rq.length A.c0,.slice A.a1 m.im.length A.c1,.slice A.a2 m.ep.length A.c2,.slice A.a3 m.st.length A.c3,.slice A.a4 m.ex.length A.c4] 39))):=(Below.refl _ _).alloc (Nat.le_refl _) _
 refine zah (R:=fun W=>W.heap[w.heap.size]? =some (.cells #[.slice A.a0 m.rq.length A.c0,.slice A.a1 m.im.length A.c1,.slice A.a2 m.ep.length A.c2,.slice A.a3 m.st.length A.c3,.slice A.a4 m.ex.length A.c4] 39 (0,0))∧Below w.heap.size w W) ⟨heap_alloc_new w _,J.out⟩ ?_
 obtain⟨gx,N⟩: ∃gx,gx=w.heap.size:=⟨_,rfl⟩
 rw[←N]
 rintro w1 ⟨hx,h⟩
 rw[N] at h
 clear N J
 have X1:=zc hx
 have I:=zc h
 clear hx h
 obtain⟨Z,U,X,O,V,cf⟩:=zk X1.out
 go_wp2_with fail
 refine (zqe A m 1048576 w1 (HI.out.later I.out) HG.out (by omega) (by omega)).mono ?_
 rintro e w2 ⟨⟨z,rfl,am,ak,aa⟩,h⟩
 have HZ:=zc aa
 have X2:=zc ((h.block _ (Array.getElem?_eq_some_iff.1 X1.out).1).trans X1.out)
 have D:=zc (I.out.trans (h.mono I.out.size))
 clear h aa Z U X O V cf
 obtain⟨Z,U,X,O,V,cf⟩:=zk X2.out
 by_cases hz:0≤z
 case neg=>
  go_wp2
  go_ret
  exact⟨rfl,D.out⟩
 have hc:zcQ m≤1048576:=by have:=HZ.out hz;omega
 have SM:=zc (zqH hc HN.out)
 have TS:Hid (Tree m→(zbT m).size≤4294967296):=fun t=>by have:=(zjv t HN.out).1;omega
 have TI:Hid (Tree m→(zb6 m).size≤4294967296):=fun t=>by have:=(zjv t HN.out).2;omega
 have n:Hid (m.rq.length≤1048576∧m.im.length≤1048576∧m.ep.length≤1048576∧m.st.length≤1048576∧m.ex.length≤1048576):=by
  have e:zcQ m=(m.rq.length+zQ zca m.rq)+(m.im.length+zQ zbE m.im)+(m.ep.length+zQ zbF m.ep)+(m.st.length+zQ zcb m.st)+(m.ex.length+zQ zcw m.ex):=rfl
  exact⟨by omega,by omega,by omega,by omega,by omega⟩
 clear hc HZ
 go_wp2_with fail
 refine (zg5 A m w2 (HI.out.later D.out) n.out.1 n.out.2.1 n.out.2.2.1 n.out.2.2.2.1 n.out.2.2.2.2).mono ?_
 rintro e w3 ⟨S1,rfl,H,h⟩
 have O1:=zc H
 have X3:=zc ((h.block _ (Array.getElem?_eq_some_iff.1 X2.out).1).trans X2.out)
 have ag:=zc (D.out.trans (h.mono D.out.size))
 clear H h Z U X O V cf
 go_wp2_with fail
 refine (zpS w2.heap.size S1 m K w3 O1.out SM.out TS.out).mono ?_
 rintro e w4 ⟨⟨t1,p1,r1,rfl,i1⟩,h⟩
 have P1:=zc p1
 have I1:=zc i1
 have X4:=zc ((h.block _ (Array.getElem?_eq_some_iff.1 X3.out).1).trans X3.out)
 have M:=zc (ag.out.trans (h.mono ag.out.size))
 clear h p1 i1 O1
 obtain⟨Z,U,X,O,V,cf⟩:=zk X4.out
 go_wp2_with fail
 refine (zg5 A m w4 (HI.out.later M.out) n.out.1 n.out.2.1 n.out.2.2.1 n.out.2.2.2.1 n.out.2.2.2.2).mono ?_
 rintro e Y ⟨j,rfl,H,h⟩
 have O5:=zc H
 have X5:=zc ((h.block _ (Array.getElem?_eq_some_iff.1 X4.out).1).trans X4.out)
 have L:=zc (M.out.trans (h.mono M.out.size))
 clear H h Z U X O V cf
 unfold zt
 go_upto_region 7 with fail
 have J:Hid (Below Y.heap.size Y (Y.alloc (.cells #[.slice j.rq.a m.rq.length j.rq.cap,.slice j.im.a m.im.length j.im.cap,.slice j.ep.a m.ep.length j.ep.cap,.slice j.st.a m.st.length j.st.cap,.slice j.ex.a m.ex.length j.ex.cap] 28))):=(Below.refl _ _).alloc (Nat.le_refl _) _
 refine zah (R:=fun W=>W.heap[gx]? =some (.cells #[.slice A.a0 m.rq.length A.c0,.slice A.a1 m.im.length A.c1,.slice A.a2 m.ep.length A.c2,.slice A.a3 m.st.length A.c3,.slice A.a4 m.ex.length A.c4] 39 (0,0))∧W.heap[Y.heap.size]? =some (.cells #[.slice j.rq.a m.rq.length j.rq.cap,.slice j.im.a m.im.length j.im.cap,.slice j.ep.a m.ep.length j.ep.cap,.slice j.st.a m.st.length j.st.cap,.slice j.ex.a m.ex.length j.ex.cap] 28 (0,0))∧OwnMd W w4.heap.size j m∧Below w.heap.size w W) ⟨(J.out.block _ (Array.getElem?_eq_some_iff.1 X5.out).1).trans X5.out,heap_alloc_new Y _,O5.out.later J.out,L.out.trans (J.out.mono L.out.size)⟩ ?_
 obtain⟨gy,ab⟩: ∃gy,gy=Y.heap.size:=⟨_,rfl⟩
 rw[←ab]
 rintro w6 ⟨hx,hy,H,h⟩
 clear ab J X5 O5 L
 have X6:=zc hx
 have Y6:=zc hy
 have O6:=zc H
 have ac:=zc h
 clear hx hy H h
 obtain⟨d0,d1,d2,d3,d4,df⟩:=zk Y6.out
 go_wp2_with fail
 refine (zoz w4.heap.size j m K w6 O6.out SM.out TI.out).mono ?_
 rintro e w7 ⟨⟨t2,p2,r2,rfl,i2⟩,h⟩
 obtain rfl:r2=r1:=by
  have k:=(i2.trans ((zlE P1.out p2).symm)).trans I1.out.symm
  cases r1<;>cases r2<;>simp_all
 have O7:=zc (O6.out.later h)
 have Y7:=zc ((h.block _ (Array.getElem?_eq_some_iff.1 Y6.out).1).trans Y6.out)
 have X7:=zc ((h.block _ (Array.getElem?_eq_some_iff.1 X6.out).1).trans X6.out)
 have o:=zc (ac.out.trans (h.mono ac.out.size))
 clear h p2 i2 P1 I1 O6 Y6 d0 d1 d2 d3 d4 df
 obtain⟨Z,U,X,O,V,cf⟩:=zk X7.out
 obtain⟨d0,d1,d2,d3,d4,df⟩:=zk Y7.out
 have al:=(Array.getElem?_eq_some_iff.1 Y7.out).1
 have an:=(Array.getElem?_eq_some_iff.1 X7.out).1
 cases r2<;>(
  go_wp2_with fail
  go_region_with (first|(go_at_call 13;refine (zg5 A m _ (HI.out.later o.out.drew) n.out.1 n.out.2.1 n.out.2.2.1 n.out.2.2.2.1 n.out.2.2.2.2).mono ?_;rintro e w8 ⟨S3,rfl,af,ae⟩;have O8:=zc af;have q:=zc (((Below.refl w7.heap.size w7).drew).trans ae);have Y8:=zc ((q.out.block _ (Array.getElem?_eq_some_iff.1 Y7.out).1).trans Y7.out);clear af ae;obtain⟨q0,q1,q2,q3,q4,qf⟩:=zk Y8.out;have aj:=(Array.getElem?_eq_some_iff.1 Y8.out).1)|(go_at_call 8;refine (zqA w4.heap.size w7.heap.size j S3 m _ (O7.out.later q.out) O8.out SM.out.few).mono ?_;rintro e w9 ⟨rfl,ai⟩))
  all_goals (have ah:=zc ((o.out.trans (q.out.mono o.out.size)).trans (ai.mono (o.out.trans (q.out.mono o.out.size)).size));go_wp2;go_ret;exact⟨rfl,ah.out⟩))
theorem lifted (os:Os) (o:os.Started) (H:Type) (enc:TypeId×Value→H):
  ReturnsInHanded {} Tryz.checked os 4 .any (Rows.fnExactModOkSpec.pre6 enc Tryz.prog Tryz.f4 Rows.fnExactModOkRow.domain false) (Rows.fnExactModOkSpec.post enc Tryz.prog Tryz.f4 false true false false):=by
 refine returnsInHanded_of_change (C:=Tryz.checked) own o (by kernel_rfl) Tryz.func4
  (ChangeSpec.witness6 (enc:=enc) (C:=Tryz.checked) false ⟨#[],#[.agg #[.slice none 0 0,.slice none 0 0,.slice none 0 0,.slice none 0 0,.slice none 0 0],.bool false],[]⟩ 8 (by kernel_rfl) (by kernel_rfl) (by kernel_rfl) (by kernel_rfl)) ?_
 intro W J n ds gs K z hW Z _
 have w: ∀(j:Nat) t v,Tryz.f4.params[j]? =some t→n[j]? =some v→Value.okWide Tryz.prog W .any J t v:=z
 have O:=hW
 obtain⟨p,q,E,hV,rfl,ad,af⟩:=hW
 have X:DataW.TrodAll enc Tryz.prog W 0 (fun _=>true) true Tryz.f4.params.toList n.toList ds p:=E
 rw[Tryz.params4] at X w
 obtain⟨Y,ae,d0,ab,p0,q0,N,rfl,rfl,h0,r0⟩:=trodAll_cons X
 obtain⟨v1,ac,d1,ag,p1,q1,rfl,rfl,rfl,h1,r1⟩:=trodAll_cons r0
 obtain⟨rfl,rfl,rfl⟩:=trodAll_nil r1
 obtain rfl:n= #[Y,v1]:=by cases n;simp_all
 obtain⟨rfl,rfl⟩:=trodVars_none hV
 obtain⟨L,rfl,_⟩:=okWide_struct Tryz.underlying39 (w 0 39 Y rfl rfl)
 have V:=h0
 have U: ∀x∈p0,x.block<W.heap.size:=by obtain⟨m,hm⟩:=V;exact DataW.trod_lt m _ _ _ hm
 obtain⟨A0,m0,rfl,M,I,D⟩: ∃(A:MA) (m:Md),L=(zcZ A m).cells∧ModIn W A m∧zf3 m∧zbg m.ex:=by
  obtain⟨aa,hf⟩:=h0
  obtain⟨A,m,e,h⟩:=zqO hf
  exact⟨A,m,Array.toList_inj.1 e,h⟩
 obtain⟨a1,rfl,rfl,rfl⟩:=open_bool Tryz.underlying4 (w 1 4 v1 rfl rfl) h1
 clear E z
 refine (walk A0 m0 a1 W M I D).mono fun e W' ⟨he,bel⟩=>?_
 subst he
 exact⟨_,rfl,_,_,_,[],_,[],O,trodAll_mk1 (shut_bool Tryz.underlying4 _),(trodAll_cons_mk (Below.trod laidOut (by kernel_rfl) (of_decide_eq_true (by kernel_rfl)) V bel U) (trodAll_cons_mk (shut_bool Tryz.underlying4 _) trodAll_mk0)),rfl,bel.frame _,fun h=>by cases h⟩
theorem over:Rows.fnExactModOkRow.holds Tryz.pinned (OpenSpec.ofChange Rows.fnExactModOkSpec):=
 OpenClaim.holds_of_wide 4 Tryz.f4 rfl rfl rfl rfl rfl rfl rfl ⟨rfl,rfl,rfl,rfl,rfl⟩ rfl rfl rfl rfl rfl (by kernel_rfl) Tryz.func4 (by kernel_rfl)
  (of_decide_eq_true (by kernel_rfl)) (by unfold Func.isWrapper;first|(rw[if_pos (by decide+kernel)];kernel_rfl)|(rw[if_neg (by decide+kernel)];exact⟨rfl,rfl⟩))
  (fun n h H j _=>lifted n h H j)
end Go.Proofs.YticdggnnpjachaaGreat.fnExactModOk
namespace Go.Proofs.YticdggnnpjachaaGreat
theorem fnExactModOk_holds:Rows.FnExactModOkSaid:=fnExactModOk.over
end Go.Proofs.YticdggnnpjachaaGreat