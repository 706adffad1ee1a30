/-
 At every program,as a module or as a script,laws.FnExactModOk returns true: impl.ModOk answers as spec.ModOk does and writes into no argument; no condition.
-/
import Derived.Test.YtgchhhmfloemlaaGreatRows
import Derived.WalkKit
import Derived.WalkLawsBesides
import Derived.ProofKit
import Derived.OpenShut
import Derived.ShutString
import Derived.ChangeOld
import Derived.Below
import Derived.Test.YtgchhhmfloemlaaGreatClModOkImpl
import Derived.Test.YtgchhhmfloemlaaGreatClModOkSpec
import Derived.Test.YtgchhhmfloemlaaGreatClLawSzToLawToMod
import Derived.Test.YtgchhhmfloemlaaGreatClLawEqMd
import Derived.Test.YtgchhhmfloemlaaGreatClSizeMath
import Derived.Test.YtgchhhmfloemlaaGreatClSrcMod
namespace Go.Proofs.YtgchhhmfloemlaaGreat.fnExactModOk
open Go.ChangeShapes Go.WideShapes Go.ChangeAt Go.RowKit
open Go.ChangeMaps (open_string shut_string)

theorem own : ownKnob Tryz.prog.godebug = none:=by kernel_rfl
theorem laidOut : laidOutB Tryz.prog = true:=by kernel_rfl

set_option maxRecDepth 100000 in
set_option maxHeartbeats 6400000 in
theorem walk (A : MA) (m : Md) (scr : Bool) (w : World) (hin : ModIn w A m) (hbig : BigM m) (hn : Nums m.ex) :
  Calls Tryz.prog 3 #[modA A m,.bool scr] w fun e w' => e = .returned (.bool true) ∧ Below w.heap.size w w':=by
 have HI:=hidI hin
 have HG:=hidI hbig
 have HN:=hidI hn
 clear hin hbig hn
 unfold modA
 go_enter Tryz.func3,Tryz.ntmps3
 go_upto_region 1 with fail
 have HW : Hid (Below w.heap.size w (w.alloc (.cells #[.slice A.a0 m.rq.length A.c0,.slice A.a1 m.im.length A.c1,.slice A.a2 m.ep.length A.c2,.slice A.a3 m.st.length A.c3,.slice A.a4 m.ex.length A.c4] 28))):=(Below.refl _ _).alloc (Nat.le_refl _) _
 refine zv (R:=fun W => W.heap[w.heap.size]? = some (.cells #[.slice A.a0 m.rq.length A.c0,.slice A.a1 m.im.length A.c1,.slice A.a2 m.ep.length A.c2,.slice A.a3 m.st.length A.c3,.slice A.a4 m.ex.length A.c4] 28 (0,0)) ∧ Below w.heap.size w W) ⟨heap_alloc_new w _,HW.out⟩ ?_
 obtain ⟨gx,hgx⟩ : ∃ gx,gx = w.heap.size:=⟨_,rfl⟩
 rw [← hgx]
 rintro w1 ⟨hx,hb⟩
 rw [hgx] at hb
 clear hgx HW
 have X1:=hidI hx
 have HB1:=hidI hb
 clear hx hb
 obtain ⟨c0,c1,c2,c3,c4,cf⟩:=zi X1.out
 go_wp2_with fail
 refine (zbfl A m 1048576 w1 (HI.out.later HB1.out) HG.out (by omega) (by omega)).mono ?_
 rintro e w2 ⟨⟨z,rfl,hz1,hz2,hz3⟩,hb⟩
 have HZ:=hidI hz3
 have X2:=hidI ((hb.block _ (Array.getElem?_eq_some_iff.1 X1.out).1).trans X1.out)
 have HB2:=hidI (HB1.out.trans (hb.mono HB1.out.size))
 clear hb hz3 c0 c1 c2 c3 c4 cf
 obtain ⟨c0,c1,c2,c3,c4,cf⟩:=zi X2.out
 by_cases hz : 0 ≤ z
 case neg =>
  go_wp2
  go_ret
  exact ⟨rfl,HB2.out⟩
 have hc : zkd m ≤ 1048576:=by have:=HZ.out hz; omega
 have SM:=hidI (zbis hc HN.out)
 have TS : Hid (Tree m → (zhl m).size ≤ 4294967296):=fun t => by have:=(zrr t HN.out).1; omega
 have TI : Hid (Tree m → (zgh m).size ≤ 4294967296):=fun t => by have:=(zrr t HN.out).2; omega
 have FW : Hid (m.rq.length ≤ 1048576 ∧ m.im.length ≤ 1048576 ∧ m.ep.length ≤ 1048576 ∧ m.st.length ≤ 1048576 ∧ m.ex.length ≤ 1048576):=by
  have e : zkd m = (m.rq.length + zx zfn m.rq) + (m.im.length + zx zft m.im) + (m.ep.length + zx zfu m.ep) + (m.st.length + zx zgp m.st) + (m.ex.length + zx zhf m.ex):=rfl
  exact ⟨by omega,by omega,by omega,by omega,by omega⟩
 clear hc HZ
 go_wp2_with fail
 refine (zok A m w2 (HI.out.later HB2.out) FW.out.1 FW.out.2.1 FW.out.2.2.1 FW.out.2.2.2.1 FW.out.2.2.2.2).mono ?_
 rintro e w3 ⟨S1,rfl,ho,hb⟩
 have O1:=hidI ho
 have X3:=hidI ((hb.block _ (Array.getElem?_eq_some_iff.1 X2.out).1).trans X2.out)
 have HB3:=hidI (HB2.out.trans (hb.mono HB2.out.size))
 clear ho hb c0 c1 c2 c3 c4 cf
 go_wp2_with fail
 refine (zbch w2.heap.size S1 m scr w3 O1.out SM.out TS.out).mono ?_
 rintro e w4 ⟨⟨t1,p1,r1,rfl,i1⟩,hb⟩
 have P1:=hidI p1
 have I1:=hidI i1
 have X4:=hidI ((hb.block _ (Array.getElem?_eq_some_iff.1 X3.out).1).trans X3.out)
 have HB4:=hidI (HB3.out.trans (hb.mono HB3.out.size))
 clear hb p1 i1 O1
 obtain ⟨c0,c1,c2,c3,c4,cf⟩:=zi X4.out
 go_wp2_with fail
 refine (zok A m w4 (HI.out.later HB4.out) FW.out.1 FW.out.2.1 FW.out.2.2.1 FW.out.2.2.2.1 FW.out.2.2.2.2).mono ?_
 rintro e w5 ⟨S2,rfl,ho,hb⟩
 have O5:=hidI ho
 have X5:=hidI ((hb.block _ (Array.getElem?_eq_some_iff.1 X4.out).1).trans X4.out)
 have HB5:=hidI (HB4.out.trans (hb.mono HB4.out.size))
 clear ho hb c0 c1 c2 c3 c4 cf
 unfold modD
 go_upto_region 7 with fail
 have HW : Hid (Below w5.heap.size w5 (w5.alloc (.cells #[.slice S2.rq.a m.rq.length S2.rq.cap,.slice S2.im.a m.im.length S2.im.cap,.slice S2.ep.a m.ep.length S2.ep.cap,.slice S2.st.a m.st.length S2.st.cap,.slice S2.ex.a m.ex.length S2.ex.cap] 36))):=(Below.refl _ _).alloc (Nat.le_refl _) _
 refine zv (R:=fun W => W.heap[gx]? = some (.cells #[.slice A.a0 m.rq.length A.c0,.slice A.a1 m.im.length A.c1,.slice A.a2 m.ep.length A.c2,.slice A.a3 m.st.length A.c3,.slice A.a4 m.ex.length A.c4] 28 (0,0)) ∧ W.heap[w5.heap.size]? = some (.cells #[.slice S2.rq.a m.rq.length S2.rq.cap,.slice S2.im.a m.im.length S2.im.cap,.slice S2.ep.a m.ep.length S2.ep.cap,.slice S2.st.a m.st.length S2.st.cap,.slice S2.ex.a m.ex.length S2.ex.cap] 36 (0,0)) ∧ OwnMd W w4.heap.size S2 m ∧ Below w.heap.size w W) ⟨(HW.out.block _ (Array.getElem?_eq_some_iff.1 X5.out).1).trans X5.out,heap_alloc_new w5 _,O5.out.later HW.out,HB5.out.trans (HW.out.mono HB5.out.size)⟩ ?_
 obtain ⟨gy,hgy⟩ : ∃ gy,gy = w5.heap.size:=⟨_,rfl⟩
 rw [← hgy]
 rintro w6 ⟨hx,hy,ho,hb⟩
 clear hgy HW X5 O5 HB5
 have X6:=hidI hx
 have Y6:=hidI hy
 have O6:=hidI ho
 have HB6:=hidI hb
 clear hx hy ho hb
 obtain ⟨d0,d1,d2,d3,d4,df⟩:=zi Y6.out
 go_wp2_with fail
 refine (zbbw w4.heap.size S2 m scr w6 O6.out SM.out TI.out).mono ?_
 rintro e w7 ⟨⟨t2,p2,r2,rfl,i2⟩,hb⟩
 obtain rfl : r2 = r1:=by
  have k:=(i2.trans ((zbkd P1.out p2).symm)).trans I1.out.symm
  cases r1 <;> cases r2 <;> simp_all
 have O7:=hidI (O6.out.later hb)
 have Y7:=hidI ((hb.block _ (Array.getElem?_eq_some_iff.1 Y6.out).1).trans Y6.out)
 have X7:=hidI ((hb.block _ (Array.getElem?_eq_some_iff.1 X6.out).1).trans X6.out)
 have HB7:=hidI (HB6.out.trans (hb.mono HB6.out.size))
 clear hb p2 i2 P1 I1 O6 Y6 d0 d1 d2 d3 d4 df
 obtain ⟨c0,c1,c2,c3,c4,cf⟩:=zi X7.out
 obtain ⟨d0,d1,d2,d3,d4,df⟩:=zi Y7.out
 have hyl:=(Array.getElem?_eq_some_iff.1 Y7.out).1
 have hxl:=(Array.getElem?_eq_some_iff.1 X7.out).1
 cases r2 <;> (
  go_wp2_with fail
  go_region_with (first | (go_at_call 8; refine (zok A m _ (HI.out.later HB7.out.drew) FW.out.1 FW.out.2.1 FW.out.2.2.1 FW.out.2.2.2.1 FW.out.2.2.2.2).mono ?_; rintro e w8 ⟨S3,rfl,ho8,hb8⟩; have O8:=hidI ho8; have HB8:=hidI (((Below.refl w7.heap.size w7).drew).trans hb8); have Y8:=hidI ((HB8.out.block _ (Array.getElem?_eq_some_iff.1 Y7.out).1).trans Y7.out); clear ho8 hb8; obtain ⟨q0,q1,q2,q3,q4,qf⟩:=zi Y8.out; have hyl8:=(Array.getElem?_eq_some_iff.1 Y8.out).1) | (go_at_call 10; refine (zbin w4.heap.size w7.heap.size S2 S3 m _ (O7.out.later HB8.out) O8.out SM.out.few).mono ?_; rintro e w9 ⟨rfl,hb9⟩))
  all_goals (have HB9:=hidI ((HB7.out.trans (HB8.out.mono HB7.out.size)).trans (hb9.mono (HB7.out.trans (HB8.out.mono HB7.out.size)).size)); go_wp2; go_ret; exact ⟨rfl,HB9.out⟩))

set_option linter.unusedVariables false in
set_option maxRecDepth 100000 in
theorem lifted (os : Os) (started : os.Started) (H : Type) (enc : TypeId × Value → H) :
  ReturnsInHanded {} Tryz.checked os 3 .any (Rows.fnExactModOkSpec.pre6 enc Tryz.prog Tryz.f3 Rows.fnExactModOkRow.domain false) (Rows.fnExactModOkSpec.post enc Tryz.prog Tryz.f3 false true false false):=by
 refine returnsInHanded_of_change (C:=Tryz.checked) own started (by kernel_rfl) Tryz.func3
  (ChangeSpec.witness6 (enc:=enc) (C:=Tryz.checked) false ⟨#[],#[.agg #[.slice none 0 0,.slice none 0 0,.slice none 0 0,.slice none 0 0,.slice none 0 0],.bool false],[]⟩ 8 (by kernel_rfl) (by kernel_rfl) (by kernel_rfl) (by kernel_rfl)) ?_
 intro W base args ds gs before hval0 hW hcnd _
 have hval : ∀ (j : Nat) t v,Tryz.f3.params[j]? = some t → args[j]? = some v → Value.okWide Tryz.prog W .any base t v:=hval0
 have hW':=hW
 obtain ⟨p,q,hA0,hV,rfl,hfz,hnd⟩:=hW
 have hA : DataW.TrodAll enc Tryz.prog W 0 (fun _ => true) true Tryz.f3.params.toList args.toList ds p:=hA0
 rw [Tryz.params3] at hA hval
 obtain ⟨v0,vs0,d0,ds0,p0,q0,hargs,rfl,rfl,h0,r0⟩:=trodAll_cons hA
 obtain ⟨v1,vs1,d1,ds1,p1,q1,rfl,rfl,rfl,h1,r1⟩:=trodAll_cons r0
 obtain ⟨rfl,rfl,rfl⟩:=trodAll_nil r1
 obtain rfl : args = #[v0,v1]:=by cases args; simp_all
 obtain ⟨rfl,rfl⟩:=trodVars_none hV
 obtain ⟨cs0,rfl,_⟩:=okWide_struct Tryz.underlying28 (hval 0 28 v0 rfl rfl)
 have k0:=h0
 have lt0 : ∀ x ∈ p0,x.block < W.heap.size:=by obtain ⟨m,hm⟩:=k0; exact DataW.trod_lt m _ _ _ hm
 obtain ⟨A0,m0,rfl,in0,big0,nums0⟩ : ∃ (A : MA) (m : Md),cs0 = (modA A m).cells ∧ ModIn W A m ∧ BigM m ∧ Nums m.ex:=by
  obtain ⟨fuel,hf⟩:=h0
  obtain ⟨A,m,e,h⟩:=zbit hf
  exact ⟨A,m,Array.toList_inj.1 e,h⟩
 obtain ⟨a1,rfl,rfl,rfl⟩:=open_bool Tryz.underlying4 (hval 1 4 v1 rfl rfl) h1
 clear hA0 hval0
 refine (walk A0 m0 a1 W in0 big0 nums0).mono fun e W' ⟨he,bel⟩ => ?_
 subst he
 exact ⟨_,rfl,_,_,_,[],_,[],hW',trodAll_mk1 (shut_bool Tryz.underlying4 _),(trodAll_cons_mk (Below.trod laidOut (by kernel_rfl) (of_decide_eq_true (by kernel_rfl)) k0 bel lt0) (trodAll_cons_mk (shut_bool Tryz.underlying4 _) trodAll_mk0)),rfl,bel.frame _,fun h => by cases h⟩

theorem over : Rows.fnExactModOkRow.holds Tryz.pinned (OpenSpec.ofChange Rows.fnExactModOkSpec) :=
 OpenClaim.holds_of_wide 3 Tryz.f3 rfl rfl rfl rfl rfl rfl rfl ⟨rfl,rfl,rfl,rfl,rfl⟩ rfl rfl rfl rfl rfl (by kernel_rfl) Tryz.func3 (by kernel_rfl)
  (of_decide_eq_true (by kernel_rfl)) (by unfold Func.isWrapper; first | (rw [if_pos (by decide +kernel)]; kernel_rfl) | (rw [if_neg (by decide +kernel)]; exact ⟨rfl,rfl⟩))
  (fun os started H enc _ => lifted os started H enc)
end Go.Proofs.YtgchhhmfloemlaaGreat.fnExactModOk
namespace Go.Proofs.YtgchhhmfloemlaaGreat
theorem fnExactModOk_holds : Rows.FnExactModOkSaid:=fnExactModOk.over
end Go.Proofs.YtgchhhmfloemlaaGreat
