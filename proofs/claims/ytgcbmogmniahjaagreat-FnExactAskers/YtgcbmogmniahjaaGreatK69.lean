/-
 At every graph and number laws.FnExactAskers returns true: impl.Askers answers as spec.Askers does,writes into no argument and keeps nothing of one,and its answer owns its memory; no condition.
-/
import Derived.ShutString
import Derived.ChangeOld
import Derived.Test.YtgcbmogmniahjaaGreatK0
import Derived.Test.YtgcbmogmniahjaaGreatK67
namespace Go.Proofs.YtgcbmogmniahjaaGreat.fnExactAskers
set_option maxRecDepth 100000
set_option maxHeartbeats 6400000
set_option linter.unusedVariables false
open Go.ChangeShapes Go.WideShapes Go.ChangeAt Go.RowKit
open Go.ChangeMaps (open_string shut_string)
theorem own:ownKnob Tryz.prog.godebug=none:=by kernel_rfl
theorem laidOut:laidOutB Tryz.prog=true:=by kernel_rfl
theorem walk (A:GA) (g:Gr) (mm:Int) (w:World) (ap:GrIn w A g) (ab:BigG A g) (hn: ∀x∈A.ms,zaY x.2.ex) (_:(Lit.int .i64 mm).wf=true):
  Calls Tryz.prog 6 #[grA A g,.int .i64 mm] w fun e w'=>e= .returned (.bool true)∧Below w.heap.size w w':=by
 have HI:=zc ap
 have HG:=zc ab
 have HN:=zc hn
 clear ap ab hn
 unfold grA
 go_enter Tryz.func6,Tryz.ntmps6
 go_upto_region 1 with fail
 obtain⟨gx,ac⟩: ∃gx,gx=w.heap.size:=⟨_,rfl⟩
 rw[←ac]
 refine zu (R:=fun W=>Bk W gx (lgC A g) 26∧Below w.heap.size w W) ⟨by rw[ac];exact heap_alloc_new w _,zak w _⟩ ?_
 clear ac
 rintro w1 ⟨hx,h⟩
 have X1:=zc hx
 have ad:=zc h
 clear hx h
 obtain⟨Y,O,L,U⟩:=zn X1.out
 go_wp2_with fail
 refine (zrd A g 1048576 w1 (HI.out.later ad.out) HG.out (by omega) (by omega)).mono ?_
 rintro e w2 ⟨⟨z,rfl,ax,aw,ai⟩,h⟩
 have HZ:=zc ai
 have X2:=zc (X1.out.later h)
 have V:=zc (zZ ad.out h)
 clear h ai Y O L U X1 ad
 obtain⟨Y,O,L,U⟩:=zn X2.out
 by_cases hz:0≤z
 case neg=>
  go_wp2
  go_ret
  exact⟨rfl,V.out⟩
 have hc:ze5 A g≤1048576:=by have:=HZ.out hz;omega
 obtain⟨H,ah,aj,M⟩:=zxc HI.out.same hc HN.out
 have aq:=zc (zxQ HI.out.same hc)
 have GD:=zc H
 have FW:=zc ah
 have MF:=zc aj
 have X:=H.pl
 have Z:=H.ll
 have am:=H.ml
 clear hc HZ H ah aj
 go_wp2_with fail
 refine (zgL A g w2 (HI.out.later V.out) MF.out X M Z).mono ?_
 rintro e w3 ⟨G1,rfl,I,h⟩
 have O1:=zc I
 have X3:=zc (X2.out.later h)
 have au:=zc (zZ V.out h)
 clear I h Y O L U X2
 go_wp2_with fail
 refine (zxl zwV w2.heap.size G1 g mm w3 O1.out GD.out).mono ?_
 rintro e q ⟨a4,n4,K,l,rfl,o4,h,i4,j4⟩
 have R4:=zc o4
 have I4:=zc (And.intro i4 j4)
 have ag:n4=l.length:=o4.1
 have hl:n4≤1048576:=by
  rw[ag]
  by_cases E:InG g mm
  ·rw[i4 E];exact Nat.le_trans (zjj _ _) am
  ·rw[j4 E];exact Nat.zero_le _
 have X4:=zc (X3.out.later h)
 have D:=zc (zZ au.out h)
 have NL:=zc ag
 clear h o4 i4 j4 O1 X3 V ag
 obtain⟨Y,O,L,U⟩:=zn X4.out
 go_wp2_with fail
 refine (zgL A g q (HI.out.later D.out) MF.out X M Z).mono ?_
 rintro e w5 ⟨G2,rfl,I,h⟩
 have O5:=zc I
 have X5:=zc (X4.out.later h)
 have R5:=zc (R4.out.later h)
 have av:=zc (zZ D.out h)
 have S5:Hid (q.heap.size≤w5.heap.size):=zc h.size
 have ar:Hid (Below q.heap.size q w5):=zc h
 clear I h Y O L U
 unfold grD
 go_upto_region 7 with fail
 obtain⟨gy,ae⟩: ∃gy,gy=w5.heap.size:=⟨_,rfl⟩
 rw[←ae]
 refine zu (R:=fun W=>Bk W gx (lgC A g) 26∧Bk W gy (grC G2 g) 32∧GrOwn W q.heap.size G2 g∧Below q.heap.size q W) ⟨X5.out.later (zak w5 _),by rw[ae];exact heap_alloc_new w5 _,O5.out.later (zak w5 _),ar.out.trans ((zak w5 _).mono S5.out)⟩ ?_
 clear ae X5 O5 av R5
 rintro J ⟨hx,hy,I,h⟩
 have X6:=zc hx
 have Y6:=zc hy
 have O6:=zc I
 have C6:=zc h
 clear hx hy I h
 obtain⟨d0,d1,d2,df⟩:=zn Y6.out
 go_wp2_with fail
 refine (znu znr q.heap.size G2 g mm J O6.out GD.out).mono ?_
 rintro e w7 ⟨a7,n7,aa,l7,rfl,o7,h,i7,j7⟩
 obtain rfl:l7=l:=by
  by_cases E:InG g mm
  ·rw[i7 E,I4.out.1 E]
  ·rw[j7 E,I4.out.2 E]
 obtain rfl:n7=n4:=by rw[o7.1,NL.out]
 have G7:=zc o7
 have S7:Hid (q.heap.size≤J.heap.size∧J.heap.size≤w7.heap.size):=zc ⟨C6.out.size,h.size⟩
 have O7:=zc (O6.out.later h)
 have Y7:=zc (Y6.out.later h)
 have X7:=zc (X6.out.later h)
 have C7:=zc (C6.out.trans (h.mono C6.out.size))
 clear h o7 i7 j7 O6 Y6 X6 d0 d1 d2 df
 go_wp2_with fail
 refine (zjp a7 a4 n7 aa K l7 _ G7.out.row (R4.out.later C7.out).row NL.out hl).mono ?_
 rintro e w8 ⟨rfl,h⟩
 have G8:=zc (G7.out.later h)
 have S8:Hid (q.heap.size≤J.heap.size∧J.heap.size≤w8.heap.size):=zc ⟨S7.out.1,Nat.le_trans S7.out.2 h.size⟩
 have O8:=zc (O7.out.later h)
 have Y8:=zc (Y7.out.later h)
 have X8:=zc (X7.out.later h)
 have C8:=zc (C7.out.trans (h.mono C7.out.size))
 clear h G7 S7 O7 Y7 X7 C7
 obtain⟨Y,O,L,U⟩:=zn X8.out
 obtain⟨d0,d1,d2,df⟩:=zn Y8.out
 have BW:Hid (Below w.heap.size w q):=zc D.out
 go_wp2_with fail
 go_region_with (first|(go_at_call 9;refine (zgL A g _ (HI.out.later (zZ D.out C8.out).drew) MF.out X M Z).mono ?_;rintro e w9 ⟨G3,rfl,an,ak⟩;have O9:=zc an;have N:Hid (Below w8.heap.size w8 w9):=(((Below.refl _ _).drew).trans ak);have Y9:=zc (Y8.out.later N.out);clear an ak;obtain⟨q0,q1,q2,qf⟩:=zn Y9.out)|(go_at_call 11;refine (zxb q.heap.size w8.heap.size G2 G3 g _ (O8.out.later N.out) O9.out FW.out).mono ?_;rintro e wa ⟨rfl,ao⟩))
 all_goals (
  have Ba:Hid (Below w8.heap.size w8 wa):=zc (zZ N.out ao)
  have Ga:=zc (G8.out.later Ba.out)
  have Oa:=zc (O8.out.later Ba.out)
  have Ya:=zc (Y8.out.later Ba.out)
  have Ca:=zc (C8.out.trans (Ba.out.mono C8.out.size))
  have Sa:Hid (J.heap.size≤wa.heap.size):=zc (Nat.le_trans S8.out.2 Ba.out.size)
  clear ao G8 O8 Y8 X8 Y O L U d0 d1 d2 df N O9 Y9 q0 q1 q2 qf
  obtain⟨d0,d1,d2,df⟩:=zn Ya.out
  go_wp2_with fail
  refine (zxH q.heap.size G2 g _ Oa.out Ca.out.size aq.out am).mono ?_
  rintro e wb ⟨⟨k,rfl⟩,hm⟩
  have Gb:=zc (Ga.out.marked hm)
  have Cb:=zc (Ca.out.trans hm.bel)
  have Sb:Hid (J.heap.size≤wb.heap.size):=zc (Nat.le_trans Sa.out hm.bel.size)
  have qk:decide ((k:Int)<0)=false:=decide_eq_false (by omega)
  clear hm Ga Oa Ya Ca d0 d1 d2 df
  go_wp2_with fail
  refine (zjp a7 a4 n7 aa K l7 _ Gb.out.row (R4.out.later Cb.out).row NL.out hl).mono ?_
  rintro e wc ⟨rfl,h⟩
  have Gc:=zc (Gb.out.later h)
  have Cc:=zc (Cb.out.trans (h.mono Cb.out.size))
  have Sc:Hid (J.heap.size≤wc.heap.size):=zc (Nat.le_trans Sb.out h.size)
  clear h Gb Cb
  go_wp2_with fail
  refine (zxO _ J.heap.size _ _ _ _ Gc.out Sc.out hl).mono ?_
  rintro e wd ⟨rfl,mb,bb⟩
  have Md:=zc mb
  have Cd:=zc (Cc.out.trans (bb.mono S8.out.1))
  clear mb bb Gc Cc qk
  have qd:decide (((1+n7:Nat):Int)<0)=false:=decide_eq_false (by omega)
  go_wp2_with fail
  refine (zn4 _ J.heap.size _ _ _ Md.out hl).mono ?_
  rintro e _ ⟨rfl,rfl⟩
  obtain⟨Y,O,L,U⟩:=zn (X4.out.later Cd.out)
  go_wp2_with fail
  refine (zgL A g _ (HI.out.later (zZ D.out Cd.out)) MF.out X M Z).mono ?_
  rintro e we ⟨G4,rfl,I,h⟩
  have Oe:=zc I
  have Me:=zc (Md.out.later h)
  have Ce:=zc (Cd.out.trans (h.mono Cd.out.size))
  clear I h Md Cd Y O L U
  go_wp2_with fail
  refine (znu znr _ G4 g mm _ Oe.out GD.out).mono ?_
  rintro e wf ⟨af,nf,al,lf,rfl,of,h,hi,hj⟩
  obtain rfl:lf=l7:=by
   by_cases E:InG g mm
   ·rw[hi E,I4.out.1 E]
   ·rw[hj E,I4.out.2 E]
  obtain rfl:nf=n7:=by rw[of.1,NL.out]
  have Rf:=zc of
  have Mf:=zc (Me.out.later h)
  have Cf:=zc (Ce.out.trans (h.mono Ce.out.size))
  clear of h hi hj Oe Me Ce
  go_wp2_with fail
  refine (zjp af a4 nf al K lf _ Rf.out.row (R4.out.later Cf.out).row NL.out hl).mono ?_
  rintro e wg ⟨rfl,h⟩
  have Mg:=zc (Mf.out.later h)
  have Cg:=zc (Cf.out.trans (h.mono Cf.out.size))
  clear h Rf Mf Cf
  go_wp2_with fail
  refine (zn4 _ J.heap.size _ _ _ Mg.out hl).mono ?_
  rintro e _ ⟨rfl,rfl⟩
  go_wp2
  go_ret
  exact⟨rfl,zZ D.out Cg.out⟩)
theorem lifted (os:Os) (z:os.Started) (H:Type) (enc:TypeId×Value→H):
  ReturnsInHanded {} Tryz.checked os 6 .any (Rows.fnExactAskersSpec.pre6 enc Tryz.prog Tryz.f6 Rows.fnExactAskersRow.domain false) (Rows.fnExactAskersSpec.post enc Tryz.prog Tryz.f6 false true false false):=by
 refine returnsInHanded_of_change (C:=Tryz.checked) own z (by kernel_rfl) Tryz.func6
  (ChangeSpec.witness6 (enc:=enc) (C:=Tryz.checked) false ⟨#[],#[.agg #[.slice none 0 0,.slice none 0 0,.slice none 0 0],.int .i64 0],[]⟩ 8 (by kernel_rfl) (by kernel_rfl) (by kernel_rfl) (by kernel_rfl)) ?_
 intro W J w ds gs M E hW aa _
 have D: ∀(j:Nat) t v,Tryz.f6.params[j]? =some t→w[j]? =some v→Value.okWide Tryz.prog W .any J t v:=E
 have X:=hW
 obtain⟨p,q,K,hV,rfl,ah,af⟩:=hW
 have hA:DataW.TrodAll enc Tryz.prog W 0 (fun _=>true) true Tryz.f6.params.toList w.toList ds p:=K
 rw[Tryz.params6] at hA D
 obtain⟨v0,ag,d0,ad,p0,q0,U,rfl,rfl,Z,r0⟩:=trodAll_cons hA
 obtain⟨v1,ac,d1,ae,p1,q1,rfl,rfl,rfl,h1,r1⟩:=trodAll_cons r0
 obtain⟨rfl,rfl,rfl⟩:=trodAll_nil r1
 obtain rfl:w= #[v0,v1]:=by cases w;simp_all
 obtain⟨rfl,rfl⟩:=trodVars_none hV
 obtain⟨V,rfl,_⟩:=okWide_struct Tryz.underlying26 (D 0 26 v0 rfl rfl)
 have k0:=Z
 have N: ∀x∈p0,x.block<W.heap.size:=by obtain⟨m,hm⟩:=k0;exact DataW.trod_lt m _ _ _ hm
 obtain⟨A0,m0,rfl,O,L,I⟩: ∃(A:GA) (m:Gr),V=(grA A m).cells∧GrIn W A m∧BigG A m∧∀x∈A.ms,zaY x.2.ex:=by
  obtain⟨ab,hf⟩:=Z
  obtain⟨A,m,e,h⟩:=zxR hf
  exact⟨A,m,Array.toList_inj.1 e,h⟩
 obtain⟨a1,rfl,rfl,rfl,Y⟩:=open_int Tryz.underlying3 (D 1 3 v1 rfl rfl) h1
 clear K E
 refine (walk A0 m0 a1 W O L I Y).mono fun e W' ⟨he,bel⟩=>?_
 subst he
 exact⟨_,rfl,_,_,_,[],_,[],X,trodAll_mk1 (shut_bool Tryz.underlying4 _),(trodAll_cons_mk (Below.trod laidOut (by kernel_rfl) (of_decide_eq_true (by kernel_rfl)) k0 bel N) (trodAll_cons_mk (shut_int Tryz.underlying3 Y) trodAll_mk0)),rfl,bel.frame _,fun h=>by cases h⟩
theorem over:Rows.fnExactAskersRow.holds Tryz.pinned (OpenSpec.ofChange Rows.fnExactAskersSpec):=
 OpenClaim.holds_of_wide 6 Tryz.f6 rfl rfl rfl rfl rfl rfl rfl ⟨rfl,rfl,rfl,rfl,rfl⟩ rfl rfl rfl rfl rfl (by kernel_rfl) Tryz.func6 zn5
  (of_decide_eq_true (by kernel_rfl)) (by unfold Func.isWrapper;first|(rw[if_pos (by decide+kernel)];kernel_rfl)|(rw[if_neg (by decide+kernel)];exact⟨rfl,rfl⟩))
  (fun w h H q _=>lifted w h H q)
end Go.Proofs.YtgcbmogmniahjaaGreat.fnExactAskers
namespace Go.Proofs.YtgcbmogmniahjaaGreat
theorem fnExactAskers_holds:Rows.FnExactAskersSaid:=fnExactAskers.over
end Go.Proofs.YtgcbmogmniahjaaGreat
