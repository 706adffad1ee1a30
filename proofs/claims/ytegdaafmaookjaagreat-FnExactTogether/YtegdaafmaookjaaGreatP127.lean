/-
 At every graph laws.FnExactTogether returns true: impl.Together answers as spec.Together does,writes into no argument and keeps nothing of one,and its answer owns its memory; no condition.
-/
import Derived.ShutString
import Derived.ChangeOld
import Derived.Test.YtegdaafmaookjaaGreatP122
import Derived.Test.YtegdaafmaookjaaGreatP123
namespace Go.Proofs.YtegdaafmaookjaaGreat.fnExactTogether
set_option maxRecDepth 100000
set_option maxHeartbeats 6400000
set_option linter.unusedVariables false
open Go.ChangeShapes Go.WideShapes Go.ChangeAt Go.RowKit
open Go.ChangeMaps (open_string shut_string)
theorem own:ownKnob Tryz.prog.godebug=none:=by kernel_rfl
theorem laidOut:laidOutB Tryz.prog=true:=by kernel_rfl
theorem walk (A:GA) (g:Gr) (w:World) (aq:GrIn w A g) (ad:BigG A g) (hn: ∀x∈A.ms,zay x.2.ex):
  Calls Tryz.prog 9 #[grA A g] w fun e w'=>e= .returned (.bool true)∧Below w.heap.size w w':=by
 have HI:=zc aq;have HG:=zc ad;have HN:=zc hn;clear aq ad hn;unfold grA;go_enter Tryz.func9,Tryz.ntmps9;go_upto_region 1 with fail;obtain⟨gx,ae⟩: ∃gx,gx=w.heap.size:=⟨_,rfl⟩;rw[←ae];refine zp (R:=fun W=>Bk W gx (lgC A g) 26∧Below w.heap.size w W) ⟨by rw[ae];exact heap_alloc_new w _,zn w _⟩ ?_;clear ae;rintro w1 ⟨hx,h⟩;have X1:=zc hx;have ag:=zc h;clear hx h;obtain⟨c0,c1,U,cf⟩:=zg X1.o;go_wp2_with fail;refine (zeT A g 1048576 w1 (HI.o.later ag.o) HG.o (by omega) (by omega)).mono ?_;rintro e w2 ⟨⟨z,rfl,aB,az,aj⟩,h⟩;have HZ:=zc aj;have X2:=zc (X1.o.later h);have aa:=zc (zi ag.o h);clear h aj c0 c1 U cf X1 ag;obtain⟨c0,c1,U,cf⟩:=zg X2.o;by_cases hz:0≤z
 case neg=>
  go_wp2;go_ret;exact⟨rfl,aa.o⟩
 have hc:zcx A g≤1048576:=by have:=HZ.o hz;omega
 obtain⟨K,ai,ak,X⟩:=ze4 HI.o.same hc HN.o;have au:=zc (zgF HI.o.same hc);have GD:=zc K;have FW:=zc ai;have MF:=zc ak;have ab:=K.pl;have ac:=K.ll;have aw:=K.ml;clear hc HZ K ai ak;go_wp2_with fail;refine (zaY A g w2 (HI.o.later aa.o) MF.o ab X ac).mono ?_;rintro e w3 ⟨G1,rfl,L,h⟩;have O1:=zc L;have X3:=zc (X2.o.later h);have ax:=zc (zi aa.o h);clear L h c0 c1 U cf X2;go_wp2_with fail;refine (zzQ zfN w2.heap.size G1 g w3 O1.o GD.o).mono ?_;rintro e I ⟨a4,n4,O,l,v4,rfl,o4,h,i4,j4⟩;have R4:=zc o4;have I4:=zc (And.intro i4 j4);have ar:n4=l.length:=by have:=o4.o.1;have:=o4.vl;omega
 obtain⟨an,M⟩:=zzU i4 j4;have hl:n4≤1048576:=by omega
 have aA:=zzT an M;have H: ∀x∈l,x.length≤1048576:=fun x hx=>by have:=M x hx;omega
 have X4:=zc (X3.o.later h);have J:=zc (zi ax.o h);have NL:=zc ar;clear h o4 i4 j4 an M O1 X3 aa ar;obtain⟨c0,c1,U,cf⟩:=zg X4.o;go_wp2_with fail;refine (zaY A g I (HI.o.later J.o) MF.o ab X ac).mono ?_;rintro e w5 ⟨G2,rfl,L,h⟩;have O5:=zc L;have X5:=zc (X4.o.later h);have R5:=zc (R4.o.later h);have ay:=zc (zi J.o h);have S5:Hid (I.heap.size≤w5.heap.size):=zc h.size;have av:Hid (Below I.heap.size I w5):=zc h;clear L h c0 c1 U cf;unfold grD;go_upto_region 7 with fail;obtain⟨gy,ah⟩: ∃gy,gy=w5.heap.size:=⟨_,rfl⟩;rw[←ah];refine zp (R:=fun W=>Bk W gx (lgC A g) 26∧Bk W gy (grC G2 g) 32∧GrOwn W I.heap.size G2 g∧Below I.heap.size I W) ⟨X5.o.later (zn w5 _),by rw[ah];exact heap_alloc_new w5 _,O5.o.later (zn w5 _),av.o.trans ((zn w5 _).mono S5.o)⟩ ?_;clear ah X5 O5 ay R5;rintro N ⟨hx,hy,L,h⟩;have X6:=zc hx;have Y6:=zc hy;have O6:=zc L;have C6:=zc h;clear hx hy L h;obtain⟨d0,d1,d2,df⟩:=zg Y6.o;go_wp2_with fail;refine (zpq zdv I.heap.size G2 g N O6.o GD.o).mono ?_;rintro e w7 ⟨a7,n7,q,V,v7,rfl,o7,h,i7,j7⟩;obtain rfl:V=l:=by
  by_cases Y:GrS g
  ·rw[i7 Y,I4.o.1 Y]
  ·rw[j7 Y,I4.o.2 Y]
 obtain rfl:n7=n4:=by have:=o7.o.1;have:=o7.vl;have:=NL.o;omega
 have G7:=zc o7;have VL:Hid (v7.length=V.length):=zc o7.vl;have S7:Hid (I.heap.size≤N.heap.size∧N.heap.size≤w7.heap.size):=zc ⟨C6.o.size,h.size⟩;have O7:=zc (O6.o.later h);have Y7:=zc (Y6.o.later h);have X7:=zc (X6.o.later h);have C7:=zc (C6.o.trans (h.mono C6.o.size));clear h o7 i7 j7 O6 Y6 X6 d0 d1 d2 df;go_wp2_with fail;refine (zke _ _ a7 a4 n7 q O V v7 v4 _ G7.o (R4.o.later C7.o) hl H).mono ?_;rintro e w8 ⟨rfl,h⟩;have G8:=zc (G7.o.later h);have S8:Hid (I.heap.size≤N.heap.size∧N.heap.size≤w8.heap.size):=zc ⟨S7.o.1,Nat.le_trans S7.o.2 h.size⟩;have O8:=zc (O7.o.later h);have Y8:=zc (Y7.o.later h);have X8:=zc (X7.o.later h);have C8:=zc (C7.o.trans (h.mono C7.o.size));clear h G7 S7 O7 Y7 X7 C7;obtain⟨c0,c1,U,cf⟩:=zg X8.o;obtain⟨d0,d1,d2,df⟩:=zg Y8.o;have BW:Hid (Below w.heap.size w I):=zc J.o;go_wp2_with fail;go_region_with (first|(go_at_call 12;refine (zaY A g _ (HI.o.later (zi J.o C8.o).drew) MF.o ab X ac).mono ?_;rintro e w9 ⟨G3,rfl,ao,al⟩;have O9:=zc ao;have Z:Hid (Below w8.heap.size w8 w9):=(((Below.refl _ _).drew).trans al);have Y9:=zc (Y8.o.later Z.o);clear ao al;obtain⟨q0,q1,q2,qf⟩:=zg Y9.o)|(go_at_call 14;refine (zfe I.heap.size w8.heap.size G2 G3 g _ (O8.o.later Z.o) O9.o FW.o).mono ?_;rintro e wa ⟨rfl,ap⟩))
 all_goals (
  have Ba:Hid (Below w8.heap.size w8 wa):=zc (zi Z.o ap);have Ga:=zc (G8.o.later Ba.o);have Oa:=zc (O8.o.later Ba.o);have Ya:=zc (Y8.o.later Ba.o);have Ca:=zc (C8.o.trans (Ba.o.mono C8.o.size));have Sa:Hid (N.heap.size≤wa.heap.size):=zc (Nat.le_trans S8.o.2 Ba.o.size);clear ap G8 O8 Y8 X8 c0 c1 U cf d0 d1 d2 df Z O9 Y9 q0 q1 q2 qf;obtain⟨d0,d1,d2,df⟩:=zg Ya.o;go_wp2_with fail;refine (zgE I.heap.size G2 g _ Oa.o Ca.o.size au.o aw).mono ?_;rintro e wb ⟨⟨k,rfl⟩,hm⟩;have Gb:=zc (Ga.o.marked hm);have Cb:=zc (Ca.o.trans hm.bel);have Sb:Hid (N.heap.size≤wb.heap.size):=zc (Nat.le_trans Sa.o hm.bel.size);have qk:decide ((k:Int)<0)=false:=decide_eq_false (by omega);clear hm Ga Oa Ya Ca d0 d1 d2 df;go_wp2_with fail;refine (zke _ _ a7 a4 n7 q O V v7 v4 _ Gb.o (R4.o.later Cb.o) hl H).mono ?_;rintro e wc ⟨rfl,h⟩;have Gc:=zc (Gb.o.later h);have Cc:=zc (Cb.o.trans (h.mono Cb.o.size));have Sc:Hid (N.heap.size≤wc.heap.size):=zc (Nat.le_trans Sb.o h.size);clear h Gb Cb;go_wp2_with fail;refine (zzE N.heap.size a7 n7 q V v7 _ Gc.o hl Sc.o (by omega) H).mono ?_;rintro e wd ⟨rfl,mb,bb⟩;have Md:=zc mb;have Cd:=zc (Cc.o.trans (bb.mono S8.o.1));clear mb bb Gc Cc qk;have qd:decide (((za8 V V.length:Nat):Int)<0)=false:=decide_eq_false (by omega);go_wp2_with fail;refine (zpk N.heap.size a7 n7 q V v7 _ Md.o VL.o hl (by omega) H).mono ?_;rintro e _ ⟨rfl,rfl⟩;obtain⟨c0,c1,U,cf⟩:=zg (X4.o.later Cd.o);go_wp2_with fail;refine (zaY A g _ (HI.o.later (zi J.o Cd.o)) MF.o ab X ac).mono ?_;rintro e we ⟨G4,rfl,L,h⟩;have Oe:=zc L;have Me:=zc (Md.o.later h);have Ce:=zc (Cd.o.trans (h.mono Cd.o.size));clear L h Md Cd c0 c1 U cf;go_wp2_with fail;refine (zpq zdv _ G4 g _ Oe.o GD.o).mono ?_;rintro e wf ⟨af,nf,am,lf,vf,rfl,of,h,hi,hj⟩;obtain rfl:lf=V:=by
   by_cases Y:GrS g
   ·rw[hi Y,I4.o.1 Y]
   ·rw[hj Y,I4.o.2 Y]
  obtain rfl:nf=n7:=by have:=of.o.1;have:=of.vl;have:=NL.o;omega
  have Rf:=zc of;have Mf:=zc (Me.o.later h);have Cf:=zc (Ce.o.trans (h.mono Ce.o.size));clear of h hi hj Oe Me Ce;go_wp2_with fail;refine (zke _ _ af a4 nf am O lf vf v4 _ Rf.o (R4.o.later Cf.o) hl H).mono ?_;rintro e wg ⟨rfl,h⟩;have Mg:=zc (Mf.o.later h);have Cg:=zc (Cf.o.trans (h.mono Cf.o.size));clear h Rf Mf Cf;go_wp2_with fail;refine (zpk N.heap.size a7 nf q lf v7 _ Mg.o VL.o hl (by omega) H).mono ?_;rintro e _ ⟨rfl,rfl⟩;go_wp2;go_ret
  exact⟨rfl,zi J.o Cg.o⟩)
theorem lifted (os:Os) (I:os.Started) (H:Type) (enc:TypeId×Value→H):
  ReturnsInHanded {} Tryz.checked os 9 .any (Rows.fnExactTogetherSpec.pre6 enc Tryz.prog Tryz.f9 Rows.fnExactTogetherRow.domain false) (Rows.fnExactTogetherSpec.post enc Tryz.prog Tryz.f9 false true false false):=by
 refine returnsInHanded_of_change (C:=Tryz.checked) own I (by kernel_rfl) Tryz.func9
  (ChangeSpec.witness6 (enc:=enc) (C:=Tryz.checked) false ⟨#[],#[.agg #[.slice none 0 0,.slice none 0 0,.slice none 0 0]],[]⟩ 8 (by kernel_rfl) (by kernel_rfl) (by kernel_rfl) (by kernel_rfl)) ?_
 intro W M w ds gs U J hW ab _
 have K: ∀(j:Nat) t v,Tryz.f9.params[j]? =some t→w[j]? =some v→Value.okWide Tryz.prog W .any M t v:=J
 have aa:=hW
 obtain⟨p,q,N,hV,rfl,ag,ae⟩:=hW
 have hA:DataW.TrodAll enc Tryz.prog W 0 (fun _=>true) true Tryz.f9.params.toList w.toList ds p:=N
 rw[Tryz.params9] at hA K
 obtain⟨v0,af,d0,ad,p0,q0,Y,rfl,rfl,h0,r0⟩:=trodAll_cons hA
 obtain⟨rfl,rfl,rfl⟩:=trodAll_nil r0
 obtain rfl:w= #[v0]:=by cases w;simp_all
 obtain⟨rfl,rfl⟩:=trodVars_none hV
 obtain⟨Z,rfl,_⟩:=okWide_struct Tryz.underlying26 (K 0 26 v0 rfl rfl)
 have k0:=h0
 have V: ∀x∈p0,x.block<W.heap.size:=by obtain⟨m,hm⟩:=k0;exact DataW.trod_lt m _ _ _ hm
 obtain⟨A0,m0,rfl,X,O,L⟩: ∃(A:GA) (m:Gr),Z=(grA A m).cells∧GrIn W A m∧BigG A m∧∀x∈A.ms,zay x.2.ex:=by
  obtain⟨ac,hf⟩:=h0
  obtain⟨A,m,e,h⟩:=zff hf
  exact⟨A,m,Array.toList_inj.1 e,h⟩
 clear N J
 refine (walk A0 m0 W X O L).mono fun e W' ⟨he,bel⟩=>?_
 subst he
 exact⟨_,rfl,_,_,_,[],_,[],aa,trodAll_mk1 (shut_bool Tryz.underlying4 _),(trodAll_cons_mk (Below.trod laidOut (by kernel_rfl) (of_decide_eq_true (by kernel_rfl)) k0 bel V) trodAll_mk0),rfl,bel.frame _,fun h=>by cases h⟩
theorem over:Rows.fnExactTogetherRow.holds Tryz.pinned (OpenSpec.ofChange Rows.fnExactTogetherSpec):=
 OpenClaim.holds_of_wide 9 Tryz.f9 rfl rfl rfl rfl rfl rfl rfl ⟨rfl,rfl,rfl,rfl,rfl⟩ rfl rfl rfl rfl rfl (by kernel_rfl) Tryz.func9 zzD
  (of_decide_eq_true (by kernel_rfl)) (by unfold Func.isWrapper;first|(rw[if_pos (by decide+kernel)];kernel_rfl)|(rw[if_neg (by decide+kernel)];exact⟨rfl,rfl⟩))
  (fun w h H q _=>lifted w h H q)
end Go.Proofs.YtegdaafmaookjaaGreat.fnExactTogether
namespace Go.Proofs.YtegdaafmaookjaaGreat
theorem fnExactTogether_holds:Rows.FnExactTogetherSaid:=fnExactTogether.over
end Go.Proofs.YtegdaafmaookjaaGreat
