/-
 At every row of rules and every program laws.FnExactMapMod returns true: impl.MapMod answers as spec.MapMod does,writes into no argument and keeps nothing of one,and its answer owns its memory; no condition.
-/
import Derived.Test.YtjdddblpfbmpaaaGreatRows
import Derived.ProofKit
import Derived.ShutString
import Derived.ChangeOld
import Derived.Test.YtjdddblpfbmpaaaGreatClReadAgainToImplMap
namespace Go.Proofs.YtjdddblpfbmpaaaGreat.fnExactMapMod
set_option maxRecDepth 100000
set_option maxHeartbeats 6400000
set_option linter.unusedVariables false
open Go.ChangeShapes Go.WideShapes Go.ChangeAt Go.RowKit
open Go.ChangeMaps (open_string shut_string)
theorem own:ownKnob Tryz.prog.godebug=none:=by kernel_rfl
theorem laidOut:laidOutB Tryz.prog=true:=by kernel_rfl
theorem zuA:OkC 7:=fun j S m w h A z=>(zrV j S m false w h (zhp A z) (fun t=>by have:=(zgg t z).1;omega)).mono fun e w' ⟨h1,h2⟩=>⟨znX h1,h2⟩
theorem walk (S:FSrc) (A:MA) (m:Md) (w:World) (w0:zfw S w) (a8:ModIn w A m) (ap:zgq m) (hn:zaR m.ex):
  Calls Tryz.prog 4 #[.slice S.a S.len S.cap,zaW A m] w fun e w'=>e= .returned (.bool true)∧Below w.heap.size w w':=by
 obtain⟨a,b,af,J,M,Pt,Tx⟩:=S
 obtain⟨ao,aq,ar⟩:=w0
 simp only at ao aq ar ⊢
 have HI:=zc a8
 have HG:=zc ap
 have HN:=zc hn
 have ai:=zc aq
 have aB:=zc ar
 clear a8 ap hn aq ar
 unfold zaW
 go_enter Tryz.func4,Tryz.ntmps4
 go_upto_region 1 with fail
 refine zV (R:=fun W=>W.heap[w.heap.size]? =some (zh0 A m)∧Below w.heap.size w W) ⟨heap_alloc_new w _,(Below.refl _ _).alloc (Nat.le_refl _) _⟩ ?_
 obtain⟨gx,av⟩: ∃gx,gx=w.heap.size:=⟨_,rfl⟩
 rw[←av]
 rintro w1 ⟨hx,I⟩
 rw[av] at I
 clear av
 have X1:=zc hx
 have B1:=zc I
 clear hx I
 go_wp2_with fail
 refine (zps a b af J M Pt Tx _ (ai.out.later B1.out) ao (fun j hj=>(aB.out j hj).1) (fun j hj=>(aB.out j hj).2)).mono ?_
 rintro e w2 ⟨z,rfl,a6,hz,I⟩
 have X2:=zc (zbd X1.out I)
 have B2:=zc (B1.out.trans (I.mono B1.out.size))
 clear I X1 B1
 by_cases aj:0≤z
 case neg=>
  clear hz
  go_wp2
  go_ret
  exact⟨rfl,B2.out⟩
 have bg:=(hz aj).1
 have HP:Hid (∀j,j<J→(Pt j).size≤1048576):=fun j hj=>((hz aj).2 j hj).1
 have HT:Hid (∀j,j<J→(Tx j).size≤1048576):=fun j hj=>((hz aj).2 j hj).2
 clear hz aB
 obtain⟨c0,X,V,Z,c4,Y⟩:=zg X2.out
 go_wp2_with fail
 refine (zoW A m z _ (HI.out.later B2.out) HG.out aj a6).mono ?_
 rintro e w3 ⟨⟨y,rfl,be,bk,aF⟩,I⟩
 have X3:=zc (zbd X2.out I)
 have B3:=zc (B2.out.trans (I.mono B2.out.size))
 clear I X2 B2 c0 X V Z c4 Y
 by_cases hy:0≤y
 case neg=>
  clear aF
  go_wp2
  go_ret
  exact⟨rfl,B3.out⟩
 have hc:zbb m+J≤1048576:=by have:=aF hy;omega
 have hl:J≤1048576:=by omega
 have HC:=zc hc
 have O:Hid (m.rq.length≤1048576∧m.im.length≤1048576∧m.ep.length≤1048576∧m.st.length≤1048576∧m.ex.length≤1048576):=by
  have k:=zj9 hc
  exact⟨k.rq,k.im,k.ep,k.st,k.ex⟩
 clear aF hc bg a6 be bk
 obtain⟨F,hF⟩: ∃F,F=zZ J Pt Tx:=⟨_,rfl⟩
 have HF:=zc hF
 clear hF
 go_upto_region 8 with fail
 have XL:Hid (gx<w3.heap.size):=(Array.getElem?_eq_some_iff.1 X3.out).1
 refine zgJ (by kernel_rfl) (fun D L W=>∃t S,TwA _ w3 119 a J M Pt Tx F A m t S D L W) (zgK (by kernel_rfl)) ⟨false,S0,TwA.start rfl (Below.refl _ _).drew⟩ ?_ ?_
 ·rintro D L W i o ⟨t,S,H⟩ U hd h
  have bi:i<11:=(Array.getElem?_eq_some_iff.1 U).1
  obtain rfl|rfl|rfl|rfl|rfl|rfl|rfl|rfl|rfl|rfl|rfl:i=0∨i=1∨i=2∨i=3∨i=4∨i=5∨i=6∨i=7∨i=8∨i=9∨i=10:=by omega
  ·cases U
   have t0:L.tmps[0]? =some (.slice a J M):=H.oth 0 (by decide)
   exact zae rfl rfl (zaC (w':=W) (v:=.slice a J M) (by go_simp) ⟨t,S,H.s0 (by decide)⟩)
  ·cases U
   have t0:=H.e0 (h ⟨0,.data⟩ (by simp) rfl)
   refine zae rfl rfl (zeC (f:=13) (args:=#[.slice a J M]) (by go_simp) ((zgr a b af J M Pt Tx W (ai.out.later (B3.out.trans (H.bel.mono B3.out.size))) hl).mono ?_))
   rintro e W' ⟨g,rfl,ho,I⟩
   exact⟨_,rfl,t,S,H.s1 (by decide) ho.files I⟩
  ·cases U
   have t0:L.tmps[3]? =some (.pointer (some ⟨gx,0,none⟩)):=H.oth 3 (by decide)
   obtain⟨c0,X,V,Z,c4,Y⟩:=zg ((H.bel.block gx XL.out).trans X3.out)
   exact zae rfl rfl (zaC (w':=W) (v:=zaW A m) (by unfold zaW;go_simp) ⟨t,S,H.s2 (by decide)⟩)
  ·cases U
   have t0:=H.e2 (h ⟨2,.data⟩ (by simp) rfl)
   refine zae rfl rfl (zeC (f:=8) (args:=#[zaW A m]) (by go_simp) ((zgs A m W (HI.out.later (B3.out.trans (H.bel.mono B3.out.size))) O.out.1 O.out.2.1 O.out.2.2.1 O.out.2.2.2.1 O.out.2.2.2.2).mono ?_))
   rintro e W' ⟨S',rfl,ho,I⟩
   exact⟨_,rfl,t,S,H.s3 (by decide) (ho.low (Nat.zero_le _)) I⟩
  ·cases U
   obtain⟨g,t0,hf⟩:=H.e1 (h ⟨1,.data⟩ (by simp) rfl)
   obtain⟨S',t1,ho⟩:=H.e3 (h ⟨3,.data⟩ (by simp) rfl)
   have h9:D 9=false:=by
    cases h9:D 9 with
    |false=>rfl
    |true=>exact absurd (H.e9 h9).2.2.2.2.1 (by rw[hd];decide)
   refine zae rfl rfl (zeC (f:=12) (args:=#[.slice (some ⟨g,0,none⟩) J J,zh S' m]) (by go_simp) ((zqd zuA 0 g J J Pt Tx S' m W (hf h9) hl HP.out HT.out (ho h9) (by have:=HC.out;omega) HN.out).mono ?_))
   rintro e W' ⟨t',aD,rfl,o6,i6,b6⟩
   rw[←HF.out] at o6 i6 ⊢
   exact⟨_,rfl,t',aD,H.s4 (by decide) hd i6 (o6.low H.bel.size) b6⟩
  ·cases U
   have h4:=h ⟨4,.data⟩ (by simp) rfl
   have t0:=(H.e4 h4).1
   exact zae rfl rfl (zaC (w':=W) (v:=.tuple #[zh S (NtM F m t),.bool t]) (by go_simp) ⟨t,S,H.s5 (by decide) h4⟩)
  ·cases U
   have h5:=h ⟨5,.data⟩ (by simp) rfl
   have t0:=(H.e5 h5).2
   exact zae rfl rfl (zaC (w':=W) (v:=zh S (NtM F m t)) (by go_simp) ⟨t,S,H.s6 (by decide) h5⟩)
  ·cases U
   have h5:=h ⟨5,.data⟩ (by simp) rfl
   have t0:=(H.e5 h5).2
   exact zae rfl rfl (zaC (w':=W) (v:=.bool t) (by go_simp) ⟨t,S,H.s7 (by decide) h5⟩)
  ·cases U
   exact zae rfl rfl (zaC (w':=W.alloc zcF) (v:=.pointer (some ⟨W.heap.size,0,none⟩)) (by unfold zcF;go_simp) ⟨t,S,H.s8 (by decide) hd⟩)
  ·cases U
   obtain⟨g,t0,hg,hz,_⟩:=H.e8 (h ⟨8,.data⟩ (by simp) rfl)
   have t1:=(H.e6 (h ⟨6,.data⟩ (by simp) rfl)).2
   unfold zh at t1
   have hz:=hz hd
   obtain⟨c0,X,V,Z,c4,Y⟩:=zg hz
   exact zae rfl rfl (zjA rfl (by go_simp) ⟨t,S,H.s9 t0 hg hz ⟨h ⟨0,.phase⟩ (by simp) rfl,h ⟨1,.phase⟩ (by simp) rfl,h ⟨2,.phase⟩ (by simp) rfl,h ⟨3,.phase⟩ (by simp) rfl,h ⟨4,.phase⟩ (by simp) rfl,h ⟨5,.phase⟩ (by simp) rfl,h ⟨6,.phase⟩ (by simp) rfl,h ⟨8,.phase⟩ (by simp) rfl⟩⟩)
  ·cases U
   have h7:=h ⟨7,.data⟩ (by simp) rfl
   have t0:=(H.e7 h7).2
   exact zae rfl rfl (zaC (w':=W) (v:=.bool t) (by go_simp) ⟨t,S,H.s10 (by decide) h7⟩)
 rintro D L w4 ⟨t,S2,H⟩ ab
 obtain⟨gw,h6,h7,R4,ha⟩:=H.res rfl ab
 rw[ha]
 simp only[List.foldl]
 rw[h6,h7]
 generalize L.tmps.getD 28 undef=v28
 generalize L.tmps.getD 29 undef=v29
 generalize L.tmps.getD 30 undef=v30
 generalize L.tmps.getD 31 undef=v31
 generalize L.tmps.getD 32 undef=v32
 generalize L.tmps.getD 27 undef=v27
 generalize L.tmps.getD 33 undef=v33
 generalize L.tmps.getD 34 undef=v34
 obtain⟨N,bu⟩: ∃N,Hid (N=NtM F m t):=⟨_,zc rfl⟩
 rw[←bu.out] at R4
 have R8:=zc R4
 clear h6 h7 ha H ab R4 L D
 rename_i K hK
 refine hK _ _ ?_
 clear hK
 have L4:=zc (L1.of X3.out B3.out R8.out)
 have KS:=zc (zpf (zpe R8.out.eq R8.out.iff))
 obtain⟨b2,aY⟩: ∃b2,b2=w3.heap.size:=⟨_,rfl⟩
 obtain⟨b4,aK⟩: ∃b4,b4=w4.heap.size:=⟨_,rfl⟩
 rw[←aY,←aK] at L4
 clear aY
 have E4:=zc aK
 clear aK X3 B3 XL
 go_wp2_with fail
 refine (zgr a b af J M Pt Tx w4 (ai.out.later L4.out.bel) hl).mono ?_
 rintro e w5 ⟨g2,rfl,o5,I⟩
 rw[←E4.out] at o5
 have G5:=zc o5
 have L5:=zc (L4.out.later I)
 clear o5 I L4 E4
 obtain⟨c0,X,V,Z,c4,Y⟩:=zg L5.out.x
 go_wp2_with fail
 refine (zgs A m w5 (HI.out.later L5.out.bel) O.out.1 O.out.2.1 O.out.2.2.1 O.out.2.2.2.1 O.out.2.2.2.2).mono ?_
 rintro e w6 ⟨S3,rfl,o6,I⟩
 have O6:=zc o6
 have G6:=zc (G5.out.later I)
 have L6:=zc (L5.out.later I)
 have Q5:Hid (b4≤w5.heap.size):=L5.out.l4
 have Q6:Hid (w5.heap.size≤w6.heap.size):=I.size
 clear o6 I G5 L5 c0 X V Z c4 Y
 unfold zh
 go_upto_region 11 with fail
 refine zV (R:=fun W=>W.heap[w6.heap.size]? =some (zcE S3 m)∧Below w6.heap.size w6 W) ⟨heap_alloc_new w6 _,(Below.refl _ _).alloc (Nat.le_refl _) _⟩ ?_
 obtain⟨gy,aH⟩: ∃gy,gy=w6.heap.size:=⟨_,rfl⟩
 rw[←aH]
 rintro w7 ⟨aL,I⟩
 rw[aH] at I
 clear aH
 have Y7:=zc aL
 have O7:=zc (O6.out.later I)
 have G7:=zc (G6.out.later I)
 have L7:=zc (L6.out.later I)
 have H3:Hid (∀k,zdF S3 k→k<w7.heap.size):=fun k hk=>Nat.lt_of_lt_of_le (O6.out.in hk).2.1 I.size
 have Q7:Hid (w5.heap.size≤w7.heap.size):=Nat.le_trans Q6.out I.size
 clear aL I O6 G6 L6 Q6
 obtain⟨c0,X,V,Z,c4,Y⟩:=zg Y7.out
 go_wp2_with fail
 refine (zl5 zlF w5.heap.size (some ⟨g2,0,none⟩) g2 J J Pt Tx S3 m w7 G7.out.files hl HP.out HT.out O7.out (by have:=HC.out;omega) HN.out).mono ?_
 rintro e w8 ⟨t',S4,rfl,o8,i8,I⟩
 rw[←HF.out] at o8 i8 ⊢
 have ht:t'=t:=zpv (i8.trans R8.out.iff.symm)
 subst ht
 rw[←R8.out.eq] at o8 ⊢
 have O8:=zc o8
 have Y8:=zc (zbd Y7.out I)
 have P8:=zc (O7.out.later I)
 have G8:=zc (G7.out.later I)
 have L8:=zc (L7.out.later I)
 have Q8:Hid (w7.heap.size≤w8.heap.size):=I.size
 clear o8 i8 I Y7 O7 G7 L7 c0 X V Z c4 Y
 unfold zh
 go_upto_region 12 with fail
 refine zV (R:=fun W=>W.heap[w8.heap.size]? =some (zcE S4 N)∧Below w8.heap.size w8 W) ⟨heap_alloc_new w8 _,(Below.refl _ _).alloc (Nat.le_refl _) _⟩ ?_
 obtain⟨gg,aC⟩: ∃gg,gg=w8.heap.size:=⟨_,rfl⟩
 rw[←aC]
 rintro w9 ⟨a9,I⟩
 rw[aC] at I
 clear aC
 have M9:Hid (L3 w5.heap.size gy S3 m w7.heap.size gg S4 N w9):=⟨Nat.le_trans Q7.out (Nat.le_trans Q8.out I.size),Nat.le_trans Q8.out I.size,zbd Y8.out I,P8.out.later I,H3.out,a9,O8.out.later I⟩
 have G9:=zc (G8.out.later I)
 have L9:=zc (L8.out.later I)
 clear a9 I Y8 P8 O8 G8 L8 H3
 have tt:(t' !=t')=false:=by simp
 obtain⟨c0,X,V,Z,c4,Y⟩:=zg M9.out.gb
 obtain⟨d0,d1,d2,d3,d4,df⟩:=zg L9.out.wb
 go_wp2_with fail
 refine (zgt _ _ S4 S2 N w9 M9.out.o4 L9.out.o KS.out.2.2).mono ?_
 rintro e bw ⟨rfl,I⟩
 have a3:=zc (M9.out.later I)
 have a5:=zc (G9.out.later I)
 have au:=zc (L9.out.later I)
 clear I M9 G9 L9 c0 X V Z c4 Y d0 d1 d2 d3 d4 df
 go_wp2_with fail
 refine (zgr a b af J M Pt Tx bw (ai.out.later au.out.bel) hl).mono ?_
 rintro e bo ⟨g3,rfl,aW,I⟩
 have aM:=zc aW.files
 have aZ:=zc (a3.out.later I)
 have aw:=zc (a5.out.later I)
 have aQ:=zc (au.out.later I)
 clear aW I a3 a5 au
 go_wp2_with fail
 refine (zpq g2 g3 J Pt Tx bo aw.out.files aM.out hl).mono ?_
 rintro e an ⟨rfl,I⟩
 have ae:=zc (aZ.out.later I)
 have a7:=zc (aw.out.later I)
 have ag:=zc (aQ.out.later I)
 clear I aZ aw aQ aM
 go_upto_region 16 with fail
 go_cut [63] (fun bf wx=>bf= .bool false∧Hid (Below an.heap.size an wx))
 case first=>
  obtain⟨c0,X,V,Z,c4,Y⟩:=zg ae.out.y
  obtain⟨d0,d1,d2,d3,d4,df⟩:=zg ag.out.x
  have bD:=(Array.getElem?_eq_some_iff.1 ae.out.y).1
  have bB:=(Array.getElem?_eq_some_iff.1 ag.out.x).1
  have bv:Hid (zdB m):=⟨by have:=O.out;omega,by have:=O.out;omega,by have:=O.out;omega,by have:=O.out;omega,by have:=O.out;omega⟩
  go_region_with (first|(go_at_call 8;refine (zgs A m _ (HI.out.later ag.out.bel.drew) O.out.1 O.out.2.1 O.out.2.2.1 O.out.2.2.2.1 O.out.2.2.2.2).mono ?_;rintro e wa ⟨Sa,rfl,oa,ba⟩;have OA:=zc oa;have BA:=zc (((Below.refl an.heap.size an).drew).trans ba);have YA:=zc (zbd ae.out.y BA.out);clear oa ba;obtain⟨q0,q1,q2,q3,q4,qf⟩:=zg YA.out;have bA:=(Array.getElem?_eq_some_iff.1 YA.out).1;unfold zh)|(go_at_call 10;refine (zgt _ _ S3 Sa m _ (ae.out.o3.later BA.out) OA.out bv.out).mono ?_;rintro e wb ⟨rfl,bb⟩;have BB:=zc (BA.out.trans (bb.mono BA.out.size));clear bb))
  all_goals
   go_wp2
   go_meet
   case rel=>exact⟨rfl,BB⟩
 case rest=>
  obtain⟨rfl,I⟩:=hcut
  have a1:=zc (ae.out.later I.out)
  have ay:=zc (a7.out.later I.out)
  have aJ:=zc (ag.out.later I.out)
  clear I ae a7 ag
  go_wp2_with fail
  refine (zpu wc b4 g2 J Pt Tx ay.out hl).mono ?_
  rintro e br ⟨rfl,hg,aX,bz⟩
  have ac:=zc (a1.out.rule ay.out hg)
  have a0:=zc (aJ.out.under (Nat.le_refl _) (zpw hg aX aJ.out.l4))
  obtain⟨k1,aO⟩: ∃k1,Hid (k1=1+J*2):=⟨_,zc rfl⟩
  rw[←aO.out]
  clear hg aX bz a1 ay aJ
  have KC:=zc (zj9 HC.out)
  rw[←aO.out] at KC
  obtain⟨c0,X,V,Z,c4,Y⟩:=zg ac.out.y
  go_wp2_with fail
  refine (zj3 w5.heap.size S3 m k1 br ac.out.o3 ac.out.l5 KC.out).mono ?_
  rintro e aV ⟨rfl,_,I,hk⟩
  have al:=zc (a0.out.under Q5.out I)
  have aG:=zc (ac.out.md hk).2
  have ax:=zc (ac.out.md hk).1
  have aN:Hid (w7.heap.size≤aV.heap.size):=Nat.le_trans ac.out.l7 I.size
  obtain⟨k2,bp⟩: ∃k2,Hid (k2=kM m k1 5):=⟨_,zc rfl⟩
  rw[←bp.out]
  clear I hk ac a0 c0 X V Z c4 Y
  have dz:decide ((k2:Int)<0)=false:=decide_eq_false (by omega)
  obtain⟨c0,X,V,Z,c4,Y⟩:=zg ax.out
  obtain⟨d0,d1,d2,d3,d4,df⟩:=zg al.out.wb
  go_wp2_with fail
  refine (zgt _ _ S4 S2 N aV aG.out al.out.o KS.out.2.2).mono ?_
  rintro e a4 ⟨rfl,I⟩
  have aU:=zc (al.out.later I)
  have aI:=zc (aG.out.later I)
  have ah:=zc (zbd ax.out I)
  have bj:Hid (w7.heap.size≤a4.heap.size):=Nat.le_trans aN.out I.size
  clear I al aG ax aN c0 X V Z c4 Y d0 d1 d2 d3 d4 df
  obtain⟨c0,X,V,Z,c4,Y⟩:=zg ah.out
  go_wp2_with fail
  refine (zj3 w7.heap.size S4 N 1 a4 aI.out bj.out KS.out.1).mono ?_
  rintro e bx ⟨rfl,mk,I,hk⟩
  have aP:=zc (aU.out.under (Nat.le_trans Q5.out Q7.out) I)
  have aA:=zc ((hk gg (Array.getElem?_eq_some_iff.1 ah.out).1 (aI.out.not ah.out (by decide))).trans ah.out)
  have az:=zc mk
  obtain⟨k3,aE⟩: ∃k3,Hid (k3=kM N 1 5):=⟨_,zc rfl⟩
  rw[←aE.out]
  clear I hk mk aU aI ah c0 X V Z c4 Y
  have dk:decide ((k3:Int)<0)=false:=decide_eq_false (by omega)
  have nk:((k3:Int) !=k3)=false:=by simp
  obtain⟨c0,X,V,Z,c4,Y⟩:=zg aA.out
  go_wp2_with fail
  refine (zj4 w7.heap.size S4 N 1 bx az.out KS.out.1 KS.out.2.1).mono ?_
  rintro e bc ⟨rfl,I⟩
  rw[←aE.out]
  have aa:=zc (aP.out.later I)
  have aR:=zc (zbd aA.out I)
  have a2:=zc (az.out.later I)
  clear I aP aA az c0 X V Z c4 Y
  go_upto_region 31 with fail
  have XM:Hid (gx<bc.heap.size):=(Array.getElem?_eq_some_iff.1 aa.out.x).1
  refine zgJ (by kernel_rfl) (fun D L W=>∃t S,TwB _ bc 119 a J M Pt Tx F A m t S D L W) (zgK (by kernel_rfl)) ⟨false,S0,TwB.start rfl (Below.refl _ _).drew⟩ ?_ ?_
  ·rintro D L W i o ⟨t,S,H⟩ U hd h
   have bi:i<11:=(Array.getElem?_eq_some_iff.1 U).1
   obtain rfl|rfl|rfl|rfl|rfl|rfl|rfl|rfl|rfl|rfl|rfl:i=0∨i=1∨i=2∨i=3∨i=4∨i=5∨i=6∨i=7∨i=8∨i=9∨i=10:=by omega
   ·cases U
    have t0:L.tmps[0]? =some (.slice a J M):=H.oth 0 (by decide)
    exact zae rfl rfl (zaC (w':=W) (v:=.slice a J M) (by go_simp) ⟨t,S,H.s0 (by decide)⟩)
   ·cases U
    have t0:=H.e0 (h ⟨0,.data⟩ (by simp) rfl)
    refine zae rfl rfl (zeC (f:=13) (args:=#[.slice a J M]) (by go_simp) ((zgr a b af J M Pt Tx W (ai.out.later (aa.out.bel.trans (H.bel.mono aa.out.bel.size))) hl).mono ?_))
    rintro e W' ⟨g,rfl,ho,I⟩
    exact⟨_,rfl,t,S,H.s1 (by decide) ho.files I⟩
   ·cases U
    have t0:L.tmps[3]? =some (.pointer (some ⟨gx,0,none⟩)):=H.oth 3 (by decide)
    obtain⟨c0,X,V,Z,c4,Y⟩:=zg ((H.bel.block gx XM.out).trans aa.out.x)
    exact zae rfl rfl (zaC (w':=W) (v:=zaW A m) (by unfold zaW;go_simp) ⟨t,S,H.s2 (by decide)⟩)
   ·cases U
    have t0:=H.e2 (h ⟨2,.data⟩ (by simp) rfl)
    refine zae rfl rfl (zeC (f:=8) (args:=#[zaW A m]) (by go_simp) ((zgs A m W (HI.out.later (aa.out.bel.trans (H.bel.mono aa.out.bel.size))) O.out.1 O.out.2.1 O.out.2.2.1 O.out.2.2.2.1 O.out.2.2.2.2).mono ?_))
    rintro e W' ⟨S',rfl,ho,I⟩
    exact⟨_,rfl,t,S,H.s3 (by decide) (ho.low (Nat.zero_le _)) I⟩
   ·cases U
    obtain⟨g,t0,hf⟩:=H.e1 (h ⟨1,.data⟩ (by simp) rfl)
    obtain⟨S',t1,ho⟩:=H.e3 (h ⟨3,.data⟩ (by simp) rfl)
    have h9:D 9=false:=by
     cases h9:D 9 with
     |false=>rfl
     |true=>exact absurd (H.e9 h9).2.2.2.2.1 (by rw[hd];decide)
    refine zae rfl rfl (zeC (f:=14) (args:=#[.slice (some ⟨g,0,none⟩) J J,zh S' m]) (by go_simp) ((zl5 zlF 0 (some ⟨g,0,none⟩) g J J Pt Tx S' m W (hf h9) hl HP.out HT.out (ho h9) (by have:=HC.out;omega) HN.out).mono ?_))
    rintro e W' ⟨t',aD,rfl,o6,i6,b6⟩
    rw[←HF.out] at o6 i6 ⊢
    exact⟨_,rfl,t',aD,H.s4 (by decide) hd i6 (o6.low H.bel.size) b6⟩
   ·cases U
    have h4:=h ⟨4,.data⟩ (by simp) rfl
    have t0:=(H.e4 h4).1
    exact zae rfl rfl (zaC (w':=W) (v:=.tuple #[zh S (NtM F m t),.bool t]) (by go_simp) ⟨t,S,H.s5 (by decide) h4⟩)
   ·cases U
    have h5:=h ⟨5,.data⟩ (by simp) rfl
    have t0:=(H.e5 h5).2
    exact zae rfl rfl (zaC (w':=W) (v:=zh S (NtM F m t)) (by go_simp) ⟨t,S,H.s6 (by decide) h5⟩)
   ·cases U
    have h5:=h ⟨5,.data⟩ (by simp) rfl
    have t0:=(H.e5 h5).2
    exact zae rfl rfl (zaC (w':=W) (v:=.bool t) (by go_simp) ⟨t,S,H.s7 (by decide) h5⟩)
   ·cases U
    exact zae rfl rfl (zaC (w':=W.alloc zcF) (v:=.pointer (some ⟨W.heap.size,0,none⟩)) (by unfold zcF;go_simp) ⟨t,S,H.s8 (by decide) hd⟩)
   ·cases U
    obtain⟨g,t0,hg,hz,_⟩:=H.e8 (h ⟨8,.data⟩ (by simp) rfl)
    have t1:=(H.e6 (h ⟨6,.data⟩ (by simp) rfl)).2
    unfold zh at t1
    have hz:=hz hd
    obtain⟨c0,X,V,Z,c4,Y⟩:=zg hz
    exact zae rfl rfl (zjA rfl (by go_simp) ⟨t,S,H.s9 t0 hg hz ⟨h ⟨0,.phase⟩ (by simp) rfl,h ⟨1,.phase⟩ (by simp) rfl,h ⟨2,.phase⟩ (by simp) rfl,h ⟨3,.phase⟩ (by simp) rfl,h ⟨4,.phase⟩ (by simp) rfl,h ⟨5,.phase⟩ (by simp) rfl,h ⟨6,.phase⟩ (by simp) rfl,h ⟨8,.phase⟩ (by simp) rfl⟩⟩)
   ·cases U
    have h7:=h ⟨7,.data⟩ (by simp) rfl
    have t0:=(H.e7 h7).2
    exact zae rfl rfl (zaC (w':=W) (v:=.bool t) (by go_simp) ⟨t,S,H.s10 (by decide) h7⟩)
  rintro D L bm ⟨t,S5,H⟩ ab
  obtain⟨gh,h6,h7,ak,ha⟩:=H.res rfl ab
  rw[ha]
  simp only[List.foldl]
  rw[h6,h7]
  generalize L.tmps.getD 95 undef=v95
  generalize L.tmps.getD 96 undef=v96
  generalize L.tmps.getD 97 undef=v97
  generalize L.tmps.getD 98 undef=v98
  generalize L.tmps.getD 99 undef=v99
  generalize L.tmps.getD 94 undef=v94
  generalize L.tmps.getD 100 undef=v100
  generalize L.tmps.getD 101 undef=v101
  have bs:=R8.out.one ak
  obtain⟨ht,hN⟩:=bs
  subst ht
  rw[hN] at ak
  have ad:=zc ak
  clear h6 h7 ha H ab ak L D hN
  rename_i K hK
  refine hK _ _ ?_
  clear hK
  have am:=zc (aa.out.later ad.out.bel)
  have aS:=zc (zbd aR.out ad.out.bel)
  have aT:=zc (a2.out.later ad.out.bel)
  clear aa aR a2 XM
  obtain⟨c0,X,V,Z,c4,Y⟩:=zg ad.out.box
  obtain⟨d0,d1,d2,d3,d4,df⟩:=zg am.out.wb
  go_wp2_with fail
  refine (zgt _ _ S5 S2 N bm ad.out.own am.out.o KS.out.2.2).mono ?_
  rintro e bh ⟨rfl,I⟩
  have bn:=zc (am.out.later I)
  have bq:=zc (zbd aS.out I)
  have bt:=zc (aT.out.later I)
  clear I am aS aT ad c0 X V Z c4 Y d0 d1 d2 d3 d4 df
  obtain⟨c0,X,V,Z,c4,Y⟩:=zg bq.out
  go_wp2_with fail
  refine (zj4 w7.heap.size S4 N 1 bh bt.out KS.out.1 KS.out.2.1).mono ?_
  rintro e bC ⟨rfl,I⟩
  rw[←aE.out]
  have bl:=zc (bn.out.later I)
  clear I
  go_wp2
  go_ret
  exact⟨rfl,bl.out.bel⟩
theorem lifted (os:Os) (z:os.Started) (H:Type) (enc:TypeId×Value→H):
  ReturnsInHanded {} Tryz.checked os 4 .any (Rows.fnExactMapModSpec.pre6 enc Tryz.prog Tryz.f4 Rows.fnExactMapModRow.domain false) (Rows.fnExactMapModSpec.post enc Tryz.prog Tryz.f4 false true false false):=by
 refine returnsInHanded_of_change (C:=Tryz.checked) own z (by kernel_rfl) Tryz.func4
  (ChangeSpec.witness6 (enc:=enc) (C:=Tryz.checked) false ⟨#[],#[.slice none 0 0,.agg #[.slice none 0 0,.slice none 0 0,.slice none 0 0,.slice none 0 0,.slice none 0 0]],[]⟩ 8 (by kernel_rfl) (by kernel_rfl) (by kernel_rfl) (by kernel_rfl)) ?_
 intro W M w ds gs Y J hW af _
 have I: ∀(j:Nat) t v,Tryz.f4.params[j]? =some t→w[j]? =some v→Value.okWide Tryz.prog W .any M t v:=J
 have ac:=hW
 obtain⟨p,q,O,hV,rfl,al,aj⟩:=hW
 have hA:DataW.TrodAll enc Tryz.prog W 0 (fun _=>true) true Tryz.f4.params.toList w.toList ds p:=O
 rw[Tryz.params4] at hA I
 obtain⟨v0,ak,d0,ah,p0,q0,aa,rfl,rfl,h0,r0⟩:=trodAll_cons hA
 obtain⟨v1,ag,d1,ai,p1,q1,rfl,rfl,rfl,h1,r1⟩:=trodAll_cons r0
 obtain⟨rfl,rfl,rfl⟩:=trodAll_nil r1
 obtain rfl:w= #[v0,v1]:=by cases w;simp_all
 obtain⟨rfl,rfl⟩:=trodVars_none hV
 obtain⟨a0,U,N,rfl⟩:=okWide_slice Tryz.underlying40 (I 0 40 v0 rfl rfl)
 have k0:=h0
 have Z: ∀x∈p0,x.block<W.heap.size:=by obtain⟨m,hm⟩:=k0;exact DataW.trod_lt m _ _ _ hm
 obtain⟨S0,rfl,rfl,rfl,w0⟩: ∃S:FSrc,a0=S.a∧U=S.len∧N=S.cap∧zfw S W:=by
  obtain⟨X,hf⟩:=h0
  exact zpS hf
 obtain⟨ad,rfl,_⟩:=okWide_struct Tryz.underlying28 (I 1 28 v1 rfl rfl)
 have k1:=h1
 have ae: ∀x∈p1,x.block<W.heap.size:=by obtain⟨m,hm⟩:=k1;exact DataW.trod_lt m _ _ _ hm
 obtain⟨A1,m1,rfl,ab,V,L⟩: ∃(A:MA) (m:Md),ad=(zaW A m).cells∧ModIn W A m∧zgq m∧zaR m.ex:=by
  obtain⟨X,hf⟩:=h1
  obtain⟨A,m,e,h⟩:=zpd hf
  exact⟨A,m,Array.toList_inj.1 e,h⟩
 clear O J
 refine (walk S0 A1 m1 W w0 ab V L).mono fun e W' ⟨he,bel⟩=>?_
 subst he
 exact⟨_,rfl,_,_,_,[],_,[],ac,trodAll_mk1 (shut_bool Tryz.underlying4 _),(trodAll_cons_mk (Below.trod laidOut (by kernel_rfl) (of_decide_eq_true (by kernel_rfl)) k0 bel Z) (trodAll_cons_mk (Below.trod laidOut (by kernel_rfl) (of_decide_eq_true (by kernel_rfl)) k1 bel ae) trodAll_mk0)),rfl,bel.frame _,fun h=>by cases h⟩
theorem over:Rows.fnExactMapModRow.holds Tryz.pinned (OpenSpec.ofChange Rows.fnExactMapModSpec):=
 OpenClaim.holds_of_wide 4 Tryz.f4 rfl rfl rfl rfl rfl rfl rfl ⟨rfl,rfl,rfl,rfl,rfl⟩ rfl rfl rfl rfl rfl (by kernel_rfl) Tryz.func4 (by kernel_rfl)
  (of_decide_eq_true (by kernel_rfl)) (by unfold Func.isWrapper;first|(rw[if_pos (by decide+kernel)];kernel_rfl)|(rw[if_neg (by decide+kernel)];exact⟨rfl,rfl⟩))
  (fun w h H j _=>lifted w h H j)
end Go.Proofs.YtjdddblpfbmpaaaGreat.fnExactMapMod
namespace Go.Proofs.YtjdddblpfbmpaaaGreat
theorem fnExactMapMod_holds:Rows.FnExactMapModSaid:=fnExactMapMod.over
end Go.Proofs.YtjdddblpfbmpaaaGreat