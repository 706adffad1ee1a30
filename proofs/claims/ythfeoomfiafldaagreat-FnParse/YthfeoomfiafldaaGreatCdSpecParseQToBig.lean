/-
  What spec's l4Item answers outside of a script: the walks.
  What spec.Parse answers: the walk.
  What laws.big answers: the walk.
-/
import Derived.Test.YthfeoomfiafldaaGreatCdSpecParseMToSpecParseP
namespace Go.Proofs.YthfeoomfiafldaaGreat
set_option maxRecDepth 100000
set_option maxHeartbeats 6400000
open Go.RowKit Go.PlainAid
theorem zvs (E:List Tk) (j:Nat) (J D o:Nat) (S:Sv) (q:PS) (w:World) (Q:Mem (Cx.mk E j false) J D o S q w) (h0:isT (Cx.mk E j false) q.pos 1 sImport=true):
  Calls Tryz.prog 21 #[pv (Cx.mk E j false) J D S q (-1) 0] w (Out (Cx.mk E j false) J D o (zo (Cx.mk E j false) q) 0 S w):=by
 have HM:=zc Q
 have H:=Q.tok
 have L:(Cx.mk E j false).ts.length≤4000:=Q.few
 clear Q
 have HV:Hid (zo (Cx.mk E j false) q=za3 (Cx.mk E j false) q):=by show zo (Cx.mk E j false) q=_;rw[zo,h0];rfl
 unfold pv
 go_enter Tryz.func21,Tryz.ntmps21
 go_wp2_with fail
 refine (zj (Cx.mk E j false) J D o S q (-1) 0 1 sImport _ (zv (zv H _) _) L (by decide)).mono ?_
 rintro e w1 ⟨rfl,N⟩
 rw[h0]
 obtain⟨X0,X1,m1,t1⟩:=HM.out.two N
 have I:=zc X0
 have z:=zc X1
 have M:=zc m1
 have K:=zc t1
 clear X0 X1 m1 t1 N
 clear H
 obtain⟨a0,a1,a2,a3,a4,a5,a6,a7,a8,a9,V,Y,af⟩:=I.out.box
 go_wp2_with fail
 refine (zvj (Cx.mk E j false) J D o S q _ M.out h0).mono ?_
 rintro e w2 ⟨S2,q2,z2,rfl,i2,m2,O⟩
 replace I:=zc (I.out.stp O)
 replace z:=zc (z.out.stp O)
 have Z:=zc (K.out.step O)
 clear K
 have X:=zc m2
 have U:=zc i2
 clear i2 m2 O M
 clear a0 a1 a2 a3 a4 a5 a6 a7 a8 a9 V Y af
 obtain⟨b0,b1,b2,b3,b4,b5,b6,b7,b8,b9,ab,aa,bf⟩:=z.out.box
 unfold pv
 go_wp2
 refine bodyPost_ret (results_cell_row rfl _ _ (w.heap.size+1) 55 _ (0,0) _ rfl ((z.out.put ..)).heap Tryz.underlying55 rfl (by kernel_rfl)) rfl ?_
 rw[HV.out]
 exact zac rfl U.out (X.out.put z.out ..) (Z.out.put (by omega) ..)
theorem zvt (E:List Tk) (j:Nat) (O D o:Nat) (S:Sv) (q:PS) (w:World) (Z:Mem (Cx.mk E j false) O D o S q w) (h0:isT (Cx.mk E j false) q.pos 1 sImport=false) (h1:isT (Cx.mk E j false) q.pos 1 sExport=true):
  Calls Tryz.prog 21 #[pv (Cx.mk E j false) O D S q (-1) 0] w (Out (Cx.mk E j false) O D o (zo (Cx.mk E j false) q) 0 S w):=by
 have HM:=zc Z
 have K:=Z.tok
 have J:(Cx.mk E j false).ts.length≤4000:=Z.few
 clear Z
 have HV:Hid (zo (Cx.mk E j false) q=zV (Cx.mk E j false) q):=by show zo (Cx.mk E j false) q=_;rw[zo,h0,h1];rfl
 unfold pv
 go_enter Tryz.func21,Tryz.ntmps21
 go_wp2_with fail
 refine (zj (Cx.mk E j false) O D o S q (-1) 0 1 sImport _ (zv (zv K _) _) J (by decide)).mono ?_
 rintro e w1 ⟨rfl,X⟩
 rw[h0]
 obtain⟨X0,X1,m1,t1⟩:=HM.out.two X
 have H:=zc X0
 have z:=zc X1
 have N:=zc m1
 have U:=zc t1
 clear X0 X1 m1 t1 X
 clear K
 obtain⟨a0,a1,a2,a3,a4,a5,a6,a7,a8,a9,L,M,af⟩:=H.out.box
 go_wp2_with fail
 refine (zj (Cx.mk E j false) O D o S q (-1) 0 1 sExport _ N.out.tok J (by decide)).mono ?_
 rintro e w2 ⟨rfl,I⟩
 rw[h1]
 replace H:=zc (H.out.below I)
 replace z:=zc (z.out.below I)
 have V:=zc (U.out.below I)
 have Q:=zc (N.out.later I)
 clear I U N
 clear a0 a1 a2 a3 a4 a5 a6 a7 a8 a9 L M af
 obtain⟨a0,a1,a2,a3,a4,a5,a6,a7,a8,a9,L,M,af⟩:=H.out.box
 go_wp2_with fail
 refine (zvk (Cx.mk E j false) O D o S q _ Q.out h1).mono ?_
 rintro e w3 ⟨S3,q3,z3,rfl,i3,m3,Y⟩
 replace H:=zc (H.out.stp Y)
 replace z:=zc (z.out.stp Y)
 have aa:=zc (V.out.step Y)
 clear V
 have ab:=zc m3
 have ac:=zc i3
 clear i3 m3 Y Q
 clear a0 a1 a2 a3 a4 a5 a6 a7 a8 a9 L M af
 obtain⟨b0,b1,b2,b3,b4,b5,b6,b7,b8,b9,ae,ad,bf⟩:=z.out.box
 unfold pv
 go_wp2
 refine bodyPost_ret (results_cell_row rfl _ _ (w.heap.size+1) 55 _ (0,0) _ rfl ((z.out.put ..)).heap Tryz.underlying55 rfl (by kernel_rfl)) rfl ?_
 rw[HV.out]
 exact zac rfl ac.out (ab.out.put z.out ..) (aa.out.put (by omega) ..)
theorem zvu (H:List Tk) (j:Nat) (J E D:Nat) (S:Sv) (q:PS) (w:World) (hm:Mem (Cx.mk H j false) J E D S q w) (h0:isT (Cx.mk H j false) q.pos 1 sImport=false) (h1:isT (Cx.mk H j false) q.pos 1 sExport=false) (h2:isT (Cx.mk H j false) q.pos 1 sLet=true):
  Calls Tryz.prog 21 #[pv (Cx.mk H j false) J E S q (-1) 0] w (Out (Cx.mk H j false) J E D (zo (Cx.mk H j false) q) 0 S w):=by
 have HM:=zc hm
 have O:=hm.tok
 have I:(Cx.mk H j false).ts.length≤4000:=hm.few
 clear hm
 have HV:Hid (zo (Cx.mk H j false) q=za7 (zbA (Cx.mk H j false) q)):=by show zo (Cx.mk H j false) q=_;rw[zo,h0,h1,h2];rfl
 unfold pv
 go_enter Tryz.func21,Tryz.ntmps21
 go_wp2_with fail
 refine (zj (Cx.mk H j false) J E D S q (-1) 0 1 sImport _ (zv (zv O _) _) I (by decide)).mono ?_
 rintro e w1 ⟨rfl,ab⟩
 rw[h0]
 obtain⟨X,X1,m1,t1⟩:=HM.out.two ab
 have z:=zc X
 have o:=zc X1
 have Q:=zc m1
 have aa:=zc t1
 clear X X1 m1 t1 ab
 clear O
 obtain⟨a0,a1,a2,Z,a4,a5,a6,a7,a8,a9,L,M,af⟩:=z.out.box
 go_wp2_with fail
 refine (zj (Cx.mk H j false) J E D S q (-1) 0 1 sExport _ Q.out.tok I (by decide)).mono ?_
 rintro e w2 ⟨rfl,K⟩
 rw[h1]
 replace z:=zc (z.out.below K)
 replace o:=zc (o.out.below K)
 have Y:=zc (aa.out.below K)
 have U:=zc (Q.out.later K)
 clear K aa Q
 clear a0 a1 a2 Z a4 a5 a6 a7 a8 a9 L M af
 obtain⟨a0,a1,a2,Z,a4,a5,a6,a7,a8,a9,L,M,af⟩:=z.out.box
 go_wp2_with fail
 refine (zj (Cx.mk H j false) J E D S q (-1) 0 1 sLet _ U.out.tok I (by decide)).mono ?_
 rintro e w3 ⟨rfl,N⟩
 rw[h2]
 replace z:=zc (z.out.below N)
 replace o:=zc (o.out.below N)
 have ad:=zc (Y.out.below N)
 have ac:=zc (U.out.later N)
 clear N Y U
 clear a0 a1 a2 Z a4 a5 a6 a7 a8 a9 L M af
 obtain⟨a0,a1,a2,Z,a4,a5,a6,a7,a8,a9,L,M,af⟩:=z.out.box
 go_wp2_with fail
 refine (zji (Cx.mk H j false) J E D S q _ ac.out).mono ?_
 rintro e w4 ⟨S4,q4,z4,n4,rfl,i4,m4,s4⟩
 replace z:=zc (z.out.stp s4)
 replace o:=zc (o.out.stp s4)
 have ae:=zc (ad.out.step s4)
 clear ad
 have V:=zc m4
 have ah:=zc i4
 clear i4 m4 s4 ac
 clear a0 a1 a2 Z a4 a5 a6 a7 a8 a9 L M af
 have ak:w.heap.size+1<w4.heap.size:=o.out.lt
 unfold pv
 go_upto_region 7 with fail
 refine zQ (R:=fun W=>Bx J S4 W (w.heap.size) _∧Bx J S4 W (w.heap.size+1) _∧Bx J S4 W (w4.heap.size) _∧Mem (Cx.mk H j false) J E D S4 q4 W∧SB w.heap.size S w S4 W) ⟨(z.out.alloc _),(o.out.alloc _),(Bx.new V.out _),(V.out.alloc _),(ae.out.alloc _)⟩ ?_
 clear z o ae V
 rintro w5 ⟨X,X1,X2,m5,t5⟩
 have z:=zc X
 have o:=zc X1
 have aj:=zc X2
 have ag:=zc m5
 have ai:=zc t5
 clear m5 t5 X X1 X2
 obtain⟨b0,b1,b2,b3,b4,b5,b6,b7,b8,b9,an,al,bf⟩:=o.out.box
 obtain⟨c0,c1,c2,c3,c4,c5,c6,c7,c8,c9,ao,am,cf⟩:=aj.out.box
 go_wp2
 refine bodyPost_ret (results_cell_row rfl _ _ (w.heap.size+1) 55 _ (0,0) _ rfl ((o.out.put ..)).heap Tryz.underlying55 rfl (by kernel_rfl)) rfl ?_
 rw[HV.out]
 exact zac rfl ah.out.fst (ag.out.put o.out ..) (ai.out.put (by omega) ..)
theorem zvv (H:List Tk) (j:Nat) (L E D:Nat) (S:Sv) (q:PS) (w:World) (hm:Mem (Cx.mk H j false) L E D S q w) (h0:isT (Cx.mk H j false) q.pos 1 sImport=false) (h1:isT (Cx.mk H j false) q.pos 1 sExport=false) (h2:isT (Cx.mk H j false) q.pos 1 sLet=false) (h3:isT (Cx.mk H j false) q.pos 1 sFunction=true):
  Calls Tryz.prog 21 #[pv (Cx.mk H j false) L E S q (-1) 0] w (Out (Cx.mk H j false) L E D (zo (Cx.mk H j false) q) 0 S w):=by
 have HM:=zc hm
 have Q:=hm.tok
 have K:(Cx.mk H j false).ts.length≤4000:=hm.few
 clear hm
 have HV:Hid (zo (Cx.mk H j false) q=za7 (fnP (Cx.mk H j false) q)):=by show zo (Cx.mk H j false) q=_;rw[zo,h0,h1,h2,h3];rfl
 unfold pv
 go_enter Tryz.func21,Tryz.ntmps21
 go_wp2_with fail
 refine (zj (Cx.mk H j false) L E D S q (-1) 0 1 sImport _ (zv (zv Q _) _) K (by decide)).mono ?_
 rintro e w1 ⟨rfl,ad⟩
 rw[h0]
 obtain⟨X0,X1,m1,t1⟩:=HM.out.two ad
 have z:=zc X0
 have o:=zc X1
 have U:=zc m1
 have ac:=zc t1
 clear X0 X1 m1 t1 ad
 clear Q
 obtain⟨a0,a1,Z,V,a4,a5,a6,a7,a8,a9,I,J,af⟩:=z.out.box
 go_wp2_with fail
 refine (zj (Cx.mk H j false) L E D S q (-1) 0 1 sExport _ U.out.tok K (by decide)).mono ?_
 rintro e w2 ⟨rfl,M⟩
 rw[h1]
 replace z:=zc (z.out.below M)
 replace o:=zc (o.out.below M)
 have ab:=zc (ac.out.below M)
 have Y:=zc (U.out.later M)
 clear M ac U
 clear a0 a1 Z V a4 a5 a6 a7 a8 a9 I J af
 obtain⟨a0,a1,Z,V,a4,a5,a6,a7,a8,a9,I,J,af⟩:=z.out.box
 go_wp2_with fail
 refine (zj (Cx.mk H j false) L E D S q (-1) 0 1 sLet _ Y.out.tok K (by decide)).mono ?_
 rintro e w3 ⟨rfl,O⟩
 rw[h2]
 replace z:=zc (z.out.below O)
 replace o:=zc (o.out.below O)
 have ag:=zc (ab.out.below O)
 have aa:=zc (Y.out.later O)
 clear O ab Y
 clear a0 a1 Z V a4 a5 a6 a7 a8 a9 I J af
 obtain⟨a0,a1,Z,V,a4,a5,a6,a7,a8,a9,I,J,af⟩:=z.out.box
 go_wp2_with fail
 refine (zj (Cx.mk H j false) L E D S q (-1) 0 1 sFunction _ aa.out.tok K (by decide)).mono ?_
 rintro e w4 ⟨rfl,N⟩
 rw[h3]
 replace z:=zc (z.out.below N)
 replace o:=zc (o.out.below N)
 have ai:=zc (ag.out.below N)
 have ah:=zc (aa.out.later N)
 clear N ag aa
 clear a0 a1 Z V a4 a5 a6 a7 a8 a9 I J af
 obtain⟨a0,a1,Z,V,a4,a5,a6,a7,a8,a9,I,J,af⟩:=z.out.box
 go_wp2_with fail
 refine (zjj (Cx.mk H j false) L E D S q _ ah.out).mono ?_
 rintro e w5 ⟨S5,q5,z5,n5,rfl,i5,m5,s5⟩
 replace z:=zc (z.out.stp s5)
 replace o:=zc (o.out.stp s5)
 have ae:=zc (ai.out.step s5)
 clear ai
 have X:=zc m5
 have al:=zc i5
 clear i5 m5 s5 ah
 clear a0 a1 Z V a4 a5 a6 a7 a8 a9 I J af
 have an:w.heap.size+1<w5.heap.size:=o.out.lt
 unfold pv
 go_upto_region 10 with fail
 refine zQ (R:=fun W=>Bx L S5 W (w.heap.size) _∧Bx L S5 W (w.heap.size+1) _∧Bx L S5 W (w5.heap.size) _∧Mem (Cx.mk H j false) L E D S5 q5 W∧SB w.heap.size S w S5 W) ⟨(z.out.alloc _),(o.out.alloc _),(Bx.new X.out _),(X.out.alloc _),(ae.out.alloc _)⟩ ?_
 clear z o ae X
 rintro w6 ⟨X0,X1,X2,m6,t6⟩
 have z:=zc X0
 have o:=zc X1
 have am:=zc X2
 have ak:=zc m6
 have aj:=zc t6
 clear m6 t6 X0 X1 X2
 obtain⟨b0,b1,b2,b3,b4,b5,b6,b7,b8,b9,aq,ao,bf⟩:=o.out.box
 obtain⟨c0,c1,c2,c3,c4,c5,c6,c7,c8,c9,ar,ap,cf⟩:=am.out.box
 go_wp2
 refine bodyPost_ret (results_cell_row rfl _ _ (w.heap.size+1) 55 _ (0,0) _ rfl ((o.out.put ..)).heap Tryz.underlying55 rfl (by kernel_rfl)) rfl ?_
 rw[HV.out]
 exact zac rfl al.out.fst (ak.out.put o.out ..) (aj.out.put (by omega) ..)
theorem zvw (H:List Tk) (j:Nat) (K E D:Nat) (S:Sv) (q:PS) (w:World) (hm:Mem (Cx.mk H j false) K E D S q w) (h0:isT (Cx.mk H j false) q.pos 1 sImport=false) (h1:isT (Cx.mk H j false) q.pos 1 sExport=false) (h2:isT (Cx.mk H j false) q.pos 1 sLet=false) (h3:isT (Cx.mk H j false) q.pos 1 sFunction=false) (h4:isT (Cx.mk H j false) q.pos 1 sPrint=true):
  Calls Tryz.prog 21 #[pv (Cx.mk H j false) K E S q (-1) 0] w (Out (Cx.mk H j false) K E D (zo (Cx.mk H j false) q) 0 S w):=by
 have HM:=zc hm
 have ae:=hm.tok
 have L:(Cx.mk H j false).ts.length≤4000:=hm.few
 clear hm
 have HV:Hid (zo (Cx.mk H j false) q=bd (bd (bd (bd (bd (bd (.ok q) (zd (Cx.mk H j false) 1 sPrint)) (zd (Cx.mk H j false) 4 cOpen)) (pE (Cx.mk H j false) .sum 0)) (zd (Cx.mk H j false) 4 zU)) (zd (Cx.mk H j false) 4 cSemi)) (zE (Cx.mk H j false) 4 sNone)):=by show zo (Cx.mk H j false) q=_;rw[zo,h0,h1,h2,h3,h4];rfl
 unfold pv
 go_enter Tryz.func21,Tryz.ntmps21
 go_wp2_with fail
 refine (zj (Cx.mk H j false) K E D S q (-1) 0 1 sImport _ (zv (zv ae _) _) L (by decide)).mono ?_
 rintro e w1 ⟨rfl,az⟩
 rw[h0]
 obtain⟨X0,X1,m1,t1⟩:=HM.out.two az
 have o:=zc X0
 have z:=zc X1
 have ah:=zc m1
 have ax:=zc t1
 clear X0 X1 m1 t1 az
 clear ae
 obtain⟨a0,a1,Z,Y,a4,a5,a6,a7,a8,a9,I,J,af⟩:=o.out.box
 go_wp2_with fail
 refine (zj (Cx.mk H j false) K E D S q (-1) 0 1 sExport _ ah.out.tok L (by decide)).mono ?_
 rintro e w2 ⟨rfl,M⟩
 rw[h1]
 replace o:=zc (o.out.below M)
 replace z:=zc (z.out.below M)
 have ap:=zc (ax.out.below M)
 have ai:=zc (ah.out.later M)
 clear M ax ah
 clear a0 a1 Z Y a4 a5 a6 a7 a8 a9 I J af
 obtain⟨a0,a1,Z,Y,a4,a5,a6,a7,a8,a9,I,J,af⟩:=o.out.box
 go_wp2_with fail
 refine (zj (Cx.mk H j false) K E D S q (-1) 0 1 sLet _ ai.out.tok L (by decide)).mono ?_
 rintro e w3 ⟨rfl,X⟩
 rw[h2]
 replace o:=zc (o.out.below X)
 replace z:=zc (z.out.below X)
 have aE:=zc (ap.out.below X)
 have aj:=zc (ai.out.later X)
 clear X ap ai
 clear a0 a1 Z Y a4 a5 a6 a7 a8 a9 I J af
 obtain⟨a0,a1,Z,Y,a4,a5,a6,a7,a8,a9,I,J,af⟩:=o.out.box
 go_wp2_with fail
 refine (zj (Cx.mk H j false) K E D S q (-1) 0 1 sFunction _ aj.out.tok L (by decide)).mono ?_
 rintro e w4 ⟨rfl,O⟩
 rw[h3]
 replace o:=zc (o.out.below O)
 replace z:=zc (z.out.below O)
 have aI:=zc (aE.out.below O)
 have ak:=zc (aj.out.later O)
 clear O aE aj
 clear a0 a1 Z Y a4 a5 a6 a7 a8 a9 I J af
 obtain⟨a0,a1,Z,Y,a4,a5,a6,a7,a8,a9,I,J,af⟩:=o.out.box
 go_wp2_with fail
 refine (zj (Cx.mk H j false) K E D S q (-1) 0 1 sPrint _ ak.out.tok L (by decide)).mono ?_
 rintro e w5 ⟨rfl,U⟩
 rw[h4]
 replace o:=zc (o.out.below U)
 replace z:=zc (z.out.below U)
 have aC:=zc (aI.out.below U)
 have au:=zc (ak.out.later U)
 clear U aI ak
 clear a0 a1 Z Y a4 a5 a6 a7 a8 a9 I J af
 obtain⟨a0,a1,Z,Y,a4,a5,a6,a7,a8,a9,I,J,af⟩:=o.out.box
 go_wp2_with fail
 refine (zaT (Cx.mk H j false) K E D (.ok q) S q (-1) 0 sPrint _ (zab q) au.out).mono ?_
 rintro e w6 ⟨S6,q6,z6,rfl,i6,m6,s6⟩
 replace o:=zc (o.out.stp s6)
 replace z:=zc (z.out.stp s6)
 have ao:=zc (aC.out.step s6)
 clear aC
 have aw:=zc m6
 have aL:=zc i6
 clear i6 m6 s6 au
 clear a0 a1 Z Y a4 a5 a6 a7 a8 a9 I J af
 go_wp2_with fail
 refine (zah (Cx.mk H j false) K E D _ S6 q6 z6 0 cOpen _ aL.out aw.out).mono ?_
 rintro e w7 ⟨S7,q7,z7,rfl,i7,m7,s7⟩
 replace o:=zc (o.out.stp s7)
 replace z:=zc (z.out.stp s7)
 have an:=zc (ao.out.step s7)
 clear ao
 have av:=zc m7
 have aP:=zc i7
 clear i7 m7 s7 aw
 go_wp2_with fail
 refine (zdp (Cx.mk H j false) K E D _ S7 q7 z7 _ aP.out av.out).mono ?_
 rintro e w8 ⟨S8,q8,z8,rfl,i8,m8,s8⟩
 replace o:=zc (o.out.stp s8)
 replace z:=zc (z.out.stp s8)
 have aK:=zc (an.out.step s8)
 clear an
 have ay:=zc m8
 have aN:=zc i8
 clear i8 m8 s8 av
 go_wp2_with fail
 refine (zah (Cx.mk H j false) K E D _ S8 q8 z8 0 zU _ aN.out ay.out).mono ?_
 rintro e w9 ⟨S9,q9,z9,rfl,i9,m9,s9⟩
 replace o:=zc (o.out.stp s9)
 replace z:=zc (z.out.stp s9)
 have aJ:=zc (aK.out.step s9)
 clear aK
 have al:=zc m9
 have aM:=zc i9
 clear i9 m9 s9 ay
 have aU:w.heap.size+1<w9.heap.size:=z.out.lt
 unfold pv
 go_upto_region 13 with fail
 refine zQ (R:=fun W=>Bx K S9 W (w.heap.size) _∧Bx K S9 W (w.heap.size+1) _∧Bx K S9 W (w9.heap.size) _∧Mem (Cx.mk H j false) K E D S9 q9 W∧SB w.heap.size S w S9 W) ⟨(o.out.alloc _),(z.out.alloc _),(Bx.new al.out _),(al.out.alloc _),(aJ.out.alloc _)⟩ ?_
 clear o z aJ al
 rintro aY ⟨X0,X1,X2,am,aB⟩
 have o:=zc X0
 have z:=zc X1
 have Q:=zc X2
 have ac:=zc am
 have aa:=zc aB
 clear am aB X0 X1 X2
 obtain⟨c0,c1,c2,c3,c4,c5,c6,c7,c8,c9,aT,aR,cf⟩:=Q.out.box
 go_wp2_with fail
 refine (zah (Cx.mk H j false) K E D _ S9 q9 z9 0 cSemi _ aM.out ac.out).mono ?_
 rintro e aZ ⟨aQ,aS,aO,rfl,aF,ar,V⟩
 replace o:=zc (o.out.stp V)
 replace z:=zc (z.out.stp V)
 replace Q:=zc (Q.out.stp V)
 have ab:=zc (aa.out.step V)
 clear aa
 have ag:=zc ar
 have ad:=zc aF
 clear aF ar V ac
 clear c0 c1 c2 c3 c4 c5 c6 c7 c8 c9 aT aR cf
 go_wp2_with fail
 refine (zcY (Cx.mk H j false) K E D _ aQ aS aO 0 4 sNone _ ad.out ag.out (zb5 ad.out)).mono ?_
 rintro e aW ⟨bc,aV,aX,rfl,aG,aA,N⟩
 replace o:=zc (o.out.stp N)
 replace z:=zc (z.out.stp N)
 replace Q:=zc (Q.out.stp N)
 have aD:=zc (ab.out.step N)
 clear ab
 have aq:=zc aA
 have aH:=zc aG
 clear aG aA N ag
 obtain⟨b0,b1,b2,b3,b4,b5,b6,b7,b8,b9,bb,ba,bf⟩:=z.out.box
 unfold pv
 go_wp2
 refine bodyPost_ret (results_cell_row rfl _ _ (w.heap.size+1) 55 _ (0,0) _ rfl ((z.out.put ..)).heap Tryz.underlying55 rfl (by kernel_rfl)) rfl ?_
 rw[HV.out]
 exact zac rfl aH.out (aq.out.put z.out ..) (aD.out.put (by omega) ..)
theorem zvx (E:List Tk) (j:Nat) (L H D:Nat) (S:Sv) (q:PS) (w:World) (hm:Mem (Cx.mk E j false) L H D S q w) (h0:isT (Cx.mk E j false) q.pos 1 sImport=false) (h1:isT (Cx.mk E j false) q.pos 1 sExport=false) (h2:isT (Cx.mk E j false) q.pos 1 sLet=false) (h3:isT (Cx.mk E j false) q.pos 1 sFunction=false) (h4:isT (Cx.mk E j false) q.pos 1 sPrint=false) (h5:isT (Cx.mk E j false) q.pos 1 sThrow=true):
  Calls Tryz.prog 21 #[pv (Cx.mk E j false) L H S q (-1) 0] w (Out (Cx.mk E j false) L H D (zo (Cx.mk E j false) q) 0 S w):=by
 have HM:=zc hm
 have ae:=hm.tok
 have K:(Cx.mk E j false).ts.length≤4000:=hm.few
 clear hm
 have HV:Hid (zo (Cx.mk E j false) q=bd (bd (bd (bd (.ok q) (zd (Cx.mk E j false) 1 sThrow)) (pE (Cx.mk E j false) .sum 0)) (zd (Cx.mk E j false) 4 cSemi)) (zE (Cx.mk E j false) 5 sNone)):=by show zo (Cx.mk E j false) q=_;rw[zo,h0,h1,h2,h3,h4,h5];rfl
 unfold pv
 go_enter Tryz.func21,Tryz.ntmps21
 go_wp2_with fail
 refine (zj (Cx.mk E j false) L H D S q (-1) 0 1 sImport _ (zv (zv ae _) _) K (by decide)).mono ?_
 rintro e w1 ⟨rfl,az⟩
 rw[h0]
 obtain⟨X0,X1,m1,t1⟩:=HM.out.two az
 have o:=zc X0
 have z:=zc X1
 have ag:=zc m1
 have aw:=zc t1
 clear X0 X1 m1 t1 az
 clear ae
 obtain⟨Q,Y,N,M,a4,a5,U,a7,O,a9,I,J,Z⟩:=o.out.box
 go_wp2_with fail
 refine (zj (Cx.mk E j false) L H D S q (-1) 0 1 sExport _ ag.out.tok K (by decide)).mono ?_
 rintro e w2 ⟨rfl,X⟩
 rw[h1]
 replace o:=zc (o.out.below X)
 replace z:=zc (z.out.below X)
 have ap:=zc (aw.out.below X)
 have ai:=zc (ag.out.later X)
 clear X aw ag
 clear Q Y N M a4 a5 U a7 O a9 I J Z
 obtain⟨Q,Y,N,M,a4,a5,U,a7,O,a9,I,J,Z⟩:=o.out.box
 go_wp2_with fail
 refine (zj (Cx.mk E j false) L H D S q (-1) 0 1 sLet _ ai.out.tok K (by decide)).mono ?_
 rintro e w3 ⟨rfl,ac⟩
 rw[h2]
 replace o:=zc (o.out.below ac)
 replace z:=zc (z.out.below ac)
 have aC:=zc (ap.out.below ac)
 have aj:=zc (ai.out.later ac)
 clear ac ap ai
 clear Q Y N M a4 a5 U a7 O a9 I J Z
 obtain⟨Q,Y,N,M,a4,a5,U,a7,O,a9,I,J,Z⟩:=o.out.box
 go_wp2_with fail
 refine (zj (Cx.mk E j false) L H D S q (-1) 0 1 sFunction _ aj.out.tok K (by decide)).mono ?_
 rintro e w4 ⟨rfl,aa⟩
 rw[h3]
 replace o:=zc (o.out.below aa)
 replace z:=zc (z.out.below aa)
 have aD:=zc (aC.out.below aa)
 have ak:=zc (aj.out.later aa)
 clear aa aC aj
 clear Q Y N M a4 a5 U a7 O a9 I J Z
 obtain⟨Q,Y,N,M,a4,a5,U,a7,O,a9,I,J,Z⟩:=o.out.box
 go_wp2_with fail
 refine (zj (Cx.mk E j false) L H D S q (-1) 0 1 sPrint _ ak.out.tok K (by decide)).mono ?_
 rintro e w5 ⟨rfl,ab⟩
 rw[h4]
 replace o:=zc (o.out.below ab)
 replace z:=zc (z.out.below ab)
 have aB:=zc (aD.out.below ab)
 have ah:=zc (ak.out.later ab)
 clear ab aD ak
 clear Q Y N M a4 a5 U a7 O a9 I J Z
 obtain⟨Q,Y,N,M,a4,a5,U,a7,O,a9,I,J,Z⟩:=o.out.box
 go_wp2_with fail
 refine (zj (Cx.mk E j false) L H D S q (-1) 0 1 sThrow _ ah.out.tok K (by decide)).mono ?_
 rintro e w6 ⟨rfl,V⟩
 rw[h5]
 replace o:=zc (o.out.below V)
 replace z:=zc (z.out.below V)
 have ao:=zc (aB.out.below V)
 have av:=zc (ah.out.later V)
 clear V aB ah
 clear Q Y N M a4 a5 U a7 O a9 I J Z
 obtain⟨Q,Y,N,M,a4,a5,U,a7,O,a9,I,J,Z⟩:=o.out.box
 go_wp2_with fail
 refine (zaT (Cx.mk E j false) L H D (.ok q) S q (-1) 0 sThrow _ (zab q) av.out).mono ?_
 rintro e w7 ⟨S7,q7,z7,rfl,i7,m7,s7⟩
 replace o:=zc (o.out.stp s7)
 replace z:=zc (z.out.stp s7)
 have am:=zc (ao.out.step s7)
 clear ao
 have au:=zc m7
 have aI:=zc i7
 clear i7 m7 s7 av
 clear Q Y N M a4 a5 U a7 O a9 I J Z
 go_wp2_with fail
 refine (zdp (Cx.mk E j false) L H D _ S7 q7 z7 _ aI.out au.out).mono ?_
 rintro e w8 ⟨S8,q8,z8,rfl,i8,m8,s8⟩
 replace o:=zc (o.out.stp s8)
 replace z:=zc (z.out.stp s8)
 have aF:=zc (am.out.step s8)
 clear am
 have ax:=zc m8
 have aH:=zc i8
 clear i8 m8 s8 au
 go_wp2_with fail
 refine (zah (Cx.mk E j false) L H D _ S8 q8 z8 0 cSemi _ aH.out ax.out).mono ?_
 rintro e w9 ⟨S9,q9,z9,rfl,i9,m9,s9⟩
 replace o:=zc (o.out.stp s9)
 replace z:=zc (z.out.stp s9)
 have aE:=zc (aF.out.step s9)
 clear aF
 have aG:=zc m9
 have ar:=zc i9
 clear i9 m9 s9 ax
 go_wp2_with fail
 refine (zcY (Cx.mk E j false) L H D _ S9 q9 z9 0 5 sNone _ ar.out aG.out (zb5 ar.out)).mono ?_
 rintro e aL ⟨aK,aO,aJ,rfl,ay,al,ad⟩
 replace o:=zc (o.out.stp ad)
 replace z:=zc (z.out.stp ad)
 have aq:=zc (aE.out.step ad)
 clear aE
 have aA:=zc al
 have an:=zc ay
 clear ay al ad aG
 obtain⟨b0,b1,b2,b3,b4,b5,b6,b7,b8,b9,aN,aM,bf⟩:=z.out.box
 unfold pv
 go_wp2
 refine bodyPost_ret (results_cell_row rfl _ _ (w.heap.size+1) 55 _ (0,0) _ rfl ((z.out.put ..)).heap Tryz.underlying55 rfl (by kernel_rfl)) rfl ?_
 rw[HV.out]
 exact zac rfl an.out (aA.out.put z.out ..) (aq.out.put (by omega) ..)
theorem zvy (E:List Tk) (j:Nat) (M H D:Nat) (S:Sv) (q:PS) (w:World) (hm:Mem (Cx.mk E j false) M H D S q w) (h0:isT (Cx.mk E j false) q.pos 1 sImport=false) (h1:isT (Cx.mk E j false) q.pos 1 sExport=false) (h2:isT (Cx.mk E j false) q.pos 1 sLet=false) (h3:isT (Cx.mk E j false) q.pos 1 sFunction=false) (h4:isT (Cx.mk E j false) q.pos 1 sPrint=false) (h5:isT (Cx.mk E j false) q.pos 1 sThrow=false):
  Calls Tryz.prog 21 #[pv (Cx.mk E j false) M H S q (-1) 0] w (Out (Cx.mk E j false) M H D (zo (Cx.mk E j false) q) 0 S w):=by
 have HM:=zc hm
 have al:=hm.tok
 have K:(Cx.mk E j false).ts.length≤4000:=hm.few
 clear hm
 have HV:Hid (zo (Cx.mk E j false) q=bd (bd (.ok q) (zk (Cx.mk E j false) false)) fun a=>bd (bd (bd (bd (.ok a.1) (zd (Cx.mk E j false) 4 cEq)) (pE (Cx.mk E j false) .sum 0)) (zd (Cx.mk E j false) 4 cSemi)) (zE (Cx.mk E j false) 3 a.2)):=by show zo (Cx.mk E j false) q=_;rw[zo,h0,h1,h2,h3,h4,h5];rfl
 unfold pv
 go_enter Tryz.func21,Tryz.ntmps21
 go_wp2_with fail
 refine (zj (Cx.mk E j false) M H D S q (-1) 0 1 sImport _ (zv (zv al _) _) K (by decide)).mono ?_
 rintro e w1 ⟨rfl,aH⟩
 rw[h0]
 obtain⟨X0,X1,m1,t1⟩:=HM.out.two aH
 have o:=zc X0
 have z:=zc X1
 have an:=zc m1
 have aD:=zc t1
 clear X0 X1 m1 t1 aH
 clear al
 obtain⟨U,Z,O,N,a4,a5,V,a7,Q,a9,I,J,af⟩:=o.out.box
 go_wp2_with fail
 refine (zj (Cx.mk E j false) M H D S q (-1) 0 1 sExport _ an.out.tok K (by decide)).mono ?_
 rintro e w2 ⟨rfl,Y⟩
 rw[h1]
 replace o:=zc (o.out.below Y)
 replace z:=zc (z.out.below Y)
 have az:=zc (aD.out.below Y)
 have aq:=zc (an.out.later Y)
 clear Y aD an
 clear U Z O N a4 a5 V a7 Q a9 I J af
 obtain⟨U,Z,O,N,a4,a5,V,a7,Q,a9,I,J,af⟩:=o.out.box
 go_wp2_with fail
 refine (zj (Cx.mk E j false) M H D S q (-1) 0 1 sLet _ aq.out.tok K (by decide)).mono ?_
 rintro e w3 ⟨rfl,ag⟩
 rw[h2]
 replace o:=zc (o.out.below ag)
 replace z:=zc (z.out.below ag)
 have aL:=zc (az.out.below ag)
 have ar:=zc (aq.out.later ag)
 clear ag az aq
 clear U Z O N a4 a5 V a7 Q a9 I J af
 obtain⟨U,Z,O,N,a4,a5,V,a7,Q,a9,I,J,af⟩:=o.out.box
 go_wp2_with fail
 refine (zj (Cx.mk E j false) M H D S q (-1) 0 1 sFunction _ ar.out.tok K (by decide)).mono ?_
 rintro e w4 ⟨rfl,ab⟩
 rw[h3]
 replace o:=zc (o.out.below ab)
 replace z:=zc (z.out.below ab)
 have aP:=zc (aL.out.below ab)
 have au:=zc (ar.out.later ab)
 clear ab aL ar
 clear U Z O N a4 a5 V a7 Q a9 I J af
 obtain⟨U,Z,O,N,a4,a5,V,a7,Q,a9,I,J,af⟩:=o.out.box
 go_wp2_with fail
 refine (zj (Cx.mk E j false) M H D S q (-1) 0 1 sPrint _ au.out.tok K (by decide)).mono ?_
 rintro e w5 ⟨rfl,ad⟩
 rw[h4]
 replace o:=zc (o.out.below ad)
 replace z:=zc (z.out.below ad)
 have aJ:=zc (aP.out.below ad)
 have ao:=zc (au.out.later ad)
 clear ad aP au
 clear U Z O N a4 a5 V a7 Q a9 I J af
 obtain⟨U,Z,O,N,a4,a5,V,a7,Q,a9,I,J,af⟩:=o.out.box
 go_wp2_with fail
 refine (zj (Cx.mk E j false) M H D S q (-1) 0 1 sThrow _ ao.out.tok K (by decide)).mono ?_
 rintro e w6 ⟨rfl,X⟩
 rw[h5]
 replace o:=zc (o.out.below X)
 replace z:=zc (z.out.below X)
 have ay:=zc (aJ.out.below X)
 have aC:=zc (ao.out.later X)
 clear X aJ ao
 clear U Z O N a4 a5 V a7 Q a9 I J af
 obtain⟨U,Z,O,N,a4,a5,V,a7,Q,a9,I,J,af⟩:=o.out.box
 go_wp2_with fail
 refine (zbz (Cx.mk E j false) M H D (.ok q) S q (-1) 0 false _ (zab q) aC.out).mono ?_
 rintro e w7 ⟨S7,q7,z7,n7,rfl,i7,m7,s7⟩
 replace o:=zc (o.out.stp s7)
 replace z:=zc (z.out.stp s7)
 have aw:=zc (ay.out.step s7)
 clear ay
 have ap:=zc m7
 have aG:=zc i7
 clear i7 m7 s7 aC
 clear U Z O N a4 a5 V a7 Q a9 I J af
 have bc:w.heap.size+1<w7.heap.size:=z.out.lt
 unfold pv
 go_upto_region 19 with fail
 refine zQ (R:=fun W=>Bx M S7 W (w.heap.size) _∧Bx M S7 W (w.heap.size+1) _∧Bx M S7 W (w7.heap.size) _∧Mem (Cx.mk E j false) M H D S7 q7 W∧SB w.heap.size S w S7 W) ⟨(o.out.alloc _),(z.out.alloc _),(Bx.new ap.out _),(ap.out.alloc _),(aw.out.alloc _)⟩ ?_
 clear o z aw ap
 rintro w8 ⟨X0,X1,X2,m8,t8⟩
 have o:=zc X0
 have z:=zc X1
 have L:=zc X2
 have aE:=zc m8
 have aR:=zc t8
 clear m8 t8 X0 X1 X2
 obtain⟨c0,c1,c2,c3,c4,c5,c6,c7,c8,c9,bb,aY,cf⟩:=L.out.box
 go_wp2_with fail
 refine (zah (Cx.mk E j false) M H D _ S7 q7 z7 0 cEq _ aG.out.fst aE.out).mono ?_
 rintro e w9 ⟨S9,q9,z9,rfl,i9,m9,s9⟩
 replace o:=zc (o.out.stp s9)
 replace z:=zc (z.out.stp s9)
 replace L:=zc (L.out.stp s9)
 have aQ:=zc (aR.out.step s9)
 clear aR
 have aS:=zc m9
 have aV:=zc i9
 clear i9 m9 s9 aE
 clear c0 c1 c2 c3 c4 c5 c6 c7 c8 c9 bb aY cf
 go_wp2_with fail
 refine (zdp (Cx.mk E j false) M H D _ S9 q9 z9 _ aV.out aS.out).mono ?_
 rintro e bj ⟨aU,aZ,aT,rfl,aF,av,ac⟩
 replace o:=zc (o.out.stp ac)
 replace z:=zc (z.out.stp ac)
 replace L:=zc (L.out.stp ac)
 have ah:=zc (aQ.out.step ac)
 clear aQ
 have aj:=zc av
 have ax:=zc aF
 clear aF av ac aS
 go_wp2_with fail
 refine (zah (Cx.mk E j false) M H D _ aU aZ aT 0 cSemi _ ax.out aj.out).mono ?_
 rintro e bk ⟨aX,ba,aW,rfl,aM,aB,ae⟩
 replace o:=zc (o.out.stp ae)
 replace z:=zc (z.out.stp ae)
 replace L:=zc (L.out.stp ae)
 have ai:=zc (ah.out.step ae)
 clear ah
 have am:=zc aB
 have ak:=zc aM
 clear aM aB ae aj
 go_wp2_with fail
 refine (zcY (Cx.mk E j false) M H D _ aX ba aW 0 3 n7 _ ak.out am.out (zb5 ak.out)).mono ?_
 rintro e bg ⟨bo,be,bi,rfl,aN,aI,aa⟩
 replace o:=zc (o.out.stp aa)
 replace z:=zc (z.out.stp aa)
 replace L:=zc (L.out.stp aa)
 have aK:=zc (ai.out.step aa)
 clear ai
 have aA:=zc aI
 have aO:=zc aN
 clear aN aI aa am
 obtain⟨b0,b1,b2,b3,b4,b5,b6,b7,b8,b9,bm,bl,bf⟩:=z.out.box
 unfold pv
 go_wp2
 refine bodyPost_ret (results_cell_row rfl _ _ (w.heap.size+1) 55 _ (0,0) _ rfl ((z.out.put ..)).heap Tryz.underlying55 rfl (by kernel_rfl)) rfl ?_
 rw[HV.out,←aG.out.bind (fun q n=>bd (bd (bd (bd (.ok q) (zd (Cx.mk E j false) 4 cEq)) (pE (Cx.mk E j false) .sum 0)) (zd (Cx.mk E j false) 4 cSemi)) (zE (Cx.mk E j false) 3 n)),←zmK]
 exact zac rfl aO.out (aA.out.put z.out ..) (aK.out.put (by omega) ..)
theorem zvz (D:List Tk) (j:Nat) (E z o:Nat) (S:Sv) (q:PS) (w:World) (H:Mem (Cx.mk D j false) E z o S q w):
  Calls Tryz.prog 21 #[pv (Cx.mk D j false) E z S q (-1) 0] w (Out (Cx.mk D j false) E z o (zo (Cx.mk D j false) q) 0 S w):=by
 cases I:isT (Cx.mk D j false) q.pos 1 sImport with
 |true=>exact zvs D j E z o S q w H I
 |false=>
  cases J:isT (Cx.mk D j false) q.pos 1 sExport with
  |true=>exact zvt D j E z o S q w H I J
  |false=>
   cases K:isT (Cx.mk D j false) q.pos 1 sLet with
   |true=>exact zvu D j E z o S q w H I J K
   |false=>
    cases L:isT (Cx.mk D j false) q.pos 1 sFunction with
    |true=>exact zvv D j E z o S q w H I J K L
    |false=>
     cases M:isT (Cx.mk D j false) q.pos 1 sPrint with
     |true=>exact zvw D j E z o S q w H I J K L M
     |false=>
      cases N:isT (Cx.mk D j false) q.pos 1 sThrow with
      |true=>exact zvx D j E z o S q w H I J K L M N
      |false=>
       exact zvy D j E z o S q w H I J K L M N
theorem zv0 (C:Cx) (D o j:Nat) (S:Sv) (q:PS) (w:World) (H:Mem C D o j S q w):
  Calls Tryz.prog 21 #[pv C D o S q (-1) 0] w (Out C D o j (zo C q) 0 S w):=by
 obtain⟨I,z,E⟩:=C
 cases E with
 |true=>exact zvr I z D o j S q w H
 |false=>exact zvz I z D o j S q w H
theorem zmL (s:ByteArray) (scr:Bool) (w:World) (hs:s.size≤4294967296):
  Calls Tryz.prog 7 #[.string s,.bool scr] w fun e w'=>ParseOut s scr w e w'∧Below w.heap.size w w':=by
 obtain⟨i0,hi,ay,ap,ar⟩:=info_parts Tryz.infoExp
 go_enter Tryz.func7,Tryz.ntmps7
 go_wp2_with fail
 refine (zjN s scr _ hs).mono ?_
 rintro e V ⟨⟨r1,Q,N⟩,b1⟩
 have ac:Hid (Below w.heap.size w V):=((Below.refl _ _).alloc (Nat.le_refl _) _).trans (b1.mono (by rw[zW];omega))
 have hG:V.heap[w.heap.size]? =some (.cells #[.slice none 0 0,.slice none 0 0,.slice none 0 0,.slice none 0 0,.slice none 0 0] 32 (0,0)):=(b1.block _ (by rw[zW];omega)).trans (heap_alloc_new w _)
 rw[zW] at b1
 cases r1 with
 |error p=>
  obtain⟨g,O,rfl,o⟩:=N
  have HY:Hid (za8 s scr (.error p)):=⟨_,Q,rfl⟩
  have HG:=zc hG
  obtain⟨c0,c1,c2,c3,c4,cf⟩:=zaa hG
  have dz:decide ((0:Int)≤(p:Int))=true:=decide_eq_true (by omega)
  clear o Q b1 hG
  go_wp2
  refine bodyPost_ret (zaK rfl _ _ w.heap.size 32 _ (0,0) _ rfl (zei HG.out) Tryz.underlying32 rfl (by kernel_rfl)) rfl ?_
  exact⟨⟨_,HY.out,rfl⟩,zej ac.out (Nat.le_refl _) _ _ _ _ _⟩
 |ok z=>
  obtain⟨g,n,O,rfl,o⟩:=N
  obtain rfl:n=z.length:=o.2
  rw[zW] at o
  have an:w.heap.size+1≤V.heap.size:=by have:=b1.size;rw[zW] at this;exact this
  have aj:=zg0 Q
  have HR:=zc Q
  have ak:Mem ⟨z,s.size,scr⟩ g O (w.heap.size+1) S0 startP V:=zjC o aj an
  have ai:=zc ak
  have HG:=zc hG
  clear o Q ak hG
  go_wp2
  go_loopg [] (z.length+1) (fun k wr=>∃(x':PR) (E:Sv) (U:PS) (z':Int),Is x' U z'∧bd x' (zM ⟨z,s.size,scr⟩)=zM ⟨z,s.size,scr⟩ startP∧(z'<0→z.length-U.pos<k)∧Mem ⟨z,s.size,scr⟩ g O (w.heap.size+1) E U wr∧Below w.heap.size w wr∧Bx g E wr V.heap.size #[.slice (some ⟨g,0,none⟩) z.length O,.int .i64 U.pos,.int .i64 s.size,.bool scr,.slice E.rq.a U.rq.length E.rq.cap,.slice E.im.a U.im.length E.im.cap,.slice E.ep.a U.ep.length E.ep.cap,.slice E.st.a U.st.length E.st.cap,.slice E.ex.a U.ex.length E.ex.cap,.slice E.la.a U.la.length E.la.cap,.int .i64 z',.int .i64 0]∧wr.heap[w.heap.size]? =some (.cells #[.slice none 0 0,.slice none 0 0,.slice none 0 0,.slice none 0 0,.slice none 0 0] 32 (0,0)))
  case atStart=>exact⟨.ok startP,S0,startP,-1,zab _,rfl,fun _=>by show z.length-0<z.length+1;omega,ai.out.alloc _,ac.out.alloc ac.out.size _,Bx.new ai.out _,(Below.heap_alloc _ _ _ (by omega)).trans HG.out⟩
  case round=>
   obtain⟨x2,S2,J,z2,i2,e2,l2,m2,t2,X0,G2⟩:=hrel
   have ae:=zc i2
   have ad:=zc e2
   have ao:=zc l2
   have j:=zc m2
   have Y:=zc t2
   have K:=zc X0
   have H:=zc G2
   have aB:J.pos≤z.length:=m2.inv.pos
   obtain⟨a0,a1,a2,a3,a4,a5,a6,a7,a8,a9,aa,ab,af⟩:=X0.box
   clear i2 e2 l2 m2 t2 X0 G2
   by_cases hz:z2<0
   ·have dz:decide (z2<0)=true:=decide_eq_true hz
    obtain⟨rfl,rfl⟩:=zaF ae.out hz
    by_cases hp:J.pos<z.length
    ·have aC:=ao.out hz
     go_wp2_with fail
     refine (zv0 ⟨z,s.size,scr⟩ g O (w.heap.size+1) S2 J _ j.out).mono ?_
     rintro e w3 ⟨S3,q3,z3,rfl,i3,m3,s3⟩
     have aq:=zc m3
     have am:=zc i3
     have X:Hid (Below (w.heap.size+1) wr w3):=s3.under j.out.base j.out.own
     have L:Hid (Bx g S3 w3 V.heap.size _):=K.out.stp s3
     have av:Hid (Below w.heap.size w w3):=Y.out.trans (X.out.mono (by omega))
     have Z:Hid (w3.heap[w.heap.size]? =some (.cells #[.slice none 0 0,.slice none 0 0,.slice none 0 0,.slice none 0 0,.slice none 0 0] 32 (0,0))):=(X.out.block _ (by omega)).trans H.out
     have HE:Hid (bd (zo ⟨z,s.size,scr⟩ J) (zM ⟨z,s.size,scr⟩)=zM ⟨z,s.size,scr⟩ startP):=by
      show _=_
      rw[←ad.out,zh,zeQ,if_pos hp]
     have HP:Hid (z3<0→J.pos<q3.pos):=fun h=>zgz (zaF am.out h).1
     clear i3 m3 s3 a0 a1 a2 a3 a4 a5 a6 a7 a8 a9 aa ab af
     obtain⟨a0,a1,a2,a3,a4,a5,a6,a7,a8,a9,aa,ab,af⟩:=L.out.box
     unfold pv
     go_wp2
     go_roundg (gk-1)
     case rel=>exact⟨_,S3,q3,z3,am.out,HE.out,fun h=>by have:=HP.out h;omega,aq.out.put L.out _ _ _ _ _ _ _ _ _ _ _ _,zbX av.out (by omega) _ _ _ _ _ _ _ _ _ _ _ _,L.out.put _ _ _ _ _ _ _ _ _ _ _ _,(zgi (by omega) ..).trans Z.out⟩
     case measure=>omega
    ·have HD:Hid (zM ⟨z,s.size,scr⟩ startP= .ok J):=by
      show _=_
      rw[←ad.out,zh,zeQ,if_neg hp]
     have HY:Hid (za8 s scr (.ok J)):=⟨_,HR.out,HD.out.symm⟩
     have ah:V.heap.size<wr.heap.size:=K.out.lt
     have az:=j.out.inv.ep
     have D:=j.out.own.ep
     have X:=j.out.base
     rcases j.out.own.la.nil_or with ⟨ha,hc,hn⟩|⟨gl,ha⟩
     ·have HN:Hid (J.la=[]):=List.eq_nil_of_length_eq_zero hn
      rw[ha,hc,hn] at a9
      obtain⟨c0,c1,c2,c3,c4,cf⟩:=zaa H.out
      clear ha hc hn
      go_wp2_with (at_builtin;refine znY _ rfl _ _ 28 rfl 77 i0 Tryz.underlying28 hi (w.heap.size+1) 4 J.ep.length S2.ep _ (by rfl) D (by rfl) ?_)
      clear D
      go_wp2
      refine bodyPost_ret (zaK rfl _ _ w.heap.size 32 _ (0,0) _ rfl (zei ((zx (by omega)).trans H.out)) Tryz.underlying32 rfl (by kernel_rfl)) rfl ?_
      refine⟨⟨_,HY.out,S2,by simp[zg1,HN.out],j.out.whole0 HN.out (Nat.lt_succ_self _) K.out.free fun k M h2=>?_⟩,zej (Y.out.setCell (by show _≤V.heap.size;omega) _) (Nat.le_refl _) _ _ _ _ _⟩
      rw[zx M,zx M,zx M,zx M,zx M,zx h2]
     ·have ag:OwnR wr (w.heap.size+1) 77 4 ⟨some ⟨gl,0,none⟩,S2.la.cap⟩ J.la.length (J.la.flatMap epL):=by have:=j.out.own.la;unfold OwnR at this ⊢;rw[ha] at this;exact this
      rw[ha] at a9
      go_wp2_with (at_builtin;refine znX _ rfl _ _ 28 rfl (w.heap.size+1) 77 i0 _ 4 56 Tryz.underlying28 hi ay ap ar rfl (by decide) (by decide) S2.ep J.ep.length _ (by rfl) D gl J.la.length S2.la.cap (w.heap.size+1) _ (by rfl) ag (zhJ _) (by omega) X ?_)
      intro r' w3 hr hg al
      have aw:=zc hr
      have I:=zc hg
      have au:=zc al
      have ax:=fun b hb=>zep (W:=wr) j.out.own (Nat.le_refl _) (r:=S2.ep.blk) (fun k e=>.inr (.inr (.inl e))) b hb
      have L:Hid (w3.heap[V.heap.size]? =_):=(hg.block _ ah (fun e=>K.out.free (.inr (.inr (.inl e.symm))))).trans K.out.heap
      have Z:Hid (w3.heap[w.heap.size]? =_):=(hg.block _ (by omega) (fun e=>by have:=(D.typed e.symm).1;omega)).trans H.out
      clear a0 a1 a2 a3 a4 a5 a6 a7 a8 a9 aa ab af hr hg al ax D ag
      obtain⟨a0,a1,a2,a3,a4,a5,a6,a7,a8,a9,aa,ab,af⟩:=zao L.out
      obtain⟨c0,c1,c2,c3,c4,cf⟩:=zaa Z.out
      go_wp2
      refine bodyPost_ret (zaK rfl _ _ w.heap.size 32 _ (0,0) _ rfl (zei ((zx (by omega)).trans Z.out)) Tryz.underlying32 rfl (by kernel_rfl)) rfl ?_
      refine⟨⟨_,HY.out,{S2 with ep:=r'},by simp[zg1],j.out.whole I.out aw.out au.out (Nat.lt_succ_self _) ah K.out.free fun k M h2=>?_⟩,zej ((Y.out.trans (Below.mono (B:=w.heap.size+1) ⟨I.out.os,I.out.tape,I.out.output,I.out.size,fun k hk=>I.out.block k (by omega) fun e=>by have:=(j.out.own.ep.typed e.symm).1;omega⟩ (by omega))).setCell (by show _≤V.heap.size;omega) _) (Nat.le_refl _) _ _ _ _ _⟩
      rw[zx M,zx M,zx M,zx M,zx M,zx h2]
   ·have dz:decide (z2<0)=false:=decide_eq_false hz
    obtain⟨e0,rfl,rfl⟩:=zd2 ae.out hz
    have aA:decide ((0:Int)≤(e0:Int))=true:=decide_eq_true (by omega)
    have HY:Hid (za8 s scr (.error e0)):=⟨_,HR.out,(show (.error e0:PR)=zM ⟨z,s.size,scr⟩ startP from ad.out)⟩
    obtain⟨c0,c1,c2,c3,c4,cf⟩:=zaa H.out
    go_wp2
    go_region
    all_goals
     go_wp2
     refine bodyPost_ret (zaK rfl _ _ w.heap.size 32 _ (0,0) _ rfl (zei H.out) Tryz.underlying32 rfl (by kernel_rfl)) rfl ?_
     exact⟨⟨_,HY.out,rfl⟩,(zej Y.out (Nat.le_refl _) ..).drew⟩
theorem zmM (a:Option Addr) (j o:Nat) (w:World) (_:j≤9223372036854775807):
  Calls Tryz.prog 4 #[.slice a j o] w fun e z=>e= .returned (.bool (decide ((1048576:Int)<j)))∧z=w:=by
 go_enter Tryz.func4,Tryz.ntmps4
 go_wp2
 go_ret
 exact⟨rfl,rfl⟩
end Go.Proofs.YthfeoomfiafldaaGreat
