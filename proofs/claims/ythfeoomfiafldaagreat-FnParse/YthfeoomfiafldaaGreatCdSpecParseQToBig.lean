/-
  What spec's l4Item answers outside of a script: the walks.
  What spec.Parse answers: the walk.
  What laws.big answers: the walk.
-/
import Derived.Test.YthfeoomfiafldaaGreatCdSpecParseMToSpecParseP
namespace Go.Proofs.YthfeoomfiafldaaGreat
set_option maxRecDepth 100000
set_option maxHeartbeats 6400000
open Go.RowKit Go.PlainAid
theorem zvs (D:List Tk) (j:Nat) (L z o:Nat) (S:Sv) (q:PS) (w:World) (Q:Mem (Cx.mk D j false) L z o S q w) (Y:isT (Cx.mk D j false) q.pos 1 sImport=true):
  Calls Tryz.prog 21 #[pv (Cx.mk D j false) L z S q (-1) 0] w (Out (Cx.mk D j false) L z o (zo (Cx.mk D j false) q) 0 S w):=by
 have HM:=zc Q
 have H:=Q.tok
 have J:(Cx.mk D j false).ts.length≤4000:=Q.few
 clear Q
 have HV:Hid (zo (Cx.mk D j false) q=za3 (Cx.mk D j false) q):=by show zo (Cx.mk D j false) q=_;rw[zo,Y];rfl
 unfold pv
 go_enter Tryz.func21,Tryz.ntmps21
 go_wp2_with fail
 refine (zj (Cx.mk D j false) L z o S q (-1) 0 1 sImport _ (zv (zv H _) _) J (by decide)).mono ?_
 rintro e w1 ⟨rfl,N⟩
 rw[Y]
 obtain⟨X0,X1,m1,t1⟩:=HM.out.two N
 have I:=zc X0
 have E:=zc X1
 have K:=zc m1
 have M:=zc t1
 clear X0 X1 m1 t1 N
 clear H
 obtain⟨a0,a1,a2,a3,a4,a5,a6,a7,a8,a9,Z,X,af⟩:=I.out.box
 go_wp2_with fail
 refine (zvj (Cx.mk D j false) L z o S q _ K.out Y).mono ?_
 rintro e w2 ⟨S2,q2,z2,rfl,i2,m2,O⟩
 replace I:=zc (I.out.stp O)
 replace E:=zc (E.out.stp O)
 have V:=zc (M.out.step O)
 clear M
 have aa:=zc m2
 have U:=zc i2
 clear i2 m2 O K
 clear a0 a1 a2 a3 a4 a5 a6 a7 a8 a9 Z X af
 obtain⟨b0,b1,b2,b3,b4,b5,b6,b7,b8,b9,ac,ab,bf⟩:=E.out.box
 unfold pv
 go_wp2
 refine bodyPost_ret (results_cell_row rfl _ _ (w.heap.size+1) 55 _ (0,0) _ rfl ((E.out.put ..)).heap Tryz.underlying55 rfl (by kernel_rfl)) rfl ?_
 rw[HV.out]
 exact zac rfl U.out (aa.out.put E.out ..) (V.out.put (by omega) ..)
theorem zvt (H:List Tk) (j:Nat) (O D o:Nat) (S:Sv) (q:PS) (w:World) (Y:Mem (Cx.mk H j false) O D o S q w) (h0:isT (Cx.mk H j false) q.pos 1 sImport=false) (h1:isT (Cx.mk H j false) q.pos 1 sExport=true):
  Calls Tryz.prog 21 #[pv (Cx.mk H j false) O D S q (-1) 0] w (Out (Cx.mk H j false) O D o (zo (Cx.mk H j false) q) 0 S w):=by
 have HM:=zc Y
 have K:=Y.tok
 have J:(Cx.mk H j false).ts.length≤4000:=Y.few
 clear Y
 have HV:Hid (zo (Cx.mk H j false) q=zV (Cx.mk H j false) q):=by show zo (Cx.mk H j false) q=_;rw[zo,h0,h1];rfl
 unfold pv
 go_enter Tryz.func21,Tryz.ntmps21
 go_wp2_with fail
 refine (zj (Cx.mk H j false) O D o S q (-1) 0 1 sImport _ (zv (zv K _) _) J (by decide)).mono ?_
 rintro e w1 ⟨rfl,V⟩
 rw[h0]
 obtain⟨X0,X1,m1,t1⟩:=HM.out.two V
 have E:=zc X0
 have z:=zc X1
 have N:=zc m1
 have U:=zc t1
 clear X0 X1 m1 t1 V
 clear K
 obtain⟨a0,a1,a2,a3,a4,a5,a6,a7,a8,a9,M,L,af⟩:=E.out.box
 go_wp2_with fail
 refine (zj (Cx.mk H j false) O D o S q (-1) 0 1 sExport _ N.out.tok J (by decide)).mono ?_
 rintro e w2 ⟨rfl,I⟩
 rw[h1]
 replace E:=zc (E.out.below I)
 replace z:=zc (z.out.below I)
 have Q:=zc (U.out.below I)
 have X:=zc (N.out.later I)
 clear I U N
 clear a0 a1 a2 a3 a4 a5 a6 a7 a8 a9 M L af
 obtain⟨a0,a1,a2,a3,a4,a5,a6,a7,a8,a9,M,L,af⟩:=E.out.box
 go_wp2_with fail
 refine (zvk (Cx.mk H j false) O D o S q _ X.out h1).mono ?_
 rintro e w3 ⟨S3,q3,z3,rfl,i3,m3,Z⟩
 replace E:=zc (E.out.stp Z)
 replace z:=zc (z.out.stp Z)
 have aa:=zc (Q.out.step Z)
 clear Q
 have ac:=zc m3
 have ab:=zc i3
 clear i3 m3 Z X
 clear a0 a1 a2 a3 a4 a5 a6 a7 a8 a9 M L af
 obtain⟨b0,b1,b2,b3,b4,b5,b6,b7,b8,b9,ae,ad,bf⟩:=z.out.box
 unfold pv
 go_wp2
 refine bodyPost_ret (results_cell_row rfl _ _ (w.heap.size+1) 55 _ (0,0) _ rfl ((z.out.put ..)).heap Tryz.underlying55 rfl (by kernel_rfl)) rfl ?_
 rw[HV.out]
 exact zac rfl ab.out (ac.out.put z.out ..) (aa.out.put (by omega) ..)
theorem zvu (H:List Tk) (j:Nat) (K E D:Nat) (S:Sv) (q:PS) (w:World) (hm:Mem (Cx.mk H j false) K E D S q w) (h0:isT (Cx.mk H j false) q.pos 1 sImport=false) (h1:isT (Cx.mk H j false) q.pos 1 sExport=false) (h2:isT (Cx.mk H j false) q.pos 1 sLet=true):
  Calls Tryz.prog 21 #[pv (Cx.mk H j false) K E S q (-1) 0] w (Out (Cx.mk H j false) K E D (zo (Cx.mk H j false) q) 0 S w):=by
 have HM:=zc hm
 have O:=hm.tok
 have L:(Cx.mk H j false).ts.length≤4000:=hm.few
 clear hm
 have HV:Hid (zo (Cx.mk H j false) q=za7 (zbA (Cx.mk H j false) q)):=by show zo (Cx.mk H j false) q=_;rw[zo,h0,h1,h2];rfl
 unfold pv
 go_enter Tryz.func21,Tryz.ntmps21
 go_wp2_with fail
 refine (zj (Cx.mk H j false) K E D S q (-1) 0 1 sImport _ (zv (zv O _) _) L (by decide)).mono ?_
 rintro e w1 ⟨rfl,aa⟩
 rw[h0]
 obtain⟨X0,X1,m1,t1⟩:=HM.out.two aa
 have z:=zc X0
 have o:=zc X1
 have U:=zc m1
 have ae:=zc t1
 clear X0 X1 m1 t1 aa
 clear O
 obtain⟨a0,a1,X,Y,a4,a5,a6,a7,a8,a9,J,M,af⟩:=z.out.box
 go_wp2_with fail
 refine (zj (Cx.mk H j false) K E D S q (-1) 0 1 sExport _ U.out.tok L (by decide)).mono ?_
 rintro e w2 ⟨rfl,N⟩
 rw[h1]
 replace z:=zc (z.out.below N)
 replace o:=zc (o.out.below N)
 have Z:=zc (ae.out.below N)
 have V:=zc (U.out.later N)
 clear N ae U
 clear a0 a1 X Y a4 a5 a6 a7 a8 a9 J M af
 obtain⟨a0,a1,X,Y,a4,a5,a6,a7,a8,a9,J,M,af⟩:=z.out.box
 go_wp2_with fail
 refine (zj (Cx.mk H j false) K E D S q (-1) 0 1 sLet _ V.out.tok L (by decide)).mono ?_
 rintro e w3 ⟨rfl,I⟩
 rw[h2]
 replace z:=zc (z.out.below I)
 replace o:=zc (o.out.below I)
 have ac:=zc (Z.out.below I)
 have ab:=zc (V.out.later I)
 clear I Z V
 clear a0 a1 X Y a4 a5 a6 a7 a8 a9 J M af
 obtain⟨a0,a1,X,Y,a4,a5,a6,a7,a8,a9,J,M,af⟩:=z.out.box
 go_wp2_with fail
 refine (zji (Cx.mk H j false) K E D S q _ ab.out).mono ?_
 rintro e w4 ⟨S4,q4,z4,n4,rfl,i4,m4,s4⟩
 replace z:=zc (z.out.stp s4)
 replace o:=zc (o.out.stp s4)
 have ad:=zc (ac.out.step s4)
 clear ac
 have Q:=zc m4
 have aj:=zc i4
 clear i4 m4 s4 ab
 clear a0 a1 X Y a4 a5 a6 a7 a8 a9 J M af
 have ak:w.heap.size+1<w4.heap.size:=o.out.lt
 unfold pv
 go_upto_region 7 with fail
 refine zQ (R:=fun W=>Bx K S4 W (w.heap.size) _∧Bx K S4 W (w.heap.size+1) _∧Bx K S4 W (w4.heap.size) _∧Mem (Cx.mk H j false) K E D S4 q4 W∧SB w.heap.size S w S4 W) ⟨(z.out.alloc _),(o.out.alloc _),(Bx.new Q.out _),(Q.out.alloc _),(ad.out.alloc _)⟩ ?_
 clear z o ad Q
 rintro w5 ⟨X0,X1,X2,m5,t5⟩
 have z:=zc X0
 have o:=zc X1
 have ah:=zc X2
 have ai:=zc m5
 have ag:=zc t5
 clear m5 t5 X0 X1 X2
 obtain⟨b0,b1,b2,b3,b4,b5,b6,b7,b8,b9,al,an,bf⟩:=o.out.box
 obtain⟨c0,c1,c2,c3,c4,c5,c6,c7,c8,c9,ao,am,cf⟩:=ah.out.box
 go_wp2
 refine bodyPost_ret (results_cell_row rfl _ _ (w.heap.size+1) 55 _ (0,0) _ rfl ((o.out.put ..)).heap Tryz.underlying55 rfl (by kernel_rfl)) rfl ?_
 rw[HV.out]
 exact zac rfl aj.out.fst (ai.out.put o.out ..) (ag.out.put (by omega) ..)
theorem zvv (H:List Tk) (j:Nat) (L E D:Nat) (S:Sv) (q:PS) (w:World) (hm:Mem (Cx.mk H j false) L E D S q w) (h0:isT (Cx.mk H j false) q.pos 1 sImport=false) (h1:isT (Cx.mk H j false) q.pos 1 sExport=false) (h2:isT (Cx.mk H j false) q.pos 1 sLet=false) (h3:isT (Cx.mk H j false) q.pos 1 sFunction=true):
  Calls Tryz.prog 21 #[pv (Cx.mk H j false) L E S q (-1) 0] w (Out (Cx.mk H j false) L E D (zo (Cx.mk H j false) q) 0 S w):=by
 have HM:=zc hm
 have Q:=hm.tok
 have K:(Cx.mk H j false).ts.length≤4000:=hm.few
 clear hm
 have HV:Hid (zo (Cx.mk H j false) q=za7 (fnP (Cx.mk H j false) q)):=by show zo (Cx.mk H j false) q=_;rw[zo,h0,h1,h2,h3];rfl
 unfold pv
 go_enter Tryz.func21,Tryz.ntmps21
 go_wp2_with fail
 refine (zj (Cx.mk H j false) L E D S q (-1) 0 1 sImport _ (zv (zv Q _) _) K (by decide)).mono ?_
 rintro e w1 ⟨rfl,ag⟩
 rw[h0]
 obtain⟨X0,X1,m1,t1⟩:=HM.out.two ag
 have o:=zc X0
 have z:=zc X1
 have ab:=zc m1
 have ak:=zc t1
 clear X0 X1 m1 t1 ag
 clear Q
 obtain⟨a0,a1,U,V,X,a5,a6,Z,a8,a9,I,J,af⟩:=o.out.box
 go_wp2_with fail
 refine (zj (Cx.mk H j false) L E D S q (-1) 0 1 sExport _ ab.out.tok K (by decide)).mono ?_
 rintro e w2 ⟨rfl,O⟩
 rw[h1]
 replace o:=zc (o.out.below O)
 replace z:=zc (z.out.below O)
 have ae:=zc (ak.out.below O)
 have ac:=zc (ab.out.later O)
 clear O ak ab
 clear a0 a1 U V X a5 a6 Z a8 a9 I J af
 obtain⟨a0,a1,U,V,X,a5,a6,Z,a8,a9,I,J,af⟩:=o.out.box
 go_wp2_with fail
 refine (zj (Cx.mk H j false) L E D S q (-1) 0 1 sLet _ ac.out.tok K (by decide)).mono ?_
 rintro e w3 ⟨rfl,M⟩
 rw[h2]
 replace o:=zc (o.out.below M)
 replace z:=zc (z.out.below M)
 have ah:=zc (ae.out.below M)
 have Y:=zc (ac.out.later M)
 clear M ae ac
 clear a0 a1 U V X a5 a6 Z a8 a9 I J af
 obtain⟨a0,a1,U,V,X,a5,a6,Z,a8,a9,I,J,af⟩:=o.out.box
 go_wp2_with fail
 refine (zj (Cx.mk H j false) L E D S q (-1) 0 1 sFunction _ Y.out.tok K (by decide)).mono ?_
 rintro e w4 ⟨rfl,N⟩
 rw[h3]
 replace o:=zc (o.out.below N)
 replace z:=zc (z.out.below N)
 have aj:=zc (ah.out.below N)
 have ai:=zc (Y.out.later N)
 clear N ah Y
 clear a0 a1 U V X a5 a6 Z a8 a9 I J af
 obtain⟨a0,a1,U,V,X,a5,a6,Z,a8,a9,I,J,af⟩:=o.out.box
 go_wp2_with fail
 refine (zjj (Cx.mk H j false) L E D S q _ ai.out).mono ?_
 rintro e w5 ⟨S5,q5,z5,n5,rfl,i5,m5,s5⟩
 replace o:=zc (o.out.stp s5)
 replace z:=zc (z.out.stp s5)
 have ad:=zc (aj.out.step s5)
 clear aj
 have aa:=zc m5
 have am:=zc i5
 clear i5 m5 s5 ai
 clear a0 a1 U V X a5 a6 Z a8 a9 I J af
 have ap:w.heap.size+1<w5.heap.size:=z.out.lt
 unfold pv
 go_upto_region 10 with fail
 refine zQ (R:=fun W=>Bx L S5 W (w.heap.size) _∧Bx L S5 W (w.heap.size+1) _∧Bx L S5 W (w5.heap.size) _∧Mem (Cx.mk H j false) L E D S5 q5 W∧SB w.heap.size S w S5 W) ⟨(o.out.alloc _),(z.out.alloc _),(Bx.new aa.out _),(aa.out.alloc _),(ad.out.alloc _)⟩ ?_
 clear o z ad aa
 rintro w6 ⟨X0,X1,X2,m6,t6⟩
 have o:=zc X0
 have z:=zc X1
 have al:=zc X2
 have an:=zc m6
 have ao:=zc t6
 clear m6 t6 X0 X1 X2
 obtain⟨b0,b1,b2,b3,b4,b5,b6,b7,b8,b9,aq,au,bf⟩:=z.out.box
 obtain⟨c0,c1,c2,c3,c4,c5,c6,c7,c8,c9,av,ar,cf⟩:=al.out.box
 go_wp2
 refine bodyPost_ret (results_cell_row rfl _ _ (w.heap.size+1) 55 _ (0,0) _ rfl ((z.out.put ..)).heap Tryz.underlying55 rfl (by kernel_rfl)) rfl ?_
 rw[HV.out]
 exact zac rfl am.out.fst (an.out.put z.out ..) (ao.out.put (by omega) ..)
theorem zvw (H:List Tk) (j:Nat) (K E D:Nat) (S:Sv) (q:PS) (w:World) (hm:Mem (Cx.mk H j false) K E D S q w) (h0:isT (Cx.mk H j false) q.pos 1 sImport=false) (h1:isT (Cx.mk H j false) q.pos 1 sExport=false) (h2:isT (Cx.mk H j false) q.pos 1 sLet=false) (h3:isT (Cx.mk H j false) q.pos 1 sFunction=false) (h4:isT (Cx.mk H j false) q.pos 1 sPrint=true):
  Calls Tryz.prog 21 #[pv (Cx.mk H j false) K E S q (-1) 0] w (Out (Cx.mk H j false) K E D (zo (Cx.mk H j false) q) 0 S w):=by
 have HM:=zc hm
 have ac:=hm.tok
 have L:(Cx.mk H j false).ts.length≤4000:=hm.few
 clear hm
 have HV:Hid (zo (Cx.mk H j false) q=bd (bd (bd (bd (bd (bd (.ok q) (zd (Cx.mk H j false) 1 sPrint)) (zd (Cx.mk H j false) 4 cOpen)) (pE (Cx.mk H j false) .sum 0)) (zd (Cx.mk H j false) 4 zU)) (zd (Cx.mk H j false) 4 cSemi)) (zE (Cx.mk H j false) 4 sNone)):=by show zo (Cx.mk H j false) q=_;rw[zo,h0,h1,h2,h3,h4];rfl
 unfold pv
 go_enter Tryz.func21,Tryz.ntmps21
 go_wp2_with fail
 refine (zj (Cx.mk H j false) K E D S q (-1) 0 1 sImport _ (zv (zv ac _) _) L (by decide)).mono ?_
 rintro e w1 ⟨rfl,ay⟩
 rw[h0]
 obtain⟨X0,X1,m1,t1⟩:=HM.out.two ay
 have o:=zc X0
 have z:=zc X1
 have ak:=zc m1
 have aJ:=zc t1
 clear X0 X1 m1 t1 ay
 clear ac
 obtain⟨a0,a1,Y,Z,a4,a5,a6,a7,a8,a9,I,J,af⟩:=o.out.box
 go_wp2_with fail
 refine (zj (Cx.mk H j false) K E D S q (-1) 0 1 sExport _ ak.out.tok L (by decide)).mono ?_
 rintro e w2 ⟨rfl,X⟩
 rw[h1]
 replace o:=zc (o.out.below X)
 replace z:=zc (z.out.below X)
 have au:=zc (aJ.out.below X)
 have al:=zc (ak.out.later X)
 clear X aJ ak
 clear a0 a1 Y Z a4 a5 a6 a7 a8 a9 I J af
 obtain⟨a0,a1,Y,Z,a4,a5,a6,a7,a8,a9,I,J,af⟩:=o.out.box
 go_wp2_with fail
 refine (zj (Cx.mk H j false) K E D S q (-1) 0 1 sLet _ al.out.tok L (by decide)).mono ?_
 rintro e w3 ⟨rfl,M⟩
 rw[h2]
 replace o:=zc (o.out.below M)
 replace z:=zc (z.out.below M)
 have aF:=zc (au.out.below M)
 have ah:=zc (al.out.later M)
 clear M au al
 clear a0 a1 Y Z a4 a5 a6 a7 a8 a9 I J af
 obtain⟨a0,a1,Y,Z,a4,a5,a6,a7,a8,a9,I,J,af⟩:=o.out.box
 go_wp2_with fail
 refine (zj (Cx.mk H j false) K E D S q (-1) 0 1 sFunction _ ah.out.tok L (by decide)).mono ?_
 rintro e w4 ⟨rfl,V⟩
 rw[h3]
 replace o:=zc (o.out.below V)
 replace z:=zc (z.out.below V)
 have aI:=zc (aF.out.below V)
 have aj:=zc (ah.out.later V)
 clear V aF ah
 clear a0 a1 Y Z a4 a5 a6 a7 a8 a9 I J af
 obtain⟨a0,a1,Y,Z,a4,a5,a6,a7,a8,a9,I,J,af⟩:=o.out.box
 go_wp2_with fail
 refine (zj (Cx.mk H j false) K E D S q (-1) 0 1 sPrint _ aj.out.tok L (by decide)).mono ?_
 rintro e w5 ⟨rfl,Q⟩
 rw[h4]
 replace o:=zc (o.out.below Q)
 replace z:=zc (z.out.below Q)
 have ao:=zc (aI.out.below Q)
 have aD:=zc (aj.out.later Q)
 clear Q aI aj
 clear a0 a1 Y Z a4 a5 a6 a7 a8 a9 I J af
 obtain⟨a0,a1,Y,Z,a4,a5,a6,a7,a8,a9,I,J,af⟩:=o.out.box
 go_wp2_with fail
 refine (zaT (Cx.mk H j false) K E D (.ok q) S q (-1) 0 sPrint _ (zab q) aD.out).mono ?_
 rintro e w6 ⟨S6,q6,z6,rfl,i6,m6,s6⟩
 replace o:=zc (o.out.stp s6)
 replace z:=zc (z.out.stp s6)
 have aC:=zc (ao.out.step s6)
 clear ao
 have aw:=zc m6
 have aO:=zc i6
 clear i6 m6 s6 aD
 clear a0 a1 Y Z a4 a5 a6 a7 a8 a9 I J af
 go_wp2_with fail
 refine (zah (Cx.mk H j false) K E D _ S6 q6 z6 0 cOpen _ aO.out aw.out).mono ?_
 rintro e w7 ⟨S7,q7,z7,rfl,i7,m7,s7⟩
 replace o:=zc (o.out.stp s7)
 replace z:=zc (z.out.stp s7)
 have an:=zc (aC.out.step s7)
 clear aC
 have ap:=zc m7
 have aP:=zc i7
 clear i7 m7 s7 aw
 go_wp2_with fail
 refine (zdp (Cx.mk H j false) K E D _ S7 q7 z7 _ aP.out ap.out).mono ?_
 rintro e w8 ⟨S8,q8,z8,rfl,i8,m8,s8⟩
 replace o:=zc (o.out.stp s8)
 replace z:=zc (z.out.stp s8)
 have aE:=zc (an.out.step s8)
 clear an
 have aH:=zc m8
 have aM:=zc i8
 clear i8 m8 s8 ap
 go_wp2_with fail
 refine (zah (Cx.mk H j false) K E D _ S8 q8 z8 0 zU _ aM.out aH.out).mono ?_
 rintro e w9 ⟨S9,q9,z9,rfl,i9,m9,s9⟩
 replace o:=zc (o.out.stp s9)
 replace z:=zc (z.out.stp s9)
 have aA:=zc (aE.out.step s9)
 clear aE
 have ai:=zc m9
 have aT:=zc i9
 clear i9 m9 s9 aH
 have aU:w.heap.size+1<w9.heap.size:=z.out.lt
 unfold pv
 go_upto_region 13 with fail
 refine zQ (R:=fun W=>Bx K S9 W (w.heap.size) _∧Bx K S9 W (w.heap.size+1) _∧Bx K S9 W (w9.heap.size) _∧Mem (Cx.mk H j false) K E D S9 q9 W∧SB w.heap.size S w S9 W) ⟨(o.out.alloc _),(z.out.alloc _),(Bx.new ai.out _),(ai.out.alloc _),(aA.out.alloc _)⟩ ?_
 clear o z aA ai
 rintro aZ ⟨X0,X1,X2,av,aG⟩
 have o:=zc X0
 have z:=zc X1
 have N:=zc X2
 have ad:=zc av
 have ae:=zc aG
 clear av aG X0 X1 X2
 obtain⟨c0,c1,c2,c3,c4,c5,c6,c7,c8,c9,aQ,aN,cf⟩:=N.out.box
 go_wp2_with fail
 refine (zah (Cx.mk H j false) K E D _ S9 q9 z9 0 cSemi _ aT.out ad.out).mono ?_
 rintro e aV ⟨aS,aL,aR,rfl,ar,aq,O⟩
 replace o:=zc (o.out.stp O)
 replace z:=zc (z.out.stp O)
 replace N:=zc (N.out.stp O)
 have ab:=zc (ae.out.step O)
 clear ae
 have ag:=zc aq
 have aa:=zc ar
 clear ar aq O ad
 clear c0 c1 c2 c3 c4 c5 c6 c7 c8 c9 aQ aN cf
 go_wp2_with fail
 refine (zcY (Cx.mk H j false) K E D _ aS aL aR 0 4 sNone _ aa.out ag.out (zb5 aa.out)).mono ?_
 rintro e aY ⟨aX,bb,bc,rfl,am,aK,U⟩
 replace o:=zc (o.out.stp U)
 replace z:=zc (z.out.stp U)
 replace N:=zc (N.out.stp U)
 have az:=zc (ab.out.step U)
 clear ab
 have ax:=zc aK
 have aB:=zc am
 clear am aK U ag
 obtain⟨b0,b1,b2,b3,b4,b5,b6,b7,b8,b9,aW,ba,bf⟩:=z.out.box
 unfold pv
 go_wp2
 refine bodyPost_ret (results_cell_row rfl _ _ (w.heap.size+1) 55 _ (0,0) _ rfl ((z.out.put ..)).heap Tryz.underlying55 rfl (by kernel_rfl)) rfl ?_
 rw[HV.out]
 exact zac rfl aB.out (ax.out.put z.out ..) (az.out.put (by omega) ..)
theorem zvx (H:List Tk) (j:Nat) (L E D:Nat) (S:Sv) (q:PS) (w:World) (hm:Mem (Cx.mk H j false) L E D S q w) (h0:isT (Cx.mk H j false) q.pos 1 sImport=false) (h1:isT (Cx.mk H j false) q.pos 1 sExport=false) (h2:isT (Cx.mk H j false) q.pos 1 sLet=false) (h3:isT (Cx.mk H j false) q.pos 1 sFunction=false) (h4:isT (Cx.mk H j false) q.pos 1 sPrint=false) (h5:isT (Cx.mk H j false) q.pos 1 sThrow=true):
  Calls Tryz.prog 21 #[pv (Cx.mk H j false) L E S q (-1) 0] w (Out (Cx.mk H j false) L E D (zo (Cx.mk H j false) q) 0 S w):=by
 have HM:=zc hm
 have ac:=hm.tok
 have K:(Cx.mk H j false).ts.length≤4000:=hm.few
 clear hm
 have HV:Hid (zo (Cx.mk H j false) q=bd (bd (bd (bd (.ok q) (zd (Cx.mk H j false) 1 sThrow)) (pE (Cx.mk H j false) .sum 0)) (zd (Cx.mk H j false) 4 cSemi)) (zE (Cx.mk H j false) 5 sNone)):=by show zo (Cx.mk H j false) q=_;rw[zo,h0,h1,h2,h3,h4,h5];rfl
 unfold pv
 go_enter Tryz.func21,Tryz.ntmps21
 go_wp2_with fail
 refine (zj (Cx.mk H j false) L E D S q (-1) 0 1 sImport _ (zv (zv ac _) _) K (by decide)).mono ?_
 rintro e w1 ⟨rfl,aq⟩
 rw[h0]
 obtain⟨X0,X1,m1,t1⟩:=HM.out.two aq
 have o:=zc X0
 have z:=zc X1
 have ah:=zc m1
 have aE:=zc t1
 clear X0 X1 m1 t1 aq
 clear ac
 obtain⟨a0,a1,M,N,Q,a5,a6,X,Y,a9,I,J,af⟩:=o.out.box
 go_wp2_with fail
 refine (zj (Cx.mk H j false) L E D S q (-1) 0 1 sExport _ ah.out.tok K (by decide)).mono ?_
 rintro e w2 ⟨rfl,aa⟩
 rw[h1]
 replace o:=zc (o.out.below aa)
 replace z:=zc (z.out.below aa)
 have am:=zc (aE.out.below aa)
 have ai:=zc (ah.out.later aa)
 clear aa aE ah
 clear a0 a1 M N Q a5 a6 X Y a9 I J af
 obtain⟨a0,a1,M,N,Q,a5,a6,X,Y,a9,I,J,af⟩:=o.out.box
 go_wp2_with fail
 refine (zj (Cx.mk H j false) L E D S q (-1) 0 1 sLet _ ai.out.tok K (by decide)).mono ?_
 rintro e w3 ⟨rfl,O⟩
 rw[h2]
 replace o:=zc (o.out.below O)
 replace z:=zc (z.out.below O)
 have az:=zc (am.out.below O)
 have ad:=zc (ai.out.later O)
 clear O am ai
 clear a0 a1 M N Q a5 a6 X Y a9 I J af
 obtain⟨a0,a1,M,N,Q,a5,a6,X,Y,a9,I,J,af⟩:=o.out.box
 go_wp2_with fail
 refine (zj (Cx.mk H j false) L E D S q (-1) 0 1 sFunction _ ad.out.tok K (by decide)).mono ?_
 rintro e w4 ⟨rfl,Z⟩
 rw[h3]
 replace o:=zc (o.out.below Z)
 replace z:=zc (z.out.below Z)
 have aC:=zc (az.out.below Z)
 have ag:=zc (ad.out.later Z)
 clear Z az ad
 clear a0 a1 M N Q a5 a6 X Y a9 I J af
 obtain⟨a0,a1,M,N,Q,a5,a6,X,Y,a9,I,J,af⟩:=o.out.box
 go_wp2_with fail
 refine (zj (Cx.mk H j false) L E D S q (-1) 0 1 sPrint _ ag.out.tok K (by decide)).mono ?_
 rintro e w5 ⟨rfl,V⟩
 rw[h4]
 replace o:=zc (o.out.below V)
 replace z:=zc (z.out.below V)
 have ak:=zc (aC.out.below V)
 have ae:=zc (ag.out.later V)
 clear V aC ag
 clear a0 a1 M N Q a5 a6 X Y a9 I J af
 obtain⟨a0,a1,M,N,Q,a5,a6,X,Y,a9,I,J,af⟩:=o.out.box
 go_wp2_with fail
 refine (zj (Cx.mk H j false) L E D S q (-1) 0 1 sThrow _ ae.out.tok K (by decide)).mono ?_
 rintro e w6 ⟨rfl,U⟩
 rw[h5]
 replace o:=zc (o.out.below U)
 replace z:=zc (z.out.below U)
 have aw:=zc (ak.out.below U)
 have ap:=zc (ae.out.later U)
 clear U ak ae
 clear a0 a1 M N Q a5 a6 X Y a9 I J af
 obtain⟨a0,a1,M,N,Q,a5,a6,X,Y,a9,I,J,af⟩:=o.out.box
 go_wp2_with fail
 refine (zaT (Cx.mk H j false) L E D (.ok q) S q (-1) 0 sThrow _ (zab q) ap.out).mono ?_
 rintro e w7 ⟨S7,q7,z7,rfl,i7,m7,s7⟩
 replace o:=zc (o.out.stp s7)
 replace z:=zc (z.out.stp s7)
 have aj:=zc (aw.out.step s7)
 clear aw
 have al:=zc m7
 have aG:=zc i7
 clear i7 m7 s7 ap
 clear a0 a1 M N Q a5 a6 X Y a9 I J af
 go_wp2_with fail
 refine (zdp (Cx.mk H j false) L E D _ S7 q7 z7 _ aG.out al.out).mono ?_
 rintro e w8 ⟨S8,q8,z8,rfl,i8,m8,s8⟩
 replace o:=zc (o.out.stp s8)
 replace z:=zc (z.out.stp s8)
 have ax:=zc (aj.out.step s8)
 clear aj
 have aB:=zc m8
 have aF:=zc i8
 clear i8 m8 s8 al
 go_wp2_with fail
 refine (zah (Cx.mk H j false) L E D _ S8 q8 z8 0 cSemi _ aF.out aB.out).mono ?_
 rintro e w9 ⟨S9,q9,z9,rfl,i9,m9,s9⟩
 replace o:=zc (o.out.stp s9)
 replace z:=zc (z.out.stp s9)
 have av:=zc (ax.out.step s9)
 clear ax
 have ay:=zc m9
 have aD:=zc i9
 clear i9 m9 s9 aB
 go_wp2_with fail
 refine (zcY (Cx.mk H j false) L E D _ S9 q9 z9 0 5 sNone _ aD.out ay.out (zb5 aD.out)).mono ?_
 rintro e aK ⟨aH,aI,aM,rfl,ao,an,ab⟩
 replace o:=zc (o.out.stp ab)
 replace z:=zc (z.out.stp ab)
 have aA:=zc (av.out.step ab)
 clear av
 have au:=zc an
 have ar:=zc ao
 clear ao an ab ay
 obtain⟨b0,b1,b2,b3,b4,b5,b6,b7,b8,b9,aJ,aL,bf⟩:=z.out.box
 unfold pv
 go_wp2
 refine bodyPost_ret (results_cell_row rfl _ _ (w.heap.size+1) 55 _ (0,0) _ rfl ((z.out.put ..)).heap Tryz.underlying55 rfl (by kernel_rfl)) rfl ?_
 rw[HV.out]
 exact zac rfl ar.out (au.out.put z.out ..) (aA.out.put (by omega) ..)
theorem zvy (E:List Tk) (j:Nat) (M H D:Nat) (S:Sv) (q:PS) (w:World) (hm:Mem (Cx.mk E j false) M H D S q w) (h0:isT (Cx.mk E j false) q.pos 1 sImport=false) (h1:isT (Cx.mk E j false) q.pos 1 sExport=false) (h2:isT (Cx.mk E j false) q.pos 1 sLet=false) (h3:isT (Cx.mk E j false) q.pos 1 sFunction=false) (h4:isT (Cx.mk E j false) q.pos 1 sPrint=false) (h5:isT (Cx.mk E j false) q.pos 1 sThrow=false):
  Calls Tryz.prog 21 #[pv (Cx.mk E j false) M H S q (-1) 0] w (Out (Cx.mk E j false) M H D (zo (Cx.mk E j false) q) 0 S w):=by
 have HM:=zc hm
 have ah:=hm.tok
 have K:(Cx.mk E j false).ts.length≤4000:=hm.few
 clear hm
 have HV:Hid (zo (Cx.mk E j false) q=bd (bd (.ok q) (zk (Cx.mk E j false) false)) fun a=>bd (bd (bd (bd (.ok a.1) (zd (Cx.mk E j false) 4 cEq)) (pE (Cx.mk E j false) .sum 0)) (zd (Cx.mk E j false) 4 cSemi)) (zE (Cx.mk E j false) 3 a.2)):=by show zo (Cx.mk E j false) q=_;rw[zo,h0,h1,h2,h3,h4,h5];rfl
 unfold pv
 go_enter Tryz.func21,Tryz.ntmps21
 go_wp2_with fail
 refine (zj (Cx.mk E j false) M H D S q (-1) 0 1 sImport _ (zv (zv ah _) _) K (by decide)).mono ?_
 rintro e w1 ⟨rfl,aD⟩
 rw[h0]
 obtain⟨X0,X1,m1,t1⟩:=HM.out.two aD
 have o:=zc X0
 have z:=zc X1
 have ap:=zc m1
 have aP:=zc t1
 clear X0 X1 m1 t1 aD
 clear ah
 obtain⟨a0,a1,N,O,U,a5,a6,Z,a8,a9,I,J,af⟩:=o.out.box
 go_wp2_with fail
 refine (zj (Cx.mk E j false) M H D S q (-1) 0 1 sExport _ ap.out.tok K (by decide)).mono ?_
 rintro e w2 ⟨rfl,ad⟩
 rw[h1]
 replace o:=zc (o.out.below ad)
 replace z:=zc (z.out.below ad)
 have ay:=zc (aP.out.below ad)
 have aq:=zc (ap.out.later ad)
 clear ad aP ap
 clear a0 a1 N O U a5 a6 Z a8 a9 I J af
 obtain⟨a0,a1,N,O,U,a5,a6,Z,a8,a9,I,J,af⟩:=o.out.box
 go_wp2_with fail
 refine (zj (Cx.mk E j false) M H D S q (-1) 0 1 sLet _ aq.out.tok K (by decide)).mono ?_
 rintro e w3 ⟨rfl,Q⟩
 rw[h2]
 replace o:=zc (o.out.below Q)
 replace z:=zc (z.out.below Q)
 have aM:=zc (ay.out.below Q)
 have am:=zc (aq.out.later Q)
 clear Q ay aq
 clear a0 a1 N O U a5 a6 Z a8 a9 I J af
 obtain⟨a0,a1,N,O,U,a5,a6,Z,a8,a9,I,J,af⟩:=o.out.box
 go_wp2_with fail
 refine (zj (Cx.mk E j false) M H D S q (-1) 0 1 sFunction _ am.out.tok K (by decide)).mono ?_
 rintro e w4 ⟨rfl,ac⟩
 rw[h3]
 replace o:=zc (o.out.below ac)
 replace z:=zc (z.out.below ac)
 have aO:=zc (aM.out.below ac)
 have ao:=zc (am.out.later ac)
 clear ac aM am
 clear a0 a1 N O U a5 a6 Z a8 a9 I J af
 obtain⟨a0,a1,N,O,U,a5,a6,Z,a8,a9,I,J,af⟩:=o.out.box
 go_wp2_with fail
 refine (zj (Cx.mk E j false) M H D S q (-1) 0 1 sPrint _ ao.out.tok K (by decide)).mono ?_
 rintro e w5 ⟨rfl,Y⟩
 rw[h4]
 replace o:=zc (o.out.below Y)
 replace z:=zc (z.out.below Y)
 have av:=zc (aO.out.below Y)
 have an:=zc (ao.out.later Y)
 clear Y aO ao
 clear a0 a1 N O U a5 a6 Z a8 a9 I J af
 obtain⟨a0,a1,N,O,U,a5,a6,Z,a8,a9,I,J,af⟩:=o.out.box
 go_wp2_with fail
 refine (zj (Cx.mk E j false) M H D S q (-1) 0 1 sThrow _ an.out.tok K (by decide)).mono ?_
 rintro e w6 ⟨rfl,V⟩
 rw[h5]
 replace o:=zc (o.out.below V)
 replace z:=zc (z.out.below V)
 have aI:=zc (av.out.below V)
 have aB:=zc (an.out.later V)
 clear V av an
 clear a0 a1 N O U a5 a6 Z a8 a9 I J af
 obtain⟨a0,a1,N,O,U,a5,a6,Z,a8,a9,I,J,af⟩:=o.out.box
 go_wp2_with fail
 refine (zbz (Cx.mk E j false) M H D (.ok q) S q (-1) 0 false _ (zab q) aB.out).mono ?_
 rintro e w7 ⟨S7,q7,z7,n7,rfl,i7,m7,s7⟩
 replace o:=zc (o.out.stp s7)
 replace z:=zc (z.out.stp s7)
 have au:=zc (aI.out.step s7)
 clear aI
 have al:=zc m7
 have aJ:=zc i7
 clear i7 m7 s7 aB
 clear a0 a1 N O U a5 a6 Z a8 a9 I J af
 have ba:w.heap.size+1<w7.heap.size:=z.out.lt
 unfold pv
 go_upto_region 19 with fail
 refine zQ (R:=fun W=>Bx M S7 W (w.heap.size) _∧Bx M S7 W (w.heap.size+1) _∧Bx M S7 W (w7.heap.size) _∧Mem (Cx.mk E j false) M H D S7 q7 W∧SB w.heap.size S w S7 W) ⟨(o.out.alloc _),(z.out.alloc _),(Bx.new al.out _),(al.out.alloc _),(au.out.alloc _)⟩ ?_
 clear o z au al
 rintro w8 ⟨X0,X1,X2,m8,t8⟩
 have o:=zc X0
 have z:=zc X1
 have L:=zc X2
 have aN:=zc m8
 have aK:=zc t8
 clear m8 t8 X0 X1 X2
 obtain⟨c0,c1,c2,c3,c4,c5,c6,c7,c8,c9,aV,aU,cf⟩:=L.out.box
 go_wp2_with fail
 refine (zah (Cx.mk E j false) M H D _ S7 q7 z7 0 cEq _ aJ.out.fst aN.out).mono ?_
 rintro e w9 ⟨S9,q9,z9,rfl,i9,m9,s9⟩
 replace o:=zc (o.out.stp s9)
 replace z:=zc (z.out.stp s9)
 replace L:=zc (L.out.stp s9)
 have aG:=zc (aK.out.step s9)
 clear aK
 have aL:=zc m9
 have aZ:=zc i9
 clear i9 m9 s9 aN
 clear c0 c1 c2 c3 c4 c5 c6 c7 c8 c9 aV aU cf
 go_wp2_with fail
 refine (zdp (Cx.mk E j false) M H D _ S9 q9 z9 _ aZ.out aL.out).mono ?_
 rintro e bi ⟨aR,aT,aW,rfl,aA,az,ab⟩
 replace o:=zc (o.out.stp ab)
 replace z:=zc (z.out.stp ab)
 replace L:=zc (L.out.stp ab)
 have aj:=zc (aG.out.step ab)
 clear aG
 have ai:=zc az
 have aE:=zc aA
 clear aA az ab aL
 go_wp2_with fail
 refine (zah (Cx.mk E j false) M H D _ aR aT aW 0 cSemi _ aE.out ai.out).mono ?_
 rintro e bb ⟨aY,aS,aX,rfl,ax,aw,X⟩
 replace o:=zc (o.out.stp X)
 replace z:=zc (z.out.stp X)
 replace L:=zc (L.out.stp X)
 have ag:=zc (aj.out.step X)
 clear aj
 have ak:=zc aw
 have ae:=zc ax
 clear ax aw X ai
 go_wp2_with fail
 refine (zcY (Cx.mk E j false) M H D _ aY aS aX 0 3 n7 _ ae.out ak.out (zb5 ae.out)).mono ?_
 rintro e bg ⟨be,bk,bl,rfl,ar,aQ,aa⟩
 replace o:=zc (o.out.stp aa)
 replace z:=zc (z.out.stp aa)
 replace L:=zc (L.out.stp aa)
 have aF:=zc (ag.out.step aa)
 clear ag
 have aC:=zc aQ
 have aH:=zc ar
 clear ar aQ aa ak
 obtain⟨b0,b1,b2,b3,b4,b5,b6,b7,b8,b9,bc,bj,bf⟩:=z.out.box
 unfold pv
 go_wp2
 refine bodyPost_ret (results_cell_row rfl _ _ (w.heap.size+1) 55 _ (0,0) _ rfl ((z.out.put ..)).heap Tryz.underlying55 rfl (by kernel_rfl)) rfl ?_
 rw[HV.out,←aJ.out.bind (fun q n=>bd (bd (bd (bd (.ok q) (zd (Cx.mk E j false) 4 cEq)) (pE (Cx.mk E j false) .sum 0)) (zd (Cx.mk E j false) 4 cSemi)) (zE (Cx.mk E j false) 3 n)),←zmK]
 exact zac rfl aH.out (aC.out.put z.out ..) (aF.out.put (by omega) ..)
theorem zvz (D:List Tk) (j:Nat) (E z o:Nat) (S:Sv) (q:PS) (w:World) (H:Mem (Cx.mk D j false) E z o S q w):
  Calls Tryz.prog 21 #[pv (Cx.mk D j false) E z S q (-1) 0] w (Out (Cx.mk D j false) E z o (zo (Cx.mk D j false) q) 0 S w):=by
 cases I:isT (Cx.mk D j false) q.pos 1 sImport with
 |true=>exact zvs D j E z o S q w H I
 |false=>
  cases J:isT (Cx.mk D j false) q.pos 1 sExport with
  |true=>exact zvt D j E z o S q w H I J
  |false=>
   cases K:isT (Cx.mk D j false) q.pos 1 sLet with
   |true=>exact zvu D j E z o S q w H I J K
   |false=>
    cases L:isT (Cx.mk D j false) q.pos 1 sFunction with
    |true=>exact zvv D j E z o S q w H I J K L
    |false=>
     cases M:isT (Cx.mk D j false) q.pos 1 sPrint with
     |true=>exact zvw D j E z o S q w H I J K L M
     |false=>
      cases N:isT (Cx.mk D j false) q.pos 1 sThrow with
      |true=>exact zvx D j E z o S q w H I J K L M N
      |false=>
       exact zvy D j E z o S q w H I J K L M N
theorem zv0 (C:Cx) (D o j:Nat) (S:Sv) (q:PS) (w:World) (H:Mem C D o j S q w):
  Calls Tryz.prog 21 #[pv C D o S q (-1) 0] w (Out C D o j (zo C q) 0 S w):=by
 obtain⟨I,z,E⟩:=C
 cases E with
 |true=>exact zvr I z D o j S q w H
 |false=>exact zvz I z D o j S q w H
theorem zmL (s:ByteArray) (scr:Bool) (w:World) (hs:s.size≤4294967296):
  Calls Tryz.prog 7 #[.string s,.bool scr] w fun e w'=>ParseOut s scr w e w'∧Below w.heap.size w w':=by
 obtain⟨i0,hi,ao,aq,au⟩:=info_parts Tryz.infoExp
 go_enter Tryz.func7,Tryz.ntmps7
 go_wp2_with fail
 refine (zjN s scr _ hs).mono ?_
 rintro e V ⟨⟨r1,O,M⟩,b1⟩
 have ad:Hid (Below w.heap.size w V):=((Below.refl _ _).alloc (Nat.le_refl _) _).trans (b1.mono (by rw[zX];omega))
 have hG:V.heap[w.heap.size]? =some (.cells #[.slice none 0 0,.slice none 0 0,.slice none 0 0,.slice none 0 0,.slice none 0 0] 32 (0,0)):=(b1.block _ (by rw[zX];omega)).trans (heap_alloc_new w _)
 rw[zX] at b1
 cases r1 with
 |error p=>
  obtain⟨g,L,rfl,o⟩:=M
  have HY:Hid (za8 s scr (.error p)):=⟨_,O,rfl⟩
  have HG:=zc hG
  obtain⟨c0,c1,c2,c3,c4,cf⟩:=zaa hG
  have dz:decide ((0:Int)≤(p:Int))=true:=decide_eq_true (by omega)
  clear o O b1 hG
  go_wp2
  refine bodyPost_ret (zaK rfl _ _ w.heap.size 32 _ (0,0) _ rfl (zeh HG.out) Tryz.underlying32 rfl (by kernel_rfl)) rfl ?_
  exact⟨⟨_,HY.out,rfl⟩,zei ad.out (Nat.le_refl _) _ _ _ _ _⟩
 |ok z=>
  obtain⟨g,n,L,rfl,o⟩:=M
  obtain rfl:n=z.length:=o.2
  rw[zX] at o
  have ah:w.heap.size+1≤V.heap.size:=by have:=b1.size;rw[zX] at this;exact this
  have ai:=zg0 O
  have HR:=zc O
  have al:Mem ⟨z,s.size,scr⟩ g L (w.heap.size+1) S0 startP V:=zjC o ai ah
  have an:=zc al
  have HG:=zc hG
  clear o O al hG
  go_wp2
  go_loopg [] (z.length+1) (fun k wr=>∃(x':PR) (E:Sv) (U:PS) (z':Int),Is x' U z'∧bd x' (zM ⟨z,s.size,scr⟩)=zM ⟨z,s.size,scr⟩ startP∧(z'<0→z.length-U.pos<k)∧Mem ⟨z,s.size,scr⟩ g L (w.heap.size+1) E U wr∧Below w.heap.size w wr∧Bx g E wr V.heap.size #[.slice (some ⟨g,0,none⟩) z.length L,.int .i64 U.pos,.int .i64 s.size,.bool scr,.slice E.rq.a U.rq.length E.rq.cap,.slice E.im.a U.im.length E.im.cap,.slice E.ep.a U.ep.length E.ep.cap,.slice E.st.a U.st.length E.st.cap,.slice E.ex.a U.ex.length E.ex.cap,.slice E.la.a U.la.length E.la.cap,.int .i64 z',.int .i64 0]∧wr.heap[w.heap.size]? =some (.cells #[.slice none 0 0,.slice none 0 0,.slice none 0 0,.slice none 0 0,.slice none 0 0] 32 (0,0)))
  case atStart=>exact⟨.ok startP,S0,startP,-1,zab _,rfl,fun _=>by show z.length-0<z.length+1;omega,an.out.alloc _,ad.out.alloc ad.out.size _,Bx.new an.out _,(Below.heap_alloc _ _ _ (by omega)).trans HG.out⟩
  case round=>
   obtain⟨x2,S2,K,z2,i2,e2,l2,m2,t2,X0,G2⟩:=hrel
   have ak:=zc i2
   have ac:=zc e2
   have aw:=zc l2
   have j:=zc m2
   have X:=zc t2
   have H:=zc X0
   have J:=zc G2
   have aA:K.pos≤z.length:=m2.inv.pos
   obtain⟨a0,a1,a2,a3,a4,a5,a6,a7,a8,a9,Y,aa,af⟩:=X0.box
   clear i2 e2 l2 m2 t2 X0 G2
   by_cases hz:z2<0
   ·have dz:decide (z2<0)=true:=decide_eq_true hz
    obtain⟨rfl,rfl⟩:=zaF ak.out hz
    by_cases hp:K.pos<z.length
    ·have aB:=aw.out hz
     go_wp2_with fail
     refine (zv0 ⟨z,s.size,scr⟩ g L (w.heap.size+1) S2 K _ j.out).mono ?_
     rintro e w3 ⟨S3,q3,z3,rfl,i3,m3,s3⟩
     have av:=zc m3
     have am:=zc i3
     have ab:Hid (Below (w.heap.size+1) wr w3):=s3.under j.out.base j.out.own
     have Q:Hid (Bx g S3 w3 V.heap.size _):=H.out.stp s3
     have ax:Hid (Below w.heap.size w w3):=X.out.trans (ab.out.mono (by omega))
     have Z:Hid (w3.heap[w.heap.size]? =some (.cells #[.slice none 0 0,.slice none 0 0,.slice none 0 0,.slice none 0 0,.slice none 0 0] 32 (0,0))):=(ab.out.block _ (by omega)).trans J.out
     have HE:Hid (bd (zo ⟨z,s.size,scr⟩ K) (zM ⟨z,s.size,scr⟩)=zM ⟨z,s.size,scr⟩ startP):=by
      show _=_
      rw[←ac.out,zh,zeQ,if_pos hp]
     have HP:Hid (z3<0→K.pos<q3.pos):=fun h=>zgz (zaF am.out h).1
     clear i3 m3 s3 a0 a1 a2 a3 a4 a5 a6 a7 a8 a9 Y aa af
     obtain⟨a0,a1,a2,a3,a4,a5,a6,a7,a8,a9,Y,aa,af⟩:=Q.out.box
     unfold pv
     go_wp2
     go_roundg (gk-1)
     case rel=>exact⟨_,S3,q3,z3,am.out,HE.out,fun h=>by have:=HP.out h;omega,av.out.put Q.out _ _ _ _ _ _ _ _ _ _ _ _,zbX ax.out (by omega) _ _ _ _ _ _ _ _ _ _ _ _,Q.out.put _ _ _ _ _ _ _ _ _ _ _ _,(zgi (by omega) ..).trans Z.out⟩
     case measure=>omega
    ·have HD:Hid (zM ⟨z,s.size,scr⟩ startP= .ok K):=by
      show _=_
      rw[←ac.out,zh,zeQ,if_neg hp]
     have HY:Hid (za8 s scr (.ok K)):=⟨_,HR.out,HD.out.symm⟩
     have aj:V.heap.size<wr.heap.size:=H.out.lt
     have az:=j.out.inv.ep
     have D:=j.out.own.ep
     have ab:=j.out.base
     rcases j.out.own.la.nil_or with ⟨ha,hc,hn⟩|⟨gl,ha⟩
     ·have HN:Hid (K.la=[]):=List.eq_nil_of_length_eq_zero hn
      rw[ha,hc,hn] at a9
      obtain⟨c0,c1,c2,c3,c4,cf⟩:=zaa J.out
      clear ha hc hn
      go_wp2_with (at_builtin;refine znJ _ rfl _ _ 28 rfl 77 i0 Tryz.underlying28 hi (w.heap.size+1) 4 K.ep.length S2.ep _ (by rfl) D (by rfl) ?_)
      clear D
      go_wp2
      refine bodyPost_ret (zaK rfl _ _ w.heap.size 32 _ (0,0) _ rfl (zeh ((zx (by omega)).trans J.out)) Tryz.underlying32 rfl (by kernel_rfl)) rfl ?_
      refine⟨⟨_,HY.out,S2,by simp[zg1,HN.out],j.out.whole0 HN.out (Nat.lt_succ_self _) H.out.free fun k N h2=>?_⟩,zei (X.out.setCell (by show _≤V.heap.size;omega) _) (Nat.le_refl _) _ _ _ _ _⟩
      rw[zx N,zx N,zx N,zx N,zx N,zx h2]
     ·have ae:OwnR wr (w.heap.size+1) 77 4 ⟨some ⟨gl,0,none⟩,S2.la.cap⟩ K.la.length (K.la.flatMap epL):=by have:=j.out.own.la;unfold OwnR at this ⊢;rw[ha] at this;exact this
      rw[ha] at a9
      go_wp2_with (at_builtin;refine znI _ rfl _ _ 28 rfl (w.heap.size+1) 77 i0 _ 4 56 Tryz.underlying28 hi ao aq au rfl (by decide) (by decide) S2.ep K.ep.length _ (by rfl) D gl K.la.length S2.la.cap (w.heap.size+1) _ (by rfl) ae (zhH _) (by omega) ab ?_)
      intro r' w3 hr hg ag
      have ap:=zc hr
      have I:=zc hg
      have ar:=zc ag
      have ay:=fun b hb=>zeo (W:=wr) j.out.own (Nat.le_refl _) (r:=S2.ep.blk) (fun k e=>.inr (.inr (.inl e))) b hb
      have Q:Hid (w3.heap[V.heap.size]? =_):=(hg.block _ aj (fun e=>H.out.free (.inr (.inr (.inl e.symm))))).trans H.out.heap
      have Z:Hid (w3.heap[w.heap.size]? =_):=(hg.block _ (by omega) (fun e=>by have:=(D.typed e.symm).1;omega)).trans J.out
      clear a0 a1 a2 a3 a4 a5 a6 a7 a8 a9 Y aa af hr hg ag ay D ae
      obtain⟨a0,a1,a2,a3,a4,a5,a6,a7,a8,a9,Y,aa,af⟩:=zao Q.out
      obtain⟨c0,c1,c2,c3,c4,cf⟩:=zaa Z.out
      go_wp2
      refine bodyPost_ret (zaK rfl _ _ w.heap.size 32 _ (0,0) _ rfl (zeh ((zx (by omega)).trans Z.out)) Tryz.underlying32 rfl (by kernel_rfl)) rfl ?_
      refine⟨⟨_,HY.out,{S2 with ep:=r'},by simp[zg1],j.out.whole I.out ap.out ar.out (Nat.lt_succ_self _) aj H.out.free fun k N h2=>?_⟩,zei ((X.out.trans (Below.mono (B:=w.heap.size+1) ⟨I.out.os,I.out.tape,I.out.output,I.out.size,fun k hk=>I.out.block k (by omega) fun e=>by have:=(j.out.own.ep.typed e.symm).1;omega⟩ (by omega))).setCell (by show _≤V.heap.size;omega) _) (Nat.le_refl _) _ _ _ _ _⟩
      rw[zx N,zx N,zx N,zx N,zx N,zx h2]
   ·have dz:decide (z2<0)=false:=decide_eq_false hz
    obtain⟨e0,rfl,rfl⟩:=zd2 ak.out hz
    have aC:decide ((0:Int)≤(e0:Int))=true:=decide_eq_true (by omega)
    have HY:Hid (za8 s scr (.error e0)):=⟨_,HR.out,(show (.error e0:PR)=zM ⟨z,s.size,scr⟩ startP from ac.out)⟩
    obtain⟨c0,c1,c2,c3,c4,cf⟩:=zaa J.out
    go_wp2
    go_region
    all_goals
     go_wp2
     refine bodyPost_ret (zaK rfl _ _ w.heap.size 32 _ (0,0) _ rfl (zeh J.out) Tryz.underlying32 rfl (by kernel_rfl)) rfl ?_
     exact⟨⟨_,HY.out,rfl⟩,(zei X.out (Nat.le_refl _) ..).drew⟩
theorem zmM (a:Option Addr) (j o:Nat) (w:World) (_:j≤9223372036854775807):
  Calls Tryz.prog 4 #[.slice a j o] w fun e z=>e= .returned (.bool (decide ((1048576:Int)<j)))∧z=w:=by
 go_enter Tryz.func4,Tryz.ntmps4
 go_wp2
 go_ret
 exact⟨rfl,rfl⟩
end Go.Proofs.YthfeoomfiafldaaGreat
