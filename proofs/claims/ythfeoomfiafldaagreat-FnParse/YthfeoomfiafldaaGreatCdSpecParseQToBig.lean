/-
  What spec's l4Item answers outside of a script: the walks.
  What spec.Parse answers: the walk.
  What laws.big answers: the walk.
-/
import Derived.Test.YthfeoomfiafldaaGreatCdSpecParseMToSpecParseP
namespace Go.Proofs.YthfeoomfiafldaaGreat
set_option maxRecDepth 100000
set_option maxHeartbeats 6400000
open Go.RowKit Go.PlainAid
theorem zvs (D:List Tk) (j:Nat) (J E o:Nat) (S:Sv) (q:PS) (w:World) (O:Mem (Cx.mk D j false) J E o S q w) (Y:isT (Cx.mk D j false) q.pos 1 sImport=true):
  Calls Tryz.prog 21 #[pv (Cx.mk D j false) J E S q (-1) 0] w (Out (Cx.mk D j false) J E o (zo (Cx.mk D j false) q) 0 S w):=by
 have HM:=zc O
 have H:=O.tok
 have K:(Cx.mk D j false).ts.length≤4000:=O.few
 clear O
 have HV:Hid (zo (Cx.mk D j false) q=za3 (Cx.mk D j false) q):=by show zo (Cx.mk D j false) q=_;rw[zo,Y];rfl
 unfold pv
 go_enter Tryz.func21,Tryz.ntmps21
 go_wp2_with fail
 refine (zj (Cx.mk D j false) J E o S q (-1) 0 1 sImport _ (zv (zv H _) _) K (by decide)).mono ?_
 rintro e w1 ⟨rfl,L⟩
 rw[Y]
 obtain⟨X0,X1,m1,t1⟩:=HM.out.two L
 have I:=zc X0
 have z:=zc X1
 have N:=zc m1
 have M:=zc t1
 clear X0 X1 m1 t1 L
 clear H
 obtain⟨a0,a1,a2,a3,a4,a5,a6,a7,a8,a9,V,U,af⟩:=I.out.box
 go_wp2_with fail
 refine (zvj (Cx.mk D j false) J E o S q _ N.out Y).mono ?_
 rintro e w2 ⟨S2,q2,z2,rfl,i2,m2,Q⟩
 replace I:=zc (I.out.stp Q)
 replace z:=zc (z.out.stp Q)
 have Z:=zc (M.out.step Q)
 clear M
 have aa:=zc m2
 have X:=zc i2
 clear i2 m2 Q N
 clear a0 a1 a2 a3 a4 a5 a6 a7 a8 a9 V U af
 obtain⟨b0,b1,b2,b3,b4,b5,b6,b7,b8,b9,ab,ac,bf⟩:=z.out.box
 unfold pv
 go_wp2
 refine bodyPost_ret (results_cell_row rfl _ _ (w.heap.size+1) 55 _ (0,0) _ rfl ((z.out.put ..)).heap Tryz.underlying55 rfl (by kernel_rfl)) rfl ?_
 rw[HV.out]
 exact zac rfl X.out (aa.out.put z.out ..) (Z.out.put (by omega) ..)
theorem zvt (E:List Tk) (j:Nat) (O H o:Nat) (S:Sv) (q:PS) (w:World) (Y:Mem (Cx.mk E j false) O H o S q w) (h0:isT (Cx.mk E j false) q.pos 1 sImport=false) (h1:isT (Cx.mk E j false) q.pos 1 sExport=true):
  Calls Tryz.prog 21 #[pv (Cx.mk E j false) O H S q (-1) 0] w (Out (Cx.mk E j false) O H o (zo (Cx.mk E j false) q) 0 S w):=by
 have HM:=zc Y
 have K:=Y.tok
 have J:(Cx.mk E j false).ts.length≤4000:=Y.few
 clear Y
 have HV:Hid (zo (Cx.mk E j false) q=zV (Cx.mk E j false) q):=by show zo (Cx.mk E j false) q=_;rw[zo,h0,h1];rfl
 unfold pv
 go_enter Tryz.func21,Tryz.ntmps21
 go_wp2_with fail
 refine (zj (Cx.mk E j false) O H o S q (-1) 0 1 sImport _ (zv (zv K _) _) J (by decide)).mono ?_
 rintro e w1 ⟨rfl,U⟩
 rw[h0]
 obtain⟨X0,X1,m1,t1⟩:=HM.out.two U
 have D:=zc X0
 have z:=zc X1
 have N:=zc m1
 have V:=zc t1
 clear X0 X1 m1 t1 U
 clear K
 obtain⟨a0,a1,a2,a3,a4,a5,a6,a7,a8,a9,M,L,af⟩:=D.out.box
 go_wp2_with fail
 refine (zj (Cx.mk E j false) O H o S q (-1) 0 1 sExport _ N.out.tok J (by decide)).mono ?_
 rintro e w2 ⟨rfl,I⟩
 rw[h1]
 replace D:=zc (D.out.below I)
 replace z:=zc (z.out.below I)
 have Q:=zc (V.out.below I)
 have X:=zc (N.out.later I)
 clear I V N
 clear a0 a1 a2 a3 a4 a5 a6 a7 a8 a9 M L af
 obtain⟨a0,a1,a2,a3,a4,a5,a6,a7,a8,a9,M,L,af⟩:=D.out.box
 go_wp2_with fail
 refine (zvk (Cx.mk E j false) O H o S q _ X.out h1).mono ?_
 rintro e w3 ⟨S3,q3,z3,rfl,i3,m3,Z⟩
 replace D:=zc (D.out.stp Z)
 replace z:=zc (z.out.stp Z)
 have ab:=zc (Q.out.step Z)
 clear Q
 have ac:=zc m3
 have aa:=zc i3
 clear i3 m3 Z X
 clear a0 a1 a2 a3 a4 a5 a6 a7 a8 a9 M L af
 obtain⟨b0,b1,b2,b3,b4,b5,b6,b7,b8,b9,ad,ae,bf⟩:=z.out.box
 unfold pv
 go_wp2
 refine bodyPost_ret (results_cell_row rfl _ _ (w.heap.size+1) 55 _ (0,0) _ rfl ((z.out.put ..)).heap Tryz.underlying55 rfl (by kernel_rfl)) rfl ?_
 rw[HV.out]
 exact zac rfl aa.out (ac.out.put z.out ..) (ab.out.put (by omega) ..)
theorem zvu (H:List Tk) (j:Nat) (I E D:Nat) (S:Sv) (q:PS) (w:World) (hm:Mem (Cx.mk H j false) I E D S q w) (h0:isT (Cx.mk H j false) q.pos 1 sImport=false) (h1:isT (Cx.mk H j false) q.pos 1 sExport=false) (h2:isT (Cx.mk H j false) q.pos 1 sLet=true):
  Calls Tryz.prog 21 #[pv (Cx.mk H j false) I E S q (-1) 0] w (Out (Cx.mk H j false) I E D (zo (Cx.mk H j false) q) 0 S w):=by
 have HM:=zc hm
 have O:=hm.tok
 have M:(Cx.mk H j false).ts.length≤4000:=hm.few
 clear hm
 have HV:Hid (zo (Cx.mk H j false) q=za7 (zbA (Cx.mk H j false) q)):=by show zo (Cx.mk H j false) q=_;rw[zo,h0,h1,h2];rfl
 unfold pv
 go_enter Tryz.func21,Tryz.ntmps21
 go_wp2_with fail
 refine (zj (Cx.mk H j false) I E D S q (-1) 0 1 sImport _ (zv (zv O _) _) M (by decide)).mono ?_
 rintro e w1 ⟨rfl,ad⟩
 rw[h0]
 obtain⟨Z,X1,m1,t1⟩:=HM.out.two ad
 have z:=zc Z
 have o:=zc X1
 have V:=zc m1
 have ae:=zc t1
 clear Z X1 m1 t1 ad
 clear O
 obtain⟨a0,a1,X,a3,a4,a5,a6,a7,a8,a9,J,L,af⟩:=z.out.box
 go_wp2_with fail
 refine (zj (Cx.mk H j false) I E D S q (-1) 0 1 sExport _ V.out.tok M (by decide)).mono ?_
 rintro e w2 ⟨rfl,K⟩
 rw[h1]
 replace z:=zc (z.out.below K)
 replace o:=zc (o.out.below K)
 have aa:=zc (ae.out.below K)
 have U:=zc (V.out.later K)
 clear K ae V
 clear a0 a1 X a3 a4 a5 a6 a7 a8 a9 J L af
 obtain⟨a0,a1,X,a3,a4,a5,a6,a7,a8,a9,J,L,af⟩:=z.out.box
 go_wp2_with fail
 refine (zj (Cx.mk H j false) I E D S q (-1) 0 1 sLet _ U.out.tok M (by decide)).mono ?_
 rintro e w3 ⟨rfl,N⟩
 rw[h2]
 replace z:=zc (z.out.below N)
 replace o:=zc (o.out.below N)
 have ac:=zc (aa.out.below N)
 have ag:=zc (U.out.later N)
 clear N aa U
 clear a0 a1 X a3 a4 a5 a6 a7 a8 a9 J L af
 obtain⟨a0,a1,X,a3,a4,a5,a6,a7,a8,a9,J,L,af⟩:=z.out.box
 go_wp2_with fail
 refine (zji (Cx.mk H j false) I E D S q _ ag.out).mono ?_
 rintro e w4 ⟨Y,q4,z4,n4,rfl,i4,m4,s4⟩
 replace z:=zc (z.out.stp s4)
 replace o:=zc (o.out.stp s4)
 have ab:=zc (ac.out.step s4)
 clear ac
 have Q:=zc m4
 have aj:=zc i4
 clear i4 m4 s4 ag
 clear a0 a1 X a3 a4 a5 a6 a7 a8 a9 J L af
 have al:w.heap.size+1<w4.heap.size:=o.out.lt
 unfold pv
 go_upto_region 7 with fail
 refine zQ (R:=fun W=>Bx I Y W (w.heap.size) _∧Bx I Y W (w.heap.size+1) _∧Bx I Y W (w4.heap.size) _∧Mem (Cx.mk H j false) I E D Y q4 W∧SB w.heap.size S w Y W) ⟨(z.out.alloc _),(o.out.alloc _),(Bx.new Q.out _),(Q.out.alloc _),(ab.out.alloc _)⟩ ?_
 clear z o ab Q
 rintro w5 ⟨Z,X1,X2,m5,t5⟩
 have z:=zc Z
 have o:=zc X1
 have ai:=zc X2
 have ah:=zc m5
 have ak:=zc t5
 clear m5 t5 Z X1 X2
 obtain⟨b0,b1,b2,b3,b4,b5,b6,b7,b8,b9,am,ap,bf⟩:=o.out.box
 obtain⟨c0,c1,c2,c3,c4,c5,c6,c7,c8,c9,an,ao,cf⟩:=ai.out.box
 go_wp2
 refine bodyPost_ret (results_cell_row rfl _ _ (w.heap.size+1) 55 _ (0,0) _ rfl ((o.out.put ..)).heap Tryz.underlying55 rfl (by kernel_rfl)) rfl ?_
 rw[HV.out]
 exact zac rfl aj.out.fst (ah.out.put o.out ..) (ak.out.put (by omega) ..)
theorem zvv (H:List Tk) (j:Nat) (L E D:Nat) (S:Sv) (q:PS) (w:World) (hm:Mem (Cx.mk H j false) L E D S q w) (h0:isT (Cx.mk H j false) q.pos 1 sImport=false) (h1:isT (Cx.mk H j false) q.pos 1 sExport=false) (h2:isT (Cx.mk H j false) q.pos 1 sLet=false) (h3:isT (Cx.mk H j false) q.pos 1 sFunction=true):
  Calls Tryz.prog 21 #[pv (Cx.mk H j false) L E S q (-1) 0] w (Out (Cx.mk H j false) L E D (zo (Cx.mk H j false) q) 0 S w):=by
 have HM:=zc hm
 have Q:=hm.tok
 have K:(Cx.mk H j false).ts.length≤4000:=hm.few
 clear hm
 have HV:Hid (zo (Cx.mk H j false) q=za7 (fnP (Cx.mk H j false) q)):=by show zo (Cx.mk H j false) q=_;rw[zo,h0,h1,h2,h3];rfl
 unfold pv
 go_enter Tryz.func21,Tryz.ntmps21
 go_wp2_with fail
 refine (zj (Cx.mk H j false) L E D S q (-1) 0 1 sImport _ (zv (zv Q _) _) K (by decide)).mono ?_
 rintro e w1 ⟨rfl,aj⟩
 rw[h0]
 obtain⟨X0,X1,m1,t1⟩:=HM.out.two aj
 have z:=zc X0
 have o:=zc X1
 have ac:=zc m1
 have ak:=zc t1
 clear X0 X1 m1 t1 aj
 clear Q
 obtain⟨a0,a1,U,V,a4,X,a6,Y,a8,Z,I,J,af⟩:=z.out.box
 go_wp2_with fail
 refine (zj (Cx.mk H j false) L E D S q (-1) 0 1 sExport _ ac.out.tok K (by decide)).mono ?_
 rintro e w2 ⟨rfl,N⟩
 rw[h1]
 replace z:=zc (z.out.below N)
 replace o:=zc (o.out.below N)
 have ae:=zc (ak.out.below N)
 have aa:=zc (ac.out.later N)
 clear N ak ac
 clear a0 a1 U V a4 X a6 Y a8 Z I J af
 obtain⟨a0,a1,U,V,a4,X,a6,Y,a8,Z,I,J,af⟩:=z.out.box
 go_wp2_with fail
 refine (zj (Cx.mk H j false) L E D S q (-1) 0 1 sLet _ aa.out.tok K (by decide)).mono ?_
 rintro e w3 ⟨rfl,O⟩
 rw[h2]
 replace z:=zc (z.out.below O)
 replace o:=zc (o.out.below O)
 have ai:=zc (ae.out.below O)
 have ad:=zc (aa.out.later O)
 clear O ae aa
 clear a0 a1 U V a4 X a6 Y a8 Z I J af
 obtain⟨a0,a1,U,V,a4,X,a6,Y,a8,Z,I,J,af⟩:=z.out.box
 go_wp2_with fail
 refine (zj (Cx.mk H j false) L E D S q (-1) 0 1 sFunction _ ad.out.tok K (by decide)).mono ?_
 rintro e w4 ⟨rfl,M⟩
 rw[h3]
 replace z:=zc (z.out.below M)
 replace o:=zc (o.out.below M)
 have ah:=zc (ai.out.below M)
 have ag:=zc (ad.out.later M)
 clear M ai ad
 clear a0 a1 U V a4 X a6 Y a8 Z I J af
 obtain⟨a0,a1,U,V,a4,X,a6,Y,a8,Z,I,J,af⟩:=z.out.box
 go_wp2_with fail
 refine (zjj (Cx.mk H j false) L E D S q _ ag.out).mono ?_
 rintro e w5 ⟨S5,q5,z5,n5,rfl,i5,m5,s5⟩
 replace z:=zc (z.out.stp s5)
 replace o:=zc (o.out.stp s5)
 have al:=zc (ah.out.step s5)
 clear ah
 have ab:=zc m5
 have ap:=zc i5
 clear i5 m5 s5 ag
 clear a0 a1 U V a4 X a6 Y a8 Z I J af
 have aq:w.heap.size+1<w5.heap.size:=o.out.lt
 unfold pv
 go_upto_region 10 with fail
 refine zQ (R:=fun W=>Bx L S5 W (w.heap.size) _∧Bx L S5 W (w.heap.size+1) _∧Bx L S5 W (w5.heap.size) _∧Mem (Cx.mk H j false) L E D S5 q5 W∧SB w.heap.size S w S5 W) ⟨(z.out.alloc _),(o.out.alloc _),(Bx.new ab.out _),(ab.out.alloc _),(al.out.alloc _)⟩ ?_
 clear z o al ab
 rintro w6 ⟨X0,X1,X2,m6,t6⟩
 have z:=zc X0
 have o:=zc X1
 have ao:=zc X2
 have an:=zc m6
 have am:=zc t6
 clear m6 t6 X0 X1 X2
 obtain⟨b0,b1,b2,b3,b4,b5,b6,b7,b8,b9,ar,aw,bf⟩:=o.out.box
 obtain⟨c0,c1,c2,c3,c4,c5,c6,c7,c8,c9,au,av,cf⟩:=ao.out.box
 go_wp2
 refine bodyPost_ret (results_cell_row rfl _ _ (w.heap.size+1) 55 _ (0,0) _ rfl ((o.out.put ..)).heap Tryz.underlying55 rfl (by kernel_rfl)) rfl ?_
 rw[HV.out]
 exact zac rfl ap.out.fst (an.out.put o.out ..) (am.out.put (by omega) ..)
theorem zvw (H:List Tk) (j:Nat) (K E D:Nat) (S:Sv) (q:PS) (w:World) (hm:Mem (Cx.mk H j false) K E D S q w) (h0:isT (Cx.mk H j false) q.pos 1 sImport=false) (h1:isT (Cx.mk H j false) q.pos 1 sExport=false) (h2:isT (Cx.mk H j false) q.pos 1 sLet=false) (h3:isT (Cx.mk H j false) q.pos 1 sFunction=false) (h4:isT (Cx.mk H j false) q.pos 1 sPrint=true):
  Calls Tryz.prog 21 #[pv (Cx.mk H j false) K E S q (-1) 0] w (Out (Cx.mk H j false) K E D (zo (Cx.mk H j false) q) 0 S w):=by
 have HM:=zc hm
 have ag:=hm.tok
 have L:(Cx.mk H j false).ts.length≤4000:=hm.few
 clear hm
 have HV:Hid (zo (Cx.mk H j false) q=bd (bd (bd (bd (bd (bd (.ok q) (zd (Cx.mk H j false) 1 sPrint)) (zd (Cx.mk H j false) 4 cOpen)) (pE (Cx.mk H j false) .sum 0)) (zd (Cx.mk H j false) 4 zU)) (zd (Cx.mk H j false) 4 cSemi)) (zE (Cx.mk H j false) 4 sNone)):=by show zo (Cx.mk H j false) q=_;rw[zo,h0,h1,h2,h3,h4];rfl
 unfold pv
 go_enter Tryz.func21,Tryz.ntmps21
 go_wp2_with fail
 refine (zj (Cx.mk H j false) K E D S q (-1) 0 1 sImport _ (zv (zv ag _) _) L (by decide)).mono ?_
 rintro e w1 ⟨rfl,aI⟩
 rw[h0]
 obtain⟨X0,X1,m1,t1⟩:=HM.out.two aI
 have o:=zc X0
 have z:=zc X1
 have aj:=zc m1
 have aJ:=zc t1
 clear X0 X1 m1 t1 aI
 clear ag
 obtain⟨a0,a1,Y,Z,a4,a5,a6,a7,a8,a9,I,J,af⟩:=o.out.box
 go_wp2_with fail
 refine (zj (Cx.mk H j false) K E D S q (-1) 0 1 sExport _ aj.out.tok L (by decide)).mono ?_
 rintro e w2 ⟨rfl,Q⟩
 rw[h1]
 replace o:=zc (o.out.below Q)
 replace z:=zc (z.out.below Q)
 have ar:=zc (aJ.out.below Q)
 have ai:=zc (aj.out.later Q)
 clear Q aJ aj
 clear a0 a1 Y Z a4 a5 a6 a7 a8 a9 I J af
 obtain⟨a0,a1,Y,Z,a4,a5,a6,a7,a8,a9,I,J,af⟩:=o.out.box
 go_wp2_with fail
 refine (zj (Cx.mk H j false) K E D S q (-1) 0 1 sLet _ ai.out.tok L (by decide)).mono ?_
 rintro e w3 ⟨rfl,X⟩
 rw[h2]
 replace o:=zc (o.out.below X)
 replace z:=zc (z.out.below X)
 have aE:=zc (ar.out.below X)
 have al:=zc (ai.out.later X)
 clear X ar ai
 clear a0 a1 Y Z a4 a5 a6 a7 a8 a9 I J af
 obtain⟨a0,a1,Y,Z,a4,a5,a6,a7,a8,a9,I,J,af⟩:=o.out.box
 go_wp2_with fail
 refine (zj (Cx.mk H j false) K E D S q (-1) 0 1 sFunction _ al.out.tok L (by decide)).mono ?_
 rintro e w4 ⟨rfl,O⟩
 rw[h3]
 replace o:=zc (o.out.below O)
 replace z:=zc (z.out.below O)
 have ax:=zc (aE.out.below O)
 have ah:=zc (al.out.later O)
 clear O aE al
 clear a0 a1 Y Z a4 a5 a6 a7 a8 a9 I J af
 obtain⟨a0,a1,Y,Z,a4,a5,a6,a7,a8,a9,I,J,af⟩:=o.out.box
 go_wp2_with fail
 refine (zj (Cx.mk H j false) K E D S q (-1) 0 1 sPrint _ ah.out.tok L (by decide)).mono ?_
 rintro e w5 ⟨rfl,V⟩
 rw[h4]
 replace o:=zc (o.out.below V)
 replace z:=zc (z.out.below V)
 have aK:=zc (ax.out.below V)
 have aC:=zc (ah.out.later V)
 clear V ax ah
 clear a0 a1 Y Z a4 a5 a6 a7 a8 a9 I J af
 obtain⟨a0,a1,Y,Z,a4,a5,a6,a7,a8,a9,I,J,af⟩:=o.out.box
 go_wp2_with fail
 refine (zaT (Cx.mk H j false) K E D (.ok q) S q (-1) 0 sPrint _ (zab q) aC.out).mono ?_
 rintro e w6 ⟨S6,q6,z6,rfl,i6,m6,s6⟩
 replace o:=zc (o.out.stp s6)
 replace z:=zc (z.out.stp s6)
 have am:=zc (aK.out.step s6)
 clear aK
 have ay:=zc m6
 have aO:=zc i6
 clear i6 m6 s6 aC
 clear a0 a1 Y Z a4 a5 a6 a7 a8 a9 I J af
 go_wp2_with fail
 refine (zah (Cx.mk H j false) K E D _ S6 q6 z6 0 cOpen _ aO.out ay.out).mono ?_
 rintro e w7 ⟨S7,q7,z7,rfl,i7,m7,s7⟩
 replace o:=zc (o.out.stp s7)
 replace z:=zc (z.out.stp s7)
 have aq:=zc (am.out.step s7)
 clear am
 have aw:=zc m7
 have aT:=zc i7
 clear i7 m7 s7 ay
 go_wp2_with fail
 refine (zdp (Cx.mk H j false) K E D _ S7 q7 z7 _ aT.out aw.out).mono ?_
 rintro e w8 ⟨S8,q8,z8,rfl,i8,m8,s8⟩
 replace o:=zc (o.out.stp s8)
 replace z:=zc (z.out.stp s8)
 have aH:=zc (aq.out.step s8)
 clear aq
 have ap:=zc m8
 have aM:=zc i8
 clear i8 m8 s8 aw
 go_wp2_with fail
 refine (zah (Cx.mk H j false) K E D _ S8 q8 z8 0 zU _ aM.out ap.out).mono ?_
 rintro e w9 ⟨S9,q9,z9,rfl,i9,m9,s9⟩
 replace o:=zc (o.out.stp s9)
 replace z:=zc (z.out.stp s9)
 have az:=zc (aH.out.step s9)
 clear aH
 have ak:=zc m9
 have aS:=zc i9
 clear i9 m9 s9 ap
 have aU:w.heap.size+1<w9.heap.size:=z.out.lt
 unfold pv
 go_upto_region 13 with fail
 refine zQ (R:=fun W=>Bx K S9 W (w.heap.size) _∧Bx K S9 W (w.heap.size+1) _∧Bx K S9 W (w9.heap.size) _∧Mem (Cx.mk H j false) K E D S9 q9 W∧SB w.heap.size S w S9 W) ⟨(o.out.alloc _),(z.out.alloc _),(Bx.new ak.out _),(ak.out.alloc _),(az.out.alloc _)⟩ ?_
 clear o z az ak
 rintro ba ⟨X0,X1,X2,aD,aF⟩
 have o:=zc X0
 have z:=zc X1
 have U:=zc X2
 have ac:=zc aD
 have ad:=zc aF
 clear aD aF X0 X1 X2
 obtain⟨c0,c1,c2,c3,c4,c5,c6,c7,c8,c9,aN,aQ,cf⟩:=U.out.box
 go_wp2_with fail
 refine (zah (Cx.mk H j false) K E D _ S9 q9 z9 0 cSemi _ aS.out ac.out).mono ?_
 rintro e aZ ⟨aR,aL,aP,rfl,ao,aG,N⟩
 replace o:=zc (o.out.stp N)
 replace z:=zc (z.out.stp N)
 replace U:=zc (U.out.stp N)
 have ae:=zc (ad.out.step N)
 clear ad
 have ab:=zc aG
 have aa:=zc ao
 clear ao aG N ac
 clear c0 c1 c2 c3 c4 c5 c6 c7 c8 c9 aN aQ cf
 go_wp2_with fail
 refine (zcY (Cx.mk H j false) K E D _ aR aL aP 0 4 sNone _ aa.out ab.out (zb5 aa.out)).mono ?_
 rintro e aX ⟨bb,aY,aW,rfl,an,av,M⟩
 replace o:=zc (o.out.stp M)
 replace z:=zc (z.out.stp M)
 replace U:=zc (U.out.stp M)
 have au:=zc (ae.out.step M)
 clear ae
 have aA:=zc av
 have aB:=zc an
 clear an av M ab
 obtain⟨b0,b1,b2,b3,b4,b5,b6,b7,b8,b9,aV,bc,bf⟩:=z.out.box
 unfold pv
 go_wp2
 refine bodyPost_ret (results_cell_row rfl _ _ (w.heap.size+1) 55 _ (0,0) _ rfl ((z.out.put ..)).heap Tryz.underlying55 rfl (by kernel_rfl)) rfl ?_
 rw[HV.out]
 exact zac rfl aB.out (aA.out.put z.out ..) (au.out.put (by omega) ..)
theorem zvx (H:List Tk) (j:Nat) (L E D:Nat) (S:Sv) (q:PS) (w:World) (hm:Mem (Cx.mk H j false) L E D S q w) (h0:isT (Cx.mk H j false) q.pos 1 sImport=false) (h1:isT (Cx.mk H j false) q.pos 1 sExport=false) (h2:isT (Cx.mk H j false) q.pos 1 sLet=false) (h3:isT (Cx.mk H j false) q.pos 1 sFunction=false) (h4:isT (Cx.mk H j false) q.pos 1 sPrint=false) (h5:isT (Cx.mk H j false) q.pos 1 sThrow=true):
  Calls Tryz.prog 21 #[pv (Cx.mk H j false) L E S q (-1) 0] w (Out (Cx.mk H j false) L E D (zo (Cx.mk H j false) q) 0 S w):=by
 have HM:=zc hm
 have ae:=hm.tok
 have K:(Cx.mk H j false).ts.length≤4000:=hm.few
 clear hm
 have HV:Hid (zo (Cx.mk H j false) q=bd (bd (bd (bd (.ok q) (zd (Cx.mk H j false) 1 sThrow)) (pE (Cx.mk H j false) .sum 0)) (zd (Cx.mk H j false) 4 cSemi)) (zE (Cx.mk H j false) 5 sNone)):=by show zo (Cx.mk H j false) q=_;rw[zo,h0,h1,h2,h3,h4,h5];rfl
 unfold pv
 go_enter Tryz.func21,Tryz.ntmps21
 go_wp2_with fail
 refine (zj (Cx.mk H j false) L E D S q (-1) 0 1 sImport _ (zv (zv ae _) _) K (by decide)).mono ?_
 rintro e w1 ⟨rfl,aE⟩
 rw[h0]
 obtain⟨X0,X1,m1,t1⟩:=HM.out.two aE
 have o:=zc X0
 have z:=zc X1
 have aj:=zc m1
 have aF:=zc t1
 clear X0 X1 m1 t1 aE
 clear ae
 obtain⟨U,a1,M,N,a4,O,a6,a7,V,Q,I,J,X⟩:=o.out.box
 go_wp2_with fail
 refine (zj (Cx.mk H j false) L E D S q (-1) 0 1 sExport _ aj.out.tok K (by decide)).mono ?_
 rintro e w2 ⟨rfl,aa⟩
 rw[h1]
 replace o:=zc (o.out.below aa)
 replace z:=zc (z.out.below aa)
 have aq:=zc (aF.out.below aa)
 have ah:=zc (aj.out.later aa)
 clear aa aF aj
 clear U a1 M N a4 O a6 a7 V Q I J X
 obtain⟨U,a1,M,N,a4,O,a6,a7,V,Q,I,J,X⟩:=o.out.box
 go_wp2_with fail
 refine (zj (Cx.mk H j false) L E D S q (-1) 0 1 sLet _ ah.out.tok K (by decide)).mono ?_
 rintro e w3 ⟨rfl,ac⟩
 rw[h2]
 replace o:=zc (o.out.below ac)
 replace z:=zc (z.out.below ac)
 have az:=zc (aq.out.below ac)
 have ak:=zc (ah.out.later ac)
 clear ac aq ah
 clear U a1 M N a4 O a6 a7 V Q I J X
 obtain⟨U,a1,M,N,a4,O,a6,a7,V,Q,I,J,X⟩:=o.out.box
 go_wp2_with fail
 refine (zj (Cx.mk H j false) L E D S q (-1) 0 1 sFunction _ ak.out.tok K (by decide)).mono ?_
 rintro e w4 ⟨rfl,Y⟩
 rw[h3]
 replace o:=zc (o.out.below Y)
 replace z:=zc (z.out.below Y)
 have av:=zc (az.out.below Y)
 have ag:=zc (ak.out.later Y)
 clear Y az ak
 clear U a1 M N a4 O a6 a7 V Q I J X
 obtain⟨U,a1,M,N,a4,O,a6,a7,V,Q,I,J,X⟩:=o.out.box
 go_wp2_with fail
 refine (zj (Cx.mk H j false) L E D S q (-1) 0 1 sPrint _ ag.out.tok K (by decide)).mono ?_
 rintro e w5 ⟨rfl,ab⟩
 rw[h4]
 replace o:=zc (o.out.below ab)
 replace z:=zc (z.out.below ab)
 have aG:=zc (av.out.below ab)
 have ai:=zc (ag.out.later ab)
 clear ab av ag
 clear U a1 M N a4 O a6 a7 V Q I J X
 obtain⟨U,a1,M,N,a4,O,a6,a7,V,Q,I,J,X⟩:=o.out.box
 go_wp2_with fail
 refine (zj (Cx.mk H j false) L E D S q (-1) 0 1 sThrow _ ai.out.tok K (by decide)).mono ?_
 rintro e w6 ⟨rfl,Z⟩
 rw[h5]
 replace o:=zc (o.out.below Z)
 replace z:=zc (z.out.below Z)
 have al:=zc (aG.out.below Z)
 have aw:=zc (ai.out.later Z)
 clear Z aG ai
 clear U a1 M N a4 O a6 a7 V Q I J X
 obtain⟨U,a1,M,N,a4,O,a6,a7,V,Q,I,J,X⟩:=o.out.box
 go_wp2_with fail
 refine (zaT (Cx.mk H j false) L E D (.ok q) S q (-1) 0 sThrow _ (zab q) aw.out).mono ?_
 rintro e w7 ⟨S7,q7,z7,rfl,i7,m7,s7⟩
 replace o:=zc (o.out.stp s7)
 replace z:=zc (z.out.stp s7)
 have ap:=zc (al.out.step s7)
 clear al
 have au:=zc m7
 have aI:=zc i7
 clear i7 m7 s7 aw
 clear U a1 M N a4 O a6 a7 V Q I J X
 go_wp2_with fail
 refine (zdp (Cx.mk H j false) L E D _ S7 q7 z7 _ aI.out au.out).mono ?_
 rintro e w8 ⟨S8,q8,z8,rfl,i8,m8,s8⟩
 replace o:=zc (o.out.stp s8)
 replace z:=zc (z.out.stp s8)
 have aA:=zc (ap.out.step s8)
 clear ap
 have an:=zc m8
 have aH:=zc i8
 clear i8 m8 s8 au
 go_wp2_with fail
 refine (zah (Cx.mk H j false) L E D _ S8 q8 z8 0 cSemi _ aH.out an.out).mono ?_
 rintro e w9 ⟨S9,q9,z9,rfl,i9,m9,s9⟩
 replace o:=zc (o.out.stp s9)
 replace z:=zc (z.out.stp s9)
 have ax:=zc (aA.out.step s9)
 clear aA
 have aB:=zc m9
 have aC:=zc i9
 clear i9 m9 s9 an
 go_wp2_with fail
 refine (zcY (Cx.mk H j false) L E D _ S9 q9 z9 0 5 sNone _ aC.out aB.out (zb5 aC.out)).mono ?_
 rintro e aK ⟨aO,aL,aM,rfl,ao,ay,ad⟩
 replace o:=zc (o.out.stp ad)
 replace z:=zc (z.out.stp ad)
 have aD:=zc (ax.out.step ad)
 clear ax
 have ar:=zc ay
 have am:=zc ao
 clear ao ay ad aB
 obtain⟨b0,b1,b2,b3,b4,b5,b6,b7,b8,b9,aJ,aN,bf⟩:=z.out.box
 unfold pv
 go_wp2
 refine bodyPost_ret (results_cell_row rfl _ _ (w.heap.size+1) 55 _ (0,0) _ rfl ((z.out.put ..)).heap Tryz.underlying55 rfl (by kernel_rfl)) rfl ?_
 rw[HV.out]
 exact zac rfl am.out (ar.out.put z.out ..) (aD.out.put (by omega) ..)
theorem zvy (E:List Tk) (j:Nat) (M H D:Nat) (S:Sv) (q:PS) (w:World) (hm:Mem (Cx.mk E j false) M H D S q w) (h0:isT (Cx.mk E j false) q.pos 1 sImport=false) (h1:isT (Cx.mk E j false) q.pos 1 sExport=false) (h2:isT (Cx.mk E j false) q.pos 1 sLet=false) (h3:isT (Cx.mk E j false) q.pos 1 sFunction=false) (h4:isT (Cx.mk E j false) q.pos 1 sPrint=false) (h5:isT (Cx.mk E j false) q.pos 1 sThrow=false):
  Calls Tryz.prog 21 #[pv (Cx.mk E j false) M H S q (-1) 0] w (Out (Cx.mk E j false) M H D (zo (Cx.mk E j false) q) 0 S w):=by
 have HM:=zc hm
 have am:=hm.tok
 have K:(Cx.mk E j false).ts.length≤4000:=hm.few
 clear hm
 have HV:Hid (zo (Cx.mk E j false) q=bd (bd (.ok q) (zk (Cx.mk E j false) false)) fun a=>bd (bd (bd (bd (.ok a.1) (zd (Cx.mk E j false) 4 cEq)) (pE (Cx.mk E j false) .sum 0)) (zd (Cx.mk E j false) 4 cSemi)) (zE (Cx.mk E j false) 3 a.2)):=by show zo (Cx.mk E j false) q=_;rw[zo,h0,h1,h2,h3,h4,h5];rfl
 unfold pv
 go_enter Tryz.func21,Tryz.ntmps21
 go_wp2_with fail
 refine (zj (Cx.mk E j false) M H D S q (-1) 0 1 sImport _ (zv (zv am _) _) K (by decide)).mono ?_
 rintro e w1 ⟨rfl,aQ⟩
 rw[h0]
 obtain⟨X0,X1,m1,t1⟩:=HM.out.two aQ
 have o:=zc X0
 have z:=zc X1
 have ar:=zc m1
 have aR:=zc t1
 clear X0 X1 m1 t1 aQ
 clear am
 obtain⟨Y,a1,N,Q,a4,U,a6,a7,Z,X,I,J,af⟩:=o.out.box
 go_wp2_with fail
 refine (zj (Cx.mk E j false) M H D S q (-1) 0 1 sExport _ ar.out.tok K (by decide)).mono ?_
 rintro e w2 ⟨rfl,ad⟩
 rw[h1]
 replace o:=zc (o.out.below ad)
 replace z:=zc (z.out.below ad)
 have aC:=zc (aR.out.below ad)
 have ap:=zc (ar.out.later ad)
 clear ad aR ar
 clear Y a1 N Q a4 U a6 a7 Z X I J af
 obtain⟨Y,a1,N,Q,a4,U,a6,a7,Z,X,I,J,af⟩:=o.out.box
 go_wp2_with fail
 refine (zj (Cx.mk E j false) M H D S q (-1) 0 1 sLet _ ap.out.tok K (by decide)).mono ?_
 rintro e w3 ⟨rfl,ag⟩
 rw[h2]
 replace o:=zc (o.out.below ag)
 replace z:=zc (z.out.below ag)
 have aL:=zc (aC.out.below ag)
 have au:=zc (ap.out.later ag)
 clear ag aC ap
 clear Y a1 N Q a4 U a6 a7 Z X I J af
 obtain⟨Y,a1,N,Q,a4,U,a6,a7,Z,X,I,J,af⟩:=o.out.box
 go_wp2_with fail
 refine (zj (Cx.mk E j false) M H D S q (-1) 0 1 sFunction _ au.out.tok K (by decide)).mono ?_
 rintro e w4 ⟨rfl,ab⟩
 rw[h3]
 replace o:=zc (o.out.below ab)
 replace z:=zc (z.out.below ab)
 have aF:=zc (aL.out.below ab)
 have an:=zc (au.out.later ab)
 clear ab aL au
 clear Y a1 N Q a4 U a6 a7 Z X I J af
 obtain⟨Y,a1,N,Q,a4,U,a6,a7,Z,X,I,J,af⟩:=o.out.box
 go_wp2_with fail
 refine (zj (Cx.mk E j false) M H D S q (-1) 0 1 sPrint _ an.out.tok K (by decide)).mono ?_
 rintro e w5 ⟨rfl,ae⟩
 rw[h4]
 replace o:=zc (o.out.below ae)
 replace z:=zc (z.out.below ae)
 have aS:=zc (aF.out.below ae)
 have aq:=zc (an.out.later ae)
 clear ae aF an
 clear Y a1 N Q a4 U a6 a7 Z X I J af
 obtain⟨Y,a1,N,Q,a4,U,a6,a7,Z,X,I,J,af⟩:=o.out.box
 go_wp2_with fail
 refine (zj (Cx.mk E j false) M H D S q (-1) 0 1 sThrow _ aq.out.tok K (by decide)).mono ?_
 rintro e w6 ⟨rfl,ac⟩
 rw[h5]
 replace o:=zc (o.out.below ac)
 replace z:=zc (z.out.below ac)
 have av:=zc (aS.out.below ac)
 have aG:=zc (aq.out.later ac)
 clear ac aS aq
 clear Y a1 N Q a4 U a6 a7 Z X I J af
 obtain⟨Y,a1,N,Q,a4,U,a6,a7,Z,X,I,J,af⟩:=o.out.box
 go_wp2_with fail
 refine (zbz (Cx.mk E j false) M H D (.ok q) S q (-1) 0 false _ (zab q) aG.out).mono ?_
 rintro e w7 ⟨S7,q7,z7,n7,rfl,i7,m7,s7⟩
 replace o:=zc (o.out.stp s7)
 replace z:=zc (z.out.stp s7)
 have aB:=zc (av.out.step s7)
 clear av
 have ao:=zc m7
 have aP:=zc i7
 clear i7 m7 s7 aG
 clear Y a1 N Q a4 U a6 a7 Z X I J af
 have bc:w.heap.size+1<w7.heap.size:=z.out.lt
 unfold pv
 go_upto_region 19 with fail
 refine zQ (R:=fun W=>Bx M S7 W (w.heap.size) _∧Bx M S7 W (w.heap.size+1) _∧Bx M S7 W (w7.heap.size) _∧Mem (Cx.mk E j false) M H D S7 q7 W∧SB w.heap.size S w S7 W) ⟨(o.out.alloc _),(z.out.alloc _),(Bx.new ao.out _),(ao.out.alloc _),(aB.out.alloc _)⟩ ?_
 clear o z aB ao
 rintro w8 ⟨X0,X1,X2,m8,t8⟩
 have o:=zc X0
 have z:=zc X1
 have L:=zc X2
 have az:=zc m8
 have aN:=zc t8
 clear m8 t8 X0 X1 X2
 obtain⟨c0,c1,c2,c3,c4,c5,c6,c7,c8,c9,aU,aW,cf⟩:=L.out.box
 go_wp2_with fail
 refine (zah (Cx.mk E j false) M H D _ S7 q7 z7 0 cEq _ aP.out.fst az.out).mono ?_
 rintro e w9 ⟨S9,q9,z9,rfl,i9,m9,s9⟩
 replace o:=zc (o.out.stp s9)
 replace z:=zc (z.out.stp s9)
 replace L:=zc (L.out.stp s9)
 have aH:=zc (aN.out.step s9)
 clear aN
 have aO:=zc m9
 have ba:=zc i9
 clear i9 m9 s9 az
 clear c0 c1 c2 c3 c4 c5 c6 c7 c8 c9 aU aW cf
 go_wp2_with fail
 refine (zdp (Cx.mk E j false) M H D _ S9 q9 z9 _ ba.out aO.out).mono ?_
 rintro e bl ⟨bb,aX,aY,rfl,aA,aK,O⟩
 replace o:=zc (o.out.stp O)
 replace z:=zc (z.out.stp O)
 replace L:=zc (L.out.stp O)
 have ak:=zc (aH.out.step O)
 clear aH
 have aj:=zc aK
 have ax:=zc aA
 clear aA aK O aO
 go_wp2_with fail
 refine (zah (Cx.mk E j false) M H D _ bb aX aY 0 cSemi _ ax.out aj.out).mono ?_
 rintro e bk ⟨aZ,aT,aV,rfl,ay,aM,aa⟩
 replace o:=zc (o.out.stp aa)
 replace z:=zc (z.out.stp aa)
 replace L:=zc (L.out.stp aa)
 have al:=zc (ak.out.step aa)
 clear ak
 have ai:=zc aM
 have ah:=zc ay
 clear ay aM aa aj
 go_wp2_with fail
 refine (zcY (Cx.mk E j false) M H D _ aZ aT aV 0 3 n7 _ ah.out ai.out (zb5 ah.out)).mono ?_
 rintro e bi ⟨bm,bj,bg,rfl,aw,aE,V⟩
 replace o:=zc (o.out.stp V)
 replace z:=zc (z.out.stp V)
 replace L:=zc (L.out.stp V)
 have aD:=zc (al.out.step V)
 clear al
 have aI:=zc aE
 have aJ:=zc aw
 clear aw aE V ai
 obtain⟨b0,b1,b2,b3,b4,b5,b6,b7,b8,b9,be,bo,bf⟩:=z.out.box
 unfold pv
 go_wp2
 refine bodyPost_ret (results_cell_row rfl _ _ (w.heap.size+1) 55 _ (0,0) _ rfl ((z.out.put ..)).heap Tryz.underlying55 rfl (by kernel_rfl)) rfl ?_
 rw[HV.out,←aP.out.bind (fun q n=>bd (bd (bd (bd (.ok q) (zd (Cx.mk E j false) 4 cEq)) (pE (Cx.mk E j false) .sum 0)) (zd (Cx.mk E j false) 4 cSemi)) (zE (Cx.mk E j false) 3 n)),←zmK]
 exact zac rfl aJ.out (aI.out.put z.out ..) (aD.out.put (by omega) ..)
theorem zvz (D:List Tk) (j:Nat) (E z o:Nat) (S:Sv) (q:PS) (w:World) (I:Mem (Cx.mk D j false) E z o S q w):
  Calls Tryz.prog 21 #[pv (Cx.mk D j false) E z S q (-1) 0] w (Out (Cx.mk D j false) E z o (zo (Cx.mk D j false) q) 0 S w):=by
 cases H:isT (Cx.mk D j false) q.pos 1 sImport with
 |true=>exact zvs D j E z o S q w I H
 |false=>
  cases J:isT (Cx.mk D j false) q.pos 1 sExport with
  |true=>exact zvt D j E z o S q w I H J
  |false=>
   cases K:isT (Cx.mk D j false) q.pos 1 sLet with
   |true=>exact zvu D j E z o S q w I H J K
   |false=>
    cases L:isT (Cx.mk D j false) q.pos 1 sFunction with
    |true=>exact zvv D j E z o S q w I H J K L
    |false=>
     cases M:isT (Cx.mk D j false) q.pos 1 sPrint with
     |true=>exact zvw D j E z o S q w I H J K L M
     |false=>
      cases N:isT (Cx.mk D j false) q.pos 1 sThrow with
      |true=>exact zvx D j E z o S q w I H J K L M N
      |false=>
       exact zvy D j E z o S q w I H J K L M N
theorem zv0 (C:Cx) (D o j:Nat) (S:Sv) (q:PS) (w:World) (H:Mem C D o j S q w):
  Calls Tryz.prog 21 #[pv C D o S q (-1) 0] w (Out C D o j (zo C q) 0 S w):=by
 obtain⟨I,z,E⟩:=C
 cases E with
 |true=>exact zvr I z D o j S q w H
 |false=>exact zvz I z D o j S q w H
theorem zmL (s:ByteArray) (scr:Bool) (w:World) (hs:s.size≤4294967296):
  Calls Tryz.prog 7 #[.string s,.bool scr] w fun e w'=>ParseOut s scr w e w'∧Below w.heap.size w w':=by
 obtain⟨i0,hi,ap,ax,av⟩:=info_parts Tryz.infoExp
 go_enter Tryz.func7,Tryz.ntmps7
 go_wp2_with fail
 refine (zjN s scr _ hs).mono ?_
 rintro e U ⟨⟨r1,L,Q⟩,b1⟩
 have ac:Hid (Below w.heap.size w U):=((Below.refl _ _).alloc (Nat.le_refl _) _).trans (b1.mono (by rw[zW];omega))
 have hG:U.heap[w.heap.size]? =some (.cells #[.slice none 0 0,.slice none 0 0,.slice none 0 0,.slice none 0 0,.slice none 0 0] 32 (0,0)):=(b1.block _ (by rw[zW];omega)).trans (heap_alloc_new w _)
 rw[zW] at b1
 cases r1 with
 |error p=>
  obtain⟨g,M,rfl,o⟩:=Q
  have HY:Hid (za8 s scr (.error p)):=⟨_,L,rfl⟩
  have HG:=zc hG
  obtain⟨c0,c1,c2,c3,c4,cf⟩:=zaa hG
  have dz:decide ((0:Int)≤(p:Int))=true:=decide_eq_true (by omega)
  clear o L b1 hG
  go_wp2
  refine bodyPost_ret (zaK rfl _ _ w.heap.size 32 _ (0,0) _ rfl (zei HG.out) Tryz.underlying32 rfl (by kernel_rfl)) rfl ?_
  exact⟨⟨_,HY.out,rfl⟩,zej ac.out (Nat.le_refl _) _ _ _ _ _⟩
 |ok z=>
  obtain⟨g,n,M,rfl,o⟩:=Q
  obtain rfl:n=z.length:=o.2
  rw[zW] at o
  have ah:w.heap.size+1≤U.heap.size:=by have:=b1.size;rw[zW] at this;exact this
  have ag:=zg0 L
  have HR:=zc L
  have ai:Mem ⟨z,s.size,scr⟩ g M (w.heap.size+1) S0 startP U:=zjC o ag ah
  have ak:=zc ai
  have HG:=zc hG
  clear o L ai hG
  go_wp2
  go_loopg [] (z.length+1) (fun k wr=>∃(x':PR) (E:Sv) (V:PS) (z':Int),Is x' V z'∧bd x' (zM ⟨z,s.size,scr⟩)=zM ⟨z,s.size,scr⟩ startP∧(z'<0→z.length-V.pos<k)∧Mem ⟨z,s.size,scr⟩ g M (w.heap.size+1) E V wr∧Below w.heap.size w wr∧Bx g E wr U.heap.size #[.slice (some ⟨g,0,none⟩) z.length M,.int .i64 V.pos,.int .i64 s.size,.bool scr,.slice E.rq.a V.rq.length E.rq.cap,.slice E.im.a V.im.length E.im.cap,.slice E.ep.a V.ep.length E.ep.cap,.slice E.st.a V.st.length E.st.cap,.slice E.ex.a V.ex.length E.ex.cap,.slice E.la.a V.la.length E.la.cap,.int .i64 z',.int .i64 0]∧wr.heap[w.heap.size]? =some (.cells #[.slice none 0 0,.slice none 0 0,.slice none 0 0,.slice none 0 0,.slice none 0 0] 32 (0,0)))
  case atStart=>exact⟨.ok startP,S0,startP,-1,zab _,rfl,fun _=>by show z.length-0<z.length+1;omega,ak.out.alloc _,ac.out.alloc ac.out.size _,Bx.new ak.out _,(Below.heap_alloc _ _ _ (by omega)).trans HG.out⟩
  case round=>
   obtain⟨x2,S2,I,z2,i2,e2,l2,m2,t2,X0,G2⟩:=hrel
   have al:=zc i2
   have ad:=zc e2
   have aq:=zc l2
   have j:=zc m2
   have Y:=zc t2
   have K:=zc X0
   have H:=zc G2
   have aC:I.pos≤z.length:=m2.inv.pos
   obtain⟨a0,a1,a2,a3,a4,a5,a6,a7,a8,a9,X,ab,af⟩:=X0.box
   clear i2 e2 l2 m2 t2 X0 G2
   by_cases hz:z2<0
   ·have dz:decide (z2<0)=true:=decide_eq_true hz
    obtain⟨rfl,rfl⟩:=zaF al.out hz
    by_cases hp:I.pos<z.length
    ·have aB:=aq.out hz
     go_wp2_with fail
     refine (zv0 ⟨z,s.size,scr⟩ g M (w.heap.size+1) S2 I _ j.out).mono ?_
     rintro e w3 ⟨S3,q3,z3,rfl,i3,m3,s3⟩
     have ay:=zc m3
     have ae:=zc i3
     have aa:Hid (Below (w.heap.size+1) wr w3):=s3.under j.out.base j.out.own
     have N:Hid (Bx g S3 w3 U.heap.size _):=K.out.stp s3
     have aw:Hid (Below w.heap.size w w3):=Y.out.trans (aa.out.mono (by omega))
     have Z:Hid (w3.heap[w.heap.size]? =some (.cells #[.slice none 0 0,.slice none 0 0,.slice none 0 0,.slice none 0 0,.slice none 0 0] 32 (0,0))):=(aa.out.block _ (by omega)).trans H.out
     have HE:Hid (bd (zo ⟨z,s.size,scr⟩ I) (zM ⟨z,s.size,scr⟩)=zM ⟨z,s.size,scr⟩ startP):=by
      show _=_
      rw[←ad.out,zh,zeQ,if_pos hp]
     have HP:Hid (z3<0→I.pos<q3.pos):=fun h=>zgz (zaF ae.out h).1
     clear i3 m3 s3 a0 a1 a2 a3 a4 a5 a6 a7 a8 a9 X ab af
     obtain⟨a0,a1,a2,a3,a4,a5,a6,a7,a8,a9,X,ab,af⟩:=N.out.box
     unfold pv
     go_wp2
     go_roundg (gk-1)
     case rel=>exact⟨_,S3,q3,z3,ae.out,HE.out,fun h=>by have:=HP.out h;omega,ay.out.put N.out _ _ _ _ _ _ _ _ _ _ _ _,zbX aw.out (by omega) _ _ _ _ _ _ _ _ _ _ _ _,N.out.put _ _ _ _ _ _ _ _ _ _ _ _,(zgi (by omega) ..).trans Z.out⟩
     case measure=>omega
    ·have HD:Hid (zM ⟨z,s.size,scr⟩ startP= .ok I):=by
      show _=_
      rw[←ad.out,zh,zeQ,if_neg hp]
     have HY:Hid (za8 s scr (.ok I)):=⟨_,HR.out,HD.out.symm⟩
     have an:U.heap.size<wr.heap.size:=K.out.lt
     have az:=j.out.inv.ep
     have D:=j.out.own.ep
     have aa:=j.out.base
     rcases j.out.own.la.nil_or with ⟨ha,hc,hn⟩|⟨gl,ha⟩
     ·have HN:Hid (I.la=[]):=List.eq_nil_of_length_eq_zero hn
      rw[ha,hc,hn] at a9
      obtain⟨c0,c1,c2,c3,c4,cf⟩:=zaa H.out
      clear ha hc hn
      go_wp2_with (at_builtin;refine znY _ rfl _ _ 28 rfl 77 i0 Tryz.underlying28 hi (w.heap.size+1) 4 I.ep.length S2.ep _ (by rfl) D (by rfl) ?_)
      clear D
      go_wp2
      refine bodyPost_ret (zaK rfl _ _ w.heap.size 32 _ (0,0) _ rfl (zei ((zx (by omega)).trans H.out)) Tryz.underlying32 rfl (by kernel_rfl)) rfl ?_
      refine⟨⟨_,HY.out,S2,by simp[zg1,HN.out],j.out.whole0 HN.out (Nat.lt_succ_self _) K.out.free fun k O h2=>?_⟩,zej (Y.out.setCell (by show _≤U.heap.size;omega) _) (Nat.le_refl _) _ _ _ _ _⟩
      rw[zx O,zx O,zx O,zx O,zx O,zx h2]
     ·have am:OwnR wr (w.heap.size+1) 77 4 ⟨some ⟨gl,0,none⟩,S2.la.cap⟩ I.la.length (I.la.flatMap epL):=by have:=j.out.own.la;unfold OwnR at this ⊢;rw[ha] at this;exact this
      rw[ha] at a9
      go_wp2_with (at_builtin;refine znX _ rfl _ _ 28 rfl (w.heap.size+1) 77 i0 _ 4 56 Tryz.underlying28 hi ap ax av rfl (by decide) (by decide) S2.ep I.ep.length _ (by rfl) D gl I.la.length S2.la.cap (w.heap.size+1) _ (by rfl) am (zhJ _) (by omega) aa ?_)
      intro r' w3 hr hg aj
      have au:=zc hr
      have J:=zc hg
      have ao:=zc aj
      have ar:=fun b hb=>zep (W:=wr) j.out.own (Nat.le_refl _) (r:=S2.ep.blk) (fun k e=>.inr (.inr (.inl e))) b hb
      have N:Hid (w3.heap[U.heap.size]? =_):=(hg.block _ an (fun e=>K.out.free (.inr (.inr (.inl e.symm))))).trans K.out.heap
      have Z:Hid (w3.heap[w.heap.size]? =_):=(hg.block _ (by omega) (fun e=>by have:=(D.typed e.symm).1;omega)).trans H.out
      clear a0 a1 a2 a3 a4 a5 a6 a7 a8 a9 X ab af hr hg aj ar D am
      obtain⟨a0,a1,a2,a3,a4,a5,a6,a7,a8,a9,X,ab,af⟩:=zao N.out
      obtain⟨c0,c1,c2,c3,c4,cf⟩:=zaa Z.out
      go_wp2
      refine bodyPost_ret (zaK rfl _ _ w.heap.size 32 _ (0,0) _ rfl (zei ((zx (by omega)).trans Z.out)) Tryz.underlying32 rfl (by kernel_rfl)) rfl ?_
      refine⟨⟨_,HY.out,{S2 with ep:=r'},by simp[zg1],j.out.whole J.out au.out ao.out (Nat.lt_succ_self _) an K.out.free fun k O h2=>?_⟩,zej ((Y.out.trans (Below.mono (B:=w.heap.size+1) ⟨J.out.os,J.out.tape,J.out.output,J.out.size,fun k hk=>J.out.block k (by omega) fun e=>by have:=(j.out.own.ep.typed e.symm).1;omega⟩ (by omega))).setCell (by show _≤U.heap.size;omega) _) (Nat.le_refl _) _ _ _ _ _⟩
      rw[zx O,zx O,zx O,zx O,zx O,zx h2]
   ·have dz:decide (z2<0)=false:=decide_eq_false hz
    obtain⟨e0,rfl,rfl⟩:=zd2 al.out hz
    have aA:decide ((0:Int)≤(e0:Int))=true:=decide_eq_true (by omega)
    have HY:Hid (za8 s scr (.error e0)):=⟨_,HR.out,(show (.error e0:PR)=zM ⟨z,s.size,scr⟩ startP from ad.out)⟩
    obtain⟨c0,c1,c2,c3,c4,cf⟩:=zaa H.out
    go_wp2
    go_region
    all_goals
     go_wp2
     refine bodyPost_ret (zaK rfl _ _ w.heap.size 32 _ (0,0) _ rfl (zei H.out) Tryz.underlying32 rfl (by kernel_rfl)) rfl ?_
     exact⟨⟨_,HY.out,rfl⟩,(zej Y.out (Nat.le_refl _) ..).drew⟩
theorem zmM (a:Option Addr) (j o:Nat) (w:World) (_:j≤9223372036854775807):
  Calls Tryz.prog 4 #[.slice a j o] w fun e z=>e= .returned (.bool (decide ((1048576:Int)<j)))∧z=w:=by
 go_enter Tryz.func4,Tryz.ntmps4
 go_wp2
 go_ret
 exact⟨rfl,rfl⟩
end Go.Proofs.YthfeoomfiafldaaGreat
