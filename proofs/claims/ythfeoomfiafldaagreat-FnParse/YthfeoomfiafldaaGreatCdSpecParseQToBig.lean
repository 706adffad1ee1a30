/-
  What spec's l4Item answers outside of a script: the walks.
  What spec.Parse answers: the walk.
  What laws.big answers: the walk.
-/
import Derived.Test.YthfeoomfiafldaaGreatCdSpecParseMToSpecParseP
namespace Go.Proofs.YthfeoomfiafldaaGreat
set_option maxRecDepth 100000
set_option maxHeartbeats 6400000
open Go.RowKit Go.PlainAid
theorem zvs (D:List Tk) (j:Nat) (M E o:Nat) (S:Sv) (q:PS) (w:World) (O:Mem (Cx.mk D j false) M E o S q w) (Z:isT (Cx.mk D j false) q.pos 1 sImport=true):
  Calls Tryz.prog 21 #[pv (Cx.mk D j false) M E S q (-1) 0] w (Out (Cx.mk D j false) M E o (zo (Cx.mk D j false) q) 0 S w):=by
 have HM:=zc O
 have H:=O.tok
 have N:(Cx.mk D j false).ts.length≤4000:=O.few
 clear O
 have HV:Hid (zo (Cx.mk D j false) q=za3 (Cx.mk D j false) q):=by show zo (Cx.mk D j false) q=_;rw[zo,Z];rfl
 unfold pv
 go_enter Tryz.func21,Tryz.ntmps21
 go_wp2_with fail
 refine (zj (Cx.mk D j false) M E o S q (-1) 0 1 sImport _ (zv (zv H _) _) N (by decide)).mono ?_
 rintro e w1 ⟨rfl,L⟩
 rw[Z]
 obtain⟨X0,X1,m1,t1⟩:=HM.out.two L
 have I:=zc X0
 have z:=zc X1
 have J:=zc m1
 have K:=zc t1
 clear X0 X1 m1 t1 L
 clear H
 obtain⟨a0,a1,a2,a3,a4,a5,a6,a7,a8,a9,aa,X,af⟩:=I.out.box
 go_wp2_with fail
 refine (zvj (Cx.mk D j false) M E o S q _ J.out Z).mono ?_
 rintro e w2 ⟨S2,q2,z2,rfl,i2,m2,Q⟩
 replace I:=zc (I.out.stp Q)
 replace z:=zc (z.out.stp Q)
 have V:=zc (K.out.step Q)
 clear K
 have Y:=zc m2
 have U:=zc i2
 clear i2 m2 Q J
 clear a0 a1 a2 a3 a4 a5 a6 a7 a8 a9 aa X af
 obtain⟨b0,b1,b2,b3,b4,b5,b6,b7,b8,b9,ab,ac,bf⟩:=z.out.box
 unfold pv
 go_wp2
 refine bodyPost_ret (results_cell_row rfl _ _ (w.heap.size+1) 55 _ (0,0) _ rfl ((z.out.put ..)).heap Tryz.underlying55 rfl (by kernel_rfl)) rfl ?_
 rw[HV.out]
 exact zac rfl U.out (Y.out.put z.out ..) (V.out.put (by omega) ..)
theorem zvt (D:List Tk) (j:Nat) (O H o:Nat) (S:Sv) (q:PS) (w:World) (Y:Mem (Cx.mk D j false) O H o S q w) (h0:isT (Cx.mk D j false) q.pos 1 sImport=false) (h1:isT (Cx.mk D j false) q.pos 1 sExport=true):
  Calls Tryz.prog 21 #[pv (Cx.mk D j false) O H S q (-1) 0] w (Out (Cx.mk D j false) O H o (zo (Cx.mk D j false) q) 0 S w):=by
 have HM:=zc Y
 have J:=Y.tok
 have K:(Cx.mk D j false).ts.length≤4000:=Y.few
 clear Y
 have HV:Hid (zo (Cx.mk D j false) q=zV (Cx.mk D j false) q):=by show zo (Cx.mk D j false) q=_;rw[zo,h0,h1];rfl
 unfold pv
 go_enter Tryz.func21,Tryz.ntmps21
 go_wp2_with fail
 refine (zj (Cx.mk D j false) O H o S q (-1) 0 1 sImport _ (zv (zv J _) _) K (by decide)).mono ?_
 rintro e w1 ⟨rfl,V⟩
 rw[h0]
 obtain⟨X0,X1,m1,t1⟩:=HM.out.two V
 have E:=zc X0
 have z:=zc X1
 have L:=zc m1
 have U:=zc t1
 clear X0 X1 m1 t1 V
 clear J
 obtain⟨a0,a1,a2,a3,a4,a5,a6,a7,a8,a9,N,M,af⟩:=E.out.box
 go_wp2_with fail
 refine (zj (Cx.mk D j false) O H o S q (-1) 0 1 sExport _ L.out.tok K (by decide)).mono ?_
 rintro e w2 ⟨rfl,I⟩
 rw[h1]
 replace E:=zc (E.out.below I)
 replace z:=zc (z.out.below I)
 have Q:=zc (U.out.below I)
 have X:=zc (L.out.later I)
 clear I U L
 clear a0 a1 a2 a3 a4 a5 a6 a7 a8 a9 N M af
 obtain⟨a0,a1,a2,a3,a4,a5,a6,a7,a8,a9,N,M,af⟩:=E.out.box
 go_wp2_with fail
 refine (zvk (Cx.mk D j false) O H o S q _ X.out h1).mono ?_
 rintro e w3 ⟨S3,q3,z3,rfl,i3,m3,Z⟩
 replace E:=zc (E.out.stp Z)
 replace z:=zc (z.out.stp Z)
 have aa:=zc (Q.out.step Z)
 clear Q
 have ac:=zc m3
 have ab:=zc i3
 clear i3 m3 Z X
 clear a0 a1 a2 a3 a4 a5 a6 a7 a8 a9 N M af
 obtain⟨b0,b1,b2,b3,b4,b5,b6,b7,b8,b9,ad,ae,bf⟩:=z.out.box
 unfold pv
 go_wp2
 refine bodyPost_ret (results_cell_row rfl _ _ (w.heap.size+1) 55 _ (0,0) _ rfl ((z.out.put ..)).heap Tryz.underlying55 rfl (by kernel_rfl)) rfl ?_
 rw[HV.out]
 exact zac rfl ab.out (ac.out.put z.out ..) (aa.out.put (by omega) ..)
theorem zvu (H:List Tk) (j:Nat) (J E D:Nat) (S:Sv) (q:PS) (w:World) (hm:Mem (Cx.mk H j false) J E D S q w) (h0:isT (Cx.mk H j false) q.pos 1 sImport=false) (h1:isT (Cx.mk H j false) q.pos 1 sExport=false) (h2:isT (Cx.mk H j false) q.pos 1 sLet=true):
  Calls Tryz.prog 21 #[pv (Cx.mk H j false) J E S q (-1) 0] w (Out (Cx.mk H j false) J E D (zo (Cx.mk H j false) q) 0 S w):=by
 have HM:=zc hm
 have O:=hm.tok
 have K:(Cx.mk H j false).ts.length≤4000:=hm.few
 clear hm
 have HV:Hid (zo (Cx.mk H j false) q=za7 (zbA (Cx.mk H j false) q)):=by show zo (Cx.mk H j false) q=_;rw[zo,h0,h1,h2];rfl
 unfold pv
 go_enter Tryz.func21,Tryz.ntmps21
 go_wp2_with fail
 refine (zj (Cx.mk H j false) J E D S q (-1) 0 1 sImport _ (zv (zv O _) _) K (by decide)).mono ?_
 rintro e w1 ⟨rfl,ad⟩
 rw[h0]
 obtain⟨X0,X1,m1,t1⟩:=HM.out.two ad
 have z:=zc X0
 have o:=zc X1
 have U:=zc m1
 have ab:=zc t1
 clear X0 X1 m1 t1 ad
 clear O
 obtain⟨a0,a1,Y,a3,a4,a5,a6,a7,a8,X,L,I,af⟩:=z.out.box
 go_wp2_with fail
 refine (zj (Cx.mk H j false) J E D S q (-1) 0 1 sExport _ U.out.tok K (by decide)).mono ?_
 rintro e w2 ⟨rfl,M⟩
 rw[h1]
 replace z:=zc (z.out.below M)
 replace o:=zc (o.out.below M)
 have ae:=zc (ab.out.below M)
 have V:=zc (U.out.later M)
 clear M ab U
 clear a0 a1 Y a3 a4 a5 a6 a7 a8 X L I af
 obtain⟨a0,a1,Y,a3,a4,a5,a6,a7,a8,X,L,I,af⟩:=z.out.box
 go_wp2_with fail
 refine (zj (Cx.mk H j false) J E D S q (-1) 0 1 sLet _ V.out.tok K (by decide)).mono ?_
 rintro e w3 ⟨rfl,N⟩
 rw[h2]
 replace z:=zc (z.out.below N)
 replace o:=zc (o.out.below N)
 have Z:=zc (ae.out.below N)
 have ac:=zc (V.out.later N)
 clear N ae V
 clear a0 a1 Y a3 a4 a5 a6 a7 a8 X L I af
 obtain⟨a0,a1,Y,a3,a4,a5,a6,a7,a8,X,L,I,af⟩:=z.out.box
 go_wp2_with fail
 refine (zji (Cx.mk H j false) J E D S q _ ac.out).mono ?_
 rintro e w4 ⟨S4,q4,z4,n4,rfl,i4,m4,s4⟩
 replace z:=zc (z.out.stp s4)
 replace o:=zc (o.out.stp s4)
 have aa:=zc (Z.out.step s4)
 clear Z
 have Q:=zc m4
 have ai:=zc i4
 clear i4 m4 s4 ac
 clear a0 a1 Y a3 a4 a5 a6 a7 a8 X L I af
 have ak:w.heap.size+1<w4.heap.size:=o.out.lt
 unfold pv
 go_upto_region 7 with fail
 refine zQ (R:=fun W=>Bx J S4 W (w.heap.size) _∧Bx J S4 W (w.heap.size+1) _∧Bx J S4 W (w4.heap.size) _∧Mem (Cx.mk H j false) J E D S4 q4 W∧SB w.heap.size S w S4 W) ⟨(z.out.alloc _),(o.out.alloc _),(Bx.new Q.out _),(Q.out.alloc _),(aa.out.alloc _)⟩ ?_
 clear z o aa Q
 rintro w5 ⟨X0,X1,X2,m5,t5⟩
 have z:=zc X0
 have o:=zc X1
 have aj:=zc X2
 have ag:=zc m5
 have ah:=zc t5
 clear m5 t5 X0 X1 X2
 obtain⟨b0,b1,b2,b3,b4,b5,b6,b7,b8,b9,al,ao,bf⟩:=o.out.box
 obtain⟨c0,c1,c2,c3,c4,c5,c6,c7,c8,c9,an,am,cf⟩:=aj.out.box
 go_wp2
 refine bodyPost_ret (results_cell_row rfl _ _ (w.heap.size+1) 55 _ (0,0) _ rfl ((o.out.put ..)).heap Tryz.underlying55 rfl (by kernel_rfl)) rfl ?_
 rw[HV.out]
 exact zac rfl ai.out.fst (ag.out.put o.out ..) (ah.out.put (by omega) ..)
theorem zvv (H:List Tk) (j:Nat) (L E D:Nat) (S:Sv) (q:PS) (w:World) (hm:Mem (Cx.mk H j false) L E D S q w) (h0:isT (Cx.mk H j false) q.pos 1 sImport=false) (h1:isT (Cx.mk H j false) q.pos 1 sExport=false) (h2:isT (Cx.mk H j false) q.pos 1 sLet=false) (h3:isT (Cx.mk H j false) q.pos 1 sFunction=true):
  Calls Tryz.prog 21 #[pv (Cx.mk H j false) L E S q (-1) 0] w (Out (Cx.mk H j false) L E D (zo (Cx.mk H j false) q) 0 S w):=by
 have HM:=zc hm
 have Q:=hm.tok
 have K:(Cx.mk H j false).ts.length≤4000:=hm.few
 clear hm
 have HV:Hid (zo (Cx.mk H j false) q=za7 (fnP (Cx.mk H j false) q)):=by show zo (Cx.mk H j false) q=_;rw[zo,h0,h1,h2,h3];rfl
 unfold pv
 go_enter Tryz.func21,Tryz.ntmps21
 go_wp2_with fail
 refine (zj (Cx.mk H j false) L E D S q (-1) 0 1 sImport _ (zv (zv Q _) _) K (by decide)).mono ?_
 rintro e w1 ⟨rfl,ai⟩
 rw[h0]
 obtain⟨X0,X1,m1,t1⟩:=HM.out.two ai
 have o:=zc X0
 have z:=zc X1
 have Y:=zc m1
 have ah:=zc t1
 clear X0 X1 m1 t1 ai
 clear Q
 obtain⟨a0,a1,X,a3,a4,a5,a6,a7,a8,V,J,I,Z⟩:=o.out.box
 go_wp2_with fail
 refine (zj (Cx.mk H j false) L E D S q (-1) 0 1 sExport _ Y.out.tok K (by decide)).mono ?_
 rintro e w2 ⟨rfl,N⟩
 rw[h1]
 replace o:=zc (o.out.below N)
 replace z:=zc (z.out.below N)
 have aj:=zc (ah.out.below N)
 have ab:=zc (Y.out.later N)
 clear N ah Y
 clear a0 a1 X a3 a4 a5 a6 a7 a8 V J I Z
 obtain⟨a0,a1,X,a3,a4,a5,a6,a7,a8,V,J,I,Z⟩:=o.out.box
 go_wp2_with fail
 refine (zj (Cx.mk H j false) L E D S q (-1) 0 1 sLet _ ab.out.tok K (by decide)).mono ?_
 rintro e w3 ⟨rfl,O⟩
 rw[h2]
 replace o:=zc (o.out.below O)
 replace z:=zc (z.out.below O)
 have ad:=zc (aj.out.below O)
 have aa:=zc (ab.out.later O)
 clear O aj ab
 clear a0 a1 X a3 a4 a5 a6 a7 a8 V J I Z
 obtain⟨a0,a1,X,a3,a4,a5,a6,a7,a8,V,J,I,Z⟩:=o.out.box
 go_wp2_with fail
 refine (zj (Cx.mk H j false) L E D S q (-1) 0 1 sFunction _ aa.out.tok K (by decide)).mono ?_
 rintro e w4 ⟨rfl,M⟩
 rw[h3]
 replace o:=zc (o.out.below M)
 replace z:=zc (z.out.below M)
 have ag:=zc (ad.out.below M)
 have ac:=zc (aa.out.later M)
 clear M ad aa
 clear a0 a1 X a3 a4 a5 a6 a7 a8 V J I Z
 obtain⟨a0,a1,X,a3,a4,a5,a6,a7,a8,V,J,I,Z⟩:=o.out.box
 go_wp2_with fail
 refine (zjj (Cx.mk H j false) L E D S q _ ac.out).mono ?_
 rintro e w5 ⟨S5,q5,z5,n5,rfl,i5,m5,s5⟩
 replace o:=zc (o.out.stp s5)
 replace z:=zc (z.out.stp s5)
 have ae:=zc (ag.out.step s5)
 clear ag
 have U:=zc m5
 have al:=zc i5
 clear i5 m5 s5 ac
 clear a0 a1 X a3 a4 a5 a6 a7 a8 V J I Z
 have ao:w.heap.size+1<w5.heap.size:=z.out.lt
 unfold pv
 go_upto_region 10 with fail
 refine zQ (R:=fun W=>Bx L S5 W (w.heap.size) _∧Bx L S5 W (w.heap.size+1) _∧Bx L S5 W (w5.heap.size) _∧Mem (Cx.mk H j false) L E D S5 q5 W∧SB w.heap.size S w S5 W) ⟨(o.out.alloc _),(z.out.alloc _),(Bx.new U.out _),(U.out.alloc _),(ae.out.alloc _)⟩ ?_
 clear o z ae U
 rintro w6 ⟨X0,X1,X2,m6,t6⟩
 have o:=zc X0
 have z:=zc X1
 have am:=zc X2
 have ak:=zc m6
 have an:=zc t6
 clear m6 t6 X0 X1 X2
 obtain⟨b0,b1,b2,b3,b4,b5,b6,b7,b8,b9,ap,au,bf⟩:=z.out.box
 obtain⟨c0,c1,c2,c3,c4,c5,c6,c7,c8,c9,ar,aq,cf⟩:=am.out.box
 go_wp2
 refine bodyPost_ret (results_cell_row rfl _ _ (w.heap.size+1) 55 _ (0,0) _ rfl ((z.out.put ..)).heap Tryz.underlying55 rfl (by kernel_rfl)) rfl ?_
 rw[HV.out]
 exact zac rfl al.out.fst (ak.out.put z.out ..) (an.out.put (by omega) ..)
theorem zvw (H:List Tk) (j:Nat) (K E D:Nat) (S:Sv) (q:PS) (w:World) (hm:Mem (Cx.mk H j false) K E D S q w) (h0:isT (Cx.mk H j false) q.pos 1 sImport=false) (h1:isT (Cx.mk H j false) q.pos 1 sExport=false) (h2:isT (Cx.mk H j false) q.pos 1 sLet=false) (h3:isT (Cx.mk H j false) q.pos 1 sFunction=false) (h4:isT (Cx.mk H j false) q.pos 1 sPrint=true):
  Calls Tryz.prog 21 #[pv (Cx.mk H j false) K E S q (-1) 0] w (Out (Cx.mk H j false) K E D (zo (Cx.mk H j false) q) 0 S w):=by
 have HM:=zc hm
 have ad:=hm.tok
 have L:(Cx.mk H j false).ts.length≤4000:=hm.few
 clear hm
 have HV:Hid (zo (Cx.mk H j false) q=bd (bd (bd (bd (bd (bd (.ok q) (zd (Cx.mk H j false) 1 sPrint)) (zd (Cx.mk H j false) 4 cOpen)) (pE (Cx.mk H j false) .sum 0)) (zd (Cx.mk H j false) 4 zU)) (zd (Cx.mk H j false) 4 cSemi)) (zE (Cx.mk H j false) 4 sNone)):=by show zo (Cx.mk H j false) q=_;rw[zo,h0,h1,h2,h3,h4];rfl
 unfold pv
 go_enter Tryz.func21,Tryz.ntmps21
 go_wp2_with fail
 refine (zj (Cx.mk H j false) K E D S q (-1) 0 1 sImport _ (zv (zv ad _) _) L (by decide)).mono ?_
 rintro e w1 ⟨rfl,aD⟩
 rw[h0]
 obtain⟨X0,X1,m1,t1⟩:=HM.out.two aD
 have o:=zc X0
 have z:=zc X1
 have ai:=zc m1
 have aA:=zc t1
 clear X0 X1 m1 t1 aD
 clear ad
 obtain⟨a0,a1,Z,a3,a4,a5,a6,a7,a8,Y,J,I,af⟩:=o.out.box
 go_wp2_with fail
 refine (zj (Cx.mk H j false) K E D S q (-1) 0 1 sExport _ ai.out.tok L (by decide)).mono ?_
 rintro e w2 ⟨rfl,V⟩
 rw[h1]
 replace o:=zc (o.out.below V)
 replace z:=zc (z.out.below V)
 have aH:=zc (aA.out.below V)
 have ak:=zc (ai.out.later V)
 clear V aA ai
 clear a0 a1 Z a3 a4 a5 a6 a7 a8 Y J I af
 obtain⟨a0,a1,Z,a3,a4,a5,a6,a7,a8,Y,J,I,af⟩:=o.out.box
 go_wp2_with fail
 refine (zj (Cx.mk H j false) K E D S q (-1) 0 1 sLet _ ak.out.tok L (by decide)).mono ?_
 rintro e w3 ⟨rfl,X⟩
 rw[h2]
 replace o:=zc (o.out.below X)
 replace z:=zc (z.out.below X)
 have au:=zc (aH.out.below X)
 have aj:=zc (ak.out.later X)
 clear X aH ak
 clear a0 a1 Z a3 a4 a5 a6 a7 a8 Y J I af
 obtain⟨a0,a1,Z,a3,a4,a5,a6,a7,a8,Y,J,I,af⟩:=o.out.box
 go_wp2_with fail
 refine (zj (Cx.mk H j false) K E D S q (-1) 0 1 sFunction _ aj.out.tok L (by decide)).mono ?_
 rintro e w4 ⟨rfl,O⟩
 rw[h3]
 replace o:=zc (o.out.below O)
 replace z:=zc (z.out.below O)
 have az:=zc (au.out.below O)
 have ah:=zc (aj.out.later O)
 clear O au aj
 clear a0 a1 Z a3 a4 a5 a6 a7 a8 Y J I af
 obtain⟨a0,a1,Z,a3,a4,a5,a6,a7,a8,Y,J,I,af⟩:=o.out.box
 go_wp2_with fail
 refine (zj (Cx.mk H j false) K E D S q (-1) 0 1 sPrint _ ah.out.tok L (by decide)).mono ?_
 rintro e w5 ⟨rfl,M⟩
 rw[h4]
 replace o:=zc (o.out.below M)
 replace z:=zc (z.out.below M)
 have ax:=zc (az.out.below M)
 have am:=zc (ah.out.later M)
 clear M az ah
 clear a0 a1 Z a3 a4 a5 a6 a7 a8 Y J I af
 obtain⟨a0,a1,Z,a3,a4,a5,a6,a7,a8,Y,J,I,af⟩:=o.out.box
 go_wp2_with fail
 refine (zaT (Cx.mk H j false) K E D (.ok q) S q (-1) 0 sPrint _ (zab q) am.out).mono ?_
 rintro e w6 ⟨S6,q6,z6,rfl,i6,m6,s6⟩
 replace o:=zc (o.out.stp s6)
 replace z:=zc (z.out.stp s6)
 have aI:=zc (ax.out.step s6)
 clear ax
 have an:=zc m6
 have aP:=zc i6
 clear i6 m6 s6 am
 clear a0 a1 Z a3 a4 a5 a6 a7 a8 Y J I af
 go_wp2_with fail
 refine (zah (Cx.mk H j false) K E D _ S6 q6 z6 0 cOpen _ aP.out an.out).mono ?_
 rintro e w7 ⟨S7,q7,z7,rfl,i7,m7,s7⟩
 replace o:=zc (o.out.stp s7)
 replace z:=zc (z.out.stp s7)
 have aG:=zc (aI.out.step s7)
 clear aI
 have ar:=zc m7
 have aQ:=zc i7
 clear i7 m7 s7 an
 go_wp2_with fail
 refine (zdp (Cx.mk H j false) K E D _ S7 q7 z7 _ aQ.out ar.out).mono ?_
 rintro e w8 ⟨S8,q8,z8,rfl,i8,m8,s8⟩
 replace o:=zc (o.out.stp s8)
 replace z:=zc (z.out.stp s8)
 have ao:=zc (aG.out.step s8)
 clear aG
 have ay:=zc m8
 have aN:=zc i8
 clear i8 m8 s8 ar
 go_wp2_with fail
 refine (zah (Cx.mk H j false) K E D _ S8 q8 z8 0 zU _ aN.out ay.out).mono ?_
 rintro e w9 ⟨S9,q9,z9,rfl,i9,m9,s9⟩
 replace o:=zc (o.out.stp s9)
 replace z:=zc (z.out.stp s9)
 have aJ:=zc (ao.out.step s9)
 clear ao
 have al:=zc m9
 have aT:=zc i9
 clear i9 m9 s9 ay
 have aU:w.heap.size+1<w9.heap.size:=z.out.lt
 unfold pv
 go_upto_region 13 with fail
 refine zQ (R:=fun W=>Bx K S9 W (w.heap.size) _∧Bx K S9 W (w.heap.size+1) _∧Bx K S9 W (w9.heap.size) _∧Mem (Cx.mk H j false) K E D S9 q9 W∧SB w.heap.size S w S9 W) ⟨(o.out.alloc _),(z.out.alloc _),(Bx.new al.out _),(al.out.alloc _),(aJ.out.alloc _)⟩ ?_
 clear o z aJ al
 rintro aX ⟨X0,X1,X2,aq,aE⟩
 have o:=zc X0
 have z:=zc X1
 have U:=zc X2
 have aa:=zc aq
 have ag:=zc aE
 clear aq aE X0 X1 X2
 obtain⟨c0,c1,c2,c3,c4,c5,c6,c7,c8,c9,aS,aL,cf⟩:=U.out.box
 go_wp2_with fail
 refine (zah (Cx.mk H j false) K E D _ S9 q9 z9 0 cSemi _ aT.out aa.out).mono ?_
 rintro e aW ⟨aM,aR,aO,rfl,aC,aB,Q⟩
 replace o:=zc (o.out.stp Q)
 replace z:=zc (z.out.stp Q)
 replace U:=zc (U.out.stp Q)
 have ac:=zc (ag.out.step Q)
 clear ag
 have ab:=zc aB
 have ae:=zc aC
 clear aC aB Q aa
 clear c0 c1 c2 c3 c4 c5 c6 c7 c8 c9 aS aL cf
 go_wp2_with fail
 refine (zcY (Cx.mk H j false) K E D _ aM aR aO 0 4 sNone _ ae.out ab.out (zb5 ae.out)).mono ?_
 rintro e ba ⟨bb,aZ,aY,rfl,aw,aF,N⟩
 replace o:=zc (o.out.stp N)
 replace z:=zc (z.out.stp N)
 replace U:=zc (U.out.stp N)
 have av:=zc (ac.out.step N)
 clear ac
 have aK:=zc aF
 have ap:=zc aw
 clear aw aF N ab
 obtain⟨b0,b1,b2,b3,b4,b5,b6,b7,b8,b9,aV,bc,bf⟩:=z.out.box
 unfold pv
 go_wp2
 refine bodyPost_ret (results_cell_row rfl _ _ (w.heap.size+1) 55 _ (0,0) _ rfl ((z.out.put ..)).heap Tryz.underlying55 rfl (by kernel_rfl)) rfl ?_
 rw[HV.out]
 exact zac rfl ap.out (aK.out.put z.out ..) (av.out.put (by omega) ..)
theorem zvx (H:List Tk) (j:Nat) (L E D:Nat) (S:Sv) (q:PS) (w:World) (hm:Mem (Cx.mk H j false) L E D S q w) (h0:isT (Cx.mk H j false) q.pos 1 sImport=false) (h1:isT (Cx.mk H j false) q.pos 1 sExport=false) (h2:isT (Cx.mk H j false) q.pos 1 sLet=false) (h3:isT (Cx.mk H j false) q.pos 1 sFunction=false) (h4:isT (Cx.mk H j false) q.pos 1 sPrint=false) (h5:isT (Cx.mk H j false) q.pos 1 sThrow=true):
  Calls Tryz.prog 21 #[pv (Cx.mk H j false) L E S q (-1) 0] w (Out (Cx.mk H j false) L E D (zo (Cx.mk H j false) q) 0 S w):=by
 have HM:=zc hm
 have ad:=hm.tok
 have K:(Cx.mk H j false).ts.length≤4000:=hm.few
 clear hm
 have HV:Hid (zo (Cx.mk H j false) q=bd (bd (bd (bd (.ok q) (zd (Cx.mk H j false) 1 sThrow)) (pE (Cx.mk H j false) .sum 0)) (zd (Cx.mk H j false) 4 cSemi)) (zE (Cx.mk H j false) 5 sNone)):=by show zo (Cx.mk H j false) q=_;rw[zo,h0,h1,h2,h3,h4,h5];rfl
 unfold pv
 go_enter Tryz.func21,Tryz.ntmps21
 go_wp2_with fail
 refine (zj (Cx.mk H j false) L E D S q (-1) 0 1 sImport _ (zv (zv ad _) _) K (by decide)).mono ?_
 rintro e w1 ⟨rfl,ax⟩
 rw[h0]
 obtain⟨X0,X1,m1,t1⟩:=HM.out.two ax
 have o:=zc X0
 have z:=zc X1
 have ah:=zc m1
 have aw:=zc t1
 clear X0 X1 m1 t1 ax
 clear ad
 obtain⟨Y,a1,O,a3,a4,a5,Z,X,a8,N,J,I,U⟩:=o.out.box
 go_wp2_with fail
 refine (zj (Cx.mk H j false) L E D S q (-1) 0 1 sExport _ ah.out.tok K (by decide)).mono ?_
 rintro e w2 ⟨rfl,aa⟩
 rw[h1]
 replace o:=zc (o.out.below aa)
 replace z:=zc (z.out.below aa)
 have aA:=zc (aw.out.below aa)
 have aj:=zc (ah.out.later aa)
 clear aa aw ah
 clear Y a1 O a3 a4 a5 Z X a8 N J I U
 obtain⟨Y,a1,O,a3,a4,a5,Z,X,a8,N,J,I,U⟩:=o.out.box
 go_wp2_with fail
 refine (zj (Cx.mk H j false) L E D S q (-1) 0 1 sLet _ aj.out.tok K (by decide)).mono ?_
 rintro e w3 ⟨rfl,ab⟩
 rw[h2]
 replace o:=zc (o.out.below ab)
 replace z:=zc (z.out.below ab)
 have ao:=zc (aA.out.below ab)
 have ai:=zc (aj.out.later ab)
 clear ab aA aj
 clear Y a1 O a3 a4 a5 Z X a8 N J I U
 obtain⟨Y,a1,O,a3,a4,a5,Z,X,a8,N,J,I,U⟩:=o.out.box
 go_wp2_with fail
 refine (zj (Cx.mk H j false) L E D S q (-1) 0 1 sFunction _ ai.out.tok K (by decide)).mono ?_
 rintro e w4 ⟨rfl,V⟩
 rw[h3]
 replace o:=zc (o.out.below V)
 replace z:=zc (z.out.below V)
 have av:=zc (ao.out.below V)
 have ag:=zc (ai.out.later V)
 clear V ao ai
 clear Y a1 O a3 a4 a5 Z X a8 N J I U
 obtain⟨Y,a1,O,a3,a4,a5,Z,X,a8,N,J,I,U⟩:=o.out.box
 go_wp2_with fail
 refine (zj (Cx.mk H j false) L E D S q (-1) 0 1 sPrint _ ag.out.tok K (by decide)).mono ?_
 rintro e w5 ⟨rfl,M⟩
 rw[h4]
 replace o:=zc (o.out.below M)
 replace z:=zc (z.out.below M)
 have aq:=zc (av.out.below M)
 have ae:=zc (ag.out.later M)
 clear M av ag
 clear Y a1 O a3 a4 a5 Z X a8 N J I U
 obtain⟨Y,a1,O,a3,a4,a5,Z,X,a8,N,J,I,U⟩:=o.out.box
 go_wp2_with fail
 refine (zj (Cx.mk H j false) L E D S q (-1) 0 1 sThrow _ ae.out.tok K (by decide)).mono ?_
 rintro e w6 ⟨rfl,Q⟩
 rw[h5]
 replace o:=zc (o.out.below Q)
 replace z:=zc (z.out.below Q)
 have aB:=zc (aq.out.below Q)
 have ak:=zc (ae.out.later Q)
 clear Q aq ae
 clear Y a1 O a3 a4 a5 Z X a8 N J I U
 obtain⟨Y,a1,O,a3,a4,a5,Z,X,a8,N,J,I,U⟩:=o.out.box
 go_wp2_with fail
 refine (zaT (Cx.mk H j false) L E D (.ok q) S q (-1) 0 sThrow _ (zab q) ak.out).mono ?_
 rintro e w7 ⟨S7,q7,z7,rfl,i7,m7,s7⟩
 replace o:=zc (o.out.stp s7)
 replace z:=zc (z.out.stp s7)
 have ay:=zc (aB.out.step s7)
 clear aB
 have an:=zc m7
 have aH:=zc i7
 clear i7 m7 s7 ak
 clear Y a1 O a3 a4 a5 Z X a8 N J I U
 go_wp2_with fail
 refine (zdp (Cx.mk H j false) L E D _ S7 q7 z7 _ aH.out an.out).mono ?_
 rintro e w8 ⟨S8,q8,z8,rfl,i8,m8,s8⟩
 replace o:=zc (o.out.stp s8)
 replace z:=zc (z.out.stp s8)
 have al:=zc (ay.out.step s8)
 clear ay
 have ar:=zc m8
 have aG:=zc i8
 clear i8 m8 s8 an
 go_wp2_with fail
 refine (zah (Cx.mk H j false) L E D _ S8 q8 z8 0 cSemi _ aG.out ar.out).mono ?_
 rintro e w9 ⟨S9,q9,z9,rfl,i9,m9,s9⟩
 replace o:=zc (o.out.stp s9)
 replace z:=zc (z.out.stp s9)
 have aE:=zc (al.out.step s9)
 clear al
 have az:=zc m9
 have aC:=zc i9
 clear i9 m9 s9 ar
 go_wp2_with fail
 refine (zcY (Cx.mk H j false) L E D _ S9 q9 z9 0 5 sNone _ aC.out az.out (zb5 aC.out)).mono ?_
 rintro e aJ ⟨aL,aK,aM,rfl,au,am,ac⟩
 replace o:=zc (o.out.stp ac)
 replace z:=zc (z.out.stp ac)
 have aD:=zc (aE.out.step ac)
 clear aE
 have ap:=zc am
 have aF:=zc au
 clear au am ac az
 obtain⟨b0,b1,b2,b3,b4,b5,b6,b7,b8,b9,aI,aN,bf⟩:=z.out.box
 unfold pv
 go_wp2
 refine bodyPost_ret (results_cell_row rfl _ _ (w.heap.size+1) 55 _ (0,0) _ rfl ((z.out.put ..)).heap Tryz.underlying55 rfl (by kernel_rfl)) rfl ?_
 rw[HV.out]
 exact zac rfl aF.out (ap.out.put z.out ..) (aD.out.put (by omega) ..)
theorem zvy (E:List Tk) (j:Nat) (M H D:Nat) (S:Sv) (q:PS) (w:World) (hm:Mem (Cx.mk E j false) M H D S q w) (h0:isT (Cx.mk E j false) q.pos 1 sImport=false) (h1:isT (Cx.mk E j false) q.pos 1 sExport=false) (h2:isT (Cx.mk E j false) q.pos 1 sLet=false) (h3:isT (Cx.mk E j false) q.pos 1 sFunction=false) (h4:isT (Cx.mk E j false) q.pos 1 sPrint=false) (h5:isT (Cx.mk E j false) q.pos 1 sThrow=false):
  Calls Tryz.prog 21 #[pv (Cx.mk E j false) M H S q (-1) 0] w (Out (Cx.mk E j false) M H D (zo (Cx.mk E j false) q) 0 S w):=by
 have HM:=zc hm
 have ah:=hm.tok
 have K:(Cx.mk E j false).ts.length≤4000:=hm.few
 clear hm
 have HV:Hid (zo (Cx.mk E j false) q=bd (bd (.ok q) (zk (Cx.mk E j false) false)) fun a=>bd (bd (bd (bd (.ok a.1) (zd (Cx.mk E j false) 4 cEq)) (pE (Cx.mk E j false) .sum 0)) (zd (Cx.mk E j false) 4 cSemi)) (zE (Cx.mk E j false) 3 a.2)):=by show zo (Cx.mk E j false) q=_;rw[zo,h0,h1,h2,h3,h4,h5];rfl
 unfold pv
 go_enter Tryz.func21,Tryz.ntmps21
 go_wp2_with fail
 refine (zj (Cx.mk E j false) M H D S q (-1) 0 1 sImport _ (zv (zv ah _) _) K (by decide)).mono ?_
 rintro e w1 ⟨rfl,aG⟩
 rw[h0]
 obtain⟨X0,X1,m1,t1⟩:=HM.out.two aG
 have o:=zc X0
 have z:=zc X1
 have an:=zc m1
 have aE:=zc t1
 clear X0 X1 m1 t1 aG
 clear ah
 obtain⟨a0,a1,U,a3,a4,a5,a6,a7,a8,O,J,I,X⟩:=o.out.box
 go_wp2_with fail
 refine (zj (Cx.mk E j false) M H D S q (-1) 0 1 sExport _ an.out.tok K (by decide)).mono ?_
 rintro e w2 ⟨rfl,aa⟩
 rw[h1]
 replace o:=zc (o.out.below aa)
 replace z:=zc (z.out.below aa)
 have aL:=zc (aE.out.below aa)
 have ap:=zc (an.out.later aa)
 clear aa aE an
 clear a0 a1 U a3 a4 a5 a6 a7 a8 O J I X
 obtain⟨a0,a1,U,a3,a4,a5,a6,a7,a8,O,J,I,X⟩:=o.out.box
 go_wp2_with fail
 refine (zj (Cx.mk E j false) M H D S q (-1) 0 1 sLet _ ap.out.tok K (by decide)).mono ?_
 rintro e w3 ⟨rfl,ab⟩
 rw[h2]
 replace o:=zc (o.out.below ab)
 replace z:=zc (z.out.below ab)
 have aw:=zc (aL.out.below ab)
 have ao:=zc (ap.out.later ab)
 clear ab aL ap
 clear a0 a1 U a3 a4 a5 a6 a7 a8 O J I X
 obtain⟨a0,a1,U,a3,a4,a5,a6,a7,a8,O,J,I,X⟩:=o.out.box
 go_wp2_with fail
 refine (zj (Cx.mk E j false) M H D S q (-1) 0 1 sFunction _ ao.out.tok K (by decide)).mono ?_
 rintro e w4 ⟨rfl,Y⟩
 rw[h3]
 replace o:=zc (o.out.below Y)
 replace z:=zc (z.out.below Y)
 have aD:=zc (aw.out.below Y)
 have am:=zc (ao.out.later Y)
 clear Y aw ao
 clear a0 a1 U a3 a4 a5 a6 a7 a8 O J I X
 obtain⟨a0,a1,U,a3,a4,a5,a6,a7,a8,O,J,I,X⟩:=o.out.box
 go_wp2_with fail
 refine (zj (Cx.mk E j false) M H D S q (-1) 0 1 sPrint _ am.out.tok K (by decide)).mono ?_
 rintro e w5 ⟨rfl,ac⟩
 rw[h4]
 replace o:=zc (o.out.below ac)
 replace z:=zc (z.out.below ac)
 have az:=zc (aD.out.below ac)
 have ak:=zc (am.out.later ac)
 clear ac aD am
 clear a0 a1 U a3 a4 a5 a6 a7 a8 O J I X
 obtain⟨a0,a1,U,a3,a4,a5,a6,a7,a8,O,J,I,X⟩:=o.out.box
 go_wp2_with fail
 refine (zj (Cx.mk E j false) M H D S q (-1) 0 1 sThrow _ ak.out.tok K (by decide)).mono ?_
 rintro e w6 ⟨rfl,V⟩
 rw[h5]
 replace o:=zc (o.out.below V)
 replace z:=zc (z.out.below V)
 have aM:=zc (az.out.below V)
 have aq:=zc (ak.out.later V)
 clear V az ak
 clear a0 a1 U a3 a4 a5 a6 a7 a8 O J I X
 obtain⟨a0,a1,U,a3,a4,a5,a6,a7,a8,O,J,I,X⟩:=o.out.box
 go_wp2_with fail
 refine (zbz (Cx.mk E j false) M H D (.ok q) S q (-1) 0 false _ (zab q) aq.out).mono ?_
 rintro e w7 ⟨S7,q7,z7,n7,rfl,i7,m7,s7⟩
 replace o:=zc (o.out.stp s7)
 replace z:=zc (z.out.stp s7)
 have aJ:=zc (aM.out.step s7)
 clear aM
 have al:=zc m7
 have aC:=zc i7
 clear i7 m7 s7 aq
 clear a0 a1 U a3 a4 a5 a6 a7 a8 O J I X
 have aZ:w.heap.size+1<w7.heap.size:=z.out.lt
 unfold pv
 go_upto_region 19 with fail
 refine zQ (R:=fun W=>Bx M S7 W (w.heap.size) _∧Bx M S7 W (w.heap.size+1) _∧Bx M S7 W (w7.heap.size) _∧Mem (Cx.mk E j false) M H D S7 q7 W∧SB w.heap.size S w S7 W) ⟨(o.out.alloc _),(z.out.alloc _),(Bx.new al.out _),(al.out.alloc _),(aJ.out.alloc _)⟩ ?_
 clear o z aJ al
 rintro w8 ⟨X0,X1,X2,m8,t8⟩
 have o:=zc X0
 have z:=zc X1
 have L:=zc X2
 have aA:=zc m8
 have ar:=zc t8
 clear m8 t8 X0 X1 X2
 obtain⟨c0,c1,c2,c3,c4,c5,c6,c7,c8,c9,aV,aQ,cf⟩:=L.out.box
 go_wp2_with fail
 refine (zah (Cx.mk E j false) M H D _ S7 q7 z7 0 cEq _ aC.out.fst aA.out).mono ?_
 rintro e w9 ⟨S9,q9,z9,rfl,i9,m9,s9⟩
 replace o:=zc (o.out.stp s9)
 replace z:=zc (z.out.stp s9)
 replace L:=zc (L.out.stp s9)
 have aN:=zc (ar.out.step s9)
 clear ar
 have aK:=zc m9
 have aX:=zc i9
 clear i9 m9 s9 aA
 clear c0 c1 c2 c3 c4 c5 c6 c7 c8 c9 aV aQ cf
 go_wp2_with fail
 refine (zdp (Cx.mk E j false) M H D _ S9 q9 z9 _ aX.out aK.out).mono ?_
 rintro e bc ⟨aW,aT,aY,rfl,aB,av,N⟩
 replace o:=zc (o.out.stp N)
 replace z:=zc (z.out.stp N)
 replace L:=zc (L.out.stp N)
 have aj:=zc (aN.out.step N)
 clear aN
 have ad:=zc av
 have aP:=zc aB
 clear aB av N aK
 go_wp2_with fail
 refine (zah (Cx.mk E j false) M H D _ aW aT aY 0 cSemi _ aP.out ad.out).mono ?_
 rintro e bb ⟨aR,aU,aS,rfl,aH,aF,Z⟩
 replace o:=zc (o.out.stp Z)
 replace z:=zc (z.out.stp Z)
 replace L:=zc (L.out.stp Z)
 have ag:=zc (aj.out.step Z)
 clear aj
 have ae:=zc aF
 have ai:=zc aH
 clear aH aF Z ad
 go_wp2_with fail
 refine (zcY (Cx.mk E j false) M H D _ aR aU aS 0 3 n7 _ ai.out ae.out (zb5 ai.out)).mono ?_
 rintro e bi ⟨bj,bg,be,rfl,ay,aI,Q⟩
 replace o:=zc (o.out.stp Q)
 replace z:=zc (z.out.stp Q)
 replace L:=zc (L.out.stp Q)
 have ax:=zc (ag.out.step Q)
 clear ag
 have aO:=zc aI
 have au:=zc ay
 clear ay aI Q ae
 obtain⟨b0,b1,b2,b3,b4,b5,b6,b7,b8,b9,ba,bk,bf⟩:=z.out.box
 unfold pv
 go_wp2
 refine bodyPost_ret (results_cell_row rfl _ _ (w.heap.size+1) 55 _ (0,0) _ rfl ((z.out.put ..)).heap Tryz.underlying55 rfl (by kernel_rfl)) rfl ?_
 rw[HV.out,←aC.out.bind (fun q n=>bd (bd (bd (bd (.ok q) (zd (Cx.mk E j false) 4 cEq)) (pE (Cx.mk E j false) .sum 0)) (zd (Cx.mk E j false) 4 cSemi)) (zE (Cx.mk E j false) 3 n)),←zmK]
 exact zac rfl au.out (aO.out.put z.out ..) (ax.out.put (by omega) ..)
theorem zvz (D:List Tk) (j:Nat) (E z o:Nat) (S:Sv) (q:PS) (w:World) (H:Mem (Cx.mk D j false) E z o S q w):
  Calls Tryz.prog 21 #[pv (Cx.mk D j false) E z S q (-1) 0] w (Out (Cx.mk D j false) E z o (zo (Cx.mk D j false) q) 0 S w):=by
 cases I:isT (Cx.mk D j false) q.pos 1 sImport with
 |true=>exact zvs D j E z o S q w H I
 |false=>
  cases J:isT (Cx.mk D j false) q.pos 1 sExport with
  |true=>exact zvt D j E z o S q w H I J
  |false=>
   cases K:isT (Cx.mk D j false) q.pos 1 sLet with
   |true=>exact zvu D j E z o S q w H I J K
   |false=>
    cases L:isT (Cx.mk D j false) q.pos 1 sFunction with
    |true=>exact zvv D j E z o S q w H I J K L
    |false=>
     cases M:isT (Cx.mk D j false) q.pos 1 sPrint with
     |true=>exact zvw D j E z o S q w H I J K L M
     |false=>
      cases N:isT (Cx.mk D j false) q.pos 1 sThrow with
      |true=>exact zvx D j E z o S q w H I J K L M N
      |false=>
       exact zvy D j E z o S q w H I J K L M N
theorem zv0 (C:Cx) (z o j:Nat) (S:Sv) (q:PS) (w:World) (I:Mem C z o j S q w):
  Calls Tryz.prog 21 #[pv C z o S q (-1) 0] w (Out C z o j (zo C q) 0 S w):=by
 obtain⟨H,D,E⟩:=C
 cases E with
 |true=>exact zvr H D z o j S q w I
 |false=>exact zvz H D z o j S q w I
theorem zmL (s:ByteArray) (scr:Bool) (w:World) (hs:s.size≤4294967296):
  Calls Tryz.prog 7 #[.string s,.bool scr] w fun e w'=>ParseOut s scr w e w'∧Below w.heap.size w w':=by
 obtain⟨i0,hi,ay,aw,ar⟩:=info_parts Tryz.infoExp
 go_enter Tryz.func7,Tryz.ntmps7
 go_wp2_with fail
 refine (zjN s scr _ hs).mono ?_
 rintro e V ⟨⟨r1,L,O⟩,b1⟩
 have ac:Hid (Below w.heap.size w V):=((Below.refl _ _).alloc (Nat.le_refl _) _).trans (b1.mono (by rw[zW];omega))
 have hG:V.heap[w.heap.size]? =some (.cells #[.slice none 0 0,.slice none 0 0,.slice none 0 0,.slice none 0 0,.slice none 0 0] 32 (0,0)):=(b1.block _ (by rw[zW];omega)).trans (heap_alloc_new w _)
 rw[zW] at b1
 cases r1 with
 |error p=>
  obtain⟨g,M,rfl,o⟩:=O
  have HY:Hid (za8 s scr (.error p)):=⟨_,L,rfl⟩
  have HG:=zc hG
  obtain⟨c0,c1,c2,c3,c4,cf⟩:=zaa hG
  have dz:decide ((0:Int)≤(p:Int))=true:=decide_eq_true (by omega)
  clear o L b1 hG
  go_wp2
  refine bodyPost_ret (zaK rfl _ _ w.heap.size 32 _ (0,0) _ rfl (zei HG.out) Tryz.underlying32 rfl (by kernel_rfl)) rfl ?_
  exact⟨⟨_,HY.out,rfl⟩,zej ac.out (Nat.le_refl _) _ _ _ _ _⟩
 |ok z=>
  obtain⟨g,n,M,rfl,o⟩:=O
  obtain rfl:n=z.length:=o.2
  rw[zW] at o
  have am:w.heap.size+1≤V.heap.size:=by have:=b1.size;rw[zW] at this;exact this
  have ai:=zg0 L
  have HR:=zc L
  have ah:Mem ⟨z,s.size,scr⟩ g M (w.heap.size+1) S0 startP V:=zjC o ai am
  have al:=zc ah
  have HG:=zc hG
  clear o L ah hG
  go_wp2
  go_loopg [] (z.length+1) (fun k wr=>∃(x':PR) (E:Sv) (U:PS) (z':Int),Is x' U z'∧bd x' (zM ⟨z,s.size,scr⟩)=zM ⟨z,s.size,scr⟩ startP∧(z'<0→z.length-U.pos<k)∧Mem ⟨z,s.size,scr⟩ g M (w.heap.size+1) E U wr∧Below w.heap.size w wr∧Bx g E wr V.heap.size #[.slice (some ⟨g,0,none⟩) z.length M,.int .i64 U.pos,.int .i64 s.size,.bool scr,.slice E.rq.a U.rq.length E.rq.cap,.slice E.im.a U.im.length E.im.cap,.slice E.ep.a U.ep.length E.ep.cap,.slice E.st.a U.st.length E.st.cap,.slice E.ex.a U.ex.length E.ex.cap,.slice E.la.a U.la.length E.la.cap,.int .i64 z',.int .i64 0]∧wr.heap[w.heap.size]? =some (.cells #[.slice none 0 0,.slice none 0 0,.slice none 0 0,.slice none 0 0,.slice none 0 0] 32 (0,0)))
  case atStart=>exact⟨.ok startP,S0,startP,-1,zab _,rfl,fun _=>by show z.length-0<z.length+1;omega,al.out.alloc _,ac.out.alloc ac.out.size _,Bx.new al.out _,(Below.heap_alloc _ _ _ (by omega)).trans HG.out⟩
  case round=>
   obtain⟨x2,S2,I,z2,i2,e2,l2,m2,t2,X0,G2⟩:=hrel
   have ae:=zc i2
   have ad:=zc e2
   have ap:=zc l2
   have j:=zc m2
   have ab:=zc t2
   have H:=zc X0
   have K:=zc G2
   have aA:I.pos≤z.length:=m2.inv.pos
   obtain⟨a0,a1,a2,a3,a4,a5,a6,a7,a8,a9,aa,Z,af⟩:=X0.box
   clear i2 e2 l2 m2 t2 X0 G2
   by_cases hz:z2<0
   ·have dz:decide (z2<0)=true:=decide_eq_true hz
    obtain⟨rfl,rfl⟩:=zaF ae.out hz
    by_cases hp:I.pos<z.length
    ·have aB:=ap.out hz
     go_wp2_with fail
     refine (zv0 ⟨z,s.size,scr⟩ g M (w.heap.size+1) S2 I _ j.out).mono ?_
     rintro e w3 ⟨S3,q3,z3,rfl,i3,m3,s3⟩
     have av:=zc m3
     have aj:=zc i3
     have Y:Hid (Below (w.heap.size+1) wr w3):=s3.under j.out.base j.out.own
     have N:Hid (Bx g S3 w3 V.heap.size _):=H.out.stp s3
     have ao:Hid (Below w.heap.size w w3):=ab.out.trans (Y.out.mono (by omega))
     have X:Hid (w3.heap[w.heap.size]? =some (.cells #[.slice none 0 0,.slice none 0 0,.slice none 0 0,.slice none 0 0,.slice none 0 0] 32 (0,0))):=(Y.out.block _ (by omega)).trans K.out
     have HE:Hid (bd (zo ⟨z,s.size,scr⟩ I) (zM ⟨z,s.size,scr⟩)=zM ⟨z,s.size,scr⟩ startP):=by
      show _=_
      rw[←ad.out,zh,zeQ,if_pos hp]
     have HP:Hid (z3<0→I.pos<q3.pos):=fun h=>zgz (zaF aj.out h).1
     clear i3 m3 s3 a0 a1 a2 a3 a4 a5 a6 a7 a8 a9 aa Z af
     obtain⟨a0,a1,a2,a3,a4,a5,a6,a7,a8,a9,aa,Z,af⟩:=N.out.box
     unfold pv
     go_wp2
     go_roundg (gk-1)
     case rel=>exact⟨_,S3,q3,z3,aj.out,HE.out,fun h=>by have:=HP.out h;omega,av.out.put N.out _ _ _ _ _ _ _ _ _ _ _ _,zbX ao.out (by omega) _ _ _ _ _ _ _ _ _ _ _ _,N.out.put _ _ _ _ _ _ _ _ _ _ _ _,(zgi (by omega) ..).trans X.out⟩
     case measure=>omega
    ·have HD:Hid (zM ⟨z,s.size,scr⟩ startP= .ok I):=by
      show _=_
      rw[←ad.out,zh,zeQ,if_neg hp]
     have HY:Hid (za8 s scr (.ok I)):=⟨_,HR.out,HD.out.symm⟩
     have ag:V.heap.size<wr.heap.size:=H.out.lt
     have az:=j.out.inv.ep
     have D:=j.out.own.ep
     have Y:=j.out.base
     rcases j.out.own.la.nil_or with ⟨ha,hc,hn⟩|⟨gl,ha⟩
     ·have HN:Hid (I.la=[]):=List.eq_nil_of_length_eq_zero hn
      rw[ha,hc,hn] at a9
      obtain⟨c0,c1,c2,c3,c4,cf⟩:=zaa K.out
      clear ha hc hn
      go_wp2_with (at_builtin;refine znY _ rfl _ _ 28 rfl 77 i0 Tryz.underlying28 hi (w.heap.size+1) 4 I.ep.length S2.ep _ (by rfl) D (by rfl) ?_)
      clear D
      go_wp2
      refine bodyPost_ret (zaK rfl _ _ w.heap.size 32 _ (0,0) _ rfl (zei ((zx (by omega)).trans K.out)) Tryz.underlying32 rfl (by kernel_rfl)) rfl ?_
      refine⟨⟨_,HY.out,S2,by simp[zg1,HN.out],j.out.whole0 HN.out (Nat.lt_succ_self _) H.out.free fun k Q h2=>?_⟩,zej (ab.out.setCell (by show _≤V.heap.size;omega) _) (Nat.le_refl _) _ _ _ _ _⟩
      rw[zx Q,zx Q,zx Q,zx Q,zx Q,zx h2]
     ·have ak:OwnR wr (w.heap.size+1) 77 4 ⟨some ⟨gl,0,none⟩,S2.la.cap⟩ I.la.length (I.la.flatMap epL):=by have:=j.out.own.la;unfold OwnR at this ⊢;rw[ha] at this;exact this
      rw[ha] at a9
      go_wp2_with (at_builtin;refine znX _ rfl _ _ 28 rfl (w.heap.size+1) 77 i0 _ 4 56 Tryz.underlying28 hi ay aw ar rfl (by decide) (by decide) S2.ep I.ep.length _ (by rfl) D gl I.la.length S2.la.cap (w.heap.size+1) _ (by rfl) ak (zhJ _) (by omega) Y ?_)
      intro r' w3 hr hg an
      have ax:=zc hr
      have J:=zc hg
      have au:=zc an
      have aq:=fun b hb=>zep (W:=wr) j.out.own (Nat.le_refl _) (r:=S2.ep.blk) (fun k e=>.inr (.inr (.inl e))) b hb
      have N:Hid (w3.heap[V.heap.size]? =_):=(hg.block _ ag (fun e=>H.out.free (.inr (.inr (.inl e.symm))))).trans H.out.heap
      have X:Hid (w3.heap[w.heap.size]? =_):=(hg.block _ (by omega) (fun e=>by have:=(D.typed e.symm).1;omega)).trans K.out
      clear a0 a1 a2 a3 a4 a5 a6 a7 a8 a9 aa Z af hr hg an aq D ak
      obtain⟨a0,a1,a2,a3,a4,a5,a6,a7,a8,a9,aa,Z,af⟩:=zao N.out
      obtain⟨c0,c1,c2,c3,c4,cf⟩:=zaa X.out
      go_wp2
      refine bodyPost_ret (zaK rfl _ _ w.heap.size 32 _ (0,0) _ rfl (zei ((zx (by omega)).trans X.out)) Tryz.underlying32 rfl (by kernel_rfl)) rfl ?_
      refine⟨⟨_,HY.out,{S2 with ep:=r'},by simp[zg1],j.out.whole J.out ax.out au.out (Nat.lt_succ_self _) ag H.out.free fun k Q h2=>?_⟩,zej ((ab.out.trans (Below.mono (B:=w.heap.size+1) ⟨J.out.os,J.out.tape,J.out.output,J.out.size,fun k hk=>J.out.block k (by omega) fun e=>by have:=(j.out.own.ep.typed e.symm).1;omega⟩ (by omega))).setCell (by show _≤V.heap.size;omega) _) (Nat.le_refl _) _ _ _ _ _⟩
      rw[zx Q,zx Q,zx Q,zx Q,zx Q,zx h2]
   ·have dz:decide (z2<0)=false:=decide_eq_false hz
    obtain⟨e0,rfl,rfl⟩:=zd2 ae.out hz
    have aC:decide ((0:Int)≤(e0:Int))=true:=decide_eq_true (by omega)
    have HY:Hid (za8 s scr (.error e0)):=⟨_,HR.out,(show (.error e0:PR)=zM ⟨z,s.size,scr⟩ startP from ad.out)⟩
    obtain⟨c0,c1,c2,c3,c4,cf⟩:=zaa K.out
    go_wp2
    go_region
    all_goals
     go_wp2
     refine bodyPost_ret (zaK rfl _ _ w.heap.size 32 _ (0,0) _ rfl (zei K.out) Tryz.underlying32 rfl (by kernel_rfl)) rfl ?_
     exact⟨⟨_,HY.out,rfl⟩,(zej ab.out (Nat.le_refl _) ..).drew⟩
theorem zmM (a:Option Addr) (j o:Nat) (w:World) (_:j≤9223372036854775807):
  Calls Tryz.prog 4 #[.slice a j o] w fun e z=>e= .returned (.bool (decide ((1048576:Int)<j)))∧z=w:=by
 go_enter Tryz.func4,Tryz.ntmps4
 go_wp2
 go_ret
 exact⟨rfl,rfl⟩
end Go.Proofs.YthfeoomfiafldaaGreat
