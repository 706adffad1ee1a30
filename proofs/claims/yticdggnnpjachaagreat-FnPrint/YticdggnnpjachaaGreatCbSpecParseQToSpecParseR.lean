/-
  What spec's l4Item answers outside of a script: the walks.
  What spec.Parse answers: the walk.
-/
import Derived.Test.YticdggnnpjachaaGreatCbSpecParseMToSpecParseP
namespace Go.Proofs.YticdggnnpjachaaGreat
set_option maxRecDepth 100000
set_option maxHeartbeats 6400000
open Go.RowKit Go.PlainAid
theorem znQ (A:List Tk) (j:Nat) (J o n:Nat) (S:Sv) (q:PS) (w:World) (N:Mem (Cx.mk A j false) J o n S q w) (X:isT (Cx.mk A j false) q.pos 1 zah=true):
  Calls Tryz.prog 21 #[pv (Cx.mk A j false) J o S q (-1) 0] w (Out (Cx.mk A j false) J o n (zy (Cx.mk A j false) q) 0 S w):=by
 have HM:=zc N
 have D:=N.tok
 have L:(Cx.mk A j false).ts.length≤4000:=N.few
 clear N
 have HV:Hid (zy (Cx.mk A j false) q=zaQ (Cx.mk A j false) q):=by show zy (Cx.mk A j false) q=_;rw[zy,X];rfl
 unfold pv
 go_enter Tryz.func21,Tryz.ntmps21
 go_wp2_with fail
 refine (zh (Cx.mk A j false) J o n S q (-1) 0 1 zah _ (zq (zq D _) _) L (by decide)).mono ?_
 rintro e w1 ⟨rfl,K⟩
 rw[X]
 obtain⟨X0,X1,Z,t1⟩:=HM.out.two K
 have E:=zc X0
 have z:=zc X1
 have H:=zc Z
 have I:=zc t1
 clear X0 X1 Z t1 K
 clear D
 obtain⟨a0,a1,a2,a3,a4,a5,a6,a7,a8,a9,U,Y,af⟩:=E.out.box
 go_wp2_with fail
 refine (znH (Cx.mk A j false) J o n S q _ H.out X).mono ?_
 rintro e w2 ⟨S2,q2,z2,rfl,i2,m2,M⟩
 replace E:=zc (E.out.stp M)
 replace z:=zc (z.out.stp M)
 have O:=zc (I.out.step M)
 clear I
 have Q:=zc m2
 have V:=zc i2
 clear i2 m2 M H
 clear a0 a1 a2 a3 a4 a5 a6 a7 a8 a9 U Y af
 obtain⟨b0,b1,b2,b3,b4,b5,b6,b7,b8,b9,ab,aa,bf⟩:=z.out.box
 unfold pv
 go_wp2
 refine bodyPost_ret (results_cell_row rfl _ _ (w.heap.size+1) 53 _ (0,0) _ rfl ((z.out.put ..)).heap Tryz.underlying53 rfl (by kernel_rfl)) rfl ?_
 rw[HV.out]
 exact zY rfl V.out (Q.out.put z.out ..) (O.out.put (by omega) ..)
theorem znR (D:List Tk) (j:Nat) (M z n:Nat) (S:Sv) (q:PS) (w:World) (X:Mem (Cx.mk D j false) M z n S q w) (h0:isT (Cx.mk D j false) q.pos 1 zah=false) (Y:isT (Cx.mk D j false) q.pos 1 zaf=true):
  Calls Tryz.prog 21 #[pv (Cx.mk D j false) M z S q (-1) 0] w (Out (Cx.mk D j false) M z n (zy (Cx.mk D j false) q) 0 S w):=by
 have HM:=zc X
 have H:=X.tok
 have I:(Cx.mk D j false).ts.length≤4000:=X.few
 clear X
 have HV:Hid (zy (Cx.mk D j false) q=zag (Cx.mk D j false) q):=by show zy (Cx.mk D j false) q=_;rw[zy,h0,Y];rfl
 unfold pv
 go_enter Tryz.func21,Tryz.ntmps21
 go_wp2_with fail
 refine (zh (Cx.mk D j false) M z n S q (-1) 0 1 zah _ (zq (zq H _) _) I (by decide)).mono ?_
 rintro e w1 ⟨rfl,U⟩
 rw[h0]
 obtain⟨X0,X1,m1,t1⟩:=HM.out.two U
 have A:=zc X0
 have o:=zc X1
 have K:=zc m1
 have Q:=zc t1
 clear X0 X1 m1 t1 U
 clear H
 obtain⟨a0,a1,a2,a3,a4,a5,a6,a7,a8,a9,J,L,af⟩:=A.out.box
 go_wp2_with fail
 refine (zh (Cx.mk D j false) M z n S q (-1) 0 1 zaf _ K.out.tok I (by decide)).mono ?_
 rintro e w2 ⟨rfl,E⟩
 rw[Y]
 replace A:=zc (A.out.below E)
 replace o:=zc (o.out.below E)
 have N:=zc (Q.out.below E)
 have O:=zc (K.out.later E)
 clear E Q K
 clear a0 a1 a2 a3 a4 a5 a6 a7 a8 a9 J L af
 obtain⟨a0,a1,a2,a3,a4,a5,a6,a7,a8,a9,J,L,af⟩:=A.out.box
 go_wp2_with fail
 refine (znI (Cx.mk D j false) M z n S q _ O.out Y).mono ?_
 rintro e w3 ⟨S3,q3,z3,rfl,i3,m3,V⟩
 replace A:=zc (A.out.stp V)
 replace o:=zc (o.out.stp V)
 have aa:=zc (N.out.step V)
 clear N
 have Z:=zc m3
 have ab:=zc i3
 clear i3 m3 V O
 clear a0 a1 a2 a3 a4 a5 a6 a7 a8 a9 J L af
 obtain⟨b0,b1,b2,b3,b4,b5,b6,b7,b8,b9,ad,ac,bf⟩:=o.out.box
 unfold pv
 go_wp2
 refine bodyPost_ret (results_cell_row rfl _ _ (w.heap.size+1) 53 _ (0,0) _ rfl ((o.out.put ..)).heap Tryz.underlying53 rfl (by kernel_rfl)) rfl ?_
 rw[HV.out]
 exact zY rfl ab.out (Z.out.put o.out ..) (aa.out.put (by omega) ..)
theorem znS (D:List Tk) (j:Nat) (K A z:Nat) (S:Sv) (q:PS) (w:World) (hm:Mem (Cx.mk D j false) K A z S q w) (h0:isT (Cx.mk D j false) q.pos 1 zah=false) (h1:isT (Cx.mk D j false) q.pos 1 zaf=false) (h2:isT (Cx.mk D j false) q.pos 1 zC=true):
  Calls Tryz.prog 21 #[pv (Cx.mk D j false) K A S q (-1) 0] w (Out (Cx.mk D j false) K A z (zy (Cx.mk D j false) q) 0 S w):=by
 have HM:=zc hm
 have M:=hm.tok
 have L:(Cx.mk D j false).ts.length≤4000:=hm.few
 clear hm
 have HV:Hid (zy (Cx.mk D j false) q=zaK (zcj (Cx.mk D j false) q)):=by show zy (Cx.mk D j false) q=_;rw[zy,h0,h1,h2];rfl
 unfold pv
 go_enter Tryz.func21,Tryz.ntmps21
 go_wp2_with fail
 refine (zh (Cx.mk D j false) K A z S q (-1) 0 1 zah _ (zq (zq M _) _) L (by decide)).mono ?_
 rintro e w1 ⟨rfl,ab⟩
 rw[h0]
 obtain⟨V,X1,m1,t1⟩:=HM.out.two ab
 have o:=zc V
 have n:=zc X1
 have N:=zc m1
 have ae:=zc t1
 clear V X1 m1 t1 ab
 clear M
 obtain⟨a0,a1,a2,a3,a4,Y,X,a7,a8,a9,I,J,Z⟩:=o.out.box
 go_wp2_with fail
 refine (zh (Cx.mk D j false) K A z S q (-1) 0 1 zaf _ N.out.tok L (by decide)).mono ?_
 rintro e w2 ⟨rfl,E⟩
 rw[h1]
 replace o:=zc (o.out.below E)
 replace n:=zc (n.out.below E)
 have U:=zc (ae.out.below E)
 have O:=zc (N.out.later E)
 clear E ae N
 clear a0 a1 a2 a3 a4 Y X a7 a8 a9 I J Z
 obtain⟨a0,a1,a2,a3,a4,Y,X,a7,a8,a9,I,J,Z⟩:=o.out.box
 go_wp2_with fail
 refine (zh (Cx.mk D j false) K A z S q (-1) 0 1 zC _ O.out.tok L (by decide)).mono ?_
 rintro e w3 ⟨rfl,H⟩
 rw[h2]
 replace o:=zc (o.out.below H)
 replace n:=zc (n.out.below H)
 have ac:=zc (U.out.below H)
 have ad:=zc (O.out.later H)
 clear H U O
 clear a0 a1 a2 a3 a4 Y X a7 a8 a9 I J Z
 obtain⟨a0,a1,a2,a3,a4,Y,X,a7,a8,a9,I,J,Z⟩:=o.out.box
 go_wp2_with fail
 refine (zgG (Cx.mk D j false) K A z S q _ ad.out).mono ?_
 rintro e w4 ⟨S4,q4,z4,n4,rfl,i4,m4,s4⟩
 replace o:=zc (o.out.stp s4)
 replace n:=zc (n.out.stp s4)
 have aa:=zc (ac.out.step s4)
 clear ac
 have Q:=zc m4
 have ai:=zc i4
 clear i4 m4 s4 ad
 clear a0 a1 a2 a3 a4 Y X a7 a8 a9 I J Z
 have ak:w.heap.size+1<w4.heap.size:=n.out.lt
 unfold pv
 go_upto_region 7 with fail
 refine zL (R:=fun W=>Bx K S4 W (w.heap.size) _∧Bx K S4 W (w.heap.size+1) _∧Bx K S4 W (w4.heap.size) _∧Mem (Cx.mk D j false) K A z S4 q4 W∧SB w.heap.size S w S4 W) ⟨(o.out.alloc _),(n.out.alloc _),(Bx.new Q.out _),(Q.out.alloc _),(aa.out.alloc _)⟩ ?_
 clear o n aa Q
 rintro w5 ⟨V,X1,X2,m5,t5⟩
 have o:=zc V
 have n:=zc X1
 have aj:=zc X2
 have ag:=zc m5
 have ah:=zc t5
 clear m5 t5 V X1 X2
 obtain⟨b0,b1,b2,b3,b4,b5,b6,b7,b8,b9,ao,an,bf⟩:=n.out.box
 obtain⟨c0,c1,c2,c3,c4,c5,c6,c7,c8,c9,al,am,cf⟩:=aj.out.box
 go_wp2
 refine bodyPost_ret (results_cell_row rfl _ _ (w.heap.size+1) 53 _ (0,0) _ rfl ((n.out.put ..)).heap Tryz.underlying53 rfl (by kernel_rfl)) rfl ?_
 rw[HV.out]
 exact zY rfl ai.out.fst (ag.out.put n.out ..) (ah.out.put (by omega) ..)
theorem znT (D:List Tk) (j:Nat) (J A z:Nat) (S:Sv) (q:PS) (w:World) (hm:Mem (Cx.mk D j false) J A z S q w) (h0:isT (Cx.mk D j false) q.pos 1 zah=false) (h1:isT (Cx.mk D j false) q.pos 1 zaf=false) (h2:isT (Cx.mk D j false) q.pos 1 zC=false) (h3:isT (Cx.mk D j false) q.pos 1 zT=true):
  Calls Tryz.prog 21 #[pv (Cx.mk D j false) J A S q (-1) 0] w (Out (Cx.mk D j false) J A z (zy (Cx.mk D j false) q) 0 S w):=by
 have HM:=zc hm
 have N:=hm.tok
 have I:(Cx.mk D j false).ts.length≤4000:=hm.few
 clear hm
 have HV:Hid (zy (Cx.mk D j false) q=zaK (fnP (Cx.mk D j false) q)):=by show zy (Cx.mk D j false) q=_;rw[zy,h0,h1,h2,h3];rfl
 unfold pv
 go_enter Tryz.func21,Tryz.ntmps21
 go_wp2_with fail
 refine (zh (Cx.mk D j false) J A z S q (-1) 0 1 zah _ (zq (zq N _) _) I (by decide)).mono ?_
 rintro e w1 ⟨rfl,ag⟩
 rw[h0]
 obtain⟨X0,X1,m1,t1⟩:=HM.out.two ag
 have n:=zc X0
 have o:=zc X1
 have X:=zc m1
 have aj:=zc t1
 clear X0 X1 m1 t1 ag
 clear N
 obtain⟨a0,Y,a2,a3,a4,U,O,a7,Z,a9,E,H,V⟩:=n.out.box
 go_wp2_with fail
 refine (zh (Cx.mk D j false) J A z S q (-1) 0 1 zaf _ X.out.tok I (by decide)).mono ?_
 rintro e w2 ⟨rfl,K⟩
 rw[h1]
 replace n:=zc (n.out.below K)
 replace o:=zc (o.out.below K)
 have ac:=zc (aj.out.below K)
 have aa:=zc (X.out.later K)
 clear K aj X
 clear a0 Y a2 a3 a4 U O a7 Z a9 E H V
 obtain⟨a0,Y,a2,a3,a4,U,O,a7,Z,a9,E,H,V⟩:=n.out.box
 go_wp2_with fail
 refine (zh (Cx.mk D j false) J A z S q (-1) 0 1 zC _ aa.out.tok I (by decide)).mono ?_
 rintro e w3 ⟨rfl,L⟩
 rw[h2]
 replace n:=zc (n.out.below L)
 replace o:=zc (o.out.below L)
 have ah:=zc (ac.out.below L)
 have ab:=zc (aa.out.later L)
 clear L ac aa
 clear a0 Y a2 a3 a4 U O a7 Z a9 E H V
 obtain⟨a0,Y,a2,a3,a4,U,O,a7,Z,a9,E,H,V⟩:=n.out.box
 go_wp2_with fail
 refine (zh (Cx.mk D j false) J A z S q (-1) 0 1 zT _ ab.out.tok I (by decide)).mono ?_
 rintro e w4 ⟨rfl,M⟩
 rw[h3]
 replace n:=zc (n.out.below M)
 replace o:=zc (o.out.below M)
 have ae:=zc (ah.out.below M)
 have ai:=zc (ab.out.later M)
 clear M ah ab
 clear a0 Y a2 a3 a4 U O a7 Z a9 E H V
 obtain⟨a0,Y,a2,a3,a4,U,O,a7,Z,a9,E,H,V⟩:=n.out.box
 go_wp2_with fail
 refine (zgH (Cx.mk D j false) J A z S q _ ai.out).mono ?_
 rintro e w5 ⟨S5,q5,z5,n5,rfl,i5,m5,s5⟩
 replace n:=zc (n.out.stp s5)
 replace o:=zc (o.out.stp s5)
 have ad:=zc (ae.out.step s5)
 clear ae
 have Q:=zc m5
 have al:=zc i5
 clear i5 m5 s5 ai
 clear a0 Y a2 a3 a4 U O a7 Z a9 E H V
 have ao:w.heap.size+1<w5.heap.size:=o.out.lt
 unfold pv
 go_upto_region 10 with fail
 refine zL (R:=fun W=>Bx J S5 W (w.heap.size) _∧Bx J S5 W (w.heap.size+1) _∧Bx J S5 W (w5.heap.size) _∧Mem (Cx.mk D j false) J A z S5 q5 W∧SB w.heap.size S w S5 W) ⟨(n.out.alloc _),(o.out.alloc _),(Bx.new Q.out _),(Q.out.alloc _),(ad.out.alloc _)⟩ ?_
 clear n o ad Q
 rintro w6 ⟨X0,X1,X2,m6,t6⟩
 have n:=zc X0
 have o:=zc X1
 have an:=zc X2
 have am:=zc m6
 have ak:=zc t6
 clear m6 t6 X0 X1 X2
 obtain⟨b0,b1,b2,b3,b4,b5,b6,b7,b8,b9,au,ar,bf⟩:=o.out.box
 obtain⟨c0,c1,c2,c3,c4,c5,c6,c7,c8,c9,ap,aq,cf⟩:=an.out.box
 go_wp2
 refine bodyPost_ret (results_cell_row rfl _ _ (w.heap.size+1) 53 _ (0,0) _ rfl ((o.out.put ..)).heap Tryz.underlying53 rfl (by kernel_rfl)) rfl ?_
 rw[HV.out]
 exact zY rfl al.out.fst (am.out.put o.out ..) (ak.out.put (by omega) ..)
theorem znU (D:List Tk) (j:Nat) (I A z:Nat) (S:Sv) (q:PS) (w:World) (hm:Mem (Cx.mk D j false) I A z S q w) (h0:isT (Cx.mk D j false) q.pos 1 zah=false) (h1:isT (Cx.mk D j false) q.pos 1 zaf=false) (h2:isT (Cx.mk D j false) q.pos 1 zC=false) (h3:isT (Cx.mk D j false) q.pos 1 zT=false) (h4:isT (Cx.mk D j false) q.pos 1 zar=true):
  Calls Tryz.prog 21 #[pv (Cx.mk D j false) I A S q (-1) 0] w (Out (Cx.mk D j false) I A z (zy (Cx.mk D j false) q) 0 S w):=by
 have HM:=zc hm
 have ad:=hm.tok
 have J:(Cx.mk D j false).ts.length≤4000:=hm.few
 clear hm
 have HV:Hid (zy (Cx.mk D j false) q=bd (bd (bd (bd (bd (bd (.ok q) (zd (Cx.mk D j false) 1 zar)) (zd (Cx.mk D j false) 4 zn)) (pE (Cx.mk D j false) .sum 0)) (zd (Cx.mk D j false) 4 za0)) (zd (Cx.mk D j false) 4 cSemi)) (zV (Cx.mk D j false) 4 sNone)):=by show zy (Cx.mk D j false) q=_;rw[zy,h0,h1,h2,h3,h4];rfl
 unfold pv
 go_enter Tryz.func21,Tryz.ntmps21
 go_wp2_with fail
 refine (zh (Cx.mk D j false) I A z S q (-1) 0 1 zah _ (zq (zq ad _) _) J (by decide)).mono ?_
 rintro e w1 ⟨rfl,aB⟩
 rw[h0]
 obtain⟨X0,X1,m1,t1⟩:=HM.out.two aB
 have n:=zc X0
 have o:=zc X1
 have ah:=zc m1
 have aK:=zc t1
 clear X0 X1 m1 t1 aB
 clear ad
 obtain⟨a0,Z,a2,a3,a4,X,V,a7,a8,a9,E,H,Y⟩:=n.out.box
 go_wp2_with fail
 refine (zh (Cx.mk D j false) I A z S q (-1) 0 1 zaf _ ah.out.tok J (by decide)).mono ?_
 rintro e w2 ⟨rfl,K⟩
 rw[h1]
 replace n:=zc (n.out.below K)
 replace o:=zc (o.out.below K)
 have am:=zc (aK.out.below K)
 have ai:=zc (ah.out.later K)
 clear K aK ah
 clear a0 Z a2 a3 a4 X V a7 a8 a9 E H Y
 obtain⟨a0,Z,a2,a3,a4,X,V,a7,a8,a9,E,H,Y⟩:=n.out.box
 go_wp2_with fail
 refine (zh (Cx.mk D j false) I A z S q (-1) 0 1 zC _ ai.out.tok J (by decide)).mono ?_
 rintro e w3 ⟨rfl,M⟩
 rw[h2]
 replace n:=zc (n.out.below M)
 replace o:=zc (o.out.below M)
 have aF:=zc (am.out.below M)
 have aj:=zc (ai.out.later M)
 clear M am ai
 clear a0 Z a2 a3 a4 X V a7 a8 a9 E H Y
 obtain⟨a0,Z,a2,a3,a4,X,V,a7,a8,a9,E,H,Y⟩:=n.out.box
 go_wp2_with fail
 refine (zh (Cx.mk D j false) I A z S q (-1) 0 1 zT _ aj.out.tok J (by decide)).mono ?_
 rintro e w4 ⟨rfl,N⟩
 rw[h3]
 replace n:=zc (n.out.below N)
 replace o:=zc (o.out.below N)
 have aA:=zc (aF.out.below N)
 have ak:=zc (aj.out.later N)
 clear N aF aj
 clear a0 Z a2 a3 a4 X V a7 a8 a9 E H Y
 obtain⟨a0,Z,a2,a3,a4,X,V,a7,a8,a9,E,H,Y⟩:=n.out.box
 go_wp2_with fail
 refine (zh (Cx.mk D j false) I A z S q (-1) 0 1 zar _ ak.out.tok J (by decide)).mono ?_
 rintro e w5 ⟨rfl,L⟩
 rw[h4]
 replace n:=zc (n.out.below L)
 replace o:=zc (o.out.below L)
 have av:=zc (aA.out.below L)
 have ap:=zc (ak.out.later L)
 clear L aA ak
 clear a0 Z a2 a3 a4 X V a7 a8 a9 E H Y
 obtain⟨a0,Z,a2,a3,a4,X,V,a7,a8,a9,E,H,Y⟩:=n.out.box
 go_wp2_with fail
 refine (zaH (Cx.mk D j false) I A z (.ok q) S q (-1) 0 zar _ (zX q) ap.out).mono ?_
 rintro e w6 ⟨S6,q6,z6,rfl,i6,m6,s6⟩
 replace n:=zc (n.out.stp s6)
 replace o:=zc (o.out.stp s6)
 have ao:=zc (av.out.step s6)
 clear av
 have az:=zc m6
 have aQ:=zc i6
 clear i6 m6 s6 ap
 clear a0 Z a2 a3 a4 X V a7 a8 a9 E H Y
 go_wp2_with fail
 refine (zad (Cx.mk D j false) I A z _ S6 q6 z6 0 zn _ aQ.out az.out).mono ?_
 rintro e w7 ⟨S7,q7,z7,rfl,i7,m7,s7⟩
 replace n:=zc (n.out.stp s7)
 replace o:=zc (o.out.stp s7)
 have aE:=zc (ao.out.step s7)
 clear ao
 have aD:=zc m7
 have aS:=zc i7
 clear i7 m7 s7 az
 go_wp2_with fail
 refine (zcN (Cx.mk D j false) I A z _ S7 q7 z7 _ aS.out aD.out).mono ?_
 rintro e w8 ⟨S8,q8,z8,rfl,i8,m8,s8⟩
 replace n:=zc (n.out.stp s8)
 replace o:=zc (o.out.stp s8)
 have aq:=zc (aE.out.step s8)
 clear aE
 have aI:=zc m8
 have aO:=zc i8
 clear i8 m8 s8 aD
 go_wp2_with fail
 refine (zad (Cx.mk D j false) I A z _ S8 q8 z8 0 za0 _ aO.out aI.out).mono ?_
 rintro e w9 ⟨S9,q9,z9,rfl,i9,m9,s9⟩
 replace n:=zc (n.out.stp s9)
 replace o:=zc (o.out.stp s9)
 have aH:=zc (aq.out.step s9)
 clear aq
 have al:=zc m9
 have aT:=zc i9
 clear i9 m9 s9 aI
 have aU:w.heap.size+1<w9.heap.size:=o.out.lt
 unfold pv
 go_upto_region 13 with fail
 refine zL (R:=fun W=>Bx I S9 W (w.heap.size) _∧Bx I S9 W (w.heap.size+1) _∧Bx I S9 W (w9.heap.size) _∧Mem (Cx.mk D j false) I A z S9 q9 W∧SB w.heap.size S w S9 W) ⟨(n.out.alloc _),(o.out.alloc _),(Bx.new al.out _),(al.out.alloc _),(aH.out.alloc _)⟩ ?_
 clear n o aH al
 rintro bb ⟨X0,X1,X2,aG,ay⟩
 have n:=zc X0
 have o:=zc X1
 have O:=zc X2
 have ag:=zc aG
 have ab:=zc ay
 clear aG ay X0 X1 X2
 obtain⟨c0,c1,c2,c3,c4,c5,c6,c7,c8,c9,aL,aP,cf⟩:=O.out.box
 go_wp2_with fail
 refine (zad (Cx.mk D j false) I A z _ S9 q9 z9 0 cSemi _ aT.out ag.out).mono ?_
 rintro e bc ⟨aM,aR,aN,rfl,ar,aJ,Q⟩
 replace n:=zc (n.out.stp Q)
 replace o:=zc (o.out.stp Q)
 replace O:=zc (O.out.stp Q)
 have ac:=zc (ab.out.step Q)
 clear ab
 have aa:=zc aJ
 have ae:=zc ar
 clear ar aJ Q ag
 clear c0 c1 c2 c3 c4 c5 c6 c7 c8 c9 aL aP cf
 go_wp2_with fail
 refine (zcL (Cx.mk D j false) I A z _ aM aR aN 0 4 sNone _ ae.out aa.out (zbh ae.out)).mono ?_
 rintro e aV ⟨aW,ba,aY,rfl,au,aw,U⟩
 replace n:=zc (n.out.stp U)
 replace o:=zc (o.out.stp U)
 replace O:=zc (O.out.stp U)
 have ax:=zc (ac.out.step U)
 clear ac
 have an:=zc aw
 have aC:=zc au
 clear au aw U aa
 obtain⟨b0,b1,b2,b3,b4,b5,b6,b7,b8,b9,aZ,aX,bf⟩:=o.out.box
 unfold pv
 go_wp2
 refine bodyPost_ret (results_cell_row rfl _ _ (w.heap.size+1) 53 _ (0,0) _ rfl ((o.out.put ..)).heap Tryz.underlying53 rfl (by kernel_rfl)) rfl ?_
 rw[HV.out]
 exact zY rfl aC.out (an.out.put o.out ..) (ax.out.put (by omega) ..)
theorem znV (D:List Tk) (j:Nat) (J A z:Nat) (S:Sv) (q:PS) (w:World) (hm:Mem (Cx.mk D j false) J A z S q w) (h0:isT (Cx.mk D j false) q.pos 1 zah=false) (h1:isT (Cx.mk D j false) q.pos 1 zaf=false) (h2:isT (Cx.mk D j false) q.pos 1 zC=false) (h3:isT (Cx.mk D j false) q.pos 1 zT=false) (h4:isT (Cx.mk D j false) q.pos 1 zar=false) (h5:isT (Cx.mk D j false) q.pos 1 za3=true):
  Calls Tryz.prog 21 #[pv (Cx.mk D j false) J A S q (-1) 0] w (Out (Cx.mk D j false) J A z (zy (Cx.mk D j false) q) 0 S w):=by
 have HM:=zc hm
 have ac:=hm.tok
 have I:(Cx.mk D j false).ts.length≤4000:=hm.few
 clear hm
 have HV:Hid (zy (Cx.mk D j false) q=bd (bd (bd (bd (.ok q) (zd (Cx.mk D j false) 1 za3)) (pE (Cx.mk D j false) .sum 0)) (zd (Cx.mk D j false) 4 cSemi)) (zV (Cx.mk D j false) 5 sNone)):=by show zy (Cx.mk D j false) q=_;rw[zy,h0,h1,h2,h3,h4,h5];rfl
 unfold pv
 go_enter Tryz.func21,Tryz.ntmps21
 go_wp2_with fail
 refine (zh (Cx.mk D j false) J A z S q (-1) 0 1 zah _ (zq (zq ac _) _) I (by decide)).mono ?_
 rintro e w1 ⟨rfl,au⟩
 rw[h0]
 obtain⟨X0,X1,m1,t1⟩:=HM.out.two au
 have n:=zc X0
 have o:=zc X1
 have ae:=zc m1
 have aD:=zc t1
 clear X0 X1 m1 t1 au
 clear ac
 obtain⟨Y,V,Z,a3,a4,L,K,a7,X,a9,E,H,M⟩:=n.out.box
 go_wp2_with fail
 refine (zh (Cx.mk D j false) J A z S q (-1) 0 1 zaf _ ae.out.tok I (by decide)).mono ?_
 rintro e w2 ⟨rfl,N⟩
 rw[h1]
 replace n:=zc (n.out.below N)
 replace o:=zc (o.out.below N)
 have ak:=zc (aD.out.below N)
 have ag:=zc (ae.out.later N)
 clear N aD ae
 clear Y V Z a3 a4 L K a7 X a9 E H M
 obtain⟨Y,V,Z,a3,a4,L,K,a7,X,a9,E,H,M⟩:=n.out.box
 go_wp2_with fail
 refine (zh (Cx.mk D j false) J A z S q (-1) 0 1 zC _ ag.out.tok I (by decide)).mono ?_
 rintro e w3 ⟨rfl,Q⟩
 rw[h2]
 replace n:=zc (n.out.below Q)
 replace o:=zc (o.out.below Q)
 have ax:=zc (ak.out.below Q)
 have ah:=zc (ag.out.later Q)
 clear Q ak ag
 clear Y V Z a3 a4 L K a7 X a9 E H M
 obtain⟨Y,V,Z,a3,a4,L,K,a7,X,a9,E,H,M⟩:=n.out.box
 go_wp2_with fail
 refine (zh (Cx.mk D j false) J A z S q (-1) 0 1 zT _ ah.out.tok I (by decide)).mono ?_
 rintro e w4 ⟨rfl,U⟩
 rw[h3]
 replace n:=zc (n.out.below U)
 replace o:=zc (o.out.below U)
 have ar:=zc (ax.out.below U)
 have ai:=zc (ah.out.later U)
 clear U ax ah
 clear Y V Z a3 a4 L K a7 X a9 E H M
 obtain⟨Y,V,Z,a3,a4,L,K,a7,X,a9,E,H,M⟩:=n.out.box
 go_wp2_with fail
 refine (zh (Cx.mk D j false) J A z S q (-1) 0 1 zar _ ai.out.tok I (by decide)).mono ?_
 rintro e w5 ⟨rfl,O⟩
 rw[h4]
 replace n:=zc (n.out.below O)
 replace o:=zc (o.out.below O)
 have ao:=zc (ar.out.below O)
 have ad:=zc (ai.out.later O)
 clear O ar ai
 clear Y V Z a3 a4 L K a7 X a9 E H M
 obtain⟨Y,V,Z,a3,a4,L,K,a7,X,a9,E,H,M⟩:=n.out.box
 go_wp2_with fail
 refine (zh (Cx.mk D j false) J A z S q (-1) 0 1 za3 _ ad.out.tok I (by decide)).mono ?_
 rintro e w6 ⟨rfl,aa⟩
 rw[h5]
 replace n:=zc (n.out.below aa)
 replace o:=zc (o.out.below aa)
 have al:=zc (ao.out.below aa)
 have aq:=zc (ad.out.later aa)
 clear aa ao ad
 clear Y V Z a3 a4 L K a7 X a9 E H M
 obtain⟨Y,V,Z,a3,a4,L,K,a7,X,a9,E,H,M⟩:=n.out.box
 go_wp2_with fail
 refine (zaH (Cx.mk D j false) J A z (.ok q) S q (-1) 0 za3 _ (zX q) aq.out).mono ?_
 rintro e w7 ⟨S7,q7,z7,rfl,i7,m7,s7⟩
 replace n:=zc (n.out.stp s7)
 replace o:=zc (o.out.stp s7)
 have aw:=zc (al.out.step s7)
 clear al
 have av:=zc m7
 have aG:=zc i7
 clear i7 m7 s7 aq
 clear Y V Z a3 a4 L K a7 X a9 E H M
 go_wp2_with fail
 refine (zcN (Cx.mk D j false) J A z _ S7 q7 z7 _ aG.out av.out).mono ?_
 rintro e w8 ⟨S8,q8,z8,rfl,i8,m8,s8⟩
 replace n:=zc (n.out.stp s8)
 replace o:=zc (o.out.stp s8)
 have an:=zc (aw.out.step s8)
 clear aw
 have aA:=zc m8
 have aF:=zc i8
 clear i8 m8 s8 av
 go_wp2_with fail
 refine (zad (Cx.mk D j false) J A z _ S8 q8 z8 0 cSemi _ aF.out aA.out).mono ?_
 rintro e w9 ⟨S9,q9,z9,rfl,i9,m9,s9⟩
 replace n:=zc (n.out.stp s9)
 replace o:=zc (o.out.stp s9)
 have az:=zc (an.out.step s9)
 clear an
 have aE:=zc m9
 have aC:=zc i9
 clear i9 m9 s9 aA
 go_wp2_with fail
 refine (zcL (Cx.mk D j false) J A z _ S9 q9 z9 0 5 sNone _ aC.out aE.out (zbh aC.out)).mono ?_
 rintro e aM ⟨aI,aJ,aH,rfl,aB,ay,ab⟩
 replace n:=zc (n.out.stp ab)
 replace o:=zc (o.out.stp ab)
 have am:=zc (az.out.step ab)
 clear az
 have ap:=zc ay
 have aj:=zc aB
 clear aB ay ab aE
 obtain⟨b0,b1,b2,b3,b4,b5,b6,b7,b8,b9,aL,aK,bf⟩:=o.out.box
 unfold pv
 go_wp2
 refine bodyPost_ret (results_cell_row rfl _ _ (w.heap.size+1) 53 _ (0,0) _ rfl ((o.out.put ..)).heap Tryz.underlying53 rfl (by kernel_rfl)) rfl ?_
 rw[HV.out]
 exact zY rfl aj.out (ap.out.put o.out ..) (am.out.put (by omega) ..)
theorem znW (D:List Tk) (j:Nat) (L E A:Nat) (S:Sv) (q:PS) (w:World) (hm:Mem (Cx.mk D j false) L E A S q w) (h0:isT (Cx.mk D j false) q.pos 1 zah=false) (h1:isT (Cx.mk D j false) q.pos 1 zaf=false) (h2:isT (Cx.mk D j false) q.pos 1 zC=false) (h3:isT (Cx.mk D j false) q.pos 1 zT=false) (h4:isT (Cx.mk D j false) q.pos 1 zar=false) (h5:isT (Cx.mk D j false) q.pos 1 za3=false):
  Calls Tryz.prog 21 #[pv (Cx.mk D j false) L E S q (-1) 0] w (Out (Cx.mk D j false) L E A (zy (Cx.mk D j false) q) 0 S w):=by
 have HM:=zc hm
 have ai:=hm.tok
 have J:(Cx.mk D j false).ts.length≤4000:=hm.few
 clear hm
 have HV:Hid (zy (Cx.mk D j false) q=bd (bd (.ok q) (zj (Cx.mk D j false) false)) fun a=>bd (bd (bd (bd (.ok a.1) (zd (Cx.mk D j false) 4 cEq)) (pE (Cx.mk D j false) .sum 0)) (zd (Cx.mk D j false) 4 cSemi)) (zV (Cx.mk D j false) 3 a.2)):=by show zy (Cx.mk D j false) q=_;rw[zy,h0,h1,h2,h3,h4,h5];rfl
 unfold pv
 go_enter Tryz.func21,Tryz.ntmps21
 go_wp2_with fail
 refine (zh (Cx.mk D j false) L E A S q (-1) 0 1 zah _ (zq (zq ai _) _) J (by decide)).mono ?_
 rintro e w1 ⟨rfl,aF⟩
 rw[h0]
 obtain⟨X0,X1,m1,t1⟩:=HM.out.two aF
 have o:=zc X0
 have z:=zc X1
 have am:=zc m1
 have aP:=zc t1
 clear X0 X1 m1 t1 aF
 clear ai
 obtain⟨a0,Y,a2,a3,a4,N,M,a7,Z,a9,H,I,O⟩:=o.out.box
 go_wp2_with fail
 refine (zh (Cx.mk D j false) L E A S q (-1) 0 1 zaf _ am.out.tok J (by decide)).mono ?_
 rintro e w2 ⟨rfl,Q⟩
 rw[h1]
 replace o:=zc (o.out.below Q)
 replace z:=zc (z.out.below Q)
 have au:=zc (aP.out.below Q)
 have ao:=zc (am.out.later Q)
 clear Q aP am
 clear a0 Y a2 a3 a4 N M a7 Z a9 H I O
 obtain⟨a0,Y,a2,a3,a4,N,M,a7,Z,a9,H,I,O⟩:=o.out.box
 go_wp2_with fail
 refine (zh (Cx.mk D j false) L E A S q (-1) 0 1 zC _ ao.out.tok J (by decide)).mono ?_
 rintro e w3 ⟨rfl,V⟩
 rw[h2]
 replace o:=zc (o.out.below V)
 replace z:=zc (z.out.below V)
 have aI:=zc (au.out.below V)
 have ap:=zc (ao.out.later V)
 clear V au ao
 clear a0 Y a2 a3 a4 N M a7 Z a9 H I O
 obtain⟨a0,Y,a2,a3,a4,N,M,a7,Z,a9,H,I,O⟩:=o.out.box
 go_wp2_with fail
 refine (zh (Cx.mk D j false) L E A S q (-1) 0 1 zT _ ap.out.tok J (by decide)).mono ?_
 rintro e w4 ⟨rfl,X⟩
 rw[h3]
 replace o:=zc (o.out.below X)
 replace z:=zc (z.out.below X)
 have aE:=zc (aI.out.below X)
 have aq:=zc (ap.out.later X)
 clear X aI ap
 clear a0 Y a2 a3 a4 N M a7 Z a9 H I O
 obtain⟨a0,Y,a2,a3,a4,N,M,a7,Z,a9,H,I,O⟩:=o.out.box
 go_wp2_with fail
 refine (zh (Cx.mk D j false) L E A S q (-1) 0 1 zar _ aq.out.tok J (by decide)).mono ?_
 rintro e w5 ⟨rfl,U⟩
 rw[h4]
 replace o:=zc (o.out.below U)
 replace z:=zc (z.out.below U)
 have aA:=zc (aE.out.below U)
 have al:=zc (aq.out.later U)
 clear U aE aq
 clear a0 Y a2 a3 a4 N M a7 Z a9 H I O
 obtain⟨a0,Y,a2,a3,a4,N,M,a7,Z,a9,H,I,O⟩:=o.out.box
 go_wp2_with fail
 refine (zh (Cx.mk D j false) L E A S q (-1) 0 1 za3 _ al.out.tok J (by decide)).mono ?_
 rintro e w6 ⟨rfl,ac⟩
 rw[h5]
 replace o:=zc (o.out.below ac)
 replace z:=zc (z.out.below ac)
 have aw:=zc (aA.out.below ac)
 have aD:=zc (al.out.later ac)
 clear ac aA al
 clear a0 Y a2 a3 a4 N M a7 Z a9 H I O
 obtain⟨a0,Y,a2,a3,a4,N,M,a7,Z,a9,H,I,O⟩:=o.out.box
 go_wp2_with fail
 refine (zbe (Cx.mk D j false) L E A (.ok q) S q (-1) 0 false _ (zX q) aD.out).mono ?_
 rintro e w7 ⟨S7,q7,z7,n7,rfl,i7,m7,s7⟩
 replace o:=zc (o.out.stp s7)
 replace z:=zc (z.out.stp s7)
 have aH:=zc (aw.out.step s7)
 clear aw
 have an:=zc m7
 have aL:=zc i7
 clear i7 m7 s7 aD
 clear a0 Y a2 a3 a4 N M a7 Z a9 H I O
 have ba:w.heap.size+1<w7.heap.size:=z.out.lt
 unfold pv
 go_upto_region 19 with fail
 refine zL (R:=fun W=>Bx L S7 W (w.heap.size) _∧Bx L S7 W (w.heap.size+1) _∧Bx L S7 W (w7.heap.size) _∧Mem (Cx.mk D j false) L E A S7 q7 W∧SB w.heap.size S w S7 W) ⟨(o.out.alloc _),(z.out.alloc _),(Bx.new an.out _),(an.out.alloc _),(aH.out.alloc _)⟩ ?_
 clear o z aH an
 rintro w8 ⟨X0,X1,X2,m8,t8⟩
 have o:=zc X0
 have z:=zc X1
 have K:=zc X2
 have aM:=zc m8
 have ax:=zc t8
 clear m8 t8 X0 X1 X2
 obtain⟨c0,c1,c2,c3,c4,c5,c6,c7,c8,c9,aT,aX,cf⟩:=K.out.box
 go_wp2_with fail
 refine (zad (Cx.mk D j false) L E A _ S7 q7 z7 0 cEq _ aL.out.fst aM.out).mono ?_
 rintro e w9 ⟨S9,q9,z9,rfl,i9,m9,s9⟩
 replace o:=zc (o.out.stp s9)
 replace z:=zc (z.out.stp s9)
 replace K:=zc (K.out.stp s9)
 have aK:=zc (ax.out.step s9)
 clear ax
 have aQ:=zc m9
 have aZ:=zc i9
 clear i9 m9 s9 aM
 clear c0 c1 c2 c3 c4 c5 c6 c7 c8 c9 aT aX cf
 go_wp2_with fail
 refine (zcN (Cx.mk D j false) L E A _ S9 q9 z9 _ aZ.out aQ.out).mono ?_
 rintro e bk ⟨aS,aW,aR,rfl,aN,aJ,aa⟩
 replace o:=zc (o.out.stp aa)
 replace z:=zc (z.out.stp aa)
 replace K:=zc (K.out.stp aa)
 have ag:=zc (aK.out.step aa)
 clear aK
 have ak:=zc aJ
 have ar:=zc aN
 clear aN aJ aa aQ
 go_wp2_with fail
 refine (zad (Cx.mk D j false) L E A _ aS aW aR 0 cSemi _ ar.out ak.out).mono ?_
 rintro e bl ⟨aU,aY,aV,rfl,ay,aO,ab⟩
 replace o:=zc (o.out.stp ab)
 replace z:=zc (z.out.stp ab)
 replace K:=zc (K.out.stp ab)
 have ah:=zc (ag.out.step ab)
 clear ag
 have ae:=zc aO
 have aj:=zc ay
 clear ay aO ab ak
 go_wp2_with fail
 refine (zcL (Cx.mk D j false) L E A _ aU aY aV 0 3 n7 _ aj.out ae.out (zbh aj.out)).mono ?_
 rintro e bb ⟨bc,bj,bg,rfl,az,aB,ad⟩
 replace o:=zc (o.out.stp ad)
 replace z:=zc (z.out.stp ad)
 replace K:=zc (K.out.stp ad)
 have aC:=zc (ah.out.step ad)
 clear ah
 have av:=zc aB
 have aG:=zc az
 clear az aB ad ae
 obtain⟨b0,b1,b2,b3,b4,b5,b6,b7,b8,b9,bi,be,bf⟩:=z.out.box
 unfold pv
 go_wp2
 refine bodyPost_ret (results_cell_row rfl _ _ (w.heap.size+1) 53 _ (0,0) _ rfl ((z.out.put ..)).heap Tryz.underlying53 rfl (by kernel_rfl)) rfl ?_
 rw[HV.out,←aL.out.bind (fun q n=>bd (bd (bd (bd (.ok q) (zd (Cx.mk D j false) 4 cEq)) (pE (Cx.mk D j false) .sum 0)) (zd (Cx.mk D j false) 4 cSemi)) (zV (Cx.mk D j false) 3 n)),←ziP]
 exact zY rfl aG.out (av.out.put z.out ..) (aC.out.put (by omega) ..)
theorem znX (z:List Tk) (j:Nat) (A o n:Nat) (S:Sv) (q:PS) (w:World) (E:Mem (Cx.mk z j false) A o n S q w):
  Calls Tryz.prog 21 #[pv (Cx.mk z j false) A o S q (-1) 0] w (Out (Cx.mk z j false) A o n (zy (Cx.mk z j false) q) 0 S w):=by
 cases D:isT (Cx.mk z j false) q.pos 1 zah with
 |true=>exact znQ z j A o n S q w E D
 |false=>
  cases H:isT (Cx.mk z j false) q.pos 1 zaf with
  |true=>exact znR z j A o n S q w E D H
  |false=>
   cases I:isT (Cx.mk z j false) q.pos 1 zC with
   |true=>exact znS z j A o n S q w E D H I
   |false=>
    cases J:isT (Cx.mk z j false) q.pos 1 zT with
    |true=>exact znT z j A o n S q w E D H I J
    |false=>
     cases K:isT (Cx.mk z j false) q.pos 1 zar with
     |true=>exact znU z j A o n S q w E D H I J K
     |false=>
      cases L:isT (Cx.mk z j false) q.pos 1 za3 with
      |true=>exact znV z j A o n S q w E D H I J K L
      |false=>
       exact znW z j A o n S q w E D H I J K L
theorem znY (C:Cx) (z n j:Nat) (S:Sv) (q:PS) (w:World) (E:Mem C z n j S q w):
  Calls Tryz.prog 21 #[pv C z n S q (-1) 0] w (Out C z n j (zy C q) 0 S w):=by
 obtain⟨D,o,A⟩:=C
 cases A with
 |true=>exact znP D o z n j S q w E
 |false=>exact znX D o z n j S q w E
theorem ziQ (s:ByteArray) (j:Bool) (w:World) (hs:s.size≤4294967296):
  Calls Tryz.prog 6 #[.string s,.bool j] w fun e w'=>ParseOut s j w e w'∧Below w.heap.size w w':=by
 obtain⟨i0,hi,an,ax,aw⟩:=info_parts Tryz.infoExp
 go_enter Tryz.func6,Tryz.ntmps6
 go_wp2_with fail
 refine (zlB s j _ hs).mono ?_
 rintro e U ⟨⟨r1,M,N⟩,b1⟩
 have ab:Hid (Below w.heap.size w U):=((Below.refl _ _).alloc (Nat.le_refl _) _).trans (b1.mono (by rw[zk];omega))
 have hG:U.heap[w.heap.size]? =some (.cells #[.slice none 0 0,.slice none 0 0,.slice none 0 0,.slice none 0 0,.slice none 0 0] 28 (0,0)):=(b1.block _ (by rw[zk];omega)).trans (heap_alloc_new w _)
 rw[zk] at b1
 cases r1 with
 |error p=>
  obtain⟨g,O,rfl,q⟩:=N
  have HY:Hid (zb7 s j (.error p)):=⟨_,M,rfl⟩
  have HG:=zc hG
  obtain⟨c0,c1,c2,c3,c4,cf⟩:=zl hG
  have dz:decide ((0:Int)≤(p:Int))=true:=decide_eq_true (by omega)
  clear q M b1 hG
  go_wp2
  refine bodyPost_ret (zaA rfl _ _ w.heap.size 28 _ (0,0) _ rfl (zcZ HG.out) Tryz.underlying28 rfl (by kernel_rfl)) rfl ?_
  exact⟨⟨_,HY.out,rfl⟩,zd1 ab.out (Nat.le_refl _) _ _ _ _ _⟩
 |ok z=>
  obtain⟨g,n,O,rfl,q⟩:=N
  obtain rfl:n=z.length:=q.2
  rw[zk] at q
  have al:w.heap.size+1≤U.heap.size:=by have:=b1.size;rw[zk] at this;exact this
  have aj:=zhN M
  have HR:=zc M
  have ah:Mem ⟨z,s.size,j⟩ g O (w.heap.size+1) S0 zbC U:=zhO q aj al
  have ae:=zc ah
  have HG:=zc hG
  clear q M ah hG
  go_wp2
  go_loopg [] (z.length+1) (fun k wr=>∃(x':PR) (D:Sv) (Q:PS) (z':Int),Is x' Q z'∧bd x' (zas ⟨z,s.size,j⟩)=zas ⟨z,s.size,j⟩ zbC∧(z'<0→z.length-Q.pos<k)∧Mem ⟨z,s.size,j⟩ g O (w.heap.size+1) D Q wr∧Below w.heap.size w wr∧Bx g D wr U.heap.size #[.slice (some ⟨g,0,none⟩) z.length O,.int .i64 Q.pos,.int .i64 s.size,.bool j,.slice D.rq.a Q.rq.length D.rq.cap,.slice D.im.a Q.im.length D.im.cap,.slice D.ep.a Q.ep.length D.ep.cap,.slice D.st.a Q.st.length D.st.cap,.slice D.ex.a Q.ex.length D.ex.cap,.slice D.la.a Q.la.length D.la.cap,.int .i64 z',.int .i64 0]∧wr.heap[w.heap.size]? =some (.cells #[.slice none 0 0,.slice none 0 0,.slice none 0 0,.slice none 0 0,.slice none 0 0] 28 (0,0)))
  case atStart=>exact⟨.ok zbC,S0,zbC,-1,zX _,rfl,fun _=>by show z.length-0<z.length+1;omega,ae.out.alloc _,ab.out.alloc ab.out.size _,Bx.new ae.out _,(Below.heap_alloc _ _ _ (by omega)).trans HG.out⟩
  case round=>
   obtain⟨x2,S2,E,z2,i2,e2,l2,m2,t2,X0,G2⟩:=hrel
   have ad:=zc i2
   have ac:=zc e2
   have au:=zc l2
   have o:=zc m2
   have V:=zc t2
   have H:=zc X0
   have J:=zc G2
   have aA:E.pos≤z.length:=m2.inv.pos
   obtain⟨a0,a1,a2,a3,a4,a5,a6,a7,a8,a9,X,Z,af⟩:=X0.box
   clear i2 e2 l2 m2 t2 X0 G2
   by_cases hz:z2<0
   ·have dz:decide (z2<0)=true:=decide_eq_true hz
    obtain⟨rfl,rfl⟩:=zaC ad.out hz
    by_cases hp:E.pos<z.length
    ·have az:=au.out hz
     go_wp2_with fail
     refine (znY ⟨z,s.size,j⟩ g O (w.heap.size+1) S2 E _ o.out).mono ?_
     rintro e w3 ⟨S3,q3,z3,rfl,i3,m3,s3⟩
     have av:=zc m3
     have ai:=zc i3
     have Y:Hid (Below (w.heap.size+1) wr w3):=s3.under o.out.base o.out.own
     have L:Hid (Bx g S3 w3 U.heap.size _):=H.out.stp s3
     have aq:Hid (Below w.heap.size w w3):=V.out.trans (Y.out.mono (by omega))
     have aa:Hid (w3.heap[w.heap.size]? =some (.cells #[.slice none 0 0,.slice none 0 0,.slice none 0 0,.slice none 0 0,.slice none 0 0] 28 (0,0))):=(Y.out.block _ (by omega)).trans J.out
     have HE:Hid (bd (zy ⟨z,s.size,j⟩ E) (zas ⟨z,s.size,j⟩)=zas ⟨z,s.size,j⟩ zbC):=by
      show _=_
      rw[←ac.out,zz,zfu,if_pos hp]
     have HP:Hid (z3<0→E.pos<q3.pos):=fun h=>zft (zaC ai.out h).1
     clear i3 m3 s3 a0 a1 a2 a3 a4 a5 a6 a7 a8 a9 X Z af
     obtain⟨a0,a1,a2,a3,a4,a5,a6,a7,a8,a9,X,Z,af⟩:=L.out.box
     unfold pv
     go_wp2
     go_roundg (gk-1)
     case rel=>exact⟨_,S3,q3,z3,ai.out,HE.out,fun h=>by have:=HP.out h;omega,av.out.put L.out _ _ _ _ _ _ _ _ _ _ _ _,zbD aq.out (by omega) _ _ _ _ _ _ _ _ _ _ _ _,L.out.put _ _ _ _ _ _ _ _ _ _ _ _,(zeQ (by omega) ..).trans aa.out⟩
     case measure=>omega
    ·have HD:Hid (zas ⟨z,s.size,j⟩ zbC= .ok E):=by
      show _=_
      rw[←ac.out,zz,zfu,if_neg hp]
     have HY:Hid (zb7 s j (.ok E)):=⟨_,HR.out,HD.out.symm⟩
     have am:U.heap.size<wr.heap.size:=H.out.lt
     have ay:=o.out.inv.ep
     have A:=o.out.own.ep
     have Y:=o.out.base
     rcases o.out.own.la.nil_or with ⟨ha,hc,hn⟩|⟨gl,ha⟩
     ·have HN:Hid (E.la=[]):=List.eq_nil_of_length_eq_zero hn
      rw[ha,hc,hn] at a9
      obtain⟨c0,c1,c2,c3,c4,cf⟩:=zl J.out
      clear ha hc hn
      go_wp2_with (at_builtin;refine zlz _ rfl _ _ 24 rfl 102 i0 Tryz.underlying24 hi (w.heap.size+1) 4 E.ep.length S2.ep _ (by rfl) A (by rfl) ?_)
      clear A
      go_wp2
      refine bodyPost_ret (zaA rfl _ _ w.heap.size 28 _ (0,0) _ rfl (zcZ ((zi (by omega)).trans J.out)) Tryz.underlying28 rfl (by kernel_rfl)) rfl ?_
      refine⟨⟨_,HY.out,S2,by simp[zfv,HN.out],o.out.whole0 HN.out (Nat.lt_succ_self _) H.out.free fun k K h2=>?_⟩,zd1 (V.out.setCell (by show _≤U.heap.size;omega) _) (Nat.le_refl _) _ _ _ _ _⟩
      rw[zi K,zi K,zi K,zi K,zi K,zi h2]
     ·have ak:OwnR wr (w.heap.size+1) 102 4 ⟨some ⟨gl,0,none⟩,S2.la.cap⟩ E.la.length (E.la.flatMap epL):=by have:=o.out.own.la;unfold OwnR at this ⊢;rw[ha] at this;exact this
      rw[ha] at a9
      go_wp2_with (at_builtin;refine zly _ rfl _ _ 24 rfl (w.heap.size+1) 102 i0 _ 4 56 Tryz.underlying24 hi an ax aw rfl (by decide) (by decide) S2.ep E.ep.length _ (by rfl) A gl E.la.length S2.la.cap (w.heap.size+1) _ (by rfl) ak (zgu _) (by omega) Y ?_)
      intro r' w3 hr hg ag
      have ar:=zc hr
      have I:=zc hg
      have ao:=zc ag
      have ap:=fun b hb=>zd6 (W:=wr) o.out.own (Nat.le_refl _) (r:=S2.ep.blk) (fun k e=>.inr (.inr (.inl e))) b hb
      have L:Hid (w3.heap[U.heap.size]? =_):=(hg.block _ am (fun e=>H.out.free (.inr (.inr (.inl e.symm))))).trans H.out.heap
      have aa:Hid (w3.heap[w.heap.size]? =_):=(hg.block _ (by omega) (fun e=>by have:=(A.typed e.symm).1;omega)).trans J.out
      clear a0 a1 a2 a3 a4 a5 a6 a7 a8 a9 X Z af hr hg ag ap A ak
      obtain⟨a0,a1,a2,a3,a4,a5,a6,a7,a8,a9,X,Z,af⟩:=zaj L.out
      obtain⟨c0,c1,c2,c3,c4,cf⟩:=zl aa.out
      go_wp2
      refine bodyPost_ret (zaA rfl _ _ w.heap.size 28 _ (0,0) _ rfl (zcZ ((zi (by omega)).trans aa.out)) Tryz.underlying28 rfl (by kernel_rfl)) rfl ?_
      refine⟨⟨_,HY.out,{S2 with ep:=r'},by simp[zfv],o.out.whole I.out ar.out ao.out (Nat.lt_succ_self _) am H.out.free fun k K h2=>?_⟩,zd1 ((V.out.trans (Below.mono (B:=w.heap.size+1) ⟨I.out.os,I.out.tape,I.out.output,I.out.size,fun k hk=>I.out.block k (by omega) fun e=>by have:=(o.out.own.ep.typed e.symm).1;omega⟩ (by omega))).setCell (by show _≤U.heap.size;omega) _) (Nat.le_refl _) _ _ _ _ _⟩
      rw[zi K,zi K,zi K,zi K,zi K,zi h2]
   ·have dz:decide (z2<0)=false:=decide_eq_false hz
    obtain⟨e0,rfl,rfl⟩:=zdc ad.out hz
    have aB:decide ((0:Int)≤(e0:Int))=true:=decide_eq_true (by omega)
    have HY:Hid (zb7 s j (.error e0)):=⟨_,HR.out,(show (.error e0:PR)=zas ⟨z,s.size,j⟩ zbC from ac.out)⟩
    obtain⟨c0,c1,c2,c3,c4,cf⟩:=zl J.out
    go_wp2
    go_region
    all_goals
     go_wp2
     refine bodyPost_ret (zaA rfl _ _ w.heap.size 28 _ (0,0) _ rfl (zcZ J.out) Tryz.underlying28 rfl (by kernel_rfl)) rfl ?_
     exact⟨⟨_,HY.out,rfl⟩,(zd1 V.out (Nat.le_refl _) ..).drew⟩
end Go.Proofs.YticdggnnpjachaaGreat
