/-
  What spec's l4Item answers outside of a script: the walks.
  What spec.Parse answers: the walk.
-/
import Derived.Test.YticdggnnpjachaaGreatCbSpecParseMToSpecParseP
namespace Go.Proofs.YticdggnnpjachaaGreat
set_option maxRecDepth 100000
set_option maxHeartbeats 6400000
open Go.RowKit Go.PlainAid
theorem znQ (z:List Tk) (j:Nat) (L o n:Nat) (S:Sv) (q:PS) (w:World) (M:Mem (Cx.mk z j false) L o n S q w) (Q:isT (Cx.mk z j false) q.pos 1 zah=true):
  Calls Tryz.prog 21 #[pv (Cx.mk z j false) L o S q (-1) 0] w (Out (Cx.mk z j false) L o n (zy (Cx.mk z j false) q) 0 S w):=by
 have HM:=zc M
 have D:=M.tok
 have I:(Cx.mk z j false).ts.length≤4000:=M.few
 clear M
 have HV:Hid (zy (Cx.mk z j false) q=zaQ (Cx.mk z j false) q):=by show zy (Cx.mk z j false) q=_;rw[zy,Q];rfl
 unfold pv
 go_enter Tryz.func21,Tryz.ntmps21
 go_wp2_with fail
 refine (zh (Cx.mk z j false) L o n S q (-1) 0 1 zah _ (zq (zq D _) _) I (by decide)).mono ?_
 rintro e w1 ⟨rfl,J⟩
 rw[Q]
 obtain⟨X0,Z,m1,t1⟩:=HM.out.two J
 have E:=zc X0
 have A:=zc Z
 have H:=zc m1
 have K:=zc t1
 clear X0 Z m1 t1 J
 clear D
 obtain⟨a0,a1,a2,a3,a4,a5,a6,a7,a8,a9,V,Y,af⟩:=E.out.box
 go_wp2_with fail
 refine (znH (Cx.mk z j false) L o n S q _ H.out Q).mono ?_
 rintro e w2 ⟨S2,q2,z2,rfl,i2,m2,N⟩
 replace E:=zc (E.out.stp N)
 replace A:=zc (A.out.stp N)
 have U:=zc (K.out.step N)
 clear K
 have X:=zc m2
 have O:=zc i2
 clear i2 m2 N H
 clear a0 a1 a2 a3 a4 a5 a6 a7 a8 a9 V Y af
 obtain⟨b0,b1,b2,b3,b4,b5,b6,b7,b8,b9,ab,aa,bf⟩:=A.out.box
 unfold pv
 go_wp2
 refine bodyPost_ret (results_cell_row rfl _ _ (w.heap.size+1) 53 _ (0,0) _ rfl ((A.out.put ..)).heap Tryz.underlying53 rfl (by kernel_rfl)) rfl ?_
 rw[HV.out]
 exact zY rfl O.out (X.out.put A.out ..) (U.out.put (by omega) ..)
theorem znR (A:List Tk) (j:Nat) (M z n:Nat) (S:Sv) (q:PS) (w:World) (X:Mem (Cx.mk A j false) M z n S q w) (h0:isT (Cx.mk A j false) q.pos 1 zah=false) (h1:isT (Cx.mk A j false) q.pos 1 zaf=true):
  Calls Tryz.prog 21 #[pv (Cx.mk A j false) M z S q (-1) 0] w (Out (Cx.mk A j false) M z n (zy (Cx.mk A j false) q) 0 S w):=by
 have HM:=zc X
 have I:=X.tok
 have H:(Cx.mk A j false).ts.length≤4000:=X.few
 clear X
 have HV:Hid (zy (Cx.mk A j false) q=zag (Cx.mk A j false) q):=by show zy (Cx.mk A j false) q=_;rw[zy,h0,h1];rfl
 unfold pv
 go_enter Tryz.func21,Tryz.ntmps21
 go_wp2_with fail
 refine (zh (Cx.mk A j false) M z n S q (-1) 0 1 zah _ (zq (zq I _) _) H (by decide)).mono ?_
 rintro e w1 ⟨rfl,O⟩
 rw[h0]
 obtain⟨X0,X1,m1,t1⟩:=HM.out.two O
 have D:=zc X0
 have o:=zc X1
 have J:=zc m1
 have U:=zc t1
 clear X0 X1 m1 t1 O
 clear I
 obtain⟨a0,a1,a2,a3,a4,Y,a6,a7,Z,a9,K,L,af⟩:=D.out.box
 go_wp2_with fail
 refine (zh (Cx.mk A j false) M z n S q (-1) 0 1 zaf _ J.out.tok H (by decide)).mono ?_
 rintro e w2 ⟨rfl,E⟩
 rw[h1]
 replace D:=zc (D.out.below E)
 replace o:=zc (o.out.below E)
 have N:=zc (U.out.below E)
 have Q:=zc (J.out.later E)
 clear E U J
 clear a0 a1 a2 a3 a4 Y a6 a7 Z a9 K L af
 obtain⟨a0,a1,a2,a3,a4,Y,a6,a7,Z,a9,K,L,af⟩:=D.out.box
 go_wp2_with fail
 refine (znI (Cx.mk A j false) M z n S q _ Q.out h1).mono ?_
 rintro e w3 ⟨S3,q3,z3,rfl,i3,m3,V⟩
 replace D:=zc (D.out.stp V)
 replace o:=zc (o.out.stp V)
 have ac:=zc (N.out.step V)
 clear N
 have aa:=zc m3
 have ab:=zc i3
 clear i3 m3 V Q
 clear a0 a1 a2 a3 a4 Y a6 a7 Z a9 K L af
 obtain⟨b0,b1,b2,b3,b4,b5,b6,b7,b8,b9,ae,ad,bf⟩:=o.out.box
 unfold pv
 go_wp2
 refine bodyPost_ret (results_cell_row rfl _ _ (w.heap.size+1) 53 _ (0,0) _ rfl ((o.out.put ..)).heap Tryz.underlying53 rfl (by kernel_rfl)) rfl ?_
 rw[HV.out]
 exact zY rfl ab.out (aa.out.put o.out ..) (ac.out.put (by omega) ..)
theorem znS (D:List Tk) (j:Nat) (E A z:Nat) (S:Sv) (q:PS) (w:World) (hm:Mem (Cx.mk D j false) E A z S q w) (h0:isT (Cx.mk D j false) q.pos 1 zah=false) (h1:isT (Cx.mk D j false) q.pos 1 zaf=false) (h2:isT (Cx.mk D j false) q.pos 1 zC=true):
  Calls Tryz.prog 21 #[pv (Cx.mk D j false) E A S q (-1) 0] w (Out (Cx.mk D j false) E A z (zy (Cx.mk D j false) q) 0 S w):=by
 have HM:=zc hm
 have M:=hm.tok
 have I:(Cx.mk D j false).ts.length≤4000:=hm.few
 clear hm
 have HV:Hid (zy (Cx.mk D j false) q=zaK (zcj (Cx.mk D j false) q)):=by show zy (Cx.mk D j false) q=_;rw[zy,h0,h1,h2];rfl
 unfold pv
 go_enter Tryz.func21,Tryz.ntmps21
 go_wp2_with fail
 refine (zh (Cx.mk D j false) E A z S q (-1) 0 1 zah _ (zq (zq M _) _) I (by decide)).mono ?_
 rintro e w1 ⟨rfl,ad⟩
 rw[h0]
 obtain⟨Z,V,m1,t1⟩:=HM.out.two ad
 have o:=zc Z
 have n:=zc V
 have N:=zc m1
 have aa:=zc t1
 clear Z V m1 t1 ad
 clear M
 obtain⟨a0,a1,U,a3,a4,X,a6,a7,a8,a9,J,L,Y⟩:=o.out.box
 go_wp2_with fail
 refine (zh (Cx.mk D j false) E A z S q (-1) 0 1 zaf _ N.out.tok I (by decide)).mono ?_
 rintro e w2 ⟨rfl,H⟩
 rw[h1]
 replace o:=zc (o.out.below H)
 replace n:=zc (n.out.below H)
 have ae:=zc (aa.out.below H)
 have O:=zc (N.out.later H)
 clear H aa N
 clear a0 a1 U a3 a4 X a6 a7 a8 a9 J L Y
 obtain⟨a0,a1,U,a3,a4,X,a6,a7,a8,a9,J,L,Y⟩:=o.out.box
 go_wp2_with fail
 refine (zh (Cx.mk D j false) E A z S q (-1) 0 1 zC _ O.out.tok I (by decide)).mono ?_
 rintro e w3 ⟨rfl,K⟩
 rw[h2]
 replace o:=zc (o.out.below K)
 replace n:=zc (n.out.below K)
 have ab:=zc (ae.out.below K)
 have ag:=zc (O.out.later K)
 clear K ae O
 clear a0 a1 U a3 a4 X a6 a7 a8 a9 J L Y
 obtain⟨a0,a1,U,a3,a4,X,a6,a7,a8,a9,J,L,Y⟩:=o.out.box
 go_wp2_with fail
 refine (zgG (Cx.mk D j false) E A z S q _ ag.out).mono ?_
 rintro e w4 ⟨S4,q4,z4,n4,rfl,i4,m4,s4⟩
 replace o:=zc (o.out.stp s4)
 replace n:=zc (n.out.stp s4)
 have ac:=zc (ab.out.step s4)
 clear ab
 have Q:=zc m4
 have ai:=zc i4
 clear i4 m4 s4 ag
 clear a0 a1 U a3 a4 X a6 a7 a8 a9 J L Y
 have al:w.heap.size+1<w4.heap.size:=n.out.lt
 unfold pv
 go_upto_region 7 with fail
 refine zL (R:=fun W=>Bx E S4 W (w.heap.size) _∧Bx E S4 W (w.heap.size+1) _∧Bx E S4 W (w4.heap.size) _∧Mem (Cx.mk D j false) E A z S4 q4 W∧SB w.heap.size S w S4 W) ⟨(o.out.alloc _),(n.out.alloc _),(Bx.new Q.out _),(Q.out.alloc _),(ac.out.alloc _)⟩ ?_
 clear o n ac Q
 rintro w5 ⟨Z,V,X2,m5,t5⟩
 have o:=zc Z
 have n:=zc V
 have ah:=zc X2
 have ak:=zc m5
 have aj:=zc t5
 clear m5 t5 Z V X2
 obtain⟨b0,b1,b2,b3,b4,b5,b6,b7,b8,b9,an,ao,bf⟩:=n.out.box
 obtain⟨c0,c1,c2,c3,c4,c5,c6,c7,c8,c9,ap,am,cf⟩:=ah.out.box
 go_wp2
 refine bodyPost_ret (results_cell_row rfl _ _ (w.heap.size+1) 53 _ (0,0) _ rfl ((n.out.put ..)).heap Tryz.underlying53 rfl (by kernel_rfl)) rfl ?_
 rw[HV.out]
 exact zY rfl ai.out.fst (ak.out.put n.out ..) (aj.out.put (by omega) ..)
theorem znT (D:List Tk) (j:Nat) (J A z:Nat) (S:Sv) (q:PS) (w:World) (hm:Mem (Cx.mk D j false) J A z S q w) (h0:isT (Cx.mk D j false) q.pos 1 zah=false) (h1:isT (Cx.mk D j false) q.pos 1 zaf=false) (h2:isT (Cx.mk D j false) q.pos 1 zC=false) (h3:isT (Cx.mk D j false) q.pos 1 zT=true):
  Calls Tryz.prog 21 #[pv (Cx.mk D j false) J A S q (-1) 0] w (Out (Cx.mk D j false) J A z (zy (Cx.mk D j false) q) 0 S w):=by
 have HM:=zc hm
 have N:=hm.tok
 have I:(Cx.mk D j false).ts.length≤4000:=hm.few
 clear hm
 have HV:Hid (zy (Cx.mk D j false) q=zaK (fnP (Cx.mk D j false) q)):=by show zy (Cx.mk D j false) q=_;rw[zy,h0,h1,h2,h3];rfl
 unfold pv
 go_enter Tryz.func21,Tryz.ntmps21
 go_wp2_with fail
 refine (zh (Cx.mk D j false) J A z S q (-1) 0 1 zah _ (zq (zq N _) _) I (by decide)).mono ?_
 rintro e w1 ⟨rfl,ag⟩
 rw[h0]
 obtain⟨X0,X1,m1,t1⟩:=HM.out.two ag
 have o:=zc X0
 have n:=zc X1
 have O:=zc m1
 have ac:=zc t1
 clear X0 X1 m1 t1 ag
 clear N
 obtain⟨Z,a1,U,Y,a4,V,a6,a7,a8,a9,E,H,X⟩:=o.out.box
 go_wp2_with fail
 refine (zh (Cx.mk D j false) J A z S q (-1) 0 1 zaf _ O.out.tok I (by decide)).mono ?_
 rintro e w2 ⟨rfl,L⟩
 rw[h1]
 replace o:=zc (o.out.below L)
 replace n:=zc (n.out.below L)
 have ah:=zc (ac.out.below L)
 have Q:=zc (O.out.later L)
 clear L ac O
 clear Z a1 U Y a4 V a6 a7 a8 a9 E H X
 obtain⟨Z,a1,U,Y,a4,V,a6,a7,a8,a9,E,H,X⟩:=o.out.box
 go_wp2_with fail
 refine (zh (Cx.mk D j false) J A z S q (-1) 0 1 zC _ Q.out.tok I (by decide)).mono ?_
 rintro e w3 ⟨rfl,M⟩
 rw[h2]
 replace o:=zc (o.out.below M)
 replace n:=zc (n.out.below M)
 have ad:=zc (ah.out.below M)
 have aa:=zc (Q.out.later M)
 clear M ah Q
 clear Z a1 U Y a4 V a6 a7 a8 a9 E H X
 obtain⟨Z,a1,U,Y,a4,V,a6,a7,a8,a9,E,H,X⟩:=o.out.box
 go_wp2_with fail
 refine (zh (Cx.mk D j false) J A z S q (-1) 0 1 zT _ aa.out.tok I (by decide)).mono ?_
 rintro e w4 ⟨rfl,K⟩
 rw[h3]
 replace o:=zc (o.out.below K)
 replace n:=zc (n.out.below K)
 have ae:=zc (ad.out.below K)
 have aj:=zc (aa.out.later K)
 clear K ad aa
 clear Z a1 U Y a4 V a6 a7 a8 a9 E H X
 obtain⟨Z,a1,U,Y,a4,V,a6,a7,a8,a9,E,H,X⟩:=o.out.box
 go_wp2_with fail
 refine (zgH (Cx.mk D j false) J A z S q _ aj.out).mono ?_
 rintro e w5 ⟨S5,q5,z5,n5,rfl,i5,m5,s5⟩
 replace o:=zc (o.out.stp s5)
 replace n:=zc (n.out.stp s5)
 have ai:=zc (ae.out.step s5)
 clear ae
 have ab:=zc m5
 have ak:=zc i5
 clear i5 m5 s5 aj
 clear Z a1 U Y a4 V a6 a7 a8 a9 E H X
 have ao:w.heap.size+1<w5.heap.size:=n.out.lt
 unfold pv
 go_upto_region 10 with fail
 refine zL (R:=fun W=>Bx J S5 W (w.heap.size) _∧Bx J S5 W (w.heap.size+1) _∧Bx J S5 W (w5.heap.size) _∧Mem (Cx.mk D j false) J A z S5 q5 W∧SB w.heap.size S w S5 W) ⟨(o.out.alloc _),(n.out.alloc _),(Bx.new ab.out _),(ab.out.alloc _),(ai.out.alloc _)⟩ ?_
 clear o n ai ab
 rintro w6 ⟨X0,X1,X2,m6,t6⟩
 have o:=zc X0
 have n:=zc X1
 have al:=zc X2
 have am:=zc m6
 have an:=zc t6
 clear m6 t6 X0 X1 X2
 obtain⟨b0,b1,b2,b3,b4,b5,b6,b7,b8,b9,aq,ar,bf⟩:=n.out.box
 obtain⟨c0,c1,c2,c3,c4,c5,c6,c7,c8,c9,au,ap,cf⟩:=al.out.box
 go_wp2
 refine bodyPost_ret (results_cell_row rfl _ _ (w.heap.size+1) 53 _ (0,0) _ rfl ((n.out.put ..)).heap Tryz.underlying53 rfl (by kernel_rfl)) rfl ?_
 rw[HV.out]
 exact zY rfl ak.out.fst (am.out.put n.out ..) (an.out.put (by omega) ..)
theorem znU (D:List Tk) (j:Nat) (I A z:Nat) (S:Sv) (q:PS) (w:World) (hm:Mem (Cx.mk D j false) I A z S q w) (h0:isT (Cx.mk D j false) q.pos 1 zah=false) (h1:isT (Cx.mk D j false) q.pos 1 zaf=false) (h2:isT (Cx.mk D j false) q.pos 1 zC=false) (h3:isT (Cx.mk D j false) q.pos 1 zT=false) (h4:isT (Cx.mk D j false) q.pos 1 zar=true):
  Calls Tryz.prog 21 #[pv (Cx.mk D j false) I A S q (-1) 0] w (Out (Cx.mk D j false) I A z (zy (Cx.mk D j false) q) 0 S w):=by
 have HM:=zc hm
 have aa:=hm.tok
 have J:(Cx.mk D j false).ts.length≤4000:=hm.few
 clear hm
 have HV:Hid (zy (Cx.mk D j false) q=bd (bd (bd (bd (bd (bd (.ok q) (zd (Cx.mk D j false) 1 zar)) (zd (Cx.mk D j false) 4 zn)) (pE (Cx.mk D j false) .sum 0)) (zd (Cx.mk D j false) 4 za0)) (zd (Cx.mk D j false) 4 cSemi)) (zV (Cx.mk D j false) 4 sNone)):=by show zy (Cx.mk D j false) q=_;rw[zy,h0,h1,h2,h3,h4];rfl
 unfold pv
 go_enter Tryz.func21,Tryz.ntmps21
 go_wp2_with fail
 refine (zh (Cx.mk D j false) I A z S q (-1) 0 1 zah _ (zq (zq aa _) _) J (by decide)).mono ?_
 rintro e w1 ⟨rfl,aB⟩
 rw[h0]
 obtain⟨X0,X1,m1,t1⟩:=HM.out.two aB
 have n:=zc X0
 have o:=zc X1
 have ah:=zc m1
 have aw:=zc t1
 clear X0 X1 m1 t1 aB
 clear aa
 obtain⟨a0,a1,V,Z,a4,X,a6,a7,a8,a9,E,H,Y⟩:=n.out.box
 go_wp2_with fail
 refine (zh (Cx.mk D j false) I A z S q (-1) 0 1 zaf _ ah.out.tok J (by decide)).mono ?_
 rintro e w2 ⟨rfl,Q⟩
 rw[h1]
 replace n:=zc (n.out.below Q)
 replace o:=zc (o.out.below Q)
 have aE:=zc (aw.out.below Q)
 have ai:=zc (ah.out.later Q)
 clear Q aw ah
 clear a0 a1 V Z a4 X a6 a7 a8 a9 E H Y
 obtain⟨a0,a1,V,Z,a4,X,a6,a7,a8,a9,E,H,Y⟩:=n.out.box
 go_wp2_with fail
 refine (zh (Cx.mk D j false) I A z S q (-1) 0 1 zC _ ai.out.tok J (by decide)).mono ?_
 rintro e w3 ⟨rfl,U⟩
 rw[h2]
 replace n:=zc (n.out.below U)
 replace o:=zc (o.out.below U)
 have ax:=zc (aE.out.below U)
 have ak:=zc (ai.out.later U)
 clear U aE ai
 clear a0 a1 V Z a4 X a6 a7 a8 a9 E H Y
 obtain⟨a0,a1,V,Z,a4,X,a6,a7,a8,a9,E,H,Y⟩:=n.out.box
 go_wp2_with fail
 refine (zh (Cx.mk D j false) I A z S q (-1) 0 1 zT _ ak.out.tok J (by decide)).mono ?_
 rintro e w4 ⟨rfl,L⟩
 rw[h3]
 replace n:=zc (n.out.below L)
 replace o:=zc (o.out.below L)
 have aA:=zc (ax.out.below L)
 have al:=zc (ak.out.later L)
 clear L ax ak
 clear a0 a1 V Z a4 X a6 a7 a8 a9 E H Y
 obtain⟨a0,a1,V,Z,a4,X,a6,a7,a8,a9,E,H,Y⟩:=n.out.box
 go_wp2_with fail
 refine (zh (Cx.mk D j false) I A z S q (-1) 0 1 zar _ al.out.tok J (by decide)).mono ?_
 rintro e w5 ⟨rfl,O⟩
 rw[h4]
 replace n:=zc (n.out.below O)
 replace o:=zc (o.out.below O)
 have aF:=zc (aA.out.below O)
 have aG:=zc (al.out.later O)
 clear O aA al
 clear a0 a1 V Z a4 X a6 a7 a8 a9 E H Y
 obtain⟨a0,a1,V,Z,a4,X,a6,a7,a8,a9,E,H,Y⟩:=n.out.box
 go_wp2_with fail
 refine (zaH (Cx.mk D j false) I A z (.ok q) S q (-1) 0 zar _ (zX q) aG.out).mono ?_
 rintro e w6 ⟨S6,q6,z6,rfl,i6,m6,s6⟩
 replace n:=zc (n.out.stp s6)
 replace o:=zc (o.out.stp s6)
 have aI:=zc (aF.out.step s6)
 clear aF
 have aC:=zc m6
 have aQ:=zc i6
 clear i6 m6 s6 aG
 clear a0 a1 V Z a4 X a6 a7 a8 a9 E H Y
 go_wp2_with fail
 refine (zad (Cx.mk D j false) I A z _ S6 q6 z6 0 zn _ aQ.out aC.out).mono ?_
 rintro e w7 ⟨S7,q7,z7,rfl,i7,m7,s7⟩
 replace n:=zc (n.out.stp s7)
 replace o:=zc (o.out.stp s7)
 have aq:=zc (aI.out.step s7)
 clear aI
 have aK:=zc m7
 have aN:=zc i7
 clear i7 m7 s7 aC
 go_wp2_with fail
 refine (zcN (Cx.mk D j false) I A z _ S7 q7 z7 _ aN.out aK.out).mono ?_
 rintro e w8 ⟨S8,q8,z8,rfl,i8,m8,s8⟩
 replace n:=zc (n.out.stp s8)
 replace o:=zc (o.out.stp s8)
 have aH:=zc (aq.out.step s8)
 clear aq
 have av:=zc m8
 have aS:=zc i8
 clear i8 m8 s8 aK
 go_wp2_with fail
 refine (zad (Cx.mk D j false) I A z _ S8 q8 z8 0 za0 _ aS.out av.out).mono ?_
 rintro e w9 ⟨S9,q9,z9,rfl,i9,m9,s9⟩
 replace n:=zc (n.out.stp s9)
 replace o:=zc (o.out.stp s9)
 have am:=zc (aH.out.step s9)
 clear aH
 have aj:=zc m9
 have aR:=zc i9
 clear i9 m9 s9 av
 have aU:w.heap.size+1<w9.heap.size:=o.out.lt
 unfold pv
 go_upto_region 13 with fail
 refine zL (R:=fun W=>Bx I S9 W (w.heap.size) _∧Bx I S9 W (w.heap.size+1) _∧Bx I S9 W (w9.heap.size) _∧Mem (Cx.mk D j false) I A z S9 q9 W∧SB w.heap.size S w S9 W) ⟨(n.out.alloc _),(o.out.alloc _),(Bx.new aj.out _),(aj.out.alloc _),(am.out.alloc _)⟩ ?_
 clear n o am aj
 rintro aX ⟨X0,X1,X2,az,ay⟩
 have n:=zc X0
 have o:=zc X1
 have N:=zc X2
 have ag:=zc az
 have ad:=zc ay
 clear az ay X0 X1 X2
 obtain⟨c0,c1,c2,c3,c4,c5,c6,c7,c8,c9,aT,aL,cf⟩:=N.out.box
 go_wp2_with fail
 refine (zad (Cx.mk D j false) I A z _ S9 q9 z9 0 cSemi _ aR.out ag.out).mono ?_
 rintro e aV ⟨aM,aO,aP,rfl,ap,ao,M⟩
 replace n:=zc (n.out.stp M)
 replace o:=zc (o.out.stp M)
 replace N:=zc (N.out.stp M)
 have ac:=zc (ad.out.step M)
 clear ad
 have ab:=zc ao
 have ae:=zc ap
 clear ap ao M ag
 clear c0 c1 c2 c3 c4 c5 c6 c7 c8 c9 aT aL cf
 go_wp2_with fail
 refine (zcL (Cx.mk D j false) I A z _ aM aO aP 0 4 sNone _ ae.out ab.out (zbh ae.out)).mono ?_
 rintro e bb ⟨aZ,bc,ba,rfl,aD,au,K⟩
 replace n:=zc (n.out.stp K)
 replace o:=zc (o.out.stp K)
 replace N:=zc (N.out.stp K)
 have an:=zc (ac.out.step K)
 clear ac
 have aJ:=zc au
 have ar:=zc aD
 clear aD au K ab
 obtain⟨b0,b1,b2,b3,b4,b5,b6,b7,b8,b9,aW,aY,bf⟩:=o.out.box
 unfold pv
 go_wp2
 refine bodyPost_ret (results_cell_row rfl _ _ (w.heap.size+1) 53 _ (0,0) _ rfl ((o.out.put ..)).heap Tryz.underlying53 rfl (by kernel_rfl)) rfl ?_
 rw[HV.out]
 exact zY rfl ar.out (aJ.out.put o.out ..) (an.out.put (by omega) ..)
theorem znV (D:List Tk) (j:Nat) (J A z:Nat) (S:Sv) (q:PS) (w:World) (hm:Mem (Cx.mk D j false) J A z S q w) (h0:isT (Cx.mk D j false) q.pos 1 zah=false) (h1:isT (Cx.mk D j false) q.pos 1 zaf=false) (h2:isT (Cx.mk D j false) q.pos 1 zC=false) (h3:isT (Cx.mk D j false) q.pos 1 zT=false) (h4:isT (Cx.mk D j false) q.pos 1 zar=false) (h5:isT (Cx.mk D j false) q.pos 1 za3=true):
  Calls Tryz.prog 21 #[pv (Cx.mk D j false) J A S q (-1) 0] w (Out (Cx.mk D j false) J A z (zy (Cx.mk D j false) q) 0 S w):=by
 have HM:=zc hm
 have ac:=hm.tok
 have I:(Cx.mk D j false).ts.length≤4000:=hm.few
 clear hm
 have HV:Hid (zy (Cx.mk D j false) q=bd (bd (bd (bd (.ok q) (zd (Cx.mk D j false) 1 za3)) (pE (Cx.mk D j false) .sum 0)) (zd (Cx.mk D j false) 4 cSemi)) (zV (Cx.mk D j false) 5 sNone)):=by show zy (Cx.mk D j false) q=_;rw[zy,h0,h1,h2,h3,h4,h5];rfl
 unfold pv
 go_enter Tryz.func21,Tryz.ntmps21
 go_wp2_with fail
 refine (zh (Cx.mk D j false) J A z S q (-1) 0 1 zah _ (zq (zq ac _) _) I (by decide)).mono ?_
 rintro e w1 ⟨rfl,aw⟩
 rw[h0]
 obtain⟨X0,X1,m1,t1⟩:=HM.out.two aw
 have n:=zc X0
 have o:=zc X1
 have ad:=zc m1
 have ao:=zc t1
 clear X0 X1 m1 t1 aw
 clear ac
 obtain⟨X,Y,L,U,a4,M,Z,a7,a8,a9,E,H,O⟩:=n.out.box
 go_wp2_with fail
 refine (zh (Cx.mk D j false) J A z S q (-1) 0 1 zaf _ ad.out.tok I (by decide)).mono ?_
 rintro e w2 ⟨rfl,Q⟩
 rw[h1]
 replace n:=zc (n.out.below Q)
 replace o:=zc (o.out.below Q)
 have az:=zc (ao.out.below Q)
 have ae:=zc (ad.out.later Q)
 clear Q ao ad
 clear X Y L U a4 M Z a7 a8 a9 E H O
 obtain⟨X,Y,L,U,a4,M,Z,a7,a8,a9,E,H,O⟩:=n.out.box
 go_wp2_with fail
 refine (zh (Cx.mk D j false) J A z S q (-1) 0 1 zC _ ae.out.tok I (by decide)).mono ?_
 rintro e w3 ⟨rfl,aa⟩
 rw[h2]
 replace n:=zc (n.out.below aa)
 replace o:=zc (o.out.below aa)
 have ap:=zc (az.out.below aa)
 have ag:=zc (ae.out.later aa)
 clear aa az ae
 clear X Y L U a4 M Z a7 a8 a9 E H O
 obtain⟨X,Y,L,U,a4,M,Z,a7,a8,a9,E,H,O⟩:=n.out.box
 go_wp2_with fail
 refine (zh (Cx.mk D j false) J A z S q (-1) 0 1 zT _ ag.out.tok I (by decide)).mono ?_
 rintro e w4 ⟨rfl,K⟩
 rw[h3]
 replace n:=zc (n.out.below K)
 replace o:=zc (o.out.below K)
 have av:=zc (ap.out.below K)
 have ai:=zc (ag.out.later K)
 clear K ap ag
 clear X Y L U a4 M Z a7 a8 a9 E H O
 obtain⟨X,Y,L,U,a4,M,Z,a7,a8,a9,E,H,O⟩:=n.out.box
 go_wp2_with fail
 refine (zh (Cx.mk D j false) J A z S q (-1) 0 1 zar _ ai.out.tok I (by decide)).mono ?_
 rintro e w5 ⟨rfl,N⟩
 rw[h4]
 replace n:=zc (n.out.below N)
 replace o:=zc (o.out.below N)
 have aB:=zc (av.out.below N)
 have ah:=zc (ai.out.later N)
 clear N av ai
 clear X Y L U a4 M Z a7 a8 a9 E H O
 obtain⟨X,Y,L,U,a4,M,Z,a7,a8,a9,E,H,O⟩:=n.out.box
 go_wp2_with fail
 refine (zh (Cx.mk D j false) J A z S q (-1) 0 1 za3 _ ah.out.tok I (by decide)).mono ?_
 rintro e w6 ⟨rfl,V⟩
 rw[h5]
 replace n:=zc (n.out.below V)
 replace o:=zc (o.out.below V)
 have aD:=zc (aB.out.below V)
 have ay:=zc (ah.out.later V)
 clear V aB ah
 clear X Y L U a4 M Z a7 a8 a9 E H O
 obtain⟨X,Y,L,U,a4,M,Z,a7,a8,a9,E,H,O⟩:=n.out.box
 go_wp2_with fail
 refine (zaH (Cx.mk D j false) J A z (.ok q) S q (-1) 0 za3 _ (zX q) ay.out).mono ?_
 rintro e w7 ⟨S7,q7,z7,rfl,i7,m7,s7⟩
 replace n:=zc (n.out.stp s7)
 replace o:=zc (o.out.stp s7)
 have ak:=zc (aD.out.step s7)
 clear aD
 have aE:=zc m7
 have aF:=zc i7
 clear i7 m7 s7 ay
 clear X Y L U a4 M Z a7 a8 a9 E H O
 go_wp2_with fail
 refine (zcN (Cx.mk D j false) J A z _ S7 q7 z7 _ aF.out aE.out).mono ?_
 rintro e w8 ⟨S8,q8,z8,rfl,i8,m8,s8⟩
 replace n:=zc (n.out.stp s8)
 replace o:=zc (o.out.stp s8)
 have aC:=zc (ak.out.step s8)
 clear ak
 have al:=zc m8
 have aG:=zc i8
 clear i8 m8 s8 aE
 go_wp2_with fail
 refine (zad (Cx.mk D j false) J A z _ S8 q8 z8 0 cSemi _ aG.out al.out).mono ?_
 rintro e w9 ⟨S9,q9,z9,rfl,i9,m9,s9⟩
 replace n:=zc (n.out.stp s9)
 replace o:=zc (o.out.stp s9)
 have aj:=zc (aC.out.step s9)
 clear aC
 have an:=zc m9
 have aq:=zc i9
 clear i9 m9 s9 al
 go_wp2_with fail
 refine (zcL (Cx.mk D j false) J A z _ S9 q9 z9 0 5 sNone _ aq.out an.out (zbh aq.out)).mono ?_
 rintro e aI ⟨aL,aM,aK,rfl,am,au,ab⟩
 replace n:=zc (n.out.stp ab)
 replace o:=zc (o.out.stp ab)
 have ar:=zc (aj.out.step ab)
 clear aj
 have aA:=zc au
 have ax:=zc am
 clear am au ab an
 obtain⟨b0,b1,b2,b3,b4,b5,b6,b7,b8,b9,aH,aJ,bf⟩:=o.out.box
 unfold pv
 go_wp2
 refine bodyPost_ret (results_cell_row rfl _ _ (w.heap.size+1) 53 _ (0,0) _ rfl ((o.out.put ..)).heap Tryz.underlying53 rfl (by kernel_rfl)) rfl ?_
 rw[HV.out]
 exact zY rfl ax.out (aA.out.put o.out ..) (ar.out.put (by omega) ..)
theorem znW (D:List Tk) (j:Nat) (L E A:Nat) (S:Sv) (q:PS) (w:World) (hm:Mem (Cx.mk D j false) L E A S q w) (h0:isT (Cx.mk D j false) q.pos 1 zah=false) (h1:isT (Cx.mk D j false) q.pos 1 zaf=false) (h2:isT (Cx.mk D j false) q.pos 1 zC=false) (h3:isT (Cx.mk D j false) q.pos 1 zT=false) (h4:isT (Cx.mk D j false) q.pos 1 zar=false) (h5:isT (Cx.mk D j false) q.pos 1 za3=false):
  Calls Tryz.prog 21 #[pv (Cx.mk D j false) L E S q (-1) 0] w (Out (Cx.mk D j false) L E A (zy (Cx.mk D j false) q) 0 S w):=by
 have HM:=zc hm
 have ac:=hm.tok
 have J:(Cx.mk D j false).ts.length≤4000:=hm.few
 clear hm
 have HV:Hid (zy (Cx.mk D j false) q=bd (bd (.ok q) (zj (Cx.mk D j false) false)) fun a=>bd (bd (bd (bd (.ok a.1) (zd (Cx.mk D j false) 4 cEq)) (pE (Cx.mk D j false) .sum 0)) (zd (Cx.mk D j false) 4 cSemi)) (zV (Cx.mk D j false) 3 a.2)):=by show zy (Cx.mk D j false) q=_;rw[zy,h0,h1,h2,h3,h4,h5];rfl
 unfold pv
 go_enter Tryz.func21,Tryz.ntmps21
 go_wp2_with fail
 refine (zh (Cx.mk D j false) L E A S q (-1) 0 1 zah _ (zq (zq ac _) _) J (by decide)).mono ?_
 rintro e w1 ⟨rfl,aG⟩
 rw[h0]
 obtain⟨X0,X1,m1,t1⟩:=HM.out.two aG
 have o:=zc X0
 have z:=zc X1
 have aj:=zc m1
 have aC:=zc t1
 clear X0 X1 m1 t1 aG
 clear ac
 obtain⟨a0,a1,Q,a3,a4,U,a6,a7,a8,a9,H,I,Y⟩:=o.out.box
 go_wp2_with fail
 refine (zh (Cx.mk D j false) L E A S q (-1) 0 1 zaf _ aj.out.tok J (by decide)).mono ?_
 rintro e w2 ⟨rfl,Z⟩
 rw[h1]
 replace o:=zc (o.out.below Z)
 replace z:=zc (z.out.below Z)
 have aK:=zc (aC.out.below Z)
 have ak:=zc (aj.out.later Z)
 clear Z aC aj
 clear a0 a1 Q a3 a4 U a6 a7 a8 a9 H I Y
 obtain⟨a0,a1,Q,a3,a4,U,a6,a7,a8,a9,H,I,Y⟩:=o.out.box
 go_wp2_with fail
 refine (zh (Cx.mk D j false) L E A S q (-1) 0 1 zC _ ak.out.tok J (by decide)).mono ?_
 rintro e w3 ⟨rfl,ab⟩
 rw[h2]
 replace o:=zc (o.out.below ab)
 replace z:=zc (z.out.below ab)
 have aD:=zc (aK.out.below ab)
 have al:=zc (ak.out.later ab)
 clear ab aK ak
 clear a0 a1 Q a3 a4 U a6 a7 a8 a9 H I Y
 obtain⟨a0,a1,Q,a3,a4,U,a6,a7,a8,a9,H,I,Y⟩:=o.out.box
 go_wp2_with fail
 refine (zh (Cx.mk D j false) L E A S q (-1) 0 1 zT _ al.out.tok J (by decide)).mono ?_
 rintro e w4 ⟨rfl,N⟩
 rw[h3]
 replace o:=zc (o.out.below N)
 replace z:=zc (z.out.below N)
 have aF:=zc (aD.out.below N)
 have ao:=zc (al.out.later N)
 clear N aD al
 clear a0 a1 Q a3 a4 U a6 a7 a8 a9 H I Y
 obtain⟨a0,a1,Q,a3,a4,U,a6,a7,a8,a9,H,I,Y⟩:=o.out.box
 go_wp2_with fail
 refine (zh (Cx.mk D j false) L E A S q (-1) 0 1 zar _ ao.out.tok J (by decide)).mono ?_
 rintro e w5 ⟨rfl,X⟩
 rw[h4]
 replace o:=zc (o.out.below X)
 replace z:=zc (z.out.below X)
 have aL:=zc (aF.out.below X)
 have am:=zc (ao.out.later X)
 clear X aF ao
 clear a0 a1 Q a3 a4 U a6 a7 a8 a9 H I Y
 obtain⟨a0,a1,Q,a3,a4,U,a6,a7,a8,a9,H,I,Y⟩:=o.out.box
 go_wp2_with fail
 refine (zh (Cx.mk D j false) L E A S q (-1) 0 1 za3 _ am.out.tok J (by decide)).mono ?_
 rintro e w6 ⟨rfl,aa⟩
 rw[h5]
 replace o:=zc (o.out.below aa)
 replace z:=zc (z.out.below aa)
 have aN:=zc (aL.out.below aa)
 have aI:=zc (am.out.later aa)
 clear aa aL am
 clear a0 a1 Q a3 a4 U a6 a7 a8 a9 H I Y
 obtain⟨a0,a1,Q,a3,a4,U,a6,a7,a8,a9,H,I,Y⟩:=o.out.box
 go_wp2_with fail
 refine (zbe (Cx.mk D j false) L E A (.ok q) S q (-1) 0 false _ (zX q) aI.out).mono ?_
 rintro e w7 ⟨S7,q7,z7,n7,rfl,i7,m7,s7⟩
 replace o:=zc (o.out.stp s7)
 replace z:=zc (z.out.stp s7)
 have aw:=zc (aN.out.step s7)
 clear aN
 have an:=zc m7
 have ar:=zc i7
 clear i7 m7 s7 aI
 clear a0 a1 Q a3 a4 U a6 a7 a8 a9 H I Y
 have aY:w.heap.size+1<w7.heap.size:=z.out.lt
 unfold pv
 go_upto_region 19 with fail
 refine zL (R:=fun W=>Bx L S7 W (w.heap.size) _∧Bx L S7 W (w.heap.size+1) _∧Bx L S7 W (w7.heap.size) _∧Mem (Cx.mk D j false) L E A S7 q7 W∧SB w.heap.size S w S7 W) ⟨(o.out.alloc _),(z.out.alloc _),(Bx.new an.out _),(an.out.alloc _),(aw.out.alloc _)⟩ ?_
 clear o z aw an
 rintro w8 ⟨X0,X1,X2,m8,t8⟩
 have o:=zc X0
 have z:=zc X1
 have K:=zc X2
 have az:=zc m8
 have aM:=zc t8
 clear m8 t8 X0 X1 X2
 obtain⟨c0,c1,c2,c3,c4,c5,c6,c7,c8,c9,aV,aP,cf⟩:=K.out.box
 go_wp2_with fail
 refine (zad (Cx.mk D j false) L E A _ S7 q7 z7 0 cEq _ ar.out.fst az.out).mono ?_
 rintro e w9 ⟨S9,q9,z9,rfl,i9,m9,s9⟩
 replace o:=zc (o.out.stp s9)
 replace z:=zc (z.out.stp s9)
 replace K:=zc (K.out.stp s9)
 have ap:=zc (aM.out.step s9)
 clear aM
 have aB:=zc m9
 have aT:=zc i9
 clear i9 m9 s9 az
 clear c0 c1 c2 c3 c4 c5 c6 c7 c8 c9 aV aP cf
 go_wp2_with fail
 refine (zcN (Cx.mk D j false) L E A _ S9 q9 z9 _ aT.out aB.out).mono ?_
 rintro e bb ⟨aW,aX,aU,rfl,aA,aE,V⟩
 replace o:=zc (o.out.stp V)
 replace z:=zc (z.out.stp V)
 replace K:=zc (K.out.stp V)
 have ag:=zc (ap.out.step V)
 clear ap
 have ai:=zc aE
 have aH:=zc aA
 clear aA aE V aB
 go_wp2_with fail
 refine (zad (Cx.mk D j false) L E A _ aW aX aU 0 cSemi _ aH.out ai.out).mono ?_
 rintro e aZ ⟨aQ,aR,aS,rfl,av,au,O⟩
 replace o:=zc (o.out.stp O)
 replace z:=zc (z.out.stp O)
 replace K:=zc (K.out.stp O)
 have ae:=zc (ag.out.step O)
 clear ag
 have ad:=zc au
 have ah:=zc av
 clear av au O ai
 go_wp2_with fail
 refine (zcL (Cx.mk D j false) L E A _ aQ aR aS 0 3 n7 _ ah.out ad.out (zbh ah.out)).mono ?_
 rintro e bi ⟨be,bj,bg,rfl,aJ,ay,M⟩
 replace o:=zc (o.out.stp M)
 replace z:=zc (z.out.stp M)
 replace K:=zc (K.out.stp M)
 have aq:=zc (ae.out.step M)
 clear ae
 have aO:=zc ay
 have ax:=zc aJ
 clear aJ ay M ad
 obtain⟨b0,b1,b2,b3,b4,b5,b6,b7,b8,b9,ba,bc,bf⟩:=z.out.box
 unfold pv
 go_wp2
 refine bodyPost_ret (results_cell_row rfl _ _ (w.heap.size+1) 53 _ (0,0) _ rfl ((z.out.put ..)).heap Tryz.underlying53 rfl (by kernel_rfl)) rfl ?_
 rw[HV.out,←ar.out.bind (fun q n=>bd (bd (bd (bd (.ok q) (zd (Cx.mk D j false) 4 cEq)) (pE (Cx.mk D j false) .sum 0)) (zd (Cx.mk D j false) 4 cSemi)) (zV (Cx.mk D j false) 3 n)),←ziP]
 exact zY rfl ax.out (aO.out.put z.out ..) (aq.out.put (by omega) ..)
theorem znX (z:List Tk) (j:Nat) (A o n:Nat) (S:Sv) (q:PS) (w:World) (E:Mem (Cx.mk z j false) A o n S q w):
  Calls Tryz.prog 21 #[pv (Cx.mk z j false) A o S q (-1) 0] w (Out (Cx.mk z j false) A o n (zy (Cx.mk z j false) q) 0 S w):=by
 cases D:isT (Cx.mk z j false) q.pos 1 zah with
 |true=>exact znQ z j A o n S q w E D
 |false=>
  cases H:isT (Cx.mk z j false) q.pos 1 zaf with
  |true=>exact znR z j A o n S q w E D H
  |false=>
   cases I:isT (Cx.mk z j false) q.pos 1 zC with
   |true=>exact znS z j A o n S q w E D H I
   |false=>
    cases J:isT (Cx.mk z j false) q.pos 1 zT with
    |true=>exact znT z j A o n S q w E D H I J
    |false=>
     cases K:isT (Cx.mk z j false) q.pos 1 zar with
     |true=>exact znU z j A o n S q w E D H I J K
     |false=>
      cases L:isT (Cx.mk z j false) q.pos 1 za3 with
      |true=>exact znV z j A o n S q w E D H I J K L
      |false=>
       exact znW z j A o n S q w E D H I J K L
theorem znY (C:Cx) (z n j:Nat) (S:Sv) (q:PS) (w:World) (D:Mem C z n j S q w):
  Calls Tryz.prog 21 #[pv C z n S q (-1) 0] w (Out C z n j (zy C q) 0 S w):=by
 obtain⟨E,o,A⟩:=C
 cases A with
 |true=>exact znP E o z n j S q w D
 |false=>exact znX E o z n j S q w D
theorem ziQ (s:ByteArray) (j:Bool) (w:World) (hs:s.size≤4294967296):
  Calls Tryz.prog 6 #[.string s,.bool j] w fun e w'=>ParseOut s j w e w'∧Below w.heap.size w w':=by
 obtain⟨i0,hi,ar,an,ap⟩:=info_parts Tryz.infoExp
 go_enter Tryz.func6,Tryz.ntmps6
 go_wp2_with fail
 refine (zlB s j _ hs).mono ?_
 rintro e Q ⟨⟨r1,L,M⟩,b1⟩
 have ab:Hid (Below w.heap.size w Q):=((Below.refl _ _).alloc (Nat.le_refl _) _).trans (b1.mono (by rw[zk];omega))
 have hG:Q.heap[w.heap.size]? =some (.cells #[.slice none 0 0,.slice none 0 0,.slice none 0 0,.slice none 0 0,.slice none 0 0] 28 (0,0)):=(b1.block _ (by rw[zk];omega)).trans (heap_alloc_new w _)
 rw[zk] at b1
 cases r1 with
 |error p=>
  obtain⟨g,N,rfl,q⟩:=M
  have HY:Hid (zb7 s j (.error p)):=⟨_,L,rfl⟩
  have HG:=zc hG
  obtain⟨c0,c1,c2,c3,c4,cf⟩:=zl hG
  have dz:decide ((0:Int)≤(p:Int))=true:=decide_eq_true (by omega)
  clear q L b1 hG
  go_wp2
  refine bodyPost_ret (zaA rfl _ _ w.heap.size 28 _ (0,0) _ rfl (zcZ HG.out) Tryz.underlying28 rfl (by kernel_rfl)) rfl ?_
  exact⟨⟨_,HY.out,rfl⟩,zd1 ab.out (Nat.le_refl _) _ _ _ _ _⟩
 |ok z=>
  obtain⟨g,n,N,rfl,q⟩:=M
  obtain rfl:n=z.length:=q.2
  rw[zk] at q
  have ai:w.heap.size+1≤Q.heap.size:=by have:=b1.size;rw[zk] at this;exact this
  have ah:=zhN L
  have HR:=zc L
  have ad:Mem ⟨z,s.size,j⟩ g N (w.heap.size+1) S0 zbC Q:=zhO q ah ai
  have al:=zc ad
  have HG:=zc hG
  clear q L ad hG
  go_wp2
  go_loopg [] (z.length+1) (fun k wr=>∃(x':PR) (D:Sv) (U:PS) (z':Int),Is x' U z'∧bd x' (zas ⟨z,s.size,j⟩)=zas ⟨z,s.size,j⟩ zbC∧(z'<0→z.length-U.pos<k)∧Mem ⟨z,s.size,j⟩ g N (w.heap.size+1) D U wr∧Below w.heap.size w wr∧Bx g D wr Q.heap.size #[.slice (some ⟨g,0,none⟩) z.length N,.int .i64 U.pos,.int .i64 s.size,.bool j,.slice D.rq.a U.rq.length D.rq.cap,.slice D.im.a U.im.length D.im.cap,.slice D.ep.a U.ep.length D.ep.cap,.slice D.st.a U.st.length D.st.cap,.slice D.ex.a U.ex.length D.ex.cap,.slice D.la.a U.la.length D.la.cap,.int .i64 z',.int .i64 0]∧wr.heap[w.heap.size]? =some (.cells #[.slice none 0 0,.slice none 0 0,.slice none 0 0,.slice none 0 0,.slice none 0 0] 28 (0,0)))
  case atStart=>exact⟨.ok zbC,S0,zbC,-1,zX _,rfl,fun _=>by show z.length-0<z.length+1;omega,al.out.alloc _,ab.out.alloc ab.out.size _,Bx.new al.out _,(Below.heap_alloc _ _ _ (by omega)).trans HG.out⟩
  case round=>
   obtain⟨x2,S2,I,z2,i2,e2,l2,m2,t2,X0,G2⟩:=hrel
   have ag:=zc i2
   have ac:=zc e2
   have au:=zc l2
   have o:=zc m2
   have Y:=zc t2
   have J:=zc X0
   have E:=zc G2
   have aA:I.pos≤z.length:=m2.inv.pos
   obtain⟨a0,a1,a2,a3,a4,a5,a6,a7,a8,a9,X,aa,af⟩:=X0.box
   clear i2 e2 l2 m2 t2 X0 G2
   by_cases hz:z2<0
   ·have dz:decide (z2<0)=true:=decide_eq_true hz
    obtain⟨rfl,rfl⟩:=zaC ag.out hz
    by_cases hp:I.pos<z.length
    ·have az:=au.out hz
     go_wp2_with fail
     refine (znY ⟨z,s.size,j⟩ g N (w.heap.size+1) S2 I _ o.out).mono ?_
     rintro e w3 ⟨S3,q3,z3,rfl,i3,m3,s3⟩
     have av:=zc m3
     have ae:=zc i3
     have V:Hid (Below (w.heap.size+1) wr w3):=s3.under o.out.base o.out.own
     have K:Hid (Bx g S3 w3 Q.heap.size _):=J.out.stp s3
     have aq:Hid (Below w.heap.size w w3):=Y.out.trans (V.out.mono (by omega))
     have Z:Hid (w3.heap[w.heap.size]? =some (.cells #[.slice none 0 0,.slice none 0 0,.slice none 0 0,.slice none 0 0,.slice none 0 0] 28 (0,0))):=(V.out.block _ (by omega)).trans E.out
     have HE:Hid (bd (zy ⟨z,s.size,j⟩ I) (zas ⟨z,s.size,j⟩)=zas ⟨z,s.size,j⟩ zbC):=by
      show _=_
      rw[←ac.out,zz,zfu,if_pos hp]
     have HP:Hid (z3<0→I.pos<q3.pos):=fun h=>zft (zaC ae.out h).1
     clear i3 m3 s3 a0 a1 a2 a3 a4 a5 a6 a7 a8 a9 X aa af
     obtain⟨a0,a1,a2,a3,a4,a5,a6,a7,a8,a9,X,aa,af⟩:=K.out.box
     unfold pv
     go_wp2
     go_roundg (gk-1)
     case rel=>exact⟨_,S3,q3,z3,ae.out,HE.out,fun h=>by have:=HP.out h;omega,av.out.put K.out _ _ _ _ _ _ _ _ _ _ _ _,zbD aq.out (by omega) _ _ _ _ _ _ _ _ _ _ _ _,K.out.put _ _ _ _ _ _ _ _ _ _ _ _,(zeQ (by omega) ..).trans Z.out⟩
     case measure=>omega
    ·have HD:Hid (zas ⟨z,s.size,j⟩ zbC= .ok I):=by
      show _=_
      rw[←ac.out,zz,zfu,if_neg hp]
     have HY:Hid (zb7 s j (.ok I)):=⟨_,HR.out,HD.out.symm⟩
     have ak:Q.heap.size<wr.heap.size:=J.out.lt
     have ay:=o.out.inv.ep
     have A:=o.out.own.ep
     have V:=o.out.base
     rcases o.out.own.la.nil_or with ⟨ha,hc,hn⟩|⟨gl,ha⟩
     ·have HN:Hid (I.la=[]):=List.eq_nil_of_length_eq_zero hn
      rw[ha,hc,hn] at a9
      obtain⟨c0,c1,c2,c3,c4,cf⟩:=zl E.out
      clear ha hc hn
      go_wp2_with (at_builtin;refine zlz _ rfl _ _ 24 rfl 102 i0 Tryz.underlying24 hi (w.heap.size+1) 4 I.ep.length S2.ep _ (by rfl) A (by rfl) ?_)
      clear A
      go_wp2
      refine bodyPost_ret (zaA rfl _ _ w.heap.size 28 _ (0,0) _ rfl (zcZ ((zi (by omega)).trans E.out)) Tryz.underlying28 rfl (by kernel_rfl)) rfl ?_
      refine⟨⟨_,HY.out,S2,by simp[zfv,HN.out],o.out.whole0 HN.out (Nat.lt_succ_self _) J.out.free fun k O h2=>?_⟩,zd1 (Y.out.setCell (by show _≤Q.heap.size;omega) _) (Nat.le_refl _) _ _ _ _ _⟩
      rw[zi O,zi O,zi O,zi O,zi O,zi h2]
     ·have am:OwnR wr (w.heap.size+1) 102 4 ⟨some ⟨gl,0,none⟩,S2.la.cap⟩ I.la.length (I.la.flatMap epL):=by have:=o.out.own.la;unfold OwnR at this ⊢;rw[ha] at this;exact this
      rw[ha] at a9
      go_wp2_with (at_builtin;refine zly _ rfl _ _ 24 rfl (w.heap.size+1) 102 i0 _ 4 56 Tryz.underlying24 hi ar an ap rfl (by decide) (by decide) S2.ep I.ep.length _ (by rfl) A gl I.la.length S2.la.cap (w.heap.size+1) _ (by rfl) am (zgu _) (by omega) V ?_)
      intro r' w3 hr hg aj
      have aw:=zc hr
      have H:=zc hg
      have ax:=zc aj
      have ao:=fun b hb=>zd6 (W:=wr) o.out.own (Nat.le_refl _) (r:=S2.ep.blk) (fun k e=>.inr (.inr (.inl e))) b hb
      have K:Hid (w3.heap[Q.heap.size]? =_):=(hg.block _ ak (fun e=>J.out.free (.inr (.inr (.inl e.symm))))).trans J.out.heap
      have Z:Hid (w3.heap[w.heap.size]? =_):=(hg.block _ (by omega) (fun e=>by have:=(A.typed e.symm).1;omega)).trans E.out
      clear a0 a1 a2 a3 a4 a5 a6 a7 a8 a9 X aa af hr hg aj ao A am
      obtain⟨a0,a1,a2,a3,a4,a5,a6,a7,a8,a9,X,aa,af⟩:=zaj K.out
      obtain⟨c0,c1,c2,c3,c4,cf⟩:=zl Z.out
      go_wp2
      refine bodyPost_ret (zaA rfl _ _ w.heap.size 28 _ (0,0) _ rfl (zcZ ((zi (by omega)).trans Z.out)) Tryz.underlying28 rfl (by kernel_rfl)) rfl ?_
      refine⟨⟨_,HY.out,{S2 with ep:=r'},by simp[zfv],o.out.whole H.out aw.out ax.out (Nat.lt_succ_self _) ak J.out.free fun k O h2=>?_⟩,zd1 ((Y.out.trans (Below.mono (B:=w.heap.size+1) ⟨H.out.os,H.out.tape,H.out.output,H.out.size,fun k hk=>H.out.block k (by omega) fun e=>by have:=(o.out.own.ep.typed e.symm).1;omega⟩ (by omega))).setCell (by show _≤Q.heap.size;omega) _) (Nat.le_refl _) _ _ _ _ _⟩
      rw[zi O,zi O,zi O,zi O,zi O,zi h2]
   ·have dz:decide (z2<0)=false:=decide_eq_false hz
    obtain⟨e0,rfl,rfl⟩:=zdc ag.out hz
    have aB:decide ((0:Int)≤(e0:Int))=true:=decide_eq_true (by omega)
    have HY:Hid (zb7 s j (.error e0)):=⟨_,HR.out,(show (.error e0:PR)=zas ⟨z,s.size,j⟩ zbC from ac.out)⟩
    obtain⟨c0,c1,c2,c3,c4,cf⟩:=zl E.out
    go_wp2
    go_region
    all_goals
     go_wp2
     refine bodyPost_ret (zaA rfl _ _ w.heap.size 28 _ (0,0) _ rfl (zcZ E.out) Tryz.underlying28 rfl (by kernel_rfl)) rfl ?_
     exact⟨⟨_,HY.out,rfl⟩,(zd1 Y.out (Nat.le_refl _) ..).drew⟩
end Go.Proofs.YticdggnnpjachaaGreat
