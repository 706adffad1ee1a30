/-
  What spec's l4Item answers outside of a script: the walks.
  What spec.Parse answers: the walk.
-/
import Derived.Test.YticdggnnpjachaaGreatCbSpecParseMToSpecParseP
namespace Go.Proofs.YticdggnnpjachaaGreat
set_option maxRecDepth 100000
set_option maxHeartbeats 6400000
open Go.RowKit Go.PlainAid
theorem znQ (z:List Tk) (j:Nat) (I o n:Nat) (S:Sv) (q:PS) (w:World) (M:Mem (Cx.mk z j false) I o n S q w) (Q:isT (Cx.mk z j false) q.pos 1 zah=true):
  Calls Tryz.prog 21 #[pv (Cx.mk z j false) I o S q (-1) 0] w (Out (Cx.mk z j false) I o n (zy (Cx.mk z j false) q) 0 S w):=by
 have HM:=zc M
 have D:=M.tok
 have J:(Cx.mk z j false).ts.length≤4000:=M.few
 clear M
 have HV:Hid (zy (Cx.mk z j false) q=zaQ (Cx.mk z j false) q):=by show zy (Cx.mk z j false) q=_;rw[zy,Q];rfl
 unfold pv
 go_enter Tryz.func21,Tryz.ntmps21
 go_wp2_with fail
 refine (zh (Cx.mk z j false) I o n S q (-1) 0 1 zah _ (zq (zq D _) _) J (by decide)).mono ?_
 rintro e w1 ⟨rfl,L⟩
 rw[Q]
 obtain⟨X0,X1,m1,t1⟩:=HM.out.two L
 have E:=zc X0
 have A:=zc X1
 have H:=zc m1
 have K:=zc t1
 clear X0 X1 m1 t1 L
 clear D
 obtain⟨a0,a1,a2,a3,a4,a5,a6,a7,a8,a9,V,Y,af⟩:=E.out.box
 go_wp2_with fail
 refine (znH (Cx.mk z j false) I o n S q _ H.out Q).mono ?_
 rintro e w2 ⟨S2,q2,z2,rfl,Z,m2,N⟩
 replace E:=zc (E.out.stp N)
 replace A:=zc (A.out.stp N)
 have U:=zc (K.out.step N)
 clear K
 have O:=zc m2
 have X:=zc Z
 clear Z m2 N H
 clear a0 a1 a2 a3 a4 a5 a6 a7 a8 a9 V Y af
 obtain⟨b0,b1,b2,b3,b4,b5,b6,b7,b8,b9,ab,aa,bf⟩:=A.out.box
 unfold pv
 go_wp2
 refine bodyPost_ret (results_cell_row rfl _ _ (w.heap.size+1) 53 _ (0,0) _ rfl ((A.out.put ..)).heap Tryz.underlying53 rfl (by kernel_rfl)) rfl ?_
 rw[HV.out]
 exact zY rfl X.out (O.out.put A.out ..) (U.out.put (by omega) ..)
theorem znR (D:List Tk) (j:Nat) (M z n:Nat) (S:Sv) (q:PS) (w:World) (V:Mem (Cx.mk D j false) M z n S q w) (h0:isT (Cx.mk D j false) q.pos 1 zah=false) (h1:isT (Cx.mk D j false) q.pos 1 zaf=true):
  Calls Tryz.prog 21 #[pv (Cx.mk D j false) M z S q (-1) 0] w (Out (Cx.mk D j false) M z n (zy (Cx.mk D j false) q) 0 S w):=by
 have HM:=zc V
 have H:=V.tok
 have I:(Cx.mk D j false).ts.length≤4000:=V.few
 clear V
 have HV:Hid (zy (Cx.mk D j false) q=zag (Cx.mk D j false) q):=by show zy (Cx.mk D j false) q=_;rw[zy,h0,h1];rfl
 unfold pv
 go_enter Tryz.func21,Tryz.ntmps21
 go_wp2_with fail
 refine (zh (Cx.mk D j false) M z n S q (-1) 0 1 zah _ (zq (zq H _) _) I (by decide)).mono ?_
 rintro e w1 ⟨rfl,Q⟩
 rw[h0]
 obtain⟨X0,X1,m1,t1⟩:=HM.out.two Q
 have A:=zc X0
 have o:=zc X1
 have J:=zc m1
 have O:=zc t1
 clear X0 X1 m1 t1 Q
 clear H
 obtain⟨a0,a1,a2,a3,a4,a5,a6,a7,Y,a9,K,L,af⟩:=A.out.box
 go_wp2_with fail
 refine (zh (Cx.mk D j false) M z n S q (-1) 0 1 zaf _ J.out.tok I (by decide)).mono ?_
 rintro e w2 ⟨rfl,E⟩
 rw[h1]
 replace A:=zc (A.out.below E)
 replace o:=zc (o.out.below E)
 have U:=zc (O.out.below E)
 have N:=zc (J.out.later E)
 clear E O J
 clear a0 a1 a2 a3 a4 a5 a6 a7 Y a9 K L af
 obtain⟨a0,a1,a2,a3,a4,a5,a6,a7,Y,a9,K,L,af⟩:=A.out.box
 go_wp2_with fail
 refine (znI (Cx.mk D j false) M z n S q _ N.out h1).mono ?_
 rintro e w3 ⟨S3,q3,z3,rfl,i3,m3,X⟩
 replace A:=zc (A.out.stp X)
 replace o:=zc (o.out.stp X)
 have Z:=zc (U.out.step X)
 clear U
 have aa:=zc m3
 have ab:=zc i3
 clear i3 m3 X N
 clear a0 a1 a2 a3 a4 a5 a6 a7 Y a9 K L af
 obtain⟨b0,b1,b2,b3,b4,b5,b6,b7,b8,b9,ad,ac,bf⟩:=o.out.box
 unfold pv
 go_wp2
 refine bodyPost_ret (results_cell_row rfl _ _ (w.heap.size+1) 53 _ (0,0) _ rfl ((o.out.put ..)).heap Tryz.underlying53 rfl (by kernel_rfl)) rfl ?_
 rw[HV.out]
 exact zY rfl ab.out (aa.out.put o.out ..) (Z.out.put (by omega) ..)
theorem znS (D:List Tk) (j:Nat) (E A z:Nat) (S:Sv) (q:PS) (w:World) (hm:Mem (Cx.mk D j false) E A z S q w) (h0:isT (Cx.mk D j false) q.pos 1 zah=false) (h1:isT (Cx.mk D j false) q.pos 1 zaf=false) (h2:isT (Cx.mk D j false) q.pos 1 zC=true):
  Calls Tryz.prog 21 #[pv (Cx.mk D j false) E A S q (-1) 0] w (Out (Cx.mk D j false) E A z (zy (Cx.mk D j false) q) 0 S w):=by
 have HM:=zc hm
 have M:=hm.tok
 have J:(Cx.mk D j false).ts.length≤4000:=hm.few
 clear hm
 have HV:Hid (zy (Cx.mk D j false) q=zaK (zcj (Cx.mk D j false) q)):=by show zy (Cx.mk D j false) q=_;rw[zy,h0,h1,h2];rfl
 unfold pv
 go_enter Tryz.func21,Tryz.ntmps21
 go_wp2_with fail
 refine (zh (Cx.mk D j false) E A z S q (-1) 0 1 zah _ (zq (zq M _) _) J (by decide)).mono ?_
 rintro e w1 ⟨rfl,ad⟩
 rw[h0]
 obtain⟨Y,X1,m1,t1⟩:=HM.out.two ad
 have o:=zc Y
 have n:=zc X1
 have Q:=zc m1
 have Z:=zc t1
 clear Y X1 m1 t1 ad
 clear M
 obtain⟨a0,a1,X,U,a4,a5,a6,a7,a8,a9,L,I,af⟩:=o.out.box
 go_wp2_with fail
 refine (zh (Cx.mk D j false) E A z S q (-1) 0 1 zaf _ Q.out.tok J (by decide)).mono ?_
 rintro e w2 ⟨rfl,H⟩
 rw[h1]
 replace o:=zc (o.out.below H)
 replace n:=zc (n.out.below H)
 have aa:=zc (Z.out.below H)
 have N:=zc (Q.out.later H)
 clear H Z Q
 clear a0 a1 X U a4 a5 a6 a7 a8 a9 L I af
 obtain⟨a0,a1,X,U,a4,a5,a6,a7,a8,a9,L,I,af⟩:=o.out.box
 go_wp2_with fail
 refine (zh (Cx.mk D j false) E A z S q (-1) 0 1 zC _ N.out.tok J (by decide)).mono ?_
 rintro e w3 ⟨rfl,K⟩
 rw[h2]
 replace o:=zc (o.out.below K)
 replace n:=zc (n.out.below K)
 have ab:=zc (aa.out.below K)
 have ac:=zc (N.out.later K)
 clear K aa N
 clear a0 a1 X U a4 a5 a6 a7 a8 a9 L I af
 obtain⟨a0,a1,X,U,a4,a5,a6,a7,a8,a9,L,I,af⟩:=o.out.box
 go_wp2_with fail
 refine (zgG (Cx.mk D j false) E A z S q _ ac.out).mono ?_
 rintro e w4 ⟨S4,q4,z4,n4,rfl,i4,m4,s4⟩
 replace o:=zc (o.out.stp s4)
 replace n:=zc (n.out.stp s4)
 have V:=zc (ab.out.step s4)
 clear ab
 have O:=zc m4
 have ag:=zc i4
 clear i4 m4 s4 ac
 clear a0 a1 X U a4 a5 a6 a7 a8 a9 L I af
 have aj:w.heap.size+1<w4.heap.size:=n.out.lt
 unfold pv
 go_upto_region 7 with fail
 refine zL (R:=fun W=>Bx E S4 W (w.heap.size) _∧Bx E S4 W (w.heap.size+1) _∧Bx E S4 W (w4.heap.size) _∧Mem (Cx.mk D j false) E A z S4 q4 W∧SB w.heap.size S w S4 W) ⟨(o.out.alloc _),(n.out.alloc _),(Bx.new O.out _),(O.out.alloc _),(V.out.alloc _)⟩ ?_
 clear o n V O
 rintro w5 ⟨Y,X1,X2,m5,t5⟩
 have o:=zc Y
 have n:=zc X1
 have ai:=zc X2
 have ah:=zc m5
 have ae:=zc t5
 clear m5 t5 Y X1 X2
 obtain⟨b0,b1,b2,b3,b4,b5,b6,b7,b8,b9,al,ak,bf⟩:=n.out.box
 obtain⟨c0,c1,c2,c3,c4,c5,c6,c7,c8,c9,am,an,cf⟩:=ai.out.box
 go_wp2
 refine bodyPost_ret (results_cell_row rfl _ _ (w.heap.size+1) 53 _ (0,0) _ rfl ((n.out.put ..)).heap Tryz.underlying53 rfl (by kernel_rfl)) rfl ?_
 rw[HV.out]
 exact zY rfl ag.out.fst (ah.out.put n.out ..) (ae.out.put (by omega) ..)
theorem znT (D:List Tk) (j:Nat) (J A z:Nat) (S:Sv) (q:PS) (w:World) (hm:Mem (Cx.mk D j false) J A z S q w) (h0:isT (Cx.mk D j false) q.pos 1 zah=false) (h1:isT (Cx.mk D j false) q.pos 1 zaf=false) (h2:isT (Cx.mk D j false) q.pos 1 zC=false) (h3:isT (Cx.mk D j false) q.pos 1 zT=true):
  Calls Tryz.prog 21 #[pv (Cx.mk D j false) J A S q (-1) 0] w (Out (Cx.mk D j false) J A z (zy (Cx.mk D j false) q) 0 S w):=by
 have HM:=zc hm
 have N:=hm.tok
 have I:(Cx.mk D j false).ts.length≤4000:=hm.few
 clear hm
 have HV:Hid (zy (Cx.mk D j false) q=zaK (fnP (Cx.mk D j false) q)):=by show zy (Cx.mk D j false) q=_;rw[zy,h0,h1,h2,h3];rfl
 unfold pv
 go_enter Tryz.func21,Tryz.ntmps21
 go_wp2_with fail
 refine (zh (Cx.mk D j false) J A z S q (-1) 0 1 zah _ (zq (zq N _) _) I (by decide)).mono ?_
 rintro e w1 ⟨rfl,ak⟩
 rw[h0]
 obtain⟨X0,X1,m1,t1⟩:=HM.out.two ak
 have o:=zc X0
 have n:=zc X1
 have aa:=zc m1
 have ag:=zc t1
 clear X0 X1 m1 t1 ak
 clear N
 obtain⟨a0,a1,Q,O,Y,Z,a6,a7,U,X,H,E,af⟩:=o.out.box
 go_wp2_with fail
 refine (zh (Cx.mk D j false) J A z S q (-1) 0 1 zaf _ aa.out.tok I (by decide)).mono ?_
 rintro e w2 ⟨rfl,K⟩
 rw[h1]
 replace o:=zc (o.out.below K)
 replace n:=zc (n.out.below K)
 have ah:=zc (ag.out.below K)
 have V:=zc (aa.out.later K)
 clear K ag aa
 clear a0 a1 Q O Y Z a6 a7 U X H E af
 obtain⟨a0,a1,Q,O,Y,Z,a6,a7,U,X,H,E,af⟩:=o.out.box
 go_wp2_with fail
 refine (zh (Cx.mk D j false) J A z S q (-1) 0 1 zC _ V.out.tok I (by decide)).mono ?_
 rintro e w3 ⟨rfl,M⟩
 rw[h2]
 replace o:=zc (o.out.below M)
 replace n:=zc (n.out.below M)
 have ai:=zc (ah.out.below M)
 have ab:=zc (V.out.later M)
 clear M ah V
 clear a0 a1 Q O Y Z a6 a7 U X H E af
 obtain⟨a0,a1,Q,O,Y,Z,a6,a7,U,X,H,E,af⟩:=o.out.box
 go_wp2_with fail
 refine (zh (Cx.mk D j false) J A z S q (-1) 0 1 zT _ ab.out.tok I (by decide)).mono ?_
 rintro e w4 ⟨rfl,L⟩
 rw[h3]
 replace o:=zc (o.out.below L)
 replace n:=zc (n.out.below L)
 have ae:=zc (ai.out.below L)
 have aj:=zc (ab.out.later L)
 clear L ai ab
 clear a0 a1 Q O Y Z a6 a7 U X H E af
 obtain⟨a0,a1,Q,O,Y,Z,a6,a7,U,X,H,E,af⟩:=o.out.box
 go_wp2_with fail
 refine (zgH (Cx.mk D j false) J A z S q _ aj.out).mono ?_
 rintro e w5 ⟨S5,q5,z5,n5,rfl,i5,m5,s5⟩
 replace o:=zc (o.out.stp s5)
 replace n:=zc (n.out.stp s5)
 have ad:=zc (ae.out.step s5)
 clear ae
 have ac:=zc m5
 have al:=zc i5
 clear i5 m5 s5 aj
 clear a0 a1 Q O Y Z a6 a7 U X H E af
 have ap:w.heap.size+1<w5.heap.size:=n.out.lt
 unfold pv
 go_upto_region 10 with fail
 refine zL (R:=fun W=>Bx J S5 W (w.heap.size) _∧Bx J S5 W (w.heap.size+1) _∧Bx J S5 W (w5.heap.size) _∧Mem (Cx.mk D j false) J A z S5 q5 W∧SB w.heap.size S w S5 W) ⟨(o.out.alloc _),(n.out.alloc _),(Bx.new ac.out _),(ac.out.alloc _),(ad.out.alloc _)⟩ ?_
 clear o n ad ac
 rintro w6 ⟨X0,X1,X2,m6,t6⟩
 have o:=zc X0
 have n:=zc X1
 have ao:=zc X2
 have am:=zc m6
 have an:=zc t6
 clear m6 t6 X0 X1 X2
 obtain⟨b0,b1,b2,b3,b4,b5,b6,b7,b8,b9,ar,aq,bf⟩:=n.out.box
 obtain⟨c0,c1,c2,c3,c4,c5,c6,c7,c8,c9,au,av,cf⟩:=ao.out.box
 go_wp2
 refine bodyPost_ret (results_cell_row rfl _ _ (w.heap.size+1) 53 _ (0,0) _ rfl ((n.out.put ..)).heap Tryz.underlying53 rfl (by kernel_rfl)) rfl ?_
 rw[HV.out]
 exact zY rfl al.out.fst (am.out.put n.out ..) (an.out.put (by omega) ..)
theorem znU (D:List Tk) (j:Nat) (I A z:Nat) (S:Sv) (q:PS) (w:World) (hm:Mem (Cx.mk D j false) I A z S q w) (h0:isT (Cx.mk D j false) q.pos 1 zah=false) (h1:isT (Cx.mk D j false) q.pos 1 zaf=false) (h2:isT (Cx.mk D j false) q.pos 1 zC=false) (h3:isT (Cx.mk D j false) q.pos 1 zT=false) (h4:isT (Cx.mk D j false) q.pos 1 zar=true):
  Calls Tryz.prog 21 #[pv (Cx.mk D j false) I A S q (-1) 0] w (Out (Cx.mk D j false) I A z (zy (Cx.mk D j false) q) 0 S w):=by
 have HM:=zc hm
 have ac:=hm.tok
 have J:(Cx.mk D j false).ts.length≤4000:=hm.few
 clear hm
 have HV:Hid (zy (Cx.mk D j false) q=bd (bd (bd (bd (bd (bd (.ok q) (zd (Cx.mk D j false) 1 zar)) (zd (Cx.mk D j false) 4 zn)) (pE (Cx.mk D j false) .sum 0)) (zd (Cx.mk D j false) 4 za0)) (zd (Cx.mk D j false) 4 cSemi)) (zV (Cx.mk D j false) 4 sNone)):=by show zy (Cx.mk D j false) q=_;rw[zy,h0,h1,h2,h3,h4];rfl
 unfold pv
 go_enter Tryz.func21,Tryz.ntmps21
 go_wp2_with fail
 refine (zh (Cx.mk D j false) I A z S q (-1) 0 1 zah _ (zq (zq ac _) _) J (by decide)).mono ?_
 rintro e w1 ⟨rfl,aK⟩
 rw[h0]
 obtain⟨X0,X1,m1,t1⟩:=HM.out.two aK
 have n:=zc X0
 have o:=zc X1
 have aj:=zc m1
 have ap:=zc t1
 clear X0 X1 m1 t1 aK
 clear ac
 obtain⟨a0,a1,X,V,a4,a5,a6,a7,Y,Z,H,E,af⟩:=n.out.box
 go_wp2_with fail
 refine (zh (Cx.mk D j false) I A z S q (-1) 0 1 zaf _ aj.out.tok J (by decide)).mono ?_
 rintro e w2 ⟨rfl,K⟩
 rw[h1]
 replace n:=zc (n.out.below K)
 replace o:=zc (o.out.below K)
 have aq:=zc (ap.out.below K)
 have ah:=zc (aj.out.later K)
 clear K ap aj
 clear a0 a1 X V a4 a5 a6 a7 Y Z H E af
 obtain⟨a0,a1,X,V,a4,a5,a6,a7,Y,Z,H,E,af⟩:=n.out.box
 go_wp2_with fail
 refine (zh (Cx.mk D j false) I A z S q (-1) 0 1 zC _ ah.out.tok J (by decide)).mono ?_
 rintro e w3 ⟨rfl,U⟩
 rw[h2]
 replace n:=zc (n.out.below U)
 replace o:=zc (o.out.below U)
 have ay:=zc (aq.out.below U)
 have ak:=zc (ah.out.later U)
 clear U aq ah
 clear a0 a1 X V a4 a5 a6 a7 Y Z H E af
 obtain⟨a0,a1,X,V,a4,a5,a6,a7,Y,Z,H,E,af⟩:=n.out.box
 go_wp2_with fail
 refine (zh (Cx.mk D j false) I A z S q (-1) 0 1 zT _ ak.out.tok J (by decide)).mono ?_
 rintro e w4 ⟨rfl,N⟩
 rw[h3]
 replace n:=zc (n.out.below N)
 replace o:=zc (o.out.below N)
 have an:=zc (ay.out.below N)
 have ai:=zc (ak.out.later N)
 clear N ay ak
 clear a0 a1 X V a4 a5 a6 a7 Y Z H E af
 obtain⟨a0,a1,X,V,a4,a5,a6,a7,Y,Z,H,E,af⟩:=n.out.box
 go_wp2_with fail
 refine (zh (Cx.mk D j false) I A z S q (-1) 0 1 zar _ ai.out.tok J (by decide)).mono ?_
 rintro e w5 ⟨rfl,O⟩
 rw[h4]
 replace n:=zc (n.out.below O)
 replace o:=zc (o.out.below O)
 have am:=zc (an.out.below O)
 have aG:=zc (ai.out.later O)
 clear O an ai
 clear a0 a1 X V a4 a5 a6 a7 Y Z H E af
 obtain⟨a0,a1,X,V,a4,a5,a6,a7,Y,Z,H,E,af⟩:=n.out.box
 go_wp2_with fail
 refine (zaH (Cx.mk D j false) I A z (.ok q) S q (-1) 0 zar _ (zX q) aG.out).mono ?_
 rintro e w6 ⟨S6,q6,z6,rfl,i6,m6,s6⟩
 replace n:=zc (n.out.stp s6)
 replace o:=zc (o.out.stp s6)
 have aB:=zc (am.out.step s6)
 clear am
 have ax:=zc m6
 have aO:=zc i6
 clear i6 m6 s6 aG
 clear a0 a1 X V a4 a5 a6 a7 Y Z H E af
 go_wp2_with fail
 refine (zad (Cx.mk D j false) I A z _ S6 q6 z6 0 zn _ aO.out ax.out).mono ?_
 rintro e w7 ⟨S7,q7,z7,rfl,i7,m7,s7⟩
 replace n:=zc (n.out.stp s7)
 replace o:=zc (o.out.stp s7)
 have aE:=zc (aB.out.step s7)
 clear aB
 have au:=zc m7
 have aR:=zc i7
 clear i7 m7 s7 ax
 go_wp2_with fail
 refine (zcN (Cx.mk D j false) I A z _ S7 q7 z7 _ aR.out au.out).mono ?_
 rintro e w8 ⟨S8,q8,z8,rfl,i8,m8,s8⟩
 replace n:=zc (n.out.stp s8)
 replace o:=zc (o.out.stp s8)
 have aH:=zc (aE.out.step s8)
 clear aE
 have aJ:=zc m8
 have aS:=zc i8
 clear i8 m8 s8 au
 go_wp2_with fail
 refine (zad (Cx.mk D j false) I A z _ S8 q8 z8 0 za0 _ aS.out aJ.out).mono ?_
 rintro e w9 ⟨S9,q9,z9,rfl,i9,m9,s9⟩
 replace n:=zc (n.out.stp s9)
 replace o:=zc (o.out.stp s9)
 have aF:=zc (aH.out.step s9)
 clear aH
 have al:=zc m9
 have aN:=zc i9
 clear i9 m9 s9 aJ
 have aU:w.heap.size+1<w9.heap.size:=o.out.lt
 unfold pv
 go_upto_region 13 with fail
 refine zL (R:=fun W=>Bx I S9 W (w.heap.size) _∧Bx I S9 W (w.heap.size+1) _∧Bx I S9 W (w9.heap.size) _∧Mem (Cx.mk D j false) I A z S9 q9 W∧SB w.heap.size S w S9 W) ⟨(n.out.alloc _),(o.out.alloc _),(Bx.new al.out _),(al.out.alloc _),(aF.out.alloc _)⟩ ?_
 clear n o aF al
 rintro aZ ⟨X0,X1,X2,aI,aA⟩
 have n:=zc X0
 have o:=zc X1
 have Q:=zc X2
 have ae:=zc aI
 have ad:=zc aA
 clear aI aA X0 X1 X2
 obtain⟨c0,c1,c2,c3,c4,c5,c6,c7,c8,c9,aL,aQ,cf⟩:=Q.out.box
 go_wp2_with fail
 refine (zad (Cx.mk D j false) I A z _ S9 q9 z9 0 cSemi _ aN.out ae.out).mono ?_
 rintro e ba ⟨aP,aM,aT,rfl,aC,ar,M⟩
 replace n:=zc (n.out.stp M)
 replace o:=zc (o.out.stp M)
 replace Q:=zc (Q.out.stp M)
 have ag:=zc (ad.out.step M)
 clear ad
 have ab:=zc ar
 have aa:=zc aC
 clear aC ar M ae
 clear c0 c1 c2 c3 c4 c5 c6 c7 c8 c9 aL aQ cf
 go_wp2_with fail
 refine (zcL (Cx.mk D j false) I A z _ aP aM aT 0 4 sNone _ aa.out ab.out (zbh aa.out)).mono ?_
 rintro e bc ⟨bb,aV,aY,rfl,av,az,L⟩
 replace n:=zc (n.out.stp L)
 replace o:=zc (o.out.stp L)
 replace Q:=zc (Q.out.stp L)
 have aD:=zc (ag.out.step L)
 clear ag
 have aw:=zc az
 have ao:=zc av
 clear av az L ab
 obtain⟨b0,b1,b2,b3,b4,b5,b6,b7,b8,b9,aX,aW,bf⟩:=o.out.box
 unfold pv
 go_wp2
 refine bodyPost_ret (results_cell_row rfl _ _ (w.heap.size+1) 53 _ (0,0) _ rfl ((o.out.put ..)).heap Tryz.underlying53 rfl (by kernel_rfl)) rfl ?_
 rw[HV.out]
 exact zY rfl ao.out (aw.out.put o.out ..) (aD.out.put (by omega) ..)
theorem znV (D:List Tk) (j:Nat) (J A z:Nat) (S:Sv) (q:PS) (w:World) (hm:Mem (Cx.mk D j false) J A z S q w) (h0:isT (Cx.mk D j false) q.pos 1 zah=false) (h1:isT (Cx.mk D j false) q.pos 1 zaf=false) (h2:isT (Cx.mk D j false) q.pos 1 zC=false) (h3:isT (Cx.mk D j false) q.pos 1 zT=false) (h4:isT (Cx.mk D j false) q.pos 1 zar=false) (h5:isT (Cx.mk D j false) q.pos 1 za3=true):
  Calls Tryz.prog 21 #[pv (Cx.mk D j false) J A S q (-1) 0] w (Out (Cx.mk D j false) J A z (zy (Cx.mk D j false) q) 0 S w):=by
 have HM:=zc hm
 have ae:=hm.tok
 have I:(Cx.mk D j false).ts.length≤4000:=hm.few
 clear hm
 have HV:Hid (zy (Cx.mk D j false) q=bd (bd (bd (bd (.ok q) (zd (Cx.mk D j false) 1 za3)) (pE (Cx.mk D j false) .sum 0)) (zd (Cx.mk D j false) 4 cSemi)) (zV (Cx.mk D j false) 5 sNone)):=by show zy (Cx.mk D j false) q=_;rw[zy,h0,h1,h2,h3,h4,h5];rfl
 unfold pv
 go_enter Tryz.func21,Tryz.ntmps21
 go_wp2_with fail
 refine (zh (Cx.mk D j false) J A z S q (-1) 0 1 zah _ (zq (zq ae _) _) I (by decide)).mono ?_
 rintro e w1 ⟨rfl,aG⟩
 rw[h0]
 obtain⟨X0,X1,m1,t1⟩:=HM.out.two aG
 have n:=zc X0
 have o:=zc X1
 have ai:=zc m1
 have an:=zc t1
 clear X0 X1 m1 t1 aG
 clear ae
 obtain⟨Z,a1,M,K,U,V,X,Y,N,Q,H,E,af⟩:=n.out.box
 go_wp2_with fail
 refine (zh (Cx.mk D j false) J A z S q (-1) 0 1 zaf _ ai.out.tok I (by decide)).mono ?_
 rintro e w2 ⟨rfl,L⟩
 rw[h1]
 replace n:=zc (n.out.below L)
 replace o:=zc (o.out.below L)
 have ao:=zc (an.out.below L)
 have ag:=zc (ai.out.later L)
 clear L an ai
 clear Z a1 M K U V X Y N Q H E af
 obtain⟨Z,a1,M,K,U,V,X,Y,N,Q,H,E,af⟩:=n.out.box
 go_wp2_with fail
 refine (zh (Cx.mk D j false) J A z S q (-1) 0 1 zC _ ag.out.tok I (by decide)).mono ?_
 rintro e w3 ⟨rfl,ac⟩
 rw[h2]
 replace n:=zc (n.out.below ac)
 replace o:=zc (o.out.below ac)
 have ay:=zc (ao.out.below ac)
 have aj:=zc (ag.out.later ac)
 clear ac ao ag
 clear Z a1 M K U V X Y N Q H E af
 obtain⟨Z,a1,M,K,U,V,X,Y,N,Q,H,E,af⟩:=n.out.box
 go_wp2_with fail
 refine (zh (Cx.mk D j false) J A z S q (-1) 0 1 zT _ aj.out.tok I (by decide)).mono ?_
 rintro e w4 ⟨rfl,aa⟩
 rw[h3]
 replace n:=zc (n.out.below aa)
 replace o:=zc (o.out.below aa)
 have am:=zc (ay.out.below aa)
 have ah:=zc (aj.out.later aa)
 clear aa ay aj
 clear Z a1 M K U V X Y N Q H E af
 obtain⟨Z,a1,M,K,U,V,X,Y,N,Q,H,E,af⟩:=n.out.box
 go_wp2_with fail
 refine (zh (Cx.mk D j false) J A z S q (-1) 0 1 zar _ ah.out.tok I (by decide)).mono ?_
 rintro e w5 ⟨rfl,ab⟩
 rw[h4]
 replace n:=zc (n.out.below ab)
 replace o:=zc (o.out.below ab)
 have al:=zc (am.out.below ab)
 have ak:=zc (ah.out.later ab)
 clear ab am ah
 clear Z a1 M K U V X Y N Q H E af
 obtain⟨Z,a1,M,K,U,V,X,Y,N,Q,H,E,af⟩:=n.out.box
 go_wp2_with fail
 refine (zh (Cx.mk D j false) J A z S q (-1) 0 1 za3 _ ak.out.tok I (by decide)).mono ?_
 rintro e w6 ⟨rfl,O⟩
 rw[h5]
 replace n:=zc (n.out.below O)
 replace o:=zc (o.out.below O)
 have az:=zc (al.out.below O)
 have aw:=zc (ak.out.later O)
 clear O al ak
 clear Z a1 M K U V X Y N Q H E af
 obtain⟨Z,a1,M,K,U,V,X,Y,N,Q,H,E,af⟩:=n.out.box
 go_wp2_with fail
 refine (zaH (Cx.mk D j false) J A z (.ok q) S q (-1) 0 za3 _ (zX q) aw.out).mono ?_
 rintro e w7 ⟨S7,q7,z7,rfl,i7,m7,s7⟩
 replace n:=zc (n.out.stp s7)
 replace o:=zc (o.out.stp s7)
 have aA:=zc (az.out.step s7)
 clear az
 have ap:=zc m7
 have aH:=zc i7
 clear i7 m7 s7 aw
 clear Z a1 M K U V X Y N Q H E af
 go_wp2_with fail
 refine (zcN (Cx.mk D j false) J A z _ S7 q7 z7 _ aH.out ap.out).mono ?_
 rintro e w8 ⟨S8,q8,z8,rfl,i8,m8,s8⟩
 replace n:=zc (n.out.stp s8)
 replace o:=zc (o.out.stp s8)
 have aC:=zc (aA.out.step s8)
 clear aA
 have aF:=zc m8
 have aI:=zc i8
 clear i8 m8 s8 ap
 go_wp2_with fail
 refine (zad (Cx.mk D j false) J A z _ S8 q8 z8 0 cSemi _ aI.out aF.out).mono ?_
 rintro e w9 ⟨S9,q9,z9,rfl,i9,m9,s9⟩
 replace n:=zc (n.out.stp s9)
 replace o:=zc (o.out.stp s9)
 have aB:=zc (aC.out.step s9)
 clear aC
 have aD:=zc m9
 have au:=zc i9
 clear i9 m9 s9 aF
 go_wp2_with fail
 refine (zcL (Cx.mk D j false) J A z _ S9 q9 z9 0 5 sNone _ au.out aD.out (zbh au.out)).mono ?_
 rintro e aM ⟨aO,aN,aJ,rfl,ax,aE,ad⟩
 replace n:=zc (n.out.stp ad)
 replace o:=zc (o.out.stp ad)
 have aq:=zc (aB.out.step ad)
 clear aB
 have av:=zc aE
 have ar:=zc ax
 clear ax aE ad aD
 obtain⟨b0,b1,b2,b3,b4,b5,b6,b7,b8,b9,aL,aK,bf⟩:=o.out.box
 unfold pv
 go_wp2
 refine bodyPost_ret (results_cell_row rfl _ _ (w.heap.size+1) 53 _ (0,0) _ rfl ((o.out.put ..)).heap Tryz.underlying53 rfl (by kernel_rfl)) rfl ?_
 rw[HV.out]
 exact zY rfl ar.out (av.out.put o.out ..) (aq.out.put (by omega) ..)
theorem znW (D:List Tk) (j:Nat) (L E A:Nat) (S:Sv) (q:PS) (w:World) (hm:Mem (Cx.mk D j false) L E A S q w) (h0:isT (Cx.mk D j false) q.pos 1 zah=false) (h1:isT (Cx.mk D j false) q.pos 1 zaf=false) (h2:isT (Cx.mk D j false) q.pos 1 zC=false) (h3:isT (Cx.mk D j false) q.pos 1 zT=false) (h4:isT (Cx.mk D j false) q.pos 1 zar=false) (h5:isT (Cx.mk D j false) q.pos 1 za3=false):
  Calls Tryz.prog 21 #[pv (Cx.mk D j false) L E S q (-1) 0] w (Out (Cx.mk D j false) L E A (zy (Cx.mk D j false) q) 0 S w):=by
 have HM:=zc hm
 have ag:=hm.tok
 have J:(Cx.mk D j false).ts.length≤4000:=hm.few
 clear hm
 have HV:Hid (zy (Cx.mk D j false) q=bd (bd (.ok q) (zj (Cx.mk D j false) false)) fun a=>bd (bd (bd (bd (.ok a.1) (zd (Cx.mk D j false) 4 cEq)) (pE (Cx.mk D j false) .sum 0)) (zd (Cx.mk D j false) 4 cSemi)) (zV (Cx.mk D j false) 3 a.2)):=by show zy (Cx.mk D j false) q=_;rw[zy,h0,h1,h2,h3,h4,h5];rfl
 unfold pv
 go_enter Tryz.func21,Tryz.ntmps21
 go_wp2_with fail
 refine (zh (Cx.mk D j false) L E A S q (-1) 0 1 zah _ (zq (zq ag _) _) J (by decide)).mono ?_
 rintro e w1 ⟨rfl,aP⟩
 rw[h0]
 obtain⟨X0,X1,m1,t1⟩:=HM.out.two aP
 have o:=zc X0
 have z:=zc X1
 have an:=zc m1
 have av:=zc t1
 clear X0 X1 m1 t1 aP
 clear ag
 obtain⟨a0,a1,O,M,a4,a5,a6,a7,U,Y,I,H,af⟩:=o.out.box
 go_wp2_with fail
 refine (zh (Cx.mk D j false) L E A S q (-1) 0 1 zaf _ an.out.tok J (by decide)).mono ?_
 rintro e w2 ⟨rfl,N⟩
 rw[h1]
 replace o:=zc (o.out.below N)
 replace z:=zc (z.out.below N)
 have aw:=zc (av.out.below N)
 have al:=zc (an.out.later N)
 clear N av an
 clear a0 a1 O M a4 a5 a6 a7 U Y I H af
 obtain⟨a0,a1,O,M,a4,a5,a6,a7,U,Y,I,H,af⟩:=o.out.box
 go_wp2_with fail
 refine (zh (Cx.mk D j false) L E A S q (-1) 0 1 zC _ al.out.tok J (by decide)).mono ?_
 rintro e w3 ⟨rfl,ac⟩
 rw[h2]
 replace o:=zc (o.out.below ac)
 replace z:=zc (z.out.below ac)
 have aD:=zc (aw.out.below ac)
 have ao:=zc (al.out.later ac)
 clear ac aw al
 clear a0 a1 O M a4 a5 a6 a7 U Y I H af
 obtain⟨a0,a1,O,M,a4,a5,a6,a7,U,Y,I,H,af⟩:=o.out.box
 go_wp2_with fail
 refine (zh (Cx.mk D j false) L E A S q (-1) 0 1 zT _ ao.out.tok J (by decide)).mono ?_
 rintro e w4 ⟨rfl,aa⟩
 rw[h3]
 replace o:=zc (o.out.below aa)
 replace z:=zc (z.out.below aa)
 have ar:=zc (aD.out.below aa)
 have am:=zc (ao.out.later aa)
 clear aa aD ao
 clear a0 a1 O M a4 a5 a6 a7 U Y I H af
 obtain⟨a0,a1,O,M,a4,a5,a6,a7,U,Y,I,H,af⟩:=o.out.box
 go_wp2_with fail
 refine (zh (Cx.mk D j false) L E A S q (-1) 0 1 zar _ am.out.tok J (by decide)).mono ?_
 rintro e w5 ⟨rfl,ab⟩
 rw[h4]
 replace o:=zc (o.out.below ab)
 replace z:=zc (z.out.below ab)
 have aq:=zc (ar.out.below ab)
 have ap:=zc (am.out.later ab)
 clear ab ar am
 clear a0 a1 O M a4 a5 a6 a7 U Y I H af
 obtain⟨a0,a1,O,M,a4,a5,a6,a7,U,Y,I,H,af⟩:=o.out.box
 go_wp2_with fail
 refine (zh (Cx.mk D j false) L E A S q (-1) 0 1 za3 _ ap.out.tok J (by decide)).mono ?_
 rintro e w6 ⟨rfl,V⟩
 rw[h5]
 replace o:=zc (o.out.below V)
 replace z:=zc (z.out.below V)
 have aG:=zc (aq.out.below V)
 have aB:=zc (ap.out.later V)
 clear V aq ap
 clear a0 a1 O M a4 a5 a6 a7 U Y I H af
 obtain⟨a0,a1,O,M,a4,a5,a6,a7,U,Y,I,H,af⟩:=o.out.box
 go_wp2_with fail
 refine (zbe (Cx.mk D j false) L E A (.ok q) S q (-1) 0 false _ (zX q) aB.out).mono ?_
 rintro e w7 ⟨S7,q7,z7,n7,rfl,i7,m7,s7⟩
 replace o:=zc (o.out.stp s7)
 replace z:=zc (z.out.stp s7)
 have aJ:=zc (aG.out.step s7)
 clear aG
 have ak:=zc m7
 have aF:=zc i7
 clear i7 m7 s7 aB
 clear a0 a1 O M a4 a5 a6 a7 U Y I H af
 have aZ:w.heap.size+1<w7.heap.size:=z.out.lt
 unfold pv
 go_upto_region 19 with fail
 refine zL (R:=fun W=>Bx L S7 W (w.heap.size) _∧Bx L S7 W (w.heap.size+1) _∧Bx L S7 W (w7.heap.size) _∧Mem (Cx.mk D j false) L E A S7 q7 W∧SB w.heap.size S w S7 W) ⟨(o.out.alloc _),(z.out.alloc _),(Bx.new ak.out _),(ak.out.alloc _),(aJ.out.alloc _)⟩ ?_
 clear o z aJ ak
 rintro w8 ⟨X0,X1,X2,m8,t8⟩
 have o:=zc X0
 have z:=zc X1
 have K:=zc X2
 have aO:=zc m8
 have aL:=zc t8
 clear m8 t8 X0 X1 X2
 obtain⟨c0,c1,c2,c3,c4,c5,c6,c7,c8,c9,aR,aW,cf⟩:=K.out.box
 go_wp2_with fail
 refine (zad (Cx.mk D j false) L E A _ S7 q7 z7 0 cEq _ aF.out.fst aO.out).mono ?_
 rintro e w9 ⟨S9,q9,z9,rfl,i9,m9,s9⟩
 replace o:=zc (o.out.stp s9)
 replace z:=zc (z.out.stp s9)
 replace K:=zc (K.out.stp s9)
 have aK:=zc (aL.out.step s9)
 clear aL
 have aM:=zc m9
 have aT:=zc i9
 clear i9 m9 s9 aO
 clear c0 c1 c2 c3 c4 c5 c6 c7 c8 c9 aR aW cf
 go_wp2_with fail
 refine (zcN (Cx.mk D j false) L E A _ S9 q9 z9 _ aT.out aM.out).mono ?_
 rintro e bg ⟨aY,aV,aQ,rfl,aC,aN,Q⟩
 replace o:=zc (o.out.stp Q)
 replace z:=zc (z.out.stp Q)
 replace K:=zc (K.out.stp Q)
 have ah:=zc (aK.out.step Q)
 clear aK
 have ai:=zc aN
 have aA:=zc aC
 clear aC aN Q aM
 go_wp2_with fail
 refine (zad (Cx.mk D j false) L E A _ aY aV aQ 0 cSemi _ aA.out ai.out).mono ?_
 rintro e bi ⟨aU,aS,aX,rfl,aH,ax,Z⟩
 replace o:=zc (o.out.stp Z)
 replace z:=zc (z.out.stp Z)
 replace K:=zc (K.out.stp Z)
 have aj:=zc (ah.out.step Z)
 clear ah
 have ae:=zc ax
 have ad:=zc aH
 clear aH ax Z ai
 go_wp2_with fail
 refine (zcL (Cx.mk D j false) L E A _ aU aS aX 0 3 n7 _ ad.out ae.out (zbh ad.out)).mono ?_
 rintro e bk ⟨bj,ba,be,rfl,ay,aE,X⟩
 replace o:=zc (o.out.stp X)
 replace z:=zc (z.out.stp X)
 replace K:=zc (K.out.stp X)
 have aI:=zc (aj.out.step X)
 clear aj
 have az:=zc aE
 have au:=zc ay
 clear ay aE X ae
 obtain⟨b0,b1,b2,b3,b4,b5,b6,b7,b8,b9,bc,bb,bf⟩:=z.out.box
 unfold pv
 go_wp2
 refine bodyPost_ret (results_cell_row rfl _ _ (w.heap.size+1) 53 _ (0,0) _ rfl ((z.out.put ..)).heap Tryz.underlying53 rfl (by kernel_rfl)) rfl ?_
 rw[HV.out,←aF.out.bind (fun q n=>bd (bd (bd (bd (.ok q) (zd (Cx.mk D j false) 4 cEq)) (pE (Cx.mk D j false) .sum 0)) (zd (Cx.mk D j false) 4 cSemi)) (zV (Cx.mk D j false) 3 n)),←ziP]
 exact zY rfl au.out (az.out.put z.out ..) (aI.out.put (by omega) ..)
theorem znX (z:List Tk) (j:Nat) (A o n:Nat) (S:Sv) (q:PS) (w:World) (E:Mem (Cx.mk z j false) A o n S q w):
  Calls Tryz.prog 21 #[pv (Cx.mk z j false) A o S q (-1) 0] w (Out (Cx.mk z j false) A o n (zy (Cx.mk z j false) q) 0 S w):=by
 cases D:isT (Cx.mk z j false) q.pos 1 zah with
 |true=>exact znQ z j A o n S q w E D
 |false=>
  cases H:isT (Cx.mk z j false) q.pos 1 zaf with
  |true=>exact znR z j A o n S q w E D H
  |false=>
   cases I:isT (Cx.mk z j false) q.pos 1 zC with
   |true=>exact znS z j A o n S q w E D H I
   |false=>
    cases J:isT (Cx.mk z j false) q.pos 1 zT with
    |true=>exact znT z j A o n S q w E D H I J
    |false=>
     cases K:isT (Cx.mk z j false) q.pos 1 zar with
     |true=>exact znU z j A o n S q w E D H I J K
     |false=>
      cases L:isT (Cx.mk z j false) q.pos 1 za3 with
      |true=>exact znV z j A o n S q w E D H I J K L
      |false=>
       exact znW z j A o n S q w E D H I J K L
theorem znY (C:Cx) (o n j:Nat) (S:Sv) (q:PS) (w:World) (D:Mem C o n j S q w):
  Calls Tryz.prog 21 #[pv C o n S q (-1) 0] w (Out C o n j (zy C q) 0 S w):=by
 obtain⟨E,z,A⟩:=C
 cases A with
 |true=>exact znP E z o n j S q w D
 |false=>exact znX E z o n j S q w D
theorem ziQ (s:ByteArray) (j:Bool) (w:World) (hs:s.size≤4294967296):
  Calls Tryz.prog 6 #[.string s,.bool j] w fun e w'=>ParseOut s j w e w'∧Below w.heap.size w w':=by
 obtain⟨i0,hi,au,an,ax⟩:=info_parts Tryz.infoExp
 go_enter Tryz.func6,Tryz.ntmps6
 go_wp2_with fail
 refine (zlB s j _ hs).mono ?_
 rintro e Q ⟨⟨r1,N,O⟩,b1⟩
 have ab:Hid (Below w.heap.size w Q):=((Below.refl _ _).alloc (Nat.le_refl _) _).trans (b1.mono (by rw[zk];omega))
 have hG:Q.heap[w.heap.size]? =some (.cells #[.slice none 0 0,.slice none 0 0,.slice none 0 0,.slice none 0 0,.slice none 0 0] 28 (0,0)):=(b1.block _ (by rw[zk];omega)).trans (heap_alloc_new w _)
 rw[zk] at b1
 cases r1 with
 |error p=>
  obtain⟨g,K,rfl,q⟩:=O
  have HY:Hid (zb7 s j (.error p)):=⟨_,N,rfl⟩
  have HG:=zc hG
  obtain⟨c0,c1,c2,c3,c4,cf⟩:=zl hG
  have dz:decide ((0:Int)≤(p:Int))=true:=decide_eq_true (by omega)
  clear q N b1 hG
  go_wp2
  refine bodyPost_ret (zaA rfl _ _ w.heap.size 28 _ (0,0) _ rfl (zcZ HG.out) Tryz.underlying28 rfl (by kernel_rfl)) rfl ?_
  exact⟨⟨_,HY.out,rfl⟩,zd1 ab.out (Nat.le_refl _) _ _ _ _ _⟩
 |ok z=>
  obtain⟨g,n,K,rfl,q⟩:=O
  obtain rfl:n=z.length:=q.2
  rw[zk] at q
  have ah:w.heap.size+1≤Q.heap.size:=by have:=b1.size;rw[zk] at this;exact this
  have ai:=zhN N
  have HR:=zc N
  have ad:Mem ⟨z,s.size,j⟩ g K (w.heap.size+1) S0 zbC Q:=zhO q ai ah
  have al:=zc ad
  have HG:=zc hG
  clear q N ad hG
  go_wp2
  go_loopg [] (z.length+1) (fun k wr=>∃(x':PR) (D:Sv) (U:PS) (z':Int),Is x' U z'∧bd x' (zas ⟨z,s.size,j⟩)=zas ⟨z,s.size,j⟩ zbC∧(z'<0→z.length-U.pos<k)∧Mem ⟨z,s.size,j⟩ g K (w.heap.size+1) D U wr∧Below w.heap.size w wr∧Bx g D wr Q.heap.size #[.slice (some ⟨g,0,none⟩) z.length K,.int .i64 U.pos,.int .i64 s.size,.bool j,.slice D.rq.a U.rq.length D.rq.cap,.slice D.im.a U.im.length D.im.cap,.slice D.ep.a U.ep.length D.ep.cap,.slice D.st.a U.st.length D.st.cap,.slice D.ex.a U.ex.length D.ex.cap,.slice D.la.a U.la.length D.la.cap,.int .i64 z',.int .i64 0]∧wr.heap[w.heap.size]? =some (.cells #[.slice none 0 0,.slice none 0 0,.slice none 0 0,.slice none 0 0,.slice none 0 0] 28 (0,0)))
  case atStart=>exact⟨.ok zbC,S0,zbC,-1,zX _,rfl,fun _=>by show z.length-0<z.length+1;omega,al.out.alloc _,ab.out.alloc ab.out.size _,Bx.new al.out _,(Below.heap_alloc _ _ _ (by omega)).trans HG.out⟩
  case round=>
   obtain⟨x2,S2,H,z2,i2,e2,l2,m2,t2,X0,G2⟩:=hrel
   have aj:=zc i2
   have ac:=zc e2
   have aq:=zc l2
   have o:=zc m2
   have X:=zc t2
   have I:=zc X0
   have E:=zc G2
   have aA:H.pos≤z.length:=m2.inv.pos
   obtain⟨a0,a1,a2,a3,a4,a5,a6,a7,a8,a9,Z,Y,af⟩:=X0.box
   clear i2 e2 l2 m2 t2 X0 G2
   by_cases hz:z2<0
   ·have dz:decide (z2<0)=true:=decide_eq_true hz
    obtain⟨rfl,rfl⟩:=zaC aj.out hz
    by_cases hp:H.pos<z.length
    ·have aB:=aq.out hz
     go_wp2_with fail
     refine (znY ⟨z,s.size,j⟩ g K (w.heap.size+1) S2 H _ o.out).mono ?_
     rintro e w3 ⟨S3,q3,z3,rfl,i3,m3,s3⟩
     have av:=zc m3
     have ag:=zc i3
     have aa:Hid (Below (w.heap.size+1) wr w3):=s3.under o.out.base o.out.own
     have M:Hid (Bx g S3 w3 Q.heap.size _):=I.out.stp s3
     have ap:Hid (Below w.heap.size w w3):=X.out.trans (aa.out.mono (by omega))
     have V:Hid (w3.heap[w.heap.size]? =some (.cells #[.slice none 0 0,.slice none 0 0,.slice none 0 0,.slice none 0 0,.slice none 0 0] 28 (0,0))):=(aa.out.block _ (by omega)).trans E.out
     have HE:Hid (bd (zy ⟨z,s.size,j⟩ H) (zas ⟨z,s.size,j⟩)=zas ⟨z,s.size,j⟩ zbC):=by
      show _=_
      rw[←ac.out,zz,zfu,if_pos hp]
     have HP:Hid (z3<0→H.pos<q3.pos):=fun h=>zft (zaC ag.out h).1
     clear i3 m3 s3 a0 a1 a2 a3 a4 a5 a6 a7 a8 a9 Z Y af
     obtain⟨a0,a1,a2,a3,a4,a5,a6,a7,a8,a9,Z,Y,af⟩:=M.out.box
     unfold pv
     go_wp2
     go_roundg (gk-1)
     case rel=>exact⟨_,S3,q3,z3,ag.out,HE.out,fun h=>by have:=HP.out h;omega,av.out.put M.out _ _ _ _ _ _ _ _ _ _ _ _,zbD ap.out (by omega) _ _ _ _ _ _ _ _ _ _ _ _,M.out.put _ _ _ _ _ _ _ _ _ _ _ _,(zeQ (by omega) ..).trans V.out⟩
     case measure=>omega
    ·have HD:Hid (zas ⟨z,s.size,j⟩ zbC= .ok H):=by
      show _=_
      rw[←ac.out,zz,zfu,if_neg hp]
     have HY:Hid (zb7 s j (.ok H)):=⟨_,HR.out,HD.out.symm⟩
     have am:Q.heap.size<wr.heap.size:=I.out.lt
     have ay:=o.out.inv.ep
     have A:=o.out.own.ep
     have aa:=o.out.base
     rcases o.out.own.la.nil_or with ⟨ha,hc,hn⟩|⟨gl,ha⟩
     ·have HN:Hid (H.la=[]):=List.eq_nil_of_length_eq_zero hn
      rw[ha,hc,hn] at a9
      obtain⟨c0,c1,c2,c3,c4,cf⟩:=zl E.out
      clear ha hc hn
      go_wp2_with (at_builtin;refine zlz _ rfl _ _ 24 rfl 102 i0 Tryz.underlying24 hi (w.heap.size+1) 4 H.ep.length S2.ep _ (by rfl) A (by rfl) ?_)
      clear A
      go_wp2
      refine bodyPost_ret (zaA rfl _ _ w.heap.size 28 _ (0,0) _ rfl (zcZ ((zi (by omega)).trans E.out)) Tryz.underlying28 rfl (by kernel_rfl)) rfl ?_
      refine⟨⟨_,HY.out,S2,by simp[zfv,HN.out],o.out.whole0 HN.out (Nat.lt_succ_self _) I.out.free fun k L h2=>?_⟩,zd1 (X.out.setCell (by show _≤Q.heap.size;omega) _) (Nat.le_refl _) _ _ _ _ _⟩
      rw[zi L,zi L,zi L,zi L,zi L,zi h2]
     ·have ae:OwnR wr (w.heap.size+1) 102 4 ⟨some ⟨gl,0,none⟩,S2.la.cap⟩ H.la.length (H.la.flatMap epL):=by have:=o.out.own.la;unfold OwnR at this ⊢;rw[ha] at this;exact this
      rw[ha] at a9
      go_wp2_with (at_builtin;refine zly _ rfl _ _ 24 rfl (w.heap.size+1) 102 i0 _ 4 56 Tryz.underlying24 hi au an ax rfl (by decide) (by decide) S2.ep H.ep.length _ (by rfl) A gl H.la.length S2.la.cap (w.heap.size+1) _ (by rfl) ae (zgu _) (by omega) aa ?_)
      intro r' w3 hr hg ak
      have aw:=zc hr
      have J:=zc hg
      have ar:=zc ak
      have ao:=fun b hb=>zd6 (W:=wr) o.out.own (Nat.le_refl _) (r:=S2.ep.blk) (fun k e=>.inr (.inr (.inl e))) b hb
      have M:Hid (w3.heap[Q.heap.size]? =_):=(hg.block _ am (fun e=>I.out.free (.inr (.inr (.inl e.symm))))).trans I.out.heap
      have V:Hid (w3.heap[w.heap.size]? =_):=(hg.block _ (by omega) (fun e=>by have:=(A.typed e.symm).1;omega)).trans E.out
      clear a0 a1 a2 a3 a4 a5 a6 a7 a8 a9 Z Y af hr hg ak ao A ae
      obtain⟨a0,a1,a2,a3,a4,a5,a6,a7,a8,a9,Z,Y,af⟩:=zaj M.out
      obtain⟨c0,c1,c2,c3,c4,cf⟩:=zl V.out
      go_wp2
      refine bodyPost_ret (zaA rfl _ _ w.heap.size 28 _ (0,0) _ rfl (zcZ ((zi (by omega)).trans V.out)) Tryz.underlying28 rfl (by kernel_rfl)) rfl ?_
      refine⟨⟨_,HY.out,{S2 with ep:=r'},by simp[zfv],o.out.whole J.out aw.out ar.out (Nat.lt_succ_self _) am I.out.free fun k L h2=>?_⟩,zd1 ((X.out.trans (Below.mono (B:=w.heap.size+1) ⟨J.out.os,J.out.tape,J.out.output,J.out.size,fun k hk=>J.out.block k (by omega) fun e=>by have:=(o.out.own.ep.typed e.symm).1;omega⟩ (by omega))).setCell (by show _≤Q.heap.size;omega) _) (Nat.le_refl _) _ _ _ _ _⟩
      rw[zi L,zi L,zi L,zi L,zi L,zi h2]
   ·have dz:decide (z2<0)=false:=decide_eq_false hz
    obtain⟨e0,rfl,rfl⟩:=zdc aj.out hz
    have az:decide ((0:Int)≤(e0:Int))=true:=decide_eq_true (by omega)
    have HY:Hid (zb7 s j (.error e0)):=⟨_,HR.out,(show (.error e0:PR)=zas ⟨z,s.size,j⟩ zbC from ac.out)⟩
    obtain⟨c0,c1,c2,c3,c4,cf⟩:=zl E.out
    go_wp2
    go_region
    all_goals
     go_wp2
     refine bodyPost_ret (zaA rfl _ _ w.heap.size 28 _ (0,0) _ rfl (zcZ E.out) Tryz.underlying28 rfl (by kernel_rfl)) rfl ?_
     exact⟨⟨_,HY.out,rfl⟩,(zd1 X.out (Nat.le_refl _) ..).drew⟩
end Go.Proofs.YticdggnnpjachaaGreat
