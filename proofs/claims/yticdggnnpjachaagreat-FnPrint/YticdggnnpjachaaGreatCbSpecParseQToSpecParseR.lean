/-
  What spec's l4Item answers outside of a script: the walks.
  What spec.Parse answers: the walk.
-/
import Derived.Test.YticdggnnpjachaaGreatCbSpecParseMToSpecParseP
namespace Go.Proofs.YticdggnnpjachaaGreat
set_option maxRecDepth 100000
set_option maxHeartbeats 6400000
open Go.RowKit Go.PlainAid
theorem znQ (o:List Tk) (j:Nat) (H A n:Nat) (S:Sv) (q:PS) (w:World) (N:Mem (Cx.mk o j false) H A n S q w) (Y:isT (Cx.mk o j false) q.pos 1 zah=true):
  Calls Tryz.prog 21 #[pv (Cx.mk o j false) H A S q (-1) 0] w (Out (Cx.mk o j false) H A n (zy (Cx.mk o j false) q) 0 S w):=by
 have HM:=zc N
 have D:=N.tok
 have L:(Cx.mk o j false).ts.length≤4000:=N.few
 clear N
 have HV:Hid (zy (Cx.mk o j false) q=zaQ (Cx.mk o j false) q):=by show zy (Cx.mk o j false) q=_;rw[zy,Y];rfl
 unfold pv
 go_enter Tryz.func21,Tryz.ntmps21
 go_wp2_with fail
 refine (zh (Cx.mk o j false) H A n S q (-1) 0 1 zah _ (zq (zq D _) _) L (by decide)).mono ?_
 rintro e w1 ⟨rfl,J⟩
 rw[Y]
 obtain⟨X0,X1,m1,t1⟩:=HM.out.two J
 have E:=zc X0
 have z:=zc X1
 have K:=zc m1
 have I:=zc t1
 clear X0 X1 m1 t1 J
 clear D
 obtain⟨a0,a1,a2,a3,a4,a5,a6,a7,a8,a9,O,V,af⟩:=E.out.box
 go_wp2_with fail
 refine (znH (Cx.mk o j false) H A n S q _ K.out Y).mono ?_
 rintro e w2 ⟨S2,q2,z2,rfl,Z,m2,M⟩
 replace E:=zc (E.out.stp M)
 replace z:=zc (z.out.stp M)
 have Q:=zc (I.out.step M)
 clear I
 have U:=zc m2
 have X:=zc Z
 clear Z m2 M K
 clear a0 a1 a2 a3 a4 a5 a6 a7 a8 a9 O V af
 obtain⟨b0,b1,b2,b3,b4,b5,b6,b7,b8,b9,aa,ab,bf⟩:=z.out.box
 unfold pv
 go_wp2
 refine bodyPost_ret (results_cell_row rfl _ _ (w.heap.size+1) 53 _ (0,0) _ rfl ((z.out.put ..)).heap Tryz.underlying53 rfl (by kernel_rfl)) rfl ?_
 rw[HV.out]
 exact zY rfl X.out (U.out.put z.out ..) (Q.out.put (by omega) ..)
theorem znR (z:List Tk) (j:Nat) (M D n:Nat) (S:Sv) (q:PS) (w:World) (V:Mem (Cx.mk z j false) M D n S q w) (h0:isT (Cx.mk z j false) q.pos 1 zah=false) (h1:isT (Cx.mk z j false) q.pos 1 zaf=true):
  Calls Tryz.prog 21 #[pv (Cx.mk z j false) M D S q (-1) 0] w (Out (Cx.mk z j false) M D n (zy (Cx.mk z j false) q) 0 S w):=by
 have HM:=zc V
 have H:=V.tok
 have I:(Cx.mk z j false).ts.length≤4000:=V.few
 clear V
 have HV:Hid (zy (Cx.mk z j false) q=zag (Cx.mk z j false) q):=by show zy (Cx.mk z j false) q=_;rw[zy,h0,h1];rfl
 unfold pv
 go_enter Tryz.func21,Tryz.ntmps21
 go_wp2_with fail
 refine (zh (Cx.mk z j false) M D n S q (-1) 0 1 zah _ (zq (zq H _) _) I (by decide)).mono ?_
 rintro e w1 ⟨rfl,U⟩
 rw[h0]
 obtain⟨X0,X1,m1,t1⟩:=HM.out.two U
 have A:=zc X0
 have o:=zc X1
 have L:=zc m1
 have Q:=zc t1
 clear X0 X1 m1 t1 U
 clear H
 obtain⟨a0,a1,Y,a3,a4,a5,a6,a7,a8,a9,J,K,af⟩:=A.out.box
 go_wp2_with fail
 refine (zh (Cx.mk z j false) M D n S q (-1) 0 1 zaf _ L.out.tok I (by decide)).mono ?_
 rintro e w2 ⟨rfl,E⟩
 rw[h1]
 replace A:=zc (A.out.below E)
 replace o:=zc (o.out.below E)
 have N:=zc (Q.out.below E)
 have O:=zc (L.out.later E)
 clear E Q L
 clear a0 a1 Y a3 a4 a5 a6 a7 a8 a9 J K af
 obtain⟨a0,a1,Y,a3,a4,a5,a6,a7,a8,a9,J,K,af⟩:=A.out.box
 go_wp2_with fail
 refine (znI (Cx.mk z j false) M D n S q _ O.out h1).mono ?_
 rintro e w3 ⟨S3,q3,z3,rfl,i3,m3,X⟩
 replace A:=zc (A.out.stp X)
 replace o:=zc (o.out.stp X)
 have Z:=zc (N.out.step X)
 clear N
 have ab:=zc m3
 have aa:=zc i3
 clear i3 m3 X O
 clear a0 a1 Y a3 a4 a5 a6 a7 a8 a9 J K af
 obtain⟨b0,b1,b2,b3,b4,b5,b6,b7,b8,b9,ac,ad,bf⟩:=o.out.box
 unfold pv
 go_wp2
 refine bodyPost_ret (results_cell_row rfl _ _ (w.heap.size+1) 53 _ (0,0) _ rfl ((o.out.put ..)).heap Tryz.underlying53 rfl (by kernel_rfl)) rfl ?_
 rw[HV.out]
 exact zY rfl aa.out (ab.out.put o.out ..) (Z.out.put (by omega) ..)
theorem znS (D:List Tk) (j:Nat) (J A z:Nat) (S:Sv) (q:PS) (w:World) (hm:Mem (Cx.mk D j false) J A z S q w) (h0:isT (Cx.mk D j false) q.pos 1 zah=false) (h1:isT (Cx.mk D j false) q.pos 1 zaf=false) (h2:isT (Cx.mk D j false) q.pos 1 zC=true):
  Calls Tryz.prog 21 #[pv (Cx.mk D j false) J A S q (-1) 0] w (Out (Cx.mk D j false) J A z (zy (Cx.mk D j false) q) 0 S w):=by
 have HM:=zc hm
 have M:=hm.tok
 have K:(Cx.mk D j false).ts.length≤4000:=hm.few
 clear hm
 have HV:Hid (zy (Cx.mk D j false) q=zaK (zcj (Cx.mk D j false) q)):=by show zy (Cx.mk D j false) q=_;rw[zy,h0,h1,h2];rfl
 unfold pv
 go_enter Tryz.func21,Tryz.ntmps21
 go_wp2_with fail
 refine (zh (Cx.mk D j false) J A z S q (-1) 0 1 zah _ (zq (zq M _) _) K (by decide)).mono ?_
 rintro e w1 ⟨rfl,ab⟩
 rw[h0]
 obtain⟨X0,X1,m1,t1⟩:=HM.out.two ab
 have o:=zc X0
 have n:=zc X1
 have Q:=zc m1
 have aa:=zc t1
 clear X0 X1 m1 t1 ab
 clear M
 obtain⟨a0,a1,a2,a3,V,a5,a6,a7,U,a9,I,H,Y⟩:=o.out.box
 go_wp2_with fail
 refine (zh (Cx.mk D j false) J A z S q (-1) 0 1 zaf _ Q.out.tok K (by decide)).mono ?_
 rintro e w2 ⟨rfl,L⟩
 rw[h1]
 replace o:=zc (o.out.below L)
 replace n:=zc (n.out.below L)
 have ac:=zc (aa.out.below L)
 have O:=zc (Q.out.later L)
 clear L aa Q
 clear a0 a1 a2 a3 V a5 a6 a7 U a9 I H Y
 obtain⟨a0,a1,a2,a3,V,a5,a6,a7,U,a9,I,H,Y⟩:=o.out.box
 go_wp2_with fail
 refine (zh (Cx.mk D j false) J A z S q (-1) 0 1 zC _ O.out.tok K (by decide)).mono ?_
 rintro e w3 ⟨rfl,E⟩
 rw[h2]
 replace o:=zc (o.out.below E)
 replace n:=zc (n.out.below E)
 have Z:=zc (ac.out.below E)
 have X:=zc (O.out.later E)
 clear E ac O
 clear a0 a1 a2 a3 V a5 a6 a7 U a9 I H Y
 obtain⟨a0,a1,a2,a3,V,a5,a6,a7,U,a9,I,H,Y⟩:=o.out.box
 go_wp2_with fail
 refine (zgG (Cx.mk D j false) J A z S q _ X.out).mono ?_
 rintro e w4 ⟨S4,q4,z4,n4,rfl,i4,m4,s4⟩
 replace o:=zc (o.out.stp s4)
 replace n:=zc (n.out.stp s4)
 have ad:=zc (Z.out.step s4)
 clear Z
 have N:=zc m4
 have ae:=zc i4
 clear i4 m4 s4 X
 clear a0 a1 a2 a3 V a5 a6 a7 U a9 I H Y
 have aj:w.heap.size+1<w4.heap.size:=n.out.lt
 unfold pv
 go_upto_region 7 with fail
 refine zL (R:=fun W=>Bx J S4 W (w.heap.size) _∧Bx J S4 W (w.heap.size+1) _∧Bx J S4 W (w4.heap.size) _∧Mem (Cx.mk D j false) J A z S4 q4 W∧SB w.heap.size S w S4 W) ⟨(o.out.alloc _),(n.out.alloc _),(Bx.new N.out _),(N.out.alloc _),(ad.out.alloc _)⟩ ?_
 clear o n ad N
 rintro w5 ⟨X0,X1,X2,m5,t5⟩
 have o:=zc X0
 have n:=zc X1
 have ah:=zc X2
 have ai:=zc m5
 have ag:=zc t5
 clear m5 t5 X0 X1 X2
 obtain⟨b0,b1,b2,b3,b4,b5,b6,b7,b8,b9,am,ak,bf⟩:=n.out.box
 obtain⟨c0,c1,c2,c3,c4,c5,c6,c7,c8,c9,al,an,cf⟩:=ah.out.box
 go_wp2
 refine bodyPost_ret (results_cell_row rfl _ _ (w.heap.size+1) 53 _ (0,0) _ rfl ((n.out.put ..)).heap Tryz.underlying53 rfl (by kernel_rfl)) rfl ?_
 rw[HV.out]
 exact zY rfl ae.out.fst (ai.out.put n.out ..) (ag.out.put (by omega) ..)
theorem znT (D:List Tk) (j:Nat) (J A z:Nat) (S:Sv) (q:PS) (w:World) (hm:Mem (Cx.mk D j false) J A z S q w) (h0:isT (Cx.mk D j false) q.pos 1 zah=false) (h1:isT (Cx.mk D j false) q.pos 1 zaf=false) (h2:isT (Cx.mk D j false) q.pos 1 zC=false) (h3:isT (Cx.mk D j false) q.pos 1 zT=true):
  Calls Tryz.prog 21 #[pv (Cx.mk D j false) J A S q (-1) 0] w (Out (Cx.mk D j false) J A z (zy (Cx.mk D j false) q) 0 S w):=by
 have HM:=zc hm
 have N:=hm.tok
 have I:(Cx.mk D j false).ts.length≤4000:=hm.few
 clear hm
 have HV:Hid (zy (Cx.mk D j false) q=zaK (fnP (Cx.mk D j false) q)):=by show zy (Cx.mk D j false) q=_;rw[zy,h0,h1,h2,h3];rfl
 unfold pv
 go_enter Tryz.func21,Tryz.ntmps21
 go_wp2_with fail
 refine (zh (Cx.mk D j false) J A z S q (-1) 0 1 zah _ (zq (zq N _) _) I (by decide)).mono ?_
 rintro e w1 ⟨rfl,ag⟩
 rw[h0]
 obtain⟨X0,X1,m1,t1⟩:=HM.out.two ag
 have n:=zc X0
 have o:=zc X1
 have Z:=zc m1
 have ae:=zc t1
 clear X0 X1 m1 t1 ag
 clear N
 obtain⟨a0,a1,a2,a3,Q,a5,Y,a7,O,a9,H,E,V⟩:=n.out.box
 go_wp2_with fail
 refine (zh (Cx.mk D j false) J A z S q (-1) 0 1 zaf _ Z.out.tok I (by decide)).mono ?_
 rintro e w2 ⟨rfl,M⟩
 rw[h1]
 replace n:=zc (n.out.below M)
 replace o:=zc (o.out.below M)
 have ah:=zc (ae.out.below M)
 have X:=zc (Z.out.later M)
 clear M ae Z
 clear a0 a1 a2 a3 Q a5 Y a7 O a9 H E V
 obtain⟨a0,a1,a2,a3,Q,a5,Y,a7,O,a9,H,E,V⟩:=n.out.box
 go_wp2_with fail
 refine (zh (Cx.mk D j false) J A z S q (-1) 0 1 zC _ X.out.tok I (by decide)).mono ?_
 rintro e w3 ⟨rfl,K⟩
 rw[h2]
 replace n:=zc (n.out.below K)
 replace o:=zc (o.out.below K)
 have ad:=zc (ah.out.below K)
 have U:=zc (X.out.later K)
 clear K ah X
 clear a0 a1 a2 a3 Q a5 Y a7 O a9 H E V
 obtain⟨a0,a1,a2,a3,Q,a5,Y,a7,O,a9,H,E,V⟩:=n.out.box
 go_wp2_with fail
 refine (zh (Cx.mk D j false) J A z S q (-1) 0 1 zT _ U.out.tok I (by decide)).mono ?_
 rintro e w4 ⟨rfl,L⟩
 rw[h3]
 replace n:=zc (n.out.below L)
 replace o:=zc (o.out.below L)
 have ai:=zc (ad.out.below L)
 have ab:=zc (U.out.later L)
 clear L ad U
 clear a0 a1 a2 a3 Q a5 Y a7 O a9 H E V
 obtain⟨a0,a1,a2,a3,Q,a5,Y,a7,O,a9,H,E,V⟩:=n.out.box
 go_wp2_with fail
 refine (zgH (Cx.mk D j false) J A z S q _ ab.out).mono ?_
 rintro e w5 ⟨S5,q5,z5,n5,rfl,i5,m5,s5⟩
 replace n:=zc (n.out.stp s5)
 replace o:=zc (o.out.stp s5)
 have ac:=zc (ai.out.step s5)
 clear ai
 have aa:=zc m5
 have am:=zc i5
 clear i5 m5 s5 ab
 clear a0 a1 a2 a3 Q a5 Y a7 O a9 H E V
 have an:w.heap.size+1<w5.heap.size:=o.out.lt
 unfold pv
 go_upto_region 10 with fail
 refine zL (R:=fun W=>Bx J S5 W (w.heap.size) _∧Bx J S5 W (w.heap.size+1) _∧Bx J S5 W (w5.heap.size) _∧Mem (Cx.mk D j false) J A z S5 q5 W∧SB w.heap.size S w S5 W) ⟨(n.out.alloc _),(o.out.alloc _),(Bx.new aa.out _),(aa.out.alloc _),(ac.out.alloc _)⟩ ?_
 clear n o ac aa
 rintro w6 ⟨X0,X1,X2,m6,t6⟩
 have n:=zc X0
 have o:=zc X1
 have ak:=zc X2
 have al:=zc m6
 have aj:=zc t6
 clear m6 t6 X0 X1 X2
 obtain⟨b0,b1,b2,b3,b4,b5,b6,b7,b8,b9,aq,ao,bf⟩:=o.out.box
 obtain⟨c0,c1,c2,c3,c4,c5,c6,c7,c8,c9,ap,ar,cf⟩:=ak.out.box
 go_wp2
 refine bodyPost_ret (results_cell_row rfl _ _ (w.heap.size+1) 53 _ (0,0) _ rfl ((o.out.put ..)).heap Tryz.underlying53 rfl (by kernel_rfl)) rfl ?_
 rw[HV.out]
 exact zY rfl am.out.fst (al.out.put o.out ..) (aj.out.put (by omega) ..)
theorem znU (D:List Tk) (j:Nat) (I A z:Nat) (S:Sv) (q:PS) (w:World) (hm:Mem (Cx.mk D j false) I A z S q w) (h0:isT (Cx.mk D j false) q.pos 1 zah=false) (h1:isT (Cx.mk D j false) q.pos 1 zaf=false) (h2:isT (Cx.mk D j false) q.pos 1 zC=false) (h3:isT (Cx.mk D j false) q.pos 1 zT=false) (h4:isT (Cx.mk D j false) q.pos 1 zar=true):
  Calls Tryz.prog 21 #[pv (Cx.mk D j false) I A S q (-1) 0] w (Out (Cx.mk D j false) I A z (zy (Cx.mk D j false) q) 0 S w):=by
 have HM:=zc hm
 have aa:=hm.tok
 have J:(Cx.mk D j false).ts.length≤4000:=hm.few
 clear hm
 have HV:Hid (zy (Cx.mk D j false) q=bd (bd (bd (bd (bd (bd (.ok q) (zd (Cx.mk D j false) 1 zar)) (zd (Cx.mk D j false) 4 zn)) (pE (Cx.mk D j false) .sum 0)) (zd (Cx.mk D j false) 4 za0)) (zd (Cx.mk D j false) 4 cSemi)) (zV (Cx.mk D j false) 4 sNone)):=by show zy (Cx.mk D j false) q=_;rw[zy,h0,h1,h2,h3,h4];rfl
 unfold pv
 go_enter Tryz.func21,Tryz.ntmps21
 go_wp2_with fail
 refine (zh (Cx.mk D j false) I A z S q (-1) 0 1 zah _ (zq (zq aa _) _) J (by decide)).mono ?_
 rintro e w1 ⟨rfl,ay⟩
 rw[h0]
 obtain⟨X0,X1,m1,t1⟩:=HM.out.two ay
 have n:=zc X0
 have o:=zc X1
 have al:=zc m1
 have ax:=zc t1
 clear X0 X1 m1 t1 ay
 clear aa
 obtain⟨a0,a1,a2,a3,X,a5,Z,a7,V,a9,H,E,Y⟩:=n.out.box
 go_wp2_with fail
 refine (zh (Cx.mk D j false) I A z S q (-1) 0 1 zaf _ al.out.tok J (by decide)).mono ?_
 rintro e w2 ⟨rfl,U⟩
 rw[h1]
 replace n:=zc (n.out.below U)
 replace o:=zc (o.out.below U)
 have aC:=zc (ax.out.below U)
 have ak:=zc (al.out.later U)
 clear U ax al
 clear a0 a1 a2 a3 X a5 Z a7 V a9 H E Y
 obtain⟨a0,a1,a2,a3,X,a5,Z,a7,V,a9,H,E,Y⟩:=n.out.box
 go_wp2_with fail
 refine (zh (Cx.mk D j false) I A z S q (-1) 0 1 zC _ ak.out.tok J (by decide)).mono ?_
 rintro e w3 ⟨rfl,K⟩
 rw[h2]
 replace n:=zc (n.out.below K)
 replace o:=zc (o.out.below K)
 have av:=zc (aC.out.below K)
 have ai:=zc (ak.out.later K)
 clear K aC ak
 clear a0 a1 a2 a3 X a5 Z a7 V a9 H E Y
 obtain⟨a0,a1,a2,a3,X,a5,Z,a7,V,a9,H,E,Y⟩:=n.out.box
 go_wp2_with fail
 refine (zh (Cx.mk D j false) I A z S q (-1) 0 1 zT _ ai.out.tok J (by decide)).mono ?_
 rintro e w4 ⟨rfl,N⟩
 rw[h3]
 replace n:=zc (n.out.below N)
 replace o:=zc (o.out.below N)
 have aF:=zc (av.out.below N)
 have ah:=zc (ai.out.later N)
 clear N av ai
 clear a0 a1 a2 a3 X a5 Z a7 V a9 H E Y
 obtain⟨a0,a1,a2,a3,X,a5,Z,a7,V,a9,H,E,Y⟩:=n.out.box
 go_wp2_with fail
 refine (zh (Cx.mk D j false) I A z S q (-1) 0 1 zar _ ah.out.tok J (by decide)).mono ?_
 rintro e w5 ⟨rfl,M⟩
 rw[h4]
 replace n:=zc (n.out.below M)
 replace o:=zc (o.out.below M)
 have ar:=zc (aF.out.below M)
 have aK:=zc (ah.out.later M)
 clear M aF ah
 clear a0 a1 a2 a3 X a5 Z a7 V a9 H E Y
 obtain⟨a0,a1,a2,a3,X,a5,Z,a7,V,a9,H,E,Y⟩:=n.out.box
 go_wp2_with fail
 refine (zaH (Cx.mk D j false) I A z (.ok q) S q (-1) 0 zar _ (zX q) aK.out).mono ?_
 rintro e w6 ⟨S6,q6,z6,rfl,i6,m6,s6⟩
 replace n:=zc (n.out.stp s6)
 replace o:=zc (o.out.stp s6)
 have aB:=zc (ar.out.step s6)
 clear ar
 have aG:=zc m6
 have aT:=zc i6
 clear i6 m6 s6 aK
 clear a0 a1 a2 a3 X a5 Z a7 V a9 H E Y
 go_wp2_with fail
 refine (zad (Cx.mk D j false) I A z _ S6 q6 z6 0 zn _ aT.out aG.out).mono ?_
 rintro e w7 ⟨S7,q7,z7,rfl,i7,m7,s7⟩
 replace n:=zc (n.out.stp s7)
 replace o:=zc (o.out.stp s7)
 have aI:=zc (aB.out.step s7)
 clear aB
 have aA:=zc m7
 have aS:=zc i7
 clear i7 m7 s7 aG
 go_wp2_with fail
 refine (zcN (Cx.mk D j false) I A z _ S7 q7 z7 _ aS.out aA.out).mono ?_
 rintro e w8 ⟨S8,q8,z8,rfl,i8,m8,s8⟩
 replace n:=zc (n.out.stp s8)
 replace o:=zc (o.out.stp s8)
 have am:=zc (aI.out.step s8)
 clear aI
 have aw:=zc m8
 have aR:=zc i8
 clear i8 m8 s8 aA
 go_wp2_with fail
 refine (zad (Cx.mk D j false) I A z _ S8 q8 z8 0 za0 _ aR.out aw.out).mono ?_
 rintro e w9 ⟨S9,q9,z9,rfl,i9,m9,s9⟩
 replace n:=zc (n.out.stp s9)
 replace o:=zc (o.out.stp s9)
 have aD:=zc (am.out.step s9)
 clear am
 have aj:=zc m9
 have aN:=zc i9
 clear i9 m9 s9 aw
 have aU:w.heap.size+1<w9.heap.size:=o.out.lt
 unfold pv
 go_upto_region 13 with fail
 refine zL (R:=fun W=>Bx I S9 W (w.heap.size) _∧Bx I S9 W (w.heap.size+1) _∧Bx I S9 W (w9.heap.size) _∧Mem (Cx.mk D j false) I A z S9 q9 W∧SB w.heap.size S w S9 W) ⟨(n.out.alloc _),(o.out.alloc _),(Bx.new aj.out _),(aj.out.alloc _),(aD.out.alloc _)⟩ ?_
 clear n o aD aj
 rintro ba ⟨X0,X1,X2,aq,aH⟩
 have n:=zc X0
 have o:=zc X1
 have O:=zc X2
 have ae:=zc aq
 have ad:=zc aH
 clear aq aH X0 X1 X2
 obtain⟨c0,c1,c2,c3,c4,c5,c6,c7,c8,c9,aM,aO,cf⟩:=O.out.box
 go_wp2_with fail
 refine (zad (Cx.mk D j false) I A z _ S9 q9 z9 0 cSemi _ aN.out ae.out).mono ?_
 rintro e aY ⟨aP,aQ,aL,rfl,aE,au,L⟩
 replace n:=zc (n.out.stp L)
 replace o:=zc (o.out.stp L)
 replace O:=zc (O.out.stp L)
 have ag:=zc (ad.out.step L)
 clear ad
 have ac:=zc au
 have ab:=zc aE
 clear aE au L ae
 clear c0 c1 c2 c3 c4 c5 c6 c7 c8 c9 aM aO cf
 go_wp2_with fail
 refine (zcK (Cx.mk D j false) I A z _ aP aQ aL 0 4 sNone _ ab.out ac.out (zbh ab.out)).mono ?_
 rintro e aZ ⟨bb,bc,aW,rfl,an,az,Q⟩
 replace n:=zc (n.out.stp Q)
 replace o:=zc (o.out.stp Q)
 replace O:=zc (O.out.stp Q)
 have ao:=zc (ag.out.step Q)
 clear ag
 have ap:=zc az
 have aJ:=zc an
 clear an az Q ac
 obtain⟨b0,b1,b2,b3,b4,b5,b6,b7,b8,b9,aX,aV,bf⟩:=o.out.box
 unfold pv
 go_wp2
 refine bodyPost_ret (results_cell_row rfl _ _ (w.heap.size+1) 53 _ (0,0) _ rfl ((o.out.put ..)).heap Tryz.underlying53 rfl (by kernel_rfl)) rfl ?_
 rw[HV.out]
 exact zY rfl aJ.out (ap.out.put o.out ..) (ao.out.put (by omega) ..)
theorem znV (A:List Tk) (j:Nat) (J D z:Nat) (S:Sv) (q:PS) (w:World) (hm:Mem (Cx.mk A j false) J D z S q w) (h0:isT (Cx.mk A j false) q.pos 1 zah=false) (h1:isT (Cx.mk A j false) q.pos 1 zaf=false) (h2:isT (Cx.mk A j false) q.pos 1 zC=false) (h3:isT (Cx.mk A j false) q.pos 1 zT=false) (h4:isT (Cx.mk A j false) q.pos 1 zar=false) (h5:isT (Cx.mk A j false) q.pos 1 za3=true):
  Calls Tryz.prog 21 #[pv (Cx.mk A j false) J D S q (-1) 0] w (Out (Cx.mk A j false) J D z (zy (Cx.mk A j false) q) 0 S w):=by
 have HM:=zc hm
 have ac:=hm.tok
 have I:(Cx.mk A j false).ts.length≤4000:=hm.few
 clear hm
 have HV:Hid (zy (Cx.mk A j false) q=bd (bd (bd (bd (.ok q) (zd (Cx.mk A j false) 1 za3)) (pE (Cx.mk A j false) .sum 0)) (zd (Cx.mk A j false) 4 cSemi)) (zV (Cx.mk A j false) 5 sNone)):=by show zy (Cx.mk A j false) q=_;rw[zy,h0,h1,h2,h3,h4,h5];rfl
 unfold pv
 go_enter Tryz.func21,Tryz.ntmps21
 go_wp2_with fail
 refine (zh (Cx.mk A j false) J D z S q (-1) 0 1 zah _ (zq (zq ac _) _) I (by decide)).mono ?_
 rintro e w1 ⟨rfl,au⟩
 rw[h0]
 obtain⟨X0,X1,m1,t1⟩:=HM.out.two au
 have n:=zc X0
 have o:=zc X1
 have ah:=zc m1
 have ar:=zc t1
 clear X0 X1 m1 t1 au
 clear ac
 obtain⟨V,X,a2,a3,N,a5,U,Z,K,a9,H,E,O⟩:=n.out.box
 go_wp2_with fail
 refine (zh (Cx.mk A j false) J D z S q (-1) 0 1 zaf _ ah.out.tok I (by decide)).mono ?_
 rintro e w2 ⟨rfl,aa⟩
 rw[h1]
 replace n:=zc (n.out.below aa)
 replace o:=zc (o.out.below aa)
 have ay:=zc (ar.out.below aa)
 have ag:=zc (ah.out.later aa)
 clear aa ar ah
 clear V X a2 a3 N a5 U Z K a9 H E O
 obtain⟨V,X,a2,a3,N,a5,U,Z,K,a9,H,E,O⟩:=n.out.box
 go_wp2_with fail
 refine (zh (Cx.mk A j false) J D z S q (-1) 0 1 zC _ ag.out.tok I (by decide)).mono ?_
 rintro e w3 ⟨rfl,L⟩
 rw[h2]
 replace n:=zc (n.out.below L)
 replace o:=zc (o.out.below L)
 have an:=zc (ay.out.below L)
 have ae:=zc (ag.out.later L)
 clear L ay ag
 clear V X a2 a3 N a5 U Z K a9 H E O
 obtain⟨V,X,a2,a3,N,a5,U,Z,K,a9,H,E,O⟩:=n.out.box
 go_wp2_with fail
 refine (zh (Cx.mk A j false) J D z S q (-1) 0 1 zT _ ae.out.tok I (by decide)).mono ?_
 rintro e w4 ⟨rfl,Q⟩
 rw[h3]
 replace n:=zc (n.out.below Q)
 replace o:=zc (o.out.below Q)
 have aB:=zc (an.out.below Q)
 have ad:=zc (ae.out.later Q)
 clear Q an ae
 clear V X a2 a3 N a5 U Z K a9 H E O
 obtain⟨V,X,a2,a3,N,a5,U,Z,K,a9,H,E,O⟩:=n.out.box
 go_wp2_with fail
 refine (zh (Cx.mk A j false) J D z S q (-1) 0 1 zar _ ad.out.tok I (by decide)).mono ?_
 rintro e w5 ⟨rfl,M⟩
 rw[h4]
 replace n:=zc (n.out.below M)
 replace o:=zc (o.out.below M)
 have al:=zc (aB.out.below M)
 have ai:=zc (ad.out.later M)
 clear M aB ad
 clear V X a2 a3 N a5 U Z K a9 H E O
 obtain⟨V,X,a2,a3,N,a5,U,Z,K,a9,H,E,O⟩:=n.out.box
 go_wp2_with fail
 refine (zh (Cx.mk A j false) J D z S q (-1) 0 1 za3 _ ai.out.tok I (by decide)).mono ?_
 rintro e w6 ⟨rfl,Y⟩
 rw[h5]
 replace n:=zc (n.out.below Y)
 replace o:=zc (o.out.below Y)
 have ax:=zc (al.out.below Y)
 have aC:=zc (ai.out.later Y)
 clear Y al ai
 clear V X a2 a3 N a5 U Z K a9 H E O
 obtain⟨V,X,a2,a3,N,a5,U,Z,K,a9,H,E,O⟩:=n.out.box
 go_wp2_with fail
 refine (zaH (Cx.mk A j false) J D z (.ok q) S q (-1) 0 za3 _ (zX q) aC.out).mono ?_
 rintro e w7 ⟨S7,q7,z7,rfl,i7,m7,s7⟩
 replace n:=zc (n.out.stp s7)
 replace o:=zc (o.out.stp s7)
 have aD:=zc (ax.out.step s7)
 clear ax
 have aw:=zc m7
 have aG:=zc i7
 clear i7 m7 s7 aC
 clear V X a2 a3 N a5 U Z K a9 H E O
 go_wp2_with fail
 refine (zcN (Cx.mk A j false) J D z _ S7 q7 z7 _ aG.out aw.out).mono ?_
 rintro e w8 ⟨S8,q8,z8,rfl,i8,m8,s8⟩
 replace n:=zc (n.out.stp s8)
 replace o:=zc (o.out.stp s8)
 have aj:=zc (aD.out.step s8)
 clear aD
 have ao:=zc m8
 have aF:=zc i8
 clear i8 m8 s8 aw
 go_wp2_with fail
 refine (zad (Cx.mk A j false) J D z _ S8 q8 z8 0 cSemi _ aF.out ao.out).mono ?_
 rintro e w9 ⟨S9,q9,z9,rfl,i9,m9,s9⟩
 replace n:=zc (n.out.stp s9)
 replace o:=zc (o.out.stp s9)
 have az:=zc (aj.out.step s9)
 clear aj
 have ap:=zc m9
 have aq:=zc i9
 clear i9 m9 s9 ao
 go_wp2_with fail
 refine (zcK (Cx.mk A j false) J D z _ S9 q9 z9 0 5 sNone _ aq.out ap.out (zbh aq.out)).mono ?_
 rintro e aL ⟨aM,aK,aI,rfl,am,ak,ab⟩
 replace n:=zc (n.out.stp ab)
 replace o:=zc (o.out.stp ab)
 have av:=zc (az.out.step ab)
 clear az
 have aA:=zc ak
 have aE:=zc am
 clear am ak ab ap
 obtain⟨b0,b1,b2,b3,b4,b5,b6,b7,b8,b9,aJ,aH,bf⟩:=o.out.box
 unfold pv
 go_wp2
 refine bodyPost_ret (results_cell_row rfl _ _ (w.heap.size+1) 53 _ (0,0) _ rfl ((o.out.put ..)).heap Tryz.underlying53 rfl (by kernel_rfl)) rfl ?_
 rw[HV.out]
 exact zY rfl aE.out (aA.out.put o.out ..) (av.out.put (by omega) ..)
theorem znW (D:List Tk) (j:Nat) (L E A:Nat) (S:Sv) (q:PS) (w:World) (hm:Mem (Cx.mk D j false) L E A S q w) (h0:isT (Cx.mk D j false) q.pos 1 zah=false) (h1:isT (Cx.mk D j false) q.pos 1 zaf=false) (h2:isT (Cx.mk D j false) q.pos 1 zC=false) (h3:isT (Cx.mk D j false) q.pos 1 zT=false) (h4:isT (Cx.mk D j false) q.pos 1 zar=false) (h5:isT (Cx.mk D j false) q.pos 1 za3=false):
  Calls Tryz.prog 21 #[pv (Cx.mk D j false) L E S q (-1) 0] w (Out (Cx.mk D j false) L E A (zy (Cx.mk D j false) q) 0 S w):=by
 have HM:=zc hm
 have ad:=hm.tok
 have J:(Cx.mk D j false).ts.length≤4000:=hm.few
 clear hm
 have HV:Hid (zy (Cx.mk D j false) q=bd (bd (.ok q) (zj (Cx.mk D j false) false)) fun a=>bd (bd (bd (bd (.ok a.1) (zd (Cx.mk D j false) 4 cEq)) (pE (Cx.mk D j false) .sum 0)) (zd (Cx.mk D j false) 4 cSemi)) (zV (Cx.mk D j false) 3 a.2)):=by show zy (Cx.mk D j false) q=_;rw[zy,h0,h1,h2,h3,h4,h5];rfl
 unfold pv
 go_enter Tryz.func21,Tryz.ntmps21
 go_wp2_with fail
 refine (zh (Cx.mk D j false) L E A S q (-1) 0 1 zah _ (zq (zq ad _) _) J (by decide)).mono ?_
 rintro e w1 ⟨rfl,aE⟩
 rw[h0]
 obtain⟨X0,X1,m1,t1⟩:=HM.out.two aE
 have o:=zc X0
 have z:=zc X1
 have an:=zc m1
 have aD:=zc t1
 clear X0 X1 m1 t1 aE
 clear ad
 obtain⟨a0,a1,a2,a3,U,a5,Z,a7,M,a9,I,H,V⟩:=o.out.box
 go_wp2_with fail
 refine (zh (Cx.mk D j false) L E A S q (-1) 0 1 zaf _ an.out.tok J (by decide)).mono ?_
 rintro e w2 ⟨rfl,ac⟩
 rw[h1]
 replace o:=zc (o.out.below ac)
 replace z:=zc (z.out.below ac)
 have aH:=zc (aD.out.below ac)
 have am:=zc (an.out.later ac)
 clear ac aD an
 clear a0 a1 a2 a3 U a5 Z a7 M a9 I H V
 obtain⟨a0,a1,a2,a3,U,a5,Z,a7,M,a9,I,H,V⟩:=o.out.box
 go_wp2_with fail
 refine (zh (Cx.mk D j false) L E A S q (-1) 0 1 zC _ am.out.tok J (by decide)).mono ?_
 rintro e w3 ⟨rfl,N⟩
 rw[h2]
 replace o:=zc (o.out.below N)
 replace z:=zc (z.out.below N)
 have aA:=zc (aH.out.below N)
 have al:=zc (am.out.later N)
 clear N aH am
 clear a0 a1 a2 a3 U a5 Z a7 M a9 I H V
 obtain⟨a0,a1,a2,a3,U,a5,Z,a7,M,a9,I,H,V⟩:=o.out.box
 go_wp2_with fail
 refine (zh (Cx.mk D j false) L E A S q (-1) 0 1 zT _ al.out.tok J (by decide)).mono ?_
 rintro e w4 ⟨rfl,Y⟩
 rw[h3]
 replace o:=zc (o.out.below Y)
 replace z:=zc (z.out.below Y)
 have aL:=zc (aA.out.below Y)
 have ak:=zc (al.out.later Y)
 clear Y aA al
 clear a0 a1 a2 a3 U a5 Z a7 M a9 I H V
 obtain⟨a0,a1,a2,a3,U,a5,Z,a7,M,a9,I,H,V⟩:=o.out.box
 go_wp2_with fail
 refine (zh (Cx.mk D j false) L E A S q (-1) 0 1 zar _ ak.out.tok J (by decide)).mono ?_
 rintro e w5 ⟨rfl,Q⟩
 rw[h4]
 replace o:=zc (o.out.below Q)
 replace z:=zc (z.out.below Q)
 have ax:=zc (aL.out.below Q)
 have ap:=zc (ak.out.later Q)
 clear Q aL ak
 clear a0 a1 a2 a3 U a5 Z a7 M a9 I H V
 obtain⟨a0,a1,a2,a3,U,a5,Z,a7,M,a9,I,H,V⟩:=o.out.box
 go_wp2_with fail
 refine (zh (Cx.mk D j false) L E A S q (-1) 0 1 za3 _ ap.out.tok J (by decide)).mono ?_
 rintro e w6 ⟨rfl,aa⟩
 rw[h5]
 replace o:=zc (o.out.below aa)
 replace z:=zc (z.out.below aa)
 have aG:=zc (ax.out.below aa)
 have aM:=zc (ap.out.later aa)
 clear aa ax ap
 clear a0 a1 a2 a3 U a5 Z a7 M a9 I H V
 obtain⟨a0,a1,a2,a3,U,a5,Z,a7,M,a9,I,H,V⟩:=o.out.box
 go_wp2_with fail
 refine (zbe (Cx.mk D j false) L E A (.ok q) S q (-1) 0 false _ (zX q) aM.out).mono ?_
 rintro e w7 ⟨S7,q7,z7,n7,rfl,i7,m7,s7⟩
 replace o:=zc (o.out.stp s7)
 replace z:=zc (z.out.stp s7)
 have aN:=zc (aG.out.step s7)
 clear aG
 have ao:=zc m7
 have aK:=zc i7
 clear i7 m7 s7 aM
 clear a0 a1 a2 a3 U a5 Z a7 M a9 I H V
 have aZ:w.heap.size+1<w7.heap.size:=z.out.lt
 unfold pv
 go_upto_region 19 with fail
 refine zL (R:=fun W=>Bx L S7 W (w.heap.size) _∧Bx L S7 W (w.heap.size+1) _∧Bx L S7 W (w7.heap.size) _∧Mem (Cx.mk D j false) L E A S7 q7 W∧SB w.heap.size S w S7 W) ⟨(o.out.alloc _),(z.out.alloc _),(Bx.new ao.out _),(ao.out.alloc _),(aN.out.alloc _)⟩ ?_
 clear o z aN ao
 rintro w8 ⟨X0,X1,X2,m8,t8⟩
 have o:=zc X0
 have z:=zc X1
 have K:=zc X2
 have aB:=zc m8
 have aq:=zc t8
 clear m8 t8 X0 X1 X2
 obtain⟨c0,c1,c2,c3,c4,c5,c6,c7,c8,c9,aS,aV,cf⟩:=K.out.box
 go_wp2_with fail
 refine (zad (Cx.mk D j false) L E A _ S7 q7 z7 0 cEq _ aK.out.fst aB.out).mono ?_
 rintro e w9 ⟨S9,q9,z9,rfl,i9,m9,s9⟩
 replace o:=zc (o.out.stp s9)
 replace z:=zc (z.out.stp s9)
 replace K:=zc (K.out.stp s9)
 have aI:=zc (aq.out.step s9)
 clear aq
 have aC:=zc m9
 have aT:=zc i9
 clear i9 m9 s9 aB
 clear c0 c1 c2 c3 c4 c5 c6 c7 c8 c9 aS aV cf
 go_wp2_with fail
 refine (zcN (Cx.mk D j false) L E A _ S9 q9 z9 _ aT.out aC.out).mono ?_
 rintro e bi ⟨aY,aU,aR,rfl,az,aw,X⟩
 replace o:=zc (o.out.stp X)
 replace z:=zc (z.out.stp X)
 replace K:=zc (K.out.stp X)
 have ah:=zc (aI.out.step X)
 clear aI
 have ai:=zc aw
 have aO:=zc az
 clear az aw X aC
 go_wp2_with fail
 refine (zad (Cx.mk D j false) L E A _ aY aU aR 0 cSemi _ aO.out ai.out).mono ?_
 rintro e be ⟨aW,aX,aQ,rfl,aJ,ay,O⟩
 replace o:=zc (o.out.stp O)
 replace z:=zc (z.out.stp O)
 replace K:=zc (K.out.stp O)
 have aj:=zc (ah.out.step O)
 clear ah
 have ag:=zc ay
 have ae:=zc aJ
 clear aJ ay O ai
 go_wp2_with fail
 refine (zcK (Cx.mk D j false) L E A _ aW aX aQ 0 3 n7 _ ae.out ag.out (zbh ae.out)).mono ?_
 rintro e bg ⟨bj,bk,bb,rfl,ar,aF,ab⟩
 replace o:=zc (o.out.stp ab)
 replace z:=zc (z.out.stp ab)
 replace K:=zc (K.out.stp ab)
 have au:=zc (aj.out.step ab)
 clear aj
 have av:=zc aF
 have aP:=zc ar
 clear ar aF ab ag
 obtain⟨b0,b1,b2,b3,b4,b5,b6,b7,b8,b9,bc,ba,bf⟩:=z.out.box
 unfold pv
 go_wp2
 refine bodyPost_ret (results_cell_row rfl _ _ (w.heap.size+1) 53 _ (0,0) _ rfl ((z.out.put ..)).heap Tryz.underlying53 rfl (by kernel_rfl)) rfl ?_
 rw[HV.out,←aK.out.bind (fun q n=>bd (bd (bd (bd (.ok q) (zd (Cx.mk D j false) 4 cEq)) (pE (Cx.mk D j false) .sum 0)) (zd (Cx.mk D j false) 4 cSemi)) (zV (Cx.mk D j false) 3 n)),←ziP]
 exact zY rfl aP.out (av.out.put z.out ..) (au.out.put (by omega) ..)
theorem znX (z:List Tk) (j:Nat) (A o n:Nat) (S:Sv) (q:PS) (w:World) (D:Mem (Cx.mk z j false) A o n S q w):
  Calls Tryz.prog 21 #[pv (Cx.mk z j false) A o S q (-1) 0] w (Out (Cx.mk z j false) A o n (zy (Cx.mk z j false) q) 0 S w):=by
 cases E:isT (Cx.mk z j false) q.pos 1 zah with
 |true=>exact znQ z j A o n S q w D E
 |false=>
  cases H:isT (Cx.mk z j false) q.pos 1 zaf with
  |true=>exact znR z j A o n S q w D E H
  |false=>
   cases I:isT (Cx.mk z j false) q.pos 1 zC with
   |true=>exact znS z j A o n S q w D E H I
   |false=>
    cases J:isT (Cx.mk z j false) q.pos 1 zT with
    |true=>exact znT z j A o n S q w D E H I J
    |false=>
     cases K:isT (Cx.mk z j false) q.pos 1 zar with
     |true=>exact znU z j A o n S q w D E H I J K
     |false=>
      cases L:isT (Cx.mk z j false) q.pos 1 za3 with
      |true=>exact znV z j A o n S q w D E H I J K L
      |false=>
       exact znW z j A o n S q w D E H I J K L
theorem znY (C:Cx) (o n j:Nat) (S:Sv) (q:PS) (w:World) (D:Mem C o n j S q w):
  Calls Tryz.prog 21 #[pv C o n S q (-1) 0] w (Out C o n j (zy C q) 0 S w):=by
 obtain⟨E,z,A⟩:=C
 cases A with
 |true=>exact znP E z o n j S q w D
 |false=>exact znX E z o n j S q w D
theorem ziQ (s:ByteArray) (j:Bool) (w:World) (hs:s.size≤4294967296):
  Calls Tryz.prog 6 #[.string s,.bool j] w fun e w'=>ParseOut s j w e w'∧Below w.heap.size w w':=by
 obtain⟨i0,hi,au,aq,ax⟩:=info_parts Tryz.infoExp
 go_enter Tryz.func6,Tryz.ntmps6
 go_wp2_with fail
 refine (zly s j _ hs).mono ?_
 rintro e Q ⟨⟨r1,M,O⟩,b1⟩
 have ab:Hid (Below w.heap.size w Q):=((Below.refl _ _).alloc (Nat.le_refl _) _).trans (b1.mono (by rw[zk];omega))
 have hG:Q.heap[w.heap.size]? =some (.cells #[.slice none 0 0,.slice none 0 0,.slice none 0 0,.slice none 0 0,.slice none 0 0] 28 (0,0)):=(b1.block _ (by rw[zk];omega)).trans (heap_alloc_new w _)
 rw[zk] at b1
 cases r1 with
 |error p=>
  obtain⟨g,N,rfl,q⟩:=O
  have HY:Hid (zb7 s j (.error p)):=⟨_,M,rfl⟩
  have HG:=zc hG
  obtain⟨c0,c1,c2,c3,c4,cf⟩:=zl hG
  have dz:decide ((0:Int)≤(p:Int))=true:=decide_eq_true (by omega)
  clear q M b1 hG
  go_wp2
  refine bodyPost_ret (zaA rfl _ _ w.heap.size 28 _ (0,0) _ rfl (zcZ HG.out) Tryz.underlying28 rfl (by kernel_rfl)) rfl ?_
  exact⟨⟨_,HY.out,rfl⟩,zd0 ab.out (Nat.le_refl _) _ _ _ _ _⟩
 |ok z=>
  obtain⟨g,n,N,rfl,q⟩:=O
  obtain rfl:n=z.length:=q.2
  rw[zk] at q
  have al:w.heap.size+1≤Q.heap.size:=by have:=b1.size;rw[zk] at this;exact this
  have ak:=zhN M
  have HR:=zc M
  have ag:Mem ⟨z,s.size,j⟩ g N (w.heap.size+1) S0 zbC Q:=zhO q ak al
  have aj:=zc ag
  have HG:=zc hG
  clear q M ag hG
  go_wp2
  go_loopg [] (z.length+1) (fun k wr=>∃(x':PR) (D:Sv) (U:PS) (z':Int),Is x' U z'∧bd x' (zas ⟨z,s.size,j⟩)=zas ⟨z,s.size,j⟩ zbC∧(z'<0→z.length-U.pos<k)∧Mem ⟨z,s.size,j⟩ g N (w.heap.size+1) D U wr∧Below w.heap.size w wr∧Bx g D wr Q.heap.size #[.slice (some ⟨g,0,none⟩) z.length N,.int .i64 U.pos,.int .i64 s.size,.bool j,.slice D.rq.a U.rq.length D.rq.cap,.slice D.im.a U.im.length D.im.cap,.slice D.ep.a U.ep.length D.ep.cap,.slice D.st.a U.st.length D.st.cap,.slice D.ex.a U.ex.length D.ex.cap,.slice D.la.a U.la.length D.la.cap,.int .i64 z',.int .i64 0]∧wr.heap[w.heap.size]? =some (.cells #[.slice none 0 0,.slice none 0 0,.slice none 0 0,.slice none 0 0,.slice none 0 0] 28 (0,0)))
  case atStart=>exact⟨.ok zbC,S0,zbC,-1,zX _,rfl,fun _=>by show z.length-0<z.length+1;omega,aj.out.alloc _,ab.out.alloc ab.out.size _,Bx.new aj.out _,(Below.heap_alloc _ _ _ (by omega)).trans HG.out⟩
  case round=>
   obtain⟨x2,S2,H,z2,i2,e2,l2,m2,t2,X0,G2⟩:=hrel
   have ah:=zc i2
   have ac:=zc e2
   have aw:=zc l2
   have o:=zc m2
   have aa:=zc t2
   have I:=zc X0
   have J:=zc G2
   have aA:H.pos≤z.length:=m2.inv.pos
   obtain⟨a0,a1,a2,a3,a4,a5,a6,a7,a8,a9,Y,X,af⟩:=X0.box
   clear i2 e2 l2 m2 t2 X0 G2
   by_cases hz:z2<0
   ·have dz:decide (z2<0)=true:=decide_eq_true hz
    obtain⟨rfl,rfl⟩:=zaC ah.out hz
    by_cases hp:H.pos<z.length
    ·have aB:=aw.out hz
     go_wp2_with fail
     refine (znY ⟨z,s.size,j⟩ g N (w.heap.size+1) S2 H _ o.out).mono ?_
     rintro e w3 ⟨S3,q3,z3,rfl,i3,m3,s3⟩
     have an:=zc m3
     have am:=zc i3
     have Z:Hid (Below (w.heap.size+1) wr w3):=s3.under o.out.base o.out.own
     have K:Hid (Bx g S3 w3 Q.heap.size _):=I.out.stp s3
     have ao:Hid (Below w.heap.size w w3):=aa.out.trans (Z.out.mono (by omega))
     have V:Hid (w3.heap[w.heap.size]? =some (.cells #[.slice none 0 0,.slice none 0 0,.slice none 0 0,.slice none 0 0,.slice none 0 0] 28 (0,0))):=(Z.out.block _ (by omega)).trans J.out
     have HE:Hid (bd (zy ⟨z,s.size,j⟩ H) (zas ⟨z,s.size,j⟩)=zas ⟨z,s.size,j⟩ zbC):=by
      show _=_
      rw[←ac.out,zz,zfu,if_pos hp]
     have HP:Hid (z3<0→H.pos<q3.pos):=fun h=>zft (zaC am.out h).1
     clear i3 m3 s3 a0 a1 a2 a3 a4 a5 a6 a7 a8 a9 Y X af
     obtain⟨a0,a1,a2,a3,a4,a5,a6,a7,a8,a9,Y,X,af⟩:=K.out.box
     unfold pv
     go_wp2
     go_roundg (gk-1)
     case rel=>exact⟨_,S3,q3,z3,am.out,HE.out,fun h=>by have:=HP.out h;omega,an.out.put K.out _ _ _ _ _ _ _ _ _ _ _ _,zbD ao.out (by omega) _ _ _ _ _ _ _ _ _ _ _ _,K.out.put _ _ _ _ _ _ _ _ _ _ _ _,(zeQ (by omega) ..).trans V.out⟩
     case measure=>omega
    ·have HD:Hid (zas ⟨z,s.size,j⟩ zbC= .ok H):=by
      show _=_
      rw[←ac.out,zz,zfu,if_neg hp]
     have HY:Hid (zb7 s j (.ok H)):=⟨_,HR.out,HD.out.symm⟩
     have ai:Q.heap.size<wr.heap.size:=I.out.lt
     have ay:=o.out.inv.ep
     have A:=o.out.own.ep
     have Z:=o.out.base
     rcases o.out.own.la.nil_or with ⟨ha,hc,hn⟩|⟨gl,ha⟩
     ·have HN:Hid (H.la=[]):=List.eq_nil_of_length_eq_zero hn
      rw[ha,hc,hn] at a9
      obtain⟨c0,c1,c2,c3,c4,cf⟩:=zl J.out
      clear ha hc hn
      go_wp2_with (at_builtin;refine zlm _ rfl _ _ 24 rfl 102 i0 Tryz.underlying24 hi (w.heap.size+1) 4 H.ep.length S2.ep _ (by rfl) A (by rfl) ?_)
      clear A
      go_wp2
      refine bodyPost_ret (zaA rfl _ _ w.heap.size 28 _ (0,0) _ rfl (zcZ ((zi (by omega)).trans J.out)) Tryz.underlying28 rfl (by kernel_rfl)) rfl ?_
      refine⟨⟨_,HY.out,S2,by simp[zfv,HN.out],o.out.whole0 HN.out (Nat.lt_succ_self _) I.out.free fun k L h2=>?_⟩,zd0 (aa.out.setCell (by show _≤Q.heap.size;omega) _) (Nat.le_refl _) _ _ _ _ _⟩
      rw[zi L,zi L,zi L,zi L,zi L,zi h2]
     ·have ad:OwnR wr (w.heap.size+1) 102 4 ⟨some ⟨gl,0,none⟩,S2.la.cap⟩ H.la.length (H.la.flatMap epL):=by have:=o.out.own.la;unfold OwnR at this ⊢;rw[ha] at this;exact this
      rw[ha] at a9
      go_wp2_with (at_builtin;refine zll _ rfl _ _ 24 rfl (w.heap.size+1) 102 i0 _ 4 56 Tryz.underlying24 hi au aq ax rfl (by decide) (by decide) S2.ep H.ep.length _ (by rfl) A gl H.la.length S2.la.cap (w.heap.size+1) _ (by rfl) ad (zgs _) (by omega) Z ?_)
      intro r' w3 hr hg ae
      have av:=zc hr
      have E:=zc hg
      have ar:=zc ae
      have ap:=fun b hb=>zd5 (W:=wr) o.out.own (Nat.le_refl _) (r:=S2.ep.blk) (fun k e=>.inr (.inr (.inl e))) b hb
      have K:Hid (w3.heap[Q.heap.size]? =_):=(hg.block _ ai (fun e=>I.out.free (.inr (.inr (.inl e.symm))))).trans I.out.heap
      have V:Hid (w3.heap[w.heap.size]? =_):=(hg.block _ (by omega) (fun e=>by have:=(A.typed e.symm).1;omega)).trans J.out
      clear a0 a1 a2 a3 a4 a5 a6 a7 a8 a9 Y X af hr hg ae ap A ad
      obtain⟨a0,a1,a2,a3,a4,a5,a6,a7,a8,a9,Y,X,af⟩:=zaj K.out
      obtain⟨c0,c1,c2,c3,c4,cf⟩:=zl V.out
      go_wp2
      refine bodyPost_ret (zaA rfl _ _ w.heap.size 28 _ (0,0) _ rfl (zcZ ((zi (by omega)).trans V.out)) Tryz.underlying28 rfl (by kernel_rfl)) rfl ?_
      refine⟨⟨_,HY.out,{S2 with ep:=r'},by simp[zfv],o.out.whole E.out av.out ar.out (Nat.lt_succ_self _) ai I.out.free fun k L h2=>?_⟩,zd0 ((aa.out.trans (Below.mono (B:=w.heap.size+1) ⟨E.out.os,E.out.tape,E.out.output,E.out.size,fun k hk=>E.out.block k (by omega) fun e=>by have:=(o.out.own.ep.typed e.symm).1;omega⟩ (by omega))).setCell (by show _≤Q.heap.size;omega) _) (Nat.le_refl _) _ _ _ _ _⟩
      rw[zi L,zi L,zi L,zi L,zi L,zi h2]
   ·have dz:decide (z2<0)=false:=decide_eq_false hz
    obtain⟨e0,rfl,rfl⟩:=zdc ah.out hz
    have az:decide ((0:Int)≤(e0:Int))=true:=decide_eq_true (by omega)
    have HY:Hid (zb7 s j (.error e0)):=⟨_,HR.out,(show (.error e0:PR)=zas ⟨z,s.size,j⟩ zbC from ac.out)⟩
    obtain⟨c0,c1,c2,c3,c4,cf⟩:=zl J.out
    go_wp2
    go_region
    all_goals
     go_wp2
     refine bodyPost_ret (zaA rfl _ _ w.heap.size 28 _ (0,0) _ rfl (zcZ J.out) Tryz.underlying28 rfl (by kernel_rfl)) rfl ?_
     exact⟨⟨_,HY.out,rfl⟩,(zd0 aa.out (Nat.le_refl _) ..).drew⟩
end Go.Proofs.YticdggnnpjachaaGreat
