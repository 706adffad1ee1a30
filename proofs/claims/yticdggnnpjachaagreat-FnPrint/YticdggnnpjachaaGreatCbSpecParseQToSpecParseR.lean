/-
  What spec's l4Item answers outside of a script: the walks.
  What spec.Parse answers: the walk.
-/
import Derived.Test.YticdggnnpjachaaGreatCbSpecParseMToSpecParseP
namespace Go.Proofs.YticdggnnpjachaaGreat
set_option maxRecDepth 100000
set_option maxHeartbeats 6400000
open Go.RowKit Go.PlainAid
theorem znQ (A:List Tk) (j:Nat) (L z n:Nat) (S:Sv) (q:PS) (w:World) (N:Mem (Cx.mk A j false) L z n S q w) (V:isT (Cx.mk A j false) q.pos 1 zah=true):
  Calls Tryz.prog 21 #[pv (Cx.mk A j false) L z S q (-1) 0] w (Out (Cx.mk A j false) L z n (zy (Cx.mk A j false) q) 0 S w):=by
 have HM:=zc N
 have D:=N.tok
 have K:(Cx.mk A j false).ts.length≤4000:=N.few
 clear N
 have HV:Hid (zy (Cx.mk A j false) q=zaQ (Cx.mk A j false) q):=by show zy (Cx.mk A j false) q=_;rw[zy,V];rfl
 unfold pv
 go_enter Tryz.func21,Tryz.ntmps21
 go_wp2_with fail
 refine (zh (Cx.mk A j false) L z n S q (-1) 0 1 zah _ (zq (zq D _) _) K (by decide)).mono ?_
 rintro e w1 ⟨rfl,H⟩
 rw[V]
 obtain⟨Z,X1,m1,t1⟩:=HM.out.two H
 have E:=zc Z
 have o:=zc X1
 have I:=zc m1
 have J:=zc t1
 clear Z X1 m1 t1 H
 clear D
 obtain⟨a0,a1,a2,a3,a4,a5,a6,a7,a8,a9,Y,X,af⟩:=E.out.box
 go_wp2_with fail
 refine (znH (Cx.mk A j false) L z n S q _ I.out V).mono ?_
 rintro e w2 ⟨S2,q2,z2,rfl,i2,m2,M⟩
 replace E:=zc (E.out.stp M)
 replace o:=zc (o.out.stp M)
 have Q:=zc (J.out.step M)
 clear J
 have U:=zc m2
 have O:=zc i2
 clear i2 m2 M I
 clear a0 a1 a2 a3 a4 a5 a6 a7 a8 a9 Y X af
 obtain⟨b0,b1,b2,b3,b4,b5,b6,b7,b8,b9,aa,ab,bf⟩:=o.out.box
 unfold pv
 go_wp2
 refine bodyPost_ret (results_cell_row rfl _ _ (w.heap.size+1) 53 _ (0,0) _ rfl ((o.out.put ..)).heap Tryz.underlying53 rfl (by kernel_rfl)) rfl ?_
 rw[HV.out]
 exact zY rfl O.out (U.out.put o.out ..) (Q.out.put (by omega) ..)
theorem znR (D:List Tk) (j:Nat) (M z n:Nat) (S:Sv) (q:PS) (w:World) (X:Mem (Cx.mk D j false) M z n S q w) (h0:isT (Cx.mk D j false) q.pos 1 zah=false) (h1:isT (Cx.mk D j false) q.pos 1 zaf=true):
  Calls Tryz.prog 21 #[pv (Cx.mk D j false) M z S q (-1) 0] w (Out (Cx.mk D j false) M z n (zy (Cx.mk D j false) q) 0 S w):=by
 have HM:=zc X
 have I:=X.tok
 have H:(Cx.mk D j false).ts.length≤4000:=X.few
 clear X
 have HV:Hid (zy (Cx.mk D j false) q=zag (Cx.mk D j false) q):=by show zy (Cx.mk D j false) q=_;rw[zy,h0,h1];rfl
 unfold pv
 go_enter Tryz.func21,Tryz.ntmps21
 go_wp2_with fail
 refine (zh (Cx.mk D j false) M z n S q (-1) 0 1 zah _ (zq (zq I _) _) H (by decide)).mono ?_
 rintro e w1 ⟨rfl,N⟩
 rw[h0]
 obtain⟨X0,X1,m1,t1⟩:=HM.out.two N
 have A:=zc X0
 have o:=zc X1
 have J:=zc m1
 have Q:=zc t1
 clear X0 X1 m1 t1 N
 clear I
 obtain⟨a0,a1,a2,a3,a4,a5,Y,a7,Z,a9,L,K,af⟩:=A.out.box
 go_wp2_with fail
 refine (zh (Cx.mk D j false) M z n S q (-1) 0 1 zaf _ J.out.tok H (by decide)).mono ?_
 rintro e w2 ⟨rfl,E⟩
 rw[h1]
 replace A:=zc (A.out.below E)
 replace o:=zc (o.out.below E)
 have O:=zc (Q.out.below E)
 have U:=zc (J.out.later E)
 clear E Q J
 clear a0 a1 a2 a3 a4 a5 Y a7 Z a9 L K af
 obtain⟨a0,a1,a2,a3,a4,a5,Y,a7,Z,a9,L,K,af⟩:=A.out.box
 go_wp2_with fail
 refine (znI (Cx.mk D j false) M z n S q _ U.out h1).mono ?_
 rintro e w3 ⟨S3,q3,z3,rfl,i3,m3,V⟩
 replace A:=zc (A.out.stp V)
 replace o:=zc (o.out.stp V)
 have ab:=zc (O.out.step V)
 clear O
 have ac:=zc m3
 have aa:=zc i3
 clear i3 m3 V U
 clear a0 a1 a2 a3 a4 a5 Y a7 Z a9 L K af
 obtain⟨b0,b1,b2,b3,b4,b5,b6,b7,b8,b9,ad,ae,bf⟩:=o.out.box
 unfold pv
 go_wp2
 refine bodyPost_ret (results_cell_row rfl _ _ (w.heap.size+1) 53 _ (0,0) _ rfl ((o.out.put ..)).heap Tryz.underlying53 rfl (by kernel_rfl)) rfl ?_
 rw[HV.out]
 exact zY rfl aa.out (ac.out.put o.out ..) (ab.out.put (by omega) ..)
theorem znS (D:List Tk) (j:Nat) (H A z:Nat) (S:Sv) (q:PS) (w:World) (hm:Mem (Cx.mk D j false) H A z S q w) (h0:isT (Cx.mk D j false) q.pos 1 zah=false) (h1:isT (Cx.mk D j false) q.pos 1 zaf=false) (h2:isT (Cx.mk D j false) q.pos 1 zC=true):
  Calls Tryz.prog 21 #[pv (Cx.mk D j false) H A S q (-1) 0] w (Out (Cx.mk D j false) H A z (zy (Cx.mk D j false) q) 0 S w):=by
 have HM:=zc hm
 have M:=hm.tok
 have J:(Cx.mk D j false).ts.length≤4000:=hm.few
 clear hm
 have HV:Hid (zy (Cx.mk D j false) q=zaK (zcj (Cx.mk D j false) q)):=by show zy (Cx.mk D j false) q=_;rw[zy,h0,h1,h2];rfl
 unfold pv
 go_enter Tryz.func21,Tryz.ntmps21
 go_wp2_with fail
 refine (zh (Cx.mk D j false) H A z S q (-1) 0 1 zah _ (zq (zq M _) _) J (by decide)).mono ?_
 rintro e w1 ⟨rfl,aa⟩
 rw[h0]
 obtain⟨X0,Z,m1,t1⟩:=HM.out.two aa
 have o:=zc X0
 have n:=zc Z
 have N:=zc m1
 have ac:=zc t1
 clear X0 Z m1 t1 aa
 clear M
 obtain⟨Y,a1,a2,a3,a4,a5,a6,a7,a8,V,I,K,af⟩:=o.out.box
 go_wp2_with fail
 refine (zh (Cx.mk D j false) H A z S q (-1) 0 1 zaf _ N.out.tok J (by decide)).mono ?_
 rintro e w2 ⟨rfl,L⟩
 rw[h1]
 replace o:=zc (o.out.below L)
 replace n:=zc (n.out.below L)
 have U:=zc (ac.out.below L)
 have Q:=zc (N.out.later L)
 clear L ac N
 clear Y a1 a2 a3 a4 a5 a6 a7 a8 V I K af
 obtain⟨Y,a1,a2,a3,a4,a5,a6,a7,a8,V,I,K,af⟩:=o.out.box
 go_wp2_with fail
 refine (zh (Cx.mk D j false) H A z S q (-1) 0 1 zC _ Q.out.tok J (by decide)).mono ?_
 rintro e w3 ⟨rfl,E⟩
 rw[h2]
 replace o:=zc (o.out.below E)
 replace n:=zc (n.out.below E)
 have ad:=zc (U.out.below E)
 have X:=zc (Q.out.later E)
 clear E U Q
 clear Y a1 a2 a3 a4 a5 a6 a7 a8 V I K af
 obtain⟨Y,a1,a2,a3,a4,a5,a6,a7,a8,V,I,K,af⟩:=o.out.box
 go_wp2_with fail
 refine (zgG (Cx.mk D j false) H A z S q _ X.out).mono ?_
 rintro e w4 ⟨S4,q4,z4,n4,rfl,i4,m4,s4⟩
 replace o:=zc (o.out.stp s4)
 replace n:=zc (n.out.stp s4)
 have ab:=zc (ad.out.step s4)
 clear ad
 have O:=zc m4
 have ai:=zc i4
 clear i4 m4 s4 X
 clear Y a1 a2 a3 a4 a5 a6 a7 a8 V I K af
 have aj:w.heap.size+1<w4.heap.size:=n.out.lt
 unfold pv
 go_upto_region 7 with fail
 refine zL (R:=fun W=>Bx H S4 W (w.heap.size) _∧Bx H S4 W (w.heap.size+1) _∧Bx H S4 W (w4.heap.size) _∧Mem (Cx.mk D j false) H A z S4 q4 W∧SB w.heap.size S w S4 W) ⟨(o.out.alloc _),(n.out.alloc _),(Bx.new O.out _),(O.out.alloc _),(ab.out.alloc _)⟩ ?_
 clear o n ab O
 rintro w5 ⟨X0,Z,X2,m5,t5⟩
 have o:=zc X0
 have n:=zc Z
 have ae:=zc X2
 have ah:=zc m5
 have ag:=zc t5
 clear m5 t5 X0 Z X2
 obtain⟨b0,b1,b2,b3,b4,b5,b6,b7,b8,b9,al,ak,bf⟩:=n.out.box
 obtain⟨c0,c1,c2,c3,c4,c5,c6,c7,c8,c9,am,an,cf⟩:=ae.out.box
 go_wp2
 refine bodyPost_ret (results_cell_row rfl _ _ (w.heap.size+1) 53 _ (0,0) _ rfl ((n.out.put ..)).heap Tryz.underlying53 rfl (by kernel_rfl)) rfl ?_
 rw[HV.out]
 exact zY rfl ai.out.fst (ah.out.put n.out ..) (ag.out.put (by omega) ..)
theorem znT (D:List Tk) (j:Nat) (J A z:Nat) (S:Sv) (q:PS) (w:World) (hm:Mem (Cx.mk D j false) J A z S q w) (h0:isT (Cx.mk D j false) q.pos 1 zah=false) (h1:isT (Cx.mk D j false) q.pos 1 zaf=false) (h2:isT (Cx.mk D j false) q.pos 1 zC=false) (h3:isT (Cx.mk D j false) q.pos 1 zT=true):
  Calls Tryz.prog 21 #[pv (Cx.mk D j false) J A S q (-1) 0] w (Out (Cx.mk D j false) J A z (zy (Cx.mk D j false) q) 0 S w):=by
 have HM:=zc hm
 have N:=hm.tok
 have I:(Cx.mk D j false).ts.length≤4000:=hm.few
 clear hm
 have HV:Hid (zy (Cx.mk D j false) q=zaK (fnP (Cx.mk D j false) q)):=by show zy (Cx.mk D j false) q=_;rw[zy,h0,h1,h2,h3];rfl
 unfold pv
 go_enter Tryz.func21,Tryz.ntmps21
 go_wp2_with fail
 refine (zh (Cx.mk D j false) J A z S q (-1) 0 1 zah _ (zq (zq N _) _) I (by decide)).mono ?_
 rintro e w1 ⟨rfl,ae⟩
 rw[h0]
 obtain⟨X0,X1,m1,t1⟩:=HM.out.two ae
 have o:=zc X0
 have n:=zc X1
 have aa:=zc m1
 have ah:=zc t1
 clear X0 X1 m1 t1 ae
 clear N
 obtain⟨U,a1,a2,a3,a4,X,V,Y,Z,O,E,H,af⟩:=o.out.box
 go_wp2_with fail
 refine (zh (Cx.mk D j false) J A z S q (-1) 0 1 zaf _ aa.out.tok I (by decide)).mono ?_
 rintro e w2 ⟨rfl,M⟩
 rw[h1]
 replace o:=zc (o.out.below M)
 replace n:=zc (n.out.below M)
 have ad:=zc (ah.out.below M)
 have ab:=zc (aa.out.later M)
 clear M ah aa
 clear U a1 a2 a3 a4 X V Y Z O E H af
 obtain⟨U,a1,a2,a3,a4,X,V,Y,Z,O,E,H,af⟩:=o.out.box
 go_wp2_with fail
 refine (zh (Cx.mk D j false) J A z S q (-1) 0 1 zC _ ab.out.tok I (by decide)).mono ?_
 rintro e w3 ⟨rfl,K⟩
 rw[h2]
 replace o:=zc (o.out.below K)
 replace n:=zc (n.out.below K)
 have ai:=zc (ad.out.below K)
 have Q:=zc (ab.out.later K)
 clear K ad ab
 clear U a1 a2 a3 a4 X V Y Z O E H af
 obtain⟨U,a1,a2,a3,a4,X,V,Y,Z,O,E,H,af⟩:=o.out.box
 go_wp2_with fail
 refine (zh (Cx.mk D j false) J A z S q (-1) 0 1 zT _ Q.out.tok I (by decide)).mono ?_
 rintro e w4 ⟨rfl,L⟩
 rw[h3]
 replace o:=zc (o.out.below L)
 replace n:=zc (n.out.below L)
 have ag:=zc (ai.out.below L)
 have aj:=zc (Q.out.later L)
 clear L ai Q
 clear U a1 a2 a3 a4 X V Y Z O E H af
 obtain⟨U,a1,a2,a3,a4,X,V,Y,Z,O,E,H,af⟩:=o.out.box
 go_wp2_with fail
 refine (zgH (Cx.mk D j false) J A z S q _ aj.out).mono ?_
 rintro e w5 ⟨S5,q5,z5,n5,rfl,i5,m5,s5⟩
 replace o:=zc (o.out.stp s5)
 replace n:=zc (n.out.stp s5)
 have ak:=zc (ag.out.step s5)
 clear ag
 have ac:=zc m5
 have an:=zc i5
 clear i5 m5 s5 aj
 clear U a1 a2 a3 a4 X V Y Z O E H af
 have ap:w.heap.size+1<w5.heap.size:=n.out.lt
 unfold pv
 go_upto_region 10 with fail
 refine zL (R:=fun W=>Bx J S5 W (w.heap.size) _∧Bx J S5 W (w.heap.size+1) _∧Bx J S5 W (w5.heap.size) _∧Mem (Cx.mk D j false) J A z S5 q5 W∧SB w.heap.size S w S5 W) ⟨(o.out.alloc _),(n.out.alloc _),(Bx.new ac.out _),(ac.out.alloc _),(ak.out.alloc _)⟩ ?_
 clear o n ak ac
 rintro w6 ⟨X0,X1,X2,m6,t6⟩
 have o:=zc X0
 have n:=zc X1
 have al:=zc X2
 have ao:=zc m6
 have am:=zc t6
 clear m6 t6 X0 X1 X2
 obtain⟨b0,b1,b2,b3,b4,b5,b6,b7,b8,b9,ar,aq,bf⟩:=n.out.box
 obtain⟨c0,c1,c2,c3,c4,c5,c6,c7,c8,c9,as,au,cf⟩:=al.out.box
 go_wp2
 refine bodyPost_ret (results_cell_row rfl _ _ (w.heap.size+1) 53 _ (0,0) _ rfl ((n.out.put ..)).heap Tryz.underlying53 rfl (by kernel_rfl)) rfl ?_
 rw[HV.out]
 exact zY rfl an.out.fst (ao.out.put n.out ..) (am.out.put (by omega) ..)
theorem znU (D:List Tk) (j:Nat) (I A z:Nat) (S:Sv) (q:PS) (w:World) (hm:Mem (Cx.mk D j false) I A z S q w) (h0:isT (Cx.mk D j false) q.pos 1 zah=false) (h1:isT (Cx.mk D j false) q.pos 1 zaf=false) (h2:isT (Cx.mk D j false) q.pos 1 zC=false) (h3:isT (Cx.mk D j false) q.pos 1 zT=false) (h4:isT (Cx.mk D j false) q.pos 1 zar=true):
  Calls Tryz.prog 21 #[pv (Cx.mk D j false) I A S q (-1) 0] w (Out (Cx.mk D j false) I A z (zy (Cx.mk D j false) q) 0 S w):=by
 have HM:=zc hm
 have ac:=hm.tok
 have J:(Cx.mk D j false).ts.length≤4000:=hm.few
 clear hm
 have HV:Hid (zy (Cx.mk D j false) q=bd (bd (bd (bd (bd (bd (.ok q) (zd (Cx.mk D j false) 1 zar)) (zd (Cx.mk D j false) 4 zn)) (pE (Cx.mk D j false) .sum 0)) (zd (Cx.mk D j false) 4 za0)) (zd (Cx.mk D j false) 4 cSemi)) (zV (Cx.mk D j false) 4 sNone)):=by show zy (Cx.mk D j false) q=_;rw[zy,h0,h1,h2,h3,h4];rfl
 unfold pv
 go_enter Tryz.func21,Tryz.ntmps21
 go_wp2_with fail
 refine (zh (Cx.mk D j false) I A z S q (-1) 0 1 zah _ (zq (zq ac _) _) J (by decide)).mono ?_
 rintro e w1 ⟨rfl,ao⟩
 rw[h0]
 obtain⟨X0,X1,m1,t1⟩:=HM.out.two ao
 have n:=zc X0
 have o:=zc X1
 have aj:=zc m1
 have as:=zc t1
 clear X0 X1 m1 t1 ao
 clear ac
 obtain⟨X,a1,a2,a3,a4,Z,Y,a7,a8,V,E,H,af⟩:=n.out.box
 go_wp2_with fail
 refine (zh (Cx.mk D j false) I A z S q (-1) 0 1 zaf _ aj.out.tok J (by decide)).mono ?_
 rintro e w2 ⟨rfl,U⟩
 rw[h1]
 replace n:=zc (n.out.below U)
 replace o:=zc (o.out.below U)
 have am:=zc (as.out.below U)
 have al:=zc (aj.out.later U)
 clear U as aj
 clear X a1 a2 a3 a4 Z Y a7 a8 V E H af
 obtain⟨X,a1,a2,a3,a4,Z,Y,a7,a8,V,E,H,af⟩:=n.out.box
 go_wp2_with fail
 refine (zh (Cx.mk D j false) I A z S q (-1) 0 1 zC _ al.out.tok J (by decide)).mono ?_
 rintro e w3 ⟨rfl,K⟩
 rw[h2]
 replace n:=zc (n.out.below K)
 replace o:=zc (o.out.below K)
 have aA:=zc (am.out.below K)
 have ah:=zc (al.out.later K)
 clear K am al
 clear X a1 a2 a3 a4 Z Y a7 a8 V E H af
 obtain⟨X,a1,a2,a3,a4,Z,Y,a7,a8,V,E,H,af⟩:=n.out.box
 go_wp2_with fail
 refine (zh (Cx.mk D j false) I A z S q (-1) 0 1 zT _ ah.out.tok J (by decide)).mono ?_
 rintro e w4 ⟨rfl,M⟩
 rw[h3]
 replace n:=zc (n.out.below M)
 replace o:=zc (o.out.below M)
 have ar:=zc (aA.out.below M)
 have ak:=zc (ah.out.later M)
 clear M aA ah
 clear X a1 a2 a3 a4 Z Y a7 a8 V E H af
 obtain⟨X,a1,a2,a3,a4,Z,Y,a7,a8,V,E,H,af⟩:=n.out.box
 go_wp2_with fail
 refine (zh (Cx.mk D j false) I A z S q (-1) 0 1 zar _ ak.out.tok J (by decide)).mono ?_
 rintro e w5 ⟨rfl,O⟩
 rw[h4]
 replace n:=zc (n.out.below O)
 replace o:=zc (o.out.below O)
 have aG:=zc (ar.out.below O)
 have aI:=zc (ak.out.later O)
 clear O ar ak
 clear X a1 a2 a3 a4 Z Y a7 a8 V E H af
 obtain⟨X,a1,a2,a3,a4,Z,Y,a7,a8,V,E,H,af⟩:=n.out.box
 go_wp2_with fail
 refine (zaH (Cx.mk D j false) I A z (.ok q) S q (-1) 0 zar _ (zX q) aI.out).mono ?_
 rintro e w6 ⟨S6,q6,z6,rfl,i6,m6,s6⟩
 replace n:=zc (n.out.stp s6)
 replace o:=zc (o.out.stp s6)
 have ax:=zc (aG.out.step s6)
 clear aG
 have aD:=zc m6
 have aR:=zc i6
 clear i6 m6 s6 aI
 clear X a1 a2 a3 a4 Z Y a7 a8 V E H af
 go_wp2_with fail
 refine (zad (Cx.mk D j false) I A z _ S6 q6 z6 0 zn _ aR.out aD.out).mono ?_
 rintro e w7 ⟨S7,q7,z7,rfl,i7,m7,s7⟩
 replace n:=zc (n.out.stp s7)
 replace o:=zc (o.out.stp s7)
 have aF:=zc (ax.out.step s7)
 clear ax
 have av:=zc m7
 have aQ:=zc i7
 clear i7 m7 s7 aD
 go_wp2_with fail
 refine (zcN (Cx.mk D j false) I A z _ S7 q7 z7 _ aQ.out av.out).mono ?_
 rintro e w8 ⟨S8,q8,z8,rfl,i8,m8,s8⟩
 replace n:=zc (n.out.stp s8)
 replace o:=zc (o.out.stp s8)
 have aJ:=zc (aF.out.step s8)
 clear aF
 have aw:=zc m8
 have aL:=zc i8
 clear i8 m8 s8 av
 go_wp2_with fail
 refine (zad (Cx.mk D j false) I A z _ S8 q8 z8 0 za0 _ aL.out aw.out).mono ?_
 rintro e w9 ⟨S9,q9,z9,rfl,i9,m9,s9⟩
 replace n:=zc (n.out.stp s9)
 replace o:=zc (o.out.stp s9)
 have aE:=zc (aJ.out.step s9)
 clear aJ
 have ai:=zc m9
 have aN:=zc i9
 clear i9 m9 s9 aw
 have aT:w.heap.size+1<w9.heap.size:=o.out.lt
 unfold pv
 go_upto_region 13 with fail
 refine zL (R:=fun W=>Bx I S9 W (w.heap.size) _∧Bx I S9 W (w.heap.size+1) _∧Bx I S9 W (w9.heap.size) _∧Mem (Cx.mk D j false) I A z S9 q9 W∧SB w.heap.size S w S9 W) ⟨(n.out.alloc _),(o.out.alloc _),(Bx.new ai.out _),(ai.out.alloc _),(aE.out.alloc _)⟩ ?_
 clear n o aE ai
 rintro aV ⟨X0,X1,X2,aB,aC⟩
 have n:=zc X0
 have o:=zc X1
 have N:=zc X2
 have ab:=zc aB
 have ae:=zc aC
 clear aB aC X0 X1 X2
 obtain⟨c0,c1,c2,c3,c4,c5,c6,c7,c8,c9,aM,aO,cf⟩:=N.out.box
 go_wp2_with fail
 refine (zad (Cx.mk D j false) I A z _ S9 q9 z9 0 cSemi _ aN.out ab.out).mono ?_
 rintro e aY ⟨aK,aS,aP,rfl,ap,aH,Q⟩
 replace n:=zc (n.out.stp Q)
 replace o:=zc (o.out.stp Q)
 replace N:=zc (N.out.stp Q)
 have ag:=zc (ae.out.step Q)
 clear ae
 have aa:=zc aH
 have ad:=zc ap
 clear ap aH Q ab
 clear c0 c1 c2 c3 c4 c5 c6 c7 c8 c9 aM aO cf
 go_wp2_with fail
 refine (zcK (Cx.mk D j false) I A z _ aK aS aP 0 4 sNone _ ad.out aa.out (zbh ad.out)).mono ?_
 rintro e bb ⟨aW,aZ,ba,rfl,an,ay,L⟩
 replace n:=zc (n.out.stp L)
 replace o:=zc (o.out.stp L)
 replace N:=zc (N.out.stp L)
 have aq:=zc (ag.out.step L)
 clear ag
 have az:=zc ay
 have au:=zc an
 clear an ay L aa
 obtain⟨b0,b1,b2,b3,b4,b5,b6,b7,b8,b9,aX,aU,bf⟩:=o.out.box
 unfold pv
 go_wp2
 refine bodyPost_ret (results_cell_row rfl _ _ (w.heap.size+1) 53 _ (0,0) _ rfl ((o.out.put ..)).heap Tryz.underlying53 rfl (by kernel_rfl)) rfl ?_
 rw[HV.out]
 exact zY rfl au.out (az.out.put o.out ..) (aq.out.put (by omega) ..)
theorem znV (D:List Tk) (j:Nat) (J A z:Nat) (S:Sv) (q:PS) (w:World) (hm:Mem (Cx.mk D j false) J A z S q w) (h0:isT (Cx.mk D j false) q.pos 1 zah=false) (h1:isT (Cx.mk D j false) q.pos 1 zaf=false) (h2:isT (Cx.mk D j false) q.pos 1 zC=false) (h3:isT (Cx.mk D j false) q.pos 1 zT=false) (h4:isT (Cx.mk D j false) q.pos 1 zar=false) (h5:isT (Cx.mk D j false) q.pos 1 za3=true):
  Calls Tryz.prog 21 #[pv (Cx.mk D j false) J A S q (-1) 0] w (Out (Cx.mk D j false) J A z (zy (Cx.mk D j false) q) 0 S w):=by
 have HM:=zc hm
 have ac:=hm.tok
 have I:(Cx.mk D j false).ts.length≤4000:=hm.few
 clear hm
 have HV:Hid (zy (Cx.mk D j false) q=bd (bd (bd (bd (.ok q) (zd (Cx.mk D j false) 1 za3)) (pE (Cx.mk D j false) .sum 0)) (zd (Cx.mk D j false) 4 cSemi)) (zV (Cx.mk D j false) 5 sNone)):=by show zy (Cx.mk D j false) q=_;rw[zy,h0,h1,h2,h3,h4,h5];rfl
 unfold pv
 go_enter Tryz.func21,Tryz.ntmps21
 go_wp2_with fail
 refine (zh (Cx.mk D j false) J A z S q (-1) 0 1 zah _ (zq (zq ac _) _) I (by decide)).mono ?_
 rintro e w1 ⟨rfl,al⟩
 rw[h0]
 obtain⟨X0,X1,m1,t1⟩:=HM.out.two al
 have n:=zc X0
 have o:=zc X1
 have ae:=zc m1
 have aq:=zc t1
 clear X0 X1 m1 t1 al
 clear ac
 obtain⟨M,a1,a2,a3,a4,Q,N,V,X,L,E,H,Z⟩:=n.out.box
 go_wp2_with fail
 refine (zh (Cx.mk D j false) J A z S q (-1) 0 1 zaf _ ae.out.tok I (by decide)).mono ?_
 rintro e w2 ⟨rfl,aa⟩
 rw[h1]
 replace n:=zc (n.out.below aa)
 replace o:=zc (o.out.below aa)
 have aj:=zc (aq.out.below aa)
 have ah:=zc (ae.out.later aa)
 clear aa aq ae
 clear M a1 a2 a3 a4 Q N V X L E H Z
 obtain⟨M,a1,a2,a3,a4,Q,N,V,X,L,E,H,Z⟩:=n.out.box
 go_wp2_with fail
 refine (zh (Cx.mk D j false) J A z S q (-1) 0 1 zC _ ah.out.tok I (by decide)).mono ?_
 rintro e w3 ⟨rfl,K⟩
 rw[h2]
 replace n:=zc (n.out.below K)
 replace o:=zc (o.out.below K)
 have ay:=zc (aj.out.below K)
 have ad:=zc (ah.out.later K)
 clear K aj ah
 clear M a1 a2 a3 a4 Q N V X L E H Z
 obtain⟨M,a1,a2,a3,a4,Q,N,V,X,L,E,H,Z⟩:=n.out.box
 go_wp2_with fail
 refine (zh (Cx.mk D j false) J A z S q (-1) 0 1 zT _ ad.out.tok I (by decide)).mono ?_
 rintro e w4 ⟨rfl,O⟩
 rw[h3]
 replace n:=zc (n.out.below O)
 replace o:=zc (o.out.below O)
 have an:=zc (ay.out.below O)
 have ag:=zc (ad.out.later O)
 clear O ay ad
 clear M a1 a2 a3 a4 Q N V X L E H Z
 obtain⟨M,a1,a2,a3,a4,Q,N,V,X,L,E,H,Z⟩:=n.out.box
 go_wp2_with fail
 refine (zh (Cx.mk D j false) J A z S q (-1) 0 1 zar _ ag.out.tok I (by decide)).mono ?_
 rintro e w5 ⟨rfl,Y⟩
 rw[h4]
 replace n:=zc (n.out.below Y)
 replace o:=zc (o.out.below Y)
 have aC:=zc (an.out.below Y)
 have ai:=zc (ag.out.later Y)
 clear Y an ag
 clear M a1 a2 a3 a4 Q N V X L E H Z
 obtain⟨M,a1,a2,a3,a4,Q,N,V,X,L,E,H,Z⟩:=n.out.box
 go_wp2_with fail
 refine (zh (Cx.mk D j false) J A z S q (-1) 0 1 za3 _ ai.out.tok I (by decide)).mono ?_
 rintro e w6 ⟨rfl,U⟩
 rw[h5]
 replace n:=zc (n.out.below U)
 replace o:=zc (o.out.below U)
 have au:=zc (aC.out.below U)
 have az:=zc (ai.out.later U)
 clear U aC ai
 clear M a1 a2 a3 a4 Q N V X L E H Z
 obtain⟨M,a1,a2,a3,a4,Q,N,V,X,L,E,H,Z⟩:=n.out.box
 go_wp2_with fail
 refine (zaH (Cx.mk D j false) J A z (.ok q) S q (-1) 0 za3 _ (zX q) az.out).mono ?_
 rintro e w7 ⟨S7,q7,z7,rfl,i7,m7,s7⟩
 replace n:=zc (n.out.stp s7)
 replace o:=zc (o.out.stp s7)
 have aB:=zc (au.out.step s7)
 clear au
 have ar:=zc m7
 have aF:=zc i7
 clear i7 m7 s7 az
 clear M a1 a2 a3 a4 Q N V X L E H Z
 go_wp2_with fail
 refine (zcN (Cx.mk D j false) J A z _ S7 q7 z7 _ aF.out ar.out).mono ?_
 rintro e w8 ⟨S8,q8,z8,rfl,i8,m8,s8⟩
 replace n:=zc (n.out.stp s8)
 replace o:=zc (o.out.stp s8)
 have aD:=zc (aB.out.step s8)
 clear aB
 have as:=zc m8
 have aE:=zc i8
 clear i8 m8 s8 ar
 go_wp2_with fail
 refine (zad (Cx.mk D j false) J A z _ S8 q8 z8 0 cSemi _ aE.out as.out).mono ?_
 rintro e w9 ⟨S9,q9,z9,rfl,i9,m9,s9⟩
 replace n:=zc (n.out.stp s9)
 replace o:=zc (o.out.stp s9)
 have aA:=zc (aD.out.step s9)
 clear aD
 have ap:=zc m9
 have av:=zc i9
 clear i9 m9 s9 as
 go_wp2_with fail
 refine (zcK (Cx.mk D j false) J A z _ S9 q9 z9 0 5 sNone _ av.out ap.out (zbh av.out)).mono ?_
 rintro e aI ⟨aK,aL,aH,rfl,am,ax,ab⟩
 replace n:=zc (n.out.stp ab)
 replace o:=zc (o.out.stp ab)
 have aw:=zc (aA.out.step ab)
 clear aA
 have ak:=zc ax
 have ao:=zc am
 clear am ax ab ap
 obtain⟨b0,b1,b2,b3,b4,b5,b6,b7,b8,b9,aJ,aG,bf⟩:=o.out.box
 unfold pv
 go_wp2
 refine bodyPost_ret (results_cell_row rfl _ _ (w.heap.size+1) 53 _ (0,0) _ rfl ((o.out.put ..)).heap Tryz.underlying53 rfl (by kernel_rfl)) rfl ?_
 rw[HV.out]
 exact zY rfl ao.out (ak.out.put o.out ..) (aw.out.put (by omega) ..)
theorem znW (D:List Tk) (j:Nat) (L E A:Nat) (S:Sv) (q:PS) (w:World) (hm:Mem (Cx.mk D j false) L E A S q w) (h0:isT (Cx.mk D j false) q.pos 1 zah=false) (h1:isT (Cx.mk D j false) q.pos 1 zaf=false) (h2:isT (Cx.mk D j false) q.pos 1 zC=false) (h3:isT (Cx.mk D j false) q.pos 1 zT=false) (h4:isT (Cx.mk D j false) q.pos 1 zar=false) (h5:isT (Cx.mk D j false) q.pos 1 za3=false):
  Calls Tryz.prog 21 #[pv (Cx.mk D j false) L E S q (-1) 0] w (Out (Cx.mk D j false) L E A (zy (Cx.mk D j false) q) 0 S w):=by
 have HM:=zc hm
 have ah:=hm.tok
 have J:(Cx.mk D j false).ts.length≤4000:=hm.few
 clear hm
 have HV:Hid (zy (Cx.mk D j false) q=bd (bd (.ok q) (zj (Cx.mk D j false) false)) fun a=>bd (bd (bd (bd (.ok a.1) (zd (Cx.mk D j false) 4 cEq)) (pE (Cx.mk D j false) .sum 0)) (zd (Cx.mk D j false) 4 cSemi)) (zV (Cx.mk D j false) 3 a.2)):=by show zy (Cx.mk D j false) q=_;rw[zy,h0,h1,h2,h3,h4,h5];rfl
 unfold pv
 go_enter Tryz.func21,Tryz.ntmps21
 go_wp2_with fail
 refine (zh (Cx.mk D j false) L E A S q (-1) 0 1 zah _ (zq (zq ah _) _) J (by decide)).mono ?_
 rintro e w1 ⟨rfl,au⟩
 rw[h0]
 obtain⟨X0,X1,m1,t1⟩:=HM.out.two au
 have o:=zc X0
 have z:=zc X1
 have an:=zc m1
 have aB:=zc t1
 clear X0 X1 m1 t1 au
 clear ah
 obtain⟨Q,a1,a2,a3,a4,X,U,Z,a8,O,H,I,af⟩:=o.out.box
 go_wp2_with fail
 refine (zh (Cx.mk D j false) L E A S q (-1) 0 1 zaf _ an.out.tok J (by decide)).mono ?_
 rintro e w2 ⟨rfl,ac⟩
 rw[h1]
 replace o:=zc (o.out.below ac)
 replace z:=zc (z.out.below ac)
 have ar:=zc (aB.out.below ac)
 have ap:=zc (an.out.later ac)
 clear ac aB an
 clear Q a1 a2 a3 a4 X U Z a8 O H I af
 obtain⟨Q,a1,a2,a3,a4,X,U,Z,a8,O,H,I,af⟩:=o.out.box
 go_wp2_with fail
 refine (zh (Cx.mk D j false) L E A S q (-1) 0 1 zC _ ap.out.tok J (by decide)).mono ?_
 rintro e w3 ⟨rfl,M⟩
 rw[h2]
 replace o:=zc (o.out.below M)
 replace z:=zc (z.out.below M)
 have aH:=zc (ar.out.below M)
 have al:=zc (ap.out.later M)
 clear M ar ap
 clear Q a1 a2 a3 a4 X U Z a8 O H I af
 obtain⟨Q,a1,a2,a3,a4,X,U,Z,a8,O,H,I,af⟩:=o.out.box
 go_wp2_with fail
 refine (zh (Cx.mk D j false) L E A S q (-1) 0 1 zT _ al.out.tok J (by decide)).mono ?_
 rintro e w4 ⟨rfl,V⟩
 rw[h3]
 replace o:=zc (o.out.below V)
 replace z:=zc (z.out.below V)
 have ay:=zc (aH.out.below V)
 have ao:=zc (al.out.later V)
 clear V aH al
 clear Q a1 a2 a3 a4 X U Z a8 O H I af
 obtain⟨Q,a1,a2,a3,a4,X,U,Z,a8,O,H,I,af⟩:=o.out.box
 go_wp2_with fail
 refine (zh (Cx.mk D j false) L E A S q (-1) 0 1 zar _ ao.out.tok J (by decide)).mono ?_
 rintro e w5 ⟨rfl,aa⟩
 rw[h4]
 replace o:=zc (o.out.below aa)
 replace z:=zc (z.out.below aa)
 have aN:=zc (ay.out.below aa)
 have aq:=zc (ao.out.later aa)
 clear aa ay ao
 clear Q a1 a2 a3 a4 X U Z a8 O H I af
 obtain⟨Q,a1,a2,a3,a4,X,U,Z,a8,O,H,I,af⟩:=o.out.box
 go_wp2_with fail
 refine (zh (Cx.mk D j false) L E A S q (-1) 0 1 za3 _ aq.out.tok J (by decide)).mono ?_
 rintro e w6 ⟨rfl,Y⟩
 rw[h5]
 replace o:=zc (o.out.below Y)
 replace z:=zc (z.out.below Y)
 have aE:=zc (aN.out.below Y)
 have aJ:=zc (aq.out.later Y)
 clear Y aN aq
 clear Q a1 a2 a3 a4 X U Z a8 O H I af
 obtain⟨Q,a1,a2,a3,a4,X,U,Z,a8,O,H,I,af⟩:=o.out.box
 go_wp2_with fail
 refine (zbe (Cx.mk D j false) L E A (.ok q) S q (-1) 0 false _ (zX q) aJ.out).mono ?_
 rintro e w7 ⟨S7,q7,z7,n7,rfl,i7,m7,s7⟩
 replace o:=zc (o.out.stp s7)
 replace z:=zc (z.out.stp s7)
 have aM:=zc (aE.out.step s7)
 clear aE
 have am:=zc m7
 have aK:=zc i7
 clear i7 m7 s7 aJ
 clear Q a1 a2 a3 a4 X U Z a8 O H I af
 have aZ:w.heap.size+1<w7.heap.size:=z.out.lt
 unfold pv
 go_upto_region 19 with fail
 refine zL (R:=fun W=>Bx L S7 W (w.heap.size) _∧Bx L S7 W (w.heap.size+1) _∧Bx L S7 W (w7.heap.size) _∧Mem (Cx.mk D j false) L E A S7 q7 W∧SB w.heap.size S w S7 W) ⟨(o.out.alloc _),(z.out.alloc _),(Bx.new am.out _),(am.out.alloc _),(aM.out.alloc _)⟩ ?_
 clear o z aM am
 rintro w8 ⟨X0,X1,X2,m8,t8⟩
 have o:=zc X0
 have z:=zc X1
 have K:=zc X2
 have aD:=zc m8
 have aP:=zc t8
 clear m8 t8 X0 X1 X2
 obtain⟨c0,c1,c2,c3,c4,c5,c6,c7,c8,c9,aS,aV,cf⟩:=K.out.box
 go_wp2_with fail
 refine (zad (Cx.mk D j false) L E A _ S7 q7 z7 0 cEq _ aK.out.fst aD.out).mono ?_
 rintro e w9 ⟨S9,q9,z9,rfl,i9,m9,s9⟩
 replace o:=zc (o.out.stp s9)
 replace z:=zc (z.out.stp s9)
 replace K:=zc (K.out.stp s9)
 have aL:=zc (aP.out.step s9)
 clear aP
 have aA:=zc m9
 have aU:=zc i9
 clear i9 m9 s9 aD
 clear c0 c1 c2 c3 c4 c5 c6 c7 c8 c9 aS aV cf
 go_wp2_with fail
 refine (zcN (Cx.mk D j false) L E A _ S9 q9 z9 _ aU.out aA.out).mono ?_
 rintro e bb ⟨aT,aY,aR,rfl,aw,aI,ad⟩
 replace o:=zc (o.out.stp ad)
 replace z:=zc (z.out.stp ad)
 replace K:=zc (K.out.stp ad)
 have aj:=zc (aL.out.step ad)
 clear aL
 have ag:=zc aI
 have az:=zc aw
 clear aw aI ad aA
 go_wp2_with fail
 refine (zad (Cx.mk D j false) L E A _ aT aY aR 0 cSemi _ az.out ag.out).mono ?_
 rintro e bg ⟨aQ,aX,aW,rfl,av,aO,ab⟩
 replace o:=zc (o.out.stp ab)
 replace z:=zc (z.out.stp ab)
 replace K:=zc (K.out.stp ab)
 have ak:=zc (aj.out.step ab)
 clear aj
 have ae:=zc aO
 have ai:=zc av
 clear av aO ab ag
 go_wp2_with fail
 refine (zcK (Cx.mk D j false) L E A _ aQ aX aW 0 3 n7 _ ai.out ae.out (zbh ai.out)).mono ?_
 rintro e bk ⟨bc,bi,bj,rfl,as,aF,N⟩
 replace o:=zc (o.out.stp N)
 replace z:=zc (z.out.stp N)
 replace K:=zc (K.out.stp N)
 have ax:=zc (ak.out.step N)
 clear ak
 have aG:=zc aF
 have aC:=zc as
 clear as aF N ae
 obtain⟨b0,b1,b2,b3,b4,b5,b6,b7,b8,b9,be,ba,bf⟩:=z.out.box
 unfold pv
 go_wp2
 refine bodyPost_ret (results_cell_row rfl _ _ (w.heap.size+1) 53 _ (0,0) _ rfl ((z.out.put ..)).heap Tryz.underlying53 rfl (by kernel_rfl)) rfl ?_
 rw[HV.out,←aK.out.bind (fun q n=>bd (bd (bd (bd (.ok q) (zd (Cx.mk D j false) 4 cEq)) (pE (Cx.mk D j false) .sum 0)) (zd (Cx.mk D j false) 4 cSemi)) (zV (Cx.mk D j false) 3 n)),←ziP]
 exact zY rfl aC.out (aG.out.put z.out ..) (ax.out.put (by omega) ..)
theorem znX (z:List Tk) (j:Nat) (A o n:Nat) (S:Sv) (q:PS) (w:World) (D:Mem (Cx.mk z j false) A o n S q w):
  Calls Tryz.prog 21 #[pv (Cx.mk z j false) A o S q (-1) 0] w (Out (Cx.mk z j false) A o n (zy (Cx.mk z j false) q) 0 S w):=by
 cases E:isT (Cx.mk z j false) q.pos 1 zah with
 |true=>exact znQ z j A o n S q w D E
 |false=>
  cases H:isT (Cx.mk z j false) q.pos 1 zaf with
  |true=>exact znR z j A o n S q w D E H
  |false=>
   cases I:isT (Cx.mk z j false) q.pos 1 zC with
   |true=>exact znS z j A o n S q w D E H I
   |false=>
    cases J:isT (Cx.mk z j false) q.pos 1 zT with
    |true=>exact znT z j A o n S q w D E H I J
    |false=>
     cases K:isT (Cx.mk z j false) q.pos 1 zar with
     |true=>exact znU z j A o n S q w D E H I J K
     |false=>
      cases L:isT (Cx.mk z j false) q.pos 1 za3 with
      |true=>exact znV z j A o n S q w D E H I J K L
      |false=>
       exact znW z j A o n S q w D E H I J K L
theorem znY (C:Cx) (o n j:Nat) (S:Sv) (q:PS) (w:World) (D:Mem C o n j S q w):
  Calls Tryz.prog 21 #[pv C o n S q (-1) 0] w (Out C o n j (zy C q) 0 S w):=by
 obtain⟨E,z,A⟩:=C
 cases A with
 |true=>exact znP E z o n j S q w D
 |false=>exact znX E z o n j S q w D
theorem ziQ (s:ByteArray) (j:Bool) (w:World) (hs:s.size≤4294967296):
  Calls Tryz.prog 6 #[.string s,.bool j] w fun e w'=>ParseOut s j w e w'∧Below w.heap.size w w':=by
 obtain⟨i0,hi,au,av,ao⟩:=info_parts Tryz.infoExp
 go_enter Tryz.func6,Tryz.ntmps6
 go_wp2_with fail
 refine (zly s j _ hs).mono ?_
 rintro e Q ⟨⟨r1,N,K⟩,b1⟩
 have ab:Hid (Below w.heap.size w Q):=((Below.refl _ _).alloc (Nat.le_refl _) _).trans (b1.mono (by rw[zk];omega))
 have hG:Q.heap[w.heap.size]? =some (.cells #[.slice none 0 0,.slice none 0 0,.slice none 0 0,.slice none 0 0,.slice none 0 0] 28 (0,0)):=(b1.block _ (by rw[zk];omega)).trans (heap_alloc_new w _)
 rw[zk] at b1
 cases r1 with
 |error p=>
  obtain⟨g,L,rfl,q⟩:=K
  have HY:Hid (zb7 s j (.error p)):=⟨_,N,rfl⟩
  have HG:=zc hG
  obtain⟨c0,c1,c2,c3,c4,cf⟩:=zl hG
  have dz:decide ((0:Int)≤(p:Int))=true:=decide_eq_true (by omega)
  clear q N b1 hG
  go_wp2
  refine bodyPost_ret (zaA rfl _ _ w.heap.size 28 _ (0,0) _ rfl (zcZ HG.out) Tryz.underlying28 rfl (by kernel_rfl)) rfl ?_
  exact⟨⟨_,HY.out,rfl⟩,zd0 ab.out (Nat.le_refl _) _ _ _ _ _⟩
 |ok z=>
  obtain⟨g,n,L,rfl,q⟩:=K
  obtain rfl:n=z.length:=q.2
  rw[zk] at q
  have ai:w.heap.size+1≤Q.heap.size:=by have:=b1.size;rw[zk] at this;exact this
  have ak:=zhN N
  have HR:=zc N
  have aj:Mem ⟨z,s.size,j⟩ g L (w.heap.size+1) S0 zbC Q:=zhO q ak ai
  have al:=zc aj
  have HG:=zc hG
  clear q N aj hG
  go_wp2
  go_loopg [] (z.length+1) (fun k wr=>∃(x':PR) (D:Sv) (U:PS) (z':Int),Is x' U z'∧bd x' (zas ⟨z,s.size,j⟩)=zas ⟨z,s.size,j⟩ zbC∧(z'<0→z.length-U.pos<k)∧Mem ⟨z,s.size,j⟩ g L (w.heap.size+1) D U wr∧Below w.heap.size w wr∧Bx g D wr Q.heap.size #[.slice (some ⟨g,0,none⟩) z.length L,.int .i64 U.pos,.int .i64 s.size,.bool j,.slice D.rq.a U.rq.length D.rq.cap,.slice D.im.a U.im.length D.im.cap,.slice D.ep.a U.ep.length D.ep.cap,.slice D.st.a U.st.length D.st.cap,.slice D.ex.a U.ex.length D.ex.cap,.slice D.la.a U.la.length D.la.cap,.int .i64 z',.int .i64 0]∧wr.heap[w.heap.size]? =some (.cells #[.slice none 0 0,.slice none 0 0,.slice none 0 0,.slice none 0 0,.slice none 0 0] 28 (0,0)))
  case atStart=>exact⟨.ok zbC,S0,zbC,-1,zX _,rfl,fun _=>by show z.length-0<z.length+1;omega,al.out.alloc _,ab.out.alloc ab.out.size _,Bx.new al.out _,(Below.heap_alloc _ _ _ (by omega)).trans HG.out⟩
  case round=>
   obtain⟨x2,S2,I,z2,i2,e2,l2,m2,t2,X0,G2⟩:=hrel
   have ah:=zc i2
   have ac:=zc e2
   have aw:=zc l2
   have o:=zc m2
   have V:=zc t2
   have J:=zc X0
   have E:=zc G2
   have aA:I.pos≤z.length:=m2.inv.pos
   obtain⟨a0,a1,a2,a3,a4,a5,a6,a7,a8,a9,Z,aa,af⟩:=X0.box
   clear i2 e2 l2 m2 t2 X0 G2
   by_cases hz:z2<0
   ·have dz:decide (z2<0)=true:=decide_eq_true hz
    obtain⟨rfl,rfl⟩:=zaC ah.out hz
    by_cases hp:I.pos<z.length
    ·have az:=aw.out hz
     go_wp2_with fail
     refine (znY ⟨z,s.size,j⟩ g L (w.heap.size+1) S2 I _ o.out).mono ?_
     rintro e w3 ⟨S3,q3,z3,rfl,i3,m3,s3⟩
     have an:=zc m3
     have ae:=zc i3
     have X:Hid (Below (w.heap.size+1) wr w3):=s3.under o.out.base o.out.own
     have M:Hid (Bx g S3 w3 Q.heap.size _):=J.out.stp s3
     have aq:Hid (Below w.heap.size w w3):=V.out.trans (X.out.mono (by omega))
     have Y:Hid (w3.heap[w.heap.size]? =some (.cells #[.slice none 0 0,.slice none 0 0,.slice none 0 0,.slice none 0 0,.slice none 0 0] 28 (0,0))):=(X.out.block _ (by omega)).trans E.out
     have HE:Hid (bd (zy ⟨z,s.size,j⟩ I) (zas ⟨z,s.size,j⟩)=zas ⟨z,s.size,j⟩ zbC):=by
      show _=_
      rw[←ac.out,zz,zfu,if_pos hp]
     have HP:Hid (z3<0→I.pos<q3.pos):=fun h=>zft (zaC ae.out h).1
     clear i3 m3 s3 a0 a1 a2 a3 a4 a5 a6 a7 a8 a9 Z aa af
     obtain⟨a0,a1,a2,a3,a4,a5,a6,a7,a8,a9,Z,aa,af⟩:=M.out.box
     unfold pv
     go_wp2
     go_roundg (gk-1)
     case rel=>exact⟨_,S3,q3,z3,ae.out,HE.out,fun h=>by have:=HP.out h;omega,an.out.put M.out _ _ _ _ _ _ _ _ _ _ _ _,zbD aq.out (by omega) _ _ _ _ _ _ _ _ _ _ _ _,M.out.put _ _ _ _ _ _ _ _ _ _ _ _,(zeQ (by omega) ..).trans Y.out⟩
     case measure=>omega
    ·have HD:Hid (zas ⟨z,s.size,j⟩ zbC= .ok I):=by
      show _=_
      rw[←ac.out,zz,zfu,if_neg hp]
     have HY:Hid (zb7 s j (.ok I)):=⟨_,HR.out,HD.out.symm⟩
     have ag:Q.heap.size<wr.heap.size:=J.out.lt
     have ax:=o.out.inv.ep
     have A:=o.out.own.ep
     have X:=o.out.base
     rcases o.out.own.la.nil_or with ⟨ha,hc,hn⟩|⟨gl,ha⟩
     ·have HN:Hid (I.la=[]):=List.eq_nil_of_length_eq_zero hn
      rw[ha,hc,hn] at a9
      obtain⟨c0,c1,c2,c3,c4,cf⟩:=zl E.out
      clear ha hc hn
      go_wp2_with (at_builtin;refine zlm _ rfl _ _ 24 rfl 102 i0 Tryz.underlying24 hi (w.heap.size+1) 4 I.ep.length S2.ep _ (by rfl) A (by rfl) ?_)
      clear A
      go_wp2
      refine bodyPost_ret (zaA rfl _ _ w.heap.size 28 _ (0,0) _ rfl (zcZ ((zi (by omega)).trans E.out)) Tryz.underlying28 rfl (by kernel_rfl)) rfl ?_
      refine⟨⟨_,HY.out,S2,by simp[zfv,HN.out],o.out.whole0 HN.out (Nat.lt_succ_self _) J.out.free fun k O h2=>?_⟩,zd0 (V.out.setCell (by show _≤Q.heap.size;omega) _) (Nat.le_refl _) _ _ _ _ _⟩
      rw[zi O,zi O,zi O,zi O,zi O,zi h2]
     ·have ad:OwnR wr (w.heap.size+1) 102 4 ⟨some ⟨gl,0,none⟩,S2.la.cap⟩ I.la.length (I.la.flatMap epL):=by have:=o.out.own.la;unfold OwnR at this ⊢;rw[ha] at this;exact this
      rw[ha] at a9
      go_wp2_with (at_builtin;refine zll _ rfl _ _ 24 rfl (w.heap.size+1) 102 i0 _ 4 56 Tryz.underlying24 hi au av ao rfl (by decide) (by decide) S2.ep I.ep.length _ (by rfl) A gl I.la.length S2.la.cap (w.heap.size+1) _ (by rfl) ad (zgs _) (by omega) X ?_)
      intro r' w3 hr hg am
      have as:=zc hr
      have H:=zc hg
      have ap:=zc am
      have ar:=fun b hb=>zd5 (W:=wr) o.out.own (Nat.le_refl _) (r:=S2.ep.blk) (fun k e=>.inr (.inr (.inl e))) b hb
      have M:Hid (w3.heap[Q.heap.size]? =_):=(hg.block _ ag (fun e=>J.out.free (.inr (.inr (.inl e.symm))))).trans J.out.heap
      have Y:Hid (w3.heap[w.heap.size]? =_):=(hg.block _ (by omega) (fun e=>by have:=(A.typed e.symm).1;omega)).trans E.out
      clear a0 a1 a2 a3 a4 a5 a6 a7 a8 a9 Z aa af hr hg am ar A ad
      obtain⟨a0,a1,a2,a3,a4,a5,a6,a7,a8,a9,Z,aa,af⟩:=zaj M.out
      obtain⟨c0,c1,c2,c3,c4,cf⟩:=zl Y.out
      go_wp2
      refine bodyPost_ret (zaA rfl _ _ w.heap.size 28 _ (0,0) _ rfl (zcZ ((zi (by omega)).trans Y.out)) Tryz.underlying28 rfl (by kernel_rfl)) rfl ?_
      refine⟨⟨_,HY.out,{S2 with ep:=r'},by simp[zfv],o.out.whole H.out as.out ap.out (Nat.lt_succ_self _) ag J.out.free fun k O h2=>?_⟩,zd0 ((V.out.trans (Below.mono (B:=w.heap.size+1) ⟨H.out.os,H.out.tape,H.out.output,H.out.size,fun k hk=>H.out.block k (by omega) fun e=>by have:=(o.out.own.ep.typed e.symm).1;omega⟩ (by omega))).setCell (by show _≤Q.heap.size;omega) _) (Nat.le_refl _) _ _ _ _ _⟩
      rw[zi O,zi O,zi O,zi O,zi O,zi h2]
   ·have dz:decide (z2<0)=false:=decide_eq_false hz
    obtain⟨e0,rfl,rfl⟩:=zdc ah.out hz
    have ay:decide ((0:Int)≤(e0:Int))=true:=decide_eq_true (by omega)
    have HY:Hid (zb7 s j (.error e0)):=⟨_,HR.out,(show (.error e0:PR)=zas ⟨z,s.size,j⟩ zbC from ac.out)⟩
    obtain⟨c0,c1,c2,c3,c4,cf⟩:=zl E.out
    go_wp2
    go_region
    all_goals
     go_wp2
     refine bodyPost_ret (zaA rfl _ _ w.heap.size 28 _ (0,0) _ rfl (zcZ E.out) Tryz.underlying28 rfl (by kernel_rfl)) rfl ?_
     exact⟨⟨_,HY.out,rfl⟩,(zd0 V.out (Nat.le_refl _) ..).drew⟩
end Go.Proofs.YticdggnnpjachaaGreat
