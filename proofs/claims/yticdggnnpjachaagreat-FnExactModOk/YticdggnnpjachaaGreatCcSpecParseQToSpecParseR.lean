/-
  What spec's l4Item answers outside of a script: the walks.
  What spec.Parse answers: the walk.
-/
import Derived.Test.YticdggnnpjachaaGreatCcSpecParseMToSpecParseP
namespace Go.Proofs.YticdggnnpjachaaGreat
set_option maxRecDepth 100000
set_option maxHeartbeats 6400000
open Go.RowKit Go.PlainAid
theorem zpI (o:List Tk) (h:Nat) (I z j:Nat) (S:Sv) (q:PS) (w:World) (L:Mem (Cx.mk o h false) I z j S q w) (N:isT (Cx.mk o h false) q.pos 1 zae=true):
  Calls Tryz.prog 21 #[pv (Cx.mk o h false) I z S q (-1) 0] w (Out (Cx.mk o h false) I z j (zy (Cx.mk o h false) q) 0 S w):=by
 have HM:=zc L
 have A:=L.tok
 have H:(Cx.mk o h false).ts.length≤4000:=L.few
 clear L
 have HV:Hid (zy (Cx.mk o h false) q=zaK (Cx.mk o h false) q):=by show zy (Cx.mk o h false) q=_;rw[zy,N];rfl
 unfold pv
 go_enter Tryz.func21,Tryz.ntmps21
 go_wp2_with fail
 refine (zg (Cx.mk o h false) I z j S q (-1) 0 1 zae _ (zo (zo A _) _) H (by decide)).mono ?_
 rintro e w1 ⟨rfl,E⟩
 rw[N]
 obtain⟨Z,X1,m1,t1⟩:=HM.out.two E
 have D:=zc Z
 have n:=zc X1
 have J:=zc m1
 have K:=zc t1
 clear Z X1 m1 t1 E
 clear A
 obtain⟨a0,a1,a2,a3,a4,a5,a6,a7,a8,a9,O,V,af⟩:=D.out.box
 go_wp2_with fail
 refine (zp9 (Cx.mk o h false) I z j S q _ J.out N).mono ?_
 rintro e w2 ⟨S2,q2,z2,rfl,i2,m2,M⟩
 replace D:=zc (D.out.stp M)
 replace n:=zc (n.out.stp M)
 have X:=zc (K.out.step M)
 clear K
 have U:=zc m2
 have Y:=zc i2
 clear i2 m2 M J
 clear a0 a1 a2 a3 a4 a5 a6 a7 a8 a9 O V af
 obtain⟨b0,b1,b2,b3,b4,b5,b6,b7,b8,b9,ab,aa,bf⟩:=n.out.box
 unfold pv
 go_wp2
 refine bodyPost_ret (results_cell_row rfl _ _ (w.heap.size+1) 53 _ (0,0) _ rfl ((n.out.put ..)).heap Tryz.underlying53 rfl (by kernel_rfl)) rfl ?_
 rw[HV.out]
 exact zW rfl Y.out (U.out.put n.out ..) (X.out.put (by omega) ..)
theorem zpJ (z:List Tk) (h:Nat) (L A j:Nat) (S:Sv) (q:PS) (w:World) (V:Mem (Cx.mk z h false) L A j S q w) (h0:isT (Cx.mk z h false) q.pos 1 zae=false) (h1:isT (Cx.mk z h false) q.pos 1 zad=true):
  Calls Tryz.prog 21 #[pv (Cx.mk z h false) L A S q (-1) 0] w (Out (Cx.mk z h false) L A j (zy (Cx.mk z h false) q) 0 S w):=by
 have HM:=zc V
 have H:=V.tok
 have E:(Cx.mk z h false).ts.length≤4000:=V.few
 clear V
 have HV:Hid (zy (Cx.mk z h false) q=zaf (Cx.mk z h false) q):=by show zy (Cx.mk z h false) q=_;rw[zy,h0,h1];rfl
 unfold pv
 go_enter Tryz.func21,Tryz.ntmps21
 go_wp2_with fail
 refine (zg (Cx.mk z h false) L A j S q (-1) 0 1 zae _ (zo (zo H _) _) E (by decide)).mono ?_
 rintro e w1 ⟨rfl,M⟩
 rw[h0]
 obtain⟨X0,X1,m1,t1⟩:=HM.out.two M
 have o:=zc X0
 have n:=zc X1
 have K:=zc m1
 have O:=zc t1
 clear X0 X1 m1 t1 M
 clear H
 obtain⟨a0,a1,a2,a3,a4,Y,Z,a7,a8,a9,I,J,af⟩:=o.out.box
 go_wp2_with fail
 refine (zg (Cx.mk z h false) L A j S q (-1) 0 1 zad _ K.out.tok E (by decide)).mono ?_
 rintro e w2 ⟨rfl,D⟩
 rw[h1]
 replace o:=zc (o.out.below D)
 replace n:=zc (n.out.below D)
 have U:=zc (O.out.below D)
 have N:=zc (K.out.later D)
 clear D O K
 clear a0 a1 a2 a3 a4 Y Z a7 a8 a9 I J af
 obtain⟨a0,a1,a2,a3,a4,Y,Z,a7,a8,a9,I,J,af⟩:=o.out.box
 go_wp2_with fail
 refine (zpA (Cx.mk z h false) L A j S q _ N.out h1).mono ?_
 rintro e w3 ⟨S3,q3,z3,rfl,i3,m3,X⟩
 replace o:=zc (o.out.stp X)
 replace n:=zc (n.out.stp X)
 have aa:=zc (U.out.step X)
 clear U
 have ac:=zc m3
 have ab:=zc i3
 clear i3 m3 X N
 clear a0 a1 a2 a3 a4 Y Z a7 a8 a9 I J af
 obtain⟨b0,b1,b2,b3,b4,b5,b6,b7,b8,b9,ae,ad,bf⟩:=n.out.box
 unfold pv
 go_wp2
 refine bodyPost_ret (results_cell_row rfl _ _ (w.heap.size+1) 53 _ (0,0) _ rfl ((n.out.put ..)).heap Tryz.underlying53 rfl (by kernel_rfl)) rfl ?_
 rw[HV.out]
 exact zW rfl ab.out (ac.out.put n.out ..) (aa.out.put (by omega) ..)
theorem zpK (A:List Tk) (h:Nat) (H z o:Nat) (S:Sv) (q:PS) (w:World) (hm:Mem (Cx.mk A h false) H z o S q w) (h0:isT (Cx.mk A h false) q.pos 1 zae=false) (h1:isT (Cx.mk A h false) q.pos 1 zad=false) (h2:isT (Cx.mk A h false) q.pos 1 zA=true):
  Calls Tryz.prog 21 #[pv (Cx.mk A h false) H z S q (-1) 0] w (Out (Cx.mk A h false) H z o (zy (Cx.mk A h false) q) 0 S w):=by
 have HM:=zc hm
 have L:=hm.tok
 have E:(Cx.mk A h false).ts.length≤4000:=hm.few
 clear hm
 have HV:Hid (zy (Cx.mk A h false) q=zaG (zcm (Cx.mk A h false) q)):=by show zy (Cx.mk A h false) q=_;rw[zy,h0,h1,h2];rfl
 unfold pv
 go_enter Tryz.func21,Tryz.ntmps21
 go_wp2_with fail
 refine (zg (Cx.mk A h false) H z o S q (-1) 0 1 zae _ (zo (zo L _) _) E (by decide)).mono ?_
 rintro e w1 ⟨rfl,aa⟩
 rw[h0]
 obtain⟨U,Y,m1,t1⟩:=HM.out.two aa
 have n:=zc U
 have j:=zc Y
 have N:=zc m1
 have ad:=zc t1
 clear U Y m1 t1 aa
 clear L
 obtain⟨a0,a1,a2,a3,a4,a5,V,a7,a8,a9,D,I,af⟩:=n.out.box
 go_wp2_with fail
 refine (zg (Cx.mk A h false) H z o S q (-1) 0 1 zad _ N.out.tok E (by decide)).mono ?_
 rintro e w2 ⟨rfl,J⟩
 rw[h1]
 replace n:=zc (n.out.below J)
 replace j:=zc (j.out.below J)
 have ae:=zc (ad.out.below J)
 have M:=zc (N.out.later J)
 clear J ad N
 clear a0 a1 a2 a3 a4 a5 V a7 a8 a9 D I af
 obtain⟨a0,a1,a2,a3,a4,a5,V,a7,a8,a9,D,I,af⟩:=n.out.box
 go_wp2_with fail
 refine (zg (Cx.mk A h false) H z o S q (-1) 0 1 zA _ M.out.tok E (by decide)).mono ?_
 rintro e w3 ⟨rfl,K⟩
 rw[h2]
 replace n:=zc (n.out.below K)
 replace j:=zc (j.out.below K)
 have X:=zc (ae.out.below K)
 have ac:=zc (M.out.later K)
 clear K ae M
 clear a0 a1 a2 a3 a4 a5 V a7 a8 a9 D I af
 obtain⟨a0,a1,a2,a3,a4,a5,V,a7,a8,a9,D,I,af⟩:=n.out.box
 go_wp2_with fail
 refine (zg1 (Cx.mk A h false) H z o S q _ ac.out).mono ?_
 rintro e w4 ⟨Z,q4,z4,n4,rfl,i4,m4,s4⟩
 replace n:=zc (n.out.stp s4)
 replace j:=zc (j.out.stp s4)
 have ab:=zc (X.out.step s4)
 clear X
 have O:=zc m4
 have ag:=zc i4
 clear i4 m4 s4 ac
 clear a0 a1 a2 a3 a4 a5 V a7 a8 a9 D I af
 have ak:w.heap.size+1<w4.heap.size:=j.out.lt
 unfold pv
 go_upto_region 7 with fail
 refine zJ (R:=fun W=>Bx H Z W (w.heap.size) _∧Bx H Z W (w.heap.size+1) _∧Bx H Z W (w4.heap.size) _∧Mem (Cx.mk A h false) H z o Z q4 W∧SB w.heap.size S w Z W) ⟨(n.out.alloc _),(j.out.alloc _),(Bx.new O.out _),(O.out.alloc _),(ab.out.alloc _)⟩ ?_
 clear n j ab O
 rintro w5 ⟨U,Y,X2,m5,t5⟩
 have n:=zc U
 have j:=zc Y
 have ah:=zc X2
 have ai:=zc m5
 have aj:=zc t5
 clear m5 t5 U Y X2
 obtain⟨b0,b1,b2,b3,b4,b5,b6,b7,b8,b9,am,al,bf⟩:=j.out.box
 obtain⟨c0,c1,c2,c3,c4,c5,c6,c7,c8,c9,an,ao,cf⟩:=ah.out.box
 go_wp2
 refine bodyPost_ret (results_cell_row rfl _ _ (w.heap.size+1) 53 _ (0,0) _ rfl ((j.out.put ..)).heap Tryz.underlying53 rfl (by kernel_rfl)) rfl ?_
 rw[HV.out]
 exact zW rfl ag.out.fst (ai.out.put j.out ..) (aj.out.put (by omega) ..)
theorem zpL (A:List Tk) (h:Nat) (I z o:Nat) (S:Sv) (q:PS) (w:World) (hm:Mem (Cx.mk A h false) I z o S q w) (h0:isT (Cx.mk A h false) q.pos 1 zae=false) (h1:isT (Cx.mk A h false) q.pos 1 zad=false) (h2:isT (Cx.mk A h false) q.pos 1 zA=false) (h3:isT (Cx.mk A h false) q.pos 1 zO=true):
  Calls Tryz.prog 21 #[pv (Cx.mk A h false) I z S q (-1) 0] w (Out (Cx.mk A h false) I z o (zy (Cx.mk A h false) q) 0 S w):=by
 have HM:=zc hm
 have M:=hm.tok
 have H:(Cx.mk A h false).ts.length≤4000:=hm.few
 clear hm
 have HV:Hid (zy (Cx.mk A h false) q=zaG (fnP (Cx.mk A h false) q)):=by show zy (Cx.mk A h false) q=_;rw[zy,h0,h1,h2,h3];rfl
 unfold pv
 go_enter Tryz.func21,Tryz.ntmps21
 go_wp2_with fail
 refine (zg (Cx.mk A h false) I z o S q (-1) 0 1 zae _ (zo (zo M _) _) H (by decide)).mono ?_
 rintro e w1 ⟨rfl,ab⟩
 rw[h0]
 obtain⟨X0,X1,m1,t1⟩:=HM.out.two ab
 have n:=zc X0
 have j:=zc X1
 have U:=zc m1
 have ag:=zc t1
 clear X0 X1 m1 t1 ab
 clear M
 obtain⟨a0,a1,a2,a3,a4,a5,N,Y,a8,a9,D,E,X⟩:=n.out.box
 go_wp2_with fail
 refine (zg (Cx.mk A h false) I z o S q (-1) 0 1 zad _ U.out.tok H (by decide)).mono ?_
 rintro e w2 ⟨rfl,K⟩
 rw[h1]
 replace n:=zc (n.out.below K)
 replace j:=zc (j.out.below K)
 have ah:=zc (ag.out.below K)
 have O:=zc (U.out.later K)
 clear K ag U
 clear a0 a1 a2 a3 a4 a5 N Y a8 a9 D E X
 obtain⟨a0,a1,a2,a3,a4,a5,N,Y,a8,a9,D,E,X⟩:=n.out.box
 go_wp2_with fail
 refine (zg (Cx.mk A h false) I z o S q (-1) 0 1 zA _ O.out.tok H (by decide)).mono ?_
 rintro e w3 ⟨rfl,L⟩
 rw[h2]
 replace n:=zc (n.out.below L)
 replace j:=zc (j.out.below L)
 have aa:=zc (ah.out.below L)
 have Z:=zc (O.out.later L)
 clear L ah O
 clear a0 a1 a2 a3 a4 a5 N Y a8 a9 D E X
 obtain⟨a0,a1,a2,a3,a4,a5,N,Y,a8,a9,D,E,X⟩:=n.out.box
 go_wp2_with fail
 refine (zg (Cx.mk A h false) I z o S q (-1) 0 1 zO _ Z.out.tok H (by decide)).mono ?_
 rintro e w4 ⟨rfl,J⟩
 rw[h3]
 replace n:=zc (n.out.below J)
 replace j:=zc (j.out.below J)
 have ac:=zc (aa.out.below J)
 have ad:=zc (Z.out.later J)
 clear J aa Z
 clear a0 a1 a2 a3 a4 a5 N Y a8 a9 D E X
 obtain⟨a0,a1,a2,a3,a4,a5,N,Y,a8,a9,D,E,X⟩:=n.out.box
 go_wp2_with fail
 refine (zg2 (Cx.mk A h false) I z o S q _ ad.out).mono ?_
 rintro e w5 ⟨S5,q5,z5,n5,rfl,i5,m5,s5⟩
 replace n:=zc (n.out.stp s5)
 replace j:=zc (j.out.stp s5)
 have ae:=zc (ac.out.step s5)
 clear ac
 have V:=zc m5
 have al:=zc i5
 clear i5 m5 s5 ad
 clear a0 a1 a2 a3 a4 a5 N Y a8 a9 D E X
 have am:w.heap.size+1<w5.heap.size:=j.out.lt
 unfold pv
 go_upto_region 10 with fail
 refine zJ (R:=fun W=>Bx I S5 W (w.heap.size) _∧Bx I S5 W (w.heap.size+1) _∧Bx I S5 W (w5.heap.size) _∧Mem (Cx.mk A h false) I z o S5 q5 W∧SB w.heap.size S w S5 W) ⟨(n.out.alloc _),(j.out.alloc _),(Bx.new V.out _),(V.out.alloc _),(ae.out.alloc _)⟩ ?_
 clear n j ae V
 rintro w6 ⟨X0,X1,X2,m6,t6⟩
 have n:=zc X0
 have j:=zc X1
 have ai:=zc X2
 have aj:=zc m6
 have ak:=zc t6
 clear m6 t6 X0 X1 X2
 obtain⟨b0,b1,b2,b3,b4,b5,b6,b7,b8,b9,ao,an,bf⟩:=j.out.box
 obtain⟨c0,c1,c2,c3,c4,c5,c6,c7,c8,c9,ap,aq,cf⟩:=ai.out.box
 go_wp2
 refine bodyPost_ret (results_cell_row rfl _ _ (w.heap.size+1) 53 _ (0,0) _ rfl ((j.out.put ..)).heap Tryz.underlying53 rfl (by kernel_rfl)) rfl ?_
 rw[HV.out]
 exact zW rfl al.out.fst (aj.out.put j.out ..) (ak.out.put (by omega) ..)
theorem zpM (A:List Tk) (h:Nat) (H z o:Nat) (S:Sv) (q:PS) (w:World) (hm:Mem (Cx.mk A h false) H z o S q w) (h0:isT (Cx.mk A h false) q.pos 1 zae=false) (h1:isT (Cx.mk A h false) q.pos 1 zad=false) (h2:isT (Cx.mk A h false) q.pos 1 zA=false) (h3:isT (Cx.mk A h false) q.pos 1 zO=false) (h4:isT (Cx.mk A h false) q.pos 1 zap=true):
  Calls Tryz.prog 21 #[pv (Cx.mk A h false) H z S q (-1) 0] w (Out (Cx.mk A h false) H z o (zy (Cx.mk A h false) q) 0 S w):=by
 have HM:=zc hm
 have ae:=hm.tok
 have I:(Cx.mk A h false).ts.length≤4000:=hm.few
 clear hm
 have HV:Hid (zy (Cx.mk A h false) q=bd (bd (bd (bd (bd (bd (.ok q) (zd (Cx.mk A h false) 1 zap)) (zd (Cx.mk A h false) 4 zm)) (pE (Cx.mk A h false) .sum 0)) (zd (Cx.mk A h false) 4 zay)) (zd (Cx.mk A h false) 4 cSemi)) (zX (Cx.mk A h false) 4 sNone)):=by show zy (Cx.mk A h false) q=_;rw[zy,h0,h1,h2,h3,h4];rfl
 unfold pv
 go_enter Tryz.func21,Tryz.ntmps21
 go_wp2_with fail
 refine (zg (Cx.mk A h false) H z o S q (-1) 0 1 zae _ (zo (zo ae _) _) I (by decide)).mono ?_
 rintro e w1 ⟨rfl,au⟩
 rw[h0]
 obtain⟨X0,X1,m1,t1⟩:=HM.out.two au
 have j:=zc X0
 have n:=zc X1
 have ai:=zc m1
 have aI:=zc t1
 clear X0 X1 m1 t1 au
 clear ae
 obtain⟨Z,a1,a2,a3,a4,a5,V,Y,a8,a9,D,E,X⟩:=j.out.box
 go_wp2_with fail
 refine (zg (Cx.mk A h false) H z o S q (-1) 0 1 zad _ ai.out.tok I (by decide)).mono ?_
 rintro e w2 ⟨rfl,O⟩
 rw[h1]
 replace j:=zc (j.out.below O)
 replace n:=zc (n.out.below O)
 have aJ:=zc (aI.out.below O)
 have ah:=zc (ai.out.later O)
 clear O aI ai
 clear Z a1 a2 a3 a4 a5 V Y a8 a9 D E X
 obtain⟨Z,a1,a2,a3,a4,a5,V,Y,a8,a9,D,E,X⟩:=j.out.box
 go_wp2_with fail
 refine (zg (Cx.mk A h false) H z o S q (-1) 0 1 zA _ ah.out.tok I (by decide)).mono ?_
 rintro e w3 ⟨rfl,U⟩
 rw[h2]
 replace j:=zc (j.out.below U)
 replace n:=zc (n.out.below U)
 have an:=zc (aJ.out.below U)
 have al:=zc (ah.out.later U)
 clear U aJ ah
 clear Z a1 a2 a3 a4 a5 V Y a8 a9 D E X
 obtain⟨Z,a1,a2,a3,a4,a5,V,Y,a8,a9,D,E,X⟩:=j.out.box
 go_wp2_with fail
 refine (zg (Cx.mk A h false) H z o S q (-1) 0 1 zO _ al.out.tok I (by decide)).mono ?_
 rintro e w4 ⟨rfl,K⟩
 rw[h3]
 replace j:=zc (j.out.below K)
 replace n:=zc (n.out.below K)
 have av:=zc (an.out.below K)
 have ak:=zc (al.out.later K)
 clear K an al
 clear Z a1 a2 a3 a4 a5 V Y a8 a9 D E X
 obtain⟨Z,a1,a2,a3,a4,a5,V,Y,a8,a9,D,E,X⟩:=j.out.box
 go_wp2_with fail
 refine (zg (Cx.mk A h false) H z o S q (-1) 0 1 zap _ ak.out.tok I (by decide)).mono ?_
 rintro e w5 ⟨rfl,N⟩
 rw[h4]
 replace j:=zc (j.out.below N)
 replace n:=zc (n.out.below N)
 have aE:=zc (av.out.below N)
 have ay:=zc (ak.out.later N)
 clear N av ak
 clear Z a1 a2 a3 a4 a5 V Y a8 a9 D E X
 obtain⟨Z,a1,a2,a3,a4,a5,V,Y,a8,a9,D,E,X⟩:=j.out.box
 go_wp2_with fail
 refine (zaC (Cx.mk A h false) H z o (.ok q) S q (-1) 0 zap _ (zU q) ay.out).mono ?_
 rintro e w6 ⟨S6,q6,z6,rfl,i6,m6,s6⟩
 replace j:=zc (j.out.stp s6)
 replace n:=zc (n.out.stp s6)
 have aB:=zc (aE.out.step s6)
 clear aE
 have ap:=zc m6
 have aM:=zc i6
 clear i6 m6 s6 ay
 clear Z a1 a2 a3 a4 a5 V Y a8 a9 D E X
 go_wp2_with fail
 refine (zab (Cx.mk A h false) H z o _ S6 q6 z6 0 zm _ aM.out ap.out).mono ?_
 rintro e w7 ⟨S7,q7,z7,rfl,i7,m7,s7⟩
 replace j:=zc (j.out.stp s7)
 replace n:=zc (n.out.stp s7)
 have as:=zc (aB.out.step s7)
 clear aB
 have aC:=zc m7
 have aL:=zc i7
 clear i7 m7 s7 ap
 go_wp2_with fail
 refine (zcE (Cx.mk A h false) H z o _ S7 q7 z7 _ aL.out aC.out).mono ?_
 rintro e w8 ⟨S8,q8,z8,rfl,i8,m8,s8⟩
 replace j:=zc (j.out.stp s8)
 replace n:=zc (n.out.stp s8)
 have aq:=zc (as.out.step s8)
 clear as
 have ar:=zc m8
 have aO:=zc i8
 clear i8 m8 s8 aC
 go_wp2_with fail
 refine (zab (Cx.mk A h false) H z o _ S8 q8 z8 0 zay _ aO.out ar.out).mono ?_
 rintro e w9 ⟨S9,q9,z9,rfl,i9,m9,s9⟩
 replace j:=zc (j.out.stp s9)
 replace n:=zc (n.out.stp s9)
 have am:=zc (aq.out.step s9)
 clear aq
 have aj:=zc m9
 have aK:=zc i9
 clear i9 m9 s9 ar
 have aT:w.heap.size+1<w9.heap.size:=n.out.lt
 unfold pv
 go_upto_region 13 with fail
 refine zJ (R:=fun W=>Bx H S9 W (w.heap.size) _∧Bx H S9 W (w.heap.size+1) _∧Bx H S9 W (w9.heap.size) _∧Mem (Cx.mk A h false) H z o S9 q9 W∧SB w.heap.size S w S9 W) ⟨(j.out.alloc _),(n.out.alloc _),(Bx.new aj.out _),(aj.out.alloc _),(am.out.alloc _)⟩ ?_
 clear j n am aj
 rintro aZ ⟨X0,X1,X2,aG,aA⟩
 have j:=zc X0
 have n:=zc X1
 have J:=zc X2
 have ag:=zc aG
 have aa:=zc aA
 clear aG aA X0 X1 X2
 obtain⟨c0,c1,c2,c3,c4,c5,c6,c7,c8,c9,aN,aR,cf⟩:=J.out.box
 go_wp2_with fail
 refine (zab (Cx.mk A h false) H z o _ S9 q9 z9 0 cSemi _ aK.out ag.out).mono ?_
 rintro e bb ⟨aP,aQ,aS,rfl,aH,aD,L⟩
 replace j:=zc (j.out.stp L)
 replace n:=zc (n.out.stp L)
 replace J:=zc (J.out.stp L)
 have ab:=zc (aa.out.step L)
 clear aa
 have ad:=zc aD
 have ac:=zc aH
 clear aH aD L ag
 clear c0 c1 c2 c3 c4 c5 c6 c7 c8 c9 aN aR cf
 go_wp2_with fail
 refine (zc4 (Cx.mk A h false) H z o _ aP aQ aS 0 4 sNone _ ac.out ad.out (zaZ ac.out)).mono ?_
 rintro e aY ⟨aU,ba,aX,rfl,aw,ao,M⟩
 replace j:=zc (j.out.stp M)
 replace n:=zc (n.out.stp M)
 replace J:=zc (J.out.stp M)
 have aF:=zc (ab.out.step M)
 clear ab
 have az:=zc ao
 have ax:=zc aw
 clear aw ao M ad
 obtain⟨b0,b1,b2,b3,b4,b5,b6,b7,b8,b9,aW,aV,bf⟩:=n.out.box
 unfold pv
 go_wp2
 refine bodyPost_ret (results_cell_row rfl _ _ (w.heap.size+1) 53 _ (0,0) _ rfl ((n.out.put ..)).heap Tryz.underlying53 rfl (by kernel_rfl)) rfl ?_
 rw[HV.out]
 exact zW rfl ax.out (az.out.put n.out ..) (aF.out.put (by omega) ..)
theorem zpN (z:List Tk) (h:Nat) (I A o:Nat) (S:Sv) (q:PS) (w:World) (hm:Mem (Cx.mk z h false) I A o S q w) (h0:isT (Cx.mk z h false) q.pos 1 zae=false) (h1:isT (Cx.mk z h false) q.pos 1 zad=false) (h2:isT (Cx.mk z h false) q.pos 1 zA=false) (h3:isT (Cx.mk z h false) q.pos 1 zO=false) (h4:isT (Cx.mk z h false) q.pos 1 zap=false) (h5:isT (Cx.mk z h false) q.pos 1 za0=true):
  Calls Tryz.prog 21 #[pv (Cx.mk z h false) I A S q (-1) 0] w (Out (Cx.mk z h false) I A o (zy (Cx.mk z h false) q) 0 S w):=by
 have HM:=zc hm
 have ac:=hm.tok
 have H:(Cx.mk z h false).ts.length≤4000:=hm.few
 clear hm
 have HV:Hid (zy (Cx.mk z h false) q=bd (bd (bd (bd (.ok q) (zd (Cx.mk z h false) 1 za0)) (pE (Cx.mk z h false) .sum 0)) (zd (Cx.mk z h false) 4 cSemi)) (zX (Cx.mk z h false) 5 sNone)):=by show zy (Cx.mk z h false) q=_;rw[zy,h0,h1,h2,h3,h4,h5];rfl
 unfold pv
 go_enter Tryz.func21,Tryz.ntmps21
 go_wp2_with fail
 refine (zg (Cx.mk z h false) I A o S q (-1) 0 1 zae _ (zo (zo ac _) _) H (by decide)).mono ?_
 rintro e w1 ⟨rfl,aq⟩
 rw[h0]
 obtain⟨X0,X1,m1,t1⟩:=HM.out.two aq
 have j:=zc X0
 have n:=zc X1
 have ae:=zc m1
 have aC:=zc t1
 clear X0 X1 m1 t1 aq
 clear ac
 obtain⟨O,X,Z,U,a4,a5,J,M,a8,a9,D,E,L⟩:=j.out.box
 go_wp2_with fail
 refine (zg (Cx.mk z h false) I A o S q (-1) 0 1 zad _ ae.out.tok H (by decide)).mono ?_
 rintro e w2 ⟨rfl,Y⟩
 rw[h1]
 replace j:=zc (j.out.below Y)
 replace n:=zc (n.out.below Y)
 have aD:=zc (aC.out.below Y)
 have ad:=zc (ae.out.later Y)
 clear Y aC ae
 clear O X Z U a4 a5 J M a8 a9 D E L
 obtain⟨O,X,Z,U,a4,a5,J,M,a8,a9,D,E,L⟩:=j.out.box
 go_wp2_with fail
 refine (zg (Cx.mk z h false) I A o S q (-1) 0 1 zA _ ad.out.tok H (by decide)).mono ?_
 rintro e w3 ⟨rfl,aa⟩
 rw[h2]
 replace j:=zc (j.out.below aa)
 replace n:=zc (n.out.below aa)
 have al:=zc (aD.out.below aa)
 have ai:=zc (ad.out.later aa)
 clear aa aD ad
 clear O X Z U a4 a5 J M a8 a9 D E L
 obtain⟨O,X,Z,U,a4,a5,J,M,a8,a9,D,E,L⟩:=j.out.box
 go_wp2_with fail
 refine (zg (Cx.mk z h false) I A o S q (-1) 0 1 zO _ ai.out.tok H (by decide)).mono ?_
 rintro e w4 ⟨rfl,K⟩
 rw[h3]
 replace j:=zc (j.out.below K)
 replace n:=zc (n.out.below K)
 have ar:=zc (al.out.below K)
 have ah:=zc (ai.out.later K)
 clear K al ai
 clear O X Z U a4 a5 J M a8 a9 D E L
 obtain⟨O,X,Z,U,a4,a5,J,M,a8,a9,D,E,L⟩:=j.out.box
 go_wp2_with fail
 refine (zg (Cx.mk z h false) I A o S q (-1) 0 1 zap _ ah.out.tok H (by decide)).mono ?_
 rintro e w5 ⟨rfl,V⟩
 rw[h4]
 replace j:=zc (j.out.below V)
 replace n:=zc (n.out.below V)
 have ay:=zc (ar.out.below V)
 have ag:=zc (ah.out.later V)
 clear V ar ah
 clear O X Z U a4 a5 J M a8 a9 D E L
 obtain⟨O,X,Z,U,a4,a5,J,M,a8,a9,D,E,L⟩:=j.out.box
 go_wp2_with fail
 refine (zg (Cx.mk z h false) I A o S q (-1) 0 1 za0 _ ag.out.tok H (by decide)).mono ?_
 rintro e w6 ⟨rfl,N⟩
 rw[h5]
 replace j:=zc (j.out.below N)
 replace n:=zc (n.out.below N)
 have av:=zc (ay.out.below N)
 have am:=zc (ag.out.later N)
 clear N ay ag
 clear O X Z U a4 a5 J M a8 a9 D E L
 obtain⟨O,X,Z,U,a4,a5,J,M,a8,a9,D,E,L⟩:=j.out.box
 go_wp2_with fail
 refine (zaC (Cx.mk z h false) I A o (.ok q) S q (-1) 0 za0 _ (zU q) am.out).mono ?_
 rintro e w7 ⟨S7,q7,z7,rfl,i7,m7,s7⟩
 replace j:=zc (j.out.stp s7)
 replace n:=zc (n.out.stp s7)
 have ap:=zc (av.out.step s7)
 clear av
 have aw:=zc m7
 have aE:=zc i7
 clear i7 m7 s7 am
 clear O X Z U a4 a5 J M a8 a9 D E L
 go_wp2_with fail
 refine (zcE (Cx.mk z h false) I A o _ S7 q7 z7 _ aE.out aw.out).mono ?_
 rintro e w8 ⟨S8,q8,z8,rfl,i8,m8,s8⟩
 replace j:=zc (j.out.stp s8)
 replace n:=zc (n.out.stp s8)
 have an:=zc (ap.out.step s8)
 clear ap
 have ao:=zc m8
 have aF:=zc i8
 clear i8 m8 s8 aw
 go_wp2_with fail
 refine (zab (Cx.mk z h false) I A o _ S8 q8 z8 0 cSemi _ aF.out ao.out).mono ?_
 rintro e w9 ⟨S9,q9,z9,rfl,i9,m9,s9⟩
 replace j:=zc (j.out.stp s9)
 replace n:=zc (n.out.stp s9)
 have aj:=zc (an.out.step s9)
 clear an
 have au:=zc m9
 have ak:=zc i9
 clear i9 m9 s9 ao
 go_wp2_with fail
 refine (zc4 (Cx.mk z h false) I A o _ S9 q9 z9 0 5 sNone _ ak.out au.out (zaZ ak.out)).mono ?_
 rintro e aI ⟨aK,aJ,aL,rfl,ax,aA,ab⟩
 replace j:=zc (j.out.stp ab)
 replace n:=zc (n.out.stp ab)
 have as:=zc (aj.out.step ab)
 clear aj
 have aB:=zc aA
 have az:=zc ax
 clear ax aA ab au
 obtain⟨b0,b1,b2,b3,b4,b5,b6,b7,b8,b9,aH,aG,bf⟩:=n.out.box
 unfold pv
 go_wp2
 refine bodyPost_ret (results_cell_row rfl _ _ (w.heap.size+1) 53 _ (0,0) _ rfl ((n.out.put ..)).heap Tryz.underlying53 rfl (by kernel_rfl)) rfl ?_
 rw[HV.out]
 exact zW rfl az.out (aB.out.put n.out ..) (as.out.put (by omega) ..)
theorem zpO (A:List Tk) (h:Nat) (K D z:Nat) (S:Sv) (q:PS) (w:World) (hm:Mem (Cx.mk A h false) K D z S q w) (h0:isT (Cx.mk A h false) q.pos 1 zae=false) (h1:isT (Cx.mk A h false) q.pos 1 zad=false) (h2:isT (Cx.mk A h false) q.pos 1 zA=false) (h3:isT (Cx.mk A h false) q.pos 1 zO=false) (h4:isT (Cx.mk A h false) q.pos 1 zap=false) (h5:isT (Cx.mk A h false) q.pos 1 za0=false):
  Calls Tryz.prog 21 #[pv (Cx.mk A h false) K D S q (-1) 0] w (Out (Cx.mk A h false) K D z (zy (Cx.mk A h false) q) 0 S w):=by
 have HM:=zc hm
 have aj:=hm.tok
 have I:(Cx.mk A h false).ts.length≤4000:=hm.few
 clear hm
 have HV:Hid (zy (Cx.mk A h false) q=bd (bd (.ok q) (zh (Cx.mk A h false) false)) fun a=>bd (bd (bd (bd (.ok a.1) (zd (Cx.mk A h false) 4 cEq)) (pE (Cx.mk A h false) .sum 0)) (zd (Cx.mk A h false) 4 cSemi)) (zX (Cx.mk A h false) 3 a.2)):=by show zy (Cx.mk A h false) q=_;rw[zy,h0,h1,h2,h3,h4,h5];rfl
 unfold pv
 go_enter Tryz.func21,Tryz.ntmps21
 go_wp2_with fail
 refine (zg (Cx.mk A h false) K D z S q (-1) 0 1 zae _ (zo (zo aj _) _) I (by decide)).mono ?_
 rintro e w1 ⟨rfl,aA⟩
 rw[h0]
 obtain⟨X0,X1,m1,t1⟩:=HM.out.two aA
 have j:=zc X0
 have o:=zc X1
 have am:=zc m1
 have aO:=zc t1
 clear X0 X1 m1 t1 aA
 clear aj
 obtain⟨Y,a1,a2,Z,a4,a5,L,O,a8,a9,E,H,N⟩:=j.out.box
 go_wp2_with fail
 refine (zg (Cx.mk A h false) K D z S q (-1) 0 1 zad _ am.out.tok I (by decide)).mono ?_
 rintro e w2 ⟨rfl,ab⟩
 rw[h1]
 replace j:=zc (j.out.below ab)
 replace o:=zc (o.out.below ab)
 have aP:=zc (aO.out.below ab)
 have al:=zc (am.out.later ab)
 clear ab aO am
 clear Y a1 a2 Z a4 a5 L O a8 a9 E H N
 obtain⟨Y,a1,a2,Z,a4,a5,L,O,a8,a9,E,H,N⟩:=j.out.box
 go_wp2_with fail
 refine (zg (Cx.mk A h false) K D z S q (-1) 0 1 zA _ al.out.tok I (by decide)).mono ?_
 rintro e w3 ⟨rfl,ac⟩
 rw[h2]
 replace j:=zc (j.out.below ac)
 replace o:=zc (o.out.below ac)
 have as:=zc (aP.out.below ac)
 have ap:=zc (al.out.later ac)
 clear ac aP al
 clear Y a1 a2 Z a4 a5 L O a8 a9 E H N
 obtain⟨Y,a1,a2,Z,a4,a5,L,O,a8,a9,E,H,N⟩:=j.out.box
 go_wp2_with fail
 refine (zg (Cx.mk A h false) K D z S q (-1) 0 1 zO _ ap.out.tok I (by decide)).mono ?_
 rintro e w4 ⟨rfl,M⟩
 rw[h3]
 replace j:=zc (j.out.below M)
 replace o:=zc (o.out.below M)
 have aB:=zc (as.out.below M)
 have ao:=zc (ap.out.later M)
 clear M as ap
 clear Y a1 a2 Z a4 a5 L O a8 a9 E H N
 obtain⟨Y,a1,a2,Z,a4,a5,L,O,a8,a9,E,H,N⟩:=j.out.box
 go_wp2_with fail
 refine (zg (Cx.mk A h false) K D z S q (-1) 0 1 zap _ ao.out.tok I (by decide)).mono ?_
 rintro e w5 ⟨rfl,aa⟩
 rw[h4]
 replace j:=zc (j.out.below aa)
 replace o:=zc (o.out.below aa)
 have aJ:=zc (aB.out.below aa)
 have an:=zc (ao.out.later aa)
 clear aa aB ao
 clear Y a1 a2 Z a4 a5 L O a8 a9 E H N
 obtain⟨Y,a1,a2,Z,a4,a5,L,O,a8,a9,E,H,N⟩:=j.out.box
 go_wp2_with fail
 refine (zg (Cx.mk A h false) K D z S q (-1) 0 1 za0 _ an.out.tok I (by decide)).mono ?_
 rintro e w6 ⟨rfl,V⟩
 rw[h5]
 replace j:=zc (j.out.below V)
 replace o:=zc (o.out.below V)
 have aG:=zc (aJ.out.below V)
 have av:=zc (an.out.later V)
 clear V aJ an
 clear Y a1 a2 Z a4 a5 L O a8 a9 E H N
 obtain⟨Y,a1,a2,Z,a4,a5,L,O,a8,a9,E,H,N⟩:=j.out.box
 go_wp2_with fail
 refine (zaU (Cx.mk A h false) K D z (.ok q) S q (-1) 0 false _ (zU q) av.out).mono ?_
 rintro e w7 ⟨S7,q7,z7,n7,rfl,i7,m7,s7⟩
 replace j:=zc (j.out.stp s7)
 replace o:=zc (o.out.stp s7)
 have ay:=zc (aG.out.step s7)
 clear aG
 have aq:=zc m7
 have az:=zc i7
 clear i7 m7 s7 av
 clear Y a1 a2 Z a4 a5 L O a8 a9 E H N
 have aZ:w.heap.size+1<w7.heap.size:=o.out.lt
 unfold pv
 go_upto_region 19 with fail
 refine zJ (R:=fun W=>Bx K S7 W (w.heap.size) _∧Bx K S7 W (w.heap.size+1) _∧Bx K S7 W (w7.heap.size) _∧Mem (Cx.mk A h false) K D z S7 q7 W∧SB w.heap.size S w S7 W) ⟨(j.out.alloc _),(o.out.alloc _),(Bx.new aq.out _),(aq.out.alloc _),(ay.out.alloc _)⟩ ?_
 clear j o ay aq
 rintro w8 ⟨X0,X1,X2,m8,t8⟩
 have j:=zc X0
 have o:=zc X1
 have J:=zc X2
 have ax:=zc m8
 have aw:=zc t8
 clear m8 t8 X0 X1 X2
 obtain⟨c0,c1,c2,c3,c4,c5,c6,c7,c8,c9,aR,aX,cf⟩:=J.out.box
 go_wp2_with fail
 refine (zab (Cx.mk A h false) K D z _ S7 q7 z7 0 cEq _ az.out.fst ax.out).mono ?_
 rintro e w9 ⟨S9,q9,z9,rfl,i9,m9,s9⟩
 replace j:=zc (j.out.stp s9)
 replace o:=zc (o.out.stp s9)
 replace J:=zc (J.out.stp s9)
 have ar:=zc (aw.out.step s9)
 clear aw
 have aE:=zc m9
 have aQ:=zc i9
 clear i9 m9 s9 ax
 clear c0 c1 c2 c3 c4 c5 c6 c7 c8 c9 aR aX cf
 go_wp2_with fail
 refine (zcE (Cx.mk A h false) K D z _ S9 q9 z9 _ aQ.out aE.out).mono ?_
 rintro e bh ⟨aT,aS,aV,rfl,aH,aM,ad⟩
 replace j:=zc (j.out.stp ad)
 replace o:=zc (o.out.stp ad)
 replace J:=zc (J.out.stp ad)
 have ae:=zc (ar.out.step ad)
 clear ar
 have ak:=zc aM
 have aK:=zc aH
 clear aH aM ad aE
 go_wp2_with fail
 refine (zab (Cx.mk A h false) K D z _ aT aS aV 0 cSemi _ aK.out ak.out).mono ?_
 rintro e bj ⟨aU,aW,aY,rfl,aN,aI,U⟩
 replace j:=zc (j.out.stp U)
 replace o:=zc (o.out.stp U)
 replace J:=zc (J.out.stp U)
 have ag:=zc (ae.out.step U)
 clear ae
 have ai:=zc aI
 have ah:=zc aN
 clear aN aI U ak
 go_wp2_with fail
 refine (zc4 (Cx.mk A h false) K D z _ aU aW aY 0 3 n7 _ ah.out ai.out (zaZ ah.out)).mono ?_
 rintro e bg ⟨ba,bi,be,rfl,aC,au,X⟩
 replace j:=zc (j.out.stp X)
 replace o:=zc (o.out.stp X)
 replace J:=zc (J.out.stp X)
 have aL:=zc (ag.out.step X)
 clear ag
 have aF:=zc au
 have aD:=zc aC
 clear aC au X ai
 obtain⟨b0,b1,b2,b3,b4,b5,b6,b7,b8,b9,bc,bb,bf⟩:=o.out.box
 unfold pv
 go_wp2
 refine bodyPost_ret (results_cell_row rfl _ _ (w.heap.size+1) 53 _ (0,0) _ rfl ((o.out.put ..)).heap Tryz.underlying53 rfl (by kernel_rfl)) rfl ?_
 rw[HV.out,←az.out.bind (fun q n=>bd (bd (bd (bd (.ok q) (zd (Cx.mk A h false) 4 cEq)) (pE (Cx.mk A h false) .sum 0)) (zd (Cx.mk A h false) 4 cSemi)) (zX (Cx.mk A h false) 3 n)),←zjr]
 exact zW rfl aD.out (aF.out.put o.out ..) (aL.out.put (by omega) ..)
theorem zpP (o:List Tk) (h:Nat) (z n j:Nat) (S:Sv) (q:PS) (w:World) (D:Mem (Cx.mk o h false) z n j S q w):
  Calls Tryz.prog 21 #[pv (Cx.mk o h false) z n S q (-1) 0] w (Out (Cx.mk o h false) z n j (zy (Cx.mk o h false) q) 0 S w):=by
 cases A:isT (Cx.mk o h false) q.pos 1 zae with
 |true=>exact zpI o h z n j S q w D A
 |false=>
  cases E:isT (Cx.mk o h false) q.pos 1 zad with
  |true=>exact zpJ o h z n j S q w D A E
  |false=>
   cases H:isT (Cx.mk o h false) q.pos 1 zA with
   |true=>exact zpK o h z n j S q w D A E H
   |false=>
    cases I:isT (Cx.mk o h false) q.pos 1 zO with
    |true=>exact zpL o h z n j S q w D A E H I
    |false=>
     cases J:isT (Cx.mk o h false) q.pos 1 zap with
     |true=>exact zpM o h z n j S q w D A E H I J
     |false=>
      cases K:isT (Cx.mk o h false) q.pos 1 za0 with
      |true=>exact zpN o h z n j S q w D A E H I J K
      |false=>
       exact zpO o h z n j S q w D A E H I J K
theorem zpQ (C:Cx) (n j h:Nat) (S:Sv) (q:PS) (w:World) (D:Mem C n j h S q w):
  Calls Tryz.prog 21 #[pv C n j S q (-1) 0] w (Out C n j h (zy C q) 0 S w):=by
 obtain⟨A,o,z⟩:=C
 cases z with
 |true=>exact zpH A o n j h S q w D
 |false=>exact zpP A o n j h S q w D
theorem zpR (s:ByteArray) (j:Bool) (w:World) (hs:s.size≤4294967296):
  Calls Tryz.prog 6 #[.string s,.bool j] w fun e w'=>ParseOut s j w e w'∧Below w.heap.size w w':=by
 obtain⟨i0,hi,av,aq,aw⟩:=info_parts Tryz.infoExp
 go_enter Tryz.func6,Tryz.ntmps6
 go_wp2_with fail
 refine (zko s j _ hs).mono ?_
 rintro e U ⟨⟨r1,K,O⟩,b1⟩
 have ad:Hid (Below w.heap.size w U):=((Below.refl _ _).alloc (Nat.le_refl _) _).trans (b1.mono (by rw[zj];omega))
 have hG:U.heap[w.heap.size]? =some (.cells #[.slice none 0 0,.slice none 0 0,.slice none 0 0,.slice none 0 0,.slice none 0 0] 28 (0,0)):=(b1.block _ (by rw[zj];omega)).trans (heap_alloc_new w _)
 rw[zj] at b1
 cases r1 with
 |error p=>
  obtain⟨g,N,rfl,q⟩:=O
  have HY:Hid (zb4 s j (.error p)):=⟨_,K,rfl⟩
  have HG:=zc hG
  obtain⟨c0,c1,c2,c3,c4,cf⟩:=zk hG
  have dz:decide ((0:Int)≤(p:Int))=true:=decide_eq_true (by omega)
  clear q K b1 hG
  go_wp2
  refine bodyPost_ret (za8 rfl _ _ w.heap.size 28 _ (0,0) _ rfl (zcU HG.out) Tryz.underlying28 rfl (by kernel_rfl)) rfl ?_
  exact⟨⟨_,HY.out,rfl⟩,zdg ad.out (Nat.le_refl _) _ _ _ _ _⟩
 |ok z=>
  obtain⟨g,n,N,rfl,q⟩:=O
  obtain rfl:n=z.length:=q.2
  rw[zj] at q
  have ae:w.heap.size+1≤U.heap.size:=by have:=b1.size;rw[zj] at this;exact this
  have al:=zgV K
  have HR:=zc K
  have ai:Mem ⟨z,s.size,j⟩ g N (w.heap.size+1) S0 zb3 U:=zgW q al ae
  have ah:=zc ai
  have HG:=zc hG
  clear q K ai hG
  go_wp2
  go_loopg [] (z.length+1) (fun k wr=>∃(x':PR) (D:Sv) (V:PS) (z':Int),Is x' V z'∧bd x' (zaq ⟨z,s.size,j⟩)=zaq ⟨z,s.size,j⟩ zb3∧(z'<0→z.length-V.pos<k)∧Mem ⟨z,s.size,j⟩ g N (w.heap.size+1) D V wr∧Below w.heap.size w wr∧Bx g D wr U.heap.size #[.slice (some ⟨g,0,none⟩) z.length N,.int .i64 V.pos,.int .i64 s.size,.bool j,.slice D.rq.a V.rq.length D.rq.cap,.slice D.im.a V.im.length D.im.cap,.slice D.ep.a V.ep.length D.ep.cap,.slice D.st.a V.st.length D.st.cap,.slice D.ex.a V.ex.length D.ex.cap,.slice D.la.a V.la.length D.la.cap,.int .i64 z',.int .i64 0]∧wr.heap[w.heap.size]? =some (.cells #[.slice none 0 0,.slice none 0 0,.slice none 0 0,.slice none 0 0,.slice none 0 0] 28 (0,0)))
  case atStart=>exact⟨.ok zb3,S0,zb3,-1,zU _,rfl,fun _=>by show z.length-0<z.length+1;omega,ah.out.alloc _,ad.out.alloc ad.out.size _,Bx.new ah.out _,(Below.heap_alloc _ _ _ (by omega)).trans HG.out⟩
  case round=>
   obtain⟨x2,S2,H,z2,i2,e2,l2,m2,t2,X0,G2⟩:=hrel
   have aj:=zc i2
   have ac:=zc e2
   have ax:=zc l2
   have o:=zc m2
   have ab:=zc t2
   have J:=zc X0
   have I:=zc G2
   have aB:H.pos≤z.length:=m2.inv.pos
   obtain⟨a0,a1,a2,a3,a4,a5,a6,a7,a8,a9,X,Y,af⟩:=X0.box
   clear i2 e2 l2 m2 t2 X0 G2
   by_cases hz:z2<0
   ·have dz:decide (z2<0)=true:=decide_eq_true hz
    obtain⟨rfl,rfl⟩:=za7 aj.out hz
    by_cases hp:H.pos<z.length
    ·have az:=ax.out hz
     go_wp2_with fail
     refine (zpQ ⟨z,s.size,j⟩ g N (w.heap.size+1) S2 H _ o.out).mono ?_
     rintro e w3 ⟨S3,q3,z3,rfl,i3,m3,s3⟩
     have au:=zc m3
     have am:=zc i3
     have aa:Hid (Below (w.heap.size+1) wr w3):=s3.under o.out.base o.out.own
     have M:Hid (Bx g S3 w3 U.heap.size _):=J.out.stp s3
     have ar:Hid (Below w.heap.size w w3):=ab.out.trans (aa.out.mono (by omega))
     have Z:Hid (w3.heap[w.heap.size]? =some (.cells #[.slice none 0 0,.slice none 0 0,.slice none 0 0,.slice none 0 0,.slice none 0 0] 28 (0,0))):=(aa.out.block _ (by omega)).trans I.out
     have HE:Hid (bd (zy ⟨z,s.size,j⟩ H) (zaq ⟨z,s.size,j⟩)=zaq ⟨z,s.size,j⟩ zb3):=by
      show _=_
      rw[←ac.out,zx,zeQ,if_pos hp]
     have HP:Hid (z3<0→H.pos<q3.pos):=fun h=>zeP (za7 am.out h).1
     clear i3 m3 s3 a0 a1 a2 a3 a4 a5 a6 a7 a8 a9 X Y af
     obtain⟨a0,a1,a2,a3,a4,a5,a6,a7,a8,a9,X,Y,af⟩:=M.out.box
     unfold pv
     go_wp2
     go_roundg (gk-1)
     case rel=>exact⟨_,S3,q3,z3,am.out,HE.out,fun h=>by have:=HP.out h;omega,au.out.put M.out _ _ _ _ _ _ _ _ _ _ _ _,zb5 ar.out (by omega) _ _ _ _ _ _ _ _ _ _ _ _,M.out.put _ _ _ _ _ _ _ _ _ _ _ _,(ze6 (by omega) ..).trans Z.out⟩
     case measure=>omega
    ·have HD:Hid (zaq ⟨z,s.size,j⟩ zb3= .ok H):=by
      show _=_
      rw[←ac.out,zx,zeQ,if_neg hp]
     have HY:Hid (zb4 s j (.ok H)):=⟨_,HR.out,HD.out.symm⟩
     have an:U.heap.size<wr.heap.size:=J.out.lt
     have ay:=o.out.inv.ep
     have A:=o.out.own.ep
     have aa:=o.out.base
     rcases o.out.own.la.nil_or with ⟨ha,hc,hn⟩|⟨gl,ha⟩
     ·have HN:Hid (H.la=[]):=List.eq_nil_of_length_eq_zero hn
      rw[ha,hc,hn] at a9
      obtain⟨c0,c1,c2,c3,c4,cf⟩:=zk I.out
      clear ha hc hn
      go_wp2_with (at_builtin;refine zka _ rfl _ _ 24 rfl 102 i0 Tryz.underlying24 hi (w.heap.size+1) 4 H.ep.length S2.ep _ (by rfl) A (by rfl) ?_)
      clear A
      go_wp2
      refine bodyPost_ret (za8 rfl _ _ w.heap.size 28 _ (0,0) _ rfl (zcU ((zp (by omega)).trans I.out)) Tryz.underlying28 rfl (by kernel_rfl)) rfl ?_
      refine⟨⟨_,HY.out,S2,by simp[zeR,HN.out],o.out.whole0 HN.out (Nat.lt_succ_self _) J.out.free fun k L h2=>?_⟩,zdg (ab.out.setCell (by show _≤U.heap.size;omega) _) (Nat.le_refl _) _ _ _ _ _⟩
      rw[zp L,zp L,zp L,zp L,zp L,zp h2]
     ·have ag:OwnR wr (w.heap.size+1) 102 4 ⟨some ⟨gl,0,none⟩,S2.la.cap⟩ H.la.length (H.la.flatMap epL):=by have:=o.out.own.la;unfold OwnR at this ⊢;rw[ha] at this;exact this
      rw[ha] at a9
      go_wp2_with (at_builtin;refine zjZ _ rfl _ _ 24 rfl (w.heap.size+1) 102 i0 _ 4 56 Tryz.underlying24 hi av aq aw rfl (by decide) (by decide) S2.ep H.ep.length _ (by rfl) A gl H.la.length S2.la.cap (w.heap.size+1) _ (by rfl) ag (zfJ _) (by omega) aa ?_)
      intro r' w3 hr hg ak
      have ap:=zc hr
      have E:=zc hg
      have as:=zc ak
      have ao:=fun b hb=>zdm (W:=wr) o.out.own (Nat.le_refl _) (r:=S2.ep.blk) (fun k e=>.inr (.inr (.inl e))) b hb
      have M:Hid (w3.heap[U.heap.size]? =_):=(hg.block _ an (fun e=>J.out.free (.inr (.inr (.inl e.symm))))).trans J.out.heap
      have Z:Hid (w3.heap[w.heap.size]? =_):=(hg.block _ (by omega) (fun e=>by have:=(A.typed e.symm).1;omega)).trans I.out
      clear a0 a1 a2 a3 a4 a5 a6 a7 a8 a9 X Y af hr hg ak ao A ag
      obtain⟨a0,a1,a2,a3,a4,a5,a6,a7,a8,a9,X,Y,af⟩:=zag M.out
      obtain⟨c0,c1,c2,c3,c4,cf⟩:=zk Z.out
      go_wp2
      refine bodyPost_ret (za8 rfl _ _ w.heap.size 28 _ (0,0) _ rfl (zcU ((zp (by omega)).trans Z.out)) Tryz.underlying28 rfl (by kernel_rfl)) rfl ?_
      refine⟨⟨_,HY.out,{S2 with ep:=r'},by simp[zeR],o.out.whole E.out ap.out as.out (Nat.lt_succ_self _) an J.out.free fun k L h2=>?_⟩,zdg ((ab.out.trans (Below.mono (B:=w.heap.size+1) ⟨E.out.os,E.out.tape,E.out.output,E.out.size,fun k hk=>E.out.block k (by omega) fun e=>by have:=(o.out.own.ep.typed e.symm).1;omega⟩ (by omega))).setCell (by show _≤U.heap.size;omega) _) (Nat.le_refl _) _ _ _ _ _⟩
      rw[zp L,zp L,zp L,zp L,zp L,zp h2]
   ·have dz:decide (z2<0)=false:=decide_eq_false hz
    obtain⟨e0,rfl,rfl⟩:=zcN aj.out hz
    have aA:decide ((0:Int)≤(e0:Int))=true:=decide_eq_true (by omega)
    have HY:Hid (zb4 s j (.error e0)):=⟨_,HR.out,(show (.error e0:PR)=zaq ⟨z,s.size,j⟩ zb3 from ac.out)⟩
    obtain⟨c0,c1,c2,c3,c4,cf⟩:=zk I.out
    go_wp2
    go_region
    all_goals
     go_wp2
     refine bodyPost_ret (za8 rfl _ _ w.heap.size 28 _ (0,0) _ rfl (zcU I.out) Tryz.underlying28 rfl (by kernel_rfl)) rfl ?_
     exact⟨⟨_,HY.out,rfl⟩,(zdg ab.out (Nat.le_refl _) ..).drew⟩
end Go.Proofs.YticdggnnpjachaaGreat
