/-
  What spec's l4Item answers outside of a script: the walks.
  What spec.Parse answers: the walk.
-/
import Derived.Test.YticdggnnpjachaaGreatCcSpecParseMToSpecParseP
namespace Go.Proofs.YticdggnnpjachaaGreat
set_option maxRecDepth 100000
set_option maxHeartbeats 6400000
open Go.RowKit Go.PlainAid
theorem zpI (z:List Tk) (h:Nat) (K n j:Nat) (S:Sv) (q:PS) (w:World) (L:Mem (Cx.mk z h false) K n j S q w) (Y:isT (Cx.mk z h false) q.pos 1 zae=true):
  Calls Tryz.prog 21 #[pv (Cx.mk z h false) K n S q (-1) 0] w (Out (Cx.mk z h false) K n j (zy (Cx.mk z h false) q) 0 S w):=by
 have HM:=zc L
 have A:=L.tok
 have I:(Cx.mk z h false).ts.length≤4000:=L.few
 clear L
 have HV:Hid (zy (Cx.mk z h false) q=zaK (Cx.mk z h false) q):=by show zy (Cx.mk z h false) q=_;rw[zy,Y];rfl
 unfold pv
 go_enter Tryz.func21,Tryz.ntmps21
 go_wp2_with fail
 refine (zg (Cx.mk z h false) K n j S q (-1) 0 1 zae _ (zo (zo A _) _) I (by decide)).mono ?_
 rintro e w1 ⟨rfl,J⟩
 rw[Y]
 obtain⟨X0,X1,Z,t1⟩:=HM.out.two J
 have D:=zc X0
 have o:=zc X1
 have E:=zc Z
 have H:=zc t1
 clear X0 X1 Z t1 J
 clear A
 obtain⟨a0,a1,a2,a3,a4,a5,a6,a7,a8,a9,V,U,af⟩:=D.out.box
 go_wp2_with fail
 refine (zp9 (Cx.mk z h false) K n j S q _ E.out Y).mono ?_
 rintro e w2 ⟨S2,q2,z2,rfl,i2,m2,M⟩
 replace D:=zc (D.out.stp M)
 replace o:=zc (o.out.stp M)
 have N:=zc (H.out.step M)
 clear H
 have X:=zc m2
 have O:=zc i2
 clear i2 m2 M E
 clear a0 a1 a2 a3 a4 a5 a6 a7 a8 a9 V U af
 obtain⟨b0,b1,b2,b3,b4,b5,b6,b7,b8,b9,aa,ab,bf⟩:=o.out.box
 unfold pv
 go_wp2
 refine bodyPost_ret (results_cell_row rfl _ _ (w.heap.size+1) 53 _ (0,0) _ rfl ((o.out.put ..)).heap Tryz.underlying53 rfl (by kernel_rfl)) rfl ?_
 rw[HV.out]
 exact zW rfl O.out (X.out.put o.out ..) (N.out.put (by omega) ..)
theorem zpJ (z:List Tk) (h:Nat) (L o j:Nat) (S:Sv) (q:PS) (w:World) (V:Mem (Cx.mk z h false) L o j S q w) (h0:isT (Cx.mk z h false) q.pos 1 zae=false) (h1:isT (Cx.mk z h false) q.pos 1 zad=true):
  Calls Tryz.prog 21 #[pv (Cx.mk z h false) L o S q (-1) 0] w (Out (Cx.mk z h false) L o j (zy (Cx.mk z h false) q) 0 S w):=by
 have HM:=zc V
 have E:=V.tok
 have H:(Cx.mk z h false).ts.length≤4000:=V.few
 clear V
 have HV:Hid (zy (Cx.mk z h false) q=zaf (Cx.mk z h false) q):=by show zy (Cx.mk z h false) q=_;rw[zy,h0,h1];rfl
 unfold pv
 go_enter Tryz.func21,Tryz.ntmps21
 go_wp2_with fail
 refine (zg (Cx.mk z h false) L o j S q (-1) 0 1 zae _ (zo (zo E _) _) H (by decide)).mono ?_
 rintro e w1 ⟨rfl,U⟩
 rw[h0]
 obtain⟨X0,X1,m1,t1⟩:=HM.out.two U
 have A:=zc X0
 have n:=zc X1
 have I:=zc m1
 have N:=zc t1
 clear X0 X1 m1 t1 U
 clear E
 obtain⟨a0,a1,a2,a3,Y,a5,a6,a7,a8,a9,K,J,af⟩:=A.out.box
 go_wp2_with fail
 refine (zg (Cx.mk z h false) L o j S q (-1) 0 1 zad _ I.out.tok H (by decide)).mono ?_
 rintro e w2 ⟨rfl,D⟩
 rw[h1]
 replace A:=zc (A.out.below D)
 replace n:=zc (n.out.below D)
 have M:=zc (N.out.below D)
 have O:=zc (I.out.later D)
 clear D N I
 clear a0 a1 a2 a3 Y a5 a6 a7 a8 a9 K J af
 obtain⟨a0,a1,a2,a3,Y,a5,a6,a7,a8,a9,K,J,af⟩:=A.out.box
 go_wp2_with fail
 refine (zpA (Cx.mk z h false) L o j S q _ O.out h1).mono ?_
 rintro e w3 ⟨S3,q3,z3,rfl,i3,m3,X⟩
 replace A:=zc (A.out.stp X)
 replace n:=zc (n.out.stp X)
 have ab:=zc (M.out.step X)
 clear M
 have aa:=zc m3
 have Z:=zc i3
 clear i3 m3 X O
 clear a0 a1 a2 a3 Y a5 a6 a7 a8 a9 K J af
 obtain⟨b0,b1,b2,b3,b4,b5,b6,b7,b8,b9,ac,ad,bf⟩:=n.out.box
 unfold pv
 go_wp2
 refine bodyPost_ret (results_cell_row rfl _ _ (w.heap.size+1) 53 _ (0,0) _ rfl ((n.out.put ..)).heap Tryz.underlying53 rfl (by kernel_rfl)) rfl ?_
 rw[HV.out]
 exact zW rfl Z.out (aa.out.put n.out ..) (ab.out.put (by omega) ..)
theorem zpK (A:List Tk) (h:Nat) (K z o:Nat) (S:Sv) (q:PS) (w:World) (hm:Mem (Cx.mk A h false) K z o S q w) (h0:isT (Cx.mk A h false) q.pos 1 zae=false) (h1:isT (Cx.mk A h false) q.pos 1 zad=false) (h2:isT (Cx.mk A h false) q.pos 1 zA=true):
  Calls Tryz.prog 21 #[pv (Cx.mk A h false) K z S q (-1) 0] w (Out (Cx.mk A h false) K z o (zy (Cx.mk A h false) q) 0 S w):=by
 have HM:=zc hm
 have L:=hm.tok
 have I:(Cx.mk A h false).ts.length≤4000:=hm.few
 clear hm
 have HV:Hid (zy (Cx.mk A h false) q=zaG (zcm (Cx.mk A h false) q)):=by show zy (Cx.mk A h false) q=_;rw[zy,h0,h1,h2];rfl
 unfold pv
 go_enter Tryz.func21,Tryz.ntmps21
 go_wp2_with fail
 refine (zg (Cx.mk A h false) K z o S q (-1) 0 1 zae _ (zo (zo L _) _) I (by decide)).mono ?_
 rintro e w1 ⟨rfl,Y⟩
 rw[h0]
 obtain⟨X0,X1,m1,t1⟩:=HM.out.two Y
 have n:=zc X0
 have j:=zc X1
 have N:=zc m1
 have ad:=zc t1
 clear X0 X1 m1 t1 Y
 clear L
 obtain⟨a0,a1,a2,a3,Z,a5,a6,U,a8,X,H,E,af⟩:=n.out.box
 go_wp2_with fail
 refine (zg (Cx.mk A h false) K z o S q (-1) 0 1 zad _ N.out.tok I (by decide)).mono ?_
 rintro e w2 ⟨rfl,D⟩
 rw[h1]
 replace n:=zc (n.out.below D)
 replace j:=zc (j.out.below D)
 have V:=zc (ad.out.below D)
 have O:=zc (N.out.later D)
 clear D ad N
 clear a0 a1 a2 a3 Z a5 a6 U a8 X H E af
 obtain⟨a0,a1,a2,a3,Z,a5,a6,U,a8,X,H,E,af⟩:=n.out.box
 go_wp2_with fail
 refine (zg (Cx.mk A h false) K z o S q (-1) 0 1 zA _ O.out.tok I (by decide)).mono ?_
 rintro e w3 ⟨rfl,J⟩
 rw[h2]
 replace n:=zc (n.out.below J)
 replace j:=zc (j.out.below J)
 have ac:=zc (V.out.below J)
 have ab:=zc (O.out.later J)
 clear J V O
 clear a0 a1 a2 a3 Z a5 a6 U a8 X H E af
 obtain⟨a0,a1,a2,a3,Z,a5,a6,U,a8,X,H,E,af⟩:=n.out.box
 go_wp2_with fail
 refine (zg1 (Cx.mk A h false) K z o S q _ ab.out).mono ?_
 rintro e w4 ⟨S4,q4,z4,n4,rfl,i4,m4,s4⟩
 replace n:=zc (n.out.stp s4)
 replace j:=zc (j.out.stp s4)
 have aa:=zc (ac.out.step s4)
 clear ac
 have M:=zc m4
 have ai:=zc i4
 clear i4 m4 s4 ab
 clear a0 a1 a2 a3 Z a5 a6 U a8 X H E af
 have aj:w.heap.size+1<w4.heap.size:=j.out.lt
 unfold pv
 go_upto_region 7 with fail
 refine zJ (R:=fun W=>Bx K S4 W (w.heap.size) _∧Bx K S4 W (w.heap.size+1) _∧Bx K S4 W (w4.heap.size) _∧Mem (Cx.mk A h false) K z o S4 q4 W∧SB w.heap.size S w S4 W) ⟨(n.out.alloc _),(j.out.alloc _),(Bx.new M.out _),(M.out.alloc _),(aa.out.alloc _)⟩ ?_
 clear n j aa M
 rintro w5 ⟨X0,X1,X2,m5,t5⟩
 have n:=zc X0
 have j:=zc X1
 have ae:=zc X2
 have ah:=zc m5
 have ag:=zc t5
 clear m5 t5 X0 X1 X2
 obtain⟨b0,b1,b2,b3,b4,b5,b6,b7,b8,b9,an,ak,bf⟩:=j.out.box
 obtain⟨c0,c1,c2,c3,c4,c5,c6,c7,c8,c9,am,al,cf⟩:=ae.out.box
 go_wp2
 refine bodyPost_ret (results_cell_row rfl _ _ (w.heap.size+1) 53 _ (0,0) _ rfl ((j.out.put ..)).heap Tryz.underlying53 rfl (by kernel_rfl)) rfl ?_
 rw[HV.out]
 exact zW rfl ai.out.fst (ah.out.put j.out ..) (ag.out.put (by omega) ..)
theorem zpL (A:List Tk) (h:Nat) (I z o:Nat) (S:Sv) (q:PS) (w:World) (hm:Mem (Cx.mk A h false) I z o S q w) (h0:isT (Cx.mk A h false) q.pos 1 zae=false) (h1:isT (Cx.mk A h false) q.pos 1 zad=false) (h2:isT (Cx.mk A h false) q.pos 1 zA=false) (h3:isT (Cx.mk A h false) q.pos 1 zO=true):
  Calls Tryz.prog 21 #[pv (Cx.mk A h false) I z S q (-1) 0] w (Out (Cx.mk A h false) I z o (zy (Cx.mk A h false) q) 0 S w):=by
 have HM:=zc hm
 have M:=hm.tok
 have H:(Cx.mk A h false).ts.length≤4000:=hm.few
 clear hm
 have HV:Hid (zy (Cx.mk A h false) q=zaG (fnP (Cx.mk A h false) q)):=by show zy (Cx.mk A h false) q=_;rw[zy,h0,h1,h2,h3];rfl
 unfold pv
 go_enter Tryz.func21,Tryz.ntmps21
 go_wp2_with fail
 refine (zg (Cx.mk A h false) I z o S q (-1) 0 1 zae _ (zo (zo M _) _) H (by decide)).mono ?_
 rintro e w1 ⟨rfl,ae⟩
 rw[h0]
 obtain⟨X0,X1,m1,t1⟩:=HM.out.two ae
 have j:=zc X0
 have n:=zc X1
 have U:=zc m1
 have aj:=zc t1
 clear X0 X1 m1 t1 ae
 clear M
 obtain⟨Y,a1,a2,X,V,a5,a6,N,a8,O,E,D,af⟩:=j.out.box
 go_wp2_with fail
 refine (zg (Cx.mk A h false) I z o S q (-1) 0 1 zad _ U.out.tok H (by decide)).mono ?_
 rintro e w2 ⟨rfl,J⟩
 rw[h1]
 replace j:=zc (j.out.below J)
 replace n:=zc (n.out.below J)
 have ac:=zc (aj.out.below J)
 have aa:=zc (U.out.later J)
 clear J aj U
 clear Y a1 a2 X V a5 a6 N a8 O E D af
 obtain⟨Y,a1,a2,X,V,a5,a6,N,a8,O,E,D,af⟩:=j.out.box
 go_wp2_with fail
 refine (zg (Cx.mk A h false) I z o S q (-1) 0 1 zA _ aa.out.tok H (by decide)).mono ?_
 rintro e w3 ⟨rfl,L⟩
 rw[h2]
 replace j:=zc (j.out.below L)
 replace n:=zc (n.out.below L)
 have ai:=zc (ac.out.below L)
 have Z:=zc (aa.out.later L)
 clear L ac aa
 clear Y a1 a2 X V a5 a6 N a8 O E D af
 obtain⟨Y,a1,a2,X,V,a5,a6,N,a8,O,E,D,af⟩:=j.out.box
 go_wp2_with fail
 refine (zg (Cx.mk A h false) I z o S q (-1) 0 1 zO _ Z.out.tok H (by decide)).mono ?_
 rintro e w4 ⟨rfl,K⟩
 rw[h3]
 replace j:=zc (j.out.below K)
 replace n:=zc (n.out.below K)
 have ag:=zc (ai.out.below K)
 have ad:=zc (Z.out.later K)
 clear K ai Z
 clear Y a1 a2 X V a5 a6 N a8 O E D af
 obtain⟨Y,a1,a2,X,V,a5,a6,N,a8,O,E,D,af⟩:=j.out.box
 go_wp2_with fail
 refine (zg2 (Cx.mk A h false) I z o S q _ ad.out).mono ?_
 rintro e w5 ⟨S5,q5,z5,n5,rfl,i5,m5,s5⟩
 replace j:=zc (j.out.stp s5)
 replace n:=zc (n.out.stp s5)
 have ah:=zc (ag.out.step s5)
 clear ag
 have ab:=zc m5
 have ak:=zc i5
 clear i5 m5 s5 ad
 clear Y a1 a2 X V a5 a6 N a8 O E D af
 have ao:w.heap.size+1<w5.heap.size:=n.out.lt
 unfold pv
 go_upto_region 10 with fail
 refine zJ (R:=fun W=>Bx I S5 W (w.heap.size) _∧Bx I S5 W (w.heap.size+1) _∧Bx I S5 W (w5.heap.size) _∧Mem (Cx.mk A h false) I z o S5 q5 W∧SB w.heap.size S w S5 W) ⟨(j.out.alloc _),(n.out.alloc _),(Bx.new ab.out _),(ab.out.alloc _),(ah.out.alloc _)⟩ ?_
 clear j n ah ab
 rintro w6 ⟨X0,X1,X2,m6,t6⟩
 have j:=zc X0
 have n:=zc X1
 have al:=zc X2
 have an:=zc m6
 have am:=zc t6
 clear m6 t6 X0 X1 X2
 obtain⟨b0,b1,b2,b3,b4,b5,b6,b7,b8,b9,au,ap,bf⟩:=n.out.box
 obtain⟨c0,c1,c2,c3,c4,c5,c6,c7,c8,c9,ar,aq,cf⟩:=al.out.box
 go_wp2
 refine bodyPost_ret (results_cell_row rfl _ _ (w.heap.size+1) 53 _ (0,0) _ rfl ((n.out.put ..)).heap Tryz.underlying53 rfl (by kernel_rfl)) rfl ?_
 rw[HV.out]
 exact zW rfl ak.out.fst (an.out.put n.out ..) (am.out.put (by omega) ..)
theorem zpM (A:List Tk) (h:Nat) (H z o:Nat) (S:Sv) (q:PS) (w:World) (hm:Mem (Cx.mk A h false) H z o S q w) (h0:isT (Cx.mk A h false) q.pos 1 zae=false) (h1:isT (Cx.mk A h false) q.pos 1 zad=false) (h2:isT (Cx.mk A h false) q.pos 1 zA=false) (h3:isT (Cx.mk A h false) q.pos 1 zO=false) (h4:isT (Cx.mk A h false) q.pos 1 zap=true):
  Calls Tryz.prog 21 #[pv (Cx.mk A h false) H z S q (-1) 0] w (Out (Cx.mk A h false) H z o (zy (Cx.mk A h false) q) 0 S w):=by
 have HM:=zc hm
 have ae:=hm.tok
 have I:(Cx.mk A h false).ts.length≤4000:=hm.few
 clear hm
 have HV:Hid (zy (Cx.mk A h false) q=bd (bd (bd (bd (bd (bd (.ok q) (zd (Cx.mk A h false) 1 zap)) (zd (Cx.mk A h false) 4 zm)) (pE (Cx.mk A h false) .sum 0)) (zd (Cx.mk A h false) 4 zay)) (zd (Cx.mk A h false) 4 cSemi)) (zX (Cx.mk A h false) 4 sNone)):=by show zy (Cx.mk A h false) q=_;rw[zy,h0,h1,h2,h3,h4];rfl
 unfold pv
 go_enter Tryz.func21,Tryz.ntmps21
 go_wp2_with fail
 refine (zg (Cx.mk A h false) H z o S q (-1) 0 1 zae _ (zo (zo ae _) _) I (by decide)).mono ?_
 rintro e w1 ⟨rfl,aq⟩
 rw[h0]
 obtain⟨X0,X1,m1,t1⟩:=HM.out.two aq
 have j:=zc X0
 have n:=zc X1
 have ai:=zc m1
 have aI:=zc t1
 clear X0 X1 m1 t1 aq
 clear ae
 obtain⟨a0,a1,a2,Z,Y,a5,a6,V,a8,X,E,D,af⟩:=j.out.box
 go_wp2_with fail
 refine (zg (Cx.mk A h false) H z o S q (-1) 0 1 zad _ ai.out.tok I (by decide)).mono ?_
 rintro e w2 ⟨rfl,J⟩
 rw[h1]
 replace j:=zc (j.out.below J)
 replace n:=zc (n.out.below J)
 have am:=zc (aI.out.below J)
 have al:=zc (ai.out.later J)
 clear J aI ai
 clear a0 a1 a2 Z Y a5 a6 V a8 X E D af
 obtain⟨a0,a1,a2,Z,Y,a5,a6,V,a8,X,E,D,af⟩:=j.out.box
 go_wp2_with fail
 refine (zg (Cx.mk A h false) H z o S q (-1) 0 1 zA _ al.out.tok I (by decide)).mono ?_
 rintro e w3 ⟨rfl,U⟩
 rw[h2]
 replace j:=zc (j.out.below U)
 replace n:=zc (n.out.below U)
 have aD:=zc (am.out.below U)
 have aj:=zc (al.out.later U)
 clear U am al
 clear a0 a1 a2 Z Y a5 a6 V a8 X E D af
 obtain⟨a0,a1,a2,Z,Y,a5,a6,V,a8,X,E,D,af⟩:=j.out.box
 go_wp2_with fail
 refine (zg (Cx.mk A h false) H z o S q (-1) 0 1 zO _ aj.out.tok I (by decide)).mono ?_
 rintro e w4 ⟨rfl,M⟩
 rw[h3]
 replace j:=zc (j.out.below M)
 replace n:=zc (n.out.below M)
 have ax:=zc (aD.out.below M)
 have ah:=zc (aj.out.later M)
 clear M aD aj
 clear a0 a1 a2 Z Y a5 a6 V a8 X E D af
 obtain⟨a0,a1,a2,Z,Y,a5,a6,V,a8,X,E,D,af⟩:=j.out.box
 go_wp2_with fail
 refine (zg (Cx.mk A h false) H z o S q (-1) 0 1 zap _ ah.out.tok I (by decide)).mono ?_
 rintro e w5 ⟨rfl,L⟩
 rw[h4]
 replace j:=zc (j.out.below L)
 replace n:=zc (n.out.below L)
 have aB:=zc (ax.out.below L)
 have aK:=zc (ah.out.later L)
 clear L ax ah
 clear a0 a1 a2 Z Y a5 a6 V a8 X E D af
 obtain⟨a0,a1,a2,Z,Y,a5,a6,V,a8,X,E,D,af⟩:=j.out.box
 go_wp2_with fail
 refine (zaC (Cx.mk A h false) H z o (.ok q) S q (-1) 0 zap _ (zU q) aK.out).mono ?_
 rintro e w6 ⟨S6,q6,z6,rfl,i6,m6,s6⟩
 replace j:=zc (j.out.stp s6)
 replace n:=zc (n.out.stp s6)
 have au:=zc (aB.out.step s6)
 clear aB
 have aG:=zc m6
 have aN:=zc i6
 clear i6 m6 s6 aK
 clear a0 a1 a2 Z Y a5 a6 V a8 X E D af
 go_wp2_with fail
 refine (zab (Cx.mk A h false) H z o _ S6 q6 z6 0 zm _ aN.out aG.out).mono ?_
 rintro e w7 ⟨S7,q7,z7,rfl,i7,m7,s7⟩
 replace j:=zc (j.out.stp s7)
 replace n:=zc (n.out.stp s7)
 have an:=zc (au.out.step s7)
 clear au
 have ap:=zc m7
 have aP:=zc i7
 clear i7 m7 s7 aG
 go_wp2_with fail
 refine (zcE (Cx.mk A h false) H z o _ S7 q7 z7 _ aP.out ap.out).mono ?_
 rintro e w8 ⟨S8,q8,z8,rfl,i8,m8,s8⟩
 replace j:=zc (j.out.stp s8)
 replace n:=zc (n.out.stp s8)
 have ay:=zc (an.out.step s8)
 clear an
 have ar:=zc m8
 have aM:=zc i8
 clear i8 m8 s8 ap
 go_wp2_with fail
 refine (zab (Cx.mk A h false) H z o _ S8 q8 z8 0 zay _ aM.out ar.out).mono ?_
 rintro e w9 ⟨S9,q9,z9,rfl,i9,m9,s9⟩
 replace j:=zc (j.out.stp s9)
 replace n:=zc (n.out.stp s9)
 have aJ:=zc (ay.out.step s9)
 clear ay
 have ak:=zc m9
 have aT:=zc i9
 clear i9 m9 s9 ar
 have aU:w.heap.size+1<w9.heap.size:=n.out.lt
 unfold pv
 go_upto_region 13 with fail
 refine zJ (R:=fun W=>Bx H S9 W (w.heap.size) _∧Bx H S9 W (w.heap.size+1) _∧Bx H S9 W (w9.heap.size) _∧Mem (Cx.mk A h false) H z o S9 q9 W∧SB w.heap.size S w S9 W) ⟨(j.out.alloc _),(n.out.alloc _),(Bx.new ak.out _),(ak.out.alloc _),(aJ.out.alloc _)⟩ ?_
 clear j n aJ ak
 rintro bc ⟨X0,X1,X2,av,aC⟩
 have j:=zc X0
 have n:=zc X1
 have K:=zc X2
 have aa:=zc av
 have ac:=zc aC
 clear av aC X0 X1 X2
 obtain⟨c0,c1,c2,c3,c4,c5,c6,c7,c8,c9,aR,aQ,cf⟩:=K.out.box
 go_wp2_with fail
 refine (zab (Cx.mk A h false) H z o _ S9 q9 z9 0 cSemi _ aT.out aa.out).mono ?_
 rintro e ba ⟨aS,aL,aO,rfl,aA,aw,N⟩
 replace j:=zc (j.out.stp N)
 replace n:=zc (n.out.stp N)
 replace K:=zc (K.out.stp N)
 have ag:=zc (ac.out.step N)
 clear ac
 have ab:=zc aw
 have ad:=zc aA
 clear aA aw N aa
 clear c0 c1 c2 c3 c4 c5 c6 c7 c8 c9 aR aQ cf
 go_wp2_with fail
 refine (zc4 (Cx.mk A h false) H z o _ aS aL aO 0 4 sNone _ ad.out ab.out (zaZ ad.out)).mono ?_
 rintro e aX ⟨aV,aZ,aW,rfl,az,aF,O⟩
 replace j:=zc (j.out.stp O)
 replace n:=zc (n.out.stp O)
 replace K:=zc (K.out.stp O)
 have ao:=zc (ag.out.step O)
 clear ag
 have aH:=zc aF
 have aE:=zc az
 clear az aF O ab
 obtain⟨b0,b1,b2,b3,b4,b5,b6,b7,b8,b9,bb,aY,bf⟩:=n.out.box
 unfold pv
 go_wp2
 refine bodyPost_ret (results_cell_row rfl _ _ (w.heap.size+1) 53 _ (0,0) _ rfl ((n.out.put ..)).heap Tryz.underlying53 rfl (by kernel_rfl)) rfl ?_
 rw[HV.out]
 exact zW rfl aE.out (aH.out.put n.out ..) (ao.out.put (by omega) ..)
theorem zpN (z:List Tk) (h:Nat) (I A o:Nat) (S:Sv) (q:PS) (w:World) (hm:Mem (Cx.mk z h false) I A o S q w) (h0:isT (Cx.mk z h false) q.pos 1 zae=false) (h1:isT (Cx.mk z h false) q.pos 1 zad=false) (h2:isT (Cx.mk z h false) q.pos 1 zA=false) (h3:isT (Cx.mk z h false) q.pos 1 zO=false) (h4:isT (Cx.mk z h false) q.pos 1 zap=false) (h5:isT (Cx.mk z h false) q.pos 1 za0=true):
  Calls Tryz.prog 21 #[pv (Cx.mk z h false) I A S q (-1) 0] w (Out (Cx.mk z h false) I A o (zy (Cx.mk z h false) q) 0 S w):=by
 have HM:=zc hm
 have ab:=hm.tok
 have H:(Cx.mk z h false).ts.length≤4000:=hm.few
 clear hm
 have HV:Hid (zy (Cx.mk z h false) q=bd (bd (bd (bd (.ok q) (zd (Cx.mk z h false) 1 za0)) (pE (Cx.mk z h false) .sum 0)) (zd (Cx.mk z h false) 4 cSemi)) (zX (Cx.mk z h false) 5 sNone)):=by show zy (Cx.mk z h false) q=_;rw[zy,h0,h1,h2,h3,h4,h5];rfl
 unfold pv
 go_enter Tryz.func21,Tryz.ntmps21
 go_wp2_with fail
 refine (zg (Cx.mk z h false) I A o S q (-1) 0 1 zae _ (zo (zo ab _) _) H (by decide)).mono ?_
 rintro e w1 ⟨rfl,am⟩
 rw[h0]
 obtain⟨X0,X1,m1,t1⟩:=HM.out.two am
 have j:=zc X0
 have n:=zc X1
 have ad:=zc m1
 have aB:=zc t1
 clear X0 X1 m1 t1 am
 clear ab
 obtain⟨O,a1,a2,N,M,X,a6,J,a8,K,E,D,af⟩:=j.out.box
 go_wp2_with fail
 refine (zg (Cx.mk z h false) I A o S q (-1) 0 1 zad _ ad.out.tok H (by decide)).mono ?_
 rintro e w2 ⟨rfl,L⟩
 rw[h1]
 replace j:=zc (j.out.below L)
 replace n:=zc (n.out.below L)
 have aj:=zc (aB.out.below L)
 have ag:=zc (ad.out.later L)
 clear L aB ad
 clear O a1 a2 N M X a6 J a8 K E D af
 obtain⟨O,a1,a2,N,M,X,a6,J,a8,K,E,D,af⟩:=j.out.box
 go_wp2_with fail
 refine (zg (Cx.mk z h false) I A o S q (-1) 0 1 zA _ ag.out.tok H (by decide)).mono ?_
 rintro e w3 ⟨rfl,Z⟩
 rw[h2]
 replace j:=zc (j.out.below Z)
 replace n:=zc (n.out.below Z)
 have ax:=zc (aj.out.below Z)
 have ae:=zc (ag.out.later Z)
 clear Z aj ag
 clear O a1 a2 N M X a6 J a8 K E D af
 obtain⟨O,a1,a2,N,M,X,a6,J,a8,K,E,D,af⟩:=j.out.box
 go_wp2_with fail
 refine (zg (Cx.mk z h false) I A o S q (-1) 0 1 zO _ ae.out.tok H (by decide)).mono ?_
 rintro e w4 ⟨rfl,V⟩
 rw[h3]
 replace j:=zc (j.out.below V)
 replace n:=zc (n.out.below V)
 have aq:=zc (ax.out.below V)
 have ac:=zc (ae.out.later V)
 clear V ax ae
 clear O a1 a2 N M X a6 J a8 K E D af
 obtain⟨O,a1,a2,N,M,X,a6,J,a8,K,E,D,af⟩:=j.out.box
 go_wp2_with fail
 refine (zg (Cx.mk z h false) I A o S q (-1) 0 1 zap _ ac.out.tok H (by decide)).mono ?_
 rintro e w5 ⟨rfl,U⟩
 rw[h4]
 replace j:=zc (j.out.below U)
 replace n:=zc (n.out.below U)
 have av:=zc (aq.out.below U)
 have ah:=zc (ac.out.later U)
 clear U aq ac
 clear O a1 a2 N M X a6 J a8 K E D af
 obtain⟨O,a1,a2,N,M,X,a6,J,a8,K,E,D,af⟩:=j.out.box
 go_wp2_with fail
 refine (zg (Cx.mk z h false) I A o S q (-1) 0 1 za0 _ ah.out.tok H (by decide)).mono ?_
 rintro e w6 ⟨rfl,Y⟩
 rw[h5]
 replace j:=zc (j.out.below Y)
 replace n:=zc (n.out.below Y)
 have ao:=zc (av.out.below Y)
 have az:=zc (ah.out.later Y)
 clear Y av ah
 clear O a1 a2 N M X a6 J a8 K E D af
 obtain⟨O,a1,a2,N,M,X,a6,J,a8,K,E,D,af⟩:=j.out.box
 go_wp2_with fail
 refine (zaC (Cx.mk z h false) I A o (.ok q) S q (-1) 0 za0 _ (zU q) az.out).mono ?_
 rintro e w7 ⟨S7,q7,z7,rfl,i7,m7,s7⟩
 replace j:=zc (j.out.stp s7)
 replace n:=zc (n.out.stp s7)
 have ak:=zc (ao.out.step s7)
 clear ao
 have al:=zc m7
 have aF:=zc i7
 clear i7 m7 s7 az
 clear O a1 a2 N M X a6 J a8 K E D af
 go_wp2_with fail
 refine (zcE (Cx.mk z h false) I A o _ S7 q7 z7 _ aF.out al.out).mono ?_
 rintro e w8 ⟨S8,q8,z8,rfl,i8,m8,s8⟩
 replace j:=zc (j.out.stp s8)
 replace n:=zc (n.out.stp s8)
 have ar:=zc (ak.out.step s8)
 clear ak
 have an:=zc m8
 have aE:=zc i8
 clear i8 m8 s8 al
 go_wp2_with fail
 refine (zab (Cx.mk z h false) I A o _ S8 q8 z8 0 cSemi _ aE.out an.out).mono ?_
 rintro e w9 ⟨S9,q9,z9,rfl,i9,m9,s9⟩
 replace j:=zc (j.out.stp s9)
 replace n:=zc (n.out.stp s9)
 have aC:=zc (ar.out.step s9)
 clear ar
 have aA:=zc m9
 have aD:=zc i9
 clear i9 m9 s9 an
 go_wp2_with fail
 refine (zc4 (Cx.mk z h false) I A o _ S9 q9 z9 0 5 sNone _ aD.out aA.out (zaZ aD.out)).mono ?_
 rintro e aL ⟨aK,aH,aG,rfl,ai,ap,aa⟩
 replace j:=zc (j.out.stp aa)
 replace n:=zc (n.out.stp aa)
 have ay:=zc (aC.out.step aa)
 clear aC
 have au:=zc ap
 have aw:=zc ai
 clear ai ap aa aA
 obtain⟨b0,b1,b2,b3,b4,b5,b6,b7,b8,b9,aJ,aI,bf⟩:=n.out.box
 unfold pv
 go_wp2
 refine bodyPost_ret (results_cell_row rfl _ _ (w.heap.size+1) 53 _ (0,0) _ rfl ((n.out.put ..)).heap Tryz.underlying53 rfl (by kernel_rfl)) rfl ?_
 rw[HV.out]
 exact zW rfl aw.out (au.out.put n.out ..) (ay.out.put (by omega) ..)
theorem zpO (A:List Tk) (h:Nat) (K D z:Nat) (S:Sv) (q:PS) (w:World) (hm:Mem (Cx.mk A h false) K D z S q w) (h0:isT (Cx.mk A h false) q.pos 1 zae=false) (h1:isT (Cx.mk A h false) q.pos 1 zad=false) (h2:isT (Cx.mk A h false) q.pos 1 zA=false) (h3:isT (Cx.mk A h false) q.pos 1 zO=false) (h4:isT (Cx.mk A h false) q.pos 1 zap=false) (h5:isT (Cx.mk A h false) q.pos 1 za0=false):
  Calls Tryz.prog 21 #[pv (Cx.mk A h false) K D S q (-1) 0] w (Out (Cx.mk A h false) K D z (zy (Cx.mk A h false) q) 0 S w):=by
 have HM:=zc hm
 have aj:=hm.tok
 have I:(Cx.mk A h false).ts.length≤4000:=hm.few
 clear hm
 have HV:Hid (zy (Cx.mk A h false) q=bd (bd (.ok q) (zh (Cx.mk A h false) false)) fun a=>bd (bd (bd (bd (.ok a.1) (zd (Cx.mk A h false) 4 cEq)) (pE (Cx.mk A h false) .sum 0)) (zd (Cx.mk A h false) 4 cSemi)) (zX (Cx.mk A h false) 3 a.2)):=by show zy (Cx.mk A h false) q=_;rw[zy,h0,h1,h2,h3,h4,h5];rfl
 unfold pv
 go_enter Tryz.func21,Tryz.ntmps21
 go_wp2_with fail
 refine (zg (Cx.mk A h false) K D z S q (-1) 0 1 zae _ (zo (zo aj _) _) I (by decide)).mono ?_
 rintro e w1 ⟨rfl,ax⟩
 rw[h0]
 obtain⟨X0,X1,m1,t1⟩:=HM.out.two ax
 have j:=zc X0
 have o:=zc X1
 have am:=zc m1
 have aP:=zc t1
 clear X0 X1 m1 t1 ax
 clear aj
 obtain⟨V,a1,a2,U,O,a5,a6,L,a8,M,H,E,af⟩:=j.out.box
 go_wp2_with fail
 refine (zg (Cx.mk A h false) K D z S q (-1) 0 1 zad _ am.out.tok I (by decide)).mono ?_
 rintro e w2 ⟨rfl,N⟩
 rw[h1]
 replace j:=zc (j.out.below N)
 replace o:=zc (o.out.below N)
 have au:=zc (aP.out.below N)
 have ap:=zc (am.out.later N)
 clear N aP am
 clear V a1 a2 U O a5 a6 L a8 M H E af
 obtain⟨V,a1,a2,U,O,a5,a6,L,a8,M,H,E,af⟩:=j.out.box
 go_wp2_with fail
 refine (zg (Cx.mk A h false) K D z S q (-1) 0 1 zA _ ap.out.tok I (by decide)).mono ?_
 rintro e w3 ⟨rfl,ad⟩
 rw[h2]
 replace j:=zc (j.out.below ad)
 replace o:=zc (o.out.below ad)
 have aJ:=zc (au.out.below ad)
 have ao:=zc (ap.out.later ad)
 clear ad au ap
 clear V a1 a2 U O a5 a6 L a8 M H E af
 obtain⟨V,a1,a2,U,O,a5,a6,L,a8,M,H,E,af⟩:=j.out.box
 go_wp2_with fail
 refine (zg (Cx.mk A h false) K D z S q (-1) 0 1 zO _ ao.out.tok I (by decide)).mono ?_
 rintro e w4 ⟨rfl,Y⟩
 rw[h3]
 replace j:=zc (j.out.below Y)
 replace o:=zc (o.out.below Y)
 have aC:=zc (aJ.out.below Y)
 have al:=zc (ao.out.later Y)
 clear Y aJ ao
 clear V a1 a2 U O a5 a6 L a8 M H E af
 obtain⟨V,a1,a2,U,O,a5,a6,L,a8,M,H,E,af⟩:=j.out.box
 go_wp2_with fail
 refine (zg (Cx.mk A h false) K D z S q (-1) 0 1 zap _ al.out.tok I (by decide)).mono ?_
 rintro e w5 ⟨rfl,X⟩
 rw[h4]
 replace j:=zc (j.out.below X)
 replace o:=zc (o.out.below X)
 have aH:=zc (aC.out.below X)
 have aq:=zc (al.out.later X)
 clear X aC al
 clear V a1 a2 U O a5 a6 L a8 M H E af
 obtain⟨V,a1,a2,U,O,a5,a6,L,a8,M,H,E,af⟩:=j.out.box
 go_wp2_with fail
 refine (zg (Cx.mk A h false) K D z S q (-1) 0 1 za0 _ aq.out.tok I (by decide)).mono ?_
 rintro e w6 ⟨rfl,aa⟩
 rw[h5]
 replace j:=zc (j.out.below aa)
 replace o:=zc (o.out.below aa)
 have az:=zc (aH.out.below aa)
 have aM:=zc (aq.out.later aa)
 clear aa aH aq
 clear V a1 a2 U O a5 a6 L a8 M H E af
 obtain⟨V,a1,a2,U,O,a5,a6,L,a8,M,H,E,af⟩:=j.out.box
 go_wp2_with fail
 refine (zaU (Cx.mk A h false) K D z (.ok q) S q (-1) 0 false _ (zU q) aM.out).mono ?_
 rintro e w7 ⟨S7,q7,z7,n7,rfl,i7,m7,s7⟩
 replace j:=zc (j.out.stp s7)
 replace o:=zc (o.out.stp s7)
 have av:=zc (az.out.step s7)
 clear az
 have an:=zc m7
 have aF:=zc i7
 clear i7 m7 s7 aM
 clear V a1 a2 U O a5 a6 L a8 M H E af
 have ba:w.heap.size+1<w7.heap.size:=o.out.lt
 unfold pv
 go_upto_region 19 with fail
 refine zJ (R:=fun W=>Bx K S7 W (w.heap.size) _∧Bx K S7 W (w.heap.size+1) _∧Bx K S7 W (w7.heap.size) _∧Mem (Cx.mk A h false) K D z S7 q7 W∧SB w.heap.size S w S7 W) ⟨(j.out.alloc _),(o.out.alloc _),(Bx.new an.out _),(an.out.alloc _),(av.out.alloc _)⟩ ?_
 clear j o av an
 rintro w8 ⟨X0,X1,X2,m8,t8⟩
 have j:=zc X0
 have o:=zc X1
 have J:=zc X2
 have ay:=zc m8
 have aD:=zc t8
 clear m8 t8 X0 X1 X2
 obtain⟨c0,c1,c2,c3,c4,c5,c6,c7,c8,c9,aW,aV,cf⟩:=J.out.box
 go_wp2_with fail
 refine (zab (Cx.mk A h false) K D z _ S7 q7 z7 0 cEq _ aF.out.fst ay.out).mono ?_
 rintro e w9 ⟨S9,q9,z9,rfl,i9,m9,s9⟩
 replace j:=zc (j.out.stp s9)
 replace o:=zc (o.out.stp s9)
 replace J:=zc (J.out.stp s9)
 have aQ:=zc (aD.out.step s9)
 clear aD
 have aN:=zc m9
 have aZ:=zc i9
 clear i9 m9 s9 ay
 clear c0 c1 c2 c3 c4 c5 c6 c7 c8 c9 aW aV cf
 go_wp2_with fail
 refine (zcE (Cx.mk A h false) K D z _ S9 q9 z9 _ aZ.out aN.out).mono ?_
 rintro e bk ⟨aY,aT,aR,rfl,ar,aA,ac⟩
 replace j:=zc (j.out.stp ac)
 replace o:=zc (o.out.stp ac)
 replace J:=zc (J.out.stp ac)
 have ah:=zc (aQ.out.step ac)
 clear aQ
 have ae:=zc aA
 have aI:=zc ar
 clear ar aA ac aN
 go_wp2_with fail
 refine (zab (Cx.mk A h false) K D z _ aY aT aR 0 cSemi _ aI.out ae.out).mono ?_
 rintro e bi ⟨aX,aS,aU,rfl,aG,aB,Z⟩
 replace j:=zc (j.out.stp Z)
 replace o:=zc (o.out.stp Z)
 replace J:=zc (J.out.stp Z)
 have ak:=zc (ah.out.step Z)
 clear ah
 have ag:=zc aB
 have ai:=zc aG
 clear aG aB Z ae
 go_wp2_with fail
 refine (zc4 (Cx.mk A h false) K D z _ aX aS aU 0 3 n7 _ ai.out ag.out (zaZ ai.out)).mono ?_
 rintro e be ⟨bb,bh,bc,rfl,aE,aL,ab⟩
 replace j:=zc (j.out.stp ab)
 replace o:=zc (o.out.stp ab)
 replace J:=zc (J.out.stp ab)
 have aw:=zc (ak.out.step ab)
 clear ak
 have aO:=zc aL
 have aK:=zc aE
 clear aE aL ab ag
 obtain⟨b0,b1,b2,b3,b4,b5,b6,b7,b8,b9,bj,bg,bf⟩:=o.out.box
 unfold pv
 go_wp2
 refine bodyPost_ret (results_cell_row rfl _ _ (w.heap.size+1) 53 _ (0,0) _ rfl ((o.out.put ..)).heap Tryz.underlying53 rfl (by kernel_rfl)) rfl ?_
 rw[HV.out,←aF.out.bind (fun q n=>bd (bd (bd (bd (.ok q) (zd (Cx.mk A h false) 4 cEq)) (pE (Cx.mk A h false) .sum 0)) (zd (Cx.mk A h false) 4 cSemi)) (zX (Cx.mk A h false) 3 n)),←zjr]
 exact zW rfl aK.out (aO.out.put o.out ..) (aw.out.put (by omega) ..)
theorem zpP (o:List Tk) (h:Nat) (z n j:Nat) (S:Sv) (q:PS) (w:World) (D:Mem (Cx.mk o h false) z n j S q w):
  Calls Tryz.prog 21 #[pv (Cx.mk o h false) z n S q (-1) 0] w (Out (Cx.mk o h false) z n j (zy (Cx.mk o h false) q) 0 S w):=by
 cases A:isT (Cx.mk o h false) q.pos 1 zae with
 |true=>exact zpI o h z n j S q w D A
 |false=>
  cases E:isT (Cx.mk o h false) q.pos 1 zad with
  |true=>exact zpJ o h z n j S q w D A E
  |false=>
   cases H:isT (Cx.mk o h false) q.pos 1 zA with
   |true=>exact zpK o h z n j S q w D A E H
   |false=>
    cases I:isT (Cx.mk o h false) q.pos 1 zO with
    |true=>exact zpL o h z n j S q w D A E H I
    |false=>
     cases J:isT (Cx.mk o h false) q.pos 1 zap with
     |true=>exact zpM o h z n j S q w D A E H I J
     |false=>
      cases K:isT (Cx.mk o h false) q.pos 1 za0 with
      |true=>exact zpN o h z n j S q w D A E H I J K
      |false=>
       exact zpO o h z n j S q w D A E H I J K
theorem zpQ (C:Cx) (o j h:Nat) (S:Sv) (q:PS) (w:World) (A:Mem C o j h S q w):
  Calls Tryz.prog 21 #[pv C o j S q (-1) 0] w (Out C o j h (zy C q) 0 S w):=by
 obtain⟨D,n,z⟩:=C
 cases z with
 |true=>exact zpH D n o j h S q w A
 |false=>exact zpP D n o j h S q w A
theorem zpR (s:ByteArray) (j:Bool) (w:World) (hs:s.size≤4294967296):
  Calls Tryz.prog 6 #[.string s,.bool j] w fun e w'=>ParseOut s j w e w'∧Below w.heap.size w w':=by
 obtain⟨i0,hi,ap,ay,av⟩:=info_parts Tryz.infoExp
 go_enter Tryz.func6,Tryz.ntmps6
 go_wp2_with fail
 refine (zko s j _ hs).mono ?_
 rintro e V ⟨⟨r1,M,K⟩,b1⟩
 have ac:Hid (Below w.heap.size w V):=((Below.refl _ _).alloc (Nat.le_refl _) _).trans (b1.mono (by rw[zj];omega))
 have hG:V.heap[w.heap.size]? =some (.cells #[.slice none 0 0,.slice none 0 0,.slice none 0 0,.slice none 0 0,.slice none 0 0] 28 (0,0)):=(b1.block _ (by rw[zj];omega)).trans (heap_alloc_new w _)
 rw[zj] at b1
 cases r1 with
 |error p=>
  obtain⟨g,L,rfl,q⟩:=K
  have HY:Hid (zb4 s j (.error p)):=⟨_,M,rfl⟩
  have HG:=zc hG
  obtain⟨c0,c1,c2,c3,c4,cf⟩:=zk hG
  have dz:decide ((0:Int)≤(p:Int))=true:=decide_eq_true (by omega)
  clear q M b1 hG
  go_wp2
  refine bodyPost_ret (za8 rfl _ _ w.heap.size 28 _ (0,0) _ rfl (zcU HG.out) Tryz.underlying28 rfl (by kernel_rfl)) rfl ?_
  exact⟨⟨_,HY.out,rfl⟩,zdg ac.out (Nat.le_refl _) _ _ _ _ _⟩
 |ok z=>
  obtain⟨g,n,L,rfl,q⟩:=K
  obtain rfl:n=z.length:=q.2
  rw[zj] at q
  have al:w.heap.size+1≤V.heap.size:=by have:=b1.size;rw[zj] at this;exact this
  have an:=zgV M
  have HR:=zc M
  have ae:Mem ⟨z,s.size,j⟩ g L (w.heap.size+1) S0 zb3 V:=zgW q an al
  have aj:=zc ae
  have HG:=zc hG
  clear q M ae hG
  go_wp2
  go_loopg [] (z.length+1) (fun k wr=>∃(x':PR) (D:Sv) (U:PS) (z':Int),Is x' U z'∧bd x' (zaq ⟨z,s.size,j⟩)=zaq ⟨z,s.size,j⟩ zb3∧(z'<0→z.length-U.pos<k)∧Mem ⟨z,s.size,j⟩ g L (w.heap.size+1) D U wr∧Below w.heap.size w wr∧Bx g D wr V.heap.size #[.slice (some ⟨g,0,none⟩) z.length L,.int .i64 U.pos,.int .i64 s.size,.bool j,.slice D.rq.a U.rq.length D.rq.cap,.slice D.im.a U.im.length D.im.cap,.slice D.ep.a U.ep.length D.ep.cap,.slice D.st.a U.st.length D.st.cap,.slice D.ex.a U.ex.length D.ex.cap,.slice D.la.a U.la.length D.la.cap,.int .i64 z',.int .i64 0]∧wr.heap[w.heap.size]? =some (.cells #[.slice none 0 0,.slice none 0 0,.slice none 0 0,.slice none 0 0,.slice none 0 0] 28 (0,0)))
  case atStart=>exact⟨.ok zb3,S0,zb3,-1,zU _,rfl,fun _=>by show z.length-0<z.length+1;omega,aj.out.alloc _,ac.out.alloc ac.out.size _,Bx.new aj.out _,(Below.heap_alloc _ _ _ (by omega)).trans HG.out⟩
  case round=>
   obtain⟨x2,S2,J,z2,i2,e2,l2,m2,t2,X0,G2⟩:=hrel
   have ag:=zc i2
   have ad:=zc e2
   have aq:=zc l2
   have o:=zc m2
   have X:=zc t2
   have I:=zc X0
   have E:=zc G2
   have aC:J.pos≤z.length:=m2.inv.pos
   obtain⟨a0,a1,a2,a3,a4,a5,a6,a7,a8,a9,aa,Y,af⟩:=X0.box
   clear i2 e2 l2 m2 t2 X0 G2
   by_cases hz:z2<0
   ·have dz:decide (z2<0)=true:=decide_eq_true hz
    obtain⟨rfl,rfl⟩:=za7 ag.out hz
    by_cases hp:J.pos<z.length
    ·have aA:=aq.out hz
     go_wp2_with fail
     refine (zpQ ⟨z,s.size,j⟩ g L (w.heap.size+1) S2 J _ o.out).mono ?_
     rintro e w3 ⟨S3,q3,z3,rfl,i3,m3,s3⟩
     have au:=zc m3
     have ah:=zc i3
     have Z:Hid (Below (w.heap.size+1) wr w3):=s3.under o.out.base o.out.own
     have O:Hid (Bx g S3 w3 V.heap.size _):=I.out.stp s3
     have ax:Hid (Below w.heap.size w w3):=X.out.trans (Z.out.mono (by omega))
     have ab:Hid (w3.heap[w.heap.size]? =some (.cells #[.slice none 0 0,.slice none 0 0,.slice none 0 0,.slice none 0 0,.slice none 0 0] 28 (0,0))):=(Z.out.block _ (by omega)).trans E.out
     have HE:Hid (bd (zy ⟨z,s.size,j⟩ J) (zaq ⟨z,s.size,j⟩)=zaq ⟨z,s.size,j⟩ zb3):=by
      show _=_
      rw[←ad.out,zx,zeQ,if_pos hp]
     have HP:Hid (z3<0→J.pos<q3.pos):=fun h=>zeP (za7 ah.out h).1
     clear i3 m3 s3 a0 a1 a2 a3 a4 a5 a6 a7 a8 a9 aa Y af
     obtain⟨a0,a1,a2,a3,a4,a5,a6,a7,a8,a9,aa,Y,af⟩:=O.out.box
     unfold pv
     go_wp2
     go_roundg (gk-1)
     case rel=>exact⟨_,S3,q3,z3,ah.out,HE.out,fun h=>by have:=HP.out h;omega,au.out.put O.out _ _ _ _ _ _ _ _ _ _ _ _,zb5 ax.out (by omega) _ _ _ _ _ _ _ _ _ _ _ _,O.out.put _ _ _ _ _ _ _ _ _ _ _ _,(ze6 (by omega) ..).trans ab.out⟩
     case measure=>omega
    ·have HD:Hid (zaq ⟨z,s.size,j⟩ zb3= .ok J):=by
      show _=_
      rw[←ad.out,zx,zeQ,if_neg hp]
     have HY:Hid (zb4 s j (.ok J)):=⟨_,HR.out,HD.out.symm⟩
     have ai:V.heap.size<wr.heap.size:=I.out.lt
     have az:=o.out.inv.ep
     have A:=o.out.own.ep
     have Z:=o.out.base
     rcases o.out.own.la.nil_or with ⟨ha,hc,hn⟩|⟨gl,ha⟩
     ·have HN:Hid (J.la=[]):=List.eq_nil_of_length_eq_zero hn
      rw[ha,hc,hn] at a9
      obtain⟨c0,c1,c2,c3,c4,cf⟩:=zk E.out
      clear ha hc hn
      go_wp2_with (at_builtin;refine zka _ rfl _ _ 24 rfl 102 i0 Tryz.underlying24 hi (w.heap.size+1) 4 J.ep.length S2.ep _ (by rfl) A (by rfl) ?_)
      clear A
      go_wp2
      refine bodyPost_ret (za8 rfl _ _ w.heap.size 28 _ (0,0) _ rfl (zcU ((zp (by omega)).trans E.out)) Tryz.underlying28 rfl (by kernel_rfl)) rfl ?_
      refine⟨⟨_,HY.out,S2,by simp[zeR,HN.out],o.out.whole0 HN.out (Nat.lt_succ_self _) I.out.free fun k N h2=>?_⟩,zdg (X.out.setCell (by show _≤V.heap.size;omega) _) (Nat.le_refl _) _ _ _ _ _⟩
      rw[zp N,zp N,zp N,zp N,zp N,zp h2]
     ·have am:OwnR wr (w.heap.size+1) 102 4 ⟨some ⟨gl,0,none⟩,S2.la.cap⟩ J.la.length (J.la.flatMap epL):=by have:=o.out.own.la;unfold OwnR at this ⊢;rw[ha] at this;exact this
      rw[ha] at a9
      go_wp2_with (at_builtin;refine zjZ _ rfl _ _ 24 rfl (w.heap.size+1) 102 i0 _ 4 56 Tryz.underlying24 hi ap ay av rfl (by decide) (by decide) S2.ep J.ep.length _ (by rfl) A gl J.la.length S2.la.cap (w.heap.size+1) _ (by rfl) am (zfJ _) (by omega) Z ?_)
      intro r' w3 hr hg ak
      have aw:=zc hr
      have H:=zc hg
      have ao:=zc ak
      have ar:=fun b hb=>zdm (W:=wr) o.out.own (Nat.le_refl _) (r:=S2.ep.blk) (fun k e=>.inr (.inr (.inl e))) b hb
      have O:Hid (w3.heap[V.heap.size]? =_):=(hg.block _ ai (fun e=>I.out.free (.inr (.inr (.inl e.symm))))).trans I.out.heap
      have ab:Hid (w3.heap[w.heap.size]? =_):=(hg.block _ (by omega) (fun e=>by have:=(A.typed e.symm).1;omega)).trans E.out
      clear a0 a1 a2 a3 a4 a5 a6 a7 a8 a9 aa Y af hr hg ak ar A am
      obtain⟨a0,a1,a2,a3,a4,a5,a6,a7,a8,a9,aa,Y,af⟩:=zag O.out
      obtain⟨c0,c1,c2,c3,c4,cf⟩:=zk ab.out
      go_wp2
      refine bodyPost_ret (za8 rfl _ _ w.heap.size 28 _ (0,0) _ rfl (zcU ((zp (by omega)).trans ab.out)) Tryz.underlying28 rfl (by kernel_rfl)) rfl ?_
      refine⟨⟨_,HY.out,{S2 with ep:=r'},by simp[zeR],o.out.whole H.out aw.out ao.out (Nat.lt_succ_self _) ai I.out.free fun k N h2=>?_⟩,zdg ((X.out.trans (Below.mono (B:=w.heap.size+1) ⟨H.out.os,H.out.tape,H.out.output,H.out.size,fun k hk=>H.out.block k (by omega) fun e=>by have:=(o.out.own.ep.typed e.symm).1;omega⟩ (by omega))).setCell (by show _≤V.heap.size;omega) _) (Nat.le_refl _) _ _ _ _ _⟩
      rw[zp N,zp N,zp N,zp N,zp N,zp h2]
   ·have dz:decide (z2<0)=false:=decide_eq_false hz
    obtain⟨e0,rfl,rfl⟩:=zcN ag.out hz
    have aB:decide ((0:Int)≤(e0:Int))=true:=decide_eq_true (by omega)
    have HY:Hid (zb4 s j (.error e0)):=⟨_,HR.out,(show (.error e0:PR)=zaq ⟨z,s.size,j⟩ zb3 from ad.out)⟩
    obtain⟨c0,c1,c2,c3,c4,cf⟩:=zk E.out
    go_wp2
    go_region
    all_goals
     go_wp2
     refine bodyPost_ret (za8 rfl _ _ w.heap.size 28 _ (0,0) _ rfl (zcU E.out) Tryz.underlying28 rfl (by kernel_rfl)) rfl ?_
     exact⟨⟨_,HY.out,rfl⟩,(zdg X.out (Nat.le_refl _) ..).drew⟩
end Go.Proofs.YticdggnnpjachaaGreat
