/-
  What spec's l4Item answers outside of a script: the walks.
  What spec.Parse answers: the walk.
-/
import Derived.Test.YticdggnnpjachaaGreatCcSpecParseMToSpecParseP
namespace Go.Proofs.YticdggnnpjachaaGreat
set_option maxRecDepth 100000
set_option maxHeartbeats 6400000
open Go.RowKit Go.PlainAid
theorem zpI (n:List Tk) (h:Nat) (I o j:Nat) (S:Sv) (q:PS) (w:World) (M:Mem (Cx.mk n h false) I o j S q w) (X:isT (Cx.mk n h false) q.pos 1 zae=true):
  Calls Tryz.prog 21 #[pv (Cx.mk n h false) I o S q (-1) 0] w (Out (Cx.mk n h false) I o j (zy (Cx.mk n h false) q) 0 S w):=by
 have HM:=zc M
 have A:=M.tok
 have H:(Cx.mk n h false).ts.length≤4000:=M.few
 clear M
 have HV:Hid (zy (Cx.mk n h false) q=zaK (Cx.mk n h false) q):=by show zy (Cx.mk n h false) q=_;rw[zy,X];rfl
 unfold pv
 go_enter Tryz.func21,Tryz.ntmps21
 go_wp2_with fail
 refine (zg (Cx.mk n h false) I o j S q (-1) 0 1 zae _ (zo (zo A _) _) H (by decide)).mono ?_
 rintro e w1 ⟨rfl,E⟩
 rw[X]
 obtain⟨X0,X1,m1,t1⟩:=HM.out.two E
 have D:=zc X0
 have z:=zc X1
 have K:=zc m1
 have J:=zc t1
 clear X0 X1 m1 t1 E
 clear A
 obtain⟨a0,a1,a2,a3,a4,a5,a6,a7,a8,a9,Y,N,af⟩:=D.out.box
 go_wp2_with fail
 refine (zp9 (Cx.mk n h false) I o j S q _ K.out X).mono ?_
 rintro e w2 ⟨S2,q2,z2,rfl,i2,Z,L⟩
 replace D:=zc (D.out.stp L)
 replace z:=zc (z.out.stp L)
 have U:=zc (J.out.step L)
 clear J
 have V:=zc Z
 have O:=zc i2
 clear i2 Z L K
 clear a0 a1 a2 a3 a4 a5 a6 a7 a8 a9 Y N af
 obtain⟨b0,b1,b2,b3,b4,b5,b6,b7,b8,b9,ab,aa,bf⟩:=z.out.box
 unfold pv
 go_wp2
 refine bodyPost_ret (results_cell_row rfl _ _ (w.heap.size+1) 53 _ (0,0) _ rfl ((z.out.put ..)).heap Tryz.underlying53 rfl (by kernel_rfl)) rfl ?_
 rw[HV.out]
 exact zW rfl O.out (V.out.put z.out ..) (U.out.put (by omega) ..)
theorem zpJ (z:List Tk) (h:Nat) (L A j:Nat) (S:Sv) (q:PS) (w:World) (V:Mem (Cx.mk z h false) L A j S q w) (h0:isT (Cx.mk z h false) q.pos 1 zae=false) (h1:isT (Cx.mk z h false) q.pos 1 zad=true):
  Calls Tryz.prog 21 #[pv (Cx.mk z h false) L A S q (-1) 0] w (Out (Cx.mk z h false) L A j (zy (Cx.mk z h false) q) 0 S w):=by
 have HM:=zc V
 have E:=V.tok
 have H:(Cx.mk z h false).ts.length≤4000:=V.few
 clear V
 have HV:Hid (zy (Cx.mk z h false) q=zaf (Cx.mk z h false) q):=by show zy (Cx.mk z h false) q=_;rw[zy,h0,h1];rfl
 unfold pv
 go_enter Tryz.func21,Tryz.ntmps21
 go_wp2_with fail
 refine (zg (Cx.mk z h false) L A j S q (-1) 0 1 zae _ (zo (zo E _) _) H (by decide)).mono ?_
 rintro e w1 ⟨rfl,M⟩
 rw[h0]
 obtain⟨X0,X1,m1,t1⟩:=HM.out.two M
 have o:=zc X0
 have n:=zc X1
 have J:=zc m1
 have U:=zc t1
 clear X0 X1 m1 t1 M
 clear E
 obtain⟨a0,Z,a2,a3,a4,a5,a6,a7,Y,a9,K,I,af⟩:=o.out.box
 go_wp2_with fail
 refine (zg (Cx.mk z h false) L A j S q (-1) 0 1 zad _ J.out.tok H (by decide)).mono ?_
 rintro e w2 ⟨rfl,D⟩
 rw[h1]
 replace o:=zc (o.out.below D)
 replace n:=zc (n.out.below D)
 have N:=zc (U.out.below D)
 have O:=zc (J.out.later D)
 clear D U J
 clear a0 Z a2 a3 a4 a5 a6 a7 Y a9 K I af
 obtain⟨a0,Z,a2,a3,a4,a5,a6,a7,Y,a9,K,I,af⟩:=o.out.box
 go_wp2_with fail
 refine (zpA (Cx.mk z h false) L A j S q _ O.out h1).mono ?_
 rintro e w3 ⟨S3,q3,z3,rfl,i3,m3,X⟩
 replace o:=zc (o.out.stp X)
 replace n:=zc (n.out.stp X)
 have aa:=zc (N.out.step X)
 clear N
 have ab:=zc m3
 have ac:=zc i3
 clear i3 m3 X O
 clear a0 Z a2 a3 a4 a5 a6 a7 Y a9 K I af
 obtain⟨b0,b1,b2,b3,b4,b5,b6,b7,b8,b9,ae,ad,bf⟩:=n.out.box
 unfold pv
 go_wp2
 refine bodyPost_ret (results_cell_row rfl _ _ (w.heap.size+1) 53 _ (0,0) _ rfl ((n.out.put ..)).heap Tryz.underlying53 rfl (by kernel_rfl)) rfl ?_
 rw[HV.out]
 exact zW rfl ac.out (ab.out.put n.out ..) (aa.out.put (by omega) ..)
theorem zpK (A:List Tk) (h:Nat) (E z o:Nat) (S:Sv) (q:PS) (w:World) (hm:Mem (Cx.mk A h false) E z o S q w) (h0:isT (Cx.mk A h false) q.pos 1 zae=false) (h1:isT (Cx.mk A h false) q.pos 1 zad=false) (h2:isT (Cx.mk A h false) q.pos 1 zA=true):
  Calls Tryz.prog 21 #[pv (Cx.mk A h false) E z S q (-1) 0] w (Out (Cx.mk A h false) E z o (zy (Cx.mk A h false) q) 0 S w):=by
 have HM:=zc hm
 have L:=hm.tok
 have K:(Cx.mk A h false).ts.length≤4000:=hm.few
 clear hm
 have HV:Hid (zy (Cx.mk A h false) q=zaG (zcm (Cx.mk A h false) q)):=by show zy (Cx.mk A h false) q=_;rw[zy,h0,h1,h2];rfl
 unfold pv
 go_enter Tryz.func21,Tryz.ntmps21
 go_wp2_with fail
 refine (zg (Cx.mk A h false) E z o S q (-1) 0 1 zae _ (zo (zo L _) _) K (by decide)).mono ?_
 rintro e w1 ⟨rfl,ac⟩
 rw[h0]
 obtain⟨X,X1,m1,t1⟩:=HM.out.two ac
 have n:=zc X
 have j:=zc X1
 have O:=zc m1
 have ad:=zc t1
 clear X X1 m1 t1 ac
 clear L
 obtain⟨a0,a1,Y,U,a4,a5,a6,a7,a8,a9,H,J,af⟩:=n.out.box
 go_wp2_with fail
 refine (zg (Cx.mk A h false) E z o S q (-1) 0 1 zad _ O.out.tok K (by decide)).mono ?_
 rintro e w2 ⟨rfl,I⟩
 rw[h1]
 replace n:=zc (n.out.below I)
 replace j:=zc (j.out.below I)
 have Z:=zc (ad.out.below I)
 have N:=zc (O.out.later I)
 clear I ad O
 clear a0 a1 Y U a4 a5 a6 a7 a8 a9 H J af
 obtain⟨a0,a1,Y,U,a4,a5,a6,a7,a8,a9,H,J,af⟩:=n.out.box
 go_wp2_with fail
 refine (zg (Cx.mk A h false) E z o S q (-1) 0 1 zA _ N.out.tok K (by decide)).mono ?_
 rintro e w3 ⟨rfl,D⟩
 rw[h2]
 replace n:=zc (n.out.below D)
 replace j:=zc (j.out.below D)
 have aa:=zc (Z.out.below D)
 have V:=zc (N.out.later D)
 clear D Z N
 clear a0 a1 Y U a4 a5 a6 a7 a8 a9 H J af
 obtain⟨a0,a1,Y,U,a4,a5,a6,a7,a8,a9,H,J,af⟩:=n.out.box
 go_wp2_with fail
 refine (zg1 (Cx.mk A h false) E z o S q _ V.out).mono ?_
 rintro e w4 ⟨S4,q4,z4,n4,rfl,i4,m4,s4⟩
 replace n:=zc (n.out.stp s4)
 replace j:=zc (j.out.stp s4)
 have ab:=zc (aa.out.step s4)
 clear aa
 have M:=zc m4
 have ah:=zc i4
 clear i4 m4 s4 V
 clear a0 a1 Y U a4 a5 a6 a7 a8 a9 H J af
 have aj:w.heap.size+1<w4.heap.size:=j.out.lt
 unfold pv
 go_upto_region 7 with fail
 refine zJ (R:=fun W=>Bx E S4 W (w.heap.size) _∧Bx E S4 W (w.heap.size+1) _∧Bx E S4 W (w4.heap.size) _∧Mem (Cx.mk A h false) E z o S4 q4 W∧SB w.heap.size S w S4 W) ⟨(n.out.alloc _),(j.out.alloc _),(Bx.new M.out _),(M.out.alloc _),(ab.out.alloc _)⟩ ?_
 clear n j ab M
 rintro w5 ⟨X,X1,X2,m5,t5⟩
 have n:=zc X
 have j:=zc X1
 have ag:=zc X2
 have ae:=zc m5
 have ai:=zc t5
 clear m5 t5 X X1 X2
 obtain⟨b0,b1,b2,b3,b4,b5,b6,b7,b8,b9,al,am,bf⟩:=j.out.box
 obtain⟨c0,c1,c2,c3,c4,c5,c6,c7,c8,c9,ak,an,cf⟩:=ag.out.box
 go_wp2
 refine bodyPost_ret (results_cell_row rfl _ _ (w.heap.size+1) 53 _ (0,0) _ rfl ((j.out.put ..)).heap Tryz.underlying53 rfl (by kernel_rfl)) rfl ?_
 rw[HV.out]
 exact zW rfl ah.out.fst (ae.out.put j.out ..) (ai.out.put (by omega) ..)
theorem zpL (A:List Tk) (h:Nat) (I z o:Nat) (S:Sv) (q:PS) (w:World) (hm:Mem (Cx.mk A h false) I z o S q w) (h0:isT (Cx.mk A h false) q.pos 1 zae=false) (h1:isT (Cx.mk A h false) q.pos 1 zad=false) (h2:isT (Cx.mk A h false) q.pos 1 zA=false) (h3:isT (Cx.mk A h false) q.pos 1 zO=true):
  Calls Tryz.prog 21 #[pv (Cx.mk A h false) I z S q (-1) 0] w (Out (Cx.mk A h false) I z o (zy (Cx.mk A h false) q) 0 S w):=by
 have HM:=zc hm
 have M:=hm.tok
 have H:(Cx.mk A h false).ts.length≤4000:=hm.few
 clear hm
 have HV:Hid (zy (Cx.mk A h false) q=zaG (fnP (Cx.mk A h false) q)):=by show zy (Cx.mk A h false) q=_;rw[zy,h0,h1,h2,h3];rfl
 unfold pv
 go_enter Tryz.func21,Tryz.ntmps21
 go_wp2_with fail
 refine (zg (Cx.mk A h false) I z o S q (-1) 0 1 zae _ (zo (zo M _) _) H (by decide)).mono ?_
 rintro e w1 ⟨rfl,ah⟩
 rw[h0]
 obtain⟨X0,X1,m1,t1⟩:=HM.out.two ah
 have j:=zc X0
 have n:=zc X1
 have aa:=zc m1
 have ai:=zc t1
 clear X0 X1 m1 t1 ah
 clear M
 obtain⟨X,a1,V,N,a4,a5,a6,a7,Z,a9,D,E,af⟩:=j.out.box
 go_wp2_with fail
 refine (zg (Cx.mk A h false) I z o S q (-1) 0 1 zad _ aa.out.tok H (by decide)).mono ?_
 rintro e w2 ⟨rfl,K⟩
 rw[h1]
 replace j:=zc (j.out.below K)
 replace n:=zc (n.out.below K)
 have ac:=zc (ai.out.below K)
 have Y:=zc (aa.out.later K)
 clear K ai aa
 clear X a1 V N a4 a5 a6 a7 Z a9 D E af
 obtain⟨X,a1,V,N,a4,a5,a6,a7,Z,a9,D,E,af⟩:=j.out.box
 go_wp2_with fail
 refine (zg (Cx.mk A h false) I z o S q (-1) 0 1 zA _ Y.out.tok H (by decide)).mono ?_
 rintro e w3 ⟨rfl,J⟩
 rw[h2]
 replace j:=zc (j.out.below J)
 replace n:=zc (n.out.below J)
 have ad:=zc (ac.out.below J)
 have U:=zc (Y.out.later J)
 clear J ac Y
 clear X a1 V N a4 a5 a6 a7 Z a9 D E af
 obtain⟨X,a1,V,N,a4,a5,a6,a7,Z,a9,D,E,af⟩:=j.out.box
 go_wp2_with fail
 refine (zg (Cx.mk A h false) I z o S q (-1) 0 1 zO _ U.out.tok H (by decide)).mono ?_
 rintro e w4 ⟨rfl,L⟩
 rw[h3]
 replace j:=zc (j.out.below L)
 replace n:=zc (n.out.below L)
 have ae:=zc (ad.out.below L)
 have ab:=zc (U.out.later L)
 clear L ad U
 clear X a1 V N a4 a5 a6 a7 Z a9 D E af
 obtain⟨X,a1,V,N,a4,a5,a6,a7,Z,a9,D,E,af⟩:=j.out.box
 go_wp2_with fail
 refine (zg2 (Cx.mk A h false) I z o S q _ ab.out).mono ?_
 rintro e w5 ⟨S5,q5,z5,n5,rfl,i5,m5,s5⟩
 replace j:=zc (j.out.stp s5)
 replace n:=zc (n.out.stp s5)
 have ag:=zc (ae.out.step s5)
 clear ae
 have O:=zc m5
 have aj:=zc i5
 clear i5 m5 s5 ab
 clear X a1 V N a4 a5 a6 a7 Z a9 D E af
 have an:w.heap.size+1<w5.heap.size:=n.out.lt
 unfold pv
 go_upto_region 10 with fail
 refine zJ (R:=fun W=>Bx I S5 W (w.heap.size) _∧Bx I S5 W (w.heap.size+1) _∧Bx I S5 W (w5.heap.size) _∧Mem (Cx.mk A h false) I z o S5 q5 W∧SB w.heap.size S w S5 W) ⟨(j.out.alloc _),(n.out.alloc _),(Bx.new O.out _),(O.out.alloc _),(ag.out.alloc _)⟩ ?_
 clear j n ag O
 rintro w6 ⟨X0,X1,X2,m6,t6⟩
 have j:=zc X0
 have n:=zc X1
 have ak:=zc X2
 have am:=zc m6
 have al:=zc t6
 clear m6 t6 X0 X1 X2
 obtain⟨b0,b1,b2,b3,b4,b5,b6,b7,b8,b9,ap,aq,bf⟩:=n.out.box
 obtain⟨c0,c1,c2,c3,c4,c5,c6,c7,c8,c9,ao,ar,cf⟩:=ak.out.box
 go_wp2
 refine bodyPost_ret (results_cell_row rfl _ _ (w.heap.size+1) 53 _ (0,0) _ rfl ((n.out.put ..)).heap Tryz.underlying53 rfl (by kernel_rfl)) rfl ?_
 rw[HV.out]
 exact zW rfl aj.out.fst (am.out.put n.out ..) (al.out.put (by omega) ..)
theorem zpM (A:List Tk) (h:Nat) (H z o:Nat) (S:Sv) (q:PS) (w:World) (hm:Mem (Cx.mk A h false) H z o S q w) (h0:isT (Cx.mk A h false) q.pos 1 zae=false) (h1:isT (Cx.mk A h false) q.pos 1 zad=false) (h2:isT (Cx.mk A h false) q.pos 1 zA=false) (h3:isT (Cx.mk A h false) q.pos 1 zO=false) (h4:isT (Cx.mk A h false) q.pos 1 zap=true):
  Calls Tryz.prog 21 #[pv (Cx.mk A h false) H z S q (-1) 0] w (Out (Cx.mk A h false) H z o (zy (Cx.mk A h false) q) 0 S w):=by
 have HM:=zc hm
 have ab:=hm.tok
 have I:(Cx.mk A h false).ts.length≤4000:=hm.few
 clear hm
 have HV:Hid (zy (Cx.mk A h false) q=bd (bd (bd (bd (bd (bd (.ok q) (zd (Cx.mk A h false) 1 zap)) (zd (Cx.mk A h false) 4 zm)) (pE (Cx.mk A h false) .sum 0)) (zd (Cx.mk A h false) 4 zay)) (zd (Cx.mk A h false) 4 cSemi)) (zX (Cx.mk A h false) 4 sNone)):=by show zy (Cx.mk A h false) q=_;rw[zy,h0,h1,h2,h3,h4];rfl
 unfold pv
 go_enter Tryz.func21,Tryz.ntmps21
 go_wp2_with fail
 refine (zg (Cx.mk A h false) H z o S q (-1) 0 1 zae _ (zo (zo ab _) _) I (by decide)).mono ?_
 rintro e w1 ⟨rfl,aG⟩
 rw[h0]
 obtain⟨X0,X1,m1,t1⟩:=HM.out.two aG
 have j:=zc X0
 have n:=zc X1
 have al:=zc m1
 have aJ:=zc t1
 clear X0 X1 m1 t1 aG
 clear ab
 obtain⟨Y,a1,X,V,a4,a5,a6,a7,Z,a9,D,E,af⟩:=j.out.box
 go_wp2_with fail
 refine (zg (Cx.mk A h false) H z o S q (-1) 0 1 zad _ al.out.tok I (by decide)).mono ?_
 rintro e w2 ⟨rfl,L⟩
 rw[h1]
 replace j:=zc (j.out.below L)
 replace n:=zc (n.out.below L)
 have ay:=zc (aJ.out.below L)
 have ak:=zc (al.out.later L)
 clear L aJ al
 clear Y a1 X V a4 a5 a6 a7 Z a9 D E af
 obtain⟨Y,a1,X,V,a4,a5,a6,a7,Z,a9,D,E,af⟩:=j.out.box
 go_wp2_with fail
 refine (zg (Cx.mk A h false) H z o S q (-1) 0 1 zA _ ak.out.tok I (by decide)).mono ?_
 rintro e w3 ⟨rfl,K⟩
 rw[h2]
 replace j:=zc (j.out.below K)
 replace n:=zc (n.out.below K)
 have aC:=zc (ay.out.below K)
 have aj:=zc (ak.out.later K)
 clear K ay ak
 clear Y a1 X V a4 a5 a6 a7 Z a9 D E af
 obtain⟨Y,a1,X,V,a4,a5,a6,a7,Z,a9,D,E,af⟩:=j.out.box
 go_wp2_with fail
 refine (zg (Cx.mk A h false) H z o S q (-1) 0 1 zO _ aj.out.tok I (by decide)).mono ?_
 rintro e w4 ⟨rfl,U⟩
 rw[h3]
 replace j:=zc (j.out.below U)
 replace n:=zc (n.out.below U)
 have aD:=zc (aC.out.below U)
 have ai:=zc (aj.out.later U)
 clear U aC aj
 clear Y a1 X V a4 a5 a6 a7 Z a9 D E af
 obtain⟨Y,a1,X,V,a4,a5,a6,a7,Z,a9,D,E,af⟩:=j.out.box
 go_wp2_with fail
 refine (zg (Cx.mk A h false) H z o S q (-1) 0 1 zap _ ai.out.tok I (by decide)).mono ?_
 rintro e w5 ⟨rfl,N⟩
 rw[h4]
 replace j:=zc (j.out.below N)
 replace n:=zc (n.out.below N)
 have aF:=zc (aD.out.below N)
 have ao:=zc (ai.out.later N)
 clear N aD ai
 clear Y a1 X V a4 a5 a6 a7 Z a9 D E af
 obtain⟨Y,a1,X,V,a4,a5,a6,a7,Z,a9,D,E,af⟩:=j.out.box
 go_wp2_with fail
 refine (zaC (Cx.mk A h false) H z o (.ok q) S q (-1) 0 zap _ (zU q) ao.out).mono ?_
 rintro e w6 ⟨S6,q6,z6,rfl,i6,m6,s6⟩
 replace j:=zc (j.out.stp s6)
 replace n:=zc (n.out.stp s6)
 have aB:=zc (aF.out.step s6)
 clear aF
 have aE:=zc m6
 have aT:=zc i6
 clear i6 m6 s6 ao
 clear Y a1 X V a4 a5 a6 a7 Z a9 D E af
 go_wp2_with fail
 refine (zab (Cx.mk A h false) H z o _ S6 q6 z6 0 zm _ aT.out aE.out).mono ?_
 rintro e w7 ⟨S7,q7,z7,rfl,i7,m7,s7⟩
 replace j:=zc (j.out.stp s7)
 replace n:=zc (n.out.stp s7)
 have ax:=zc (aB.out.step s7)
 clear aB
 have am:=zc m7
 have aO:=zc i7
 clear i7 m7 s7 aE
 go_wp2_with fail
 refine (zcE (Cx.mk A h false) H z o _ S7 q7 z7 _ aO.out am.out).mono ?_
 rintro e w8 ⟨S8,q8,z8,rfl,i8,m8,s8⟩
 replace j:=zc (j.out.stp s8)
 replace n:=zc (n.out.stp s8)
 have ar:=zc (ax.out.step s8)
 clear ax
 have au:=zc m8
 have aR:=zc i8
 clear i8 m8 s8 am
 go_wp2_with fail
 refine (zab (Cx.mk A h false) H z o _ S8 q8 z8 0 zay _ aR.out au.out).mono ?_
 rintro e w9 ⟨S9,q9,z9,rfl,i9,m9,s9⟩
 replace j:=zc (j.out.stp s9)
 replace n:=zc (n.out.stp s9)
 have av:=zc (ar.out.step s9)
 clear ar
 have ah:=zc m9
 have aP:=zc i9
 clear i9 m9 s9 au
 have aU:w.heap.size+1<w9.heap.size:=n.out.lt
 unfold pv
 go_upto_region 13 with fail
 refine zJ (R:=fun W=>Bx H S9 W (w.heap.size) _∧Bx H S9 W (w.heap.size+1) _∧Bx H S9 W (w9.heap.size) _∧Mem (Cx.mk A h false) H z o S9 q9 W∧SB w.heap.size S w S9 W) ⟨(j.out.alloc _),(n.out.alloc _),(Bx.new ah.out _),(ah.out.alloc _),(av.out.alloc _)⟩ ?_
 clear j n av ah
 rintro aV ⟨X0,X1,X2,aI,ap⟩
 have j:=zc X0
 have n:=zc X1
 have J:=zc X2
 have aa:=zc aI
 have ag:=zc ap
 clear aI ap X0 X1 X2
 obtain⟨c0,c1,c2,c3,c4,c5,c6,c7,c8,c9,aN,aS,cf⟩:=J.out.box
 go_wp2_with fail
 refine (zab (Cx.mk A h false) H z o _ S9 q9 z9 0 cSemi _ aP.out aa.out).mono ?_
 rintro e bb ⟨aM,aL,aQ,rfl,aq,aH,M⟩
 replace j:=zc (j.out.stp M)
 replace n:=zc (n.out.stp M)
 replace J:=zc (J.out.stp M)
 have ad:=zc (ag.out.step M)
 clear ag
 have ac:=zc aH
 have ae:=zc aq
 clear aq aH M aa
 clear c0 c1 c2 c3 c4 c5 c6 c7 c8 c9 aN aS cf
 go_wp2_with fail
 refine (zc4 (Cx.mk A h false) H z o _ aM aL aQ 0 4 sNone _ ae.out ac.out (zaZ ae.out)).mono ?_
 rintro e aZ ⟨aY,aW,bc,rfl,az,an,O⟩
 replace j:=zc (j.out.stp O)
 replace n:=zc (n.out.stp O)
 replace J:=zc (J.out.stp O)
 have aK:=zc (ad.out.step O)
 clear ad
 have aw:=zc an
 have aA:=zc az
 clear az an O ac
 obtain⟨b0,b1,b2,b3,b4,b5,b6,b7,b8,b9,aX,ba,bf⟩:=n.out.box
 unfold pv
 go_wp2
 refine bodyPost_ret (results_cell_row rfl _ _ (w.heap.size+1) 53 _ (0,0) _ rfl ((n.out.put ..)).heap Tryz.underlying53 rfl (by kernel_rfl)) rfl ?_
 rw[HV.out]
 exact zW rfl aA.out (aw.out.put n.out ..) (aK.out.put (by omega) ..)
theorem zpN (A:List Tk) (h:Nat) (I z o:Nat) (S:Sv) (q:PS) (w:World) (hm:Mem (Cx.mk A h false) I z o S q w) (h0:isT (Cx.mk A h false) q.pos 1 zae=false) (h1:isT (Cx.mk A h false) q.pos 1 zad=false) (h2:isT (Cx.mk A h false) q.pos 1 zA=false) (h3:isT (Cx.mk A h false) q.pos 1 zO=false) (h4:isT (Cx.mk A h false) q.pos 1 zap=false) (h5:isT (Cx.mk A h false) q.pos 1 za0=true):
  Calls Tryz.prog 21 #[pv (Cx.mk A h false) I z S q (-1) 0] w (Out (Cx.mk A h false) I z o (zy (Cx.mk A h false) q) 0 S w):=by
 have HM:=zc hm
 have ae:=hm.tok
 have H:(Cx.mk A h false).ts.length≤4000:=hm.few
 clear hm
 have HV:Hid (zy (Cx.mk A h false) q=bd (bd (bd (bd (.ok q) (zd (Cx.mk A h false) 1 za0)) (pE (Cx.mk A h false) .sum 0)) (zd (Cx.mk A h false) 4 cSemi)) (zX (Cx.mk A h false) 5 sNone)):=by show zy (Cx.mk A h false) q=_;rw[zy,h0,h1,h2,h3,h4,h5];rfl
 unfold pv
 go_enter Tryz.func21,Tryz.ntmps21
 go_wp2_with fail
 refine (zg (Cx.mk A h false) I z o S q (-1) 0 1 zae _ (zo (zo ae _) _) H (by decide)).mono ?_
 rintro e w1 ⟨rfl,aE⟩
 rw[h0]
 obtain⟨X0,X1,m1,t1⟩:=HM.out.two aE
 have j:=zc X0
 have n:=zc X1
 have ak:=zc m1
 have aG:=zc t1
 clear X0 X1 m1 t1 aE
 clear ae
 obtain⟨M,V,L,J,Z,a5,X,Y,O,U,D,E,af⟩:=j.out.box
 go_wp2_with fail
 refine (zg (Cx.mk A h false) I z o S q (-1) 0 1 zad _ ak.out.tok H (by decide)).mono ?_
 rintro e w2 ⟨rfl,N⟩
 rw[h1]
 replace j:=zc (j.out.below N)
 replace n:=zc (n.out.below N)
 have au:=zc (aG.out.below N)
 have aj:=zc (ak.out.later N)
 clear N aG ak
 clear M V L J Z a5 X Y O U D E af
 obtain⟨M,V,L,J,Z,a5,X,Y,O,U,D,E,af⟩:=j.out.box
 go_wp2_with fail
 refine (zg (Cx.mk A h false) I z o S q (-1) 0 1 zA _ aj.out.tok H (by decide)).mono ?_
 rintro e w3 ⟨rfl,K⟩
 rw[h2]
 replace j:=zc (j.out.below K)
 replace n:=zc (n.out.below K)
 have ay:=zc (au.out.below K)
 have ai:=zc (aj.out.later K)
 clear K au aj
 clear M V L J Z a5 X Y O U D E af
 obtain⟨M,V,L,J,Z,a5,X,Y,O,U,D,E,af⟩:=j.out.box
 go_wp2_with fail
 refine (zg (Cx.mk A h false) I z o S q (-1) 0 1 zO _ ai.out.tok H (by decide)).mono ?_
 rintro e w4 ⟨rfl,ac⟩
 rw[h3]
 replace j:=zc (j.out.below ac)
 replace n:=zc (n.out.below ac)
 have aB:=zc (ay.out.below ac)
 have ag:=zc (ai.out.later ac)
 clear ac ay ai
 clear M V L J Z a5 X Y O U D E af
 obtain⟨M,V,L,J,Z,a5,X,Y,O,U,D,E,af⟩:=j.out.box
 go_wp2_with fail
 refine (zg (Cx.mk A h false) I z o S q (-1) 0 1 zap _ ag.out.tok H (by decide)).mono ?_
 rintro e w5 ⟨rfl,aa⟩
 rw[h4]
 replace j:=zc (j.out.below aa)
 replace n:=zc (n.out.below aa)
 have aD:=zc (aB.out.below aa)
 have ah:=zc (ag.out.later aa)
 clear aa aB ag
 clear M V L J Z a5 X Y O U D E af
 obtain⟨M,V,L,J,Z,a5,X,Y,O,U,D,E,af⟩:=j.out.box
 go_wp2_with fail
 refine (zg (Cx.mk A h false) I z o S q (-1) 0 1 za0 _ ah.out.tok H (by decide)).mono ?_
 rintro e w6 ⟨rfl,ab⟩
 rw[h5]
 replace j:=zc (j.out.below ab)
 replace n:=zc (n.out.below ab)
 have ax:=zc (aD.out.below ab)
 have aC:=zc (ah.out.later ab)
 clear ab aD ah
 clear M V L J Z a5 X Y O U D E af
 obtain⟨M,V,L,J,Z,a5,X,Y,O,U,D,E,af⟩:=j.out.box
 go_wp2_with fail
 refine (zaC (Cx.mk A h false) I z o (.ok q) S q (-1) 0 za0 _ (zU q) aC.out).mono ?_
 rintro e w7 ⟨S7,q7,z7,rfl,i7,m7,s7⟩
 replace j:=zc (j.out.stp s7)
 replace n:=zc (n.out.stp s7)
 have ar:=zc (ax.out.step s7)
 clear ax
 have al:=zc m7
 have aH:=zc i7
 clear i7 m7 s7 aC
 clear M V L J Z a5 X Y O U D E af
 go_wp2_with fail
 refine (zcE (Cx.mk A h false) I z o _ S7 q7 z7 _ aH.out al.out).mono ?_
 rintro e w8 ⟨S8,q8,z8,rfl,i8,m8,s8⟩
 replace j:=zc (j.out.stp s8)
 replace n:=zc (n.out.stp s8)
 have ao:=zc (ar.out.step s8)
 clear ar
 have ap:=zc m8
 have aI:=zc i8
 clear i8 m8 s8 al
 go_wp2_with fail
 refine (zab (Cx.mk A h false) I z o _ S8 q8 z8 0 cSemi _ aI.out ap.out).mono ?_
 rintro e w9 ⟨S9,q9,z9,rfl,i9,m9,s9⟩
 replace j:=zc (j.out.stp s9)
 replace n:=zc (n.out.stp s9)
 have aq:=zc (ao.out.step s9)
 clear ao
 have am:=zc m9
 have aw:=zc i9
 clear i9 m9 s9 ap
 go_wp2_with fail
 refine (zc4 (Cx.mk A h false) I z o _ S9 q9 z9 0 5 sNone _ aw.out am.out (zaZ aw.out)).mono ?_
 rintro e aJ ⟨aL,aK,aO,rfl,az,aF,ad⟩
 replace j:=zc (j.out.stp ad)
 replace n:=zc (n.out.stp ad)
 have aA:=zc (aq.out.step ad)
 clear aq
 have an:=zc aF
 have av:=zc az
 clear az aF ad am
 obtain⟨b0,b1,b2,b3,b4,b5,b6,b7,b8,b9,aM,aN,bf⟩:=n.out.box
 unfold pv
 go_wp2
 refine bodyPost_ret (results_cell_row rfl _ _ (w.heap.size+1) 53 _ (0,0) _ rfl ((n.out.put ..)).heap Tryz.underlying53 rfl (by kernel_rfl)) rfl ?_
 rw[HV.out]
 exact zW rfl av.out (an.out.put n.out ..) (aA.out.put (by omega) ..)
theorem zpO (A:List Tk) (h:Nat) (K D z:Nat) (S:Sv) (q:PS) (w:World) (hm:Mem (Cx.mk A h false) K D z S q w) (h0:isT (Cx.mk A h false) q.pos 1 zae=false) (h1:isT (Cx.mk A h false) q.pos 1 zad=false) (h2:isT (Cx.mk A h false) q.pos 1 zA=false) (h3:isT (Cx.mk A h false) q.pos 1 zO=false) (h4:isT (Cx.mk A h false) q.pos 1 zap=false) (h5:isT (Cx.mk A h false) q.pos 1 za0=false):
  Calls Tryz.prog 21 #[pv (Cx.mk A h false) K D S q (-1) 0] w (Out (Cx.mk A h false) K D z (zy (Cx.mk A h false) q) 0 S w):=by
 have HM:=zc hm
 have ag:=hm.tok
 have I:(Cx.mk A h false).ts.length≤4000:=hm.few
 clear hm
 have HV:Hid (zy (Cx.mk A h false) q=bd (bd (.ok q) (zh (Cx.mk A h false) false)) fun a=>bd (bd (bd (bd (.ok a.1) (zd (Cx.mk A h false) 4 cEq)) (pE (Cx.mk A h false) .sum 0)) (zd (Cx.mk A h false) 4 cSemi)) (zX (Cx.mk A h false) 3 a.2)):=by show zy (Cx.mk A h false) q=_;rw[zy,h0,h1,h2,h3,h4,h5];rfl
 unfold pv
 go_enter Tryz.func21,Tryz.ntmps21
 go_wp2_with fail
 refine (zg (Cx.mk A h false) K D z S q (-1) 0 1 zae _ (zo (zo ag _) _) I (by decide)).mono ?_
 rintro e w1 ⟨rfl,aM⟩
 rw[h0]
 obtain⟨X0,X1,m1,t1⟩:=HM.out.two aM
 have j:=zc X0
 have o:=zc X1
 have aq:=zc m1
 have aP:=zc t1
 clear X0 X1 m1 t1 aM
 clear ag
 obtain⟨O,a1,N,L,a4,a5,a6,a7,X,Z,E,H,af⟩:=j.out.box
 go_wp2_with fail
 refine (zg (Cx.mk A h false) K D z S q (-1) 0 1 zad _ aq.out.tok I (by decide)).mono ?_
 rintro e w2 ⟨rfl,U⟩
 rw[h1]
 replace j:=zc (j.out.below U)
 replace o:=zc (o.out.below U)
 have aC:=zc (aP.out.below U)
 have ap:=zc (aq.out.later U)
 clear U aP aq
 clear O a1 N L a4 a5 a6 a7 X Z E H af
 obtain⟨O,a1,N,L,a4,a5,a6,a7,X,Z,E,H,af⟩:=j.out.box
 go_wp2_with fail
 refine (zg (Cx.mk A h false) K D z S q (-1) 0 1 zA _ ap.out.tok I (by decide)).mono ?_
 rintro e w3 ⟨rfl,M⟩
 rw[h2]
 replace j:=zc (j.out.below M)
 replace o:=zc (o.out.below M)
 have aH:=zc (aC.out.below M)
 have ao:=zc (ap.out.later M)
 clear M aC ap
 clear O a1 N L a4 a5 a6 a7 X Z E H af
 obtain⟨O,a1,N,L,a4,a5,a6,a7,X,Z,E,H,af⟩:=j.out.box
 go_wp2_with fail
 refine (zg (Cx.mk A h false) K D z S q (-1) 0 1 zO _ ao.out.tok I (by decide)).mono ?_
 rintro e w4 ⟨rfl,ad⟩
 rw[h3]
 replace j:=zc (j.out.below ad)
 replace o:=zc (o.out.below ad)
 have aJ:=zc (aH.out.below ad)
 have am:=zc (ao.out.later ad)
 clear ad aH ao
 clear O a1 N L a4 a5 a6 a7 X Z E H af
 obtain⟨O,a1,N,L,a4,a5,a6,a7,X,Z,E,H,af⟩:=j.out.box
 go_wp2_with fail
 refine (zg (Cx.mk A h false) K D z S q (-1) 0 1 zap _ am.out.tok I (by decide)).mono ?_
 rintro e w5 ⟨rfl,aa⟩
 rw[h4]
 replace j:=zc (j.out.below aa)
 replace o:=zc (o.out.below aa)
 have aL:=zc (aJ.out.below aa)
 have an:=zc (am.out.later aa)
 clear aa aJ am
 clear O a1 N L a4 a5 a6 a7 X Z E H af
 obtain⟨O,a1,N,L,a4,a5,a6,a7,X,Z,E,H,af⟩:=j.out.box
 go_wp2_with fail
 refine (zg (Cx.mk A h false) K D z S q (-1) 0 1 za0 _ an.out.tok I (by decide)).mono ?_
 rintro e w6 ⟨rfl,ac⟩
 rw[h5]
 replace j:=zc (j.out.below ac)
 replace o:=zc (o.out.below ac)
 have aG:=zc (aL.out.below ac)
 have aK:=zc (an.out.later ac)
 clear ac aL an
 clear O a1 N L a4 a5 a6 a7 X Z E H af
 obtain⟨O,a1,N,L,a4,a5,a6,a7,X,Z,E,H,af⟩:=j.out.box
 go_wp2_with fail
 refine (zaU (Cx.mk A h false) K D z (.ok q) S q (-1) 0 false _ (zU q) aK.out).mono ?_
 rintro e w7 ⟨S7,q7,z7,n7,rfl,i7,m7,s7⟩
 replace j:=zc (j.out.stp s7)
 replace o:=zc (o.out.stp s7)
 have aA:=zc (aG.out.step s7)
 clear aG
 have al:=zc m7
 have aB:=zc i7
 clear i7 m7 s7 aK
 clear O a1 N L a4 a5 a6 a7 X Z E H af
 have ba:w.heap.size+1<w7.heap.size:=o.out.lt
 unfold pv
 go_upto_region 19 with fail
 refine zJ (R:=fun W=>Bx K S7 W (w.heap.size) _∧Bx K S7 W (w.heap.size+1) _∧Bx K S7 W (w7.heap.size) _∧Mem (Cx.mk A h false) K D z S7 q7 W∧SB w.heap.size S w S7 W) ⟨(j.out.alloc _),(o.out.alloc _),(Bx.new al.out _),(al.out.alloc _),(aA.out.alloc _)⟩ ?_
 clear j o aA al
 rintro w8 ⟨X0,X1,X2,m8,t8⟩
 have j:=zc X0
 have o:=zc X1
 have J:=zc X2
 have aw:=zc m8
 have ax:=zc t8
 clear m8 t8 X0 X1 X2
 obtain⟨c0,c1,c2,c3,c4,c5,c6,c7,c8,c9,aT,aZ,cf⟩:=J.out.box
 go_wp2_with fail
 refine (zab (Cx.mk A h false) K D z _ S7 q7 z7 0 cEq _ aB.out.fst aw.out).mono ?_
 rintro e w9 ⟨S9,q9,z9,rfl,i9,m9,s9⟩
 replace j:=zc (j.out.stp s9)
 replace o:=zc (o.out.stp s9)
 replace J:=zc (J.out.stp s9)
 have ay:=zc (ax.out.step s9)
 clear ax
 have ar:=zc m9
 have aW:=zc i9
 clear i9 m9 s9 aw
 clear c0 c1 c2 c3 c4 c5 c6 c7 c8 c9 aT aZ cf
 go_wp2_with fail
 refine (zcE (Cx.mk A h false) K D z _ S9 q9 z9 _ aW.out ar.out).mono ?_
 rintro e bb ⟨aV,aU,aY,rfl,aI,aO,Y⟩
 replace j:=zc (j.out.stp Y)
 replace o:=zc (o.out.stp Y)
 replace J:=zc (J.out.stp Y)
 have ak:=zc (ay.out.step Y)
 clear ay
 have ae:=zc aO
 have aD:=zc aI
 clear aI aO Y ar
 go_wp2_with fail
 refine (zab (Cx.mk A h false) K D z _ aV aU aY 0 cSemi _ aD.out ae.out).mono ?_
 rintro e bj ⟨aS,aR,aX,rfl,av,aN,V⟩
 replace j:=zc (j.out.stp V)
 replace o:=zc (o.out.stp V)
 replace J:=zc (J.out.stp V)
 have ai:=zc (ak.out.step V)
 clear ak
 have ah:=zc aN
 have aj:=zc av
 clear av aN V ae
 go_wp2_with fail
 refine (zc4 (Cx.mk A h false) K D z _ aS aR aX 0 3 n7 _ aj.out ah.out (zaZ aj.out)).mono ?_
 rintro e bh ⟨bg,bc,bk,rfl,aE,au,ab⟩
 replace j:=zc (j.out.stp ab)
 replace o:=zc (o.out.stp ab)
 replace J:=zc (J.out.stp ab)
 have aQ:=zc (ai.out.step ab)
 clear ai
 have az:=zc au
 have aF:=zc aE
 clear aE au ab ah
 obtain⟨b0,b1,b2,b3,b4,b5,b6,b7,b8,b9,be,bi,bf⟩:=o.out.box
 unfold pv
 go_wp2
 refine bodyPost_ret (results_cell_row rfl _ _ (w.heap.size+1) 53 _ (0,0) _ rfl ((o.out.put ..)).heap Tryz.underlying53 rfl (by kernel_rfl)) rfl ?_
 rw[HV.out,←aB.out.bind (fun q n=>bd (bd (bd (bd (.ok q) (zd (Cx.mk A h false) 4 cEq)) (pE (Cx.mk A h false) .sum 0)) (zd (Cx.mk A h false) 4 cSemi)) (zX (Cx.mk A h false) 3 n)),←zjr]
 exact zW rfl aF.out (az.out.put o.out ..) (aQ.out.put (by omega) ..)
theorem zpP (o:List Tk) (h:Nat) (z n j:Nat) (S:Sv) (q:PS) (w:World) (A:Mem (Cx.mk o h false) z n j S q w):
  Calls Tryz.prog 21 #[pv (Cx.mk o h false) z n S q (-1) 0] w (Out (Cx.mk o h false) z n j (zy (Cx.mk o h false) q) 0 S w):=by
 cases D:isT (Cx.mk o h false) q.pos 1 zae with
 |true=>exact zpI o h z n j S q w A D
 |false=>
  cases E:isT (Cx.mk o h false) q.pos 1 zad with
  |true=>exact zpJ o h z n j S q w A D E
  |false=>
   cases H:isT (Cx.mk o h false) q.pos 1 zA with
   |true=>exact zpK o h z n j S q w A D E H
   |false=>
    cases I:isT (Cx.mk o h false) q.pos 1 zO with
    |true=>exact zpL o h z n j S q w A D E H I
    |false=>
     cases J:isT (Cx.mk o h false) q.pos 1 zap with
     |true=>exact zpM o h z n j S q w A D E H I J
     |false=>
      cases K:isT (Cx.mk o h false) q.pos 1 za0 with
      |true=>exact zpN o h z n j S q w A D E H I J K
      |false=>
       exact zpO o h z n j S q w A D E H I J K
theorem zpQ (C:Cx) (o j h:Nat) (S:Sv) (q:PS) (w:World) (A:Mem C o j h S q w):
  Calls Tryz.prog 21 #[pv C o j S q (-1) 0] w (Out C o j h (zy C q) 0 S w):=by
 obtain⟨D,n,z⟩:=C
 cases z with
 |true=>exact zpH D n o j h S q w A
 |false=>exact zpP D n o j h S q w A
theorem zpR (s:ByteArray) (j:Bool) (w:World) (hs:s.size≤4294967296):
  Calls Tryz.prog 6 #[.string s,.bool j] w fun e w'=>ParseOut s j w e w'∧Below w.heap.size w w':=by
 obtain⟨i0,hi,aq,av,ax⟩:=info_parts Tryz.infoExp
 go_enter Tryz.func6,Tryz.ntmps6
 go_wp2_with fail
 refine (zko s j _ hs).mono ?_
 rintro e U ⟨⟨r1,M,L⟩,b1⟩
 have ac:Hid (Below w.heap.size w U):=((Below.refl _ _).alloc (Nat.le_refl _) _).trans (b1.mono (by rw[zj];omega))
 have hG:U.heap[w.heap.size]? =some (.cells #[.slice none 0 0,.slice none 0 0,.slice none 0 0,.slice none 0 0,.slice none 0 0] 28 (0,0)):=(b1.block _ (by rw[zj];omega)).trans (heap_alloc_new w _)
 rw[zj] at b1
 cases r1 with
 |error p=>
  obtain⟨g,N,rfl,q⟩:=L
  have HY:Hid (zb4 s j (.error p)):=⟨_,M,rfl⟩
  have HG:=zc hG
  obtain⟨c0,c1,c2,c3,c4,cf⟩:=zk hG
  have dz:decide ((0:Int)≤(p:Int))=true:=decide_eq_true (by omega)
  clear q M b1 hG
  go_wp2
  refine bodyPost_ret (za8 rfl _ _ w.heap.size 28 _ (0,0) _ rfl (zcU HG.out) Tryz.underlying28 rfl (by kernel_rfl)) rfl ?_
  exact⟨⟨_,HY.out,rfl⟩,zdg ac.out (Nat.le_refl _) _ _ _ _ _⟩
 |ok z=>
  obtain⟨g,n,N,rfl,q⟩:=L
  obtain rfl:n=z.length:=q.2
  rw[zj] at q
  have an:w.heap.size+1≤U.heap.size:=by have:=b1.size;rw[zj] at this;exact this
  have ae:=zgV M
  have HR:=zc M
  have ak:Mem ⟨z,s.size,j⟩ g N (w.heap.size+1) S0 zb3 U:=zgW q ae an
  have ah:=zc ak
  have HG:=zc hG
  clear q M ak hG
  go_wp2
  go_loopg [] (z.length+1) (fun k wr=>∃(x':PR) (D:Sv) (V:PS) (z':Int),Is x' V z'∧bd x' (zaq ⟨z,s.size,j⟩)=zaq ⟨z,s.size,j⟩ zb3∧(z'<0→z.length-V.pos<k)∧Mem ⟨z,s.size,j⟩ g N (w.heap.size+1) D V wr∧Below w.heap.size w wr∧Bx g D wr U.heap.size #[.slice (some ⟨g,0,none⟩) z.length N,.int .i64 V.pos,.int .i64 s.size,.bool j,.slice D.rq.a V.rq.length D.rq.cap,.slice D.im.a V.im.length D.im.cap,.slice D.ep.a V.ep.length D.ep.cap,.slice D.st.a V.st.length D.st.cap,.slice D.ex.a V.ex.length D.ex.cap,.slice D.la.a V.la.length D.la.cap,.int .i64 z',.int .i64 0]∧wr.heap[w.heap.size]? =some (.cells #[.slice none 0 0,.slice none 0 0,.slice none 0 0,.slice none 0 0,.slice none 0 0] 28 (0,0)))
  case atStart=>exact⟨.ok zb3,S0,zb3,-1,zU _,rfl,fun _=>by show z.length-0<z.length+1;omega,ah.out.alloc _,ac.out.alloc ac.out.size _,Bx.new ah.out _,(Below.heap_alloc _ _ _ (by omega)).trans HG.out⟩
  case round=>
   obtain⟨x2,S2,H,z2,i2,e2,l2,m2,t2,X0,G2⟩:=hrel
   have aj:=zc i2
   have ad:=zc e2
   have ao:=zc l2
   have o:=zc m2
   have Y:=zc t2
   have E:=zc X0
   have I:=zc G2
   have aB:H.pos≤z.length:=m2.inv.pos
   obtain⟨a0,a1,a2,a3,a4,a5,a6,a7,a8,a9,Z,aa,af⟩:=X0.box
   clear i2 e2 l2 m2 t2 X0 G2
   by_cases hz:z2<0
   ·have dz:decide (z2<0)=true:=decide_eq_true hz
    obtain⟨rfl,rfl⟩:=za7 aj.out hz
    by_cases hp:H.pos<z.length
    ·have aA:=ao.out hz
     go_wp2_with fail
     refine (zpQ ⟨z,s.size,j⟩ g N (w.heap.size+1) S2 H _ o.out).mono ?_
     rintro e w3 ⟨S3,q3,z3,rfl,i3,m3,s3⟩
     have ap:=zc m3
     have al:=zc i3
     have ab:Hid (Below (w.heap.size+1) wr w3):=s3.under o.out.base o.out.own
     have K:Hid (Bx g S3 w3 U.heap.size _):=E.out.stp s3
     have aw:Hid (Below w.heap.size w w3):=Y.out.trans (ab.out.mono (by omega))
     have X:Hid (w3.heap[w.heap.size]? =some (.cells #[.slice none 0 0,.slice none 0 0,.slice none 0 0,.slice none 0 0,.slice none 0 0] 28 (0,0))):=(ab.out.block _ (by omega)).trans I.out
     have HE:Hid (bd (zy ⟨z,s.size,j⟩ H) (zaq ⟨z,s.size,j⟩)=zaq ⟨z,s.size,j⟩ zb3):=by
      show _=_
      rw[←ad.out,zx,zeQ,if_pos hp]
     have HP:Hid (z3<0→H.pos<q3.pos):=fun h=>zeP (za7 al.out h).1
     clear i3 m3 s3 a0 a1 a2 a3 a4 a5 a6 a7 a8 a9 Z aa af
     obtain⟨a0,a1,a2,a3,a4,a5,a6,a7,a8,a9,Z,aa,af⟩:=K.out.box
     unfold pv
     go_wp2
     go_roundg (gk-1)
     case rel=>exact⟨_,S3,q3,z3,al.out,HE.out,fun h=>by have:=HP.out h;omega,ap.out.put K.out _ _ _ _ _ _ _ _ _ _ _ _,zb5 aw.out (by omega) _ _ _ _ _ _ _ _ _ _ _ _,K.out.put _ _ _ _ _ _ _ _ _ _ _ _,(ze6 (by omega) ..).trans X.out⟩
     case measure=>omega
    ·have HD:Hid (zaq ⟨z,s.size,j⟩ zb3= .ok H):=by
      show _=_
      rw[←ad.out,zx,zeQ,if_neg hp]
     have HY:Hid (zb4 s j (.ok H)):=⟨_,HR.out,HD.out.symm⟩
     have am:U.heap.size<wr.heap.size:=E.out.lt
     have az:=o.out.inv.ep
     have A:=o.out.own.ep
     have ab:=o.out.base
     rcases o.out.own.la.nil_or with ⟨ha,hc,hn⟩|⟨gl,ha⟩
     ·have HN:Hid (H.la=[]):=List.eq_nil_of_length_eq_zero hn
      rw[ha,hc,hn] at a9
      obtain⟨c0,c1,c2,c3,c4,cf⟩:=zk I.out
      clear ha hc hn
      go_wp2_with (at_builtin;refine zka _ rfl _ _ 24 rfl 102 i0 Tryz.underlying24 hi (w.heap.size+1) 4 H.ep.length S2.ep _ (by rfl) A (by rfl) ?_)
      clear A
      go_wp2
      refine bodyPost_ret (za8 rfl _ _ w.heap.size 28 _ (0,0) _ rfl (zcU ((zp (by omega)).trans I.out)) Tryz.underlying28 rfl (by kernel_rfl)) rfl ?_
      refine⟨⟨_,HY.out,S2,by simp[zeR,HN.out],o.out.whole0 HN.out (Nat.lt_succ_self _) E.out.free fun k O h2=>?_⟩,zdg (Y.out.setCell (by show _≤U.heap.size;omega) _) (Nat.le_refl _) _ _ _ _ _⟩
      rw[zp O,zp O,zp O,zp O,zp O,zp h2]
     ·have ag:OwnR wr (w.heap.size+1) 102 4 ⟨some ⟨gl,0,none⟩,S2.la.cap⟩ H.la.length (H.la.flatMap epL):=by have:=o.out.own.la;unfold OwnR at this ⊢;rw[ha] at this;exact this
      rw[ha] at a9
      go_wp2_with (at_builtin;refine zjZ _ rfl _ _ 24 rfl (w.heap.size+1) 102 i0 _ 4 56 Tryz.underlying24 hi aq av ax rfl (by decide) (by decide) S2.ep H.ep.length _ (by rfl) A gl H.la.length S2.la.cap (w.heap.size+1) _ (by rfl) ag (zfJ _) (by omega) ab ?_)
      intro r' w3 hr hg ai
      have au:=zc hr
      have J:=zc hg
      have ar:=zc ai
      have ay:=fun b hb=>zdm (W:=wr) o.out.own (Nat.le_refl _) (r:=S2.ep.blk) (fun k e=>.inr (.inr (.inl e))) b hb
      have K:Hid (w3.heap[U.heap.size]? =_):=(hg.block _ am (fun e=>E.out.free (.inr (.inr (.inl e.symm))))).trans E.out.heap
      have X:Hid (w3.heap[w.heap.size]? =_):=(hg.block _ (by omega) (fun e=>by have:=(A.typed e.symm).1;omega)).trans I.out
      clear a0 a1 a2 a3 a4 a5 a6 a7 a8 a9 Z aa af hr hg ai ay A ag
      obtain⟨a0,a1,a2,a3,a4,a5,a6,a7,a8,a9,Z,aa,af⟩:=zag K.out
      obtain⟨c0,c1,c2,c3,c4,cf⟩:=zk X.out
      go_wp2
      refine bodyPost_ret (za8 rfl _ _ w.heap.size 28 _ (0,0) _ rfl (zcU ((zp (by omega)).trans X.out)) Tryz.underlying28 rfl (by kernel_rfl)) rfl ?_
      refine⟨⟨_,HY.out,{S2 with ep:=r'},by simp[zeR],o.out.whole J.out au.out ar.out (Nat.lt_succ_self _) am E.out.free fun k O h2=>?_⟩,zdg ((Y.out.trans (Below.mono (B:=w.heap.size+1) ⟨J.out.os,J.out.tape,J.out.output,J.out.size,fun k hk=>J.out.block k (by omega) fun e=>by have:=(o.out.own.ep.typed e.symm).1;omega⟩ (by omega))).setCell (by show _≤U.heap.size;omega) _) (Nat.le_refl _) _ _ _ _ _⟩
      rw[zp O,zp O,zp O,zp O,zp O,zp h2]
   ·have dz:decide (z2<0)=false:=decide_eq_false hz
    obtain⟨e0,rfl,rfl⟩:=zcN aj.out hz
    have aC:decide ((0:Int)≤(e0:Int))=true:=decide_eq_true (by omega)
    have HY:Hid (zb4 s j (.error e0)):=⟨_,HR.out,(show (.error e0:PR)=zaq ⟨z,s.size,j⟩ zb3 from ad.out)⟩
    obtain⟨c0,c1,c2,c3,c4,cf⟩:=zk I.out
    go_wp2
    go_region
    all_goals
     go_wp2
     refine bodyPost_ret (za8 rfl _ _ w.heap.size 28 _ (0,0) _ rfl (zcU I.out) Tryz.underlying28 rfl (by kernel_rfl)) rfl ?_
     exact⟨⟨_,HY.out,rfl⟩,(zdg Y.out (Nat.le_refl _) ..).drew⟩
end Go.Proofs.YticdggnnpjachaaGreat
