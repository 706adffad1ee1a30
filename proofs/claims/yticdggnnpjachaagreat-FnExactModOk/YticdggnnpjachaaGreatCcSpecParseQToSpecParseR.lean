/-
  What spec's l4Item answers outside of a script: the walks.
  What spec.Parse answers: the walk.
-/
import Derived.Test.YticdggnnpjachaaGreatCcSpecParseMToSpecParseP
namespace Go.Proofs.YticdggnnpjachaaGreat
set_option maxRecDepth 100000
set_option maxHeartbeats 6400000
open Go.RowKit Go.PlainAid
theorem zpI (z:List Tk) (h:Nat) (J o j:Nat) (S:Sv) (q:PS) (w:World) (L:Mem (Cx.mk z h false) J o j S q w) (N:isT (Cx.mk z h false) q.pos 1 zae=true):
  Calls Tryz.prog 21 #[pv (Cx.mk z h false) J o S q (-1) 0] w (Out (Cx.mk z h false) J o j (zy (Cx.mk z h false) q) 0 S w):=by
 have HM:=zc L
 have A:=L.tok
 have H:(Cx.mk z h false).ts.length≤4000:=L.few
 clear L
 have HV:Hid (zy (Cx.mk z h false) q=zaK (Cx.mk z h false) q):=by show zy (Cx.mk z h false) q=_;rw[zy,N];rfl
 unfold pv
 go_enter Tryz.func21,Tryz.ntmps21
 go_wp2_with fail
 refine (zg (Cx.mk z h false) J o j S q (-1) 0 1 zae _ (zo (zo A _) _) H (by decide)).mono ?_
 rintro e w1 ⟨rfl,I⟩
 rw[N]
 obtain⟨X0,X1,m1,t1⟩:=HM.out.two I
 have D:=zc X0
 have n:=zc X1
 have E:=zc m1
 have K:=zc t1
 clear X0 X1 m1 t1 I
 clear A
 obtain⟨a0,a1,a2,a3,a4,a5,a6,a7,a8,a9,O,V,af⟩:=D.out.box
 go_wp2_with fail
 refine (zp9 (Cx.mk z h false) J o j S q _ E.out N).mono ?_
 rintro e w2 ⟨S2,q2,z2,rfl,Z,m2,M⟩
 replace D:=zc (D.out.stp M)
 replace n:=zc (n.out.stp M)
 have U:=zc (K.out.step M)
 clear K
 have Y:=zc m2
 have X:=zc Z
 clear Z m2 M E
 clear a0 a1 a2 a3 a4 a5 a6 a7 a8 a9 O V af
 obtain⟨b0,b1,b2,b3,b4,b5,b6,b7,b8,b9,ab,aa,bf⟩:=n.out.box
 unfold pv
 go_wp2
 refine bodyPost_ret (results_cell_row rfl _ _ (w.heap.size+1) 53 _ (0,0) _ rfl ((n.out.put ..)).heap Tryz.underlying53 rfl (by kernel_rfl)) rfl ?_
 rw[HV.out]
 exact zW rfl X.out (Y.out.put n.out ..) (U.out.put (by omega) ..)
theorem zpJ (A:List Tk) (h:Nat) (L o j:Nat) (S:Sv) (q:PS) (w:World) (V:Mem (Cx.mk A h false) L o j S q w) (h0:isT (Cx.mk A h false) q.pos 1 zae=false) (h1:isT (Cx.mk A h false) q.pos 1 zad=true):
  Calls Tryz.prog 21 #[pv (Cx.mk A h false) L o S q (-1) 0] w (Out (Cx.mk A h false) L o j (zy (Cx.mk A h false) q) 0 S w):=by
 have HM:=zc V
 have H:=V.tok
 have E:(Cx.mk A h false).ts.length≤4000:=V.few
 clear V
 have HV:Hid (zy (Cx.mk A h false) q=zaf (Cx.mk A h false) q):=by show zy (Cx.mk A h false) q=_;rw[zy,h0,h1];rfl
 unfold pv
 go_enter Tryz.func21,Tryz.ntmps21
 go_wp2_with fail
 refine (zg (Cx.mk A h false) L o j S q (-1) 0 1 zae _ (zo (zo H _) _) E (by decide)).mono ?_
 rintro e w1 ⟨rfl,M⟩
 rw[h0]
 obtain⟨X0,X1,m1,t1⟩:=HM.out.two M
 have z:=zc X0
 have n:=zc X1
 have I:=zc m1
 have U:=zc t1
 clear X0 X1 m1 t1 M
 clear H
 obtain⟨a0,a1,a2,a3,a4,a5,a6,Y,a8,Z,J,K,af⟩:=z.out.box
 go_wp2_with fail
 refine (zg (Cx.mk A h false) L o j S q (-1) 0 1 zad _ I.out.tok E (by decide)).mono ?_
 rintro e w2 ⟨rfl,D⟩
 rw[h1]
 replace z:=zc (z.out.below D)
 replace n:=zc (n.out.below D)
 have N:=zc (U.out.below D)
 have O:=zc (I.out.later D)
 clear D U I
 clear a0 a1 a2 a3 a4 a5 a6 Y a8 Z J K af
 obtain⟨a0,a1,a2,a3,a4,a5,a6,Y,a8,Z,J,K,af⟩:=z.out.box
 go_wp2_with fail
 refine (zpA (Cx.mk A h false) L o j S q _ O.out h1).mono ?_
 rintro e w3 ⟨S3,q3,z3,rfl,i3,m3,X⟩
 replace z:=zc (z.out.stp X)
 replace n:=zc (n.out.stp X)
 have aa:=zc (N.out.step X)
 clear N
 have ab:=zc m3
 have ac:=zc i3
 clear i3 m3 X O
 clear a0 a1 a2 a3 a4 a5 a6 Y a8 Z J K af
 obtain⟨b0,b1,b2,b3,b4,b5,b6,b7,b8,b9,ae,ad,bf⟩:=n.out.box
 unfold pv
 go_wp2
 refine bodyPost_ret (results_cell_row rfl _ _ (w.heap.size+1) 53 _ (0,0) _ rfl ((n.out.put ..)).heap Tryz.underlying53 rfl (by kernel_rfl)) rfl ?_
 rw[HV.out]
 exact zW rfl ac.out (ab.out.put n.out ..) (aa.out.put (by omega) ..)
theorem zpK (A:List Tk) (h:Nat) (J z o:Nat) (S:Sv) (q:PS) (w:World) (hm:Mem (Cx.mk A h false) J z o S q w) (h0:isT (Cx.mk A h false) q.pos 1 zae=false) (h1:isT (Cx.mk A h false) q.pos 1 zad=false) (h2:isT (Cx.mk A h false) q.pos 1 zA=true):
  Calls Tryz.prog 21 #[pv (Cx.mk A h false) J z S q (-1) 0] w (Out (Cx.mk A h false) J z o (zy (Cx.mk A h false) q) 0 S w):=by
 have HM:=zc hm
 have L:=hm.tok
 have E:(Cx.mk A h false).ts.length≤4000:=hm.few
 clear hm
 have HV:Hid (zy (Cx.mk A h false) q=zaG (zcm (Cx.mk A h false) q)):=by show zy (Cx.mk A h false) q=_;rw[zy,h0,h1,h2];rfl
 unfold pv
 go_enter Tryz.func21,Tryz.ntmps21
 go_wp2_with fail
 refine (zg (Cx.mk A h false) J z o S q (-1) 0 1 zae _ (zo (zo L _) _) E (by decide)).mono ?_
 rintro e w1 ⟨rfl,U⟩
 rw[h0]
 obtain⟨X0,X1,m1,t1⟩:=HM.out.two U
 have n:=zc X0
 have j:=zc X1
 have N:=zc m1
 have ad:=zc t1
 clear X0 X1 m1 t1 U
 clear L
 obtain⟨a0,a1,a2,X,V,a5,Z,a7,a8,a9,D,I,af⟩:=n.out.box
 go_wp2_with fail
 refine (zg (Cx.mk A h false) J z o S q (-1) 0 1 zad _ N.out.tok E (by decide)).mono ?_
 rintro e w2 ⟨rfl,K⟩
 rw[h1]
 replace n:=zc (n.out.below K)
 replace j:=zc (j.out.below K)
 have ac:=zc (ad.out.below K)
 have M:=zc (N.out.later K)
 clear K ad N
 clear a0 a1 a2 X V a5 Z a7 a8 a9 D I af
 obtain⟨a0,a1,a2,X,V,a5,Z,a7,a8,a9,D,I,af⟩:=n.out.box
 go_wp2_with fail
 refine (zg (Cx.mk A h false) J z o S q (-1) 0 1 zA _ M.out.tok E (by decide)).mono ?_
 rintro e w3 ⟨rfl,H⟩
 rw[h2]
 replace n:=zc (n.out.below H)
 replace j:=zc (j.out.below H)
 have aa:=zc (ac.out.below H)
 have Y:=zc (M.out.later H)
 clear H ac M
 clear a0 a1 a2 X V a5 Z a7 a8 a9 D I af
 obtain⟨a0,a1,a2,X,V,a5,Z,a7,a8,a9,D,I,af⟩:=n.out.box
 go_wp2_with fail
 refine (zg1 (Cx.mk A h false) J z o S q _ Y.out).mono ?_
 rintro e w4 ⟨S4,q4,z4,n4,rfl,i4,m4,s4⟩
 replace n:=zc (n.out.stp s4)
 replace j:=zc (j.out.stp s4)
 have ab:=zc (aa.out.step s4)
 clear aa
 have O:=zc m4
 have ae:=zc i4
 clear i4 m4 s4 Y
 clear a0 a1 a2 X V a5 Z a7 a8 a9 D I af
 have aj:w.heap.size+1<w4.heap.size:=j.out.lt
 unfold pv
 go_upto_region 7 with fail
 refine zJ (R:=fun W=>Bx J S4 W (w.heap.size) _∧Bx J S4 W (w.heap.size+1) _∧Bx J S4 W (w4.heap.size) _∧Mem (Cx.mk A h false) J z o S4 q4 W∧SB w.heap.size S w S4 W) ⟨(n.out.alloc _),(j.out.alloc _),(Bx.new O.out _),(O.out.alloc _),(ab.out.alloc _)⟩ ?_
 clear n j ab O
 rintro w5 ⟨X0,X1,X2,m5,t5⟩
 have n:=zc X0
 have j:=zc X1
 have ah:=zc X2
 have ai:=zc m5
 have ag:=zc t5
 clear m5 t5 X0 X1 X2
 obtain⟨b0,b1,b2,b3,b4,b5,b6,b7,b8,b9,am,al,bf⟩:=j.out.box
 obtain⟨c0,c1,c2,c3,c4,c5,c6,c7,c8,c9,an,ak,cf⟩:=ah.out.box
 go_wp2
 refine bodyPost_ret (results_cell_row rfl _ _ (w.heap.size+1) 53 _ (0,0) _ rfl ((j.out.put ..)).heap Tryz.underlying53 rfl (by kernel_rfl)) rfl ?_
 rw[HV.out]
 exact zW rfl ae.out.fst (ai.out.put j.out ..) (ag.out.put (by omega) ..)
theorem zpL (A:List Tk) (h:Nat) (I z o:Nat) (S:Sv) (q:PS) (w:World) (hm:Mem (Cx.mk A h false) I z o S q w) (h0:isT (Cx.mk A h false) q.pos 1 zae=false) (h1:isT (Cx.mk A h false) q.pos 1 zad=false) (h2:isT (Cx.mk A h false) q.pos 1 zA=false) (h3:isT (Cx.mk A h false) q.pos 1 zO=true):
  Calls Tryz.prog 21 #[pv (Cx.mk A h false) I z S q (-1) 0] w (Out (Cx.mk A h false) I z o (zy (Cx.mk A h false) q) 0 S w):=by
 have HM:=zc hm
 have M:=hm.tok
 have H:(Cx.mk A h false).ts.length≤4000:=hm.few
 clear hm
 have HV:Hid (zy (Cx.mk A h false) q=zaG (fnP (Cx.mk A h false) q)):=by show zy (Cx.mk A h false) q=_;rw[zy,h0,h1,h2,h3];rfl
 unfold pv
 go_enter Tryz.func21,Tryz.ntmps21
 go_wp2_with fail
 refine (zg (Cx.mk A h false) I z o S q (-1) 0 1 zae _ (zo (zo M _) _) H (by decide)).mono ?_
 rintro e w1 ⟨rfl,ab⟩
 rw[h0]
 obtain⟨X0,X1,m1,t1⟩:=HM.out.two ab
 have j:=zc X0
 have n:=zc X1
 have aa:=zc m1
 have ai:=zc t1
 clear X0 X1 m1 t1 ab
 clear M
 obtain⟨Y,a1,a2,O,N,a5,X,a7,a8,a9,D,E,af⟩:=j.out.box
 go_wp2_with fail
 refine (zg (Cx.mk A h false) I z o S q (-1) 0 1 zad _ aa.out.tok H (by decide)).mono ?_
 rintro e w2 ⟨rfl,L⟩
 rw[h1]
 replace j:=zc (j.out.below L)
 replace n:=zc (n.out.below L)
 have ag:=zc (ai.out.below L)
 have U:=zc (aa.out.later L)
 clear L ai aa
 clear Y a1 a2 O N a5 X a7 a8 a9 D E af
 obtain⟨Y,a1,a2,O,N,a5,X,a7,a8,a9,D,E,af⟩:=j.out.box
 go_wp2_with fail
 refine (zg (Cx.mk A h false) I z o S q (-1) 0 1 zA _ U.out.tok H (by decide)).mono ?_
 rintro e w3 ⟨rfl,J⟩
 rw[h2]
 replace j:=zc (j.out.below J)
 replace n:=zc (n.out.below J)
 have ad:=zc (ag.out.below J)
 have V:=zc (U.out.later J)
 clear J ag U
 clear Y a1 a2 O N a5 X a7 a8 a9 D E af
 obtain⟨Y,a1,a2,O,N,a5,X,a7,a8,a9,D,E,af⟩:=j.out.box
 go_wp2_with fail
 refine (zg (Cx.mk A h false) I z o S q (-1) 0 1 zO _ V.out.tok H (by decide)).mono ?_
 rintro e w4 ⟨rfl,K⟩
 rw[h3]
 replace j:=zc (j.out.below K)
 replace n:=zc (n.out.below K)
 have ae:=zc (ad.out.below K)
 have ah:=zc (V.out.later K)
 clear K ad V
 clear Y a1 a2 O N a5 X a7 a8 a9 D E af
 obtain⟨Y,a1,a2,O,N,a5,X,a7,a8,a9,D,E,af⟩:=j.out.box
 go_wp2_with fail
 refine (zg2 (Cx.mk A h false) I z o S q _ ah.out).mono ?_
 rintro e w5 ⟨S5,q5,z5,n5,rfl,i5,m5,s5⟩
 replace j:=zc (j.out.stp s5)
 replace n:=zc (n.out.stp s5)
 have ac:=zc (ae.out.step s5)
 clear ae
 have Z:=zc m5
 have aj:=zc i5
 clear i5 m5 s5 ah
 clear Y a1 a2 O N a5 X a7 a8 a9 D E af
 have an:w.heap.size+1<w5.heap.size:=n.out.lt
 unfold pv
 go_upto_region 10 with fail
 refine zJ (R:=fun W=>Bx I S5 W (w.heap.size) _∧Bx I S5 W (w.heap.size+1) _∧Bx I S5 W (w5.heap.size) _∧Mem (Cx.mk A h false) I z o S5 q5 W∧SB w.heap.size S w S5 W) ⟨(j.out.alloc _),(n.out.alloc _),(Bx.new Z.out _),(Z.out.alloc _),(ac.out.alloc _)⟩ ?_
 clear j n ac Z
 rintro w6 ⟨X0,X1,X2,m6,t6⟩
 have j:=zc X0
 have n:=zc X1
 have al:=zc X2
 have am:=zc m6
 have ak:=zc t6
 clear m6 t6 X0 X1 X2
 obtain⟨b0,b1,b2,b3,b4,b5,b6,b7,b8,b9,aq,ap,bf⟩:=n.out.box
 obtain⟨c0,c1,c2,c3,c4,c5,c6,c7,c8,c9,ar,ao,cf⟩:=al.out.box
 go_wp2
 refine bodyPost_ret (results_cell_row rfl _ _ (w.heap.size+1) 53 _ (0,0) _ rfl ((n.out.put ..)).heap Tryz.underlying53 rfl (by kernel_rfl)) rfl ?_
 rw[HV.out]
 exact zW rfl aj.out.fst (am.out.put n.out ..) (ak.out.put (by omega) ..)
theorem zpM (A:List Tk) (h:Nat) (H z o:Nat) (S:Sv) (q:PS) (w:World) (hm:Mem (Cx.mk A h false) H z o S q w) (h0:isT (Cx.mk A h false) q.pos 1 zae=false) (h1:isT (Cx.mk A h false) q.pos 1 zad=false) (h2:isT (Cx.mk A h false) q.pos 1 zA=false) (h3:isT (Cx.mk A h false) q.pos 1 zO=false) (h4:isT (Cx.mk A h false) q.pos 1 zap=true):
  Calls Tryz.prog 21 #[pv (Cx.mk A h false) H z S q (-1) 0] w (Out (Cx.mk A h false) H z o (zy (Cx.mk A h false) q) 0 S w):=by
 have HM:=zc hm
 have ag:=hm.tok
 have I:(Cx.mk A h false).ts.length≤4000:=hm.few
 clear hm
 have HV:Hid (zy (Cx.mk A h false) q=bd (bd (bd (bd (bd (bd (.ok q) (zd (Cx.mk A h false) 1 zap)) (zd (Cx.mk A h false) 4 zm)) (pE (Cx.mk A h false) .sum 0)) (zd (Cx.mk A h false) 4 zay)) (zd (Cx.mk A h false) 4 cSemi)) (zX (Cx.mk A h false) 4 sNone)):=by show zy (Cx.mk A h false) q=_;rw[zy,h0,h1,h2,h3,h4];rfl
 unfold pv
 go_enter Tryz.func21,Tryz.ntmps21
 go_wp2_with fail
 refine (zg (Cx.mk A h false) H z o S q (-1) 0 1 zae _ (zo (zo ag _) _) I (by decide)).mono ?_
 rintro e w1 ⟨rfl,am⟩
 rw[h0]
 obtain⟨X0,X1,m1,t1⟩:=HM.out.two am
 have j:=zc X0
 have n:=zc X1
 have ak:=zc m1
 have aJ:=zc t1
 clear X0 X1 m1 t1 am
 clear ag
 obtain⟨Z,a1,a2,X,V,a5,Y,a7,a8,a9,D,E,af⟩:=j.out.box
 go_wp2_with fail
 refine (zg (Cx.mk A h false) H z o S q (-1) 0 1 zad _ ak.out.tok I (by decide)).mono ?_
 rintro e w2 ⟨rfl,O⟩
 rw[h1]
 replace j:=zc (j.out.below O)
 replace n:=zc (n.out.below O)
 have ax:=zc (aJ.out.below O)
 have ai:=zc (ak.out.later O)
 clear O aJ ak
 clear Z a1 a2 X V a5 Y a7 a8 a9 D E af
 obtain⟨Z,a1,a2,X,V,a5,Y,a7,a8,a9,D,E,af⟩:=j.out.box
 go_wp2_with fail
 refine (zg (Cx.mk A h false) H z o S q (-1) 0 1 zA _ ai.out.tok I (by decide)).mono ?_
 rintro e w3 ⟨rfl,K⟩
 rw[h2]
 replace j:=zc (j.out.below K)
 replace n:=zc (n.out.below K)
 have av:=zc (ax.out.below K)
 have aj:=zc (ai.out.later K)
 clear K ax ai
 clear Z a1 a2 X V a5 Y a7 a8 a9 D E af
 obtain⟨Z,a1,a2,X,V,a5,Y,a7,a8,a9,D,E,af⟩:=j.out.box
 go_wp2_with fail
 refine (zg (Cx.mk A h false) H z o S q (-1) 0 1 zO _ aj.out.tok I (by decide)).mono ?_
 rintro e w4 ⟨rfl,N⟩
 rw[h3]
 replace j:=zc (j.out.below N)
 replace n:=zc (n.out.below N)
 have aK:=zc (av.out.below N)
 have al:=zc (aj.out.later N)
 clear N av aj
 clear Z a1 a2 X V a5 Y a7 a8 a9 D E af
 obtain⟨Z,a1,a2,X,V,a5,Y,a7,a8,a9,D,E,af⟩:=j.out.box
 go_wp2_with fail
 refine (zg (Cx.mk A h false) H z o S q (-1) 0 1 zap _ al.out.tok I (by decide)).mono ?_
 rintro e w5 ⟨rfl,J⟩
 rw[h4]
 replace j:=zc (j.out.below J)
 replace n:=zc (n.out.below J)
 have aq:=zc (aK.out.below J)
 have au:=zc (al.out.later J)
 clear J aK al
 clear Z a1 a2 X V a5 Y a7 a8 a9 D E af
 obtain⟨Z,a1,a2,X,V,a5,Y,a7,a8,a9,D,E,af⟩:=j.out.box
 go_wp2_with fail
 refine (zaC (Cx.mk A h false) H z o (.ok q) S q (-1) 0 zap _ (zU q) au.out).mono ?_
 rintro e w6 ⟨S6,q6,z6,rfl,i6,m6,s6⟩
 replace j:=zc (j.out.stp s6)
 replace n:=zc (n.out.stp s6)
 have ar:=zc (aq.out.step s6)
 clear aq
 have aI:=zc m6
 have aP:=zc i6
 clear i6 m6 s6 au
 clear Z a1 a2 X V a5 Y a7 a8 a9 D E af
 go_wp2_with fail
 refine (zab (Cx.mk A h false) H z o _ S6 q6 z6 0 zm _ aP.out aI.out).mono ?_
 rintro e w7 ⟨S7,q7,z7,rfl,i7,m7,s7⟩
 replace j:=zc (j.out.stp s7)
 replace n:=zc (n.out.stp s7)
 have aC:=zc (ar.out.step s7)
 clear ar
 have aA:=zc m7
 have aT:=zc i7
 clear i7 m7 s7 aI
 go_wp2_with fail
 refine (zcE (Cx.mk A h false) H z o _ S7 q7 z7 _ aT.out aA.out).mono ?_
 rintro e w8 ⟨S8,q8,z8,rfl,i8,m8,s8⟩
 replace j:=zc (j.out.stp s8)
 replace n:=zc (n.out.stp s8)
 have az:=zc (aC.out.step s8)
 clear aC
 have ay:=zc m8
 have aR:=zc i8
 clear i8 m8 s8 aA
 go_wp2_with fail
 refine (zab (Cx.mk A h false) H z o _ S8 q8 z8 0 zay _ aR.out ay.out).mono ?_
 rintro e w9 ⟨S9,q9,z9,rfl,i9,m9,s9⟩
 replace j:=zc (j.out.stp s9)
 replace n:=zc (n.out.stp s9)
 have aF:=zc (az.out.step s9)
 clear az
 have ah:=zc m9
 have aQ:=zc i9
 clear i9 m9 s9 ay
 have aU:w.heap.size+1<w9.heap.size:=n.out.lt
 unfold pv
 go_upto_region 13 with fail
 refine zJ (R:=fun W=>Bx H S9 W (w.heap.size) _∧Bx H S9 W (w.heap.size+1) _∧Bx H S9 W (w9.heap.size) _∧Mem (Cx.mk A h false) H z o S9 q9 W∧SB w.heap.size S w S9 W) ⟨(j.out.alloc _),(n.out.alloc _),(Bx.new ah.out _),(ah.out.alloc _),(aF.out.alloc _)⟩ ?_
 clear j n aF ah
 rintro aX ⟨X0,X1,X2,aD,an⟩
 have j:=zc X0
 have n:=zc X1
 have L:=zc X2
 have ae:=zc aD
 have ac:=zc an
 clear aD an X0 X1 X2
 obtain⟨c0,c1,c2,c3,c4,c5,c6,c7,c8,c9,aS,aL,cf⟩:=L.out.box
 go_wp2_with fail
 refine (zab (Cx.mk A h false) H z o _ S9 q9 z9 0 cSemi _ aQ.out ae.out).mono ?_
 rintro e aW ⟨aM,aO,aN,rfl,ap,aH,M⟩
 replace j:=zc (j.out.stp M)
 replace n:=zc (n.out.stp M)
 replace L:=zc (L.out.stp M)
 have ab:=zc (ac.out.step M)
 clear ac
 have ad:=zc aH
 have aa:=zc ap
 clear ap aH M ae
 clear c0 c1 c2 c3 c4 c5 c6 c7 c8 c9 aS aL cf
 go_wp2_with fail
 refine (zc4 (Cx.mk A h false) H z o _ aM aO aN 0 4 sNone _ aa.out ad.out (zaZ aa.out)).mono ?_
 rintro e ba ⟨bb,aY,bc,rfl,aG,aB,U⟩
 replace j:=zc (j.out.stp U)
 replace n:=zc (n.out.stp U)
 replace L:=zc (L.out.stp U)
 have aw:=zc (ab.out.step U)
 clear ab
 have aE:=zc aB
 have ao:=zc aG
 clear aG aB U ad
 obtain⟨b0,b1,b2,b3,b4,b5,b6,b7,b8,b9,aZ,aV,bf⟩:=n.out.box
 unfold pv
 go_wp2
 refine bodyPost_ret (results_cell_row rfl _ _ (w.heap.size+1) 53 _ (0,0) _ rfl ((n.out.put ..)).heap Tryz.underlying53 rfl (by kernel_rfl)) rfl ?_
 rw[HV.out]
 exact zW rfl ao.out (aE.out.put n.out ..) (aw.out.put (by omega) ..)
theorem zpN (A:List Tk) (h:Nat) (I z o:Nat) (S:Sv) (q:PS) (w:World) (hm:Mem (Cx.mk A h false) I z o S q w) (h0:isT (Cx.mk A h false) q.pos 1 zae=false) (h1:isT (Cx.mk A h false) q.pos 1 zad=false) (h2:isT (Cx.mk A h false) q.pos 1 zA=false) (h3:isT (Cx.mk A h false) q.pos 1 zO=false) (h4:isT (Cx.mk A h false) q.pos 1 zap=false) (h5:isT (Cx.mk A h false) q.pos 1 za0=true):
  Calls Tryz.prog 21 #[pv (Cx.mk A h false) I z S q (-1) 0] w (Out (Cx.mk A h false) I z o (zy (Cx.mk A h false) q) 0 S w):=by
 have HM:=zc hm
 have ad:=hm.tok
 have H:(Cx.mk A h false).ts.length≤4000:=hm.few
 clear hm
 have HV:Hid (zy (Cx.mk A h false) q=bd (bd (bd (bd (.ok q) (zd (Cx.mk A h false) 1 za0)) (pE (Cx.mk A h false) .sum 0)) (zd (Cx.mk A h false) 4 cSemi)) (zX (Cx.mk A h false) 5 sNone)):=by show zy (Cx.mk A h false) q=_;rw[zy,h0,h1,h2,h3,h4,h5];rfl
 unfold pv
 go_enter Tryz.func21,Tryz.ntmps21
 go_wp2_with fail
 refine (zg (Cx.mk A h false) I z o S q (-1) 0 1 zae _ (zo (zo ad _) _) H (by decide)).mono ?_
 rintro e w1 ⟨rfl,al⟩
 rw[h0]
 obtain⟨X0,X1,m1,t1⟩:=HM.out.two al
 have j:=zc X0
 have n:=zc X1
 have ai:=zc m1
 have aE:=zc t1
 clear X0 X1 m1 t1 al
 clear ad
 obtain⟨O,a1,U,K,J,X,M,Y,a8,Z,D,E,af⟩:=j.out.box
 go_wp2_with fail
 refine (zg (Cx.mk A h false) I z o S q (-1) 0 1 zad _ ai.out.tok H (by decide)).mono ?_
 rintro e w2 ⟨rfl,aa⟩
 rw[h1]
 replace j:=zc (j.out.below aa)
 replace n:=zc (n.out.below aa)
 have ar:=zc (aE.out.below aa)
 have ae:=zc (ai.out.later aa)
 clear aa aE ai
 clear O a1 U K J X M Y a8 Z D E af
 obtain⟨O,a1,U,K,J,X,M,Y,a8,Z,D,E,af⟩:=j.out.box
 go_wp2_with fail
 refine (zg (Cx.mk A h false) I z o S q (-1) 0 1 zA _ ae.out.tok H (by decide)).mono ?_
 rintro e w3 ⟨rfl,N⟩
 rw[h2]
 replace j:=zc (j.out.below N)
 replace n:=zc (n.out.below N)
 have aq:=zc (ar.out.below N)
 have ag:=zc (ae.out.later N)
 clear N ar ae
 clear O a1 U K J X M Y a8 Z D E af
 obtain⟨O,a1,U,K,J,X,M,Y,a8,Z,D,E,af⟩:=j.out.box
 go_wp2_with fail
 refine (zg (Cx.mk A h false) I z o S q (-1) 0 1 zO _ ag.out.tok H (by decide)).mono ?_
 rintro e w4 ⟨rfl,V⟩
 rw[h3]
 replace j:=zc (j.out.below V)
 replace n:=zc (n.out.below V)
 have aF:=zc (aq.out.below V)
 have aj:=zc (ag.out.later V)
 clear V aq ag
 clear O a1 U K J X M Y a8 Z D E af
 obtain⟨O,a1,U,K,J,X,M,Y,a8,Z,D,E,af⟩:=j.out.box
 go_wp2_with fail
 refine (zg (Cx.mk A h false) I z o S q (-1) 0 1 zap _ aj.out.tok H (by decide)).mono ?_
 rintro e w5 ⟨rfl,L⟩
 rw[h4]
 replace j:=zc (j.out.below L)
 replace n:=zc (n.out.below L)
 have ao:=zc (aF.out.below L)
 have ah:=zc (aj.out.later L)
 clear L aF aj
 clear O a1 U K J X M Y a8 Z D E af
 obtain⟨O,a1,U,K,J,X,M,Y,a8,Z,D,E,af⟩:=j.out.box
 go_wp2_with fail
 refine (zg (Cx.mk A h false) I z o S q (-1) 0 1 za0 _ ah.out.tok H (by decide)).mono ?_
 rintro e w6 ⟨rfl,ab⟩
 rw[h5]
 replace j:=zc (j.out.below ab)
 replace n:=zc (n.out.below ab)
 have ap:=zc (ao.out.below ab)
 have aD:=zc (ah.out.later ab)
 clear ab ao ah
 clear O a1 U K J X M Y a8 Z D E af
 obtain⟨O,a1,U,K,J,X,M,Y,a8,Z,D,E,af⟩:=j.out.box
 go_wp2_with fail
 refine (zaC (Cx.mk A h false) I z o (.ok q) S q (-1) 0 za0 _ (zU q) aD.out).mono ?_
 rintro e w7 ⟨S7,q7,z7,rfl,i7,m7,s7⟩
 replace j:=zc (j.out.stp s7)
 replace n:=zc (n.out.stp s7)
 have aA:=zc (ap.out.step s7)
 clear ap
 have ax:=zc m7
 have aH:=zc i7
 clear i7 m7 s7 aD
 clear O a1 U K J X M Y a8 Z D E af
 go_wp2_with fail
 refine (zcE (Cx.mk A h false) I z o _ S7 q7 z7 _ aH.out ax.out).mono ?_
 rintro e w8 ⟨S8,q8,z8,rfl,i8,m8,s8⟩
 replace j:=zc (j.out.stp s8)
 replace n:=zc (n.out.stp s8)
 have aw:=zc (aA.out.step s8)
 clear aA
 have au:=zc m8
 have aG:=zc i8
 clear i8 m8 s8 ax
 go_wp2_with fail
 refine (zab (Cx.mk A h false) I z o _ S8 q8 z8 0 cSemi _ aG.out au.out).mono ?_
 rintro e w9 ⟨S9,q9,z9,rfl,i9,m9,s9⟩
 replace j:=zc (j.out.stp s9)
 replace n:=zc (n.out.stp s9)
 have aC:=zc (aw.out.step s9)
 clear aw
 have ak:=zc m9
 have av:=zc i9
 clear i9 m9 s9 au
 go_wp2_with fail
 refine (zc4 (Cx.mk A h false) I z o _ S9 q9 z9 0 5 sNone _ av.out ak.out (zaZ av.out)).mono ?_
 rintro e aK ⟨aM,aJ,aN,rfl,az,aB,ac⟩
 replace j:=zc (j.out.stp ac)
 replace n:=zc (n.out.stp ac)
 have an:=zc (aC.out.step ac)
 clear aC
 have ay:=zc aB
 have am:=zc az
 clear az aB ac ak
 obtain⟨b0,b1,b2,b3,b4,b5,b6,b7,b8,b9,aL,aI,bf⟩:=n.out.box
 unfold pv
 go_wp2
 refine bodyPost_ret (results_cell_row rfl _ _ (w.heap.size+1) 53 _ (0,0) _ rfl ((n.out.put ..)).heap Tryz.underlying53 rfl (by kernel_rfl)) rfl ?_
 rw[HV.out]
 exact zW rfl am.out (ay.out.put n.out ..) (an.out.put (by omega) ..)
theorem zpO (A:List Tk) (h:Nat) (K D z:Nat) (S:Sv) (q:PS) (w:World) (hm:Mem (Cx.mk A h false) K D z S q w) (h0:isT (Cx.mk A h false) q.pos 1 zae=false) (h1:isT (Cx.mk A h false) q.pos 1 zad=false) (h2:isT (Cx.mk A h false) q.pos 1 zA=false) (h3:isT (Cx.mk A h false) q.pos 1 zO=false) (h4:isT (Cx.mk A h false) q.pos 1 zap=false) (h5:isT (Cx.mk A h false) q.pos 1 za0=false):
  Calls Tryz.prog 21 #[pv (Cx.mk A h false) K D S q (-1) 0] w (Out (Cx.mk A h false) K D z (zy (Cx.mk A h false) q) 0 S w):=by
 have HM:=zc hm
 have ak:=hm.tok
 have I:(Cx.mk A h false).ts.length≤4000:=hm.few
 clear hm
 have HV:Hid (zy (Cx.mk A h false) q=bd (bd (.ok q) (zh (Cx.mk A h false) false)) fun a=>bd (bd (bd (bd (.ok a.1) (zd (Cx.mk A h false) 4 cEq)) (pE (Cx.mk A h false) .sum 0)) (zd (Cx.mk A h false) 4 cSemi)) (zX (Cx.mk A h false) 3 a.2)):=by show zy (Cx.mk A h false) q=_;rw[zy,h0,h1,h2,h3,h4,h5];rfl
 unfold pv
 go_enter Tryz.func21,Tryz.ntmps21
 go_wp2_with fail
 refine (zg (Cx.mk A h false) K D z S q (-1) 0 1 zae _ (zo (zo ak _) _) I (by decide)).mono ?_
 rintro e w1 ⟨rfl,au⟩
 rw[h0]
 obtain⟨X0,X1,m1,t1⟩:=HM.out.two au
 have j:=zc X0
 have o:=zc X1
 have ap:=zc m1
 have aP:=zc t1
 clear X0 X1 m1 t1 au
 clear ak
 obtain⟨V,a1,Z,M,L,a5,O,a7,a8,a9,E,H,af⟩:=j.out.box
 go_wp2_with fail
 refine (zg (Cx.mk A h false) K D z S q (-1) 0 1 zad _ ap.out.tok I (by decide)).mono ?_
 rintro e w2 ⟨rfl,ab⟩
 rw[h1]
 replace j:=zc (j.out.below ab)
 replace o:=zc (o.out.below ab)
 have aC:=zc (aP.out.below ab)
 have al:=zc (ap.out.later ab)
 clear ab aP ap
 clear V a1 Z M L a5 O a7 a8 a9 E H af
 obtain⟨V,a1,Z,M,L,a5,O,a7,a8,a9,E,H,af⟩:=j.out.box
 go_wp2_with fail
 refine (zg (Cx.mk A h false) K D z S q (-1) 0 1 zA _ al.out.tok I (by decide)).mono ?_
 rintro e w3 ⟨rfl,U⟩
 rw[h2]
 replace j:=zc (j.out.below U)
 replace o:=zc (o.out.below U)
 have aA:=zc (aC.out.below U)
 have am:=zc (al.out.later U)
 clear U aC al
 clear V a1 Z M L a5 O a7 a8 a9 E H af
 obtain⟨V,a1,Z,M,L,a5,O,a7,a8,a9,E,H,af⟩:=j.out.box
 go_wp2_with fail
 refine (zg (Cx.mk A h false) K D z S q (-1) 0 1 zO _ am.out.tok I (by decide)).mono ?_
 rintro e w4 ⟨rfl,aa⟩
 rw[h3]
 replace j:=zc (j.out.below aa)
 replace o:=zc (o.out.below aa)
 have aQ:=zc (aA.out.below aa)
 have aq:=zc (am.out.later aa)
 clear aa aA am
 clear V a1 Z M L a5 O a7 a8 a9 E H af
 obtain⟨V,a1,Z,M,L,a5,O,a7,a8,a9,E,H,af⟩:=j.out.box
 go_wp2_with fail
 refine (zg (Cx.mk A h false) K D z S q (-1) 0 1 zap _ aq.out.tok I (by decide)).mono ?_
 rintro e w5 ⟨rfl,N⟩
 rw[h4]
 replace j:=zc (j.out.below N)
 replace o:=zc (o.out.below N)
 have ay:=zc (aQ.out.below N)
 have an:=zc (aq.out.later N)
 clear N aQ aq
 clear V a1 Z M L a5 O a7 a8 a9 E H af
 obtain⟨V,a1,Z,M,L,a5,O,a7,a8,a9,E,H,af⟩:=j.out.box
 go_wp2_with fail
 refine (zg (Cx.mk A h false) K D z S q (-1) 0 1 za0 _ an.out.tok I (by decide)).mono ?_
 rintro e w6 ⟨rfl,ad⟩
 rw[h5]
 replace j:=zc (j.out.below ad)
 replace o:=zc (o.out.below ad)
 have az:=zc (ay.out.below ad)
 have aO:=zc (an.out.later ad)
 clear ad ay an
 clear V a1 Z M L a5 O a7 a8 a9 E H af
 obtain⟨V,a1,Z,M,L,a5,O,a7,a8,a9,E,H,af⟩:=j.out.box
 go_wp2_with fail
 refine (zaU (Cx.mk A h false) K D z (.ok q) S q (-1) 0 false _ (zU q) aO.out).mono ?_
 rintro e w7 ⟨S7,q7,z7,n7,rfl,i7,m7,s7⟩
 replace j:=zc (j.out.stp s7)
 replace o:=zc (o.out.stp s7)
 have aH:=zc (az.out.step s7)
 clear az
 have ao:=zc m7
 have aI:=zc i7
 clear i7 m7 s7 aO
 clear V a1 Z M L a5 O a7 a8 a9 E H af
 have ba:w.heap.size+1<w7.heap.size:=o.out.lt
 unfold pv
 go_upto_region 19 with fail
 refine zJ (R:=fun W=>Bx K S7 W (w.heap.size) _∧Bx K S7 W (w.heap.size+1) _∧Bx K S7 W (w7.heap.size) _∧Mem (Cx.mk A h false) K D z S7 q7 W∧SB w.heap.size S w S7 W) ⟨(j.out.alloc _),(o.out.alloc _),(Bx.new ao.out _),(ao.out.alloc _),(aH.out.alloc _)⟩ ?_
 clear j o aH ao
 rintro w8 ⟨X0,X1,X2,m8,t8⟩
 have j:=zc X0
 have o:=zc X1
 have J:=zc X2
 have aD:=zc m8
 have aE:=zc t8
 clear m8 t8 X0 X1 X2
 obtain⟨c0,c1,c2,c3,c4,c5,c6,c7,c8,c9,aY,aR,cf⟩:=J.out.box
 go_wp2_with fail
 refine (zab (Cx.mk A h false) K D z _ S7 q7 z7 0 cEq _ aI.out.fst aD.out).mono ?_
 rintro e w9 ⟨S9,q9,z9,rfl,i9,m9,s9⟩
 replace j:=zc (j.out.stp s9)
 replace o:=zc (o.out.stp s9)
 replace J:=zc (J.out.stp s9)
 have aL:=zc (aE.out.step s9)
 clear aE
 have ar:=zc m9
 have aX:=zc i9
 clear i9 m9 s9 aD
 clear c0 c1 c2 c3 c4 c5 c6 c7 c8 c9 aY aR cf
 go_wp2_with fail
 refine (zcE (Cx.mk A h false) K D z _ S9 q9 z9 _ aX.out ar.out).mono ?_
 rintro e be ⟨aW,aS,aZ,rfl,aG,aJ,X⟩
 replace j:=zc (j.out.stp X)
 replace o:=zc (o.out.stp X)
 replace J:=zc (J.out.stp X)
 have ah:=zc (aL.out.step X)
 clear aL
 have aj:=zc aJ
 have av:=zc aG
 clear aG aJ X ar
 go_wp2_with fail
 refine (zab (Cx.mk A h false) K D z _ aW aS aZ 0 cSemi _ av.out aj.out).mono ?_
 rintro e bc ⟨aT,aV,aU,rfl,ax,aN,Y⟩
 replace j:=zc (j.out.stp Y)
 replace o:=zc (o.out.stp Y)
 replace J:=zc (J.out.stp Y)
 have ag:=zc (ah.out.step Y)
 clear ah
 have ai:=zc aN
 have ae:=zc ax
 clear ax aN Y aj
 go_wp2_with fail
 refine (zc4 (Cx.mk A h false) K D z _ aT aV aU 0 3 n7 _ ae.out ai.out (zaZ ae.out)).mono ?_
 rintro e bi ⟨bj,bg,bk,rfl,aM,aF,ac⟩
 replace j:=zc (j.out.stp ac)
 replace o:=zc (o.out.stp ac)
 replace J:=zc (J.out.stp ac)
 have aB:=zc (ag.out.step ac)
 clear ag
 have aK:=zc aF
 have aw:=zc aM
 clear aM aF ac ai
 obtain⟨b0,b1,b2,b3,b4,b5,b6,b7,b8,b9,bh,bb,bf⟩:=o.out.box
 unfold pv
 go_wp2
 refine bodyPost_ret (results_cell_row rfl _ _ (w.heap.size+1) 53 _ (0,0) _ rfl ((o.out.put ..)).heap Tryz.underlying53 rfl (by kernel_rfl)) rfl ?_
 rw[HV.out,←aI.out.bind (fun q n=>bd (bd (bd (bd (.ok q) (zd (Cx.mk A h false) 4 cEq)) (pE (Cx.mk A h false) .sum 0)) (zd (Cx.mk A h false) 4 cSemi)) (zX (Cx.mk A h false) 3 n)),←zjr]
 exact zW rfl aw.out (aK.out.put o.out ..) (aB.out.put (by omega) ..)
theorem zpP (o:List Tk) (h:Nat) (z n j:Nat) (S:Sv) (q:PS) (w:World) (A:Mem (Cx.mk o h false) z n j S q w):
  Calls Tryz.prog 21 #[pv (Cx.mk o h false) z n S q (-1) 0] w (Out (Cx.mk o h false) z n j (zy (Cx.mk o h false) q) 0 S w):=by
 cases D:isT (Cx.mk o h false) q.pos 1 zae with
 |true=>exact zpI o h z n j S q w A D
 |false=>
  cases E:isT (Cx.mk o h false) q.pos 1 zad with
  |true=>exact zpJ o h z n j S q w A D E
  |false=>
   cases H:isT (Cx.mk o h false) q.pos 1 zA with
   |true=>exact zpK o h z n j S q w A D E H
   |false=>
    cases I:isT (Cx.mk o h false) q.pos 1 zO with
    |true=>exact zpL o h z n j S q w A D E H I
    |false=>
     cases J:isT (Cx.mk o h false) q.pos 1 zap with
     |true=>exact zpM o h z n j S q w A D E H I J
     |false=>
      cases K:isT (Cx.mk o h false) q.pos 1 za0 with
      |true=>exact zpN o h z n j S q w A D E H I J K
      |false=>
       exact zpO o h z n j S q w A D E H I J K
theorem zpQ (C:Cx) (o j h:Nat) (S:Sv) (q:PS) (w:World) (D:Mem C o j h S q w):
  Calls Tryz.prog 21 #[pv C o j S q (-1) 0] w (Out C o j h (zy C q) 0 S w):=by
 obtain⟨A,n,z⟩:=C
 cases z with
 |true=>exact zpH A n o j h S q w D
 |false=>exact zpP A n o j h S q w D
theorem zpR (s:ByteArray) (j:Bool) (w:World) (hs:s.size≤4294967296):
  Calls Tryz.prog 6 #[.string s,.bool j] w fun e w'=>ParseOut s j w e w'∧Below w.heap.size w w':=by
 obtain⟨i0,hi,au,av,ao⟩:=info_parts Tryz.infoExp
 go_enter Tryz.func6,Tryz.ntmps6
 go_wp2_with fail
 refine (zko s j _ hs).mono ?_
 rintro e U ⟨⟨r1,K,L⟩,b1⟩
 have ad:Hid (Below w.heap.size w U):=((Below.refl _ _).alloc (Nat.le_refl _) _).trans (b1.mono (by rw[zj];omega))
 have hG:U.heap[w.heap.size]? =some (.cells #[.slice none 0 0,.slice none 0 0,.slice none 0 0,.slice none 0 0,.slice none 0 0] 28 (0,0)):=(b1.block _ (by rw[zj];omega)).trans (heap_alloc_new w _)
 rw[zj] at b1
 cases r1 with
 |error p=>
  obtain⟨g,O,rfl,q⟩:=L
  have HY:Hid (zb4 s j (.error p)):=⟨_,K,rfl⟩
  have HG:=zc hG
  obtain⟨c0,c1,c2,c3,c4,cf⟩:=zk hG
  have dz:decide ((0:Int)≤(p:Int))=true:=decide_eq_true (by omega)
  clear q K b1 hG
  go_wp2
  refine bodyPost_ret (za8 rfl _ _ w.heap.size 28 _ (0,0) _ rfl (zcU HG.out) Tryz.underlying28 rfl (by kernel_rfl)) rfl ?_
  exact⟨⟨_,HY.out,rfl⟩,zdg ad.out (Nat.le_refl _) _ _ _ _ _⟩
 |ok z=>
  obtain⟨g,n,O,rfl,q⟩:=L
  obtain rfl:n=z.length:=q.2
  rw[zj] at q
  have ah:w.heap.size+1≤U.heap.size:=by have:=b1.size;rw[zj] at this;exact this
  have ag:=zgV K
  have HR:=zc K
  have ae:Mem ⟨z,s.size,j⟩ g O (w.heap.size+1) S0 zb3 U:=zgW q ag ah
  have al:=zc ae
  have HG:=zc hG
  clear q K ae hG
  go_wp2
  go_loopg [] (z.length+1) (fun k wr=>∃(x':PR) (D:Sv) (V:PS) (z':Int),Is x' V z'∧bd x' (zaq ⟨z,s.size,j⟩)=zaq ⟨z,s.size,j⟩ zb3∧(z'<0→z.length-V.pos<k)∧Mem ⟨z,s.size,j⟩ g O (w.heap.size+1) D V wr∧Below w.heap.size w wr∧Bx g D wr U.heap.size #[.slice (some ⟨g,0,none⟩) z.length O,.int .i64 V.pos,.int .i64 s.size,.bool j,.slice D.rq.a V.rq.length D.rq.cap,.slice D.im.a V.im.length D.im.cap,.slice D.ep.a V.ep.length D.ep.cap,.slice D.st.a V.st.length D.st.cap,.slice D.ex.a V.ex.length D.ex.cap,.slice D.la.a V.la.length D.la.cap,.int .i64 z',.int .i64 0]∧wr.heap[w.heap.size]? =some (.cells #[.slice none 0 0,.slice none 0 0,.slice none 0 0,.slice none 0 0,.slice none 0 0] 28 (0,0)))
  case atStart=>exact⟨.ok zb3,S0,zb3,-1,zU _,rfl,fun _=>by show z.length-0<z.length+1;omega,al.out.alloc _,ad.out.alloc ad.out.size _,Bx.new al.out _,(Below.heap_alloc _ _ _ (by omega)).trans HG.out⟩
  case round=>
   obtain⟨x2,S2,J,z2,i2,e2,l2,m2,t2,X0,G2⟩:=hrel
   have ak:=zc i2
   have ac:=zc e2
   have aq:=zc l2
   have o:=zc m2
   have aa:=zc t2
   have H:=zc X0
   have I:=zc G2
   have aC:J.pos≤z.length:=m2.inv.pos
   obtain⟨a0,a1,a2,a3,a4,a5,a6,a7,a8,a9,X,Z,af⟩:=X0.box
   clear i2 e2 l2 m2 t2 X0 G2
   by_cases hz:z2<0
   ·have dz:decide (z2<0)=true:=decide_eq_true hz
    obtain⟨rfl,rfl⟩:=za7 ak.out hz
    by_cases hp:J.pos<z.length
    ·have aA:=aq.out hz
     go_wp2_with fail
     refine (zpQ ⟨z,s.size,j⟩ g O (w.heap.size+1) S2 J _ o.out).mono ?_
     rintro e w3 ⟨S3,q3,z3,rfl,i3,m3,s3⟩
     have ar:=zc m3
     have am:=zc i3
     have ab:Hid (Below (w.heap.size+1) wr w3):=s3.under o.out.base o.out.own
     have N:Hid (Bx g S3 w3 U.heap.size _):=H.out.stp s3
     have ax:Hid (Below w.heap.size w w3):=aa.out.trans (ab.out.mono (by omega))
     have Y:Hid (w3.heap[w.heap.size]? =some (.cells #[.slice none 0 0,.slice none 0 0,.slice none 0 0,.slice none 0 0,.slice none 0 0] 28 (0,0))):=(ab.out.block _ (by omega)).trans I.out
     have HE:Hid (bd (zy ⟨z,s.size,j⟩ J) (zaq ⟨z,s.size,j⟩)=zaq ⟨z,s.size,j⟩ zb3):=by
      show _=_
      rw[←ac.out,zx,zeQ,if_pos hp]
     have HP:Hid (z3<0→J.pos<q3.pos):=fun h=>zeP (za7 am.out h).1
     clear i3 m3 s3 a0 a1 a2 a3 a4 a5 a6 a7 a8 a9 X Z af
     obtain⟨a0,a1,a2,a3,a4,a5,a6,a7,a8,a9,X,Z,af⟩:=N.out.box
     unfold pv
     go_wp2
     go_roundg (gk-1)
     case rel=>exact⟨_,S3,q3,z3,am.out,HE.out,fun h=>by have:=HP.out h;omega,ar.out.put N.out _ _ _ _ _ _ _ _ _ _ _ _,zb5 ax.out (by omega) _ _ _ _ _ _ _ _ _ _ _ _,N.out.put _ _ _ _ _ _ _ _ _ _ _ _,(ze6 (by omega) ..).trans Y.out⟩
     case measure=>omega
    ·have HD:Hid (zaq ⟨z,s.size,j⟩ zb3= .ok J):=by
      show _=_
      rw[←ac.out,zx,zeQ,if_neg hp]
     have HY:Hid (zb4 s j (.ok J)):=⟨_,HR.out,HD.out.symm⟩
     have ai:U.heap.size<wr.heap.size:=H.out.lt
     have az:=o.out.inv.ep
     have A:=o.out.own.ep
     have ab:=o.out.base
     rcases o.out.own.la.nil_or with ⟨ha,hc,hn⟩|⟨gl,ha⟩
     ·have HN:Hid (J.la=[]):=List.eq_nil_of_length_eq_zero hn
      rw[ha,hc,hn] at a9
      obtain⟨c0,c1,c2,c3,c4,cf⟩:=zk I.out
      clear ha hc hn
      go_wp2_with (at_builtin;refine zka _ rfl _ _ 24 rfl 102 i0 Tryz.underlying24 hi (w.heap.size+1) 4 J.ep.length S2.ep _ (by rfl) A (by rfl) ?_)
      clear A
      go_wp2
      refine bodyPost_ret (za8 rfl _ _ w.heap.size 28 _ (0,0) _ rfl (zcU ((zp (by omega)).trans I.out)) Tryz.underlying28 rfl (by kernel_rfl)) rfl ?_
      refine⟨⟨_,HY.out,S2,by simp[zeR,HN.out],o.out.whole0 HN.out (Nat.lt_succ_self _) H.out.free fun k M h2=>?_⟩,zdg (aa.out.setCell (by show _≤U.heap.size;omega) _) (Nat.le_refl _) _ _ _ _ _⟩
      rw[zp M,zp M,zp M,zp M,zp M,zp h2]
     ·have aj:OwnR wr (w.heap.size+1) 102 4 ⟨some ⟨gl,0,none⟩,S2.la.cap⟩ J.la.length (J.la.flatMap epL):=by have:=o.out.own.la;unfold OwnR at this ⊢;rw[ha] at this;exact this
      rw[ha] at a9
      go_wp2_with (at_builtin;refine zjZ _ rfl _ _ 24 rfl (w.heap.size+1) 102 i0 _ 4 56 Tryz.underlying24 hi au av ao rfl (by decide) (by decide) S2.ep J.ep.length _ (by rfl) A gl J.la.length S2.la.cap (w.heap.size+1) _ (by rfl) aj (zfJ _) (by omega) ab ?_)
      intro r' w3 hr hg an
      have ay:=zc hr
      have E:=zc hg
      have ap:=zc an
      have aw:=fun b hb=>zdm (W:=wr) o.out.own (Nat.le_refl _) (r:=S2.ep.blk) (fun k e=>.inr (.inr (.inl e))) b hb
      have N:Hid (w3.heap[U.heap.size]? =_):=(hg.block _ ai (fun e=>H.out.free (.inr (.inr (.inl e.symm))))).trans H.out.heap
      have Y:Hid (w3.heap[w.heap.size]? =_):=(hg.block _ (by omega) (fun e=>by have:=(A.typed e.symm).1;omega)).trans I.out
      clear a0 a1 a2 a3 a4 a5 a6 a7 a8 a9 X Z af hr hg an aw A aj
      obtain⟨a0,a1,a2,a3,a4,a5,a6,a7,a8,a9,X,Z,af⟩:=zag N.out
      obtain⟨c0,c1,c2,c3,c4,cf⟩:=zk Y.out
      go_wp2
      refine bodyPost_ret (za8 rfl _ _ w.heap.size 28 _ (0,0) _ rfl (zcU ((zp (by omega)).trans Y.out)) Tryz.underlying28 rfl (by kernel_rfl)) rfl ?_
      refine⟨⟨_,HY.out,{S2 with ep:=r'},by simp[zeR],o.out.whole E.out ay.out ap.out (Nat.lt_succ_self _) ai H.out.free fun k M h2=>?_⟩,zdg ((aa.out.trans (Below.mono (B:=w.heap.size+1) ⟨E.out.os,E.out.tape,E.out.output,E.out.size,fun k hk=>E.out.block k (by omega) fun e=>by have:=(o.out.own.ep.typed e.symm).1;omega⟩ (by omega))).setCell (by show _≤U.heap.size;omega) _) (Nat.le_refl _) _ _ _ _ _⟩
      rw[zp M,zp M,zp M,zp M,zp M,zp h2]
   ·have dz:decide (z2<0)=false:=decide_eq_false hz
    obtain⟨e0,rfl,rfl⟩:=zcN ak.out hz
    have aB:decide ((0:Int)≤(e0:Int))=true:=decide_eq_true (by omega)
    have HY:Hid (zb4 s j (.error e0)):=⟨_,HR.out,(show (.error e0:PR)=zaq ⟨z,s.size,j⟩ zb3 from ac.out)⟩
    obtain⟨c0,c1,c2,c3,c4,cf⟩:=zk I.out
    go_wp2
    go_region
    all_goals
     go_wp2
     refine bodyPost_ret (za8 rfl _ _ w.heap.size 28 _ (0,0) _ rfl (zcU I.out) Tryz.underlying28 rfl (by kernel_rfl)) rfl ?_
     exact⟨⟨_,HY.out,rfl⟩,(zdg aa.out (Nat.le_refl _) ..).drew⟩
end Go.Proofs.YticdggnnpjachaaGreat
