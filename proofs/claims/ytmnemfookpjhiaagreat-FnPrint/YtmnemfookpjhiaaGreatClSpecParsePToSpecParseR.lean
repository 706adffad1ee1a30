/-
  What spec's l4Item answers: the walks.
  What spec's l4Item answers outside of a script: the walks.
  What spec.Parse answers: the walk.
-/
import Derived.Test.YtmnemfookpjhiaaGreatClSpecParseMToSpecParseO
import Derived.Test.YtmnemfookpjhiaaGreatClParseMemToModMem
namespace Go.Proofs.YtmnemfookpjhiaaGreat
set_option maxRecDepth 100000
set_option maxHeartbeats 6400000
open Go.RowKit Go.PlainAid
theorem zvl (C:Cx) (gt cap base:Nat) (S:Sv) (q:PS) (w:World) (hm:Mem C gt cap base S q w) (hw:isT C q.pos 1 zbp=true):
  Calls Tryz.prog 120 #[pv C gt cap S q (-1) 0] w (Out C gt cap base (zcw C q) 0 S w):=by
 cases h1:isT C (q.pos+1) 4 zbo with
 |true=>exact zvh C gt cap base S q w hm hw h1
 |false=>
  cases h2:isT C (q.pos+1) 4 zbb with
  |true=>exact zvf C gt cap base S q w hm hw h1 h2
  |false=>
   cases h3:zba C (q.pos+1) false with
   |true=>exact zti C gt cap base S q w hm hw h1 h2 h3
   |false=>exact zvg C gt cap base S q w hm hw h1 h2 h3
theorem zvm (C:Cx) (gt cap base:Nat) (S:Sv) (q:PS) (w:World) (hm:Mem C gt cap base S q w) (hw:isT C q.pos 1 zbk=true):
  Calls Tryz.prog 121 #[pv C gt cap S q (-1) 0] w (Out C gt cap base (zbm C q) 0 S w):=by
 cases h1:isT C (q.pos+1) 4 zbo with
 |true=>exact zvk C gt cap base S q w hm hw h1
 |false=>
  cases h2:isT C (q.pos+1) 4 zbb with
  |true=>exact zvi C gt cap base S q w hm hw h1 h2
  |false=>
   cases h3:isT C (q.pos+1) 1 sDefault with
   |true=>exact zrj C gt cap base S q w hm hw h1 h2 h3
   |false=>
    cases h4:isT C (q.pos+1) 1 sLet with
    |true=>exact zxl C gt cap base S q w hm hw h1 h2 h3 h4
    |false=>
     cases h5:isT C (q.pos+1) 1 zr with
     |true=>exact zzw C gt cap base S q w hm hw h1 h2 h3 h4 h5
     |false=>exact zvj C gt cap base S q w hm hw h1 h2 h3 h4 h5
theorem zxm {C:Cx} {x:PR} {n:ByteArray}:bd (bd (bd (bd x (tokP C 4 cEq)) (pE C .sum 0)) (tokP C 4 cSemi)) (zbx C 3 n)=bd x fun q=>bd (bd (bd (bd (.ok q) (tokP C 4 cEq)) (pE C .sum 0)) (tokP C 4 cSemi)) (zbx C 3 n):=by cases x<;>rfl
theorem zrk (ts:List Tk) (fin:Nat) (gt cap base:Nat) (S:Sv) (q:PS) (w:World) (hm:Mem (Cx.mk ts fin true) gt cap base S q w) (h0:isT (Cx.mk ts fin true) q.pos 1 sLet=true):
  Calls Tryz.prog 63 #[pv (Cx.mk ts fin true) gt cap S q (-1) 0] w (Out (Cx.mk ts fin true) gt cap base (zbd (Cx.mk ts fin true) q) 0 S w):=by
 have HM:=hidI hm
 have G1:=hm.tok
 have I0:(Cx.mk ts fin true).ts.length≤4000:=hm.few
 clear hm
 have HV:Hid (zbd (Cx.mk ts fin true) q=fstP (letP (Cx.mk ts fin true) q)):=by show zbd (Cx.mk ts fin true) q=_;rw[zbd,h0];rfl
 unfold pv
 go_enter Tryz.func63,Tryz.ntmps63
 go_wp2_with f0
 refine (zf (Cx.mk ts fin true) gt cap base S q (-1) 0 1 sLet _ (zg (zg G1 _) _) I0 (by decide)).mono ?_
 rintro e w1 ⟨rfl,P0⟩
 rw[h0]
 obtain⟨X0,X1,m1,t1⟩:=HM.out.two P0
 have j0:=hidI X0
 have n0:=hidI X1
 have Q0:=hidI m1
 have N1:=hidI t1
 clear X0 X1 m1 t1 P0
 clear G1
 obtain⟨a0,a1,a2,a3,a4,a5,a6,a7,a8,a9,E0,B0,af⟩:=j0.out.box
 go_wp2_with f0
 refine (znr (Cx.mk ts fin true) gt cap base S q _ Q0.out).mono ?_
 rintro e w2 ⟨S2,q2,z2,n2,rfl,i2,m2,s2⟩
 replace j0:=hidI (j0.out.stp s2)
 replace n0:=hidI (n0.out.stp s2)
 have F1:=hidI (N1.out.step s2)
 clear N1
 have M0:=hidI m2
 have D6:=hidI i2
 clear i2 m2 s2 Q0
 clear a0 a1 a2 a3 a4 a5 a6 a7 a8 a9 E0 B0 af
 have u5:w.heap.size+1<w2.heap.size:=n0.out.lt
 unfold pv
 go_upto_region 7 with f0
 refine zo (R:=fun W=>Bx gt S2 W (w.heap.size) _∧Bx gt S2 W (w.heap.size+1) _∧Bx gt S2 W (w2.heap.size) _∧Mem (Cx.mk ts fin true) gt cap base S2 q2 W∧SB w.heap.size S w S2 W) ⟨(j0.out.alloc _),(n0.out.alloc _),(Bx.new M0.out _),(M0.out.alloc _),(F1.out.alloc _)⟩ ?_
 clear j0 n0 F1 M0
 rintro w3 ⟨X0,X1,X2,m3,t3⟩
 have j0:=hidI X0
 have n0:=hidI X1
 have G0:=hidI X2
 have U0:=hidI m3
 have Q1:=hidI t3
 clear m3 t3 X0 X1 X2
 obtain⟨b0,b1,b2,b3,b4,b5,b6,b7,b8,b9,Z4,j5,bf⟩:=n0.out.box
 obtain⟨c0,c1,c2,c3,c4,c5,c6,c7,c8,c9,c10,c11,cf⟩:=G0.out.box
 go_wp2
 refine bodyPost_ret (results_cell_row rfl _ _ (w.heap.size+1) 100 _ (0,0) _ rfl ((n0.out.put _ _ _ _ _ _ _ _ _ _ _ _)).heap Tryz.underlying100 rfl (by o0)) rfl ?_
 rw[HV.out]
 exact zx rfl D6.out.fst (U0.out.put n0.out _ _ _ _ _ _ _ _ _ _ _ _) (Q1.out.put (by omega) _ _ _ _ _ _ _ _ _ _ _ _)
theorem znb (ts:List Tk) (fin:Nat) (gt cap base:Nat) (S:Sv) (q:PS) (w:World) (hm:Mem (Cx.mk ts fin true) gt cap base S q w) (h0:isT (Cx.mk ts fin true) q.pos 1 sLet=false) (h1:isT (Cx.mk ts fin true) q.pos 1 zr=true):
  Calls Tryz.prog 63 #[pv (Cx.mk ts fin true) gt cap S q (-1) 0] w (Out (Cx.mk ts fin true) gt cap base (zbd (Cx.mk ts fin true) q) 0 S w):=by
 have HM:=hidI hm
 have G1:=hm.tok
 have I0:(Cx.mk ts fin true).ts.length≤4000:=hm.few
 clear hm
 have HV:Hid (zbd (Cx.mk ts fin true) q=fstP (fnP (Cx.mk ts fin true) q)):=by show zbd (Cx.mk ts fin true) q=_;rw[zbd,h0,h1];rfl
 unfold pv
 go_enter Tryz.func63,Tryz.ntmps63
 go_wp2_with f0
 refine (zf (Cx.mk ts fin true) gt cap base S q (-1) 0 1 sLet _ (zg (zg G1 _) _) I0 (by decide)).mono ?_
 rintro e w1 ⟨rfl,P0⟩
 rw[h0]
 obtain⟨X0,X1,m1,t1⟩:=HM.out.two P0
 have j0:=hidI X0
 have n0:=hidI X1
 have Q0:=hidI m1
 have N1:=hidI t1
 clear X0 X1 m1 t1 P0
 clear G1
 obtain⟨a0,a1,a2,a3,a4,a5,a6,a7,a8,a9,E0,B0,af⟩:=j0.out.box
 go_wp2_with f0
 refine (zf (Cx.mk ts fin true) gt cap base S q (-1) 0 1 zr _ Q0.out.tok I0 (by decide)).mono ?_
 rintro e w2 ⟨rfl,J0⟩
 rw[h1]
 replace j0:=hidI (j0.out.below J0)
 replace n0:=hidI (n0.out.below J0)
 have F1:=hidI (N1.out.below J0)
 have M0:=hidI (Q0.out.later J0)
 clear J0 N1 Q0
 clear a0 a1 a2 a3 a4 a5 a6 a7 a8 a9 E0 B0 af
 obtain⟨a0,a1,a2,a3,a4,a5,a6,a7,a8,a9,E0,B0,af⟩:=j0.out.box
 go_wp2_with f0
 refine (zoz (Cx.mk ts fin true) gt cap base S q _ M0.out).mono ?_
 rintro e w3 ⟨S3,q3,z3,n3,rfl,i3,m3,s3⟩
 replace j0:=hidI (j0.out.stp s3)
 replace n0:=hidI (n0.out.stp s3)
 have Q1:=hidI (F1.out.step s3)
 clear F1
 have U0:=hidI m3
 have g7:=hidI i3
 clear i3 m3 s3 M0
 clear a0 a1 a2 a3 a4 a5 a6 a7 a8 a9 E0 B0 af
 have u5:w.heap.size+1<w3.heap.size:=n0.out.lt
 unfold pv
 go_upto_region 10 with f0
 refine zo (R:=fun W=>Bx gt S3 W (w.heap.size) _∧Bx gt S3 W (w.heap.size+1) _∧Bx gt S3 W (w3.heap.size) _∧Mem (Cx.mk ts fin true) gt cap base S3 q3 W∧SB w.heap.size S w S3 W) ⟨(j0.out.alloc _),(n0.out.alloc _),(Bx.new U0.out _),(U0.out.alloc _),(Q1.out.alloc _)⟩ ?_
 clear j0 n0 Q1 U0
 rintro w4 ⟨X0,X1,X2,m4,t4⟩
 have j0:=hidI X0
 have n0:=hidI X1
 have G0:=hidI X2
 have V1:=hidI m4
 have F2:=hidI t4
 clear m4 t4 X0 X1 X2
 obtain⟨b0,b1,b2,b3,b4,b5,b6,b7,b8,b9,Z4,j5,bf⟩:=n0.out.box
 obtain⟨c0,c1,c2,c3,c4,c5,c6,c7,c8,c9,c10,c11,cf⟩:=G0.out.box
 go_wp2
 refine bodyPost_ret (results_cell_row rfl _ _ (w.heap.size+1) 100 _ (0,0) _ rfl ((n0.out.put _ _ _ _ _ _ _ _ _ _ _ _)).heap Tryz.underlying100 rfl (by o0)) rfl ?_
 rw[HV.out]
 exact zx rfl g7.out.fst (V1.out.put n0.out _ _ _ _ _ _ _ _ _ _ _ _) (F2.out.put (by omega) _ _ _ _ _ _ _ _ _ _ _ _)
theorem zpc (ts:List Tk) (fin:Nat) (gt cap base:Nat) (S:Sv) (q:PS) (w:World) (hm:Mem (Cx.mk ts fin true) gt cap base S q w) (h0:isT (Cx.mk ts fin true) q.pos 1 sLet=false) (h1:isT (Cx.mk ts fin true) q.pos 1 zr=false) (h2:isT (Cx.mk ts fin true) q.pos 1 zcf=true):
  Calls Tryz.prog 63 #[pv (Cx.mk ts fin true) gt cap S q (-1) 0] w (Out (Cx.mk ts fin true) gt cap base (zbd (Cx.mk ts fin true) q) 0 S w):=by
 have HM:=hidI hm
 have G1:=hm.tok
 have I0:(Cx.mk ts fin true).ts.length≤4000:=hm.few
 clear hm
 have HV:Hid (zbd (Cx.mk ts fin true) q=bd (bd (bd (bd (bd (bd (.ok q) (tokP (Cx.mk ts fin true) 1 zcf)) (tokP (Cx.mk ts fin true) 4 zt)) (pE (Cx.mk ts fin true) .sum 0)) (tokP (Cx.mk ts fin true) 4 zcz)) (tokP (Cx.mk ts fin true) 4 cSemi)) (zbx (Cx.mk ts fin true) 4 sNone)):=by show zbd (Cx.mk ts fin true) q=_;rw[zbd,h0,h1,h2];rfl
 unfold pv
 go_enter Tryz.func63,Tryz.ntmps63
 go_wp2_with f0
 refine (zf (Cx.mk ts fin true) gt cap base S q (-1) 0 1 sLet _ (zg (zg G1 _) _) I0 (by decide)).mono ?_
 rintro e w1 ⟨rfl,P0⟩
 rw[h0]
 obtain⟨X0,X1,m1,t1⟩:=HM.out.two P0
 have j0:=hidI X0
 have n0:=hidI X1
 have Q0:=hidI m1
 have N1:=hidI t1
 clear X0 X1 m1 t1 P0
 clear G1
 obtain⟨a0,a1,a2,a3,a4,a5,a6,a7,a8,a9,E0,B0,af⟩:=j0.out.box
 go_wp2_with f0
 refine (zf (Cx.mk ts fin true) gt cap base S q (-1) 0 1 zr _ Q0.out.tok I0 (by decide)).mono ?_
 rintro e w2 ⟨rfl,J0⟩
 rw[h1]
 replace j0:=hidI (j0.out.below J0)
 replace n0:=hidI (n0.out.below J0)
 have F1:=hidI (N1.out.below J0)
 have M0:=hidI (Q0.out.later J0)
 clear J0 N1 Q0
 clear a0 a1 a2 a3 a4 a5 a6 a7 a8 a9 E0 B0 af
 obtain⟨a0,a1,a2,a3,a4,a5,a6,a7,a8,a9,E0,B0,af⟩:=j0.out.box
 go_wp2_with f0
 refine (zf (Cx.mk ts fin true) gt cap base S q (-1) 0 1 zcf _ M0.out.tok I0 (by decide)).mono ?_
 rintro e w3 ⟨rfl,N0⟩
 rw[h2]
 replace j0:=hidI (j0.out.below N0)
 replace n0:=hidI (n0.out.below N0)
 have Q1:=hidI (F1.out.below N0)
 have U0:=hidI (M0.out.later N0)
 clear N0 F1 M0
 clear a0 a1 a2 a3 a4 a5 a6 a7 a8 a9 E0 B0 af
 obtain⟨a0,a1,a2,a3,a4,a5,a6,a7,a8,a9,E0,B0,af⟩:=j0.out.box
 go_wp2_with f0
 refine (zbh (Cx.mk ts fin true) gt cap base (.ok q) S q (-1) 0 zcf _ (zby q) U0.out).mono ?_
 rintro e w4 ⟨S4,q4,z4,rfl,i4,m4,s4⟩
 replace j0:=hidI (j0.out.stp s4)
 replace n0:=hidI (n0.out.stp s4)
 have F2:=hidI (Q1.out.step s4)
 clear Q1
 have V1:=hidI m4
 have L7:=hidI i4
 clear i4 m4 s4 U0
 clear a0 a1 a2 a3 a4 a5 a6 a7 a8 a9 E0 B0 af
 go_wp2_with f0
 refine (zq (Cx.mk ts fin true) gt cap base _ S4 q4 z4 0 zt _ L7.out V1.out).mono ?_
 rintro e w5 ⟨S5,q5,z5,rfl,i5,m5,s5⟩
 replace j0:=hidI (j0.out.stp s5)
 replace n0:=hidI (n0.out.stp s5)
 have P2:=hidI (F2.out.step s5)
 clear F2
 have Z1:=hidI m5
 have T7:=hidI i5
 clear i5 m5 s5 V1
 go_wp2_with f0
 refine (zfc (Cx.mk ts fin true) gt cap base _ S5 q5 z5 _ T7.out Z1.out).mono ?_
 rintro e w6 ⟨S6,q6,z6,rfl,i6,m6,s6⟩
 replace j0:=hidI (j0.out.stp s6)
 replace n0:=hidI (n0.out.stp s6)
 have J2:=hidI (P2.out.step s6)
 clear P2
 have j2:=hidI m6
 have D7:=hidI i6
 clear i6 m6 s6 Z1
 go_wp2_with f0
 refine (zq (Cx.mk ts fin true) gt cap base _ S6 q6 z6 0 zcz _ D7.out j2.out).mono ?_
 rintro e w7 ⟨S7,q7,z7,rfl,i7,m7,s7⟩
 replace j0:=hidI (j0.out.stp s7)
 replace n0:=hidI (n0.out.stp s7)
 have P3:=hidI (J2.out.step s7)
 clear J2
 have N2:=hidI m7
 have Z5:=hidI i7
 clear i7 m7 s7 j2
 have u5:w.heap.size+1<w7.heap.size:=n0.out.lt
 unfold pv
 go_upto_region 13 with f0
 refine zo (R:=fun W=>Bx gt S7 W (w.heap.size) _∧Bx gt S7 W (w.heap.size+1) _∧Bx gt S7 W (w7.heap.size) _∧Mem (Cx.mk ts fin true) gt cap base S7 q7 W∧SB w.heap.size S w S7 W) ⟨(j0.out.alloc _),(n0.out.alloc _),(Bx.new N2.out _),(N2.out.alloc _),(P3.out.alloc _)⟩ ?_
 clear j0 n0 P3 N2
 rintro w8 ⟨X0,X1,X2,m8,t8⟩
 have j0:=hidI X0
 have n0:=hidI X1
 have G0:=hidI X2
 have H4:=hidI m8
 have J4:=hidI t8
 clear m8 t8 X0 X1 X2
 obtain⟨c0,c1,c2,c3,c4,c5,c6,c7,c8,c9,c10,c11,cf⟩:=G0.out.box
 go_wp2_with f0
 refine (zq (Cx.mk ts fin true) gt cap base _ S7 q7 z7 0 cSemi _ Z5.out H4.out).mono ?_
 rintro e w9 ⟨S9,q9,z9,rfl,i9,m9,s9⟩
 replace j0:=hidI (j0.out.stp s9)
 replace n0:=hidI (n0.out.stp s9)
 replace G0:=hidI (G0.out.stp s9)
 have J5:=hidI (J4.out.step s9)
 clear J4
 have G5:=hidI m9
 have y6:=hidI i9
 clear i9 m9 s9 H4
 clear c0 c1 c2 c3 c4 c5 c6 c7 c8 c9 c10 c11 cf
 go_wp2_with f0
 refine (zed (Cx.mk ts fin true) gt cap base _ S9 q9 z9 0 4 sNone _ y6.out G5.out (zdi y6.out)).mono ?_
 rintro e G8 ⟨Q6,X8,r9,rfl,N6,V5,U3⟩
 replace j0:=hidI (j0.out.stp U3)
 replace n0:=hidI (n0.out.stp U3)
 replace G0:=hidI (G0.out.stp U3)
 have l6:=hidI (J5.out.step U3)
 clear J5
 have A5:=hidI V5
 have A6:=hidI N6
 clear N6 V5 U3 G5
 obtain⟨b0,b1,b2,b3,b4,b5,b6,b7,b8,b9,Z4,j5,bf⟩:=n0.out.box
 unfold pv
 go_wp2
 refine bodyPost_ret (results_cell_row rfl _ _ (w.heap.size+1) 100 _ (0,0) _ rfl ((n0.out.put _ _ _ _ _ _ _ _ _ _ _ _)).heap Tryz.underlying100 rfl (by o0)) rfl ?_
 rw[HV.out]
 exact zx rfl A6.out (A5.out.put n0.out _ _ _ _ _ _ _ _ _ _ _ _) (l6.out.put (by omega) _ _ _ _ _ _ _ _ _ _ _ _)
theorem zpd (ts:List Tk) (fin:Nat) (gt cap base:Nat) (S:Sv) (q:PS) (w:World) (hm:Mem (Cx.mk ts fin true) gt cap base S q w) (h0:isT (Cx.mk ts fin true) q.pos 1 sLet=false) (h1:isT (Cx.mk ts fin true) q.pos 1 zr=false) (h2:isT (Cx.mk ts fin true) q.pos 1 zcf=false) (h3:isT (Cx.mk ts fin true) q.pos 1 zcn=true):
  Calls Tryz.prog 63 #[pv (Cx.mk ts fin true) gt cap S q (-1) 0] w (Out (Cx.mk ts fin true) gt cap base (zbd (Cx.mk ts fin true) q) 0 S w):=by
 have HM:=hidI hm
 have G1:=hm.tok
 have I0:(Cx.mk ts fin true).ts.length≤4000:=hm.few
 clear hm
 have HV:Hid (zbd (Cx.mk ts fin true) q=bd (bd (bd (bd (.ok q) (tokP (Cx.mk ts fin true) 1 zcn)) (pE (Cx.mk ts fin true) .sum 0)) (tokP (Cx.mk ts fin true) 4 cSemi)) (zbx (Cx.mk ts fin true) 5 sNone)):=by show zbd (Cx.mk ts fin true) q=_;rw[zbd,h0,h1,h2,h3];rfl
 unfold pv
 go_enter Tryz.func63,Tryz.ntmps63
 go_wp2_with f0
 refine (zf (Cx.mk ts fin true) gt cap base S q (-1) 0 1 sLet _ (zg (zg G1 _) _) I0 (by decide)).mono ?_
 rintro e w1 ⟨rfl,P0⟩
 rw[h0]
 obtain⟨X0,X1,m1,t1⟩:=HM.out.two P0
 have j0:=hidI X0
 have n0:=hidI X1
 have Q0:=hidI m1
 have N1:=hidI t1
 clear X0 X1 m1 t1 P0
 clear G1
 obtain⟨a0,a1,a2,a3,a4,a5,a6,a7,a8,a9,E0,B0,af⟩:=j0.out.box
 go_wp2_with f0
 refine (zf (Cx.mk ts fin true) gt cap base S q (-1) 0 1 zr _ Q0.out.tok I0 (by decide)).mono ?_
 rintro e w2 ⟨rfl,J0⟩
 rw[h1]
 replace j0:=hidI (j0.out.below J0)
 replace n0:=hidI (n0.out.below J0)
 have F1:=hidI (N1.out.below J0)
 have M0:=hidI (Q0.out.later J0)
 clear J0 N1 Q0
 clear a0 a1 a2 a3 a4 a5 a6 a7 a8 a9 E0 B0 af
 obtain⟨a0,a1,a2,a3,a4,a5,a6,a7,a8,a9,E0,B0,af⟩:=j0.out.box
 go_wp2_with f0
 refine (zf (Cx.mk ts fin true) gt cap base S q (-1) 0 1 zcf _ M0.out.tok I0 (by decide)).mono ?_
 rintro e w3 ⟨rfl,N0⟩
 rw[h2]
 replace j0:=hidI (j0.out.below N0)
 replace n0:=hidI (n0.out.below N0)
 have Q1:=hidI (F1.out.below N0)
 have U0:=hidI (M0.out.later N0)
 clear N0 F1 M0
 clear a0 a1 a2 a3 a4 a5 a6 a7 a8 a9 E0 B0 af
 obtain⟨a0,a1,a2,a3,a4,a5,a6,a7,a8,a9,E0,B0,af⟩:=j0.out.box
 go_wp2_with f0
 refine (zf (Cx.mk ts fin true) gt cap base S q (-1) 0 1 zcn _ U0.out.tok I0 (by decide)).mono ?_
 rintro e w4 ⟨rfl,Z0⟩
 rw[h3]
 replace j0:=hidI (j0.out.below Z0)
 replace n0:=hidI (n0.out.below Z0)
 have F2:=hidI (Q1.out.below Z0)
 have V1:=hidI (U0.out.later Z0)
 clear Z0 Q1 U0
 clear a0 a1 a2 a3 a4 a5 a6 a7 a8 a9 E0 B0 af
 obtain⟨a0,a1,a2,a3,a4,a5,a6,a7,a8,a9,E0,B0,af⟩:=j0.out.box
 go_wp2_with f0
 refine (zbh (Cx.mk ts fin true) gt cap base (.ok q) S q (-1) 0 zcn _ (zby q) V1.out).mono ?_
 rintro e w5 ⟨S5,q5,z5,rfl,i5,m5,s5⟩
 replace j0:=hidI (j0.out.stp s5)
 replace n0:=hidI (n0.out.stp s5)
 have P2:=hidI (F2.out.step s5)
 clear F2
 have Z1:=hidI m5
 have T7:=hidI i5
 clear i5 m5 s5 V1
 clear a0 a1 a2 a3 a4 a5 a6 a7 a8 a9 E0 B0 af
 go_wp2_with f0
 refine (zfc (Cx.mk ts fin true) gt cap base _ S5 q5 z5 _ T7.out Z1.out).mono ?_
 rintro e w6 ⟨S6,q6,z6,rfl,i6,m6,s6⟩
 replace j0:=hidI (j0.out.stp s6)
 replace n0:=hidI (n0.out.stp s6)
 have J2:=hidI (P2.out.step s6)
 clear P2
 have j2:=hidI m6
 have D7:=hidI i6
 clear i6 m6 s6 Z1
 go_wp2_with f0
 refine (zq (Cx.mk ts fin true) gt cap base _ S6 q6 z6 0 cSemi _ D7.out j2.out).mono ?_
 rintro e w7 ⟨S7,q7,z7,rfl,i7,m7,s7⟩
 replace j0:=hidI (j0.out.stp s7)
 replace n0:=hidI (n0.out.stp s7)
 have P3:=hidI (J2.out.step s7)
 clear J2
 have N2:=hidI m7
 have Z5:=hidI i7
 clear i7 m7 s7 j2
 go_wp2_with f0
 refine (zed (Cx.mk ts fin true) gt cap base _ S7 q7 z7 0 5 sNone _ Z5.out N2.out (zdi Z5.out)).mono ?_
 rintro e w8 ⟨S8,q8,z8,rfl,i8,m8,s8⟩
 replace j0:=hidI (j0.out.stp s8)
 replace n0:=hidI (n0.out.stp s8)
 have J4:=hidI (P3.out.step s8)
 clear P3
 have H4:=hidI m8
 have H7:=hidI i8
 clear i8 m8 s8 N2
 obtain⟨b0,b1,b2,b3,b4,b5,b6,b7,b8,b9,Z4,j5,bf⟩:=n0.out.box
 unfold pv
 go_wp2
 refine bodyPost_ret (results_cell_row rfl _ _ (w.heap.size+1) 100 _ (0,0) _ rfl ((n0.out.put _ _ _ _ _ _ _ _ _ _ _ _)).heap Tryz.underlying100 rfl (by o0)) rfl ?_
 rw[HV.out]
 exact zx rfl H7.out (H4.out.put n0.out _ _ _ _ _ _ _ _ _ _ _ _) (J4.out.put (by omega) _ _ _ _ _ _ _ _ _ _ _ _)
theorem zqf (ts:List Tk) (fin:Nat) (gt cap base:Nat) (S:Sv) (q:PS) (w:World) (hm:Mem (Cx.mk ts fin true) gt cap base S q w) (h0:isT (Cx.mk ts fin true) q.pos 1 sLet=false) (h1:isT (Cx.mk ts fin true) q.pos 1 zr=false) (h2:isT (Cx.mk ts fin true) q.pos 1 zcf=false) (h3:isT (Cx.mk ts fin true) q.pos 1 zcn=false) (h4:isT (Cx.mk ts fin true) q.pos 1 zgp=true):
  Calls Tryz.prog 63 #[pv (Cx.mk ts fin true) gt cap S q (-1) 0] w (Out (Cx.mk ts fin true) gt cap base (zbd (Cx.mk ts fin true) q) 0 S w):=by
 have HM:=hidI hm
 have G1:=hm.tok
 have I0:(Cx.mk ts fin true).ts.length≤4000:=hm.few
 clear hm
 have HV:Hid (zbd (Cx.mk ts fin true) q=bd (bd (bd (bd (.ok q) (tokP (Cx.mk ts fin true) 1 zgp)) (pE (Cx.mk ts fin true) .sum 0)) (tokP (Cx.mk ts fin true) 4 cSemi)) (zbx (Cx.mk ts fin true) 6 sNone)):=by show zbd (Cx.mk ts fin true) q=_;rw[zbd,h0,h1,h2,h3,h4];rfl
 unfold pv
 go_enter Tryz.func63,Tryz.ntmps63
 go_wp2_with f0
 refine (zf (Cx.mk ts fin true) gt cap base S q (-1) 0 1 sLet _ (zg (zg G1 _) _) I0 (by decide)).mono ?_
 rintro e w1 ⟨rfl,P0⟩
 rw[h0]
 obtain⟨X0,X1,m1,t1⟩:=HM.out.two P0
 have j0:=hidI X0
 have n0:=hidI X1
 have Q0:=hidI m1
 have N1:=hidI t1
 clear X0 X1 m1 t1 P0
 clear G1
 obtain⟨a0,a1,a2,a3,a4,a5,a6,a7,a8,a9,E0,B0,af⟩:=j0.out.box
 go_wp2_with f0
 refine (zf (Cx.mk ts fin true) gt cap base S q (-1) 0 1 zr _ Q0.out.tok I0 (by decide)).mono ?_
 rintro e w2 ⟨rfl,J0⟩
 rw[h1]
 replace j0:=hidI (j0.out.below J0)
 replace n0:=hidI (n0.out.below J0)
 have F1:=hidI (N1.out.below J0)
 have M0:=hidI (Q0.out.later J0)
 clear J0 N1 Q0
 clear a0 a1 a2 a3 a4 a5 a6 a7 a8 a9 E0 B0 af
 obtain⟨a0,a1,a2,a3,a4,a5,a6,a7,a8,a9,E0,B0,af⟩:=j0.out.box
 go_wp2_with f0
 refine (zf (Cx.mk ts fin true) gt cap base S q (-1) 0 1 zcf _ M0.out.tok I0 (by decide)).mono ?_
 rintro e w3 ⟨rfl,N0⟩
 rw[h2]
 replace j0:=hidI (j0.out.below N0)
 replace n0:=hidI (n0.out.below N0)
 have Q1:=hidI (F1.out.below N0)
 have U0:=hidI (M0.out.later N0)
 clear N0 F1 M0
 clear a0 a1 a2 a3 a4 a5 a6 a7 a8 a9 E0 B0 af
 obtain⟨a0,a1,a2,a3,a4,a5,a6,a7,a8,a9,E0,B0,af⟩:=j0.out.box
 go_wp2_with f0
 refine (zf (Cx.mk ts fin true) gt cap base S q (-1) 0 1 zcn _ U0.out.tok I0 (by decide)).mono ?_
 rintro e w4 ⟨rfl,Z0⟩
 rw[h3]
 replace j0:=hidI (j0.out.below Z0)
 replace n0:=hidI (n0.out.below Z0)
 have F2:=hidI (Q1.out.below Z0)
 have V1:=hidI (U0.out.later Z0)
 clear Z0 Q1 U0
 clear a0 a1 a2 a3 a4 a5 a6 a7 a8 a9 E0 B0 af
 obtain⟨a0,a1,a2,a3,a4,a5,a6,a7,a8,a9,E0,B0,af⟩:=j0.out.box
 go_wp2_with f0
 refine (zf (Cx.mk ts fin true) gt cap base S q (-1) 0 1 zgp _ V1.out.tok I0 (by decide)).mono ?_
 rintro e w5 ⟨rfl,E3⟩
 rw[h4]
 replace j0:=hidI (j0.out.below E3)
 replace n0:=hidI (n0.out.below E3)
 have P2:=hidI (F2.out.below E3)
 have Z1:=hidI (V1.out.later E3)
 clear E3 F2 V1
 clear a0 a1 a2 a3 a4 a5 a6 a7 a8 a9 E0 B0 af
 obtain⟨a0,a1,a2,a3,a4,a5,a6,a7,a8,a9,E0,B0,af⟩:=j0.out.box
 go_wp2_with f0
 refine (zbh (Cx.mk ts fin true) gt cap base (.ok q) S q (-1) 0 zgp _ (zby q) Z1.out).mono ?_
 rintro e w6 ⟨S6,q6,z6,rfl,i6,m6,s6⟩
 replace j0:=hidI (j0.out.stp s6)
 replace n0:=hidI (n0.out.stp s6)
 have J2:=hidI (P2.out.step s6)
 clear P2
 have j2:=hidI m6
 have D7:=hidI i6
 clear i6 m6 s6 Z1
 clear a0 a1 a2 a3 a4 a5 a6 a7 a8 a9 E0 B0 af
 go_wp2_with f0
 refine (zfc (Cx.mk ts fin true) gt cap base _ S6 q6 z6 _ D7.out j2.out).mono ?_
 rintro e w7 ⟨S7,q7,z7,rfl,i7,m7,s7⟩
 replace j0:=hidI (j0.out.stp s7)
 replace n0:=hidI (n0.out.stp s7)
 have P3:=hidI (J2.out.step s7)
 clear J2
 have N2:=hidI m7
 have Z5:=hidI i7
 clear i7 m7 s7 j2
 go_wp2_with f0
 refine (zq (Cx.mk ts fin true) gt cap base _ S7 q7 z7 0 cSemi _ Z5.out N2.out).mono ?_
 rintro e w8 ⟨S8,q8,z8,rfl,i8,m8,s8⟩
 replace j0:=hidI (j0.out.stp s8)
 replace n0:=hidI (n0.out.stp s8)
 have J4:=hidI (P3.out.step s8)
 clear P3
 have H4:=hidI m8
 have H7:=hidI i8
 clear i8 m8 s8 N2
 go_wp2_with f0
 refine (zed (Cx.mk ts fin true) gt cap base _ S8 q8 z8 0 6 sNone _ H7.out H4.out (zdi H7.out)).mono ?_
 rintro e w9 ⟨S9,q9,z9,rfl,i9,m9,s9⟩
 replace j0:=hidI (j0.out.stp s9)
 replace n0:=hidI (n0.out.stp s9)
 have J5:=hidI (J4.out.step s9)
 clear J4
 have G5:=hidI m9
 have y6:=hidI i9
 clear i9 m9 s9 H4
 obtain⟨b0,b1,b2,b3,b4,b5,b6,b7,b8,b9,Z4,j5,bf⟩:=n0.out.box
 unfold pv
 go_wp2
 refine bodyPost_ret (results_cell_row rfl _ _ (w.heap.size+1) 100 _ (0,0) _ rfl ((n0.out.put _ _ _ _ _ _ _ _ _ _ _ _)).heap Tryz.underlying100 rfl (by o0)) rfl ?_
 rw[HV.out]
 exact zx rfl y6.out (G5.out.put n0.out _ _ _ _ _ _ _ _ _ _ _ _) (J5.out.put (by omega) _ _ _ _ _ _ _ _ _ _ _ _)
theorem zsh (ts:List Tk) (fin:Nat) (gt cap base:Nat) (S:Sv) (q:PS) (w:World) (hm:Mem (Cx.mk ts fin true) gt cap base S q w) (h0:isT (Cx.mk ts fin true) q.pos 1 sLet=false) (h1:isT (Cx.mk ts fin true) q.pos 1 zr=false) (h2:isT (Cx.mk ts fin true) q.pos 1 zcf=false) (h3:isT (Cx.mk ts fin true) q.pos 1 zcn=false) (h4:isT (Cx.mk ts fin true) q.pos 1 zgp=false):
  Calls Tryz.prog 63 #[pv (Cx.mk ts fin true) gt cap S q (-1) 0] w (Out (Cx.mk ts fin true) gt cap base (zbd (Cx.mk ts fin true) q) 0 S w):=by
 have HM:=hidI hm
 have G1:=hm.tok
 have I0:(Cx.mk ts fin true).ts.length≤4000:=hm.few
 clear hm
 have HV:Hid (zbd (Cx.mk ts fin true) q=bd (bd (.ok q) (zn (Cx.mk ts fin true) false)) fun a=>bd (bd (bd (bd (.ok a.1) (tokP (Cx.mk ts fin true) 4 cEq)) (pE (Cx.mk ts fin true) .sum 0)) (tokP (Cx.mk ts fin true) 4 cSemi)) (zbx (Cx.mk ts fin true) 3 a.2)):=by show zbd (Cx.mk ts fin true) q=_;rw[zbd,h0,h1,h2,h3,h4];rfl
 unfold pv
 go_enter Tryz.func63,Tryz.ntmps63
 go_wp2_with f0
 refine (zf (Cx.mk ts fin true) gt cap base S q (-1) 0 1 sLet _ (zg (zg G1 _) _) I0 (by decide)).mono ?_
 rintro e w1 ⟨rfl,P0⟩
 rw[h0]
 obtain⟨X0,X1,m1,t1⟩:=HM.out.two P0
 have j0:=hidI X0
 have n0:=hidI X1
 have Q0:=hidI m1
 have N1:=hidI t1
 clear X0 X1 m1 t1 P0
 clear G1
 obtain⟨a0,a1,a2,a3,a4,a5,a6,a7,a8,a9,E0,B0,af⟩:=j0.out.box
 go_wp2_with f0
 refine (zf (Cx.mk ts fin true) gt cap base S q (-1) 0 1 zr _ Q0.out.tok I0 (by decide)).mono ?_
 rintro e w2 ⟨rfl,J0⟩
 rw[h1]
 replace j0:=hidI (j0.out.below J0)
 replace n0:=hidI (n0.out.below J0)
 have F1:=hidI (N1.out.below J0)
 have M0:=hidI (Q0.out.later J0)
 clear J0 N1 Q0
 clear a0 a1 a2 a3 a4 a5 a6 a7 a8 a9 E0 B0 af
 obtain⟨a0,a1,a2,a3,a4,a5,a6,a7,a8,a9,E0,B0,af⟩:=j0.out.box
 go_wp2_with f0
 refine (zf (Cx.mk ts fin true) gt cap base S q (-1) 0 1 zcf _ M0.out.tok I0 (by decide)).mono ?_
 rintro e w3 ⟨rfl,N0⟩
 rw[h2]
 replace j0:=hidI (j0.out.below N0)
 replace n0:=hidI (n0.out.below N0)
 have Q1:=hidI (F1.out.below N0)
 have U0:=hidI (M0.out.later N0)
 clear N0 F1 M0
 clear a0 a1 a2 a3 a4 a5 a6 a7 a8 a9 E0 B0 af
 obtain⟨a0,a1,a2,a3,a4,a5,a6,a7,a8,a9,E0,B0,af⟩:=j0.out.box
 go_wp2_with f0
 refine (zf (Cx.mk ts fin true) gt cap base S q (-1) 0 1 zcn _ U0.out.tok I0 (by decide)).mono ?_
 rintro e w4 ⟨rfl,Z0⟩
 rw[h3]
 replace j0:=hidI (j0.out.below Z0)
 replace n0:=hidI (n0.out.below Z0)
 have F2:=hidI (Q1.out.below Z0)
 have V1:=hidI (U0.out.later Z0)
 clear Z0 Q1 U0
 clear a0 a1 a2 a3 a4 a5 a6 a7 a8 a9 E0 B0 af
 obtain⟨a0,a1,a2,a3,a4,a5,a6,a7,a8,a9,E0,B0,af⟩:=j0.out.box
 go_wp2_with f0
 refine (zf (Cx.mk ts fin true) gt cap base S q (-1) 0 1 zgp _ V1.out.tok I0 (by decide)).mono ?_
 rintro e w5 ⟨rfl,E3⟩
 rw[h4]
 replace j0:=hidI (j0.out.below E3)
 replace n0:=hidI (n0.out.below E3)
 have P2:=hidI (F2.out.below E3)
 have Z1:=hidI (V1.out.later E3)
 clear E3 F2 V1
 clear a0 a1 a2 a3 a4 a5 a6 a7 a8 a9 E0 B0 af
 obtain⟨a0,a1,a2,a3,a4,a5,a6,a7,a8,a9,E0,B0,af⟩:=j0.out.box
 go_wp2_with f0
 refine (zcb (Cx.mk ts fin true) gt cap base (.ok q) S q (-1) 0 false _ (zby q) Z1.out).mono ?_
 rintro e w6 ⟨S6,q6,z6,n6,rfl,i6,m6,s6⟩
 replace j0:=hidI (j0.out.stp s6)
 replace n0:=hidI (n0.out.stp s6)
 have J2:=hidI (P2.out.step s6)
 clear P2
 have j2:=hidI m6
 have D7:=hidI i6
 clear i6 m6 s6 Z1
 clear a0 a1 a2 a3 a4 a5 a6 a7 a8 a9 E0 B0 af
 have u5:w.heap.size+1<w6.heap.size:=n0.out.lt
 unfold pv
 go_upto_region 19 with f0
 refine zo (R:=fun W=>Bx gt S6 W (w.heap.size) _∧Bx gt S6 W (w.heap.size+1) _∧Bx gt S6 W (w6.heap.size) _∧Mem (Cx.mk ts fin true) gt cap base S6 q6 W∧SB w.heap.size S w S6 W) ⟨(j0.out.alloc _),(n0.out.alloc _),(Bx.new j2.out _),(j2.out.alloc _),(J2.out.alloc _)⟩ ?_
 clear j0 n0 J2 j2
 rintro w7 ⟨X0,X1,X2,m7,t7⟩
 have j0:=hidI X0
 have n0:=hidI X1
 have G0:=hidI X2
 have N2:=hidI m7
 have P3:=hidI t7
 clear m7 t7 X0 X1 X2
 obtain⟨c0,c1,c2,c3,c4,c5,c6,c7,c8,c9,c10,c11,cf⟩:=G0.out.box
 go_wp2_with f0
 refine (zq (Cx.mk ts fin true) gt cap base _ S6 q6 z6 0 cEq _ D7.out.fst N2.out).mono ?_
 rintro e w8 ⟨S8,q8,z8,rfl,i8,m8,s8⟩
 replace j0:=hidI (j0.out.stp s8)
 replace n0:=hidI (n0.out.stp s8)
 replace G0:=hidI (G0.out.stp s8)
 have J4:=hidI (P3.out.step s8)
 clear P3
 have H4:=hidI m8
 have H7:=hidI i8
 clear i8 m8 s8 N2
 clear c0 c1 c2 c3 c4 c5 c6 c7 c8 c9 c10 c11 cf
 go_wp2_with f0
 refine (zfc (Cx.mk ts fin true) gt cap base _ S8 q8 z8 _ H7.out H4.out).mono ?_
 rintro e w9 ⟨S9,q9,z9,rfl,i9,m9,s9⟩
 replace j0:=hidI (j0.out.stp s9)
 replace n0:=hidI (n0.out.stp s9)
 replace G0:=hidI (G0.out.stp s9)
 have J5:=hidI (J4.out.step s9)
 clear J4
 have G5:=hidI m9
 have y6:=hidI i9
 clear i9 m9 s9 H4
 go_wp2_with f0
 refine (zq (Cx.mk ts fin true) gt cap base _ S9 q9 z9 0 cSemi _ y6.out G5.out).mono ?_
 rintro e G8 ⟨Q6,X8,r9,rfl,N6,V5,U3⟩
 replace j0:=hidI (j0.out.stp U3)
 replace n0:=hidI (n0.out.stp U3)
 replace G0:=hidI (G0.out.stp U3)
 have l6:=hidI (J5.out.step U3)
 clear J5
 have A5:=hidI V5
 have A6:=hidI N6
 clear N6 V5 U3 G5
 go_wp2_with f0
 refine (zed (Cx.mk ts fin true) gt cap base _ Q6 X8 r9 0 3 n6 _ A6.out A5.out (zdi A6.out)).mono ?_
 rintro e Ld ⟨ob,Dc,Qc,rfl,ta,u9,o7⟩
 replace j0:=hidI (j0.out.stp o7)
 replace n0:=hidI (n0.out.stp o7)
 replace G0:=hidI (G0.out.stp o7)
 have p8:=hidI (l6.out.step o7)
 clear l6
 have o8:=hidI u9
 have P9:=hidI ta
 clear ta u9 o7 A5
 obtain⟨b0,b1,b2,b3,b4,b5,b6,b7,b8,b9,Z4,j5,bf⟩:=n0.out.box
 unfold pv
 go_wp2
 refine bodyPost_ret (results_cell_row rfl _ _ (w.heap.size+1) 100 _ (0,0) _ rfl ((n0.out.put _ _ _ _ _ _ _ _ _ _ _ _)).heap Tryz.underlying100 rfl (by o0)) rfl ?_
 rw[HV.out,←D7.out.bind (fun q n=>bd (bd (bd (bd (.ok q) (tokP (Cx.mk ts fin true) 4 cEq)) (pE (Cx.mk ts fin true) .sum 0)) (tokP (Cx.mk ts fin true) 4 cSemi)) (zbx (Cx.mk ts fin true) 3 n)),←zxm]
 exact zx rfl P9.out (o8.out.put n0.out _ _ _ _ _ _ _ _ _ _ _ _) (p8.out.put (by omega) _ _ _ _ _ _ _ _ _ _ _ _)
theorem zzx (ts:List Tk) (fin:Nat) (gt cap base:Nat) (S:Sv) (q:PS) (w:World) (hm:Mem (Cx.mk ts fin true) gt cap base S q w):
  Calls Tryz.prog 63 #[pv (Cx.mk ts fin true) gt cap S q (-1) 0] w (Out (Cx.mk ts fin true) gt cap base (zbd (Cx.mk ts fin true) q) 0 S w):=by
 cases h0:isT (Cx.mk ts fin true) q.pos 1 sLet with
 |true=>exact zrk ts fin gt cap base S q w hm h0
 |false=>
  cases h1:isT (Cx.mk ts fin true) q.pos 1 zr with
  |true=>exact znb ts fin gt cap base S q w hm h0 h1
  |false=>
   cases h2:isT (Cx.mk ts fin true) q.pos 1 zcf with
   |true=>exact zpc ts fin gt cap base S q w hm h0 h1 h2
   |false=>
    cases h3:isT (Cx.mk ts fin true) q.pos 1 zcn with
    |true=>exact zpd ts fin gt cap base S q w hm h0 h1 h2 h3
    |false=>
     cases h4:isT (Cx.mk ts fin true) q.pos 1 zgp with
     |true=>exact zqf ts fin gt cap base S q w hm h0 h1 h2 h3 h4
     |false=>
      exact zsh ts fin gt cap base S q w hm h0 h1 h2 h3 h4
theorem zns (ts:List Tk) (fin:Nat) (gt cap base:Nat) (S:Sv) (q:PS) (w:World) (hm:Mem (Cx.mk ts fin false) gt cap base S q w) (h0:isT (Cx.mk ts fin false) q.pos 1 zbp=true):
  Calls Tryz.prog 63 #[pv (Cx.mk ts fin false) gt cap S q (-1) 0] w (Out (Cx.mk ts fin false) gt cap base (zbd (Cx.mk ts fin false) q) 0 S w):=by
 have HM:=hidI hm
 have G1:=hm.tok
 have I0:(Cx.mk ts fin false).ts.length≤4000:=hm.few
 clear hm
 have HV:Hid (zbd (Cx.mk ts fin false) q=zcw (Cx.mk ts fin false) q):=by show zbd (Cx.mk ts fin false) q=_;rw[zbd,h0];rfl
 unfold pv
 go_enter Tryz.func63,Tryz.ntmps63
 go_wp2_with f0
 refine (zf (Cx.mk ts fin false) gt cap base S q (-1) 0 1 zbp _ (zg (zg G1 _) _) I0 (by decide)).mono ?_
 rintro e w1 ⟨rfl,P0⟩
 rw[h0]
 obtain⟨X0,X1,m1,t1⟩:=HM.out.two P0
 have j0:=hidI X0
 have n0:=hidI X1
 have Q0:=hidI m1
 have N1:=hidI t1
 clear X0 X1 m1 t1 P0
 clear G1
 obtain⟨a0,a1,a2,a3,a4,a5,a6,a7,a8,a9,E0,B0,af⟩:=j0.out.box
 go_wp2_with f0
 refine (zvl (Cx.mk ts fin false) gt cap base S q _ Q0.out h0).mono ?_
 rintro e w2 ⟨S2,q2,z2,rfl,i2,m2,s2⟩
 replace j0:=hidI (j0.out.stp s2)
 replace n0:=hidI (n0.out.stp s2)
 have F1:=hidI (N1.out.step s2)
 clear N1
 have M0:=hidI m2
 have D6:=hidI i2
 clear i2 m2 s2 Q0
 clear a0 a1 a2 a3 a4 a5 a6 a7 a8 a9 E0 B0 af
 obtain⟨b0,b1,b2,b3,b4,b5,b6,b7,b8,b9,Z4,j5,bf⟩:=n0.out.box
 unfold pv
 go_wp2
 refine bodyPost_ret (results_cell_row rfl _ _ (w.heap.size+1) 100 _ (0,0) _ rfl ((n0.out.put _ _ _ _ _ _ _ _ _ _ _ _)).heap Tryz.underlying100 rfl (by o0)) rfl ?_
 rw[HV.out]
 exact zx rfl D6.out (M0.out.put n0.out _ _ _ _ _ _ _ _ _ _ _ _) (F1.out.put (by omega) _ _ _ _ _ _ _ _ _ _ _ _)
theorem znt (ts:List Tk) (fin:Nat) (gt cap base:Nat) (S:Sv) (q:PS) (w:World) (hm:Mem (Cx.mk ts fin false) gt cap base S q w) (h0:isT (Cx.mk ts fin false) q.pos 1 zbp=false) (h1:isT (Cx.mk ts fin false) q.pos 1 zbk=true):
  Calls Tryz.prog 63 #[pv (Cx.mk ts fin false) gt cap S q (-1) 0] w (Out (Cx.mk ts fin false) gt cap base (zbd (Cx.mk ts fin false) q) 0 S w):=by
 have HM:=hidI hm
 have G1:=hm.tok
 have I0:(Cx.mk ts fin false).ts.length≤4000:=hm.few
 clear hm
 have HV:Hid (zbd (Cx.mk ts fin false) q=zbm (Cx.mk ts fin false) q):=by show zbd (Cx.mk ts fin false) q=_;rw[zbd,h0,h1];rfl
 unfold pv
 go_enter Tryz.func63,Tryz.ntmps63
 go_wp2_with f0
 refine (zf (Cx.mk ts fin false) gt cap base S q (-1) 0 1 zbp _ (zg (zg G1 _) _) I0 (by decide)).mono ?_
 rintro e w1 ⟨rfl,P0⟩
 rw[h0]
 obtain⟨X0,X1,m1,t1⟩:=HM.out.two P0
 have j0:=hidI X0
 have n0:=hidI X1
 have Q0:=hidI m1
 have N1:=hidI t1
 clear X0 X1 m1 t1 P0
 clear G1
 obtain⟨a0,a1,a2,a3,a4,a5,a6,a7,a8,a9,E0,B0,af⟩:=j0.out.box
 go_wp2_with f0
 refine (zf (Cx.mk ts fin false) gt cap base S q (-1) 0 1 zbk _ Q0.out.tok I0 (by decide)).mono ?_
 rintro e w2 ⟨rfl,J0⟩
 rw[h1]
 replace j0:=hidI (j0.out.below J0)
 replace n0:=hidI (n0.out.below J0)
 have F1:=hidI (N1.out.below J0)
 have M0:=hidI (Q0.out.later J0)
 clear J0 N1 Q0
 clear a0 a1 a2 a3 a4 a5 a6 a7 a8 a9 E0 B0 af
 obtain⟨a0,a1,a2,a3,a4,a5,a6,a7,a8,a9,E0,B0,af⟩:=j0.out.box
 go_wp2_with f0
 refine (zvm (Cx.mk ts fin false) gt cap base S q _ M0.out h1).mono ?_
 rintro e w3 ⟨S3,q3,z3,rfl,i3,m3,s3⟩
 replace j0:=hidI (j0.out.stp s3)
 replace n0:=hidI (n0.out.stp s3)
 have Q1:=hidI (F1.out.step s3)
 clear F1
 have U0:=hidI m3
 have g7:=hidI i3
 clear i3 m3 s3 M0
 clear a0 a1 a2 a3 a4 a5 a6 a7 a8 a9 E0 B0 af
 obtain⟨b0,b1,b2,b3,b4,b5,b6,b7,b8,b9,Z4,j5,bf⟩:=n0.out.box
 unfold pv
 go_wp2
 refine bodyPost_ret (results_cell_row rfl _ _ (w.heap.size+1) 100 _ (0,0) _ rfl ((n0.out.put _ _ _ _ _ _ _ _ _ _ _ _)).heap Tryz.underlying100 rfl (by o0)) rfl ?_
 rw[HV.out]
 exact zx rfl g7.out (U0.out.put n0.out _ _ _ _ _ _ _ _ _ _ _ _) (Q1.out.put (by omega) _ _ _ _ _ _ _ _ _ _ _ _)
theorem zqg (ts:List Tk) (fin:Nat) (gt cap base:Nat) (S:Sv) (q:PS) (w:World) (hm:Mem (Cx.mk ts fin false) gt cap base S q w) (h0:isT (Cx.mk ts fin false) q.pos 1 zbp=false) (h1:isT (Cx.mk ts fin false) q.pos 1 zbk=false) (h2:isT (Cx.mk ts fin false) q.pos 1 sLet=true):
  Calls Tryz.prog 63 #[pv (Cx.mk ts fin false) gt cap S q (-1) 0] w (Out (Cx.mk ts fin false) gt cap base (zbd (Cx.mk ts fin false) q) 0 S w):=by
 have HM:=hidI hm
 have G1:=hm.tok
 have I0:(Cx.mk ts fin false).ts.length≤4000:=hm.few
 clear hm
 have HV:Hid (zbd (Cx.mk ts fin false) q=fstP (letP (Cx.mk ts fin false) q)):=by show zbd (Cx.mk ts fin false) q=_;rw[zbd,h0,h1,h2];rfl
 unfold pv
 go_enter Tryz.func63,Tryz.ntmps63
 go_wp2_with f0
 refine (zf (Cx.mk ts fin false) gt cap base S q (-1) 0 1 zbp _ (zg (zg G1 _) _) I0 (by decide)).mono ?_
 rintro e w1 ⟨rfl,P0⟩
 rw[h0]
 obtain⟨X0,X1,m1,t1⟩:=HM.out.two P0
 have j0:=hidI X0
 have n0:=hidI X1
 have Q0:=hidI m1
 have N1:=hidI t1
 clear X0 X1 m1 t1 P0
 clear G1
 obtain⟨a0,a1,a2,a3,a4,a5,a6,a7,a8,a9,E0,B0,af⟩:=j0.out.box
 go_wp2_with f0
 refine (zf (Cx.mk ts fin false) gt cap base S q (-1) 0 1 zbk _ Q0.out.tok I0 (by decide)).mono ?_
 rintro e w2 ⟨rfl,J0⟩
 rw[h1]
 replace j0:=hidI (j0.out.below J0)
 replace n0:=hidI (n0.out.below J0)
 have F1:=hidI (N1.out.below J0)
 have M0:=hidI (Q0.out.later J0)
 clear J0 N1 Q0
 clear a0 a1 a2 a3 a4 a5 a6 a7 a8 a9 E0 B0 af
 obtain⟨a0,a1,a2,a3,a4,a5,a6,a7,a8,a9,E0,B0,af⟩:=j0.out.box
 go_wp2_with f0
 refine (zf (Cx.mk ts fin false) gt cap base S q (-1) 0 1 sLet _ M0.out.tok I0 (by decide)).mono ?_
 rintro e w3 ⟨rfl,N0⟩
 rw[h2]
 replace j0:=hidI (j0.out.below N0)
 replace n0:=hidI (n0.out.below N0)
 have Q1:=hidI (F1.out.below N0)
 have U0:=hidI (M0.out.later N0)
 clear N0 F1 M0
 clear a0 a1 a2 a3 a4 a5 a6 a7 a8 a9 E0 B0 af
 obtain⟨a0,a1,a2,a3,a4,a5,a6,a7,a8,a9,E0,B0,af⟩:=j0.out.box
 go_wp2_with f0
 refine (znr (Cx.mk ts fin false) gt cap base S q _ U0.out).mono ?_
 rintro e w4 ⟨S4,q4,z4,n4,rfl,i4,m4,s4⟩
 replace j0:=hidI (j0.out.stp s4)
 replace n0:=hidI (n0.out.stp s4)
 have F2:=hidI (Q1.out.step s4)
 clear Q1
 have V1:=hidI m4
 have L7:=hidI i4
 clear i4 m4 s4 U0
 clear a0 a1 a2 a3 a4 a5 a6 a7 a8 a9 E0 B0 af
 have u5:w.heap.size+1<w4.heap.size:=n0.out.lt
 unfold pv
 go_upto_region 7 with f0
 refine zo (R:=fun W=>Bx gt S4 W (w.heap.size) _∧Bx gt S4 W (w.heap.size+1) _∧Bx gt S4 W (w4.heap.size) _∧Mem (Cx.mk ts fin false) gt cap base S4 q4 W∧SB w.heap.size S w S4 W) ⟨(j0.out.alloc _),(n0.out.alloc _),(Bx.new V1.out _),(V1.out.alloc _),(F2.out.alloc _)⟩ ?_
 clear j0 n0 F2 V1
 rintro w5 ⟨X0,X1,X2,m5,t5⟩
 have j0:=hidI X0
 have n0:=hidI X1
 have G0:=hidI X2
 have Z1:=hidI m5
 have P2:=hidI t5
 clear m5 t5 X0 X1 X2
 obtain⟨b0,b1,b2,b3,b4,b5,b6,b7,b8,b9,Z4,j5,bf⟩:=n0.out.box
 obtain⟨c0,c1,c2,c3,c4,c5,c6,c7,c8,c9,c10,c11,cf⟩:=G0.out.box
 go_wp2
 refine bodyPost_ret (results_cell_row rfl _ _ (w.heap.size+1) 100 _ (0,0) _ rfl ((n0.out.put _ _ _ _ _ _ _ _ _ _ _ _)).heap Tryz.underlying100 rfl (by o0)) rfl ?_
 rw[HV.out]
 exact zx rfl L7.out.fst (Z1.out.put n0.out _ _ _ _ _ _ _ _ _ _ _ _) (P2.out.put (by omega) _ _ _ _ _ _ _ _ _ _ _ _)
theorem zmr (ts:List Tk) (fin:Nat) (gt cap base:Nat) (S:Sv) (q:PS) (w:World) (hm:Mem (Cx.mk ts fin false) gt cap base S q w) (h0:isT (Cx.mk ts fin false) q.pos 1 zbp=false) (h1:isT (Cx.mk ts fin false) q.pos 1 zbk=false) (h2:isT (Cx.mk ts fin false) q.pos 1 sLet=false) (h3:isT (Cx.mk ts fin false) q.pos 1 zr=true):
  Calls Tryz.prog 63 #[pv (Cx.mk ts fin false) gt cap S q (-1) 0] w (Out (Cx.mk ts fin false) gt cap base (zbd (Cx.mk ts fin false) q) 0 S w):=by
 have HM:=hidI hm
 have G1:=hm.tok
 have I0:(Cx.mk ts fin false).ts.length≤4000:=hm.few
 clear hm
 have HV:Hid (zbd (Cx.mk ts fin false) q=fstP (fnP (Cx.mk ts fin false) q)):=by show zbd (Cx.mk ts fin false) q=_;rw[zbd,h0,h1,h2,h3];rfl
 unfold pv
 go_enter Tryz.func63,Tryz.ntmps63
 go_wp2_with f0
 refine (zf (Cx.mk ts fin false) gt cap base S q (-1) 0 1 zbp _ (zg (zg G1 _) _) I0 (by decide)).mono ?_
 rintro e w1 ⟨rfl,P0⟩
 rw[h0]
 obtain⟨X0,X1,m1,t1⟩:=HM.out.two P0
 have j0:=hidI X0
 have n0:=hidI X1
 have Q0:=hidI m1
 have N1:=hidI t1
 clear X0 X1 m1 t1 P0
 clear G1
 obtain⟨a0,a1,a2,a3,a4,a5,a6,a7,a8,a9,E0,B0,af⟩:=j0.out.box
 go_wp2_with f0
 refine (zf (Cx.mk ts fin false) gt cap base S q (-1) 0 1 zbk _ Q0.out.tok I0 (by decide)).mono ?_
 rintro e w2 ⟨rfl,J0⟩
 rw[h1]
 replace j0:=hidI (j0.out.below J0)
 replace n0:=hidI (n0.out.below J0)
 have F1:=hidI (N1.out.below J0)
 have M0:=hidI (Q0.out.later J0)
 clear J0 N1 Q0
 clear a0 a1 a2 a3 a4 a5 a6 a7 a8 a9 E0 B0 af
 obtain⟨a0,a1,a2,a3,a4,a5,a6,a7,a8,a9,E0,B0,af⟩:=j0.out.box
 go_wp2_with f0
 refine (zf (Cx.mk ts fin false) gt cap base S q (-1) 0 1 sLet _ M0.out.tok I0 (by decide)).mono ?_
 rintro e w3 ⟨rfl,N0⟩
 rw[h2]
 replace j0:=hidI (j0.out.below N0)
 replace n0:=hidI (n0.out.below N0)
 have Q1:=hidI (F1.out.below N0)
 have U0:=hidI (M0.out.later N0)
 clear N0 F1 M0
 clear a0 a1 a2 a3 a4 a5 a6 a7 a8 a9 E0 B0 af
 obtain⟨a0,a1,a2,a3,a4,a5,a6,a7,a8,a9,E0,B0,af⟩:=j0.out.box
 go_wp2_with f0
 refine (zf (Cx.mk ts fin false) gt cap base S q (-1) 0 1 zr _ U0.out.tok I0 (by decide)).mono ?_
 rintro e w4 ⟨rfl,Z0⟩
 rw[h3]
 replace j0:=hidI (j0.out.below Z0)
 replace n0:=hidI (n0.out.below Z0)
 have F2:=hidI (Q1.out.below Z0)
 have V1:=hidI (U0.out.later Z0)
 clear Z0 Q1 U0
 clear a0 a1 a2 a3 a4 a5 a6 a7 a8 a9 E0 B0 af
 obtain⟨a0,a1,a2,a3,a4,a5,a6,a7,a8,a9,E0,B0,af⟩:=j0.out.box
 go_wp2_with f0
 refine (zoz (Cx.mk ts fin false) gt cap base S q _ V1.out).mono ?_
 rintro e w5 ⟨S5,q5,z5,n5,rfl,i5,m5,s5⟩
 replace j0:=hidI (j0.out.stp s5)
 replace n0:=hidI (n0.out.stp s5)
 have P2:=hidI (F2.out.step s5)
 clear F2
 have Z1:=hidI m5
 have T7:=hidI i5
 clear i5 m5 s5 V1
 clear a0 a1 a2 a3 a4 a5 a6 a7 a8 a9 E0 B0 af
 have u5:w.heap.size+1<w5.heap.size:=n0.out.lt
 unfold pv
 go_upto_region 10 with f0
 refine zo (R:=fun W=>Bx gt S5 W (w.heap.size) _∧Bx gt S5 W (w.heap.size+1) _∧Bx gt S5 W (w5.heap.size) _∧Mem (Cx.mk ts fin false) gt cap base S5 q5 W∧SB w.heap.size S w S5 W) ⟨(j0.out.alloc _),(n0.out.alloc _),(Bx.new Z1.out _),(Z1.out.alloc _),(P2.out.alloc _)⟩ ?_
 clear j0 n0 P2 Z1
 rintro w6 ⟨X0,X1,X2,m6,t6⟩
 have j0:=hidI X0
 have n0:=hidI X1
 have G0:=hidI X2
 have j2:=hidI m6
 have J2:=hidI t6
 clear m6 t6 X0 X1 X2
 obtain⟨b0,b1,b2,b3,b4,b5,b6,b7,b8,b9,Z4,j5,bf⟩:=n0.out.box
 obtain⟨c0,c1,c2,c3,c4,c5,c6,c7,c8,c9,c10,c11,cf⟩:=G0.out.box
 go_wp2
 refine bodyPost_ret (results_cell_row rfl _ _ (w.heap.size+1) 100 _ (0,0) _ rfl ((n0.out.put _ _ _ _ _ _ _ _ _ _ _ _)).heap Tryz.underlying100 rfl (by o0)) rfl ?_
 rw[HV.out]
 exact zx rfl T7.out.fst (j2.out.put n0.out _ _ _ _ _ _ _ _ _ _ _ _) (J2.out.put (by omega) _ _ _ _ _ _ _ _ _ _ _ _)
theorem zok (ts:List Tk) (fin:Nat) (gt cap base:Nat) (S:Sv) (q:PS) (w:World) (hm:Mem (Cx.mk ts fin false) gt cap base S q w) (h0:isT (Cx.mk ts fin false) q.pos 1 zbp=false) (h1:isT (Cx.mk ts fin false) q.pos 1 zbk=false) (h2:isT (Cx.mk ts fin false) q.pos 1 sLet=false) (h3:isT (Cx.mk ts fin false) q.pos 1 zr=false) (h4:isT (Cx.mk ts fin false) q.pos 1 zcf=true):
  Calls Tryz.prog 63 #[pv (Cx.mk ts fin false) gt cap S q (-1) 0] w (Out (Cx.mk ts fin false) gt cap base (zbd (Cx.mk ts fin false) q) 0 S w):=by
 have HM:=hidI hm
 have G1:=hm.tok
 have I0:(Cx.mk ts fin false).ts.length≤4000:=hm.few
 clear hm
 have HV:Hid (zbd (Cx.mk ts fin false) q=bd (bd (bd (bd (bd (bd (.ok q) (tokP (Cx.mk ts fin false) 1 zcf)) (tokP (Cx.mk ts fin false) 4 zt)) (pE (Cx.mk ts fin false) .sum 0)) (tokP (Cx.mk ts fin false) 4 zcz)) (tokP (Cx.mk ts fin false) 4 cSemi)) (zbx (Cx.mk ts fin false) 4 sNone)):=by show zbd (Cx.mk ts fin false) q=_;rw[zbd,h0,h1,h2,h3,h4];rfl
 unfold pv
 go_enter Tryz.func63,Tryz.ntmps63
 go_wp2_with f0
 refine (zf (Cx.mk ts fin false) gt cap base S q (-1) 0 1 zbp _ (zg (zg G1 _) _) I0 (by decide)).mono ?_
 rintro e w1 ⟨rfl,P0⟩
 rw[h0]
 obtain⟨X0,X1,m1,t1⟩:=HM.out.two P0
 have j0:=hidI X0
 have n0:=hidI X1
 have Q0:=hidI m1
 have N1:=hidI t1
 clear X0 X1 m1 t1 P0
 clear G1
 obtain⟨a0,a1,a2,a3,a4,a5,a6,a7,a8,a9,E0,B0,af⟩:=j0.out.box
 go_wp2_with f0
 refine (zf (Cx.mk ts fin false) gt cap base S q (-1) 0 1 zbk _ Q0.out.tok I0 (by decide)).mono ?_
 rintro e w2 ⟨rfl,J0⟩
 rw[h1]
 replace j0:=hidI (j0.out.below J0)
 replace n0:=hidI (n0.out.below J0)
 have F1:=hidI (N1.out.below J0)
 have M0:=hidI (Q0.out.later J0)
 clear J0 N1 Q0
 clear a0 a1 a2 a3 a4 a5 a6 a7 a8 a9 E0 B0 af
 obtain⟨a0,a1,a2,a3,a4,a5,a6,a7,a8,a9,E0,B0,af⟩:=j0.out.box
 go_wp2_with f0
 refine (zf (Cx.mk ts fin false) gt cap base S q (-1) 0 1 sLet _ M0.out.tok I0 (by decide)).mono ?_
 rintro e w3 ⟨rfl,N0⟩
 rw[h2]
 replace j0:=hidI (j0.out.below N0)
 replace n0:=hidI (n0.out.below N0)
 have Q1:=hidI (F1.out.below N0)
 have U0:=hidI (M0.out.later N0)
 clear N0 F1 M0
 clear a0 a1 a2 a3 a4 a5 a6 a7 a8 a9 E0 B0 af
 obtain⟨a0,a1,a2,a3,a4,a5,a6,a7,a8,a9,E0,B0,af⟩:=j0.out.box
 go_wp2_with f0
 refine (zf (Cx.mk ts fin false) gt cap base S q (-1) 0 1 zr _ U0.out.tok I0 (by decide)).mono ?_
 rintro e w4 ⟨rfl,Z0⟩
 rw[h3]
 replace j0:=hidI (j0.out.below Z0)
 replace n0:=hidI (n0.out.below Z0)
 have F2:=hidI (Q1.out.below Z0)
 have V1:=hidI (U0.out.later Z0)
 clear Z0 Q1 U0
 clear a0 a1 a2 a3 a4 a5 a6 a7 a8 a9 E0 B0 af
 obtain⟨a0,a1,a2,a3,a4,a5,a6,a7,a8,a9,E0,B0,af⟩:=j0.out.box
 go_wp2_with f0
 refine (zf (Cx.mk ts fin false) gt cap base S q (-1) 0 1 zcf _ V1.out.tok I0 (by decide)).mono ?_
 rintro e w5 ⟨rfl,E3⟩
 rw[h4]
 replace j0:=hidI (j0.out.below E3)
 replace n0:=hidI (n0.out.below E3)
 have P2:=hidI (F2.out.below E3)
 have Z1:=hidI (V1.out.later E3)
 clear E3 F2 V1
 clear a0 a1 a2 a3 a4 a5 a6 a7 a8 a9 E0 B0 af
 obtain⟨a0,a1,a2,a3,a4,a5,a6,a7,a8,a9,E0,B0,af⟩:=j0.out.box
 go_wp2_with f0
 refine (zbh (Cx.mk ts fin false) gt cap base (.ok q) S q (-1) 0 zcf _ (zby q) Z1.out).mono ?_
 rintro e w6 ⟨S6,q6,z6,rfl,i6,m6,s6⟩
 replace j0:=hidI (j0.out.stp s6)
 replace n0:=hidI (n0.out.stp s6)
 have J2:=hidI (P2.out.step s6)
 clear P2
 have j2:=hidI m6
 have D7:=hidI i6
 clear i6 m6 s6 Z1
 clear a0 a1 a2 a3 a4 a5 a6 a7 a8 a9 E0 B0 af
 go_wp2_with f0
 refine (zq (Cx.mk ts fin false) gt cap base _ S6 q6 z6 0 zt _ D7.out j2.out).mono ?_
 rintro e w7 ⟨S7,q7,z7,rfl,i7,m7,s7⟩
 replace j0:=hidI (j0.out.stp s7)
 replace n0:=hidI (n0.out.stp s7)
 have P3:=hidI (J2.out.step s7)
 clear J2
 have N2:=hidI m7
 have Z5:=hidI i7
 clear i7 m7 s7 j2
 go_wp2_with f0
 refine (zfc (Cx.mk ts fin false) gt cap base _ S7 q7 z7 _ Z5.out N2.out).mono ?_
 rintro e w8 ⟨S8,q8,z8,rfl,i8,m8,s8⟩
 replace j0:=hidI (j0.out.stp s8)
 replace n0:=hidI (n0.out.stp s8)
 have J4:=hidI (P3.out.step s8)
 clear P3
 have H4:=hidI m8
 have H7:=hidI i8
 clear i8 m8 s8 N2
 go_wp2_with f0
 refine (zq (Cx.mk ts fin false) gt cap base _ S8 q8 z8 0 zcz _ H7.out H4.out).mono ?_
 rintro e w9 ⟨S9,q9,z9,rfl,i9,m9,s9⟩
 replace j0:=hidI (j0.out.stp s9)
 replace n0:=hidI (n0.out.stp s9)
 have J5:=hidI (J4.out.step s9)
 clear J4
 have G5:=hidI m9
 have y6:=hidI i9
 clear i9 m9 s9 H4
 have u5:w.heap.size+1<w9.heap.size:=n0.out.lt
 unfold pv
 go_upto_region 13 with f0
 refine zo (R:=fun W=>Bx gt S9 W (w.heap.size) _∧Bx gt S9 W (w.heap.size+1) _∧Bx gt S9 W (w9.heap.size) _∧Mem (Cx.mk ts fin false) gt cap base S9 q9 W∧SB w.heap.size S w S9 W) ⟨(j0.out.alloc _),(n0.out.alloc _),(Bx.new G5.out _),(G5.out.alloc _),(J5.out.alloc _)⟩ ?_
 clear j0 n0 J5 G5
 rintro G8 ⟨X0,X1,X2,V5,ec⟩
 have j0:=hidI X0
 have n0:=hidI X1
 have G0:=hidI X2
 have A5:=hidI V5
 have l6:=hidI ec
 clear V5 ec X0 X1 X2
 obtain⟨c0,c1,c2,c3,c4,c5,c6,c7,c8,c9,c10,c11,cf⟩:=G0.out.box
 go_wp2_with f0
 refine (zq (Cx.mk ts fin false) gt cap base _ S9 q9 z9 0 cSemi _ y6.out A5.out).mono ?_
 rintro e Ld ⟨ob,Dc,Qc,rfl,ta,u9,o7⟩
 replace j0:=hidI (j0.out.stp o7)
 replace n0:=hidI (n0.out.stp o7)
 replace G0:=hidI (G0.out.stp o7)
 have p8:=hidI (l6.out.step o7)
 clear l6
 have o8:=hidI u9
 have P9:=hidI ta
 clear ta u9 o7 A5
 clear c0 c1 c2 c3 c4 c5 c6 c7 c8 c9 c10 c11 cf
 go_wp2_with f0
 refine (zed (Cx.mk ts fin false) gt cap base _ ob Dc Qc 0 4 sNone _ P9.out o8.out (zdi P9.out)).mono ?_
 rintro e w12 ⟨S12,q12,z12,rfl,bc,Bb,Q8⟩
 replace j0:=hidI (j0.out.stp Q8)
 replace n0:=hidI (n0.out.stp Q8)
 replace G0:=hidI (G0.out.stp Q8)
 have Qa:=hidI (p8.out.step Q8)
 clear p8
 have Va:=hidI Bb
 have pc:=hidI bc
 clear bc Bb Q8 o8
 obtain⟨b0,b1,b2,b3,b4,b5,b6,b7,b8,b9,Z4,j5,bf⟩:=n0.out.box
 unfold pv
 go_wp2
 refine bodyPost_ret (results_cell_row rfl _ _ (w.heap.size+1) 100 _ (0,0) _ rfl ((n0.out.put _ _ _ _ _ _ _ _ _ _ _ _)).heap Tryz.underlying100 rfl (by o0)) rfl ?_
 rw[HV.out]
 exact zx rfl pc.out (Va.out.put n0.out _ _ _ _ _ _ _ _ _ _ _ _) (Qa.out.put (by omega) _ _ _ _ _ _ _ _ _ _ _ _)
theorem zol (ts:List Tk) (fin:Nat) (gt cap base:Nat) (S:Sv) (q:PS) (w:World) (hm:Mem (Cx.mk ts fin false) gt cap base S q w) (h0:isT (Cx.mk ts fin false) q.pos 1 zbp=false) (h1:isT (Cx.mk ts fin false) q.pos 1 zbk=false) (h2:isT (Cx.mk ts fin false) q.pos 1 sLet=false) (h3:isT (Cx.mk ts fin false) q.pos 1 zr=false) (h4:isT (Cx.mk ts fin false) q.pos 1 zcf=false) (h5:isT (Cx.mk ts fin false) q.pos 1 zcn=true):
  Calls Tryz.prog 63 #[pv (Cx.mk ts fin false) gt cap S q (-1) 0] w (Out (Cx.mk ts fin false) gt cap base (zbd (Cx.mk ts fin false) q) 0 S w):=by
 have HM:=hidI hm
 have G1:=hm.tok
 have I0:(Cx.mk ts fin false).ts.length≤4000:=hm.few
 clear hm
 have HV:Hid (zbd (Cx.mk ts fin false) q=bd (bd (bd (bd (.ok q) (tokP (Cx.mk ts fin false) 1 zcn)) (pE (Cx.mk ts fin false) .sum 0)) (tokP (Cx.mk ts fin false) 4 cSemi)) (zbx (Cx.mk ts fin false) 5 sNone)):=by show zbd (Cx.mk ts fin false) q=_;rw[zbd,h0,h1,h2,h3,h4,h5];rfl
 unfold pv
 go_enter Tryz.func63,Tryz.ntmps63
 go_wp2_with f0
 refine (zf (Cx.mk ts fin false) gt cap base S q (-1) 0 1 zbp _ (zg (zg G1 _) _) I0 (by decide)).mono ?_
 rintro e w1 ⟨rfl,P0⟩
 rw[h0]
 obtain⟨X0,X1,m1,t1⟩:=HM.out.two P0
 have j0:=hidI X0
 have n0:=hidI X1
 have Q0:=hidI m1
 have N1:=hidI t1
 clear X0 X1 m1 t1 P0
 clear G1
 obtain⟨a0,a1,a2,a3,a4,a5,a6,a7,a8,a9,E0,B0,af⟩:=j0.out.box
 go_wp2_with f0
 refine (zf (Cx.mk ts fin false) gt cap base S q (-1) 0 1 zbk _ Q0.out.tok I0 (by decide)).mono ?_
 rintro e w2 ⟨rfl,J0⟩
 rw[h1]
 replace j0:=hidI (j0.out.below J0)
 replace n0:=hidI (n0.out.below J0)
 have F1:=hidI (N1.out.below J0)
 have M0:=hidI (Q0.out.later J0)
 clear J0 N1 Q0
 clear a0 a1 a2 a3 a4 a5 a6 a7 a8 a9 E0 B0 af
 obtain⟨a0,a1,a2,a3,a4,a5,a6,a7,a8,a9,E0,B0,af⟩:=j0.out.box
 go_wp2_with f0
 refine (zf (Cx.mk ts fin false) gt cap base S q (-1) 0 1 sLet _ M0.out.tok I0 (by decide)).mono ?_
 rintro e w3 ⟨rfl,N0⟩
 rw[h2]
 replace j0:=hidI (j0.out.below N0)
 replace n0:=hidI (n0.out.below N0)
 have Q1:=hidI (F1.out.below N0)
 have U0:=hidI (M0.out.later N0)
 clear N0 F1 M0
 clear a0 a1 a2 a3 a4 a5 a6 a7 a8 a9 E0 B0 af
 obtain⟨a0,a1,a2,a3,a4,a5,a6,a7,a8,a9,E0,B0,af⟩:=j0.out.box
 go_wp2_with f0
 refine (zf (Cx.mk ts fin false) gt cap base S q (-1) 0 1 zr _ U0.out.tok I0 (by decide)).mono ?_
 rintro e w4 ⟨rfl,Z0⟩
 rw[h3]
 replace j0:=hidI (j0.out.below Z0)
 replace n0:=hidI (n0.out.below Z0)
 have F2:=hidI (Q1.out.below Z0)
 have V1:=hidI (U0.out.later Z0)
 clear Z0 Q1 U0
 clear a0 a1 a2 a3 a4 a5 a6 a7 a8 a9 E0 B0 af
 obtain⟨a0,a1,a2,a3,a4,a5,a6,a7,a8,a9,E0,B0,af⟩:=j0.out.box
 go_wp2_with f0
 refine (zf (Cx.mk ts fin false) gt cap base S q (-1) 0 1 zcf _ V1.out.tok I0 (by decide)).mono ?_
 rintro e w5 ⟨rfl,E3⟩
 rw[h4]
 replace j0:=hidI (j0.out.below E3)
 replace n0:=hidI (n0.out.below E3)
 have P2:=hidI (F2.out.below E3)
 have Z1:=hidI (V1.out.later E3)
 clear E3 F2 V1
 clear a0 a1 a2 a3 a4 a5 a6 a7 a8 a9 E0 B0 af
 obtain⟨a0,a1,a2,a3,a4,a5,a6,a7,a8,a9,E0,B0,af⟩:=j0.out.box
 go_wp2_with f0
 refine (zf (Cx.mk ts fin false) gt cap base S q (-1) 0 1 zcn _ Z1.out.tok I0 (by decide)).mono ?_
 rintro e w6 ⟨rfl,E4⟩
 rw[h5]
 replace j0:=hidI (j0.out.below E4)
 replace n0:=hidI (n0.out.below E4)
 have J2:=hidI (P2.out.below E4)
 have j2:=hidI (Z1.out.later E4)
 clear E4 P2 Z1
 clear a0 a1 a2 a3 a4 a5 a6 a7 a8 a9 E0 B0 af
 obtain⟨a0,a1,a2,a3,a4,a5,a6,a7,a8,a9,E0,B0,af⟩:=j0.out.box
 go_wp2_with f0
 refine (zbh (Cx.mk ts fin false) gt cap base (.ok q) S q (-1) 0 zcn _ (zby q) j2.out).mono ?_
 rintro e w7 ⟨S7,q7,z7,rfl,i7,m7,s7⟩
 replace j0:=hidI (j0.out.stp s7)
 replace n0:=hidI (n0.out.stp s7)
 have P3:=hidI (J2.out.step s7)
 clear J2
 have N2:=hidI m7
 have Z5:=hidI i7
 clear i7 m7 s7 j2
 clear a0 a1 a2 a3 a4 a5 a6 a7 a8 a9 E0 B0 af
 go_wp2_with f0
 refine (zfc (Cx.mk ts fin false) gt cap base _ S7 q7 z7 _ Z5.out N2.out).mono ?_
 rintro e w8 ⟨S8,q8,z8,rfl,i8,m8,s8⟩
 replace j0:=hidI (j0.out.stp s8)
 replace n0:=hidI (n0.out.stp s8)
 have J4:=hidI (P3.out.step s8)
 clear P3
 have H4:=hidI m8
 have H7:=hidI i8
 clear i8 m8 s8 N2
 go_wp2_with f0
 refine (zq (Cx.mk ts fin false) gt cap base _ S8 q8 z8 0 cSemi _ H7.out H4.out).mono ?_
 rintro e w9 ⟨S9,q9,z9,rfl,i9,m9,s9⟩
 replace j0:=hidI (j0.out.stp s9)
 replace n0:=hidI (n0.out.stp s9)
 have J5:=hidI (J4.out.step s9)
 clear J4
 have G5:=hidI m9
 have y6:=hidI i9
 clear i9 m9 s9 H4
 go_wp2_with f0
 refine (zed (Cx.mk ts fin false) gt cap base _ S9 q9 z9 0 5 sNone _ y6.out G5.out (zdi y6.out)).mono ?_
 rintro e G8 ⟨Q6,X8,r9,rfl,N6,V5,U3⟩
 replace j0:=hidI (j0.out.stp U3)
 replace n0:=hidI (n0.out.stp U3)
 have l6:=hidI (J5.out.step U3)
 clear J5
 have A5:=hidI V5
 have A6:=hidI N6
 clear N6 V5 U3 G5
 obtain⟨b0,b1,b2,b3,b4,b5,b6,b7,b8,b9,Z4,j5,bf⟩:=n0.out.box
 unfold pv
 go_wp2
 refine bodyPost_ret (results_cell_row rfl _ _ (w.heap.size+1) 100 _ (0,0) _ rfl ((n0.out.put _ _ _ _ _ _ _ _ _ _ _ _)).heap Tryz.underlying100 rfl (by o0)) rfl ?_
 rw[HV.out]
 exact zx rfl A6.out (A5.out.put n0.out _ _ _ _ _ _ _ _ _ _ _ _) (l6.out.put (by omega) _ _ _ _ _ _ _ _ _ _ _ _)
theorem zrl (ts:List Tk) (fin:Nat) (gt cap base:Nat) (S:Sv) (q:PS) (w:World) (hm:Mem (Cx.mk ts fin false) gt cap base S q w) (h0:isT (Cx.mk ts fin false) q.pos 1 zbp=false) (h1:isT (Cx.mk ts fin false) q.pos 1 zbk=false) (h2:isT (Cx.mk ts fin false) q.pos 1 sLet=false) (h3:isT (Cx.mk ts fin false) q.pos 1 zr=false) (h4:isT (Cx.mk ts fin false) q.pos 1 zcf=false) (h5:isT (Cx.mk ts fin false) q.pos 1 zcn=false):
  Calls Tryz.prog 63 #[pv (Cx.mk ts fin false) gt cap S q (-1) 0] w (Out (Cx.mk ts fin false) gt cap base (zbd (Cx.mk ts fin false) q) 0 S w):=by
 have HM:=hidI hm
 have G1:=hm.tok
 have I0:(Cx.mk ts fin false).ts.length≤4000:=hm.few
 clear hm
 have HV:Hid (zbd (Cx.mk ts fin false) q=bd (bd (.ok q) (zn (Cx.mk ts fin false) false)) fun a=>bd (bd (bd (bd (.ok a.1) (tokP (Cx.mk ts fin false) 4 cEq)) (pE (Cx.mk ts fin false) .sum 0)) (tokP (Cx.mk ts fin false) 4 cSemi)) (zbx (Cx.mk ts fin false) 3 a.2)):=by show zbd (Cx.mk ts fin false) q=_;rw[zbd,h0,h1,h2,h3,h4,h5];rfl
 unfold pv
 go_enter Tryz.func63,Tryz.ntmps63
 go_wp2_with f0
 refine (zf (Cx.mk ts fin false) gt cap base S q (-1) 0 1 zbp _ (zg (zg G1 _) _) I0 (by decide)).mono ?_
 rintro e w1 ⟨rfl,P0⟩
 rw[h0]
 obtain⟨X0,X1,m1,t1⟩:=HM.out.two P0
 have j0:=hidI X0
 have n0:=hidI X1
 have Q0:=hidI m1
 have N1:=hidI t1
 clear X0 X1 m1 t1 P0
 clear G1
 obtain⟨a0,a1,a2,a3,a4,a5,a6,a7,a8,a9,E0,B0,af⟩:=j0.out.box
 go_wp2_with f0
 refine (zf (Cx.mk ts fin false) gt cap base S q (-1) 0 1 zbk _ Q0.out.tok I0 (by decide)).mono ?_
 rintro e w2 ⟨rfl,J0⟩
 rw[h1]
 replace j0:=hidI (j0.out.below J0)
 replace n0:=hidI (n0.out.below J0)
 have F1:=hidI (N1.out.below J0)
 have M0:=hidI (Q0.out.later J0)
 clear J0 N1 Q0
 clear a0 a1 a2 a3 a4 a5 a6 a7 a8 a9 E0 B0 af
 obtain⟨a0,a1,a2,a3,a4,a5,a6,a7,a8,a9,E0,B0,af⟩:=j0.out.box
 go_wp2_with f0
 refine (zf (Cx.mk ts fin false) gt cap base S q (-1) 0 1 sLet _ M0.out.tok I0 (by decide)).mono ?_
 rintro e w3 ⟨rfl,N0⟩
 rw[h2]
 replace j0:=hidI (j0.out.below N0)
 replace n0:=hidI (n0.out.below N0)
 have Q1:=hidI (F1.out.below N0)
 have U0:=hidI (M0.out.later N0)
 clear N0 F1 M0
 clear a0 a1 a2 a3 a4 a5 a6 a7 a8 a9 E0 B0 af
 obtain⟨a0,a1,a2,a3,a4,a5,a6,a7,a8,a9,E0,B0,af⟩:=j0.out.box
 go_wp2_with f0
 refine (zf (Cx.mk ts fin false) gt cap base S q (-1) 0 1 zr _ U0.out.tok I0 (by decide)).mono ?_
 rintro e w4 ⟨rfl,Z0⟩
 rw[h3]
 replace j0:=hidI (j0.out.below Z0)
 replace n0:=hidI (n0.out.below Z0)
 have F2:=hidI (Q1.out.below Z0)
 have V1:=hidI (U0.out.later Z0)
 clear Z0 Q1 U0
 clear a0 a1 a2 a3 a4 a5 a6 a7 a8 a9 E0 B0 af
 obtain⟨a0,a1,a2,a3,a4,a5,a6,a7,a8,a9,E0,B0,af⟩:=j0.out.box
 go_wp2_with f0
 refine (zf (Cx.mk ts fin false) gt cap base S q (-1) 0 1 zcf _ V1.out.tok I0 (by decide)).mono ?_
 rintro e w5 ⟨rfl,E3⟩
 rw[h4]
 replace j0:=hidI (j0.out.below E3)
 replace n0:=hidI (n0.out.below E3)
 have P2:=hidI (F2.out.below E3)
 have Z1:=hidI (V1.out.later E3)
 clear E3 F2 V1
 clear a0 a1 a2 a3 a4 a5 a6 a7 a8 a9 E0 B0 af
 obtain⟨a0,a1,a2,a3,a4,a5,a6,a7,a8,a9,E0,B0,af⟩:=j0.out.box
 go_wp2_with f0
 refine (zf (Cx.mk ts fin false) gt cap base S q (-1) 0 1 zcn _ Z1.out.tok I0 (by decide)).mono ?_
 rintro e w6 ⟨rfl,E4⟩
 rw[h5]
 replace j0:=hidI (j0.out.below E4)
 replace n0:=hidI (n0.out.below E4)
 have J2:=hidI (P2.out.below E4)
 have j2:=hidI (Z1.out.later E4)
 clear E4 P2 Z1
 clear a0 a1 a2 a3 a4 a5 a6 a7 a8 a9 E0 B0 af
 obtain⟨a0,a1,a2,a3,a4,a5,a6,a7,a8,a9,E0,B0,af⟩:=j0.out.box
 go_wp2_with f0
 refine (zcb (Cx.mk ts fin false) gt cap base (.ok q) S q (-1) 0 false _ (zby q) j2.out).mono ?_
 rintro e w7 ⟨S7,q7,z7,n7,rfl,i7,m7,s7⟩
 replace j0:=hidI (j0.out.stp s7)
 replace n0:=hidI (n0.out.stp s7)
 have P3:=hidI (J2.out.step s7)
 clear J2
 have N2:=hidI m7
 have Z5:=hidI i7
 clear i7 m7 s7 j2
 clear a0 a1 a2 a3 a4 a5 a6 a7 a8 a9 E0 B0 af
 have u5:w.heap.size+1<w7.heap.size:=n0.out.lt
 unfold pv
 go_upto_region 19 with f0
 refine zo (R:=fun W=>Bx gt S7 W (w.heap.size) _∧Bx gt S7 W (w.heap.size+1) _∧Bx gt S7 W (w7.heap.size) _∧Mem (Cx.mk ts fin false) gt cap base S7 q7 W∧SB w.heap.size S w S7 W) ⟨(j0.out.alloc _),(n0.out.alloc _),(Bx.new N2.out _),(N2.out.alloc _),(P3.out.alloc _)⟩ ?_
 clear j0 n0 P3 N2
 rintro w8 ⟨X0,X1,X2,m8,t8⟩
 have j0:=hidI X0
 have n0:=hidI X1
 have G0:=hidI X2
 have H4:=hidI m8
 have J4:=hidI t8
 clear m8 t8 X0 X1 X2
 obtain⟨c0,c1,c2,c3,c4,c5,c6,c7,c8,c9,c10,c11,cf⟩:=G0.out.box
 go_wp2_with f0
 refine (zq (Cx.mk ts fin false) gt cap base _ S7 q7 z7 0 cEq _ Z5.out.fst H4.out).mono ?_
 rintro e w9 ⟨S9,q9,z9,rfl,i9,m9,s9⟩
 replace j0:=hidI (j0.out.stp s9)
 replace n0:=hidI (n0.out.stp s9)
 replace G0:=hidI (G0.out.stp s9)
 have J5:=hidI (J4.out.step s9)
 clear J4
 have G5:=hidI m9
 have y6:=hidI i9
 clear i9 m9 s9 H4
 clear c0 c1 c2 c3 c4 c5 c6 c7 c8 c9 c10 c11 cf
 go_wp2_with f0
 refine (zfc (Cx.mk ts fin false) gt cap base _ S9 q9 z9 _ y6.out G5.out).mono ?_
 rintro e G8 ⟨Q6,X8,r9,rfl,N6,V5,U3⟩
 replace j0:=hidI (j0.out.stp U3)
 replace n0:=hidI (n0.out.stp U3)
 replace G0:=hidI (G0.out.stp U3)
 have l6:=hidI (J5.out.step U3)
 clear J5
 have A5:=hidI V5
 have A6:=hidI N6
 clear N6 V5 U3 G5
 go_wp2_with f0
 refine (zq (Cx.mk ts fin false) gt cap base _ Q6 X8 r9 0 cSemi _ A6.out A5.out).mono ?_
 rintro e Ld ⟨ob,Dc,Qc,rfl,ta,u9,o7⟩
 replace j0:=hidI (j0.out.stp o7)
 replace n0:=hidI (n0.out.stp o7)
 replace G0:=hidI (G0.out.stp o7)
 have p8:=hidI (l6.out.step o7)
 clear l6
 have o8:=hidI u9
 have P9:=hidI ta
 clear ta u9 o7 A5
 go_wp2_with f0
 refine (zed (Cx.mk ts fin false) gt cap base _ ob Dc Qc 0 3 n7 _ P9.out o8.out (zdi P9.out)).mono ?_
 rintro e w12 ⟨S12,q12,z12,rfl,bc,Bb,Q8⟩
 replace j0:=hidI (j0.out.stp Q8)
 replace n0:=hidI (n0.out.stp Q8)
 replace G0:=hidI (G0.out.stp Q8)
 have Qa:=hidI (p8.out.step Q8)
 clear p8
 have Va:=hidI Bb
 have pc:=hidI bc
 clear bc Bb Q8 o8
 obtain⟨b0,b1,b2,b3,b4,b5,b6,b7,b8,b9,Z4,j5,bf⟩:=n0.out.box
 unfold pv
 go_wp2
 refine bodyPost_ret (results_cell_row rfl _ _ (w.heap.size+1) 100 _ (0,0) _ rfl ((n0.out.put _ _ _ _ _ _ _ _ _ _ _ _)).heap Tryz.underlying100 rfl (by o0)) rfl ?_
 rw[HV.out,←Z5.out.bind (fun q n=>bd (bd (bd (bd (.ok q) (tokP (Cx.mk ts fin false) 4 cEq)) (pE (Cx.mk ts fin false) .sum 0)) (tokP (Cx.mk ts fin false) 4 cSemi)) (zbx (Cx.mk ts fin false) 3 n)),←zxm]
 exact zx rfl pc.out (Va.out.put n0.out _ _ _ _ _ _ _ _ _ _ _ _) (Qa.out.put (by omega) _ _ _ _ _ _ _ _ _ _ _ _)
theorem zxn (ts:List Tk) (fin:Nat) (gt cap base:Nat) (S:Sv) (q:PS) (w:World) (hm:Mem (Cx.mk ts fin false) gt cap base S q w):
  Calls Tryz.prog 63 #[pv (Cx.mk ts fin false) gt cap S q (-1) 0] w (Out (Cx.mk ts fin false) gt cap base (zbd (Cx.mk ts fin false) q) 0 S w):=by
 cases h0:isT (Cx.mk ts fin false) q.pos 1 zbp with
 |true=>exact zns ts fin gt cap base S q w hm h0
 |false=>
  cases h1:isT (Cx.mk ts fin false) q.pos 1 zbk with
  |true=>exact znt ts fin gt cap base S q w hm h0 h1
  |false=>
   cases h2:isT (Cx.mk ts fin false) q.pos 1 sLet with
   |true=>exact zqg ts fin gt cap base S q w hm h0 h1 h2
   |false=>
    cases h3:isT (Cx.mk ts fin false) q.pos 1 zr with
    |true=>exact zmr ts fin gt cap base S q w hm h0 h1 h2 h3
    |false=>
     cases h4:isT (Cx.mk ts fin false) q.pos 1 zcf with
     |true=>exact zok ts fin gt cap base S q w hm h0 h1 h2 h3 h4
     |false=>
      cases h5:isT (Cx.mk ts fin false) q.pos 1 zcn with
      |true=>exact zol ts fin gt cap base S q w hm h0 h1 h2 h3 h4 h5
      |false=>
       exact zrl ts fin gt cap base S q w hm h0 h1 h2 h3 h4 h5
theorem zzy (C:Cx) (gt cap base:Nat) (S:Sv) (q:PS) (w:World) (hm:Mem C gt cap base S q w):
  Calls Tryz.prog 63 #[pv C gt cap S q (-1) 0] w (Out C gt cap base (zbd C q) 0 S w):=by
 obtain⟨ts,fin,scr⟩:=C
 cases scr with
 |true=>exact zzx ts fin gt cap base S q w hm
 |false=>exact zxn ts fin gt cap base S q w hm
theorem zsi (s:ByteArray) (scr:Bool) (w:World) (hs:s.size≤4294967296):
  Calls Tryz.prog 23 #[.string s,.bool scr] w fun e w'=>ParseOut s scr w e w'∧Below w.heap.size w w':=by
 obtain⟨i0,hi,Q4,V4,N4⟩:=info_parts Tryz.infoExp
 go_enter Tryz.func23,Tryz.ntmps23
 go_wp2_with f0
 refine (zbhz s scr _ hs).mono ?_
 rintro e w1 ⟨⟨r1,fb,cd⟩,b1⟩
 have L2:Hid (Below w.heap.size w w1):=((Below.refl _ _).alloc (Nat.le_refl _) _).trans (b1.mono (by rw[ze];omega))
 have hG:w1.heap[w.heap.size]? =some (.cells #[.slice none 0 0,.slice none 0 0,.slice none 0 0,.slice none 0 0,.slice none 0 0] 54 (0,0)):=(b1.block _ (by rw[ze];omega)).trans (heap_alloc_new w _)
 rw[ze] at b1
 cases r1 with
 |error p=>
  obtain⟨g,cap,rfl,Ra⟩:=cd
  have HY:Hid (zfq s scr (.error p)):=⟨_,fb,rfl⟩
  have HG:=hidI hG
  obtain⟨c0,c1,c2,c3,c4,cf⟩:=zi hG
  have dz:decide ((0:Int)≤(p:Int))=true:=decide_eq_true (by omega)
  clear Ra fb b1 hG
  go_wp2
  refine bodyPost_ret (zl rfl _ _ w.heap.size 54 _ (0,0) _ rfl (put5 HG.out) Tryz.underlying54 rfl (by o0)) rfl ?_
  exact⟨⟨_,HY.out,rfl⟩,zln L2.out (Nat.le_refl _) _ _ _ _ _⟩
 |ok ts=>
  obtain⟨g,n,cap,rfl,Ra⟩:=cd
  obtain rfl:n=ts.length:=Ra.2
  rw[ze] at Ra
  have tc:w.heap.size+1≤w1.heap.size:=by have:=b1.size;rw[ze] at this;exact this
  have V0:=zwn fb
  have HR:=hidI fb
  have hM0:Mem ⟨ts,s.size,scr⟩ g cap (w.heap.size+1) S0 zgh w1:=zty Ra V0 tc
  have HM0:=hidI hM0
  have HG:=hidI hG
  clear Ra fb hM0 hG
  go_wp2
  go_loopg [] (ts.length+1) (fun k wr=>∃(x':PR) (S':Sv) (q':PS) (z':Int),Is x' q' z'∧bd x' (zcg ⟨ts,s.size,scr⟩)=zcg ⟨ts,s.size,scr⟩ zgh∧(z'<0→ts.length-q'.pos<k)∧Mem ⟨ts,s.size,scr⟩ g cap (w.heap.size+1) S' q' wr∧Below w.heap.size w wr∧Bx g S' wr w1.heap.size #[.slice (some ⟨g,0,none⟩) ts.length cap,.int .i64 q'.pos,.int .i64 s.size,.bool scr,.slice S'.rq.a q'.rq.length S'.rq.cap,.slice S'.im.a q'.im.length S'.im.cap,.slice S'.ep.a q'.ep.length S'.ep.cap,.slice S'.st.a q'.st.length S'.st.cap,.slice S'.ex.a q'.ex.length S'.ex.cap,.slice S'.la.a q'.la.length S'.la.cap,.int .i64 z',.int .i64 0]∧wr.heap[w.heap.size]? =some (.cells #[.slice none 0 0,.slice none 0 0,.slice none 0 0,.slice none 0 0,.slice none 0 0] 54 (0,0)))
  case atStart=>exact⟨.ok zgh,S0,zgh,-1,zby _,rfl,fun _=>by show ts.length-0<ts.length+1;omega,HM0.out.alloc _,L2.out.alloc L2.out.size _,Bx.new HM0.out _,(Below.heap_alloc _ _ _ (by omega)).trans HG.out⟩
  case round=>
   obtain⟨x2,S2,q2,z2,i2,e2,l2,m2,t2,X0,G2⟩:=hrel
   have D6:=hidI i2
   have Ea:=hidI e2
   have Rc:=hidI l2
   have M0:=hidI m2
   have F1:=hidI t2
   have j0:=hidI X0
   have F6:=hidI G2
   have hpl:q2.pos≤ts.length:=m2.inv.pos
   obtain⟨a0,a1,a2,a3,a4,a5,a6,a7,a8,a9,E0,B0,af⟩:=X0.box
   clear i2 e2 l2 m2 t2 X0 G2
   by_cases hz:z2<0
   ·have dz:decide (z2<0)=true:=decide_eq_true hz
    obtain⟨rfl,rfl⟩:=zcs D6.out hz
    by_cases hp:q2.pos<ts.length
    ·have hlk:=Rc.out hz
     go_wp2_with f0
     refine (zzy ⟨ts,s.size,scr⟩ g cap (w.heap.size+1) S2 q2 _ M0.out).mono ?_
     rintro e w3 ⟨S3,q3,z3,rfl,i3,m3,s3⟩
     have U0:=hidI m3
     have g7:=hidI i3
     have Ma:Hid (Below (w.heap.size+1) wr w3):=s3.under M0.out.base M0.out.own
     have G4:Hid (Bx g S3 w3 w1.heap.size _):=j0.out.stp s3
     have Q1:Hid (Below w.heap.size w w3):=F1.out.trans (Ma.out.mono (by omega))
     have o5:Hid (w3.heap[w.heap.size]? =some (.cells #[.slice none 0 0,.slice none 0 0,.slice none 0 0,.slice none 0 0,.slice none 0 0] 54 (0,0))):=(Ma.out.block _ (by omega)).trans F6.out
     have HE:Hid (bd (zbd ⟨ts,s.size,scr⟩ q2) (zcg ⟨ts,s.size,scr⟩)=zcg ⟨ts,s.size,scr⟩ zgh):=by
      show _=_
      rw[←Ea.out,zbe,zkh,if_pos hp]
     have HP:Hid (z3<0→q2.pos<q3.pos):=fun h=>zmf (zcs g7.out h).1
     clear i3 m3 s3 a0 a1 a2 a3 a4 a5 a6 a7 a8 a9 E0 B0 af
     obtain⟨a0,a1,a2,a3,a4,a5,a6,a7,a8,a9,E0,B0,af⟩:=G4.out.box
     unfold pv
     go_wp2
     go_roundg (gk-1)
     case rel=>exact⟨_,S3,q3,z3,g7.out,HE.out,fun h=>by have:=HP.out h;omega,U0.out.put G4.out _ _ _ _ _ _ _ _ _ _ _ _,zei Q1.out (by omega) _ _ _ _ _ _ _ _ _ _ _ _,G4.out.put _ _ _ _ _ _ _ _ _ _ _ _,(zih (by omega) _ _ _ _ _ _ _ _ _ _ _ _).trans o5.out⟩
     case measure=>omega
    ·have HD:Hid (zcg ⟨ts,s.size,scr⟩ zgh= .ok q2):=by
      show _=_
      rw[←Ea.out,zbe,zkh,if_neg hp]
     have HY:Hid (zfq s scr (.ok q2)):=⟨_,HR.out,HD.out.symm⟩
     have hbw:w1.heap.size<wr.heap.size:=j0.out.lt
     have hlep:=M0.out.inv.ep
     have O0:=M0.out.own.ep
     have Ma:=M0.out.base
     rcases M0.out.own.la.nil_or with ⟨ha,hc,hn⟩|⟨gl,ha⟩
     ·have HN:Hid (q2.la=[]):=List.eq_nil_of_length_eq_zero hn
      rw[ha,hc,hn] at a9
      obtain⟨c0,c1,c2,c3,c4,cf⟩:=zi F6.out
      clear ha hc hn
      go_wp2_with (at_builtin;refine zbkv _ rfl _ _ 50 rfl 121 i0 Tryz.underlying50 hi (w.heap.size+1) 4 q2.ep.length S2.ep _ (by rfl) O0 (by rfl) ?_)
      clear O0
      go_wp2
      refine bodyPost_ret (zl rfl _ _ w.heap.size 54 _ (0,0) _ rfl (put5 ((zj (by omega)).trans F6.out)) Tryz.underlying54 rfl (by o0)) rfl ?_
      refine⟨⟨_,HY.out,S2,by simp[modV,HN.out],M0.out.whole0 HN.out (Nat.lt_succ_self _) j0.out.free fun k h1 h2=>?_⟩,zln (F1.out.setCell (by show _≤w1.heap.size;omega) _) (Nat.le_refl _) _ _ _ _ _⟩
      rw[zj h1,zj h1,zj h1,zj h1,zj h1,zj h2]
     ·have xd:OwnR wr (w.heap.size+1) 121 4 ⟨some ⟨gl,0,none⟩,S2.la.cap⟩ q2.la.length (q2.la.flatMap epL):=by have:=M0.out.own.la;unfold OwnR at this ⊢;rw[ha] at this;exact this
      rw[ha] at a9
      go_wp2_with (at_builtin;refine zbhw _ rfl _ _ 50 rfl (w.heap.size+1) 121 i0 _ 4 56 Tryz.underlying50 hi Q4 V4 N4 rfl (by decide) (by decide) S2.ep q2.ep.length _ (by rfl) O0 gl q2.la.length S2.la.cap (w.heap.size+1) _ (by rfl) xd (ztd _) (by omega) Ma ?_)
      intro r' w3 hr hg U1
      have HRR:=hidI hr
      have r8:=hidI hg
      have J6:=hidI U1
      have J1:=fun b hb=>wpos (W:=wr) M0.out.own (Nat.le_refl _) (r:=S2.ep.blk) (fun k e=>.inr (.inr (.inl e))) b hb
      have G4:Hid (w3.heap[w1.heap.size]? =_):=(hg.block _ hbw (fun e=>j0.out.free (.inr (.inr (.inl e.symm))))).trans j0.out.heap
      have o5:Hid (w3.heap[w.heap.size]? =_):=(hg.block _ (by omega) (fun e=>by have:=(O0.typed e.symm).1;omega)).trans F6.out
      clear a0 a1 a2 a3 a4 a5 a6 a7 a8 a9 E0 B0 af hr hg U1 J1 O0 xd
      obtain⟨a0,a1,a2,a3,a4,a5,a6,a7,a8,a9,E0,B0,af⟩:=zbz G4.out
      obtain⟨c0,c1,c2,c3,c4,cf⟩:=zi o5.out
      go_wp2
      refine bodyPost_ret (zl rfl _ _ w.heap.size 54 _ (0,0) _ rfl (put5 ((zj (by omega)).trans o5.out)) Tryz.underlying54 rfl (by o0)) rfl ?_
      refine⟨⟨_,HY.out,{S2 with ep:=r'},by simp[modV],M0.out.whole r8.out HRR.out J6.out (Nat.lt_succ_self _) hbw j0.out.free fun k h1 h2=>?_⟩,zln ((F1.out.trans (Below.mono (B:=w.heap.size+1) ⟨r8.out.os,r8.out.tape,r8.out.output,r8.out.size,fun k hk=>r8.out.block k (by omega) fun e=>by have:=(M0.out.own.ep.typed e.symm).1;omega⟩ (by omega))).setCell (by show _≤w1.heap.size;omega) _) (Nat.le_refl _) _ _ _ _ _⟩
      rw[zj h1,zj h1,zj h1,zj h1,zj h1,zj h2]
   ·have dz:decide (z2<0)=false:=decide_eq_false hz
    obtain⟨e0,rfl,rfl⟩:=zjf D6.out hz
    have dz2:decide ((0:Int)≤(e0:Int))=true:=decide_eq_true (by omega)
    have HY:Hid (zfq s scr (.error e0)):=⟨_,HR.out,(show (.error e0:PR)=zcg ⟨ts,s.size,scr⟩ zgh from Ea.out)⟩
    obtain⟨c0,c1,c2,c3,c4,cf⟩:=zi F6.out
    go_wp2
    go_region
    all_goals
     go_wp2
     refine bodyPost_ret (zl rfl _ _ w.heap.size 54 _ (0,0) _ rfl (put5 F6.out) Tryz.underlying54 rfl (by o0)) rfl ?_
     exact⟨⟨_,HY.out,rfl⟩,(zln F1.out (Nat.le_refl _) _ _ _ _ _).drew⟩
end Go.Proofs.YtmnemfookpjhiaaGreat
