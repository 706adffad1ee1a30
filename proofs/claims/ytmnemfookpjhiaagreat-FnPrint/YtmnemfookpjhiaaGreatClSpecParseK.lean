/-
 What spec's l4Let and l4Fn answer: the walks.
-/
import Derived.Test.YtmnemfookpjhiaaGreatClSpecRowToSpecParseJ
namespace Go.Proofs.YtmnemfookpjhiaaGreat
set_option maxRecDepth 100000
set_option maxHeartbeats 6400000
open Go.RowKit Go.PlainAid
theorem Is2.withN {y:PRN} {q q':PS} {z z':Int} {n:ByteArray} {F:PR→ByteArray→PR} (h:Is2 y q z n) (hF: ∀e n,F (.error e) n= .error e) (h':Is (F (fstP y) n) q' z'):Is2 (withN y F) q' z' n:=by
 cases y with
 |ok a=>
  obtain⟨_,_,rfl⟩:=h
  have e:fstP (.ok a)= .ok a.1:=rfl
  rw[e] at h'
  show Is2 (bd (F (.ok a.1) a.2) fun q=>.ok (q,a.2)) q' z' a.2
  cases hr:F (.ok a.1) a.2 with
  |ok b=>rw[hr] at h';exact⟨h'.1,h'.2,rfl⟩
  |error e=>rw[hr] at h';exact h'
 |error e=>
  have e1:fstP (.error e)= .error e:=rfl
  rw[e1,hF] at h'
  exact h'
theorem zul {C:Cx} {gt cap base:Nat} {y:PRN} {d:Nat} {S S':Sv} {w w':World} {q':PS} {z':Int} {n':ByteArray} {v:Value} (hv:v=pv C gt cap S' q' z' d) (hi:Is2 y q' z' n') (hm:Mem C gt cap base S' q' w') (hs:SB w.heap.size S w S' w'):Out2 C gt cap base y d S w (.returned (.tuple #[v,.string n'])) w':=
 ⟨S',q',z',n',by rw[hv],hi,hm,hs.done⟩
theorem znr (C:Cx) (gt cap base:Nat) (S:Sv) (q:PS) (w:World) (hm:Mem C gt cap base S q w):
  Calls Tryz.prog 122 #[pv C gt cap S q (-1) 0] w (Out2 C gt cap base (letP C q) 0 S w):=by
 have HM:=hidI hm
 clear hm
 unfold pv
 go_enter Tryz.func122,Tryz.ntmps122
 go_wp2_with f0
 refine (zbh C gt cap base (.ok q) S q (-1) 0 sLet _ (zby q) ((HM.out.alloc _).alloc _)).mono ?_
 rintro e w1 ⟨S1,q1,z1,rfl,i1,m1,s1⟩
 obtain⟨X0,X1,t1⟩:=HM.out.two2 s1
 have j0:=hidI X0
 have n0:=hidI X1
 have Q0:=hidI m1
 have N1:=hidI t1
 have L6:=hidI i1
 clear X0 X1 i1 m1 t1 s1
 go_wp2_with f0
 refine (zcb C gt cap base _ S1 q1 z1 0 false _ L6.out Q0.out).mono ?_
 rintro e w2 ⟨S2,q2,z2,n2,rfl,i2,m2,s2⟩
 replace j0:=hidI (j0.out.stp s2)
 replace n0:=hidI (n0.out.stp s2)
 have F1:=hidI (N1.out.step s2)
 clear N1
 have M0:=hidI m2
 have D6:=hidI i2
 clear i2 m2 s2 Q0
 have u5:w.heap.size+1<w2.heap.size:=n0.out.lt
 unfold pv
 go_wp2_with f0
 refine (zq C gt cap base _ S2 q2 z2 0 cEq _ D6.out.fst (M0.out.alloc _)).mono ?_
 rintro e w3 ⟨S3,q3,z3,rfl,i3,m3,s3⟩
 replace j0:=hidI ((j0.out.alloc _).stp s3)
 replace n0:=hidI ((n0.out.alloc _).stp s3)
 replace G0:=hidI ((Bx.new M0.out _).stp s3)
 have Q1:Hid (SB w.heap.size S w S3 w3):=(F1.out.alloc _).step s3
 clear F1
 have U0:=hidI m3
 have g7:=hidI i3
 clear i3 m3 s3 M0
 go_wp2_with f0
 refine (zfc C gt cap base _ S3 q3 z3 _ g7.out U0.out).mono ?_
 rintro e w4 ⟨S4,q4,z4,rfl,i4,m4,s4⟩
 replace j0:=hidI (j0.out.stp s4)
 replace n0:=hidI (n0.out.stp s4)
 replace G0:=hidI (G0.out.stp s4)
 have F2:=hidI (Q1.out.step s4)
 clear Q1
 have V1:=hidI m4
 have L7:=hidI i4
 clear i4 m4 s4 U0
 go_wp2_with f0
 refine (zq C gt cap base _ S4 q4 z4 0 cSemi _ L7.out V1.out).mono ?_
 rintro e w5 ⟨S5,q5,z5,rfl,i5,m5,s5⟩
 replace j0:=hidI (j0.out.stp s5)
 replace n0:=hidI (n0.out.stp s5)
 replace G0:=hidI (G0.out.stp s5)
 have P2:=hidI (F2.out.step s5)
 clear F2
 have Z1:=hidI m5
 have T7:=hidI i5
 clear i5 m5 s5 V1
 obtain⟨c0,c1,c2,c3,c4,c5,c6,c7,c8,c9,c10,c11,cf⟩:=G0.out.box
 unfold pv
 go_upto_region 3 with f0
 refine zo (R:=fun W=>Bx gt S5 W (w.heap.size) _∧Bx gt S5 W (w.heap.size+1) _∧Bx gt S5 W (w2.heap.size) _∧Mem C gt cap base S5 q5 W∧SB w.heap.size S w S5 W) ⟨(j0.out.other (by omega) _ _ _ _ _ _ _ _ _ _ _ _),(n0.out.other (by omega) _ _ _ _ _ _ _ _ _ _ _ _),(G0.out.put _ _ _ _ _ _ _ _ _ _ _ _),(Z1.out.put G0.out _ _ _ _ _ _ _ _ _ _ _ _),(P2.out.put (by omega) _ _ _ _ _ _ _ _ _ _ _ _)⟩ ?_
 clear c0 c1 c2 c3 c4 c5 c6 c7 c8 c9 c10 c11 cf
 clear j0 n0 G0 P2 Z1
 rintro w6 ⟨X0,X1,X2,m6,t6⟩
 have j0:=hidI X0
 have n0:=hidI X1
 have G0:=hidI X2
 have j2:=hidI m6
 have J2:=hidI t6
 clear m6 t6 X0 X1 X2
 obtain⟨c0,c1,c2,c3,c4,c5,c6,c7,c8,c9,c10,c11,cf⟩:=G0.out.box
 go_wp2_with f0
 refine (zed C gt cap base _ S5 q5 z5 0 1 n2 _ T7.out j2.out (zdi T7.out)).mono ?_
 rintro e w7 ⟨S7,q7,z7,rfl,i7,m7,s7⟩
 replace j0:=hidI (j0.out.stp s7)
 replace n0:=hidI (n0.out.stp s7)
 replace G0:=hidI (G0.out.stp s7)
 have P3:=hidI (J2.out.step s7)
 clear J2
 have N2:=hidI m7
 have Z5:=hidI i7
 clear i7 m7 s7 j2
 clear c0 c1 c2 c3 c4 c5 c6 c7 c8 c9 c10 c11 cf
 obtain⟨b0,b1,b2,b3,b4,b5,b6,b7,b8,b9,Z4,j5,bf⟩:=n0.out.box
 unfold pv
 go_wp2
 refine bodyPost_ret (zl rfl _ _ (w.heap.size+1) 100 _ (0,0) _ rfl ((n0.out.put _ _ _ _ _ _ _ _ _ _ _ _)).heap Tryz.underlying100 rfl (by o0)) rfl ?_
 exact zul rfl (D6.out.withN (F:=fun x n=>_) (fun _ _=>rfl) Z5.out) (N2.out.put n0.out _ _ _ _ _ _ _ _ _ _ _ _) (P3.out.put (by omega) _ _ _ _ _ _ _ _ _ _ _ _)
theorem zoz (C:Cx) (gt cap base:Nat) (S:Sv) (q:PS) (w:World) (hm:Mem C gt cap base S q w):
  Calls Tryz.prog 123 #[pv C gt cap S q (-1) 0] w (Out2 C gt cap base (fnP C q) 0 S w):=by
 have HM:=hidI hm
 clear hm
 unfold pv
 go_enter Tryz.func123,Tryz.ntmps123
 go_wp2_with f0
 refine (zbh C gt cap base (.ok q) S q (-1) 0 zr _ (zby q) ((HM.out.alloc _).alloc _)).mono ?_
 rintro e w1 ⟨S1,q1,z1,rfl,i1,m1,s1⟩
 obtain⟨X0,X1,t1⟩:=HM.out.two2 s1
 have j0:=hidI X0
 have n0:=hidI X1
 have Q0:=hidI m1
 have N1:=hidI t1
 have L6:=hidI i1
 clear X0 X1 i1 m1 t1 s1
 go_wp2_with f0
 refine (zcb C gt cap base _ S1 q1 z1 0 false _ L6.out Q0.out).mono ?_
 rintro e w2 ⟨S2,q2,z2,n2,rfl,i2,m2,s2⟩
 replace j0:=hidI (j0.out.stp s2)
 replace n0:=hidI (n0.out.stp s2)
 have F1:=hidI (N1.out.step s2)
 clear N1
 have M0:=hidI m2
 have D6:=hidI i2
 clear i2 m2 s2 Q0
 have u5:w.heap.size+1<w2.heap.size:=n0.out.lt
 unfold pv
 go_wp2_with f0
 refine (zq C gt cap base _ S2 q2 z2 0 zt _ D6.out.fst (M0.out.alloc _)).mono ?_
 rintro e w3 ⟨S3,q3,z3,rfl,i3,m3,s3⟩
 replace j0:=hidI ((j0.out.alloc _).stp s3)
 replace n0:=hidI ((n0.out.alloc _).stp s3)
 replace G0:=hidI ((Bx.new M0.out _).stp s3)
 have Q1:Hid (SB w.heap.size S w S3 w3):=(F1.out.alloc _).step s3
 clear F1
 have U0:=hidI m3
 have g7:=hidI i3
 clear i3 m3 s3 M0
 go_wp2_with f0
 refine (zq C gt cap base _ S3 q3 z3 0 zcz _ g7.out U0.out).mono ?_
 rintro e w4 ⟨S4,q4,z4,rfl,i4,m4,s4⟩
 replace j0:=hidI (j0.out.stp s4)
 replace n0:=hidI (n0.out.stp s4)
 replace G0:=hidI (G0.out.stp s4)
 have F2:=hidI (Q1.out.step s4)
 clear Q1
 have V1:=hidI m4
 have L7:=hidI i4
 clear i4 m4 s4 U0
 go_wp2_with f0
 refine (zq C gt cap base _ S4 q4 z4 0 zbo _ L7.out V1.out).mono ?_
 rintro e w5 ⟨S5,q5,z5,rfl,i5,m5,s5⟩
 replace j0:=hidI (j0.out.stp s5)
 replace n0:=hidI (n0.out.stp s5)
 replace G0:=hidI (G0.out.stp s5)
 have P2:=hidI (F2.out.step s5)
 clear F2
 have Z1:=hidI m5
 have T7:=hidI i5
 clear i5 m5 s5 V1
 obtain⟨c0,c1,c2,c3,c4,c5,c6,c7,c8,c9,c10,c11,cf⟩:=G0.out.box
 unfold pv
 go_upto_region 3 with f0
 refine zo (R:=fun W=>Bx gt S5 W (w.heap.size) _∧Bx gt S5 W (w.heap.size+1) _∧Bx gt S5 W (w2.heap.size) _∧Mem C gt cap base S5 q5 W∧SB w.heap.size S w S5 W) ⟨(j0.out.other (by omega) _ _ _ _ _ _ _ _ _ _ _ _),(n0.out.other (by omega) _ _ _ _ _ _ _ _ _ _ _ _),(G0.out.put _ _ _ _ _ _ _ _ _ _ _ _),(Z1.out.put G0.out _ _ _ _ _ _ _ _ _ _ _ _),(P2.out.put (by omega) _ _ _ _ _ _ _ _ _ _ _ _)⟩ ?_
 clear c0 c1 c2 c3 c4 c5 c6 c7 c8 c9 c10 c11 cf
 clear j0 n0 G0 P2 Z1
 rintro w6 ⟨X0,X1,X2,m6,t6⟩
 have j0:=hidI X0
 have n0:=hidI X1
 have G0:=hidI X2
 have j2:=hidI m6
 have J2:=hidI t6
 clear m6 t6 X0 X1 X2
 obtain⟨c0,c1,c2,c3,c4,c5,c6,c7,c8,c9,c10,c11,cf⟩:=G0.out.box
 go_wp2_with f0
 refine (zbh C gt cap base _ S5 q5 z5 0 zli _ T7.out j2.out).mono ?_
 rintro e w7 ⟨S7,q7,z7,rfl,i7,m7,s7⟩
 replace j0:=hidI (j0.out.stp s7)
 replace n0:=hidI (n0.out.stp s7)
 replace G0:=hidI (G0.out.stp s7)
 have P3:=hidI (J2.out.step s7)
 clear J2
 have N2:=hidI m7
 have Z5:=hidI i7
 clear i7 m7 s7 j2
 clear c0 c1 c2 c3 c4 c5 c6 c7 c8 c9 c10 c11 cf
 go_wp2_with f0
 refine (zfc C gt cap base _ S7 q7 z7 _ Z5.out N2.out).mono ?_
 rintro e w8 ⟨S8,q8,z8,rfl,i8,m8,s8⟩
 replace j0:=hidI (j0.out.stp s8)
 replace n0:=hidI (n0.out.stp s8)
 replace G0:=hidI (G0.out.stp s8)
 have J4:=hidI (P3.out.step s8)
 clear P3
 have H4:=hidI m8
 have H7:=hidI i8
 clear i8 m8 s8 N2
 obtain⟨c0,c1,c2,c3,c4,c5,c6,c7,c8,c9,c10,c11,cf⟩:=G0.out.box
 unfold pv
 go_upto_region 4 with f0
 refine zo (R:=fun W=>Bx gt S8 W (w.heap.size) _∧Bx gt S8 W (w.heap.size+1) _∧Bx gt S8 W (w2.heap.size) _∧Mem C gt cap base S8 q8 W∧SB w.heap.size S w S8 W) ⟨(j0.out.other (by omega) _ _ _ _ _ _ _ _ _ _ _ _),(n0.out.other (by omega) _ _ _ _ _ _ _ _ _ _ _ _),(G0.out.put _ _ _ _ _ _ _ _ _ _ _ _),(H4.out.put G0.out _ _ _ _ _ _ _ _ _ _ _ _),(J4.out.put (by omega) _ _ _ _ _ _ _ _ _ _ _ _)⟩ ?_
 clear c0 c1 c2 c3 c4 c5 c6 c7 c8 c9 c10 c11 cf
 clear j0 n0 G0 J4 H4
 rintro w9 ⟨X0,X1,X2,m9,t9⟩
 have j0:=hidI X0
 have n0:=hidI X1
 have G0:=hidI X2
 have G5:=hidI m9
 have J5:=hidI t9
 clear m9 t9 X0 X1 X2
 obtain⟨c0,c1,c2,c3,c4,c5,c6,c7,c8,c9,c10,c11,cf⟩:=G0.out.box
 go_wp2_with f0
 refine (zq C gt cap base _ S8 q8 z8 0 cSemi _ H7.out G5.out).mono ?_
 rintro e G8 ⟨Q6,X8,r9,rfl,N6,V5,U3⟩
 replace j0:=hidI (j0.out.stp U3)
 replace n0:=hidI (n0.out.stp U3)
 replace G0:=hidI (G0.out.stp U3)
 have l6:=hidI (J5.out.step U3)
 clear J5
 have A5:=hidI V5
 have A6:=hidI N6
 clear N6 V5 U3 G5
 clear c0 c1 c2 c3 c4 c5 c6 c7 c8 c9 c10 c11 cf
 go_wp2_with f0
 refine (zq C gt cap base _ Q6 X8 r9 0 zef _ A6.out A5.out).mono ?_
 rintro e Ld ⟨ob,Dc,Qc,rfl,ta,u9,o7⟩
 replace j0:=hidI (j0.out.stp o7)
 replace n0:=hidI (n0.out.stp o7)
 replace G0:=hidI (G0.out.stp o7)
 have p8:=hidI (l6.out.step o7)
 clear l6
 have o8:=hidI u9
 have P9:=hidI ta
 clear ta u9 o7 A5
 obtain⟨c0,c1,c2,c3,c4,c5,c6,c7,c8,c9,c10,c11,cf⟩:=G0.out.box
 unfold pv
 go_upto_region 5 with f0
 refine zo (R:=fun W=>Bx gt ob W (w.heap.size) _∧Bx gt ob W (w.heap.size+1) _∧Bx gt ob W (w2.heap.size) _∧Mem C gt cap base ob Dc W∧SB w.heap.size S w ob W) ⟨(j0.out.other (by omega) _ _ _ _ _ _ _ _ _ _ _ _),(n0.out.other (by omega) _ _ _ _ _ _ _ _ _ _ _ _),(G0.out.put _ _ _ _ _ _ _ _ _ _ _ _),(o8.out.put G0.out _ _ _ _ _ _ _ _ _ _ _ _),(p8.out.put (by omega) _ _ _ _ _ _ _ _ _ _ _ _)⟩ ?_
 clear c0 c1 c2 c3 c4 c5 c6 c7 c8 c9 c10 c11 cf
 clear j0 n0 G0 p8 o8
 rintro w12 ⟨X0,X1,X2,Bb,t12⟩
 have j0:=hidI X0
 have n0:=hidI X1
 have G0:=hidI X2
 have Va:=hidI Bb
 have Qa:=hidI t12
 clear Bb t12 X0 X1 X2
 obtain⟨c0,c1,c2,c3,c4,c5,c6,c7,c8,c9,c10,c11,cf⟩:=G0.out.box
 go_wp2_with f0
 refine (zed C gt cap base _ ob Dc Qc 0 2 n2 _ P9.out Va.out (zdi P9.out)).mono ?_
 rintro e w13 ⟨S13,q13,z13,rfl,mf,Ye,Qb⟩
 replace j0:=hidI (j0.out.stp Qb)
 replace n0:=hidI (n0.out.stp Qb)
 replace G0:=hidI (G0.out.stp Qb)
 have Ff:=hidI (Qa.out.step Qb)
 clear Qa
 have Jf:=hidI Ye
 have Lf:=hidI mf
 clear mf Ye Qb Va
 clear c0 c1 c2 c3 c4 c5 c6 c7 c8 c9 c10 c11 cf
 obtain⟨b0,b1,b2,b3,b4,b5,b6,b7,b8,b9,Z4,j5,bf⟩:=n0.out.box
 unfold pv
 go_wp2
 refine bodyPost_ret (zl rfl _ _ (w.heap.size+1) 100 _ (0,0) _ rfl ((n0.out.put _ _ _ _ _ _ _ _ _ _ _ _)).heap Tryz.underlying100 rfl (by o0)) rfl ?_
 exact zul rfl (D6.out.withN (F:=fun x n=>_) (fun _ _=>rfl) Lf.out) (Jf.out.put n0.out _ _ _ _ _ _ _ _ _ _ _ _) (Ff.out.put (by omega) _ _ _ _ _ _ _ _ _ _ _ _)
end Go.Proofs.YtmnemfookpjhiaaGreat