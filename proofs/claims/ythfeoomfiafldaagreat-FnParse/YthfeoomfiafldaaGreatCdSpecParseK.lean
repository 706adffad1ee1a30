/-
 What spec's l4Let and l4Fn answer: the walks.
-/
import Derived.Test.YthfeoomfiafldaaGreatCdSpecRowToSpecParseJ
namespace Go.Proofs.YthfeoomfiafldaaGreat
set_option maxRecDepth 100000
set_option maxHeartbeats 6400000
open Go.RowKit Go.PlainAid
theorem Is2.withN {y:PRN} {q q':PS} {z z':Int} {n:ByteArray} {F:PR→ByteArray→PR} (h:Is2 y q z n) (D: ∀e n,F (.error e) n= .error e) (j:Is (F (za7 y) n) q' z'):Is2 (withN y F) q' z' n:=by
 cases y with
 |ok a=>
  obtain⟨_,_,rfl⟩:=h
  have e:za7 (.ok a)= .ok a.1:=rfl
  rw[e] at j
  show Is2 (bd (F (.ok a.1) a.2) fun q=>.ok (q,a.2)) q' z' a.2
  cases o:F (.ok a.1) a.2 with
  |ok b=>rw[o] at j;exact⟨j.1,j.2,rfl⟩
  |error e=>rw[o] at j;exact j
 |error e=>
  have E:za7 (.error e)= .error e:=rfl
  rw[E,D] at j
  exact j
theorem zmF {C:Cx} {H o j:Nat} {y:PRN} {d:Nat} {S z:Sv} {w E:World} {q':PS} {z':Int} {D:ByteArray} {v:Value} (J:v=pv C H o z q' z' d) (L:Is2 y q' z' D) (I:Mem C H o j z q' E) (K:SB w.heap.size S w z E):zdN C H o j y d S w (.returned (.tuple #[v,.string D])) E:=
 ⟨z,q',z',D,by rw[J],L,I,K.done⟩
theorem zji (C:Cx) (H E o:Nat) (S:Sv) (q:PS) (w:World) (hm:Mem C H E o S q w):
  Calls Tryz.prog 50 #[pv C H E S q (-1) 0] w (zdN C H E o (zbA C q) 0 S w):=by
 have HM:=zc hm
 clear hm
 unfold pv
 go_enter Tryz.func50,Tryz.ntmps50
 go_wp2_with fail
 refine (zaT C H E o (.ok q) S q (-1) 0 sLet _ (zab q) ((HM.out.alloc _).alloc _)).mono ?_
 rintro e w1 ⟨S1,q1,z1,rfl,i1,m1,s1⟩
 obtain⟨M,X1,t1⟩:=HM.out.two2 s1
 have z:=zc M
 have j:=zc X1
 have Y:=zc m1
 have ac:=zc t1
 have al:=zc i1
 clear M X1 i1 m1 t1 s1
 go_wp2_with fail
 refine (zbz C H E o _ S1 q1 z1 0 false _ al.out Y.out).mono ?_
 rintro e w2 ⟨S2,q2,z2,n2,rfl,i2,m2,s2⟩
 replace z:=zc (z.out.stp s2)
 replace j:=zc (j.out.stp s2)
 have Z:=zc (ac.out.step s2)
 clear ac
 have I:=zc m2
 have N:=zc i2
 clear i2 m2 s2 Y
 have ap:w.heap.size+1<w2.heap.size:=j.out.lt
 unfold pv
 go_wp2_with fail
 refine (zah C H E o _ S2 q2 z2 0 cEq _ N.out.fst (I.out.alloc _)).mono ?_
 rintro e w3 ⟨S3,q3,z3,rfl,i3,m3,O⟩
 replace z:=zc ((z.out.alloc _).stp O)
 replace j:=zc ((j.out.alloc _).stp O)
 replace D:=zc ((Bx.new I.out _).stp O)
 have ag:Hid (SB w.heap.size S w S3 w3):=(Z.out.alloc _).step O
 clear Z
 have ae:=zc m3
 have ao:=zc i3
 clear i3 m3 O I
 go_wp2_with fail
 refine (zdp C H E o _ S3 q3 z3 _ ao.out ae.out).mono ?_
 rintro e w4 ⟨S4,q4,z4,rfl,i4,m4,U⟩
 replace z:=zc (z.out.stp U)
 replace j:=zc (j.out.stp U)
 replace D:=zc (D.out.stp U)
 have ai:=zc (ag.out.step U)
 clear ag
 have ah:=zc m4
 have an:=zc i4
 clear i4 m4 U ae
 go_wp2_with fail
 refine (zah C H E o _ S4 q4 z4 0 cSemi _ an.out ah.out).mono ?_
 rintro e w5 ⟨L,q5,z5,rfl,i5,m5,Q⟩
 replace z:=zc (z.out.stp Q)
 replace j:=zc (j.out.stp Q)
 replace D:=zc (D.out.stp Q)
 have af:=zc (ai.out.step Q)
 clear ai
 have aa:=zc m5
 have ad:=zc i5
 clear i5 m5 Q ah
 obtain⟨c0,c1,c2,c3,c4,c5,c6,c7,c8,c9,K,J,cf⟩:=D.out.box
 unfold pv
 go_upto_region 3 with fail
 refine zQ (R:=fun W=>Bx H L W (w.heap.size) _∧Bx H L W (w.heap.size+1) _∧Bx H L W (w2.heap.size) _∧Mem C H E o L q5 W∧SB w.heap.size S w L W) ⟨(z.out.other (by omega) ..),(j.out.other (by omega) ..),(D.out.put ..),(aa.out.put D.out ..),(af.out.put (by omega) ..)⟩ ?_
 clear c0 c1 c2 c3 c4 c5 c6 c7 c8 c9 K J cf
 clear z j D af aa
 rintro w6 ⟨M,X1,X2,m6,t6⟩
 have z:=zc M
 have j:=zc X1
 have D:=zc X2
 have ab:=zc m6
 have V:=zc t6
 clear m6 t6 M X1 X2
 obtain⟨c0,c1,c2,c3,c4,c5,c6,c7,c8,c9,K,J,cf⟩:=D.out.box
 go_wp2_with fail
 refine (zcY C H E o _ L q5 z5 0 1 n2 _ ad.out ab.out (zb5 ad.out)).mono ?_
 rintro e w7 ⟨S7,q7,z7,rfl,i7,m7,X⟩
 replace z:=zc (z.out.stp X)
 replace j:=zc (j.out.stp X)
 replace D:=zc (D.out.stp X)
 have aj:=zc (V.out.step X)
 clear V
 have ak:=zc m7
 have am:=zc i7
 clear i7 m7 X ab
 clear c0 c1 c2 c3 c4 c5 c6 c7 c8 c9 K J cf
 obtain⟨b0,b1,b2,b3,b4,b5,b6,b7,b8,b9,ar,aq,bf⟩:=j.out.box
 unfold pv
 go_wp2
 refine bodyPost_ret (zaK rfl _ _ (w.heap.size+1) 55 _ (0,0) _ rfl ((j.out.put ..)).heap Tryz.underlying55 rfl (by kernel_rfl)) rfl ?_
 exact zmF rfl (N.out.withN (F:=fun x n=>_) (fun _ _=>rfl) am.out) (ak.out.put j.out ..) (aj.out.put (by omega) ..)
theorem zjj (C:Cx) (H E D:Nat) (S:Sv) (q:PS) (w:World) (hm:Mem C H E D S q w):
  Calls Tryz.prog 51 #[pv C H E S q (-1) 0] w (zdN C H E D (fnP C q) 0 S w):=by
 have HM:=zc hm
 clear hm
 unfold pv
 go_enter Tryz.func51,Tryz.ntmps51
 go_wp2_with fail
 refine (zaT C H E D (.ok q) S q (-1) 0 sFunction _ (zab q) ((HM.out.alloc _).alloc _)).mono ?_
 rintro e w1 ⟨S1,q1,z1,rfl,i1,m1,s1⟩
 obtain⟨L,Q,t1⟩:=HM.out.two2 s1
 have z:=zc L
 have o:=zc Q
 have ap:=zc m1
 have ay:=zc t1
 have aT:=zc i1
 clear L Q i1 m1 t1 s1
 go_wp2_with fail
 refine (zbz C H E D _ S1 q1 z1 0 false _ aT.out ap.out).mono ?_
 rintro e w2 ⟨S2,q2,z2,n2,rfl,i2,m2,s2⟩
 replace z:=zc (z.out.stp s2)
 replace o:=zc (o.out.stp s2)
 have aq:=zc (ay.out.step s2)
 clear ay
 have aj:=zc m2
 have al:=zc i2
 clear i2 m2 s2 ap
 have a1:w.heap.size+1<w2.heap.size:=o.out.lt
 unfold pv
 go_wp2_with fail
 refine (zah C H E D _ S2 q2 z2 0 cOpen _ al.out.fst (aj.out.alloc _)).mono ?_
 rintro e w3 ⟨S3,q3,z3,rfl,i3,m3,s3⟩
 replace z:=zc ((z.out.alloc _).stp s3)
 replace o:=zc ((o.out.alloc _).stp s3)
 replace j:=zc ((Bx.new aj.out _).stp s3)
 have aH:Hid (SB w.heap.size S w S3 w3):=(aq.out.alloc _).step s3
 clear aq
 have aE:=zc m3
 have aZ:=zc i3
 clear i3 m3 s3 aj
 go_wp2_with fail
 refine (zah C H E D _ S3 q3 z3 0 zU _ aZ.out aE.out).mono ?_
 rintro e w4 ⟨S4,q4,z4,rfl,i4,m4,s4⟩
 replace z:=zc (z.out.stp s4)
 replace o:=zc (o.out.stp s4)
 replace j:=zc (j.out.stp s4)
 have aL:=zc (aH.out.step s4)
 clear aH
 have aJ:=zc m4
 have aY:=zc i4
 clear i4 m4 s4 aE
 go_wp2_with fail
 refine (zah C H E D _ S4 q4 z4 0 zF _ aY.out aJ.out).mono ?_
 rintro e w5 ⟨S5,q5,z5,rfl,i5,m5,s5⟩
 replace z:=zc (z.out.stp s5)
 replace o:=zc (o.out.stp s5)
 replace j:=zc (j.out.stp s5)
 have aG:=zc (aL.out.step s5)
 clear aL
 have au:=zc m5
 have aW:=zc i5
 clear i5 m5 s5 aJ
 obtain⟨c0,U,Y,X,O,c5,Z,c7,M,N,J,I,cf⟩:=j.out.box
 unfold pv
 go_upto_region 3 with fail
 refine zQ (R:=fun W=>Bx H S5 W (w.heap.size) _∧Bx H S5 W (w.heap.size+1) _∧Bx H S5 W (w2.heap.size) _∧Mem C H E D S5 q5 W∧SB w.heap.size S w S5 W) ⟨(z.out.other (by omega) ..),(o.out.other (by omega) ..),(j.out.put ..),(au.out.put j.out ..),(aG.out.put (by omega) ..)⟩ ?_
 clear c0 U Y X O c5 Z c7 M N J I cf
 clear z o j aG au
 rintro w6 ⟨L,Q,X2,m6,t6⟩
 have z:=zc L
 have o:=zc Q
 have j:=zc X2
 have ax:=zc m6
 have ao:=zc t6
 clear m6 t6 L Q X2
 obtain⟨c0,U,Y,X,O,c5,Z,c7,M,N,J,I,cf⟩:=j.out.box
 go_wp2_with fail
 refine (zaT C H E D _ S5 q5 z5 0 zdw _ aW.out ax.out).mono ?_
 rintro e w7 ⟨S7,q7,z7,rfl,i7,m7,s7⟩
 replace z:=zc (z.out.stp s7)
 replace o:=zc (o.out.stp s7)
 replace j:=zc (j.out.stp s7)
 have am:=zc (ao.out.step s7)
 clear ao
 have aw:=zc m7
 have aX:=zc i7
 clear i7 m7 s7 ax
 clear c0 U Y X O c5 Z c7 M N J I cf
 go_wp2_with fail
 refine (zdp C H E D _ S7 q7 z7 _ aX.out aw.out).mono ?_
 rintro e w8 ⟨S8,q8,z8,rfl,i8,m8,s8⟩
 replace z:=zc (z.out.stp s8)
 replace o:=zc (o.out.stp s8)
 replace j:=zc (j.out.stp s8)
 have aP:=zc (am.out.step s8)
 clear am
 have az:=zc m8
 have aU:=zc i8
 clear i8 m8 s8 aw
 obtain⟨c0,U,Y,X,O,c5,Z,c7,M,N,J,I,cf⟩:=j.out.box
 unfold pv
 go_upto_region 4 with fail
 refine zQ (R:=fun W=>Bx H S8 W (w.heap.size) _∧Bx H S8 W (w.heap.size+1) _∧Bx H S8 W (w2.heap.size) _∧Mem C H E D S8 q8 W∧SB w.heap.size S w S8 W) ⟨(z.out.other (by omega) ..),(o.out.other (by omega) ..),(j.out.put ..),(az.out.put j.out ..),(aP.out.put (by omega) ..)⟩ ?_
 clear c0 U Y X O c5 Z c7 M N J I cf
 clear z o j aP az
 rintro w9 ⟨L,Q,X2,m9,t9⟩
 have z:=zc L
 have o:=zc Q
 have j:=zc X2
 have aQ:=zc m9
 have aN:=zc t9
 clear m9 t9 L Q X2
 obtain⟨c0,U,Y,X,O,c5,Z,c7,M,N,J,I,cf⟩:=j.out.box
 go_wp2_with fail
 refine (zah C H E D _ S8 q8 z8 0 cSemi _ aU.out aQ.out).mono ?_
 rintro e a4 ⟨aS,a0,aR,rfl,aA,ak,aa⟩
 replace z:=zc (z.out.stp aa)
 replace o:=zc (o.out.stp aa)
 replace j:=zc (j.out.stp aa)
 have ad:=zc (aN.out.step aa)
 clear aN
 have af:=zc ak
 have an:=zc aA
 clear aA ak aa aQ
 clear c0 U Y X O c5 Z c7 M N J I cf
 go_wp2_with fail
 refine (zah C H E D _ aS a0 aR 0 zaJ _ an.out af.out).mono ?_
 rintro e a5 ⟨K,aM,aV,rfl,aK,ar,ab⟩
 replace z:=zc (z.out.stp ab)
 replace o:=zc (o.out.stp ab)
 replace j:=zc (j.out.stp ab)
 have ae:=zc (ad.out.step ab)
 clear ad
 have ai:=zc ar
 have ah:=zc aK
 clear aK ar ab af
 obtain⟨c0,U,Y,X,O,c5,Z,c7,M,N,J,I,cf⟩:=j.out.box
 unfold pv
 go_upto_region 5 with fail
 refine zQ (R:=fun W=>Bx H K W (w.heap.size) _∧Bx H K W (w.heap.size+1) _∧Bx H K W (w2.heap.size) _∧Mem C H E D K aM W∧SB w.heap.size S w K W) ⟨(z.out.other (by omega) ..),(o.out.other (by omega) ..),(j.out.put ..),(ai.out.put j.out ..),(ae.out.put (by omega) ..)⟩ ?_
 clear c0 U Y X O c5 Z c7 M N J I cf
 clear z o j ae ai
 rintro a2 ⟨L,Q,X2,aD,aF⟩
 have z:=zc L
 have o:=zc Q
 have j:=zc X2
 have ac:=zc aD
 have ag:=zc aF
 clear aD aF L Q X2
 obtain⟨c0,U,Y,X,O,c5,Z,c7,M,N,J,I,cf⟩:=j.out.box
 go_wp2_with fail
 refine (zcY C H E D _ K aM aV 0 2 n2 _ ah.out ac.out (zb5 ah.out)).mono ?_
 rintro e ba ⟨a3,a9,a7,rfl,av,aC,V⟩
 replace z:=zc (z.out.stp V)
 replace o:=zc (o.out.stp V)
 replace j:=zc (j.out.stp V)
 have aI:=zc (ag.out.step V)
 clear ag
 have aO:=zc aC
 have aB:=zc av
 clear av aC V ac
 clear c0 U Y X O c5 Z c7 M N J I cf
 obtain⟨b0,b1,b2,b3,b4,b5,b6,b7,b8,b9,a8,a6,bf⟩:=o.out.box
 unfold pv
 go_wp2
 refine bodyPost_ret (zaK rfl _ _ (w.heap.size+1) 55 _ (0,0) _ rfl ((o.out.put ..)).heap Tryz.underlying55 rfl (by kernel_rfl)) rfl ?_
 exact zmF rfl (al.out.withN (F:=fun x n=>_) (fun _ _=>rfl) aB.out) (aO.out.put o.out ..) (aI.out.put (by omega) ..)
end Go.Proofs.YthfeoomfiafldaaGreat