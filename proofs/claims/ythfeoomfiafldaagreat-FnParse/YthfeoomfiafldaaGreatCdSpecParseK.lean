/-
 What spec's l4Let and l4Fn answer: the walks.
-/
import Derived.Test.YthfeoomfiafldaaGreatCdSpecRowToSpecParseJ
namespace Go.Proofs.YthfeoomfiafldaaGreat
set_option maxRecDepth 100000
set_option maxHeartbeats 6400000
open Go.RowKit Go.PlainAid
theorem Is2.withN {y:PRN} {q q':PS} {z z':Int} {n:ByteArray} {F:PR→ByteArray→PR} (h:Is2 y q z n) (E: ∀e n,F (.error e) n= .error e) (j:Is (F (za7 y) n) q' z'):Is2 (withN y F) q' z' n:=by
 cases y with
 |ok a=>
  obtain⟨_,_,rfl⟩:=h
  have e:za7 (.ok a)= .ok a.1:=rfl
  rw[e] at j
  show Is2 (bd (F (.ok a.1) a.2) fun q=>.ok (q,a.2)) q' z' a.2
  cases o:F (.ok a.1) a.2 with
  |ok b=>rw[o] at j;exact⟨j.1,j.2,rfl⟩
  |error e=>rw[o] at j;exact j
 |error e=>
  have D:za7 (.error e)= .error e:=rfl
  rw[D,E] at j
  exact j
theorem zmF {C:Cx} {E o j:Nat} {y:PRN} {d:Nat} {S z:Sv} {w D:World} {q':PS} {z':Int} {H:ByteArray} {v:Value} (J:v=pv C E o z q' z' d) (K:Is2 y q' z' H) (I:Mem C E o j z q' D) (L:SB w.heap.size S w z D):zdN C E o j y d S w (.returned (.tuple #[v,.string H])) D:=
 ⟨z,q',z',H,by rw[J],K,I,L.done⟩
theorem zji (C:Cx) (H E o:Nat) (S:Sv) (q:PS) (w:World) (hm:Mem C H E o S q w):
  Calls Tryz.prog 50 #[pv C H E S q (-1) 0] w (zdN C H E o (zbA C q) 0 S w):=by
 have HM:=zc hm
 clear hm
 unfold pv
 go_enter Tryz.func50,Tryz.ntmps50
 go_wp2_with fail
 refine (zaT C H E o (.ok q) S q (-1) 0 sLet _ (zab q) ((HM.out.alloc _).alloc _)).mono ?_
 rintro e w1 ⟨S1,q1,z1,rfl,i1,m1,s1⟩
 obtain⟨Y,X1,t1⟩:=HM.out.two2 s1
 have z:=zc Y
 have j:=zc X1
 have X:=zc m1
 have ab:=zc t1
 have ah:=zc i1
 clear Y X1 i1 m1 t1 s1
 go_wp2_with fail
 refine (zbz C H E o _ S1 q1 z1 0 false _ ah.out X.out).mono ?_
 rintro e w2 ⟨S2,q2,z2,n2,rfl,i2,m2,s2⟩
 replace z:=zc (z.out.stp s2)
 replace j:=zc (j.out.stp s2)
 have ae:=zc (ab.out.step s2)
 clear ab
 have K:=zc m2
 have V:=zc i2
 clear i2 m2 s2 X
 have am:w.heap.size+1<w2.heap.size:=j.out.lt
 unfold pv
 go_wp2_with fail
 refine (zah C H E o _ S2 q2 z2 0 cEq _ V.out.fst (K.out.alloc _)).mono ?_
 rintro e w3 ⟨S3,q3,z3,rfl,i3,m3,s3⟩
 replace z:=zc ((z.out.alloc _).stp s3)
 replace j:=zc ((j.out.alloc _).stp s3)
 replace D:=zc ((Bx.new K.out _).stp s3)
 have U:Hid (SB w.heap.size S w S3 w3):=(ae.out.alloc _).step s3
 clear ae
 have ac:=zc m3
 have ai:=zc i3
 clear i3 m3 s3 K
 go_wp2_with fail
 refine (zdp C H E o _ S3 q3 z3 _ ai.out ac.out).mono ?_
 rintro e w4 ⟨S4,q4,z4,rfl,i4,m4,s4⟩
 replace z:=zc (z.out.stp s4)
 replace j:=zc (j.out.stp s4)
 replace D:=zc (D.out.stp s4)
 have aa:=zc (U.out.step s4)
 clear U
 have Q:=zc m4
 have aj:=zc i4
 clear i4 m4 s4 ac
 go_wp2_with fail
 refine (zah C H E o _ S4 q4 z4 0 cSemi _ aj.out Q.out).mono ?_
 rintro e w5 ⟨L,q5,z5,rfl,i5,m5,O⟩
 replace z:=zc (z.out.stp O)
 replace j:=zc (j.out.stp O)
 replace D:=zc (D.out.stp O)
 have Z:=zc (aa.out.step O)
 clear aa
 have M:=zc m5
 have ad:=zc i5
 clear i5 m5 O Q
 obtain⟨c0,c1,c2,c3,c4,c5,c6,c7,c8,c9,J,I,cf⟩:=D.out.box
 unfold pv
 go_upto_region 3 with fail
 refine zQ (R:=fun W=>Bx H L W (w.heap.size) _∧Bx H L W (w.heap.size+1) _∧Bx H L W (w2.heap.size) _∧Mem C H E o L q5 W∧SB w.heap.size S w L W) ⟨(z.out.other (by omega) ..),(j.out.other (by omega) ..),(D.out.put ..),(M.out.put D.out ..),(Z.out.put (by omega) ..)⟩ ?_
 clear c0 c1 c2 c3 c4 c5 c6 c7 c8 c9 J I cf
 clear z j D Z M
 rintro w6 ⟨Y,X1,X2,m6,t6⟩
 have z:=zc Y
 have j:=zc X1
 have D:=zc X2
 have N:=zc m6
 have af:=zc t6
 clear m6 t6 Y X1 X2
 obtain⟨c0,c1,c2,c3,c4,c5,c6,c7,c8,c9,J,I,cf⟩:=D.out.box
 go_wp2_with fail
 refine (zcY C H E o _ L q5 z5 0 1 n2 _ ad.out N.out (zb5 ad.out)).mono ?_
 rintro e w7 ⟨S7,q7,z7,rfl,i7,m7,s7⟩
 replace z:=zc (z.out.stp s7)
 replace j:=zc (j.out.stp s7)
 replace D:=zc (D.out.stp s7)
 have al:=zc (af.out.step s7)
 clear af
 have ag:=zc m7
 have ak:=zc i7
 clear i7 m7 s7 N
 clear c0 c1 c2 c3 c4 c5 c6 c7 c8 c9 J I cf
 obtain⟨b0,b1,b2,b3,b4,b5,b6,b7,b8,b9,an,ao,bf⟩:=j.out.box
 unfold pv
 go_wp2
 refine bodyPost_ret (zaK rfl _ _ (w.heap.size+1) 55 _ (0,0) _ rfl ((j.out.put ..)).heap Tryz.underlying55 rfl (by kernel_rfl)) rfl ?_
 exact zmF rfl (V.out.withN (F:=fun x n=>_) (fun _ _=>rfl) ak.out) (ag.out.put j.out ..) (al.out.put (by omega) ..)
theorem zjj (C:Cx) (H E D:Nat) (S:Sv) (q:PS) (w:World) (hm:Mem C H E D S q w):
  Calls Tryz.prog 51 #[pv C H E S q (-1) 0] w (zdN C H E D (fnP C q) 0 S w):=by
 have HM:=zc hm
 clear hm
 unfold pv
 go_enter Tryz.func51,Tryz.ntmps51
 go_wp2_with fail
 refine (zaT C H E D (.ok q) S q (-1) 0 sFunction _ (zab q) ((HM.out.alloc _).alloc _)).mono ?_
 rintro e w1 ⟨S1,q1,z1,rfl,i1,m1,s1⟩
 obtain⟨V,X1,t1⟩:=HM.out.two2 s1
 have z:=zc V
 have o:=zc X1
 have ar:=zc m1
 have aC:=zc t1
 have aR:=zc i1
 clear V X1 i1 m1 t1 s1
 go_wp2_with fail
 refine (zbz C H E D _ S1 q1 z1 0 false _ aR.out ar.out).mono ?_
 rintro e w2 ⟨S2,q2,z2,n2,rfl,i2,m2,s2⟩
 replace z:=zc (z.out.stp s2)
 replace o:=zc (o.out.stp s2)
 have aM:=zc (aC.out.step s2)
 clear aC
 have ai:=zc m2
 have aq:=zc i2
 clear i2 m2 s2 ar
 have a0:w.heap.size+1<w2.heap.size:=o.out.lt
 unfold pv
 go_wp2_with fail
 refine (zah C H E D _ S2 q2 z2 0 cOpen _ aq.out.fst (ai.out.alloc _)).mono ?_
 rintro e w3 ⟨S3,q3,z3,rfl,i3,m3,s3⟩
 replace z:=zc ((z.out.alloc _).stp s3)
 replace o:=zc ((o.out.alloc _).stp s3)
 replace j:=zc ((Bx.new ai.out _).stp s3)
 have ap:Hid (SB w.heap.size S w S3 w3):=(aM.out.alloc _).step s3
 clear aM
 have aG:=zc m3
 have aS:=zc i3
 clear i3 m3 s3 ai
 go_wp2_with fail
 refine (zah C H E D _ S3 q3 z3 0 zU _ aS.out aG.out).mono ?_
 rintro e w4 ⟨S4,q4,z4,rfl,i4,m4,s4⟩
 replace z:=zc (z.out.stp s4)
 replace o:=zc (o.out.stp s4)
 replace j:=zc (j.out.stp s4)
 have aB:=zc (ap.out.step s4)
 clear ap
 have ao:=zc m4
 have aU:=zc i4
 clear i4 m4 s4 aG
 go_wp2_with fail
 refine (zah C H E D _ S4 q4 z4 0 zF _ aU.out ao.out).mono ?_
 rintro e w5 ⟨S5,q5,z5,rfl,i5,m5,s5⟩
 replace z:=zc (z.out.stp s5)
 replace o:=zc (o.out.stp s5)
 replace j:=zc (j.out.stp s5)
 have ax:=zc (aB.out.step s5)
 clear aB
 have aj:=zc m5
 have aY:=zc i5
 clear i5 m5 s5 ao
 obtain⟨O,Q,X,c3,U,c5,c6,N,M,c9,J,I,Y⟩:=j.out.box
 unfold pv
 go_upto_region 3 with fail
 refine zQ (R:=fun W=>Bx H S5 W (w.heap.size) _∧Bx H S5 W (w.heap.size+1) _∧Bx H S5 W (w2.heap.size) _∧Mem C H E D S5 q5 W∧SB w.heap.size S w S5 W) ⟨(z.out.other (by omega) ..),(o.out.other (by omega) ..),(j.out.put ..),(aj.out.put j.out ..),(ax.out.put (by omega) ..)⟩ ?_
 clear O Q X c3 U c5 c6 N M c9 J I Y
 clear z o j ax aj
 rintro w6 ⟨V,X1,X2,m6,t6⟩
 have z:=zc V
 have o:=zc X1
 have j:=zc X2
 have ak:=zc m6
 have aN:=zc t6
 clear m6 t6 V X1 X2
 obtain⟨O,Q,X,c3,U,c5,c6,N,M,c9,J,I,Y⟩:=j.out.box
 go_wp2_with fail
 refine (zaT C H E D _ S5 q5 z5 0 zdw _ aY.out ak.out).mono ?_
 rintro e w7 ⟨S7,q7,z7,rfl,i7,m7,s7⟩
 replace z:=zc (z.out.stp s7)
 replace o:=zc (o.out.stp s7)
 replace j:=zc (j.out.stp s7)
 have aK:=zc (aN.out.step s7)
 clear aN
 have an:=zc m7
 have aV:=zc i7
 clear i7 m7 s7 ak
 clear O Q X c3 U c5 c6 N M c9 J I Y
 go_wp2_with fail
 refine (zdp C H E D _ S7 q7 z7 _ aV.out an.out).mono ?_
 rintro e w8 ⟨S8,q8,z8,rfl,i8,m8,s8⟩
 replace z:=zc (z.out.stp s8)
 replace o:=zc (o.out.stp s8)
 replace j:=zc (j.out.stp s8)
 have al:=zc (aK.out.step s8)
 clear aK
 have ay:=zc m8
 have aQ:=zc i8
 clear i8 m8 s8 an
 obtain⟨O,Q,X,c3,U,c5,c6,N,M,c9,J,I,Y⟩:=j.out.box
 unfold pv
 go_upto_region 4 with fail
 refine zQ (R:=fun W=>Bx H S8 W (w.heap.size) _∧Bx H S8 W (w.heap.size+1) _∧Bx H S8 W (w2.heap.size) _∧Mem C H E D S8 q8 W∧SB w.heap.size S w S8 W) ⟨(z.out.other (by omega) ..),(o.out.other (by omega) ..),(j.out.put ..),(ay.out.put j.out ..),(al.out.put (by omega) ..)⟩ ?_
 clear O Q X c3 U c5 c6 N M c9 J I Y
 clear z o j al ay
 rintro w9 ⟨V,X1,X2,m9,t9⟩
 have z:=zc V
 have o:=zc X1
 have j:=zc X2
 have aL:=zc m9
 have aO:=zc t9
 clear m9 t9 V X1 X2
 obtain⟨O,Q,X,c3,U,c5,c6,N,M,c9,J,I,Y⟩:=j.out.box
 go_wp2_with fail
 refine (zah C H E D _ S8 q8 z8 0 cSemi _ aQ.out aL.out).mono ?_
 rintro e a3 ⟨aX,aW,aZ,rfl,az,am,L⟩
 replace z:=zc (z.out.stp L)
 replace o:=zc (o.out.stp L)
 replace j:=zc (j.out.stp L)
 have ag:=zc (aO.out.step L)
 clear aO
 have ac:=zc am
 have aP:=zc az
 clear az am L aL
 clear O Q X c3 U c5 c6 N M c9 J I Y
 go_wp2_with fail
 refine (zah C H E D _ aX aW aZ 0 zaJ _ aP.out ac.out).mono ?_
 rintro e a2 ⟨K,aH,aT,rfl,aI,aE,aa⟩
 replace z:=zc (z.out.stp aa)
 replace o:=zc (o.out.stp aa)
 replace j:=zc (j.out.stp aa)
 have ae:=zc (ag.out.step aa)
 clear ag
 have ad:=zc aE
 have af:=zc aI
 clear aI aE aa ac
 obtain⟨O,Q,X,c3,U,c5,c6,N,M,c9,J,I,Y⟩:=j.out.box
 unfold pv
 go_upto_region 5 with fail
 refine zQ (R:=fun W=>Bx H K W (w.heap.size) _∧Bx H K W (w.heap.size+1) _∧Bx H K W (w2.heap.size) _∧Mem C H E D K aH W∧SB w.heap.size S w K W) ⟨(z.out.other (by omega) ..),(o.out.other (by omega) ..),(j.out.put ..),(ad.out.put j.out ..),(ae.out.put (by omega) ..)⟩ ?_
 clear O Q X c3 U c5 c6 N M c9 J I Y
 clear z o j ae ad
 rintro a5 ⟨V,X1,X2,aJ,aw⟩
 have z:=zc V
 have o:=zc X1
 have j:=zc X2
 have ah:=zc aJ
 have ab:=zc aw
 clear aJ aw V X1 X2
 obtain⟨O,Q,X,c3,U,c5,c6,N,M,c9,J,I,Y⟩:=j.out.box
 go_wp2_with fail
 refine (zcY C H E D _ K aH aT 0 2 n2 _ af.out ah.out (zb5 af.out)).mono ?_
 rintro e a8 ⟨a6,a4,a7,rfl,av,au,Z⟩
 replace z:=zc (z.out.stp Z)
 replace o:=zc (o.out.stp Z)
 replace j:=zc (j.out.stp Z)
 have aF:=zc (ab.out.step Z)
 clear ab
 have aA:=zc au
 have aD:=zc av
 clear av au Z ah
 clear O Q X c3 U c5 c6 N M c9 J I Y
 obtain⟨b0,b1,b2,b3,b4,b5,b6,b7,b8,b9,a1,a9,bf⟩:=o.out.box
 unfold pv
 go_wp2
 refine bodyPost_ret (zaK rfl _ _ (w.heap.size+1) 55 _ (0,0) _ rfl ((o.out.put ..)).heap Tryz.underlying55 rfl (by kernel_rfl)) rfl ?_
 exact zmF rfl (aq.out.withN (F:=fun x n=>_) (fun _ _=>rfl) aD.out) (aA.out.put o.out ..) (aF.out.put (by omega) ..)
end Go.Proofs.YthfeoomfiafldaaGreat