/-
 What spec's l4Let and l4Fn answer: the walks.
-/
import Derived.Test.YthfeoomfiafldaaGreatCdSpecRowToSpecParseJ
namespace Go.Proofs.YthfeoomfiafldaaGreat
set_option maxRecDepth 100000
set_option maxHeartbeats 6400000
open Go.RowKit Go.PlainAid
theorem Is2.withN {y:PRN} {q q':PS} {z z':Int} {n:ByteArray} {F:PR→ByteArray→PR} (h:Is2 y q z n) (D: ∀e n,F (.error e) n= .error e) (j:Is (F (za7 y) n) q' z'):Is2 (withN y F) q' z' n:=by
 cases y with
 |ok a=>
  obtain⟨_,_,rfl⟩:=h
  have e:za7 (.ok a)= .ok a.1:=rfl
  rw[e] at j
  show Is2 (bd (F (.ok a.1) a.2) fun q=>.ok (q,a.2)) q' z' a.2
  cases o:F (.ok a.1) a.2 with
  |ok b=>rw[o] at j;exact⟨j.1,j.2,rfl⟩
  |error e=>rw[o] at j;exact j
 |error e=>
  have E:za7 (.error e)= .error e:=rfl
  rw[E,D] at j
  exact j
theorem zmF {C:Cx} {H o j:Nat} {y:PRN} {d:Nat} {S z:Sv} {w E:World} {q':PS} {z':Int} {D:ByteArray} {v:Value} (J:v=pv C H o z q' z' d) (I:Is2 y q' z' D) (L:Mem C H o j z q' E) (K:SB w.heap.size S w z E):zdN C H o j y d S w (.returned (.tuple #[v,.string D])) E:=
 ⟨z,q',z',D,by rw[J],I,L,K.done⟩
theorem zji (C:Cx) (H E o:Nat) (S:Sv) (q:PS) (w:World) (hm:Mem C H E o S q w):
  Calls Tryz.prog 50 #[pv C H E S q (-1) 0] w (zdN C H E o (zbA C q) 0 S w):=by
 have HM:=zc hm
 clear hm
 unfold pv
 go_enter Tryz.func50,Tryz.ntmps50
 go_wp2_with fail
 refine (zaT C H E o (.ok q) S q (-1) 0 sLet _ (zab q) ((HM.out.alloc _).alloc _)).mono ?_
 rintro e w1 ⟨S1,q1,z1,rfl,i1,m1,s1⟩
 obtain⟨O,Y,t1⟩:=HM.out.two2 s1
 have z:=zc O
 have j:=zc Y
 have ac:=zc m1
 have af:=zc t1
 have al:=zc i1
 clear O Y i1 m1 t1 s1
 go_wp2_with fail
 refine (zbz C H E o _ S1 q1 z1 0 false _ al.out ac.out).mono ?_
 rintro e w2 ⟨S2,q2,z2,n2,rfl,i2,m2,s2⟩
 replace z:=zc (z.out.stp s2)
 replace j:=zc (j.out.stp s2)
 have Q:=zc (af.out.step s2)
 clear af
 have I:=zc m2
 have aa:=zc i2
 clear i2 m2 s2 ac
 have ao:w.heap.size+1<w2.heap.size:=j.out.lt
 unfold pv
 go_wp2_with fail
 refine (zah C H E o _ S2 q2 z2 0 cEq _ aa.out.fst (I.out.alloc _)).mono ?_
 rintro e w3 ⟨S3,q3,z3,rfl,i3,m3,s3⟩
 replace z:=zc ((z.out.alloc _).stp s3)
 replace j:=zc ((j.out.alloc _).stp s3)
 replace D:=zc ((Bx.new I.out _).stp s3)
 have ad:Hid (SB w.heap.size S w S3 w3):=(Q.out.alloc _).step s3
 clear Q
 have ah:=zc m3
 have ai:=zc i3
 clear i3 m3 s3 I
 go_wp2_with fail
 refine (zdp C H E o _ S3 q3 z3 _ ai.out ah.out).mono ?_
 rintro e w4 ⟨S4,q4,z4,rfl,i4,m4,Z⟩
 replace z:=zc (z.out.stp Z)
 replace j:=zc (j.out.stp Z)
 replace D:=zc (D.out.stp Z)
 have V:=zc (ad.out.step Z)
 clear ad
 have U:=zc m4
 have am:=zc i4
 clear i4 m4 Z ah
 go_wp2_with fail
 refine (zah C H E o _ S4 q4 z4 0 cSemi _ am.out U.out).mono ?_
 rintro e w5 ⟨L,q5,z5,rfl,i5,m5,s5⟩
 replace z:=zc (z.out.stp s5)
 replace j:=zc (j.out.stp s5)
 replace D:=zc (D.out.stp s5)
 have ag:=zc (V.out.step s5)
 clear V
 have ab:=zc m5
 have ae:=zc i5
 clear i5 m5 s5 U
 obtain⟨c0,c1,c2,c3,c4,c5,c6,c7,c8,c9,J,K,cf⟩:=D.out.box
 unfold pv
 go_upto_region 3 with fail
 refine zQ (R:=fun W=>Bx H L W (w.heap.size) _∧Bx H L W (w.heap.size+1) _∧Bx H L W (w2.heap.size) _∧Mem C H E o L q5 W∧SB w.heap.size S w L W) ⟨(z.out.other (by omega) ..),(j.out.other (by omega) ..),(D.out.put ..),(ab.out.put D.out ..),(ag.out.put (by omega) ..)⟩ ?_
 clear c0 c1 c2 c3 c4 c5 c6 c7 c8 c9 J K cf
 clear z j D ag ab
 rintro w6 ⟨O,Y,X2,m6,t6⟩
 have z:=zc O
 have j:=zc Y
 have D:=zc X2
 have X:=zc m6
 have M:=zc t6
 clear m6 t6 O Y X2
 obtain⟨c0,c1,c2,c3,c4,c5,c6,c7,c8,c9,J,K,cf⟩:=D.out.box
 go_wp2_with fail
 refine (zcY C H E o _ L q5 z5 0 1 n2 _ ae.out X.out (zb5 ae.out)).mono ?_
 rintro e w7 ⟨S7,q7,z7,rfl,i7,m7,N⟩
 replace z:=zc (z.out.stp N)
 replace j:=zc (j.out.stp N)
 replace D:=zc (D.out.stp N)
 have aj:=zc (M.out.step N)
 clear M
 have ak:=zc m7
 have an:=zc i7
 clear i7 m7 N X
 clear c0 c1 c2 c3 c4 c5 c6 c7 c8 c9 J K cf
 obtain⟨b0,b1,b2,b3,b4,b5,b6,b7,b8,b9,ap,aq,bf⟩:=j.out.box
 unfold pv
 go_wp2
 refine bodyPost_ret (zaK rfl _ _ (w.heap.size+1) 55 _ (0,0) _ rfl ((j.out.put ..)).heap Tryz.underlying55 rfl (by kernel_rfl)) rfl ?_
 exact zmF rfl (aa.out.withN (F:=fun x n=>_) (fun _ _=>rfl) an.out) (ak.out.put j.out ..) (aj.out.put (by omega) ..)
theorem zjj (C:Cx) (H E D:Nat) (S:Sv) (q:PS) (w:World) (hm:Mem C H E D S q w):
  Calls Tryz.prog 51 #[pv C H E S q (-1) 0] w (zdN C H E D (fnP C q) 0 S w):=by
 have HM:=zc hm
 clear hm
 unfold pv
 go_enter Tryz.func51,Tryz.ntmps51
 go_wp2_with fail
 refine (zaT C H E D (.ok q) S q (-1) 0 sFunction _ (zab q) ((HM.out.alloc _).alloc _)).mono ?_
 rintro e w1 ⟨S1,q1,z1,rfl,i1,m1,s1⟩
 obtain⟨N,Z,t1⟩:=HM.out.two2 s1
 have z:=zc N
 have o:=zc Z
 have aH:=zc m1
 have aO:=zc t1
 have aT:=zc i1
 clear N Z i1 m1 t1 s1
 go_wp2_with fail
 refine (zbz C H E D _ S1 q1 z1 0 false _ aT.out aH.out).mono ?_
 rintro e w2 ⟨S2,q2,z2,n2,rfl,i2,m2,s2⟩
 replace z:=zc (z.out.stp s2)
 replace o:=zc (o.out.stp s2)
 have au:=zc (aO.out.step s2)
 clear aO
 have aj:=zc m2
 have aF:=zc i2
 clear i2 m2 s2 aH
 have a1:w.heap.size+1<w2.heap.size:=o.out.lt
 unfold pv
 go_wp2_with fail
 refine (zah C H E D _ S2 q2 z2 0 cOpen _ aF.out.fst (aj.out.alloc _)).mono ?_
 rintro e w3 ⟨S3,q3,z3,rfl,i3,m3,s3⟩
 replace z:=zc ((z.out.alloc _).stp s3)
 replace o:=zc ((o.out.alloc _).stp s3)
 replace j:=zc ((Bx.new aj.out _).stp s3)
 have aJ:Hid (SB w.heap.size S w S3 w3):=(au.out.alloc _).step s3
 clear au
 have aQ:=zc m3
 have aR:=zc i3
 clear i3 m3 s3 aj
 go_wp2_with fail
 refine (zah C H E D _ S3 q3 z3 0 zU _ aR.out aQ.out).mono ?_
 rintro e w4 ⟨S4,q4,z4,rfl,i4,m4,s4⟩
 replace z:=zc (z.out.stp s4)
 replace o:=zc (o.out.stp s4)
 replace j:=zc (j.out.stp s4)
 have az:=zc (aJ.out.step s4)
 clear aJ
 have av:=zc m4
 have aW:=zc i4
 clear i4 m4 s4 aQ
 go_wp2_with fail
 refine (zah C H E D _ S4 q4 z4 0 zF _ aW.out av.out).mono ?_
 rintro e w5 ⟨S5,q5,z5,rfl,i5,m5,s5⟩
 replace z:=zc (z.out.stp s5)
 replace o:=zc (o.out.stp s5)
 replace j:=zc (j.out.stp s5)
 have aP:=zc (az.out.step s5)
 clear az
 have aG:=zc m5
 have aX:=zc i5
 clear i5 m5 s5 av
 obtain⟨c0,O,Q,V,Y,c5,c6,U,X,L,I,J,cf⟩:=j.out.box
 unfold pv
 go_upto_region 3 with fail
 refine zQ (R:=fun W=>Bx H S5 W (w.heap.size) _∧Bx H S5 W (w.heap.size+1) _∧Bx H S5 W (w2.heap.size) _∧Mem C H E D S5 q5 W∧SB w.heap.size S w S5 W) ⟨(z.out.other (by omega) ..),(o.out.other (by omega) ..),(j.out.put ..),(aG.out.put j.out ..),(aP.out.put (by omega) ..)⟩ ?_
 clear c0 O Q V Y c5 c6 U X L I J cf
 clear z o j aP aG
 rintro w6 ⟨N,Z,X2,m6,t6⟩
 have z:=zc N
 have o:=zc Z
 have j:=zc X2
 have aA:=zc m6
 have ak:=zc t6
 clear m6 t6 N Z X2
 obtain⟨c0,O,Q,V,Y,c5,c6,U,X,L,I,J,cf⟩:=j.out.box
 go_wp2_with fail
 refine (zaT C H E D _ S5 q5 z5 0 zdw _ aX.out aA.out).mono ?_
 rintro e w7 ⟨S7,q7,z7,rfl,i7,m7,s7⟩
 replace z:=zc (z.out.stp s7)
 replace o:=zc (o.out.stp s7)
 replace j:=zc (j.out.stp s7)
 have aq:=zc (ak.out.step s7)
 clear ak
 have ay:=zc m7
 have aZ:=zc i7
 clear i7 m7 s7 aA
 clear c0 O Q V Y c5 c6 U X L I J cf
 go_wp2_with fail
 refine (zdp C H E D _ S7 q7 z7 _ aZ.out ay.out).mono ?_
 rintro e w8 ⟨S8,q8,z8,rfl,i8,m8,s8⟩
 replace z:=zc (z.out.stp s8)
 replace o:=zc (o.out.stp s8)
 replace j:=zc (j.out.stp s8)
 have aL:=zc (aq.out.step s8)
 clear aq
 have ao:=zc m8
 have aS:=zc i8
 clear i8 m8 s8 ay
 obtain⟨c0,O,Q,V,Y,c5,c6,U,X,L,I,J,cf⟩:=j.out.box
 unfold pv
 go_upto_region 4 with fail
 refine zQ (R:=fun W=>Bx H S8 W (w.heap.size) _∧Bx H S8 W (w.heap.size+1) _∧Bx H S8 W (w2.heap.size) _∧Mem C H E D S8 q8 W∧SB w.heap.size S w S8 W) ⟨(z.out.other (by omega) ..),(o.out.other (by omega) ..),(j.out.put ..),(ao.out.put j.out ..),(aL.out.put (by omega) ..)⟩ ?_
 clear c0 O Q V Y c5 c6 U X L I J cf
 clear z o j aL ao
 rintro w9 ⟨N,Z,X2,m9,t9⟩
 have z:=zc N
 have o:=zc Z
 have j:=zc X2
 have aN:=zc m9
 have aC:=zc t9
 clear m9 t9 N Z X2
 obtain⟨c0,O,Q,V,Y,c5,c6,U,X,L,I,J,cf⟩:=j.out.box
 go_wp2_with fail
 refine (zah C H E D _ S8 q8 z8 0 cSemi _ aS.out aN.out).mono ?_
 rintro e a6 ⟨a0,aV,aY,rfl,ap,aI,M⟩
 replace z:=zc (z.out.stp M)
 replace o:=zc (o.out.stp M)
 replace j:=zc (j.out.stp M)
 have ah:=zc (aC.out.step M)
 clear aC
 have ae:=zc aI
 have al:=zc ap
 clear ap aI M aN
 clear c0 O Q V Y c5 c6 U X L I J cf
 go_wp2_with fail
 refine (zah C H E D _ a0 aV aY 0 zaJ _ al.out ae.out).mono ?_
 rintro e a5 ⟨K,aD,aU,rfl,an,aK,aa⟩
 replace z:=zc (z.out.stp aa)
 replace o:=zc (o.out.stp aa)
 replace j:=zc (j.out.stp aa)
 have ai:=zc (ah.out.step aa)
 clear ah
 have ad:=zc aK
 have ac:=zc an
 clear an aK aa ae
 obtain⟨c0,O,Q,V,Y,c5,c6,U,X,L,I,J,cf⟩:=j.out.box
 unfold pv
 go_upto_region 5 with fail
 refine zQ (R:=fun W=>Bx H K W (w.heap.size) _∧Bx H K W (w.heap.size+1) _∧Bx H K W (w2.heap.size) _∧Mem C H E D K aD W∧SB w.heap.size S w K W) ⟨(z.out.other (by omega) ..),(o.out.other (by omega) ..),(j.out.put ..),(ad.out.put j.out ..),(ai.out.put (by omega) ..)⟩ ?_
 clear c0 O Q V Y c5 c6 U X L I J cf
 clear z o j ai ad
 rintro a3 ⟨N,Z,X2,aw,ar⟩
 have z:=zc N
 have o:=zc Z
 have j:=zc X2
 have ag:=zc aw
 have af:=zc ar
 clear aw ar N Z X2
 obtain⟨c0,O,Q,V,Y,c5,c6,U,X,L,I,J,cf⟩:=j.out.box
 go_wp2_with fail
 refine (zcY C H E D _ K aD aU 0 2 n2 _ ac.out ag.out (zb5 ac.out)).mono ?_
 rintro e a4 ⟨a8,ba,a7,rfl,am,aM,ab⟩
 replace z:=zc (z.out.stp ab)
 replace o:=zc (o.out.stp ab)
 replace j:=zc (j.out.stp ab)
 have ax:=zc (af.out.step ab)
 clear af
 have aE:=zc aM
 have aB:=zc am
 clear am aM ab ag
 clear c0 O Q V Y c5 c6 U X L I J cf
 obtain⟨b0,b1,b2,b3,b4,b5,b6,b7,b8,b9,a2,a9,bf⟩:=o.out.box
 unfold pv
 go_wp2
 refine bodyPost_ret (zaK rfl _ _ (w.heap.size+1) 55 _ (0,0) _ rfl ((o.out.put ..)).heap Tryz.underlying55 rfl (by kernel_rfl)) rfl ?_
 exact zmF rfl (aF.out.withN (F:=fun x n=>_) (fun _ _=>rfl) aB.out) (aE.out.put o.out ..) (ax.out.put (by omega) ..)
end Go.Proofs.YthfeoomfiafldaaGreat