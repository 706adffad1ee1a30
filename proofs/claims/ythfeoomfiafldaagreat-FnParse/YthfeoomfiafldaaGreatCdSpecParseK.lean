/-
 What spec's l4Let and l4Fn answer: the walks.
-/
import Derived.Test.YthfeoomfiafldaaGreatCdSpecRowToSpecParseJ
namespace Go.Proofs.YthfeoomfiafldaaGreat
set_option maxRecDepth 100000
set_option maxHeartbeats 6400000
open Go.RowKit Go.PlainAid
theorem Is2.withN {y:PRN} {q q':PS} {z z':Int} {n:ByteArray} {F:PR→ByteArray→PR} (h:Is2 y q z n) (E: ∀e n,F (.error e) n= .error e) (j:Is (F (za7 y) n) q' z'):Is2 (withN y F) q' z' n:=by
 cases y with
 |ok a=>
  obtain⟨_,_,rfl⟩:=h
  have e:za7 (.ok a)= .ok a.1:=rfl
  rw[e] at j
  show Is2 (bd (F (.ok a.1) a.2) fun q=>.ok (q,a.2)) q' z' a.2
  cases o:F (.ok a.1) a.2 with
  |ok b=>rw[o] at j;exact⟨j.1,j.2,rfl⟩
  |error e=>rw[o] at j;exact j
 |error e=>
  have D:za7 (.error e)= .error e:=rfl
  rw[D,E] at j
  exact j
theorem zmF {C:Cx} {H o j:Nat} {y:PRN} {d:Nat} {S z:Sv} {w E:World} {q':PS} {z':Int} {D:ByteArray} {v:Value} (J:v=pv C H o z q' z' d) (K:Is2 y q' z' D) (I:Mem C H o j z q' E) (L:SB w.heap.size S w z E):zdM C H o j y d S w (.returned (.tuple #[v,.string D])) E:=
 ⟨z,q',z',D,by rw[J],K,I,L.done⟩
theorem zji (C:Cx) (H E o:Nat) (S:Sv) (q:PS) (w:World) (hm:Mem C H E o S q w):
  Calls Tryz.prog 50 #[pv C H E S q (-1) 0] w (zdM C H E o (zbA C q) 0 S w):=by
 have HM:=zc hm
 clear hm
 unfold pv
 go_enter Tryz.func50,Tryz.ntmps50
 go_wp2_with fail
 refine (zaT C H E o (.ok q) S q (-1) 0 sLet _ (zab q) ((HM.out.alloc _).alloc _)).mono ?_
 rintro e w1 ⟨S1,q1,z1,rfl,i1,m1,s1⟩
 obtain⟨X0,X1,t1⟩:=HM.out.two2 s1
 have z:=zc X0
 have j:=zc X1
 have ae:=zc m1
 have af:=zc t1
 have ai:=zc i1
 clear X0 X1 i1 m1 t1 s1
 go_wp2_with fail
 refine (zbz C H E o _ S1 q1 z1 0 false _ ai.out ae.out).mono ?_
 rintro e w2 ⟨S2,q2,z2,n2,rfl,i2,m2,s2⟩
 replace z:=zc (z.out.stp s2)
 replace j:=zc (j.out.stp s2)
 have O:=zc (af.out.step s2)
 clear af
 have K:=zc m2
 have N:=zc i2
 clear i2 m2 s2 ae
 have am:w.heap.size+1<w2.heap.size:=j.out.lt
 unfold pv
 go_wp2_with fail
 refine (zah C H E o _ S2 q2 z2 0 cEq _ N.out.fst (K.out.alloc _)).mono ?_
 rintro e w3 ⟨S3,q3,z3,rfl,i3,m3,s3⟩
 replace z:=zc ((z.out.alloc _).stp s3)
 replace j:=zc ((j.out.alloc _).stp s3)
 replace D:=zc ((Bx.new K.out _).stp s3)
 have ab:Hid (SB w.heap.size S w S3 w3):=(O.out.alloc _).step s3
 clear O
 have Y:=zc m3
 have aj:=zc i3
 clear i3 m3 s3 K
 go_wp2_with fail
 refine (zdp C H E o _ S3 q3 z3 _ aj.out Y.out).mono ?_
 rintro e w4 ⟨S4,q4,z4,rfl,i4,m4,X⟩
 replace z:=zc (z.out.stp X)
 replace j:=zc (j.out.stp X)
 replace D:=zc (D.out.stp X)
 have ad:=zc (ab.out.step X)
 clear ab
 have ac:=zc m4
 have al:=zc i4
 clear i4 m4 X Y
 go_wp2_with fail
 refine (zah C H E o _ S4 q4 z4 0 cSemi _ al.out ac.out).mono ?_
 rintro e w5 ⟨L,q5,z5,rfl,i5,m5,U⟩
 replace z:=zc (z.out.stp U)
 replace j:=zc (j.out.stp U)
 replace D:=zc (D.out.stp U)
 have M:=zc (ad.out.step U)
 clear ad
 have aa:=zc m5
 have Q:=zc i5
 clear i5 m5 U ac
 obtain⟨c0,c1,c2,c3,c4,c5,c6,c7,c8,c9,J,I,cf⟩:=D.out.box
 unfold pv
 go_upto_region 3 with fail
 refine zQ (R:=fun W=>Bx H L W (w.heap.size) _∧Bx H L W (w.heap.size+1) _∧Bx H L W (w2.heap.size) _∧Mem C H E o L q5 W∧SB w.heap.size S w L W) ⟨(z.out.other (by omega) ..),(j.out.other (by omega) ..),(D.out.put ..),(aa.out.put D.out ..),(M.out.put (by omega) ..)⟩ ?_
 clear c0 c1 c2 c3 c4 c5 c6 c7 c8 c9 J I cf
 clear z j D M aa
 rintro w6 ⟨X0,X1,X2,m6,t6⟩
 have z:=zc X0
 have j:=zc X1
 have D:=zc X2
 have V:=zc m6
 have Z:=zc t6
 clear m6 t6 X0 X1 X2
 obtain⟨c0,c1,c2,c3,c4,c5,c6,c7,c8,c9,J,I,cf⟩:=D.out.box
 go_wp2_with fail
 refine (zcY C H E o _ L q5 z5 0 1 n2 _ Q.out V.out (zb5 Q.out)).mono ?_
 rintro e w7 ⟨S7,q7,z7,rfl,i7,m7,s7⟩
 replace z:=zc (z.out.stp s7)
 replace j:=zc (j.out.stp s7)
 replace D:=zc (D.out.stp s7)
 have ag:=zc (Z.out.step s7)
 clear Z
 have ah:=zc m7
 have ak:=zc i7
 clear i7 m7 s7 V
 clear c0 c1 c2 c3 c4 c5 c6 c7 c8 c9 J I cf
 obtain⟨b0,b1,b2,b3,b4,b5,b6,b7,b8,b9,an,ao,bf⟩:=j.out.box
 unfold pv
 go_wp2
 refine bodyPost_ret (zaK rfl _ _ (w.heap.size+1) 55 _ (0,0) _ rfl ((j.out.put ..)).heap Tryz.underlying55 rfl (by kernel_rfl)) rfl ?_
 exact zmF rfl (N.out.withN (F:=fun x n=>_) (fun _ _=>rfl) ak.out) (ah.out.put j.out ..) (ag.out.put (by omega) ..)
theorem zjj (C:Cx) (H E D:Nat) (S:Sv) (q:PS) (w:World) (hm:Mem C H E D S q w):
  Calls Tryz.prog 51 #[pv C H E S q (-1) 0] w (zdM C H E D (fnP C q) 0 S w):=by
 have HM:=zc hm
 clear hm
 unfold pv
 go_enter Tryz.func51,Tryz.ntmps51
 go_wp2_with fail
 refine (zaT C H E D (.ok q) S q (-1) 0 sFunction _ (zab q) ((HM.out.alloc _).alloc _)).mono ?_
 rintro e w1 ⟨S1,q1,z1,rfl,i1,m1,s1⟩
 obtain⟨X0,X1,t1⟩:=HM.out.two2 s1
 have z:=zc X0
 have o:=zc X1
 have aM:=zc m1
 have aN:=zc t1
 have aT:=zc i1
 clear X0 X1 i1 m1 t1 s1
 go_wp2_with fail
 refine (zbz C H E D _ S1 q1 z1 0 false _ aT.out aM.out).mono ?_
 rintro e w2 ⟨S2,q2,z2,n2,rfl,i2,m2,s2⟩
 replace z:=zc (z.out.stp s2)
 replace o:=zc (o.out.stp s2)
 have aq:=zc (aN.out.step s2)
 clear aN
 have ah:=zc m2
 have ap:=zc i2
 clear i2 m2 s2 aM
 have aZ:w.heap.size+1<w2.heap.size:=o.out.lt
 unfold pv
 go_wp2_with fail
 refine (zah C H E D _ S2 q2 z2 0 cOpen _ ap.out.fst (ah.out.alloc _)).mono ?_
 rintro e w3 ⟨S3,q3,z3,rfl,i3,m3,s3⟩
 replace z:=zc ((z.out.alloc _).stp s3)
 replace o:=zc ((o.out.alloc _).stp s3)
 replace j:=zc ((Bx.new ah.out _).stp s3)
 have aI:Hid (SB w.heap.size S w S3 w3):=(aq.out.alloc _).step s3
 clear aq
 have az:=zc m3
 have aU:=zc i3
 clear i3 m3 s3 ah
 go_wp2_with fail
 refine (zah C H E D _ S3 q3 z3 0 zU _ aU.out az.out).mono ?_
 rintro e w4 ⟨S4,q4,z4,rfl,i4,m4,s4⟩
 replace z:=zc (z.out.stp s4)
 replace o:=zc (o.out.stp s4)
 replace j:=zc (j.out.stp s4)
 have aL:=zc (aI.out.step s4)
 clear aI
 have aJ:=zc m4
 have aX:=zc i4
 clear i4 m4 s4 az
 go_wp2_with fail
 refine (zah C H E D _ S4 q4 z4 0 zF _ aX.out aJ.out).mono ?_
 rintro e w5 ⟨S5,q5,z5,rfl,i5,m5,s5⟩
 replace z:=zc (z.out.stp s5)
 replace o:=zc (o.out.stp s5)
 replace j:=zc (j.out.stp s5)
 have al:=zc (aL.out.step s5)
 clear aL
 have aE:=zc m5
 have aS:=zc i5
 clear i5 m5 s5 aJ
 obtain⟨N,c1,c2,X,c4,c5,L,Y,Q,V,J,I,M⟩:=j.out.box
 unfold pv
 go_upto_region 3 with fail
 refine zQ (R:=fun W=>Bx H S5 W (w.heap.size) _∧Bx H S5 W (w.heap.size+1) _∧Bx H S5 W (w2.heap.size) _∧Mem C H E D S5 q5 W∧SB w.heap.size S w S5 W) ⟨(z.out.other (by omega) ..),(o.out.other (by omega) ..),(j.out.put ..),(aE.out.put j.out ..),(al.out.put (by omega) ..)⟩ ?_
 clear N c1 c2 X c4 c5 L Y Q V J I M
 clear z o j al aE
 rintro w6 ⟨X0,X1,X2,m6,t6⟩
 have z:=zc X0
 have o:=zc X1
 have j:=zc X2
 have ay:=zc m6
 have aC:=zc t6
 clear m6 t6 X0 X1 X2
 obtain⟨N,c1,c2,X,c4,c5,L,Y,Q,V,J,I,M⟩:=j.out.box
 go_wp2_with fail
 refine (zaT C H E D _ S5 q5 z5 0 zdw _ aS.out ay.out).mono ?_
 rintro e w7 ⟨S7,q7,z7,rfl,i7,m7,s7⟩
 replace z:=zc (z.out.stp s7)
 replace o:=zc (o.out.stp s7)
 replace j:=zc (j.out.stp s7)
 have aj:=zc (aC.out.step s7)
 clear aC
 have am:=zc m7
 have aV:=zc i7
 clear i7 m7 s7 ay
 clear N c1 c2 X c4 c5 L Y Q V J I M
 go_wp2_with fail
 refine (zdp C H E D _ S7 q7 z7 _ aV.out am.out).mono ?_
 rintro e w8 ⟨S8,q8,z8,rfl,i8,m8,s8⟩
 replace z:=zc (z.out.stp s8)
 replace o:=zc (o.out.stp s8)
 replace j:=zc (j.out.stp s8)
 have aF:=zc (aj.out.step s8)
 clear aj
 have aK:=zc m8
 have aQ:=zc i8
 clear i8 m8 s8 am
 obtain⟨N,c1,c2,X,c4,c5,L,Y,Q,V,J,I,M⟩:=j.out.box
 unfold pv
 go_upto_region 4 with fail
 refine zQ (R:=fun W=>Bx H S8 W (w.heap.size) _∧Bx H S8 W (w.heap.size+1) _∧Bx H S8 W (w2.heap.size) _∧Mem C H E D S8 q8 W∧SB w.heap.size S w S8 W) ⟨(z.out.other (by omega) ..),(o.out.other (by omega) ..),(j.out.put ..),(aK.out.put j.out ..),(aF.out.put (by omega) ..)⟩ ?_
 clear N c1 c2 X c4 c5 L Y Q V J I M
 clear z o j aF aK
 rintro w9 ⟨X0,X1,X2,m9,t9⟩
 have z:=zc X0
 have o:=zc X1
 have j:=zc X2
 have aG:=zc m9
 have aB:=zc t9
 clear m9 t9 X0 X1 X2
 obtain⟨N,c1,c2,X,c4,c5,L,Y,Q,V,J,I,M⟩:=j.out.box
 go_wp2_with fail
 refine (zah C H E D _ S8 q8 z8 0 cSemi _ aQ.out aG.out).mono ?_
 rintro e a5 ⟨aP,aR,aW,rfl,ax,ar,Z⟩
 replace z:=zc (z.out.stp Z)
 replace o:=zc (o.out.stp Z)
 replace j:=zc (j.out.stp Z)
 have af:=zc (aB.out.step Z)
 clear aB
 have ae:=zc ar
 have aA:=zc ax
 clear ax ar Z aG
 clear N c1 c2 X c4 c5 L Y Q V J I M
 go_wp2_with fail
 refine (zah C H E D _ aP aR aW 0 zaJ _ aA.out ae.out).mono ?_
 rintro e a2 ⟨K,ak,aY,rfl,ao,an,U⟩
 replace z:=zc (z.out.stp U)
 replace o:=zc (o.out.stp U)
 replace j:=zc (j.out.stp U)
 have ab:=zc (af.out.step U)
 clear af
 have ag:=zc an
 have aa:=zc ao
 clear ao an U ae
 obtain⟨N,c1,c2,X,c4,c5,L,Y,Q,V,J,I,M⟩:=j.out.box
 unfold pv
 go_upto_region 5 with fail
 refine zQ (R:=fun W=>Bx H K W (w.heap.size) _∧Bx H K W (w.heap.size+1) _∧Bx H K W (w2.heap.size) _∧Mem C H E D K ak W∧SB w.heap.size S w K W) ⟨(z.out.other (by omega) ..),(o.out.other (by omega) ..),(j.out.put ..),(ag.out.put j.out ..),(ab.out.put (by omega) ..)⟩ ?_
 clear N c1 c2 X c4 c5 L Y Q V J I M
 clear z o j ab ag
 rintro a4 ⟨X0,X1,X2,aO,aw⟩
 have z:=zc X0
 have o:=zc X1
 have j:=zc X2
 have ac:=zc aO
 have ad:=zc aw
 clear aO aw X0 X1 X2
 obtain⟨N,c1,c2,X,c4,c5,L,Y,Q,V,J,I,M⟩:=j.out.box
 go_wp2_with fail
 refine (zcY C H E D _ K ak aY 0 2 n2 _ aa.out ac.out (zb5 aa.out)).mono ?_
 rintro e a0 ⟨a8,a7,a1,rfl,av,ai,O⟩
 replace z:=zc (z.out.stp O)
 replace o:=zc (o.out.stp O)
 replace j:=zc (j.out.stp O)
 have aD:=zc (ad.out.step O)
 clear ad
 have aH:=zc ai
 have au:=zc av
 clear av ai O ac
 clear N c1 c2 X c4 c5 L Y Q V J I M
 obtain⟨b0,b1,b2,b3,b4,b5,b6,b7,b8,b9,a3,a6,bf⟩:=o.out.box
 unfold pv
 go_wp2
 refine bodyPost_ret (zaK rfl _ _ (w.heap.size+1) 55 _ (0,0) _ rfl ((o.out.put ..)).heap Tryz.underlying55 rfl (by kernel_rfl)) rfl ?_
 exact zmF rfl (ap.out.withN (F:=fun x n=>_) (fun _ _=>rfl) au.out) (aH.out.put o.out ..) (aD.out.put (by omega) ..)
end Go.Proofs.YthfeoomfiafldaaGreat