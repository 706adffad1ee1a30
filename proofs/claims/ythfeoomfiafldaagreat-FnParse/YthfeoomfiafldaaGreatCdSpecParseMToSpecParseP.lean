/-
  What spec's l4Import answers: the walks.
  What spec's l4Export answers: the walks.
  What spec's l4Export answers to a list of names: the walks.
  What spec's l4Item answers: the walks.
-/
import Derived.Test.YthfeoomfiafldaaGreatCdSpecParseK
namespace Go.Proofs.YthfeoomfiafldaaGreat
set_option maxRecDepth 100000
set_option maxHeartbeats 6400000
open Go.RowKit Go.PlainAid
theorem zdq {C:Cx} {k:Int} {s:ByteArray} {q q1:PS} {j:Int} (h:Is (bd (.ok q) (zd C k s)) q1 j) (o:isT C q.pos k s=true):q1=adv q∧j= -1:=by
 rw[zh,zd,if_pos o] at h
 exact h
theorem zgj {α:Type} (f:α→PS→PR) (l:List α) (e:Nat):zK f l (.error e)= .error e:=by
 induction l with
 |nil=>rfl
 |cons a l j=>exact j
theorem zht {α:Type} (f:α→PS→PR) (l:List α) (x:PR) {k:Nat} (j:k<l.length):zK f (l.drop k) x=zK f (l.drop (k+1)) (bd x (f (l[k]))):=by
 rw[List.drop_eq_getElem_cons j]
 rfl
theorem zmG {C:Cx} {j:PRN} {K H:PS} {J M:Int} {D z:ByteArray} {G:ByteArray→ByteArray→PS→PR} (I:Is2 j K J D) (o:Is2 (bd (bd (za7 j) (zd C 1 zH)) (zy C)) H M z):
  bd (bd (za7 (bd (bd (za7 j) (zd C 1 zH)) (zy C))) (zd C 4 cSemi)) (G z D)=bd j fun a=>bd (zaD C (zav C (.ok a.1))) fun b=>G b.2 a.2 b.1:=by
 cases j with
 |error e=>rfl
 |ok a=>
  obtain⟨_,_,rfl⟩:=I
  have E:bd (bd (za7 (.ok a)) (zd C 1 zH)) (zy C)=zav C (.ok a.1):=rfl
  rw[E] at o ⊢
  rw[zh]
  cases L:zav C (.ok a.1) with
  |error e=>rfl
  |ok b=>
   rw[L] at o
   obtain⟨_,_,rfl⟩:=o
   show bd (zd C 4 cSemi b.1) (G b.2 a.2)=bd (bd (zd C 4 cSemi b.1) fun q=>.ok (q,b.2)) fun b=>G b.2 a.2 b.1
   rw[zR]
   rfl
def zgk (y:PRL):PR:=bd y fun a=>.ok a.1
theorem Is3.fst {y:PRL} {q:PS} {z:Int} {l:List Ep} (h:Is3 y q z l):Is (zgk y) q z:=by
 cases y with
 |ok a=>exact⟨h.1,h.2.1⟩
 |error e=>exact h
theorem zjk {C:Cx} {y:PRL} {J D:PS} {I L:Int} {l:List Ep} {o:ByteArray} {G:ByteArray→Ep→PS→PR} (H:Is3 y J I l) (j:Is2 (bd (bd (zgk y) (zd C 1 zH)) (zy C)) D L o):
  zK (G o) l (bd (za7 (bd (bd (zgk y) (zd C 1 zH)) (zy C))) (zd C 4 cSemi))=bd y fun a=>bd (zaD C (zav C (.ok a.1))) fun b=>zK (G b.2) a.2 (.ok b.1):=by
 cases y with
 |error e=>exact zgj _ _ _
 |ok a=>
  obtain⟨_,_,rfl⟩:=H
  have z:bd (bd (zgk (.ok a)) (zd C 1 zH)) (zy C)=zav C (.ok a.1):=rfl
  rw[z] at j ⊢
  rw[zh]
  cases K:zav C (.ok a.1) with
  |error e=>exact zgj _ _ _
  |ok b=>
   rw[K] at j
   obtain⟨_,_,rfl⟩:=j
   show zK (G b.2) a.2 (bd (za7 (.ok b)) (zd C 4 cSemi))=bd (bd (zd C 4 cSemi b.1) fun q=>.ok (q,b.2)) fun b=>zK (G b.2) a.2 (.ok b.1)
   have E:bd (za7 (.ok b)) (zd C 4 cSemi)=zd C 4 cSemi b.1:=rfl
   rw[E,zR]
   cases zd C 4 cSemi b.1 with
   |error e=>exact zgj _ _ _
   |ok c=>rfl
theorem Mem.drew {C:Cx} {z o j:Nat} {S:Sv} {q:PS} {w:World} (h:Mem C z o j S q w):Mem C z o j S q w.drew:=⟨⟨h.own.rq,h.own.im,h.own.ep,h.own.st,h.own.ex,h.own.la,h.own.apart⟩,h.inv,h.tok,h.few,h.base⟩
theorem Stp.undrew {S o:Sv} {w j:World} (h:Stp S w.drew o j):Stp S w o j:=⟨h.os,h.tape,h.output,h.size,h.block,h.sub⟩
theorem Row.cells {S:Sv} {w:World} {z B g:Nat} {r:Rw} {l:List Ep} (h:Row S w z B r l) (K:r.a=some ⟨g,0,none⟩) {j:Nat} (I:j<l.length):
  w.cell? ⟨g,j*4+1,none⟩=some (.string (l[j]).name)∧w.cell? ⟨g,j*4+2,none⟩=some (.string (l[j]).loc):=by
 have D:=h.own
 unfold OwnR at D
 rw[K] at D
 have o: ∀(l:List Ep) (i c:Nat) (H:c<4) (E:i<l.length),(l.flatMap epL)[i*4+c]? =(epL l[i])[c]?:=by
  intro l
  induction l with
  |nil=>intro i c _ E;simp at E
  |cons x l J=>
   intro i c H E
   match i with
   |0=>
    simp only[List.flatMap_cons,Nat.zero_mul,Nat.zero_add,List.getElem_cons_zero]
    rw[List.getElem?_append_left (by simp[epL];omega)]
   |i+1=>
    simp only[List.flatMap_cons,List.getElem_cons_succ]
    rw[List.getElem?_append_right (by simp[epL];omega)]
    have e:(i+1)*4+c-(epL x).length=i*4+c:=by simp[epL];omega
    rw[e]
    exact J i c H (by simpa using E)
 rw[D.cellAt _ (by omega),D.cellAt _ (by omega)]
 exact⟨o l j 1 (by omega) I,o l j 2 (by omega) I⟩
theorem zuT {C:Cx} {y:Im} {x:PR} {q q':PS} {z z':Int} (D:z<0→1≤q.pos) (H:Is x q z) (h:Is (bd x (zX C y)) q' z'):z'<0→1≤q'.pos:=by
 intro E
 obtain⟨e,_⟩:=zaF h E
 obtain⟨a,o,j⟩:=ze e
 subst o
 obtain⟨rfl,rfl⟩:=H
 unfold zX at j
 split at j
 ·cases j
 ·cases j
  exact D (by decide)
theorem zjl {C:Cx} {y:Ep} {x:PR} {q q':PS} {z z':Int} (o:z<0→1≤q.pos) (H:Is x q z) (h:Is (bd x (zm C y)) q' z'):z'<0→1≤q'.pos:=by
 intro E
 obtain⟨e,_⟩:=zaF h E
 obtain⟨a,D,j⟩:=ze e
 subst D
 obtain⟨rfl,rfl⟩:=H
 unfold zm at j
 split at j
 ·cases j
 ·split at j
  ·cases j
   exact o (by decide)
  ·cases j
   exact o (by decide)
theorem zuU (C:Cx) (H D z:Nat) (S:Sv) (q:PS) (w:World) (hm:Mem C H D z S q w) (hw:isT C q.pos 1 sImport=true) (h1:isT C (q.pos+1) 4 zF=false) (h2:isT C (q.pos+1) 4 zp=true):
  Calls Tryz.prog 48 #[pv C H D S q (-1) 0] w (Out C H D z (za3 C q) 0 S w):=by
 have HM:=zc hm
 have aa:=hm.few
 clear hm
 have HV:Hid (za3 C q=bd (bd (bd (bd (.ok (adv q)) (zd C 4 zp)) (zd C 1 sAs)) (zk C false)) fun a=>bd (zaD C (zav C (.ok a.1))) fun b=>zX C ⟨b.2,zp,a.2⟩ b.1):=by
  show _=_
  rw[za3,zd,if_pos hw,zh]
  rw[zz,h1,h2]
  rfl
 unfold pv
 go_enter Tryz.func48,Tryz.ntmps48
 go_wp2_with fail
 refine (zaT C H D z (.ok q) S q (-1) 0 sImport _ (zab q) ((HM.out.alloc _).alloc _)).mono ?_
 rintro e w1 ⟨S1,q1,z1,rfl,i1,m1,s1⟩
 obtain⟨N,Q,t1⟩:=HM.out.two2 s1
 have o:=zc N
 have j:=zc Q
 have ar:=zc m1
 have aA:=zc t1
 have ay:=zc i1
 clear N Q i1 m1 t1 s1
 obtain⟨aj,rfl⟩:=zdq ay.out hw
 have HQ:=zc aj
 have ai:Hid (q1.pos=q.pos+1):=by show q1.pos=q.pos+1;rw[aj];rfl
 clear aj ay
 obtain⟨a0,a1,a2,a3,a4,a5,a6,a7,a8,a9,J,K,af⟩:=o.out.box
 unfold pv
 go_upto_region 2 with fail
 refine zQ (R:=fun W=>Bx H S1 W (w.heap.size) _∧Bx H S1 W (w.heap.size+1) _∧Mem C H D z S1 q1 W∧SB w.heap.size S w S1 W) ⟨(o.out.put ..),(j.out.other (by omega) ..),(ar.out.put o.out ..),(aA.out.put (by omega) ..)⟩ ?_
 clear a0 a1 a2 a3 a4 a5 a6 a7 a8 a9 J K af
 clear o j aA ar
 rintro w2 ⟨N,Q,m2,t2⟩
 have o:=zc N
 have j:=zc Q
 have al:=zc m2
 have au:=zc t2
 clear m2 t2 N Q
 obtain⟨a0,a1,a2,a3,a4,a5,a6,a7,a8,a9,J,K,af⟩:=o.out.box
 go_wp2_with fail
 refine (zj C H D z S1 q1 (-1) 0 4 zF _ al.out.tok aa (by decide)).mono ?_
 rintro e w3 ⟨rfl,Y⟩
 rw[ai.out,h1]
 replace o:=zc (o.out.below Y)
 replace j:=zc (j.out.below Y)
 have aK:=zc (au.out.below Y)
 have an:=zc (al.out.later Y)
 clear Y au al
 clear a0 a1 a2 a3 a4 a5 a6 a7 a8 a9 J K af
 obtain⟨a0,a1,a2,a3,a4,a5,a6,a7,a8,a9,J,K,af⟩:=o.out.box
 go_wp2_with fail
 refine (zj C H D z S1 q1 (-1) 0 4 zp _ an.out.tok aa (by decide)).mono ?_
 rintro e w4 ⟨rfl,V⟩
 rw[ai.out,h2]
 replace o:=zc (o.out.below V)
 replace j:=zc (j.out.below V)
 have aO:=zc (aK.out.below V)
 have aM:=zc (an.out.later V)
 clear V aK an
 clear a0 a1 a2 a3 a4 a5 a6 a7 a8 a9 J K af
 obtain⟨a0,a1,a2,a3,a4,a5,a6,a7,a8,a9,J,K,af⟩:=o.out.box
 clear ai
 go_wp2_with fail
 refine (zah C H D z (.ok q1) S1 q1 (-1) 0 zp _ (zab q1) aM.out).mono ?_
 rintro e w5 ⟨S5,q5,z5,rfl,i5,m5,s5⟩
 replace o:=zc (o.out.stp s5)
 replace j:=zc (j.out.stp s5)
 have aI:=zc (aO.out.step s5)
 clear aO
 have aw:=zc m5
 have ba:=zc i5
 clear i5 m5 s5 aM
 clear a0 a1 a2 a3 a4 a5 a6 a7 a8 a9 J K af
 go_wp2_with fail
 refine (zaT C H D z _ S5 q5 z5 0 sAs _ ba.out aw.out).mono ?_
 rintro e w6 ⟨S6,q6,z6,rfl,i6,m6,s6⟩
 replace o:=zc (o.out.stp s6)
 replace j:=zc (j.out.stp s6)
 have aq:=zc (aI.out.step s6)
 clear aI
 have az:=zc m6
 have aW:=zc i6
 clear i6 m6 s6 aw
 go_wp2_with fail
 refine (zbz C H D z _ S6 q6 z6 0 false _ aW.out az.out).mono ?_
 rintro e w7 ⟨S7,q7,z7,n7,rfl,i7,m7,s7⟩
 replace o:=zc (o.out.stp s7)
 replace j:=zc (j.out.stp s7)
 have ap:=zc (aq.out.step s7)
 clear aq
 have ak:=zc m7
 have aE:=zc i7
 clear i7 m7 s7 az
 have bj:w.heap.size+1<w7.heap.size:=j.out.lt
 unfold pv
 go_upto_region 13 with fail
 refine zQ (R:=fun W=>Bx H S7 W (w.heap.size) _∧Bx H S7 W (w.heap.size+1) _∧Bx H S7 W (w7.heap.size) _∧Mem C H D z S7 q7 W∧SB w.heap.size S w S7 W) ⟨(o.out.alloc _),(j.out.alloc _),(Bx.new ak.out _),(ak.out.alloc _),(ap.out.alloc _)⟩ ?_
 clear o j ap ak
 rintro w8 ⟨N,Q,X2,m8,t8⟩
 have o:=zc N
 have j:=zc Q
 have E:=zc X2
 have aB:=zc m8
 have aR:=zc t8
 clear m8 t8 N Q X2
 obtain⟨c0,c1,c2,c3,c4,c5,c6,c7,c8,c9,bi,bb,cf⟩:=E.out.box
 go_wp2_with fail
 refine (zaT C H D z _ S7 q7 z7 0 zH _ aE.out.fst aB.out).mono ?_
 rintro e w9 ⟨S9,q9,z9,rfl,i9,m9,s9⟩
 replace o:=zc (o.out.stp s9)
 replace j:=zc (j.out.stp s9)
 replace E:=zc (E.out.stp s9)
 have aP:=zc (aR.out.step s9)
 clear aR
 have aS:=zc m9
 have aZ:=zc i9
 clear i9 m9 s9 aB
 clear c0 c1 c2 c3 c4 c5 c6 c7 c8 c9 bi bb cf
 go_wp2_with fail
 refine (zeD C H D z _ S9 q9 z9 0 _ aZ.out aS.out).mono ?_
 rintro e am ⟨I,aJ,aY,bg,rfl,aC,ao,X⟩
 replace o:=zc (o.out.stp X)
 replace j:=zc (j.out.stp X)
 replace E:=zc (E.out.stp X)
 have ac:=zc (aP.out.step X)
 clear aP
 have U:=zc ao
 have Z:=zc aC
 clear aC ao X aS
 have bk:w.heap.size+1<am.heap.size:=j.out.lt
 have aT:w7.heap.size<am.heap.size:=E.out.lt
 unfold pv
 go_upto_region 14 with fail
 refine zQ (R:=fun W=>Bx H I W (w.heap.size) _∧Bx H I W (w.heap.size+1) _∧Bx H I W (w7.heap.size) _∧Bx H I W (am.heap.size) _∧Mem C H D z I aJ W∧SB w.heap.size S w I W) ⟨(o.out.alloc _),(j.out.alloc _),(E.out.alloc _),(Bx.new U.out _),(U.out.alloc _),(ac.out.alloc _)⟩ ?_
 clear o j E ac U
 rintro bo ⟨N,Q,X2,X3,av,aF⟩
 have o:=zc N
 have j:=zc Q
 have E:=zc X2
 have O:=zc X3
 have ah:=zc av
 have ad:=zc aF
 clear av aF N Q X2 X3
 obtain⟨d0,d1,d2,d3,d4,d5,d6,d7,d8,d9,bc,aV,df⟩:=O.out.box
 go_wp2_with fail
 refine (zah C H D z _ I aJ aY 0 cSemi _ Z.out.fst ah.out).mono ?_
 rintro e bl ⟨be,aU,aX,rfl,aN,aH,M⟩
 replace o:=zc (o.out.stp M)
 replace j:=zc (j.out.stp M)
 replace E:=zc (E.out.stp M)
 replace O:=zc (O.out.stp M)
 have ae:=zc (ad.out.step M)
 clear ad
 have ab:=zc aH
 have ag:=zc aN
 clear aN aH M ah
 clear d0 d1 d2 d3 d4 d5 d6 d7 d8 d9 bc aV df
 go_wp2_with fail
 refine (zhR C H D z _ be aU aX 0 ⟨bg,zp,n7⟩ _ ag.out ab.out (zb5 ag.out)).mono ?_
 rintro e bt ⟨bm,bs,bq,rfl,ax,aG,L⟩
 replace o:=zc (o.out.stp L)
 replace j:=zc (j.out.stp L)
 replace E:=zc (E.out.stp L)
 replace O:=zc (O.out.stp L)
 have aL:=zc (ae.out.step L)
 clear ae
 have aQ:=zc aG
 have aD:=zc ax
 clear ax aG L ab
 obtain⟨b0,b1,b2,b3,b4,b5,b6,b7,b8,b9,br,bp,bf⟩:=j.out.box
 unfold pv
 go_wp2
 refine bodyPost_ret (results_cell_row rfl _ _ (w.heap.size+1) 55 _ (0,0) _ rfl ((j.out.put ..)).heap Tryz.underlying55 rfl (by kernel_rfl)) rfl ?_
 rw[HV.out,←HQ.out,←zmG (G:=fun b a=>zX C ⟨b,zp,a⟩) aE.out Z.out]
 exact zac rfl aD.out (aQ.out.put j.out ..) (aL.out.put (by omega) ..)
theorem zuV (C:Cx) (H D z:Nat) (S:Sv) (q:PS) (w:World) (hm:Mem C H D z S q w) (hw:isT C q.pos 1 sImport=true) (h1:isT C (q.pos+1) 4 zF=false) (h2:isT C (q.pos+1) 4 zp=false) (h3:plainB C (q.pos+1) false=true):
  Calls Tryz.prog 48 #[pv C H D S q (-1) 0] w (Out C H D z (za3 C q) 0 S w):=by
 have HM:=zc hm
 have O:=hm.few
 clear hm
 have HV:Hid (za3 C q=bd (bd (.ok (adv q)) (zk C false)) fun a=>bd (zaD C (zav C (.ok a.1))) fun b=>zX C ⟨b.2,sDefault,a.2⟩ b.1):=by
  show _=_
  rw[za3,zd,if_pos hw,zh]
  rw[zz,h1,h2,h3]
  rfl
 unfold pv
 go_enter Tryz.func48,Tryz.ntmps48
 go_wp2_with fail
 refine (zaT C H D z (.ok q) S q (-1) 0 sImport _ (zab q) ((HM.out.alloc _).alloc _)).mono ?_
 rintro e w1 ⟨S1,q1,z1,rfl,i1,m1,s1⟩
 obtain⟨M,Q,t1⟩:=HM.out.two2 s1
 have j:=zc M
 have o:=zc Q
 have aq:=zc m1
 have aA:=zc t1
 have az:=zc i1
 clear M Q i1 m1 t1 s1
 obtain⟨ag,rfl⟩:=zdq az.out hw
 have HQ:=zc ag
 have Y:Hid (q1.pos=q.pos+1):=by show q1.pos=q.pos+1;rw[ag];rfl
 clear ag az
 obtain⟨a0,a1,a2,Z,a4,a5,a6,a7,a8,a9,I,J,af⟩:=j.out.box
 unfold pv
 go_upto_region 2 with fail
 refine zQ (R:=fun W=>Bx H S1 W (w.heap.size) _∧Bx H S1 W (w.heap.size+1) _∧Mem C H D z S1 q1 W∧SB w.heap.size S w S1 W) ⟨(j.out.put ..),(o.out.other (by omega) ..),(aq.out.put j.out ..),(aA.out.put (by omega) ..)⟩ ?_
 clear a0 a1 a2 Z a4 a5 a6 a7 a8 a9 I J af
 clear j o aA aq
 rintro w2 ⟨M,Q,m2,t2⟩
 have j:=zc M
 have o:=zc Q
 have ah:=zc m2
 have ar:=zc t2
 clear m2 t2 M Q
 obtain⟨a0,a1,a2,Z,a4,a5,a6,a7,a8,a9,I,J,af⟩:=j.out.box
 go_wp2_with fail
 refine (zj C H D z S1 q1 (-1) 0 4 zF _ ah.out.tok O (by decide)).mono ?_
 rintro e w3 ⟨rfl,X⟩
 rw[Y.out,h1]
 replace j:=zc (j.out.below X)
 replace o:=zc (o.out.below X)
 have aG:=zc (ar.out.below X)
 have aj:=zc (ah.out.later X)
 clear X ar ah
 clear a0 a1 a2 Z a4 a5 a6 a7 a8 a9 I J af
 obtain⟨a0,a1,a2,Z,a4,a5,a6,a7,a8,a9,I,J,af⟩:=j.out.box
 go_wp2_with fail
 refine (zj C H D z S1 q1 (-1) 0 4 zp _ aj.out.tok O (by decide)).mono ?_
 rintro e w4 ⟨rfl,U⟩
 rw[Y.out,h2]
 replace j:=zc (j.out.below U)
 replace o:=zc (o.out.below U)
 have aK:=zc (aG.out.below U)
 have ak:=zc (aj.out.later U)
 clear U aG aj
 clear a0 a1 a2 Z a4 a5 a6 a7 a8 a9 I J af
 obtain⟨a0,a1,a2,Z,a4,a5,a6,a7,a8,a9,I,J,af⟩:=j.out.box
 go_wp2_with fail
 refine (zg5 C H D z S1 q1 (-1) 0 false _ ak.out.tok O).mono ?_
 rintro e w5 ⟨rfl,V⟩
 rw[Y.out,h3]
 replace j:=zc (j.out.below V)
 replace o:=zc (o.out.below V)
 have aE:=zc (aK.out.below V)
 have aw:=zc (ak.out.later V)
 clear V aK ak
 clear a0 a1 a2 Z a4 a5 a6 a7 a8 a9 I J af
 obtain⟨a0,a1,a2,Z,a4,a5,a6,a7,a8,a9,I,J,af⟩:=j.out.box
 clear Y
 go_wp2_with fail
 refine (zbz C H D z (.ok q1) S1 q1 (-1) 0 false _ (zab q1) aw.out).mono ?_
 rintro e w6 ⟨S6,q6,z6,n6,rfl,i6,m6,s6⟩
 replace j:=zc (j.out.stp s6)
 replace o:=zc (o.out.stp s6)
 have ao:=zc (aE.out.step s6)
 clear aE
 have ai:=zc m6
 have ap:=zc i6
 clear i6 m6 s6 aw
 clear a0 a1 a2 Z a4 a5 a6 a7 a8 a9 I J af
 have aW:w.heap.size+1<w6.heap.size:=o.out.lt
 unfold pv
 go_upto_region 17 with fail
 refine zQ (R:=fun W=>Bx H S6 W (w.heap.size) _∧Bx H S6 W (w.heap.size+1) _∧Bx H S6 W (w6.heap.size) _∧Mem C H D z S6 q6 W∧SB w.heap.size S w S6 W) ⟨(j.out.alloc _),(o.out.alloc _),(Bx.new ai.out _),(ai.out.alloc _),(ao.out.alloc _)⟩ ?_
 clear j o ao ai
 rintro w7 ⟨M,Q,X2,m7,t7⟩
 have j:=zc M
 have o:=zc Q
 have E:=zc X2
 have ay:=zc m7
 have an:=zc t7
 clear m7 t7 M Q X2
 obtain⟨c0,c1,c2,c3,c4,c5,c6,c7,c8,c9,aV,aS,cf⟩:=E.out.box
 go_wp2_with fail
 refine (zaT C H D z _ S6 q6 z6 0 zH _ ap.out.fst ay.out).mono ?_
 rintro e w8 ⟨S8,q8,z8,rfl,i8,m8,s8⟩
 replace j:=zc (j.out.stp s8)
 replace o:=zc (o.out.stp s8)
 replace E:=zc (E.out.stp s8)
 have aM:=zc (an.out.step s8)
 clear an
 have aB:=zc m8
 have aP:=zc i8
 clear i8 m8 s8 ay
 clear c0 c1 c2 c3 c4 c5 c6 c7 c8 c9 aV aS cf
 go_wp2_with fail
 refine (zeD C H D z _ S8 q8 z8 0 _ aP.out aB.out).mono ?_
 rintro e w9 ⟨S9,q9,z9,n9,rfl,i9,m9,s9⟩
 replace j:=zc (j.out.stp s9)
 replace o:=zc (o.out.stp s9)
 replace E:=zc (E.out.stp s9)
 have aL:=zc (aM.out.step s9)
 clear aM
 have al:=zc m9
 have ax:=zc i9
 clear i9 m9 s9 aB
 have aX:w.heap.size+1<w9.heap.size:=o.out.lt
 have aN:w6.heap.size<w9.heap.size:=E.out.lt
 unfold pv
 go_upto_region 18 with fail
 refine zQ (R:=fun W=>Bx H S9 W (w.heap.size) _∧Bx H S9 W (w.heap.size+1) _∧Bx H S9 W (w6.heap.size) _∧Bx H S9 W (w9.heap.size) _∧Mem C H D z S9 q9 W∧SB w.heap.size S w S9 W) ⟨(j.out.alloc _),(o.out.alloc _),(E.out.alloc _),(Bx.new al.out _),(al.out.alloc _),(aL.out.alloc _)⟩ ?_
 clear j o E aL al
 rintro bb ⟨M,Q,X2,X3,am,aD⟩
 have j:=zc M
 have o:=zc Q
 have E:=zc X2
 have N:=zc X3
 have ac:=zc am
 have aa:=zc aD
 clear am aD M Q X2 X3
 obtain⟨d0,d1,d2,d3,d4,d5,d6,d7,d8,d9,aT,aO,df⟩:=N.out.box
 go_wp2_with fail
 refine (zah C H D z _ S9 q9 z9 0 cSemi _ ax.out.fst ac.out).mono ?_
 rintro e bc ⟨aR,aU,aQ,rfl,aH,av,L⟩
 replace j:=zc (j.out.stp L)
 replace o:=zc (o.out.stp L)
 replace E:=zc (E.out.stp L)
 replace N:=zc (N.out.stp L)
 have ab:=zc (aa.out.step L)
 clear aa
 have ae:=zc av
 have ad:=zc aH
 clear aH av L ac
 clear d0 d1 d2 d3 d4 d5 d6 d7 d8 d9 aT aO df
 go_wp2_with fail
 refine (zhR C H D z _ aR aU aQ 0 ⟨n9,sDefault,n6⟩ _ ad.out ae.out (zb5 ad.out)).mono ?_
 rintro e aZ ⟨bi,aY,ba,rfl,aI,aC,K⟩
 replace j:=zc (j.out.stp K)
 replace o:=zc (o.out.stp K)
 replace E:=zc (E.out.stp K)
 replace N:=zc (N.out.stp K)
 have aF:=zc (ab.out.step K)
 clear ab
 have au:=zc aC
 have aJ:=zc aI
 clear aI aC K ae
 obtain⟨b0,b1,b2,b3,b4,b5,b6,b7,b8,b9,bg,be,bf⟩:=o.out.box
 unfold pv
 go_wp2
 refine bodyPost_ret (results_cell_row rfl _ _ (w.heap.size+1) 55 _ (0,0) _ rfl ((o.out.put ..)).heap Tryz.underlying55 rfl (by kernel_rfl)) rfl ?_
 rw[HV.out,←HQ.out,←zmG (G:=fun b a=>zX C ⟨b,sDefault,a⟩) ap.out ax.out]
 exact zac rfl aJ.out (au.out.put o.out ..) (aF.out.put (by omega) ..)
theorem zuW (C:Cx) (I D z:Nat) (S:Sv) (q:PS) (w:World) (hm:Mem C I D z S q w) (hw:isT C q.pos 1 sImport=true) (h1:isT C (q.pos+1) 4 zF=false) (h2:isT C (q.pos+1) 4 zp=false) (h3:plainB C (q.pos+1) false=false):
  Calls Tryz.prog 48 #[pv C I D S q (-1) 0] w (Out C I D z (za3 C q) 0 S w):=by
 have HM:=zc hm
 have J:=hm.few
 clear hm
 have HV:Hid (za3 C q=bd (bd (.ok (adv q)) (zy C)) fun a=>zd C 4 cSemi a.1):=by
  show _=_
  rw[za3,zd,if_pos hw,zh]
  rw[zz,h1,h2,h3]
  rfl
 unfold pv
 go_enter Tryz.func48,Tryz.ntmps48
 go_wp2_with fail
 refine (zaT C I D z (.ok q) S q (-1) 0 sImport _ (zab q) ((HM.out.alloc _).alloc _)).mono ?_
 rintro e w1 ⟨S1,Z,z1,rfl,i1,m1,s1⟩
 obtain⟨X0,X1,t1⟩:=HM.out.two2 s1
 have j:=zc X0
 have o:=zc X1
 have ak:=zc m1
 have ap:=zc t1
 have ao:=zc i1
 clear X0 X1 i1 m1 t1 s1
 obtain⟨aa,rfl⟩:=zdq ao.out hw
 have HQ:=zc aa
 have N:Hid (Z.pos=q.pos+1):=by show Z.pos=q.pos+1;rw[aa];rfl
 clear aa ao
 obtain⟨V,Y,Q,O,a4,a5,X,a7,U,a9,E,H,af⟩:=j.out.box
 unfold pv
 go_upto_region 2 with fail
 refine zQ (R:=fun W=>Bx I S1 W (w.heap.size) _∧Bx I S1 W (w.heap.size+1) _∧Mem C I D z S1 Z W∧SB w.heap.size S w S1 W) ⟨(j.out.put ..),(o.out.other (by omega) ..),(ak.out.put j.out ..),(ap.out.put (by omega) ..)⟩ ?_
 clear V Y Q O a4 a5 X a7 U a9 E H af
 clear j o ap ak
 rintro w2 ⟨X0,X1,m2,t2⟩
 have j:=zc X0
 have o:=zc X1
 have ab:=zc m2
 have al:=zc t2
 clear m2 t2 X0 X1
 obtain⟨V,Y,Q,O,a4,a5,X,a7,U,a9,E,H,af⟩:=j.out.box
 go_wp2_with fail
 refine (zj C I D z S1 Z (-1) 0 4 zF _ ab.out.tok J (by decide)).mono ?_
 rintro e w3 ⟨rfl,M⟩
 rw[N.out,h1]
 replace j:=zc (j.out.below M)
 replace o:=zc (o.out.below M)
 have ar:=zc (al.out.below M)
 have ad:=zc (ab.out.later M)
 clear M al ab
 clear V Y Q O a4 a5 X a7 U a9 E H af
 obtain⟨V,Y,Q,O,a4,a5,X,a7,U,a9,E,H,af⟩:=j.out.box
 go_wp2_with fail
 refine (zj C I D z S1 Z (-1) 0 4 zp _ ad.out.tok J (by decide)).mono ?_
 rintro e w4 ⟨rfl,K⟩
 rw[N.out,h2]
 replace j:=zc (j.out.below K)
 replace o:=zc (o.out.below K)
 have au:=zc (ar.out.below K)
 have ae:=zc (ad.out.later K)
 clear K ar ad
 clear V Y Q O a4 a5 X a7 U a9 E H af
 obtain⟨V,Y,Q,O,a4,a5,X,a7,U,a9,E,H,af⟩:=j.out.box
 go_wp2_with fail
 refine (zg5 C I D z S1 Z (-1) 0 false _ ae.out.tok J).mono ?_
 rintro e w5 ⟨rfl,L⟩
 rw[N.out,h3]
 replace j:=zc (j.out.below L)
 replace o:=zc (o.out.below L)
 have aq:=zc (au.out.below L)
 have am:=zc (ae.out.later L)
 clear L au ae
 clear V Y Q O a4 a5 X a7 U a9 E H af
 obtain⟨V,Y,Q,O,a4,a5,X,a7,U,a9,E,H,af⟩:=j.out.box
 clear N
 go_wp2_with fail
 refine (zeD C I D z (.ok Z) S1 Z (-1) 0 _ (zab Z) am.out).mono ?_
 rintro e w6 ⟨S6,q6,z6,n6,rfl,i6,m6,s6⟩
 replace j:=zc (j.out.stp s6)
 replace o:=zc (o.out.stp s6)
 have ai:=zc (aq.out.step s6)
 clear aq
 have ac:=zc m6
 have aj:=zc i6
 clear i6 m6 s6 am
 clear V Y Q O a4 a5 X a7 U a9 E H af
 have aA:w.heap.size+1<w6.heap.size:=o.out.lt
 unfold pv
 go_upto_region 20 with fail
 refine zQ (R:=fun W=>Bx I S6 W (w.heap.size) _∧Bx I S6 W (w.heap.size+1) _∧Bx I S6 W (w6.heap.size) _∧Mem C I D z S6 q6 W∧SB w.heap.size S w S6 W) ⟨(j.out.alloc _),(o.out.alloc _),(Bx.new ac.out _),(ac.out.alloc _),(ai.out.alloc _)⟩ ?_
 clear j o ai ac
 rintro w7 ⟨X0,X1,X2,m7,t7⟩
 have j:=zc X0
 have o:=zc X1
 have ag:=zc X2
 have an:=zc m7
 have ah:=zc t7
 clear m7 t7 X0 X1 X2
 obtain⟨c0,c1,c2,c3,c4,c5,c6,c7,c8,c9,ay,ax,cf⟩:=ag.out.box
 go_wp2_with fail
 refine (zah C I D z _ S6 q6 z6 0 cSemi _ aj.out.fst an.out).mono ?_
 rintro e w8 ⟨S8,q8,z8,rfl,i8,m8,s8⟩
 replace j:=zc (j.out.stp s8)
 replace o:=zc (o.out.stp s8)
 replace ag:=zc (ag.out.stp s8)
 have az:=zc (ah.out.step s8)
 clear ah
 have aw:=zc m8
 have av:=zc i8
 clear i8 m8 s8 an
 clear c0 c1 c2 c3 c4 c5 c6 c7 c8 c9 ay ax cf
 obtain⟨b0,b1,b2,b3,b4,b5,b6,b7,b8,b9,aC,aB,bf⟩:=o.out.box
 unfold pv
 go_wp2
 refine bodyPost_ret (results_cell_row rfl _ _ (w.heap.size+1) 55 _ (0,0) _ rfl ((o.out.put ..)).heap Tryz.underlying55 rfl (by kernel_rfl)) rfl ?_
 rw[HV.out,←HQ.out,←aj.out.bind (fun q _=>zd C 4 cSemi q)]
 exact zac rfl av.out (aw.out.put o.out ..) (az.out.put (by omega) ..)
theorem zuX (C:Cx) (H E z:Nat) (S:Sv) (q:PS) (w:World) (hm:Mem C H E z S q w) (hw:isT C q.pos 1 sImport=true) (h1:isT C (q.pos+1) 4 zF=true):
  Calls Tryz.prog 48 #[pv C H E S q (-1) 0] w (Out C H E z (za3 C q) 0 S w):=by
 have HM:=zc hm
 have au:=hm.few
 clear hm
 have HV:Hid (za3 C q=bd (zbB C false (adv q)) fun a=>bd (zaD C (zav C (.ok a.1))) fun b=>zK (fun e=>zX C (zbW b.2 e)) a.2 (.ok b.1)):=by
  show _=_
  rw[za3,zd,if_pos hw,zh]
  rw[zz,h1]
  rfl
 unfold pv
 go_enter Tryz.func48,Tryz.ntmps48
 go_wp2_with fail
 refine (zaT C H E z (.ok q) S q (-1) 0 sImport _ (zab q) ((HM.out.alloc _).alloc _)).mono ?_
 rintro e w1 ⟨S1,q1,z1,rfl,i1,m1,s1⟩
 obtain⟨N,Q,t1⟩:=HM.out.two2 s1
 have o:=zc N
 have D:=zc Q
 have av:=zc m1
 have aE:=zc t1
 have aC:=zc i1
 clear N Q i1 m1 t1 s1
 obtain⟨ai,rfl⟩:=zdq aC.out hw
 have HQ:=zc ai
 have ar:Hid (q1.pos=q.pos+1):=by show q1.pos=q.pos+1;rw[ai];rfl
 clear ai aC
 obtain⟨a0,a1,a2,a3,a4,a5,a6,a7,a8,a9,K,L,af⟩:=o.out.box
 unfold pv
 go_upto_region 2 with fail
 refine zQ (R:=fun W=>Bx H S1 W (w.heap.size) _∧Bx H S1 W (w.heap.size+1) _∧Mem C H E z S1 q1 W∧SB w.heap.size S w S1 W) ⟨(o.out.put ..),(D.out.other (by omega) ..),(av.out.put o.out ..),(aE.out.put (by omega) ..)⟩ ?_
 clear a0 a1 a2 a3 a4 a5 a6 a7 a8 a9 K L af
 clear o D aE av
 rintro w2 ⟨N,Q,m2,t2⟩
 have o:=zc N
 have D:=zc Q
 have ak:=zc m2
 have aw:=zc t2
 clear m2 t2 N Q
 obtain⟨a0,a1,a2,a3,a4,a5,a6,a7,a8,a9,K,L,af⟩:=o.out.box
 go_wp2_with fail
 refine (zj C H E z S1 q1 (-1) 0 4 zF _ ak.out.tok au (by decide)).mono ?_
 rintro e w3 ⟨rfl,ad⟩
 rw[ar.out,h1]
 replace o:=zc (o.out.below ad)
 replace D:=zc (D.out.below ad)
 have am:=zc (aw.out.below ad)
 have aJ:=zc (ak.out.later ad)
 clear ad aw ak
 clear a0 a1 a2 a3 a4 a5 a6 a7 a8 a9 K L af
 obtain⟨a0,a1,a2,a3,a4,a5,a6,a7,a8,a9,K,L,af⟩:=o.out.box
 clear ar
 have aV:=am.out.size
 go_wp2_with fail
 refine (zm2 C H E z S1 q1 0 false _ aJ.out).mono ?_
 rintro e w4 ⟨S4,q4,z4,⟨ra,rc⟩,l,rfl,i4,m4,s4,R0,hl⟩
 obtain⟨g,rfl⟩: ∃g,ra=some ⟨g,0,none⟩:=R0.addr
 replace o:=zc (o.out.stp s4)
 replace D:=zc (D.out.stp s4)
 have aO:=zc (am.out.step s4)
 clear am
 have an:=zc m4
 have aL:=zc i4
 clear i4 m4 s4 aJ
 clear a0 a1 a2 a3 a4 a5 a6 a7 a8 a9 K L af
 have J:Hid (Row S4 w4 z w.heap.size ⟨some ⟨g,0,none⟩,rc⟩ l):=⟨R0.own,R0.free,fun k hk=>Nat.le_trans aV (R0.new k hk),R0.addr⟩
 clear R0
 have ba:w.heap.size+1<w4.heap.size:=D.out.lt
 unfold pv
 go_upto_region 4 with fail
 refine zQ (R:=fun W=>Bx H S4 W (w.heap.size) _∧Bx H S4 W (w.heap.size+1) _∧Bx H S4 W (w4.heap.size) _∧Row S4 W z w.heap.size ⟨some ⟨g,0,none⟩,rc⟩ l∧Mem C H E z S4 q4 W∧SB w.heap.size S w S4 W) ⟨(o.out.alloc _),(D.out.alloc _),(Bx.new an.out _),(J.out.alloc _),(an.out.alloc _),(aO.out.alloc _)⟩ ?_
 clear o D aO an
 clear J
 rintro w5 ⟨N,Q,X2,R0,m5,t5⟩
 have J:=zc R0
 clear R0
 have o:=zc N
 have D:=zc Q
 have I:=zc X2
 have ay:=zc m5
 have aM:=zc t5
 clear m5 t5 N Q X2
 obtain⟨c0,c1,c2,c3,c4,c5,c6,c7,c8,c9,aY,aW,cf⟩:=I.out.box
 go_wp2_with fail
 refine (zaT C H E z _ S4 q4 z4 0 zH _ aL.out.fst ay.out).mono ?_
 rintro e w6 ⟨S6,q6,z6,rfl,i6,m6,s6⟩
 replace o:=zc (o.out.stp s6)
 replace D:=zc (D.out.stp s6)
 replace I:=zc (I.out.stp s6)
 have aq:=zc (aM.out.step s6)
 have O:Hid (Row S6 w6 z w.heap.size ⟨some ⟨g,0,none⟩,rc⟩ l):=J.out.stp s6
 clear J
 have J:=zc O
 clear O
 clear aM
 have aD:=zc m6
 have aS:=zc i6
 clear i6 m6 s6 ay
 clear c0 c1 c2 c3 c4 c5 c6 c7 c8 c9 aY aW cf
 go_wp2_with fail
 refine (zeD C H E z _ S6 q6 z6 0 _ aS.out aD.out).mono ?_
 rintro e w7 ⟨S7,q7,z7,n7,rfl,i7,m7,s7⟩
 replace o:=zc (o.out.stp s7)
 replace D:=zc (D.out.stp s7)
 replace I:=zc (I.out.stp s7)
 have ap:=zc (aq.out.step s7)
 have O:Hid (Row S7 w7 z w.heap.size ⟨some ⟨g,0,none⟩,rc⟩ l):=J.out.stp s7
 clear J
 have J:=zc O
 clear O
 clear aq
 have aj:=zc m7
 have aI:=zc i7
 clear i7 m7 s7 aD
 have bb:w.heap.size+1<w7.heap.size:=D.out.lt
 have aR:w4.heap.size<w7.heap.size:=I.out.lt
 unfold pv
 go_upto_region 5 with fail
 refine zQ (R:=fun W=>Bx H S7 W (w.heap.size) _∧Bx H S7 W (w.heap.size+1) _∧Bx H S7 W (w4.heap.size) _∧Bx H S7 W (w7.heap.size) _∧Row S7 W z w.heap.size ⟨some ⟨g,0,none⟩,rc⟩ l∧Mem C H E z S7 q7 W∧SB w.heap.size S w S7 W) ⟨(o.out.alloc _),(D.out.alloc _),(I.out.alloc _),(Bx.new aj.out _),(J.out.alloc _),(aj.out.alloc _),(ap.out.alloc _)⟩ ?_
 clear o D I ap aj
 clear J
 rintro w8 ⟨N,Q,X2,X3,R0,m8,t8⟩
 have J:=zc R0
 clear R0
 have o:=zc N
 have D:=zc Q
 have I:=zc X2
 have V:=zc X3
 have aF:=zc m8
 have aP:=zc t8
 clear m8 t8 N Q X2 X3
 obtain⟨d0,d1,d2,d3,d4,d5,d6,d7,d8,d9,al,ah,df⟩:=V.out.box
 go_wp2_with fail
 refine (zah C H E z _ S7 q7 z7 0 cSemi _ aI.out.fst aF.out).mono ?_
 rintro e w9 ⟨Z,q9,z9,rfl,i9,m9,s9⟩
 replace o:=zc (o.out.stp s9)
 replace D:=zc (D.out.stp s9)
 replace I:=zc (I.out.stp s9)
 replace V:=zc (V.out.stp s9)
 have ab:=zc (aP.out.step s9)
 have O:Hid (Row Z w9 z w.heap.size ⟨some ⟨g,0,none⟩,rc⟩ l):=J.out.stp s9
 clear J
 have J:=zc O
 clear O
 clear aP
 have ac:=zc m9
 have Y:=zc i9
 clear i9 m9 s9 aF
 clear d0 d1 d2 d3 d4 d5 d6 d7 d8 d9 al ah df
 obtain⟨a0,a1,a2,a3,a4,a5,a6,a7,a8,a9,K,L,af⟩:=o.out.box
 unfold pv
 go_upto_region 6 with fail
 refine zQ (R:=fun W=>Bx H Z W (w.heap.size) _∧Bx H Z W (w.heap.size+1) _∧Bx H Z W (w4.heap.size) _∧Bx H Z W (w7.heap.size) _∧Row Z W z w.heap.size ⟨some ⟨g,0,none⟩,rc⟩ l∧Mem C H E z Z q9 W∧SB w.heap.size S w Z W) ⟨(o.out.put ..),(D.out.other (by omega) ..),(I.out.other (by omega) ..),(V.out.other (by omega) ..),(J.out.put o.out ..),(ac.out.put o.out ..),(ab.out.put (by omega) ..)⟩ ?_
 clear a0 a1 a2 a3 a4 a5 a6 a7 a8 a9 K L af
 clear o D I V ab ac
 clear J
 rintro aH ⟨N,Q,X2,X3,R0,aa,aK⟩
 have J:=zc R0
 clear R0
 have o:=zc N
 have D:=zc Q
 have I:=zc X2
 have V:=zc X3
 have X:=zc aa
 have ag:=zc aK
 clear aa aK N Q X2 X3
 have aU:Hid (_=_):=zjk (G:=fun b e=>zX C (zbW b e)) aL.out aI.out
 go_wp2
 go_loopg [8] l.length (fun k i wr=>∃(j:Nat) (x':PR) (U:Sv) (q':PS) (z':Int),j≤l.length∧i= .int .i64 j∧Is x' q' z'∧(z'<0→1≤q'.pos)∧zK (fun e=>zX C (zbW n7 e)) (l.drop j) x'=za3 C q∧l.length-j=k∧Mem C H E z U q' wr∧SB w.heap.size S w U wr∧Bx H U wr w.heap.size #[.slice (some ⟨H,0,none⟩) C.ts.length E,.int .i64 q'.pos,.int .i64 C.fin,.bool C.scr,.slice U.rq.a q'.rq.length U.rq.cap,.slice U.im.a q'.im.length U.im.cap,.slice U.ep.a q'.ep.length U.ep.cap,.slice U.st.a q'.st.length U.st.cap,.slice U.ex.a q'.ex.length U.ex.cap,.slice U.la.a q'.la.length U.la.cap,.int .i64 z',.int .i64 0]∧Bx H U wr (w.heap.size+1) #[.slice none 0 0,.int .i64 0,.int .i64 0,.bool false,.slice none 0 0,.slice none 0 0,.slice none 0 0,.slice none 0 0,.slice none 0 0,.slice none 0 0,.int .i64 0,.int .i64 0]∧Row U wr z w.heap.size ⟨some ⟨g,0,none⟩,rc⟩ l)
 case atStart=>exact⟨0,_,Z,q9,z9,Nat.zero_le _,rfl,Y.out,zb5 Y.out,by rw[HV.out,←HQ.out];exact aU.out,rfl,X.out,ag.out,o.out,D.out,J.out⟩
 case round=>
  obtain⟨j,x9,Z,q9,z9,hj,rfl,i9,p9,e9,g9,m9,t9,N,Q,R0⟩:=hrel
  clear o D I V J X ag
  have o:=zc N
  have D:=zc Q
  have ac:=zc m9
  have ab:=zc t9
  have Y:=zc i9
  have aN:=zc p9
  have aQ:=zc e9
  have aA:=zc g9
  have J:=zc R0
  clear N Q i9 m9 t9 e9 g9 R0 p9
  by_cases az:j<l.length
  ·skip
   obtain⟨c1,c2⟩:=J.out.cells (g:=g) rfl az
   have bc:=J.out.own.lt (g:=g) rfl
   have HX:Hid (∀e,e=l[j]→zK (fun e=>zX C (zbW n7 e)) (l.drop (j+1)) (bd x9 (zX C (zbW n7 e)))=za3 C q):=fun e he=>by rw[he,←aQ.out];exact (zht (fun e=>zX C (zbW n7 e)) l x9 az).symm
   generalize ax:l[j]=el at c1 c2
   have aZ:Hid (el=l[j]):=ax.symm
   clear ax
   obtain⟨a0,a1,a2,a3,a4,a5,a6,a7,a8,a9,K,L,af⟩:=o.out.box
   go_upto_region 9 with fail
   go_region_law (first|(go_simp;go_wp2_with (go_at_call 98;refine (zhR C H E z x9 Z q9 z9 0 (zbW n7 el) _ Y.out ac.out.drew aN.out).mono ?_;rintro e aH ⟨aB,aX,aT,rfl,aG,aa,ao⟩;obtain⟨d0,d1,d2,d3,d4,d5,d6,d7,d8,d9,al,ah,df⟩:=(o.out.stp ao.undrew).box;unfold pv)))
   all_goals
    clear a0 a1 a2 a3 a4 a5 a6 a7 a8 a9 K L af d0 d1 d2 d3 d4 d5 d6 d7 d8 d9 al ah df
    have ae:=zc aG
    have X:=zc aa
    have M:Hid (Stp Z wr aB aH):=ao.undrew
    clear aG aa ao
    go_wp2
    go_roundg (gk-1)
    case rel=>exact⟨j+1,_,aB,aX,aT,by omega,by go_num,ae.out,zuT aN.out Y.out ae.out,HX.out el aZ.out,by have:=aA.out;omega,X.out.put (o.out.stp M.out) _ _ _ _ _ _ _ _ _ _ _ _,(ab.out.step M.out).put (by omega) _ _ _ _ _ _ _ _ _ _ _ _,(o.out.stp M.out).put _ _ _ _ _ _ _ _ _ _ _ _,(D.out.stp M.out).other (by omega) _ _ _ _ _ _ _ _ _ _ _ _,(J.out.stp M.out).put (o.out.stp M.out) _ _ _ _ _ _ _ _ _ _ _ _⟩
    case measure=>have:=aA.out;omega
  ·skip
   obtain⟨a0,a1,a2,a3,a4,a5,a6,a7,a8,a9,K,L,af⟩:=o.out.box
   obtain⟨b0,b1,b2,b3,b4,b5,b6,b7,b8,b9,bg,be,bf⟩:=D.out.box
   go_wp2
   refine bodyPost_ret (results_cell_row rfl _ _ (w.heap.size+1) 55 _ (0,0) _ rfl ((D.out.put ..)).heap Tryz.underlying55 rfl (by kernel_rfl)) rfl ?_
   exact zac rfl (show Is (za3 C q) q9 z9 from by rw[←aQ.out,List.drop_eq_nil_of_le (by omega)];exact Y.out) (ac.out.put D.out ..) (ab.out.put (by omega) ..)
theorem zuY {C:Cx} {k:Int} {n:ByteArray} {q q':PS} (h:zE C k n q= .ok q'):q'={q with st:=q.st++[⟨k,n,(q.ex.length:Int)-1⟩]}∧q.st.length<80:=by
 unfold zE at h
 split at h
 ·cases h
 ·cases h
  exact⟨rfl,by omega⟩
theorem zmH {C:Cx} {x:PR} {k:Int} {s:ByteArray} {j:Int} {n:ByteArray} {q:PS} {z:Int} (h:Is (bd (bd x (zd C k s)) (zE C j n)) q z):z<0→1≤q.pos:=by
 intro D
 obtain⟨e,_⟩:=zaF h D
 obtain⟨a,H,E⟩:=ze e
 obtain⟨b,_,o⟩:=ze H
 obtain⟨rfl,_⟩:=zbh o
 obtain⟨rfl,_⟩:=zuY E
 simp[adv]
theorem zmI {C:Cx} {y:PRN} {G:PR→PR} {k:Int} {s:ByteArray} {j:Int} {q:PS} {z:Int} {n:ByteArray} (h:Is2 (withN y fun x n=>bd (bd (G x) (zd C k s)) (zE C j n)) q z n):z<0→1≤q.pos:=by
 intro E
 cases y with
 |error e=>have:z=(e:Int):=h;omega
 |ok a=>
  have o:Is2 (bd (bd (bd (G (.ok a.1)) (zd C k s)) (zE C j a.2)) fun q=>.ok (q,a.2)) q z n:=h
  cases D:bd (bd (G (.ok a.1)) (zd C k s)) (zE C j a.2) with
  |error e=>rw[D] at o;have:z=(e:Int):=o;omega
  |ok b=>
   rw[D] at o
   obtain⟨rfl,rfl,_⟩:=o
   exact zmH (show Is (bd (bd (G (.ok a.1)) (zd C k s)) (zE C j a.2)) q (-1) by rw[D];exact⟨rfl,rfl⟩) (by decide)
theorem zuZ {C:Cx} {j q:PS} {z:Int} {n:ByteArray} (h:Is2 (zbA C j) q z n):z<0→1≤q.pos:=zmI (G:=fun x=>bd (bd x (zd C 4 cEq)) (pE C .sum 0)) h
theorem zva {C:Cx} {j q:PS} {z:Int} {n:ByteArray} (h:Is2 (fnP C j) q z n):z<0→1≤q.pos:=zmI (G:=fun x=>bd (bd (bd (bd (bd (bd x (zd C 4 cOpen)) (zd C 4 zU)) (zd C 4 zF)) (zd C 1 zdw)) (pE C .sum 0)) (zd C 4 cSemi)) h
theorem zvb {C:Cx} {x:PR} {D:PS} {H:Int} {o:ByteArray} {G:ByteArray→PS→PR} (j:Is2 (bd (bd x (zd C 1 zH)) (zy C)) D H o):
  bd (bd (za7 (bd (bd x (zd C 1 zH)) (zy C))) (zd C 4 cSemi)) (G o)=bd (zaD C (zav C x)) fun b=>G b.2 b.1:=by
 have z:bd (bd x (zd C 1 zH)) (zy C)=zav C x:=rfl
 rw[z] at j ⊢
 cases E:zav C x with
 |error e=>rfl
 |ok b=>
  rw[E] at j
  obtain⟨_,_,rfl⟩:=j
  show bd (zd C 4 cSemi b.1) (G b.2)=bd (bd (zd C 4 cSemi b.1) fun q=>.ok (q,b.2)) fun b=>G b.2 b.1
  rw[zR]
  rfl
theorem zvc {C:Cx} {y:PRL} {o:PS} {j:Int} {l:List Ep} {f:Ep→PS→PR} {D:PS×List Ep→PR} (H:Is3 y o j l) (E:za2 l=false) (z:(decide (j<0)&&isT C o.pos 1 zH)=false):
  zK f l (bd (zgk y) (zd C 4 cSemi))=bd y fun a=>if !za2 a.2&& !isT C a.1.pos 1 zH then bd (zd C 4 cSemi a.1) fun q=>zK f a.2 (.ok q) else D a:=by
 cases y with
 |error e=>exact zgj _ _ _
 |ok a=>
  obtain⟨rfl,rfl,rfl⟩:=H
  rw[Bool.and_eq_false_iff] at z
  rw[zh,E,z.resolve_left (by decide)]
  show zK f a.2 (zd C 4 cSemi a.1)=bd (zd C 4 cSemi a.1) fun q=>zK f a.2 (.ok q)
  cases zd C 4 cSemi a.1 with
  |error e=>exact zgj _ _ _
  |ok c=>rfl
theorem zmJ {C:Cx} {y:PRL} {z:PS} {o:Int} {l:List Ep} {D E:PS×List Ep→PR} (H:Is3 y z o l) (j:za2 l=true∨(decide (o<0)&&isT C z.pos 1 zH)=true):
  bd y D=bd y fun a=>if !za2 a.2&& !isT C a.1.pos 1 zH then E a else D a:=by
 cases y with
 |error e=>rfl
 |ok a=>
  obtain⟨rfl,rfl,rfl⟩:=H
  rw[zh,zh]
  rcases j with h|h
  ·rw[h];rfl
  ·rw[Bool.and_eq_true] at h
   rw[h.2,Bool.not_true,Bool.and_false]
   rfl
theorem zvd (C:Cx) (E D z:Nat) (S:Sv) (q:PS) (w:World) (hm:Mem C E D z S q w) (hw:isT C q.pos 1 sExport=true) (h1:isT C (q.pos+1) 4 zF=false) (h2:isT C (q.pos+1) 4 zp=true):
  Calls Tryz.prog 49 #[pv C E D S q (-1) 0] w (Out C E D z (zV C q) 0 S w):=by
 have HM:=zc hm
 have O:=hm.few
 clear hm
 have HV:Hid (zV C q=bd (zaD C (zav C (bd (.ok (adv q)) (zd C 4 zp)))) fun b=>zm C ⟨3,sNone,sNone,b.2⟩ b.1):=by
  show _=_
  rw[zV,zd,if_pos hw,zh]
  rw[zz,h1,h2]
  rfl
 unfold pv
 go_enter Tryz.func49,Tryz.ntmps49
 go_wp2_with fail
 refine (zaT C E D z (.ok q) S q (-1) 0 sExport _ (zab q) ((HM.out.alloc _).alloc _)).mono ?_
 rintro e w1 ⟨Z,U,z1,rfl,i1,m1,s1⟩
 obtain⟨N,Q,t1⟩:=HM.out.two2 s1
 have j:=zc N
 have o:=zc Q
 have ai:=zc m1
 have ap:=zc t1
 have an:=zc i1
 clear N Q i1 m1 t1 s1
 obtain⟨X,rfl⟩:=zdq an.out hw
 have HQ:=zc X
 have V:Hid (U.pos=q.pos+1):=by show U.pos=q.pos+1;rw[X];rfl
 clear X an
 obtain⟨a0,a1,a2,Y,a4,a5,a6,a7,a8,a9,H,I,af⟩:=j.out.box
 unfold pv
 go_upto_region 2 with fail
 refine zQ (R:=fun W=>Bx E Z W (w.heap.size) _∧Bx E Z W (w.heap.size+1) _∧Mem C E D z Z U W∧SB w.heap.size S w Z W) ⟨(j.out.put ..),(o.out.other (by omega) ..),(ai.out.put j.out ..),(ap.out.put (by omega) ..)⟩ ?_
 clear a0 a1 a2 Y a4 a5 a6 a7 a8 a9 H I af
 clear j o ap ai
 rintro w2 ⟨N,Q,m2,t2⟩
 have j:=zc N
 have o:=zc Q
 have ab:=zc m2
 have aj:=zc t2
 clear m2 t2 N Q
 obtain⟨a0,a1,a2,Y,a4,a5,a6,a7,a8,a9,H,I,af⟩:=j.out.box
 go_wp2_with fail
 refine (zj C E D z Z U (-1) 0 4 zF _ ab.out.tok O (by decide)).mono ?_
 rintro e w3 ⟨rfl,M⟩
 rw[V.out,h1]
 replace j:=zc (j.out.below M)
 replace o:=zc (o.out.below M)
 have ax:=zc (aj.out.below M)
 have ac:=zc (ab.out.later M)
 clear M aj ab
 clear a0 a1 a2 Y a4 a5 a6 a7 a8 a9 H I af
 obtain⟨a0,a1,a2,Y,a4,a5,a6,a7,a8,a9,H,I,af⟩:=j.out.box
 go_wp2_with fail
 refine (zj C E D z Z U (-1) 0 4 zp _ ac.out.tok O (by decide)).mono ?_
 rintro e w4 ⟨rfl,J⟩
 rw[V.out,h2]
 replace j:=zc (j.out.below J)
 replace o:=zc (o.out.below J)
 have az:=zc (ax.out.below J)
 have ay:=zc (ac.out.later J)
 clear J ax ac
 clear a0 a1 a2 Y a4 a5 a6 a7 a8 a9 H I af
 obtain⟨a0,a1,a2,Y,a4,a5,a6,a7,a8,a9,H,I,af⟩:=j.out.box
 clear V
 go_wp2_with fail
 refine (zah C E D z (.ok U) Z U (-1) 0 zp _ (zab U) ay.out).mono ?_
 rintro e w5 ⟨S5,q5,z5,rfl,i5,m5,s5⟩
 replace j:=zc (j.out.stp s5)
 replace o:=zc (o.out.stp s5)
 have aw:=zc (az.out.step s5)
 clear az
 have al:=zc m5
 have aE:=zc i5
 clear i5 m5 s5 ay
 clear a0 a1 a2 Y a4 a5 a6 a7 a8 a9 H I af
 go_wp2_with fail
 refine (zaT C E D z _ S5 q5 z5 0 zH _ aE.out al.out).mono ?_
 rintro e w6 ⟨S6,q6,z6,rfl,i6,m6,s6⟩
 replace j:=zc (j.out.stp s6)
 replace o:=zc (o.out.stp s6)
 have ah:=zc (aw.out.step s6)
 clear aw
 have ao:=zc m6
 have aD:=zc i6
 clear i6 m6 s6 al
 go_wp2_with fail
 refine (zeD C E D z _ S6 q6 z6 0 _ aD.out ao.out).mono ?_
 rintro e w7 ⟨S7,q7,z7,n7,rfl,i7,m7,s7⟩
 replace j:=zc (j.out.stp s7)
 replace o:=zc (o.out.stp s7)
 have ae:=zc (ah.out.step s7)
 clear ah
 have aa:=zc m7
 have au:=zc i7
 clear i7 m7 s7 ao
 have aH:w.heap.size+1<w7.heap.size:=o.out.lt
 unfold pv
 go_upto_region 20 with fail
 refine zQ (R:=fun W=>Bx E S7 W (w.heap.size) _∧Bx E S7 W (w.heap.size+1) _∧Bx E S7 W (w7.heap.size) _∧Mem C E D z S7 q7 W∧SB w.heap.size S w S7 W) ⟨(j.out.alloc _),(o.out.alloc _),(Bx.new aa.out _),(aa.out.alloc _),(ae.out.alloc _)⟩ ?_
 clear j o ae aa
 rintro w8 ⟨N,Q,X2,m8,t8⟩
 have j:=zc N
 have o:=zc Q
 have L:=zc X2
 have aq:=zc m8
 have aB:=zc t8
 clear m8 t8 N Q X2
 obtain⟨c0,c1,c2,c3,c4,c5,c6,c7,c8,c9,aG,aF,cf⟩:=L.out.box
 go_wp2_with fail
 refine (zah C E D z _ S7 q7 z7 0 cSemi _ au.out.fst aq.out).mono ?_
 rintro e w9 ⟨S9,q9,z9,rfl,i9,m9,s9⟩
 replace j:=zc (j.out.stp s9)
 replace o:=zc (o.out.stp s9)
 replace L:=zc (L.out.stp s9)
 have aA:=zc (aB.out.step s9)
 clear aB
 have aC:=zc m9
 have am:=zc i9
 clear i9 m9 s9 aq
 clear c0 c1 c2 c3 c4 c5 c6 c7 c8 c9 aG aF cf
 go_wp2_with fail
 refine (zeq C E D z _ S9 q9 z9 0 ⟨3,sNone,sNone,n7⟩ _ am.out aC.out (zb5 am.out)).mono ?_
 rintro e aK ⟨aJ,aN,aI,rfl,ar,ad,K⟩
 replace j:=zc (j.out.stp K)
 replace o:=zc (o.out.stp K)
 replace L:=zc (L.out.stp K)
 have ak:=zc (aA.out.step K)
 clear aA
 have av:=zc ad
 have ag:=zc ar
 clear ar ad K aC
 obtain⟨b0,b1,b2,b3,b4,b5,b6,b7,b8,b9,aM,aL,bf⟩:=o.out.box
 unfold pv
 go_wp2
 refine bodyPost_ret (results_cell_row rfl _ _ (w.heap.size+1) 55 _ (0,0) _ rfl ((o.out.put ..)).heap Tryz.underlying55 rfl (by kernel_rfl)) rfl ?_
 rw[HV.out,←HQ.out,←zvb (G:=fun b=>zm C ⟨3,sNone,sNone,b⟩) au.out]
 exact zac rfl ag.out (av.out.put o.out ..) (ak.out.put (by omega) ..)
theorem zve (C:Cx) (E D z:Nat) (S:Sv) (q:PS) (w:World) (hm:Mem C E D z S q w) (hw:isT C q.pos 1 sExport=true) (h1:isT C (q.pos+1) 4 zF=false) (h2:isT C (q.pos+1) 4 zp=false) (h3:isT C (q.pos+1) 1 sDefault=true):
  Calls Tryz.prog 49 #[pv C E D S q (-1) 0] w (Out C E D z (zV C q) 0 S w):=by
 have HM:=zc hm
 have J:=hm.few
 clear hm
 have HV:Hid (zV C q=bd (bd (bd (bd (bd (.ok (adv q)) (zd C 1 sDefault)) (pE C .sum 0)) (zd C 4 cSemi)) (zE C 1 zbp)) (zm C ⟨1,sDefault,zbp,sNone⟩)):=by
  show _=_
  rw[zV,zd,if_pos hw,zh]
  rw[zz,h1,h2,h3]
  rfl
 unfold pv
 go_enter Tryz.func49,Tryz.ntmps49
 go_wp2_with fail
 refine (zaT C E D z (.ok q) S q (-1) 0 sExport _ (zab q) ((HM.out.alloc _).alloc _)).mono ?_
 rintro e w1 ⟨S1,q1,z1,rfl,i1,m1,s1⟩
 obtain⟨X0,X1,t1⟩:=HM.out.two2 s1
 have j:=zc X0
 have o:=zc X1
 have am:=zc m1
 have av:=zc t1
 have ar:=zc i1
 clear X0 X1 i1 m1 t1 s1
 obtain⟨ad,rfl⟩:=zdq ar.out hw
 have HQ:=zc ad
 have U:Hid (q1.pos=q.pos+1):=by show q1.pos=q.pos+1;rw[ad];rfl
 clear ad ar
 obtain⟨Z,a1,X,V,a4,a5,a6,a7,Y,a9,H,I,af⟩:=j.out.box
 unfold pv
 go_upto_region 2 with fail
 refine zQ (R:=fun W=>Bx E S1 W (w.heap.size) _∧Bx E S1 W (w.heap.size+1) _∧Mem C E D z S1 q1 W∧SB w.heap.size S w S1 W) ⟨(j.out.put ..),(o.out.other (by omega) ..),(am.out.put j.out ..),(av.out.put (by omega) ..)⟩ ?_
 clear Z a1 X V a4 a5 a6 a7 Y a9 H I af
 clear j o av am
 rintro w2 ⟨X0,X1,m2,t2⟩
 have j:=zc X0
 have o:=zc X1
 have ae:=zc m2
 have an:=zc t2
 clear m2 t2 X0 X1
 obtain⟨Z,a1,X,V,a4,a5,a6,a7,Y,a9,H,I,af⟩:=j.out.box
 go_wp2_with fail
 refine (zj C E D z S1 q1 (-1) 0 4 zF _ ae.out.tok J (by decide)).mono ?_
 rintro e w3 ⟨rfl,Q⟩
 rw[U.out,h1]
 replace j:=zc (j.out.below Q)
 replace o:=zc (o.out.below Q)
 have aA:=zc (an.out.below Q)
 have ah:=zc (ae.out.later Q)
 clear Q an ae
 clear Z a1 X V a4 a5 a6 a7 Y a9 H I af
 obtain⟨Z,a1,X,V,a4,a5,a6,a7,Y,a9,H,I,af⟩:=j.out.box
 go_wp2_with fail
 refine (zj C E D z S1 q1 (-1) 0 4 zp _ ah.out.tok J (by decide)).mono ?_
 rintro e w4 ⟨rfl,K⟩
 rw[U.out,h2]
 replace j:=zc (j.out.below K)
 replace o:=zc (o.out.below K)
 have aD:=zc (aA.out.below K)
 have ai:=zc (ah.out.later K)
 clear K aA ah
 clear Z a1 X V a4 a5 a6 a7 Y a9 H I af
 obtain⟨Z,a1,X,V,a4,a5,a6,a7,Y,a9,H,I,af⟩:=j.out.box
 go_wp2_with fail
 refine (zj C E D z S1 q1 (-1) 0 1 sDefault _ ai.out.tok J (by decide)).mono ?_
 rintro e w5 ⟨rfl,N⟩
 rw[U.out,h3]
 replace j:=zc (j.out.below N)
 replace o:=zc (o.out.below N)
 have az:=zc (aD.out.below N)
 have ap:=zc (ai.out.later N)
 clear N aD ai
 clear Z a1 X V a4 a5 a6 a7 Y a9 H I af
 obtain⟨Z,a1,X,V,a4,a5,a6,a7,Y,a9,H,I,af⟩:=j.out.box
 clear U
 go_wp2_with fail
 refine (zaT C E D z (.ok q1) S1 q1 (-1) 0 sDefault _ (zab q1) ap.out).mono ?_
 rintro e w6 ⟨S6,q6,z6,rfl,i6,m6,s6⟩
 replace j:=zc (j.out.stp s6)
 replace o:=zc (o.out.stp s6)
 have al:=zc (az.out.step s6)
 clear az
 have au:=zc m6
 have aI:=zc i6
 clear i6 m6 s6 ap
 clear Z a1 X V a4 a5 a6 a7 Y a9 H I af
 go_wp2_with fail
 refine (zdp C E D z _ S6 q6 z6 _ aI.out au.out).mono ?_
 rintro e w7 ⟨S7,q7,z7,rfl,i7,m7,s7⟩
 replace j:=zc (j.out.stp s7)
 replace o:=zc (o.out.stp s7)
 have ak:=zc (al.out.step s7)
 clear al
 have aq:=zc m7
 have aL:=zc i7
 clear i7 m7 s7 au
 go_wp2_with fail
 refine (zah C E D z _ S7 q7 z7 0 cSemi _ aL.out aq.out).mono ?_
 rintro e w8 ⟨S8,q8,z8,rfl,i8,m8,s8⟩
 replace j:=zc (j.out.stp s8)
 replace o:=zc (o.out.stp s8)
 have aG:=zc (ak.out.step s8)
 clear ak
 have ag:=zc m8
 have aw:=zc i8
 clear i8 m8 s8 aq
 have aP:w.heap.size+1<w8.heap.size:=o.out.lt
 unfold pv
 go_upto_region 23 with fail
 refine zQ (R:=fun W=>Bx E S8 W (w.heap.size) _∧Bx E S8 W (w.heap.size+1) _∧Bx E S8 W (w8.heap.size) _∧Mem C E D z S8 q8 W∧SB w.heap.size S w S8 W) ⟨(j.out.alloc _),(o.out.alloc _),(Bx.new ag.out _),(ag.out.alloc _),(aG.out.alloc _)⟩ ?_
 clear j o aG ag
 rintro w9 ⟨X0,X1,X2,m9,t9⟩
 have j:=zc X0
 have o:=zc X1
 have M:=zc X2
 have aH:=zc m9
 have aE:=zc t9
 clear m9 t9 X0 X1 X2
 obtain⟨c0,c1,c2,c3,c4,c5,c6,c7,c8,c9,aO,aM,cf⟩:=M.out.box
 go_wp2_with fail
 refine (zcY C E D z _ S8 q8 z8 0 1 zbp _ aw.out aH.out (zb5 aw.out)).mono ?_
 rintro e aR ⟨aK,aN,aJ,rfl,ax,aj,L⟩
 replace j:=zc (j.out.stp L)
 replace o:=zc (o.out.stp L)
 replace M:=zc (M.out.stp L)
 have ab:=zc (aE.out.step L)
 clear aE
 have ac:=zc aj
 have aa:=zc ax
 clear ax aj L aH
 clear c0 c1 c2 c3 c4 c5 c6 c7 c8 c9 aO aM cf
 go_wp2_with fail
 refine (zeq C E D z _ aK aN aJ 0 ⟨1,sDefault,zbp,sNone⟩ _ aa.out ac.out (zmH aa.out)).mono ?_
 rintro e aT ⟨aS,aW,aQ,rfl,aB,ao,O⟩
 replace j:=zc (j.out.stp O)
 replace o:=zc (o.out.stp O)
 replace M:=zc (M.out.stp O)
 have ay:=zc (ab.out.step O)
 clear ab
 have aF:=zc ao
 have aC:=zc aB
 clear aB ao O ac
 obtain⟨b0,b1,b2,b3,b4,b5,b6,b7,b8,b9,aV,aU,bf⟩:=o.out.box
 unfold pv
 go_wp2
 refine bodyPost_ret (results_cell_row rfl _ _ (w.heap.size+1) 55 _ (0,0) _ rfl ((o.out.put ..)).heap Tryz.underlying55 rfl (by kernel_rfl)) rfl ?_
 rw[HV.out,←HQ.out]
 exact zac rfl aC.out (aF.out.put o.out ..) (ay.out.put (by omega) ..)
theorem zvf (C:Cx) (I D z:Nat) (S:Sv) (q:PS) (w:World) (hm:Mem C I D z S q w) (hw:isT C q.pos 1 sExport=true) (h1:isT C (q.pos+1) 4 zF=false) (h2:isT C (q.pos+1) 4 zp=false) (h3:isT C (q.pos+1) 1 sDefault=false) (h4:isT C (q.pos+1) 1 sLet=true):
  Calls Tryz.prog 49 #[pv C I D S q (-1) 0] w (Out C I D z (zV C q) 0 S w):=by
 have HM:=zc hm
 have J:=hm.few
 clear hm
 have HV:Hid (zV C q=bd (zbA C (adv q)) fun a=>zm C ⟨1,a.2,a.2,sNone⟩ a.1):=by
  show _=_
  rw[zV,zd,if_pos hw,zh]
  rw[zz,h1,h2,h3,h4]
  rfl
 unfold pv
 go_enter Tryz.func49,Tryz.ntmps49
 go_wp2_with fail
 refine (zaT C I D z (.ok q) S q (-1) 0 sExport _ (zab q) ((HM.out.alloc _).alloc _)).mono ?_
 rintro e w1 ⟨S1,q1,z1,rfl,i1,m1,s1⟩
 obtain⟨X0,X1,t1⟩:=HM.out.two2 s1
 have j:=zc X0
 have o:=zc X1
 have an:=zc m1
 have ar:=zc t1
 have ap:=zc i1
 clear X0 X1 i1 m1 t1 s1
 obtain⟨ac,rfl⟩:=zdq ap.out hw
 have HQ:=zc ac
 have K:Hid (q1.pos=q.pos+1):=by show q1.pos=q.pos+1;rw[ac];rfl
 clear ac ap
 obtain⟨O,V,M,L,a4,Z,Q,a7,N,a9,E,H,X⟩:=j.out.box
 unfold pv
 go_upto_region 2 with fail
 refine zQ (R:=fun W=>Bx I S1 W (w.heap.size) _∧Bx I S1 W (w.heap.size+1) _∧Mem C I D z S1 q1 W∧SB w.heap.size S w S1 W) ⟨(j.out.put ..),(o.out.other (by omega) ..),(an.out.put j.out ..),(ar.out.put (by omega) ..)⟩ ?_
 clear O V M L a4 Z Q a7 N a9 E H X
 clear j o ar an
 rintro w2 ⟨X0,X1,m2,t2⟩
 have j:=zc X0
 have o:=zc X1
 have ag:=zc m2
 have ao:=zc t2
 clear m2 t2 X0 X1
 obtain⟨O,V,M,L,a4,Z,Q,a7,N,a9,E,H,X⟩:=j.out.box
 go_wp2_with fail
 refine (zj C I D z S1 q1 (-1) 0 4 zF _ ag.out.tok J (by decide)).mono ?_
 rintro e w3 ⟨rfl,ab⟩
 rw[K.out,h1]
 replace j:=zc (j.out.below ab)
 replace o:=zc (o.out.below ab)
 have aw:=zc (ao.out.below ab)
 have ai:=zc (ag.out.later ab)
 clear ab ao ag
 clear O V M L a4 Z Q a7 N a9 E H X
 obtain⟨O,V,M,L,a4,Z,Q,a7,N,a9,E,H,X⟩:=j.out.box
 go_wp2_with fail
 refine (zj C I D z S1 q1 (-1) 0 4 zp _ ai.out.tok J (by decide)).mono ?_
 rintro e w4 ⟨rfl,Y⟩
 rw[K.out,h2]
 replace j:=zc (j.out.below Y)
 replace o:=zc (o.out.below Y)
 have ax:=zc (aw.out.below Y)
 have aj:=zc (ai.out.later Y)
 clear Y aw ai
 clear O V M L a4 Z Q a7 N a9 E H X
 obtain⟨O,V,M,L,a4,Z,Q,a7,N,a9,E,H,X⟩:=j.out.box
 go_wp2_with fail
 refine (zj C I D z S1 q1 (-1) 0 1 sDefault _ aj.out.tok J (by decide)).mono ?_
 rintro e w5 ⟨rfl,aa⟩
 rw[K.out,h3]
 replace j:=zc (j.out.below aa)
 replace o:=zc (o.out.below aa)
 have av:=zc (ax.out.below aa)
 have ad:=zc (aj.out.later aa)
 clear aa ax aj
 clear O V M L a4 Z Q a7 N a9 E H X
 obtain⟨O,V,M,L,a4,Z,Q,a7,N,a9,E,H,X⟩:=j.out.box
 go_wp2_with fail
 refine (zj C I D z S1 q1 (-1) 0 1 sLet _ ad.out.tok J (by decide)).mono ?_
 rintro e w6 ⟨rfl,U⟩
 rw[K.out,h4]
 replace j:=zc (j.out.below U)
 replace o:=zc (o.out.below U)
 have am:=zc (av.out.below U)
 have aq:=zc (ad.out.later U)
 clear U av ad
 clear O V M L a4 Z Q a7 N a9 E H X
 obtain⟨O,V,M,L,a4,Z,Q,a7,N,a9,E,H,X⟩:=j.out.box
 clear K
 go_wp2_with fail
 refine (zji C I D z S1 q1 _ aq.out).mono ?_
 rintro e w7 ⟨S7,q7,z7,n7,rfl,i7,m7,s7⟩
 replace j:=zc (j.out.stp s7)
 replace o:=zc (o.out.stp s7)
 have al:=zc (am.out.step s7)
 clear am
 have ae:=zc m7
 have ah:=zc i7
 clear i7 m7 s7 aq
 clear O V M L a4 Z Q a7 N a9 E H X
 have aE:w.heap.size+1<w7.heap.size:=o.out.lt
 unfold pv
 go_upto_region 26 with fail
 refine zQ (R:=fun W=>Bx I S7 W (w.heap.size) _∧Bx I S7 W (w.heap.size+1) _∧Bx I S7 W (w7.heap.size) _∧Mem C I D z S7 q7 W∧SB w.heap.size S w S7 W) ⟨(j.out.alloc _),(o.out.alloc _),(Bx.new ae.out _),(ae.out.alloc _),(al.out.alloc _)⟩ ?_
 clear j o al ae
 rintro w8 ⟨X0,X1,X2,m8,t8⟩
 have j:=zc X0
 have o:=zc X1
 have ak:=zc X2
 have au:=zc m8
 have ay:=zc t8
 clear m8 t8 X0 X1 X2
 obtain⟨c0,c1,c2,c3,c4,c5,c6,c7,c8,c9,aC,aA,cf⟩:=ak.out.box
 go_wp2_with fail
 refine (zeq C I D z _ S7 q7 z7 0 ⟨1,n7,n7,sNone⟩ _ ah.out.fst au.out (zuZ ah.out)).mono ?_
 rintro e w9 ⟨S9,q9,z9,rfl,i9,m9,s9⟩
 replace j:=zc (j.out.stp s9)
 replace o:=zc (o.out.stp s9)
 replace ak:=zc (ak.out.stp s9)
 have aB:=zc (ay.out.step s9)
 clear ay
 have aD:=zc m9
 have az:=zc i9
 clear i9 m9 s9 au
 clear c0 c1 c2 c3 c4 c5 c6 c7 c8 c9 aC aA cf
 obtain⟨b0,b1,b2,b3,b4,b5,b6,b7,b8,b9,aG,aF,bf⟩:=o.out.box
 unfold pv
 go_wp2
 refine bodyPost_ret (results_cell_row rfl _ _ (w.heap.size+1) 55 _ (0,0) _ rfl ((o.out.put ..)).heap Tryz.underlying55 rfl (by kernel_rfl)) rfl ?_
 rw[HV.out,←HQ.out,←ah.out.bind (fun q n=>zm C ⟨1,n,n,sNone⟩ q)]
 exact zac rfl az.out (aD.out.put o.out ..) (aB.out.put (by omega) ..)
theorem zvg (C:Cx) (I H z:Nat) (S:Sv) (q:PS) (w:World) (hm:Mem C I H z S q w) (hw:isT C q.pos 1 sExport=true) (h1:isT C (q.pos+1) 4 zF=false) (h2:isT C (q.pos+1) 4 zp=false) (h3:isT C (q.pos+1) 1 sDefault=false) (h4:isT C (q.pos+1) 1 sLet=false) (h5:isT C (q.pos+1) 1 sFunction=true):
  Calls Tryz.prog 49 #[pv C I H S q (-1) 0] w (Out C I H z (zV C q) 0 S w):=by
 have HM:=zc hm
 have J:=hm.few
 clear hm
 have HV:Hid (zV C q=bd (fnP C (adv q)) fun a=>zm C ⟨1,a.2,a.2,sNone⟩ a.1):=by
  show _=_
  rw[zV,zd,if_pos hw,zh]
  rw[zz,h1,h2,h3,h4,h5]
  rfl
 unfold pv
 go_enter Tryz.func49,Tryz.ntmps49
 go_wp2_with fail
 refine (zaT C I H z (.ok q) S q (-1) 0 sExport _ (zab q) ((HM.out.alloc _).alloc _)).mono ?_
 rintro e w1 ⟨S1,q1,z1,rfl,i1,m1,s1⟩
 obtain⟨X0,X1,t1⟩:=HM.out.two2 s1
 have j:=zc X0
 have o:=zc X1
 have aw:=zc m1
 have aB:=zc t1
 have aA:=zc i1
 clear X0 X1 i1 m1 t1 s1
 obtain⟨ah,rfl⟩:=zdq aA.out hw
 have HQ:=zc ah
 have K:Hid (q1.pos=q.pos+1):=by show q1.pos=q.pos+1;rw[ah];rfl
 clear ah aA
 obtain⟨O,U,M,L,a4,X,Q,Y,N,Z,D,E,V⟩:=j.out.box
 unfold pv
 go_upto_region 2 with fail
 refine zQ (R:=fun W=>Bx I S1 W (w.heap.size) _∧Bx I S1 W (w.heap.size+1) _∧Mem C I H z S1 q1 W∧SB w.heap.size S w S1 W) ⟨(j.out.put ..),(o.out.other (by omega) ..),(aw.out.put j.out ..),(aB.out.put (by omega) ..)⟩ ?_
 clear O U M L a4 X Q Y N Z D E V
 clear j o aB aw
 rintro w2 ⟨X0,X1,m2,t2⟩
 have j:=zc X0
 have o:=zc X1
 have aj:=zc m2
 have ax:=zc t2
 clear m2 t2 X0 X1
 obtain⟨O,U,M,L,a4,X,Q,Y,N,Z,D,E,V⟩:=j.out.box
 go_wp2_with fail
 refine (zj C I H z S1 q1 (-1) 0 4 zF _ aj.out.tok J (by decide)).mono ?_
 rintro e w3 ⟨rfl,ag⟩
 rw[K.out,h1]
 replace j:=zc (j.out.below ag)
 replace o:=zc (o.out.below ag)
 have aF:=zc (ax.out.below ag)
 have an:=zc (aj.out.later ag)
 clear ag ax aj
 clear O U M L a4 X Q Y N Z D E V
 obtain⟨O,U,M,L,a4,X,Q,Y,N,Z,D,E,V⟩:=j.out.box
 go_wp2_with fail
 refine (zj C I H z S1 q1 (-1) 0 4 zp _ an.out.tok J (by decide)).mono ?_
 rintro e w4 ⟨rfl,ac⟩
 rw[K.out,h2]
 replace j:=zc (j.out.below ac)
 replace o:=zc (o.out.below ac)
 have aG:=zc (aF.out.below ac)
 have ao:=zc (an.out.later ac)
 clear ac aF an
 clear O U M L a4 X Q Y N Z D E V
 obtain⟨O,U,M,L,a4,X,Q,Y,N,Z,D,E,V⟩:=j.out.box
 go_wp2_with fail
 refine (zj C I H z S1 q1 (-1) 0 1 sDefault _ ao.out.tok J (by decide)).mono ?_
 rintro e w5 ⟨rfl,ae⟩
 rw[K.out,h3]
 replace j:=zc (j.out.below ae)
 replace o:=zc (o.out.below ae)
 have aE:=zc (aG.out.below ae)
 have ai:=zc (ao.out.later ae)
 clear ae aG ao
 clear O U M L a4 X Q Y N Z D E V
 obtain⟨O,U,M,L,a4,X,Q,Y,N,Z,D,E,V⟩:=j.out.box
 go_wp2_with fail
 refine (zj C I H z S1 q1 (-1) 0 1 sLet _ ai.out.tok J (by decide)).mono ?_
 rintro e w6 ⟨rfl,aa⟩
 rw[K.out,h4]
 replace j:=zc (j.out.below aa)
 replace o:=zc (o.out.below aa)
 have av:=zc (aE.out.below aa)
 have ak:=zc (ai.out.later aa)
 clear aa aE ai
 clear O U M L a4 X Q Y N Z D E V
 obtain⟨O,U,M,L,a4,X,Q,Y,N,Z,D,E,V⟩:=j.out.box
 go_wp2_with fail
 refine (zj C I H z S1 q1 (-1) 0 1 sFunction _ ak.out.tok J (by decide)).mono ?_
 rintro e w7 ⟨rfl,ab⟩
 rw[K.out,h5]
 replace j:=zc (j.out.below ab)
 replace o:=zc (o.out.below ab)
 have ar:=zc (av.out.below ab)
 have az:=zc (ak.out.later ab)
 clear ab av ak
 clear O U M L a4 X Q Y N Z D E V
 obtain⟨O,U,M,L,a4,X,Q,Y,N,Z,D,E,V⟩:=j.out.box
 clear K
 go_wp2_with fail
 refine (zjj C I H z S1 q1 _ az.out).mono ?_
 rintro e w8 ⟨S8,q8,z8,n8,rfl,i8,m8,s8⟩
 replace j:=zc (j.out.stp s8)
 replace o:=zc (o.out.stp s8)
 have aI:=zc (ar.out.step s8)
 clear ar
 have am:=zc m8
 have al:=zc i8
 clear i8 m8 s8 az
 clear O U M L a4 X Q Y N Z D E V
 have aM:w.heap.size+1<w8.heap.size:=o.out.lt
 unfold pv
 go_upto_region 29 with fail
 refine zQ (R:=fun W=>Bx I S8 W (w.heap.size) _∧Bx I S8 W (w.heap.size+1) _∧Bx I S8 W (w8.heap.size) _∧Mem C I H z S8 q8 W∧SB w.heap.size S w S8 W) ⟨(j.out.alloc _),(o.out.alloc _),(Bx.new am.out _),(am.out.alloc _),(aI.out.alloc _)⟩ ?_
 clear j o aI am
 rintro w9 ⟨X0,X1,X2,m9,t9⟩
 have j:=zc X0
 have o:=zc X1
 have ap:=zc X2
 have aJ:=zc m9
 have aH:=zc t9
 clear m9 t9 X0 X1 X2
 obtain⟨c0,c1,c2,c3,c4,c5,c6,c7,c8,c9,aL,aK,cf⟩:=ap.out.box
 go_wp2_with fail
 refine (zeq C I H z _ S8 q8 z8 0 ⟨1,n8,n8,sNone⟩ _ al.out.fst aJ.out (zva al.out)).mono ?_
 rintro e aP ⟨aO,aS,aN,rfl,aC,aq,ad⟩
 replace j:=zc (j.out.stp ad)
 replace o:=zc (o.out.stp ad)
 replace ap:=zc (ap.out.stp ad)
 have ay:=zc (aH.out.step ad)
 clear aH
 have aD:=zc aq
 have au:=zc aC
 clear aC aq ad aJ
 clear c0 c1 c2 c3 c4 c5 c6 c7 c8 c9 aL aK cf
 obtain⟨b0,b1,b2,b3,b4,b5,b6,b7,b8,b9,aR,aQ,bf⟩:=o.out.box
 unfold pv
 go_wp2
 refine bodyPost_ret (results_cell_row rfl _ _ (w.heap.size+1) 55 _ (0,0) _ rfl ((o.out.put ..)).heap Tryz.underlying55 rfl (by kernel_rfl)) rfl ?_
 rw[HV.out,←HQ.out,←al.out.bind (fun q n=>zm C ⟨1,n,n,sNone⟩ q)]
 exact zac rfl au.out (aD.out.put o.out ..) (ay.out.put (by omega) ..)
theorem zvh (C:Cx) (L H z:Nat) (S:Sv) (q:PS) (w:World) (hm:Mem C L H z S q w) (hw:isT C q.pos 1 sExport=true) (h1:isT C (q.pos+1) 4 zF=false) (h2:isT C (q.pos+1) 4 zp=false) (h3:isT C (q.pos+1) 1 sDefault=false) (h4:isT C (q.pos+1) 1 sLet=false) (h5:isT C (q.pos+1) 1 sFunction=false):
  Calls Tryz.prog 49 #[pv C L H S q (-1) 0] w (Out C L H z (zV C q) 0 S w):=by
 have HM:=zc hm
 have I:=hm.few
 clear hm
 have HV:Hid (zV C q= .error (zu C (adv q).pos)):=by
  show _=_
  rw[zV,zd,if_pos hw,zh]
  rw[zz,h1,h2,h3,h4,h5]
  rfl
 unfold pv
 go_enter Tryz.func49,Tryz.ntmps49
 go_wp2_with fail
 refine (zaT C L H z (.ok q) S q (-1) 0 sExport _ (zab q) ((HM.out.alloc _).alloc _)).mono ?_
 rintro e w1 ⟨S1,q1,z1,rfl,i1,m1,s1⟩
 obtain⟨X0,X1,t1⟩:=HM.out.two2 s1
 have j:=zc X0
 have o:=zc X1
 have aq:=zc m1
 have av:=zc t1
 have au:=zc i1
 clear X0 X1 i1 m1 t1 s1
 obtain⟨ah,rfl⟩:=zdq au.out hw
 have HQ:=zc ah
 have J:Hid (q1.pos=q.pos+1):=by show q1.pos=q.pos+1;rw[ah];rfl
 clear ah au
 obtain⟨O,U,M,K,a4,X,Q,Y,N,Z,D,E,V⟩:=j.out.box
 unfold pv
 go_upto_region 2 with fail
 refine zQ (R:=fun W=>Bx L S1 W (w.heap.size) _∧Bx L S1 W (w.heap.size+1) _∧Mem C L H z S1 q1 W∧SB w.heap.size S w S1 W) ⟨(j.out.put ..),(o.out.other (by omega) ..),(aq.out.put j.out ..),(av.out.put (by omega) ..)⟩ ?_
 clear O U M K a4 X Q Y N Z D E V
 clear j o av aq
 rintro w2 ⟨X0,X1,m2,t2⟩
 have j:=zc X0
 have o:=zc X1
 have ak:=zc m2
 have ar:=zc t2
 clear m2 t2 X0 X1
 obtain⟨O,U,M,K,a4,X,Q,Y,N,Z,D,E,V⟩:=j.out.box
 go_wp2_with fail
 refine (zj C L H z S1 q1 (-1) 0 4 zF _ ak.out.tok I (by decide)).mono ?_
 rintro e w3 ⟨rfl,ag⟩
 rw[J.out,h1]
 replace j:=zc (j.out.below ag)
 replace o:=zc (o.out.below ag)
 have ax:=zc (ar.out.below ag)
 have am:=zc (ak.out.later ag)
 clear ag ar ak
 clear O U M K a4 X Q Y N Z D E V
 obtain⟨O,U,M,K,a4,X,Q,Y,N,Z,D,E,V⟩:=j.out.box
 go_wp2_with fail
 refine (zj C L H z S1 q1 (-1) 0 4 zp _ am.out.tok I (by decide)).mono ?_
 rintro e w4 ⟨rfl,ad⟩
 rw[J.out,h2]
 replace j:=zc (j.out.below ad)
 replace o:=zc (o.out.below ad)
 have ay:=zc (ax.out.below ad)
 have an:=zc (am.out.later ad)
 clear ad ax am
 clear O U M K a4 X Q Y N Z D E V
 obtain⟨O,U,M,K,a4,X,Q,Y,N,Z,D,E,V⟩:=j.out.box
 go_wp2_with fail
 refine (zj C L H z S1 q1 (-1) 0 1 sDefault _ an.out.tok I (by decide)).mono ?_
 rintro e w5 ⟨rfl,ae⟩
 rw[J.out,h3]
 replace j:=zc (j.out.below ae)
 replace o:=zc (o.out.below ae)
 have aw:=zc (ay.out.below ae)
 have ai:=zc (an.out.later ae)
 clear ae ay an
 clear O U M K a4 X Q Y N Z D E V
 obtain⟨O,U,M,K,a4,X,Q,Y,N,Z,D,E,V⟩:=j.out.box
 go_wp2_with fail
 refine (zj C L H z S1 q1 (-1) 0 1 sLet _ ai.out.tok I (by decide)).mono ?_
 rintro e w6 ⟨rfl,ab⟩
 rw[J.out,h4]
 replace j:=zc (j.out.below ab)
 replace o:=zc (o.out.below ab)
 have ap:=zc (aw.out.below ab)
 have al:=zc (ai.out.later ab)
 clear ab aw ai
 clear O U M K a4 X Q Y N Z D E V
 obtain⟨O,U,M,K,a4,X,Q,Y,N,Z,D,E,V⟩:=j.out.box
 go_wp2_with fail
 refine (zj C L H z S1 q1 (-1) 0 1 sFunction _ al.out.tok I (by decide)).mono ?_
 rintro e w7 ⟨rfl,ac⟩
 rw[J.out,h5]
 replace j:=zc (j.out.below ac)
 replace o:=zc (o.out.below ac)
 have ao:=zc (ap.out.below ac)
 have aj:=zc (al.out.later ac)
 clear ac ap al
 clear O U M K a4 X Q Y N Z D E V
 obtain⟨O,U,M,K,a4,X,Q,Y,N,Z,D,E,V⟩:=j.out.box
 clear J
 go_wp2_with fail
 refine (zd0 C L H z S1 q1 (-1) 0 _ aj.out.tok I).mono ?_
 rintro e w8 ⟨rfl,aa⟩
 replace j:=zc (j.out.below aa)
 replace o:=zc (o.out.below aa)
 have aA:=zc (ao.out.below aa)
 have az:=zc (aj.out.later aa)
 clear aa ao aj
 clear O U M K a4 X Q Y N Z D E V
 obtain⟨b0,b1,b2,b3,b4,b5,b6,b7,b8,b9,aC,aB,bf⟩:=o.out.box
 unfold pv
 go_wp2
 refine bodyPost_ret (results_cell_row rfl _ _ (w.heap.size+1) 55 _ (0,0) _ rfl ((o.out.put ..)).heap Tryz.underlying55 rfl (by kernel_rfl)) rfl ?_
 rw[HV.out,←HQ.out]
 exact zac rfl (show Is (.error (zu C q1.pos)) q1 _ from rfl) (az.out.put o.out ..) (aA.out.put (by omega) ..)
theorem zvi (C:Cx) (K I z:Nat) (S:Sv) (q:PS) (w:World) (hm:Mem C K I z S q w) (hw:isT C q.pos 1 sExport=true) (h1:isT C (q.pos+1) 4 zF=true):
  Calls Tryz.prog 49 #[pv C K I S q (-1) 0] w (Out C K I z (zV C q) 0 S w):=by
 have HM:=zc hm
 have aH:=hm.few
 clear hm
 have HV:Hid (zV C q=bd (zbB C true (adv q)) fun a=>if !za2 a.2&& !isT C a.1.pos 1 zH then bd (zd C 4 cSemi a.1) fun q=>zK (fun e=>zm C (zD e)) a.2 (.ok q) else bd (zaD C (zav C (.ok a.1))) fun b=>zK (fun e=>zm C (zaj b.2 e)) a.2 (.ok b.1)):=by
  show _=_
  rw[zV,zd,if_pos hw,zh]
  rw[zz,h1]
  rfl
 unfold pv
 go_enter Tryz.func49,Tryz.ntmps49
 go_wp2_with fail
 refine (zaT C K I z (.ok q) S q (-1) 0 sExport _ (zab q) ((HM.out.alloc _).alloc _)).mono ?_
 rintro e w1 ⟨S1,q1,z1,rfl,i1,m1,s1⟩
 obtain⟨Y,Z,t1⟩:=HM.out.two2 s1
 have o:=zc Y
 have D:=zc Z
 have aW:=zc m1
 have ba:=zc t1
 have aZ:=zc i1
 clear Y Z i1 m1 t1 s1
 obtain⟨aO,rfl⟩:=zdq aZ.out hw
 have HQ:=zc aO
 have aV:Hid (q1.pos=q.pos+1):=by show q1.pos=q.pos+1;rw[aO];rfl
 clear aO aZ
 obtain⟨a0,a1,a2,a3,a4,a5,a6,a7,a8,a9,N,O,af⟩:=o.out.box
 unfold pv
 go_upto_region 2 with fail
 refine zQ (R:=fun W=>Bx K S1 W (w.heap.size) _∧Bx K S1 W (w.heap.size+1) _∧Mem C K I z S1 q1 W∧SB w.heap.size S w S1 W) ⟨(o.out.put ..),(D.out.other (by omega) ..),(aW.out.put o.out ..),(ba.out.put (by omega) ..)⟩ ?_
 clear a0 a1 a2 a3 a4 a5 a6 a7 a8 a9 N O af
 clear o D ba aW
 rintro w2 ⟨Y,Z,m2,t2⟩
 have o:=zc Y
 have D:=zc Z
 have aP:=zc m2
 have aX:=zc t2
 clear m2 t2 Y Z
 have aQ:Hid (zV C q=bd (zbB C true q1) fun a=>if !za2 a.2&& !isT C a.1.pos 1 zH then bd (zd C 4 cSemi a.1) fun q=>zK (fun e=>zm C (zD e)) a.2 (.ok q) else bd (zaD C (zav C (.ok a.1))) fun b=>zK (fun e=>zm C (zaj b.2 e)) a.2 (.ok b.1)):=by show _=_;rw[HQ.out];exact HV.out
 obtain⟨a0,a1,a2,a3,a4,a5,a6,a7,a8,a9,N,O,af⟩:=o.out.box
 go_wp2_with fail
 refine (zj C K I z S1 q1 (-1) 0 4 zF _ aP.out.tok aH (by decide)).mono ?_
 rintro e w3 ⟨rfl,aK⟩
 rw[aV.out,h1]
 replace o:=zc (o.out.below aK)
 replace D:=zc (D.out.below aK)
 have aR:=zc (aX.out.below aK)
 have bg:=zc (aP.out.later aK)
 clear aK aX aP
 clear a0 a1 a2 a3 a4 a5 a6 a7 a8 a9 N O af
 obtain⟨a0,a1,a2,a3,a4,a5,a6,a7,a8,a9,N,O,af⟩:=o.out.box
 clear aV
 have bm:=aR.out.size
 go_wp2_with fail
 refine (zm2 C K I z S1 q1 0 true _ bg.out).mono ?_
 rintro e w4 ⟨S4,q4,z4,⟨ra,rc⟩,l,rfl,i4,m4,s4,R0,hl⟩
 obtain⟨g,rfl⟩: ∃g,ra=some ⟨g,0,none⟩:=R0.addr
 replace o:=zc (o.out.stp s4)
 replace D:=zc (D.out.stp s4)
 have bk:=zc (aR.out.step s4)
 clear aR
 have aS:=zc m4
 have az:=zc i4
 clear i4 m4 s4 bg
 clear a0 a1 a2 a3 a4 a5 a6 a7 a8 a9 N O af
 have H:Hid (Row S4 w4 z w.heap.size ⟨some ⟨g,0,none⟩,rc⟩ l):=⟨R0.own,R0.free,fun k hk=>Nat.le_trans bm (R0.new k hk),R0.addr⟩
 clear R0
 have bo:w.heap.size+1<w4.heap.size:=D.out.lt
 unfold pv
 go_upto_region 4 with fail
 refine zQ (R:=fun W=>Bx K S4 W (w.heap.size) _∧Bx K S4 W (w.heap.size+1) _∧Bx K S4 W (w4.heap.size) _∧Row S4 W z w.heap.size ⟨some ⟨g,0,none⟩,rc⟩ l∧Mem C K I z S4 q4 W∧SB w.heap.size S w S4 W) ⟨(o.out.alloc _),(D.out.alloc _),(Bx.new aS.out _),(H.out.alloc _),(aS.out.alloc _),(bk.out.alloc _)⟩ ?_
 clear o D bk aS
 clear H
 rintro w5 ⟨Y,Z,X2,R0,m5,t5⟩
 have H:=zc R0
 clear R0
 have o:=zc Y
 have D:=zc Z
 have E:=zc X2
 have au:=zc m5
 have aG:=zc t5
 clear m5 t5 Y Z X2
 cases hA:za2 l with
 |true=>
  skip
  obtain⟨c0,c1,c2,c3,c4,c5,c6,c7,c8,c9,an,al,cf⟩:=E.out.box
  go_wp2_with fail
  refine (zaT C K I z _ S4 q4 z4 0 zH _ az.out.fst au.out).mono ?_
  rintro e w6 ⟨S6,q6,z6,rfl,i6,m6,s6⟩
  replace o:=zc (o.out.stp s6)
  replace D:=zc (D.out.stp s6)
  replace E:=zc (E.out.stp s6)
  have ap:=zc (aG.out.step s6)
  have L:Hid (Row S6 w6 z w.heap.size ⟨some ⟨g,0,none⟩,rc⟩ l):=H.out.stp s6
  clear H
  have H:=zc L
  clear L
  clear aG
  have ax:=zc m6
  have bl:=zc i6
  clear i6 m6 s6 au
  clear c0 c1 c2 c3 c4 c5 c6 c7 c8 c9 an al cf
  go_wp2_with fail
  refine (zeD C K I z _ S6 q6 z6 0 _ bl.out ax.out).mono ?_
  rintro e w7 ⟨S7,q7,z7,n7,rfl,i7,m7,s7⟩
  replace o:=zc (o.out.stp s7)
  replace D:=zc (D.out.stp s7)
  replace E:=zc (E.out.stp s7)
  have ao:=zc (ap.out.step s7)
  have L:Hid (Row S7 w7 z w.heap.size ⟨some ⟨g,0,none⟩,rc⟩ l):=H.out.stp s7
  clear H
  have H:=zc L
  clear L
  clear ap
  have aj:=zc m7
  have aF:=zc i7
  clear i7 m7 s7 ax
  have aU:w.heap.size+1<w7.heap.size:=D.out.lt
  have aL:w4.heap.size<w7.heap.size:=E.out.lt
  unfold pv
  go_upto_region 12 with fail
  refine zQ (R:=fun W=>Bx K S7 W (w.heap.size) _∧Bx K S7 W (w.heap.size+1) _∧Bx K S7 W (w4.heap.size) _∧Bx K S7 W (w7.heap.size) _∧Row S7 W z w.heap.size ⟨some ⟨g,0,none⟩,rc⟩ l∧Mem C K I z S7 q7 W∧SB w.heap.size S w S7 W) ⟨(o.out.alloc _),(D.out.alloc _),(E.out.alloc _),(Bx.new aj.out _),(H.out.alloc _),(aj.out.alloc _),(ao.out.alloc _)⟩ ?_
  clear o D E ao aj
  clear H
  rintro w8 ⟨Y,Z,X2,X3,R0,m8,t8⟩
  have H:=zc R0
  clear R0
  have o:=zc Y
  have D:=zc Z
  have E:=zc X2
  have aa:=zc X3
  have ak:=zc m8
  have aC:=zc t8
  clear m8 t8 Y Z X2 X3
  obtain⟨d0,d1,d2,d3,d4,d5,d6,d7,d8,d9,am,ai,df⟩:=aa.out.box
  go_wp2_with fail
  refine (zah C K I z _ S7 q7 z7 0 cSemi _ aF.out.fst ak.out).mono ?_
  rintro e w9 ⟨S9,q9,z9,rfl,i9,m9,s9⟩
  replace o:=zc (o.out.stp s9)
  replace D:=zc (D.out.stp s9)
  replace E:=zc (E.out.stp s9)
  replace aa:=zc (aa.out.stp s9)
  have ae:=zc (aC.out.step s9)
  have L:Hid (Row S9 w9 z w.heap.size ⟨some ⟨g,0,none⟩,rc⟩ l):=H.out.stp s9
  clear H
  have H:=zc L
  clear L
  clear aC
  have ag:=zc m9
  have ad:=zc i9
  clear i9 m9 s9 ak
  clear d0 d1 d2 d3 d4 d5 d6 d7 d8 d9 am ai df
  obtain⟨a0,a1,a2,a3,a4,a5,a6,a7,a8,a9,N,O,af⟩:=o.out.box
  unfold pv
  go_upto_region 13 with fail
  refine zQ (R:=fun W=>Bx K S9 W (w.heap.size) _∧Bx K S9 W (w.heap.size+1) _∧Bx K S9 W (w4.heap.size) _∧Bx K S9 W (w7.heap.size) _∧Row S9 W z w.heap.size ⟨some ⟨g,0,none⟩,rc⟩ l∧Mem C K I z S9 q9 W∧SB w.heap.size S w S9 W) ⟨(o.out.put ..),(D.out.other (by omega) ..),(E.out.other (by omega) ..),(aa.out.other (by omega) ..),(H.out.put o.out ..),(ag.out.put o.out ..),(ae.out.put (by omega) ..)⟩ ?_
  clear a0 a1 a2 a3 a4 a5 a6 a7 a8 a9 N O af
  clear o D E aa ae ag
  clear H
  rintro ay ⟨Y,Z,X2,X3,R0,ac,bi⟩
  have H:=zc R0
  clear R0
  have o:=zc Y
  have D:=zc Z
  have E:=zc X2
  have aa:=zc X3
  have X:=zc ac
  have aq:=zc bi
  clear ac bi Y Z X2 X3
  have aI:Hid (_=zV C q):=(zjk (G:=fun b e=>zm C (zaj b e)) az.out aF.out).trans ((zmJ az.out (.inl hA)).trans aQ.out.symm)
  go_wp2
  go_loopg [9] l.length (fun k i wr=>∃(j:Nat) (x':PR) (M:Sv) (q':PS) (z':Int),j≤l.length∧i= .int .i64 j∧Is x' q' z'∧(z'<0→1≤q'.pos)∧zK (fun e=>zm C (zaj n7 e)) (l.drop j) x'=zV C q∧l.length-j=k∧Mem C K I z M q' wr∧SB w.heap.size S w M wr∧Bx K M wr w.heap.size #[.slice (some ⟨K,0,none⟩) C.ts.length I,.int .i64 q'.pos,.int .i64 C.fin,.bool C.scr,.slice M.rq.a q'.rq.length M.rq.cap,.slice M.im.a q'.im.length M.im.cap,.slice M.ep.a q'.ep.length M.ep.cap,.slice M.st.a q'.st.length M.st.cap,.slice M.ex.a q'.ex.length M.ex.cap,.slice M.la.a q'.la.length M.la.cap,.int .i64 z',.int .i64 0]∧Bx K M wr (w.heap.size+1) #[.slice none 0 0,.int .i64 0,.int .i64 0,.bool false,.slice none 0 0,.slice none 0 0,.slice none 0 0,.slice none 0 0,.slice none 0 0,.slice none 0 0,.int .i64 0,.int .i64 0]∧Row M wr z w.heap.size ⟨some ⟨g,0,none⟩,rc⟩ l)
  case atStart=>exact⟨0,_,S9,q9,z9,Nat.zero_le _,rfl,ad.out,zb5 ad.out,aI.out,rfl,X.out,aq.out,o.out,D.out,H.out⟩
  case round=>
   obtain⟨j,x9,S9,q9,z9,hj,rfl,i9,p9,e9,g9,m9,t9,Y,Z,R0⟩:=hrel
   clear o D E aa H X aq
   have o:=zc Y
   have D:=zc Z
   have ag:=zc m9
   have ae:=zc t9
   have ad:=zc i9
   have aB:=zc p9
   have aD:=zc e9
   have aw:=zc g9
   have H:=zc R0
   clear Y Z i9 m9 t9 e9 g9 R0 p9
   by_cases av:j<l.length
   ·skip
    obtain⟨c1,c2⟩:=H.out.cells (g:=g) rfl av
    have aT:=H.out.own.lt (g:=g) rfl
    have HX:Hid (∀e,e=l[j]→zK (fun e=>zm C (zaj n7 e)) (l.drop (j+1)) (bd x9 (zm C (zaj n7 e)))=zV C q):=fun e he=>by rw[he,←aD.out];exact (zht (fun e=>zm C (zaj n7 e)) l x9 av).symm
    generalize ar:l[j]=el at c1 c2
    have aJ:Hid (el=l[j]):=ar.symm
    clear ar
    obtain⟨a0,a1,a2,a3,a4,a5,a6,a7,a8,a9,N,O,af⟩:=o.out.box
    go_upto_region 16 with fail
    go_region_law (first|(go_simp;go_wp2_with (go_at_call 100;refine (zeq C K I z x9 S9 q9 z9 0 (zaj n7 el) _ ad.out ag.out.drew aB.out).mono ?_;rintro e ay ⟨U,aA,aE,rfl,ah,ac,Q⟩;obtain⟨d0,d1,d2,d3,d4,d5,d6,d7,d8,d9,am,ai,df⟩:=(o.out.stp Q.undrew).box;unfold pv)))
    all_goals
     clear a0 a1 a2 a3 a4 a5 a6 a7 a8 a9 N O af d0 d1 d2 d3 d4 d5 d6 d7 d8 d9 am ai df
     have V:=zc ah
     have X:=zc ac
     have J:Hid (Stp S9 wr U ay):=Q.undrew
     clear ah ac Q
     go_wp2
     go_roundg (gk-1)
     case rel=>exact⟨j+1,_,U,aA,aE,by omega,by go_num,V.out,zjl aB.out ad.out V.out,HX.out el aJ.out,by have:=aw.out;omega,X.out.put (o.out.stp J.out) _ _ _ _ _ _ _ _ _ _ _ _,(ae.out.step J.out).put (by omega) _ _ _ _ _ _ _ _ _ _ _ _,(o.out.stp J.out).put _ _ _ _ _ _ _ _ _ _ _ _,(D.out.stp J.out).other (by omega) _ _ _ _ _ _ _ _ _ _ _ _,(H.out.stp J.out).put (o.out.stp J.out) _ _ _ _ _ _ _ _ _ _ _ _⟩
     case measure=>have:=aw.out;omega
   ·skip
    obtain⟨a0,a1,a2,a3,a4,a5,a6,a7,a8,a9,N,O,af⟩:=o.out.box
    obtain⟨b0,b1,b2,b3,b4,b5,b6,b7,b8,b9,bj,be,bf⟩:=D.out.box
    go_wp2
    refine bodyPost_ret (results_cell_row rfl _ _ (w.heap.size+1) 55 _ (0,0) _ rfl ((D.out.put ..)).heap Tryz.underlying55 rfl (by kernel_rfl)) rfl ?_
    exact zac rfl (show Is (zV C q) q9 z9 from by rw[←aD.out,List.drop_eq_nil_of_le (by omega)];exact ad.out) (ag.out.put D.out ..) (ae.out.put (by omega) ..)
 |false=>
  cases hF:(decide (z4<0)&&isT C q4.pos 1 zH) with
  |true=>
   obtain⟨c0,c1,c2,c3,c4,c5,c6,c7,c8,c9,an,al,cf⟩:=E.out.box
   go_wp2_with fail
   refine (zj C K I z S4 q4 z4 0 1 zH _ au.out.tok aH (by decide)).mono ?_
   rintro e w6 ⟨rfl,ab⟩
   rw[hF]
   replace o:=zc (o.out.below ab)
   replace D:=zc (D.out.below ab)
   replace E:=zc (E.out.below ab)
   have ap:=zc (aG.out.below ab)
   have ax:=zc (au.out.later ab)
   have L:Hid (Row S4 w6 z w.heap.size ⟨some ⟨g,0,none⟩,rc⟩ l):=H.out.below ab
   clear H
   have H:=zc L
   clear L
   clear ab aG au
   clear c0 c1 c2 c3 c4 c5 c6 c7 c8 c9 an al cf
   obtain⟨c0,c1,c2,c3,c4,c5,c6,c7,c8,c9,an,al,cf⟩:=E.out.box
   go_wp2_with fail
   refine (zaT C K I z _ S4 q4 z4 0 zH _ az.out.fst ax.out).mono ?_
   rintro e w7 ⟨S7,q7,z7,rfl,i7,m7,s7⟩
   replace o:=zc (o.out.stp s7)
   replace D:=zc (D.out.stp s7)
   replace E:=zc (E.out.stp s7)
   have ao:=zc (ap.out.step s7)
   have L:Hid (Row S7 w7 z w.heap.size ⟨some ⟨g,0,none⟩,rc⟩ l):=H.out.stp s7
   clear H
   have H:=zc L
   clear L
   clear ap
   have aj:=zc m7
   have aF:=zc i7
   clear i7 m7 s7 ax
   clear c0 c1 c2 c3 c4 c5 c6 c7 c8 c9 an al cf
   go_wp2_with fail
   refine (zeD C K I z _ S7 q7 z7 0 _ aF.out aj.out).mono ?_
   rintro e w8 ⟨S8,q8,z8,n8,rfl,i8,m8,s8⟩
   replace o:=zc (o.out.stp s8)
   replace D:=zc (D.out.stp s8)
   replace E:=zc (E.out.stp s8)
   have aC:=zc (ao.out.step s8)
   have L:Hid (Row S8 w8 z w.heap.size ⟨some ⟨g,0,none⟩,rc⟩ l):=H.out.stp s8
   clear H
   have H:=zc L
   clear L
   clear ao
   have ak:=zc m8
   have bb:=zc i8
   clear i8 m8 s8 aj
   have aU:w.heap.size+1<w8.heap.size:=D.out.lt
   have aL:w4.heap.size<w8.heap.size:=E.out.lt
   unfold pv
   go_upto_region 12 with fail
   refine zQ (R:=fun W=>Bx K S8 W (w.heap.size) _∧Bx K S8 W (w.heap.size+1) _∧Bx K S8 W (w4.heap.size) _∧Bx K S8 W (w8.heap.size) _∧Row S8 W z w.heap.size ⟨some ⟨g,0,none⟩,rc⟩ l∧Mem C K I z S8 q8 W∧SB w.heap.size S w S8 W) ⟨(o.out.alloc _),(D.out.alloc _),(E.out.alloc _),(Bx.new ak.out _),(H.out.alloc _),(ak.out.alloc _),(aC.out.alloc _)⟩ ?_
   clear o D E aC ak
   clear H
   rintro w9 ⟨Y,Z,X2,X3,R0,m9,t9⟩
   have H:=zc R0
   clear R0
   have o:=zc Y
   have D:=zc Z
   have E:=zc X2
   have aa:=zc X3
   have ag:=zc m9
   have ae:=zc t9
   clear m9 t9 Y Z X2 X3
   obtain⟨d0,d1,d2,d3,d4,d5,d6,d7,d8,d9,am,ai,df⟩:=aa.out.box
   go_wp2_with fail
   refine (zah C K I z _ S8 q8 z8 0 cSemi _ bb.out.fst ag.out).mono ?_
   rintro e ay ⟨U,aA,aE,rfl,ah,ac,Q⟩
   replace o:=zc (o.out.stp Q)
   replace D:=zc (D.out.stp Q)
   replace E:=zc (E.out.stp Q)
   replace aa:=zc (aa.out.stp Q)
   have aq:=zc (ae.out.step Q)
   have L:Hid (Row U ay z w.heap.size ⟨some ⟨g,0,none⟩,rc⟩ l):=H.out.stp Q
   clear H
   have H:=zc L
   clear L
   clear ae
   have X:=zc ac
   have V:=zc ah
   clear ah ac Q ag
   clear d0 d1 d2 d3 d4 d5 d6 d7 d8 d9 am ai df
   obtain⟨a0,a1,a2,a3,a4,a5,a6,a7,a8,a9,N,O,af⟩:=o.out.box
   unfold pv
   go_upto_region 13 with fail
   refine zQ (R:=fun W=>Bx K U W (w.heap.size) _∧Bx K U W (w.heap.size+1) _∧Bx K U W (w4.heap.size) _∧Bx K U W (w8.heap.size) _∧Row U W z w.heap.size ⟨some ⟨g,0,none⟩,rc⟩ l∧Mem C K I z U aA W∧SB w.heap.size S w U W) ⟨(o.out.put ..),(D.out.other (by omega) ..),(E.out.other (by omega) ..),(aa.out.other (by omega) ..),(H.out.put o.out ..),(X.out.put o.out ..),(aq.out.put (by omega) ..)⟩ ?_
   clear a0 a1 a2 a3 a4 a5 a6 a7 a8 a9 N O af
   clear o D E aa aq X
   clear H
   rintro bp ⟨Y,Z,X2,X3,R0,aY,bc⟩
   have H:=zc R0
   clear R0
   have o:=zc Y
   have D:=zc Z
   have E:=zc X2
   have aa:=zc X3
   have aN:=zc aY
   have aM:=zc bc
   clear aY bc Y Z X2 X3
   have aI:Hid (_=zV C q):=(zjk (G:=fun b e=>zm C (zaj b e)) az.out bb.out).trans ((zmJ az.out (.inr hF)).trans aQ.out.symm)
   go_wp2
   go_loopg [9] l.length (fun k i wr=>∃(j:Nat) (x':PR) (M:Sv) (q':PS) (z':Int),j≤l.length∧i= .int .i64 j∧Is x' q' z'∧(z'<0→1≤q'.pos)∧zK (fun e=>zm C (zaj n8 e)) (l.drop j) x'=zV C q∧l.length-j=k∧Mem C K I z M q' wr∧SB w.heap.size S w M wr∧Bx K M wr w.heap.size #[.slice (some ⟨K,0,none⟩) C.ts.length I,.int .i64 q'.pos,.int .i64 C.fin,.bool C.scr,.slice M.rq.a q'.rq.length M.rq.cap,.slice M.im.a q'.im.length M.im.cap,.slice M.ep.a q'.ep.length M.ep.cap,.slice M.st.a q'.st.length M.st.cap,.slice M.ex.a q'.ex.length M.ex.cap,.slice M.la.a q'.la.length M.la.cap,.int .i64 z',.int .i64 0]∧Bx K M wr (w.heap.size+1) #[.slice none 0 0,.int .i64 0,.int .i64 0,.bool false,.slice none 0 0,.slice none 0 0,.slice none 0 0,.slice none 0 0,.slice none 0 0,.slice none 0 0,.int .i64 0,.int .i64 0]∧Row M wr z w.heap.size ⟨some ⟨g,0,none⟩,rc⟩ l)
   case atStart=>exact⟨0,_,U,aA,aE,Nat.zero_le _,rfl,V.out,zb5 V.out,aI.out,rfl,aN.out,aM.out,o.out,D.out,H.out⟩
   case round=>
    obtain⟨j,x9,S9,q9,z9,hj,rfl,i9,p9,e9,g9,m9,t9,Y,Z,R0⟩:=hrel
    clear o D E aa H aN aM
    have o:=zc Y
    have D:=zc Z
    have ag:=zc m9
    have ae:=zc t9
    have ad:=zc i9
    have aB:=zc p9
    have aD:=zc e9
    have aw:=zc g9
    have H:=zc R0
    clear Y Z i9 m9 t9 e9 g9 R0 p9
    by_cases av:j<l.length
    ·skip
     obtain⟨c1,c2⟩:=H.out.cells (g:=g) rfl av
     have aT:=H.out.own.lt (g:=g) rfl
     have HX:Hid (∀e,e=l[j]→zK (fun e=>zm C (zaj n8 e)) (l.drop (j+1)) (bd x9 (zm C (zaj n8 e)))=zV C q):=fun e he=>by rw[he,←aD.out];exact (zht (fun e=>zm C (zaj n8 e)) l x9 av).symm
     generalize ar:l[j]=el at c1 c2
     have aJ:Hid (el=l[j]):=ar.symm
     clear ar
     obtain⟨a0,a1,a2,a3,a4,a5,a6,a7,a8,a9,N,O,af⟩:=o.out.box
     go_upto_region 16 with fail
     go_region_law (first|(go_simp;go_wp2_with (go_at_call 100;refine (zeq C K I z x9 S9 q9 z9 0 (zaj n8 el) _ ad.out ag.out.drew aB.out).mono ?_;rintro e ay ⟨U,aA,aE,rfl,ah,ac,Q⟩;obtain⟨d0,d1,d2,d3,d4,d5,d6,d7,d8,d9,am,ai,df⟩:=(o.out.stp Q.undrew).box;unfold pv)))
     all_goals
      clear a0 a1 a2 a3 a4 a5 a6 a7 a8 a9 N O af d0 d1 d2 d3 d4 d5 d6 d7 d8 d9 am ai df
      have V:=zc ah
      have X:=zc ac
      have J:Hid (Stp S9 wr U ay):=Q.undrew
      clear ah ac Q
      go_wp2
      go_roundg (gk-1)
      case rel=>exact⟨j+1,_,U,aA,aE,by omega,by go_num,V.out,zjl aB.out ad.out V.out,HX.out el aJ.out,by have:=aw.out;omega,X.out.put (o.out.stp J.out) _ _ _ _ _ _ _ _ _ _ _ _,(ae.out.step J.out).put (by omega) _ _ _ _ _ _ _ _ _ _ _ _,(o.out.stp J.out).put _ _ _ _ _ _ _ _ _ _ _ _,(D.out.stp J.out).other (by omega) _ _ _ _ _ _ _ _ _ _ _ _,(H.out.stp J.out).put (o.out.stp J.out) _ _ _ _ _ _ _ _ _ _ _ _⟩
      case measure=>have:=aw.out;omega
    ·skip
     obtain⟨a0,a1,a2,a3,a4,a5,a6,a7,a8,a9,N,O,af⟩:=o.out.box
     obtain⟨b0,b1,b2,b3,b4,b5,b6,b7,b8,b9,bj,be,bf⟩:=D.out.box
     go_wp2
     refine bodyPost_ret (results_cell_row rfl _ _ (w.heap.size+1) 55 _ (0,0) _ rfl ((D.out.put ..)).heap Tryz.underlying55 rfl (by kernel_rfl)) rfl ?_
     exact zac rfl (show Is (zV C q) q9 z9 from by rw[←aD.out,List.drop_eq_nil_of_le (by omega)];exact ad.out) (ag.out.put D.out ..) (ae.out.put (by omega) ..)
  |false=>
   obtain⟨c0,c1,c2,c3,c4,c5,c6,c7,c8,c9,an,al,cf⟩:=E.out.box
   go_wp2_with fail
   refine (zj C K I z S4 q4 z4 0 1 zH _ au.out.tok aH (by decide)).mono ?_
   rintro e w6 ⟨rfl,ab⟩
   rw[hF]
   replace o:=zc (o.out.below ab)
   replace D:=zc (D.out.below ab)
   replace E:=zc (E.out.below ab)
   have ap:=zc (aG.out.below ab)
   have ax:=zc (au.out.later ab)
   have L:Hid (Row S4 w6 z w.heap.size ⟨some ⟨g,0,none⟩,rc⟩ l):=H.out.below ab
   clear H
   have H:=zc L
   clear L
   clear ab aG au
   clear c0 c1 c2 c3 c4 c5 c6 c7 c8 c9 an al cf
   obtain⟨c0,c1,c2,c3,c4,c5,c6,c7,c8,c9,an,al,cf⟩:=E.out.box
   go_wp2_with fail
   refine (zah C K I z _ S4 q4 z4 0 cSemi _ az.out.fst ax.out).mono ?_
   rintro e w7 ⟨S7,q7,z7,rfl,i7,m7,s7⟩
   replace o:=zc (o.out.stp s7)
   replace D:=zc (D.out.stp s7)
   replace E:=zc (E.out.stp s7)
   have ao:=zc (ap.out.step s7)
   have L:Hid (Row S7 w7 z w.heap.size ⟨some ⟨g,0,none⟩,rc⟩ l):=H.out.stp s7
   clear H
   have H:=zc L
   clear L
   clear ap
   have aj:=zc m7
   have aF:=zc i7
   clear i7 m7 s7 ax
   clear c0 c1 c2 c3 c4 c5 c6 c7 c8 c9 an al cf
   obtain⟨a0,a1,a2,a3,a4,a5,a6,a7,a8,a9,N,O,af⟩:=o.out.box
   unfold pv
   go_upto_region 6 with fail
   refine zQ (R:=fun W=>Bx K S7 W (w.heap.size) _∧Bx K S7 W (w.heap.size+1) _∧Bx K S7 W (w4.heap.size) _∧Row S7 W z w.heap.size ⟨some ⟨g,0,none⟩,rc⟩ l∧Mem C K I z S7 q7 W∧SB w.heap.size S w S7 W) ⟨(o.out.put ..),(D.out.other (by omega) ..),(E.out.other (by omega) ..),(H.out.put o.out ..),(aj.out.put o.out ..),(ao.out.put (by omega) ..)⟩ ?_
   clear a0 a1 a2 a3 a4 a5 a6 a7 a8 a9 N O af
   clear o D E ao aj
   clear H
   rintro w8 ⟨Y,Z,X2,R0,m8,t8⟩
   have H:=zc R0
   clear R0
   have o:=zc Y
   have D:=zc Z
   have E:=zc X2
   have ak:=zc m8
   have aC:=zc t8
   clear m8 t8 Y Z X2
   have aI:Hid (_=zV C q):=(zvc az.out hA hF).trans aQ.out.symm
   go_wp2
   go_loopg [6] l.length (fun k i wr=>∃(j:Nat) (x':PR) (M:Sv) (q':PS) (z':Int),j≤l.length∧i= .int .i64 j∧Is x' q' z'∧(z'<0→1≤q'.pos)∧zK (fun e=>zm C (zD e)) (l.drop j) x'=zV C q∧l.length-j=k∧Mem C K I z M q' wr∧SB w.heap.size S w M wr∧Bx K M wr w.heap.size #[.slice (some ⟨K,0,none⟩) C.ts.length I,.int .i64 q'.pos,.int .i64 C.fin,.bool C.scr,.slice M.rq.a q'.rq.length M.rq.cap,.slice M.im.a q'.im.length M.im.cap,.slice M.ep.a q'.ep.length M.ep.cap,.slice M.st.a q'.st.length M.st.cap,.slice M.ex.a q'.ex.length M.ex.cap,.slice M.la.a q'.la.length M.la.cap,.int .i64 z',.int .i64 0]∧Bx K M wr (w.heap.size+1) #[.slice none 0 0,.int .i64 0,.int .i64 0,.bool false,.slice none 0 0,.slice none 0 0,.slice none 0 0,.slice none 0 0,.slice none 0 0,.slice none 0 0,.int .i64 0,.int .i64 0]∧Row M wr z w.heap.size ⟨some ⟨g,0,none⟩,rc⟩ l)
   case atStart=>exact⟨0,_,S7,q7,z7,Nat.zero_le _,rfl,aF.out,zb5 aF.out,aI.out,rfl,ak.out,aC.out,o.out,D.out,H.out⟩
   case round=>
    obtain⟨j,x9,S9,q9,z9,hj,rfl,i9,p9,e9,g9,m9,t9,Y,Z,R0⟩:=hrel
    clear o D E H ak aC
    have o:=zc Y
    have D:=zc Z
    have ag:=zc m9
    have ae:=zc t9
    have ad:=zc i9
    have aB:=zc p9
    have aD:=zc e9
    have aw:=zc g9
    have H:=zc R0
    clear Y Z i9 m9 t9 e9 g9 R0 p9
    by_cases av:j<l.length
    ·skip
     obtain⟨c1,c2⟩:=H.out.cells (g:=g) rfl av
     have aT:=H.out.own.lt (g:=g) rfl
     have HX:Hid (∀e,e=l[j]→zK (fun e=>zm C (zD e)) (l.drop (j+1)) (bd x9 (zm C (zD e)))=zV C q):=fun e he=>by rw[he,←aD.out];exact (zht (fun e=>zm C (zD e)) l x9 av).symm
     generalize ar:l[j]=el at c1 c2
     have aJ:Hid (el=l[j]):=ar.symm
     clear ar
     obtain⟨a0,a1,a2,a3,a4,a5,a6,a7,a8,a9,N,O,af⟩:=o.out.box
     go_upto_region 9 with fail
     go_region_law (first|(go_simp;go_wp2_with (go_at_call 100;refine (zeq C K I z x9 S9 q9 z9 0 (zD el) _ ad.out ag.out.drew aB.out).mono ?_;rintro e ay ⟨U,aA,aE,rfl,ah,ac,Q⟩;obtain⟨d0,d1,d2,d3,d4,d5,d6,d7,d8,d9,am,ai,df⟩:=(o.out.stp Q.undrew).box;unfold pv)))
     all_goals
      clear a0 a1 a2 a3 a4 a5 a6 a7 a8 a9 N O af d0 d1 d2 d3 d4 d5 d6 d7 d8 d9 am ai df
      have V:=zc ah
      have X:=zc ac
      have J:Hid (Stp S9 wr U ay):=Q.undrew
      clear ah ac Q
      go_wp2
      go_roundg (gk-1)
      case rel=>exact⟨j+1,_,U,aA,aE,by omega,by go_num,V.out,zjl aB.out ad.out V.out,HX.out el aJ.out,by have:=aw.out;omega,X.out.put (o.out.stp J.out) _ _ _ _ _ _ _ _ _ _ _ _,(ae.out.step J.out).put (by omega) _ _ _ _ _ _ _ _ _ _ _ _,(o.out.stp J.out).put _ _ _ _ _ _ _ _ _ _ _ _,(D.out.stp J.out).other (by omega) _ _ _ _ _ _ _ _ _ _ _ _,(H.out.stp J.out).put (o.out.stp J.out) _ _ _ _ _ _ _ _ _ _ _ _⟩
      case measure=>have:=aw.out;omega
    ·skip
     obtain⟨a0,a1,a2,a3,a4,a5,a6,a7,a8,a9,N,O,af⟩:=o.out.box
     obtain⟨b0,b1,b2,b3,b4,b5,b6,b7,b8,b9,bj,be,bf⟩:=D.out.box
     go_wp2
     refine bodyPost_ret (results_cell_row rfl _ _ (w.heap.size+1) 55 _ (0,0) _ rfl ((D.out.put ..)).heap Tryz.underlying55 rfl (by kernel_rfl)) rfl ?_
     exact zac rfl (show Is (zV C q) q9 z9 from by rw[←aD.out,List.drop_eq_nil_of_le (by omega)];exact ad.out) (ag.out.put D.out ..) (ae.out.put (by omega) ..)
theorem zvj (C:Cx) (z o j:Nat) (S:Sv) (q:PS) (w:World) (D:Mem C z o j S q w) (E:isT C q.pos 1 sImport=true):
  Calls Tryz.prog 48 #[pv C z o S q (-1) 0] w (Out C z o j (za3 C q) 0 S w):=by
 cases H:isT C (q.pos+1) 4 zF with
 |true=>exact zuX C z o j S q w D E H
 |false=>
  cases I:isT C (q.pos+1) 4 zp with
  |true=>exact zuU C z o j S q w D E H I
  |false=>
   cases J:plainB C (q.pos+1) false with
   |true=>exact zuV C z o j S q w D E H I J
   |false=>exact zuW C z o j S q w D E H I J
theorem zvk (C:Cx) (z o j:Nat) (S:Sv) (q:PS) (w:World) (D:Mem C z o j S q w) (E:isT C q.pos 1 sExport=true):
  Calls Tryz.prog 49 #[pv C z o S q (-1) 0] w (Out C z o j (zV C q) 0 S w):=by
 cases H:isT C (q.pos+1) 4 zF with
 |true=>exact zvi C z o j S q w D E H
 |false=>
  cases I:isT C (q.pos+1) 4 zp with
  |true=>exact zvd C z o j S q w D E H I
  |false=>
   cases J:isT C (q.pos+1) 1 sDefault with
   |true=>exact zve C z o j S q w D E H I J
   |false=>
    cases K:isT C (q.pos+1) 1 sLet with
    |true=>exact zvf C z o j S q w D E H I J K
    |false=>
     cases L:isT C (q.pos+1) 1 sFunction with
     |true=>exact zvg C z o j S q w D E H I J K L
     |false=>exact zvh C z o j S q w D E H I J K L
theorem zmK {C:Cx} {x:PR} {n:ByteArray}:bd (bd (bd (bd x (zd C 4 cEq)) (pE C .sum 0)) (zd C 4 cSemi)) (zE C 3 n)=bd x fun q=>bd (bd (bd (bd (.ok q) (zd C 4 cEq)) (pE C .sum 0)) (zd C 4 cSemi)) (zE C 3 n):=by cases x<;>rfl
theorem zvl (H:List Tk) (j:Nat) (I D z:Nat) (S:Sv) (q:PS) (w:World) (Z:Mem (Cx.mk H j true) I D z S q w) (h0:isT (Cx.mk H j true) q.pos 1 sLet=true):
  Calls Tryz.prog 21 #[pv (Cx.mk H j true) I D S q (-1) 0] w (Out (Cx.mk H j true) I D z (zo (Cx.mk H j true) q) 0 S w):=by
 have HM:=zc Z
 have J:=Z.tok
 have M:(Cx.mk H j true).ts.length≤4000:=Z.few
 clear Z
 have HV:Hid (zo (Cx.mk H j true) q=za7 (zbA (Cx.mk H j true) q)):=by show zo (Cx.mk H j true) q=_;rw[zo,h0];rfl
 unfold pv
 go_enter Tryz.func21,Tryz.ntmps21
 go_wp2_with fail
 refine (zj (Cx.mk H j true) I D z S q (-1) 0 1 sLet _ (zv (zv J _) _) M (by decide)).mono ?_
 rintro e w1 ⟨rfl,X⟩
 rw[h0]
 obtain⟨L,U,m1,t1⟩:=HM.out.two X
 have E:=zc L
 have o:=zc U
 have N:=zc m1
 have V:=zc t1
 clear L U m1 t1 X
 clear J
 obtain⟨a0,a1,a2,a3,a4,a5,a6,a7,a8,a9,ad,ae,af⟩:=E.out.box
 go_wp2_with fail
 refine (zji (Cx.mk H j true) I D z S q _ N.out).mono ?_
 rintro e w2 ⟨Q,q2,z2,n2,rfl,i2,m2,Y⟩
 replace E:=zc (E.out.stp Y)
 replace o:=zc (o.out.stp Y)
 have O:=zc (V.out.step Y)
 clear V
 have K:=zc m2
 have aa:=zc i2
 clear i2 m2 Y N
 clear a0 a1 a2 a3 a4 a5 a6 a7 a8 a9 ad ae af
 have ah:w.heap.size+1<w2.heap.size:=o.out.lt
 unfold pv
 go_upto_region 7 with fail
 refine zQ (R:=fun W=>Bx I Q W (w.heap.size) _∧Bx I Q W (w.heap.size+1) _∧Bx I Q W (w2.heap.size) _∧Mem (Cx.mk H j true) I D z Q q2 W∧SB w.heap.size S w Q W) ⟨(E.out.alloc _),(o.out.alloc _),(Bx.new K.out _),(K.out.alloc _),(O.out.alloc _)⟩ ?_
 clear E o O K
 rintro w3 ⟨L,U,X2,m3,t3⟩
 have E:=zc L
 have o:=zc U
 have ag:=zc X2
 have ab:=zc m3
 have ac:=zc t3
 clear m3 t3 L U X2
 obtain⟨b0,b1,b2,b3,b4,b5,b6,b7,b8,b9,ak,ai,bf⟩:=o.out.box
 obtain⟨c0,c1,c2,c3,c4,c5,c6,c7,c8,c9,al,aj,cf⟩:=ag.out.box
 go_wp2
 refine bodyPost_ret (results_cell_row rfl _ _ (w.heap.size+1) 55 _ (0,0) _ rfl ((o.out.put ..)).heap Tryz.underlying55 rfl (by kernel_rfl)) rfl ?_
 rw[HV.out]
 exact zac rfl aa.out.fst (ab.out.put o.out ..) (ac.out.put (by omega) ..)
theorem zvm (H:List Tk) (j:Nat) (J E z:Nat) (S:Sv) (q:PS) (w:World) (hm:Mem (Cx.mk H j true) J E z S q w) (h0:isT (Cx.mk H j true) q.pos 1 sLet=false) (h1:isT (Cx.mk H j true) q.pos 1 sFunction=true):
  Calls Tryz.prog 21 #[pv (Cx.mk H j true) J E S q (-1) 0] w (Out (Cx.mk H j true) J E z (zo (Cx.mk H j true) q) 0 S w):=by
 have HM:=zc hm
 have L:=hm.tok
 have K:(Cx.mk H j true).ts.length≤4000:=hm.few
 clear hm
 have HV:Hid (zo (Cx.mk H j true) q=za7 (fnP (Cx.mk H j true) q)):=by show zo (Cx.mk H j true) q=_;rw[zo,h0,h1];rfl
 unfold pv
 go_enter Tryz.func21,Tryz.ntmps21
 go_wp2_with fail
 refine (zj (Cx.mk H j true) J E z S q (-1) 0 1 sLet _ (zv (zv L _) _) K (by decide)).mono ?_
 rintro e w1 ⟨rfl,aa⟩
 rw[h0]
 obtain⟨U,X,m1,t1⟩:=HM.out.two aa
 have D:=zc U
 have o:=zc X
 have M:=zc m1
 have Z:=zc t1
 clear U X m1 t1 aa
 clear L
 obtain⟨a0,a1,a2,a3,a4,a5,a6,a7,a8,a9,O,Q,af⟩:=D.out.box
 go_wp2_with fail
 refine (zj (Cx.mk H j true) J E z S q (-1) 0 1 sFunction _ M.out.tok K (by decide)).mono ?_
 rintro e w2 ⟨rfl,I⟩
 rw[h1]
 replace D:=zc (D.out.below I)
 replace o:=zc (o.out.below I)
 have V:=zc (Z.out.below I)
 have Y:=zc (M.out.later I)
 clear I Z M
 clear a0 a1 a2 a3 a4 a5 a6 a7 a8 a9 O Q af
 obtain⟨a0,a1,a2,a3,a4,a5,a6,a7,a8,a9,O,Q,af⟩:=D.out.box
 go_wp2_with fail
 refine (zjj (Cx.mk H j true) J E z S q _ Y.out).mono ?_
 rintro e w3 ⟨S3,q3,z3,n3,rfl,i3,m3,s3⟩
 replace D:=zc (D.out.stp s3)
 replace o:=zc (o.out.stp s3)
 have ab:=zc (V.out.step s3)
 clear V
 have N:=zc m3
 have ac:=zc i3
 clear i3 m3 s3 Y
 clear a0 a1 a2 a3 a4 a5 a6 a7 a8 a9 O Q af
 have ah:w.heap.size+1<w3.heap.size:=o.out.lt
 unfold pv
 go_upto_region 10 with fail
 refine zQ (R:=fun W=>Bx J S3 W (w.heap.size) _∧Bx J S3 W (w.heap.size+1) _∧Bx J S3 W (w3.heap.size) _∧Mem (Cx.mk H j true) J E z S3 q3 W∧SB w.heap.size S w S3 W) ⟨(D.out.alloc _),(o.out.alloc _),(Bx.new N.out _),(N.out.alloc _),(ab.out.alloc _)⟩ ?_
 clear D o ab N
 rintro w4 ⟨U,X,X2,m4,t4⟩
 have D:=zc U
 have o:=zc X
 have ag:=zc X2
 have ad:=zc m4
 have ae:=zc t4
 clear m4 t4 U X X2
 obtain⟨b0,b1,b2,b3,b4,b5,b6,b7,b8,b9,ak,ai,bf⟩:=o.out.box
 obtain⟨c0,c1,c2,c3,c4,c5,c6,c7,c8,c9,al,aj,cf⟩:=ag.out.box
 go_wp2
 refine bodyPost_ret (results_cell_row rfl _ _ (w.heap.size+1) 55 _ (0,0) _ rfl ((o.out.put ..)).heap Tryz.underlying55 rfl (by kernel_rfl)) rfl ?_
 rw[HV.out]
 exact zac rfl ac.out.fst (ad.out.put o.out ..) (ae.out.put (by omega) ..)
theorem zvn (H:List Tk) (j:Nat) (I E D:Nat) (S:Sv) (q:PS) (w:World) (hm:Mem (Cx.mk H j true) I E D S q w) (h0:isT (Cx.mk H j true) q.pos 1 sLet=false) (h1:isT (Cx.mk H j true) q.pos 1 sFunction=false) (h2:isT (Cx.mk H j true) q.pos 1 sPrint=true):
  Calls Tryz.prog 21 #[pv (Cx.mk H j true) I E S q (-1) 0] w (Out (Cx.mk H j true) I E D (zo (Cx.mk H j true) q) 0 S w):=by
 have HM:=zc hm
 have U:=hm.tok
 have J:(Cx.mk H j true).ts.length≤4000:=hm.few
 clear hm
 have HV:Hid (zo (Cx.mk H j true) q=bd (bd (bd (bd (bd (bd (.ok q) (zd (Cx.mk H j true) 1 sPrint)) (zd (Cx.mk H j true) 4 cOpen)) (pE (Cx.mk H j true) .sum 0)) (zd (Cx.mk H j true) 4 zU)) (zd (Cx.mk H j true) 4 cSemi)) (zE (Cx.mk H j true) 4 sNone)):=by show zo (Cx.mk H j true) q=_;rw[zo,h0,h1,h2];rfl
 unfold pv
 go_enter Tryz.func21,Tryz.ntmps21
 go_wp2_with fail
 refine (zj (Cx.mk H j true) I E D S q (-1) 0 1 sLet _ (zv (zv U _) _) J (by decide)).mono ?_
 rintro e w1 ⟨rfl,an⟩
 rw[h0]
 obtain⟨X0,X1,m1,t1⟩:=HM.out.two an
 have z:=zc X0
 have o:=zc X1
 have V:=zc m1
 have ak:=zc t1
 clear X0 X1 m1 t1 an
 clear U
 obtain⟨a0,a1,a2,a3,a4,a5,a6,a7,a8,a9,L,N,af⟩:=z.out.box
 go_wp2_with fail
 refine (zj (Cx.mk H j true) I E D S q (-1) 0 1 sFunction _ V.out.tok J (by decide)).mono ?_
 rintro e w2 ⟨rfl,K⟩
 rw[h1]
 replace z:=zc (z.out.below K)
 replace o:=zc (o.out.below K)
 have ae:=zc (ak.out.below K)
 have Y:=zc (V.out.later K)
 clear K ak V
 clear a0 a1 a2 a3 a4 a5 a6 a7 a8 a9 L N af
 obtain⟨a0,a1,a2,a3,a4,a5,a6,a7,a8,a9,L,N,af⟩:=z.out.box
 go_wp2_with fail
 refine (zj (Cx.mk H j true) I E D S q (-1) 0 1 sPrint _ Y.out.tok J (by decide)).mono ?_
 rintro e w3 ⟨rfl,Q⟩
 rw[h2]
 replace z:=zc (z.out.below Q)
 replace o:=zc (o.out.below Q)
 have ar:=zc (ae.out.below Q)
 have ao:=zc (Y.out.later Q)
 clear Q ae Y
 clear a0 a1 a2 a3 a4 a5 a6 a7 a8 a9 L N af
 obtain⟨a0,a1,a2,a3,a4,a5,a6,a7,a8,a9,L,N,af⟩:=z.out.box
 go_wp2_with fail
 refine (zaT (Cx.mk H j true) I E D (.ok q) S q (-1) 0 sPrint _ (zab q) ao.out).mono ?_
 rintro e w4 ⟨S4,q4,z4,rfl,i4,m4,s4⟩
 replace z:=zc (z.out.stp s4)
 replace o:=zc (o.out.stp s4)
 have av:=zc (ar.out.step s4)
 clear ar
 have au:=zc m4
 have aD:=zc i4
 clear i4 m4 s4 ao
 clear a0 a1 a2 a3 a4 a5 a6 a7 a8 a9 L N af
 go_wp2_with fail
 refine (zah (Cx.mk H j true) I E D _ S4 q4 z4 0 cOpen _ aD.out au.out).mono ?_
 rintro e w5 ⟨S5,q5,z5,rfl,i5,m5,s5⟩
 replace z:=zc (z.out.stp s5)
 replace o:=zc (o.out.stp s5)
 have aq:=zc (av.out.step s5)
 clear av
 have ah:=zc m5
 have aA:=zc i5
 clear i5 m5 s5 au
 go_wp2_with fail
 refine (zdp (Cx.mk H j true) I E D _ S5 q5 z5 _ aA.out ah.out).mono ?_
 rintro e w6 ⟨S6,q6,z6,rfl,i6,m6,s6⟩
 replace z:=zc (z.out.stp s6)
 replace o:=zc (o.out.stp s6)
 have ad:=zc (aq.out.step s6)
 clear aq
 have aj:=zc m6
 have az:=zc i6
 clear i6 m6 s6 ah
 go_wp2_with fail
 refine (zah (Cx.mk H j true) I E D _ S6 q6 z6 0 zU _ az.out aj.out).mono ?_
 rintro e w7 ⟨Z,q7,z7,rfl,i7,m7,s7⟩
 replace z:=zc (z.out.stp s7)
 replace o:=zc (o.out.stp s7)
 have ab:=zc (ad.out.step s7)
 clear ad
 have X:=zc m7
 have aB:=zc i7
 clear i7 m7 s7 aj
 have aF:w.heap.size+1<w7.heap.size:=o.out.lt
 unfold pv
 go_upto_region 13 with fail
 refine zQ (R:=fun W=>Bx I Z W (w.heap.size) _∧Bx I Z W (w.heap.size+1) _∧Bx I Z W (w7.heap.size) _∧Mem (Cx.mk H j true) I E D Z q7 W∧SB w.heap.size S w Z W) ⟨(z.out.alloc _),(o.out.alloc _),(Bx.new X.out _),(X.out.alloc _),(ab.out.alloc _)⟩ ?_
 clear z o ab X
 rintro w8 ⟨X0,X1,X2,m8,t8⟩
 have z:=zc X0
 have o:=zc X1
 have O:=zc X2
 have al:=zc m8
 have ax:=zc t8
 clear m8 t8 X0 X1 X2
 obtain⟨c0,c1,c2,c3,c4,c5,c6,c7,c8,c9,aE,aC,cf⟩:=O.out.box
 go_wp2_with fail
 refine (zah (Cx.mk H j true) I E D _ Z q7 z7 0 cSemi _ aB.out al.out).mono ?_
 rintro e w9 ⟨S9,q9,z9,rfl,i9,m9,s9⟩
 replace z:=zc (z.out.stp s9)
 replace o:=zc (o.out.stp s9)
 replace O:=zc (O.out.stp s9)
 have aw:=zc (ax.out.step s9)
 clear ax
 have ay:=zc m9
 have ai:=zc i9
 clear i9 m9 s9 al
 clear c0 c1 c2 c3 c4 c5 c6 c7 c8 c9 aE aC cf
 go_wp2_with fail
 refine (zcY (Cx.mk H j true) I E D _ S9 q9 z9 0 4 sNone _ ai.out ay.out (zb5 ai.out)).mono ?_
 rintro e aI ⟨aH,aL,aG,rfl,am,aa,M⟩
 replace z:=zc (z.out.stp M)
 replace o:=zc (o.out.stp M)
 replace O:=zc (O.out.stp M)
 have ag:=zc (aw.out.step M)
 clear aw
 have ap:=zc aa
 have ac:=zc am
 clear am aa M ay
 obtain⟨b0,b1,b2,b3,b4,b5,b6,b7,b8,b9,aK,aJ,bf⟩:=o.out.box
 unfold pv
 go_wp2
 refine bodyPost_ret (results_cell_row rfl _ _ (w.heap.size+1) 55 _ (0,0) _ rfl ((o.out.put ..)).heap Tryz.underlying55 rfl (by kernel_rfl)) rfl ?_
 rw[HV.out]
 exact zac rfl ac.out (ap.out.put o.out ..) (ag.out.put (by omega) ..)
theorem zvo (E:List Tk) (j:Nat) (L H D:Nat) (S:Sv) (q:PS) (w:World) (hm:Mem (Cx.mk E j true) L H D S q w) (h0:isT (Cx.mk E j true) q.pos 1 sLet=false) (h1:isT (Cx.mk E j true) q.pos 1 sFunction=false) (h2:isT (Cx.mk E j true) q.pos 1 sPrint=false) (h3:isT (Cx.mk E j true) q.pos 1 sThrow=true):
  Calls Tryz.prog 21 #[pv (Cx.mk E j true) L H S q (-1) 0] w (Out (Cx.mk E j true) L H D (zo (Cx.mk E j true) q) 0 S w):=by
 have HM:=zc hm
 have Q:=hm.tok
 have K:(Cx.mk E j true).ts.length≤4000:=hm.few
 clear hm
 have HV:Hid (zo (Cx.mk E j true) q=bd (bd (bd (bd (.ok q) (zd (Cx.mk E j true) 1 sThrow)) (pE (Cx.mk E j true) .sum 0)) (zd (Cx.mk E j true) 4 cSemi)) (zE (Cx.mk E j true) 5 sNone)):=by show zo (Cx.mk E j true) q=_;rw[zo,h0,h1,h2,h3];rfl
 unfold pv
 go_enter Tryz.func21,Tryz.ntmps21
 go_wp2_with fail
 refine (zj (Cx.mk E j true) L H D S q (-1) 0 1 sLet _ (zv (zv Q _) _) K (by decide)).mono ?_
 rintro e w1 ⟨rfl,ak⟩
 rw[h0]
 obtain⟨X0,X1,m1,t1⟩:=HM.out.two ak
 have o:=zc X0
 have z:=zc X1
 have U:=zc m1
 have ai:=zc t1
 clear X0 X1 m1 t1 ak
 clear Q
 obtain⟨a0,a1,Y,V,a4,a5,a6,a7,Z,a9,I,J,af⟩:=o.out.box
 go_wp2_with fail
 refine (zj (Cx.mk E j true) L H D S q (-1) 0 1 sFunction _ U.out.tok K (by decide)).mono ?_
 rintro e w2 ⟨rfl,M⟩
 rw[h1]
 replace o:=zc (o.out.below M)
 replace z:=zc (z.out.below M)
 have ad:=zc (ai.out.below M)
 have X:=zc (U.out.later M)
 clear M ai U
 clear a0 a1 Y V a4 a5 a6 a7 Z a9 I J af
 obtain⟨a0,a1,Y,V,a4,a5,a6,a7,Z,a9,I,J,af⟩:=o.out.box
 go_wp2_with fail
 refine (zj (Cx.mk E j true) L H D S q (-1) 0 1 sPrint _ X.out.tok K (by decide)).mono ?_
 rintro e w3 ⟨rfl,O⟩
 rw[h2]
 replace o:=zc (o.out.below O)
 replace z:=zc (z.out.below O)
 have am:=zc (ad.out.below O)
 have aa:=zc (X.out.later O)
 clear O ad X
 clear a0 a1 Y V a4 a5 a6 a7 Z a9 I J af
 obtain⟨a0,a1,Y,V,a4,a5,a6,a7,Z,a9,I,J,af⟩:=o.out.box
 go_wp2_with fail
 refine (zj (Cx.mk E j true) L H D S q (-1) 0 1 sThrow _ aa.out.tok K (by decide)).mono ?_
 rintro e w4 ⟨rfl,N⟩
 rw[h3]
 replace o:=zc (o.out.below N)
 replace z:=zc (z.out.below N)
 have ao:=zc (am.out.below N)
 have an:=zc (aa.out.later N)
 clear N am aa
 clear a0 a1 Y V a4 a5 a6 a7 Z a9 I J af
 obtain⟨a0,a1,Y,V,a4,a5,a6,a7,Z,a9,I,J,af⟩:=o.out.box
 go_wp2_with fail
 refine (zaT (Cx.mk E j true) L H D (.ok q) S q (-1) 0 sThrow _ (zab q) an.out).mono ?_
 rintro e w5 ⟨S5,q5,z5,rfl,i5,m5,s5⟩
 replace o:=zc (o.out.stp s5)
 replace z:=zc (z.out.stp s5)
 have al:=zc (ao.out.step s5)
 clear ao
 have ae:=zc m5
 have au:=zc i5
 clear i5 m5 s5 an
 clear a0 a1 Y V a4 a5 a6 a7 Z a9 I J af
 go_wp2_with fail
 refine (zdp (Cx.mk E j true) L H D _ S5 q5 z5 _ au.out ae.out).mono ?_
 rintro e w6 ⟨S6,q6,z6,rfl,i6,m6,s6⟩
 replace o:=zc (o.out.stp s6)
 replace z:=zc (z.out.stp s6)
 have ac:=zc (al.out.step s6)
 clear al
 have ah:=zc m6
 have ap:=zc i6
 clear i6 m6 s6 ae
 go_wp2_with fail
 refine (zah (Cx.mk E j true) L H D _ S6 q6 z6 0 cSemi _ ap.out ah.out).mono ?_
 rintro e w7 ⟨S7,q7,z7,rfl,i7,m7,s7⟩
 replace o:=zc (o.out.stp s7)
 replace z:=zc (z.out.stp s7)
 have ab:=zc (ac.out.step s7)
 clear ac
 have ag:=zc m7
 have aj:=zc i7
 clear i7 m7 s7 ah
 go_wp2_with fail
 refine (zcY (Cx.mk E j true) L H D _ S7 q7 z7 0 5 sNone _ aj.out ag.out (zb5 aj.out)).mono ?_
 rintro e w8 ⟨S8,q8,z8,rfl,i8,m8,s8⟩
 replace o:=zc (o.out.stp s8)
 replace z:=zc (z.out.stp s8)
 have av:=zc (ab.out.step s8)
 clear ab
 have ar:=zc m8
 have aq:=zc i8
 clear i8 m8 s8 ag
 obtain⟨b0,b1,b2,b3,b4,b5,b6,b7,b8,b9,ax,aw,bf⟩:=z.out.box
 unfold pv
 go_wp2
 refine bodyPost_ret (results_cell_row rfl _ _ (w.heap.size+1) 55 _ (0,0) _ rfl ((z.out.put ..)).heap Tryz.underlying55 rfl (by kernel_rfl)) rfl ?_
 rw[HV.out]
 exact zac rfl aq.out (ar.out.put z.out ..) (av.out.put (by omega) ..)
theorem zvp (E:List Tk) (j:Nat) (L H D:Nat) (S:Sv) (q:PS) (w:World) (hm:Mem (Cx.mk E j true) L H D S q w) (h0:isT (Cx.mk E j true) q.pos 1 sLet=false) (h1:isT (Cx.mk E j true) q.pos 1 sFunction=false) (h2:isT (Cx.mk E j true) q.pos 1 sPrint=false) (h3:isT (Cx.mk E j true) q.pos 1 sThrow=false) (h4:isT (Cx.mk E j true) q.pos 1 sFail=true):
  Calls Tryz.prog 21 #[pv (Cx.mk E j true) L H S q (-1) 0] w (Out (Cx.mk E j true) L H D (zo (Cx.mk E j true) q) 0 S w):=by
 have HM:=zc hm
 have aa:=hm.tok
 have K:(Cx.mk E j true).ts.length≤4000:=hm.few
 clear hm
 have HV:Hid (zo (Cx.mk E j true) q=bd (bd (bd (bd (.ok q) (zd (Cx.mk E j true) 1 sFail)) (pE (Cx.mk E j true) .sum 0)) (zd (Cx.mk E j true) 4 cSemi)) (zE (Cx.mk E j true) 6 sNone)):=by show zo (Cx.mk E j true) q=_;rw[zo,h0,h1,h2,h3,h4];rfl
 unfold pv
 go_enter Tryz.func21,Tryz.ntmps21
 go_wp2_with fail
 refine (zj (Cx.mk E j true) L H D S q (-1) 0 1 sLet _ (zv (zv aa _) _) K (by decide)).mono ?_
 rintro e w1 ⟨rfl,ap⟩
 rw[h0]
 obtain⟨X0,X1,m1,t1⟩:=HM.out.two ap
 have o:=zc X0
 have z:=zc X1
 have ab:=zc m1
 have am:=zc t1
 clear X0 X1 m1 t1 ap
 clear aa
 obtain⟨Y,a1,V,U,a4,a5,Z,a7,X,a9,I,J,af⟩:=o.out.box
 go_wp2_with fail
 refine (zj (Cx.mk E j true) L H D S q (-1) 0 1 sFunction _ ab.out.tok K (by decide)).mono ?_
 rintro e w2 ⟨rfl,M⟩
 rw[h1]
 replace o:=zc (o.out.below M)
 replace z:=zc (z.out.below M)
 have ai:=zc (am.out.below M)
 have ac:=zc (ab.out.later M)
 clear M am ab
 clear Y a1 V U a4 a5 Z a7 X a9 I J af
 obtain⟨Y,a1,V,U,a4,a5,Z,a7,X,a9,I,J,af⟩:=o.out.box
 go_wp2_with fail
 refine (zj (Cx.mk E j true) L H D S q (-1) 0 1 sPrint _ ac.out.tok K (by decide)).mono ?_
 rintro e w3 ⟨rfl,Q⟩
 rw[h2]
 replace o:=zc (o.out.below Q)
 replace z:=zc (z.out.below Q)
 have ar:=zc (ai.out.below Q)
 have ad:=zc (ac.out.later Q)
 clear Q ai ac
 clear Y a1 V U a4 a5 Z a7 X a9 I J af
 obtain⟨Y,a1,V,U,a4,a5,Z,a7,X,a9,I,J,af⟩:=o.out.box
 go_wp2_with fail
 refine (zj (Cx.mk E j true) L H D S q (-1) 0 1 sThrow _ ad.out.tok K (by decide)).mono ?_
 rintro e w4 ⟨rfl,N⟩
 rw[h3]
 replace o:=zc (o.out.below N)
 replace z:=zc (z.out.below N)
 have au:=zc (ar.out.below N)
 have ae:=zc (ad.out.later N)
 clear N ar ad
 clear Y a1 V U a4 a5 Z a7 X a9 I J af
 obtain⟨Y,a1,V,U,a4,a5,Z,a7,X,a9,I,J,af⟩:=o.out.box
 go_wp2_with fail
 refine (zj (Cx.mk E j true) L H D S q (-1) 0 1 sFail _ ae.out.tok K (by decide)).mono ?_
 rintro e w5 ⟨rfl,O⟩
 rw[h4]
 replace o:=zc (o.out.below O)
 replace z:=zc (z.out.below O)
 have aq:=zc (au.out.below O)
 have aj:=zc (ae.out.later O)
 clear O au ae
 clear Y a1 V U a4 a5 Z a7 X a9 I J af
 obtain⟨Y,a1,V,U,a4,a5,Z,a7,X,a9,I,J,af⟩:=o.out.box
 go_wp2_with fail
 refine (zaT (Cx.mk E j true) L H D (.ok q) S q (-1) 0 sFail _ (zab q) aj.out).mono ?_
 rintro e w6 ⟨S6,q6,z6,rfl,i6,m6,s6⟩
 replace o:=zc (o.out.stp s6)
 replace z:=zc (z.out.stp s6)
 have ah:=zc (aq.out.step s6)
 clear aq
 have al:=zc m6
 have aw:=zc i6
 clear i6 m6 s6 aj
 clear Y a1 V U a4 a5 Z a7 X a9 I J af
 go_wp2_with fail
 refine (zdp (Cx.mk E j true) L H D _ S6 q6 z6 _ aw.out al.out).mono ?_
 rintro e w7 ⟨S7,q7,z7,rfl,i7,m7,s7⟩
 replace o:=zc (o.out.stp s7)
 replace z:=zc (z.out.stp s7)
 have ag:=zc (ah.out.step s7)
 clear ah
 have ak:=zc m7
 have ay:=zc i7
 clear i7 m7 s7 al
 go_wp2_with fail
 refine (zah (Cx.mk E j true) L H D _ S7 q7 z7 0 cSemi _ ay.out ak.out).mono ?_
 rintro e w8 ⟨S8,q8,z8,rfl,i8,m8,s8⟩
 replace o:=zc (o.out.stp s8)
 replace z:=zc (z.out.stp s8)
 have av:=zc (ag.out.step s8)
 clear ag
 have ao:=zc m8
 have an:=zc i8
 clear i8 m8 s8 ak
 go_wp2_with fail
 refine (zcY (Cx.mk E j true) L H D _ S8 q8 z8 0 6 sNone _ an.out ao.out (zb5 an.out)).mono ?_
 rintro e w9 ⟨S9,q9,z9,rfl,i9,m9,s9⟩
 replace o:=zc (o.out.stp s9)
 replace z:=zc (z.out.stp s9)
 have az:=zc (av.out.step s9)
 clear av
 have aA:=zc m9
 have ax:=zc i9
 clear i9 m9 s9 ao
 obtain⟨b0,b1,b2,b3,b4,b5,b6,b7,b8,b9,aC,aB,bf⟩:=z.out.box
 unfold pv
 go_wp2
 refine bodyPost_ret (results_cell_row rfl _ _ (w.heap.size+1) 55 _ (0,0) _ rfl ((z.out.put ..)).heap Tryz.underlying55 rfl (by kernel_rfl)) rfl ?_
 rw[HV.out]
 exact zac rfl ax.out (aA.out.put z.out ..) (az.out.put (by omega) ..)
theorem zvq (E:List Tk) (j:Nat) (M H D:Nat) (S:Sv) (q:PS) (w:World) (hm:Mem (Cx.mk E j true) M H D S q w) (h0:isT (Cx.mk E j true) q.pos 1 sLet=false) (h1:isT (Cx.mk E j true) q.pos 1 sFunction=false) (h2:isT (Cx.mk E j true) q.pos 1 sPrint=false) (h3:isT (Cx.mk E j true) q.pos 1 sThrow=false) (h4:isT (Cx.mk E j true) q.pos 1 sFail=false):
  Calls Tryz.prog 21 #[pv (Cx.mk E j true) M H S q (-1) 0] w (Out (Cx.mk E j true) M H D (zo (Cx.mk E j true) q) 0 S w):=by
 have HM:=zc hm
 have ad:=hm.tok
 have L:(Cx.mk E j true).ts.length≤4000:=hm.few
 clear hm
 have HV:Hid (zo (Cx.mk E j true) q=bd (bd (.ok q) (zk (Cx.mk E j true) false)) fun a=>bd (bd (bd (bd (.ok a.1) (zd (Cx.mk E j true) 4 cEq)) (pE (Cx.mk E j true) .sum 0)) (zd (Cx.mk E j true) 4 cSemi)) (zE (Cx.mk E j true) 3 a.2)):=by show zo (Cx.mk E j true) q=_;rw[zo,h0,h1,h2,h3,h4];rfl
 unfold pv
 go_enter Tryz.func21,Tryz.ntmps21
 go_wp2_with fail
 refine (zj (Cx.mk E j true) M H D S q (-1) 0 1 sLet _ (zv (zv ad _) _) L (by decide)).mono ?_
 rintro e w1 ⟨rfl,ay⟩
 rw[h0]
 obtain⟨X0,X1,m1,t1⟩:=HM.out.two ay
 have o:=zc X0
 have z:=zc X1
 have ae:=zc m1
 have au:=zc t1
 clear X0 X1 m1 t1 ay
 clear ad
 obtain⟨a0,a1,Z,Y,a4,a5,a6,a7,a8,a9,I,J,af⟩:=o.out.box
 go_wp2_with fail
 refine (zj (Cx.mk E j true) M H D S q (-1) 0 1 sFunction _ ae.out.tok L (by decide)).mono ?_
 rintro e w2 ⟨rfl,N⟩
 rw[h1]
 replace o:=zc (o.out.below N)
 replace z:=zc (z.out.below N)
 have ao:=zc (au.out.below N)
 have ag:=zc (ae.out.later N)
 clear N au ae
 clear a0 a1 Z Y a4 a5 a6 a7 a8 a9 I J af
 obtain⟨a0,a1,Z,Y,a4,a5,a6,a7,a8,a9,I,J,af⟩:=o.out.box
 go_wp2_with fail
 refine (zj (Cx.mk E j true) M H D S q (-1) 0 1 sPrint _ ag.out.tok L (by decide)).mono ?_
 rintro e w3 ⟨rfl,X⟩
 rw[h2]
 replace o:=zc (o.out.below X)
 replace z:=zc (z.out.below X)
 have aA:=zc (ao.out.below X)
 have ai:=zc (ag.out.later X)
 clear X ao ag
 clear a0 a1 Z Y a4 a5 a6 a7 a8 a9 I J af
 obtain⟨a0,a1,Z,Y,a4,a5,a6,a7,a8,a9,I,J,af⟩:=o.out.box
 go_wp2_with fail
 refine (zj (Cx.mk E j true) M H D S q (-1) 0 1 sThrow _ ai.out.tok L (by decide)).mono ?_
 rintro e w4 ⟨rfl,O⟩
 rw[h3]
 replace o:=zc (o.out.below O)
 replace z:=zc (z.out.below O)
 have aD:=zc (aA.out.below O)
 have aj:=zc (ai.out.later O)
 clear O aA ai
 clear a0 a1 Z Y a4 a5 a6 a7 a8 a9 I J af
 obtain⟨a0,a1,Z,Y,a4,a5,a6,a7,a8,a9,I,J,af⟩:=o.out.box
 go_wp2_with fail
 refine (zj (Cx.mk E j true) M H D S q (-1) 0 1 sFail _ aj.out.tok L (by decide)).mono ?_
 rintro e w5 ⟨rfl,U⟩
 rw[h4]
 replace o:=zc (o.out.below U)
 replace z:=zc (z.out.below U)
 have az:=zc (aD.out.below U)
 have aq:=zc (aj.out.later U)
 clear U aD aj
 clear a0 a1 Z Y a4 a5 a6 a7 a8 a9 I J af
 obtain⟨a0,a1,Z,Y,a4,a5,a6,a7,a8,a9,I,J,af⟩:=o.out.box
 go_wp2_with fail
 refine (zbz (Cx.mk E j true) M H D (.ok q) S q (-1) 0 false _ (zab q) aq.out).mono ?_
 rintro e w6 ⟨S6,q6,z6,n6,rfl,i6,m6,s6⟩
 replace o:=zc (o.out.stp s6)
 replace z:=zc (z.out.stp s6)
 have am:=zc (az.out.step s6)
 clear az
 have ah:=zc m6
 have an:=zc i6
 clear i6 m6 s6 aq
 clear a0 a1 Z Y a4 a5 a6 a7 a8 a9 I J af
 have aP:w.heap.size+1<w6.heap.size:=z.out.lt
 unfold pv
 go_upto_region 19 with fail
 refine zQ (R:=fun W=>Bx M S6 W (w.heap.size) _∧Bx M S6 W (w.heap.size+1) _∧Bx M S6 W (w6.heap.size) _∧Mem (Cx.mk E j true) M H D S6 q6 W∧SB w.heap.size S w S6 W) ⟨(o.out.alloc _),(z.out.alloc _),(Bx.new ah.out _),(ah.out.alloc _),(am.out.alloc _)⟩ ?_
 clear o z am ah
 rintro w7 ⟨X0,X1,X2,m7,t7⟩
 have o:=zc X0
 have z:=zc X1
 have K:=zc X2
 have ar:=zc m7
 have al:=zc t7
 clear m7 t7 X0 X1 X2
 obtain⟨c0,c1,c2,c3,c4,c5,c6,c7,c8,c9,aO,aM,cf⟩:=K.out.box
 go_wp2_with fail
 refine (zah (Cx.mk E j true) M H D _ S6 q6 z6 0 cEq _ an.out.fst ar.out).mono ?_
 rintro e w8 ⟨S8,q8,z8,rfl,i8,m8,s8⟩
 replace o:=zc (o.out.stp s8)
 replace z:=zc (z.out.stp s8)
 replace K:=zc (K.out.stp s8)
 have aG:=zc (al.out.step s8)
 clear al
 have av:=zc m8
 have aL:=zc i8
 clear i8 m8 s8 ar
 clear c0 c1 c2 c3 c4 c5 c6 c7 c8 c9 aO aM cf
 go_wp2_with fail
 refine (zdp (Cx.mk E j true) M H D _ S8 q8 z8 _ aL.out av.out).mono ?_
 rintro e w9 ⟨S9,q9,z9,rfl,i9,m9,s9⟩
 replace o:=zc (o.out.stp s9)
 replace z:=zc (z.out.stp s9)
 replace K:=zc (K.out.stp s9)
 have aE:=zc (aG.out.step s9)
 clear aG
 have aH:=zc m9
 have aK:=zc i9
 clear i9 m9 s9 av
 go_wp2_with fail
 refine (zah (Cx.mk E j true) M H D _ S9 q9 z9 0 cSemi _ aK.out aH.out).mono ?_
 rintro e aR ⟨aJ,aN,aI,rfl,aw,ak,Q⟩
 replace o:=zc (o.out.stp Q)
 replace z:=zc (z.out.stp Q)
 replace K:=zc (K.out.stp Q)
 have ab:=zc (aE.out.step Q)
 clear aE
 have ac:=zc ak
 have aa:=zc aw
 clear aw ak Q aH
 go_wp2_with fail
 refine (zcY (Cx.mk E j true) M H D _ aJ aN aI 0 3 n6 _ aa.out ac.out (zb5 aa.out)).mono ?_
 rintro e aT ⟨aS,aW,aQ,rfl,aB,ap,V⟩
 replace o:=zc (o.out.stp V)
 replace z:=zc (z.out.stp V)
 replace K:=zc (K.out.stp V)
 have ax:=zc (ab.out.step V)
 clear ab
 have aF:=zc ap
 have aC:=zc aB
 clear aB ap V ac
 obtain⟨b0,b1,b2,b3,b4,b5,b6,b7,b8,b9,aV,aU,bf⟩:=z.out.box
 unfold pv
 go_wp2
 refine bodyPost_ret (results_cell_row rfl _ _ (w.heap.size+1) 55 _ (0,0) _ rfl ((z.out.put ..)).heap Tryz.underlying55 rfl (by kernel_rfl)) rfl ?_
 rw[HV.out,←an.out.bind (fun q n=>bd (bd (bd (bd (.ok q) (zd (Cx.mk E j true) 4 cEq)) (pE (Cx.mk E j true) .sum 0)) (zd (Cx.mk E j true) 4 cSemi)) (zE (Cx.mk E j true) 3 n)),←zmK]
 exact zac rfl aC.out (aF.out.put z.out ..) (ax.out.put (by omega) ..)
theorem zvr (D:List Tk) (j:Nat) (E z o:Nat) (S:Sv) (q:PS) (w:World) (H:Mem (Cx.mk D j true) E z o S q w):
  Calls Tryz.prog 21 #[pv (Cx.mk D j true) E z S q (-1) 0] w (Out (Cx.mk D j true) E z o (zo (Cx.mk D j true) q) 0 S w):=by
 cases I:isT (Cx.mk D j true) q.pos 1 sLet with
 |true=>exact zvl D j E z o S q w H I
 |false=>
  cases J:isT (Cx.mk D j true) q.pos 1 sFunction with
  |true=>exact zvm D j E z o S q w H I J
  |false=>
   cases K:isT (Cx.mk D j true) q.pos 1 sPrint with
   |true=>exact zvn D j E z o S q w H I J K
   |false=>
    cases L:isT (Cx.mk D j true) q.pos 1 sThrow with
    |true=>exact zvo D j E z o S q w H I J K L
    |false=>
     cases M:isT (Cx.mk D j true) q.pos 1 sFail with
     |true=>exact zvp D j E z o S q w H I J K L M
     |false=>
      exact zvq D j E z o S q w H I J K L M
end Go.Proofs.YthfeoomfiafldaaGreat
