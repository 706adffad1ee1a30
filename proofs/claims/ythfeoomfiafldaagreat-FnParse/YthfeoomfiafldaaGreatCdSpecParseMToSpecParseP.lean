/-
  What spec's l4Import answers: the walks.
  What spec's l4Export answers: the walks.
  What spec's l4Export answers to a list of names: the walks.
  What spec's l4Item answers: the walks.
-/
import Derived.Test.YthfeoomfiafldaaGreatCdSpecParseK
namespace Go.Proofs.YthfeoomfiafldaaGreat
set_option maxRecDepth 100000
set_option maxHeartbeats 6400000
open Go.RowKit Go.PlainAid
theorem zdq {C:Cx} {k:Int} {s:ByteArray} {q q1:PS} {j:Int} (h:Is (bd (.ok q) (zd C k s)) q1 j) (o:isT C q.pos k s=true):q1=adv q∧j= -1:=by
 rw[zh,zd,if_pos o] at h
 exact h
theorem zgj {α:Type} (f:α→PS→PR) (l:List α) (e:Nat):zK f l (.error e)= .error e:=by
 induction l with
 |nil=>rfl
 |cons a l j=>exact j
theorem zht {α:Type} (f:α→PS→PR) (l:List α) (x:PR) {k:Nat} (j:k<l.length):zK f (l.drop k) x=zK f (l.drop (k+1)) (bd x (f (l[k]))):=by
 rw[List.drop_eq_getElem_cons j]
 rfl
theorem zmG {C:Cx} {j:PRN} {E M:PS} {L K:Int} {z D:ByteArray} {G:ByteArray→ByteArray→PS→PR} (I:Is2 j E L z) (o:Is2 (bd (bd (za7 j) (zd C 1 zH)) (zy C)) M K D):
  bd (bd (za7 (bd (bd (za7 j) (zd C 1 zH)) (zy C))) (zd C 4 cSemi)) (G D z)=bd j fun a=>bd (zaD C (zav C (.ok a.1))) fun b=>G b.2 a.2 b.1:=by
 cases j with
 |error e=>rfl
 |ok a=>
  obtain⟨_,_,rfl⟩:=I
  have J:bd (bd (za7 (.ok a)) (zd C 1 zH)) (zy C)=zav C (.ok a.1):=rfl
  rw[J] at o ⊢
  rw[zh]
  cases H:zav C (.ok a.1) with
  |error e=>rfl
  |ok b=>
   rw[H] at o
   obtain⟨_,_,rfl⟩:=o
   show bd (zd C 4 cSemi b.1) (G b.2 a.2)=bd (bd (zd C 4 cSemi b.1) fun q=>.ok (q,b.2)) fun b=>G b.2 a.2 b.1
   rw[zR]
   rfl
def zgk (y:PRL):PR:=bd y fun a=>.ok a.1
theorem Is3.fst {y:PRL} {q:PS} {z:Int} {l:List Ep} (h:Is3 y q z l):Is (zgk y) q z:=by
 cases y with
 |ok a=>exact⟨h.1,h.2.1⟩
 |error e=>exact h
theorem zjk {C:Cx} {y:PRL} {z L:PS} {K J:Int} {l:List Ep} {o:ByteArray} {G:ByteArray→Ep→PS→PR} (E:Is3 y z K l) (j:Is2 (bd (bd (zgk y) (zd C 1 zH)) (zy C)) L J o):
  zK (G o) l (bd (za7 (bd (bd (zgk y) (zd C 1 zH)) (zy C))) (zd C 4 cSemi))=bd y fun a=>bd (zaD C (zav C (.ok a.1))) fun b=>zK (G b.2) a.2 (.ok b.1):=by
 cases y with
 |error e=>exact zgj _ _ _
 |ok a=>
  obtain⟨_,_,rfl⟩:=E
  have H:bd (bd (zgk (.ok a)) (zd C 1 zH)) (zy C)=zav C (.ok a.1):=rfl
  rw[H] at j ⊢
  rw[zh]
  cases D:zav C (.ok a.1) with
  |error e=>exact zgj _ _ _
  |ok b=>
   rw[D] at j
   obtain⟨_,_,rfl⟩:=j
   show zK (G b.2) a.2 (bd (za7 (.ok b)) (zd C 4 cSemi))=bd (bd (zd C 4 cSemi b.1) fun q=>.ok (q,b.2)) fun b=>zK (G b.2) a.2 (.ok b.1)
   have I:bd (za7 (.ok b)) (zd C 4 cSemi)=zd C 4 cSemi b.1:=rfl
   rw[I,zR]
   cases zd C 4 cSemi b.1 with
   |error e=>exact zgj _ _ _
   |ok c=>rfl
theorem Mem.drew {C:Cx} {z o j:Nat} {S:Sv} {q:PS} {w:World} (h:Mem C z o j S q w):Mem C z o j S q w.drew:=⟨⟨h.own.rq,h.own.im,h.own.ep,h.own.st,h.own.ex,h.own.la,h.own.apart⟩,h.inv,h.tok,h.few,h.base⟩
theorem Stp.undrew {S o:Sv} {w j:World} (h:Stp S w.drew o j):Stp S w o j:=⟨h.os,h.tape,h.output,h.size,h.block,h.sub⟩
theorem Row.cells {S:Sv} {w:World} {o B g:Nat} {r:Rw} {l:List Ep} (h:Row S w o B r l) (K:r.a=some ⟨g,0,none⟩) {j:Nat} (I:j<l.length):
  w.cell? ⟨g,j*4+1,none⟩=some (.string (l[j]).name)∧w.cell? ⟨g,j*4+2,none⟩=some (.string (l[j]).loc):=by
 have E:=h.own
 unfold OwnR at E
 rw[K] at E
 have z: ∀(l:List Ep) (i c:Nat) (H:c<4) (D:i<l.length),(l.flatMap epL)[i*4+c]? =(epL l[i])[c]?:=by
  intro l
  induction l with
  |nil=>intro i c _ D;simp at D
  |cons x l J=>
   intro i c H D
   match i with
   |0=>
    simp only[List.flatMap_cons,Nat.zero_mul,Nat.zero_add,List.getElem_cons_zero]
    rw[List.getElem?_append_left (by simp[epL];omega)]
   |i+1=>
    simp only[List.flatMap_cons,List.getElem_cons_succ]
    rw[List.getElem?_append_right (by simp[epL];omega)]
    have e:(i+1)*4+c-(epL x).length=i*4+c:=by simp[epL];omega
    rw[e]
    exact J i c H (by simpa using D)
 rw[E.cellAt _ (by omega),E.cellAt _ (by omega)]
 exact⟨z l j 1 (by omega) I,z l j 2 (by omega) I⟩
theorem zuT {C:Cx} {y:Im} {x:PR} {q q':PS} {z z':Int} (E:z<0→1≤q.pos) (D:Is x q z) (h:Is (bd x (zX C y)) q' z'):z'<0→1≤q'.pos:=by
 intro o
 obtain⟨e,_⟩:=zaF h o
 obtain⟨a,H,j⟩:=ze e
 subst H
 obtain⟨rfl,rfl⟩:=D
 unfold zX at j
 split at j
 ·cases j
 ·cases j
  exact E (by decide)
theorem zjl {C:Cx} {y:Ep} {x:PR} {q q':PS} {z z':Int} (o:z<0→1≤q.pos) (E:Is x q z) (h:Is (bd x (zm C y)) q' z'):z'<0→1≤q'.pos:=by
 intro D
 obtain⟨e,_⟩:=zaF h D
 obtain⟨a,H,j⟩:=ze e
 subst H
 obtain⟨rfl,rfl⟩:=E
 unfold zm at j
 split at j
 ·cases j
 ·split at j
  ·cases j
   exact o (by decide)
  ·cases j
   exact o (by decide)
theorem zuU (C:Cx) (H D z:Nat) (S:Sv) (q:PS) (w:World) (hm:Mem C H D z S q w) (hw:isT C q.pos 1 sImport=true) (h1:isT C (q.pos+1) 4 zF=false) (h2:isT C (q.pos+1) 4 zp=true):
  Calls Tryz.prog 48 #[pv C H D S q (-1) 0] w (Out C H D z (za3 C q) 0 S w):=by
 have HM:=zc hm
 have ae:=hm.few
 clear hm
 have HV:Hid (za3 C q=bd (bd (bd (bd (.ok (adv q)) (zd C 4 zp)) (zd C 1 sAs)) (zk C false)) fun a=>bd (zaD C (zav C (.ok a.1))) fun b=>zX C ⟨b.2,zp,a.2⟩ b.1):=by
  show _=_
  rw[za3,zd,if_pos hw,zh]
  rw[zz,h1,h2]
  rfl
 unfold pv
 go_enter Tryz.func48,Tryz.ntmps48
 go_wp2_with fail
 refine (zaT C H D z (.ok q) S q (-1) 0 sImport _ (zab q) ((HM.out.alloc _).alloc _)).mono ?_
 rintro e w1 ⟨S1,q1,z1,rfl,i1,m1,s1⟩
 obtain⟨O,V,t1⟩:=HM.out.two2 s1
 have o:=zc O
 have j:=zc V
 have aI:=zc m1
 have aR:=zc t1
 have aF:=zc i1
 clear O V i1 m1 t1 s1
 obtain⟨ak,rfl⟩:=zdq aF.out hw
 have HQ:=zc ak
 have ai:Hid (q1.pos=q.pos+1):=by show q1.pos=q.pos+1;rw[ak];rfl
 clear ak aF
 obtain⟨a0,a1,a2,a3,a4,a5,a6,a7,a8,a9,I,J,af⟩:=o.out.box
 unfold pv
 go_upto_region 2 with fail
 refine zQ (R:=fun W=>Bx H S1 W (w.heap.size) _∧Bx H S1 W (w.heap.size+1) _∧Mem C H D z S1 q1 W∧SB w.heap.size S w S1 W) ⟨(o.out.put ..),(j.out.other (by omega) ..),(aI.out.put o.out ..),(aR.out.put (by omega) ..)⟩ ?_
 clear a0 a1 a2 a3 a4 a5 a6 a7 a8 a9 I J af
 clear o j aR aI
 rintro w2 ⟨O,V,m2,t2⟩
 have o:=zc O
 have j:=zc V
 have al:=zc m2
 have aw:=zc t2
 clear m2 t2 O V
 obtain⟨a0,a1,a2,a3,a4,a5,a6,a7,a8,a9,I,J,af⟩:=o.out.box
 go_wp2_with fail
 refine (zj C H D z S1 q1 (-1) 0 4 zF _ al.out.tok ae (by decide)).mono ?_
 rintro e w3 ⟨rfl,Y⟩
 rw[ai.out,h1]
 replace o:=zc (o.out.below Y)
 replace j:=zc (j.out.below Y)
 have aK:=zc (aw.out.below Y)
 have an:=zc (al.out.later Y)
 clear Y aw al
 clear a0 a1 a2 a3 a4 a5 a6 a7 a8 a9 I J af
 obtain⟨a0,a1,a2,a3,a4,a5,a6,a7,a8,a9,I,J,af⟩:=o.out.box
 go_wp2_with fail
 refine (zj C H D z S1 q1 (-1) 0 4 zp _ an.out.tok ae (by decide)).mono ?_
 rintro e w4 ⟨rfl,X⟩
 rw[ai.out,h2]
 replace o:=zc (o.out.below X)
 replace j:=zc (j.out.below X)
 have aA:=zc (aK.out.below X)
 have ax:=zc (an.out.later X)
 clear X aK an
 clear a0 a1 a2 a3 a4 a5 a6 a7 a8 a9 I J af
 obtain⟨a0,a1,a2,a3,a4,a5,a6,a7,a8,a9,I,J,af⟩:=o.out.box
 clear ai
 go_wp2_with fail
 refine (zah C H D z (.ok q1) S1 q1 (-1) 0 zp _ (zab q1) ax.out).mono ?_
 rintro e w5 ⟨S5,q5,z5,rfl,i5,m5,s5⟩
 replace o:=zc (o.out.stp s5)
 replace j:=zc (j.out.stp s5)
 have aS:=zc (aA.out.step s5)
 clear aA
 have aH:=zc m5
 have bc:=zc i5
 clear i5 m5 s5 ax
 clear a0 a1 a2 a3 a4 a5 a6 a7 a8 a9 I J af
 go_wp2_with fail
 refine (zaT C H D z _ S5 q5 z5 0 sAs _ bc.out aH.out).mono ?_
 rintro e w6 ⟨S6,q6,z6,rfl,i6,m6,s6⟩
 replace o:=zc (o.out.stp s6)
 replace j:=zc (j.out.stp s6)
 have ao:=zc (aS.out.step s6)
 clear aS
 have aB:=zc m6
 have aY:=zc i6
 clear i6 m6 s6 aH
 go_wp2_with fail
 refine (zbz C H D z _ S6 q6 z6 0 false _ aY.out aB.out).mono ?_
 rintro e w7 ⟨S7,q7,z7,n7,rfl,i7,m7,s7⟩
 replace o:=zc (o.out.stp s7)
 replace j:=zc (j.out.stp s7)
 have av:=zc (ao.out.step s7)
 clear ao
 have aj:=zc m7
 have aQ:=zc i7
 clear i7 m7 s7 aB
 have bj:w.heap.size+1<w7.heap.size:=j.out.lt
 unfold pv
 go_upto_region 13 with fail
 refine zQ (R:=fun W=>Bx H S7 W (w.heap.size) _∧Bx H S7 W (w.heap.size+1) _∧Bx H S7 W (w7.heap.size) _∧Mem C H D z S7 q7 W∧SB w.heap.size S w S7 W) ⟨(o.out.alloc _),(j.out.alloc _),(Bx.new aj.out _),(aj.out.alloc _),(av.out.alloc _)⟩ ?_
 clear o j av aj
 rintro w8 ⟨O,V,X2,m8,t8⟩
 have o:=zc O
 have j:=zc V
 have E:=zc X2
 have ar:=zc m8
 have aM:=zc t8
 clear m8 t8 O V X2
 obtain⟨c0,c1,c2,c3,c4,c5,c6,c7,c8,c9,aX,bb,cf⟩:=E.out.box
 go_wp2_with fail
 refine (zaT C H D z _ S7 q7 z7 0 zH _ aQ.out.fst ar.out).mono ?_
 rintro e w9 ⟨S9,q9,z9,rfl,i9,m9,s9⟩
 replace o:=zc (o.out.stp s9)
 replace j:=zc (j.out.stp s9)
 replace E:=zc (E.out.stp s9)
 have aD:=zc (aM.out.step s9)
 clear aM
 have aO:=zc m9
 have bg:=zc i9
 clear i9 m9 s9 ar
 clear c0 c1 c2 c3 c4 c5 c6 c7 c8 c9 aX bb cf
 go_wp2_with fail
 refine (zeD C H D z _ S9 q9 z9 0 _ bg.out aO.out).mono ?_
 rintro e am ⟨K,aP,be,bi,rfl,au,aJ,N⟩
 replace o:=zc (o.out.stp N)
 replace j:=zc (j.out.stp N)
 replace E:=zc (E.out.stp N)
 have ag:=zc (aD.out.step N)
 clear aD
 have Q:=zc aJ
 have Z:=zc au
 clear au aJ N aO
 have bk:w.heap.size+1<am.heap.size:=j.out.lt
 have aT:w7.heap.size<am.heap.size:=E.out.lt
 unfold pv
 go_upto_region 14 with fail
 refine zQ (R:=fun W=>Bx H K W (w.heap.size) _∧Bx H K W (w.heap.size+1) _∧Bx H K W (w7.heap.size) _∧Bx H K W (am.heap.size) _∧Mem C H D z K aP W∧SB w.heap.size S w K W) ⟨(o.out.alloc _),(j.out.alloc _),(E.out.alloc _),(Bx.new Q.out _),(Q.out.alloc _),(ag.out.alloc _)⟩ ?_
 clear o j E ag Q
 rintro bp ⟨O,V,X2,X3,aL,aG⟩
 have o:=zc O
 have j:=zc V
 have E:=zc X2
 have U:=zc X3
 have aa:=zc aL
 have ah:=zc aG
 clear aL aG O V X2 X3
 obtain⟨d0,d1,d2,d3,d4,d5,d6,d7,d8,d9,aU,ba,df⟩:=U.out.box
 go_wp2_with fail
 refine (zah C H D z _ K aP be 0 cSemi _ Z.out.fst aa.out).mono ?_
 rintro e bm ⟨aZ,aW,aV,rfl,ap,ay,L⟩
 replace o:=zc (o.out.stp L)
 replace j:=zc (j.out.stp L)
 replace E:=zc (E.out.stp L)
 replace U:=zc (U.out.stp L)
 have ab:=zc (ah.out.step L)
 clear ah
 have ac:=zc ay
 have ad:=zc ap
 clear ap ay L aa
 clear d0 d1 d2 d3 d4 d5 d6 d7 d8 d9 aU ba df
 go_wp2_with fail
 refine (zhR C H D z _ aZ aW aV 0 ⟨bi,zp,n7⟩ _ ad.out ac.out (zb5 ad.out)).mono ?_
 rintro e bo ⟨br,bt,bq,rfl,aq,aN,M⟩
 replace o:=zc (o.out.stp M)
 replace j:=zc (j.out.stp M)
 replace E:=zc (E.out.stp M)
 replace U:=zc (U.out.stp M)
 have az:=zc (ab.out.step M)
 clear ab
 have aE:=zc aN
 have aC:=zc aq
 clear aq aN M ac
 obtain⟨b0,b1,b2,b3,b4,b5,b6,b7,b8,b9,bl,bs,bf⟩:=j.out.box
 unfold pv
 go_wp2
 refine bodyPost_ret (results_cell_row rfl _ _ (w.heap.size+1) 55 _ (0,0) _ rfl ((j.out.put ..)).heap Tryz.underlying55 rfl (by kernel_rfl)) rfl ?_
 rw[HV.out,←HQ.out,←zmG (G:=fun b a=>zX C ⟨b,zp,a⟩) aQ.out Z.out]
 exact zac rfl aC.out (aE.out.put j.out ..) (az.out.put (by omega) ..)
theorem zuV (C:Cx) (H D z:Nat) (S:Sv) (q:PS) (w:World) (hm:Mem C H D z S q w) (hw:isT C q.pos 1 sImport=true) (h1:isT C (q.pos+1) 4 zF=false) (h2:isT C (q.pos+1) 4 zp=false) (h3:plainB C (q.pos+1) false=true):
  Calls Tryz.prog 48 #[pv C H D S q (-1) 0] w (Out C H D z (za3 C q) 0 S w):=by
 have HM:=zc hm
 have V:=hm.few
 clear hm
 have HV:Hid (za3 C q=bd (bd (.ok (adv q)) (zk C false)) fun a=>bd (zaD C (zav C (.ok a.1))) fun b=>zX C ⟨b.2,sDefault,a.2⟩ b.1):=by
  show _=_
  rw[za3,zd,if_pos hw,zh]
  rw[zz,h1,h2,h3]
  rfl
 unfold pv
 go_enter Tryz.func48,Tryz.ntmps48
 go_wp2_with fail
 refine (zaT C H D z (.ok q) S q (-1) 0 sImport _ (zab q) ((HM.out.alloc _).alloc _)).mono ?_
 rintro e w1 ⟨S1,q1,z1,rfl,i1,m1,s1⟩
 obtain⟨M,O,t1⟩:=HM.out.two2 s1
 have j:=zc M
 have o:=zc O
 have aF:=zc m1
 have aM:=zc t1
 have aA:=zc i1
 clear M O i1 m1 t1 s1
 obtain⟨aj,rfl⟩:=zdq aA.out hw
 have HQ:=zc aj
 have aa:Hid (q1.pos=q.pos+1):=by show q1.pos=q.pos+1;rw[aj];rfl
 clear aj aA
 obtain⟨a0,a1,Y,Z,a4,a5,a6,a7,a8,a9,I,J,af⟩:=j.out.box
 unfold pv
 go_upto_region 2 with fail
 refine zQ (R:=fun W=>Bx H S1 W (w.heap.size) _∧Bx H S1 W (w.heap.size+1) _∧Mem C H D z S1 q1 W∧SB w.heap.size S w S1 W) ⟨(j.out.put ..),(o.out.other (by omega) ..),(aF.out.put j.out ..),(aM.out.put (by omega) ..)⟩ ?_
 clear a0 a1 Y Z a4 a5 a6 a7 a8 a9 I J af
 clear j o aM aF
 rintro w2 ⟨M,O,m2,t2⟩
 have j:=zc M
 have o:=zc O
 have ak:=zc m2
 have au:=zc t2
 clear m2 t2 M O
 obtain⟨a0,a1,Y,Z,a4,a5,a6,a7,a8,a9,I,J,af⟩:=j.out.box
 go_wp2_with fail
 refine (zj C H D z S1 q1 (-1) 0 4 zF _ ak.out.tok V (by decide)).mono ?_
 rintro e w3 ⟨rfl,X⟩
 rw[aa.out,h1]
 replace j:=zc (j.out.below X)
 replace o:=zc (o.out.below X)
 have aH:=zc (au.out.below X)
 have am:=zc (ak.out.later X)
 clear X au ak
 clear a0 a1 Y Z a4 a5 a6 a7 a8 a9 I J af
 obtain⟨a0,a1,Y,Z,a4,a5,a6,a7,a8,a9,I,J,af⟩:=j.out.box
 go_wp2_with fail
 refine (zj C H D z S1 q1 (-1) 0 4 zp _ am.out.tok V (by decide)).mono ?_
 rintro e w4 ⟨rfl,Q⟩
 rw[aa.out,h2]
 replace j:=zc (j.out.below Q)
 replace o:=zc (o.out.below Q)
 have ay:=zc (aH.out.below Q)
 have ah:=zc (am.out.later Q)
 clear Q aH am
 clear a0 a1 Y Z a4 a5 a6 a7 a8 a9 I J af
 obtain⟨a0,a1,Y,Z,a4,a5,a6,a7,a8,a9,I,J,af⟩:=j.out.box
 go_wp2_with fail
 refine (zg5 C H D z S1 q1 (-1) 0 false _ ah.out.tok V).mono ?_
 rintro e w5 ⟨rfl,U⟩
 rw[aa.out,h3]
 replace j:=zc (j.out.below U)
 replace o:=zc (o.out.below U)
 have aN:=zc (ay.out.below U)
 have aD:=zc (ah.out.later U)
 clear U ay ah
 clear a0 a1 Y Z a4 a5 a6 a7 a8 a9 I J af
 obtain⟨a0,a1,Y,Z,a4,a5,a6,a7,a8,a9,I,J,af⟩:=j.out.box
 clear aa
 go_wp2_with fail
 refine (zbz C H D z (.ok q1) S1 q1 (-1) 0 false _ (zab q1) aD.out).mono ?_
 rintro e w6 ⟨S6,q6,z6,n6,rfl,i6,m6,s6⟩
 replace j:=zc (j.out.stp s6)
 replace o:=zc (o.out.stp s6)
 have an:=zc (aN.out.step s6)
 clear aN
 have ai:=zc m6
 have aE:=zc i6
 clear i6 m6 s6 aD
 clear a0 a1 Y Z a4 a5 a6 a7 a8 a9 I J af
 have aX:w.heap.size+1<w6.heap.size:=o.out.lt
 unfold pv
 go_upto_region 17 with fail
 refine zQ (R:=fun W=>Bx H S6 W (w.heap.size) _∧Bx H S6 W (w.heap.size+1) _∧Bx H S6 W (w6.heap.size) _∧Mem C H D z S6 q6 W∧SB w.heap.size S w S6 W) ⟨(j.out.alloc _),(o.out.alloc _),(Bx.new ai.out _),(ai.out.alloc _),(an.out.alloc _)⟩ ?_
 clear j o an ai
 rintro w7 ⟨M,O,X2,m7,t7⟩
 have j:=zc M
 have o:=zc O
 have E:=zc X2
 have ax:=zc m7
 have ar:=zc t7
 clear m7 t7 M O X2
 obtain⟨c0,c1,c2,c3,c4,c5,c6,c7,c8,c9,aS,aV,cf⟩:=E.out.box
 go_wp2_with fail
 refine (zaT C H D z _ S6 q6 z6 0 zH _ aE.out.fst ax.out).mono ?_
 rintro e w8 ⟨S8,q8,z8,rfl,i8,m8,s8⟩
 replace j:=zc (j.out.stp s8)
 replace o:=zc (o.out.stp s8)
 replace E:=zc (E.out.stp s8)
 have aK:=zc (ar.out.step s8)
 clear ar
 have aq:=zc m8
 have aR:=zc i8
 clear i8 m8 s8 ax
 clear c0 c1 c2 c3 c4 c5 c6 c7 c8 c9 aS aV cf
 go_wp2_with fail
 refine (zeD C H D z _ S8 q8 z8 0 _ aR.out aq.out).mono ?_
 rintro e w9 ⟨S9,q9,z9,n9,rfl,i9,m9,s9⟩
 replace j:=zc (j.out.stp s9)
 replace o:=zc (o.out.stp s9)
 replace E:=zc (E.out.stp s9)
 have az:=zc (aK.out.step s9)
 clear aK
 have al:=zc m9
 have aL:=zc i9
 clear i9 m9 s9 aq
 have aY:w.heap.size+1<w9.heap.size:=o.out.lt
 have aO:w6.heap.size<w9.heap.size:=E.out.lt
 unfold pv
 go_upto_region 18 with fail
 refine zQ (R:=fun W=>Bx H S9 W (w.heap.size) _∧Bx H S9 W (w.heap.size+1) _∧Bx H S9 W (w6.heap.size) _∧Bx H S9 W (w9.heap.size) _∧Mem C H D z S9 q9 W∧SB w.heap.size S w S9 W) ⟨(j.out.alloc _),(o.out.alloc _),(E.out.alloc _),(Bx.new al.out _),(al.out.alloc _),(az.out.alloc _)⟩ ?_
 clear j o E az al
 rintro bg ⟨M,O,X2,X3,aG,aI⟩
 have j:=zc M
 have o:=zc O
 have E:=zc X2
 have N:=zc X3
 have ad:=zc aG
 have ae:=zc aI
 clear aG aI M O X2 X3
 obtain⟨d0,d1,d2,d3,d4,d5,d6,d7,d8,d9,aP,aU,df⟩:=N.out.box
 go_wp2_with fail
 refine (zah C H D z _ S9 q9 z9 0 cSemi _ aL.out.fst ad.out).mono ?_
 rintro e be ⟨aW,aQ,aT,rfl,ap,aJ,L⟩
 replace j:=zc (j.out.stp L)
 replace o:=zc (o.out.stp L)
 replace E:=zc (E.out.stp L)
 replace N:=zc (N.out.stp L)
 have ag:=zc (ae.out.step L)
 clear ae
 have ac:=zc aJ
 have ab:=zc ap
 clear ap aJ L ad
 clear d0 d1 d2 d3 d4 d5 d6 d7 d8 d9 aP aU df
 go_wp2_with fail
 refine (zhR C H D z _ aW aQ aT 0 ⟨n9,sDefault,n6⟩ _ ab.out ac.out (zb5 ab.out)).mono ?_
 rintro e bb ⟨bi,bc,ba,rfl,ao,aw,K⟩
 replace j:=zc (j.out.stp K)
 replace o:=zc (o.out.stp K)
 replace E:=zc (E.out.stp K)
 replace N:=zc (N.out.stp K)
 have av:=zc (ag.out.step K)
 clear ag
 have aB:=zc aw
 have aC:=zc ao
 clear ao aw K ac
 obtain⟨b0,b1,b2,b3,b4,b5,b6,b7,b8,b9,aZ,bj,bf⟩:=o.out.box
 unfold pv
 go_wp2
 refine bodyPost_ret (results_cell_row rfl _ _ (w.heap.size+1) 55 _ (0,0) _ rfl ((o.out.put ..)).heap Tryz.underlying55 rfl (by kernel_rfl)) rfl ?_
 rw[HV.out,←HQ.out,←zmG (G:=fun b a=>zX C ⟨b,sDefault,a⟩) aE.out aL.out]
 exact zac rfl aC.out (aB.out.put o.out ..) (av.out.put (by omega) ..)
theorem zuW (C:Cx) (I D z:Nat) (S:Sv) (q:PS) (w:World) (hm:Mem C I D z S q w) (hw:isT C q.pos 1 sImport=true) (h1:isT C (q.pos+1) 4 zF=false) (h2:isT C (q.pos+1) 4 zp=false) (h3:plainB C (q.pos+1) false=false):
  Calls Tryz.prog 48 #[pv C I D S q (-1) 0] w (Out C I D z (za3 C q) 0 S w):=by
 have HM:=zc hm
 have L:=hm.few
 clear hm
 have HV:Hid (za3 C q=bd (bd (.ok (adv q)) (zy C)) fun a=>zd C 4 cSemi a.1):=by
  show _=_
  rw[za3,zd,if_pos hw,zh]
  rw[zz,h1,h2,h3]
  rfl
 unfold pv
 go_enter Tryz.func48,Tryz.ntmps48
 go_wp2_with fail
 refine (zaT C I D z (.ok q) S q (-1) 0 sImport _ (zab q) ((HM.out.alloc _).alloc _)).mono ?_
 rintro e w1 ⟨S1,q1,z1,rfl,i1,m1,s1⟩
 obtain⟨X0,X1,t1⟩:=HM.out.two2 s1
 have j:=zc X0
 have o:=zc X1
 have ap:=zc m1
 have ar:=zc t1
 have am:=zc i1
 clear X0 X1 i1 m1 t1 s1
 obtain⟨ac,rfl⟩:=zdq am.out hw
 have HQ:=zc ac
 have V:Hid (q1.pos=q.pos+1):=by show q1.pos=q.pos+1;rw[ac];rfl
 clear ac am
 obtain⟨Y,a1,N,O,a4,Q,a6,U,Z,X,E,H,af⟩:=j.out.box
 unfold pv
 go_upto_region 2 with fail
 refine zQ (R:=fun W=>Bx I S1 W (w.heap.size) _∧Bx I S1 W (w.heap.size+1) _∧Mem C I D z S1 q1 W∧SB w.heap.size S w S1 W) ⟨(j.out.put ..),(o.out.other (by omega) ..),(ap.out.put j.out ..),(ar.out.put (by omega) ..)⟩ ?_
 clear Y a1 N O a4 Q a6 U Z X E H af
 clear j o ar ap
 rintro w2 ⟨X0,X1,m2,t2⟩
 have j:=zc X0
 have o:=zc X1
 have ad:=zc m2
 have aj:=zc t2
 clear m2 t2 X0 X1
 obtain⟨Y,a1,N,O,a4,Q,a6,U,Z,X,E,H,af⟩:=j.out.box
 go_wp2_with fail
 refine (zj C I D z S1 q1 (-1) 0 4 zF _ ad.out.tok L (by decide)).mono ?_
 rintro e w3 ⟨rfl,M⟩
 rw[V.out,h1]
 replace j:=zc (j.out.below M)
 replace o:=zc (o.out.below M)
 have aq:=zc (aj.out.below M)
 have ag:=zc (ad.out.later M)
 clear M aj ad
 clear Y a1 N O a4 Q a6 U Z X E H af
 obtain⟨Y,a1,N,O,a4,Q,a6,U,Z,X,E,H,af⟩:=j.out.box
 go_wp2_with fail
 refine (zj C I D z S1 q1 (-1) 0 4 zp _ ag.out.tok L (by decide)).mono ?_
 rintro e w4 ⟨rfl,J⟩
 rw[V.out,h2]
 replace j:=zc (j.out.below J)
 replace o:=zc (o.out.below J)
 have al:=zc (aq.out.below J)
 have aa:=zc (ag.out.later J)
 clear J aq ag
 clear Y a1 N O a4 Q a6 U Z X E H af
 obtain⟨Y,a1,N,O,a4,Q,a6,U,Z,X,E,H,af⟩:=j.out.box
 go_wp2_with fail
 refine (zg5 C I D z S1 q1 (-1) 0 false _ aa.out.tok L).mono ?_
 rintro e w5 ⟨rfl,K⟩
 rw[V.out,h3]
 replace j:=zc (j.out.below K)
 replace o:=zc (o.out.below K)
 have au:=zc (al.out.below K)
 have an:=zc (aa.out.later K)
 clear K al aa
 clear Y a1 N O a4 Q a6 U Z X E H af
 obtain⟨Y,a1,N,O,a4,Q,a6,U,Z,X,E,H,af⟩:=j.out.box
 clear V
 go_wp2_with fail
 refine (zeD C I D z (.ok q1) S1 q1 (-1) 0 _ (zab q1) an.out).mono ?_
 rintro e w6 ⟨S6,q6,z6,n6,rfl,i6,m6,s6⟩
 replace j:=zc (j.out.stp s6)
 replace o:=zc (o.out.stp s6)
 have ah:=zc (au.out.step s6)
 clear au
 have ab:=zc m6
 have ao:=zc i6
 clear i6 m6 s6 an
 clear Y a1 N O a4 Q a6 U Z X E H af
 have aA:w.heap.size+1<w6.heap.size:=o.out.lt
 unfold pv
 go_upto_region 20 with fail
 refine zQ (R:=fun W=>Bx I S6 W (w.heap.size) _∧Bx I S6 W (w.heap.size+1) _∧Bx I S6 W (w6.heap.size) _∧Mem C I D z S6 q6 W∧SB w.heap.size S w S6 W) ⟨(j.out.alloc _),(o.out.alloc _),(Bx.new ab.out _),(ab.out.alloc _),(ah.out.alloc _)⟩ ?_
 clear j o ah ab
 rintro w7 ⟨X0,X1,X2,m7,t7⟩
 have j:=zc X0
 have o:=zc X1
 have ae:=zc X2
 have ak:=zc m7
 have ai:=zc t7
 clear m7 t7 X0 X1 X2
 obtain⟨c0,c1,c2,c3,c4,c5,c6,c7,c8,c9,ax,ay,cf⟩:=ae.out.box
 go_wp2_with fail
 refine (zah C I D z _ S6 q6 z6 0 cSemi _ ao.out.fst ak.out).mono ?_
 rintro e w8 ⟨S8,q8,z8,rfl,i8,m8,s8⟩
 replace j:=zc (j.out.stp s8)
 replace o:=zc (o.out.stp s8)
 replace ae:=zc (ae.out.stp s8)
 have az:=zc (ai.out.step s8)
 clear ai
 have av:=zc m8
 have aw:=zc i8
 clear i8 m8 s8 ak
 clear c0 c1 c2 c3 c4 c5 c6 c7 c8 c9 ax ay cf
 obtain⟨b0,b1,b2,b3,b4,b5,b6,b7,b8,b9,aB,aC,bf⟩:=o.out.box
 unfold pv
 go_wp2
 refine bodyPost_ret (results_cell_row rfl _ _ (w.heap.size+1) 55 _ (0,0) _ rfl ((o.out.put ..)).heap Tryz.underlying55 rfl (by kernel_rfl)) rfl ?_
 rw[HV.out,←HQ.out,←ao.out.bind (fun q _=>zd C 4 cSemi q)]
 exact zac rfl aw.out (av.out.put o.out ..) (az.out.put (by omega) ..)
theorem zuX (C:Cx) (H E z:Nat) (S:Sv) (q:PS) (w:World) (hm:Mem C H E z S q w) (hw:isT C q.pos 1 sImport=true) (h1:isT C (q.pos+1) 4 zF=true):
  Calls Tryz.prog 48 #[pv C H E S q (-1) 0] w (Out C H E z (za3 C q) 0 S w):=by
 have HM:=zc hm
 have aJ:=hm.few
 clear hm
 have HV:Hid (za3 C q=bd (zbB C false (adv q)) fun a=>bd (zaD C (zav C (.ok a.1))) fun b=>zK (fun e=>zX C (zbW b.2 e)) a.2 (.ok b.1)):=by
  show _=_
  rw[za3,zd,if_pos hw,zh]
  rw[zz,h1]
  rfl
 unfold pv
 go_enter Tryz.func48,Tryz.ntmps48
 go_wp2_with fail
 refine (zaT C H E z (.ok q) S q (-1) 0 sImport _ (zab q) ((HM.out.alloc _).alloc _)).mono ?_
 rintro e w1 ⟨S1,q1,z1,rfl,i1,m1,s1⟩
 obtain⟨N,O,t1⟩:=HM.out.two2 s1
 have o:=zc N
 have D:=zc O
 have aH:=zc m1
 have aN:=zc t1
 have aB:=zc i1
 clear N O i1 m1 t1 s1
 obtain⟨al,rfl⟩:=zdq aB.out hw
 have HQ:=zc al
 have aw:Hid (q1.pos=q.pos+1):=by show q1.pos=q.pos+1;rw[al];rfl
 clear al aB
 obtain⟨a0,a1,a2,a3,a4,a5,a6,a7,a8,a9,K,L,af⟩:=o.out.box
 unfold pv
 go_upto_region 2 with fail
 refine zQ (R:=fun W=>Bx H S1 W (w.heap.size) _∧Bx H S1 W (w.heap.size+1) _∧Mem C H E z S1 q1 W∧SB w.heap.size S w S1 W) ⟨(o.out.put ..),(D.out.other (by omega) ..),(aH.out.put o.out ..),(aN.out.put (by omega) ..)⟩ ?_
 clear a0 a1 a2 a3 a4 a5 a6 a7 a8 a9 K L af
 clear o D aN aH
 rintro w2 ⟨N,O,m2,t2⟩
 have o:=zc N
 have D:=zc O
 have am:=zc m2
 have av:=zc t2
 clear m2 t2 N O
 obtain⟨a0,a1,a2,a3,a4,a5,a6,a7,a8,a9,K,L,af⟩:=o.out.box
 go_wp2_with fail
 refine (zj C H E z S1 q1 (-1) 0 4 zF _ am.out.tok aJ (by decide)).mono ?_
 rintro e w3 ⟨rfl,ad⟩
 rw[aw.out,h1]
 replace o:=zc (o.out.below ad)
 replace D:=zc (D.out.below ad)
 have an:=zc (av.out.below ad)
 have aQ:=zc (am.out.later ad)
 clear ad av am
 clear a0 a1 a2 a3 a4 a5 a6 a7 a8 a9 K L af
 obtain⟨a0,a1,a2,a3,a4,a5,a6,a7,a8,a9,K,L,af⟩:=o.out.box
 clear aw
 have aT:=an.out.size
 go_wp2_with fail
 refine (zm2 C H E z S1 q1 0 false _ aQ.out).mono ?_
 rintro e w4 ⟨S4,q4,z4,⟨ra,rc⟩,l,rfl,i4,m4,s4,R0,hl⟩
 obtain⟨g,rfl⟩: ∃g,ra=some ⟨g,0,none⟩:=R0.addr
 replace o:=zc (o.out.stp s4)
 replace D:=zc (D.out.stp s4)
 have ay:=zc (an.out.step s4)
 clear an
 have ai:=zc m4
 have aL:=zc i4
 clear i4 m4 s4 aQ
 clear a0 a1 a2 a3 a4 a5 a6 a7 a8 a9 K L af
 have J:Hid (Row S4 w4 z w.heap.size ⟨some ⟨g,0,none⟩,rc⟩ l):=⟨R0.own,R0.free,fun k hk=>Nat.le_trans aT (R0.new k hk),R0.addr⟩
 clear R0
 have ba:w.heap.size+1<w4.heap.size:=D.out.lt
 unfold pv
 go_upto_region 4 with fail
 refine zQ (R:=fun W=>Bx H S4 W (w.heap.size) _∧Bx H S4 W (w.heap.size+1) _∧Bx H S4 W (w4.heap.size) _∧Row S4 W z w.heap.size ⟨some ⟨g,0,none⟩,rc⟩ l∧Mem C H E z S4 q4 W∧SB w.heap.size S w S4 W) ⟨(o.out.alloc _),(D.out.alloc _),(Bx.new ai.out _),(J.out.alloc _),(ai.out.alloc _),(ay.out.alloc _)⟩ ?_
 clear o D ay ai
 clear J
 rintro w5 ⟨N,O,X2,R0,m5,t5⟩
 have J:=zc R0
 clear R0
 have o:=zc N
 have D:=zc O
 have I:=zc X2
 have aG:=zc m5
 have aP:=zc t5
 clear m5 t5 N O X2
 obtain⟨c0,c1,c2,c3,c4,c5,c6,c7,c8,c9,aU,aW,cf⟩:=I.out.box
 go_wp2_with fail
 refine (zaT C H E z _ S4 q4 z4 0 zH _ aL.out.fst aG.out).mono ?_
 rintro e w6 ⟨S6,q6,z6,rfl,i6,m6,s6⟩
 replace o:=zc (o.out.stp s6)
 replace D:=zc (D.out.stp s6)
 replace I:=zc (I.out.stp s6)
 have ap:=zc (aP.out.step s6)
 have U:Hid (Row S6 w6 z w.heap.size ⟨some ⟨g,0,none⟩,rc⟩ l):=J.out.stp s6
 clear J
 have J:=zc U
 clear U
 clear aP
 have az:=zc m6
 have aV:=zc i6
 clear i6 m6 s6 aG
 clear c0 c1 c2 c3 c4 c5 c6 c7 c8 c9 aU aW cf
 go_wp2_with fail
 refine (zeD C H E z _ S6 q6 z6 0 _ aV.out az.out).mono ?_
 rintro e w7 ⟨S7,q7,z7,n7,rfl,i7,m7,s7⟩
 replace o:=zc (o.out.stp s7)
 replace D:=zc (D.out.stp s7)
 replace I:=zc (I.out.stp s7)
 have au:=zc (ap.out.step s7)
 have U:Hid (Row S7 w7 z w.heap.size ⟨some ⟨g,0,none⟩,rc⟩ l):=J.out.stp s7
 clear J
 have J:=zc U
 clear U
 clear ap
 have aj:=zc m7
 have aM:=zc i7
 clear i7 m7 s7 az
 have bb:w.heap.size+1<w7.heap.size:=D.out.lt
 have aR:w4.heap.size<w7.heap.size:=I.out.lt
 unfold pv
 go_upto_region 5 with fail
 refine zQ (R:=fun W=>Bx H S7 W (w.heap.size) _∧Bx H S7 W (w.heap.size+1) _∧Bx H S7 W (w4.heap.size) _∧Bx H S7 W (w7.heap.size) _∧Row S7 W z w.heap.size ⟨some ⟨g,0,none⟩,rc⟩ l∧Mem C H E z S7 q7 W∧SB w.heap.size S w S7 W) ⟨(o.out.alloc _),(D.out.alloc _),(I.out.alloc _),(Bx.new aj.out _),(J.out.alloc _),(aj.out.alloc _),(au.out.alloc _)⟩ ?_
 clear o D I au aj
 clear J
 rintro w8 ⟨N,O,X2,X3,R0,m8,t8⟩
 have J:=zc R0
 clear R0
 have o:=zc N
 have D:=zc O
 have I:=zc X2
 have V:=zc X3
 have aq:=zc m8
 have aK:=zc t8
 clear m8 t8 N O X2 X3
 obtain⟨d0,d1,d2,d3,d4,d5,d6,d7,d8,d9,ak,ao,df⟩:=V.out.box
 go_wp2_with fail
 refine (zah C H E z _ S7 q7 z7 0 cSemi _ aM.out.fst aq.out).mono ?_
 rintro e w9 ⟨Z,q9,z9,rfl,i9,m9,s9⟩
 replace o:=zc (o.out.stp s9)
 replace D:=zc (D.out.stp s9)
 replace I:=zc (I.out.stp s9)
 replace V:=zc (V.out.stp s9)
 have aa:=zc (aK.out.step s9)
 have U:Hid (Row Z w9 z w.heap.size ⟨some ⟨g,0,none⟩,rc⟩ l):=J.out.stp s9
 clear J
 have J:=zc U
 clear U
 clear aK
 have ac:=zc m9
 have Y:=zc i9
 clear i9 m9 s9 aq
 clear d0 d1 d2 d3 d4 d5 d6 d7 d8 d9 ak ao df
 obtain⟨a0,a1,a2,a3,a4,a5,a6,a7,a8,a9,K,L,af⟩:=o.out.box
 unfold pv
 go_upto_region 6 with fail
 refine zQ (R:=fun W=>Bx H Z W (w.heap.size) _∧Bx H Z W (w.heap.size+1) _∧Bx H Z W (w4.heap.size) _∧Bx H Z W (w7.heap.size) _∧Row Z W z w.heap.size ⟨some ⟨g,0,none⟩,rc⟩ l∧Mem C H E z Z q9 W∧SB w.heap.size S w Z W) ⟨(o.out.put ..),(D.out.other (by omega) ..),(I.out.other (by omega) ..),(V.out.other (by omega) ..),(J.out.put o.out ..),(ac.out.put o.out ..),(aa.out.put (by omega) ..)⟩ ?_
 clear a0 a1 a2 a3 a4 a5 a6 a7 a8 a9 K L af
 clear o D I V aa ac
 clear J
 rintro aF ⟨N,O,X2,X3,R0,ab,aI⟩
 have J:=zc R0
 clear R0
 have o:=zc N
 have D:=zc O
 have I:=zc X2
 have V:=zc X3
 have X:=zc ab
 have ag:=zc aI
 clear ab aI N O X2 X3
 have aX:Hid (_=_):=zjk (G:=fun b e=>zX C (zbW b e)) aL.out aM.out
 go_wp2
 go_loopg [8] l.length (fun k i wr=>∃(j:Nat) (x':PR) (Q:Sv) (q':PS) (z':Int),j≤l.length∧i= .int .i64 j∧Is x' q' z'∧(z'<0→1≤q'.pos)∧zK (fun e=>zX C (zbW n7 e)) (l.drop j) x'=za3 C q∧l.length-j=k∧Mem C H E z Q q' wr∧SB w.heap.size S w Q wr∧Bx H Q wr w.heap.size #[.slice (some ⟨H,0,none⟩) C.ts.length E,.int .i64 q'.pos,.int .i64 C.fin,.bool C.scr,.slice Q.rq.a q'.rq.length Q.rq.cap,.slice Q.im.a q'.im.length Q.im.cap,.slice Q.ep.a q'.ep.length Q.ep.cap,.slice Q.st.a q'.st.length Q.st.cap,.slice Q.ex.a q'.ex.length Q.ex.cap,.slice Q.la.a q'.la.length Q.la.cap,.int .i64 z',.int .i64 0]∧Bx H Q wr (w.heap.size+1) #[.slice none 0 0,.int .i64 0,.int .i64 0,.bool false,.slice none 0 0,.slice none 0 0,.slice none 0 0,.slice none 0 0,.slice none 0 0,.slice none 0 0,.int .i64 0,.int .i64 0]∧Row Q wr z w.heap.size ⟨some ⟨g,0,none⟩,rc⟩ l)
 case atStart=>exact⟨0,_,Z,q9,z9,Nat.zero_le _,rfl,Y.out,zb5 Y.out,by rw[HV.out,←HQ.out];exact aX.out,rfl,X.out,ag.out,o.out,D.out,J.out⟩
 case round=>
  obtain⟨j,x9,Z,q9,z9,hj,rfl,i9,p9,e9,g9,m9,t9,N,O,R0⟩:=hrel
  clear o D I V J X ag
  have o:=zc N
  have D:=zc O
  have ac:=zc m9
  have aa:=zc t9
  have Y:=zc i9
  have ax:=zc p9
  have aE:=zc e9
  have aA:=zc g9
  have J:=zc R0
  clear N O i9 m9 t9 e9 g9 R0 p9
  by_cases aC:j<l.length
  ·skip
   obtain⟨c1,c2⟩:=J.out.cells (g:=g) rfl aC
   have be:=J.out.own.lt (g:=g) rfl
   have HX:Hid (∀e,e=l[j]→zK (fun e=>zX C (zbW n7 e)) (l.drop (j+1)) (bd x9 (zX C (zbW n7 e)))=za3 C q):=fun e he=>by rw[he,←aE.out];exact (zht (fun e=>zX C (zbW n7 e)) l x9 aC).symm
   generalize aD:l[j]=el at c1 c2
   have aS:Hid (el=l[j]):=aD.symm
   clear aD
   obtain⟨a0,a1,a2,a3,a4,a5,a6,a7,a8,a9,K,L,af⟩:=o.out.box
   go_upto_region 9 with fail
   go_region_law (first|(go_simp;go_wp2_with (go_at_call 98;refine (zhR C H E z x9 Z q9 z9 0 (zbW n7 el) _ Y.out ac.out.drew ax.out).mono ?_;rintro e aF ⟨aO,aY,aZ,rfl,ar,ab,ah⟩;obtain⟨d0,d1,d2,d3,d4,d5,d6,d7,d8,d9,ak,ao,df⟩:=(o.out.stp ah.undrew).box;unfold pv)))
   all_goals
    clear a0 a1 a2 a3 a4 a5 a6 a7 a8 a9 K L af d0 d1 d2 d3 d4 d5 d6 d7 d8 d9 ak ao df
    have ae:=zc ar
    have X:=zc ab
    have M:Hid (Stp Z wr aO aF):=ah.undrew
    clear ar ab ah
    go_wp2
    go_roundg (gk-1)
    case rel=>exact⟨j+1,_,aO,aY,aZ,by omega,by go_num,ae.out,zuT ax.out Y.out ae.out,HX.out el aS.out,by have:=aA.out;omega,X.out.put (o.out.stp M.out) _ _ _ _ _ _ _ _ _ _ _ _,(aa.out.step M.out).put (by omega) _ _ _ _ _ _ _ _ _ _ _ _,(o.out.stp M.out).put _ _ _ _ _ _ _ _ _ _ _ _,(D.out.stp M.out).other (by omega) _ _ _ _ _ _ _ _ _ _ _ _,(J.out.stp M.out).put (o.out.stp M.out) _ _ _ _ _ _ _ _ _ _ _ _⟩
    case measure=>have:=aA.out;omega
  ·skip
   obtain⟨a0,a1,a2,a3,a4,a5,a6,a7,a8,a9,K,L,af⟩:=o.out.box
   obtain⟨b0,b1,b2,b3,b4,b5,b6,b7,b8,b9,bc,bg,bf⟩:=D.out.box
   go_wp2
   refine bodyPost_ret (results_cell_row rfl _ _ (w.heap.size+1) 55 _ (0,0) _ rfl ((D.out.put ..)).heap Tryz.underlying55 rfl (by kernel_rfl)) rfl ?_
   exact zac rfl (show Is (za3 C q) q9 z9 from by rw[←aE.out,List.drop_eq_nil_of_le (by omega)];exact Y.out) (ac.out.put D.out ..) (aa.out.put (by omega) ..)
theorem zuY {C:Cx} {k:Int} {n:ByteArray} {q q':PS} (h:zE C k n q= .ok q'):q'={q with st:=q.st++[⟨k,n,(q.ex.length:Int)-1⟩]}∧q.st.length<80:=by
 unfold zE at h
 split at h
 ·cases h
 ·cases h
  exact⟨rfl,by omega⟩
theorem zmH {C:Cx} {x:PR} {k:Int} {s:ByteArray} {j:Int} {n:ByteArray} {q:PS} {z:Int} (h:Is (bd (bd x (zd C k s)) (zE C j n)) q z):z<0→1≤q.pos:=by
 intro D
 obtain⟨e,_⟩:=zaF h D
 obtain⟨a,o,E⟩:=ze e
 obtain⟨b,_,H⟩:=ze o
 obtain⟨rfl,_⟩:=zbh H
 obtain⟨rfl,_⟩:=zuY E
 simp[adv]
theorem zmI {C:Cx} {y:PRN} {G:PR→PR} {k:Int} {s:ByteArray} {j:Int} {q:PS} {z:Int} {n:ByteArray} (h:Is2 (withN y fun x n=>bd (bd (G x) (zd C k s)) (zE C j n)) q z n):z<0→1≤q.pos:=by
 intro E
 cases y with
 |error e=>have:z=(e:Int):=h;omega
 |ok a=>
  have o:Is2 (bd (bd (bd (G (.ok a.1)) (zd C k s)) (zE C j a.2)) fun q=>.ok (q,a.2)) q z n:=h
  cases D:bd (bd (G (.ok a.1)) (zd C k s)) (zE C j a.2) with
  |error e=>rw[D] at o;have:z=(e:Int):=o;omega
  |ok b=>
   rw[D] at o
   obtain⟨rfl,rfl,_⟩:=o
   exact zmH (show Is (bd (bd (G (.ok a.1)) (zd C k s)) (zE C j a.2)) q (-1) by rw[D];exact⟨rfl,rfl⟩) (by decide)
theorem zuZ {C:Cx} {j q:PS} {z:Int} {n:ByteArray} (h:Is2 (zbA C j) q z n):z<0→1≤q.pos:=zmI (G:=fun x=>bd (bd x (zd C 4 cEq)) (pE C .sum 0)) h
theorem zva {C:Cx} {j q:PS} {z:Int} {n:ByteArray} (h:Is2 (fnP C j) q z n):z<0→1≤q.pos:=zmI (G:=fun x=>bd (bd (bd (bd (bd (bd x (zd C 4 cOpen)) (zd C 4 zU)) (zd C 4 zF)) (zd C 1 zdw)) (pE C .sum 0)) (zd C 4 cSemi)) h
theorem zvb {C:Cx} {x:PR} {H:PS} {E:Int} {o:ByteArray} {G:ByteArray→PS→PR} (j:Is2 (bd (bd x (zd C 1 zH)) (zy C)) H E o):
  bd (bd (za7 (bd (bd x (zd C 1 zH)) (zy C))) (zd C 4 cSemi)) (G o)=bd (zaD C (zav C x)) fun b=>G b.2 b.1:=by
 have D:bd (bd x (zd C 1 zH)) (zy C)=zav C x:=rfl
 rw[D] at j ⊢
 cases z:zav C x with
 |error e=>rfl
 |ok b=>
  rw[z] at j
  obtain⟨_,_,rfl⟩:=j
  show bd (zd C 4 cSemi b.1) (G b.2)=bd (bd (zd C 4 cSemi b.1) fun q=>.ok (q,b.2)) fun b=>G b.2 b.1
  rw[zR]
  rfl
theorem zvc {C:Cx} {y:PRL} {j:PS} {z:Int} {l:List Ep} {f:Ep→PS→PR} {D:PS×List Ep→PR} (H:Is3 y j z l) (E:za2 l=false) (o:(decide (z<0)&&isT C j.pos 1 zH)=false):
  zK f l (bd (zgk y) (zd C 4 cSemi))=bd y fun a=>if !za2 a.2&& !isT C a.1.pos 1 zH then bd (zd C 4 cSemi a.1) fun q=>zK f a.2 (.ok q) else D a:=by
 cases y with
 |error e=>exact zgj _ _ _
 |ok a=>
  obtain⟨rfl,rfl,rfl⟩:=H
  rw[Bool.and_eq_false_iff] at o
  rw[zh,E,o.resolve_left (by decide)]
  show zK f a.2 (zd C 4 cSemi a.1)=bd (zd C 4 cSemi a.1) fun q=>zK f a.2 (.ok q)
  cases zd C 4 cSemi a.1 with
  |error e=>exact zgj _ _ _
  |ok c=>rfl
theorem zmJ {C:Cx} {y:PRL} {o:PS} {z:Int} {l:List Ep} {D E:PS×List Ep→PR} (H:Is3 y o z l) (j:za2 l=true∨(decide (z<0)&&isT C o.pos 1 zH)=true):
  bd y D=bd y fun a=>if !za2 a.2&& !isT C a.1.pos 1 zH then E a else D a:=by
 cases y with
 |error e=>rfl
 |ok a=>
  obtain⟨rfl,rfl,rfl⟩:=H
  rw[zh,zh]
  rcases j with h|h
  ·rw[h];rfl
  ·rw[Bool.and_eq_true] at h
   rw[h.2,Bool.not_true,Bool.and_false]
   rfl
theorem zvd (C:Cx) (E D z:Nat) (S:Sv) (q:PS) (w:World) (hm:Mem C E D z S q w) (hw:isT C q.pos 1 sExport=true) (h1:isT C (q.pos+1) 4 zF=false) (h2:isT C (q.pos+1) 4 zp=true):
  Calls Tryz.prog 49 #[pv C E D S q (-1) 0] w (Out C E D z (zV C q) 0 S w):=by
 have HM:=zc hm
 have Q:=hm.few
 clear hm
 have HV:Hid (zV C q=bd (zaD C (zav C (bd (.ok (adv q)) (zd C 4 zp)))) fun b=>zm C ⟨3,sNone,sNone,b.2⟩ b.1):=by
  show _=_
  rw[zV,zd,if_pos hw,zh]
  rw[zz,h1,h2]
  rfl
 unfold pv
 go_enter Tryz.func49,Tryz.ntmps49
 go_wp2_with fail
 refine (zaT C E D z (.ok q) S q (-1) 0 sExport _ (zab q) ((HM.out.alloc _).alloc _)).mono ?_
 rintro e w1 ⟨S1,U,z1,rfl,i1,m1,s1⟩
 obtain⟨N,O,t1⟩:=HM.out.two2 s1
 have j:=zc N
 have o:=zc O
 have av:=zc m1
 have aD:=zc t1
 have ar:=zc i1
 clear N O i1 m1 t1 s1
 obtain⟨ac,rfl⟩:=zdq ar.out hw
 have HQ:=zc ac
 have aa:Hid (U.pos=q.pos+1):=by show U.pos=q.pos+1;rw[ac];rfl
 clear ac ar
 obtain⟨a0,a1,V,X,a4,Y,a6,Z,a8,a9,H,I,af⟩:=j.out.box
 unfold pv
 go_upto_region 2 with fail
 refine zQ (R:=fun W=>Bx E S1 W (w.heap.size) _∧Bx E S1 W (w.heap.size+1) _∧Mem C E D z S1 U W∧SB w.heap.size S w S1 W) ⟨(j.out.put ..),(o.out.other (by omega) ..),(av.out.put j.out ..),(aD.out.put (by omega) ..)⟩ ?_
 clear a0 a1 V X a4 Y a6 Z a8 a9 H I af
 clear j o aD av
 rintro w2 ⟨N,O,m2,t2⟩
 have j:=zc N
 have o:=zc O
 have ad:=zc m2
 have al:=zc t2
 clear m2 t2 N O
 obtain⟨a0,a1,V,X,a4,Y,a6,Z,a8,a9,H,I,af⟩:=j.out.box
 go_wp2_with fail
 refine (zj C E D z S1 U (-1) 0 4 zF _ ad.out.tok Q (by decide)).mono ?_
 rintro e w3 ⟨rfl,M⟩
 rw[aa.out,h1]
 replace j:=zc (j.out.below M)
 replace o:=zc (o.out.below M)
 have ax:=zc (al.out.below M)
 have ae:=zc (ad.out.later M)
 clear M al ad
 clear a0 a1 V X a4 Y a6 Z a8 a9 H I af
 obtain⟨a0,a1,V,X,a4,Y,a6,Z,a8,a9,H,I,af⟩:=j.out.box
 go_wp2_with fail
 refine (zj C E D z S1 U (-1) 0 4 zp _ ae.out.tok Q (by decide)).mono ?_
 rintro e w4 ⟨rfl,K⟩
 rw[aa.out,h2]
 replace j:=zc (j.out.below K)
 replace o:=zc (o.out.below K)
 have ao:=zc (ax.out.below K)
 have an:=zc (ae.out.later K)
 clear K ax ae
 clear a0 a1 V X a4 Y a6 Z a8 a9 H I af
 obtain⟨a0,a1,V,X,a4,Y,a6,Z,a8,a9,H,I,af⟩:=j.out.box
 clear aa
 go_wp2_with fail
 refine (zah C E D z (.ok U) S1 U (-1) 0 zp _ (zab U) an.out).mono ?_
 rintro e w5 ⟨S5,q5,z5,rfl,i5,m5,s5⟩
 replace j:=zc (j.out.stp s5)
 replace o:=zc (o.out.stp s5)
 have aE:=zc (ao.out.step s5)
 clear ao
 have au:=zc m5
 have aI:=zc i5
 clear i5 m5 s5 an
 clear a0 a1 V X a4 Y a6 Z a8 a9 H I af
 go_wp2_with fail
 refine (zaT C E D z _ S5 q5 z5 0 zH _ aI.out au.out).mono ?_
 rintro e w6 ⟨S6,q6,z6,rfl,i6,m6,s6⟩
 replace j:=zc (j.out.stp s6)
 replace o:=zc (o.out.stp s6)
 have ag:=zc (aE.out.step s6)
 clear aE
 have ap:=zc m6
 have aG:=zc i6
 clear i6 m6 s6 au
 go_wp2_with fail
 refine (zeD C E D z _ S6 q6 z6 0 _ aG.out ap.out).mono ?_
 rintro e w7 ⟨S7,q7,z7,n7,rfl,i7,m7,s7⟩
 replace j:=zc (j.out.stp s7)
 replace o:=zc (o.out.stp s7)
 have ak:=zc (ag.out.step s7)
 clear ag
 have ab:=zc m7
 have aC:=zc i7
 clear i7 m7 s7 ap
 have aJ:w.heap.size+1<w7.heap.size:=o.out.lt
 unfold pv
 go_upto_region 20 with fail
 refine zQ (R:=fun W=>Bx E S7 W (w.heap.size) _∧Bx E S7 W (w.heap.size+1) _∧Bx E S7 W (w7.heap.size) _∧Mem C E D z S7 q7 W∧SB w.heap.size S w S7 W) ⟨(j.out.alloc _),(o.out.alloc _),(Bx.new ab.out _),(ab.out.alloc _),(ak.out.alloc _)⟩ ?_
 clear j o ak ab
 rintro w8 ⟨N,O,X2,m8,t8⟩
 have j:=zc N
 have o:=zc O
 have L:=zc X2
 have ai:=zc m8
 have ay:=zc t8
 clear m8 t8 N O X2
 obtain⟨c0,c1,c2,c3,c4,c5,c6,c7,c8,c9,aF,aH,cf⟩:=L.out.box
 go_wp2_with fail
 refine (zah C E D z _ S7 q7 z7 0 cSemi _ aC.out.fst ai.out).mono ?_
 rintro e w9 ⟨S9,q9,z9,rfl,i9,m9,s9⟩
 replace j:=zc (j.out.stp s9)
 replace o:=zc (o.out.stp s9)
 replace L:=zc (L.out.stp s9)
 have aq:=zc (ay.out.step s9)
 clear ay
 have az:=zc m9
 have aA:=zc i9
 clear i9 m9 s9 ai
 clear c0 c1 c2 c3 c4 c5 c6 c7 c8 c9 aF aH cf
 go_wp2_with fail
 refine (zeq C E D z _ S9 q9 z9 0 ⟨3,sNone,sNone,n7⟩ _ aA.out az.out (zb5 aA.out)).mono ?_
 rintro e aL ⟨aP,aM,aN,rfl,aj,aw,J⟩
 replace j:=zc (j.out.stp J)
 replace o:=zc (o.out.stp J)
 replace L:=zc (L.out.stp J)
 have aB:=zc (aq.out.step J)
 clear aq
 have am:=zc aw
 have ah:=zc aj
 clear aj aw J az
 obtain⟨b0,b1,b2,b3,b4,b5,b6,b7,b8,b9,aK,aO,bf⟩:=o.out.box
 unfold pv
 go_wp2
 refine bodyPost_ret (results_cell_row rfl _ _ (w.heap.size+1) 55 _ (0,0) _ rfl ((o.out.put ..)).heap Tryz.underlying55 rfl (by kernel_rfl)) rfl ?_
 rw[HV.out,←HQ.out,←zvb (G:=fun b=>zm C ⟨3,sNone,sNone,b⟩) aC.out]
 exact zac rfl ah.out (am.out.put o.out ..) (aB.out.put (by omega) ..)
theorem zve (C:Cx) (E D z:Nat) (S:Sv) (q:PS) (w:World) (hm:Mem C E D z S q w) (hw:isT C q.pos 1 sExport=true) (h1:isT C (q.pos+1) 4 zF=false) (h2:isT C (q.pos+1) 4 zp=false) (h3:isT C (q.pos+1) 1 sDefault=true):
  Calls Tryz.prog 49 #[pv C E D S q (-1) 0] w (Out C E D z (zV C q) 0 S w):=by
 have HM:=zc hm
 have O:=hm.few
 clear hm
 have HV:Hid (zV C q=bd (bd (bd (bd (bd (.ok (adv q)) (zd C 1 sDefault)) (pE C .sum 0)) (zd C 4 cSemi)) (zE C 1 zbp)) (zm C ⟨1,sDefault,zbp,sNone⟩)):=by
  show _=_
  rw[zV,zd,if_pos hw,zh]
  rw[zz,h1,h2,h3]
  rfl
 unfold pv
 go_enter Tryz.func49,Tryz.ntmps49
 go_wp2_with fail
 refine (zaT C E D z (.ok q) S q (-1) 0 sExport _ (zab q) ((HM.out.alloc _).alloc _)).mono ?_
 rintro e w1 ⟨S1,q1,z1,rfl,i1,m1,s1⟩
 obtain⟨X0,X1,t1⟩:=HM.out.two2 s1
 have j:=zc X0
 have o:=zc X1
 have az:=zc m1
 have aF:=zc t1
 have ax:=zc i1
 clear X0 X1 i1 m1 t1 s1
 obtain⟨ag,rfl⟩:=zdq ax.out hw
 have HQ:=zc ag
 have Z:Hid (q1.pos=q.pos+1):=by show q1.pos=q.pos+1;rw[ag];rfl
 clear ag ax
 obtain⟨a0,a1,U,V,a4,X,a6,Y,a8,a9,H,I,af⟩:=j.out.box
 unfold pv
 go_upto_region 2 with fail
 refine zQ (R:=fun W=>Bx E S1 W (w.heap.size) _∧Bx E S1 W (w.heap.size+1) _∧Mem C E D z S1 q1 W∧SB w.heap.size S w S1 W) ⟨(j.out.put ..),(o.out.other (by omega) ..),(az.out.put j.out ..),(aF.out.put (by omega) ..)⟩ ?_
 clear a0 a1 U V a4 X a6 Y a8 a9 H I af
 clear j o aF az
 rintro w2 ⟨X0,X1,m2,t2⟩
 have j:=zc X0
 have o:=zc X1
 have ah:=zc m2
 have ap:=zc t2
 clear m2 t2 X0 X1
 obtain⟨a0,a1,U,V,a4,X,a6,Y,a8,a9,H,I,af⟩:=j.out.box
 go_wp2_with fail
 refine (zj C E D z S1 q1 (-1) 0 4 zF _ ah.out.tok O (by decide)).mono ?_
 rintro e w3 ⟨rfl,Q⟩
 rw[Z.out,h1]
 replace j:=zc (j.out.below Q)
 replace o:=zc (o.out.below Q)
 have aB:=zc (ap.out.below Q)
 have ai:=zc (ah.out.later Q)
 clear Q ap ah
 clear a0 a1 U V a4 X a6 Y a8 a9 H I af
 obtain⟨a0,a1,U,V,a4,X,a6,Y,a8,a9,H,I,af⟩:=j.out.box
 go_wp2_with fail
 refine (zj C E D z S1 q1 (-1) 0 4 zp _ ai.out.tok O (by decide)).mono ?_
 rintro e w4 ⟨rfl,L⟩
 rw[Z.out,h2]
 replace j:=zc (j.out.below L)
 replace o:=zc (o.out.below L)
 have ar:=zc (aB.out.below L)
 have ae:=zc (ai.out.later L)
 clear L aB ai
 clear a0 a1 U V a4 X a6 Y a8 a9 H I af
 obtain⟨a0,a1,U,V,a4,X,a6,Y,a8,a9,H,I,af⟩:=j.out.box
 go_wp2_with fail
 refine (zj C E D z S1 q1 (-1) 0 1 sDefault _ ae.out.tok O (by decide)).mono ?_
 rintro e w5 ⟨rfl,N⟩
 rw[Z.out,h3]
 replace j:=zc (j.out.below N)
 replace o:=zc (o.out.below N)
 have aG:=zc (ar.out.below N)
 have ay:=zc (ae.out.later N)
 clear N ar ae
 clear a0 a1 U V a4 X a6 Y a8 a9 H I af
 obtain⟨a0,a1,U,V,a4,X,a6,Y,a8,a9,H,I,af⟩:=j.out.box
 clear Z
 go_wp2_with fail
 refine (zaT C E D z (.ok q1) S1 q1 (-1) 0 sDefault _ (zab q1) ay.out).mono ?_
 rintro e w6 ⟨S6,q6,z6,rfl,i6,m6,s6⟩
 replace j:=zc (j.out.stp s6)
 replace o:=zc (o.out.stp s6)
 have aj:=zc (aG.out.step s6)
 clear aG
 have au:=zc m6
 have aJ:=zc i6
 clear i6 m6 s6 ay
 clear a0 a1 U V a4 X a6 Y a8 a9 H I af
 go_wp2_with fail
 refine (zdp C E D z _ S6 q6 z6 _ aJ.out au.out).mono ?_
 rintro e w7 ⟨S7,q7,z7,rfl,i7,m7,s7⟩
 replace j:=zc (j.out.stp s7)
 replace o:=zc (o.out.stp s7)
 have an:=zc (aj.out.step s7)
 clear aj
 have aq:=zc m7
 have aN:=zc i7
 clear i7 m7 s7 au
 go_wp2_with fail
 refine (zah C E D z _ S7 q7 z7 0 cSemi _ aN.out aq.out).mono ?_
 rintro e w8 ⟨S8,q8,z8,rfl,i8,m8,s8⟩
 replace j:=zc (j.out.stp s8)
 replace o:=zc (o.out.stp s8)
 have aD:=zc (an.out.step s8)
 clear an
 have ad:=zc m8
 have aw:=zc i8
 clear i8 m8 s8 aq
 have aP:w.heap.size+1<w8.heap.size:=o.out.lt
 unfold pv
 go_upto_region 23 with fail
 refine zQ (R:=fun W=>Bx E S8 W (w.heap.size) _∧Bx E S8 W (w.heap.size+1) _∧Bx E S8 W (w8.heap.size) _∧Mem C E D z S8 q8 W∧SB w.heap.size S w S8 W) ⟨(j.out.alloc _),(o.out.alloc _),(Bx.new ad.out _),(ad.out.alloc _),(aD.out.alloc _)⟩ ?_
 clear j o aD ad
 rintro w9 ⟨X0,X1,X2,m9,t9⟩
 have j:=zc X0
 have o:=zc X1
 have M:=zc X2
 have aE:=zc m9
 have av:=zc t9
 clear m9 t9 X0 X1 X2
 obtain⟨c0,c1,c2,c3,c4,c5,c6,c7,c8,c9,aI,aK,cf⟩:=M.out.box
 go_wp2_with fail
 refine (zcY C E D z _ S8 q8 z8 0 1 zbp _ aw.out aE.out (zb5 aw.out)).mono ?_
 rintro e aT ⟨aO,aL,aM,rfl,al,aA,J⟩
 replace j:=zc (j.out.stp J)
 replace o:=zc (o.out.stp J)
 replace M:=zc (M.out.stp J)
 have ac:=zc (av.out.step J)
 clear av
 have ab:=zc aA
 have aa:=zc al
 clear al aA J aE
 clear c0 c1 c2 c3 c4 c5 c6 c7 c8 c9 aI aK cf
 go_wp2_with fail
 refine (zeq C E D z _ aO aL aM 0 ⟨1,sDefault,zbp,sNone⟩ _ aa.out ab.out (zmH aa.out)).mono ?_
 rintro e aS ⟨aW,aR,aU,rfl,ak,aC,K⟩
 replace j:=zc (j.out.stp K)
 replace o:=zc (o.out.stp K)
 replace M:=zc (M.out.stp K)
 have aH:=zc (ac.out.step K)
 clear ac
 have ao:=zc aC
 have am:=zc ak
 clear ak aC K ab
 obtain⟨b0,b1,b2,b3,b4,b5,b6,b7,b8,b9,aQ,aV,bf⟩:=o.out.box
 unfold pv
 go_wp2
 refine bodyPost_ret (results_cell_row rfl _ _ (w.heap.size+1) 55 _ (0,0) _ rfl ((o.out.put ..)).heap Tryz.underlying55 rfl (by kernel_rfl)) rfl ?_
 rw[HV.out,←HQ.out]
 exact zac rfl am.out (ao.out.put o.out ..) (aH.out.put (by omega) ..)
theorem zvf (C:Cx) (I D z:Nat) (S:Sv) (q:PS) (w:World) (hm:Mem C I D z S q w) (hw:isT C q.pos 1 sExport=true) (h1:isT C (q.pos+1) 4 zF=false) (h2:isT C (q.pos+1) 4 zp=false) (h3:isT C (q.pos+1) 1 sDefault=false) (h4:isT C (q.pos+1) 1 sLet=true):
  Calls Tryz.prog 49 #[pv C I D S q (-1) 0] w (Out C I D z (zV C q) 0 S w):=by
 have HM:=zc hm
 have J:=hm.few
 clear hm
 have HV:Hid (zV C q=bd (zbA C (adv q)) fun a=>zm C ⟨1,a.2,a.2,sNone⟩ a.1):=by
  show _=_
  rw[zV,zd,if_pos hw,zh]
  rw[zz,h1,h2,h3,h4]
  rfl
 unfold pv
 go_enter Tryz.func49,Tryz.ntmps49
 go_wp2_with fail
 refine (zaT C I D z (.ok q) S q (-1) 0 sExport _ (zab q) ((HM.out.alloc _).alloc _)).mono ?_
 rintro e w1 ⟨S1,q1,z1,rfl,i1,m1,s1⟩
 obtain⟨X0,X1,t1⟩:=HM.out.two2 s1
 have j:=zc X0
 have o:=zc X1
 have au:=zc m1
 have ax:=zc t1
 have ar:=zc i1
 clear X0 X1 i1 m1 t1 s1
 obtain⟨ae,rfl⟩:=zdq ar.out hw
 have HQ:=zc ae
 have O:Hid (q1.pos=q.pos+1):=by show q1.pos=q.pos+1;rw[ae];rfl
 clear ae ar
 obtain⟨U,a1,K,L,a4,M,a6,N,V,Q,E,H,X⟩:=j.out.box
 unfold pv
 go_upto_region 2 with fail
 refine zQ (R:=fun W=>Bx I S1 W (w.heap.size) _∧Bx I S1 W (w.heap.size+1) _∧Mem C I D z S1 q1 W∧SB w.heap.size S w S1 W) ⟨(j.out.put ..),(o.out.other (by omega) ..),(au.out.put j.out ..),(ax.out.put (by omega) ..)⟩ ?_
 clear U a1 K L a4 M a6 N V Q E H X
 clear j o ax au
 rintro w2 ⟨X0,X1,m2,t2⟩
 have j:=zc X0
 have o:=zc X1
 have ag:=zc m2
 have ao:=zc t2
 clear m2 t2 X0 X1
 obtain⟨U,a1,K,L,a4,M,a6,N,V,Q,E,H,X⟩:=j.out.box
 go_wp2_with fail
 refine (zj C I D z S1 q1 (-1) 0 4 zF _ ag.out.tok J (by decide)).mono ?_
 rintro e w3 ⟨rfl,ab⟩
 rw[O.out,h1]
 replace j:=zc (j.out.below ab)
 replace o:=zc (o.out.below ab)
 have av:=zc (ao.out.below ab)
 have ak:=zc (ag.out.later ab)
 clear ab ao ag
 clear U a1 K L a4 M a6 N V Q E H X
 obtain⟨U,a1,K,L,a4,M,a6,N,V,Q,E,H,X⟩:=j.out.box
 go_wp2_with fail
 refine (zj C I D z S1 q1 (-1) 0 4 zp _ ak.out.tok J (by decide)).mono ?_
 rintro e w4 ⟨rfl,Y⟩
 rw[O.out,h2]
 replace j:=zc (j.out.below Y)
 replace o:=zc (o.out.below Y)
 have ap:=zc (av.out.below Y)
 have ac:=zc (ak.out.later Y)
 clear Y av ak
 clear U a1 K L a4 M a6 N V Q E H X
 obtain⟨U,a1,K,L,a4,M,a6,N,V,Q,E,H,X⟩:=j.out.box
 go_wp2_with fail
 refine (zj C I D z S1 q1 (-1) 0 1 sDefault _ ac.out.tok J (by decide)).mono ?_
 rintro e w5 ⟨rfl,aa⟩
 rw[O.out,h3]
 replace j:=zc (j.out.below aa)
 replace o:=zc (o.out.below aa)
 have ay:=zc (ap.out.below aa)
 have ah:=zc (ac.out.later aa)
 clear aa ap ac
 clear U a1 K L a4 M a6 N V Q E H X
 obtain⟨U,a1,K,L,a4,M,a6,N,V,Q,E,H,X⟩:=j.out.box
 go_wp2_with fail
 refine (zj C I D z S1 q1 (-1) 0 1 sLet _ ah.out.tok J (by decide)).mono ?_
 rintro e w6 ⟨rfl,Z⟩
 rw[O.out,h4]
 replace j:=zc (j.out.below Z)
 replace o:=zc (o.out.below Z)
 have al:=zc (ay.out.below Z)
 have aq:=zc (ah.out.later Z)
 clear Z ay ah
 clear U a1 K L a4 M a6 N V Q E H X
 obtain⟨U,a1,K,L,a4,M,a6,N,V,Q,E,H,X⟩:=j.out.box
 clear O
 go_wp2_with fail
 refine (zji C I D z S1 q1 _ aq.out).mono ?_
 rintro e w7 ⟨S7,q7,z7,n7,rfl,i7,m7,s7⟩
 replace j:=zc (j.out.stp s7)
 replace o:=zc (o.out.stp s7)
 have an:=zc (al.out.step s7)
 clear al
 have ad:=zc m7
 have aj:=zc i7
 clear i7 m7 s7 aq
 clear U a1 K L a4 M a6 N V Q E H X
 have aE:w.heap.size+1<w7.heap.size:=o.out.lt
 unfold pv
 go_upto_region 26 with fail
 refine zQ (R:=fun W=>Bx I S7 W (w.heap.size) _∧Bx I S7 W (w.heap.size+1) _∧Bx I S7 W (w7.heap.size) _∧Mem C I D z S7 q7 W∧SB w.heap.size S w S7 W) ⟨(j.out.alloc _),(o.out.alloc _),(Bx.new ad.out _),(ad.out.alloc _),(an.out.alloc _)⟩ ?_
 clear j o an ad
 rintro w8 ⟨X0,X1,X2,m8,t8⟩
 have j:=zc X0
 have o:=zc X1
 have ai:=zc X2
 have am:=zc m8
 have aw:=zc t8
 clear m8 t8 X0 X1 X2
 obtain⟨c0,c1,c2,c3,c4,c5,c6,c7,c8,c9,aA,aB,cf⟩:=ai.out.box
 go_wp2_with fail
 refine (zeq C I D z _ S7 q7 z7 0 ⟨1,n7,n7,sNone⟩ _ aj.out.fst am.out (zuZ aj.out)).mono ?_
 rintro e w9 ⟨S9,q9,z9,rfl,i9,m9,s9⟩
 replace j:=zc (j.out.stp s9)
 replace o:=zc (o.out.stp s9)
 replace ai:=zc (ai.out.stp s9)
 have az:=zc (aw.out.step s9)
 clear aw
 have aC:=zc m9
 have aD:=zc i9
 clear i9 m9 s9 am
 clear c0 c1 c2 c3 c4 c5 c6 c7 c8 c9 aA aB cf
 obtain⟨b0,b1,b2,b3,b4,b5,b6,b7,b8,b9,aF,aG,bf⟩:=o.out.box
 unfold pv
 go_wp2
 refine bodyPost_ret (results_cell_row rfl _ _ (w.heap.size+1) 55 _ (0,0) _ rfl ((o.out.put ..)).heap Tryz.underlying55 rfl (by kernel_rfl)) rfl ?_
 rw[HV.out,←HQ.out,←aj.out.bind (fun q n=>zm C ⟨1,n,n,sNone⟩ q)]
 exact zac rfl aD.out (aC.out.put o.out ..) (az.out.put (by omega) ..)
theorem zvg (C:Cx) (I E z:Nat) (S:Sv) (q:PS) (w:World) (hm:Mem C I E z S q w) (hw:isT C q.pos 1 sExport=true) (h1:isT C (q.pos+1) 4 zF=false) (h2:isT C (q.pos+1) 4 zp=false) (h3:isT C (q.pos+1) 1 sDefault=false) (h4:isT C (q.pos+1) 1 sLet=false) (h5:isT C (q.pos+1) 1 sFunction=true):
  Calls Tryz.prog 49 #[pv C I E S q (-1) 0] w (Out C I E z (zV C q) 0 S w):=by
 have HM:=zc hm
 have J:=hm.few
 clear hm
 have HV:Hid (zV C q=bd (fnP C (adv q)) fun a=>zm C ⟨1,a.2,a.2,sNone⟩ a.1):=by
  show _=_
  rw[zV,zd,if_pos hw,zh]
  rw[zz,h1,h2,h3,h4,h5]
  rfl
 unfold pv
 go_enter Tryz.func49,Tryz.ntmps49
 go_wp2_with fail
 refine (zaT C I E z (.ok q) S q (-1) 0 sExport _ (zab q) ((HM.out.alloc _).alloc _)).mono ?_
 rintro e w1 ⟨S1,q1,z1,rfl,i1,m1,s1⟩
 obtain⟨X0,X1,t1⟩:=HM.out.two2 s1
 have j:=zc X0
 have o:=zc X1
 have aC:=zc m1
 have aI:=zc t1
 have aB:=zc i1
 clear X0 X1 i1 m1 t1 s1
 obtain⟨ak,rfl⟩:=zdq aB.out hw
 have HQ:=zc ak
 have O:Hid (q1.pos=q.pos+1):=by show q1.pos=q.pos+1;rw[ak];rfl
 clear ak aB
 obtain⟨U,Z,K,L,a4,M,Y,N,V,Q,D,H,X⟩:=j.out.box
 unfold pv
 go_upto_region 2 with fail
 refine zQ (R:=fun W=>Bx I S1 W (w.heap.size) _∧Bx I S1 W (w.heap.size+1) _∧Mem C I E z S1 q1 W∧SB w.heap.size S w S1 W) ⟨(j.out.put ..),(o.out.other (by omega) ..),(aC.out.put j.out ..),(aI.out.put (by omega) ..)⟩ ?_
 clear U Z K L a4 M Y N V Q D H X
 clear j o aI aC
 rintro w2 ⟨X0,X1,m2,t2⟩
 have j:=zc X0
 have o:=zc X1
 have al:=zc m2
 have aw:=zc t2
 clear m2 t2 X0 X1
 obtain⟨U,Z,K,L,a4,M,Y,N,V,Q,D,H,X⟩:=j.out.box
 go_wp2_with fail
 refine (zj C I E z S1 q1 (-1) 0 4 zF _ al.out.tok J (by decide)).mono ?_
 rintro e w3 ⟨rfl,ag⟩
 rw[O.out,h1]
 replace j:=zc (j.out.below ag)
 replace o:=zc (o.out.below ag)
 have aE:=zc (aw.out.below ag)
 have ap:=zc (al.out.later ag)
 clear ag aw al
 clear U Z K L a4 M Y N V Q D H X
 obtain⟨U,Z,K,L,a4,M,Y,N,V,Q,D,H,X⟩:=j.out.box
 go_wp2_with fail
 refine (zj C I E z S1 q1 (-1) 0 4 zp _ ap.out.tok J (by decide)).mono ?_
 rintro e w4 ⟨rfl,ab⟩
 rw[O.out,h2]
 replace j:=zc (j.out.below ab)
 replace o:=zc (o.out.below ab)
 have az:=zc (aE.out.below ab)
 have ai:=zc (ap.out.later ab)
 clear ab aE ap
 clear U Z K L a4 M Y N V Q D H X
 obtain⟨U,Z,K,L,a4,M,Y,N,V,Q,D,H,X⟩:=j.out.box
 go_wp2_with fail
 refine (zj C I E z S1 q1 (-1) 0 1 sDefault _ ai.out.tok J (by decide)).mono ?_
 rintro e w5 ⟨rfl,ae⟩
 rw[O.out,h3]
 replace j:=zc (j.out.below ae)
 replace o:=zc (o.out.below ae)
 have aJ:=zc (az.out.below ae)
 have an:=zc (ai.out.later ae)
 clear ae az ai
 clear U Z K L a4 M Y N V Q D H X
 obtain⟨U,Z,K,L,a4,M,Y,N,V,Q,D,H,X⟩:=j.out.box
 go_wp2_with fail
 refine (zj C I E z S1 q1 (-1) 0 1 sLet _ an.out.tok J (by decide)).mono ?_
 rintro e w6 ⟨rfl,ad⟩
 rw[O.out,h4]
 replace j:=zc (j.out.below ad)
 replace o:=zc (o.out.below ad)
 have aq:=zc (aJ.out.below ad)
 have aj:=zc (an.out.later ad)
 clear ad aJ an
 clear U Z K L a4 M Y N V Q D H X
 obtain⟨U,Z,K,L,a4,M,Y,N,V,Q,D,H,X⟩:=j.out.box
 go_wp2_with fail
 refine (zj C I E z S1 q1 (-1) 0 1 sFunction _ aj.out.tok J (by decide)).mono ?_
 rintro e w7 ⟨rfl,ac⟩
 rw[O.out,h5]
 replace j:=zc (j.out.below ac)
 replace o:=zc (o.out.below ac)
 have av:=zc (aq.out.below ac)
 have ay:=zc (aj.out.later ac)
 clear ac aq aj
 clear U Z K L a4 M Y N V Q D H X
 obtain⟨U,Z,K,L,a4,M,Y,N,V,Q,D,H,X⟩:=j.out.box
 clear O
 go_wp2_with fail
 refine (zjj C I E z S1 q1 _ ay.out).mono ?_
 rintro e w8 ⟨S8,q8,z8,n8,rfl,i8,m8,s8⟩
 replace j:=zc (j.out.stp s8)
 replace o:=zc (o.out.stp s8)
 have aF:=zc (av.out.step s8)
 clear av
 have ah:=zc m8
 have am:=zc i8
 clear i8 m8 s8 ay
 clear U Z K L a4 M Y N V Q D H X
 have aM:w.heap.size+1<w8.heap.size:=o.out.lt
 unfold pv
 go_upto_region 29 with fail
 refine zQ (R:=fun W=>Bx I S8 W (w.heap.size) _∧Bx I S8 W (w.heap.size+1) _∧Bx I S8 W (w8.heap.size) _∧Mem C I E z S8 q8 W∧SB w.heap.size S w S8 W) ⟨(j.out.alloc _),(o.out.alloc _),(Bx.new ah.out _),(ah.out.alloc _),(aF.out.alloc _)⟩ ?_
 clear j o aF ah
 rintro w9 ⟨X0,X1,X2,m9,t9⟩
 have j:=zc X0
 have o:=zc X1
 have ao:=zc X2
 have aG:=zc m9
 have aA:=zc t9
 clear m9 t9 X0 X1 X2
 obtain⟨c0,c1,c2,c3,c4,c5,c6,c7,c8,c9,aK,aL,cf⟩:=ao.out.box
 go_wp2_with fail
 refine (zeq C I E z _ S8 q8 z8 0 ⟨1,n8,n8,sNone⟩ _ am.out.fst aG.out (zva am.out)).mono ?_
 rintro e aO ⟨aS,aP,aQ,rfl,au,aD,aa⟩
 replace j:=zc (j.out.stp aa)
 replace o:=zc (o.out.stp aa)
 replace ao:=zc (ao.out.stp aa)
 have aH:=zc (aA.out.step aa)
 clear aA
 have ax:=zc aD
 have ar:=zc au
 clear au aD aa aG
 clear c0 c1 c2 c3 c4 c5 c6 c7 c8 c9 aK aL cf
 obtain⟨b0,b1,b2,b3,b4,b5,b6,b7,b8,b9,aN,aR,bf⟩:=o.out.box
 unfold pv
 go_wp2
 refine bodyPost_ret (results_cell_row rfl _ _ (w.heap.size+1) 55 _ (0,0) _ rfl ((o.out.put ..)).heap Tryz.underlying55 rfl (by kernel_rfl)) rfl ?_
 rw[HV.out,←HQ.out,←am.out.bind (fun q n=>zm C ⟨1,n,n,sNone⟩ q)]
 exact zac rfl ar.out (ax.out.put o.out ..) (aH.out.put (by omega) ..)
theorem zvh (C:Cx) (K H z:Nat) (S:Sv) (q:PS) (w:World) (hm:Mem C K H z S q w) (hw:isT C q.pos 1 sExport=true) (h1:isT C (q.pos+1) 4 zF=false) (h2:isT C (q.pos+1) 4 zp=false) (h3:isT C (q.pos+1) 1 sDefault=false) (h4:isT C (q.pos+1) 1 sLet=false) (h5:isT C (q.pos+1) 1 sFunction=false):
  Calls Tryz.prog 49 #[pv C K H S q (-1) 0] w (Out C K H z (zV C q) 0 S w):=by
 have HM:=zc hm
 have I:=hm.few
 clear hm
 have HV:Hid (zV C q= .error (zu C (adv q).pos)):=by
  show _=_
  rw[zV,zd,if_pos hw,zh]
  rw[zz,h1,h2,h3,h4,h5]
  rfl
 unfold pv
 go_enter Tryz.func49,Tryz.ntmps49
 go_wp2_with fail
 refine (zaT C K H z (.ok q) S q (-1) 0 sExport _ (zab q) ((HM.out.alloc _).alloc _)).mono ?_
 rintro e w1 ⟨S1,q1,z1,rfl,i1,m1,s1⟩
 obtain⟨X0,X1,t1⟩:=HM.out.two2 s1
 have j:=zc X0
 have o:=zc X1
 have av:=zc m1
 have ax:=zc t1
 have au:=zc i1
 clear X0 X1 i1 m1 t1 s1
 obtain⟨ak,rfl⟩:=zdq au.out hw
 have HQ:=zc ak
 have N:Hid (q1.pos=q.pos+1):=by show q1.pos=q.pos+1;rw[ak];rfl
 clear ak au
 obtain⟨Q,Y,J,L,Z,M,X,a7,U,O,D,E,V⟩:=j.out.box
 unfold pv
 go_upto_region 2 with fail
 refine zQ (R:=fun W=>Bx K S1 W (w.heap.size) _∧Bx K S1 W (w.heap.size+1) _∧Mem C K H z S1 q1 W∧SB w.heap.size S w S1 W) ⟨(j.out.put ..),(o.out.other (by omega) ..),(av.out.put j.out ..),(ax.out.put (by omega) ..)⟩ ?_
 clear Q Y J L Z M X a7 U O D E V
 clear j o ax av
 rintro w2 ⟨X0,X1,m2,t2⟩
 have j:=zc X0
 have o:=zc X1
 have al:=zc m2
 have aq:=zc t2
 clear m2 t2 X0 X1
 obtain⟨Q,Y,J,L,Z,M,X,a7,U,O,D,E,V⟩:=j.out.box
 go_wp2_with fail
 refine (zj C K H z S1 q1 (-1) 0 4 zF _ al.out.tok I (by decide)).mono ?_
 rintro e w3 ⟨rfl,ag⟩
 rw[N.out,h1]
 replace j:=zc (j.out.below ag)
 replace o:=zc (o.out.below ag)
 have aw:=zc (aq.out.below ag)
 have an:=zc (al.out.later ag)
 clear ag aq al
 clear Q Y J L Z M X a7 U O D E V
 obtain⟨Q,Y,J,L,Z,M,X,a7,U,O,D,E,V⟩:=j.out.box
 go_wp2_with fail
 refine (zj C K H z S1 q1 (-1) 0 4 zp _ an.out.tok I (by decide)).mono ?_
 rintro e w4 ⟨rfl,ab⟩
 rw[N.out,h2]
 replace j:=zc (j.out.below ab)
 replace o:=zc (o.out.below ab)
 have ar:=zc (aw.out.below ab)
 have ah:=zc (an.out.later ab)
 clear ab aw an
 clear Q Y J L Z M X a7 U O D E V
 obtain⟨Q,Y,J,L,Z,M,X,a7,U,O,D,E,V⟩:=j.out.box
 go_wp2_with fail
 refine (zj C K H z S1 q1 (-1) 0 1 sDefault _ ah.out.tok I (by decide)).mono ?_
 rintro e w5 ⟨rfl,ae⟩
 rw[N.out,h3]
 replace j:=zc (j.out.below ae)
 replace o:=zc (o.out.below ae)
 have ay:=zc (ar.out.below ae)
 have am:=zc (ah.out.later ae)
 clear ae ar ah
 clear Q Y J L Z M X a7 U O D E V
 obtain⟨Q,Y,J,L,Z,M,X,a7,U,O,D,E,V⟩:=j.out.box
 go_wp2_with fail
 refine (zj C K H z S1 q1 (-1) 0 1 sLet _ am.out.tok I (by decide)).mono ?_
 rintro e w6 ⟨rfl,ad⟩
 rw[N.out,h4]
 replace j:=zc (j.out.below ad)
 replace o:=zc (o.out.below ad)
 have ao:=zc (ay.out.below ad)
 have aj:=zc (am.out.later ad)
 clear ad ay am
 clear Q Y J L Z M X a7 U O D E V
 obtain⟨Q,Y,J,L,Z,M,X,a7,U,O,D,E,V⟩:=j.out.box
 go_wp2_with fail
 refine (zj C K H z S1 q1 (-1) 0 1 sFunction _ aj.out.tok I (by decide)).mono ?_
 rintro e w7 ⟨rfl,ac⟩
 rw[N.out,h5]
 replace j:=zc (j.out.below ac)
 replace o:=zc (o.out.below ac)
 have ap:=zc (ao.out.below ac)
 have ai:=zc (aj.out.later ac)
 clear ac ao aj
 clear Q Y J L Z M X a7 U O D E V
 obtain⟨Q,Y,J,L,Z,M,X,a7,U,O,D,E,V⟩:=j.out.box
 clear N
 go_wp2_with fail
 refine (zd0 C K H z S1 q1 (-1) 0 _ ai.out.tok I).mono ?_
 rintro e w8 ⟨rfl,aa⟩
 replace j:=zc (j.out.below aa)
 replace o:=zc (o.out.below aa)
 have aA:=zc (ap.out.below aa)
 have az:=zc (ai.out.later aa)
 clear aa ap ai
 clear Q Y J L Z M X a7 U O D E V
 obtain⟨b0,b1,b2,b3,b4,b5,b6,b7,b8,b9,aB,aC,bf⟩:=o.out.box
 unfold pv
 go_wp2
 refine bodyPost_ret (results_cell_row rfl _ _ (w.heap.size+1) 55 _ (0,0) _ rfl ((o.out.put ..)).heap Tryz.underlying55 rfl (by kernel_rfl)) rfl ?_
 rw[HV.out,←HQ.out]
 exact zac rfl (show Is (.error (zu C q1.pos)) q1 _ from rfl) (az.out.put o.out ..) (aA.out.put (by omega) ..)
theorem zvi (C:Cx) (K H z:Nat) (S:Sv) (q:PS) (w:World) (hm:Mem C K H z S q w) (hw:isT C q.pos 1 sExport=true) (h1:isT C (q.pos+1) 4 zF=true):
  Calls Tryz.prog 49 #[pv C K H S q (-1) 0] w (Out C K H z (zV C q) 0 S w):=by
 have HM:=zc hm
 have aI:=hm.few
 clear hm
 have HV:Hid (zV C q=bd (zbB C true (adv q)) fun a=>if !za2 a.2&& !isT C a.1.pos 1 zH then bd (zd C 4 cSemi a.1) fun q=>zK (fun e=>zm C (zD e)) a.2 (.ok q) else bd (zaD C (zav C (.ok a.1))) fun b=>zK (fun e=>zm C (zaj b.2 e)) a.2 (.ok b.1)):=by
  show _=_
  rw[zV,zd,if_pos hw,zh]
  rw[zz,h1]
  rfl
 unfold pv
 go_enter Tryz.func49,Tryz.ntmps49
 go_wp2_with fail
 refine (zaT C K H z (.ok q) S q (-1) 0 sExport _ (zab q) ((HM.out.alloc _).alloc _)).mono ?_
 rintro e w1 ⟨S1,q1,z1,rfl,i1,m1,s1⟩
 obtain⟨Y,Z,t1⟩:=HM.out.two2 s1
 have o:=zc Y
 have D:=zc Z
 have bb:=zc m1
 have bj:=zc t1
 have aZ:=zc i1
 clear Y Z i1 m1 t1 s1
 obtain⟨aQ,rfl⟩:=zdq aZ.out hw
 have HQ:=zc aQ
 have aU:Hid (q1.pos=q.pos+1):=by show q1.pos=q.pos+1;rw[aQ];rfl
 clear aQ aZ
 obtain⟨a0,a1,a2,a3,a4,a5,a6,a7,a8,a9,N,O,af⟩:=o.out.box
 unfold pv
 go_upto_region 2 with fail
 refine zQ (R:=fun W=>Bx K S1 W (w.heap.size) _∧Bx K S1 W (w.heap.size+1) _∧Mem C K H z S1 q1 W∧SB w.heap.size S w S1 W) ⟨(o.out.put ..),(D.out.other (by omega) ..),(bb.out.put o.out ..),(bj.out.put (by omega) ..)⟩ ?_
 clear a0 a1 a2 a3 a4 a5 a6 a7 a8 a9 N O af
 clear o D bj bb
 rintro w2 ⟨Y,Z,m2,t2⟩
 have o:=zc Y
 have D:=zc Z
 have aR:=zc m2
 have aT:=zc t2
 clear m2 t2 Y Z
 have aP:Hid (zV C q=bd (zbB C true q1) fun a=>if !za2 a.2&& !isT C a.1.pos 1 zH then bd (zd C 4 cSemi a.1) fun q=>zK (fun e=>zm C (zD e)) a.2 (.ok q) else bd (zaD C (zav C (.ok a.1))) fun b=>zK (fun e=>zm C (zaj b.2 e)) a.2 (.ok b.1)):=by show _=_;rw[HQ.out];exact HV.out
 obtain⟨a0,a1,a2,a3,a4,a5,a6,a7,a8,a9,N,O,af⟩:=o.out.box
 go_wp2_with fail
 refine (zj C K H z S1 q1 (-1) 0 4 zF _ aR.out.tok aI (by decide)).mono ?_
 rintro e w3 ⟨rfl,aK⟩
 rw[aU.out,h1]
 replace o:=zc (o.out.below aK)
 replace D:=zc (D.out.below aK)
 have aS:=zc (aT.out.below aK)
 have bk:=zc (aR.out.later aK)
 clear aK aT aR
 clear a0 a1 a2 a3 a4 a5 a6 a7 a8 a9 N O af
 obtain⟨a0,a1,a2,a3,a4,a5,a6,a7,a8,a9,N,O,af⟩:=o.out.box
 clear aU
 have bl:=aS.out.size
 go_wp2_with fail
 refine (zm2 C K H z S1 q1 0 true _ bk.out).mono ?_
 rintro e w4 ⟨S4,q4,z4,⟨ra,rc⟩,l,rfl,i4,m4,s4,R0,hl⟩
 obtain⟨g,rfl⟩: ∃g,ra=some ⟨g,0,none⟩:=R0.addr
 replace o:=zc (o.out.stp s4)
 replace D:=zc (D.out.stp s4)
 have aV:=zc (aS.out.step s4)
 clear aS
 have aO:=zc m4
 have aC:=zc i4
 clear i4 m4 s4 bk
 clear a0 a1 a2 a3 a4 a5 a6 a7 a8 a9 N O af
 have I:Hid (Row S4 w4 z w.heap.size ⟨some ⟨g,0,none⟩,rc⟩ l):=⟨R0.own,R0.free,fun k hk=>Nat.le_trans bl (R0.new k hk),R0.addr⟩
 clear R0
 have bo:w.heap.size+1<w4.heap.size:=D.out.lt
 unfold pv
 go_upto_region 4 with fail
 refine zQ (R:=fun W=>Bx K S4 W (w.heap.size) _∧Bx K S4 W (w.heap.size+1) _∧Bx K S4 W (w4.heap.size) _∧Row S4 W z w.heap.size ⟨some ⟨g,0,none⟩,rc⟩ l∧Mem C K H z S4 q4 W∧SB w.heap.size S w S4 W) ⟨(o.out.alloc _),(D.out.alloc _),(Bx.new aO.out _),(I.out.alloc _),(aO.out.alloc _),(aV.out.alloc _)⟩ ?_
 clear o D aV aO
 clear I
 rintro w5 ⟨Y,Z,X2,R0,m5,t5⟩
 have I:=zc R0
 clear R0
 have o:=zc Y
 have D:=zc Z
 have E:=zc X2
 have az:=zc m5
 have aG:=zc t5
 clear m5 t5 Y Z X2
 cases hA:za2 l with
 |true=>
  skip
  obtain⟨c0,c1,c2,c3,c4,c5,c6,c7,c8,c9,al,an,cf⟩:=E.out.box
  go_wp2_with fail
  refine (zaT C K H z _ S4 q4 z4 0 zH _ aC.out.fst az.out).mono ?_
  rintro e w6 ⟨S6,q6,z6,rfl,i6,m6,s6⟩
  replace o:=zc (o.out.stp s6)
  replace D:=zc (D.out.stp s6)
  replace E:=zc (E.out.stp s6)
  have ao:=zc (aG.out.step s6)
  have M:Hid (Row S6 w6 z w.heap.size ⟨some ⟨g,0,none⟩,rc⟩ l):=I.out.stp s6
  clear I
  have I:=zc M
  clear M
  clear aG
  have ar:=zc m6
  have bm:=zc i6
  clear i6 m6 s6 az
  clear c0 c1 c2 c3 c4 c5 c6 c7 c8 c9 al an cf
  go_wp2_with fail
  refine (zeD C K H z _ S6 q6 z6 0 _ bm.out ar.out).mono ?_
  rintro e w7 ⟨S7,q7,z7,n7,rfl,i7,m7,s7⟩
  replace o:=zc (o.out.stp s7)
  replace D:=zc (D.out.stp s7)
  replace E:=zc (E.out.stp s7)
  have ap:=zc (ao.out.step s7)
  have M:Hid (Row S7 w7 z w.heap.size ⟨some ⟨g,0,none⟩,rc⟩ l):=I.out.stp s7
  clear I
  have I:=zc M
  clear M
  clear ao
  have aj:=zc m7
  have aF:=zc i7
  clear i7 m7 s7 ar
  have bi:w.heap.size+1<w7.heap.size:=D.out.lt
  have aL:w4.heap.size<w7.heap.size:=E.out.lt
  unfold pv
  go_upto_region 12 with fail
  refine zQ (R:=fun W=>Bx K S7 W (w.heap.size) _∧Bx K S7 W (w.heap.size+1) _∧Bx K S7 W (w4.heap.size) _∧Bx K S7 W (w7.heap.size) _∧Row S7 W z w.heap.size ⟨some ⟨g,0,none⟩,rc⟩ l∧Mem C K H z S7 q7 W∧SB w.heap.size S w S7 W) ⟨(o.out.alloc _),(D.out.alloc _),(E.out.alloc _),(Bx.new aj.out _),(I.out.alloc _),(aj.out.alloc _),(ap.out.alloc _)⟩ ?_
  clear o D E ap aj
  clear I
  rintro w8 ⟨Y,Z,X2,X3,R0,m8,t8⟩
  have I:=zc R0
  clear R0
  have o:=zc Y
  have D:=zc Z
  have E:=zc X2
  have aa:=zc X3
  have ai:=zc m8
  have aA:=zc t8
  clear m8 t8 Y Z X2 X3
  obtain⟨d0,d1,d2,d3,d4,d5,d6,d7,d8,d9,ak,am,df⟩:=aa.out.box
  go_wp2_with fail
  refine (zah C K H z _ S7 q7 z7 0 cSemi _ aF.out.fst ai.out).mono ?_
  rintro e w9 ⟨S9,q9,z9,rfl,i9,m9,s9⟩
  replace o:=zc (o.out.stp s9)
  replace D:=zc (D.out.stp s9)
  replace E:=zc (E.out.stp s9)
  replace aa:=zc (aa.out.stp s9)
  have ac:=zc (aA.out.step s9)
  have M:Hid (Row S9 w9 z w.heap.size ⟨some ⟨g,0,none⟩,rc⟩ l):=I.out.stp s9
  clear I
  have I:=zc M
  clear M
  clear aA
  have ae:=zc m9
  have ag:=zc i9
  clear i9 m9 s9 ai
  clear d0 d1 d2 d3 d4 d5 d6 d7 d8 d9 ak am df
  obtain⟨a0,a1,a2,a3,a4,a5,a6,a7,a8,a9,N,O,af⟩:=o.out.box
  unfold pv
  go_upto_region 13 with fail
  refine zQ (R:=fun W=>Bx K S9 W (w.heap.size) _∧Bx K S9 W (w.heap.size+1) _∧Bx K S9 W (w4.heap.size) _∧Bx K S9 W (w7.heap.size) _∧Row S9 W z w.heap.size ⟨some ⟨g,0,none⟩,rc⟩ l∧Mem C K H z S9 q9 W∧SB w.heap.size S w S9 W) ⟨(o.out.put ..),(D.out.other (by omega) ..),(E.out.other (by omega) ..),(aa.out.other (by omega) ..),(I.out.put o.out ..),(ae.out.put o.out ..),(ac.out.put (by omega) ..)⟩ ?_
  clear a0 a1 a2 a3 a4 a5 a6 a7 a8 a9 N O af
  clear o D E aa ac ae
  clear I
  rintro ay ⟨Y,Z,X2,X3,R0,ad,bc⟩
  have I:=zc R0
  clear R0
  have o:=zc Y
  have D:=zc Z
  have E:=zc X2
  have aa:=zc X3
  have X:=zc ad
  have aD:=zc bc
  clear ad bc Y Z X2 X3
  have aJ:Hid (_=zV C q):=(zjk (G:=fun b e=>zm C (zaj b e)) aC.out aF.out).trans ((zmJ aC.out (.inl hA)).trans aP.out.symm)
  go_wp2
  go_loopg [9] l.length (fun k i wr=>∃(j:Nat) (x':PR) (L:Sv) (q':PS) (z':Int),j≤l.length∧i= .int .i64 j∧Is x' q' z'∧(z'<0→1≤q'.pos)∧zK (fun e=>zm C (zaj n7 e)) (l.drop j) x'=zV C q∧l.length-j=k∧Mem C K H z L q' wr∧SB w.heap.size S w L wr∧Bx K L wr w.heap.size #[.slice (some ⟨K,0,none⟩) C.ts.length H,.int .i64 q'.pos,.int .i64 C.fin,.bool C.scr,.slice L.rq.a q'.rq.length L.rq.cap,.slice L.im.a q'.im.length L.im.cap,.slice L.ep.a q'.ep.length L.ep.cap,.slice L.st.a q'.st.length L.st.cap,.slice L.ex.a q'.ex.length L.ex.cap,.slice L.la.a q'.la.length L.la.cap,.int .i64 z',.int .i64 0]∧Bx K L wr (w.heap.size+1) #[.slice none 0 0,.int .i64 0,.int .i64 0,.bool false,.slice none 0 0,.slice none 0 0,.slice none 0 0,.slice none 0 0,.slice none 0 0,.slice none 0 0,.int .i64 0,.int .i64 0]∧Row L wr z w.heap.size ⟨some ⟨g,0,none⟩,rc⟩ l)
  case atStart=>exact⟨0,_,S9,q9,z9,Nat.zero_le _,rfl,ag.out,zb5 ag.out,aJ.out,rfl,X.out,aD.out,o.out,D.out,I.out⟩
  case round=>
   obtain⟨j,x9,S9,q9,z9,hj,rfl,i9,p9,e9,g9,m9,t9,Y,Z,R0⟩:=hrel
   clear o D E aa I X aD
   have o:=zc Y
   have D:=zc Z
   have ae:=zc m9
   have ac:=zc t9
   have ag:=zc i9
   have aq:=zc p9
   have ax:=zc e9
   have au:=zc g9
   have I:=zc R0
   clear Y Z i9 m9 t9 e9 g9 R0 p9
   by_cases av:j<l.length
   ·skip
    obtain⟨c1,c2⟩:=I.out.cells (g:=g) rfl av
    have aX:=I.out.own.lt (g:=g) rfl
    have HX:Hid (∀e,e=l[j]→zK (fun e=>zm C (zaj n7 e)) (l.drop (j+1)) (bd x9 (zm C (zaj n7 e)))=zV C q):=fun e he=>by rw[he,←ax.out];exact (zht (fun e=>zm C (zaj n7 e)) l x9 av).symm
    generalize aw:l[j]=el at c1 c2
    have aH:Hid (el=l[j]):=aw.symm
    clear aw
    obtain⟨a0,a1,a2,a3,a4,a5,a6,a7,a8,a9,N,O,af⟩:=o.out.box
    go_upto_region 16 with fail
    go_region_law (first|(go_simp;go_wp2_with (go_at_call 100;refine (zeq C K H z x9 S9 q9 z9 0 (zaj n7 el) _ ag.out ae.out.drew aq.out).mono ?_;rintro e ay ⟨U,aB,aE,rfl,ah,ad,Q⟩;obtain⟨d0,d1,d2,d3,d4,d5,d6,d7,d8,d9,ak,am,df⟩:=(o.out.stp Q.undrew).box;unfold pv)))
    all_goals
     clear a0 a1 a2 a3 a4 a5 a6 a7 a8 a9 N O af d0 d1 d2 d3 d4 d5 d6 d7 d8 d9 ak am df
     have V:=zc ah
     have X:=zc ad
     have J:Hid (Stp S9 wr U ay):=Q.undrew
     clear ah ad Q
     go_wp2
     go_roundg (gk-1)
     case rel=>exact⟨j+1,_,U,aB,aE,by omega,by go_num,V.out,zjl aq.out ag.out V.out,HX.out el aH.out,by have:=au.out;omega,X.out.put (o.out.stp J.out) _ _ _ _ _ _ _ _ _ _ _ _,(ac.out.step J.out).put (by omega) _ _ _ _ _ _ _ _ _ _ _ _,(o.out.stp J.out).put _ _ _ _ _ _ _ _ _ _ _ _,(D.out.stp J.out).other (by omega) _ _ _ _ _ _ _ _ _ _ _ _,(I.out.stp J.out).put (o.out.stp J.out) _ _ _ _ _ _ _ _ _ _ _ _⟩
     case measure=>have:=au.out;omega
   ·skip
    obtain⟨a0,a1,a2,a3,a4,a5,a6,a7,a8,a9,N,O,af⟩:=o.out.box
    obtain⟨b0,b1,b2,b3,b4,b5,b6,b7,b8,b9,aW,bg,bf⟩:=D.out.box
    go_wp2
    refine bodyPost_ret (results_cell_row rfl _ _ (w.heap.size+1) 55 _ (0,0) _ rfl ((D.out.put ..)).heap Tryz.underlying55 rfl (by kernel_rfl)) rfl ?_
    exact zac rfl (show Is (zV C q) q9 z9 from by rw[←ax.out,List.drop_eq_nil_of_le (by omega)];exact ag.out) (ae.out.put D.out ..) (ac.out.put (by omega) ..)
 |false=>
  cases hF:(decide (z4<0)&&isT C q4.pos 1 zH) with
  |true=>
   obtain⟨c0,c1,c2,c3,c4,c5,c6,c7,c8,c9,al,an,cf⟩:=E.out.box
   go_wp2_with fail
   refine (zj C K H z S4 q4 z4 0 1 zH _ az.out.tok aI (by decide)).mono ?_
   rintro e w6 ⟨rfl,ab⟩
   rw[hF]
   replace o:=zc (o.out.below ab)
   replace D:=zc (D.out.below ab)
   replace E:=zc (E.out.below ab)
   have ao:=zc (aG.out.below ab)
   have ar:=zc (az.out.later ab)
   have M:Hid (Row S4 w6 z w.heap.size ⟨some ⟨g,0,none⟩,rc⟩ l):=I.out.below ab
   clear I
   have I:=zc M
   clear M
   clear ab aG az
   clear c0 c1 c2 c3 c4 c5 c6 c7 c8 c9 al an cf
   obtain⟨c0,c1,c2,c3,c4,c5,c6,c7,c8,c9,al,an,cf⟩:=E.out.box
   go_wp2_with fail
   refine (zaT C K H z _ S4 q4 z4 0 zH _ aC.out.fst ar.out).mono ?_
   rintro e w7 ⟨S7,q7,z7,rfl,i7,m7,s7⟩
   replace o:=zc (o.out.stp s7)
   replace D:=zc (D.out.stp s7)
   replace E:=zc (E.out.stp s7)
   have ap:=zc (ao.out.step s7)
   have M:Hid (Row S7 w7 z w.heap.size ⟨some ⟨g,0,none⟩,rc⟩ l):=I.out.stp s7
   clear I
   have I:=zc M
   clear M
   clear ao
   have aj:=zc m7
   have aF:=zc i7
   clear i7 m7 s7 ar
   clear c0 c1 c2 c3 c4 c5 c6 c7 c8 c9 al an cf
   go_wp2_with fail
   refine (zeD C K H z _ S7 q7 z7 0 _ aF.out aj.out).mono ?_
   rintro e w8 ⟨S8,q8,z8,n8,rfl,i8,m8,s8⟩
   replace o:=zc (o.out.stp s8)
   replace D:=zc (D.out.stp s8)
   replace E:=zc (E.out.stp s8)
   have aA:=zc (ap.out.step s8)
   have M:Hid (Row S8 w8 z w.heap.size ⟨some ⟨g,0,none⟩,rc⟩ l):=I.out.stp s8
   clear I
   have I:=zc M
   clear M
   clear ap
   have ai:=zc m8
   have aY:=zc i8
   clear i8 m8 s8 aj
   have bi:w.heap.size+1<w8.heap.size:=D.out.lt
   have aL:w4.heap.size<w8.heap.size:=E.out.lt
   unfold pv
   go_upto_region 12 with fail
   refine zQ (R:=fun W=>Bx K S8 W (w.heap.size) _∧Bx K S8 W (w.heap.size+1) _∧Bx K S8 W (w4.heap.size) _∧Bx K S8 W (w8.heap.size) _∧Row S8 W z w.heap.size ⟨some ⟨g,0,none⟩,rc⟩ l∧Mem C K H z S8 q8 W∧SB w.heap.size S w S8 W) ⟨(o.out.alloc _),(D.out.alloc _),(E.out.alloc _),(Bx.new ai.out _),(I.out.alloc _),(ai.out.alloc _),(aA.out.alloc _)⟩ ?_
   clear o D E aA ai
   clear I
   rintro w9 ⟨Y,Z,X2,X3,R0,m9,t9⟩
   have I:=zc R0
   clear R0
   have o:=zc Y
   have D:=zc Z
   have E:=zc X2
   have aa:=zc X3
   have ae:=zc m9
   have ac:=zc t9
   clear m9 t9 Y Z X2 X3
   obtain⟨d0,d1,d2,d3,d4,d5,d6,d7,d8,d9,ak,am,df⟩:=aa.out.box
   go_wp2_with fail
   refine (zah C K H z _ S8 q8 z8 0 cSemi _ aY.out.fst ae.out).mono ?_
   rintro e ay ⟨U,aB,aE,rfl,ah,ad,Q⟩
   replace o:=zc (o.out.stp Q)
   replace D:=zc (D.out.stp Q)
   replace E:=zc (E.out.stp Q)
   replace aa:=zc (aa.out.stp Q)
   have aD:=zc (ac.out.step Q)
   have M:Hid (Row U ay z w.heap.size ⟨some ⟨g,0,none⟩,rc⟩ l):=I.out.stp Q
   clear I
   have I:=zc M
   clear M
   clear ac
   have X:=zc ad
   have V:=zc ah
   clear ah ad Q ae
   clear d0 d1 d2 d3 d4 d5 d6 d7 d8 d9 ak am df
   obtain⟨a0,a1,a2,a3,a4,a5,a6,a7,a8,a9,N,O,af⟩:=o.out.box
   unfold pv
   go_upto_region 13 with fail
   refine zQ (R:=fun W=>Bx K U W (w.heap.size) _∧Bx K U W (w.heap.size+1) _∧Bx K U W (w4.heap.size) _∧Bx K U W (w8.heap.size) _∧Row U W z w.heap.size ⟨some ⟨g,0,none⟩,rc⟩ l∧Mem C K H z U aB W∧SB w.heap.size S w U W) ⟨(o.out.put ..),(D.out.other (by omega) ..),(E.out.other (by omega) ..),(aa.out.other (by omega) ..),(I.out.put o.out ..),(X.out.put o.out ..),(aD.out.put (by omega) ..)⟩ ?_
   clear a0 a1 a2 a3 a4 a5 a6 a7 a8 a9 N O af
   clear o D E aa aD X
   clear I
   rintro bp ⟨Y,Z,X2,X3,R0,be,ba⟩
   have I:=zc R0
   clear R0
   have o:=zc Y
   have D:=zc Z
   have E:=zc X2
   have aa:=zc X3
   have aM:=zc be
   have aN:=zc ba
   clear be ba Y Z X2 X3
   have aJ:Hid (_=zV C q):=(zjk (G:=fun b e=>zm C (zaj b e)) aC.out aY.out).trans ((zmJ aC.out (.inr hF)).trans aP.out.symm)
   go_wp2
   go_loopg [9] l.length (fun k i wr=>∃(j:Nat) (x':PR) (L:Sv) (q':PS) (z':Int),j≤l.length∧i= .int .i64 j∧Is x' q' z'∧(z'<0→1≤q'.pos)∧zK (fun e=>zm C (zaj n8 e)) (l.drop j) x'=zV C q∧l.length-j=k∧Mem C K H z L q' wr∧SB w.heap.size S w L wr∧Bx K L wr w.heap.size #[.slice (some ⟨K,0,none⟩) C.ts.length H,.int .i64 q'.pos,.int .i64 C.fin,.bool C.scr,.slice L.rq.a q'.rq.length L.rq.cap,.slice L.im.a q'.im.length L.im.cap,.slice L.ep.a q'.ep.length L.ep.cap,.slice L.st.a q'.st.length L.st.cap,.slice L.ex.a q'.ex.length L.ex.cap,.slice L.la.a q'.la.length L.la.cap,.int .i64 z',.int .i64 0]∧Bx K L wr (w.heap.size+1) #[.slice none 0 0,.int .i64 0,.int .i64 0,.bool false,.slice none 0 0,.slice none 0 0,.slice none 0 0,.slice none 0 0,.slice none 0 0,.slice none 0 0,.int .i64 0,.int .i64 0]∧Row L wr z w.heap.size ⟨some ⟨g,0,none⟩,rc⟩ l)
   case atStart=>exact⟨0,_,U,aB,aE,Nat.zero_le _,rfl,V.out,zb5 V.out,aJ.out,rfl,aM.out,aN.out,o.out,D.out,I.out⟩
   case round=>
    obtain⟨j,x9,S9,q9,z9,hj,rfl,i9,p9,e9,g9,m9,t9,Y,Z,R0⟩:=hrel
    clear o D E aa I aM aN
    have o:=zc Y
    have D:=zc Z
    have ae:=zc m9
    have ac:=zc t9
    have ag:=zc i9
    have aq:=zc p9
    have ax:=zc e9
    have au:=zc g9
    have I:=zc R0
    clear Y Z i9 m9 t9 e9 g9 R0 p9
    by_cases av:j<l.length
    ·skip
     obtain⟨c1,c2⟩:=I.out.cells (g:=g) rfl av
     have aX:=I.out.own.lt (g:=g) rfl
     have HX:Hid (∀e,e=l[j]→zK (fun e=>zm C (zaj n8 e)) (l.drop (j+1)) (bd x9 (zm C (zaj n8 e)))=zV C q):=fun e he=>by rw[he,←ax.out];exact (zht (fun e=>zm C (zaj n8 e)) l x9 av).symm
     generalize aw:l[j]=el at c1 c2
     have aH:Hid (el=l[j]):=aw.symm
     clear aw
     obtain⟨a0,a1,a2,a3,a4,a5,a6,a7,a8,a9,N,O,af⟩:=o.out.box
     go_upto_region 16 with fail
     go_region_law (first|(go_simp;go_wp2_with (go_at_call 100;refine (zeq C K H z x9 S9 q9 z9 0 (zaj n8 el) _ ag.out ae.out.drew aq.out).mono ?_;rintro e ay ⟨U,aB,aE,rfl,ah,ad,Q⟩;obtain⟨d0,d1,d2,d3,d4,d5,d6,d7,d8,d9,ak,am,df⟩:=(o.out.stp Q.undrew).box;unfold pv)))
     all_goals
      clear a0 a1 a2 a3 a4 a5 a6 a7 a8 a9 N O af d0 d1 d2 d3 d4 d5 d6 d7 d8 d9 ak am df
      have V:=zc ah
      have X:=zc ad
      have J:Hid (Stp S9 wr U ay):=Q.undrew
      clear ah ad Q
      go_wp2
      go_roundg (gk-1)
      case rel=>exact⟨j+1,_,U,aB,aE,by omega,by go_num,V.out,zjl aq.out ag.out V.out,HX.out el aH.out,by have:=au.out;omega,X.out.put (o.out.stp J.out) _ _ _ _ _ _ _ _ _ _ _ _,(ac.out.step J.out).put (by omega) _ _ _ _ _ _ _ _ _ _ _ _,(o.out.stp J.out).put _ _ _ _ _ _ _ _ _ _ _ _,(D.out.stp J.out).other (by omega) _ _ _ _ _ _ _ _ _ _ _ _,(I.out.stp J.out).put (o.out.stp J.out) _ _ _ _ _ _ _ _ _ _ _ _⟩
      case measure=>have:=au.out;omega
    ·skip
     obtain⟨a0,a1,a2,a3,a4,a5,a6,a7,a8,a9,N,O,af⟩:=o.out.box
     obtain⟨b0,b1,b2,b3,b4,b5,b6,b7,b8,b9,aW,bg,bf⟩:=D.out.box
     go_wp2
     refine bodyPost_ret (results_cell_row rfl _ _ (w.heap.size+1) 55 _ (0,0) _ rfl ((D.out.put ..)).heap Tryz.underlying55 rfl (by kernel_rfl)) rfl ?_
     exact zac rfl (show Is (zV C q) q9 z9 from by rw[←ax.out,List.drop_eq_nil_of_le (by omega)];exact ag.out) (ae.out.put D.out ..) (ac.out.put (by omega) ..)
  |false=>
   obtain⟨c0,c1,c2,c3,c4,c5,c6,c7,c8,c9,al,an,cf⟩:=E.out.box
   go_wp2_with fail
   refine (zj C K H z S4 q4 z4 0 1 zH _ az.out.tok aI (by decide)).mono ?_
   rintro e w6 ⟨rfl,ab⟩
   rw[hF]
   replace o:=zc (o.out.below ab)
   replace D:=zc (D.out.below ab)
   replace E:=zc (E.out.below ab)
   have ao:=zc (aG.out.below ab)
   have ar:=zc (az.out.later ab)
   have M:Hid (Row S4 w6 z w.heap.size ⟨some ⟨g,0,none⟩,rc⟩ l):=I.out.below ab
   clear I
   have I:=zc M
   clear M
   clear ab aG az
   clear c0 c1 c2 c3 c4 c5 c6 c7 c8 c9 al an cf
   obtain⟨c0,c1,c2,c3,c4,c5,c6,c7,c8,c9,al,an,cf⟩:=E.out.box
   go_wp2_with fail
   refine (zah C K H z _ S4 q4 z4 0 cSemi _ aC.out.fst ar.out).mono ?_
   rintro e w7 ⟨S7,q7,z7,rfl,i7,m7,s7⟩
   replace o:=zc (o.out.stp s7)
   replace D:=zc (D.out.stp s7)
   replace E:=zc (E.out.stp s7)
   have ap:=zc (ao.out.step s7)
   have M:Hid (Row S7 w7 z w.heap.size ⟨some ⟨g,0,none⟩,rc⟩ l):=I.out.stp s7
   clear I
   have I:=zc M
   clear M
   clear ao
   have aj:=zc m7
   have aF:=zc i7
   clear i7 m7 s7 ar
   clear c0 c1 c2 c3 c4 c5 c6 c7 c8 c9 al an cf
   obtain⟨a0,a1,a2,a3,a4,a5,a6,a7,a8,a9,N,O,af⟩:=o.out.box
   unfold pv
   go_upto_region 6 with fail
   refine zQ (R:=fun W=>Bx K S7 W (w.heap.size) _∧Bx K S7 W (w.heap.size+1) _∧Bx K S7 W (w4.heap.size) _∧Row S7 W z w.heap.size ⟨some ⟨g,0,none⟩,rc⟩ l∧Mem C K H z S7 q7 W∧SB w.heap.size S w S7 W) ⟨(o.out.put ..),(D.out.other (by omega) ..),(E.out.other (by omega) ..),(I.out.put o.out ..),(aj.out.put o.out ..),(ap.out.put (by omega) ..)⟩ ?_
   clear a0 a1 a2 a3 a4 a5 a6 a7 a8 a9 N O af
   clear o D E ap aj
   clear I
   rintro w8 ⟨Y,Z,X2,R0,m8,t8⟩
   have I:=zc R0
   clear R0
   have o:=zc Y
   have D:=zc Z
   have E:=zc X2
   have ai:=zc m8
   have aA:=zc t8
   clear m8 t8 Y Z X2
   have aJ:Hid (_=zV C q):=(zvc aC.out hA hF).trans aP.out.symm
   go_wp2
   go_loopg [6] l.length (fun k i wr=>∃(j:Nat) (x':PR) (L:Sv) (q':PS) (z':Int),j≤l.length∧i= .int .i64 j∧Is x' q' z'∧(z'<0→1≤q'.pos)∧zK (fun e=>zm C (zD e)) (l.drop j) x'=zV C q∧l.length-j=k∧Mem C K H z L q' wr∧SB w.heap.size S w L wr∧Bx K L wr w.heap.size #[.slice (some ⟨K,0,none⟩) C.ts.length H,.int .i64 q'.pos,.int .i64 C.fin,.bool C.scr,.slice L.rq.a q'.rq.length L.rq.cap,.slice L.im.a q'.im.length L.im.cap,.slice L.ep.a q'.ep.length L.ep.cap,.slice L.st.a q'.st.length L.st.cap,.slice L.ex.a q'.ex.length L.ex.cap,.slice L.la.a q'.la.length L.la.cap,.int .i64 z',.int .i64 0]∧Bx K L wr (w.heap.size+1) #[.slice none 0 0,.int .i64 0,.int .i64 0,.bool false,.slice none 0 0,.slice none 0 0,.slice none 0 0,.slice none 0 0,.slice none 0 0,.slice none 0 0,.int .i64 0,.int .i64 0]∧Row L wr z w.heap.size ⟨some ⟨g,0,none⟩,rc⟩ l)
   case atStart=>exact⟨0,_,S7,q7,z7,Nat.zero_le _,rfl,aF.out,zb5 aF.out,aJ.out,rfl,ai.out,aA.out,o.out,D.out,I.out⟩
   case round=>
    obtain⟨j,x9,S9,q9,z9,hj,rfl,i9,p9,e9,g9,m9,t9,Y,Z,R0⟩:=hrel
    clear o D E I ai aA
    have o:=zc Y
    have D:=zc Z
    have ae:=zc m9
    have ac:=zc t9
    have ag:=zc i9
    have aq:=zc p9
    have ax:=zc e9
    have au:=zc g9
    have I:=zc R0
    clear Y Z i9 m9 t9 e9 g9 R0 p9
    by_cases av:j<l.length
    ·skip
     obtain⟨c1,c2⟩:=I.out.cells (g:=g) rfl av
     have aX:=I.out.own.lt (g:=g) rfl
     have HX:Hid (∀e,e=l[j]→zK (fun e=>zm C (zD e)) (l.drop (j+1)) (bd x9 (zm C (zD e)))=zV C q):=fun e he=>by rw[he,←ax.out];exact (zht (fun e=>zm C (zD e)) l x9 av).symm
     generalize aw:l[j]=el at c1 c2
     have aH:Hid (el=l[j]):=aw.symm
     clear aw
     obtain⟨a0,a1,a2,a3,a4,a5,a6,a7,a8,a9,N,O,af⟩:=o.out.box
     go_upto_region 9 with fail
     go_region_law (first|(go_simp;go_wp2_with (go_at_call 100;refine (zeq C K H z x9 S9 q9 z9 0 (zD el) _ ag.out ae.out.drew aq.out).mono ?_;rintro e ay ⟨U,aB,aE,rfl,ah,ad,Q⟩;obtain⟨d0,d1,d2,d3,d4,d5,d6,d7,d8,d9,ak,am,df⟩:=(o.out.stp Q.undrew).box;unfold pv)))
     all_goals
      clear a0 a1 a2 a3 a4 a5 a6 a7 a8 a9 N O af d0 d1 d2 d3 d4 d5 d6 d7 d8 d9 ak am df
      have V:=zc ah
      have X:=zc ad
      have J:Hid (Stp S9 wr U ay):=Q.undrew
      clear ah ad Q
      go_wp2
      go_roundg (gk-1)
      case rel=>exact⟨j+1,_,U,aB,aE,by omega,by go_num,V.out,zjl aq.out ag.out V.out,HX.out el aH.out,by have:=au.out;omega,X.out.put (o.out.stp J.out) _ _ _ _ _ _ _ _ _ _ _ _,(ac.out.step J.out).put (by omega) _ _ _ _ _ _ _ _ _ _ _ _,(o.out.stp J.out).put _ _ _ _ _ _ _ _ _ _ _ _,(D.out.stp J.out).other (by omega) _ _ _ _ _ _ _ _ _ _ _ _,(I.out.stp J.out).put (o.out.stp J.out) _ _ _ _ _ _ _ _ _ _ _ _⟩
      case measure=>have:=au.out;omega
    ·skip
     obtain⟨a0,a1,a2,a3,a4,a5,a6,a7,a8,a9,N,O,af⟩:=o.out.box
     obtain⟨b0,b1,b2,b3,b4,b5,b6,b7,b8,b9,aW,bg,bf⟩:=D.out.box
     go_wp2
     refine bodyPost_ret (results_cell_row rfl _ _ (w.heap.size+1) 55 _ (0,0) _ rfl ((D.out.put ..)).heap Tryz.underlying55 rfl (by kernel_rfl)) rfl ?_
     exact zac rfl (show Is (zV C q) q9 z9 from by rw[←ax.out,List.drop_eq_nil_of_le (by omega)];exact ag.out) (ae.out.put D.out ..) (ac.out.put (by omega) ..)
theorem zvj (C:Cx) (z o j:Nat) (S:Sv) (q:PS) (w:World) (E:Mem C z o j S q w) (D:isT C q.pos 1 sImport=true):
  Calls Tryz.prog 48 #[pv C z o S q (-1) 0] w (Out C z o j (za3 C q) 0 S w):=by
 cases H:isT C (q.pos+1) 4 zF with
 |true=>exact zuX C z o j S q w E D H
 |false=>
  cases I:isT C (q.pos+1) 4 zp with
  |true=>exact zuU C z o j S q w E D H I
  |false=>
   cases J:plainB C (q.pos+1) false with
   |true=>exact zuV C z o j S q w E D H I J
   |false=>exact zuW C z o j S q w E D H I J
theorem zvk (C:Cx) (z o j:Nat) (S:Sv) (q:PS) (w:World) (E:Mem C z o j S q w) (D:isT C q.pos 1 sExport=true):
  Calls Tryz.prog 49 #[pv C z o S q (-1) 0] w (Out C z o j (zV C q) 0 S w):=by
 cases H:isT C (q.pos+1) 4 zF with
 |true=>exact zvi C z o j S q w E D H
 |false=>
  cases I:isT C (q.pos+1) 4 zp with
  |true=>exact zvd C z o j S q w E D H I
  |false=>
   cases J:isT C (q.pos+1) 1 sDefault with
   |true=>exact zve C z o j S q w E D H I J
   |false=>
    cases K:isT C (q.pos+1) 1 sLet with
    |true=>exact zvf C z o j S q w E D H I J K
    |false=>
     cases L:isT C (q.pos+1) 1 sFunction with
     |true=>exact zvg C z o j S q w E D H I J K L
     |false=>exact zvh C z o j S q w E D H I J K L
theorem zmK {C:Cx} {x:PR} {n:ByteArray}:bd (bd (bd (bd x (zd C 4 cEq)) (pE C .sum 0)) (zd C 4 cSemi)) (zE C 3 n)=bd x fun q=>bd (bd (bd (bd (.ok q) (zd C 4 cEq)) (pE C .sum 0)) (zd C 4 cSemi)) (zE C 3 n):=by cases x<;>rfl
theorem zvl (H:List Tk) (j:Nat) (I D z:Nat) (S:Sv) (q:PS) (w:World) (Z:Mem (Cx.mk H j true) I D z S q w) (h0:isT (Cx.mk H j true) q.pos 1 sLet=true):
  Calls Tryz.prog 21 #[pv (Cx.mk H j true) I D S q (-1) 0] w (Out (Cx.mk H j true) I D z (zo (Cx.mk H j true) q) 0 S w):=by
 have HM:=zc Z
 have J:=Z.tok
 have Q:(Cx.mk H j true).ts.length≤4000:=Z.few
 clear Z
 have HV:Hid (zo (Cx.mk H j true) q=za7 (zbA (Cx.mk H j true) q)):=by show zo (Cx.mk H j true) q=_;rw[zo,h0];rfl
 unfold pv
 go_enter Tryz.func21,Tryz.ntmps21
 go_wp2_with fail
 refine (zj (Cx.mk H j true) I D z S q (-1) 0 1 sLet _ (zv (zv J _) _) Q (by decide)).mono ?_
 rintro e w1 ⟨rfl,U⟩
 rw[h0]
 obtain⟨L,N,m1,t1⟩:=HM.out.two U
 have E:=zc L
 have o:=zc N
 have O:=zc m1
 have V:=zc t1
 clear L N m1 t1 U
 clear J
 obtain⟨a0,a1,a2,a3,a4,a5,a6,a7,a8,a9,aa,ae,af⟩:=E.out.box
 go_wp2_with fail
 refine (zji (Cx.mk H j true) I D z S q _ O.out).mono ?_
 rintro e w2 ⟨X,q2,z2,n2,rfl,i2,m2,Y⟩
 replace E:=zc (E.out.stp Y)
 replace o:=zc (o.out.stp Y)
 have M:=zc (V.out.step Y)
 clear V
 have K:=zc m2
 have ab:=zc i2
 clear i2 m2 Y O
 clear a0 a1 a2 a3 a4 a5 a6 a7 a8 a9 aa ae af
 have ah:w.heap.size+1<w2.heap.size:=o.out.lt
 unfold pv
 go_upto_region 7 with fail
 refine zQ (R:=fun W=>Bx I X W (w.heap.size) _∧Bx I X W (w.heap.size+1) _∧Bx I X W (w2.heap.size) _∧Mem (Cx.mk H j true) I D z X q2 W∧SB w.heap.size S w X W) ⟨(E.out.alloc _),(o.out.alloc _),(Bx.new K.out _),(K.out.alloc _),(M.out.alloc _)⟩ ?_
 clear E o M K
 rintro w3 ⟨L,N,X2,m3,t3⟩
 have E:=zc L
 have o:=zc N
 have ac:=zc X2
 have ag:=zc m3
 have ad:=zc t3
 clear m3 t3 L N X2
 obtain⟨b0,b1,b2,b3,b4,b5,b6,b7,b8,b9,ai,al,bf⟩:=o.out.box
 obtain⟨c0,c1,c2,c3,c4,c5,c6,c7,c8,c9,aj,ak,cf⟩:=ac.out.box
 go_wp2
 refine bodyPost_ret (results_cell_row rfl _ _ (w.heap.size+1) 55 _ (0,0) _ rfl ((o.out.put ..)).heap Tryz.underlying55 rfl (by kernel_rfl)) rfl ?_
 rw[HV.out]
 exact zac rfl ab.out.fst (ag.out.put o.out ..) (ad.out.put (by omega) ..)
theorem zvm (H:List Tk) (j:Nat) (J E z:Nat) (S:Sv) (q:PS) (w:World) (hm:Mem (Cx.mk H j true) J E z S q w) (h0:isT (Cx.mk H j true) q.pos 1 sLet=false) (h1:isT (Cx.mk H j true) q.pos 1 sFunction=true):
  Calls Tryz.prog 21 #[pv (Cx.mk H j true) J E S q (-1) 0] w (Out (Cx.mk H j true) J E z (zo (Cx.mk H j true) q) 0 S w):=by
 have HM:=zc hm
 have L:=hm.tok
 have K:(Cx.mk H j true).ts.length≤4000:=hm.few
 clear hm
 have HV:Hid (zo (Cx.mk H j true) q=za7 (fnP (Cx.mk H j true) q)):=by show zo (Cx.mk H j true) q=_;rw[zo,h0,h1];rfl
 unfold pv
 go_enter Tryz.func21,Tryz.ntmps21
 go_wp2_with fail
 refine (zj (Cx.mk H j true) J E z S q (-1) 0 1 sLet _ (zv (zv L _) _) K (by decide)).mono ?_
 rintro e w1 ⟨rfl,ab⟩
 rw[h0]
 obtain⟨U,Z,m1,t1⟩:=HM.out.two ab
 have D:=zc U
 have o:=zc Z
 have N:=zc m1
 have ac:=zc t1
 clear U Z m1 t1 ab
 clear L
 obtain⟨a0,a1,a2,a3,a4,a5,a6,a7,a8,a9,M,O,af⟩:=D.out.box
 go_wp2_with fail
 refine (zj (Cx.mk H j true) J E z S q (-1) 0 1 sFunction _ N.out.tok K (by decide)).mono ?_
 rintro e w2 ⟨rfl,I⟩
 rw[h1]
 replace D:=zc (D.out.below I)
 replace o:=zc (o.out.below I)
 have V:=zc (ac.out.below I)
 have Y:=zc (N.out.later I)
 clear I ac N
 clear a0 a1 a2 a3 a4 a5 a6 a7 a8 a9 M O af
 obtain⟨a0,a1,a2,a3,a4,a5,a6,a7,a8,a9,M,O,af⟩:=D.out.box
 go_wp2_with fail
 refine (zjj (Cx.mk H j true) J E z S q _ Y.out).mono ?_
 rintro e w3 ⟨X,q3,z3,n3,rfl,i3,m3,s3⟩
 replace D:=zc (D.out.stp s3)
 replace o:=zc (o.out.stp s3)
 have aa:=zc (V.out.step s3)
 clear V
 have Q:=zc m3
 have ad:=zc i3
 clear i3 m3 s3 Y
 clear a0 a1 a2 a3 a4 a5 a6 a7 a8 a9 M O af
 have ai:w.heap.size+1<w3.heap.size:=o.out.lt
 unfold pv
 go_upto_region 10 with fail
 refine zQ (R:=fun W=>Bx J X W (w.heap.size) _∧Bx J X W (w.heap.size+1) _∧Bx J X W (w3.heap.size) _∧Mem (Cx.mk H j true) J E z X q3 W∧SB w.heap.size S w X W) ⟨(D.out.alloc _),(o.out.alloc _),(Bx.new Q.out _),(Q.out.alloc _),(aa.out.alloc _)⟩ ?_
 clear D o aa Q
 rintro w4 ⟨U,Z,X2,m4,t4⟩
 have D:=zc U
 have o:=zc Z
 have ah:=zc X2
 have ae:=zc m4
 have ag:=zc t4
 clear m4 t4 U Z X2
 obtain⟨b0,b1,b2,b3,b4,b5,b6,b7,b8,b9,aj,am,bf⟩:=o.out.box
 obtain⟨c0,c1,c2,c3,c4,c5,c6,c7,c8,c9,ak,al,cf⟩:=ah.out.box
 go_wp2
 refine bodyPost_ret (results_cell_row rfl _ _ (w.heap.size+1) 55 _ (0,0) _ rfl ((o.out.put ..)).heap Tryz.underlying55 rfl (by kernel_rfl)) rfl ?_
 rw[HV.out]
 exact zac rfl ad.out.fst (ae.out.put o.out ..) (ag.out.put (by omega) ..)
theorem zvn (H:List Tk) (j:Nat) (I E D:Nat) (S:Sv) (q:PS) (w:World) (hm:Mem (Cx.mk H j true) I E D S q w) (h0:isT (Cx.mk H j true) q.pos 1 sLet=false) (h1:isT (Cx.mk H j true) q.pos 1 sFunction=false) (h2:isT (Cx.mk H j true) q.pos 1 sPrint=true):
  Calls Tryz.prog 21 #[pv (Cx.mk H j true) I E S q (-1) 0] w (Out (Cx.mk H j true) I E D (zo (Cx.mk H j true) q) 0 S w):=by
 have HM:=zc hm
 have U:=hm.tok
 have O:(Cx.mk H j true).ts.length≤4000:=hm.few
 clear hm
 have HV:Hid (zo (Cx.mk H j true) q=bd (bd (bd (bd (bd (bd (.ok q) (zd (Cx.mk H j true) 1 sPrint)) (zd (Cx.mk H j true) 4 cOpen)) (pE (Cx.mk H j true) .sum 0)) (zd (Cx.mk H j true) 4 zU)) (zd (Cx.mk H j true) 4 cSemi)) (zE (Cx.mk H j true) 4 sNone)):=by show zo (Cx.mk H j true) q=_;rw[zo,h0,h1,h2];rfl
 unfold pv
 go_enter Tryz.func21,Tryz.ntmps21
 go_wp2_with fail
 refine (zj (Cx.mk H j true) I E D S q (-1) 0 1 sLet _ (zv (zv U _) _) O (by decide)).mono ?_
 rintro e w1 ⟨rfl,av⟩
 rw[h0]
 obtain⟨X0,X1,m1,t1⟩:=HM.out.two av
 have z:=zc X0
 have o:=zc X1
 have Y:=zc m1
 have aw:=zc t1
 clear X0 X1 m1 t1 av
 clear U
 obtain⟨a0,a1,a2,a3,a4,a5,a6,a7,a8,a9,J,N,af⟩:=z.out.box
 go_wp2_with fail
 refine (zj (Cx.mk H j true) I E D S q (-1) 0 1 sFunction _ Y.out.tok O (by decide)).mono ?_
 rintro e w2 ⟨rfl,L⟩
 rw[h1]
 replace z:=zc (z.out.below L)
 replace o:=zc (o.out.below L)
 have ag:=zc (aw.out.below L)
 have X:=zc (Y.out.later L)
 clear L aw Y
 clear a0 a1 a2 a3 a4 a5 a6 a7 a8 a9 J N af
 obtain⟨a0,a1,a2,a3,a4,a5,a6,a7,a8,a9,J,N,af⟩:=z.out.box
 go_wp2_with fail
 refine (zj (Cx.mk H j true) I E D S q (-1) 0 1 sPrint _ X.out.tok O (by decide)).mono ?_
 rintro e w3 ⟨rfl,Q⟩
 rw[h2]
 replace z:=zc (z.out.below Q)
 replace o:=zc (o.out.below Q)
 have ao:=zc (ag.out.below Q)
 have ay:=zc (X.out.later Q)
 clear Q ag X
 clear a0 a1 a2 a3 a4 a5 a6 a7 a8 a9 J N af
 obtain⟨a0,a1,a2,a3,a4,a5,a6,a7,a8,a9,J,N,af⟩:=z.out.box
 go_wp2_with fail
 refine (zaT (Cx.mk H j true) I E D (.ok q) S q (-1) 0 sPrint _ (zab q) ay.out).mono ?_
 rintro e w4 ⟨S4,q4,z4,rfl,i4,m4,s4⟩
 replace z:=zc (z.out.stp s4)
 replace o:=zc (o.out.stp s4)
 have aj:=zc (ao.out.step s4)
 clear ao
 have ai:=zc m4
 have aC:=zc i4
 clear i4 m4 s4 ay
 clear a0 a1 a2 a3 a4 a5 a6 a7 a8 a9 J N af
 go_wp2_with fail
 refine (zah (Cx.mk H j true) I E D _ S4 q4 z4 0 cOpen _ aC.out ai.out).mono ?_
 rintro e w5 ⟨S5,q5,z5,rfl,i5,m5,s5⟩
 replace z:=zc (z.out.stp s5)
 replace o:=zc (o.out.stp s5)
 have ax:=zc (aj.out.step s5)
 clear aj
 have am:=zc m5
 have aD:=zc i5
 clear i5 m5 s5 ai
 go_wp2_with fail
 refine (zdp (Cx.mk H j true) I E D _ S5 q5 z5 _ aD.out am.out).mono ?_
 rintro e w6 ⟨S6,q6,z6,rfl,i6,m6,s6⟩
 replace z:=zc (z.out.stp s6)
 replace o:=zc (o.out.stp s6)
 have aa:=zc (ax.out.step s6)
 clear ax
 have ak:=zc m6
 have aA:=zc i6
 clear i6 m6 s6 am
 go_wp2_with fail
 refine (zah (Cx.mk H j true) I E D _ S6 q6 z6 0 zU _ aA.out ak.out).mono ?_
 rintro e w7 ⟨Z,q7,z7,rfl,i7,m7,s7⟩
 replace z:=zc (z.out.stp s7)
 replace o:=zc (o.out.stp s7)
 have ae:=zc (aa.out.step s7)
 clear aa
 have V:=zc m7
 have aE:=zc i7
 clear i7 m7 s7 ak
 have aF:w.heap.size+1<w7.heap.size:=o.out.lt
 unfold pv
 go_upto_region 13 with fail
 refine zQ (R:=fun W=>Bx I Z W (w.heap.size) _∧Bx I Z W (w.heap.size+1) _∧Bx I Z W (w7.heap.size) _∧Mem (Cx.mk H j true) I E D Z q7 W∧SB w.heap.size S w Z W) ⟨(z.out.alloc _),(o.out.alloc _),(Bx.new V.out _),(V.out.alloc _),(ae.out.alloc _)⟩ ?_
 clear z o ae V
 rintro w8 ⟨X0,X1,X2,m8,t8⟩
 have z:=zc X0
 have o:=zc X1
 have M:=zc X2
 have ac:=zc m8
 have ap:=zc t8
 clear m8 t8 X0 X1 X2
 obtain⟨c0,c1,c2,c3,c4,c5,c6,c7,c8,c9,az,aB,cf⟩:=M.out.box
 go_wp2_with fail
 refine (zah (Cx.mk H j true) I E D _ Z q7 z7 0 cSemi _ aE.out ac.out).mono ?_
 rintro e w9 ⟨S9,q9,z9,rfl,i9,m9,s9⟩
 replace z:=zc (z.out.stp s9)
 replace o:=zc (o.out.stp s9)
 replace M:=zc (M.out.stp s9)
 have al:=zc (ap.out.step s9)
 clear ap
 have aq:=zc m9
 have ar:=zc i9
 clear i9 m9 s9 ac
 clear c0 c1 c2 c3 c4 c5 c6 c7 c8 c9 az aB cf
 go_wp2_with fail
 refine (zcY (Cx.mk H j true) I E D _ S9 q9 z9 0 4 sNone _ ar.out aq.out (zb5 ar.out)).mono ?_
 rintro e aH ⟨aL,aI,aJ,rfl,ad,an,K⟩
 replace z:=zc (z.out.stp K)
 replace o:=zc (o.out.stp K)
 replace M:=zc (M.out.stp K)
 have au:=zc (al.out.step K)
 clear al
 have ah:=zc an
 have ab:=zc ad
 clear ad an K aq
 obtain⟨b0,b1,b2,b3,b4,b5,b6,b7,b8,b9,aG,aK,bf⟩:=o.out.box
 unfold pv
 go_wp2
 refine bodyPost_ret (results_cell_row rfl _ _ (w.heap.size+1) 55 _ (0,0) _ rfl ((o.out.put ..)).heap Tryz.underlying55 rfl (by kernel_rfl)) rfl ?_
 rw[HV.out]
 exact zac rfl ab.out (ah.out.put o.out ..) (au.out.put (by omega) ..)
theorem zvo (H:List Tk) (j:Nat) (L E D:Nat) (S:Sv) (q:PS) (w:World) (hm:Mem (Cx.mk H j true) L E D S q w) (h0:isT (Cx.mk H j true) q.pos 1 sLet=false) (h1:isT (Cx.mk H j true) q.pos 1 sFunction=false) (h2:isT (Cx.mk H j true) q.pos 1 sPrint=false) (h3:isT (Cx.mk H j true) q.pos 1 sThrow=true):
  Calls Tryz.prog 21 #[pv (Cx.mk H j true) L E S q (-1) 0] w (Out (Cx.mk H j true) L E D (zo (Cx.mk H j true) q) 0 S w):=by
 have HM:=zc hm
 have Q:=hm.tok
 have K:(Cx.mk H j true).ts.length≤4000:=hm.few
 clear hm
 have HV:Hid (zo (Cx.mk H j true) q=bd (bd (bd (bd (.ok q) (zd (Cx.mk H j true) 1 sThrow)) (pE (Cx.mk H j true) .sum 0)) (zd (Cx.mk H j true) 4 cSemi)) (zE (Cx.mk H j true) 5 sNone)):=by show zo (Cx.mk H j true) q=_;rw[zo,h0,h1,h2,h3];rfl
 unfold pv
 go_enter Tryz.func21,Tryz.ntmps21
 go_wp2_with fail
 refine (zj (Cx.mk H j true) L E D S q (-1) 0 1 sLet _ (zv (zv Q _) _) K (by decide)).mono ?_
 rintro e w1 ⟨rfl,ao⟩
 rw[h0]
 obtain⟨X0,X1,m1,t1⟩:=HM.out.two ao
 have o:=zc X0
 have z:=zc X1
 have ab:=zc m1
 have ap:=zc t1
 clear X0 X1 m1 t1 ao
 clear Q
 obtain⟨Z,a1,U,V,a4,X,a6,a7,a8,Y,I,J,af⟩:=o.out.box
 go_wp2_with fail
 refine (zj (Cx.mk H j true) L E D S q (-1) 0 1 sFunction _ ab.out.tok K (by decide)).mono ?_
 rintro e w2 ⟨rfl,N⟩
 rw[h1]
 replace o:=zc (o.out.below N)
 replace z:=zc (z.out.below N)
 have ag:=zc (ap.out.below N)
 have aa:=zc (ab.out.later N)
 clear N ap ab
 clear Z a1 U V a4 X a6 a7 a8 Y I J af
 obtain⟨Z,a1,U,V,a4,X,a6,a7,a8,Y,I,J,af⟩:=o.out.box
 go_wp2_with fail
 refine (zj (Cx.mk H j true) L E D S q (-1) 0 1 sPrint _ aa.out.tok K (by decide)).mono ?_
 rintro e w3 ⟨rfl,O⟩
 rw[h2]
 replace o:=zc (o.out.below O)
 replace z:=zc (z.out.below O)
 have am:=zc (ag.out.below O)
 have ac:=zc (aa.out.later O)
 clear O ag aa
 clear Z a1 U V a4 X a6 a7 a8 Y I J af
 obtain⟨Z,a1,U,V,a4,X,a6,a7,a8,Y,I,J,af⟩:=o.out.box
 go_wp2_with fail
 refine (zj (Cx.mk H j true) L E D S q (-1) 0 1 sThrow _ ac.out.tok K (by decide)).mono ?_
 rintro e w4 ⟨rfl,M⟩
 rw[h3]
 replace o:=zc (o.out.below M)
 replace z:=zc (z.out.below M)
 have aj:=zc (am.out.below M)
 have ah:=zc (ac.out.later M)
 clear M am ac
 clear Z a1 U V a4 X a6 a7 a8 Y I J af
 obtain⟨Z,a1,U,V,a4,X,a6,a7,a8,Y,I,J,af⟩:=o.out.box
 go_wp2_with fail
 refine (zaT (Cx.mk H j true) L E D (.ok q) S q (-1) 0 sThrow _ (zab q) ah.out).mono ?_
 rintro e w5 ⟨S5,q5,z5,rfl,i5,m5,s5⟩
 replace o:=zc (o.out.stp s5)
 replace z:=zc (z.out.stp s5)
 have aq:=zc (aj.out.step s5)
 clear aj
 have al:=zc m5
 have ax:=zc i5
 clear i5 m5 s5 ah
 clear Z a1 U V a4 X a6 a7 a8 Y I J af
 go_wp2_with fail
 refine (zdp (Cx.mk H j true) L E D _ S5 q5 z5 _ ax.out al.out).mono ?_
 rintro e w6 ⟨S6,q6,z6,rfl,i6,m6,s6⟩
 replace o:=zc (o.out.stp s6)
 replace z:=zc (z.out.stp s6)
 have ad:=zc (aq.out.step s6)
 clear aq
 have ak:=zc m6
 have av:=zc i6
 clear i6 m6 s6 al
 go_wp2_with fail
 refine (zah (Cx.mk H j true) L E D _ S6 q6 z6 0 cSemi _ av.out ak.out).mono ?_
 rintro e w7 ⟨S7,q7,z7,rfl,i7,m7,s7⟩
 replace o:=zc (o.out.stp s7)
 replace z:=zc (z.out.stp s7)
 have ae:=zc (ad.out.step s7)
 clear ad
 have ai:=zc m7
 have an:=zc i7
 clear i7 m7 s7 ak
 go_wp2_with fail
 refine (zcY (Cx.mk H j true) L E D _ S7 q7 z7 0 5 sNone _ an.out ai.out (zb5 an.out)).mono ?_
 rintro e w8 ⟨S8,q8,z8,rfl,i8,m8,s8⟩
 replace o:=zc (o.out.stp s8)
 replace z:=zc (z.out.stp s8)
 have aw:=zc (ae.out.step s8)
 clear ae
 have ar:=zc m8
 have au:=zc i8
 clear i8 m8 s8 ai
 obtain⟨b0,b1,b2,b3,b4,b5,b6,b7,b8,b9,ay,az,bf⟩:=z.out.box
 unfold pv
 go_wp2
 refine bodyPost_ret (results_cell_row rfl _ _ (w.heap.size+1) 55 _ (0,0) _ rfl ((z.out.put ..)).heap Tryz.underlying55 rfl (by kernel_rfl)) rfl ?_
 rw[HV.out]
 exact zac rfl au.out (ar.out.put z.out ..) (aw.out.put (by omega) ..)
theorem zvp (H:List Tk) (j:Nat) (L E D:Nat) (S:Sv) (q:PS) (w:World) (hm:Mem (Cx.mk H j true) L E D S q w) (h0:isT (Cx.mk H j true) q.pos 1 sLet=false) (h1:isT (Cx.mk H j true) q.pos 1 sFunction=false) (h2:isT (Cx.mk H j true) q.pos 1 sPrint=false) (h3:isT (Cx.mk H j true) q.pos 1 sThrow=false) (h4:isT (Cx.mk H j true) q.pos 1 sFail=true):
  Calls Tryz.prog 21 #[pv (Cx.mk H j true) L E S q (-1) 0] w (Out (Cx.mk H j true) L E D (zo (Cx.mk H j true) q) 0 S w):=by
 have HM:=zc hm
 have aa:=hm.tok
 have K:(Cx.mk H j true).ts.length≤4000:=hm.few
 clear hm
 have HV:Hid (zo (Cx.mk H j true) q=bd (bd (bd (bd (.ok q) (zd (Cx.mk H j true) 1 sFail)) (pE (Cx.mk H j true) .sum 0)) (zd (Cx.mk H j true) 4 cSemi)) (zE (Cx.mk H j true) 6 sNone)):=by show zo (Cx.mk H j true) q=_;rw[zo,h0,h1,h2,h3,h4];rfl
 unfold pv
 go_enter Tryz.func21,Tryz.ntmps21
 go_wp2_with fail
 refine (zj (Cx.mk H j true) L E D S q (-1) 0 1 sLet _ (zv (zv aa _) _) K (by decide)).mono ?_
 rintro e w1 ⟨rfl,ar⟩
 rw[h0]
 obtain⟨X0,X1,m1,t1⟩:=HM.out.two ar
 have o:=zc X0
 have z:=zc X1
 have ad:=zc m1
 have au:=zc t1
 clear X0 X1 m1 t1 ar
 clear aa
 obtain⟨Z,a1,U,V,a4,X,a6,a7,a8,Y,I,J,af⟩:=o.out.box
 go_wp2_with fail
 refine (zj (Cx.mk H j true) L E D S q (-1) 0 1 sFunction _ ad.out.tok K (by decide)).mono ?_
 rintro e w2 ⟨rfl,N⟩
 rw[h1]
 replace o:=zc (o.out.below N)
 replace z:=zc (z.out.below N)
 have aj:=zc (au.out.below N)
 have ac:=zc (ad.out.later N)
 clear N au ad
 clear Z a1 U V a4 X a6 a7 a8 Y I J af
 obtain⟨Z,a1,U,V,a4,X,a6,a7,a8,Y,I,J,af⟩:=o.out.box
 go_wp2_with fail
 refine (zj (Cx.mk H j true) L E D S q (-1) 0 1 sPrint _ ac.out.tok K (by decide)).mono ?_
 rintro e w3 ⟨rfl,Q⟩
 rw[h2]
 replace o:=zc (o.out.below Q)
 replace z:=zc (z.out.below Q)
 have ap:=zc (aj.out.below Q)
 have ae:=zc (ac.out.later Q)
 clear Q aj ac
 clear Z a1 U V a4 X a6 a7 a8 Y I J af
 obtain⟨Z,a1,U,V,a4,X,a6,a7,a8,Y,I,J,af⟩:=o.out.box
 go_wp2_with fail
 refine (zj (Cx.mk H j true) L E D S q (-1) 0 1 sThrow _ ae.out.tok K (by decide)).mono ?_
 rintro e w4 ⟨rfl,M⟩
 rw[h3]
 replace o:=zc (o.out.below M)
 replace z:=zc (z.out.below M)
 have al:=zc (ap.out.below M)
 have ab:=zc (ae.out.later M)
 clear M ap ae
 clear Z a1 U V a4 X a6 a7 a8 Y I J af
 obtain⟨Z,a1,U,V,a4,X,a6,a7,a8,Y,I,J,af⟩:=o.out.box
 go_wp2_with fail
 refine (zj (Cx.mk H j true) L E D S q (-1) 0 1 sFail _ ab.out.tok K (by decide)).mono ?_
 rintro e w5 ⟨rfl,O⟩
 rw[h4]
 replace o:=zc (o.out.below O)
 replace z:=zc (z.out.below O)
 have av:=zc (al.out.below O)
 have ao:=zc (ab.out.later O)
 clear O al ab
 clear Z a1 U V a4 X a6 a7 a8 Y I J af
 obtain⟨Z,a1,U,V,a4,X,a6,a7,a8,Y,I,J,af⟩:=o.out.box
 go_wp2_with fail
 refine (zaT (Cx.mk H j true) L E D (.ok q) S q (-1) 0 sFail _ (zab q) ao.out).mono ?_
 rintro e w6 ⟨S6,q6,z6,rfl,i6,m6,s6⟩
 replace o:=zc (o.out.stp s6)
 replace z:=zc (z.out.stp s6)
 have ag:=zc (av.out.step s6)
 clear av
 have am:=zc m6
 have ax:=zc i6
 clear i6 m6 s6 ao
 clear Z a1 U V a4 X a6 a7 a8 Y I J af
 go_wp2_with fail
 refine (zdp (Cx.mk H j true) L E D _ S6 q6 z6 _ ax.out am.out).mono ?_
 rintro e w7 ⟨S7,q7,z7,rfl,i7,m7,s7⟩
 replace o:=zc (o.out.stp s7)
 replace z:=zc (z.out.stp s7)
 have ai:=zc (ag.out.step s7)
 clear ag
 have ak:=zc m7
 have aA:=zc i7
 clear i7 m7 s7 am
 go_wp2_with fail
 refine (zah (Cx.mk H j true) L E D _ S7 q7 z7 0 cSemi _ aA.out ak.out).mono ?_
 rintro e w8 ⟨S8,q8,z8,rfl,i8,m8,s8⟩
 replace o:=zc (o.out.stp s8)
 replace z:=zc (z.out.stp s8)
 have aq:=zc (ai.out.step s8)
 clear ai
 have ah:=zc m8
 have an:=zc i8
 clear i8 m8 s8 ak
 go_wp2_with fail
 refine (zcY (Cx.mk H j true) L E D _ S8 q8 z8 0 6 sNone _ an.out ah.out (zb5 an.out)).mono ?_
 rintro e w9 ⟨S9,q9,z9,rfl,i9,m9,s9⟩
 replace o:=zc (o.out.stp s9)
 replace z:=zc (z.out.stp s9)
 have aw:=zc (aq.out.step s9)
 clear aq
 have ay:=zc m9
 have az:=zc i9
 clear i9 m9 s9 ah
 obtain⟨b0,b1,b2,b3,b4,b5,b6,b7,b8,b9,aB,aC,bf⟩:=z.out.box
 unfold pv
 go_wp2
 refine bodyPost_ret (results_cell_row rfl _ _ (w.heap.size+1) 55 _ (0,0) _ rfl ((z.out.put ..)).heap Tryz.underlying55 rfl (by kernel_rfl)) rfl ?_
 rw[HV.out]
 exact zac rfl az.out (ay.out.put z.out ..) (aw.out.put (by omega) ..)
theorem zvq (E:List Tk) (j:Nat) (L H D:Nat) (S:Sv) (q:PS) (w:World) (hm:Mem (Cx.mk E j true) L H D S q w) (h0:isT (Cx.mk E j true) q.pos 1 sLet=false) (h1:isT (Cx.mk E j true) q.pos 1 sFunction=false) (h2:isT (Cx.mk E j true) q.pos 1 sPrint=false) (h3:isT (Cx.mk E j true) q.pos 1 sThrow=false) (h4:isT (Cx.mk E j true) q.pos 1 sFail=false):
  Calls Tryz.prog 21 #[pv (Cx.mk E j true) L H S q (-1) 0] w (Out (Cx.mk E j true) L H D (zo (Cx.mk E j true) q) 0 S w):=by
 have HM:=zc hm
 have ad:=hm.tok
 have M:(Cx.mk E j true).ts.length≤4000:=hm.few
 clear hm
 have HV:Hid (zo (Cx.mk E j true) q=bd (bd (.ok q) (zk (Cx.mk E j true) false)) fun a=>bd (bd (bd (bd (.ok a.1) (zd (Cx.mk E j true) 4 cEq)) (pE (Cx.mk E j true) .sum 0)) (zd (Cx.mk E j true) 4 cSemi)) (zE (Cx.mk E j true) 3 a.2)):=by show zo (Cx.mk E j true) q=_;rw[zo,h0,h1,h2,h3,h4];rfl
 unfold pv
 go_enter Tryz.func21,Tryz.ntmps21
 go_wp2_with fail
 refine (zj (Cx.mk E j true) L H D S q (-1) 0 1 sLet _ (zv (zv ad _) _) M (by decide)).mono ?_
 rintro e w1 ⟨rfl,aE⟩
 rw[h0]
 obtain⟨X0,X1,m1,t1⟩:=HM.out.two aE
 have o:=zc X0
 have z:=zc X1
 have ai:=zc m1
 have aF:=zc t1
 clear X0 X1 m1 t1 aE
 clear ad
 obtain⟨a0,a1,Y,Z,a4,a5,a6,a7,a8,a9,I,K,af⟩:=o.out.box
 go_wp2_with fail
 refine (zj (Cx.mk E j true) L H D S q (-1) 0 1 sFunction _ ai.out.tok M (by decide)).mono ?_
 rintro e w2 ⟨rfl,U⟩
 rw[h1]
 replace o:=zc (o.out.below U)
 replace z:=zc (z.out.below U)
 have ar:=zc (aF.out.below U)
 have ah:=zc (ai.out.later U)
 clear U aF ai
 clear a0 a1 Y Z a4 a5 a6 a7 a8 a9 I K af
 obtain⟨a0,a1,Y,Z,a4,a5,a6,a7,a8,a9,I,K,af⟩:=o.out.box
 go_wp2_with fail
 refine (zj (Cx.mk E j true) L H D S q (-1) 0 1 sPrint _ ah.out.tok M (by decide)).mono ?_
 rintro e w3 ⟨rfl,X⟩
 rw[h2]
 replace o:=zc (o.out.below X)
 replace z:=zc (z.out.below X)
 have aA:=zc (ar.out.below X)
 have aj:=zc (ah.out.later X)
 clear X ar ah
 clear a0 a1 Y Z a4 a5 a6 a7 a8 a9 I K af
 obtain⟨a0,a1,Y,Z,a4,a5,a6,a7,a8,a9,I,K,af⟩:=o.out.box
 go_wp2_with fail
 refine (zj (Cx.mk E j true) L H D S q (-1) 0 1 sThrow _ aj.out.tok M (by decide)).mono ?_
 rintro e w4 ⟨rfl,Q⟩
 rw[h3]
 replace o:=zc (o.out.below Q)
 replace z:=zc (z.out.below Q)
 have av:=zc (aA.out.below Q)
 have ae:=zc (aj.out.later Q)
 clear Q aA aj
 clear a0 a1 Y Z a4 a5 a6 a7 a8 a9 I K af
 obtain⟨a0,a1,Y,Z,a4,a5,a6,a7,a8,a9,I,K,af⟩:=o.out.box
 go_wp2_with fail
 refine (zj (Cx.mk E j true) L H D S q (-1) 0 1 sFail _ ae.out.tok M (by decide)).mono ?_
 rintro e w5 ⟨rfl,V⟩
 rw[h4]
 replace o:=zc (o.out.below V)
 replace z:=zc (z.out.below V)
 have aG:=zc (av.out.below V)
 have ax:=zc (ae.out.later V)
 clear V av ae
 clear a0 a1 Y Z a4 a5 a6 a7 a8 a9 I K af
 obtain⟨a0,a1,Y,Z,a4,a5,a6,a7,a8,a9,I,K,af⟩:=o.out.box
 go_wp2_with fail
 refine (zbz (Cx.mk E j true) L H D (.ok q) S q (-1) 0 false _ (zab q) ax.out).mono ?_
 rintro e w6 ⟨S6,q6,z6,n6,rfl,i6,m6,s6⟩
 replace o:=zc (o.out.stp s6)
 replace z:=zc (z.out.stp s6)
 have ak:=zc (aG.out.step s6)
 clear aG
 have ag:=zc m6
 have ay:=zc i6
 clear i6 m6 s6 ax
 clear a0 a1 Y Z a4 a5 a6 a7 a8 a9 I K af
 have aP:w.heap.size+1<w6.heap.size:=z.out.lt
 unfold pv
 go_upto_region 19 with fail
 refine zQ (R:=fun W=>Bx L S6 W (w.heap.size) _∧Bx L S6 W (w.heap.size+1) _∧Bx L S6 W (w6.heap.size) _∧Mem (Cx.mk E j true) L H D S6 q6 W∧SB w.heap.size S w S6 W) ⟨(o.out.alloc _),(z.out.alloc _),(Bx.new ag.out _),(ag.out.alloc _),(ak.out.alloc _)⟩ ?_
 clear o z ak ag
 rintro w7 ⟨X0,X1,X2,m7,t7⟩
 have o:=zc X0
 have z:=zc X1
 have J:=zc X2
 have au:=zc m7
 have ap:=zc t7
 clear m7 t7 X0 X1 X2
 obtain⟨c0,c1,c2,c3,c4,c5,c6,c7,c8,c9,aJ,aK,cf⟩:=J.out.box
 go_wp2_with fail
 refine (zah (Cx.mk E j true) L H D _ S6 q6 z6 0 cEq _ ay.out.fst au.out).mono ?_
 rintro e w8 ⟨S8,q8,z8,rfl,i8,m8,s8⟩
 replace o:=zc (o.out.stp s8)
 replace z:=zc (z.out.stp s8)
 replace J:=zc (J.out.stp s8)
 have aC:=zc (ap.out.step s8)
 clear ap
 have am:=zc m8
 have aI:=zc i8
 clear i8 m8 s8 au
 clear c0 c1 c2 c3 c4 c5 c6 c7 c8 c9 aJ aK cf
 go_wp2_with fail
 refine (zdp (Cx.mk E j true) L H D _ S8 q8 z8 _ aI.out am.out).mono ?_
 rintro e w9 ⟨S9,q9,z9,rfl,i9,m9,s9⟩
 replace o:=zc (o.out.stp s9)
 replace z:=zc (z.out.stp s9)
 replace J:=zc (J.out.stp s9)
 have aw:=zc (aC.out.step s9)
 clear aC
 have aD:=zc m9
 have aN:=zc i9
 clear i9 m9 s9 am
 go_wp2_with fail
 refine (zah (Cx.mk E j true) L H D _ S9 q9 z9 0 cSemi _ aN.out aD.out).mono ?_
 rintro e aT ⟨aO,aL,aM,rfl,an,az,N⟩
 replace o:=zc (o.out.stp N)
 replace z:=zc (z.out.stp N)
 replace J:=zc (J.out.stp N)
 have ac:=zc (aw.out.step N)
 clear aw
 have ab:=zc az
 have aa:=zc an
 clear an az N aD
 go_wp2_with fail
 refine (zcY (Cx.mk E j true) L H D _ aO aL aM 0 3 n6 _ aa.out ab.out (zb5 aa.out)).mono ?_
 rintro e aS ⟨aW,aR,aU,rfl,al,aB,O⟩
 replace o:=zc (o.out.stp O)
 replace z:=zc (z.out.stp O)
 replace J:=zc (J.out.stp O)
 have aH:=zc (ac.out.step O)
 clear ac
 have aq:=zc aB
 have ao:=zc al
 clear al aB O ab
 obtain⟨b0,b1,b2,b3,b4,b5,b6,b7,b8,b9,aQ,aV,bf⟩:=z.out.box
 unfold pv
 go_wp2
 refine bodyPost_ret (results_cell_row rfl _ _ (w.heap.size+1) 55 _ (0,0) _ rfl ((z.out.put ..)).heap Tryz.underlying55 rfl (by kernel_rfl)) rfl ?_
 rw[HV.out,←ay.out.bind (fun q n=>bd (bd (bd (bd (.ok q) (zd (Cx.mk E j true) 4 cEq)) (pE (Cx.mk E j true) .sum 0)) (zd (Cx.mk E j true) 4 cSemi)) (zE (Cx.mk E j true) 3 n)),←zmK]
 exact zac rfl ao.out (aq.out.put z.out ..) (aH.out.put (by omega) ..)
theorem zvr (D:List Tk) (j:Nat) (E z o:Nat) (S:Sv) (q:PS) (w:World) (I:Mem (Cx.mk D j true) E z o S q w):
  Calls Tryz.prog 21 #[pv (Cx.mk D j true) E z S q (-1) 0] w (Out (Cx.mk D j true) E z o (zo (Cx.mk D j true) q) 0 S w):=by
 cases H:isT (Cx.mk D j true) q.pos 1 sLet with
 |true=>exact zvl D j E z o S q w I H
 |false=>
  cases J:isT (Cx.mk D j true) q.pos 1 sFunction with
  |true=>exact zvm D j E z o S q w I H J
  |false=>
   cases K:isT (Cx.mk D j true) q.pos 1 sPrint with
   |true=>exact zvn D j E z o S q w I H J K
   |false=>
    cases L:isT (Cx.mk D j true) q.pos 1 sThrow with
    |true=>exact zvo D j E z o S q w I H J K L
    |false=>
     cases M:isT (Cx.mk D j true) q.pos 1 sFail with
     |true=>exact zvp D j E z o S q w I H J K L M
     |false=>
      exact zvq D j E z o S q w I H J K L M
end Go.Proofs.YthfeoomfiafldaaGreat
