/-
  What spec's l4Import answers: the walks.
  What spec's l4Export answers: the walks.
  What spec's l4Export answers to a list of names: the walks.
  What spec's l4Item answers: the walks.
-/
import Derived.Test.YthfeoomfiafldaaGreatCdSpecParseK
namespace Go.Proofs.YthfeoomfiafldaaGreat
set_option maxRecDepth 100000
set_option maxHeartbeats 6400000
open Go.RowKit Go.PlainAid
theorem zdq {C:Cx} {k:Int} {s:ByteArray} {q q1:PS} {j:Int} (h:Is (bd (.ok q) (zd C k s)) q1 j) (o:isT C q.pos k s=true):q1=adv q∧j= -1:=by
 rw[zh,zd,if_pos o] at h
 exact h
theorem zgj {α:Type} (f:α→PS→PR) (l:List α) (e:Nat):zK f l (.error e)= .error e:=by
 induction l with
 |nil=>rfl
 |cons a l j=>exact j
theorem zht {α:Type} (f:α→PS→PR) (l:List α) (x:PR) {k:Nat} (j:k<l.length):zK f (l.drop k) x=zK f (l.drop (k+1)) (bd x (f (l[k]))):=by
 rw[List.drop_eq_getElem_cons j]
 rfl
theorem zmG {C:Cx} {j:PRN} {J I:PS} {L M:Int} {D z:ByteArray} {G:ByteArray→ByteArray→PS→PR} (E:Is2 j J L D) (o:Is2 (bd (bd (za7 j) (zd C 1 zH)) (zy C)) I M z):
  bd (bd (za7 (bd (bd (za7 j) (zd C 1 zH)) (zy C))) (zd C 4 cSemi)) (G z D)=bd j fun a=>bd (zaD C (zav C (.ok a.1))) fun b=>G b.2 a.2 b.1:=by
 cases j with
 |error e=>rfl
 |ok a=>
  obtain⟨_,_,rfl⟩:=E
  have K:bd (bd (za7 (.ok a)) (zd C 1 zH)) (zy C)=zav C (.ok a.1):=rfl
  rw[K] at o ⊢
  rw[zh]
  cases H:zav C (.ok a.1) with
  |error e=>rfl
  |ok b=>
   rw[H] at o
   obtain⟨_,_,rfl⟩:=o
   show bd (zd C 4 cSemi b.1) (G b.2 a.2)=bd (bd (zd C 4 cSemi b.1) fun q=>.ok (q,b.2)) fun b=>G b.2 a.2 b.1
   rw[zR]
   rfl
def zgk (y:PRL):PR:=bd y fun a=>.ok a.1
theorem Is3.fst {y:PRL} {q:PS} {z:Int} {l:List Ep} (h:Is3 y q z l):Is (zgk y) q z:=by
 cases y with
 |ok a=>exact⟨h.1,h.2.1⟩
 |error e=>exact h
theorem zjk {C:Cx} {y:PRL} {I E:PS} {K L:Int} {l:List Ep} {o:ByteArray} {G:ByteArray→Ep→PS→PR} (z:Is3 y I K l) (j:Is2 (bd (bd (zgk y) (zd C 1 zH)) (zy C)) E L o):
  zK (G o) l (bd (za7 (bd (bd (zgk y) (zd C 1 zH)) (zy C))) (zd C 4 cSemi))=bd y fun a=>bd (zaD C (zav C (.ok a.1))) fun b=>zK (G b.2) a.2 (.ok b.1):=by
 cases y with
 |error e=>exact zgj _ _ _
 |ok a=>
  obtain⟨_,_,rfl⟩:=z
  have J:bd (bd (zgk (.ok a)) (zd C 1 zH)) (zy C)=zav C (.ok a.1):=rfl
  rw[J] at j ⊢
  rw[zh]
  cases D:zav C (.ok a.1) with
  |error e=>exact zgj _ _ _
  |ok b=>
   rw[D] at j
   obtain⟨_,_,rfl⟩:=j
   show zK (G b.2) a.2 (bd (za7 (.ok b)) (zd C 4 cSemi))=bd (bd (zd C 4 cSemi b.1) fun q=>.ok (q,b.2)) fun b=>zK (G b.2) a.2 (.ok b.1)
   have H:bd (za7 (.ok b)) (zd C 4 cSemi)=zd C 4 cSemi b.1:=rfl
   rw[H,zR]
   cases zd C 4 cSemi b.1 with
   |error e=>exact zgj _ _ _
   |ok c=>rfl
theorem Mem.drew {C:Cx} {z o j:Nat} {S:Sv} {q:PS} {w:World} (h:Mem C z o j S q w):Mem C z o j S q w.drew:=⟨⟨h.own.rq,h.own.im,h.own.ep,h.own.st,h.own.ex,h.own.la,h.own.apart⟩,h.inv,h.tok,h.few,h.base⟩
theorem Stp.undrew {S o:Sv} {w j:World} (h:Stp S w.drew o j):Stp S w o j:=⟨h.os,h.tape,h.output,h.size,h.block,h.sub⟩
theorem Row.cells {S:Sv} {w:World} {o B g:Nat} {r:Rw} {l:List Ep} (h:Row S w o B r l) (J:r.a=some ⟨g,0,none⟩) {j:Nat} (H:j<l.length):
  w.cell? ⟨g,j*4+1,none⟩=some (.string (l[j]).name)∧w.cell? ⟨g,j*4+2,none⟩=some (.string (l[j]).loc):=by
 have E:=h.own
 unfold OwnR at E
 rw[J] at E
 have z: ∀(l:List Ep) (i c:Nat) (I:c<4) (D:i<l.length),(l.flatMap epL)[i*4+c]? =(epL l[i])[c]?:=by
  intro l
  induction l with
  |nil=>intro i c _ D;simp at D
  |cons x l K=>
   intro i c I D
   match i with
   |0=>
    simp only[List.flatMap_cons,Nat.zero_mul,Nat.zero_add,List.getElem_cons_zero]
    rw[List.getElem?_append_left (by simp[epL];omega)]
   |i+1=>
    simp only[List.flatMap_cons,List.getElem_cons_succ]
    rw[List.getElem?_append_right (by simp[epL];omega)]
    have e:(i+1)*4+c-(epL x).length=i*4+c:=by simp[epL];omega
    rw[e]
    exact K i c I (by simpa using D)
 rw[E.cellAt _ (by omega),E.cellAt _ (by omega)]
 exact⟨z l j 1 (by omega) H,z l j 2 (by omega) H⟩
theorem zuT {C:Cx} {y:Im} {x:PR} {q q':PS} {z z':Int} (D:z<0→1≤q.pos) (E:Is x q z) (h:Is (bd x (zX C y)) q' z'):z'<0→1≤q'.pos:=by
 intro o
 obtain⟨e,_⟩:=zaF h o
 obtain⟨a,H,j⟩:=ze e
 subst H
 obtain⟨rfl,rfl⟩:=E
 unfold zX at j
 split at j
 ·cases j
 ·cases j
  exact D (by decide)
theorem zjl {C:Cx} {y:Ep} {x:PR} {q q':PS} {z z':Int} (o:z<0→1≤q.pos) (E:Is x q z) (h:Is (bd x (zm C y)) q' z'):z'<0→1≤q'.pos:=by
 intro D
 obtain⟨e,_⟩:=zaF h D
 obtain⟨a,H,j⟩:=ze e
 subst H
 obtain⟨rfl,rfl⟩:=E
 unfold zm at j
 split at j
 ·cases j
 ·split at j
  ·cases j
   exact o (by decide)
  ·cases j
   exact o (by decide)
theorem zuU (C:Cx) (H D z:Nat) (S:Sv) (q:PS) (w:World) (hm:Mem C H D z S q w) (hw:isT C q.pos 1 sImport=true) (h1:isT C (q.pos+1) 4 zF=false) (h2:isT C (q.pos+1) 4 zp=true):
  Calls Tryz.prog 48 #[pv C H D S q (-1) 0] w (Out C H D z (za3 C q) 0 S w):=by
 have HM:=zc hm
 have ab:=hm.few
 clear hm
 have HV:Hid (za3 C q=bd (bd (bd (bd (.ok (adv q)) (zd C 4 zp)) (zd C 1 sAs)) (zk C false)) fun a=>bd (zaD C (zav C (.ok a.1))) fun b=>zX C ⟨b.2,zp,a.2⟩ b.1):=by
  show _=_
  rw[za3,zd,if_pos hw,zh]
  rw[zz,h1,h2]
  rfl
 unfold pv
 go_enter Tryz.func48,Tryz.ntmps48
 go_wp2_with fail
 refine (zaT C H D z (.ok q) S q (-1) 0 sImport _ (zab q) ((HM.out.alloc _).alloc _)).mono ?_
 rintro e w1 ⟨S1,q1,z1,rfl,i1,m1,s1⟩
 obtain⟨Q,V,t1⟩:=HM.out.two2 s1
 have j:=zc Q
 have o:=zc V
 have ax:=zc m1
 have aI:=zc t1
 have aA:=zc i1
 clear Q V i1 m1 t1 s1
 obtain⟨aj,rfl⟩:=zdq aA.out hw
 have HQ:=zc aj
 have al:Hid (q1.pos=q.pos+1):=by show q1.pos=q.pos+1;rw[aj];rfl
 clear aj aA
 obtain⟨a0,a1,a2,a3,a4,a5,a6,a7,a8,a9,K,I,af⟩:=j.out.box
 unfold pv
 go_upto_region 2 with fail
 refine zQ (R:=fun W=>Bx H S1 W (w.heap.size) _∧Bx H S1 W (w.heap.size+1) _∧Mem C H D z S1 q1 W∧SB w.heap.size S w S1 W) ⟨(j.out.put ..),(o.out.other (by omega) ..),(ax.out.put j.out ..),(aI.out.put (by omega) ..)⟩ ?_
 clear a0 a1 a2 a3 a4 a5 a6 a7 a8 a9 K I af
 clear j o aI ax
 rintro w2 ⟨Q,V,m2,t2⟩
 have j:=zc Q
 have o:=zc V
 have an:=zc m2
 have aQ:=zc t2
 clear m2 t2 Q V
 obtain⟨a0,a1,a2,a3,a4,a5,a6,a7,a8,a9,K,I,af⟩:=j.out.box
 go_wp2_with fail
 refine (zj C H D z S1 q1 (-1) 0 4 zF _ an.out.tok ab (by decide)).mono ?_
 rintro e w3 ⟨rfl,Y⟩
 rw[al.out,h1]
 replace j:=zc (j.out.below Y)
 replace o:=zc (o.out.below Y)
 have aw:=zc (aQ.out.below Y)
 have am:=zc (an.out.later Y)
 clear Y aQ an
 clear a0 a1 a2 a3 a4 a5 a6 a7 a8 a9 K I af
 obtain⟨a0,a1,a2,a3,a4,a5,a6,a7,a8,a9,K,I,af⟩:=j.out.box
 go_wp2_with fail
 refine (zj C H D z S1 q1 (-1) 0 4 zp _ am.out.tok ab (by decide)).mono ?_
 rintro e w4 ⟨rfl,X⟩
 rw[al.out,h2]
 replace j:=zc (j.out.below X)
 replace o:=zc (o.out.below X)
 have aH:=zc (aw.out.below X)
 have av:=zc (am.out.later X)
 clear X aw am
 clear a0 a1 a2 a3 a4 a5 a6 a7 a8 a9 K I af
 obtain⟨a0,a1,a2,a3,a4,a5,a6,a7,a8,a9,K,I,af⟩:=j.out.box
 clear al
 go_wp2_with fail
 refine (zah C H D z (.ok q1) S1 q1 (-1) 0 zp _ (zab q1) av.out).mono ?_
 rintro e w5 ⟨S5,q5,z5,rfl,i5,m5,s5⟩
 replace j:=zc (j.out.stp s5)
 replace o:=zc (o.out.stp s5)
 have aC:=zc (aH.out.step s5)
 clear aH
 have ao:=zc m5
 have bc:=zc i5
 clear i5 m5 s5 av
 clear a0 a1 a2 a3 a4 a5 a6 a7 a8 a9 K I af
 go_wp2_with fail
 refine (zaT C H D z _ S5 q5 z5 0 sAs _ bc.out ao.out).mono ?_
 rintro e w6 ⟨S6,q6,z6,rfl,i6,m6,s6⟩
 replace j:=zc (j.out.stp s6)
 replace o:=zc (o.out.stp s6)
 have aR:=zc (aC.out.step s6)
 clear aC
 have ap:=zc m6
 have ba:=zc i6
 clear i6 m6 s6 ao
 go_wp2_with fail
 refine (zbz C H D z _ S6 q6 z6 0 false _ ba.out ap.out).mono ?_
 rintro e w7 ⟨S7,q7,z7,n7,rfl,i7,m7,s7⟩
 replace j:=zc (j.out.stp s7)
 replace o:=zc (o.out.stp s7)
 have aO:=zc (aR.out.step s7)
 clear aR
 have ai:=zc m7
 have aF:=zc i7
 clear i7 m7 s7 ap
 have bj:w.heap.size+1<w7.heap.size:=o.out.lt
 unfold pv
 go_upto_region 13 with fail
 refine zQ (R:=fun W=>Bx H S7 W (w.heap.size) _∧Bx H S7 W (w.heap.size+1) _∧Bx H S7 W (w7.heap.size) _∧Mem C H D z S7 q7 W∧SB w.heap.size S w S7 W) ⟨(j.out.alloc _),(o.out.alloc _),(Bx.new ai.out _),(ai.out.alloc _),(aO.out.alloc _)⟩ ?_
 clear j o aO ai
 rintro w8 ⟨Q,V,X2,m8,t8⟩
 have j:=zc Q
 have o:=zc V
 have E:=zc X2
 have aD:=zc m8
 have aq:=zc t8
 clear m8 t8 Q V X2
 obtain⟨c0,c1,c2,c3,c4,c5,c6,c7,c8,c9,bb,aV,cf⟩:=E.out.box
 go_wp2_with fail
 refine (zaT C H D z _ S7 q7 z7 0 zH _ aF.out.fst aD.out).mono ?_
 rintro e w9 ⟨S9,q9,z9,rfl,i9,m9,s9⟩
 replace j:=zc (j.out.stp s9)
 replace o:=zc (o.out.stp s9)
 replace E:=zc (E.out.stp s9)
 have aS:=zc (aq.out.step s9)
 clear aq
 have aP:=zc m9
 have be:=zc i9
 clear i9 m9 s9 aD
 clear c0 c1 c2 c3 c4 c5 c6 c7 c8 c9 bb aV cf
 go_wp2_with fail
 refine (zeD C H D z _ S9 q9 z9 0 _ be.out aP.out).mono ?_
 rintro e ak ⟨J,aL,bg,aU,rfl,aE,au,N⟩
 replace j:=zc (j.out.stp N)
 replace o:=zc (o.out.stp N)
 replace E:=zc (E.out.stp N)
 have ae:=zc (aS.out.step N)
 clear aS
 have U:=zc au
 have ah:=zc aE
 clear aE au N aP
 have bk:w.heap.size+1<ak.heap.size:=o.out.lt
 have aT:w7.heap.size<ak.heap.size:=E.out.lt
 unfold pv
 go_upto_region 14 with fail
 refine zQ (R:=fun W=>Bx H J W (w.heap.size) _∧Bx H J W (w.heap.size+1) _∧Bx H J W (w7.heap.size) _∧Bx H J W (ak.heap.size) _∧Mem C H D z J aL W∧SB w.heap.size S w J W) ⟨(j.out.alloc _),(o.out.alloc _),(E.out.alloc _),(Bx.new U.out _),(U.out.alloc _),(ae.out.alloc _)⟩ ?_
 clear j o E ae U
 rintro bm ⟨Q,V,X2,X3,aK,ar⟩
 have j:=zc Q
 have o:=zc V
 have E:=zc X2
 have O:=zc X3
 have ac:=zc aK
 have ad:=zc ar
 clear aK ar Q V X2 X3
 obtain⟨d0,d1,d2,d3,d4,d5,d6,d7,d8,d9,aY,aW,df⟩:=O.out.box
 go_wp2_with fail
 refine (zah C H D z _ J aL bg 0 cSemi _ ah.out.fst ac.out).mono ?_
 rintro e bp ⟨bi,aZ,aX,rfl,aB,aN,L⟩
 replace j:=zc (j.out.stp L)
 replace o:=zc (o.out.stp L)
 replace E:=zc (E.out.stp L)
 replace O:=zc (O.out.stp L)
 have aa:=zc (ad.out.step L)
 clear ad
 have ag:=zc aN
 have Z:=zc aB
 clear aB aN L ac
 clear d0 d1 d2 d3 d4 d5 d6 d7 d8 d9 aY aW df
 go_wp2_with fail
 refine (zhR C H D z _ bi aZ aX 0 ⟨aU,zp,n7⟩ _ Z.out ag.out (zb5 Z.out)).mono ?_
 rintro e bs ⟨bq,bo,br,rfl,az,ay,M⟩
 replace j:=zc (j.out.stp M)
 replace o:=zc (o.out.stp M)
 replace E:=zc (E.out.stp M)
 replace O:=zc (O.out.stp M)
 have aM:=zc (aa.out.step M)
 clear aa
 have aG:=zc ay
 have aJ:=zc az
 clear az ay M ag
 obtain⟨b0,b1,b2,b3,b4,b5,b6,b7,b8,b9,bl,bt,bf⟩:=o.out.box
 unfold pv
 go_wp2
 refine bodyPost_ret (results_cell_row rfl _ _ (w.heap.size+1) 55 _ (0,0) _ rfl ((o.out.put ..)).heap Tryz.underlying55 rfl (by kernel_rfl)) rfl ?_
 rw[HV.out,←HQ.out,←zmG (G:=fun b a=>zX C ⟨b,zp,a⟩) aF.out ah.out]
 exact zac rfl aJ.out (aG.out.put o.out ..) (aM.out.put (by omega) ..)
theorem zuV (C:Cx) (H D z:Nat) (S:Sv) (q:PS) (w:World) (hm:Mem C H D z S q w) (hw:isT C q.pos 1 sImport=true) (h1:isT C (q.pos+1) 4 zF=false) (h2:isT C (q.pos+1) 4 zp=false) (h3:plainB C (q.pos+1) false=true):
  Calls Tryz.prog 48 #[pv C H D S q (-1) 0] w (Out C H D z (za3 C q) 0 S w):=by
 have HM:=zc hm
 have Q:=hm.few
 clear hm
 have HV:Hid (za3 C q=bd (bd (.ok (adv q)) (zk C false)) fun a=>bd (zaD C (zav C (.ok a.1))) fun b=>zX C ⟨b.2,sDefault,a.2⟩ b.1):=by
  show _=_
  rw[za3,zd,if_pos hw,zh]
  rw[zz,h1,h2,h3]
  rfl
 unfold pv
 go_enter Tryz.func48,Tryz.ntmps48
 go_wp2_with fail
 refine (zaT C H D z (.ok q) S q (-1) 0 sImport _ (zab q) ((HM.out.alloc _).alloc _)).mono ?_
 rintro e w1 ⟨S1,q1,z1,rfl,i1,m1,s1⟩
 obtain⟨O,U,t1⟩:=HM.out.two2 s1
 have j:=zc O
 have o:=zc U
 have av:=zc m1
 have aD:=zc t1
 have ax:=zc i1
 clear O U i1 m1 t1 s1
 obtain⟨aj,rfl⟩:=zdq ax.out hw
 have HQ:=zc aj
 have aa:Hid (q1.pos=q.pos+1):=by show q1.pos=q.pos+1;rw[aj];rfl
 clear aj ax
 obtain⟨a0,a1,Z,a3,a4,a5,a6,a7,a8,Y,J,I,af⟩:=j.out.box
 unfold pv
 go_upto_region 2 with fail
 refine zQ (R:=fun W=>Bx H S1 W (w.heap.size) _∧Bx H S1 W (w.heap.size+1) _∧Mem C H D z S1 q1 W∧SB w.heap.size S w S1 W) ⟨(j.out.put ..),(o.out.other (by omega) ..),(av.out.put j.out ..),(aD.out.put (by omega) ..)⟩ ?_
 clear a0 a1 Z a3 a4 a5 a6 a7 a8 Y J I af
 clear j o aD av
 rintro w2 ⟨O,U,m2,t2⟩
 have j:=zc O
 have o:=zc U
 have al:=zc m2
 have aJ:=zc t2
 clear m2 t2 O U
 obtain⟨a0,a1,Z,a3,a4,a5,a6,a7,a8,Y,J,I,af⟩:=j.out.box
 go_wp2_with fail
 refine (zj C H D z S1 q1 (-1) 0 4 zF _ al.out.tok Q (by decide)).mono ?_
 rintro e w3 ⟨rfl,X⟩
 rw[aa.out,h1]
 replace j:=zc (j.out.below X)
 replace o:=zc (o.out.below X)
 have au:=zc (aJ.out.below X)
 have ak:=zc (al.out.later X)
 clear X aJ al
 clear a0 a1 Z a3 a4 a5 a6 a7 a8 Y J I af
 obtain⟨a0,a1,Z,a3,a4,a5,a6,a7,a8,Y,J,I,af⟩:=j.out.box
 go_wp2_with fail
 refine (zj C H D z S1 q1 (-1) 0 4 zp _ ak.out.tok Q (by decide)).mono ?_
 rintro e w4 ⟨rfl,V⟩
 rw[aa.out,h2]
 replace j:=zc (j.out.below V)
 replace o:=zc (o.out.below V)
 have aC:=zc (au.out.below V)
 have ai:=zc (ak.out.later V)
 clear V au ak
 clear a0 a1 Z a3 a4 a5 a6 a7 a8 Y J I af
 obtain⟨a0,a1,Z,a3,a4,a5,a6,a7,a8,Y,J,I,af⟩:=j.out.box
 go_wp2_with fail
 refine (zg5 C H D z S1 q1 (-1) 0 false _ ai.out.tok Q).mono ?_
 rintro e w5 ⟨rfl,M⟩
 rw[aa.out,h3]
 replace j:=zc (j.out.below M)
 replace o:=zc (o.out.below M)
 have az:=zc (aC.out.below M)
 have an:=zc (ai.out.later M)
 clear M aC ai
 clear a0 a1 Z a3 a4 a5 a6 a7 a8 Y J I af
 obtain⟨a0,a1,Z,a3,a4,a5,a6,a7,a8,Y,J,I,af⟩:=j.out.box
 clear aa
 go_wp2_with fail
 refine (zbz C H D z (.ok q1) S1 q1 (-1) 0 false _ (zab q1) an.out).mono ?_
 rintro e w6 ⟨S6,q6,z6,n6,rfl,i6,m6,s6⟩
 replace j:=zc (j.out.stp s6)
 replace o:=zc (o.out.stp s6)
 have aK:=zc (az.out.step s6)
 clear az
 have ah:=zc m6
 have aB:=zc i6
 clear i6 m6 s6 an
 clear a0 a1 Z a3 a4 a5 a6 a7 a8 Y J I af
 have aX:w.heap.size+1<w6.heap.size:=o.out.lt
 unfold pv
 go_upto_region 17 with fail
 refine zQ (R:=fun W=>Bx H S6 W (w.heap.size) _∧Bx H S6 W (w.heap.size+1) _∧Bx H S6 W (w6.heap.size) _∧Mem C H D z S6 q6 W∧SB w.heap.size S w S6 W) ⟨(j.out.alloc _),(o.out.alloc _),(Bx.new ah.out _),(ah.out.alloc _),(aK.out.alloc _)⟩ ?_
 clear j o aK ah
 rintro w7 ⟨O,U,X2,m7,t7⟩
 have j:=zc O
 have o:=zc U
 have E:=zc X2
 have ar:=zc m7
 have aI:=zc t7
 clear m7 t7 O U X2
 obtain⟨c0,c1,c2,c3,c4,c5,c6,c7,c8,c9,aW,aP,cf⟩:=E.out.box
 go_wp2_with fail
 refine (zaT C H D z _ S6 q6 z6 0 zH _ aB.out.fst ar.out).mono ?_
 rintro e w8 ⟨S8,q8,z8,rfl,i8,m8,s8⟩
 replace j:=zc (j.out.stp s8)
 replace o:=zc (o.out.stp s8)
 replace E:=zc (E.out.stp s8)
 have ao:=zc (aI.out.step s8)
 clear aI
 have aA:=zc m8
 have aS:=zc i8
 clear i8 m8 s8 ar
 clear c0 c1 c2 c3 c4 c5 c6 c7 c8 c9 aW aP cf
 go_wp2_with fail
 refine (zeD C H D z _ S8 q8 z8 0 _ aS.out aA.out).mono ?_
 rintro e w9 ⟨S9,q9,z9,n9,rfl,i9,m9,s9⟩
 replace j:=zc (j.out.stp s9)
 replace o:=zc (o.out.stp s9)
 replace E:=zc (E.out.stp s9)
 have aM:=zc (ao.out.step s9)
 clear ao
 have am:=zc m9
 have aL:=zc i9
 clear i9 m9 s9 aA
 have aY:w.heap.size+1<w9.heap.size:=o.out.lt
 have aO:w6.heap.size<w9.heap.size:=E.out.lt
 unfold pv
 go_upto_region 18 with fail
 refine zQ (R:=fun W=>Bx H S9 W (w.heap.size) _∧Bx H S9 W (w.heap.size+1) _∧Bx H S9 W (w6.heap.size) _∧Bx H S9 W (w9.heap.size) _∧Mem C H D z S9 q9 W∧SB w.heap.size S w S9 W) ⟨(j.out.alloc _),(o.out.alloc _),(E.out.alloc _),(Bx.new am.out _),(am.out.alloc _),(aM.out.alloc _)⟩ ?_
 clear j o E aM am
 rintro bb ⟨O,U,X2,X3,aq,aG⟩
 have j:=zc O
 have o:=zc U
 have E:=zc X2
 have N:=zc X3
 have ab:=zc aq
 have ag:=zc aG
 clear aq aG O U X2 X3
 obtain⟨d0,d1,d2,d3,d4,d5,d6,d7,d8,d9,aU,aQ,df⟩:=N.out.box
 go_wp2_with fail
 refine (zah C H D z _ S9 q9 z9 0 cSemi _ aL.out.fst ab.out).mono ?_
 rintro e ba ⟨aR,aV,aT,rfl,aF,aE,L⟩
 replace j:=zc (j.out.stp L)
 replace o:=zc (o.out.stp L)
 replace E:=zc (E.out.stp L)
 replace N:=zc (N.out.stp L)
 have ad:=zc (ag.out.step L)
 clear ag
 have ac:=zc aE
 have ae:=zc aF
 clear aF aE L ab
 clear d0 d1 d2 d3 d4 d5 d6 d7 d8 d9 aU aQ df
 go_wp2_with fail
 refine (zhR C H D z _ aR aV aT 0 ⟨n9,sDefault,n6⟩ _ ae.out ac.out (zb5 ae.out)).mono ?_
 rintro e bg ⟨bi,be,bc,rfl,ay,aH,K⟩
 replace j:=zc (j.out.stp K)
 replace o:=zc (o.out.stp K)
 replace E:=zc (E.out.stp K)
 replace N:=zc (N.out.stp K)
 have aw:=zc (ad.out.step K)
 clear ad
 have aN:=zc aH
 have ap:=zc ay
 clear ay aH K ac
 obtain⟨b0,b1,b2,b3,b4,b5,b6,b7,b8,b9,aZ,bj,bf⟩:=o.out.box
 unfold pv
 go_wp2
 refine bodyPost_ret (results_cell_row rfl _ _ (w.heap.size+1) 55 _ (0,0) _ rfl ((o.out.put ..)).heap Tryz.underlying55 rfl (by kernel_rfl)) rfl ?_
 rw[HV.out,←HQ.out,←zmG (G:=fun b a=>zX C ⟨b,sDefault,a⟩) aB.out aL.out]
 exact zac rfl ap.out (aN.out.put o.out ..) (aw.out.put (by omega) ..)
theorem zuW (C:Cx) (I D z:Nat) (S:Sv) (q:PS) (w:World) (hm:Mem C I D z S q w) (hw:isT C q.pos 1 sImport=true) (h1:isT C (q.pos+1) 4 zF=false) (h2:isT C (q.pos+1) 4 zp=false) (h3:plainB C (q.pos+1) false=false):
  Calls Tryz.prog 48 #[pv C I D S q (-1) 0] w (Out C I D z (za3 C q) 0 S w):=by
 have HM:=zc hm
 have K:=hm.few
 clear hm
 have HV:Hid (za3 C q=bd (bd (.ok (adv q)) (zy C)) fun a=>zd C 4 cSemi a.1):=by
  show _=_
  rw[za3,zd,if_pos hw,zh]
  rw[zz,h1,h2,h3]
  rfl
 unfold pv
 go_enter Tryz.func48,Tryz.ntmps48
 go_wp2_with fail
 refine (zaT C I D z (.ok q) S q (-1) 0 sImport _ (zab q) ((HM.out.alloc _).alloc _)).mono ?_
 rintro e w1 ⟨S1,q1,z1,rfl,i1,m1,s1⟩
 obtain⟨X0,X1,t1⟩:=HM.out.two2 s1
 have j:=zc X0
 have o:=zc X1
 have ak:=zc m1
 have ap:=zc t1
 have al:=zc i1
 clear X0 X1 i1 m1 t1 s1
 obtain⟨ac,rfl⟩:=zdq al.out hw
 have HQ:=zc ac
 have Q:Hid (q1.pos=q.pos+1):=by show q1.pos=q.pos+1;rw[ac];rfl
 clear ac al
 obtain⟨X,a1,O,a3,a4,Z,Y,V,a8,N,H,E,U⟩:=j.out.box
 unfold pv
 go_upto_region 2 with fail
 refine zQ (R:=fun W=>Bx I S1 W (w.heap.size) _∧Bx I S1 W (w.heap.size+1) _∧Mem C I D z S1 q1 W∧SB w.heap.size S w S1 W) ⟨(j.out.put ..),(o.out.other (by omega) ..),(ak.out.put j.out ..),(ap.out.put (by omega) ..)⟩ ?_
 clear X a1 O a3 a4 Z Y V a8 N H E U
 clear j o ap ak
 rintro w2 ⟨X0,X1,m2,t2⟩
 have j:=zc X0
 have o:=zc X1
 have ae:=zc m2
 have ar:=zc t2
 clear m2 t2 X0 X1
 obtain⟨X,a1,O,a3,a4,Z,Y,V,a8,N,H,E,U⟩:=j.out.box
 go_wp2_with fail
 refine (zj C I D z S1 q1 (-1) 0 4 zF _ ae.out.tok K (by decide)).mono ?_
 rintro e w3 ⟨rfl,M⟩
 rw[Q.out,h1]
 replace j:=zc (j.out.below M)
 replace o:=zc (o.out.below M)
 have aj:=zc (ar.out.below M)
 have ad:=zc (ae.out.later M)
 clear M ar ae
 clear X a1 O a3 a4 Z Y V a8 N H E U
 obtain⟨X,a1,O,a3,a4,Z,Y,V,a8,N,H,E,U⟩:=j.out.box
 go_wp2_with fail
 refine (zj C I D z S1 q1 (-1) 0 4 zp _ ad.out.tok K (by decide)).mono ?_
 rintro e w4 ⟨rfl,L⟩
 rw[Q.out,h2]
 replace j:=zc (j.out.below L)
 replace o:=zc (o.out.below L)
 have ao:=zc (aj.out.below L)
 have ab:=zc (ad.out.later L)
 clear L aj ad
 clear X a1 O a3 a4 Z Y V a8 N H E U
 obtain⟨X,a1,O,a3,a4,Z,Y,V,a8,N,H,E,U⟩:=j.out.box
 go_wp2_with fail
 refine (zg5 C I D z S1 q1 (-1) 0 false _ ab.out.tok K).mono ?_
 rintro e w5 ⟨rfl,J⟩
 rw[Q.out,h3]
 replace j:=zc (j.out.below J)
 replace o:=zc (o.out.below J)
 have am:=zc (ao.out.below J)
 have ah:=zc (ab.out.later J)
 clear J ao ab
 clear X a1 O a3 a4 Z Y V a8 N H E U
 obtain⟨X,a1,O,a3,a4,Z,Y,V,a8,N,H,E,U⟩:=j.out.box
 clear Q
 go_wp2_with fail
 refine (zeD C I D z (.ok q1) S1 q1 (-1) 0 _ (zab q1) ah.out).mono ?_
 rintro e w6 ⟨S6,q6,z6,n6,rfl,i6,m6,s6⟩
 replace j:=zc (j.out.stp s6)
 replace o:=zc (o.out.stp s6)
 have au:=zc (am.out.step s6)
 clear am
 have aa:=zc m6
 have an:=zc i6
 clear i6 m6 s6 ah
 clear X a1 O a3 a4 Z Y V a8 N H E U
 have aA:w.heap.size+1<w6.heap.size:=o.out.lt
 unfold pv
 go_upto_region 20 with fail
 refine zQ (R:=fun W=>Bx I S6 W (w.heap.size) _∧Bx I S6 W (w.heap.size+1) _∧Bx I S6 W (w6.heap.size) _∧Mem C I D z S6 q6 W∧SB w.heap.size S w S6 W) ⟨(j.out.alloc _),(o.out.alloc _),(Bx.new aa.out _),(aa.out.alloc _),(au.out.alloc _)⟩ ?_
 clear j o au aa
 rintro w7 ⟨X0,X1,X2,m7,t7⟩
 have j:=zc X0
 have o:=zc X1
 have ag:=zc X2
 have ai:=zc m7
 have aq:=zc t7
 clear m7 t7 X0 X1 X2
 obtain⟨c0,c1,c2,c3,c4,c5,c6,c7,c8,c9,az,aw,cf⟩:=ag.out.box
 go_wp2_with fail
 refine (zah C I D z _ S6 q6 z6 0 cSemi _ an.out.fst ai.out).mono ?_
 rintro e w8 ⟨S8,q8,z8,rfl,i8,m8,s8⟩
 replace j:=zc (j.out.stp s8)
 replace o:=zc (o.out.stp s8)
 replace ag:=zc (ag.out.stp s8)
 have av:=zc (aq.out.step s8)
 clear aq
 have ay:=zc m8
 have ax:=zc i8
 clear i8 m8 s8 ai
 clear c0 c1 c2 c3 c4 c5 c6 c7 c8 c9 az aw cf
 obtain⟨b0,b1,b2,b3,b4,b5,b6,b7,b8,b9,aB,aC,bf⟩:=o.out.box
 unfold pv
 go_wp2
 refine bodyPost_ret (results_cell_row rfl _ _ (w.heap.size+1) 55 _ (0,0) _ rfl ((o.out.put ..)).heap Tryz.underlying55 rfl (by kernel_rfl)) rfl ?_
 rw[HV.out,←HQ.out,←an.out.bind (fun q _=>zd C 4 cSemi q)]
 exact zac rfl ax.out (ay.out.put o.out ..) (av.out.put (by omega) ..)
theorem zuX (C:Cx) (H E z:Nat) (S:Sv) (q:PS) (w:World) (hm:Mem C H E z S q w) (hw:isT C q.pos 1 sImport=true) (h1:isT C (q.pos+1) 4 zF=true):
  Calls Tryz.prog 48 #[pv C H E S q (-1) 0] w (Out C H E z (za3 C q) 0 S w):=by
 have HM:=zc hm
 have aG:=hm.few
 clear hm
 have HV:Hid (za3 C q=bd (zbB C false (adv q)) fun a=>bd (zaD C (zav C (.ok a.1))) fun b=>zK (fun e=>zX C (zbW b.2 e)) a.2 (.ok b.1)):=by
  show _=_
  rw[za3,zd,if_pos hw,zh]
  rw[zz,h1]
  rfl
 unfold pv
 go_enter Tryz.func48,Tryz.ntmps48
 go_wp2_with fail
 refine (zaT C H E z (.ok q) S q (-1) 0 sImport _ (zab q) ((HM.out.alloc _).alloc _)).mono ?_
 rintro e w1 ⟨S1,q1,z1,rfl,i1,m1,s1⟩
 obtain⟨O,Q,t1⟩:=HM.out.two2 s1
 have o:=zc O
 have D:=zc Q
 have ax:=zc m1
 have aK:=zc t1
 have aA:=zc i1
 clear O Q i1 m1 t1 s1
 obtain⟨ak,rfl⟩:=zdq aA.out hw
 have HQ:=zc ak
 have az:Hid (q1.pos=q.pos+1):=by show q1.pos=q.pos+1;rw[ak];rfl
 clear ak aA
 obtain⟨a0,a1,a2,a3,a4,a5,a6,a7,a8,a9,L,K,af⟩:=o.out.box
 unfold pv
 go_upto_region 2 with fail
 refine zQ (R:=fun W=>Bx H S1 W (w.heap.size) _∧Bx H S1 W (w.heap.size+1) _∧Mem C H E z S1 q1 W∧SB w.heap.size S w S1 W) ⟨(o.out.put ..),(D.out.other (by omega) ..),(ax.out.put o.out ..),(aK.out.put (by omega) ..)⟩ ?_
 clear a0 a1 a2 a3 a4 a5 a6 a7 a8 a9 L K af
 clear o D aK ax
 rintro w2 ⟨O,Q,m2,t2⟩
 have o:=zc O
 have D:=zc Q
 have ao:=zc m2
 have aP:=zc t2
 clear m2 t2 O Q
 obtain⟨a0,a1,a2,a3,a4,a5,a6,a7,a8,a9,L,K,af⟩:=o.out.box
 go_wp2_with fail
 refine (zj C H E z S1 q1 (-1) 0 4 zF _ ao.out.tok aG (by decide)).mono ?_
 rintro e w3 ⟨rfl,ac⟩
 rw[az.out,h1]
 replace o:=zc (o.out.below ac)
 replace D:=zc (D.out.below ac)
 have al:=zc (aP.out.below ac)
 have aL:=zc (ao.out.later ac)
 clear ac aP ao
 clear a0 a1 a2 a3 a4 a5 a6 a7 a8 a9 L K af
 obtain⟨a0,a1,a2,a3,a4,a5,a6,a7,a8,a9,L,K,af⟩:=o.out.box
 clear az
 have aZ:=al.out.size
 go_wp2_with fail
 refine (zm2 C H E z S1 q1 0 false _ aL.out).mono ?_
 rintro e w4 ⟨S4,q4,z4,⟨ra,rc⟩,l,rfl,i4,m4,s4,R0,hl⟩
 obtain⟨g,rfl⟩: ∃g,ra=some ⟨g,0,none⟩:=R0.addr
 replace o:=zc (o.out.stp s4)
 replace D:=zc (D.out.stp s4)
 have aJ:=zc (al.out.step s4)
 clear al
 have aj:=zc m4
 have aH:=zc i4
 clear i4 m4 s4 aL
 clear a0 a1 a2 a3 a4 a5 a6 a7 a8 a9 L K af
 have J:Hid (Row S4 w4 z w.heap.size ⟨some ⟨g,0,none⟩,rc⟩ l):=⟨R0.own,R0.free,fun k hk=>Nat.le_trans aZ (R0.new k hk),R0.addr⟩
 clear R0
 have ba:w.heap.size+1<w4.heap.size:=D.out.lt
 unfold pv
 go_upto_region 4 with fail
 refine zQ (R:=fun W=>Bx H S4 W (w.heap.size) _∧Bx H S4 W (w.heap.size+1) _∧Bx H S4 W (w4.heap.size) _∧Row S4 W z w.heap.size ⟨some ⟨g,0,none⟩,rc⟩ l∧Mem C H E z S4 q4 W∧SB w.heap.size S w S4 W) ⟨(o.out.alloc _),(D.out.alloc _),(Bx.new aj.out _),(J.out.alloc _),(aj.out.alloc _),(aJ.out.alloc _)⟩ ?_
 clear o D aJ aj
 clear J
 rintro w5 ⟨O,Q,X2,R0,m5,t5⟩
 have J:=zc R0
 clear R0
 have o:=zc O
 have D:=zc Q
 have I:=zc X2
 have ap:=zc m5
 have aC:=zc t5
 clear m5 t5 O Q X2
 obtain⟨c0,c1,c2,c3,c4,c5,c6,c7,c8,c9,aX,aS,cf⟩:=I.out.box
 go_wp2_with fail
 refine (zaT C H E z _ S4 q4 z4 0 zH _ aH.out.fst ap.out).mono ?_
 rintro e w6 ⟨S6,q6,z6,rfl,i6,m6,s6⟩
 replace o:=zc (o.out.stp s6)
 replace D:=zc (D.out.stp s6)
 replace I:=zc (I.out.stp s6)
 have aQ:=zc (aC.out.step s6)
 have U:Hid (Row S6 w6 z w.heap.size ⟨some ⟨g,0,none⟩,rc⟩ l):=J.out.stp s6
 clear J
 have J:=zc U
 clear U
 clear aC
 have aq:=zc m6
 have aV:=zc i6
 clear i6 m6 s6 ap
 clear c0 c1 c2 c3 c4 c5 c6 c7 c8 c9 aX aS cf
 go_wp2_with fail
 refine (zeD C H E z _ S6 q6 z6 0 _ aV.out aq.out).mono ?_
 rintro e w7 ⟨S7,q7,z7,n7,rfl,i7,m7,s7⟩
 replace o:=zc (o.out.stp s7)
 replace D:=zc (D.out.stp s7)
 replace I:=zc (I.out.stp s7)
 have aN:=zc (aQ.out.step s7)
 have U:Hid (Row S7 w7 z w.heap.size ⟨some ⟨g,0,none⟩,rc⟩ l):=J.out.stp s7
 clear J
 have J:=zc U
 clear U
 clear aQ
 have ai:=zc m7
 have aI:=zc i7
 clear i7 m7 s7 aq
 have bb:w.heap.size+1<w7.heap.size:=D.out.lt
 have aR:w4.heap.size<w7.heap.size:=I.out.lt
 unfold pv
 go_upto_region 5 with fail
 refine zQ (R:=fun W=>Bx H S7 W (w.heap.size) _∧Bx H S7 W (w.heap.size+1) _∧Bx H S7 W (w4.heap.size) _∧Bx H S7 W (w7.heap.size) _∧Row S7 W z w.heap.size ⟨some ⟨g,0,none⟩,rc⟩ l∧Mem C H E z S7 q7 W∧SB w.heap.size S w S7 W) ⟨(o.out.alloc _),(D.out.alloc _),(I.out.alloc _),(Bx.new ai.out _),(J.out.alloc _),(ai.out.alloc _),(aN.out.alloc _)⟩ ?_
 clear o D I aN ai
 clear J
 rintro w8 ⟨O,Q,X2,X3,R0,m8,t8⟩
 have J:=zc R0
 clear R0
 have o:=zc O
 have D:=zc Q
 have I:=zc X2
 have V:=zc X3
 have aD:=zc m8
 have au:=zc t8
 clear m8 t8 O Q X2 X3
 obtain⟨d0,d1,d2,d3,d4,d5,d6,d7,d8,d9,an,am,df⟩:=V.out.box
 go_wp2_with fail
 refine (zah C H E z _ S7 q7 z7 0 cSemi _ aI.out.fst aD.out).mono ?_
 rintro e w9 ⟨Z,q9,z9,rfl,i9,m9,s9⟩
 replace o:=zc (o.out.stp s9)
 replace D:=zc (D.out.stp s9)
 replace I:=zc (I.out.stp s9)
 replace V:=zc (V.out.stp s9)
 have ad:=zc (au.out.step s9)
 have U:Hid (Row Z w9 z w.heap.size ⟨some ⟨g,0,none⟩,rc⟩ l):=J.out.stp s9
 clear J
 have J:=zc U
 clear U
 clear au
 have ab:=zc m9
 have Y:=zc i9
 clear i9 m9 s9 aD
 clear d0 d1 d2 d3 d4 d5 d6 d7 d8 d9 an am df
 obtain⟨a0,a1,a2,a3,a4,a5,a6,a7,a8,a9,L,K,af⟩:=o.out.box
 unfold pv
 go_upto_region 6 with fail
 refine zQ (R:=fun W=>Bx H Z W (w.heap.size) _∧Bx H Z W (w.heap.size+1) _∧Bx H Z W (w4.heap.size) _∧Bx H Z W (w7.heap.size) _∧Row Z W z w.heap.size ⟨some ⟨g,0,none⟩,rc⟩ l∧Mem C H E z Z q9 W∧SB w.heap.size S w Z W) ⟨(o.out.put ..),(D.out.other (by omega) ..),(I.out.other (by omega) ..),(V.out.other (by omega) ..),(J.out.put o.out ..),(ab.out.put o.out ..),(ad.out.put (by omega) ..)⟩ ?_
 clear a0 a1 a2 a3 a4 a5 a6 a7 a8 a9 L K af
 clear o D I V ad ab
 clear J
 rintro aw ⟨O,Q,X2,X3,R0,aa,aM⟩
 have J:=zc R0
 clear R0
 have o:=zc O
 have D:=zc Q
 have I:=zc X2
 have V:=zc X3
 have X:=zc aa
 have ae:=zc aM
 clear aa aM O Q X2 X3
 have aT:Hid (_=_):=zjk (G:=fun b e=>zX C (zbW b e)) aH.out aI.out
 go_wp2
 go_loopg [8] l.length (fun k i wr=>∃(j:Nat) (x':PR) (N:Sv) (q':PS) (z':Int),j≤l.length∧i= .int .i64 j∧Is x' q' z'∧(z'<0→1≤q'.pos)∧zK (fun e=>zX C (zbW n7 e)) (l.drop j) x'=za3 C q∧l.length-j=k∧Mem C H E z N q' wr∧SB w.heap.size S w N wr∧Bx H N wr w.heap.size #[.slice (some ⟨H,0,none⟩) C.ts.length E,.int .i64 q'.pos,.int .i64 C.fin,.bool C.scr,.slice N.rq.a q'.rq.length N.rq.cap,.slice N.im.a q'.im.length N.im.cap,.slice N.ep.a q'.ep.length N.ep.cap,.slice N.st.a q'.st.length N.st.cap,.slice N.ex.a q'.ex.length N.ex.cap,.slice N.la.a q'.la.length N.la.cap,.int .i64 z',.int .i64 0]∧Bx H N wr (w.heap.size+1) #[.slice none 0 0,.int .i64 0,.int .i64 0,.bool false,.slice none 0 0,.slice none 0 0,.slice none 0 0,.slice none 0 0,.slice none 0 0,.slice none 0 0,.int .i64 0,.int .i64 0]∧Row N wr z w.heap.size ⟨some ⟨g,0,none⟩,rc⟩ l)
 case atStart=>exact⟨0,_,Z,q9,z9,Nat.zero_le _,rfl,Y.out,zb5 Y.out,by rw[HV.out,←HQ.out];exact aT.out,rfl,X.out,ae.out,o.out,D.out,J.out⟩
 case round=>
  obtain⟨j,x9,Z,q9,z9,hj,rfl,i9,p9,e9,g9,m9,t9,O,Q,R0⟩:=hrel
  clear o D I V J X ae
  have o:=zc O
  have D:=zc Q
  have ab:=zc m9
  have ad:=zc t9
  have Y:=zc i9
  have ar:=zc p9
  have aB:=zc e9
  have av:=zc g9
  have J:=zc R0
  clear O Q i9 m9 t9 e9 g9 R0 p9
  by_cases aF:j<l.length
  ·skip
   obtain⟨c1,c2⟩:=J.out.cells (g:=g) rfl aF
   have be:=J.out.own.lt (g:=g) rfl
   have HX:Hid (∀e,e=l[j]→zK (fun e=>zX C (zbW n7 e)) (l.drop (j+1)) (bd x9 (zX C (zbW n7 e)))=za3 C q):=fun e he=>by rw[he,←aB.out];exact (zht (fun e=>zX C (zbW n7 e)) l x9 aF).symm
   generalize ay:l[j]=el at c1 c2
   have aU:Hid (el=l[j]):=ay.symm
   clear ay
   obtain⟨a0,a1,a2,a3,a4,a5,a6,a7,a8,a9,L,K,af⟩:=o.out.box
   go_upto_region 9 with fail
   go_region_law (first|(go_simp;go_wp2_with (go_at_call 98;refine (zhR C H E z x9 Z q9 z9 0 (zbW n7 el) _ Y.out ab.out.drew ar.out).mono ?_;rintro e aw ⟨aO,aW,aY,rfl,aE,aa,ah⟩;obtain⟨d0,d1,d2,d3,d4,d5,d6,d7,d8,d9,an,am,df⟩:=(o.out.stp ah.undrew).box;unfold pv)))
   all_goals
    clear a0 a1 a2 a3 a4 a5 a6 a7 a8 a9 L K af d0 d1 d2 d3 d4 d5 d6 d7 d8 d9 an am df
    have ag:=zc aE
    have X:=zc aa
    have M:Hid (Stp Z wr aO aw):=ah.undrew
    clear aE aa ah
    go_wp2
    go_roundg (gk-1)
    case rel=>exact⟨j+1,_,aO,aW,aY,by omega,by go_num,ag.out,zuT ar.out Y.out ag.out,HX.out el aU.out,by have:=av.out;omega,X.out.put (o.out.stp M.out) _ _ _ _ _ _ _ _ _ _ _ _,(ad.out.step M.out).put (by omega) _ _ _ _ _ _ _ _ _ _ _ _,(o.out.stp M.out).put _ _ _ _ _ _ _ _ _ _ _ _,(D.out.stp M.out).other (by omega) _ _ _ _ _ _ _ _ _ _ _ _,(J.out.stp M.out).put (o.out.stp M.out) _ _ _ _ _ _ _ _ _ _ _ _⟩
    case measure=>have:=av.out;omega
  ·skip
   obtain⟨a0,a1,a2,a3,a4,a5,a6,a7,a8,a9,L,K,af⟩:=o.out.box
   obtain⟨b0,b1,b2,b3,b4,b5,b6,b7,b8,b9,bc,bg,bf⟩:=D.out.box
   go_wp2
   refine bodyPost_ret (results_cell_row rfl _ _ (w.heap.size+1) 55 _ (0,0) _ rfl ((D.out.put ..)).heap Tryz.underlying55 rfl (by kernel_rfl)) rfl ?_
   exact zac rfl (show Is (za3 C q) q9 z9 from by rw[←aB.out,List.drop_eq_nil_of_le (by omega)];exact Y.out) (ab.out.put D.out ..) (ad.out.put (by omega) ..)
theorem zuY {C:Cx} {k:Int} {n:ByteArray} {q q':PS} (h:zE C k n q= .ok q'):q'={q with st:=q.st++[⟨k,n,(q.ex.length:Int)-1⟩]}∧q.st.length<80:=by
 unfold zE at h
 split at h
 ·cases h
 ·cases h
  exact⟨rfl,by omega⟩
theorem zmH {C:Cx} {x:PR} {k:Int} {s:ByteArray} {j:Int} {n:ByteArray} {q:PS} {z:Int} (h:Is (bd (bd x (zd C k s)) (zE C j n)) q z):z<0→1≤q.pos:=by
 intro o
 obtain⟨e,_⟩:=zaF h o
 obtain⟨a,D,E⟩:=ze e
 obtain⟨b,_,H⟩:=ze D
 obtain⟨rfl,_⟩:=zbh H
 obtain⟨rfl,_⟩:=zuY E
 simp[adv]
theorem zmI {C:Cx} {y:PRN} {G:PR→PR} {k:Int} {s:ByteArray} {j:Int} {q:PS} {z:Int} {n:ByteArray} (h:Is2 (withN y fun x n=>bd (bd (G x) (zd C k s)) (zE C j n)) q z n):z<0→1≤q.pos:=by
 intro E
 cases y with
 |error e=>have:z=(e:Int):=h;omega
 |ok a=>
  have o:Is2 (bd (bd (bd (G (.ok a.1)) (zd C k s)) (zE C j a.2)) fun q=>.ok (q,a.2)) q z n:=h
  cases D:bd (bd (G (.ok a.1)) (zd C k s)) (zE C j a.2) with
  |error e=>rw[D] at o;have:z=(e:Int):=o;omega
  |ok b=>
   rw[D] at o
   obtain⟨rfl,rfl,_⟩:=o
   exact zmH (show Is (bd (bd (G (.ok a.1)) (zd C k s)) (zE C j a.2)) q (-1) by rw[D];exact⟨rfl,rfl⟩) (by decide)
theorem zuZ {C:Cx} {j q:PS} {z:Int} {n:ByteArray} (h:Is2 (zbA C j) q z n):z<0→1≤q.pos:=zmI (G:=fun x=>bd (bd x (zd C 4 cEq)) (pE C .sum 0)) h
theorem zva {C:Cx} {j q:PS} {z:Int} {n:ByteArray} (h:Is2 (fnP C j) q z n):z<0→1≤q.pos:=zmI (G:=fun x=>bd (bd (bd (bd (bd (bd x (zd C 4 cOpen)) (zd C 4 zU)) (zd C 4 zF)) (zd C 1 zdw)) (pE C .sum 0)) (zd C 4 cSemi)) h
theorem zvb {C:Cx} {x:PR} {D:PS} {H:Int} {o:ByteArray} {G:ByteArray→PS→PR} (j:Is2 (bd (bd x (zd C 1 zH)) (zy C)) D H o):
  bd (bd (za7 (bd (bd x (zd C 1 zH)) (zy C))) (zd C 4 cSemi)) (G o)=bd (zaD C (zav C x)) fun b=>G b.2 b.1:=by
 have E:bd (bd x (zd C 1 zH)) (zy C)=zav C x:=rfl
 rw[E] at j ⊢
 cases z:zav C x with
 |error e=>rfl
 |ok b=>
  rw[z] at j
  obtain⟨_,_,rfl⟩:=j
  show bd (zd C 4 cSemi b.1) (G b.2)=bd (bd (zd C 4 cSemi b.1) fun q=>.ok (q,b.2)) fun b=>G b.2 b.1
  rw[zR]
  rfl
theorem zvc {C:Cx} {y:PRL} {j:PS} {o:Int} {l:List Ep} {f:Ep→PS→PR} {D:PS×List Ep→PR} (E:Is3 y j o l) (H:za2 l=false) (z:(decide (o<0)&&isT C j.pos 1 zH)=false):
  zK f l (bd (zgk y) (zd C 4 cSemi))=bd y fun a=>if !za2 a.2&& !isT C a.1.pos 1 zH then bd (zd C 4 cSemi a.1) fun q=>zK f a.2 (.ok q) else D a:=by
 cases y with
 |error e=>exact zgj _ _ _
 |ok a=>
  obtain⟨rfl,rfl,rfl⟩:=E
  rw[Bool.and_eq_false_iff] at z
  rw[zh,H,z.resolve_left (by decide)]
  show zK f a.2 (zd C 4 cSemi a.1)=bd (zd C 4 cSemi a.1) fun q=>zK f a.2 (.ok q)
  cases zd C 4 cSemi a.1 with
  |error e=>exact zgj _ _ _
  |ok c=>rfl
theorem zmJ {C:Cx} {y:PRL} {z:PS} {o:Int} {l:List Ep} {D E:PS×List Ep→PR} (H:Is3 y z o l) (j:za2 l=true∨(decide (o<0)&&isT C z.pos 1 zH)=true):
  bd y D=bd y fun a=>if !za2 a.2&& !isT C a.1.pos 1 zH then E a else D a:=by
 cases y with
 |error e=>rfl
 |ok a=>
  obtain⟨rfl,rfl,rfl⟩:=H
  rw[zh,zh]
  rcases j with h|h
  ·rw[h];rfl
  ·rw[Bool.and_eq_true] at h
   rw[h.2,Bool.not_true,Bool.and_false]
   rfl
theorem zvd (C:Cx) (E D z:Nat) (S:Sv) (q:PS) (w:World) (hm:Mem C E D z S q w) (hw:isT C q.pos 1 sExport=true) (h1:isT C (q.pos+1) 4 zF=false) (h2:isT C (q.pos+1) 4 zp=true):
  Calls Tryz.prog 49 #[pv C E D S q (-1) 0] w (Out C E D z (zV C q) 0 S w):=by
 have HM:=zc hm
 have O:=hm.few
 clear hm
 have HV:Hid (zV C q=bd (zaD C (zav C (bd (.ok (adv q)) (zd C 4 zp)))) fun b=>zm C ⟨3,sNone,sNone,b.2⟩ b.1):=by
  show _=_
  rw[zV,zd,if_pos hw,zh]
  rw[zz,h1,h2]
  rfl
 unfold pv
 go_enter Tryz.func49,Tryz.ntmps49
 go_wp2_with fail
 refine (zaT C E D z (.ok q) S q (-1) 0 sExport _ (zab q) ((HM.out.alloc _).alloc _)).mono ?_
 rintro e w1 ⟨Z,U,z1,rfl,i1,m1,s1⟩
 obtain⟨N,Q,t1⟩:=HM.out.two2 s1
 have j:=zc N
 have o:=zc Q
 have ak:=zc m1
 have au:=zc t1
 have al:=zc i1
 clear N Q i1 m1 t1 s1
 obtain⟨Y,rfl⟩:=zdq al.out hw
 have HQ:=zc Y
 have aa:Hid (U.pos=q.pos+1):=by show U.pos=q.pos+1;rw[Y];rfl
 clear Y al
 obtain⟨a0,a1,a2,a3,a4,a5,a6,a7,a8,V,I,H,af⟩:=j.out.box
 unfold pv
 go_upto_region 2 with fail
 refine zQ (R:=fun W=>Bx E Z W (w.heap.size) _∧Bx E Z W (w.heap.size+1) _∧Mem C E D z Z U W∧SB w.heap.size S w Z W) ⟨(j.out.put ..),(o.out.other (by omega) ..),(ak.out.put j.out ..),(au.out.put (by omega) ..)⟩ ?_
 clear a0 a1 a2 a3 a4 a5 a6 a7 a8 V I H af
 clear j o au ak
 rintro w2 ⟨N,Q,m2,t2⟩
 have j:=zc N
 have o:=zc Q
 have ac:=zc m2
 have ax:=zc t2
 clear m2 t2 N Q
 obtain⟨a0,a1,a2,a3,a4,a5,a6,a7,a8,V,I,H,af⟩:=j.out.box
 go_wp2_with fail
 refine (zj C E D z Z U (-1) 0 4 zF _ ac.out.tok O (by decide)).mono ?_
 rintro e w3 ⟨rfl,M⟩
 rw[aa.out,h1]
 replace j:=zc (j.out.below M)
 replace o:=zc (o.out.below M)
 have aj:=zc (ax.out.below M)
 have ab:=zc (ac.out.later M)
 clear M ax ac
 clear a0 a1 a2 a3 a4 a5 a6 a7 a8 V I H af
 obtain⟨a0,a1,a2,a3,a4,a5,a6,a7,a8,V,I,H,af⟩:=j.out.box
 go_wp2_with fail
 refine (zj C E D z Z U (-1) 0 4 zp _ ab.out.tok O (by decide)).mono ?_
 rintro e w4 ⟨rfl,K⟩
 rw[aa.out,h2]
 replace j:=zc (j.out.below K)
 replace o:=zc (o.out.below K)
 have ar:=zc (aj.out.below K)
 have ai:=zc (ab.out.later K)
 clear K aj ab
 clear a0 a1 a2 a3 a4 a5 a6 a7 a8 V I H af
 obtain⟨a0,a1,a2,a3,a4,a5,a6,a7,a8,V,I,H,af⟩:=j.out.box
 clear aa
 go_wp2_with fail
 refine (zah C E D z (.ok U) Z U (-1) 0 zp _ (zab U) ai.out).mono ?_
 rintro e w5 ⟨S5,q5,z5,rfl,i5,m5,s5⟩
 replace j:=zc (j.out.stp s5)
 replace o:=zc (o.out.stp s5)
 have an:=zc (ar.out.step s5)
 clear ar
 have ad:=zc m5
 have aG:=zc i5
 clear i5 m5 s5 ai
 clear a0 a1 a2 a3 a4 a5 a6 a7 a8 V I H af
 go_wp2_with fail
 refine (zaT C E D z _ S5 q5 z5 0 zH _ aG.out ad.out).mono ?_
 rintro e w6 ⟨S6,q6,z6,rfl,i6,m6,s6⟩
 replace j:=zc (j.out.stp s6)
 replace o:=zc (o.out.stp s6)
 have ay:=zc (an.out.step s6)
 clear an
 have ae:=zc m6
 have aE:=zc i6
 clear i6 m6 s6 ad
 go_wp2_with fail
 refine (zeD C E D z _ S6 q6 z6 0 _ aE.out ae.out).mono ?_
 rintro e w7 ⟨S7,q7,z7,n7,rfl,i7,m7,s7⟩
 replace j:=zc (j.out.stp s7)
 replace o:=zc (o.out.stp s7)
 have av:=zc (ay.out.step s7)
 clear ay
 have X:=zc m7
 have aq:=zc i7
 clear i7 m7 s7 ae
 have aH:w.heap.size+1<w7.heap.size:=o.out.lt
 unfold pv
 go_upto_region 20 with fail
 refine zQ (R:=fun W=>Bx E S7 W (w.heap.size) _∧Bx E S7 W (w.heap.size+1) _∧Bx E S7 W (w7.heap.size) _∧Mem C E D z S7 q7 W∧SB w.heap.size S w S7 W) ⟨(j.out.alloc _),(o.out.alloc _),(Bx.new X.out _),(X.out.alloc _),(av.out.alloc _)⟩ ?_
 clear j o av X
 rintro w8 ⟨N,Q,X2,m8,t8⟩
 have j:=zc N
 have o:=zc Q
 have L:=zc X2
 have ao:=zc m8
 have ag:=zc t8
 clear m8 t8 N Q X2
 obtain⟨c0,c1,c2,c3,c4,c5,c6,c7,c8,c9,aF,aD,cf⟩:=L.out.box
 go_wp2_with fail
 refine (zah C E D z _ S7 q7 z7 0 cSemi _ aq.out.fst ao.out).mono ?_
 rintro e w9 ⟨S9,q9,z9,rfl,i9,m9,s9⟩
 replace j:=zc (j.out.stp s9)
 replace o:=zc (o.out.stp s9)
 replace L:=zc (L.out.stp s9)
 have aB:=zc (ag.out.step s9)
 clear ag
 have aw:=zc m9
 have az:=zc i9
 clear i9 m9 s9 ao
 clear c0 c1 c2 c3 c4 c5 c6 c7 c8 c9 aF aD cf
 go_wp2_with fail
 refine (zeq C E D z _ S9 q9 z9 0 ⟨3,sNone,sNone,n7⟩ _ az.out aw.out (zb5 az.out)).mono ?_
 rintro e aJ ⟨aL,aK,aM,rfl,ap,ah,J⟩
 replace j:=zc (j.out.stp J)
 replace o:=zc (o.out.stp J)
 replace L:=zc (L.out.stp J)
 have aA:=zc (aB.out.step J)
 clear aB
 have am:=zc ah
 have aC:=zc ap
 clear ap ah J aw
 obtain⟨b0,b1,b2,b3,b4,b5,b6,b7,b8,b9,aI,aN,bf⟩:=o.out.box
 unfold pv
 go_wp2
 refine bodyPost_ret (results_cell_row rfl _ _ (w.heap.size+1) 55 _ (0,0) _ rfl ((o.out.put ..)).heap Tryz.underlying55 rfl (by kernel_rfl)) rfl ?_
 rw[HV.out,←HQ.out,←zvb (G:=fun b=>zm C ⟨3,sNone,sNone,b⟩) aq.out]
 exact zac rfl aC.out (am.out.put o.out ..) (aA.out.put (by omega) ..)
theorem zve (C:Cx) (H D z:Nat) (S:Sv) (q:PS) (w:World) (hm:Mem C H D z S q w) (hw:isT C q.pos 1 sExport=true) (h1:isT C (q.pos+1) 4 zF=false) (h2:isT C (q.pos+1) 4 zp=false) (h3:isT C (q.pos+1) 1 sDefault=true):
  Calls Tryz.prog 49 #[pv C H D S q (-1) 0] w (Out C H D z (zV C q) 0 S w):=by
 have HM:=zc hm
 have L:=hm.few
 clear hm
 have HV:Hid (zV C q=bd (bd (bd (bd (bd (.ok (adv q)) (zd C 1 sDefault)) (pE C .sum 0)) (zd C 4 cSemi)) (zE C 1 zbp)) (zm C ⟨1,sDefault,zbp,sNone⟩)):=by
  show _=_
  rw[zV,zd,if_pos hw,zh]
  rw[zz,h1,h2,h3]
  rfl
 unfold pv
 go_enter Tryz.func49,Tryz.ntmps49
 go_wp2_with fail
 refine (zaT C H D z (.ok q) S q (-1) 0 sExport _ (zab q) ((HM.out.alloc _).alloc _)).mono ?_
 rintro e w1 ⟨S1,q1,z1,rfl,i1,m1,s1⟩
 obtain⟨X0,X1,t1⟩:=HM.out.two2 s1
 have j:=zc X0
 have o:=zc X1
 have aq:=zc m1
 have ax:=zc t1
 have ar:=zc i1
 clear X0 X1 i1 m1 t1 s1
 obtain⟨ae,rfl⟩:=zdq ar.out hw
 have HQ:=zc ae
 have X:Hid (q1.pos=q.pos+1):=by show q1.pos=q.pos+1;rw[ae];rfl
 clear ae ar
 obtain⟨a0,a1,V,a3,a4,a5,a6,Z,a8,U,I,E,Y⟩:=j.out.box
 unfold pv
 go_upto_region 2 with fail
 refine zQ (R:=fun W=>Bx H S1 W (w.heap.size) _∧Bx H S1 W (w.heap.size+1) _∧Mem C H D z S1 q1 W∧SB w.heap.size S w S1 W) ⟨(j.out.put ..),(o.out.other (by omega) ..),(aq.out.put j.out ..),(ax.out.put (by omega) ..)⟩ ?_
 clear a0 a1 V a3 a4 a5 a6 Z a8 U I E Y
 clear j o ax aq
 rintro w2 ⟨X0,X1,m2,t2⟩
 have j:=zc X0
 have o:=zc X1
 have ai:=zc m2
 have aE:=zc t2
 clear m2 t2 X0 X1
 obtain⟨a0,a1,V,a3,a4,a5,a6,Z,a8,U,I,E,Y⟩:=j.out.box
 go_wp2_with fail
 refine (zj C H D z S1 q1 (-1) 0 4 zF _ ai.out.tok L (by decide)).mono ?_
 rintro e w3 ⟨rfl,Q⟩
 rw[X.out,h1]
 replace j:=zc (j.out.below Q)
 replace o:=zc (o.out.below Q)
 have ao:=zc (aE.out.below Q)
 have ah:=zc (ai.out.later Q)
 clear Q aE ai
 clear a0 a1 V a3 a4 a5 a6 Z a8 U I E Y
 obtain⟨a0,a1,V,a3,a4,a5,a6,Z,a8,U,I,E,Y⟩:=j.out.box
 go_wp2_with fail
 refine (zj C H D z S1 q1 (-1) 0 4 zp _ ah.out.tok L (by decide)).mono ?_
 rintro e w4 ⟨rfl,M⟩
 rw[X.out,h2]
 replace j:=zc (j.out.below M)
 replace o:=zc (o.out.below M)
 have aw:=zc (ao.out.below M)
 have ad:=zc (ah.out.later M)
 clear M ao ah
 clear a0 a1 V a3 a4 a5 a6 Z a8 U I E Y
 obtain⟨a0,a1,V,a3,a4,a5,a6,Z,a8,U,I,E,Y⟩:=j.out.box
 go_wp2_with fail
 refine (zj C H D z S1 q1 (-1) 0 1 sDefault _ ad.out.tok L (by decide)).mono ?_
 rintro e w5 ⟨rfl,J⟩
 rw[X.out,h3]
 replace j:=zc (j.out.below J)
 replace o:=zc (o.out.below J)
 have au:=zc (aw.out.below J)
 have aj:=zc (ad.out.later J)
 clear J aw ad
 clear a0 a1 V a3 a4 a5 a6 Z a8 U I E Y
 obtain⟨a0,a1,V,a3,a4,a5,a6,Z,a8,U,I,E,Y⟩:=j.out.box
 clear X
 go_wp2_with fail
 refine (zaT C H D z (.ok q1) S1 q1 (-1) 0 sDefault _ (zab q1) aj.out).mono ?_
 rintro e w6 ⟨S6,q6,z6,rfl,i6,m6,s6⟩
 replace j:=zc (j.out.stp s6)
 replace o:=zc (o.out.stp s6)
 have aF:=zc (au.out.step s6)
 clear au
 have ak:=zc m6
 have aJ:=zc i6
 clear i6 m6 s6 aj
 clear a0 a1 V a3 a4 a5 a6 Z a8 U I E Y
 go_wp2_with fail
 refine (zdp C H D z _ S6 q6 z6 _ aJ.out ak.out).mono ?_
 rintro e w7 ⟨S7,q7,z7,rfl,i7,m7,s7⟩
 replace j:=zc (j.out.stp s7)
 replace o:=zc (o.out.stp s7)
 have aB:=zc (aF.out.step s7)
 clear aF
 have an:=zc m7
 have aK:=zc i7
 clear i7 m7 s7 ak
 go_wp2_with fail
 refine (zah C H D z _ S7 q7 z7 0 cSemi _ aK.out an.out).mono ?_
 rintro e w8 ⟨S8,q8,z8,rfl,i8,m8,s8⟩
 replace j:=zc (j.out.stp s8)
 replace o:=zc (o.out.stp s8)
 have al:=zc (aB.out.step s8)
 clear aB
 have ag:=zc m8
 have ap:=zc i8
 clear i8 m8 s8 an
 have aP:w.heap.size+1<w8.heap.size:=o.out.lt
 unfold pv
 go_upto_region 23 with fail
 refine zQ (R:=fun W=>Bx H S8 W (w.heap.size) _∧Bx H S8 W (w.heap.size+1) _∧Bx H S8 W (w8.heap.size) _∧Mem C H D z S8 q8 W∧SB w.heap.size S w S8 W) ⟨(j.out.alloc _),(o.out.alloc _),(Bx.new ag.out _),(ag.out.alloc _),(al.out.alloc _)⟩ ?_
 clear j o al ag
 rintro w9 ⟨X0,X1,X2,m9,t9⟩
 have j:=zc X0
 have o:=zc X1
 have O:=zc X2
 have aC:=zc m9
 have aH:=zc t9
 clear m9 t9 X0 X1 X2
 obtain⟨c0,c1,c2,c3,c4,c5,c6,c7,c8,c9,aM,aI,cf⟩:=O.out.box
 go_wp2_with fail
 refine (zcY C H D z _ S8 q8 z8 0 1 zbp _ ap.out aC.out (zb5 ap.out)).mono ?_
 rintro e aT ⟨aN,aL,aO,rfl,av,am,K⟩
 replace j:=zc (j.out.stp K)
 replace o:=zc (o.out.stp K)
 replace O:=zc (O.out.stp K)
 have ab:=zc (aH.out.step K)
 clear aH
 have aa:=zc am
 have ac:=zc av
 clear av am K aC
 clear c0 c1 c2 c3 c4 c5 c6 c7 c8 c9 aM aI cf
 go_wp2_with fail
 refine (zeq C H D z _ aN aL aO 0 ⟨1,sDefault,zbp,sNone⟩ _ ac.out aa.out (zmH ac.out)).mono ?_
 rintro e aR ⟨aS,aV,aU,rfl,aA,ay,N⟩
 replace j:=zc (j.out.stp N)
 replace o:=zc (o.out.stp N)
 replace O:=zc (O.out.stp N)
 have aD:=zc (ab.out.step N)
 clear ab
 have az:=zc ay
 have aG:=zc aA
 clear aA ay N aa
 obtain⟨b0,b1,b2,b3,b4,b5,b6,b7,b8,b9,aQ,aW,bf⟩:=o.out.box
 unfold pv
 go_wp2
 refine bodyPost_ret (results_cell_row rfl _ _ (w.heap.size+1) 55 _ (0,0) _ rfl ((o.out.put ..)).heap Tryz.underlying55 rfl (by kernel_rfl)) rfl ?_
 rw[HV.out,←HQ.out]
 exact zac rfl aG.out (az.out.put o.out ..) (aD.out.put (by omega) ..)
theorem zvf (C:Cx) (I D z:Nat) (S:Sv) (q:PS) (w:World) (hm:Mem C I D z S q w) (hw:isT C q.pos 1 sExport=true) (h1:isT C (q.pos+1) 4 zF=false) (h2:isT C (q.pos+1) 4 zp=false) (h3:isT C (q.pos+1) 1 sDefault=false) (h4:isT C (q.pos+1) 1 sLet=true):
  Calls Tryz.prog 49 #[pv C I D S q (-1) 0] w (Out C I D z (zV C q) 0 S w):=by
 have HM:=zc hm
 have J:=hm.few
 clear hm
 have HV:Hid (zV C q=bd (zbA C (adv q)) fun a=>zm C ⟨1,a.2,a.2,sNone⟩ a.1):=by
  show _=_
  rw[zV,zd,if_pos hw,zh]
  rw[zz,h1,h2,h3,h4]
  rfl
 unfold pv
 go_enter Tryz.func49,Tryz.ntmps49
 go_wp2_with fail
 refine (zaT C I D z (.ok q) S q (-1) 0 sExport _ (zab q) ((HM.out.alloc _).alloc _)).mono ?_
 rintro e w1 ⟨S1,q1,z1,rfl,i1,m1,s1⟩
 obtain⟨X0,X1,t1⟩:=HM.out.two2 s1
 have j:=zc X0
 have o:=zc X1
 have an:=zc m1
 have au:=zc t1
 have ao:=zc i1
 clear X0 X1 i1 m1 t1 s1
 obtain⟨ae,rfl⟩:=zdq ao.out hw
 have HQ:=zc ae
 have N:Hid (q1.pos=q.pos+1):=by show q1.pos=q.pos+1;rw[ae];rfl
 clear ae ao
 obtain⟨X,a1,M,a3,a4,Z,Y,V,a8,L,H,E,Q⟩:=j.out.box
 unfold pv
 go_upto_region 2 with fail
 refine zQ (R:=fun W=>Bx I S1 W (w.heap.size) _∧Bx I S1 W (w.heap.size+1) _∧Mem C I D z S1 q1 W∧SB w.heap.size S w S1 W) ⟨(j.out.put ..),(o.out.other (by omega) ..),(an.out.put j.out ..),(au.out.put (by omega) ..)⟩ ?_
 clear X a1 M a3 a4 Z Y V a8 L H E Q
 clear j o au an
 rintro w2 ⟨X0,X1,m2,t2⟩
 have j:=zc X0
 have o:=zc X1
 have ai:=zc m2
 have aw:=zc t2
 clear m2 t2 X0 X1
 obtain⟨X,a1,M,a3,a4,Z,Y,V,a8,L,H,E,Q⟩:=j.out.box
 go_wp2_with fail
 refine (zj C I D z S1 q1 (-1) 0 4 zF _ ai.out.tok J (by decide)).mono ?_
 rintro e w3 ⟨rfl,aa⟩
 rw[N.out,h1]
 replace j:=zc (j.out.below aa)
 replace o:=zc (o.out.below aa)
 have am:=zc (aw.out.below aa)
 have ah:=zc (ai.out.later aa)
 clear aa aw ai
 clear X a1 M a3 a4 Z Y V a8 L H E Q
 obtain⟨X,a1,M,a3,a4,Z,Y,V,a8,L,H,E,Q⟩:=j.out.box
 go_wp2_with fail
 refine (zj C I D z S1 q1 (-1) 0 4 zp _ ah.out.tok J (by decide)).mono ?_
 rintro e w4 ⟨rfl,U⟩
 rw[N.out,h2]
 replace j:=zc (j.out.below U)
 replace o:=zc (o.out.below U)
 have ar:=zc (am.out.below U)
 have ad:=zc (ah.out.later U)
 clear U am ah
 clear X a1 M a3 a4 Z Y V a8 L H E Q
 obtain⟨X,a1,M,a3,a4,Z,Y,V,a8,L,H,E,Q⟩:=j.out.box
 go_wp2_with fail
 refine (zj C I D z S1 q1 (-1) 0 1 sDefault _ ad.out.tok J (by decide)).mono ?_
 rintro e w5 ⟨rfl,K⟩
 rw[N.out,h3]
 replace j:=zc (j.out.below K)
 replace o:=zc (o.out.below K)
 have ap:=zc (ar.out.below K)
 have ab:=zc (ad.out.later K)
 clear K ar ad
 clear X a1 M a3 a4 Z Y V a8 L H E Q
 obtain⟨X,a1,M,a3,a4,Z,Y,V,a8,L,H,E,Q⟩:=j.out.box
 go_wp2_with fail
 refine (zj C I D z S1 q1 (-1) 0 1 sLet _ ab.out.tok J (by decide)).mono ?_
 rintro e w6 ⟨rfl,O⟩
 rw[N.out,h4]
 replace j:=zc (j.out.below O)
 replace o:=zc (o.out.below O)
 have ax:=zc (ap.out.below O)
 have ak:=zc (ab.out.later O)
 clear O ap ab
 clear X a1 M a3 a4 Z Y V a8 L H E Q
 obtain⟨X,a1,M,a3,a4,Z,Y,V,a8,L,H,E,Q⟩:=j.out.box
 clear N
 go_wp2_with fail
 refine (zji C I D z S1 q1 _ ak.out).mono ?_
 rintro e w7 ⟨S7,q7,z7,n7,rfl,i7,m7,s7⟩
 replace j:=zc (j.out.stp s7)
 replace o:=zc (o.out.stp s7)
 have av:=zc (ax.out.step s7)
 clear ax
 have ac:=zc m7
 have ag:=zc i7
 clear i7 m7 s7 ak
 clear X a1 M a3 a4 Z Y V a8 L H E Q
 have aD:w.heap.size+1<w7.heap.size:=o.out.lt
 unfold pv
 go_upto_region 26 with fail
 refine zQ (R:=fun W=>Bx I S7 W (w.heap.size) _∧Bx I S7 W (w.heap.size+1) _∧Bx I S7 W (w7.heap.size) _∧Mem C I D z S7 q7 W∧SB w.heap.size S w S7 W) ⟨(j.out.alloc _),(o.out.alloc _),(Bx.new ac.out _),(ac.out.alloc _),(av.out.alloc _)⟩ ?_
 clear j o av ac
 rintro w8 ⟨X0,X1,X2,m8,t8⟩
 have j:=zc X0
 have o:=zc X1
 have aj:=zc X2
 have aq:=zc m8
 have al:=zc t8
 clear m8 t8 X0 X1 X2
 obtain⟨c0,c1,c2,c3,c4,c5,c6,c7,c8,c9,az,ay,cf⟩:=aj.out.box
 go_wp2_with fail
 refine (zeq C I D z _ S7 q7 z7 0 ⟨1,n7,n7,sNone⟩ _ ag.out.fst aq.out (zuZ ag.out)).mono ?_
 rintro e w9 ⟨S9,q9,z9,rfl,i9,m9,s9⟩
 replace j:=zc (j.out.stp s9)
 replace o:=zc (o.out.stp s9)
 replace aj:=zc (aj.out.stp s9)
 have aC:=zc (al.out.step s9)
 clear al
 have aA:=zc m9
 have aB:=zc i9
 clear i9 m9 s9 aq
 clear c0 c1 c2 c3 c4 c5 c6 c7 c8 c9 az ay cf
 obtain⟨b0,b1,b2,b3,b4,b5,b6,b7,b8,b9,aE,aF,bf⟩:=o.out.box
 unfold pv
 go_wp2
 refine bodyPost_ret (results_cell_row rfl _ _ (w.heap.size+1) 55 _ (0,0) _ rfl ((o.out.put ..)).heap Tryz.underlying55 rfl (by kernel_rfl)) rfl ?_
 rw[HV.out,←HQ.out,←ag.out.bind (fun q n=>zm C ⟨1,n,n,sNone⟩ q)]
 exact zac rfl aB.out (aA.out.put o.out ..) (aC.out.put (by omega) ..)
theorem zvg (C:Cx) (I D z:Nat) (S:Sv) (q:PS) (w:World) (hm:Mem C I D z S q w) (hw:isT C q.pos 1 sExport=true) (h1:isT C (q.pos+1) 4 zF=false) (h2:isT C (q.pos+1) 4 zp=false) (h3:isT C (q.pos+1) 1 sDefault=false) (h4:isT C (q.pos+1) 1 sLet=false) (h5:isT C (q.pos+1) 1 sFunction=true):
  Calls Tryz.prog 49 #[pv C I D S q (-1) 0] w (Out C I D z (zV C q) 0 S w):=by
 have HM:=zc hm
 have J:=hm.few
 clear hm
 have HV:Hid (zV C q=bd (fnP C (adv q)) fun a=>zm C ⟨1,a.2,a.2,sNone⟩ a.1):=by
  show _=_
  rw[zV,zd,if_pos hw,zh]
  rw[zz,h1,h2,h3,h4,h5]
  rfl
 unfold pv
 go_enter Tryz.func49,Tryz.ntmps49
 go_wp2_with fail
 refine (zaT C I D z (.ok q) S q (-1) 0 sExport _ (zab q) ((HM.out.alloc _).alloc _)).mono ?_
 rintro e w1 ⟨S1,q1,z1,rfl,i1,m1,s1⟩
 obtain⟨X0,X1,t1⟩:=HM.out.two2 s1
 have j:=zc X0
 have o:=zc X1
 have aw:=zc m1
 have aC:=zc t1
 have ax:=zc i1
 clear X0 X1 i1 m1 t1 s1
 obtain⟨ak,rfl⟩:=zdq ax.out hw
 have HQ:=zc ak
 have M:Hid (q1.pos=q.pos+1):=by show q1.pos=q.pos+1;rw[ak];rfl
 clear ak ax
 obtain⟨Q,X,L,Y,a4,V,U,O,Z,K,H,E,N⟩:=j.out.box
 unfold pv
 go_upto_region 2 with fail
 refine zQ (R:=fun W=>Bx I S1 W (w.heap.size) _∧Bx I S1 W (w.heap.size+1) _∧Mem C I D z S1 q1 W∧SB w.heap.size S w S1 W) ⟨(j.out.put ..),(o.out.other (by omega) ..),(aw.out.put j.out ..),(aC.out.put (by omega) ..)⟩ ?_
 clear Q X L Y a4 V U O Z K H E N
 clear j o aC aw
 rintro w2 ⟨X0,X1,m2,t2⟩
 have j:=zc X0
 have o:=zc X1
 have ao:=zc m2
 have aF:=zc t2
 clear m2 t2 X0 X1
 obtain⟨Q,X,L,Y,a4,V,U,O,Z,K,H,E,N⟩:=j.out.box
 go_wp2_with fail
 refine (zj C I D z S1 q1 (-1) 0 4 zF _ ao.out.tok J (by decide)).mono ?_
 rintro e w3 ⟨rfl,ae⟩
 rw[M.out,h1]
 replace j:=zc (j.out.below ae)
 replace o:=zc (o.out.below ae)
 have av:=zc (aF.out.below ae)
 have an:=zc (ao.out.later ae)
 clear ae aF ao
 clear Q X L Y a4 V U O Z K H E N
 obtain⟨Q,X,L,Y,a4,V,U,O,Z,K,H,E,N⟩:=j.out.box
 go_wp2_with fail
 refine (zj C I D z S1 q1 (-1) 0 4 zp _ an.out.tok J (by decide)).mono ?_
 rintro e w4 ⟨rfl,ad⟩
 rw[M.out,h2]
 replace j:=zc (j.out.below ad)
 replace o:=zc (o.out.below ad)
 have aB:=zc (av.out.below ad)
 have aj:=zc (an.out.later ad)
 clear ad av an
 clear Q X L Y a4 V U O Z K H E N
 obtain⟨Q,X,L,Y,a4,V,U,O,Z,K,H,E,N⟩:=j.out.box
 go_wp2_with fail
 refine (zj C I D z S1 q1 (-1) 0 1 sDefault _ aj.out.tok J (by decide)).mono ?_
 rintro e w5 ⟨rfl,aa⟩
 rw[M.out,h3]
 replace j:=zc (j.out.below aa)
 replace o:=zc (o.out.below aa)
 have az:=zc (aB.out.below aa)
 have ah:=zc (aj.out.later aa)
 clear aa aB aj
 clear Q X L Y a4 V U O Z K H E N
 obtain⟨Q,X,L,Y,a4,V,U,O,Z,K,H,E,N⟩:=j.out.box
 go_wp2_with fail
 refine (zj C I D z S1 q1 (-1) 0 1 sLet _ ah.out.tok J (by decide)).mono ?_
 rintro e w6 ⟨rfl,ac⟩
 rw[M.out,h4]
 replace j:=zc (j.out.below ac)
 replace o:=zc (o.out.below ac)
 have aG:=zc (az.out.below ac)
 have ai:=zc (ah.out.later ac)
 clear ac az ah
 clear Q X L Y a4 V U O Z K H E N
 obtain⟨Q,X,L,Y,a4,V,U,O,Z,K,H,E,N⟩:=j.out.box
 go_wp2_with fail
 refine (zj C I D z S1 q1 (-1) 0 1 sFunction _ ai.out.tok J (by decide)).mono ?_
 rintro e w7 ⟨rfl,ag⟩
 rw[M.out,h5]
 replace j:=zc (j.out.below ag)
 replace o:=zc (o.out.below ag)
 have aD:=zc (aG.out.below ag)
 have au:=zc (ai.out.later ag)
 clear ag aG ai
 clear Q X L Y a4 V U O Z K H E N
 obtain⟨Q,X,L,Y,a4,V,U,O,Z,K,H,E,N⟩:=j.out.box
 clear M
 go_wp2_with fail
 refine (zjj C I D z S1 q1 _ au.out).mono ?_
 rintro e w8 ⟨S8,q8,z8,n8,rfl,i8,m8,s8⟩
 replace j:=zc (j.out.stp s8)
 replace o:=zc (o.out.stp s8)
 have aq:=zc (aD.out.step s8)
 clear aD
 have am:=zc m8
 have al:=zc i8
 clear i8 m8 s8 au
 clear Q X L Y a4 V U O Z K H E N
 have aM:w.heap.size+1<w8.heap.size:=o.out.lt
 unfold pv
 go_upto_region 29 with fail
 refine zQ (R:=fun W=>Bx I S8 W (w.heap.size) _∧Bx I S8 W (w.heap.size+1) _∧Bx I S8 W (w8.heap.size) _∧Mem C I D z S8 q8 W∧SB w.heap.size S w S8 W) ⟨(j.out.alloc _),(o.out.alloc _),(Bx.new am.out _),(am.out.alloc _),(aq.out.alloc _)⟩ ?_
 clear j o aq am
 rintro w9 ⟨X0,X1,X2,m9,t9⟩
 have j:=zc X0
 have o:=zc X1
 have ap:=zc X2
 have aE:=zc m9
 have aI:=zc t9
 clear m9 t9 X0 X1 X2
 obtain⟨c0,c1,c2,c3,c4,c5,c6,c7,c8,c9,aL,aK,cf⟩:=ap.out.box
 go_wp2_with fail
 refine (zeq C I D z _ S8 q8 z8 0 ⟨1,n8,n8,sNone⟩ _ al.out.fst aE.out (zva al.out)).mono ?_
 rintro e aO ⟨aQ,aP,aR,rfl,aA,ar,ab⟩
 replace j:=zc (j.out.stp ab)
 replace o:=zc (o.out.stp ab)
 replace ap:=zc (ap.out.stp ab)
 have aH:=zc (aI.out.step ab)
 clear aI
 have ay:=zc ar
 have aJ:=zc aA
 clear aA ar ab aE
 clear c0 c1 c2 c3 c4 c5 c6 c7 c8 c9 aL aK cf
 obtain⟨b0,b1,b2,b3,b4,b5,b6,b7,b8,b9,aN,aS,bf⟩:=o.out.box
 unfold pv
 go_wp2
 refine bodyPost_ret (results_cell_row rfl _ _ (w.heap.size+1) 55 _ (0,0) _ rfl ((o.out.put ..)).heap Tryz.underlying55 rfl (by kernel_rfl)) rfl ?_
 rw[HV.out,←HQ.out,←al.out.bind (fun q n=>zm C ⟨1,n,n,sNone⟩ q)]
 exact zac rfl aJ.out (ay.out.put o.out ..) (aH.out.put (by omega) ..)
theorem zvh (C:Cx) (N H z:Nat) (S:Sv) (q:PS) (w:World) (hm:Mem C N H z S q w) (hw:isT C q.pos 1 sExport=true) (h1:isT C (q.pos+1) 4 zF=false) (h2:isT C (q.pos+1) 4 zp=false) (h3:isT C (q.pos+1) 1 sDefault=false) (h4:isT C (q.pos+1) 1 sLet=false) (h5:isT C (q.pos+1) 1 sFunction=false):
  Calls Tryz.prog 49 #[pv C N H S q (-1) 0] w (Out C N H z (zV C q) 0 S w):=by
 have HM:=zc hm
 have I:=hm.few
 clear hm
 have HV:Hid (zV C q= .error (zu C (adv q).pos)):=by
  show _=_
  rw[zV,zd,if_pos hw,zh]
  rw[zz,h1,h2,h3,h4,h5]
  rfl
 unfold pv
 go_enter Tryz.func49,Tryz.ntmps49
 go_wp2_with fail
 refine (zaT C N H z (.ok q) S q (-1) 0 sExport _ (zab q) ((HM.out.alloc _).alloc _)).mono ?_
 rintro e w1 ⟨S1,q1,z1,rfl,i1,m1,s1⟩
 obtain⟨X0,X1,t1⟩:=HM.out.two2 s1
 have j:=zc X0
 have o:=zc X1
 have ap:=zc m1
 have av:=zc t1
 have aq:=zc i1
 clear X0 X1 i1 m1 t1 s1
 obtain⟨al,rfl⟩:=zdq aq.out hw
 have HQ:=zc al
 have L:Hid (q1.pos=q.pos+1):=by show q1.pos=q.pos+1;rw[al];rfl
 clear al aq
 obtain⟨Q,X,K,Y,a4,V,U,O,Z,J,E,D,M⟩:=j.out.box
 unfold pv
 go_upto_region 2 with fail
 refine zQ (R:=fun W=>Bx N S1 W (w.heap.size) _∧Bx N S1 W (w.heap.size+1) _∧Mem C N H z S1 q1 W∧SB w.heap.size S w S1 W) ⟨(j.out.put ..),(o.out.other (by omega) ..),(ap.out.put j.out ..),(av.out.put (by omega) ..)⟩ ?_
 clear Q X K Y a4 V U O Z J E D M
 clear j o av ap
 rintro w2 ⟨X0,X1,m2,t2⟩
 have j:=zc X0
 have o:=zc X1
 have an:=zc m2
 have ax:=zc t2
 clear m2 t2 X0 X1
 obtain⟨Q,X,K,Y,a4,V,U,O,Z,J,E,D,M⟩:=j.out.box
 go_wp2_with fail
 refine (zj C N H z S1 q1 (-1) 0 4 zF _ an.out.tok I (by decide)).mono ?_
 rintro e w3 ⟨rfl,ae⟩
 rw[L.out,h1]
 replace j:=zc (j.out.below ae)
 replace o:=zc (o.out.below ae)
 have ao:=zc (ax.out.below ae)
 have am:=zc (an.out.later ae)
 clear ae ax an
 clear Q X K Y a4 V U O Z J E D M
 obtain⟨Q,X,K,Y,a4,V,U,O,Z,J,E,D,M⟩:=j.out.box
 go_wp2_with fail
 refine (zj C N H z S1 q1 (-1) 0 4 zp _ am.out.tok I (by decide)).mono ?_
 rintro e w4 ⟨rfl,ad⟩
 rw[L.out,h2]
 replace j:=zc (j.out.below ad)
 replace o:=zc (o.out.below ad)
 have au:=zc (ao.out.below ad)
 have ak:=zc (am.out.later ad)
 clear ad ao am
 clear Q X K Y a4 V U O Z J E D M
 obtain⟨Q,X,K,Y,a4,V,U,O,Z,J,E,D,M⟩:=j.out.box
 go_wp2_with fail
 refine (zj C N H z S1 q1 (-1) 0 1 sDefault _ ak.out.tok I (by decide)).mono ?_
 rintro e w5 ⟨rfl,aa⟩
 rw[L.out,h3]
 replace j:=zc (j.out.below aa)
 replace o:=zc (o.out.below aa)
 have ar:=zc (au.out.below aa)
 have ah:=zc (ak.out.later aa)
 clear aa au ak
 clear Q X K Y a4 V U O Z J E D M
 obtain⟨Q,X,K,Y,a4,V,U,O,Z,J,E,D,M⟩:=j.out.box
 go_wp2_with fail
 refine (zj C N H z S1 q1 (-1) 0 1 sLet _ ah.out.tok I (by decide)).mono ?_
 rintro e w6 ⟨rfl,ac⟩
 rw[L.out,h4]
 replace j:=zc (j.out.below ac)
 replace o:=zc (o.out.below ac)
 have ay:=zc (ar.out.below ac)
 have ai:=zc (ah.out.later ac)
 clear ac ar ah
 clear Q X K Y a4 V U O Z J E D M
 obtain⟨Q,X,K,Y,a4,V,U,O,Z,J,E,D,M⟩:=j.out.box
 go_wp2_with fail
 refine (zj C N H z S1 q1 (-1) 0 1 sFunction _ ai.out.tok I (by decide)).mono ?_
 rintro e w7 ⟨rfl,ag⟩
 rw[L.out,h5]
 replace j:=zc (j.out.below ag)
 replace o:=zc (o.out.below ag)
 have aw:=zc (ay.out.below ag)
 have aj:=zc (ai.out.later ag)
 clear ag ay ai
 clear Q X K Y a4 V U O Z J E D M
 obtain⟨Q,X,K,Y,a4,V,U,O,Z,J,E,D,M⟩:=j.out.box
 clear L
 go_wp2_with fail
 refine (zd0 C N H z S1 q1 (-1) 0 _ aj.out.tok I).mono ?_
 rintro e w8 ⟨rfl,ab⟩
 replace j:=zc (j.out.below ab)
 replace o:=zc (o.out.below ab)
 have az:=zc (aw.out.below ab)
 have aA:=zc (aj.out.later ab)
 clear ab aw aj
 clear Q X K Y a4 V U O Z J E D M
 obtain⟨b0,b1,b2,b3,b4,b5,b6,b7,b8,b9,aB,aC,bf⟩:=o.out.box
 unfold pv
 go_wp2
 refine bodyPost_ret (results_cell_row rfl _ _ (w.heap.size+1) 55 _ (0,0) _ rfl ((o.out.put ..)).heap Tryz.underlying55 rfl (by kernel_rfl)) rfl ?_
 rw[HV.out,←HQ.out]
 exact zac rfl (show Is (.error (zu C q1.pos)) q1 _ from rfl) (aA.out.put o.out ..) (az.out.put (by omega) ..)
theorem zvi (C:Cx) (K H z:Nat) (S:Sv) (q:PS) (w:World) (hm:Mem C K H z S q w) (hw:isT C q.pos 1 sExport=true) (h1:isT C (q.pos+1) 4 zF=true):
  Calls Tryz.prog 49 #[pv C K H S q (-1) 0] w (Out C K H z (zV C q) 0 S w):=by
 have HM:=zc hm
 have aJ:=hm.few
 clear hm
 have HV:Hid (zV C q=bd (zbB C true (adv q)) fun a=>if !za2 a.2&& !isT C a.1.pos 1 zH then bd (zd C 4 cSemi a.1) fun q=>zK (fun e=>zm C (zD e)) a.2 (.ok q) else bd (zaD C (zav C (.ok a.1))) fun b=>zK (fun e=>zm C (zaj b.2 e)) a.2 (.ok b.1)):=by
  show _=_
  rw[zV,zd,if_pos hw,zh]
  rw[zz,h1]
  rfl
 unfold pv
 go_enter Tryz.func49,Tryz.ntmps49
 go_wp2_with fail
 refine (zaT C K H z (.ok q) S q (-1) 0 sExport _ (zab q) ((HM.out.alloc _).alloc _)).mono ?_
 rintro e w1 ⟨S1,q1,z1,rfl,i1,m1,s1⟩
 obtain⟨Y,Z,t1⟩:=HM.out.two2 s1
 have o:=zc Y
 have D:=zc Z
 have aW:=zc m1
 have bc:=zc t1
 have aY:=zc i1
 clear Y Z i1 m1 t1 s1
 obtain⟨aQ,rfl⟩:=zdq aY.out hw
 have HQ:=zc aQ
 have aX:Hid (q1.pos=q.pos+1):=by show q1.pos=q.pos+1;rw[aQ];rfl
 clear aQ aY
 obtain⟨a0,a1,a2,a3,a4,a5,a6,a7,a8,a9,O,N,af⟩:=o.out.box
 unfold pv
 go_upto_region 2 with fail
 refine zQ (R:=fun W=>Bx K S1 W (w.heap.size) _∧Bx K S1 W (w.heap.size+1) _∧Mem C K H z S1 q1 W∧SB w.heap.size S w S1 W) ⟨(o.out.put ..),(D.out.other (by omega) ..),(aW.out.put o.out ..),(bc.out.put (by omega) ..)⟩ ?_
 clear a0 a1 a2 a3 a4 a5 a6 a7 a8 a9 O N af
 clear o D bc aW
 rintro w2 ⟨Y,Z,m2,t2⟩
 have o:=zc Y
 have D:=zc Z
 have aS:=zc m2
 have bj:=zc t2
 clear m2 t2 Y Z
 have aO:Hid (zV C q=bd (zbB C true q1) fun a=>if !za2 a.2&& !isT C a.1.pos 1 zH then bd (zd C 4 cSemi a.1) fun q=>zK (fun e=>zm C (zD e)) a.2 (.ok q) else bd (zaD C (zav C (.ok a.1))) fun b=>zK (fun e=>zm C (zaj b.2 e)) a.2 (.ok b.1)):=by show _=_;rw[HQ.out];exact HV.out
 obtain⟨a0,a1,a2,a3,a4,a5,a6,a7,a8,a9,O,N,af⟩:=o.out.box
 go_wp2_with fail
 refine (zj C K H z S1 q1 (-1) 0 4 zF _ aS.out.tok aJ (by decide)).mono ?_
 rintro e w3 ⟨rfl,aK⟩
 rw[aX.out,h1]
 replace o:=zc (o.out.below aK)
 replace D:=zc (D.out.below aK)
 have aR:=zc (bj.out.below aK)
 have bg:=zc (aS.out.later aK)
 clear aK bj aS
 clear a0 a1 a2 a3 a4 a5 a6 a7 a8 a9 O N af
 obtain⟨a0,a1,a2,a3,a4,a5,a6,a7,a8,a9,O,N,af⟩:=o.out.box
 clear aX
 have bm:=aR.out.size
 go_wp2_with fail
 refine (zm2 C K H z S1 q1 0 true _ bg.out).mono ?_
 rintro e w4 ⟨S4,q4,z4,⟨ra,rc⟩,l,rfl,i4,m4,s4,R0,hl⟩
 obtain⟨g,rfl⟩: ∃g,ra=some ⟨g,0,none⟩:=R0.addr
 replace o:=zc (o.out.stp s4)
 replace D:=zc (D.out.stp s4)
 have bb:=zc (aR.out.step s4)
 clear aR
 have aP:=zc m4
 have az:=zc i4
 clear i4 m4 s4 bg
 clear a0 a1 a2 a3 a4 a5 a6 a7 a8 a9 O N af
 have I:Hid (Row S4 w4 z w.heap.size ⟨some ⟨g,0,none⟩,rc⟩ l):=⟨R0.own,R0.free,fun k hk=>Nat.le_trans bm (R0.new k hk),R0.addr⟩
 clear R0
 have bo:w.heap.size+1<w4.heap.size:=D.out.lt
 unfold pv
 go_upto_region 4 with fail
 refine zQ (R:=fun W=>Bx K S4 W (w.heap.size) _∧Bx K S4 W (w.heap.size+1) _∧Bx K S4 W (w4.heap.size) _∧Row S4 W z w.heap.size ⟨some ⟨g,0,none⟩,rc⟩ l∧Mem C K H z S4 q4 W∧SB w.heap.size S w S4 W) ⟨(o.out.alloc _),(D.out.alloc _),(Bx.new aP.out _),(I.out.alloc _),(aP.out.alloc _),(bb.out.alloc _)⟩ ?_
 clear o D bb aP
 clear I
 rintro w5 ⟨Y,Z,X2,R0,m5,t5⟩
 have I:=zc R0
 clear R0
 have o:=zc Y
 have D:=zc Z
 have E:=zc X2
 have ao:=zc m5
 have aG:=zc t5
 clear m5 t5 Y Z X2
 cases hA:za2 l with
 |true=>
  skip
  obtain⟨c0,c1,c2,c3,c4,c5,c6,c7,c8,c9,an,aj,cf⟩:=E.out.box
  go_wp2_with fail
  refine (zaT C K H z _ S4 q4 z4 0 zH _ az.out.fst ao.out).mono ?_
  rintro e w6 ⟨S6,q6,z6,rfl,i6,m6,s6⟩
  replace o:=zc (o.out.stp s6)
  replace D:=zc (D.out.stp s6)
  replace E:=zc (E.out.stp s6)
  have aC:=zc (aG.out.step s6)
  have M:Hid (Row S6 w6 z w.heap.size ⟨some ⟨g,0,none⟩,rc⟩ l):=I.out.stp s6
  clear I
  have I:=zc M
  clear M
  clear aG
  have ap:=zc m6
  have bl:=zc i6
  clear i6 m6 s6 ao
  clear c0 c1 c2 c3 c4 c5 c6 c7 c8 c9 an aj cf
  go_wp2_with fail
  refine (zeD C K H z _ S6 q6 z6 0 _ bl.out ap.out).mono ?_
  rintro e w7 ⟨S7,q7,z7,n7,rfl,i7,m7,s7⟩
  replace o:=zc (o.out.stp s7)
  replace D:=zc (D.out.stp s7)
  replace E:=zc (E.out.stp s7)
  have aB:=zc (aC.out.step s7)
  have M:Hid (Row S7 w7 z w.heap.size ⟨some ⟨g,0,none⟩,rc⟩ l):=I.out.stp s7
  clear I
  have I:=zc M
  clear M
  clear aC
  have ai:=zc m7
  have aE:=zc i7
  clear i7 m7 s7 ap
  have ba:w.heap.size+1<w7.heap.size:=D.out.lt
  have aL:w4.heap.size<w7.heap.size:=E.out.lt
  unfold pv
  go_upto_region 12 with fail
  refine zQ (R:=fun W=>Bx K S7 W (w.heap.size) _∧Bx K S7 W (w.heap.size+1) _∧Bx K S7 W (w4.heap.size) _∧Bx K S7 W (w7.heap.size) _∧Row S7 W z w.heap.size ⟨some ⟨g,0,none⟩,rc⟩ l∧Mem C K H z S7 q7 W∧SB w.heap.size S w S7 W) ⟨(o.out.alloc _),(D.out.alloc _),(E.out.alloc _),(Bx.new ai.out _),(I.out.alloc _),(ai.out.alloc _),(aB.out.alloc _)⟩ ?_
  clear o D E aB ai
  clear I
  rintro w8 ⟨Y,Z,X2,X3,R0,m8,t8⟩
  have I:=zc R0
  clear R0
  have o:=zc Y
  have D:=zc Z
  have E:=zc X2
  have aa:=zc X3
  have al:=zc m8
  have ar:=zc t8
  clear m8 t8 Y Z X2 X3
  obtain⟨d0,d1,d2,d3,d4,d5,d6,d7,d8,d9,am,ak,df⟩:=aa.out.box
  go_wp2_with fail
  refine (zah C K H z _ S7 q7 z7 0 cSemi _ aE.out.fst al.out).mono ?_
  rintro e w9 ⟨S9,q9,z9,rfl,i9,m9,s9⟩
  replace o:=zc (o.out.stp s9)
  replace D:=zc (D.out.stp s9)
  replace E:=zc (E.out.stp s9)
  replace aa:=zc (aa.out.stp s9)
  have ag:=zc (ar.out.step s9)
  have M:Hid (Row S9 w9 z w.heap.size ⟨some ⟨g,0,none⟩,rc⟩ l):=I.out.stp s9
  clear I
  have I:=zc M
  clear M
  clear ar
  have ad:=zc m9
  have ae:=zc i9
  clear i9 m9 s9 al
  clear d0 d1 d2 d3 d4 d5 d6 d7 d8 d9 am ak df
  obtain⟨a0,a1,a2,a3,a4,a5,a6,a7,a8,a9,O,N,af⟩:=o.out.box
  unfold pv
  go_upto_region 13 with fail
  refine zQ (R:=fun W=>Bx K S9 W (w.heap.size) _∧Bx K S9 W (w.heap.size+1) _∧Bx K S9 W (w4.heap.size) _∧Bx K S9 W (w7.heap.size) _∧Row S9 W z w.heap.size ⟨some ⟨g,0,none⟩,rc⟩ l∧Mem C K H z S9 q9 W∧SB w.heap.size S w S9 W) ⟨(o.out.put ..),(D.out.other (by omega) ..),(E.out.other (by omega) ..),(aa.out.other (by omega) ..),(I.out.put o.out ..),(ad.out.put o.out ..),(ag.out.put (by omega) ..)⟩ ?_
  clear a0 a1 a2 a3 a4 a5 a6 a7 a8 a9 O N af
  clear o D E aa ag ad
  clear I
  rintro av ⟨Y,Z,X2,X3,R0,ac,bi⟩
  have I:=zc R0
  clear R0
  have o:=zc Y
  have D:=zc Z
  have E:=zc X2
  have aa:=zc X3
  have V:=zc ac
  have aD:=zc bi
  clear ac bi Y Z X2 X3
  have aH:Hid (_=zV C q):=(zjk (G:=fun b e=>zm C (zaj b e)) az.out aE.out).trans ((zmJ az.out (.inl hA)).trans aO.out.symm)
  go_wp2
  go_loopg [9] l.length (fun k i wr=>∃(j:Nat) (x':PR) (L:Sv) (q':PS) (z':Int),j≤l.length∧i= .int .i64 j∧Is x' q' z'∧(z'<0→1≤q'.pos)∧zK (fun e=>zm C (zaj n7 e)) (l.drop j) x'=zV C q∧l.length-j=k∧Mem C K H z L q' wr∧SB w.heap.size S w L wr∧Bx K L wr w.heap.size #[.slice (some ⟨K,0,none⟩) C.ts.length H,.int .i64 q'.pos,.int .i64 C.fin,.bool C.scr,.slice L.rq.a q'.rq.length L.rq.cap,.slice L.im.a q'.im.length L.im.cap,.slice L.ep.a q'.ep.length L.ep.cap,.slice L.st.a q'.st.length L.st.cap,.slice L.ex.a q'.ex.length L.ex.cap,.slice L.la.a q'.la.length L.la.cap,.int .i64 z',.int .i64 0]∧Bx K L wr (w.heap.size+1) #[.slice none 0 0,.int .i64 0,.int .i64 0,.bool false,.slice none 0 0,.slice none 0 0,.slice none 0 0,.slice none 0 0,.slice none 0 0,.slice none 0 0,.int .i64 0,.int .i64 0]∧Row L wr z w.heap.size ⟨some ⟨g,0,none⟩,rc⟩ l)
  case atStart=>exact⟨0,_,S9,q9,z9,Nat.zero_le _,rfl,ae.out,zb5 ae.out,aH.out,rfl,V.out,aD.out,o.out,D.out,I.out⟩
  case round=>
   obtain⟨j,x9,S9,q9,z9,hj,rfl,i9,p9,e9,g9,m9,t9,Y,Z,R0⟩:=hrel
   clear o D E aa I V aD
   have o:=zc Y
   have D:=zc Z
   have ad:=zc m9
   have ag:=zc t9
   have ae:=zc i9
   have aq:=zc p9
   have ax:=zc e9
   have au:=zc g9
   have I:=zc R0
   clear Y Z i9 m9 t9 e9 g9 R0 p9
   by_cases ay:j<l.length
   ·skip
    obtain⟨c1,c2⟩:=I.out.cells (g:=g) rfl ay
    have aZ:=I.out.own.lt (g:=g) rfl
    have HX:Hid (∀e,e=l[j]→zK (fun e=>zm C (zaj n7 e)) (l.drop (j+1)) (bd x9 (zm C (zaj n7 e)))=zV C q):=fun e he=>by rw[he,←ax.out];exact (zht (fun e=>zm C (zaj n7 e)) l x9 ay).symm
    generalize aw:l[j]=el at c1 c2
    have aI:Hid (el=l[j]):=aw.symm
    clear aw
    obtain⟨a0,a1,a2,a3,a4,a5,a6,a7,a8,a9,O,N,af⟩:=o.out.box
    go_upto_region 16 with fail
    go_region_law (first|(go_simp;go_wp2_with (go_at_call 100;refine (zeq C K H z x9 S9 q9 z9 0 (zaj n7 el) _ ae.out ad.out.drew aq.out).mono ?_;rintro e av ⟨U,aA,aF,rfl,ah,ac,Q⟩;obtain⟨d0,d1,d2,d3,d4,d5,d6,d7,d8,d9,am,ak,df⟩:=(o.out.stp Q.undrew).box;unfold pv)))
    all_goals
     clear a0 a1 a2 a3 a4 a5 a6 a7 a8 a9 O N af d0 d1 d2 d3 d4 d5 d6 d7 d8 d9 am ak df
     have X:=zc ah
     have V:=zc ac
     have J:Hid (Stp S9 wr U av):=Q.undrew
     clear ah ac Q
     go_wp2
     go_roundg (gk-1)
     case rel=>exact⟨j+1,_,U,aA,aF,by omega,by go_num,X.out,zjl aq.out ae.out X.out,HX.out el aI.out,by have:=au.out;omega,V.out.put (o.out.stp J.out) _ _ _ _ _ _ _ _ _ _ _ _,(ag.out.step J.out).put (by omega) _ _ _ _ _ _ _ _ _ _ _ _,(o.out.stp J.out).put _ _ _ _ _ _ _ _ _ _ _ _,(D.out.stp J.out).other (by omega) _ _ _ _ _ _ _ _ _ _ _ _,(I.out.stp J.out).put (o.out.stp J.out) _ _ _ _ _ _ _ _ _ _ _ _⟩
     case measure=>have:=au.out;omega
   ·skip
    obtain⟨a0,a1,a2,a3,a4,a5,a6,a7,a8,a9,O,N,af⟩:=o.out.box
    obtain⟨b0,b1,b2,b3,b4,b5,b6,b7,b8,b9,aU,bk,bf⟩:=D.out.box
    go_wp2
    refine bodyPost_ret (results_cell_row rfl _ _ (w.heap.size+1) 55 _ (0,0) _ rfl ((D.out.put ..)).heap Tryz.underlying55 rfl (by kernel_rfl)) rfl ?_
    exact zac rfl (show Is (zV C q) q9 z9 from by rw[←ax.out,List.drop_eq_nil_of_le (by omega)];exact ae.out) (ad.out.put D.out ..) (ag.out.put (by omega) ..)
 |false=>
  cases hF:(decide (z4<0)&&isT C q4.pos 1 zH) with
  |true=>
   obtain⟨c0,c1,c2,c3,c4,c5,c6,c7,c8,c9,an,aj,cf⟩:=E.out.box
   go_wp2_with fail
   refine (zj C K H z S4 q4 z4 0 1 zH _ ao.out.tok aJ (by decide)).mono ?_
   rintro e w6 ⟨rfl,ab⟩
   rw[hF]
   replace o:=zc (o.out.below ab)
   replace D:=zc (D.out.below ab)
   replace E:=zc (E.out.below ab)
   have aC:=zc (aG.out.below ab)
   have ap:=zc (ao.out.later ab)
   have M:Hid (Row S4 w6 z w.heap.size ⟨some ⟨g,0,none⟩,rc⟩ l):=I.out.below ab
   clear I
   have I:=zc M
   clear M
   clear ab aG ao
   clear c0 c1 c2 c3 c4 c5 c6 c7 c8 c9 an aj cf
   obtain⟨c0,c1,c2,c3,c4,c5,c6,c7,c8,c9,an,aj,cf⟩:=E.out.box
   go_wp2_with fail
   refine (zaT C K H z _ S4 q4 z4 0 zH _ az.out.fst ap.out).mono ?_
   rintro e w7 ⟨S7,q7,z7,rfl,i7,m7,s7⟩
   replace o:=zc (o.out.stp s7)
   replace D:=zc (D.out.stp s7)
   replace E:=zc (E.out.stp s7)
   have aB:=zc (aC.out.step s7)
   have M:Hid (Row S7 w7 z w.heap.size ⟨some ⟨g,0,none⟩,rc⟩ l):=I.out.stp s7
   clear I
   have I:=zc M
   clear M
   clear aC
   have ai:=zc m7
   have aE:=zc i7
   clear i7 m7 s7 ap
   clear c0 c1 c2 c3 c4 c5 c6 c7 c8 c9 an aj cf
   go_wp2_with fail
   refine (zeD C K H z _ S7 q7 z7 0 _ aE.out ai.out).mono ?_
   rintro e w8 ⟨S8,q8,z8,n8,rfl,i8,m8,s8⟩
   replace o:=zc (o.out.stp s8)
   replace D:=zc (D.out.stp s8)
   replace E:=zc (E.out.stp s8)
   have ar:=zc (aB.out.step s8)
   have M:Hid (Row S8 w8 z w.heap.size ⟨some ⟨g,0,none⟩,rc⟩ l):=I.out.stp s8
   clear I
   have I:=zc M
   clear M
   clear aB
   have al:=zc m8
   have aV:=zc i8
   clear i8 m8 s8 ai
   have ba:w.heap.size+1<w8.heap.size:=D.out.lt
   have aL:w4.heap.size<w8.heap.size:=E.out.lt
   unfold pv
   go_upto_region 12 with fail
   refine zQ (R:=fun W=>Bx K S8 W (w.heap.size) _∧Bx K S8 W (w.heap.size+1) _∧Bx K S8 W (w4.heap.size) _∧Bx K S8 W (w8.heap.size) _∧Row S8 W z w.heap.size ⟨some ⟨g,0,none⟩,rc⟩ l∧Mem C K H z S8 q8 W∧SB w.heap.size S w S8 W) ⟨(o.out.alloc _),(D.out.alloc _),(E.out.alloc _),(Bx.new al.out _),(I.out.alloc _),(al.out.alloc _),(ar.out.alloc _)⟩ ?_
   clear o D E ar al
   clear I
   rintro w9 ⟨Y,Z,X2,X3,R0,m9,t9⟩
   have I:=zc R0
   clear R0
   have o:=zc Y
   have D:=zc Z
   have E:=zc X2
   have aa:=zc X3
   have ad:=zc m9
   have ag:=zc t9
   clear m9 t9 Y Z X2 X3
   obtain⟨d0,d1,d2,d3,d4,d5,d6,d7,d8,d9,am,ak,df⟩:=aa.out.box
   go_wp2_with fail
   refine (zah C K H z _ S8 q8 z8 0 cSemi _ aV.out.fst ad.out).mono ?_
   rintro e av ⟨U,aA,aF,rfl,ah,ac,Q⟩
   replace o:=zc (o.out.stp Q)
   replace D:=zc (D.out.stp Q)
   replace E:=zc (E.out.stp Q)
   replace aa:=zc (aa.out.stp Q)
   have aD:=zc (ag.out.step Q)
   have M:Hid (Row U av z w.heap.size ⟨some ⟨g,0,none⟩,rc⟩ l):=I.out.stp Q
   clear I
   have I:=zc M
   clear M
   clear ag
   have V:=zc ac
   have X:=zc ah
   clear ah ac Q ad
   clear d0 d1 d2 d3 d4 d5 d6 d7 d8 d9 am ak df
   obtain⟨a0,a1,a2,a3,a4,a5,a6,a7,a8,a9,O,N,af⟩:=o.out.box
   unfold pv
   go_upto_region 13 with fail
   refine zQ (R:=fun W=>Bx K U W (w.heap.size) _∧Bx K U W (w.heap.size+1) _∧Bx K U W (w4.heap.size) _∧Bx K U W (w8.heap.size) _∧Row U W z w.heap.size ⟨some ⟨g,0,none⟩,rc⟩ l∧Mem C K H z U aA W∧SB w.heap.size S w U W) ⟨(o.out.put ..),(D.out.other (by omega) ..),(E.out.other (by omega) ..),(aa.out.other (by omega) ..),(I.out.put o.out ..),(V.out.put o.out ..),(aD.out.put (by omega) ..)⟩ ?_
   clear a0 a1 a2 a3 a4 a5 a6 a7 a8 a9 O N af
   clear o D E aa aD V
   clear I
   rintro bp ⟨Y,Z,X2,X3,R0,be,aT⟩
   have I:=zc R0
   clear R0
   have o:=zc Y
   have D:=zc Z
   have E:=zc X2
   have aa:=zc X3
   have aM:=zc be
   have aN:=zc aT
   clear be aT Y Z X2 X3
   have aH:Hid (_=zV C q):=(zjk (G:=fun b e=>zm C (zaj b e)) az.out aV.out).trans ((zmJ az.out (.inr hF)).trans aO.out.symm)
   go_wp2
   go_loopg [9] l.length (fun k i wr=>∃(j:Nat) (x':PR) (L:Sv) (q':PS) (z':Int),j≤l.length∧i= .int .i64 j∧Is x' q' z'∧(z'<0→1≤q'.pos)∧zK (fun e=>zm C (zaj n8 e)) (l.drop j) x'=zV C q∧l.length-j=k∧Mem C K H z L q' wr∧SB w.heap.size S w L wr∧Bx K L wr w.heap.size #[.slice (some ⟨K,0,none⟩) C.ts.length H,.int .i64 q'.pos,.int .i64 C.fin,.bool C.scr,.slice L.rq.a q'.rq.length L.rq.cap,.slice L.im.a q'.im.length L.im.cap,.slice L.ep.a q'.ep.length L.ep.cap,.slice L.st.a q'.st.length L.st.cap,.slice L.ex.a q'.ex.length L.ex.cap,.slice L.la.a q'.la.length L.la.cap,.int .i64 z',.int .i64 0]∧Bx K L wr (w.heap.size+1) #[.slice none 0 0,.int .i64 0,.int .i64 0,.bool false,.slice none 0 0,.slice none 0 0,.slice none 0 0,.slice none 0 0,.slice none 0 0,.slice none 0 0,.int .i64 0,.int .i64 0]∧Row L wr z w.heap.size ⟨some ⟨g,0,none⟩,rc⟩ l)
   case atStart=>exact⟨0,_,U,aA,aF,Nat.zero_le _,rfl,X.out,zb5 X.out,aH.out,rfl,aM.out,aN.out,o.out,D.out,I.out⟩
   case round=>
    obtain⟨j,x9,S9,q9,z9,hj,rfl,i9,p9,e9,g9,m9,t9,Y,Z,R0⟩:=hrel
    clear o D E aa I aM aN
    have o:=zc Y
    have D:=zc Z
    have ad:=zc m9
    have ag:=zc t9
    have ae:=zc i9
    have aq:=zc p9
    have ax:=zc e9
    have au:=zc g9
    have I:=zc R0
    clear Y Z i9 m9 t9 e9 g9 R0 p9
    by_cases ay:j<l.length
    ·skip
     obtain⟨c1,c2⟩:=I.out.cells (g:=g) rfl ay
     have aZ:=I.out.own.lt (g:=g) rfl
     have HX:Hid (∀e,e=l[j]→zK (fun e=>zm C (zaj n8 e)) (l.drop (j+1)) (bd x9 (zm C (zaj n8 e)))=zV C q):=fun e he=>by rw[he,←ax.out];exact (zht (fun e=>zm C (zaj n8 e)) l x9 ay).symm
     generalize aw:l[j]=el at c1 c2
     have aI:Hid (el=l[j]):=aw.symm
     clear aw
     obtain⟨a0,a1,a2,a3,a4,a5,a6,a7,a8,a9,O,N,af⟩:=o.out.box
     go_upto_region 16 with fail
     go_region_law (first|(go_simp;go_wp2_with (go_at_call 100;refine (zeq C K H z x9 S9 q9 z9 0 (zaj n8 el) _ ae.out ad.out.drew aq.out).mono ?_;rintro e av ⟨U,aA,aF,rfl,ah,ac,Q⟩;obtain⟨d0,d1,d2,d3,d4,d5,d6,d7,d8,d9,am,ak,df⟩:=(o.out.stp Q.undrew).box;unfold pv)))
     all_goals
      clear a0 a1 a2 a3 a4 a5 a6 a7 a8 a9 O N af d0 d1 d2 d3 d4 d5 d6 d7 d8 d9 am ak df
      have X:=zc ah
      have V:=zc ac
      have J:Hid (Stp S9 wr U av):=Q.undrew
      clear ah ac Q
      go_wp2
      go_roundg (gk-1)
      case rel=>exact⟨j+1,_,U,aA,aF,by omega,by go_num,X.out,zjl aq.out ae.out X.out,HX.out el aI.out,by have:=au.out;omega,V.out.put (o.out.stp J.out) _ _ _ _ _ _ _ _ _ _ _ _,(ag.out.step J.out).put (by omega) _ _ _ _ _ _ _ _ _ _ _ _,(o.out.stp J.out).put _ _ _ _ _ _ _ _ _ _ _ _,(D.out.stp J.out).other (by omega) _ _ _ _ _ _ _ _ _ _ _ _,(I.out.stp J.out).put (o.out.stp J.out) _ _ _ _ _ _ _ _ _ _ _ _⟩
      case measure=>have:=au.out;omega
    ·skip
     obtain⟨a0,a1,a2,a3,a4,a5,a6,a7,a8,a9,O,N,af⟩:=o.out.box
     obtain⟨b0,b1,b2,b3,b4,b5,b6,b7,b8,b9,aU,bk,bf⟩:=D.out.box
     go_wp2
     refine bodyPost_ret (results_cell_row rfl _ _ (w.heap.size+1) 55 _ (0,0) _ rfl ((D.out.put ..)).heap Tryz.underlying55 rfl (by kernel_rfl)) rfl ?_
     exact zac rfl (show Is (zV C q) q9 z9 from by rw[←ax.out,List.drop_eq_nil_of_le (by omega)];exact ae.out) (ad.out.put D.out ..) (ag.out.put (by omega) ..)
  |false=>
   obtain⟨c0,c1,c2,c3,c4,c5,c6,c7,c8,c9,an,aj,cf⟩:=E.out.box
   go_wp2_with fail
   refine (zj C K H z S4 q4 z4 0 1 zH _ ao.out.tok aJ (by decide)).mono ?_
   rintro e w6 ⟨rfl,ab⟩
   rw[hF]
   replace o:=zc (o.out.below ab)
   replace D:=zc (D.out.below ab)
   replace E:=zc (E.out.below ab)
   have aC:=zc (aG.out.below ab)
   have ap:=zc (ao.out.later ab)
   have M:Hid (Row S4 w6 z w.heap.size ⟨some ⟨g,0,none⟩,rc⟩ l):=I.out.below ab
   clear I
   have I:=zc M
   clear M
   clear ab aG ao
   clear c0 c1 c2 c3 c4 c5 c6 c7 c8 c9 an aj cf
   obtain⟨c0,c1,c2,c3,c4,c5,c6,c7,c8,c9,an,aj,cf⟩:=E.out.box
   go_wp2_with fail
   refine (zah C K H z _ S4 q4 z4 0 cSemi _ az.out.fst ap.out).mono ?_
   rintro e w7 ⟨S7,q7,z7,rfl,i7,m7,s7⟩
   replace o:=zc (o.out.stp s7)
   replace D:=zc (D.out.stp s7)
   replace E:=zc (E.out.stp s7)
   have aB:=zc (aC.out.step s7)
   have M:Hid (Row S7 w7 z w.heap.size ⟨some ⟨g,0,none⟩,rc⟩ l):=I.out.stp s7
   clear I
   have I:=zc M
   clear M
   clear aC
   have ai:=zc m7
   have aE:=zc i7
   clear i7 m7 s7 ap
   clear c0 c1 c2 c3 c4 c5 c6 c7 c8 c9 an aj cf
   obtain⟨a0,a1,a2,a3,a4,a5,a6,a7,a8,a9,O,N,af⟩:=o.out.box
   unfold pv
   go_upto_region 6 with fail
   refine zQ (R:=fun W=>Bx K S7 W (w.heap.size) _∧Bx K S7 W (w.heap.size+1) _∧Bx K S7 W (w4.heap.size) _∧Row S7 W z w.heap.size ⟨some ⟨g,0,none⟩,rc⟩ l∧Mem C K H z S7 q7 W∧SB w.heap.size S w S7 W) ⟨(o.out.put ..),(D.out.other (by omega) ..),(E.out.other (by omega) ..),(I.out.put o.out ..),(ai.out.put o.out ..),(aB.out.put (by omega) ..)⟩ ?_
   clear a0 a1 a2 a3 a4 a5 a6 a7 a8 a9 O N af
   clear o D E aB ai
   clear I
   rintro w8 ⟨Y,Z,X2,R0,m8,t8⟩
   have I:=zc R0
   clear R0
   have o:=zc Y
   have D:=zc Z
   have E:=zc X2
   have al:=zc m8
   have ar:=zc t8
   clear m8 t8 Y Z X2
   have aH:Hid (_=zV C q):=(zvc az.out hA hF).trans aO.out.symm
   go_wp2
   go_loopg [6] l.length (fun k i wr=>∃(j:Nat) (x':PR) (L:Sv) (q':PS) (z':Int),j≤l.length∧i= .int .i64 j∧Is x' q' z'∧(z'<0→1≤q'.pos)∧zK (fun e=>zm C (zD e)) (l.drop j) x'=zV C q∧l.length-j=k∧Mem C K H z L q' wr∧SB w.heap.size S w L wr∧Bx K L wr w.heap.size #[.slice (some ⟨K,0,none⟩) C.ts.length H,.int .i64 q'.pos,.int .i64 C.fin,.bool C.scr,.slice L.rq.a q'.rq.length L.rq.cap,.slice L.im.a q'.im.length L.im.cap,.slice L.ep.a q'.ep.length L.ep.cap,.slice L.st.a q'.st.length L.st.cap,.slice L.ex.a q'.ex.length L.ex.cap,.slice L.la.a q'.la.length L.la.cap,.int .i64 z',.int .i64 0]∧Bx K L wr (w.heap.size+1) #[.slice none 0 0,.int .i64 0,.int .i64 0,.bool false,.slice none 0 0,.slice none 0 0,.slice none 0 0,.slice none 0 0,.slice none 0 0,.slice none 0 0,.int .i64 0,.int .i64 0]∧Row L wr z w.heap.size ⟨some ⟨g,0,none⟩,rc⟩ l)
   case atStart=>exact⟨0,_,S7,q7,z7,Nat.zero_le _,rfl,aE.out,zb5 aE.out,aH.out,rfl,al.out,ar.out,o.out,D.out,I.out⟩
   case round=>
    obtain⟨j,x9,S9,q9,z9,hj,rfl,i9,p9,e9,g9,m9,t9,Y,Z,R0⟩:=hrel
    clear o D E I al ar
    have o:=zc Y
    have D:=zc Z
    have ad:=zc m9
    have ag:=zc t9
    have ae:=zc i9
    have aq:=zc p9
    have ax:=zc e9
    have au:=zc g9
    have I:=zc R0
    clear Y Z i9 m9 t9 e9 g9 R0 p9
    by_cases ay:j<l.length
    ·skip
     obtain⟨c1,c2⟩:=I.out.cells (g:=g) rfl ay
     have aZ:=I.out.own.lt (g:=g) rfl
     have HX:Hid (∀e,e=l[j]→zK (fun e=>zm C (zD e)) (l.drop (j+1)) (bd x9 (zm C (zD e)))=zV C q):=fun e he=>by rw[he,←ax.out];exact (zht (fun e=>zm C (zD e)) l x9 ay).symm
     generalize aw:l[j]=el at c1 c2
     have aI:Hid (el=l[j]):=aw.symm
     clear aw
     obtain⟨a0,a1,a2,a3,a4,a5,a6,a7,a8,a9,O,N,af⟩:=o.out.box
     go_upto_region 9 with fail
     go_region_law (first|(go_simp;go_wp2_with (go_at_call 100;refine (zeq C K H z x9 S9 q9 z9 0 (zD el) _ ae.out ad.out.drew aq.out).mono ?_;rintro e av ⟨U,aA,aF,rfl,ah,ac,Q⟩;obtain⟨d0,d1,d2,d3,d4,d5,d6,d7,d8,d9,am,ak,df⟩:=(o.out.stp Q.undrew).box;unfold pv)))
     all_goals
      clear a0 a1 a2 a3 a4 a5 a6 a7 a8 a9 O N af d0 d1 d2 d3 d4 d5 d6 d7 d8 d9 am ak df
      have X:=zc ah
      have V:=zc ac
      have J:Hid (Stp S9 wr U av):=Q.undrew
      clear ah ac Q
      go_wp2
      go_roundg (gk-1)
      case rel=>exact⟨j+1,_,U,aA,aF,by omega,by go_num,X.out,zjl aq.out ae.out X.out,HX.out el aI.out,by have:=au.out;omega,V.out.put (o.out.stp J.out) _ _ _ _ _ _ _ _ _ _ _ _,(ag.out.step J.out).put (by omega) _ _ _ _ _ _ _ _ _ _ _ _,(o.out.stp J.out).put _ _ _ _ _ _ _ _ _ _ _ _,(D.out.stp J.out).other (by omega) _ _ _ _ _ _ _ _ _ _ _ _,(I.out.stp J.out).put (o.out.stp J.out) _ _ _ _ _ _ _ _ _ _ _ _⟩
      case measure=>have:=au.out;omega
    ·skip
     obtain⟨a0,a1,a2,a3,a4,a5,a6,a7,a8,a9,O,N,af⟩:=o.out.box
     obtain⟨b0,b1,b2,b3,b4,b5,b6,b7,b8,b9,aU,bk,bf⟩:=D.out.box
     go_wp2
     refine bodyPost_ret (results_cell_row rfl _ _ (w.heap.size+1) 55 _ (0,0) _ rfl ((D.out.put ..)).heap Tryz.underlying55 rfl (by kernel_rfl)) rfl ?_
     exact zac rfl (show Is (zV C q) q9 z9 from by rw[←ax.out,List.drop_eq_nil_of_le (by omega)];exact ae.out) (ad.out.put D.out ..) (ag.out.put (by omega) ..)
theorem zvj (C:Cx) (z o j:Nat) (S:Sv) (q:PS) (w:World) (D:Mem C z o j S q w) (E:isT C q.pos 1 sImport=true):
  Calls Tryz.prog 48 #[pv C z o S q (-1) 0] w (Out C z o j (za3 C q) 0 S w):=by
 cases H:isT C (q.pos+1) 4 zF with
 |true=>exact zuX C z o j S q w D E H
 |false=>
  cases I:isT C (q.pos+1) 4 zp with
  |true=>exact zuU C z o j S q w D E H I
  |false=>
   cases J:plainB C (q.pos+1) false with
   |true=>exact zuV C z o j S q w D E H I J
   |false=>exact zuW C z o j S q w D E H I J
theorem zvk (C:Cx) (z o j:Nat) (S:Sv) (q:PS) (w:World) (D:Mem C z o j S q w) (E:isT C q.pos 1 sExport=true):
  Calls Tryz.prog 49 #[pv C z o S q (-1) 0] w (Out C z o j (zV C q) 0 S w):=by
 cases H:isT C (q.pos+1) 4 zF with
 |true=>exact zvi C z o j S q w D E H
 |false=>
  cases I:isT C (q.pos+1) 4 zp with
  |true=>exact zvd C z o j S q w D E H I
  |false=>
   cases J:isT C (q.pos+1) 1 sDefault with
   |true=>exact zve C z o j S q w D E H I J
   |false=>
    cases K:isT C (q.pos+1) 1 sLet with
    |true=>exact zvf C z o j S q w D E H I J K
    |false=>
     cases L:isT C (q.pos+1) 1 sFunction with
     |true=>exact zvg C z o j S q w D E H I J K L
     |false=>exact zvh C z o j S q w D E H I J K L
theorem zmK {C:Cx} {x:PR} {n:ByteArray}:bd (bd (bd (bd x (zd C 4 cEq)) (pE C .sum 0)) (zd C 4 cSemi)) (zE C 3 n)=bd x fun q=>bd (bd (bd (bd (.ok q) (zd C 4 cEq)) (pE C .sum 0)) (zd C 4 cSemi)) (zE C 3 n):=by cases x<;>rfl
theorem zvl (H:List Tk) (j:Nat) (I E z:Nat) (S:Sv) (q:PS) (w:World) (Y:Mem (Cx.mk H j true) I E z S q w) (h0:isT (Cx.mk H j true) q.pos 1 sLet=true):
  Calls Tryz.prog 21 #[pv (Cx.mk H j true) I E S q (-1) 0] w (Out (Cx.mk H j true) I E z (zo (Cx.mk H j true) q) 0 S w):=by
 have HM:=zc Y
 have J:=Y.tok
 have N:(Cx.mk H j true).ts.length≤4000:=Y.few
 clear Y
 have HV:Hid (zo (Cx.mk H j true) q=za7 (zbA (Cx.mk H j true) q)):=by show zo (Cx.mk H j true) q=_;rw[zo,h0];rfl
 unfold pv
 go_enter Tryz.func21,Tryz.ntmps21
 go_wp2_with fail
 refine (zj (Cx.mk H j true) I E z S q (-1) 0 1 sLet _ (zv (zv J _) _) N (by decide)).mono ?_
 rintro e w1 ⟨rfl,U⟩
 rw[h0]
 obtain⟨M,O,m1,t1⟩:=HM.out.two U
 have D:=zc M
 have o:=zc O
 have L:=zc m1
 have Q:=zc t1
 clear M O m1 t1 U
 clear J
 obtain⟨a0,a1,a2,a3,a4,a5,a6,a7,a8,a9,ae,ac,af⟩:=D.out.box
 go_wp2_with fail
 refine (zji (Cx.mk H j true) I E z S q _ L.out).mono ?_
 rintro e w2 ⟨X,q2,z2,n2,rfl,i2,m2,Z⟩
 replace D:=zc (D.out.stp Z)
 replace o:=zc (o.out.stp Z)
 have V:=zc (Q.out.step Z)
 clear Q
 have K:=zc m2
 have ab:=zc i2
 clear i2 m2 Z L
 clear a0 a1 a2 a3 a4 a5 a6 a7 a8 a9 ae ac af
 have ah:w.heap.size+1<w2.heap.size:=o.out.lt
 unfold pv
 go_upto_region 7 with fail
 refine zQ (R:=fun W=>Bx I X W (w.heap.size) _∧Bx I X W (w.heap.size+1) _∧Bx I X W (w2.heap.size) _∧Mem (Cx.mk H j true) I E z X q2 W∧SB w.heap.size S w X W) ⟨(D.out.alloc _),(o.out.alloc _),(Bx.new K.out _),(K.out.alloc _),(V.out.alloc _)⟩ ?_
 clear D o V K
 rintro w3 ⟨M,O,X2,m3,t3⟩
 have D:=zc M
 have o:=zc O
 have ag:=zc X2
 have ad:=zc m3
 have aa:=zc t3
 clear m3 t3 M O X2
 obtain⟨b0,b1,b2,b3,b4,b5,b6,b7,b8,b9,ai,al,bf⟩:=o.out.box
 obtain⟨c0,c1,c2,c3,c4,c5,c6,c7,c8,c9,ak,aj,cf⟩:=ag.out.box
 go_wp2
 refine bodyPost_ret (results_cell_row rfl _ _ (w.heap.size+1) 55 _ (0,0) _ rfl ((o.out.put ..)).heap Tryz.underlying55 rfl (by kernel_rfl)) rfl ?_
 rw[HV.out]
 exact zac rfl ab.out.fst (ad.out.put o.out ..) (aa.out.put (by omega) ..)
theorem zvm (H:List Tk) (j:Nat) (J E z:Nat) (S:Sv) (q:PS) (w:World) (hm:Mem (Cx.mk H j true) J E z S q w) (h0:isT (Cx.mk H j true) q.pos 1 sLet=false) (h1:isT (Cx.mk H j true) q.pos 1 sFunction=true):
  Calls Tryz.prog 21 #[pv (Cx.mk H j true) J E S q (-1) 0] w (Out (Cx.mk H j true) J E z (zo (Cx.mk H j true) q) 0 S w):=by
 have HM:=zc hm
 have L:=hm.tok
 have K:(Cx.mk H j true).ts.length≤4000:=hm.few
 clear hm
 have HV:Hid (zo (Cx.mk H j true) q=za7 (fnP (Cx.mk H j true) q)):=by show zo (Cx.mk H j true) q=_;rw[zo,h0,h1];rfl
 unfold pv
 go_enter Tryz.func21,Tryz.ntmps21
 go_wp2_with fail
 refine (zj (Cx.mk H j true) J E z S q (-1) 0 1 sLet _ (zv (zv L _) _) K (by decide)).mono ?_
 rintro e w1 ⟨rfl,aa⟩
 rw[h0]
 obtain⟨X,Y,m1,t1⟩:=HM.out.two aa
 have D:=zc X
 have o:=zc Y
 have M:=zc m1
 have Z:=zc t1
 clear X Y m1 t1 aa
 clear L
 obtain⟨a0,a1,a2,a3,a4,a5,a6,a7,a8,a9,Q,N,af⟩:=D.out.box
 go_wp2_with fail
 refine (zj (Cx.mk H j true) J E z S q (-1) 0 1 sFunction _ M.out.tok K (by decide)).mono ?_
 rintro e w2 ⟨rfl,I⟩
 rw[h1]
 replace D:=zc (D.out.below I)
 replace o:=zc (o.out.below I)
 have ac:=zc (Z.out.below I)
 have ab:=zc (M.out.later I)
 clear I Z M
 clear a0 a1 a2 a3 a4 a5 a6 a7 a8 a9 Q N af
 obtain⟨a0,a1,a2,a3,a4,a5,a6,a7,a8,a9,Q,N,af⟩:=D.out.box
 go_wp2_with fail
 refine (zjj (Cx.mk H j true) J E z S q _ ab.out).mono ?_
 rintro e w3 ⟨U,q3,z3,n3,rfl,i3,m3,s3⟩
 replace D:=zc (D.out.stp s3)
 replace o:=zc (o.out.stp s3)
 have V:=zc (ac.out.step s3)
 clear ac
 have O:=zc m3
 have ae:=zc i3
 clear i3 m3 s3 ab
 clear a0 a1 a2 a3 a4 a5 a6 a7 a8 a9 Q N af
 have ai:w.heap.size+1<w3.heap.size:=o.out.lt
 unfold pv
 go_upto_region 10 with fail
 refine zQ (R:=fun W=>Bx J U W (w.heap.size) _∧Bx J U W (w.heap.size+1) _∧Bx J U W (w3.heap.size) _∧Mem (Cx.mk H j true) J E z U q3 W∧SB w.heap.size S w U W) ⟨(D.out.alloc _),(o.out.alloc _),(Bx.new O.out _),(O.out.alloc _),(V.out.alloc _)⟩ ?_
 clear D o V O
 rintro w4 ⟨X,Y,X2,m4,t4⟩
 have D:=zc X
 have o:=zc Y
 have ah:=zc X2
 have ad:=zc m4
 have ag:=zc t4
 clear m4 t4 X Y X2
 obtain⟨b0,b1,b2,b3,b4,b5,b6,b7,b8,b9,aj,am,bf⟩:=o.out.box
 obtain⟨c0,c1,c2,c3,c4,c5,c6,c7,c8,c9,al,ak,cf⟩:=ah.out.box
 go_wp2
 refine bodyPost_ret (results_cell_row rfl _ _ (w.heap.size+1) 55 _ (0,0) _ rfl ((o.out.put ..)).heap Tryz.underlying55 rfl (by kernel_rfl)) rfl ?_
 rw[HV.out]
 exact zac rfl ae.out.fst (ad.out.put o.out ..) (ag.out.put (by omega) ..)
theorem zvn (H:List Tk) (j:Nat) (I E D:Nat) (S:Sv) (q:PS) (w:World) (hm:Mem (Cx.mk H j true) I E D S q w) (h0:isT (Cx.mk H j true) q.pos 1 sLet=false) (h1:isT (Cx.mk H j true) q.pos 1 sFunction=false) (h2:isT (Cx.mk H j true) q.pos 1 sPrint=true):
  Calls Tryz.prog 21 #[pv (Cx.mk H j true) I E S q (-1) 0] w (Out (Cx.mk H j true) I E D (zo (Cx.mk H j true) q) 0 S w):=by
 have HM:=zc hm
 have U:=hm.tok
 have L:(Cx.mk H j true).ts.length≤4000:=hm.few
 clear hm
 have HV:Hid (zo (Cx.mk H j true) q=bd (bd (bd (bd (bd (bd (.ok q) (zd (Cx.mk H j true) 1 sPrint)) (zd (Cx.mk H j true) 4 cOpen)) (pE (Cx.mk H j true) .sum 0)) (zd (Cx.mk H j true) 4 zU)) (zd (Cx.mk H j true) 4 cSemi)) (zE (Cx.mk H j true) 4 sNone)):=by show zo (Cx.mk H j true) q=_;rw[zo,h0,h1,h2];rfl
 unfold pv
 go_enter Tryz.func21,Tryz.ntmps21
 go_wp2_with fail
 refine (zj (Cx.mk H j true) I E D S q (-1) 0 1 sLet _ (zv (zv U _) _) L (by decide)).mono ?_
 rintro e w1 ⟨rfl,ao⟩
 rw[h0]
 obtain⟨X0,X1,m1,t1⟩:=HM.out.two ao
 have z:=zc X0
 have o:=zc X1
 have X:=zc m1
 have am:=zc t1
 clear X0 X1 m1 t1 ao
 clear U
 obtain⟨a0,a1,a2,a3,a4,a5,a6,a7,a8,a9,M,K,af⟩:=z.out.box
 go_wp2_with fail
 refine (zj (Cx.mk H j true) I E D S q (-1) 0 1 sFunction _ X.out.tok L (by decide)).mono ?_
 rintro e w2 ⟨rfl,O⟩
 rw[h1]
 replace z:=zc (z.out.below O)
 replace o:=zc (o.out.below O)
 have ar:=zc (am.out.below O)
 have Y:=zc (X.out.later O)
 clear O am X
 clear a0 a1 a2 a3 a4 a5 a6 a7 a8 a9 M K af
 obtain⟨a0,a1,a2,a3,a4,a5,a6,a7,a8,a9,M,K,af⟩:=z.out.box
 go_wp2_with fail
 refine (zj (Cx.mk H j true) I E D S q (-1) 0 1 sPrint _ Y.out.tok L (by decide)).mono ?_
 rintro e w3 ⟨rfl,Q⟩
 rw[h2]
 replace z:=zc (z.out.below Q)
 replace o:=zc (o.out.below Q)
 have ag:=zc (ar.out.below Q)
 have an:=zc (Y.out.later Q)
 clear Q ar Y
 clear a0 a1 a2 a3 a4 a5 a6 a7 a8 a9 M K af
 obtain⟨a0,a1,a2,a3,a4,a5,a6,a7,a8,a9,M,K,af⟩:=z.out.box
 go_wp2_with fail
 refine (zaT (Cx.mk H j true) I E D (.ok q) S q (-1) 0 sPrint _ (zab q) an.out).mono ?_
 rintro e w4 ⟨S4,q4,z4,rfl,i4,m4,s4⟩
 replace z:=zc (z.out.stp s4)
 replace o:=zc (o.out.stp s4)
 have al:=zc (ag.out.step s4)
 clear ag
 have ae:=zc m4
 have aB:=zc i4
 clear i4 m4 s4 an
 clear a0 a1 a2 a3 a4 a5 a6 a7 a8 a9 M K af
 go_wp2_with fail
 refine (zah (Cx.mk H j true) I E D _ S4 q4 z4 0 cOpen _ aB.out ae.out).mono ?_
 rintro e w5 ⟨S5,q5,z5,rfl,i5,m5,s5⟩
 replace z:=zc (z.out.stp s5)
 replace o:=zc (o.out.stp s5)
 have ai:=zc (al.out.step s5)
 clear al
 have aa:=zc m5
 have aE:=zc i5
 clear i5 m5 s5 ae
 go_wp2_with fail
 refine (zdp (Cx.mk H j true) I E D _ S5 q5 z5 _ aE.out aa.out).mono ?_
 rintro e w6 ⟨S6,q6,z6,rfl,i6,m6,s6⟩
 replace z:=zc (z.out.stp s6)
 replace o:=zc (o.out.stp s6)
 have au:=zc (ai.out.step s6)
 clear ai
 have ab:=zc m6
 have aA:=zc i6
 clear i6 m6 s6 aa
 go_wp2_with fail
 refine (zah (Cx.mk H j true) I E D _ S6 q6 z6 0 zU _ aA.out ab.out).mono ?_
 rintro e w7 ⟨Z,q7,z7,rfl,i7,m7,s7⟩
 replace z:=zc (z.out.stp s7)
 replace o:=zc (o.out.stp s7)
 have ap:=zc (au.out.step s7)
 clear au
 have V:=zc m7
 have aC:=zc i7
 clear i7 m7 s7 ab
 have aF:w.heap.size+1<w7.heap.size:=o.out.lt
 unfold pv
 go_upto_region 13 with fail
 refine zQ (R:=fun W=>Bx I Z W (w.heap.size) _∧Bx I Z W (w.heap.size+1) _∧Bx I Z W (w7.heap.size) _∧Mem (Cx.mk H j true) I E D Z q7 W∧SB w.heap.size S w Z W) ⟨(z.out.alloc _),(o.out.alloc _),(Bx.new V.out _),(V.out.alloc _),(ap.out.alloc _)⟩ ?_
 clear z o ap V
 rintro w8 ⟨X0,X1,X2,m8,t8⟩
 have z:=zc X0
 have o:=zc X1
 have N:=zc X2
 have aj:=zc m8
 have ac:=zc t8
 clear m8 t8 X0 X1 X2
 obtain⟨c0,c1,c2,c3,c4,c5,c6,c7,c8,c9,aD,az,cf⟩:=N.out.box
 go_wp2_with fail
 refine (zah (Cx.mk H j true) I E D _ Z q7 z7 0 cSemi _ aC.out aj.out).mono ?_
 rintro e w9 ⟨S9,q9,z9,rfl,i9,m9,s9⟩
 replace z:=zc (z.out.stp s9)
 replace o:=zc (o.out.stp s9)
 replace N:=zc (N.out.stp s9)
 have ax:=zc (ac.out.step s9)
 clear ac
 have aq:=zc m9
 have av:=zc i9
 clear i9 m9 s9 aj
 clear c0 c1 c2 c3 c4 c5 c6 c7 c8 c9 aD az cf
 go_wp2_with fail
 refine (zcY (Cx.mk H j true) I E D _ S9 q9 z9 0 4 sNone _ av.out aq.out (zb5 av.out)).mono ?_
 rintro e aH ⟨aJ,aI,aK,rfl,ak,ad,J⟩
 replace z:=zc (z.out.stp J)
 replace o:=zc (o.out.stp J)
 replace N:=zc (N.out.stp J)
 have aw:=zc (ax.out.step J)
 clear ax
 have ah:=zc ad
 have ay:=zc ak
 clear ak ad J aq
 obtain⟨b0,b1,b2,b3,b4,b5,b6,b7,b8,b9,aG,aL,bf⟩:=o.out.box
 unfold pv
 go_wp2
 refine bodyPost_ret (results_cell_row rfl _ _ (w.heap.size+1) 55 _ (0,0) _ rfl ((o.out.put ..)).heap Tryz.underlying55 rfl (by kernel_rfl)) rfl ?_
 rw[HV.out]
 exact zac rfl ay.out (ah.out.put o.out ..) (aw.out.put (by omega) ..)
theorem zvo (H:List Tk) (j:Nat) (L E D:Nat) (S:Sv) (q:PS) (w:World) (hm:Mem (Cx.mk H j true) L E D S q w) (h0:isT (Cx.mk H j true) q.pos 1 sLet=false) (h1:isT (Cx.mk H j true) q.pos 1 sFunction=false) (h2:isT (Cx.mk H j true) q.pos 1 sPrint=false) (h3:isT (Cx.mk H j true) q.pos 1 sThrow=true):
  Calls Tryz.prog 21 #[pv (Cx.mk H j true) L E S q (-1) 0] w (Out (Cx.mk H j true) L E D (zo (Cx.mk H j true) q) 0 S w):=by
 have HM:=zc hm
 have Q:=hm.tok
 have K:(Cx.mk H j true).ts.length≤4000:=hm.few
 clear hm
 have HV:Hid (zo (Cx.mk H j true) q=bd (bd (bd (bd (.ok q) (zd (Cx.mk H j true) 1 sThrow)) (pE (Cx.mk H j true) .sum 0)) (zd (Cx.mk H j true) 4 cSemi)) (zE (Cx.mk H j true) 5 sNone)):=by show zo (Cx.mk H j true) q=_;rw[zo,h0,h1,h2,h3];rfl
 unfold pv
 go_enter Tryz.func21,Tryz.ntmps21
 go_wp2_with fail
 refine (zj (Cx.mk H j true) L E D S q (-1) 0 1 sLet _ (zv (zv Q _) _) K (by decide)).mono ?_
 rintro e w1 ⟨rfl,am⟩
 rw[h0]
 obtain⟨X0,X1,m1,t1⟩:=HM.out.two am
 have o:=zc X0
 have z:=zc X1
 have X:=zc m1
 have al:=zc t1
 clear X0 X1 m1 t1 am
 clear Q
 obtain⟨a0,a1,V,a3,a4,a5,a6,Z,a8,U,J,I,Y⟩:=o.out.box
 go_wp2_with fail
 refine (zj (Cx.mk H j true) L E D S q (-1) 0 1 sFunction _ X.out.tok K (by decide)).mono ?_
 rintro e w2 ⟨rfl,N⟩
 rw[h1]
 replace o:=zc (o.out.below N)
 replace z:=zc (z.out.below N)
 have ao:=zc (al.out.below N)
 have ab:=zc (X.out.later N)
 clear N al X
 clear a0 a1 V a3 a4 a5 a6 Z a8 U J I Y
 obtain⟨a0,a1,V,a3,a4,a5,a6,Z,a8,U,J,I,Y⟩:=o.out.box
 go_wp2_with fail
 refine (zj (Cx.mk H j true) L E D S q (-1) 0 1 sPrint _ ab.out.tok K (by decide)).mono ?_
 rintro e w3 ⟨rfl,O⟩
 rw[h2]
 replace o:=zc (o.out.below O)
 replace z:=zc (z.out.below O)
 have ah:=zc (ao.out.below O)
 have aa:=zc (ab.out.later O)
 clear O ao ab
 clear a0 a1 V a3 a4 a5 a6 Z a8 U J I Y
 obtain⟨a0,a1,V,a3,a4,a5,a6,Z,a8,U,J,I,Y⟩:=o.out.box
 go_wp2_with fail
 refine (zj (Cx.mk H j true) L E D S q (-1) 0 1 sThrow _ aa.out.tok K (by decide)).mono ?_
 rintro e w4 ⟨rfl,M⟩
 rw[h3]
 replace o:=zc (o.out.below M)
 replace z:=zc (z.out.below M)
 have ak:=zc (ah.out.below M)
 have ag:=zc (aa.out.later M)
 clear M ah aa
 clear a0 a1 V a3 a4 a5 a6 Z a8 U J I Y
 obtain⟨a0,a1,V,a3,a4,a5,a6,Z,a8,U,J,I,Y⟩:=o.out.box
 go_wp2_with fail
 refine (zaT (Cx.mk H j true) L E D (.ok q) S q (-1) 0 sThrow _ (zab q) ag.out).mono ?_
 rintro e w5 ⟨S5,q5,z5,rfl,i5,m5,s5⟩
 replace o:=zc (o.out.stp s5)
 replace z:=zc (z.out.stp s5)
 have ai:=zc (ak.out.step s5)
 clear ak
 have ac:=zc m5
 have aw:=zc i5
 clear i5 m5 s5 ag
 clear a0 a1 V a3 a4 a5 a6 Z a8 U J I Y
 go_wp2_with fail
 refine (zdp (Cx.mk H j true) L E D _ S5 q5 z5 _ aw.out ac.out).mono ?_
 rintro e w6 ⟨S6,q6,z6,rfl,i6,m6,s6⟩
 replace o:=zc (o.out.stp s6)
 replace z:=zc (z.out.stp s6)
 have ap:=zc (ai.out.step s6)
 clear ai
 have ad:=zc m6
 have av:=zc i6
 clear i6 m6 s6 ac
 go_wp2_with fail
 refine (zah (Cx.mk H j true) L E D _ S6 q6 z6 0 cSemi _ av.out ad.out).mono ?_
 rintro e w7 ⟨S7,q7,z7,rfl,i7,m7,s7⟩
 replace o:=zc (o.out.stp s7)
 replace z:=zc (z.out.stp s7)
 have an:=zc (ap.out.step s7)
 clear ap
 have ae:=zc m7
 have aj:=zc i7
 clear i7 m7 s7 ad
 go_wp2_with fail
 refine (zcY (Cx.mk H j true) L E D _ S7 q7 z7 0 5 sNone _ aj.out ae.out (zb5 aj.out)).mono ?_
 rintro e w8 ⟨S8,q8,z8,rfl,i8,m8,s8⟩
 replace o:=zc (o.out.stp s8)
 replace z:=zc (z.out.stp s8)
 have aq:=zc (an.out.step s8)
 clear an
 have au:=zc m8
 have ar:=zc i8
 clear i8 m8 s8 ae
 obtain⟨b0,b1,b2,b3,b4,b5,b6,b7,b8,b9,ax,ay,bf⟩:=z.out.box
 unfold pv
 go_wp2
 refine bodyPost_ret (results_cell_row rfl _ _ (w.heap.size+1) 55 _ (0,0) _ rfl ((z.out.put ..)).heap Tryz.underlying55 rfl (by kernel_rfl)) rfl ?_
 rw[HV.out]
 exact zac rfl ar.out (au.out.put z.out ..) (aq.out.put (by omega) ..)
theorem zvp (H:List Tk) (j:Nat) (L E D:Nat) (S:Sv) (q:PS) (w:World) (hm:Mem (Cx.mk H j true) L E D S q w) (h0:isT (Cx.mk H j true) q.pos 1 sLet=false) (h1:isT (Cx.mk H j true) q.pos 1 sFunction=false) (h2:isT (Cx.mk H j true) q.pos 1 sPrint=false) (h3:isT (Cx.mk H j true) q.pos 1 sThrow=false) (h4:isT (Cx.mk H j true) q.pos 1 sFail=true):
  Calls Tryz.prog 21 #[pv (Cx.mk H j true) L E S q (-1) 0] w (Out (Cx.mk H j true) L E D (zo (Cx.mk H j true) q) 0 S w):=by
 have HM:=zc hm
 have aa:=hm.tok
 have K:(Cx.mk H j true).ts.length≤4000:=hm.few
 clear hm
 have HV:Hid (zo (Cx.mk H j true) q=bd (bd (bd (bd (.ok q) (zd (Cx.mk H j true) 1 sFail)) (pE (Cx.mk H j true) .sum 0)) (zd (Cx.mk H j true) 4 cSemi)) (zE (Cx.mk H j true) 6 sNone)):=by show zo (Cx.mk H j true) q=_;rw[zo,h0,h1,h2,h3,h4];rfl
 unfold pv
 go_enter Tryz.func21,Tryz.ntmps21
 go_wp2_with fail
 refine (zj (Cx.mk H j true) L E D S q (-1) 0 1 sLet _ (zv (zv aa _) _) K (by decide)).mono ?_
 rintro e w1 ⟨rfl,aq⟩
 rw[h0]
 obtain⟨X0,X1,m1,t1⟩:=HM.out.two aq
 have o:=zc X0
 have z:=zc X1
 have ac:=zc m1
 have ap:=zc t1
 clear X0 X1 m1 t1 aq
 clear aa
 obtain⟨Z,a1,V,a3,a4,a5,a6,Y,a8,U,J,I,X⟩:=o.out.box
 go_wp2_with fail
 refine (zj (Cx.mk H j true) L E D S q (-1) 0 1 sFunction _ ac.out.tok K (by decide)).mono ?_
 rintro e w2 ⟨rfl,O⟩
 rw[h1]
 replace o:=zc (o.out.below O)
 replace z:=zc (z.out.below O)
 have au:=zc (ap.out.below O)
 have ae:=zc (ac.out.later O)
 clear O ap ac
 clear Z a1 V a3 a4 a5 a6 Y a8 U J I X
 obtain⟨Z,a1,V,a3,a4,a5,a6,Y,a8,U,J,I,X⟩:=o.out.box
 go_wp2_with fail
 refine (zj (Cx.mk H j true) L E D S q (-1) 0 1 sPrint _ ae.out.tok K (by decide)).mono ?_
 rintro e w3 ⟨rfl,Q⟩
 rw[h2]
 replace o:=zc (o.out.below Q)
 replace z:=zc (z.out.below Q)
 have ak:=zc (au.out.below Q)
 have ad:=zc (ae.out.later Q)
 clear Q au ae
 clear Z a1 V a3 a4 a5 a6 Y a8 U J I X
 obtain⟨Z,a1,V,a3,a4,a5,a6,Y,a8,U,J,I,X⟩:=o.out.box
 go_wp2_with fail
 refine (zj (Cx.mk H j true) L E D S q (-1) 0 1 sThrow _ ad.out.tok K (by decide)).mono ?_
 rintro e w4 ⟨rfl,N⟩
 rw[h3]
 replace o:=zc (o.out.below N)
 replace z:=zc (z.out.below N)
 have ao:=zc (ak.out.below N)
 have ab:=zc (ad.out.later N)
 clear N ak ad
 clear Z a1 V a3 a4 a5 a6 Y a8 U J I X
 obtain⟨Z,a1,V,a3,a4,a5,a6,Y,a8,U,J,I,X⟩:=o.out.box
 go_wp2_with fail
 refine (zj (Cx.mk H j true) L E D S q (-1) 0 1 sFail _ ab.out.tok K (by decide)).mono ?_
 rintro e w5 ⟨rfl,M⟩
 rw[h4]
 replace o:=zc (o.out.below M)
 replace z:=zc (z.out.below M)
 have am:=zc (ao.out.below M)
 have ag:=zc (ab.out.later M)
 clear M ao ab
 clear Z a1 V a3 a4 a5 a6 Y a8 U J I X
 obtain⟨Z,a1,V,a3,a4,a5,a6,Y,a8,U,J,I,X⟩:=o.out.box
 go_wp2_with fail
 refine (zaT (Cx.mk H j true) L E D (.ok q) S q (-1) 0 sFail _ (zab q) ag.out).mono ?_
 rintro e w6 ⟨S6,q6,z6,rfl,i6,m6,s6⟩
 replace o:=zc (o.out.stp s6)
 replace z:=zc (z.out.stp s6)
 have av:=zc (am.out.step s6)
 clear am
 have ah:=zc m6
 have aw:=zc i6
 clear i6 m6 s6 ag
 clear Z a1 V a3 a4 a5 a6 Y a8 U J I X
 go_wp2_with fail
 refine (zdp (Cx.mk H j true) L E D _ S6 q6 z6 _ aw.out ah.out).mono ?_
 rintro e w7 ⟨S7,q7,z7,rfl,i7,m7,s7⟩
 replace o:=zc (o.out.stp s7)
 replace z:=zc (z.out.stp s7)
 have ar:=zc (av.out.step s7)
 clear av
 have aj:=zc m7
 have ax:=zc i7
 clear i7 m7 s7 ah
 go_wp2_with fail
 refine (zah (Cx.mk H j true) L E D _ S7 q7 z7 0 cSemi _ ax.out aj.out).mono ?_
 rintro e w8 ⟨S8,q8,z8,rfl,i8,m8,s8⟩
 replace o:=zc (o.out.stp s8)
 replace z:=zc (z.out.stp s8)
 have ai:=zc (ar.out.step s8)
 clear ar
 have an:=zc m8
 have al:=zc i8
 clear i8 m8 s8 aj
 go_wp2_with fail
 refine (zcY (Cx.mk H j true) L E D _ S8 q8 z8 0 6 sNone _ al.out an.out (zb5 al.out)).mono ?_
 rintro e w9 ⟨S9,q9,z9,rfl,i9,m9,s9⟩
 replace o:=zc (o.out.stp s9)
 replace z:=zc (z.out.stp s9)
 have aA:=zc (ai.out.step s9)
 clear ai
 have ay:=zc m9
 have az:=zc i9
 clear i9 m9 s9 an
 obtain⟨b0,b1,b2,b3,b4,b5,b6,b7,b8,b9,aB,aC,bf⟩:=z.out.box
 unfold pv
 go_wp2
 refine bodyPost_ret (results_cell_row rfl _ _ (w.heap.size+1) 55 _ (0,0) _ rfl ((z.out.put ..)).heap Tryz.underlying55 rfl (by kernel_rfl)) rfl ?_
 rw[HV.out]
 exact zac rfl az.out (ay.out.put z.out ..) (aA.out.put (by omega) ..)
theorem zvq (E:List Tk) (j:Nat) (L H D:Nat) (S:Sv) (q:PS) (w:World) (hm:Mem (Cx.mk E j true) L H D S q w) (h0:isT (Cx.mk E j true) q.pos 1 sLet=false) (h1:isT (Cx.mk E j true) q.pos 1 sFunction=false) (h2:isT (Cx.mk E j true) q.pos 1 sPrint=false) (h3:isT (Cx.mk E j true) q.pos 1 sThrow=false) (h4:isT (Cx.mk E j true) q.pos 1 sFail=false):
  Calls Tryz.prog 21 #[pv (Cx.mk E j true) L H S q (-1) 0] w (Out (Cx.mk E j true) L H D (zo (Cx.mk E j true) q) 0 S w):=by
 have HM:=zc hm
 have ab:=hm.tok
 have M:(Cx.mk E j true).ts.length≤4000:=hm.few
 clear hm
 have HV:Hid (zo (Cx.mk E j true) q=bd (bd (.ok q) (zk (Cx.mk E j true) false)) fun a=>bd (bd (bd (bd (.ok a.1) (zd (Cx.mk E j true) 4 cEq)) (pE (Cx.mk E j true) .sum 0)) (zd (Cx.mk E j true) 4 cSemi)) (zE (Cx.mk E j true) 3 a.2)):=by show zo (Cx.mk E j true) q=_;rw[zo,h0,h1,h2,h3,h4];rfl
 unfold pv
 go_enter Tryz.func21,Tryz.ntmps21
 go_wp2_with fail
 refine (zj (Cx.mk E j true) L H D S q (-1) 0 1 sLet _ (zv (zv ab _) _) M (by decide)).mono ?_
 rintro e w1 ⟨rfl,az⟩
 rw[h0]
 obtain⟨X0,X1,m1,t1⟩:=HM.out.two az
 have o:=zc X0
 have z:=zc X1
 have ah:=zc m1
 have aw:=zc t1
 clear X0 X1 m1 t1 az
 clear ab
 obtain⟨a0,a1,Z,a3,a4,a5,a6,a7,a8,Y,J,I,af⟩:=o.out.box
 go_wp2_with fail
 refine (zj (Cx.mk E j true) L H D S q (-1) 0 1 sFunction _ ah.out.tok M (by decide)).mono ?_
 rintro e w2 ⟨rfl,V⟩
 rw[h1]
 replace o:=zc (o.out.below V)
 replace z:=zc (z.out.below V)
 have aE:=zc (aw.out.below V)
 have aj:=zc (ah.out.later V)
 clear V aw ah
 clear a0 a1 Z a3 a4 a5 a6 a7 a8 Y J I af
 obtain⟨a0,a1,Z,a3,a4,a5,a6,a7,a8,Y,J,I,af⟩:=o.out.box
 go_wp2_with fail
 refine (zj (Cx.mk E j true) L H D S q (-1) 0 1 sPrint _ aj.out.tok M (by decide)).mono ?_
 rintro e w3 ⟨rfl,X⟩
 rw[h2]
 replace o:=zc (o.out.below X)
 replace z:=zc (z.out.below X)
 have ao:=zc (aE.out.below X)
 have ai:=zc (aj.out.later X)
 clear X aE aj
 clear a0 a1 Z a3 a4 a5 a6 a7 a8 Y J I af
 obtain⟨a0,a1,Z,a3,a4,a5,a6,a7,a8,Y,J,I,af⟩:=o.out.box
 go_wp2_with fail
 refine (zj (Cx.mk E j true) L H D S q (-1) 0 1 sThrow _ ai.out.tok M (by decide)).mono ?_
 rintro e w4 ⟨rfl,Q⟩
 rw[h3]
 replace o:=zc (o.out.below Q)
 replace z:=zc (z.out.below Q)
 have av:=zc (ao.out.below Q)
 have ag:=zc (ai.out.later Q)
 clear Q ao ai
 clear a0 a1 Z a3 a4 a5 a6 a7 a8 Y J I af
 obtain⟨a0,a1,Z,a3,a4,a5,a6,a7,a8,Y,J,I,af⟩:=o.out.box
 go_wp2_with fail
 refine (zj (Cx.mk E j true) L H D S q (-1) 0 1 sFail _ ag.out.tok M (by decide)).mono ?_
 rintro e w5 ⟨rfl,N⟩
 rw[h4]
 replace o:=zc (o.out.below N)
 replace z:=zc (z.out.below N)
 have ap:=zc (av.out.below N)
 have ak:=zc (ag.out.later N)
 clear N av ag
 clear a0 a1 Z a3 a4 a5 a6 a7 a8 Y J I af
 obtain⟨a0,a1,Z,a3,a4,a5,a6,a7,a8,Y,J,I,af⟩:=o.out.box
 go_wp2_with fail
 refine (zbz (Cx.mk E j true) L H D (.ok q) S q (-1) 0 false _ (zab q) ak.out).mono ?_
 rintro e w6 ⟨S6,q6,z6,n6,rfl,i6,m6,s6⟩
 replace o:=zc (o.out.stp s6)
 replace z:=zc (z.out.stp s6)
 have aF:=zc (ap.out.step s6)
 clear ap
 have ae:=zc m6
 have au:=zc i6
 clear i6 m6 s6 ak
 clear a0 a1 Z a3 a4 a5 a6 a7 a8 Y J I af
 have aP:w.heap.size+1<w6.heap.size:=z.out.lt
 unfold pv
 go_upto_region 19 with fail
 refine zQ (R:=fun W=>Bx L S6 W (w.heap.size) _∧Bx L S6 W (w.heap.size+1) _∧Bx L S6 W (w6.heap.size) _∧Mem (Cx.mk E j true) L H D S6 q6 W∧SB w.heap.size S w S6 W) ⟨(o.out.alloc _),(z.out.alloc _),(Bx.new ae.out _),(ae.out.alloc _),(aF.out.alloc _)⟩ ?_
 clear o z aF ae
 rintro w7 ⟨X0,X1,X2,m7,t7⟩
 have o:=zc X0
 have z:=zc X1
 have K:=zc X2
 have an:=zc m7
 have aB:=zc t7
 clear m7 t7 X0 X1 X2
 obtain⟨c0,c1,c2,c3,c4,c5,c6,c7,c8,c9,aL,aI,cf⟩:=K.out.box
 go_wp2_with fail
 refine (zah (Cx.mk E j true) L H D _ S6 q6 z6 0 cEq _ au.out.fst an.out).mono ?_
 rintro e w8 ⟨S8,q8,z8,rfl,i8,m8,s8⟩
 replace o:=zc (o.out.stp s8)
 replace z:=zc (z.out.stp s8)
 replace K:=zc (K.out.stp s8)
 have al:=zc (aB.out.step s8)
 clear aB
 have aq:=zc m8
 have aJ:=zc i8
 clear i8 m8 s8 an
 clear c0 c1 c2 c3 c4 c5 c6 c7 c8 c9 aL aI cf
 go_wp2_with fail
 refine (zdp (Cx.mk E j true) L H D _ S8 q8 z8 _ aJ.out aq.out).mono ?_
 rintro e w9 ⟨S9,q9,z9,rfl,i9,m9,s9⟩
 replace o:=zc (o.out.stp s9)
 replace z:=zc (z.out.stp s9)
 replace K:=zc (K.out.stp s9)
 have aH:=zc (al.out.step s9)
 clear al
 have aC:=zc m9
 have aN:=zc i9
 clear i9 m9 s9 aq
 go_wp2_with fail
 refine (zah (Cx.mk E j true) L H D _ S9 q9 z9 0 cSemi _ aN.out aC.out).mono ?_
 rintro e aT ⟨aM,aK,aO,rfl,ar,am,O⟩
 replace o:=zc (o.out.stp O)
 replace z:=zc (z.out.stp O)
 replace K:=zc (K.out.stp O)
 have ac:=zc (aH.out.step O)
 clear aH
 have aa:=zc am
 have ad:=zc ar
 clear ar am O aC
 go_wp2_with fail
 refine (zcY (Cx.mk E j true) L H D _ aM aK aO 0 3 n6 _ ad.out aa.out (zb5 ad.out)).mono ?_
 rintro e aR ⟨aS,aV,aU,rfl,aA,ax,U⟩
 replace o:=zc (o.out.stp U)
 replace z:=zc (z.out.stp U)
 replace K:=zc (K.out.stp U)
 have aD:=zc (ac.out.step U)
 clear ac
 have ay:=zc ax
 have aG:=zc aA
 clear aA ax U aa
 obtain⟨b0,b1,b2,b3,b4,b5,b6,b7,b8,b9,aQ,aW,bf⟩:=z.out.box
 unfold pv
 go_wp2
 refine bodyPost_ret (results_cell_row rfl _ _ (w.heap.size+1) 55 _ (0,0) _ rfl ((z.out.put ..)).heap Tryz.underlying55 rfl (by kernel_rfl)) rfl ?_
 rw[HV.out,←au.out.bind (fun q n=>bd (bd (bd (bd (.ok q) (zd (Cx.mk E j true) 4 cEq)) (pE (Cx.mk E j true) .sum 0)) (zd (Cx.mk E j true) 4 cSemi)) (zE (Cx.mk E j true) 3 n)),←zmK]
 exact zac rfl aG.out (ay.out.put z.out ..) (aD.out.put (by omega) ..)
theorem zvr (D:List Tk) (j:Nat) (E z o:Nat) (S:Sv) (q:PS) (w:World) (H:Mem (Cx.mk D j true) E z o S q w):
  Calls Tryz.prog 21 #[pv (Cx.mk D j true) E z S q (-1) 0] w (Out (Cx.mk D j true) E z o (zo (Cx.mk D j true) q) 0 S w):=by
 cases I:isT (Cx.mk D j true) q.pos 1 sLet with
 |true=>exact zvl D j E z o S q w H I
 |false=>
  cases J:isT (Cx.mk D j true) q.pos 1 sFunction with
  |true=>exact zvm D j E z o S q w H I J
  |false=>
   cases K:isT (Cx.mk D j true) q.pos 1 sPrint with
   |true=>exact zvn D j E z o S q w H I J K
   |false=>
    cases L:isT (Cx.mk D j true) q.pos 1 sThrow with
    |true=>exact zvo D j E z o S q w H I J K L
    |false=>
     cases M:isT (Cx.mk D j true) q.pos 1 sFail with
     |true=>exact zvp D j E z o S q w H I J K L M
     |false=>
      exact zvq D j E z o S q w H I J K L M
end Go.Proofs.YthfeoomfiafldaaGreat
