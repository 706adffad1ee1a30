/-
  What spec's l4Import answers: the walks.
  What spec's l4Export answers: the walks.
  What spec's l4Export answers to a list of names: the walks.
  What spec's l4Item answers: the walks.
-/
import Derived.Test.YthfeoomfiafldaaGreatCdSpecParseK
namespace Go.Proofs.YthfeoomfiafldaaGreat
set_option maxRecDepth 100000
set_option maxHeartbeats 6400000
open Go.RowKit Go.PlainAid
theorem zdq {C:Cx} {k:Int} {s:ByteArray} {q q1:PS} {j:Int} (h:Is (bd (.ok q) (zd C k s)) q1 j) (o:isT C q.pos k s=true):q1=adv q∧j= -1:=by
 rw[zh,zd,if_pos o] at h
 exact h
theorem zgj {α:Type} (f:α→PS→PR) (l:List α) (e:Nat):zK f l (.error e)= .error e:=by
 induction l with
 |nil=>rfl
 |cons a l j=>exact j
theorem zht {α:Type} (f:α→PS→PR) (l:List α) (x:PR) {k:Nat} (j:k<l.length):zK f (l.drop k) x=zK f (l.drop (k+1)) (bd x (f (l[k]))):=by
 rw[List.drop_eq_getElem_cons j]
 rfl
theorem zmG {C:Cx} {j:PRN} {H M:PS} {K L:Int} {D z:ByteArray} {G:ByteArray→ByteArray→PS→PR} (E:Is2 j H K D) (o:Is2 (bd (bd (za7 j) (zd C 1 zH)) (zy C)) M L z):
  bd (bd (za7 (bd (bd (za7 j) (zd C 1 zH)) (zy C))) (zd C 4 cSemi)) (G z D)=bd j fun a=>bd (zaD C (zav C (.ok a.1))) fun b=>G b.2 a.2 b.1:=by
 cases j with
 |error e=>rfl
 |ok a=>
  obtain⟨_,_,rfl⟩:=E
  have I:bd (bd (za7 (.ok a)) (zd C 1 zH)) (zy C)=zav C (.ok a.1):=rfl
  rw[I] at o ⊢
  rw[zh]
  cases J:zav C (.ok a.1) with
  |error e=>rfl
  |ok b=>
   rw[J] at o
   obtain⟨_,_,rfl⟩:=o
   show bd (zd C 4 cSemi b.1) (G b.2 a.2)=bd (bd (zd C 4 cSemi b.1) fun q=>.ok (q,b.2)) fun b=>G b.2 a.2 b.1
   rw[zR]
   rfl
def zgk (y:PRL):PR:=bd y fun a=>.ok a.1
theorem Is3.fst {y:PRL} {q:PS} {z:Int} {l:List Ep} (h:Is3 y q z l):Is (zgk y) q z:=by
 cases y with
 |ok a=>exact⟨h.1,h.2.1⟩
 |error e=>exact h
theorem zjk {C:Cx} {y:PRL} {D L:PS} {J K:Int} {l:List Ep} {o:ByteArray} {G:ByteArray→Ep→PS→PR} (z:Is3 y D J l) (j:Is2 (bd (bd (zgk y) (zd C 1 zH)) (zy C)) L K o):
  zK (G o) l (bd (za7 (bd (bd (zgk y) (zd C 1 zH)) (zy C))) (zd C 4 cSemi))=bd y fun a=>bd (zaD C (zav C (.ok a.1))) fun b=>zK (G b.2) a.2 (.ok b.1):=by
 cases y with
 |error e=>exact zgj _ _ _
 |ok a=>
  obtain⟨_,_,rfl⟩:=z
  have H:bd (bd (zgk (.ok a)) (zd C 1 zH)) (zy C)=zav C (.ok a.1):=rfl
  rw[H] at j ⊢
  rw[zh]
  cases I:zav C (.ok a.1) with
  |error e=>exact zgj _ _ _
  |ok b=>
   rw[I] at j
   obtain⟨_,_,rfl⟩:=j
   show zK (G b.2) a.2 (bd (za7 (.ok b)) (zd C 4 cSemi))=bd (bd (zd C 4 cSemi b.1) fun q=>.ok (q,b.2)) fun b=>zK (G b.2) a.2 (.ok b.1)
   have E:bd (za7 (.ok b)) (zd C 4 cSemi)=zd C 4 cSemi b.1:=rfl
   rw[E,zR]
   cases zd C 4 cSemi b.1 with
   |error e=>exact zgj _ _ _
   |ok c=>rfl
theorem Mem.drew {C:Cx} {z o j:Nat} {S:Sv} {q:PS} {w:World} (h:Mem C z o j S q w):Mem C z o j S q w.drew:=⟨⟨h.own.rq,h.own.im,h.own.ep,h.own.st,h.own.ex,h.own.la,h.own.apart⟩,h.inv,h.tok,h.few,h.base⟩
theorem Stp.undrew {S j:Sv} {w o:World} (h:Stp S w.drew j o):Stp S w j o:=⟨h.os,h.tape,h.output,h.size,h.block,h.sub⟩
theorem Row.cells {S:Sv} {w:World} {z B g:Nat} {r:Rw} {l:List Ep} (h:Row S w z B r l) (K:r.a=some ⟨g,0,none⟩) {j:Nat} (I:j<l.length):
  w.cell? ⟨g,j*4+1,none⟩=some (.string (l[j]).name)∧w.cell? ⟨g,j*4+2,none⟩=some (.string (l[j]).loc):=by
 have E:=h.own
 unfold OwnR at E
 rw[K] at E
 have o: ∀(l:List Ep) (i c:Nat) (H:c<4) (D:i<l.length),(l.flatMap epL)[i*4+c]? =(epL l[i])[c]?:=by
  intro l
  induction l with
  |nil=>intro i c _ D;simp at D
  |cons x l J=>
   intro i c H D
   match i with
   |0=>
    simp only[List.flatMap_cons,Nat.zero_mul,Nat.zero_add,List.getElem_cons_zero]
    rw[List.getElem?_append_left (by simp[epL];omega)]
   |i+1=>
    simp only[List.flatMap_cons,List.getElem_cons_succ]
    rw[List.getElem?_append_right (by simp[epL];omega)]
    have e:(i+1)*4+c-(epL x).length=i*4+c:=by simp[epL];omega
    rw[e]
    exact J i c H (by simpa using D)
 rw[E.cellAt _ (by omega),E.cellAt _ (by omega)]
 exact⟨o l j 1 (by omega) I,o l j 2 (by omega) I⟩
theorem zuT {C:Cx} {y:Im} {x:PR} {q q':PS} {z z':Int} (D:z<0→1≤q.pos) (H:Is x q z) (h:Is (bd x (zW C y)) q' z'):z'<0→1≤q'.pos:=by
 intro E
 obtain⟨e,_⟩:=zaF h E
 obtain⟨a,o,j⟩:=ze e
 subst o
 obtain⟨rfl,rfl⟩:=H
 unfold zW at j
 split at j
 ·cases j
 ·cases j
  exact D (by decide)
theorem zjl {C:Cx} {y:Ep} {x:PR} {q q':PS} {z z':Int} (o:z<0→1≤q.pos) (H:Is x q z) (h:Is (bd x (zm C y)) q' z'):z'<0→1≤q'.pos:=by
 intro E
 obtain⟨e,_⟩:=zaF h E
 obtain⟨a,D,j⟩:=ze e
 subst D
 obtain⟨rfl,rfl⟩:=H
 unfold zm at j
 split at j
 ·cases j
 ·split at j
  ·cases j
   exact o (by decide)
  ·cases j
   exact o (by decide)
theorem zuU (C:Cx) (H D z:Nat) (S:Sv) (q:PS) (w:World) (hm:Mem C H D z S q w) (hw:isT C q.pos 1 sImport=true) (h1:isT C (q.pos+1) 4 zF=false) (h2:isT C (q.pos+1) 4 zp=true):
  Calls Tryz.prog 48 #[pv C H D S q (-1) 0] w (Out C H D z (za3 C q) 0 S w):=by
 have HM:=zc hm
 have ac:=hm.few
 clear hm
 have HV:Hid (za3 C q=bd (bd (bd (bd (.ok (adv q)) (zd C 4 zp)) (zd C 1 sAs)) (zk C false)) fun a=>bd (zaD C (zav C (.ok a.1))) fun b=>zW C ⟨b.2,zp,a.2⟩ b.1):=by
  show _=_
  rw[za3,zd,if_pos hw,zh]
  rw[zz,h1,h2]
  rfl
 unfold pv
 go_enter Tryz.func48,Tryz.ntmps48
 go_wp2_with fail
 refine (zaT C H D z (.ok q) S q (-1) 0 sImport _ (zab q) ((HM.out.alloc _).alloc _)).mono ?_
 rintro e w1 ⟨S1,Z,z1,rfl,i1,m1,s1⟩
 obtain⟨X,V,t1⟩:=HM.out.two2 s1
 have j:=zc X
 have o:=zc V
 have aR:=zc m1
 have aS:=zc t1
 have aE:=zc i1
 clear X V i1 m1 t1 s1
 obtain⟨ak,rfl⟩:=zdq aE.out hw
 have HQ:=zc ak
 have al:Hid (Z.pos=q.pos+1):=by show Z.pos=q.pos+1;rw[ak];rfl
 clear ak aE
 obtain⟨a0,a1,a2,a3,a4,a5,a6,a7,a8,a9,J,K,af⟩:=j.out.box
 unfold pv
 go_upto_region 2 with fail
 refine zQ (R:=fun W=>Bx H S1 W (w.heap.size) _∧Bx H S1 W (w.heap.size+1) _∧Mem C H D z S1 Z W∧SB w.heap.size S w S1 W) ⟨(j.out.put ..),(o.out.other (by omega) ..),(aR.out.put j.out ..),(aS.out.put (by omega) ..)⟩ ?_
 clear a0 a1 a2 a3 a4 a5 a6 a7 a8 a9 J K af
 clear j o aS aR
 rintro w2 ⟨X,V,m2,t2⟩
 have j:=zc X
 have o:=zc V
 have ao:=zc m2
 have aw:=zc t2
 clear m2 t2 X V
 obtain⟨a0,a1,a2,a3,a4,a5,a6,a7,a8,a9,J,K,af⟩:=j.out.box
 go_wp2_with fail
 refine (zj C H D z S1 Z (-1) 0 4 zF _ ao.out.tok ac (by decide)).mono ?_
 rintro e w3 ⟨rfl,N⟩
 rw[al.out,h1]
 replace j:=zc (j.out.below N)
 replace o:=zc (o.out.below N)
 have aN:=zc (aw.out.below N)
 have an:=zc (ao.out.later N)
 clear N aw ao
 clear a0 a1 a2 a3 a4 a5 a6 a7 a8 a9 J K af
 obtain⟨a0,a1,a2,a3,a4,a5,a6,a7,a8,a9,J,K,af⟩:=j.out.box
 go_wp2_with fail
 refine (zj C H D z S1 Z (-1) 0 4 zp _ an.out.tok ac (by decide)).mono ?_
 rintro e w4 ⟨rfl,U⟩
 rw[al.out,h2]
 replace j:=zc (j.out.below U)
 replace o:=zc (o.out.below U)
 have aQ:=zc (aN.out.below U)
 have aO:=zc (an.out.later U)
 clear U aN an
 clear a0 a1 a2 a3 a4 a5 a6 a7 a8 a9 J K af
 obtain⟨a0,a1,a2,a3,a4,a5,a6,a7,a8,a9,J,K,af⟩:=j.out.box
 clear al
 go_wp2_with fail
 refine (zah C H D z (.ok Z) S1 Z (-1) 0 zp _ (zab Z) aO.out).mono ?_
 rintro e w5 ⟨S5,q5,z5,rfl,i5,m5,s5⟩
 replace j:=zc (j.out.stp s5)
 replace o:=zc (o.out.stp s5)
 have au:=zc (aQ.out.step s5)
 clear aQ
 have aJ:=zc m5
 have aV:=zc i5
 clear i5 m5 s5 aO
 clear a0 a1 a2 a3 a4 a5 a6 a7 a8 a9 J K af
 go_wp2_with fail
 refine (zaT C H D z _ S5 q5 z5 0 sAs _ aV.out aJ.out).mono ?_
 rintro e w6 ⟨S6,q6,z6,rfl,i6,m6,s6⟩
 replace j:=zc (j.out.stp s6)
 replace o:=zc (o.out.stp s6)
 have aG:=zc (au.out.step s6)
 clear au
 have aC:=zc m6
 have aY:=zc i6
 clear i6 m6 s6 aJ
 go_wp2_with fail
 refine (zbz C H D z _ S6 q6 z6 0 false _ aY.out aC.out).mono ?_
 rintro e w7 ⟨S7,q7,z7,n7,rfl,i7,m7,s7⟩
 replace j:=zc (j.out.stp s7)
 replace o:=zc (o.out.stp s7)
 have ar:=zc (aG.out.step s7)
 clear aG
 have aj:=zc m7
 have aI:=zc i7
 clear i7 m7 s7 aC
 have bl:w.heap.size+1<w7.heap.size:=o.out.lt
 unfold pv
 go_upto_region 13 with fail
 refine zQ (R:=fun W=>Bx H S7 W (w.heap.size) _∧Bx H S7 W (w.heap.size+1) _∧Bx H S7 W (w7.heap.size) _∧Mem C H D z S7 q7 W∧SB w.heap.size S w S7 W) ⟨(j.out.alloc _),(o.out.alloc _),(Bx.new aj.out _),(aj.out.alloc _),(ar.out.alloc _)⟩ ?_
 clear j o ar aj
 rintro w8 ⟨X,V,X2,m8,t8⟩
 have j:=zc X
 have o:=zc V
 have E:=zc X2
 have aP:=zc m8
 have aK:=zc t8
 clear m8 t8 X V X2
 obtain⟨c0,c1,c2,c3,c4,c5,c6,c7,c8,c9,bb,aX,cf⟩:=E.out.box
 go_wp2_with fail
 refine (zaT C H D z _ S7 q7 z7 0 zH _ aI.out.fst aP.out).mono ?_
 rintro e w9 ⟨S9,q9,z9,rfl,i9,m9,s9⟩
 replace j:=zc (j.out.stp s9)
 replace o:=zc (o.out.stp s9)
 replace E:=zc (E.out.stp s9)
 have aF:=zc (aK.out.step s9)
 clear aK
 have aL:=zc m9
 have bj:=zc i9
 clear i9 m9 s9 aP
 clear c0 c1 c2 c3 c4 c5 c6 c7 c8 c9 bb aX cf
 go_wp2_with fail
 refine (zeD C H D z _ S9 q9 z9 0 _ bj.out aL.out).mono ?_
 rintro e am ⟨I,ax,bi,be,rfl,aB,ay,Q⟩
 replace j:=zc (j.out.stp Q)
 replace o:=zc (o.out.stp Q)
 replace E:=zc (E.out.stp Q)
 have ah:=zc (aF.out.step Q)
 clear aF
 have O:=zc ay
 have ad:=zc aB
 clear aB ay Q aL
 have bk:w.heap.size+1<am.heap.size:=o.out.lt
 have aU:w7.heap.size<am.heap.size:=E.out.lt
 unfold pv
 go_upto_region 14 with fail
 refine zQ (R:=fun W=>Bx H I W (w.heap.size) _∧Bx H I W (w.heap.size+1) _∧Bx H I W (w7.heap.size) _∧Bx H I W (am.heap.size) _∧Mem C H D z I ax W∧SB w.heap.size S w I W) ⟨(j.out.alloc _),(o.out.alloc _),(E.out.alloc _),(Bx.new O.out _),(O.out.alloc _),(ah.out.alloc _)⟩ ?_
 clear j o E ah O
 rintro bp ⟨X,V,X2,X3,av,aD⟩
 have j:=zc X
 have o:=zc V
 have E:=zc X2
 have Y:=zc X3
 have ai:=zc av
 have aa:=zc aD
 clear av aD X V X2 X3
 obtain⟨d0,d1,d2,d3,d4,d5,d6,d7,d8,d9,bg,aZ,df⟩:=Y.out.box
 go_wp2_with fail
 refine (zah C H D z _ I ax bi 0 cSemi _ ad.out.fst ai.out).mono ?_
 rintro e br ⟨aW,ba,bc,rfl,aq,aT,M⟩
 replace j:=zc (j.out.stp M)
 replace o:=zc (o.out.stp M)
 replace E:=zc (E.out.stp M)
 replace Y:=zc (Y.out.stp M)
 have ae:=zc (aa.out.step M)
 clear aa
 have ab:=zc aT
 have ag:=zc aq
 clear aq aT M ai
 clear d0 d1 d2 d3 d4 d5 d6 d7 d8 d9 bg aZ df
 go_wp2_with fail
 refine (zhP C H D z _ aW ba bc 0 ⟨be,zp,n7⟩ _ ag.out ab.out (zb5 ag.out)).mono ?_
 rintro e bm ⟨bu,bt,bo,rfl,aA,ap,L⟩
 replace j:=zc (j.out.stp L)
 replace o:=zc (o.out.stp L)
 replace E:=zc (E.out.stp L)
 replace Y:=zc (Y.out.stp L)
 have aH:=zc (ae.out.step L)
 clear ae
 have aM:=zc ap
 have az:=zc aA
 clear aA ap L ab
 obtain⟨b0,b1,b2,b3,b4,b5,b6,b7,b8,b9,bq,bs,bf⟩:=o.out.box
 unfold pv
 go_wp2
 refine bodyPost_ret (results_cell_row rfl _ _ (w.heap.size+1) 55 _ (0,0) _ rfl ((o.out.put ..)).heap Tryz.underlying55 rfl (by kernel_rfl)) rfl ?_
 rw[HV.out,←HQ.out,←zmG (G:=fun b a=>zW C ⟨b,zp,a⟩) aI.out ad.out]
 exact zac rfl az.out (aM.out.put o.out ..) (aH.out.put (by omega) ..)
theorem zuV (C:Cx) (H D z:Nat) (S:Sv) (q:PS) (w:World) (hm:Mem C H D z S q w) (hw:isT C q.pos 1 sImport=true) (h1:isT C (q.pos+1) 4 zF=false) (h2:isT C (q.pos+1) 4 zp=false) (h3:plainB C (q.pos+1) false=true):
  Calls Tryz.prog 48 #[pv C H D S q (-1) 0] w (Out C H D z (za3 C q) 0 S w):=by
 have HM:=zc hm
 have O:=hm.few
 clear hm
 have HV:Hid (za3 C q=bd (bd (.ok (adv q)) (zk C false)) fun a=>bd (zaD C (zav C (.ok a.1))) fun b=>zW C ⟨b.2,sDefault,a.2⟩ b.1):=by
  show _=_
  rw[za3,zd,if_pos hw,zh]
  rw[zz,h1,h2,h3]
  rfl
 unfold pv
 go_enter Tryz.func48,Tryz.ntmps48
 go_wp2_with fail
 refine (zaT C H D z (.ok q) S q (-1) 0 sImport _ (zab q) ((HM.out.alloc _).alloc _)).mono ?_
 rintro e w1 ⟨S1,Z,z1,rfl,i1,m1,s1⟩
 obtain⟨V,U,t1⟩:=HM.out.two2 s1
 have j:=zc V
 have o:=zc U
 have aL:=zc m1
 have aM:=zc t1
 have ay:=zc i1
 clear V U i1 m1 t1 s1
 obtain⟨ah,rfl⟩:=zdq ay.out hw
 have HQ:=zc ah
 have aa:Hid (Z.pos=q.pos+1):=by show Z.pos=q.pos+1;rw[ah];rfl
 clear ah ay
 obtain⟨a0,a1,Y,a3,a4,a5,a6,a7,a8,a9,I,J,af⟩:=j.out.box
 unfold pv
 go_upto_region 2 with fail
 refine zQ (R:=fun W=>Bx H S1 W (w.heap.size) _∧Bx H S1 W (w.heap.size+1) _∧Mem C H D z S1 Z W∧SB w.heap.size S w S1 W) ⟨(j.out.put ..),(o.out.other (by omega) ..),(aL.out.put j.out ..),(aM.out.put (by omega) ..)⟩ ?_
 clear a0 a1 Y a3 a4 a5 a6 a7 a8 a9 I J af
 clear j o aM aL
 rintro w2 ⟨V,U,m2,t2⟩
 have j:=zc V
 have o:=zc U
 have am:=zc m2
 have av:=zc t2
 clear m2 t2 V U
 obtain⟨a0,a1,Y,a3,a4,a5,a6,a7,a8,a9,I,J,af⟩:=j.out.box
 go_wp2_with fail
 refine (zj C H D z S1 Z (-1) 0 4 zF _ am.out.tok O (by decide)).mono ?_
 rintro e w3 ⟨rfl,M⟩
 rw[aa.out,h1]
 replace j:=zc (j.out.below M)
 replace o:=zc (o.out.below M)
 have aG:=zc (av.out.below M)
 have aj:=zc (am.out.later M)
 clear M av am
 clear a0 a1 Y a3 a4 a5 a6 a7 a8 a9 I J af
 obtain⟨a0,a1,Y,a3,a4,a5,a6,a7,a8,a9,I,J,af⟩:=j.out.box
 go_wp2_with fail
 refine (zj C H D z S1 Z (-1) 0 4 zp _ aj.out.tok O (by decide)).mono ?_
 rintro e w4 ⟨rfl,Q⟩
 rw[aa.out,h2]
 replace j:=zc (j.out.below Q)
 replace o:=zc (o.out.below Q)
 have aJ:=zc (aG.out.below Q)
 have al:=zc (aj.out.later Q)
 clear Q aG aj
 clear a0 a1 Y a3 a4 a5 a6 a7 a8 a9 I J af
 obtain⟨a0,a1,Y,a3,a4,a5,a6,a7,a8,a9,I,J,af⟩:=j.out.box
 go_wp2_with fail
 refine (zg5 C H D z S1 Z (-1) 0 false _ al.out.tok O).mono ?_
 rintro e w5 ⟨rfl,N⟩
 rw[aa.out,h3]
 replace j:=zc (j.out.below N)
 replace o:=zc (o.out.below N)
 have ap:=zc (aJ.out.below N)
 have aE:=zc (al.out.later N)
 clear N aJ al
 clear a0 a1 Y a3 a4 a5 a6 a7 a8 a9 I J af
 obtain⟨a0,a1,Y,a3,a4,a5,a6,a7,a8,a9,I,J,af⟩:=j.out.box
 clear aa
 go_wp2_with fail
 refine (zbz C H D z (.ok Z) S1 Z (-1) 0 false _ (zab Z) aE.out).mono ?_
 rintro e w6 ⟨S6,q6,z6,n6,rfl,i6,m6,s6⟩
 replace j:=zc (j.out.stp s6)
 replace o:=zc (o.out.stp s6)
 have aD:=zc (ap.out.step s6)
 clear ap
 have ai:=zc m6
 have az:=zc i6
 clear i6 m6 s6 aE
 clear a0 a1 Y a3 a4 a5 a6 a7 a8 a9 I J af
 have aY:w.heap.size+1<w6.heap.size:=o.out.lt
 unfold pv
 go_upto_region 17 with fail
 refine zQ (R:=fun W=>Bx H S6 W (w.heap.size) _∧Bx H S6 W (w.heap.size+1) _∧Bx H S6 W (w6.heap.size) _∧Mem C H D z S6 q6 W∧SB w.heap.size S w S6 W) ⟨(j.out.alloc _),(o.out.alloc _),(Bx.new ai.out _),(ai.out.alloc _),(aD.out.alloc _)⟩ ?_
 clear j o aD ai
 rintro w7 ⟨V,U,X2,m7,t7⟩
 have j:=zc V
 have o:=zc U
 have E:=zc X2
 have aq:=zc m7
 have ao:=zc t7
 clear m7 t7 V U X2
 obtain⟨c0,c1,c2,c3,c4,c5,c6,c7,c8,c9,aT,aR,cf⟩:=E.out.box
 go_wp2_with fail
 refine (zaT C H D z _ S6 q6 z6 0 zH _ az.out.fst aq.out).mono ?_
 rintro e w8 ⟨S8,q8,z8,rfl,i8,m8,s8⟩
 replace j:=zc (j.out.stp s8)
 replace o:=zc (o.out.stp s8)
 replace E:=zc (E.out.stp s8)
 have aF:=zc (ao.out.step s8)
 clear ao
 have aI:=zc m8
 have aQ:=zc i8
 clear i8 m8 s8 aq
 clear c0 c1 c2 c3 c4 c5 c6 c7 c8 c9 aT aR cf
 go_wp2_with fail
 refine (zeD C H D z _ S8 q8 z8 0 _ aQ.out aI.out).mono ?_
 rintro e w9 ⟨S9,q9,z9,n9,rfl,i9,m9,s9⟩
 replace j:=zc (j.out.stp s9)
 replace o:=zc (o.out.stp s9)
 replace E:=zc (E.out.stp s9)
 have aB:=zc (aF.out.step s9)
 clear aF
 have ak:=zc m9
 have aK:=zc i9
 clear i9 m9 s9 aI
 have aX:w.heap.size+1<w9.heap.size:=o.out.lt
 have aO:w6.heap.size<w9.heap.size:=E.out.lt
 unfold pv
 go_upto_region 18 with fail
 refine zQ (R:=fun W=>Bx H S9 W (w.heap.size) _∧Bx H S9 W (w.heap.size+1) _∧Bx H S9 W (w6.heap.size) _∧Bx H S9 W (w9.heap.size) _∧Mem C H D z S9 q9 W∧SB w.heap.size S w S9 W) ⟨(j.out.alloc _),(o.out.alloc _),(E.out.alloc _),(Bx.new ak.out _),(ak.out.alloc _),(aB.out.alloc _)⟩ ?_
 clear j o E aB ak
 rintro be ⟨V,U,X2,X3,aw,aH⟩
 have j:=zc V
 have o:=zc U
 have E:=zc X2
 have X:=zc X3
 have ad:=zc aw
 have ae:=zc aH
 clear aw aH V U X2 X3
 obtain⟨d0,d1,d2,d3,d4,d5,d6,d7,d8,d9,aU,aS,df⟩:=X.out.box
 go_wp2_with fail
 refine (zah C H D z _ S9 q9 z9 0 cSemi _ aK.out.fst ad.out).mono ?_
 rintro e aZ ⟨aW,aP,aV,rfl,au,ar,K⟩
 replace j:=zc (j.out.stp K)
 replace o:=zc (o.out.stp K)
 replace E:=zc (E.out.stp K)
 replace X:=zc (X.out.stp K)
 have ac:=zc (ae.out.step K)
 clear ae
 have ag:=zc ar
 have ab:=zc au
 clear au ar K ad
 clear d0 d1 d2 d3 d4 d5 d6 d7 d8 d9 aU aS df
 go_wp2_with fail
 refine (zhP C H D z _ aW aP aV 0 ⟨n9,sDefault,n6⟩ _ ab.out ag.out (zb5 ab.out)).mono ?_
 rintro e bc ⟨bb,bi,bj,rfl,an,aN,L⟩
 replace j:=zc (j.out.stp L)
 replace o:=zc (o.out.stp L)
 replace E:=zc (E.out.stp L)
 replace X:=zc (X.out.stp L)
 have aA:=zc (ac.out.step L)
 clear ac
 have ax:=zc aN
 have aC:=zc an
 clear an aN L ag
 obtain⟨b0,b1,b2,b3,b4,b5,b6,b7,b8,b9,ba,bg,bf⟩:=o.out.box
 unfold pv
 go_wp2
 refine bodyPost_ret (results_cell_row rfl _ _ (w.heap.size+1) 55 _ (0,0) _ rfl ((o.out.put ..)).heap Tryz.underlying55 rfl (by kernel_rfl)) rfl ?_
 rw[HV.out,←HQ.out,←zmG (G:=fun b a=>zW C ⟨b,sDefault,a⟩) az.out aK.out]
 exact zac rfl aC.out (ax.out.put o.out ..) (aA.out.put (by omega) ..)
theorem zuW (C:Cx) (I D z:Nat) (S:Sv) (q:PS) (w:World) (hm:Mem C I D z S q w) (hw:isT C q.pos 1 sImport=true) (h1:isT C (q.pos+1) 4 zF=false) (h2:isT C (q.pos+1) 4 zp=false) (h3:plainB C (q.pos+1) false=false):
  Calls Tryz.prog 48 #[pv C I D S q (-1) 0] w (Out C I D z (za3 C q) 0 S w):=by
 have HM:=zc hm
 have L:=hm.few
 clear hm
 have HV:Hid (za3 C q=bd (bd (.ok (adv q)) (zy C)) fun a=>zd C 4 cSemi a.1):=by
  show _=_
  rw[za3,zd,if_pos hw,zh]
  rw[zz,h1,h2,h3]
  rfl
 unfold pv
 go_enter Tryz.func48,Tryz.ntmps48
 go_wp2_with fail
 refine (zaT C I D z (.ok q) S q (-1) 0 sImport _ (zab q) ((HM.out.alloc _).alloc _)).mono ?_
 rintro e w1 ⟨S1,O,z1,rfl,i1,m1,s1⟩
 obtain⟨X0,X1,t1⟩:=HM.out.two2 s1
 have j:=zc X0
 have o:=zc X1
 have ar:=zc m1
 have au:=zc t1
 have al:=zc i1
 clear X0 X1 i1 m1 t1 s1
 obtain⟨ab,rfl⟩:=zdq al.out hw
 have HQ:=zc ab
 have V:Hid (O.pos=q.pos+1):=by show O.pos=q.pos+1;rw[ab];rfl
 clear ab al
 obtain⟨Z,a1,N,Q,U,a5,a6,X,Y,a9,E,H,af⟩:=j.out.box
 unfold pv
 go_upto_region 2 with fail
 refine zQ (R:=fun W=>Bx I S1 W (w.heap.size) _∧Bx I S1 W (w.heap.size+1) _∧Mem C I D z S1 O W∧SB w.heap.size S w S1 W) ⟨(j.out.put ..),(o.out.other (by omega) ..),(ar.out.put j.out ..),(au.out.put (by omega) ..)⟩ ?_
 clear Z a1 N Q U a5 a6 X Y a9 E H af
 clear j o au ar
 rintro w2 ⟨X0,X1,m2,t2⟩
 have j:=zc X0
 have o:=zc X1
 have ag:=zc m2
 have ak:=zc t2
 clear m2 t2 X0 X1
 obtain⟨Z,a1,N,Q,U,a5,a6,X,Y,a9,E,H,af⟩:=j.out.box
 go_wp2_with fail
 refine (zj C I D z S1 O (-1) 0 4 zF _ ag.out.tok L (by decide)).mono ?_
 rintro e w3 ⟨rfl,J⟩
 rw[V.out,h1]
 replace j:=zc (j.out.below J)
 replace o:=zc (o.out.below J)
 have ap:=zc (ak.out.below J)
 have ad:=zc (ag.out.later J)
 clear J ak ag
 clear Z a1 N Q U a5 a6 X Y a9 E H af
 obtain⟨Z,a1,N,Q,U,a5,a6,X,Y,a9,E,H,af⟩:=j.out.box
 go_wp2_with fail
 refine (zj C I D z S1 O (-1) 0 4 zp _ ad.out.tok L (by decide)).mono ?_
 rintro e w4 ⟨rfl,M⟩
 rw[V.out,h2]
 replace j:=zc (j.out.below M)
 replace o:=zc (o.out.below M)
 have aq:=zc (ap.out.below M)
 have ae:=zc (ad.out.later M)
 clear M ap ad
 clear Z a1 N Q U a5 a6 X Y a9 E H af
 obtain⟨Z,a1,N,Q,U,a5,a6,X,Y,a9,E,H,af⟩:=j.out.box
 go_wp2_with fail
 refine (zg5 C I D z S1 O (-1) 0 false _ ae.out.tok L).mono ?_
 rintro e w5 ⟨rfl,K⟩
 rw[V.out,h3]
 replace j:=zc (j.out.below K)
 replace o:=zc (o.out.below K)
 have ai:=zc (aq.out.below K)
 have ao:=zc (ae.out.later K)
 clear K aq ae
 clear Z a1 N Q U a5 a6 X Y a9 E H af
 obtain⟨Z,a1,N,Q,U,a5,a6,X,Y,a9,E,H,af⟩:=j.out.box
 clear V
 go_wp2_with fail
 refine (zeD C I D z (.ok O) S1 O (-1) 0 _ (zab O) ao.out).mono ?_
 rintro e w6 ⟨S6,q6,z6,n6,rfl,i6,m6,s6⟩
 replace j:=zc (j.out.stp s6)
 replace o:=zc (o.out.stp s6)
 have an:=zc (ai.out.step s6)
 clear ai
 have ac:=zc m6
 have am:=zc i6
 clear i6 m6 s6 ao
 clear Z a1 N Q U a5 a6 X Y a9 E H af
 have aA:w.heap.size+1<w6.heap.size:=o.out.lt
 unfold pv
 go_upto_region 20 with fail
 refine zQ (R:=fun W=>Bx I S6 W (w.heap.size) _∧Bx I S6 W (w.heap.size+1) _∧Bx I S6 W (w6.heap.size) _∧Mem C I D z S6 q6 W∧SB w.heap.size S w S6 W) ⟨(j.out.alloc _),(o.out.alloc _),(Bx.new ac.out _),(ac.out.alloc _),(an.out.alloc _)⟩ ?_
 clear j o an ac
 rintro w7 ⟨X0,X1,X2,m7,t7⟩
 have j:=zc X0
 have o:=zc X1
 have aa:=zc X2
 have aj:=zc m7
 have ah:=zc t7
 clear m7 t7 X0 X1 X2
 obtain⟨c0,c1,c2,c3,c4,c5,c6,c7,c8,c9,ax,aw,cf⟩:=aa.out.box
 go_wp2_with fail
 refine (zah C I D z _ S6 q6 z6 0 cSemi _ am.out.fst aj.out).mono ?_
 rintro e w8 ⟨S8,q8,z8,rfl,i8,m8,s8⟩
 replace j:=zc (j.out.stp s8)
 replace o:=zc (o.out.stp s8)
 replace aa:=zc (aa.out.stp s8)
 have ay:=zc (ah.out.step s8)
 clear ah
 have az:=zc m8
 have av:=zc i8
 clear i8 m8 s8 aj
 clear c0 c1 c2 c3 c4 c5 c6 c7 c8 c9 ax aw cf
 obtain⟨b0,b1,b2,b3,b4,b5,b6,b7,b8,b9,aB,aC,bf⟩:=o.out.box
 unfold pv
 go_wp2
 refine bodyPost_ret (results_cell_row rfl _ _ (w.heap.size+1) 55 _ (0,0) _ rfl ((o.out.put ..)).heap Tryz.underlying55 rfl (by kernel_rfl)) rfl ?_
 rw[HV.out,←HQ.out,←am.out.bind (fun q _=>zd C 4 cSemi q)]
 exact zac rfl av.out (az.out.put o.out ..) (ay.out.put (by omega) ..)
theorem zuX (C:Cx) (I E z:Nat) (S:Sv) (q:PS) (w:World) (hm:Mem C I E z S q w) (hw:isT C q.pos 1 sImport=true) (h1:isT C (q.pos+1) 4 zF=true):
  Calls Tryz.prog 48 #[pv C I E S q (-1) 0] w (Out C I E z (za3 C q) 0 S w):=by
 have HM:=zc hm
 have aE:=hm.few
 clear hm
 have HV:Hid (za3 C q=bd (zbB C false (adv q)) fun a=>bd (zaD C (zav C (.ok a.1))) fun b=>zK (fun e=>zW C (zbW b.2 e)) a.2 (.ok b.1)):=by
  show _=_
  rw[za3,zd,if_pos hw,zh]
  rw[zz,h1]
  rfl
 unfold pv
 go_enter Tryz.func48,Tryz.ntmps48
 go_wp2_with fail
 refine (zaT C I E z (.ok q) S q (-1) 0 sImport _ (zab q) ((HM.out.alloc _).alloc _)).mono ?_
 rintro e w1 ⟨S1,q1,z1,rfl,i1,m1,s1⟩
 obtain⟨U,O,t1⟩:=HM.out.two2 s1
 have o:=zc U
 have D:=zc O
 have aP:=zc m1
 have aQ:=zc t1
 have aD:=zc i1
 clear U O i1 m1 t1 s1
 obtain⟨ai,rfl⟩:=zdq aD.out hw
 have HQ:=zc ai
 have ax:Hid (q1.pos=q.pos+1):=by show q1.pos=q.pos+1;rw[ai];rfl
 clear ai aD
 obtain⟨a0,a1,a2,a3,a4,a5,a6,a7,a8,a9,K,L,af⟩:=o.out.box
 unfold pv
 go_upto_region 2 with fail
 refine zQ (R:=fun W=>Bx I S1 W (w.heap.size) _∧Bx I S1 W (w.heap.size+1) _∧Mem C I E z S1 q1 W∧SB w.heap.size S w S1 W) ⟨(o.out.put ..),(D.out.other (by omega) ..),(aP.out.put o.out ..),(aQ.out.put (by omega) ..)⟩ ?_
 clear a0 a1 a2 a3 a4 a5 a6 a7 a8 a9 K L af
 clear o D aQ aP
 rintro w2 ⟨U,O,m2,t2⟩
 have o:=zc U
 have D:=zc O
 have ao:=zc m2
 have aw:=zc t2
 clear m2 t2 U O
 obtain⟨a0,a1,a2,a3,a4,a5,a6,a7,a8,a9,K,L,af⟩:=o.out.box
 go_wp2_with fail
 refine (zj C I E z S1 q1 (-1) 0 4 zF _ ao.out.tok aE (by decide)).mono ?_
 rintro e w3 ⟨rfl,aa⟩
 rw[ax.out,h1]
 replace o:=zc (o.out.below aa)
 replace D:=zc (D.out.below aa)
 have am:=zc (aw.out.below aa)
 have aC:=zc (ao.out.later aa)
 clear aa aw ao
 clear a0 a1 a2 a3 a4 a5 a6 a7 a8 a9 K L af
 obtain⟨a0,a1,a2,a3,a4,a5,a6,a7,a8,a9,K,L,af⟩:=o.out.box
 clear ax
 have aZ:=am.out.size
 go_wp2_with fail
 refine (zm2 C I E z S1 q1 0 false _ aC.out).mono ?_
 rintro e w4 ⟨S4,q4,z4,⟨ra,rc⟩,l,rfl,i4,m4,s4,R0,hl⟩
 obtain⟨g,rfl⟩: ∃g,ra=some ⟨g,0,none⟩:=R0.addr
 replace o:=zc (o.out.stp s4)
 replace D:=zc (D.out.stp s4)
 have aO:=zc (am.out.step s4)
 clear am
 have an:=zc m4
 have aM:=zc i4
 clear i4 m4 s4 aC
 clear a0 a1 a2 a3 a4 a5 a6 a7 a8 a9 K L af
 have J:Hid (Row S4 w4 z w.heap.size ⟨some ⟨g,0,none⟩,rc⟩ l):=⟨R0.own,R0.free,fun k hk=>Nat.le_trans aZ (R0.new k hk),R0.addr⟩
 clear R0
 have bb:w.heap.size+1<w4.heap.size:=D.out.lt
 unfold pv
 go_upto_region 4 with fail
 refine zQ (R:=fun W=>Bx I S4 W (w.heap.size) _∧Bx I S4 W (w.heap.size+1) _∧Bx I S4 W (w4.heap.size) _∧Row S4 W z w.heap.size ⟨some ⟨g,0,none⟩,rc⟩ l∧Mem C I E z S4 q4 W∧SB w.heap.size S w S4 W) ⟨(o.out.alloc _),(D.out.alloc _),(Bx.new an.out _),(J.out.alloc _),(an.out.alloc _),(aO.out.alloc _)⟩ ?_
 clear o D aO an
 clear J
 rintro w5 ⟨U,O,X2,R0,m5,t5⟩
 have J:=zc R0
 clear R0
 have o:=zc U
 have D:=zc O
 have H:=zc X2
 have aI:=zc m5
 have au:=zc t5
 clear m5 t5 U O X2
 obtain⟨c0,c1,c2,c3,c4,c5,c6,c7,c8,c9,aX,aV,cf⟩:=H.out.box
 go_wp2_with fail
 refine (zaT C I E z _ S4 q4 z4 0 zH _ aM.out.fst aI.out).mono ?_
 rintro e w6 ⟨S6,q6,z6,rfl,i6,m6,s6⟩
 replace o:=zc (o.out.stp s6)
 replace D:=zc (D.out.stp s6)
 replace H:=zc (H.out.stp s6)
 have aG:=zc (au.out.step s6)
 have N:Hid (Row S6 w6 z w.heap.size ⟨some ⟨g,0,none⟩,rc⟩ l):=J.out.stp s6
 clear J
 have J:=zc N
 clear N
 clear au
 have az:=zc m6
 have aW:=zc i6
 clear i6 m6 s6 aI
 clear c0 c1 c2 c3 c4 c5 c6 c7 c8 c9 aX aV cf
 go_wp2_with fail
 refine (zeD C I E z _ S6 q6 z6 0 _ aW.out az.out).mono ?_
 rintro e w7 ⟨S7,q7,z7,n7,rfl,i7,m7,s7⟩
 replace o:=zc (o.out.stp s7)
 replace D:=zc (D.out.stp s7)
 replace H:=zc (H.out.stp s7)
 have aq:=zc (aG.out.step s7)
 have N:Hid (Row S7 w7 z w.heap.size ⟨some ⟨g,0,none⟩,rc⟩ l):=J.out.stp s7
 clear J
 have J:=zc N
 clear N
 clear aG
 have ah:=zc m7
 have aH:=zc i7
 clear i7 m7 s7 az
 have ba:w.heap.size+1<w7.heap.size:=D.out.lt
 have aR:w4.heap.size<w7.heap.size:=H.out.lt
 unfold pv
 go_upto_region 5 with fail
 refine zQ (R:=fun W=>Bx I S7 W (w.heap.size) _∧Bx I S7 W (w.heap.size+1) _∧Bx I S7 W (w4.heap.size) _∧Bx I S7 W (w7.heap.size) _∧Row S7 W z w.heap.size ⟨some ⟨g,0,none⟩,rc⟩ l∧Mem C I E z S7 q7 W∧SB w.heap.size S w S7 W) ⟨(o.out.alloc _),(D.out.alloc _),(H.out.alloc _),(Bx.new ah.out _),(J.out.alloc _),(ah.out.alloc _),(aq.out.alloc _)⟩ ?_
 clear o D H aq ah
 clear J
 rintro w8 ⟨U,O,X2,X3,R0,m8,t8⟩
 have J:=zc R0
 clear R0
 have o:=zc U
 have D:=zc O
 have H:=zc X2
 have V:=zc X3
 have aN:=zc m8
 have aJ:=zc t8
 clear m8 t8 U O X2 X3
 obtain⟨d0,d1,d2,d3,d4,d5,d6,d7,d8,d9,al,aj,df⟩:=V.out.box
 go_wp2_with fail
 refine (zah C I E z _ S7 q7 z7 0 cSemi _ aH.out.fst aN.out).mono ?_
 rintro e w9 ⟨Z,q9,z9,rfl,i9,m9,s9⟩
 replace o:=zc (o.out.stp s9)
 replace D:=zc (D.out.stp s9)
 replace H:=zc (H.out.stp s9)
 replace V:=zc (V.out.stp s9)
 have ac:=zc (aJ.out.step s9)
 have N:Hid (Row Z w9 z w.heap.size ⟨some ⟨g,0,none⟩,rc⟩ l):=J.out.stp s9
 clear J
 have J:=zc N
 clear N
 clear aJ
 have ad:=zc m9
 have Y:=zc i9
 clear i9 m9 s9 aN
 clear d0 d1 d2 d3 d4 d5 d6 d7 d8 d9 al aj df
 obtain⟨a0,a1,a2,a3,a4,a5,a6,a7,a8,a9,K,L,af⟩:=o.out.box
 unfold pv
 go_upto_region 6 with fail
 refine zQ (R:=fun W=>Bx I Z W (w.heap.size) _∧Bx I Z W (w.heap.size+1) _∧Bx I Z W (w4.heap.size) _∧Bx I Z W (w7.heap.size) _∧Row Z W z w.heap.size ⟨some ⟨g,0,none⟩,rc⟩ l∧Mem C I E z Z q9 W∧SB w.heap.size S w Z W) ⟨(o.out.put ..),(D.out.other (by omega) ..),(H.out.other (by omega) ..),(V.out.other (by omega) ..),(J.out.put o.out ..),(ad.out.put o.out ..),(ac.out.put (by omega) ..)⟩ ?_
 clear a0 a1 a2 a3 a4 a5 a6 a7 a8 a9 K L af
 clear o D H V ac ad
 clear J
 rintro aA ⟨U,O,X2,X3,R0,ab,aL⟩
 have J:=zc R0
 clear R0
 have o:=zc U
 have D:=zc O
 have H:=zc X2
 have V:=zc X3
 have X:=zc ab
 have ag:=zc aL
 clear ab aL U O X2 X3
 have aU:Hid (_=_):=zjk (G:=fun b e=>zW C (zbW b e)) aM.out aH.out
 go_wp2
 go_loopg [8] l.length (fun k i wr=>∃(j:Nat) (x':PR) (Q:Sv) (q':PS) (z':Int),j≤l.length∧i= .int .i64 j∧Is x' q' z'∧(z'<0→1≤q'.pos)∧zK (fun e=>zW C (zbW n7 e)) (l.drop j) x'=za3 C q∧l.length-j=k∧Mem C I E z Q q' wr∧SB w.heap.size S w Q wr∧Bx I Q wr w.heap.size #[.slice (some ⟨I,0,none⟩) C.ts.length E,.int .i64 q'.pos,.int .i64 C.fin,.bool C.scr,.slice Q.rq.a q'.rq.length Q.rq.cap,.slice Q.im.a q'.im.length Q.im.cap,.slice Q.ep.a q'.ep.length Q.ep.cap,.slice Q.st.a q'.st.length Q.st.cap,.slice Q.ex.a q'.ex.length Q.ex.cap,.slice Q.la.a q'.la.length Q.la.cap,.int .i64 z',.int .i64 0]∧Bx I Q wr (w.heap.size+1) #[.slice none 0 0,.int .i64 0,.int .i64 0,.bool false,.slice none 0 0,.slice none 0 0,.slice none 0 0,.slice none 0 0,.slice none 0 0,.slice none 0 0,.int .i64 0,.int .i64 0]∧Row Q wr z w.heap.size ⟨some ⟨g,0,none⟩,rc⟩ l)
 case atStart=>exact⟨0,_,Z,q9,z9,Nat.zero_le _,rfl,Y.out,zb5 Y.out,by rw[HV.out,←HQ.out];exact aU.out,rfl,X.out,ag.out,o.out,D.out,J.out⟩
 case round=>
  obtain⟨j,x9,Z,q9,z9,hj,rfl,i9,p9,e9,g9,m9,t9,U,O,R0⟩:=hrel
  clear o D H V J X ag
  have o:=zc U
  have D:=zc O
  have ad:=zc m9
  have ac:=zc t9
  have Y:=zc i9
  have aB:=zc p9
  have aK:=zc e9
  have av:=zc g9
  have J:=zc R0
  clear U O i9 m9 t9 e9 g9 R0 p9
  by_cases ap:j<l.length
  ·skip
   obtain⟨c1,c2⟩:=J.out.cells (g:=g) rfl ap
   have bg:=J.out.own.lt (g:=g) rfl
   have HX:Hid (∀e,e=l[j]→zK (fun e=>zW C (zbW n7 e)) (l.drop (j+1)) (bd x9 (zW C (zbW n7 e)))=za3 C q):=fun e he=>by rw[he,←aK.out];exact (zht (fun e=>zW C (zbW n7 e)) l x9 ap).symm
   generalize aF:l[j]=el at c1 c2
   have aS:Hid (el=l[j]):=aF.symm
   clear aF
   obtain⟨a0,a1,a2,a3,a4,a5,a6,a7,a8,a9,K,L,af⟩:=o.out.box
   go_upto_region 9 with fail
   go_region_law (first|(go_simp;go_wp2_with (go_at_call 98;refine (zhP C I E z x9 Z q9 z9 0 (zbW n7 el) _ Y.out ad.out.drew aB.out).mono ?_;rintro e aA ⟨ar,aT,aY,rfl,ay,ab,ak⟩;obtain⟨d0,d1,d2,d3,d4,d5,d6,d7,d8,d9,al,aj,df⟩:=(o.out.stp ak.undrew).box;unfold pv)))
   all_goals
    clear a0 a1 a2 a3 a4 a5 a6 a7 a8 a9 K L af d0 d1 d2 d3 d4 d5 d6 d7 d8 d9 al aj df
    have ae:=zc ay
    have X:=zc ab
    have M:Hid (Stp Z wr ar aA):=ak.undrew
    clear ay ab ak
    go_wp2
    go_roundg (gk-1)
    case rel=>exact⟨j+1,_,ar,aT,aY,by omega,by go_num,ae.out,zuT aB.out Y.out ae.out,HX.out el aS.out,by have:=av.out;omega,X.out.put (o.out.stp M.out) _ _ _ _ _ _ _ _ _ _ _ _,(ac.out.step M.out).put (by omega) _ _ _ _ _ _ _ _ _ _ _ _,(o.out.stp M.out).put _ _ _ _ _ _ _ _ _ _ _ _,(D.out.stp M.out).other (by omega) _ _ _ _ _ _ _ _ _ _ _ _,(J.out.stp M.out).put (o.out.stp M.out) _ _ _ _ _ _ _ _ _ _ _ _⟩
    case measure=>have:=av.out;omega
  ·skip
   obtain⟨a0,a1,a2,a3,a4,a5,a6,a7,a8,a9,K,L,af⟩:=o.out.box
   obtain⟨b0,b1,b2,b3,b4,b5,b6,b7,b8,b9,bc,be,bf⟩:=D.out.box
   go_wp2
   refine bodyPost_ret (results_cell_row rfl _ _ (w.heap.size+1) 55 _ (0,0) _ rfl ((D.out.put ..)).heap Tryz.underlying55 rfl (by kernel_rfl)) rfl ?_
   exact zac rfl (show Is (za3 C q) q9 z9 from by rw[←aK.out,List.drop_eq_nil_of_le (by omega)];exact Y.out) (ad.out.put D.out ..) (ac.out.put (by omega) ..)
theorem zuY {C:Cx} {k:Int} {n:ByteArray} {q q':PS} (h:zE C k n q= .ok q'):q'={q with st:=q.st++[⟨k,n,(q.ex.length:Int)-1⟩]}∧q.st.length<80:=by
 unfold zE at h
 split at h
 ·cases h
 ·cases h
  exact⟨rfl,by omega⟩
theorem zmH {C:Cx} {x:PR} {k:Int} {s:ByteArray} {j:Int} {n:ByteArray} {q:PS} {z:Int} (h:Is (bd (bd x (zd C k s)) (zE C j n)) q z):z<0→1≤q.pos:=by
 intro D
 obtain⟨e,_⟩:=zaF h D
 obtain⟨a,o,H⟩:=ze e
 obtain⟨b,_,E⟩:=ze o
 obtain⟨rfl,_⟩:=zbh E
 obtain⟨rfl,_⟩:=zuY H
 simp[adv]
theorem zmI {C:Cx} {y:PRN} {G:PR→PR} {k:Int} {s:ByteArray} {j:Int} {q:PS} {z:Int} {n:ByteArray} (h:Is2 (withN y fun x n=>bd (bd (G x) (zd C k s)) (zE C j n)) q z n):z<0→1≤q.pos:=by
 intro E
 cases y with
 |error e=>have:z=(e:Int):=h;omega
 |ok a=>
  have o:Is2 (bd (bd (bd (G (.ok a.1)) (zd C k s)) (zE C j a.2)) fun q=>.ok (q,a.2)) q z n:=h
  cases D:bd (bd (G (.ok a.1)) (zd C k s)) (zE C j a.2) with
  |error e=>rw[D] at o;have:z=(e:Int):=o;omega
  |ok b=>
   rw[D] at o
   obtain⟨rfl,rfl,_⟩:=o
   exact zmH (show Is (bd (bd (G (.ok a.1)) (zd C k s)) (zE C j a.2)) q (-1) by rw[D];exact⟨rfl,rfl⟩) (by decide)
theorem zuZ {C:Cx} {j q:PS} {z:Int} {n:ByteArray} (h:Is2 (zbA C j) q z n):z<0→1≤q.pos:=zmI (G:=fun x=>bd (bd x (zd C 4 cEq)) (pE C .sum 0)) h
theorem zva {C:Cx} {j q:PS} {z:Int} {n:ByteArray} (h:Is2 (fnP C j) q z n):z<0→1≤q.pos:=zmI (G:=fun x=>bd (bd (bd (bd (bd (bd x (zd C 4 cOpen)) (zd C 4 zU)) (zd C 4 zF)) (zd C 1 zdw)) (pE C .sum 0)) (zd C 4 cSemi)) h
theorem zvb {C:Cx} {x:PR} {H:PS} {E:Int} {o:ByteArray} {G:ByteArray→PS→PR} (j:Is2 (bd (bd x (zd C 1 zH)) (zy C)) H E o):
  bd (bd (za7 (bd (bd x (zd C 1 zH)) (zy C))) (zd C 4 cSemi)) (G o)=bd (zaD C (zav C x)) fun b=>G b.2 b.1:=by
 have z:bd (bd x (zd C 1 zH)) (zy C)=zav C x:=rfl
 rw[z] at j ⊢
 cases D:zav C x with
 |error e=>rfl
 |ok b=>
  rw[D] at j
  obtain⟨_,_,rfl⟩:=j
  show bd (zd C 4 cSemi b.1) (G b.2)=bd (bd (zd C 4 cSemi b.1) fun q=>.ok (q,b.2)) fun b=>G b.2 b.1
  rw[zR]
  rfl
theorem zvc {C:Cx} {y:PRL} {o:PS} {z:Int} {l:List Ep} {f:Ep→PS→PR} {D:PS×List Ep→PR} (E:Is3 y o z l) (H:za2 l=false) (j:(decide (z<0)&&isT C o.pos 1 zH)=false):
  zK f l (bd (zgk y) (zd C 4 cSemi))=bd y fun a=>if !za2 a.2&& !isT C a.1.pos 1 zH then bd (zd C 4 cSemi a.1) fun q=>zK f a.2 (.ok q) else D a:=by
 cases y with
 |error e=>exact zgj _ _ _
 |ok a=>
  obtain⟨rfl,rfl,rfl⟩:=E
  rw[Bool.and_eq_false_iff] at j
  rw[zh,H,j.resolve_left (by decide)]
  show zK f a.2 (zd C 4 cSemi a.1)=bd (zd C 4 cSemi a.1) fun q=>zK f a.2 (.ok q)
  cases zd C 4 cSemi a.1 with
  |error e=>exact zgj _ _ _
  |ok c=>rfl
theorem zmJ {C:Cx} {y:PRL} {z:PS} {o:Int} {l:List Ep} {D E:PS×List Ep→PR} (H:Is3 y z o l) (j:za2 l=true∨(decide (o<0)&&isT C z.pos 1 zH)=true):
  bd y D=bd y fun a=>if !za2 a.2&& !isT C a.1.pos 1 zH then E a else D a:=by
 cases y with
 |error e=>rfl
 |ok a=>
  obtain⟨rfl,rfl,rfl⟩:=H
  rw[zh,zh]
  rcases j with h|h
  ·rw[h];rfl
  ·rw[Bool.and_eq_true] at h
   rw[h.2,Bool.not_true,Bool.and_false]
   rfl
theorem zvd (C:Cx) (E D z:Nat) (S:Sv) (q:PS) (w:World) (hm:Mem C E D z S q w) (hw:isT C q.pos 1 sExport=true) (h1:isT C (q.pos+1) 4 zF=false) (h2:isT C (q.pos+1) 4 zp=true):
  Calls Tryz.prog 49 #[pv C E D S q (-1) 0] w (Out C E D z (zV C q) 0 S w):=by
 have HM:=zc hm
 have O:=hm.few
 clear hm
 have HV:Hid (zV C q=bd (zaD C (zav C (bd (.ok (adv q)) (zd C 4 zp)))) fun b=>zm C ⟨3,sNone,sNone,b.2⟩ b.1):=by
  show _=_
  rw[zV,zd,if_pos hw,zh]
  rw[zz,h1,h2]
  rfl
 unfold pv
 go_enter Tryz.func49,Tryz.ntmps49
 go_wp2_with fail
 refine (zaT C E D z (.ok q) S q (-1) 0 sExport _ (zab q) ((HM.out.alloc _).alloc _)).mono ?_
 rintro e w1 ⟨S1,N,z1,rfl,i1,m1,s1⟩
 obtain⟨U,Q,t1⟩:=HM.out.two2 s1
 have j:=zc U
 have o:=zc Q
 have aB:=zc m1
 have aC:=zc t1
 have ak:=zc i1
 clear U Q i1 m1 t1 s1
 obtain⟨Z,rfl⟩:=zdq ak.out hw
 have HQ:=zc Z
 have aa:Hid (N.pos=q.pos+1):=by show N.pos=q.pos+1;rw[Z];rfl
 clear Z ak
 obtain⟨a0,a1,V,Y,a4,a5,a6,a7,a8,a9,H,I,af⟩:=j.out.box
 unfold pv
 go_upto_region 2 with fail
 refine zQ (R:=fun W=>Bx E S1 W (w.heap.size) _∧Bx E S1 W (w.heap.size+1) _∧Mem C E D z S1 N W∧SB w.heap.size S w S1 W) ⟨(j.out.put ..),(o.out.other (by omega) ..),(aB.out.put j.out ..),(aC.out.put (by omega) ..)⟩ ?_
 clear a0 a1 V Y a4 a5 a6 a7 a8 a9 H I af
 clear j o aC aB
 rintro w2 ⟨U,Q,m2,t2⟩
 have j:=zc U
 have o:=zc Q
 have ac:=zc m2
 have ag:=zc t2
 clear m2 t2 U Q
 obtain⟨a0,a1,V,Y,a4,a5,a6,a7,a8,a9,H,I,af⟩:=j.out.box
 go_wp2_with fail
 refine (zj C E D z S1 N (-1) 0 4 zF _ ac.out.tok O (by decide)).mono ?_
 rintro e w3 ⟨rfl,J⟩
 rw[aa.out,h1]
 replace j:=zc (j.out.below J)
 replace o:=zc (o.out.below J)
 have av:=zc (ag.out.below J)
 have ab:=zc (ac.out.later J)
 clear J ag ac
 clear a0 a1 V Y a4 a5 a6 a7 a8 a9 H I af
 obtain⟨a0,a1,V,Y,a4,a5,a6,a7,a8,a9,H,I,af⟩:=j.out.box
 go_wp2_with fail
 refine (zj C E D z S1 N (-1) 0 4 zp _ ab.out.tok O (by decide)).mono ?_
 rintro e w4 ⟨rfl,M⟩
 rw[aa.out,h2]
 replace j:=zc (j.out.below M)
 replace o:=zc (o.out.below M)
 have az:=zc (av.out.below M)
 have ax:=zc (ab.out.later M)
 clear M av ab
 clear a0 a1 V Y a4 a5 a6 a7 a8 a9 H I af
 obtain⟨a0,a1,V,Y,a4,a5,a6,a7,a8,a9,H,I,af⟩:=j.out.box
 clear aa
 go_wp2_with fail
 refine (zah C E D z (.ok N) S1 N (-1) 0 zp _ (zab N) ax.out).mono ?_
 rintro e w5 ⟨S5,q5,z5,rfl,i5,m5,s5⟩
 replace j:=zc (j.out.stp s5)
 replace o:=zc (o.out.stp s5)
 have ae:=zc (az.out.step s5)
 clear az
 have aq:=zc m5
 have aD:=zc i5
 clear i5 m5 s5 ax
 clear a0 a1 V Y a4 a5 a6 a7 a8 a9 H I af
 go_wp2_with fail
 refine (zaT C E D z _ S5 q5 z5 0 zH _ aD.out aq.out).mono ?_
 rintro e w6 ⟨S6,q6,z6,rfl,i6,m6,s6⟩
 replace j:=zc (j.out.stp s6)
 replace o:=zc (o.out.stp s6)
 have ao:=zc (ae.out.step s6)
 clear ae
 have aj:=zc m6
 have aF:=zc i6
 clear i6 m6 s6 aq
 go_wp2_with fail
 refine (zeD C E D z _ S6 q6 z6 0 _ aF.out aj.out).mono ?_
 rintro e w7 ⟨S7,q7,z7,n7,rfl,i7,m7,s7⟩
 replace j:=zc (j.out.stp s7)
 replace o:=zc (o.out.stp s7)
 have ad:=zc (ao.out.step s7)
 clear ao
 have X:=zc m7
 have ap:=zc i7
 clear i7 m7 s7 aj
 have aH:w.heap.size+1<w7.heap.size:=o.out.lt
 unfold pv
 go_upto_region 20 with fail
 refine zQ (R:=fun W=>Bx E S7 W (w.heap.size) _∧Bx E S7 W (w.heap.size+1) _∧Bx E S7 W (w7.heap.size) _∧Mem C E D z S7 q7 W∧SB w.heap.size S w S7 W) ⟨(j.out.alloc _),(o.out.alloc _),(Bx.new X.out _),(X.out.alloc _),(ad.out.alloc _)⟩ ?_
 clear j o ad X
 rintro w8 ⟨U,Q,X2,m8,t8⟩
 have j:=zc U
 have o:=zc Q
 have K:=zc X2
 have ay:=zc m8
 have ar:=zc t8
 clear m8 t8 U Q X2
 obtain⟨c0,c1,c2,c3,c4,c5,c6,c7,c8,c9,aG,aE,cf⟩:=K.out.box
 go_wp2_with fail
 refine (zah C E D z _ S7 q7 z7 0 cSemi _ ap.out.fst ay.out).mono ?_
 rintro e w9 ⟨S9,q9,z9,rfl,i9,m9,s9⟩
 replace j:=zc (j.out.stp s9)
 replace o:=zc (o.out.stp s9)
 replace K:=zc (K.out.stp s9)
 have an:=zc (ar.out.step s9)
 clear ar
 have au:=zc m9
 have aA:=zc i9
 clear i9 m9 s9 ay
 clear c0 c1 c2 c3 c4 c5 c6 c7 c8 c9 aG aE cf
 go_wp2_with fail
 refine (zep C E D z _ S9 q9 z9 0 ⟨3,sNone,sNone,n7⟩ _ aA.out au.out (zb5 aA.out)).mono ?_
 rintro e aL ⟨aI,aJ,aN,rfl,ai,ah,L⟩
 replace j:=zc (j.out.stp L)
 replace o:=zc (o.out.stp L)
 replace K:=zc (K.out.stp L)
 have aw:=zc (an.out.step L)
 clear an
 have am:=zc ah
 have al:=zc ai
 clear ai ah L au
 obtain⟨b0,b1,b2,b3,b4,b5,b6,b7,b8,b9,aK,aM,bf⟩:=o.out.box
 unfold pv
 go_wp2
 refine bodyPost_ret (results_cell_row rfl _ _ (w.heap.size+1) 55 _ (0,0) _ rfl ((o.out.put ..)).heap Tryz.underlying55 rfl (by kernel_rfl)) rfl ?_
 rw[HV.out,←HQ.out,←zvb (G:=fun b=>zm C ⟨3,sNone,sNone,b⟩) ap.out]
 exact zac rfl al.out (am.out.put o.out ..) (aw.out.put (by omega) ..)
theorem zve (C:Cx) (H D z:Nat) (S:Sv) (q:PS) (w:World) (hm:Mem C H D z S q w) (hw:isT C q.pos 1 sExport=true) (h1:isT C (q.pos+1) 4 zF=false) (h2:isT C (q.pos+1) 4 zp=false) (h3:isT C (q.pos+1) 1 sDefault=true):
  Calls Tryz.prog 49 #[pv C H D S q (-1) 0] w (Out C H D z (zV C q) 0 S w):=by
 have HM:=zc hm
 have N:=hm.few
 clear hm
 have HV:Hid (zV C q=bd (bd (bd (bd (bd (.ok (adv q)) (zd C 1 sDefault)) (pE C .sum 0)) (zd C 4 cSemi)) (zE C 1 zbp)) (zm C ⟨1,sDefault,zbp,sNone⟩)):=by
  show _=_
  rw[zV,zd,if_pos hw,zh]
  rw[zz,h1,h2,h3]
  rfl
 unfold pv
 go_enter Tryz.func49,Tryz.ntmps49
 go_wp2_with fail
 refine (zaT C H D z (.ok q) S q (-1) 0 sExport _ (zab q) ((HM.out.alloc _).alloc _)).mono ?_
 rintro e w1 ⟨S1,V,z1,rfl,i1,m1,s1⟩
 obtain⟨X0,X1,t1⟩:=HM.out.two2 s1
 have j:=zc X0
 have o:=zc X1
 have aG:=zc m1
 have aH:=zc t1
 have ax:=zc i1
 clear X0 X1 i1 m1 t1 s1
 obtain⟨ad,rfl⟩:=zdq ax.out hw
 have HQ:=zc ad
 have Z:Hid (V.pos=q.pos+1):=by show V.pos=q.pos+1;rw[ad];rfl
 clear ad ax
 obtain⟨a0,a1,U,X,Y,a5,a6,a7,a8,a9,E,I,af⟩:=j.out.box
 unfold pv
 go_upto_region 2 with fail
 refine zQ (R:=fun W=>Bx H S1 W (w.heap.size) _∧Bx H S1 W (w.heap.size+1) _∧Mem C H D z S1 V W∧SB w.heap.size S w S1 W) ⟨(j.out.put ..),(o.out.other (by omega) ..),(aG.out.put j.out ..),(aH.out.put (by omega) ..)⟩ ?_
 clear a0 a1 U X Y a5 a6 a7 a8 a9 E I af
 clear j o aH aG
 rintro w2 ⟨X0,X1,m2,t2⟩
 have j:=zc X0
 have o:=zc X1
 have ai:=zc m2
 have aq:=zc t2
 clear m2 t2 X0 X1
 obtain⟨a0,a1,U,X,Y,a5,a6,a7,a8,a9,E,I,af⟩:=j.out.box
 go_wp2_with fail
 refine (zj C H D z S1 V (-1) 0 4 zF _ ai.out.tok N (by decide)).mono ?_
 rintro e w3 ⟨rfl,J⟩
 rw[Z.out,h1]
 replace j:=zc (j.out.below J)
 replace o:=zc (o.out.below J)
 have aD:=zc (aq.out.below J)
 have ae:=zc (ai.out.later J)
 clear J aq ai
 clear a0 a1 U X Y a5 a6 a7 a8 a9 E I af
 obtain⟨a0,a1,U,X,Y,a5,a6,a7,a8,a9,E,I,af⟩:=j.out.box
 go_wp2_with fail
 refine (zj C H D z S1 V (-1) 0 4 zp _ ae.out.tok N (by decide)).mono ?_
 rintro e w4 ⟨rfl,Q⟩
 rw[Z.out,h2]
 replace j:=zc (j.out.below Q)
 replace o:=zc (o.out.below Q)
 have aE:=zc (aD.out.below Q)
 have ag:=zc (ae.out.later Q)
 clear Q aD ae
 clear a0 a1 U X Y a5 a6 a7 a8 a9 E I af
 obtain⟨a0,a1,U,X,Y,a5,a6,a7,a8,a9,E,I,af⟩:=j.out.box
 go_wp2_with fail
 refine (zj C H D z S1 V (-1) 0 1 sDefault _ ag.out.tok N (by decide)).mono ?_
 rintro e w5 ⟨rfl,M⟩
 rw[Z.out,h3]
 replace j:=zc (j.out.below M)
 replace o:=zc (o.out.below M)
 have am:=zc (aE.out.below M)
 have aA:=zc (ag.out.later M)
 clear M aE ag
 clear a0 a1 U X Y a5 a6 a7 a8 a9 E I af
 obtain⟨a0,a1,U,X,Y,a5,a6,a7,a8,a9,E,I,af⟩:=j.out.box
 clear Z
 go_wp2_with fail
 refine (zaT C H D z (.ok V) S1 V (-1) 0 sDefault _ (zab V) aA.out).mono ?_
 rintro e w6 ⟨S6,q6,z6,rfl,i6,m6,s6⟩
 replace j:=zc (j.out.stp s6)
 replace o:=zc (o.out.stp s6)
 have az:=zc (am.out.step s6)
 clear am
 have aw:=zc m6
 have aL:=zc i6
 clear i6 m6 s6 aA
 clear a0 a1 U X Y a5 a6 a7 a8 a9 E I af
 go_wp2_with fail
 refine (zdp C H D z _ S6 q6 z6 _ aL.out aw.out).mono ?_
 rintro e w7 ⟨S7,q7,z7,rfl,i7,m7,s7⟩
 replace j:=zc (j.out.stp s7)
 replace o:=zc (o.out.stp s7)
 have aj:=zc (az.out.step s7)
 clear az
 have an:=zc m7
 have aN:=zc i7
 clear i7 m7 s7 aw
 go_wp2_with fail
 refine (zah C H D z _ S7 q7 z7 0 cSemi _ aN.out an.out).mono ?_
 rintro e w8 ⟨S8,q8,z8,rfl,i8,m8,s8⟩
 replace j:=zc (j.out.stp s8)
 replace o:=zc (o.out.stp s8)
 have aB:=zc (aj.out.step s8)
 clear aj
 have ah:=zc m8
 have ak:=zc i8
 clear i8 m8 s8 an
 have aP:w.heap.size+1<w8.heap.size:=o.out.lt
 unfold pv
 go_upto_region 23 with fail
 refine zQ (R:=fun W=>Bx H S8 W (w.heap.size) _∧Bx H S8 W (w.heap.size+1) _∧Bx H S8 W (w8.heap.size) _∧Mem C H D z S8 q8 W∧SB w.heap.size S w S8 W) ⟨(j.out.alloc _),(o.out.alloc _),(Bx.new ah.out _),(ah.out.alloc _),(aB.out.alloc _)⟩ ?_
 clear j o aB ah
 rintro w9 ⟨X0,X1,X2,m9,t9⟩
 have j:=zc X0
 have o:=zc X1
 have K:=zc X2
 have aC:=zc m9
 have ay:=zc t9
 clear m9 t9 X0 X1 X2
 obtain⟨c0,c1,c2,c3,c4,c5,c6,c7,c8,c9,aM,aK,cf⟩:=K.out.box
 go_wp2_with fail
 refine (zcY C H D z _ S8 q8 z8 0 1 zbp _ ak.out aC.out (zb5 ak.out)).mono ?_
 rintro e aT ⟨aI,aJ,aO,rfl,av,au,O⟩
 replace j:=zc (j.out.stp O)
 replace o:=zc (o.out.stp O)
 replace K:=zc (K.out.stp O)
 have ac:=zc (ay.out.step O)
 clear ay
 have ab:=zc au
 have aa:=zc av
 clear av au O aC
 clear c0 c1 c2 c3 c4 c5 c6 c7 c8 c9 aM aK cf
 go_wp2_with fail
 refine (zep C H D z _ aI aJ aO 0 ⟨1,sDefault,zbp,sNone⟩ _ aa.out ab.out (zmH aa.out)).mono ?_
 rintro e aR ⟨aW,aQ,aV,rfl,ap,ao,L⟩
 replace j:=zc (j.out.stp L)
 replace o:=zc (o.out.stp L)
 replace K:=zc (K.out.stp L)
 have ar:=zc (ac.out.step L)
 clear ac
 have aF:=zc ao
 have al:=zc ap
 clear ap ao L ab
 obtain⟨b0,b1,b2,b3,b4,b5,b6,b7,b8,b9,aS,aU,bf⟩:=o.out.box
 unfold pv
 go_wp2
 refine bodyPost_ret (results_cell_row rfl _ _ (w.heap.size+1) 55 _ (0,0) _ rfl ((o.out.put ..)).heap Tryz.underlying55 rfl (by kernel_rfl)) rfl ?_
 rw[HV.out,←HQ.out]
 exact zac rfl al.out (aF.out.put o.out ..) (ar.out.put (by omega) ..)
theorem zvf (C:Cx) (I D z:Nat) (S:Sv) (q:PS) (w:World) (hm:Mem C I D z S q w) (hw:isT C q.pos 1 sExport=true) (h1:isT C (q.pos+1) 4 zF=false) (h2:isT C (q.pos+1) 4 zp=false) (h3:isT C (q.pos+1) 1 sDefault=false) (h4:isT C (q.pos+1) 1 sLet=true):
  Calls Tryz.prog 49 #[pv C I D S q (-1) 0] w (Out C I D z (zV C q) 0 S w):=by
 have HM:=zc hm
 have J:=hm.few
 clear hm
 have HV:Hid (zV C q=bd (zbA C (adv q)) fun a=>zm C ⟨1,a.2,a.2,sNone⟩ a.1):=by
  show _=_
  rw[zV,zd,if_pos hw,zh]
  rw[zz,h1,h2,h3,h4]
  rfl
 unfold pv
 go_enter Tryz.func49,Tryz.ntmps49
 go_wp2_with fail
 refine (zaT C I D z (.ok q) S q (-1) 0 sExport _ (zab q) ((HM.out.alloc _).alloc _)).mono ?_
 rintro e w1 ⟨S1,q1,z1,rfl,i1,m1,s1⟩
 obtain⟨X0,X1,t1⟩:=HM.out.two2 s1
 have j:=zc X0
 have o:=zc X1
 have av:=zc m1
 have aw:=zc t1
 have an:=zc i1
 clear X0 X1 i1 m1 t1 s1
 obtain⟨ac,rfl⟩:=zdq an.out hw
 have HQ:=zc ac
 have O:Hid (q1.pos=q.pos+1):=by show q1.pos=q.pos+1;rw[ac];rfl
 clear ac an
 obtain⟨Z,a1,K,L,N,a5,a6,V,X,a9,E,H,af⟩:=j.out.box
 unfold pv
 go_upto_region 2 with fail
 refine zQ (R:=fun W=>Bx I S1 W (w.heap.size) _∧Bx I S1 W (w.heap.size+1) _∧Mem C I D z S1 q1 W∧SB w.heap.size S w S1 W) ⟨(j.out.put ..),(o.out.other (by omega) ..),(av.out.put j.out ..),(aw.out.put (by omega) ..)⟩ ?_
 clear Z a1 K L N a5 a6 V X a9 E H af
 clear j o aw av
 rintro w2 ⟨X0,X1,m2,t2⟩
 have j:=zc X0
 have o:=zc X1
 have ai:=zc m2
 have al:=zc t2
 clear m2 t2 X0 X1
 obtain⟨Z,a1,K,L,N,a5,a6,V,X,a9,E,H,af⟩:=j.out.box
 go_wp2_with fail
 refine (zj C I D z S1 q1 (-1) 0 4 zF _ ai.out.tok J (by decide)).mono ?_
 rintro e w3 ⟨rfl,M⟩
 rw[O.out,h1]
 replace j:=zc (j.out.below M)
 replace o:=zc (o.out.below M)
 have aq:=zc (al.out.below M)
 have ad:=zc (ai.out.later M)
 clear M al ai
 clear Z a1 K L N a5 a6 V X a9 E H af
 obtain⟨Z,a1,K,L,N,a5,a6,V,X,a9,E,H,af⟩:=j.out.box
 go_wp2_with fail
 refine (zj C I D z S1 q1 (-1) 0 4 zp _ ad.out.tok J (by decide)).mono ?_
 rintro e w4 ⟨rfl,Y⟩
 rw[O.out,h2]
 replace j:=zc (j.out.below Y)
 replace o:=zc (o.out.below Y)
 have au:=zc (aq.out.below Y)
 have ah:=zc (ad.out.later Y)
 clear Y aq ad
 clear Z a1 K L N a5 a6 V X a9 E H af
 obtain⟨Z,a1,K,L,N,a5,a6,V,X,a9,E,H,af⟩:=j.out.box
 go_wp2_with fail
 refine (zj C I D z S1 q1 (-1) 0 1 sDefault _ ah.out.tok J (by decide)).mono ?_
 rintro e w5 ⟨rfl,U⟩
 rw[O.out,h3]
 replace j:=zc (j.out.below U)
 replace o:=zc (o.out.below U)
 have ak:=zc (au.out.below U)
 have ag:=zc (ah.out.later U)
 clear U au ah
 clear Z a1 K L N a5 a6 V X a9 E H af
 obtain⟨Z,a1,K,L,N,a5,a6,V,X,a9,E,H,af⟩:=j.out.box
 go_wp2_with fail
 refine (zj C I D z S1 q1 (-1) 0 1 sLet _ ag.out.tok J (by decide)).mono ?_
 rintro e w6 ⟨rfl,Q⟩
 rw[O.out,h4]
 replace j:=zc (j.out.below Q)
 replace o:=zc (o.out.below Q)
 have ao:=zc (ak.out.below Q)
 have am:=zc (ag.out.later Q)
 clear Q ak ag
 clear Z a1 K L N a5 a6 V X a9 E H af
 obtain⟨Z,a1,K,L,N,a5,a6,V,X,a9,E,H,af⟩:=j.out.box
 clear O
 go_wp2_with fail
 refine (zji C I D z S1 q1 _ am.out).mono ?_
 rintro e w7 ⟨S7,q7,z7,n7,rfl,i7,m7,s7⟩
 replace j:=zc (j.out.stp s7)
 replace o:=zc (o.out.stp s7)
 have aj:=zc (ao.out.step s7)
 clear ao
 have aa:=zc m7
 have ae:=zc i7
 clear i7 m7 s7 am
 clear Z a1 K L N a5 a6 V X a9 E H af
 have aC:w.heap.size+1<w7.heap.size:=o.out.lt
 unfold pv
 go_upto_region 26 with fail
 refine zQ (R:=fun W=>Bx I S7 W (w.heap.size) _∧Bx I S7 W (w.heap.size+1) _∧Bx I S7 W (w7.heap.size) _∧Mem C I D z S7 q7 W∧SB w.heap.size S w S7 W) ⟨(j.out.alloc _),(o.out.alloc _),(Bx.new aa.out _),(aa.out.alloc _),(aj.out.alloc _)⟩ ?_
 clear j o aj aa
 rintro w8 ⟨X0,X1,X2,m8,t8⟩
 have j:=zc X0
 have o:=zc X1
 have ab:=zc X2
 have ar:=zc m8
 have ap:=zc t8
 clear m8 t8 X0 X1 X2
 obtain⟨c0,c1,c2,c3,c4,c5,c6,c7,c8,c9,az,ax,cf⟩:=ab.out.box
 go_wp2_with fail
 refine (zep C I D z _ S7 q7 z7 0 ⟨1,n7,n7,sNone⟩ _ ae.out.fst ar.out (zuZ ae.out)).mono ?_
 rintro e w9 ⟨S9,q9,z9,rfl,i9,m9,s9⟩
 replace j:=zc (j.out.stp s9)
 replace o:=zc (o.out.stp s9)
 replace ab:=zc (ab.out.stp s9)
 have ay:=zc (ap.out.step s9)
 clear ap
 have aA:=zc m9
 have aB:=zc i9
 clear i9 m9 s9 ar
 clear c0 c1 c2 c3 c4 c5 c6 c7 c8 c9 az ax cf
 obtain⟨b0,b1,b2,b3,b4,b5,b6,b7,b8,b9,aD,aE,bf⟩:=o.out.box
 unfold pv
 go_wp2
 refine bodyPost_ret (results_cell_row rfl _ _ (w.heap.size+1) 55 _ (0,0) _ rfl ((o.out.put ..)).heap Tryz.underlying55 rfl (by kernel_rfl)) rfl ?_
 rw[HV.out,←HQ.out,←ae.out.bind (fun q n=>zm C ⟨1,n,n,sNone⟩ q)]
 exact zac rfl aB.out (aA.out.put o.out ..) (ay.out.put (by omega) ..)
theorem zvg (C:Cx) (I D z:Nat) (S:Sv) (q:PS) (w:World) (hm:Mem C I D z S q w) (hw:isT C q.pos 1 sExport=true) (h1:isT C (q.pos+1) 4 zF=false) (h2:isT C (q.pos+1) 4 zp=false) (h3:isT C (q.pos+1) 1 sDefault=false) (h4:isT C (q.pos+1) 1 sLet=false) (h5:isT C (q.pos+1) 1 sFunction=true):
  Calls Tryz.prog 49 #[pv C I D S q (-1) 0] w (Out C I D z (zV C q) 0 S w):=by
 have HM:=zc hm
 have J:=hm.few
 clear hm
 have HV:Hid (zV C q=bd (fnP C (adv q)) fun a=>zm C ⟨1,a.2,a.2,sNone⟩ a.1):=by
  show _=_
  rw[zV,zd,if_pos hw,zh]
  rw[zz,h1,h2,h3,h4,h5]
  rfl
 unfold pv
 go_enter Tryz.func49,Tryz.ntmps49
 go_wp2_with fail
 refine (zaT C I D z (.ok q) S q (-1) 0 sExport _ (zab q) ((HM.out.alloc _).alloc _)).mono ?_
 rintro e w1 ⟨S1,q1,z1,rfl,i1,m1,s1⟩
 obtain⟨X0,X1,t1⟩:=HM.out.two2 s1
 have j:=zc X0
 have o:=zc X1
 have aI:=zc m1
 have aJ:=zc t1
 have ay:=zc i1
 clear X0 X1 i1 m1 t1 s1
 obtain⟨aj,rfl⟩:=zdq ay.out hw
 have HQ:=zc aj
 have N:Hid (q1.pos=q.pos+1):=by show q1.pos=q.pos+1;rw[aj];rfl
 clear aj ay
 obtain⟨U,Z,K,L,M,V,a6,O,Q,Y,E,H,X⟩:=j.out.box
 unfold pv
 go_upto_region 2 with fail
 refine zQ (R:=fun W=>Bx I S1 W (w.heap.size) _∧Bx I S1 W (w.heap.size+1) _∧Mem C I D z S1 q1 W∧SB w.heap.size S w S1 W) ⟨(j.out.put ..),(o.out.other (by omega) ..),(aI.out.put j.out ..),(aJ.out.put (by omega) ..)⟩ ?_
 clear U Z K L M V a6 O Q Y E H X
 clear j o aJ aI
 rintro w2 ⟨X0,X1,m2,t2⟩
 have j:=zc X0
 have o:=zc X1
 have ap:=zc m2
 have av:=zc t2
 clear m2 t2 X0 X1
 obtain⟨U,Z,K,L,M,V,a6,O,Q,Y,E,H,X⟩:=j.out.box
 go_wp2_with fail
 refine (zj C I D z S1 q1 (-1) 0 4 zF _ ap.out.tok J (by decide)).mono ?_
 rintro e w3 ⟨rfl,aa⟩
 rw[N.out,h1]
 replace j:=zc (j.out.below aa)
 replace o:=zc (o.out.below aa)
 have aF:=zc (av.out.below aa)
 have al:=zc (ap.out.later aa)
 clear aa av ap
 clear U Z K L M V a6 O Q Y E H X
 obtain⟨U,Z,K,L,M,V,a6,O,Q,Y,E,H,X⟩:=j.out.box
 go_wp2_with fail
 refine (zj C I D z S1 q1 (-1) 0 4 zp _ al.out.tok J (by decide)).mono ?_
 rintro e w4 ⟨rfl,ag⟩
 rw[N.out,h2]
 replace j:=zc (j.out.below ag)
 replace o:=zc (o.out.below ag)
 have aH:=zc (aF.out.below ag)
 have an:=zc (al.out.later ag)
 clear ag aF al
 clear U Z K L M V a6 O Q Y E H X
 obtain⟨U,Z,K,L,M,V,a6,O,Q,Y,E,H,X⟩:=j.out.box
 go_wp2_with fail
 refine (zj C I D z S1 q1 (-1) 0 1 sDefault _ an.out.tok J (by decide)).mono ?_
 rintro e w5 ⟨rfl,ad⟩
 rw[N.out,h3]
 replace j:=zc (j.out.below ad)
 replace o:=zc (o.out.below ad)
 have ar:=zc (aH.out.below ad)
 have am:=zc (an.out.later ad)
 clear ad aH an
 clear U Z K L M V a6 O Q Y E H X
 obtain⟨U,Z,K,L,M,V,a6,O,Q,Y,E,H,X⟩:=j.out.box
 go_wp2_with fail
 refine (zj C I D z S1 q1 (-1) 0 1 sLet _ am.out.tok J (by decide)).mono ?_
 rintro e w6 ⟨rfl,ab⟩
 rw[N.out,h4]
 replace j:=zc (j.out.below ab)
 replace o:=zc (o.out.below ab)
 have aC:=zc (ar.out.below ab)
 have ak:=zc (am.out.later ab)
 clear ab ar am
 clear U Z K L M V a6 O Q Y E H X
 obtain⟨U,Z,K,L,M,V,a6,O,Q,Y,E,H,X⟩:=j.out.box
 go_wp2_with fail
 refine (zj C I D z S1 q1 (-1) 0 1 sFunction _ ak.out.tok J (by decide)).mono ?_
 rintro e w7 ⟨rfl,ac⟩
 rw[N.out,h5]
 replace j:=zc (j.out.below ac)
 replace o:=zc (o.out.below ac)
 have aq:=zc (aC.out.below ac)
 have au:=zc (ak.out.later ac)
 clear ac aC ak
 clear U Z K L M V a6 O Q Y E H X
 obtain⟨U,Z,K,L,M,V,a6,O,Q,Y,E,H,X⟩:=j.out.box
 clear N
 go_wp2_with fail
 refine (zjj C I D z S1 q1 _ au.out).mono ?_
 rintro e w8 ⟨S8,q8,z8,n8,rfl,i8,m8,s8⟩
 replace j:=zc (j.out.stp s8)
 replace o:=zc (o.out.stp s8)
 have aD:=zc (aq.out.step s8)
 clear aq
 have ao:=zc m8
 have ah:=zc i8
 clear i8 m8 s8 au
 clear U Z K L M V a6 O Q Y E H X
 have aM:w.heap.size+1<w8.heap.size:=o.out.lt
 unfold pv
 go_upto_region 29 with fail
 refine zQ (R:=fun W=>Bx I S8 W (w.heap.size) _∧Bx I S8 W (w.heap.size+1) _∧Bx I S8 W (w8.heap.size) _∧Mem C I D z S8 q8 W∧SB w.heap.size S w S8 W) ⟨(j.out.alloc _),(o.out.alloc _),(Bx.new ao.out _),(ao.out.alloc _),(aD.out.alloc _)⟩ ?_
 clear j o aD ao
 rintro w9 ⟨X0,X1,X2,m9,t9⟩
 have j:=zc X0
 have o:=zc X1
 have ai:=zc X2
 have aE:=zc m9
 have aB:=zc t9
 clear m9 t9 X0 X1 X2
 obtain⟨c0,c1,c2,c3,c4,c5,c6,c7,c8,c9,aL,aK,cf⟩:=ai.out.box
 go_wp2_with fail
 refine (zep C I D z _ S8 q8 z8 0 ⟨1,n8,n8,sNone⟩ _ ah.out.fst aE.out (zva ah.out)).mono ?_
 rintro e aQ ⟨aN,aO,aS,rfl,ax,aw,ae⟩
 replace j:=zc (j.out.stp ae)
 replace o:=zc (o.out.stp ae)
 replace ai:=zc (ai.out.stp ae)
 have aG:=zc (aB.out.step ae)
 clear aB
 have aA:=zc aw
 have az:=zc ax
 clear ax aw ae aE
 clear c0 c1 c2 c3 c4 c5 c6 c7 c8 c9 aL aK cf
 obtain⟨b0,b1,b2,b3,b4,b5,b6,b7,b8,b9,aP,aR,bf⟩:=o.out.box
 unfold pv
 go_wp2
 refine bodyPost_ret (results_cell_row rfl _ _ (w.heap.size+1) 55 _ (0,0) _ rfl ((o.out.put ..)).heap Tryz.underlying55 rfl (by kernel_rfl)) rfl ?_
 rw[HV.out,←HQ.out,←ah.out.bind (fun q n=>zm C ⟨1,n,n,sNone⟩ q)]
 exact zac rfl az.out (aA.out.put o.out ..) (aG.out.put (by omega) ..)
theorem zvh (C:Cx) (N H z:Nat) (S:Sv) (q:PS) (w:World) (hm:Mem C N H z S q w) (hw:isT C q.pos 1 sExport=true) (h1:isT C (q.pos+1) 4 zF=false) (h2:isT C (q.pos+1) 4 zp=false) (h3:isT C (q.pos+1) 1 sDefault=false) (h4:isT C (q.pos+1) 1 sLet=false) (h5:isT C (q.pos+1) 1 sFunction=false):
  Calls Tryz.prog 49 #[pv C N H S q (-1) 0] w (Out C N H z (zV C q) 0 S w):=by
 have HM:=zc hm
 have I:=hm.few
 clear hm
 have HV:Hid (zV C q= .error (zu C (adv q).pos)):=by
  show _=_
  rw[zV,zd,if_pos hw,zh]
  rw[zz,h1,h2,h3,h4,h5]
  rfl
 unfold pv
 go_enter Tryz.func49,Tryz.ntmps49
 go_wp2_with fail
 refine (zaT C N H z (.ok q) S q (-1) 0 sExport _ (zab q) ((HM.out.alloc _).alloc _)).mono ?_
 rintro e w1 ⟨S1,q1,z1,rfl,i1,m1,s1⟩
 obtain⟨X0,X1,t1⟩:=HM.out.two2 s1
 have j:=zc X0
 have o:=zc X1
 have ax:=zc m1
 have ay:=zc t1
 have ar:=zc i1
 clear X0 X1 i1 m1 t1 s1
 obtain⟨ai,rfl⟩:=zdq ar.out hw
 have HQ:=zc ai
 have M:Hid (q1.pos=q.pos+1):=by show q1.pos=q.pos+1;rw[ai];rfl
 clear ai ar
 obtain⟨U,Z,J,K,L,V,a6,O,Q,Y,D,E,X⟩:=j.out.box
 unfold pv
 go_upto_region 2 with fail
 refine zQ (R:=fun W=>Bx N S1 W (w.heap.size) _∧Bx N S1 W (w.heap.size+1) _∧Mem C N H z S1 q1 W∧SB w.heap.size S w S1 W) ⟨(j.out.put ..),(o.out.other (by omega) ..),(ax.out.put j.out ..),(ay.out.put (by omega) ..)⟩ ?_
 clear U Z J K L V a6 O Q Y D E X
 clear j o ay ax
 rintro w2 ⟨X0,X1,m2,t2⟩
 have j:=zc X0
 have o:=zc X1
 have an:=zc m2
 have aq:=zc t2
 clear m2 t2 X0 X1
 obtain⟨U,Z,J,K,L,V,a6,O,Q,Y,D,E,X⟩:=j.out.box
 go_wp2_with fail
 refine (zj C N H z S1 q1 (-1) 0 4 zF _ an.out.tok I (by decide)).mono ?_
 rintro e w3 ⟨rfl,aa⟩
 rw[M.out,h1]
 replace j:=zc (j.out.below aa)
 replace o:=zc (o.out.below aa)
 have av:=zc (aq.out.below aa)
 have ak:=zc (an.out.later aa)
 clear aa aq an
 clear U Z J K L V a6 O Q Y D E X
 obtain⟨U,Z,J,K,L,V,a6,O,Q,Y,D,E,X⟩:=j.out.box
 go_wp2_with fail
 refine (zj C N H z S1 q1 (-1) 0 4 zp _ ak.out.tok I (by decide)).mono ?_
 rintro e w4 ⟨rfl,ae⟩
 rw[M.out,h2]
 replace j:=zc (j.out.below ae)
 replace o:=zc (o.out.below ae)
 have aw:=zc (av.out.below ae)
 have am:=zc (ak.out.later ae)
 clear ae av ak
 clear U Z J K L V a6 O Q Y D E X
 obtain⟨U,Z,J,K,L,V,a6,O,Q,Y,D,E,X⟩:=j.out.box
 go_wp2_with fail
 refine (zj C N H z S1 q1 (-1) 0 1 sDefault _ am.out.tok I (by decide)).mono ?_
 rintro e w5 ⟨rfl,ad⟩
 rw[M.out,h3]
 replace j:=zc (j.out.below ad)
 replace o:=zc (o.out.below ad)
 have ap:=zc (aw.out.below ad)
 have al:=zc (am.out.later ad)
 clear ad aw am
 clear U Z J K L V a6 O Q Y D E X
 obtain⟨U,Z,J,K,L,V,a6,O,Q,Y,D,E,X⟩:=j.out.box
 go_wp2_with fail
 refine (zj C N H z S1 q1 (-1) 0 1 sLet _ al.out.tok I (by decide)).mono ?_
 rintro e w6 ⟨rfl,ab⟩
 rw[M.out,h4]
 replace j:=zc (j.out.below ab)
 replace o:=zc (o.out.below ab)
 have au:=zc (ap.out.below ab)
 have aj:=zc (al.out.later ab)
 clear ab ap al
 clear U Z J K L V a6 O Q Y D E X
 obtain⟨U,Z,J,K,L,V,a6,O,Q,Y,D,E,X⟩:=j.out.box
 go_wp2_with fail
 refine (zj C N H z S1 q1 (-1) 0 1 sFunction _ aj.out.tok I (by decide)).mono ?_
 rintro e w7 ⟨rfl,ac⟩
 rw[M.out,h5]
 replace j:=zc (j.out.below ac)
 replace o:=zc (o.out.below ac)
 have ao:=zc (au.out.below ac)
 have ah:=zc (aj.out.later ac)
 clear ac au aj
 clear U Z J K L V a6 O Q Y D E X
 obtain⟨U,Z,J,K,L,V,a6,O,Q,Y,D,E,X⟩:=j.out.box
 clear M
 go_wp2_with fail
 refine (zd0 C N H z S1 q1 (-1) 0 _ ah.out.tok I).mono ?_
 rintro e w8 ⟨rfl,ag⟩
 replace j:=zc (j.out.below ag)
 replace o:=zc (o.out.below ag)
 have az:=zc (ao.out.below ag)
 have aA:=zc (ah.out.later ag)
 clear ag ao ah
 clear U Z J K L V a6 O Q Y D E X
 obtain⟨b0,b1,b2,b3,b4,b5,b6,b7,b8,b9,aB,aC,bf⟩:=o.out.box
 unfold pv
 go_wp2
 refine bodyPost_ret (results_cell_row rfl _ _ (w.heap.size+1) 55 _ (0,0) _ rfl ((o.out.put ..)).heap Tryz.underlying55 rfl (by kernel_rfl)) rfl ?_
 rw[HV.out,←HQ.out]
 exact zac rfl (show Is (.error (zu C q1.pos)) q1 _ from rfl) (aA.out.put o.out ..) (az.out.put (by omega) ..)
theorem zvi (C:Cx) (K H z:Nat) (S:Sv) (q:PS) (w:World) (hm:Mem C K H z S q w) (hw:isT C q.pos 1 sExport=true) (h1:isT C (q.pos+1) 4 zF=true):
  Calls Tryz.prog 49 #[pv C K H S q (-1) 0] w (Out C K H z (zV C q) 0 S w):=by
 have HM:=zc hm
 have aK:=hm.few
 clear hm
 have HV:Hid (zV C q=bd (zbB C true (adv q)) fun a=>if !za2 a.2&& !isT C a.1.pos 1 zH then bd (zd C 4 cSemi a.1) fun q=>zK (fun e=>zm C (zD e)) a.2 (.ok q) else bd (zaD C (zav C (.ok a.1))) fun b=>zK (fun e=>zm C (zaj b.2 e)) a.2 (.ok b.1)):=by
  show _=_
  rw[zV,zd,if_pos hw,zh]
  rw[zz,h1]
  rfl
 unfold pv
 go_enter Tryz.func49,Tryz.ntmps49
 go_wp2_with fail
 refine (zaT C K H z (.ok q) S q (-1) 0 sExport _ (zab q) ((HM.out.alloc _).alloc _)).mono ?_
 rintro e w1 ⟨S1,q1,z1,rfl,i1,m1,s1⟩
 obtain⟨X0,Z,t1⟩:=HM.out.two2 s1
 have o:=zc X0
 have D:=zc Z
 have bj:=zc m1
 have bk:=zc t1
 have bb:=zc i1
 clear X0 Z i1 m1 t1 s1
 obtain⟨aO,rfl⟩:=zdq bb.out hw
 have HQ:=zc aO
 have aY:Hid (q1.pos=q.pos+1):=by show q1.pos=q.pos+1;rw[aO];rfl
 clear aO bb
 obtain⟨a0,a1,a2,a3,a4,a5,a6,a7,a8,a9,N,O,af⟩:=o.out.box
 unfold pv
 go_upto_region 2 with fail
 refine zQ (R:=fun W=>Bx K S1 W (w.heap.size) _∧Bx K S1 W (w.heap.size+1) _∧Mem C K H z S1 q1 W∧SB w.heap.size S w S1 W) ⟨(o.out.put ..),(D.out.other (by omega) ..),(bj.out.put o.out ..),(bk.out.put (by omega) ..)⟩ ?_
 clear a0 a1 a2 a3 a4 a5 a6 a7 a8 a9 N O af
 clear o D bk bj
 rintro w2 ⟨X0,Z,m2,t2⟩
 have o:=zc X0
 have D:=zc Z
 have aS:=zc m2
 have aW:=zc t2
 clear m2 t2 X0 Z
 have aP:Hid (zV C q=bd (zbB C true q1) fun a=>if !za2 a.2&& !isT C a.1.pos 1 zH then bd (zd C 4 cSemi a.1) fun q=>zK (fun e=>zm C (zD e)) a.2 (.ok q) else bd (zaD C (zav C (.ok a.1))) fun b=>zK (fun e=>zm C (zaj b.2 e)) a.2 (.ok b.1)):=by show _=_;rw[HQ.out];exact HV.out
 obtain⟨a0,a1,a2,a3,a4,a5,a6,a7,a8,a9,N,O,af⟩:=o.out.box
 go_wp2_with fail
 refine (zj C K H z S1 q1 (-1) 0 4 zF _ aS.out.tok aK (by decide)).mono ?_
 rintro e w3 ⟨rfl,aI⟩
 rw[aY.out,h1]
 replace o:=zc (o.out.below aI)
 replace D:=zc (D.out.below aI)
 have aQ:=zc (aW.out.below aI)
 have ba:=zc (aS.out.later aI)
 clear aI aW aS
 clear a0 a1 a2 a3 a4 a5 a6 a7 a8 a9 N O af
 obtain⟨a0,a1,a2,a3,a4,a5,a6,a7,a8,a9,N,O,af⟩:=o.out.box
 clear aY
 have bm:=aQ.out.size
 go_wp2_with fail
 refine (zm2 C K H z S1 q1 0 true _ ba.out).mono ?_
 rintro e w4 ⟨S4,q4,z4,⟨ra,rc⟩,l,rfl,i4,m4,s4,R0,hl⟩
 obtain⟨g,rfl⟩: ∃g,ra=some ⟨g,0,none⟩:=R0.addr
 replace o:=zc (o.out.stp s4)
 replace D:=zc (D.out.stp s4)
 have bi:=zc (aQ.out.step s4)
 clear aQ
 have aR:=zc m4
 have aD:=zc i4
 clear i4 m4 s4 ba
 clear a0 a1 a2 a3 a4 a5 a6 a7 a8 a9 N O af
 have I:Hid (Row S4 w4 z w.heap.size ⟨some ⟨g,0,none⟩,rc⟩ l):=⟨R0.own,R0.free,fun k hk=>Nat.le_trans bm (R0.new k hk),R0.addr⟩
 clear R0
 have bo:w.heap.size+1<w4.heap.size:=D.out.lt
 unfold pv
 go_upto_region 4 with fail
 refine zQ (R:=fun W=>Bx K S4 W (w.heap.size) _∧Bx K S4 W (w.heap.size+1) _∧Bx K S4 W (w4.heap.size) _∧Row S4 W z w.heap.size ⟨some ⟨g,0,none⟩,rc⟩ l∧Mem C K H z S4 q4 W∧SB w.heap.size S w S4 W) ⟨(o.out.alloc _),(D.out.alloc _),(Bx.new aR.out _),(I.out.alloc _),(aR.out.alloc _),(bi.out.alloc _)⟩ ?_
 clear o D bi aR
 clear I
 rintro w5 ⟨X0,Z,X2,R0,m5,t5⟩
 have I:=zc R0
 clear R0
 have o:=zc X0
 have D:=zc Z
 have E:=zc X2
 have az:=zc m5
 have aG:=zc t5
 clear m5 t5 X0 Z X2
 cases hA:za2 l with
 |true=>
  skip
  obtain⟨c0,c1,c2,c3,c4,c5,c6,c7,c8,c9,al,aj,cf⟩:=E.out.box
  go_wp2_with fail
  refine (zaT C K H z _ S4 q4 z4 0 zH _ aD.out.fst az.out).mono ?_
  rintro e w6 ⟨S6,q6,z6,rfl,i6,m6,s6⟩
  replace o:=zc (o.out.stp s6)
  replace D:=zc (D.out.stp s6)
  replace E:=zc (E.out.stp s6)
  have ay:=zc (aG.out.step s6)
  have L:Hid (Row S6 w6 z w.heap.size ⟨some ⟨g,0,none⟩,rc⟩ l):=I.out.stp s6
  clear I
  have I:=zc L
  clear L
  clear aG
  have au:=zc m6
  have bl:=zc i6
  clear i6 m6 s6 az
  clear c0 c1 c2 c3 c4 c5 c6 c7 c8 c9 al aj cf
  go_wp2_with fail
  refine (zeD C K H z _ S6 q6 z6 0 _ bl.out au.out).mono ?_
  rintro e w7 ⟨S7,q7,z7,n7,rfl,i7,m7,s7⟩
  replace o:=zc (o.out.stp s7)
  replace D:=zc (D.out.stp s7)
  replace E:=zc (E.out.stp s7)
  have ap:=zc (ay.out.step s7)
  have L:Hid (Row S7 w7 z w.heap.size ⟨some ⟨g,0,none⟩,rc⟩ l):=I.out.stp s7
  clear I
  have I:=zc L
  clear L
  clear ay
  have ai:=zc m7
  have aE:=zc i7
  clear i7 m7 s7 au
  have aT:w.heap.size+1<w7.heap.size:=D.out.lt
  have aL:w4.heap.size<w7.heap.size:=E.out.lt
  unfold pv
  go_upto_region 12 with fail
  refine zQ (R:=fun W=>Bx K S7 W (w.heap.size) _∧Bx K S7 W (w.heap.size+1) _∧Bx K S7 W (w4.heap.size) _∧Bx K S7 W (w7.heap.size) _∧Row S7 W z w.heap.size ⟨some ⟨g,0,none⟩,rc⟩ l∧Mem C K H z S7 q7 W∧SB w.heap.size S w S7 W) ⟨(o.out.alloc _),(D.out.alloc _),(E.out.alloc _),(Bx.new ai.out _),(I.out.alloc _),(ai.out.alloc _),(ap.out.alloc _)⟩ ?_
  clear o D E ap ai
  clear I
  rintro w8 ⟨X0,Z,X2,X3,R0,m8,t8⟩
  have I:=zc R0
  clear R0
  have o:=zc X0
  have D:=zc Z
  have E:=zc X2
  have ab:=zc X3
  have an:=zc m8
  have aA:=zc t8
  clear m8 t8 X0 Z X2 X3
  obtain⟨d0,d1,d2,d3,d4,d5,d6,d7,d8,d9,am,ak,df⟩:=ab.out.box
  go_wp2_with fail
  refine (zah C K H z _ S7 q7 z7 0 cSemi _ aE.out.fst an.out).mono ?_
  rintro e w9 ⟨S9,q9,z9,rfl,i9,m9,s9⟩
  replace o:=zc (o.out.stp s9)
  replace D:=zc (D.out.stp s9)
  replace E:=zc (E.out.stp s9)
  replace ab:=zc (ab.out.stp s9)
  have ad:=zc (aA.out.step s9)
  have L:Hid (Row S9 w9 z w.heap.size ⟨some ⟨g,0,none⟩,rc⟩ l):=I.out.stp s9
  clear I
  have I:=zc L
  clear L
  clear aA
  have ae:=zc m9
  have ag:=zc i9
  clear i9 m9 s9 an
  clear d0 d1 d2 d3 d4 d5 d6 d7 d8 d9 am ak df
  obtain⟨a0,a1,a2,a3,a4,a5,a6,a7,a8,a9,N,O,af⟩:=o.out.box
  unfold pv
  go_upto_region 13 with fail
  refine zQ (R:=fun W=>Bx K S9 W (w.heap.size) _∧Bx K S9 W (w.heap.size+1) _∧Bx K S9 W (w4.heap.size) _∧Bx K S9 W (w7.heap.size) _∧Row S9 W z w.heap.size ⟨some ⟨g,0,none⟩,rc⟩ l∧Mem C K H z S9 q9 W∧SB w.heap.size S w S9 W) ⟨(o.out.put ..),(D.out.other (by omega) ..),(E.out.other (by omega) ..),(ab.out.other (by omega) ..),(I.out.put o.out ..),(ae.out.put o.out ..),(ad.out.put (by omega) ..)⟩ ?_
  clear a0 a1 a2 a3 a4 a5 a6 a7 a8 a9 N O af
  clear o D E ab ad ae
  clear I
  rintro av ⟨X0,Z,X2,X3,R0,ac,bg⟩
  have I:=zc R0
  clear R0
  have o:=zc X0
  have D:=zc Z
  have E:=zc X2
  have ab:=zc X3
  have X:=zc ac
  have aC:=zc bg
  clear ac bg X0 Z X2 X3
  have aJ:Hid (_=zV C q):=(zjk (G:=fun b e=>zm C (zaj b e)) aD.out aE.out).trans ((zmJ aD.out (.inl hA)).trans aP.out.symm)
  go_wp2
  go_loopg [9] l.length (fun k i wr=>∃(j:Nat) (x':PR) (M:Sv) (Y:PS) (z':Int),j≤l.length∧i= .int .i64 j∧Is x' Y z'∧(z'<0→1≤Y.pos)∧zK (fun e=>zm C (zaj n7 e)) (l.drop j) x'=zV C q∧l.length-j=k∧Mem C K H z M Y wr∧SB w.heap.size S w M wr∧Bx K M wr w.heap.size #[.slice (some ⟨K,0,none⟩) C.ts.length H,.int .i64 Y.pos,.int .i64 C.fin,.bool C.scr,.slice M.rq.a Y.rq.length M.rq.cap,.slice M.im.a Y.im.length M.im.cap,.slice M.ep.a Y.ep.length M.ep.cap,.slice M.st.a Y.st.length M.st.cap,.slice M.ex.a Y.ex.length M.ex.cap,.slice M.la.a Y.la.length M.la.cap,.int .i64 z',.int .i64 0]∧Bx K M wr (w.heap.size+1) #[.slice none 0 0,.int .i64 0,.int .i64 0,.bool false,.slice none 0 0,.slice none 0 0,.slice none 0 0,.slice none 0 0,.slice none 0 0,.slice none 0 0,.int .i64 0,.int .i64 0]∧Row M wr z w.heap.size ⟨some ⟨g,0,none⟩,rc⟩ l)
  case atStart=>exact⟨0,_,S9,q9,z9,Nat.zero_le _,rfl,ag.out,zb5 ag.out,aJ.out,rfl,X.out,aC.out,o.out,D.out,I.out⟩
  case round=>
   obtain⟨j,x9,S9,q9,z9,hj,rfl,i9,p9,e9,g9,m9,t9,X0,Z,R0⟩:=hrel
   clear o D E ab I X aC
   have o:=zc X0
   have D:=zc Z
   have ae:=zc m9
   have ad:=zc t9
   have ag:=zc i9
   have aw:=zc p9
   have aB:=zc e9
   have aq:=zc g9
   have I:=zc R0
   clear X0 Z i9 m9 t9 e9 g9 R0 p9
   by_cases ao:j<l.length
   ·skip
    obtain⟨c1,c2⟩:=I.out.cells (g:=g) rfl ao
    have be:=I.out.own.lt (g:=g) rfl
    have HX:Hid (∀e,e=l[j]→zK (fun e=>zm C (zaj n7 e)) (l.drop (j+1)) (bd x9 (zm C (zaj n7 e)))=zV C q):=fun e he=>by rw[he,←aB.out];exact (zht (fun e=>zm C (zaj n7 e)) l x9 ao).symm
    generalize ax:l[j]=el at c1 c2
    have aH:Hid (el=l[j]):=ax.symm
    clear ax
    obtain⟨a0,a1,a2,a3,a4,a5,a6,a7,a8,a9,N,O,af⟩:=o.out.box
    go_upto_region 16 with fail
    go_region_law (first|(go_simp;go_wp2_with (go_at_call 100;refine (zep C K H z x9 S9 q9 z9 0 (zaj n7 el) _ ag.out ae.out.drew aw.out).mono ?_;rintro e av ⟨U,ar,aF,rfl,ah,ac,Q⟩;obtain⟨d0,d1,d2,d3,d4,d5,d6,d7,d8,d9,am,ak,df⟩:=(o.out.stp Q.undrew).box;unfold pv)))
    all_goals
     clear a0 a1 a2 a3 a4 a5 a6 a7 a8 a9 N O af d0 d1 d2 d3 d4 d5 d6 d7 d8 d9 am ak df
     have V:=zc ah
     have X:=zc ac
     have J:Hid (Stp S9 wr U av):=Q.undrew
     clear ah ac Q
     go_wp2
     go_roundg (gk-1)
     case rel=>exact⟨j+1,_,U,ar,aF,by omega,by go_num,V.out,zjl aw.out ag.out V.out,HX.out el aH.out,by have:=aq.out;omega,X.out.put (o.out.stp J.out) _ _ _ _ _ _ _ _ _ _ _ _,(ad.out.step J.out).put (by omega) _ _ _ _ _ _ _ _ _ _ _ _,(o.out.stp J.out).put _ _ _ _ _ _ _ _ _ _ _ _,(D.out.stp J.out).other (by omega) _ _ _ _ _ _ _ _ _ _ _ _,(I.out.stp J.out).put (o.out.stp J.out) _ _ _ _ _ _ _ _ _ _ _ _⟩
     case measure=>have:=aq.out;omega
   ·skip
    obtain⟨a0,a1,a2,a3,a4,a5,a6,a7,a8,a9,N,O,af⟩:=o.out.box
    obtain⟨b0,b1,b2,b3,b4,b5,b6,b7,b8,b9,aX,bc,bf⟩:=D.out.box
    go_wp2
    refine bodyPost_ret (results_cell_row rfl _ _ (w.heap.size+1) 55 _ (0,0) _ rfl ((D.out.put ..)).heap Tryz.underlying55 rfl (by kernel_rfl)) rfl ?_
    exact zac rfl (show Is (zV C q) q9 z9 from by rw[←aB.out,List.drop_eq_nil_of_le (by omega)];exact ag.out) (ae.out.put D.out ..) (ad.out.put (by omega) ..)
 |false=>
  cases hF:(decide (z4<0)&&isT C q4.pos 1 zH) with
  |true=>
   obtain⟨c0,c1,c2,c3,c4,c5,c6,c7,c8,c9,al,aj,cf⟩:=E.out.box
   go_wp2_with fail
   refine (zj C K H z S4 q4 z4 0 1 zH _ az.out.tok aK (by decide)).mono ?_
   rintro e w6 ⟨rfl,aa⟩
   rw[hF]
   replace o:=zc (o.out.below aa)
   replace D:=zc (D.out.below aa)
   replace E:=zc (E.out.below aa)
   have ay:=zc (aG.out.below aa)
   have au:=zc (az.out.later aa)
   have L:Hid (Row S4 w6 z w.heap.size ⟨some ⟨g,0,none⟩,rc⟩ l):=I.out.below aa
   clear I
   have I:=zc L
   clear L
   clear aa aG az
   clear c0 c1 c2 c3 c4 c5 c6 c7 c8 c9 al aj cf
   obtain⟨c0,c1,c2,c3,c4,c5,c6,c7,c8,c9,al,aj,cf⟩:=E.out.box
   go_wp2_with fail
   refine (zaT C K H z _ S4 q4 z4 0 zH _ aD.out.fst au.out).mono ?_
   rintro e w7 ⟨S7,q7,z7,rfl,i7,m7,s7⟩
   replace o:=zc (o.out.stp s7)
   replace D:=zc (D.out.stp s7)
   replace E:=zc (E.out.stp s7)
   have ap:=zc (ay.out.step s7)
   have L:Hid (Row S7 w7 z w.heap.size ⟨some ⟨g,0,none⟩,rc⟩ l):=I.out.stp s7
   clear I
   have I:=zc L
   clear L
   clear ay
   have ai:=zc m7
   have aE:=zc i7
   clear i7 m7 s7 au
   clear c0 c1 c2 c3 c4 c5 c6 c7 c8 c9 al aj cf
   go_wp2_with fail
   refine (zeD C K H z _ S7 q7 z7 0 _ aE.out ai.out).mono ?_
   rintro e w8 ⟨S8,q8,z8,n8,rfl,i8,m8,s8⟩
   replace o:=zc (o.out.stp s8)
   replace D:=zc (D.out.stp s8)
   replace E:=zc (E.out.stp s8)
   have aA:=zc (ap.out.step s8)
   have L:Hid (Row S8 w8 z w.heap.size ⟨some ⟨g,0,none⟩,rc⟩ l):=I.out.stp s8
   clear I
   have I:=zc L
   clear L
   clear ap
   have an:=zc m8
   have aU:=zc i8
   clear i8 m8 s8 ai
   have aT:w.heap.size+1<w8.heap.size:=D.out.lt
   have aL:w4.heap.size<w8.heap.size:=E.out.lt
   unfold pv
   go_upto_region 12 with fail
   refine zQ (R:=fun W=>Bx K S8 W (w.heap.size) _∧Bx K S8 W (w.heap.size+1) _∧Bx K S8 W (w4.heap.size) _∧Bx K S8 W (w8.heap.size) _∧Row S8 W z w.heap.size ⟨some ⟨g,0,none⟩,rc⟩ l∧Mem C K H z S8 q8 W∧SB w.heap.size S w S8 W) ⟨(o.out.alloc _),(D.out.alloc _),(E.out.alloc _),(Bx.new an.out _),(I.out.alloc _),(an.out.alloc _),(aA.out.alloc _)⟩ ?_
   clear o D E aA an
   clear I
   rintro w9 ⟨X0,Z,X2,X3,R0,m9,t9⟩
   have I:=zc R0
   clear R0
   have o:=zc X0
   have D:=zc Z
   have E:=zc X2
   have ab:=zc X3
   have ae:=zc m9
   have ad:=zc t9
   clear m9 t9 X0 Z X2 X3
   obtain⟨d0,d1,d2,d3,d4,d5,d6,d7,d8,d9,am,ak,df⟩:=ab.out.box
   go_wp2_with fail
   refine (zah C K H z _ S8 q8 z8 0 cSemi _ aU.out.fst ae.out).mono ?_
   rintro e av ⟨U,ar,aF,rfl,ah,ac,Q⟩
   replace o:=zc (o.out.stp Q)
   replace D:=zc (D.out.stp Q)
   replace E:=zc (E.out.stp Q)
   replace ab:=zc (ab.out.stp Q)
   have aC:=zc (ad.out.step Q)
   have L:Hid (Row U av z w.heap.size ⟨some ⟨g,0,none⟩,rc⟩ l):=I.out.stp Q
   clear I
   have I:=zc L
   clear L
   clear ad
   have X:=zc ac
   have V:=zc ah
   clear ah ac Q ae
   clear d0 d1 d2 d3 d4 d5 d6 d7 d8 d9 am ak df
   obtain⟨a0,a1,a2,a3,a4,a5,a6,a7,a8,a9,N,O,af⟩:=o.out.box
   unfold pv
   go_upto_region 13 with fail
   refine zQ (R:=fun W=>Bx K U W (w.heap.size) _∧Bx K U W (w.heap.size+1) _∧Bx K U W (w4.heap.size) _∧Bx K U W (w8.heap.size) _∧Row U W z w.heap.size ⟨some ⟨g,0,none⟩,rc⟩ l∧Mem C K H z U ar W∧SB w.heap.size S w U W) ⟨(o.out.put ..),(D.out.other (by omega) ..),(E.out.other (by omega) ..),(ab.out.other (by omega) ..),(I.out.put o.out ..),(X.out.put o.out ..),(aC.out.put (by omega) ..)⟩ ?_
   clear a0 a1 a2 a3 a4 a5 a6 a7 a8 a9 N O af
   clear o D E ab aC X
   clear I
   rintro bp ⟨X0,Z,X2,X3,R0,aV,aZ⟩
   have I:=zc R0
   clear R0
   have o:=zc X0
   have D:=zc Z
   have E:=zc X2
   have ab:=zc X3
   have aN:=zc aV
   have aM:=zc aZ
   clear aV aZ X0 Z X2 X3
   have aJ:Hid (_=zV C q):=(zjk (G:=fun b e=>zm C (zaj b e)) aD.out aU.out).trans ((zmJ aD.out (.inr hF)).trans aP.out.symm)
   go_wp2
   go_loopg [9] l.length (fun k i wr=>∃(j:Nat) (x':PR) (M:Sv) (Y:PS) (z':Int),j≤l.length∧i= .int .i64 j∧Is x' Y z'∧(z'<0→1≤Y.pos)∧zK (fun e=>zm C (zaj n8 e)) (l.drop j) x'=zV C q∧l.length-j=k∧Mem C K H z M Y wr∧SB w.heap.size S w M wr∧Bx K M wr w.heap.size #[.slice (some ⟨K,0,none⟩) C.ts.length H,.int .i64 Y.pos,.int .i64 C.fin,.bool C.scr,.slice M.rq.a Y.rq.length M.rq.cap,.slice M.im.a Y.im.length M.im.cap,.slice M.ep.a Y.ep.length M.ep.cap,.slice M.st.a Y.st.length M.st.cap,.slice M.ex.a Y.ex.length M.ex.cap,.slice M.la.a Y.la.length M.la.cap,.int .i64 z',.int .i64 0]∧Bx K M wr (w.heap.size+1) #[.slice none 0 0,.int .i64 0,.int .i64 0,.bool false,.slice none 0 0,.slice none 0 0,.slice none 0 0,.slice none 0 0,.slice none 0 0,.slice none 0 0,.int .i64 0,.int .i64 0]∧Row M wr z w.heap.size ⟨some ⟨g,0,none⟩,rc⟩ l)
   case atStart=>exact⟨0,_,U,ar,aF,Nat.zero_le _,rfl,V.out,zb5 V.out,aJ.out,rfl,aN.out,aM.out,o.out,D.out,I.out⟩
   case round=>
    obtain⟨j,x9,S9,q9,z9,hj,rfl,i9,p9,e9,g9,m9,t9,X0,Z,R0⟩:=hrel
    clear o D E ab I aN aM
    have o:=zc X0
    have D:=zc Z
    have ae:=zc m9
    have ad:=zc t9
    have ag:=zc i9
    have aw:=zc p9
    have aB:=zc e9
    have aq:=zc g9
    have I:=zc R0
    clear X0 Z i9 m9 t9 e9 g9 R0 p9
    by_cases ao:j<l.length
    ·skip
     obtain⟨c1,c2⟩:=I.out.cells (g:=g) rfl ao
     have be:=I.out.own.lt (g:=g) rfl
     have HX:Hid (∀e,e=l[j]→zK (fun e=>zm C (zaj n8 e)) (l.drop (j+1)) (bd x9 (zm C (zaj n8 e)))=zV C q):=fun e he=>by rw[he,←aB.out];exact (zht (fun e=>zm C (zaj n8 e)) l x9 ao).symm
     generalize ax:l[j]=el at c1 c2
     have aH:Hid (el=l[j]):=ax.symm
     clear ax
     obtain⟨a0,a1,a2,a3,a4,a5,a6,a7,a8,a9,N,O,af⟩:=o.out.box
     go_upto_region 16 with fail
     go_region_law (first|(go_simp;go_wp2_with (go_at_call 100;refine (zep C K H z x9 S9 q9 z9 0 (zaj n8 el) _ ag.out ae.out.drew aw.out).mono ?_;rintro e av ⟨U,ar,aF,rfl,ah,ac,Q⟩;obtain⟨d0,d1,d2,d3,d4,d5,d6,d7,d8,d9,am,ak,df⟩:=(o.out.stp Q.undrew).box;unfold pv)))
     all_goals
      clear a0 a1 a2 a3 a4 a5 a6 a7 a8 a9 N O af d0 d1 d2 d3 d4 d5 d6 d7 d8 d9 am ak df
      have V:=zc ah
      have X:=zc ac
      have J:Hid (Stp S9 wr U av):=Q.undrew
      clear ah ac Q
      go_wp2
      go_roundg (gk-1)
      case rel=>exact⟨j+1,_,U,ar,aF,by omega,by go_num,V.out,zjl aw.out ag.out V.out,HX.out el aH.out,by have:=aq.out;omega,X.out.put (o.out.stp J.out) _ _ _ _ _ _ _ _ _ _ _ _,(ad.out.step J.out).put (by omega) _ _ _ _ _ _ _ _ _ _ _ _,(o.out.stp J.out).put _ _ _ _ _ _ _ _ _ _ _ _,(D.out.stp J.out).other (by omega) _ _ _ _ _ _ _ _ _ _ _ _,(I.out.stp J.out).put (o.out.stp J.out) _ _ _ _ _ _ _ _ _ _ _ _⟩
      case measure=>have:=aq.out;omega
    ·skip
     obtain⟨a0,a1,a2,a3,a4,a5,a6,a7,a8,a9,N,O,af⟩:=o.out.box
     obtain⟨b0,b1,b2,b3,b4,b5,b6,b7,b8,b9,aX,bc,bf⟩:=D.out.box
     go_wp2
     refine bodyPost_ret (results_cell_row rfl _ _ (w.heap.size+1) 55 _ (0,0) _ rfl ((D.out.put ..)).heap Tryz.underlying55 rfl (by kernel_rfl)) rfl ?_
     exact zac rfl (show Is (zV C q) q9 z9 from by rw[←aB.out,List.drop_eq_nil_of_le (by omega)];exact ag.out) (ae.out.put D.out ..) (ad.out.put (by omega) ..)
  |false=>
   obtain⟨c0,c1,c2,c3,c4,c5,c6,c7,c8,c9,al,aj,cf⟩:=E.out.box
   go_wp2_with fail
   refine (zj C K H z S4 q4 z4 0 1 zH _ az.out.tok aK (by decide)).mono ?_
   rintro e w6 ⟨rfl,aa⟩
   rw[hF]
   replace o:=zc (o.out.below aa)
   replace D:=zc (D.out.below aa)
   replace E:=zc (E.out.below aa)
   have ay:=zc (aG.out.below aa)
   have au:=zc (az.out.later aa)
   have L:Hid (Row S4 w6 z w.heap.size ⟨some ⟨g,0,none⟩,rc⟩ l):=I.out.below aa
   clear I
   have I:=zc L
   clear L
   clear aa aG az
   clear c0 c1 c2 c3 c4 c5 c6 c7 c8 c9 al aj cf
   obtain⟨c0,c1,c2,c3,c4,c5,c6,c7,c8,c9,al,aj,cf⟩:=E.out.box
   go_wp2_with fail
   refine (zah C K H z _ S4 q4 z4 0 cSemi _ aD.out.fst au.out).mono ?_
   rintro e w7 ⟨S7,q7,z7,rfl,i7,m7,s7⟩
   replace o:=zc (o.out.stp s7)
   replace D:=zc (D.out.stp s7)
   replace E:=zc (E.out.stp s7)
   have ap:=zc (ay.out.step s7)
   have L:Hid (Row S7 w7 z w.heap.size ⟨some ⟨g,0,none⟩,rc⟩ l):=I.out.stp s7
   clear I
   have I:=zc L
   clear L
   clear ay
   have ai:=zc m7
   have aE:=zc i7
   clear i7 m7 s7 au
   clear c0 c1 c2 c3 c4 c5 c6 c7 c8 c9 al aj cf
   obtain⟨a0,a1,a2,a3,a4,a5,a6,a7,a8,a9,N,O,af⟩:=o.out.box
   unfold pv
   go_upto_region 6 with fail
   refine zQ (R:=fun W=>Bx K S7 W (w.heap.size) _∧Bx K S7 W (w.heap.size+1) _∧Bx K S7 W (w4.heap.size) _∧Row S7 W z w.heap.size ⟨some ⟨g,0,none⟩,rc⟩ l∧Mem C K H z S7 q7 W∧SB w.heap.size S w S7 W) ⟨(o.out.put ..),(D.out.other (by omega) ..),(E.out.other (by omega) ..),(I.out.put o.out ..),(ai.out.put o.out ..),(ap.out.put (by omega) ..)⟩ ?_
   clear a0 a1 a2 a3 a4 a5 a6 a7 a8 a9 N O af
   clear o D E ap ai
   clear I
   rintro w8 ⟨X0,Z,X2,R0,m8,t8⟩
   have I:=zc R0
   clear R0
   have o:=zc X0
   have D:=zc Z
   have E:=zc X2
   have an:=zc m8
   have aA:=zc t8
   clear m8 t8 X0 Z X2
   have aJ:Hid (_=zV C q):=(zvc aD.out hA hF).trans aP.out.symm
   go_wp2
   go_loopg [6] l.length (fun k i wr=>∃(j:Nat) (x':PR) (M:Sv) (Y:PS) (z':Int),j≤l.length∧i= .int .i64 j∧Is x' Y z'∧(z'<0→1≤Y.pos)∧zK (fun e=>zm C (zD e)) (l.drop j) x'=zV C q∧l.length-j=k∧Mem C K H z M Y wr∧SB w.heap.size S w M wr∧Bx K M wr w.heap.size #[.slice (some ⟨K,0,none⟩) C.ts.length H,.int .i64 Y.pos,.int .i64 C.fin,.bool C.scr,.slice M.rq.a Y.rq.length M.rq.cap,.slice M.im.a Y.im.length M.im.cap,.slice M.ep.a Y.ep.length M.ep.cap,.slice M.st.a Y.st.length M.st.cap,.slice M.ex.a Y.ex.length M.ex.cap,.slice M.la.a Y.la.length M.la.cap,.int .i64 z',.int .i64 0]∧Bx K M wr (w.heap.size+1) #[.slice none 0 0,.int .i64 0,.int .i64 0,.bool false,.slice none 0 0,.slice none 0 0,.slice none 0 0,.slice none 0 0,.slice none 0 0,.slice none 0 0,.int .i64 0,.int .i64 0]∧Row M wr z w.heap.size ⟨some ⟨g,0,none⟩,rc⟩ l)
   case atStart=>exact⟨0,_,S7,q7,z7,Nat.zero_le _,rfl,aE.out,zb5 aE.out,aJ.out,rfl,an.out,aA.out,o.out,D.out,I.out⟩
   case round=>
    obtain⟨j,x9,S9,q9,z9,hj,rfl,i9,p9,e9,g9,m9,t9,X0,Z,R0⟩:=hrel
    clear o D E I an aA
    have o:=zc X0
    have D:=zc Z
    have ae:=zc m9
    have ad:=zc t9
    have ag:=zc i9
    have aw:=zc p9
    have aB:=zc e9
    have aq:=zc g9
    have I:=zc R0
    clear X0 Z i9 m9 t9 e9 g9 R0 p9
    by_cases ao:j<l.length
    ·skip
     obtain⟨c1,c2⟩:=I.out.cells (g:=g) rfl ao
     have be:=I.out.own.lt (g:=g) rfl
     have HX:Hid (∀e,e=l[j]→zK (fun e=>zm C (zD e)) (l.drop (j+1)) (bd x9 (zm C (zD e)))=zV C q):=fun e he=>by rw[he,←aB.out];exact (zht (fun e=>zm C (zD e)) l x9 ao).symm
     generalize ax:l[j]=el at c1 c2
     have aH:Hid (el=l[j]):=ax.symm
     clear ax
     obtain⟨a0,a1,a2,a3,a4,a5,a6,a7,a8,a9,N,O,af⟩:=o.out.box
     go_upto_region 9 with fail
     go_region_law (first|(go_simp;go_wp2_with (go_at_call 100;refine (zep C K H z x9 S9 q9 z9 0 (zD el) _ ag.out ae.out.drew aw.out).mono ?_;rintro e av ⟨U,ar,aF,rfl,ah,ac,Q⟩;obtain⟨d0,d1,d2,d3,d4,d5,d6,d7,d8,d9,am,ak,df⟩:=(o.out.stp Q.undrew).box;unfold pv)))
     all_goals
      clear a0 a1 a2 a3 a4 a5 a6 a7 a8 a9 N O af d0 d1 d2 d3 d4 d5 d6 d7 d8 d9 am ak df
      have V:=zc ah
      have X:=zc ac
      have J:Hid (Stp S9 wr U av):=Q.undrew
      clear ah ac Q
      go_wp2
      go_roundg (gk-1)
      case rel=>exact⟨j+1,_,U,ar,aF,by omega,by go_num,V.out,zjl aw.out ag.out V.out,HX.out el aH.out,by have:=aq.out;omega,X.out.put (o.out.stp J.out) _ _ _ _ _ _ _ _ _ _ _ _,(ad.out.step J.out).put (by omega) _ _ _ _ _ _ _ _ _ _ _ _,(o.out.stp J.out).put _ _ _ _ _ _ _ _ _ _ _ _,(D.out.stp J.out).other (by omega) _ _ _ _ _ _ _ _ _ _ _ _,(I.out.stp J.out).put (o.out.stp J.out) _ _ _ _ _ _ _ _ _ _ _ _⟩
      case measure=>have:=aq.out;omega
    ·skip
     obtain⟨a0,a1,a2,a3,a4,a5,a6,a7,a8,a9,N,O,af⟩:=o.out.box
     obtain⟨b0,b1,b2,b3,b4,b5,b6,b7,b8,b9,aX,bc,bf⟩:=D.out.box
     go_wp2
     refine bodyPost_ret (results_cell_row rfl _ _ (w.heap.size+1) 55 _ (0,0) _ rfl ((D.out.put ..)).heap Tryz.underlying55 rfl (by kernel_rfl)) rfl ?_
     exact zac rfl (show Is (zV C q) q9 z9 from by rw[←aB.out,List.drop_eq_nil_of_le (by omega)];exact ag.out) (ae.out.put D.out ..) (ad.out.put (by omega) ..)
theorem zvj (C:Cx) (z o j:Nat) (S:Sv) (q:PS) (w:World) (D:Mem C z o j S q w) (H:isT C q.pos 1 sImport=true):
  Calls Tryz.prog 48 #[pv C z o S q (-1) 0] w (Out C z o j (za3 C q) 0 S w):=by
 cases E:isT C (q.pos+1) 4 zF with
 |true=>exact zuX C z o j S q w D H E
 |false=>
  cases I:isT C (q.pos+1) 4 zp with
  |true=>exact zuU C z o j S q w D H E I
  |false=>
   cases J:plainB C (q.pos+1) false with
   |true=>exact zuV C z o j S q w D H E I J
   |false=>exact zuW C z o j S q w D H E I J
theorem zvk (C:Cx) (z o j:Nat) (S:Sv) (q:PS) (w:World) (D:Mem C z o j S q w) (H:isT C q.pos 1 sExport=true):
  Calls Tryz.prog 49 #[pv C z o S q (-1) 0] w (Out C z o j (zV C q) 0 S w):=by
 cases E:isT C (q.pos+1) 4 zF with
 |true=>exact zvi C z o j S q w D H E
 |false=>
  cases I:isT C (q.pos+1) 4 zp with
  |true=>exact zvd C z o j S q w D H E I
  |false=>
   cases J:isT C (q.pos+1) 1 sDefault with
   |true=>exact zve C z o j S q w D H E I J
   |false=>
    cases K:isT C (q.pos+1) 1 sLet with
    |true=>exact zvf C z o j S q w D H E I J K
    |false=>
     cases L:isT C (q.pos+1) 1 sFunction with
     |true=>exact zvg C z o j S q w D H E I J K L
     |false=>exact zvh C z o j S q w D H E I J K L
theorem zmK {C:Cx} {x:PR} {n:ByteArray}:bd (bd (bd (bd x (zd C 4 cEq)) (pE C .sum 0)) (zd C 4 cSemi)) (zE C 3 n)=bd x fun q=>bd (bd (bd (bd (.ok q) (zd C 4 cEq)) (pE C .sum 0)) (zd C 4 cSemi)) (zE C 3 n):=by cases x<;>rfl
theorem zvl (H:List Tk) (j:Nat) (I D z:Nat) (S:Sv) (q:PS) (w:World) (Z:Mem (Cx.mk H j true) I D z S q w) (h0:isT (Cx.mk H j true) q.pos 1 sLet=true):
  Calls Tryz.prog 21 #[pv (Cx.mk H j true) I D S q (-1) 0] w (Out (Cx.mk H j true) I D z (zo (Cx.mk H j true) q) 0 S w):=by
 have HM:=zc Z
 have J:=Z.tok
 have O:(Cx.mk H j true).ts.length≤4000:=Z.few
 clear Z
 have HV:Hid (zo (Cx.mk H j true) q=za7 (zbA (Cx.mk H j true) q)):=by show zo (Cx.mk H j true) q=_;rw[zo,h0];rfl
 unfold pv
 go_enter Tryz.func21,Tryz.ntmps21
 go_wp2_with fail
 refine (zj (Cx.mk H j true) I D z S q (-1) 0 1 sLet _ (zv (zv J _) _) O (by decide)).mono ?_
 rintro e w1 ⟨rfl,N⟩
 rw[h0]
 obtain⟨U,Q,m1,t1⟩:=HM.out.two N
 have E:=zc U
 have o:=zc Q
 have V:=zc m1
 have X:=zc t1
 clear U Q m1 t1 N
 clear J
 obtain⟨a0,a1,a2,a3,a4,a5,a6,a7,a8,a9,ac,ae,af⟩:=E.out.box
 go_wp2_with fail
 refine (zji (Cx.mk H j true) I D z S q _ V.out).mono ?_
 rintro e w2 ⟨L,q2,z2,n2,rfl,i2,m2,Y⟩
 replace E:=zc (E.out.stp Y)
 replace o:=zc (o.out.stp Y)
 have M:=zc (X.out.step Y)
 clear X
 have K:=zc m2
 have aa:=zc i2
 clear i2 m2 Y V
 clear a0 a1 a2 a3 a4 a5 a6 a7 a8 a9 ac ae af
 have ah:w.heap.size+1<w2.heap.size:=o.out.lt
 unfold pv
 go_upto_region 7 with fail
 refine zQ (R:=fun W=>Bx I L W (w.heap.size) _∧Bx I L W (w.heap.size+1) _∧Bx I L W (w2.heap.size) _∧Mem (Cx.mk H j true) I D z L q2 W∧SB w.heap.size S w L W) ⟨(E.out.alloc _),(o.out.alloc _),(Bx.new K.out _),(K.out.alloc _),(M.out.alloc _)⟩ ?_
 clear E o M K
 rintro w3 ⟨U,Q,X2,m3,t3⟩
 have E:=zc U
 have o:=zc Q
 have ab:=zc X2
 have ad:=zc m3
 have ag:=zc t3
 clear m3 t3 U Q X2
 obtain⟨b0,b1,b2,b3,b4,b5,b6,b7,b8,b9,ai,ak,bf⟩:=o.out.box
 obtain⟨c0,c1,c2,c3,c4,c5,c6,c7,c8,c9,al,aj,cf⟩:=ab.out.box
 go_wp2
 refine bodyPost_ret (results_cell_row rfl _ _ (w.heap.size+1) 55 _ (0,0) _ rfl ((o.out.put ..)).heap Tryz.underlying55 rfl (by kernel_rfl)) rfl ?_
 rw[HV.out]
 exact zac rfl aa.out.fst (ad.out.put o.out ..) (ag.out.put (by omega) ..)
theorem zvm (H:List Tk) (j:Nat) (J E z:Nat) (S:Sv) (q:PS) (w:World) (hm:Mem (Cx.mk H j true) J E z S q w) (h0:isT (Cx.mk H j true) q.pos 1 sLet=false) (h1:isT (Cx.mk H j true) q.pos 1 sFunction=true):
  Calls Tryz.prog 21 #[pv (Cx.mk H j true) J E S q (-1) 0] w (Out (Cx.mk H j true) J E z (zo (Cx.mk H j true) q) 0 S w):=by
 have HM:=zc hm
 have K:=hm.tok
 have L:(Cx.mk H j true).ts.length≤4000:=hm.few
 clear hm
 have HV:Hid (zo (Cx.mk H j true) q=za7 (fnP (Cx.mk H j true) q)):=by show zo (Cx.mk H j true) q=_;rw[zo,h0,h1];rfl
 unfold pv
 go_enter Tryz.func21,Tryz.ntmps21
 go_wp2_with fail
 refine (zj (Cx.mk H j true) J E z S q (-1) 0 1 sLet _ (zv (zv K _) _) L (by decide)).mono ?_
 rintro e w1 ⟨rfl,V⟩
 rw[h0]
 obtain⟨X0,Y,m1,t1⟩:=HM.out.two V
 have D:=zc X0
 have o:=zc Y
 have Q:=zc m1
 have aa:=zc t1
 clear X0 Y m1 t1 V
 clear K
 obtain⟨a0,a1,a2,a3,a4,a5,a6,a7,a8,a9,M,O,af⟩:=D.out.box
 go_wp2_with fail
 refine (zj (Cx.mk H j true) J E z S q (-1) 0 1 sFunction _ Q.out.tok L (by decide)).mono ?_
 rintro e w2 ⟨rfl,I⟩
 rw[h1]
 replace D:=zc (D.out.below I)
 replace o:=zc (o.out.below I)
 have U:=zc (aa.out.below I)
 have ab:=zc (Q.out.later I)
 clear I aa Q
 clear a0 a1 a2 a3 a4 a5 a6 a7 a8 a9 M O af
 obtain⟨a0,a1,a2,a3,a4,a5,a6,a7,a8,a9,M,O,af⟩:=D.out.box
 go_wp2_with fail
 refine (zjj (Cx.mk H j true) J E z S q _ ab.out).mono ?_
 rintro e w3 ⟨X,q3,z3,n3,rfl,i3,m3,s3⟩
 replace D:=zc (D.out.stp s3)
 replace o:=zc (o.out.stp s3)
 have Z:=zc (U.out.step s3)
 clear U
 have N:=zc m3
 have ad:=zc i3
 clear i3 m3 s3 ab
 clear a0 a1 a2 a3 a4 a5 a6 a7 a8 a9 M O af
 have ah:w.heap.size+1<w3.heap.size:=o.out.lt
 unfold pv
 go_upto_region 10 with fail
 refine zQ (R:=fun W=>Bx J X W (w.heap.size) _∧Bx J X W (w.heap.size+1) _∧Bx J X W (w3.heap.size) _∧Mem (Cx.mk H j true) J E z X q3 W∧SB w.heap.size S w X W) ⟨(D.out.alloc _),(o.out.alloc _),(Bx.new N.out _),(N.out.alloc _),(Z.out.alloc _)⟩ ?_
 clear D o Z N
 rintro w4 ⟨X0,Y,X2,m4,t4⟩
 have D:=zc X0
 have o:=zc Y
 have ac:=zc X2
 have ae:=zc m4
 have ag:=zc t4
 clear m4 t4 X0 Y X2
 obtain⟨b0,b1,b2,b3,b4,b5,b6,b7,b8,b9,ai,ak,bf⟩:=o.out.box
 obtain⟨c0,c1,c2,c3,c4,c5,c6,c7,c8,c9,al,aj,cf⟩:=ac.out.box
 go_wp2
 refine bodyPost_ret (results_cell_row rfl _ _ (w.heap.size+1) 55 _ (0,0) _ rfl ((o.out.put ..)).heap Tryz.underlying55 rfl (by kernel_rfl)) rfl ?_
 rw[HV.out]
 exact zac rfl ad.out.fst (ae.out.put o.out ..) (ag.out.put (by omega) ..)
theorem zvn (H:List Tk) (j:Nat) (I E D:Nat) (S:Sv) (q:PS) (w:World) (hm:Mem (Cx.mk H j true) I E D S q w) (h0:isT (Cx.mk H j true) q.pos 1 sLet=false) (h1:isT (Cx.mk H j true) q.pos 1 sFunction=false) (h2:isT (Cx.mk H j true) q.pos 1 sPrint=true):
  Calls Tryz.prog 21 #[pv (Cx.mk H j true) I E S q (-1) 0] w (Out (Cx.mk H j true) I E D (zo (Cx.mk H j true) q) 0 S w):=by
 have HM:=zc hm
 have U:=hm.tok
 have M:(Cx.mk H j true).ts.length≤4000:=hm.few
 clear hm
 have HV:Hid (zo (Cx.mk H j true) q=bd (bd (bd (bd (bd (bd (.ok q) (zd (Cx.mk H j true) 1 sPrint)) (zd (Cx.mk H j true) 4 cOpen)) (pE (Cx.mk H j true) .sum 0)) (zd (Cx.mk H j true) 4 zU)) (zd (Cx.mk H j true) 4 cSemi)) (zE (Cx.mk H j true) 4 sNone)):=by show zo (Cx.mk H j true) q=_;rw[zo,h0,h1,h2];rfl
 unfold pv
 go_enter Tryz.func21,Tryz.ntmps21
 go_wp2_with fail
 refine (zj (Cx.mk H j true) I E D S q (-1) 0 1 sLet _ (zv (zv U _) _) M (by decide)).mono ?_
 rintro e w1 ⟨rfl,ah⟩
 rw[h0]
 obtain⟨X0,X1,m1,t1⟩:=HM.out.two ah
 have z:=zc X0
 have o:=zc X1
 have X:=zc m1
 have ay:=zc t1
 clear X0 X1 m1 t1 ah
 clear U
 obtain⟨a0,a1,a2,a3,a4,a5,a6,a7,a8,a9,L,N,af⟩:=z.out.box
 go_wp2_with fail
 refine (zj (Cx.mk H j true) I E D S q (-1) 0 1 sFunction _ X.out.tok M (by decide)).mono ?_
 rintro e w2 ⟨rfl,Q⟩
 rw[h1]
 replace z:=zc (z.out.below Q)
 replace o:=zc (o.out.below Q)
 have ac:=zc (ay.out.below Q)
 have Y:=zc (X.out.later Q)
 clear Q ay X
 clear a0 a1 a2 a3 a4 a5 a6 a7 a8 a9 L N af
 obtain⟨a0,a1,a2,a3,a4,a5,a6,a7,a8,a9,L,N,af⟩:=z.out.box
 go_wp2_with fail
 refine (zj (Cx.mk H j true) I E D S q (-1) 0 1 sPrint _ Y.out.tok M (by decide)).mono ?_
 rintro e w3 ⟨rfl,J⟩
 rw[h2]
 replace z:=zc (z.out.below J)
 replace o:=zc (o.out.below J)
 have aq:=zc (ac.out.below J)
 have ai:=zc (Y.out.later J)
 clear J ac Y
 clear a0 a1 a2 a3 a4 a5 a6 a7 a8 a9 L N af
 obtain⟨a0,a1,a2,a3,a4,a5,a6,a7,a8,a9,L,N,af⟩:=z.out.box
 go_wp2_with fail
 refine (zaT (Cx.mk H j true) I E D (.ok q) S q (-1) 0 sPrint _ (zab q) ai.out).mono ?_
 rintro e w4 ⟨S4,q4,z4,rfl,i4,m4,s4⟩
 replace z:=zc (z.out.stp s4)
 replace o:=zc (o.out.stp s4)
 have aw:=zc (aq.out.step s4)
 clear aq
 have au:=zc m4
 have aE:=zc i4
 clear i4 m4 s4 ai
 clear a0 a1 a2 a3 a4 a5 a6 a7 a8 a9 L N af
 go_wp2_with fail
 refine (zah (Cx.mk H j true) I E D _ S4 q4 z4 0 cOpen _ aE.out au.out).mono ?_
 rintro e w5 ⟨S5,q5,z5,rfl,i5,m5,s5⟩
 replace z:=zc (z.out.stp s5)
 replace o:=zc (o.out.stp s5)
 have ab:=zc (aw.out.step s5)
 clear aw
 have an:=zc m5
 have az:=zc i5
 clear i5 m5 s5 au
 go_wp2_with fail
 refine (zdp (Cx.mk H j true) I E D _ S5 q5 z5 _ az.out an.out).mono ?_
 rintro e w6 ⟨S6,q6,z6,rfl,i6,m6,s6⟩
 replace z:=zc (z.out.stp s6)
 replace o:=zc (o.out.stp s6)
 have am:=zc (ab.out.step s6)
 clear ab
 have ag:=zc m6
 have aB:=zc i6
 clear i6 m6 s6 an
 go_wp2_with fail
 refine (zah (Cx.mk H j true) I E D _ S6 q6 z6 0 zU _ aB.out ag.out).mono ?_
 rintro e w7 ⟨Z,q7,z7,rfl,i7,m7,s7⟩
 replace z:=zc (z.out.stp s7)
 replace o:=zc (o.out.stp s7)
 have aa:=zc (am.out.step s7)
 clear am
 have V:=zc m7
 have aC:=zc i7
 clear i7 m7 s7 ag
 have aF:w.heap.size+1<w7.heap.size:=o.out.lt
 unfold pv
 go_upto_region 13 with fail
 refine zQ (R:=fun W=>Bx I Z W (w.heap.size) _∧Bx I Z W (w.heap.size+1) _∧Bx I Z W (w7.heap.size) _∧Mem (Cx.mk H j true) I E D Z q7 W∧SB w.heap.size S w Z W) ⟨(z.out.alloc _),(o.out.alloc _),(Bx.new V.out _),(V.out.alloc _),(aa.out.alloc _)⟩ ?_
 clear z o aa V
 rintro w8 ⟨X0,X1,X2,m8,t8⟩
 have z:=zc X0
 have o:=zc X1
 have K:=zc X2
 have av:=zc m8
 have ao:=zc t8
 clear m8 t8 X0 X1 X2
 obtain⟨c0,c1,c2,c3,c4,c5,c6,c7,c8,c9,aD,aA,cf⟩:=K.out.box
 go_wp2_with fail
 refine (zah (Cx.mk H j true) I E D _ Z q7 z7 0 cSemi _ aC.out av.out).mono ?_
 rintro e w9 ⟨S9,q9,z9,rfl,i9,m9,s9⟩
 replace z:=zc (z.out.stp s9)
 replace o:=zc (o.out.stp s9)
 replace K:=zc (K.out.stp s9)
 have al:=zc (ao.out.step s9)
 clear ao
 have ap:=zc m9
 have ax:=zc i9
 clear i9 m9 s9 av
 clear c0 c1 c2 c3 c4 c5 c6 c7 c8 c9 aD aA cf
 go_wp2_with fail
 refine (zcY (Cx.mk H j true) I E D _ S9 q9 z9 0 4 sNone _ ax.out ap.out (zb5 ax.out)).mono ?_
 rintro e aJ ⟨aG,aH,aL,rfl,ae,ad,O⟩
 replace z:=zc (z.out.stp O)
 replace o:=zc (o.out.stp O)
 replace K:=zc (K.out.stp O)
 have ar:=zc (al.out.step O)
 clear al
 have ak:=zc ad
 have aj:=zc ae
 clear ae ad O ap
 obtain⟨b0,b1,b2,b3,b4,b5,b6,b7,b8,b9,aI,aK,bf⟩:=o.out.box
 unfold pv
 go_wp2
 refine bodyPost_ret (results_cell_row rfl _ _ (w.heap.size+1) 55 _ (0,0) _ rfl ((o.out.put ..)).heap Tryz.underlying55 rfl (by kernel_rfl)) rfl ?_
 rw[HV.out]
 exact zac rfl aj.out (ak.out.put o.out ..) (ar.out.put (by omega) ..)
theorem zvo (H:List Tk) (j:Nat) (M E D:Nat) (S:Sv) (q:PS) (w:World) (hm:Mem (Cx.mk H j true) M E D S q w) (h0:isT (Cx.mk H j true) q.pos 1 sLet=false) (h1:isT (Cx.mk H j true) q.pos 1 sFunction=false) (h2:isT (Cx.mk H j true) q.pos 1 sPrint=false) (h3:isT (Cx.mk H j true) q.pos 1 sThrow=true):
  Calls Tryz.prog 21 #[pv (Cx.mk H j true) M E S q (-1) 0] w (Out (Cx.mk H j true) M E D (zo (Cx.mk H j true) q) 0 S w):=by
 have HM:=zc hm
 have Q:=hm.tok
 have K:(Cx.mk H j true).ts.length≤4000:=hm.few
 clear hm
 have HV:Hid (zo (Cx.mk H j true) q=bd (bd (bd (bd (.ok q) (zd (Cx.mk H j true) 1 sThrow)) (pE (Cx.mk H j true) .sum 0)) (zd (Cx.mk H j true) 4 cSemi)) (zE (Cx.mk H j true) 5 sNone)):=by show zo (Cx.mk H j true) q=_;rw[zo,h0,h1,h2,h3];rfl
 unfold pv
 go_enter Tryz.func21,Tryz.ntmps21
 go_wp2_with fail
 refine (zj (Cx.mk H j true) M E D S q (-1) 0 1 sLet _ (zv (zv Q _) _) K (by decide)).mono ?_
 rintro e w1 ⟨rfl,ai⟩
 rw[h0]
 obtain⟨X0,X1,m1,t1⟩:=HM.out.two ai
 have o:=zc X0
 have z:=zc X1
 have aa:=zc m1
 have ap:=zc t1
 clear X0 X1 m1 t1 ai
 clear Q
 obtain⟨a0,a1,U,V,X,a5,a6,Z,a8,a9,I,J,af⟩:=o.out.box
 go_wp2_with fail
 refine (zj (Cx.mk H j true) M E D S q (-1) 0 1 sFunction _ aa.out.tok K (by decide)).mono ?_
 rintro e w2 ⟨rfl,O⟩
 rw[h1]
 replace o:=zc (o.out.below O)
 replace z:=zc (z.out.below O)
 have ag:=zc (ap.out.below O)
 have ab:=zc (aa.out.later O)
 clear O ap aa
 clear a0 a1 U V X a5 a6 Z a8 a9 I J af
 obtain⟨a0,a1,U,V,X,a5,a6,Z,a8,a9,I,J,af⟩:=o.out.box
 go_wp2_with fail
 refine (zj (Cx.mk H j true) M E D S q (-1) 0 1 sPrint _ ab.out.tok K (by decide)).mono ?_
 rintro e w3 ⟨rfl,L⟩
 rw[h2]
 replace o:=zc (o.out.below L)
 replace z:=zc (z.out.below L)
 have am:=zc (ag.out.below L)
 have Y:=zc (ab.out.later L)
 clear L ag ab
 clear a0 a1 U V X a5 a6 Z a8 a9 I J af
 obtain⟨a0,a1,U,V,X,a5,a6,Z,a8,a9,I,J,af⟩:=o.out.box
 go_wp2_with fail
 refine (zj (Cx.mk H j true) M E D S q (-1) 0 1 sThrow _ Y.out.tok K (by decide)).mono ?_
 rintro e w4 ⟨rfl,N⟩
 rw[h3]
 replace o:=zc (o.out.below N)
 replace z:=zc (z.out.below N)
 have ao:=zc (am.out.below N)
 have an:=zc (Y.out.later N)
 clear N am Y
 clear a0 a1 U V X a5 a6 Z a8 a9 I J af
 obtain⟨a0,a1,U,V,X,a5,a6,Z,a8,a9,I,J,af⟩:=o.out.box
 go_wp2_with fail
 refine (zaT (Cx.mk H j true) M E D (.ok q) S q (-1) 0 sThrow _ (zab q) an.out).mono ?_
 rintro e w5 ⟨S5,q5,z5,rfl,i5,m5,s5⟩
 replace o:=zc (o.out.stp s5)
 replace z:=zc (z.out.stp s5)
 have ad:=zc (ao.out.step s5)
 clear ao
 have al:=zc m5
 have ar:=zc i5
 clear i5 m5 s5 an
 clear a0 a1 U V X a5 a6 Z a8 a9 I J af
 go_wp2_with fail
 refine (zdp (Cx.mk H j true) M E D _ S5 q5 z5 _ ar.out al.out).mono ?_
 rintro e w6 ⟨S6,q6,z6,rfl,i6,m6,s6⟩
 replace o:=zc (o.out.stp s6)
 replace z:=zc (z.out.stp s6)
 have aj:=zc (ad.out.step s6)
 clear ad
 have ah:=zc m6
 have au:=zc i6
 clear i6 m6 s6 al
 go_wp2_with fail
 refine (zah (Cx.mk H j true) M E D _ S6 q6 z6 0 cSemi _ au.out ah.out).mono ?_
 rintro e w7 ⟨S7,q7,z7,rfl,i7,m7,s7⟩
 replace o:=zc (o.out.stp s7)
 replace z:=zc (z.out.stp s7)
 have ac:=zc (aj.out.step s7)
 clear aj
 have ae:=zc m7
 have ak:=zc i7
 clear i7 m7 s7 ah
 go_wp2_with fail
 refine (zcY (Cx.mk H j true) M E D _ S7 q7 z7 0 5 sNone _ ak.out ae.out (zb5 ak.out)).mono ?_
 rintro e w8 ⟨S8,q8,z8,rfl,i8,m8,s8⟩
 replace o:=zc (o.out.stp s8)
 replace z:=zc (z.out.stp s8)
 have av:=zc (ac.out.step s8)
 clear ac
 have aw:=zc m8
 have aq:=zc i8
 clear i8 m8 s8 ae
 obtain⟨b0,b1,b2,b3,b4,b5,b6,b7,b8,b9,ax,ay,bf⟩:=z.out.box
 unfold pv
 go_wp2
 refine bodyPost_ret (results_cell_row rfl _ _ (w.heap.size+1) 55 _ (0,0) _ rfl ((z.out.put ..)).heap Tryz.underlying55 rfl (by kernel_rfl)) rfl ?_
 rw[HV.out]
 exact zac rfl aq.out (aw.out.put z.out ..) (av.out.put (by omega) ..)
theorem zvp (H:List Tk) (j:Nat) (L E D:Nat) (S:Sv) (q:PS) (w:World) (hm:Mem (Cx.mk H j true) L E D S q w) (h0:isT (Cx.mk H j true) q.pos 1 sLet=false) (h1:isT (Cx.mk H j true) q.pos 1 sFunction=false) (h2:isT (Cx.mk H j true) q.pos 1 sPrint=false) (h3:isT (Cx.mk H j true) q.pos 1 sThrow=false) (h4:isT (Cx.mk H j true) q.pos 1 sFail=true):
  Calls Tryz.prog 21 #[pv (Cx.mk H j true) L E S q (-1) 0] w (Out (Cx.mk H j true) L E D (zo (Cx.mk H j true) q) 0 S w):=by
 have HM:=zc hm
 have aa:=hm.tok
 have K:(Cx.mk H j true).ts.length≤4000:=hm.few
 clear hm
 have HV:Hid (zo (Cx.mk H j true) q=bd (bd (bd (bd (.ok q) (zd (Cx.mk H j true) 1 sFail)) (pE (Cx.mk H j true) .sum 0)) (zd (Cx.mk H j true) 4 cSemi)) (zE (Cx.mk H j true) 6 sNone)):=by show zo (Cx.mk H j true) q=_;rw[zo,h0,h1,h2,h3,h4];rfl
 unfold pv
 go_enter Tryz.func21,Tryz.ntmps21
 go_wp2_with fail
 refine (zj (Cx.mk H j true) L E D S q (-1) 0 1 sLet _ (zv (zv aa _) _) K (by decide)).mono ?_
 rintro e w1 ⟨rfl,am⟩
 rw[h0]
 obtain⟨X0,X1,m1,t1⟩:=HM.out.two am
 have o:=zc X0
 have z:=zc X1
 have ad:=zc m1
 have av:=zc t1
 clear X0 X1 m1 t1 am
 clear aa
 obtain⟨a0,a1,U,V,X,a5,a6,Y,Z,a9,I,J,af⟩:=o.out.box
 go_wp2_with fail
 refine (zj (Cx.mk H j true) L E D S q (-1) 0 1 sFunction _ ad.out.tok K (by decide)).mono ?_
 rintro e w2 ⟨rfl,Q⟩
 rw[h1]
 replace o:=zc (o.out.below Q)
 replace z:=zc (z.out.below Q)
 have ak:=zc (av.out.below Q)
 have ae:=zc (ad.out.later Q)
 clear Q av ad
 clear a0 a1 U V X a5 a6 Y Z a9 I J af
 obtain⟨a0,a1,U,V,X,a5,a6,Y,Z,a9,I,J,af⟩:=o.out.box
 go_wp2_with fail
 refine (zj (Cx.mk H j true) L E D S q (-1) 0 1 sPrint _ ae.out.tok K (by decide)).mono ?_
 rintro e w3 ⟨rfl,M⟩
 rw[h2]
 replace o:=zc (o.out.below M)
 replace z:=zc (z.out.below M)
 have aq:=zc (ak.out.below M)
 have ab:=zc (ae.out.later M)
 clear M ak ae
 clear a0 a1 U V X a5 a6 Y Z a9 I J af
 obtain⟨a0,a1,U,V,X,a5,a6,Y,Z,a9,I,J,af⟩:=o.out.box
 go_wp2_with fail
 refine (zj (Cx.mk H j true) L E D S q (-1) 0 1 sThrow _ ab.out.tok K (by decide)).mono ?_
 rintro e w4 ⟨rfl,O⟩
 rw[h3]
 replace o:=zc (o.out.below O)
 replace z:=zc (z.out.below O)
 have au:=zc (aq.out.below O)
 have ac:=zc (ab.out.later O)
 clear O aq ab
 clear a0 a1 U V X a5 a6 Y Z a9 I J af
 obtain⟨a0,a1,U,V,X,a5,a6,Y,Z,a9,I,J,af⟩:=o.out.box
 go_wp2_with fail
 refine (zj (Cx.mk H j true) L E D S q (-1) 0 1 sFail _ ac.out.tok K (by decide)).mono ?_
 rintro e w5 ⟨rfl,N⟩
 rw[h4]
 replace o:=zc (o.out.below N)
 replace z:=zc (z.out.below N)
 have ai:=zc (au.out.below N)
 have ao:=zc (ac.out.later N)
 clear N au ac
 clear a0 a1 U V X a5 a6 Y Z a9 I J af
 obtain⟨a0,a1,U,V,X,a5,a6,Y,Z,a9,I,J,af⟩:=o.out.box
 go_wp2_with fail
 refine (zaT (Cx.mk H j true) L E D (.ok q) S q (-1) 0 sFail _ (zab q) ao.out).mono ?_
 rintro e w6 ⟨S6,q6,z6,rfl,i6,m6,s6⟩
 replace o:=zc (o.out.stp s6)
 replace z:=zc (z.out.stp s6)
 have an:=zc (ai.out.step s6)
 clear ai
 have al:=zc m6
 have aw:=zc i6
 clear i6 m6 s6 ao
 clear a0 a1 U V X a5 a6 Y Z a9 I J af
 go_wp2_with fail
 refine (zdp (Cx.mk H j true) L E D _ S6 q6 z6 _ aw.out al.out).mono ?_
 rintro e w7 ⟨S7,q7,z7,rfl,i7,m7,s7⟩
 replace o:=zc (o.out.stp s7)
 replace z:=zc (z.out.stp s7)
 have ag:=zc (an.out.step s7)
 clear an
 have aj:=zc m7
 have ay:=zc i7
 clear i7 m7 s7 al
 go_wp2_with fail
 refine (zah (Cx.mk H j true) L E D _ S7 q7 z7 0 cSemi _ ay.out aj.out).mono ?_
 rintro e w8 ⟨S8,q8,z8,rfl,i8,m8,s8⟩
 replace o:=zc (o.out.stp s8)
 replace z:=zc (z.out.stp s8)
 have ap:=zc (ag.out.step s8)
 clear ag
 have ar:=zc m8
 have ah:=zc i8
 clear i8 m8 s8 aj
 go_wp2_with fail
 refine (zcY (Cx.mk H j true) L E D _ S8 q8 z8 0 6 sNone _ ah.out ar.out (zb5 ah.out)).mono ?_
 rintro e w9 ⟨S9,q9,z9,rfl,i9,m9,s9⟩
 replace o:=zc (o.out.stp s9)
 replace z:=zc (z.out.stp s9)
 have ax:=zc (ap.out.step s9)
 clear ap
 have az:=zc m9
 have aA:=zc i9
 clear i9 m9 s9 ar
 obtain⟨b0,b1,b2,b3,b4,b5,b6,b7,b8,b9,aB,aC,bf⟩:=z.out.box
 unfold pv
 go_wp2
 refine bodyPost_ret (results_cell_row rfl _ _ (w.heap.size+1) 55 _ (0,0) _ rfl ((z.out.put ..)).heap Tryz.underlying55 rfl (by kernel_rfl)) rfl ?_
 rw[HV.out]
 exact zac rfl aA.out (az.out.put z.out ..) (ax.out.put (by omega) ..)
theorem zvq (E:List Tk) (j:Nat) (L H D:Nat) (S:Sv) (q:PS) (w:World) (hm:Mem (Cx.mk E j true) L H D S q w) (h0:isT (Cx.mk E j true) q.pos 1 sLet=false) (h1:isT (Cx.mk E j true) q.pos 1 sFunction=false) (h2:isT (Cx.mk E j true) q.pos 1 sPrint=false) (h3:isT (Cx.mk E j true) q.pos 1 sThrow=false) (h4:isT (Cx.mk E j true) q.pos 1 sFail=false):
  Calls Tryz.prog 21 #[pv (Cx.mk E j true) L H S q (-1) 0] w (Out (Cx.mk E j true) L H D (zo (Cx.mk E j true) q) 0 S w):=by
 have HM:=zc hm
 have aa:=hm.tok
 have M:(Cx.mk E j true).ts.length≤4000:=hm.few
 clear hm
 have HV:Hid (zo (Cx.mk E j true) q=bd (bd (.ok q) (zk (Cx.mk E j true) false)) fun a=>bd (bd (bd (bd (.ok a.1) (zd (Cx.mk E j true) 4 cEq)) (pE (Cx.mk E j true) .sum 0)) (zd (Cx.mk E j true) 4 cSemi)) (zE (Cx.mk E j true) 3 a.2)):=by show zo (Cx.mk E j true) q=_;rw[zo,h0,h1,h2,h3,h4];rfl
 unfold pv
 go_enter Tryz.func21,Tryz.ntmps21
 go_wp2_with fail
 refine (zj (Cx.mk E j true) L H D S q (-1) 0 1 sLet _ (zv (zv aa _) _) M (by decide)).mono ?_
 rintro e w1 ⟨rfl,aw⟩
 rw[h0]
 obtain⟨X0,X1,m1,t1⟩:=HM.out.two aw
 have o:=zc X0
 have z:=zc X1
 have ai:=zc m1
 have aH:=zc t1
 clear X0 X1 m1 t1 aw
 clear aa
 obtain⟨a0,a1,Y,Z,a4,a5,a6,a7,a8,a9,J,K,af⟩:=o.out.box
 go_wp2_with fail
 refine (zj (Cx.mk E j true) L H D S q (-1) 0 1 sFunction _ ai.out.tok M (by decide)).mono ?_
 rintro e w2 ⟨rfl,X⟩
 rw[h1]
 replace o:=zc (o.out.below X)
 replace z:=zc (z.out.below X)
 have aq:=zc (aH.out.below X)
 have aj:=zc (ai.out.later X)
 clear X aH ai
 clear a0 a1 Y Z a4 a5 a6 a7 a8 a9 J K af
 obtain⟨a0,a1,Y,Z,a4,a5,a6,a7,a8,a9,J,K,af⟩:=o.out.box
 go_wp2_with fail
 refine (zj (Cx.mk E j true) L H D S q (-1) 0 1 sPrint _ aj.out.tok M (by decide)).mono ?_
 rintro e w3 ⟨rfl,N⟩
 rw[h2]
 replace o:=zc (o.out.below N)
 replace z:=zc (z.out.below N)
 have aD:=zc (aq.out.below N)
 have ag:=zc (aj.out.later N)
 clear N aq aj
 clear a0 a1 Y Z a4 a5 a6 a7 a8 a9 J K af
 obtain⟨a0,a1,Y,Z,a4,a5,a6,a7,a8,a9,J,K,af⟩:=o.out.box
 go_wp2_with fail
 refine (zj (Cx.mk E j true) L H D S q (-1) 0 1 sThrow _ ag.out.tok M (by decide)).mono ?_
 rintro e w4 ⟨rfl,V⟩
 rw[h3]
 replace o:=zc (o.out.below V)
 replace z:=zc (z.out.below V)
 have aF:=zc (aD.out.below V)
 have ah:=zc (ag.out.later V)
 clear V aD ag
 clear a0 a1 Y Z a4 a5 a6 a7 a8 a9 J K af
 obtain⟨a0,a1,Y,Z,a4,a5,a6,a7,a8,a9,J,K,af⟩:=o.out.box
 go_wp2_with fail
 refine (zj (Cx.mk E j true) L H D S q (-1) 0 1 sFail _ ah.out.tok M (by decide)).mono ?_
 rintro e w5 ⟨rfl,Q⟩
 rw[h4]
 replace o:=zc (o.out.below Q)
 replace z:=zc (z.out.below Q)
 have am:=zc (aF.out.below Q)
 have aA:=zc (ah.out.later Q)
 clear Q aF ah
 clear a0 a1 Y Z a4 a5 a6 a7 a8 a9 J K af
 obtain⟨a0,a1,Y,Z,a4,a5,a6,a7,a8,a9,J,K,af⟩:=o.out.box
 go_wp2_with fail
 refine (zbz (Cx.mk E j true) L H D (.ok q) S q (-1) 0 false _ (zab q) aA.out).mono ?_
 rintro e w6 ⟨S6,q6,z6,n6,rfl,i6,m6,s6⟩
 replace o:=zc (o.out.stp s6)
 replace z:=zc (z.out.stp s6)
 have az:=zc (am.out.step s6)
 clear am
 have ae:=zc m6
 have ax:=zc i6
 clear i6 m6 s6 aA
 clear a0 a1 Y Z a4 a5 a6 a7 a8 a9 J K af
 have aP:w.heap.size+1<w6.heap.size:=z.out.lt
 unfold pv
 go_upto_region 19 with fail
 refine zQ (R:=fun W=>Bx L S6 W (w.heap.size) _∧Bx L S6 W (w.heap.size+1) _∧Bx L S6 W (w6.heap.size) _∧Mem (Cx.mk E j true) L H D S6 q6 W∧SB w.heap.size S w S6 W) ⟨(o.out.alloc _),(z.out.alloc _),(Bx.new ae.out _),(ae.out.alloc _),(az.out.alloc _)⟩ ?_
 clear o z az ae
 rintro w7 ⟨X0,X1,X2,m7,t7⟩
 have o:=zc X0
 have z:=zc X1
 have I:=zc X2
 have an:=zc m7
 have ak:=zc t7
 clear m7 t7 X0 X1 X2
 obtain⟨c0,c1,c2,c3,c4,c5,c6,c7,c8,c9,aM,aL,cf⟩:=I.out.box
 go_wp2_with fail
 refine (zah (Cx.mk E j true) L H D _ S6 q6 z6 0 cEq _ ax.out.fst an.out).mono ?_
 rintro e w8 ⟨S8,q8,z8,rfl,i8,m8,s8⟩
 replace o:=zc (o.out.stp s8)
 replace z:=zc (z.out.stp s8)
 replace I:=zc (I.out.stp s8)
 have aB:=zc (ak.out.step s8)
 clear ak
 have aE:=zc m8
 have aJ:=zc i8
 clear i8 m8 s8 an
 clear c0 c1 c2 c3 c4 c5 c6 c7 c8 c9 aM aL cf
 go_wp2_with fail
 refine (zdp (Cx.mk E j true) L H D _ S8 q8 z8 _ aJ.out aE.out).mono ?_
 rintro e w9 ⟨S9,q9,z9,rfl,i9,m9,s9⟩
 replace o:=zc (o.out.stp s9)
 replace z:=zc (z.out.stp s9)
 replace I:=zc (I.out.stp s9)
 have ay:=zc (aB.out.step s9)
 clear aB
 have aC:=zc m9
 have aO:=zc i9
 clear i9 m9 s9 aE
 go_wp2_with fail
 refine (zah (Cx.mk E j true) L H D _ S9 q9 z9 0 cSemi _ aO.out aC.out).mono ?_
 rintro e aT ⟨aI,aK,aN,rfl,av,au,U⟩
 replace o:=zc (o.out.stp U)
 replace z:=zc (z.out.stp U)
 replace I:=zc (I.out.stp U)
 have ad:=zc (ay.out.step U)
 clear ay
 have ac:=zc au
 have ab:=zc av
 clear av au U aC
 go_wp2_with fail
 refine (zcY (Cx.mk E j true) L H D _ aI aK aN 0 3 n6 _ ab.out ac.out (zb5 ab.out)).mono ?_
 rintro e aR ⟨aW,aQ,aV,rfl,ap,ao,O⟩
 replace o:=zc (o.out.stp O)
 replace z:=zc (z.out.stp O)
 replace I:=zc (I.out.stp O)
 have ar:=zc (ad.out.step O)
 clear ad
 have aG:=zc ao
 have al:=zc ap
 clear ap ao O ac
 obtain⟨b0,b1,b2,b3,b4,b5,b6,b7,b8,b9,aS,aU,bf⟩:=z.out.box
 unfold pv
 go_wp2
 refine bodyPost_ret (results_cell_row rfl _ _ (w.heap.size+1) 55 _ (0,0) _ rfl ((z.out.put ..)).heap Tryz.underlying55 rfl (by kernel_rfl)) rfl ?_
 rw[HV.out,←ax.out.bind (fun q n=>bd (bd (bd (bd (.ok q) (zd (Cx.mk E j true) 4 cEq)) (pE (Cx.mk E j true) .sum 0)) (zd (Cx.mk E j true) 4 cSemi)) (zE (Cx.mk E j true) 3 n)),←zmK]
 exact zac rfl al.out (aG.out.put z.out ..) (ar.out.put (by omega) ..)
theorem zvr (D:List Tk) (j:Nat) (E z o:Nat) (S:Sv) (q:PS) (w:World) (H:Mem (Cx.mk D j true) E z o S q w):
  Calls Tryz.prog 21 #[pv (Cx.mk D j true) E z S q (-1) 0] w (Out (Cx.mk D j true) E z o (zo (Cx.mk D j true) q) 0 S w):=by
 cases I:isT (Cx.mk D j true) q.pos 1 sLet with
 |true=>exact zvl D j E z o S q w H I
 |false=>
  cases J:isT (Cx.mk D j true) q.pos 1 sFunction with
  |true=>exact zvm D j E z o S q w H I J
  |false=>
   cases K:isT (Cx.mk D j true) q.pos 1 sPrint with
   |true=>exact zvn D j E z o S q w H I J K
   |false=>
    cases L:isT (Cx.mk D j true) q.pos 1 sThrow with
    |true=>exact zvo D j E z o S q w H I J K L
    |false=>
     cases M:isT (Cx.mk D j true) q.pos 1 sFail with
     |true=>exact zvp D j E z o S q w H I J K L M
     |false=>
      exact zvq D j E z o S q w H I J K L M
end Go.Proofs.YthfeoomfiafldaaGreat
