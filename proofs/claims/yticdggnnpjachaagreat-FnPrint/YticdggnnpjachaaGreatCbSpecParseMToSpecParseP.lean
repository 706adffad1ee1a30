/-
  What spec's l4Import answers: the walks.
  What spec's l4Export answers: the walks.
  What spec's l4Export answers to a list of names: the walks.
  What spec's l4Item answers: the walks.
-/
import Derived.Test.YticdggnnpjachaaGreatCbSpecRowToSpecParseK
namespace Go.Proofs.YticdggnnpjachaaGreat
set_option maxRecDepth 100000
set_option maxHeartbeats 6400000
open Go.RowKit Go.PlainAid
theorem zcO {C:Cx} {k:Int} {s:ByteArray} {q n:PS} {j:Int} (h:Is (bd (.ok q) (zd C k s)) n j) (o:isT C q.pos k s=true):n=adv q∧j= -1:=by
 rw[zz,zd,if_pos o] at h
 exact h
theorem zeR {α:Type} (f:α→PS→PR) (l:List α) (e:Nat):zP f l (.error e)= .error e:=by
 induction l with
 |nil=>rfl
 |cons a l j=>exact j
theorem zf7 {α:Type} (f:α→PS→PR) (l:List α) (x:PR) {k:Nat} (j:k<l.length):zP f (l.drop k) x=zP f (l.drop (k+1)) (bd x (f (l[k]))):=by
 rw[List.drop_eq_getElem_cons j]
 rfl
theorem ziL {C:Cx} {j:PRN} {E D:PS} {K I:Int} {z o:ByteArray} {G:ByteArray→ByteArray→PS→PR} (H:Is2 j E K z) (n:Is2 (bd (bd (zaK j) (zd C 1 zU)) (zH C)) D I o):
  bd (bd (zaK (bd (bd (zaK j) (zd C 1 zU)) (zH C))) (zd C 4 cSemi)) (G o z)=bd j fun a=>bd (zaR C (zaE C (.ok a.1))) fun b=>G b.2 a.2 b.1:=by
 cases j with
 |error e=>rfl
 |ok a=>
  obtain⟨_,_,rfl⟩:=H
  have J:bd (bd (zaK (.ok a)) (zd C 1 zU)) (zH C)=zaE C (.ok a.1):=rfl
  rw[J] at n ⊢
  rw[zz]
  cases A:zaE C (.ok a.1) with
  |error e=>rfl
  |ok b=>
   rw[A] at n
   obtain⟨_,_,rfl⟩:=n
   show bd (zd C 4 cSemi b.1) (G b.2 a.2)=bd (bd (zd C 4 cSemi b.1) fun q=>.ok (q,b.2)) fun b=>G b.2 a.2 b.1
   rw[zM]
   rfl
def zeS (y:PRL):PR:=bd y fun a=>.ok a.1
theorem Is3.fst {y:PRL} {q:PS} {z:Int} {l:List Ep} (h:Is3 y q z l):Is (zeS y) q z:=by
 cases y with
 |ok a=>exact⟨h.1,h.2.1⟩
 |error e=>exact h
theorem zgI {C:Cx} {y:PRL} {A z:PS} {I E:Int} {l:List Ep} {n:ByteArray} {G:ByteArray→Ep→PS→PR} (D:Is3 y A I l) (j:Is2 (bd (bd (zeS y) (zd C 1 zU)) (zH C)) z E n):
  zP (G n) l (bd (zaK (bd (bd (zeS y) (zd C 1 zU)) (zH C))) (zd C 4 cSemi))=bd y fun a=>bd (zaR C (zaE C (.ok a.1))) fun b=>zP (G b.2) a.2 (.ok b.1):=by
 cases y with
 |error e=>exact zeR _ _ _
 |ok a=>
  obtain⟨_,_,rfl⟩:=D
  have H:bd (bd (zeS (.ok a)) (zd C 1 zU)) (zH C)=zaE C (.ok a.1):=rfl
  rw[H] at j ⊢
  rw[zz]
  cases o:zaE C (.ok a.1) with
  |error e=>exact zeR _ _ _
  |ok b=>
   rw[o] at j
   obtain⟨_,_,rfl⟩:=j
   show zP (G b.2) a.2 (bd (zaK (.ok b)) (zd C 4 cSemi))=bd (bd (zd C 4 cSemi b.1) fun q=>.ok (q,b.2)) fun b=>zP (G b.2) a.2 (.ok b.1)
   have J:bd (zaK (.ok b)) (zd C 4 cSemi)=zd C 4 cSemi b.1:=rfl
   rw[J,zM]
   cases zd C 4 cSemi b.1 with
   |error e=>exact zeR _ _ _
   |ok c=>rfl
theorem Mem.drew {C:Cx} {o n j:Nat} {S:Sv} {q:PS} {w:World} (h:Mem C o n j S q w):Mem C o n j S q w.drew:=⟨⟨h.own.rq,h.own.im,h.own.ep,h.own.st,h.own.ex,h.own.la,h.own.apart⟩,h.inv,h.tok,h.few,h.base⟩
theorem Stp.undrew {S n:Sv} {w j:World} (h:Stp S w.drew n j):Stp S w n j:=⟨h.os,h.tape,h.output,h.size,h.block,h.sub⟩
theorem Row.cells {S:Sv} {w:World} {n B g:Nat} {r:Rw} {l:List Ep} (h:Row S w n B r l) (H:r.a=some ⟨g,0,none⟩) {j:Nat} (D:j<l.length):
  w.cell? ⟨g,j*4+1,none⟩=some (.string (l[j]).name)∧w.cell? ⟨g,j*4+2,none⟩=some (.string (l[j]).loc):=by
 have q:=h.own
 unfold OwnR at q
 rw[H] at q
 have o: ∀(l:List Ep) (i c:Nat) (A:c<4) (z:i<l.length),(l.flatMap epL)[i*4+c]? =(epL l[i])[c]?:=by
  intro l
  induction l with
  |nil=>intro i c _ z;simp at z
  |cons x l E=>
   intro i c A z
   match i with
   |0=>
    simp only[List.flatMap_cons,Nat.zero_mul,Nat.zero_add,List.getElem_cons_zero]
    rw[List.getElem?_append_left (by simp[epL];omega)]
   |i+1=>
    simp only[List.flatMap_cons,List.getElem_cons_succ]
    rw[List.getElem?_append_right (by simp[epL];omega)]
    have e:(i+1)*4+c-(epL x).length=i*4+c:=by simp[epL];omega
    rw[e]
    exact E i c A (by simpa using z)
 rw[q.cellAt _ (by omega),q.cellAt _ (by omega)]
 exact⟨o l j 1 (by omega) D,o l j 2 (by omega) D⟩
theorem zn1 {C:Cx} {y:Im} {x:PR} {q q':PS} {z z':Int} (D:z<0→1≤q.pos) (n:Is x q z) (h:Is (bd x (zak C y)) q' z'):z'<0→1≤q'.pos:=by
 intro o
 obtain⟨e,_⟩:=zaC h o
 obtain⟨a,A,j⟩:=zf e
 subst A
 obtain⟨rfl,rfl⟩:=n
 unfold zak at j
 split at j
 ·cases j
 ·cases j
  exact D (by decide)
theorem zgJ {C:Cx} {y:Ep} {x:PR} {q q':PS} {z z':Int} (n:z<0→1≤q.pos) (o:Is x q z) (h:Is (bd x (zo C y)) q' z'):z'<0→1≤q'.pos:=by
 intro A
 obtain⟨e,_⟩:=zaC h A
 obtain⟨a,D,j⟩:=zf e
 subst D
 obtain⟨rfl,rfl⟩:=o
 unfold zo at j
 split at j
 ·cases j
 ·split at j
  ·cases j
   exact n (by decide)
  ·cases j
   exact n (by decide)
theorem zn2 (C:Cx) (D z o:Nat) (S:Sv) (q:PS) (w:World) (hm:Mem C D z o S q w) (hw:isT C q.pos 1 zah=true) (h1:isT C (q.pos+1) 4 zJ=false) (h2:isT C (q.pos+1) 4 zw=true):
  Calls Tryz.prog 70 #[pv C D z S q (-1) 0] w (Out C D z o (zaQ C q) 0 S w):=by
 have HM:=zc hm
 have ad:=hm.few
 clear hm
 have HV:Hid (zaQ C q=bd (bd (bd (bd (.ok (adv q)) (zd C 4 zw)) (zd C 1 sAs)) (zj C false)) fun a=>bd (zaR C (zaE C (.ok a.1))) fun b=>zak C ⟨b.2,zw,a.2⟩ b.1):=by
  show _=_
  rw[zaQ,zd,if_pos hw,zz]
  rw[zx,h1,h2]
  rfl
 unfold pv
 go_enter Tryz.func70,Tryz.ntmps70
 go_wp2_with fail
 refine (zaH C D z o (.ok q) S q (-1) 0 zah _ (zX q) ((HM.out.alloc _).alloc _)).mono ?_
 rintro e w1 ⟨S1,q1,z1,rfl,i1,m1,s1⟩
 obtain⟨L,O,t1⟩:=HM.out.two2 s1
 have n:=zc L
 have j:=zc O
 have aI:=zc m1
 have ao:=zc t1
 have aJ:=zc i1
 clear L O i1 m1 t1 s1
 obtain⟨ag,rfl⟩:=zcO aJ.out hw
 have HQ:=zc ag
 have ah:Hid (q1.pos=q.pos+1):=by show q1.pos=q.pos+1;rw[ag];rfl
 clear ag aJ
 obtain⟨a0,a1,a2,a3,a4,a5,a6,a7,a8,a9,H,E,af⟩:=n.out.box
 unfold pv
 go_upto_region 2 with fail
 refine zL (R:=fun W=>Bx D S1 W (w.heap.size) _∧Bx D S1 W (w.heap.size+1) _∧Mem C D z o S1 q1 W∧SB w.heap.size S w S1 W) ⟨(n.out.put ..),(j.out.other (by omega) ..),(aI.out.put n.out ..),(ao.out.put (by omega) ..)⟩ ?_
 clear a0 a1 a2 a3 a4 a5 a6 a7 a8 a9 H E af
 clear n j ao aI
 rintro w2 ⟨L,O,m2,t2⟩
 have n:=zc L
 have j:=zc O
 have ak:=zc m2
 have ap:=zc t2
 clear m2 t2 L O
 obtain⟨a0,a1,a2,a3,a4,a5,a6,a7,a8,a9,H,E,af⟩:=n.out.box
 go_wp2_with fail
 refine (zh C D z o S1 q1 (-1) 0 4 zJ _ ak.out.tok ad (by decide)).mono ?_
 rintro e w3 ⟨rfl,V⟩
 rw[ah.out,h1]
 replace n:=zc (n.out.below V)
 replace j:=zc (j.out.below V)
 have ax:=zc (ap.out.below V)
 have al:=zc (ak.out.later V)
 clear V ap ak
 clear a0 a1 a2 a3 a4 a5 a6 a7 a8 a9 H E af
 obtain⟨a0,a1,a2,a3,a4,a5,a6,a7,a8,a9,H,E,af⟩:=n.out.box
 go_wp2_with fail
 refine (zh C D z o S1 q1 (-1) 0 4 zw _ al.out.tok ad (by decide)).mono ?_
 rintro e w4 ⟨rfl,U⟩
 rw[ah.out,h2]
 replace n:=zc (n.out.below U)
 replace j:=zc (j.out.below U)
 have an:=zc (ax.out.below U)
 have aD:=zc (al.out.later U)
 clear U ax al
 clear a0 a1 a2 a3 a4 a5 a6 a7 a8 a9 H E af
 obtain⟨a0,a1,a2,a3,a4,a5,a6,a7,a8,a9,H,E,af⟩:=n.out.box
 clear ah
 go_wp2_with fail
 refine (zad C D z o (.ok q1) S1 q1 (-1) 0 zw _ (zX q1) aD.out).mono ?_
 rintro e w5 ⟨S5,q5,z5,rfl,i5,m5,s5⟩
 replace n:=zc (n.out.stp s5)
 replace j:=zc (j.out.stp s5)
 have am:=zc (an.out.step s5)
 clear an
 have aL:=zc m5
 have aT:=zc i5
 clear i5 m5 s5 aD
 clear a0 a1 a2 a3 a4 a5 a6 a7 a8 a9 H E af
 go_wp2_with fail
 refine (zaH C D z o _ S5 q5 z5 0 sAs _ aT.out aL.out).mono ?_
 rintro e w6 ⟨S6,q6,z6,rfl,i6,m6,s6⟩
 replace n:=zc (n.out.stp s6)
 replace j:=zc (j.out.stp s6)
 have aC:=zc (am.out.step s6)
 clear am
 have av:=zc m6
 have aZ:=zc i6
 clear i6 m6 s6 aL
 go_wp2_with fail
 refine (zbe C D z o _ S6 q6 z6 0 false _ aZ.out av.out).mono ?_
 rintro e w7 ⟨S7,q7,z7,n7,rfl,i7,m7,s7⟩
 replace n:=zc (n.out.stp s7)
 replace j:=zc (j.out.stp s7)
 have aG:=zc (aC.out.step s7)
 clear aC
 have aj:=zc m7
 have aB:=zc i7
 clear i7 m7 s7 av
 have bg:w.heap.size+1<w7.heap.size:=j.out.lt
 unfold pv
 go_upto_region 13 with fail
 refine zL (R:=fun W=>Bx D S7 W (w.heap.size) _∧Bx D S7 W (w.heap.size+1) _∧Bx D S7 W (w7.heap.size) _∧Mem C D z o S7 q7 W∧SB w.heap.size S w S7 W) ⟨(n.out.alloc _),(j.out.alloc _),(Bx.new aj.out _),(aj.out.alloc _),(aG.out.alloc _)⟩ ?_
 clear n j aG aj
 rintro w8 ⟨L,O,X2,m8,t8⟩
 have n:=zc L
 have j:=zc O
 have A:=zc X2
 have aQ:=zc m8
 have aM:=zc t8
 clear m8 t8 L O X2
 obtain⟨c0,c1,c2,c3,c4,c5,c6,c7,c8,c9,aW,ba,cf⟩:=A.out.box
 go_wp2_with fail
 refine (zaH C D z o _ S7 q7 z7 0 zU _ aB.out.fst aQ.out).mono ?_
 rintro e w9 ⟨S9,q9,z9,rfl,i9,m9,s9⟩
 replace n:=zc (n.out.stp s9)
 replace j:=zc (j.out.stp s9)
 replace A:=zc (A.out.stp s9)
 have aK:=zc (aM.out.step s9)
 clear aM
 have aN:=zc m9
 have aY:=zc i9
 clear i9 m9 s9 aQ
 clear c0 c1 c2 c3 c4 c5 c6 c7 c8 c9 aW ba cf
 go_wp2_with fail
 refine (zdA C D z o _ S9 q9 z9 0 _ aY.out aN.out).mono ?_
 rintro e ai ⟨I,az,aU,aX,rfl,aw,aO,M⟩
 replace n:=zc (n.out.stp M)
 replace j:=zc (j.out.stp M)
 replace A:=zc (A.out.stp M)
 have Z:=zc (aK.out.step M)
 clear aK
 have Q:=zc aO
 have ab:=zc aw
 clear aw aO M aN
 have bi:w.heap.size+1<ai.heap.size:=j.out.lt
 have aR:w7.heap.size<ai.heap.size:=A.out.lt
 unfold pv
 go_upto_region 14 with fail
 refine zL (R:=fun W=>Bx D I W (w.heap.size) _∧Bx D I W (w.heap.size+1) _∧Bx D I W (w7.heap.size) _∧Bx D I W (ai.heap.size) _∧Mem C D z o I az W∧SB w.heap.size S w I W) ⟨(n.out.alloc _),(j.out.alloc _),(A.out.alloc _),(Bx.new Q.out _),(Q.out.alloc _),(Z.out.alloc _)⟩ ?_
 clear n j A Z Q
 rintro bp ⟨L,O,X2,X3,ar,aP⟩
 have n:=zc L
 have j:=zc O
 have A:=zc X2
 have N:=zc X3
 have Y:=zc ar
 have ac:=zc aP
 clear ar aP L O X2 X3
 obtain⟨d0,d1,d2,d3,d4,d5,d6,d7,d8,d9,be,bb,df⟩:=N.out.box
 go_wp2_with fail
 refine (zad C D z o _ I az aU 0 cSemi _ ab.out.fst Y.out).mono ?_
 rintro e bq ⟨bc,aS,aV,rfl,au,ay,J⟩
 replace n:=zc (n.out.stp J)
 replace j:=zc (j.out.stp J)
 replace A:=zc (A.out.stp J)
 replace N:=zc (N.out.stp J)
 have ae:=zc (ac.out.step J)
 clear ac
 have aa:=zc ay
 have X:=zc au
 clear au ay J Y
 clear d0 d1 d2 d3 d4 d5 d6 d7 d8 d9 be bb df
 go_wp2_with fail
 refine (zg2 C D z o _ bc aS aV 0 ⟨aX,zw,n7⟩ _ X.out aa.out (zbh X.out)).mono ?_
 rintro e bl ⟨bn,bo,bk,rfl,aF,aH,K⟩
 replace n:=zc (n.out.stp K)
 replace j:=zc (j.out.stp K)
 replace A:=zc (A.out.stp K)
 replace N:=zc (N.out.stp K)
 have aE:=zc (ae.out.step K)
 clear ae
 have aA:=zc aH
 have aq:=zc aF
 clear aF aH K aa
 obtain⟨b0,b1,b2,b3,b4,b5,b6,b7,b8,b9,bm,bj,bf⟩:=j.out.box
 unfold pv
 go_wp2
 refine bodyPost_ret (results_cell_row rfl _ _ (w.heap.size+1) 53 _ (0,0) _ rfl ((j.out.put ..)).heap Tryz.underlying53 rfl (by kernel_rfl)) rfl ?_
 rw[HV.out,←HQ.out,←ziL (G:=fun b a=>zak C ⟨b,zw,a⟩) aB.out ab.out]
 exact zY rfl aq.out (aA.out.put j.out ..) (aE.out.put (by omega) ..)
theorem zn3 (C:Cx) (D z o:Nat) (S:Sv) (q:PS) (w:World) (hm:Mem C D z o S q w) (hw:isT C q.pos 1 zah=true) (h1:isT C (q.pos+1) 4 zJ=false) (h2:isT C (q.pos+1) 4 zw=false) (h3:zD C (q.pos+1) false=true):
  Calls Tryz.prog 70 #[pv C D z S q (-1) 0] w (Out C D z o (zaQ C q) 0 S w):=by
 have HM:=zc hm
 have N:=hm.few
 clear hm
 have HV:Hid (zaQ C q=bd (bd (.ok (adv q)) (zj C false)) fun a=>bd (zaR C (zaE C (.ok a.1))) fun b=>zak C ⟨b.2,sDefault,a.2⟩ b.1):=by
  show _=_
  rw[zaQ,zd,if_pos hw,zz]
  rw[zx,h1,h2,h3]
  rfl
 unfold pv
 go_enter Tryz.func70,Tryz.ntmps70
 go_wp2_with fail
 refine (zaH C D z o (.ok q) S q (-1) 0 zah _ (zX q) ((HM.out.alloc _).alloc _)).mono ?_
 rintro e w1 ⟨S1,q1,z1,rfl,i1,m1,s1⟩
 obtain⟨K,M,t1⟩:=HM.out.two2 s1
 have j:=zc K
 have n:=zc M
 have aG:=zc m1
 have ap:=zc t1
 have aH:=zc i1
 clear K M i1 m1 t1 s1
 obtain⟨ag,rfl⟩:=zcO aH.out hw
 have HQ:=zc ag
 have Y:Hid (q1.pos=q.pos+1):=by show q1.pos=q.pos+1;rw[ag];rfl
 clear ag aH
 obtain⟨a0,a1,X,V,a4,a5,a6,a7,Z,a9,H,E,af⟩:=j.out.box
 unfold pv
 go_upto_region 2 with fail
 refine zL (R:=fun W=>Bx D S1 W (w.heap.size) _∧Bx D S1 W (w.heap.size+1) _∧Mem C D z o S1 q1 W∧SB w.heap.size S w S1 W) ⟨(j.out.put ..),(n.out.other (by omega) ..),(aG.out.put j.out ..),(ap.out.put (by omega) ..)⟩ ?_
 clear a0 a1 X V a4 a5 a6 a7 Z a9 H E af
 clear j n ap aG
 rintro w2 ⟨K,M,m2,t2⟩
 have j:=zc K
 have n:=zc M
 have ah:=zc m2
 have aq:=zc t2
 clear m2 t2 K M
 obtain⟨a0,a1,X,V,a4,a5,a6,a7,Z,a9,H,E,af⟩:=j.out.box
 go_wp2_with fail
 refine (zh C D z o S1 q1 (-1) 0 4 zJ _ ah.out.tok N (by decide)).mono ?_
 rintro e w3 ⟨rfl,U⟩
 rw[Y.out,h1]
 replace j:=zc (j.out.below U)
 replace n:=zc (n.out.below U)
 have ay:=zc (aq.out.below U)
 have ak:=zc (ah.out.later U)
 clear U aq ah
 clear a0 a1 X V a4 a5 a6 a7 Z a9 H E af
 obtain⟨a0,a1,X,V,a4,a5,a6,a7,Z,a9,H,E,af⟩:=j.out.box
 go_wp2_with fail
 refine (zh C D z o S1 q1 (-1) 0 4 zw _ ak.out.tok N (by decide)).mono ?_
 rintro e w4 ⟨rfl,O⟩
 rw[Y.out,h2]
 replace j:=zc (j.out.below O)
 replace n:=zc (n.out.below O)
 have an:=zc (ay.out.below O)
 have aj:=zc (ak.out.later O)
 clear O ay ak
 clear a0 a1 X V a4 a5 a6 a7 Z a9 H E af
 obtain⟨a0,a1,X,V,a4,a5,a6,a7,Z,a9,H,E,af⟩:=j.out.box
 go_wp2_with fail
 refine (zfz C D z o S1 q1 (-1) 0 false _ aj.out.tok N).mono ?_
 rintro e w5 ⟨rfl,Q⟩
 rw[Y.out,h3]
 replace j:=zc (j.out.below Q)
 replace n:=zc (n.out.below Q)
 have am:=zc (an.out.below Q)
 have aJ:=zc (aj.out.later Q)
 clear Q an aj
 clear a0 a1 X V a4 a5 a6 a7 Z a9 H E af
 obtain⟨a0,a1,X,V,a4,a5,a6,a7,Z,a9,H,E,af⟩:=j.out.box
 clear Y
 go_wp2_with fail
 refine (zbe C D z o (.ok q1) S1 q1 (-1) 0 false _ (zX q1) aJ.out).mono ?_
 rintro e w6 ⟨S6,q6,z6,n6,rfl,i6,m6,s6⟩
 replace j:=zc (j.out.stp s6)
 replace n:=zc (n.out.stp s6)
 have aC:=zc (am.out.step s6)
 clear am
 have ai:=zc m6
 have az:=zc i6
 clear i6 m6 s6 aJ
 clear a0 a1 X V a4 a5 a6 a7 Z a9 H E af
 have aW:w.heap.size+1<w6.heap.size:=n.out.lt
 unfold pv
 go_upto_region 17 with fail
 refine zL (R:=fun W=>Bx D S6 W (w.heap.size) _∧Bx D S6 W (w.heap.size+1) _∧Bx D S6 W (w6.heap.size) _∧Mem C D z o S6 q6 W∧SB w.heap.size S w S6 W) ⟨(j.out.alloc _),(n.out.alloc _),(Bx.new ai.out _),(ai.out.alloc _),(aC.out.alloc _)⟩ ?_
 clear j n aC ai
 rintro w7 ⟨K,M,X2,m7,t7⟩
 have j:=zc K
 have n:=zc M
 have A:=zc X2
 have au:=zc m7
 have aF:=zc t7
 clear m7 t7 K M X2
 obtain⟨c0,c1,c2,c3,c4,c5,c6,c7,c8,c9,aO,aR,cf⟩:=A.out.box
 go_wp2_with fail
 refine (zaH C D z o _ S6 q6 z6 0 zU _ az.out.fst au.out).mono ?_
 rintro e w8 ⟨S8,q8,z8,rfl,i8,m8,s8⟩
 replace j:=zc (j.out.stp s8)
 replace n:=zc (n.out.stp s8)
 replace A:=zc (A.out.stp s8)
 have aK:=zc (aF.out.step s8)
 clear aF
 have aM:=zc m8
 have aS:=zc i8
 clear i8 m8 s8 au
 clear c0 c1 c2 c3 c4 c5 c6 c7 c8 c9 aO aR cf
 go_wp2_with fail
 refine (zdA C D z o _ S8 q8 z8 0 _ aS.out aM.out).mono ?_
 rintro e w9 ⟨S9,q9,z9,n9,rfl,i9,m9,s9⟩
 replace j:=zc (j.out.stp s9)
 replace n:=zc (n.out.stp s9)
 replace A:=zc (A.out.stp s9)
 have aI:=zc (aK.out.step s9)
 clear aK
 have al:=zc m9
 have ax:=zc i9
 clear i9 m9 s9 aM
 have aX:w.heap.size+1<w9.heap.size:=n.out.lt
 have aN:w6.heap.size<w9.heap.size:=A.out.lt
 unfold pv
 go_upto_region 18 with fail
 refine zL (R:=fun W=>Bx D S9 W (w.heap.size) _∧Bx D S9 W (w.heap.size+1) _∧Bx D S9 W (w6.heap.size) _∧Bx D S9 W (w9.heap.size) _∧Mem C D z o S9 q9 W∧SB w.heap.size S w S9 W) ⟨(j.out.alloc _),(n.out.alloc _),(A.out.alloc _),(Bx.new al.out _),(al.out.alloc _),(aI.out.alloc _)⟩ ?_
 clear j n A aI al
 rintro bc ⟨K,M,X2,X3,aL,aB⟩
 have j:=zc K
 have n:=zc M
 have A:=zc X2
 have L:=zc X3
 have ad:=zc aL
 have ac:=zc aB
 clear aL aB K M X2 X3
 obtain⟨d0,d1,d2,d3,d4,d5,d6,d7,d8,d9,aV,aT,df⟩:=L.out.box
 go_wp2_with fail
 refine (zad C D z o _ S9 q9 z9 0 cSemi _ ax.out.fst ad.out).mono ?_
 rintro e be ⟨aQ,aP,aU,rfl,aD,ar,J⟩
 replace j:=zc (j.out.stp J)
 replace n:=zc (n.out.stp J)
 replace A:=zc (A.out.stp J)
 replace L:=zc (L.out.stp J)
 have ae:=zc (ac.out.step J)
 clear ac
 have ab:=zc ar
 have aa:=zc aD
 clear aD ar J ad
 clear d0 d1 d2 d3 d4 d5 d6 d7 d8 d9 aV aT df
 go_wp2_with fail
 refine (zg2 C D z o _ aQ aP aU 0 ⟨n9,sDefault,n6⟩ _ aa.out ab.out (zbh aa.out)).mono ?_
 rintro e bi ⟨bg,aY,bb,rfl,av,aA,I⟩
 replace j:=zc (j.out.stp I)
 replace n:=zc (n.out.stp I)
 replace A:=zc (A.out.stp I)
 replace L:=zc (L.out.stp I)
 have aE:=zc (ae.out.step I)
 clear ae
 have aw:=zc aA
 have ao:=zc av
 clear av aA I ab
 obtain⟨b0,b1,b2,b3,b4,b5,b6,b7,b8,b9,ba,aZ,bf⟩:=n.out.box
 unfold pv
 go_wp2
 refine bodyPost_ret (results_cell_row rfl _ _ (w.heap.size+1) 53 _ (0,0) _ rfl ((n.out.put ..)).heap Tryz.underlying53 rfl (by kernel_rfl)) rfl ?_
 rw[HV.out,←HQ.out,←ziL (G:=fun b a=>zak C ⟨b,sDefault,a⟩) az.out ax.out]
 exact zY rfl ao.out (aw.out.put n.out ..) (aE.out.put (by omega) ..)
theorem zn4 (C:Cx) (E z o:Nat) (S:Sv) (q:PS) (w:World) (hm:Mem C E z o S q w) (hw:isT C q.pos 1 zah=true) (h1:isT C (q.pos+1) 4 zJ=false) (h2:isT C (q.pos+1) 4 zw=false) (h3:zD C (q.pos+1) false=false):
  Calls Tryz.prog 70 #[pv C E z S q (-1) 0] w (Out C E z o (zaQ C q) 0 S w):=by
 have HM:=zc hm
 have H:=hm.few
 clear hm
 have HV:Hid (zaQ C q=bd (bd (.ok (adv q)) (zH C)) fun a=>zd C 4 cSemi a.1):=by
  show _=_
  rw[zaQ,zd,if_pos hw,zz]
  rw[zx,h1,h2,h3]
  rfl
 unfold pv
 go_enter Tryz.func70,Tryz.ntmps70
 go_wp2_with fail
 refine (zaH C E z o (.ok q) S q (-1) 0 zah _ (zX q) ((HM.out.alloc _).alloc _)).mono ?_
 rintro e w1 ⟨S1,q1,z1,rfl,i1,m1,s1⟩
 obtain⟨X0,X1,t1⟩:=HM.out.two2 s1
 have j:=zc X0
 have n:=zc X1
 have aq:=zc m1
 have aj:=zc t1
 have ar:=zc i1
 clear X0 X1 i1 m1 t1 s1
 obtain⟨aa,rfl⟩:=zcO ar.out hw
 have HQ:=zc aa
 have N:Hid (q1.pos=q.pos+1):=by show q1.pos=q.pos+1;rw[aa];rfl
 clear aa ar
 obtain⟨Z,a1,M,L,U,V,X,Y,O,Q,D,A,af⟩:=j.out.box
 unfold pv
 go_upto_region 2 with fail
 refine zL (R:=fun W=>Bx E S1 W (w.heap.size) _∧Bx E S1 W (w.heap.size+1) _∧Mem C E z o S1 q1 W∧SB w.heap.size S w S1 W) ⟨(j.out.put ..),(n.out.other (by omega) ..),(aq.out.put j.out ..),(aj.out.put (by omega) ..)⟩ ?_
 clear Z a1 M L U V X Y O Q D A af
 clear j n aj aq
 rintro w2 ⟨X0,X1,m2,t2⟩
 have j:=zc X0
 have n:=zc X1
 have ab:=zc m2
 have ak:=zc t2
 clear m2 t2 X0 X1
 obtain⟨Z,a1,M,L,U,V,X,Y,O,Q,D,A,af⟩:=j.out.box
 go_wp2_with fail
 refine (zh C E z o S1 q1 (-1) 0 4 zJ _ ab.out.tok H (by decide)).mono ?_
 rintro e w3 ⟨rfl,K⟩
 rw[N.out,h1]
 replace j:=zc (j.out.below K)
 replace n:=zc (n.out.below K)
 have am:=zc (ak.out.below K)
 have ae:=zc (ab.out.later K)
 clear K ak ab
 clear Z a1 M L U V X Y O Q D A af
 obtain⟨Z,a1,M,L,U,V,X,Y,O,Q,D,A,af⟩:=j.out.box
 go_wp2_with fail
 refine (zh C E z o S1 q1 (-1) 0 4 zw _ ae.out.tok H (by decide)).mono ?_
 rintro e w4 ⟨rfl,I⟩
 rw[N.out,h2]
 replace j:=zc (j.out.below I)
 replace n:=zc (n.out.below I)
 have ai:=zc (am.out.below I)
 have ad:=zc (ae.out.later I)
 clear I am ae
 clear Z a1 M L U V X Y O Q D A af
 obtain⟨Z,a1,M,L,U,V,X,Y,O,Q,D,A,af⟩:=j.out.box
 go_wp2_with fail
 refine (zfz C E z o S1 q1 (-1) 0 false _ ad.out.tok H).mono ?_
 rintro e w5 ⟨rfl,J⟩
 rw[N.out,h3]
 replace j:=zc (j.out.below J)
 replace n:=zc (n.out.below J)
 have ah:=zc (ai.out.below J)
 have au:=zc (ad.out.later J)
 clear J ai ad
 clear Z a1 M L U V X Y O Q D A af
 obtain⟨Z,a1,M,L,U,V,X,Y,O,Q,D,A,af⟩:=j.out.box
 clear N
 go_wp2_with fail
 refine (zdA C E z o (.ok q1) S1 q1 (-1) 0 _ (zX q1) au.out).mono ?_
 rintro e w6 ⟨S6,q6,z6,n6,rfl,i6,m6,s6⟩
 replace j:=zc (j.out.stp s6)
 replace n:=zc (n.out.stp s6)
 have ao:=zc (ah.out.step s6)
 clear ah
 have ac:=zc m6
 have an:=zc i6
 clear i6 m6 s6 au
 clear Z a1 M L U V X Y O Q D A af
 have aA:w.heap.size+1<w6.heap.size:=n.out.lt
 unfold pv
 go_upto_region 20 with fail
 refine zL (R:=fun W=>Bx E S6 W (w.heap.size) _∧Bx E S6 W (w.heap.size+1) _∧Bx E S6 W (w6.heap.size) _∧Mem C E z o S6 q6 W∧SB w.heap.size S w S6 W) ⟨(j.out.alloc _),(n.out.alloc _),(Bx.new ac.out _),(ac.out.alloc _),(ao.out.alloc _)⟩ ?_
 clear j n ao ac
 rintro w7 ⟨X0,X1,X2,m7,t7⟩
 have j:=zc X0
 have n:=zc X1
 have ag:=zc X2
 have al:=zc m7
 have ap:=zc t7
 clear m7 t7 X0 X1 X2
 obtain⟨c0,c1,c2,c3,c4,c5,c6,c7,c8,c9,av,aw,cf⟩:=ag.out.box
 go_wp2_with fail
 refine (zad C E z o _ S6 q6 z6 0 cSemi _ an.out.fst al.out).mono ?_
 rintro e w8 ⟨S8,q8,z8,rfl,i8,m8,s8⟩
 replace j:=zc (j.out.stp s8)
 replace n:=zc (n.out.stp s8)
 replace ag:=zc (ag.out.stp s8)
 have ay:=zc (ap.out.step s8)
 clear ap
 have az:=zc m8
 have ax:=zc i8
 clear i8 m8 s8 al
 clear c0 c1 c2 c3 c4 c5 c6 c7 c8 c9 av aw cf
 obtain⟨b0,b1,b2,b3,b4,b5,b6,b7,b8,b9,aC,aB,bf⟩:=n.out.box
 unfold pv
 go_wp2
 refine bodyPost_ret (results_cell_row rfl _ _ (w.heap.size+1) 53 _ (0,0) _ rfl ((n.out.put ..)).heap Tryz.underlying53 rfl (by kernel_rfl)) rfl ?_
 rw[HV.out,←HQ.out,←an.out.bind (fun q _=>zd C 4 cSemi q)]
 exact zY rfl ax.out (az.out.put n.out ..) (ay.out.put (by omega) ..)
theorem zn5 (C:Cx) (D A o:Nat) (S:Sv) (q:PS) (w:World) (hm:Mem C D A o S q w) (hw:isT C q.pos 1 zah=true) (h1:isT C (q.pos+1) 4 zJ=true):
  Calls Tryz.prog 70 #[pv C D A S q (-1) 0] w (Out C D A o (zaQ C q) 0 S w):=by
 have HM:=zc hm
 have aE:=hm.few
 clear hm
 have HV:Hid (zaQ C q=bd (zcw C false (adv q)) fun a=>bd (zaR C (zaE C (.ok a.1))) fun b=>zP (fun e=>zak C (zbF b.2 e)) a.2 (.ok b.1)):=by
  show _=_
  rw[zaQ,zd,if_pos hw,zz]
  rw[zx,h1]
  rfl
 unfold pv
 go_enter Tryz.func70,Tryz.ntmps70
 go_wp2_with fail
 refine (zaH C D A o (.ok q) S q (-1) 0 zah _ (zX q) ((HM.out.alloc _).alloc _)).mono ?_
 rintro e w1 ⟨S1,q1,z1,rfl,i1,m1,s1⟩
 obtain⟨L,N,t1⟩:=HM.out.two2 s1
 have n:=zc L
 have z:=zc N
 have aI:=zc m1
 have ap:=zc t1
 have aJ:=zc i1
 clear L N i1 m1 t1 s1
 obtain⟨ae,rfl⟩:=zcO aJ.out hw
 have HQ:=zc ae
 have aq:Hid (q1.pos=q.pos+1):=by show q1.pos=q.pos+1;rw[ae];rfl
 clear ae aJ
 obtain⟨a0,a1,a2,a3,a4,a5,a6,a7,a8,a9,J,I,af⟩:=n.out.box
 unfold pv
 go_upto_region 2 with fail
 refine zL (R:=fun W=>Bx D S1 W (w.heap.size) _∧Bx D S1 W (w.heap.size+1) _∧Mem C D A o S1 q1 W∧SB w.heap.size S w S1 W) ⟨(n.out.put ..),(z.out.other (by omega) ..),(aI.out.put n.out ..),(ap.out.put (by omega) ..)⟩ ?_
 clear a0 a1 a2 a3 a4 a5 a6 a7 a8 a9 J I af
 clear n z ap aI
 rintro w2 ⟨L,N,m2,t2⟩
 have n:=zc L
 have z:=zc N
 have ai:=zc m2
 have ar:=zc t2
 clear m2 t2 L N
 obtain⟨a0,a1,a2,a3,a4,a5,a6,a7,a8,a9,J,I,af⟩:=n.out.box
 go_wp2_with fail
 refine (zh C D A o S1 q1 (-1) 0 4 zJ _ ai.out.tok aE (by decide)).mono ?_
 rintro e w3 ⟨rfl,aa⟩
 rw[aq.out,h1]
 replace n:=zc (n.out.below aa)
 replace z:=zc (z.out.below aa)
 have aj:=zc (ar.out.below aa)
 have aK:=zc (ai.out.later aa)
 clear aa ar ai
 clear a0 a1 a2 a3 a4 a5 a6 a7 a8 a9 J I af
 obtain⟨a0,a1,a2,a3,a4,a5,a6,a7,a8,a9,J,I,af⟩:=n.out.box
 clear aq
 have aU:=aj.out.size
 go_wp2_with fail
 refine (zi7 C D A o S1 q1 0 false _ aK.out).mono ?_
 rintro e w4 ⟨S4,q4,z4,⟨ra,rc⟩,l,rfl,i4,m4,s4,R0,hl⟩
 obtain⟨g,rfl⟩: ∃g,ra=some ⟨g,0,none⟩:=R0.addr
 replace n:=zc (n.out.stp s4)
 replace z:=zc (z.out.stp s4)
 have ao:=zc (aj.out.step s4)
 clear aj
 have ak:=zc m4
 have aw:=zc i4
 clear i4 m4 s4 aK
 clear a0 a1 a2 a3 a4 a5 a6 a7 a8 a9 J I af
 have H:Hid (Row S4 w4 o w.heap.size ⟨some ⟨g,0,none⟩,rc⟩ l):=⟨R0.own,R0.free,fun k hk=>Nat.le_trans aU (R0.new k hk),R0.addr⟩
 clear R0
 have aY:w.heap.size+1<w4.heap.size:=z.out.lt
 unfold pv
 go_upto_region 4 with fail
 refine zL (R:=fun W=>Bx D S4 W (w.heap.size) _∧Bx D S4 W (w.heap.size+1) _∧Bx D S4 W (w4.heap.size) _∧Row S4 W o w.heap.size ⟨some ⟨g,0,none⟩,rc⟩ l∧Mem C D A o S4 q4 W∧SB w.heap.size S w S4 W) ⟨(n.out.alloc _),(z.out.alloc _),(Bx.new ak.out _),(H.out.alloc _),(ak.out.alloc _),(ao.out.alloc _)⟩ ?_
 clear n z ao ak
 clear H
 rintro w5 ⟨L,N,X2,R0,m5,t5⟩
 have H:=zc R0
 clear R0
 have n:=zc L
 have z:=zc N
 have E:=zc X2
 have aL:=zc m5
 have an:=zc t5
 clear m5 t5 L N X2
 obtain⟨c0,c1,c2,c3,c4,c5,c6,c7,c8,c9,aT,aX,cf⟩:=E.out.box
 go_wp2_with fail
 refine (zaH C D A o _ S4 q4 z4 0 zU _ aw.out.fst aL.out).mono ?_
 rintro e w6 ⟨S6,q6,z6,rfl,i6,m6,s6⟩
 replace n:=zc (n.out.stp s6)
 replace z:=zc (z.out.stp s6)
 replace E:=zc (E.out.stp s6)
 have aG:=zc (an.out.step s6)
 have M:Hid (Row S6 w6 o w.heap.size ⟨some ⟨g,0,none⟩,rc⟩ l):=H.out.stp s6
 clear H
 have H:=zc M
 clear M
 clear an
 have ay:=zc m6
 have aV:=zc i6
 clear i6 m6 s6 aL
 clear c0 c1 c2 c3 c4 c5 c6 c7 c8 c9 aT aX cf
 go_wp2_with fail
 refine (zdA C D A o _ S6 q6 z6 0 _ aV.out ay.out).mono ?_
 rintro e w7 ⟨S7,q7,z7,n7,rfl,i7,m7,s7⟩
 replace n:=zc (n.out.stp s7)
 replace z:=zc (z.out.stp s7)
 replace E:=zc (E.out.stp s7)
 have aH:=zc (aG.out.step s7)
 have M:Hid (Row S7 w7 o w.heap.size ⟨some ⟨g,0,none⟩,rc⟩ l):=H.out.stp s7
 clear H
 have H:=zc M
 clear M
 clear aG
 have ah:=zc m7
 have aF:=zc i7
 clear i7 m7 s7 ay
 have aZ:w.heap.size+1<w7.heap.size:=z.out.lt
 have aP:w4.heap.size<w7.heap.size:=E.out.lt
 unfold pv
 go_upto_region 5 with fail
 refine zL (R:=fun W=>Bx D S7 W (w.heap.size) _∧Bx D S7 W (w.heap.size+1) _∧Bx D S7 W (w4.heap.size) _∧Bx D S7 W (w7.heap.size) _∧Row S7 W o w.heap.size ⟨some ⟨g,0,none⟩,rc⟩ l∧Mem C D A o S7 q7 W∧SB w.heap.size S w S7 W) ⟨(n.out.alloc _),(z.out.alloc _),(E.out.alloc _),(Bx.new ah.out _),(H.out.alloc _),(ah.out.alloc _),(aH.out.alloc _)⟩ ?_
 clear n z E aH ah
 clear H
 rintro w8 ⟨L,N,X2,X3,R0,m8,t8⟩
 have H:=zc R0
 clear R0
 have n:=zc L
 have z:=zc N
 have E:=zc X2
 have Q:=zc X3
 have aN:=zc m8
 have aM:=zc t8
 clear m8 t8 L N X2 X3
 obtain⟨d0,d1,d2,d3,d4,d5,d6,d7,d8,d9,am,al,df⟩:=Q.out.box
 go_wp2_with fail
 refine (zad C D A o _ S7 q7 z7 0 cSemi _ aF.out.fst aN.out).mono ?_
 rintro e w9 ⟨X,q9,z9,rfl,i9,m9,s9⟩
 replace n:=zc (n.out.stp s9)
 replace z:=zc (z.out.stp s9)
 replace E:=zc (E.out.stp s9)
 replace Q:=zc (Q.out.stp s9)
 have Y:=zc (aM.out.step s9)
 have M:Hid (Row X w9 o w.heap.size ⟨some ⟨g,0,none⟩,rc⟩ l):=H.out.stp s9
 clear H
 have H:=zc M
 clear M
 clear aM
 have Z:=zc m9
 have V:=zc i9
 clear i9 m9 s9 aN
 clear d0 d1 d2 d3 d4 d5 d6 d7 d8 d9 am al df
 obtain⟨a0,a1,a2,a3,a4,a5,a6,a7,a8,a9,J,I,af⟩:=n.out.box
 unfold pv
 go_upto_region 6 with fail
 refine zL (R:=fun W=>Bx D X W (w.heap.size) _∧Bx D X W (w.heap.size+1) _∧Bx D X W (w4.heap.size) _∧Bx D X W (w7.heap.size) _∧Row X W o w.heap.size ⟨some ⟨g,0,none⟩,rc⟩ l∧Mem C D A o X q9 W∧SB w.heap.size S w X W) ⟨(n.out.put ..),(z.out.other (by omega) ..),(E.out.other (by omega) ..),(Q.out.other (by omega) ..),(H.out.put n.out ..),(Z.out.put n.out ..),(Y.out.put (by omega) ..)⟩ ?_
 clear a0 a1 a2 a3 a4 a5 a6 a7 a8 a9 J I af
 clear n z E Q Y Z
 clear H
 rintro au ⟨L,N,X2,X3,R0,ab,aC⟩
 have H:=zc R0
 clear R0
 have n:=zc L
 have z:=zc N
 have E:=zc X2
 have Q:=zc X3
 have U:=zc ab
 have ac:=zc aC
 clear ab aC L N X2 X3
 have aR:Hid (_=_):=zgI (G:=fun b e=>zak C (zbF b e)) aw.out aF.out
 go_wp2
 go_loopg [8] l.length (fun k i wr=>∃(j:Nat) (x':PR) (O:Sv) (q':PS) (z':Int),j≤l.length∧i= .int .i64 j∧Is x' q' z'∧(z'<0→1≤q'.pos)∧zP (fun e=>zak C (zbF n7 e)) (l.drop j) x'=zaQ C q∧l.length-j=k∧Mem C D A o O q' wr∧SB w.heap.size S w O wr∧Bx D O wr w.heap.size #[.slice (some ⟨D,0,none⟩) C.ts.length A,.int .i64 q'.pos,.int .i64 C.fin,.bool C.scr,.slice O.rq.a q'.rq.length O.rq.cap,.slice O.im.a q'.im.length O.im.cap,.slice O.ep.a q'.ep.length O.ep.cap,.slice O.st.a q'.st.length O.st.cap,.slice O.ex.a q'.ex.length O.ex.cap,.slice O.la.a q'.la.length O.la.cap,.int .i64 z',.int .i64 0]∧Bx D O wr (w.heap.size+1) #[.slice none 0 0,.int .i64 0,.int .i64 0,.bool false,.slice none 0 0,.slice none 0 0,.slice none 0 0,.slice none 0 0,.slice none 0 0,.slice none 0 0,.int .i64 0,.int .i64 0]∧Row O wr o w.heap.size ⟨some ⟨g,0,none⟩,rc⟩ l)
 case atStart=>exact⟨0,_,X,q9,z9,Nat.zero_le _,rfl,V.out,zbh V.out,by rw[HV.out,←HQ.out];exact aR.out,rfl,U.out,ac.out,n.out,z.out,H.out⟩
 case round=>
  obtain⟨j,x9,X,q9,z9,hj,rfl,i9,p9,e9,g9,m9,t9,L,N,R0⟩:=hrel
  clear n z E Q H U ac
  have n:=zc L
  have z:=zc N
  have Z:=zc m9
  have Y:=zc t9
  have V:=zc i9
  have av:=zc p9
  have ax:=zc e9
  have aB:=zc g9
  have H:=zc R0
  clear L N i9 m9 t9 e9 g9 R0 p9
  by_cases aD:j<l.length
  ·skip
   obtain⟨c1,c2⟩:=H.out.cells (g:=g) rfl aD
   have bc:=H.out.own.lt (g:=g) rfl
   have HX:Hid (∀e,e=l[j]→zP (fun e=>zak C (zbF n7 e)) (l.drop (j+1)) (bd x9 (zak C (zbF n7 e)))=zaQ C q):=fun e he=>by rw[he,←ax.out];exact (zf7 (fun e=>zak C (zbF n7 e)) l x9 aD).symm
   generalize aA:l[j]=el at c1 c2
   have aS:Hid (el=l[j]):=aA.symm
   clear aA
   obtain⟨a0,a1,a2,a3,a4,a5,a6,a7,a8,a9,J,I,af⟩:=n.out.box
   go_upto_region 9 with fail
   go_region_law (first|(go_simp;go_wp2_with (go_at_call 132;refine (zg2 C D A o x9 X q9 z9 0 (zbF n7 el) _ V.out Z.out.drew av.out).mono ?_;rintro e au ⟨aO,aW,aQ,rfl,az,ab,ag⟩;obtain⟨d0,d1,d2,d3,d4,d5,d6,d7,d8,d9,am,al,df⟩:=(n.out.stp ag.undrew).box;unfold pv)))
   all_goals
    clear a0 a1 a2 a3 a4 a5 a6 a7 a8 a9 J I af d0 d1 d2 d3 d4 d5 d6 d7 d8 d9 am al df
    have ad:=zc az
    have U:=zc ab
    have K:Hid (Stp X wr aO au):=ag.undrew
    clear az ab ag
    go_wp2
    go_roundg (gk-1)
    case rel=>exact⟨j+1,_,aO,aW,aQ,by omega,by go_num,ad.out,zn1 av.out V.out ad.out,HX.out el aS.out,by have:=aB.out;omega,U.out.put (n.out.stp K.out) _ _ _ _ _ _ _ _ _ _ _ _,(Y.out.step K.out).put (by omega) _ _ _ _ _ _ _ _ _ _ _ _,(n.out.stp K.out).put _ _ _ _ _ _ _ _ _ _ _ _,(z.out.stp K.out).other (by omega) _ _ _ _ _ _ _ _ _ _ _ _,(H.out.stp K.out).put (n.out.stp K.out) _ _ _ _ _ _ _ _ _ _ _ _⟩
    case measure=>have:=aB.out;omega
  ·skip
   obtain⟨a0,a1,a2,a3,a4,a5,a6,a7,a8,a9,J,I,af⟩:=n.out.box
   obtain⟨b0,b1,b2,b3,b4,b5,b6,b7,b8,b9,bb,ba,bf⟩:=z.out.box
   go_wp2
   refine bodyPost_ret (results_cell_row rfl _ _ (w.heap.size+1) 53 _ (0,0) _ rfl ((z.out.put ..)).heap Tryz.underlying53 rfl (by kernel_rfl)) rfl ?_
   exact zY rfl (show Is (zaQ C q) q9 z9 from by rw[←ax.out,List.drop_eq_nil_of_le (by omega)];exact V.out) (Z.out.put z.out ..) (Y.out.put (by omega) ..)
theorem zn6 {C:Cx} {k:Int} {n:ByteArray} {q q':PS} (h:zV C k n q= .ok q'):q'={q with st:=q.st++[⟨k,n,(q.ex.length:Int)-1⟩]}∧q.st.length<80:=by
 unfold zV at h
 split at h
 ·cases h
 ·cases h
  exact⟨rfl,by omega⟩
theorem ziM {C:Cx} {x:PR} {k:Int} {s:ByteArray} {j:Int} {n:ByteArray} {q:PS} {z:Int} (h:Is (bd (bd x (zd C k s)) (zV C j n)) q z):z<0→1≤q.pos:=by
 intro E
 obtain⟨e,_⟩:=zaC h E
 obtain⟨a,D,A⟩:=zf e
 obtain⟨b,_,o⟩:=zf D
 obtain⟨rfl,_⟩:=zb4 o
 obtain⟨rfl,_⟩:=zn6 A
 simp[adv]
theorem ziN {C:Cx} {y:PRN} {G:PR→PR} {k:Int} {s:ByteArray} {j:Int} {q:PS} {z:Int} {n:ByteArray} (h:Is2 (withN y fun x n=>bd (bd (G x) (zd C k s)) (zV C j n)) q z n):z<0→1≤q.pos:=by
 intro D
 cases y with
 |error e=>have:z=(e:Int):=h;omega
 |ok a=>
  have o:Is2 (bd (bd (bd (G (.ok a.1)) (zd C k s)) (zV C j a.2)) fun q=>.ok (q,a.2)) q z n:=h
  cases A:bd (bd (G (.ok a.1)) (zd C k s)) (zV C j a.2) with
  |error e=>rw[A] at o;have:z=(e:Int):=o;omega
  |ok b=>
   rw[A] at o
   obtain⟨rfl,rfl,_⟩:=o
   exact ziM (show Is (bd (bd (G (.ok a.1)) (zd C k s)) (zV C j a.2)) q (-1) by rw[A];exact⟨rfl,rfl⟩) (by decide)
theorem zn7 {C:Cx} {j q:PS} {z:Int} {n:ByteArray} (h:Is2 (zcj C j) q z n):z<0→1≤q.pos:=ziN (G:=fun x=>bd (bd x (zd C 4 cEq)) (pE C .sum 0)) h
theorem zn8 {C:Cx} {j q:PS} {z:Int} {n:ByteArray} (h:Is2 (fnP C j) q z n):z<0→1≤q.pos:=ziN (G:=fun x=>bd (bd (bd (bd (bd (bd x (zd C 4 zn)) (zd C 4 za0)) (zd C 4 zJ)) (zd C 1 zdT)) (pE C .sum 0)) (zd C 4 cSemi)) h
theorem zn9 {C:Cx} {x:PR} {z:PS} {A:Int} {n:ByteArray} {G:ByteArray→PS→PR} (j:Is2 (bd (bd x (zd C 1 zU)) (zH C)) z A n):
  bd (bd (zaK (bd (bd x (zd C 1 zU)) (zH C))) (zd C 4 cSemi)) (G n)=bd (zaR C (zaE C x)) fun b=>G b.2 b.1:=by
 have D:bd (bd x (zd C 1 zU)) (zH C)=zaE C x:=rfl
 rw[D] at j ⊢
 cases o:zaE C x with
 |error e=>rfl
 |ok b=>
  rw[o] at j
  obtain⟨_,_,rfl⟩:=j
  show bd (zd C 4 cSemi b.1) (G b.2)=bd (bd (zd C 4 cSemi b.1) fun q=>.ok (q,b.2)) fun b=>G b.2 b.1
  rw[zM]
  rfl
theorem znA {C:Cx} {y:PRL} {n:PS} {o:Int} {l:List Ep} {f:Ep→PS→PR} {D:PS×List Ep→PR} (z:Is3 y n o l) (A:za8 l=false) (j:(decide (o<0)&&isT C n.pos 1 zU)=false):
  zP f l (bd (zeS y) (zd C 4 cSemi))=bd y fun a=>if !za8 a.2&& !isT C a.1.pos 1 zU then bd (zd C 4 cSemi a.1) fun q=>zP f a.2 (.ok q) else D a:=by
 cases y with
 |error e=>exact zeR _ _ _
 |ok a=>
  obtain⟨rfl,rfl,rfl⟩:=z
  rw[Bool.and_eq_false_iff] at j
  rw[zz,A,j.resolve_left (by decide)]
  show zP f a.2 (zd C 4 cSemi a.1)=bd (zd C 4 cSemi a.1) fun q=>zP f a.2 (.ok q)
  cases zd C 4 cSemi a.1 with
  |error e=>exact zeR _ _ _
  |ok c=>rfl
theorem ziO {C:Cx} {y:PRL} {n:PS} {o:Int} {l:List Ep} {D E:PS×List Ep→PR} (q:Is3 y n o l) (j:za8 l=true∨(decide (o<0)&&isT C n.pos 1 zU)=true):
  bd y D=bd y fun a=>if !za8 a.2&& !isT C a.1.pos 1 zU then E a else D a:=by
 cases y with
 |error e=>rfl
 |ok a=>
  obtain⟨rfl,rfl,rfl⟩:=q
  rw[zz,zz]
  rcases j with h|h
  ·rw[h];rfl
  ·rw[Bool.and_eq_true] at h
   rw[h.2,Bool.not_true,Bool.and_false]
   rfl
theorem znB (C:Cx) (A z o:Nat) (S:Sv) (q:PS) (w:World) (hm:Mem C A z o S q w) (hw:isT C q.pos 1 zaf=true) (h1:isT C (q.pos+1) 4 zJ=false) (h2:isT C (q.pos+1) 4 zw=true):
  Calls Tryz.prog 71 #[pv C A z S q (-1) 0] w (Out C A z o (zag C q) 0 S w):=by
 have HM:=zc hm
 have O:=hm.few
 clear hm
 have HV:Hid (zag C q=bd (zaR C (zaE C (bd (.ok (adv q)) (zd C 4 zw)))) fun b=>zo C ⟨3,sNone,sNone,b.2⟩ b.1):=by
  show _=_
  rw[zag,zd,if_pos hw,zz]
  rw[zx,h1,h2]
  rfl
 unfold pv
 go_enter Tryz.func71,Tryz.ntmps71
 go_wp2_with fail
 refine (zaH C A z o (.ok q) S q (-1) 0 zaf _ (zX q) ((HM.out.alloc _).alloc _)).mono ?_
 rintro e w1 ⟨U,N,z1,rfl,i1,m1,s1⟩
 obtain⟨L,M,t1⟩:=HM.out.two2 s1
 have j:=zc L
 have n:=zc M
 have av:=zc m1
 have ag:=zc t1
 have aw:=zc i1
 clear L M i1 m1 t1 s1
 obtain⟨X,rfl⟩:=zcO aw.out hw
 have HQ:=zc X
 have Y:Hid (N.pos=q.pos+1):=by show N.pos=q.pos+1;rw[X];rfl
 clear X aw
 obtain⟨a0,a1,V,Q,a4,a5,a6,a7,Z,a9,E,D,af⟩:=j.out.box
 unfold pv
 go_upto_region 2 with fail
 refine zL (R:=fun W=>Bx A U W (w.heap.size) _∧Bx A U W (w.heap.size+1) _∧Mem C A z o U N W∧SB w.heap.size S w U W) ⟨(j.out.put ..),(n.out.other (by omega) ..),(av.out.put j.out ..),(ag.out.put (by omega) ..)⟩ ?_
 clear a0 a1 V Q a4 a5 a6 a7 Z a9 E D af
 clear j n ag av
 rintro w2 ⟨L,M,m2,t2⟩
 have j:=zc L
 have n:=zc M
 have ab:=zc m2
 have ah:=zc t2
 clear m2 t2 L M
 obtain⟨a0,a1,V,Q,a4,a5,a6,a7,Z,a9,E,D,af⟩:=j.out.box
 go_wp2_with fail
 refine (zh C A z o U N (-1) 0 4 zJ _ ab.out.tok O (by decide)).mono ?_
 rintro e w3 ⟨rfl,K⟩
 rw[Y.out,h1]
 replace j:=zc (j.out.below K)
 replace n:=zc (n.out.below K)
 have ao:=zc (ah.out.below K)
 have ac:=zc (ab.out.later K)
 clear K ah ab
 clear a0 a1 V Q a4 a5 a6 a7 Z a9 E D af
 obtain⟨a0,a1,V,Q,a4,a5,a6,a7,Z,a9,E,D,af⟩:=j.out.box
 go_wp2_with fail
 refine (zh C A z o U N (-1) 0 4 zw _ ac.out.tok O (by decide)).mono ?_
 rintro e w4 ⟨rfl,I⟩
 rw[Y.out,h2]
 replace j:=zc (j.out.below I)
 replace n:=zc (n.out.below I)
 have ae:=zc (ao.out.below I)
 have ar:=zc (ac.out.later I)
 clear I ao ac
 clear a0 a1 V Q a4 a5 a6 a7 Z a9 E D af
 obtain⟨a0,a1,V,Q,a4,a5,a6,a7,Z,a9,E,D,af⟩:=j.out.box
 clear Y
 go_wp2_with fail
 refine (zad C A z o (.ok N) U N (-1) 0 zw _ (zX N) ar.out).mono ?_
 rintro e w5 ⟨S5,q5,z5,rfl,i5,m5,s5⟩
 replace j:=zc (j.out.stp s5)
 replace n:=zc (n.out.stp s5)
 have ad:=zc (ae.out.step s5)
 clear ae
 have ay:=zc m5
 have aD:=zc i5
 clear i5 m5 s5 ar
 clear a0 a1 V Q a4 a5 a6 a7 Z a9 E D af
 go_wp2_with fail
 refine (zaH C A z o _ S5 q5 z5 0 zU _ aD.out ay.out).mono ?_
 rintro e w6 ⟨S6,q6,z6,rfl,i6,m6,s6⟩
 replace j:=zc (j.out.stp s6)
 replace n:=zc (n.out.stp s6)
 have aq:=zc (ad.out.step s6)
 clear ad
 have am:=zc m6
 have aF:=zc i6
 clear i6 m6 s6 ay
 go_wp2_with fail
 refine (zdA C A z o _ S6 q6 z6 0 _ aF.out am.out).mono ?_
 rintro e w7 ⟨S7,q7,z7,n7,rfl,i7,m7,s7⟩
 replace j:=zc (j.out.stp s7)
 replace n:=zc (n.out.stp s7)
 have au:=zc (aq.out.step s7)
 clear aq
 have aa:=zc m7
 have ap:=zc i7
 clear i7 m7 s7 am
 have aH:w.heap.size+1<w7.heap.size:=n.out.lt
 unfold pv
 go_upto_region 20 with fail
 refine zL (R:=fun W=>Bx A S7 W (w.heap.size) _∧Bx A S7 W (w.heap.size+1) _∧Bx A S7 W (w7.heap.size) _∧Mem C A z o S7 q7 W∧SB w.heap.size S w S7 W) ⟨(j.out.alloc _),(n.out.alloc _),(Bx.new aa.out _),(aa.out.alloc _),(au.out.alloc _)⟩ ?_
 clear j n au aa
 rintro w8 ⟨L,M,X2,m8,t8⟩
 have j:=zc L
 have n:=zc M
 have J:=zc X2
 have aC:=zc m8
 have az:=zc t8
 clear m8 t8 L M X2
 obtain⟨c0,c1,c2,c3,c4,c5,c6,c7,c8,c9,aE,aG,cf⟩:=J.out.box
 go_wp2_with fail
 refine (zad C A z o _ S7 q7 z7 0 cSemi _ ap.out.fst aC.out).mono ?_
 rintro e w9 ⟨S9,q9,z9,rfl,i9,m9,s9⟩
 replace j:=zc (j.out.stp s9)
 replace n:=zc (n.out.stp s9)
 replace J:=zc (J.out.stp s9)
 have ax:=zc (az.out.step s9)
 clear az
 have aA:=zc m9
 have ak:=zc i9
 clear i9 m9 s9 aC
 clear c0 c1 c2 c3 c4 c5 c6 c7 c8 c9 aE aG cf
 go_wp2_with fail
 refine (zd7 C A z o _ S9 q9 z9 0 ⟨3,sNone,sNone,n7⟩ _ ak.out aA.out (zbh ak.out)).mono ?_
 rintro e aL ⟨aN,aM,aI,rfl,an,aB,H⟩
 replace j:=zc (j.out.stp H)
 replace n:=zc (n.out.stp H)
 replace J:=zc (J.out.stp H)
 have ai:=zc (ax.out.step H)
 clear ax
 have al:=zc aB
 have aj:=zc an
 clear an aB H aA
 obtain⟨b0,b1,b2,b3,b4,b5,b6,b7,b8,b9,aK,aJ,bf⟩:=n.out.box
 unfold pv
 go_wp2
 refine bodyPost_ret (results_cell_row rfl _ _ (w.heap.size+1) 53 _ (0,0) _ rfl ((n.out.put ..)).heap Tryz.underlying53 rfl (by kernel_rfl)) rfl ?_
 rw[HV.out,←HQ.out,←zn9 (G:=fun b=>zo C ⟨3,sNone,sNone,b⟩) ap.out]
 exact zY rfl aj.out (al.out.put n.out ..) (ai.out.put (by omega) ..)
theorem znC (C:Cx) (A z o:Nat) (S:Sv) (q:PS) (w:World) (hm:Mem C A z o S q w) (hw:isT C q.pos 1 zaf=true) (h1:isT C (q.pos+1) 4 zJ=false) (h2:isT C (q.pos+1) 4 zw=false) (h3:isT C (q.pos+1) 1 sDefault=true):
  Calls Tryz.prog 71 #[pv C A z S q (-1) 0] w (Out C A z o (zag C q) 0 S w):=by
 have HM:=zc hm
 have J:=hm.few
 clear hm
 have HV:Hid (zag C q=bd (bd (bd (bd (bd (.ok (adv q)) (zd C 1 sDefault)) (pE C .sum 0)) (zd C 4 cSemi)) (zV C 1 zbN)) (zo C ⟨1,sDefault,zbN,sNone⟩)):=by
  show _=_
  rw[zag,zd,if_pos hw,zz]
  rw[zx,h1,h2,h3]
  rfl
 unfold pv
 go_enter Tryz.func71,Tryz.ntmps71
 go_wp2_with fail
 refine (zaH C A z o (.ok q) S q (-1) 0 zaf _ (zX q) ((HM.out.alloc _).alloc _)).mono ?_
 rintro e w1 ⟨S1,q1,z1,rfl,i1,m1,s1⟩
 obtain⟨X0,X1,t1⟩:=HM.out.two2 s1
 have j:=zc X0
 have n:=zc X1
 have aB:=zc m1
 have am:=zc t1
 have aC:=zc i1
 clear X0 X1 i1 m1 t1 s1
 obtain⟨ad,rfl⟩:=zcO aC.out hw
 have HQ:=zc ad
 have U:Hid (q1.pos=q.pos+1):=by show q1.pos=q.pos+1;rw[ad];rfl
 clear ad aC
 obtain⟨a0,a1,Q,O,Y,Z,a6,a7,V,X,E,D,af⟩:=j.out.box
 unfold pv
 go_upto_region 2 with fail
 refine zL (R:=fun W=>Bx A S1 W (w.heap.size) _∧Bx A S1 W (w.heap.size+1) _∧Mem C A z o S1 q1 W∧SB w.heap.size S w S1 W) ⟨(j.out.put ..),(n.out.other (by omega) ..),(aB.out.put j.out ..),(am.out.put (by omega) ..)⟩ ?_
 clear a0 a1 Q O Y Z a6 a7 V X E D af
 clear j n am aB
 rintro w2 ⟨X0,X1,m2,t2⟩
 have j:=zc X0
 have n:=zc X1
 have ae:=zc m2
 have ao:=zc t2
 clear m2 t2 X0 X1
 obtain⟨a0,a1,Q,O,Y,Z,a6,a7,V,X,E,D,af⟩:=j.out.box
 go_wp2_with fail
 refine (zh C A z o S1 q1 (-1) 0 4 zJ _ ae.out.tok J (by decide)).mono ?_
 rintro e w3 ⟨rfl,N⟩
 rw[U.out,h1]
 replace j:=zc (j.out.below N)
 replace n:=zc (n.out.below N)
 have aw:=zc (ao.out.below N)
 have ah:=zc (ae.out.later N)
 clear N ao ae
 clear a0 a1 Q O Y Z a6 a7 V X E D af
 obtain⟨a0,a1,Q,O,Y,Z,a6,a7,V,X,E,D,af⟩:=j.out.box
 go_wp2_with fail
 refine (zh C A z o S1 q1 (-1) 0 4 zw _ ah.out.tok J (by decide)).mono ?_
 rintro e w4 ⟨rfl,K⟩
 rw[U.out,h2]
 replace j:=zc (j.out.below K)
 replace n:=zc (n.out.below K)
 have al:=zc (aw.out.below K)
 have ag:=zc (ah.out.later K)
 clear K aw ah
 clear a0 a1 Q O Y Z a6 a7 V X E D af
 obtain⟨a0,a1,Q,O,Y,Z,a6,a7,V,X,E,D,af⟩:=j.out.box
 go_wp2_with fail
 refine (zh C A z o S1 q1 (-1) 0 1 sDefault _ ag.out.tok J (by decide)).mono ?_
 rintro e w5 ⟨rfl,L⟩
 rw[U.out,h3]
 replace j:=zc (j.out.below L)
 replace n:=zc (n.out.below L)
 have aj:=zc (al.out.below L)
 have aE:=zc (ag.out.later L)
 clear L al ag
 clear a0 a1 Q O Y Z a6 a7 V X E D af
 obtain⟨a0,a1,Q,O,Y,Z,a6,a7,V,X,E,D,af⟩:=j.out.box
 clear U
 go_wp2_with fail
 refine (zaH C A z o (.ok q1) S1 q1 (-1) 0 sDefault _ (zX q1) aE.out).mono ?_
 rintro e w6 ⟨S6,q6,z6,rfl,i6,m6,s6⟩
 replace j:=zc (j.out.stp s6)
 replace n:=zc (n.out.stp s6)
 have ax:=zc (aj.out.step s6)
 clear aj
 have ar:=zc m6
 have aK:=zc i6
 clear i6 m6 s6 aE
 clear a0 a1 Q O Y Z a6 a7 V X E D af
 go_wp2_with fail
 refine (zcN C A z o _ S6 q6 z6 _ aK.out ar.out).mono ?_
 rintro e w7 ⟨S7,q7,z7,rfl,i7,m7,s7⟩
 replace j:=zc (j.out.stp s7)
 replace n:=zc (n.out.stp s7)
 have aA:=zc (ax.out.step s7)
 clear ax
 have aq:=zc m7
 have aN:=zc i7
 clear i7 m7 s7 ar
 go_wp2_with fail
 refine (zad C A z o _ S7 q7 z7 0 cSemi _ aN.out aq.out).mono ?_
 rintro e w8 ⟨S8,q8,z8,rfl,i8,m8,s8⟩
 replace j:=zc (j.out.stp s8)
 replace n:=zc (n.out.stp s8)
 have aF:=zc (aA.out.step s8)
 clear aA
 have ai:=zc m8
 have az:=zc i8
 clear i8 m8 s8 aq
 have aP:w.heap.size+1<w8.heap.size:=n.out.lt
 unfold pv
 go_upto_region 23 with fail
 refine zL (R:=fun W=>Bx A S8 W (w.heap.size) _∧Bx A S8 W (w.heap.size+1) _∧Bx A S8 W (w8.heap.size) _∧Mem C A z o S8 q8 W∧SB w.heap.size S w S8 W) ⟨(j.out.alloc _),(n.out.alloc _),(Bx.new ai.out _),(ai.out.alloc _),(aF.out.alloc _)⟩ ?_
 clear j n aF ai
 rintro w9 ⟨X0,X1,X2,m9,t9⟩
 have j:=zc X0
 have n:=zc X1
 have M:=zc X2
 have aG:=zc m9
 have aD:=zc t9
 clear m9 t9 X0 X1 X2
 obtain⟨c0,c1,c2,c3,c4,c5,c6,c7,c8,c9,aJ,aM,cf⟩:=M.out.box
 go_wp2_with fail
 refine (zcL C A z o _ S8 q8 z8 0 1 zbN _ az.out aG.out (zbh az.out)).mono ?_
 rintro e aS ⟨aO,aL,aI,rfl,av,aH,H⟩
 replace j:=zc (j.out.stp H)
 replace n:=zc (n.out.stp H)
 replace M:=zc (M.out.stp H)
 have aa:=zc (aD.out.step H)
 clear aD
 have ac:=zc aH
 have ab:=zc av
 clear av aH H aG
 clear c0 c1 c2 c3 c4 c5 c6 c7 c8 c9 aJ aM cf
 go_wp2_with fail
 refine (zd7 C A z o _ aO aL aI 0 ⟨1,sDefault,zbN,sNone⟩ _ ab.out ac.out (ziM ab.out)).mono ?_
 rintro e aV ⟨aU,aT,aW,rfl,ay,ap,I⟩
 replace j:=zc (j.out.stp I)
 replace n:=zc (n.out.stp I)
 replace M:=zc (M.out.stp I)
 have au:=zc (aa.out.step I)
 clear aa
 have an:=zc ap
 have ak:=zc ay
 clear ay ap I ac
 obtain⟨b0,b1,b2,b3,b4,b5,b6,b7,b8,b9,aR,aQ,bf⟩:=n.out.box
 unfold pv
 go_wp2
 refine bodyPost_ret (results_cell_row rfl _ _ (w.heap.size+1) 53 _ (0,0) _ rfl ((n.out.put ..)).heap Tryz.underlying53 rfl (by kernel_rfl)) rfl ?_
 rw[HV.out,←HQ.out]
 exact zY rfl ak.out (an.out.put n.out ..) (au.out.put (by omega) ..)
theorem znD (C:Cx) (H A z:Nat) (S:Sv) (q:PS) (w:World) (hm:Mem C H A z S q w) (hw:isT C q.pos 1 zaf=true) (h1:isT C (q.pos+1) 4 zJ=false) (h2:isT C (q.pos+1) 4 zw=false) (h3:isT C (q.pos+1) 1 sDefault=false) (h4:isT C (q.pos+1) 1 zC=true):
  Calls Tryz.prog 71 #[pv C H A S q (-1) 0] w (Out C H A z (zag C q) 0 S w):=by
 have HM:=zc hm
 have I:=hm.few
 clear hm
 have HV:Hid (zag C q=bd (zcj C (adv q)) fun a=>zo C ⟨1,a.2,a.2,sNone⟩ a.1):=by
  show _=_
  rw[zag,zd,if_pos hw,zz]
  rw[zx,h1,h2,h3,h4]
  rfl
 unfold pv
 go_enter Tryz.func71,Tryz.ntmps71
 go_wp2_with fail
 refine (zaH C H A z (.ok q) S q (-1) 0 zaf _ (zX q) ((HM.out.alloc _).alloc _)).mono ?_
 rintro e w1 ⟨S1,q1,z1,rfl,i1,m1,s1⟩
 obtain⟨X0,X1,t1⟩:=HM.out.two2 s1
 have j:=zc X0
 have o:=zc X1
 have av:=zc m1
 have an:=zc t1
 have aw:=zc i1
 clear X0 X1 i1 m1 t1 s1
 obtain⟨ac,rfl⟩:=zcO aw.out hw
 have HQ:=zc ac
 have L:Hid (q1.pos=q.pos+1):=by show q1.pos=q.pos+1;rw[ac];rfl
 clear ac aw
 obtain⟨Y,a1,K,J,Q,U,V,X,M,O,E,D,af⟩:=j.out.box
 unfold pv
 go_upto_region 2 with fail
 refine zL (R:=fun W=>Bx H S1 W (w.heap.size) _∧Bx H S1 W (w.heap.size+1) _∧Mem C H A z S1 q1 W∧SB w.heap.size S w S1 W) ⟨(j.out.put ..),(o.out.other (by omega) ..),(av.out.put j.out ..),(an.out.put (by omega) ..)⟩ ?_
 clear Y a1 K J Q U V X M O E D af
 clear j o an av
 rintro w2 ⟨X0,X1,m2,t2⟩
 have j:=zc X0
 have o:=zc X1
 have ae:=zc m2
 have ao:=zc t2
 clear m2 t2 X0 X1
 obtain⟨Y,a1,K,J,Q,U,V,X,M,O,E,D,af⟩:=j.out.box
 go_wp2_with fail
 refine (zh C H A z S1 q1 (-1) 0 4 zJ _ ae.out.tok I (by decide)).mono ?_
 rintro e w3 ⟨rfl,ab⟩
 rw[L.out,h1]
 replace j:=zc (j.out.below ab)
 replace o:=zc (o.out.below ab)
 have aq:=zc (ao.out.below ab)
 have ai:=zc (ae.out.later ab)
 clear ab ao ae
 clear Y a1 K J Q U V X M O E D af
 obtain⟨Y,a1,K,J,Q,U,V,X,M,O,E,D,af⟩:=j.out.box
 go_wp2_with fail
 refine (zh C H A z S1 q1 (-1) 0 4 zw _ ai.out.tok I (by decide)).mono ?_
 rintro e w4 ⟨rfl,Z⟩
 rw[L.out,h2]
 replace j:=zc (j.out.below Z)
 replace o:=zc (o.out.below Z)
 have am:=zc (aq.out.below Z)
 have ah:=zc (ai.out.later Z)
 clear Z aq ai
 clear Y a1 K J Q U V X M O E D af
 obtain⟨Y,a1,K,J,Q,U,V,X,M,O,E,D,af⟩:=j.out.box
 go_wp2_with fail
 refine (zh C H A z S1 q1 (-1) 0 1 sDefault _ ah.out.tok I (by decide)).mono ?_
 rintro e w5 ⟨rfl,aa⟩
 rw[L.out,h3]
 replace j:=zc (j.out.below aa)
 replace o:=zc (o.out.below aa)
 have al:=zc (am.out.below aa)
 have aj:=zc (ah.out.later aa)
 clear aa am ah
 clear Y a1 K J Q U V X M O E D af
 obtain⟨Y,a1,K,J,Q,U,V,X,M,O,E,D,af⟩:=j.out.box
 go_wp2_with fail
 refine (zh C H A z S1 q1 (-1) 0 1 zC _ aj.out.tok I (by decide)).mono ?_
 rintro e w6 ⟨rfl,N⟩
 rw[L.out,h4]
 replace j:=zc (j.out.below N)
 replace o:=zc (o.out.below N)
 have ar:=zc (al.out.below N)
 have ap:=zc (aj.out.later N)
 clear N al aj
 clear Y a1 K J Q U V X M O E D af
 obtain⟨Y,a1,K,J,Q,U,V,X,M,O,E,D,af⟩:=j.out.box
 clear L
 go_wp2_with fail
 refine (zgG C H A z S1 q1 _ ap.out).mono ?_
 rintro e w7 ⟨S7,q7,z7,n7,rfl,i7,m7,s7⟩
 replace j:=zc (j.out.stp s7)
 replace o:=zc (o.out.stp s7)
 have au:=zc (ar.out.step s7)
 clear ar
 have ad:=zc m7
 have ag:=zc i7
 clear i7 m7 s7 ap
 clear Y a1 K J Q U V X M O E D af
 have aE:w.heap.size+1<w7.heap.size:=o.out.lt
 unfold pv
 go_upto_region 26 with fail
 refine zL (R:=fun W=>Bx H S7 W (w.heap.size) _∧Bx H S7 W (w.heap.size+1) _∧Bx H S7 W (w7.heap.size) _∧Mem C H A z S7 q7 W∧SB w.heap.size S w S7 W) ⟨(j.out.alloc _),(o.out.alloc _),(Bx.new ad.out _),(ad.out.alloc _),(au.out.alloc _)⟩ ?_
 clear j o au ad
 rintro w8 ⟨X0,X1,X2,m8,t8⟩
 have j:=zc X0
 have o:=zc X1
 have ak:=zc X2
 have ay:=zc m8
 have ax:=zc t8
 clear m8 t8 X0 X1 X2
 obtain⟨c0,c1,c2,c3,c4,c5,c6,c7,c8,c9,az,aB,cf⟩:=ak.out.box
 go_wp2_with fail
 refine (zd7 C H A z _ S7 q7 z7 0 ⟨1,n7,n7,sNone⟩ _ ag.out.fst ay.out (zn7 ag.out)).mono ?_
 rintro e w9 ⟨S9,q9,z9,rfl,i9,m9,s9⟩
 replace j:=zc (j.out.stp s9)
 replace o:=zc (o.out.stp s9)
 replace ak:=zc (ak.out.stp s9)
 have aC:=zc (ax.out.step s9)
 clear ax
 have aD:=zc m9
 have aA:=zc i9
 clear i9 m9 s9 ay
 clear c0 c1 c2 c3 c4 c5 c6 c7 c8 c9 az aB cf
 obtain⟨b0,b1,b2,b3,b4,b5,b6,b7,b8,b9,aG,aF,bf⟩:=o.out.box
 unfold pv
 go_wp2
 refine bodyPost_ret (results_cell_row rfl _ _ (w.heap.size+1) 53 _ (0,0) _ rfl ((o.out.put ..)).heap Tryz.underlying53 rfl (by kernel_rfl)) rfl ?_
 rw[HV.out,←HQ.out,←ag.out.bind (fun q n=>zo C ⟨1,n,n,sNone⟩ q)]
 exact zY rfl aA.out (aD.out.put o.out ..) (aC.out.put (by omega) ..)
theorem znE (C:Cx) (H A z:Nat) (S:Sv) (q:PS) (w:World) (hm:Mem C H A z S q w) (hw:isT C q.pos 1 zaf=true) (h1:isT C (q.pos+1) 4 zJ=false) (h2:isT C (q.pos+1) 4 zw=false) (h3:isT C (q.pos+1) 1 sDefault=false) (h4:isT C (q.pos+1) 1 zC=false) (h5:isT C (q.pos+1) 1 zT=true):
  Calls Tryz.prog 71 #[pv C H A S q (-1) 0] w (Out C H A z (zag C q) 0 S w):=by
 have HM:=zc hm
 have I:=hm.few
 clear hm
 have HV:Hid (zag C q=bd (fnP C (adv q)) fun a=>zo C ⟨1,a.2,a.2,sNone⟩ a.1):=by
  show _=_
  rw[zag,zd,if_pos hw,zz]
  rw[zx,h1,h2,h3,h4,h5]
  rfl
 unfold pv
 go_enter Tryz.func71,Tryz.ntmps71
 go_wp2_with fail
 refine (zaH C H A z (.ok q) S q (-1) 0 zaf _ (zX q) ((HM.out.alloc _).alloc _)).mono ?_
 rintro e w1 ⟨S1,q1,z1,rfl,i1,m1,s1⟩
 obtain⟨X0,X1,t1⟩:=HM.out.two2 s1
 have j:=zc X0
 have o:=zc X1
 have aE:=zc m1
 have au:=zc t1
 have aF:=zc i1
 clear X0 X1 i1 m1 t1 s1
 obtain⟨ah,rfl⟩:=zcO aF.out hw
 have HQ:=zc ah
 have L:Hid (q1.pos=q.pos+1):=by show q1.pos=q.pos+1;rw[ah];rfl
 clear ah aF
 obtain⟨X,Z,K,J,O,Q,U,V,M,N,E,D,Y⟩:=j.out.box
 unfold pv
 go_upto_region 2 with fail
 refine zL (R:=fun W=>Bx H S1 W (w.heap.size) _∧Bx H S1 W (w.heap.size+1) _∧Mem C H A z S1 q1 W∧SB w.heap.size S w S1 W) ⟨(j.out.put ..),(o.out.other (by omega) ..),(aE.out.put j.out ..),(au.out.put (by omega) ..)⟩ ?_
 clear X Z K J O Q U V M N E D Y
 clear j o au aE
 rintro w2 ⟨X0,X1,m2,t2⟩
 have j:=zc X0
 have o:=zc X1
 have ai:=zc m2
 have av:=zc t2
 clear m2 t2 X0 X1
 obtain⟨X,Z,K,J,O,Q,U,V,M,N,E,D,Y⟩:=j.out.box
 go_wp2_with fail
 refine (zh C H A z S1 q1 (-1) 0 4 zJ _ ai.out.tok I (by decide)).mono ?_
 rintro e w3 ⟨rfl,ag⟩
 rw[L.out,h1]
 replace j:=zc (j.out.below ag)
 replace o:=zc (o.out.below ag)
 have aB:=zc (av.out.below ag)
 have am:=zc (ai.out.later ag)
 clear ag av ai
 clear X Z K J O Q U V M N E D Y
 obtain⟨X,Z,K,J,O,Q,U,V,M,N,E,D,Y⟩:=j.out.box
 go_wp2_with fail
 refine (zh C H A z S1 q1 (-1) 0 4 zw _ am.out.tok I (by decide)).mono ?_
 rintro e w4 ⟨rfl,ad⟩
 rw[L.out,h2]
 replace j:=zc (j.out.below ad)
 replace o:=zc (o.out.below ad)
 have ar:=zc (aB.out.below ad)
 have ak:=zc (am.out.later ad)
 clear ad aB am
 clear X Z K J O Q U V M N E D Y
 obtain⟨X,Z,K,J,O,Q,U,V,M,N,E,D,Y⟩:=j.out.box
 go_wp2_with fail
 refine (zh C H A z S1 q1 (-1) 0 1 sDefault _ ak.out.tok I (by decide)).mono ?_
 rintro e w5 ⟨rfl,ae⟩
 rw[L.out,h3]
 replace j:=zc (j.out.below ae)
 replace o:=zc (o.out.below ae)
 have aq:=zc (ar.out.below ae)
 have an:=zc (ak.out.later ae)
 clear ae ar ak
 clear X Z K J O Q U V M N E D Y
 obtain⟨X,Z,K,J,O,Q,U,V,M,N,E,D,Y⟩:=j.out.box
 go_wp2_with fail
 refine (zh C H A z S1 q1 (-1) 0 1 zC _ an.out.tok I (by decide)).mono ?_
 rintro e w6 ⟨rfl,ab⟩
 rw[L.out,h4]
 replace j:=zc (j.out.below ab)
 replace o:=zc (o.out.below ab)
 have aC:=zc (aq.out.below ab)
 have aj:=zc (an.out.later ab)
 clear ab aq an
 clear X Z K J O Q U V M N E D Y
 obtain⟨X,Z,K,J,O,Q,U,V,M,N,E,D,Y⟩:=j.out.box
 go_wp2_with fail
 refine (zh C H A z S1 q1 (-1) 0 1 zT _ aj.out.tok I (by decide)).mono ?_
 rintro e w7 ⟨rfl,ac⟩
 rw[L.out,h5]
 replace j:=zc (j.out.below ac)
 replace o:=zc (o.out.below ac)
 have aD:=zc (aC.out.below ac)
 have aw:=zc (aj.out.later ac)
 clear ac aC aj
 clear X Z K J O Q U V M N E D Y
 obtain⟨X,Z,K,J,O,Q,U,V,M,N,E,D,Y⟩:=j.out.box
 clear L
 go_wp2_with fail
 refine (zgH C H A z S1 q1 _ aw.out).mono ?_
 rintro e w8 ⟨S8,q8,z8,n8,rfl,i8,m8,s8⟩
 replace j:=zc (j.out.stp s8)
 replace o:=zc (o.out.stp s8)
 have aH:=zc (aD.out.step s8)
 clear aD
 have ap:=zc m8
 have al:=zc i8
 clear i8 m8 s8 aw
 clear X Z K J O Q U V M N E D Y
 have aM:w.heap.size+1<w8.heap.size:=o.out.lt
 unfold pv
 go_upto_region 29 with fail
 refine zL (R:=fun W=>Bx H S8 W (w.heap.size) _∧Bx H S8 W (w.heap.size+1) _∧Bx H S8 W (w8.heap.size) _∧Mem C H A z S8 q8 W∧SB w.heap.size S w S8 W) ⟨(j.out.alloc _),(o.out.alloc _),(Bx.new ap.out _),(ap.out.alloc _),(aH.out.alloc _)⟩ ?_
 clear j o aH ap
 rintro w9 ⟨X0,X1,X2,m9,t9⟩
 have j:=zc X0
 have o:=zc X1
 have ao:=zc X2
 have aI:=zc m9
 have aG:=zc t9
 clear m9 t9 X0 X1 X2
 obtain⟨c0,c1,c2,c3,c4,c5,c6,c7,c8,c9,aK,aL,cf⟩:=ao.out.box
 go_wp2_with fail
 refine (zd7 C H A z _ S8 q8 z8 0 ⟨1,n8,n8,sNone⟩ _ al.out.fst aI.out (zn8 al.out)).mono ?_
 rintro e aQ ⟨aS,aR,aN,rfl,aA,aJ,aa⟩
 replace j:=zc (j.out.stp aa)
 replace o:=zc (o.out.stp aa)
 replace ao:=zc (ao.out.stp aa)
 have ax:=zc (aG.out.step aa)
 clear aG
 have az:=zc aJ
 have ay:=zc aA
 clear aA aJ aa aI
 clear c0 c1 c2 c3 c4 c5 c6 c7 c8 c9 aK aL cf
 obtain⟨b0,b1,b2,b3,b4,b5,b6,b7,b8,b9,aP,aO,bf⟩:=o.out.box
 unfold pv
 go_wp2
 refine bodyPost_ret (results_cell_row rfl _ _ (w.heap.size+1) 53 _ (0,0) _ rfl ((o.out.put ..)).heap Tryz.underlying53 rfl (by kernel_rfl)) rfl ?_
 rw[HV.out,←HQ.out,←al.out.bind (fun q n=>zo C ⟨1,n,n,sNone⟩ q)]
 exact zY rfl ay.out (az.out.put o.out ..) (ax.out.put (by omega) ..)
theorem znF (C:Cx) (H D o:Nat) (S:Sv) (q:PS) (w:World) (hm:Mem C H D o S q w) (hw:isT C q.pos 1 zaf=true) (h1:isT C (q.pos+1) 4 zJ=false) (h2:isT C (q.pos+1) 4 zw=false) (h3:isT C (q.pos+1) 1 sDefault=false) (h4:isT C (q.pos+1) 1 zC=false) (h5:isT C (q.pos+1) 1 zT=false):
  Calls Tryz.prog 71 #[pv C H D S q (-1) 0] w (Out C H D o (zag C q) 0 S w):=by
 have HM:=zc hm
 have E:=hm.few
 clear hm
 have HV:Hid (zag C q= .error (zr C (adv q).pos)):=by
  show _=_
  rw[zag,zd,if_pos hw,zz]
  rw[zx,h1,h2,h3,h4,h5]
  rfl
 unfold pv
 go_enter Tryz.func71,Tryz.ntmps71
 go_wp2_with fail
 refine (zaH C H D o (.ok q) S q (-1) 0 zaf _ (zX q) ((HM.out.alloc _).alloc _)).mono ?_
 rintro e w1 ⟨S1,q1,z1,rfl,i1,m1,s1⟩
 obtain⟨X0,X1,t1⟩:=HM.out.two2 s1
 have j:=zc X0
 have n:=zc X1
 have aw:=zc m1
 have ap:=zc t1
 have ax:=zc i1
 clear X0 X1 i1 m1 t1 s1
 obtain⟨ag,rfl⟩:=zcO ax.out hw
 have HQ:=zc ag
 have K:Hid (q1.pos=q.pos+1):=by show q1.pos=q.pos+1;rw[ag];rfl
 clear ag ax
 obtain⟨V,Y,J,I,N,O,Q,U,L,M,A,z,X⟩:=j.out.box
 unfold pv
 go_upto_region 2 with fail
 refine zL (R:=fun W=>Bx H S1 W (w.heap.size) _∧Bx H S1 W (w.heap.size+1) _∧Mem C H D o S1 q1 W∧SB w.heap.size S w S1 W) ⟨(j.out.put ..),(n.out.other (by omega) ..),(aw.out.put j.out ..),(ap.out.put (by omega) ..)⟩ ?_
 clear V Y J I N O Q U L M A z X
 clear j n ap aw
 rintro w2 ⟨X0,X1,m2,t2⟩
 have j:=zc X0
 have n:=zc X1
 have ai:=zc m2
 have aq:=zc t2
 clear m2 t2 X0 X1
 obtain⟨V,Y,J,I,N,O,Q,U,L,M,A,z,X⟩:=j.out.box
 go_wp2_with fail
 refine (zh C H D o S1 q1 (-1) 0 4 zJ _ ai.out.tok E (by decide)).mono ?_
 rintro e w3 ⟨rfl,ae⟩
 rw[K.out,h1]
 replace j:=zc (j.out.below ae)
 replace n:=zc (n.out.below ae)
 have ar:=zc (aq.out.below ae)
 have al:=zc (ai.out.later ae)
 clear ae aq ai
 clear V Y J I N O Q U L M A z X
 obtain⟨V,Y,J,I,N,O,Q,U,L,M,A,z,X⟩:=j.out.box
 go_wp2_with fail
 refine (zh C H D o S1 q1 (-1) 0 4 zw _ al.out.tok E (by decide)).mono ?_
 rintro e w4 ⟨rfl,ac⟩
 rw[K.out,h2]
 replace j:=zc (j.out.below ac)
 replace n:=zc (n.out.below ac)
 have ao:=zc (ar.out.below ac)
 have ak:=zc (al.out.later ac)
 clear ac ar al
 clear V Y J I N O Q U L M A z X
 obtain⟨V,Y,J,I,N,O,Q,U,L,M,A,z,X⟩:=j.out.box
 go_wp2_with fail
 refine (zh C H D o S1 q1 (-1) 0 1 sDefault _ ak.out.tok E (by decide)).mono ?_
 rintro e w5 ⟨rfl,ad⟩
 rw[K.out,h3]
 replace j:=zc (j.out.below ad)
 replace n:=zc (n.out.below ad)
 have an:=zc (ao.out.below ad)
 have am:=zc (ak.out.later ad)
 clear ad ao ak
 clear V Y J I N O Q U L M A z X
 obtain⟨V,Y,J,I,N,O,Q,U,L,M,A,z,X⟩:=j.out.box
 go_wp2_with fail
 refine (zh C H D o S1 q1 (-1) 0 1 zC _ am.out.tok E (by decide)).mono ?_
 rintro e w6 ⟨rfl,Z⟩
 rw[K.out,h4]
 replace j:=zc (j.out.below Z)
 replace n:=zc (n.out.below Z)
 have au:=zc (an.out.below Z)
 have aj:=zc (am.out.later Z)
 clear Z an am
 clear V Y J I N O Q U L M A z X
 obtain⟨V,Y,J,I,N,O,Q,U,L,M,A,z,X⟩:=j.out.box
 go_wp2_with fail
 refine (zh C H D o S1 q1 (-1) 0 1 zT _ aj.out.tok E (by decide)).mono ?_
 rintro e w7 ⟨rfl,aa⟩
 rw[K.out,h5]
 replace j:=zc (j.out.below aa)
 replace n:=zc (n.out.below aa)
 have av:=zc (au.out.below aa)
 have ah:=zc (aj.out.later aa)
 clear aa au aj
 clear V Y J I N O Q U L M A z X
 obtain⟨V,Y,J,I,N,O,Q,U,L,M,A,z,X⟩:=j.out.box
 clear K
 go_wp2_with fail
 refine (zda C H D o S1 q1 (-1) 0 _ ah.out.tok E).mono ?_
 rintro e w8 ⟨rfl,ab⟩
 replace j:=zc (j.out.below ab)
 replace n:=zc (n.out.below ab)
 have ay:=zc (av.out.below ab)
 have az:=zc (ah.out.later ab)
 clear ab av ah
 clear V Y J I N O Q U L M A z X
 obtain⟨b0,b1,b2,b3,b4,b5,b6,b7,b8,b9,aB,aA,bf⟩:=n.out.box
 unfold pv
 go_wp2
 refine bodyPost_ret (results_cell_row rfl _ _ (w.heap.size+1) 53 _ (0,0) _ rfl ((n.out.put ..)).heap Tryz.underlying53 rfl (by kernel_rfl)) rfl ?_
 rw[HV.out,←HQ.out]
 exact zY rfl (show Is (.error (zr C q1.pos)) q1 _ from rfl) (az.out.put n.out ..) (ay.out.put (by omega) ..)
theorem znG (C:Cx) (I D o:Nat) (S:Sv) (q:PS) (w:World) (hm:Mem C I D o S q w) (hw:isT C q.pos 1 zaf=true) (h1:isT C (q.pos+1) 4 zJ=true):
  Calls Tryz.prog 71 #[pv C I D S q (-1) 0] w (Out C I D o (zag C q) 0 S w):=by
 have HM:=zc hm
 have aI:=hm.few
 clear hm
 have HV:Hid (zag C q=bd (zcw C true (adv q)) fun a=>if !za8 a.2&& !isT C a.1.pos 1 zU then bd (zd C 4 cSemi a.1) fun q=>zP (fun e=>zo C (zA e)) a.2 (.ok q) else bd (zaR C (zaE C (.ok a.1))) fun b=>zP (fun e=>zo C (zai b.2 e)) a.2 (.ok b.1)):=by
  show _=_
  rw[zag,zd,if_pos hw,zz]
  rw[zx,h1]
  rfl
 unfold pv
 go_enter Tryz.func71,Tryz.ntmps71
 go_wp2_with fail
 refine (zaH C I D o (.ok q) S q (-1) 0 zaf _ (zX q) ((HM.out.alloc _).alloc _)).mono ?_
 rintro e w1 ⟨S1,q1,z1,rfl,i1,m1,s1⟩
 obtain⟨V,X,t1⟩:=HM.out.two2 s1
 have n:=zc V
 have z:=zc X
 have be:=zc m1
 have aV:=zc t1
 have bg:=zc i1
 clear V X i1 m1 t1 s1
 obtain⟨aN,rfl⟩:=zcO bg.out hw
 have HQ:=zc aN
 have aW:Hid (q1.pos=q.pos+1):=by show q1.pos=q.pos+1;rw[aN];rfl
 clear aN bg
 obtain⟨a0,a1,a2,a3,a4,a5,a6,a7,a8,a9,M,L,af⟩:=n.out.box
 unfold pv
 go_upto_region 2 with fail
 refine zL (R:=fun W=>Bx I S1 W (w.heap.size) _∧Bx I S1 W (w.heap.size+1) _∧Mem C I D o S1 q1 W∧SB w.heap.size S w S1 W) ⟨(n.out.put ..),(z.out.other (by omega) ..),(be.out.put n.out ..),(aV.out.put (by omega) ..)⟩ ?_
 clear a0 a1 a2 a3 a4 a5 a6 a7 a8 a9 M L af
 clear n z aV be
 rintro w2 ⟨V,X,m2,t2⟩
 have n:=zc V
 have z:=zc X
 have aO:=zc m2
 have aX:=zc t2
 clear m2 t2 V X
 have aR:Hid (zag C q=bd (zcw C true q1) fun a=>if !za8 a.2&& !isT C a.1.pos 1 zU then bd (zd C 4 cSemi a.1) fun q=>zP (fun e=>zo C (zA e)) a.2 (.ok q) else bd (zaR C (zaE C (.ok a.1))) fun b=>zP (fun e=>zo C (zai b.2 e)) a.2 (.ok b.1)):=by show _=_;rw[HQ.out];exact HV.out
 obtain⟨a0,a1,a2,a3,a4,a5,a6,a7,a8,a9,M,L,af⟩:=n.out.box
 go_wp2_with fail
 refine (zh C I D o S1 q1 (-1) 0 4 zJ _ aO.out.tok aI (by decide)).mono ?_
 rintro e w3 ⟨rfl,aJ⟩
 rw[aW.out,h1]
 replace n:=zc (n.out.below aJ)
 replace z:=zc (z.out.below aJ)
 have aP:=zc (aX.out.below aJ)
 have bi:=zc (aO.out.later aJ)
 clear aJ aX aO
 clear a0 a1 a2 a3 a4 a5 a6 a7 a8 a9 M L af
 obtain⟨a0,a1,a2,a3,a4,a5,a6,a7,a8,a9,M,L,af⟩:=n.out.box
 clear aW
 have bk:=aP.out.size
 go_wp2_with fail
 refine (zi7 C I D o S1 q1 0 true _ bi.out).mono ?_
 rintro e w4 ⟨S4,q4,z4,⟨ra,rc⟩,l,rfl,i4,m4,s4,R0,hl⟩
 obtain⟨g,rfl⟩: ∃g,ra=some ⟨g,0,none⟩:=R0.addr
 replace n:=zc (n.out.stp s4)
 replace z:=zc (z.out.stp s4)
 have aU:=zc (aP.out.step s4)
 clear aP
 have aQ:=zc m4
 have ap:=zc i4
 clear i4 m4 s4 bi
 clear a0 a1 a2 a3 a4 a5 a6 a7 a8 a9 M L af
 have E:Hid (Row S4 w4 o w.heap.size ⟨some ⟨g,0,none⟩,rc⟩ l):=⟨R0.own,R0.free,fun k hk=>Nat.le_trans bk (R0.new k hk),R0.addr⟩
 clear R0
 have bm:w.heap.size+1<w4.heap.size:=z.out.lt
 unfold pv
 go_upto_region 4 with fail
 refine zL (R:=fun W=>Bx I S4 W (w.heap.size) _∧Bx I S4 W (w.heap.size+1) _∧Bx I S4 W (w4.heap.size) _∧Row S4 W o w.heap.size ⟨some ⟨g,0,none⟩,rc⟩ l∧Mem C I D o S4 q4 W∧SB w.heap.size S w S4 W) ⟨(n.out.alloc _),(z.out.alloc _),(Bx.new aQ.out _),(E.out.alloc _),(aQ.out.alloc _),(aU.out.alloc _)⟩ ?_
 clear n z aU aQ
 clear E
 rintro w5 ⟨V,X,X2,R0,m5,t5⟩
 have E:=zc R0
 clear R0
 have n:=zc V
 have z:=zc X
 have A:=zc X2
 have aB:=zc m5
 have aF:=zc t5
 clear m5 t5 V X X2
 cases hA:za8 l with
 |true=>
  skip
  obtain⟨c0,c1,c2,c3,c4,c5,c6,c7,c8,c9,ah,aj,cf⟩:=A.out.box
  go_wp2_with fail
  refine (zaH C I D o _ S4 q4 z4 0 zU _ ap.out.fst aB.out).mono ?_
  rintro e w6 ⟨S6,q6,z6,rfl,i6,m6,s6⟩
  replace n:=zc (n.out.stp s6)
  replace z:=zc (z.out.stp s6)
  replace A:=zc (A.out.stp s6)
  have az:=zc (aF.out.step s6)
  have J:Hid (Row S6 w6 o w.heap.size ⟨some ⟨g,0,none⟩,rc⟩ l):=E.out.stp s6
  clear E
  have E:=zc J
  clear J
  clear aF
  have au:=zc m6
  have bl:=zc i6
  clear i6 m6 s6 aB
  clear c0 c1 c2 c3 c4 c5 c6 c7 c8 c9 ah aj cf
  go_wp2_with fail
  refine (zdA C I D o _ S6 q6 z6 0 _ bl.out au.out).mono ?_
  rintro e w7 ⟨S7,q7,z7,n7,rfl,i7,m7,s7⟩
  replace n:=zc (n.out.stp s7)
  replace z:=zc (z.out.stp s7)
  replace A:=zc (A.out.stp s7)
  have aA:=zc (az.out.step s7)
  have J:Hid (Row S7 w7 o w.heap.size ⟨some ⟨g,0,none⟩,rc⟩ l):=E.out.stp s7
  clear E
  have E:=zc J
  clear J
  clear az
  have ai:=zc m7
  have aE:=zc i7
  clear i7 m7 s7 au
  have aZ:w.heap.size+1<w7.heap.size:=z.out.lt
  have aK:w4.heap.size<w7.heap.size:=A.out.lt
  unfold pv
  go_upto_region 12 with fail
  refine zL (R:=fun W=>Bx I S7 W (w.heap.size) _∧Bx I S7 W (w.heap.size+1) _∧Bx I S7 W (w4.heap.size) _∧Bx I S7 W (w7.heap.size) _∧Row S7 W o w.heap.size ⟨some ⟨g,0,none⟩,rc⟩ l∧Mem C I D o S7 q7 W∧SB w.heap.size S w S7 W) ⟨(n.out.alloc _),(z.out.alloc _),(A.out.alloc _),(Bx.new ai.out _),(E.out.alloc _),(ai.out.alloc _),(aA.out.alloc _)⟩ ?_
  clear n z A aA ai
  clear E
  rintro w8 ⟨V,X,X2,X3,R0,m8,t8⟩
  have E:=zc R0
  clear R0
  have n:=zc V
  have z:=zc X
  have A:=zc X2
  have aa:=zc X3
  have am:=zc m8
  have aC:=zc t8
  clear m8 t8 V X X2 X3
  obtain⟨d0,d1,d2,d3,d4,d5,d6,d7,d8,d9,al,ak,df⟩:=aa.out.box
  go_wp2_with fail
  refine (zad C I D o _ S7 q7 z7 0 cSemi _ aE.out.fst am.out).mono ?_
  rintro e w9 ⟨S9,q9,z9,rfl,i9,m9,s9⟩
  replace n:=zc (n.out.stp s9)
  replace z:=zc (z.out.stp s9)
  replace A:=zc (A.out.stp s9)
  replace aa:=zc (aa.out.stp s9)
  have ac:=zc (aC.out.step s9)
  have J:Hid (Row S9 w9 o w.heap.size ⟨some ⟨g,0,none⟩,rc⟩ l):=E.out.stp s9
  clear E
  have E:=zc J
  clear J
  clear aC
  have ad:=zc m9
  have ab:=zc i9
  clear i9 m9 s9 am
  clear d0 d1 d2 d3 d4 d5 d6 d7 d8 d9 al ak df
  obtain⟨a0,a1,a2,a3,a4,a5,a6,a7,a8,a9,M,L,af⟩:=n.out.box
  unfold pv
  go_upto_region 13 with fail
  refine zL (R:=fun W=>Bx I S9 W (w.heap.size) _∧Bx I S9 W (w.heap.size+1) _∧Bx I S9 W (w4.heap.size) _∧Bx I S9 W (w7.heap.size) _∧Row S9 W o w.heap.size ⟨some ⟨g,0,none⟩,rc⟩ l∧Mem C I D o S9 q9 W∧SB w.heap.size S w S9 W) ⟨(n.out.put ..),(z.out.other (by omega) ..),(A.out.other (by omega) ..),(aa.out.other (by omega) ..),(E.out.put n.out ..),(ad.out.put n.out ..),(ac.out.put (by omega) ..)⟩ ?_
  clear a0 a1 a2 a3 a4 a5 a6 a7 a8 a9 M L af
  clear n z A aa ac ad
  clear E
  rintro an ⟨V,X,X2,X3,R0,ae,bb⟩
  have E:=zc R0
  clear R0
  have n:=zc V
  have z:=zc X
  have A:=zc X2
  have aa:=zc X3
  have U:=zc ae
  have aq:=zc bb
  clear ae bb V X X2 X3
  have aG:Hid (_=zag C q):=(zgI (G:=fun b e=>zo C (zai b e)) ap.out aE.out).trans ((ziO ap.out (.inl hA)).trans aR.out.symm)
  go_wp2
  go_loopg [9] l.length (fun k i wr=>∃(j:Nat) (x':PR) (K:Sv) (Y:PS) (z':Int),j≤l.length∧i= .int .i64 j∧Is x' Y z'∧(z'<0→1≤Y.pos)∧zP (fun e=>zo C (zai n7 e)) (l.drop j) x'=zag C q∧l.length-j=k∧Mem C I D o K Y wr∧SB w.heap.size S w K wr∧Bx I K wr w.heap.size #[.slice (some ⟨I,0,none⟩) C.ts.length D,.int .i64 Y.pos,.int .i64 C.fin,.bool C.scr,.slice K.rq.a Y.rq.length K.rq.cap,.slice K.im.a Y.im.length K.im.cap,.slice K.ep.a Y.ep.length K.ep.cap,.slice K.st.a Y.st.length K.st.cap,.slice K.ex.a Y.ex.length K.ex.cap,.slice K.la.a Y.la.length K.la.cap,.int .i64 z',.int .i64 0]∧Bx I K wr (w.heap.size+1) #[.slice none 0 0,.int .i64 0,.int .i64 0,.bool false,.slice none 0 0,.slice none 0 0,.slice none 0 0,.slice none 0 0,.slice none 0 0,.slice none 0 0,.int .i64 0,.int .i64 0]∧Row K wr o w.heap.size ⟨some ⟨g,0,none⟩,rc⟩ l)
  case atStart=>exact⟨0,_,S9,q9,z9,Nat.zero_le _,rfl,ab.out,zbh ab.out,aG.out,rfl,U.out,aq.out,n.out,z.out,E.out⟩
  case round=>
   obtain⟨j,x9,S9,q9,z9,hj,rfl,i9,p9,e9,g9,m9,t9,V,X,R0⟩:=hrel
   clear n z A aa E U aq
   have n:=zc V
   have z:=zc X
   have ad:=zc m9
   have ac:=zc t9
   have ab:=zc i9
   have ao:=zc p9
   have ar:=zc e9
   have aw:=zc g9
   have E:=zc R0
   clear V X i9 m9 t9 e9 g9 R0 p9
   by_cases ax:j<l.length
   ·skip
    obtain⟨c1,c2⟩:=E.out.cells (g:=g) rfl ax
    have ba:=E.out.own.lt (g:=g) rfl
    have HX:Hid (∀e,e=l[j]→zP (fun e=>zo C (zai n7 e)) (l.drop (j+1)) (bd x9 (zo C (zai n7 e)))=zag C q):=fun e he=>by rw[he,←ar.out];exact (zf7 (fun e=>zo C (zai n7 e)) l x9 ax).symm
    generalize av:l[j]=el at c1 c2
    have aH:Hid (el=l[j]):=av.symm
    clear av
    obtain⟨a0,a1,a2,a3,a4,a5,a6,a7,a8,a9,M,L,af⟩:=n.out.box
    go_upto_region 16 with fail
    go_region_law (first|(go_simp;go_wp2_with (go_at_call 134;refine (zd7 C I D o x9 S9 q9 z9 0 (zai n7 el) _ ab.out ad.out.drew ao.out).mono ?_;rintro e an ⟨O,ay,aD,rfl,ag,ae,N⟩;obtain⟨d0,d1,d2,d3,d4,d5,d6,d7,d8,d9,al,ak,df⟩:=(n.out.stp N.undrew).box;unfold pv)))
    all_goals
     clear a0 a1 a2 a3 a4 a5 a6 a7 a8 a9 M L af d0 d1 d2 d3 d4 d5 d6 d7 d8 d9 al ak df
     have Q:=zc ag
     have U:=zc ae
     have H:Hid (Stp S9 wr O an):=N.undrew
     clear ag ae N
     go_wp2
     go_roundg (gk-1)
     case rel=>exact⟨j+1,_,O,ay,aD,by omega,by go_num,Q.out,zgJ ao.out ab.out Q.out,HX.out el aH.out,by have:=aw.out;omega,U.out.put (n.out.stp H.out) _ _ _ _ _ _ _ _ _ _ _ _,(ac.out.step H.out).put (by omega) _ _ _ _ _ _ _ _ _ _ _ _,(n.out.stp H.out).put _ _ _ _ _ _ _ _ _ _ _ _,(z.out.stp H.out).other (by omega) _ _ _ _ _ _ _ _ _ _ _ _,(E.out.stp H.out).put (n.out.stp H.out) _ _ _ _ _ _ _ _ _ _ _ _⟩
     case measure=>have:=aw.out;omega
   ·skip
    obtain⟨a0,a1,a2,a3,a4,a5,a6,a7,a8,a9,M,L,af⟩:=n.out.box
    obtain⟨b0,b1,b2,b3,b4,b5,b6,b7,b8,b9,aT,aS,bf⟩:=z.out.box
    go_wp2
    refine bodyPost_ret (results_cell_row rfl _ _ (w.heap.size+1) 53 _ (0,0) _ rfl ((z.out.put ..)).heap Tryz.underlying53 rfl (by kernel_rfl)) rfl ?_
    exact zY rfl (show Is (zag C q) q9 z9 from by rw[←ar.out,List.drop_eq_nil_of_le (by omega)];exact ab.out) (ad.out.put z.out ..) (ac.out.put (by omega) ..)
 |false=>
  cases hF:(decide (z4<0)&&isT C q4.pos 1 zU) with
  |true=>
   obtain⟨c0,c1,c2,c3,c4,c5,c6,c7,c8,c9,ah,aj,cf⟩:=A.out.box
   go_wp2_with fail
   refine (zh C I D o S4 q4 z4 0 1 zU _ aB.out.tok aI (by decide)).mono ?_
   rintro e w6 ⟨rfl,Z⟩
   rw[hF]
   replace n:=zc (n.out.below Z)
   replace z:=zc (z.out.below Z)
   replace A:=zc (A.out.below Z)
   have az:=zc (aF.out.below Z)
   have au:=zc (aB.out.later Z)
   have J:Hid (Row S4 w6 o w.heap.size ⟨some ⟨g,0,none⟩,rc⟩ l):=E.out.below Z
   clear E
   have E:=zc J
   clear J
   clear Z aF aB
   clear c0 c1 c2 c3 c4 c5 c6 c7 c8 c9 ah aj cf
   obtain⟨c0,c1,c2,c3,c4,c5,c6,c7,c8,c9,ah,aj,cf⟩:=A.out.box
   go_wp2_with fail
   refine (zaH C I D o _ S4 q4 z4 0 zU _ ap.out.fst au.out).mono ?_
   rintro e w7 ⟨S7,q7,z7,rfl,i7,m7,s7⟩
   replace n:=zc (n.out.stp s7)
   replace z:=zc (z.out.stp s7)
   replace A:=zc (A.out.stp s7)
   have aA:=zc (az.out.step s7)
   have J:Hid (Row S7 w7 o w.heap.size ⟨some ⟨g,0,none⟩,rc⟩ l):=E.out.stp s7
   clear E
   have E:=zc J
   clear J
   clear az
   have ai:=zc m7
   have aE:=zc i7
   clear i7 m7 s7 au
   clear c0 c1 c2 c3 c4 c5 c6 c7 c8 c9 ah aj cf
   go_wp2_with fail
   refine (zdA C I D o _ S7 q7 z7 0 _ aE.out ai.out).mono ?_
   rintro e w8 ⟨S8,q8,z8,n8,rfl,i8,m8,s8⟩
   replace n:=zc (n.out.stp s8)
   replace z:=zc (z.out.stp s8)
   replace A:=zc (A.out.stp s8)
   have aC:=zc (aA.out.step s8)
   have J:Hid (Row S8 w8 o w.heap.size ⟨some ⟨g,0,none⟩,rc⟩ l):=E.out.stp s8
   clear E
   have E:=zc J
   clear J
   clear aA
   have am:=zc m8
   have bc:=zc i8
   clear i8 m8 s8 ai
   have aZ:w.heap.size+1<w8.heap.size:=z.out.lt
   have aK:w4.heap.size<w8.heap.size:=A.out.lt
   unfold pv
   go_upto_region 12 with fail
   refine zL (R:=fun W=>Bx I S8 W (w.heap.size) _∧Bx I S8 W (w.heap.size+1) _∧Bx I S8 W (w4.heap.size) _∧Bx I S8 W (w8.heap.size) _∧Row S8 W o w.heap.size ⟨some ⟨g,0,none⟩,rc⟩ l∧Mem C I D o S8 q8 W∧SB w.heap.size S w S8 W) ⟨(n.out.alloc _),(z.out.alloc _),(A.out.alloc _),(Bx.new am.out _),(E.out.alloc _),(am.out.alloc _),(aC.out.alloc _)⟩ ?_
   clear n z A aC am
   clear E
   rintro w9 ⟨V,X,X2,X3,R0,m9,t9⟩
   have E:=zc R0
   clear R0
   have n:=zc V
   have z:=zc X
   have A:=zc X2
   have aa:=zc X3
   have ad:=zc m9
   have ac:=zc t9
   clear m9 t9 V X X2 X3
   obtain⟨d0,d1,d2,d3,d4,d5,d6,d7,d8,d9,al,ak,df⟩:=aa.out.box
   go_wp2_with fail
   refine (zad C I D o _ S8 q8 z8 0 cSemi _ bc.out.fst ad.out).mono ?_
   rintro e an ⟨O,ay,aD,rfl,ag,ae,N⟩
   replace n:=zc (n.out.stp N)
   replace z:=zc (z.out.stp N)
   replace A:=zc (A.out.stp N)
   replace aa:=zc (aa.out.stp N)
   have aq:=zc (ac.out.step N)
   have J:Hid (Row O an o w.heap.size ⟨some ⟨g,0,none⟩,rc⟩ l):=E.out.stp N
   clear E
   have E:=zc J
   clear J
   clear ac
   have U:=zc ae
   have Q:=zc ag
   clear ag ae N ad
   clear d0 d1 d2 d3 d4 d5 d6 d7 d8 d9 al ak df
   obtain⟨a0,a1,a2,a3,a4,a5,a6,a7,a8,a9,M,L,af⟩:=n.out.box
   unfold pv
   go_upto_region 13 with fail
   refine zL (R:=fun W=>Bx I O W (w.heap.size) _∧Bx I O W (w.heap.size+1) _∧Bx I O W (w4.heap.size) _∧Bx I O W (w8.heap.size) _∧Row O W o w.heap.size ⟨some ⟨g,0,none⟩,rc⟩ l∧Mem C I D o O ay W∧SB w.heap.size S w O W) ⟨(n.out.put ..),(z.out.other (by omega) ..),(A.out.other (by omega) ..),(aa.out.other (by omega) ..),(E.out.put n.out ..),(U.out.put n.out ..),(aq.out.put (by omega) ..)⟩ ?_
   clear a0 a1 a2 a3 a4 a5 a6 a7 a8 a9 M L af
   clear n z A aa aq U
   clear E
   rintro bn ⟨V,X,X2,X3,R0,aY,bj⟩
   have E:=zc R0
   clear R0
   have n:=zc V
   have z:=zc X
   have A:=zc X2
   have aa:=zc X3
   have aL:=zc aY
   have aM:=zc bj
   clear aY bj V X X2 X3
   have aG:Hid (_=zag C q):=(zgI (G:=fun b e=>zo C (zai b e)) ap.out bc.out).trans ((ziO ap.out (.inr hF)).trans aR.out.symm)
   go_wp2
   go_loopg [9] l.length (fun k i wr=>∃(j:Nat) (x':PR) (K:Sv) (Y:PS) (z':Int),j≤l.length∧i= .int .i64 j∧Is x' Y z'∧(z'<0→1≤Y.pos)∧zP (fun e=>zo C (zai n8 e)) (l.drop j) x'=zag C q∧l.length-j=k∧Mem C I D o K Y wr∧SB w.heap.size S w K wr∧Bx I K wr w.heap.size #[.slice (some ⟨I,0,none⟩) C.ts.length D,.int .i64 Y.pos,.int .i64 C.fin,.bool C.scr,.slice K.rq.a Y.rq.length K.rq.cap,.slice K.im.a Y.im.length K.im.cap,.slice K.ep.a Y.ep.length K.ep.cap,.slice K.st.a Y.st.length K.st.cap,.slice K.ex.a Y.ex.length K.ex.cap,.slice K.la.a Y.la.length K.la.cap,.int .i64 z',.int .i64 0]∧Bx I K wr (w.heap.size+1) #[.slice none 0 0,.int .i64 0,.int .i64 0,.bool false,.slice none 0 0,.slice none 0 0,.slice none 0 0,.slice none 0 0,.slice none 0 0,.slice none 0 0,.int .i64 0,.int .i64 0]∧Row K wr o w.heap.size ⟨some ⟨g,0,none⟩,rc⟩ l)
   case atStart=>exact⟨0,_,O,ay,aD,Nat.zero_le _,rfl,Q.out,zbh Q.out,aG.out,rfl,aL.out,aM.out,n.out,z.out,E.out⟩
   case round=>
    obtain⟨j,x9,S9,q9,z9,hj,rfl,i9,p9,e9,g9,m9,t9,V,X,R0⟩:=hrel
    clear n z A aa E aL aM
    have n:=zc V
    have z:=zc X
    have ad:=zc m9
    have ac:=zc t9
    have ab:=zc i9
    have ao:=zc p9
    have ar:=zc e9
    have aw:=zc g9
    have E:=zc R0
    clear V X i9 m9 t9 e9 g9 R0 p9
    by_cases ax:j<l.length
    ·skip
     obtain⟨c1,c2⟩:=E.out.cells (g:=g) rfl ax
     have ba:=E.out.own.lt (g:=g) rfl
     have HX:Hid (∀e,e=l[j]→zP (fun e=>zo C (zai n8 e)) (l.drop (j+1)) (bd x9 (zo C (zai n8 e)))=zag C q):=fun e he=>by rw[he,←ar.out];exact (zf7 (fun e=>zo C (zai n8 e)) l x9 ax).symm
     generalize av:l[j]=el at c1 c2
     have aH:Hid (el=l[j]):=av.symm
     clear av
     obtain⟨a0,a1,a2,a3,a4,a5,a6,a7,a8,a9,M,L,af⟩:=n.out.box
     go_upto_region 16 with fail
     go_region_law (first|(go_simp;go_wp2_with (go_at_call 134;refine (zd7 C I D o x9 S9 q9 z9 0 (zai n8 el) _ ab.out ad.out.drew ao.out).mono ?_;rintro e an ⟨O,ay,aD,rfl,ag,ae,N⟩;obtain⟨d0,d1,d2,d3,d4,d5,d6,d7,d8,d9,al,ak,df⟩:=(n.out.stp N.undrew).box;unfold pv)))
     all_goals
      clear a0 a1 a2 a3 a4 a5 a6 a7 a8 a9 M L af d0 d1 d2 d3 d4 d5 d6 d7 d8 d9 al ak df
      have Q:=zc ag
      have U:=zc ae
      have H:Hid (Stp S9 wr O an):=N.undrew
      clear ag ae N
      go_wp2
      go_roundg (gk-1)
      case rel=>exact⟨j+1,_,O,ay,aD,by omega,by go_num,Q.out,zgJ ao.out ab.out Q.out,HX.out el aH.out,by have:=aw.out;omega,U.out.put (n.out.stp H.out) _ _ _ _ _ _ _ _ _ _ _ _,(ac.out.step H.out).put (by omega) _ _ _ _ _ _ _ _ _ _ _ _,(n.out.stp H.out).put _ _ _ _ _ _ _ _ _ _ _ _,(z.out.stp H.out).other (by omega) _ _ _ _ _ _ _ _ _ _ _ _,(E.out.stp H.out).put (n.out.stp H.out) _ _ _ _ _ _ _ _ _ _ _ _⟩
      case measure=>have:=aw.out;omega
    ·skip
     obtain⟨a0,a1,a2,a3,a4,a5,a6,a7,a8,a9,M,L,af⟩:=n.out.box
     obtain⟨b0,b1,b2,b3,b4,b5,b6,b7,b8,b9,aT,aS,bf⟩:=z.out.box
     go_wp2
     refine bodyPost_ret (results_cell_row rfl _ _ (w.heap.size+1) 53 _ (0,0) _ rfl ((z.out.put ..)).heap Tryz.underlying53 rfl (by kernel_rfl)) rfl ?_
     exact zY rfl (show Is (zag C q) q9 z9 from by rw[←ar.out,List.drop_eq_nil_of_le (by omega)];exact ab.out) (ad.out.put z.out ..) (ac.out.put (by omega) ..)
  |false=>
   obtain⟨c0,c1,c2,c3,c4,c5,c6,c7,c8,c9,ah,aj,cf⟩:=A.out.box
   go_wp2_with fail
   refine (zh C I D o S4 q4 z4 0 1 zU _ aB.out.tok aI (by decide)).mono ?_
   rintro e w6 ⟨rfl,Z⟩
   rw[hF]
   replace n:=zc (n.out.below Z)
   replace z:=zc (z.out.below Z)
   replace A:=zc (A.out.below Z)
   have az:=zc (aF.out.below Z)
   have au:=zc (aB.out.later Z)
   have J:Hid (Row S4 w6 o w.heap.size ⟨some ⟨g,0,none⟩,rc⟩ l):=E.out.below Z
   clear E
   have E:=zc J
   clear J
   clear Z aF aB
   clear c0 c1 c2 c3 c4 c5 c6 c7 c8 c9 ah aj cf
   obtain⟨c0,c1,c2,c3,c4,c5,c6,c7,c8,c9,ah,aj,cf⟩:=A.out.box
   go_wp2_with fail
   refine (zad C I D o _ S4 q4 z4 0 cSemi _ ap.out.fst au.out).mono ?_
   rintro e w7 ⟨S7,q7,z7,rfl,i7,m7,s7⟩
   replace n:=zc (n.out.stp s7)
   replace z:=zc (z.out.stp s7)
   replace A:=zc (A.out.stp s7)
   have aA:=zc (az.out.step s7)
   have J:Hid (Row S7 w7 o w.heap.size ⟨some ⟨g,0,none⟩,rc⟩ l):=E.out.stp s7
   clear E
   have E:=zc J
   clear J
   clear az
   have ai:=zc m7
   have aE:=zc i7
   clear i7 m7 s7 au
   clear c0 c1 c2 c3 c4 c5 c6 c7 c8 c9 ah aj cf
   obtain⟨a0,a1,a2,a3,a4,a5,a6,a7,a8,a9,M,L,af⟩:=n.out.box
   unfold pv
   go_upto_region 6 with fail
   refine zL (R:=fun W=>Bx I S7 W (w.heap.size) _∧Bx I S7 W (w.heap.size+1) _∧Bx I S7 W (w4.heap.size) _∧Row S7 W o w.heap.size ⟨some ⟨g,0,none⟩,rc⟩ l∧Mem C I D o S7 q7 W∧SB w.heap.size S w S7 W) ⟨(n.out.put ..),(z.out.other (by omega) ..),(A.out.other (by omega) ..),(E.out.put n.out ..),(ai.out.put n.out ..),(aA.out.put (by omega) ..)⟩ ?_
   clear a0 a1 a2 a3 a4 a5 a6 a7 a8 a9 M L af
   clear n z A aA ai
   clear E
   rintro w8 ⟨V,X,X2,R0,m8,t8⟩
   have E:=zc R0
   clear R0
   have n:=zc V
   have z:=zc X
   have A:=zc X2
   have am:=zc m8
   have aC:=zc t8
   clear m8 t8 V X X2
   have aG:Hid (_=zag C q):=(znA ap.out hA hF).trans aR.out.symm
   go_wp2
   go_loopg [6] l.length (fun k i wr=>∃(j:Nat) (x':PR) (K:Sv) (Y:PS) (z':Int),j≤l.length∧i= .int .i64 j∧Is x' Y z'∧(z'<0→1≤Y.pos)∧zP (fun e=>zo C (zA e)) (l.drop j) x'=zag C q∧l.length-j=k∧Mem C I D o K Y wr∧SB w.heap.size S w K wr∧Bx I K wr w.heap.size #[.slice (some ⟨I,0,none⟩) C.ts.length D,.int .i64 Y.pos,.int .i64 C.fin,.bool C.scr,.slice K.rq.a Y.rq.length K.rq.cap,.slice K.im.a Y.im.length K.im.cap,.slice K.ep.a Y.ep.length K.ep.cap,.slice K.st.a Y.st.length K.st.cap,.slice K.ex.a Y.ex.length K.ex.cap,.slice K.la.a Y.la.length K.la.cap,.int .i64 z',.int .i64 0]∧Bx I K wr (w.heap.size+1) #[.slice none 0 0,.int .i64 0,.int .i64 0,.bool false,.slice none 0 0,.slice none 0 0,.slice none 0 0,.slice none 0 0,.slice none 0 0,.slice none 0 0,.int .i64 0,.int .i64 0]∧Row K wr o w.heap.size ⟨some ⟨g,0,none⟩,rc⟩ l)
   case atStart=>exact⟨0,_,S7,q7,z7,Nat.zero_le _,rfl,aE.out,zbh aE.out,aG.out,rfl,am.out,aC.out,n.out,z.out,E.out⟩
   case round=>
    obtain⟨j,x9,S9,q9,z9,hj,rfl,i9,p9,e9,g9,m9,t9,V,X,R0⟩:=hrel
    clear n z A E am aC
    have n:=zc V
    have z:=zc X
    have ad:=zc m9
    have ac:=zc t9
    have ab:=zc i9
    have ao:=zc p9
    have ar:=zc e9
    have aw:=zc g9
    have E:=zc R0
    clear V X i9 m9 t9 e9 g9 R0 p9
    by_cases ax:j<l.length
    ·skip
     obtain⟨c1,c2⟩:=E.out.cells (g:=g) rfl ax
     have ba:=E.out.own.lt (g:=g) rfl
     have HX:Hid (∀e,e=l[j]→zP (fun e=>zo C (zA e)) (l.drop (j+1)) (bd x9 (zo C (zA e)))=zag C q):=fun e he=>by rw[he,←ar.out];exact (zf7 (fun e=>zo C (zA e)) l x9 ax).symm
     generalize av:l[j]=el at c1 c2
     have aH:Hid (el=l[j]):=av.symm
     clear av
     obtain⟨a0,a1,a2,a3,a4,a5,a6,a7,a8,a9,M,L,af⟩:=n.out.box
     go_upto_region 9 with fail
     go_region_law (first|(go_simp;go_wp2_with (go_at_call 134;refine (zd7 C I D o x9 S9 q9 z9 0 (zA el) _ ab.out ad.out.drew ao.out).mono ?_;rintro e an ⟨O,ay,aD,rfl,ag,ae,N⟩;obtain⟨d0,d1,d2,d3,d4,d5,d6,d7,d8,d9,al,ak,df⟩:=(n.out.stp N.undrew).box;unfold pv)))
     all_goals
      clear a0 a1 a2 a3 a4 a5 a6 a7 a8 a9 M L af d0 d1 d2 d3 d4 d5 d6 d7 d8 d9 al ak df
      have Q:=zc ag
      have U:=zc ae
      have H:Hid (Stp S9 wr O an):=N.undrew
      clear ag ae N
      go_wp2
      go_roundg (gk-1)
      case rel=>exact⟨j+1,_,O,ay,aD,by omega,by go_num,Q.out,zgJ ao.out ab.out Q.out,HX.out el aH.out,by have:=aw.out;omega,U.out.put (n.out.stp H.out) _ _ _ _ _ _ _ _ _ _ _ _,(ac.out.step H.out).put (by omega) _ _ _ _ _ _ _ _ _ _ _ _,(n.out.stp H.out).put _ _ _ _ _ _ _ _ _ _ _ _,(z.out.stp H.out).other (by omega) _ _ _ _ _ _ _ _ _ _ _ _,(E.out.stp H.out).put (n.out.stp H.out) _ _ _ _ _ _ _ _ _ _ _ _⟩
      case measure=>have:=aw.out;omega
    ·skip
     obtain⟨a0,a1,a2,a3,a4,a5,a6,a7,a8,a9,M,L,af⟩:=n.out.box
     obtain⟨b0,b1,b2,b3,b4,b5,b6,b7,b8,b9,aT,aS,bf⟩:=z.out.box
     go_wp2
     refine bodyPost_ret (results_cell_row rfl _ _ (w.heap.size+1) 53 _ (0,0) _ rfl ((z.out.put ..)).heap Tryz.underlying53 rfl (by kernel_rfl)) rfl ?_
     exact zY rfl (show Is (zag C q) q9 z9 from by rw[←ar.out,List.drop_eq_nil_of_le (by omega)];exact ab.out) (ad.out.put z.out ..) (ac.out.put (by omega) ..)
theorem znH (C:Cx) (o n j:Nat) (S:Sv) (q:PS) (w:World) (z:Mem C o n j S q w) (D:isT C q.pos 1 zah=true):
  Calls Tryz.prog 70 #[pv C o n S q (-1) 0] w (Out C o n j (zaQ C q) 0 S w):=by
 cases A:isT C (q.pos+1) 4 zJ with
 |true=>exact zn5 C o n j S q w z D A
 |false=>
  cases E:isT C (q.pos+1) 4 zw with
  |true=>exact zn2 C o n j S q w z D A E
  |false=>
   cases H:zD C (q.pos+1) false with
   |true=>exact zn3 C o n j S q w z D A E H
   |false=>exact zn4 C o n j S q w z D A E H
theorem znI (C:Cx) (o n j:Nat) (S:Sv) (q:PS) (w:World) (z:Mem C o n j S q w) (D:isT C q.pos 1 zaf=true):
  Calls Tryz.prog 71 #[pv C o n S q (-1) 0] w (Out C o n j (zag C q) 0 S w):=by
 cases A:isT C (q.pos+1) 4 zJ with
 |true=>exact znG C o n j S q w z D A
 |false=>
  cases E:isT C (q.pos+1) 4 zw with
  |true=>exact znB C o n j S q w z D A E
  |false=>
   cases H:isT C (q.pos+1) 1 sDefault with
   |true=>exact znC C o n j S q w z D A E H
   |false=>
    cases I:isT C (q.pos+1) 1 zC with
    |true=>exact znD C o n j S q w z D A E H I
    |false=>
     cases J:isT C (q.pos+1) 1 zT with
     |true=>exact znE C o n j S q w z D A E H I J
     |false=>exact znF C o n j S q w z D A E H I J
theorem ziP {C:Cx} {x:PR} {n:ByteArray}:bd (bd (bd (bd x (zd C 4 cEq)) (pE C .sum 0)) (zd C 4 cSemi)) (zV C 3 n)=bd x fun q=>bd (bd (bd (bd (.ok q) (zd C 4 cEq)) (pE C .sum 0)) (zd C 4 cSemi)) (zV C 3 n):=by cases x<;>rfl
theorem znJ (D:List Tk) (j:Nat) (E z o:Nat) (S:Sv) (q:PS) (w:World) (V:Mem (Cx.mk D j true) E z o S q w) (h0:isT (Cx.mk D j true) q.pos 1 zC=true):
  Calls Tryz.prog 21 #[pv (Cx.mk D j true) E z S q (-1) 0] w (Out (Cx.mk D j true) E z o (zy (Cx.mk D j true) q) 0 S w):=by
 have HM:=zc V
 have H:=V.tok
 have O:(Cx.mk D j true).ts.length≤4000:=V.few
 clear V
 have HV:Hid (zy (Cx.mk D j true) q=zaK (zcj (Cx.mk D j true) q)):=by show zy (Cx.mk D j true) q=_;rw[zy,h0];rfl
 unfold pv
 go_enter Tryz.func21,Tryz.ntmps21
 go_wp2_with fail
 refine (zh (Cx.mk D j true) E z o S q (-1) 0 1 zC _ (zq (zq H _) _) O (by decide)).mono ?_
 rintro e w1 ⟨rfl,U⟩
 rw[h0]
 obtain⟨J,N,m1,t1⟩:=HM.out.two U
 have A:=zc J
 have n:=zc N
 have Q:=zc m1
 have K:=zc t1
 clear J N m1 t1 U
 clear H
 obtain⟨a0,a1,a2,a3,a4,a5,a6,a7,a8,a9,ad,Z,af⟩:=A.out.box
 go_wp2_with fail
 refine (zgG (Cx.mk D j true) E z o S q _ Q.out).mono ?_
 rintro e w2 ⟨M,q2,z2,n2,rfl,i2,m2,X⟩
 replace A:=zc (A.out.stp X)
 replace n:=zc (n.out.stp X)
 have L:=zc (K.out.step X)
 clear K
 have I:=zc m2
 have Y:=zc i2
 clear i2 m2 X Q
 clear a0 a1 a2 a3 a4 a5 a6 a7 a8 a9 ad Z af
 have ae:w.heap.size+1<w2.heap.size:=n.out.lt
 unfold pv
 go_upto_region 7 with fail
 refine zL (R:=fun W=>Bx E M W (w.heap.size) _∧Bx E M W (w.heap.size+1) _∧Bx E M W (w2.heap.size) _∧Mem (Cx.mk D j true) E z o M q2 W∧SB w.heap.size S w M W) ⟨(A.out.alloc _),(n.out.alloc _),(Bx.new I.out _),(I.out.alloc _),(L.out.alloc _)⟩ ?_
 clear A n L I
 rintro w3 ⟨J,N,X2,m3,t3⟩
 have A:=zc J
 have n:=zc N
 have ac:=zc X2
 have ab:=zc m3
 have aa:=zc t3
 clear m3 t3 J N X2
 obtain⟨b0,b1,b2,b3,b4,b5,b6,b7,b8,b9,ah,ag,bf⟩:=n.out.box
 obtain⟨c0,c1,c2,c3,c4,c5,c6,c7,c8,c9,ai,aj,cf⟩:=ac.out.box
 go_wp2
 refine bodyPost_ret (results_cell_row rfl _ _ (w.heap.size+1) 53 _ (0,0) _ rfl ((n.out.put ..)).heap Tryz.underlying53 rfl (by kernel_rfl)) rfl ?_
 rw[HV.out]
 exact zY rfl Y.out.fst (ab.out.put n.out ..) (aa.out.put (by omega) ..)
theorem znK (D:List Tk) (j:Nat) (H A o:Nat) (S:Sv) (q:PS) (w:World) (hm:Mem (Cx.mk D j true) H A o S q w) (h0:isT (Cx.mk D j true) q.pos 1 zC=false) (h1:isT (Cx.mk D j true) q.pos 1 zT=true):
  Calls Tryz.prog 21 #[pv (Cx.mk D j true) H A S q (-1) 0] w (Out (Cx.mk D j true) H A o (zy (Cx.mk D j true) q) 0 S w):=by
 have HM:=zc hm
 have I:=hm.tok
 have J:(Cx.mk D j true).ts.length≤4000:=hm.few
 clear hm
 have HV:Hid (zy (Cx.mk D j true) q=zaK (fnP (Cx.mk D j true) q)):=by show zy (Cx.mk D j true) q=_;rw[zy,h0,h1];rfl
 unfold pv
 go_enter Tryz.func21,Tryz.ntmps21
 go_wp2_with fail
 refine (zh (Cx.mk D j true) H A o S q (-1) 0 1 zC _ (zq (zq I _) _) J (by decide)).mono ?_
 rintro e w1 ⟨rfl,aa⟩
 rw[h0]
 obtain⟨O,X,m1,t1⟩:=HM.out.two aa
 have z:=zc O
 have n:=zc X
 have L:=zc m1
 have Q:=zc t1
 clear O X m1 t1 aa
 clear I
 obtain⟨a0,a1,a2,a3,a4,a5,a6,a7,a8,a9,N,K,af⟩:=z.out.box
 go_wp2_with fail
 refine (zh (Cx.mk D j true) H A o S q (-1) 0 1 zT _ L.out.tok J (by decide)).mono ?_
 rintro e w2 ⟨rfl,E⟩
 rw[h1]
 replace z:=zc (z.out.below E)
 replace n:=zc (n.out.below E)
 have U:=zc (Q.out.below E)
 have V:=zc (L.out.later E)
 clear E Q L
 clear a0 a1 a2 a3 a4 a5 a6 a7 a8 a9 N K af
 obtain⟨a0,a1,a2,a3,a4,a5,a6,a7,a8,a9,N,K,af⟩:=z.out.box
 go_wp2_with fail
 refine (zgH (Cx.mk D j true) H A o S q _ V.out).mono ?_
 rintro e w3 ⟨Z,q3,z3,n3,rfl,i3,m3,s3⟩
 replace z:=zc (z.out.stp s3)
 replace n:=zc (n.out.stp s3)
 have Y:=zc (U.out.step s3)
 clear U
 have M:=zc m3
 have ac:=zc i3
 clear i3 m3 s3 V
 clear a0 a1 a2 a3 a4 a5 a6 a7 a8 a9 N K af
 have ag:w.heap.size+1<w3.heap.size:=n.out.lt
 unfold pv
 go_upto_region 10 with fail
 refine zL (R:=fun W=>Bx H Z W (w.heap.size) _∧Bx H Z W (w.heap.size+1) _∧Bx H Z W (w3.heap.size) _∧Mem (Cx.mk D j true) H A o Z q3 W∧SB w.heap.size S w Z W) ⟨(z.out.alloc _),(n.out.alloc _),(Bx.new M.out _),(M.out.alloc _),(Y.out.alloc _)⟩ ?_
 clear z n Y M
 rintro w4 ⟨O,X,X2,m4,t4⟩
 have z:=zc O
 have n:=zc X
 have ae:=zc X2
 have ad:=zc m4
 have ab:=zc t4
 clear m4 t4 O X X2
 obtain⟨b0,b1,b2,b3,b4,b5,b6,b7,b8,b9,ai,ah,bf⟩:=n.out.box
 obtain⟨c0,c1,c2,c3,c4,c5,c6,c7,c8,c9,aj,ak,cf⟩:=ae.out.box
 go_wp2
 refine bodyPost_ret (results_cell_row rfl _ _ (w.heap.size+1) 53 _ (0,0) _ rfl ((n.out.put ..)).heap Tryz.underlying53 rfl (by kernel_rfl)) rfl ?_
 rw[HV.out]
 exact zY rfl ac.out.fst (ad.out.put n.out ..) (ab.out.put (by omega) ..)
theorem znL (D:List Tk) (j:Nat) (E A z:Nat) (S:Sv) (q:PS) (w:World) (hm:Mem (Cx.mk D j true) E A z S q w) (h0:isT (Cx.mk D j true) q.pos 1 zC=false) (h1:isT (Cx.mk D j true) q.pos 1 zT=false) (h2:isT (Cx.mk D j true) q.pos 1 zar=true):
  Calls Tryz.prog 21 #[pv (Cx.mk D j true) E A S q (-1) 0] w (Out (Cx.mk D j true) E A z (zy (Cx.mk D j true) q) 0 S w):=by
 have HM:=zc hm
 have O:=hm.tok
 have K:(Cx.mk D j true).ts.length≤4000:=hm.few
 clear hm
 have HV:Hid (zy (Cx.mk D j true) q=bd (bd (bd (bd (bd (bd (.ok q) (zd (Cx.mk D j true) 1 zar)) (zd (Cx.mk D j true) 4 zn)) (pE (Cx.mk D j true) .sum 0)) (zd (Cx.mk D j true) 4 za0)) (zd (Cx.mk D j true) 4 cSemi)) (zV (Cx.mk D j true) 4 sNone)):=by show zy (Cx.mk D j true) q=_;rw[zy,h0,h1,h2];rfl
 unfold pv
 go_enter Tryz.func21,Tryz.ntmps21
 go_wp2_with fail
 refine (zh (Cx.mk D j true) E A z S q (-1) 0 1 zC _ (zq (zq O _) _) K (by decide)).mono ?_
 rintro e w1 ⟨rfl,ax⟩
 rw[h0]
 obtain⟨X0,X1,m1,t1⟩:=HM.out.two ax
 have o:=zc X0
 have n:=zc X1
 have V:=zc m1
 have ab:=zc t1
 clear X0 X1 m1 t1 ax
 clear O
 obtain⟨a0,a1,a2,Z,a4,a5,a6,a7,a8,a9,N,J,af⟩:=o.out.box
 go_wp2_with fail
 refine (zh (Cx.mk D j true) E A z S q (-1) 0 1 zT _ V.out.tok K (by decide)).mono ?_
 rintro e w2 ⟨rfl,H⟩
 rw[h1]
 replace o:=zc (o.out.below H)
 replace n:=zc (n.out.below H)
 have ac:=zc (ab.out.below H)
 have U:=zc (V.out.later H)
 clear H ab V
 clear a0 a1 a2 Z a4 a5 a6 a7 a8 a9 N J af
 obtain⟨a0,a1,a2,Z,a4,a5,a6,a7,a8,a9,N,J,af⟩:=o.out.box
 go_wp2_with fail
 refine (zh (Cx.mk D j true) E A z S q (-1) 0 1 zar _ U.out.tok K (by decide)).mono ?_
 rintro e w3 ⟨rfl,M⟩
 rw[h2]
 replace o:=zc (o.out.below M)
 replace n:=zc (n.out.below M)
 have ak:=zc (ac.out.below M)
 have ao:=zc (U.out.later M)
 clear M ac U
 clear a0 a1 a2 Z a4 a5 a6 a7 a8 a9 N J af
 obtain⟨a0,a1,a2,Z,a4,a5,a6,a7,a8,a9,N,J,af⟩:=o.out.box
 go_wp2_with fail
 refine (zaH (Cx.mk D j true) E A z (.ok q) S q (-1) 0 zar _ (zX q) ao.out).mono ?_
 rintro e w4 ⟨S4,q4,z4,rfl,i4,m4,s4⟩
 replace o:=zc (o.out.stp s4)
 replace n:=zc (n.out.stp s4)
 have aa:=zc (ak.out.step s4)
 clear ak
 have am:=zc m4
 have aA:=zc i4
 clear i4 m4 s4 ao
 clear a0 a1 a2 Z a4 a5 a6 a7 a8 a9 N J af
 go_wp2_with fail
 refine (zad (Cx.mk D j true) E A z _ S4 q4 z4 0 zn _ aA.out am.out).mono ?_
 rintro e w5 ⟨S5,q5,z5,rfl,i5,m5,s5⟩
 replace o:=zc (o.out.stp s5)
 replace n:=zc (n.out.stp s5)
 have Y:=zc (aa.out.step s5)
 clear aa
 have aq:=zc m5
 have ay:=zc i5
 clear i5 m5 s5 am
 go_wp2_with fail
 refine (zcN (Cx.mk D j true) E A z _ S5 q5 z5 _ ay.out aq.out).mono ?_
 rintro e w6 ⟨S6,q6,z6,rfl,i6,m6,s6⟩
 replace o:=zc (o.out.stp s6)
 replace n:=zc (n.out.stp s6)
 have al:=zc (Y.out.step s6)
 clear Y
 have ai:=zc m6
 have aB:=zc i6
 clear i6 m6 s6 aq
 go_wp2_with fail
 refine (zad (Cx.mk D j true) E A z _ S6 q6 z6 0 za0 _ aB.out ai.out).mono ?_
 rintro e w7 ⟨X,q7,z7,rfl,i7,m7,s7⟩
 replace o:=zc (o.out.stp s7)
 replace n:=zc (n.out.stp s7)
 have an:=zc (al.out.step s7)
 clear al
 have Q:=zc m7
 have aD:=zc i7
 clear i7 m7 s7 ai
 have aE:w.heap.size+1<w7.heap.size:=n.out.lt
 unfold pv
 go_upto_region 13 with fail
 refine zL (R:=fun W=>Bx E X W (w.heap.size) _∧Bx E X W (w.heap.size+1) _∧Bx E X W (w7.heap.size) _∧Mem (Cx.mk D j true) E A z X q7 W∧SB w.heap.size S w X W) ⟨(o.out.alloc _),(n.out.alloc _),(Bx.new Q.out _),(Q.out.alloc _),(an.out.alloc _)⟩ ?_
 clear o n an Q
 rintro w8 ⟨X0,X1,X2,m8,t8⟩
 have o:=zc X0
 have n:=zc X1
 have L:=zc X2
 have aw:=zc m8
 have ar:=zc t8
 clear m8 t8 X0 X1 X2
 obtain⟨c0,c1,c2,c3,c4,c5,c6,c7,c8,c9,az,aC,cf⟩:=L.out.box
 go_wp2_with fail
 refine (zad (Cx.mk D j true) E A z _ X q7 z7 0 cSemi _ aD.out aw.out).mono ?_
 rintro e w9 ⟨S9,q9,z9,rfl,i9,m9,s9⟩
 replace o:=zc (o.out.stp s9)
 replace n:=zc (n.out.stp s9)
 replace L:=zc (L.out.stp s9)
 have ap:=zc (ar.out.step s9)
 clear ar
 have au:=zc m9
 have ag:=zc i9
 clear i9 m9 s9 aw
 clear c0 c1 c2 c3 c4 c5 c6 c7 c8 c9 az aC cf
 go_wp2_with fail
 refine (zcL (Cx.mk D j true) E A z _ S9 q9 z9 0 4 sNone _ ag.out au.out (zbh ag.out)).mono ?_
 rintro e aI ⟨aK,aJ,aF,rfl,aj,av,I⟩
 replace o:=zc (o.out.stp I)
 replace n:=zc (n.out.stp I)
 replace L:=zc (L.out.stp I)
 have ad:=zc (ap.out.step I)
 clear ap
 have ah:=zc av
 have ae:=zc aj
 clear aj av I au
 obtain⟨b0,b1,b2,b3,b4,b5,b6,b7,b8,b9,aH,aG,bf⟩:=n.out.box
 unfold pv
 go_wp2
 refine bodyPost_ret (results_cell_row rfl _ _ (w.heap.size+1) 53 _ (0,0) _ rfl ((n.out.put ..)).heap Tryz.underlying53 rfl (by kernel_rfl)) rfl ?_
 rw[HV.out]
 exact zY rfl ae.out (ah.out.put n.out ..) (ad.out.put (by omega) ..)
theorem znM (D:List Tk) (j:Nat) (J A z:Nat) (S:Sv) (q:PS) (w:World) (hm:Mem (Cx.mk D j true) J A z S q w) (h0:isT (Cx.mk D j true) q.pos 1 zC=false) (h1:isT (Cx.mk D j true) q.pos 1 zT=false) (h2:isT (Cx.mk D j true) q.pos 1 zar=false) (h3:isT (Cx.mk D j true) q.pos 1 za3=true):
  Calls Tryz.prog 21 #[pv (Cx.mk D j true) J A S q (-1) 0] w (Out (Cx.mk D j true) J A z (zy (Cx.mk D j true) q) 0 S w):=by
 have HM:=zc hm
 have N:=hm.tok
 have I:(Cx.mk D j true).ts.length≤4000:=hm.few
 clear hm
 have HV:Hid (zy (Cx.mk D j true) q=bd (bd (bd (bd (.ok q) (zd (Cx.mk D j true) 1 za3)) (pE (Cx.mk D j true) .sum 0)) (zd (Cx.mk D j true) 4 cSemi)) (zV (Cx.mk D j true) 5 sNone)):=by show zy (Cx.mk D j true) q=_;rw[zy,h0,h1,h2,h3];rfl
 unfold pv
 go_enter Tryz.func21,Tryz.ntmps21
 go_wp2_with fail
 refine (zh (Cx.mk D j true) J A z S q (-1) 0 1 zC _ (zq (zq N _) _) I (by decide)).mono ?_
 rintro e w1 ⟨rfl,ap⟩
 rw[h0]
 obtain⟨X0,X1,m1,t1⟩:=HM.out.two ap
 have n:=zc X0
 have o:=zc X1
 have aa:=zc m1
 have ae:=zc t1
 clear X0 X1 m1 t1 ap
 clear N
 obtain⟨a0,a1,Q,O,Y,Z,a6,a7,U,X,H,E,af⟩:=n.out.box
 go_wp2_with fail
 refine (zh (Cx.mk D j true) J A z S q (-1) 0 1 zT _ aa.out.tok I (by decide)).mono ?_
 rintro e w2 ⟨rfl,K⟩
 rw[h1]
 replace n:=zc (n.out.below K)
 replace o:=zc (o.out.below K)
 have ag:=zc (ae.out.below K)
 have V:=zc (aa.out.later K)
 clear K ae aa
 clear a0 a1 Q O Y Z a6 a7 U X H E af
 obtain⟨a0,a1,Q,O,Y,Z,a6,a7,U,X,H,E,af⟩:=n.out.box
 go_wp2_with fail
 refine (zh (Cx.mk D j true) J A z S q (-1) 0 1 zar _ V.out.tok I (by decide)).mono ?_
 rintro e w3 ⟨rfl,M⟩
 rw[h2]
 replace n:=zc (n.out.below M)
 replace o:=zc (o.out.below M)
 have aj:=zc (ag.out.below M)
 have ab:=zc (V.out.later M)
 clear M ag V
 clear a0 a1 Q O Y Z a6 a7 U X H E af
 obtain⟨a0,a1,Q,O,Y,Z,a6,a7,U,X,H,E,af⟩:=n.out.box
 go_wp2_with fail
 refine (zh (Cx.mk D j true) J A z S q (-1) 0 1 za3 _ ab.out.tok I (by decide)).mono ?_
 rintro e w4 ⟨rfl,L⟩
 rw[h3]
 replace n:=zc (n.out.below L)
 replace o:=zc (o.out.below L)
 have ad:=zc (aj.out.below L)
 have am:=zc (ab.out.later L)
 clear L aj ab
 clear a0 a1 Q O Y Z a6 a7 U X H E af
 obtain⟨a0,a1,Q,O,Y,Z,a6,a7,U,X,H,E,af⟩:=n.out.box
 go_wp2_with fail
 refine (zaH (Cx.mk D j true) J A z (.ok q) S q (-1) 0 za3 _ (zX q) am.out).mono ?_
 rintro e w5 ⟨S5,q5,z5,rfl,i5,m5,s5⟩
 replace n:=zc (n.out.stp s5)
 replace o:=zc (o.out.stp s5)
 have ac:=zc (ad.out.step s5)
 clear ad
 have ao:=zc m5
 have aq:=zc i5
 clear i5 m5 s5 am
 clear a0 a1 Q O Y Z a6 a7 U X H E af
 go_wp2_with fail
 refine (zcN (Cx.mk D j true) J A z _ S5 q5 z5 _ aq.out ao.out).mono ?_
 rintro e w6 ⟨S6,q6,z6,rfl,i6,m6,s6⟩
 replace n:=zc (n.out.stp s6)
 replace o:=zc (o.out.stp s6)
 have al:=zc (ac.out.step s6)
 clear ac
 have ai:=zc m6
 have ar:=zc i6
 clear i6 m6 s6 ao
 go_wp2_with fail
 refine (zad (Cx.mk D j true) J A z _ S6 q6 z6 0 cSemi _ ar.out ai.out).mono ?_
 rintro e w7 ⟨S7,q7,z7,rfl,i7,m7,s7⟩
 replace n:=zc (n.out.stp s7)
 replace o:=zc (o.out.stp s7)
 have an:=zc (al.out.step s7)
 clear al
 have ah:=zc m7
 have ak:=zc i7
 clear i7 m7 s7 ai
 go_wp2_with fail
 refine (zcL (Cx.mk D j true) J A z _ S7 q7 z7 0 5 sNone _ ak.out ah.out (zbh ak.out)).mono ?_
 rintro e w8 ⟨S8,q8,z8,rfl,i8,m8,s8⟩
 replace n:=zc (n.out.stp s8)
 replace o:=zc (o.out.stp s8)
 have av:=zc (an.out.step s8)
 clear an
 have aw:=zc m8
 have au:=zc i8
 clear i8 m8 s8 ah
 obtain⟨b0,b1,b2,b3,b4,b5,b6,b7,b8,b9,ay,ax,bf⟩:=o.out.box
 unfold pv
 go_wp2
 refine bodyPost_ret (results_cell_row rfl _ _ (w.heap.size+1) 53 _ (0,0) _ rfl ((o.out.put ..)).heap Tryz.underlying53 rfl (by kernel_rfl)) rfl ?_
 rw[HV.out]
 exact zY rfl au.out (aw.out.put o.out ..) (av.out.put (by omega) ..)
theorem znN (D:List Tk) (j:Nat) (J A z:Nat) (S:Sv) (q:PS) (w:World) (hm:Mem (Cx.mk D j true) J A z S q w) (h0:isT (Cx.mk D j true) q.pos 1 zC=false) (h1:isT (Cx.mk D j true) q.pos 1 zT=false) (h2:isT (Cx.mk D j true) q.pos 1 zar=false) (h3:isT (Cx.mk D j true) q.pos 1 za3=false) (h4:isT (Cx.mk D j true) q.pos 1 zbA=true):
  Calls Tryz.prog 21 #[pv (Cx.mk D j true) J A S q (-1) 0] w (Out (Cx.mk D j true) J A z (zy (Cx.mk D j true) q) 0 S w):=by
 have HM:=zc hm
 have aa:=hm.tok
 have I:(Cx.mk D j true).ts.length≤4000:=hm.few
 clear hm
 have HV:Hid (zy (Cx.mk D j true) q=bd (bd (bd (bd (.ok q) (zd (Cx.mk D j true) 1 zbA)) (pE (Cx.mk D j true) .sum 0)) (zd (Cx.mk D j true) 4 cSemi)) (zV (Cx.mk D j true) 6 sNone)):=by show zy (Cx.mk D j true) q=_;rw[zy,h0,h1,h2,h3,h4];rfl
 unfold pv
 go_enter Tryz.func21,Tryz.ntmps21
 go_wp2_with fail
 refine (zh (Cx.mk D j true) J A z S q (-1) 0 1 zC _ (zq (zq aa _) _) I (by decide)).mono ?_
 rintro e w1 ⟨rfl,av⟩
 rw[h0]
 obtain⟨X0,X1,m1,t1⟩:=HM.out.two av
 have n:=zc X0
 have o:=zc X1
 have ad:=zc m1
 have ai:=zc t1
 clear X0 X1 m1 t1 av
 clear aa
 obtain⟨a0,a1,Q,O,X,Y,Z,a7,U,V,H,E,af⟩:=n.out.box
 go_wp2_with fail
 refine (zh (Cx.mk D j true) J A z S q (-1) 0 1 zT _ ad.out.tok I (by decide)).mono ?_
 rintro e w2 ⟨rfl,K⟩
 rw[h1]
 replace n:=zc (n.out.below K)
 replace o:=zc (o.out.below K)
 have aj:=zc (ai.out.below K)
 have ab:=zc (ad.out.later K)
 clear K ai ad
 clear a0 a1 Q O X Y Z a7 U V H E af
 obtain⟨a0,a1,Q,O,X,Y,Z,a7,U,V,H,E,af⟩:=n.out.box
 go_wp2_with fail
 refine (zh (Cx.mk D j true) J A z S q (-1) 0 1 zar _ ab.out.tok I (by decide)).mono ?_
 rintro e w3 ⟨rfl,N⟩
 rw[h2]
 replace n:=zc (n.out.below N)
 replace o:=zc (o.out.below N)
 have am:=zc (aj.out.below N)
 have ae:=zc (ab.out.later N)
 clear N aj ab
 clear a0 a1 Q O X Y Z a7 U V H E af
 obtain⟨a0,a1,Q,O,X,Y,Z,a7,U,V,H,E,af⟩:=n.out.box
 go_wp2_with fail
 refine (zh (Cx.mk D j true) J A z S q (-1) 0 1 za3 _ ae.out.tok I (by decide)).mono ?_
 rintro e w4 ⟨rfl,L⟩
 rw[h3]
 replace n:=zc (n.out.below L)
 replace o:=zc (o.out.below L)
 have ah:=zc (am.out.below L)
 have ac:=zc (ae.out.later L)
 clear L am ae
 clear a0 a1 Q O X Y Z a7 U V H E af
 obtain⟨a0,a1,Q,O,X,Y,Z,a7,U,V,H,E,af⟩:=n.out.box
 go_wp2_with fail
 refine (zh (Cx.mk D j true) J A z S q (-1) 0 1 zbA _ ac.out.tok I (by decide)).mono ?_
 rintro e w5 ⟨rfl,M⟩
 rw[h4]
 replace n:=zc (n.out.below M)
 replace o:=zc (o.out.below M)
 have ag:=zc (ah.out.below M)
 have aq:=zc (ac.out.later M)
 clear M ah ac
 clear a0 a1 Q O X Y Z a7 U V H E af
 obtain⟨a0,a1,Q,O,X,Y,Z,a7,U,V,H,E,af⟩:=n.out.box
 go_wp2_with fail
 refine (zaH (Cx.mk D j true) J A z (.ok q) S q (-1) 0 zbA _ (zX q) aq.out).mono ?_
 rintro e w6 ⟨S6,q6,z6,rfl,i6,m6,s6⟩
 replace n:=zc (n.out.stp s6)
 replace o:=zc (o.out.stp s6)
 have an:=zc (ag.out.step s6)
 clear ag
 have al:=zc m6
 have ax:=zc i6
 clear i6 m6 s6 aq
 clear a0 a1 Q O X Y Z a7 U V H E af
 go_wp2_with fail
 refine (zcN (Cx.mk D j true) J A z _ S6 q6 z6 _ ax.out al.out).mono ?_
 rintro e w7 ⟨S7,q7,z7,rfl,i7,m7,s7⟩
 replace n:=zc (n.out.stp s7)
 replace o:=zc (o.out.stp s7)
 have ap:=zc (an.out.step s7)
 clear an
 have ak:=zc m7
 have ay:=zc i7
 clear i7 m7 s7 al
 go_wp2_with fail
 refine (zad (Cx.mk D j true) J A z _ S7 q7 z7 0 cSemi _ ay.out ak.out).mono ?_
 rintro e w8 ⟨S8,q8,z8,rfl,i8,m8,s8⟩
 replace n:=zc (n.out.stp s8)
 replace o:=zc (o.out.stp s8)
 have ar:=zc (ap.out.step s8)
 clear ap
 have au:=zc m8
 have ao:=zc i8
 clear i8 m8 s8 ak
 go_wp2_with fail
 refine (zcL (Cx.mk D j true) J A z _ S8 q8 z8 0 6 sNone _ ao.out au.out (zbh ao.out)).mono ?_
 rintro e w9 ⟨S9,q9,z9,rfl,i9,m9,s9⟩
 replace n:=zc (n.out.stp s9)
 replace o:=zc (o.out.stp s9)
 have az:=zc (ar.out.step s9)
 clear ar
 have aA:=zc m9
 have aw:=zc i9
 clear i9 m9 s9 au
 obtain⟨b0,b1,b2,b3,b4,b5,b6,b7,b8,b9,aC,aB,bf⟩:=o.out.box
 unfold pv
 go_wp2
 refine bodyPost_ret (results_cell_row rfl _ _ (w.heap.size+1) 53 _ (0,0) _ rfl ((o.out.put ..)).heap Tryz.underlying53 rfl (by kernel_rfl)) rfl ?_
 rw[HV.out]
 exact zY rfl aw.out (aA.out.put o.out ..) (az.out.put (by omega) ..)
theorem znO (D:List Tk) (j:Nat) (K E A:Nat) (S:Sv) (q:PS) (w:World) (hm:Mem (Cx.mk D j true) K E A S q w) (h0:isT (Cx.mk D j true) q.pos 1 zC=false) (h1:isT (Cx.mk D j true) q.pos 1 zT=false) (h2:isT (Cx.mk D j true) q.pos 1 zar=false) (h3:isT (Cx.mk D j true) q.pos 1 za3=false) (h4:isT (Cx.mk D j true) q.pos 1 zbA=false):
  Calls Tryz.prog 21 #[pv (Cx.mk D j true) K E S q (-1) 0] w (Out (Cx.mk D j true) K E A (zy (Cx.mk D j true) q) 0 S w):=by
 have HM:=zc hm
 have aa:=hm.tok
 have L:(Cx.mk D j true).ts.length≤4000:=hm.few
 clear hm
 have HV:Hid (zy (Cx.mk D j true) q=bd (bd (.ok q) (zj (Cx.mk D j true) false)) fun a=>bd (bd (bd (bd (.ok a.1) (zd (Cx.mk D j true) 4 cEq)) (pE (Cx.mk D j true) .sum 0)) (zd (Cx.mk D j true) 4 cSemi)) (zV (Cx.mk D j true) 3 a.2)):=by show zy (Cx.mk D j true) q=_;rw[zy,h0,h1,h2,h3,h4];rfl
 unfold pv
 go_enter Tryz.func21,Tryz.ntmps21
 go_wp2_with fail
 refine (zh (Cx.mk D j true) K E A S q (-1) 0 1 zC _ (zq (zq aa _) _) L (by decide)).mono ?_
 rintro e w1 ⟨rfl,aH⟩
 rw[h0]
 obtain⟨X0,X1,m1,t1⟩:=HM.out.two aH
 have o:=zc X0
 have z:=zc X1
 have ai:=zc m1
 have an:=zc t1
 clear X0 X1 m1 t1 aH
 clear aa
 obtain⟨a0,a1,Y,X,a4,a5,a6,a7,Z,a9,J,H,af⟩:=o.out.box
 go_wp2_with fail
 refine (zh (Cx.mk D j true) K E A S q (-1) 0 1 zT _ ai.out.tok L (by decide)).mono ?_
 rintro e w2 ⟨rfl,M⟩
 rw[h1]
 replace o:=zc (o.out.below M)
 replace z:=zc (z.out.below M)
 have ap:=zc (an.out.below M)
 have ae:=zc (ai.out.later M)
 clear M an ai
 clear a0 a1 Y X a4 a5 a6 a7 Z a9 J H af
 obtain⟨a0,a1,Y,X,a4,a5,a6,a7,Z,a9,J,H,af⟩:=o.out.box
 go_wp2_with fail
 refine (zh (Cx.mk D j true) K E A S q (-1) 0 1 zar _ ae.out.tok L (by decide)).mono ?_
 rintro e w3 ⟨rfl,V⟩
 rw[h2]
 replace o:=zc (o.out.below V)
 replace z:=zc (z.out.below V)
 have aw:=zc (ap.out.below V)
 have aj:=zc (ae.out.later V)
 clear V ap ae
 clear a0 a1 Y X a4 a5 a6 a7 Z a9 J H af
 obtain⟨a0,a1,Y,X,a4,a5,a6,a7,Z,a9,J,H,af⟩:=o.out.box
 go_wp2_with fail
 refine (zh (Cx.mk D j true) K E A S q (-1) 0 1 za3 _ aj.out.tok L (by decide)).mono ?_
 rintro e w4 ⟨rfl,Q⟩
 rw[h3]
 replace o:=zc (o.out.below Q)
 replace z:=zc (z.out.below Q)
 have am:=zc (aw.out.below Q)
 have ah:=zc (aj.out.later Q)
 clear Q aw aj
 clear a0 a1 Y X a4 a5 a6 a7 Z a9 J H af
 obtain⟨a0,a1,Y,X,a4,a5,a6,a7,Z,a9,J,H,af⟩:=o.out.box
 go_wp2_with fail
 refine (zh (Cx.mk D j true) K E A S q (-1) 0 1 zbA _ ah.out.tok L (by decide)).mono ?_
 rintro e w5 ⟨rfl,U⟩
 rw[h4]
 replace o:=zc (o.out.below U)
 replace z:=zc (z.out.below U)
 have ak:=zc (am.out.below U)
 have aC:=zc (ah.out.later U)
 clear U am ah
 clear a0 a1 Y X a4 a5 a6 a7 Z a9 J H af
 obtain⟨a0,a1,Y,X,a4,a5,a6,a7,Z,a9,J,H,af⟩:=o.out.box
 go_wp2_with fail
 refine (zbe (Cx.mk D j true) K E A (.ok q) S q (-1) 0 false _ (zX q) aC.out).mono ?_
 rintro e w6 ⟨S6,q6,z6,n6,rfl,i6,m6,s6⟩
 replace o:=zc (o.out.stp s6)
 replace z:=zc (z.out.stp s6)
 have ay:=zc (ak.out.step s6)
 clear ak
 have ag:=zc m6
 have ax:=zc i6
 clear i6 m6 s6 aC
 clear a0 a1 Y X a4 a5 a6 a7 Z a9 J H af
 have aP:w.heap.size+1<w6.heap.size:=z.out.lt
 unfold pv
 go_upto_region 19 with fail
 refine zL (R:=fun W=>Bx K S6 W (w.heap.size) _∧Bx K S6 W (w.heap.size+1) _∧Bx K S6 W (w6.heap.size) _∧Mem (Cx.mk D j true) K E A S6 q6 W∧SB w.heap.size S w S6 W) ⟨(o.out.alloc _),(z.out.alloc _),(Bx.new ag.out _),(ag.out.alloc _),(ay.out.alloc _)⟩ ?_
 clear o z ay ag
 rintro w7 ⟨X0,X1,X2,m7,t7⟩
 have o:=zc X0
 have z:=zc X1
 have I:=zc X2
 have ar:=zc m7
 have aA:=zc t7
 clear m7 t7 X0 X1 X2
 obtain⟨c0,c1,c2,c3,c4,c5,c6,c7,c8,c9,aJ,aM,cf⟩:=I.out.box
 go_wp2_with fail
 refine (zad (Cx.mk D j true) K E A _ S6 q6 z6 0 cEq _ ax.out.fst ar.out).mono ?_
 rintro e w8 ⟨S8,q8,z8,rfl,i8,m8,s8⟩
 replace o:=zc (o.out.stp s8)
 replace z:=zc (z.out.stp s8)
 replace I:=zc (I.out.stp s8)
 have aD:=zc (aA.out.step s8)
 clear aA
 have aG:=zc m8
 have aN:=zc i8
 clear i8 m8 s8 ar
 clear c0 c1 c2 c3 c4 c5 c6 c7 c8 c9 aJ aM cf
 go_wp2_with fail
 refine (zcN (Cx.mk D j true) K E A _ S8 q8 z8 _ aN.out aG.out).mono ?_
 rintro e w9 ⟨S9,q9,z9,rfl,i9,m9,s9⟩
 replace o:=zc (o.out.stp s9)
 replace z:=zc (z.out.stp s9)
 replace I:=zc (I.out.stp s9)
 have aB:=zc (aD.out.step s9)
 clear aD
 have aE:=zc m9
 have aK:=zc i9
 clear i9 m9 s9 aG
 go_wp2_with fail
 refine (zad (Cx.mk D j true) K E A _ S9 q9 z9 0 cSemi _ aK.out aE.out).mono ?_
 rintro e aS ⟨aO,aL,aI,rfl,av,aF,N⟩
 replace o:=zc (o.out.stp N)
 replace z:=zc (z.out.stp N)
 replace I:=zc (I.out.stp N)
 have ab:=zc (aB.out.step N)
 clear aB
 have ad:=zc aF
 have ac:=zc av
 clear av aF N aE
 go_wp2_with fail
 refine (zcL (Cx.mk D j true) K E A _ aO aL aI 0 3 n6 _ ac.out ad.out (zbh ac.out)).mono ?_
 rintro e aV ⟨aU,aT,aW,rfl,az,aq,O⟩
 replace o:=zc (o.out.stp O)
 replace z:=zc (z.out.stp O)
 replace I:=zc (I.out.stp O)
 have au:=zc (ab.out.step O)
 clear ab
 have ao:=zc aq
 have al:=zc az
 clear az aq O ad
 obtain⟨b0,b1,b2,b3,b4,b5,b6,b7,b8,b9,aR,aQ,bf⟩:=z.out.box
 unfold pv
 go_wp2
 refine bodyPost_ret (results_cell_row rfl _ _ (w.heap.size+1) 53 _ (0,0) _ rfl ((z.out.put ..)).heap Tryz.underlying53 rfl (by kernel_rfl)) rfl ?_
 rw[HV.out,←ax.out.bind (fun q n=>bd (bd (bd (bd (.ok q) (zd (Cx.mk D j true) 4 cEq)) (pE (Cx.mk D j true) .sum 0)) (zd (Cx.mk D j true) 4 cSemi)) (zV (Cx.mk D j true) 3 n)),←ziP]
 exact zY rfl al.out (ao.out.put z.out ..) (au.out.put (by omega) ..)
theorem znP (z:List Tk) (j:Nat) (A o n:Nat) (S:Sv) (q:PS) (w:World) (E:Mem (Cx.mk z j true) A o n S q w):
  Calls Tryz.prog 21 #[pv (Cx.mk z j true) A o S q (-1) 0] w (Out (Cx.mk z j true) A o n (zy (Cx.mk z j true) q) 0 S w):=by
 cases D:isT (Cx.mk z j true) q.pos 1 zC with
 |true=>exact znJ z j A o n S q w E D
 |false=>
  cases H:isT (Cx.mk z j true) q.pos 1 zT with
  |true=>exact znK z j A o n S q w E D H
  |false=>
   cases I:isT (Cx.mk z j true) q.pos 1 zar with
   |true=>exact znL z j A o n S q w E D H I
   |false=>
    cases J:isT (Cx.mk z j true) q.pos 1 za3 with
    |true=>exact znM z j A o n S q w E D H I J
    |false=>
     cases K:isT (Cx.mk z j true) q.pos 1 zbA with
     |true=>exact znN z j A o n S q w E D H I J K
     |false=>
      exact znO z j A o n S q w E D H I J K
end Go.Proofs.YticdggnnpjachaaGreat
