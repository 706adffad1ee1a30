/-
  What spec's l4Import answers: the walks.
  What spec's l4Export answers: the walks.
  What spec's l4Export answers to a list of names: the walks.
  What spec's l4Item answers: the walks.
-/
import Derived.Test.YticdggnnpjachaaGreatCbSpecRowToSpecParseK
namespace Go.Proofs.YticdggnnpjachaaGreat
set_option maxRecDepth 100000
set_option maxHeartbeats 6400000
open Go.RowKit Go.PlainAid
theorem zcO {C:Cx} {k:Int} {s:ByteArray} {q n:PS} {j:Int} (h:Is (bd (.ok q) (zd C k s)) n j) (o:isT C q.pos k s=true):n=adv q∧j= -1:=by
 rw[zz,zd,if_pos o] at h
 exact h
theorem zeR {α:Type} (f:α→PS→PR) (l:List α) (e:Nat):zP f l (.error e)= .error e:=by
 induction l with
 |nil=>rfl
 |cons a l j=>exact j
theorem zf7 {α:Type} (f:α→PS→PR) (l:List α) (x:PR) {k:Nat} (j:k<l.length):zP f (l.drop k) x=zP f (l.drop (k+1)) (bd x (f (l[k]))):=by
 rw[List.drop_eq_getElem_cons j]
 rfl
theorem ziL {C:Cx} {j:PRN} {J E:PS} {I H:Int} {o z:ByteArray} {G:ByteArray→ByteArray→PS→PR} (A:Is2 j J I o) (n:Is2 (bd (bd (zaK j) (zd C 1 zU)) (zH C)) E H z):
  bd (bd (zaK (bd (bd (zaK j) (zd C 1 zU)) (zH C))) (zd C 4 cSemi)) (G z o)=bd j fun a=>bd (zaR C (zaE C (.ok a.1))) fun b=>G b.2 a.2 b.1:=by
 cases j with
 |error e=>rfl
 |ok a=>
  obtain⟨_,_,rfl⟩:=A
  have K:bd (bd (zaK (.ok a)) (zd C 1 zU)) (zH C)=zaE C (.ok a.1):=rfl
  rw[K] at n ⊢
  rw[zz]
  cases D:zaE C (.ok a.1) with
  |error e=>rfl
  |ok b=>
   rw[D] at n
   obtain⟨_,_,rfl⟩:=n
   show bd (zd C 4 cSemi b.1) (G b.2 a.2)=bd (bd (zd C 4 cSemi b.1) fun q=>.ok (q,b.2)) fun b=>G b.2 a.2 b.1
   rw[zM]
   rfl
def zeS (y:PRL):PR:=bd y fun a=>.ok a.1
theorem Is3.fst {y:PRL} {q:PS} {z:Int} {l:List Ep} (h:Is3 y q z l):Is (zeS y) q z:=by
 cases y with
 |ok a=>exact⟨h.1,h.2.1⟩
 |error e=>exact h
theorem zgI {C:Cx} {y:PRL} {H A:PS} {E D:Int} {l:List Ep} {n:ByteArray} {G:ByteArray→Ep→PS→PR} (o:Is3 y H E l) (j:Is2 (bd (bd (zeS y) (zd C 1 zU)) (zH C)) A D n):
  zP (G n) l (bd (zaK (bd (bd (zeS y) (zd C 1 zU)) (zH C))) (zd C 4 cSemi))=bd y fun a=>bd (zaR C (zaE C (.ok a.1))) fun b=>zP (G b.2) a.2 (.ok b.1):=by
 cases y with
 |error e=>exact zeR _ _ _
 |ok a=>
  obtain⟨_,_,rfl⟩:=o
  have J:bd (bd (zeS (.ok a)) (zd C 1 zU)) (zH C)=zaE C (.ok a.1):=rfl
  rw[J] at j ⊢
  rw[zz]
  cases z:zaE C (.ok a.1) with
  |error e=>exact zeR _ _ _
  |ok b=>
   rw[z] at j
   obtain⟨_,_,rfl⟩:=j
   show zP (G b.2) a.2 (bd (zaK (.ok b)) (zd C 4 cSemi))=bd (bd (zd C 4 cSemi b.1) fun q=>.ok (q,b.2)) fun b=>zP (G b.2) a.2 (.ok b.1)
   have I:bd (zaK (.ok b)) (zd C 4 cSemi)=zd C 4 cSemi b.1:=rfl
   rw[I,zM]
   cases zd C 4 cSemi b.1 with
   |error e=>exact zeR _ _ _
   |ok c=>rfl
theorem Mem.drew {C:Cx} {o n j:Nat} {S:Sv} {q:PS} {w:World} (h:Mem C o n j S q w):Mem C o n j S q w.drew:=⟨⟨h.own.rq,h.own.im,h.own.ep,h.own.st,h.own.ex,h.own.la,h.own.apart⟩,h.inv,h.tok,h.few,h.base⟩
theorem Stp.undrew {S n:Sv} {w j:World} (h:Stp S w.drew n j):Stp S w n j:=⟨h.os,h.tape,h.output,h.size,h.block,h.sub⟩
theorem Row.cells {S:Sv} {w:World} {n B g:Nat} {r:Rw} {l:List Ep} (h:Row S w n B r l) (H:r.a=some ⟨g,0,none⟩) {j:Nat} (A:j<l.length):
  w.cell? ⟨g,j*4+1,none⟩=some (.string (l[j]).name)∧w.cell? ⟨g,j*4+2,none⟩=some (.string (l[j]).loc):=by
 have q:=h.own
 unfold OwnR at q
 rw[H] at q
 have o: ∀(l:List Ep) (i c:Nat) (D:c<4) (z:i<l.length),(l.flatMap epL)[i*4+c]? =(epL l[i])[c]?:=by
  intro l
  induction l with
  |nil=>intro i c _ z;simp at z
  |cons x l E=>
   intro i c D z
   match i with
   |0=>
    simp only[List.flatMap_cons,Nat.zero_mul,Nat.zero_add,List.getElem_cons_zero]
    rw[List.getElem?_append_left (by simp[epL];omega)]
   |i+1=>
    simp only[List.flatMap_cons,List.getElem_cons_succ]
    rw[List.getElem?_append_right (by simp[epL];omega)]
    have e:(i+1)*4+c-(epL x).length=i*4+c:=by simp[epL];omega
    rw[e]
    exact E i c D (by simpa using z)
 rw[q.cellAt _ (by omega),q.cellAt _ (by omega)]
 exact⟨o l j 1 (by omega) A,o l j 2 (by omega) A⟩
theorem zn1 {C:Cx} {y:Im} {x:PR} {q q':PS} {z z':Int} (n:z<0→1≤q.pos) (A:Is x q z) (h:Is (bd x (zak C y)) q' z'):z'<0→1≤q'.pos:=by
 intro D
 obtain⟨e,_⟩:=zaC h D
 obtain⟨a,o,j⟩:=zf e
 subst o
 obtain⟨rfl,rfl⟩:=A
 unfold zak at j
 split at j
 ·cases j
 ·cases j
  exact n (by decide)
theorem zgJ {C:Cx} {y:Ep} {x:PR} {q q':PS} {z z':Int} (n:z<0→1≤q.pos) (A:Is x q z) (h:Is (bd x (zo C y)) q' z'):z'<0→1≤q'.pos:=by
 intro D
 obtain⟨e,_⟩:=zaC h D
 obtain⟨a,o,j⟩:=zf e
 subst o
 obtain⟨rfl,rfl⟩:=A
 unfold zo at j
 split at j
 ·cases j
 ·split at j
  ·cases j
   exact n (by decide)
  ·cases j
   exact n (by decide)
theorem zn2 (C:Cx) (D z o:Nat) (S:Sv) (q:PS) (w:World) (hm:Mem C D z o S q w) (hw:isT C q.pos 1 zah=true) (h1:isT C (q.pos+1) 4 zJ=false) (h2:isT C (q.pos+1) 4 zw=true):
  Calls Tryz.prog 70 #[pv C D z S q (-1) 0] w (Out C D z o (zaQ C q) 0 S w):=by
 have HM:=zc hm
 have ae:=hm.few
 clear hm
 have HV:Hid (zaQ C q=bd (bd (bd (bd (.ok (adv q)) (zd C 4 zw)) (zd C 1 sAs)) (zj C false)) fun a=>bd (zaR C (zaE C (.ok a.1))) fun b=>zak C ⟨b.2,zw,a.2⟩ b.1):=by
  show _=_
  rw[zaQ,zd,if_pos hw,zz]
  rw[zx,h1,h2]
  rfl
 unfold pv
 go_enter Tryz.func70,Tryz.ntmps70
 go_wp2_with fail
 refine (zaH C D z o (.ok q) S q (-1) 0 zah _ (zX q) ((HM.out.alloc _).alloc _)).mono ?_
 rintro e w1 ⟨S1,q1,z1,rfl,i1,m1,s1⟩
 obtain⟨L,V,t1⟩:=HM.out.two2 s1
 have j:=zc L
 have n:=zc V
 have az:=zc m1
 have aO:=zc t1
 have aw:=zc i1
 clear L V i1 m1 t1 s1
 obtain⟨ag,rfl⟩:=zcO aw.out hw
 have HQ:=zc ag
 have ah:Hid (q1.pos=q.pos+1):=by show q1.pos=q.pos+1;rw[ag];rfl
 clear ag aw
 obtain⟨a0,a1,a2,a3,a4,a5,a6,a7,a8,a9,H,I,af⟩:=j.out.box
 unfold pv
 go_upto_region 2 with fail
 refine zL (R:=fun W=>Bx D S1 W (w.heap.size) _∧Bx D S1 W (w.heap.size+1) _∧Mem C D z o S1 q1 W∧SB w.heap.size S w S1 W) ⟨(j.out.put ..),(n.out.other (by omega) ..),(az.out.put j.out ..),(aO.out.put (by omega) ..)⟩ ?_
 clear a0 a1 a2 a3 a4 a5 a6 a7 a8 a9 H I af
 clear j n aO az
 rintro w2 ⟨L,V,m2,t2⟩
 have j:=zc L
 have n:=zc V
 have ak:=zc m2
 have am:=zc t2
 clear m2 t2 L V
 obtain⟨a0,a1,a2,a3,a4,a5,a6,a7,a8,a9,H,I,af⟩:=j.out.box
 go_wp2_with fail
 refine (zh C D z o S1 q1 (-1) 0 4 zJ _ ak.out.tok ae (by decide)).mono ?_
 rintro e w3 ⟨rfl,O⟩
 rw[ah.out,h1]
 replace j:=zc (j.out.below O)
 replace n:=zc (n.out.below O)
 have aG:=zc (am.out.below O)
 have al:=zc (ak.out.later O)
 clear O am ak
 clear a0 a1 a2 a3 a4 a5 a6 a7 a8 a9 H I af
 obtain⟨a0,a1,a2,a3,a4,a5,a6,a7,a8,a9,H,I,af⟩:=j.out.box
 go_wp2_with fail
 refine (zh C D z o S1 q1 (-1) 0 4 zw _ al.out.tok ae (by decide)).mono ?_
 rintro e w4 ⟨rfl,Q⟩
 rw[ah.out,h2]
 replace j:=zc (j.out.below Q)
 replace n:=zc (n.out.below Q)
 have aC:=zc (aG.out.below Q)
 have aM:=zc (al.out.later Q)
 clear Q aG al
 clear a0 a1 a2 a3 a4 a5 a6 a7 a8 a9 H I af
 obtain⟨a0,a1,a2,a3,a4,a5,a6,a7,a8,a9,H,I,af⟩:=j.out.box
 clear ah
 go_wp2_with fail
 refine (zad C D z o (.ok q1) S1 q1 (-1) 0 zw _ (zX q1) aM.out).mono ?_
 rintro e w5 ⟨S5,q5,z5,rfl,i5,m5,s5⟩
 replace j:=zc (j.out.stp s5)
 replace n:=zc (n.out.stp s5)
 have au:=zc (aC.out.step s5)
 clear aC
 have ap:=zc m5
 have aU:=zc i5
 clear i5 m5 s5 aM
 clear a0 a1 a2 a3 a4 a5 a6 a7 a8 a9 H I af
 go_wp2_with fail
 refine (zaH C D z o _ S5 q5 z5 0 sAs _ aU.out ap.out).mono ?_
 rintro e w6 ⟨S6,q6,z6,rfl,i6,m6,s6⟩
 replace j:=zc (j.out.stp s6)
 replace n:=zc (n.out.stp s6)
 have ao:=zc (au.out.step s6)
 clear au
 have aA:=zc m6
 have aX:=zc i6
 clear i6 m6 s6 ap
 go_wp2_with fail
 refine (zbe C D z o _ S6 q6 z6 0 false _ aX.out aA.out).mono ?_
 rintro e w7 ⟨S7,q7,z7,n7,rfl,i7,m7,s7⟩
 replace j:=zc (j.out.stp s7)
 replace n:=zc (n.out.stp s7)
 have aF:=zc (ao.out.step s7)
 clear ao
 have aj:=zc m7
 have aJ:=zc i7
 clear i7 m7 s7 aA
 have bg:w.heap.size+1<w7.heap.size:=n.out.lt
 unfold pv
 go_upto_region 13 with fail
 refine zL (R:=fun W=>Bx D S7 W (w.heap.size) _∧Bx D S7 W (w.heap.size+1) _∧Bx D S7 W (w7.heap.size) _∧Mem C D z o S7 q7 W∧SB w.heap.size S w S7 W) ⟨(j.out.alloc _),(n.out.alloc _),(Bx.new aj.out _),(aj.out.alloc _),(aF.out.alloc _)⟩ ?_
 clear j n aF aj
 rintro w8 ⟨L,V,X2,m8,t8⟩
 have j:=zc L
 have n:=zc V
 have A:=zc X2
 have aK:=zc m8
 have aq:=zc t8
 clear m8 t8 L V X2
 obtain⟨c0,c1,c2,c3,c4,c5,c6,c7,c8,c9,aT,aW,cf⟩:=A.out.box
 go_wp2_with fail
 refine (zaH C D z o _ S7 q7 z7 0 zU _ aJ.out.fst aK.out).mono ?_
 rintro e w9 ⟨S9,q9,z9,rfl,i9,m9,s9⟩
 replace j:=zc (j.out.stp s9)
 replace n:=zc (n.out.stp s9)
 replace A:=zc (A.out.stp s9)
 have aI:=zc (aq.out.step s9)
 clear aq
 have aQ:=zc m9
 have bc:=zc i9
 clear i9 m9 s9 aK
 clear c0 c1 c2 c3 c4 c5 c6 c7 c8 c9 aT aW cf
 go_wp2_with fail
 refine (zdA C D z o _ S9 q9 z9 0 _ bc.out aQ.out).mono ?_
 rintro e ai ⟨E,ay,aS,bb,rfl,aL,aH,U⟩
 replace j:=zc (j.out.stp U)
 replace n:=zc (n.out.stp U)
 replace A:=zc (A.out.stp U)
 have aa:=zc (aI.out.step U)
 clear aI
 have N:=zc aH
 have Y:=zc aL
 clear aL aH U aQ
 have bi:w.heap.size+1<ai.heap.size:=n.out.lt
 have aR:w7.heap.size<ai.heap.size:=A.out.lt
 unfold pv
 go_upto_region 14 with fail
 refine zL (R:=fun W=>Bx D E W (w.heap.size) _∧Bx D E W (w.heap.size+1) _∧Bx D E W (w7.heap.size) _∧Bx D E W (ai.heap.size) _∧Mem C D z o E ay W∧SB w.heap.size S w E W) ⟨(j.out.alloc _),(n.out.alloc _),(A.out.alloc _),(Bx.new N.out _),(N.out.alloc _),(aa.out.alloc _)⟩ ?_
 clear j n A aa N
 rintro bp ⟨L,V,X2,X3,aN,an⟩
 have j:=zc L
 have n:=zc V
 have A:=zc X2
 have M:=zc X3
 have X:=zc aN
 have ab:=zc an
 clear aN an L V X2 X3
 obtain⟨d0,d1,d2,d3,d4,d5,d6,d7,d8,d9,ba,be,df⟩:=M.out.box
 go_wp2_with fail
 refine (zad C D z o _ E ay aS 0 cSemi _ Y.out.fst X.out).mono ?_
 rintro e bj ⟨aV,aZ,aY,rfl,av,ax,K⟩
 replace j:=zc (j.out.stp K)
 replace n:=zc (n.out.stp K)
 replace A:=zc (A.out.stp K)
 replace M:=zc (M.out.stp K)
 have ac:=zc (ab.out.step K)
 clear ab
 have Z:=zc ax
 have ad:=zc av
 clear av ax K X
 clear d0 d1 d2 d3 d4 d5 d6 d7 d8 d9 ba be df
 go_wp2_with fail
 refine (zg2 C D z o _ aV aZ aY 0 ⟨bb,zw,n7⟩ _ ad.out Z.out (zbh ad.out)).mono ?_
 rintro e bk ⟨bn,bq,bo,rfl,ar,aP,J⟩
 replace j:=zc (j.out.stp J)
 replace n:=zc (n.out.stp J)
 replace A:=zc (A.out.stp J)
 replace M:=zc (M.out.stp J)
 have aB:=zc (ac.out.step J)
 clear ac
 have aD:=zc aP
 have aE:=zc ar
 clear ar aP J Z
 obtain⟨b0,b1,b2,b3,b4,b5,b6,b7,b8,b9,bm,bl,bf⟩:=n.out.box
 unfold pv
 go_wp2
 refine bodyPost_ret (results_cell_row rfl _ _ (w.heap.size+1) 53 _ (0,0) _ rfl ((n.out.put ..)).heap Tryz.underlying53 rfl (by kernel_rfl)) rfl ?_
 rw[HV.out,←HQ.out,←ziL (G:=fun b a=>zak C ⟨b,zw,a⟩) aJ.out Y.out]
 exact zY rfl aE.out (aD.out.put n.out ..) (aB.out.put (by omega) ..)
theorem zn3 (C:Cx) (D z o:Nat) (S:Sv) (q:PS) (w:World) (hm:Mem C D z o S q w) (hw:isT C q.pos 1 zah=true) (h1:isT C (q.pos+1) 4 zJ=false) (h2:isT C (q.pos+1) 4 zw=false) (h3:zD C (q.pos+1) false=true):
  Calls Tryz.prog 70 #[pv C D z S q (-1) 0] w (Out C D z o (zaQ C q) 0 S w):=by
 have HM:=zc hm
 have U:=hm.few
 clear hm
 have HV:Hid (zaQ C q=bd (bd (.ok (adv q)) (zj C false)) fun a=>bd (zaR C (zaE C (.ok a.1))) fun b=>zak C ⟨b.2,sDefault,a.2⟩ b.1):=by
  show _=_
  rw[zaQ,zd,if_pos hw,zz]
  rw[zx,h1,h2,h3]
  rfl
 unfold pv
 go_enter Tryz.func70,Tryz.ntmps70
 go_wp2_with fail
 refine (zaH C D z o (.ok q) S q (-1) 0 zah _ (zX q) ((HM.out.alloc _).alloc _)).mono ?_
 rintro e w1 ⟨S1,q1,z1,rfl,i1,m1,s1⟩
 obtain⟨K,Q,t1⟩:=HM.out.two2 s1
 have j:=zc K
 have n:=zc Q
 have aA:=zc m1
 have aM:=zc t1
 have aw:=zc i1
 clear K Q i1 m1 t1 s1
 obtain⟨ag,rfl⟩:=zcO aw.out hw
 have HQ:=zc ag
 have Z:Hid (q1.pos=q.pos+1):=by show q1.pos=q.pos+1;rw[ag];rfl
 clear ag aw
 obtain⟨a0,a1,a2,a3,a4,X,V,a7,a8,a9,E,H,Y⟩:=j.out.box
 unfold pv
 go_upto_region 2 with fail
 refine zL (R:=fun W=>Bx D S1 W (w.heap.size) _∧Bx D S1 W (w.heap.size+1) _∧Mem C D z o S1 q1 W∧SB w.heap.size S w S1 W) ⟨(j.out.put ..),(n.out.other (by omega) ..),(aA.out.put j.out ..),(aM.out.put (by omega) ..)⟩ ?_
 clear a0 a1 a2 a3 a4 X V a7 a8 a9 E H Y
 clear j n aM aA
 rintro w2 ⟨K,Q,m2,t2⟩
 have j:=zc K
 have n:=zc Q
 have ai:=zc m2
 have am:=zc t2
 clear m2 t2 K Q
 obtain⟨a0,a1,a2,a3,a4,X,V,a7,a8,a9,E,H,Y⟩:=j.out.box
 go_wp2_with fail
 refine (zh C D z o S1 q1 (-1) 0 4 zJ _ ai.out.tok U (by decide)).mono ?_
 rintro e w3 ⟨rfl,N⟩
 rw[Z.out,h1]
 replace j:=zc (j.out.below N)
 replace n:=zc (n.out.below N)
 have aG:=zc (am.out.below N)
 have aj:=zc (ai.out.later N)
 clear N am ai
 clear a0 a1 a2 a3 a4 X V a7 a8 a9 E H Y
 obtain⟨a0,a1,a2,a3,a4,X,V,a7,a8,a9,E,H,Y⟩:=j.out.box
 go_wp2_with fail
 refine (zh C D z o S1 q1 (-1) 0 4 zw _ aj.out.tok U (by decide)).mono ?_
 rintro e w4 ⟨rfl,O⟩
 rw[Z.out,h2]
 replace j:=zc (j.out.below O)
 replace n:=zc (n.out.below O)
 have aC:=zc (aG.out.below O)
 have ak:=zc (aj.out.later O)
 clear O aG aj
 clear a0 a1 a2 a3 a4 X V a7 a8 a9 E H Y
 obtain⟨a0,a1,a2,a3,a4,X,V,a7,a8,a9,E,H,Y⟩:=j.out.box
 go_wp2_with fail
 refine (zfz C D z o S1 q1 (-1) 0 false _ ak.out.tok U).mono ?_
 rintro e w5 ⟨rfl,M⟩
 rw[Z.out,h3]
 replace j:=zc (j.out.below M)
 replace n:=zc (n.out.below M)
 have av:=zc (aC.out.below M)
 have ap:=zc (ak.out.later M)
 clear M aC ak
 clear a0 a1 a2 a3 a4 X V a7 a8 a9 E H Y
 obtain⟨a0,a1,a2,a3,a4,X,V,a7,a8,a9,E,H,Y⟩:=j.out.box
 clear Z
 go_wp2_with fail
 refine (zbe C D z o (.ok q1) S1 q1 (-1) 0 false _ (zX q1) ap.out).mono ?_
 rintro e w6 ⟨S6,q6,z6,n6,rfl,i6,m6,s6⟩
 replace j:=zc (j.out.stp s6)
 replace n:=zc (n.out.stp s6)
 have ao:=zc (av.out.step s6)
 clear av
 have ah:=zc m6
 have aB:=zc i6
 clear i6 m6 s6 ap
 clear a0 a1 a2 a3 a4 X V a7 a8 a9 E H Y
 have aW:w.heap.size+1<w6.heap.size:=n.out.lt
 unfold pv
 go_upto_region 17 with fail
 refine zL (R:=fun W=>Bx D S6 W (w.heap.size) _∧Bx D S6 W (w.heap.size+1) _∧Bx D S6 W (w6.heap.size) _∧Mem C D z o S6 q6 W∧SB w.heap.size S w S6 W) ⟨(j.out.alloc _),(n.out.alloc _),(Bx.new ah.out _),(ah.out.alloc _),(ao.out.alloc _)⟩ ?_
 clear j n ao ah
 rintro w7 ⟨K,Q,X2,m7,t7⟩
 have j:=zc K
 have n:=zc Q
 have A:=zc X2
 have aE:=zc m7
 have aF:=zc t7
 clear m7 t7 K Q X2
 obtain⟨c0,c1,c2,c3,c4,c5,c6,c7,c8,c9,aO,aS,cf⟩:=A.out.box
 go_wp2_with fail
 refine (zaH C D z o _ S6 q6 z6 0 zU _ aB.out.fst aE.out).mono ?_
 rintro e w8 ⟨S8,q8,z8,rfl,i8,m8,s8⟩
 replace j:=zc (j.out.stp s8)
 replace n:=zc (n.out.stp s8)
 replace A:=zc (A.out.stp s8)
 have aq:=zc (aF.out.step s8)
 clear aF
 have aJ:=zc m8
 have aR:=zc i8
 clear i8 m8 s8 aE
 clear c0 c1 c2 c3 c4 c5 c6 c7 c8 c9 aO aS cf
 go_wp2_with fail
 refine (zdA C D z o _ S8 q8 z8 0 _ aR.out aJ.out).mono ?_
 rintro e w9 ⟨S9,q9,z9,n9,rfl,i9,m9,s9⟩
 replace j:=zc (j.out.stp s9)
 replace n:=zc (n.out.stp s9)
 replace A:=zc (A.out.stp s9)
 have aI:=zc (aq.out.step s9)
 clear aq
 have al:=zc m9
 have aK:=zc i9
 clear i9 m9 s9 aJ
 have aX:w.heap.size+1<w9.heap.size:=n.out.lt
 have aN:w6.heap.size<w9.heap.size:=A.out.lt
 unfold pv
 go_upto_region 18 with fail
 refine zL (R:=fun W=>Bx D S9 W (w.heap.size) _∧Bx D S9 W (w.heap.size+1) _∧Bx D S9 W (w6.heap.size) _∧Bx D S9 W (w9.heap.size) _∧Mem C D z o S9 q9 W∧SB w.heap.size S w S9 W) ⟨(j.out.alloc _),(n.out.alloc _),(A.out.alloc _),(Bx.new al.out _),(al.out.alloc _),(aI.out.alloc _)⟩ ?_
 clear j n A aI al
 rintro bg ⟨K,Q,X2,X3,aH,az⟩
 have j:=zc K
 have n:=zc Q
 have A:=zc X2
 have L:=zc X3
 have ae:=zc aH
 have ab:=zc az
 clear aH az K Q X2 X3
 obtain⟨d0,d1,d2,d3,d4,d5,d6,d7,d8,d9,aU,aV,df⟩:=L.out.box
 go_wp2_with fail
 refine (zad C D z o _ S9 q9 z9 0 cSemi _ aK.out.fst ae.out).mono ?_
 rintro e bi ⟨aP,aT,aQ,rfl,ar,aL,I⟩
 replace j:=zc (j.out.stp I)
 replace n:=zc (n.out.stp I)
 replace A:=zc (A.out.stp I)
 replace L:=zc (L.out.stp I)
 have ac:=zc (ab.out.step I)
 clear ab
 have aa:=zc aL
 have ad:=zc ar
 clear ar aL I ae
 clear d0 d1 d2 d3 d4 d5 d6 d7 d8 d9 aU aV df
 go_wp2_with fail
 refine (zg2 C D z o _ aP aT aQ 0 ⟨n9,sDefault,n6⟩ _ ad.out aa.out (zbh ad.out)).mono ?_
 rintro e aY ⟨aZ,be,bb,rfl,au,ax,J⟩
 replace j:=zc (j.out.stp J)
 replace n:=zc (n.out.stp J)
 replace A:=zc (A.out.stp J)
 replace L:=zc (L.out.stp J)
 have ay:=zc (ac.out.step J)
 clear ac
 have an:=zc ax
 have aD:=zc au
 clear au ax J aa
 obtain⟨b0,b1,b2,b3,b4,b5,b6,b7,b8,b9,bc,ba,bf⟩:=n.out.box
 unfold pv
 go_wp2
 refine bodyPost_ret (results_cell_row rfl _ _ (w.heap.size+1) 53 _ (0,0) _ rfl ((n.out.put ..)).heap Tryz.underlying53 rfl (by kernel_rfl)) rfl ?_
 rw[HV.out,←HQ.out,←ziL (G:=fun b a=>zak C ⟨b,sDefault,a⟩) aB.out aK.out]
 exact zY rfl aD.out (an.out.put n.out ..) (ay.out.put (by omega) ..)
theorem zn4 (C:Cx) (E z o:Nat) (S:Sv) (q:PS) (w:World) (hm:Mem C E z o S q w) (hw:isT C q.pos 1 zah=true) (h1:isT C (q.pos+1) 4 zJ=false) (h2:isT C (q.pos+1) 4 zw=false) (h3:zD C (q.pos+1) false=false):
  Calls Tryz.prog 70 #[pv C E z S q (-1) 0] w (Out C E z o (zaQ C q) 0 S w):=by
 have HM:=zc hm
 have K:=hm.few
 clear hm
 have HV:Hid (zaQ C q=bd (bd (.ok (adv q)) (zH C)) fun a=>zd C 4 cSemi a.1):=by
  show _=_
  rw[zaQ,zd,if_pos hw,zz]
  rw[zx,h1,h2,h3]
  rfl
 unfold pv
 go_enter Tryz.func70,Tryz.ntmps70
 go_wp2_with fail
 refine (zaH C E z o (.ok q) S q (-1) 0 zah _ (zX q) ((HM.out.alloc _).alloc _)).mono ?_
 rintro e w1 ⟨S1,q1,z1,rfl,i1,m1,s1⟩
 obtain⟨X0,X1,t1⟩:=HM.out.two2 s1
 have j:=zc X0
 have n:=zc X1
 have am:=zc m1
 have au:=zc t1
 have al:=zc i1
 clear X0 X1 i1 m1 t1 s1
 obtain⟨aa,rfl⟩:=zcO al.out hw
 have HQ:=zc aa
 have O:Hid (q1.pos=q.pos+1):=by show q1.pos=q.pos+1;rw[aa];rfl
 clear aa al
 obtain⟨V,Q,X,a3,a4,M,L,Y,U,Z,A,D,N⟩:=j.out.box
 unfold pv
 go_upto_region 2 with fail
 refine zL (R:=fun W=>Bx E S1 W (w.heap.size) _∧Bx E S1 W (w.heap.size+1) _∧Mem C E z o S1 q1 W∧SB w.heap.size S w S1 W) ⟨(j.out.put ..),(n.out.other (by omega) ..),(am.out.put j.out ..),(au.out.put (by omega) ..)⟩ ?_
 clear V Q X a3 a4 M L Y U Z A D N
 clear j n au am
 rintro w2 ⟨X0,X1,m2,t2⟩
 have j:=zc X0
 have n:=zc X1
 have ad:=zc m2
 have ah:=zc t2
 clear m2 t2 X0 X1
 obtain⟨V,Q,X,a3,a4,M,L,Y,U,Z,A,D,N⟩:=j.out.box
 go_wp2_with fail
 refine (zh C E z o S1 q1 (-1) 0 4 zJ _ ad.out.tok K (by decide)).mono ?_
 rintro e w3 ⟨rfl,I⟩
 rw[O.out,h1]
 replace j:=zc (j.out.below I)
 replace n:=zc (n.out.below I)
 have ar:=zc (ah.out.below I)
 have ae:=zc (ad.out.later I)
 clear I ah ad
 clear V Q X a3 a4 M L Y U Z A D N
 obtain⟨V,Q,X,a3,a4,M,L,Y,U,Z,A,D,N⟩:=j.out.box
 go_wp2_with fail
 refine (zh C E z o S1 q1 (-1) 0 4 zw _ ae.out.tok K (by decide)).mono ?_
 rintro e w4 ⟨rfl,J⟩
 rw[O.out,h2]
 replace j:=zc (j.out.below J)
 replace n:=zc (n.out.below J)
 have ao:=zc (ar.out.below J)
 have ag:=zc (ae.out.later J)
 clear J ar ae
 clear V Q X a3 a4 M L Y U Z A D N
 obtain⟨V,Q,X,a3,a4,M,L,Y,U,Z,A,D,N⟩:=j.out.box
 go_wp2_with fail
 refine (zfz C E z o S1 q1 (-1) 0 false _ ag.out.tok K).mono ?_
 rintro e w5 ⟨rfl,H⟩
 rw[O.out,h3]
 replace j:=zc (j.out.below H)
 replace n:=zc (n.out.below H)
 have ak:=zc (ao.out.below H)
 have aj:=zc (ag.out.later H)
 clear H ao ag
 clear V Q X a3 a4 M L Y U Z A D N
 obtain⟨V,Q,X,a3,a4,M,L,Y,U,Z,A,D,N⟩:=j.out.box
 clear O
 go_wp2_with fail
 refine (zdA C E z o (.ok q1) S1 q1 (-1) 0 _ (zX q1) aj.out).mono ?_
 rintro e w6 ⟨S6,q6,z6,n6,rfl,i6,m6,s6⟩
 replace j:=zc (j.out.stp s6)
 replace n:=zc (n.out.stp s6)
 have ai:=zc (ak.out.step s6)
 clear ak
 have ab:=zc m6
 have an:=zc i6
 clear i6 m6 s6 aj
 clear V Q X a3 a4 M L Y U Z A D N
 have aA:w.heap.size+1<w6.heap.size:=n.out.lt
 unfold pv
 go_upto_region 20 with fail
 refine zL (R:=fun W=>Bx E S6 W (w.heap.size) _∧Bx E S6 W (w.heap.size+1) _∧Bx E S6 W (w6.heap.size) _∧Mem C E z o S6 q6 W∧SB w.heap.size S w S6 W) ⟨(j.out.alloc _),(n.out.alloc _),(Bx.new ab.out _),(ab.out.alloc _),(ai.out.alloc _)⟩ ?_
 clear j n ai ab
 rintro w7 ⟨X0,X1,X2,m7,t7⟩
 have j:=zc X0
 have n:=zc X1
 have ac:=zc X2
 have ap:=zc m7
 have aq:=zc t7
 clear m7 t7 X0 X1 X2
 obtain⟨c0,c1,c2,c3,c4,c5,c6,c7,c8,c9,av,ay,cf⟩:=ac.out.box
 go_wp2_with fail
 refine (zad C E z o _ S6 q6 z6 0 cSemi _ an.out.fst ap.out).mono ?_
 rintro e w8 ⟨S8,q8,z8,rfl,i8,m8,s8⟩
 replace j:=zc (j.out.stp s8)
 replace n:=zc (n.out.stp s8)
 replace ac:=zc (ac.out.stp s8)
 have aw:=zc (aq.out.step s8)
 clear aq
 have az:=zc m8
 have ax:=zc i8
 clear i8 m8 s8 ap
 clear c0 c1 c2 c3 c4 c5 c6 c7 c8 c9 av ay cf
 obtain⟨b0,b1,b2,b3,b4,b5,b6,b7,b8,b9,aC,aB,bf⟩:=n.out.box
 unfold pv
 go_wp2
 refine bodyPost_ret (results_cell_row rfl _ _ (w.heap.size+1) 53 _ (0,0) _ rfl ((n.out.put ..)).heap Tryz.underlying53 rfl (by kernel_rfl)) rfl ?_
 rw[HV.out,←HQ.out,←an.out.bind (fun q _=>zd C 4 cSemi q)]
 exact zY rfl ax.out (az.out.put n.out ..) (aw.out.put (by omega) ..)
theorem zn5 (C:Cx) (E A o:Nat) (S:Sv) (q:PS) (w:World) (hm:Mem C E A o S q w) (hw:isT C q.pos 1 zah=true) (h1:isT C (q.pos+1) 4 zJ=true):
  Calls Tryz.prog 70 #[pv C E A S q (-1) 0] w (Out C E A o (zaQ C q) 0 S w):=by
 have HM:=zc hm
 have aO:=hm.few
 clear hm
 have HV:Hid (zaQ C q=bd (zcw C false (adv q)) fun a=>bd (zaR C (zaE C (.ok a.1))) fun b=>zP (fun e=>zak C (zbF b.2 e)) a.2 (.ok b.1)):=by
  show _=_
  rw[zaQ,zd,if_pos hw,zz]
  rw[zx,h1]
  rfl
 unfold pv
 go_enter Tryz.func70,Tryz.ntmps70
 go_wp2_with fail
 refine (zaH C E A o (.ok q) S q (-1) 0 zah _ (zX q) ((HM.out.alloc _).alloc _)).mono ?_
 rintro e w1 ⟨S1,q1,z1,rfl,i1,m1,s1⟩
 obtain⟨L,O,t1⟩:=HM.out.two2 s1
 have n:=zc L
 have z:=zc O
 have aA:=zc m1
 have aM:=zc t1
 have ax:=zc i1
 clear L O i1 m1 t1 s1
 obtain⟨ae,rfl⟩:=zcO ax.out hw
 have HQ:=zc ae
 have az:Hid (q1.pos=q.pos+1):=by show q1.pos=q.pos+1;rw[ae];rfl
 clear ae ax
 obtain⟨a0,a1,a2,a3,a4,a5,a6,a7,a8,a9,I,J,af⟩:=n.out.box
 unfold pv
 go_upto_region 2 with fail
 refine zL (R:=fun W=>Bx E S1 W (w.heap.size) _∧Bx E S1 W (w.heap.size+1) _∧Mem C E A o S1 q1 W∧SB w.heap.size S w S1 W) ⟨(n.out.put ..),(z.out.other (by omega) ..),(aA.out.put n.out ..),(aM.out.put (by omega) ..)⟩ ?_
 clear a0 a1 a2 a3 a4 a5 a6 a7 a8 a9 I J af
 clear n z aM aA
 rintro w2 ⟨L,O,m2,t2⟩
 have n:=zc L
 have z:=zc O
 have ai:=zc m2
 have ao:=zc t2
 clear m2 t2 L O
 obtain⟨a0,a1,a2,a3,a4,a5,a6,a7,a8,a9,I,J,af⟩:=n.out.box
 go_wp2_with fail
 refine (zh C E A o S1 q1 (-1) 0 4 zJ _ ai.out.tok aO (by decide)).mono ?_
 rintro e w3 ⟨rfl,Y⟩
 rw[az.out,h1]
 replace n:=zc (n.out.below Y)
 replace z:=zc (z.out.below Y)
 have aj:=zc (ao.out.below Y)
 have aL:=zc (ai.out.later Y)
 clear Y ao ai
 clear a0 a1 a2 a3 a4 a5 a6 a7 a8 a9 I J af
 obtain⟨a0,a1,a2,a3,a4,a5,a6,a7,a8,a9,I,J,af⟩:=n.out.box
 clear az
 have aS:=aj.out.size
 go_wp2_with fail
 refine (zi7 C E A o S1 q1 0 false _ aL.out).mono ?_
 rintro e w4 ⟨S4,q4,z4,⟨ra,rc⟩,l,rfl,i4,m4,s4,R0,hl⟩
 obtain⟨g,rfl⟩: ∃g,ra=some ⟨g,0,none⟩:=R0.addr
 replace n:=zc (n.out.stp s4)
 replace z:=zc (z.out.stp s4)
 have aD:=zc (aj.out.step s4)
 clear aj
 have al:=zc m4
 have aE:=zc i4
 clear i4 m4 s4 aL
 clear a0 a1 a2 a3 a4 a5 a6 a7 a8 a9 I J af
 have H:Hid (Row S4 w4 o w.heap.size ⟨some ⟨g,0,none⟩,rc⟩ l):=⟨R0.own,R0.free,fun k hk=>Nat.le_trans aS (R0.new k hk),R0.addr⟩
 clear R0
 have aY:w.heap.size+1<w4.heap.size:=z.out.lt
 unfold pv
 go_upto_region 4 with fail
 refine zL (R:=fun W=>Bx E S4 W (w.heap.size) _∧Bx E S4 W (w.heap.size+1) _∧Bx E S4 W (w4.heap.size) _∧Row S4 W o w.heap.size ⟨some ⟨g,0,none⟩,rc⟩ l∧Mem C E A o S4 q4 W∧SB w.heap.size S w S4 W) ⟨(n.out.alloc _),(z.out.alloc _),(Bx.new al.out _),(H.out.alloc _),(al.out.alloc _),(aD.out.alloc _)⟩ ?_
 clear n z aD al
 clear H
 rintro w5 ⟨L,O,X2,R0,m5,t5⟩
 have H:=zc R0
 clear R0
 have n:=zc L
 have z:=zc O
 have D:=zc X2
 have aq:=zc m5
 have av:=zc t5
 clear m5 t5 L O X2
 obtain⟨c0,c1,c2,c3,c4,c5,c6,c7,c8,c9,aR,aU,cf⟩:=D.out.box
 go_wp2_with fail
 refine (zaH C E A o _ S4 q4 z4 0 zU _ aE.out.fst aq.out).mono ?_
 rintro e w6 ⟨S6,q6,z6,rfl,i6,m6,s6⟩
 replace n:=zc (n.out.stp s6)
 replace z:=zc (z.out.stp s6)
 replace D:=zc (D.out.stp s6)
 have ap:=zc (av.out.step s6)
 have N:Hid (Row S6 w6 o w.heap.size ⟨some ⟨g,0,none⟩,rc⟩ l):=H.out.stp s6
 clear H
 have H:=zc N
 clear N
 clear av
 have aB:=zc m6
 have aV:=zc i6
 clear i6 m6 s6 aq
 clear c0 c1 c2 c3 c4 c5 c6 c7 c8 c9 aR aU cf
 go_wp2_with fail
 refine (zdA C E A o _ S6 q6 z6 0 _ aV.out aB.out).mono ?_
 rintro e w7 ⟨S7,q7,z7,n7,rfl,i7,m7,s7⟩
 replace n:=zc (n.out.stp s7)
 replace z:=zc (z.out.stp s7)
 replace D:=zc (D.out.stp s7)
 have aF:=zc (ap.out.step s7)
 have N:Hid (Row S7 w7 o w.heap.size ⟨some ⟨g,0,none⟩,rc⟩ l):=H.out.stp s7
 clear H
 have H:=zc N
 clear N
 clear ap
 have ah:=zc m7
 have aG:=zc i7
 clear i7 m7 s7 aB
 have aZ:w.heap.size+1<w7.heap.size:=z.out.lt
 have aP:w4.heap.size<w7.heap.size:=D.out.lt
 unfold pv
 go_upto_region 5 with fail
 refine zL (R:=fun W=>Bx E S7 W (w.heap.size) _∧Bx E S7 W (w.heap.size+1) _∧Bx E S7 W (w4.heap.size) _∧Bx E S7 W (w7.heap.size) _∧Row S7 W o w.heap.size ⟨some ⟨g,0,none⟩,rc⟩ l∧Mem C E A o S7 q7 W∧SB w.heap.size S w S7 W) ⟨(n.out.alloc _),(z.out.alloc _),(D.out.alloc _),(Bx.new ah.out _),(H.out.alloc _),(ah.out.alloc _),(aF.out.alloc _)⟩ ?_
 clear n z D aF ah
 clear H
 rintro w8 ⟨L,O,X2,X3,R0,m8,t8⟩
 have H:=zc R0
 clear R0
 have n:=zc L
 have z:=zc O
 have D:=zc X2
 have Q:=zc X3
 have aI:=zc m8
 have au:=zc t8
 clear m8 t8 L O X2 X3
 obtain⟨d0,d1,d2,d3,d4,d5,d6,d7,d8,d9,ak,am,df⟩:=Q.out.box
 go_wp2_with fail
 refine (zad C E A o _ S7 q7 z7 0 cSemi _ aG.out.fst aI.out).mono ?_
 rintro e w9 ⟨X,q9,z9,rfl,i9,m9,s9⟩
 replace n:=zc (n.out.stp s9)
 replace z:=zc (z.out.stp s9)
 replace D:=zc (D.out.stp s9)
 replace Q:=zc (Q.out.stp s9)
 have aa:=zc (au.out.step s9)
 have N:Hid (Row X w9 o w.heap.size ⟨some ⟨g,0,none⟩,rc⟩ l):=H.out.stp s9
 clear H
 have H:=zc N
 clear N
 clear au
 have ab:=zc m9
 have V:=zc i9
 clear i9 m9 s9 aI
 clear d0 d1 d2 d3 d4 d5 d6 d7 d8 d9 ak am df
 obtain⟨a0,a1,a2,a3,a4,a5,a6,a7,a8,a9,I,J,af⟩:=n.out.box
 unfold pv
 go_upto_region 6 with fail
 refine zL (R:=fun W=>Bx E X W (w.heap.size) _∧Bx E X W (w.heap.size+1) _∧Bx E X W (w4.heap.size) _∧Bx E X W (w7.heap.size) _∧Row X W o w.heap.size ⟨some ⟨g,0,none⟩,rc⟩ l∧Mem C E A o X q9 W∧SB w.heap.size S w X W) ⟨(n.out.put ..),(z.out.other (by omega) ..),(D.out.other (by omega) ..),(Q.out.other (by omega) ..),(H.out.put n.out ..),(ab.out.put n.out ..),(aa.out.put (by omega) ..)⟩ ?_
 clear a0 a1 a2 a3 a4 a5 a6 a7 a8 a9 I J af
 clear n z D Q aa ab
 clear H
 rintro aC ⟨L,O,X2,X3,R0,Z,ay⟩
 have H:=zc R0
 clear R0
 have n:=zc L
 have z:=zc O
 have D:=zc X2
 have Q:=zc X3
 have U:=zc Z
 have ad:=zc ay
 clear Z ay L O X2 X3
 have aX:Hid (_=_):=zgI (G:=fun b e=>zak C (zbF b e)) aE.out aG.out
 go_wp2
 go_loopg [8] l.length (fun k i wr=>∃(j:Nat) (x':PR) (M:Sv) (q':PS) (z':Int),j≤l.length∧i= .int .i64 j∧Is x' q' z'∧(z'<0→1≤q'.pos)∧zP (fun e=>zak C (zbF n7 e)) (l.drop j) x'=zaQ C q∧l.length-j=k∧Mem C E A o M q' wr∧SB w.heap.size S w M wr∧Bx E M wr w.heap.size #[.slice (some ⟨E,0,none⟩) C.ts.length A,.int .i64 q'.pos,.int .i64 C.fin,.bool C.scr,.slice M.rq.a q'.rq.length M.rq.cap,.slice M.im.a q'.im.length M.im.cap,.slice M.ep.a q'.ep.length M.ep.cap,.slice M.st.a q'.st.length M.st.cap,.slice M.ex.a q'.ex.length M.ex.cap,.slice M.la.a q'.la.length M.la.cap,.int .i64 z',.int .i64 0]∧Bx E M wr (w.heap.size+1) #[.slice none 0 0,.int .i64 0,.int .i64 0,.bool false,.slice none 0 0,.slice none 0 0,.slice none 0 0,.slice none 0 0,.slice none 0 0,.slice none 0 0,.int .i64 0,.int .i64 0]∧Row M wr o w.heap.size ⟨some ⟨g,0,none⟩,rc⟩ l)
 case atStart=>exact⟨0,_,X,q9,z9,Nat.zero_le _,rfl,V.out,zbh V.out,by rw[HV.out,←HQ.out];exact aX.out,rfl,U.out,ad.out,n.out,z.out,H.out⟩
 case round=>
  obtain⟨j,x9,X,q9,z9,hj,rfl,i9,p9,e9,g9,m9,t9,L,O,R0⟩:=hrel
  clear n z D Q H U ad
  have n:=zc L
  have z:=zc O
  have ab:=zc m9
  have aa:=zc t9
  have V:=zc i9
  have aw:=zc p9
  have ar:=zc e9
  have aK:=zc g9
  have H:=zc R0
  clear L O i9 m9 t9 e9 g9 R0 p9
  by_cases aN:j<l.length
  ·skip
   obtain⟨c1,c2⟩:=H.out.cells (g:=g) rfl aN
   have bc:=H.out.own.lt (g:=g) rfl
   have HX:Hid (∀e,e=l[j]→zP (fun e=>zak C (zbF n7 e)) (l.drop (j+1)) (bd x9 (zak C (zbF n7 e)))=zaQ C q):=fun e he=>by rw[he,←ar.out];exact (zf7 (fun e=>zak C (zbF n7 e)) l x9 aN).symm
   generalize aH:l[j]=el at c1 c2
   have aW:Hid (el=l[j]):=aH.symm
   clear aH
   obtain⟨a0,a1,a2,a3,a4,a5,a6,a7,a8,a9,I,J,af⟩:=n.out.box
   go_upto_region 9 with fail
   go_region_law (first|(go_simp;go_wp2_with (go_at_call 132;refine (zg2 C E A o x9 X q9 z9 0 (zbF n7 el) _ V.out ab.out.drew aw.out).mono ?_;rintro e aC ⟨an,aT,aQ,rfl,aJ,Z,ag⟩;obtain⟨d0,d1,d2,d3,d4,d5,d6,d7,d8,d9,ak,am,df⟩:=(n.out.stp ag.undrew).box;unfold pv)))
   all_goals
    clear a0 a1 a2 a3 a4 a5 a6 a7 a8 a9 I J af d0 d1 d2 d3 d4 d5 d6 d7 d8 d9 ak am df
    have ac:=zc aJ
    have U:=zc Z
    have K:Hid (Stp X wr an aC):=ag.undrew
    clear aJ Z ag
    go_wp2
    go_roundg (gk-1)
    case rel=>exact⟨j+1,_,an,aT,aQ,by omega,by go_num,ac.out,zn1 aw.out V.out ac.out,HX.out el aW.out,by have:=aK.out;omega,U.out.put (n.out.stp K.out) _ _ _ _ _ _ _ _ _ _ _ _,(aa.out.step K.out).put (by omega) _ _ _ _ _ _ _ _ _ _ _ _,(n.out.stp K.out).put _ _ _ _ _ _ _ _ _ _ _ _,(z.out.stp K.out).other (by omega) _ _ _ _ _ _ _ _ _ _ _ _,(H.out.stp K.out).put (n.out.stp K.out) _ _ _ _ _ _ _ _ _ _ _ _⟩
    case measure=>have:=aK.out;omega
  ·skip
   obtain⟨a0,a1,a2,a3,a4,a5,a6,a7,a8,a9,I,J,af⟩:=n.out.box
   obtain⟨b0,b1,b2,b3,b4,b5,b6,b7,b8,b9,bb,ba,bf⟩:=z.out.box
   go_wp2
   refine bodyPost_ret (results_cell_row rfl _ _ (w.heap.size+1) 53 _ (0,0) _ rfl ((z.out.put ..)).heap Tryz.underlying53 rfl (by kernel_rfl)) rfl ?_
   exact zY rfl (show Is (zaQ C q) q9 z9 from by rw[←ar.out,List.drop_eq_nil_of_le (by omega)];exact V.out) (ab.out.put z.out ..) (aa.out.put (by omega) ..)
theorem zn6 {C:Cx} {k:Int} {n:ByteArray} {q q':PS} (h:zV C k n q= .ok q'):q'={q with st:=q.st++[⟨k,n,(q.ex.length:Int)-1⟩]}∧q.st.length<80:=by
 unfold zV at h
 split at h
 ·cases h
 ·cases h
  exact⟨rfl,by omega⟩
theorem ziM {C:Cx} {x:PR} {k:Int} {s:ByteArray} {j:Int} {n:ByteArray} {q:PS} {z:Int} (h:Is (bd (bd x (zd C k s)) (zV C j n)) q z):z<0→1≤q.pos:=by
 intro D
 obtain⟨e,_⟩:=zaC h D
 obtain⟨a,A,E⟩:=zf e
 obtain⟨b,_,o⟩:=zf A
 obtain⟨rfl,_⟩:=zb4 o
 obtain⟨rfl,_⟩:=zn6 E
 simp[adv]
theorem ziN {C:Cx} {y:PRN} {G:PR→PR} {k:Int} {s:ByteArray} {j:Int} {q:PS} {z:Int} {n:ByteArray} (h:Is2 (withN y fun x n=>bd (bd (G x) (zd C k s)) (zV C j n)) q z n):z<0→1≤q.pos:=by
 intro D
 cases y with
 |error e=>have:z=(e:Int):=h;omega
 |ok a=>
  have o:Is2 (bd (bd (bd (G (.ok a.1)) (zd C k s)) (zV C j a.2)) fun q=>.ok (q,a.2)) q z n:=h
  cases A:bd (bd (G (.ok a.1)) (zd C k s)) (zV C j a.2) with
  |error e=>rw[A] at o;have:z=(e:Int):=o;omega
  |ok b=>
   rw[A] at o
   obtain⟨rfl,rfl,_⟩:=o
   exact ziM (show Is (bd (bd (G (.ok a.1)) (zd C k s)) (zV C j a.2)) q (-1) by rw[A];exact⟨rfl,rfl⟩) (by decide)
theorem zn7 {C:Cx} {j q:PS} {z:Int} {n:ByteArray} (h:Is2 (zcj C j) q z n):z<0→1≤q.pos:=ziN (G:=fun x=>bd (bd x (zd C 4 cEq)) (pE C .sum 0)) h
theorem zn8 {C:Cx} {j q:PS} {z:Int} {n:ByteArray} (h:Is2 (fnP C j) q z n):z<0→1≤q.pos:=ziN (G:=fun x=>bd (bd (bd (bd (bd (bd x (zd C 4 zn)) (zd C 4 za0)) (zd C 4 zJ)) (zd C 1 zdT)) (pE C .sum 0)) (zd C 4 cSemi)) h
theorem zn9 {C:Cx} {x:PR} {z:PS} {A:Int} {n:ByteArray} {G:ByteArray→PS→PR} (j:Is2 (bd (bd x (zd C 1 zU)) (zH C)) z A n):
  bd (bd (zaK (bd (bd x (zd C 1 zU)) (zH C))) (zd C 4 cSemi)) (G n)=bd (zaR C (zaE C x)) fun b=>G b.2 b.1:=by
 have D:bd (bd x (zd C 1 zU)) (zH C)=zaE C x:=rfl
 rw[D] at j ⊢
 cases o:zaE C x with
 |error e=>rfl
 |ok b=>
  rw[o] at j
  obtain⟨_,_,rfl⟩:=j
  show bd (zd C 4 cSemi b.1) (G b.2)=bd (bd (zd C 4 cSemi b.1) fun q=>.ok (q,b.2)) fun b=>G b.2 b.1
  rw[zM]
  rfl
theorem znA {C:Cx} {y:PRL} {n:PS} {j:Int} {l:List Ep} {f:Ep→PS→PR} {D:PS×List Ep→PR} (z:Is3 y n j l) (A:za8 l=false) (o:(decide (j<0)&&isT C n.pos 1 zU)=false):
  zP f l (bd (zeS y) (zd C 4 cSemi))=bd y fun a=>if !za8 a.2&& !isT C a.1.pos 1 zU then bd (zd C 4 cSemi a.1) fun q=>zP f a.2 (.ok q) else D a:=by
 cases y with
 |error e=>exact zeR _ _ _
 |ok a=>
  obtain⟨rfl,rfl,rfl⟩:=z
  rw[Bool.and_eq_false_iff] at o
  rw[zz,A,o.resolve_left (by decide)]
  show zP f a.2 (zd C 4 cSemi a.1)=bd (zd C 4 cSemi a.1) fun q=>zP f a.2 (.ok q)
  cases zd C 4 cSemi a.1 with
  |error e=>exact zeR _ _ _
  |ok c=>rfl
theorem ziO {C:Cx} {y:PRL} {n:PS} {o:Int} {l:List Ep} {D E:PS×List Ep→PR} (q:Is3 y n o l) (j:za8 l=true∨(decide (o<0)&&isT C n.pos 1 zU)=true):
  bd y D=bd y fun a=>if !za8 a.2&& !isT C a.1.pos 1 zU then E a else D a:=by
 cases y with
 |error e=>rfl
 |ok a=>
  obtain⟨rfl,rfl,rfl⟩:=q
  rw[zz,zz]
  rcases j with h|h
  ·rw[h];rfl
  ·rw[Bool.and_eq_true] at h
   rw[h.2,Bool.not_true,Bool.and_false]
   rfl
theorem znB (C:Cx) (A z o:Nat) (S:Sv) (q:PS) (w:World) (hm:Mem C A z o S q w) (hw:isT C q.pos 1 zaf=true) (h1:isT C (q.pos+1) 4 zJ=false) (h2:isT C (q.pos+1) 4 zw=true):
  Calls Tryz.prog 71 #[pv C A z S q (-1) 0] w (Out C A z o (zag C q) 0 S w):=by
 have HM:=zc hm
 have O:=hm.few
 clear hm
 have HV:Hid (zag C q=bd (zaR C (zaE C (bd (.ok (adv q)) (zd C 4 zw)))) fun b=>zo C ⟨3,sNone,sNone,b.2⟩ b.1):=by
  show _=_
  rw[zag,zd,if_pos hw,zz]
  rw[zx,h1,h2]
  rfl
 unfold pv
 go_enter Tryz.func71,Tryz.ntmps71
 go_wp2_with fail
 refine (zaH C A z o (.ok q) S q (-1) 0 zaf _ (zX q) ((HM.out.alloc _).alloc _)).mono ?_
 rintro e w1 ⟨S1,M,z1,rfl,i1,m1,s1⟩
 obtain⟨L,N,t1⟩:=HM.out.two2 s1
 have j:=zc L
 have n:=zc N
 have an:=zc m1
 have aB:=zc t1
 have al:=zc i1
 clear L N i1 m1 t1 s1
 obtain⟨X,rfl⟩:=zcO al.out hw
 have HQ:=zc X
 have Y:Hid (M.pos=q.pos+1):=by show M.pos=q.pos+1;rw[X];rfl
 clear X al
 obtain⟨a0,Z,a2,a3,a4,U,Q,a7,a8,a9,D,E,V⟩:=j.out.box
 unfold pv
 go_upto_region 2 with fail
 refine zL (R:=fun W=>Bx A S1 W (w.heap.size) _∧Bx A S1 W (w.heap.size+1) _∧Mem C A z o S1 M W∧SB w.heap.size S w S1 W) ⟨(j.out.put ..),(n.out.other (by omega) ..),(an.out.put j.out ..),(aB.out.put (by omega) ..)⟩ ?_
 clear a0 Z a2 a3 a4 U Q a7 a8 a9 D E V
 clear j n aB an
 rintro w2 ⟨L,N,m2,t2⟩
 have j:=zc L
 have n:=zc N
 have ab:=zc m2
 have ae:=zc t2
 clear m2 t2 L N
 obtain⟨a0,Z,a2,a3,a4,U,Q,a7,a8,a9,D,E,V⟩:=j.out.box
 go_wp2_with fail
 refine (zh C A z o S1 M (-1) 0 4 zJ _ ab.out.tok O (by decide)).mono ?_
 rintro e w3 ⟨rfl,H⟩
 rw[Y.out,h1]
 replace j:=zc (j.out.below H)
 replace n:=zc (n.out.below H)
 have ar:=zc (ae.out.below H)
 have ac:=zc (ab.out.later H)
 clear H ae ab
 clear a0 Z a2 a3 a4 U Q a7 a8 a9 D E V
 obtain⟨a0,Z,a2,a3,a4,U,Q,a7,a8,a9,D,E,V⟩:=j.out.box
 go_wp2_with fail
 refine (zh C A z o S1 M (-1) 0 4 zw _ ac.out.tok O (by decide)).mono ?_
 rintro e w4 ⟨rfl,I⟩
 rw[Y.out,h2]
 replace j:=zc (j.out.below I)
 replace n:=zc (n.out.below I)
 have ap:=zc (ar.out.below I)
 have az:=zc (ac.out.later I)
 clear I ar ac
 clear a0 Z a2 a3 a4 U Q a7 a8 a9 D E V
 obtain⟨a0,Z,a2,a3,a4,U,Q,a7,a8,a9,D,E,V⟩:=j.out.box
 clear Y
 go_wp2_with fail
 refine (zad C A z o (.ok M) S1 M (-1) 0 zw _ (zX M) az.out).mono ?_
 rintro e w5 ⟨S5,q5,z5,rfl,i5,m5,s5⟩
 replace j:=zc (j.out.stp s5)
 replace n:=zc (n.out.stp s5)
 have ak:=zc (ap.out.step s5)
 clear ap
 have ai:=zc m5
 have aE:=zc i5
 clear i5 m5 s5 az
 clear a0 Z a2 a3 a4 U Q a7 a8 a9 D E V
 go_wp2_with fail
 refine (zaH C A z o _ S5 q5 z5 0 zU _ aE.out ai.out).mono ?_
 rintro e w6 ⟨S6,q6,z6,rfl,i6,m6,s6⟩
 replace j:=zc (j.out.stp s6)
 replace n:=zc (n.out.stp s6)
 have ag:=zc (ak.out.step s6)
 clear ak
 have ao:=zc m6
 have aG:=zc i6
 clear i6 m6 s6 ai
 go_wp2_with fail
 refine (zdA C A z o _ S6 q6 z6 0 _ aG.out ao.out).mono ?_
 rintro e w7 ⟨S7,q7,z7,n7,rfl,i7,m7,s7⟩
 replace j:=zc (j.out.stp s7)
 replace n:=zc (n.out.stp s7)
 have aq:=zc (ag.out.step s7)
 clear ag
 have aa:=zc m7
 have aw:=zc i7
 clear i7 m7 s7 ao
 have aH:w.heap.size+1<w7.heap.size:=n.out.lt
 unfold pv
 go_upto_region 20 with fail
 refine zL (R:=fun W=>Bx A S7 W (w.heap.size) _∧Bx A S7 W (w.heap.size+1) _∧Bx A S7 W (w7.heap.size) _∧Mem C A z o S7 q7 W∧SB w.heap.size S w S7 W) ⟨(j.out.alloc _),(n.out.alloc _),(Bx.new aa.out _),(aa.out.alloc _),(aq.out.alloc _)⟩ ?_
 clear j n aq aa
 rintro w8 ⟨L,N,X2,m8,t8⟩
 have j:=zc L
 have n:=zc N
 have K:=zc X2
 have ax:=zc m8
 have aj:=zc t8
 clear m8 t8 L N X2
 obtain⟨c0,c1,c2,c3,c4,c5,c6,c7,c8,c9,aD,aF,cf⟩:=K.out.box
 go_wp2_with fail
 refine (zad C A z o _ S7 q7 z7 0 cSemi _ aw.out.fst ax.out).mono ?_
 rintro e w9 ⟨S9,q9,z9,rfl,i9,m9,s9⟩
 replace j:=zc (j.out.stp s9)
 replace n:=zc (n.out.stp s9)
 replace K:=zc (K.out.stp s9)
 have av:=zc (aj.out.step s9)
 clear aj
 have aC:=zc m9
 have aA:=zc i9
 clear i9 m9 s9 ax
 clear c0 c1 c2 c3 c4 c5 c6 c7 c8 c9 aD aF cf
 go_wp2_with fail
 refine (zd7 C A z o _ S9 q9 z9 0 ⟨3,sNone,sNone,n7⟩ _ aA.out aC.out (zbh aA.out)).mono ?_
 rintro e aN ⟨aJ,aK,aI,rfl,ay,au,J⟩
 replace j:=zc (j.out.stp J)
 replace n:=zc (n.out.stp J)
 replace K:=zc (K.out.stp J)
 have ah:=zc (av.out.step J)
 clear av
 have am:=zc au
 have ad:=zc ay
 clear ay au J aC
 obtain⟨b0,b1,b2,b3,b4,b5,b6,b7,b8,b9,aM,aL,bf⟩:=n.out.box
 unfold pv
 go_wp2
 refine bodyPost_ret (results_cell_row rfl _ _ (w.heap.size+1) 53 _ (0,0) _ rfl ((n.out.put ..)).heap Tryz.underlying53 rfl (by kernel_rfl)) rfl ?_
 rw[HV.out,←HQ.out,←zn9 (G:=fun b=>zo C ⟨3,sNone,sNone,b⟩) aw.out]
 exact zY rfl ad.out (am.out.put n.out ..) (ah.out.put (by omega) ..)
theorem znC (C:Cx) (E z o:Nat) (S:Sv) (q:PS) (w:World) (hm:Mem C E z o S q w) (hw:isT C q.pos 1 zaf=true) (h1:isT C (q.pos+1) 4 zJ=false) (h2:isT C (q.pos+1) 4 zw=false) (h3:isT C (q.pos+1) 1 sDefault=true):
  Calls Tryz.prog 71 #[pv C E z S q (-1) 0] w (Out C E z o (zag C q) 0 S w):=by
 have HM:=zc hm
 have N:=hm.few
 clear hm
 have HV:Hid (zag C q=bd (bd (bd (bd (bd (.ok (adv q)) (zd C 1 sDefault)) (pE C .sum 0)) (zd C 4 cSemi)) (zV C 1 zbN)) (zo C ⟨1,sDefault,zbN,sNone⟩)):=by
  show _=_
  rw[zag,zd,if_pos hw,zz]
  rw[zx,h1,h2,h3]
  rfl
 unfold pv
 go_enter Tryz.func71,Tryz.ntmps71
 go_wp2_with fail
 refine (zaH C E z o (.ok q) S q (-1) 0 zaf _ (zX q) ((HM.out.alloc _).alloc _)).mono ?_
 rintro e w1 ⟨S1,q1,z1,rfl,i1,m1,s1⟩
 obtain⟨X0,X1,t1⟩:=HM.out.two2 s1
 have j:=zc X0
 have n:=zc X1
 have aw:=zc m1
 have aG:=zc t1
 have au:=zc i1
 clear X0 X1 i1 m1 t1 s1
 obtain⟨ad,rfl⟩:=zcO au.out hw
 have HQ:=zc ad
 have V:Hid (q1.pos=q.pos+1):=by show q1.pos=q.pos+1;rw[ad];rfl
 clear ad au
 obtain⟨Z,X,a2,a3,a4,Q,O,a7,Y,a9,A,D,U⟩:=j.out.box
 unfold pv
 go_upto_region 2 with fail
 refine zL (R:=fun W=>Bx E S1 W (w.heap.size) _∧Bx E S1 W (w.heap.size+1) _∧Mem C E z o S1 q1 W∧SB w.heap.size S w S1 W) ⟨(j.out.put ..),(n.out.other (by omega) ..),(aw.out.put j.out ..),(aG.out.put (by omega) ..)⟩ ?_
 clear Z X a2 a3 a4 Q O a7 Y a9 A D U
 clear j n aG aw
 rintro w2 ⟨X0,X1,m2,t2⟩
 have j:=zc X0
 have n:=zc X1
 have ae:=zc m2
 have ak:=zc t2
 clear m2 t2 X0 X1
 obtain⟨Z,X,a2,a3,a4,Q,O,a7,Y,a9,A,D,U⟩:=j.out.box
 go_wp2_with fail
 refine (zh C E z o S1 q1 (-1) 0 4 zJ _ ae.out.tok N (by decide)).mono ?_
 rintro e w3 ⟨rfl,I⟩
 rw[V.out,h1]
 replace j:=zc (j.out.below I)
 replace n:=zc (n.out.below I)
 have aB:=zc (ak.out.below I)
 have ah:=zc (ae.out.later I)
 clear I ak ae
 clear Z X a2 a3 a4 Q O a7 Y a9 A D U
 obtain⟨Z,X,a2,a3,a4,Q,O,a7,Y,a9,A,D,U⟩:=j.out.box
 go_wp2_with fail
 refine (zh C E z o S1 q1 (-1) 0 4 zw _ ah.out.tok N (by decide)).mono ?_
 rintro e w4 ⟨rfl,J⟩
 rw[V.out,h2]
 replace j:=zc (j.out.below J)
 replace n:=zc (n.out.below J)
 have ay:=zc (aB.out.below J)
 have ai:=zc (ah.out.later J)
 clear J aB ah
 clear Z X a2 a3 a4 Q O a7 Y a9 A D U
 obtain⟨Z,X,a2,a3,a4,Q,O,a7,Y,a9,A,D,U⟩:=j.out.box
 go_wp2_with fail
 refine (zh C E z o S1 q1 (-1) 0 1 sDefault _ ai.out.tok N (by decide)).mono ?_
 rintro e w5 ⟨rfl,H⟩
 rw[V.out,h3]
 replace j:=zc (j.out.below H)
 replace n:=zc (n.out.below H)
 have ar:=zc (ay.out.below H)
 have am:=zc (ai.out.later H)
 clear H ay ai
 clear Z X a2 a3 a4 Q O a7 Y a9 A D U
 obtain⟨Z,X,a2,a3,a4,Q,O,a7,Y,a9,A,D,U⟩:=j.out.box
 clear V
 go_wp2_with fail
 refine (zaH C E z o (.ok q1) S1 q1 (-1) 0 sDefault _ (zX q1) am.out).mono ?_
 rintro e w6 ⟨S6,q6,z6,rfl,i6,m6,s6⟩
 replace j:=zc (j.out.stp s6)
 replace n:=zc (n.out.stp s6)
 have al:=zc (ar.out.step s6)
 clear ar
 have ax:=zc m6
 have aN:=zc i6
 clear i6 m6 s6 am
 clear Z X a2 a3 a4 Q O a7 Y a9 A D U
 go_wp2_with fail
 refine (zcN C E z o _ S6 q6 z6 _ aN.out ax.out).mono ?_
 rintro e w7 ⟨S7,q7,z7,rfl,i7,m7,s7⟩
 replace j:=zc (j.out.stp s7)
 replace n:=zc (n.out.stp s7)
 have aA:=zc (al.out.step s7)
 clear al
 have az:=zc m7
 have aO:=zc i7
 clear i7 m7 s7 ax
 go_wp2_with fail
 refine (zad C E z o _ S7 q7 z7 0 cSemi _ aO.out az.out).mono ?_
 rintro e w8 ⟨S8,q8,z8,rfl,i8,m8,s8⟩
 replace j:=zc (j.out.stp s8)
 replace n:=zc (n.out.stp s8)
 have ao:=zc (aA.out.step s8)
 clear aA
 have ag:=zc m8
 have av:=zc i8
 clear i8 m8 s8 az
 have aP:w.heap.size+1<w8.heap.size:=n.out.lt
 unfold pv
 go_upto_region 23 with fail
 refine zL (R:=fun W=>Bx E S8 W (w.heap.size) _∧Bx E S8 W (w.heap.size+1) _∧Bx E S8 W (w8.heap.size) _∧Mem C E z o S8 q8 W∧SB w.heap.size S w S8 W) ⟨(j.out.alloc _),(n.out.alloc _),(Bx.new ag.out _),(ag.out.alloc _),(ao.out.alloc _)⟩ ?_
 clear j n ao ag
 rintro w9 ⟨X0,X1,X2,m9,t9⟩
 have j:=zc X0
 have n:=zc X1
 have L:=zc X2
 have aH:=zc m9
 have aD:=zc t9
 clear m9 t9 X0 X1 X2
 obtain⟨c0,c1,c2,c3,c4,c5,c6,c7,c8,c9,aK,aM,cf⟩:=L.out.box
 go_wp2_with fail
 refine (zcL C E z o _ S8 q8 z8 0 1 zbN _ av.out aH.out (zbh av.out)).mono ?_
 rintro e aU ⟨aJ,aL,aI,rfl,aE,aC,K⟩
 replace j:=zc (j.out.stp K)
 replace n:=zc (n.out.stp K)
 replace L:=zc (L.out.stp K)
 have ab:=zc (aD.out.step K)
 clear aD
 have ac:=zc aC
 have aa:=zc aE
 clear aE aC K aH
 clear c0 c1 c2 c3 c4 c5 c6 c7 c8 c9 aK aM cf
 go_wp2_with fail
 refine (zd7 C E z o _ aJ aL aI 0 ⟨1,sDefault,zbN,sNone⟩ _ aa.out ac.out (ziM aa.out)).mono ?_
 rintro e aW ⟨aQ,aV,aR,rfl,ap,aF,M⟩
 replace j:=zc (j.out.stp M)
 replace n:=zc (n.out.stp M)
 replace L:=zc (L.out.stp M)
 have an:=zc (ab.out.step M)
 clear ab
 have aj:=zc aF
 have aq:=zc ap
 clear ap aF M ac
 obtain⟨b0,b1,b2,b3,b4,b5,b6,b7,b8,b9,aT,aS,bf⟩:=n.out.box
 unfold pv
 go_wp2
 refine bodyPost_ret (results_cell_row rfl _ _ (w.heap.size+1) 53 _ (0,0) _ rfl ((n.out.put ..)).heap Tryz.underlying53 rfl (by kernel_rfl)) rfl ?_
 rw[HV.out,←HQ.out]
 exact zY rfl aq.out (aj.out.put n.out ..) (an.out.put (by omega) ..)
theorem znD (C:Cx) (H A z:Nat) (S:Sv) (q:PS) (w:World) (hm:Mem C H A z S q w) (hw:isT C q.pos 1 zaf=true) (h1:isT C (q.pos+1) 4 zJ=false) (h2:isT C (q.pos+1) 4 zw=false) (h3:isT C (q.pos+1) 1 sDefault=false) (h4:isT C (q.pos+1) 1 zC=true):
  Calls Tryz.prog 71 #[pv C H A S q (-1) 0] w (Out C H A z (zag C q) 0 S w):=by
 have HM:=zc hm
 have I:=hm.few
 clear hm
 have HV:Hid (zag C q=bd (zcj C (adv q)) fun a=>zo C ⟨1,a.2,a.2,sNone⟩ a.1):=by
  show _=_
  rw[zag,zd,if_pos hw,zz]
  rw[zx,h1,h2,h3,h4]
  rfl
 unfold pv
 go_enter Tryz.func71,Tryz.ntmps71
 go_wp2_with fail
 refine (zaH C H A z (.ok q) S q (-1) 0 zaf _ (zX q) ((HM.out.alloc _).alloc _)).mono ?_
 rintro e w1 ⟨S1,q1,z1,rfl,i1,m1,s1⟩
 obtain⟨X0,X1,t1⟩:=HM.out.two2 s1
 have j:=zc X0
 have o:=zc X1
 have ap:=zc m1
 have ax:=zc t1
 have ao:=zc i1
 clear X0 X1 i1 m1 t1 s1
 obtain⟨ac,rfl⟩:=zcO ao.out hw
 have HQ:=zc ac
 have Q:Hid (q1.pos=q.pos+1):=by show q1.pos=q.pos+1;rw[ac];rfl
 clear ac ao
 obtain⟨X,U,Y,a3,a4,K,J,Z,V,a9,D,E,L⟩:=j.out.box
 unfold pv
 go_upto_region 2 with fail
 refine zL (R:=fun W=>Bx H S1 W (w.heap.size) _∧Bx H S1 W (w.heap.size+1) _∧Mem C H A z S1 q1 W∧SB w.heap.size S w S1 W) ⟨(j.out.put ..),(o.out.other (by omega) ..),(ap.out.put j.out ..),(ax.out.put (by omega) ..)⟩ ?_
 clear X U Y a3 a4 K J Z V a9 D E L
 clear j o ax ap
 rintro w2 ⟨X0,X1,m2,t2⟩
 have j:=zc X0
 have o:=zc X1
 have ag:=zc m2
 have ak:=zc t2
 clear m2 t2 X0 X1
 obtain⟨X,U,Y,a3,a4,K,J,Z,V,a9,D,E,L⟩:=j.out.box
 go_wp2_with fail
 refine (zh C H A z S1 q1 (-1) 0 4 zJ _ ag.out.tok I (by decide)).mono ?_
 rintro e w3 ⟨rfl,N⟩
 rw[Q.out,h1]
 replace j:=zc (j.out.below N)
 replace o:=zc (o.out.below N)
 have av:=zc (ak.out.below N)
 have ai:=zc (ag.out.later N)
 clear N ak ag
 clear X U Y a3 a4 K J Z V a9 D E L
 obtain⟨X,U,Y,a3,a4,K,J,Z,V,a9,D,E,L⟩:=j.out.box
 go_wp2_with fail
 refine (zh C H A z S1 q1 (-1) 0 4 zw _ ai.out.tok I (by decide)).mono ?_
 rintro e w4 ⟨rfl,O⟩
 rw[Q.out,h2]
 replace j:=zc (j.out.below O)
 replace o:=zc (o.out.below O)
 have ar:=zc (av.out.below O)
 have aj:=zc (ai.out.later O)
 clear O av ai
 clear X U Y a3 a4 K J Z V a9 D E L
 obtain⟨X,U,Y,a3,a4,K,J,Z,V,a9,D,E,L⟩:=j.out.box
 go_wp2_with fail
 refine (zh C H A z S1 q1 (-1) 0 1 sDefault _ aj.out.tok I (by decide)).mono ?_
 rintro e w5 ⟨rfl,M⟩
 rw[Q.out,h3]
 replace j:=zc (j.out.below M)
 replace o:=zc (o.out.below M)
 have an:=zc (ar.out.below M)
 have ab:=zc (aj.out.later M)
 clear M ar aj
 clear X U Y a3 a4 K J Z V a9 D E L
 obtain⟨X,U,Y,a3,a4,K,J,Z,V,a9,D,E,L⟩:=j.out.box
 go_wp2_with fail
 refine (zh C H A z S1 q1 (-1) 0 1 zC _ ab.out.tok I (by decide)).mono ?_
 rintro e w6 ⟨rfl,aa⟩
 rw[Q.out,h4]
 replace j:=zc (j.out.below aa)
 replace o:=zc (o.out.below aa)
 have al:=zc (an.out.below aa)
 have aq:=zc (ab.out.later aa)
 clear aa an ab
 clear X U Y a3 a4 K J Z V a9 D E L
 obtain⟨X,U,Y,a3,a4,K,J,Z,V,a9,D,E,L⟩:=j.out.box
 clear Q
 go_wp2_with fail
 refine (zgG C H A z S1 q1 _ aq.out).mono ?_
 rintro e w7 ⟨S7,q7,z7,n7,rfl,i7,m7,s7⟩
 replace j:=zc (j.out.stp s7)
 replace o:=zc (o.out.stp s7)
 have au:=zc (al.out.step s7)
 clear al
 have ae:=zc m7
 have ah:=zc i7
 clear i7 m7 s7 aq
 clear X U Y a3 a4 K J Z V a9 D E L
 have aD:w.heap.size+1<w7.heap.size:=o.out.lt
 unfold pv
 go_upto_region 26 with fail
 refine zL (R:=fun W=>Bx H S7 W (w.heap.size) _∧Bx H S7 W (w.heap.size+1) _∧Bx H S7 W (w7.heap.size) _∧Mem C H A z S7 q7 W∧SB w.heap.size S w S7 W) ⟨(j.out.alloc _),(o.out.alloc _),(Bx.new ae.out _),(ae.out.alloc _),(au.out.alloc _)⟩ ?_
 clear j o au ae
 rintro w8 ⟨X0,X1,X2,m8,t8⟩
 have j:=zc X0
 have o:=zc X1
 have ad:=zc X2
 have aw:=zc m8
 have am:=zc t8
 clear m8 t8 X0 X1 X2
 obtain⟨c0,c1,c2,c3,c4,c5,c6,c7,c8,c9,ay,az,cf⟩:=ad.out.box
 go_wp2_with fail
 refine (zd7 C H A z _ S7 q7 z7 0 ⟨1,n7,n7,sNone⟩ _ ah.out.fst aw.out (zn7 ah.out)).mono ?_
 rintro e w9 ⟨S9,q9,z9,rfl,i9,m9,s9⟩
 replace j:=zc (j.out.stp s9)
 replace o:=zc (o.out.stp s9)
 replace ad:=zc (ad.out.stp s9)
 have aA:=zc (am.out.step s9)
 clear am
 have aC:=zc m9
 have aB:=zc i9
 clear i9 m9 s9 aw
 clear c0 c1 c2 c3 c4 c5 c6 c7 c8 c9 ay az cf
 obtain⟨b0,b1,b2,b3,b4,b5,b6,b7,b8,b9,aF,aE,bf⟩:=o.out.box
 unfold pv
 go_wp2
 refine bodyPost_ret (results_cell_row rfl _ _ (w.heap.size+1) 53 _ (0,0) _ rfl ((o.out.put ..)).heap Tryz.underlying53 rfl (by kernel_rfl)) rfl ?_
 rw[HV.out,←HQ.out,←ah.out.bind (fun q n=>zo C ⟨1,n,n,sNone⟩ q)]
 exact zY rfl aB.out (aC.out.put o.out ..) (aA.out.put (by omega) ..)
theorem znE (C:Cx) (H E z:Nat) (S:Sv) (q:PS) (w:World) (hm:Mem C H E z S q w) (hw:isT C q.pos 1 zaf=true) (h1:isT C (q.pos+1) 4 zJ=false) (h2:isT C (q.pos+1) 4 zw=false) (h3:isT C (q.pos+1) 1 sDefault=false) (h4:isT C (q.pos+1) 1 zC=false) (h5:isT C (q.pos+1) 1 zT=true):
  Calls Tryz.prog 71 #[pv C H E S q (-1) 0] w (Out C H E z (zag C q) 0 S w):=by
 have HM:=zc hm
 have I:=hm.few
 clear hm
 have HV:Hid (zag C q=bd (fnP C (adv q)) fun a=>zo C ⟨1,a.2,a.2,sNone⟩ a.1):=by
  show _=_
  rw[zag,zd,if_pos hw,zz]
  rw[zx,h1,h2,h3,h4,h5]
  rfl
 unfold pv
 go_enter Tryz.func71,Tryz.ntmps71
 go_wp2_with fail
 refine (zaH C H E z (.ok q) S q (-1) 0 zaf _ (zX q) ((HM.out.alloc _).alloc _)).mono ?_
 rintro e w1 ⟨S1,q1,z1,rfl,i1,m1,s1⟩
 obtain⟨X0,X1,t1⟩:=HM.out.two2 s1
 have j:=zc X0
 have o:=zc X1
 have aA:=zc m1
 have aI:=zc t1
 have ay:=zc i1
 clear X0 X1 i1 m1 t1 s1
 obtain⟨aj,rfl⟩:=zcO ay.out hw
 have HQ:=zc aj
 have M:Hid (q1.pos=q.pos+1):=by show q1.pos=q.pos+1;rw[aj];rfl
 clear aj ay
 obtain⟨Q,N,U,Z,Y,K,J,V,O,X,A,D,L⟩:=j.out.box
 unfold pv
 go_upto_region 2 with fail
 refine zL (R:=fun W=>Bx H S1 W (w.heap.size) _∧Bx H S1 W (w.heap.size+1) _∧Mem C H E z S1 q1 W∧SB w.heap.size S w S1 W) ⟨(j.out.put ..),(o.out.other (by omega) ..),(aA.out.put j.out ..),(aI.out.put (by omega) ..)⟩ ?_
 clear Q N U Z Y K J V O X A D L
 clear j o aI aA
 rintro w2 ⟨X0,X1,m2,t2⟩
 have j:=zc X0
 have o:=zc X1
 have am:=zc m2
 have ar:=zc t2
 clear m2 t2 X0 X1
 obtain⟨Q,N,U,Z,Y,K,J,V,O,X,A,D,L⟩:=j.out.box
 go_wp2_with fail
 refine (zh C H E z S1 q1 (-1) 0 4 zJ _ am.out.tok I (by decide)).mono ?_
 rintro e w3 ⟨rfl,ac⟩
 rw[M.out,h1]
 replace j:=zc (j.out.below ac)
 replace o:=zc (o.out.below ac)
 have aE:=zc (ar.out.below ac)
 have ao:=zc (am.out.later ac)
 clear ac ar am
 clear Q N U Z Y K J V O X A D L
 obtain⟨Q,N,U,Z,Y,K,J,V,O,X,A,D,L⟩:=j.out.box
 go_wp2_with fail
 refine (zh C H E z S1 q1 (-1) 0 4 zw _ ao.out.tok I (by decide)).mono ?_
 rintro e w4 ⟨rfl,ad⟩
 rw[M.out,h2]
 replace j:=zc (j.out.below ad)
 replace o:=zc (o.out.below ad)
 have aB:=zc (aE.out.below ad)
 have ap:=zc (ao.out.later ad)
 clear ad aE ao
 clear Q N U Z Y K J V O X A D L
 obtain⟨Q,N,U,Z,Y,K,J,V,O,X,A,D,L⟩:=j.out.box
 go_wp2_with fail
 refine (zh C H E z S1 q1 (-1) 0 1 sDefault _ ap.out.tok I (by decide)).mono ?_
 rintro e w5 ⟨rfl,ab⟩
 rw[M.out,h3]
 replace j:=zc (j.out.below ab)
 replace o:=zc (o.out.below ab)
 have ax:=zc (aB.out.below ab)
 have ah:=zc (ap.out.later ab)
 clear ab aB ap
 clear Q N U Z Y K J V O X A D L
 obtain⟨Q,N,U,Z,Y,K,J,V,O,X,A,D,L⟩:=j.out.box
 go_wp2_with fail
 refine (zh C H E z S1 q1 (-1) 0 1 zC _ ah.out.tok I (by decide)).mono ?_
 rintro e w6 ⟨rfl,ag⟩
 rw[M.out,h4]
 replace j:=zc (j.out.below ag)
 replace o:=zc (o.out.below ag)
 have au:=zc (ax.out.below ag)
 have ak:=zc (ah.out.later ag)
 clear ag ax ah
 clear Q N U Z Y K J V O X A D L
 obtain⟨Q,N,U,Z,Y,K,J,V,O,X,A,D,L⟩:=j.out.box
 go_wp2_with fail
 refine (zh C H E z S1 q1 (-1) 0 1 zT _ ak.out.tok I (by decide)).mono ?_
 rintro e w7 ⟨rfl,aa⟩
 rw[M.out,h5]
 replace j:=zc (j.out.below aa)
 replace o:=zc (o.out.below aa)
 have aD:=zc (au.out.below aa)
 have aC:=zc (ak.out.later aa)
 clear aa au ak
 clear Q N U Z Y K J V O X A D L
 obtain⟨Q,N,U,Z,Y,K,J,V,O,X,A,D,L⟩:=j.out.box
 clear M
 go_wp2_with fail
 refine (zgH C H E z S1 q1 _ aC.out).mono ?_
 rintro e w8 ⟨S8,q8,z8,n8,rfl,i8,m8,s8⟩
 replace j:=zc (j.out.stp s8)
 replace o:=zc (o.out.stp s8)
 have aw:=zc (aD.out.step s8)
 clear aD
 have an:=zc m8
 have ai:=zc i8
 clear i8 m8 s8 aC
 clear Q N U Z Y K J V O X A D L
 have aM:w.heap.size+1<w8.heap.size:=o.out.lt
 unfold pv
 go_upto_region 29 with fail
 refine zL (R:=fun W=>Bx H S8 W (w.heap.size) _∧Bx H S8 W (w.heap.size+1) _∧Bx H S8 W (w8.heap.size) _∧Mem C H E z S8 q8 W∧SB w.heap.size S w S8 W) ⟨(j.out.alloc _),(o.out.alloc _),(Bx.new an.out _),(an.out.alloc _),(aw.out.alloc _)⟩ ?_
 clear j o aw an
 rintro w9 ⟨X0,X1,X2,m9,t9⟩
 have j:=zc X0
 have o:=zc X1
 have al:=zc X2
 have aJ:=zc m9
 have aG:=zc t9
 clear m9 t9 X0 X1 X2
 obtain⟨c0,c1,c2,c3,c4,c5,c6,c7,c8,c9,aK,aL,cf⟩:=al.out.box
 go_wp2_with fail
 refine (zd7 C H E z _ S8 q8 z8 0 ⟨1,n8,n8,sNone⟩ _ ai.out.fst aJ.out (zn8 ai.out)).mono ?_
 rintro e aS ⟨aO,aP,aN,rfl,aH,aF,ae⟩
 replace j:=zc (j.out.stp ae)
 replace o:=zc (o.out.stp ae)
 replace al:=zc (al.out.stp ae)
 have av:=zc (aG.out.step ae)
 clear aG
 have az:=zc aF
 have aq:=zc aH
 clear aH aF ae aJ
 clear c0 c1 c2 c3 c4 c5 c6 c7 c8 c9 aK aL cf
 obtain⟨b0,b1,b2,b3,b4,b5,b6,b7,b8,b9,aR,aQ,bf⟩:=o.out.box
 unfold pv
 go_wp2
 refine bodyPost_ret (results_cell_row rfl _ _ (w.heap.size+1) 53 _ (0,0) _ rfl ((o.out.put ..)).heap Tryz.underlying53 rfl (by kernel_rfl)) rfl ?_
 rw[HV.out,←HQ.out,←ai.out.bind (fun q n=>zo C ⟨1,n,n,sNone⟩ q)]
 exact zY rfl aq.out (az.out.put o.out ..) (av.out.put (by omega) ..)
theorem znF (C:Cx) (Y D o:Nat) (S:Sv) (q:PS) (w:World) (hm:Mem C Y D o S q w) (hw:isT C q.pos 1 zaf=true) (h1:isT C (q.pos+1) 4 zJ=false) (h2:isT C (q.pos+1) 4 zw=false) (h3:isT C (q.pos+1) 1 sDefault=false) (h4:isT C (q.pos+1) 1 zC=false) (h5:isT C (q.pos+1) 1 zT=false):
  Calls Tryz.prog 71 #[pv C Y D S q (-1) 0] w (Out C Y D o (zag C q) 0 S w):=by
 have HM:=zc hm
 have E:=hm.few
 clear hm
 have HV:Hid (zag C q= .error (zr C (adv q).pos)):=by
  show _=_
  rw[zag,zd,if_pos hw,zz]
  rw[zx,h1,h2,h3,h4,h5]
  rfl
 unfold pv
 go_enter Tryz.func71,Tryz.ntmps71
 go_wp2_with fail
 refine (zaH C Y D o (.ok q) S q (-1) 0 zaf _ (zX q) ((HM.out.alloc _).alloc _)).mono ?_
 rintro e w1 ⟨S1,q1,z1,rfl,i1,m1,s1⟩
 obtain⟨X0,X1,t1⟩:=HM.out.two2 s1
 have j:=zc X0
 have n:=zc X1
 have ar:=zc m1
 have ax:=zc t1
 have aq:=zc i1
 clear X0 X1 i1 m1 t1 s1
 obtain⟨ah,rfl⟩:=zcO aq.out hw
 have HQ:=zc ah
 have K:Hid (q1.pos=q.pos+1):=by show q1.pos=q.pos+1;rw[ah];rfl
 clear ah aq
 obtain⟨N,L,O,X,V,I,H,Q,M,U,z,A,J⟩:=j.out.box
 unfold pv
 go_upto_region 2 with fail
 refine zL (R:=fun W=>Bx Y S1 W (w.heap.size) _∧Bx Y S1 W (w.heap.size+1) _∧Mem C Y D o S1 q1 W∧SB w.heap.size S w S1 W) ⟨(j.out.put ..),(n.out.other (by omega) ..),(ar.out.put j.out ..),(ax.out.put (by omega) ..)⟩ ?_
 clear N L O X V I H Q M U z A J
 clear j n ax ar
 rintro w2 ⟨X0,X1,m2,t2⟩
 have j:=zc X0
 have n:=zc X1
 have ak:=zc m2
 have an:=zc t2
 clear m2 t2 X0 X1
 obtain⟨N,L,O,X,V,I,H,Q,M,U,z,A,J⟩:=j.out.box
 go_wp2_with fail
 refine (zh C Y D o S1 q1 (-1) 0 4 zJ _ ak.out.tok E (by decide)).mono ?_
 rintro e w3 ⟨rfl,ab⟩
 rw[K.out,h1]
 replace j:=zc (j.out.below ab)
 replace n:=zc (n.out.below ab)
 have aw:=zc (an.out.below ab)
 have al:=zc (ak.out.later ab)
 clear ab an ak
 clear N L O X V I H Q M U z A J
 obtain⟨N,L,O,X,V,I,H,Q,M,U,z,A,J⟩:=j.out.box
 go_wp2_with fail
 refine (zh C Y D o S1 q1 (-1) 0 4 zw _ al.out.tok E (by decide)).mono ?_
 rintro e w4 ⟨rfl,ac⟩
 rw[K.out,h2]
 replace j:=zc (j.out.below ac)
 replace n:=zc (n.out.below ac)
 have au:=zc (aw.out.below ac)
 have am:=zc (al.out.later ac)
 clear ac aw al
 clear N L O X V I H Q M U z A J
 obtain⟨N,L,O,X,V,I,H,Q,M,U,z,A,J⟩:=j.out.box
 go_wp2_with fail
 refine (zh C Y D o S1 q1 (-1) 0 1 sDefault _ am.out.tok E (by decide)).mono ?_
 rintro e w5 ⟨rfl,aa⟩
 rw[K.out,h3]
 replace j:=zc (j.out.below aa)
 replace n:=zc (n.out.below aa)
 have ap:=zc (au.out.below aa)
 have ag:=zc (am.out.later aa)
 clear aa au am
 clear N L O X V I H Q M U z A J
 obtain⟨N,L,O,X,V,I,H,Q,M,U,z,A,J⟩:=j.out.box
 go_wp2_with fail
 refine (zh C Y D o S1 q1 (-1) 0 1 zC _ ag.out.tok E (by decide)).mono ?_
 rintro e w6 ⟨rfl,ae⟩
 rw[K.out,h4]
 replace j:=zc (j.out.below ae)
 replace n:=zc (n.out.below ae)
 have ao:=zc (ap.out.below ae)
 have ai:=zc (ag.out.later ae)
 clear ae ap ag
 clear N L O X V I H Q M U z A J
 obtain⟨N,L,O,X,V,I,H,Q,M,U,z,A,J⟩:=j.out.box
 go_wp2_with fail
 refine (zh C Y D o S1 q1 (-1) 0 1 zT _ ai.out.tok E (by decide)).mono ?_
 rintro e w7 ⟨rfl,Z⟩
 rw[K.out,h5]
 replace j:=zc (j.out.below Z)
 replace n:=zc (n.out.below Z)
 have av:=zc (ao.out.below Z)
 have aj:=zc (ai.out.later Z)
 clear Z ao ai
 clear N L O X V I H Q M U z A J
 obtain⟨N,L,O,X,V,I,H,Q,M,U,z,A,J⟩:=j.out.box
 clear K
 go_wp2_with fail
 refine (zda C Y D o S1 q1 (-1) 0 _ aj.out.tok E).mono ?_
 rintro e w8 ⟨rfl,ad⟩
 replace j:=zc (j.out.below ad)
 replace n:=zc (n.out.below ad)
 have ay:=zc (av.out.below ad)
 have az:=zc (aj.out.later ad)
 clear ad av aj
 clear N L O X V I H Q M U z A J
 obtain⟨b0,b1,b2,b3,b4,b5,b6,b7,b8,b9,aB,aA,bf⟩:=n.out.box
 unfold pv
 go_wp2
 refine bodyPost_ret (results_cell_row rfl _ _ (w.heap.size+1) 53 _ (0,0) _ rfl ((n.out.put ..)).heap Tryz.underlying53 rfl (by kernel_rfl)) rfl ?_
 rw[HV.out,←HQ.out]
 exact zY rfl (show Is (.error (zr C q1.pos)) q1 _ from rfl) (az.out.put n.out ..) (ay.out.put (by omega) ..)
theorem znG (C:Cx) (I E o:Nat) (S:Sv) (q:PS) (w:World) (hm:Mem C I E o S q w) (hw:isT C q.pos 1 zaf=true) (h1:isT C (q.pos+1) 4 zJ=true):
  Calls Tryz.prog 71 #[pv C I E S q (-1) 0] w (Out C I E o (zag C q) 0 S w):=by
 have HM:=zc hm
 have aJ:=hm.few
 clear hm
 have HV:Hid (zag C q=bd (zcw C true (adv q)) fun a=>if !za8 a.2&& !isT C a.1.pos 1 zU then bd (zd C 4 cSemi a.1) fun q=>zP (fun e=>zo C (zA e)) a.2 (.ok q) else bd (zaR C (zaE C (.ok a.1))) fun b=>zP (fun e=>zo C (zai b.2 e)) a.2 (.ok b.1)):=by
  show _=_
  rw[zag,zd,if_pos hw,zz]
  rw[zx,h1]
  rfl
 unfold pv
 go_enter Tryz.func71,Tryz.ntmps71
 go_wp2_with fail
 refine (zaH C I E o (.ok q) S q (-1) 0 zaf _ (zX q) ((HM.out.alloc _).alloc _)).mono ?_
 rintro e w1 ⟨S1,q1,z1,rfl,i1,m1,s1⟩
 obtain⟨X,Y,t1⟩:=HM.out.two2 s1
 have n:=zc X
 have z:=zc Y
 have aY:=zc m1
 have bj:=zc t1
 have aU:=zc i1
 clear X Y i1 m1 t1 s1
 obtain⟨aO,rfl⟩:=zcO aU.out hw
 have HQ:=zc aO
 have aX:Hid (q1.pos=q.pos+1):=by show q1.pos=q.pos+1;rw[aO];rfl
 clear aO aU
 obtain⟨a0,a1,a2,a3,a4,a5,a6,a7,a8,a9,L,M,af⟩:=n.out.box
 unfold pv
 go_upto_region 2 with fail
 refine zL (R:=fun W=>Bx I S1 W (w.heap.size) _∧Bx I S1 W (w.heap.size+1) _∧Mem C I E o S1 q1 W∧SB w.heap.size S w S1 W) ⟨(n.out.put ..),(z.out.other (by omega) ..),(aY.out.put n.out ..),(bj.out.put (by omega) ..)⟩ ?_
 clear a0 a1 a2 a3 a4 a5 a6 a7 a8 a9 L M af
 clear n z bj aY
 rintro w2 ⟨X,Y,m2,t2⟩
 have n:=zc X
 have z:=zc Y
 have aP:=zc m2
 have aS:=zc t2
 clear m2 t2 X Y
 have aN:Hid (zag C q=bd (zcw C true q1) fun a=>if !za8 a.2&& !isT C a.1.pos 1 zU then bd (zd C 4 cSemi a.1) fun q=>zP (fun e=>zo C (zA e)) a.2 (.ok q) else bd (zaR C (zaE C (.ok a.1))) fun b=>zP (fun e=>zo C (zai b.2 e)) a.2 (.ok b.1)):=by show _=_;rw[HQ.out];exact HV.out
 obtain⟨a0,a1,a2,a3,a4,a5,a6,a7,a8,a9,L,M,af⟩:=n.out.box
 go_wp2_with fail
 refine (zh C I E o S1 q1 (-1) 0 4 zJ _ aP.out.tok aJ (by decide)).mono ?_
 rintro e w3 ⟨rfl,aG⟩
 rw[aX.out,h1]
 replace n:=zc (n.out.below aG)
 replace z:=zc (z.out.below aG)
 have aQ:=zc (aS.out.below aG)
 have bg:=zc (aP.out.later aG)
 clear aG aS aP
 clear a0 a1 a2 a3 a4 a5 a6 a7 a8 a9 L M af
 obtain⟨a0,a1,a2,a3,a4,a5,a6,a7,a8,a9,L,M,af⟩:=n.out.box
 clear aX
 have bk:=aQ.out.size
 go_wp2_with fail
 refine (zi7 C I E o S1 q1 0 true _ bg.out).mono ?_
 rintro e w4 ⟨S4,q4,z4,⟨ra,rc⟩,l,rfl,i4,m4,s4,R0,hl⟩
 obtain⟨g,rfl⟩: ∃g,ra=some ⟨g,0,none⟩:=R0.addr
 replace n:=zc (n.out.stp s4)
 replace z:=zc (z.out.stp s4)
 have bb:=zc (aQ.out.step s4)
 clear aQ
 have aR:=zc m4
 have ay:=zc i4
 clear i4 m4 s4 bg
 clear a0 a1 a2 a3 a4 a5 a6 a7 a8 a9 L M af
 have D:Hid (Row S4 w4 o w.heap.size ⟨some ⟨g,0,none⟩,rc⟩ l):=⟨R0.own,R0.free,fun k hk=>Nat.le_trans bk (R0.new k hk),R0.addr⟩
 clear R0
 have bm:w.heap.size+1<w4.heap.size:=z.out.lt
 unfold pv
 go_upto_region 4 with fail
 refine zL (R:=fun W=>Bx I S4 W (w.heap.size) _∧Bx I S4 W (w.heap.size+1) _∧Bx I S4 W (w4.heap.size) _∧Row S4 W o w.heap.size ⟨some ⟨g,0,none⟩,rc⟩ l∧Mem C I E o S4 q4 W∧SB w.heap.size S w S4 W) ⟨(n.out.alloc _),(z.out.alloc _),(Bx.new aR.out _),(D.out.alloc _),(aR.out.alloc _),(bb.out.alloc _)⟩ ?_
 clear n z bb aR
 clear D
 rintro w5 ⟨X,Y,X2,R0,m5,t5⟩
 have D:=zc R0
 clear R0
 have n:=zc X
 have z:=zc Y
 have A:=zc X2
 have ap:=zc m5
 have aF:=zc t5
 clear m5 t5 X Y X2
 cases hA:za8 l with
 |true=>
  skip
  obtain⟨c0,c1,c2,c3,c4,c5,c6,c7,c8,c9,ah,ai,cf⟩:=A.out.box
  go_wp2_with fail
  refine (zaH C I E o _ S4 q4 z4 0 zU _ ay.out.fst ap.out).mono ?_
  rintro e w6 ⟨S6,q6,z6,rfl,i6,m6,s6⟩
  replace n:=zc (n.out.stp s6)
  replace z:=zc (z.out.stp s6)
  replace A:=zc (A.out.stp s6)
  have an:=zc (aF.out.step s6)
  have K:Hid (Row S6 w6 o w.heap.size ⟨some ⟨g,0,none⟩,rc⟩ l):=D.out.stp s6
  clear D
  have D:=zc K
  clear K
  clear aF
  have aw:=zc m6
  have bl:=zc i6
  clear i6 m6 s6 ap
  clear c0 c1 c2 c3 c4 c5 c6 c7 c8 c9 ah ai cf
  go_wp2_with fail
  refine (zdA C I E o _ S6 q6 z6 0 _ bl.out aw.out).mono ?_
  rintro e w7 ⟨S7,q7,z7,n7,rfl,i7,m7,s7⟩
  replace n:=zc (n.out.stp s7)
  replace z:=zc (z.out.stp s7)
  replace A:=zc (A.out.stp s7)
  have az:=zc (an.out.step s7)
  have K:Hid (Row S7 w7 o w.heap.size ⟨some ⟨g,0,none⟩,rc⟩ l):=D.out.stp s7
  clear D
  have D:=zc K
  clear K
  clear an
  have aj:=zc m7
  have aE:=zc i7
  clear i7 m7 s7 aw
  have be:w.heap.size+1<w7.heap.size:=z.out.lt
  have aK:w4.heap.size<w7.heap.size:=A.out.lt
  unfold pv
  go_upto_region 12 with fail
  refine zL (R:=fun W=>Bx I S7 W (w.heap.size) _∧Bx I S7 W (w.heap.size+1) _∧Bx I S7 W (w4.heap.size) _∧Bx I S7 W (w7.heap.size) _∧Row S7 W o w.heap.size ⟨some ⟨g,0,none⟩,rc⟩ l∧Mem C I E o S7 q7 W∧SB w.heap.size S w S7 W) ⟨(n.out.alloc _),(z.out.alloc _),(A.out.alloc _),(Bx.new aj.out _),(D.out.alloc _),(aj.out.alloc _),(az.out.alloc _)⟩ ?_
  clear n z A az aj
  clear D
  rintro w8 ⟨X,Y,X2,X3,R0,m8,t8⟩
  have D:=zc R0
  clear R0
  have n:=zc X
  have z:=zc Y
  have A:=zc X2
  have Z:=zc X3
  have ak:=zc m8
  have ar:=zc t8
  clear m8 t8 X Y X2 X3
  obtain⟨d0,d1,d2,d3,d4,d5,d6,d7,d8,d9,al,am,df⟩:=Z.out.box
  go_wp2_with fail
  refine (zad C I E o _ S7 q7 z7 0 cSemi _ aE.out.fst ak.out).mono ?_
  rintro e w9 ⟨S9,q9,z9,rfl,i9,m9,s9⟩
  replace n:=zc (n.out.stp s9)
  replace z:=zc (z.out.stp s9)
  replace A:=zc (A.out.stp s9)
  replace Z:=zc (Z.out.stp s9)
  have ac:=zc (ar.out.step s9)
  have K:Hid (Row S9 w9 o w.heap.size ⟨some ⟨g,0,none⟩,rc⟩ l):=D.out.stp s9
  clear D
  have D:=zc K
  clear K
  clear ar
  have ae:=zc m9
  have ad:=zc i9
  clear i9 m9 s9 ak
  clear d0 d1 d2 d3 d4 d5 d6 d7 d8 d9 al am df
  obtain⟨a0,a1,a2,a3,a4,a5,a6,a7,a8,a9,L,M,af⟩:=n.out.box
  unfold pv
  go_upto_region 13 with fail
  refine zL (R:=fun W=>Bx I S9 W (w.heap.size) _∧Bx I S9 W (w.heap.size+1) _∧Bx I S9 W (w4.heap.size) _∧Bx I S9 W (w7.heap.size) _∧Row S9 W o w.heap.size ⟨some ⟨g,0,none⟩,rc⟩ l∧Mem C I E o S9 q9 W∧SB w.heap.size S w S9 W) ⟨(n.out.put ..),(z.out.other (by omega) ..),(A.out.other (by omega) ..),(Z.out.other (by omega) ..),(D.out.put n.out ..),(ae.out.put n.out ..),(ac.out.put (by omega) ..)⟩ ?_
  clear a0 a1 a2 a3 a4 a5 a6 a7 a8 a9 L M af
  clear n z A Z ac ae
  clear D
  rintro ax ⟨X,Y,X2,X3,R0,ab,aW⟩
  have D:=zc R0
  clear R0
  have n:=zc X
  have z:=zc Y
  have A:=zc X2
  have Z:=zc X3
  have U:=zc ab
  have ao:=zc aW
  clear ab aW X Y X2 X3
  have aI:Hid (_=zag C q):=(zgI (G:=fun b e=>zo C (zai b e)) ay.out aE.out).trans ((ziO ay.out (.inl hA)).trans aN.out.symm)
  go_wp2
  go_loopg [9] l.length (fun k i wr=>∃(j:Nat) (x':PR) (J:Sv) (V:PS) (z':Int),j≤l.length∧i= .int .i64 j∧Is x' V z'∧(z'<0→1≤V.pos)∧zP (fun e=>zo C (zai n7 e)) (l.drop j) x'=zag C q∧l.length-j=k∧Mem C I E o J V wr∧SB w.heap.size S w J wr∧Bx I J wr w.heap.size #[.slice (some ⟨I,0,none⟩) C.ts.length E,.int .i64 V.pos,.int .i64 C.fin,.bool C.scr,.slice J.rq.a V.rq.length J.rq.cap,.slice J.im.a V.im.length J.im.cap,.slice J.ep.a V.ep.length J.ep.cap,.slice J.st.a V.st.length J.st.cap,.slice J.ex.a V.ex.length J.ex.cap,.slice J.la.a V.la.length J.la.cap,.int .i64 z',.int .i64 0]∧Bx I J wr (w.heap.size+1) #[.slice none 0 0,.int .i64 0,.int .i64 0,.bool false,.slice none 0 0,.slice none 0 0,.slice none 0 0,.slice none 0 0,.slice none 0 0,.slice none 0 0,.int .i64 0,.int .i64 0]∧Row J wr o w.heap.size ⟨some ⟨g,0,none⟩,rc⟩ l)
  case atStart=>exact⟨0,_,S9,q9,z9,Nat.zero_le _,rfl,ad.out,zbh ad.out,aI.out,rfl,U.out,ao.out,n.out,z.out,D.out⟩
  case round=>
   obtain⟨j,x9,S9,q9,z9,hj,rfl,i9,p9,e9,g9,m9,t9,X,Y,R0⟩:=hrel
   clear n z A Z D U ao
   have n:=zc X
   have z:=zc Y
   have ae:=zc m9
   have ac:=zc t9
   have ad:=zc i9
   have au:=zc p9
   have aq:=zc e9
   have aB:=zc g9
   have D:=zc R0
   clear X Y i9 m9 t9 e9 g9 R0 p9
   by_cases aC:j<l.length
   ·skip
    obtain⟨c1,c2⟩:=D.out.cells (g:=g) rfl aC
    have bc:=D.out.own.lt (g:=g) rfl
    have HX:Hid (∀e,e=l[j]→zP (fun e=>zo C (zai n7 e)) (l.drop (j+1)) (bd x9 (zo C (zai n7 e)))=zag C q):=fun e he=>by rw[he,←aq.out];exact (zf7 (fun e=>zo C (zai n7 e)) l x9 aC).symm
    generalize aA:l[j]=el at c1 c2
    have aH:Hid (el=l[j]):=aA.symm
    clear aA
    obtain⟨a0,a1,a2,a3,a4,a5,a6,a7,a8,a9,L,M,af⟩:=n.out.box
    go_upto_region 16 with fail
    go_region_law (first|(go_simp;go_wp2_with (go_at_call 134;refine (zd7 C I E o x9 S9 q9 z9 0 (zai n7 el) _ ad.out ae.out.drew au.out).mono ?_;rintro e ax ⟨O,av,aD,rfl,ag,ab,N⟩;obtain⟨d0,d1,d2,d3,d4,d5,d6,d7,d8,d9,al,am,df⟩:=(n.out.stp N.undrew).box;unfold pv)))
    all_goals
     clear a0 a1 a2 a3 a4 a5 a6 a7 a8 a9 L M af d0 d1 d2 d3 d4 d5 d6 d7 d8 d9 al am df
     have Q:=zc ag
     have U:=zc ab
     have H:Hid (Stp S9 wr O ax):=N.undrew
     clear ag ab N
     go_wp2
     go_roundg (gk-1)
     case rel=>exact⟨j+1,_,O,av,aD,by omega,by go_num,Q.out,zgJ au.out ad.out Q.out,HX.out el aH.out,by have:=aB.out;omega,U.out.put (n.out.stp H.out) _ _ _ _ _ _ _ _ _ _ _ _,(ac.out.step H.out).put (by omega) _ _ _ _ _ _ _ _ _ _ _ _,(n.out.stp H.out).put _ _ _ _ _ _ _ _ _ _ _ _,(z.out.stp H.out).other (by omega) _ _ _ _ _ _ _ _ _ _ _ _,(D.out.stp H.out).put (n.out.stp H.out) _ _ _ _ _ _ _ _ _ _ _ _⟩
     case measure=>have:=aB.out;omega
   ·skip
    obtain⟨a0,a1,a2,a3,a4,a5,a6,a7,a8,a9,L,M,af⟩:=n.out.box
    obtain⟨b0,b1,b2,b3,b4,b5,b6,b7,b8,b9,ba,aZ,bf⟩:=z.out.box
    go_wp2
    refine bodyPost_ret (results_cell_row rfl _ _ (w.heap.size+1) 53 _ (0,0) _ rfl ((z.out.put ..)).heap Tryz.underlying53 rfl (by kernel_rfl)) rfl ?_
    exact zY rfl (show Is (zag C q) q9 z9 from by rw[←aq.out,List.drop_eq_nil_of_le (by omega)];exact ad.out) (ae.out.put z.out ..) (ac.out.put (by omega) ..)
 |false=>
  cases hF:(decide (z4<0)&&isT C q4.pos 1 zU) with
  |true=>
   obtain⟨c0,c1,c2,c3,c4,c5,c6,c7,c8,c9,ah,ai,cf⟩:=A.out.box
   go_wp2_with fail
   refine (zh C I E o S4 q4 z4 0 1 zU _ ap.out.tok aJ (by decide)).mono ?_
   rintro e w6 ⟨rfl,aa⟩
   rw[hF]
   replace n:=zc (n.out.below aa)
   replace z:=zc (z.out.below aa)
   replace A:=zc (A.out.below aa)
   have an:=zc (aF.out.below aa)
   have aw:=zc (ap.out.later aa)
   have K:Hid (Row S4 w6 o w.heap.size ⟨some ⟨g,0,none⟩,rc⟩ l):=D.out.below aa
   clear D
   have D:=zc K
   clear K
   clear aa aF ap
   clear c0 c1 c2 c3 c4 c5 c6 c7 c8 c9 ah ai cf
   obtain⟨c0,c1,c2,c3,c4,c5,c6,c7,c8,c9,ah,ai,cf⟩:=A.out.box
   go_wp2_with fail
   refine (zaH C I E o _ S4 q4 z4 0 zU _ ay.out.fst aw.out).mono ?_
   rintro e w7 ⟨S7,q7,z7,rfl,i7,m7,s7⟩
   replace n:=zc (n.out.stp s7)
   replace z:=zc (z.out.stp s7)
   replace A:=zc (A.out.stp s7)
   have az:=zc (an.out.step s7)
   have K:Hid (Row S7 w7 o w.heap.size ⟨some ⟨g,0,none⟩,rc⟩ l):=D.out.stp s7
   clear D
   have D:=zc K
   clear K
   clear an
   have aj:=zc m7
   have aE:=zc i7
   clear i7 m7 s7 aw
   clear c0 c1 c2 c3 c4 c5 c6 c7 c8 c9 ah ai cf
   go_wp2_with fail
   refine (zdA C I E o _ S7 q7 z7 0 _ aE.out aj.out).mono ?_
   rintro e w8 ⟨S8,q8,z8,n8,rfl,i8,m8,s8⟩
   replace n:=zc (n.out.stp s8)
   replace z:=zc (z.out.stp s8)
   replace A:=zc (A.out.stp s8)
   have ar:=zc (az.out.step s8)
   have K:Hid (Row S8 w8 o w.heap.size ⟨some ⟨g,0,none⟩,rc⟩ l):=D.out.stp s8
   clear D
   have D:=zc K
   clear K
   clear az
   have ak:=zc m8
   have aV:=zc i8
   clear i8 m8 s8 aj
   have be:w.heap.size+1<w8.heap.size:=z.out.lt
   have aK:w4.heap.size<w8.heap.size:=A.out.lt
   unfold pv
   go_upto_region 12 with fail
   refine zL (R:=fun W=>Bx I S8 W (w.heap.size) _∧Bx I S8 W (w.heap.size+1) _∧Bx I S8 W (w4.heap.size) _∧Bx I S8 W (w8.heap.size) _∧Row S8 W o w.heap.size ⟨some ⟨g,0,none⟩,rc⟩ l∧Mem C I E o S8 q8 W∧SB w.heap.size S w S8 W) ⟨(n.out.alloc _),(z.out.alloc _),(A.out.alloc _),(Bx.new ak.out _),(D.out.alloc _),(ak.out.alloc _),(ar.out.alloc _)⟩ ?_
   clear n z A ar ak
   clear D
   rintro w9 ⟨X,Y,X2,X3,R0,m9,t9⟩
   have D:=zc R0
   clear R0
   have n:=zc X
   have z:=zc Y
   have A:=zc X2
   have Z:=zc X3
   have ae:=zc m9
   have ac:=zc t9
   clear m9 t9 X Y X2 X3
   obtain⟨d0,d1,d2,d3,d4,d5,d6,d7,d8,d9,al,am,df⟩:=Z.out.box
   go_wp2_with fail
   refine (zad C I E o _ S8 q8 z8 0 cSemi _ aV.out.fst ae.out).mono ?_
   rintro e ax ⟨O,av,aD,rfl,ag,ab,N⟩
   replace n:=zc (n.out.stp N)
   replace z:=zc (z.out.stp N)
   replace A:=zc (A.out.stp N)
   replace Z:=zc (Z.out.stp N)
   have ao:=zc (ac.out.step N)
   have K:Hid (Row O ax o w.heap.size ⟨some ⟨g,0,none⟩,rc⟩ l):=D.out.stp N
   clear D
   have D:=zc K
   clear K
   clear ac
   have U:=zc ab
   have Q:=zc ag
   clear ag ab N ae
   clear d0 d1 d2 d3 d4 d5 d6 d7 d8 d9 al am df
   obtain⟨a0,a1,a2,a3,a4,a5,a6,a7,a8,a9,L,M,af⟩:=n.out.box
   unfold pv
   go_upto_region 13 with fail
   refine zL (R:=fun W=>Bx I O W (w.heap.size) _∧Bx I O W (w.heap.size+1) _∧Bx I O W (w4.heap.size) _∧Bx I O W (w8.heap.size) _∧Row O W o w.heap.size ⟨some ⟨g,0,none⟩,rc⟩ l∧Mem C I E o O av W∧SB w.heap.size S w O W) ⟨(n.out.put ..),(z.out.other (by omega) ..),(A.out.other (by omega) ..),(Z.out.other (by omega) ..),(D.out.put n.out ..),(U.out.put n.out ..),(ao.out.put (by omega) ..)⟩ ?_
   clear a0 a1 a2 a3 a4 a5 a6 a7 a8 a9 L M af
   clear n z A Z ao U
   clear D
   rintro bn ⟨X,Y,X2,X3,R0,bi,aT⟩
   have D:=zc R0
   clear R0
   have n:=zc X
   have z:=zc Y
   have A:=zc X2
   have Z:=zc X3
   have aL:=zc bi
   have aM:=zc aT
   clear bi aT X Y X2 X3
   have aI:Hid (_=zag C q):=(zgI (G:=fun b e=>zo C (zai b e)) ay.out aV.out).trans ((ziO ay.out (.inr hF)).trans aN.out.symm)
   go_wp2
   go_loopg [9] l.length (fun k i wr=>∃(j:Nat) (x':PR) (J:Sv) (V:PS) (z':Int),j≤l.length∧i= .int .i64 j∧Is x' V z'∧(z'<0→1≤V.pos)∧zP (fun e=>zo C (zai n8 e)) (l.drop j) x'=zag C q∧l.length-j=k∧Mem C I E o J V wr∧SB w.heap.size S w J wr∧Bx I J wr w.heap.size #[.slice (some ⟨I,0,none⟩) C.ts.length E,.int .i64 V.pos,.int .i64 C.fin,.bool C.scr,.slice J.rq.a V.rq.length J.rq.cap,.slice J.im.a V.im.length J.im.cap,.slice J.ep.a V.ep.length J.ep.cap,.slice J.st.a V.st.length J.st.cap,.slice J.ex.a V.ex.length J.ex.cap,.slice J.la.a V.la.length J.la.cap,.int .i64 z',.int .i64 0]∧Bx I J wr (w.heap.size+1) #[.slice none 0 0,.int .i64 0,.int .i64 0,.bool false,.slice none 0 0,.slice none 0 0,.slice none 0 0,.slice none 0 0,.slice none 0 0,.slice none 0 0,.int .i64 0,.int .i64 0]∧Row J wr o w.heap.size ⟨some ⟨g,0,none⟩,rc⟩ l)
   case atStart=>exact⟨0,_,O,av,aD,Nat.zero_le _,rfl,Q.out,zbh Q.out,aI.out,rfl,aL.out,aM.out,n.out,z.out,D.out⟩
   case round=>
    obtain⟨j,x9,S9,q9,z9,hj,rfl,i9,p9,e9,g9,m9,t9,X,Y,R0⟩:=hrel
    clear n z A Z D aL aM
    have n:=zc X
    have z:=zc Y
    have ae:=zc m9
    have ac:=zc t9
    have ad:=zc i9
    have au:=zc p9
    have aq:=zc e9
    have aB:=zc g9
    have D:=zc R0
    clear X Y i9 m9 t9 e9 g9 R0 p9
    by_cases aC:j<l.length
    ·skip
     obtain⟨c1,c2⟩:=D.out.cells (g:=g) rfl aC
     have bc:=D.out.own.lt (g:=g) rfl
     have HX:Hid (∀e,e=l[j]→zP (fun e=>zo C (zai n8 e)) (l.drop (j+1)) (bd x9 (zo C (zai n8 e)))=zag C q):=fun e he=>by rw[he,←aq.out];exact (zf7 (fun e=>zo C (zai n8 e)) l x9 aC).symm
     generalize aA:l[j]=el at c1 c2
     have aH:Hid (el=l[j]):=aA.symm
     clear aA
     obtain⟨a0,a1,a2,a3,a4,a5,a6,a7,a8,a9,L,M,af⟩:=n.out.box
     go_upto_region 16 with fail
     go_region_law (first|(go_simp;go_wp2_with (go_at_call 134;refine (zd7 C I E o x9 S9 q9 z9 0 (zai n8 el) _ ad.out ae.out.drew au.out).mono ?_;rintro e ax ⟨O,av,aD,rfl,ag,ab,N⟩;obtain⟨d0,d1,d2,d3,d4,d5,d6,d7,d8,d9,al,am,df⟩:=(n.out.stp N.undrew).box;unfold pv)))
     all_goals
      clear a0 a1 a2 a3 a4 a5 a6 a7 a8 a9 L M af d0 d1 d2 d3 d4 d5 d6 d7 d8 d9 al am df
      have Q:=zc ag
      have U:=zc ab
      have H:Hid (Stp S9 wr O ax):=N.undrew
      clear ag ab N
      go_wp2
      go_roundg (gk-1)
      case rel=>exact⟨j+1,_,O,av,aD,by omega,by go_num,Q.out,zgJ au.out ad.out Q.out,HX.out el aH.out,by have:=aB.out;omega,U.out.put (n.out.stp H.out) _ _ _ _ _ _ _ _ _ _ _ _,(ac.out.step H.out).put (by omega) _ _ _ _ _ _ _ _ _ _ _ _,(n.out.stp H.out).put _ _ _ _ _ _ _ _ _ _ _ _,(z.out.stp H.out).other (by omega) _ _ _ _ _ _ _ _ _ _ _ _,(D.out.stp H.out).put (n.out.stp H.out) _ _ _ _ _ _ _ _ _ _ _ _⟩
      case measure=>have:=aB.out;omega
    ·skip
     obtain⟨a0,a1,a2,a3,a4,a5,a6,a7,a8,a9,L,M,af⟩:=n.out.box
     obtain⟨b0,b1,b2,b3,b4,b5,b6,b7,b8,b9,ba,aZ,bf⟩:=z.out.box
     go_wp2
     refine bodyPost_ret (results_cell_row rfl _ _ (w.heap.size+1) 53 _ (0,0) _ rfl ((z.out.put ..)).heap Tryz.underlying53 rfl (by kernel_rfl)) rfl ?_
     exact zY rfl (show Is (zag C q) q9 z9 from by rw[←aq.out,List.drop_eq_nil_of_le (by omega)];exact ad.out) (ae.out.put z.out ..) (ac.out.put (by omega) ..)
  |false=>
   obtain⟨c0,c1,c2,c3,c4,c5,c6,c7,c8,c9,ah,ai,cf⟩:=A.out.box
   go_wp2_with fail
   refine (zh C I E o S4 q4 z4 0 1 zU _ ap.out.tok aJ (by decide)).mono ?_
   rintro e w6 ⟨rfl,aa⟩
   rw[hF]
   replace n:=zc (n.out.below aa)
   replace z:=zc (z.out.below aa)
   replace A:=zc (A.out.below aa)
   have an:=zc (aF.out.below aa)
   have aw:=zc (ap.out.later aa)
   have K:Hid (Row S4 w6 o w.heap.size ⟨some ⟨g,0,none⟩,rc⟩ l):=D.out.below aa
   clear D
   have D:=zc K
   clear K
   clear aa aF ap
   clear c0 c1 c2 c3 c4 c5 c6 c7 c8 c9 ah ai cf
   obtain⟨c0,c1,c2,c3,c4,c5,c6,c7,c8,c9,ah,ai,cf⟩:=A.out.box
   go_wp2_with fail
   refine (zad C I E o _ S4 q4 z4 0 cSemi _ ay.out.fst aw.out).mono ?_
   rintro e w7 ⟨S7,q7,z7,rfl,i7,m7,s7⟩
   replace n:=zc (n.out.stp s7)
   replace z:=zc (z.out.stp s7)
   replace A:=zc (A.out.stp s7)
   have az:=zc (an.out.step s7)
   have K:Hid (Row S7 w7 o w.heap.size ⟨some ⟨g,0,none⟩,rc⟩ l):=D.out.stp s7
   clear D
   have D:=zc K
   clear K
   clear an
   have aj:=zc m7
   have aE:=zc i7
   clear i7 m7 s7 aw
   clear c0 c1 c2 c3 c4 c5 c6 c7 c8 c9 ah ai cf
   obtain⟨a0,a1,a2,a3,a4,a5,a6,a7,a8,a9,L,M,af⟩:=n.out.box
   unfold pv
   go_upto_region 6 with fail
   refine zL (R:=fun W=>Bx I S7 W (w.heap.size) _∧Bx I S7 W (w.heap.size+1) _∧Bx I S7 W (w4.heap.size) _∧Row S7 W o w.heap.size ⟨some ⟨g,0,none⟩,rc⟩ l∧Mem C I E o S7 q7 W∧SB w.heap.size S w S7 W) ⟨(n.out.put ..),(z.out.other (by omega) ..),(A.out.other (by omega) ..),(D.out.put n.out ..),(aj.out.put n.out ..),(az.out.put (by omega) ..)⟩ ?_
   clear a0 a1 a2 a3 a4 a5 a6 a7 a8 a9 L M af
   clear n z A az aj
   clear D
   rintro w8 ⟨X,Y,X2,R0,m8,t8⟩
   have D:=zc R0
   clear R0
   have n:=zc X
   have z:=zc Y
   have A:=zc X2
   have ak:=zc m8
   have ar:=zc t8
   clear m8 t8 X Y X2
   have aI:Hid (_=zag C q):=(znA ay.out hA hF).trans aN.out.symm
   go_wp2
   go_loopg [6] l.length (fun k i wr=>∃(j:Nat) (x':PR) (J:Sv) (V:PS) (z':Int),j≤l.length∧i= .int .i64 j∧Is x' V z'∧(z'<0→1≤V.pos)∧zP (fun e=>zo C (zA e)) (l.drop j) x'=zag C q∧l.length-j=k∧Mem C I E o J V wr∧SB w.heap.size S w J wr∧Bx I J wr w.heap.size #[.slice (some ⟨I,0,none⟩) C.ts.length E,.int .i64 V.pos,.int .i64 C.fin,.bool C.scr,.slice J.rq.a V.rq.length J.rq.cap,.slice J.im.a V.im.length J.im.cap,.slice J.ep.a V.ep.length J.ep.cap,.slice J.st.a V.st.length J.st.cap,.slice J.ex.a V.ex.length J.ex.cap,.slice J.la.a V.la.length J.la.cap,.int .i64 z',.int .i64 0]∧Bx I J wr (w.heap.size+1) #[.slice none 0 0,.int .i64 0,.int .i64 0,.bool false,.slice none 0 0,.slice none 0 0,.slice none 0 0,.slice none 0 0,.slice none 0 0,.slice none 0 0,.int .i64 0,.int .i64 0]∧Row J wr o w.heap.size ⟨some ⟨g,0,none⟩,rc⟩ l)
   case atStart=>exact⟨0,_,S7,q7,z7,Nat.zero_le _,rfl,aE.out,zbh aE.out,aI.out,rfl,ak.out,ar.out,n.out,z.out,D.out⟩
   case round=>
    obtain⟨j,x9,S9,q9,z9,hj,rfl,i9,p9,e9,g9,m9,t9,X,Y,R0⟩:=hrel
    clear n z A D ak ar
    have n:=zc X
    have z:=zc Y
    have ae:=zc m9
    have ac:=zc t9
    have ad:=zc i9
    have au:=zc p9
    have aq:=zc e9
    have aB:=zc g9
    have D:=zc R0
    clear X Y i9 m9 t9 e9 g9 R0 p9
    by_cases aC:j<l.length
    ·skip
     obtain⟨c1,c2⟩:=D.out.cells (g:=g) rfl aC
     have bc:=D.out.own.lt (g:=g) rfl
     have HX:Hid (∀e,e=l[j]→zP (fun e=>zo C (zA e)) (l.drop (j+1)) (bd x9 (zo C (zA e)))=zag C q):=fun e he=>by rw[he,←aq.out];exact (zf7 (fun e=>zo C (zA e)) l x9 aC).symm
     generalize aA:l[j]=el at c1 c2
     have aH:Hid (el=l[j]):=aA.symm
     clear aA
     obtain⟨a0,a1,a2,a3,a4,a5,a6,a7,a8,a9,L,M,af⟩:=n.out.box
     go_upto_region 9 with fail
     go_region_law (first|(go_simp;go_wp2_with (go_at_call 134;refine (zd7 C I E o x9 S9 q9 z9 0 (zA el) _ ad.out ae.out.drew au.out).mono ?_;rintro e ax ⟨O,av,aD,rfl,ag,ab,N⟩;obtain⟨d0,d1,d2,d3,d4,d5,d6,d7,d8,d9,al,am,df⟩:=(n.out.stp N.undrew).box;unfold pv)))
     all_goals
      clear a0 a1 a2 a3 a4 a5 a6 a7 a8 a9 L M af d0 d1 d2 d3 d4 d5 d6 d7 d8 d9 al am df
      have Q:=zc ag
      have U:=zc ab
      have H:Hid (Stp S9 wr O ax):=N.undrew
      clear ag ab N
      go_wp2
      go_roundg (gk-1)
      case rel=>exact⟨j+1,_,O,av,aD,by omega,by go_num,Q.out,zgJ au.out ad.out Q.out,HX.out el aH.out,by have:=aB.out;omega,U.out.put (n.out.stp H.out) _ _ _ _ _ _ _ _ _ _ _ _,(ac.out.step H.out).put (by omega) _ _ _ _ _ _ _ _ _ _ _ _,(n.out.stp H.out).put _ _ _ _ _ _ _ _ _ _ _ _,(z.out.stp H.out).other (by omega) _ _ _ _ _ _ _ _ _ _ _ _,(D.out.stp H.out).put (n.out.stp H.out) _ _ _ _ _ _ _ _ _ _ _ _⟩
      case measure=>have:=aB.out;omega
    ·skip
     obtain⟨a0,a1,a2,a3,a4,a5,a6,a7,a8,a9,L,M,af⟩:=n.out.box
     obtain⟨b0,b1,b2,b3,b4,b5,b6,b7,b8,b9,ba,aZ,bf⟩:=z.out.box
     go_wp2
     refine bodyPost_ret (results_cell_row rfl _ _ (w.heap.size+1) 53 _ (0,0) _ rfl ((z.out.put ..)).heap Tryz.underlying53 rfl (by kernel_rfl)) rfl ?_
     exact zY rfl (show Is (zag C q) q9 z9 from by rw[←aq.out,List.drop_eq_nil_of_le (by omega)];exact ad.out) (ae.out.put z.out ..) (ac.out.put (by omega) ..)
theorem znH (C:Cx) (o n j:Nat) (S:Sv) (q:PS) (w:World) (D:Mem C o n j S q w) (z:isT C q.pos 1 zah=true):
  Calls Tryz.prog 70 #[pv C o n S q (-1) 0] w (Out C o n j (zaQ C q) 0 S w):=by
 cases A:isT C (q.pos+1) 4 zJ with
 |true=>exact zn5 C o n j S q w D z A
 |false=>
  cases E:isT C (q.pos+1) 4 zw with
  |true=>exact zn2 C o n j S q w D z A E
  |false=>
   cases H:zD C (q.pos+1) false with
   |true=>exact zn3 C o n j S q w D z A E H
   |false=>exact zn4 C o n j S q w D z A E H
theorem znI (C:Cx) (o n j:Nat) (S:Sv) (q:PS) (w:World) (D:Mem C o n j S q w) (z:isT C q.pos 1 zaf=true):
  Calls Tryz.prog 71 #[pv C o n S q (-1) 0] w (Out C o n j (zag C q) 0 S w):=by
 cases A:isT C (q.pos+1) 4 zJ with
 |true=>exact znG C o n j S q w D z A
 |false=>
  cases E:isT C (q.pos+1) 4 zw with
  |true=>exact znB C o n j S q w D z A E
  |false=>
   cases H:isT C (q.pos+1) 1 sDefault with
   |true=>exact znC C o n j S q w D z A E H
   |false=>
    cases I:isT C (q.pos+1) 1 zC with
    |true=>exact znD C o n j S q w D z A E H I
    |false=>
     cases J:isT C (q.pos+1) 1 zT with
     |true=>exact znE C o n j S q w D z A E H I J
     |false=>exact znF C o n j S q w D z A E H I J
theorem ziP {C:Cx} {x:PR} {n:ByteArray}:bd (bd (bd (bd x (zd C 4 cEq)) (pE C .sum 0)) (zd C 4 cSemi)) (zV C 3 n)=bd x fun q=>bd (bd (bd (bd (.ok q) (zd C 4 cEq)) (pE C .sum 0)) (zd C 4 cSemi)) (zV C 3 n):=by cases x<;>rfl
theorem znJ (D:List Tk) (j:Nat) (E A o:Nat) (S:Sv) (q:PS) (w:World) (V:Mem (Cx.mk D j true) E A o S q w) (h0:isT (Cx.mk D j true) q.pos 1 zC=true):
  Calls Tryz.prog 21 #[pv (Cx.mk D j true) E A S q (-1) 0] w (Out (Cx.mk D j true) E A o (zy (Cx.mk D j true) q) 0 S w):=by
 have HM:=zc V
 have H:=V.tok
 have U:(Cx.mk D j true).ts.length≤4000:=V.few
 clear V
 have HV:Hid (zy (Cx.mk D j true) q=zaK (zcj (Cx.mk D j true) q)):=by show zy (Cx.mk D j true) q=_;rw[zy,h0];rfl
 unfold pv
 go_enter Tryz.func21,Tryz.ntmps21
 go_wp2_with fail
 refine (zh (Cx.mk D j true) E A o S q (-1) 0 1 zC _ (zq (zq H _) _) U (by decide)).mono ?_
 rintro e w1 ⟨rfl,M⟩
 rw[h0]
 obtain⟨K,O,m1,t1⟩:=HM.out.two M
 have z:=zc K
 have n:=zc O
 have L:=zc m1
 have N:=zc t1
 clear K O m1 t1 M
 clear H
 obtain⟨a0,a1,a2,a3,a4,a5,a6,a7,a8,a9,Y,ac,af⟩:=z.out.box
 go_wp2_with fail
 refine (zgG (Cx.mk D j true) E A o S q _ L.out).mono ?_
 rintro e w2 ⟨Q,q2,z2,n2,rfl,i2,m2,X⟩
 replace z:=zc (z.out.stp X)
 replace n:=zc (n.out.stp X)
 have J:=zc (N.out.step X)
 clear N
 have I:=zc m2
 have Z:=zc i2
 clear i2 m2 X L
 clear a0 a1 a2 a3 a4 a5 a6 a7 a8 a9 Y ac af
 have ae:w.heap.size+1<w2.heap.size:=n.out.lt
 unfold pv
 go_upto_region 7 with fail
 refine zL (R:=fun W=>Bx E Q W (w.heap.size) _∧Bx E Q W (w.heap.size+1) _∧Bx E Q W (w2.heap.size) _∧Mem (Cx.mk D j true) E A o Q q2 W∧SB w.heap.size S w Q W) ⟨(z.out.alloc _),(n.out.alloc _),(Bx.new I.out _),(I.out.alloc _),(J.out.alloc _)⟩ ?_
 clear z n J I
 rintro w3 ⟨K,O,X2,m3,t3⟩
 have z:=zc K
 have n:=zc O
 have aa:=zc X2
 have ad:=zc m3
 have ab:=zc t3
 clear m3 t3 K O X2
 obtain⟨b0,b1,b2,b3,b4,b5,b6,b7,b8,b9,aj,ai,bf⟩:=n.out.box
 obtain⟨c0,c1,c2,c3,c4,c5,c6,c7,c8,c9,ag,ah,cf⟩:=aa.out.box
 go_wp2
 refine bodyPost_ret (results_cell_row rfl _ _ (w.heap.size+1) 53 _ (0,0) _ rfl ((n.out.put ..)).heap Tryz.underlying53 rfl (by kernel_rfl)) rfl ?_
 rw[HV.out]
 exact zY rfl Z.out.fst (ad.out.put n.out ..) (ab.out.put (by omega) ..)
theorem znK (D:List Tk) (j:Nat) (H A o:Nat) (S:Sv) (q:PS) (w:World) (hm:Mem (Cx.mk D j true) H A o S q w) (h0:isT (Cx.mk D j true) q.pos 1 zC=false) (h1:isT (Cx.mk D j true) q.pos 1 zT=true):
  Calls Tryz.prog 21 #[pv (Cx.mk D j true) H A S q (-1) 0] w (Out (Cx.mk D j true) H A o (zy (Cx.mk D j true) q) 0 S w):=by
 have HM:=zc hm
 have I:=hm.tok
 have J:(Cx.mk D j true).ts.length≤4000:=hm.few
 clear hm
 have HV:Hid (zy (Cx.mk D j true) q=zaK (fnP (Cx.mk D j true) q)):=by show zy (Cx.mk D j true) q=_;rw[zy,h0,h1];rfl
 unfold pv
 go_enter Tryz.func21,Tryz.ntmps21
 go_wp2_with fail
 refine (zh (Cx.mk D j true) H A o S q (-1) 0 1 zC _ (zq (zq I _) _) J (by decide)).mono ?_
 rintro e w1 ⟨rfl,V⟩
 rw[h0]
 obtain⟨Q,X1,m1,t1⟩:=HM.out.two V
 have z:=zc Q
 have n:=zc X1
 have L:=zc m1
 have Z:=zc t1
 clear Q X1 m1 t1 V
 clear I
 obtain⟨a0,a1,a2,a3,a4,a5,a6,a7,a8,a9,K,M,af⟩:=z.out.box
 go_wp2_with fail
 refine (zh (Cx.mk D j true) H A o S q (-1) 0 1 zT _ L.out.tok J (by decide)).mono ?_
 rintro e w2 ⟨rfl,E⟩
 rw[h1]
 replace z:=zc (z.out.below E)
 replace n:=zc (n.out.below E)
 have O:=zc (Z.out.below E)
 have X:=zc (L.out.later E)
 clear E Z L
 clear a0 a1 a2 a3 a4 a5 a6 a7 a8 a9 K M af
 obtain⟨a0,a1,a2,a3,a4,a5,a6,a7,a8,a9,K,M,af⟩:=z.out.box
 go_wp2_with fail
 refine (zgH (Cx.mk D j true) H A o S q _ X.out).mono ?_
 rintro e w3 ⟨U,q3,z3,n3,rfl,i3,m3,s3⟩
 replace z:=zc (z.out.stp s3)
 replace n:=zc (n.out.stp s3)
 have Y:=zc (O.out.step s3)
 clear O
 have N:=zc m3
 have ac:=zc i3
 clear i3 m3 s3 X
 clear a0 a1 a2 a3 a4 a5 a6 a7 a8 a9 K M af
 have ae:w.heap.size+1<w3.heap.size:=n.out.lt
 unfold pv
 go_upto_region 10 with fail
 refine zL (R:=fun W=>Bx H U W (w.heap.size) _∧Bx H U W (w.heap.size+1) _∧Bx H U W (w3.heap.size) _∧Mem (Cx.mk D j true) H A o U q3 W∧SB w.heap.size S w U W) ⟨(z.out.alloc _),(n.out.alloc _),(Bx.new N.out _),(N.out.alloc _),(Y.out.alloc _)⟩ ?_
 clear z n Y N
 rintro w4 ⟨Q,X1,X2,m4,t4⟩
 have z:=zc Q
 have n:=zc X1
 have ab:=zc X2
 have ad:=zc m4
 have aa:=zc t4
 clear m4 t4 Q X1 X2
 obtain⟨b0,b1,b2,b3,b4,b5,b6,b7,b8,b9,aj,ai,bf⟩:=n.out.box
 obtain⟨c0,c1,c2,c3,c4,c5,c6,c7,c8,c9,ag,ah,cf⟩:=ab.out.box
 go_wp2
 refine bodyPost_ret (results_cell_row rfl _ _ (w.heap.size+1) 53 _ (0,0) _ rfl ((n.out.put ..)).heap Tryz.underlying53 rfl (by kernel_rfl)) rfl ?_
 rw[HV.out]
 exact zY rfl ac.out.fst (ad.out.put n.out ..) (aa.out.put (by omega) ..)
theorem znL (D:List Tk) (j:Nat) (E A z:Nat) (S:Sv) (q:PS) (w:World) (hm:Mem (Cx.mk D j true) E A z S q w) (h0:isT (Cx.mk D j true) q.pos 1 zC=false) (h1:isT (Cx.mk D j true) q.pos 1 zT=false) (h2:isT (Cx.mk D j true) q.pos 1 zar=true):
  Calls Tryz.prog 21 #[pv (Cx.mk D j true) E A S q (-1) 0] w (Out (Cx.mk D j true) E A z (zy (Cx.mk D j true) q) 0 S w):=by
 have HM:=zc hm
 have O:=hm.tok
 have N:(Cx.mk D j true).ts.length≤4000:=hm.few
 clear hm
 have HV:Hid (zy (Cx.mk D j true) q=bd (bd (bd (bd (bd (bd (.ok q) (zd (Cx.mk D j true) 1 zar)) (zd (Cx.mk D j true) 4 zn)) (pE (Cx.mk D j true) .sum 0)) (zd (Cx.mk D j true) 4 za0)) (zd (Cx.mk D j true) 4 cSemi)) (zV (Cx.mk D j true) 4 sNone)):=by show zy (Cx.mk D j true) q=_;rw[zy,h0,h1,h2];rfl
 unfold pv
 go_enter Tryz.func21,Tryz.ntmps21
 go_wp2_with fail
 refine (zh (Cx.mk D j true) E A z S q (-1) 0 1 zC _ (zq (zq O _) _) N (by decide)).mono ?_
 rintro e w1 ⟨rfl,aj⟩
 rw[h0]
 obtain⟨X0,X1,m1,t1⟩:=HM.out.two aj
 have o:=zc X0
 have n:=zc X1
 have Q:=zc m1
 have av:=zc t1
 clear X0 X1 m1 t1 aj
 clear O
 obtain⟨a0,a1,a2,a3,a4,a5,a6,a7,a8,a9,J,M,af⟩:=o.out.box
 go_wp2_with fail
 refine (zh (Cx.mk D j true) E A z S q (-1) 0 1 zT _ Q.out.tok N (by decide)).mono ?_
 rintro e w2 ⟨rfl,H⟩
 rw[h1]
 replace o:=zc (o.out.below H)
 replace n:=zc (n.out.below H)
 have Z:=zc (av.out.below H)
 have V:=zc (Q.out.later H)
 clear H av Q
 clear a0 a1 a2 a3 a4 a5 a6 a7 a8 a9 J M af
 obtain⟨a0,a1,a2,a3,a4,a5,a6,a7,a8,a9,J,M,af⟩:=o.out.box
 go_wp2_with fail
 refine (zh (Cx.mk D j true) E A z S q (-1) 0 1 zar _ V.out.tok N (by decide)).mono ?_
 rintro e w3 ⟨rfl,I⟩
 rw[h2]
 replace o:=zc (o.out.below I)
 replace n:=zc (n.out.below I)
 have al:=zc (Z.out.below I)
 have aq:=zc (V.out.later I)
 clear I Z V
 clear a0 a1 a2 a3 a4 a5 a6 a7 a8 a9 J M af
 obtain⟨a0,a1,a2,a3,a4,a5,a6,a7,a8,a9,J,M,af⟩:=o.out.box
 go_wp2_with fail
 refine (zaH (Cx.mk D j true) E A z (.ok q) S q (-1) 0 zar _ (zX q) aq.out).mono ?_
 rintro e w4 ⟨S4,q4,z4,rfl,i4,m4,s4⟩
 replace o:=zc (o.out.stp s4)
 replace n:=zc (n.out.stp s4)
 have ai:=zc (al.out.step s4)
 clear al
 have ar:=zc m4
 have aB:=zc i4
 clear i4 m4 s4 aq
 clear a0 a1 a2 a3 a4 a5 a6 a7 a8 a9 J M af
 go_wp2_with fail
 refine (zad (Cx.mk D j true) E A z _ S4 q4 z4 0 zn _ aB.out ar.out).mono ?_
 rintro e w5 ⟨S5,q5,z5,rfl,i5,m5,s5⟩
 replace o:=zc (o.out.stp s5)
 replace n:=zc (n.out.stp s5)
 have ae:=zc (ai.out.step s5)
 clear ai
 have ac:=zc m5
 have ay:=zc i5
 clear i5 m5 s5 ar
 go_wp2_with fail
 refine (zcN (Cx.mk D j true) E A z _ S5 q5 z5 _ ay.out ac.out).mono ?_
 rintro e w6 ⟨S6,q6,z6,rfl,i6,m6,s6⟩
 replace o:=zc (o.out.stp s6)
 replace n:=zc (n.out.stp s6)
 have aa:=zc (ae.out.step s6)
 clear ae
 have ah:=zc m6
 have aA:=zc i6
 clear i6 m6 s6 ac
 go_wp2_with fail
 refine (zad (Cx.mk D j true) E A z _ S6 q6 z6 0 za0 _ aA.out ah.out).mono ?_
 rintro e w7 ⟨X,q7,z7,rfl,i7,m7,s7⟩
 replace o:=zc (o.out.stp s7)
 replace n:=zc (n.out.stp s7)
 have ak:=zc (aa.out.step s7)
 clear aa
 have U:=zc m7
 have aC:=zc i7
 clear i7 m7 s7 ah
 have aD:w.heap.size+1<w7.heap.size:=n.out.lt
 unfold pv
 go_upto_region 13 with fail
 refine zL (R:=fun W=>Bx E X W (w.heap.size) _∧Bx E X W (w.heap.size+1) _∧Bx E X W (w7.heap.size) _∧Mem (Cx.mk D j true) E A z X q7 W∧SB w.heap.size S w X W) ⟨(o.out.alloc _),(n.out.alloc _),(Bx.new U.out _),(U.out.alloc _),(ak.out.alloc _)⟩ ?_
 clear o n ak U
 rintro w8 ⟨X0,X1,X2,m8,t8⟩
 have o:=zc X0
 have n:=zc X1
 have L:=zc X2
 have ao:=zc m8
 have ad:=zc t8
 clear m8 t8 X0 X1 X2
 obtain⟨c0,c1,c2,c3,c4,c5,c6,c7,c8,c9,ax,az,cf⟩:=L.out.box
 go_wp2_with fail
 refine (zad (Cx.mk D j true) E A z _ X q7 z7 0 cSemi _ aC.out ao.out).mono ?_
 rintro e w9 ⟨S9,q9,z9,rfl,i9,m9,s9⟩
 replace o:=zc (o.out.stp s9)
 replace n:=zc (n.out.stp s9)
 replace L:=zc (L.out.stp s9)
 have an:=zc (ad.out.step s9)
 clear ad
 have aw:=zc m9
 have au:=zc i9
 clear i9 m9 s9 ao
 clear c0 c1 c2 c3 c4 c5 c6 c7 c8 c9 ax az cf
 go_wp2_with fail
 refine (zcL (Cx.mk D j true) E A z _ S9 q9 z9 0 4 sNone _ au.out aw.out (zbh au.out)).mono ?_
 rintro e aJ ⟨aF,aG,aE,rfl,ap,am,K⟩
 replace o:=zc (o.out.stp K)
 replace n:=zc (n.out.stp K)
 replace L:=zc (L.out.stp K)
 have ab:=zc (an.out.step K)
 clear an
 have ag:=zc am
 have Y:=zc ap
 clear ap am K aw
 obtain⟨b0,b1,b2,b3,b4,b5,b6,b7,b8,b9,aI,aH,bf⟩:=n.out.box
 unfold pv
 go_wp2
 refine bodyPost_ret (results_cell_row rfl _ _ (w.heap.size+1) 53 _ (0,0) _ rfl ((n.out.put ..)).heap Tryz.underlying53 rfl (by kernel_rfl)) rfl ?_
 rw[HV.out]
 exact zY rfl Y.out (ag.out.put n.out ..) (ab.out.put (by omega) ..)
theorem znM (D:List Tk) (j:Nat) (M A z:Nat) (S:Sv) (q:PS) (w:World) (hm:Mem (Cx.mk D j true) M A z S q w) (h0:isT (Cx.mk D j true) q.pos 1 zC=false) (h1:isT (Cx.mk D j true) q.pos 1 zT=false) (h2:isT (Cx.mk D j true) q.pos 1 zar=false) (h3:isT (Cx.mk D j true) q.pos 1 za3=true):
  Calls Tryz.prog 21 #[pv (Cx.mk D j true) M A S q (-1) 0] w (Out (Cx.mk D j true) M A z (zy (Cx.mk D j true) q) 0 S w):=by
 have HM:=zc hm
 have N:=hm.tok
 have I:(Cx.mk D j true).ts.length≤4000:=hm.few
 clear hm
 have HV:Hid (zy (Cx.mk D j true) q=bd (bd (bd (bd (.ok q) (zd (Cx.mk D j true) 1 za3)) (pE (Cx.mk D j true) .sum 0)) (zd (Cx.mk D j true) 4 cSemi)) (zV (Cx.mk D j true) 5 sNone)):=by show zy (Cx.mk D j true) q=_;rw[zy,h0,h1,h2,h3];rfl
 unfold pv
 go_enter Tryz.func21,Tryz.ntmps21
 go_wp2_with fail
 refine (zh (Cx.mk D j true) M A z S q (-1) 0 1 zC _ (zq (zq N _) _) I (by decide)).mono ?_
 rintro e w1 ⟨rfl,aj⟩
 rw[h0]
 obtain⟨X0,X1,m1,t1⟩:=HM.out.two aj
 have n:=zc X0
 have o:=zc X1
 have V:=zc m1
 have ap:=zc t1
 clear X0 X1 m1 t1 aj
 clear N
 obtain⟨Z,X,a2,a3,a4,Q,O,a7,Y,a9,E,H,U⟩:=n.out.box
 go_wp2_with fail
 refine (zh (Cx.mk D j true) M A z S q (-1) 0 1 zT _ V.out.tok I (by decide)).mono ?_
 rintro e w2 ⟨rfl,J⟩
 rw[h1]
 replace n:=zc (n.out.below J)
 replace o:=zc (o.out.below J)
 have ac:=zc (ap.out.below J)
 have aa:=zc (V.out.later J)
 clear J ap V
 clear Z X a2 a3 a4 Q O a7 Y a9 E H U
 obtain⟨Z,X,a2,a3,a4,Q,O,a7,Y,a9,E,H,U⟩:=n.out.box
 go_wp2_with fail
 refine (zh (Cx.mk D j true) M A z S q (-1) 0 1 zar _ aa.out.tok I (by decide)).mono ?_
 rintro e w3 ⟨rfl,K⟩
 rw[h2]
 replace n:=zc (n.out.below K)
 replace o:=zc (o.out.below K)
 have am:=zc (ac.out.below K)
 have ab:=zc (aa.out.later K)
 clear K ac aa
 clear Z X a2 a3 a4 Q O a7 Y a9 E H U
 obtain⟨Z,X,a2,a3,a4,Q,O,a7,Y,a9,E,H,U⟩:=n.out.box
 go_wp2_with fail
 refine (zh (Cx.mk D j true) M A z S q (-1) 0 1 za3 _ ab.out.tok I (by decide)).mono ?_
 rintro e w4 ⟨rfl,L⟩
 rw[h3]
 replace n:=zc (n.out.below L)
 replace o:=zc (o.out.below L)
 have ai:=zc (am.out.below L)
 have ao:=zc (ab.out.later L)
 clear L am ab
 clear Z X a2 a3 a4 Q O a7 Y a9 E H U
 obtain⟨Z,X,a2,a3,a4,Q,O,a7,Y,a9,E,H,U⟩:=n.out.box
 go_wp2_with fail
 refine (zaH (Cx.mk D j true) M A z (.ok q) S q (-1) 0 za3 _ (zX q) ao.out).mono ?_
 rintro e w5 ⟨S5,q5,z5,rfl,i5,m5,s5⟩
 replace n:=zc (n.out.stp s5)
 replace o:=zc (o.out.stp s5)
 have ag:=zc (ai.out.step s5)
 clear ai
 have ae:=zc m5
 have aq:=zc i5
 clear i5 m5 s5 ao
 clear Z X a2 a3 a4 Q O a7 Y a9 E H U
 go_wp2_with fail
 refine (zcN (Cx.mk D j true) M A z _ S5 q5 z5 _ aq.out ae.out).mono ?_
 rintro e w6 ⟨S6,q6,z6,rfl,i6,m6,s6⟩
 replace n:=zc (n.out.stp s6)
 replace o:=zc (o.out.stp s6)
 have ad:=zc (ag.out.step s6)
 clear ag
 have ah:=zc m6
 have av:=zc i6
 clear i6 m6 s6 ae
 go_wp2_with fail
 refine (zad (Cx.mk D j true) M A z _ S6 q6 z6 0 cSemi _ av.out ah.out).mono ?_
 rintro e w7 ⟨S7,q7,z7,rfl,i7,m7,s7⟩
 replace n:=zc (n.out.stp s7)
 replace o:=zc (o.out.stp s7)
 have al:=zc (ad.out.step s7)
 clear ad
 have ak:=zc m7
 have an:=zc i7
 clear i7 m7 s7 ah
 go_wp2_with fail
 refine (zcL (Cx.mk D j true) M A z _ S7 q7 z7 0 5 sNone _ an.out ak.out (zbh an.out)).mono ?_
 rintro e w8 ⟨S8,q8,z8,rfl,i8,m8,s8⟩
 replace n:=zc (n.out.stp s8)
 replace o:=zc (o.out.stp s8)
 have ar:=zc (al.out.step s8)
 clear al
 have aw:=zc m8
 have au:=zc i8
 clear i8 m8 s8 ak
 obtain⟨b0,b1,b2,b3,b4,b5,b6,b7,b8,b9,ay,ax,bf⟩:=o.out.box
 unfold pv
 go_wp2
 refine bodyPost_ret (results_cell_row rfl _ _ (w.heap.size+1) 53 _ (0,0) _ rfl ((o.out.put ..)).heap Tryz.underlying53 rfl (by kernel_rfl)) rfl ?_
 rw[HV.out]
 exact zY rfl au.out (aw.out.put o.out ..) (ar.out.put (by omega) ..)
theorem znN (D:List Tk) (j:Nat) (J A z:Nat) (S:Sv) (q:PS) (w:World) (hm:Mem (Cx.mk D j true) J A z S q w) (h0:isT (Cx.mk D j true) q.pos 1 zC=false) (h1:isT (Cx.mk D j true) q.pos 1 zT=false) (h2:isT (Cx.mk D j true) q.pos 1 zar=false) (h3:isT (Cx.mk D j true) q.pos 1 za3=false) (h4:isT (Cx.mk D j true) q.pos 1 zbA=true):
  Calls Tryz.prog 21 #[pv (Cx.mk D j true) J A S q (-1) 0] w (Out (Cx.mk D j true) J A z (zy (Cx.mk D j true) q) 0 S w):=by
 have HM:=zc hm
 have aa:=hm.tok
 have I:(Cx.mk D j true).ts.length≤4000:=hm.few
 clear hm
 have HV:Hid (zy (Cx.mk D j true) q=bd (bd (bd (bd (.ok q) (zd (Cx.mk D j true) 1 zbA)) (pE (Cx.mk D j true) .sum 0)) (zd (Cx.mk D j true) 4 cSemi)) (zV (Cx.mk D j true) 6 sNone)):=by show zy (Cx.mk D j true) q=_;rw[zy,h0,h1,h2,h3,h4];rfl
 unfold pv
 go_enter Tryz.func21,Tryz.ntmps21
 go_wp2_with fail
 refine (zh (Cx.mk D j true) J A z S q (-1) 0 1 zC _ (zq (zq aa _) _) I (by decide)).mono ?_
 rintro e w1 ⟨rfl,ao⟩
 rw[h0]
 obtain⟨X0,X1,m1,t1⟩:=HM.out.two ao
 have n:=zc X0
 have o:=zc X1
 have ab:=zc m1
 have av:=zc t1
 clear X0 X1 m1 t1 ao
 clear aa
 obtain⟨Y,V,Z,a3,a4,Q,O,a7,X,a9,E,H,U⟩:=n.out.box
 go_wp2_with fail
 refine (zh (Cx.mk D j true) J A z S q (-1) 0 1 zT _ ab.out.tok I (by decide)).mono ?_
 rintro e w2 ⟨rfl,K⟩
 rw[h1]
 replace n:=zc (n.out.below K)
 replace o:=zc (o.out.below K)
 have ag:=zc (av.out.below K)
 have ac:=zc (ab.out.later K)
 clear K av ab
 clear Y V Z a3 a4 Q O a7 X a9 E H U
 obtain⟨Y,V,Z,a3,a4,Q,O,a7,X,a9,E,H,U⟩:=n.out.box
 go_wp2_with fail
 refine (zh (Cx.mk D j true) J A z S q (-1) 0 1 zar _ ac.out.tok I (by decide)).mono ?_
 rintro e w3 ⟨rfl,M⟩
 rw[h2]
 replace n:=zc (n.out.below M)
 replace o:=zc (o.out.below M)
 have ar:=zc (ag.out.below M)
 have ad:=zc (ac.out.later M)
 clear M ag ac
 clear Y V Z a3 a4 Q O a7 X a9 E H U
 obtain⟨Y,V,Z,a3,a4,Q,O,a7,X,a9,E,H,U⟩:=n.out.box
 go_wp2_with fail
 refine (zh (Cx.mk D j true) J A z S q (-1) 0 1 za3 _ ad.out.tok I (by decide)).mono ?_
 rintro e w4 ⟨rfl,N⟩
 rw[h3]
 replace n:=zc (n.out.below N)
 replace o:=zc (o.out.below N)
 have an:=zc (ar.out.below N)
 have ae:=zc (ad.out.later N)
 clear N ar ad
 clear Y V Z a3 a4 Q O a7 X a9 E H U
 obtain⟨Y,V,Z,a3,a4,Q,O,a7,X,a9,E,H,U⟩:=n.out.box
 go_wp2_with fail
 refine (zh (Cx.mk D j true) J A z S q (-1) 0 1 zbA _ ae.out.tok I (by decide)).mono ?_
 rintro e w5 ⟨rfl,L⟩
 rw[h4]
 replace n:=zc (n.out.below L)
 replace o:=zc (o.out.below L)
 have ak:=zc (an.out.below L)
 have ai:=zc (ae.out.later L)
 clear L an ae
 clear Y V Z a3 a4 Q O a7 X a9 E H U
 obtain⟨Y,V,Z,a3,a4,Q,O,a7,X,a9,E,H,U⟩:=n.out.box
 go_wp2_with fail
 refine (zaH (Cx.mk D j true) J A z (.ok q) S q (-1) 0 zbA _ (zX q) ai.out).mono ?_
 rintro e w6 ⟨S6,q6,z6,rfl,i6,m6,s6⟩
 replace n:=zc (n.out.stp s6)
 replace o:=zc (o.out.stp s6)
 have ah:=zc (ak.out.step s6)
 clear ak
 have am:=zc m6
 have aw:=zc i6
 clear i6 m6 s6 ai
 clear Y V Z a3 a4 Q O a7 X a9 E H U
 go_wp2_with fail
 refine (zcN (Cx.mk D j true) J A z _ S6 q6 z6 _ aw.out am.out).mono ?_
 rintro e w7 ⟨S7,q7,z7,rfl,i7,m7,s7⟩
 replace n:=zc (n.out.stp s7)
 replace o:=zc (o.out.stp s7)
 have aq:=zc (ah.out.step s7)
 clear ah
 have ap:=zc m7
 have ay:=zc i7
 clear i7 m7 s7 am
 go_wp2_with fail
 refine (zad (Cx.mk D j true) J A z _ S7 q7 z7 0 cSemi _ ay.out ap.out).mono ?_
 rintro e w8 ⟨S8,q8,z8,rfl,i8,m8,s8⟩
 replace n:=zc (n.out.stp s8)
 replace o:=zc (o.out.stp s8)
 have aj:=zc (aq.out.step s8)
 clear aq
 have au:=zc m8
 have al:=zc i8
 clear i8 m8 s8 ap
 go_wp2_with fail
 refine (zcL (Cx.mk D j true) J A z _ S8 q8 z8 0 6 sNone _ al.out au.out (zbh al.out)).mono ?_
 rintro e w9 ⟨S9,q9,z9,rfl,i9,m9,s9⟩
 replace n:=zc (n.out.stp s9)
 replace o:=zc (o.out.stp s9)
 have ax:=zc (aj.out.step s9)
 clear aj
 have aA:=zc m9
 have az:=zc i9
 clear i9 m9 s9 au
 obtain⟨b0,b1,b2,b3,b4,b5,b6,b7,b8,b9,aC,aB,bf⟩:=o.out.box
 unfold pv
 go_wp2
 refine bodyPost_ret (results_cell_row rfl _ _ (w.heap.size+1) 53 _ (0,0) _ rfl ((o.out.put ..)).heap Tryz.underlying53 rfl (by kernel_rfl)) rfl ?_
 rw[HV.out]
 exact zY rfl az.out (aA.out.put o.out ..) (ax.out.put (by omega) ..)
theorem znO (D:List Tk) (j:Nat) (K E A:Nat) (S:Sv) (q:PS) (w:World) (hm:Mem (Cx.mk D j true) K E A S q w) (h0:isT (Cx.mk D j true) q.pos 1 zC=false) (h1:isT (Cx.mk D j true) q.pos 1 zT=false) (h2:isT (Cx.mk D j true) q.pos 1 zar=false) (h3:isT (Cx.mk D j true) q.pos 1 za3=false) (h4:isT (Cx.mk D j true) q.pos 1 zbA=false):
  Calls Tryz.prog 21 #[pv (Cx.mk D j true) K E S q (-1) 0] w (Out (Cx.mk D j true) K E A (zy (Cx.mk D j true) q) 0 S w):=by
 have HM:=zc hm
 have ac:=hm.tok
 have L:(Cx.mk D j true).ts.length≤4000:=hm.few
 clear hm
 have HV:Hid (zy (Cx.mk D j true) q=bd (bd (.ok q) (zj (Cx.mk D j true) false)) fun a=>bd (bd (bd (bd (.ok a.1) (zd (Cx.mk D j true) 4 cEq)) (pE (Cx.mk D j true) .sum 0)) (zd (Cx.mk D j true) 4 cSemi)) (zV (Cx.mk D j true) 3 a.2)):=by show zy (Cx.mk D j true) q=_;rw[zy,h0,h1,h2,h3,h4];rfl
 unfold pv
 go_enter Tryz.func21,Tryz.ntmps21
 go_wp2_with fail
 refine (zh (Cx.mk D j true) K E A S q (-1) 0 1 zC _ (zq (zq ac _) _) L (by decide)).mono ?_
 rintro e w1 ⟨rfl,ax⟩
 rw[h0]
 obtain⟨X0,X1,m1,t1⟩:=HM.out.two ax
 have o:=zc X0
 have z:=zc X1
 have ae:=zc m1
 have aG:=zc t1
 clear X0 X1 m1 t1 ax
 clear ac
 obtain⟨a0,a1,a2,a3,a4,Y,X,a7,a8,a9,H,J,Z⟩:=o.out.box
 go_wp2_with fail
 refine (zh (Cx.mk D j true) K E A S q (-1) 0 1 zT _ ae.out.tok L (by decide)).mono ?_
 rintro e w2 ⟨rfl,M⟩
 rw[h1]
 replace o:=zc (o.out.below M)
 replace z:=zc (z.out.below M)
 have al:=zc (aG.out.below M)
 have ah:=zc (ae.out.later M)
 clear M aG ae
 clear a0 a1 a2 a3 a4 Y X a7 a8 a9 H J Z
 obtain⟨a0,a1,a2,a3,a4,Y,X,a7,a8,a9,H,J,Z⟩:=o.out.box
 go_wp2_with fail
 refine (zh (Cx.mk D j true) K E A S q (-1) 0 1 zar _ ah.out.tok L (by decide)).mono ?_
 rintro e w3 ⟨rfl,O⟩
 rw[h2]
 replace o:=zc (o.out.below O)
 replace z:=zc (z.out.below O)
 have aA:=zc (al.out.below O)
 have ai:=zc (ah.out.later O)
 clear O al ah
 clear a0 a1 a2 a3 a4 Y X a7 a8 a9 H J Z
 obtain⟨a0,a1,a2,a3,a4,Y,X,a7,a8,a9,H,J,Z⟩:=o.out.box
 go_wp2_with fail
 refine (zh (Cx.mk D j true) K E A S q (-1) 0 1 za3 _ ai.out.tok L (by decide)).mono ?_
 rintro e w4 ⟨rfl,Q⟩
 rw[h3]
 replace o:=zc (o.out.below Q)
 replace z:=zc (z.out.below Q)
 have aw:=zc (aA.out.below Q)
 have aj:=zc (ai.out.later Q)
 clear Q aA ai
 clear a0 a1 a2 a3 a4 Y X a7 a8 a9 H J Z
 obtain⟨a0,a1,a2,a3,a4,Y,X,a7,a8,a9,H,J,Z⟩:=o.out.box
 go_wp2_with fail
 refine (zh (Cx.mk D j true) K E A S q (-1) 0 1 zbA _ aj.out.tok L (by decide)).mono ?_
 rintro e w5 ⟨rfl,N⟩
 rw[h4]
 replace o:=zc (o.out.below N)
 replace z:=zc (z.out.below N)
 have au:=zc (aw.out.below N)
 have an:=zc (aj.out.later N)
 clear N aw aj
 clear a0 a1 a2 a3 a4 Y X a7 a8 a9 H J Z
 obtain⟨a0,a1,a2,a3,a4,Y,X,a7,a8,a9,H,J,Z⟩:=o.out.box
 go_wp2_with fail
 refine (zbe (Cx.mk D j true) K E A (.ok q) S q (-1) 0 false _ (zX q) an.out).mono ?_
 rintro e w6 ⟨S6,q6,z6,n6,rfl,i6,m6,s6⟩
 replace o:=zc (o.out.stp s6)
 replace z:=zc (z.out.stp s6)
 have am:=zc (au.out.step s6)
 clear au
 have ag:=zc m6
 have av:=zc i6
 clear i6 m6 s6 an
 clear a0 a1 a2 a3 a4 Y X a7 a8 a9 H J Z
 have aP:w.heap.size+1<w6.heap.size:=z.out.lt
 unfold pv
 go_upto_region 19 with fail
 refine zL (R:=fun W=>Bx K S6 W (w.heap.size) _∧Bx K S6 W (w.heap.size+1) _∧Bx K S6 W (w6.heap.size) _∧Mem (Cx.mk D j true) K E A S6 q6 W∧SB w.heap.size S w S6 W) ⟨(o.out.alloc _),(z.out.alloc _),(Bx.new ag.out _),(ag.out.alloc _),(am.out.alloc _)⟩ ?_
 clear o z am ag
 rintro w7 ⟨X0,X1,X2,m7,t7⟩
 have o:=zc X0
 have z:=zc X1
 have I:=zc X2
 have ay:=zc m7
 have az:=zc t7
 clear m7 t7 X0 X1 X2
 obtain⟨c0,c1,c2,c3,c4,c5,c6,c7,c8,c9,aK,aN,cf⟩:=I.out.box
 go_wp2_with fail
 refine (zad (Cx.mk D j true) K E A _ S6 q6 z6 0 cEq _ av.out.fst ay.out).mono ?_
 rintro e w8 ⟨S8,q8,z8,rfl,i8,m8,s8⟩
 replace o:=zc (o.out.stp s8)
 replace z:=zc (z.out.stp s8)
 replace I:=zc (I.out.stp s8)
 have ap:=zc (az.out.step s8)
 clear az
 have aD:=zc m8
 have aL:=zc i8
 clear i8 m8 s8 ay
 clear c0 c1 c2 c3 c4 c5 c6 c7 c8 c9 aK aN cf
 go_wp2_with fail
 refine (zcN (Cx.mk D j true) K E A _ S8 q8 z8 _ aL.out aD.out).mono ?_
 rintro e w9 ⟨S9,q9,z9,rfl,i9,m9,s9⟩
 replace o:=zc (o.out.stp s9)
 replace z:=zc (z.out.stp s9)
 replace I:=zc (I.out.stp s9)
 have aC:=zc (ap.out.step s9)
 clear ap
 have aH:=zc m9
 have aO:=zc i9
 clear i9 m9 s9 aD
 go_wp2_with fail
 refine (zad (Cx.mk D j true) K E A _ S9 q9 z9 0 cSemi _ aO.out aH.out).mono ?_
 rintro e aU ⟨aJ,aM,aI,rfl,aE,aB,U⟩
 replace o:=zc (o.out.stp U)
 replace z:=zc (z.out.stp U)
 replace I:=zc (I.out.stp U)
 have ab:=zc (aC.out.step U)
 clear aC
 have ad:=zc aB
 have aa:=zc aE
 clear aE aB U aH
 go_wp2_with fail
 refine (zcL (Cx.mk D j true) K E A _ aJ aM aI 0 3 n6 _ aa.out ad.out (zbh aa.out)).mono ?_
 rintro e aW ⟨aQ,aV,aR,rfl,aq,aF,V⟩
 replace o:=zc (o.out.stp V)
 replace z:=zc (z.out.stp V)
 replace I:=zc (I.out.stp V)
 have ao:=zc (ab.out.step V)
 clear ab
 have ak:=zc aF
 have ar:=zc aq
 clear aq aF V ad
 obtain⟨b0,b1,b2,b3,b4,b5,b6,b7,b8,b9,aT,aS,bf⟩:=z.out.box
 unfold pv
 go_wp2
 refine bodyPost_ret (results_cell_row rfl _ _ (w.heap.size+1) 53 _ (0,0) _ rfl ((z.out.put ..)).heap Tryz.underlying53 rfl (by kernel_rfl)) rfl ?_
 rw[HV.out,←av.out.bind (fun q n=>bd (bd (bd (bd (.ok q) (zd (Cx.mk D j true) 4 cEq)) (pE (Cx.mk D j true) .sum 0)) (zd (Cx.mk D j true) 4 cSemi)) (zV (Cx.mk D j true) 3 n)),←ziP]
 exact zY rfl ar.out (ak.out.put z.out ..) (ao.out.put (by omega) ..)
theorem znP (z:List Tk) (j:Nat) (A o n:Nat) (S:Sv) (q:PS) (w:World) (E:Mem (Cx.mk z j true) A o n S q w):
  Calls Tryz.prog 21 #[pv (Cx.mk z j true) A o S q (-1) 0] w (Out (Cx.mk z j true) A o n (zy (Cx.mk z j true) q) 0 S w):=by
 cases D:isT (Cx.mk z j true) q.pos 1 zC with
 |true=>exact znJ z j A o n S q w E D
 |false=>
  cases H:isT (Cx.mk z j true) q.pos 1 zT with
  |true=>exact znK z j A o n S q w E D H
  |false=>
   cases I:isT (Cx.mk z j true) q.pos 1 zar with
   |true=>exact znL z j A o n S q w E D H I
   |false=>
    cases J:isT (Cx.mk z j true) q.pos 1 za3 with
    |true=>exact znM z j A o n S q w E D H I J
    |false=>
     cases K:isT (Cx.mk z j true) q.pos 1 zbA with
     |true=>exact znN z j A o n S q w E D H I J K
     |false=>
      exact znO z j A o n S q w E D H I J K
end Go.Proofs.YticdggnnpjachaaGreat
