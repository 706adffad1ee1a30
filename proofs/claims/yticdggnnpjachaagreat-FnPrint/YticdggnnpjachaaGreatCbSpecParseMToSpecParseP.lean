/-
  What spec's l4Import answers: the walks.
  What spec's l4Export answers: the walks.
  What spec's l4Export answers to a list of names: the walks.
  What spec's l4Item answers: the walks.
-/
import Derived.Test.YticdggnnpjachaaGreatCbSpecRowToSpecParseK
namespace Go.Proofs.YticdggnnpjachaaGreat
set_option maxRecDepth 100000
set_option maxHeartbeats 6400000
open Go.RowKit Go.PlainAid
theorem zcO {C:Cx} {k:Int} {s:ByteArray} {q n:PS} {j:Int} (h:Is (bd (.ok q) (zd C k s)) n j) (o:isT C q.pos k s=true):n=adv q∧j= -1:=by
 rw[zz,zd,if_pos o] at h
 exact h
theorem zeR {α:Type} (f:α→PS→PR) (l:List α) (e:Nat):zP f l (.error e)= .error e:=by
 induction l with
 |nil=>rfl
 |cons a l j=>exact j
theorem zf7 {α:Type} (f:α→PS→PR) (l:List α) (x:PR) {k:Nat} (j:k<l.length):zP f (l.drop k) x=zP f (l.drop (k+1)) (bd x (f (l[k]))):=by
 rw[List.drop_eq_getElem_cons j]
 rfl
theorem ziL {C:Cx} {j:PRN} {J H:PS} {I K:Int} {z o:ByteArray} {G:ByteArray→ByteArray→PS→PR} (D:Is2 j J I z) (n:Is2 (bd (bd (zaK j) (zd C 1 zU)) (zH C)) H K o):
  bd (bd (zaK (bd (bd (zaK j) (zd C 1 zU)) (zH C))) (zd C 4 cSemi)) (G o z)=bd j fun a=>bd (zaR C (zaE C (.ok a.1))) fun b=>G b.2 a.2 b.1:=by
 cases j with
 |error e=>rfl
 |ok a=>
  obtain⟨_,_,rfl⟩:=D
  have E:bd (bd (zaK (.ok a)) (zd C 1 zU)) (zH C)=zaE C (.ok a.1):=rfl
  rw[E] at n ⊢
  rw[zz]
  cases A:zaE C (.ok a.1) with
  |error e=>rfl
  |ok b=>
   rw[A] at n
   obtain⟨_,_,rfl⟩:=n
   show bd (zd C 4 cSemi b.1) (G b.2 a.2)=bd (bd (zd C 4 cSemi b.1) fun q=>.ok (q,b.2)) fun b=>G b.2 a.2 b.1
   rw[zM]
   rfl
def zeS (y:PRL):PR:=bd y fun a=>.ok a.1
theorem Is3.fst {y:PRL} {q:PS} {z:Int} {l:List Ep} (h:Is3 y q z l):Is (zeS y) q z:=by
 cases y with
 |ok a=>exact⟨h.1,h.2.1⟩
 |error e=>exact h
theorem zgI {C:Cx} {y:PRL} {I E:PS} {H J:Int} {l:List Ep} {n:ByteArray} {G:ByteArray→Ep→PS→PR} (z:Is3 y I H l) (j:Is2 (bd (bd (zeS y) (zd C 1 zU)) (zH C)) E J n):
  zP (G n) l (bd (zaK (bd (bd (zeS y) (zd C 1 zU)) (zH C))) (zd C 4 cSemi))=bd y fun a=>bd (zaR C (zaE C (.ok a.1))) fun b=>zP (G b.2) a.2 (.ok b.1):=by
 cases y with
 |error e=>exact zeR _ _ _
 |ok a=>
  obtain⟨_,_,rfl⟩:=z
  have A:bd (bd (zeS (.ok a)) (zd C 1 zU)) (zH C)=zaE C (.ok a.1):=rfl
  rw[A] at j ⊢
  rw[zz]
  cases o:zaE C (.ok a.1) with
  |error e=>exact zeR _ _ _
  |ok b=>
   rw[o] at j
   obtain⟨_,_,rfl⟩:=j
   show zP (G b.2) a.2 (bd (zaK (.ok b)) (zd C 4 cSemi))=bd (bd (zd C 4 cSemi b.1) fun q=>.ok (q,b.2)) fun b=>zP (G b.2) a.2 (.ok b.1)
   have D:bd (zaK (.ok b)) (zd C 4 cSemi)=zd C 4 cSemi b.1:=rfl
   rw[D,zM]
   cases zd C 4 cSemi b.1 with
   |error e=>exact zeR _ _ _
   |ok c=>rfl
theorem Mem.drew {C:Cx} {o n j:Nat} {S:Sv} {q:PS} {w:World} (h:Mem C o n j S q w):Mem C o n j S q w.drew:=⟨⟨h.own.rq,h.own.im,h.own.ep,h.own.st,h.own.ex,h.own.la,h.own.apart⟩,h.inv,h.tok,h.few,h.base⟩
theorem Stp.undrew {S j:Sv} {w n:World} (h:Stp S w.drew j n):Stp S w j n:=⟨h.os,h.tape,h.output,h.size,h.block,h.sub⟩
theorem Row.cells {S:Sv} {w:World} {o B g:Nat} {r:Rw} {l:List Ep} (h:Row S w o B r l) (E:r.a=some ⟨g,0,none⟩) {j:Nat} (A:j<l.length):
  w.cell? ⟨g,j*4+1,none⟩=some (.string (l[j]).name)∧w.cell? ⟨g,j*4+2,none⟩=some (.string (l[j]).loc):=by
 have q:=h.own
 unfold OwnR at q
 rw[E] at q
 have n: ∀(l:List Ep) (i c:Nat) (D:c<4) (z:i<l.length),(l.flatMap epL)[i*4+c]? =(epL l[i])[c]?:=by
  intro l
  induction l with
  |nil=>intro i c _ z;simp at z
  |cons x l H=>
   intro i c D z
   match i with
   |0=>
    simp only[List.flatMap_cons,Nat.zero_mul,Nat.zero_add,List.getElem_cons_zero]
    rw[List.getElem?_append_left (by simp[epL];omega)]
   |i+1=>
    simp only[List.flatMap_cons,List.getElem_cons_succ]
    rw[List.getElem?_append_right (by simp[epL];omega)]
    have e:(i+1)*4+c-(epL x).length=i*4+c:=by simp[epL];omega
    rw[e]
    exact H i c D (by simpa using z)
 rw[q.cellAt _ (by omega),q.cellAt _ (by omega)]
 exact⟨n l j 1 (by omega) A,n l j 2 (by omega) A⟩
theorem zn1 {C:Cx} {y:Im} {x:PR} {q q':PS} {z z':Int} (o:z<0→1≤q.pos) (n:Is x q z) (h:Is (bd x (zak C y)) q' z'):z'<0→1≤q'.pos:=by
 intro D
 obtain⟨e,_⟩:=zaC h D
 obtain⟨a,A,j⟩:=zf e
 subst A
 obtain⟨rfl,rfl⟩:=n
 unfold zak at j
 split at j
 ·cases j
 ·cases j
  exact o (by decide)
theorem zgJ {C:Cx} {y:Ep} {x:PR} {q q':PS} {z z':Int} (n:z<0→1≤q.pos) (o:Is x q z) (h:Is (bd x (zo C y)) q' z'):z'<0→1≤q'.pos:=by
 intro D
 obtain⟨e,_⟩:=zaC h D
 obtain⟨a,A,j⟩:=zf e
 subst A
 obtain⟨rfl,rfl⟩:=o
 unfold zo at j
 split at j
 ·cases j
 ·split at j
  ·cases j
   exact n (by decide)
  ·cases j
   exact n (by decide)
theorem zn2 (C:Cx) (D z o:Nat) (S:Sv) (q:PS) (w:World) (hm:Mem C D z o S q w) (hw:isT C q.pos 1 zah=true) (h1:isT C (q.pos+1) 4 zJ=false) (h2:isT C (q.pos+1) 4 zw=true):
  Calls Tryz.prog 70 #[pv C D z S q (-1) 0] w (Out C D z o (zaQ C q) 0 S w):=by
 have HM:=zc hm
 have ab:=hm.few
 clear hm
 have HV:Hid (zaQ C q=bd (bd (bd (bd (.ok (adv q)) (zd C 4 zw)) (zd C 1 sAs)) (zj C false)) fun a=>bd (zaR C (zaE C (.ok a.1))) fun b=>zak C ⟨b.2,zw,a.2⟩ b.1):=by
  show _=_
  rw[zaQ,zd,if_pos hw,zz]
  rw[zx,h1,h2]
  rfl
 unfold pv
 go_enter Tryz.func70,Tryz.ntmps70
 go_wp2_with fail
 refine (zaH C D z o (.ok q) S q (-1) 0 zah _ (zX q) ((HM.out.alloc _).alloc _)).mono ?_
 rintro e w1 ⟨S1,q1,z1,rfl,i1,m1,s1⟩
 obtain⟨V,Q,t1⟩:=HM.out.two2 s1
 have j:=zc V
 have n:=zc Q
 have aD:=zc m1
 have aC:=zc t1
 have aq:=zc i1
 clear V Q i1 m1 t1 s1
 obtain⟨ag,rfl⟩:=zcO aq.out hw
 have HQ:=zc ag
 have al:Hid (q1.pos=q.pos+1):=by show q1.pos=q.pos+1;rw[ag];rfl
 clear ag aq
 obtain⟨a0,a1,a2,a3,a4,a5,a6,a7,a8,a9,H,E,af⟩:=j.out.box
 unfold pv
 go_upto_region 2 with fail
 refine zL (R:=fun W=>Bx D S1 W (w.heap.size) _∧Bx D S1 W (w.heap.size+1) _∧Mem C D z o S1 q1 W∧SB w.heap.size S w S1 W) ⟨(j.out.put ..),(n.out.other (by omega) ..),(aD.out.put j.out ..),(aC.out.put (by omega) ..)⟩ ?_
 clear a0 a1 a2 a3 a4 a5 a6 a7 a8 a9 H E af
 clear j n aC aD
 rintro w2 ⟨V,Q,m2,t2⟩
 have j:=zc V
 have n:=zc Q
 have ai:=zc m2
 have aI:=zc t2
 clear m2 t2 V Q
 obtain⟨a0,a1,a2,a3,a4,a5,a6,a7,a8,a9,H,E,af⟩:=j.out.box
 go_wp2_with fail
 refine (zh C D z o S1 q1 (-1) 0 4 zJ _ ai.out.tok ab (by decide)).mono ?_
 rintro e w3 ⟨rfl,M⟩
 rw[al.out,h1]
 replace j:=zc (j.out.below M)
 replace n:=zc (n.out.below M)
 have ax:=zc (aI.out.below M)
 have ah:=zc (ai.out.later M)
 clear M aI ai
 clear a0 a1 a2 a3 a4 a5 a6 a7 a8 a9 H E af
 obtain⟨a0,a1,a2,a3,a4,a5,a6,a7,a8,a9,H,E,af⟩:=j.out.box
 go_wp2_with fail
 refine (zh C D z o S1 q1 (-1) 0 4 zw _ ah.out.tok ab (by decide)).mono ?_
 rintro e w4 ⟨rfl,O⟩
 rw[al.out,h2]
 replace j:=zc (j.out.below O)
 replace n:=zc (n.out.below O)
 have aM:=zc (ax.out.below O)
 have an:=zc (ah.out.later O)
 clear O ax ah
 clear a0 a1 a2 a3 a4 a5 a6 a7 a8 a9 H E af
 obtain⟨a0,a1,a2,a3,a4,a5,a6,a7,a8,a9,H,E,af⟩:=j.out.box
 clear al
 go_wp2_with fail
 refine (zad C D z o (.ok q1) S1 q1 (-1) 0 zw _ (zX q1) an.out).mono ?_
 rintro e w5 ⟨S5,q5,z5,rfl,i5,m5,s5⟩
 replace j:=zc (j.out.stp s5)
 replace n:=zc (n.out.stp s5)
 have au:=zc (aM.out.step s5)
 clear aM
 have aP:=zc m5
 have bc:=zc i5
 clear i5 m5 s5 an
 clear a0 a1 a2 a3 a4 a5 a6 a7 a8 a9 H E af
 go_wp2_with fail
 refine (zaH C D z o _ S5 q5 z5 0 sAs _ bc.out aP.out).mono ?_
 rintro e w6 ⟨S6,q6,z6,rfl,i6,m6,s6⟩
 replace j:=zc (j.out.stp s6)
 replace n:=zc (n.out.stp s6)
 have aH:=zc (au.out.step s6)
 clear au
 have aN:=zc m6
 have be:=zc i6
 clear i6 m6 s6 aP
 go_wp2_with fail
 refine (zbe C D z o _ S6 q6 z6 0 false _ be.out aN.out).mono ?_
 rintro e w7 ⟨S7,q7,z7,n7,rfl,i7,m7,s7⟩
 replace j:=zc (j.out.stp s7)
 replace n:=zc (n.out.stp s7)
 have aO:=zc (aH.out.step s7)
 clear aH
 have ak:=zc m7
 have aL:=zc i7
 clear i7 m7 s7 aN
 have bi:w.heap.size+1<w7.heap.size:=n.out.lt
 unfold pv
 go_upto_region 13 with fail
 refine zL (R:=fun W=>Bx D S7 W (w.heap.size) _∧Bx D S7 W (w.heap.size+1) _∧Bx D S7 W (w7.heap.size) _∧Mem C D z o S7 q7 W∧SB w.heap.size S w S7 W) ⟨(j.out.alloc _),(n.out.alloc _),(Bx.new ak.out _),(ak.out.alloc _),(aO.out.alloc _)⟩ ?_
 clear j n aO ak
 rintro w8 ⟨V,Q,X2,m8,t8⟩
 have j:=zc V
 have n:=zc Q
 have A:=zc X2
 have ay:=zc m8
 have am:=zc t8
 clear m8 t8 V Q X2
 obtain⟨c0,c1,c2,c3,c4,c5,c6,c7,c8,c9,aW,aY,cf⟩:=A.out.box
 go_wp2_with fail
 refine (zaH C D z o _ S7 q7 z7 0 zU _ aL.out.fst ay.out).mono ?_
 rintro e w9 ⟨S9,q9,z9,rfl,i9,m9,s9⟩
 replace j:=zc (j.out.stp s9)
 replace n:=zc (n.out.stp s9)
 replace A:=zc (A.out.stp s9)
 have aJ:=zc (am.out.step s9)
 clear am
 have az:=zc m9
 have aX:=zc i9
 clear i9 m9 s9 ay
 clear c0 c1 c2 c3 c4 c5 c6 c7 c8 c9 aW aY cf
 go_wp2_with fail
 refine (zdA C D z o _ S9 q9 z9 0 _ aX.out az.out).mono ?_
 rintro e aj ⟨I,aE,aV,aZ,rfl,aw,ar,N⟩
 replace j:=zc (j.out.stp N)
 replace n:=zc (n.out.stp N)
 replace A:=zc (A.out.stp N)
 have aa:=zc (aJ.out.step N)
 clear aJ
 have U:=zc ar
 have ad:=zc aw
 clear aw ar N az
 have bg:w.heap.size+1<aj.heap.size:=n.out.lt
 have aR:w7.heap.size<aj.heap.size:=A.out.lt
 unfold pv
 go_upto_region 14 with fail
 refine zL (R:=fun W=>Bx D I W (w.heap.size) _∧Bx D I W (w.heap.size+1) _∧Bx D I W (w7.heap.size) _∧Bx D I W (aj.heap.size) _∧Mem C D z o I aE W∧SB w.heap.size S w I W) ⟨(j.out.alloc _),(n.out.alloc _),(A.out.alloc _),(Bx.new U.out _),(U.out.alloc _),(aa.out.alloc _)⟩ ?_
 clear j n A aa U
 rintro bn ⟨V,Q,X2,X3,av,ap⟩
 have j:=zc V
 have n:=zc Q
 have A:=zc X2
 have L:=zc X3
 have Z:=zc av
 have ac:=zc ap
 clear av ap V Q X2 X3
 obtain⟨d0,d1,d2,d3,d4,d5,d6,d7,d8,d9,aU,bb,df⟩:=L.out.box
 go_wp2_with fail
 refine (zad C D z o _ I aE aV 0 cSemi _ ad.out.fst Z.out).mono ?_
 rintro e bo ⟨ba,aS,aT,rfl,ao,aG,K⟩
 replace j:=zc (j.out.stp K)
 replace n:=zc (n.out.stp K)
 replace A:=zc (A.out.stp K)
 replace L:=zc (L.out.stp K)
 have X:=zc (ac.out.step K)
 clear ac
 have Y:=zc aG
 have ae:=zc ao
 clear ao aG K Z
 clear d0 d1 d2 d3 d4 d5 d6 d7 d8 d9 aU bb df
 go_wp2_with fail
 refine (zg0 C D z o _ ba aS aT 0 ⟨aZ,zw,n7⟩ _ ae.out Y.out (zbh ae.out)).mono ?_
 rintro e bl ⟨bj,bq,bp,rfl,aQ,aA,J⟩
 replace j:=zc (j.out.stp J)
 replace n:=zc (n.out.stp J)
 replace A:=zc (A.out.stp J)
 replace L:=zc (L.out.stp J)
 have aK:=zc (X.out.step J)
 clear X
 have aF:=zc aA
 have aB:=zc aQ
 clear aQ aA J Y
 obtain⟨b0,b1,b2,b3,b4,b5,b6,b7,b8,b9,bm,bk,bf⟩:=n.out.box
 unfold pv
 go_wp2
 refine bodyPost_ret (results_cell_row rfl _ _ (w.heap.size+1) 53 _ (0,0) _ rfl ((n.out.put ..)).heap Tryz.underlying53 rfl (by kernel_rfl)) rfl ?_
 rw[HV.out,←HQ.out,←ziL (G:=fun b a=>zak C ⟨b,zw,a⟩) aL.out ad.out]
 exact zY rfl aB.out (aF.out.put n.out ..) (aK.out.put (by omega) ..)
theorem zn3 (C:Cx) (D z o:Nat) (S:Sv) (q:PS) (w:World) (hm:Mem C D z o S q w) (hw:isT C q.pos 1 zah=true) (h1:isT C (q.pos+1) 4 zJ=false) (h2:isT C (q.pos+1) 4 zw=false) (h3:zD C (q.pos+1) false=true):
  Calls Tryz.prog 70 #[pv C D z S q (-1) 0] w (Out C D z o (zaQ C q) 0 S w):=by
 have HM:=zc hm
 have U:=hm.few
 clear hm
 have HV:Hid (zaQ C q=bd (bd (.ok (adv q)) (zj C false)) fun a=>bd (zaR C (zaE C (.ok a.1))) fun b=>zak C ⟨b.2,sDefault,a.2⟩ b.1):=by
  show _=_
  rw[zaQ,zd,if_pos hw,zz]
  rw[zx,h1,h2,h3]
  rfl
 unfold pv
 go_enter Tryz.func70,Tryz.ntmps70
 go_wp2_with fail
 refine (zaH C D z o (.ok q) S q (-1) 0 zah _ (zX q) ((HM.out.alloc _).alloc _)).mono ?_
 rintro e w1 ⟨S1,q1,z1,rfl,i1,m1,s1⟩
 obtain⟨Q,O,t1⟩:=HM.out.two2 s1
 have j:=zc Q
 have n:=zc O
 have aB:=zc m1
 have aA:=zc t1
 have ar:=zc i1
 clear Q O i1 m1 t1 s1
 obtain⟨ai,rfl⟩:=zcO ar.out hw
 have HQ:=zc ai
 have aa:Hid (q1.pos=q.pos+1):=by show q1.pos=q.pos+1;rw[ai];rfl
 clear ai ar
 obtain⟨a0,a1,a2,a3,X,a5,Z,a7,V,a9,H,E,Y⟩:=j.out.box
 unfold pv
 go_upto_region 2 with fail
 refine zL (R:=fun W=>Bx D S1 W (w.heap.size) _∧Bx D S1 W (w.heap.size+1) _∧Mem C D z o S1 q1 W∧SB w.heap.size S w S1 W) ⟨(j.out.put ..),(n.out.other (by omega) ..),(aB.out.put j.out ..),(aA.out.put (by omega) ..)⟩ ?_
 clear a0 a1 a2 a3 X a5 Z a7 V a9 H E Y
 clear j n aA aB
 rintro w2 ⟨Q,O,m2,t2⟩
 have j:=zc Q
 have n:=zc O
 have al:=zc m2
 have aF:=zc t2
 clear m2 t2 Q O
 obtain⟨a0,a1,a2,a3,X,a5,Z,a7,V,a9,H,E,Y⟩:=j.out.box
 go_wp2_with fail
 refine (zh C D z o S1 q1 (-1) 0 4 zJ _ al.out.tok U (by decide)).mono ?_
 rintro e w3 ⟨rfl,L⟩
 rw[aa.out,h1]
 replace j:=zc (j.out.below L)
 replace n:=zc (n.out.below L)
 have ax:=zc (aF.out.below L)
 have aj:=zc (al.out.later L)
 clear L aF al
 clear a0 a1 a2 a3 X a5 Z a7 V a9 H E Y
 obtain⟨a0,a1,a2,a3,X,a5,Z,a7,V,a9,H,E,Y⟩:=j.out.box
 go_wp2_with fail
 refine (zh C D z o S1 q1 (-1) 0 4 zw _ aj.out.tok U (by decide)).mono ?_
 rintro e w4 ⟨rfl,N⟩
 rw[aa.out,h2]
 replace j:=zc (j.out.below N)
 replace n:=zc (n.out.below N)
 have aI:=zc (ax.out.below N)
 have ah:=zc (aj.out.later N)
 clear N ax aj
 clear a0 a1 a2 a3 X a5 Z a7 V a9 H E Y
 obtain⟨a0,a1,a2,a3,X,a5,Z,a7,V,a9,H,E,Y⟩:=j.out.box
 go_wp2_with fail
 refine (zfz C D z o S1 q1 (-1) 0 false _ ah.out.tok U).mono ?_
 rintro e w5 ⟨rfl,M⟩
 rw[aa.out,h3]
 replace j:=zc (j.out.below M)
 replace n:=zc (n.out.below M)
 have av:=zc (aI.out.below M)
 have aN:=zc (ah.out.later M)
 clear M aI ah
 clear a0 a1 a2 a3 X a5 Z a7 V a9 H E Y
 obtain⟨a0,a1,a2,a3,X,a5,Z,a7,V,a9,H,E,Y⟩:=j.out.box
 clear aa
 go_wp2_with fail
 refine (zbe C D z o (.ok q1) S1 q1 (-1) 0 false _ (zX q1) aN.out).mono ?_
 rintro e w6 ⟨S6,q6,z6,n6,rfl,i6,m6,s6⟩
 replace j:=zc (j.out.stp s6)
 replace n:=zc (n.out.stp s6)
 have aE:=zc (av.out.step s6)
 clear av
 have am:=zc m6
 have aK:=zc i6
 clear i6 m6 s6 aN
 clear a0 a1 a2 a3 X a5 Z a7 V a9 H E Y
 have aY:w.heap.size+1<w6.heap.size:=n.out.lt
 unfold pv
 go_upto_region 17 with fail
 refine zL (R:=fun W=>Bx D S6 W (w.heap.size) _∧Bx D S6 W (w.heap.size+1) _∧Bx D S6 W (w6.heap.size) _∧Mem C D z o S6 q6 W∧SB w.heap.size S w S6 W) ⟨(j.out.alloc _),(n.out.alloc _),(Bx.new am.out _),(am.out.alloc _),(aE.out.alloc _)⟩ ?_
 clear j n aE am
 rintro w7 ⟨Q,O,X2,m7,t7⟩
 have j:=zc Q
 have n:=zc O
 have A:=zc X2
 have aD:=zc m7
 have aL:=zc t7
 clear m7 t7 Q O X2
 obtain⟨c0,c1,c2,c3,c4,c5,c6,c7,c8,c9,aR,aS,cf⟩:=A.out.box
 go_wp2_with fail
 refine (zaH C D z o _ S6 q6 z6 0 zU _ aK.out.fst aD.out).mono ?_
 rintro e w8 ⟨S8,q8,z8,rfl,i8,m8,s8⟩
 replace j:=zc (j.out.stp s8)
 replace n:=zc (n.out.stp s8)
 replace A:=zc (A.out.stp s8)
 have an:=zc (aL.out.step s8)
 clear aL
 have ay:=zc m8
 have aV:=zc i8
 clear i8 m8 s8 aD
 clear c0 c1 c2 c3 c4 c5 c6 c7 c8 c9 aR aS cf
 go_wp2_with fail
 refine (zdA C D z o _ S8 q8 z8 0 _ aV.out ay.out).mono ?_
 rintro e w9 ⟨S9,q9,z9,n9,rfl,i9,m9,s9⟩
 replace j:=zc (j.out.stp s9)
 replace n:=zc (n.out.stp s9)
 replace A:=zc (A.out.stp s9)
 have aG:=zc (an.out.step s9)
 clear an
 have ak:=zc m9
 have az:=zc i9
 clear i9 m9 s9 ay
 have aX:w.heap.size+1<w9.heap.size:=n.out.lt
 have aO:w6.heap.size<w9.heap.size:=A.out.lt
 unfold pv
 go_upto_region 18 with fail
 refine zL (R:=fun W=>Bx D S9 W (w.heap.size) _∧Bx D S9 W (w.heap.size+1) _∧Bx D S9 W (w6.heap.size) _∧Bx D S9 W (w9.heap.size) _∧Mem C D z o S9 q9 W∧SB w.heap.size S w S9 W) ⟨(j.out.alloc _),(n.out.alloc _),(A.out.alloc _),(Bx.new ak.out _),(ak.out.alloc _),(aG.out.alloc _)⟩ ?_
 clear j n A aG ak
 rintro bg ⟨Q,O,X2,X3,au,aJ⟩
 have j:=zc Q
 have n:=zc O
 have A:=zc X2
 have K:=zc X3
 have ae:=zc au
 have ad:=zc aJ
 clear au aJ Q O X2 X3
 obtain⟨d0,d1,d2,d3,d4,d5,d6,d7,d8,d9,aQ,aW,df⟩:=K.out.box
 go_wp2_with fail
 refine (zad C D z o _ S9 q9 z9 0 cSemi _ az.out.fst ae.out).mono ?_
 rintro e bc ⟨aT,aU,aP,rfl,aH,aw,I⟩
 replace j:=zc (j.out.stp I)
 replace n:=zc (n.out.stp I)
 replace A:=zc (A.out.stp I)
 replace K:=zc (K.out.stp I)
 have ag:=zc (ad.out.step I)
 clear ad
 have ac:=zc aw
 have ab:=zc aH
 clear aH aw I ae
 clear d0 d1 d2 d3 d4 d5 d6 d7 d8 d9 aQ aW df
 go_wp2_with fail
 refine (zg0 C D z o _ aT aU aP 0 ⟨n9,sDefault,n6⟩ _ ab.out ac.out (zbh ab.out)).mono ?_
 rintro e be ⟨bi,bj,ba,rfl,ao,aC,J⟩
 replace j:=zc (j.out.stp J)
 replace n:=zc (n.out.stp J)
 replace A:=zc (A.out.stp J)
 replace K:=zc (K.out.stp J)
 have ap:=zc (ag.out.step J)
 clear ag
 have aq:=zc aC
 have aM:=zc ao
 clear ao aC J ac
 obtain⟨b0,b1,b2,b3,b4,b5,b6,b7,b8,b9,bb,aZ,bf⟩:=n.out.box
 unfold pv
 go_wp2
 refine bodyPost_ret (results_cell_row rfl _ _ (w.heap.size+1) 53 _ (0,0) _ rfl ((n.out.put ..)).heap Tryz.underlying53 rfl (by kernel_rfl)) rfl ?_
 rw[HV.out,←HQ.out,←ziL (G:=fun b a=>zak C ⟨b,sDefault,a⟩) aK.out az.out]
 exact zY rfl aM.out (aq.out.put n.out ..) (ap.out.put (by omega) ..)
theorem zn4 (C:Cx) (E z o:Nat) (S:Sv) (q:PS) (w:World) (hm:Mem C E z o S q w) (hw:isT C q.pos 1 zah=true) (h1:isT C (q.pos+1) 4 zJ=false) (h2:isT C (q.pos+1) 4 zw=false) (h3:zD C (q.pos+1) false=false):
  Calls Tryz.prog 70 #[pv C E z S q (-1) 0] w (Out C E z o (zaQ C q) 0 S w):=by
 have HM:=zc hm
 have K:=hm.few
 clear hm
 have HV:Hid (zaQ C q=bd (bd (.ok (adv q)) (zH C)) fun a=>zd C 4 cSemi a.1):=by
  show _=_
  rw[zaQ,zd,if_pos hw,zz]
  rw[zx,h1,h2,h3]
  rfl
 unfold pv
 go_enter Tryz.func70,Tryz.ntmps70
 go_wp2_with fail
 refine (zaH C E z o (.ok q) S q (-1) 0 zah _ (zX q) ((HM.out.alloc _).alloc _)).mono ?_
 rintro e w1 ⟨S1,q1,z1,rfl,i1,m1,s1⟩
 obtain⟨X0,X1,t1⟩:=HM.out.two2 s1
 have j:=zc X0
 have n:=zc X1
 have al:=zc m1
 have ak:=zc t1
 have ah:=zc i1
 clear X0 X1 i1 m1 t1 s1
 obtain⟨ab,rfl⟩:=zcO ah.out hw
 have HQ:=zc ab
 have Z:Hid (q1.pos=q.pos+1):=by show q1.pos=q.pos+1;rw[ab];rfl
 clear ab ah
 obtain⟨Q,U,X,a3,M,a5,O,V,L,Y,D,A,N⟩:=j.out.box
 unfold pv
 go_upto_region 2 with fail
 refine zL (R:=fun W=>Bx E S1 W (w.heap.size) _∧Bx E S1 W (w.heap.size+1) _∧Mem C E z o S1 q1 W∧SB w.heap.size S w S1 W) ⟨(j.out.put ..),(n.out.other (by omega) ..),(al.out.put j.out ..),(ak.out.put (by omega) ..)⟩ ?_
 clear Q U X a3 M a5 O V L Y D A N
 clear j n ak al
 rintro w2 ⟨X0,X1,m2,t2⟩
 have j:=zc X0
 have n:=zc X1
 have ad:=zc m2
 have ao:=zc t2
 clear m2 t2 X0 X1
 obtain⟨Q,U,X,a3,M,a5,O,V,L,Y,D,A,N⟩:=j.out.box
 go_wp2_with fail
 refine (zh C E z o S1 q1 (-1) 0 4 zJ _ ad.out.tok K (by decide)).mono ?_
 rintro e w3 ⟨rfl,H⟩
 rw[Z.out,h1]
 replace j:=zc (j.out.below H)
 replace n:=zc (n.out.below H)
 have aj:=zc (ao.out.below H)
 have ac:=zc (ad.out.later H)
 clear H ao ad
 clear Q U X a3 M a5 O V L Y D A N
 obtain⟨Q,U,X,a3,M,a5,O,V,L,Y,D,A,N⟩:=j.out.box
 go_wp2_with fail
 refine (zh C E z o S1 q1 (-1) 0 4 zw _ ac.out.tok K (by decide)).mono ?_
 rintro e w4 ⟨rfl,J⟩
 rw[Z.out,h2]
 replace j:=zc (j.out.below J)
 replace n:=zc (n.out.below J)
 have ap:=zc (aj.out.below J)
 have aa:=zc (ac.out.later J)
 clear J aj ac
 clear Q U X a3 M a5 O V L Y D A N
 obtain⟨Q,U,X,a3,M,a5,O,V,L,Y,D,A,N⟩:=j.out.box
 go_wp2_with fail
 refine (zfz C E z o S1 q1 (-1) 0 false _ aa.out.tok K).mono ?_
 rintro e w5 ⟨rfl,I⟩
 rw[Z.out,h3]
 replace j:=zc (j.out.below I)
 replace n:=zc (n.out.below I)
 have ai:=zc (ap.out.below I)
 have au:=zc (aa.out.later I)
 clear I ap aa
 clear Q U X a3 M a5 O V L Y D A N
 obtain⟨Q,U,X,a3,M,a5,O,V,L,Y,D,A,N⟩:=j.out.box
 clear Z
 go_wp2_with fail
 refine (zdA C E z o (.ok q1) S1 q1 (-1) 0 _ (zX q1) au.out).mono ?_
 rintro e w6 ⟨S6,q6,z6,n6,rfl,i6,m6,s6⟩
 replace j:=zc (j.out.stp s6)
 replace n:=zc (n.out.stp s6)
 have an:=zc (ai.out.step s6)
 clear ai
 have ag:=zc m6
 have aq:=zc i6
 clear i6 m6 s6 au
 clear Q U X a3 M a5 O V L Y D A N
 have aA:w.heap.size+1<w6.heap.size:=n.out.lt
 unfold pv
 go_upto_region 20 with fail
 refine zL (R:=fun W=>Bx E S6 W (w.heap.size) _∧Bx E S6 W (w.heap.size+1) _∧Bx E S6 W (w6.heap.size) _∧Mem C E z o S6 q6 W∧SB w.heap.size S w S6 W) ⟨(j.out.alloc _),(n.out.alloc _),(Bx.new ag.out _),(ag.out.alloc _),(an.out.alloc _)⟩ ?_
 clear j n an ag
 rintro w7 ⟨X0,X1,X2,m7,t7⟩
 have j:=zc X0
 have n:=zc X1
 have ae:=zc X2
 have am:=zc m7
 have ar:=zc t7
 clear m7 t7 X0 X1 X2
 obtain⟨c0,c1,c2,c3,c4,c5,c6,c7,c8,c9,ax,ay,cf⟩:=ae.out.box
 go_wp2_with fail
 refine (zad C E z o _ S6 q6 z6 0 cSemi _ aq.out.fst am.out).mono ?_
 rintro e w8 ⟨S8,q8,z8,rfl,i8,m8,s8⟩
 replace j:=zc (j.out.stp s8)
 replace n:=zc (n.out.stp s8)
 replace ae:=zc (ae.out.stp s8)
 have av:=zc (ar.out.step s8)
 clear ar
 have aw:=zc m8
 have az:=zc i8
 clear i8 m8 s8 am
 clear c0 c1 c2 c3 c4 c5 c6 c7 c8 c9 ax ay cf
 obtain⟨b0,b1,b2,b3,b4,b5,b6,b7,b8,b9,aC,aB,bf⟩:=n.out.box
 unfold pv
 go_wp2
 refine bodyPost_ret (results_cell_row rfl _ _ (w.heap.size+1) 53 _ (0,0) _ rfl ((n.out.put ..)).heap Tryz.underlying53 rfl (by kernel_rfl)) rfl ?_
 rw[HV.out,←HQ.out,←aq.out.bind (fun q _=>zd C 4 cSemi q)]
 exact zY rfl az.out (aw.out.put n.out ..) (av.out.put (by omega) ..)
theorem zn5 (C:Cx) (D A o:Nat) (S:Sv) (q:PS) (w:World) (hm:Mem C D A o S q w) (hw:isT C q.pos 1 zah=true) (h1:isT C (q.pos+1) 4 zJ=true):
  Calls Tryz.prog 70 #[pv C D A S q (-1) 0] w (Out C D A o (zaQ C q) 0 S w):=by
 have HM:=zc hm
 have aJ:=hm.few
 clear hm
 have HV:Hid (zaQ C q=bd (zcw C false (adv q)) fun a=>bd (zaR C (zaE C (.ok a.1))) fun b=>zP (fun e=>zak C (zbF b.2 e)) a.2 (.ok b.1)):=by
  show _=_
  rw[zaQ,zd,if_pos hw,zz]
  rw[zx,h1]
  rfl
 unfold pv
 go_enter Tryz.func70,Tryz.ntmps70
 go_wp2_with fail
 refine (zaH C D A o (.ok q) S q (-1) 0 zah _ (zX q) ((HM.out.alloc _).alloc _)).mono ?_
 rintro e w1 ⟨S1,q1,z1,rfl,i1,m1,s1⟩
 obtain⟨O,N,t1⟩:=HM.out.two2 s1
 have n:=zc O
 have z:=zc N
 have aA:=zc m1
 have az:=zc t1
 have ar:=zc i1
 clear O N i1 m1 t1 s1
 obtain⟨ag,rfl⟩:=zcO ar.out hw
 have HQ:=zc ag
 have aM:Hid (q1.pos=q.pos+1):=by show q1.pos=q.pos+1;rw[ag];rfl
 clear ag ar
 obtain⟨a0,a1,a2,a3,a4,a5,a6,a7,a8,a9,J,I,af⟩:=n.out.box
 unfold pv
 go_upto_region 2 with fail
 refine zL (R:=fun W=>Bx D S1 W (w.heap.size) _∧Bx D S1 W (w.heap.size+1) _∧Mem C D A o S1 q1 W∧SB w.heap.size S w S1 W) ⟨(n.out.put ..),(z.out.other (by omega) ..),(aA.out.put n.out ..),(az.out.put (by omega) ..)⟩ ?_
 clear a0 a1 a2 a3 a4 a5 a6 a7 a8 a9 J I af
 clear n z az aA
 rintro w2 ⟨O,N,m2,t2⟩
 have n:=zc O
 have z:=zc N
 have ak:=zc m2
 have aD:=zc t2
 clear m2 t2 O N
 obtain⟨a0,a1,a2,a3,a4,a5,a6,a7,a8,a9,J,I,af⟩:=n.out.box
 go_wp2_with fail
 refine (zh C D A o S1 q1 (-1) 0 4 zJ _ ak.out.tok aJ (by decide)).mono ?_
 rintro e w3 ⟨rfl,Y⟩
 rw[aM.out,h1]
 replace n:=zc (n.out.below Y)
 replace z:=zc (z.out.below Y)
 have ai:=zc (aD.out.below Y)
 have au:=zc (ak.out.later Y)
 clear Y aD ak
 clear a0 a1 a2 a3 a4 a5 a6 a7 a8 a9 J I af
 obtain⟨a0,a1,a2,a3,a4,a5,a6,a7,a8,a9,J,I,af⟩:=n.out.box
 clear aM
 have aV:=ai.out.size
 go_wp2_with fail
 refine (zi7 C D A o S1 q1 0 false _ au.out).mono ?_
 rintro e w4 ⟨S4,q4,z4,⟨ra,rc⟩,l,rfl,i4,m4,s4,R0,hl⟩
 obtain⟨g,rfl⟩: ∃g,ra=some ⟨g,0,none⟩:=R0.addr
 replace n:=zc (n.out.stp s4)
 replace z:=zc (z.out.stp s4)
 have aG:=zc (ai.out.step s4)
 clear ai
 have ae:=zc m4
 have ao:=zc i4
 clear i4 m4 s4 au
 clear a0 a1 a2 a3 a4 a5 a6 a7 a8 a9 J I af
 have H:Hid (Row S4 w4 o w.heap.size ⟨some ⟨g,0,none⟩,rc⟩ l):=⟨R0.own,R0.free,fun k hk=>Nat.le_trans aV (R0.new k hk),R0.addr⟩
 clear R0
 have aZ:w.heap.size+1<w4.heap.size:=z.out.lt
 unfold pv
 go_upto_region 4 with fail
 refine zL (R:=fun W=>Bx D S4 W (w.heap.size) _∧Bx D S4 W (w.heap.size+1) _∧Bx D S4 W (w4.heap.size) _∧Row S4 W o w.heap.size ⟨some ⟨g,0,none⟩,rc⟩ l∧Mem C D A o S4 q4 W∧SB w.heap.size S w S4 W) ⟨(n.out.alloc _),(z.out.alloc _),(Bx.new ae.out _),(H.out.alloc _),(ae.out.alloc _),(aG.out.alloc _)⟩ ?_
 clear n z aG ae
 clear H
 rintro w5 ⟨O,N,X2,R0,m5,t5⟩
 have H:=zc R0
 clear R0
 have n:=zc O
 have z:=zc N
 have E:=zc X2
 have aO:=zc m5
 have av:=zc t5
 clear m5 t5 O N X2
 obtain⟨c0,c1,c2,c3,c4,c5,c6,c7,c8,c9,aR,aT,cf⟩:=E.out.box
 go_wp2_with fail
 refine (zaH C D A o _ S4 q4 z4 0 zU _ ao.out.fst aO.out).mono ?_
 rintro e w6 ⟨S6,q6,z6,rfl,i6,m6,s6⟩
 replace n:=zc (n.out.stp s6)
 replace z:=zc (z.out.stp s6)
 replace E:=zc (E.out.stp s6)
 have aC:=zc (av.out.step s6)
 have M:Hid (Row S6 w6 o w.heap.size ⟨some ⟨g,0,none⟩,rc⟩ l):=H.out.stp s6
 clear H
 have H:=zc M
 clear M
 clear av
 have aH:=zc m6
 have aW:=zc i6
 clear i6 m6 s6 aO
 clear c0 c1 c2 c3 c4 c5 c6 c7 c8 c9 aR aT cf
 go_wp2_with fail
 refine (zdA C D A o _ S6 q6 z6 0 _ aW.out aH.out).mono ?_
 rintro e w7 ⟨S7,q7,z7,n7,rfl,i7,m7,s7⟩
 replace n:=zc (n.out.stp s7)
 replace z:=zc (z.out.stp s7)
 replace E:=zc (E.out.stp s7)
 have aL:=zc (aC.out.step s7)
 have M:Hid (Row S7 w7 o w.heap.size ⟨some ⟨g,0,none⟩,rc⟩ l):=H.out.stp s7
 clear H
 have H:=zc M
 clear M
 clear aC
 have al:=zc m7
 have aF:=zc i7
 clear i7 m7 s7 aH
 have aY:w.heap.size+1<w7.heap.size:=z.out.lt
 have aP:w4.heap.size<w7.heap.size:=E.out.lt
 unfold pv
 go_upto_region 5 with fail
 refine zL (R:=fun W=>Bx D S7 W (w.heap.size) _∧Bx D S7 W (w.heap.size+1) _∧Bx D S7 W (w4.heap.size) _∧Bx D S7 W (w7.heap.size) _∧Row S7 W o w.heap.size ⟨some ⟨g,0,none⟩,rc⟩ l∧Mem C D A o S7 q7 W∧SB w.heap.size S w S7 W) ⟨(n.out.alloc _),(z.out.alloc _),(E.out.alloc _),(Bx.new al.out _),(H.out.alloc _),(al.out.alloc _),(aL.out.alloc _)⟩ ?_
 clear n z E aL al
 clear H
 rintro w8 ⟨O,N,X2,X3,R0,m8,t8⟩
 have H:=zc R0
 clear R0
 have n:=zc O
 have z:=zc N
 have E:=zc X2
 have Q:=zc X3
 have ay:=zc m8
 have an:=zc t8
 clear m8 t8 O N X2 X3
 obtain⟨d0,d1,d2,d3,d4,d5,d6,d7,d8,d9,ah,am,df⟩:=Q.out.box
 go_wp2_with fail
 refine (zad C D A o _ S7 q7 z7 0 cSemi _ aF.out.fst ay.out).mono ?_
 rintro e w9 ⟨X,q9,z9,rfl,i9,m9,s9⟩
 replace n:=zc (n.out.stp s9)
 replace z:=zc (z.out.stp s9)
 replace E:=zc (E.out.stp s9)
 replace Q:=zc (Q.out.stp s9)
 have ab:=zc (an.out.step s9)
 have M:Hid (Row X w9 o w.heap.size ⟨some ⟨g,0,none⟩,rc⟩ l):=H.out.stp s9
 clear H
 have H:=zc M
 clear M
 clear an
 have aa:=zc m9
 have V:=zc i9
 clear i9 m9 s9 ay
 clear d0 d1 d2 d3 d4 d5 d6 d7 d8 d9 ah am df
 obtain⟨a0,a1,a2,a3,a4,a5,a6,a7,a8,a9,J,I,af⟩:=n.out.box
 unfold pv
 go_upto_region 6 with fail
 refine zL (R:=fun W=>Bx D X W (w.heap.size) _∧Bx D X W (w.heap.size+1) _∧Bx D X W (w4.heap.size) _∧Bx D X W (w7.heap.size) _∧Row X W o w.heap.size ⟨some ⟨g,0,none⟩,rc⟩ l∧Mem C D A o X q9 W∧SB w.heap.size S w X W) ⟨(n.out.put ..),(z.out.other (by omega) ..),(E.out.other (by omega) ..),(Q.out.other (by omega) ..),(H.out.put n.out ..),(aa.out.put n.out ..),(ab.out.put (by omega) ..)⟩ ?_
 clear a0 a1 a2 a3 a4 a5 a6 a7 a8 a9 J I af
 clear n z E Q ab aa
 clear H
 rintro aB ⟨O,N,X2,X3,R0,Z,aI⟩
 have H:=zc R0
 clear R0
 have n:=zc O
 have z:=zc N
 have E:=zc X2
 have Q:=zc X3
 have U:=zc Z
 have ac:=zc aI
 clear Z aI O N X2 X3
 have aU:Hid (_=_):=zgI (G:=fun b e=>zak C (zbF b e)) ao.out aF.out
 go_wp2
 go_loopg [8] l.length (fun k i wr=>∃(j:Nat) (x':PR) (L:Sv) (q':PS) (z':Int),j≤l.length∧i= .int .i64 j∧Is x' q' z'∧(z'<0→1≤q'.pos)∧zP (fun e=>zak C (zbF n7 e)) (l.drop j) x'=zaQ C q∧l.length-j=k∧Mem C D A o L q' wr∧SB w.heap.size S w L wr∧Bx D L wr w.heap.size #[.slice (some ⟨D,0,none⟩) C.ts.length A,.int .i64 q'.pos,.int .i64 C.fin,.bool C.scr,.slice L.rq.a q'.rq.length L.rq.cap,.slice L.im.a q'.im.length L.im.cap,.slice L.ep.a q'.ep.length L.ep.cap,.slice L.st.a q'.st.length L.st.cap,.slice L.ex.a q'.ex.length L.ex.cap,.slice L.la.a q'.la.length L.la.cap,.int .i64 z',.int .i64 0]∧Bx D L wr (w.heap.size+1) #[.slice none 0 0,.int .i64 0,.int .i64 0,.bool false,.slice none 0 0,.slice none 0 0,.slice none 0 0,.slice none 0 0,.slice none 0 0,.slice none 0 0,.int .i64 0,.int .i64 0]∧Row L wr o w.heap.size ⟨some ⟨g,0,none⟩,rc⟩ l)
 case atStart=>exact⟨0,_,X,q9,z9,Nat.zero_le _,rfl,V.out,zbh V.out,by rw[HV.out,←HQ.out];exact aU.out,rfl,U.out,ac.out,n.out,z.out,H.out⟩
 case round=>
  obtain⟨j,x9,X,q9,z9,hj,rfl,i9,p9,e9,g9,m9,t9,O,N,R0⟩:=hrel
  clear n z E Q H U ac
  have n:=zc O
  have z:=zc N
  have aa:=zc m9
  have ab:=zc t9
  have V:=zc i9
  have ap:=zc p9
  have aq:=zc e9
  have aw:=zc g9
  have H:=zc R0
  clear O N i9 m9 t9 e9 g9 R0 p9
  by_cases aK:j<l.length
  ·skip
   obtain⟨c1,c2⟩:=H.out.cells (g:=g) rfl aK
   have ba:=H.out.own.lt (g:=g) rfl
   have HX:Hid (∀e,e=l[j]→zP (fun e=>zak C (zbF n7 e)) (l.drop (j+1)) (bd x9 (zak C (zbF n7 e)))=zaQ C q):=fun e he=>by rw[he,←aq.out];exact (zf7 (fun e=>zak C (zbF n7 e)) l x9 aK).symm
   generalize aE:l[j]=el at c1 c2
   have aX:Hid (el=l[j]):=aE.symm
   clear aE
   obtain⟨a0,a1,a2,a3,a4,a5,a6,a7,a8,a9,J,I,af⟩:=n.out.box
   go_upto_region 9 with fail
   go_region_law (first|(go_simp;go_wp2_with (go_at_call 132;refine (zg0 C D A o x9 X q9 z9 0 (zbF n7 el) _ V.out aa.out.drew ap.out).mono ?_;rintro e aB ⟨aN,aS,aQ,rfl,ax,Z,aj⟩;obtain⟨d0,d1,d2,d3,d4,d5,d6,d7,d8,d9,ah,am,df⟩:=(n.out.stp aj.undrew).box;unfold pv)))
   all_goals
    clear a0 a1 a2 a3 a4 a5 a6 a7 a8 a9 J I af d0 d1 d2 d3 d4 d5 d6 d7 d8 d9 ah am df
    have ad:=zc ax
    have U:=zc Z
    have K:Hid (Stp X wr aN aB):=aj.undrew
    clear ax Z aj
    go_wp2
    go_roundg (gk-1)
    case rel=>exact⟨j+1,_,aN,aS,aQ,by omega,by go_num,ad.out,zn1 ap.out V.out ad.out,HX.out el aX.out,by have:=aw.out;omega,U.out.put (n.out.stp K.out) _ _ _ _ _ _ _ _ _ _ _ _,(ab.out.step K.out).put (by omega) _ _ _ _ _ _ _ _ _ _ _ _,(n.out.stp K.out).put _ _ _ _ _ _ _ _ _ _ _ _,(z.out.stp K.out).other (by omega) _ _ _ _ _ _ _ _ _ _ _ _,(H.out.stp K.out).put (n.out.stp K.out) _ _ _ _ _ _ _ _ _ _ _ _⟩
    case measure=>have:=aw.out;omega
  ·skip
   obtain⟨a0,a1,a2,a3,a4,a5,a6,a7,a8,a9,J,I,af⟩:=n.out.box
   obtain⟨b0,b1,b2,b3,b4,b5,b6,b7,b8,b9,bc,bb,bf⟩:=z.out.box
   go_wp2
   refine bodyPost_ret (results_cell_row rfl _ _ (w.heap.size+1) 53 _ (0,0) _ rfl ((z.out.put ..)).heap Tryz.underlying53 rfl (by kernel_rfl)) rfl ?_
   exact zY rfl (show Is (zaQ C q) q9 z9 from by rw[←aq.out,List.drop_eq_nil_of_le (by omega)];exact V.out) (aa.out.put z.out ..) (ab.out.put (by omega) ..)
theorem zn6 {C:Cx} {k:Int} {n:ByteArray} {q q':PS} (h:zV C k n q= .ok q'):q'={q with st:=q.st++[⟨k,n,(q.ex.length:Int)-1⟩]}∧q.st.length<80:=by
 unfold zV at h
 split at h
 ·cases h
 ·cases h
  exact⟨rfl,by omega⟩
theorem ziM {C:Cx} {x:PR} {k:Int} {s:ByteArray} {j:Int} {n:ByteArray} {q:PS} {z:Int} (h:Is (bd (bd x (zd C k s)) (zV C j n)) q z):z<0→1≤q.pos:=by
 intro E
 obtain⟨e,_⟩:=zaC h E
 obtain⟨a,D,A⟩:=zf e
 obtain⟨b,_,o⟩:=zf D
 obtain⟨rfl,_⟩:=zb4 o
 obtain⟨rfl,_⟩:=zn6 A
 simp[adv]
theorem ziN {C:Cx} {y:PRN} {G:PR→PR} {k:Int} {s:ByteArray} {j:Int} {q:PS} {z:Int} {n:ByteArray} (h:Is2 (withN y fun x n=>bd (bd (G x) (zd C k s)) (zV C j n)) q z n):z<0→1≤q.pos:=by
 intro D
 cases y with
 |error e=>have:z=(e:Int):=h;omega
 |ok a=>
  have o:Is2 (bd (bd (bd (G (.ok a.1)) (zd C k s)) (zV C j a.2)) fun q=>.ok (q,a.2)) q z n:=h
  cases A:bd (bd (G (.ok a.1)) (zd C k s)) (zV C j a.2) with
  |error e=>rw[A] at o;have:z=(e:Int):=o;omega
  |ok b=>
   rw[A] at o
   obtain⟨rfl,rfl,_⟩:=o
   exact ziM (show Is (bd (bd (G (.ok a.1)) (zd C k s)) (zV C j a.2)) q (-1) by rw[A];exact⟨rfl,rfl⟩) (by decide)
theorem zn7 {C:Cx} {j q:PS} {z:Int} {n:ByteArray} (h:Is2 (zcj C j) q z n):z<0→1≤q.pos:=ziN (G:=fun x=>bd (bd x (zd C 4 cEq)) (pE C .sum 0)) h
theorem zn8 {C:Cx} {j q:PS} {z:Int} {n:ByteArray} (h:Is2 (fnP C j) q z n):z<0→1≤q.pos:=ziN (G:=fun x=>bd (bd (bd (bd (bd (bd x (zd C 4 zn)) (zd C 4 za0)) (zd C 4 zJ)) (zd C 1 zdT)) (pE C .sum 0)) (zd C 4 cSemi)) h
theorem zn9 {C:Cx} {x:PR} {D:PS} {z:Int} {n:ByteArray} {G:ByteArray→PS→PR} (j:Is2 (bd (bd x (zd C 1 zU)) (zH C)) D z n):
  bd (bd (zaK (bd (bd x (zd C 1 zU)) (zH C))) (zd C 4 cSemi)) (G n)=bd (zaR C (zaE C x)) fun b=>G b.2 b.1:=by
 have A:bd (bd x (zd C 1 zU)) (zH C)=zaE C x:=rfl
 rw[A] at j ⊢
 cases o:zaE C x with
 |error e=>rfl
 |ok b=>
  rw[o] at j
  obtain⟨_,_,rfl⟩:=j
  show bd (zd C 4 cSemi b.1) (G b.2)=bd (bd (zd C 4 cSemi b.1) fun q=>.ok (q,b.2)) fun b=>G b.2 b.1
  rw[zM]
  rfl
theorem znA {C:Cx} {y:PRL} {n:PS} {j:Int} {l:List Ep} {f:Ep→PS→PR} {D:PS×List Ep→PR} (z:Is3 y n j l) (A:za8 l=false) (o:(decide (j<0)&&isT C n.pos 1 zU)=false):
  zP f l (bd (zeS y) (zd C 4 cSemi))=bd y fun a=>if !za8 a.2&& !isT C a.1.pos 1 zU then bd (zd C 4 cSemi a.1) fun q=>zP f a.2 (.ok q) else D a:=by
 cases y with
 |error e=>exact zeR _ _ _
 |ok a=>
  obtain⟨rfl,rfl,rfl⟩:=z
  rw[Bool.and_eq_false_iff] at o
  rw[zz,A,o.resolve_left (by decide)]
  show zP f a.2 (zd C 4 cSemi a.1)=bd (zd C 4 cSemi a.1) fun q=>zP f a.2 (.ok q)
  cases zd C 4 cSemi a.1 with
  |error e=>exact zeR _ _ _
  |ok c=>rfl
theorem ziO {C:Cx} {y:PRL} {o:PS} {n:Int} {l:List Ep} {D E:PS×List Ep→PR} (q:Is3 y o n l) (j:za8 l=true∨(decide (n<0)&&isT C o.pos 1 zU)=true):
  bd y D=bd y fun a=>if !za8 a.2&& !isT C a.1.pos 1 zU then E a else D a:=by
 cases y with
 |error e=>rfl
 |ok a=>
  obtain⟨rfl,rfl,rfl⟩:=q
  rw[zz,zz]
  rcases j with h|h
  ·rw[h];rfl
  ·rw[Bool.and_eq_true] at h
   rw[h.2,Bool.not_true,Bool.and_false]
   rfl
theorem znB (C:Cx) (A z o:Nat) (S:Sv) (q:PS) (w:World) (hm:Mem C A z o S q w) (hw:isT C q.pos 1 zaf=true) (h1:isT C (q.pos+1) 4 zJ=false) (h2:isT C (q.pos+1) 4 zw=true):
  Calls Tryz.prog 71 #[pv C A z S q (-1) 0] w (Out C A z o (zag C q) 0 S w):=by
 have HM:=zc hm
 have N:=hm.few
 clear hm
 have HV:Hid (zag C q=bd (zaR C (zaE C (bd (.ok (adv q)) (zd C 4 zw)))) fun b=>zo C ⟨3,sNone,sNone,b.2⟩ b.1):=by
  show _=_
  rw[zag,zd,if_pos hw,zz]
  rw[zx,h1,h2]
  rfl
 unfold pv
 go_enter Tryz.func71,Tryz.ntmps71
 go_wp2_with fail
 refine (zaH C A z o (.ok q) S q (-1) 0 zaf _ (zX q) ((HM.out.alloc _).alloc _)).mono ?_
 rintro e w1 ⟨S1,O,z1,rfl,i1,m1,s1⟩
 obtain⟨M,L,t1⟩:=HM.out.two2 s1
 have j:=zc M
 have n:=zc L
 have ao:=zc m1
 have an:=zc t1
 have ae:=zc i1
 clear M L i1 m1 t1 s1
 obtain⟨V,rfl⟩:=zcO ae.out hw
 have HQ:=zc V
 have ab:Hid (O.pos=q.pos+1):=by show O.pos=q.pos+1;rw[V];rfl
 clear V ae
 obtain⟨a0,a1,a2,a3,U,a5,a6,a7,Q,a9,E,D,Y⟩:=j.out.box
 unfold pv
 go_upto_region 2 with fail
 refine zL (R:=fun W=>Bx A S1 W (w.heap.size) _∧Bx A S1 W (w.heap.size+1) _∧Mem C A z o S1 O W∧SB w.heap.size S w S1 W) ⟨(j.out.put ..),(n.out.other (by omega) ..),(ao.out.put j.out ..),(an.out.put (by omega) ..)⟩ ?_
 clear a0 a1 a2 a3 U a5 a6 a7 Q a9 E D Y
 clear j n an ao
 rintro w2 ⟨M,L,m2,t2⟩
 have j:=zc M
 have n:=zc L
 have Z:=zc m2
 have ar:=zc t2
 clear m2 t2 M L
 obtain⟨a0,a1,a2,a3,U,a5,a6,a7,Q,a9,E,D,Y⟩:=j.out.box
 go_wp2_with fail
 refine (zh C A z o S1 O (-1) 0 4 zJ _ Z.out.tok N (by decide)).mono ?_
 rintro e w3 ⟨rfl,H⟩
 rw[ab.out,h1]
 replace j:=zc (j.out.below H)
 replace n:=zc (n.out.below H)
 have aj:=zc (ar.out.below H)
 have X:=zc (Z.out.later H)
 clear H ar Z
 clear a0 a1 a2 a3 U a5 a6 a7 Q a9 E D Y
 obtain⟨a0,a1,a2,a3,U,a5,a6,a7,Q,a9,E,D,Y⟩:=j.out.box
 go_wp2_with fail
 refine (zh C A z o S1 O (-1) 0 4 zw _ X.out.tok N (by decide)).mono ?_
 rintro e w4 ⟨rfl,J⟩
 rw[ab.out,h2]
 replace j:=zc (j.out.below J)
 replace n:=zc (n.out.below J)
 have ax:=zc (aj.out.below J)
 have ad:=zc (X.out.later J)
 clear J aj X
 clear a0 a1 a2 a3 U a5 a6 a7 Q a9 E D Y
 obtain⟨a0,a1,a2,a3,U,a5,a6,a7,Q,a9,E,D,Y⟩:=j.out.box
 clear ab
 go_wp2_with fail
 refine (zad C A z o (.ok O) S1 O (-1) 0 zw _ (zX O) ad.out).mono ?_
 rintro e w5 ⟨S5,q5,z5,rfl,i5,m5,s5⟩
 replace j:=zc (j.out.stp s5)
 replace n:=zc (n.out.stp s5)
 have ah:=zc (ax.out.step s5)
 clear ax
 have aB:=zc m5
 have aE:=zc i5
 clear i5 m5 s5 ad
 clear a0 a1 a2 a3 U a5 a6 a7 Q a9 E D Y
 go_wp2_with fail
 refine (zaH C A z o _ S5 q5 z5 0 zU _ aE.out aB.out).mono ?_
 rintro e w6 ⟨S6,q6,z6,rfl,i6,m6,s6⟩
 replace j:=zc (j.out.stp s6)
 replace n:=zc (n.out.stp s6)
 have aq:=zc (ah.out.step s6)
 clear ah
 have ay:=zc m6
 have aF:=zc i6
 clear i6 m6 s6 aB
 go_wp2_with fail
 refine (zdA C A z o _ S6 q6 z6 0 _ aF.out ay.out).mono ?_
 rintro e w7 ⟨S7,q7,z7,n7,rfl,i7,m7,s7⟩
 replace j:=zc (j.out.stp s7)
 replace n:=zc (n.out.stp s7)
 have az:=zc (aq.out.step s7)
 clear aq
 have aa:=zc m7
 have aw:=zc i7
 clear i7 m7 s7 ay
 have aG:w.heap.size+1<w7.heap.size:=n.out.lt
 unfold pv
 go_upto_region 20 with fail
 refine zL (R:=fun W=>Bx A S7 W (w.heap.size) _∧Bx A S7 W (w.heap.size+1) _∧Bx A S7 W (w7.heap.size) _∧Mem C A z o S7 q7 W∧SB w.heap.size S w S7 W) ⟨(j.out.alloc _),(n.out.alloc _),(Bx.new aa.out _),(aa.out.alloc _),(az.out.alloc _)⟩ ?_
 clear j n az aa
 rintro w8 ⟨M,L,X2,m8,t8⟩
 have j:=zc M
 have n:=zc L
 have K:=zc X2
 have ak:=zc m8
 have ac:=zc t8
 clear m8 t8 M L X2
 obtain⟨c0,c1,c2,c3,c4,c5,c6,c7,c8,c9,aC,aD,cf⟩:=K.out.box
 go_wp2_with fail
 refine (zad C A z o _ S7 q7 z7 0 cSemi _ aw.out.fst ak.out).mono ?_
 rintro e w9 ⟨S9,q9,z9,rfl,i9,m9,s9⟩
 replace j:=zc (j.out.stp s9)
 replace n:=zc (n.out.stp s9)
 replace K:=zc (K.out.stp s9)
 have au:=zc (ac.out.step s9)
 clear ac
 have al:=zc m9
 have am:=zc i9
 clear i9 m9 s9 ak
 clear c0 c1 c2 c3 c4 c5 c6 c7 c8 c9 aC aD cf
 go_wp2_with fail
 refine (zd6 C A z o _ S9 q9 z9 0 ⟨3,sNone,sNone,n7⟩ _ am.out al.out (zbh am.out)).mono ?_
 rintro e aL ⟨aM,aK,aI,rfl,ai,ag,I⟩
 replace j:=zc (j.out.stp I)
 replace n:=zc (n.out.stp I)
 replace K:=zc (K.out.stp I)
 have ap:=zc (au.out.step I)
 clear au
 have av:=zc ag
 have aA:=zc ai
 clear ai ag I al
 obtain⟨b0,b1,b2,b3,b4,b5,b6,b7,b8,b9,aJ,aH,bf⟩:=n.out.box
 unfold pv
 go_wp2
 refine bodyPost_ret (results_cell_row rfl _ _ (w.heap.size+1) 53 _ (0,0) _ rfl ((n.out.put ..)).heap Tryz.underlying53 rfl (by kernel_rfl)) rfl ?_
 rw[HV.out,←HQ.out,←zn9 (G:=fun b=>zo C ⟨3,sNone,sNone,b⟩) aw.out]
 exact zY rfl aA.out (av.out.put n.out ..) (ap.out.put (by omega) ..)
theorem znC (C:Cx) (E z o:Nat) (S:Sv) (q:PS) (w:World) (hm:Mem C E z o S q w) (hw:isT C q.pos 1 zaf=true) (h1:isT C (q.pos+1) 4 zJ=false) (h2:isT C (q.pos+1) 4 zw=false) (h3:isT C (q.pos+1) 1 sDefault=true):
  Calls Tryz.prog 71 #[pv C E z S q (-1) 0] w (Out C E z o (zag C q) 0 S w):=by
 have HM:=zc hm
 have N:=hm.few
 clear hm
 have HV:Hid (zag C q=bd (bd (bd (bd (bd (.ok (adv q)) (zd C 1 sDefault)) (pE C .sum 0)) (zd C 4 cSemi)) (zV C 1 zbN)) (zo C ⟨1,sDefault,zbN,sNone⟩)):=by
  show _=_
  rw[zag,zd,if_pos hw,zz]
  rw[zx,h1,h2,h3]
  rfl
 unfold pv
 go_enter Tryz.func71,Tryz.ntmps71
 go_wp2_with fail
 refine (zaH C E z o (.ok q) S q (-1) 0 zaf _ (zX q) ((HM.out.alloc _).alloc _)).mono ?_
 rintro e w1 ⟨S1,q1,z1,rfl,i1,m1,s1⟩
 obtain⟨X0,X1,t1⟩:=HM.out.two2 s1
 have j:=zc X0
 have n:=zc X1
 have ax:=zc m1
 have aw:=zc t1
 have am:=zc i1
 clear X0 X1 i1 m1 t1 s1
 obtain⟨ag,rfl⟩:=zcO am.out hw
 have HQ:=zc ag
 have aa:Hid (q1.pos=q.pos+1):=by show q1.pos=q.pos+1;rw[ag];rfl
 clear ag am
 obtain⟨X,Y,a2,a3,Q,a5,V,Z,O,a9,D,A,U⟩:=j.out.box
 unfold pv
 go_upto_region 2 with fail
 refine zL (R:=fun W=>Bx E S1 W (w.heap.size) _∧Bx E S1 W (w.heap.size+1) _∧Mem C E z o S1 q1 W∧SB w.heap.size S w S1 W) ⟨(j.out.put ..),(n.out.other (by omega) ..),(ax.out.put j.out ..),(aw.out.put (by omega) ..)⟩ ?_
 clear X Y a2 a3 Q a5 V Z O a9 D A U
 clear j n aw ax
 rintro w2 ⟨X0,X1,m2,t2⟩
 have j:=zc X0
 have n:=zc X1
 have aj:=zc m2
 have aA:=zc t2
 clear m2 t2 X0 X1
 obtain⟨X,Y,a2,a3,Q,a5,V,Z,O,a9,D,A,U⟩:=j.out.box
 go_wp2_with fail
 refine (zh C E z o S1 q1 (-1) 0 4 zJ _ aj.out.tok N (by decide)).mono ?_
 rintro e w3 ⟨rfl,H⟩
 rw[aa.out,h1]
 replace j:=zc (j.out.below H)
 replace n:=zc (n.out.below H)
 have ar:=zc (aA.out.below H)
 have ah:=zc (aj.out.later H)
 clear H aA aj
 clear X Y a2 a3 Q a5 V Z O a9 D A U
 obtain⟨X,Y,a2,a3,Q,a5,V,Z,O,a9,D,A,U⟩:=j.out.box
 go_wp2_with fail
 refine (zh C E z o S1 q1 (-1) 0 4 zw _ ah.out.tok N (by decide)).mono ?_
 rintro e w4 ⟨rfl,L⟩
 rw[aa.out,h2]
 replace j:=zc (j.out.below L)
 replace n:=zc (n.out.below L)
 have aE:=zc (ar.out.below L)
 have ae:=zc (ah.out.later L)
 clear L ar ah
 clear X Y a2 a3 Q a5 V Z O a9 D A U
 obtain⟨X,Y,a2,a3,Q,a5,V,Z,O,a9,D,A,U⟩:=j.out.box
 go_wp2_with fail
 refine (zh C E z o S1 q1 (-1) 0 1 sDefault _ ae.out.tok N (by decide)).mono ?_
 rintro e w5 ⟨rfl,J⟩
 rw[aa.out,h3]
 replace j:=zc (j.out.below J)
 replace n:=zc (n.out.below J)
 have ao:=zc (aE.out.below J)
 have aI:=zc (ae.out.later J)
 clear J aE ae
 clear X Y a2 a3 Q a5 V Z O a9 D A U
 obtain⟨X,Y,a2,a3,Q,a5,V,Z,O,a9,D,A,U⟩:=j.out.box
 clear aa
 go_wp2_with fail
 refine (zaH C E z o (.ok q1) S1 q1 (-1) 0 sDefault _ (zX q1) aI.out).mono ?_
 rintro e w6 ⟨S6,q6,z6,rfl,i6,m6,s6⟩
 replace j:=zc (j.out.stp s6)
 replace n:=zc (n.out.stp s6)
 have az:=zc (ao.out.step s6)
 clear ao
 have aF:=zc m6
 have aO:=zc i6
 clear i6 m6 s6 aI
 clear X Y a2 a3 Q a5 V Z O a9 D A U
 go_wp2_with fail
 refine (zcN C E z o _ S6 q6 z6 _ aO.out aF.out).mono ?_
 rintro e w7 ⟨S7,q7,z7,rfl,i7,m7,s7⟩
 replace j:=zc (j.out.stp s7)
 replace n:=zc (n.out.stp s7)
 have aG:=zc (az.out.step s7)
 clear az
 have ay:=zc m7
 have aN:=zc i7
 clear i7 m7 s7 aF
 go_wp2_with fail
 refine (zad C E z o _ S7 q7 z7 0 cSemi _ aN.out ay.out).mono ?_
 rintro e w8 ⟨S8,q8,z8,rfl,i8,m8,s8⟩
 replace j:=zc (j.out.stp s8)
 replace n:=zc (n.out.stp s8)
 have ak:=zc (aG.out.step s8)
 clear aG
 have ai:=zc m8
 have aD:=zc i8
 clear i8 m8 s8 ay
 have aQ:w.heap.size+1<w8.heap.size:=n.out.lt
 unfold pv
 go_upto_region 23 with fail
 refine zL (R:=fun W=>Bx E S8 W (w.heap.size) _∧Bx E S8 W (w.heap.size+1) _∧Bx E S8 W (w8.heap.size) _∧Mem C E z o S8 q8 W∧SB w.heap.size S w S8 W) ⟨(j.out.alloc _),(n.out.alloc _),(Bx.new ai.out _),(ai.out.alloc _),(ak.out.alloc _)⟩ ?_
 clear j n ak ai
 rintro w9 ⟨X0,X1,X2,m9,t9⟩
 have j:=zc X0
 have n:=zc X1
 have M:=zc X2
 have au:=zc m9
 have aB:=zc t9
 clear m9 t9 X0 X1 X2
 obtain⟨c0,c1,c2,c3,c4,c5,c6,c7,c8,c9,aK,aM,cf⟩:=M.out.box
 go_wp2_with fail
 refine (zcK C E z o _ S8 q8 z8 0 1 zbN _ aD.out au.out (zbh aD.out)).mono ?_
 rintro e aV ⟨aP,aL,aJ,rfl,aq,an,K⟩
 replace j:=zc (j.out.stp K)
 replace n:=zc (n.out.stp K)
 replace M:=zc (M.out.stp K)
 have ab:=zc (aB.out.step K)
 clear aB
 have ac:=zc an
 have ad:=zc aq
 clear aq an K au
 clear c0 c1 c2 c3 c4 c5 c6 c7 c8 c9 aK aM cf
 go_wp2_with fail
 refine (zd6 C E z o _ aP aL aJ 0 ⟨1,sDefault,zbN,sNone⟩ _ ad.out ac.out (ziM ad.out)).mono ?_
 rintro e aU ⟨aW,aX,aS,rfl,aC,ap,I⟩
 replace j:=zc (j.out.stp I)
 replace n:=zc (n.out.stp I)
 replace M:=zc (M.out.stp I)
 have aH:=zc (ab.out.step I)
 clear ab
 have av:=zc ap
 have al:=zc aC
 clear aC ap I ac
 obtain⟨b0,b1,b2,b3,b4,b5,b6,b7,b8,b9,aT,aR,bf⟩:=n.out.box
 unfold pv
 go_wp2
 refine bodyPost_ret (results_cell_row rfl _ _ (w.heap.size+1) 53 _ (0,0) _ rfl ((n.out.put ..)).heap Tryz.underlying53 rfl (by kernel_rfl)) rfl ?_
 rw[HV.out,←HQ.out]
 exact zY rfl al.out (av.out.put n.out ..) (aH.out.put (by omega) ..)
theorem znD (C:Cx) (H A z:Nat) (S:Sv) (q:PS) (w:World) (hm:Mem C H A z S q w) (hw:isT C q.pos 1 zaf=true) (h1:isT C (q.pos+1) 4 zJ=false) (h2:isT C (q.pos+1) 4 zw=false) (h3:isT C (q.pos+1) 1 sDefault=false) (h4:isT C (q.pos+1) 1 zC=true):
  Calls Tryz.prog 71 #[pv C H A S q (-1) 0] w (Out C H A z (zag C q) 0 S w):=by
 have HM:=zc hm
 have I:=hm.few
 clear hm
 have HV:Hid (zag C q=bd (zcj C (adv q)) fun a=>zo C ⟨1,a.2,a.2,sNone⟩ a.1):=by
  show _=_
  rw[zag,zd,if_pos hw,zz]
  rw[zx,h1,h2,h3,h4]
  rfl
 unfold pv
 go_enter Tryz.func71,Tryz.ntmps71
 go_wp2_with fail
 refine (zaH C H A z (.ok q) S q (-1) 0 zaf _ (zX q) ((HM.out.alloc _).alloc _)).mono ?_
 rintro e w1 ⟨S1,q1,z1,rfl,i1,m1,s1⟩
 obtain⟨X0,X1,t1⟩:=HM.out.two2 s1
 have j:=zc X0
 have o:=zc X1
 have aq:=zc m1
 have ap:=zc t1
 have al:=zc i1
 clear X0 X1 i1 m1 t1 s1
 obtain⟨ac,rfl⟩:=zcO al.out hw
 have HQ:=zc ac
 have aa:Hid (q1.pos=q.pos+1):=by show q1.pos=q.pos+1;rw[ac];rfl
 clear ac al
 obtain⟨U,V,Z,a3,M,a5,Q,Y,J,a9,E,D,N⟩:=j.out.box
 unfold pv
 go_upto_region 2 with fail
 refine zL (R:=fun W=>Bx H S1 W (w.heap.size) _∧Bx H S1 W (w.heap.size+1) _∧Mem C H A z S1 q1 W∧SB w.heap.size S w S1 W) ⟨(j.out.put ..),(o.out.other (by omega) ..),(aq.out.put j.out ..),(ap.out.put (by omega) ..)⟩ ?_
 clear U V Z a3 M a5 Q Y J a9 E D N
 clear j o ap aq
 rintro w2 ⟨X0,X1,m2,t2⟩
 have j:=zc X0
 have o:=zc X1
 have ae:=zc m2
 have au:=zc t2
 clear m2 t2 X0 X1
 obtain⟨U,V,Z,a3,M,a5,Q,Y,J,a9,E,D,N⟩:=j.out.box
 go_wp2_with fail
 refine (zh C H A z S1 q1 (-1) 0 4 zJ _ ae.out.tok I (by decide)).mono ?_
 rintro e w3 ⟨rfl,K⟩
 rw[aa.out,h1]
 replace j:=zc (j.out.below K)
 replace o:=zc (o.out.below K)
 have an:=zc (au.out.below K)
 have ad:=zc (ae.out.later K)
 clear K au ae
 clear U V Z a3 M a5 Q Y J a9 E D N
 obtain⟨U,V,Z,a3,M,a5,Q,Y,J,a9,E,D,N⟩:=j.out.box
 go_wp2_with fail
 refine (zh C H A z S1 q1 (-1) 0 4 zw _ ad.out.tok I (by decide)).mono ?_
 rintro e w4 ⟨rfl,O⟩
 rw[aa.out,h2]
 replace j:=zc (j.out.below O)
 replace o:=zc (o.out.below O)
 have av:=zc (an.out.below O)
 have ab:=zc (ad.out.later O)
 clear O an ad
 clear U V Z a3 M a5 Q Y J a9 E D N
 obtain⟨U,V,Z,a3,M,a5,Q,Y,J,a9,E,D,N⟩:=j.out.box
 go_wp2_with fail
 refine (zh C H A z S1 q1 (-1) 0 1 sDefault _ ab.out.tok I (by decide)).mono ?_
 rintro e w5 ⟨rfl,L⟩
 rw[aa.out,h3]
 replace j:=zc (j.out.below L)
 replace o:=zc (o.out.below L)
 have am:=zc (av.out.below L)
 have aj:=zc (ab.out.later L)
 clear L av ab
 clear U V Z a3 M a5 Q Y J a9 E D N
 obtain⟨U,V,Z,a3,M,a5,Q,Y,J,a9,E,D,N⟩:=j.out.box
 go_wp2_with fail
 refine (zh C H A z S1 q1 (-1) 0 1 zC _ aj.out.tok I (by decide)).mono ?_
 rintro e w6 ⟨rfl,X⟩
 rw[aa.out,h4]
 replace j:=zc (j.out.below X)
 replace o:=zc (o.out.below X)
 have ar:=zc (am.out.below X)
 have aw:=zc (aj.out.later X)
 clear X am aj
 clear U V Z a3 M a5 Q Y J a9 E D N
 obtain⟨U,V,Z,a3,M,a5,Q,Y,J,a9,E,D,N⟩:=j.out.box
 clear aa
 go_wp2_with fail
 refine (zgG C H A z S1 q1 _ aw.out).mono ?_
 rintro e w7 ⟨S7,q7,z7,n7,rfl,i7,m7,s7⟩
 replace j:=zc (j.out.stp s7)
 replace o:=zc (o.out.stp s7)
 have ax:=zc (ar.out.step s7)
 clear ar
 have ag:=zc m7
 have ai:=zc i7
 clear i7 m7 s7 aw
 clear U V Z a3 M a5 Q Y J a9 E D N
 have aD:w.heap.size+1<w7.heap.size:=o.out.lt
 unfold pv
 go_upto_region 26 with fail
 refine zL (R:=fun W=>Bx H S7 W (w.heap.size) _∧Bx H S7 W (w.heap.size+1) _∧Bx H S7 W (w7.heap.size) _∧Mem C H A z S7 q7 W∧SB w.heap.size S w S7 W) ⟨(j.out.alloc _),(o.out.alloc _),(Bx.new ag.out _),(ag.out.alloc _),(ax.out.alloc _)⟩ ?_
 clear j o ax ag
 rintro w8 ⟨X0,X1,X2,m8,t8⟩
 have j:=zc X0
 have o:=zc X1
 have ah:=zc X2
 have ao:=zc m8
 have ak:=zc t8
 clear m8 t8 X0 X1 X2
 obtain⟨c0,c1,c2,c3,c4,c5,c6,c7,c8,c9,az,aB,cf⟩:=ah.out.box
 go_wp2_with fail
 refine (zd6 C H A z _ S7 q7 z7 0 ⟨1,n7,n7,sNone⟩ _ ai.out.fst ao.out (zn7 ai.out)).mono ?_
 rintro e w9 ⟨S9,q9,z9,rfl,i9,m9,s9⟩
 replace j:=zc (j.out.stp s9)
 replace o:=zc (o.out.stp s9)
 replace ah:=zc (ah.out.stp s9)
 have aC:=zc (ak.out.step s9)
 clear ak
 have ay:=zc m9
 have aA:=zc i9
 clear i9 m9 s9 ao
 clear c0 c1 c2 c3 c4 c5 c6 c7 c8 c9 az aB cf
 obtain⟨b0,b1,b2,b3,b4,b5,b6,b7,b8,b9,aF,aE,bf⟩:=o.out.box
 unfold pv
 go_wp2
 refine bodyPost_ret (results_cell_row rfl _ _ (w.heap.size+1) 53 _ (0,0) _ rfl ((o.out.put ..)).heap Tryz.underlying53 rfl (by kernel_rfl)) rfl ?_
 rw[HV.out,←HQ.out,←ai.out.bind (fun q n=>zo C ⟨1,n,n,sNone⟩ q)]
 exact zY rfl aA.out (ay.out.put o.out ..) (aC.out.put (by omega) ..)
theorem znE (C:Cx) (H E z:Nat) (S:Sv) (q:PS) (w:World) (hm:Mem C H E z S q w) (hw:isT C q.pos 1 zaf=true) (h1:isT C (q.pos+1) 4 zJ=false) (h2:isT C (q.pos+1) 4 zw=false) (h3:isT C (q.pos+1) 1 sDefault=false) (h4:isT C (q.pos+1) 1 zC=false) (h5:isT C (q.pos+1) 1 zT=true):
  Calls Tryz.prog 71 #[pv C H E S q (-1) 0] w (Out C H E z (zag C q) 0 S w):=by
 have HM:=zc hm
 have I:=hm.few
 clear hm
 have HV:Hid (zag C q=bd (fnP C (adv q)) fun a=>zo C ⟨1,a.2,a.2,sNone⟩ a.1):=by
  show _=_
  rw[zag,zd,if_pos hw,zz]
  rw[zx,h1,h2,h3,h4,h5]
  rfl
 unfold pv
 go_enter Tryz.func71,Tryz.ntmps71
 go_wp2_with fail
 refine (zaH C H E z (.ok q) S q (-1) 0 zaf _ (zX q) ((HM.out.alloc _).alloc _)).mono ?_
 rintro e w1 ⟨S1,q1,z1,rfl,i1,m1,s1⟩
 obtain⟨X0,X1,t1⟩:=HM.out.two2 s1
 have j:=zc X0
 have o:=zc X1
 have aA:=zc m1
 have az:=zc t1
 have ar:=zc i1
 clear X0 X1 i1 m1 t1 s1
 obtain⟨ai,rfl⟩:=zcO ar.out hw
 have HQ:=zc ai
 have X:Hid (q1.pos=q.pos+1):=by show q1.pos=q.pos+1;rw[ai];rfl
 clear ai ar
 obtain⟨N,O,U,Y,K,Z,M,Q,J,V,D,A,L⟩:=j.out.box
 unfold pv
 go_upto_region 2 with fail
 refine zL (R:=fun W=>Bx H S1 W (w.heap.size) _∧Bx H S1 W (w.heap.size+1) _∧Mem C H E z S1 q1 W∧SB w.heap.size S w S1 W) ⟨(j.out.put ..),(o.out.other (by omega) ..),(aA.out.put j.out ..),(az.out.put (by omega) ..)⟩ ?_
 clear N O U Y K Z M Q J V D A L
 clear j o az aA
 rintro w2 ⟨X0,X1,m2,t2⟩
 have j:=zc X0
 have o:=zc X1
 have al:=zc m2
 have aE:=zc t2
 clear m2 t2 X0 X1
 obtain⟨N,O,U,Y,K,Z,M,Q,J,V,D,A,L⟩:=j.out.box
 go_wp2_with fail
 refine (zh C H E z S1 q1 (-1) 0 4 zJ _ al.out.tok I (by decide)).mono ?_
 rintro e w3 ⟨rfl,aa⟩
 rw[X.out,h1]
 replace j:=zc (j.out.below aa)
 replace o:=zc (o.out.below aa)
 have ax:=zc (aE.out.below aa)
 have aj:=zc (al.out.later aa)
 clear aa aE al
 clear N O U Y K Z M Q J V D A L
 obtain⟨N,O,U,Y,K,Z,M,Q,J,V,D,A,L⟩:=j.out.box
 go_wp2_with fail
 refine (zh C H E z S1 q1 (-1) 0 4 zw _ aj.out.tok I (by decide)).mono ?_
 rintro e w4 ⟨rfl,ad⟩
 rw[X.out,h2]
 replace j:=zc (j.out.below ad)
 replace o:=zc (o.out.below ad)
 have aH:=zc (ax.out.below ad)
 have ah:=zc (aj.out.later ad)
 clear ad ax aj
 clear N O U Y K Z M Q J V D A L
 obtain⟨N,O,U,Y,K,Z,M,Q,J,V,D,A,L⟩:=j.out.box
 go_wp2_with fail
 refine (zh C H E z S1 q1 (-1) 0 1 sDefault _ ah.out.tok I (by decide)).mono ?_
 rintro e w5 ⟨rfl,ab⟩
 rw[X.out,h3]
 replace j:=zc (j.out.below ab)
 replace o:=zc (o.out.below ab)
 have av:=zc (aH.out.below ab)
 have ap:=zc (ah.out.later ab)
 clear ab aH ah
 clear N O U Y K Z M Q J V D A L
 obtain⟨N,O,U,Y,K,Z,M,Q,J,V,D,A,L⟩:=j.out.box
 go_wp2_with fail
 refine (zh C H E z S1 q1 (-1) 0 1 zC _ ap.out.tok I (by decide)).mono ?_
 rintro e w6 ⟨rfl,ae⟩
 rw[X.out,h4]
 replace j:=zc (j.out.below ae)
 replace o:=zc (o.out.below ae)
 have aD:=zc (av.out.below ae)
 have ao:=zc (ap.out.later ae)
 clear ae av ap
 clear N O U Y K Z M Q J V D A L
 obtain⟨N,O,U,Y,K,Z,M,Q,J,V,D,A,L⟩:=j.out.box
 go_wp2_with fail
 refine (zh C H E z S1 q1 (-1) 0 1 zT _ ao.out.tok I (by decide)).mono ?_
 rintro e w7 ⟨rfl,ag⟩
 rw[X.out,h5]
 replace j:=zc (j.out.below ag)
 replace o:=zc (o.out.below ag)
 have aI:=zc (aD.out.below ag)
 have aC:=zc (ao.out.later ag)
 clear ag aD ao
 clear N O U Y K Z M Q J V D A L
 obtain⟨N,O,U,Y,K,Z,M,Q,J,V,D,A,L⟩:=j.out.box
 clear X
 go_wp2_with fail
 refine (zgH C H E z S1 q1 _ aC.out).mono ?_
 rintro e w8 ⟨S8,q8,z8,n8,rfl,i8,m8,s8⟩
 replace j:=zc (j.out.stp s8)
 replace o:=zc (o.out.stp s8)
 have aq:=zc (aI.out.step s8)
 clear aI
 have ak:=zc m8
 have an:=zc i8
 clear i8 m8 s8 aC
 clear N O U Y K Z M Q J V D A L
 have aM:w.heap.size+1<w8.heap.size:=o.out.lt
 unfold pv
 go_upto_region 29 with fail
 refine zL (R:=fun W=>Bx H S8 W (w.heap.size) _∧Bx H S8 W (w.heap.size+1) _∧Bx H S8 W (w8.heap.size) _∧Mem C H E z S8 q8 W∧SB w.heap.size S w S8 W) ⟨(j.out.alloc _),(o.out.alloc _),(Bx.new ak.out _),(ak.out.alloc _),(aq.out.alloc _)⟩ ?_
 clear j o aq ak
 rintro w9 ⟨X0,X1,X2,m9,t9⟩
 have j:=zc X0
 have o:=zc X1
 have am:=zc X2
 have ay:=zc m9
 have aF:=zc t9
 clear m9 t9 X0 X1 X2
 obtain⟨c0,c1,c2,c3,c4,c5,c6,c7,c8,c9,aK,aL,cf⟩:=am.out.box
 go_wp2_with fail
 refine (zd6 C H E z _ S8 q8 z8 0 ⟨1,n8,n8,sNone⟩ _ an.out.fst ay.out (zn8 an.out)).mono ?_
 rintro e aR ⟨aS,aQ,aO,rfl,aw,au,ac⟩
 replace j:=zc (j.out.stp ac)
 replace o:=zc (o.out.stp ac)
 replace am:=zc (am.out.stp ac)
 have aB:=zc (aF.out.step ac)
 clear aF
 have aG:=zc au
 have aJ:=zc aw
 clear aw au ac ay
 clear c0 c1 c2 c3 c4 c5 c6 c7 c8 c9 aK aL cf
 obtain⟨b0,b1,b2,b3,b4,b5,b6,b7,b8,b9,aP,aN,bf⟩:=o.out.box
 unfold pv
 go_wp2
 refine bodyPost_ret (results_cell_row rfl _ _ (w.heap.size+1) 53 _ (0,0) _ rfl ((o.out.put ..)).heap Tryz.underlying53 rfl (by kernel_rfl)) rfl ?_
 rw[HV.out,←HQ.out,←an.out.bind (fun q n=>zo C ⟨1,n,n,sNone⟩ q)]
 exact zY rfl aJ.out (aG.out.put o.out ..) (aB.out.put (by omega) ..)
theorem znF (C:Cx) (L D o:Nat) (S:Sv) (q:PS) (w:World) (hm:Mem C L D o S q w) (hw:isT C q.pos 1 zaf=true) (h1:isT C (q.pos+1) 4 zJ=false) (h2:isT C (q.pos+1) 4 zw=false) (h3:isT C (q.pos+1) 1 sDefault=false) (h4:isT C (q.pos+1) 1 zC=false) (h5:isT C (q.pos+1) 1 zT=false):
  Calls Tryz.prog 71 #[pv C L D S q (-1) 0] w (Out C L D o (zag C q) 0 S w):=by
 have HM:=zc hm
 have E:=hm.few
 clear hm
 have HV:Hid (zag C q= .error (zr C (adv q).pos)):=by
  show _=_
  rw[zag,zd,if_pos hw,zz]
  rw[zx,h1,h2,h3,h4,h5]
  rfl
 unfold pv
 go_enter Tryz.func71,Tryz.ntmps71
 go_wp2_with fail
 refine (zaH C L D o (.ok q) S q (-1) 0 zaf _ (zX q) ((HM.out.alloc _).alloc _)).mono ?_
 rintro e w1 ⟨S1,q1,z1,rfl,i1,m1,s1⟩
 obtain⟨X0,X1,t1⟩:=HM.out.two2 s1
 have j:=zc X0
 have n:=zc X1
 have ar:=zc m1
 have aq:=zc t1
 have an:=zc i1
 clear X0 X1 i1 m1 t1 s1
 obtain⟨ah,rfl⟩:=zcO an.out hw
 have HQ:=zc ah
 have V:Hid (q1.pos=q.pos+1):=by show q1.pos=q.pos+1;rw[ah];rfl
 clear ah an
 obtain⟨M,N,Q,X,I,Y,K,O,H,U,A,z,J⟩:=j.out.box
 unfold pv
 go_upto_region 2 with fail
 refine zL (R:=fun W=>Bx L S1 W (w.heap.size) _∧Bx L S1 W (w.heap.size+1) _∧Mem C L D o S1 q1 W∧SB w.heap.size S w S1 W) ⟨(j.out.put ..),(n.out.other (by omega) ..),(ar.out.put j.out ..),(aq.out.put (by omega) ..)⟩ ?_
 clear M N Q X I Y K O H U A z J
 clear j n aq ar
 rintro w2 ⟨X0,X1,m2,t2⟩
 have j:=zc X0
 have n:=zc X1
 have aj:=zc m2
 have av:=zc t2
 clear m2 t2 X0 X1
 obtain⟨M,N,Q,X,I,Y,K,O,H,U,A,z,J⟩:=j.out.box
 go_wp2_with fail
 refine (zh C L D o S1 q1 (-1) 0 4 zJ _ aj.out.tok E (by decide)).mono ?_
 rintro e w3 ⟨rfl,Z⟩
 rw[V.out,h1]
 replace j:=zc (j.out.below Z)
 replace n:=zc (n.out.below Z)
 have ap:=zc (av.out.below Z)
 have ai:=zc (aj.out.later Z)
 clear Z av aj
 clear M N Q X I Y K O H U A z J
 obtain⟨M,N,Q,X,I,Y,K,O,H,U,A,z,J⟩:=j.out.box
 go_wp2_with fail
 refine (zh C L D o S1 q1 (-1) 0 4 zw _ ai.out.tok E (by decide)).mono ?_
 rintro e w4 ⟨rfl,ab⟩
 rw[V.out,h2]
 replace j:=zc (j.out.below ab)
 replace n:=zc (n.out.below ab)
 have aw:=zc (ap.out.below ab)
 have ag:=zc (ai.out.later ab)
 clear ab ap ai
 clear M N Q X I Y K O H U A z J
 obtain⟨M,N,Q,X,I,Y,K,O,H,U,A,z,J⟩:=j.out.box
 go_wp2_with fail
 refine (zh C L D o S1 q1 (-1) 0 1 sDefault _ ag.out.tok E (by decide)).mono ?_
 rintro e w5 ⟨rfl,aa⟩
 rw[V.out,h3]
 replace j:=zc (j.out.below aa)
 replace n:=zc (n.out.below aa)
 have ao:=zc (aw.out.below aa)
 have am:=zc (ag.out.later aa)
 clear aa aw ag
 clear M N Q X I Y K O H U A z J
 obtain⟨M,N,Q,X,I,Y,K,O,H,U,A,z,J⟩:=j.out.box
 go_wp2_with fail
 refine (zh C L D o S1 q1 (-1) 0 1 zC _ am.out.tok E (by decide)).mono ?_
 rintro e w6 ⟨rfl,ad⟩
 rw[V.out,h4]
 replace j:=zc (j.out.below ad)
 replace n:=zc (n.out.below ad)
 have au:=zc (ao.out.below ad)
 have al:=zc (am.out.later ad)
 clear ad ao am
 clear M N Q X I Y K O H U A z J
 obtain⟨M,N,Q,X,I,Y,K,O,H,U,A,z,J⟩:=j.out.box
 go_wp2_with fail
 refine (zh C L D o S1 q1 (-1) 0 1 zT _ al.out.tok E (by decide)).mono ?_
 rintro e w7 ⟨rfl,ae⟩
 rw[V.out,h5]
 replace j:=zc (j.out.below ae)
 replace n:=zc (n.out.below ae)
 have ax:=zc (au.out.below ae)
 have ak:=zc (al.out.later ae)
 clear ae au al
 clear M N Q X I Y K O H U A z J
 obtain⟨M,N,Q,X,I,Y,K,O,H,U,A,z,J⟩:=j.out.box
 clear V
 go_wp2_with fail
 refine (zda C L D o S1 q1 (-1) 0 _ ak.out.tok E).mono ?_
 rintro e w8 ⟨rfl,ac⟩
 replace j:=zc (j.out.below ac)
 replace n:=zc (n.out.below ac)
 have ay:=zc (ax.out.below ac)
 have az:=zc (ak.out.later ac)
 clear ac ax ak
 clear M N Q X I Y K O H U A z J
 obtain⟨b0,b1,b2,b3,b4,b5,b6,b7,b8,b9,aB,aA,bf⟩:=n.out.box
 unfold pv
 go_wp2
 refine bodyPost_ret (results_cell_row rfl _ _ (w.heap.size+1) 53 _ (0,0) _ rfl ((n.out.put ..)).heap Tryz.underlying53 rfl (by kernel_rfl)) rfl ?_
 rw[HV.out,←HQ.out]
 exact zY rfl (show Is (.error (zr C q1.pos)) q1 _ from rfl) (az.out.put n.out ..) (ay.out.put (by omega) ..)
theorem znG (C:Cx) (I E o:Nat) (S:Sv) (q:PS) (w:World) (hm:Mem C I E o S q w) (hw:isT C q.pos 1 zaf=true) (h1:isT C (q.pos+1) 4 zJ=true):
  Calls Tryz.prog 71 #[pv C I E S q (-1) 0] w (Out C I E o (zag C q) 0 S w):=by
 have HM:=zc hm
 have aI:=hm.few
 clear hm
 have HV:Hid (zag C q=bd (zcw C true (adv q)) fun a=>if !za8 a.2&& !isT C a.1.pos 1 zU then bd (zd C 4 cSemi a.1) fun q=>zP (fun e=>zo C (zA e)) a.2 (.ok q) else bd (zaR C (zaE C (.ok a.1))) fun b=>zP (fun e=>zo C (zai b.2 e)) a.2 (.ok b.1)):=by
  show _=_
  rw[zag,zd,if_pos hw,zz]
  rw[zx,h1]
  rfl
 unfold pv
 go_enter Tryz.func71,Tryz.ntmps71
 go_wp2_with fail
 refine (zaH C I E o (.ok q) S q (-1) 0 zaf _ (zX q) ((HM.out.alloc _).alloc _)).mono ?_
 rintro e w1 ⟨S1,q1,z1,rfl,i1,m1,s1⟩
 obtain⟨Y,V,t1⟩:=HM.out.two2 s1
 have n:=zc Y
 have z:=zc V
 have bb:=zc m1
 have ba:=zc t1
 have aV:=zc i1
 clear Y V i1 m1 t1 s1
 obtain⟨aO,rfl⟩:=zcO aV.out hw
 have HQ:=zc aO
 have bj:Hid (q1.pos=q.pos+1):=by show q1.pos=q.pos+1;rw[aO];rfl
 clear aO aV
 obtain⟨a0,a1,a2,a3,a4,a5,a6,a7,a8,a9,M,L,af⟩:=n.out.box
 unfold pv
 go_upto_region 2 with fail
 refine zL (R:=fun W=>Bx I S1 W (w.heap.size) _∧Bx I S1 W (w.heap.size+1) _∧Mem C I E o S1 q1 W∧SB w.heap.size S w S1 W) ⟨(n.out.put ..),(z.out.other (by omega) ..),(bb.out.put n.out ..),(ba.out.put (by omega) ..)⟩ ?_
 clear a0 a1 a2 a3 a4 a5 a6 a7 a8 a9 M L af
 clear n z ba bb
 rintro w2 ⟨Y,V,m2,t2⟩
 have n:=zc Y
 have z:=zc V
 have aQ:=zc m2
 have bc:=zc t2
 clear m2 t2 Y V
 have aR:Hid (zag C q=bd (zcw C true q1) fun a=>if !za8 a.2&& !isT C a.1.pos 1 zU then bd (zd C 4 cSemi a.1) fun q=>zP (fun e=>zo C (zA e)) a.2 (.ok q) else bd (zaR C (zaE C (.ok a.1))) fun b=>zP (fun e=>zo C (zai b.2 e)) a.2 (.ok b.1)):=by show _=_;rw[HQ.out];exact HV.out
 obtain⟨a0,a1,a2,a3,a4,a5,a6,a7,a8,a9,M,L,af⟩:=n.out.box
 go_wp2_with fail
 refine (zh C I E o S1 q1 (-1) 0 4 zJ _ aQ.out.tok aI (by decide)).mono ?_
 rintro e w3 ⟨rfl,aG⟩
 rw[bj.out,h1]
 replace n:=zc (n.out.below aG)
 replace z:=zc (z.out.below aG)
 have aP:=zc (bc.out.below aG)
 have aX:=zc (aQ.out.later aG)
 clear aG bc aQ
 clear a0 a1 a2 a3 a4 a5 a6 a7 a8 a9 M L af
 obtain⟨a0,a1,a2,a3,a4,a5,a6,a7,a8,a9,M,L,af⟩:=n.out.box
 clear bj
 have bk:=aP.out.size
 go_wp2_with fail
 refine (zi7 C I E o S1 q1 0 true _ aX.out).mono ?_
 rintro e w4 ⟨S4,q4,z4,⟨ra,rc⟩,l,rfl,i4,m4,s4,R0,hl⟩
 obtain⟨g,rfl⟩: ∃g,ra=some ⟨g,0,none⟩:=R0.addr
 replace n:=zc (n.out.stp s4)
 replace z:=zc (z.out.stp s4)
 have bg:=zc (aP.out.step s4)
 clear aP
 have aN:=zc m4
 have ao:=zc i4
 clear i4 m4 s4 aX
 clear a0 a1 a2 a3 a4 a5 a6 a7 a8 a9 M L af
 have D:Hid (Row S4 w4 o w.heap.size ⟨some ⟨g,0,none⟩,rc⟩ l):=⟨R0.own,R0.free,fun k hk=>Nat.le_trans bk (R0.new k hk),R0.addr⟩
 clear R0
 have bm:w.heap.size+1<w4.heap.size:=z.out.lt
 unfold pv
 go_upto_region 4 with fail
 refine zL (R:=fun W=>Bx I S4 W (w.heap.size) _∧Bx I S4 W (w.heap.size+1) _∧Bx I S4 W (w4.heap.size) _∧Row S4 W o w.heap.size ⟨some ⟨g,0,none⟩,rc⟩ l∧Mem C I E o S4 q4 W∧SB w.heap.size S w S4 W) ⟨(n.out.alloc _),(z.out.alloc _),(Bx.new aN.out _),(D.out.alloc _),(aN.out.alloc _),(bg.out.alloc _)⟩ ?_
 clear n z bg aN
 clear D
 rintro w5 ⟨Y,V,X2,R0,m5,t5⟩
 have D:=zc R0
 clear R0
 have n:=zc Y
 have z:=zc V
 have A:=zc X2
 have aC:=zc m5
 have aF:=zc t5
 clear m5 t5 Y V X2
 cases hA:za8 l with
 |true=>
  skip
  obtain⟨c0,c1,c2,c3,c4,c5,c6,c7,c8,c9,aj,ak,cf⟩:=A.out.box
  go_wp2_with fail
  refine (zaH C I E o _ S4 q4 z4 0 zU _ ao.out.fst aC.out).mono ?_
  rintro e w6 ⟨S6,q6,z6,rfl,i6,m6,s6⟩
  replace n:=zc (n.out.stp s6)
  replace z:=zc (z.out.stp s6)
  replace A:=zc (A.out.stp s6)
  have ax:=zc (aF.out.step s6)
  have K:Hid (Row S6 w6 o w.heap.size ⟨some ⟨g,0,none⟩,rc⟩ l):=D.out.stp s6
  clear D
  have D:=zc K
  clear K
  clear aF
  have az:=zc m6
  have bl:=zc i6
  clear i6 m6 s6 aC
  clear c0 c1 c2 c3 c4 c5 c6 c7 c8 c9 aj ak cf
  go_wp2_with fail
  refine (zdA C I E o _ S6 q6 z6 0 _ bl.out az.out).mono ?_
  rintro e w7 ⟨S7,q7,z7,n7,rfl,i7,m7,s7⟩
  replace n:=zc (n.out.stp s7)
  replace z:=zc (z.out.stp s7)
  replace A:=zc (A.out.stp s7)
  have aB:=zc (ax.out.step s7)
  have K:Hid (Row S7 w7 o w.heap.size ⟨some ⟨g,0,none⟩,rc⟩ l):=D.out.stp s7
  clear D
  have D:=zc K
  clear K
  clear ax
  have al:=zc m7
  have aE:=zc i7
  clear i7 m7 s7 az
  have aT:w.heap.size+1<w7.heap.size:=z.out.lt
  have aK:w4.heap.size<w7.heap.size:=A.out.lt
  unfold pv
  go_upto_region 12 with fail
  refine zL (R:=fun W=>Bx I S7 W (w.heap.size) _∧Bx I S7 W (w.heap.size+1) _∧Bx I S7 W (w4.heap.size) _∧Bx I S7 W (w7.heap.size) _∧Row S7 W o w.heap.size ⟨some ⟨g,0,none⟩,rc⟩ l∧Mem C I E o S7 q7 W∧SB w.heap.size S w S7 W) ⟨(n.out.alloc _),(z.out.alloc _),(A.out.alloc _),(Bx.new al.out _),(D.out.alloc _),(al.out.alloc _),(aB.out.alloc _)⟩ ?_
  clear n z A aB al
  clear D
  rintro w8 ⟨Y,V,X2,X3,R0,m8,t8⟩
  have D:=zc R0
  clear R0
  have n:=zc Y
  have z:=zc V
  have A:=zc X2
  have Z:=zc X3
  have ai:=zc m8
  have an:=zc t8
  clear m8 t8 Y V X2 X3
  obtain⟨d0,d1,d2,d3,d4,d5,d6,d7,d8,d9,ah,am,df⟩:=Z.out.box
  go_wp2_with fail
  refine (zad C I E o _ S7 q7 z7 0 cSemi _ aE.out.fst ai.out).mono ?_
  rintro e w9 ⟨S9,q9,z9,rfl,i9,m9,s9⟩
  replace n:=zc (n.out.stp s9)
  replace z:=zc (z.out.stp s9)
  replace A:=zc (A.out.stp s9)
  replace Z:=zc (Z.out.stp s9)
  have ae:=zc (an.out.step s9)
  have K:Hid (Row S9 w9 o w.heap.size ⟨some ⟨g,0,none⟩,rc⟩ l):=D.out.stp s9
  clear D
  have D:=zc K
  clear K
  clear an
  have ac:=zc m9
  have ad:=zc i9
  clear i9 m9 s9 ai
  clear d0 d1 d2 d3 d4 d5 d6 d7 d8 d9 ah am df
  obtain⟨a0,a1,a2,a3,a4,a5,a6,a7,a8,a9,M,L,af⟩:=n.out.box
  unfold pv
  go_upto_region 13 with fail
  refine zL (R:=fun W=>Bx I S9 W (w.heap.size) _∧Bx I S9 W (w.heap.size+1) _∧Bx I S9 W (w4.heap.size) _∧Bx I S9 W (w7.heap.size) _∧Row S9 W o w.heap.size ⟨some ⟨g,0,none⟩,rc⟩ l∧Mem C I E o S9 q9 W∧SB w.heap.size S w S9 W) ⟨(n.out.put ..),(z.out.other (by omega) ..),(A.out.other (by omega) ..),(Z.out.other (by omega) ..),(D.out.put n.out ..),(ac.out.put n.out ..),(ae.out.put (by omega) ..)⟩ ?_
  clear a0 a1 a2 a3 a4 a5 a6 a7 a8 a9 M L af
  clear n z A Z ae ac
  clear D
  rintro aw ⟨Y,V,X2,X3,R0,ab,bi⟩
  have D:=zc R0
  clear R0
  have n:=zc Y
  have z:=zc V
  have A:=zc X2
  have Z:=zc X3
  have Q:=zc ab
  have av:=zc bi
  clear ab bi Y V X2 X3
  have aH:Hid (_=zag C q):=(zgI (G:=fun b e=>zo C (zai b e)) ao.out aE.out).trans ((ziO ao.out (.inl hA)).trans aR.out.symm)
  go_wp2
  go_loopg [9] l.length (fun k i wr=>∃(j:Nat) (x':PR) (J:Sv) (X:PS) (z':Int),j≤l.length∧i= .int .i64 j∧Is x' X z'∧(z'<0→1≤X.pos)∧zP (fun e=>zo C (zai n7 e)) (l.drop j) x'=zag C q∧l.length-j=k∧Mem C I E o J X wr∧SB w.heap.size S w J wr∧Bx I J wr w.heap.size #[.slice (some ⟨I,0,none⟩) C.ts.length E,.int .i64 X.pos,.int .i64 C.fin,.bool C.scr,.slice J.rq.a X.rq.length J.rq.cap,.slice J.im.a X.im.length J.im.cap,.slice J.ep.a X.ep.length J.ep.cap,.slice J.st.a X.st.length J.st.cap,.slice J.ex.a X.ex.length J.ex.cap,.slice J.la.a X.la.length J.la.cap,.int .i64 z',.int .i64 0]∧Bx I J wr (w.heap.size+1) #[.slice none 0 0,.int .i64 0,.int .i64 0,.bool false,.slice none 0 0,.slice none 0 0,.slice none 0 0,.slice none 0 0,.slice none 0 0,.slice none 0 0,.int .i64 0,.int .i64 0]∧Row J wr o w.heap.size ⟨some ⟨g,0,none⟩,rc⟩ l)
  case atStart=>exact⟨0,_,S9,q9,z9,Nat.zero_le _,rfl,ad.out,zbh ad.out,aH.out,rfl,Q.out,av.out,n.out,z.out,D.out⟩
  case round=>
   obtain⟨j,x9,S9,q9,z9,hj,rfl,i9,p9,e9,g9,m9,t9,Y,V,R0⟩:=hrel
   clear n z A Z D Q av
   have n:=zc Y
   have z:=zc V
   have ac:=zc m9
   have ae:=zc t9
   have ad:=zc i9
   have ap:=zc p9
   have aq:=zc e9
   have ar:=zc g9
   have D:=zc R0
   clear Y V i9 m9 t9 e9 g9 R0 p9
   by_cases aA:j<l.length
   ·skip
    obtain⟨c1,c2⟩:=D.out.cells (g:=g) rfl aA
    have aS:=D.out.own.lt (g:=g) rfl
    have HX:Hid (∀e,e=l[j]→zP (fun e=>zo C (zai n7 e)) (l.drop (j+1)) (bd x9 (zo C (zai n7 e)))=zag C q):=fun e he=>by rw[he,←aq.out];exact (zf7 (fun e=>zo C (zai n7 e)) l x9 aA).symm
    generalize ay:l[j]=el at c1 c2
    have aJ:Hid (el=l[j]):=ay.symm
    clear ay
    obtain⟨a0,a1,a2,a3,a4,a5,a6,a7,a8,a9,M,L,af⟩:=n.out.box
    go_upto_region 16 with fail
    go_region_law (first|(go_simp;go_wp2_with (go_at_call 134;refine (zd6 C I E o x9 S9 q9 z9 0 (zai n7 el) _ ad.out ac.out.drew ap.out).mono ?_;rintro e aw ⟨O,au,aD,rfl,ag,ab,N⟩;obtain⟨d0,d1,d2,d3,d4,d5,d6,d7,d8,d9,ah,am,df⟩:=(n.out.stp N.undrew).box;unfold pv)))
    all_goals
     clear a0 a1 a2 a3 a4 a5 a6 a7 a8 a9 M L af d0 d1 d2 d3 d4 d5 d6 d7 d8 d9 ah am df
     have U:=zc ag
     have Q:=zc ab
     have H:Hid (Stp S9 wr O aw):=N.undrew
     clear ag ab N
     go_wp2
     go_roundg (gk-1)
     case rel=>exact⟨j+1,_,O,au,aD,by omega,by go_num,U.out,zgJ ap.out ad.out U.out,HX.out el aJ.out,by have:=ar.out;omega,Q.out.put (n.out.stp H.out) _ _ _ _ _ _ _ _ _ _ _ _,(ae.out.step H.out).put (by omega) _ _ _ _ _ _ _ _ _ _ _ _,(n.out.stp H.out).put _ _ _ _ _ _ _ _ _ _ _ _,(z.out.stp H.out).other (by omega) _ _ _ _ _ _ _ _ _ _ _ _,(D.out.stp H.out).put (n.out.stp H.out) _ _ _ _ _ _ _ _ _ _ _ _⟩
     case measure=>have:=ar.out;omega
   ·skip
    obtain⟨a0,a1,a2,a3,a4,a5,a6,a7,a8,a9,M,L,af⟩:=n.out.box
    obtain⟨b0,b1,b2,b3,b4,b5,b6,b7,b8,b9,aZ,aW,bf⟩:=z.out.box
    go_wp2
    refine bodyPost_ret (results_cell_row rfl _ _ (w.heap.size+1) 53 _ (0,0) _ rfl ((z.out.put ..)).heap Tryz.underlying53 rfl (by kernel_rfl)) rfl ?_
    exact zY rfl (show Is (zag C q) q9 z9 from by rw[←aq.out,List.drop_eq_nil_of_le (by omega)];exact ad.out) (ac.out.put z.out ..) (ae.out.put (by omega) ..)
 |false=>
  cases hF:(decide (z4<0)&&isT C q4.pos 1 zU) with
  |true=>
   obtain⟨c0,c1,c2,c3,c4,c5,c6,c7,c8,c9,aj,ak,cf⟩:=A.out.box
   go_wp2_with fail
   refine (zh C I E o S4 q4 z4 0 1 zU _ aC.out.tok aI (by decide)).mono ?_
   rintro e w6 ⟨rfl,aa⟩
   rw[hF]
   replace n:=zc (n.out.below aa)
   replace z:=zc (z.out.below aa)
   replace A:=zc (A.out.below aa)
   have ax:=zc (aF.out.below aa)
   have az:=zc (aC.out.later aa)
   have K:Hid (Row S4 w6 o w.heap.size ⟨some ⟨g,0,none⟩,rc⟩ l):=D.out.below aa
   clear D
   have D:=zc K
   clear K
   clear aa aF aC
   clear c0 c1 c2 c3 c4 c5 c6 c7 c8 c9 aj ak cf
   obtain⟨c0,c1,c2,c3,c4,c5,c6,c7,c8,c9,aj,ak,cf⟩:=A.out.box
   go_wp2_with fail
   refine (zaH C I E o _ S4 q4 z4 0 zU _ ao.out.fst az.out).mono ?_
   rintro e w7 ⟨S7,q7,z7,rfl,i7,m7,s7⟩
   replace n:=zc (n.out.stp s7)
   replace z:=zc (z.out.stp s7)
   replace A:=zc (A.out.stp s7)
   have aB:=zc (ax.out.step s7)
   have K:Hid (Row S7 w7 o w.heap.size ⟨some ⟨g,0,none⟩,rc⟩ l):=D.out.stp s7
   clear D
   have D:=zc K
   clear K
   clear ax
   have al:=zc m7
   have aE:=zc i7
   clear i7 m7 s7 az
   clear c0 c1 c2 c3 c4 c5 c6 c7 c8 c9 aj ak cf
   go_wp2_with fail
   refine (zdA C I E o _ S7 q7 z7 0 _ aE.out al.out).mono ?_
   rintro e w8 ⟨S8,q8,z8,n8,rfl,i8,m8,s8⟩
   replace n:=zc (n.out.stp s8)
   replace z:=zc (z.out.stp s8)
   replace A:=zc (A.out.stp s8)
   have an:=zc (aB.out.step s8)
   have K:Hid (Row S8 w8 o w.heap.size ⟨some ⟨g,0,none⟩,rc⟩ l):=D.out.stp s8
   clear D
   have D:=zc K
   clear K
   clear aB
   have ai:=zc m8
   have be:=zc i8
   clear i8 m8 s8 al
   have aT:w.heap.size+1<w8.heap.size:=z.out.lt
   have aK:w4.heap.size<w8.heap.size:=A.out.lt
   unfold pv
   go_upto_region 12 with fail
   refine zL (R:=fun W=>Bx I S8 W (w.heap.size) _∧Bx I S8 W (w.heap.size+1) _∧Bx I S8 W (w4.heap.size) _∧Bx I S8 W (w8.heap.size) _∧Row S8 W o w.heap.size ⟨some ⟨g,0,none⟩,rc⟩ l∧Mem C I E o S8 q8 W∧SB w.heap.size S w S8 W) ⟨(n.out.alloc _),(z.out.alloc _),(A.out.alloc _),(Bx.new ai.out _),(D.out.alloc _),(ai.out.alloc _),(an.out.alloc _)⟩ ?_
   clear n z A an ai
   clear D
   rintro w9 ⟨Y,V,X2,X3,R0,m9,t9⟩
   have D:=zc R0
   clear R0
   have n:=zc Y
   have z:=zc V
   have A:=zc X2
   have Z:=zc X3
   have ac:=zc m9
   have ae:=zc t9
   clear m9 t9 Y V X2 X3
   obtain⟨d0,d1,d2,d3,d4,d5,d6,d7,d8,d9,ah,am,df⟩:=Z.out.box
   go_wp2_with fail
   refine (zad C I E o _ S8 q8 z8 0 cSemi _ be.out.fst ac.out).mono ?_
   rintro e aw ⟨O,au,aD,rfl,ag,ab,N⟩
   replace n:=zc (n.out.stp N)
   replace z:=zc (z.out.stp N)
   replace A:=zc (A.out.stp N)
   replace Z:=zc (Z.out.stp N)
   have av:=zc (ae.out.step N)
   have K:Hid (Row O aw o w.heap.size ⟨some ⟨g,0,none⟩,rc⟩ l):=D.out.stp N
   clear D
   have D:=zc K
   clear K
   clear ae
   have Q:=zc ab
   have U:=zc ag
   clear ag ab N ac
   clear d0 d1 d2 d3 d4 d5 d6 d7 d8 d9 ah am df
   obtain⟨a0,a1,a2,a3,a4,a5,a6,a7,a8,a9,M,L,af⟩:=n.out.box
   unfold pv
   go_upto_region 13 with fail
   refine zL (R:=fun W=>Bx I O W (w.heap.size) _∧Bx I O W (w.heap.size+1) _∧Bx I O W (w4.heap.size) _∧Bx I O W (w8.heap.size) _∧Row O W o w.heap.size ⟨some ⟨g,0,none⟩,rc⟩ l∧Mem C I E o O au W∧SB w.heap.size S w O W) ⟨(n.out.put ..),(z.out.other (by omega) ..),(A.out.other (by omega) ..),(Z.out.other (by omega) ..),(D.out.put n.out ..),(Q.out.put n.out ..),(av.out.put (by omega) ..)⟩ ?_
   clear a0 a1 a2 a3 a4 a5 a6 a7 a8 a9 M L af
   clear n z A Z av Q
   clear D
   rintro bn ⟨Y,V,X2,X3,R0,aY,aU⟩
   have D:=zc R0
   clear R0
   have n:=zc Y
   have z:=zc V
   have A:=zc X2
   have Z:=zc X3
   have aL:=zc aY
   have aM:=zc aU
   clear aY aU Y V X2 X3
   have aH:Hid (_=zag C q):=(zgI (G:=fun b e=>zo C (zai b e)) ao.out be.out).trans ((ziO ao.out (.inr hF)).trans aR.out.symm)
   go_wp2
   go_loopg [9] l.length (fun k i wr=>∃(j:Nat) (x':PR) (J:Sv) (X:PS) (z':Int),j≤l.length∧i= .int .i64 j∧Is x' X z'∧(z'<0→1≤X.pos)∧zP (fun e=>zo C (zai n8 e)) (l.drop j) x'=zag C q∧l.length-j=k∧Mem C I E o J X wr∧SB w.heap.size S w J wr∧Bx I J wr w.heap.size #[.slice (some ⟨I,0,none⟩) C.ts.length E,.int .i64 X.pos,.int .i64 C.fin,.bool C.scr,.slice J.rq.a X.rq.length J.rq.cap,.slice J.im.a X.im.length J.im.cap,.slice J.ep.a X.ep.length J.ep.cap,.slice J.st.a X.st.length J.st.cap,.slice J.ex.a X.ex.length J.ex.cap,.slice J.la.a X.la.length J.la.cap,.int .i64 z',.int .i64 0]∧Bx I J wr (w.heap.size+1) #[.slice none 0 0,.int .i64 0,.int .i64 0,.bool false,.slice none 0 0,.slice none 0 0,.slice none 0 0,.slice none 0 0,.slice none 0 0,.slice none 0 0,.int .i64 0,.int .i64 0]∧Row J wr o w.heap.size ⟨some ⟨g,0,none⟩,rc⟩ l)
   case atStart=>exact⟨0,_,O,au,aD,Nat.zero_le _,rfl,U.out,zbh U.out,aH.out,rfl,aL.out,aM.out,n.out,z.out,D.out⟩
   case round=>
    obtain⟨j,x9,S9,q9,z9,hj,rfl,i9,p9,e9,g9,m9,t9,Y,V,R0⟩:=hrel
    clear n z A Z D aL aM
    have n:=zc Y
    have z:=zc V
    have ac:=zc m9
    have ae:=zc t9
    have ad:=zc i9
    have ap:=zc p9
    have aq:=zc e9
    have ar:=zc g9
    have D:=zc R0
    clear Y V i9 m9 t9 e9 g9 R0 p9
    by_cases aA:j<l.length
    ·skip
     obtain⟨c1,c2⟩:=D.out.cells (g:=g) rfl aA
     have aS:=D.out.own.lt (g:=g) rfl
     have HX:Hid (∀e,e=l[j]→zP (fun e=>zo C (zai n8 e)) (l.drop (j+1)) (bd x9 (zo C (zai n8 e)))=zag C q):=fun e he=>by rw[he,←aq.out];exact (zf7 (fun e=>zo C (zai n8 e)) l x9 aA).symm
     generalize ay:l[j]=el at c1 c2
     have aJ:Hid (el=l[j]):=ay.symm
     clear ay
     obtain⟨a0,a1,a2,a3,a4,a5,a6,a7,a8,a9,M,L,af⟩:=n.out.box
     go_upto_region 16 with fail
     go_region_law (first|(go_simp;go_wp2_with (go_at_call 134;refine (zd6 C I E o x9 S9 q9 z9 0 (zai n8 el) _ ad.out ac.out.drew ap.out).mono ?_;rintro e aw ⟨O,au,aD,rfl,ag,ab,N⟩;obtain⟨d0,d1,d2,d3,d4,d5,d6,d7,d8,d9,ah,am,df⟩:=(n.out.stp N.undrew).box;unfold pv)))
     all_goals
      clear a0 a1 a2 a3 a4 a5 a6 a7 a8 a9 M L af d0 d1 d2 d3 d4 d5 d6 d7 d8 d9 ah am df
      have U:=zc ag
      have Q:=zc ab
      have H:Hid (Stp S9 wr O aw):=N.undrew
      clear ag ab N
      go_wp2
      go_roundg (gk-1)
      case rel=>exact⟨j+1,_,O,au,aD,by omega,by go_num,U.out,zgJ ap.out ad.out U.out,HX.out el aJ.out,by have:=ar.out;omega,Q.out.put (n.out.stp H.out) _ _ _ _ _ _ _ _ _ _ _ _,(ae.out.step H.out).put (by omega) _ _ _ _ _ _ _ _ _ _ _ _,(n.out.stp H.out).put _ _ _ _ _ _ _ _ _ _ _ _,(z.out.stp H.out).other (by omega) _ _ _ _ _ _ _ _ _ _ _ _,(D.out.stp H.out).put (n.out.stp H.out) _ _ _ _ _ _ _ _ _ _ _ _⟩
      case measure=>have:=ar.out;omega
    ·skip
     obtain⟨a0,a1,a2,a3,a4,a5,a6,a7,a8,a9,M,L,af⟩:=n.out.box
     obtain⟨b0,b1,b2,b3,b4,b5,b6,b7,b8,b9,aZ,aW,bf⟩:=z.out.box
     go_wp2
     refine bodyPost_ret (results_cell_row rfl _ _ (w.heap.size+1) 53 _ (0,0) _ rfl ((z.out.put ..)).heap Tryz.underlying53 rfl (by kernel_rfl)) rfl ?_
     exact zY rfl (show Is (zag C q) q9 z9 from by rw[←aq.out,List.drop_eq_nil_of_le (by omega)];exact ad.out) (ac.out.put z.out ..) (ae.out.put (by omega) ..)
  |false=>
   obtain⟨c0,c1,c2,c3,c4,c5,c6,c7,c8,c9,aj,ak,cf⟩:=A.out.box
   go_wp2_with fail
   refine (zh C I E o S4 q4 z4 0 1 zU _ aC.out.tok aI (by decide)).mono ?_
   rintro e w6 ⟨rfl,aa⟩
   rw[hF]
   replace n:=zc (n.out.below aa)
   replace z:=zc (z.out.below aa)
   replace A:=zc (A.out.below aa)
   have ax:=zc (aF.out.below aa)
   have az:=zc (aC.out.later aa)
   have K:Hid (Row S4 w6 o w.heap.size ⟨some ⟨g,0,none⟩,rc⟩ l):=D.out.below aa
   clear D
   have D:=zc K
   clear K
   clear aa aF aC
   clear c0 c1 c2 c3 c4 c5 c6 c7 c8 c9 aj ak cf
   obtain⟨c0,c1,c2,c3,c4,c5,c6,c7,c8,c9,aj,ak,cf⟩:=A.out.box
   go_wp2_with fail
   refine (zad C I E o _ S4 q4 z4 0 cSemi _ ao.out.fst az.out).mono ?_
   rintro e w7 ⟨S7,q7,z7,rfl,i7,m7,s7⟩
   replace n:=zc (n.out.stp s7)
   replace z:=zc (z.out.stp s7)
   replace A:=zc (A.out.stp s7)
   have aB:=zc (ax.out.step s7)
   have K:Hid (Row S7 w7 o w.heap.size ⟨some ⟨g,0,none⟩,rc⟩ l):=D.out.stp s7
   clear D
   have D:=zc K
   clear K
   clear ax
   have al:=zc m7
   have aE:=zc i7
   clear i7 m7 s7 az
   clear c0 c1 c2 c3 c4 c5 c6 c7 c8 c9 aj ak cf
   obtain⟨a0,a1,a2,a3,a4,a5,a6,a7,a8,a9,M,L,af⟩:=n.out.box
   unfold pv
   go_upto_region 6 with fail
   refine zL (R:=fun W=>Bx I S7 W (w.heap.size) _∧Bx I S7 W (w.heap.size+1) _∧Bx I S7 W (w4.heap.size) _∧Row S7 W o w.heap.size ⟨some ⟨g,0,none⟩,rc⟩ l∧Mem C I E o S7 q7 W∧SB w.heap.size S w S7 W) ⟨(n.out.put ..),(z.out.other (by omega) ..),(A.out.other (by omega) ..),(D.out.put n.out ..),(al.out.put n.out ..),(aB.out.put (by omega) ..)⟩ ?_
   clear a0 a1 a2 a3 a4 a5 a6 a7 a8 a9 M L af
   clear n z A aB al
   clear D
   rintro w8 ⟨Y,V,X2,R0,m8,t8⟩
   have D:=zc R0
   clear R0
   have n:=zc Y
   have z:=zc V
   have A:=zc X2
   have ai:=zc m8
   have an:=zc t8
   clear m8 t8 Y V X2
   have aH:Hid (_=zag C q):=(znA ao.out hA hF).trans aR.out.symm
   go_wp2
   go_loopg [6] l.length (fun k i wr=>∃(j:Nat) (x':PR) (J:Sv) (X:PS) (z':Int),j≤l.length∧i= .int .i64 j∧Is x' X z'∧(z'<0→1≤X.pos)∧zP (fun e=>zo C (zA e)) (l.drop j) x'=zag C q∧l.length-j=k∧Mem C I E o J X wr∧SB w.heap.size S w J wr∧Bx I J wr w.heap.size #[.slice (some ⟨I,0,none⟩) C.ts.length E,.int .i64 X.pos,.int .i64 C.fin,.bool C.scr,.slice J.rq.a X.rq.length J.rq.cap,.slice J.im.a X.im.length J.im.cap,.slice J.ep.a X.ep.length J.ep.cap,.slice J.st.a X.st.length J.st.cap,.slice J.ex.a X.ex.length J.ex.cap,.slice J.la.a X.la.length J.la.cap,.int .i64 z',.int .i64 0]∧Bx I J wr (w.heap.size+1) #[.slice none 0 0,.int .i64 0,.int .i64 0,.bool false,.slice none 0 0,.slice none 0 0,.slice none 0 0,.slice none 0 0,.slice none 0 0,.slice none 0 0,.int .i64 0,.int .i64 0]∧Row J wr o w.heap.size ⟨some ⟨g,0,none⟩,rc⟩ l)
   case atStart=>exact⟨0,_,S7,q7,z7,Nat.zero_le _,rfl,aE.out,zbh aE.out,aH.out,rfl,ai.out,an.out,n.out,z.out,D.out⟩
   case round=>
    obtain⟨j,x9,S9,q9,z9,hj,rfl,i9,p9,e9,g9,m9,t9,Y,V,R0⟩:=hrel
    clear n z A D ai an
    have n:=zc Y
    have z:=zc V
    have ac:=zc m9
    have ae:=zc t9
    have ad:=zc i9
    have ap:=zc p9
    have aq:=zc e9
    have ar:=zc g9
    have D:=zc R0
    clear Y V i9 m9 t9 e9 g9 R0 p9
    by_cases aA:j<l.length
    ·skip
     obtain⟨c1,c2⟩:=D.out.cells (g:=g) rfl aA
     have aS:=D.out.own.lt (g:=g) rfl
     have HX:Hid (∀e,e=l[j]→zP (fun e=>zo C (zA e)) (l.drop (j+1)) (bd x9 (zo C (zA e)))=zag C q):=fun e he=>by rw[he,←aq.out];exact (zf7 (fun e=>zo C (zA e)) l x9 aA).symm
     generalize ay:l[j]=el at c1 c2
     have aJ:Hid (el=l[j]):=ay.symm
     clear ay
     obtain⟨a0,a1,a2,a3,a4,a5,a6,a7,a8,a9,M,L,af⟩:=n.out.box
     go_upto_region 9 with fail
     go_region_law (first|(go_simp;go_wp2_with (go_at_call 134;refine (zd6 C I E o x9 S9 q9 z9 0 (zA el) _ ad.out ac.out.drew ap.out).mono ?_;rintro e aw ⟨O,au,aD,rfl,ag,ab,N⟩;obtain⟨d0,d1,d2,d3,d4,d5,d6,d7,d8,d9,ah,am,df⟩:=(n.out.stp N.undrew).box;unfold pv)))
     all_goals
      clear a0 a1 a2 a3 a4 a5 a6 a7 a8 a9 M L af d0 d1 d2 d3 d4 d5 d6 d7 d8 d9 ah am df
      have U:=zc ag
      have Q:=zc ab
      have H:Hid (Stp S9 wr O aw):=N.undrew
      clear ag ab N
      go_wp2
      go_roundg (gk-1)
      case rel=>exact⟨j+1,_,O,au,aD,by omega,by go_num,U.out,zgJ ap.out ad.out U.out,HX.out el aJ.out,by have:=ar.out;omega,Q.out.put (n.out.stp H.out) _ _ _ _ _ _ _ _ _ _ _ _,(ae.out.step H.out).put (by omega) _ _ _ _ _ _ _ _ _ _ _ _,(n.out.stp H.out).put _ _ _ _ _ _ _ _ _ _ _ _,(z.out.stp H.out).other (by omega) _ _ _ _ _ _ _ _ _ _ _ _,(D.out.stp H.out).put (n.out.stp H.out) _ _ _ _ _ _ _ _ _ _ _ _⟩
      case measure=>have:=ar.out;omega
    ·skip
     obtain⟨a0,a1,a2,a3,a4,a5,a6,a7,a8,a9,M,L,af⟩:=n.out.box
     obtain⟨b0,b1,b2,b3,b4,b5,b6,b7,b8,b9,aZ,aW,bf⟩:=z.out.box
     go_wp2
     refine bodyPost_ret (results_cell_row rfl _ _ (w.heap.size+1) 53 _ (0,0) _ rfl ((z.out.put ..)).heap Tryz.underlying53 rfl (by kernel_rfl)) rfl ?_
     exact zY rfl (show Is (zag C q) q9 z9 from by rw[←aq.out,List.drop_eq_nil_of_le (by omega)];exact ad.out) (ac.out.put z.out ..) (ae.out.put (by omega) ..)
theorem znH (C:Cx) (o n j:Nat) (S:Sv) (q:PS) (w:World) (z:Mem C o n j S q w) (A:isT C q.pos 1 zah=true):
  Calls Tryz.prog 70 #[pv C o n S q (-1) 0] w (Out C o n j (zaQ C q) 0 S w):=by
 cases D:isT C (q.pos+1) 4 zJ with
 |true=>exact zn5 C o n j S q w z A D
 |false=>
  cases E:isT C (q.pos+1) 4 zw with
  |true=>exact zn2 C o n j S q w z A D E
  |false=>
   cases H:zD C (q.pos+1) false with
   |true=>exact zn3 C o n j S q w z A D E H
   |false=>exact zn4 C o n j S q w z A D E H
theorem znI (C:Cx) (o n j:Nat) (S:Sv) (q:PS) (w:World) (z:Mem C o n j S q w) (A:isT C q.pos 1 zaf=true):
  Calls Tryz.prog 71 #[pv C o n S q (-1) 0] w (Out C o n j (zag C q) 0 S w):=by
 cases D:isT C (q.pos+1) 4 zJ with
 |true=>exact znG C o n j S q w z A D
 |false=>
  cases E:isT C (q.pos+1) 4 zw with
  |true=>exact znB C o n j S q w z A D E
  |false=>
   cases H:isT C (q.pos+1) 1 sDefault with
   |true=>exact znC C o n j S q w z A D E H
   |false=>
    cases I:isT C (q.pos+1) 1 zC with
    |true=>exact znD C o n j S q w z A D E H I
    |false=>
     cases J:isT C (q.pos+1) 1 zT with
     |true=>exact znE C o n j S q w z A D E H I J
     |false=>exact znF C o n j S q w z A D E H I J
theorem ziP {C:Cx} {x:PR} {n:ByteArray}:bd (bd (bd (bd x (zd C 4 cEq)) (pE C .sum 0)) (zd C 4 cSemi)) (zV C 3 n)=bd x fun q=>bd (bd (bd (bd (.ok q) (zd C 4 cEq)) (pE C .sum 0)) (zd C 4 cSemi)) (zV C 3 n):=by cases x<;>rfl
theorem znJ (D:List Tk) (j:Nat) (E z o:Nat) (S:Sv) (q:PS) (w:World) (V:Mem (Cx.mk D j true) E z o S q w) (h0:isT (Cx.mk D j true) q.pos 1 zC=true):
  Calls Tryz.prog 21 #[pv (Cx.mk D j true) E z S q (-1) 0] w (Out (Cx.mk D j true) E z o (zy (Cx.mk D j true) q) 0 S w):=by
 have HM:=zc V
 have H:=V.tok
 have U:(Cx.mk D j true).ts.length≤4000:=V.few
 clear V
 have HV:Hid (zy (Cx.mk D j true) q=zaK (zcj (Cx.mk D j true) q)):=by show zy (Cx.mk D j true) q=_;rw[zy,h0];rfl
 unfold pv
 go_enter Tryz.func21,Tryz.ntmps21
 go_wp2_with fail
 refine (zh (Cx.mk D j true) E z o S q (-1) 0 1 zC _ (zq (zq H _) _) U (by decide)).mono ?_
 rintro e w1 ⟨rfl,L⟩
 rw[h0]
 obtain⟨Q,O,m1,t1⟩:=HM.out.two L
 have A:=zc Q
 have n:=zc O
 have M:=zc m1
 have K:=zc t1
 clear Q O m1 t1 L
 clear H
 obtain⟨a0,a1,a2,a3,a4,a5,a6,a7,a8,a9,ab,Y,af⟩:=A.out.box
 go_wp2_with fail
 refine (zgG (Cx.mk D j true) E z o S q _ M.out).mono ?_
 rintro e w2 ⟨J,q2,z2,n2,rfl,i2,m2,X⟩
 replace A:=zc (A.out.stp X)
 replace n:=zc (n.out.stp X)
 have N:=zc (K.out.step X)
 clear K
 have I:=zc m2
 have aa:=zc i2
 clear i2 m2 X M
 clear a0 a1 a2 a3 a4 a5 a6 a7 a8 a9 ab Y af
 have ae:w.heap.size+1<w2.heap.size:=n.out.lt
 unfold pv
 go_upto_region 7 with fail
 refine zL (R:=fun W=>Bx E J W (w.heap.size) _∧Bx E J W (w.heap.size+1) _∧Bx E J W (w2.heap.size) _∧Mem (Cx.mk D j true) E z o J q2 W∧SB w.heap.size S w J W) ⟨(A.out.alloc _),(n.out.alloc _),(Bx.new I.out _),(I.out.alloc _),(N.out.alloc _)⟩ ?_
 clear A n N I
 rintro w3 ⟨Q,O,X2,m3,t3⟩
 have A:=zc Q
 have n:=zc O
 have ad:=zc X2
 have Z:=zc m3
 have ac:=zc t3
 clear m3 t3 Q O X2
 obtain⟨b0,b1,b2,b3,b4,b5,b6,b7,b8,b9,ai,ag,bf⟩:=n.out.box
 obtain⟨c0,c1,c2,c3,c4,c5,c6,c7,c8,c9,ah,aj,cf⟩:=ad.out.box
 go_wp2
 refine bodyPost_ret (results_cell_row rfl _ _ (w.heap.size+1) 53 _ (0,0) _ rfl ((n.out.put ..)).heap Tryz.underlying53 rfl (by kernel_rfl)) rfl ?_
 rw[HV.out]
 exact zY rfl aa.out.fst (Z.out.put n.out ..) (ac.out.put (by omega) ..)
theorem znK (D:List Tk) (j:Nat) (H A o:Nat) (S:Sv) (q:PS) (w:World) (hm:Mem (Cx.mk D j true) H A o S q w) (h0:isT (Cx.mk D j true) q.pos 1 zC=false) (h1:isT (Cx.mk D j true) q.pos 1 zT=true):
  Calls Tryz.prog 21 #[pv (Cx.mk D j true) H A S q (-1) 0] w (Out (Cx.mk D j true) H A o (zy (Cx.mk D j true) q) 0 S w):=by
 have HM:=zc hm
 have I:=hm.tok
 have J:(Cx.mk D j true).ts.length≤4000:=hm.few
 clear hm
 have HV:Hid (zy (Cx.mk D j true) q=zaK (fnP (Cx.mk D j true) q)):=by show zy (Cx.mk D j true) q=_;rw[zy,h0,h1];rfl
 unfold pv
 go_enter Tryz.func21,Tryz.ntmps21
 go_wp2_with fail
 refine (zh (Cx.mk D j true) H A o S q (-1) 0 1 zC _ (zq (zq I _) _) J (by decide)).mono ?_
 rintro e w1 ⟨rfl,V⟩
 rw[h0]
 obtain⟨Z,Y,m1,t1⟩:=HM.out.two V
 have z:=zc Z
 have n:=zc Y
 have N:=zc m1
 have U:=zc t1
 clear Z Y m1 t1 V
 clear I
 obtain⟨a0,a1,a2,a3,a4,a5,a6,a7,a8,a9,M,K,af⟩:=z.out.box
 go_wp2_with fail
 refine (zh (Cx.mk D j true) H A o S q (-1) 0 1 zT _ N.out.tok J (by decide)).mono ?_
 rintro e w2 ⟨rfl,E⟩
 rw[h1]
 replace z:=zc (z.out.below E)
 replace n:=zc (n.out.below E)
 have X:=zc (U.out.below E)
 have Q:=zc (N.out.later E)
 clear E U N
 clear a0 a1 a2 a3 a4 a5 a6 a7 a8 a9 M K af
 obtain⟨a0,a1,a2,a3,a4,a5,a6,a7,a8,a9,M,K,af⟩:=z.out.box
 go_wp2_with fail
 refine (zgH (Cx.mk D j true) H A o S q _ Q.out).mono ?_
 rintro e w3 ⟨S3,q3,z3,n3,rfl,i3,m3,s3⟩
 replace z:=zc (z.out.stp s3)
 replace n:=zc (n.out.stp s3)
 have O:=zc (X.out.step s3)
 clear X
 have L:=zc m3
 have ad:=zc i3
 clear i3 m3 s3 Q
 clear a0 a1 a2 a3 a4 a5 a6 a7 a8 a9 M K af
 have ae:w.heap.size+1<w3.heap.size:=n.out.lt
 unfold pv
 go_upto_region 10 with fail
 refine zL (R:=fun W=>Bx H S3 W (w.heap.size) _∧Bx H S3 W (w.heap.size+1) _∧Bx H S3 W (w3.heap.size) _∧Mem (Cx.mk D j true) H A o S3 q3 W∧SB w.heap.size S w S3 W) ⟨(z.out.alloc _),(n.out.alloc _),(Bx.new L.out _),(L.out.alloc _),(O.out.alloc _)⟩ ?_
 clear z n O L
 rintro w4 ⟨Z,Y,X2,m4,t4⟩
 have z:=zc Z
 have n:=zc Y
 have ab:=zc X2
 have aa:=zc m4
 have ac:=zc t4
 clear m4 t4 Z Y X2
 obtain⟨b0,b1,b2,b3,b4,b5,b6,b7,b8,b9,ai,ag,bf⟩:=n.out.box
 obtain⟨c0,c1,c2,c3,c4,c5,c6,c7,c8,c9,ah,aj,cf⟩:=ab.out.box
 go_wp2
 refine bodyPost_ret (results_cell_row rfl _ _ (w.heap.size+1) 53 _ (0,0) _ rfl ((n.out.put ..)).heap Tryz.underlying53 rfl (by kernel_rfl)) rfl ?_
 rw[HV.out]
 exact zY rfl ad.out.fst (aa.out.put n.out ..) (ac.out.put (by omega) ..)
theorem znL (D:List Tk) (j:Nat) (E A z:Nat) (S:Sv) (q:PS) (w:World) (hm:Mem (Cx.mk D j true) E A z S q w) (h0:isT (Cx.mk D j true) q.pos 1 zC=false) (h1:isT (Cx.mk D j true) q.pos 1 zT=false) (h2:isT (Cx.mk D j true) q.pos 1 zar=true):
  Calls Tryz.prog 21 #[pv (Cx.mk D j true) E A S q (-1) 0] w (Out (Cx.mk D j true) E A z (zy (Cx.mk D j true) q) 0 S w):=by
 have HM:=zc hm
 have O:=hm.tok
 have M:(Cx.mk D j true).ts.length≤4000:=hm.few
 clear hm
 have HV:Hid (zy (Cx.mk D j true) q=bd (bd (bd (bd (bd (bd (.ok q) (zd (Cx.mk D j true) 1 zar)) (zd (Cx.mk D j true) 4 zn)) (pE (Cx.mk D j true) .sum 0)) (zd (Cx.mk D j true) 4 za0)) (zd (Cx.mk D j true) 4 cSemi)) (zV (Cx.mk D j true) 4 sNone)):=by show zy (Cx.mk D j true) q=_;rw[zy,h0,h1,h2];rfl
 unfold pv
 go_enter Tryz.func21,Tryz.ntmps21
 go_wp2_with fail
 refine (zh (Cx.mk D j true) E A z S q (-1) 0 1 zC _ (zq (zq O _) _) M (by decide)).mono ?_
 rintro e w1 ⟨rfl,ak⟩
 rw[h0]
 obtain⟨X0,X1,m1,t1⟩:=HM.out.two ak
 have o:=zc X0
 have n:=zc X1
 have U:=zc m1
 have aj:=zc t1
 clear X0 X1 m1 t1 ak
 clear O
 obtain⟨a0,a1,a2,a3,a4,a5,a6,a7,a8,a9,J,I,af⟩:=o.out.box
 go_wp2_with fail
 refine (zh (Cx.mk D j true) E A z S q (-1) 0 1 zT _ U.out.tok M (by decide)).mono ?_
 rintro e w2 ⟨rfl,N⟩
 rw[h1]
 replace o:=zc (o.out.below N)
 replace n:=zc (n.out.below N)
 have an:=zc (aj.out.below N)
 have Q:=zc (U.out.later N)
 clear N aj U
 clear a0 a1 a2 a3 a4 a5 a6 a7 a8 a9 J I af
 obtain⟨a0,a1,a2,a3,a4,a5,a6,a7,a8,a9,J,I,af⟩:=o.out.box
 go_wp2_with fail
 refine (zh (Cx.mk D j true) E A z S q (-1) 0 1 zar _ Q.out.tok M (by decide)).mono ?_
 rintro e w3 ⟨rfl,H⟩
 rw[h2]
 replace o:=zc (o.out.below H)
 replace n:=zc (n.out.below H)
 have ae:=zc (an.out.below H)
 have ab:=zc (Q.out.later H)
 clear H an Q
 clear a0 a1 a2 a3 a4 a5 a6 a7 a8 a9 J I af
 obtain⟨a0,a1,a2,a3,a4,a5,a6,a7,a8,a9,J,I,af⟩:=o.out.box
 go_wp2_with fail
 refine (zaH (Cx.mk D j true) E A z (.ok q) S q (-1) 0 zar _ (zX q) ab.out).mono ?_
 rintro e w4 ⟨S4,q4,z4,rfl,i4,m4,s4⟩
 replace o:=zc (o.out.stp s4)
 replace n:=zc (n.out.stp s4)
 have aq:=zc (ae.out.step s4)
 clear ae
 have Z:=zc m4
 have ax:=zc i4
 clear i4 m4 s4 ab
 clear a0 a1 a2 a3 a4 a5 a6 a7 a8 a9 J I af
 go_wp2_with fail
 refine (zad (Cx.mk D j true) E A z _ S4 q4 z4 0 zn _ ax.out Z.out).mono ?_
 rintro e w5 ⟨S5,q5,z5,rfl,i5,m5,s5⟩
 replace o:=zc (o.out.stp s5)
 replace n:=zc (n.out.stp s5)
 have ac:=zc (aq.out.step s5)
 clear aq
 have aw:=zc m5
 have aB:=zc i5
 clear i5 m5 s5 Z
 go_wp2_with fail
 refine (zcN (Cx.mk D j true) E A z _ S5 q5 z5 _ aB.out aw.out).mono ?_
 rintro e w6 ⟨S6,q6,z6,rfl,i6,m6,s6⟩
 replace o:=zc (o.out.stp s6)
 replace n:=zc (n.out.stp s6)
 have am:=zc (ac.out.step s6)
 clear ac
 have ar:=zc m6
 have aC:=zc i6
 clear i6 m6 s6 aw
 go_wp2_with fail
 refine (zad (Cx.mk D j true) E A z _ S6 q6 z6 0 za0 _ aC.out ar.out).mono ?_
 rintro e w7 ⟨X,q7,z7,rfl,i7,m7,s7⟩
 replace o:=zc (o.out.stp s7)
 replace n:=zc (n.out.stp s7)
 have au:=zc (am.out.step s7)
 clear am
 have V:=zc m7
 have aA:=zc i7
 clear i7 m7 s7 ar
 have aD:w.heap.size+1<w7.heap.size:=n.out.lt
 unfold pv
 go_upto_region 13 with fail
 refine zL (R:=fun W=>Bx E X W (w.heap.size) _∧Bx E X W (w.heap.size+1) _∧Bx E X W (w7.heap.size) _∧Mem (Cx.mk D j true) E A z X q7 W∧SB w.heap.size S w X W) ⟨(o.out.alloc _),(n.out.alloc _),(Bx.new V.out _),(V.out.alloc _),(au.out.alloc _)⟩ ?_
 clear o n au V
 rintro w8 ⟨X0,X1,X2,m8,t8⟩
 have o:=zc X0
 have n:=zc X1
 have L:=zc X2
 have ag:=zc m8
 have Y:=zc t8
 clear m8 t8 X0 X1 X2
 obtain⟨c0,c1,c2,c3,c4,c5,c6,c7,c8,c9,ay,az,cf⟩:=L.out.box
 go_wp2_with fail
 refine (zad (Cx.mk D j true) E A z _ X q7 z7 0 cSemi _ aA.out ag.out).mono ?_
 rintro e w9 ⟨S9,q9,z9,rfl,i9,m9,s9⟩
 replace o:=zc (o.out.stp s9)
 replace n:=zc (n.out.stp s9)
 replace L:=zc (L.out.stp s9)
 have ao:=zc (Y.out.step s9)
 clear Y
 have ah:=zc m9
 have ai:=zc i9
 clear i9 m9 s9 ag
 clear c0 c1 c2 c3 c4 c5 c6 c7 c8 c9 ay az cf
 go_wp2_with fail
 refine (zcK (Cx.mk D j true) E A z _ S9 q9 z9 0 4 sNone _ ai.out ah.out (zbh ai.out)).mono ?_
 rintro e aI ⟨aJ,aH,aF,rfl,ad,aa,K⟩
 replace o:=zc (o.out.stp K)
 replace n:=zc (n.out.stp K)
 replace L:=zc (L.out.stp K)
 have al:=zc (ao.out.step K)
 clear ao
 have ap:=zc aa
 have av:=zc ad
 clear ad aa K ah
 obtain⟨b0,b1,b2,b3,b4,b5,b6,b7,b8,b9,aG,aE,bf⟩:=n.out.box
 unfold pv
 go_wp2
 refine bodyPost_ret (results_cell_row rfl _ _ (w.heap.size+1) 53 _ (0,0) _ rfl ((n.out.put ..)).heap Tryz.underlying53 rfl (by kernel_rfl)) rfl ?_
 rw[HV.out]
 exact zY rfl av.out (ap.out.put n.out ..) (al.out.put (by omega) ..)
theorem znM (A:List Tk) (j:Nat) (L D z:Nat) (S:Sv) (q:PS) (w:World) (hm:Mem (Cx.mk A j true) L D z S q w) (h0:isT (Cx.mk A j true) q.pos 1 zC=false) (h1:isT (Cx.mk A j true) q.pos 1 zT=false) (h2:isT (Cx.mk A j true) q.pos 1 zar=false) (h3:isT (Cx.mk A j true) q.pos 1 za3=true):
  Calls Tryz.prog 21 #[pv (Cx.mk A j true) L D S q (-1) 0] w (Out (Cx.mk A j true) L D z (zy (Cx.mk A j true) q) 0 S w):=by
 have HM:=zc hm
 have N:=hm.tok
 have I:(Cx.mk A j true).ts.length≤4000:=hm.few
 clear hm
 have HV:Hid (zy (Cx.mk A j true) q=bd (bd (bd (bd (.ok q) (zd (Cx.mk A j true) 1 za3)) (pE (Cx.mk A j true) .sum 0)) (zd (Cx.mk A j true) 4 cSemi)) (zV (Cx.mk A j true) 5 sNone)):=by show zy (Cx.mk A j true) q=_;rw[zy,h0,h1,h2,h3];rfl
 unfold pv
 go_enter Tryz.func21,Tryz.ntmps21
 go_wp2_with fail
 refine (zh (Cx.mk A j true) L D z S q (-1) 0 1 zC _ (zq (zq N _) _) I (by decide)).mono ?_
 rintro e w1 ⟨rfl,ae⟩
 rw[h0]
 obtain⟨X0,X1,m1,t1⟩:=HM.out.two ae
 have n:=zc X0
 have o:=zc X1
 have Z:=zc m1
 have ad:=zc t1
 clear X0 X1 m1 t1 ae
 clear N
 obtain⟨a0,a1,a2,a3,Q,a5,Y,a7,O,a9,H,E,V⟩:=n.out.box
 go_wp2_with fail
 refine (zh (Cx.mk A j true) L D z S q (-1) 0 1 zT _ Z.out.tok I (by decide)).mono ?_
 rintro e w2 ⟨rfl,M⟩
 rw[h1]
 replace n:=zc (n.out.below M)
 replace o:=zc (o.out.below M)
 have ai:=zc (ad.out.below M)
 have X:=zc (Z.out.later M)
 clear M ad Z
 clear a0 a1 a2 a3 Q a5 Y a7 O a9 H E V
 obtain⟨a0,a1,a2,a3,Q,a5,Y,a7,O,a9,H,E,V⟩:=n.out.box
 go_wp2_with fail
 refine (zh (Cx.mk A j true) L D z S q (-1) 0 1 zar _ X.out.tok I (by decide)).mono ?_
 rintro e w3 ⟨rfl,J⟩
 rw[h2]
 replace n:=zc (n.out.below J)
 replace o:=zc (o.out.below J)
 have ac:=zc (ai.out.below J)
 have U:=zc (X.out.later J)
 clear J ai X
 clear a0 a1 a2 a3 Q a5 Y a7 O a9 H E V
 obtain⟨a0,a1,a2,a3,Q,a5,Y,a7,O,a9,H,E,V⟩:=n.out.box
 go_wp2_with fail
 refine (zh (Cx.mk A j true) L D z S q (-1) 0 1 za3 _ U.out.tok I (by decide)).mono ?_
 rintro e w4 ⟨rfl,K⟩
 rw[h3]
 replace n:=zc (n.out.below K)
 replace o:=zc (o.out.below K)
 have ak:=zc (ac.out.below K)
 have aa:=zc (U.out.later K)
 clear K ac U
 clear a0 a1 a2 a3 Q a5 Y a7 O a9 H E V
 obtain⟨a0,a1,a2,a3,Q,a5,Y,a7,O,a9,H,E,V⟩:=n.out.box
 go_wp2_with fail
 refine (zaH (Cx.mk A j true) L D z (.ok q) S q (-1) 0 za3 _ (zX q) aa.out).mono ?_
 rintro e w5 ⟨S5,q5,z5,rfl,i5,m5,s5⟩
 replace n:=zc (n.out.stp s5)
 replace o:=zc (o.out.stp s5)
 have ab:=zc (ak.out.step s5)
 clear ak
 have an:=zc m5
 have ar:=zc i5
 clear i5 m5 s5 aa
 clear a0 a1 a2 a3 Q a5 Y a7 O a9 H E V
 go_wp2_with fail
 refine (zcN (Cx.mk A j true) L D z _ S5 q5 z5 _ ar.out an.out).mono ?_
 rintro e w6 ⟨S6,q6,z6,rfl,i6,m6,s6⟩
 replace n:=zc (n.out.stp s6)
 replace o:=zc (o.out.stp s6)
 have ah:=zc (ab.out.step s6)
 clear ab
 have al:=zc m6
 have au:=zc i6
 clear i6 m6 s6 an
 go_wp2_with fail
 refine (zad (Cx.mk A j true) L D z _ S6 q6 z6 0 cSemi _ au.out al.out).mono ?_
 rintro e w7 ⟨S7,q7,z7,rfl,i7,m7,s7⟩
 replace n:=zc (n.out.stp s7)
 replace o:=zc (o.out.stp s7)
 have am:=zc (ah.out.step s7)
 clear ah
 have ag:=zc m7
 have aj:=zc i7
 clear i7 m7 s7 al
 go_wp2_with fail
 refine (zcK (Cx.mk A j true) L D z _ S7 q7 z7 0 5 sNone _ aj.out ag.out (zbh aj.out)).mono ?_
 rintro e w8 ⟨S8,q8,z8,rfl,i8,m8,s8⟩
 replace n:=zc (n.out.stp s8)
 replace o:=zc (o.out.stp s8)
 have ao:=zc (am.out.step s8)
 clear am
 have ap:=zc m8
 have aq:=zc i8
 clear i8 m8 s8 ag
 obtain⟨b0,b1,b2,b3,b4,b5,b6,b7,b8,b9,aw,av,bf⟩:=o.out.box
 unfold pv
 go_wp2
 refine bodyPost_ret (results_cell_row rfl _ _ (w.heap.size+1) 53 _ (0,0) _ rfl ((o.out.put ..)).heap Tryz.underlying53 rfl (by kernel_rfl)) rfl ?_
 rw[HV.out]
 exact zY rfl aq.out (ap.out.put o.out ..) (ao.out.put (by omega) ..)
theorem znN (A:List Tk) (j:Nat) (J D z:Nat) (S:Sv) (q:PS) (w:World) (hm:Mem (Cx.mk A j true) J D z S q w) (h0:isT (Cx.mk A j true) q.pos 1 zC=false) (h1:isT (Cx.mk A j true) q.pos 1 zT=false) (h2:isT (Cx.mk A j true) q.pos 1 zar=false) (h3:isT (Cx.mk A j true) q.pos 1 za3=false) (h4:isT (Cx.mk A j true) q.pos 1 zbA=true):
  Calls Tryz.prog 21 #[pv (Cx.mk A j true) J D S q (-1) 0] w (Out (Cx.mk A j true) J D z (zy (Cx.mk A j true) q) 0 S w):=by
 have HM:=zc hm
 have aa:=hm.tok
 have I:(Cx.mk A j true).ts.length≤4000:=hm.few
 clear hm
 have HV:Hid (zy (Cx.mk A j true) q=bd (bd (bd (bd (.ok q) (zd (Cx.mk A j true) 1 zbA)) (pE (Cx.mk A j true) .sum 0)) (zd (Cx.mk A j true) 4 cSemi)) (zV (Cx.mk A j true) 6 sNone)):=by show zy (Cx.mk A j true) q=_;rw[zy,h0,h1,h2,h3,h4];rfl
 unfold pv
 go_enter Tryz.func21,Tryz.ntmps21
 go_wp2_with fail
 refine (zh (Cx.mk A j true) J D z S q (-1) 0 1 zC _ (zq (zq aa _) _) I (by decide)).mono ?_
 rintro e w1 ⟨rfl,al⟩
 rw[h0]
 obtain⟨X0,X1,m1,t1⟩:=HM.out.two al
 have n:=zc X0
 have o:=zc X1
 have ae:=zc m1
 have ak:=zc t1
 clear X0 X1 m1 t1 al
 clear aa
 obtain⟨X,Y,a2,a3,Q,a5,V,Z,O,a9,H,E,U⟩:=n.out.box
 go_wp2_with fail
 refine (zh (Cx.mk A j true) J D z S q (-1) 0 1 zT _ ae.out.tok I (by decide)).mono ?_
 rintro e w2 ⟨rfl,N⟩
 rw[h1]
 replace n:=zc (n.out.below N)
 replace o:=zc (o.out.below N)
 have ao:=zc (ak.out.below N)
 have ad:=zc (ae.out.later N)
 clear N ak ae
 clear X Y a2 a3 Q a5 V Z O a9 H E U
 obtain⟨X,Y,a2,a3,Q,a5,V,Z,O,a9,H,E,U⟩:=n.out.box
 go_wp2_with fail
 refine (zh (Cx.mk A j true) J D z S q (-1) 0 1 zar _ ad.out.tok I (by decide)).mono ?_
 rintro e w3 ⟨rfl,K⟩
 rw[h2]
 replace n:=zc (n.out.below K)
 replace o:=zc (o.out.below K)
 have ai:=zc (ao.out.below K)
 have ac:=zc (ad.out.later K)
 clear K ao ad
 clear X Y a2 a3 Q a5 V Z O a9 H E U
 obtain⟨X,Y,a2,a3,Q,a5,V,Z,O,a9,H,E,U⟩:=n.out.box
 go_wp2_with fail
 refine (zh (Cx.mk A j true) J D z S q (-1) 0 1 za3 _ ac.out.tok I (by decide)).mono ?_
 rintro e w4 ⟨rfl,M⟩
 rw[h3]
 replace n:=zc (n.out.below M)
 replace o:=zc (o.out.below M)
 have aq:=zc (ai.out.below M)
 have ab:=zc (ac.out.later M)
 clear M ai ac
 clear X Y a2 a3 Q a5 V Z O a9 H E U
 obtain⟨X,Y,a2,a3,Q,a5,V,Z,O,a9,H,E,U⟩:=n.out.box
 go_wp2_with fail
 refine (zh (Cx.mk A j true) J D z S q (-1) 0 1 zbA _ ab.out.tok I (by decide)).mono ?_
 rintro e w5 ⟨rfl,L⟩
 rw[h4]
 replace n:=zc (n.out.below L)
 replace o:=zc (o.out.below L)
 have ah:=zc (aq.out.below L)
 have av:=zc (ab.out.later L)
 clear L aq ab
 clear X Y a2 a3 Q a5 V Z O a9 H E U
 obtain⟨X,Y,a2,a3,Q,a5,V,Z,O,a9,H,E,U⟩:=n.out.box
 go_wp2_with fail
 refine (zaH (Cx.mk A j true) J D z (.ok q) S q (-1) 0 zbA _ (zX q) av.out).mono ?_
 rintro e w6 ⟨S6,q6,z6,rfl,i6,m6,s6⟩
 replace n:=zc (n.out.stp s6)
 replace o:=zc (o.out.stp s6)
 have an:=zc (ah.out.step s6)
 clear ah
 have ar:=zc m6
 have aA:=zc i6
 clear i6 m6 s6 av
 clear X Y a2 a3 Q a5 V Z O a9 H E U
 go_wp2_with fail
 refine (zcN (Cx.mk A j true) J D z _ S6 q6 z6 _ aA.out ar.out).mono ?_
 rintro e w7 ⟨S7,q7,z7,rfl,i7,m7,s7⟩
 replace n:=zc (n.out.stp s7)
 replace o:=zc (o.out.stp s7)
 have au:=zc (an.out.step s7)
 clear an
 have am:=zc m7
 have az:=zc i7
 clear i7 m7 s7 ar
 go_wp2_with fail
 refine (zad (Cx.mk A j true) J D z _ S7 q7 z7 0 cSemi _ az.out am.out).mono ?_
 rintro e w8 ⟨S8,q8,z8,rfl,i8,m8,s8⟩
 replace n:=zc (n.out.stp s8)
 replace o:=zc (o.out.stp s8)
 have ag:=zc (au.out.step s8)
 clear au
 have aj:=zc m8
 have ap:=zc i8
 clear i8 m8 s8 am
 go_wp2_with fail
 refine (zcK (Cx.mk A j true) J D z _ S8 q8 z8 0 6 sNone _ ap.out aj.out (zbh ap.out)).mono ?_
 rintro e w9 ⟨S9,q9,z9,rfl,i9,m9,s9⟩
 replace n:=zc (n.out.stp s9)
 replace o:=zc (o.out.stp s9)
 have ay:=zc (ag.out.step s9)
 clear ag
 have aw:=zc m9
 have ax:=zc i9
 clear i9 m9 s9 aj
 obtain⟨b0,b1,b2,b3,b4,b5,b6,b7,b8,b9,aC,aB,bf⟩:=o.out.box
 unfold pv
 go_wp2
 refine bodyPost_ret (results_cell_row rfl _ _ (w.heap.size+1) 53 _ (0,0) _ rfl ((o.out.put ..)).heap Tryz.underlying53 rfl (by kernel_rfl)) rfl ?_
 rw[HV.out]
 exact zY rfl ax.out (aw.out.put o.out ..) (ay.out.put (by omega) ..)
theorem znO (D:List Tk) (j:Nat) (K E A:Nat) (S:Sv) (q:PS) (w:World) (hm:Mem (Cx.mk D j true) K E A S q w) (h0:isT (Cx.mk D j true) q.pos 1 zC=false) (h1:isT (Cx.mk D j true) q.pos 1 zT=false) (h2:isT (Cx.mk D j true) q.pos 1 zar=false) (h3:isT (Cx.mk D j true) q.pos 1 za3=false) (h4:isT (Cx.mk D j true) q.pos 1 zbA=false):
  Calls Tryz.prog 21 #[pv (Cx.mk D j true) K E S q (-1) 0] w (Out (Cx.mk D j true) K E A (zy (Cx.mk D j true) q) 0 S w):=by
 have HM:=zc hm
 have aa:=hm.tok
 have L:(Cx.mk D j true).ts.length≤4000:=hm.few
 clear hm
 have HV:Hid (zy (Cx.mk D j true) q=bd (bd (.ok q) (zj (Cx.mk D j true) false)) fun a=>bd (bd (bd (bd (.ok a.1) (zd (Cx.mk D j true) 4 cEq)) (pE (Cx.mk D j true) .sum 0)) (zd (Cx.mk D j true) 4 cSemi)) (zV (Cx.mk D j true) 3 a.2)):=by show zy (Cx.mk D j true) q=_;rw[zy,h0,h1,h2,h3,h4];rfl
 unfold pv
 go_enter Tryz.func21,Tryz.ntmps21
 go_wp2_with fail
 refine (zh (Cx.mk D j true) K E A S q (-1) 0 1 zC _ (zq (zq aa _) _) L (by decide)).mono ?_
 rintro e w1 ⟨rfl,ax⟩
 rw[h0]
 obtain⟨X0,X1,m1,t1⟩:=HM.out.two ax
 have o:=zc X0
 have z:=zc X1
 have ai:=zc m1
 have aw:=zc t1
 clear X0 X1 m1 t1 ax
 clear aa
 obtain⟨a0,a1,a2,a3,Y,a5,a6,a7,X,a9,I,H,Z⟩:=o.out.box
 go_wp2_with fail
 refine (zh (Cx.mk D j true) K E A S q (-1) 0 1 zT _ ai.out.tok L (by decide)).mono ?_
 rintro e w2 ⟨rfl,V⟩
 rw[h1]
 replace o:=zc (o.out.below V)
 replace z:=zc (z.out.below V)
 have aA:=zc (aw.out.below V)
 have ah:=zc (ai.out.later V)
 clear V aw ai
 clear a0 a1 a2 a3 Y a5 a6 a7 X a9 I H Z
 obtain⟨a0,a1,a2,a3,Y,a5,a6,a7,X,a9,I,H,Z⟩:=o.out.box
 go_wp2_with fail
 refine (zh (Cx.mk D j true) K E A S q (-1) 0 1 zar _ ah.out.tok L (by decide)).mono ?_
 rintro e w3 ⟨rfl,M⟩
 rw[h2]
 replace o:=zc (o.out.below M)
 replace z:=zc (z.out.below M)
 have aq:=zc (aA.out.below M)
 have ag:=zc (ah.out.later M)
 clear M aA ah
 clear a0 a1 a2 a3 Y a5 a6 a7 X a9 I H Z
 obtain⟨a0,a1,a2,a3,Y,a5,a6,a7,X,a9,I,H,Z⟩:=o.out.box
 go_wp2_with fail
 refine (zh (Cx.mk D j true) K E A S q (-1) 0 1 za3 _ ag.out.tok L (by decide)).mono ?_
 rintro e w4 ⟨rfl,U⟩
 rw[h3]
 replace o:=zc (o.out.below U)
 replace z:=zc (z.out.below U)
 have aD:=zc (aq.out.below U)
 have ae:=zc (ag.out.later U)
 clear U aq ag
 clear a0 a1 a2 a3 Y a5 a6 a7 X a9 I H Z
 obtain⟨a0,a1,a2,a3,Y,a5,a6,a7,X,a9,I,H,Z⟩:=o.out.box
 go_wp2_with fail
 refine (zh (Cx.mk D j true) K E A S q (-1) 0 1 zbA _ ae.out.tok L (by decide)).mono ?_
 rintro e w5 ⟨rfl,O⟩
 rw[h4]
 replace o:=zc (o.out.below O)
 replace z:=zc (z.out.below O)
 have an:=zc (aD.out.below O)
 have aH:=zc (ae.out.later O)
 clear O aD ae
 clear a0 a1 a2 a3 Y a5 a6 a7 X a9 I H Z
 obtain⟨a0,a1,a2,a3,Y,a5,a6,a7,X,a9,I,H,Z⟩:=o.out.box
 go_wp2_with fail
 refine (zbe (Cx.mk D j true) K E A (.ok q) S q (-1) 0 false _ (zX q) aH.out).mono ?_
 rintro e w6 ⟨S6,q6,z6,n6,rfl,i6,m6,s6⟩
 replace o:=zc (o.out.stp s6)
 replace z:=zc (z.out.stp s6)
 have az:=zc (an.out.step s6)
 clear an
 have aj:=zc m6
 have aE:=zc i6
 clear i6 m6 s6 aH
 clear a0 a1 a2 a3 Y a5 a6 a7 X a9 I H Z
 have aP:w.heap.size+1<w6.heap.size:=z.out.lt
 unfold pv
 go_upto_region 19 with fail
 refine zL (R:=fun W=>Bx K S6 W (w.heap.size) _∧Bx K S6 W (w.heap.size+1) _∧Bx K S6 W (w6.heap.size) _∧Mem (Cx.mk D j true) K E A S6 q6 W∧SB w.heap.size S w S6 W) ⟨(o.out.alloc _),(z.out.alloc _),(Bx.new aj.out _),(aj.out.alloc _),(az.out.alloc _)⟩ ?_
 clear o z az aj
 rintro w7 ⟨X0,X1,X2,m7,t7⟩
 have o:=zc X0
 have z:=zc X1
 have J:=zc X2
 have ay:=zc m7
 have aF:=zc t7
 clear m7 t7 X0 X1 X2
 obtain⟨c0,c1,c2,c3,c4,c5,c6,c7,c8,c9,aJ,aM,cf⟩:=J.out.box
 go_wp2_with fail
 refine (zad (Cx.mk D j true) K E A _ S6 q6 z6 0 cEq _ aE.out.fst ay.out).mono ?_
 rintro e w8 ⟨S8,q8,z8,rfl,i8,m8,s8⟩
 replace o:=zc (o.out.stp s8)
 replace z:=zc (z.out.stp s8)
 replace J:=zc (J.out.stp s8)
 have ak:=zc (aF.out.step s8)
 clear aF
 have ar:=zc m8
 have aN:=zc i8
 clear i8 m8 s8 ay
 clear c0 c1 c2 c3 c4 c5 c6 c7 c8 c9 aJ aM cf
 go_wp2_with fail
 refine (zcN (Cx.mk D j true) K E A _ S8 q8 z8 _ aN.out ar.out).mono ?_
 rintro e w9 ⟨S9,q9,z9,rfl,i9,m9,s9⟩
 replace o:=zc (o.out.stp s9)
 replace z:=zc (z.out.stp s9)
 replace J:=zc (J.out.stp s9)
 have aB:=zc (ak.out.step s9)
 clear ak
 have au:=zc m9
 have aK:=zc i9
 clear i9 m9 s9 ar
 go_wp2_with fail
 refine (zad (Cx.mk D j true) K E A _ S9 q9 z9 0 cSemi _ aK.out au.out).mono ?_
 rintro e aU ⟨aO,aL,aI,rfl,ap,am,Q⟩
 replace o:=zc (o.out.stp Q)
 replace z:=zc (z.out.stp Q)
 replace J:=zc (J.out.stp Q)
 have ab:=zc (aB.out.step Q)
 clear aB
 have ac:=zc am
 have ad:=zc ap
 clear ap am Q au
 go_wp2_with fail
 refine (zcK (Cx.mk D j true) K E A _ aO aL aI 0 3 n6 _ ad.out ac.out (zbh ad.out)).mono ?_
 rintro e aT ⟨aV,aW,aR,rfl,aC,ao,N⟩
 replace o:=zc (o.out.stp N)
 replace z:=zc (z.out.stp N)
 replace J:=zc (J.out.stp N)
 have aG:=zc (ab.out.step N)
 clear ab
 have av:=zc ao
 have al:=zc aC
 clear aC ao N ac
 obtain⟨b0,b1,b2,b3,b4,b5,b6,b7,b8,b9,aS,aQ,bf⟩:=z.out.box
 unfold pv
 go_wp2
 refine bodyPost_ret (results_cell_row rfl _ _ (w.heap.size+1) 53 _ (0,0) _ rfl ((z.out.put ..)).heap Tryz.underlying53 rfl (by kernel_rfl)) rfl ?_
 rw[HV.out,←aE.out.bind (fun q n=>bd (bd (bd (bd (.ok q) (zd (Cx.mk D j true) 4 cEq)) (pE (Cx.mk D j true) .sum 0)) (zd (Cx.mk D j true) 4 cSemi)) (zV (Cx.mk D j true) 3 n)),←ziP]
 exact zY rfl al.out (av.out.put z.out ..) (aG.out.put (by omega) ..)
theorem znP (z:List Tk) (j:Nat) (A o n:Nat) (S:Sv) (q:PS) (w:World) (D:Mem (Cx.mk z j true) A o n S q w):
  Calls Tryz.prog 21 #[pv (Cx.mk z j true) A o S q (-1) 0] w (Out (Cx.mk z j true) A o n (zy (Cx.mk z j true) q) 0 S w):=by
 cases E:isT (Cx.mk z j true) q.pos 1 zC with
 |true=>exact znJ z j A o n S q w D E
 |false=>
  cases H:isT (Cx.mk z j true) q.pos 1 zT with
  |true=>exact znK z j A o n S q w D E H
  |false=>
   cases I:isT (Cx.mk z j true) q.pos 1 zar with
   |true=>exact znL z j A o n S q w D E H I
   |false=>
    cases J:isT (Cx.mk z j true) q.pos 1 za3 with
    |true=>exact znM z j A o n S q w D E H I J
    |false=>
     cases K:isT (Cx.mk z j true) q.pos 1 zbA with
     |true=>exact znN z j A o n S q w D E H I J K
     |false=>
      exact znO z j A o n S q w D E H I J K
end Go.Proofs.YticdggnnpjachaaGreat
