/-
  What spec's l4Import answers: the walks.
  What spec's l4Export answers: the walks.
  What spec's l4Export answers to a list of names: the walks.
  What spec's l4Item answers: the walks.
-/
import Derived.Test.YticdggnnpjachaaGreatCbSpecRowToSpecParseK
namespace Go.Proofs.YticdggnnpjachaaGreat
set_option maxRecDepth 100000
set_option maxHeartbeats 6400000
open Go.RowKit Go.PlainAid
theorem zcO {C:Cx} {k:Int} {s:ByteArray} {q n:PS} {j:Int} (h:Is (bd (.ok q) (zd C k s)) n j) (o:isT C q.pos k s=true):n=adv q∧j= -1:=by
 rw[zz,zd,if_pos o] at h
 exact h
theorem zeR {α:Type} (f:α→PS→PR) (l:List α) (e:Nat):zP f l (.error e)= .error e:=by
 induction l with
 |nil=>rfl
 |cons a l j=>exact j
theorem zf7 {α:Type} (f:α→PS→PR) (l:List α) (x:PR) {k:Nat} (j:k<l.length):zP f (l.drop k) x=zP f (l.drop (k+1)) (bd x (f (l[k]))):=by
 rw[List.drop_eq_getElem_cons j]
 rfl
theorem ziL {C:Cx} {j:PRN} {I E:PS} {D H:Int} {o z:ByteArray} {G:ByteArray→ByteArray→PS→PR} (K:Is2 j I D o) (n:Is2 (bd (bd (zaK j) (zd C 1 zU)) (zH C)) E H z):
  bd (bd (zaK (bd (bd (zaK j) (zd C 1 zU)) (zH C))) (zd C 4 cSemi)) (G z o)=bd j fun a=>bd (zaR C (zaE C (.ok a.1))) fun b=>G b.2 a.2 b.1:=by
 cases j with
 |error e=>rfl
 |ok a=>
  obtain⟨_,_,rfl⟩:=K
  have A:bd (bd (zaK (.ok a)) (zd C 1 zU)) (zH C)=zaE C (.ok a.1):=rfl
  rw[A] at n ⊢
  rw[zz]
  cases J:zaE C (.ok a.1) with
  |error e=>rfl
  |ok b=>
   rw[J] at n
   obtain⟨_,_,rfl⟩:=n
   show bd (zd C 4 cSemi b.1) (G b.2 a.2)=bd (bd (zd C 4 cSemi b.1) fun q=>.ok (q,b.2)) fun b=>G b.2 a.2 b.1
   rw[zM]
   rfl
def zeS (y:PRL):PR:=bd y fun a=>.ok a.1
theorem Is3.fst {y:PRL} {q:PS} {z:Int} {l:List Ep} (h:Is3 y q z l):Is (zeS y) q z:=by
 cases y with
 |ok a=>exact⟨h.1,h.2.1⟩
 |error e=>exact h
theorem zgI {C:Cx} {y:PRL} {E A:PS} {z D:Int} {l:List Ep} {n:ByteArray} {G:ByteArray→Ep→PS→PR} (I:Is3 y E z l) (j:Is2 (bd (bd (zeS y) (zd C 1 zU)) (zH C)) A D n):
  zP (G n) l (bd (zaK (bd (bd (zeS y) (zd C 1 zU)) (zH C))) (zd C 4 cSemi))=bd y fun a=>bd (zaR C (zaE C (.ok a.1))) fun b=>zP (G b.2) a.2 (.ok b.1):=by
 cases y with
 |error e=>exact zeR _ _ _
 |ok a=>
  obtain⟨_,_,rfl⟩:=I
  have o:bd (bd (zeS (.ok a)) (zd C 1 zU)) (zH C)=zaE C (.ok a.1):=rfl
  rw[o] at j ⊢
  rw[zz]
  cases H:zaE C (.ok a.1) with
  |error e=>exact zeR _ _ _
  |ok b=>
   rw[H] at j
   obtain⟨_,_,rfl⟩:=j
   show zP (G b.2) a.2 (bd (zaK (.ok b)) (zd C 4 cSemi))=bd (bd (zd C 4 cSemi b.1) fun q=>.ok (q,b.2)) fun b=>zP (G b.2) a.2 (.ok b.1)
   have J:bd (zaK (.ok b)) (zd C 4 cSemi)=zd C 4 cSemi b.1:=rfl
   rw[J,zM]
   cases zd C 4 cSemi b.1 with
   |error e=>exact zeR _ _ _
   |ok c=>rfl
theorem Mem.drew {C:Cx} {o n j:Nat} {S:Sv} {q:PS} {w:World} (h:Mem C o n j S q w):Mem C o n j S q w.drew:=⟨⟨h.own.rq,h.own.im,h.own.ep,h.own.st,h.own.ex,h.own.la,h.own.apart⟩,h.inv,h.tok,h.few,h.base⟩
theorem Stp.undrew {S n:Sv} {w j:World} (h:Stp S w.drew n j):Stp S w n j:=⟨h.os,h.tape,h.output,h.size,h.block,h.sub⟩
theorem Row.cells {S:Sv} {w:World} {o B g:Nat} {r:Rw} {l:List Ep} (h:Row S w o B r l) (E:r.a=some ⟨g,0,none⟩) {j:Nat} (D:j<l.length):
  w.cell? ⟨g,j*4+1,none⟩=some (.string (l[j]).name)∧w.cell? ⟨g,j*4+2,none⟩=some (.string (l[j]).loc):=by
 have q:=h.own
 unfold OwnR at q
 rw[E] at q
 have n: ∀(l:List Ep) (i c:Nat) (A:c<4) (z:i<l.length),(l.flatMap epL)[i*4+c]? =(epL l[i])[c]?:=by
  intro l
  induction l with
  |nil=>intro i c _ z;simp at z
  |cons x l H=>
   intro i c A z
   match i with
   |0=>
    simp only[List.flatMap_cons,Nat.zero_mul,Nat.zero_add,List.getElem_cons_zero]
    rw[List.getElem?_append_left (by simp[epL];omega)]
   |i+1=>
    simp only[List.flatMap_cons,List.getElem_cons_succ]
    rw[List.getElem?_append_right (by simp[epL];omega)]
    have e:(i+1)*4+c-(epL x).length=i*4+c:=by simp[epL];omega
    rw[e]
    exact H i c A (by simpa using z)
 rw[q.cellAt _ (by omega),q.cellAt _ (by omega)]
 exact⟨n l j 1 (by omega) D,n l j 2 (by omega) D⟩
theorem zn1 {C:Cx} {y:Im} {x:PR} {q q':PS} {z z':Int} (D:z<0→1≤q.pos) (n:Is x q z) (h:Is (bd x (zak C y)) q' z'):z'<0→1≤q'.pos:=by
 intro o
 obtain⟨e,_⟩:=zaC h o
 obtain⟨a,A,j⟩:=zf e
 subst A
 obtain⟨rfl,rfl⟩:=n
 unfold zak at j
 split at j
 ·cases j
 ·cases j
  exact D (by decide)
theorem zgJ {C:Cx} {y:Ep} {x:PR} {q q':PS} {z z':Int} (n:z<0→1≤q.pos) (o:Is x q z) (h:Is (bd x (zo C y)) q' z'):z'<0→1≤q'.pos:=by
 intro A
 obtain⟨e,_⟩:=zaC h A
 obtain⟨a,D,j⟩:=zf e
 subst D
 obtain⟨rfl,rfl⟩:=o
 unfold zo at j
 split at j
 ·cases j
 ·split at j
  ·cases j
   exact n (by decide)
  ·cases j
   exact n (by decide)
theorem zn2 (C:Cx) (D z o:Nat) (S:Sv) (q:PS) (w:World) (hm:Mem C D z o S q w) (hw:isT C q.pos 1 zah=true) (h1:isT C (q.pos+1) 4 zJ=false) (h2:isT C (q.pos+1) 4 zw=true):
  Calls Tryz.prog 70 #[pv C D z S q (-1) 0] w (Out C D z o (zaQ C q) 0 S w):=by
 have HM:=zc hm
 have ac:=hm.few
 clear hm
 have HV:Hid (zaQ C q=bd (bd (bd (bd (.ok (adv q)) (zd C 4 zw)) (zd C 1 sAs)) (zj C false)) fun a=>bd (zaR C (zaE C (.ok a.1))) fun b=>zak C ⟨b.2,zw,a.2⟩ b.1):=by
  show _=_
  rw[zaQ,zd,if_pos hw,zz]
  rw[zx,h1,h2]
  rfl
 unfold pv
 go_enter Tryz.func70,Tryz.ntmps70
 go_wp2_with fail
 refine (zaH C D z o (.ok q) S q (-1) 0 zah _ (zX q) ((HM.out.alloc _).alloc _)).mono ?_
 rintro e w1 ⟨S1,q1,z1,rfl,i1,m1,s1⟩
 obtain⟨U,O,t1⟩:=HM.out.two2 s1
 have n:=zc U
 have j:=zc O
 have ay:=zc m1
 have aw:=zc t1
 have ap:=zc i1
 clear U O i1 m1 t1 s1
 obtain⟨aj,rfl⟩:=zcO ap.out hw
 have HQ:=zc aj
 have ak:Hid (q1.pos=q.pos+1):=by show q1.pos=q.pos+1;rw[aj];rfl
 clear aj ap
 obtain⟨a0,a1,a2,a3,a4,a5,a6,a7,a8,a9,E,I,af⟩:=n.out.box
 unfold pv
 go_upto_region 2 with fail
 refine zL (R:=fun W=>Bx D S1 W (w.heap.size) _∧Bx D S1 W (w.heap.size+1) _∧Mem C D z o S1 q1 W∧SB w.heap.size S w S1 W) ⟨(n.out.put ..),(j.out.other (by omega) ..),(ay.out.put n.out ..),(aw.out.put (by omega) ..)⟩ ?_
 clear a0 a1 a2 a3 a4 a5 a6 a7 a8 a9 E I af
 clear n j aw ay
 rintro w2 ⟨U,O,m2,t2⟩
 have n:=zc U
 have j:=zc O
 have al:=zc m2
 have am:=zc t2
 clear m2 t2 U O
 obtain⟨a0,a1,a2,a3,a4,a5,a6,a7,a8,a9,E,I,af⟩:=n.out.box
 go_wp2_with fail
 refine (zh C D z o S1 q1 (-1) 0 4 zJ _ al.out.tok ac (by decide)).mono ?_
 rintro e w3 ⟨rfl,L⟩
 rw[ak.out,h1]
 replace n:=zc (n.out.below L)
 replace j:=zc (j.out.below L)
 have aB:=zc (am.out.below L)
 have ag:=zc (al.out.later L)
 clear L am al
 clear a0 a1 a2 a3 a4 a5 a6 a7 a8 a9 E I af
 obtain⟨a0,a1,a2,a3,a4,a5,a6,a7,a8,a9,E,I,af⟩:=n.out.box
 go_wp2_with fail
 refine (zh C D z o S1 q1 (-1) 0 4 zw _ ag.out.tok ac (by decide)).mono ?_
 rintro e w4 ⟨rfl,Q⟩
 rw[ak.out,h2]
 replace n:=zc (n.out.below Q)
 replace j:=zc (j.out.below Q)
 have as:=zc (aB.out.below Q)
 have aI:=zc (ag.out.later Q)
 clear Q aB ag
 clear a0 a1 a2 a3 a4 a5 a6 a7 a8 a9 E I af
 obtain⟨a0,a1,a2,a3,a4,a5,a6,a7,a8,a9,E,I,af⟩:=n.out.box
 clear ak
 go_wp2_with fail
 refine (zad C D z o (.ok q1) S1 q1 (-1) 0 zw _ (zX q1) aI.out).mono ?_
 rintro e w5 ⟨S5,q5,z5,rfl,i5,m5,s5⟩
 replace n:=zc (n.out.stp s5)
 replace j:=zc (j.out.stp s5)
 have aK:=zc (as.out.step s5)
 clear as
 have aN:=zc m5
 have ba:=zc i5
 clear i5 m5 s5 aI
 clear a0 a1 a2 a3 a4 a5 a6 a7 a8 a9 E I af
 go_wp2_with fail
 refine (zaH C D z o _ S5 q5 z5 0 sAs _ ba.out aN.out).mono ?_
 rintro e w6 ⟨S6,q6,z6,rfl,i6,m6,s6⟩
 replace n:=zc (n.out.stp s6)
 replace j:=zc (j.out.stp s6)
 have az:=zc (aK.out.step s6)
 clear aK
 have aF:=zc m6
 have bc:=zc i6
 clear i6 m6 s6 aN
 go_wp2_with fail
 refine (zbe C D z o _ S6 q6 z6 0 false _ bc.out aF.out).mono ?_
 rintro e w7 ⟨S7,q7,z7,n7,rfl,i7,m7,s7⟩
 replace n:=zc (n.out.stp s7)
 replace j:=zc (j.out.stp s7)
 have aJ:=zc (az.out.step s7)
 clear az
 have ai:=zc m7
 have aG:=zc i7
 clear i7 m7 s7 aF
 have be:w.heap.size+1<w7.heap.size:=j.out.lt
 unfold pv
 go_upto_region 13 with fail
 refine zL (R:=fun W=>Bx D S7 W (w.heap.size) _∧Bx D S7 W (w.heap.size+1) _∧Bx D S7 W (w7.heap.size) _∧Mem C D z o S7 q7 W∧SB w.heap.size S w S7 W) ⟨(n.out.alloc _),(j.out.alloc _),(Bx.new ai.out _),(ai.out.alloc _),(aJ.out.alloc _)⟩ ?_
 clear n j aJ ai
 rintro w8 ⟨U,O,X2,m8,t8⟩
 have n:=zc U
 have j:=zc O
 have A:=zc X2
 have ax:=zc m8
 have aO:=zc t8
 clear m8 t8 U O X2
 obtain⟨c0,c1,c2,c3,c4,c5,c6,c7,c8,c9,aT,aX,cf⟩:=A.out.box
 go_wp2_with fail
 refine (zaH C D z o _ S7 q7 z7 0 zU _ aG.out.fst ax.out).mono ?_
 rintro e w9 ⟨S9,q9,z9,rfl,i9,m9,s9⟩
 replace n:=zc (n.out.stp s9)
 replace j:=zc (j.out.stp s9)
 replace A:=zc (A.out.stp s9)
 have aH:=zc (aO.out.step s9)
 clear aO
 have av:=zc m9
 have aW:=zc i9
 clear i9 m9 s9 ax
 clear c0 c1 c2 c3 c4 c5 c6 c7 c8 c9 aT aX cf
 go_wp2_with fail
 refine (zdA C D z o _ S9 q9 z9 0 _ aW.out av.out).mono ?_
 rintro e ah ⟨H,aP,aR,aZ,rfl,ar,aC,V⟩
 replace n:=zc (n.out.stp V)
 replace j:=zc (j.out.stp V)
 replace A:=zc (A.out.stp V)
 have ab:=zc (aH.out.step V)
 clear aH
 have N:=zc aC
 have Z:=zc ar
 clear ar aC V av
 have bg:w.heap.size+1<ah.heap.size:=j.out.lt
 have aQ:w7.heap.size<ah.heap.size:=A.out.lt
 unfold pv
 go_upto_region 14 with fail
 refine zL (R:=fun W=>Bx D H W (w.heap.size) _∧Bx D H W (w.heap.size+1) _∧Bx D H W (w7.heap.size) _∧Bx D H W (ah.heap.size) _∧Mem C D z o H aP W∧SB w.heap.size S w H W) ⟨(n.out.alloc _),(j.out.alloc _),(A.out.alloc _),(Bx.new N.out _),(N.out.alloc _),(ab.out.alloc _)⟩ ?_
 clear n j A ab N
 rintro bo ⟨U,O,X2,X3,aL,aE⟩
 have n:=zc U
 have j:=zc O
 have A:=zc X2
 have M:=zc X3
 have X:=zc aL
 have ae:=zc aE
 clear aL aE U O X2 X3
 obtain⟨d0,d1,d2,d3,d4,d5,d6,d7,d8,d9,aY,aV,df⟩:=M.out.box
 go_wp2_with fail
 refine (zad C D z o _ H aP aR 0 cSemi _ Z.out.fst X.out).mono ?_
 rintro e bp ⟨aS,aU,bb,rfl,ao,aA,K⟩
 replace n:=zc (n.out.stp K)
 replace j:=zc (j.out.stp K)
 replace A:=zc (A.out.stp K)
 replace M:=zc (M.out.stp K)
 have Y:=zc (ae.out.step K)
 clear ae
 have ad:=zc aA
 have aa:=zc ao
 clear ao aA K X
 clear d0 d1 d2 d3 d4 d5 d6 d7 d8 d9 aY aV df
 go_wp2_with fail
 refine (zg0 C D z o _ aS aU bb 0 ⟨aZ,zw,n7⟩ _ aa.out ad.out (zbh aa.out)).mono ?_
 rintro e bm ⟨bl,bi,bk,rfl,aM,au,J⟩
 replace n:=zc (n.out.stp J)
 replace j:=zc (j.out.stp J)
 replace A:=zc (A.out.stp J)
 replace M:=zc (M.out.stp J)
 have aD:=zc (Y.out.step J)
 clear Y
 have an:=zc au
 have aq:=zc aM
 clear aM au J ad
 obtain⟨b0,b1,b2,b3,b4,b5,b6,b7,b8,b9,bn,bj,bf⟩:=j.out.box
 unfold pv
 go_wp2
 refine bodyPost_ret (results_cell_row rfl _ _ (w.heap.size+1) 53 _ (0,0) _ rfl ((j.out.put ..)).heap Tryz.underlying53 rfl (by kernel_rfl)) rfl ?_
 rw[HV.out,←HQ.out,←ziL (G:=fun b a=>zak C ⟨b,zw,a⟩) aG.out Z.out]
 exact zY rfl aq.out (an.out.put j.out ..) (aD.out.put (by omega) ..)
theorem zn3 (C:Cx) (D z o:Nat) (S:Sv) (q:PS) (w:World) (hm:Mem C D z o S q w) (hw:isT C q.pos 1 zah=true) (h1:isT C (q.pos+1) 4 zJ=false) (h2:isT C (q.pos+1) 4 zw=false) (h3:zD C (q.pos+1) false=true):
  Calls Tryz.prog 70 #[pv C D z S q (-1) 0] w (Out C D z o (zaQ C q) 0 S w):=by
 have HM:=zc hm
 have Q:=hm.few
 clear hm
 have HV:Hid (zaQ C q=bd (bd (.ok (adv q)) (zj C false)) fun a=>bd (zaR C (zaE C (.ok a.1))) fun b=>zak C ⟨b.2,sDefault,a.2⟩ b.1):=by
  show _=_
  rw[zaQ,zd,if_pos hw,zz]
  rw[zx,h1,h2,h3]
  rfl
 unfold pv
 go_enter Tryz.func70,Tryz.ntmps70
 go_wp2_with fail
 refine (zaH C D z o (.ok q) S q (-1) 0 zah _ (zX q) ((HM.out.alloc _).alloc _)).mono ?_
 rintro e w1 ⟨S1,q1,z1,rfl,i1,m1,s1⟩
 obtain⟨U,M,t1⟩:=HM.out.two2 s1
 have j:=zc U
 have n:=zc M
 have ay:=zc m1
 have au:=zc t1
 have ap:=zc i1
 clear U M i1 m1 t1 s1
 obtain⟨aj,rfl⟩:=zcO ap.out hw
 have HQ:=zc aj
 have aa:Hid (q1.pos=q.pos+1):=by show q1.pos=q.pos+1;rw[aj];rfl
 clear aj ap
 obtain⟨X,a1,a2,a3,a4,Z,Y,a7,a8,V,E,H,af⟩:=j.out.box
 unfold pv
 go_upto_region 2 with fail
 refine zL (R:=fun W=>Bx D S1 W (w.heap.size) _∧Bx D S1 W (w.heap.size+1) _∧Mem C D z o S1 q1 W∧SB w.heap.size S w S1 W) ⟨(j.out.put ..),(n.out.other (by omega) ..),(ay.out.put j.out ..),(au.out.put (by omega) ..)⟩ ?_
 clear X a1 a2 a3 a4 Z Y a7 a8 V E H af
 clear j n au ay
 rintro w2 ⟨U,M,m2,t2⟩
 have j:=zc U
 have n:=zc M
 have am:=zc m2
 have an:=zc t2
 clear m2 t2 U M
 obtain⟨X,a1,a2,a3,a4,Z,Y,a7,a8,V,E,H,af⟩:=j.out.box
 go_wp2_with fail
 refine (zh C D z o S1 q1 (-1) 0 4 zJ _ am.out.tok Q (by decide)).mono ?_
 rintro e w3 ⟨rfl,K⟩
 rw[aa.out,h1]
 replace j:=zc (j.out.below K)
 replace n:=zc (n.out.below K)
 have aD:=zc (an.out.below K)
 have ah:=zc (am.out.later K)
 clear K an am
 clear X a1 a2 a3 a4 Z Y a7 a8 V E H af
 obtain⟨X,a1,a2,a3,a4,Z,Y,a7,a8,V,E,H,af⟩:=j.out.box
 go_wp2_with fail
 refine (zh C D z o S1 q1 (-1) 0 4 zw _ ah.out.tok Q (by decide)).mono ?_
 rintro e w4 ⟨rfl,N⟩
 rw[aa.out,h2]
 replace j:=zc (j.out.below N)
 replace n:=zc (n.out.below N)
 have as:=zc (aD.out.below N)
 have al:=zc (ah.out.later N)
 clear N aD ah
 clear X a1 a2 a3 a4 Z Y a7 a8 V E H af
 obtain⟨X,a1,a2,a3,a4,Z,Y,a7,a8,V,E,H,af⟩:=j.out.box
 go_wp2_with fail
 refine (zfz C D z o S1 q1 (-1) 0 false _ al.out.tok Q).mono ?_
 rintro e w5 ⟨rfl,O⟩
 rw[aa.out,h3]
 replace j:=zc (j.out.below O)
 replace n:=zc (n.out.below O)
 have aI:=zc (as.out.below O)
 have aK:=zc (al.out.later O)
 clear O as al
 clear X a1 a2 a3 a4 Z Y a7 a8 V E H af
 obtain⟨X,a1,a2,a3,a4,Z,Y,a7,a8,V,E,H,af⟩:=j.out.box
 clear aa
 go_wp2_with fail
 refine (zbe C D z o (.ok q1) S1 q1 (-1) 0 false _ (zX q1) aK.out).mono ?_
 rintro e w6 ⟨S6,q6,z6,n6,rfl,i6,m6,s6⟩
 replace j:=zc (j.out.stp s6)
 replace n:=zc (n.out.stp s6)
 have az:=zc (aI.out.step s6)
 clear aI
 have ak:=zc m6
 have aM:=zc i6
 clear i6 m6 s6 aK
 clear X a1 a2 a3 a4 Z Y a7 a8 V E H af
 have aW:w.heap.size+1<w6.heap.size:=n.out.lt
 unfold pv
 go_upto_region 17 with fail
 refine zL (R:=fun W=>Bx D S6 W (w.heap.size) _∧Bx D S6 W (w.heap.size+1) _∧Bx D S6 W (w6.heap.size) _∧Mem C D z o S6 q6 W∧SB w.heap.size S w S6 W) ⟨(j.out.alloc _),(n.out.alloc _),(Bx.new ak.out _),(ak.out.alloc _),(az.out.alloc _)⟩ ?_
 clear j n az ak
 rintro w7 ⟨U,M,X2,m7,t7⟩
 have j:=zc U
 have n:=zc M
 have A:=zc X2
 have aw:=zc m7
 have aH:=zc t7
 clear m7 t7 U M X2
 obtain⟨c0,c1,c2,c3,c4,c5,c6,c7,c8,c9,aQ,aS,cf⟩:=A.out.box
 go_wp2_with fail
 refine (zaH C D z o _ S6 q6 z6 0 zU _ aM.out.fst aw.out).mono ?_
 rintro e w8 ⟨S8,q8,z8,rfl,i8,m8,s8⟩
 replace j:=zc (j.out.stp s8)
 replace n:=zc (n.out.stp s8)
 replace A:=zc (A.out.stp s8)
 have aL:=zc (aH.out.step s8)
 clear aH
 have ax:=zc m8
 have aP:=zc i8
 clear i8 m8 s8 aw
 clear c0 c1 c2 c3 c4 c5 c6 c7 c8 c9 aQ aS cf
 go_wp2_with fail
 refine (zdA C D z o _ S8 q8 z8 0 _ aP.out ax.out).mono ?_
 rintro e w9 ⟨S9,q9,z9,n9,rfl,i9,m9,s9⟩
 replace j:=zc (j.out.stp s9)
 replace n:=zc (n.out.stp s9)
 replace A:=zc (A.out.stp s9)
 have aG:=zc (aL.out.step s9)
 clear aL
 have ai:=zc m9
 have aB:=zc i9
 clear i9 m9 s9 ax
 have aX:w.heap.size+1<w9.heap.size:=n.out.lt
 have aN:w6.heap.size<w9.heap.size:=A.out.lt
 unfold pv
 go_upto_region 18 with fail
 refine zL (R:=fun W=>Bx D S9 W (w.heap.size) _∧Bx D S9 W (w.heap.size+1) _∧Bx D S9 W (w6.heap.size) _∧Bx D S9 W (w9.heap.size) _∧Mem C D z o S9 q9 W∧SB w.heap.size S w S9 W) ⟨(j.out.alloc _),(n.out.alloc _),(A.out.alloc _),(Bx.new ai.out _),(ai.out.alloc _),(aG.out.alloc _)⟩ ?_
 clear j n A aG ai
 rintro aZ ⟨U,M,X2,X3,aE,aF⟩
 have j:=zc U
 have n:=zc M
 have A:=zc X2
 have L:=zc X3
 have ac:=zc aE
 have ae:=zc aF
 clear aE aF U M X2 X3
 obtain⟨d0,d1,d2,d3,d4,d5,d6,d7,d8,d9,aU,aR,df⟩:=L.out.box
 go_wp2_with fail
 refine (zad C D z o _ S9 q9 z9 0 cSemi _ aB.out.fst ac.out).mono ?_
 rintro e bc ⟨aO,aV,aT,rfl,aq,aJ,J⟩
 replace j:=zc (j.out.stp J)
 replace n:=zc (n.out.stp J)
 replace A:=zc (A.out.stp J)
 replace L:=zc (L.out.stp J)
 have ag:=zc (ae.out.step J)
 clear ae
 have ab:=zc aJ
 have ad:=zc aq
 clear aq aJ J ac
 clear d0 d1 d2 d3 d4 d5 d6 d7 d8 d9 aU aR df
 go_wp2_with fail
 refine (zg0 C D z o _ aO aV aT 0 ⟨n9,sDefault,n6⟩ _ ad.out ab.out (zbh ad.out)).mono ?_
 rintro e bi ⟨ba,be,bg,rfl,ao,aA,I⟩
 replace j:=zc (j.out.stp I)
 replace n:=zc (n.out.stp I)
 replace A:=zc (A.out.stp I)
 replace L:=zc (L.out.stp I)
 have ar:=zc (ag.out.step I)
 clear ag
 have aC:=zc aA
 have av:=zc ao
 clear ao aA I ab
 obtain⟨b0,b1,b2,b3,b4,b5,b6,b7,b8,b9,bb,aY,bf⟩:=n.out.box
 unfold pv
 go_wp2
 refine bodyPost_ret (results_cell_row rfl _ _ (w.heap.size+1) 53 _ (0,0) _ rfl ((n.out.put ..)).heap Tryz.underlying53 rfl (by kernel_rfl)) rfl ?_
 rw[HV.out,←HQ.out,←ziL (G:=fun b a=>zak C ⟨b,sDefault,a⟩) aM.out aB.out]
 exact zY rfl av.out (aC.out.put n.out ..) (ar.out.put (by omega) ..)
theorem zn4 (C:Cx) (E z o:Nat) (S:Sv) (q:PS) (w:World) (hm:Mem C E z o S q w) (hw:isT C q.pos 1 zah=true) (h1:isT C (q.pos+1) 4 zJ=false) (h2:isT C (q.pos+1) 4 zw=false) (h3:zD C (q.pos+1) false=false):
  Calls Tryz.prog 70 #[pv C E z S q (-1) 0] w (Out C E z o (zaQ C q) 0 S w):=by
 have HM:=zc hm
 have K:=hm.few
 clear hm
 have HV:Hid (zaQ C q=bd (bd (.ok (adv q)) (zH C)) fun a=>zd C 4 cSemi a.1):=by
  show _=_
  rw[zaQ,zd,if_pos hw,zz]
  rw[zx,h1,h2,h3]
  rfl
 unfold pv
 go_enter Tryz.func70,Tryz.ntmps70
 go_wp2_with fail
 refine (zaH C E z o (.ok q) S q (-1) 0 zah _ (zX q) ((HM.out.alloc _).alloc _)).mono ?_
 rintro e w1 ⟨S1,q1,z1,rfl,i1,m1,s1⟩
 obtain⟨X0,X1,t1⟩:=HM.out.two2 s1
 have j:=zc X0
 have n:=zc X1
 have am:=zc m1
 have ak:=zc t1
 have ai:=zc i1
 clear X0 X1 i1 m1 t1 s1
 obtain⟨ac,rfl⟩:=zcO ai.out hw
 have HQ:=zc ac
 have V:Hid (q1.pos=q.pos+1):=by show q1.pos=q.pos+1;rw[ac];rfl
 clear ac ai
 obtain⟨M,Y,a2,a3,Z,O,N,Q,U,L,A,D,X⟩:=j.out.box
 unfold pv
 go_upto_region 2 with fail
 refine zL (R:=fun W=>Bx E S1 W (w.heap.size) _∧Bx E S1 W (w.heap.size+1) _∧Mem C E z o S1 q1 W∧SB w.heap.size S w S1 W) ⟨(j.out.put ..),(n.out.other (by omega) ..),(am.out.put j.out ..),(ak.out.put (by omega) ..)⟩ ?_
 clear M Y a2 a3 Z O N Q U L A D X
 clear j n ak am
 rintro w2 ⟨X0,X1,m2,t2⟩
 have j:=zc X0
 have n:=zc X1
 have ag:=zc m2
 have ah:=zc t2
 clear m2 t2 X0 X1
 obtain⟨M,Y,a2,a3,Z,O,N,Q,U,L,A,D,X⟩:=j.out.box
 go_wp2_with fail
 refine (zh C E z o S1 q1 (-1) 0 4 zJ _ ag.out.tok K (by decide)).mono ?_
 rintro e w3 ⟨rfl,H⟩
 rw[V.out,h1]
 replace j:=zc (j.out.below H)
 replace n:=zc (n.out.below H)
 have ao:=zc (ah.out.below H)
 have aa:=zc (ag.out.later H)
 clear H ah ag
 clear M Y a2 a3 Z O N Q U L A D X
 obtain⟨M,Y,a2,a3,Z,O,N,Q,U,L,A,D,X⟩:=j.out.box
 go_wp2_with fail
 refine (zh C E z o S1 q1 (-1) 0 4 zw _ aa.out.tok K (by decide)).mono ?_
 rintro e w4 ⟨rfl,I⟩
 rw[V.out,h2]
 replace j:=zc (j.out.below I)
 replace n:=zc (n.out.below I)
 have aj:=zc (ao.out.below I)
 have ae:=zc (aa.out.later I)
 clear I ao aa
 clear M Y a2 a3 Z O N Q U L A D X
 obtain⟨M,Y,a2,a3,Z,O,N,Q,U,L,A,D,X⟩:=j.out.box
 go_wp2_with fail
 refine (zfz C E z o S1 q1 (-1) 0 false _ ae.out.tok K).mono ?_
 rintro e w5 ⟨rfl,J⟩
 rw[V.out,h3]
 replace j:=zc (j.out.below J)
 replace n:=zc (n.out.below J)
 have aq:=zc (aj.out.below J)
 have ar:=zc (ae.out.later J)
 clear J aj ae
 clear M Y a2 a3 Z O N Q U L A D X
 obtain⟨M,Y,a2,a3,Z,O,N,Q,U,L,A,D,X⟩:=j.out.box
 clear V
 go_wp2_with fail
 refine (zdA C E z o (.ok q1) S1 q1 (-1) 0 _ (zX q1) ar.out).mono ?_
 rintro e w6 ⟨S6,q6,z6,n6,rfl,i6,m6,s6⟩
 replace j:=zc (j.out.stp s6)
 replace n:=zc (n.out.stp s6)
 have an:=zc (aq.out.step s6)
 clear aq
 have ad:=zc m6
 have as:=zc i6
 clear i6 m6 s6 ar
 clear M Y a2 a3 Z O N Q U L A D X
 have az:w.heap.size+1<w6.heap.size:=n.out.lt
 unfold pv
 go_upto_region 20 with fail
 refine zL (R:=fun W=>Bx E S6 W (w.heap.size) _∧Bx E S6 W (w.heap.size+1) _∧Bx E S6 W (w6.heap.size) _∧Mem C E z o S6 q6 W∧SB w.heap.size S w S6 W) ⟨(j.out.alloc _),(n.out.alloc _),(Bx.new ad.out _),(ad.out.alloc _),(an.out.alloc _)⟩ ?_
 clear j n an ad
 rintro w7 ⟨X0,X1,X2,m7,t7⟩
 have j:=zc X0
 have n:=zc X1
 have ab:=zc X2
 have al:=zc m7
 have ap:=zc t7
 clear m7 t7 X0 X1 X2
 obtain⟨c0,c1,c2,c3,c4,c5,c6,c7,c8,c9,av,ax,cf⟩:=ab.out.box
 go_wp2_with fail
 refine (zad C E z o _ S6 q6 z6 0 cSemi _ as.out.fst al.out).mono ?_
 rintro e w8 ⟨S8,q8,z8,rfl,i8,m8,s8⟩
 replace j:=zc (j.out.stp s8)
 replace n:=zc (n.out.stp s8)
 replace ab:=zc (ab.out.stp s8)
 have ay:=zc (ap.out.step s8)
 clear ap
 have aw:=zc m8
 have au:=zc i8
 clear i8 m8 s8 al
 clear c0 c1 c2 c3 c4 c5 c6 c7 c8 c9 av ax cf
 obtain⟨b0,b1,b2,b3,b4,b5,b6,b7,b8,b9,aB,aA,bf⟩:=n.out.box
 unfold pv
 go_wp2
 refine bodyPost_ret (results_cell_row rfl _ _ (w.heap.size+1) 53 _ (0,0) _ rfl ((n.out.put ..)).heap Tryz.underlying53 rfl (by kernel_rfl)) rfl ?_
 rw[HV.out,←HQ.out,←as.out.bind (fun q _=>zd C 4 cSemi q)]
 exact zY rfl au.out (aw.out.put n.out ..) (ay.out.put (by omega) ..)
theorem zn5 (C:Cx) (D A o:Nat) (S:Sv) (q:PS) (w:World) (hm:Mem C D A o S q w) (hw:isT C q.pos 1 zah=true) (h1:isT C (q.pos+1) 4 zJ=true):
  Calls Tryz.prog 70 #[pv C D A S q (-1) 0] w (Out C D A o (zaQ C q) 0 S w):=by
 have HM:=zc hm
 have aE:=hm.few
 clear hm
 have HV:Hid (zaQ C q=bd (zcw C false (adv q)) fun a=>bd (zaR C (zaE C (.ok a.1))) fun b=>zP (fun e=>zak C (zbF b.2 e)) a.2 (.ok b.1)):=by
  show _=_
  rw[zaQ,zd,if_pos hw,zz]
  rw[zx,h1]
  rfl
 unfold pv
 go_enter Tryz.func70,Tryz.ntmps70
 go_wp2_with fail
 refine (zaH C D A o (.ok q) S q (-1) 0 zah _ (zX q) ((HM.out.alloc _).alloc _)).mono ?_
 rintro e w1 ⟨S1,q1,z1,rfl,i1,m1,s1⟩
 obtain⟨O,M,t1⟩:=HM.out.two2 s1
 have n:=zc O
 have z:=zc M
 have aC:=zc m1
 have av:=zc t1
 have ar:=zc i1
 clear O M i1 m1 t1 s1
 obtain⟨ag,rfl⟩:=zcO ar.out hw
 have HQ:=zc ag
 have az:Hid (q1.pos=q.pos+1):=by show q1.pos=q.pos+1;rw[ag];rfl
 clear ag ar
 obtain⟨a0,a1,a2,a3,a4,a5,a6,a7,a8,a9,I,J,af⟩:=n.out.box
 unfold pv
 go_upto_region 2 with fail
 refine zL (R:=fun W=>Bx D S1 W (w.heap.size) _∧Bx D S1 W (w.heap.size+1) _∧Mem C D A o S1 q1 W∧SB w.heap.size S w S1 W) ⟨(n.out.put ..),(z.out.other (by omega) ..),(aC.out.put n.out ..),(av.out.put (by omega) ..)⟩ ?_
 clear a0 a1 a2 a3 a4 a5 a6 a7 a8 a9 I J af
 clear n z av aC
 rintro w2 ⟨O,M,m2,t2⟩
 have n:=zc O
 have z:=zc M
 have al:=zc m2
 have an:=zc t2
 clear m2 t2 O M
 obtain⟨a0,a1,a2,a3,a4,a5,a6,a7,a8,a9,I,J,af⟩:=n.out.box
 go_wp2_with fail
 refine (zh C D A o S1 q1 (-1) 0 4 zJ _ al.out.tok aE (by decide)).mono ?_
 rintro e w3 ⟨rfl,Y⟩
 rw[az.out,h1]
 replace n:=zc (n.out.below Y)
 replace z:=zc (z.out.below Y)
 have aj:=zc (an.out.below Y)
 have ap:=zc (al.out.later Y)
 clear Y an al
 clear a0 a1 a2 a3 a4 a5 a6 a7 a8 a9 I J af
 obtain⟨a0,a1,a2,a3,a4,a5,a6,a7,a8,a9,I,J,af⟩:=n.out.box
 clear az
 have aS:=aj.out.size
 go_wp2_with fail
 refine (zi7 C D A o S1 q1 0 false _ ap.out).mono ?_
 rintro e w4 ⟨S4,q4,z4,⟨ra,rc⟩,l,rfl,i4,m4,s4,R0,hl⟩
 obtain⟨g,rfl⟩: ∃g,ra=some ⟨g,0,none⟩:=R0.addr
 replace n:=zc (n.out.stp s4)
 replace z:=zc (z.out.stp s4)
 have au:=zc (aj.out.step s4)
 clear aj
 have ak:=zc m4
 have aN:=zc i4
 clear i4 m4 s4 ap
 clear a0 a1 a2 a3 a4 a5 a6 a7 a8 a9 I J af
 have H:Hid (Row S4 w4 o w.heap.size ⟨some ⟨g,0,none⟩,rc⟩ l):=⟨R0.own,R0.free,fun k hk=>Nat.le_trans aS (R0.new k hk),R0.addr⟩
 clear R0
 have aX:w.heap.size+1<w4.heap.size:=z.out.lt
 unfold pv
 go_upto_region 4 with fail
 refine zL (R:=fun W=>Bx D S4 W (w.heap.size) _∧Bx D S4 W (w.heap.size+1) _∧Bx D S4 W (w4.heap.size) _∧Row S4 W o w.heap.size ⟨some ⟨g,0,none⟩,rc⟩ l∧Mem C D A o S4 q4 W∧SB w.heap.size S w S4 W) ⟨(n.out.alloc _),(z.out.alloc _),(Bx.new ak.out _),(H.out.alloc _),(ak.out.alloc _),(au.out.alloc _)⟩ ?_
 clear n z au ak
 clear H
 rintro w5 ⟨O,M,X2,R0,m5,t5⟩
 have H:=zc R0
 clear R0
 have n:=zc O
 have z:=zc M
 have E:=zc X2
 have aL:=zc m5
 have aK:=zc t5
 clear m5 t5 O M X2
 obtain⟨c0,c1,c2,c3,c4,c5,c6,c7,c8,c9,aT,aU,cf⟩:=E.out.box
 go_wp2_with fail
 refine (zaH C D A o _ S4 q4 z4 0 zU _ aN.out.fst aL.out).mono ?_
 rintro e w6 ⟨S6,q6,z6,rfl,i6,m6,s6⟩
 replace n:=zc (n.out.stp s6)
 replace z:=zc (z.out.stp s6)
 replace E:=zc (E.out.stp s6)
 have aD:=zc (aK.out.step s6)
 have N:Hid (Row S6 w6 o w.heap.size ⟨some ⟨g,0,none⟩,rc⟩ l):=H.out.stp s6
 clear H
 have H:=zc N
 clear N
 clear aK
 have aH:=zc m6
 have aV:=zc i6
 clear i6 m6 s6 aL
 clear c0 c1 c2 c3 c4 c5 c6 c7 c8 c9 aT aU cf
 go_wp2_with fail
 refine (zdA C D A o _ S6 q6 z6 0 _ aV.out aH.out).mono ?_
 rintro e w7 ⟨S7,q7,z7,n7,rfl,i7,m7,s7⟩
 replace n:=zc (n.out.stp s7)
 replace z:=zc (z.out.stp s7)
 replace E:=zc (E.out.stp s7)
 have aJ:=zc (aD.out.step s7)
 have N:Hid (Row S7 w7 o w.heap.size ⟨some ⟨g,0,none⟩,rc⟩ l):=H.out.stp s7
 clear H
 have H:=zc N
 clear N
 clear aD
 have ae:=zc m7
 have aI:=zc i7
 clear i7 m7 s7 aH
 have aY:w.heap.size+1<w7.heap.size:=z.out.lt
 have aO:w4.heap.size<w7.heap.size:=E.out.lt
 unfold pv
 go_upto_region 5 with fail
 refine zL (R:=fun W=>Bx D S7 W (w.heap.size) _∧Bx D S7 W (w.heap.size+1) _∧Bx D S7 W (w4.heap.size) _∧Bx D S7 W (w7.heap.size) _∧Row S7 W o w.heap.size ⟨some ⟨g,0,none⟩,rc⟩ l∧Mem C D A o S7 q7 W∧SB w.heap.size S w S7 W) ⟨(n.out.alloc _),(z.out.alloc _),(E.out.alloc _),(Bx.new ae.out _),(H.out.alloc _),(ae.out.alloc _),(aJ.out.alloc _)⟩ ?_
 clear n z E aJ ae
 clear H
 rintro w8 ⟨O,M,X2,X3,R0,m8,t8⟩
 have H:=zc R0
 clear R0
 have n:=zc O
 have z:=zc M
 have E:=zc X2
 have Q:=zc X3
 have aB:=zc m8
 have aM:=zc t8
 clear m8 t8 O M X2 X3
 obtain⟨d0,d1,d2,d3,d4,d5,d6,d7,d8,d9,ai,ah,df⟩:=Q.out.box
 go_wp2_with fail
 refine (zad C D A o _ S7 q7 z7 0 cSemi _ aI.out.fst aB.out).mono ?_
 rintro e w9 ⟨X,q9,z9,rfl,i9,m9,s9⟩
 replace n:=zc (n.out.stp s9)
 replace z:=zc (z.out.stp s9)
 replace E:=zc (E.out.stp s9)
 replace Q:=zc (Q.out.stp s9)
 have ab:=zc (aM.out.step s9)
 have N:Hid (Row X w9 o w.heap.size ⟨some ⟨g,0,none⟩,rc⟩ l):=H.out.stp s9
 clear H
 have H:=zc N
 clear N
 clear aM
 have Z:=zc m9
 have V:=zc i9
 clear i9 m9 s9 aB
 clear d0 d1 d2 d3 d4 d5 d6 d7 d8 d9 ai ah df
 obtain⟨a0,a1,a2,a3,a4,a5,a6,a7,a8,a9,I,J,af⟩:=n.out.box
 unfold pv
 go_upto_region 6 with fail
 refine zL (R:=fun W=>Bx D X W (w.heap.size) _∧Bx D X W (w.heap.size+1) _∧Bx D X W (w4.heap.size) _∧Bx D X W (w7.heap.size) _∧Row X W o w.heap.size ⟨some ⟨g,0,none⟩,rc⟩ l∧Mem C D A o X q9 W∧SB w.heap.size S w X W) ⟨(n.out.put ..),(z.out.other (by omega) ..),(E.out.other (by omega) ..),(Q.out.other (by omega) ..),(H.out.put n.out ..),(Z.out.put n.out ..),(ab.out.put (by omega) ..)⟩ ?_
 clear a0 a1 a2 a3 a4 a5 a6 a7 a8 a9 I J af
 clear n z E Q ab Z
 clear H
 rintro ay ⟨O,M,X2,X3,R0,aa,aG⟩
 have H:=zc R0
 clear R0
 have n:=zc O
 have z:=zc M
 have E:=zc X2
 have Q:=zc X3
 have U:=zc aa
 have ad:=zc aG
 clear aa aG O M X2 X3
 have aQ:Hid (_=_):=zgI (G:=fun b e=>zak C (zbF b e)) aN.out aI.out
 go_wp2
 go_loopg [8] l.length (fun k i wr=>∃(j:Nat) (x':PR) (L:Sv) (q':PS) (z':Int),j≤l.length∧i= .int .i64 j∧Is x' q' z'∧(z'<0→1≤q'.pos)∧zP (fun e=>zak C (zbF n7 e)) (l.drop j) x'=zaQ C q∧l.length-j=k∧Mem C D A o L q' wr∧SB w.heap.size S w L wr∧Bx D L wr w.heap.size #[.slice (some ⟨D,0,none⟩) C.ts.length A,.int .i64 q'.pos,.int .i64 C.fin,.bool C.scr,.slice L.rq.a q'.rq.length L.rq.cap,.slice L.im.a q'.im.length L.im.cap,.slice L.ep.a q'.ep.length L.ep.cap,.slice L.st.a q'.st.length L.st.cap,.slice L.ex.a q'.ex.length L.ex.cap,.slice L.la.a q'.la.length L.la.cap,.int .i64 z',.int .i64 0]∧Bx D L wr (w.heap.size+1) #[.slice none 0 0,.int .i64 0,.int .i64 0,.bool false,.slice none 0 0,.slice none 0 0,.slice none 0 0,.slice none 0 0,.slice none 0 0,.slice none 0 0,.int .i64 0,.int .i64 0]∧Row L wr o w.heap.size ⟨some ⟨g,0,none⟩,rc⟩ l)
 case atStart=>exact⟨0,_,X,q9,z9,Nat.zero_le _,rfl,V.out,zbh V.out,by rw[HV.out,←HQ.out];exact aQ.out,rfl,U.out,ad.out,n.out,z.out,H.out⟩
 case round=>
  obtain⟨j,x9,X,q9,z9,hj,rfl,i9,p9,e9,g9,m9,t9,O,M,R0⟩:=hrel
  clear n z E Q H U ad
  have n:=zc O
  have z:=zc M
  have Z:=zc m9
  have ab:=zc t9
  have V:=zc i9
  have aw:=zc p9
  have ax:=zc e9
  have aq:=zc g9
  have H:=zc R0
  clear O M i9 m9 t9 e9 g9 R0 p9
  by_cases ao:j<l.length
  ·skip
   obtain⟨c1,c2⟩:=H.out.cells (g:=g) rfl ao
   have ba:=H.out.own.lt (g:=g) rfl
   have HX:Hid (∀e,e=l[j]→zP (fun e=>zak C (zbF n7 e)) (l.drop (j+1)) (bd x9 (zak C (zbF n7 e)))=zaQ C q):=fun e he=>by rw[he,←ax.out];exact (zf7 (fun e=>zak C (zbF n7 e)) l x9 ao).symm
   generalize aF:l[j]=el at c1 c2
   have aR:Hid (el=l[j]):=aF.symm
   clear aF
   obtain⟨a0,a1,a2,a3,a4,a5,a6,a7,a8,a9,I,J,af⟩:=n.out.box
   go_upto_region 9 with fail
   go_region_law (first|(go_simp;go_wp2_with (go_at_call 132;refine (zg0 C D A o x9 X q9 z9 0 (zbF n7 el) _ V.out Z.out.drew aw.out).mono ?_;rintro e ay ⟨aA,aW,aP,rfl,as,aa,am⟩;obtain⟨d0,d1,d2,d3,d4,d5,d6,d7,d8,d9,ai,ah,df⟩:=(n.out.stp am.undrew).box;unfold pv)))
   all_goals
    clear a0 a1 a2 a3 a4 a5 a6 a7 a8 a9 I J af d0 d1 d2 d3 d4 d5 d6 d7 d8 d9 ai ah df
    have ac:=zc as
    have U:=zc aa
    have K:Hid (Stp X wr aA ay):=am.undrew
    clear as aa am
    go_wp2
    go_roundg (gk-1)
    case rel=>exact⟨j+1,_,aA,aW,aP,by omega,by go_num,ac.out,zn1 aw.out V.out ac.out,HX.out el aR.out,by have:=aq.out;omega,U.out.put (n.out.stp K.out) _ _ _ _ _ _ _ _ _ _ _ _,(ab.out.step K.out).put (by omega) _ _ _ _ _ _ _ _ _ _ _ _,(n.out.stp K.out).put _ _ _ _ _ _ _ _ _ _ _ _,(z.out.stp K.out).other (by omega) _ _ _ _ _ _ _ _ _ _ _ _,(H.out.stp K.out).put (n.out.stp K.out) _ _ _ _ _ _ _ _ _ _ _ _⟩
    case measure=>have:=aq.out;omega
  ·skip
   obtain⟨a0,a1,a2,a3,a4,a5,a6,a7,a8,a9,I,J,af⟩:=n.out.box
   obtain⟨b0,b1,b2,b3,b4,b5,b6,b7,b8,b9,bb,aZ,bf⟩:=z.out.box
   go_wp2
   refine bodyPost_ret (results_cell_row rfl _ _ (w.heap.size+1) 53 _ (0,0) _ rfl ((z.out.put ..)).heap Tryz.underlying53 rfl (by kernel_rfl)) rfl ?_
   exact zY rfl (show Is (zaQ C q) q9 z9 from by rw[←ax.out,List.drop_eq_nil_of_le (by omega)];exact V.out) (Z.out.put z.out ..) (ab.out.put (by omega) ..)
theorem zn6 {C:Cx} {k:Int} {n:ByteArray} {q q':PS} (h:zV C k n q= .ok q'):q'={q with st:=q.st++[⟨k,n,(q.ex.length:Int)-1⟩]}∧q.st.length<80:=by
 unfold zV at h
 split at h
 ·cases h
 ·cases h
  exact⟨rfl,by omega⟩
theorem ziM {C:Cx} {x:PR} {k:Int} {s:ByteArray} {j:Int} {n:ByteArray} {q:PS} {z:Int} (h:Is (bd (bd x (zd C k s)) (zV C j n)) q z):z<0→1≤q.pos:=by
 intro D
 obtain⟨e,_⟩:=zaC h D
 obtain⟨a,E,A⟩:=zf e
 obtain⟨b,_,o⟩:=zf E
 obtain⟨rfl,_⟩:=zb4 o
 obtain⟨rfl,_⟩:=zn6 A
 simp[adv]
theorem ziN {C:Cx} {y:PRN} {G:PR→PR} {k:Int} {s:ByteArray} {j:Int} {q:PS} {z:Int} {n:ByteArray} (h:Is2 (withN y fun x n=>bd (bd (G x) (zd C k s)) (zV C j n)) q z n):z<0→1≤q.pos:=by
 intro D
 cases y with
 |error e=>have:z=(e:Int):=h;omega
 |ok a=>
  have o:Is2 (bd (bd (bd (G (.ok a.1)) (zd C k s)) (zV C j a.2)) fun q=>.ok (q,a.2)) q z n:=h
  cases A:bd (bd (G (.ok a.1)) (zd C k s)) (zV C j a.2) with
  |error e=>rw[A] at o;have:z=(e:Int):=o;omega
  |ok b=>
   rw[A] at o
   obtain⟨rfl,rfl,_⟩:=o
   exact ziM (show Is (bd (bd (G (.ok a.1)) (zd C k s)) (zV C j a.2)) q (-1) by rw[A];exact⟨rfl,rfl⟩) (by decide)
theorem zn7 {C:Cx} {j q:PS} {z:Int} {n:ByteArray} (h:Is2 (zcj C j) q z n):z<0→1≤q.pos:=ziN (G:=fun x=>bd (bd x (zd C 4 cEq)) (pE C .sum 0)) h
theorem zn8 {C:Cx} {j q:PS} {z:Int} {n:ByteArray} (h:Is2 (fnP C j) q z n):z<0→1≤q.pos:=ziN (G:=fun x=>bd (bd (bd (bd (bd (bd x (zd C 4 zn)) (zd C 4 za0)) (zd C 4 zJ)) (zd C 1 zdT)) (pE C .sum 0)) (zd C 4 cSemi)) h
theorem zn9 {C:Cx} {x:PR} {o:PS} {z:Int} {n:ByteArray} {G:ByteArray→PS→PR} (j:Is2 (bd (bd x (zd C 1 zU)) (zH C)) o z n):
  bd (bd (zaK (bd (bd x (zd C 1 zU)) (zH C))) (zd C 4 cSemi)) (G n)=bd (zaR C (zaE C x)) fun b=>G b.2 b.1:=by
 have D:bd (bd x (zd C 1 zU)) (zH C)=zaE C x:=rfl
 rw[D] at j ⊢
 cases A:zaE C x with
 |error e=>rfl
 |ok b=>
  rw[A] at j
  obtain⟨_,_,rfl⟩:=j
  show bd (zd C 4 cSemi b.1) (G b.2)=bd (bd (zd C 4 cSemi b.1) fun q=>.ok (q,b.2)) fun b=>G b.2 b.1
  rw[zM]
  rfl
theorem znA {C:Cx} {y:PRL} {n:PS} {j:Int} {l:List Ep} {f:Ep→PS→PR} {D:PS×List Ep→PR} (A:Is3 y n j l) (z:za8 l=false) (o:(decide (j<0)&&isT C n.pos 1 zU)=false):
  zP f l (bd (zeS y) (zd C 4 cSemi))=bd y fun a=>if !za8 a.2&& !isT C a.1.pos 1 zU then bd (zd C 4 cSemi a.1) fun q=>zP f a.2 (.ok q) else D a:=by
 cases y with
 |error e=>exact zeR _ _ _
 |ok a=>
  obtain⟨rfl,rfl,rfl⟩:=A
  rw[Bool.and_eq_false_iff] at o
  rw[zz,z,o.resolve_left (by decide)]
  show zP f a.2 (zd C 4 cSemi a.1)=bd (zd C 4 cSemi a.1) fun q=>zP f a.2 (.ok q)
  cases zd C 4 cSemi a.1 with
  |error e=>exact zeR _ _ _
  |ok c=>rfl
theorem ziO {C:Cx} {y:PRL} {n:PS} {o:Int} {l:List Ep} {D E:PS×List Ep→PR} (q:Is3 y n o l) (j:za8 l=true∨(decide (o<0)&&isT C n.pos 1 zU)=true):
  bd y D=bd y fun a=>if !za8 a.2&& !isT C a.1.pos 1 zU then E a else D a:=by
 cases y with
 |error e=>rfl
 |ok a=>
  obtain⟨rfl,rfl,rfl⟩:=q
  rw[zz,zz]
  rcases j with h|h
  ·rw[h];rfl
  ·rw[Bool.and_eq_true] at h
   rw[h.2,Bool.not_true,Bool.and_false]
   rfl
theorem znB (C:Cx) (A z o:Nat) (S:Sv) (q:PS) (w:World) (hm:Mem C A z o S q w) (hw:isT C q.pos 1 zaf=true) (h1:isT C (q.pos+1) 4 zJ=false) (h2:isT C (q.pos+1) 4 zw=true):
  Calls Tryz.prog 71 #[pv C A z S q (-1) 0] w (Out C A z o (zag C q) 0 S w):=by
 have HM:=zc hm
 have M:=hm.few
 clear hm
 have HV:Hid (zag C q=bd (zaR C (zaE C (bd (.ok (adv q)) (zd C 4 zw)))) fun b=>zo C ⟨3,sNone,sNone,b.2⟩ b.1):=by
  show _=_
  rw[zag,zd,if_pos hw,zz]
  rw[zx,h1,h2]
  rfl
 unfold pv
 go_enter Tryz.func71,Tryz.ntmps71
 go_wp2_with fail
 refine (zaH C A z o (.ok q) S q (-1) 0 zaf _ (zX q) ((HM.out.alloc _).alloc _)).mono ?_
 rintro e w1 ⟨S1,O,z1,rfl,i1,m1,s1⟩
 obtain⟨N,L,t1⟩:=HM.out.two2 s1
 have j:=zc N
 have n:=zc L
 have ao:=zc m1
 have am:=zc t1
 have ah:=zc i1
 clear N L i1 m1 t1 s1
 obtain⟨ab,rfl⟩:=zcO ah.out hw
 have HQ:=zc ab
 have ac:Hid (O.pos=q.pos+1):=by show O.pos=q.pos+1;rw[ab];rfl
 clear ab ah
 obtain⟨V,a1,a2,a3,a4,Y,X,Z,a8,Q,D,E,af⟩:=j.out.box
 unfold pv
 go_upto_region 2 with fail
 refine zL (R:=fun W=>Bx A S1 W (w.heap.size) _∧Bx A S1 W (w.heap.size+1) _∧Mem C A z o S1 O W∧SB w.heap.size S w S1 W) ⟨(j.out.put ..),(n.out.other (by omega) ..),(ao.out.put j.out ..),(am.out.put (by omega) ..)⟩ ?_
 clear V a1 a2 a3 a4 Y X Z a8 Q D E af
 clear j n am ao
 rintro w2 ⟨N,L,m2,t2⟩
 have j:=zc N
 have n:=zc L
 have ad:=zc m2
 have ae:=zc t2
 clear m2 t2 N L
 obtain⟨V,a1,a2,a3,a4,Y,X,Z,a8,Q,D,E,af⟩:=j.out.box
 go_wp2_with fail
 refine (zh C A z o S1 O (-1) 0 4 zJ _ ad.out.tok M (by decide)).mono ?_
 rintro e w3 ⟨rfl,H⟩
 rw[ac.out,h1]
 replace j:=zc (j.out.below H)
 replace n:=zc (n.out.below H)
 have au:=zc (ae.out.below H)
 have U:=zc (ad.out.later H)
 clear H ae ad
 clear V a1 a2 a3 a4 Y X Z a8 Q D E af
 obtain⟨V,a1,a2,a3,a4,Y,X,Z,a8,Q,D,E,af⟩:=j.out.box
 go_wp2_with fail
 refine (zh C A z o S1 O (-1) 0 4 zw _ U.out.tok M (by decide)).mono ?_
 rintro e w4 ⟨rfl,I⟩
 rw[ac.out,h2]
 replace j:=zc (j.out.below I)
 replace n:=zc (n.out.below I)
 have aj:=zc (au.out.below I)
 have ay:=zc (U.out.later I)
 clear I au U
 clear V a1 a2 a3 a4 Y X Z a8 Q D E af
 obtain⟨V,a1,a2,a3,a4,Y,X,Z,a8,Q,D,E,af⟩:=j.out.box
 clear ac
 go_wp2_with fail
 refine (zad C A z o (.ok O) S1 O (-1) 0 zw _ (zX O) ay.out).mono ?_
 rintro e w5 ⟨S5,q5,z5,rfl,i5,m5,s5⟩
 replace j:=zc (j.out.stp s5)
 replace n:=zc (n.out.stp s5)
 have aA:=zc (aj.out.step s5)
 clear aj
 have aB:=zc m5
 have aF:=zc i5
 clear i5 m5 s5 ay
 clear V a1 a2 a3 a4 Y X Z a8 Q D E af
 go_wp2_with fail
 refine (zaH C A z o _ S5 q5 z5 0 zU _ aF.out aB.out).mono ?_
 rintro e w6 ⟨S6,q6,z6,rfl,i6,m6,s6⟩
 replace j:=zc (j.out.stp s6)
 replace n:=zc (n.out.stp s6)
 have ap:=zc (aA.out.step s6)
 clear aA
 have av:=zc m6
 have aG:=zc i6
 clear i6 m6 s6 aB
 go_wp2_with fail
 refine (zdA C A z o _ S6 q6 z6 0 _ aG.out av.out).mono ?_
 rintro e w7 ⟨S7,q7,z7,n7,rfl,i7,m7,s7⟩
 replace j:=zc (j.out.stp s7)
 replace n:=zc (n.out.stp s7)
 have az:=zc (ap.out.step s7)
 clear ap
 have aa:=zc m7
 have aw:=zc i7
 clear i7 m7 s7 av
 have aH:w.heap.size+1<w7.heap.size:=n.out.lt
 unfold pv
 go_upto_region 20 with fail
 refine zL (R:=fun W=>Bx A S7 W (w.heap.size) _∧Bx A S7 W (w.heap.size+1) _∧Bx A S7 W (w7.heap.size) _∧Mem C A z o S7 q7 W∧SB w.heap.size S w S7 W) ⟨(j.out.alloc _),(n.out.alloc _),(Bx.new aa.out _),(aa.out.alloc _),(az.out.alloc _)⟩ ?_
 clear j n az aa
 rintro w8 ⟨N,L,X2,m8,t8⟩
 have j:=zc N
 have n:=zc L
 have J:=zc X2
 have an:=zc m8
 have aC:=zc t8
 clear m8 t8 N L X2
 obtain⟨c0,c1,c2,c3,c4,c5,c6,c7,c8,c9,aD,aE,cf⟩:=J.out.box
 go_wp2_with fail
 refine (zad C A z o _ S7 q7 z7 0 cSemi _ aw.out.fst an.out).mono ?_
 rintro e w9 ⟨S9,q9,z9,rfl,i9,m9,s9⟩
 replace j:=zc (j.out.stp s9)
 replace n:=zc (n.out.stp s9)
 replace J:=zc (J.out.stp s9)
 have ax:=zc (aC.out.step s9)
 clear aC
 have al:=zc m9
 have aq:=zc i9
 clear i9 m9 s9 an
 clear c0 c1 c2 c3 c4 c5 c6 c7 c8 c9 aD aE cf
 go_wp2_with fail
 refine (zd6 C A z o _ S9 q9 z9 0 ⟨3,sNone,sNone,n7⟩ _ aq.out al.out (zbh aq.out)).mono ?_
 rintro e aK ⟨aM,aN,aJ,rfl,ai,as,K⟩
 replace j:=zc (j.out.stp K)
 replace n:=zc (n.out.stp K)
 replace J:=zc (J.out.stp K)
 have ar:=zc (ax.out.step K)
 clear ax
 have ag:=zc as
 have ak:=zc ai
 clear ai as K al
 obtain⟨b0,b1,b2,b3,b4,b5,b6,b7,b8,b9,aL,aI,bf⟩:=n.out.box
 unfold pv
 go_wp2
 refine bodyPost_ret (results_cell_row rfl _ _ (w.heap.size+1) 53 _ (0,0) _ rfl ((n.out.put ..)).heap Tryz.underlying53 rfl (by kernel_rfl)) rfl ?_
 rw[HV.out,←HQ.out,←zn9 (G:=fun b=>zo C ⟨3,sNone,sNone,b⟩) aw.out]
 exact zY rfl ak.out (ag.out.put n.out ..) (ar.out.put (by omega) ..)
theorem znC (C:Cx) (A z o:Nat) (S:Sv) (q:PS) (w:World) (hm:Mem C A z o S q w) (hw:isT C q.pos 1 zaf=true) (h1:isT C (q.pos+1) 4 zJ=false) (h2:isT C (q.pos+1) 4 zw=false) (h3:isT C (q.pos+1) 1 sDefault=true):
  Calls Tryz.prog 71 #[pv C A z S q (-1) 0] w (Out C A z o (zag C q) 0 S w):=by
 have HM:=zc hm
 have M:=hm.few
 clear hm
 have HV:Hid (zag C q=bd (bd (bd (bd (bd (.ok (adv q)) (zd C 1 sDefault)) (pE C .sum 0)) (zd C 4 cSemi)) (zV C 1 zbN)) (zo C ⟨1,sDefault,zbN,sNone⟩)):=by
  show _=_
  rw[zag,zd,if_pos hw,zz]
  rw[zx,h1,h2,h3]
  rfl
 unfold pv
 go_enter Tryz.func71,Tryz.ntmps71
 go_wp2_with fail
 refine (zaH C A z o (.ok q) S q (-1) 0 zaf _ (zX q) ((HM.out.alloc _).alloc _)).mono ?_
 rintro e w1 ⟨S1,q1,z1,rfl,i1,m1,s1⟩
 obtain⟨X0,X1,t1⟩:=HM.out.two2 s1
 have j:=zc X0
 have n:=zc X1
 have av:=zc m1
 have ar:=zc t1
 have am:=zc i1
 clear X0 X1 i1 m1 t1 s1
 obtain⟨ae,rfl⟩:=zcO am.out hw
 have HQ:=zc ae
 have Z:Hid (q1.pos=q.pos+1):=by show q1.pos=q.pos+1;rw[ae];rfl
 clear ae am
 obtain⟨Q,a1,a2,a3,a4,V,U,X,Y,O,D,E,af⟩:=j.out.box
 unfold pv
 go_upto_region 2 with fail
 refine zL (R:=fun W=>Bx A S1 W (w.heap.size) _∧Bx A S1 W (w.heap.size+1) _∧Mem C A z o S1 q1 W∧SB w.heap.size S w S1 W) ⟨(j.out.put ..),(n.out.other (by omega) ..),(av.out.put j.out ..),(ar.out.put (by omega) ..)⟩ ?_
 clear Q a1 a2 a3 a4 V U X Y O D E af
 clear j n ar av
 rintro w2 ⟨X0,X1,m2,t2⟩
 have j:=zc X0
 have n:=zc X1
 have ai:=zc m2
 have aj:=zc t2
 clear m2 t2 X0 X1
 obtain⟨Q,a1,a2,a3,a4,V,U,X,Y,O,D,E,af⟩:=j.out.box
 go_wp2_with fail
 refine (zh C A z o S1 q1 (-1) 0 4 zJ _ ai.out.tok M (by decide)).mono ?_
 rintro e w3 ⟨rfl,H⟩
 rw[Z.out,h1]
 replace j:=zc (j.out.below H)
 replace n:=zc (n.out.below H)
 have ay:=zc (aj.out.below H)
 have ad:=zc (ai.out.later H)
 clear H aj ai
 clear Q a1 a2 a3 a4 V U X Y O D E af
 obtain⟨Q,a1,a2,a3,a4,V,U,X,Y,O,D,E,af⟩:=j.out.box
 go_wp2_with fail
 refine (zh C A z o S1 q1 (-1) 0 4 zw _ ad.out.tok M (by decide)).mono ?_
 rintro e w4 ⟨rfl,I⟩
 rw[Z.out,h2]
 replace j:=zc (j.out.below I)
 replace n:=zc (n.out.below I)
 have ap:=zc (ay.out.below I)
 have ah:=zc (ad.out.later I)
 clear I ay ad
 clear Q a1 a2 a3 a4 V U X Y O D E af
 obtain⟨Q,a1,a2,a3,a4,V,U,X,Y,O,D,E,af⟩:=j.out.box
 go_wp2_with fail
 refine (zh C A z o S1 q1 (-1) 0 1 sDefault _ ah.out.tok M (by decide)).mono ?_
 rintro e w5 ⟨rfl,K⟩
 rw[Z.out,h3]
 replace j:=zc (j.out.below K)
 replace n:=zc (n.out.below K)
 have aD:=zc (ap.out.below K)
 have aF:=zc (ah.out.later K)
 clear K ap ah
 clear Q a1 a2 a3 a4 V U X Y O D E af
 obtain⟨Q,a1,a2,a3,a4,V,U,X,Y,O,D,E,af⟩:=j.out.box
 clear Z
 go_wp2_with fail
 refine (zaH C A z o (.ok q1) S1 q1 (-1) 0 sDefault _ (zX q1) aF.out).mono ?_
 rintro e w6 ⟨S6,q6,z6,rfl,i6,m6,s6⟩
 replace j:=zc (j.out.stp s6)
 replace n:=zc (n.out.stp s6)
 have aw:=zc (aD.out.step s6)
 clear aD
 have aA:=zc m6
 have aM:=zc i6
 clear i6 m6 s6 aF
 clear Q a1 a2 a3 a4 V U X Y O D E af
 go_wp2_with fail
 refine (zcN C A z o _ S6 q6 z6 _ aM.out aA.out).mono ?_
 rintro e w7 ⟨S7,q7,z7,rfl,i7,m7,s7⟩
 replace j:=zc (j.out.stp s7)
 replace n:=zc (n.out.stp s7)
 have aC:=zc (aw.out.step s7)
 clear aw
 have as:=zc m7
 have aL:=zc i7
 clear i7 m7 s7 aA
 go_wp2_with fail
 refine (zad C A z o _ S7 q7 z7 0 cSemi _ aL.out as.out).mono ?_
 rintro e w8 ⟨S8,q8,z8,rfl,i8,m8,s8⟩
 replace j:=zc (j.out.stp s8)
 replace n:=zc (n.out.stp s8)
 have aG:=zc (aC.out.step s8)
 clear aC
 have ag:=zc m8
 have al:=zc i8
 clear i8 m8 s8 as
 have aO:w.heap.size+1<w8.heap.size:=n.out.lt
 unfold pv
 go_upto_region 23 with fail
 refine zL (R:=fun W=>Bx A S8 W (w.heap.size) _∧Bx A S8 W (w.heap.size+1) _∧Bx A S8 W (w8.heap.size) _∧Mem C A z o S8 q8 W∧SB w.heap.size S w S8 W) ⟨(j.out.alloc _),(n.out.alloc _),(Bx.new ag.out _),(ag.out.alloc _),(aG.out.alloc _)⟩ ?_
 clear j n aG ag
 rintro w9 ⟨X0,X1,X2,m9,t9⟩
 have j:=zc X0
 have n:=zc X1
 have J:=zc X2
 have aq:=zc m9
 have aB:=zc t9
 clear m9 t9 X0 X1 X2
 obtain⟨c0,c1,c2,c3,c4,c5,c6,c7,c8,c9,aI,aK,cf⟩:=J.out.box
 go_wp2_with fail
 refine (zcK C A z o _ S8 q8 z8 0 1 zbN _ al.out aq.out (zbh al.out)).mono ?_
 rintro e aR ⟨aJ,aN,aH,rfl,ao,ax,N⟩
 replace j:=zc (j.out.stp N)
 replace n:=zc (n.out.stp N)
 replace J:=zc (J.out.stp N)
 have ac:=zc (aB.out.step N)
 clear aB
 have aa:=zc ax
 have ab:=zc ao
 clear ao ax N aq
 clear c0 c1 c2 c3 c4 c5 c6 c7 c8 c9 aI aK cf
 go_wp2_with fail
 refine (zd6 C A z o _ aJ aN aH 0 ⟨1,sDefault,zbN,sNone⟩ _ ab.out aa.out (ziM ab.out)).mono ?_
 rintro e aT ⟨aP,aV,aU,rfl,an,aE,L⟩
 replace j:=zc (j.out.stp L)
 replace n:=zc (n.out.stp L)
 replace J:=zc (J.out.stp L)
 have az:=zc (ac.out.step L)
 clear ac
 have ak:=zc aE
 have au:=zc an
 clear an aE L aa
 obtain⟨b0,b1,b2,b3,b4,b5,b6,b7,b8,b9,aS,aQ,bf⟩:=n.out.box
 unfold pv
 go_wp2
 refine bodyPost_ret (results_cell_row rfl _ _ (w.heap.size+1) 53 _ (0,0) _ rfl ((n.out.put ..)).heap Tryz.underlying53 rfl (by kernel_rfl)) rfl ?_
 rw[HV.out,←HQ.out]
 exact zY rfl au.out (ak.out.put n.out ..) (az.out.put (by omega) ..)
theorem znD (C:Cx) (H A z:Nat) (S:Sv) (q:PS) (w:World) (hm:Mem C H A z S q w) (hw:isT C q.pos 1 zaf=true) (h1:isT C (q.pos+1) 4 zJ=false) (h2:isT C (q.pos+1) 4 zw=false) (h3:isT C (q.pos+1) 1 sDefault=false) (h4:isT C (q.pos+1) 1 zC=true):
  Calls Tryz.prog 71 #[pv C H A S q (-1) 0] w (Out C H A z (zag C q) 0 S w):=by
 have HM:=zc hm
 have I:=hm.few
 clear hm
 have HV:Hid (zag C q=bd (zcj C (adv q)) fun a=>zo C ⟨1,a.2,a.2,sNone⟩ a.1):=by
  show _=_
  rw[zag,zd,if_pos hw,zz]
  rw[zx,h1,h2,h3,h4]
  rfl
 unfold pv
 go_enter Tryz.func71,Tryz.ntmps71
 go_wp2_with fail
 refine (zaH C H A z (.ok q) S q (-1) 0 zaf _ (zX q) ((HM.out.alloc _).alloc _)).mono ?_
 rintro e w1 ⟨S1,q1,z1,rfl,i1,m1,s1⟩
 obtain⟨X0,X1,t1⟩:=HM.out.two2 s1
 have j:=zc X0
 have o:=zc X1
 have ao:=zc m1
 have am:=zc t1
 have ak:=zc i1
 clear X0 X1 i1 m1 t1 s1
 obtain⟨ad,rfl⟩:=zcO ak.out hw
 have HQ:=zc ad
 have X:Hid (q1.pos=q.pos+1):=by show q1.pos=q.pos+1;rw[ad];rfl
 clear ad ak
 obtain⟨L,a1,a2,a3,a4,O,M,U,V,K,D,E,Z⟩:=j.out.box
 unfold pv
 go_upto_region 2 with fail
 refine zL (R:=fun W=>Bx H S1 W (w.heap.size) _∧Bx H S1 W (w.heap.size+1) _∧Mem C H A z S1 q1 W∧SB w.heap.size S w S1 W) ⟨(j.out.put ..),(o.out.other (by omega) ..),(ao.out.put j.out ..),(am.out.put (by omega) ..)⟩ ?_
 clear L a1 a2 a3 a4 O M U V K D E Z
 clear j o am ao
 rintro w2 ⟨X0,X1,m2,t2⟩
 have j:=zc X0
 have o:=zc X1
 have ah:=zc m2
 have aj:=zc t2
 clear m2 t2 X0 X1
 obtain⟨L,a1,a2,a3,a4,O,M,U,V,K,D,E,Z⟩:=j.out.box
 go_wp2_with fail
 refine (zh C H A z S1 q1 (-1) 0 4 zJ _ ah.out.tok I (by decide)).mono ?_
 rintro e w3 ⟨rfl,J⟩
 rw[X.out,h1]
 replace j:=zc (j.out.below J)
 replace o:=zc (o.out.below J)
 have aq:=zc (aj.out.below J)
 have aa:=zc (ah.out.later J)
 clear J aj ah
 clear L a1 a2 a3 a4 O M U V K D E Z
 obtain⟨L,a1,a2,a3,a4,O,M,U,V,K,D,E,Z⟩:=j.out.box
 go_wp2_with fail
 refine (zh C H A z S1 q1 (-1) 0 4 zw _ aa.out.tok I (by decide)).mono ?_
 rintro e w4 ⟨rfl,N⟩
 rw[X.out,h2]
 replace j:=zc (j.out.below N)
 replace o:=zc (o.out.below N)
 have al:=zc (aq.out.below N)
 have ag:=zc (aa.out.later N)
 clear N aq aa
 clear L a1 a2 a3 a4 O M U V K D E Z
 obtain⟨L,a1,a2,a3,a4,O,M,U,V,K,D,E,Z⟩:=j.out.box
 go_wp2_with fail
 refine (zh C H A z S1 q1 (-1) 0 1 sDefault _ ag.out.tok I (by decide)).mono ?_
 rintro e w5 ⟨rfl,Y⟩
 rw[X.out,h3]
 replace j:=zc (j.out.below Y)
 replace o:=zc (o.out.below Y)
 have au:=zc (al.out.below Y)
 have ai:=zc (ag.out.later Y)
 clear Y al ag
 clear L a1 a2 a3 a4 O M U V K D E Z
 obtain⟨L,a1,a2,a3,a4,O,M,U,V,K,D,E,Z⟩:=j.out.box
 go_wp2_with fail
 refine (zh C H A z S1 q1 (-1) 0 1 zC _ ai.out.tok I (by decide)).mono ?_
 rintro e w6 ⟨rfl,Q⟩
 rw[X.out,h4]
 replace j:=zc (j.out.below Q)
 replace o:=zc (o.out.below Q)
 have ap:=zc (au.out.below Q)
 have ar:=zc (ai.out.later Q)
 clear Q au ai
 clear L a1 a2 a3 a4 O M U V K D E Z
 obtain⟨L,a1,a2,a3,a4,O,M,U,V,K,D,E,Z⟩:=j.out.box
 clear X
 go_wp2_with fail
 refine (zgG C H A z S1 q1 _ ar.out).mono ?_
 rintro e w7 ⟨S7,q7,z7,n7,rfl,i7,m7,s7⟩
 replace j:=zc (j.out.stp s7)
 replace o:=zc (o.out.stp s7)
 have as:=zc (ap.out.step s7)
 clear ap
 have ac:=zc m7
 have ae:=zc i7
 clear i7 m7 s7 ar
 clear L a1 a2 a3 a4 O M U V K D E Z
 have aB:w.heap.size+1<w7.heap.size:=o.out.lt
 unfold pv
 go_upto_region 26 with fail
 refine zL (R:=fun W=>Bx H S7 W (w.heap.size) _∧Bx H S7 W (w.heap.size+1) _∧Bx H S7 W (w7.heap.size) _∧Mem C H A z S7 q7 W∧SB w.heap.size S w S7 W) ⟨(j.out.alloc _),(o.out.alloc _),(Bx.new ac.out _),(ac.out.alloc _),(as.out.alloc _)⟩ ?_
 clear j o as ac
 rintro w8 ⟨X0,X1,X2,m8,t8⟩
 have j:=zc X0
 have o:=zc X1
 have ab:=zc X2
 have an:=zc m8
 have av:=zc t8
 clear m8 t8 X0 X1 X2
 obtain⟨c0,c1,c2,c3,c4,c5,c6,c7,c8,c9,ax,az,cf⟩:=ab.out.box
 go_wp2_with fail
 refine (zd6 C H A z _ S7 q7 z7 0 ⟨1,n7,n7,sNone⟩ _ ae.out.fst an.out (zn7 ae.out)).mono ?_
 rintro e w9 ⟨S9,q9,z9,rfl,i9,m9,s9⟩
 replace j:=zc (j.out.stp s9)
 replace o:=zc (o.out.stp s9)
 replace ab:=zc (ab.out.stp s9)
 have aA:=zc (av.out.step s9)
 clear av
 have aw:=zc m9
 have ay:=zc i9
 clear i9 m9 s9 an
 clear c0 c1 c2 c3 c4 c5 c6 c7 c8 c9 ax az cf
 obtain⟨b0,b1,b2,b3,b4,b5,b6,b7,b8,b9,aD,aC,bf⟩:=o.out.box
 unfold pv
 go_wp2
 refine bodyPost_ret (results_cell_row rfl _ _ (w.heap.size+1) 53 _ (0,0) _ rfl ((o.out.put ..)).heap Tryz.underlying53 rfl (by kernel_rfl)) rfl ?_
 rw[HV.out,←HQ.out,←ae.out.bind (fun q n=>zo C ⟨1,n,n,sNone⟩ q)]
 exact zY rfl ay.out (aw.out.put o.out ..) (aA.out.put (by omega) ..)
theorem znE (C:Cx) (H A z:Nat) (S:Sv) (q:PS) (w:World) (hm:Mem C H A z S q w) (hw:isT C q.pos 1 zaf=true) (h1:isT C (q.pos+1) 4 zJ=false) (h2:isT C (q.pos+1) 4 zw=false) (h3:isT C (q.pos+1) 1 sDefault=false) (h4:isT C (q.pos+1) 1 zC=false) (h5:isT C (q.pos+1) 1 zT=true):
  Calls Tryz.prog 71 #[pv C H A S q (-1) 0] w (Out C H A z (zag C q) 0 S w):=by
 have HM:=zc hm
 have I:=hm.few
 clear hm
 have HV:Hid (zag C q=bd (fnP C (adv q)) fun a=>zo C ⟨1,a.2,a.2,sNone⟩ a.1):=by
  show _=_
  rw[zag,zd,if_pos hw,zz]
  rw[zx,h1,h2,h3,h4,h5]
  rfl
 unfold pv
 go_enter Tryz.func71,Tryz.ntmps71
 go_wp2_with fail
 refine (zaH C H A z (.ok q) S q (-1) 0 zaf _ (zX q) ((HM.out.alloc _).alloc _)).mono ?_
 rintro e w1 ⟨S1,q1,z1,rfl,i1,m1,s1⟩
 obtain⟨X0,X1,t1⟩:=HM.out.two2 s1
 have j:=zc X0
 have o:=zc X1
 have aA:=zc m1
 have ay:=zc t1
 have as:=zc i1
 clear X0 X1 i1 m1 t1 s1
 obtain⟨ak,rfl⟩:=zcO as.out hw
 have HQ:=zc ak
 have Q:Hid (q1.pos=q.pos+1):=by show q1.pos=q.pos+1;rw[ak];rfl
 clear ak as
 obtain⟨K,V,Z,Y,X,M,L,N,O,J,D,E,U⟩:=j.out.box
 unfold pv
 go_upto_region 2 with fail
 refine zL (R:=fun W=>Bx H S1 W (w.heap.size) _∧Bx H S1 W (w.heap.size+1) _∧Mem C H A z S1 q1 W∧SB w.heap.size S w S1 W) ⟨(j.out.put ..),(o.out.other (by omega) ..),(aA.out.put j.out ..),(ay.out.put (by omega) ..)⟩ ?_
 clear K V Z Y X M L N O J D E U
 clear j o ay aA
 rintro w2 ⟨X0,X1,m2,t2⟩
 have j:=zc X0
 have o:=zc X1
 have ao:=zc m2
 have aq:=zc t2
 clear m2 t2 X0 X1
 obtain⟨K,V,Z,Y,X,M,L,N,O,J,D,E,U⟩:=j.out.box
 go_wp2_with fail
 refine (zh C H A z S1 q1 (-1) 0 4 zJ _ ao.out.tok I (by decide)).mono ?_
 rintro e w3 ⟨rfl,aa⟩
 rw[Q.out,h1]
 replace j:=zc (j.out.below aa)
 replace o:=zc (o.out.below aa)
 have aE:=zc (aq.out.below aa)
 have ah:=zc (ao.out.later aa)
 clear aa aq ao
 clear K V Z Y X M L N O J D E U
 obtain⟨K,V,Z,Y,X,M,L,N,O,J,D,E,U⟩:=j.out.box
 go_wp2_with fail
 refine (zh C H A z S1 q1 (-1) 0 4 zw _ ah.out.tok I (by decide)).mono ?_
 rintro e w4 ⟨rfl,ac⟩
 rw[Q.out,h2]
 replace j:=zc (j.out.below ac)
 replace o:=zc (o.out.below ac)
 have av:=zc (aE.out.below ac)
 have an:=zc (ah.out.later ac)
 clear ac aE ah
 clear K V Z Y X M L N O J D E U
 obtain⟨K,V,Z,Y,X,M,L,N,O,J,D,E,U⟩:=j.out.box
 go_wp2_with fail
 refine (zh C H A z S1 q1 (-1) 0 1 sDefault _ an.out.tok I (by decide)).mono ?_
 rintro e w5 ⟨rfl,ae⟩
 rw[Q.out,h3]
 replace j:=zc (j.out.below ae)
 replace o:=zc (o.out.below ae)
 have aH:=zc (av.out.below ae)
 have ap:=zc (an.out.later ae)
 clear ae av an
 clear K V Z Y X M L N O J D E U
 obtain⟨K,V,Z,Y,X,M,L,N,O,J,D,E,U⟩:=j.out.box
 go_wp2_with fail
 refine (zh C H A z S1 q1 (-1) 0 1 zC _ ap.out.tok I (by decide)).mono ?_
 rintro e w6 ⟨rfl,ad⟩
 rw[Q.out,h4]
 replace j:=zc (j.out.below ad)
 replace o:=zc (o.out.below ad)
 have aB:=zc (aH.out.below ad)
 have am:=zc (ap.out.later ad)
 clear ad aH ap
 clear K V Z Y X M L N O J D E U
 obtain⟨K,V,Z,Y,X,M,L,N,O,J,D,E,U⟩:=j.out.box
 go_wp2_with fail
 refine (zh C H A z S1 q1 (-1) 0 1 zT _ am.out.tok I (by decide)).mono ?_
 rintro e w7 ⟨rfl,ab⟩
 rw[Q.out,h5]
 replace j:=zc (j.out.below ab)
 replace o:=zc (o.out.below ab)
 have aG:=zc (aB.out.below ab)
 have az:=zc (am.out.later ab)
 clear ab aB am
 clear K V Z Y X M L N O J D E U
 obtain⟨K,V,Z,Y,X,M,L,N,O,J,D,E,U⟩:=j.out.box
 clear Q
 go_wp2_with fail
 refine (zgH C H A z S1 q1 _ az.out).mono ?_
 rintro e w8 ⟨S8,q8,z8,n8,rfl,i8,m8,s8⟩
 replace j:=zc (j.out.stp s8)
 replace o:=zc (o.out.stp s8)
 have aI:=zc (aG.out.step s8)
 clear aG
 have al:=zc m8
 have ai:=zc i8
 clear i8 m8 s8 az
 clear K V Z Y X M L N O J D E U
 have aL:w.heap.size+1<w8.heap.size:=o.out.lt
 unfold pv
 go_upto_region 29 with fail
 refine zL (R:=fun W=>Bx H S8 W (w.heap.size) _∧Bx H S8 W (w.heap.size+1) _∧Bx H S8 W (w8.heap.size) _∧Mem C H A z S8 q8 W∧SB w.heap.size S w S8 W) ⟨(j.out.alloc _),(o.out.alloc _),(Bx.new al.out _),(al.out.alloc _),(aI.out.alloc _)⟩ ?_
 clear j o aI al
 rintro w9 ⟨X0,X1,X2,m9,t9⟩
 have j:=zc X0
 have o:=zc X1
 have aj:=zc X2
 have ax:=zc m9
 have aF:=zc t9
 clear m9 t9 X0 X1 X2
 obtain⟨c0,c1,c2,c3,c4,c5,c6,c7,c8,c9,aJ,aK,cf⟩:=aj.out.box
 go_wp2_with fail
 refine (zd6 C H A z _ S8 q8 z8 0 ⟨1,n8,n8,sNone⟩ _ ai.out.fst ax.out (zn8 ai.out)).mono ?_
 rintro e aO ⟨aQ,aR,aN,rfl,au,aD,ag⟩
 replace j:=zc (j.out.stp ag)
 replace o:=zc (o.out.stp ag)
 replace aj:=zc (aj.out.stp ag)
 have aC:=zc (aF.out.step ag)
 clear aF
 have ar:=zc aD
 have aw:=zc au
 clear au aD ag ax
 clear c0 c1 c2 c3 c4 c5 c6 c7 c8 c9 aJ aK cf
 obtain⟨b0,b1,b2,b3,b4,b5,b6,b7,b8,b9,aP,aM,bf⟩:=o.out.box
 unfold pv
 go_wp2
 refine bodyPost_ret (results_cell_row rfl _ _ (w.heap.size+1) 53 _ (0,0) _ rfl ((o.out.put ..)).heap Tryz.underlying53 rfl (by kernel_rfl)) rfl ?_
 rw[HV.out,←HQ.out,←ai.out.bind (fun q n=>zo C ⟨1,n,n,sNone⟩ q)]
 exact zY rfl aw.out (ar.out.put o.out ..) (aC.out.put (by omega) ..)
theorem znF (C:Cx) (J D o:Nat) (S:Sv) (q:PS) (w:World) (hm:Mem C J D o S q w) (hw:isT C q.pos 1 zaf=true) (h1:isT C (q.pos+1) 4 zJ=false) (h2:isT C (q.pos+1) 4 zw=false) (h3:isT C (q.pos+1) 1 sDefault=false) (h4:isT C (q.pos+1) 1 zC=false) (h5:isT C (q.pos+1) 1 zT=false):
  Calls Tryz.prog 71 #[pv C J D S q (-1) 0] w (Out C J D o (zag C q) 0 S w):=by
 have HM:=zc hm
 have E:=hm.few
 clear hm
 have HV:Hid (zag C q= .error (zr C (adv q).pos)):=by
  show _=_
  rw[zag,zd,if_pos hw,zz]
  rw[zx,h1,h2,h3,h4,h5]
  rfl
 unfold pv
 go_enter Tryz.func71,Tryz.ntmps71
 go_wp2_with fail
 refine (zaH C J D o (.ok q) S q (-1) 0 zaf _ (zX q) ((HM.out.alloc _).alloc _)).mono ?_
 rintro e w1 ⟨S1,q1,z1,rfl,i1,m1,s1⟩
 obtain⟨X0,X1,t1⟩:=HM.out.two2 s1
 have j:=zc X0
 have n:=zc X1
 have ar:=zc m1
 have aq:=zc t1
 have ao:=zc i1
 clear X0 X1 i1 m1 t1 s1
 obtain⟨ai,rfl⟩:=zcO ao.out hw
 have HQ:=zc ai
 have O:Hid (q1.pos=q.pos+1):=by show q1.pos=q.pos+1;rw[ai];rfl
 clear ai ao
 obtain⟨I,U,Y,X,V,L,K,M,N,H,z,A,Q⟩:=j.out.box
 unfold pv
 go_upto_region 2 with fail
 refine zL (R:=fun W=>Bx J S1 W (w.heap.size) _∧Bx J S1 W (w.heap.size+1) _∧Mem C J D o S1 q1 W∧SB w.heap.size S w S1 W) ⟨(j.out.put ..),(n.out.other (by omega) ..),(ar.out.put j.out ..),(aq.out.put (by omega) ..)⟩ ?_
 clear I U Y X V L K M N H z A Q
 clear j n aq ar
 rintro w2 ⟨X0,X1,m2,t2⟩
 have j:=zc X0
 have n:=zc X1
 have al:=zc m2
 have an:=zc t2
 clear m2 t2 X0 X1
 obtain⟨I,U,Y,X,V,L,K,M,N,H,z,A,Q⟩:=j.out.box
 go_wp2_with fail
 refine (zh C J D o S1 q1 (-1) 0 4 zJ _ al.out.tok E (by decide)).mono ?_
 rintro e w3 ⟨rfl,Z⟩
 rw[O.out,h1]
 replace j:=zc (j.out.below Z)
 replace n:=zc (n.out.below Z)
 have au:=zc (an.out.below Z)
 have ag:=zc (al.out.later Z)
 clear Z an al
 clear I U Y X V L K M N H z A Q
 obtain⟨I,U,Y,X,V,L,K,M,N,H,z,A,Q⟩:=j.out.box
 go_wp2_with fail
 refine (zh C J D o S1 q1 (-1) 0 4 zw _ ag.out.tok E (by decide)).mono ?_
 rintro e w4 ⟨rfl,ab⟩
 rw[O.out,h2]
 replace j:=zc (j.out.below ab)
 replace n:=zc (n.out.below ab)
 have ap:=zc (au.out.below ab)
 have ak:=zc (ag.out.later ab)
 clear ab au ag
 clear I U Y X V L K M N H z A Q
 obtain⟨I,U,Y,X,V,L,K,M,N,H,z,A,Q⟩:=j.out.box
 go_wp2_with fail
 refine (zh C J D o S1 q1 (-1) 0 1 sDefault _ ak.out.tok E (by decide)).mono ?_
 rintro e w5 ⟨rfl,ad⟩
 rw[O.out,h3]
 replace j:=zc (j.out.below ad)
 replace n:=zc (n.out.below ad)
 have aw:=zc (ap.out.below ad)
 have am:=zc (ak.out.later ad)
 clear ad ap ak
 clear I U Y X V L K M N H z A Q
 obtain⟨I,U,Y,X,V,L,K,M,N,H,z,A,Q⟩:=j.out.box
 go_wp2_with fail
 refine (zh C J D o S1 q1 (-1) 0 1 zC _ am.out.tok E (by decide)).mono ?_
 rintro e w6 ⟨rfl,ac⟩
 rw[O.out,h4]
 replace j:=zc (j.out.below ac)
 replace n:=zc (n.out.below ac)
 have as:=zc (aw.out.below ac)
 have aj:=zc (am.out.later ac)
 clear ac aw am
 clear I U Y X V L K M N H z A Q
 obtain⟨I,U,Y,X,V,L,K,M,N,H,z,A,Q⟩:=j.out.box
 go_wp2_with fail
 refine (zh C J D o S1 q1 (-1) 0 1 zT _ aj.out.tok E (by decide)).mono ?_
 rintro e w7 ⟨rfl,aa⟩
 rw[O.out,h5]
 replace j:=zc (j.out.below aa)
 replace n:=zc (n.out.below aa)
 have av:=zc (as.out.below aa)
 have ah:=zc (aj.out.later aa)
 clear aa as aj
 clear I U Y X V L K M N H z A Q
 obtain⟨I,U,Y,X,V,L,K,M,N,H,z,A,Q⟩:=j.out.box
 clear O
 go_wp2_with fail
 refine (zda C J D o S1 q1 (-1) 0 _ ah.out.tok E).mono ?_
 rintro e w8 ⟨rfl,ae⟩
 replace j:=zc (j.out.below ae)
 replace n:=zc (n.out.below ae)
 have ay:=zc (av.out.below ae)
 have ax:=zc (ah.out.later ae)
 clear ae av ah
 clear I U Y X V L K M N H z A Q
 obtain⟨b0,b1,b2,b3,b4,b5,b6,b7,b8,b9,aA,az,bf⟩:=n.out.box
 unfold pv
 go_wp2
 refine bodyPost_ret (results_cell_row rfl _ _ (w.heap.size+1) 53 _ (0,0) _ rfl ((n.out.put ..)).heap Tryz.underlying53 rfl (by kernel_rfl)) rfl ?_
 rw[HV.out,←HQ.out]
 exact zY rfl (show Is (.error (zr C q1.pos)) q1 _ from rfl) (ax.out.put n.out ..) (ay.out.put (by omega) ..)
theorem znG (C:Cx) (I D o:Nat) (S:Sv) (q:PS) (w:World) (hm:Mem C I D o S q w) (hw:isT C q.pos 1 zaf=true) (h1:isT C (q.pos+1) 4 zJ=true):
  Calls Tryz.prog 71 #[pv C I D S q (-1) 0] w (Out C I D o (zag C q) 0 S w):=by
 have HM:=zc hm
 have aI:=hm.few
 clear hm
 have HV:Hid (zag C q=bd (zcw C true (adv q)) fun a=>if !za8 a.2&& !isT C a.1.pos 1 zU then bd (zd C 4 cSemi a.1) fun q=>zP (fun e=>zo C (zA e)) a.2 (.ok q) else bd (zaR C (zaE C (.ok a.1))) fun b=>zP (fun e=>zo C (zai b.2 e)) a.2 (.ok b.1)):=by
  show _=_
  rw[zag,zd,if_pos hw,zz]
  rw[zx,h1]
  rfl
 unfold pv
 go_enter Tryz.func71,Tryz.ntmps71
 go_wp2_with fail
 refine (zaH C I D o (.ok q) S q (-1) 0 zaf _ (zX q) ((HM.out.alloc _).alloc _)).mono ?_
 rintro e w1 ⟨S1,q1,z1,rfl,i1,m1,s1⟩
 obtain⟨X,V,t1⟩:=HM.out.two2 s1
 have n:=zc X
 have z:=zc V
 have bc:=zc m1
 have aY:=zc t1
 have aW:=zc i1
 clear X V i1 m1 t1 s1
 obtain⟨aN,rfl⟩:=zcO aW.out hw
 have HQ:=zc aN
 have bb:Hid (q1.pos=q.pos+1):=by show q1.pos=q.pos+1;rw[aN];rfl
 clear aN aW
 obtain⟨a0,a1,a2,a3,a4,a5,a6,a7,a8,a9,L,M,af⟩:=n.out.box
 unfold pv
 go_upto_region 2 with fail
 refine zL (R:=fun W=>Bx I S1 W (w.heap.size) _∧Bx I S1 W (w.heap.size+1) _∧Mem C I D o S1 q1 W∧SB w.heap.size S w S1 W) ⟨(n.out.put ..),(z.out.other (by omega) ..),(bc.out.put n.out ..),(aY.out.put (by omega) ..)⟩ ?_
 clear a0 a1 a2 a3 a4 a5 a6 a7 a8 a9 L M af
 clear n z aY bc
 rintro w2 ⟨X,V,m2,t2⟩
 have n:=zc X
 have z:=zc V
 have aQ:=zc m2
 have aS:=zc t2
 clear m2 t2 X V
 have aM:Hid (zag C q=bd (zcw C true q1) fun a=>if !za8 a.2&& !isT C a.1.pos 1 zU then bd (zd C 4 cSemi a.1) fun q=>zP (fun e=>zo C (zA e)) a.2 (.ok q) else bd (zaR C (zaE C (.ok a.1))) fun b=>zP (fun e=>zo C (zai b.2 e)) a.2 (.ok b.1)):=by show _=_;rw[HQ.out];exact HV.out
 obtain⟨a0,a1,a2,a3,a4,a5,a6,a7,a8,a9,L,M,af⟩:=n.out.box
 go_wp2_with fail
 refine (zh C I D o S1 q1 (-1) 0 4 zJ _ aQ.out.tok aI (by decide)).mono ?_
 rintro e w3 ⟨rfl,aF⟩
 rw[bb.out,h1]
 replace n:=zc (n.out.below aF)
 replace z:=zc (z.out.below aF)
 have aO:=zc (aS.out.below aF)
 have aT:=zc (aQ.out.later aF)
 clear aF aS aQ
 clear a0 a1 a2 a3 a4 a5 a6 a7 a8 a9 L M af
 obtain⟨a0,a1,a2,a3,a4,a5,a6,a7,a8,a9,L,M,af⟩:=n.out.box
 clear bb
 have bj:=aO.out.size
 go_wp2_with fail
 refine (zi7 C I D o S1 q1 0 true _ aT.out).mono ?_
 rintro e w4 ⟨S4,q4,z4,⟨ra,rc⟩,l,rfl,i4,m4,s4,R0,hl⟩
 obtain⟨g,rfl⟩: ∃g,ra=some ⟨g,0,none⟩:=R0.addr
 replace n:=zc (n.out.stp s4)
 replace z:=zc (z.out.stp s4)
 have aX:=zc (aO.out.step s4)
 clear aO
 have aP:=zc m4
 have aA:=zc i4
 clear i4 m4 s4 aT
 clear a0 a1 a2 a3 a4 a5 a6 a7 a8 a9 L M af
 have E:Hid (Row S4 w4 o w.heap.size ⟨some ⟨g,0,none⟩,rc⟩ l):=⟨R0.own,R0.free,fun k hk=>Nat.le_trans bj (R0.new k hk),R0.addr⟩
 clear R0
 have bl:w.heap.size+1<w4.heap.size:=z.out.lt
 unfold pv
 go_upto_region 4 with fail
 refine zL (R:=fun W=>Bx I S4 W (w.heap.size) _∧Bx I S4 W (w.heap.size+1) _∧Bx I S4 W (w4.heap.size) _∧Row S4 W o w.heap.size ⟨some ⟨g,0,none⟩,rc⟩ l∧Mem C I D o S4 q4 W∧SB w.heap.size S w S4 W) ⟨(n.out.alloc _),(z.out.alloc _),(Bx.new aP.out _),(E.out.alloc _),(aP.out.alloc _),(aX.out.alloc _)⟩ ?_
 clear n z aX aP
 clear E
 rintro w5 ⟨X,V,X2,R0,m5,t5⟩
 have E:=zc R0
 clear R0
 have n:=zc X
 have z:=zc V
 have A:=zc X2
 have ay:=zc m5
 have aE:=zc t5
 clear m5 t5 X V X2
 cases hA:za8 l with
 |true=>
  skip
  obtain⟨c0,c1,c2,c3,c4,c5,c6,c7,c8,c9,ai,al,cf⟩:=A.out.box
  go_wp2_with fail
  refine (zaH C I D o _ S4 q4 z4 0 zU _ aA.out.fst ay.out).mono ?_
  rintro e w6 ⟨S6,q6,z6,rfl,i6,m6,s6⟩
  replace n:=zc (n.out.stp s6)
  replace z:=zc (z.out.stp s6)
  replace A:=zc (A.out.stp s6)
  have as:=zc (aE.out.step s6)
  have K:Hid (Row S6 w6 o w.heap.size ⟨some ⟨g,0,none⟩,rc⟩ l):=E.out.stp s6
  clear E
  have E:=zc K
  clear K
  clear aE
  have aw:=zc m6
  have bk:=zc i6
  clear i6 m6 s6 ay
  clear c0 c1 c2 c3 c4 c5 c6 c7 c8 c9 ai al cf
  go_wp2_with fail
  refine (zdA C I D o _ S6 q6 z6 0 _ bk.out aw.out).mono ?_
  rintro e w7 ⟨S7,q7,z7,n7,rfl,i7,m7,s7⟩
  replace n:=zc (n.out.stp s7)
  replace z:=zc (z.out.stp s7)
  replace A:=zc (A.out.stp s7)
  have ax:=zc (as.out.step s7)
  have K:Hid (Row S7 w7 o w.heap.size ⟨some ⟨g,0,none⟩,rc⟩ l):=E.out.stp s7
  clear E
  have E:=zc K
  clear K
  clear as
  have ah:=zc m7
  have aD:=zc i7
  clear i7 m7 s7 aw
  have aU:w.heap.size+1<w7.heap.size:=z.out.lt
  have aJ:w4.heap.size<w7.heap.size:=A.out.lt
  unfold pv
  go_upto_region 12 with fail
  refine zL (R:=fun W=>Bx I S7 W (w.heap.size) _∧Bx I S7 W (w.heap.size+1) _∧Bx I S7 W (w4.heap.size) _∧Bx I S7 W (w7.heap.size) _∧Row S7 W o w.heap.size ⟨some ⟨g,0,none⟩,rc⟩ l∧Mem C I D o S7 q7 W∧SB w.heap.size S w S7 W) ⟨(n.out.alloc _),(z.out.alloc _),(A.out.alloc _),(Bx.new ah.out _),(E.out.alloc _),(ah.out.alloc _),(ax.out.alloc _)⟩ ?_
  clear n z A ax ah
  clear E
  rintro w8 ⟨X,V,X2,X3,R0,m8,t8⟩
  have E:=zc R0
  clear R0
  have n:=zc X
  have z:=zc V
  have A:=zc X2
  have Z:=zc X3
  have aj:=zc m8
  have az:=zc t8
  clear m8 t8 X V X2 X3
  obtain⟨d0,d1,d2,d3,d4,d5,d6,d7,d8,d9,am,ak,df⟩:=Z.out.box
  go_wp2_with fail
  refine (zad C I D o _ S7 q7 z7 0 cSemi _ aD.out.fst aj.out).mono ?_
  rintro e w9 ⟨S9,q9,z9,rfl,i9,m9,s9⟩
  replace n:=zc (n.out.stp s9)
  replace z:=zc (z.out.stp s9)
  replace A:=zc (A.out.stp s9)
  replace Z:=zc (Z.out.stp s9)
  have ae:=zc (az.out.step s9)
  have K:Hid (Row S9 w9 o w.heap.size ⟨some ⟨g,0,none⟩,rc⟩ l):=E.out.stp s9
  clear E
  have E:=zc K
  clear K
  clear az
  have ab:=zc m9
  have ac:=zc i9
  clear i9 m9 s9 aj
  clear d0 d1 d2 d3 d4 d5 d6 d7 d8 d9 am ak df
  obtain⟨a0,a1,a2,a3,a4,a5,a6,a7,a8,a9,L,M,af⟩:=n.out.box
  unfold pv
  go_upto_region 13 with fail
  refine zL (R:=fun W=>Bx I S9 W (w.heap.size) _∧Bx I S9 W (w.heap.size+1) _∧Bx I S9 W (w4.heap.size) _∧Bx I S9 W (w7.heap.size) _∧Row S9 W o w.heap.size ⟨some ⟨g,0,none⟩,rc⟩ l∧Mem C I D o S9 q9 W∧SB w.heap.size S w S9 W) ⟨(n.out.put ..),(z.out.other (by omega) ..),(A.out.other (by omega) ..),(Z.out.other (by omega) ..),(E.out.put n.out ..),(ab.out.put n.out ..),(ae.out.put (by omega) ..)⟩ ?_
  clear a0 a1 a2 a3 a4 a5 a6 a7 a8 a9 L M af
  clear n z A Z ae ab
  clear E
  rintro ar ⟨X,V,X2,X3,R0,ad,be⟩
  have E:=zc R0
  clear R0
  have n:=zc X
  have z:=zc V
  have A:=zc X2
  have Z:=zc X3
  have Q:=zc ad
  have au:=zc be
  clear ad be X V X2 X3
  have aG:Hid (_=zag C q):=(zgI (G:=fun b e=>zo C (zai b e)) aA.out aD.out).trans ((ziO aA.out (.inl hA)).trans aM.out.symm)
  go_wp2
  go_loopg [9] l.length (fun k i wr=>∃(j:Nat) (x':PR) (J:Sv) (Y:PS) (z':Int),j≤l.length∧i= .int .i64 j∧Is x' Y z'∧(z'<0→1≤Y.pos)∧zP (fun e=>zo C (zai n7 e)) (l.drop j) x'=zag C q∧l.length-j=k∧Mem C I D o J Y wr∧SB w.heap.size S w J wr∧Bx I J wr w.heap.size #[.slice (some ⟨I,0,none⟩) C.ts.length D,.int .i64 Y.pos,.int .i64 C.fin,.bool C.scr,.slice J.rq.a Y.rq.length J.rq.cap,.slice J.im.a Y.im.length J.im.cap,.slice J.ep.a Y.ep.length J.ep.cap,.slice J.st.a Y.st.length J.st.cap,.slice J.ex.a Y.ex.length J.ex.cap,.slice J.la.a Y.la.length J.la.cap,.int .i64 z',.int .i64 0]∧Bx I J wr (w.heap.size+1) #[.slice none 0 0,.int .i64 0,.int .i64 0,.bool false,.slice none 0 0,.slice none 0 0,.slice none 0 0,.slice none 0 0,.slice none 0 0,.slice none 0 0,.int .i64 0,.int .i64 0]∧Row J wr o w.heap.size ⟨some ⟨g,0,none⟩,rc⟩ l)
  case atStart=>exact⟨0,_,S9,q9,z9,Nat.zero_le _,rfl,ac.out,zbh ac.out,aG.out,rfl,Q.out,au.out,n.out,z.out,E.out⟩
  case round=>
   obtain⟨j,x9,S9,q9,z9,hj,rfl,i9,p9,e9,g9,m9,t9,X,V,R0⟩:=hrel
   clear n z A Z E Q au
   have n:=zc X
   have z:=zc V
   have ab:=zc m9
   have ae:=zc t9
   have ac:=zc i9
   have ap:=zc p9
   have aq:=zc e9
   have ao:=zc g9
   have E:=zc R0
   clear X V i9 m9 t9 e9 g9 R0 p9
   by_cases an:j<l.length
   ·skip
    obtain⟨c1,c2⟩:=E.out.cells (g:=g) rfl an
    have aZ:=E.out.own.lt (g:=g) rfl
    have HX:Hid (∀e,e=l[j]→zP (fun e=>zo C (zai n7 e)) (l.drop (j+1)) (bd x9 (zo C (zai n7 e)))=zag C q):=fun e he=>by rw[he,←aq.out];exact (zf7 (fun e=>zo C (zai n7 e)) l x9 an).symm
    generalize av:l[j]=el at c1 c2
    have aH:Hid (el=l[j]):=av.symm
    clear av
    obtain⟨a0,a1,a2,a3,a4,a5,a6,a7,a8,a9,L,M,af⟩:=n.out.box
    go_upto_region 16 with fail
    go_region_law (first|(go_simp;go_wp2_with (go_at_call 134;refine (zd6 C I D o x9 S9 q9 z9 0 (zai n7 el) _ ac.out ab.out.drew ap.out).mono ?_;rintro e ar ⟨O,aB,aC,rfl,ag,ad,N⟩;obtain⟨d0,d1,d2,d3,d4,d5,d6,d7,d8,d9,am,ak,df⟩:=(n.out.stp N.undrew).box;unfold pv)))
    all_goals
     clear a0 a1 a2 a3 a4 a5 a6 a7 a8 a9 L M af d0 d1 d2 d3 d4 d5 d6 d7 d8 d9 am ak df
     have U:=zc ag
     have Q:=zc ad
     have H:Hid (Stp S9 wr O ar):=N.undrew
     clear ag ad N
     go_wp2
     go_roundg (gk-1)
     case rel=>exact⟨j+1,_,O,aB,aC,by omega,by go_num,U.out,zgJ ap.out ac.out U.out,HX.out el aH.out,by have:=ao.out;omega,Q.out.put (n.out.stp H.out) _ _ _ _ _ _ _ _ _ _ _ _,(ae.out.step H.out).put (by omega) _ _ _ _ _ _ _ _ _ _ _ _,(n.out.stp H.out).put _ _ _ _ _ _ _ _ _ _ _ _,(z.out.stp H.out).other (by omega) _ _ _ _ _ _ _ _ _ _ _ _,(E.out.stp H.out).put (n.out.stp H.out) _ _ _ _ _ _ _ _ _ _ _ _⟩
     case measure=>have:=ao.out;omega
   ·skip
    obtain⟨a0,a1,a2,a3,a4,a5,a6,a7,a8,a9,L,M,af⟩:=n.out.box
    obtain⟨b0,b1,b2,b3,b4,b5,b6,b7,b8,b9,ba,aR,bf⟩:=z.out.box
    go_wp2
    refine bodyPost_ret (results_cell_row rfl _ _ (w.heap.size+1) 53 _ (0,0) _ rfl ((z.out.put ..)).heap Tryz.underlying53 rfl (by kernel_rfl)) rfl ?_
    exact zY rfl (show Is (zag C q) q9 z9 from by rw[←aq.out,List.drop_eq_nil_of_le (by omega)];exact ac.out) (ab.out.put z.out ..) (ae.out.put (by omega) ..)
 |false=>
  cases hF:(decide (z4<0)&&isT C q4.pos 1 zU) with
  |true=>
   obtain⟨c0,c1,c2,c3,c4,c5,c6,c7,c8,c9,ai,al,cf⟩:=A.out.box
   go_wp2_with fail
   refine (zh C I D o S4 q4 z4 0 1 zU _ ay.out.tok aI (by decide)).mono ?_
   rintro e w6 ⟨rfl,aa⟩
   rw[hF]
   replace n:=zc (n.out.below aa)
   replace z:=zc (z.out.below aa)
   replace A:=zc (A.out.below aa)
   have as:=zc (aE.out.below aa)
   have aw:=zc (ay.out.later aa)
   have K:Hid (Row S4 w6 o w.heap.size ⟨some ⟨g,0,none⟩,rc⟩ l):=E.out.below aa
   clear E
   have E:=zc K
   clear K
   clear aa aE ay
   clear c0 c1 c2 c3 c4 c5 c6 c7 c8 c9 ai al cf
   obtain⟨c0,c1,c2,c3,c4,c5,c6,c7,c8,c9,ai,al,cf⟩:=A.out.box
   go_wp2_with fail
   refine (zaH C I D o _ S4 q4 z4 0 zU _ aA.out.fst aw.out).mono ?_
   rintro e w7 ⟨S7,q7,z7,rfl,i7,m7,s7⟩
   replace n:=zc (n.out.stp s7)
   replace z:=zc (z.out.stp s7)
   replace A:=zc (A.out.stp s7)
   have ax:=zc (as.out.step s7)
   have K:Hid (Row S7 w7 o w.heap.size ⟨some ⟨g,0,none⟩,rc⟩ l):=E.out.stp s7
   clear E
   have E:=zc K
   clear K
   clear as
   have ah:=zc m7
   have aD:=zc i7
   clear i7 m7 s7 aw
   clear c0 c1 c2 c3 c4 c5 c6 c7 c8 c9 ai al cf
   go_wp2_with fail
   refine (zdA C I D o _ S7 q7 z7 0 _ aD.out ah.out).mono ?_
   rintro e w8 ⟨S8,q8,z8,n8,rfl,i8,m8,s8⟩
   replace n:=zc (n.out.stp s8)
   replace z:=zc (z.out.stp s8)
   replace A:=zc (A.out.stp s8)
   have az:=zc (ax.out.step s8)
   have K:Hid (Row S8 w8 o w.heap.size ⟨some ⟨g,0,none⟩,rc⟩ l):=E.out.stp s8
   clear E
   have E:=zc K
   clear K
   clear ax
   have aj:=zc m8
   have aV:=zc i8
   clear i8 m8 s8 ah
   have aU:w.heap.size+1<w8.heap.size:=z.out.lt
   have aJ:w4.heap.size<w8.heap.size:=A.out.lt
   unfold pv
   go_upto_region 12 with fail
   refine zL (R:=fun W=>Bx I S8 W (w.heap.size) _∧Bx I S8 W (w.heap.size+1) _∧Bx I S8 W (w4.heap.size) _∧Bx I S8 W (w8.heap.size) _∧Row S8 W o w.heap.size ⟨some ⟨g,0,none⟩,rc⟩ l∧Mem C I D o S8 q8 W∧SB w.heap.size S w S8 W) ⟨(n.out.alloc _),(z.out.alloc _),(A.out.alloc _),(Bx.new aj.out _),(E.out.alloc _),(aj.out.alloc _),(az.out.alloc _)⟩ ?_
   clear n z A az aj
   clear E
   rintro w9 ⟨X,V,X2,X3,R0,m9,t9⟩
   have E:=zc R0
   clear R0
   have n:=zc X
   have z:=zc V
   have A:=zc X2
   have Z:=zc X3
   have ab:=zc m9
   have ae:=zc t9
   clear m9 t9 X V X2 X3
   obtain⟨d0,d1,d2,d3,d4,d5,d6,d7,d8,d9,am,ak,df⟩:=Z.out.box
   go_wp2_with fail
   refine (zad C I D o _ S8 q8 z8 0 cSemi _ aV.out.fst ab.out).mono ?_
   rintro e ar ⟨O,aB,aC,rfl,ag,ad,N⟩
   replace n:=zc (n.out.stp N)
   replace z:=zc (z.out.stp N)
   replace A:=zc (A.out.stp N)
   replace Z:=zc (Z.out.stp N)
   have au:=zc (ae.out.step N)
   have K:Hid (Row O ar o w.heap.size ⟨some ⟨g,0,none⟩,rc⟩ l):=E.out.stp N
   clear E
   have E:=zc K
   clear K
   clear ae
   have Q:=zc ad
   have U:=zc ag
   clear ag ad N ab
   clear d0 d1 d2 d3 d4 d5 d6 d7 d8 d9 am ak df
   obtain⟨a0,a1,a2,a3,a4,a5,a6,a7,a8,a9,L,M,af⟩:=n.out.box
   unfold pv
   go_upto_region 13 with fail
   refine zL (R:=fun W=>Bx I O W (w.heap.size) _∧Bx I O W (w.heap.size+1) _∧Bx I O W (w4.heap.size) _∧Bx I O W (w8.heap.size) _∧Row O W o w.heap.size ⟨some ⟨g,0,none⟩,rc⟩ l∧Mem C I D o O aB W∧SB w.heap.size S w O W) ⟨(n.out.put ..),(z.out.other (by omega) ..),(A.out.other (by omega) ..),(Z.out.other (by omega) ..),(E.out.put n.out ..),(Q.out.put n.out ..),(au.out.put (by omega) ..)⟩ ?_
   clear a0 a1 a2 a3 a4 a5 a6 a7 a8 a9 L M af
   clear n z A Z au Q
   clear E
   rintro bm ⟨X,V,X2,X3,R0,bi,bg⟩
   have E:=zc R0
   clear R0
   have n:=zc X
   have z:=zc V
   have A:=zc X2
   have Z:=zc X3
   have aK:=zc bi
   have aL:=zc bg
   clear bi bg X V X2 X3
   have aG:Hid (_=zag C q):=(zgI (G:=fun b e=>zo C (zai b e)) aA.out aV.out).trans ((ziO aA.out (.inr hF)).trans aM.out.symm)
   go_wp2
   go_loopg [9] l.length (fun k i wr=>∃(j:Nat) (x':PR) (J:Sv) (Y:PS) (z':Int),j≤l.length∧i= .int .i64 j∧Is x' Y z'∧(z'<0→1≤Y.pos)∧zP (fun e=>zo C (zai n8 e)) (l.drop j) x'=zag C q∧l.length-j=k∧Mem C I D o J Y wr∧SB w.heap.size S w J wr∧Bx I J wr w.heap.size #[.slice (some ⟨I,0,none⟩) C.ts.length D,.int .i64 Y.pos,.int .i64 C.fin,.bool C.scr,.slice J.rq.a Y.rq.length J.rq.cap,.slice J.im.a Y.im.length J.im.cap,.slice J.ep.a Y.ep.length J.ep.cap,.slice J.st.a Y.st.length J.st.cap,.slice J.ex.a Y.ex.length J.ex.cap,.slice J.la.a Y.la.length J.la.cap,.int .i64 z',.int .i64 0]∧Bx I J wr (w.heap.size+1) #[.slice none 0 0,.int .i64 0,.int .i64 0,.bool false,.slice none 0 0,.slice none 0 0,.slice none 0 0,.slice none 0 0,.slice none 0 0,.slice none 0 0,.int .i64 0,.int .i64 0]∧Row J wr o w.heap.size ⟨some ⟨g,0,none⟩,rc⟩ l)
   case atStart=>exact⟨0,_,O,aB,aC,Nat.zero_le _,rfl,U.out,zbh U.out,aG.out,rfl,aK.out,aL.out,n.out,z.out,E.out⟩
   case round=>
    obtain⟨j,x9,S9,q9,z9,hj,rfl,i9,p9,e9,g9,m9,t9,X,V,R0⟩:=hrel
    clear n z A Z E aK aL
    have n:=zc X
    have z:=zc V
    have ab:=zc m9
    have ae:=zc t9
    have ac:=zc i9
    have ap:=zc p9
    have aq:=zc e9
    have ao:=zc g9
    have E:=zc R0
    clear X V i9 m9 t9 e9 g9 R0 p9
    by_cases an:j<l.length
    ·skip
     obtain⟨c1,c2⟩:=E.out.cells (g:=g) rfl an
     have aZ:=E.out.own.lt (g:=g) rfl
     have HX:Hid (∀e,e=l[j]→zP (fun e=>zo C (zai n8 e)) (l.drop (j+1)) (bd x9 (zo C (zai n8 e)))=zag C q):=fun e he=>by rw[he,←aq.out];exact (zf7 (fun e=>zo C (zai n8 e)) l x9 an).symm
     generalize av:l[j]=el at c1 c2
     have aH:Hid (el=l[j]):=av.symm
     clear av
     obtain⟨a0,a1,a2,a3,a4,a5,a6,a7,a8,a9,L,M,af⟩:=n.out.box
     go_upto_region 16 with fail
     go_region_law (first|(go_simp;go_wp2_with (go_at_call 134;refine (zd6 C I D o x9 S9 q9 z9 0 (zai n8 el) _ ac.out ab.out.drew ap.out).mono ?_;rintro e ar ⟨O,aB,aC,rfl,ag,ad,N⟩;obtain⟨d0,d1,d2,d3,d4,d5,d6,d7,d8,d9,am,ak,df⟩:=(n.out.stp N.undrew).box;unfold pv)))
     all_goals
      clear a0 a1 a2 a3 a4 a5 a6 a7 a8 a9 L M af d0 d1 d2 d3 d4 d5 d6 d7 d8 d9 am ak df
      have U:=zc ag
      have Q:=zc ad
      have H:Hid (Stp S9 wr O ar):=N.undrew
      clear ag ad N
      go_wp2
      go_roundg (gk-1)
      case rel=>exact⟨j+1,_,O,aB,aC,by omega,by go_num,U.out,zgJ ap.out ac.out U.out,HX.out el aH.out,by have:=ao.out;omega,Q.out.put (n.out.stp H.out) _ _ _ _ _ _ _ _ _ _ _ _,(ae.out.step H.out).put (by omega) _ _ _ _ _ _ _ _ _ _ _ _,(n.out.stp H.out).put _ _ _ _ _ _ _ _ _ _ _ _,(z.out.stp H.out).other (by omega) _ _ _ _ _ _ _ _ _ _ _ _,(E.out.stp H.out).put (n.out.stp H.out) _ _ _ _ _ _ _ _ _ _ _ _⟩
      case measure=>have:=ao.out;omega
    ·skip
     obtain⟨a0,a1,a2,a3,a4,a5,a6,a7,a8,a9,L,M,af⟩:=n.out.box
     obtain⟨b0,b1,b2,b3,b4,b5,b6,b7,b8,b9,ba,aR,bf⟩:=z.out.box
     go_wp2
     refine bodyPost_ret (results_cell_row rfl _ _ (w.heap.size+1) 53 _ (0,0) _ rfl ((z.out.put ..)).heap Tryz.underlying53 rfl (by kernel_rfl)) rfl ?_
     exact zY rfl (show Is (zag C q) q9 z9 from by rw[←aq.out,List.drop_eq_nil_of_le (by omega)];exact ac.out) (ab.out.put z.out ..) (ae.out.put (by omega) ..)
  |false=>
   obtain⟨c0,c1,c2,c3,c4,c5,c6,c7,c8,c9,ai,al,cf⟩:=A.out.box
   go_wp2_with fail
   refine (zh C I D o S4 q4 z4 0 1 zU _ ay.out.tok aI (by decide)).mono ?_
   rintro e w6 ⟨rfl,aa⟩
   rw[hF]
   replace n:=zc (n.out.below aa)
   replace z:=zc (z.out.below aa)
   replace A:=zc (A.out.below aa)
   have as:=zc (aE.out.below aa)
   have aw:=zc (ay.out.later aa)
   have K:Hid (Row S4 w6 o w.heap.size ⟨some ⟨g,0,none⟩,rc⟩ l):=E.out.below aa
   clear E
   have E:=zc K
   clear K
   clear aa aE ay
   clear c0 c1 c2 c3 c4 c5 c6 c7 c8 c9 ai al cf
   obtain⟨c0,c1,c2,c3,c4,c5,c6,c7,c8,c9,ai,al,cf⟩:=A.out.box
   go_wp2_with fail
   refine (zad C I D o _ S4 q4 z4 0 cSemi _ aA.out.fst aw.out).mono ?_
   rintro e w7 ⟨S7,q7,z7,rfl,i7,m7,s7⟩
   replace n:=zc (n.out.stp s7)
   replace z:=zc (z.out.stp s7)
   replace A:=zc (A.out.stp s7)
   have ax:=zc (as.out.step s7)
   have K:Hid (Row S7 w7 o w.heap.size ⟨some ⟨g,0,none⟩,rc⟩ l):=E.out.stp s7
   clear E
   have E:=zc K
   clear K
   clear as
   have ah:=zc m7
   have aD:=zc i7
   clear i7 m7 s7 aw
   clear c0 c1 c2 c3 c4 c5 c6 c7 c8 c9 ai al cf
   obtain⟨a0,a1,a2,a3,a4,a5,a6,a7,a8,a9,L,M,af⟩:=n.out.box
   unfold pv
   go_upto_region 6 with fail
   refine zL (R:=fun W=>Bx I S7 W (w.heap.size) _∧Bx I S7 W (w.heap.size+1) _∧Bx I S7 W (w4.heap.size) _∧Row S7 W o w.heap.size ⟨some ⟨g,0,none⟩,rc⟩ l∧Mem C I D o S7 q7 W∧SB w.heap.size S w S7 W) ⟨(n.out.put ..),(z.out.other (by omega) ..),(A.out.other (by omega) ..),(E.out.put n.out ..),(ah.out.put n.out ..),(ax.out.put (by omega) ..)⟩ ?_
   clear a0 a1 a2 a3 a4 a5 a6 a7 a8 a9 L M af
   clear n z A ax ah
   clear E
   rintro w8 ⟨X,V,X2,R0,m8,t8⟩
   have E:=zc R0
   clear R0
   have n:=zc X
   have z:=zc V
   have A:=zc X2
   have aj:=zc m8
   have az:=zc t8
   clear m8 t8 X V X2
   have aG:Hid (_=zag C q):=(znA aA.out hA hF).trans aM.out.symm
   go_wp2
   go_loopg [6] l.length (fun k i wr=>∃(j:Nat) (x':PR) (J:Sv) (Y:PS) (z':Int),j≤l.length∧i= .int .i64 j∧Is x' Y z'∧(z'<0→1≤Y.pos)∧zP (fun e=>zo C (zA e)) (l.drop j) x'=zag C q∧l.length-j=k∧Mem C I D o J Y wr∧SB w.heap.size S w J wr∧Bx I J wr w.heap.size #[.slice (some ⟨I,0,none⟩) C.ts.length D,.int .i64 Y.pos,.int .i64 C.fin,.bool C.scr,.slice J.rq.a Y.rq.length J.rq.cap,.slice J.im.a Y.im.length J.im.cap,.slice J.ep.a Y.ep.length J.ep.cap,.slice J.st.a Y.st.length J.st.cap,.slice J.ex.a Y.ex.length J.ex.cap,.slice J.la.a Y.la.length J.la.cap,.int .i64 z',.int .i64 0]∧Bx I J wr (w.heap.size+1) #[.slice none 0 0,.int .i64 0,.int .i64 0,.bool false,.slice none 0 0,.slice none 0 0,.slice none 0 0,.slice none 0 0,.slice none 0 0,.slice none 0 0,.int .i64 0,.int .i64 0]∧Row J wr o w.heap.size ⟨some ⟨g,0,none⟩,rc⟩ l)
   case atStart=>exact⟨0,_,S7,q7,z7,Nat.zero_le _,rfl,aD.out,zbh aD.out,aG.out,rfl,aj.out,az.out,n.out,z.out,E.out⟩
   case round=>
    obtain⟨j,x9,S9,q9,z9,hj,rfl,i9,p9,e9,g9,m9,t9,X,V,R0⟩:=hrel
    clear n z A E aj az
    have n:=zc X
    have z:=zc V
    have ab:=zc m9
    have ae:=zc t9
    have ac:=zc i9
    have ap:=zc p9
    have aq:=zc e9
    have ao:=zc g9
    have E:=zc R0
    clear X V i9 m9 t9 e9 g9 R0 p9
    by_cases an:j<l.length
    ·skip
     obtain⟨c1,c2⟩:=E.out.cells (g:=g) rfl an
     have aZ:=E.out.own.lt (g:=g) rfl
     have HX:Hid (∀e,e=l[j]→zP (fun e=>zo C (zA e)) (l.drop (j+1)) (bd x9 (zo C (zA e)))=zag C q):=fun e he=>by rw[he,←aq.out];exact (zf7 (fun e=>zo C (zA e)) l x9 an).symm
     generalize av:l[j]=el at c1 c2
     have aH:Hid (el=l[j]):=av.symm
     clear av
     obtain⟨a0,a1,a2,a3,a4,a5,a6,a7,a8,a9,L,M,af⟩:=n.out.box
     go_upto_region 9 with fail
     go_region_law (first|(go_simp;go_wp2_with (go_at_call 134;refine (zd6 C I D o x9 S9 q9 z9 0 (zA el) _ ac.out ab.out.drew ap.out).mono ?_;rintro e ar ⟨O,aB,aC,rfl,ag,ad,N⟩;obtain⟨d0,d1,d2,d3,d4,d5,d6,d7,d8,d9,am,ak,df⟩:=(n.out.stp N.undrew).box;unfold pv)))
     all_goals
      clear a0 a1 a2 a3 a4 a5 a6 a7 a8 a9 L M af d0 d1 d2 d3 d4 d5 d6 d7 d8 d9 am ak df
      have U:=zc ag
      have Q:=zc ad
      have H:Hid (Stp S9 wr O ar):=N.undrew
      clear ag ad N
      go_wp2
      go_roundg (gk-1)
      case rel=>exact⟨j+1,_,O,aB,aC,by omega,by go_num,U.out,zgJ ap.out ac.out U.out,HX.out el aH.out,by have:=ao.out;omega,Q.out.put (n.out.stp H.out) _ _ _ _ _ _ _ _ _ _ _ _,(ae.out.step H.out).put (by omega) _ _ _ _ _ _ _ _ _ _ _ _,(n.out.stp H.out).put _ _ _ _ _ _ _ _ _ _ _ _,(z.out.stp H.out).other (by omega) _ _ _ _ _ _ _ _ _ _ _ _,(E.out.stp H.out).put (n.out.stp H.out) _ _ _ _ _ _ _ _ _ _ _ _⟩
      case measure=>have:=ao.out;omega
    ·skip
     obtain⟨a0,a1,a2,a3,a4,a5,a6,a7,a8,a9,L,M,af⟩:=n.out.box
     obtain⟨b0,b1,b2,b3,b4,b5,b6,b7,b8,b9,ba,aR,bf⟩:=z.out.box
     go_wp2
     refine bodyPost_ret (results_cell_row rfl _ _ (w.heap.size+1) 53 _ (0,0) _ rfl ((z.out.put ..)).heap Tryz.underlying53 rfl (by kernel_rfl)) rfl ?_
     exact zY rfl (show Is (zag C q) q9 z9 from by rw[←aq.out,List.drop_eq_nil_of_le (by omega)];exact ac.out) (ab.out.put z.out ..) (ae.out.put (by omega) ..)
theorem znH (C:Cx) (o n j:Nat) (S:Sv) (q:PS) (w:World) (A:Mem C o n j S q w) (D:isT C q.pos 1 zah=true):
  Calls Tryz.prog 70 #[pv C o n S q (-1) 0] w (Out C o n j (zaQ C q) 0 S w):=by
 cases z:isT C (q.pos+1) 4 zJ with
 |true=>exact zn5 C o n j S q w A D z
 |false=>
  cases E:isT C (q.pos+1) 4 zw with
  |true=>exact zn2 C o n j S q w A D z E
  |false=>
   cases H:zD C (q.pos+1) false with
   |true=>exact zn3 C o n j S q w A D z E H
   |false=>exact zn4 C o n j S q w A D z E H
theorem znI (C:Cx) (o n j:Nat) (S:Sv) (q:PS) (w:World) (A:Mem C o n j S q w) (D:isT C q.pos 1 zaf=true):
  Calls Tryz.prog 71 #[pv C o n S q (-1) 0] w (Out C o n j (zag C q) 0 S w):=by
 cases z:isT C (q.pos+1) 4 zJ with
 |true=>exact znG C o n j S q w A D z
 |false=>
  cases E:isT C (q.pos+1) 4 zw with
  |true=>exact znB C o n j S q w A D z E
  |false=>
   cases H:isT C (q.pos+1) 1 sDefault with
   |true=>exact znC C o n j S q w A D z E H
   |false=>
    cases I:isT C (q.pos+1) 1 zC with
    |true=>exact znD C o n j S q w A D z E H I
    |false=>
     cases J:isT C (q.pos+1) 1 zT with
     |true=>exact znE C o n j S q w A D z E H I J
     |false=>exact znF C o n j S q w A D z E H I J
theorem ziP {C:Cx} {x:PR} {n:ByteArray}:bd (bd (bd (bd x (zd C 4 cEq)) (pE C .sum 0)) (zd C 4 cSemi)) (zV C 3 n)=bd x fun q=>bd (bd (bd (bd (.ok q) (zd C 4 cEq)) (pE C .sum 0)) (zd C 4 cSemi)) (zV C 3 n):=by cases x<;>rfl
theorem znJ (D:List Tk) (j:Nat) (E z o:Nat) (S:Sv) (q:PS) (w:World) (X:Mem (Cx.mk D j true) E z o S q w) (h0:isT (Cx.mk D j true) q.pos 1 zC=true):
  Calls Tryz.prog 21 #[pv (Cx.mk D j true) E z S q (-1) 0] w (Out (Cx.mk D j true) E z o (zy (Cx.mk D j true) q) 0 S w):=by
 have HM:=zc X
 have H:=X.tok
 have O:(Cx.mk D j true).ts.length≤4000:=X.few
 clear X
 have HV:Hid (zy (Cx.mk D j true) q=zaK (zcj (Cx.mk D j true) q)):=by show zy (Cx.mk D j true) q=_;rw[zy,h0];rfl
 unfold pv
 go_enter Tryz.func21,Tryz.ntmps21
 go_wp2_with fail
 refine (zh (Cx.mk D j true) E z o S q (-1) 0 1 zC _ (zq (zq H _) _) O (by decide)).mono ?_
 rintro e w1 ⟨rfl,L⟩
 rw[h0]
 obtain⟨Q,K,m1,t1⟩:=HM.out.two L
 have A:=zc Q
 have n:=zc K
 have N:=zc m1
 have M:=zc t1
 clear Q K m1 t1 L
 clear H
 obtain⟨a0,a1,a2,a3,a4,a5,a6,a7,a8,a9,aa,ad,af⟩:=A.out.box
 go_wp2_with fail
 refine (zgG (Cx.mk D j true) E z o S q _ N.out).mono ?_
 rintro e w2 ⟨U,q2,z2,n2,rfl,i2,m2,V⟩
 replace A:=zc (A.out.stp V)
 replace n:=zc (n.out.stp V)
 have J:=zc (M.out.step V)
 clear M
 have I:=zc m2
 have ab:=zc i2
 clear i2 m2 V N
 clear a0 a1 a2 a3 a4 a5 a6 a7 a8 a9 aa ad af
 have ae:w.heap.size+1<w2.heap.size:=n.out.lt
 unfold pv
 go_upto_region 7 with fail
 refine zL (R:=fun W=>Bx E U W (w.heap.size) _∧Bx E U W (w.heap.size+1) _∧Bx E U W (w2.heap.size) _∧Mem (Cx.mk D j true) E z o U q2 W∧SB w.heap.size S w U W) ⟨(A.out.alloc _),(n.out.alloc _),(Bx.new I.out _),(I.out.alloc _),(J.out.alloc _)⟩ ?_
 clear A n J I
 rintro w3 ⟨Q,K,X2,m3,t3⟩
 have A:=zc Q
 have n:=zc K
 have Z:=zc X2
 have Y:=zc m3
 have ac:=zc t3
 clear m3 t3 Q K X2
 obtain⟨b0,b1,b2,b3,b4,b5,b6,b7,b8,b9,ah,ag,bf⟩:=n.out.box
 obtain⟨c0,c1,c2,c3,c4,c5,c6,c7,c8,c9,ai,aj,cf⟩:=Z.out.box
 go_wp2
 refine bodyPost_ret (results_cell_row rfl _ _ (w.heap.size+1) 53 _ (0,0) _ rfl ((n.out.put ..)).heap Tryz.underlying53 rfl (by kernel_rfl)) rfl ?_
 rw[HV.out]
 exact zY rfl ab.out.fst (Y.out.put n.out ..) (ac.out.put (by omega) ..)
theorem znK (D:List Tk) (j:Nat) (H A o:Nat) (S:Sv) (q:PS) (w:World) (hm:Mem (Cx.mk D j true) H A o S q w) (h0:isT (Cx.mk D j true) q.pos 1 zC=false) (h1:isT (Cx.mk D j true) q.pos 1 zT=true):
  Calls Tryz.prog 21 #[pv (Cx.mk D j true) H A S q (-1) 0] w (Out (Cx.mk D j true) H A o (zy (Cx.mk D j true) q) 0 S w):=by
 have HM:=zc hm
 have I:=hm.tok
 have J:(Cx.mk D j true).ts.length≤4000:=hm.few
 clear hm
 have HV:Hid (zy (Cx.mk D j true) q=zaK (fnP (Cx.mk D j true) q)):=by show zy (Cx.mk D j true) q=_;rw[zy,h0,h1];rfl
 unfold pv
 go_enter Tryz.func21,Tryz.ntmps21
 go_wp2_with fail
 refine (zh (Cx.mk D j true) H A o S q (-1) 0 1 zC _ (zq (zq I _) _) J (by decide)).mono ?_
 rintro e w1 ⟨rfl,U⟩
 rw[h0]
 obtain⟨Z,Q,m1,t1⟩:=HM.out.two U
 have z:=zc Z
 have n:=zc Q
 have M:=zc m1
 have V:=zc t1
 clear Z Q m1 t1 U
 clear I
 obtain⟨a0,a1,a2,a3,a4,a5,a6,a7,a8,a9,L,N,af⟩:=z.out.box
 go_wp2_with fail
 refine (zh (Cx.mk D j true) H A o S q (-1) 0 1 zT _ M.out.tok J (by decide)).mono ?_
 rintro e w2 ⟨rfl,E⟩
 rw[h1]
 replace z:=zc (z.out.below E)
 replace n:=zc (n.out.below E)
 have O:=zc (V.out.below E)
 have aa:=zc (M.out.later E)
 clear E V M
 clear a0 a1 a2 a3 a4 a5 a6 a7 a8 a9 L N af
 obtain⟨a0,a1,a2,a3,a4,a5,a6,a7,a8,a9,L,N,af⟩:=z.out.box
 go_wp2_with fail
 refine (zgH (Cx.mk D j true) H A o S q _ aa.out).mono ?_
 rintro e w3 ⟨Y,q3,z3,n3,rfl,i3,m3,s3⟩
 replace z:=zc (z.out.stp s3)
 replace n:=zc (n.out.stp s3)
 have X:=zc (O.out.step s3)
 clear O
 have K:=zc m3
 have ab:=zc i3
 clear i3 m3 s3 aa
 clear a0 a1 a2 a3 a4 a5 a6 a7 a8 a9 L N af
 have ag:w.heap.size+1<w3.heap.size:=n.out.lt
 unfold pv
 go_upto_region 10 with fail
 refine zL (R:=fun W=>Bx H Y W (w.heap.size) _∧Bx H Y W (w.heap.size+1) _∧Bx H Y W (w3.heap.size) _∧Mem (Cx.mk D j true) H A o Y q3 W∧SB w.heap.size S w Y W) ⟨(z.out.alloc _),(n.out.alloc _),(Bx.new K.out _),(K.out.alloc _),(X.out.alloc _)⟩ ?_
 clear z n X K
 rintro w4 ⟨Z,Q,X2,m4,t4⟩
 have z:=zc Z
 have n:=zc Q
 have ad:=zc X2
 have ae:=zc m4
 have ac:=zc t4
 clear m4 t4 Z Q X2
 obtain⟨b0,b1,b2,b3,b4,b5,b6,b7,b8,b9,ai,ah,bf⟩:=n.out.box
 obtain⟨c0,c1,c2,c3,c4,c5,c6,c7,c8,c9,aj,ak,cf⟩:=ad.out.box
 go_wp2
 refine bodyPost_ret (results_cell_row rfl _ _ (w.heap.size+1) 53 _ (0,0) _ rfl ((n.out.put ..)).heap Tryz.underlying53 rfl (by kernel_rfl)) rfl ?_
 rw[HV.out]
 exact zY rfl ab.out.fst (ae.out.put n.out ..) (ac.out.put (by omega) ..)
theorem znL (D:List Tk) (j:Nat) (E A z:Nat) (S:Sv) (q:PS) (w:World) (hm:Mem (Cx.mk D j true) E A z S q w) (h0:isT (Cx.mk D j true) q.pos 1 zC=false) (h1:isT (Cx.mk D j true) q.pos 1 zT=false) (h2:isT (Cx.mk D j true) q.pos 1 zar=true):
  Calls Tryz.prog 21 #[pv (Cx.mk D j true) E A S q (-1) 0] w (Out (Cx.mk D j true) E A z (zy (Cx.mk D j true) q) 0 S w):=by
 have HM:=zc hm
 have O:=hm.tok
 have K:(Cx.mk D j true).ts.length≤4000:=hm.few
 clear hm
 have HV:Hid (zy (Cx.mk D j true) q=bd (bd (bd (bd (bd (bd (.ok q) (zd (Cx.mk D j true) 1 zar)) (zd (Cx.mk D j true) 4 zn)) (pE (Cx.mk D j true) .sum 0)) (zd (Cx.mk D j true) 4 za0)) (zd (Cx.mk D j true) 4 cSemi)) (zV (Cx.mk D j true) 4 sNone)):=by show zy (Cx.mk D j true) q=_;rw[zy,h0,h1,h2];rfl
 unfold pv
 go_enter Tryz.func21,Tryz.ntmps21
 go_wp2_with fail
 refine (zh (Cx.mk D j true) E A z S q (-1) 0 1 zC _ (zq (zq O _) _) K (by decide)).mono ?_
 rintro e w1 ⟨rfl,ac⟩
 rw[h0]
 obtain⟨X0,X1,m1,t1⟩:=HM.out.two ac
 have o:=zc X0
 have n:=zc X1
 have U:=zc m1
 have ai:=zc t1
 clear X0 X1 m1 t1 ac
 clear O
 obtain⟨a0,a1,a2,a3,a4,a5,a6,a7,a8,Z,J,L,af⟩:=o.out.box
 go_wp2_with fail
 refine (zh (Cx.mk D j true) E A z S q (-1) 0 1 zT _ U.out.tok K (by decide)).mono ?_
 rintro e w2 ⟨rfl,M⟩
 rw[h1]
 replace o:=zc (o.out.below M)
 replace n:=zc (n.out.below M)
 have Y:=zc (ai.out.below M)
 have V:=zc (U.out.later M)
 clear M ai U
 clear a0 a1 a2 a3 a4 a5 a6 a7 a8 Z J L af
 obtain⟨a0,a1,a2,a3,a4,a5,a6,a7,a8,Z,J,L,af⟩:=o.out.box
 go_wp2_with fail
 refine (zh (Cx.mk D j true) E A z S q (-1) 0 1 zar _ V.out.tok K (by decide)).mono ?_
 rintro e w3 ⟨rfl,H⟩
 rw[h2]
 replace o:=zc (o.out.below H)
 replace n:=zc (n.out.below H)
 have ao:=zc (Y.out.below H)
 have aa:=zc (V.out.later H)
 clear H Y V
 clear a0 a1 a2 a3 a4 a5 a6 a7 a8 Z J L af
 obtain⟨a0,a1,a2,a3,a4,a5,a6,a7,a8,Z,J,L,af⟩:=o.out.box
 go_wp2_with fail
 refine (zaH (Cx.mk D j true) E A z (.ok q) S q (-1) 0 zar _ (zX q) aa.out).mono ?_
 rintro e w4 ⟨S4,q4,z4,rfl,i4,m4,s4⟩
 replace o:=zc (o.out.stp s4)
 replace n:=zc (n.out.stp s4)
 have ae:=zc (ao.out.step s4)
 clear ao
 have ar:=zc m4
 have aC:=zc i4
 clear i4 m4 s4 aa
 clear a0 a1 a2 a3 a4 a5 a6 a7 a8 Z J L af
 go_wp2_with fail
 refine (zad (Cx.mk D j true) E A z _ S4 q4 z4 0 zn _ aC.out ar.out).mono ?_
 rintro e w5 ⟨S5,q5,z5,rfl,i5,m5,s5⟩
 replace o:=zc (o.out.stp s5)
 replace n:=zc (n.out.stp s5)
 have au:=zc (ae.out.step s5)
 clear ae
 have av:=zc m5
 have az:=zc i5
 clear i5 m5 s5 ar
 go_wp2_with fail
 refine (zcN (Cx.mk D j true) E A z _ S5 q5 z5 _ az.out av.out).mono ?_
 rintro e w6 ⟨S6,q6,z6,rfl,i6,m6,s6⟩
 replace o:=zc (o.out.stp s6)
 replace n:=zc (n.out.stp s6)
 have ak:=zc (au.out.step s6)
 clear au
 have ap:=zc m6
 have aB:=zc i6
 clear i6 m6 s6 av
 go_wp2_with fail
 refine (zad (Cx.mk D j true) E A z _ S6 q6 z6 0 za0 _ aB.out ap.out).mono ?_
 rintro e w7 ⟨X,q7,z7,rfl,i7,m7,s7⟩
 replace o:=zc (o.out.stp s7)
 replace n:=zc (n.out.stp s7)
 have as:=zc (ak.out.step s7)
 clear ak
 have Q:=zc m7
 have aA:=zc i7
 clear i7 m7 s7 ap
 have aD:w.heap.size+1<w7.heap.size:=n.out.lt
 unfold pv
 go_upto_region 13 with fail
 refine zL (R:=fun W=>Bx E X W (w.heap.size) _∧Bx E X W (w.heap.size+1) _∧Bx E X W (w7.heap.size) _∧Mem (Cx.mk D j true) E A z X q7 W∧SB w.heap.size S w X W) ⟨(o.out.alloc _),(n.out.alloc _),(Bx.new Q.out _),(Q.out.alloc _),(as.out.alloc _)⟩ ?_
 clear o n as Q
 rintro w8 ⟨X0,X1,X2,m8,t8⟩
 have o:=zc X0
 have n:=zc X1
 have I:=zc X2
 have aj:=zc m8
 have aw:=zc t8
 clear m8 t8 X0 X1 X2
 obtain⟨c0,c1,c2,c3,c4,c5,c6,c7,c8,c9,ax,ay,cf⟩:=I.out.box
 go_wp2_with fail
 refine (zad (Cx.mk D j true) E A z _ X q7 z7 0 cSemi _ aA.out aj.out).mono ?_
 rintro e w9 ⟨S9,q9,z9,rfl,i9,m9,s9⟩
 replace o:=zc (o.out.stp s9)
 replace n:=zc (n.out.stp s9)
 replace I:=zc (I.out.stp s9)
 have aq:=zc (aw.out.step s9)
 clear aw
 have ah:=zc m9
 have al:=zc i9
 clear i9 m9 s9 aj
 clear c0 c1 c2 c3 c4 c5 c6 c7 c8 c9 ax ay cf
 go_wp2_with fail
 refine (zcK (Cx.mk D j true) E A z _ S9 q9 z9 0 4 sNone _ al.out ah.out (zbh al.out)).mono ?_
 rintro e aG ⟨aI,aJ,aF,rfl,ad,an,N⟩
 replace o:=zc (o.out.stp N)
 replace n:=zc (n.out.stp N)
 replace I:=zc (I.out.stp N)
 have am:=zc (aq.out.step N)
 clear aq
 have ab:=zc an
 have ag:=zc ad
 clear ad an N ah
 obtain⟨b0,b1,b2,b3,b4,b5,b6,b7,b8,b9,aH,aE,bf⟩:=n.out.box
 unfold pv
 go_wp2
 refine bodyPost_ret (results_cell_row rfl _ _ (w.heap.size+1) 53 _ (0,0) _ rfl ((n.out.put ..)).heap Tryz.underlying53 rfl (by kernel_rfl)) rfl ?_
 rw[HV.out]
 exact zY rfl ag.out (ab.out.put n.out ..) (am.out.put (by omega) ..)
theorem znM (D:List Tk) (j:Nat) (K A z:Nat) (S:Sv) (q:PS) (w:World) (hm:Mem (Cx.mk D j true) K A z S q w) (h0:isT (Cx.mk D j true) q.pos 1 zC=false) (h1:isT (Cx.mk D j true) q.pos 1 zT=false) (h2:isT (Cx.mk D j true) q.pos 1 zar=false) (h3:isT (Cx.mk D j true) q.pos 1 za3=true):
  Calls Tryz.prog 21 #[pv (Cx.mk D j true) K A S q (-1) 0] w (Out (Cx.mk D j true) K A z (zy (Cx.mk D j true) q) 0 S w):=by
 have HM:=zc hm
 have N:=hm.tok
 have I:(Cx.mk D j true).ts.length≤4000:=hm.few
 clear hm
 have HV:Hid (zy (Cx.mk D j true) q=bd (bd (bd (bd (.ok q) (zd (Cx.mk D j true) 1 za3)) (pE (Cx.mk D j true) .sum 0)) (zd (Cx.mk D j true) 4 cSemi)) (zV (Cx.mk D j true) 5 sNone)):=by show zy (Cx.mk D j true) q=_;rw[zy,h0,h1,h2,h3];rfl
 unfold pv
 go_enter Tryz.func21,Tryz.ntmps21
 go_wp2_with fail
 refine (zh (Cx.mk D j true) K A z S q (-1) 0 1 zC _ (zq (zq N _) _) I (by decide)).mono ?_
 rintro e w1 ⟨rfl,ad⟩
 rw[h0]
 obtain⟨X0,X1,m1,t1⟩:=HM.out.two ad
 have n:=zc X0
 have o:=zc X1
 have aa:=zc m1
 have ag:=zc t1
 clear X0 X1 m1 t1 ad
 clear N
 obtain⟨U,a1,a2,a3,a4,X,V,Y,Z,O,E,H,af⟩:=n.out.box
 go_wp2_with fail
 refine (zh (Cx.mk D j true) K A z S q (-1) 0 1 zT _ aa.out.tok I (by decide)).mono ?_
 rintro e w2 ⟨rfl,M⟩
 rw[h1]
 replace n:=zc (n.out.below M)
 replace o:=zc (o.out.below M)
 have ac:=zc (ag.out.below M)
 have ab:=zc (aa.out.later M)
 clear M ag aa
 clear U a1 a2 a3 a4 X V Y Z O E H af
 obtain⟨U,a1,a2,a3,a4,X,V,Y,Z,O,E,H,af⟩:=n.out.box
 go_wp2_with fail
 refine (zh (Cx.mk D j true) K A z S q (-1) 0 1 zar _ ab.out.tok I (by decide)).mono ?_
 rintro e w3 ⟨rfl,J⟩
 rw[h2]
 replace n:=zc (n.out.below J)
 replace o:=zc (o.out.below J)
 have aj:=zc (ac.out.below J)
 have Q:=zc (ab.out.later J)
 clear J ac ab
 clear U a1 a2 a3 a4 X V Y Z O E H af
 obtain⟨U,a1,a2,a3,a4,X,V,Y,Z,O,E,H,af⟩:=n.out.box
 go_wp2_with fail
 refine (zh (Cx.mk D j true) K A z S q (-1) 0 1 za3 _ Q.out.tok I (by decide)).mono ?_
 rintro e w4 ⟨rfl,L⟩
 rw[h3]
 replace n:=zc (n.out.below L)
 replace o:=zc (o.out.below L)
 have ae:=zc (aj.out.below L)
 have am:=zc (Q.out.later L)
 clear L aj Q
 clear U a1 a2 a3 a4 X V Y Z O E H af
 obtain⟨U,a1,a2,a3,a4,X,V,Y,Z,O,E,H,af⟩:=n.out.box
 go_wp2_with fail
 refine (zaH (Cx.mk D j true) K A z (.ok q) S q (-1) 0 za3 _ (zX q) am.out).mono ?_
 rintro e w5 ⟨S5,q5,z5,rfl,i5,m5,s5⟩
 replace n:=zc (n.out.stp s5)
 replace o:=zc (o.out.stp s5)
 have ao:=zc (ae.out.step s5)
 clear ae
 have ap:=zc m5
 have as:=zc i5
 clear i5 m5 s5 am
 clear U a1 a2 a3 a4 X V Y Z O E H af
 go_wp2_with fail
 refine (zcN (Cx.mk D j true) K A z _ S5 q5 z5 _ as.out ap.out).mono ?_
 rintro e w6 ⟨S6,q6,z6,rfl,i6,m6,s6⟩
 replace n:=zc (n.out.stp s6)
 replace o:=zc (o.out.stp s6)
 have ai:=zc (ao.out.step s6)
 clear ao
 have ak:=zc m6
 have av:=zc i6
 clear i6 m6 s6 ap
 go_wp2_with fail
 refine (zad (Cx.mk D j true) K A z _ S6 q6 z6 0 cSemi _ av.out ak.out).mono ?_
 rintro e w7 ⟨S7,q7,z7,rfl,i7,m7,s7⟩
 replace n:=zc (n.out.stp s7)
 replace o:=zc (o.out.stp s7)
 have an:=zc (ai.out.step s7)
 clear ai
 have ah:=zc m7
 have al:=zc i7
 clear i7 m7 s7 ak
 go_wp2_with fail
 refine (zcK (Cx.mk D j true) K A z _ S7 q7 z7 0 5 sNone _ al.out ah.out (zbh al.out)).mono ?_
 rintro e w8 ⟨S8,q8,z8,rfl,i8,m8,s8⟩
 replace n:=zc (n.out.stp s8)
 replace o:=zc (o.out.stp s8)
 have au:=zc (an.out.step s8)
 clear an
 have ar:=zc m8
 have aq:=zc i8
 clear i8 m8 s8 ah
 obtain⟨b0,b1,b2,b3,b4,b5,b6,b7,b8,b9,ax,aw,bf⟩:=o.out.box
 unfold pv
 go_wp2
 refine bodyPost_ret (results_cell_row rfl _ _ (w.heap.size+1) 53 _ (0,0) _ rfl ((o.out.put ..)).heap Tryz.underlying53 rfl (by kernel_rfl)) rfl ?_
 rw[HV.out]
 exact zY rfl aq.out (ar.out.put o.out ..) (au.out.put (by omega) ..)
theorem znN (D:List Tk) (j:Nat) (J A z:Nat) (S:Sv) (q:PS) (w:World) (hm:Mem (Cx.mk D j true) J A z S q w) (h0:isT (Cx.mk D j true) q.pos 1 zC=false) (h1:isT (Cx.mk D j true) q.pos 1 zT=false) (h2:isT (Cx.mk D j true) q.pos 1 zar=false) (h3:isT (Cx.mk D j true) q.pos 1 za3=false) (h4:isT (Cx.mk D j true) q.pos 1 zbA=true):
  Calls Tryz.prog 21 #[pv (Cx.mk D j true) J A S q (-1) 0] w (Out (Cx.mk D j true) J A z (zy (Cx.mk D j true) q) 0 S w):=by
 have HM:=zc hm
 have aa:=hm.tok
 have I:(Cx.mk D j true).ts.length≤4000:=hm.few
 clear hm
 have HV:Hid (zy (Cx.mk D j true) q=bd (bd (bd (bd (.ok q) (zd (Cx.mk D j true) 1 zbA)) (pE (Cx.mk D j true) .sum 0)) (zd (Cx.mk D j true) 4 cSemi)) (zV (Cx.mk D j true) 6 sNone)):=by show zy (Cx.mk D j true) q=_;rw[zy,h0,h1,h2,h3,h4];rfl
 unfold pv
 go_enter Tryz.func21,Tryz.ntmps21
 go_wp2_with fail
 refine (zh (Cx.mk D j true) J A z S q (-1) 0 1 zC _ (zq (zq aa _) _) I (by decide)).mono ?_
 rintro e w1 ⟨rfl,ai⟩
 rw[h0]
 obtain⟨X0,X1,m1,t1⟩:=HM.out.two ai
 have n:=zc X0
 have o:=zc X1
 have ac:=zc m1
 have ak:=zc t1
 clear X0 X1 m1 t1 ai
 clear aa
 obtain⟨Q,a1,a2,a3,a4,V,U,X,Y,O,E,H,Z⟩:=n.out.box
 go_wp2_with fail
 refine (zh (Cx.mk D j true) J A z S q (-1) 0 1 zT _ ac.out.tok I (by decide)).mono ?_
 rintro e w2 ⟨rfl,N⟩
 rw[h1]
 replace n:=zc (n.out.below N)
 replace o:=zc (o.out.below N)
 have ag:=zc (ak.out.below N)
 have ae:=zc (ac.out.later N)
 clear N ak ac
 clear Q a1 a2 a3 a4 V U X Y O E H Z
 obtain⟨Q,a1,a2,a3,a4,V,U,X,Y,O,E,H,Z⟩:=n.out.box
 go_wp2_with fail
 refine (zh (Cx.mk D j true) J A z S q (-1) 0 1 zar _ ae.out.tok I (by decide)).mono ?_
 rintro e w3 ⟨rfl,K⟩
 rw[h2]
 replace n:=zc (n.out.below K)
 replace o:=zc (o.out.below K)
 have ao:=zc (ag.out.below K)
 have ab:=zc (ae.out.later K)
 clear K ag ae
 clear Q a1 a2 a3 a4 V U X Y O E H Z
 obtain⟨Q,a1,a2,a3,a4,V,U,X,Y,O,E,H,Z⟩:=n.out.box
 go_wp2_with fail
 refine (zh (Cx.mk D j true) J A z S q (-1) 0 1 za3 _ ab.out.tok I (by decide)).mono ?_
 rintro e w4 ⟨rfl,L⟩
 rw[h3]
 replace n:=zc (n.out.below L)
 replace o:=zc (o.out.below L)
 have aj:=zc (ao.out.below L)
 have ad:=zc (ab.out.later L)
 clear L ao ab
 clear Q a1 a2 a3 a4 V U X Y O E H Z
 obtain⟨Q,a1,a2,a3,a4,V,U,X,Y,O,E,H,Z⟩:=n.out.box
 go_wp2_with fail
 refine (zh (Cx.mk D j true) J A z S q (-1) 0 1 zbA _ ad.out.tok I (by decide)).mono ?_
 rintro e w5 ⟨rfl,M⟩
 rw[h4]
 replace n:=zc (n.out.below M)
 replace o:=zc (o.out.below M)
 have ar:=zc (aj.out.below M)
 have as:=zc (ad.out.later M)
 clear M aj ad
 clear Q a1 a2 a3 a4 V U X Y O E H Z
 obtain⟨Q,a1,a2,a3,a4,V,U,X,Y,O,E,H,Z⟩:=n.out.box
 go_wp2_with fail
 refine (zaH (Cx.mk D j true) J A z (.ok q) S q (-1) 0 zbA _ (zX q) as.out).mono ?_
 rintro e w6 ⟨S6,q6,z6,rfl,i6,m6,s6⟩
 replace n:=zc (n.out.stp s6)
 replace o:=zc (o.out.stp s6)
 have an:=zc (ar.out.step s6)
 clear ar
 have ap:=zc m6
 have az:=zc i6
 clear i6 m6 s6 as
 clear Q a1 a2 a3 a4 V U X Y O E H Z
 go_wp2_with fail
 refine (zcN (Cx.mk D j true) J A z _ S6 q6 z6 _ az.out ap.out).mono ?_
 rintro e w7 ⟨S7,q7,z7,rfl,i7,m7,s7⟩
 replace n:=zc (n.out.stp s7)
 replace o:=zc (o.out.stp s7)
 have aq:=zc (an.out.step s7)
 clear an
 have al:=zc m7
 have ax:=zc i7
 clear i7 m7 s7 ap
 go_wp2_with fail
 refine (zad (Cx.mk D j true) J A z _ S7 q7 z7 0 cSemi _ ax.out al.out).mono ?_
 rintro e w8 ⟨S8,q8,z8,rfl,i8,m8,s8⟩
 replace n:=zc (n.out.stp s8)
 replace o:=zc (o.out.stp s8)
 have au:=zc (aq.out.step s8)
 clear aq
 have am:=zc m8
 have ah:=zc i8
 clear i8 m8 s8 al
 go_wp2_with fail
 refine (zcK (Cx.mk D j true) J A z _ S8 q8 z8 0 6 sNone _ ah.out am.out (zbh ah.out)).mono ?_
 rintro e w9 ⟨S9,q9,z9,rfl,i9,m9,s9⟩
 replace n:=zc (n.out.stp s9)
 replace o:=zc (o.out.stp s9)
 have ay:=zc (au.out.step s9)
 clear au
 have av:=zc m9
 have aw:=zc i9
 clear i9 m9 s9 am
 obtain⟨b0,b1,b2,b3,b4,b5,b6,b7,b8,b9,aB,aA,bf⟩:=o.out.box
 unfold pv
 go_wp2
 refine bodyPost_ret (results_cell_row rfl _ _ (w.heap.size+1) 53 _ (0,0) _ rfl ((o.out.put ..)).heap Tryz.underlying53 rfl (by kernel_rfl)) rfl ?_
 rw[HV.out]
 exact zY rfl aw.out (av.out.put o.out ..) (ay.out.put (by omega) ..)
theorem znO (D:List Tk) (j:Nat) (K E A:Nat) (S:Sv) (q:PS) (w:World) (hm:Mem (Cx.mk D j true) K E A S q w) (h0:isT (Cx.mk D j true) q.pos 1 zC=false) (h1:isT (Cx.mk D j true) q.pos 1 zT=false) (h2:isT (Cx.mk D j true) q.pos 1 zar=false) (h3:isT (Cx.mk D j true) q.pos 1 za3=false) (h4:isT (Cx.mk D j true) q.pos 1 zbA=false):
  Calls Tryz.prog 21 #[pv (Cx.mk D j true) K E S q (-1) 0] w (Out (Cx.mk D j true) K E A (zy (Cx.mk D j true) q) 0 S w):=by
 have HM:=zc hm
 have ac:=hm.tok
 have L:(Cx.mk D j true).ts.length≤4000:=hm.few
 clear hm
 have HV:Hid (zy (Cx.mk D j true) q=bd (bd (.ok q) (zj (Cx.mk D j true) false)) fun a=>bd (bd (bd (bd (.ok a.1) (zd (Cx.mk D j true) 4 cEq)) (pE (Cx.mk D j true) .sum 0)) (zd (Cx.mk D j true) 4 cSemi)) (zV (Cx.mk D j true) 3 a.2)):=by show zy (Cx.mk D j true) q=_;rw[zy,h0,h1,h2,h3,h4];rfl
 unfold pv
 go_enter Tryz.func21,Tryz.ntmps21
 go_wp2_with fail
 refine (zh (Cx.mk D j true) K E A S q (-1) 0 1 zC _ (zq (zq ac _) _) L (by decide)).mono ?_
 rintro e w1 ⟨rfl,am⟩
 rw[h0]
 obtain⟨X0,X1,m1,t1⟩:=HM.out.two am
 have o:=zc X0
 have z:=zc X1
 have ag:=zc m1
 have ar:=zc t1
 clear X0 X1 m1 t1 am
 clear ac
 obtain⟨Y,a1,a2,a3,a4,a5,Z,a7,a8,X,I,J,af⟩:=o.out.box
 go_wp2_with fail
 refine (zh (Cx.mk D j true) K E A S q (-1) 0 1 zT _ ag.out.tok L (by decide)).mono ?_
 rintro e w2 ⟨rfl,U⟩
 rw[h1]
 replace o:=zc (o.out.below U)
 replace z:=zc (z.out.below U)
 have ak:=zc (ar.out.below U)
 have aj:=zc (ag.out.later U)
 clear U ar ag
 clear Y a1 a2 a3 a4 a5 Z a7 a8 X I J af
 obtain⟨Y,a1,a2,a3,a4,a5,Z,a7,a8,X,I,J,af⟩:=o.out.box
 go_wp2_with fail
 refine (zh (Cx.mk D j true) K E A S q (-1) 0 1 zar _ aj.out.tok L (by decide)).mono ?_
 rintro e w3 ⟨rfl,M⟩
 rw[h2]
 replace o:=zc (o.out.below M)
 replace z:=zc (z.out.below M)
 have ay:=zc (ak.out.below M)
 have ae:=zc (aj.out.later M)
 clear M ak aj
 clear Y a1 a2 a3 a4 a5 Z a7 a8 X I J af
 obtain⟨Y,a1,a2,a3,a4,a5,Z,a7,a8,X,I,J,af⟩:=o.out.box
 go_wp2_with fail
 refine (zh (Cx.mk D j true) K E A S q (-1) 0 1 za3 _ ae.out.tok L (by decide)).mono ?_
 rintro e w4 ⟨rfl,N⟩
 rw[h3]
 replace o:=zc (o.out.below N)
 replace z:=zc (z.out.below N)
 have ap:=zc (ay.out.below N)
 have ai:=zc (ae.out.later N)
 clear N ay ae
 clear Y a1 a2 a3 a4 a5 Z a7 a8 X I J af
 obtain⟨Y,a1,a2,a3,a4,a5,Z,a7,a8,X,I,J,af⟩:=o.out.box
 go_wp2_with fail
 refine (zh (Cx.mk D j true) K E A S q (-1) 0 1 zbA _ ai.out.tok L (by decide)).mono ?_
 rintro e w5 ⟨rfl,O⟩
 rw[h4]
 replace o:=zc (o.out.below O)
 replace z:=zc (z.out.below O)
 have aC:=zc (ap.out.below O)
 have aE:=zc (ai.out.later O)
 clear O ap ai
 clear Y a1 a2 a3 a4 a5 Z a7 a8 X I J af
 obtain⟨Y,a1,a2,a3,a4,a5,Z,a7,a8,X,I,J,af⟩:=o.out.box
 go_wp2_with fail
 refine (zbe (Cx.mk D j true) K E A (.ok q) S q (-1) 0 false _ (zX q) aE.out).mono ?_
 rintro e w6 ⟨S6,q6,z6,n6,rfl,i6,m6,s6⟩
 replace o:=zc (o.out.stp s6)
 replace z:=zc (z.out.stp s6)
 have aw:=zc (aC.out.step s6)
 clear aC
 have ah:=zc m6
 have aG:=zc i6
 clear i6 m6 s6 aE
 clear Y a1 a2 a3 a4 a5 Z a7 a8 X I J af
 have aO:w.heap.size+1<w6.heap.size:=z.out.lt
 unfold pv
 go_upto_region 19 with fail
 refine zL (R:=fun W=>Bx K S6 W (w.heap.size) _∧Bx K S6 W (w.heap.size+1) _∧Bx K S6 W (w6.heap.size) _∧Mem (Cx.mk D j true) K E A S6 q6 W∧SB w.heap.size S w S6 W) ⟨(o.out.alloc _),(z.out.alloc _),(Bx.new ah.out _),(ah.out.alloc _),(aw.out.alloc _)⟩ ?_
 clear o z aw ah
 rintro w7 ⟨X0,X1,X2,m7,t7⟩
 have o:=zc X0
 have z:=zc X1
 have H:=zc X2
 have as:=zc m7
 have aB:=zc t7
 clear m7 t7 X0 X1 X2
 obtain⟨c0,c1,c2,c3,c4,c5,c6,c7,c8,c9,aJ,aM,cf⟩:=H.out.box
 go_wp2_with fail
 refine (zad (Cx.mk D j true) K E A _ S6 q6 z6 0 cEq _ aG.out.fst as.out).mono ?_
 rintro e w8 ⟨S8,q8,z8,rfl,i8,m8,s8⟩
 replace o:=zc (o.out.stp s8)
 replace z:=zc (z.out.stp s8)
 replace H:=zc (H.out.stp s8)
 have aF:=zc (aB.out.step s8)
 clear aB
 have av:=zc m8
 have aI:=zc i8
 clear i8 m8 s8 as
 clear c0 c1 c2 c3 c4 c5 c6 c7 c8 c9 aJ aM cf
 go_wp2_with fail
 refine (zcN (Cx.mk D j true) K E A _ S8 q8 z8 _ aI.out av.out).mono ?_
 rintro e w9 ⟨S9,q9,z9,rfl,i9,m9,s9⟩
 replace o:=zc (o.out.stp s9)
 replace z:=zc (z.out.stp s9)
 replace H:=zc (H.out.stp s9)
 have aA:=zc (aF.out.step s9)
 clear aF
 have aq:=zc m9
 have aL:=zc i9
 clear i9 m9 s9 av
 go_wp2_with fail
 refine (zad (Cx.mk D j true) K E A _ S9 q9 z9 0 cSemi _ aL.out aq.out).mono ?_
 rintro e aR ⟨aK,aN,aH,rfl,ao,ax,V⟩
 replace o:=zc (o.out.stp V)
 replace z:=zc (z.out.stp V)
 replace H:=zc (H.out.stp V)
 have ad:=zc (aA.out.step V)
 clear aA
 have aa:=zc ax
 have ab:=zc ao
 clear ao ax V aq
 go_wp2_with fail
 refine (zcK (Cx.mk D j true) K E A _ aK aN aH 0 3 n6 _ ab.out aa.out (zbh ab.out)).mono ?_
 rintro e aT ⟨aP,aV,aU,rfl,an,aD,Q⟩
 replace o:=zc (o.out.stp Q)
 replace z:=zc (z.out.stp Q)
 replace H:=zc (H.out.stp Q)
 have az:=zc (ad.out.step Q)
 clear ad
 have al:=zc aD
 have au:=zc an
 clear an aD Q aa
 obtain⟨b0,b1,b2,b3,b4,b5,b6,b7,b8,b9,aS,aQ,bf⟩:=z.out.box
 unfold pv
 go_wp2
 refine bodyPost_ret (results_cell_row rfl _ _ (w.heap.size+1) 53 _ (0,0) _ rfl ((z.out.put ..)).heap Tryz.underlying53 rfl (by kernel_rfl)) rfl ?_
 rw[HV.out,←aG.out.bind (fun q n=>bd (bd (bd (bd (.ok q) (zd (Cx.mk D j true) 4 cEq)) (pE (Cx.mk D j true) .sum 0)) (zd (Cx.mk D j true) 4 cSemi)) (zV (Cx.mk D j true) 3 n)),←ziP]
 exact zY rfl au.out (al.out.put z.out ..) (az.out.put (by omega) ..)
theorem znP (z:List Tk) (j:Nat) (A o n:Nat) (S:Sv) (q:PS) (w:World) (D:Mem (Cx.mk z j true) A o n S q w):
  Calls Tryz.prog 21 #[pv (Cx.mk z j true) A o S q (-1) 0] w (Out (Cx.mk z j true) A o n (zy (Cx.mk z j true) q) 0 S w):=by
 cases E:isT (Cx.mk z j true) q.pos 1 zC with
 |true=>exact znJ z j A o n S q w D E
 |false=>
  cases H:isT (Cx.mk z j true) q.pos 1 zT with
  |true=>exact znK z j A o n S q w D E H
  |false=>
   cases I:isT (Cx.mk z j true) q.pos 1 zar with
   |true=>exact znL z j A o n S q w D E H I
   |false=>
    cases J:isT (Cx.mk z j true) q.pos 1 za3 with
    |true=>exact znM z j A o n S q w D E H I J
    |false=>
     cases K:isT (Cx.mk z j true) q.pos 1 zbA with
     |true=>exact znN z j A o n S q w D E H I J K
     |false=>
      exact znO z j A o n S q w D E H I J K
end Go.Proofs.YticdggnnpjachaaGreat
