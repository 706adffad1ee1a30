/-
  What spec's l4Import answers: the walks.
  What spec's l4Export answers: the walks.
  What spec's l4Export answers to a list of names: the walks.
  What spec's l4Item answers: the walks.
-/
import Derived.Test.YticdggnnpjachaaGreatCbSpecRowToSpecParseK
namespace Go.Proofs.YticdggnnpjachaaGreat
set_option maxRecDepth 100000
set_option maxHeartbeats 6400000
open Go.RowKit Go.PlainAid
theorem zcO {C:Cx} {k:Int} {s:ByteArray} {q j:PS} {n:Int} (h:Is (bd (.ok q) (zd C k s)) j n) (o:isT C q.pos k s=true):j=adv q∧n= -1:=by
 rw[zz,zd,if_pos o] at h
 exact h
theorem zeR {α:Type} (f:α→PS→PR) (l:List α) (e:Nat):zP f l (.error e)= .error e:=by
 induction l with
 |nil=>rfl
 |cons a l j=>exact j
theorem zf7 {α:Type} (f:α→PS→PR) (l:List α) (x:PR) {k:Nat} (j:k<l.length):zP f (l.drop k) x=zP f (l.drop (k+1)) (bd x (f (l[k]))):=by
 rw[List.drop_eq_getElem_cons j]
 rfl
theorem ziL {C:Cx} {j:PRN} {I K:PS} {E A:Int} {o z:ByteArray} {G:ByteArray→ByteArray→PS→PR} (H:Is2 j I E o) (n:Is2 (bd (bd (zaK j) (zd C 1 zU)) (zH C)) K A z):
  bd (bd (zaK (bd (bd (zaK j) (zd C 1 zU)) (zH C))) (zd C 4 cSemi)) (G z o)=bd j fun a=>bd (zaR C (zaE C (.ok a.1))) fun b=>G b.2 a.2 b.1:=by
 cases j with
 |error e=>rfl
 |ok a=>
  obtain⟨_,_,rfl⟩:=H
  have D:bd (bd (zaK (.ok a)) (zd C 1 zU)) (zH C)=zaE C (.ok a.1):=rfl
  rw[D] at n ⊢
  rw[zz]
  cases J:zaE C (.ok a.1) with
  |error e=>rfl
  |ok b=>
   rw[J] at n
   obtain⟨_,_,rfl⟩:=n
   show bd (zd C 4 cSemi b.1) (G b.2 a.2)=bd (bd (zd C 4 cSemi b.1) fun q=>.ok (q,b.2)) fun b=>G b.2 a.2 b.1
   rw[zM]
   rfl
def zeS (y:PRL):PR:=bd y fun a=>.ok a.1
theorem Is3.fst {y:PRL} {q:PS} {z:Int} {l:List Ep} (h:Is3 y q z l):Is (zeS y) q z:=by
 cases y with
 |ok a=>exact⟨h.1,h.2.1⟩
 |error e=>exact h
theorem zgI {C:Cx} {y:PRL} {E J:PS} {A o:Int} {l:List Ep} {n:ByteArray} {G:ByteArray→Ep→PS→PR} (D:Is3 y E A l) (j:Is2 (bd (bd (zeS y) (zd C 1 zU)) (zH C)) J o n):
  zP (G n) l (bd (zaK (bd (bd (zeS y) (zd C 1 zU)) (zH C))) (zd C 4 cSemi))=bd y fun a=>bd (zaR C (zaE C (.ok a.1))) fun b=>zP (G b.2) a.2 (.ok b.1):=by
 cases y with
 |error e=>exact zeR _ _ _
 |ok a=>
  obtain⟨_,_,rfl⟩:=D
  have z:bd (bd (zeS (.ok a)) (zd C 1 zU)) (zH C)=zaE C (.ok a.1):=rfl
  rw[z] at j ⊢
  rw[zz]
  cases H:zaE C (.ok a.1) with
  |error e=>exact zeR _ _ _
  |ok b=>
   rw[H] at j
   obtain⟨_,_,rfl⟩:=j
   show zP (G b.2) a.2 (bd (zaK (.ok b)) (zd C 4 cSemi))=bd (bd (zd C 4 cSemi b.1) fun q=>.ok (q,b.2)) fun b=>zP (G b.2) a.2 (.ok b.1)
   have I:bd (zaK (.ok b)) (zd C 4 cSemi)=zd C 4 cSemi b.1:=rfl
   rw[I,zM]
   cases zd C 4 cSemi b.1 with
   |error e=>exact zeR _ _ _
   |ok c=>rfl
theorem Mem.drew {C:Cx} {o n j:Nat} {S:Sv} {q:PS} {w:World} (h:Mem C o n j S q w):Mem C o n j S q w.drew:=⟨⟨h.own.rq,h.own.im,h.own.ep,h.own.st,h.own.ex,h.own.la,h.own.apart⟩,h.inv,h.tok,h.few,h.base⟩
theorem Stp.undrew {S n:Sv} {w j:World} (h:Stp S w.drew n j):Stp S w n j:=⟨h.os,h.tape,h.output,h.size,h.block,h.sub⟩
theorem Row.cells {S:Sv} {w:World} {n B g:Nat} {r:Rw} {l:List Ep} (h:Row S w n B r l) (H:r.a=some ⟨g,0,none⟩) {j:Nat} (D:j<l.length):
  w.cell? ⟨g,j*4+1,none⟩=some (.string (l[j]).name)∧w.cell? ⟨g,j*4+2,none⟩=some (.string (l[j]).loc):=by
 have q:=h.own
 unfold OwnR at q
 rw[H] at q
 have o: ∀(l:List Ep) (i c:Nat) (A:c<4) (z:i<l.length),(l.flatMap epL)[i*4+c]? =(epL l[i])[c]?:=by
  intro l
  induction l with
  |nil=>intro i c _ z;simp at z
  |cons x l E=>
   intro i c A z
   match i with
   |0=>
    simp only[List.flatMap_cons,Nat.zero_mul,Nat.zero_add,List.getElem_cons_zero]
    rw[List.getElem?_append_left (by simp[epL];omega)]
   |i+1=>
    simp only[List.flatMap_cons,List.getElem_cons_succ]
    rw[List.getElem?_append_right (by simp[epL];omega)]
    have e:(i+1)*4+c-(epL x).length=i*4+c:=by simp[epL];omega
    rw[e]
    exact E i c A (by simpa using z)
 rw[q.cellAt _ (by omega),q.cellAt _ (by omega)]
 exact⟨o l j 1 (by omega) D,o l j 2 (by omega) D⟩
theorem zn1 {C:Cx} {y:Im} {x:PR} {q q':PS} {z z':Int} (D:z<0→1≤q.pos) (A:Is x q z) (h:Is (bd x (zak C y)) q' z'):z'<0→1≤q'.pos:=by
 intro o
 obtain⟨e,_⟩:=zaC h o
 obtain⟨a,n,j⟩:=zf e
 subst n
 obtain⟨rfl,rfl⟩:=A
 unfold zak at j
 split at j
 ·cases j
 ·cases j
  exact D (by decide)
theorem zgJ {C:Cx} {y:Ep} {x:PR} {q q':PS} {z z':Int} (n:z<0→1≤q.pos) (D:Is x q z) (h:Is (bd x (zo C y)) q' z'):z'<0→1≤q'.pos:=by
 intro A
 obtain⟨e,_⟩:=zaC h A
 obtain⟨a,o,j⟩:=zf e
 subst o
 obtain⟨rfl,rfl⟩:=D
 unfold zo at j
 split at j
 ·cases j
 ·split at j
  ·cases j
   exact n (by decide)
  ·cases j
   exact n (by decide)
theorem zn2 (C:Cx) (D z o:Nat) (S:Sv) (q:PS) (w:World) (hm:Mem C D z o S q w) (hw:isT C q.pos 1 zah=true) (h1:isT C (q.pos+1) 4 zJ=false) (h2:isT C (q.pos+1) 4 zw=true):
  Calls Tryz.prog 70 #[pv C D z S q (-1) 0] w (Out C D z o (zaQ C q) 0 S w):=by
 have HM:=zc hm
 have ab:=hm.few
 clear hm
 have HV:Hid (zaQ C q=bd (bd (bd (bd (.ok (adv q)) (zd C 4 zw)) (zd C 1 sAs)) (zj C false)) fun a=>bd (zaR C (zaE C (.ok a.1))) fun b=>zak C ⟨b.2,zw,a.2⟩ b.1):=by
  show _=_
  rw[zaQ,zd,if_pos hw,zz]
  rw[zx,h1,h2]
  rfl
 unfold pv
 go_enter Tryz.func70,Tryz.ntmps70
 go_wp2_with fail
 refine (zaH C D z o (.ok q) S q (-1) 0 zah _ (zX q) ((HM.out.alloc _).alloc _)).mono ?_
 rintro e w1 ⟨S1,q1,z1,rfl,i1,m1,s1⟩
 obtain⟨Q,N,t1⟩:=HM.out.two2 s1
 have n:=zc Q
 have j:=zc N
 have am:=zc m1
 have aB:=zc t1
 have az:=zc i1
 clear Q N i1 m1 t1 s1
 obtain⟨ak,rfl⟩:=zcO az.out hw
 have HQ:=zc ak
 have ag:Hid (q1.pos=q.pos+1):=by show q1.pos=q.pos+1;rw[ak];rfl
 clear ak az
 obtain⟨a0,a1,a2,a3,a4,a5,a6,a7,a8,a9,E,I,af⟩:=n.out.box
 unfold pv
 go_upto_region 2 with fail
 refine zL (R:=fun W=>Bx D S1 W (w.heap.size) _∧Bx D S1 W (w.heap.size+1) _∧Mem C D z o S1 q1 W∧SB w.heap.size S w S1 W) ⟨(n.out.put ..),(j.out.other (by omega) ..),(am.out.put n.out ..),(aB.out.put (by omega) ..)⟩ ?_
 clear a0 a1 a2 a3 a4 a5 a6 a7 a8 a9 E I af
 clear n j aB am
 rintro w2 ⟨Q,N,m2,t2⟩
 have n:=zc Q
 have j:=zc N
 have ah:=zc m2
 have aI:=zc t2
 clear m2 t2 Q N
 obtain⟨a0,a1,a2,a3,a4,a5,a6,a7,a8,a9,E,I,af⟩:=n.out.box
 go_wp2_with fail
 refine (zh C D z o S1 q1 (-1) 0 4 zJ _ ah.out.tok ab (by decide)).mono ?_
 rintro e w3 ⟨rfl,V⟩
 rw[ag.out,h1]
 replace n:=zc (n.out.below V)
 replace j:=zc (j.out.below V)
 have aC:=zc (aI.out.below V)
 have aj:=zc (ah.out.later V)
 clear V aI ah
 clear a0 a1 a2 a3 a4 a5 a6 a7 a8 a9 E I af
 obtain⟨a0,a1,a2,a3,a4,a5,a6,a7,a8,a9,E,I,af⟩:=n.out.box
 go_wp2_with fail
 refine (zh C D z o S1 q1 (-1) 0 4 zw _ aj.out.tok ab (by decide)).mono ?_
 rintro e w4 ⟨rfl,M⟩
 rw[ag.out,h2]
 replace n:=zc (n.out.below M)
 replace j:=zc (j.out.below M)
 have aF:=zc (aC.out.below M)
 have aQ:=zc (aj.out.later M)
 clear M aC aj
 clear a0 a1 a2 a3 a4 a5 a6 a7 a8 a9 E I af
 obtain⟨a0,a1,a2,a3,a4,a5,a6,a7,a8,a9,E,I,af⟩:=n.out.box
 clear ag
 go_wp2_with fail
 refine (zad C D z o (.ok q1) S1 q1 (-1) 0 zw _ (zX q1) aQ.out).mono ?_
 rintro e w5 ⟨S5,q5,z5,rfl,i5,m5,s5⟩
 replace n:=zc (n.out.stp s5)
 replace j:=zc (j.out.stp s5)
 have aK:=zc (aF.out.step s5)
 clear aF
 have aL:=zc m5
 have aV:=zc i5
 clear i5 m5 s5 aQ
 clear a0 a1 a2 a3 a4 a5 a6 a7 a8 a9 E I af
 go_wp2_with fail
 refine (zaH C D z o _ S5 q5 z5 0 sAs _ aV.out aL.out).mono ?_
 rintro e w6 ⟨S6,q6,z6,rfl,i6,m6,s6⟩
 replace n:=zc (n.out.stp s6)
 replace j:=zc (j.out.stp s6)
 have aO:=zc (aK.out.step s6)
 clear aK
 have aG:=zc m6
 have aW:=zc i6
 clear i6 m6 s6 aL
 go_wp2_with fail
 refine (zbe C D z o _ S6 q6 z6 0 false _ aW.out aG.out).mono ?_
 rintro e w7 ⟨S7,q7,z7,n7,rfl,i7,m7,s7⟩
 replace n:=zc (n.out.stp s7)
 replace j:=zc (j.out.stp s7)
 have aq:=zc (aO.out.step s7)
 clear aO
 have al:=zc m7
 have ao:=zc i7
 clear i7 m7 s7 aG
 have bi:w.heap.size+1<w7.heap.size:=j.out.lt
 unfold pv
 go_upto_region 13 with fail
 refine zL (R:=fun W=>Bx D S7 W (w.heap.size) _∧Bx D S7 W (w.heap.size+1) _∧Bx D S7 W (w7.heap.size) _∧Mem C D z o S7 q7 W∧SB w.heap.size S w S7 W) ⟨(n.out.alloc _),(j.out.alloc _),(Bx.new al.out _),(al.out.alloc _),(aq.out.alloc _)⟩ ?_
 clear n j aq al
 rintro w8 ⟨Q,N,X2,m8,t8⟩
 have n:=zc Q
 have j:=zc N
 have A:=zc X2
 have au:=zc m8
 have aN:=zc t8
 clear m8 t8 Q N X2
 obtain⟨c0,c1,c2,c3,c4,c5,c6,c7,c8,c9,bb,aT,cf⟩:=A.out.box
 go_wp2_with fail
 refine (zaH C D z o _ S7 q7 z7 0 zU _ ao.out.fst au.out).mono ?_
 rintro e w9 ⟨S9,q9,z9,rfl,i9,m9,s9⟩
 replace n:=zc (n.out.stp s9)
 replace j:=zc (j.out.stp s9)
 replace A:=zc (A.out.stp s9)
 have an:=zc (aN.out.step s9)
 clear aN
 have aA:=zc m9
 have aY:=zc i9
 clear i9 m9 s9 au
 clear c0 c1 c2 c3 c4 c5 c6 c7 c8 c9 bb aT cf
 go_wp2_with fail
 refine (zdA C D z o _ S9 q9 z9 0 _ aY.out aA.out).mono ?_
 rintro e ai ⟨H,aM,ba,aS,rfl,av,aE,O⟩
 replace n:=zc (n.out.stp O)
 replace j:=zc (j.out.stp O)
 replace A:=zc (A.out.stp O)
 have ac:=zc (an.out.step O)
 clear an
 have U:=zc aE
 have ad:=zc av
 clear av aE O aA
 have bg:w.heap.size+1<ai.heap.size:=j.out.lt
 have aR:w7.heap.size<ai.heap.size:=A.out.lt
 unfold pv
 go_upto_region 14 with fail
 refine zL (R:=fun W=>Bx D H W (w.heap.size) _∧Bx D H W (w.heap.size+1) _∧Bx D H W (w7.heap.size) _∧Bx D H W (ai.heap.size) _∧Mem C D z o H aM W∧SB w.heap.size S w H W) ⟨(n.out.alloc _),(j.out.alloc _),(A.out.alloc _),(Bx.new U.out _),(U.out.alloc _),(ac.out.alloc _)⟩ ?_
 clear n j A ac U
 rintro bj ⟨Q,N,X2,X3,ap,aJ⟩
 have n:=zc Q
 have j:=zc N
 have A:=zc X2
 have L:=zc X3
 have Y:=zc ap
 have aa:=zc aJ
 clear ap aJ Q N X2 X3
 obtain⟨d0,d1,d2,d3,d4,d5,d6,d7,d8,d9,aU,bc,df⟩:=L.out.box
 go_wp2_with fail
 refine (zad C D z o _ H aM ba 0 cSemi _ ad.out.fst Y.out).mono ?_
 rintro e bp ⟨aX,be,aZ,rfl,aH,ar,J⟩
 replace n:=zc (n.out.stp J)
 replace j:=zc (j.out.stp J)
 replace A:=zc (A.out.stp J)
 replace L:=zc (L.out.stp J)
 have X:=zc (aa.out.step J)
 clear aa
 have ae:=zc ar
 have Z:=zc aH
 clear aH ar J Y
 clear d0 d1 d2 d3 d4 d5 d6 d7 d8 d9 aU bc df
 go_wp2_with fail
 refine (zg2 C D z o _ aX be aZ 0 ⟨aS,zw,n7⟩ _ Z.out ae.out (zbh Z.out)).mono ?_
 rintro e bm ⟨bl,bo,bq,rfl,ax,aP,K⟩
 replace n:=zc (n.out.stp K)
 replace j:=zc (j.out.stp K)
 replace A:=zc (A.out.stp K)
 replace L:=zc (L.out.stp K)
 have ay:=zc (X.out.step K)
 clear X
 have aD:=zc aP
 have aw:=zc ax
 clear ax aP K ae
 obtain⟨b0,b1,b2,b3,b4,b5,b6,b7,b8,b9,bk,bn,bf⟩:=j.out.box
 unfold pv
 go_wp2
 refine bodyPost_ret (results_cell_row rfl _ _ (w.heap.size+1) 53 _ (0,0) _ rfl ((j.out.put ..)).heap Tryz.underlying53 rfl (by kernel_rfl)) rfl ?_
 rw[HV.out,←HQ.out,←ziL (G:=fun b a=>zak C ⟨b,zw,a⟩) ao.out ad.out]
 exact zY rfl aw.out (aD.out.put j.out ..) (ay.out.put (by omega) ..)
theorem zn3 (C:Cx) (D z o:Nat) (S:Sv) (q:PS) (w:World) (hm:Mem C D z o S q w) (hw:isT C q.pos 1 zah=true) (h1:isT C (q.pos+1) 4 zJ=false) (h2:isT C (q.pos+1) 4 zw=false) (h3:zD C (q.pos+1) false=true):
  Calls Tryz.prog 70 #[pv C D z S q (-1) 0] w (Out C D z o (zaQ C q) 0 S w):=by
 have HM:=zc hm
 have Q:=hm.few
 clear hm
 have HV:Hid (zaQ C q=bd (bd (.ok (adv q)) (zj C false)) fun a=>bd (zaR C (zaE C (.ok a.1))) fun b=>zak C ⟨b.2,sDefault,a.2⟩ b.1):=by
  show _=_
  rw[zaQ,zd,if_pos hw,zz]
  rw[zx,h1,h2,h3]
  rfl
 unfold pv
 go_enter Tryz.func70,Tryz.ntmps70
 go_wp2_with fail
 refine (zaH C D z o (.ok q) S q (-1) 0 zah _ (zX q) ((HM.out.alloc _).alloc _)).mono ?_
 rintro e w1 ⟨S1,q1,z1,rfl,i1,m1,s1⟩
 obtain⟨O,M,t1⟩:=HM.out.two2 s1
 have j:=zc O
 have n:=zc M
 have am:=zc m1
 have az:=zc t1
 have ay:=zc i1
 clear O M i1 m1 t1 s1
 obtain⟨ak,rfl⟩:=zcO ay.out hw
 have HQ:=zc ak
 have V:Hid (q1.pos=q.pos+1):=by show q1.pos=q.pos+1;rw[ak];rfl
 clear ak ay
 obtain⟨a0,a1,X,a3,a4,Y,a6,a7,a8,a9,E,H,Z⟩:=j.out.box
 unfold pv
 go_upto_region 2 with fail
 refine zL (R:=fun W=>Bx D S1 W (w.heap.size) _∧Bx D S1 W (w.heap.size+1) _∧Mem C D z o S1 q1 W∧SB w.heap.size S w S1 W) ⟨(j.out.put ..),(n.out.other (by omega) ..),(am.out.put j.out ..),(az.out.put (by omega) ..)⟩ ?_
 clear a0 a1 X a3 a4 Y a6 a7 a8 a9 E H Z
 clear j n az am
 rintro w2 ⟨O,M,m2,t2⟩
 have j:=zc O
 have n:=zc M
 have ag:=zc m2
 have aG:=zc t2
 clear m2 t2 O M
 obtain⟨a0,a1,X,a3,a4,Y,a6,a7,a8,a9,E,H,Z⟩:=j.out.box
 go_wp2_with fail
 refine (zh C D z o S1 q1 (-1) 0 4 zJ _ ag.out.tok Q (by decide)).mono ?_
 rintro e w3 ⟨rfl,U⟩
 rw[V.out,h1]
 replace j:=zc (j.out.below U)
 replace n:=zc (n.out.below U)
 have aA:=zc (aG.out.below U)
 have aj:=zc (ag.out.later U)
 clear U aG ag
 clear a0 a1 X a3 a4 Y a6 a7 a8 a9 E H Z
 obtain⟨a0,a1,X,a3,a4,Y,a6,a7,a8,a9,E,H,Z⟩:=j.out.box
 go_wp2_with fail
 refine (zh C D z o S1 q1 (-1) 0 4 zw _ aj.out.tok Q (by decide)).mono ?_
 rintro e w4 ⟨rfl,L⟩
 rw[V.out,h2]
 replace j:=zc (j.out.below L)
 replace n:=zc (n.out.below L)
 have aE:=zc (aA.out.below L)
 have al:=zc (aj.out.later L)
 clear L aA aj
 clear a0 a1 X a3 a4 Y a6 a7 a8 a9 E H Z
 obtain⟨a0,a1,X,a3,a4,Y,a6,a7,a8,a9,E,H,Z⟩:=j.out.box
 go_wp2_with fail
 refine (zfz C D z o S1 q1 (-1) 0 false _ al.out.tok Q).mono ?_
 rintro e w5 ⟨rfl,N⟩
 rw[V.out,h3]
 replace j:=zc (j.out.below N)
 replace n:=zc (n.out.below N)
 have aH:=zc (aE.out.below N)
 have aI:=zc (al.out.later N)
 clear N aE al
 clear a0 a1 X a3 a4 Y a6 a7 a8 a9 E H Z
 obtain⟨a0,a1,X,a3,a4,Y,a6,a7,a8,a9,E,H,Z⟩:=j.out.box
 clear V
 go_wp2_with fail
 refine (zbe C D z o (.ok q1) S1 q1 (-1) 0 false _ (zX q1) aI.out).mono ?_
 rintro e w6 ⟨S6,q6,z6,n6,rfl,i6,m6,s6⟩
 replace j:=zc (j.out.stp s6)
 replace n:=zc (n.out.stp s6)
 have aK:=zc (aH.out.step s6)
 clear aH
 have ai:=zc m6
 have ax:=zc i6
 clear i6 m6 s6 aI
 clear a0 a1 X a3 a4 Y a6 a7 a8 a9 E H Z
 have aX:w.heap.size+1<w6.heap.size:=n.out.lt
 unfold pv
 go_upto_region 17 with fail
 refine zL (R:=fun W=>Bx D S6 W (w.heap.size) _∧Bx D S6 W (w.heap.size+1) _∧Bx D S6 W (w6.heap.size) _∧Mem C D z o S6 q6 W∧SB w.heap.size S w S6 W) ⟨(j.out.alloc _),(n.out.alloc _),(Bx.new ai.out _),(ai.out.alloc _),(aK.out.alloc _)⟩ ?_
 clear j n aK ai
 rintro w7 ⟨O,M,X2,m7,t7⟩
 have j:=zc O
 have n:=zc M
 have A:=zc X2
 have aM:=zc m7
 have ar:=zc t7
 clear m7 t7 O M X2
 obtain⟨c0,c1,c2,c3,c4,c5,c6,c7,c8,c9,aU,aO,cf⟩:=A.out.box
 go_wp2_with fail
 refine (zaH C D z o _ S6 q6 z6 0 zU _ ax.out.fst aM.out).mono ?_
 rintro e w8 ⟨S8,q8,z8,rfl,i8,m8,s8⟩
 replace j:=zc (j.out.stp s8)
 replace n:=zc (n.out.stp s8)
 replace A:=zc (A.out.stp s8)
 have aJ:=zc (ar.out.step s8)
 clear ar
 have aw:=zc m8
 have aT:=zc i8
 clear i8 m8 s8 aM
 clear c0 c1 c2 c3 c4 c5 c6 c7 c8 c9 aU aO cf
 go_wp2_with fail
 refine (zdA C D z o _ S8 q8 z8 0 _ aT.out aw.out).mono ?_
 rintro e w9 ⟨S9,q9,z9,n9,rfl,i9,m9,s9⟩
 replace j:=zc (j.out.stp s9)
 replace n:=zc (n.out.stp s9)
 replace A:=zc (A.out.stp s9)
 have an:=zc (aJ.out.step s9)
 clear aJ
 have ah:=zc m9
 have aC:=zc i9
 clear i9 m9 s9 aw
 have aW:w.heap.size+1<w9.heap.size:=n.out.lt
 have aN:w6.heap.size<w9.heap.size:=A.out.lt
 unfold pv
 go_upto_region 18 with fail
 refine zL (R:=fun W=>Bx D S9 W (w.heap.size) _∧Bx D S9 W (w.heap.size+1) _∧Bx D S9 W (w6.heap.size) _∧Bx D S9 W (w9.heap.size) _∧Mem C D z o S9 q9 W∧SB w.heap.size S w S9 W) ⟨(j.out.alloc _),(n.out.alloc _),(A.out.alloc _),(Bx.new ah.out _),(ah.out.alloc _),(an.out.alloc _)⟩ ?_
 clear j n A an ah
 rintro ba ⟨O,M,X2,X3,aD,aB⟩
 have j:=zc O
 have n:=zc M
 have A:=zc X2
 have K:=zc X3
 have ae:=zc aD
 have ac:=zc aB
 clear aD aB O M X2 X3
 obtain⟨d0,d1,d2,d3,d4,d5,d6,d7,d8,d9,aR,aV,df⟩:=K.out.box
 go_wp2_with fail
 refine (zad C D z o _ S9 q9 z9 0 cSemi _ aC.out.fst ae.out).mono ?_
 rintro e aY ⟨aP,aQ,aS,rfl,aq,ap,J⟩
 replace j:=zc (j.out.stp J)
 replace n:=zc (n.out.stp J)
 replace A:=zc (A.out.stp J)
 replace K:=zc (K.out.stp J)
 have ab:=zc (ac.out.step J)
 clear ac
 have aa:=zc ap
 have ad:=zc aq
 clear aq ap J ae
 clear d0 d1 d2 d3 d4 d5 d6 d7 d8 d9 aR aV df
 go_wp2_with fail
 refine (zg2 C D z o _ aP aQ aS 0 ⟨n9,sDefault,n6⟩ _ ad.out aa.out (zbh ad.out)).mono ?_
 rintro e bg ⟨bc,bi,be,rfl,aF,av,I⟩
 replace j:=zc (j.out.stp I)
 replace n:=zc (n.out.stp I)
 replace A:=zc (A.out.stp I)
 replace K:=zc (K.out.stp I)
 have ao:=zc (ab.out.step I)
 clear ab
 have aL:=zc av
 have au:=zc aF
 clear aF av I aa
 obtain⟨b0,b1,b2,b3,b4,b5,b6,b7,b8,b9,aZ,bb,bf⟩:=n.out.box
 unfold pv
 go_wp2
 refine bodyPost_ret (results_cell_row rfl _ _ (w.heap.size+1) 53 _ (0,0) _ rfl ((n.out.put ..)).heap Tryz.underlying53 rfl (by kernel_rfl)) rfl ?_
 rw[HV.out,←HQ.out,←ziL (G:=fun b a=>zak C ⟨b,sDefault,a⟩) ax.out aC.out]
 exact zY rfl au.out (aL.out.put n.out ..) (ao.out.put (by omega) ..)
theorem zn4 (C:Cx) (E z o:Nat) (S:Sv) (q:PS) (w:World) (hm:Mem C E z o S q w) (hw:isT C q.pos 1 zah=true) (h1:isT C (q.pos+1) 4 zJ=false) (h2:isT C (q.pos+1) 4 zw=false) (h3:zD C (q.pos+1) false=false):
  Calls Tryz.prog 70 #[pv C E z S q (-1) 0] w (Out C E z o (zaQ C q) 0 S w):=by
 have HM:=zc hm
 have J:=hm.few
 clear hm
 have HV:Hid (zaQ C q=bd (bd (.ok (adv q)) (zH C)) fun a=>zd C 4 cSemi a.1):=by
  show _=_
  rw[zaQ,zd,if_pos hw,zz]
  rw[zx,h1,h2,h3]
  rfl
 unfold pv
 go_enter Tryz.func70,Tryz.ntmps70
 go_wp2_with fail
 refine (zaH C E z o (.ok q) S q (-1) 0 zah _ (zX q) ((HM.out.alloc _).alloc _)).mono ?_
 rintro e w1 ⟨S1,Y,z1,rfl,i1,m1,s1⟩
 obtain⟨X0,X1,t1⟩:=HM.out.two2 s1
 have j:=zc X0
 have n:=zc X1
 have ah:=zc m1
 have al:=zc t1
 have ak:=zc i1
 clear X0 X1 i1 m1 t1 s1
 obtain⟨ae,rfl⟩:=zcO ak.out hw
 have HQ:=zc ae
 have L:Hid (Y.pos=q.pos+1):=by show Y.pos=q.pos+1;rw[ae];rfl
 clear ae ak
 obtain⟨U,V,M,Q,a4,N,X,a7,Z,a9,A,D,O⟩:=j.out.box
 unfold pv
 go_upto_region 2 with fail
 refine zL (R:=fun W=>Bx E S1 W (w.heap.size) _∧Bx E S1 W (w.heap.size+1) _∧Mem C E z o S1 Y W∧SB w.heap.size S w S1 W) ⟨(j.out.put ..),(n.out.other (by omega) ..),(ah.out.put j.out ..),(al.out.put (by omega) ..)⟩ ?_
 clear U V M Q a4 N X a7 Z a9 A D O
 clear j n al ah
 rintro w2 ⟨X0,X1,m2,t2⟩
 have j:=zc X0
 have n:=zc X1
 have aa:=zc m2
 have ao:=zc t2
 clear m2 t2 X0 X1
 obtain⟨U,V,M,Q,a4,N,X,a7,Z,a9,A,D,O⟩:=j.out.box
 go_wp2_with fail
 refine (zh C E z o S1 Y (-1) 0 4 zJ _ aa.out.tok J (by decide)).mono ?_
 rintro e w3 ⟨rfl,K⟩
 rw[L.out,h1]
 replace j:=zc (j.out.below K)
 replace n:=zc (n.out.below K)
 have am:=zc (ao.out.below K)
 have ad:=zc (aa.out.later K)
 clear K ao aa
 clear U V M Q a4 N X a7 Z a9 A D O
 obtain⟨U,V,M,Q,a4,N,X,a7,Z,a9,A,D,O⟩:=j.out.box
 go_wp2_with fail
 refine (zh C E z o S1 Y (-1) 0 4 zw _ ad.out.tok J (by decide)).mono ?_
 rintro e w4 ⟨rfl,H⟩
 rw[L.out,h2]
 replace j:=zc (j.out.below H)
 replace n:=zc (n.out.below H)
 have an:=zc (am.out.below H)
 have ag:=zc (ad.out.later H)
 clear H am ad
 clear U V M Q a4 N X a7 Z a9 A D O
 obtain⟨U,V,M,Q,a4,N,X,a7,Z,a9,A,D,O⟩:=j.out.box
 go_wp2_with fail
 refine (zfz C E z o S1 Y (-1) 0 false _ ag.out.tok J).mono ?_
 rintro e w5 ⟨rfl,I⟩
 rw[L.out,h3]
 replace j:=zc (j.out.below I)
 replace n:=zc (n.out.below I)
 have ap:=zc (an.out.below I)
 have aq:=zc (ag.out.later I)
 clear I an ag
 clear U V M Q a4 N X a7 Z a9 A D O
 obtain⟨U,V,M,Q,a4,N,X,a7,Z,a9,A,D,O⟩:=j.out.box
 clear L
 go_wp2_with fail
 refine (zdA C E z o (.ok Y) S1 Y (-1) 0 _ (zX Y) aq.out).mono ?_
 rintro e w6 ⟨S6,q6,z6,n6,rfl,i6,m6,s6⟩
 replace j:=zc (j.out.stp s6)
 replace n:=zc (n.out.stp s6)
 have ar:=zc (ap.out.step s6)
 clear ap
 have ac:=zc m6
 have aj:=zc i6
 clear i6 m6 s6 aq
 clear U V M Q a4 N X a7 Z a9 A D O
 have aA:w.heap.size+1<w6.heap.size:=n.out.lt
 unfold pv
 go_upto_region 20 with fail
 refine zL (R:=fun W=>Bx E S6 W (w.heap.size) _∧Bx E S6 W (w.heap.size+1) _∧Bx E S6 W (w6.heap.size) _∧Mem C E z o S6 q6 W∧SB w.heap.size S w S6 W) ⟨(j.out.alloc _),(n.out.alloc _),(Bx.new ac.out _),(ac.out.alloc _),(ar.out.alloc _)⟩ ?_
 clear j n ar ac
 rintro w7 ⟨X0,X1,X2,m7,t7⟩
 have j:=zc X0
 have n:=zc X1
 have ab:=zc X2
 have au:=zc m7
 have ai:=zc t7
 clear m7 t7 X0 X1 X2
 obtain⟨c0,c1,c2,c3,c4,c5,c6,c7,c8,c9,ay,av,cf⟩:=ab.out.box
 go_wp2_with fail
 refine (zad C E z o _ S6 q6 z6 0 cSemi _ aj.out.fst au.out).mono ?_
 rintro e w8 ⟨S8,q8,z8,rfl,i8,m8,s8⟩
 replace j:=zc (j.out.stp s8)
 replace n:=zc (n.out.stp s8)
 replace ab:=zc (ab.out.stp s8)
 have az:=zc (ai.out.step s8)
 clear ai
 have aw:=zc m8
 have ax:=zc i8
 clear i8 m8 s8 au
 clear c0 c1 c2 c3 c4 c5 c6 c7 c8 c9 ay av cf
 obtain⟨b0,b1,b2,b3,b4,b5,b6,b7,b8,b9,aB,aC,bf⟩:=n.out.box
 unfold pv
 go_wp2
 refine bodyPost_ret (results_cell_row rfl _ _ (w.heap.size+1) 53 _ (0,0) _ rfl ((n.out.put ..)).heap Tryz.underlying53 rfl (by kernel_rfl)) rfl ?_
 rw[HV.out,←HQ.out,←aj.out.bind (fun q _=>zd C 4 cSemi q)]
 exact zY rfl ax.out (aw.out.put n.out ..) (az.out.put (by omega) ..)
theorem zn5 (C:Cx) (D A o:Nat) (S:Sv) (q:PS) (w:World) (hm:Mem C D A o S q w) (hw:isT C q.pos 1 zah=true) (h1:isT C (q.pos+1) 4 zJ=true):
  Calls Tryz.prog 70 #[pv C D A S q (-1) 0] w (Out C D A o (zaQ C q) 0 S w):=by
 have HM:=zc hm
 have aB:=hm.few
 clear hm
 have HV:Hid (zaQ C q=bd (zcw C false (adv q)) fun a=>bd (zaR C (zaE C (.ok a.1))) fun b=>zP (fun e=>zak C (zbF b.2 e)) a.2 (.ok b.1)):=by
  show _=_
  rw[zaQ,zd,if_pos hw,zz]
  rw[zx,h1]
  rfl
 unfold pv
 go_enter Tryz.func70,Tryz.ntmps70
 go_wp2_with fail
 refine (zaH C D A o (.ok q) S q (-1) 0 zah _ (zX q) ((HM.out.alloc _).alloc _)).mono ?_
 rintro e w1 ⟨S1,q1,z1,rfl,i1,m1,s1⟩
 obtain⟨M,L,t1⟩:=HM.out.two2 s1
 have n:=zc M
 have z:=zc L
 have an:=zc m1
 have aA:=zc t1
 have az:=zc i1
 clear M L i1 m1 t1 s1
 obtain⟨aj,rfl⟩:=zcO az.out hw
 have HQ:=zc aj
 have ao:Hid (q1.pos=q.pos+1):=by show q1.pos=q.pos+1;rw[aj];rfl
 clear aj az
 obtain⟨a0,a1,a2,a3,a4,a5,a6,a7,a8,a9,I,J,af⟩:=n.out.box
 unfold pv
 go_upto_region 2 with fail
 refine zL (R:=fun W=>Bx D S1 W (w.heap.size) _∧Bx D S1 W (w.heap.size+1) _∧Mem C D A o S1 q1 W∧SB w.heap.size S w S1 W) ⟨(n.out.put ..),(z.out.other (by omega) ..),(an.out.put n.out ..),(aA.out.put (by omega) ..)⟩ ?_
 clear a0 a1 a2 a3 a4 a5 a6 a7 a8 a9 I J af
 clear n z aA an
 rintro w2 ⟨M,L,m2,t2⟩
 have n:=zc M
 have z:=zc L
 have ae:=zc m2
 have aH:=zc t2
 clear m2 t2 M L
 obtain⟨a0,a1,a2,a3,a4,a5,a6,a7,a8,a9,I,J,af⟩:=n.out.box
 go_wp2_with fail
 refine (zh C D A o S1 q1 (-1) 0 4 zJ _ ae.out.tok aB (by decide)).mono ?_
 rintro e w3 ⟨rfl,ab⟩
 rw[ao.out,h1]
 replace n:=zc (n.out.below ab)
 replace z:=zc (z.out.below ab)
 have ai:=zc (aH.out.below ab)
 have aI:=zc (ae.out.later ab)
 clear ab aH ae
 clear a0 a1 a2 a3 a4 a5 a6 a7 a8 a9 I J af
 obtain⟨a0,a1,a2,a3,a4,a5,a6,a7,a8,a9,I,J,af⟩:=n.out.box
 clear ao
 have aU:=ai.out.size
 go_wp2_with fail
 refine (zi7 C D A o S1 q1 0 false _ aI.out).mono ?_
 rintro e w4 ⟨S4,q4,z4,⟨ra,rc⟩,l,rfl,i4,m4,s4,R0,hl⟩
 obtain⟨g,rfl⟩: ∃g,ra=some ⟨g,0,none⟩:=R0.addr
 replace n:=zc (n.out.stp s4)
 replace z:=zc (z.out.stp s4)
 have aE:=zc (ai.out.step s4)
 clear ai
 have am:=zc m4
 have aF:=zc i4
 clear i4 m4 s4 aI
 clear a0 a1 a2 a3 a4 a5 a6 a7 a8 a9 I J af
 have H:Hid (Row S4 w4 o w.heap.size ⟨some ⟨g,0,none⟩,rc⟩ l):=⟨R0.own,R0.free,fun k hk=>Nat.le_trans aU (R0.new k hk),R0.addr⟩
 clear R0
 have aZ:w.heap.size+1<w4.heap.size:=z.out.lt
 unfold pv
 go_upto_region 4 with fail
 refine zL (R:=fun W=>Bx D S4 W (w.heap.size) _∧Bx D S4 W (w.heap.size+1) _∧Bx D S4 W (w4.heap.size) _∧Row S4 W o w.heap.size ⟨some ⟨g,0,none⟩,rc⟩ l∧Mem C D A o S4 q4 W∧SB w.heap.size S w S4 W) ⟨(n.out.alloc _),(z.out.alloc _),(Bx.new am.out _),(H.out.alloc _),(am.out.alloc _),(aE.out.alloc _)⟩ ?_
 clear n z aE am
 clear H
 rintro w5 ⟨M,L,X2,R0,m5,t5⟩
 have H:=zc R0
 clear R0
 have n:=zc M
 have z:=zc L
 have E:=zc X2
 have aM:=zc m5
 have aJ:=zc t5
 clear m5 t5 M L X2
 obtain⟨c0,c1,c2,c3,c4,c5,c6,c7,c8,c9,aV,aQ,cf⟩:=E.out.box
 go_wp2_with fail
 refine (zaH C D A o _ S4 q4 z4 0 zU _ aF.out.fst aM.out).mono ?_
 rintro e w6 ⟨S6,q6,z6,rfl,i6,m6,s6⟩
 replace n:=zc (n.out.stp s6)
 replace z:=zc (z.out.stp s6)
 replace E:=zc (E.out.stp s6)
 have aO:=zc (aJ.out.step s6)
 have O:Hid (Row S6 w6 o w.heap.size ⟨some ⟨g,0,none⟩,rc⟩ l):=H.out.stp s6
 clear H
 have H:=zc O
 clear O
 clear aJ
 have aG:=zc m6
 have aS:=zc i6
 clear i6 m6 s6 aM
 clear c0 c1 c2 c3 c4 c5 c6 c7 c8 c9 aV aQ cf
 go_wp2_with fail
 refine (zdA C D A o _ S6 q6 z6 0 _ aS.out aG.out).mono ?_
 rintro e w7 ⟨S7,q7,z7,n7,rfl,i7,m7,s7⟩
 replace n:=zc (n.out.stp s7)
 replace z:=zc (z.out.stp s7)
 replace E:=zc (E.out.stp s7)
 have av:=zc (aO.out.step s7)
 have O:Hid (Row S7 w7 o w.heap.size ⟨some ⟨g,0,none⟩,rc⟩ l):=H.out.stp s7
 clear H
 have H:=zc O
 clear O
 clear aO
 have ak:=zc m7
 have aq:=zc i7
 clear i7 m7 s7 aG
 have aY:w.heap.size+1<w7.heap.size:=z.out.lt
 have aP:w4.heap.size<w7.heap.size:=E.out.lt
 unfold pv
 go_upto_region 5 with fail
 refine zL (R:=fun W=>Bx D S7 W (w.heap.size) _∧Bx D S7 W (w.heap.size+1) _∧Bx D S7 W (w4.heap.size) _∧Bx D S7 W (w7.heap.size) _∧Row S7 W o w.heap.size ⟨some ⟨g,0,none⟩,rc⟩ l∧Mem C D A o S7 q7 W∧SB w.heap.size S w S7 W) ⟨(n.out.alloc _),(z.out.alloc _),(E.out.alloc _),(Bx.new ak.out _),(H.out.alloc _),(ak.out.alloc _),(av.out.alloc _)⟩ ?_
 clear n z E av ak
 clear H
 rintro w8 ⟨M,L,X2,X3,R0,m8,t8⟩
 have H:=zc R0
 clear R0
 have n:=zc M
 have z:=zc L
 have E:=zc X2
 have Q:=zc X3
 have aw:=zc m8
 have aN:=zc t8
 clear m8 t8 M L X2 X3
 obtain⟨d0,d1,d2,d3,d4,d5,d6,d7,d8,d9,ag,al,df⟩:=Q.out.box
 go_wp2_with fail
 refine (zad C D A o _ S7 q7 z7 0 cSemi _ aq.out.fst aw.out).mono ?_
 rintro e w9 ⟨X,q9,z9,rfl,i9,m9,s9⟩
 replace n:=zc (n.out.stp s9)
 replace z:=zc (z.out.stp s9)
 replace E:=zc (E.out.stp s9)
 replace Q:=zc (Q.out.stp s9)
 have Y:=zc (aN.out.step s9)
 have O:Hid (Row X w9 o w.heap.size ⟨some ⟨g,0,none⟩,rc⟩ l):=H.out.stp s9
 clear H
 have H:=zc O
 clear O
 clear aN
 have Z:=zc m9
 have V:=zc i9
 clear i9 m9 s9 aw
 clear d0 d1 d2 d3 d4 d5 d6 d7 d8 d9 ag al df
 obtain⟨a0,a1,a2,a3,a4,a5,a6,a7,a8,a9,I,J,af⟩:=n.out.box
 unfold pv
 go_upto_region 6 with fail
 refine zL (R:=fun W=>Bx D X W (w.heap.size) _∧Bx D X W (w.heap.size+1) _∧Bx D X W (w4.heap.size) _∧Bx D X W (w7.heap.size) _∧Row X W o w.heap.size ⟨some ⟨g,0,none⟩,rc⟩ l∧Mem C D A o X q9 W∧SB w.heap.size S w X W) ⟨(n.out.put ..),(z.out.other (by omega) ..),(E.out.other (by omega) ..),(Q.out.other (by omega) ..),(H.out.put n.out ..),(Z.out.put n.out ..),(Y.out.put (by omega) ..)⟩ ?_
 clear a0 a1 a2 a3 a4 a5 a6 a7 a8 a9 I J af
 clear n z E Q Y Z
 clear H
 rintro au ⟨M,L,X2,X3,R0,aa,aC⟩
 have H:=zc R0
 clear R0
 have n:=zc M
 have z:=zc L
 have E:=zc X2
 have Q:=zc X3
 have U:=zc aa
 have ac:=zc aC
 clear aa aC M L X2 X3
 have aR:Hid (_=_):=zgI (G:=fun b e=>zak C (zbF b e)) aF.out aq.out
 go_wp2
 go_loopg [8] l.length (fun k i wr=>∃(j:Nat) (x':PR) (N:Sv) (q':PS) (z':Int),j≤l.length∧i= .int .i64 j∧Is x' q' z'∧(z'<0→1≤q'.pos)∧zP (fun e=>zak C (zbF n7 e)) (l.drop j) x'=zaQ C q∧l.length-j=k∧Mem C D A o N q' wr∧SB w.heap.size S w N wr∧Bx D N wr w.heap.size #[.slice (some ⟨D,0,none⟩) C.ts.length A,.int .i64 q'.pos,.int .i64 C.fin,.bool C.scr,.slice N.rq.a q'.rq.length N.rq.cap,.slice N.im.a q'.im.length N.im.cap,.slice N.ep.a q'.ep.length N.ep.cap,.slice N.st.a q'.st.length N.st.cap,.slice N.ex.a q'.ex.length N.ex.cap,.slice N.la.a q'.la.length N.la.cap,.int .i64 z',.int .i64 0]∧Bx D N wr (w.heap.size+1) #[.slice none 0 0,.int .i64 0,.int .i64 0,.bool false,.slice none 0 0,.slice none 0 0,.slice none 0 0,.slice none 0 0,.slice none 0 0,.slice none 0 0,.int .i64 0,.int .i64 0]∧Row N wr o w.heap.size ⟨some ⟨g,0,none⟩,rc⟩ l)
 case atStart=>exact⟨0,_,X,q9,z9,Nat.zero_le _,rfl,V.out,zbh V.out,by rw[HV.out,←HQ.out];exact aR.out,rfl,U.out,ac.out,n.out,z.out,H.out⟩
 case round=>
  obtain⟨j,x9,X,q9,z9,hj,rfl,i9,p9,e9,g9,m9,t9,M,L,R0⟩:=hrel
  clear n z E Q H U ac
  have n:=zc M
  have z:=zc L
  have Z:=zc m9
  have Y:=zc t9
  have V:=zc i9
  have ap:=zc p9
  have aD:=zc e9
  have ay:=zc g9
  have H:=zc R0
  clear M L i9 m9 t9 e9 g9 R0 p9
  by_cases ar:j<l.length
  ·skip
   obtain⟨c1,c2⟩:=H.out.cells (g:=g) rfl ar
   have bc:=H.out.own.lt (g:=g) rfl
   have HX:Hid (∀e,e=l[j]→zP (fun e=>zak C (zbF n7 e)) (l.drop (j+1)) (bd x9 (zak C (zbF n7 e)))=zaQ C q):=fun e he=>by rw[he,←aD.out];exact (zf7 (fun e=>zak C (zbF n7 e)) l x9 ar).symm
   generalize aK:l[j]=el at c1 c2
   have aX:Hid (el=l[j]):=aK.symm
   clear aK
   obtain⟨a0,a1,a2,a3,a4,a5,a6,a7,a8,a9,I,J,af⟩:=n.out.box
   go_upto_region 9 with fail
   go_region_law (first|(go_simp;go_wp2_with (go_at_call 132;refine (zg2 C D A o x9 X q9 z9 0 (zbF n7 el) _ V.out Z.out.drew ap.out).mono ?_;rintro e au ⟨aL,aW,aT,rfl,ax,aa,ah⟩;obtain⟨d0,d1,d2,d3,d4,d5,d6,d7,d8,d9,ag,al,df⟩:=(n.out.stp ah.undrew).box;unfold pv)))
   all_goals
    clear a0 a1 a2 a3 a4 a5 a6 a7 a8 a9 I J af d0 d1 d2 d3 d4 d5 d6 d7 d8 d9 ag al df
    have ad:=zc ax
    have U:=zc aa
    have K:Hid (Stp X wr aL au):=ah.undrew
    clear ax aa ah
    go_wp2
    go_roundg (gk-1)
    case rel=>exact⟨j+1,_,aL,aW,aT,by omega,by go_num,ad.out,zn1 ap.out V.out ad.out,HX.out el aX.out,by have:=ay.out;omega,U.out.put (n.out.stp K.out) _ _ _ _ _ _ _ _ _ _ _ _,(Y.out.step K.out).put (by omega) _ _ _ _ _ _ _ _ _ _ _ _,(n.out.stp K.out).put _ _ _ _ _ _ _ _ _ _ _ _,(z.out.stp K.out).other (by omega) _ _ _ _ _ _ _ _ _ _ _ _,(H.out.stp K.out).put (n.out.stp K.out) _ _ _ _ _ _ _ _ _ _ _ _⟩
    case measure=>have:=ay.out;omega
  ·skip
   obtain⟨a0,a1,a2,a3,a4,a5,a6,a7,a8,a9,I,J,af⟩:=n.out.box
   obtain⟨b0,b1,b2,b3,b4,b5,b6,b7,b8,b9,ba,bb,bf⟩:=z.out.box
   go_wp2
   refine bodyPost_ret (results_cell_row rfl _ _ (w.heap.size+1) 53 _ (0,0) _ rfl ((z.out.put ..)).heap Tryz.underlying53 rfl (by kernel_rfl)) rfl ?_
   exact zY rfl (show Is (zaQ C q) q9 z9 from by rw[←aD.out,List.drop_eq_nil_of_le (by omega)];exact V.out) (Z.out.put z.out ..) (Y.out.put (by omega) ..)
theorem zn6 {C:Cx} {k:Int} {n:ByteArray} {q q':PS} (h:zV C k n q= .ok q'):q'={q with st:=q.st++[⟨k,n,(q.ex.length:Int)-1⟩]}∧q.st.length<80:=by
 unfold zV at h
 split at h
 ·cases h
 ·cases h
  exact⟨rfl,by omega⟩
theorem ziM {C:Cx} {x:PR} {k:Int} {s:ByteArray} {j:Int} {n:ByteArray} {q:PS} {z:Int} (h:Is (bd (bd x (zd C k s)) (zV C j n)) q z):z<0→1≤q.pos:=by
 intro D
 obtain⟨e,_⟩:=zaC h D
 obtain⟨a,E,A⟩:=zf e
 obtain⟨b,_,o⟩:=zf E
 obtain⟨rfl,_⟩:=zb4 o
 obtain⟨rfl,_⟩:=zn6 A
 simp[adv]
theorem ziN {C:Cx} {y:PRN} {G:PR→PR} {k:Int} {s:ByteArray} {j:Int} {q:PS} {z:Int} {n:ByteArray} (h:Is2 (withN y fun x n=>bd (bd (G x) (zd C k s)) (zV C j n)) q z n):z<0→1≤q.pos:=by
 intro D
 cases y with
 |error e=>have:z=(e:Int):=h;omega
 |ok a=>
  have o:Is2 (bd (bd (bd (G (.ok a.1)) (zd C k s)) (zV C j a.2)) fun q=>.ok (q,a.2)) q z n:=h
  cases A:bd (bd (G (.ok a.1)) (zd C k s)) (zV C j a.2) with
  |error e=>rw[A] at o;have:z=(e:Int):=o;omega
  |ok b=>
   rw[A] at o
   obtain⟨rfl,rfl,_⟩:=o
   exact ziM (show Is (bd (bd (G (.ok a.1)) (zd C k s)) (zV C j a.2)) q (-1) by rw[A];exact⟨rfl,rfl⟩) (by decide)
theorem zn7 {C:Cx} {j q:PS} {z:Int} {n:ByteArray} (h:Is2 (zcj C j) q z n):z<0→1≤q.pos:=ziN (G:=fun x=>bd (bd x (zd C 4 cEq)) (pE C .sum 0)) h
theorem zn8 {C:Cx} {j q:PS} {z:Int} {n:ByteArray} (h:Is2 (fnP C j) q z n):z<0→1≤q.pos:=ziN (G:=fun x=>bd (bd (bd (bd (bd (bd x (zd C 4 zn)) (zd C 4 za0)) (zd C 4 zJ)) (zd C 1 zdT)) (pE C .sum 0)) (zd C 4 cSemi)) h
theorem zn9 {C:Cx} {x:PR} {D:PS} {o:Int} {n:ByteArray} {G:ByteArray→PS→PR} (j:Is2 (bd (bd x (zd C 1 zU)) (zH C)) D o n):
  bd (bd (zaK (bd (bd x (zd C 1 zU)) (zH C))) (zd C 4 cSemi)) (G n)=bd (zaR C (zaE C x)) fun b=>G b.2 b.1:=by
 have z:bd (bd x (zd C 1 zU)) (zH C)=zaE C x:=rfl
 rw[z] at j ⊢
 cases A:zaE C x with
 |error e=>rfl
 |ok b=>
  rw[A] at j
  obtain⟨_,_,rfl⟩:=j
  show bd (zd C 4 cSemi b.1) (G b.2)=bd (bd (zd C 4 cSemi b.1) fun q=>.ok (q,b.2)) fun b=>G b.2 b.1
  rw[zM]
  rfl
theorem znA {C:Cx} {y:PRL} {n:PS} {j:Int} {l:List Ep} {f:Ep→PS→PR} {D:PS×List Ep→PR} (z:Is3 y n j l) (A:za8 l=false) (o:(decide (j<0)&&isT C n.pos 1 zU)=false):
  zP f l (bd (zeS y) (zd C 4 cSemi))=bd y fun a=>if !za8 a.2&& !isT C a.1.pos 1 zU then bd (zd C 4 cSemi a.1) fun q=>zP f a.2 (.ok q) else D a:=by
 cases y with
 |error e=>exact zeR _ _ _
 |ok a=>
  obtain⟨rfl,rfl,rfl⟩:=z
  rw[Bool.and_eq_false_iff] at o
  rw[zz,A,o.resolve_left (by decide)]
  show zP f a.2 (zd C 4 cSemi a.1)=bd (zd C 4 cSemi a.1) fun q=>zP f a.2 (.ok q)
  cases zd C 4 cSemi a.1 with
  |error e=>exact zeR _ _ _
  |ok c=>rfl
theorem ziO {C:Cx} {y:PRL} {o:PS} {n:Int} {l:List Ep} {D E:PS×List Ep→PR} (q:Is3 y o n l) (j:za8 l=true∨(decide (n<0)&&isT C o.pos 1 zU)=true):
  bd y D=bd y fun a=>if !za8 a.2&& !isT C a.1.pos 1 zU then E a else D a:=by
 cases y with
 |error e=>rfl
 |ok a=>
  obtain⟨rfl,rfl,rfl⟩:=q
  rw[zz,zz]
  rcases j with h|h
  ·rw[h];rfl
  ·rw[Bool.and_eq_true] at h
   rw[h.2,Bool.not_true,Bool.and_false]
   rfl
theorem znB (C:Cx) (A z o:Nat) (S:Sv) (q:PS) (w:World) (hm:Mem C A z o S q w) (hw:isT C q.pos 1 zaf=true) (h1:isT C (q.pos+1) 4 zJ=false) (h2:isT C (q.pos+1) 4 zw=true):
  Calls Tryz.prog 71 #[pv C A z S q (-1) 0] w (Out C A z o (zag C q) 0 S w):=by
 have HM:=zc hm
 have N:=hm.few
 clear hm
 have HV:Hid (zag C q=bd (zaR C (zaE C (bd (.ok (adv q)) (zd C 4 zw)))) fun b=>zo C ⟨3,sNone,sNone,b.2⟩ b.1):=by
  show _=_
  rw[zag,zd,if_pos hw,zz]
  rw[zx,h1,h2]
  rfl
 unfold pv
 go_enter Tryz.func71,Tryz.ntmps71
 go_wp2_with fail
 refine (zaH C A z o (.ok q) S q (-1) 0 zaf _ (zX q) ((HM.out.alloc _).alloc _)).mono ?_
 rintro e w1 ⟨Z,O,z1,rfl,i1,m1,s1⟩
 obtain⟨M,L,t1⟩:=HM.out.two2 s1
 have j:=zc M
 have n:=zc L
 have ad:=zc m1
 have am:=zc t1
 have ak:=zc i1
 clear M L i1 m1 t1 s1
 obtain⟨ab,rfl⟩:=zcO ak.out hw
 have HQ:=zc ab
 have Q:Hid (O.pos=q.pos+1):=by show O.pos=q.pos+1;rw[ab];rfl
 clear ab ak
 obtain⟨a0,a1,V,a3,a4,X,a6,a7,a8,a9,D,E,Y⟩:=j.out.box
 unfold pv
 go_upto_region 2 with fail
 refine zL (R:=fun W=>Bx A Z W (w.heap.size) _∧Bx A Z W (w.heap.size+1) _∧Mem C A z o Z O W∧SB w.heap.size S w Z W) ⟨(j.out.put ..),(n.out.other (by omega) ..),(ad.out.put j.out ..),(am.out.put (by omega) ..)⟩ ?_
 clear a0 a1 V a3 a4 X a6 a7 a8 a9 D E Y
 clear j n am ad
 rintro w2 ⟨M,L,m2,t2⟩
 have j:=zc M
 have n:=zc L
 have U:=zc m2
 have aw:=zc t2
 clear m2 t2 M L
 obtain⟨a0,a1,V,a3,a4,X,a6,a7,a8,a9,D,E,Y⟩:=j.out.box
 go_wp2_with fail
 refine (zh C A z o Z O (-1) 0 4 zJ _ U.out.tok N (by decide)).mono ?_
 rintro e w3 ⟨rfl,K⟩
 rw[Q.out,h1]
 replace j:=zc (j.out.below K)
 replace n:=zc (n.out.below K)
 have an:=zc (aw.out.below K)
 have aa:=zc (U.out.later K)
 clear K aw U
 clear a0 a1 V a3 a4 X a6 a7 a8 a9 D E Y
 obtain⟨a0,a1,V,a3,a4,X,a6,a7,a8,a9,D,E,Y⟩:=j.out.box
 go_wp2_with fail
 refine (zh C A z o Z O (-1) 0 4 zw _ aa.out.tok N (by decide)).mono ?_
 rintro e w4 ⟨rfl,H⟩
 rw[Q.out,h2]
 replace j:=zc (j.out.below H)
 replace n:=zc (n.out.below H)
 have ar:=zc (an.out.below H)
 have aC:=zc (aa.out.later H)
 clear H an aa
 clear a0 a1 V a3 a4 X a6 a7 a8 a9 D E Y
 obtain⟨a0,a1,V,a3,a4,X,a6,a7,a8,a9,D,E,Y⟩:=j.out.box
 clear Q
 go_wp2_with fail
 refine (zad C A z o (.ok O) Z O (-1) 0 zw _ (zX O) aC.out).mono ?_
 rintro e w5 ⟨S5,q5,z5,rfl,i5,m5,s5⟩
 replace j:=zc (j.out.stp s5)
 replace n:=zc (n.out.stp s5)
 have ay:=zc (ar.out.step s5)
 clear ar
 have az:=zc m5
 have aE:=zc i5
 clear i5 m5 s5 aC
 clear a0 a1 V a3 a4 X a6 a7 a8 a9 D E Y
 go_wp2_with fail
 refine (zaH C A z o _ S5 q5 z5 0 zU _ aE.out az.out).mono ?_
 rintro e w6 ⟨S6,q6,z6,rfl,i6,m6,s6⟩
 replace j:=zc (j.out.stp s6)
 replace n:=zc (n.out.stp s6)
 have aB:=zc (ay.out.step s6)
 clear ay
 have av:=zc m6
 have aF:=zc i6
 clear i6 m6 s6 az
 go_wp2_with fail
 refine (zdA C A z o _ S6 q6 z6 0 _ aF.out av.out).mono ?_
 rintro e w7 ⟨S7,q7,z7,n7,rfl,i7,m7,s7⟩
 replace j:=zc (j.out.stp s7)
 replace n:=zc (n.out.stp s7)
 have ah:=zc (aB.out.step s7)
 clear aB
 have ac:=zc m7
 have ag:=zc i7
 clear i7 m7 s7 av
 have aH:w.heap.size+1<w7.heap.size:=n.out.lt
 unfold pv
 go_upto_region 20 with fail
 refine zL (R:=fun W=>Bx A S7 W (w.heap.size) _∧Bx A S7 W (w.heap.size+1) _∧Bx A S7 W (w7.heap.size) _∧Mem C A z o S7 q7 W∧SB w.heap.size S w S7 W) ⟨(j.out.alloc _),(n.out.alloc _),(Bx.new ac.out _),(ac.out.alloc _),(ah.out.alloc _)⟩ ?_
 clear j n ah ac
 rintro w8 ⟨M,L,X2,m8,t8⟩
 have j:=zc M
 have n:=zc L
 have I:=zc X2
 have ai:=zc m8
 have aA:=zc t8
 clear m8 t8 M L X2
 obtain⟨c0,c1,c2,c3,c4,c5,c6,c7,c8,c9,aG,aD,cf⟩:=I.out.box
 go_wp2_with fail
 refine (zad C A z o _ S7 q7 z7 0 cSemi _ ag.out.fst ai.out).mono ?_
 rintro e w9 ⟨S9,q9,z9,rfl,i9,m9,s9⟩
 replace j:=zc (j.out.stp s9)
 replace n:=zc (n.out.stp s9)
 replace I:=zc (I.out.stp s9)
 have ae:=zc (aA.out.step s9)
 clear aA
 have al:=zc m9
 have ao:=zc i9
 clear i9 m9 s9 ai
 clear c0 c1 c2 c3 c4 c5 c6 c7 c8 c9 aG aD cf
 go_wp2_with fail
 refine (zd7 C A z o _ S9 q9 z9 0 ⟨3,sNone,sNone,n7⟩ _ ao.out al.out (zbh ao.out)).mono ?_
 rintro e aJ ⟨aM,aN,aL,rfl,aj,aq,J⟩
 replace j:=zc (j.out.stp J)
 replace n:=zc (n.out.stp J)
 replace I:=zc (I.out.stp J)
 have ap:=zc (ae.out.step J)
 clear ae
 have ax:=zc aq
 have au:=zc aj
 clear aj aq J al
 obtain⟨b0,b1,b2,b3,b4,b5,b6,b7,b8,b9,aI,aK,bf⟩:=n.out.box
 unfold pv
 go_wp2
 refine bodyPost_ret (results_cell_row rfl _ _ (w.heap.size+1) 53 _ (0,0) _ rfl ((n.out.put ..)).heap Tryz.underlying53 rfl (by kernel_rfl)) rfl ?_
 rw[HV.out,←HQ.out,←zn9 (G:=fun b=>zo C ⟨3,sNone,sNone,b⟩) ag.out]
 exact zY rfl au.out (ax.out.put n.out ..) (ap.out.put (by omega) ..)
theorem znC (C:Cx) (A z o:Nat) (S:Sv) (q:PS) (w:World) (hm:Mem C A z o S q w) (hw:isT C q.pos 1 zaf=true) (h1:isT C (q.pos+1) 4 zJ=false) (h2:isT C (q.pos+1) 4 zw=false) (h3:isT C (q.pos+1) 1 sDefault=true):
  Calls Tryz.prog 71 #[pv C A z S q (-1) 0] w (Out C A z o (zag C q) 0 S w):=by
 have HM:=zc hm
 have M:=hm.few
 clear hm
 have HV:Hid (zag C q=bd (bd (bd (bd (bd (.ok (adv q)) (zd C 1 sDefault)) (pE C .sum 0)) (zd C 4 cSemi)) (zV C 1 zbN)) (zo C ⟨1,sDefault,zbN,sNone⟩)):=by
  show _=_
  rw[zag,zd,if_pos hw,zz]
  rw[zx,h1,h2,h3]
  rfl
 unfold pv
 go_enter Tryz.func71,Tryz.ntmps71
 go_wp2_with fail
 refine (zaH C A z o (.ok q) S q (-1) 0 zaf _ (zX q) ((HM.out.alloc _).alloc _)).mono ?_
 rintro e w1 ⟨S1,q1,z1,rfl,i1,m1,s1⟩
 obtain⟨X0,X1,t1⟩:=HM.out.two2 s1
 have j:=zc X0
 have n:=zc X1
 have aj:=zc m1
 have av:=zc t1
 have ar:=zc i1
 clear X0 X1 i1 m1 t1 s1
 obtain⟨ah,rfl⟩:=zcO ar.out hw
 have HQ:=zc ah
 have O:Hid (q1.pos=q.pos+1):=by show q1.pos=q.pos+1;rw[ah];rfl
 clear ah ar
 obtain⟨Y,Z,Q,X,a4,U,a6,a7,a8,a9,D,E,V⟩:=j.out.box
 unfold pv
 go_upto_region 2 with fail
 refine zL (R:=fun W=>Bx A S1 W (w.heap.size) _∧Bx A S1 W (w.heap.size+1) _∧Mem C A z o S1 q1 W∧SB w.heap.size S w S1 W) ⟨(j.out.put ..),(n.out.other (by omega) ..),(aj.out.put j.out ..),(av.out.put (by omega) ..)⟩ ?_
 clear Y Z Q X a4 U a6 a7 a8 a9 D E V
 clear j n av aj
 rintro w2 ⟨X0,X1,m2,t2⟩
 have j:=zc X0
 have n:=zc X1
 have ad:=zc m2
 have aC:=zc t2
 clear m2 t2 X0 X1
 obtain⟨Y,Z,Q,X,a4,U,a6,a7,a8,a9,D,E,V⟩:=j.out.box
 go_wp2_with fail
 refine (zh C A z o S1 q1 (-1) 0 4 zJ _ ad.out.tok M (by decide)).mono ?_
 rintro e w3 ⟨rfl,N⟩
 rw[O.out,h1]
 replace j:=zc (j.out.below N)
 replace n:=zc (n.out.below N)
 have aw:=zc (aC.out.below N)
 have ag:=zc (ad.out.later N)
 clear N aC ad
 clear Y Z Q X a4 U a6 a7 a8 a9 D E V
 obtain⟨Y,Z,Q,X,a4,U,a6,a7,a8,a9,D,E,V⟩:=j.out.box
 go_wp2_with fail
 refine (zh C A z o S1 q1 (-1) 0 4 zw _ ag.out.tok M (by decide)).mono ?_
 rintro e w4 ⟨rfl,H⟩
 rw[O.out,h2]
 replace j:=zc (j.out.below H)
 replace n:=zc (n.out.below H)
 have ay:=zc (aw.out.below H)
 have ai:=zc (ag.out.later H)
 clear H aw ag
 clear Y Z Q X a4 U a6 a7 a8 a9 D E V
 obtain⟨Y,Z,Q,X,a4,U,a6,a7,a8,a9,D,E,V⟩:=j.out.box
 go_wp2_with fail
 refine (zh C A z o S1 q1 (-1) 0 1 sDefault _ ai.out.tok M (by decide)).mono ?_
 rintro e w5 ⟨rfl,L⟩
 rw[O.out,h3]
 replace j:=zc (j.out.below L)
 replace n:=zc (n.out.below L)
 have aD:=zc (ay.out.below L)
 have aE:=zc (ai.out.later L)
 clear L ay ai
 clear Y Z Q X a4 U a6 a7 a8 a9 D E V
 obtain⟨Y,Z,Q,X,a4,U,a6,a7,a8,a9,D,E,V⟩:=j.out.box
 clear O
 go_wp2_with fail
 refine (zaH C A z o (.ok q1) S1 q1 (-1) 0 sDefault _ (zX q1) aE.out).mono ?_
 rintro e w6 ⟨S6,q6,z6,rfl,i6,m6,s6⟩
 replace j:=zc (j.out.stp s6)
 replace n:=zc (n.out.stp s6)
 have aG:=zc (aD.out.step s6)
 clear aD
 have aA:=zc m6
 have aK:=zc i6
 clear i6 m6 s6 aE
 clear Y Z Q X a4 U a6 a7 a8 a9 D E V
 go_wp2_with fail
 refine (zcN C A z o _ S6 q6 z6 _ aK.out aA.out).mono ?_
 rintro e w7 ⟨S7,q7,z7,rfl,i7,m7,s7⟩
 replace j:=zc (j.out.stp s7)
 replace n:=zc (n.out.stp s7)
 have an:=zc (aG.out.step s7)
 clear aG
 have aH:=zc m7
 have aJ:=zc i7
 clear i7 m7 s7 aA
 go_wp2_with fail
 refine (zad C A z o _ S7 q7 z7 0 cSemi _ aJ.out aH.out).mono ?_
 rintro e w8 ⟨S8,q8,z8,rfl,i8,m8,s8⟩
 replace j:=zc (j.out.stp s8)
 replace n:=zc (n.out.stp s8)
 have aF:=zc (an.out.step s8)
 clear an
 have ae:=zc m8
 have az:=zc i8
 clear i8 m8 s8 aH
 have aP:w.heap.size+1<w8.heap.size:=n.out.lt
 unfold pv
 go_upto_region 23 with fail
 refine zL (R:=fun W=>Bx A S8 W (w.heap.size) _∧Bx A S8 W (w.heap.size+1) _∧Bx A S8 W (w8.heap.size) _∧Mem C A z o S8 q8 W∧SB w.heap.size S w S8 W) ⟨(j.out.alloc _),(n.out.alloc _),(Bx.new ae.out _),(ae.out.alloc _),(aF.out.alloc _)⟩ ?_
 clear j n aF ae
 rintro w9 ⟨X0,X1,X2,m9,t9⟩
 have j:=zc X0
 have n:=zc X1
 have J:=zc X2
 have au:=zc m9
 have ak:=zc t9
 clear m9 t9 X0 X1 X2
 obtain⟨c0,c1,c2,c3,c4,c5,c6,c7,c8,c9,aM,aI,cf⟩:=J.out.box
 go_wp2_with fail
 refine (zcL C A z o _ S8 q8 z8 0 1 zbN _ az.out au.out (zbh az.out)).mono ?_
 rintro e aU ⟨aN,aO,aL,rfl,aq,ax,K⟩
 replace j:=zc (j.out.stp K)
 replace n:=zc (n.out.stp K)
 replace J:=zc (J.out.stp K)
 have aa:=zc (ak.out.step K)
 clear ak
 have ac:=zc ax
 have ab:=zc aq
 clear aq ax K au
 clear c0 c1 c2 c3 c4 c5 c6 c7 c8 c9 aM aI cf
 go_wp2_with fail
 refine (zd7 C A z o _ aN aO aL 0 ⟨1,sDefault,zbN,sNone⟩ _ ab.out ac.out (ziM ab.out)).mono ?_
 rintro e aQ ⟨aR,aS,aV,rfl,am,al,I⟩
 replace j:=zc (j.out.stp I)
 replace n:=zc (n.out.stp I)
 replace J:=zc (J.out.stp I)
 have ap:=zc (aa.out.step I)
 clear aa
 have ao:=zc al
 have aB:=zc am
 clear am al I ac
 obtain⟨b0,b1,b2,b3,b4,b5,b6,b7,b8,b9,aT,aW,bf⟩:=n.out.box
 unfold pv
 go_wp2
 refine bodyPost_ret (results_cell_row rfl _ _ (w.heap.size+1) 53 _ (0,0) _ rfl ((n.out.put ..)).heap Tryz.underlying53 rfl (by kernel_rfl)) rfl ?_
 rw[HV.out,←HQ.out]
 exact zY rfl aB.out (ao.out.put n.out ..) (ap.out.put (by omega) ..)
theorem znD (C:Cx) (H A z:Nat) (S:Sv) (q:PS) (w:World) (hm:Mem C H A z S q w) (hw:isT C q.pos 1 zaf=true) (h1:isT C (q.pos+1) 4 zJ=false) (h2:isT C (q.pos+1) 4 zw=false) (h3:isT C (q.pos+1) 1 sDefault=false) (h4:isT C (q.pos+1) 1 zC=true):
  Calls Tryz.prog 71 #[pv C H A S q (-1) 0] w (Out C H A z (zag C q) 0 S w):=by
 have HM:=zc hm
 have I:=hm.few
 clear hm
 have HV:Hid (zag C q=bd (zcj C (adv q)) fun a=>zo C ⟨1,a.2,a.2,sNone⟩ a.1):=by
  show _=_
  rw[zag,zd,if_pos hw,zz]
  rw[zx,h1,h2,h3,h4]
  rfl
 unfold pv
 go_enter Tryz.func71,Tryz.ntmps71
 go_wp2_with fail
 refine (zaH C H A z (.ok q) S q (-1) 0 zaf _ (zX q) ((HM.out.alloc _).alloc _)).mono ?_
 rintro e w1 ⟨S1,q1,z1,rfl,i1,m1,s1⟩
 obtain⟨X0,X1,t1⟩:=HM.out.two2 s1
 have j:=zc X0
 have o:=zc X1
 have ak:=zc m1
 have ao:=zc t1
 have an:=zc i1
 clear X0 X1 i1 m1 t1 s1
 obtain⟨ah,rfl⟩:=zcO an.out hw
 have HQ:=zc ah
 have J:Hid (q1.pos=q.pos+1):=by show q1.pos=q.pos+1;rw[ah];rfl
 clear ah an
 obtain⟨V,X,L,Q,a4,M,Y,a7,Z,a9,D,E,O⟩:=j.out.box
 unfold pv
 go_upto_region 2 with fail
 refine zL (R:=fun W=>Bx H S1 W (w.heap.size) _∧Bx H S1 W (w.heap.size+1) _∧Mem C H A z S1 q1 W∧SB w.heap.size S w S1 W) ⟨(j.out.put ..),(o.out.other (by omega) ..),(ak.out.put j.out ..),(ao.out.put (by omega) ..)⟩ ?_
 clear V X L Q a4 M Y a7 Z a9 D E O
 clear j o ao ak
 rintro w2 ⟨X0,X1,m2,t2⟩
 have j:=zc X0
 have o:=zc X1
 have ac:=zc m2
 have au:=zc t2
 clear m2 t2 X0 X1
 obtain⟨V,X,L,Q,a4,M,Y,a7,Z,a9,D,E,O⟩:=j.out.box
 go_wp2_with fail
 refine (zh C H A z S1 q1 (-1) 0 4 zJ _ ac.out.tok I (by decide)).mono ?_
 rintro e w3 ⟨rfl,aa⟩
 rw[J.out,h1]
 replace j:=zc (j.out.below aa)
 replace o:=zc (o.out.below aa)
 have ap:=zc (au.out.below aa)
 have ae:=zc (ac.out.later aa)
 clear aa au ac
 clear V X L Q a4 M Y a7 Z a9 D E O
 obtain⟨V,X,L,Q,a4,M,Y,a7,Z,a9,D,E,O⟩:=j.out.box
 go_wp2_with fail
 refine (zh C H A z S1 q1 (-1) 0 4 zw _ ae.out.tok I (by decide)).mono ?_
 rintro e w4 ⟨rfl,K⟩
 rw[J.out,h2]
 replace j:=zc (j.out.below K)
 replace o:=zc (o.out.below K)
 have aq:=zc (ap.out.below K)
 have aj:=zc (ae.out.later K)
 clear K ap ae
 clear V X L Q a4 M Y a7 Z a9 D E O
 obtain⟨V,X,L,Q,a4,M,Y,a7,Z,a9,D,E,O⟩:=j.out.box
 go_wp2_with fail
 refine (zh C H A z S1 q1 (-1) 0 1 sDefault _ aj.out.tok I (by decide)).mono ?_
 rintro e w5 ⟨rfl,N⟩
 rw[J.out,h3]
 replace j:=zc (j.out.below N)
 replace o:=zc (o.out.below N)
 have av:=zc (aq.out.below N)
 have ag:=zc (aj.out.later N)
 clear N aq aj
 clear V X L Q a4 M Y a7 Z a9 D E O
 obtain⟨V,X,L,Q,a4,M,Y,a7,Z,a9,D,E,O⟩:=j.out.box
 go_wp2_with fail
 refine (zh C H A z S1 q1 (-1) 0 1 zC _ ag.out.tok I (by decide)).mono ?_
 rintro e w6 ⟨rfl,U⟩
 rw[J.out,h4]
 replace j:=zc (j.out.below U)
 replace o:=zc (o.out.below U)
 have ax:=zc (av.out.below U)
 have ar:=zc (ag.out.later U)
 clear U av ag
 clear V X L Q a4 M Y a7 Z a9 D E O
 obtain⟨V,X,L,Q,a4,M,Y,a7,Z,a9,D,E,O⟩:=j.out.box
 clear J
 go_wp2_with fail
 refine (zgG C H A z S1 q1 _ ar.out).mono ?_
 rintro e w7 ⟨S7,q7,z7,n7,rfl,i7,m7,s7⟩
 replace j:=zc (j.out.stp s7)
 replace o:=zc (o.out.stp s7)
 have al:=zc (ax.out.step s7)
 clear ax
 have ai:=zc m7
 have ab:=zc i7
 clear i7 m7 s7 ar
 clear V X L Q a4 M Y a7 Z a9 D E O
 have aD:w.heap.size+1<w7.heap.size:=o.out.lt
 unfold pv
 go_upto_region 26 with fail
 refine zL (R:=fun W=>Bx H S7 W (w.heap.size) _∧Bx H S7 W (w.heap.size+1) _∧Bx H S7 W (w7.heap.size) _∧Mem C H A z S7 q7 W∧SB w.heap.size S w S7 W) ⟨(j.out.alloc _),(o.out.alloc _),(Bx.new ai.out _),(ai.out.alloc _),(al.out.alloc _)⟩ ?_
 clear j o al ai
 rintro w8 ⟨X0,X1,X2,m8,t8⟩
 have j:=zc X0
 have o:=zc X1
 have ad:=zc X2
 have am:=zc m8
 have aw:=zc t8
 clear m8 t8 X0 X1 X2
 obtain⟨c0,c1,c2,c3,c4,c5,c6,c7,c8,c9,aC,ay,cf⟩:=ad.out.box
 go_wp2_with fail
 refine (zd7 C H A z _ S7 q7 z7 0 ⟨1,n7,n7,sNone⟩ _ ab.out.fst am.out (zn7 ab.out)).mono ?_
 rintro e w9 ⟨S9,q9,z9,rfl,i9,m9,s9⟩
 replace j:=zc (j.out.stp s9)
 replace o:=zc (o.out.stp s9)
 replace ad:=zc (ad.out.stp s9)
 have az:=zc (aw.out.step s9)
 clear aw
 have aA:=zc m9
 have aB:=zc i9
 clear i9 m9 s9 am
 clear c0 c1 c2 c3 c4 c5 c6 c7 c8 c9 aC ay cf
 obtain⟨b0,b1,b2,b3,b4,b5,b6,b7,b8,b9,aE,aF,bf⟩:=o.out.box
 unfold pv
 go_wp2
 refine bodyPost_ret (results_cell_row rfl _ _ (w.heap.size+1) 53 _ (0,0) _ rfl ((o.out.put ..)).heap Tryz.underlying53 rfl (by kernel_rfl)) rfl ?_
 rw[HV.out,←HQ.out,←ab.out.bind (fun q n=>zo C ⟨1,n,n,sNone⟩ q)]
 exact zY rfl aB.out (aA.out.put o.out ..) (az.out.put (by omega) ..)
theorem znE (C:Cx) (H D z:Nat) (S:Sv) (q:PS) (w:World) (hm:Mem C H D z S q w) (hw:isT C q.pos 1 zaf=true) (h1:isT C (q.pos+1) 4 zJ=false) (h2:isT C (q.pos+1) 4 zw=false) (h3:isT C (q.pos+1) 1 sDefault=false) (h4:isT C (q.pos+1) 1 zC=false) (h5:isT C (q.pos+1) 1 zT=true):
  Calls Tryz.prog 71 #[pv C H D S q (-1) 0] w (Out C H D z (zag C q) 0 S w):=by
 have HM:=zc hm
 have I:=hm.few
 clear hm
 have HV:Hid (zag C q=bd (fnP C (adv q)) fun a=>zo C ⟨1,a.2,a.2,sNone⟩ a.1):=by
  show _=_
  rw[zag,zd,if_pos hw,zz]
  rw[zx,h1,h2,h3,h4,h5]
  rfl
 unfold pv
 go_enter Tryz.func71,Tryz.ntmps71
 go_wp2_with fail
 refine (zaH C H D z (.ok q) S q (-1) 0 zaf _ (zX q) ((HM.out.alloc _).alloc _)).mono ?_
 rintro e w1 ⟨S1,q1,z1,rfl,i1,m1,s1⟩
 obtain⟨X0,X1,t1⟩:=HM.out.two2 s1
 have j:=zc X0
 have o:=zc X1
 have aq:=zc m1
 have ay:=zc t1
 have aw:=zc i1
 clear X0 X1 i1 m1 t1 s1
 obtain⟨ao,rfl⟩:=zcO aw.out hw
 have HQ:=zc ao
 have J:Hid (q1.pos=q.pos+1):=by show q1.pos=q.pos+1;rw[ao];rfl
 clear ao aw
 obtain⟨O,Q,K,N,Z,L,U,X,V,Y,A,E,M⟩:=j.out.box
 unfold pv
 go_upto_region 2 with fail
 refine zL (R:=fun W=>Bx H S1 W (w.heap.size) _∧Bx H S1 W (w.heap.size+1) _∧Mem C H D z S1 q1 W∧SB w.heap.size S w S1 W) ⟨(j.out.put ..),(o.out.other (by omega) ..),(aq.out.put j.out ..),(ay.out.put (by omega) ..)⟩ ?_
 clear O Q K N Z L U X V Y A E M
 clear j o ay aq
 rintro w2 ⟨X0,X1,m2,t2⟩
 have j:=zc X0
 have o:=zc X1
 have ah:=zc m2
 have aE:=zc t2
 clear m2 t2 X0 X1
 obtain⟨O,Q,K,N,Z,L,U,X,V,Y,A,E,M⟩:=j.out.box
 go_wp2_with fail
 refine (zh C H D z S1 q1 (-1) 0 4 zJ _ ah.out.tok I (by decide)).mono ?_
 rintro e w3 ⟨rfl,ag⟩
 rw[J.out,h1]
 replace j:=zc (j.out.below ag)
 replace o:=zc (o.out.below ag)
 have az:=zc (aE.out.below ag)
 have am:=zc (ah.out.later ag)
 clear ag aE ah
 clear O Q K N Z L U X V Y A E M
 obtain⟨O,Q,K,N,Z,L,U,X,V,Y,A,E,M⟩:=j.out.box
 go_wp2_with fail
 refine (zh C H D z S1 q1 (-1) 0 4 zw _ am.out.tok I (by decide)).mono ?_
 rintro e w4 ⟨rfl,ab⟩
 rw[J.out,h2]
 replace j:=zc (j.out.below ab)
 replace o:=zc (o.out.below ab)
 have aC:=zc (az.out.below ab)
 have ap:=zc (am.out.later ab)
 clear ab az am
 clear O Q K N Z L U X V Y A E M
 obtain⟨O,Q,K,N,Z,L,U,X,V,Y,A,E,M⟩:=j.out.box
 go_wp2_with fail
 refine (zh C H D z S1 q1 (-1) 0 1 sDefault _ ap.out.tok I (by decide)).mono ?_
 rintro e w5 ⟨rfl,ad⟩
 rw[J.out,h3]
 replace j:=zc (j.out.below ad)
 replace o:=zc (o.out.below ad)
 have aG:=zc (aC.out.below ad)
 have an:=zc (ap.out.later ad)
 clear ad aC ap
 clear O Q K N Z L U X V Y A E M
 obtain⟨O,Q,K,N,Z,L,U,X,V,Y,A,E,M⟩:=j.out.box
 go_wp2_with fail
 refine (zh C H D z S1 q1 (-1) 0 1 zC _ an.out.tok I (by decide)).mono ?_
 rintro e w6 ⟨rfl,ae⟩
 rw[J.out,h4]
 replace j:=zc (j.out.below ae)
 replace o:=zc (o.out.below ae)
 have aI:=zc (aG.out.below ae)
 have al:=zc (an.out.later ae)
 clear ae aG an
 clear O Q K N Z L U X V Y A E M
 obtain⟨O,Q,K,N,Z,L,U,X,V,Y,A,E,M⟩:=j.out.box
 go_wp2_with fail
 refine (zh C H D z S1 q1 (-1) 0 1 zT _ al.out.tok I (by decide)).mono ?_
 rintro e w7 ⟨rfl,aa⟩
 rw[J.out,h5]
 replace j:=zc (j.out.below aa)
 replace o:=zc (o.out.below aa)
 have au:=zc (aI.out.below aa)
 have aJ:=zc (al.out.later aa)
 clear aa aI al
 clear O Q K N Z L U X V Y A E M
 obtain⟨O,Q,K,N,Z,L,U,X,V,Y,A,E,M⟩:=j.out.box
 clear J
 go_wp2_with fail
 refine (zgH C H D z S1 q1 _ aJ.out).mono ?_
 rintro e w8 ⟨S8,q8,z8,n8,rfl,i8,m8,s8⟩
 replace j:=zc (j.out.stp s8)
 replace o:=zc (o.out.stp s8)
 have aH:=zc (au.out.step s8)
 clear au
 have aj:=zc m8
 have ak:=zc i8
 clear i8 m8 s8 aJ
 clear O Q K N Z L U X V Y A E M
 have aM:w.heap.size+1<w8.heap.size:=o.out.lt
 unfold pv
 go_upto_region 29 with fail
 refine zL (R:=fun W=>Bx H S8 W (w.heap.size) _∧Bx H S8 W (w.heap.size+1) _∧Bx H S8 W (w8.heap.size) _∧Mem C H D z S8 q8 W∧SB w.heap.size S w S8 W) ⟨(j.out.alloc _),(o.out.alloc _),(Bx.new aj.out _),(aj.out.alloc _),(aH.out.alloc _)⟩ ?_
 clear j o aH aj
 rintro w9 ⟨X0,X1,X2,m9,t9⟩
 have j:=zc X0
 have o:=zc X1
 have ai:=zc X2
 have ax:=zc m9
 have ar:=zc t9
 clear m9 t9 X0 X1 X2
 obtain⟨c0,c1,c2,c3,c4,c5,c6,c7,c8,c9,aL,aK,cf⟩:=ai.out.box
 go_wp2_with fail
 refine (zd7 C H D z _ S8 q8 z8 0 ⟨1,n8,n8,sNone⟩ _ ak.out.fst ax.out (zn8 ak.out)).mono ?_
 rintro e aO ⟨aR,aS,aQ,rfl,av,aB,ac⟩
 replace j:=zc (j.out.stp ac)
 replace o:=zc (o.out.stp ac)
 replace ai:=zc (ai.out.stp ac)
 have aA:=zc (ar.out.step ac)
 clear ar
 have aF:=zc aB
 have aD:=zc av
 clear av aB ac ax
 clear c0 c1 c2 c3 c4 c5 c6 c7 c8 c9 aL aK cf
 obtain⟨b0,b1,b2,b3,b4,b5,b6,b7,b8,b9,aN,aP,bf⟩:=o.out.box
 unfold pv
 go_wp2
 refine bodyPost_ret (results_cell_row rfl _ _ (w.heap.size+1) 53 _ (0,0) _ rfl ((o.out.put ..)).heap Tryz.underlying53 rfl (by kernel_rfl)) rfl ?_
 rw[HV.out,←HQ.out,←ak.out.bind (fun q n=>zo C ⟨1,n,n,sNone⟩ q)]
 exact zY rfl aD.out (aF.out.put o.out ..) (aA.out.put (by omega) ..)
theorem znF (C:Cx) (J D o:Nat) (S:Sv) (q:PS) (w:World) (hm:Mem C J D o S q w) (hw:isT C q.pos 1 zaf=true) (h1:isT C (q.pos+1) 4 zJ=false) (h2:isT C (q.pos+1) 4 zw=false) (h3:isT C (q.pos+1) 1 sDefault=false) (h4:isT C (q.pos+1) 1 zC=false) (h5:isT C (q.pos+1) 1 zT=false):
  Calls Tryz.prog 71 #[pv C J D S q (-1) 0] w (Out C J D o (zag C q) 0 S w):=by
 have HM:=zc hm
 have E:=hm.few
 clear hm
 have HV:Hid (zag C q= .error (zr C (adv q).pos)):=by
  show _=_
  rw[zag,zd,if_pos hw,zz]
  rw[zx,h1,h2,h3,h4,h5]
  rfl
 unfold pv
 go_enter Tryz.func71,Tryz.ntmps71
 go_wp2_with fail
 refine (zaH C J D o (.ok q) S q (-1) 0 zaf _ (zX q) ((HM.out.alloc _).alloc _)).mono ?_
 rintro e w1 ⟨S1,q1,z1,rfl,i1,m1,s1⟩
 obtain⟨X0,X1,t1⟩:=HM.out.two2 s1
 have j:=zc X0
 have n:=zc X1
 have an:=zc m1
 have aq:=zc t1
 have ap:=zc i1
 clear X0 X1 i1 m1 t1 s1
 obtain⟨ak,rfl⟩:=zcO ap.out hw
 have HQ:=zc ak
 have H:Hid (q1.pos=q.pos+1):=by show q1.pos=q.pos+1;rw[ak];rfl
 clear ak ap
 obtain⟨N,O,I,M,Y,K,Q,V,U,X,z,A,L⟩:=j.out.box
 unfold pv
 go_upto_region 2 with fail
 refine zL (R:=fun W=>Bx J S1 W (w.heap.size) _∧Bx J S1 W (w.heap.size+1) _∧Mem C J D o S1 q1 W∧SB w.heap.size S w S1 W) ⟨(j.out.put ..),(n.out.other (by omega) ..),(an.out.put j.out ..),(aq.out.put (by omega) ..)⟩ ?_
 clear N O I M Y K Q V U X z A L
 clear j n aq an
 rintro w2 ⟨X0,X1,m2,t2⟩
 have j:=zc X0
 have n:=zc X1
 have ag:=zc m2
 have av:=zc t2
 clear m2 t2 X0 X1
 obtain⟨N,O,I,M,Y,K,Q,V,U,X,z,A,L⟩:=j.out.box
 go_wp2_with fail
 refine (zh C J D o S1 q1 (-1) 0 4 zJ _ ag.out.tok E (by decide)).mono ?_
 rintro e w3 ⟨rfl,ae⟩
 rw[H.out,h1]
 replace j:=zc (j.out.below ae)
 replace n:=zc (n.out.below ae)
 have ar:=zc (av.out.below ae)
 have ai:=zc (ag.out.later ae)
 clear ae av ag
 clear N O I M Y K Q V U X z A L
 obtain⟨N,O,I,M,Y,K,Q,V,U,X,z,A,L⟩:=j.out.box
 go_wp2_with fail
 refine (zh C J D o S1 q1 (-1) 0 4 zw _ ai.out.tok E (by decide)).mono ?_
 rintro e w4 ⟨rfl,aa⟩
 rw[H.out,h2]
 replace j:=zc (j.out.below aa)
 replace n:=zc (n.out.below aa)
 have au:=zc (ar.out.below aa)
 have am:=zc (ai.out.later aa)
 clear aa ar ai
 clear N O I M Y K Q V U X z A L
 obtain⟨N,O,I,M,Y,K,Q,V,U,X,z,A,L⟩:=j.out.box
 go_wp2_with fail
 refine (zh C J D o S1 q1 (-1) 0 1 sDefault _ am.out.tok E (by decide)).mono ?_
 rintro e w5 ⟨rfl,ab⟩
 rw[H.out,h3]
 replace j:=zc (j.out.below ab)
 replace n:=zc (n.out.below ab)
 have aw:=zc (au.out.below ab)
 have aj:=zc (am.out.later ab)
 clear ab au am
 clear N O I M Y K Q V U X z A L
 obtain⟨N,O,I,M,Y,K,Q,V,U,X,z,A,L⟩:=j.out.box
 go_wp2_with fail
 refine (zh C J D o S1 q1 (-1) 0 1 zC _ aj.out.tok E (by decide)).mono ?_
 rintro e w6 ⟨rfl,ac⟩
 rw[H.out,h4]
 replace j:=zc (j.out.below ac)
 replace n:=zc (n.out.below ac)
 have ax:=zc (aw.out.below ac)
 have ah:=zc (aj.out.later ac)
 clear ac aw aj
 clear N O I M Y K Q V U X z A L
 obtain⟨N,O,I,M,Y,K,Q,V,U,X,z,A,L⟩:=j.out.box
 go_wp2_with fail
 refine (zh C J D o S1 q1 (-1) 0 1 zT _ ah.out.tok E (by decide)).mono ?_
 rintro e w7 ⟨rfl,Z⟩
 rw[H.out,h5]
 replace j:=zc (j.out.below Z)
 replace n:=zc (n.out.below Z)
 have ao:=zc (ax.out.below Z)
 have al:=zc (ah.out.later Z)
 clear Z ax ah
 clear N O I M Y K Q V U X z A L
 obtain⟨N,O,I,M,Y,K,Q,V,U,X,z,A,L⟩:=j.out.box
 clear H
 go_wp2_with fail
 refine (zda C J D o S1 q1 (-1) 0 _ al.out.tok E).mono ?_
 rintro e w8 ⟨rfl,ad⟩
 replace j:=zc (j.out.below ad)
 replace n:=zc (n.out.below ad)
 have az:=zc (ao.out.below ad)
 have ay:=zc (al.out.later ad)
 clear ad ao al
 clear N O I M Y K Q V U X z A L
 obtain⟨b0,b1,b2,b3,b4,b5,b6,b7,b8,b9,aA,aB,bf⟩:=n.out.box
 unfold pv
 go_wp2
 refine bodyPost_ret (results_cell_row rfl _ _ (w.heap.size+1) 53 _ (0,0) _ rfl ((n.out.put ..)).heap Tryz.underlying53 rfl (by kernel_rfl)) rfl ?_
 rw[HV.out,←HQ.out]
 exact zY rfl (show Is (.error (zr C q1.pos)) q1 _ from rfl) (ay.out.put n.out ..) (az.out.put (by omega) ..)
theorem znG (C:Cx) (I E o:Nat) (S:Sv) (q:PS) (w:World) (hm:Mem C I E o S q w) (hw:isT C q.pos 1 zaf=true) (h1:isT C (q.pos+1) 4 zJ=true):
  Calls Tryz.prog 71 #[pv C I E S q (-1) 0] w (Out C I E o (zag C q) 0 S w):=by
 have HM:=zc hm
 have aH:=hm.few
 clear hm
 have HV:Hid (zag C q=bd (zcw C true (adv q)) fun a=>if !za8 a.2&& !isT C a.1.pos 1 zU then bd (zd C 4 cSemi a.1) fun q=>zP (fun e=>zo C (zA e)) a.2 (.ok q) else bd (zaR C (zaE C (.ok a.1))) fun b=>zP (fun e=>zo C (zai b.2 e)) a.2 (.ok b.1)):=by
  show _=_
  rw[zag,zd,if_pos hw,zz]
  rw[zx,h1]
  rfl
 unfold pv
 go_enter Tryz.func71,Tryz.ntmps71
 go_wp2_with fail
 refine (zaH C I E o (.ok q) S q (-1) 0 zaf _ (zX q) ((HM.out.alloc _).alloc _)).mono ?_
 rintro e w1 ⟨S1,q1,z1,rfl,i1,m1,s1⟩
 obtain⟨X,V,t1⟩:=HM.out.two2 s1
 have n:=zc X
 have z:=zc V
 have aS:=zc m1
 have aZ:=zc t1
 have aX:=zc i1
 clear X V i1 m1 t1 s1
 obtain⟨aQ,rfl⟩:=zcO aX.out hw
 have HQ:=zc aQ
 have aT:Hid (q1.pos=q.pos+1):=by show q1.pos=q.pos+1;rw[aQ];rfl
 clear aQ aX
 obtain⟨a0,a1,a2,a3,a4,a5,a6,a7,a8,a9,L,M,af⟩:=n.out.box
 unfold pv
 go_upto_region 2 with fail
 refine zL (R:=fun W=>Bx I S1 W (w.heap.size) _∧Bx I S1 W (w.heap.size+1) _∧Mem C I E o S1 q1 W∧SB w.heap.size S w S1 W) ⟨(n.out.put ..),(z.out.other (by omega) ..),(aS.out.put n.out ..),(aZ.out.put (by omega) ..)⟩ ?_
 clear a0 a1 a2 a3 a4 a5 a6 a7 a8 a9 L M af
 clear n z aZ aS
 rintro w2 ⟨X,V,m2,t2⟩
 have n:=zc X
 have z:=zc V
 have aN:=zc m2
 have be:=zc t2
 clear m2 t2 X V
 have aO:Hid (zag C q=bd (zcw C true q1) fun a=>if !za8 a.2&& !isT C a.1.pos 1 zU then bd (zd C 4 cSemi a.1) fun q=>zP (fun e=>zo C (zA e)) a.2 (.ok q) else bd (zaR C (zaE C (.ok a.1))) fun b=>zP (fun e=>zo C (zai b.2 e)) a.2 (.ok b.1)):=by show _=_;rw[HQ.out];exact HV.out
 obtain⟨a0,a1,a2,a3,a4,a5,a6,a7,a8,a9,L,M,af⟩:=n.out.box
 go_wp2_with fail
 refine (zh C I E o S1 q1 (-1) 0 4 zJ _ aN.out.tok aH (by decide)).mono ?_
 rintro e w3 ⟨rfl,aI⟩
 rw[aT.out,h1]
 replace n:=zc (n.out.below aI)
 replace z:=zc (z.out.below aI)
 have aP:=zc (be.out.below aI)
 have bi:=zc (aN.out.later aI)
 clear aI be aN
 clear a0 a1 a2 a3 a4 a5 a6 a7 a8 a9 L M af
 obtain⟨a0,a1,a2,a3,a4,a5,a6,a7,a8,a9,L,M,af⟩:=n.out.box
 clear aT
 have bl:=aP.out.size
 go_wp2_with fail
 refine (zi7 C I E o S1 q1 0 true _ bi.out).mono ?_
 rintro e w4 ⟨S4,q4,z4,⟨ra,rc⟩,l,rfl,i4,m4,s4,R0,hl⟩
 obtain⟨g,rfl⟩: ∃g,ra=some ⟨g,0,none⟩:=R0.addr
 replace n:=zc (n.out.stp s4)
 replace z:=zc (z.out.stp s4)
 have bb:=zc (aP.out.step s4)
 clear aP
 have aR:=zc m4
 have aw:=zc i4
 clear i4 m4 s4 bi
 clear a0 a1 a2 a3 a4 a5 a6 a7 a8 a9 L M af
 have D:Hid (Row S4 w4 o w.heap.size ⟨some ⟨g,0,none⟩,rc⟩ l):=⟨R0.own,R0.free,fun k hk=>Nat.le_trans bl (R0.new k hk),R0.addr⟩
 clear R0
 have bm:w.heap.size+1<w4.heap.size:=z.out.lt
 unfold pv
 go_upto_region 4 with fail
 refine zL (R:=fun W=>Bx I S4 W (w.heap.size) _∧Bx I S4 W (w.heap.size+1) _∧Bx I S4 W (w4.heap.size) _∧Row S4 W o w.heap.size ⟨some ⟨g,0,none⟩,rc⟩ l∧Mem C I E o S4 q4 W∧SB w.heap.size S w S4 W) ⟨(n.out.alloc _),(z.out.alloc _),(Bx.new aR.out _),(D.out.alloc _),(aR.out.alloc _),(bb.out.alloc _)⟩ ?_
 clear n z bb aR
 clear D
 rintro w5 ⟨X,V,X2,R0,m5,t5⟩
 have D:=zc R0
 clear R0
 have n:=zc X
 have z:=zc V
 have A:=zc X2
 have az:=zc m5
 have aF:=zc t5
 clear m5 t5 X V X2
 cases hA:za8 l with
 |true=>
  skip
  obtain⟨c0,c1,c2,c3,c4,c5,c6,c7,c8,c9,ak,ah,cf⟩:=A.out.box
  go_wp2_with fail
  refine (zaH C I E o _ S4 q4 z4 0 zU _ aw.out.fst az.out).mono ?_
  rintro e w6 ⟨S6,q6,z6,rfl,i6,m6,s6⟩
  replace n:=zc (n.out.stp s6)
  replace z:=zc (z.out.stp s6)
  replace A:=zc (A.out.stp s6)
  have aC:=zc (aF.out.step s6)
  have K:Hid (Row S6 w6 o w.heap.size ⟨some ⟨g,0,none⟩,rc⟩ l):=D.out.stp s6
  clear D
  have D:=zc K
  clear K
  clear aF
  have ax:=zc m6
  have bk:=zc i6
  clear i6 m6 s6 az
  clear c0 c1 c2 c3 c4 c5 c6 c7 c8 c9 ak ah cf
  go_wp2_with fail
  refine (zdA C I E o _ S6 q6 z6 0 _ bk.out ax.out).mono ?_
  rintro e w7 ⟨S7,q7,z7,n7,rfl,i7,m7,s7⟩
  replace n:=zc (n.out.stp s7)
  replace z:=zc (z.out.stp s7)
  replace A:=zc (A.out.stp s7)
  have aq:=zc (aC.out.step s7)
  have K:Hid (Row S7 w7 o w.heap.size ⟨some ⟨g,0,none⟩,rc⟩ l):=D.out.stp s7
  clear D
  have D:=zc K
  clear K
  clear aC
  have al:=zc m7
  have aD:=zc i7
  clear i7 m7 s7 ax
  have aW:w.heap.size+1<w7.heap.size:=z.out.lt
  have aK:w4.heap.size<w7.heap.size:=A.out.lt
  unfold pv
  go_upto_region 12 with fail
  refine zL (R:=fun W=>Bx I S7 W (w.heap.size) _∧Bx I S7 W (w.heap.size+1) _∧Bx I S7 W (w4.heap.size) _∧Bx I S7 W (w7.heap.size) _∧Row S7 W o w.heap.size ⟨some ⟨g,0,none⟩,rc⟩ l∧Mem C I E o S7 q7 W∧SB w.heap.size S w S7 W) ⟨(n.out.alloc _),(z.out.alloc _),(A.out.alloc _),(Bx.new al.out _),(D.out.alloc _),(al.out.alloc _),(aq.out.alloc _)⟩ ?_
  clear n z A aq al
  clear D
  rintro w8 ⟨X,V,X2,X3,R0,m8,t8⟩
  have D:=zc R0
  clear R0
  have n:=zc X
  have z:=zc V
  have A:=zc X2
  have Z:=zc X3
  have aj:=zc m8
  have aB:=zc t8
  clear m8 t8 X V X2 X3
  obtain⟨d0,d1,d2,d3,d4,d5,d6,d7,d8,d9,ai,am,df⟩:=Z.out.box
  go_wp2_with fail
  refine (zad C I E o _ S7 q7 z7 0 cSemi _ aD.out.fst aj.out).mono ?_
  rintro e w9 ⟨S9,q9,z9,rfl,i9,m9,s9⟩
  replace n:=zc (n.out.stp s9)
  replace z:=zc (z.out.stp s9)
  replace A:=zc (A.out.stp s9)
  replace Z:=zc (Z.out.stp s9)
  have ab:=zc (aB.out.step s9)
  have K:Hid (Row S9 w9 o w.heap.size ⟨some ⟨g,0,none⟩,rc⟩ l):=D.out.stp s9
  clear D
  have D:=zc K
  clear K
  clear aB
  have ac:=zc m9
  have ad:=zc i9
  clear i9 m9 s9 aj
  clear d0 d1 d2 d3 d4 d5 d6 d7 d8 d9 ai am df
  obtain⟨a0,a1,a2,a3,a4,a5,a6,a7,a8,a9,L,M,af⟩:=n.out.box
  unfold pv
  go_upto_region 13 with fail
  refine zL (R:=fun W=>Bx I S9 W (w.heap.size) _∧Bx I S9 W (w.heap.size+1) _∧Bx I S9 W (w4.heap.size) _∧Bx I S9 W (w7.heap.size) _∧Row S9 W o w.heap.size ⟨some ⟨g,0,none⟩,rc⟩ l∧Mem C I E o S9 q9 W∧SB w.heap.size S w S9 W) ⟨(n.out.put ..),(z.out.other (by omega) ..),(A.out.other (by omega) ..),(Z.out.other (by omega) ..),(D.out.put n.out ..),(ac.out.put n.out ..),(ab.out.put (by omega) ..)⟩ ?_
  clear a0 a1 a2 a3 a4 a5 a6 a7 a8 a9 L M af
  clear n z A Z ab ac
  clear D
  rintro ap ⟨X,V,X2,X3,R0,ae,ba⟩
  have D:=zc R0
  clear R0
  have n:=zc X
  have z:=zc V
  have A:=zc X2
  have Z:=zc X3
  have U:=zc ae
  have au:=zc ba
  clear ae ba X V X2 X3
  have aG:Hid (_=zag C q):=(zgI (G:=fun b e=>zo C (zai b e)) aw.out aD.out).trans ((ziO aw.out (.inl hA)).trans aO.out.symm)
  go_wp2
  go_loopg [9] l.length (fun k i wr=>∃(j:Nat) (x':PR) (J:Sv) (Y:PS) (z':Int),j≤l.length∧i= .int .i64 j∧Is x' Y z'∧(z'<0→1≤Y.pos)∧zP (fun e=>zo C (zai n7 e)) (l.drop j) x'=zag C q∧l.length-j=k∧Mem C I E o J Y wr∧SB w.heap.size S w J wr∧Bx I J wr w.heap.size #[.slice (some ⟨I,0,none⟩) C.ts.length E,.int .i64 Y.pos,.int .i64 C.fin,.bool C.scr,.slice J.rq.a Y.rq.length J.rq.cap,.slice J.im.a Y.im.length J.im.cap,.slice J.ep.a Y.ep.length J.ep.cap,.slice J.st.a Y.st.length J.st.cap,.slice J.ex.a Y.ex.length J.ex.cap,.slice J.la.a Y.la.length J.la.cap,.int .i64 z',.int .i64 0]∧Bx I J wr (w.heap.size+1) #[.slice none 0 0,.int .i64 0,.int .i64 0,.bool false,.slice none 0 0,.slice none 0 0,.slice none 0 0,.slice none 0 0,.slice none 0 0,.slice none 0 0,.int .i64 0,.int .i64 0]∧Row J wr o w.heap.size ⟨some ⟨g,0,none⟩,rc⟩ l)
  case atStart=>exact⟨0,_,S9,q9,z9,Nat.zero_le _,rfl,ad.out,zbh ad.out,aG.out,rfl,U.out,au.out,n.out,z.out,D.out⟩
  case round=>
   obtain⟨j,x9,S9,q9,z9,hj,rfl,i9,p9,e9,g9,m9,t9,X,V,R0⟩:=hrel
   clear n z A Z D U au
   have n:=zc X
   have z:=zc V
   have ac:=zc m9
   have ab:=zc t9
   have ad:=zc i9
   have an:=zc p9
   have av:=zc e9
   have ar:=zc g9
   have D:=zc R0
   clear X V i9 m9 t9 e9 g9 R0 p9
   by_cases ao:j<l.length
   ·skip
    obtain⟨c1,c2⟩:=D.out.cells (g:=g) rfl ao
    have bj:=D.out.own.lt (g:=g) rfl
    have HX:Hid (∀e,e=l[j]→zP (fun e=>zo C (zai n7 e)) (l.drop (j+1)) (bd x9 (zo C (zai n7 e)))=zag C q):=fun e he=>by rw[he,←av.out];exact (zf7 (fun e=>zo C (zai n7 e)) l x9 ao).symm
    generalize ay:l[j]=el at c1 c2
    have aJ:Hid (el=l[j]):=ay.symm
    clear ay
    obtain⟨a0,a1,a2,a3,a4,a5,a6,a7,a8,a9,L,M,af⟩:=n.out.box
    go_upto_region 16 with fail
    go_region_law (first|(go_simp;go_wp2_with (go_at_call 134;refine (zd7 C I E o x9 S9 q9 z9 0 (zai n7 el) _ ad.out ac.out.drew an.out).mono ?_;rintro e ap ⟨O,aA,aE,rfl,ag,ae,N⟩;obtain⟨d0,d1,d2,d3,d4,d5,d6,d7,d8,d9,ai,am,df⟩:=(n.out.stp N.undrew).box;unfold pv)))
    all_goals
     clear a0 a1 a2 a3 a4 a5 a6 a7 a8 a9 L M af d0 d1 d2 d3 d4 d5 d6 d7 d8 d9 ai am df
     have Q:=zc ag
     have U:=zc ae
     have H:Hid (Stp S9 wr O ap):=N.undrew
     clear ag ae N
     go_wp2
     go_roundg (gk-1)
     case rel=>exact⟨j+1,_,O,aA,aE,by omega,by go_num,Q.out,zgJ an.out ad.out Q.out,HX.out el aJ.out,by have:=ar.out;omega,U.out.put (n.out.stp H.out) _ _ _ _ _ _ _ _ _ _ _ _,(ab.out.step H.out).put (by omega) _ _ _ _ _ _ _ _ _ _ _ _,(n.out.stp H.out).put _ _ _ _ _ _ _ _ _ _ _ _,(z.out.stp H.out).other (by omega) _ _ _ _ _ _ _ _ _ _ _ _,(D.out.stp H.out).put (n.out.stp H.out) _ _ _ _ _ _ _ _ _ _ _ _⟩
     case measure=>have:=ar.out;omega
   ·skip
    obtain⟨a0,a1,a2,a3,a4,a5,a6,a7,a8,a9,L,M,af⟩:=n.out.box
    obtain⟨b0,b1,b2,b3,b4,b5,b6,b7,b8,b9,aV,aY,bf⟩:=z.out.box
    go_wp2
    refine bodyPost_ret (results_cell_row rfl _ _ (w.heap.size+1) 53 _ (0,0) _ rfl ((z.out.put ..)).heap Tryz.underlying53 rfl (by kernel_rfl)) rfl ?_
    exact zY rfl (show Is (zag C q) q9 z9 from by rw[←av.out,List.drop_eq_nil_of_le (by omega)];exact ad.out) (ac.out.put z.out ..) (ab.out.put (by omega) ..)
 |false=>
  cases hF:(decide (z4<0)&&isT C q4.pos 1 zU) with
  |true=>
   obtain⟨c0,c1,c2,c3,c4,c5,c6,c7,c8,c9,ak,ah,cf⟩:=A.out.box
   go_wp2_with fail
   refine (zh C I E o S4 q4 z4 0 1 zU _ az.out.tok aH (by decide)).mono ?_
   rintro e w6 ⟨rfl,aa⟩
   rw[hF]
   replace n:=zc (n.out.below aa)
   replace z:=zc (z.out.below aa)
   replace A:=zc (A.out.below aa)
   have aC:=zc (aF.out.below aa)
   have ax:=zc (az.out.later aa)
   have K:Hid (Row S4 w6 o w.heap.size ⟨some ⟨g,0,none⟩,rc⟩ l):=D.out.below aa
   clear D
   have D:=zc K
   clear K
   clear aa aF az
   clear c0 c1 c2 c3 c4 c5 c6 c7 c8 c9 ak ah cf
   obtain⟨c0,c1,c2,c3,c4,c5,c6,c7,c8,c9,ak,ah,cf⟩:=A.out.box
   go_wp2_with fail
   refine (zaH C I E o _ S4 q4 z4 0 zU _ aw.out.fst ax.out).mono ?_
   rintro e w7 ⟨S7,q7,z7,rfl,i7,m7,s7⟩
   replace n:=zc (n.out.stp s7)
   replace z:=zc (z.out.stp s7)
   replace A:=zc (A.out.stp s7)
   have aq:=zc (aC.out.step s7)
   have K:Hid (Row S7 w7 o w.heap.size ⟨some ⟨g,0,none⟩,rc⟩ l):=D.out.stp s7
   clear D
   have D:=zc K
   clear K
   clear aC
   have al:=zc m7
   have aD:=zc i7
   clear i7 m7 s7 ax
   clear c0 c1 c2 c3 c4 c5 c6 c7 c8 c9 ak ah cf
   go_wp2_with fail
   refine (zdA C I E o _ S7 q7 z7 0 _ aD.out al.out).mono ?_
   rintro e w8 ⟨S8,q8,z8,n8,rfl,i8,m8,s8⟩
   replace n:=zc (n.out.stp s8)
   replace z:=zc (z.out.stp s8)
   replace A:=zc (A.out.stp s8)
   have aB:=zc (aq.out.step s8)
   have K:Hid (Row S8 w8 o w.heap.size ⟨some ⟨g,0,none⟩,rc⟩ l):=D.out.stp s8
   clear D
   have D:=zc K
   clear K
   clear aq
   have aj:=zc m8
   have bc:=zc i8
   clear i8 m8 s8 al
   have aW:w.heap.size+1<w8.heap.size:=z.out.lt
   have aK:w4.heap.size<w8.heap.size:=A.out.lt
   unfold pv
   go_upto_region 12 with fail
   refine zL (R:=fun W=>Bx I S8 W (w.heap.size) _∧Bx I S8 W (w.heap.size+1) _∧Bx I S8 W (w4.heap.size) _∧Bx I S8 W (w8.heap.size) _∧Row S8 W o w.heap.size ⟨some ⟨g,0,none⟩,rc⟩ l∧Mem C I E o S8 q8 W∧SB w.heap.size S w S8 W) ⟨(n.out.alloc _),(z.out.alloc _),(A.out.alloc _),(Bx.new aj.out _),(D.out.alloc _),(aj.out.alloc _),(aB.out.alloc _)⟩ ?_
   clear n z A aB aj
   clear D
   rintro w9 ⟨X,V,X2,X3,R0,m9,t9⟩
   have D:=zc R0
   clear R0
   have n:=zc X
   have z:=zc V
   have A:=zc X2
   have Z:=zc X3
   have ac:=zc m9
   have ab:=zc t9
   clear m9 t9 X V X2 X3
   obtain⟨d0,d1,d2,d3,d4,d5,d6,d7,d8,d9,ai,am,df⟩:=Z.out.box
   go_wp2_with fail
   refine (zad C I E o _ S8 q8 z8 0 cSemi _ bc.out.fst ac.out).mono ?_
   rintro e ap ⟨O,aA,aE,rfl,ag,ae,N⟩
   replace n:=zc (n.out.stp N)
   replace z:=zc (z.out.stp N)
   replace A:=zc (A.out.stp N)
   replace Z:=zc (Z.out.stp N)
   have au:=zc (ab.out.step N)
   have K:Hid (Row O ap o w.heap.size ⟨some ⟨g,0,none⟩,rc⟩ l):=D.out.stp N
   clear D
   have D:=zc K
   clear K
   clear ab
   have U:=zc ae
   have Q:=zc ag
   clear ag ae N ac
   clear d0 d1 d2 d3 d4 d5 d6 d7 d8 d9 ai am df
   obtain⟨a0,a1,a2,a3,a4,a5,a6,a7,a8,a9,L,M,af⟩:=n.out.box
   unfold pv
   go_upto_region 13 with fail
   refine zL (R:=fun W=>Bx I O W (w.heap.size) _∧Bx I O W (w.heap.size+1) _∧Bx I O W (w4.heap.size) _∧Bx I O W (w8.heap.size) _∧Row O W o w.heap.size ⟨some ⟨g,0,none⟩,rc⟩ l∧Mem C I E o O aA W∧SB w.heap.size S w O W) ⟨(n.out.put ..),(z.out.other (by omega) ..),(A.out.other (by omega) ..),(Z.out.other (by omega) ..),(D.out.put n.out ..),(U.out.put n.out ..),(au.out.put (by omega) ..)⟩ ?_
   clear a0 a1 a2 a3 a4 a5 a6 a7 a8 a9 L M af
   clear n z A Z au U
   clear D
   rintro bn ⟨X,V,X2,X3,R0,aU,bg⟩
   have D:=zc R0
   clear R0
   have n:=zc X
   have z:=zc V
   have A:=zc X2
   have Z:=zc X3
   have aL:=zc aU
   have aM:=zc bg
   clear aU bg X V X2 X3
   have aG:Hid (_=zag C q):=(zgI (G:=fun b e=>zo C (zai b e)) aw.out bc.out).trans ((ziO aw.out (.inr hF)).trans aO.out.symm)
   go_wp2
   go_loopg [9] l.length (fun k i wr=>∃(j:Nat) (x':PR) (J:Sv) (Y:PS) (z':Int),j≤l.length∧i= .int .i64 j∧Is x' Y z'∧(z'<0→1≤Y.pos)∧zP (fun e=>zo C (zai n8 e)) (l.drop j) x'=zag C q∧l.length-j=k∧Mem C I E o J Y wr∧SB w.heap.size S w J wr∧Bx I J wr w.heap.size #[.slice (some ⟨I,0,none⟩) C.ts.length E,.int .i64 Y.pos,.int .i64 C.fin,.bool C.scr,.slice J.rq.a Y.rq.length J.rq.cap,.slice J.im.a Y.im.length J.im.cap,.slice J.ep.a Y.ep.length J.ep.cap,.slice J.st.a Y.st.length J.st.cap,.slice J.ex.a Y.ex.length J.ex.cap,.slice J.la.a Y.la.length J.la.cap,.int .i64 z',.int .i64 0]∧Bx I J wr (w.heap.size+1) #[.slice none 0 0,.int .i64 0,.int .i64 0,.bool false,.slice none 0 0,.slice none 0 0,.slice none 0 0,.slice none 0 0,.slice none 0 0,.slice none 0 0,.int .i64 0,.int .i64 0]∧Row J wr o w.heap.size ⟨some ⟨g,0,none⟩,rc⟩ l)
   case atStart=>exact⟨0,_,O,aA,aE,Nat.zero_le _,rfl,Q.out,zbh Q.out,aG.out,rfl,aL.out,aM.out,n.out,z.out,D.out⟩
   case round=>
    obtain⟨j,x9,S9,q9,z9,hj,rfl,i9,p9,e9,g9,m9,t9,X,V,R0⟩:=hrel
    clear n z A Z D aL aM
    have n:=zc X
    have z:=zc V
    have ac:=zc m9
    have ab:=zc t9
    have ad:=zc i9
    have an:=zc p9
    have av:=zc e9
    have ar:=zc g9
    have D:=zc R0
    clear X V i9 m9 t9 e9 g9 R0 p9
    by_cases ao:j<l.length
    ·skip
     obtain⟨c1,c2⟩:=D.out.cells (g:=g) rfl ao
     have bj:=D.out.own.lt (g:=g) rfl
     have HX:Hid (∀e,e=l[j]→zP (fun e=>zo C (zai n8 e)) (l.drop (j+1)) (bd x9 (zo C (zai n8 e)))=zag C q):=fun e he=>by rw[he,←av.out];exact (zf7 (fun e=>zo C (zai n8 e)) l x9 ao).symm
     generalize ay:l[j]=el at c1 c2
     have aJ:Hid (el=l[j]):=ay.symm
     clear ay
     obtain⟨a0,a1,a2,a3,a4,a5,a6,a7,a8,a9,L,M,af⟩:=n.out.box
     go_upto_region 16 with fail
     go_region_law (first|(go_simp;go_wp2_with (go_at_call 134;refine (zd7 C I E o x9 S9 q9 z9 0 (zai n8 el) _ ad.out ac.out.drew an.out).mono ?_;rintro e ap ⟨O,aA,aE,rfl,ag,ae,N⟩;obtain⟨d0,d1,d2,d3,d4,d5,d6,d7,d8,d9,ai,am,df⟩:=(n.out.stp N.undrew).box;unfold pv)))
     all_goals
      clear a0 a1 a2 a3 a4 a5 a6 a7 a8 a9 L M af d0 d1 d2 d3 d4 d5 d6 d7 d8 d9 ai am df
      have Q:=zc ag
      have U:=zc ae
      have H:Hid (Stp S9 wr O ap):=N.undrew
      clear ag ae N
      go_wp2
      go_roundg (gk-1)
      case rel=>exact⟨j+1,_,O,aA,aE,by omega,by go_num,Q.out,zgJ an.out ad.out Q.out,HX.out el aJ.out,by have:=ar.out;omega,U.out.put (n.out.stp H.out) _ _ _ _ _ _ _ _ _ _ _ _,(ab.out.step H.out).put (by omega) _ _ _ _ _ _ _ _ _ _ _ _,(n.out.stp H.out).put _ _ _ _ _ _ _ _ _ _ _ _,(z.out.stp H.out).other (by omega) _ _ _ _ _ _ _ _ _ _ _ _,(D.out.stp H.out).put (n.out.stp H.out) _ _ _ _ _ _ _ _ _ _ _ _⟩
      case measure=>have:=ar.out;omega
    ·skip
     obtain⟨a0,a1,a2,a3,a4,a5,a6,a7,a8,a9,L,M,af⟩:=n.out.box
     obtain⟨b0,b1,b2,b3,b4,b5,b6,b7,b8,b9,aV,aY,bf⟩:=z.out.box
     go_wp2
     refine bodyPost_ret (results_cell_row rfl _ _ (w.heap.size+1) 53 _ (0,0) _ rfl ((z.out.put ..)).heap Tryz.underlying53 rfl (by kernel_rfl)) rfl ?_
     exact zY rfl (show Is (zag C q) q9 z9 from by rw[←av.out,List.drop_eq_nil_of_le (by omega)];exact ad.out) (ac.out.put z.out ..) (ab.out.put (by omega) ..)
  |false=>
   obtain⟨c0,c1,c2,c3,c4,c5,c6,c7,c8,c9,ak,ah,cf⟩:=A.out.box
   go_wp2_with fail
   refine (zh C I E o S4 q4 z4 0 1 zU _ az.out.tok aH (by decide)).mono ?_
   rintro e w6 ⟨rfl,aa⟩
   rw[hF]
   replace n:=zc (n.out.below aa)
   replace z:=zc (z.out.below aa)
   replace A:=zc (A.out.below aa)
   have aC:=zc (aF.out.below aa)
   have ax:=zc (az.out.later aa)
   have K:Hid (Row S4 w6 o w.heap.size ⟨some ⟨g,0,none⟩,rc⟩ l):=D.out.below aa
   clear D
   have D:=zc K
   clear K
   clear aa aF az
   clear c0 c1 c2 c3 c4 c5 c6 c7 c8 c9 ak ah cf
   obtain⟨c0,c1,c2,c3,c4,c5,c6,c7,c8,c9,ak,ah,cf⟩:=A.out.box
   go_wp2_with fail
   refine (zad C I E o _ S4 q4 z4 0 cSemi _ aw.out.fst ax.out).mono ?_
   rintro e w7 ⟨S7,q7,z7,rfl,i7,m7,s7⟩
   replace n:=zc (n.out.stp s7)
   replace z:=zc (z.out.stp s7)
   replace A:=zc (A.out.stp s7)
   have aq:=zc (aC.out.step s7)
   have K:Hid (Row S7 w7 o w.heap.size ⟨some ⟨g,0,none⟩,rc⟩ l):=D.out.stp s7
   clear D
   have D:=zc K
   clear K
   clear aC
   have al:=zc m7
   have aD:=zc i7
   clear i7 m7 s7 ax
   clear c0 c1 c2 c3 c4 c5 c6 c7 c8 c9 ak ah cf
   obtain⟨a0,a1,a2,a3,a4,a5,a6,a7,a8,a9,L,M,af⟩:=n.out.box
   unfold pv
   go_upto_region 6 with fail
   refine zL (R:=fun W=>Bx I S7 W (w.heap.size) _∧Bx I S7 W (w.heap.size+1) _∧Bx I S7 W (w4.heap.size) _∧Row S7 W o w.heap.size ⟨some ⟨g,0,none⟩,rc⟩ l∧Mem C I E o S7 q7 W∧SB w.heap.size S w S7 W) ⟨(n.out.put ..),(z.out.other (by omega) ..),(A.out.other (by omega) ..),(D.out.put n.out ..),(al.out.put n.out ..),(aq.out.put (by omega) ..)⟩ ?_
   clear a0 a1 a2 a3 a4 a5 a6 a7 a8 a9 L M af
   clear n z A aq al
   clear D
   rintro w8 ⟨X,V,X2,R0,m8,t8⟩
   have D:=zc R0
   clear R0
   have n:=zc X
   have z:=zc V
   have A:=zc X2
   have aj:=zc m8
   have aB:=zc t8
   clear m8 t8 X V X2
   have aG:Hid (_=zag C q):=(znA aw.out hA hF).trans aO.out.symm
   go_wp2
   go_loopg [6] l.length (fun k i wr=>∃(j:Nat) (x':PR) (J:Sv) (Y:PS) (z':Int),j≤l.length∧i= .int .i64 j∧Is x' Y z'∧(z'<0→1≤Y.pos)∧zP (fun e=>zo C (zA e)) (l.drop j) x'=zag C q∧l.length-j=k∧Mem C I E o J Y wr∧SB w.heap.size S w J wr∧Bx I J wr w.heap.size #[.slice (some ⟨I,0,none⟩) C.ts.length E,.int .i64 Y.pos,.int .i64 C.fin,.bool C.scr,.slice J.rq.a Y.rq.length J.rq.cap,.slice J.im.a Y.im.length J.im.cap,.slice J.ep.a Y.ep.length J.ep.cap,.slice J.st.a Y.st.length J.st.cap,.slice J.ex.a Y.ex.length J.ex.cap,.slice J.la.a Y.la.length J.la.cap,.int .i64 z',.int .i64 0]∧Bx I J wr (w.heap.size+1) #[.slice none 0 0,.int .i64 0,.int .i64 0,.bool false,.slice none 0 0,.slice none 0 0,.slice none 0 0,.slice none 0 0,.slice none 0 0,.slice none 0 0,.int .i64 0,.int .i64 0]∧Row J wr o w.heap.size ⟨some ⟨g,0,none⟩,rc⟩ l)
   case atStart=>exact⟨0,_,S7,q7,z7,Nat.zero_le _,rfl,aD.out,zbh aD.out,aG.out,rfl,aj.out,aB.out,n.out,z.out,D.out⟩
   case round=>
    obtain⟨j,x9,S9,q9,z9,hj,rfl,i9,p9,e9,g9,m9,t9,X,V,R0⟩:=hrel
    clear n z A D aj aB
    have n:=zc X
    have z:=zc V
    have ac:=zc m9
    have ab:=zc t9
    have ad:=zc i9
    have an:=zc p9
    have av:=zc e9
    have ar:=zc g9
    have D:=zc R0
    clear X V i9 m9 t9 e9 g9 R0 p9
    by_cases ao:j<l.length
    ·skip
     obtain⟨c1,c2⟩:=D.out.cells (g:=g) rfl ao
     have bj:=D.out.own.lt (g:=g) rfl
     have HX:Hid (∀e,e=l[j]→zP (fun e=>zo C (zA e)) (l.drop (j+1)) (bd x9 (zo C (zA e)))=zag C q):=fun e he=>by rw[he,←av.out];exact (zf7 (fun e=>zo C (zA e)) l x9 ao).symm
     generalize ay:l[j]=el at c1 c2
     have aJ:Hid (el=l[j]):=ay.symm
     clear ay
     obtain⟨a0,a1,a2,a3,a4,a5,a6,a7,a8,a9,L,M,af⟩:=n.out.box
     go_upto_region 9 with fail
     go_region_law (first|(go_simp;go_wp2_with (go_at_call 134;refine (zd7 C I E o x9 S9 q9 z9 0 (zA el) _ ad.out ac.out.drew an.out).mono ?_;rintro e ap ⟨O,aA,aE,rfl,ag,ae,N⟩;obtain⟨d0,d1,d2,d3,d4,d5,d6,d7,d8,d9,ai,am,df⟩:=(n.out.stp N.undrew).box;unfold pv)))
     all_goals
      clear a0 a1 a2 a3 a4 a5 a6 a7 a8 a9 L M af d0 d1 d2 d3 d4 d5 d6 d7 d8 d9 ai am df
      have Q:=zc ag
      have U:=zc ae
      have H:Hid (Stp S9 wr O ap):=N.undrew
      clear ag ae N
      go_wp2
      go_roundg (gk-1)
      case rel=>exact⟨j+1,_,O,aA,aE,by omega,by go_num,Q.out,zgJ an.out ad.out Q.out,HX.out el aJ.out,by have:=ar.out;omega,U.out.put (n.out.stp H.out) _ _ _ _ _ _ _ _ _ _ _ _,(ab.out.step H.out).put (by omega) _ _ _ _ _ _ _ _ _ _ _ _,(n.out.stp H.out).put _ _ _ _ _ _ _ _ _ _ _ _,(z.out.stp H.out).other (by omega) _ _ _ _ _ _ _ _ _ _ _ _,(D.out.stp H.out).put (n.out.stp H.out) _ _ _ _ _ _ _ _ _ _ _ _⟩
      case measure=>have:=ar.out;omega
    ·skip
     obtain⟨a0,a1,a2,a3,a4,a5,a6,a7,a8,a9,L,M,af⟩:=n.out.box
     obtain⟨b0,b1,b2,b3,b4,b5,b6,b7,b8,b9,aV,aY,bf⟩:=z.out.box
     go_wp2
     refine bodyPost_ret (results_cell_row rfl _ _ (w.heap.size+1) 53 _ (0,0) _ rfl ((z.out.put ..)).heap Tryz.underlying53 rfl (by kernel_rfl)) rfl ?_
     exact zY rfl (show Is (zag C q) q9 z9 from by rw[←av.out,List.drop_eq_nil_of_le (by omega)];exact ad.out) (ac.out.put z.out ..) (ab.out.put (by omega) ..)
theorem znH (C:Cx) (o n j:Nat) (S:Sv) (q:PS) (w:World) (z:Mem C o n j S q w) (A:isT C q.pos 1 zah=true):
  Calls Tryz.prog 70 #[pv C o n S q (-1) 0] w (Out C o n j (zaQ C q) 0 S w):=by
 cases D:isT C (q.pos+1) 4 zJ with
 |true=>exact zn5 C o n j S q w z A D
 |false=>
  cases E:isT C (q.pos+1) 4 zw with
  |true=>exact zn2 C o n j S q w z A D E
  |false=>
   cases H:zD C (q.pos+1) false with
   |true=>exact zn3 C o n j S q w z A D E H
   |false=>exact zn4 C o n j S q w z A D E H
theorem znI (C:Cx) (o n j:Nat) (S:Sv) (q:PS) (w:World) (z:Mem C o n j S q w) (A:isT C q.pos 1 zaf=true):
  Calls Tryz.prog 71 #[pv C o n S q (-1) 0] w (Out C o n j (zag C q) 0 S w):=by
 cases D:isT C (q.pos+1) 4 zJ with
 |true=>exact znG C o n j S q w z A D
 |false=>
  cases E:isT C (q.pos+1) 4 zw with
  |true=>exact znB C o n j S q w z A D E
  |false=>
   cases H:isT C (q.pos+1) 1 sDefault with
   |true=>exact znC C o n j S q w z A D E H
   |false=>
    cases I:isT C (q.pos+1) 1 zC with
    |true=>exact znD C o n j S q w z A D E H I
    |false=>
     cases J:isT C (q.pos+1) 1 zT with
     |true=>exact znE C o n j S q w z A D E H I J
     |false=>exact znF C o n j S q w z A D E H I J
theorem ziP {C:Cx} {x:PR} {n:ByteArray}:bd (bd (bd (bd x (zd C 4 cEq)) (pE C .sum 0)) (zd C 4 cSemi)) (zV C 3 n)=bd x fun q=>bd (bd (bd (bd (.ok q) (zd C 4 cEq)) (pE C .sum 0)) (zd C 4 cSemi)) (zV C 3 n):=by cases x<;>rfl
theorem znJ (D:List Tk) (j:Nat) (E A o:Nat) (S:Sv) (q:PS) (w:World) (X:Mem (Cx.mk D j true) E A o S q w) (h0:isT (Cx.mk D j true) q.pos 1 zC=true):
  Calls Tryz.prog 21 #[pv (Cx.mk D j true) E A S q (-1) 0] w (Out (Cx.mk D j true) E A o (zy (Cx.mk D j true) q) 0 S w):=by
 have HM:=zc X
 have H:=X.tok
 have N:(Cx.mk D j true).ts.length≤4000:=X.few
 clear X
 have HV:Hid (zy (Cx.mk D j true) q=zaK (zcj (Cx.mk D j true) q)):=by show zy (Cx.mk D j true) q=_;rw[zy,h0];rfl
 unfold pv
 go_enter Tryz.func21,Tryz.ntmps21
 go_wp2_with fail
 refine (zh (Cx.mk D j true) E A o S q (-1) 0 1 zC _ (zq (zq H _) _) N (by decide)).mono ?_
 rintro e w1 ⟨rfl,Q⟩
 rw[h0]
 obtain⟨L,K,m1,t1⟩:=HM.out.two Q
 have z:=zc L
 have n:=zc K
 have J:=zc m1
 have M:=zc t1
 clear L K m1 t1 Q
 clear H
 obtain⟨a0,a1,a2,a3,a4,a5,a6,a7,a8,a9,ab,ad,af⟩:=z.out.box
 go_wp2_with fail
 refine (zgG (Cx.mk D j true) E A o S q _ J.out).mono ?_
 rintro e w2 ⟨O,q2,z2,n2,rfl,i2,m2,V⟩
 replace z:=zc (z.out.stp V)
 replace n:=zc (n.out.stp V)
 have U:=zc (M.out.step V)
 clear M
 have I:=zc m2
 have Y:=zc i2
 clear i2 m2 V J
 clear a0 a1 a2 a3 a4 a5 a6 a7 a8 a9 ab ad af
 have ae:w.heap.size+1<w2.heap.size:=n.out.lt
 unfold pv
 go_upto_region 7 with fail
 refine zL (R:=fun W=>Bx E O W (w.heap.size) _∧Bx E O W (w.heap.size+1) _∧Bx E O W (w2.heap.size) _∧Mem (Cx.mk D j true) E A o O q2 W∧SB w.heap.size S w O W) ⟨(z.out.alloc _),(n.out.alloc _),(Bx.new I.out _),(I.out.alloc _),(U.out.alloc _)⟩ ?_
 clear z n U I
 rintro w3 ⟨L,K,X2,m3,t3⟩
 have z:=zc L
 have n:=zc K
 have Z:=zc X2
 have ac:=zc m3
 have aa:=zc t3
 clear m3 t3 L K X2
 obtain⟨b0,b1,b2,b3,b4,b5,b6,b7,b8,b9,ah,ai,bf⟩:=n.out.box
 obtain⟨c0,c1,c2,c3,c4,c5,c6,c7,c8,c9,aj,ag,cf⟩:=Z.out.box
 go_wp2
 refine bodyPost_ret (results_cell_row rfl _ _ (w.heap.size+1) 53 _ (0,0) _ rfl ((n.out.put ..)).heap Tryz.underlying53 rfl (by kernel_rfl)) rfl ?_
 rw[HV.out]
 exact zY rfl Y.out.fst (ac.out.put n.out ..) (aa.out.put (by omega) ..)
theorem znK (D:List Tk) (j:Nat) (H A o:Nat) (S:Sv) (q:PS) (w:World) (hm:Mem (Cx.mk D j true) H A o S q w) (h0:isT (Cx.mk D j true) q.pos 1 zC=false) (h1:isT (Cx.mk D j true) q.pos 1 zT=true):
  Calls Tryz.prog 21 #[pv (Cx.mk D j true) H A S q (-1) 0] w (Out (Cx.mk D j true) H A o (zy (Cx.mk D j true) q) 0 S w):=by
 have HM:=zc hm
 have I:=hm.tok
 have J:(Cx.mk D j true).ts.length≤4000:=hm.few
 clear hm
 have HV:Hid (zy (Cx.mk D j true) q=zaK (fnP (Cx.mk D j true) q)):=by show zy (Cx.mk D j true) q=_;rw[zy,h0,h1];rfl
 unfold pv
 go_enter Tryz.func21,Tryz.ntmps21
 go_wp2_with fail
 refine (zh (Cx.mk D j true) H A o S q (-1) 0 1 zC _ (zq (zq I _) _) J (by decide)).mono ?_
 rintro e w1 ⟨rfl,Z⟩
 rw[h0]
 obtain⟨U,Q,m1,t1⟩:=HM.out.two Z
 have z:=zc U
 have n:=zc Q
 have K:=zc m1
 have V:=zc t1
 clear U Q m1 t1 Z
 clear I
 obtain⟨a0,a1,a2,a3,a4,a5,a6,a7,a8,a9,L,N,af⟩:=z.out.box
 go_wp2_with fail
 refine (zh (Cx.mk D j true) H A o S q (-1) 0 1 zT _ K.out.tok J (by decide)).mono ?_
 rintro e w2 ⟨rfl,E⟩
 rw[h1]
 replace z:=zc (z.out.below E)
 replace n:=zc (n.out.below E)
 have aa:=zc (V.out.below E)
 have O:=zc (K.out.later E)
 clear E V K
 clear a0 a1 a2 a3 a4 a5 a6 a7 a8 a9 L N af
 obtain⟨a0,a1,a2,a3,a4,a5,a6,a7,a8,a9,L,N,af⟩:=z.out.box
 go_wp2_with fail
 refine (zgH (Cx.mk D j true) H A o S q _ O.out).mono ?_
 rintro e w3 ⟨Y,q3,z3,n3,rfl,i3,m3,s3⟩
 replace z:=zc (z.out.stp s3)
 replace n:=zc (n.out.stp s3)
 have X:=zc (aa.out.step s3)
 clear aa
 have M:=zc m3
 have ab:=zc i3
 clear i3 m3 s3 O
 clear a0 a1 a2 a3 a4 a5 a6 a7 a8 a9 L N af
 have ag:w.heap.size+1<w3.heap.size:=n.out.lt
 unfold pv
 go_upto_region 10 with fail
 refine zL (R:=fun W=>Bx H Y W (w.heap.size) _∧Bx H Y W (w.heap.size+1) _∧Bx H Y W (w3.heap.size) _∧Mem (Cx.mk D j true) H A o Y q3 W∧SB w.heap.size S w Y W) ⟨(z.out.alloc _),(n.out.alloc _),(Bx.new M.out _),(M.out.alloc _),(X.out.alloc _)⟩ ?_
 clear z n X M
 rintro w4 ⟨U,Q,X2,m4,t4⟩
 have z:=zc U
 have n:=zc Q
 have ac:=zc X2
 have ae:=zc m4
 have ad:=zc t4
 clear m4 t4 U Q X2
 obtain⟨b0,b1,b2,b3,b4,b5,b6,b7,b8,b9,ai,aj,bf⟩:=n.out.box
 obtain⟨c0,c1,c2,c3,c4,c5,c6,c7,c8,c9,ak,ah,cf⟩:=ac.out.box
 go_wp2
 refine bodyPost_ret (results_cell_row rfl _ _ (w.heap.size+1) 53 _ (0,0) _ rfl ((n.out.put ..)).heap Tryz.underlying53 rfl (by kernel_rfl)) rfl ?_
 rw[HV.out]
 exact zY rfl ab.out.fst (ae.out.put n.out ..) (ad.out.put (by omega) ..)
theorem znL (D:List Tk) (j:Nat) (E A z:Nat) (S:Sv) (q:PS) (w:World) (hm:Mem (Cx.mk D j true) E A z S q w) (h0:isT (Cx.mk D j true) q.pos 1 zC=false) (h1:isT (Cx.mk D j true) q.pos 1 zT=false) (h2:isT (Cx.mk D j true) q.pos 1 zar=true):
  Calls Tryz.prog 21 #[pv (Cx.mk D j true) E A S q (-1) 0] w (Out (Cx.mk D j true) E A z (zy (Cx.mk D j true) q) 0 S w):=by
 have HM:=zc hm
 have O:=hm.tok
 have K:(Cx.mk D j true).ts.length≤4000:=hm.few
 clear hm
 have HV:Hid (zy (Cx.mk D j true) q=bd (bd (bd (bd (bd (bd (.ok q) (zd (Cx.mk D j true) 1 zar)) (zd (Cx.mk D j true) 4 zn)) (pE (Cx.mk D j true) .sum 0)) (zd (Cx.mk D j true) 4 za0)) (zd (Cx.mk D j true) 4 cSemi)) (zV (Cx.mk D j true) 4 sNone)):=by show zy (Cx.mk D j true) q=_;rw[zy,h0,h1,h2];rfl
 unfold pv
 go_enter Tryz.func21,Tryz.ntmps21
 go_wp2_with fail
 refine (zh (Cx.mk D j true) E A z S q (-1) 0 1 zC _ (zq (zq O _) _) K (by decide)).mono ?_
 rintro e w1 ⟨rfl,al⟩
 rw[h0]
 obtain⟨X0,X1,m1,t1⟩:=HM.out.two al
 have o:=zc X0
 have n:=zc X1
 have Q:=zc m1
 have ae:=zc t1
 clear X0 X1 m1 t1 al
 clear O
 obtain⟨a0,a1,Z,a3,a4,a5,a6,a7,a8,a9,L,N,af⟩:=o.out.box
 go_wp2_with fail
 refine (zh (Cx.mk D j true) E A z S q (-1) 0 1 zT _ Q.out.tok K (by decide)).mono ?_
 rintro e w2 ⟨rfl,J⟩
 rw[h1]
 replace o:=zc (o.out.below J)
 replace n:=zc (n.out.below J)
 have ao:=zc (ae.out.below J)
 have U:=zc (Q.out.later J)
 clear J ae Q
 clear a0 a1 Z a3 a4 a5 a6 a7 a8 a9 L N af
 obtain⟨a0,a1,Z,a3,a4,a5,a6,a7,a8,a9,L,N,af⟩:=o.out.box
 go_wp2_with fail
 refine (zh (Cx.mk D j true) E A z S q (-1) 0 1 zar _ U.out.tok K (by decide)).mono ?_
 rintro e w3 ⟨rfl,M⟩
 rw[h2]
 replace o:=zc (o.out.below M)
 replace n:=zc (n.out.below M)
 have ag:=zc (ao.out.below M)
 have aq:=zc (U.out.later M)
 clear M ao U
 clear a0 a1 Z a3 a4 a5 a6 a7 a8 a9 L N af
 obtain⟨a0,a1,Z,a3,a4,a5,a6,a7,a8,a9,L,N,af⟩:=o.out.box
 go_wp2_with fail
 refine (zaH (Cx.mk D j true) E A z (.ok q) S q (-1) 0 zar _ (zX q) aq.out).mono ?_
 rintro e w4 ⟨S4,q4,z4,rfl,i4,m4,s4⟩
 replace o:=zc (o.out.stp s4)
 replace n:=zc (n.out.stp s4)
 have ak:=zc (ag.out.step s4)
 clear ag
 have ax:=zc m4
 have aC:=zc i4
 clear i4 m4 s4 aq
 clear a0 a1 Z a3 a4 a5 a6 a7 a8 a9 L N af
 go_wp2_with fail
 refine (zad (Cx.mk D j true) E A z _ S4 q4 z4 0 zn _ aC.out ax.out).mono ?_
 rintro e w5 ⟨S5,q5,z5,rfl,i5,m5,s5⟩
 replace o:=zc (o.out.stp s5)
 replace n:=zc (n.out.stp s5)
 have ar:=zc (ak.out.step s5)
 clear ak
 have au:=zc m5
 have aA:=zc i5
 clear i5 m5 s5 ax
 go_wp2_with fail
 refine (zcN (Cx.mk D j true) E A z _ S5 q5 z5 _ aA.out au.out).mono ?_
 rintro e w6 ⟨S6,q6,z6,rfl,i6,m6,s6⟩
 replace o:=zc (o.out.stp s6)
 replace n:=zc (n.out.stp s6)
 have aw:=zc (ar.out.step s6)
 clear ar
 have an:=zc m6
 have aB:=zc i6
 clear i6 m6 s6 au
 go_wp2_with fail
 refine (zad (Cx.mk D j true) E A z _ S6 q6 z6 0 za0 _ aB.out an.out).mono ?_
 rintro e w7 ⟨X,q7,z7,rfl,i7,m7,s7⟩
 replace o:=zc (o.out.stp s7)
 replace n:=zc (n.out.stp s7)
 have aa:=zc (aw.out.step s7)
 clear aw
 have V:=zc m7
 have az:=zc i7
 clear i7 m7 s7 an
 have aE:w.heap.size+1<w7.heap.size:=n.out.lt
 unfold pv
 go_upto_region 13 with fail
 refine zL (R:=fun W=>Bx E X W (w.heap.size) _∧Bx E X W (w.heap.size+1) _∧Bx E X W (w7.heap.size) _∧Mem (Cx.mk D j true) E A z X q7 W∧SB w.heap.size S w X W) ⟨(o.out.alloc _),(n.out.alloc _),(Bx.new V.out _),(V.out.alloc _),(aa.out.alloc _)⟩ ?_
 clear o n aa V
 rintro w8 ⟨X0,X1,X2,m8,t8⟩
 have o:=zc X0
 have n:=zc X1
 have H:=zc X2
 have ab:=zc m8
 have av:=zc t8
 clear m8 t8 X0 X1 X2
 obtain⟨c0,c1,c2,c3,c4,c5,c6,c7,c8,c9,aD,ay,cf⟩:=H.out.box
 go_wp2_with fail
 refine (zad (Cx.mk D j true) E A z _ X q7 z7 0 cSemi _ az.out ab.out).mono ?_
 rintro e w9 ⟨S9,q9,z9,rfl,i9,m9,s9⟩
 replace o:=zc (o.out.stp s9)
 replace n:=zc (n.out.stp s9)
 replace H:=zc (H.out.stp s9)
 have Y:=zc (av.out.step s9)
 clear av
 have ad:=zc m9
 have ah:=zc i9
 clear i9 m9 s9 ab
 clear c0 c1 c2 c3 c4 c5 c6 c7 c8 c9 aD ay cf
 go_wp2_with fail
 refine (zcL (Cx.mk D j true) E A z _ S9 q9 z9 0 4 sNone _ ah.out ad.out (zbh ah.out)).mono ?_
 rintro e aG ⟨aJ,aK,aI,rfl,ac,aj,I⟩
 replace o:=zc (o.out.stp I)
 replace n:=zc (n.out.stp I)
 replace H:=zc (H.out.stp I)
 have ai:=zc (Y.out.step I)
 clear Y
 have ap:=zc aj
 have am:=zc ac
 clear ac aj I ad
 obtain⟨b0,b1,b2,b3,b4,b5,b6,b7,b8,b9,aF,aH,bf⟩:=n.out.box
 unfold pv
 go_wp2
 refine bodyPost_ret (results_cell_row rfl _ _ (w.heap.size+1) 53 _ (0,0) _ rfl ((n.out.put ..)).heap Tryz.underlying53 rfl (by kernel_rfl)) rfl ?_
 rw[HV.out]
 exact zY rfl am.out (ap.out.put n.out ..) (ai.out.put (by omega) ..)
theorem znM (D:List Tk) (j:Nat) (K A z:Nat) (S:Sv) (q:PS) (w:World) (hm:Mem (Cx.mk D j true) K A z S q w) (h0:isT (Cx.mk D j true) q.pos 1 zC=false) (h1:isT (Cx.mk D j true) q.pos 1 zT=false) (h2:isT (Cx.mk D j true) q.pos 1 zar=false) (h3:isT (Cx.mk D j true) q.pos 1 za3=true):
  Calls Tryz.prog 21 #[pv (Cx.mk D j true) K A S q (-1) 0] w (Out (Cx.mk D j true) K A z (zy (Cx.mk D j true) q) 0 S w):=by
 have HM:=zc hm
 have N:=hm.tok
 have I:(Cx.mk D j true).ts.length≤4000:=hm.few
 clear hm
 have HV:Hid (zy (Cx.mk D j true) q=bd (bd (bd (bd (.ok q) (zd (Cx.mk D j true) 1 za3)) (pE (Cx.mk D j true) .sum 0)) (zd (Cx.mk D j true) 4 cSemi)) (zV (Cx.mk D j true) 5 sNone)):=by show zy (Cx.mk D j true) q=_;rw[zy,h0,h1,h2,h3];rfl
 unfold pv
 go_enter Tryz.func21,Tryz.ntmps21
 go_wp2_with fail
 refine (zh (Cx.mk D j true) K A z S q (-1) 0 1 zC _ (zq (zq N _) _) I (by decide)).mono ?_
 rintro e w1 ⟨rfl,ah⟩
 rw[h0]
 obtain⟨X0,X1,m1,t1⟩:=HM.out.two ah
 have n:=zc X0
 have o:=zc X1
 have O:=zc m1
 have ad:=zc t1
 clear X0 X1 m1 t1 ah
 clear N
 obtain⟨Z,a1,U,Y,a4,V,a6,a7,a8,a9,E,H,X⟩:=n.out.box
 go_wp2_with fail
 refine (zh (Cx.mk D j true) K A z S q (-1) 0 1 zT _ O.out.tok I (by decide)).mono ?_
 rintro e w2 ⟨rfl,L⟩
 rw[h1]
 replace n:=zc (n.out.below L)
 replace o:=zc (o.out.below L)
 have aj:=zc (ad.out.below L)
 have Q:=zc (O.out.later L)
 clear L ad O
 clear Z a1 U Y a4 V a6 a7 a8 a9 E H X
 obtain⟨Z,a1,U,Y,a4,V,a6,a7,a8,a9,E,H,X⟩:=n.out.box
 go_wp2_with fail
 refine (zh (Cx.mk D j true) K A z S q (-1) 0 1 zar _ Q.out.tok I (by decide)).mono ?_
 rintro e w3 ⟨rfl,M⟩
 rw[h2]
 replace n:=zc (n.out.below M)
 replace o:=zc (o.out.below M)
 have ae:=zc (aj.out.below M)
 have aa:=zc (Q.out.later M)
 clear M aj Q
 clear Z a1 U Y a4 V a6 a7 a8 a9 E H X
 obtain⟨Z,a1,U,Y,a4,V,a6,a7,a8,a9,E,H,X⟩:=n.out.box
 go_wp2_with fail
 refine (zh (Cx.mk D j true) K A z S q (-1) 0 1 za3 _ aa.out.tok I (by decide)).mono ?_
 rintro e w4 ⟨rfl,J⟩
 rw[h3]
 replace n:=zc (n.out.below J)
 replace o:=zc (o.out.below J)
 have ag:=zc (ae.out.below J)
 have ao:=zc (aa.out.later J)
 clear J ae aa
 clear Z a1 U Y a4 V a6 a7 a8 a9 E H X
 obtain⟨Z,a1,U,Y,a4,V,a6,a7,a8,a9,E,H,X⟩:=n.out.box
 go_wp2_with fail
 refine (zaH (Cx.mk D j true) K A z (.ok q) S q (-1) 0 za3 _ (zX q) ao.out).mono ?_
 rintro e w5 ⟨S5,q5,z5,rfl,i5,m5,s5⟩
 replace n:=zc (n.out.stp s5)
 replace o:=zc (o.out.stp s5)
 have ak:=zc (ag.out.step s5)
 clear ag
 have al:=zc m5
 have ap:=zc i5
 clear i5 m5 s5 ao
 clear Z a1 U Y a4 V a6 a7 a8 a9 E H X
 go_wp2_with fail
 refine (zcN (Cx.mk D j true) K A z _ S5 q5 z5 _ ap.out al.out).mono ?_
 rintro e w6 ⟨S6,q6,z6,rfl,i6,m6,s6⟩
 replace n:=zc (n.out.stp s6)
 replace o:=zc (o.out.stp s6)
 have am:=zc (ak.out.step s6)
 clear ak
 have ai:=zc m6
 have ar:=zc i6
 clear i6 m6 s6 al
 go_wp2_with fail
 refine (zad (Cx.mk D j true) K A z _ S6 q6 z6 0 cSemi _ ar.out ai.out).mono ?_
 rintro e w7 ⟨S7,q7,z7,rfl,i7,m7,s7⟩
 replace n:=zc (n.out.stp s7)
 replace o:=zc (o.out.stp s7)
 have ac:=zc (am.out.step s7)
 clear am
 have an:=zc m7
 have ab:=zc i7
 clear i7 m7 s7 ai
 go_wp2_with fail
 refine (zcL (Cx.mk D j true) K A z _ S7 q7 z7 0 5 sNone _ ab.out an.out (zbh ab.out)).mono ?_
 rintro e w8 ⟨S8,q8,z8,rfl,i8,m8,s8⟩
 replace n:=zc (n.out.stp s8)
 replace o:=zc (o.out.stp s8)
 have av:=zc (ac.out.step s8)
 clear ac
 have aq:=zc m8
 have au:=zc i8
 clear i8 m8 s8 an
 obtain⟨b0,b1,b2,b3,b4,b5,b6,b7,b8,b9,aw,ax,bf⟩:=o.out.box
 unfold pv
 go_wp2
 refine bodyPost_ret (results_cell_row rfl _ _ (w.heap.size+1) 53 _ (0,0) _ rfl ((o.out.put ..)).heap Tryz.underlying53 rfl (by kernel_rfl)) rfl ?_
 rw[HV.out]
 exact zY rfl au.out (aq.out.put o.out ..) (av.out.put (by omega) ..)
theorem znN (D:List Tk) (j:Nat) (J A z:Nat) (S:Sv) (q:PS) (w:World) (hm:Mem (Cx.mk D j true) J A z S q w) (h0:isT (Cx.mk D j true) q.pos 1 zC=false) (h1:isT (Cx.mk D j true) q.pos 1 zT=false) (h2:isT (Cx.mk D j true) q.pos 1 zar=false) (h3:isT (Cx.mk D j true) q.pos 1 za3=false) (h4:isT (Cx.mk D j true) q.pos 1 zbA=true):
  Calls Tryz.prog 21 #[pv (Cx.mk D j true) J A S q (-1) 0] w (Out (Cx.mk D j true) J A z (zy (Cx.mk D j true) q) 0 S w):=by
 have HM:=zc hm
 have aa:=hm.tok
 have I:(Cx.mk D j true).ts.length≤4000:=hm.few
 clear hm
 have HV:Hid (zy (Cx.mk D j true) q=bd (bd (bd (bd (.ok q) (zd (Cx.mk D j true) 1 zbA)) (pE (Cx.mk D j true) .sum 0)) (zd (Cx.mk D j true) 4 cSemi)) (zV (Cx.mk D j true) 6 sNone)):=by show zy (Cx.mk D j true) q=_;rw[zy,h0,h1,h2,h3,h4];rfl
 unfold pv
 go_enter Tryz.func21,Tryz.ntmps21
 go_wp2_with fail
 refine (zh (Cx.mk D j true) J A z S q (-1) 0 1 zC _ (zq (zq aa _) _) I (by decide)).mono ?_
 rintro e w1 ⟨rfl,al⟩
 rw[h0]
 obtain⟨X0,X1,m1,t1⟩:=HM.out.two al
 have n:=zc X0
 have o:=zc X1
 have ab:=zc m1
 have ai:=zc t1
 clear X0 X1 m1 t1 al
 clear aa
 obtain⟨X,Y,O,V,a4,Q,Z,a7,a8,a9,E,H,U⟩:=n.out.box
 go_wp2_with fail
 refine (zh (Cx.mk D j true) J A z S q (-1) 0 1 zT _ ab.out.tok I (by decide)).mono ?_
 rintro e w2 ⟨rfl,M⟩
 rw[h1]
 replace n:=zc (n.out.below M)
 replace o:=zc (o.out.below M)
 have ao:=zc (ai.out.below M)
 have ac:=zc (ab.out.later M)
 clear M ai ab
 clear X Y O V a4 Q Z a7 a8 a9 E H U
 obtain⟨X,Y,O,V,a4,Q,Z,a7,a8,a9,E,H,U⟩:=n.out.box
 go_wp2_with fail
 refine (zh (Cx.mk D j true) J A z S q (-1) 0 1 zar _ ac.out.tok I (by decide)).mono ?_
 rintro e w3 ⟨rfl,N⟩
 rw[h2]
 replace n:=zc (n.out.below N)
 replace o:=zc (o.out.below N)
 have aj:=zc (ao.out.below N)
 have ad:=zc (ac.out.later N)
 clear N ao ac
 clear X Y O V a4 Q Z a7 a8 a9 E H U
 obtain⟨X,Y,O,V,a4,Q,Z,a7,a8,a9,E,H,U⟩:=n.out.box
 go_wp2_with fail
 refine (zh (Cx.mk D j true) J A z S q (-1) 0 1 za3 _ ad.out.tok I (by decide)).mono ?_
 rintro e w4 ⟨rfl,K⟩
 rw[h3]
 replace n:=zc (n.out.below K)
 replace o:=zc (o.out.below K)
 have ak:=zc (aj.out.below K)
 have ae:=zc (ad.out.later K)
 clear K aj ad
 clear X Y O V a4 Q Z a7 a8 a9 E H U
 obtain⟨X,Y,O,V,a4,Q,Z,a7,a8,a9,E,H,U⟩:=n.out.box
 go_wp2_with fail
 refine (zh (Cx.mk D j true) J A z S q (-1) 0 1 zbA _ ae.out.tok I (by decide)).mono ?_
 rintro e w5 ⟨rfl,L⟩
 rw[h4]
 replace n:=zc (n.out.below L)
 replace o:=zc (o.out.below L)
 have ap:=zc (ak.out.below L)
 have aq:=zc (ae.out.later L)
 clear L ak ae
 clear X Y O V a4 Q Z a7 a8 a9 E H U
 obtain⟨X,Y,O,V,a4,Q,Z,a7,a8,a9,E,H,U⟩:=n.out.box
 go_wp2_with fail
 refine (zaH (Cx.mk D j true) J A z (.ok q) S q (-1) 0 zbA _ (zX q) aq.out).mono ?_
 rintro e w6 ⟨S6,q6,z6,rfl,i6,m6,s6⟩
 replace n:=zc (n.out.stp s6)
 replace o:=zc (o.out.stp s6)
 have au:=zc (ap.out.step s6)
 clear ap
 have an:=zc m6
 have ay:=zc i6
 clear i6 m6 s6 aq
 clear X Y O V a4 Q Z a7 a8 a9 E H U
 go_wp2_with fail
 refine (zcN (Cx.mk D j true) J A z _ S6 q6 z6 _ ay.out an.out).mono ?_
 rintro e w7 ⟨S7,q7,z7,rfl,i7,m7,s7⟩
 replace n:=zc (n.out.stp s7)
 replace o:=zc (o.out.stp s7)
 have ag:=zc (au.out.step s7)
 clear au
 have av:=zc m7
 have ax:=zc i7
 clear i7 m7 s7 an
 go_wp2_with fail
 refine (zad (Cx.mk D j true) J A z _ S7 q7 z7 0 cSemi _ ax.out av.out).mono ?_
 rintro e w8 ⟨S8,q8,z8,rfl,i8,m8,s8⟩
 replace n:=zc (n.out.stp s8)
 replace o:=zc (o.out.stp s8)
 have ar:=zc (ag.out.step s8)
 clear ag
 have ah:=zc m8
 have am:=zc i8
 clear i8 m8 s8 av
 go_wp2_with fail
 refine (zcL (Cx.mk D j true) J A z _ S8 q8 z8 0 6 sNone _ am.out ah.out (zbh am.out)).mono ?_
 rintro e w9 ⟨S9,q9,z9,rfl,i9,m9,s9⟩
 replace n:=zc (n.out.stp s9)
 replace o:=zc (o.out.stp s9)
 have aw:=zc (ar.out.step s9)
 clear ar
 have az:=zc m9
 have aA:=zc i9
 clear i9 m9 s9 ah
 obtain⟨b0,b1,b2,b3,b4,b5,b6,b7,b8,b9,aB,aC,bf⟩:=o.out.box
 unfold pv
 go_wp2
 refine bodyPost_ret (results_cell_row rfl _ _ (w.heap.size+1) 53 _ (0,0) _ rfl ((o.out.put ..)).heap Tryz.underlying53 rfl (by kernel_rfl)) rfl ?_
 rw[HV.out]
 exact zY rfl aA.out (az.out.put o.out ..) (aw.out.put (by omega) ..)
theorem znO (D:List Tk) (j:Nat) (K E A:Nat) (S:Sv) (q:PS) (w:World) (hm:Mem (Cx.mk D j true) K E A S q w) (h0:isT (Cx.mk D j true) q.pos 1 zC=false) (h1:isT (Cx.mk D j true) q.pos 1 zT=false) (h2:isT (Cx.mk D j true) q.pos 1 zar=false) (h3:isT (Cx.mk D j true) q.pos 1 za3=false) (h4:isT (Cx.mk D j true) q.pos 1 zbA=false):
  Calls Tryz.prog 21 #[pv (Cx.mk D j true) K E S q (-1) 0] w (Out (Cx.mk D j true) K E A (zy (Cx.mk D j true) q) 0 S w):=by
 have HM:=zc hm
 have aa:=hm.tok
 have L:(Cx.mk D j true).ts.length≤4000:=hm.few
 clear hm
 have HV:Hid (zy (Cx.mk D j true) q=bd (bd (.ok q) (zj (Cx.mk D j true) false)) fun a=>bd (bd (bd (bd (.ok a.1) (zd (Cx.mk D j true) 4 cEq)) (pE (Cx.mk D j true) .sum 0)) (zd (Cx.mk D j true) 4 cSemi)) (zV (Cx.mk D j true) 3 a.2)):=by show zy (Cx.mk D j true) q=_;rw[zy,h0,h1,h2,h3,h4];rfl
 unfold pv
 go_enter Tryz.func21,Tryz.ntmps21
 go_wp2_with fail
 refine (zh (Cx.mk D j true) K E A S q (-1) 0 1 zC _ (zq (zq aa _) _) L (by decide)).mono ?_
 rintro e w1 ⟨rfl,aA⟩
 rw[h0]
 obtain⟨X0,X1,m1,t1⟩:=HM.out.two aA
 have o:=zc X0
 have z:=zc X1
 have ae:=zc m1
 have aw:=zc t1
 clear X0 X1 m1 t1 aA
 clear aa
 obtain⟨a0,a1,X,a3,a4,Y,a6,a7,a8,a9,I,J,Z⟩:=o.out.box
 go_wp2_with fail
 refine (zh (Cx.mk D j true) K E A S q (-1) 0 1 zT _ ae.out.tok L (by decide)).mono ?_
 rintro e w2 ⟨rfl,U⟩
 rw[h1]
 replace o:=zc (o.out.below U)
 replace z:=zc (z.out.below U)
 have aC:=zc (aw.out.below U)
 have ag:=zc (ae.out.later U)
 clear U aw ae
 clear a0 a1 X a3 a4 Y a6 a7 a8 a9 I J Z
 obtain⟨a0,a1,X,a3,a4,Y,a6,a7,a8,a9,I,J,Z⟩:=o.out.box
 go_wp2_with fail
 refine (zh (Cx.mk D j true) K E A S q (-1) 0 1 zar _ ag.out.tok L (by decide)).mono ?_
 rintro e w3 ⟨rfl,V⟩
 rw[h2]
 replace o:=zc (o.out.below V)
 replace z:=zc (z.out.below V)
 have ax:=zc (aC.out.below V)
 have ai:=zc (ag.out.later V)
 clear V aC ag
 clear a0 a1 X a3 a4 Y a6 a7 a8 a9 I J Z
 obtain⟨a0,a1,X,a3,a4,Y,a6,a7,a8,a9,I,J,Z⟩:=o.out.box
 go_wp2_with fail
 refine (zh (Cx.mk D j true) K E A S q (-1) 0 1 za3 _ ai.out.tok L (by decide)).mono ?_
 rintro e w4 ⟨rfl,M⟩
 rw[h3]
 replace o:=zc (o.out.below M)
 replace z:=zc (z.out.below M)
 have az:=zc (ax.out.below M)
 have aj:=zc (ai.out.later M)
 clear M ax ai
 clear a0 a1 X a3 a4 Y a6 a7 a8 a9 I J Z
 obtain⟨a0,a1,X,a3,a4,Y,a6,a7,a8,a9,I,J,Z⟩:=o.out.box
 go_wp2_with fail
 refine (zh (Cx.mk D j true) K E A S q (-1) 0 1 zbA _ aj.out.tok L (by decide)).mono ?_
 rintro e w5 ⟨rfl,Q⟩
 rw[h4]
 replace o:=zc (o.out.below Q)
 replace z:=zc (z.out.below Q)
 have aD:=zc (az.out.below Q)
 have aE:=zc (aj.out.later Q)
 clear Q az aj
 clear a0 a1 X a3 a4 Y a6 a7 a8 a9 I J Z
 obtain⟨a0,a1,X,a3,a4,Y,a6,a7,a8,a9,I,J,Z⟩:=o.out.box
 go_wp2_with fail
 refine (zbe (Cx.mk D j true) K E A (.ok q) S q (-1) 0 false _ (zX q) aE.out).mono ?_
 rintro e w6 ⟨S6,q6,z6,n6,rfl,i6,m6,s6⟩
 replace o:=zc (o.out.stp s6)
 replace z:=zc (z.out.stp s6)
 have aG:=zc (aD.out.step s6)
 clear aD
 have ah:=zc m6
 have au:=zc i6
 clear i6 m6 s6 aE
 clear a0 a1 X a3 a4 Y a6 a7 a8 a9 I J Z
 have aP:w.heap.size+1<w6.heap.size:=z.out.lt
 unfold pv
 go_upto_region 19 with fail
 refine zL (R:=fun W=>Bx K S6 W (w.heap.size) _∧Bx K S6 W (w.heap.size+1) _∧Bx K S6 W (w6.heap.size) _∧Mem (Cx.mk D j true) K E A S6 q6 W∧SB w.heap.size S w S6 W) ⟨(o.out.alloc _),(z.out.alloc _),(Bx.new ah.out _),(ah.out.alloc _),(aG.out.alloc _)⟩ ?_
 clear o z aG ah
 rintro w7 ⟨X0,X1,X2,m7,t7⟩
 have o:=zc X0
 have z:=zc X1
 have H:=zc X2
 have aH:=zc m7
 have an:=zc t7
 clear m7 t7 X0 X1 X2
 obtain⟨c0,c1,c2,c3,c4,c5,c6,c7,c8,c9,aM,aI,cf⟩:=H.out.box
 go_wp2_with fail
 refine (zad (Cx.mk D j true) K E A _ S6 q6 z6 0 cEq _ au.out.fst aH.out).mono ?_
 rintro e w8 ⟨S8,q8,z8,rfl,i8,m8,s8⟩
 replace o:=zc (o.out.stp s8)
 replace z:=zc (z.out.stp s8)
 replace H:=zc (H.out.stp s8)
 have aF:=zc (an.out.step s8)
 clear an
 have aq:=zc m8
 have aK:=zc i8
 clear i8 m8 s8 aH
 clear c0 c1 c2 c3 c4 c5 c6 c7 c8 c9 aM aI cf
 go_wp2_with fail
 refine (zcN (Cx.mk D j true) K E A _ S8 q8 z8 _ aK.out aq.out).mono ?_
 rintro e w9 ⟨S9,q9,z9,rfl,i9,m9,s9⟩
 replace o:=zc (o.out.stp s9)
 replace z:=zc (z.out.stp s9)
 replace H:=zc (H.out.stp s9)
 have ak:=zc (aF.out.step s9)
 clear aF
 have av:=zc m9
 have aJ:=zc i9
 clear i9 m9 s9 aq
 go_wp2_with fail
 refine (zad (Cx.mk D j true) K E A _ S9 q9 z9 0 cSemi _ aJ.out av.out).mono ?_
 rintro e aU ⟨aN,aO,aL,rfl,ar,ay,O⟩
 replace o:=zc (o.out.stp O)
 replace z:=zc (z.out.stp O)
 replace H:=zc (H.out.stp O)
 have ab:=zc (ak.out.step O)
 clear ak
 have ad:=zc ay
 have ac:=zc ar
 clear ar ay O av
 go_wp2_with fail
 refine (zcL (Cx.mk D j true) K E A _ aN aO aL 0 3 n6 _ ac.out ad.out (zbh ac.out)).mono ?_
 rintro e aQ ⟨aR,aS,aV,rfl,am,al,N⟩
 replace o:=zc (o.out.stp N)
 replace z:=zc (z.out.stp N)
 replace H:=zc (H.out.stp N)
 have ap:=zc (ab.out.step N)
 clear ab
 have ao:=zc al
 have aB:=zc am
 clear am al N ad
 obtain⟨b0,b1,b2,b3,b4,b5,b6,b7,b8,b9,aT,aW,bf⟩:=z.out.box
 unfold pv
 go_wp2
 refine bodyPost_ret (results_cell_row rfl _ _ (w.heap.size+1) 53 _ (0,0) _ rfl ((z.out.put ..)).heap Tryz.underlying53 rfl (by kernel_rfl)) rfl ?_
 rw[HV.out,←au.out.bind (fun q n=>bd (bd (bd (bd (.ok q) (zd (Cx.mk D j true) 4 cEq)) (pE (Cx.mk D j true) .sum 0)) (zd (Cx.mk D j true) 4 cSemi)) (zV (Cx.mk D j true) 3 n)),←ziP]
 exact zY rfl aB.out (ao.out.put z.out ..) (ap.out.put (by omega) ..)
theorem znP (z:List Tk) (j:Nat) (A o n:Nat) (S:Sv) (q:PS) (w:World) (E:Mem (Cx.mk z j true) A o n S q w):
  Calls Tryz.prog 21 #[pv (Cx.mk z j true) A o S q (-1) 0] w (Out (Cx.mk z j true) A o n (zy (Cx.mk z j true) q) 0 S w):=by
 cases D:isT (Cx.mk z j true) q.pos 1 zC with
 |true=>exact znJ z j A o n S q w E D
 |false=>
  cases H:isT (Cx.mk z j true) q.pos 1 zT with
  |true=>exact znK z j A o n S q w E D H
  |false=>
   cases I:isT (Cx.mk z j true) q.pos 1 zar with
   |true=>exact znL z j A o n S q w E D H I
   |false=>
    cases J:isT (Cx.mk z j true) q.pos 1 za3 with
    |true=>exact znM z j A o n S q w E D H I J
    |false=>
     cases K:isT (Cx.mk z j true) q.pos 1 zbA with
     |true=>exact znN z j A o n S q w E D H I J K
     |false=>
      exact znO z j A o n S q w E D H I J K
end Go.Proofs.YticdggnnpjachaaGreat
