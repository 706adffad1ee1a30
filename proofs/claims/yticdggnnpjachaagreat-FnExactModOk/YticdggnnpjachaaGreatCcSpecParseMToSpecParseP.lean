/-
  What spec's l4Import answers: the walks.
  What spec's l4Export answers: the walks.
  What spec's l4Export answers to a list of names: the walks.
  What spec's l4Item answers: the walks.
-/
import Derived.Test.YticdggnnpjachaaGreatCcSpecRowToSpecParseK
namespace Go.Proofs.YticdggnnpjachaaGreat
set_option maxRecDepth 100000
set_option maxHeartbeats 6400000
open Go.RowKit Go.PlainAid
theorem zcF {C:Cx} {k:Int} {s:ByteArray} {q j:PS} {n:Int} (h:Is (bd (.ok q) (zd C k s)) j n) (o:isT C q.pos k s=true):j=adv q∧n= -1:=by
 rw[zx,zd,if_pos o] at h
 exact h
theorem ze7 {α:Type} (f:α→PS→PR) (l:List α) (e:Nat):zR f l (.error e)= .error e:=by
 induction l with
 |nil=>rfl
 |cons a l h=>exact h
theorem zf2 {α:Type} (f:α→PS→PR) (l:List α) (x:PR) {k:Nat} (h:k<l.length):zR f (l.drop k) x=zR f (l.drop (k+1)) (bd x (f (l[k]))):=by
 rw[List.drop_eq_getElem_cons h]
 rfl
theorem zjn {C:Cx} {h:PRN} {A E:PS} {D z:Int} {n o:ByteArray} {G:ByteArray→ByteArray→PS→PR} (w:Is2 h A D n) (j:Is2 (bd (bd (zaG h) (zd C 1 zP)) (zG C)) E z o):
  bd (bd (zaG (bd (bd (zaG h) (zd C 1 zP)) (zG C))) (zd C 4 cSemi)) (G o n)=bd h fun a=>bd (zaQ C (zaA C (.ok a.1))) fun b=>G b.2 a.2 b.1:=by
 cases h with
 |error e=>rfl
 |ok a=>
  obtain⟨_,_,rfl⟩:=w
  have I:bd (bd (zaG (.ok a)) (zd C 1 zP)) (zG C)=zaA C (.ok a.1):=rfl
  rw[I] at j ⊢
  rw[zx]
  cases H:zaA C (.ok a.1) with
  |error e=>rfl
  |ok b=>
   rw[H] at j
   obtain⟨_,_,rfl⟩:=j
   show bd (zd C 4 cSemi b.1) (G b.2 a.2)=bd (bd (zd C 4 cSemi b.1) fun q=>.ok (q,b.2)) fun b=>G b.2 a.2 b.1
   rw[zK]
   rfl
def ze8 (y:PRL):PR:=bd y fun a=>.ok a.1
theorem Is3.fst {y:PRL} {q:PS} {z:Int} {l:List Ep} (h:Is3 y q z l):Is (ze8 y) q z:=by
 cases y with
 |ok a=>exact⟨h.1,h.2.1⟩
 |error e=>exact h
theorem zg3 {C:Cx} {y:PRL} {w D:PS} {z o:Int} {l:List Ep} {j:ByteArray} {G:ByteArray→Ep→PS→PR} (n:Is3 y w z l) (h:Is2 (bd (bd (ze8 y) (zd C 1 zP)) (zG C)) D o j):
  zR (G j) l (bd (zaG (bd (bd (ze8 y) (zd C 1 zP)) (zG C))) (zd C 4 cSemi))=bd y fun a=>bd (zaQ C (zaA C (.ok a.1))) fun b=>zR (G b.2) a.2 (.ok b.1):=by
 cases y with
 |error e=>exact ze7 _ _ _
 |ok a=>
  obtain⟨_,_,rfl⟩:=n
  have H:bd (bd (ze8 (.ok a)) (zd C 1 zP)) (zG C)=zaA C (.ok a.1):=rfl
  rw[H] at h ⊢
  rw[zx]
  cases E:zaA C (.ok a.1) with
  |error e=>exact ze7 _ _ _
  |ok b=>
   rw[E] at h
   obtain⟨_,_,rfl⟩:=h
   show zR (G b.2) a.2 (bd (zaG (.ok b)) (zd C 4 cSemi))=bd (bd (zd C 4 cSemi b.1) fun q=>.ok (q,b.2)) fun b=>zR (G b.2) a.2 (.ok b.1)
   have A:bd (zaG (.ok b)) (zd C 4 cSemi)=zd C 4 cSemi b.1:=rfl
   rw[A,zK]
   cases zd C 4 cSemi b.1 with
   |error e=>exact ze7 _ _ _
   |ok c=>rfl
theorem Mem.drew {C:Cx} {o n j:Nat} {S:Sv} {q:PS} {w:World} (h:Mem C o n j S q w):Mem C o n j S q w.drew:=⟨⟨h.own.rq,h.own.im,h.own.ep,h.own.st,h.own.ex,h.own.la,h.own.apart⟩,h.inv,h.tok,h.few,h.base⟩
theorem Stp.undrew {S n:Sv} {w j:World} (h:Stp S w.drew n j):Stp S w n j:=⟨h.os,h.tape,h.output,h.size,h.block,h.sub⟩
theorem Row.cells {S:Sv} {w:World} {o B g:Nat} {r:Rw} {l:List Ep} (h:Row S w o B r l) (E:r.a=some ⟨g,0,none⟩) {j:Nat} (D:j<l.length):
  w.cell? ⟨g,j*4+1,none⟩=some (.string (l[j]).name)∧w.cell? ⟨g,j*4+2,none⟩=some (.string (l[j]).loc):=by
 have q:=h.own
 unfold OwnR at q
 rw[E] at q
 have n: ∀(l:List Ep) (i c:Nat) (A:c<4) (z:i<l.length),(l.flatMap epL)[i*4+c]? =(epL l[i])[c]?:=by
  intro l
  induction l with
  |nil=>intro i c _ z;simp at z
  |cons x l H=>
   intro i c A z
   match i with
   |0=>
    simp only[List.flatMap_cons,Nat.zero_mul,Nat.zero_add,List.getElem_cons_zero]
    rw[List.getElem?_append_left (by simp[epL];omega)]
   |i+1=>
    simp only[List.flatMap_cons,List.getElem_cons_succ]
    rw[List.getElem?_append_right (by simp[epL];omega)]
    have e:(i+1)*4+c-(epL x).length=i*4+c:=by simp[epL];omega
    rw[e]
    exact H i c A (by simpa using z)
 rw[q.cellAt _ (by omega),q.cellAt _ (by omega)]
 exact⟨n l j 1 (by omega) D,n l j 2 (by omega) D⟩
theorem zpt {C:Cx} {y:Im} {x:PR} {q q':PS} {z z':Int} (o:z<0→1≤q.pos) (n:Is x q z) (h:Is (bd x (zao C y)) q' z'):z'<0→1≤q'.pos:=by
 intro w
 obtain⟨e,_⟩:=za7 h w
 obtain⟨a,A,j⟩:=zi e
 subst A
 obtain⟨rfl,rfl⟩:=n
 unfold zao at j
 split at j
 ·cases j
 ·cases j
  exact o (by decide)
theorem zg4 {C:Cx} {y:Ep} {x:PR} {q q':PS} {z z':Int} (n:z<0→1≤q.pos) (o:Is x q z) (h:Is (bd x (zn C y)) q' z'):z'<0→1≤q'.pos:=by
 intro w
 obtain⟨e,_⟩:=za7 h w
 obtain⟨a,A,j⟩:=zi e
 subst A
 obtain⟨rfl,rfl⟩:=o
 unfold zn at j
 split at j
 ·cases j
 ·split at j
  ·cases j
   exact n (by decide)
  ·cases j
   exact n (by decide)
theorem zpu (C:Cx) (A o n:Nat) (S:Sv) (q:PS) (w:World) (hm:Mem C A o n S q w) (hw:isT C q.pos 1 zae=true) (h1:isT C (q.pos+1) 4 zF=false) (h2:isT C (q.pos+1) 4 zv=true):
  Calls Tryz.prog 70 #[pv C A o S q (-1) 0] w (Out C A o n (zaK C q) 0 S w):=by
 have HM:=zc hm
 have aa:=hm.few
 clear hm
 have HV:Hid (zaK C q=bd (bd (bd (bd (.ok (adv q)) (zd C 4 zv)) (zd C 1 sAs)) (zh C false)) fun a=>bd (zaQ C (zaA C (.ok a.1))) fun b=>zao C ⟨b.2,zv,a.2⟩ b.1):=by
  show _=_
  rw[zaK,zd,if_pos hw,zx]
  rw[zw,h1,h2]
  rfl
 unfold pv
 go_enter Tryz.func70,Tryz.ntmps70
 go_wp2_with fail
 refine (zaC C A o n (.ok q) S q (-1) 0 zae _ (zU q) ((HM.out.alloc _).alloc _)).mono ?_
 rintro e w1 ⟨S1,Z,z1,rfl,i1,m1,s1⟩
 obtain⟨O,K,t1⟩:=HM.out.two2 s1
 have h:=zc O
 have j:=zc K
 have aE:=zc m1
 have aQ:=zc t1
 have az:=zc i1
 clear O K i1 m1 t1 s1
 obtain⟨ak,rfl⟩:=zcF az.out hw
 have HQ:=zc ak
 have al:Hid (Z.pos=q.pos+1):=by show Z.pos=q.pos+1;rw[ak];rfl
 clear ak az
 obtain⟨a0,a1,a2,a3,a4,a5,a6,a7,a8,a9,D,E,af⟩:=h.out.box
 unfold pv
 go_upto_region 2 with fail
 refine zJ (R:=fun W=>Bx A S1 W (w.heap.size) _∧Bx A S1 W (w.heap.size+1) _∧Mem C A o n S1 Z W∧SB w.heap.size S w S1 W) ⟨(h.out.put ..),(j.out.other (by omega) ..),(aE.out.put h.out ..),(aQ.out.put (by omega) ..)⟩ ?_
 clear a0 a1 a2 a3 a4 a5 a6 a7 a8 a9 D E af
 clear h j aQ aE
 rintro w2 ⟨O,K,m2,t2⟩
 have h:=zc O
 have j:=zc K
 have ah:=zc m2
 have aA:=zc t2
 clear m2 t2 O K
 obtain⟨a0,a1,a2,a3,a4,a5,a6,a7,a8,a9,D,E,af⟩:=h.out.box
 go_wp2_with fail
 refine (zg C A o n S1 Z (-1) 0 4 zF _ ah.out.tok aa (by decide)).mono ?_
 rintro e w3 ⟨rfl,L⟩
 rw[al.out,h1]
 replace h:=zc (h.out.below L)
 replace j:=zc (j.out.below L)
 have ay:=zc (aA.out.below L)
 have ai:=zc (ah.out.later L)
 clear L aA ah
 clear a0 a1 a2 a3 a4 a5 a6 a7 a8 a9 D E af
 obtain⟨a0,a1,a2,a3,a4,a5,a6,a7,a8,a9,D,E,af⟩:=h.out.box
 go_wp2_with fail
 refine (zg C A o n S1 Z (-1) 0 4 zv _ ai.out.tok aa (by decide)).mono ?_
 rintro e w4 ⟨rfl,N⟩
 rw[al.out,h2]
 replace h:=zc (h.out.below N)
 replace j:=zc (j.out.below N)
 have aR:=zc (ay.out.below N)
 have aJ:=zc (ai.out.later N)
 clear N ay ai
 clear a0 a1 a2 a3 a4 a5 a6 a7 a8 a9 D E af
 obtain⟨a0,a1,a2,a3,a4,a5,a6,a7,a8,a9,D,E,af⟩:=h.out.box
 clear al
 go_wp2_with fail
 refine (zab C A o n (.ok Z) S1 Z (-1) 0 zv _ (zU Z) aJ.out).mono ?_
 rintro e w5 ⟨S5,q5,z5,rfl,i5,m5,s5⟩
 replace h:=zc (h.out.stp s5)
 replace j:=zc (j.out.stp s5)
 have au:=zc (aR.out.step s5)
 clear aR
 have ax:=zc m5
 have aV:=zc i5
 clear i5 m5 s5 aJ
 clear a0 a1 a2 a3 a4 a5 a6 a7 a8 a9 D E af
 go_wp2_with fail
 refine (zaC C A o n _ S5 q5 z5 0 sAs _ aV.out ax.out).mono ?_
 rintro e w6 ⟨S6,q6,z6,rfl,i6,m6,s6⟩
 replace h:=zc (h.out.stp s6)
 replace j:=zc (j.out.stp s6)
 have av:=zc (au.out.step s6)
 clear au
 have aO:=zc m6
 have aW:=zc i6
 clear i6 m6 s6 ax
 go_wp2_with fail
 refine (zaU C A o n _ S6 q6 z6 0 false _ aW.out aO.out).mono ?_
 rintro e w7 ⟨S7,q7,z7,n7,rfl,i7,m7,s7⟩
 replace h:=zc (h.out.stp s7)
 replace j:=zc (j.out.stp s7)
 have aH:=zc (av.out.step s7)
 clear av
 have am:=zc m7
 have aI:=zc i7
 clear i7 m7 s7 aO
 have bh:w.heap.size+1<w7.heap.size:=j.out.lt
 unfold pv
 go_upto_region 13 with fail
 refine zJ (R:=fun W=>Bx A S7 W (w.heap.size) _∧Bx A S7 W (w.heap.size+1) _∧Bx A S7 W (w7.heap.size) _∧Mem C A o n S7 q7 W∧SB w.heap.size S w S7 W) ⟨(h.out.alloc _),(j.out.alloc _),(Bx.new am.out _),(am.out.alloc _),(aH.out.alloc _)⟩ ?_
 clear h j aH am
 rintro w8 ⟨O,K,X2,m8,t8⟩
 have h:=zc O
 have j:=zc K
 have z:=zc X2
 have aB:=zc m8
 have aD:=zc t8
 clear m8 t8 O K X2
 obtain⟨c0,c1,c2,c3,c4,c5,c6,c7,c8,c9,ba,aT,cf⟩:=z.out.box
 go_wp2_with fail
 refine (zaC C A o n _ S7 q7 z7 0 zP _ aI.out.fst aB.out).mono ?_
 rintro e w9 ⟨S9,q9,z9,rfl,i9,m9,s9⟩
 replace h:=zc (h.out.stp s9)
 replace j:=zc (j.out.stp s9)
 replace z:=zc (z.out.stp s9)
 have aL:=zc (aD.out.step s9)
 clear aD
 have an:=zc m9
 have aZ:=zc i9
 clear i9 m9 s9 aB
 clear c0 c1 c2 c3 c4 c5 c6 c7 c8 c9 ba aT cf
 go_wp2_with fail
 refine (zdy C A o n _ S9 q9 z9 0 _ aZ.out an.out).mono ?_
 rintro e aj ⟨H,ao,bb,be,rfl,aG,aK,M⟩
 replace h:=zc (h.out.stp M)
 replace j:=zc (j.out.stp M)
 replace z:=zc (z.out.stp M)
 have ac:=zc (aL.out.step M)
 clear aL
 have U:=zc aK
 have Y:=zc aG
 clear aG aK M an
 have bi:w.heap.size+1<aj.heap.size:=j.out.lt
 have aS:w7.heap.size<aj.heap.size:=z.out.lt
 unfold pv
 go_upto_region 14 with fail
 refine zJ (R:=fun W=>Bx A H W (w.heap.size) _∧Bx A H W (w.heap.size+1) _∧Bx A H W (w7.heap.size) _∧Bx A H W (aj.heap.size) _∧Mem C A o n H ao W∧SB w.heap.size S w H W) ⟨(h.out.alloc _),(j.out.alloc _),(z.out.alloc _),(Bx.new U.out _),(U.out.alloc _),(ac.out.alloc _)⟩ ?_
 clear h j z ac U
 rintro bk ⟨O,K,X2,X3,aN,aC⟩
 have h:=zc O
 have j:=zc K
 have z:=zc X2
 have V:=zc X3
 have ae:=zc aN
 have X:=zc aC
 clear aN aC O K X2 X3
 obtain⟨d0,d1,d2,d3,d4,d5,d6,d7,d8,d9,aU,aY,df⟩:=V.out.box
 go_wp2_with fail
 refine (zab C A o n _ H ao bb 0 cSemi _ Y.out.fst ae.out).mono ?_
 rintro e bp ⟨bc,aX,bg,rfl,aM,aF,J⟩
 replace h:=zc (h.out.stp J)
 replace j:=zc (j.out.stp J)
 replace z:=zc (z.out.stp J)
 replace V:=zc (V.out.stp J)
 have ad:=zc (X.out.step J)
 clear X
 have ag:=zc aF
 have ab:=zc aM
 clear aM aF J ae
 clear d0 d1 d2 d3 d4 d5 d6 d7 d8 d9 aU aY df
 go_wp2_with fail
 refine (zfR C A o n _ bc aX bg 0 ⟨be,zv,n7⟩ _ ab.out ag.out (zaZ ab.out)).mono ?_
 rintro e bq ⟨bo,bn,bl,rfl,aq,ar,I⟩
 replace h:=zc (h.out.stp I)
 replace j:=zc (j.out.stp I)
 replace z:=zc (z.out.stp I)
 replace V:=zc (V.out.stp I)
 have aP:=zc (ad.out.step I)
 clear ad
 have aw:=zc ar
 have ap:=zc aq
 clear aq ar I ag
 obtain⟨b0,b1,b2,b3,b4,b5,b6,b7,b8,b9,bm,bj,bf⟩:=j.out.box
 unfold pv
 go_wp2
 refine bodyPost_ret (results_cell_row rfl _ _ (w.heap.size+1) 53 _ (0,0) _ rfl ((j.out.put ..)).heap Tryz.underlying53 rfl (by kernel_rfl)) rfl ?_
 rw[HV.out,←HQ.out,←zjn (G:=fun b a=>zao C ⟨b,zv,a⟩) aI.out Y.out]
 exact zW rfl ap.out (aw.out.put j.out ..) (aP.out.put (by omega) ..)
theorem zpv (C:Cx) (A o n:Nat) (S:Sv) (q:PS) (w:World) (hm:Mem C A o n S q w) (hw:isT C q.pos 1 zae=true) (h1:isT C (q.pos+1) 4 zF=false) (h2:isT C (q.pos+1) 4 zv=false) (h3:zB C (q.pos+1) false=true):
  Calls Tryz.prog 70 #[pv C A o S q (-1) 0] w (Out C A o n (zaK C q) 0 S w):=by
 have HM:=zc hm
 have K:=hm.few
 clear hm
 have HV:Hid (zaK C q=bd (bd (.ok (adv q)) (zh C false)) fun a=>bd (zaQ C (zaA C (.ok a.1))) fun b=>zao C ⟨b.2,sDefault,a.2⟩ b.1):=by
  show _=_
  rw[zaK,zd,if_pos hw,zx]
  rw[zw,h1,h2,h3]
  rfl
 unfold pv
 go_enter Tryz.func70,Tryz.ntmps70
 go_wp2_with fail
 refine (zaC C A o n (.ok q) S q (-1) 0 zae _ (zU q) ((HM.out.alloc _).alloc _)).mono ?_
 rintro e w1 ⟨S1,Y,z1,rfl,i1,m1,s1⟩
 obtain⟨O,L,t1⟩:=HM.out.two2 s1
 have h:=zc O
 have j:=zc L
 have aE:=zc m1
 have aM:=zc t1
 have ax:=zc i1
 clear O L i1 m1 t1 s1
 obtain⟨ak,rfl⟩:=zcF ax.out hw
 have HQ:=zc ak
 have aa:Hid (Y.pos=q.pos+1):=by show Y.pos=q.pos+1;rw[ak];rfl
 clear ak ax
 obtain⟨a0,a1,a2,X,V,a5,Z,a7,a8,a9,D,E,af⟩:=h.out.box
 unfold pv
 go_upto_region 2 with fail
 refine zJ (R:=fun W=>Bx A S1 W (w.heap.size) _∧Bx A S1 W (w.heap.size+1) _∧Mem C A o n S1 Y W∧SB w.heap.size S w S1 W) ⟨(h.out.put ..),(j.out.other (by omega) ..),(aE.out.put h.out ..),(aM.out.put (by omega) ..)⟩ ?_
 clear a0 a1 a2 X V a5 Z a7 a8 a9 D E af
 clear h j aM aE
 rintro w2 ⟨O,L,m2,t2⟩
 have h:=zc O
 have j:=zc L
 have ai:=zc m2
 have az:=zc t2
 clear m2 t2 O L
 obtain⟨a0,a1,a2,X,V,a5,Z,a7,a8,a9,D,E,af⟩:=h.out.box
 go_wp2_with fail
 refine (zg C A o n S1 Y (-1) 0 4 zF _ ai.out.tok K (by decide)).mono ?_
 rintro e w3 ⟨rfl,M⟩
 rw[aa.out,h1]
 replace h:=zc (h.out.below M)
 replace j:=zc (j.out.below M)
 have aw:=zc (az.out.below M)
 have aj:=zc (ai.out.later M)
 clear M az ai
 clear a0 a1 a2 X V a5 Z a7 a8 a9 D E af
 obtain⟨a0,a1,a2,X,V,a5,Z,a7,a8,a9,D,E,af⟩:=h.out.box
 go_wp2_with fail
 refine (zg C A o n S1 Y (-1) 0 4 zv _ aj.out.tok K (by decide)).mono ?_
 rintro e w4 ⟨rfl,N⟩
 rw[aa.out,h2]
 replace h:=zc (h.out.below N)
 replace j:=zc (j.out.below N)
 have aN:=zc (aw.out.below N)
 have al:=zc (aj.out.later N)
 clear N aw aj
 clear a0 a1 a2 X V a5 Z a7 a8 a9 D E af
 obtain⟨a0,a1,a2,X,V,a5,Z,a7,a8,a9,D,E,af⟩:=h.out.box
 go_wp2_with fail
 refine (zeV C A o n S1 Y (-1) 0 false _ al.out.tok K).mono ?_
 rintro e w5 ⟨rfl,J⟩
 rw[aa.out,h3]
 replace h:=zc (h.out.below J)
 replace j:=zc (j.out.below J)
 have ar:=zc (aN.out.below J)
 have av:=zc (al.out.later J)
 clear J aN al
 clear a0 a1 a2 X V a5 Z a7 a8 a9 D E af
 obtain⟨a0,a1,a2,X,V,a5,Z,a7,a8,a9,D,E,af⟩:=h.out.box
 clear aa
 go_wp2_with fail
 refine (zaU C A o n (.ok Y) S1 Y (-1) 0 false _ (zU Y) av.out).mono ?_
 rintro e w6 ⟨S6,q6,z6,n6,rfl,i6,m6,s6⟩
 replace h:=zc (h.out.stp s6)
 replace j:=zc (j.out.stp s6)
 have au:=zc (ar.out.step s6)
 clear ar
 have am:=zc m6
 have aq:=zc i6
 clear i6 m6 s6 av
 clear a0 a1 a2 X V a5 Z a7 a8 a9 D E af
 have aX:w.heap.size+1<w6.heap.size:=j.out.lt
 unfold pv
 go_upto_region 17 with fail
 refine zJ (R:=fun W=>Bx A S6 W (w.heap.size) _∧Bx A S6 W (w.heap.size+1) _∧Bx A S6 W (w6.heap.size) _∧Mem C A o n S6 q6 W∧SB w.heap.size S w S6 W) ⟨(h.out.alloc _),(j.out.alloc _),(Bx.new am.out _),(am.out.alloc _),(au.out.alloc _)⟩ ?_
 clear h j au am
 rintro w7 ⟨O,L,X2,m7,t7⟩
 have h:=zc O
 have j:=zc L
 have z:=zc X2
 have aD:=zc m7
 have aG:=zc t7
 clear m7 t7 O L X2
 obtain⟨c0,c1,c2,c3,c4,c5,c6,c7,c8,c9,aV,aP,cf⟩:=z.out.box
 go_wp2_with fail
 refine (zaC C A o n _ S6 q6 z6 0 zP _ aq.out.fst aD.out).mono ?_
 rintro e w8 ⟨S8,q8,z8,rfl,i8,m8,s8⟩
 replace h:=zc (h.out.stp s8)
 replace j:=zc (j.out.stp s8)
 replace z:=zc (z.out.stp s8)
 have aC:=zc (aG.out.step s8)
 clear aG
 have aA:=zc m8
 have aU:=zc i8
 clear i8 m8 s8 aD
 clear c0 c1 c2 c3 c4 c5 c6 c7 c8 c9 aV aP cf
 go_wp2_with fail
 refine (zdy C A o n _ S8 q8 z8 0 _ aU.out aA.out).mono ?_
 rintro e w9 ⟨S9,q9,z9,n9,rfl,i9,m9,s9⟩
 replace h:=zc (h.out.stp s9)
 replace j:=zc (j.out.stp s9)
 replace z:=zc (z.out.stp s9)
 have aJ:=zc (aC.out.step s9)
 clear aC
 have ah:=zc m9
 have aB:=zc i9
 clear i9 m9 s9 aA
 have aY:w.heap.size+1<w9.heap.size:=j.out.lt
 have aO:w6.heap.size<w9.heap.size:=z.out.lt
 unfold pv
 go_upto_region 18 with fail
 refine zJ (R:=fun W=>Bx A S9 W (w.heap.size) _∧Bx A S9 W (w.heap.size+1) _∧Bx A S9 W (w6.heap.size) _∧Bx A S9 W (w9.heap.size) _∧Mem C A o n S9 q9 W∧SB w.heap.size S w S9 W) ⟨(h.out.alloc _),(j.out.alloc _),(z.out.alloc _),(Bx.new ah.out _),(ah.out.alloc _),(aJ.out.alloc _)⟩ ?_
 clear h j z aJ ah
 rintro bb ⟨O,L,X2,X3,aH,an⟩
 have h:=zc O
 have j:=zc L
 have z:=zc X2
 have U:=zc X3
 have ag:=zc aH
 have ad:=zc an
 clear aH an O L X2 X3
 obtain⟨d0,d1,d2,d3,d4,d5,d6,d7,d8,d9,aQ,aT,df⟩:=U.out.box
 go_wp2_with fail
 refine (zab C A o n _ S9 q9 z9 0 cSemi _ aB.out.fst ag.out).mono ?_
 rintro e ba ⟨aW,aS,aR,rfl,ap,aL,H⟩
 replace h:=zc (h.out.stp H)
 replace j:=zc (j.out.stp H)
 replace z:=zc (z.out.stp H)
 replace U:=zc (U.out.stp H)
 have ac:=zc (ad.out.step H)
 clear ad
 have ae:=zc aL
 have ab:=zc ap
 clear ap aL H ag
 clear d0 d1 d2 d3 d4 d5 d6 d7 d8 d9 aQ aT df
 go_wp2_with fail
 refine (zfR C A o n _ aW aS aR 0 ⟨n9,sDefault,n6⟩ _ ab.out ae.out (zaZ ab.out)).mono ?_
 rintro e bg ⟨bh,bc,bi,rfl,aK,aF,I⟩
 replace h:=zc (h.out.stp I)
 replace j:=zc (j.out.stp I)
 replace z:=zc (z.out.stp I)
 replace U:=zc (U.out.stp I)
 have ay:=zc (ac.out.step I)
 clear ac
 have aI:=zc aF
 have ao:=zc aK
 clear aK aF I ae
 obtain⟨b0,b1,b2,b3,b4,b5,b6,b7,b8,b9,be,aZ,bf⟩:=j.out.box
 unfold pv
 go_wp2
 refine bodyPost_ret (results_cell_row rfl _ _ (w.heap.size+1) 53 _ (0,0) _ rfl ((j.out.put ..)).heap Tryz.underlying53 rfl (by kernel_rfl)) rfl ?_
 rw[HV.out,←HQ.out,←zjn (G:=fun b a=>zao C ⟨b,sDefault,a⟩) aq.out aB.out]
 exact zW rfl ao.out (aI.out.put j.out ..) (ay.out.put (by omega) ..)
theorem zpw (C:Cx) (D o n:Nat) (S:Sv) (q:PS) (w:World) (hm:Mem C D o n S q w) (hw:isT C q.pos 1 zae=true) (h1:isT C (q.pos+1) 4 zF=false) (h2:isT C (q.pos+1) 4 zv=false) (h3:zB C (q.pos+1) false=false):
  Calls Tryz.prog 70 #[pv C D o S q (-1) 0] w (Out C D o n (zaK C q) 0 S w):=by
 have HM:=zc hm
 have H:=hm.few
 clear hm
 have HV:Hid (zaK C q=bd (bd (.ok (adv q)) (zG C)) fun a=>zd C 4 cSemi a.1):=by
  show _=_
  rw[zaK,zd,if_pos hw,zx]
  rw[zw,h1,h2,h3]
  rfl
 unfold pv
 go_enter Tryz.func70,Tryz.ntmps70
 go_wp2_with fail
 refine (zaC C D o n (.ok q) S q (-1) 0 zae _ (zU q) ((HM.out.alloc _).alloc _)).mono ?_
 rintro e w1 ⟨S1,M,z1,rfl,i1,m1,s1⟩
 obtain⟨X0,X1,t1⟩:=HM.out.two2 s1
 have h:=zc X0
 have j:=zc X1
 have aq:=zc m1
 have au:=zc t1
 have am:=zc i1
 clear X0 X1 i1 m1 t1 s1
 obtain⟨ac,rfl⟩:=zcF am.out hw
 have HQ:=zc ac
 have U:Hid (M.pos=q.pos+1):=by show M.pos=q.pos+1;rw[ac];rfl
 clear ac am
 obtain⟨O,a1,V,L,K,X,N,Y,a8,Z,z,A,af⟩:=h.out.box
 unfold pv
 go_upto_region 2 with fail
 refine zJ (R:=fun W=>Bx D S1 W (w.heap.size) _∧Bx D S1 W (w.heap.size+1) _∧Mem C D o n S1 M W∧SB w.heap.size S w S1 W) ⟨(h.out.put ..),(j.out.other (by omega) ..),(aq.out.put h.out ..),(au.out.put (by omega) ..)⟩ ?_
 clear O a1 V L K X N Y a8 Z z A af
 clear h j au aq
 rintro w2 ⟨X0,X1,m2,t2⟩
 have h:=zc X0
 have j:=zc X1
 have aa:=zc m2
 have ao:=zc t2
 clear m2 t2 X0 X1
 obtain⟨O,a1,V,L,K,X,N,Y,a8,Z,z,A,af⟩:=h.out.box
 go_wp2_with fail
 refine (zg C D o n S1 M (-1) 0 4 zF _ aa.out.tok H (by decide)).mono ?_
 rintro e w3 ⟨rfl,I⟩
 rw[U.out,h1]
 replace h:=zc (h.out.below I)
 replace j:=zc (j.out.below I)
 have al:=zc (ao.out.below I)
 have ab:=zc (aa.out.later I)
 clear I ao aa
 clear O a1 V L K X N Y a8 Z z A af
 obtain⟨O,a1,V,L,K,X,N,Y,a8,Z,z,A,af⟩:=h.out.box
 go_wp2_with fail
 refine (zg C D o n S1 M (-1) 0 4 zv _ ab.out.tok H (by decide)).mono ?_
 rintro e w4 ⟨rfl,J⟩
 rw[U.out,h2]
 replace h:=zc (h.out.below J)
 replace j:=zc (j.out.below J)
 have an:=zc (al.out.below J)
 have ae:=zc (ab.out.later J)
 clear J al ab
 clear O a1 V L K X N Y a8 Z z A af
 obtain⟨O,a1,V,L,K,X,N,Y,a8,Z,z,A,af⟩:=h.out.box
 go_wp2_with fail
 refine (zeV C D o n S1 M (-1) 0 false _ ae.out.tok H).mono ?_
 rintro e w5 ⟨rfl,E⟩
 rw[U.out,h3]
 replace h:=zc (h.out.below E)
 replace j:=zc (j.out.below E)
 have ai:=zc (an.out.below E)
 have ak:=zc (ae.out.later E)
 clear E an ae
 clear O a1 V L K X N Y a8 Z z A af
 obtain⟨O,a1,V,L,K,X,N,Y,a8,Z,z,A,af⟩:=h.out.box
 clear U
 go_wp2_with fail
 refine (zdy C D o n (.ok M) S1 M (-1) 0 _ (zU M) ak.out).mono ?_
 rintro e w6 ⟨S6,q6,z6,n6,rfl,i6,m6,s6⟩
 replace h:=zc (h.out.stp s6)
 replace j:=zc (j.out.stp s6)
 have aj:=zc (ai.out.step s6)
 clear ai
 have ag:=zc m6
 have ah:=zc i6
 clear i6 m6 s6 ak
 clear O a1 V L K X N Y a8 Z z A af
 have aA:w.heap.size+1<w6.heap.size:=j.out.lt
 unfold pv
 go_upto_region 20 with fail
 refine zJ (R:=fun W=>Bx D S6 W (w.heap.size) _∧Bx D S6 W (w.heap.size+1) _∧Bx D S6 W (w6.heap.size) _∧Mem C D o n S6 q6 W∧SB w.heap.size S w S6 W) ⟨(h.out.alloc _),(j.out.alloc _),(Bx.new ag.out _),(ag.out.alloc _),(aj.out.alloc _)⟩ ?_
 clear h j aj ag
 rintro w7 ⟨X0,X1,X2,m7,t7⟩
 have h:=zc X0
 have j:=zc X1
 have ad:=zc X2
 have ap:=zc m7
 have ar:=zc t7
 clear m7 t7 X0 X1 X2
 obtain⟨c0,c1,c2,c3,c4,c5,c6,c7,c8,c9,az,av,cf⟩:=ad.out.box
 go_wp2_with fail
 refine (zab C D o n _ S6 q6 z6 0 cSemi _ ah.out.fst ap.out).mono ?_
 rintro e w8 ⟨S8,q8,z8,rfl,i8,m8,s8⟩
 replace h:=zc (h.out.stp s8)
 replace j:=zc (j.out.stp s8)
 replace ad:=zc (ad.out.stp s8)
 have ax:=zc (ar.out.step s8)
 clear ar
 have aw:=zc m8
 have ay:=zc i8
 clear i8 m8 s8 ap
 clear c0 c1 c2 c3 c4 c5 c6 c7 c8 c9 az av cf
 obtain⟨b0,b1,b2,b3,b4,b5,b6,b7,b8,b9,aC,aB,bf⟩:=j.out.box
 unfold pv
 go_wp2
 refine bodyPost_ret (results_cell_row rfl _ _ (w.heap.size+1) 53 _ (0,0) _ rfl ((j.out.put ..)).heap Tryz.underlying53 rfl (by kernel_rfl)) rfl ?_
 rw[HV.out,←HQ.out,←ah.out.bind (fun q _=>zd C 4 cSemi q)]
 exact zW rfl ay.out (aw.out.put j.out ..) (ax.out.put (by omega) ..)
theorem zpx (C:Cx) (D z n:Nat) (S:Sv) (q:PS) (w:World) (hm:Mem C D z n S q w) (hw:isT C q.pos 1 zae=true) (h1:isT C (q.pos+1) 4 zF=true):
  Calls Tryz.prog 70 #[pv C D z S q (-1) 0] w (Out C D z n (zaK C q) 0 S w):=by
 have HM:=zc hm
 have aq:=hm.few
 clear hm
 have HV:Hid (zaK C q=bd (zcz C false (adv q)) fun a=>bd (zaQ C (zaA C (.ok a.1))) fun b=>zR (fun e=>zao C (zb8 b.2 e)) a.2 (.ok b.1)):=by
  show _=_
  rw[zaK,zd,if_pos hw,zx]
  rw[zw,h1]
  rfl
 unfold pv
 go_enter Tryz.func70,Tryz.ntmps70
 go_wp2_with fail
 refine (zaC C D z n (.ok q) S q (-1) 0 zae _ (zU q) ((HM.out.alloc _).alloc _)).mono ?_
 rintro e w1 ⟨S1,q1,z1,rfl,i1,m1,s1⟩
 obtain⟨N,K,t1⟩:=HM.out.two2 s1
 have h:=zc N
 have o:=zc K
 have aJ:=zc m1
 have aO:=zc t1
 have aC:=zc i1
 clear N K i1 m1 t1 s1
 obtain⟨ah,rfl⟩:=zcF aC.out hw
 have HQ:=zc ah
 have av:Hid (q1.pos=q.pos+1):=by show q1.pos=q.pos+1;rw[ah];rfl
 clear ah aC
 obtain⟨a0,a1,a2,a3,a4,a5,a6,a7,a8,a9,H,I,af⟩:=h.out.box
 unfold pv
 go_upto_region 2 with fail
 refine zJ (R:=fun W=>Bx D S1 W (w.heap.size) _∧Bx D S1 W (w.heap.size+1) _∧Mem C D z n S1 q1 W∧SB w.heap.size S w S1 W) ⟨(h.out.put ..),(o.out.other (by omega) ..),(aJ.out.put h.out ..),(aO.out.put (by omega) ..)⟩ ?_
 clear a0 a1 a2 a3 a4 a5 a6 a7 a8 a9 H I af
 clear h o aO aJ
 rintro w2 ⟨N,K,m2,t2⟩
 have h:=zc N
 have o:=zc K
 have ae:=zc m2
 have aG:=zc t2
 clear m2 t2 N K
 obtain⟨a0,a1,a2,a3,a4,a5,a6,a7,a8,a9,H,I,af⟩:=h.out.box
 go_wp2_with fail
 refine (zg C D z n S1 q1 (-1) 0 4 zF _ ae.out.tok aq (by decide)).mono ?_
 rintro e w3 ⟨rfl,Z⟩
 rw[av.out,h1]
 replace h:=zc (h.out.below Z)
 replace o:=zc (o.out.below Z)
 have ak:=zc (aG.out.below Z)
 have ao:=zc (ae.out.later Z)
 clear Z aG ae
 clear a0 a1 a2 a3 a4 a5 a6 a7 a8 a9 H I af
 obtain⟨a0,a1,a2,a3,a4,a5,a6,a7,a8,a9,H,I,af⟩:=h.out.box
 clear av
 have aV:=ak.out.size
 go_wp2_with fail
 refine (ziZ C D z n S1 q1 0 false _ ao.out).mono ?_
 rintro e w4 ⟨S4,q4,z4,⟨ra,rc⟩,l,rfl,i4,m4,s4,R0,hl⟩
 obtain⟨g,rfl⟩: ∃g,ra=some ⟨g,0,none⟩:=R0.addr
 replace h:=zc (h.out.stp s4)
 replace o:=zc (o.out.stp s4)
 have aF:=zc (ak.out.step s4)
 clear ak
 have am:=zc m4
 have ar:=zc i4
 clear i4 m4 s4 ao
 clear a0 a1 a2 a3 a4 a5 a6 a7 a8 a9 H I af
 have E:Hid (Row S4 w4 n w.heap.size ⟨some ⟨g,0,none⟩,rc⟩ l):=⟨R0.own,R0.free,fun k hk=>Nat.le_trans aV (R0.new k hk),R0.addr⟩
 clear R0
 have aY:w.heap.size+1<w4.heap.size:=o.out.lt
 unfold pv
 go_upto_region 4 with fail
 refine zJ (R:=fun W=>Bx D S4 W (w.heap.size) _∧Bx D S4 W (w.heap.size+1) _∧Bx D S4 W (w4.heap.size) _∧Row S4 W n w.heap.size ⟨some ⟨g,0,none⟩,rc⟩ l∧Mem C D z n S4 q4 W∧SB w.heap.size S w S4 W) ⟨(h.out.alloc _),(o.out.alloc _),(Bx.new am.out _),(E.out.alloc _),(am.out.alloc _),(aF.out.alloc _)⟩ ?_
 clear h o aF am
 clear E
 rintro w5 ⟨N,K,X2,R0,m5,t5⟩
 have E:=zc R0
 clear R0
 have h:=zc N
 have o:=zc K
 have A:=zc X2
 have aB:=zc m5
 have ay:=zc t5
 clear m5 t5 N K X2
 obtain⟨c0,c1,c2,c3,c4,c5,c6,c7,c8,c9,aW,aQ,cf⟩:=A.out.box
 go_wp2_with fail
 refine (zaC C D z n _ S4 q4 z4 0 zP _ ar.out.fst aB.out).mono ?_
 rintro e w6 ⟨S6,q6,z6,rfl,i6,m6,s6⟩
 replace h:=zc (h.out.stp s6)
 replace o:=zc (o.out.stp s6)
 replace A:=zc (A.out.stp s6)
 have aA:=zc (ay.out.step s6)
 have M:Hid (Row S6 w6 n w.heap.size ⟨some ⟨g,0,none⟩,rc⟩ l):=E.out.stp s6
 clear E
 have E:=zc M
 clear M
 clear ay
 have aN:=zc m6
 have aT:=zc i6
 clear i6 m6 s6 aB
 clear c0 c1 c2 c3 c4 c5 c6 c7 c8 c9 aW aQ cf
 go_wp2_with fail
 refine (zdy C D z n _ S6 q6 z6 0 _ aT.out aN.out).mono ?_
 rintro e w7 ⟨S7,q7,z7,n7,rfl,i7,m7,s7⟩
 replace h:=zc (h.out.stp s7)
 replace o:=zc (o.out.stp s7)
 replace A:=zc (A.out.stp s7)
 have aL:=zc (aA.out.step s7)
 have M:Hid (Row S7 w7 n w.heap.size ⟨some ⟨g,0,none⟩,rc⟩ l):=E.out.stp s7
 clear E
 have E:=zc M
 clear M
 clear aA
 have al:=zc m7
 have aM:=zc i7
 clear i7 m7 s7 aN
 have aZ:w.heap.size+1<w7.heap.size:=o.out.lt
 have aP:w4.heap.size<w7.heap.size:=A.out.lt
 unfold pv
 go_upto_region 5 with fail
 refine zJ (R:=fun W=>Bx D S7 W (w.heap.size) _∧Bx D S7 W (w.heap.size+1) _∧Bx D S7 W (w4.heap.size) _∧Bx D S7 W (w7.heap.size) _∧Row S7 W n w.heap.size ⟨some ⟨g,0,none⟩,rc⟩ l∧Mem C D z n S7 q7 W∧SB w.heap.size S w S7 W) ⟨(h.out.alloc _),(o.out.alloc _),(A.out.alloc _),(Bx.new al.out _),(E.out.alloc _),(al.out.alloc _),(aL.out.alloc _)⟩ ?_
 clear h o A aL al
 clear E
 rintro w8 ⟨N,K,X2,X3,R0,m8,t8⟩
 have E:=zc R0
 clear R0
 have h:=zc N
 have o:=zc K
 have A:=zc X2
 have O:=zc X3
 have aH:=zc m8
 have aI:=zc t8
 clear m8 t8 N K X2 X3
 obtain⟨d0,d1,d2,d3,d4,d5,d6,d7,d8,d9,ag,aj,df⟩:=O.out.box
 go_wp2_with fail
 refine (zab C D z n _ S7 q7 z7 0 cSemi _ aM.out.fst aH.out).mono ?_
 rintro e w9 ⟨X,q9,z9,rfl,i9,m9,s9⟩
 replace h:=zc (h.out.stp s9)
 replace o:=zc (o.out.stp s9)
 replace A:=zc (A.out.stp s9)
 replace O:=zc (O.out.stp s9)
 have ab:=zc (aI.out.step s9)
 have M:Hid (Row X w9 n w.heap.size ⟨some ⟨g,0,none⟩,rc⟩ l):=E.out.stp s9
 clear E
 have E:=zc M
 clear M
 clear aI
 have Y:=zc m9
 have V:=zc i9
 clear i9 m9 s9 aH
 clear d0 d1 d2 d3 d4 d5 d6 d7 d8 d9 ag aj df
 obtain⟨a0,a1,a2,a3,a4,a5,a6,a7,a8,a9,H,I,af⟩:=h.out.box
 unfold pv
 go_upto_region 6 with fail
 refine zJ (R:=fun W=>Bx D X W (w.heap.size) _∧Bx D X W (w.heap.size+1) _∧Bx D X W (w4.heap.size) _∧Bx D X W (w7.heap.size) _∧Row X W n w.heap.size ⟨some ⟨g,0,none⟩,rc⟩ l∧Mem C D z n X q9 W∧SB w.heap.size S w X W) ⟨(h.out.put ..),(o.out.other (by omega) ..),(A.out.other (by omega) ..),(O.out.other (by omega) ..),(E.out.put h.out ..),(Y.out.put h.out ..),(ab.out.put (by omega) ..)⟩ ?_
 clear a0 a1 a2 a3 a4 a5 a6 a7 a8 a9 H I af
 clear h o A O ab Y
 clear E
 rintro ap ⟨N,K,X2,X3,R0,aa,an⟩
 have E:=zc R0
 clear R0
 have h:=zc N
 have o:=zc K
 have A:=zc X2
 have O:=zc X3
 have U:=zc aa
 have ad:=zc an
 clear aa an N K X2 X3
 have aU:Hid (_=_):=zg3 (G:=fun b e=>zao C (zb8 b e)) ar.out aM.out
 go_wp2
 go_loopg [8] l.length (fun k i wr=>∃(j:Nat) (x':PR) (L:Sv) (q':PS) (z':Int),j≤l.length∧i= .int .i64 j∧Is x' q' z'∧(z'<0→1≤q'.pos)∧zR (fun e=>zao C (zb8 n7 e)) (l.drop j) x'=zaK C q∧l.length-j=k∧Mem C D z n L q' wr∧SB w.heap.size S w L wr∧Bx D L wr w.heap.size #[.slice (some ⟨D,0,none⟩) C.ts.length z,.int .i64 q'.pos,.int .i64 C.fin,.bool C.scr,.slice L.rq.a q'.rq.length L.rq.cap,.slice L.im.a q'.im.length L.im.cap,.slice L.ep.a q'.ep.length L.ep.cap,.slice L.st.a q'.st.length L.st.cap,.slice L.ex.a q'.ex.length L.ex.cap,.slice L.la.a q'.la.length L.la.cap,.int .i64 z',.int .i64 0]∧Bx D L wr (w.heap.size+1) #[.slice none 0 0,.int .i64 0,.int .i64 0,.bool false,.slice none 0 0,.slice none 0 0,.slice none 0 0,.slice none 0 0,.slice none 0 0,.slice none 0 0,.int .i64 0,.int .i64 0]∧Row L wr n w.heap.size ⟨some ⟨g,0,none⟩,rc⟩ l)
 case atStart=>exact⟨0,_,X,q9,z9,Nat.zero_le _,rfl,V.out,zaZ V.out,by rw[HV.out,←HQ.out];exact aU.out,rfl,U.out,ad.out,h.out,o.out,E.out⟩
 case round=>
  obtain⟨j,x9,X,q9,z9,hj,rfl,i9,p9,e9,g9,m9,t9,N,K,R0⟩:=hrel
  clear h o A O E U ad
  have h:=zc N
  have o:=zc K
  have Y:=zc m9
  have ab:=zc t9
  have V:=zc i9
  have az:=zc p9
  have au:=zc e9
  have ax:=zc g9
  have E:=zc R0
  clear N K i9 m9 t9 e9 g9 R0 p9
  by_cases aE:j<l.length
  ·skip
   obtain⟨c1,c2⟩:=E.out.cells (g:=g) rfl aE
   have ba:=E.out.own.lt (g:=g) rfl
   have HX:Hid (∀e,e=l[j]→zR (fun e=>zao C (zb8 n7 e)) (l.drop (j+1)) (bd x9 (zao C (zb8 n7 e)))=zaK C q):=fun e he=>by rw[he,←au.out];exact (zf2 (fun e=>zao C (zb8 n7 e)) l x9 aE).symm
   generalize aw:l[j]=el at c1 c2
   have aR:Hid (el=l[j]):=aw.symm
   clear aw
   obtain⟨a0,a1,a2,a3,a4,a5,a6,a7,a8,a9,H,I,af⟩:=h.out.box
   go_upto_region 9 with fail
   go_region_law (first|(go_simp;go_wp2_with (go_at_call 132;refine (zfR C D z n x9 X q9 z9 0 (zb8 n7 el) _ V.out Y.out.drew az.out).mono ?_;rintro e ap ⟨aD,aS,aX,rfl,aK,aa,ai⟩;obtain⟨d0,d1,d2,d3,d4,d5,d6,d7,d8,d9,ag,aj,df⟩:=(h.out.stp ai.undrew).box;unfold pv)))
   all_goals
    clear a0 a1 a2 a3 a4 a5 a6 a7 a8 a9 H I af d0 d1 d2 d3 d4 d5 d6 d7 d8 d9 ag aj df
    have ac:=zc aK
    have U:=zc aa
    have J:Hid (Stp X wr aD ap):=ai.undrew
    clear aK aa ai
    go_wp2
    go_roundg (gk-1)
    case rel=>exact⟨j+1,_,aD,aS,aX,by omega,by go_num,ac.out,zpt az.out V.out ac.out,HX.out el aR.out,by have:=ax.out;omega,U.out.put (h.out.stp J.out) _ _ _ _ _ _ _ _ _ _ _ _,(ab.out.step J.out).put (by omega) _ _ _ _ _ _ _ _ _ _ _ _,(h.out.stp J.out).put _ _ _ _ _ _ _ _ _ _ _ _,(o.out.stp J.out).other (by omega) _ _ _ _ _ _ _ _ _ _ _ _,(E.out.stp J.out).put (h.out.stp J.out) _ _ _ _ _ _ _ _ _ _ _ _⟩
    case measure=>have:=ax.out;omega
  ·skip
   obtain⟨a0,a1,a2,a3,a4,a5,a6,a7,a8,a9,H,I,af⟩:=h.out.box
   obtain⟨b0,b1,b2,b3,b4,b5,b6,b7,b8,b9,bc,bb,bf⟩:=o.out.box
   go_wp2
   refine bodyPost_ret (results_cell_row rfl _ _ (w.heap.size+1) 53 _ (0,0) _ rfl ((o.out.put ..)).heap Tryz.underlying53 rfl (by kernel_rfl)) rfl ?_
   exact zW rfl (show Is (zaK C q) q9 z9 from by rw[←au.out,List.drop_eq_nil_of_le (by omega)];exact V.out) (Y.out.put o.out ..) (ab.out.put (by omega) ..)
theorem zpy {C:Cx} {k:Int} {n:ByteArray} {q q':PS} (h:zX C k n q= .ok q'):q'={q with st:=q.st++[⟨k,n,(q.ex.length:Int)-1⟩]}∧q.st.length<80:=by
 unfold zX at h
 split at h
 ·cases h
 ·cases h
  exact⟨rfl,by omega⟩
theorem zjo {C:Cx} {x:PR} {k:Int} {s:ByteArray} {j:Int} {n:ByteArray} {q:PS} {z:Int} (h:Is (bd (bd x (zd C k s)) (zX C j n)) q z):z<0→1≤q.pos:=by
 intro D
 obtain⟨e,_⟩:=za7 h D
 obtain⟨a,w,o⟩:=zi e
 obtain⟨b,_,A⟩:=zi w
 obtain⟨rfl,_⟩:=zb0 A
 obtain⟨rfl,_⟩:=zpy o
 simp[adv]
theorem zjp {C:Cx} {y:PRN} {G:PR→PR} {k:Int} {s:ByteArray} {j:Int} {q:PS} {z:Int} {n:ByteArray} (h:Is2 (withN y fun x n=>bd (bd (G x) (zd C k s)) (zX C j n)) q z n):z<0→1≤q.pos:=by
 intro A
 cases y with
 |error e=>have:z=(e:Int):=h;omega
 |ok a=>
  have o:Is2 (bd (bd (bd (G (.ok a.1)) (zd C k s)) (zX C j a.2)) fun q=>.ok (q,a.2)) q z n:=h
  cases w:bd (bd (G (.ok a.1)) (zd C k s)) (zX C j a.2) with
  |error e=>rw[w] at o;have:z=(e:Int):=o;omega
  |ok b=>
   rw[w] at o
   obtain⟨rfl,rfl,_⟩:=o
   exact zjo (show Is (bd (bd (G (.ok a.1)) (zd C k s)) (zX C j a.2)) q (-1) by rw[w];exact⟨rfl,rfl⟩) (by decide)
theorem zpz {C:Cx} {j q:PS} {z:Int} {n:ByteArray} (h:Is2 (zcm C j) q z n):z<0→1≤q.pos:=zjp (G:=fun x=>bd (bd x (zd C 4 cEq)) (pE C .sum 0)) h
theorem zp0 {C:Cx} {j q:PS} {z:Int} {n:ByteArray} (h:Is2 (fnP C j) q z n):z<0→1≤q.pos:=zjp (G:=fun x=>bd (bd (bd (bd (bd (bd x (zd C 4 zm)) (zd C 4 zay)) (zd C 4 zF)) (zd C 1 zd6)) (pE C .sum 0)) (zd C 4 cSemi)) h
theorem zp1 {C:Cx} {x:PR} {o:PS} {n:Int} {j:ByteArray} {G:ByteArray→PS→PR} (h:Is2 (bd (bd x (zd C 1 zP)) (zG C)) o n j):
  bd (bd (zaG (bd (bd x (zd C 1 zP)) (zG C))) (zd C 4 cSemi)) (G j)=bd (zaQ C (zaA C x)) fun b=>G b.2 b.1:=by
 have z:bd (bd x (zd C 1 zP)) (zG C)=zaA C x:=rfl
 rw[z] at h ⊢
 cases w:zaA C x with
 |error e=>rfl
 |ok b=>
  rw[w] at h
  obtain⟨_,_,rfl⟩:=h
  show bd (zd C 4 cSemi b.1) (G b.2)=bd (bd (zd C 4 cSemi b.1) fun q=>.ok (q,b.2)) fun b=>G b.2 b.1
  rw[zK]
  rfl
theorem zp2 {C:Cx} {y:PRL} {h:PS} {j:Int} {l:List Ep} {f:Ep→PS→PR} {D:PS×List Ep→PR} (o:Is3 y h j l) (w:za5 l=false) (n:(decide (j<0)&&isT C h.pos 1 zP)=false):
  zR f l (bd (ze8 y) (zd C 4 cSemi))=bd y fun a=>if !za5 a.2&& !isT C a.1.pos 1 zP then bd (zd C 4 cSemi a.1) fun q=>zR f a.2 (.ok q) else D a:=by
 cases y with
 |error e=>exact ze7 _ _ _
 |ok a=>
  obtain⟨rfl,rfl,rfl⟩:=o
  rw[Bool.and_eq_false_iff] at n
  rw[zx,w,n.resolve_left (by decide)]
  show zR f a.2 (zd C 4 cSemi a.1)=bd (zd C 4 cSemi a.1) fun q=>zR f a.2 (.ok q)
  cases zd C 4 cSemi a.1 with
  |error e=>exact ze7 _ _ _
  |ok c=>rfl
theorem zjq {C:Cx} {y:PRL} {o:PS} {n:Int} {l:List Ep} {D E:PS×List Ep→PR} (q:Is3 y o n l) (j:za5 l=true∨(decide (n<0)&&isT C o.pos 1 zP)=true):
  bd y D=bd y fun a=>if !za5 a.2&& !isT C a.1.pos 1 zP then E a else D a:=by
 cases y with
 |error e=>rfl
 |ok a=>
  obtain⟨rfl,rfl,rfl⟩:=q
  rw[zx,zx]
  rcases j with h|h
  ·rw[h];rfl
  ·rw[Bool.and_eq_true] at h
   rw[h.2,Bool.not_true,Bool.and_false]
   rfl
theorem zp3 (C:Cx) (z o n:Nat) (S:Sv) (q:PS) (w:World) (hm:Mem C z o n S q w) (hw:isT C q.pos 1 zad=true) (h1:isT C (q.pos+1) 4 zF=false) (h2:isT C (q.pos+1) 4 zv=true):
  Calls Tryz.prog 71 #[pv C z o S q (-1) 0] w (Out C z o n (zaf C q) 0 S w):=by
 have HM:=zc hm
 have L:=hm.few
 clear hm
 have HV:Hid (zaf C q=bd (zaQ C (zaA C (bd (.ok (adv q)) (zd C 4 zv)))) fun b=>zn C ⟨3,sNone,sNone,b.2⟩ b.1):=by
  show _=_
  rw[zaf,zd,if_pos hw,zx]
  rw[zw,h1,h2]
  rfl
 unfold pv
 go_enter Tryz.func71,Tryz.ntmps71
 go_wp2_with fail
 refine (zaC C z o n (.ok q) S q (-1) 0 zad _ (zU q) ((HM.out.alloc _).alloc _)).mono ?_
 rintro e w1 ⟨S1,K,z1,rfl,i1,m1,s1⟩
 obtain⟨N,M,t1⟩:=HM.out.two2 s1
 have h:=zc N
 have j:=zc M
 have ar:=zc m1
 have aB:=zc t1
 have ak:=zc i1
 clear N M i1 m1 t1 s1
 obtain⟨Z,rfl⟩:=zcF ak.out hw
 have HQ:=zc Z
 have aa:Hid (K.pos=q.pos+1):=by show K.pos=q.pos+1;rw[Z];rfl
 clear Z ak
 obtain⟨a0,a1,a2,U,O,a5,Y,a7,a8,a9,A,D,af⟩:=h.out.box
 unfold pv
 go_upto_region 2 with fail
 refine zJ (R:=fun W=>Bx z S1 W (w.heap.size) _∧Bx z S1 W (w.heap.size+1) _∧Mem C z o n S1 K W∧SB w.heap.size S w S1 W) ⟨(h.out.put ..),(j.out.other (by omega) ..),(ar.out.put h.out ..),(aB.out.put (by omega) ..)⟩ ?_
 clear a0 a1 a2 U O a5 Y a7 a8 a9 A D af
 clear h j aB ar
 rintro w2 ⟨N,M,m2,t2⟩
 have h:=zc N
 have j:=zc M
 have V:=zc m2
 have am:=zc t2
 clear m2 t2 N M
 obtain⟨a0,a1,a2,U,O,a5,Y,a7,a8,a9,A,D,af⟩:=h.out.box
 go_wp2_with fail
 refine (zg C z o n S1 K (-1) 0 4 zF _ V.out.tok L (by decide)).mono ?_
 rintro e w3 ⟨rfl,E⟩
 rw[aa.out,h1]
 replace h:=zc (h.out.below E)
 replace j:=zc (j.out.below E)
 have aj:=zc (am.out.below E)
 have X:=zc (V.out.later E)
 clear E am V
 clear a0 a1 a2 U O a5 Y a7 a8 a9 A D af
 obtain⟨a0,a1,a2,U,O,a5,Y,a7,a8,a9,A,D,af⟩:=h.out.box
 go_wp2_with fail
 refine (zg C z o n S1 K (-1) 0 4 zv _ X.out.tok L (by decide)).mono ?_
 rintro e w4 ⟨rfl,J⟩
 rw[aa.out,h2]
 replace h:=zc (h.out.below J)
 replace j:=zc (j.out.below J)
 have al:=zc (aj.out.below J)
 have ax:=zc (X.out.later J)
 clear J aj X
 clear a0 a1 a2 U O a5 Y a7 a8 a9 A D af
 obtain⟨a0,a1,a2,U,O,a5,Y,a7,a8,a9,A,D,af⟩:=h.out.box
 clear aa
 go_wp2_with fail
 refine (zab C z o n (.ok K) S1 K (-1) 0 zv _ (zU K) ax.out).mono ?_
 rintro e w5 ⟨S5,q5,z5,rfl,i5,m5,s5⟩
 replace h:=zc (h.out.stp s5)
 replace j:=zc (j.out.stp s5)
 have ag:=zc (al.out.step s5)
 clear al
 have ai:=zc m5
 have aD:=zc i5
 clear i5 m5 s5 ax
 clear a0 a1 a2 U O a5 Y a7 a8 a9 A D af
 go_wp2_with fail
 refine (zaC C z o n _ S5 q5 z5 0 zP _ aD.out ai.out).mono ?_
 rintro e w6 ⟨S6,q6,z6,rfl,i6,m6,s6⟩
 replace h:=zc (h.out.stp s6)
 replace j:=zc (j.out.stp s6)
 have ah:=zc (ag.out.step s6)
 clear ag
 have aA:=zc m6
 have aE:=zc i6
 clear i6 m6 s6 ai
 go_wp2_with fail
 refine (zdy C z o n _ S6 q6 z6 0 _ aE.out aA.out).mono ?_
 rintro e w7 ⟨S7,q7,z7,n7,rfl,i7,m7,s7⟩
 replace h:=zc (h.out.stp s7)
 replace j:=zc (j.out.stp s7)
 have av:=zc (ah.out.step s7)
 clear ah
 have ab:=zc m7
 have aw:=zc i7
 clear i7 m7 s7 aA
 have aG:w.heap.size+1<w7.heap.size:=j.out.lt
 unfold pv
 go_upto_region 20 with fail
 refine zJ (R:=fun W=>Bx z S7 W (w.heap.size) _∧Bx z S7 W (w.heap.size+1) _∧Bx z S7 W (w7.heap.size) _∧Mem C z o n S7 q7 W∧SB w.heap.size S w S7 W) ⟨(h.out.alloc _),(j.out.alloc _),(Bx.new ab.out _),(ab.out.alloc _),(av.out.alloc _)⟩ ?_
 clear h j av ab
 rintro w8 ⟨N,M,X2,m8,t8⟩
 have h:=zc N
 have j:=zc M
 have I:=zc X2
 have an:=zc m8
 have ap:=zc t8
 clear m8 t8 N M X2
 obtain⟨c0,c1,c2,c3,c4,c5,c6,c7,c8,c9,aF,aC,cf⟩:=I.out.box
 go_wp2_with fail
 refine (zab C z o n _ S7 q7 z7 0 cSemi _ aw.out.fst an.out).mono ?_
 rintro e w9 ⟨S9,q9,z9,rfl,i9,m9,s9⟩
 replace h:=zc (h.out.stp s9)
 replace j:=zc (j.out.stp s9)
 replace I:=zc (I.out.stp s9)
 have az:=zc (ap.out.step s9)
 clear ap
 have ac:=zc m9
 have ao:=zc i9
 clear i9 m9 s9 an
 clear c0 c1 c2 c3 c4 c5 c6 c7 c8 c9 aF aC cf
 go_wp2_with fail
 refine (zdn C z o n _ S9 q9 z9 0 ⟨3,sNone,sNone,n7⟩ _ ao.out ac.out (zaZ ao.out)).mono ?_
 rintro e aJ ⟨aL,aI,aM,rfl,au,ay,H⟩
 replace h:=zc (h.out.stp H)
 replace j:=zc (j.out.stp H)
 replace I:=zc (I.out.stp H)
 have ae:=zc (az.out.step H)
 clear az
 have aq:=zc ay
 have ad:=zc au
 clear au ay H ac
 obtain⟨b0,b1,b2,b3,b4,b5,b6,b7,b8,b9,aK,aH,bf⟩:=j.out.box
 unfold pv
 go_wp2
 refine bodyPost_ret (results_cell_row rfl _ _ (w.heap.size+1) 53 _ (0,0) _ rfl ((j.out.put ..)).heap Tryz.underlying53 rfl (by kernel_rfl)) rfl ?_
 rw[HV.out,←HQ.out,←zp1 (G:=fun b=>zn C ⟨3,sNone,sNone,b⟩) aw.out]
 exact zW rfl ad.out (aq.out.put j.out ..) (ae.out.put (by omega) ..)
theorem zp4 (C:Cx) (D o n:Nat) (S:Sv) (q:PS) (w:World) (hm:Mem C D o n S q w) (hw:isT C q.pos 1 zad=true) (h1:isT C (q.pos+1) 4 zF=false) (h2:isT C (q.pos+1) 4 zv=false) (h3:isT C (q.pos+1) 1 sDefault=true):
  Calls Tryz.prog 71 #[pv C D o S q (-1) 0] w (Out C D o n (zaf C q) 0 S w):=by
 have HM:=zc hm
 have H:=hm.few
 clear hm
 have HV:Hid (zaf C q=bd (bd (bd (bd (bd (.ok (adv q)) (zd C 1 sDefault)) (pE C .sum 0)) (zd C 4 cSemi)) (zX C 1 zbG)) (zn C ⟨1,sDefault,zbG,sNone⟩)):=by
  show _=_
  rw[zaf,zd,if_pos hw,zx]
  rw[zw,h1,h2,h3]
  rfl
 unfold pv
 go_enter Tryz.func71,Tryz.ntmps71
 go_wp2_with fail
 refine (zaC C D o n (.ok q) S q (-1) 0 zad _ (zU q) ((HM.out.alloc _).alloc _)).mono ?_
 rintro e w1 ⟨S1,U,z1,rfl,i1,m1,s1⟩
 obtain⟨X0,X1,t1⟩:=HM.out.two2 s1
 have h:=zc X0
 have j:=zc X1
 have aA:=zc m1
 have aH:=zc t1
 have ar:=zc i1
 clear X0 X1 i1 m1 t1 s1
 obtain⟨ag,rfl⟩:=zcF ar.out hw
 have HQ:=zc ag
 have Y:Hid (U.pos=q.pos+1):=by show U.pos=q.pos+1;rw[ag];rfl
 clear ag ar
 obtain⟨X,a1,Z,O,N,a5,V,a7,a8,a9,z,A,af⟩:=h.out.box
 unfold pv
 go_upto_region 2 with fail
 refine zJ (R:=fun W=>Bx D S1 W (w.heap.size) _∧Bx D S1 W (w.heap.size+1) _∧Mem C D o n S1 U W∧SB w.heap.size S w S1 W) ⟨(h.out.put ..),(j.out.other (by omega) ..),(aA.out.put h.out ..),(aH.out.put (by omega) ..)⟩ ?_
 clear X a1 Z O N a5 V a7 a8 a9 z A af
 clear h j aH aA
 rintro w2 ⟨X0,X1,m2,t2⟩
 have h:=zc X0
 have j:=zc X1
 have ad:=zc m2
 have aw:=zc t2
 clear m2 t2 X0 X1
 obtain⟨X,a1,Z,O,N,a5,V,a7,a8,a9,z,A,af⟩:=h.out.box
 go_wp2_with fail
 refine (zg C D o n S1 U (-1) 0 4 zF _ ad.out.tok H (by decide)).mono ?_
 rintro e w3 ⟨rfl,I⟩
 rw[Y.out,h1]
 replace h:=zc (h.out.below I)
 replace j:=zc (j.out.below I)
 have aq:=zc (aw.out.below I)
 have ae:=zc (ad.out.later I)
 clear I aw ad
 clear X a1 Z O N a5 V a7 a8 a9 z A af
 obtain⟨X,a1,Z,O,N,a5,V,a7,a8,a9,z,A,af⟩:=h.out.box
 go_wp2_with fail
 refine (zg C D o n S1 U (-1) 0 4 zv _ ae.out.tok H (by decide)).mono ?_
 rintro e w4 ⟨rfl,M⟩
 rw[Y.out,h2]
 replace h:=zc (h.out.below M)
 replace j:=zc (j.out.below M)
 have av:=zc (aq.out.below M)
 have ai:=zc (ae.out.later M)
 clear M aq ae
 clear X a1 Z O N a5 V a7 a8 a9 z A af
 obtain⟨X,a1,Z,O,N,a5,V,a7,a8,a9,z,A,af⟩:=h.out.box
 go_wp2_with fail
 refine (zg C D o n S1 U (-1) 0 1 sDefault _ ai.out.tok H (by decide)).mono ?_
 rintro e w5 ⟨rfl,E⟩
 rw[Y.out,h3]
 replace h:=zc (h.out.below E)
 replace j:=zc (j.out.below E)
 have an:=zc (av.out.below E)
 have ap:=zc (ai.out.later E)
 clear E av ai
 clear X a1 Z O N a5 V a7 a8 a9 z A af
 obtain⟨X,a1,Z,O,N,a5,V,a7,a8,a9,z,A,af⟩:=h.out.box
 clear Y
 go_wp2_with fail
 refine (zaC C D o n (.ok U) S1 U (-1) 0 sDefault _ (zU U) ap.out).mono ?_
 rintro e w6 ⟨S6,q6,z6,rfl,i6,m6,s6⟩
 replace h:=zc (h.out.stp s6)
 replace j:=zc (j.out.stp s6)
 have ao:=zc (an.out.step s6)
 clear an
 have aG:=zc m6
 have aK:=zc i6
 clear i6 m6 s6 ap
 clear X a1 Z O N a5 V a7 a8 a9 z A af
 go_wp2_with fail
 refine (zcE C D o n _ S6 q6 z6 _ aK.out aG.out).mono ?_
 rintro e w7 ⟨S7,q7,z7,rfl,i7,m7,s7⟩
 replace h:=zc (h.out.stp s7)
 replace j:=zc (j.out.stp s7)
 have aC:=zc (ao.out.step s7)
 clear ao
 have ay:=zc m7
 have aN:=zc i7
 clear i7 m7 s7 aG
 go_wp2_with fail
 refine (zab C D o n _ S7 q7 z7 0 cSemi _ aN.out ay.out).mono ?_
 rintro e w8 ⟨S8,q8,z8,rfl,i8,m8,s8⟩
 replace h:=zc (h.out.stp s8)
 replace j:=zc (j.out.stp s8)
 have ax:=zc (aC.out.step s8)
 clear aC
 have ah:=zc m8
 have az:=zc i8
 clear i8 m8 s8 ay
 have aP:w.heap.size+1<w8.heap.size:=j.out.lt
 unfold pv
 go_upto_region 23 with fail
 refine zJ (R:=fun W=>Bx D S8 W (w.heap.size) _∧Bx D S8 W (w.heap.size+1) _∧Bx D S8 W (w8.heap.size) _∧Mem C D o n S8 q8 W∧SB w.heap.size S w S8 W) ⟨(h.out.alloc _),(j.out.alloc _),(Bx.new ah.out _),(ah.out.alloc _),(ax.out.alloc _)⟩ ?_
 clear h j ax ah
 rintro w9 ⟨X0,X1,X2,m9,t9⟩
 have h:=zc X0
 have j:=zc X1
 have K:=zc X2
 have ak:=zc m9
 have aE:=zc t9
 clear m9 t9 X0 X1 X2
 obtain⟨c0,c1,c2,c3,c4,c5,c6,c7,c8,c9,aM,aI,cf⟩:=K.out.box
 go_wp2_with fail
 refine (zc4 C D o n _ S8 q8 z8 0 1 zbG _ az.out ak.out (zaZ az.out)).mono ?_
 rintro e aS ⟨aL,aJ,aO,rfl,aB,aD,J⟩
 replace h:=zc (h.out.stp J)
 replace j:=zc (j.out.stp J)
 replace K:=zc (K.out.stp J)
 have ab:=zc (aE.out.step J)
 clear aE
 have ac:=zc aD
 have aa:=zc aB
 clear aB aD J ak
 clear c0 c1 c2 c3 c4 c5 c6 c7 c8 c9 aM aI cf
 go_wp2_with fail
 refine (zdn C D o n _ aL aJ aO 0 ⟨1,sDefault,zbG,sNone⟩ _ aa.out ac.out (zjo aa.out)).mono ?_
 rintro e aR ⟨aW,aU,aT,rfl,am,aF,L⟩
 replace h:=zc (h.out.stp L)
 replace j:=zc (j.out.stp L)
 replace K:=zc (K.out.stp L)
 have al:=zc (ab.out.step L)
 clear ab
 have au:=zc aF
 have aj:=zc am
 clear am aF L ac
 obtain⟨b0,b1,b2,b3,b4,b5,b6,b7,b8,b9,aV,aQ,bf⟩:=j.out.box
 unfold pv
 go_wp2
 refine bodyPost_ret (results_cell_row rfl _ _ (w.heap.size+1) 53 _ (0,0) _ rfl ((j.out.put ..)).heap Tryz.underlying53 rfl (by kernel_rfl)) rfl ?_
 rw[HV.out,←HQ.out]
 exact zW rfl aj.out (au.out.put j.out ..) (al.out.put (by omega) ..)
theorem zp5 (C:Cx) (E z o:Nat) (S:Sv) (q:PS) (w:World) (hm:Mem C E z o S q w) (hw:isT C q.pos 1 zad=true) (h1:isT C (q.pos+1) 4 zF=false) (h2:isT C (q.pos+1) 4 zv=false) (h3:isT C (q.pos+1) 1 sDefault=false) (h4:isT C (q.pos+1) 1 zA=true):
  Calls Tryz.prog 71 #[pv C E z S q (-1) 0] w (Out C E z o (zaf C q) 0 S w):=by
 have HM:=zc hm
 have H:=hm.few
 clear hm
 have HV:Hid (zaf C q=bd (zcm C (adv q)) fun a=>zn C ⟨1,a.2,a.2,sNone⟩ a.1):=by
  show _=_
  rw[zaf,zd,if_pos hw,zx]
  rw[zw,h1,h2,h3,h4]
  rfl
 unfold pv
 go_enter Tryz.func71,Tryz.ntmps71
 go_wp2_with fail
 refine (zaC C E z o (.ok q) S q (-1) 0 zad _ (zU q) ((HM.out.alloc _).alloc _)).mono ?_
 rintro e w1 ⟨S1,q1,z1,rfl,i1,m1,s1⟩
 obtain⟨X0,X1,t1⟩:=HM.out.two2 s1
 have h:=zc X0
 have j:=zc X1
 have au:=zc m1
 have ax:=zc t1
 have an:=zc i1
 clear X0 X1 i1 m1 t1 s1
 obtain⟨ad,rfl⟩:=zcF an.out hw
 have HQ:=zc ad
 have O:Hid (q1.pos=q.pos+1):=by show q1.pos=q.pos+1;rw[ad];rfl
 clear ad an
 obtain⟨N,a1,U,J,I,X,L,Y,a8,Z,A,D,af⟩:=h.out.box
 unfold pv
 go_upto_region 2 with fail
 refine zJ (R:=fun W=>Bx E S1 W (w.heap.size) _∧Bx E S1 W (w.heap.size+1) _∧Mem C E z o S1 q1 W∧SB w.heap.size S w S1 W) ⟨(h.out.put ..),(j.out.other (by omega) ..),(au.out.put h.out ..),(ax.out.put (by omega) ..)⟩ ?_
 clear N a1 U J I X L Y a8 Z A D af
 clear h j ax au
 rintro w2 ⟨X0,X1,m2,t2⟩
 have h:=zc X0
 have j:=zc X1
 have ab:=zc m2
 have ap:=zc t2
 clear m2 t2 X0 X1
 obtain⟨N,a1,U,J,I,X,L,Y,a8,Z,A,D,af⟩:=h.out.box
 go_wp2_with fail
 refine (zg C E z o S1 q1 (-1) 0 4 zF _ ab.out.tok H (by decide)).mono ?_
 rintro e w3 ⟨rfl,M⟩
 rw[O.out,h1]
 replace h:=zc (h.out.below M)
 replace j:=zc (j.out.below M)
 have am:=zc (ap.out.below M)
 have ac:=zc (ab.out.later M)
 clear M ap ab
 clear N a1 U J I X L Y a8 Z A D af
 obtain⟨N,a1,U,J,I,X,L,Y,a8,Z,A,D,af⟩:=h.out.box
 go_wp2_with fail
 refine (zg C E z o S1 q1 (-1) 0 4 zv _ ac.out.tok H (by decide)).mono ?_
 rintro e w4 ⟨rfl,V⟩
 rw[O.out,h2]
 replace h:=zc (h.out.below V)
 replace j:=zc (j.out.below V)
 have ao:=zc (am.out.below V)
 have aj:=zc (ac.out.later V)
 clear V am ac
 clear N a1 U J I X L Y a8 Z A D af
 obtain⟨N,a1,U,J,I,X,L,Y,a8,Z,A,D,af⟩:=h.out.box
 go_wp2_with fail
 refine (zg C E z o S1 q1 (-1) 0 1 sDefault _ aj.out.tok H (by decide)).mono ?_
 rintro e w5 ⟨rfl,K⟩
 rw[O.out,h3]
 replace h:=zc (h.out.below K)
 replace j:=zc (j.out.below K)
 have ak:=zc (ao.out.below K)
 have ag:=zc (aj.out.later K)
 clear K ao aj
 clear N a1 U J I X L Y a8 Z A D af
 obtain⟨N,a1,U,J,I,X,L,Y,a8,Z,A,D,af⟩:=h.out.box
 go_wp2_with fail
 refine (zg C E z o S1 q1 (-1) 0 1 zA _ ag.out.tok H (by decide)).mono ?_
 rintro e w6 ⟨rfl,aa⟩
 rw[O.out,h4]
 replace h:=zc (h.out.below aa)
 replace j:=zc (j.out.below aa)
 have al:=zc (ak.out.below aa)
 have aw:=zc (ag.out.later aa)
 clear aa ak ag
 clear N a1 U J I X L Y a8 Z A D af
 obtain⟨N,a1,U,J,I,X,L,Y,a8,Z,A,D,af⟩:=h.out.box
 clear O
 go_wp2_with fail
 refine (zg1 C E z o S1 q1 _ aw.out).mono ?_
 rintro e w7 ⟨S7,q7,z7,n7,rfl,i7,m7,s7⟩
 replace h:=zc (h.out.stp s7)
 replace j:=zc (j.out.stp s7)
 have av:=zc (al.out.step s7)
 clear al
 have ah:=zc m7
 have ai:=zc i7
 clear i7 m7 s7 aw
 clear N a1 U J I X L Y a8 Z A D af
 have aD:w.heap.size+1<w7.heap.size:=j.out.lt
 unfold pv
 go_upto_region 26 with fail
 refine zJ (R:=fun W=>Bx E S7 W (w.heap.size) _∧Bx E S7 W (w.heap.size+1) _∧Bx E S7 W (w7.heap.size) _∧Mem C E z o S7 q7 W∧SB w.heap.size S w S7 W) ⟨(h.out.alloc _),(j.out.alloc _),(Bx.new ah.out _),(ah.out.alloc _),(av.out.alloc _)⟩ ?_
 clear h j av ah
 rintro w8 ⟨X0,X1,X2,m8,t8⟩
 have h:=zc X0
 have j:=zc X1
 have ae:=zc X2
 have aq:=zc m8
 have ar:=zc t8
 clear m8 t8 X0 X1 X2
 obtain⟨c0,c1,c2,c3,c4,c5,c6,c7,c8,c9,aB,ay,cf⟩:=ae.out.box
 go_wp2_with fail
 refine (zdn C E z o _ S7 q7 z7 0 ⟨1,n7,n7,sNone⟩ _ ai.out.fst aq.out (zpz ai.out)).mono ?_
 rintro e w9 ⟨S9,q9,z9,rfl,i9,m9,s9⟩
 replace h:=zc (h.out.stp s9)
 replace j:=zc (j.out.stp s9)
 replace ae:=zc (ae.out.stp s9)
 have aC:=zc (ar.out.step s9)
 clear ar
 have az:=zc m9
 have aA:=zc i9
 clear i9 m9 s9 aq
 clear c0 c1 c2 c3 c4 c5 c6 c7 c8 c9 aB ay cf
 obtain⟨b0,b1,b2,b3,b4,b5,b6,b7,b8,b9,aF,aE,bf⟩:=j.out.box
 unfold pv
 go_wp2
 refine bodyPost_ret (results_cell_row rfl _ _ (w.heap.size+1) 53 _ (0,0) _ rfl ((j.out.put ..)).heap Tryz.underlying53 rfl (by kernel_rfl)) rfl ?_
 rw[HV.out,←HQ.out,←ai.out.bind (fun q n=>zn C ⟨1,n,n,sNone⟩ q)]
 exact zW rfl aA.out (az.out.put j.out ..) (aC.out.put (by omega) ..)
theorem zp6 (C:Cx) (E D o:Nat) (S:Sv) (q:PS) (w:World) (hm:Mem C E D o S q w) (hw:isT C q.pos 1 zad=true) (h1:isT C (q.pos+1) 4 zF=false) (h2:isT C (q.pos+1) 4 zv=false) (h3:isT C (q.pos+1) 1 sDefault=false) (h4:isT C (q.pos+1) 1 zA=false) (h5:isT C (q.pos+1) 1 zO=true):
  Calls Tryz.prog 71 #[pv C E D S q (-1) 0] w (Out C E D o (zaf C q) 0 S w):=by
 have HM:=zc hm
 have H:=hm.few
 clear hm
 have HV:Hid (zaf C q=bd (fnP C (adv q)) fun a=>zn C ⟨1,a.2,a.2,sNone⟩ a.1):=by
  show _=_
  rw[zaf,zd,if_pos hw,zx]
  rw[zw,h1,h2,h3,h4,h5]
  rfl
 unfold pv
 go_enter Tryz.func71,Tryz.ntmps71
 go_wp2_with fail
 refine (zaC C E D o (.ok q) S q (-1) 0 zad _ (zU q) ((HM.out.alloc _).alloc _)).mono ?_
 rintro e w1 ⟨S1,q1,z1,rfl,i1,m1,s1⟩
 obtain⟨X0,X1,t1⟩:=HM.out.two2 s1
 have h:=zc X0
 have j:=zc X1
 have aE:=zc m1
 have aJ:=zc t1
 have ay:=zc i1
 clear X0 X1 i1 m1 t1 s1
 obtain⟨aj,rfl⟩:=zcF ay.out hw
 have HQ:=zc aj
 have M:Hid (q1.pos=q.pos+1):=by show q1.pos=q.pos+1;rw[aj];rfl
 clear aj ay
 obtain⟨L,Y,N,J,I,O,K,U,X,V,z,A,Z⟩:=h.out.box
 unfold pv
 go_upto_region 2 with fail
 refine zJ (R:=fun W=>Bx E S1 W (w.heap.size) _∧Bx E S1 W (w.heap.size+1) _∧Mem C E D o S1 q1 W∧SB w.heap.size S w S1 W) ⟨(h.out.put ..),(j.out.other (by omega) ..),(aE.out.put h.out ..),(aJ.out.put (by omega) ..)⟩ ?_
 clear L Y N J I O K U X V z A Z
 clear h j aJ aE
 rintro w2 ⟨X0,X1,m2,t2⟩
 have h:=zc X0
 have j:=zc X1
 have ah:=zc m2
 have aA:=zc t2
 clear m2 t2 X0 X1
 obtain⟨L,Y,N,J,I,O,K,U,X,V,z,A,Z⟩:=h.out.box
 go_wp2_with fail
 refine (zg C E D o S1 q1 (-1) 0 4 zF _ ah.out.tok H (by decide)).mono ?_
 rintro e w3 ⟨rfl,ab⟩
 rw[M.out,h1]
 replace h:=zc (h.out.below ab)
 replace j:=zc (j.out.below ab)
 have ax:=zc (aA.out.below ab)
 have ai:=zc (ah.out.later ab)
 clear ab aA ah
 clear L Y N J I O K U X V z A Z
 obtain⟨L,Y,N,J,I,O,K,U,X,V,z,A,Z⟩:=h.out.box
 go_wp2_with fail
 refine (zg C E D o S1 q1 (-1) 0 4 zv _ ai.out.tok H (by decide)).mono ?_
 rintro e w4 ⟨rfl,ad⟩
 rw[M.out,h2]
 replace h:=zc (h.out.below ad)
 replace j:=zc (j.out.below ad)
 have az:=zc (ax.out.below ad)
 have ao:=zc (ai.out.later ad)
 clear ad ax ai
 clear L Y N J I O K U X V z A Z
 obtain⟨L,Y,N,J,I,O,K,U,X,V,z,A,Z⟩:=h.out.box
 go_wp2_with fail
 refine (zg C E D o S1 q1 (-1) 0 1 sDefault _ ao.out.tok H (by decide)).mono ?_
 rintro e w5 ⟨rfl,aa⟩
 rw[M.out,h3]
 replace h:=zc (h.out.below aa)
 replace j:=zc (j.out.below aa)
 have av:=zc (az.out.below aa)
 have al:=zc (ao.out.later aa)
 clear aa az ao
 clear L Y N J I O K U X V z A Z
 obtain⟨L,Y,N,J,I,O,K,U,X,V,z,A,Z⟩:=h.out.box
 go_wp2_with fail
 refine (zg C E D o S1 q1 (-1) 0 1 zA _ al.out.tok H (by decide)).mono ?_
 rintro e w6 ⟨rfl,ag⟩
 rw[M.out,h4]
 replace h:=zc (h.out.below ag)
 replace j:=zc (j.out.below ag)
 have aw:=zc (av.out.below ag)
 have ap:=zc (al.out.later ag)
 clear ag av al
 clear L Y N J I O K U X V z A Z
 obtain⟨L,Y,N,J,I,O,K,U,X,V,z,A,Z⟩:=h.out.box
 go_wp2_with fail
 refine (zg C E D o S1 q1 (-1) 0 1 zO _ ap.out.tok H (by decide)).mono ?_
 rintro e w7 ⟨rfl,ae⟩
 rw[M.out,h5]
 replace h:=zc (h.out.below ae)
 replace j:=zc (j.out.below ae)
 have aG:=zc (aw.out.below ae)
 have aC:=zc (ap.out.later ae)
 clear ae aw ap
 clear L Y N J I O K U X V z A Z
 obtain⟨L,Y,N,J,I,O,K,U,X,V,z,A,Z⟩:=h.out.box
 clear M
 go_wp2_with fail
 refine (zg2 C E D o S1 q1 _ aC.out).mono ?_
 rintro e w8 ⟨S8,q8,z8,n8,rfl,i8,m8,s8⟩
 replace h:=zc (h.out.stp s8)
 replace j:=zc (j.out.stp s8)
 have aB:=zc (aG.out.step s8)
 clear aG
 have am:=zc m8
 have an:=zc i8
 clear i8 m8 s8 aC
 clear L Y N J I O K U X V z A Z
 have aM:w.heap.size+1<w8.heap.size:=j.out.lt
 unfold pv
 go_upto_region 29 with fail
 refine zJ (R:=fun W=>Bx E S8 W (w.heap.size) _∧Bx E S8 W (w.heap.size+1) _∧Bx E S8 W (w8.heap.size) _∧Mem C E D o S8 q8 W∧SB w.heap.size S w S8 W) ⟨(h.out.alloc _),(j.out.alloc _),(Bx.new am.out _),(am.out.alloc _),(aB.out.alloc _)⟩ ?_
 clear h j aB am
 rintro w9 ⟨X0,X1,X2,m9,t9⟩
 have h:=zc X0
 have j:=zc X1
 have ak:=zc X2
 have aq:=zc m9
 have aI:=zc t9
 clear m9 t9 X0 X1 X2
 obtain⟨c0,c1,c2,c3,c4,c5,c6,c7,c8,c9,aL,aK,cf⟩:=ak.out.box
 go_wp2_with fail
 refine (zdn C E D o _ S8 q8 z8 0 ⟨1,n8,n8,sNone⟩ _ an.out.fst aq.out (zp0 an.out)).mono ?_
 rintro e aP ⟨aR,aO,aS,rfl,aF,aH,ac⟩
 replace h:=zc (h.out.stp ac)
 replace j:=zc (j.out.stp ac)
 replace ak:=zc (ak.out.stp ac)
 have au:=zc (aI.out.step ac)
 clear aI
 have aD:=zc aH
 have ar:=zc aF
 clear aF aH ac aq
 clear c0 c1 c2 c3 c4 c5 c6 c7 c8 c9 aL aK cf
 obtain⟨b0,b1,b2,b3,b4,b5,b6,b7,b8,b9,aQ,aN,bf⟩:=j.out.box
 unfold pv
 go_wp2
 refine bodyPost_ret (results_cell_row rfl _ _ (w.heap.size+1) 53 _ (0,0) _ rfl ((j.out.put ..)).heap Tryz.underlying53 rfl (by kernel_rfl)) rfl ?_
 rw[HV.out,←HQ.out,←an.out.bind (fun q n=>zn C ⟨1,n,n,sNone⟩ q)]
 exact zW rfl ar.out (aD.out.put j.out ..) (au.out.put (by omega) ..)
theorem zp7 (C:Cx) (M A n:Nat) (S:Sv) (q:PS) (w:World) (hm:Mem C M A n S q w) (hw:isT C q.pos 1 zad=true) (h1:isT C (q.pos+1) 4 zF=false) (h2:isT C (q.pos+1) 4 zv=false) (h3:isT C (q.pos+1) 1 sDefault=false) (h4:isT C (q.pos+1) 1 zA=false) (h5:isT C (q.pos+1) 1 zO=false):
  Calls Tryz.prog 71 #[pv C M A S q (-1) 0] w (Out C M A n (zaf C q) 0 S w):=by
 have HM:=zc hm
 have D:=hm.few
 clear hm
 have HV:Hid (zaf C q= .error (zq C (adv q).pos)):=by
  show _=_
  rw[zaf,zd,if_pos hw,zx]
  rw[zw,h1,h2,h3,h4,h5]
  rfl
 unfold pv
 go_enter Tryz.func71,Tryz.ntmps71
 go_wp2_with fail
 refine (zaC C M A n (.ok q) S q (-1) 0 zad _ (zU q) ((HM.out.alloc _).alloc _)).mono ?_
 rintro e w1 ⟨S1,q1,z1,rfl,i1,m1,s1⟩
 obtain⟨X0,X1,t1⟩:=HM.out.two2 s1
 have h:=zc X0
 have j:=zc X1
 have au:=zc m1
 have aw:=zc t1
 have aq:=zc i1
 clear X0 X1 i1 m1 t1 s1
 obtain⟨ai,rfl⟩:=zcF aq.out hw
 have HQ:=zc ai
 have K:Hid (q1.pos=q.pos+1):=by show q1.pos=q.pos+1;rw[ai];rfl
 clear ai aq
 obtain⟨J,X,L,H,E,N,I,O,V,U,o,z,Y⟩:=h.out.box
 unfold pv
 go_upto_region 2 with fail
 refine zJ (R:=fun W=>Bx M S1 W (w.heap.size) _∧Bx M S1 W (w.heap.size+1) _∧Mem C M A n S1 q1 W∧SB w.heap.size S w S1 W) ⟨(h.out.put ..),(j.out.other (by omega) ..),(au.out.put h.out ..),(aw.out.put (by omega) ..)⟩ ?_
 clear J X L H E N I O V U o z Y
 clear h j aw au
 rintro w2 ⟨X0,X1,m2,t2⟩
 have h:=zc X0
 have j:=zc X1
 have ag:=zc m2
 have ar:=zc t2
 clear m2 t2 X0 X1
 obtain⟨J,X,L,H,E,N,I,O,V,U,o,z,Y⟩:=h.out.box
 go_wp2_with fail
 refine (zg C M A n S1 q1 (-1) 0 4 zF _ ag.out.tok D (by decide)).mono ?_
 rintro e w3 ⟨rfl,ab⟩
 rw[K.out,h1]
 replace h:=zc (h.out.below ab)
 replace j:=zc (j.out.below ab)
 have ap:=zc (ar.out.below ab)
 have ah:=zc (ag.out.later ab)
 clear ab ar ag
 clear J X L H E N I O V U o z Y
 obtain⟨J,X,L,H,E,N,I,O,V,U,o,z,Y⟩:=h.out.box
 go_wp2_with fail
 refine (zg C M A n S1 q1 (-1) 0 4 zv _ ah.out.tok D (by decide)).mono ?_
 rintro e w4 ⟨rfl,ac⟩
 rw[K.out,h2]
 replace h:=zc (h.out.below ac)
 replace j:=zc (j.out.below ac)
 have ax:=zc (ap.out.below ac)
 have al:=zc (ah.out.later ac)
 clear ac ap ah
 clear J X L H E N I O V U o z Y
 obtain⟨J,X,L,H,E,N,I,O,V,U,o,z,Y⟩:=h.out.box
 go_wp2_with fail
 refine (zg C M A n S1 q1 (-1) 0 1 sDefault _ al.out.tok D (by decide)).mono ?_
 rintro e w5 ⟨rfl,aa⟩
 rw[K.out,h3]
 replace h:=zc (h.out.below aa)
 replace j:=zc (j.out.below aa)
 have an:=zc (ax.out.below aa)
 have aj:=zc (al.out.later aa)
 clear aa ax al
 clear J X L H E N I O V U o z Y
 obtain⟨J,X,L,H,E,N,I,O,V,U,o,z,Y⟩:=h.out.box
 go_wp2_with fail
 refine (zg C M A n S1 q1 (-1) 0 1 zA _ aj.out.tok D (by decide)).mono ?_
 rintro e w6 ⟨rfl,ae⟩
 rw[K.out,h4]
 replace h:=zc (h.out.below ae)
 replace j:=zc (j.out.below ae)
 have ao:=zc (an.out.below ae)
 have am:=zc (aj.out.later ae)
 clear ae an aj
 clear J X L H E N I O V U o z Y
 obtain⟨J,X,L,H,E,N,I,O,V,U,o,z,Y⟩:=h.out.box
 go_wp2_with fail
 refine (zg C M A n S1 q1 (-1) 0 1 zO _ am.out.tok D (by decide)).mono ?_
 rintro e w7 ⟨rfl,ad⟩
 rw[K.out,h5]
 replace h:=zc (h.out.below ad)
 replace j:=zc (j.out.below ad)
 have av:=zc (ao.out.below ad)
 have ak:=zc (am.out.later ad)
 clear ad ao am
 clear J X L H E N I O V U o z Y
 obtain⟨J,X,L,H,E,N,I,O,V,U,o,z,Y⟩:=h.out.box
 clear K
 go_wp2_with fail
 refine (zcL C M A n S1 q1 (-1) 0 _ ak.out.tok D).mono ?_
 rintro e w8 ⟨rfl,Z⟩
 replace h:=zc (h.out.below Z)
 replace j:=zc (j.out.below Z)
 have az:=zc (av.out.below Z)
 have ay:=zc (ak.out.later Z)
 clear Z av ak
 clear J X L H E N I O V U o z Y
 obtain⟨b0,b1,b2,b3,b4,b5,b6,b7,b8,b9,aB,aA,bf⟩:=j.out.box
 unfold pv
 go_wp2
 refine bodyPost_ret (results_cell_row rfl _ _ (w.heap.size+1) 53 _ (0,0) _ rfl ((j.out.put ..)).heap Tryz.underlying53 rfl (by kernel_rfl)) rfl ?_
 rw[HV.out,←HQ.out]
 exact zW rfl (show Is (.error (zq C q1.pos)) q1 _ from rfl) (ay.out.put j.out ..) (az.out.put (by omega) ..)
theorem zp8 (C:Cx) (H D n:Nat) (S:Sv) (q:PS) (w:World) (hm:Mem C H D n S q w) (hw:isT C q.pos 1 zad=true) (h1:isT C (q.pos+1) 4 zF=true):
  Calls Tryz.prog 71 #[pv C H D S q (-1) 0] w (Out C H D n (zaf C q) 0 S w):=by
 have HM:=zc hm
 have aH:=hm.few
 clear hm
 have HV:Hid (zaf C q=bd (zcz C true (adv q)) fun a=>if !za5 a.2&& !isT C a.1.pos 1 zP then bd (zd C 4 cSemi a.1) fun q=>zR (fun e=>zn C (zz e)) a.2 (.ok q) else bd (zaQ C (zaA C (.ok a.1))) fun b=>zR (fun e=>zn C (zal b.2 e)) a.2 (.ok b.1)):=by
  show _=_
  rw[zaf,zd,if_pos hw,zx]
  rw[zw,h1]
  rfl
 unfold pv
 go_enter Tryz.func71,Tryz.ntmps71
 go_wp2_with fail
 refine (zaC C H D n (.ok q) S q (-1) 0 zad _ (zU q) ((HM.out.alloc _).alloc _)).mono ?_
 rintro e w1 ⟨S1,q1,z1,rfl,i1,m1,s1⟩
 obtain⟨X,V,t1⟩:=HM.out.two2 s1
 have h:=zc X
 have o:=zc V
 have bg:=zc m1
 have bi:=zc t1
 have aX:=zc i1
 clear X V i1 m1 t1 s1
 obtain⟨aP,rfl⟩:=zcF aX.out hw
 have HQ:=zc aP
 have aW:Hid (q1.pos=q.pos+1):=by show q1.pos=q.pos+1;rw[aP];rfl
 clear aP aX
 obtain⟨a0,a1,a2,a3,a4,a5,a6,a7,a8,a9,K,L,af⟩:=h.out.box
 unfold pv
 go_upto_region 2 with fail
 refine zJ (R:=fun W=>Bx H S1 W (w.heap.size) _∧Bx H S1 W (w.heap.size+1) _∧Mem C H D n S1 q1 W∧SB w.heap.size S w S1 W) ⟨(h.out.put ..),(o.out.other (by omega) ..),(bg.out.put h.out ..),(bi.out.put (by omega) ..)⟩ ?_
 clear a0 a1 a2 a3 a4 a5 a6 a7 a8 a9 K L af
 clear h o bi bg
 rintro w2 ⟨X,V,m2,t2⟩
 have h:=zc X
 have o:=zc V
 have aO:=zc m2
 have ba:=zc t2
 clear m2 t2 X V
 have aN:Hid (zaf C q=bd (zcz C true q1) fun a=>if !za5 a.2&& !isT C a.1.pos 1 zP then bd (zd C 4 cSemi a.1) fun q=>zR (fun e=>zn C (zz e)) a.2 (.ok q) else bd (zaQ C (zaA C (.ok a.1))) fun b=>zR (fun e=>zn C (zal b.2 e)) a.2 (.ok b.1)):=by show _=_;rw[HQ.out];exact HV.out
 obtain⟨a0,a1,a2,a3,a4,a5,a6,a7,a8,a9,K,L,af⟩:=h.out.box
 go_wp2_with fail
 refine (zg C H D n S1 q1 (-1) 0 4 zF _ aO.out.tok aH (by decide)).mono ?_
 rintro e w3 ⟨rfl,aI⟩
 rw[aW.out,h1]
 replace h:=zc (h.out.below aI)
 replace o:=zc (o.out.below aI)
 have aQ:=zc (ba.out.below aI)
 have aV:=zc (aO.out.later aI)
 clear aI ba aO
 clear a0 a1 a2 a3 a4 a5 a6 a7 a8 a9 K L af
 obtain⟨a0,a1,a2,a3,a4,a5,a6,a7,a8,a9,K,L,af⟩:=h.out.box
 clear aW
 have bk:=aQ.out.size
 go_wp2_with fail
 refine (ziZ C H D n S1 q1 0 true _ aV.out).mono ?_
 rintro e w4 ⟨S4,q4,z4,⟨ra,rc⟩,l,rfl,i4,m4,s4,R0,hl⟩
 obtain⟨g,rfl⟩: ∃g,ra=some ⟨g,0,none⟩:=R0.addr
 replace h:=zc (h.out.stp s4)
 replace o:=zc (o.out.stp s4)
 have aZ:=zc (aQ.out.step s4)
 clear aQ
 have aR:=zc m4
 have ap:=zc i4
 clear i4 m4 s4 aV
 clear a0 a1 a2 a3 a4 a5 a6 a7 a8 a9 K L af
 have A:Hid (Row S4 w4 n w.heap.size ⟨some ⟨g,0,none⟩,rc⟩ l):=⟨R0.own,R0.free,fun k hk=>Nat.le_trans bk (R0.new k hk),R0.addr⟩
 clear R0
 have bl:w.heap.size+1<w4.heap.size:=o.out.lt
 unfold pv
 go_upto_region 4 with fail
 refine zJ (R:=fun W=>Bx H S4 W (w.heap.size) _∧Bx H S4 W (w.heap.size+1) _∧Bx H S4 W (w4.heap.size) _∧Row S4 W n w.heap.size ⟨some ⟨g,0,none⟩,rc⟩ l∧Mem C H D n S4 q4 W∧SB w.heap.size S w S4 W) ⟨(h.out.alloc _),(o.out.alloc _),(Bx.new aR.out _),(A.out.alloc _),(aR.out.alloc _),(aZ.out.alloc _)⟩ ?_
 clear h o aZ aR
 clear A
 rintro w5 ⟨X,V,X2,R0,m5,t5⟩
 have A:=zc R0
 clear R0
 have h:=zc X
 have o:=zc V
 have z:=zc X2
 have ay:=zc m5
 have aF:=zc t5
 clear m5 t5 X V X2
 cases hA:za5 l with
 |true=>
  skip
  obtain⟨c0,c1,c2,c3,c4,c5,c6,c7,c8,c9,am,ah,cf⟩:=z.out.box
  go_wp2_with fail
  refine (zaC C H D n _ S4 q4 z4 0 zP _ ap.out.fst ay.out).mono ?_
  rintro e w6 ⟨S6,q6,z6,rfl,i6,m6,s6⟩
  replace h:=zc (h.out.stp s6)
  replace o:=zc (o.out.stp s6)
  replace z:=zc (z.out.stp s6)
  have ax:=zc (aF.out.step s6)
  have J:Hid (Row S6 w6 n w.heap.size ⟨some ⟨g,0,none⟩,rc⟩ l):=A.out.stp s6
  clear A
  have A:=zc J
  clear J
  clear aF
  have aC:=zc m6
  have bj:=zc i6
  clear i6 m6 s6 ay
  clear c0 c1 c2 c3 c4 c5 c6 c7 c8 c9 am ah cf
  go_wp2_with fail
  refine (zdy C H D n _ S6 q6 z6 0 _ bj.out aC.out).mono ?_
  rintro e w7 ⟨S7,q7,z7,n7,rfl,i7,m7,s7⟩
  replace h:=zc (h.out.stp s7)
  replace o:=zc (o.out.stp s7)
  replace z:=zc (z.out.stp s7)
  have aB:=zc (ax.out.step s7)
  have J:Hid (Row S7 w7 n w.heap.size ⟨some ⟨g,0,none⟩,rc⟩ l):=A.out.stp s7
  clear A
  have A:=zc J
  clear J
  clear ax
  have al:=zc m7
  have aD:=zc i7
  clear i7 m7 s7 aC
  have bc:w.heap.size+1<w7.heap.size:=o.out.lt
  have aK:w4.heap.size<w7.heap.size:=z.out.lt
  unfold pv
  go_upto_region 12 with fail
  refine zJ (R:=fun W=>Bx H S7 W (w.heap.size) _∧Bx H S7 W (w.heap.size+1) _∧Bx H S7 W (w4.heap.size) _∧Bx H S7 W (w7.heap.size) _∧Row S7 W n w.heap.size ⟨some ⟨g,0,none⟩,rc⟩ l∧Mem C H D n S7 q7 W∧SB w.heap.size S w S7 W) ⟨(h.out.alloc _),(o.out.alloc _),(z.out.alloc _),(Bx.new al.out _),(A.out.alloc _),(al.out.alloc _),(aB.out.alloc _)⟩ ?_
  clear h o z aB al
  clear A
  rintro w8 ⟨X,V,X2,X3,R0,m8,t8⟩
  have A:=zc R0
  clear R0
  have h:=zc X
  have o:=zc V
  have z:=zc X2
  have Z:=zc X3
  have ak:=zc m8
  have aA:=zc t8
  clear m8 t8 X V X2 X3
  obtain⟨d0,d1,d2,d3,d4,d5,d6,d7,d8,d9,ai,aj,df⟩:=Z.out.box
  go_wp2_with fail
  refine (zab C H D n _ S7 q7 z7 0 cSemi _ aD.out.fst ak.out).mono ?_
  rintro e w9 ⟨S9,q9,z9,rfl,i9,m9,s9⟩
  replace h:=zc (h.out.stp s9)
  replace o:=zc (o.out.stp s9)
  replace z:=zc (z.out.stp s9)
  replace Z:=zc (Z.out.stp s9)
  have ae:=zc (aA.out.step s9)
  have J:Hid (Row S9 w9 n w.heap.size ⟨some ⟨g,0,none⟩,rc⟩ l):=A.out.stp s9
  clear A
  have A:=zc J
  clear J
  clear aA
  have ab:=zc m9
  have ac:=zc i9
  clear i9 m9 s9 ak
  clear d0 d1 d2 d3 d4 d5 d6 d7 d8 d9 ai aj df
  obtain⟨a0,a1,a2,a3,a4,a5,a6,a7,a8,a9,K,L,af⟩:=h.out.box
  unfold pv
  go_upto_region 13 with fail
  refine zJ (R:=fun W=>Bx H S9 W (w.heap.size) _∧Bx H S9 W (w.heap.size+1) _∧Bx H S9 W (w4.heap.size) _∧Bx H S9 W (w7.heap.size) _∧Row S9 W n w.heap.size ⟨some ⟨g,0,none⟩,rc⟩ l∧Mem C H D n S9 q9 W∧SB w.heap.size S w S9 W) ⟨(h.out.put ..),(o.out.other (by omega) ..),(z.out.other (by omega) ..),(Z.out.other (by omega) ..),(A.out.put h.out ..),(ab.out.put h.out ..),(ae.out.put (by omega) ..)⟩ ?_
  clear a0 a1 a2 a3 a4 a5 a6 a7 a8 a9 K L af
  clear h o z Z ae ab
  clear A
  rintro ao ⟨X,V,X2,X3,R0,ad,aT⟩
  have A:=zc R0
  clear R0
  have h:=zc X
  have o:=zc V
  have z:=zc X2
  have Z:=zc X3
  have U:=zc ad
  have au:=zc aT
  clear ad aT X V X2 X3
  have aJ:Hid (_=zaf C q):=(zg3 (G:=fun b e=>zn C (zal b e)) ap.out aD.out).trans ((zjq ap.out (.inl hA)).trans aN.out.symm)
  go_wp2
  go_loopg [9] l.length (fun k i wr=>∃(j:Nat) (x':PR) (I:Sv) (Y:PS) (z':Int),j≤l.length∧i= .int .i64 j∧Is x' Y z'∧(z'<0→1≤Y.pos)∧zR (fun e=>zn C (zal n7 e)) (l.drop j) x'=zaf C q∧l.length-j=k∧Mem C H D n I Y wr∧SB w.heap.size S w I wr∧Bx H I wr w.heap.size #[.slice (some ⟨H,0,none⟩) C.ts.length D,.int .i64 Y.pos,.int .i64 C.fin,.bool C.scr,.slice I.rq.a Y.rq.length I.rq.cap,.slice I.im.a Y.im.length I.im.cap,.slice I.ep.a Y.ep.length I.ep.cap,.slice I.st.a Y.st.length I.st.cap,.slice I.ex.a Y.ex.length I.ex.cap,.slice I.la.a Y.la.length I.la.cap,.int .i64 z',.int .i64 0]∧Bx H I wr (w.heap.size+1) #[.slice none 0 0,.int .i64 0,.int .i64 0,.bool false,.slice none 0 0,.slice none 0 0,.slice none 0 0,.slice none 0 0,.slice none 0 0,.slice none 0 0,.int .i64 0,.int .i64 0]∧Row I wr n w.heap.size ⟨some ⟨g,0,none⟩,rc⟩ l)
  case atStart=>exact⟨0,_,S9,q9,z9,Nat.zero_le _,rfl,ac.out,zaZ ac.out,aJ.out,rfl,U.out,au.out,h.out,o.out,A.out⟩
  case round=>
   obtain⟨j,x9,S9,q9,z9,hj,rfl,i9,p9,e9,g9,m9,t9,X,V,R0⟩:=hrel
   clear h o z Z A U au
   have h:=zc X
   have o:=zc V
   have ab:=zc m9
   have ae:=zc t9
   have ac:=zc i9
   have aw:=zc p9
   have aq:=zc e9
   have av:=zc g9
   have A:=zc R0
   clear X V i9 m9 t9 e9 g9 R0 p9
   by_cases az:j<l.length
   ·skip
    obtain⟨c1,c2⟩:=A.out.cells (g:=g) rfl az
    have aS:=A.out.own.lt (g:=g) rfl
    have HX:Hid (∀e,e=l[j]→zR (fun e=>zn C (zal n7 e)) (l.drop (j+1)) (bd x9 (zn C (zal n7 e)))=zaf C q):=fun e he=>by rw[he,←aq.out];exact (zf2 (fun e=>zn C (zal n7 e)) l x9 az).symm
    generalize ar:l[j]=el at c1 c2
    have aG:Hid (el=l[j]):=ar.symm
    clear ar
    obtain⟨a0,a1,a2,a3,a4,a5,a6,a7,a8,a9,K,L,af⟩:=h.out.box
    go_upto_region 16 with fail
    go_region_law (first|(go_simp;go_wp2_with (go_at_call 134;refine (zdn C H D n x9 S9 q9 z9 0 (zal n7 el) _ ac.out ab.out.drew aw.out).mono ?_;rintro e ao ⟨N,an,aE,rfl,ag,ad,M⟩;obtain⟨d0,d1,d2,d3,d4,d5,d6,d7,d8,d9,ai,aj,df⟩:=(h.out.stp M.undrew).box;unfold pv)))
    all_goals
     clear a0 a1 a2 a3 a4 a5 a6 a7 a8 a9 K L af d0 d1 d2 d3 d4 d5 d6 d7 d8 d9 ai aj df
     have O:=zc ag
     have U:=zc ad
     have E:Hid (Stp S9 wr N ao):=M.undrew
     clear ag ad M
     go_wp2
     go_roundg (gk-1)
     case rel=>exact⟨j+1,_,N,an,aE,by omega,by go_num,O.out,zg4 aw.out ac.out O.out,HX.out el aG.out,by have:=av.out;omega,U.out.put (h.out.stp E.out) _ _ _ _ _ _ _ _ _ _ _ _,(ae.out.step E.out).put (by omega) _ _ _ _ _ _ _ _ _ _ _ _,(h.out.stp E.out).put _ _ _ _ _ _ _ _ _ _ _ _,(o.out.stp E.out).other (by omega) _ _ _ _ _ _ _ _ _ _ _ _,(A.out.stp E.out).put (h.out.stp E.out) _ _ _ _ _ _ _ _ _ _ _ _⟩
     case measure=>have:=av.out;omega
   ·skip
    obtain⟨a0,a1,a2,a3,a4,a5,a6,a7,a8,a9,K,L,af⟩:=h.out.box
    obtain⟨b0,b1,b2,b3,b4,b5,b6,b7,b8,b9,aY,aU,bf⟩:=o.out.box
    go_wp2
    refine bodyPost_ret (results_cell_row rfl _ _ (w.heap.size+1) 53 _ (0,0) _ rfl ((o.out.put ..)).heap Tryz.underlying53 rfl (by kernel_rfl)) rfl ?_
    exact zW rfl (show Is (zaf C q) q9 z9 from by rw[←aq.out,List.drop_eq_nil_of_le (by omega)];exact ac.out) (ab.out.put o.out ..) (ae.out.put (by omega) ..)
 |false=>
  cases hF:(decide (z4<0)&&isT C q4.pos 1 zP) with
  |true=>
   obtain⟨c0,c1,c2,c3,c4,c5,c6,c7,c8,c9,am,ah,cf⟩:=z.out.box
   go_wp2_with fail
   refine (zg C H D n S4 q4 z4 0 1 zP _ ay.out.tok aH (by decide)).mono ?_
   rintro e w6 ⟨rfl,aa⟩
   rw[hF]
   replace h:=zc (h.out.below aa)
   replace o:=zc (o.out.below aa)
   replace z:=zc (z.out.below aa)
   have ax:=zc (aF.out.below aa)
   have aC:=zc (ay.out.later aa)
   have J:Hid (Row S4 w6 n w.heap.size ⟨some ⟨g,0,none⟩,rc⟩ l):=A.out.below aa
   clear A
   have A:=zc J
   clear J
   clear aa aF ay
   clear c0 c1 c2 c3 c4 c5 c6 c7 c8 c9 am ah cf
   obtain⟨c0,c1,c2,c3,c4,c5,c6,c7,c8,c9,am,ah,cf⟩:=z.out.box
   go_wp2_with fail
   refine (zaC C H D n _ S4 q4 z4 0 zP _ ap.out.fst aC.out).mono ?_
   rintro e w7 ⟨S7,q7,z7,rfl,i7,m7,s7⟩
   replace h:=zc (h.out.stp s7)
   replace o:=zc (o.out.stp s7)
   replace z:=zc (z.out.stp s7)
   have aB:=zc (ax.out.step s7)
   have J:Hid (Row S7 w7 n w.heap.size ⟨some ⟨g,0,none⟩,rc⟩ l):=A.out.stp s7
   clear A
   have A:=zc J
   clear J
   clear ax
   have al:=zc m7
   have aD:=zc i7
   clear i7 m7 s7 aC
   clear c0 c1 c2 c3 c4 c5 c6 c7 c8 c9 am ah cf
   go_wp2_with fail
   refine (zdy C H D n _ S7 q7 z7 0 _ aD.out al.out).mono ?_
   rintro e w8 ⟨S8,q8,z8,n8,rfl,i8,m8,s8⟩
   replace h:=zc (h.out.stp s8)
   replace o:=zc (o.out.stp s8)
   replace z:=zc (z.out.stp s8)
   have aA:=zc (aB.out.step s8)
   have J:Hid (Row S8 w8 n w.heap.size ⟨some ⟨g,0,none⟩,rc⟩ l):=A.out.stp s8
   clear A
   have A:=zc J
   clear J
   clear aB
   have ak:=zc m8
   have be:=zc i8
   clear i8 m8 s8 al
   have bc:w.heap.size+1<w8.heap.size:=o.out.lt
   have aK:w4.heap.size<w8.heap.size:=z.out.lt
   unfold pv
   go_upto_region 12 with fail
   refine zJ (R:=fun W=>Bx H S8 W (w.heap.size) _∧Bx H S8 W (w.heap.size+1) _∧Bx H S8 W (w4.heap.size) _∧Bx H S8 W (w8.heap.size) _∧Row S8 W n w.heap.size ⟨some ⟨g,0,none⟩,rc⟩ l∧Mem C H D n S8 q8 W∧SB w.heap.size S w S8 W) ⟨(h.out.alloc _),(o.out.alloc _),(z.out.alloc _),(Bx.new ak.out _),(A.out.alloc _),(ak.out.alloc _),(aA.out.alloc _)⟩ ?_
   clear h o z aA ak
   clear A
   rintro w9 ⟨X,V,X2,X3,R0,m9,t9⟩
   have A:=zc R0
   clear R0
   have h:=zc X
   have o:=zc V
   have z:=zc X2
   have Z:=zc X3
   have ab:=zc m9
   have ae:=zc t9
   clear m9 t9 X V X2 X3
   obtain⟨d0,d1,d2,d3,d4,d5,d6,d7,d8,d9,ai,aj,df⟩:=Z.out.box
   go_wp2_with fail
   refine (zab C H D n _ S8 q8 z8 0 cSemi _ be.out.fst ab.out).mono ?_
   rintro e ao ⟨N,an,aE,rfl,ag,ad,M⟩
   replace h:=zc (h.out.stp M)
   replace o:=zc (o.out.stp M)
   replace z:=zc (z.out.stp M)
   replace Z:=zc (Z.out.stp M)
   have au:=zc (ae.out.step M)
   have J:Hid (Row N ao n w.heap.size ⟨some ⟨g,0,none⟩,rc⟩ l):=A.out.stp M
   clear A
   have A:=zc J
   clear J
   clear ae
   have U:=zc ad
   have O:=zc ag
   clear ag ad M ab
   clear d0 d1 d2 d3 d4 d5 d6 d7 d8 d9 ai aj df
   obtain⟨a0,a1,a2,a3,a4,a5,a6,a7,a8,a9,K,L,af⟩:=h.out.box
   unfold pv
   go_upto_region 13 with fail
   refine zJ (R:=fun W=>Bx H N W (w.heap.size) _∧Bx H N W (w.heap.size+1) _∧Bx H N W (w4.heap.size) _∧Bx H N W (w8.heap.size) _∧Row N W n w.heap.size ⟨some ⟨g,0,none⟩,rc⟩ l∧Mem C H D n N an W∧SB w.heap.size S w N W) ⟨(h.out.put ..),(o.out.other (by omega) ..),(z.out.other (by omega) ..),(Z.out.other (by omega) ..),(A.out.put h.out ..),(U.out.put h.out ..),(au.out.put (by omega) ..)⟩ ?_
   clear a0 a1 a2 a3 a4 a5 a6 a7 a8 a9 K L af
   clear h o z Z au U
   clear A
   rintro bm ⟨X,V,X2,X3,R0,bh,bb⟩
   have A:=zc R0
   clear R0
   have h:=zc X
   have o:=zc V
   have z:=zc X2
   have Z:=zc X3
   have aM:=zc bh
   have aL:=zc bb
   clear bh bb X V X2 X3
   have aJ:Hid (_=zaf C q):=(zg3 (G:=fun b e=>zn C (zal b e)) ap.out be.out).trans ((zjq ap.out (.inr hF)).trans aN.out.symm)
   go_wp2
   go_loopg [9] l.length (fun k i wr=>∃(j:Nat) (x':PR) (I:Sv) (Y:PS) (z':Int),j≤l.length∧i= .int .i64 j∧Is x' Y z'∧(z'<0→1≤Y.pos)∧zR (fun e=>zn C (zal n8 e)) (l.drop j) x'=zaf C q∧l.length-j=k∧Mem C H D n I Y wr∧SB w.heap.size S w I wr∧Bx H I wr w.heap.size #[.slice (some ⟨H,0,none⟩) C.ts.length D,.int .i64 Y.pos,.int .i64 C.fin,.bool C.scr,.slice I.rq.a Y.rq.length I.rq.cap,.slice I.im.a Y.im.length I.im.cap,.slice I.ep.a Y.ep.length I.ep.cap,.slice I.st.a Y.st.length I.st.cap,.slice I.ex.a Y.ex.length I.ex.cap,.slice I.la.a Y.la.length I.la.cap,.int .i64 z',.int .i64 0]∧Bx H I wr (w.heap.size+1) #[.slice none 0 0,.int .i64 0,.int .i64 0,.bool false,.slice none 0 0,.slice none 0 0,.slice none 0 0,.slice none 0 0,.slice none 0 0,.slice none 0 0,.int .i64 0,.int .i64 0]∧Row I wr n w.heap.size ⟨some ⟨g,0,none⟩,rc⟩ l)
   case atStart=>exact⟨0,_,N,an,aE,Nat.zero_le _,rfl,O.out,zaZ O.out,aJ.out,rfl,aM.out,aL.out,h.out,o.out,A.out⟩
   case round=>
    obtain⟨j,x9,S9,q9,z9,hj,rfl,i9,p9,e9,g9,m9,t9,X,V,R0⟩:=hrel
    clear h o z Z A aM aL
    have h:=zc X
    have o:=zc V
    have ab:=zc m9
    have ae:=zc t9
    have ac:=zc i9
    have aw:=zc p9
    have aq:=zc e9
    have av:=zc g9
    have A:=zc R0
    clear X V i9 m9 t9 e9 g9 R0 p9
    by_cases az:j<l.length
    ·skip
     obtain⟨c1,c2⟩:=A.out.cells (g:=g) rfl az
     have aS:=A.out.own.lt (g:=g) rfl
     have HX:Hid (∀e,e=l[j]→zR (fun e=>zn C (zal n8 e)) (l.drop (j+1)) (bd x9 (zn C (zal n8 e)))=zaf C q):=fun e he=>by rw[he,←aq.out];exact (zf2 (fun e=>zn C (zal n8 e)) l x9 az).symm
     generalize ar:l[j]=el at c1 c2
     have aG:Hid (el=l[j]):=ar.symm
     clear ar
     obtain⟨a0,a1,a2,a3,a4,a5,a6,a7,a8,a9,K,L,af⟩:=h.out.box
     go_upto_region 16 with fail
     go_region_law (first|(go_simp;go_wp2_with (go_at_call 134;refine (zdn C H D n x9 S9 q9 z9 0 (zal n8 el) _ ac.out ab.out.drew aw.out).mono ?_;rintro e ao ⟨N,an,aE,rfl,ag,ad,M⟩;obtain⟨d0,d1,d2,d3,d4,d5,d6,d7,d8,d9,ai,aj,df⟩:=(h.out.stp M.undrew).box;unfold pv)))
     all_goals
      clear a0 a1 a2 a3 a4 a5 a6 a7 a8 a9 K L af d0 d1 d2 d3 d4 d5 d6 d7 d8 d9 ai aj df
      have O:=zc ag
      have U:=zc ad
      have E:Hid (Stp S9 wr N ao):=M.undrew
      clear ag ad M
      go_wp2
      go_roundg (gk-1)
      case rel=>exact⟨j+1,_,N,an,aE,by omega,by go_num,O.out,zg4 aw.out ac.out O.out,HX.out el aG.out,by have:=av.out;omega,U.out.put (h.out.stp E.out) _ _ _ _ _ _ _ _ _ _ _ _,(ae.out.step E.out).put (by omega) _ _ _ _ _ _ _ _ _ _ _ _,(h.out.stp E.out).put _ _ _ _ _ _ _ _ _ _ _ _,(o.out.stp E.out).other (by omega) _ _ _ _ _ _ _ _ _ _ _ _,(A.out.stp E.out).put (h.out.stp E.out) _ _ _ _ _ _ _ _ _ _ _ _⟩
      case measure=>have:=av.out;omega
    ·skip
     obtain⟨a0,a1,a2,a3,a4,a5,a6,a7,a8,a9,K,L,af⟩:=h.out.box
     obtain⟨b0,b1,b2,b3,b4,b5,b6,b7,b8,b9,aY,aU,bf⟩:=o.out.box
     go_wp2
     refine bodyPost_ret (results_cell_row rfl _ _ (w.heap.size+1) 53 _ (0,0) _ rfl ((o.out.put ..)).heap Tryz.underlying53 rfl (by kernel_rfl)) rfl ?_
     exact zW rfl (show Is (zaf C q) q9 z9 from by rw[←aq.out,List.drop_eq_nil_of_le (by omega)];exact ac.out) (ab.out.put o.out ..) (ae.out.put (by omega) ..)
  |false=>
   obtain⟨c0,c1,c2,c3,c4,c5,c6,c7,c8,c9,am,ah,cf⟩:=z.out.box
   go_wp2_with fail
   refine (zg C H D n S4 q4 z4 0 1 zP _ ay.out.tok aH (by decide)).mono ?_
   rintro e w6 ⟨rfl,aa⟩
   rw[hF]
   replace h:=zc (h.out.below aa)
   replace o:=zc (o.out.below aa)
   replace z:=zc (z.out.below aa)
   have ax:=zc (aF.out.below aa)
   have aC:=zc (ay.out.later aa)
   have J:Hid (Row S4 w6 n w.heap.size ⟨some ⟨g,0,none⟩,rc⟩ l):=A.out.below aa
   clear A
   have A:=zc J
   clear J
   clear aa aF ay
   clear c0 c1 c2 c3 c4 c5 c6 c7 c8 c9 am ah cf
   obtain⟨c0,c1,c2,c3,c4,c5,c6,c7,c8,c9,am,ah,cf⟩:=z.out.box
   go_wp2_with fail
   refine (zab C H D n _ S4 q4 z4 0 cSemi _ ap.out.fst aC.out).mono ?_
   rintro e w7 ⟨S7,q7,z7,rfl,i7,m7,s7⟩
   replace h:=zc (h.out.stp s7)
   replace o:=zc (o.out.stp s7)
   replace z:=zc (z.out.stp s7)
   have aB:=zc (ax.out.step s7)
   have J:Hid (Row S7 w7 n w.heap.size ⟨some ⟨g,0,none⟩,rc⟩ l):=A.out.stp s7
   clear A
   have A:=zc J
   clear J
   clear ax
   have al:=zc m7
   have aD:=zc i7
   clear i7 m7 s7 aC
   clear c0 c1 c2 c3 c4 c5 c6 c7 c8 c9 am ah cf
   obtain⟨a0,a1,a2,a3,a4,a5,a6,a7,a8,a9,K,L,af⟩:=h.out.box
   unfold pv
   go_upto_region 6 with fail
   refine zJ (R:=fun W=>Bx H S7 W (w.heap.size) _∧Bx H S7 W (w.heap.size+1) _∧Bx H S7 W (w4.heap.size) _∧Row S7 W n w.heap.size ⟨some ⟨g,0,none⟩,rc⟩ l∧Mem C H D n S7 q7 W∧SB w.heap.size S w S7 W) ⟨(h.out.put ..),(o.out.other (by omega) ..),(z.out.other (by omega) ..),(A.out.put h.out ..),(al.out.put h.out ..),(aB.out.put (by omega) ..)⟩ ?_
   clear a0 a1 a2 a3 a4 a5 a6 a7 a8 a9 K L af
   clear h o z aB al
   clear A
   rintro w8 ⟨X,V,X2,R0,m8,t8⟩
   have A:=zc R0
   clear R0
   have h:=zc X
   have o:=zc V
   have z:=zc X2
   have ak:=zc m8
   have aA:=zc t8
   clear m8 t8 X V X2
   have aJ:Hid (_=zaf C q):=(zp2 ap.out hA hF).trans aN.out.symm
   go_wp2
   go_loopg [6] l.length (fun k i wr=>∃(j:Nat) (x':PR) (I:Sv) (Y:PS) (z':Int),j≤l.length∧i= .int .i64 j∧Is x' Y z'∧(z'<0→1≤Y.pos)∧zR (fun e=>zn C (zz e)) (l.drop j) x'=zaf C q∧l.length-j=k∧Mem C H D n I Y wr∧SB w.heap.size S w I wr∧Bx H I wr w.heap.size #[.slice (some ⟨H,0,none⟩) C.ts.length D,.int .i64 Y.pos,.int .i64 C.fin,.bool C.scr,.slice I.rq.a Y.rq.length I.rq.cap,.slice I.im.a Y.im.length I.im.cap,.slice I.ep.a Y.ep.length I.ep.cap,.slice I.st.a Y.st.length I.st.cap,.slice I.ex.a Y.ex.length I.ex.cap,.slice I.la.a Y.la.length I.la.cap,.int .i64 z',.int .i64 0]∧Bx H I wr (w.heap.size+1) #[.slice none 0 0,.int .i64 0,.int .i64 0,.bool false,.slice none 0 0,.slice none 0 0,.slice none 0 0,.slice none 0 0,.slice none 0 0,.slice none 0 0,.int .i64 0,.int .i64 0]∧Row I wr n w.heap.size ⟨some ⟨g,0,none⟩,rc⟩ l)
   case atStart=>exact⟨0,_,S7,q7,z7,Nat.zero_le _,rfl,aD.out,zaZ aD.out,aJ.out,rfl,ak.out,aA.out,h.out,o.out,A.out⟩
   case round=>
    obtain⟨j,x9,S9,q9,z9,hj,rfl,i9,p9,e9,g9,m9,t9,X,V,R0⟩:=hrel
    clear h o z A ak aA
    have h:=zc X
    have o:=zc V
    have ab:=zc m9
    have ae:=zc t9
    have ac:=zc i9
    have aw:=zc p9
    have aq:=zc e9
    have av:=zc g9
    have A:=zc R0
    clear X V i9 m9 t9 e9 g9 R0 p9
    by_cases az:j<l.length
    ·skip
     obtain⟨c1,c2⟩:=A.out.cells (g:=g) rfl az
     have aS:=A.out.own.lt (g:=g) rfl
     have HX:Hid (∀e,e=l[j]→zR (fun e=>zn C (zz e)) (l.drop (j+1)) (bd x9 (zn C (zz e)))=zaf C q):=fun e he=>by rw[he,←aq.out];exact (zf2 (fun e=>zn C (zz e)) l x9 az).symm
     generalize ar:l[j]=el at c1 c2
     have aG:Hid (el=l[j]):=ar.symm
     clear ar
     obtain⟨a0,a1,a2,a3,a4,a5,a6,a7,a8,a9,K,L,af⟩:=h.out.box
     go_upto_region 9 with fail
     go_region_law (first|(go_simp;go_wp2_with (go_at_call 134;refine (zdn C H D n x9 S9 q9 z9 0 (zz el) _ ac.out ab.out.drew aw.out).mono ?_;rintro e ao ⟨N,an,aE,rfl,ag,ad,M⟩;obtain⟨d0,d1,d2,d3,d4,d5,d6,d7,d8,d9,ai,aj,df⟩:=(h.out.stp M.undrew).box;unfold pv)))
     all_goals
      clear a0 a1 a2 a3 a4 a5 a6 a7 a8 a9 K L af d0 d1 d2 d3 d4 d5 d6 d7 d8 d9 ai aj df
      have O:=zc ag
      have U:=zc ad
      have E:Hid (Stp S9 wr N ao):=M.undrew
      clear ag ad M
      go_wp2
      go_roundg (gk-1)
      case rel=>exact⟨j+1,_,N,an,aE,by omega,by go_num,O.out,zg4 aw.out ac.out O.out,HX.out el aG.out,by have:=av.out;omega,U.out.put (h.out.stp E.out) _ _ _ _ _ _ _ _ _ _ _ _,(ae.out.step E.out).put (by omega) _ _ _ _ _ _ _ _ _ _ _ _,(h.out.stp E.out).put _ _ _ _ _ _ _ _ _ _ _ _,(o.out.stp E.out).other (by omega) _ _ _ _ _ _ _ _ _ _ _ _,(A.out.stp E.out).put (h.out.stp E.out) _ _ _ _ _ _ _ _ _ _ _ _⟩
      case measure=>have:=av.out;omega
    ·skip
     obtain⟨a0,a1,a2,a3,a4,a5,a6,a7,a8,a9,K,L,af⟩:=h.out.box
     obtain⟨b0,b1,b2,b3,b4,b5,b6,b7,b8,b9,aY,aU,bf⟩:=o.out.box
     go_wp2
     refine bodyPost_ret (results_cell_row rfl _ _ (w.heap.size+1) 53 _ (0,0) _ rfl ((o.out.put ..)).heap Tryz.underlying53 rfl (by kernel_rfl)) rfl ?_
     exact zW rfl (show Is (zaf C q) q9 z9 from by rw[←aq.out,List.drop_eq_nil_of_le (by omega)];exact ac.out) (ab.out.put o.out ..) (ae.out.put (by omega) ..)
theorem zp9 (C:Cx) (n j h:Nat) (S:Sv) (q:PS) (w:World) (z:Mem C n j h S q w) (A:isT C q.pos 1 zae=true):
  Calls Tryz.prog 70 #[pv C n j S q (-1) 0] w (Out C n j h (zaK C q) 0 S w):=by
 cases o:isT C (q.pos+1) 4 zF with
 |true=>exact zpx C n j h S q w z A o
 |false=>
  cases D:isT C (q.pos+1) 4 zv with
  |true=>exact zpu C n j h S q w z A o D
  |false=>
   cases E:zB C (q.pos+1) false with
   |true=>exact zpv C n j h S q w z A o D E
   |false=>exact zpw C n j h S q w z A o D E
theorem zpA (C:Cx) (n j h:Nat) (S:Sv) (q:PS) (w:World) (z:Mem C n j h S q w) (A:isT C q.pos 1 zad=true):
  Calls Tryz.prog 71 #[pv C n j S q (-1) 0] w (Out C n j h (zaf C q) 0 S w):=by
 cases o:isT C (q.pos+1) 4 zF with
 |true=>exact zp8 C n j h S q w z A o
 |false=>
  cases D:isT C (q.pos+1) 4 zv with
  |true=>exact zp3 C n j h S q w z A o D
  |false=>
   cases E:isT C (q.pos+1) 1 sDefault with
   |true=>exact zp4 C n j h S q w z A o D E
   |false=>
    cases H:isT C (q.pos+1) 1 zA with
    |true=>exact zp5 C n j h S q w z A o D E H
    |false=>
     cases I:isT C (q.pos+1) 1 zO with
     |true=>exact zp6 C n j h S q w z A o D E H I
     |false=>exact zp7 C n j h S q w z A o D E H I
theorem zjr {C:Cx} {x:PR} {n:ByteArray}:bd (bd (bd (bd x (zd C 4 cEq)) (pE C .sum 0)) (zd C 4 cSemi)) (zX C 3 n)=bd x fun q=>bd (bd (bd (bd (.ok q) (zd C 4 cEq)) (pE C .sum 0)) (zd C 4 cSemi)) (zX C 3 n):=by cases x<;>rfl
theorem zpB (A:List Tk) (h:Nat) (D z n:Nat) (S:Sv) (q:PS) (w:World) (V:Mem (Cx.mk A h true) D z n S q w) (h0:isT (Cx.mk A h true) q.pos 1 zA=true):
  Calls Tryz.prog 21 #[pv (Cx.mk A h true) D z S q (-1) 0] w (Out (Cx.mk A h true) D z n (zy (Cx.mk A h true) q) 0 S w):=by
 have HM:=zc V
 have E:=V.tok
 have J:(Cx.mk A h true).ts.length≤4000:=V.few
 clear V
 have HV:Hid (zy (Cx.mk A h true) q=zaG (zcm (Cx.mk A h true) q)):=by show zy (Cx.mk A h true) q=_;rw[zy,h0];rfl
 unfold pv
 go_enter Tryz.func21,Tryz.ntmps21
 go_wp2_with fail
 refine (zg (Cx.mk A h true) D z n S q (-1) 0 1 zA _ (zo (zo E _) _) J (by decide)).mono ?_
 rintro e w1 ⟨rfl,I⟩
 rw[h0]
 obtain⟨N,K,m1,t1⟩:=HM.out.two I
 have o:=zc N
 have j:=zc K
 have O:=zc m1
 have U:=zc t1
 clear N K m1 t1 I
 clear E
 obtain⟨a0,a1,a2,a3,a4,a5,a6,a7,a8,a9,Y,aa,af⟩:=o.out.box
 go_wp2_with fail
 refine (zg1 (Cx.mk A h true) D z n S q _ O.out).mono ?_
 rintro e w2 ⟨L,q2,z2,n2,rfl,i2,m2,X⟩
 replace o:=zc (o.out.stp X)
 replace j:=zc (j.out.stp X)
 have M:=zc (U.out.step X)
 clear U
 have H:=zc m2
 have ad:=zc i2
 clear i2 m2 X O
 clear a0 a1 a2 a3 a4 a5 a6 a7 a8 a9 Y aa af
 have ae:w.heap.size+1<w2.heap.size:=j.out.lt
 unfold pv
 go_upto_region 7 with fail
 refine zJ (R:=fun W=>Bx D L W (w.heap.size) _∧Bx D L W (w.heap.size+1) _∧Bx D L W (w2.heap.size) _∧Mem (Cx.mk A h true) D z n L q2 W∧SB w.heap.size S w L W) ⟨(o.out.alloc _),(j.out.alloc _),(Bx.new H.out _),(H.out.alloc _),(M.out.alloc _)⟩ ?_
 clear o j M H
 rintro w3 ⟨N,K,X2,m3,t3⟩
 have o:=zc N
 have j:=zc K
 have ab:=zc X2
 have Z:=zc m3
 have ac:=zc t3
 clear m3 t3 N K X2
 obtain⟨b0,b1,b2,b3,b4,b5,b6,b7,b8,b9,ai,ah,bf⟩:=j.out.box
 obtain⟨c0,c1,c2,c3,c4,c5,c6,c7,c8,c9,aj,ag,cf⟩:=ab.out.box
 go_wp2
 refine bodyPost_ret (results_cell_row rfl _ _ (w.heap.size+1) 53 _ (0,0) _ rfl ((j.out.put ..)).heap Tryz.underlying53 rfl (by kernel_rfl)) rfl ?_
 rw[HV.out]
 exact zW rfl ad.out.fst (Z.out.put j.out ..) (ac.out.put (by omega) ..)
theorem zpC (A:List Tk) (h:Nat) (E z n:Nat) (S:Sv) (q:PS) (w:World) (hm:Mem (Cx.mk A h true) E z n S q w) (h0:isT (Cx.mk A h true) q.pos 1 zA=false) (h1:isT (Cx.mk A h true) q.pos 1 zO=true):
  Calls Tryz.prog 21 #[pv (Cx.mk A h true) E z S q (-1) 0] w (Out (Cx.mk A h true) E z n (zy (Cx.mk A h true) q) 0 S w):=by
 have HM:=zc hm
 have I:=hm.tok
 have H:(Cx.mk A h true).ts.length≤4000:=hm.few
 clear hm
 have HV:Hid (zy (Cx.mk A h true) q=zaG (fnP (Cx.mk A h true) q)):=by show zy (Cx.mk A h true) q=_;rw[zy,h0,h1];rfl
 unfold pv
 go_enter Tryz.func21,Tryz.ntmps21
 go_wp2_with fail
 refine (zg (Cx.mk A h true) E z n S q (-1) 0 1 zA _ (zo (zo I _) _) H (by decide)).mono ?_
 rintro e w1 ⟨rfl,N⟩
 rw[h0]
 obtain⟨Y,U,m1,t1⟩:=HM.out.two N
 have o:=zc Y
 have j:=zc U
 have M:=zc m1
 have aa:=zc t1
 clear Y U m1 t1 N
 clear I
 obtain⟨a0,a1,a2,a3,a4,a5,a6,a7,a8,a9,J,L,af⟩:=o.out.box
 go_wp2_with fail
 refine (zg (Cx.mk A h true) E z n S q (-1) 0 1 zO _ M.out.tok H (by decide)).mono ?_
 rintro e w2 ⟨rfl,D⟩
 rw[h1]
 replace o:=zc (o.out.below D)
 replace j:=zc (j.out.below D)
 have X:=zc (aa.out.below D)
 have O:=zc (M.out.later D)
 clear D aa M
 clear a0 a1 a2 a3 a4 a5 a6 a7 a8 a9 J L af
 obtain⟨a0,a1,a2,a3,a4,a5,a6,a7,a8,a9,J,L,af⟩:=o.out.box
 go_wp2_with fail
 refine (zg2 (Cx.mk A h true) E z n S q _ O.out).mono ?_
 rintro e w3 ⟨Z,q3,z3,n3,rfl,i3,m3,s3⟩
 replace o:=zc (o.out.stp s3)
 replace j:=zc (j.out.stp s3)
 have V:=zc (X.out.step s3)
 clear X
 have K:=zc m3
 have ad:=zc i3
 clear i3 m3 s3 O
 clear a0 a1 a2 a3 a4 a5 a6 a7 a8 a9 J L af
 have ag:w.heap.size+1<w3.heap.size:=j.out.lt
 unfold pv
 go_upto_region 10 with fail
 refine zJ (R:=fun W=>Bx E Z W (w.heap.size) _∧Bx E Z W (w.heap.size+1) _∧Bx E Z W (w3.heap.size) _∧Mem (Cx.mk A h true) E z n Z q3 W∧SB w.heap.size S w Z W) ⟨(o.out.alloc _),(j.out.alloc _),(Bx.new K.out _),(K.out.alloc _),(V.out.alloc _)⟩ ?_
 clear o j V K
 rintro w4 ⟨Y,U,X2,m4,t4⟩
 have o:=zc Y
 have j:=zc U
 have ab:=zc X2
 have ae:=zc m4
 have ac:=zc t4
 clear m4 t4 Y U X2
 obtain⟨b0,b1,b2,b3,b4,b5,b6,b7,b8,b9,aj,ai,bf⟩:=j.out.box
 obtain⟨c0,c1,c2,c3,c4,c5,c6,c7,c8,c9,ak,ah,cf⟩:=ab.out.box
 go_wp2
 refine bodyPost_ret (results_cell_row rfl _ _ (w.heap.size+1) 53 _ (0,0) _ rfl ((j.out.put ..)).heap Tryz.underlying53 rfl (by kernel_rfl)) rfl ?_
 rw[HV.out]
 exact zW rfl ad.out.fst (ae.out.put j.out ..) (ac.out.put (by omega) ..)
theorem zpD (A:List Tk) (h:Nat) (D z o:Nat) (S:Sv) (q:PS) (w:World) (hm:Mem (Cx.mk A h true) D z o S q w) (h0:isT (Cx.mk A h true) q.pos 1 zA=false) (h1:isT (Cx.mk A h true) q.pos 1 zO=false) (h2:isT (Cx.mk A h true) q.pos 1 zap=true):
  Calls Tryz.prog 21 #[pv (Cx.mk A h true) D z S q (-1) 0] w (Out (Cx.mk A h true) D z o (zy (Cx.mk A h true) q) 0 S w):=by
 have HM:=zc hm
 have N:=hm.tok
 have H:(Cx.mk A h true).ts.length≤4000:=hm.few
 clear hm
 have HV:Hid (zy (Cx.mk A h true) q=bd (bd (bd (bd (bd (bd (.ok q) (zd (Cx.mk A h true) 1 zap)) (zd (Cx.mk A h true) 4 zm)) (pE (Cx.mk A h true) .sum 0)) (zd (Cx.mk A h true) 4 zay)) (zd (Cx.mk A h true) 4 cSemi)) (zX (Cx.mk A h true) 4 sNone)):=by show zy (Cx.mk A h true) q=_;rw[zy,h0,h1,h2];rfl
 unfold pv
 go_enter Tryz.func21,Tryz.ntmps21
 go_wp2_with fail
 refine (zg (Cx.mk A h true) D z o S q (-1) 0 1 zA _ (zo (zo N _) _) H (by decide)).mono ?_
 rintro e w1 ⟨rfl,Z⟩
 rw[h0]
 obtain⟨X0,X1,m1,t1⟩:=HM.out.two Z
 have n:=zc X0
 have j:=zc X1
 have V:=zc m1
 have aw:=zc t1
 clear X0 X1 m1 t1 Z
 clear N
 obtain⟨a0,a1,a2,a3,a4,a5,a6,a7,a8,a9,E,J,af⟩:=n.out.box
 go_wp2_with fail
 refine (zg (Cx.mk A h true) D z o S q (-1) 0 1 zO _ V.out.tok H (by decide)).mono ?_
 rintro e w2 ⟨rfl,M⟩
 rw[h1]
 replace n:=zc (n.out.below M)
 replace j:=zc (j.out.below M)
 have aj:=zc (aw.out.below M)
 have O:=zc (V.out.later M)
 clear M aw V
 clear a0 a1 a2 a3 a4 a5 a6 a7 a8 a9 E J af
 obtain⟨a0,a1,a2,a3,a4,a5,a6,a7,a8,a9,E,J,af⟩:=n.out.box
 go_wp2_with fail
 refine (zg (Cx.mk A h true) D z o S q (-1) 0 1 zap _ O.out.tok H (by decide)).mono ?_
 rintro e w3 ⟨rfl,I⟩
 rw[h2]
 replace n:=zc (n.out.below I)
 replace j:=zc (j.out.below I)
 have ah:=zc (aj.out.below I)
 have ab:=zc (O.out.later I)
 clear I aj O
 clear a0 a1 a2 a3 a4 a5 a6 a7 a8 a9 E J af
 obtain⟨a0,a1,a2,a3,a4,a5,a6,a7,a8,a9,E,J,af⟩:=n.out.box
 go_wp2_with fail
 refine (zaC (Cx.mk A h true) D z o (.ok q) S q (-1) 0 zap _ (zU q) ab.out).mono ?_
 rintro e w4 ⟨S4,q4,z4,rfl,i4,m4,s4⟩
 replace n:=zc (n.out.stp s4)
 replace j:=zc (j.out.stp s4)
 have ai:=zc (ah.out.step s4)
 clear ah
 have aq:=zc m4
 have az:=zc i4
 clear i4 m4 s4 ab
 clear a0 a1 a2 a3 a4 a5 a6 a7 a8 a9 E J af
 go_wp2_with fail
 refine (zab (Cx.mk A h true) D z o _ S4 q4 z4 0 zm _ az.out aq.out).mono ?_
 rintro e w5 ⟨S5,q5,z5,rfl,i5,m5,s5⟩
 replace n:=zc (n.out.stp s5)
 replace j:=zc (j.out.stp s5)
 have ad:=zc (ai.out.step s5)
 clear ai
 have ag:=zc m5
 have ay:=zc i5
 clear i5 m5 s5 aq
 go_wp2_with fail
 refine (zcE (Cx.mk A h true) D z o _ S5 q5 z5 _ ay.out ag.out).mono ?_
 rintro e w6 ⟨S6,q6,z6,rfl,i6,m6,s6⟩
 replace n:=zc (n.out.stp s6)
 replace j:=zc (j.out.stp s6)
 have ae:=zc (ad.out.step s6)
 clear ad
 have av:=zc m6
 have aA:=zc i6
 clear i6 m6 s6 ag
 go_wp2_with fail
 refine (zab (Cx.mk A h true) D z o _ S6 q6 z6 0 zay _ aA.out av.out).mono ?_
 rintro e w7 ⟨X,q7,z7,rfl,i7,m7,s7⟩
 replace n:=zc (n.out.stp s7)
 replace j:=zc (j.out.stp s7)
 have ap:=zc (ae.out.step s7)
 clear ae
 have U:=zc m7
 have aC:=zc i7
 clear i7 m7 s7 av
 have aD:w.heap.size+1<w7.heap.size:=j.out.lt
 unfold pv
 go_upto_region 13 with fail
 refine zJ (R:=fun W=>Bx D X W (w.heap.size) _∧Bx D X W (w.heap.size+1) _∧Bx D X W (w7.heap.size) _∧Mem (Cx.mk A h true) D z o X q7 W∧SB w.heap.size S w X W) ⟨(n.out.alloc _),(j.out.alloc _),(Bx.new U.out _),(U.out.alloc _),(ap.out.alloc _)⟩ ?_
 clear n j ap U
 rintro w8 ⟨X0,X1,X2,m8,t8⟩
 have n:=zc X0
 have j:=zc X1
 have L:=zc X2
 have ak:=zc m8
 have am:=zc t8
 clear m8 t8 X0 X1 X2
 obtain⟨c0,c1,c2,c3,c4,c5,c6,c7,c8,c9,aB,ax,cf⟩:=L.out.box
 go_wp2_with fail
 refine (zab (Cx.mk A h true) D z o _ X q7 z7 0 cSemi _ aC.out ak.out).mono ?_
 rintro e w9 ⟨S9,q9,z9,rfl,i9,m9,s9⟩
 replace n:=zc (n.out.stp s9)
 replace j:=zc (j.out.stp s9)
 replace L:=zc (L.out.stp s9)
 have au:=zc (am.out.step s9)
 clear am
 have Y:=zc m9
 have al:=zc i9
 clear i9 m9 s9 ak
 clear c0 c1 c2 c3 c4 c5 c6 c7 c8 c9 aB ax cf
 go_wp2_with fail
 refine (zc4 (Cx.mk A h true) D z o _ S9 q9 z9 0 4 sNone _ al.out Y.out (zaZ al.out)).mono ?_
 rintro e aG ⟨aI,aF,aJ,rfl,ao,ar,K⟩
 replace n:=zc (n.out.stp K)
 replace j:=zc (j.out.stp K)
 replace L:=zc (L.out.stp K)
 have ac:=zc (au.out.step K)
 clear au
 have an:=zc ar
 have aa:=zc ao
 clear ao ar K Y
 obtain⟨b0,b1,b2,b3,b4,b5,b6,b7,b8,b9,aH,aE,bf⟩:=j.out.box
 unfold pv
 go_wp2
 refine bodyPost_ret (results_cell_row rfl _ _ (w.heap.size+1) 53 _ (0,0) _ rfl ((j.out.put ..)).heap Tryz.underlying53 rfl (by kernel_rfl)) rfl ?_
 rw[HV.out]
 exact zW rfl aa.out (an.out.put j.out ..) (ac.out.put (by omega) ..)
theorem zpE (A:List Tk) (h:Nat) (K z o:Nat) (S:Sv) (q:PS) (w:World) (hm:Mem (Cx.mk A h true) K z o S q w) (h0:isT (Cx.mk A h true) q.pos 1 zA=false) (h1:isT (Cx.mk A h true) q.pos 1 zO=false) (h2:isT (Cx.mk A h true) q.pos 1 zap=false) (h3:isT (Cx.mk A h true) q.pos 1 za0=true):
  Calls Tryz.prog 21 #[pv (Cx.mk A h true) K z S q (-1) 0] w (Out (Cx.mk A h true) K z o (zy (Cx.mk A h true) q) 0 S w):=by
 have HM:=zc hm
 have M:=hm.tok
 have H:(Cx.mk A h true).ts.length≤4000:=hm.few
 clear hm
 have HV:Hid (zy (Cx.mk A h true) q=bd (bd (bd (bd (.ok q) (zd (Cx.mk A h true) 1 za0)) (pE (Cx.mk A h true) .sum 0)) (zd (Cx.mk A h true) 4 cSemi)) (zX (Cx.mk A h true) 5 sNone)):=by show zy (Cx.mk A h true) q=_;rw[zy,h0,h1,h2,h3];rfl
 unfold pv
 go_enter Tryz.func21,Tryz.ntmps21
 go_wp2_with fail
 refine (zg (Cx.mk A h true) K z o S q (-1) 0 1 zA _ (zo (zo M _) _) H (by decide)).mono ?_
 rintro e w1 ⟨rfl,ab⟩
 rw[h0]
 obtain⟨X0,X1,m1,t1⟩:=HM.out.two ab
 have j:=zc X0
 have n:=zc X1
 have aa:=zc m1
 have an:=zc t1
 clear X0 X1 m1 t1 ab
 clear M
 obtain⟨Y,a1,Z,O,N,a5,X,a7,a8,a9,D,E,af⟩:=j.out.box
 go_wp2_with fail
 refine (zg (Cx.mk A h true) K z o S q (-1) 0 1 zO _ aa.out.tok H (by decide)).mono ?_
 rintro e w2 ⟨rfl,L⟩
 rw[h1]
 replace j:=zc (j.out.below L)
 replace n:=zc (n.out.below L)
 have ah:=zc (an.out.below L)
 have U:=zc (aa.out.later L)
 clear L an aa
 clear Y a1 Z O N a5 X a7 a8 a9 D E af
 obtain⟨Y,a1,Z,O,N,a5,X,a7,a8,a9,D,E,af⟩:=j.out.box
 go_wp2_with fail
 refine (zg (Cx.mk A h true) K z o S q (-1) 0 1 zap _ U.out.tok H (by decide)).mono ?_
 rintro e w3 ⟨rfl,I⟩
 rw[h2]
 replace j:=zc (j.out.below I)
 replace n:=zc (n.out.below I)
 have ag:=zc (ah.out.below I)
 have V:=zc (U.out.later I)
 clear I ah U
 clear Y a1 Z O N a5 X a7 a8 a9 D E af
 obtain⟨Y,a1,Z,O,N,a5,X,a7,a8,a9,D,E,af⟩:=j.out.box
 go_wp2_with fail
 refine (zg (Cx.mk A h true) K z o S q (-1) 0 1 za0 _ V.out.tok H (by decide)).mono ?_
 rintro e w4 ⟨rfl,J⟩
 rw[h3]
 replace j:=zc (j.out.below J)
 replace n:=zc (n.out.below J)
 have ao:=zc (ag.out.below J)
 have al:=zc (V.out.later J)
 clear J ag V
 clear Y a1 Z O N a5 X a7 a8 a9 D E af
 obtain⟨Y,a1,Z,O,N,a5,X,a7,a8,a9,D,E,af⟩:=j.out.box
 go_wp2_with fail
 refine (zaC (Cx.mk A h true) K z o (.ok q) S q (-1) 0 za0 _ (zU q) al.out).mono ?_
 rintro e w5 ⟨S5,q5,z5,rfl,i5,m5,s5⟩
 replace j:=zc (j.out.stp s5)
 replace n:=zc (n.out.stp s5)
 have ac:=zc (ao.out.step s5)
 clear ao
 have ae:=zc m5
 have ap:=zc i5
 clear i5 m5 s5 al
 clear Y a1 Z O N a5 X a7 a8 a9 D E af
 go_wp2_with fail
 refine (zcE (Cx.mk A h true) K z o _ S5 q5 z5 _ ap.out ae.out).mono ?_
 rintro e w6 ⟨S6,q6,z6,rfl,i6,m6,s6⟩
 replace j:=zc (j.out.stp s6)
 replace n:=zc (n.out.stp s6)
 have ad:=zc (ac.out.step s6)
 clear ac
 have am:=zc m6
 have aq:=zc i6
 clear i6 m6 s6 ae
 go_wp2_with fail
 refine (zab (Cx.mk A h true) K z o _ S6 q6 z6 0 cSemi _ aq.out am.out).mono ?_
 rintro e w7 ⟨S7,q7,z7,rfl,i7,m7,s7⟩
 replace j:=zc (j.out.stp s7)
 replace n:=zc (n.out.stp s7)
 have aj:=zc (ad.out.step s7)
 clear ad
 have ai:=zc m7
 have ak:=zc i7
 clear i7 m7 s7 am
 go_wp2_with fail
 refine (zc4 (Cx.mk A h true) K z o _ S7 q7 z7 0 5 sNone _ ak.out ai.out (zaZ ak.out)).mono ?_
 rintro e w8 ⟨S8,q8,z8,rfl,i8,m8,s8⟩
 replace j:=zc (j.out.stp s8)
 replace n:=zc (n.out.stp s8)
 have au:=zc (aj.out.step s8)
 clear aj
 have ar:=zc m8
 have av:=zc i8
 clear i8 m8 s8 ai
 obtain⟨b0,b1,b2,b3,b4,b5,b6,b7,b8,b9,ax,aw,bf⟩:=n.out.box
 unfold pv
 go_wp2
 refine bodyPost_ret (results_cell_row rfl _ _ (w.heap.size+1) 53 _ (0,0) _ rfl ((n.out.put ..)).heap Tryz.underlying53 rfl (by kernel_rfl)) rfl ?_
 rw[HV.out]
 exact zW rfl av.out (ar.out.put n.out ..) (au.out.put (by omega) ..)
theorem zpF (A:List Tk) (h:Nat) (I z o:Nat) (S:Sv) (q:PS) (w:World) (hm:Mem (Cx.mk A h true) I z o S q w) (h0:isT (Cx.mk A h true) q.pos 1 zA=false) (h1:isT (Cx.mk A h true) q.pos 1 zO=false) (h2:isT (Cx.mk A h true) q.pos 1 zap=false) (h3:isT (Cx.mk A h true) q.pos 1 za0=false) (h4:isT (Cx.mk A h true) q.pos 1 zby=true):
  Calls Tryz.prog 21 #[pv (Cx.mk A h true) I z S q (-1) 0] w (Out (Cx.mk A h true) I z o (zy (Cx.mk A h true) q) 0 S w):=by
 have HM:=zc hm
 have aa:=hm.tok
 have H:(Cx.mk A h true).ts.length≤4000:=hm.few
 clear hm
 have HV:Hid (zy (Cx.mk A h true) q=bd (bd (bd (bd (.ok q) (zd (Cx.mk A h true) 1 zby)) (pE (Cx.mk A h true) .sum 0)) (zd (Cx.mk A h true) 4 cSemi)) (zX (Cx.mk A h true) 6 sNone)):=by show zy (Cx.mk A h true) q=_;rw[zy,h0,h1,h2,h3,h4];rfl
 unfold pv
 go_enter Tryz.func21,Tryz.ntmps21
 go_wp2_with fail
 refine (zg (Cx.mk A h true) I z o S q (-1) 0 1 zA _ (zo (zo aa _) _) H (by decide)).mono ?_
 rintro e w1 ⟨rfl,ag⟩
 rw[h0]
 obtain⟨X0,X1,m1,t1⟩:=HM.out.two ag
 have j:=zc X0
 have n:=zc X1
 have ad:=zc m1
 have au:=zc t1
 clear X0 X1 m1 t1 ag
 clear aa
 obtain⟨V,a1,X,O,N,Y,U,Z,a8,a9,D,E,af⟩:=j.out.box
 go_wp2_with fail
 refine (zg (Cx.mk A h true) I z o S q (-1) 0 1 zO _ ad.out.tok H (by decide)).mono ?_
 rintro e w2 ⟨rfl,M⟩
 rw[h1]
 replace j:=zc (j.out.below M)
 replace n:=zc (n.out.below M)
 have al:=zc (au.out.below M)
 have ab:=zc (ad.out.later M)
 clear M au ad
 clear V a1 X O N Y U Z a8 a9 D E af
 obtain⟨V,a1,X,O,N,Y,U,Z,a8,a9,D,E,af⟩:=j.out.box
 go_wp2_with fail
 refine (zg (Cx.mk A h true) I z o S q (-1) 0 1 zap _ ab.out.tok H (by decide)).mono ?_
 rintro e w3 ⟨rfl,K⟩
 rw[h2]
 replace j:=zc (j.out.below K)
 replace n:=zc (n.out.below K)
 have ak:=zc (al.out.below K)
 have ac:=zc (ab.out.later K)
 clear K al ab
 clear V a1 X O N Y U Z a8 a9 D E af
 obtain⟨V,a1,X,O,N,Y,U,Z,a8,a9,D,E,af⟩:=j.out.box
 go_wp2_with fail
 refine (zg (Cx.mk A h true) I z o S q (-1) 0 1 za0 _ ac.out.tok H (by decide)).mono ?_
 rintro e w4 ⟨rfl,L⟩
 rw[h3]
 replace j:=zc (j.out.below L)
 replace n:=zc (n.out.below L)
 have av:=zc (ak.out.below L)
 have ae:=zc (ac.out.later L)
 clear L ak ac
 clear V a1 X O N Y U Z a8 a9 D E af
 obtain⟨V,a1,X,O,N,Y,U,Z,a8,a9,D,E,af⟩:=j.out.box
 go_wp2_with fail
 refine (zg (Cx.mk A h true) I z o S q (-1) 0 1 zby _ ae.out.tok H (by decide)).mono ?_
 rintro e w5 ⟨rfl,J⟩
 rw[h4]
 replace j:=zc (j.out.below J)
 replace n:=zc (n.out.below J)
 have ah:=zc (av.out.below J)
 have aj:=zc (ae.out.later J)
 clear J av ae
 clear V a1 X O N Y U Z a8 a9 D E af
 obtain⟨V,a1,X,O,N,Y,U,Z,a8,a9,D,E,af⟩:=j.out.box
 go_wp2_with fail
 refine (zaC (Cx.mk A h true) I z o (.ok q) S q (-1) 0 zby _ (zU q) aj.out).mono ?_
 rintro e w6 ⟨S6,q6,z6,rfl,i6,m6,s6⟩
 replace j:=zc (j.out.stp s6)
 replace n:=zc (n.out.stp s6)
 have ai:=zc (ah.out.step s6)
 clear ah
 have ar:=zc m6
 have ax:=zc i6
 clear i6 m6 s6 aj
 clear V a1 X O N Y U Z a8 a9 D E af
 go_wp2_with fail
 refine (zcE (Cx.mk A h true) I z o _ S6 q6 z6 _ ax.out ar.out).mono ?_
 rintro e w7 ⟨S7,q7,z7,rfl,i7,m7,s7⟩
 replace j:=zc (j.out.stp s7)
 replace n:=zc (n.out.stp s7)
 have aq:=zc (ai.out.step s7)
 clear ai
 have ao:=zc m7
 have az:=zc i7
 clear i7 m7 s7 ar
 go_wp2_with fail
 refine (zab (Cx.mk A h true) I z o _ S7 q7 z7 0 cSemi _ az.out ao.out).mono ?_
 rintro e w8 ⟨S8,q8,z8,rfl,i8,m8,s8⟩
 replace j:=zc (j.out.stp s8)
 replace n:=zc (n.out.stp s8)
 have an:=zc (aq.out.step s8)
 clear aq
 have am:=zc m8
 have ap:=zc i8
 clear i8 m8 s8 ao
 go_wp2_with fail
 refine (zc4 (Cx.mk A h true) I z o _ S8 q8 z8 0 6 sNone _ ap.out am.out (zaZ ap.out)).mono ?_
 rintro e w9 ⟨S9,q9,z9,rfl,i9,m9,s9⟩
 replace j:=zc (j.out.stp s9)
 replace n:=zc (n.out.stp s9)
 have aA:=zc (an.out.step s9)
 clear an
 have aw:=zc m9
 have ay:=zc i9
 clear i9 m9 s9 am
 obtain⟨b0,b1,b2,b3,b4,b5,b6,b7,b8,b9,aC,aB,bf⟩:=n.out.box
 unfold pv
 go_wp2
 refine bodyPost_ret (results_cell_row rfl _ _ (w.heap.size+1) 53 _ (0,0) _ rfl ((n.out.put ..)).heap Tryz.underlying53 rfl (by kernel_rfl)) rfl ?_
 rw[HV.out]
 exact zW rfl ay.out (aw.out.put n.out ..) (aA.out.put (by omega) ..)
theorem zpG (A:List Tk) (h:Nat) (K D z:Nat) (S:Sv) (q:PS) (w:World) (hm:Mem (Cx.mk A h true) K D z S q w) (h0:isT (Cx.mk A h true) q.pos 1 zA=false) (h1:isT (Cx.mk A h true) q.pos 1 zO=false) (h2:isT (Cx.mk A h true) q.pos 1 zap=false) (h3:isT (Cx.mk A h true) q.pos 1 za0=false) (h4:isT (Cx.mk A h true) q.pos 1 zby=false):
  Calls Tryz.prog 21 #[pv (Cx.mk A h true) K D S q (-1) 0] w (Out (Cx.mk A h true) K D z (zy (Cx.mk A h true) q) 0 S w):=by
 have HM:=zc hm
 have ad:=hm.tok
 have J:(Cx.mk A h true).ts.length≤4000:=hm.few
 clear hm
 have HV:Hid (zy (Cx.mk A h true) q=bd (bd (.ok q) (zh (Cx.mk A h true) false)) fun a=>bd (bd (bd (bd (.ok a.1) (zd (Cx.mk A h true) 4 cEq)) (pE (Cx.mk A h true) .sum 0)) (zd (Cx.mk A h true) 4 cSemi)) (zX (Cx.mk A h true) 3 a.2)):=by show zy (Cx.mk A h true) q=_;rw[zy,h0,h1,h2,h3,h4];rfl
 unfold pv
 go_enter Tryz.func21,Tryz.ntmps21
 go_wp2_with fail
 refine (zg (Cx.mk A h true) K D z S q (-1) 0 1 zA _ (zo (zo ad _) _) J (by decide)).mono ?_
 rintro e w1 ⟨rfl,am⟩
 rw[h0]
 obtain⟨X0,X1,m1,t1⟩:=HM.out.two am
 have j:=zc X0
 have o:=zc X1
 have ah:=zc m1
 have aH:=zc t1
 clear X0 X1 m1 t1 am
 clear ad
 obtain⟨a0,a1,a2,Y,X,a5,Z,a7,a8,a9,E,H,af⟩:=j.out.box
 go_wp2_with fail
 refine (zg (Cx.mk A h true) K D z S q (-1) 0 1 zO _ ah.out.tok J (by decide)).mono ?_
 rintro e w2 ⟨rfl,V⟩
 rw[h1]
 replace j:=zc (j.out.below V)
 replace o:=zc (o.out.below V)
 have ay:=zc (aH.out.below V)
 have ae:=zc (ah.out.later V)
 clear V aH ah
 clear a0 a1 a2 Y X a5 Z a7 a8 a9 E H af
 obtain⟨a0,a1,a2,Y,X,a5,Z,a7,a8,a9,E,H,af⟩:=j.out.box
 go_wp2_with fail
 refine (zg (Cx.mk A h true) K D z S q (-1) 0 1 zap _ ae.out.tok J (by decide)).mono ?_
 rintro e w3 ⟨rfl,M⟩
 rw[h2]
 replace j:=zc (j.out.below M)
 replace o:=zc (o.out.below M)
 have av:=zc (ay.out.below M)
 have ag:=zc (ae.out.later M)
 clear M ay ae
 clear a0 a1 a2 Y X a5 Z a7 a8 a9 E H af
 obtain⟨a0,a1,a2,Y,X,a5,Z,a7,a8,a9,E,H,af⟩:=j.out.box
 go_wp2_with fail
 refine (zg (Cx.mk A h true) K D z S q (-1) 0 1 za0 _ ag.out.tok J (by decide)).mono ?_
 rintro e w4 ⟨rfl,U⟩
 rw[h3]
 replace j:=zc (j.out.below U)
 replace o:=zc (o.out.below U)
 have ax:=zc (av.out.below U)
 have ai:=zc (ag.out.later U)
 clear U av ag
 clear a0 a1 a2 Y X a5 Z a7 a8 a9 E H af
 obtain⟨a0,a1,a2,Y,X,a5,Z,a7,a8,a9,E,H,af⟩:=j.out.box
 go_wp2_with fail
 refine (zg (Cx.mk A h true) K D z S q (-1) 0 1 zby _ ai.out.tok J (by decide)).mono ?_
 rintro e w5 ⟨rfl,L⟩
 rw[h4]
 replace j:=zc (j.out.below L)
 replace o:=zc (o.out.below L)
 have aq:=zc (ax.out.below L)
 have au:=zc (ai.out.later L)
 clear L ax ai
 clear a0 a1 a2 Y X a5 Z a7 a8 a9 E H af
 obtain⟨a0,a1,a2,Y,X,a5,Z,a7,a8,a9,E,H,af⟩:=j.out.box
 go_wp2_with fail
 refine (zaU (Cx.mk A h true) K D z (.ok q) S q (-1) 0 false _ (zU q) au.out).mono ?_
 rintro e w6 ⟨S6,q6,z6,n6,rfl,i6,m6,s6⟩
 replace j:=zc (j.out.stp s6)
 replace o:=zc (o.out.stp s6)
 have ar:=zc (aq.out.step s6)
 clear aq
 have aj:=zc m6
 have ap:=zc i6
 clear i6 m6 s6 au
 clear a0 a1 a2 Y X a5 Z a7 a8 a9 E H af
 have aP:w.heap.size+1<w6.heap.size:=o.out.lt
 unfold pv
 go_upto_region 19 with fail
 refine zJ (R:=fun W=>Bx K S6 W (w.heap.size) _∧Bx K S6 W (w.heap.size+1) _∧Bx K S6 W (w6.heap.size) _∧Mem (Cx.mk A h true) K D z S6 q6 W∧SB w.heap.size S w S6 W) ⟨(j.out.alloc _),(o.out.alloc _),(Bx.new aj.out _),(aj.out.alloc _),(ar.out.alloc _)⟩ ?_
 clear j o ar aj
 rintro w7 ⟨X0,X1,X2,m7,t7⟩
 have j:=zc X0
 have o:=zc X1
 have I:=zc X2
 have aB:=zc m7
 have aD:=zc t7
 clear m7 t7 X0 X1 X2
 obtain⟨c0,c1,c2,c3,c4,c5,c6,c7,c8,c9,aN,aI,cf⟩:=I.out.box
 go_wp2_with fail
 refine (zab (Cx.mk A h true) K D z _ S6 q6 z6 0 cEq _ ap.out.fst aB.out).mono ?_
 rintro e w8 ⟨S8,q8,z8,rfl,i8,m8,s8⟩
 replace j:=zc (j.out.stp s8)
 replace o:=zc (o.out.stp s8)
 replace I:=zc (I.out.stp s8)
 have aA:=zc (aD.out.step s8)
 clear aD
 have az:=zc m8
 have aM:=zc i8
 clear i8 m8 s8 aB
 clear c0 c1 c2 c3 c4 c5 c6 c7 c8 c9 aN aI cf
 go_wp2_with fail
 refine (zcE (Cx.mk A h true) K D z _ S8 q8 z8 _ aM.out az.out).mono ?_
 rintro e w9 ⟨S9,q9,z9,rfl,i9,m9,s9⟩
 replace j:=zc (j.out.stp s9)
 replace o:=zc (o.out.stp s9)
 replace I:=zc (I.out.stp s9)
 have aF:=zc (aA.out.step s9)
 clear aA
 have al:=zc m9
 have aL:=zc i9
 clear i9 m9 s9 az
 go_wp2_with fail
 refine (zab (Cx.mk A h true) K D z _ S9 q9 z9 0 cSemi _ aL.out al.out).mono ?_
 rintro e aS ⟨aK,aJ,aO,rfl,aC,aE,N⟩
 replace j:=zc (j.out.stp N)
 replace o:=zc (o.out.stp N)
 replace I:=zc (I.out.stp N)
 have ab:=zc (aF.out.step N)
 clear aF
 have ac:=zc aE
 have aa:=zc aC
 clear aC aE N al
 go_wp2_with fail
 refine (zc4 (Cx.mk A h true) K D z _ aK aJ aO 0 3 n6 _ aa.out ac.out (zaZ aa.out)).mono ?_
 rintro e aR ⟨aW,aU,aT,rfl,ao,aG,O⟩
 replace j:=zc (j.out.stp O)
 replace o:=zc (o.out.stp O)
 replace I:=zc (I.out.stp O)
 have an:=zc (ab.out.step O)
 clear ab
 have aw:=zc aG
 have ak:=zc ao
 clear ao aG O ac
 obtain⟨b0,b1,b2,b3,b4,b5,b6,b7,b8,b9,aV,aQ,bf⟩:=o.out.box
 unfold pv
 go_wp2
 refine bodyPost_ret (results_cell_row rfl _ _ (w.heap.size+1) 53 _ (0,0) _ rfl ((o.out.put ..)).heap Tryz.underlying53 rfl (by kernel_rfl)) rfl ?_
 rw[HV.out,←ap.out.bind (fun q n=>bd (bd (bd (bd (.ok q) (zd (Cx.mk A h true) 4 cEq)) (pE (Cx.mk A h true) .sum 0)) (zd (Cx.mk A h true) 4 cSemi)) (zX (Cx.mk A h true) 3 n)),←zjr]
 exact zW rfl ak.out (aw.out.put o.out ..) (an.out.put (by omega) ..)
theorem zpH (o:List Tk) (h:Nat) (z n j:Nat) (S:Sv) (q:PS) (w:World) (A:Mem (Cx.mk o h true) z n j S q w):
  Calls Tryz.prog 21 #[pv (Cx.mk o h true) z n S q (-1) 0] w (Out (Cx.mk o h true) z n j (zy (Cx.mk o h true) q) 0 S w):=by
 cases D:isT (Cx.mk o h true) q.pos 1 zA with
 |true=>exact zpB o h z n j S q w A D
 |false=>
  cases E:isT (Cx.mk o h true) q.pos 1 zO with
  |true=>exact zpC o h z n j S q w A D E
  |false=>
   cases H:isT (Cx.mk o h true) q.pos 1 zap with
   |true=>exact zpD o h z n j S q w A D E H
   |false=>
    cases I:isT (Cx.mk o h true) q.pos 1 za0 with
    |true=>exact zpE o h z n j S q w A D E H I
    |false=>
     cases J:isT (Cx.mk o h true) q.pos 1 zby with
     |true=>exact zpF o h z n j S q w A D E H I J
     |false=>
      exact zpG o h z n j S q w A D E H I J
end Go.Proofs.YticdggnnpjachaaGreat
