/-
  What spec's l4Import answers: the walks.
  What spec's l4Export answers: the walks.
  What spec's l4Export answers to a list of names: the walks.
  What spec's l4Item answers: the walks.
-/
import Derived.Test.YticdggnnpjachaaGreatCcSpecRowToSpecParseK
namespace Go.Proofs.YticdggnnpjachaaGreat
set_option maxRecDepth 100000
set_option maxHeartbeats 6400000
open Go.RowKit Go.PlainAid
theorem zcF {C:Cx} {k:Int} {s:ByteArray} {q n:PS} {j:Int} (h:Is (bd (.ok q) (zd C k s)) n j) (o:isT C q.pos k s=true):n=adv q∧j= -1:=by
 rw[zx,zd,if_pos o] at h
 exact h
theorem ze7 {α:Type} (f:α→PS→PR) (l:List α) (e:Nat):zR f l (.error e)= .error e:=by
 induction l with
 |nil=>rfl
 |cons a l h=>exact h
theorem zf2 {α:Type} (f:α→PS→PR) (l:List α) (x:PR) {k:Nat} (h:k<l.length):zR f (l.drop k) x=zR f (l.drop (k+1)) (bd x (f (l[k]))):=by
 rw[List.drop_eq_getElem_cons h]
 rfl
theorem zjn {C:Cx} {h:PRN} {I w:PS} {E H:Int} {o n:ByteArray} {G:ByteArray→ByteArray→PS→PR} (z:Is2 h I E o) (j:Is2 (bd (bd (zaG h) (zd C 1 zP)) (zG C)) w H n):
  bd (bd (zaG (bd (bd (zaG h) (zd C 1 zP)) (zG C))) (zd C 4 cSemi)) (G n o)=bd h fun a=>bd (zaQ C (zaA C (.ok a.1))) fun b=>G b.2 a.2 b.1:=by
 cases h with
 |error e=>rfl
 |ok a=>
  obtain⟨_,_,rfl⟩:=z
  have A:bd (bd (zaG (.ok a)) (zd C 1 zP)) (zG C)=zaA C (.ok a.1):=rfl
  rw[A] at j ⊢
  rw[zx]
  cases D:zaA C (.ok a.1) with
  |error e=>rfl
  |ok b=>
   rw[D] at j
   obtain⟨_,_,rfl⟩:=j
   show bd (zd C 4 cSemi b.1) (G b.2 a.2)=bd (bd (zd C 4 cSemi b.1) fun q=>.ok (q,b.2)) fun b=>G b.2 a.2 b.1
   rw[zK]
   rfl
def ze8 (y:PRL):PR:=bd y fun a=>.ok a.1
theorem Is3.fst {y:PRL} {q:PS} {z:Int} {l:List Ep} (h:Is3 y q z l):Is (ze8 y) q z:=by
 cases y with
 |ok a=>exact⟨h.1,h.2.1⟩
 |error e=>exact h
theorem zg3 {C:Cx} {y:PRL} {H n:PS} {A D:Int} {l:List Ep} {j:ByteArray} {G:ByteArray→Ep→PS→PR} (o:Is3 y H A l) (h:Is2 (bd (bd (ze8 y) (zd C 1 zP)) (zG C)) n D j):
  zR (G j) l (bd (zaG (bd (bd (ze8 y) (zd C 1 zP)) (zG C))) (zd C 4 cSemi))=bd y fun a=>bd (zaQ C (zaA C (.ok a.1))) fun b=>zR (G b.2) a.2 (.ok b.1):=by
 cases y with
 |error e=>exact ze7 _ _ _
 |ok a=>
  obtain⟨_,_,rfl⟩:=o
  have w:bd (bd (ze8 (.ok a)) (zd C 1 zP)) (zG C)=zaA C (.ok a.1):=rfl
  rw[w] at h ⊢
  rw[zx]
  cases z:zaA C (.ok a.1) with
  |error e=>exact ze7 _ _ _
  |ok b=>
   rw[z] at h
   obtain⟨_,_,rfl⟩:=h
   show zR (G b.2) a.2 (bd (zaG (.ok b)) (zd C 4 cSemi))=bd (bd (zd C 4 cSemi b.1) fun q=>.ok (q,b.2)) fun b=>zR (G b.2) a.2 (.ok b.1)
   have E:bd (zaG (.ok b)) (zd C 4 cSemi)=zd C 4 cSemi b.1:=rfl
   rw[E,zK]
   cases zd C 4 cSemi b.1 with
   |error e=>exact ze7 _ _ _
   |ok c=>rfl
theorem Mem.drew {C:Cx} {o n j:Nat} {S:Sv} {q:PS} {w:World} (h:Mem C o n j S q w):Mem C o n j S q w.drew:=⟨⟨h.own.rq,h.own.im,h.own.ep,h.own.st,h.own.ex,h.own.la,h.own.apart⟩,h.inv,h.tok,h.few,h.base⟩
theorem Stp.undrew {S n:Sv} {w j:World} (h:Stp S w.drew n j):Stp S w n j:=⟨h.os,h.tape,h.output,h.size,h.block,h.sub⟩
theorem Row.cells {S:Sv} {w:World} {o B g:Nat} {r:Rw} {l:List Ep} (h:Row S w o B r l) (E:r.a=some ⟨g,0,none⟩) {j:Nat} (D:j<l.length):
  w.cell? ⟨g,j*4+1,none⟩=some (.string (l[j]).name)∧w.cell? ⟨g,j*4+2,none⟩=some (.string (l[j]).loc):=by
 have q:=h.own
 unfold OwnR at q
 rw[E] at q
 have n: ∀(l:List Ep) (i c:Nat) (A:c<4) (z:i<l.length),(l.flatMap epL)[i*4+c]? =(epL l[i])[c]?:=by
  intro l
  induction l with
  |nil=>intro i c _ z;simp at z
  |cons x l H=>
   intro i c A z
   match i with
   |0=>
    simp only[List.flatMap_cons,Nat.zero_mul,Nat.zero_add,List.getElem_cons_zero]
    rw[List.getElem?_append_left (by simp[epL];omega)]
   |i+1=>
    simp only[List.flatMap_cons,List.getElem_cons_succ]
    rw[List.getElem?_append_right (by simp[epL];omega)]
    have e:(i+1)*4+c-(epL x).length=i*4+c:=by simp[epL];omega
    rw[e]
    exact H i c A (by simpa using z)
 rw[q.cellAt _ (by omega),q.cellAt _ (by omega)]
 exact⟨n l j 1 (by omega) D,n l j 2 (by omega) D⟩
theorem zpt {C:Cx} {y:Im} {x:PR} {q q':PS} {z z':Int} (A:z<0→1≤q.pos) (n:Is x q z) (h:Is (bd x (zao C y)) q' z'):z'<0→1≤q'.pos:=by
 intro w
 obtain⟨e,_⟩:=za7 h w
 obtain⟨a,o,j⟩:=zi e
 subst o
 obtain⟨rfl,rfl⟩:=n
 unfold zao at j
 split at j
 ·cases j
 ·cases j
  exact A (by decide)
theorem zg4 {C:Cx} {y:Ep} {x:PR} {q q':PS} {z z':Int} (n:z<0→1≤q.pos) (o:Is x q z) (h:Is (bd x (zn C y)) q' z'):z'<0→1≤q'.pos:=by
 intro A
 obtain⟨e,_⟩:=za7 h A
 obtain⟨a,w,j⟩:=zi e
 subst w
 obtain⟨rfl,rfl⟩:=o
 unfold zn at j
 split at j
 ·cases j
 ·split at j
  ·cases j
   exact n (by decide)
  ·cases j
   exact n (by decide)
theorem zpu (C:Cx) (A o n:Nat) (S:Sv) (q:PS) (w:World) (hm:Mem C A o n S q w) (hw:isT C q.pos 1 zae=true) (h1:isT C (q.pos+1) 4 zF=false) (h2:isT C (q.pos+1) 4 zv=true):
  Calls Tryz.prog 70 #[pv C A o S q (-1) 0] w (Out C A o n (zaK C q) 0 S w):=by
 have HM:=zc hm
 have ae:=hm.few
 clear hm
 have HV:Hid (zaK C q=bd (bd (bd (bd (.ok (adv q)) (zd C 4 zv)) (zd C 1 sAs)) (zh C false)) fun a=>bd (zaQ C (zaA C (.ok a.1))) fun b=>zao C ⟨b.2,zv,a.2⟩ b.1):=by
  show _=_
  rw[zaK,zd,if_pos hw,zx]
  rw[zw,h1,h2]
  rfl
 unfold pv
 go_enter Tryz.func70,Tryz.ntmps70
 go_wp2_with fail
 refine (zaC C A o n (.ok q) S q (-1) 0 zae _ (zU q) ((HM.out.alloc _).alloc _)).mono ?_
 rintro e w1 ⟨S1,X,z1,rfl,i1,m1,s1⟩
 obtain⟨M,U,t1⟩:=HM.out.two2 s1
 have h:=zc M
 have j:=zc U
 have aK:=zc m1
 have aR:=zc t1
 have aB:=zc i1
 clear M U i1 m1 t1 s1
 obtain⟨ah,rfl⟩:=zcF aB.out hw
 have HQ:=zc ah
 have ak:Hid (X.pos=q.pos+1):=by show X.pos=q.pos+1;rw[ah];rfl
 clear ah aB
 obtain⟨a0,a1,a2,a3,a4,a5,a6,a7,a8,a9,E,H,af⟩:=h.out.box
 unfold pv
 go_upto_region 2 with fail
 refine zJ (R:=fun W=>Bx A S1 W (w.heap.size) _∧Bx A S1 W (w.heap.size+1) _∧Mem C A o n S1 X W∧SB w.heap.size S w S1 W) ⟨(h.out.put ..),(j.out.other (by omega) ..),(aK.out.put h.out ..),(aR.out.put (by omega) ..)⟩ ?_
 clear a0 a1 a2 a3 a4 a5 a6 a7 a8 a9 E H af
 clear h j aR aK
 rintro w2 ⟨M,U,m2,t2⟩
 have h:=zc M
 have j:=zc U
 have am:=zc m2
 have az:=zc t2
 clear m2 t2 M U
 obtain⟨a0,a1,a2,a3,a4,a5,a6,a7,a8,a9,E,H,af⟩:=h.out.box
 go_wp2_with fail
 refine (zg C A o n S1 X (-1) 0 4 zF _ am.out.tok ae (by decide)).mono ?_
 rintro e w3 ⟨rfl,N⟩
 rw[ak.out,h1]
 replace h:=zc (h.out.below N)
 replace j:=zc (j.out.below N)
 have aF:=zc (az.out.below N)
 have aj:=zc (am.out.later N)
 clear N az am
 clear a0 a1 a2 a3 a4 a5 a6 a7 a8 a9 E H af
 obtain⟨a0,a1,a2,a3,a4,a5,a6,a7,a8,a9,E,H,af⟩:=h.out.box
 go_wp2_with fail
 refine (zg C A o n S1 X (-1) 0 4 zv _ aj.out.tok ae (by decide)).mono ?_
 rintro e w4 ⟨rfl,V⟩
 rw[ak.out,h2]
 replace h:=zc (h.out.below V)
 replace j:=zc (j.out.below V)
 have aI:=zc (aF.out.below V)
 have ao:=zc (aj.out.later V)
 clear V aF aj
 clear a0 a1 a2 a3 a4 a5 a6 a7 a8 a9 E H af
 obtain⟨a0,a1,a2,a3,a4,a5,a6,a7,a8,a9,E,H,af⟩:=h.out.box
 clear ak
 go_wp2_with fail
 refine (zab C A o n (.ok X) S1 X (-1) 0 zv _ (zU X) ao.out).mono ?_
 rintro e w5 ⟨S5,q5,z5,rfl,i5,m5,s5⟩
 replace h:=zc (h.out.stp s5)
 replace j:=zc (j.out.stp s5)
 have aL:=zc (aI.out.step s5)
 clear aI
 have aq:=zc m5
 have aU:=zc i5
 clear i5 m5 s5 ao
 clear a0 a1 a2 a3 a4 a5 a6 a7 a8 a9 E H af
 go_wp2_with fail
 refine (zaC C A o n _ S5 q5 z5 0 sAs _ aU.out aq.out).mono ?_
 rintro e w6 ⟨S6,q6,z6,rfl,i6,m6,s6⟩
 replace h:=zc (h.out.stp s6)
 replace j:=zc (j.out.stp s6)
 have aD:=zc (aL.out.step s6)
 clear aL
 have aJ:=zc m6
 have bg:=zc i6
 clear i6 m6 s6 aq
 go_wp2_with fail
 refine (zaU C A o n _ S6 q6 z6 0 false _ bg.out aJ.out).mono ?_
 rintro e w7 ⟨S7,q7,z7,n7,rfl,i7,m7,s7⟩
 replace h:=zc (h.out.stp s7)
 replace j:=zc (j.out.stp s7)
 have ax:=zc (aD.out.step s7)
 clear aD
 have ai:=zc m7
 have ay:=zc i7
 clear i7 m7 s7 aJ
 have bh:w.heap.size+1<w7.heap.size:=j.out.lt
 unfold pv
 go_upto_region 13 with fail
 refine zJ (R:=fun W=>Bx A S7 W (w.heap.size) _∧Bx A S7 W (w.heap.size+1) _∧Bx A S7 W (w7.heap.size) _∧Mem C A o n S7 q7 W∧SB w.heap.size S w S7 W) ⟨(h.out.alloc _),(j.out.alloc _),(Bx.new ai.out _),(ai.out.alloc _),(ax.out.alloc _)⟩ ?_
 clear h j ax ai
 rintro w8 ⟨M,U,X2,m8,t8⟩
 have h:=zc M
 have j:=zc U
 have z:=zc X2
 have ar:=zc m8
 have au:=zc t8
 clear m8 t8 M U X2
 obtain⟨c0,c1,c2,c3,c4,c5,c6,c7,c8,c9,aV,be,cf⟩:=z.out.box
 go_wp2_with fail
 refine (zaC C A o n _ S7 q7 z7 0 zP _ ay.out.fst ar.out).mono ?_
 rintro e w9 ⟨S9,q9,z9,rfl,i9,m9,s9⟩
 replace h:=zc (h.out.stp s9)
 replace j:=zc (j.out.stp s9)
 replace z:=zc (z.out.stp s9)
 have aw:=zc (au.out.step s9)
 clear au
 have an:=zc m9
 have aY:=zc i9
 clear i9 m9 s9 ar
 clear c0 c1 c2 c3 c4 c5 c6 c7 c8 c9 aV be cf
 go_wp2_with fail
 refine (zdy C A o n _ S9 q9 z9 0 _ aY.out an.out).mono ?_
 rintro e al ⟨D,av,bb,ba,rfl,aH,aQ,O⟩
 replace h:=zc (h.out.stp O)
 replace j:=zc (j.out.stp O)
 replace z:=zc (z.out.stp O)
 have ad:=zc (aw.out.step O)
 clear aw
 have K:=zc aQ
 have aa:=zc aH
 clear aH aQ O an
 have bi:w.heap.size+1<al.heap.size:=j.out.lt
 have aS:w7.heap.size<al.heap.size:=z.out.lt
 unfold pv
 go_upto_region 14 with fail
 refine zJ (R:=fun W=>Bx A D W (w.heap.size) _∧Bx A D W (w.heap.size+1) _∧Bx A D W (w7.heap.size) _∧Bx A D W (al.heap.size) _∧Mem C A o n D av W∧SB w.heap.size S w D W) ⟨(h.out.alloc _),(j.out.alloc _),(z.out.alloc _),(Bx.new K.out _),(K.out.alloc _),(ad.out.alloc _)⟩ ?_
 clear h j z ad K
 rintro bn ⟨M,U,X2,X3,aO,aE⟩
 have h:=zc M
 have j:=zc U
 have z:=zc X2
 have L:=zc X3
 have Z:=zc aO
 have ac:=zc aE
 clear aO aE M U X2 X3
 obtain⟨d0,d1,d2,d3,d4,d5,d6,d7,d8,d9,aT,aW,df⟩:=L.out.box
 go_wp2_with fail
 refine (zab C A o n _ D av bb 0 cSemi _ aa.out.fst Z.out).mono ?_
 rintro e bl ⟨aZ,aX,bc,rfl,aA,ap,J⟩
 replace h:=zc (h.out.stp J)
 replace j:=zc (j.out.stp J)
 replace z:=zc (z.out.stp J)
 replace L:=zc (L.out.stp J)
 have ag:=zc (ac.out.step J)
 clear ac
 have Y:=zc ap
 have ab:=zc aA
 clear aA ap J Z
 clear d0 d1 d2 d3 d4 d5 d6 d7 d8 d9 aT aW df
 go_wp2_with fail
 refine (zfR C A o n _ aZ aX bc 0 ⟨ba,zv,n7⟩ _ ab.out Y.out (zaZ ab.out)).mono ?_
 rintro e bp ⟨bj,bo,bq,rfl,aM,aN,I⟩
 replace h:=zc (h.out.stp I)
 replace j:=zc (j.out.stp I)
 replace z:=zc (z.out.stp I)
 replace L:=zc (L.out.stp I)
 have aP:=zc (ag.out.step I)
 clear ag
 have aG:=zc aN
 have aC:=zc aM
 clear aM aN I Y
 obtain⟨b0,b1,b2,b3,b4,b5,b6,b7,b8,b9,bk,bm,bf⟩:=j.out.box
 unfold pv
 go_wp2
 refine bodyPost_ret (results_cell_row rfl _ _ (w.heap.size+1) 53 _ (0,0) _ rfl ((j.out.put ..)).heap Tryz.underlying53 rfl (by kernel_rfl)) rfl ?_
 rw[HV.out,←HQ.out,←zjn (G:=fun b a=>zao C ⟨b,zv,a⟩) ay.out aa.out]
 exact zW rfl aC.out (aG.out.put j.out ..) (aP.out.put (by omega) ..)
theorem zpv (C:Cx) (A o n:Nat) (S:Sv) (q:PS) (w:World) (hm:Mem C A o n S q w) (hw:isT C q.pos 1 zae=true) (h1:isT C (q.pos+1) 4 zF=false) (h2:isT C (q.pos+1) 4 zv=false) (h3:zB C (q.pos+1) false=true):
  Calls Tryz.prog 70 #[pv C A o S q (-1) 0] w (Out C A o n (zaK C q) 0 S w):=by
 have HM:=zc hm
 have O:=hm.few
 clear hm
 have HV:Hid (zaK C q=bd (bd (.ok (adv q)) (zh C false)) fun a=>bd (zaQ C (zaA C (.ok a.1))) fun b=>zao C ⟨b.2,sDefault,a.2⟩ b.1):=by
  show _=_
  rw[zaK,zd,if_pos hw,zx]
  rw[zw,h1,h2,h3]
  rfl
 unfold pv
 go_enter Tryz.func70,Tryz.ntmps70
 go_wp2_with fail
 refine (zaC C A o n (.ok q) S q (-1) 0 zae _ (zU q) ((HM.out.alloc _).alloc _)).mono ?_
 rintro e w1 ⟨S1,X,z1,rfl,i1,m1,s1⟩
 obtain⟨K,N,t1⟩:=HM.out.two2 s1
 have h:=zc K
 have j:=zc N
 have aG:=zc m1
 have aK:=zc t1
 have aC:=zc i1
 clear K N i1 m1 t1 s1
 obtain⟨ag,rfl⟩:=zcF aC.out hw
 have HQ:=zc ag
 have Y:Hid (X.pos=q.pos+1):=by show X.pos=q.pos+1;rw[ag];rfl
 clear ag aC
 obtain⟨a0,a1,Z,V,a4,a5,a6,a7,a8,a9,D,E,af⟩:=h.out.box
 unfold pv
 go_upto_region 2 with fail
 refine zJ (R:=fun W=>Bx A S1 W (w.heap.size) _∧Bx A S1 W (w.heap.size+1) _∧Mem C A o n S1 X W∧SB w.heap.size S w S1 W) ⟨(h.out.put ..),(j.out.other (by omega) ..),(aG.out.put h.out ..),(aK.out.put (by omega) ..)⟩ ?_
 clear a0 a1 Z V a4 a5 a6 a7 a8 a9 D E af
 clear h j aK aG
 rintro w2 ⟨K,N,m2,t2⟩
 have h:=zc K
 have j:=zc N
 have ak:=zc m2
 have ay:=zc t2
 clear m2 t2 K N
 obtain⟨a0,a1,Z,V,a4,a5,a6,a7,a8,a9,D,E,af⟩:=h.out.box
 go_wp2_with fail
 refine (zg C A o n S1 X (-1) 0 4 zF _ ak.out.tok O (by decide)).mono ?_
 rintro e w3 ⟨rfl,M⟩
 rw[Y.out,h1]
 replace h:=zc (h.out.below M)
 replace j:=zc (j.out.below M)
 have aE:=zc (ay.out.below M)
 have aj:=zc (ak.out.later M)
 clear M ay ak
 clear a0 a1 Z V a4 a5 a6 a7 a8 a9 D E af
 obtain⟨a0,a1,Z,V,a4,a5,a6,a7,a8,a9,D,E,af⟩:=h.out.box
 go_wp2_with fail
 refine (zg C A o n S1 X (-1) 0 4 zv _ aj.out.tok O (by decide)).mono ?_
 rintro e w4 ⟨rfl,L⟩
 rw[Y.out,h2]
 replace h:=zc (h.out.below L)
 replace j:=zc (j.out.below L)
 have aF:=zc (aE.out.below L)
 have ai:=zc (aj.out.later L)
 clear L aE aj
 clear a0 a1 Z V a4 a5 a6 a7 a8 a9 D E af
 obtain⟨a0,a1,Z,V,a4,a5,a6,a7,a8,a9,D,E,af⟩:=h.out.box
 go_wp2_with fail
 refine (zeV C A o n S1 X (-1) 0 false _ ai.out.tok O).mono ?_
 rintro e w5 ⟨rfl,U⟩
 rw[Y.out,h3]
 replace h:=zc (h.out.below U)
 replace j:=zc (j.out.below U)
 have aH:=zc (aF.out.below U)
 have ao:=zc (ai.out.later U)
 clear U aF ai
 clear a0 a1 Z V a4 a5 a6 a7 a8 a9 D E af
 obtain⟨a0,a1,Z,V,a4,a5,a6,a7,a8,a9,D,E,af⟩:=h.out.box
 clear Y
 go_wp2_with fail
 refine (zaU C A o n (.ok X) S1 X (-1) 0 false _ (zU X) ao.out).mono ?_
 rintro e w6 ⟨S6,q6,z6,n6,rfl,i6,m6,s6⟩
 replace h:=zc (h.out.stp s6)
 replace j:=zc (j.out.stp s6)
 have aD:=zc (aH.out.step s6)
 clear aH
 have al:=zc m6
 have aM:=zc i6
 clear i6 m6 s6 ao
 clear a0 a1 Z V a4 a5 a6 a7 a8 a9 D E af
 have aW:w.heap.size+1<w6.heap.size:=j.out.lt
 unfold pv
 go_upto_region 17 with fail
 refine zJ (R:=fun W=>Bx A S6 W (w.heap.size) _∧Bx A S6 W (w.heap.size+1) _∧Bx A S6 W (w6.heap.size) _∧Mem C A o n S6 q6 W∧SB w.heap.size S w S6 W) ⟨(h.out.alloc _),(j.out.alloc _),(Bx.new al.out _),(al.out.alloc _),(aD.out.alloc _)⟩ ?_
 clear h j aD al
 rintro w7 ⟨K,N,X2,m7,t7⟩
 have h:=zc K
 have j:=zc N
 have z:=zc X2
 have am:=zc m7
 have ax:=zc t7
 clear m7 t7 K N X2
 obtain⟨c0,c1,c2,c3,c4,c5,c6,c7,c8,c9,aQ,aU,cf⟩:=z.out.box
 go_wp2_with fail
 refine (zaC C A o n _ S6 q6 z6 0 zP _ aM.out.fst am.out).mono ?_
 rintro e w8 ⟨S8,q8,z8,rfl,i8,m8,s8⟩
 replace h:=zc (h.out.stp s8)
 replace j:=zc (j.out.stp s8)
 replace z:=zc (z.out.stp s8)
 have ar:=zc (ax.out.step s8)
 clear ax
 have au:=zc m8
 have aT:=zc i8
 clear i8 m8 s8 am
 clear c0 c1 c2 c3 c4 c5 c6 c7 c8 c9 aQ aU cf
 go_wp2_with fail
 refine (zdy C A o n _ S8 q8 z8 0 _ aT.out au.out).mono ?_
 rintro e w9 ⟨S9,q9,z9,n9,rfl,i9,m9,s9⟩
 replace h:=zc (h.out.stp s9)
 replace j:=zc (j.out.stp s9)
 replace z:=zc (z.out.stp s9)
 have av:=zc (ar.out.step s9)
 clear ar
 have ah:=zc m9
 have aB:=zc i9
 clear i9 m9 s9 au
 have aX:w.heap.size+1<w9.heap.size:=j.out.lt
 have aN:w6.heap.size<w9.heap.size:=z.out.lt
 unfold pv
 go_upto_region 18 with fail
 refine zJ (R:=fun W=>Bx A S9 W (w.heap.size) _∧Bx A S9 W (w.heap.size+1) _∧Bx A S9 W (w6.heap.size) _∧Bx A S9 W (w9.heap.size) _∧Mem C A o n S9 q9 W∧SB w.heap.size S w S9 W) ⟨(h.out.alloc _),(j.out.alloc _),(z.out.alloc _),(Bx.new ah.out _),(ah.out.alloc _),(av.out.alloc _)⟩ ?_
 clear h j z av ah
 rintro aY ⟨K,N,X2,X3,aJ,ap⟩
 have h:=zc K
 have j:=zc N
 have z:=zc X2
 have J:=zc X3
 have aa:=zc aJ
 have ae:=zc ap
 clear aJ ap K N X2 X3
 obtain⟨d0,d1,d2,d3,d4,d5,d6,d7,d8,d9,aO,aR,df⟩:=J.out.box
 go_wp2_with fail
 refine (zab C A o n _ S9 q9 z9 0 cSemi _ aB.out.fst aa.out).mono ?_
 rintro e bg ⟨aV,aP,aS,rfl,aq,aI,H⟩
 replace h:=zc (h.out.stp H)
 replace j:=zc (j.out.stp H)
 replace z:=zc (z.out.stp H)
 replace J:=zc (J.out.stp H)
 have ac:=zc (ae.out.step H)
 clear ae
 have ab:=zc aI
 have ad:=zc aq
 clear aq aI H aa
 clear d0 d1 d2 d3 d4 d5 d6 d7 d8 d9 aO aR df
 go_wp2_with fail
 refine (zfR C A o n _ aV aP aS 0 ⟨n9,sDefault,n6⟩ _ ad.out ab.out (zaZ ad.out)).mono ?_
 rintro e bc ⟨bb,aZ,bh,rfl,az,an,I⟩
 replace h:=zc (h.out.stp I)
 replace j:=zc (j.out.stp I)
 replace z:=zc (z.out.stp I)
 replace J:=zc (J.out.stp I)
 have aL:=zc (ac.out.step I)
 clear ac
 have aw:=zc an
 have aA:=zc az
 clear az an I ab
 obtain⟨b0,b1,b2,b3,b4,b5,b6,b7,b8,b9,ba,be,bf⟩:=j.out.box
 unfold pv
 go_wp2
 refine bodyPost_ret (results_cell_row rfl _ _ (w.heap.size+1) 53 _ (0,0) _ rfl ((j.out.put ..)).heap Tryz.underlying53 rfl (by kernel_rfl)) rfl ?_
 rw[HV.out,←HQ.out,←zjn (G:=fun b a=>zao C ⟨b,sDefault,a⟩) aM.out aB.out]
 exact zW rfl aA.out (aw.out.put j.out ..) (aL.out.put (by omega) ..)
theorem zpw (C:Cx) (D o n:Nat) (S:Sv) (q:PS) (w:World) (hm:Mem C D o n S q w) (hw:isT C q.pos 1 zae=true) (h1:isT C (q.pos+1) 4 zF=false) (h2:isT C (q.pos+1) 4 zv=false) (h3:zB C (q.pos+1) false=false):
  Calls Tryz.prog 70 #[pv C D o S q (-1) 0] w (Out C D o n (zaK C q) 0 S w):=by
 have HM:=zc hm
 have H:=hm.few
 clear hm
 have HV:Hid (zaK C q=bd (bd (.ok (adv q)) (zG C)) fun a=>zd C 4 cSemi a.1):=by
  show _=_
  rw[zaK,zd,if_pos hw,zx]
  rw[zw,h1,h2,h3]
  rfl
 unfold pv
 go_enter Tryz.func70,Tryz.ntmps70
 go_wp2_with fail
 refine (zaC C D o n (.ok q) S q (-1) 0 zae _ (zU q) ((HM.out.alloc _).alloc _)).mono ?_
 rintro e w1 ⟨S1,L,z1,rfl,i1,m1,s1⟩
 obtain⟨X0,X1,t1⟩:=HM.out.two2 s1
 have h:=zc X0
 have j:=zc X1
 have ap:=zc m1
 have ar:=zc t1
 have al:=zc i1
 clear X0 X1 i1 m1 t1 s1
 obtain⟨aa,rfl⟩:=zcF al.out hw
 have HQ:=zc aa
 have M:Hid (L.pos=q.pos+1):=by show L.pos=q.pos+1;rw[aa];rfl
 clear aa al
 obtain⟨O,X,N,K,a4,a5,Y,Z,U,V,z,A,af⟩:=h.out.box
 unfold pv
 go_upto_region 2 with fail
 refine zJ (R:=fun W=>Bx D S1 W (w.heap.size) _∧Bx D S1 W (w.heap.size+1) _∧Mem C D o n S1 L W∧SB w.heap.size S w S1 W) ⟨(h.out.put ..),(j.out.other (by omega) ..),(ap.out.put h.out ..),(ar.out.put (by omega) ..)⟩ ?_
 clear O X N K a4 a5 Y Z U V z A af
 clear h j ar ap
 rintro w2 ⟨X0,X1,m2,t2⟩
 have h:=zc X0
 have j:=zc X1
 have ae:=zc m2
 have ak:=zc t2
 clear m2 t2 X0 X1
 obtain⟨O,X,N,K,a4,a5,Y,Z,U,V,z,A,af⟩:=h.out.box
 go_wp2_with fail
 refine (zg C D o n S1 L (-1) 0 4 zF _ ae.out.tok H (by decide)).mono ?_
 rintro e w3 ⟨rfl,E⟩
 rw[M.out,h1]
 replace h:=zc (h.out.below E)
 replace j:=zc (j.out.below E)
 have an:=zc (ak.out.below E)
 have ad:=zc (ae.out.later E)
 clear E ak ae
 clear O X N K a4 a5 Y Z U V z A af
 obtain⟨O,X,N,K,a4,a5,Y,Z,U,V,z,A,af⟩:=h.out.box
 go_wp2_with fail
 refine (zg C D o n S1 L (-1) 0 4 zv _ ad.out.tok H (by decide)).mono ?_
 rintro e w4 ⟨rfl,J⟩
 rw[M.out,h2]
 replace h:=zc (h.out.below J)
 replace j:=zc (j.out.below J)
 have ao:=zc (an.out.below J)
 have ab:=zc (ad.out.later J)
 clear J an ad
 clear O X N K a4 a5 Y Z U V z A af
 obtain⟨O,X,N,K,a4,a5,Y,Z,U,V,z,A,af⟩:=h.out.box
 go_wp2_with fail
 refine (zeV C D o n S1 L (-1) 0 false _ ab.out.tok H).mono ?_
 rintro e w5 ⟨rfl,I⟩
 rw[M.out,h3]
 replace h:=zc (h.out.below I)
 replace j:=zc (j.out.below I)
 have aq:=zc (ao.out.below I)
 have ai:=zc (ab.out.later I)
 clear I ao ab
 clear O X N K a4 a5 Y Z U V z A af
 obtain⟨O,X,N,K,a4,a5,Y,Z,U,V,z,A,af⟩:=h.out.box
 clear M
 go_wp2_with fail
 refine (zdy C D o n (.ok L) S1 L (-1) 0 _ (zU L) ai.out).mono ?_
 rintro e w6 ⟨S6,q6,z6,n6,rfl,i6,m6,s6⟩
 replace h:=zc (h.out.stp s6)
 replace j:=zc (j.out.stp s6)
 have am:=zc (aq.out.step s6)
 clear aq
 have ag:=zc m6
 have au:=zc i6
 clear i6 m6 s6 ai
 clear O X N K a4 a5 Y Z U V z A af
 have aA:w.heap.size+1<w6.heap.size:=j.out.lt
 unfold pv
 go_upto_region 20 with fail
 refine zJ (R:=fun W=>Bx D S6 W (w.heap.size) _∧Bx D S6 W (w.heap.size+1) _∧Bx D S6 W (w6.heap.size) _∧Mem C D o n S6 q6 W∧SB w.heap.size S w S6 W) ⟨(h.out.alloc _),(j.out.alloc _),(Bx.new ag.out _),(ag.out.alloc _),(am.out.alloc _)⟩ ?_
 clear h j am ag
 rintro w7 ⟨X0,X1,X2,m7,t7⟩
 have h:=zc X0
 have j:=zc X1
 have ac:=zc X2
 have ah:=zc m7
 have aj:=zc t7
 clear m7 t7 X0 X1 X2
 obtain⟨c0,c1,c2,c3,c4,c5,c6,c7,c8,c9,av,az,cf⟩:=ac.out.box
 go_wp2_with fail
 refine (zab C D o n _ S6 q6 z6 0 cSemi _ au.out.fst ah.out).mono ?_
 rintro e w8 ⟨S8,q8,z8,rfl,i8,m8,s8⟩
 replace h:=zc (h.out.stp s8)
 replace j:=zc (j.out.stp s8)
 replace ac:=zc (ac.out.stp s8)
 have aw:=zc (aj.out.step s8)
 clear aj
 have ax:=zc m8
 have ay:=zc i8
 clear i8 m8 s8 ah
 clear c0 c1 c2 c3 c4 c5 c6 c7 c8 c9 av az cf
 obtain⟨b0,b1,b2,b3,b4,b5,b6,b7,b8,b9,aB,aC,bf⟩:=j.out.box
 unfold pv
 go_wp2
 refine bodyPost_ret (results_cell_row rfl _ _ (w.heap.size+1) 53 _ (0,0) _ rfl ((j.out.put ..)).heap Tryz.underlying53 rfl (by kernel_rfl)) rfl ?_
 rw[HV.out,←HQ.out,←au.out.bind (fun q _=>zd C 4 cSemi q)]
 exact zW rfl ay.out (ax.out.put j.out ..) (aw.out.put (by omega) ..)
theorem zpx (C:Cx) (D z n:Nat) (S:Sv) (q:PS) (w:World) (hm:Mem C D z n S q w) (hw:isT C q.pos 1 zae=true) (h1:isT C (q.pos+1) 4 zF=true):
  Calls Tryz.prog 70 #[pv C D z S q (-1) 0] w (Out C D z n (zaK C q) 0 S w):=by
 have HM:=zc hm
 have aN:=hm.few
 clear hm
 have HV:Hid (zaK C q=bd (zcz C false (adv q)) fun a=>bd (zaQ C (zaA C (.ok a.1))) fun b=>zR (fun e=>zao C (zb8 b.2 e)) a.2 (.ok b.1)):=by
  show _=_
  rw[zaK,zd,if_pos hw,zx]
  rw[zw,h1]
  rfl
 unfold pv
 go_enter Tryz.func70,Tryz.ntmps70
 go_wp2_with fail
 refine (zaC C D z n (.ok q) S q (-1) 0 zae _ (zU q) ((HM.out.alloc _).alloc _)).mono ?_
 rintro e w1 ⟨S1,q1,z1,rfl,i1,m1,s1⟩
 obtain⟨L,M,t1⟩:=HM.out.two2 s1
 have h:=zc L
 have o:=zc M
 have aK:=zc m1
 have aO:=zc t1
 have aD:=zc i1
 clear L M i1 m1 t1 s1
 obtain⟨ae,rfl⟩:=zcF aD.out hw
 have HQ:=zc ae
 have aw:Hid (q1.pos=q.pos+1):=by show q1.pos=q.pos+1;rw[ae];rfl
 clear ae aD
 obtain⟨a0,a1,a2,a3,a4,a5,a6,a7,a8,a9,H,I,af⟩:=h.out.box
 unfold pv
 go_upto_region 2 with fail
 refine zJ (R:=fun W=>Bx D S1 W (w.heap.size) _∧Bx D S1 W (w.heap.size+1) _∧Mem C D z n S1 q1 W∧SB w.heap.size S w S1 W) ⟨(h.out.put ..),(o.out.other (by omega) ..),(aK.out.put h.out ..),(aO.out.put (by omega) ..)⟩ ?_
 clear a0 a1 a2 a3 a4 a5 a6 a7 a8 a9 H I af
 clear h o aO aK
 rintro w2 ⟨L,M,m2,t2⟩
 have h:=zc L
 have o:=zc M
 have ak:=zc m2
 have aC:=zc t2
 clear m2 t2 L M
 obtain⟨a0,a1,a2,a3,a4,a5,a6,a7,a8,a9,H,I,af⟩:=h.out.box
 go_wp2_with fail
 refine (zg C D z n S1 q1 (-1) 0 4 zF _ ak.out.tok aN (by decide)).mono ?_
 rintro e w3 ⟨rfl,aa⟩
 rw[aw.out,h1]
 replace h:=zc (h.out.below aa)
 replace o:=zc (o.out.below aa)
 have am:=zc (aC.out.below aa)
 have ar:=zc (ak.out.later aa)
 clear aa aC ak
 clear a0 a1 a2 a3 a4 a5 a6 a7 a8 a9 H I af
 obtain⟨a0,a1,a2,a3,a4,a5,a6,a7,a8,a9,H,I,af⟩:=h.out.box
 clear aw
 have aU:=am.out.size
 go_wp2_with fail
 refine (ziZ C D z n S1 q1 0 false _ ar.out).mono ?_
 rintro e w4 ⟨S4,q4,z4,⟨ra,rc⟩,l,rfl,i4,m4,s4,R0,hl⟩
 obtain⟨g,rfl⟩: ∃g,ra=some ⟨g,0,none⟩:=R0.addr
 replace h:=zc (h.out.stp s4)
 replace o:=zc (o.out.stp s4)
 have aI:=zc (am.out.step s4)
 clear am
 have ai:=zc m4
 have ay:=zc i4
 clear i4 m4 s4 ar
 clear a0 a1 a2 a3 a4 a5 a6 a7 a8 a9 H I af
 have E:Hid (Row S4 w4 n w.heap.size ⟨some ⟨g,0,none⟩,rc⟩ l):=⟨R0.own,R0.free,fun k hk=>Nat.le_trans aU (R0.new k hk),R0.addr⟩
 clear R0
 have aY:w.heap.size+1<w4.heap.size:=o.out.lt
 unfold pv
 go_upto_region 4 with fail
 refine zJ (R:=fun W=>Bx D S4 W (w.heap.size) _∧Bx D S4 W (w.heap.size+1) _∧Bx D S4 W (w4.heap.size) _∧Row S4 W n w.heap.size ⟨some ⟨g,0,none⟩,rc⟩ l∧Mem C D z n S4 q4 W∧SB w.heap.size S w S4 W) ⟨(h.out.alloc _),(o.out.alloc _),(Bx.new ai.out _),(E.out.alloc _),(ai.out.alloc _),(aI.out.alloc _)⟩ ?_
 clear h o aI ai
 clear E
 rintro w5 ⟨L,M,X2,R0,m5,t5⟩
 have E:=zc R0
 clear R0
 have h:=zc L
 have o:=zc M
 have A:=zc X2
 have ap:=zc m5
 have aL:=zc t5
 clear m5 t5 L M X2
 obtain⟨c0,c1,c2,c3,c4,c5,c6,c7,c8,c9,aS,aW,cf⟩:=A.out.box
 go_wp2_with fail
 refine (zaC C D z n _ S4 q4 z4 0 zP _ ay.out.fst ap.out).mono ?_
 rintro e w6 ⟨S6,q6,z6,rfl,i6,m6,s6⟩
 replace h:=zc (h.out.stp s6)
 replace o:=zc (o.out.stp s6)
 replace A:=zc (A.out.stp s6)
 have aF:=zc (aL.out.step s6)
 have K:Hid (Row S6 w6 n w.heap.size ⟨some ⟨g,0,none⟩,rc⟩ l):=E.out.stp s6
 clear E
 have E:=zc K
 clear K
 clear aL
 have aJ:=zc m6
 have aX:=zc i6
 clear i6 m6 s6 ap
 clear c0 c1 c2 c3 c4 c5 c6 c7 c8 c9 aS aW cf
 go_wp2_with fail
 refine (zdy C D z n _ S6 q6 z6 0 _ aX.out aJ.out).mono ?_
 rintro e w7 ⟨S7,q7,z7,n7,rfl,i7,m7,s7⟩
 replace h:=zc (h.out.stp s7)
 replace o:=zc (o.out.stp s7)
 replace A:=zc (A.out.stp s7)
 have az:=zc (aF.out.step s7)
 have K:Hid (Row S7 w7 n w.heap.size ⟨some ⟨g,0,none⟩,rc⟩ l):=E.out.stp s7
 clear E
 have E:=zc K
 clear K
 clear aF
 have ah:=zc m7
 have aB:=zc i7
 clear i7 m7 s7 aJ
 have aZ:w.heap.size+1<w7.heap.size:=o.out.lt
 have aP:w4.heap.size<w7.heap.size:=A.out.lt
 unfold pv
 go_upto_region 5 with fail
 refine zJ (R:=fun W=>Bx D S7 W (w.heap.size) _∧Bx D S7 W (w.heap.size+1) _∧Bx D S7 W (w4.heap.size) _∧Bx D S7 W (w7.heap.size) _∧Row S7 W n w.heap.size ⟨some ⟨g,0,none⟩,rc⟩ l∧Mem C D z n S7 q7 W∧SB w.heap.size S w S7 W) ⟨(h.out.alloc _),(o.out.alloc _),(A.out.alloc _),(Bx.new ah.out _),(E.out.alloc _),(ah.out.alloc _),(az.out.alloc _)⟩ ?_
 clear h o A az ah
 clear E
 rintro w8 ⟨L,M,X2,X3,R0,m8,t8⟩
 have E:=zc R0
 clear R0
 have h:=zc L
 have o:=zc M
 have A:=zc X2
 have O:=zc X3
 have au:=zc m8
 have av:=zc t8
 clear m8 t8 L M X2 X3
 obtain⟨d0,d1,d2,d3,d4,d5,d6,d7,d8,d9,ag,aj,df⟩:=O.out.box
 go_wp2_with fail
 refine (zab C D z n _ S7 q7 z7 0 cSemi _ aB.out.fst au.out).mono ?_
 rintro e w9 ⟨X,q9,z9,rfl,i9,m9,s9⟩
 replace h:=zc (h.out.stp s9)
 replace o:=zc (o.out.stp s9)
 replace A:=zc (A.out.stp s9)
 replace O:=zc (O.out.stp s9)
 have Z:=zc (av.out.step s9)
 have K:Hid (Row X w9 n w.heap.size ⟨some ⟨g,0,none⟩,rc⟩ l):=E.out.stp s9
 clear E
 have E:=zc K
 clear K
 clear av
 have Y:=zc m9
 have V:=zc i9
 clear i9 m9 s9 au
 clear d0 d1 d2 d3 d4 d5 d6 d7 d8 d9 ag aj df
 obtain⟨a0,a1,a2,a3,a4,a5,a6,a7,a8,a9,H,I,af⟩:=h.out.box
 unfold pv
 go_upto_region 6 with fail
 refine zJ (R:=fun W=>Bx D X W (w.heap.size) _∧Bx D X W (w.heap.size+1) _∧Bx D X W (w4.heap.size) _∧Bx D X W (w7.heap.size) _∧Row X W n w.heap.size ⟨some ⟨g,0,none⟩,rc⟩ l∧Mem C D z n X q9 W∧SB w.heap.size S w X W) ⟨(h.out.put ..),(o.out.other (by omega) ..),(A.out.other (by omega) ..),(O.out.other (by omega) ..),(E.out.put h.out ..),(Y.out.put h.out ..),(Z.out.put (by omega) ..)⟩ ?_
 clear a0 a1 a2 a3 a4 a5 a6 a7 a8 a9 H I af
 clear h o A O Z Y
 clear E
 rintro ax ⟨L,M,X2,X3,R0,ab,aq⟩
 have E:=zc R0
 clear R0
 have h:=zc L
 have o:=zc M
 have A:=zc X2
 have O:=zc X3
 have U:=zc ab
 have ad:=zc aq
 clear ab aq L M X2 X3
 have aQ:Hid (_=_):=zg3 (G:=fun b e=>zao C (zb8 b e)) ay.out aB.out
 go_wp2
 go_loopg [8] l.length (fun k i wr=>∃(j:Nat) (x':PR) (N:Sv) (q':PS) (z':Int),j≤l.length∧i= .int .i64 j∧Is x' q' z'∧(z'<0→1≤q'.pos)∧zR (fun e=>zao C (zb8 n7 e)) (l.drop j) x'=zaK C q∧l.length-j=k∧Mem C D z n N q' wr∧SB w.heap.size S w N wr∧Bx D N wr w.heap.size #[.slice (some ⟨D,0,none⟩) C.ts.length z,.int .i64 q'.pos,.int .i64 C.fin,.bool C.scr,.slice N.rq.a q'.rq.length N.rq.cap,.slice N.im.a q'.im.length N.im.cap,.slice N.ep.a q'.ep.length N.ep.cap,.slice N.st.a q'.st.length N.st.cap,.slice N.ex.a q'.ex.length N.ex.cap,.slice N.la.a q'.la.length N.la.cap,.int .i64 z',.int .i64 0]∧Bx D N wr (w.heap.size+1) #[.slice none 0 0,.int .i64 0,.int .i64 0,.bool false,.slice none 0 0,.slice none 0 0,.slice none 0 0,.slice none 0 0,.slice none 0 0,.slice none 0 0,.int .i64 0,.int .i64 0]∧Row N wr n w.heap.size ⟨some ⟨g,0,none⟩,rc⟩ l)
 case atStart=>exact⟨0,_,X,q9,z9,Nat.zero_le _,rfl,V.out,zaZ V.out,by rw[HV.out,←HQ.out];exact aQ.out,rfl,U.out,ad.out,h.out,o.out,E.out⟩
 case round=>
  obtain⟨j,x9,X,q9,z9,hj,rfl,i9,p9,e9,g9,m9,t9,L,M,R0⟩:=hrel
  clear h o A O E U ad
  have h:=zc L
  have o:=zc M
  have Y:=zc m9
  have Z:=zc t9
  have V:=zc i9
  have aE:=zc p9
  have ao:=zc e9
  have aG:=zc g9
  have E:=zc R0
  clear L M i9 m9 t9 e9 g9 R0 p9
  by_cases an:j<l.length
  ·skip
   obtain⟨c1,c2⟩:=E.out.cells (g:=g) rfl an
   have bc:=E.out.own.lt (g:=g) rfl
   have HX:Hid (∀e,e=l[j]→zR (fun e=>zao C (zb8 n7 e)) (l.drop (j+1)) (bd x9 (zao C (zb8 n7 e)))=zaK C q):=fun e he=>by rw[he,←ao.out];exact (zf2 (fun e=>zao C (zb8 n7 e)) l x9 an).symm
   generalize aM:l[j]=el at c1 c2
   have aR:Hid (el=l[j]):=aM.symm
   clear aM
   obtain⟨a0,a1,a2,a3,a4,a5,a6,a7,a8,a9,H,I,af⟩:=h.out.box
   go_upto_region 9 with fail
   go_region_law (first|(go_simp;go_wp2_with (go_at_call 132;refine (zfR C D z n x9 X q9 z9 0 (zb8 n7 el) _ V.out Y.out.drew aE.out).mono ?_;rintro e ax ⟨aA,aT,aV,rfl,aH,ab,al⟩;obtain⟨d0,d1,d2,d3,d4,d5,d6,d7,d8,d9,ag,aj,df⟩:=(h.out.stp al.undrew).box;unfold pv)))
   all_goals
    clear a0 a1 a2 a3 a4 a5 a6 a7 a8 a9 H I af d0 d1 d2 d3 d4 d5 d6 d7 d8 d9 ag aj df
    have ac:=zc aH
    have U:=zc ab
    have J:Hid (Stp X wr aA ax):=al.undrew
    clear aH ab al
    go_wp2
    go_roundg (gk-1)
    case rel=>exact⟨j+1,_,aA,aT,aV,by omega,by go_num,ac.out,zpt aE.out V.out ac.out,HX.out el aR.out,by have:=aG.out;omega,U.out.put (h.out.stp J.out) _ _ _ _ _ _ _ _ _ _ _ _,(Z.out.step J.out).put (by omega) _ _ _ _ _ _ _ _ _ _ _ _,(h.out.stp J.out).put _ _ _ _ _ _ _ _ _ _ _ _,(o.out.stp J.out).other (by omega) _ _ _ _ _ _ _ _ _ _ _ _,(E.out.stp J.out).put (h.out.stp J.out) _ _ _ _ _ _ _ _ _ _ _ _⟩
    case measure=>have:=aG.out;omega
  ·skip
   obtain⟨a0,a1,a2,a3,a4,a5,a6,a7,a8,a9,H,I,af⟩:=h.out.box
   obtain⟨b0,b1,b2,b3,b4,b5,b6,b7,b8,b9,ba,bb,bf⟩:=o.out.box
   go_wp2
   refine bodyPost_ret (results_cell_row rfl _ _ (w.heap.size+1) 53 _ (0,0) _ rfl ((o.out.put ..)).heap Tryz.underlying53 rfl (by kernel_rfl)) rfl ?_
   exact zW rfl (show Is (zaK C q) q9 z9 from by rw[←ao.out,List.drop_eq_nil_of_le (by omega)];exact V.out) (Y.out.put o.out ..) (Z.out.put (by omega) ..)
theorem zpy {C:Cx} {k:Int} {n:ByteArray} {q q':PS} (h:zX C k n q= .ok q'):q'={q with st:=q.st++[⟨k,n,(q.ex.length:Int)-1⟩]}∧q.st.length<80:=by
 unfold zX at h
 split at h
 ·cases h
 ·cases h
  exact⟨rfl,by omega⟩
theorem zjo {C:Cx} {x:PR} {k:Int} {s:ByteArray} {j:Int} {n:ByteArray} {q:PS} {z:Int} (h:Is (bd (bd x (zd C k s)) (zX C j n)) q z):z<0→1≤q.pos:=by
 intro D
 obtain⟨e,_⟩:=za7 h D
 obtain⟨a,o,A⟩:=zi e
 obtain⟨b,_,w⟩:=zi o
 obtain⟨rfl,_⟩:=zb0 w
 obtain⟨rfl,_⟩:=zpy A
 simp[adv]
theorem zjp {C:Cx} {y:PRN} {G:PR→PR} {k:Int} {s:ByteArray} {j:Int} {q:PS} {z:Int} {n:ByteArray} (h:Is2 (withN y fun x n=>bd (bd (G x) (zd C k s)) (zX C j n)) q z n):z<0→1≤q.pos:=by
 intro A
 cases y with
 |error e=>have:z=(e:Int):=h;omega
 |ok a=>
  have o:Is2 (bd (bd (bd (G (.ok a.1)) (zd C k s)) (zX C j a.2)) fun q=>.ok (q,a.2)) q z n:=h
  cases w:bd (bd (G (.ok a.1)) (zd C k s)) (zX C j a.2) with
  |error e=>rw[w] at o;have:z=(e:Int):=o;omega
  |ok b=>
   rw[w] at o
   obtain⟨rfl,rfl,_⟩:=o
   exact zjo (show Is (bd (bd (G (.ok a.1)) (zd C k s)) (zX C j a.2)) q (-1) by rw[w];exact⟨rfl,rfl⟩) (by decide)
theorem zpz {C:Cx} {j q:PS} {z:Int} {n:ByteArray} (h:Is2 (zcm C j) q z n):z<0→1≤q.pos:=zjp (G:=fun x=>bd (bd x (zd C 4 cEq)) (pE C .sum 0)) h
theorem zp0 {C:Cx} {j q:PS} {z:Int} {n:ByteArray} (h:Is2 (fnP C j) q z n):z<0→1≤q.pos:=zjp (G:=fun x=>bd (bd (bd (bd (bd (bd x (zd C 4 zm)) (zd C 4 zay)) (zd C 4 zF)) (zd C 1 zd6)) (pE C .sum 0)) (zd C 4 cSemi)) h
theorem zp1 {C:Cx} {x:PR} {n:PS} {z:Int} {j:ByteArray} {G:ByteArray→PS→PR} (h:Is2 (bd (bd x (zd C 1 zP)) (zG C)) n z j):
  bd (bd (zaG (bd (bd x (zd C 1 zP)) (zG C))) (zd C 4 cSemi)) (G j)=bd (zaQ C (zaA C x)) fun b=>G b.2 b.1:=by
 have o:bd (bd x (zd C 1 zP)) (zG C)=zaA C x:=rfl
 rw[o] at h ⊢
 cases w:zaA C x with
 |error e=>rfl
 |ok b=>
  rw[w] at h
  obtain⟨_,_,rfl⟩:=h
  show bd (zd C 4 cSemi b.1) (G b.2)=bd (bd (zd C 4 cSemi b.1) fun q=>.ok (q,b.2)) fun b=>G b.2 b.1
  rw[zK]
  rfl
theorem zp2 {C:Cx} {y:PRL} {n:PS} {h:Int} {l:List Ep} {f:Ep→PS→PR} {D:PS×List Ep→PR} (o:Is3 y n h l) (w:za5 l=false) (j:(decide (h<0)&&isT C n.pos 1 zP)=false):
  zR f l (bd (ze8 y) (zd C 4 cSemi))=bd y fun a=>if !za5 a.2&& !isT C a.1.pos 1 zP then bd (zd C 4 cSemi a.1) fun q=>zR f a.2 (.ok q) else D a:=by
 cases y with
 |error e=>exact ze7 _ _ _
 |ok a=>
  obtain⟨rfl,rfl,rfl⟩:=o
  rw[Bool.and_eq_false_iff] at j
  rw[zx,w,j.resolve_left (by decide)]
  show zR f a.2 (zd C 4 cSemi a.1)=bd (zd C 4 cSemi a.1) fun q=>zR f a.2 (.ok q)
  cases zd C 4 cSemi a.1 with
  |error e=>exact ze7 _ _ _
  |ok c=>rfl
theorem zjq {C:Cx} {y:PRL} {o:PS} {n:Int} {l:List Ep} {D E:PS×List Ep→PR} (q:Is3 y o n l) (j:za5 l=true∨(decide (n<0)&&isT C o.pos 1 zP)=true):
  bd y D=bd y fun a=>if !za5 a.2&& !isT C a.1.pos 1 zP then E a else D a:=by
 cases y with
 |error e=>rfl
 |ok a=>
  obtain⟨rfl,rfl,rfl⟩:=q
  rw[zx,zx]
  rcases j with h|h
  ·rw[h];rfl
  ·rw[Bool.and_eq_true] at h
   rw[h.2,Bool.not_true,Bool.and_false]
   rfl
theorem zp3 (C:Cx) (z o n:Nat) (S:Sv) (q:PS) (w:World) (hm:Mem C z o n S q w) (hw:isT C q.pos 1 zad=true) (h1:isT C (q.pos+1) 4 zF=false) (h2:isT C (q.pos+1) 4 zv=true):
  Calls Tryz.prog 71 #[pv C z o S q (-1) 0] w (Out C z o n (zaf C q) 0 S w):=by
 have HM:=zc hm
 have N:=hm.few
 clear hm
 have HV:Hid (zaf C q=bd (zaQ C (zaA C (bd (.ok (adv q)) (zd C 4 zv)))) fun b=>zn C ⟨3,sNone,sNone,b.2⟩ b.1):=by
  show _=_
  rw[zaf,zd,if_pos hw,zx]
  rw[zw,h1,h2]
  rfl
 unfold pv
 go_enter Tryz.func71,Tryz.ntmps71
 go_wp2_with fail
 refine (zaC C z o n (.ok q) S q (-1) 0 zad _ (zU q) ((HM.out.alloc _).alloc _)).mono ?_
 rintro e w1 ⟨S1,K,z1,rfl,i1,m1,s1⟩
 obtain⟨L,M,t1⟩:=HM.out.two2 s1
 have h:=zc L
 have j:=zc M
 have ax:=zc m1
 have aA:=zc t1
 have ao:=zc i1
 clear L M i1 m1 t1 s1
 obtain⟨O,rfl⟩:=zcF ao.out hw
 have HQ:=zc O
 have Y:Hid (K.pos=q.pos+1):=by show K.pos=q.pos+1;rw[O];rfl
 clear O ao
 obtain⟨a0,a1,Z,U,a4,a5,a6,a7,a8,a9,A,D,af⟩:=h.out.box
 unfold pv
 go_upto_region 2 with fail
 refine zJ (R:=fun W=>Bx z S1 W (w.heap.size) _∧Bx z S1 W (w.heap.size+1) _∧Mem C z o n S1 K W∧SB w.heap.size S w S1 W) ⟨(h.out.put ..),(j.out.other (by omega) ..),(ax.out.put h.out ..),(aA.out.put (by omega) ..)⟩ ?_
 clear a0 a1 Z U a4 a5 a6 a7 a8 a9 A D af
 clear h j aA ax
 rintro w2 ⟨L,M,m2,t2⟩
 have h:=zc L
 have j:=zc M
 have aa:=zc m2
 have al:=zc t2
 clear m2 t2 L M
 obtain⟨a0,a1,Z,U,a4,a5,a6,a7,a8,a9,A,D,af⟩:=h.out.box
 go_wp2_with fail
 refine (zg C z o n S1 K (-1) 0 4 zF _ aa.out.tok N (by decide)).mono ?_
 rintro e w3 ⟨rfl,H⟩
 rw[Y.out,h1]
 replace h:=zc (h.out.below H)
 replace j:=zc (j.out.below H)
 have aq:=zc (al.out.below H)
 have X:=zc (aa.out.later H)
 clear H al aa
 clear a0 a1 Z U a4 a5 a6 a7 a8 a9 A D af
 obtain⟨a0,a1,Z,U,a4,a5,a6,a7,a8,a9,A,D,af⟩:=h.out.box
 go_wp2_with fail
 refine (zg C z o n S1 K (-1) 0 4 zv _ X.out.tok N (by decide)).mono ?_
 rintro e w4 ⟨rfl,J⟩
 rw[Y.out,h2]
 replace h:=zc (h.out.below J)
 replace j:=zc (j.out.below J)
 have av:=zc (aq.out.below J)
 have ac:=zc (X.out.later J)
 clear J aq X
 clear a0 a1 Z U a4 a5 a6 a7 a8 a9 A D af
 obtain⟨a0,a1,Z,U,a4,a5,a6,a7,a8,a9,A,D,af⟩:=h.out.box
 clear Y
 go_wp2_with fail
 refine (zab C z o n (.ok K) S1 K (-1) 0 zv _ (zU K) ac.out).mono ?_
 rintro e w5 ⟨S5,q5,z5,rfl,i5,m5,s5⟩
 replace h:=zc (h.out.stp s5)
 replace j:=zc (j.out.stp s5)
 have ay:=zc (av.out.step s5)
 clear av
 have ae:=zc m5
 have aB:=zc i5
 clear i5 m5 s5 ac
 clear a0 a1 Z U a4 a5 a6 a7 a8 a9 A D af
 go_wp2_with fail
 refine (zaC C z o n _ S5 q5 z5 0 zP _ aB.out ae.out).mono ?_
 rintro e w6 ⟨S6,q6,z6,rfl,i6,m6,s6⟩
 replace h:=zc (h.out.stp s6)
 replace j:=zc (j.out.stp s6)
 have ap:=zc (ay.out.step s6)
 clear ay
 have aw:=zc m6
 have aE:=zc i6
 clear i6 m6 s6 ae
 go_wp2_with fail
 refine (zdy C z o n _ S6 q6 z6 0 _ aE.out aw.out).mono ?_
 rintro e w7 ⟨S7,q7,z7,n7,rfl,i7,m7,s7⟩
 replace h:=zc (h.out.stp s7)
 replace j:=zc (j.out.stp s7)
 have aj:=zc (ap.out.step s7)
 clear ap
 have V:=zc m7
 have ak:=zc i7
 clear i7 m7 s7 aw
 have aF:w.heap.size+1<w7.heap.size:=j.out.lt
 unfold pv
 go_upto_region 20 with fail
 refine zJ (R:=fun W=>Bx z S7 W (w.heap.size) _∧Bx z S7 W (w.heap.size+1) _∧Bx z S7 W (w7.heap.size) _∧Mem C z o n S7 q7 W∧SB w.heap.size S w S7 W) ⟨(h.out.alloc _),(j.out.alloc _),(Bx.new V.out _),(V.out.alloc _),(aj.out.alloc _)⟩ ?_
 clear h j aj V
 rintro w8 ⟨L,M,X2,m8,t8⟩
 have h:=zc L
 have j:=zc M
 have E:=zc X2
 have ag:=zc m8
 have ah:=zc t8
 clear m8 t8 L M X2
 obtain⟨c0,c1,c2,c3,c4,c5,c6,c7,c8,c9,aC,aD,cf⟩:=E.out.box
 go_wp2_with fail
 refine (zab C z o n _ S7 q7 z7 0 cSemi _ ak.out.fst ag.out).mono ?_
 rintro e w9 ⟨S9,q9,z9,rfl,i9,m9,s9⟩
 replace h:=zc (h.out.stp s9)
 replace j:=zc (j.out.stp s9)
 replace E:=zc (E.out.stp s9)
 have ai:=zc (ah.out.step s9)
 clear ah
 have ab:=zc m9
 have an:=zc i9
 clear i9 m9 s9 ag
 clear c0 c1 c2 c3 c4 c5 c6 c7 c8 c9 aC aD cf
 go_wp2_with fail
 refine (zdn C z o n _ S9 q9 z9 0 ⟨3,sNone,sNone,n7⟩ _ an.out ab.out (zaZ an.out)).mono ?_
 rintro e aG ⟨aI,aH,aL,rfl,ar,az,I⟩
 replace h:=zc (h.out.stp I)
 replace j:=zc (j.out.stp I)
 replace E:=zc (E.out.stp I)
 have au:=zc (ai.out.step I)
 clear ai
 have ad:=zc az
 have am:=zc ar
 clear ar az I ab
 obtain⟨b0,b1,b2,b3,b4,b5,b6,b7,b8,b9,aJ,aK,bf⟩:=j.out.box
 unfold pv
 go_wp2
 refine bodyPost_ret (results_cell_row rfl _ _ (w.heap.size+1) 53 _ (0,0) _ rfl ((j.out.put ..)).heap Tryz.underlying53 rfl (by kernel_rfl)) rfl ?_
 rw[HV.out,←HQ.out,←zp1 (G:=fun b=>zn C ⟨3,sNone,sNone,b⟩) ak.out]
 exact zW rfl am.out (ad.out.put j.out ..) (au.out.put (by omega) ..)
theorem zp4 (C:Cx) (z o n:Nat) (S:Sv) (q:PS) (w:World) (hm:Mem C z o n S q w) (hw:isT C q.pos 1 zad=true) (h1:isT C (q.pos+1) 4 zF=false) (h2:isT C (q.pos+1) 4 zv=false) (h3:isT C (q.pos+1) 1 sDefault=true):
  Calls Tryz.prog 71 #[pv C z o S q (-1) 0] w (Out C z o n (zaf C q) 0 S w):=by
 have HM:=zc hm
 have L:=hm.few
 clear hm
 have HV:Hid (zaf C q=bd (bd (bd (bd (bd (.ok (adv q)) (zd C 1 sDefault)) (pE C .sum 0)) (zd C 4 cSemi)) (zX C 1 zbG)) (zn C ⟨1,sDefault,zbG,sNone⟩)):=by
  show _=_
  rw[zaf,zd,if_pos hw,zx]
  rw[zw,h1,h2,h3]
  rfl
 unfold pv
 go_enter Tryz.func71,Tryz.ntmps71
 go_wp2_with fail
 refine (zaC C z o n (.ok q) S q (-1) 0 zad _ (zU q) ((HM.out.alloc _).alloc _)).mono ?_
 rintro e w1 ⟨S1,O,z1,rfl,i1,m1,s1⟩
 obtain⟨X0,X1,t1⟩:=HM.out.two2 s1
 have h:=zc X0
 have j:=zc X1
 have aD:=zc m1
 have aH:=zc t1
 have au:=zc i1
 clear X0 X1 i1 m1 t1 s1
 obtain⟨ad,rfl⟩:=zcF au.out hw
 have HQ:=zc ad
 have U:Hid (O.pos=q.pos+1):=by show O.pos=q.pos+1;rw[ad];rfl
 clear ad au
 obtain⟨X,a1,V,N,a4,a5,a6,a7,Y,Z,A,D,af⟩:=h.out.box
 unfold pv
 go_upto_region 2 with fail
 refine zJ (R:=fun W=>Bx z S1 W (w.heap.size) _∧Bx z S1 W (w.heap.size+1) _∧Mem C z o n S1 O W∧SB w.heap.size S w S1 W) ⟨(h.out.put ..),(j.out.other (by omega) ..),(aD.out.put h.out ..),(aH.out.put (by omega) ..)⟩ ?_
 clear X a1 V N a4 a5 a6 a7 Y Z A D af
 clear h j aH aD
 rintro w2 ⟨X0,X1,m2,t2⟩
 have h:=zc X0
 have j:=zc X1
 have ai:=zc m2
 have ar:=zc t2
 clear m2 t2 X0 X1
 obtain⟨X,a1,V,N,a4,a5,a6,a7,Y,Z,A,D,af⟩:=h.out.box
 go_wp2_with fail
 refine (zg C z o n S1 O (-1) 0 4 zF _ ai.out.tok L (by decide)).mono ?_
 rintro e w3 ⟨rfl,I⟩
 rw[U.out,h1]
 replace h:=zc (h.out.below I)
 replace j:=zc (j.out.below I)
 have ay:=zc (ar.out.below I)
 have ag:=zc (ai.out.later I)
 clear I ar ai
 clear X a1 V N a4 a5 a6 a7 Y Z A D af
 obtain⟨X,a1,V,N,a4,a5,a6,a7,Y,Z,A,D,af⟩:=h.out.box
 go_wp2_with fail
 refine (zg C z o n S1 O (-1) 0 4 zv _ ag.out.tok L (by decide)).mono ?_
 rintro e w4 ⟨rfl,H⟩
 rw[U.out,h2]
 replace h:=zc (h.out.below H)
 replace j:=zc (j.out.below H)
 have aB:=zc (ay.out.below H)
 have ae:=zc (ag.out.later H)
 clear H ay ag
 clear X a1 V N a4 a5 a6 a7 Y Z A D af
 obtain⟨X,a1,V,N,a4,a5,a6,a7,Y,Z,A,D,af⟩:=h.out.box
 go_wp2_with fail
 refine (zg C z o n S1 O (-1) 0 1 sDefault _ ae.out.tok L (by decide)).mono ?_
 rintro e w5 ⟨rfl,M⟩
 rw[U.out,h3]
 replace h:=zc (h.out.below M)
 replace j:=zc (j.out.below M)
 have aE:=zc (aB.out.below M)
 have al:=zc (ae.out.later M)
 clear M aB ae
 clear X a1 V N a4 a5 a6 a7 Y Z A D af
 obtain⟨X,a1,V,N,a4,a5,a6,a7,Y,Z,A,D,af⟩:=h.out.box
 clear U
 go_wp2_with fail
 refine (zaC C z o n (.ok O) S1 O (-1) 0 sDefault _ (zU O) al.out).mono ?_
 rintro e w6 ⟨S6,q6,z6,rfl,i6,m6,s6⟩
 replace h:=zc (h.out.stp s6)
 replace j:=zc (j.out.stp s6)
 have aw:=zc (aE.out.step s6)
 clear aE
 have aC:=zc m6
 have aO:=zc i6
 clear i6 m6 s6 al
 clear X a1 V N a4 a5 a6 a7 Y Z A D af
 go_wp2_with fail
 refine (zcE C z o n _ S6 q6 z6 _ aO.out aC.out).mono ?_
 rintro e w7 ⟨S7,q7,z7,rfl,i7,m7,s7⟩
 replace h:=zc (h.out.stp s7)
 replace j:=zc (j.out.stp s7)
 have ap:=zc (aw.out.step s7)
 clear aw
 have aj:=zc m7
 have aL:=zc i7
 clear i7 m7 s7 aC
 go_wp2_with fail
 refine (zab C z o n _ S7 q7 z7 0 cSemi _ aL.out aj.out).mono ?_
 rintro e w8 ⟨S8,q8,z8,rfl,i8,m8,s8⟩
 replace h:=zc (h.out.stp s8)
 replace j:=zc (j.out.stp s8)
 have an:=zc (ap.out.step s8)
 clear ap
 have ah:=zc m8
 have av:=zc i8
 clear i8 m8 s8 aj
 have aP:w.heap.size+1<w8.heap.size:=j.out.lt
 unfold pv
 go_upto_region 23 with fail
 refine zJ (R:=fun W=>Bx z S8 W (w.heap.size) _∧Bx z S8 W (w.heap.size+1) _∧Bx z S8 W (w8.heap.size) _∧Mem C z o n S8 q8 W∧SB w.heap.size S w S8 W) ⟨(h.out.alloc _),(j.out.alloc _),(Bx.new ah.out _),(ah.out.alloc _),(an.out.alloc _)⟩ ?_
 clear h j an ah
 rintro w9 ⟨X0,X1,X2,m9,t9⟩
 have h:=zc X0
 have j:=zc X1
 have E:=zc X2
 have ak:=zc m9
 have ao:=zc t9
 clear m9 t9 X0 X1 X2
 obtain⟨c0,c1,c2,c3,c4,c5,c6,c7,c8,c9,aI,aN,cf⟩:=E.out.box
 go_wp2_with fail
 refine (zc4 C z o n _ S8 q8 z8 0 1 zbG _ av.out ak.out (zaZ av.out)).mono ?_
 rintro e aR ⟨aK,aJ,aM,rfl,az,aG,K⟩
 replace h:=zc (h.out.stp K)
 replace j:=zc (j.out.stp K)
 replace E:=zc (E.out.stp K)
 have ac:=zc (ao.out.step K)
 clear ao
 have aa:=zc aG
 have ab:=zc az
 clear az aG K ak
 clear c0 c1 c2 c3 c4 c5 c6 c7 c8 c9 aI aN cf
 go_wp2_with fail
 refine (zdn C z o n _ aK aJ aM 0 ⟨1,sDefault,zbG,sNone⟩ _ ab.out aa.out (zjo ab.out)).mono ?_
 rintro e aV ⟨aW,aQ,aT,rfl,am,aF,J⟩
 replace h:=zc (h.out.stp J)
 replace j:=zc (j.out.stp J)
 replace E:=zc (E.out.stp J)
 have ax:=zc (ac.out.step J)
 clear ac
 have aq:=zc aF
 have aA:=zc am
 clear am aF J aa
 obtain⟨b0,b1,b2,b3,b4,b5,b6,b7,b8,b9,aS,aU,bf⟩:=j.out.box
 unfold pv
 go_wp2
 refine bodyPost_ret (results_cell_row rfl _ _ (w.heap.size+1) 53 _ (0,0) _ rfl ((j.out.put ..)).heap Tryz.underlying53 rfl (by kernel_rfl)) rfl ?_
 rw[HV.out,←HQ.out]
 exact zW rfl aA.out (aq.out.put j.out ..) (ax.out.put (by omega) ..)
theorem zp5 (C:Cx) (E z o:Nat) (S:Sv) (q:PS) (w:World) (hm:Mem C E z o S q w) (hw:isT C q.pos 1 zad=true) (h1:isT C (q.pos+1) 4 zF=false) (h2:isT C (q.pos+1) 4 zv=false) (h3:isT C (q.pos+1) 1 sDefault=false) (h4:isT C (q.pos+1) 1 zA=true):
  Calls Tryz.prog 71 #[pv C E z S q (-1) 0] w (Out C E z o (zaf C q) 0 S w):=by
 have HM:=zc hm
 have H:=hm.few
 clear hm
 have HV:Hid (zaf C q=bd (zcm C (adv q)) fun a=>zn C ⟨1,a.2,a.2,sNone⟩ a.1):=by
  show _=_
  rw[zaf,zd,if_pos hw,zx]
  rw[zw,h1,h2,h3,h4]
  rfl
 unfold pv
 go_enter Tryz.func71,Tryz.ntmps71
 go_wp2_with fail
 refine (zaC C E z o (.ok q) S q (-1) 0 zad _ (zU q) ((HM.out.alloc _).alloc _)).mono ?_
 rintro e w1 ⟨S1,q1,z1,rfl,i1,m1,s1⟩
 obtain⟨X0,X1,t1⟩:=HM.out.two2 s1
 have h:=zc X0
 have j:=zc X1
 have aw:=zc m1
 have ay:=zc t1
 have ap:=zc i1
 clear X0 X1 i1 m1 t1 s1
 obtain⟨ac,rfl⟩:=zcF ap.out hw
 have HQ:=zc ac
 have J:Hid (q1.pos=q.pos+1):=by show q1.pos=q.pos+1;rw[ac];rfl
 clear ac ap
 obtain⟨M,U,L,I,Y,a5,V,X,N,O,A,D,af⟩:=h.out.box
 unfold pv
 go_upto_region 2 with fail
 refine zJ (R:=fun W=>Bx E S1 W (w.heap.size) _∧Bx E S1 W (w.heap.size+1) _∧Mem C E z o S1 q1 W∧SB w.heap.size S w S1 W) ⟨(h.out.put ..),(j.out.other (by omega) ..),(aw.out.put h.out ..),(ay.out.put (by omega) ..)⟩ ?_
 clear M U L I Y a5 V X N O A D af
 clear h j ay aw
 rintro w2 ⟨X0,X1,m2,t2⟩
 have h:=zc X0
 have j:=zc X1
 have ak:=zc m2
 have ao:=zc t2
 clear m2 t2 X0 X1
 obtain⟨M,U,L,I,Y,a5,V,X,N,O,A,D,af⟩:=h.out.box
 go_wp2_with fail
 refine (zg C E z o S1 q1 (-1) 0 4 zF _ ak.out.tok H (by decide)).mono ?_
 rintro e w3 ⟨rfl,K⟩
 rw[J.out,h1]
 replace h:=zc (h.out.below K)
 replace j:=zc (j.out.below K)
 have ar:=zc (ao.out.below K)
 have ai:=zc (ak.out.later K)
 clear K ao ak
 clear M U L I Y a5 V X N O A D af
 obtain⟨M,U,L,I,Y,a5,V,X,N,O,A,D,af⟩:=h.out.box
 go_wp2_with fail
 refine (zg C E z o S1 q1 (-1) 0 4 zv _ ai.out.tok H (by decide)).mono ?_
 rintro e w4 ⟨rfl,ab⟩
 rw[J.out,h2]
 replace h:=zc (h.out.below ab)
 replace j:=zc (j.out.below ab)
 have au:=zc (ar.out.below ab)
 have ae:=zc (ai.out.later ab)
 clear ab ar ai
 clear M U L I Y a5 V X N O A D af
 obtain⟨M,U,L,I,Y,a5,V,X,N,O,A,D,af⟩:=h.out.box
 go_wp2_with fail
 refine (zg C E z o S1 q1 (-1) 0 1 sDefault _ ae.out.tok H (by decide)).mono ?_
 rintro e w5 ⟨rfl,Z⟩
 rw[J.out,h3]
 replace h:=zc (h.out.below Z)
 replace j:=zc (j.out.below Z)
 have ax:=zc (au.out.below Z)
 have ag:=zc (ae.out.later Z)
 clear Z au ae
 clear M U L I Y a5 V X N O A D af
 obtain⟨M,U,L,I,Y,a5,V,X,N,O,A,D,af⟩:=h.out.box
 go_wp2_with fail
 refine (zg C E z o S1 q1 (-1) 0 1 zA _ ag.out.tok H (by decide)).mono ?_
 rintro e w6 ⟨rfl,aa⟩
 rw[J.out,h4]
 replace h:=zc (h.out.below aa)
 replace j:=zc (j.out.below aa)
 have aq:=zc (ax.out.below aa)
 have av:=zc (ag.out.later aa)
 clear aa ax ag
 clear M U L I Y a5 V X N O A D af
 obtain⟨M,U,L,I,Y,a5,V,X,N,O,A,D,af⟩:=h.out.box
 clear J
 go_wp2_with fail
 refine (zg1 C E z o S1 q1 _ av.out).mono ?_
 rintro e w7 ⟨S7,q7,z7,n7,rfl,i7,m7,s7⟩
 replace h:=zc (h.out.stp s7)
 replace j:=zc (j.out.stp s7)
 have an:=zc (aq.out.step s7)
 clear aq
 have ad:=zc m7
 have aj:=zc i7
 clear i7 m7 s7 av
 clear M U L I Y a5 V X N O A D af
 have aE:w.heap.size+1<w7.heap.size:=j.out.lt
 unfold pv
 go_upto_region 26 with fail
 refine zJ (R:=fun W=>Bx E S7 W (w.heap.size) _∧Bx E S7 W (w.heap.size+1) _∧Bx E S7 W (w7.heap.size) _∧Mem C E z o S7 q7 W∧SB w.heap.size S w S7 W) ⟨(h.out.alloc _),(j.out.alloc _),(Bx.new ad.out _),(ad.out.alloc _),(an.out.alloc _)⟩ ?_
 clear h j an ad
 rintro w8 ⟨X0,X1,X2,m8,t8⟩
 have h:=zc X0
 have j:=zc X1
 have ah:=zc X2
 have al:=zc m8
 have am:=zc t8
 clear m8 t8 X0 X1 X2
 obtain⟨c0,c1,c2,c3,c4,c5,c6,c7,c8,c9,aA,aD,cf⟩:=ah.out.box
 go_wp2_with fail
 refine (zdn C E z o _ S7 q7 z7 0 ⟨1,n7,n7,sNone⟩ _ aj.out.fst al.out (zpz aj.out)).mono ?_
 rintro e w9 ⟨S9,q9,z9,rfl,i9,m9,s9⟩
 replace h:=zc (h.out.stp s9)
 replace j:=zc (j.out.stp s9)
 replace ah:=zc (ah.out.stp s9)
 have aB:=zc (am.out.step s9)
 clear am
 have az:=zc m9
 have aC:=zc i9
 clear i9 m9 s9 al
 clear c0 c1 c2 c3 c4 c5 c6 c7 c8 c9 aA aD cf
 obtain⟨b0,b1,b2,b3,b4,b5,b6,b7,b8,b9,aF,aG,bf⟩:=j.out.box
 unfold pv
 go_wp2
 refine bodyPost_ret (results_cell_row rfl _ _ (w.heap.size+1) 53 _ (0,0) _ rfl ((j.out.put ..)).heap Tryz.underlying53 rfl (by kernel_rfl)) rfl ?_
 rw[HV.out,←HQ.out,←aj.out.bind (fun q n=>zn C ⟨1,n,n,sNone⟩ q)]
 exact zW rfl aC.out (az.out.put j.out ..) (aB.out.put (by omega) ..)
theorem zp6 (C:Cx) (E D o:Nat) (S:Sv) (q:PS) (w:World) (hm:Mem C E D o S q w) (hw:isT C q.pos 1 zad=true) (h1:isT C (q.pos+1) 4 zF=false) (h2:isT C (q.pos+1) 4 zv=false) (h3:isT C (q.pos+1) 1 sDefault=false) (h4:isT C (q.pos+1) 1 zA=false) (h5:isT C (q.pos+1) 1 zO=true):
  Calls Tryz.prog 71 #[pv C E D S q (-1) 0] w (Out C E D o (zaf C q) 0 S w):=by
 have HM:=zc hm
 have H:=hm.few
 clear hm
 have HV:Hid (zaf C q=bd (fnP C (adv q)) fun a=>zn C ⟨1,a.2,a.2,sNone⟩ a.1):=by
  show _=_
  rw[zaf,zd,if_pos hw,zx]
  rw[zw,h1,h2,h3,h4,h5]
  rfl
 unfold pv
 go_enter Tryz.func71,Tryz.ntmps71
 go_wp2_with fail
 refine (zaC C E D o (.ok q) S q (-1) 0 zad _ (zU q) ((HM.out.alloc _).alloc _)).mono ?_
 rintro e w1 ⟨S1,q1,z1,rfl,i1,m1,s1⟩
 obtain⟨X0,X1,t1⟩:=HM.out.two2 s1
 have h:=zc X0
 have j:=zc X1
 have aG:=zc m1
 have aJ:=zc t1
 have aA:=zc i1
 clear X0 X1 i1 m1 t1 s1
 obtain⟨ah,rfl⟩:=zcF aA.out hw
 have HQ:=zc ah
 have J:Hid (q1.pos=q.pos+1):=by show q1.pos=q.pos+1;rw[ah];rfl
 clear ah aA
 obtain⟨L,O,K,I,X,Y,U,V,M,N,z,A,Z⟩:=h.out.box
 unfold pv
 go_upto_region 2 with fail
 refine zJ (R:=fun W=>Bx E S1 W (w.heap.size) _∧Bx E S1 W (w.heap.size+1) _∧Mem C E D o S1 q1 W∧SB w.heap.size S w S1 W) ⟨(h.out.put ..),(j.out.other (by omega) ..),(aG.out.put h.out ..),(aJ.out.put (by omega) ..)⟩ ?_
 clear L O K I X Y U V M N z A Z
 clear h j aJ aG
 rintro w2 ⟨X0,X1,m2,t2⟩
 have h:=zc X0
 have j:=zc X1
 have an:=zc m2
 have ay:=zc t2
 clear m2 t2 X0 X1
 obtain⟨L,O,K,I,X,Y,U,V,M,N,z,A,Z⟩:=h.out.box
 go_wp2_with fail
 refine (zg C E D o S1 q1 (-1) 0 4 zF _ an.out.tok H (by decide)).mono ?_
 rintro e w3 ⟨rfl,aa⟩
 rw[J.out,h1]
 replace h:=zc (h.out.below aa)
 replace j:=zc (j.out.below aa)
 have aC:=zc (ay.out.below aa)
 have al:=zc (an.out.later aa)
 clear aa ay an
 clear L O K I X Y U V M N z A Z
 obtain⟨L,O,K,I,X,Y,U,V,M,N,z,A,Z⟩:=h.out.box
 go_wp2_with fail
 refine (zg C E D o S1 q1 (-1) 0 4 zv _ al.out.tok H (by decide)).mono ?_
 rintro e w4 ⟨rfl,ag⟩
 rw[J.out,h2]
 replace h:=zc (h.out.below ag)
 replace j:=zc (j.out.below ag)
 have aF:=zc (aC.out.below ag)
 have ai:=zc (al.out.later ag)
 clear ag aC al
 clear L O K I X Y U V M N z A Z
 obtain⟨L,O,K,I,X,Y,U,V,M,N,z,A,Z⟩:=h.out.box
 go_wp2_with fail
 refine (zg C E D o S1 q1 (-1) 0 1 sDefault _ ai.out.tok H (by decide)).mono ?_
 rintro e w5 ⟨rfl,ad⟩
 rw[J.out,h3]
 replace h:=zc (h.out.below ad)
 replace j:=zc (j.out.below ad)
 have aH:=zc (aF.out.below ad)
 have aj:=zc (ai.out.later ad)
 clear ad aF ai
 clear L O K I X Y U V M N z A Z
 obtain⟨L,O,K,I,X,Y,U,V,M,N,z,A,Z⟩:=h.out.box
 go_wp2_with fail
 refine (zg C E D o S1 q1 (-1) 0 1 zA _ aj.out.tok H (by decide)).mono ?_
 rintro e w6 ⟨rfl,ae⟩
 rw[J.out,h4]
 replace h:=zc (h.out.below ae)
 replace j:=zc (j.out.below ae)
 have aB:=zc (aH.out.below ae)
 have ap:=zc (aj.out.later ae)
 clear ae aH aj
 clear L O K I X Y U V M N z A Z
 obtain⟨L,O,K,I,X,Y,U,V,M,N,z,A,Z⟩:=h.out.box
 go_wp2_with fail
 refine (zg C E D o S1 q1 (-1) 0 1 zO _ ap.out.tok H (by decide)).mono ?_
 rintro e w7 ⟨rfl,ac⟩
 rw[J.out,h5]
 replace h:=zc (h.out.below ac)
 replace j:=zc (j.out.below ac)
 have ax:=zc (aB.out.below ac)
 have aq:=zc (ap.out.later ac)
 clear ac aB ap
 clear L O K I X Y U V M N z A Z
 obtain⟨L,O,K,I,X,Y,U,V,M,N,z,A,Z⟩:=h.out.box
 clear J
 go_wp2_with fail
 refine (zg2 C E D o S1 q1 _ aq.out).mono ?_
 rintro e w8 ⟨S8,q8,z8,n8,rfl,i8,m8,s8⟩
 replace h:=zc (h.out.stp s8)
 replace j:=zc (j.out.stp s8)
 have av:=zc (ax.out.step s8)
 clear ax
 have am:=zc m8
 have ao:=zc i8
 clear i8 m8 s8 aq
 clear L O K I X Y U V M N z A Z
 have aM:w.heap.size+1<w8.heap.size:=j.out.lt
 unfold pv
 go_upto_region 29 with fail
 refine zJ (R:=fun W=>Bx E S8 W (w.heap.size) _∧Bx E S8 W (w.heap.size+1) _∧Bx E S8 W (w8.heap.size) _∧Mem C E D o S8 q8 W∧SB w.heap.size S w S8 W) ⟨(h.out.alloc _),(j.out.alloc _),(Bx.new am.out _),(am.out.alloc _),(av.out.alloc _)⟩ ?_
 clear h j av am
 rintro w9 ⟨X0,X1,X2,m9,t9⟩
 have h:=zc X0
 have j:=zc X1
 have ak:=zc X2
 have ar:=zc m9
 have aw:=zc t9
 clear m9 t9 X0 X1 X2
 obtain⟨c0,c1,c2,c3,c4,c5,c6,c7,c8,c9,aK,aL,cf⟩:=ak.out.box
 go_wp2_with fail
 refine (zdn C E D o _ S8 q8 z8 0 ⟨1,n8,n8,sNone⟩ _ ao.out.fst ar.out (zp0 ao.out)).mono ?_
 rintro e aN ⟨aP,aO,aS,rfl,aD,aI,ab⟩
 replace h:=zc (h.out.stp ab)
 replace j:=zc (j.out.stp ab)
 replace ak:=zc (ak.out.stp ab)
 have aE:=zc (aw.out.step ab)
 clear aw
 have au:=zc aI
 have az:=zc aD
 clear aD aI ab ar
 clear c0 c1 c2 c3 c4 c5 c6 c7 c8 c9 aK aL cf
 obtain⟨b0,b1,b2,b3,b4,b5,b6,b7,b8,b9,aQ,aR,bf⟩:=j.out.box
 unfold pv
 go_wp2
 refine bodyPost_ret (results_cell_row rfl _ _ (w.heap.size+1) 53 _ (0,0) _ rfl ((j.out.put ..)).heap Tryz.underlying53 rfl (by kernel_rfl)) rfl ?_
 rw[HV.out,←HQ.out,←ao.out.bind (fun q n=>zn C ⟨1,n,n,sNone⟩ q)]
 exact zW rfl az.out (au.out.put j.out ..) (aE.out.put (by omega) ..)
theorem zp7 (C:Cx) (K A n:Nat) (S:Sv) (q:PS) (w:World) (hm:Mem C K A n S q w) (hw:isT C q.pos 1 zad=true) (h1:isT C (q.pos+1) 4 zF=false) (h2:isT C (q.pos+1) 4 zv=false) (h3:isT C (q.pos+1) 1 sDefault=false) (h4:isT C (q.pos+1) 1 zA=false) (h5:isT C (q.pos+1) 1 zO=false):
  Calls Tryz.prog 71 #[pv C K A S q (-1) 0] w (Out C K A n (zaf C q) 0 S w):=by
 have HM:=zc hm
 have D:=hm.few
 clear hm
 have HV:Hid (zaf C q= .error (zq C (adv q).pos)):=by
  show _=_
  rw[zaf,zd,if_pos hw,zx]
  rw[zw,h1,h2,h3,h4,h5]
  rfl
 unfold pv
 go_enter Tryz.func71,Tryz.ntmps71
 go_wp2_with fail
 refine (zaC C K A n (.ok q) S q (-1) 0 zad _ (zU q) ((HM.out.alloc _).alloc _)).mono ?_
 rintro e w1 ⟨S1,Z,z1,rfl,i1,m1,s1⟩
 obtain⟨X0,X1,t1⟩:=HM.out.two2 s1
 have h:=zc X0
 have j:=zc X1
 have aw:=zc m1
 have ay:=zc t1
 have aq:=zc i1
 clear X0 X1 i1 m1 t1 s1
 obtain⟨ah,rfl⟩:=zcF aq.out hw
 have HQ:=zc ah
 have H:Hid (Z.pos=q.pos+1):=by show Z.pos=q.pos+1;rw[ah];rfl
 clear ah aq
 obtain⟨J,N,I,E,V,X,O,U,L,M,o,z,Y⟩:=h.out.box
 unfold pv
 go_upto_region 2 with fail
 refine zJ (R:=fun W=>Bx K S1 W (w.heap.size) _∧Bx K S1 W (w.heap.size+1) _∧Mem C K A n S1 Z W∧SB w.heap.size S w S1 W) ⟨(h.out.put ..),(j.out.other (by omega) ..),(aw.out.put h.out ..),(ay.out.put (by omega) ..)⟩ ?_
 clear J N I E V X O U L M o z Y
 clear h j ay aw
 rintro w2 ⟨X0,X1,m2,t2⟩
 have h:=zc X0
 have j:=zc X1
 have am:=zc m2
 have ap:=zc t2
 clear m2 t2 X0 X1
 obtain⟨J,N,I,E,V,X,O,U,L,M,o,z,Y⟩:=h.out.box
 go_wp2_with fail
 refine (zg C K A n S1 Z (-1) 0 4 zF _ am.out.tok D (by decide)).mono ?_
 rintro e w3 ⟨rfl,aa⟩
 rw[H.out,h1]
 replace h:=zc (h.out.below aa)
 replace j:=zc (j.out.below aa)
 have au:=zc (ap.out.below aa)
 have al:=zc (am.out.later aa)
 clear aa ap am
 clear J N I E V X O U L M o z Y
 obtain⟨J,N,I,E,V,X,O,U,L,M,o,z,Y⟩:=h.out.box
 go_wp2_with fail
 refine (zg C K A n S1 Z (-1) 0 4 zv _ al.out.tok D (by decide)).mono ?_
 rintro e w4 ⟨rfl,ag⟩
 rw[H.out,h2]
 replace h:=zc (h.out.below ag)
 replace j:=zc (j.out.below ag)
 have av:=zc (au.out.below ag)
 have aj:=zc (al.out.later ag)
 clear ag au al
 clear J N I E V X O U L M o z Y
 obtain⟨J,N,I,E,V,X,O,U,L,M,o,z,Y⟩:=h.out.box
 go_wp2_with fail
 refine (zg C K A n S1 Z (-1) 0 1 sDefault _ aj.out.tok D (by decide)).mono ?_
 rintro e w5 ⟨rfl,ad⟩
 rw[H.out,h3]
 replace h:=zc (h.out.below ad)
 replace j:=zc (j.out.below ad)
 have ax:=zc (av.out.below ad)
 have ak:=zc (aj.out.later ad)
 clear ad av aj
 clear J N I E V X O U L M o z Y
 obtain⟨J,N,I,E,V,X,O,U,L,M,o,z,Y⟩:=h.out.box
 go_wp2_with fail
 refine (zg C K A n S1 Z (-1) 0 1 zA _ ak.out.tok D (by decide)).mono ?_
 rintro e w6 ⟨rfl,ae⟩
 rw[H.out,h4]
 replace h:=zc (h.out.below ae)
 replace j:=zc (j.out.below ae)
 have ar:=zc (ax.out.below ae)
 have an:=zc (ak.out.later ae)
 clear ae ax ak
 clear J N I E V X O U L M o z Y
 obtain⟨J,N,I,E,V,X,O,U,L,M,o,z,Y⟩:=h.out.box
 go_wp2_with fail
 refine (zg C K A n S1 Z (-1) 0 1 zO _ an.out.tok D (by decide)).mono ?_
 rintro e w7 ⟨rfl,ab⟩
 rw[H.out,h5]
 replace h:=zc (h.out.below ab)
 replace j:=zc (j.out.below ab)
 have ao:=zc (ar.out.below ab)
 have ai:=zc (an.out.later ab)
 clear ab ar an
 clear J N I E V X O U L M o z Y
 obtain⟨J,N,I,E,V,X,O,U,L,M,o,z,Y⟩:=h.out.box
 clear H
 go_wp2_with fail
 refine (zcL C K A n S1 Z (-1) 0 _ ai.out.tok D).mono ?_
 rintro e w8 ⟨rfl,ac⟩
 replace h:=zc (h.out.below ac)
 replace j:=zc (j.out.below ac)
 have az:=zc (ao.out.below ac)
 have aA:=zc (ai.out.later ac)
 clear ac ao ai
 clear J N I E V X O U L M o z Y
 obtain⟨b0,b1,b2,b3,b4,b5,b6,b7,b8,b9,aB,aC,bf⟩:=j.out.box
 unfold pv
 go_wp2
 refine bodyPost_ret (results_cell_row rfl _ _ (w.heap.size+1) 53 _ (0,0) _ rfl ((j.out.put ..)).heap Tryz.underlying53 rfl (by kernel_rfl)) rfl ?_
 rw[HV.out,←HQ.out]
 exact zW rfl (show Is (.error (zq C Z.pos)) Z _ from rfl) (aA.out.put j.out ..) (az.out.put (by omega) ..)
theorem zp8 (C:Cx) (H D n:Nat) (S:Sv) (q:PS) (w:World) (hm:Mem C H D n S q w) (hw:isT C q.pos 1 zad=true) (h1:isT C (q.pos+1) 4 zF=true):
  Calls Tryz.prog 71 #[pv C H D S q (-1) 0] w (Out C H D n (zaf C q) 0 S w):=by
 have HM:=zc hm
 have aJ:=hm.few
 clear hm
 have HV:Hid (zaf C q=bd (zcz C true (adv q)) fun a=>if !za5 a.2&& !isT C a.1.pos 1 zP then bd (zd C 4 cSemi a.1) fun q=>zR (fun e=>zn C (zz e)) a.2 (.ok q) else bd (zaQ C (zaA C (.ok a.1))) fun b=>zR (fun e=>zn C (zal b.2 e)) a.2 (.ok b.1)):=by
  show _=_
  rw[zaf,zd,if_pos hw,zx]
  rw[zw,h1]
  rfl
 unfold pv
 go_enter Tryz.func71,Tryz.ntmps71
 go_wp2_with fail
 refine (zaC C H D n (.ok q) S q (-1) 0 zad _ (zU q) ((HM.out.alloc _).alloc _)).mono ?_
 rintro e w1 ⟨S1,q1,z1,rfl,i1,m1,s1⟩
 obtain⟨V,Y,t1⟩:=HM.out.two2 s1
 have h:=zc V
 have o:=zc Y
 have bc:=zc m1
 have bi:=zc t1
 have aX:=zc i1
 clear V Y i1 m1 t1 s1
 obtain⟨aN,rfl⟩:=zcF aX.out hw
 have HQ:=zc aN
 have aU:Hid (q1.pos=q.pos+1):=by show q1.pos=q.pos+1;rw[aN];rfl
 clear aN aX
 obtain⟨a0,a1,a2,a3,a4,a5,a6,a7,a8,a9,K,L,af⟩:=h.out.box
 unfold pv
 go_upto_region 2 with fail
 refine zJ (R:=fun W=>Bx H S1 W (w.heap.size) _∧Bx H S1 W (w.heap.size+1) _∧Mem C H D n S1 q1 W∧SB w.heap.size S w S1 W) ⟨(h.out.put ..),(o.out.other (by omega) ..),(bc.out.put h.out ..),(bi.out.put (by omega) ..)⟩ ?_
 clear a0 a1 a2 a3 a4 a5 a6 a7 a8 a9 K L af
 clear h o bi bc
 rintro w2 ⟨V,Y,m2,t2⟩
 have h:=zc V
 have o:=zc Y
 have aP:=zc m2
 have aV:=zc t2
 clear m2 t2 V Y
 have aR:Hid (zaf C q=bd (zcz C true q1) fun a=>if !za5 a.2&& !isT C a.1.pos 1 zP then bd (zd C 4 cSemi a.1) fun q=>zR (fun e=>zn C (zz e)) a.2 (.ok q) else bd (zaQ C (zaA C (.ok a.1))) fun b=>zR (fun e=>zn C (zal b.2 e)) a.2 (.ok b.1)):=by show _=_;rw[HQ.out];exact HV.out
 obtain⟨a0,a1,a2,a3,a4,a5,a6,a7,a8,a9,K,L,af⟩:=h.out.box
 go_wp2_with fail
 refine (zg C H D n S1 q1 (-1) 0 4 zF _ aP.out.tok aJ (by decide)).mono ?_
 rintro e w3 ⟨rfl,aI⟩
 rw[aU.out,h1]
 replace h:=zc (h.out.below aI)
 replace o:=zc (o.out.below aI)
 have aQ:=zc (aV.out.below aI)
 have aT:=zc (aP.out.later aI)
 clear aI aV aP
 clear a0 a1 a2 a3 a4 a5 a6 a7 a8 a9 K L af
 obtain⟨a0,a1,a2,a3,a4,a5,a6,a7,a8,a9,K,L,af⟩:=h.out.box
 clear aU
 have bj:=aQ.out.size
 go_wp2_with fail
 refine (ziZ C H D n S1 q1 0 true _ aT.out).mono ?_
 rintro e w4 ⟨S4,q4,z4,⟨ra,rc⟩,l,rfl,i4,m4,s4,R0,hl⟩
 obtain⟨g,rfl⟩: ∃g,ra=some ⟨g,0,none⟩:=R0.addr
 replace h:=zc (h.out.stp s4)
 replace o:=zc (o.out.stp s4)
 have bb:=zc (aQ.out.step s4)
 clear aQ
 have aO:=zc m4
 have au:=zc i4
 clear i4 m4 s4 aT
 clear a0 a1 a2 a3 a4 a5 a6 a7 a8 a9 K L af
 have A:Hid (Row S4 w4 n w.heap.size ⟨some ⟨g,0,none⟩,rc⟩ l):=⟨R0.own,R0.free,fun k hk=>Nat.le_trans bj (R0.new k hk),R0.addr⟩
 clear R0
 have bl:w.heap.size+1<w4.heap.size:=o.out.lt
 unfold pv
 go_upto_region 4 with fail
 refine zJ (R:=fun W=>Bx H S4 W (w.heap.size) _∧Bx H S4 W (w.heap.size+1) _∧Bx H S4 W (w4.heap.size) _∧Row S4 W n w.heap.size ⟨some ⟨g,0,none⟩,rc⟩ l∧Mem C H D n S4 q4 W∧SB w.heap.size S w S4 W) ⟨(h.out.alloc _),(o.out.alloc _),(Bx.new aO.out _),(A.out.alloc _),(aO.out.alloc _),(bb.out.alloc _)⟩ ?_
 clear h o bb aO
 clear A
 rintro w5 ⟨V,Y,X2,R0,m5,t5⟩
 have A:=zc R0
 clear R0
 have h:=zc V
 have o:=zc Y
 have z:=zc X2
 have ap:=zc m5
 have aF:=zc t5
 clear m5 t5 V Y X2
 cases hA:za5 l with
 |true=>
  skip
  obtain⟨c0,c1,c2,c3,c4,c5,c6,c7,c8,c9,aj,am,cf⟩:=z.out.box
  go_wp2_with fail
  refine (zaC C H D n _ S4 q4 z4 0 zP _ au.out.fst ap.out).mono ?_
  rintro e w6 ⟨S6,q6,z6,rfl,i6,m6,s6⟩
  replace h:=zc (h.out.stp s6)
  replace o:=zc (o.out.stp s6)
  replace z:=zc (z.out.stp s6)
  have ay:=zc (aF.out.step s6)
  have I:Hid (Row S6 w6 n w.heap.size ⟨some ⟨g,0,none⟩,rc⟩ l):=A.out.stp s6
  clear A
  have A:=zc I
  clear I
  clear aF
  have aB:=zc m6
  have bk:=zc i6
  clear i6 m6 s6 ap
  clear c0 c1 c2 c3 c4 c5 c6 c7 c8 c9 aj am cf
  go_wp2_with fail
  refine (zdy C H D n _ S6 q6 z6 0 _ bk.out aB.out).mono ?_
  rintro e w7 ⟨S7,q7,z7,n7,rfl,i7,m7,s7⟩
  replace h:=zc (h.out.stp s7)
  replace o:=zc (o.out.stp s7)
  replace z:=zc (z.out.stp s7)
  have aw:=zc (ay.out.step s7)
  have I:Hid (Row S7 w7 n w.heap.size ⟨some ⟨g,0,none⟩,rc⟩ l):=A.out.stp s7
  clear A
  have A:=zc I
  clear I
  clear ay
  have ai:=zc m7
  have aD:=zc i7
  clear i7 m7 s7 aB
  have be:w.heap.size+1<w7.heap.size:=o.out.lt
  have aK:w4.heap.size<w7.heap.size:=z.out.lt
  unfold pv
  go_upto_region 12 with fail
  refine zJ (R:=fun W=>Bx H S7 W (w.heap.size) _∧Bx H S7 W (w.heap.size+1) _∧Bx H S7 W (w4.heap.size) _∧Bx H S7 W (w7.heap.size) _∧Row S7 W n w.heap.size ⟨some ⟨g,0,none⟩,rc⟩ l∧Mem C H D n S7 q7 W∧SB w.heap.size S w S7 W) ⟨(h.out.alloc _),(o.out.alloc _),(z.out.alloc _),(Bx.new ai.out _),(A.out.alloc _),(ai.out.alloc _),(aw.out.alloc _)⟩ ?_
  clear h o z aw ai
  clear A
  rintro w8 ⟨V,Y,X2,X3,R0,m8,t8⟩
  have A:=zc R0
  clear R0
  have h:=zc V
  have o:=zc Y
  have z:=zc X2
  have Z:=zc X3
  have ak:=zc m8
  have aq:=zc t8
  clear m8 t8 V Y X2 X3
  obtain⟨d0,d1,d2,d3,d4,d5,d6,d7,d8,d9,ah,al,df⟩:=Z.out.box
  go_wp2_with fail
  refine (zab C H D n _ S7 q7 z7 0 cSemi _ aD.out.fst ak.out).mono ?_
  rintro e w9 ⟨S9,q9,z9,rfl,i9,m9,s9⟩
  replace h:=zc (h.out.stp s9)
  replace o:=zc (o.out.stp s9)
  replace z:=zc (z.out.stp s9)
  replace Z:=zc (Z.out.stp s9)
  have ac:=zc (aq.out.step s9)
  have I:Hid (Row S9 w9 n w.heap.size ⟨some ⟨g,0,none⟩,rc⟩ l):=A.out.stp s9
  clear A
  have A:=zc I
  clear I
  clear aq
  have ab:=zc m9
  have ad:=zc i9
  clear i9 m9 s9 ak
  clear d0 d1 d2 d3 d4 d5 d6 d7 d8 d9 ah al df
  obtain⟨a0,a1,a2,a3,a4,a5,a6,a7,a8,a9,K,L,af⟩:=h.out.box
  unfold pv
  go_upto_region 13 with fail
  refine zJ (R:=fun W=>Bx H S9 W (w.heap.size) _∧Bx H S9 W (w.heap.size+1) _∧Bx H S9 W (w4.heap.size) _∧Bx H S9 W (w7.heap.size) _∧Row S9 W n w.heap.size ⟨some ⟨g,0,none⟩,rc⟩ l∧Mem C H D n S9 q9 W∧SB w.heap.size S w S9 W) ⟨(h.out.put ..),(o.out.other (by omega) ..),(z.out.other (by omega) ..),(Z.out.other (by omega) ..),(A.out.put h.out ..),(ab.out.put h.out ..),(ac.out.put (by omega) ..)⟩ ?_
  clear a0 a1 a2 a3 a4 a5 a6 a7 a8 a9 K L af
  clear h o z Z ac ab
  clear A
  rintro ar ⟨V,Y,X2,X3,R0,ae,aS⟩
  have A:=zc R0
  clear R0
  have h:=zc V
  have o:=zc Y
  have z:=zc X2
  have Z:=zc X3
  have O:=zc ae
  have aA:=zc aS
  clear ae aS V Y X2 X3
  have aG:Hid (_=zaf C q):=(zg3 (G:=fun b e=>zn C (zal b e)) au.out aD.out).trans ((zjq au.out (.inl hA)).trans aR.out.symm)
  go_wp2
  go_loopg [9] l.length (fun k i wr=>∃(j:Nat) (x':PR) (J:Sv) (X:PS) (z':Int),j≤l.length∧i= .int .i64 j∧Is x' X z'∧(z'<0→1≤X.pos)∧zR (fun e=>zn C (zal n7 e)) (l.drop j) x'=zaf C q∧l.length-j=k∧Mem C H D n J X wr∧SB w.heap.size S w J wr∧Bx H J wr w.heap.size #[.slice (some ⟨H,0,none⟩) C.ts.length D,.int .i64 X.pos,.int .i64 C.fin,.bool C.scr,.slice J.rq.a X.rq.length J.rq.cap,.slice J.im.a X.im.length J.im.cap,.slice J.ep.a X.ep.length J.ep.cap,.slice J.st.a X.st.length J.st.cap,.slice J.ex.a X.ex.length J.ex.cap,.slice J.la.a X.la.length J.la.cap,.int .i64 z',.int .i64 0]∧Bx H J wr (w.heap.size+1) #[.slice none 0 0,.int .i64 0,.int .i64 0,.bool false,.slice none 0 0,.slice none 0 0,.slice none 0 0,.slice none 0 0,.slice none 0 0,.slice none 0 0,.int .i64 0,.int .i64 0]∧Row J wr n w.heap.size ⟨some ⟨g,0,none⟩,rc⟩ l)
  case atStart=>exact⟨0,_,S9,q9,z9,Nat.zero_le _,rfl,ad.out,zaZ ad.out,aG.out,rfl,O.out,aA.out,h.out,o.out,A.out⟩
  case round=>
   obtain⟨j,x9,S9,q9,z9,hj,rfl,i9,p9,e9,g9,m9,t9,V,Y,R0⟩:=hrel
   clear h o z Z A O aA
   have h:=zc V
   have o:=zc Y
   have ab:=zc m9
   have ac:=zc t9
   have ad:=zc i9
   have ax:=zc p9
   have ao:=zc e9
   have az:=zc g9
   have A:=zc R0
   clear V Y i9 m9 t9 e9 g9 R0 p9
   by_cases an:j<l.length
   ·skip
    obtain⟨c1,c2⟩:=A.out.cells (g:=g) rfl an
    have bg:=A.out.own.lt (g:=g) rfl
    have HX:Hid (∀e,e=l[j]→zR (fun e=>zn C (zal n7 e)) (l.drop (j+1)) (bd x9 (zn C (zal n7 e)))=zaf C q):=fun e he=>by rw[he,←ao.out];exact (zf2 (fun e=>zn C (zal n7 e)) l x9 an).symm
    generalize aC:l[j]=el at c1 c2
    have aH:Hid (el=l[j]):=aC.symm
    clear aC
    obtain⟨a0,a1,a2,a3,a4,a5,a6,a7,a8,a9,K,L,af⟩:=h.out.box
    go_upto_region 16 with fail
    go_region_law (first|(go_simp;go_wp2_with (go_at_call 134;refine (zdn C H D n x9 S9 q9 z9 0 (zal n7 el) _ ad.out ab.out.drew ax.out).mono ?_;rintro e ar ⟨N,av,aE,rfl,ag,ae,M⟩;obtain⟨d0,d1,d2,d3,d4,d5,d6,d7,d8,d9,ah,al,df⟩:=(h.out.stp M.undrew).box;unfold pv)))
    all_goals
     clear a0 a1 a2 a3 a4 a5 a6 a7 a8 a9 K L af d0 d1 d2 d3 d4 d5 d6 d7 d8 d9 ah al df
     have U:=zc ag
     have O:=zc ae
     have E:Hid (Stp S9 wr N ar):=M.undrew
     clear ag ae M
     go_wp2
     go_roundg (gk-1)
     case rel=>exact⟨j+1,_,N,av,aE,by omega,by go_num,U.out,zg4 ax.out ad.out U.out,HX.out el aH.out,by have:=az.out;omega,O.out.put (h.out.stp E.out) _ _ _ _ _ _ _ _ _ _ _ _,(ac.out.step E.out).put (by omega) _ _ _ _ _ _ _ _ _ _ _ _,(h.out.stp E.out).put _ _ _ _ _ _ _ _ _ _ _ _,(o.out.stp E.out).other (by omega) _ _ _ _ _ _ _ _ _ _ _ _,(A.out.stp E.out).put (h.out.stp E.out) _ _ _ _ _ _ _ _ _ _ _ _⟩
     case measure=>have:=az.out;omega
   ·skip
    obtain⟨a0,a1,a2,a3,a4,a5,a6,a7,a8,a9,K,L,af⟩:=h.out.box
    obtain⟨b0,b1,b2,b3,b4,b5,b6,b7,b8,b9,aW,ba,bf⟩:=o.out.box
    go_wp2
    refine bodyPost_ret (results_cell_row rfl _ _ (w.heap.size+1) 53 _ (0,0) _ rfl ((o.out.put ..)).heap Tryz.underlying53 rfl (by kernel_rfl)) rfl ?_
    exact zW rfl (show Is (zaf C q) q9 z9 from by rw[←ao.out,List.drop_eq_nil_of_le (by omega)];exact ad.out) (ab.out.put o.out ..) (ac.out.put (by omega) ..)
 |false=>
  cases hF:(decide (z4<0)&&isT C q4.pos 1 zP) with
  |true=>
   obtain⟨c0,c1,c2,c3,c4,c5,c6,c7,c8,c9,aj,am,cf⟩:=z.out.box
   go_wp2_with fail
   refine (zg C H D n S4 q4 z4 0 1 zP _ ap.out.tok aJ (by decide)).mono ?_
   rintro e w6 ⟨rfl,aa⟩
   rw[hF]
   replace h:=zc (h.out.below aa)
   replace o:=zc (o.out.below aa)
   replace z:=zc (z.out.below aa)
   have ay:=zc (aF.out.below aa)
   have aB:=zc (ap.out.later aa)
   have I:Hid (Row S4 w6 n w.heap.size ⟨some ⟨g,0,none⟩,rc⟩ l):=A.out.below aa
   clear A
   have A:=zc I
   clear I
   clear aa aF ap
   clear c0 c1 c2 c3 c4 c5 c6 c7 c8 c9 aj am cf
   obtain⟨c0,c1,c2,c3,c4,c5,c6,c7,c8,c9,aj,am,cf⟩:=z.out.box
   go_wp2_with fail
   refine (zaC C H D n _ S4 q4 z4 0 zP _ au.out.fst aB.out).mono ?_
   rintro e w7 ⟨S7,q7,z7,rfl,i7,m7,s7⟩
   replace h:=zc (h.out.stp s7)
   replace o:=zc (o.out.stp s7)
   replace z:=zc (z.out.stp s7)
   have aw:=zc (ay.out.step s7)
   have I:Hid (Row S7 w7 n w.heap.size ⟨some ⟨g,0,none⟩,rc⟩ l):=A.out.stp s7
   clear A
   have A:=zc I
   clear I
   clear ay
   have ai:=zc m7
   have aD:=zc i7
   clear i7 m7 s7 aB
   clear c0 c1 c2 c3 c4 c5 c6 c7 c8 c9 aj am cf
   go_wp2_with fail
   refine (zdy C H D n _ S7 q7 z7 0 _ aD.out ai.out).mono ?_
   rintro e w8 ⟨S8,q8,z8,n8,rfl,i8,m8,s8⟩
   replace h:=zc (h.out.stp s8)
   replace o:=zc (o.out.stp s8)
   replace z:=zc (z.out.stp s8)
   have aq:=zc (aw.out.step s8)
   have I:Hid (Row S8 w8 n w.heap.size ⟨some ⟨g,0,none⟩,rc⟩ l):=A.out.stp s8
   clear A
   have A:=zc I
   clear I
   clear aw
   have ak:=zc m8
   have aY:=zc i8
   clear i8 m8 s8 ai
   have be:w.heap.size+1<w8.heap.size:=o.out.lt
   have aK:w4.heap.size<w8.heap.size:=z.out.lt
   unfold pv
   go_upto_region 12 with fail
   refine zJ (R:=fun W=>Bx H S8 W (w.heap.size) _∧Bx H S8 W (w.heap.size+1) _∧Bx H S8 W (w4.heap.size) _∧Bx H S8 W (w8.heap.size) _∧Row S8 W n w.heap.size ⟨some ⟨g,0,none⟩,rc⟩ l∧Mem C H D n S8 q8 W∧SB w.heap.size S w S8 W) ⟨(h.out.alloc _),(o.out.alloc _),(z.out.alloc _),(Bx.new ak.out _),(A.out.alloc _),(ak.out.alloc _),(aq.out.alloc _)⟩ ?_
   clear h o z aq ak
   clear A
   rintro w9 ⟨V,Y,X2,X3,R0,m9,t9⟩
   have A:=zc R0
   clear R0
   have h:=zc V
   have o:=zc Y
   have z:=zc X2
   have Z:=zc X3
   have ab:=zc m9
   have ac:=zc t9
   clear m9 t9 V Y X2 X3
   obtain⟨d0,d1,d2,d3,d4,d5,d6,d7,d8,d9,ah,al,df⟩:=Z.out.box
   go_wp2_with fail
   refine (zab C H D n _ S8 q8 z8 0 cSemi _ aY.out.fst ab.out).mono ?_
   rintro e ar ⟨N,av,aE,rfl,ag,ae,M⟩
   replace h:=zc (h.out.stp M)
   replace o:=zc (o.out.stp M)
   replace z:=zc (z.out.stp M)
   replace Z:=zc (Z.out.stp M)
   have aA:=zc (ac.out.step M)
   have I:Hid (Row N ar n w.heap.size ⟨some ⟨g,0,none⟩,rc⟩ l):=A.out.stp M
   clear A
   have A:=zc I
   clear I
   clear ac
   have O:=zc ae
   have U:=zc ag
   clear ag ae M ab
   clear d0 d1 d2 d3 d4 d5 d6 d7 d8 d9 ah al df
   obtain⟨a0,a1,a2,a3,a4,a5,a6,a7,a8,a9,K,L,af⟩:=h.out.box
   unfold pv
   go_upto_region 13 with fail
   refine zJ (R:=fun W=>Bx H N W (w.heap.size) _∧Bx H N W (w.heap.size+1) _∧Bx H N W (w4.heap.size) _∧Bx H N W (w8.heap.size) _∧Row N W n w.heap.size ⟨some ⟨g,0,none⟩,rc⟩ l∧Mem C H D n N av W∧SB w.heap.size S w N W) ⟨(h.out.put ..),(o.out.other (by omega) ..),(z.out.other (by omega) ..),(Z.out.other (by omega) ..),(A.out.put h.out ..),(O.out.put h.out ..),(aA.out.put (by omega) ..)⟩ ?_
   clear a0 a1 a2 a3 a4 a5 a6 a7 a8 a9 K L af
   clear h o z Z aA O
   clear A
   rintro bm ⟨V,Y,X2,X3,R0,bh,aZ⟩
   have A:=zc R0
   clear R0
   have h:=zc V
   have o:=zc Y
   have z:=zc X2
   have Z:=zc X3
   have aL:=zc bh
   have aM:=zc aZ
   clear bh aZ V Y X2 X3
   have aG:Hid (_=zaf C q):=(zg3 (G:=fun b e=>zn C (zal b e)) au.out aY.out).trans ((zjq au.out (.inr hF)).trans aR.out.symm)
   go_wp2
   go_loopg [9] l.length (fun k i wr=>∃(j:Nat) (x':PR) (J:Sv) (X:PS) (z':Int),j≤l.length∧i= .int .i64 j∧Is x' X z'∧(z'<0→1≤X.pos)∧zR (fun e=>zn C (zal n8 e)) (l.drop j) x'=zaf C q∧l.length-j=k∧Mem C H D n J X wr∧SB w.heap.size S w J wr∧Bx H J wr w.heap.size #[.slice (some ⟨H,0,none⟩) C.ts.length D,.int .i64 X.pos,.int .i64 C.fin,.bool C.scr,.slice J.rq.a X.rq.length J.rq.cap,.slice J.im.a X.im.length J.im.cap,.slice J.ep.a X.ep.length J.ep.cap,.slice J.st.a X.st.length J.st.cap,.slice J.ex.a X.ex.length J.ex.cap,.slice J.la.a X.la.length J.la.cap,.int .i64 z',.int .i64 0]∧Bx H J wr (w.heap.size+1) #[.slice none 0 0,.int .i64 0,.int .i64 0,.bool false,.slice none 0 0,.slice none 0 0,.slice none 0 0,.slice none 0 0,.slice none 0 0,.slice none 0 0,.int .i64 0,.int .i64 0]∧Row J wr n w.heap.size ⟨some ⟨g,0,none⟩,rc⟩ l)
   case atStart=>exact⟨0,_,N,av,aE,Nat.zero_le _,rfl,U.out,zaZ U.out,aG.out,rfl,aL.out,aM.out,h.out,o.out,A.out⟩
   case round=>
    obtain⟨j,x9,S9,q9,z9,hj,rfl,i9,p9,e9,g9,m9,t9,V,Y,R0⟩:=hrel
    clear h o z Z A aL aM
    have h:=zc V
    have o:=zc Y
    have ab:=zc m9
    have ac:=zc t9
    have ad:=zc i9
    have ax:=zc p9
    have ao:=zc e9
    have az:=zc g9
    have A:=zc R0
    clear V Y i9 m9 t9 e9 g9 R0 p9
    by_cases an:j<l.length
    ·skip
     obtain⟨c1,c2⟩:=A.out.cells (g:=g) rfl an
     have bg:=A.out.own.lt (g:=g) rfl
     have HX:Hid (∀e,e=l[j]→zR (fun e=>zn C (zal n8 e)) (l.drop (j+1)) (bd x9 (zn C (zal n8 e)))=zaf C q):=fun e he=>by rw[he,←ao.out];exact (zf2 (fun e=>zn C (zal n8 e)) l x9 an).symm
     generalize aC:l[j]=el at c1 c2
     have aH:Hid (el=l[j]):=aC.symm
     clear aC
     obtain⟨a0,a1,a2,a3,a4,a5,a6,a7,a8,a9,K,L,af⟩:=h.out.box
     go_upto_region 16 with fail
     go_region_law (first|(go_simp;go_wp2_with (go_at_call 134;refine (zdn C H D n x9 S9 q9 z9 0 (zal n8 el) _ ad.out ab.out.drew ax.out).mono ?_;rintro e ar ⟨N,av,aE,rfl,ag,ae,M⟩;obtain⟨d0,d1,d2,d3,d4,d5,d6,d7,d8,d9,ah,al,df⟩:=(h.out.stp M.undrew).box;unfold pv)))
     all_goals
      clear a0 a1 a2 a3 a4 a5 a6 a7 a8 a9 K L af d0 d1 d2 d3 d4 d5 d6 d7 d8 d9 ah al df
      have U:=zc ag
      have O:=zc ae
      have E:Hid (Stp S9 wr N ar):=M.undrew
      clear ag ae M
      go_wp2
      go_roundg (gk-1)
      case rel=>exact⟨j+1,_,N,av,aE,by omega,by go_num,U.out,zg4 ax.out ad.out U.out,HX.out el aH.out,by have:=az.out;omega,O.out.put (h.out.stp E.out) _ _ _ _ _ _ _ _ _ _ _ _,(ac.out.step E.out).put (by omega) _ _ _ _ _ _ _ _ _ _ _ _,(h.out.stp E.out).put _ _ _ _ _ _ _ _ _ _ _ _,(o.out.stp E.out).other (by omega) _ _ _ _ _ _ _ _ _ _ _ _,(A.out.stp E.out).put (h.out.stp E.out) _ _ _ _ _ _ _ _ _ _ _ _⟩
      case measure=>have:=az.out;omega
    ·skip
     obtain⟨a0,a1,a2,a3,a4,a5,a6,a7,a8,a9,K,L,af⟩:=h.out.box
     obtain⟨b0,b1,b2,b3,b4,b5,b6,b7,b8,b9,aW,ba,bf⟩:=o.out.box
     go_wp2
     refine bodyPost_ret (results_cell_row rfl _ _ (w.heap.size+1) 53 _ (0,0) _ rfl ((o.out.put ..)).heap Tryz.underlying53 rfl (by kernel_rfl)) rfl ?_
     exact zW rfl (show Is (zaf C q) q9 z9 from by rw[←ao.out,List.drop_eq_nil_of_le (by omega)];exact ad.out) (ab.out.put o.out ..) (ac.out.put (by omega) ..)
  |false=>
   obtain⟨c0,c1,c2,c3,c4,c5,c6,c7,c8,c9,aj,am,cf⟩:=z.out.box
   go_wp2_with fail
   refine (zg C H D n S4 q4 z4 0 1 zP _ ap.out.tok aJ (by decide)).mono ?_
   rintro e w6 ⟨rfl,aa⟩
   rw[hF]
   replace h:=zc (h.out.below aa)
   replace o:=zc (o.out.below aa)
   replace z:=zc (z.out.below aa)
   have ay:=zc (aF.out.below aa)
   have aB:=zc (ap.out.later aa)
   have I:Hid (Row S4 w6 n w.heap.size ⟨some ⟨g,0,none⟩,rc⟩ l):=A.out.below aa
   clear A
   have A:=zc I
   clear I
   clear aa aF ap
   clear c0 c1 c2 c3 c4 c5 c6 c7 c8 c9 aj am cf
   obtain⟨c0,c1,c2,c3,c4,c5,c6,c7,c8,c9,aj,am,cf⟩:=z.out.box
   go_wp2_with fail
   refine (zab C H D n _ S4 q4 z4 0 cSemi _ au.out.fst aB.out).mono ?_
   rintro e w7 ⟨S7,q7,z7,rfl,i7,m7,s7⟩
   replace h:=zc (h.out.stp s7)
   replace o:=zc (o.out.stp s7)
   replace z:=zc (z.out.stp s7)
   have aw:=zc (ay.out.step s7)
   have I:Hid (Row S7 w7 n w.heap.size ⟨some ⟨g,0,none⟩,rc⟩ l):=A.out.stp s7
   clear A
   have A:=zc I
   clear I
   clear ay
   have ai:=zc m7
   have aD:=zc i7
   clear i7 m7 s7 aB
   clear c0 c1 c2 c3 c4 c5 c6 c7 c8 c9 aj am cf
   obtain⟨a0,a1,a2,a3,a4,a5,a6,a7,a8,a9,K,L,af⟩:=h.out.box
   unfold pv
   go_upto_region 6 with fail
   refine zJ (R:=fun W=>Bx H S7 W (w.heap.size) _∧Bx H S7 W (w.heap.size+1) _∧Bx H S7 W (w4.heap.size) _∧Row S7 W n w.heap.size ⟨some ⟨g,0,none⟩,rc⟩ l∧Mem C H D n S7 q7 W∧SB w.heap.size S w S7 W) ⟨(h.out.put ..),(o.out.other (by omega) ..),(z.out.other (by omega) ..),(A.out.put h.out ..),(ai.out.put h.out ..),(aw.out.put (by omega) ..)⟩ ?_
   clear a0 a1 a2 a3 a4 a5 a6 a7 a8 a9 K L af
   clear h o z aw ai
   clear A
   rintro w8 ⟨V,Y,X2,R0,m8,t8⟩
   have A:=zc R0
   clear R0
   have h:=zc V
   have o:=zc Y
   have z:=zc X2
   have ak:=zc m8
   have aq:=zc t8
   clear m8 t8 V Y X2
   have aG:Hid (_=zaf C q):=(zp2 au.out hA hF).trans aR.out.symm
   go_wp2
   go_loopg [6] l.length (fun k i wr=>∃(j:Nat) (x':PR) (J:Sv) (X:PS) (z':Int),j≤l.length∧i= .int .i64 j∧Is x' X z'∧(z'<0→1≤X.pos)∧zR (fun e=>zn C (zz e)) (l.drop j) x'=zaf C q∧l.length-j=k∧Mem C H D n J X wr∧SB w.heap.size S w J wr∧Bx H J wr w.heap.size #[.slice (some ⟨H,0,none⟩) C.ts.length D,.int .i64 X.pos,.int .i64 C.fin,.bool C.scr,.slice J.rq.a X.rq.length J.rq.cap,.slice J.im.a X.im.length J.im.cap,.slice J.ep.a X.ep.length J.ep.cap,.slice J.st.a X.st.length J.st.cap,.slice J.ex.a X.ex.length J.ex.cap,.slice J.la.a X.la.length J.la.cap,.int .i64 z',.int .i64 0]∧Bx H J wr (w.heap.size+1) #[.slice none 0 0,.int .i64 0,.int .i64 0,.bool false,.slice none 0 0,.slice none 0 0,.slice none 0 0,.slice none 0 0,.slice none 0 0,.slice none 0 0,.int .i64 0,.int .i64 0]∧Row J wr n w.heap.size ⟨some ⟨g,0,none⟩,rc⟩ l)
   case atStart=>exact⟨0,_,S7,q7,z7,Nat.zero_le _,rfl,aD.out,zaZ aD.out,aG.out,rfl,ak.out,aq.out,h.out,o.out,A.out⟩
   case round=>
    obtain⟨j,x9,S9,q9,z9,hj,rfl,i9,p9,e9,g9,m9,t9,V,Y,R0⟩:=hrel
    clear h o z A ak aq
    have h:=zc V
    have o:=zc Y
    have ab:=zc m9
    have ac:=zc t9
    have ad:=zc i9
    have ax:=zc p9
    have ao:=zc e9
    have az:=zc g9
    have A:=zc R0
    clear V Y i9 m9 t9 e9 g9 R0 p9
    by_cases an:j<l.length
    ·skip
     obtain⟨c1,c2⟩:=A.out.cells (g:=g) rfl an
     have bg:=A.out.own.lt (g:=g) rfl
     have HX:Hid (∀e,e=l[j]→zR (fun e=>zn C (zz e)) (l.drop (j+1)) (bd x9 (zn C (zz e)))=zaf C q):=fun e he=>by rw[he,←ao.out];exact (zf2 (fun e=>zn C (zz e)) l x9 an).symm
     generalize aC:l[j]=el at c1 c2
     have aH:Hid (el=l[j]):=aC.symm
     clear aC
     obtain⟨a0,a1,a2,a3,a4,a5,a6,a7,a8,a9,K,L,af⟩:=h.out.box
     go_upto_region 9 with fail
     go_region_law (first|(go_simp;go_wp2_with (go_at_call 134;refine (zdn C H D n x9 S9 q9 z9 0 (zz el) _ ad.out ab.out.drew ax.out).mono ?_;rintro e ar ⟨N,av,aE,rfl,ag,ae,M⟩;obtain⟨d0,d1,d2,d3,d4,d5,d6,d7,d8,d9,ah,al,df⟩:=(h.out.stp M.undrew).box;unfold pv)))
     all_goals
      clear a0 a1 a2 a3 a4 a5 a6 a7 a8 a9 K L af d0 d1 d2 d3 d4 d5 d6 d7 d8 d9 ah al df
      have U:=zc ag
      have O:=zc ae
      have E:Hid (Stp S9 wr N ar):=M.undrew
      clear ag ae M
      go_wp2
      go_roundg (gk-1)
      case rel=>exact⟨j+1,_,N,av,aE,by omega,by go_num,U.out,zg4 ax.out ad.out U.out,HX.out el aH.out,by have:=az.out;omega,O.out.put (h.out.stp E.out) _ _ _ _ _ _ _ _ _ _ _ _,(ac.out.step E.out).put (by omega) _ _ _ _ _ _ _ _ _ _ _ _,(h.out.stp E.out).put _ _ _ _ _ _ _ _ _ _ _ _,(o.out.stp E.out).other (by omega) _ _ _ _ _ _ _ _ _ _ _ _,(A.out.stp E.out).put (h.out.stp E.out) _ _ _ _ _ _ _ _ _ _ _ _⟩
      case measure=>have:=az.out;omega
    ·skip
     obtain⟨a0,a1,a2,a3,a4,a5,a6,a7,a8,a9,K,L,af⟩:=h.out.box
     obtain⟨b0,b1,b2,b3,b4,b5,b6,b7,b8,b9,aW,ba,bf⟩:=o.out.box
     go_wp2
     refine bodyPost_ret (results_cell_row rfl _ _ (w.heap.size+1) 53 _ (0,0) _ rfl ((o.out.put ..)).heap Tryz.underlying53 rfl (by kernel_rfl)) rfl ?_
     exact zW rfl (show Is (zaf C q) q9 z9 from by rw[←ao.out,List.drop_eq_nil_of_le (by omega)];exact ad.out) (ab.out.put o.out ..) (ac.out.put (by omega) ..)
theorem zp9 (C:Cx) (n j h:Nat) (S:Sv) (q:PS) (w:World) (o:Mem C n j h S q w) (A:isT C q.pos 1 zae=true):
  Calls Tryz.prog 70 #[pv C n j S q (-1) 0] w (Out C n j h (zaK C q) 0 S w):=by
 cases z:isT C (q.pos+1) 4 zF with
 |true=>exact zpx C n j h S q w o A z
 |false=>
  cases D:isT C (q.pos+1) 4 zv with
  |true=>exact zpu C n j h S q w o A z D
  |false=>
   cases E:zB C (q.pos+1) false with
   |true=>exact zpv C n j h S q w o A z D E
   |false=>exact zpw C n j h S q w o A z D E
theorem zpA (C:Cx) (n j h:Nat) (S:Sv) (q:PS) (w:World) (o:Mem C n j h S q w) (A:isT C q.pos 1 zad=true):
  Calls Tryz.prog 71 #[pv C n j S q (-1) 0] w (Out C n j h (zaf C q) 0 S w):=by
 cases z:isT C (q.pos+1) 4 zF with
 |true=>exact zp8 C n j h S q w o A z
 |false=>
  cases D:isT C (q.pos+1) 4 zv with
  |true=>exact zp3 C n j h S q w o A z D
  |false=>
   cases E:isT C (q.pos+1) 1 sDefault with
   |true=>exact zp4 C n j h S q w o A z D E
   |false=>
    cases H:isT C (q.pos+1) 1 zA with
    |true=>exact zp5 C n j h S q w o A z D E H
    |false=>
     cases I:isT C (q.pos+1) 1 zO with
     |true=>exact zp6 C n j h S q w o A z D E H I
     |false=>exact zp7 C n j h S q w o A z D E H I
theorem zjr {C:Cx} {x:PR} {n:ByteArray}:bd (bd (bd (bd x (zd C 4 cEq)) (pE C .sum 0)) (zd C 4 cSemi)) (zX C 3 n)=bd x fun q=>bd (bd (bd (bd (.ok q) (zd C 4 cEq)) (pE C .sum 0)) (zd C 4 cSemi)) (zX C 3 n):=by cases x<;>rfl
theorem zpB (A:List Tk) (h:Nat) (D z n:Nat) (S:Sv) (q:PS) (w:World) (X:Mem (Cx.mk A h true) D z n S q w) (h0:isT (Cx.mk A h true) q.pos 1 zA=true):
  Calls Tryz.prog 21 #[pv (Cx.mk A h true) D z S q (-1) 0] w (Out (Cx.mk A h true) D z n (zy (Cx.mk A h true) q) 0 S w):=by
 have HM:=zc X
 have E:=X.tok
 have O:(Cx.mk A h true).ts.length≤4000:=X.few
 clear X
 have HV:Hid (zy (Cx.mk A h true) q=zaG (zcm (Cx.mk A h true) q)):=by show zy (Cx.mk A h true) q=_;rw[zy,h0];rfl
 unfold pv
 go_enter Tryz.func21,Tryz.ntmps21
 go_wp2_with fail
 refine (zg (Cx.mk A h true) D z n S q (-1) 0 1 zA _ (zo (zo E _) _) O (by decide)).mono ?_
 rintro e w1 ⟨rfl,N⟩
 rw[h0]
 obtain⟨I,L,m1,t1⟩:=HM.out.two N
 have o:=zc I
 have j:=zc L
 have M:=zc m1
 have U:=zc t1
 clear I L m1 t1 N
 clear E
 obtain⟨a0,a1,a2,a3,a4,a5,a6,a7,a8,a9,aa,ab,af⟩:=o.out.box
 go_wp2_with fail
 refine (zg1 (Cx.mk A h true) D z n S q _ M.out).mono ?_
 rintro e w2 ⟨J,q2,z2,n2,rfl,i2,m2,V⟩
 replace o:=zc (o.out.stp V)
 replace j:=zc (j.out.stp V)
 have K:=zc (U.out.step V)
 clear U
 have H:=zc m2
 have ac:=zc i2
 clear i2 m2 V M
 clear a0 a1 a2 a3 a4 a5 a6 a7 a8 a9 aa ab af
 have ae:w.heap.size+1<w2.heap.size:=j.out.lt
 unfold pv
 go_upto_region 7 with fail
 refine zJ (R:=fun W=>Bx D J W (w.heap.size) _∧Bx D J W (w.heap.size+1) _∧Bx D J W (w2.heap.size) _∧Mem (Cx.mk A h true) D z n J q2 W∧SB w.heap.size S w J W) ⟨(o.out.alloc _),(j.out.alloc _),(Bx.new H.out _),(H.out.alloc _),(K.out.alloc _)⟩ ?_
 clear o j K H
 rintro w3 ⟨I,L,X2,m3,t3⟩
 have o:=zc I
 have j:=zc L
 have Y:=zc X2
 have Z:=zc m3
 have ad:=zc t3
 clear m3 t3 I L X2
 obtain⟨b0,b1,b2,b3,b4,b5,b6,b7,b8,b9,ah,ai,bf⟩:=j.out.box
 obtain⟨c0,c1,c2,c3,c4,c5,c6,c7,c8,c9,ag,aj,cf⟩:=Y.out.box
 go_wp2
 refine bodyPost_ret (results_cell_row rfl _ _ (w.heap.size+1) 53 _ (0,0) _ rfl ((j.out.put ..)).heap Tryz.underlying53 rfl (by kernel_rfl)) rfl ?_
 rw[HV.out]
 exact zW rfl ac.out.fst (Z.out.put j.out ..) (ad.out.put (by omega) ..)
theorem zpC (A:List Tk) (h:Nat) (E z n:Nat) (S:Sv) (q:PS) (w:World) (hm:Mem (Cx.mk A h true) E z n S q w) (h0:isT (Cx.mk A h true) q.pos 1 zA=false) (h1:isT (Cx.mk A h true) q.pos 1 zO=true):
  Calls Tryz.prog 21 #[pv (Cx.mk A h true) E z S q (-1) 0] w (Out (Cx.mk A h true) E z n (zy (Cx.mk A h true) q) 0 S w):=by
 have HM:=zc hm
 have H:=hm.tok
 have I:(Cx.mk A h true).ts.length≤4000:=hm.few
 clear hm
 have HV:Hid (zy (Cx.mk A h true) q=zaG (fnP (Cx.mk A h true) q)):=by show zy (Cx.mk A h true) q=_;rw[zy,h0,h1];rfl
 unfold pv
 go_enter Tryz.func21,Tryz.ntmps21
 go_wp2_with fail
 refine (zg (Cx.mk A h true) E z n S q (-1) 0 1 zA _ (zo (zo H _) _) I (by decide)).mono ?_
 rintro e w1 ⟨rfl,Z⟩
 rw[h0]
 obtain⟨O,Y,m1,t1⟩:=HM.out.two Z
 have o:=zc O
 have j:=zc Y
 have M:=zc m1
 have aa:=zc t1
 clear O Y m1 t1 Z
 clear H
 obtain⟨a0,a1,a2,a3,a4,a5,a6,a7,a8,a9,K,L,af⟩:=o.out.box
 go_wp2_with fail
 refine (zg (Cx.mk A h true) E z n S q (-1) 0 1 zO _ M.out.tok I (by decide)).mono ?_
 rintro e w2 ⟨rfl,D⟩
 rw[h1]
 replace o:=zc (o.out.below D)
 replace j:=zc (j.out.below D)
 have U:=zc (aa.out.below D)
 have V:=zc (M.out.later D)
 clear D aa M
 clear a0 a1 a2 a3 a4 a5 a6 a7 a8 a9 K L af
 obtain⟨a0,a1,a2,a3,a4,a5,a6,a7,a8,a9,K,L,af⟩:=o.out.box
 go_wp2_with fail
 refine (zg2 (Cx.mk A h true) E z n S q _ V.out).mono ?_
 rintro e w3 ⟨N,q3,z3,n3,rfl,i3,m3,s3⟩
 replace o:=zc (o.out.stp s3)
 replace j:=zc (j.out.stp s3)
 have X:=zc (U.out.step s3)
 clear U
 have J:=zc m3
 have ae:=zc i3
 clear i3 m3 s3 V
 clear a0 a1 a2 a3 a4 a5 a6 a7 a8 a9 K L af
 have ag:w.heap.size+1<w3.heap.size:=j.out.lt
 unfold pv
 go_upto_region 10 with fail
 refine zJ (R:=fun W=>Bx E N W (w.heap.size) _∧Bx E N W (w.heap.size+1) _∧Bx E N W (w3.heap.size) _∧Mem (Cx.mk A h true) E z n N q3 W∧SB w.heap.size S w N W) ⟨(o.out.alloc _),(j.out.alloc _),(Bx.new J.out _),(J.out.alloc _),(X.out.alloc _)⟩ ?_
 clear o j X J
 rintro w4 ⟨O,Y,X2,m4,t4⟩
 have o:=zc O
 have j:=zc Y
 have ac:=zc X2
 have ab:=zc m4
 have ad:=zc t4
 clear m4 t4 O Y X2
 obtain⟨b0,b1,b2,b3,b4,b5,b6,b7,b8,b9,ai,aj,bf⟩:=j.out.box
 obtain⟨c0,c1,c2,c3,c4,c5,c6,c7,c8,c9,ah,ak,cf⟩:=ac.out.box
 go_wp2
 refine bodyPost_ret (results_cell_row rfl _ _ (w.heap.size+1) 53 _ (0,0) _ rfl ((j.out.put ..)).heap Tryz.underlying53 rfl (by kernel_rfl)) rfl ?_
 rw[HV.out]
 exact zW rfl ae.out.fst (ab.out.put j.out ..) (ad.out.put (by omega) ..)
theorem zpD (A:List Tk) (h:Nat) (D z o:Nat) (S:Sv) (q:PS) (w:World) (hm:Mem (Cx.mk A h true) D z o S q w) (h0:isT (Cx.mk A h true) q.pos 1 zA=false) (h1:isT (Cx.mk A h true) q.pos 1 zO=false) (h2:isT (Cx.mk A h true) q.pos 1 zap=true):
  Calls Tryz.prog 21 #[pv (Cx.mk A h true) D z S q (-1) 0] w (Out (Cx.mk A h true) D z o (zy (Cx.mk A h true) q) 0 S w):=by
 have HM:=zc hm
 have N:=hm.tok
 have M:(Cx.mk A h true).ts.length≤4000:=hm.few
 clear hm
 have HV:Hid (zy (Cx.mk A h true) q=bd (bd (bd (bd (bd (bd (.ok q) (zd (Cx.mk A h true) 1 zap)) (zd (Cx.mk A h true) 4 zm)) (pE (Cx.mk A h true) .sum 0)) (zd (Cx.mk A h true) 4 zay)) (zd (Cx.mk A h true) 4 cSemi)) (zX (Cx.mk A h true) 4 sNone)):=by show zy (Cx.mk A h true) q=_;rw[zy,h0,h1,h2];rfl
 unfold pv
 go_enter Tryz.func21,Tryz.ntmps21
 go_wp2_with fail
 refine (zg (Cx.mk A h true) D z o S q (-1) 0 1 zA _ (zo (zo N _) _) M (by decide)).mono ?_
 rintro e w1 ⟨rfl,av⟩
 rw[h0]
 obtain⟨X0,X1,m1,t1⟩:=HM.out.two av
 have n:=zc X0
 have j:=zc X1
 have V:=zc m1
 have ax:=zc t1
 clear X0 X1 m1 t1 av
 clear N
 obtain⟨a0,a1,a2,Y,a4,a5,a6,a7,a8,a9,I,K,af⟩:=n.out.box
 go_wp2_with fail
 refine (zg (Cx.mk A h true) D z o S q (-1) 0 1 zO _ V.out.tok M (by decide)).mono ?_
 rintro e w2 ⟨rfl,J⟩
 rw[h1]
 replace n:=zc (n.out.below J)
 replace j:=zc (j.out.below J)
 have aj:=zc (ax.out.below J)
 have U:=zc (V.out.later J)
 clear J ax V
 clear a0 a1 a2 Y a4 a5 a6 a7 a8 a9 I K af
 obtain⟨a0,a1,a2,Y,a4,a5,a6,a7,a8,a9,I,K,af⟩:=n.out.box
 go_wp2_with fail
 refine (zg (Cx.mk A h true) D z o S q (-1) 0 1 zap _ U.out.tok M (by decide)).mono ?_
 rintro e w3 ⟨rfl,H⟩
 rw[h2]
 replace n:=zc (n.out.below H)
 replace j:=zc (j.out.below H)
 have an:=zc (aj.out.below H)
 have ad:=zc (U.out.later H)
 clear H aj U
 clear a0 a1 a2 Y a4 a5 a6 a7 a8 a9 I K af
 obtain⟨a0,a1,a2,Y,a4,a5,a6,a7,a8,a9,I,K,af⟩:=n.out.box
 go_wp2_with fail
 refine (zaC (Cx.mk A h true) D z o (.ok q) S q (-1) 0 zap _ (zU q) ad.out).mono ?_
 rintro e w4 ⟨S4,q4,z4,rfl,i4,m4,s4⟩
 replace n:=zc (n.out.stp s4)
 replace j:=zc (j.out.stp s4)
 have aq:=zc (an.out.step s4)
 clear an
 have aa:=zc m4
 have aA:=zc i4
 clear i4 m4 s4 ad
 clear a0 a1 a2 Y a4 a5 a6 a7 a8 a9 I K af
 go_wp2_with fail
 refine (zab (Cx.mk A h true) D z o _ S4 q4 z4 0 zm _ aA.out aa.out).mono ?_
 rintro e w5 ⟨S5,q5,z5,rfl,i5,m5,s5⟩
 replace n:=zc (n.out.stp s5)
 replace j:=zc (j.out.stp s5)
 have au:=zc (aq.out.step s5)
 clear aq
 have ac:=zc m5
 have ay:=zc i5
 clear i5 m5 s5 aa
 go_wp2_with fail
 refine (zcE (Cx.mk A h true) D z o _ S5 q5 z5 _ ay.out ac.out).mono ?_
 rintro e w6 ⟨S6,q6,z6,rfl,i6,m6,s6⟩
 replace n:=zc (n.out.stp s6)
 replace j:=zc (j.out.stp s6)
 have am:=zc (au.out.step s6)
 clear au
 have ar:=zc m6
 have aD:=zc i6
 clear i6 m6 s6 ac
 go_wp2_with fail
 refine (zab (Cx.mk A h true) D z o _ S6 q6 z6 0 zay _ aD.out ar.out).mono ?_
 rintro e w7 ⟨X,q7,z7,rfl,i7,m7,s7⟩
 replace n:=zc (n.out.stp s7)
 replace j:=zc (j.out.stp s7)
 have ai:=zc (am.out.step s7)
 clear am
 have O:=zc m7
 have aB:=zc i7
 clear i7 m7 s7 ar
 have aE:w.heap.size+1<w7.heap.size:=j.out.lt
 unfold pv
 go_upto_region 13 with fail
 refine zJ (R:=fun W=>Bx D X W (w.heap.size) _∧Bx D X W (w.heap.size+1) _∧Bx D X W (w7.heap.size) _∧Mem (Cx.mk A h true) D z o X q7 W∧SB w.heap.size S w X W) ⟨(n.out.alloc _),(j.out.alloc _),(Bx.new O.out _),(O.out.alloc _),(ai.out.alloc _)⟩ ?_
 clear n j ai O
 rintro w8 ⟨X0,X1,X2,m8,t8⟩
 have n:=zc X0
 have j:=zc X1
 have E:=zc X2
 have ae:=zc m8
 have ag:=zc t8
 clear m8 t8 X0 X1 X2
 obtain⟨c0,c1,c2,c3,c4,c5,c6,c7,c8,c9,az,aC,cf⟩:=E.out.box
 go_wp2_with fail
 refine (zab (Cx.mk A h true) D z o _ X q7 z7 0 cSemi _ aB.out ae.out).mono ?_
 rintro e w9 ⟨S9,q9,z9,rfl,i9,m9,s9⟩
 replace n:=zc (n.out.stp s9)
 replace j:=zc (j.out.stp s9)
 replace E:=zc (E.out.stp s9)
 have ah:=zc (ag.out.step s9)
 clear ag
 have Z:=zc m9
 have al:=zc i9
 clear i9 m9 s9 ae
 clear c0 c1 c2 c3 c4 c5 c6 c7 c8 c9 az aC cf
 go_wp2_with fail
 refine (zc4 (Cx.mk A h true) D z o _ S9 q9 z9 0 4 sNone _ al.out Z.out (zaZ al.out)).mono ?_
 rintro e aF ⟨aH,aG,aK,rfl,ao,aw,L⟩
 replace n:=zc (n.out.stp L)
 replace j:=zc (j.out.stp L)
 replace E:=zc (E.out.stp L)
 have ap:=zc (ah.out.step L)
 clear ah
 have ab:=zc aw
 have ak:=zc ao
 clear ao aw L Z
 obtain⟨b0,b1,b2,b3,b4,b5,b6,b7,b8,b9,aI,aJ,bf⟩:=j.out.box
 unfold pv
 go_wp2
 refine bodyPost_ret (results_cell_row rfl _ _ (w.heap.size+1) 53 _ (0,0) _ rfl ((j.out.put ..)).heap Tryz.underlying53 rfl (by kernel_rfl)) rfl ?_
 rw[HV.out]
 exact zW rfl ak.out (ab.out.put j.out ..) (ap.out.put (by omega) ..)
theorem zpE (A:List Tk) (h:Nat) (J z o:Nat) (S:Sv) (q:PS) (w:World) (hm:Mem (Cx.mk A h true) J z o S q w) (h0:isT (Cx.mk A h true) q.pos 1 zA=false) (h1:isT (Cx.mk A h true) q.pos 1 zO=false) (h2:isT (Cx.mk A h true) q.pos 1 zap=false) (h3:isT (Cx.mk A h true) q.pos 1 za0=true):
  Calls Tryz.prog 21 #[pv (Cx.mk A h true) J z S q (-1) 0] w (Out (Cx.mk A h true) J z o (zy (Cx.mk A h true) q) 0 S w):=by
 have HM:=zc hm
 have M:=hm.tok
 have H:(Cx.mk A h true).ts.length≤4000:=hm.few
 clear hm
 have HV:Hid (zy (Cx.mk A h true) q=bd (bd (bd (bd (.ok q) (zd (Cx.mk A h true) 1 za0)) (pE (Cx.mk A h true) .sum 0)) (zd (Cx.mk A h true) 4 cSemi)) (zX (Cx.mk A h true) 5 sNone)):=by show zy (Cx.mk A h true) q=_;rw[zy,h0,h1,h2,h3];rfl
 unfold pv
 go_enter Tryz.func21,Tryz.ntmps21
 go_wp2_with fail
 refine (zg (Cx.mk A h true) J z o S q (-1) 0 1 zA _ (zo (zo M _) _) H (by decide)).mono ?_
 rintro e w1 ⟨rfl,an⟩
 rw[h0]
 obtain⟨X0,X1,m1,t1⟩:=HM.out.two an
 have j:=zc X0
 have n:=zc X1
 have aa:=zc m1
 have ao:=zc t1
 clear X0 X1 m1 t1 an
 clear M
 obtain⟨V,a1,U,N,a4,a5,a6,a7,Y,Z,D,E,af⟩:=j.out.box
 go_wp2_with fail
 refine (zg (Cx.mk A h true) J z o S q (-1) 0 1 zO _ aa.out.tok H (by decide)).mono ?_
 rintro e w2 ⟨rfl,K⟩
 rw[h1]
 replace j:=zc (j.out.below K)
 replace n:=zc (n.out.below K)
 have ah:=zc (ao.out.below K)
 have X:=zc (aa.out.later K)
 clear K ao aa
 clear V a1 U N a4 a5 a6 a7 Y Z D E af
 obtain⟨V,a1,U,N,a4,a5,a6,a7,Y,Z,D,E,af⟩:=j.out.box
 go_wp2_with fail
 refine (zg (Cx.mk A h true) J z o S q (-1) 0 1 zap _ X.out.tok H (by decide)).mono ?_
 rintro e w3 ⟨rfl,I⟩
 rw[h2]
 replace j:=zc (j.out.below I)
 replace n:=zc (n.out.below I)
 have aj:=zc (ah.out.below I)
 have O:=zc (X.out.later I)
 clear I ah X
 clear V a1 U N a4 a5 a6 a7 Y Z D E af
 obtain⟨V,a1,U,N,a4,a5,a6,a7,Y,Z,D,E,af⟩:=j.out.box
 go_wp2_with fail
 refine (zg (Cx.mk A h true) J z o S q (-1) 0 1 za0 _ O.out.tok H (by decide)).mono ?_
 rintro e w4 ⟨rfl,L⟩
 rw[h3]
 replace j:=zc (j.out.below L)
 replace n:=zc (n.out.below L)
 have ak:=zc (aj.out.below L)
 have ac:=zc (O.out.later L)
 clear L aj O
 clear V a1 U N a4 a5 a6 a7 Y Z D E af
 obtain⟨V,a1,U,N,a4,a5,a6,a7,Y,Z,D,E,af⟩:=j.out.box
 go_wp2_with fail
 refine (zaC (Cx.mk A h true) J z o (.ok q) S q (-1) 0 za0 _ (zU q) ac.out).mono ?_
 rintro e w5 ⟨S5,q5,z5,rfl,i5,m5,s5⟩
 replace j:=zc (j.out.stp s5)
 replace n:=zc (n.out.stp s5)
 have am:=zc (ak.out.step s5)
 clear ak
 have ad:=zc m5
 have ap:=zc i5
 clear i5 m5 s5 ac
 clear V a1 U N a4 a5 a6 a7 Y Z D E af
 go_wp2_with fail
 refine (zcE (Cx.mk A h true) J z o _ S5 q5 z5 _ ap.out ad.out).mono ?_
 rintro e w6 ⟨S6,q6,z6,rfl,i6,m6,s6⟩
 replace j:=zc (j.out.stp s6)
 replace n:=zc (n.out.stp s6)
 have ai:=zc (am.out.step s6)
 clear am
 have al:=zc m6
 have av:=zc i6
 clear i6 m6 s6 ad
 go_wp2_with fail
 refine (zab (Cx.mk A h true) J z o _ S6 q6 z6 0 cSemi _ av.out al.out).mono ?_
 rintro e w7 ⟨S7,q7,z7,rfl,i7,m7,s7⟩
 replace j:=zc (j.out.stp s7)
 replace n:=zc (n.out.stp s7)
 have ae:=zc (ai.out.step s7)
 clear ai
 have ab:=zc m7
 have ag:=zc i7
 clear i7 m7 s7 al
 go_wp2_with fail
 refine (zc4 (Cx.mk A h true) J z o _ S7 q7 z7 0 5 sNone _ ag.out ab.out (zaZ ag.out)).mono ?_
 rintro e w8 ⟨S8,q8,z8,rfl,i8,m8,s8⟩
 replace j:=zc (j.out.stp s8)
 replace n:=zc (n.out.stp s8)
 have aq:=zc (ae.out.step s8)
 clear ae
 have ar:=zc m8
 have au:=zc i8
 clear i8 m8 s8 ab
 obtain⟨b0,b1,b2,b3,b4,b5,b6,b7,b8,b9,aw,ax,bf⟩:=n.out.box
 unfold pv
 go_wp2
 refine bodyPost_ret (results_cell_row rfl _ _ (w.heap.size+1) 53 _ (0,0) _ rfl ((n.out.put ..)).heap Tryz.underlying53 rfl (by kernel_rfl)) rfl ?_
 rw[HV.out]
 exact zW rfl au.out (ar.out.put n.out ..) (aq.out.put (by omega) ..)
theorem zpF (A:List Tk) (h:Nat) (I z o:Nat) (S:Sv) (q:PS) (w:World) (hm:Mem (Cx.mk A h true) I z o S q w) (h0:isT (Cx.mk A h true) q.pos 1 zA=false) (h1:isT (Cx.mk A h true) q.pos 1 zO=false) (h2:isT (Cx.mk A h true) q.pos 1 zap=false) (h3:isT (Cx.mk A h true) q.pos 1 za0=false) (h4:isT (Cx.mk A h true) q.pos 1 zby=true):
  Calls Tryz.prog 21 #[pv (Cx.mk A h true) I z S q (-1) 0] w (Out (Cx.mk A h true) I z o (zy (Cx.mk A h true) q) 0 S w):=by
 have HM:=zc hm
 have aa:=hm.tok
 have H:(Cx.mk A h true).ts.length≤4000:=hm.few
 clear hm
 have HV:Hid (zy (Cx.mk A h true) q=bd (bd (bd (bd (.ok q) (zd (Cx.mk A h true) 1 zby)) (pE (Cx.mk A h true) .sum 0)) (zd (Cx.mk A h true) 4 cSemi)) (zX (Cx.mk A h true) 6 sNone)):=by show zy (Cx.mk A h true) q=_;rw[zy,h0,h1,h2,h3,h4];rfl
 unfold pv
 go_enter Tryz.func21,Tryz.ntmps21
 go_wp2_with fail
 refine (zg (Cx.mk A h true) I z o S q (-1) 0 1 zA _ (zo (zo aa _) _) H (by decide)).mono ?_
 rintro e w1 ⟨rfl,au⟩
 rw[h0]
 obtain⟨X0,X1,m1,t1⟩:=HM.out.two au
 have j:=zc X0
 have n:=zc X1
 have ae:=zc m1
 have av:=zc t1
 clear X0 X1 m1 t1 au
 clear aa
 obtain⟨U,Y,O,N,a4,a5,Z,a7,V,X,D,E,af⟩:=j.out.box
 go_wp2_with fail
 refine (zg (Cx.mk A h true) I z o S q (-1) 0 1 zO _ ae.out.tok H (by decide)).mono ?_
 rintro e w2 ⟨rfl,K⟩
 rw[h1]
 replace j:=zc (j.out.below K)
 replace n:=zc (n.out.below K)
 have al:=zc (av.out.below K)
 have ad:=zc (ae.out.later K)
 clear K av ae
 clear U Y O N a4 a5 Z a7 V X D E af
 obtain⟨U,Y,O,N,a4,a5,Z,a7,V,X,D,E,af⟩:=j.out.box
 go_wp2_with fail
 refine (zg (Cx.mk A h true) I z o S q (-1) 0 1 zap _ ad.out.tok H (by decide)).mono ?_
 rintro e w3 ⟨rfl,J⟩
 rw[h2]
 replace j:=zc (j.out.below J)
 replace n:=zc (n.out.below J)
 have ao:=zc (al.out.below J)
 have ac:=zc (ad.out.later J)
 clear J al ad
 clear U Y O N a4 a5 Z a7 V X D E af
 obtain⟨U,Y,O,N,a4,a5,Z,a7,V,X,D,E,af⟩:=j.out.box
 go_wp2_with fail
 refine (zg (Cx.mk A h true) I z o S q (-1) 0 1 za0 _ ac.out.tok H (by decide)).mono ?_
 rintro e w4 ⟨rfl,M⟩
 rw[h3]
 replace j:=zc (j.out.below M)
 replace n:=zc (n.out.below M)
 have ap:=zc (ao.out.below M)
 have ab:=zc (ac.out.later M)
 clear M ao ac
 clear U Y O N a4 a5 Z a7 V X D E af
 obtain⟨U,Y,O,N,a4,a5,Z,a7,V,X,D,E,af⟩:=j.out.box
 go_wp2_with fail
 refine (zg (Cx.mk A h true) I z o S q (-1) 0 1 zby _ ab.out.tok H (by decide)).mono ?_
 rintro e w5 ⟨rfl,L⟩
 rw[h4]
 replace j:=zc (j.out.below L)
 replace n:=zc (n.out.below L)
 have ar:=zc (ap.out.below L)
 have ah:=zc (ab.out.later L)
 clear L ap ab
 clear U Y O N a4 a5 Z a7 V X D E af
 obtain⟨U,Y,O,N,a4,a5,Z,a7,V,X,D,E,af⟩:=j.out.box
 go_wp2_with fail
 refine (zaC (Cx.mk A h true) I z o (.ok q) S q (-1) 0 zby _ (zU q) ah.out).mono ?_
 rintro e w6 ⟨S6,q6,z6,rfl,i6,m6,s6⟩
 replace j:=zc (j.out.stp s6)
 replace n:=zc (n.out.stp s6)
 have an:=zc (ar.out.step s6)
 clear ar
 have aq:=zc m6
 have aA:=zc i6
 clear i6 m6 s6 ah
 clear U Y O N a4 a5 Z a7 V X D E af
 go_wp2_with fail
 refine (zcE (Cx.mk A h true) I z o _ S6 q6 z6 _ aA.out aq.out).mono ?_
 rintro e w7 ⟨S7,q7,z7,rfl,i7,m7,s7⟩
 replace j:=zc (j.out.stp s7)
 replace n:=zc (n.out.stp s7)
 have ak:=zc (an.out.step s7)
 clear an
 have ag:=zc m7
 have ay:=zc i7
 clear i7 m7 s7 aq
 go_wp2_with fail
 refine (zab (Cx.mk A h true) I z o _ S7 q7 z7 0 cSemi _ ay.out ag.out).mono ?_
 rintro e w8 ⟨S8,q8,z8,rfl,i8,m8,s8⟩
 replace j:=zc (j.out.stp s8)
 replace n:=zc (n.out.stp s8)
 have ai:=zc (ak.out.step s8)
 clear ak
 have aj:=zc m8
 have am:=zc i8
 clear i8 m8 s8 ag
 go_wp2_with fail
 refine (zc4 (Cx.mk A h true) I z o _ S8 q8 z8 0 6 sNone _ am.out aj.out (zaZ am.out)).mono ?_
 rintro e w9 ⟨S9,q9,z9,rfl,i9,m9,s9⟩
 replace j:=zc (j.out.stp s9)
 replace n:=zc (n.out.stp s9)
 have ax:=zc (ai.out.step s9)
 clear ai
 have aw:=zc m9
 have az:=zc i9
 clear i9 m9 s9 aj
 obtain⟨b0,b1,b2,b3,b4,b5,b6,b7,b8,b9,aB,aC,bf⟩:=n.out.box
 unfold pv
 go_wp2
 refine bodyPost_ret (results_cell_row rfl _ _ (w.heap.size+1) 53 _ (0,0) _ rfl ((n.out.put ..)).heap Tryz.underlying53 rfl (by kernel_rfl)) rfl ?_
 rw[HV.out]
 exact zW rfl az.out (aw.out.put n.out ..) (ax.out.put (by omega) ..)
theorem zpG (A:List Tk) (h:Nat) (J D z:Nat) (S:Sv) (q:PS) (w:World) (hm:Mem (Cx.mk A h true) J D z S q w) (h0:isT (Cx.mk A h true) q.pos 1 zA=false) (h1:isT (Cx.mk A h true) q.pos 1 zO=false) (h2:isT (Cx.mk A h true) q.pos 1 zap=false) (h3:isT (Cx.mk A h true) q.pos 1 za0=false) (h4:isT (Cx.mk A h true) q.pos 1 zby=false):
  Calls Tryz.prog 21 #[pv (Cx.mk A h true) J D S q (-1) 0] w (Out (Cx.mk A h true) J D z (zy (Cx.mk A h true) q) 0 S w):=by
 have HM:=zc hm
 have ab:=hm.tok
 have K:(Cx.mk A h true).ts.length≤4000:=hm.few
 clear hm
 have HV:Hid (zy (Cx.mk A h true) q=bd (bd (.ok q) (zh (Cx.mk A h true) false)) fun a=>bd (bd (bd (bd (.ok a.1) (zd (Cx.mk A h true) 4 cEq)) (pE (Cx.mk A h true) .sum 0)) (zd (Cx.mk A h true) 4 cSemi)) (zX (Cx.mk A h true) 3 a.2)):=by show zy (Cx.mk A h true) q=_;rw[zy,h0,h1,h2,h3,h4];rfl
 unfold pv
 go_enter Tryz.func21,Tryz.ntmps21
 go_wp2_with fail
 refine (zg (Cx.mk A h true) J D z S q (-1) 0 1 zA _ (zo (zo ab _) _) K (by decide)).mono ?_
 rintro e w1 ⟨rfl,aD⟩
 rw[h0]
 obtain⟨X0,X1,m1,t1⟩:=HM.out.two aD
 have j:=zc X0
 have o:=zc X1
 have aj:=zc m1
 have aG:=zc t1
 clear X0 X1 m1 t1 aD
 clear ab
 obtain⟨Z,a1,Y,X,a4,a5,a6,a7,a8,a9,H,I,af⟩:=j.out.box
 go_wp2_with fail
 refine (zg (Cx.mk A h true) J D z S q (-1) 0 1 zO _ aj.out.tok K (by decide)).mono ?_
 rintro e w2 ⟨rfl,N⟩
 rw[h1]
 replace j:=zc (j.out.below N)
 replace o:=zc (o.out.below N)
 have av:=zc (aG.out.below N)
 have ah:=zc (aj.out.later N)
 clear N aG aj
 clear Z a1 Y X a4 a5 a6 a7 a8 a9 H I af
 obtain⟨Z,a1,Y,X,a4,a5,a6,a7,a8,a9,H,I,af⟩:=j.out.box
 go_wp2_with fail
 refine (zg (Cx.mk A h true) J D z S q (-1) 0 1 zap _ ah.out.tok K (by decide)).mono ?_
 rintro e w3 ⟨rfl,M⟩
 rw[h2]
 replace j:=zc (j.out.below M)
 replace o:=zc (o.out.below M)
 have ay:=zc (av.out.below M)
 have ag:=zc (ah.out.later M)
 clear M av ah
 clear Z a1 Y X a4 a5 a6 a7 a8 a9 H I af
 obtain⟨Z,a1,Y,X,a4,a5,a6,a7,a8,a9,H,I,af⟩:=j.out.box
 go_wp2_with fail
 refine (zg (Cx.mk A h true) J D z S q (-1) 0 1 za0 _ ag.out.tok K (by decide)).mono ?_
 rintro e w4 ⟨rfl,L⟩
 rw[h3]
 replace j:=zc (j.out.below L)
 replace o:=zc (o.out.below L)
 have aB:=zc (ay.out.below L)
 have ae:=zc (ag.out.later L)
 clear L ay ag
 clear Z a1 Y X a4 a5 a6 a7 a8 a9 H I af
 obtain⟨Z,a1,Y,X,a4,a5,a6,a7,a8,a9,H,I,af⟩:=j.out.box
 go_wp2_with fail
 refine (zg (Cx.mk A h true) J D z S q (-1) 0 1 zby _ ae.out.tok K (by decide)).mono ?_
 rintro e w5 ⟨rfl,V⟩
 rw[h4]
 replace j:=zc (j.out.below V)
 replace o:=zc (o.out.below V)
 have aC:=zc (aB.out.below V)
 have am:=zc (ae.out.later V)
 clear V aB ae
 clear Z a1 Y X a4 a5 a6 a7 a8 a9 H I af
 obtain⟨Z,a1,Y,X,a4,a5,a6,a7,a8,a9,H,I,af⟩:=j.out.box
 go_wp2_with fail
 refine (zaU (Cx.mk A h true) J D z (.ok q) S q (-1) 0 false _ (zU q) am.out).mono ?_
 rintro e w6 ⟨S6,q6,z6,n6,rfl,i6,m6,s6⟩
 replace j:=zc (j.out.stp s6)
 replace o:=zc (o.out.stp s6)
 have aw:=zc (aC.out.step s6)
 clear aC
 have ai:=zc m6
 have aH:=zc i6
 clear i6 m6 s6 am
 clear Z a1 Y X a4 a5 a6 a7 a8 a9 H I af
 have aP:w.heap.size+1<w6.heap.size:=o.out.lt
 unfold pv
 go_upto_region 19 with fail
 refine zJ (R:=fun W=>Bx J S6 W (w.heap.size) _∧Bx J S6 W (w.heap.size+1) _∧Bx J S6 W (w6.heap.size) _∧Mem (Cx.mk A h true) J D z S6 q6 W∧SB w.heap.size S w S6 W) ⟨(j.out.alloc _),(o.out.alloc _),(Bx.new ai.out _),(ai.out.alloc _),(aw.out.alloc _)⟩ ?_
 clear j o aw ai
 rintro w7 ⟨X0,X1,X2,m7,t7⟩
 have j:=zc X0
 have o:=zc X1
 have E:=zc X2
 have ak:=zc m7
 have ar:=zc t7
 clear m7 t7 X0 X1 X2
 obtain⟨c0,c1,c2,c3,c4,c5,c6,c7,c8,c9,aI,aO,cf⟩:=E.out.box
 go_wp2_with fail
 refine (zab (Cx.mk A h true) J D z _ S6 q6 z6 0 cEq _ aH.out.fst ak.out).mono ?_
 rintro e w8 ⟨S8,q8,z8,rfl,i8,m8,s8⟩
 replace j:=zc (j.out.stp s8)
 replace o:=zc (o.out.stp s8)
 replace E:=zc (E.out.stp s8)
 have ao:=zc (ar.out.step s8)
 clear ar
 have ap:=zc m8
 have aM:=zc i8
 clear i8 m8 s8 ak
 clear c0 c1 c2 c3 c4 c5 c6 c7 c8 c9 aI aO cf
 go_wp2_with fail
 refine (zcE (Cx.mk A h true) J D z _ S8 q8 z8 _ aM.out ap.out).mono ?_
 rintro e w9 ⟨S9,q9,z9,rfl,i9,m9,s9⟩
 replace j:=zc (j.out.stp s9)
 replace o:=zc (o.out.stp s9)
 replace E:=zc (E.out.stp s9)
 have aq:=zc (ao.out.step s9)
 clear ao
 have al:=zc m9
 have aL:=zc i9
 clear i9 m9 s9 ap
 go_wp2_with fail
 refine (zab (Cx.mk A h true) J D z _ S9 q9 z9 0 cSemi _ aL.out al.out).mono ?_
 rintro e aR ⟨aK,aJ,aN,rfl,az,aF,U⟩
 replace j:=zc (j.out.stp U)
 replace o:=zc (o.out.stp U)
 replace E:=zc (E.out.stp U)
 have ad:=zc (aq.out.step U)
 clear aq
 have aa:=zc aF
 have ac:=zc az
 clear az aF U al
 go_wp2_with fail
 refine (zc4 (Cx.mk A h true) J D z _ aK aJ aN 0 3 n6 _ ac.out aa.out (zaZ ac.out)).mono ?_
 rintro e aV ⟨aW,aQ,aT,rfl,an,aE,O⟩
 replace j:=zc (j.out.stp O)
 replace o:=zc (o.out.stp O)
 replace E:=zc (E.out.stp O)
 have ax:=zc (ad.out.step O)
 clear ad
 have au:=zc aE
 have aA:=zc an
 clear an aE O aa
 obtain⟨b0,b1,b2,b3,b4,b5,b6,b7,b8,b9,aS,aU,bf⟩:=o.out.box
 unfold pv
 go_wp2
 refine bodyPost_ret (results_cell_row rfl _ _ (w.heap.size+1) 53 _ (0,0) _ rfl ((o.out.put ..)).heap Tryz.underlying53 rfl (by kernel_rfl)) rfl ?_
 rw[HV.out,←aH.out.bind (fun q n=>bd (bd (bd (bd (.ok q) (zd (Cx.mk A h true) 4 cEq)) (pE (Cx.mk A h true) .sum 0)) (zd (Cx.mk A h true) 4 cSemi)) (zX (Cx.mk A h true) 3 n)),←zjr]
 exact zW rfl aA.out (au.out.put o.out ..) (ax.out.put (by omega) ..)
theorem zpH (o:List Tk) (h:Nat) (z n j:Nat) (S:Sv) (q:PS) (w:World) (A:Mem (Cx.mk o h true) z n j S q w):
  Calls Tryz.prog 21 #[pv (Cx.mk o h true) z n S q (-1) 0] w (Out (Cx.mk o h true) z n j (zy (Cx.mk o h true) q) 0 S w):=by
 cases D:isT (Cx.mk o h true) q.pos 1 zA with
 |true=>exact zpB o h z n j S q w A D
 |false=>
  cases E:isT (Cx.mk o h true) q.pos 1 zO with
  |true=>exact zpC o h z n j S q w A D E
  |false=>
   cases H:isT (Cx.mk o h true) q.pos 1 zap with
   |true=>exact zpD o h z n j S q w A D E H
   |false=>
    cases I:isT (Cx.mk o h true) q.pos 1 za0 with
    |true=>exact zpE o h z n j S q w A D E H I
    |false=>
     cases J:isT (Cx.mk o h true) q.pos 1 zby with
     |true=>exact zpF o h z n j S q w A D E H I J
     |false=>
      exact zpG o h z n j S q w A D E H I J
end Go.Proofs.YticdggnnpjachaaGreat
