/-
  What spec's l4Import answers: the walks.
  What spec's l4Export answers: the walks.
  What spec's l4Export answers to a list of names: the walks.
  What spec's l4Item answers: the walks.
-/
import Derived.Test.YticdggnnpjachaaGreatCcSpecRowToSpecParseK
namespace Go.Proofs.YticdggnnpjachaaGreat
set_option maxRecDepth 100000
set_option maxHeartbeats 6400000
open Go.RowKit Go.PlainAid
theorem zcF {C:Cx} {k:Int} {s:ByteArray} {q j:PS} {n:Int} (h:Is (bd (.ok q) (zd C k s)) j n) (o:isT C q.pos k s=true):j=adv q∧n= -1:=by
 rw[zx,zd,if_pos o] at h
 exact h
theorem ze7 {α:Type} (f:α→PS→PR) (l:List α) (e:Nat):zR f l (.error e)= .error e:=by
 induction l with
 |nil=>rfl
 |cons a l h=>exact h
theorem zf2 {α:Type} (f:α→PS→PR) (l:List α) (x:PR) {k:Nat} (h:k<l.length):zR f (l.drop k) x=zR f (l.drop (k+1)) (bd x (f (l[k]))):=by
 rw[List.drop_eq_getElem_cons h]
 rfl
theorem zjn {C:Cx} {h:PRN} {H w:PS} {E I:Int} {o n:ByteArray} {G:ByteArray→ByteArray→PS→PR} (D:Is2 h H E o) (j:Is2 (bd (bd (zaG h) (zd C 1 zP)) (zG C)) w I n):
  bd (bd (zaG (bd (bd (zaG h) (zd C 1 zP)) (zG C))) (zd C 4 cSemi)) (G n o)=bd h fun a=>bd (zaQ C (zaA C (.ok a.1))) fun b=>G b.2 a.2 b.1:=by
 cases h with
 |error e=>rfl
 |ok a=>
  obtain⟨_,_,rfl⟩:=D
  have A:bd (bd (zaG (.ok a)) (zd C 1 zP)) (zG C)=zaA C (.ok a.1):=rfl
  rw[A] at j ⊢
  rw[zx]
  cases z:zaA C (.ok a.1) with
  |error e=>rfl
  |ok b=>
   rw[z] at j
   obtain⟨_,_,rfl⟩:=j
   show bd (zd C 4 cSemi b.1) (G b.2 a.2)=bd (bd (zd C 4 cSemi b.1) fun q=>.ok (q,b.2)) fun b=>G b.2 a.2 b.1
   rw[zK]
   rfl
def ze8 (y:PRL):PR:=bd y fun a=>.ok a.1
theorem Is3.fst {y:PRL} {q:PS} {z:Int} {l:List Ep} (h:Is3 y q z l):Is (ze8 y) q z:=by
 cases y with
 |ok a=>exact⟨h.1,h.2.1⟩
 |error e=>exact h
theorem zg3 {C:Cx} {y:PRL} {E n:PS} {D H:Int} {l:List Ep} {j:ByteArray} {G:ByteArray→Ep→PS→PR} (z:Is3 y E D l) (h:Is2 (bd (bd (ze8 y) (zd C 1 zP)) (zG C)) n H j):
  zR (G j) l (bd (zaG (bd (bd (ze8 y) (zd C 1 zP)) (zG C))) (zd C 4 cSemi))=bd y fun a=>bd (zaQ C (zaA C (.ok a.1))) fun b=>zR (G b.2) a.2 (.ok b.1):=by
 cases y with
 |error e=>exact ze7 _ _ _
 |ok a=>
  obtain⟨_,_,rfl⟩:=z
  have w:bd (bd (ze8 (.ok a)) (zd C 1 zP)) (zG C)=zaA C (.ok a.1):=rfl
  rw[w] at h ⊢
  rw[zx]
  cases o:zaA C (.ok a.1) with
  |error e=>exact ze7 _ _ _
  |ok b=>
   rw[o] at h
   obtain⟨_,_,rfl⟩:=h
   show zR (G b.2) a.2 (bd (zaG (.ok b)) (zd C 4 cSemi))=bd (bd (zd C 4 cSemi b.1) fun q=>.ok (q,b.2)) fun b=>zR (G b.2) a.2 (.ok b.1)
   have A:bd (zaG (.ok b)) (zd C 4 cSemi)=zd C 4 cSemi b.1:=rfl
   rw[A,zK]
   cases zd C 4 cSemi b.1 with
   |error e=>exact ze7 _ _ _
   |ok c=>rfl
theorem Mem.drew {C:Cx} {o n j:Nat} {S:Sv} {q:PS} {w:World} (h:Mem C o n j S q w):Mem C o n j S q w.drew:=⟨⟨h.own.rq,h.own.im,h.own.ep,h.own.st,h.own.ex,h.own.la,h.own.apart⟩,h.inv,h.tok,h.few,h.base⟩
theorem Stp.undrew {S j:Sv} {w n:World} (h:Stp S w.drew j n):Stp S w j n:=⟨h.os,h.tape,h.output,h.size,h.block,h.sub⟩
theorem Row.cells {S:Sv} {w:World} {n B g:Nat} {r:Rw} {l:List Ep} (h:Row S w n B r l) (H:r.a=some ⟨g,0,none⟩) {j:Nat} (A:j<l.length):
  w.cell? ⟨g,j*4+1,none⟩=some (.string (l[j]).name)∧w.cell? ⟨g,j*4+2,none⟩=some (.string (l[j]).loc):=by
 have z:=h.own
 unfold OwnR at z
 rw[H] at z
 have o: ∀(l:List Ep) (i c:Nat) (D:c<4) (q:i<l.length),(l.flatMap epL)[i*4+c]? =(epL l[i])[c]?:=by
  intro l
  induction l with
  |nil=>intro i c _ q;simp at q
  |cons x l E=>
   intro i c D q
   match i with
   |0=>
    simp only[List.flatMap_cons,Nat.zero_mul,Nat.zero_add,List.getElem_cons_zero]
    rw[List.getElem?_append_left (by simp[epL];omega)]
   |i+1=>
    simp only[List.flatMap_cons,List.getElem_cons_succ]
    rw[List.getElem?_append_right (by simp[epL];omega)]
    have e:(i+1)*4+c-(epL x).length=i*4+c:=by simp[epL];omega
    rw[e]
    exact E i c D (by simpa using q)
 rw[z.cellAt _ (by omega),z.cellAt _ (by omega)]
 exact⟨o l j 1 (by omega) A,o l j 2 (by omega) A⟩
theorem zpt {C:Cx} {y:Im} {x:PR} {q q':PS} {z z':Int} (A:z<0→1≤q.pos) (n:Is x q z) (h:Is (bd x (zao C y)) q' z'):z'<0→1≤q'.pos:=by
 intro w
 obtain⟨e,_⟩:=za7 h w
 obtain⟨a,o,j⟩:=zi e
 subst o
 obtain⟨rfl,rfl⟩:=n
 unfold zao at j
 split at j
 ·cases j
 ·cases j
  exact A (by decide)
theorem zg4 {C:Cx} {y:Ep} {x:PR} {q q':PS} {z z':Int} (n:z<0→1≤q.pos) (o:Is x q z) (h:Is (bd x (zn C y)) q' z'):z'<0→1≤q'.pos:=by
 intro A
 obtain⟨e,_⟩:=za7 h A
 obtain⟨a,w,j⟩:=zi e
 subst w
 obtain⟨rfl,rfl⟩:=o
 unfold zn at j
 split at j
 ·cases j
 ·split at j
  ·cases j
   exact n (by decide)
  ·cases j
   exact n (by decide)
theorem zpu (C:Cx) (A o n:Nat) (S:Sv) (q:PS) (w:World) (hm:Mem C A o n S q w) (hw:isT C q.pos 1 zae=true) (h1:isT C (q.pos+1) 4 zF=false) (h2:isT C (q.pos+1) 4 zv=true):
  Calls Tryz.prog 70 #[pv C A o S q (-1) 0] w (Out C A o n (zaK C q) 0 S w):=by
 have HM:=zc hm
 have Z:=hm.few
 clear hm
 have HV:Hid (zaK C q=bd (bd (bd (bd (.ok (adv q)) (zd C 4 zv)) (zd C 1 sAs)) (zh C false)) fun a=>bd (zaQ C (zaA C (.ok a.1))) fun b=>zao C ⟨b.2,zv,a.2⟩ b.1):=by
  show _=_
  rw[zaK,zd,if_pos hw,zx]
  rw[zw,h1,h2]
  rfl
 unfold pv
 go_enter Tryz.func70,Tryz.ntmps70
 go_wp2_with fail
 refine (zaC C A o n (.ok q) S q (-1) 0 zae _ (zU q) ((HM.out.alloc _).alloc _)).mono ?_
 rintro e w1 ⟨S1,X,z1,rfl,i1,m1,s1⟩
 obtain⟨U,K,t1⟩:=HM.out.two2 s1
 have h:=zc U
 have j:=zc K
 have ar:=zc m1
 have aO:=zc t1
 have aw:=zc i1
 clear U K i1 m1 t1 s1
 obtain⟨ak,rfl⟩:=zcF aw.out hw
 have HQ:=zc ak
 have aj:Hid (X.pos=q.pos+1):=by show X.pos=q.pos+1;rw[ak];rfl
 clear ak aw
 obtain⟨a0,a1,a2,a3,a4,a5,a6,a7,a8,a9,E,D,af⟩:=h.out.box
 unfold pv
 go_upto_region 2 with fail
 refine zJ (R:=fun W=>Bx A S1 W (w.heap.size) _∧Bx A S1 W (w.heap.size+1) _∧Mem C A o n S1 X W∧SB w.heap.size S w S1 W) ⟨(h.out.put ..),(j.out.other (by omega) ..),(ar.out.put h.out ..),(aO.out.put (by omega) ..)⟩ ?_
 clear a0 a1 a2 a3 a4 a5 a6 a7 a8 a9 E D af
 clear h j aO ar
 rintro w2 ⟨U,K,m2,t2⟩
 have h:=zc U
 have j:=zc K
 have al:=zc m2
 have ao:=zc t2
 clear m2 t2 U K
 obtain⟨a0,a1,a2,a3,a4,a5,a6,a7,a8,a9,E,D,af⟩:=h.out.box
 go_wp2_with fail
 refine (zg C A o n S1 X (-1) 0 4 zF _ al.out.tok Z (by decide)).mono ?_
 rintro e w3 ⟨rfl,O⟩
 rw[aj.out,h1]
 replace h:=zc (h.out.below O)
 replace j:=zc (j.out.below O)
 have aJ:=zc (ao.out.below O)
 have ai:=zc (al.out.later O)
 clear O ao al
 clear a0 a1 a2 a3 a4 a5 a6 a7 a8 a9 E D af
 obtain⟨a0,a1,a2,a3,a4,a5,a6,a7,a8,a9,E,D,af⟩:=h.out.box
 go_wp2_with fail
 refine (zg C A o n S1 X (-1) 0 4 zv _ ai.out.tok Z (by decide)).mono ?_
 rintro e w4 ⟨rfl,M⟩
 rw[aj.out,h2]
 replace h:=zc (h.out.below M)
 replace j:=zc (j.out.below M)
 have aB:=zc (aJ.out.below M)
 have aq:=zc (ai.out.later M)
 clear M aJ ai
 clear a0 a1 a2 a3 a4 a5 a6 a7 a8 a9 E D af
 obtain⟨a0,a1,a2,a3,a4,a5,a6,a7,a8,a9,E,D,af⟩:=h.out.box
 clear aj
 go_wp2_with fail
 refine (zab C A o n (.ok X) S1 X (-1) 0 zv _ (zU X) aq.out).mono ?_
 rintro e w5 ⟨S5,q5,z5,rfl,i5,m5,s5⟩
 replace h:=zc (h.out.stp s5)
 replace j:=zc (j.out.stp s5)
 have aH:=zc (aB.out.step s5)
 clear aB
 have aQ:=zc m5
 have aU:=zc i5
 clear i5 m5 s5 aq
 clear a0 a1 a2 a3 a4 a5 a6 a7 a8 a9 E D af
 go_wp2_with fail
 refine (zaC C A o n _ S5 q5 z5 0 sAs _ aU.out aQ.out).mono ?_
 rintro e w6 ⟨S6,q6,z6,rfl,i6,m6,s6⟩
 replace h:=zc (h.out.stp s6)
 replace j:=zc (j.out.stp s6)
 have ay:=zc (aH.out.step s6)
 clear aH
 have aL:=zc m6
 have aZ:=zc i6
 clear i6 m6 s6 aQ
 go_wp2_with fail
 refine (zaU C A o n _ S6 q6 z6 0 false _ aZ.out aL.out).mono ?_
 rintro e w7 ⟨S7,q7,z7,n7,rfl,i7,m7,s7⟩
 replace h:=zc (h.out.stp s7)
 replace j:=zc (j.out.stp s7)
 have ap:=zc (ay.out.step s7)
 clear ay
 have ah:=zc m7
 have aG:=zc i7
 clear i7 m7 s7 aL
 have bi:w.heap.size+1<w7.heap.size:=j.out.lt
 unfold pv
 go_upto_region 13 with fail
 refine zJ (R:=fun W=>Bx A S7 W (w.heap.size) _∧Bx A S7 W (w.heap.size+1) _∧Bx A S7 W (w7.heap.size) _∧Mem C A o n S7 q7 W∧SB w.heap.size S w S7 W) ⟨(h.out.alloc _),(j.out.alloc _),(Bx.new ah.out _),(ah.out.alloc _),(ap.out.alloc _)⟩ ?_
 clear h j ap ah
 rintro w8 ⟨U,K,X2,m8,t8⟩
 have h:=zc U
 have j:=zc K
 have z:=zc X2
 have av:=zc m8
 have aC:=zc t8
 clear m8 t8 U K X2
 obtain⟨c0,c1,c2,c3,c4,c5,c6,c7,c8,c9,bc,bb,cf⟩:=z.out.box
 go_wp2_with fail
 refine (zaC C A o n _ S7 q7 z7 0 zP _ aG.out.fst av.out).mono ?_
 rintro e w9 ⟨S9,q9,z9,rfl,i9,m9,s9⟩
 replace h:=zc (h.out.stp s9)
 replace j:=zc (j.out.stp s9)
 replace z:=zc (z.out.stp s9)
 have aP:=zc (aC.out.step s9)
 clear aC
 have aN:=zc m9
 have bg:=zc i9
 clear i9 m9 s9 av
 clear c0 c1 c2 c3 c4 c5 c6 c7 c8 c9 bc bb cf
 go_wp2_with fail
 refine (zdy C A o n _ S9 q9 z9 0 _ bg.out aN.out).mono ?_
 rintro e am ⟨H,az,aT,be,rfl,an,aA,N⟩
 replace h:=zc (h.out.stp N)
 replace j:=zc (j.out.stp N)
 replace z:=zc (z.out.stp N)
 have ad:=zc (aP.out.step N)
 clear aP
 have L:=zc aA
 have ab:=zc an
 clear an aA N aN
 have bh:w.heap.size+1<am.heap.size:=j.out.lt
 have aS:w7.heap.size<am.heap.size:=z.out.lt
 unfold pv
 go_upto_region 14 with fail
 refine zJ (R:=fun W=>Bx A H W (w.heap.size) _∧Bx A H W (w.heap.size+1) _∧Bx A H W (w7.heap.size) _∧Bx A H W (am.heap.size) _∧Mem C A o n H az W∧SB w.heap.size S w H W) ⟨(h.out.alloc _),(j.out.alloc _),(z.out.alloc _),(Bx.new L.out _),(L.out.alloc _),(ad.out.alloc _)⟩ ?_
 clear h j z ad L
 rintro bn ⟨U,K,X2,X3,aD,aI⟩
 have h:=zc U
 have j:=zc K
 have z:=zc X2
 have V:=zc X3
 have aa:=zc aD
 have ag:=zc aI
 clear aD aI U K X2 X3
 obtain⟨d0,d1,d2,d3,d4,d5,d6,d7,d8,d9,aW,aY,df⟩:=V.out.box
 go_wp2_with fail
 refine (zab C A o n _ H az aT 0 cSemi _ ab.out.fst aa.out).mono ?_
 rintro e bk ⟨aV,ba,aX,rfl,aE,aK,J⟩
 replace h:=zc (h.out.stp J)
 replace j:=zc (j.out.stp J)
 replace z:=zc (z.out.stp J)
 replace V:=zc (V.out.stp J)
 have Y:=zc (ag.out.step J)
 clear ag
 have ae:=zc aK
 have ac:=zc aE
 clear aE aK J aa
 clear d0 d1 d2 d3 d4 d5 d6 d7 d8 d9 aW aY df
 go_wp2_with fail
 refine (zfR C A o n _ aV ba aX 0 ⟨be,zv,n7⟩ _ ac.out ae.out (zaZ ac.out)).mono ?_
 rintro e bj ⟨bo,bq,bl,rfl,ax,aR,I⟩
 replace h:=zc (h.out.stp I)
 replace j:=zc (j.out.stp I)
 replace z:=zc (z.out.stp I)
 replace V:=zc (V.out.stp I)
 have aM:=zc (Y.out.step I)
 clear Y
 have au:=zc aR
 have aF:=zc ax
 clear ax aR I ae
 obtain⟨b0,b1,b2,b3,b4,b5,b6,b7,b8,b9,bp,bm,bf⟩:=j.out.box
 unfold pv
 go_wp2
 refine bodyPost_ret (results_cell_row rfl _ _ (w.heap.size+1) 53 _ (0,0) _ rfl ((j.out.put ..)).heap Tryz.underlying53 rfl (by kernel_rfl)) rfl ?_
 rw[HV.out,←HQ.out,←zjn (G:=fun b a=>zao C ⟨b,zv,a⟩) aG.out ab.out]
 exact zW rfl aF.out (au.out.put j.out ..) (aM.out.put (by omega) ..)
theorem zpv (C:Cx) (A o n:Nat) (S:Sv) (q:PS) (w:World) (hm:Mem C A o n S q w) (hw:isT C q.pos 1 zae=true) (h1:isT C (q.pos+1) 4 zF=false) (h2:isT C (q.pos+1) 4 zv=false) (h3:zB C (q.pos+1) false=true):
  Calls Tryz.prog 70 #[pv C A o S q (-1) 0] w (Out C A o n (zaK C q) 0 S w):=by
 have HM:=zc hm
 have M:=hm.few
 clear hm
 have HV:Hid (zaK C q=bd (bd (.ok (adv q)) (zh C false)) fun a=>bd (zaQ C (zaA C (.ok a.1))) fun b=>zao C ⟨b.2,sDefault,a.2⟩ b.1):=by
  show _=_
  rw[zaK,zd,if_pos hw,zx]
  rw[zw,h1,h2,h3]
  rfl
 unfold pv
 go_enter Tryz.func70,Tryz.ntmps70
 go_wp2_with fail
 refine (zaC C A o n (.ok q) S q (-1) 0 zae _ (zU q) ((HM.out.alloc _).alloc _)).mono ?_
 rintro e w1 ⟨S1,Y,z1,rfl,i1,m1,s1⟩
 obtain⟨O,J,t1⟩:=HM.out.two2 s1
 have h:=zc O
 have j:=zc J
 have ap:=zc m1
 have aK:=zc t1
 have aw:=zc i1
 clear O J i1 m1 t1 s1
 obtain⟨al,rfl⟩:=zcF aw.out hw
 have HQ:=zc al
 have aa:Hid (Y.pos=q.pos+1):=by show Y.pos=q.pos+1;rw[al];rfl
 clear al aw
 obtain⟨a0,a1,a2,a3,Z,a5,a6,V,a8,X,E,D,af⟩:=h.out.box
 unfold pv
 go_upto_region 2 with fail
 refine zJ (R:=fun W=>Bx A S1 W (w.heap.size) _∧Bx A S1 W (w.heap.size+1) _∧Mem C A o n S1 Y W∧SB w.heap.size S w S1 W) ⟨(h.out.put ..),(j.out.other (by omega) ..),(ap.out.put h.out ..),(aK.out.put (by omega) ..)⟩ ?_
 clear a0 a1 a2 a3 Z a5 a6 V a8 X E D af
 clear h j aK ap
 rintro w2 ⟨O,J,m2,t2⟩
 have h:=zc O
 have j:=zc J
 have am:=zc m2
 have an:=zc t2
 clear m2 t2 O J
 obtain⟨a0,a1,a2,a3,Z,a5,a6,V,a8,X,E,D,af⟩:=h.out.box
 go_wp2_with fail
 refine (zg C A o n S1 Y (-1) 0 4 zF _ am.out.tok M (by decide)).mono ?_
 rintro e w3 ⟨rfl,N⟩
 rw[aa.out,h1]
 replace h:=zc (h.out.below N)
 replace j:=zc (j.out.below N)
 have aG:=zc (an.out.below N)
 have ai:=zc (am.out.later N)
 clear N an am
 clear a0 a1 a2 a3 Z a5 a6 V a8 X E D af
 obtain⟨a0,a1,a2,a3,Z,a5,a6,V,a8,X,E,D,af⟩:=h.out.box
 go_wp2_with fail
 refine (zg C A o n S1 Y (-1) 0 4 zv _ ai.out.tok M (by decide)).mono ?_
 rintro e w4 ⟨rfl,L⟩
 rw[aa.out,h2]
 replace h:=zc (h.out.below L)
 replace j:=zc (j.out.below L)
 have az:=zc (aG.out.below L)
 have ah:=zc (ai.out.later L)
 clear L aG ai
 clear a0 a1 a2 a3 Z a5 a6 V a8 X E D af
 obtain⟨a0,a1,a2,a3,Z,a5,a6,V,a8,X,E,D,af⟩:=h.out.box
 go_wp2_with fail
 refine (zeV C A o n S1 Y (-1) 0 false _ ah.out.tok M).mono ?_
 rintro e w5 ⟨rfl,K⟩
 rw[aa.out,h3]
 replace h:=zc (h.out.below K)
 replace j:=zc (j.out.below K)
 have aE:=zc (az.out.below K)
 have aM:=zc (ah.out.later K)
 clear K az ah
 clear a0 a1 a2 a3 Z a5 a6 V a8 X E D af
 obtain⟨a0,a1,a2,a3,Z,a5,a6,V,a8,X,E,D,af⟩:=h.out.box
 clear aa
 go_wp2_with fail
 refine (zaU C A o n (.ok Y) S1 Y (-1) 0 false _ (zU Y) aM.out).mono ?_
 rintro e w6 ⟨S6,q6,z6,n6,rfl,i6,m6,s6⟩
 replace h:=zc (h.out.stp s6)
 replace j:=zc (j.out.stp s6)
 have ax:=zc (aE.out.step s6)
 clear aE
 have aj:=zc m6
 have au:=zc i6
 clear i6 m6 s6 aM
 clear a0 a1 a2 a3 Z a5 a6 V a8 X E D af
 have aY:w.heap.size+1<w6.heap.size:=j.out.lt
 unfold pv
 go_upto_region 17 with fail
 refine zJ (R:=fun W=>Bx A S6 W (w.heap.size) _∧Bx A S6 W (w.heap.size+1) _∧Bx A S6 W (w6.heap.size) _∧Mem C A o n S6 q6 W∧SB w.heap.size S w S6 W) ⟨(h.out.alloc _),(j.out.alloc _),(Bx.new aj.out _),(aj.out.alloc _),(ax.out.alloc _)⟩ ?_
 clear h j ax aj
 rintro w7 ⟨O,J,X2,m7,t7⟩
 have h:=zc O
 have j:=zc J
 have z:=zc X2
 have ar:=zc m7
 have ao:=zc t7
 clear m7 t7 O J X2
 obtain⟨c0,c1,c2,c3,c4,c5,c6,c7,c8,c9,aV,aU,cf⟩:=z.out.box
 go_wp2_with fail
 refine (zaC C A o n _ S6 q6 z6 0 zP _ au.out.fst ar.out).mono ?_
 rintro e w8 ⟨S8,q8,z8,rfl,i8,m8,s8⟩
 replace h:=zc (h.out.stp s8)
 replace j:=zc (j.out.stp s8)
 replace z:=zc (z.out.stp s8)
 have aA:=zc (ao.out.step s8)
 clear ao
 have av:=zc m8
 have aQ:=zc i8
 clear i8 m8 s8 ar
 clear c0 c1 c2 c3 c4 c5 c6 c7 c8 c9 aV aU cf
 go_wp2_with fail
 refine (zdy C A o n _ S8 q8 z8 0 _ aQ.out av.out).mono ?_
 rintro e w9 ⟨S9,q9,z9,n9,rfl,i9,m9,s9⟩
 replace h:=zc (h.out.stp s9)
 replace j:=zc (j.out.stp s9)
 replace z:=zc (z.out.stp s9)
 have aL:=zc (aA.out.step s9)
 clear aA
 have ak:=zc m9
 have aN:=zc i9
 clear i9 m9 s9 av
 have aX:w.heap.size+1<w9.heap.size:=j.out.lt
 have aO:w6.heap.size<w9.heap.size:=z.out.lt
 unfold pv
 go_upto_region 18 with fail
 refine zJ (R:=fun W=>Bx A S9 W (w.heap.size) _∧Bx A S9 W (w.heap.size+1) _∧Bx A S9 W (w6.heap.size) _∧Bx A S9 W (w9.heap.size) _∧Mem C A o n S9 q9 W∧SB w.heap.size S w S9 W) ⟨(h.out.alloc _),(j.out.alloc _),(z.out.alloc _),(Bx.new ak.out _),(ak.out.alloc _),(aL.out.alloc _)⟩ ?_
 clear h j z aL ak
 rintro bi ⟨O,J,X2,X3,ay,aF⟩
 have h:=zc O
 have j:=zc J
 have z:=zc X2
 have U:=zc X3
 have ab:=zc ay
 have ad:=zc aF
 clear ay aF O J X2 X3
 obtain⟨d0,d1,d2,d3,d4,d5,d6,d7,d8,d9,aR,aS,df⟩:=U.out.box
 go_wp2_with fail
 refine (zab C A o n _ S9 q9 z9 0 cSemi _ aN.out.fst ab.out).mono ?_
 rintro e bg ⟨aW,aP,aT,rfl,aD,aB,H⟩
 replace h:=zc (h.out.stp H)
 replace j:=zc (j.out.stp H)
 replace z:=zc (z.out.stp H)
 replace U:=zc (U.out.stp H)
 have ag:=zc (ad.out.step H)
 clear ad
 have ac:=zc aB
 have ae:=zc aD
 clear aD aB H ab
 clear d0 d1 d2 d3 d4 d5 d6 d7 d8 d9 aR aS df
 go_wp2_with fail
 refine (zfR C A o n _ aW aP aT 0 ⟨n9,sDefault,n6⟩ _ ae.out ac.out (zaZ ae.out)).mono ?_
 rintro e bb ⟨aZ,be,ba,rfl,aC,aI,I⟩
 replace h:=zc (h.out.stp I)
 replace j:=zc (j.out.stp I)
 replace z:=zc (z.out.stp I)
 replace U:=zc (U.out.stp I)
 have aq:=zc (ag.out.step I)
 clear ag
 have aJ:=zc aI
 have aH:=zc aC
 clear aC aI I ac
 obtain⟨b0,b1,b2,b3,b4,b5,b6,b7,b8,b9,bh,bc,bf⟩:=j.out.box
 unfold pv
 go_wp2
 refine bodyPost_ret (results_cell_row rfl _ _ (w.heap.size+1) 53 _ (0,0) _ rfl ((j.out.put ..)).heap Tryz.underlying53 rfl (by kernel_rfl)) rfl ?_
 rw[HV.out,←HQ.out,←zjn (G:=fun b a=>zao C ⟨b,sDefault,a⟩) au.out aN.out]
 exact zW rfl aH.out (aJ.out.put j.out ..) (aq.out.put (by omega) ..)
theorem zpw (C:Cx) (D o n:Nat) (S:Sv) (q:PS) (w:World) (hm:Mem C D o n S q w) (hw:isT C q.pos 1 zae=true) (h1:isT C (q.pos+1) 4 zF=false) (h2:isT C (q.pos+1) 4 zv=false) (h3:zB C (q.pos+1) false=false):
  Calls Tryz.prog 70 #[pv C D o S q (-1) 0] w (Out C D o n (zaK C q) 0 S w):=by
 have HM:=zc hm
 have I:=hm.few
 clear hm
 have HV:Hid (zaK C q=bd (bd (.ok (adv q)) (zG C)) fun a=>zd C 4 cSemi a.1):=by
  show _=_
  rw[zaK,zd,if_pos hw,zx]
  rw[zw,h1,h2,h3]
  rfl
 unfold pv
 go_enter Tryz.func70,Tryz.ntmps70
 go_wp2_with fail
 refine (zaC C D o n (.ok q) S q (-1) 0 zae _ (zU q) ((HM.out.alloc _).alloc _)).mono ?_
 rintro e w1 ⟨S1,M,z1,rfl,i1,m1,s1⟩
 obtain⟨X0,X1,t1⟩:=HM.out.two2 s1
 have h:=zc X0
 have j:=zc X1
 have aj:=zc m1
 have ar:=zc t1
 have am:=zc i1
 clear X0 X1 i1 m1 t1 s1
 obtain⟨ae,rfl⟩:=zcF am.out hw
 have HQ:=zc ae
 have X:Hid (M.pos=q.pos+1):=by show M.pos=q.pos+1;rw[ae];rfl
 clear ae am
 obtain⟨U,Z,a2,O,N,V,a6,K,Y,L,A,z,af⟩:=h.out.box
 unfold pv
 go_upto_region 2 with fail
 refine zJ (R:=fun W=>Bx D S1 W (w.heap.size) _∧Bx D S1 W (w.heap.size+1) _∧Mem C D o n S1 M W∧SB w.heap.size S w S1 W) ⟨(h.out.put ..),(j.out.other (by omega) ..),(aj.out.put h.out ..),(ar.out.put (by omega) ..)⟩ ?_
 clear U Z a2 O N V a6 K Y L A z af
 clear h j ar aj
 rintro w2 ⟨X0,X1,m2,t2⟩
 have h:=zc X0
 have j:=zc X1
 have ag:=zc m2
 have ah:=zc t2
 clear m2 t2 X0 X1
 obtain⟨U,Z,a2,O,N,V,a6,K,Y,L,A,z,af⟩:=h.out.box
 go_wp2_with fail
 refine (zg C D o n S1 M (-1) 0 4 zF _ ag.out.tok I (by decide)).mono ?_
 rintro e w3 ⟨rfl,J⟩
 rw[X.out,h1]
 replace h:=zc (h.out.below J)
 replace j:=zc (j.out.below J)
 have aq:=zc (ah.out.below J)
 have ac:=zc (ag.out.later J)
 clear J ah ag
 clear U Z a2 O N V a6 K Y L A z af
 obtain⟨U,Z,a2,O,N,V,a6,K,Y,L,A,z,af⟩:=h.out.box
 go_wp2_with fail
 refine (zg C D o n S1 M (-1) 0 4 zv _ ac.out.tok I (by decide)).mono ?_
 rintro e w4 ⟨rfl,H⟩
 rw[X.out,h2]
 replace h:=zc (h.out.below H)
 replace j:=zc (j.out.below H)
 have ao:=zc (aq.out.below H)
 have aa:=zc (ac.out.later H)
 clear H aq ac
 clear U Z a2 O N V a6 K Y L A z af
 obtain⟨U,Z,a2,O,N,V,a6,K,Y,L,A,z,af⟩:=h.out.box
 go_wp2_with fail
 refine (zeV C D o n S1 M (-1) 0 false _ aa.out.tok I).mono ?_
 rintro e w5 ⟨rfl,E⟩
 rw[X.out,h3]
 replace h:=zc (h.out.below E)
 replace j:=zc (j.out.below E)
 have ap:=zc (ao.out.below E)
 have au:=zc (aa.out.later E)
 clear E ao aa
 clear U Z a2 O N V a6 K Y L A z af
 obtain⟨U,Z,a2,O,N,V,a6,K,Y,L,A,z,af⟩:=h.out.box
 clear X
 go_wp2_with fail
 refine (zdy C D o n (.ok M) S1 M (-1) 0 _ (zU M) au.out).mono ?_
 rintro e w6 ⟨S6,q6,z6,n6,rfl,i6,m6,s6⟩
 replace h:=zc (h.out.stp s6)
 replace j:=zc (j.out.stp s6)
 have an:=zc (ap.out.step s6)
 clear ap
 have ad:=zc m6
 have al:=zc i6
 clear i6 m6 s6 au
 clear U Z a2 O N V a6 K Y L A z af
 have aA:w.heap.size+1<w6.heap.size:=j.out.lt
 unfold pv
 go_upto_region 20 with fail
 refine zJ (R:=fun W=>Bx D S6 W (w.heap.size) _∧Bx D S6 W (w.heap.size+1) _∧Bx D S6 W (w6.heap.size) _∧Mem C D o n S6 q6 W∧SB w.heap.size S w S6 W) ⟨(h.out.alloc _),(j.out.alloc _),(Bx.new ad.out _),(ad.out.alloc _),(an.out.alloc _)⟩ ?_
 clear h j an ad
 rintro w7 ⟨X0,X1,X2,m7,t7⟩
 have h:=zc X0
 have j:=zc X1
 have ab:=zc X2
 have ak:=zc m7
 have ai:=zc t7
 clear m7 t7 X0 X1 X2
 obtain⟨c0,c1,c2,c3,c4,c5,c6,c7,c8,c9,az,ay,cf⟩:=ab.out.box
 go_wp2_with fail
 refine (zab C D o n _ S6 q6 z6 0 cSemi _ al.out.fst ak.out).mono ?_
 rintro e w8 ⟨S8,q8,z8,rfl,i8,m8,s8⟩
 replace h:=zc (h.out.stp s8)
 replace j:=zc (j.out.stp s8)
 replace ab:=zc (ab.out.stp s8)
 have ax:=zc (ai.out.step s8)
 clear ai
 have aw:=zc m8
 have av:=zc i8
 clear i8 m8 s8 ak
 clear c0 c1 c2 c3 c4 c5 c6 c7 c8 c9 az ay cf
 obtain⟨b0,b1,b2,b3,b4,b5,b6,b7,b8,b9,aC,aB,bf⟩:=j.out.box
 unfold pv
 go_wp2
 refine bodyPost_ret (results_cell_row rfl _ _ (w.heap.size+1) 53 _ (0,0) _ rfl ((j.out.put ..)).heap Tryz.underlying53 rfl (by kernel_rfl)) rfl ?_
 rw[HV.out,←HQ.out,←al.out.bind (fun q _=>zd C 4 cSemi q)]
 exact zW rfl av.out (aw.out.put j.out ..) (ax.out.put (by omega) ..)
theorem zpx (C:Cx) (D z n:Nat) (S:Sv) (q:PS) (w:World) (hm:Mem C D z n S q w) (hw:isT C q.pos 1 zae=true) (h1:isT C (q.pos+1) 4 zF=true):
  Calls Tryz.prog 70 #[pv C D z S q (-1) 0] w (Out C D z n (zaK C q) 0 S w):=by
 have HM:=zc hm
 have aE:=hm.few
 clear hm
 have HV:Hid (zaK C q=bd (zcz C false (adv q)) fun a=>bd (zaQ C (zaA C (.ok a.1))) fun b=>zR (fun e=>zao C (zb8 b.2 e)) a.2 (.ok b.1)):=by
  show _=_
  rw[zaK,zd,if_pos hw,zx]
  rw[zw,h1]
  rfl
 unfold pv
 go_enter Tryz.func70,Tryz.ntmps70
 go_wp2_with fail
 refine (zaC C D z n (.ok q) S q (-1) 0 zae _ (zU q) ((HM.out.alloc _).alloc _)).mono ?_
 rintro e w1 ⟨S1,q1,z1,rfl,i1,m1,s1⟩
 obtain⟨N,K,t1⟩:=HM.out.two2 s1
 have h:=zc N
 have o:=zc K
 have au:=zc m1
 have aK:=zc t1
 have ax:=zc i1
 clear N K i1 m1 t1 s1
 obtain⟨al,rfl⟩:=zcF ax.out hw
 have HQ:=zc al
 have aF:Hid (q1.pos=q.pos+1):=by show q1.pos=q.pos+1;rw[al];rfl
 clear al ax
 obtain⟨a0,a1,a2,a3,a4,a5,a6,a7,a8,a9,I,H,af⟩:=h.out.box
 unfold pv
 go_upto_region 2 with fail
 refine zJ (R:=fun W=>Bx D S1 W (w.heap.size) _∧Bx D S1 W (w.heap.size+1) _∧Mem C D z n S1 q1 W∧SB w.heap.size S w S1 W) ⟨(h.out.put ..),(o.out.other (by omega) ..),(au.out.put h.out ..),(aK.out.put (by omega) ..)⟩ ?_
 clear a0 a1 a2 a3 a4 a5 a6 a7 a8 a9 I H af
 clear h o aK au
 rintro w2 ⟨N,K,m2,t2⟩
 have h:=zc N
 have o:=zc K
 have am:=zc m2
 have aq:=zc t2
 clear m2 t2 N K
 obtain⟨a0,a1,a2,a3,a4,a5,a6,a7,a8,a9,I,H,af⟩:=h.out.box
 go_wp2_with fail
 refine (zg C D z n S1 q1 (-1) 0 4 zF _ am.out.tok aE (by decide)).mono ?_
 rintro e w3 ⟨rfl,aa⟩
 rw[aF.out,h1]
 replace h:=zc (h.out.below aa)
 replace o:=zc (o.out.below aa)
 have aj:=zc (aq.out.below aa)
 have az:=zc (am.out.later aa)
 clear aa aq am
 clear a0 a1 a2 a3 a4 a5 a6 a7 a8 a9 I H af
 obtain⟨a0,a1,a2,a3,a4,a5,a6,a7,a8,a9,I,H,af⟩:=h.out.box
 clear aF
 have aV:=aj.out.size
 go_wp2_with fail
 refine (ziZ C D z n S1 q1 0 false _ az.out).mono ?_
 rintro e w4 ⟨S4,q4,z4,⟨ra,rc⟩,l,rfl,i4,m4,s4,R0,hl⟩
 obtain⟨g,rfl⟩: ∃g,ra=some ⟨g,0,none⟩:=R0.addr
 replace h:=zc (h.out.stp s4)
 replace o:=zc (o.out.stp s4)
 have aA:=zc (aj.out.step s4)
 clear aj
 have ae:=zc m4
 have aN:=zc i4
 clear i4 m4 s4 az
 clear a0 a1 a2 a3 a4 a5 a6 a7 a8 a9 I H af
 have E:Hid (Row S4 w4 n w.heap.size ⟨some ⟨g,0,none⟩,rc⟩ l):=⟨R0.own,R0.free,fun k hk=>Nat.le_trans aV (R0.new k hk),R0.addr⟩
 clear R0
 have aZ:w.heap.size+1<w4.heap.size:=o.out.lt
 unfold pv
 go_upto_region 4 with fail
 refine zJ (R:=fun W=>Bx D S4 W (w.heap.size) _∧Bx D S4 W (w.heap.size+1) _∧Bx D S4 W (w4.heap.size) _∧Row S4 W n w.heap.size ⟨some ⟨g,0,none⟩,rc⟩ l∧Mem C D z n S4 q4 W∧SB w.heap.size S w S4 W) ⟨(h.out.alloc _),(o.out.alloc _),(Bx.new ae.out _),(E.out.alloc _),(ae.out.alloc _),(aA.out.alloc _)⟩ ?_
 clear h o aA ae
 clear E
 rintro w5 ⟨N,K,X2,R0,m5,t5⟩
 have E:=zc R0
 clear R0
 have h:=zc N
 have o:=zc K
 have A:=zc X2
 have aL:=zc m5
 have aG:=zc t5
 clear m5 t5 N K X2
 obtain⟨c0,c1,c2,c3,c4,c5,c6,c7,c8,c9,aX,aW,cf⟩:=A.out.box
 go_wp2_with fail
 refine (zaC C D z n _ S4 q4 z4 0 zP _ aN.out.fst aL.out).mono ?_
 rintro e w6 ⟨S6,q6,z6,rfl,i6,m6,s6⟩
 replace h:=zc (h.out.stp s6)
 replace o:=zc (o.out.stp s6)
 replace A:=zc (A.out.stp s6)
 have ay:=zc (aG.out.step s6)
 have M:Hid (Row S6 w6 n w.heap.size ⟨some ⟨g,0,none⟩,rc⟩ l):=E.out.stp s6
 clear E
 have E:=zc M
 clear M
 clear aG
 have aI:=zc m6
 have aS:=zc i6
 clear i6 m6 s6 aL
 clear c0 c1 c2 c3 c4 c5 c6 c7 c8 c9 aX aW cf
 go_wp2_with fail
 refine (zdy C D z n _ S6 q6 z6 0 _ aS.out aI.out).mono ?_
 rintro e w7 ⟨S7,q7,z7,n7,rfl,i7,m7,s7⟩
 replace h:=zc (h.out.stp s7)
 replace o:=zc (o.out.stp s7)
 replace A:=zc (A.out.stp s7)
 have ar:=zc (ay.out.step s7)
 have M:Hid (Row S7 w7 n w.heap.size ⟨some ⟨g,0,none⟩,rc⟩ l):=E.out.stp s7
 clear E
 have E:=zc M
 clear M
 clear ay
 have ag:=zc m7
 have aD:=zc i7
 clear i7 m7 s7 aI
 have aY:w.heap.size+1<w7.heap.size:=o.out.lt
 have aP:w4.heap.size<w7.heap.size:=A.out.lt
 unfold pv
 go_upto_region 5 with fail
 refine zJ (R:=fun W=>Bx D S7 W (w.heap.size) _∧Bx D S7 W (w.heap.size+1) _∧Bx D S7 W (w4.heap.size) _∧Bx D S7 W (w7.heap.size) _∧Row S7 W n w.heap.size ⟨some ⟨g,0,none⟩,rc⟩ l∧Mem C D z n S7 q7 W∧SB w.heap.size S w S7 W) ⟨(h.out.alloc _),(o.out.alloc _),(A.out.alloc _),(Bx.new ag.out _),(E.out.alloc _),(ag.out.alloc _),(ar.out.alloc _)⟩ ?_
 clear h o A ar ag
 clear E
 rintro w8 ⟨N,K,X2,X3,R0,m8,t8⟩
 have E:=zc R0
 clear R0
 have h:=zc N
 have o:=zc K
 have A:=zc X2
 have O:=zc X3
 have aw:=zc m8
 have aB:=zc t8
 clear m8 t8 N K X2 X3
 obtain⟨d0,d1,d2,d3,d4,d5,d6,d7,d8,d9,ah,ai,df⟩:=O.out.box
 go_wp2_with fail
 refine (zab C D z n _ S7 q7 z7 0 cSemi _ aD.out.fst aw.out).mono ?_
 rintro e w9 ⟨X,q9,z9,rfl,i9,m9,s9⟩
 replace h:=zc (h.out.stp s9)
 replace o:=zc (o.out.stp s9)
 replace A:=zc (A.out.stp s9)
 replace O:=zc (O.out.stp s9)
 have ab:=zc (aB.out.step s9)
 have M:Hid (Row X w9 n w.heap.size ⟨some ⟨g,0,none⟩,rc⟩ l):=E.out.stp s9
 clear E
 have E:=zc M
 clear M
 clear aB
 have Z:=zc m9
 have V:=zc i9
 clear i9 m9 s9 aw
 clear d0 d1 d2 d3 d4 d5 d6 d7 d8 d9 ah ai df
 obtain⟨a0,a1,a2,a3,a4,a5,a6,a7,a8,a9,I,H,af⟩:=h.out.box
 unfold pv
 go_upto_region 6 with fail
 refine zJ (R:=fun W=>Bx D X W (w.heap.size) _∧Bx D X W (w.heap.size+1) _∧Bx D X W (w4.heap.size) _∧Bx D X W (w7.heap.size) _∧Row X W n w.heap.size ⟨some ⟨g,0,none⟩,rc⟩ l∧Mem C D z n X q9 W∧SB w.heap.size S w X W) ⟨(h.out.put ..),(o.out.other (by omega) ..),(A.out.other (by omega) ..),(O.out.other (by omega) ..),(E.out.put h.out ..),(Z.out.put h.out ..),(ab.out.put (by omega) ..)⟩ ?_
 clear a0 a1 a2 a3 a4 a5 a6 a7 a8 a9 I H af
 clear h o A O ab Z
 clear E
 rintro aO ⟨N,K,X2,X3,R0,Y,aH⟩
 have E:=zc R0
 clear R0
 have h:=zc N
 have o:=zc K
 have A:=zc X2
 have O:=zc X3
 have U:=zc Y
 have ad:=zc aH
 clear Y aH N K X2 X3
 have aT:Hid (_=_):=zg3 (G:=fun b e=>zao C (zb8 b e)) aN.out aD.out
 go_wp2
 go_loopg [8] l.length (fun k i wr=>∃(j:Nat) (x':PR) (L:Sv) (q':PS) (z':Int),j≤l.length∧i= .int .i64 j∧Is x' q' z'∧(z'<0→1≤q'.pos)∧zR (fun e=>zao C (zb8 n7 e)) (l.drop j) x'=zaK C q∧l.length-j=k∧Mem C D z n L q' wr∧SB w.heap.size S w L wr∧Bx D L wr w.heap.size #[.slice (some ⟨D,0,none⟩) C.ts.length z,.int .i64 q'.pos,.int .i64 C.fin,.bool C.scr,.slice L.rq.a q'.rq.length L.rq.cap,.slice L.im.a q'.im.length L.im.cap,.slice L.ep.a q'.ep.length L.ep.cap,.slice L.st.a q'.st.length L.st.cap,.slice L.ex.a q'.ex.length L.ex.cap,.slice L.la.a q'.la.length L.la.cap,.int .i64 z',.int .i64 0]∧Bx D L wr (w.heap.size+1) #[.slice none 0 0,.int .i64 0,.int .i64 0,.bool false,.slice none 0 0,.slice none 0 0,.slice none 0 0,.slice none 0 0,.slice none 0 0,.slice none 0 0,.int .i64 0,.int .i64 0]∧Row L wr n w.heap.size ⟨some ⟨g,0,none⟩,rc⟩ l)
 case atStart=>exact⟨0,_,X,q9,z9,Nat.zero_le _,rfl,V.out,zaZ V.out,by rw[HV.out,←HQ.out];exact aT.out,rfl,U.out,ad.out,h.out,o.out,E.out⟩
 case round=>
  obtain⟨j,x9,X,q9,z9,hj,rfl,i9,p9,e9,g9,m9,t9,N,K,R0⟩:=hrel
  clear h o A O E U ad
  have h:=zc N
  have o:=zc K
  have Z:=zc m9
  have ab:=zc t9
  have V:=zc i9
  have av:=zc p9
  have aC:=zc e9
  have ao:=zc g9
  have E:=zc R0
  clear N K i9 m9 t9 e9 g9 R0 p9
  by_cases aJ:j<l.length
  ·skip
   obtain⟨c1,c2⟩:=E.out.cells (g:=g) rfl aJ
   have bc:=E.out.own.lt (g:=g) rfl
   have HX:Hid (∀e,e=l[j]→zR (fun e=>zao C (zb8 n7 e)) (l.drop (j+1)) (bd x9 (zao C (zb8 n7 e)))=zaK C q):=fun e he=>by rw[he,←aC.out];exact (zf2 (fun e=>zao C (zb8 n7 e)) l x9 aJ).symm
   generalize an:l[j]=el at c1 c2
   have aR:Hid (el=l[j]):=an.symm
   clear an
   obtain⟨a0,a1,a2,a3,a4,a5,a6,a7,a8,a9,I,H,af⟩:=h.out.box
   go_upto_region 9 with fail
   go_region_law (first|(go_simp;go_wp2_with (go_at_call 132;refine (zfR C D z n x9 X q9 z9 0 (zb8 n7 el) _ V.out Z.out.drew av.out).mono ?_;rintro e aO ⟨aM,aU,aQ,rfl,ap,Y,ak⟩;obtain⟨d0,d1,d2,d3,d4,d5,d6,d7,d8,d9,ah,ai,df⟩:=(h.out.stp ak.undrew).box;unfold pv)))
   all_goals
    clear a0 a1 a2 a3 a4 a5 a6 a7 a8 a9 I H af d0 d1 d2 d3 d4 d5 d6 d7 d8 d9 ah ai df
    have ac:=zc ap
    have U:=zc Y
    have J:Hid (Stp X wr aM aO):=ak.undrew
    clear ap Y ak
    go_wp2
    go_roundg (gk-1)
    case rel=>exact⟨j+1,_,aM,aU,aQ,by omega,by go_num,ac.out,zpt av.out V.out ac.out,HX.out el aR.out,by have:=ao.out;omega,U.out.put (h.out.stp J.out) _ _ _ _ _ _ _ _ _ _ _ _,(ab.out.step J.out).put (by omega) _ _ _ _ _ _ _ _ _ _ _ _,(h.out.stp J.out).put _ _ _ _ _ _ _ _ _ _ _ _,(o.out.stp J.out).other (by omega) _ _ _ _ _ _ _ _ _ _ _ _,(E.out.stp J.out).put (h.out.stp J.out) _ _ _ _ _ _ _ _ _ _ _ _⟩
    case measure=>have:=ao.out;omega
  ·skip
   obtain⟨a0,a1,a2,a3,a4,a5,a6,a7,a8,a9,I,H,af⟩:=h.out.box
   obtain⟨b0,b1,b2,b3,b4,b5,b6,b7,b8,b9,bb,ba,bf⟩:=o.out.box
   go_wp2
   refine bodyPost_ret (results_cell_row rfl _ _ (w.heap.size+1) 53 _ (0,0) _ rfl ((o.out.put ..)).heap Tryz.underlying53 rfl (by kernel_rfl)) rfl ?_
   exact zW rfl (show Is (zaK C q) q9 z9 from by rw[←aC.out,List.drop_eq_nil_of_le (by omega)];exact V.out) (Z.out.put o.out ..) (ab.out.put (by omega) ..)
theorem zpy {C:Cx} {k:Int} {n:ByteArray} {q q':PS} (h:zX C k n q= .ok q'):q'={q with st:=q.st++[⟨k,n,(q.ex.length:Int)-1⟩]}∧q.st.length<80:=by
 unfold zX at h
 split at h
 ·cases h
 ·cases h
  exact⟨rfl,by omega⟩
theorem zjo {C:Cx} {x:PR} {k:Int} {s:ByteArray} {j:Int} {n:ByteArray} {q:PS} {z:Int} (h:Is (bd (bd x (zd C k s)) (zX C j n)) q z):z<0→1≤q.pos:=by
 intro A
 obtain⟨e,_⟩:=za7 h A
 obtain⟨a,o,w⟩:=zi e
 obtain⟨b,_,D⟩:=zi o
 obtain⟨rfl,_⟩:=zb0 D
 obtain⟨rfl,_⟩:=zpy w
 simp[adv]
theorem zjp {C:Cx} {y:PRN} {G:PR→PR} {k:Int} {s:ByteArray} {j:Int} {q:PS} {z:Int} {n:ByteArray} (h:Is2 (withN y fun x n=>bd (bd (G x) (zd C k s)) (zX C j n)) q z n):z<0→1≤q.pos:=by
 intro A
 cases y with
 |error e=>have:z=(e:Int):=h;omega
 |ok a=>
  have o:Is2 (bd (bd (bd (G (.ok a.1)) (zd C k s)) (zX C j a.2)) fun q=>.ok (q,a.2)) q z n:=h
  cases w:bd (bd (G (.ok a.1)) (zd C k s)) (zX C j a.2) with
  |error e=>rw[w] at o;have:z=(e:Int):=o;omega
  |ok b=>
   rw[w] at o
   obtain⟨rfl,rfl,_⟩:=o
   exact zjo (show Is (bd (bd (G (.ok a.1)) (zd C k s)) (zX C j a.2)) q (-1) by rw[w];exact⟨rfl,rfl⟩) (by decide)
theorem zpz {C:Cx} {j q:PS} {z:Int} {n:ByteArray} (h:Is2 (zcm C j) q z n):z<0→1≤q.pos:=zjp (G:=fun x=>bd (bd x (zd C 4 cEq)) (pE C .sum 0)) h
theorem zp0 {C:Cx} {j q:PS} {z:Int} {n:ByteArray} (h:Is2 (fnP C j) q z n):z<0→1≤q.pos:=zjp (G:=fun x=>bd (bd (bd (bd (bd (bd x (zd C 4 zm)) (zd C 4 zay)) (zd C 4 zF)) (zd C 1 zd6)) (pE C .sum 0)) (zd C 4 cSemi)) h
theorem zp1 {C:Cx} {x:PR} {n:PS} {z:Int} {j:ByteArray} {G:ByteArray→PS→PR} (h:Is2 (bd (bd x (zd C 1 zP)) (zG C)) n z j):
  bd (bd (zaG (bd (bd x (zd C 1 zP)) (zG C))) (zd C 4 cSemi)) (G j)=bd (zaQ C (zaA C x)) fun b=>G b.2 b.1:=by
 have w:bd (bd x (zd C 1 zP)) (zG C)=zaA C x:=rfl
 rw[w] at h ⊢
 cases o:zaA C x with
 |error e=>rfl
 |ok b=>
  rw[o] at h
  obtain⟨_,_,rfl⟩:=h
  show bd (zd C 4 cSemi b.1) (G b.2)=bd (bd (zd C 4 cSemi b.1) fun q=>.ok (q,b.2)) fun b=>G b.2 b.1
  rw[zK]
  rfl
theorem zp2 {C:Cx} {y:PRL} {n:PS} {j:Int} {l:List Ep} {f:Ep→PS→PR} {D:PS×List Ep→PR} (o:Is3 y n j l) (w:za5 l=false) (h:(decide (j<0)&&isT C n.pos 1 zP)=false):
  zR f l (bd (ze8 y) (zd C 4 cSemi))=bd y fun a=>if !za5 a.2&& !isT C a.1.pos 1 zP then bd (zd C 4 cSemi a.1) fun q=>zR f a.2 (.ok q) else D a:=by
 cases y with
 |error e=>exact ze7 _ _ _
 |ok a=>
  obtain⟨rfl,rfl,rfl⟩:=o
  rw[Bool.and_eq_false_iff] at h
  rw[zx,w,h.resolve_left (by decide)]
  show zR f a.2 (zd C 4 cSemi a.1)=bd (zd C 4 cSemi a.1) fun q=>zR f a.2 (.ok q)
  cases zd C 4 cSemi a.1 with
  |error e=>exact ze7 _ _ _
  |ok c=>rfl
theorem zjq {C:Cx} {y:PRL} {o:PS} {n:Int} {l:List Ep} {D E:PS×List Ep→PR} (q:Is3 y o n l) (j:za5 l=true∨(decide (n<0)&&isT C o.pos 1 zP)=true):
  bd y D=bd y fun a=>if !za5 a.2&& !isT C a.1.pos 1 zP then E a else D a:=by
 cases y with
 |error e=>rfl
 |ok a=>
  obtain⟨rfl,rfl,rfl⟩:=q
  rw[zx,zx]
  rcases j with h|h
  ·rw[h];rfl
  ·rw[Bool.and_eq_true] at h
   rw[h.2,Bool.not_true,Bool.and_false]
   rfl
theorem zp3 (C:Cx) (z o n:Nat) (S:Sv) (q:PS) (w:World) (hm:Mem C z o n S q w) (hw:isT C q.pos 1 zad=true) (h1:isT C (q.pos+1) 4 zF=false) (h2:isT C (q.pos+1) 4 zv=true):
  Calls Tryz.prog 71 #[pv C z o S q (-1) 0] w (Out C z o n (zaf C q) 0 S w):=by
 have HM:=zc hm
 have M:=hm.few
 clear hm
 have HV:Hid (zaf C q=bd (zaQ C (zaA C (bd (.ok (adv q)) (zd C 4 zv)))) fun b=>zn C ⟨3,sNone,sNone,b.2⟩ b.1):=by
  show _=_
  rw[zaf,zd,if_pos hw,zx]
  rw[zw,h1,h2]
  rfl
 unfold pv
 go_enter Tryz.func71,Tryz.ntmps71
 go_wp2_with fail
 refine (zaC C z o n (.ok q) S q (-1) 0 zad _ (zU q) ((HM.out.alloc _).alloc _)).mono ?_
 rintro e w1 ⟨V,K,z1,rfl,i1,m1,s1⟩
 obtain⟨N,L,t1⟩:=HM.out.two2 s1
 have h:=zc N
 have j:=zc L
 have aj:=zc m1
 have aA:=zc t1
 have al:=zc i1
 clear N L i1 m1 t1 s1
 obtain⟨ac,rfl⟩:=zcF al.out hw
 have HQ:=zc ac
 have ab:Hid (K.pos=q.pos+1):=by show K.pos=q.pos+1;rw[ac];rfl
 clear ac al
 obtain⟨a0,a1,a2,Z,Y,a5,a6,O,a8,U,D,A,af⟩:=h.out.box
 unfold pv
 go_upto_region 2 with fail
 refine zJ (R:=fun W=>Bx z V W (w.heap.size) _∧Bx z V W (w.heap.size+1) _∧Mem C z o n V K W∧SB w.heap.size S w V W) ⟨(h.out.put ..),(j.out.other (by omega) ..),(aj.out.put h.out ..),(aA.out.put (by omega) ..)⟩ ?_
 clear a0 a1 a2 Z Y a5 a6 O a8 U D A af
 clear h j aA aj
 rintro w2 ⟨N,L,m2,t2⟩
 have h:=zc N
 have j:=zc L
 have ad:=zc m2
 have ag:=zc t2
 clear m2 t2 N L
 obtain⟨a0,a1,a2,Z,Y,a5,a6,O,a8,U,D,A,af⟩:=h.out.box
 go_wp2_with fail
 refine (zg C z o n V K (-1) 0 4 zF _ ad.out.tok M (by decide)).mono ?_
 rintro e w3 ⟨rfl,J⟩
 rw[ab.out,h1]
 replace h:=zc (h.out.below J)
 replace j:=zc (j.out.below J)
 have aw:=zc (ag.out.below J)
 have aa:=zc (ad.out.later J)
 clear J ag ad
 clear a0 a1 a2 Z Y a5 a6 O a8 U D A af
 obtain⟨a0,a1,a2,Z,Y,a5,a6,O,a8,U,D,A,af⟩:=h.out.box
 go_wp2_with fail
 refine (zg C z o n V K (-1) 0 4 zv _ aa.out.tok M (by decide)).mono ?_
 rintro e w4 ⟨rfl,H⟩
 rw[ab.out,h2]
 replace h:=zc (h.out.below H)
 replace j:=zc (j.out.below H)
 have ao:=zc (aw.out.below H)
 have ai:=zc (aa.out.later H)
 clear H aw aa
 clear a0 a1 a2 Z Y a5 a6 O a8 U D A af
 obtain⟨a0,a1,a2,Z,Y,a5,a6,O,a8,U,D,A,af⟩:=h.out.box
 clear ab
 go_wp2_with fail
 refine (zab C z o n (.ok K) V K (-1) 0 zv _ (zU K) ai.out).mono ?_
 rintro e w5 ⟨S5,q5,z5,rfl,i5,m5,s5⟩
 replace h:=zc (h.out.stp s5)
 replace j:=zc (j.out.stp s5)
 have au:=zc (ao.out.step s5)
 clear ao
 have aC:=zc m5
 have aE:=zc i5
 clear i5 m5 s5 ai
 clear a0 a1 a2 Z Y a5 a6 O a8 U D A af
 go_wp2_with fail
 refine (zaC C z o n _ S5 q5 z5 0 zP _ aE.out aC.out).mono ?_
 rintro e w6 ⟨S6,q6,z6,rfl,i6,m6,s6⟩
 replace h:=zc (h.out.stp s6)
 replace j:=zc (j.out.stp s6)
 have am:=zc (au.out.step s6)
 clear au
 have ay:=zc m6
 have aF:=zc i6
 clear i6 m6 s6 aC
 go_wp2_with fail
 refine (zdy C z o n _ S6 q6 z6 0 _ aF.out ay.out).mono ?_
 rintro e w7 ⟨S7,q7,z7,n7,rfl,i7,m7,s7⟩
 replace h:=zc (h.out.stp s7)
 replace j:=zc (j.out.stp s7)
 have ah:=zc (am.out.step s7)
 clear am
 have X:=zc m7
 have ar:=zc i7
 clear i7 m7 s7 ay
 have aI:w.heap.size+1<w7.heap.size:=j.out.lt
 unfold pv
 go_upto_region 20 with fail
 refine zJ (R:=fun W=>Bx z S7 W (w.heap.size) _∧Bx z S7 W (w.heap.size+1) _∧Bx z S7 W (w7.heap.size) _∧Mem C z o n S7 q7 W∧SB w.heap.size S w S7 W) ⟨(h.out.alloc _),(j.out.alloc _),(Bx.new X.out _),(X.out.alloc _),(ah.out.alloc _)⟩ ?_
 clear h j ah X
 rintro w8 ⟨N,L,X2,m8,t8⟩
 have h:=zc N
 have j:=zc L
 have E:=zc X2
 have ak:=zc m8
 have ap:=zc t8
 clear m8 t8 N L X2
 obtain⟨c0,c1,c2,c3,c4,c5,c6,c7,c8,c9,aH,aG,cf⟩:=E.out.box
 go_wp2_with fail
 refine (zab C z o n _ S7 q7 z7 0 cSemi _ ar.out.fst ak.out).mono ?_
 rintro e w9 ⟨S9,q9,z9,rfl,i9,m9,s9⟩
 replace h:=zc (h.out.stp s9)
 replace j:=zc (j.out.stp s9)
 replace E:=zc (E.out.stp s9)
 have aB:=zc (ap.out.step s9)
 clear ap
 have az:=zc m9
 have aD:=zc i9
 clear i9 m9 s9 ak
 clear c0 c1 c2 c3 c4 c5 c6 c7 c8 c9 aH aG cf
 go_wp2_with fail
 refine (zdn C z o n _ S9 q9 z9 0 ⟨3,sNone,sNone,n7⟩ _ aD.out az.out (zaZ aD.out)).mono ?_
 rintro e aO ⟨aN,aK,aJ,rfl,ae,an,I⟩
 replace h:=zc (h.out.stp I)
 replace j:=zc (j.out.stp I)
 replace E:=zc (E.out.stp I)
 have ax:=zc (aB.out.step I)
 clear aB
 have aq:=zc an
 have av:=zc ae
 clear ae an I az
 obtain⟨b0,b1,b2,b3,b4,b5,b6,b7,b8,b9,aM,aL,bf⟩:=j.out.box
 unfold pv
 go_wp2
 refine bodyPost_ret (results_cell_row rfl _ _ (w.heap.size+1) 53 _ (0,0) _ rfl ((j.out.put ..)).heap Tryz.underlying53 rfl (by kernel_rfl)) rfl ?_
 rw[HV.out,←HQ.out,←zp1 (G:=fun b=>zn C ⟨3,sNone,sNone,b⟩) ar.out]
 exact zW rfl av.out (aq.out.put j.out ..) (ax.out.put (by omega) ..)
theorem zp4 (C:Cx) (D o n:Nat) (S:Sv) (q:PS) (w:World) (hm:Mem C D o n S q w) (hw:isT C q.pos 1 zad=true) (h1:isT C (q.pos+1) 4 zF=false) (h2:isT C (q.pos+1) 4 zv=false) (h3:isT C (q.pos+1) 1 sDefault=true):
  Calls Tryz.prog 71 #[pv C D o S q (-1) 0] w (Out C D o n (zaf C q) 0 S w):=by
 have HM:=zc hm
 have K:=hm.few
 clear hm
 have HV:Hid (zaf C q=bd (bd (bd (bd (bd (.ok (adv q)) (zd C 1 sDefault)) (pE C .sum 0)) (zd C 4 cSemi)) (zX C 1 zbG)) (zn C ⟨1,sDefault,zbG,sNone⟩)):=by
  show _=_
  rw[zaf,zd,if_pos hw,zx]
  rw[zw,h1,h2,h3]
  rfl
 unfold pv
 go_enter Tryz.func71,Tryz.ntmps71
 go_wp2_with fail
 refine (zaC C D o n (.ok q) S q (-1) 0 zad _ (zU q) ((HM.out.alloc _).alloc _)).mono ?_
 rintro e w1 ⟨S1,U,z1,rfl,i1,m1,s1⟩
 obtain⟨X0,X1,t1⟩:=HM.out.two2 s1
 have h:=zc X0
 have j:=zc X1
 have an:=zc m1
 have aF:=zc t1
 have aq:=zc i1
 clear X0 X1 i1 m1 t1 s1
 obtain⟨ai,rfl⟩:=zcF aq.out hw
 have HQ:=zc ai
 have aa:Hid (U.pos=q.pos+1):=by show U.pos=q.pos+1;rw[ai];rfl
 clear ai aq
 obtain⟨Y,a1,a2,X,V,Z,a6,N,a8,O,A,z,af⟩:=h.out.box
 unfold pv
 go_upto_region 2 with fail
 refine zJ (R:=fun W=>Bx D S1 W (w.heap.size) _∧Bx D S1 W (w.heap.size+1) _∧Mem C D o n S1 U W∧SB w.heap.size S w S1 W) ⟨(h.out.put ..),(j.out.other (by omega) ..),(an.out.put h.out ..),(aF.out.put (by omega) ..)⟩ ?_
 clear Y a1 a2 X V Z a6 N a8 O A z af
 clear h j aF an
 rintro w2 ⟨X0,X1,m2,t2⟩
 have h:=zc X0
 have j:=zc X1
 have aj:=zc m2
 have al:=zc t2
 clear m2 t2 X0 X1
 obtain⟨Y,a1,a2,X,V,Z,a6,N,a8,O,A,z,af⟩:=h.out.box
 go_wp2_with fail
 refine (zg C D o n S1 U (-1) 0 4 zF _ aj.out.tok K (by decide)).mono ?_
 rintro e w3 ⟨rfl,M⟩
 rw[aa.out,h1]
 replace h:=zc (h.out.below M)
 replace j:=zc (j.out.below M)
 have aB:=zc (al.out.below M)
 have ah:=zc (aj.out.later M)
 clear M al aj
 clear Y a1 a2 X V Z a6 N a8 O A z af
 obtain⟨Y,a1,a2,X,V,Z,a6,N,a8,O,A,z,af⟩:=h.out.box
 go_wp2_with fail
 refine (zg C D o n S1 U (-1) 0 4 zv _ ah.out.tok K (by decide)).mono ?_
 rintro e w4 ⟨rfl,I⟩
 rw[aa.out,h2]
 replace h:=zc (h.out.below I)
 replace j:=zc (j.out.below I)
 have av:=zc (aB.out.below I)
 have ae:=zc (ah.out.later I)
 clear I aB ah
 clear Y a1 a2 X V Z a6 N a8 O A z af
 obtain⟨Y,a1,a2,X,V,Z,a6,N,a8,O,A,z,af⟩:=h.out.box
 go_wp2_with fail
 refine (zg C D o n S1 U (-1) 0 1 sDefault _ ae.out.tok K (by decide)).mono ?_
 rintro e w5 ⟨rfl,H⟩
 rw[aa.out,h3]
 replace h:=zc (h.out.below H)
 replace j:=zc (j.out.below H)
 have aA:=zc (av.out.below H)
 have aH:=zc (ae.out.later H)
 clear H av ae
 clear Y a1 a2 X V Z a6 N a8 O A z af
 obtain⟨Y,a1,a2,X,V,Z,a6,N,a8,O,A,z,af⟩:=h.out.box
 clear aa
 go_wp2_with fail
 refine (zaC C D o n (.ok U) S1 U (-1) 0 sDefault _ (zU U) aH.out).mono ?_
 rintro e w6 ⟨S6,q6,z6,rfl,i6,m6,s6⟩
 replace h:=zc (h.out.stp s6)
 replace j:=zc (j.out.stp s6)
 have ar:=zc (aA.out.step s6)
 clear aA
 have aC:=zc m6
 have aK:=zc i6
 clear i6 m6 s6 aH
 clear Y a1 a2 X V Z a6 N a8 O A z af
 go_wp2_with fail
 refine (zcE C D o n _ S6 q6 z6 _ aK.out aC.out).mono ?_
 rintro e w7 ⟨S7,q7,z7,rfl,i7,m7,s7⟩
 replace h:=zc (h.out.stp s7)
 replace j:=zc (j.out.stp s7)
 have am:=zc (ar.out.step s7)
 clear ar
 have ao:=zc m7
 have aM:=zc i7
 clear i7 m7 s7 aC
 go_wp2_with fail
 refine (zab C D o n _ S7 q7 z7 0 cSemi _ aM.out ao.out).mono ?_
 rintro e w8 ⟨S8,q8,z8,rfl,i8,m8,s8⟩
 replace h:=zc (h.out.stp s8)
 replace j:=zc (j.out.stp s8)
 have aw:=zc (am.out.step s8)
 clear am
 have ag:=zc m8
 have ap:=zc i8
 clear i8 m8 s8 ao
 have aQ:w.heap.size+1<w8.heap.size:=j.out.lt
 unfold pv
 go_upto_region 23 with fail
 refine zJ (R:=fun W=>Bx D S8 W (w.heap.size) _∧Bx D S8 W (w.heap.size+1) _∧Bx D S8 W (w8.heap.size) _∧Mem C D o n S8 q8 W∧SB w.heap.size S w S8 W) ⟨(h.out.alloc _),(j.out.alloc _),(Bx.new ag.out _),(ag.out.alloc _),(aw.out.alloc _)⟩ ?_
 clear h j aw ag
 rintro w9 ⟨X0,X1,X2,m9,t9⟩
 have h:=zc X0
 have j:=zc X1
 have E:=zc X2
 have aE:=zc m9
 have aG:=zc t9
 clear m9 t9 X0 X1 X2
 obtain⟨c0,c1,c2,c3,c4,c5,c6,c7,c8,c9,aO,aN,cf⟩:=E.out.box
 go_wp2_with fail
 refine (zc4 C D o n _ S8 q8 z8 0 1 zbG _ ap.out aE.out (zaZ ap.out)).mono ?_
 rintro e aX ⟨aP,aL,aJ,rfl,ak,au,L⟩
 replace h:=zc (h.out.stp L)
 replace j:=zc (j.out.stp L)
 replace E:=zc (E.out.stp L)
 have ad:=zc (aG.out.step L)
 clear aG
 have ab:=zc au
 have ac:=zc ak
 clear ak au L aE
 clear c0 c1 c2 c3 c4 c5 c6 c7 c8 c9 aO aN cf
 go_wp2_with fail
 refine (zdn C D o n _ aP aL aJ 0 ⟨1,sDefault,zbG,sNone⟩ _ ac.out ab.out (zjo ac.out)).mono ?_
 rintro e aU ⟨aV,aR,aS,rfl,ay,ax,J⟩
 replace h:=zc (h.out.stp J)
 replace j:=zc (j.out.stp J)
 replace E:=zc (E.out.stp J)
 have aI:=zc (ad.out.step J)
 clear ad
 have az:=zc ax
 have aD:=zc ay
 clear ay ax J ab
 obtain⟨b0,b1,b2,b3,b4,b5,b6,b7,b8,b9,aW,aT,bf⟩:=j.out.box
 unfold pv
 go_wp2
 refine bodyPost_ret (results_cell_row rfl _ _ (w.heap.size+1) 53 _ (0,0) _ rfl ((j.out.put ..)).heap Tryz.underlying53 rfl (by kernel_rfl)) rfl ?_
 rw[HV.out,←HQ.out]
 exact zW rfl aD.out (az.out.put j.out ..) (aI.out.put (by omega) ..)
theorem zp5 (C:Cx) (E z o:Nat) (S:Sv) (q:PS) (w:World) (hm:Mem C E z o S q w) (hw:isT C q.pos 1 zad=true) (h1:isT C (q.pos+1) 4 zF=false) (h2:isT C (q.pos+1) 4 zv=false) (h3:isT C (q.pos+1) 1 sDefault=false) (h4:isT C (q.pos+1) 1 zA=true):
  Calls Tryz.prog 71 #[pv C E z S q (-1) 0] w (Out C E z o (zaf C q) 0 S w):=by
 have HM:=zc hm
 have H:=hm.few
 clear hm
 have HV:Hid (zaf C q=bd (zcm C (adv q)) fun a=>zn C ⟨1,a.2,a.2,sNone⟩ a.1):=by
  show _=_
  rw[zaf,zd,if_pos hw,zx]
  rw[zw,h1,h2,h3,h4]
  rfl
 unfold pv
 go_enter Tryz.func71,Tryz.ntmps71
 go_wp2_with fail
 refine (zaC C E z o (.ok q) S q (-1) 0 zad _ (zU q) ((HM.out.alloc _).alloc _)).mono ?_
 rintro e w1 ⟨S1,q1,z1,rfl,i1,m1,s1⟩
 obtain⟨X0,X1,t1⟩:=HM.out.two2 s1
 have h:=zc X0
 have j:=zc X1
 have al:=zc m1
 have aw:=zc t1
 have an:=zc i1
 clear X0 X1 i1 m1 t1 s1
 obtain⟨ag,rfl⟩:=zcF an.out hw
 have HQ:=zc ag
 have V:Hid (q1.pos=q.pos+1):=by show q1.pos=q.pos+1;rw[ag];rfl
 clear ag an
 obtain⟨M,a1,a2,L,K,U,a6,I,Z,J,D,A,af⟩:=h.out.box
 unfold pv
 go_upto_region 2 with fail
 refine zJ (R:=fun W=>Bx E S1 W (w.heap.size) _∧Bx E S1 W (w.heap.size+1) _∧Mem C E z o S1 q1 W∧SB w.heap.size S w S1 W) ⟨(h.out.put ..),(j.out.other (by omega) ..),(al.out.put h.out ..),(aw.out.put (by omega) ..)⟩ ?_
 clear M a1 a2 L K U a6 I Z J D A af
 clear h j aw al
 rintro w2 ⟨X0,X1,m2,t2⟩
 have h:=zc X0
 have j:=zc X1
 have ah:=zc m2
 have aj:=zc t2
 clear m2 t2 X0 X1
 obtain⟨M,a1,a2,L,K,U,a6,I,Z,J,D,A,af⟩:=h.out.box
 go_wp2_with fail
 refine (zg C E z o S1 q1 (-1) 0 4 zF _ ah.out.tok H (by decide)).mono ?_
 rintro e w3 ⟨rfl,Y⟩
 rw[V.out,h1]
 replace h:=zc (h.out.below Y)
 replace j:=zc (j.out.below Y)
 have au:=zc (aj.out.below Y)
 have ad:=zc (ah.out.later Y)
 clear Y aj ah
 clear M a1 a2 L K U a6 I Z J D A af
 obtain⟨M,a1,a2,L,K,U,a6,I,Z,J,D,A,af⟩:=h.out.box
 go_wp2_with fail
 refine (zg C E z o S1 q1 (-1) 0 4 zv _ ad.out.tok H (by decide)).mono ?_
 rintro e w4 ⟨rfl,O⟩
 rw[V.out,h2]
 replace h:=zc (h.out.below O)
 replace j:=zc (j.out.below O)
 have ap:=zc (au.out.below O)
 have aa:=zc (ad.out.later O)
 clear O au ad
 clear M a1 a2 L K U a6 I Z J D A af
 obtain⟨M,a1,a2,L,K,U,a6,I,Z,J,D,A,af⟩:=h.out.box
 go_wp2_with fail
 refine (zg C E z o S1 q1 (-1) 0 1 sDefault _ aa.out.tok H (by decide)).mono ?_
 rintro e w5 ⟨rfl,N⟩
 rw[V.out,h3]
 replace h:=zc (h.out.below N)
 replace j:=zc (j.out.below N)
 have ar:=zc (ap.out.below N)
 have ai:=zc (aa.out.later N)
 clear N ap aa
 clear M a1 a2 L K U a6 I Z J D A af
 obtain⟨M,a1,a2,L,K,U,a6,I,Z,J,D,A,af⟩:=h.out.box
 go_wp2_with fail
 refine (zg C E z o S1 q1 (-1) 0 1 zA _ ai.out.tok H (by decide)).mono ?_
 rintro e w6 ⟨rfl,X⟩
 rw[V.out,h4]
 replace h:=zc (h.out.below X)
 replace j:=zc (j.out.below X)
 have ao:=zc (ar.out.below X)
 have av:=zc (ai.out.later X)
 clear X ar ai
 clear M a1 a2 L K U a6 I Z J D A af
 obtain⟨M,a1,a2,L,K,U,a6,I,Z,J,D,A,af⟩:=h.out.box
 clear V
 go_wp2_with fail
 refine (zg1 C E z o S1 q1 _ av.out).mono ?_
 rintro e w7 ⟨S7,q7,z7,n7,rfl,i7,m7,s7⟩
 replace h:=zc (h.out.stp s7)
 replace j:=zc (j.out.stp s7)
 have ak:=zc (ao.out.step s7)
 clear ao
 have ab:=zc m7
 have ae:=zc i7
 clear i7 m7 s7 av
 clear M a1 a2 L K U a6 I Z J D A af
 have aC:w.heap.size+1<w7.heap.size:=j.out.lt
 unfold pv
 go_upto_region 26 with fail
 refine zJ (R:=fun W=>Bx E S7 W (w.heap.size) _∧Bx E S7 W (w.heap.size+1) _∧Bx E S7 W (w7.heap.size) _∧Mem C E z o S7 q7 W∧SB w.heap.size S w S7 W) ⟨(h.out.alloc _),(j.out.alloc _),(Bx.new ab.out _),(ab.out.alloc _),(ak.out.alloc _)⟩ ?_
 clear h j ak ab
 rintro w8 ⟨X0,X1,X2,m8,t8⟩
 have h:=zc X0
 have j:=zc X1
 have ac:=zc X2
 have am:=zc m8
 have aq:=zc t8
 clear m8 t8 X0 X1 X2
 obtain⟨c0,c1,c2,c3,c4,c5,c6,c7,c8,c9,ay,ax,cf⟩:=ac.out.box
 go_wp2_with fail
 refine (zdn C E z o _ S7 q7 z7 0 ⟨1,n7,n7,sNone⟩ _ ae.out.fst am.out (zpz ae.out)).mono ?_
 rintro e w9 ⟨S9,q9,z9,rfl,i9,m9,s9⟩
 replace h:=zc (h.out.stp s9)
 replace j:=zc (j.out.stp s9)
 replace ac:=zc (ac.out.stp s9)
 have aA:=zc (aq.out.step s9)
 clear aq
 have az:=zc m9
 have aB:=zc i9
 clear i9 m9 s9 am
 clear c0 c1 c2 c3 c4 c5 c6 c7 c8 c9 ay ax cf
 obtain⟨b0,b1,b2,b3,b4,b5,b6,b7,b8,b9,aE,aD,bf⟩:=j.out.box
 unfold pv
 go_wp2
 refine bodyPost_ret (results_cell_row rfl _ _ (w.heap.size+1) 53 _ (0,0) _ rfl ((j.out.put ..)).heap Tryz.underlying53 rfl (by kernel_rfl)) rfl ?_
 rw[HV.out,←HQ.out,←ae.out.bind (fun q n=>zn C ⟨1,n,n,sNone⟩ q)]
 exact zW rfl aB.out (az.out.put j.out ..) (aA.out.put (by omega) ..)
theorem zp6 (C:Cx) (E D o:Nat) (S:Sv) (q:PS) (w:World) (hm:Mem C E D o S q w) (hw:isT C q.pos 1 zad=true) (h1:isT C (q.pos+1) 4 zF=false) (h2:isT C (q.pos+1) 4 zv=false) (h3:isT C (q.pos+1) 1 sDefault=false) (h4:isT C (q.pos+1) 1 zA=false) (h5:isT C (q.pos+1) 1 zO=true):
  Calls Tryz.prog 71 #[pv C E D S q (-1) 0] w (Out C E D o (zaf C q) 0 S w):=by
 have HM:=zc hm
 have H:=hm.few
 clear hm
 have HV:Hid (zaf C q=bd (fnP C (adv q)) fun a=>zn C ⟨1,a.2,a.2,sNone⟩ a.1):=by
  show _=_
  rw[zaf,zd,if_pos hw,zx]
  rw[zw,h1,h2,h3,h4,h5]
  rfl
 unfold pv
 go_enter Tryz.func71,Tryz.ntmps71
 go_wp2_with fail
 refine (zaC C E D o (.ok q) S q (-1) 0 zad _ (zU q) ((HM.out.alloc _).alloc _)).mono ?_
 rintro e w1 ⟨S1,q1,z1,rfl,i1,m1,s1⟩
 obtain⟨X0,X1,t1⟩:=HM.out.two2 s1
 have h:=zc X0
 have j:=zc X1
 have av:=zc m1
 have aI:=zc t1
 have ax:=zc i1
 clear X0 X1 i1 m1 t1 s1
 obtain⟨an,rfl⟩:=zcF ax.out hw
 have HQ:=zc an
 have O:Hid (q1.pos=q.pos+1):=by show q1.pos=q.pos+1;rw[an];rfl
 clear an ax
 obtain⟨M,V,Z,L,K,N,Y,I,U,J,A,z,X⟩:=h.out.box
 unfold pv
 go_upto_region 2 with fail
 refine zJ (R:=fun W=>Bx E S1 W (w.heap.size) _∧Bx E S1 W (w.heap.size+1) _∧Mem C E D o S1 q1 W∧SB w.heap.size S w S1 W) ⟨(h.out.put ..),(j.out.other (by omega) ..),(av.out.put h.out ..),(aI.out.put (by omega) ..)⟩ ?_
 clear M V Z L K N Y I U J A z X
 clear h j aI av
 rintro w2 ⟨X0,X1,m2,t2⟩
 have h:=zc X0
 have j:=zc X1
 have ao:=zc m2
 have ar:=zc t2
 clear m2 t2 X0 X1
 obtain⟨M,V,Z,L,K,N,Y,I,U,J,A,z,X⟩:=h.out.box
 go_wp2_with fail
 refine (zg C E D o S1 q1 (-1) 0 4 zF _ ao.out.tok H (by decide)).mono ?_
 rintro e w3 ⟨rfl,ag⟩
 rw[O.out,h1]
 replace h:=zc (h.out.below ag)
 replace j:=zc (j.out.below ag)
 have aF:=zc (ar.out.below ag)
 have al:=zc (ao.out.later ag)
 clear ag ar ao
 clear M V Z L K N Y I U J A z X
 obtain⟨M,V,Z,L,K,N,Y,I,U,J,A,z,X⟩:=h.out.box
 go_wp2_with fail
 refine (zg C E D o S1 q1 (-1) 0 4 zv _ al.out.tok H (by decide)).mono ?_
 rintro e w4 ⟨rfl,ac⟩
 rw[O.out,h2]
 replace h:=zc (h.out.below ac)
 replace j:=zc (j.out.below ac)
 have aA:=zc (aF.out.below ac)
 have ah:=zc (al.out.later ac)
 clear ac aF al
 clear M V Z L K N Y I U J A z X
 obtain⟨M,V,Z,L,K,N,Y,I,U,J,A,z,X⟩:=h.out.box
 go_wp2_with fail
 refine (zg C E D o S1 q1 (-1) 0 1 sDefault _ ah.out.tok H (by decide)).mono ?_
 rintro e w5 ⟨rfl,ab⟩
 rw[O.out,h3]
 replace h:=zc (h.out.below ab)
 replace j:=zc (j.out.below ab)
 have aD:=zc (aA.out.below ab)
 have ap:=zc (ah.out.later ab)
 clear ab aA ah
 clear M V Z L K N Y I U J A z X
 obtain⟨M,V,Z,L,K,N,Y,I,U,J,A,z,X⟩:=h.out.box
 go_wp2_with fail
 refine (zg C E D o S1 q1 (-1) 0 1 zA _ ap.out.tok H (by decide)).mono ?_
 rintro e w6 ⟨rfl,ad⟩
 rw[O.out,h4]
 replace h:=zc (h.out.below ad)
 replace j:=zc (j.out.below ad)
 have ay:=zc (aD.out.below ad)
 have am:=zc (ap.out.later ad)
 clear ad aD ap
 clear M V Z L K N Y I U J A z X
 obtain⟨M,V,Z,L,K,N,Y,I,U,J,A,z,X⟩:=h.out.box
 go_wp2_with fail
 refine (zg C E D o S1 q1 (-1) 0 1 zO _ am.out.tok H (by decide)).mono ?_
 rintro e w7 ⟨rfl,aa⟩
 rw[O.out,h5]
 replace h:=zc (h.out.below aa)
 replace j:=zc (j.out.below aa)
 have au:=zc (ay.out.below aa)
 have aw:=zc (am.out.later aa)
 clear aa ay am
 clear M V Z L K N Y I U J A z X
 obtain⟨M,V,Z,L,K,N,Y,I,U,J,A,z,X⟩:=h.out.box
 clear O
 go_wp2_with fail
 refine (zg2 C E D o S1 q1 _ aw.out).mono ?_
 rintro e w8 ⟨S8,q8,z8,n8,rfl,i8,m8,s8⟩
 replace h:=zc (h.out.stp s8)
 replace j:=zc (j.out.stp s8)
 have aB:=zc (au.out.step s8)
 clear au
 have aj:=zc m8
 have ai:=zc i8
 clear i8 m8 s8 aw
 clear M V Z L K N Y I U J A z X
 have aM:w.heap.size+1<w8.heap.size:=j.out.lt
 unfold pv
 go_upto_region 29 with fail
 refine zJ (R:=fun W=>Bx E S8 W (w.heap.size) _∧Bx E S8 W (w.heap.size+1) _∧Bx E S8 W (w8.heap.size) _∧Mem C E D o S8 q8 W∧SB w.heap.size S w S8 W) ⟨(h.out.alloc _),(j.out.alloc _),(Bx.new aj.out _),(aj.out.alloc _),(aB.out.alloc _)⟩ ?_
 clear h j aB aj
 rintro w9 ⟨X0,X1,X2,m9,t9⟩
 have h:=zc X0
 have j:=zc X1
 have ak:=zc X2
 have aH:=zc m9
 have aJ:=zc t9
 clear m9 t9 X0 X1 X2
 obtain⟨c0,c1,c2,c3,c4,c5,c6,c7,c8,c9,aL,aK,cf⟩:=ak.out.box
 go_wp2_with fail
 refine (zdn C E D o _ S8 q8 z8 0 ⟨1,n8,n8,sNone⟩ _ ai.out.fst aH.out (zp0 ai.out)).mono ?_
 rintro e aS ⟨aR,aO,aN,rfl,aq,az,ae⟩
 replace h:=zc (h.out.stp ae)
 replace j:=zc (j.out.stp ae)
 replace ak:=zc (ak.out.stp ae)
 have aG:=zc (aJ.out.step ae)
 clear aJ
 have aC:=zc az
 have aE:=zc aq
 clear aq az ae aH
 clear c0 c1 c2 c3 c4 c5 c6 c7 c8 c9 aL aK cf
 obtain⟨b0,b1,b2,b3,b4,b5,b6,b7,b8,b9,aQ,aP,bf⟩:=j.out.box
 unfold pv
 go_wp2
 refine bodyPost_ret (results_cell_row rfl _ _ (w.heap.size+1) 53 _ (0,0) _ rfl ((j.out.put ..)).heap Tryz.underlying53 rfl (by kernel_rfl)) rfl ?_
 rw[HV.out,←HQ.out,←ai.out.bind (fun q n=>zn C ⟨1,n,n,sNone⟩ q)]
 exact zW rfl aE.out (aC.out.put j.out ..) (aG.out.put (by omega) ..)
theorem zp7 (C:Cx) (N A n:Nat) (S:Sv) (q:PS) (w:World) (hm:Mem C N A n S q w) (hw:isT C q.pos 1 zad=true) (h1:isT C (q.pos+1) 4 zF=false) (h2:isT C (q.pos+1) 4 zv=false) (h3:isT C (q.pos+1) 1 sDefault=false) (h4:isT C (q.pos+1) 1 zA=false) (h5:isT C (q.pos+1) 1 zO=false):
  Calls Tryz.prog 71 #[pv C N A S q (-1) 0] w (Out C N A n (zaf C q) 0 S w):=by
 have HM:=zc hm
 have D:=hm.few
 clear hm
 have HV:Hid (zaf C q= .error (zq C (adv q).pos)):=by
  show _=_
  rw[zaf,zd,if_pos hw,zx]
  rw[zw,h1,h2,h3,h4,h5]
  rfl
 unfold pv
 go_enter Tryz.func71,Tryz.ntmps71
 go_wp2_with fail
 refine (zaC C N A n (.ok q) S q (-1) 0 zad _ (zU q) ((HM.out.alloc _).alloc _)).mono ?_
 rintro e w1 ⟨S1,Z,z1,rfl,i1,m1,s1⟩
 obtain⟨X0,X1,t1⟩:=HM.out.two2 s1
 have h:=zc X0
 have j:=zc X1
 have aq:=zc m1
 have ay:=zc t1
 have ar:=zc i1
 clear X0 X1 i1 m1 t1 s1
 obtain⟨al,rfl⟩:=zcF ar.out hw
 have HQ:=zc al
 have M:Hid (Z.pos=q.pos+1):=by show Z.pos=q.pos+1;rw[al];rfl
 clear al ar
 obtain⟨K,U,Y,J,I,L,X,E,O,H,z,o,V⟩:=h.out.box
 unfold pv
 go_upto_region 2 with fail
 refine zJ (R:=fun W=>Bx N S1 W (w.heap.size) _∧Bx N S1 W (w.heap.size+1) _∧Mem C N A n S1 Z W∧SB w.heap.size S w S1 W) ⟨(h.out.put ..),(j.out.other (by omega) ..),(aq.out.put h.out ..),(ay.out.put (by omega) ..)⟩ ?_
 clear K U Y J I L X E O H z o V
 clear h j ay aq
 rintro w2 ⟨X0,X1,m2,t2⟩
 have h:=zc X0
 have j:=zc X1
 have am:=zc m2
 have ao:=zc t2
 clear m2 t2 X0 X1
 obtain⟨K,U,Y,J,I,L,X,E,O,H,z,o,V⟩:=h.out.box
 go_wp2_with fail
 refine (zg C N A n S1 Z (-1) 0 4 zF _ am.out.tok D (by decide)).mono ?_
 rintro e w3 ⟨rfl,ae⟩
 rw[M.out,h1]
 replace h:=zc (h.out.below ae)
 replace j:=zc (j.out.below ae)
 have ax:=zc (ao.out.below ae)
 have aj:=zc (am.out.later ae)
 clear ae ao am
 clear K U Y J I L X E O H z o V
 obtain⟨K,U,Y,J,I,L,X,E,O,H,z,o,V⟩:=h.out.box
 go_wp2_with fail
 refine (zg C N A n S1 Z (-1) 0 4 zv _ aj.out.tok D (by decide)).mono ?_
 rintro e w4 ⟨rfl,ac⟩
 rw[M.out,h2]
 replace h:=zc (h.out.below ac)
 replace j:=zc (j.out.below ac)
 have av:=zc (ax.out.below ac)
 have ah:=zc (aj.out.later ac)
 clear ac ax aj
 clear K U Y J I L X E O H z o V
 obtain⟨K,U,Y,J,I,L,X,E,O,H,z,o,V⟩:=h.out.box
 go_wp2_with fail
 refine (zg C N A n S1 Z (-1) 0 1 sDefault _ ah.out.tok D (by decide)).mono ?_
 rintro e w5 ⟨rfl,ab⟩
 rw[M.out,h3]
 replace h:=zc (h.out.below ab)
 replace j:=zc (j.out.below ab)
 have aw:=zc (av.out.below ab)
 have an:=zc (ah.out.later ab)
 clear ab av ah
 clear K U Y J I L X E O H z o V
 obtain⟨K,U,Y,J,I,L,X,E,O,H,z,o,V⟩:=h.out.box
 go_wp2_with fail
 refine (zg C N A n S1 Z (-1) 0 1 zA _ an.out.tok D (by decide)).mono ?_
 rintro e w6 ⟨rfl,ad⟩
 rw[M.out,h4]
 replace h:=zc (h.out.below ad)
 replace j:=zc (j.out.below ad)
 have au:=zc (aw.out.below ad)
 have ak:=zc (an.out.later ad)
 clear ad aw an
 clear K U Y J I L X E O H z o V
 obtain⟨K,U,Y,J,I,L,X,E,O,H,z,o,V⟩:=h.out.box
 go_wp2_with fail
 refine (zg C N A n S1 Z (-1) 0 1 zO _ ak.out.tok D (by decide)).mono ?_
 rintro e w7 ⟨rfl,aa⟩
 rw[M.out,h5]
 replace h:=zc (h.out.below aa)
 replace j:=zc (j.out.below aa)
 have ap:=zc (au.out.below aa)
 have ai:=zc (ak.out.later aa)
 clear aa au ak
 clear K U Y J I L X E O H z o V
 obtain⟨K,U,Y,J,I,L,X,E,O,H,z,o,V⟩:=h.out.box
 clear M
 go_wp2_with fail
 refine (zcL C N A n S1 Z (-1) 0 _ ai.out.tok D).mono ?_
 rintro e w8 ⟨rfl,ag⟩
 replace h:=zc (h.out.below ag)
 replace j:=zc (j.out.below ag)
 have aA:=zc (ap.out.below ag)
 have az:=zc (ai.out.later ag)
 clear ag ap ai
 clear K U Y J I L X E O H z o V
 obtain⟨b0,b1,b2,b3,b4,b5,b6,b7,b8,b9,aC,aB,bf⟩:=j.out.box
 unfold pv
 go_wp2
 refine bodyPost_ret (results_cell_row rfl _ _ (w.heap.size+1) 53 _ (0,0) _ rfl ((j.out.put ..)).heap Tryz.underlying53 rfl (by kernel_rfl)) rfl ?_
 rw[HV.out,←HQ.out]
 exact zW rfl (show Is (.error (zq C Z.pos)) Z _ from rfl) (az.out.put j.out ..) (aA.out.put (by omega) ..)
theorem zp8 (C:Cx) (H D n:Nat) (S:Sv) (q:PS) (w:World) (hm:Mem C H D n S q w) (hw:isT C q.pos 1 zad=true) (h1:isT C (q.pos+1) 4 zF=true):
  Calls Tryz.prog 71 #[pv C H D S q (-1) 0] w (Out C H D n (zaf C q) 0 S w):=by
 have HM:=zc hm
 have aI:=hm.few
 clear hm
 have HV:Hid (zaf C q=bd (zcz C true (adv q)) fun a=>if !za5 a.2&& !isT C a.1.pos 1 zP then bd (zd C 4 cSemi a.1) fun q=>zR (fun e=>zn C (zz e)) a.2 (.ok q) else bd (zaQ C (zaA C (.ok a.1))) fun b=>zR (fun e=>zn C (zal b.2 e)) a.2 (.ok b.1)):=by
  show _=_
  rw[zaf,zd,if_pos hw,zx]
  rw[zw,h1]
  rfl
 unfold pv
 go_enter Tryz.func71,Tryz.ntmps71
 go_wp2_with fail
 refine (zaC C H D n (.ok q) S q (-1) 0 zad _ (zU q) ((HM.out.alloc _).alloc _)).mono ?_
 rintro e w1 ⟨S1,q1,z1,rfl,i1,m1,s1⟩
 obtain⟨Y,V,t1⟩:=HM.out.two2 s1
 have h:=zc Y
 have o:=zc V
 have aT:=zc m1
 have bh:=zc t1
 have aW:=zc i1
 clear Y V i1 m1 t1 s1
 obtain⟨aQ,rfl⟩:=zcF aW.out hw
 have HQ:=zc aQ
 have bb:Hid (q1.pos=q.pos+1):=by show q1.pos=q.pos+1;rw[aQ];rfl
 clear aQ aW
 obtain⟨a0,a1,a2,a3,a4,a5,a6,a7,a8,a9,L,K,af⟩:=h.out.box
 unfold pv
 go_upto_region 2 with fail
 refine zJ (R:=fun W=>Bx H S1 W (w.heap.size) _∧Bx H S1 W (w.heap.size+1) _∧Mem C H D n S1 q1 W∧SB w.heap.size S w S1 W) ⟨(h.out.put ..),(o.out.other (by omega) ..),(aT.out.put h.out ..),(bh.out.put (by omega) ..)⟩ ?_
 clear a0 a1 a2 a3 a4 a5 a6 a7 a8 a9 L K af
 clear h o bh aT
 rintro w2 ⟨Y,V,m2,t2⟩
 have h:=zc Y
 have o:=zc V
 have aR:=zc m2
 have aS:=zc t2
 clear m2 t2 Y V
 have aP:Hid (zaf C q=bd (zcz C true q1) fun a=>if !za5 a.2&& !isT C a.1.pos 1 zP then bd (zd C 4 cSemi a.1) fun q=>zR (fun e=>zn C (zz e)) a.2 (.ok q) else bd (zaQ C (zaA C (.ok a.1))) fun b=>zR (fun e=>zn C (zal b.2 e)) a.2 (.ok b.1)):=by show _=_;rw[HQ.out];exact HV.out
 obtain⟨a0,a1,a2,a3,a4,a5,a6,a7,a8,a9,L,K,af⟩:=h.out.box
 go_wp2_with fail
 refine (zg C H D n S1 q1 (-1) 0 4 zF _ aR.out.tok aI (by decide)).mono ?_
 rintro e w3 ⟨rfl,aJ⟩
 rw[bb.out,h1]
 replace h:=zc (h.out.below aJ)
 replace o:=zc (o.out.below aJ)
 have aO:=zc (aS.out.below aJ)
 have aX:=zc (aR.out.later aJ)
 clear aJ aS aR
 clear a0 a1 a2 a3 a4 a5 a6 a7 a8 a9 L K af
 obtain⟨a0,a1,a2,a3,a4,a5,a6,a7,a8,a9,L,K,af⟩:=h.out.box
 clear bb
 have bk:=aO.out.size
 go_wp2_with fail
 refine (ziZ C H D n S1 q1 0 true _ aX.out).mono ?_
 rintro e w4 ⟨S4,q4,z4,⟨ra,rc⟩,l,rfl,i4,m4,s4,R0,hl⟩
 obtain⟨g,rfl⟩: ∃g,ra=some ⟨g,0,none⟩:=R0.addr
 replace h:=zc (h.out.stp s4)
 replace o:=zc (o.out.stp s4)
 have aY:=zc (aO.out.step s4)
 clear aO
 have aN:=zc m4
 have aB:=zc i4
 clear i4 m4 s4 aX
 clear a0 a1 a2 a3 a4 a5 a6 a7 a8 a9 L K af
 have A:Hid (Row S4 w4 n w.heap.size ⟨some ⟨g,0,none⟩,rc⟩ l):=⟨R0.own,R0.free,fun k hk=>Nat.le_trans bk (R0.new k hk),R0.addr⟩
 clear R0
 have bl:w.heap.size+1<w4.heap.size:=o.out.lt
 unfold pv
 go_upto_region 4 with fail
 refine zJ (R:=fun W=>Bx H S4 W (w.heap.size) _∧Bx H S4 W (w.heap.size+1) _∧Bx H S4 W (w4.heap.size) _∧Row S4 W n w.heap.size ⟨some ⟨g,0,none⟩,rc⟩ l∧Mem C H D n S4 q4 W∧SB w.heap.size S w S4 W) ⟨(h.out.alloc _),(o.out.alloc _),(Bx.new aN.out _),(A.out.alloc _),(aN.out.alloc _),(aY.out.alloc _)⟩ ?_
 clear h o aY aN
 clear A
 rintro w5 ⟨Y,V,X2,R0,m5,t5⟩
 have A:=zc R0
 clear R0
 have h:=zc Y
 have o:=zc V
 have z:=zc X2
 have aA:=zc m5
 have aF:=zc t5
 clear m5 t5 Y V X2
 cases hA:za5 l with
 |true=>
  skip
  obtain⟨c0,c1,c2,c3,c4,c5,c6,c7,c8,c9,am,al,cf⟩:=z.out.box
  go_wp2_with fail
  refine (zaC C H D n _ S4 q4 z4 0 zP _ aB.out.fst aA.out).mono ?_
  rintro e w6 ⟨S6,q6,z6,rfl,i6,m6,s6⟩
  replace h:=zc (h.out.stp s6)
  replace o:=zc (o.out.stp s6)
  replace z:=zc (z.out.stp s6)
  have ar:=zc (aF.out.step s6)
  have J:Hid (Row S6 w6 n w.heap.size ⟨some ⟨g,0,none⟩,rc⟩ l):=A.out.stp s6
  clear A
  have A:=zc J
  clear J
  clear aF
  have ay:=zc m6
  have bj:=zc i6
  clear i6 m6 s6 aA
  clear c0 c1 c2 c3 c4 c5 c6 c7 c8 c9 am al cf
  go_wp2_with fail
  refine (zdy C H D n _ S6 q6 z6 0 _ bj.out ay.out).mono ?_
  rintro e w7 ⟨S7,q7,z7,n7,rfl,i7,m7,s7⟩
  replace h:=zc (h.out.stp s7)
  replace o:=zc (o.out.stp s7)
  replace z:=zc (z.out.stp s7)
  have ap:=zc (ar.out.step s7)
  have J:Hid (Row S7 w7 n w.heap.size ⟨some ⟨g,0,none⟩,rc⟩ l):=A.out.stp s7
  clear A
  have A:=zc J
  clear J
  clear ar
  have ah:=zc m7
  have aE:=zc i7
  clear i7 m7 s7 ay
  have aV:w.heap.size+1<w7.heap.size:=o.out.lt
  have aK:w4.heap.size<w7.heap.size:=z.out.lt
  unfold pv
  go_upto_region 12 with fail
  refine zJ (R:=fun W=>Bx H S7 W (w.heap.size) _∧Bx H S7 W (w.heap.size+1) _∧Bx H S7 W (w4.heap.size) _∧Bx H S7 W (w7.heap.size) _∧Row S7 W n w.heap.size ⟨some ⟨g,0,none⟩,rc⟩ l∧Mem C H D n S7 q7 W∧SB w.heap.size S w S7 W) ⟨(h.out.alloc _),(o.out.alloc _),(z.out.alloc _),(Bx.new ah.out _),(A.out.alloc _),(ah.out.alloc _),(ap.out.alloc _)⟩ ?_
  clear h o z ap ah
  clear A
  rintro w8 ⟨Y,V,X2,X3,R0,m8,t8⟩
  have A:=zc R0
  clear R0
  have h:=zc Y
  have o:=zc V
  have z:=zc X2
  have aa:=zc X3
  have ak:=zc m8
  have av:=zc t8
  clear m8 t8 Y V X2 X3
  obtain⟨d0,d1,d2,d3,d4,d5,d6,d7,d8,d9,ai,aj,df⟩:=aa.out.box
  go_wp2_with fail
  refine (zab C H D n _ S7 q7 z7 0 cSemi _ aE.out.fst ak.out).mono ?_
  rintro e w9 ⟨S9,q9,z9,rfl,i9,m9,s9⟩
  replace h:=zc (h.out.stp s9)
  replace o:=zc (o.out.stp s9)
  replace z:=zc (z.out.stp s9)
  replace aa:=zc (aa.out.stp s9)
  have ad:=zc (av.out.step s9)
  have J:Hid (Row S9 w9 n w.heap.size ⟨some ⟨g,0,none⟩,rc⟩ l):=A.out.stp s9
  clear A
  have A:=zc J
  clear J
  clear av
  have ac:=zc m9
  have ae:=zc i9
  clear i9 m9 s9 ak
  clear d0 d1 d2 d3 d4 d5 d6 d7 d8 d9 ai aj df
  obtain⟨a0,a1,a2,a3,a4,a5,a6,a7,a8,a9,L,K,af⟩:=h.out.box
  unfold pv
  go_upto_region 13 with fail
  refine zJ (R:=fun W=>Bx H S9 W (w.heap.size) _∧Bx H S9 W (w.heap.size+1) _∧Bx H S9 W (w4.heap.size) _∧Bx H S9 W (w7.heap.size) _∧Row S9 W n w.heap.size ⟨some ⟨g,0,none⟩,rc⟩ l∧Mem C H D n S9 q9 W∧SB w.heap.size S w S9 W) ⟨(h.out.put ..),(o.out.other (by omega) ..),(z.out.other (by omega) ..),(aa.out.other (by omega) ..),(A.out.put h.out ..),(ac.out.put h.out ..),(ad.out.put (by omega) ..)⟩ ?_
  clear a0 a1 a2 a3 a4 a5 a6 a7 a8 a9 L K af
  clear h o z aa ad ac
  clear A
  rintro aC ⟨Y,V,X2,X3,R0,ab,be⟩
  have A:=zc R0
  clear R0
  have h:=zc Y
  have o:=zc V
  have z:=zc X2
  have aa:=zc X3
  have O:=zc ab
  have ax:=zc be
  clear ab be Y V X2 X3
  have aH:Hid (_=zaf C q):=(zg3 (G:=fun b e=>zn C (zal b e)) aB.out aE.out).trans ((zjq aB.out (.inl hA)).trans aP.out.symm)
  go_wp2
  go_loopg [9] l.length (fun k i wr=>∃(j:Nat) (x':PR) (I:Sv) (X:PS) (z':Int),j≤l.length∧i= .int .i64 j∧Is x' X z'∧(z'<0→1≤X.pos)∧zR (fun e=>zn C (zal n7 e)) (l.drop j) x'=zaf C q∧l.length-j=k∧Mem C H D n I X wr∧SB w.heap.size S w I wr∧Bx H I wr w.heap.size #[.slice (some ⟨H,0,none⟩) C.ts.length D,.int .i64 X.pos,.int .i64 C.fin,.bool C.scr,.slice I.rq.a X.rq.length I.rq.cap,.slice I.im.a X.im.length I.im.cap,.slice I.ep.a X.ep.length I.ep.cap,.slice I.st.a X.st.length I.st.cap,.slice I.ex.a X.ex.length I.ex.cap,.slice I.la.a X.la.length I.la.cap,.int .i64 z',.int .i64 0]∧Bx H I wr (w.heap.size+1) #[.slice none 0 0,.int .i64 0,.int .i64 0,.bool false,.slice none 0 0,.slice none 0 0,.slice none 0 0,.slice none 0 0,.slice none 0 0,.slice none 0 0,.int .i64 0,.int .i64 0]∧Row I wr n w.heap.size ⟨some ⟨g,0,none⟩,rc⟩ l)
  case atStart=>exact⟨0,_,S9,q9,z9,Nat.zero_le _,rfl,ae.out,zaZ ae.out,aH.out,rfl,O.out,ax.out,h.out,o.out,A.out⟩
  case round=>
   obtain⟨j,x9,S9,q9,z9,hj,rfl,i9,p9,e9,g9,m9,t9,Y,V,R0⟩:=hrel
   clear h o z aa A O ax
   have h:=zc Y
   have o:=zc V
   have ac:=zc m9
   have ad:=zc t9
   have ae:=zc i9
   have aq:=zc p9
   have aw:=zc e9
   have ao:=zc g9
   have A:=zc R0
   clear Y V i9 m9 t9 e9 g9 R0 p9
   by_cases az:j<l.length
   ·skip
    obtain⟨c1,c2⟩:=A.out.cells (g:=g) rfl az
    have bi:=A.out.own.lt (g:=g) rfl
    have HX:Hid (∀e,e=l[j]→zR (fun e=>zn C (zal n7 e)) (l.drop (j+1)) (bd x9 (zn C (zal n7 e)))=zaf C q):=fun e he=>by rw[he,←aw.out];exact (zf2 (fun e=>zn C (zal n7 e)) l x9 az).symm
    generalize an:l[j]=el at c1 c2
    have aG:Hid (el=l[j]):=an.symm
    clear an
    obtain⟨a0,a1,a2,a3,a4,a5,a6,a7,a8,a9,L,K,af⟩:=h.out.box
    go_upto_region 16 with fail
    go_region_law (first|(go_simp;go_wp2_with (go_at_call 134;refine (zdn C H D n x9 S9 q9 z9 0 (zal n7 el) _ ae.out ac.out.drew aq.out).mono ?_;rintro e aC ⟨N,au,aD,rfl,ag,ab,M⟩;obtain⟨d0,d1,d2,d3,d4,d5,d6,d7,d8,d9,ai,aj,df⟩:=(h.out.stp M.undrew).box;unfold pv)))
    all_goals
     clear a0 a1 a2 a3 a4 a5 a6 a7 a8 a9 L K af d0 d1 d2 d3 d4 d5 d6 d7 d8 d9 ai aj df
     have U:=zc ag
     have O:=zc ab
     have E:Hid (Stp S9 wr N aC):=M.undrew
     clear ag ab M
     go_wp2
     go_roundg (gk-1)
     case rel=>exact⟨j+1,_,N,au,aD,by omega,by go_num,U.out,zg4 aq.out ae.out U.out,HX.out el aG.out,by have:=ao.out;omega,O.out.put (h.out.stp E.out) _ _ _ _ _ _ _ _ _ _ _ _,(ad.out.step E.out).put (by omega) _ _ _ _ _ _ _ _ _ _ _ _,(h.out.stp E.out).put _ _ _ _ _ _ _ _ _ _ _ _,(o.out.stp E.out).other (by omega) _ _ _ _ _ _ _ _ _ _ _ _,(A.out.stp E.out).put (h.out.stp E.out) _ _ _ _ _ _ _ _ _ _ _ _⟩
     case measure=>have:=ao.out;omega
   ·skip
    obtain⟨a0,a1,a2,a3,a4,a5,a6,a7,a8,a9,L,K,af⟩:=h.out.box
    obtain⟨b0,b1,b2,b3,b4,b5,b6,b7,b8,b9,bg,ba,bf⟩:=o.out.box
    go_wp2
    refine bodyPost_ret (results_cell_row rfl _ _ (w.heap.size+1) 53 _ (0,0) _ rfl ((o.out.put ..)).heap Tryz.underlying53 rfl (by kernel_rfl)) rfl ?_
    exact zW rfl (show Is (zaf C q) q9 z9 from by rw[←aw.out,List.drop_eq_nil_of_le (by omega)];exact ae.out) (ac.out.put o.out ..) (ad.out.put (by omega) ..)
 |false=>
  cases hF:(decide (z4<0)&&isT C q4.pos 1 zP) with
  |true=>
   obtain⟨c0,c1,c2,c3,c4,c5,c6,c7,c8,c9,am,al,cf⟩:=z.out.box
   go_wp2_with fail
   refine (zg C H D n S4 q4 z4 0 1 zP _ aA.out.tok aI (by decide)).mono ?_
   rintro e w6 ⟨rfl,Z⟩
   rw[hF]
   replace h:=zc (h.out.below Z)
   replace o:=zc (o.out.below Z)
   replace z:=zc (z.out.below Z)
   have ar:=zc (aF.out.below Z)
   have ay:=zc (aA.out.later Z)
   have J:Hid (Row S4 w6 n w.heap.size ⟨some ⟨g,0,none⟩,rc⟩ l):=A.out.below Z
   clear A
   have A:=zc J
   clear J
   clear Z aF aA
   clear c0 c1 c2 c3 c4 c5 c6 c7 c8 c9 am al cf
   obtain⟨c0,c1,c2,c3,c4,c5,c6,c7,c8,c9,am,al,cf⟩:=z.out.box
   go_wp2_with fail
   refine (zaC C H D n _ S4 q4 z4 0 zP _ aB.out.fst ay.out).mono ?_
   rintro e w7 ⟨S7,q7,z7,rfl,i7,m7,s7⟩
   replace h:=zc (h.out.stp s7)
   replace o:=zc (o.out.stp s7)
   replace z:=zc (z.out.stp s7)
   have ap:=zc (ar.out.step s7)
   have J:Hid (Row S7 w7 n w.heap.size ⟨some ⟨g,0,none⟩,rc⟩ l):=A.out.stp s7
   clear A
   have A:=zc J
   clear J
   clear ar
   have ah:=zc m7
   have aE:=zc i7
   clear i7 m7 s7 ay
   clear c0 c1 c2 c3 c4 c5 c6 c7 c8 c9 am al cf
   go_wp2_with fail
   refine (zdy C H D n _ S7 q7 z7 0 _ aE.out ah.out).mono ?_
   rintro e w8 ⟨S8,q8,z8,n8,rfl,i8,m8,s8⟩
   replace h:=zc (h.out.stp s8)
   replace o:=zc (o.out.stp s8)
   replace z:=zc (z.out.stp s8)
   have av:=zc (ap.out.step s8)
   have J:Hid (Row S8 w8 n w.heap.size ⟨some ⟨g,0,none⟩,rc⟩ l):=A.out.stp s8
   clear A
   have A:=zc J
   clear J
   clear ap
   have ak:=zc m8
   have aU:=zc i8
   clear i8 m8 s8 ah
   have aV:w.heap.size+1<w8.heap.size:=o.out.lt
   have aK:w4.heap.size<w8.heap.size:=z.out.lt
   unfold pv
   go_upto_region 12 with fail
   refine zJ (R:=fun W=>Bx H S8 W (w.heap.size) _∧Bx H S8 W (w.heap.size+1) _∧Bx H S8 W (w4.heap.size) _∧Bx H S8 W (w8.heap.size) _∧Row S8 W n w.heap.size ⟨some ⟨g,0,none⟩,rc⟩ l∧Mem C H D n S8 q8 W∧SB w.heap.size S w S8 W) ⟨(h.out.alloc _),(o.out.alloc _),(z.out.alloc _),(Bx.new ak.out _),(A.out.alloc _),(ak.out.alloc _),(av.out.alloc _)⟩ ?_
   clear h o z av ak
   clear A
   rintro w9 ⟨Y,V,X2,X3,R0,m9,t9⟩
   have A:=zc R0
   clear R0
   have h:=zc Y
   have o:=zc V
   have z:=zc X2
   have aa:=zc X3
   have ac:=zc m9
   have ad:=zc t9
   clear m9 t9 Y V X2 X3
   obtain⟨d0,d1,d2,d3,d4,d5,d6,d7,d8,d9,ai,aj,df⟩:=aa.out.box
   go_wp2_with fail
   refine (zab C H D n _ S8 q8 z8 0 cSemi _ aU.out.fst ac.out).mono ?_
   rintro e aC ⟨N,au,aD,rfl,ag,ab,M⟩
   replace h:=zc (h.out.stp M)
   replace o:=zc (o.out.stp M)
   replace z:=zc (z.out.stp M)
   replace aa:=zc (aa.out.stp M)
   have ax:=zc (ad.out.step M)
   have J:Hid (Row N aC n w.heap.size ⟨some ⟨g,0,none⟩,rc⟩ l):=A.out.stp M
   clear A
   have A:=zc J
   clear J
   clear ad
   have O:=zc ab
   have U:=zc ag
   clear ag ab M ac
   clear d0 d1 d2 d3 d4 d5 d6 d7 d8 d9 ai aj df
   obtain⟨a0,a1,a2,a3,a4,a5,a6,a7,a8,a9,L,K,af⟩:=h.out.box
   unfold pv
   go_upto_region 13 with fail
   refine zJ (R:=fun W=>Bx H N W (w.heap.size) _∧Bx H N W (w.heap.size+1) _∧Bx H N W (w4.heap.size) _∧Bx H N W (w8.heap.size) _∧Row N W n w.heap.size ⟨some ⟨g,0,none⟩,rc⟩ l∧Mem C H D n N au W∧SB w.heap.size S w N W) ⟨(h.out.put ..),(o.out.other (by omega) ..),(z.out.other (by omega) ..),(aa.out.other (by omega) ..),(A.out.put h.out ..),(O.out.put h.out ..),(ax.out.put (by omega) ..)⟩ ?_
   clear a0 a1 a2 a3 a4 a5 a6 a7 a8 a9 L K af
   clear h o z aa ax O
   clear A
   rintro bm ⟨Y,V,X2,X3,R0,aZ,bc⟩
   have A:=zc R0
   clear R0
   have h:=zc Y
   have o:=zc V
   have z:=zc X2
   have aa:=zc X3
   have aL:=zc aZ
   have aM:=zc bc
   clear aZ bc Y V X2 X3
   have aH:Hid (_=zaf C q):=(zg3 (G:=fun b e=>zn C (zal b e)) aB.out aU.out).trans ((zjq aB.out (.inr hF)).trans aP.out.symm)
   go_wp2
   go_loopg [9] l.length (fun k i wr=>∃(j:Nat) (x':PR) (I:Sv) (X:PS) (z':Int),j≤l.length∧i= .int .i64 j∧Is x' X z'∧(z'<0→1≤X.pos)∧zR (fun e=>zn C (zal n8 e)) (l.drop j) x'=zaf C q∧l.length-j=k∧Mem C H D n I X wr∧SB w.heap.size S w I wr∧Bx H I wr w.heap.size #[.slice (some ⟨H,0,none⟩) C.ts.length D,.int .i64 X.pos,.int .i64 C.fin,.bool C.scr,.slice I.rq.a X.rq.length I.rq.cap,.slice I.im.a X.im.length I.im.cap,.slice I.ep.a X.ep.length I.ep.cap,.slice I.st.a X.st.length I.st.cap,.slice I.ex.a X.ex.length I.ex.cap,.slice I.la.a X.la.length I.la.cap,.int .i64 z',.int .i64 0]∧Bx H I wr (w.heap.size+1) #[.slice none 0 0,.int .i64 0,.int .i64 0,.bool false,.slice none 0 0,.slice none 0 0,.slice none 0 0,.slice none 0 0,.slice none 0 0,.slice none 0 0,.int .i64 0,.int .i64 0]∧Row I wr n w.heap.size ⟨some ⟨g,0,none⟩,rc⟩ l)
   case atStart=>exact⟨0,_,N,au,aD,Nat.zero_le _,rfl,U.out,zaZ U.out,aH.out,rfl,aL.out,aM.out,h.out,o.out,A.out⟩
   case round=>
    obtain⟨j,x9,S9,q9,z9,hj,rfl,i9,p9,e9,g9,m9,t9,Y,V,R0⟩:=hrel
    clear h o z aa A aL aM
    have h:=zc Y
    have o:=zc V
    have ac:=zc m9
    have ad:=zc t9
    have ae:=zc i9
    have aq:=zc p9
    have aw:=zc e9
    have ao:=zc g9
    have A:=zc R0
    clear Y V i9 m9 t9 e9 g9 R0 p9
    by_cases az:j<l.length
    ·skip
     obtain⟨c1,c2⟩:=A.out.cells (g:=g) rfl az
     have bi:=A.out.own.lt (g:=g) rfl
     have HX:Hid (∀e,e=l[j]→zR (fun e=>zn C (zal n8 e)) (l.drop (j+1)) (bd x9 (zn C (zal n8 e)))=zaf C q):=fun e he=>by rw[he,←aw.out];exact (zf2 (fun e=>zn C (zal n8 e)) l x9 az).symm
     generalize an:l[j]=el at c1 c2
     have aG:Hid (el=l[j]):=an.symm
     clear an
     obtain⟨a0,a1,a2,a3,a4,a5,a6,a7,a8,a9,L,K,af⟩:=h.out.box
     go_upto_region 16 with fail
     go_region_law (first|(go_simp;go_wp2_with (go_at_call 134;refine (zdn C H D n x9 S9 q9 z9 0 (zal n8 el) _ ae.out ac.out.drew aq.out).mono ?_;rintro e aC ⟨N,au,aD,rfl,ag,ab,M⟩;obtain⟨d0,d1,d2,d3,d4,d5,d6,d7,d8,d9,ai,aj,df⟩:=(h.out.stp M.undrew).box;unfold pv)))
     all_goals
      clear a0 a1 a2 a3 a4 a5 a6 a7 a8 a9 L K af d0 d1 d2 d3 d4 d5 d6 d7 d8 d9 ai aj df
      have U:=zc ag
      have O:=zc ab
      have E:Hid (Stp S9 wr N aC):=M.undrew
      clear ag ab M
      go_wp2
      go_roundg (gk-1)
      case rel=>exact⟨j+1,_,N,au,aD,by omega,by go_num,U.out,zg4 aq.out ae.out U.out,HX.out el aG.out,by have:=ao.out;omega,O.out.put (h.out.stp E.out) _ _ _ _ _ _ _ _ _ _ _ _,(ad.out.step E.out).put (by omega) _ _ _ _ _ _ _ _ _ _ _ _,(h.out.stp E.out).put _ _ _ _ _ _ _ _ _ _ _ _,(o.out.stp E.out).other (by omega) _ _ _ _ _ _ _ _ _ _ _ _,(A.out.stp E.out).put (h.out.stp E.out) _ _ _ _ _ _ _ _ _ _ _ _⟩
      case measure=>have:=ao.out;omega
    ·skip
     obtain⟨a0,a1,a2,a3,a4,a5,a6,a7,a8,a9,L,K,af⟩:=h.out.box
     obtain⟨b0,b1,b2,b3,b4,b5,b6,b7,b8,b9,bg,ba,bf⟩:=o.out.box
     go_wp2
     refine bodyPost_ret (results_cell_row rfl _ _ (w.heap.size+1) 53 _ (0,0) _ rfl ((o.out.put ..)).heap Tryz.underlying53 rfl (by kernel_rfl)) rfl ?_
     exact zW rfl (show Is (zaf C q) q9 z9 from by rw[←aw.out,List.drop_eq_nil_of_le (by omega)];exact ae.out) (ac.out.put o.out ..) (ad.out.put (by omega) ..)
  |false=>
   obtain⟨c0,c1,c2,c3,c4,c5,c6,c7,c8,c9,am,al,cf⟩:=z.out.box
   go_wp2_with fail
   refine (zg C H D n S4 q4 z4 0 1 zP _ aA.out.tok aI (by decide)).mono ?_
   rintro e w6 ⟨rfl,Z⟩
   rw[hF]
   replace h:=zc (h.out.below Z)
   replace o:=zc (o.out.below Z)
   replace z:=zc (z.out.below Z)
   have ar:=zc (aF.out.below Z)
   have ay:=zc (aA.out.later Z)
   have J:Hid (Row S4 w6 n w.heap.size ⟨some ⟨g,0,none⟩,rc⟩ l):=A.out.below Z
   clear A
   have A:=zc J
   clear J
   clear Z aF aA
   clear c0 c1 c2 c3 c4 c5 c6 c7 c8 c9 am al cf
   obtain⟨c0,c1,c2,c3,c4,c5,c6,c7,c8,c9,am,al,cf⟩:=z.out.box
   go_wp2_with fail
   refine (zab C H D n _ S4 q4 z4 0 cSemi _ aB.out.fst ay.out).mono ?_
   rintro e w7 ⟨S7,q7,z7,rfl,i7,m7,s7⟩
   replace h:=zc (h.out.stp s7)
   replace o:=zc (o.out.stp s7)
   replace z:=zc (z.out.stp s7)
   have ap:=zc (ar.out.step s7)
   have J:Hid (Row S7 w7 n w.heap.size ⟨some ⟨g,0,none⟩,rc⟩ l):=A.out.stp s7
   clear A
   have A:=zc J
   clear J
   clear ar
   have ah:=zc m7
   have aE:=zc i7
   clear i7 m7 s7 ay
   clear c0 c1 c2 c3 c4 c5 c6 c7 c8 c9 am al cf
   obtain⟨a0,a1,a2,a3,a4,a5,a6,a7,a8,a9,L,K,af⟩:=h.out.box
   unfold pv
   go_upto_region 6 with fail
   refine zJ (R:=fun W=>Bx H S7 W (w.heap.size) _∧Bx H S7 W (w.heap.size+1) _∧Bx H S7 W (w4.heap.size) _∧Row S7 W n w.heap.size ⟨some ⟨g,0,none⟩,rc⟩ l∧Mem C H D n S7 q7 W∧SB w.heap.size S w S7 W) ⟨(h.out.put ..),(o.out.other (by omega) ..),(z.out.other (by omega) ..),(A.out.put h.out ..),(ah.out.put h.out ..),(ap.out.put (by omega) ..)⟩ ?_
   clear a0 a1 a2 a3 a4 a5 a6 a7 a8 a9 L K af
   clear h o z ap ah
   clear A
   rintro w8 ⟨Y,V,X2,R0,m8,t8⟩
   have A:=zc R0
   clear R0
   have h:=zc Y
   have o:=zc V
   have z:=zc X2
   have ak:=zc m8
   have av:=zc t8
   clear m8 t8 Y V X2
   have aH:Hid (_=zaf C q):=(zp2 aB.out hA hF).trans aP.out.symm
   go_wp2
   go_loopg [6] l.length (fun k i wr=>∃(j:Nat) (x':PR) (I:Sv) (X:PS) (z':Int),j≤l.length∧i= .int .i64 j∧Is x' X z'∧(z'<0→1≤X.pos)∧zR (fun e=>zn C (zz e)) (l.drop j) x'=zaf C q∧l.length-j=k∧Mem C H D n I X wr∧SB w.heap.size S w I wr∧Bx H I wr w.heap.size #[.slice (some ⟨H,0,none⟩) C.ts.length D,.int .i64 X.pos,.int .i64 C.fin,.bool C.scr,.slice I.rq.a X.rq.length I.rq.cap,.slice I.im.a X.im.length I.im.cap,.slice I.ep.a X.ep.length I.ep.cap,.slice I.st.a X.st.length I.st.cap,.slice I.ex.a X.ex.length I.ex.cap,.slice I.la.a X.la.length I.la.cap,.int .i64 z',.int .i64 0]∧Bx H I wr (w.heap.size+1) #[.slice none 0 0,.int .i64 0,.int .i64 0,.bool false,.slice none 0 0,.slice none 0 0,.slice none 0 0,.slice none 0 0,.slice none 0 0,.slice none 0 0,.int .i64 0,.int .i64 0]∧Row I wr n w.heap.size ⟨some ⟨g,0,none⟩,rc⟩ l)
   case atStart=>exact⟨0,_,S7,q7,z7,Nat.zero_le _,rfl,aE.out,zaZ aE.out,aH.out,rfl,ak.out,av.out,h.out,o.out,A.out⟩
   case round=>
    obtain⟨j,x9,S9,q9,z9,hj,rfl,i9,p9,e9,g9,m9,t9,Y,V,R0⟩:=hrel
    clear h o z A ak av
    have h:=zc Y
    have o:=zc V
    have ac:=zc m9
    have ad:=zc t9
    have ae:=zc i9
    have aq:=zc p9
    have aw:=zc e9
    have ao:=zc g9
    have A:=zc R0
    clear Y V i9 m9 t9 e9 g9 R0 p9
    by_cases az:j<l.length
    ·skip
     obtain⟨c1,c2⟩:=A.out.cells (g:=g) rfl az
     have bi:=A.out.own.lt (g:=g) rfl
     have HX:Hid (∀e,e=l[j]→zR (fun e=>zn C (zz e)) (l.drop (j+1)) (bd x9 (zn C (zz e)))=zaf C q):=fun e he=>by rw[he,←aw.out];exact (zf2 (fun e=>zn C (zz e)) l x9 az).symm
     generalize an:l[j]=el at c1 c2
     have aG:Hid (el=l[j]):=an.symm
     clear an
     obtain⟨a0,a1,a2,a3,a4,a5,a6,a7,a8,a9,L,K,af⟩:=h.out.box
     go_upto_region 9 with fail
     go_region_law (first|(go_simp;go_wp2_with (go_at_call 134;refine (zdn C H D n x9 S9 q9 z9 0 (zz el) _ ae.out ac.out.drew aq.out).mono ?_;rintro e aC ⟨N,au,aD,rfl,ag,ab,M⟩;obtain⟨d0,d1,d2,d3,d4,d5,d6,d7,d8,d9,ai,aj,df⟩:=(h.out.stp M.undrew).box;unfold pv)))
     all_goals
      clear a0 a1 a2 a3 a4 a5 a6 a7 a8 a9 L K af d0 d1 d2 d3 d4 d5 d6 d7 d8 d9 ai aj df
      have U:=zc ag
      have O:=zc ab
      have E:Hid (Stp S9 wr N aC):=M.undrew
      clear ag ab M
      go_wp2
      go_roundg (gk-1)
      case rel=>exact⟨j+1,_,N,au,aD,by omega,by go_num,U.out,zg4 aq.out ae.out U.out,HX.out el aG.out,by have:=ao.out;omega,O.out.put (h.out.stp E.out) _ _ _ _ _ _ _ _ _ _ _ _,(ad.out.step E.out).put (by omega) _ _ _ _ _ _ _ _ _ _ _ _,(h.out.stp E.out).put _ _ _ _ _ _ _ _ _ _ _ _,(o.out.stp E.out).other (by omega) _ _ _ _ _ _ _ _ _ _ _ _,(A.out.stp E.out).put (h.out.stp E.out) _ _ _ _ _ _ _ _ _ _ _ _⟩
      case measure=>have:=ao.out;omega
    ·skip
     obtain⟨a0,a1,a2,a3,a4,a5,a6,a7,a8,a9,L,K,af⟩:=h.out.box
     obtain⟨b0,b1,b2,b3,b4,b5,b6,b7,b8,b9,bg,ba,bf⟩:=o.out.box
     go_wp2
     refine bodyPost_ret (results_cell_row rfl _ _ (w.heap.size+1) 53 _ (0,0) _ rfl ((o.out.put ..)).heap Tryz.underlying53 rfl (by kernel_rfl)) rfl ?_
     exact zW rfl (show Is (zaf C q) q9 z9 from by rw[←aw.out,List.drop_eq_nil_of_le (by omega)];exact ae.out) (ac.out.put o.out ..) (ad.out.put (by omega) ..)
theorem zp9 (C:Cx) (n j h:Nat) (S:Sv) (q:PS) (w:World) (z:Mem C n j h S q w) (o:isT C q.pos 1 zae=true):
  Calls Tryz.prog 70 #[pv C n j S q (-1) 0] w (Out C n j h (zaK C q) 0 S w):=by
 cases A:isT C (q.pos+1) 4 zF with
 |true=>exact zpx C n j h S q w z o A
 |false=>
  cases D:isT C (q.pos+1) 4 zv with
  |true=>exact zpu C n j h S q w z o A D
  |false=>
   cases E:zB C (q.pos+1) false with
   |true=>exact zpv C n j h S q w z o A D E
   |false=>exact zpw C n j h S q w z o A D E
theorem zpA (C:Cx) (n j h:Nat) (S:Sv) (q:PS) (w:World) (z:Mem C n j h S q w) (o:isT C q.pos 1 zad=true):
  Calls Tryz.prog 71 #[pv C n j S q (-1) 0] w (Out C n j h (zaf C q) 0 S w):=by
 cases A:isT C (q.pos+1) 4 zF with
 |true=>exact zp8 C n j h S q w z o A
 |false=>
  cases D:isT C (q.pos+1) 4 zv with
  |true=>exact zp3 C n j h S q w z o A D
  |false=>
   cases E:isT C (q.pos+1) 1 sDefault with
   |true=>exact zp4 C n j h S q w z o A D E
   |false=>
    cases H:isT C (q.pos+1) 1 zA with
    |true=>exact zp5 C n j h S q w z o A D E H
    |false=>
     cases I:isT C (q.pos+1) 1 zO with
     |true=>exact zp6 C n j h S q w z o A D E H I
     |false=>exact zp7 C n j h S q w z o A D E H I
theorem zjr {C:Cx} {x:PR} {n:ByteArray}:bd (bd (bd (bd x (zd C 4 cEq)) (pE C .sum 0)) (zd C 4 cSemi)) (zX C 3 n)=bd x fun q=>bd (bd (bd (bd (.ok q) (zd C 4 cEq)) (pE C .sum 0)) (zd C 4 cSemi)) (zX C 3 n):=by cases x<;>rfl
theorem zpB (A:List Tk) (h:Nat) (D z n:Nat) (S:Sv) (q:PS) (w:World) (V:Mem (Cx.mk A h true) D z n S q w) (h0:isT (Cx.mk A h true) q.pos 1 zA=true):
  Calls Tryz.prog 21 #[pv (Cx.mk A h true) D z S q (-1) 0] w (Out (Cx.mk A h true) D z n (zy (Cx.mk A h true) q) 0 S w):=by
 have HM:=zc V
 have E:=V.tok
 have N:(Cx.mk A h true).ts.length≤4000:=V.few
 clear V
 have HV:Hid (zy (Cx.mk A h true) q=zaG (zcm (Cx.mk A h true) q)):=by show zy (Cx.mk A h true) q=_;rw[zy,h0];rfl
 unfold pv
 go_enter Tryz.func21,Tryz.ntmps21
 go_wp2_with fail
 refine (zg (Cx.mk A h true) D z n S q (-1) 0 1 zA _ (zo (zo E _) _) N (by decide)).mono ?_
 rintro e w1 ⟨rfl,L⟩
 rw[h0]
 obtain⟨U,M,m1,t1⟩:=HM.out.two L
 have o:=zc U
 have j:=zc M
 have J:=zc m1
 have O:=zc t1
 clear U M m1 t1 L
 clear E
 obtain⟨a0,a1,a2,a3,a4,a5,a6,a7,a8,a9,ac,Z,af⟩:=o.out.box
 go_wp2_with fail
 refine (zg1 (Cx.mk A h true) D z n S q _ J.out).mono ?_
 rintro e w2 ⟨K,q2,z2,n2,rfl,i2,m2,X⟩
 replace o:=zc (o.out.stp X)
 replace j:=zc (j.out.stp X)
 have I:=zc (O.out.step X)
 clear O
 have H:=zc m2
 have Y:=zc i2
 clear i2 m2 X J
 clear a0 a1 a2 a3 a4 a5 a6 a7 a8 a9 ac Z af
 have ae:w.heap.size+1<w2.heap.size:=j.out.lt
 unfold pv
 go_upto_region 7 with fail
 refine zJ (R:=fun W=>Bx D K W (w.heap.size) _∧Bx D K W (w.heap.size+1) _∧Bx D K W (w2.heap.size) _∧Mem (Cx.mk A h true) D z n K q2 W∧SB w.heap.size S w K W) ⟨(o.out.alloc _),(j.out.alloc _),(Bx.new H.out _),(H.out.alloc _),(I.out.alloc _)⟩ ?_
 clear o j I H
 rintro w3 ⟨U,M,X2,m3,t3⟩
 have o:=zc U
 have j:=zc M
 have aa:=zc X2
 have ab:=zc m3
 have ad:=zc t3
 clear m3 t3 U M X2
 obtain⟨b0,b1,b2,b3,b4,b5,b6,b7,b8,b9,aj,ag,bf⟩:=j.out.box
 obtain⟨c0,c1,c2,c3,c4,c5,c6,c7,c8,c9,ai,ah,cf⟩:=aa.out.box
 go_wp2
 refine bodyPost_ret (results_cell_row rfl _ _ (w.heap.size+1) 53 _ (0,0) _ rfl ((j.out.put ..)).heap Tryz.underlying53 rfl (by kernel_rfl)) rfl ?_
 rw[HV.out]
 exact zW rfl Y.out.fst (ab.out.put j.out ..) (ad.out.put (by omega) ..)
theorem zpC (A:List Tk) (h:Nat) (E z n:Nat) (S:Sv) (q:PS) (w:World) (hm:Mem (Cx.mk A h true) E z n S q w) (h0:isT (Cx.mk A h true) q.pos 1 zA=false) (h1:isT (Cx.mk A h true) q.pos 1 zO=true):
  Calls Tryz.prog 21 #[pv (Cx.mk A h true) E z S q (-1) 0] w (Out (Cx.mk A h true) E z n (zy (Cx.mk A h true) q) 0 S w):=by
 have HM:=zc hm
 have I:=hm.tok
 have H:(Cx.mk A h true).ts.length≤4000:=hm.few
 clear hm
 have HV:Hid (zy (Cx.mk A h true) q=zaG (fnP (Cx.mk A h true) q)):=by show zy (Cx.mk A h true) q=_;rw[zy,h0,h1];rfl
 unfold pv
 go_enter Tryz.func21,Tryz.ntmps21
 go_wp2_with fail
 refine (zg (Cx.mk A h true) E z n S q (-1) 0 1 zA _ (zo (zo I _) _) H (by decide)).mono ?_
 rintro e w1 ⟨rfl,U⟩
 rw[h0]
 obtain⟨X0,V,m1,t1⟩:=HM.out.two U
 have o:=zc X0
 have j:=zc V
 have J:=zc m1
 have Y:=zc t1
 clear X0 V m1 t1 U
 clear I
 obtain⟨a0,a1,a2,a3,a4,a5,a6,a7,a8,a9,M,K,af⟩:=o.out.box
 go_wp2_with fail
 refine (zg (Cx.mk A h true) E z n S q (-1) 0 1 zO _ J.out.tok H (by decide)).mono ?_
 rintro e w2 ⟨rfl,D⟩
 rw[h1]
 replace o:=zc (o.out.below D)
 replace j:=zc (j.out.below D)
 have N:=zc (Y.out.below D)
 have Z:=zc (J.out.later D)
 clear D Y J
 clear a0 a1 a2 a3 a4 a5 a6 a7 a8 a9 M K af
 obtain⟨a0,a1,a2,a3,a4,a5,a6,a7,a8,a9,M,K,af⟩:=o.out.box
 go_wp2_with fail
 refine (zg2 (Cx.mk A h true) E z n S q _ Z.out).mono ?_
 rintro e w3 ⟨O,q3,z3,n3,rfl,i3,m3,s3⟩
 replace o:=zc (o.out.stp s3)
 replace j:=zc (j.out.stp s3)
 have X:=zc (N.out.step s3)
 clear N
 have L:=zc m3
 have ac:=zc i3
 clear i3 m3 s3 Z
 clear a0 a1 a2 a3 a4 a5 a6 a7 a8 a9 M K af
 have ae:w.heap.size+1<w3.heap.size:=j.out.lt
 unfold pv
 go_upto_region 10 with fail
 refine zJ (R:=fun W=>Bx E O W (w.heap.size) _∧Bx E O W (w.heap.size+1) _∧Bx E O W (w3.heap.size) _∧Mem (Cx.mk A h true) E z n O q3 W∧SB w.heap.size S w O W) ⟨(o.out.alloc _),(j.out.alloc _),(Bx.new L.out _),(L.out.alloc _),(X.out.alloc _)⟩ ?_
 clear o j X L
 rintro w4 ⟨X0,V,X2,m4,t4⟩
 have o:=zc X0
 have j:=zc V
 have ab:=zc X2
 have aa:=zc m4
 have ad:=zc t4
 clear m4 t4 X0 V X2
 obtain⟨b0,b1,b2,b3,b4,b5,b6,b7,b8,b9,aj,ag,bf⟩:=j.out.box
 obtain⟨c0,c1,c2,c3,c4,c5,c6,c7,c8,c9,ai,ah,cf⟩:=ab.out.box
 go_wp2
 refine bodyPost_ret (results_cell_row rfl _ _ (w.heap.size+1) 53 _ (0,0) _ rfl ((j.out.put ..)).heap Tryz.underlying53 rfl (by kernel_rfl)) rfl ?_
 rw[HV.out]
 exact zW rfl ac.out.fst (aa.out.put j.out ..) (ad.out.put (by omega) ..)
theorem zpD (A:List Tk) (h:Nat) (D z o:Nat) (S:Sv) (q:PS) (w:World) (hm:Mem (Cx.mk A h true) D z o S q w) (h0:isT (Cx.mk A h true) q.pos 1 zA=false) (h1:isT (Cx.mk A h true) q.pos 1 zO=false) (h2:isT (Cx.mk A h true) q.pos 1 zap=true):
  Calls Tryz.prog 21 #[pv (Cx.mk A h true) D z S q (-1) 0] w (Out (Cx.mk A h true) D z o (zy (Cx.mk A h true) q) 0 S w):=by
 have HM:=zc hm
 have N:=hm.tok
 have K:(Cx.mk A h true).ts.length≤4000:=hm.few
 clear hm
 have HV:Hid (zy (Cx.mk A h true) q=bd (bd (bd (bd (bd (bd (.ok q) (zd (Cx.mk A h true) 1 zap)) (zd (Cx.mk A h true) 4 zm)) (pE (Cx.mk A h true) .sum 0)) (zd (Cx.mk A h true) 4 zay)) (zd (Cx.mk A h true) 4 cSemi)) (zX (Cx.mk A h true) 4 sNone)):=by show zy (Cx.mk A h true) q=_;rw[zy,h0,h1,h2];rfl
 unfold pv
 go_enter Tryz.func21,Tryz.ntmps21
 go_wp2_with fail
 refine (zg (Cx.mk A h true) D z o S q (-1) 0 1 zA _ (zo (zo N _) _) K (by decide)).mono ?_
 rintro e w1 ⟨rfl,ad⟩
 rw[h0]
 obtain⟨X0,X1,m1,t1⟩:=HM.out.two ad
 have n:=zc X0
 have j:=zc X1
 have O:=zc m1
 have au:=zc t1
 clear X0 X1 m1 t1 ad
 clear N
 obtain⟨a0,a1,a2,a3,a4,a5,a6,Z,a8,a9,J,H,af⟩:=n.out.box
 go_wp2_with fail
 refine (zg (Cx.mk A h true) D z o S q (-1) 0 1 zO _ O.out.tok K (by decide)).mono ?_
 rintro e w2 ⟨rfl,E⟩
 rw[h1]
 replace n:=zc (n.out.below E)
 replace j:=zc (j.out.below E)
 have aa:=zc (au.out.below E)
 have V:=zc (O.out.later E)
 clear E au O
 clear a0 a1 a2 a3 a4 a5 a6 Z a8 a9 J H af
 obtain⟨a0,a1,a2,a3,a4,a5,a6,Z,a8,a9,J,H,af⟩:=n.out.box
 go_wp2_with fail
 refine (zg (Cx.mk A h true) D z o S q (-1) 0 1 zap _ V.out.tok K (by decide)).mono ?_
 rintro e w3 ⟨rfl,M⟩
 rw[h2]
 replace n:=zc (n.out.below M)
 replace j:=zc (j.out.below M)
 have ao:=zc (aa.out.below M)
 have ai:=zc (V.out.later M)
 clear M aa V
 clear a0 a1 a2 a3 a4 a5 a6 Z a8 a9 J H af
 obtain⟨a0,a1,a2,a3,a4,a5,a6,Z,a8,a9,J,H,af⟩:=n.out.box
 go_wp2_with fail
 refine (zaC (Cx.mk A h true) D z o (.ok q) S q (-1) 0 zap _ (zU q) ai.out).mono ?_
 rintro e w4 ⟨S4,q4,z4,rfl,i4,m4,s4⟩
 replace n:=zc (n.out.stp s4)
 replace j:=zc (j.out.stp s4)
 have aj:=zc (ao.out.step s4)
 clear ao
 have ac:=zc m4
 have aD:=zc i4
 clear i4 m4 s4 ai
 clear a0 a1 a2 a3 a4 a5 a6 Z a8 a9 J H af
 go_wp2_with fail
 refine (zab (Cx.mk A h true) D z o _ S4 q4 z4 0 zm _ aD.out ac.out).mono ?_
 rintro e w5 ⟨S5,q5,z5,rfl,i5,m5,s5⟩
 replace n:=zc (n.out.stp s5)
 replace j:=zc (j.out.stp s5)
 have am:=zc (aj.out.step s5)
 clear aj
 have aw:=zc m5
 have ay:=zc i5
 clear i5 m5 s5 ac
 go_wp2_with fail
 refine (zcE (Cx.mk A h true) D z o _ S5 q5 z5 _ ay.out aw.out).mono ?_
 rintro e w6 ⟨S6,q6,z6,rfl,i6,m6,s6⟩
 replace n:=zc (n.out.stp s6)
 replace j:=zc (j.out.stp s6)
 have ag:=zc (am.out.step s6)
 clear am
 have aq:=zc m6
 have az:=zc i6
 clear i6 m6 s6 aw
 go_wp2_with fail
 refine (zab (Cx.mk A h true) D z o _ S6 q6 z6 0 zay _ az.out aq.out).mono ?_
 rintro e w7 ⟨X,q7,z7,rfl,i7,m7,s7⟩
 replace n:=zc (n.out.stp s7)
 replace j:=zc (j.out.stp s7)
 have ab:=zc (ag.out.step s7)
 clear ag
 have U:=zc m7
 have aA:=zc i7
 clear i7 m7 s7 aq
 have aE:w.heap.size+1<w7.heap.size:=j.out.lt
 unfold pv
 go_upto_region 13 with fail
 refine zJ (R:=fun W=>Bx D X W (w.heap.size) _∧Bx D X W (w.heap.size+1) _∧Bx D X W (w7.heap.size) _∧Mem (Cx.mk A h true) D z o X q7 W∧SB w.heap.size S w X W) ⟨(n.out.alloc _),(j.out.alloc _),(Bx.new U.out _),(U.out.alloc _),(ab.out.alloc _)⟩ ?_
 clear n j ab U
 rintro w8 ⟨X0,X1,X2,m8,t8⟩
 have n:=zc X0
 have j:=zc X1
 have I:=zc X2
 have ae:=zc m8
 have ak:=zc t8
 clear m8 t8 X0 X1 X2
 obtain⟨c0,c1,c2,c3,c4,c5,c6,c7,c8,c9,aC,aB,cf⟩:=I.out.box
 go_wp2_with fail
 refine (zab (Cx.mk A h true) D z o _ X q7 z7 0 cSemi _ aA.out ae.out).mono ?_
 rintro e w9 ⟨S9,q9,z9,rfl,i9,m9,s9⟩
 replace n:=zc (n.out.stp s9)
 replace j:=zc (j.out.stp s9)
 replace I:=zc (I.out.stp s9)
 have av:=zc (ak.out.step s9)
 clear ak
 have ar:=zc m9
 have ax:=zc i9
 clear i9 m9 s9 ae
 clear c0 c1 c2 c3 c4 c5 c6 c7 c8 c9 aC aB cf
 go_wp2_with fail
 refine (zc4 (Cx.mk A h true) D z o _ S9 q9 z9 0 4 sNone _ ax.out ar.out (zaZ ax.out)).mono ?_
 rintro e aK ⟨aJ,aG,aF,rfl,Y,ah,L⟩
 replace n:=zc (n.out.stp L)
 replace j:=zc (j.out.stp L)
 replace I:=zc (I.out.stp L)
 have ap:=zc (av.out.step L)
 clear av
 have al:=zc ah
 have an:=zc Y
 clear Y ah L ar
 obtain⟨b0,b1,b2,b3,b4,b5,b6,b7,b8,b9,aI,aH,bf⟩:=j.out.box
 unfold pv
 go_wp2
 refine bodyPost_ret (results_cell_row rfl _ _ (w.heap.size+1) 53 _ (0,0) _ rfl ((j.out.put ..)).heap Tryz.underlying53 rfl (by kernel_rfl)) rfl ?_
 rw[HV.out]
 exact zW rfl an.out (al.out.put j.out ..) (ap.out.put (by omega) ..)
theorem zpE (z:List Tk) (h:Nat) (L A o:Nat) (S:Sv) (q:PS) (w:World) (hm:Mem (Cx.mk z h true) L A o S q w) (h0:isT (Cx.mk z h true) q.pos 1 zA=false) (h1:isT (Cx.mk z h true) q.pos 1 zO=false) (h2:isT (Cx.mk z h true) q.pos 1 zap=false) (h3:isT (Cx.mk z h true) q.pos 1 za0=true):
  Calls Tryz.prog 21 #[pv (Cx.mk z h true) L A S q (-1) 0] w (Out (Cx.mk z h true) L A o (zy (Cx.mk z h true) q) 0 S w):=by
 have HM:=zc hm
 have M:=hm.tok
 have H:(Cx.mk z h true).ts.length≤4000:=hm.few
 clear hm
 have HV:Hid (zy (Cx.mk z h true) q=bd (bd (bd (bd (.ok q) (zd (Cx.mk z h true) 1 za0)) (pE (Cx.mk z h true) .sum 0)) (zd (Cx.mk z h true) 4 cSemi)) (zX (Cx.mk z h true) 5 sNone)):=by show zy (Cx.mk z h true) q=_;rw[zy,h0,h1,h2,h3];rfl
 unfold pv
 go_enter Tryz.func21,Tryz.ntmps21
 go_wp2_with fail
 refine (zg (Cx.mk z h true) L A o S q (-1) 0 1 zA _ (zo (zo M _) _) H (by decide)).mono ?_
 rintro e w1 ⟨rfl,ag⟩
 rw[h0]
 obtain⟨X0,X1,m1,t1⟩:=HM.out.two ag
 have j:=zc X0
 have n:=zc X1
 have U:=zc m1
 have an:=zc t1
 clear X0 X1 m1 t1 ag
 clear M
 obtain⟨Y,a1,a2,X,V,a5,a6,N,a8,O,E,D,af⟩:=j.out.box
 go_wp2_with fail
 refine (zg (Cx.mk z h true) L A o S q (-1) 0 1 zO _ U.out.tok H (by decide)).mono ?_
 rintro e w2 ⟨rfl,I⟩
 rw[h1]
 replace j:=zc (j.out.below I)
 replace n:=zc (n.out.below I)
 have ab:=zc (an.out.below I)
 have aa:=zc (U.out.later I)
 clear I an U
 clear Y a1 a2 X V a5 a6 N a8 O E D af
 obtain⟨Y,a1,a2,X,V,a5,a6,N,a8,O,E,D,af⟩:=j.out.box
 go_wp2_with fail
 refine (zg (Cx.mk z h true) L A o S q (-1) 0 1 zap _ aa.out.tok H (by decide)).mono ?_
 rintro e w3 ⟨rfl,K⟩
 rw[h2]
 replace j:=zc (j.out.below K)
 replace n:=zc (n.out.below K)
 have al:=zc (ab.out.below K)
 have Z:=zc (aa.out.later K)
 clear K ab aa
 clear Y a1 a2 X V a5 a6 N a8 O E D af
 obtain⟨Y,a1,a2,X,V,a5,a6,N,a8,O,E,D,af⟩:=j.out.box
 go_wp2_with fail
 refine (zg (Cx.mk z h true) L A o S q (-1) 0 1 za0 _ Z.out.tok H (by decide)).mono ?_
 rintro e w4 ⟨rfl,J⟩
 rw[h3]
 replace j:=zc (j.out.below J)
 replace n:=zc (n.out.below J)
 have ai:=zc (al.out.below J)
 have ad:=zc (Z.out.later J)
 clear J al Z
 clear Y a1 a2 X V a5 a6 N a8 O E D af
 obtain⟨Y,a1,a2,X,V,a5,a6,N,a8,O,E,D,af⟩:=j.out.box
 go_wp2_with fail
 refine (zaC (Cx.mk z h true) L A o (.ok q) S q (-1) 0 za0 _ (zU q) ad.out).mono ?_
 rintro e w5 ⟨S5,q5,z5,rfl,i5,m5,s5⟩
 replace j:=zc (j.out.stp s5)
 replace n:=zc (n.out.stp s5)
 have ak:=zc (ai.out.step s5)
 clear ai
 have ao:=zc m5
 have ap:=zc i5
 clear i5 m5 s5 ad
 clear Y a1 a2 X V a5 a6 N a8 O E D af
 go_wp2_with fail
 refine (zcE (Cx.mk z h true) L A o _ S5 q5 z5 _ ap.out ao.out).mono ?_
 rintro e w6 ⟨S6,q6,z6,rfl,i6,m6,s6⟩
 replace j:=zc (j.out.stp s6)
 replace n:=zc (n.out.stp s6)
 have ah:=zc (ak.out.step s6)
 clear ak
 have am:=zc m6
 have ar:=zc i6
 clear i6 m6 s6 ao
 go_wp2_with fail
 refine (zab (Cx.mk z h true) L A o _ S6 q6 z6 0 cSemi _ ar.out am.out).mono ?_
 rintro e w7 ⟨S7,q7,z7,rfl,i7,m7,s7⟩
 replace j:=zc (j.out.stp s7)
 replace n:=zc (n.out.stp s7)
 have ac:=zc (ah.out.step s7)
 clear ah
 have ae:=zc m7
 have aj:=zc i7
 clear i7 m7 s7 am
 go_wp2_with fail
 refine (zc4 (Cx.mk z h true) L A o _ S7 q7 z7 0 5 sNone _ aj.out ae.out (zaZ aj.out)).mono ?_
 rintro e w8 ⟨S8,q8,z8,rfl,i8,m8,s8⟩
 replace j:=zc (j.out.stp s8)
 replace n:=zc (n.out.stp s8)
 have av:=zc (ac.out.step s8)
 clear ac
 have au:=zc m8
 have aq:=zc i8
 clear i8 m8 s8 ae
 obtain⟨b0,b1,b2,b3,b4,b5,b6,b7,b8,b9,ax,aw,bf⟩:=n.out.box
 unfold pv
 go_wp2
 refine bodyPost_ret (results_cell_row rfl _ _ (w.heap.size+1) 53 _ (0,0) _ rfl ((n.out.put ..)).heap Tryz.underlying53 rfl (by kernel_rfl)) rfl ?_
 rw[HV.out]
 exact zW rfl aq.out (au.out.put n.out ..) (av.out.put (by omega) ..)
theorem zpF (z:List Tk) (h:Nat) (I A o:Nat) (S:Sv) (q:PS) (w:World) (hm:Mem (Cx.mk z h true) I A o S q w) (h0:isT (Cx.mk z h true) q.pos 1 zA=false) (h1:isT (Cx.mk z h true) q.pos 1 zO=false) (h2:isT (Cx.mk z h true) q.pos 1 zap=false) (h3:isT (Cx.mk z h true) q.pos 1 za0=false) (h4:isT (Cx.mk z h true) q.pos 1 zby=true):
  Calls Tryz.prog 21 #[pv (Cx.mk z h true) I A S q (-1) 0] w (Out (Cx.mk z h true) I A o (zy (Cx.mk z h true) q) 0 S w):=by
 have HM:=zc hm
 have aa:=hm.tok
 have H:(Cx.mk z h true).ts.length≤4000:=hm.few
 clear hm
 have HV:Hid (zy (Cx.mk z h true) q=bd (bd (bd (bd (.ok q) (zd (Cx.mk z h true) 1 zby)) (pE (Cx.mk z h true) .sum 0)) (zd (Cx.mk z h true) 4 cSemi)) (zX (Cx.mk z h true) 6 sNone)):=by show zy (Cx.mk z h true) q=_;rw[zy,h0,h1,h2,h3,h4];rfl
 unfold pv
 go_enter Tryz.func21,Tryz.ntmps21
 go_wp2_with fail
 refine (zg (Cx.mk z h true) I A o S q (-1) 0 1 zA _ (zo (zo aa _) _) H (by decide)).mono ?_
 rintro e w1 ⟨rfl,ak⟩
 rw[h0]
 obtain⟨X0,X1,m1,t1⟩:=HM.out.two ak
 have j:=zc X0
 have n:=zc X1
 have ac:=zc m1
 have au:=zc t1
 clear X0 X1 m1 t1 ak
 clear aa
 obtain⟨X,a1,a2,V,U,Y,a6,N,Z,O,E,D,af⟩:=j.out.box
 go_wp2_with fail
 refine (zg (Cx.mk z h true) I A o S q (-1) 0 1 zO _ ac.out.tok H (by decide)).mono ?_
 rintro e w2 ⟨rfl,J⟩
 rw[h1]
 replace j:=zc (j.out.below J)
 replace n:=zc (n.out.below J)
 have ag:=zc (au.out.below J)
 have ae:=zc (ac.out.later J)
 clear J au ac
 clear X a1 a2 V U Y a6 N Z O E D af
 obtain⟨X,a1,a2,V,U,Y,a6,N,Z,O,E,D,af⟩:=j.out.box
 go_wp2_with fail
 refine (zg (Cx.mk z h true) I A o S q (-1) 0 1 zap _ ae.out.tok H (by decide)).mono ?_
 rintro e w3 ⟨rfl,M⟩
 rw[h2]
 replace j:=zc (j.out.below M)
 replace n:=zc (n.out.below M)
 have aq:=zc (ag.out.below M)
 have ad:=zc (ae.out.later M)
 clear M ag ae
 clear X a1 a2 V U Y a6 N Z O E D af
 obtain⟨X,a1,a2,V,U,Y,a6,N,Z,O,E,D,af⟩:=j.out.box
 go_wp2_with fail
 refine (zg (Cx.mk z h true) I A o S q (-1) 0 1 za0 _ ad.out.tok H (by decide)).mono ?_
 rintro e w4 ⟨rfl,L⟩
 rw[h3]
 replace j:=zc (j.out.below L)
 replace n:=zc (n.out.below L)
 have an:=zc (aq.out.below L)
 have ab:=zc (ad.out.later L)
 clear L aq ad
 clear X a1 a2 V U Y a6 N Z O E D af
 obtain⟨X,a1,a2,V,U,Y,a6,N,Z,O,E,D,af⟩:=j.out.box
 go_wp2_with fail
 refine (zg (Cx.mk z h true) I A o S q (-1) 0 1 zby _ ab.out.tok H (by decide)).mono ?_
 rintro e w5 ⟨rfl,K⟩
 rw[h4]
 replace j:=zc (j.out.below K)
 replace n:=zc (n.out.below K)
 have ap:=zc (an.out.below K)
 have av:=zc (ab.out.later K)
 clear K an ab
 clear X a1 a2 V U Y a6 N Z O E D af
 obtain⟨X,a1,a2,V,U,Y,a6,N,Z,O,E,D,af⟩:=j.out.box
 go_wp2_with fail
 refine (zaC (Cx.mk z h true) I A o (.ok q) S q (-1) 0 zby _ (zU q) av.out).mono ?_
 rintro e w6 ⟨S6,q6,z6,rfl,i6,m6,s6⟩
 replace j:=zc (j.out.stp s6)
 replace n:=zc (n.out.stp s6)
 have am:=zc (ap.out.step s6)
 clear ap
 have ar:=zc m6
 have aw:=zc i6
 clear i6 m6 s6 av
 clear X a1 a2 V U Y a6 N Z O E D af
 go_wp2_with fail
 refine (zcE (Cx.mk z h true) I A o _ S6 q6 z6 _ aw.out ar.out).mono ?_
 rintro e w7 ⟨S7,q7,z7,rfl,i7,m7,s7⟩
 replace j:=zc (j.out.stp s7)
 replace n:=zc (n.out.stp s7)
 have ah:=zc (am.out.step s7)
 clear am
 have ai:=zc m7
 have ax:=zc i7
 clear i7 m7 s7 ar
 go_wp2_with fail
 refine (zab (Cx.mk z h true) I A o _ S7 q7 z7 0 cSemi _ ax.out ai.out).mono ?_
 rintro e w8 ⟨S8,q8,z8,rfl,i8,m8,s8⟩
 replace j:=zc (j.out.stp s8)
 replace n:=zc (n.out.stp s8)
 have ao:=zc (ah.out.step s8)
 clear ah
 have al:=zc m8
 have aj:=zc i8
 clear i8 m8 s8 ai
 go_wp2_with fail
 refine (zc4 (Cx.mk z h true) I A o _ S8 q8 z8 0 6 sNone _ aj.out al.out (zaZ aj.out)).mono ?_
 rintro e w9 ⟨S9,q9,z9,rfl,i9,m9,s9⟩
 replace j:=zc (j.out.stp s9)
 replace n:=zc (n.out.stp s9)
 have az:=zc (ao.out.step s9)
 clear ao
 have ay:=zc m9
 have aA:=zc i9
 clear i9 m9 s9 al
 obtain⟨b0,b1,b2,b3,b4,b5,b6,b7,b8,b9,aC,aB,bf⟩:=n.out.box
 unfold pv
 go_wp2
 refine bodyPost_ret (results_cell_row rfl _ _ (w.heap.size+1) 53 _ (0,0) _ rfl ((n.out.put ..)).heap Tryz.underlying53 rfl (by kernel_rfl)) rfl ?_
 rw[HV.out]
 exact zW rfl aA.out (ay.out.put n.out ..) (az.out.put (by omega) ..)
theorem zpG (A:List Tk) (h:Nat) (K D z:Nat) (S:Sv) (q:PS) (w:World) (hm:Mem (Cx.mk A h true) K D z S q w) (h0:isT (Cx.mk A h true) q.pos 1 zA=false) (h1:isT (Cx.mk A h true) q.pos 1 zO=false) (h2:isT (Cx.mk A h true) q.pos 1 zap=false) (h3:isT (Cx.mk A h true) q.pos 1 za0=false) (h4:isT (Cx.mk A h true) q.pos 1 zby=false):
  Calls Tryz.prog 21 #[pv (Cx.mk A h true) K D S q (-1) 0] w (Out (Cx.mk A h true) K D z (zy (Cx.mk A h true) q) 0 S w):=by
 have HM:=zc hm
 have ad:=hm.tok
 have J:(Cx.mk A h true).ts.length≤4000:=hm.few
 clear hm
 have HV:Hid (zy (Cx.mk A h true) q=bd (bd (.ok q) (zh (Cx.mk A h true) false)) fun a=>bd (bd (bd (bd (.ok a.1) (zd (Cx.mk A h true) 4 cEq)) (pE (Cx.mk A h true) .sum 0)) (zd (Cx.mk A h true) 4 cSemi)) (zX (Cx.mk A h true) 3 a.2)):=by show zy (Cx.mk A h true) q=_;rw[zy,h0,h1,h2,h3,h4];rfl
 unfold pv
 go_enter Tryz.func21,Tryz.ntmps21
 go_wp2_with fail
 refine (zg (Cx.mk A h true) K D z S q (-1) 0 1 zA _ (zo (zo ad _) _) J (by decide)).mono ?_
 rintro e w1 ⟨rfl,ap⟩
 rw[h0]
 obtain⟨X0,X1,m1,t1⟩:=HM.out.two ap
 have j:=zc X0
 have o:=zc X1
 have ag:=zc m1
 have aE:=zc t1
 clear X0 X1 m1 t1 ap
 clear ad
 obtain⟨a0,a1,a2,a3,Z,a5,a6,X,a8,Y,I,E,af⟩:=j.out.box
 go_wp2_with fail
 refine (zg (Cx.mk A h true) K D z S q (-1) 0 1 zO _ ag.out.tok J (by decide)).mono ?_
 rintro e w2 ⟨rfl,L⟩
 rw[h1]
 replace j:=zc (j.out.below L)
 replace o:=zc (o.out.below L)
 have al:=zc (aE.out.below L)
 have aj:=zc (ag.out.later L)
 clear L aE ag
 clear a0 a1 a2 a3 Z a5 a6 X a8 Y I E af
 obtain⟨a0,a1,a2,a3,Z,a5,a6,X,a8,Y,I,E,af⟩:=j.out.box
 go_wp2_with fail
 refine (zg (Cx.mk A h true) K D z S q (-1) 0 1 zap _ aj.out.tok J (by decide)).mono ?_
 rintro e w3 ⟨rfl,V⟩
 rw[h2]
 replace j:=zc (j.out.below V)
 replace o:=zc (o.out.below V)
 have aB:=zc (al.out.below V)
 have ah:=zc (aj.out.later V)
 clear V al aj
 clear a0 a1 a2 a3 Z a5 a6 X a8 Y I E af
 obtain⟨a0,a1,a2,a3,Z,a5,a6,X,a8,Y,I,E,af⟩:=j.out.box
 go_wp2_with fail
 refine (zg (Cx.mk A h true) K D z S q (-1) 0 1 za0 _ ah.out.tok J (by decide)).mono ?_
 rintro e w4 ⟨rfl,N⟩
 rw[h3]
 replace j:=zc (j.out.below N)
 replace o:=zc (o.out.below N)
 have aw:=zc (aB.out.below N)
 have ae:=zc (ah.out.later N)
 clear N aB ah
 clear a0 a1 a2 a3 Z a5 a6 X a8 Y I E af
 obtain⟨a0,a1,a2,a3,Z,a5,a6,X,a8,Y,I,E,af⟩:=j.out.box
 go_wp2_with fail
 refine (zg (Cx.mk A h true) K D z S q (-1) 0 1 zby _ ae.out.tok J (by decide)).mono ?_
 rintro e w5 ⟨rfl,M⟩
 rw[h4]
 replace j:=zc (j.out.below M)
 replace o:=zc (o.out.below M)
 have aA:=zc (aw.out.below M)
 have aG:=zc (ae.out.later M)
 clear M aw ae
 clear a0 a1 a2 a3 Z a5 a6 X a8 Y I E af
 obtain⟨a0,a1,a2,a3,Z,a5,a6,X,a8,Y,I,E,af⟩:=j.out.box
 go_wp2_with fail
 refine (zaU (Cx.mk A h true) K D z (.ok q) S q (-1) 0 false _ (zU q) aG.out).mono ?_
 rintro e w6 ⟨S6,q6,z6,n6,rfl,i6,m6,s6⟩
 replace j:=zc (j.out.stp s6)
 replace o:=zc (o.out.stp s6)
 have ar:=zc (aA.out.step s6)
 clear aA
 have ai:=zc m6
 have ao:=zc i6
 clear i6 m6 s6 aG
 clear a0 a1 a2 a3 Z a5 a6 X a8 Y I E af
 have aP:w.heap.size+1<w6.heap.size:=o.out.lt
 unfold pv
 go_upto_region 19 with fail
 refine zJ (R:=fun W=>Bx K S6 W (w.heap.size) _∧Bx K S6 W (w.heap.size+1) _∧Bx K S6 W (w6.heap.size) _∧Mem (Cx.mk A h true) K D z S6 q6 W∧SB w.heap.size S w S6 W) ⟨(j.out.alloc _),(o.out.alloc _),(Bx.new ai.out _),(ai.out.alloc _),(ar.out.alloc _)⟩ ?_
 clear j o ar ai
 rintro w7 ⟨X0,X1,X2,m7,t7⟩
 have j:=zc X0
 have o:=zc X1
 have H:=zc X2
 have an:=zc m7
 have am:=zc t7
 clear m7 t7 X0 X1 X2
 obtain⟨c0,c1,c2,c3,c4,c5,c6,c7,c8,c9,aM,aL,cf⟩:=H.out.box
 go_wp2_with fail
 refine (zab (Cx.mk A h true) K D z _ S6 q6 z6 0 cEq _ ao.out.fst an.out).mono ?_
 rintro e w8 ⟨S8,q8,z8,rfl,i8,m8,s8⟩
 replace j:=zc (j.out.stp s8)
 replace o:=zc (o.out.stp s8)
 replace H:=zc (H.out.stp s8)
 have ax:=zc (am.out.step s8)
 clear am
 have aq:=zc m8
 have aJ:=zc i8
 clear i8 m8 s8 an
 clear c0 c1 c2 c3 c4 c5 c6 c7 c8 c9 aM aL cf
 go_wp2_with fail
 refine (zcE (Cx.mk A h true) K D z _ S8 q8 z8 _ aJ.out aq.out).mono ?_
 rintro e w9 ⟨S9,q9,z9,rfl,i9,m9,s9⟩
 replace j:=zc (j.out.stp s9)
 replace o:=zc (o.out.stp s9)
 replace H:=zc (H.out.stp s9)
 have aF:=zc (ax.out.step s9)
 clear ax
 have aD:=zc m9
 have aO:=zc i9
 clear i9 m9 s9 aq
 go_wp2_with fail
 refine (zab (Cx.mk A h true) K D z _ S9 q9 z9 0 cSemi _ aO.out aD.out).mono ?_
 rintro e aW ⟨aN,aK,aI,rfl,ak,au,U⟩
 replace j:=zc (j.out.stp U)
 replace o:=zc (o.out.stp U)
 replace H:=zc (H.out.stp U)
 have ac:=zc (aF.out.step U)
 clear aF
 have aa:=zc au
 have ab:=zc ak
 clear ak au U aD
 go_wp2_with fail
 refine (zc4 (Cx.mk A h true) K D z _ aN aK aI 0 3 n6 _ ab.out aa.out (zaZ ab.out)).mono ?_
 rintro e aT ⟨aU,aQ,aR,rfl,ay,av,O⟩
 replace j:=zc (j.out.stp O)
 replace o:=zc (o.out.stp O)
 replace H:=zc (H.out.stp O)
 have aH:=zc (ac.out.step O)
 clear ac
 have az:=zc av
 have aC:=zc ay
 clear ay av O aa
 obtain⟨b0,b1,b2,b3,b4,b5,b6,b7,b8,b9,aV,aS,bf⟩:=o.out.box
 unfold pv
 go_wp2
 refine bodyPost_ret (results_cell_row rfl _ _ (w.heap.size+1) 53 _ (0,0) _ rfl ((o.out.put ..)).heap Tryz.underlying53 rfl (by kernel_rfl)) rfl ?_
 rw[HV.out,←ao.out.bind (fun q n=>bd (bd (bd (bd (.ok q) (zd (Cx.mk A h true) 4 cEq)) (pE (Cx.mk A h true) .sum 0)) (zd (Cx.mk A h true) 4 cSemi)) (zX (Cx.mk A h true) 3 n)),←zjr]
 exact zW rfl aC.out (az.out.put o.out ..) (aH.out.put (by omega) ..)
theorem zpH (o:List Tk) (h:Nat) (z n j:Nat) (S:Sv) (q:PS) (w:World) (D:Mem (Cx.mk o h true) z n j S q w):
  Calls Tryz.prog 21 #[pv (Cx.mk o h true) z n S q (-1) 0] w (Out (Cx.mk o h true) z n j (zy (Cx.mk o h true) q) 0 S w):=by
 cases A:isT (Cx.mk o h true) q.pos 1 zA with
 |true=>exact zpB o h z n j S q w D A
 |false=>
  cases E:isT (Cx.mk o h true) q.pos 1 zO with
  |true=>exact zpC o h z n j S q w D A E
  |false=>
   cases H:isT (Cx.mk o h true) q.pos 1 zap with
   |true=>exact zpD o h z n j S q w D A E H
   |false=>
    cases I:isT (Cx.mk o h true) q.pos 1 za0 with
    |true=>exact zpE o h z n j S q w D A E H I
    |false=>
     cases J:isT (Cx.mk o h true) q.pos 1 zby with
     |true=>exact zpF o h z n j S q w D A E H I J
     |false=>
      exact zpG o h z n j S q w D A E H I J
end Go.Proofs.YticdggnnpjachaaGreat
