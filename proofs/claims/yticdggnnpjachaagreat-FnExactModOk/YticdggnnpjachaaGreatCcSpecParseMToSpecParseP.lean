/-
  What spec's l4Import answers: the walks.
  What spec's l4Export answers: the walks.
  What spec's l4Export answers to a list of names: the walks.
  What spec's l4Item answers: the walks.
-/
import Derived.Test.YticdggnnpjachaaGreatCcSpecRowToSpecParseK
namespace Go.Proofs.YticdggnnpjachaaGreat
set_option maxRecDepth 100000
set_option maxHeartbeats 6400000
open Go.RowKit Go.PlainAid
theorem zcF {C:Cx} {k:Int} {s:ByteArray} {q j:PS} {n:Int} (h:Is (bd (.ok q) (zd C k s)) j n) (o:isT C q.pos k s=true):j=adv q∧n= -1:=by
 rw[zx,zd,if_pos o] at h
 exact h
theorem ze7 {α:Type} (f:α→PS→PR) (l:List α) (e:Nat):zR f l (.error e)= .error e:=by
 induction l with
 |nil=>rfl
 |cons a l h=>exact h
theorem zf2 {α:Type} (f:α→PS→PR) (l:List α) (x:PR) {k:Nat} (h:k<l.length):zR f (l.drop k) x=zR f (l.drop (k+1)) (bd x (f (l[k]))):=by
 rw[List.drop_eq_getElem_cons h]
 rfl
theorem zjn {C:Cx} {h:PRN} {I A:PS} {z D:Int} {o n:ByteArray} {G:ByteArray→ByteArray→PS→PR} (E:Is2 h I z o) (j:Is2 (bd (bd (zaG h) (zd C 1 zP)) (zG C)) A D n):
  bd (bd (zaG (bd (bd (zaG h) (zd C 1 zP)) (zG C))) (zd C 4 cSemi)) (G n o)=bd h fun a=>bd (zaQ C (zaA C (.ok a.1))) fun b=>G b.2 a.2 b.1:=by
 cases h with
 |error e=>rfl
 |ok a=>
  obtain⟨_,_,rfl⟩:=E
  have H:bd (bd (zaG (.ok a)) (zd C 1 zP)) (zG C)=zaA C (.ok a.1):=rfl
  rw[H] at j ⊢
  rw[zx]
  cases w:zaA C (.ok a.1) with
  |error e=>rfl
  |ok b=>
   rw[w] at j
   obtain⟨_,_,rfl⟩:=j
   show bd (zd C 4 cSemi b.1) (G b.2 a.2)=bd (bd (zd C 4 cSemi b.1) fun q=>.ok (q,b.2)) fun b=>G b.2 a.2 b.1
   rw[zK]
   rfl
def ze8 (y:PRL):PR:=bd y fun a=>.ok a.1
theorem Is3.fst {y:PRL} {q:PS} {z:Int} {l:List Ep} (h:Is3 y q z l):Is (ze8 y) q z:=by
 cases y with
 |ok a=>exact⟨h.1,h.2.1⟩
 |error e=>exact h
theorem zg3 {C:Cx} {y:PRL} {H z:PS} {w A:Int} {l:List Ep} {j:ByteArray} {G:ByteArray→Ep→PS→PR} (D:Is3 y H w l) (h:Is2 (bd (bd (ze8 y) (zd C 1 zP)) (zG C)) z A j):
  zR (G j) l (bd (zaG (bd (bd (ze8 y) (zd C 1 zP)) (zG C))) (zd C 4 cSemi))=bd y fun a=>bd (zaQ C (zaA C (.ok a.1))) fun b=>zR (G b.2) a.2 (.ok b.1):=by
 cases y with
 |error e=>exact ze7 _ _ _
 |ok a=>
  obtain⟨_,_,rfl⟩:=D
  have E:bd (bd (ze8 (.ok a)) (zd C 1 zP)) (zG C)=zaA C (.ok a.1):=rfl
  rw[E] at h ⊢
  rw[zx]
  cases n:zaA C (.ok a.1) with
  |error e=>exact ze7 _ _ _
  |ok b=>
   rw[n] at h
   obtain⟨_,_,rfl⟩:=h
   show zR (G b.2) a.2 (bd (zaG (.ok b)) (zd C 4 cSemi))=bd (bd (zd C 4 cSemi b.1) fun q=>.ok (q,b.2)) fun b=>zR (G b.2) a.2 (.ok b.1)
   have o:bd (zaG (.ok b)) (zd C 4 cSemi)=zd C 4 cSemi b.1:=rfl
   rw[o,zK]
   cases zd C 4 cSemi b.1 with
   |error e=>exact ze7 _ _ _
   |ok c=>rfl
theorem Mem.drew {C:Cx} {o n j:Nat} {S:Sv} {q:PS} {w:World} (h:Mem C o n j S q w):Mem C o n j S q w.drew:=⟨⟨h.own.rq,h.own.im,h.own.ep,h.own.st,h.own.ex,h.own.la,h.own.apart⟩,h.inv,h.tok,h.few,h.base⟩
theorem Stp.undrew {S j:Sv} {w n:World} (h:Stp S w.drew j n):Stp S w j n:=⟨h.os,h.tape,h.output,h.size,h.block,h.sub⟩
theorem Row.cells {S:Sv} {w:World} {o B g:Nat} {r:Rw} {l:List Ep} (h:Row S w o B r l) (E:r.a=some ⟨g,0,none⟩) {j:Nat} (D:j<l.length):
  w.cell? ⟨g,j*4+1,none⟩=some (.string (l[j]).name)∧w.cell? ⟨g,j*4+2,none⟩=some (.string (l[j]).loc):=by
 have q:=h.own
 unfold OwnR at q
 rw[E] at q
 have n: ∀(l:List Ep) (i c:Nat) (A:c<4) (z:i<l.length),(l.flatMap epL)[i*4+c]? =(epL l[i])[c]?:=by
  intro l
  induction l with
  |nil=>intro i c _ z;simp at z
  |cons x l H=>
   intro i c A z
   match i with
   |0=>
    simp only[List.flatMap_cons,Nat.zero_mul,Nat.zero_add,List.getElem_cons_zero]
    rw[List.getElem?_append_left (by simp[epL];omega)]
   |i+1=>
    simp only[List.flatMap_cons,List.getElem_cons_succ]
    rw[List.getElem?_append_right (by simp[epL];omega)]
    have e:(i+1)*4+c-(epL x).length=i*4+c:=by simp[epL];omega
    rw[e]
    exact H i c A (by simpa using z)
 rw[q.cellAt _ (by omega),q.cellAt _ (by omega)]
 exact⟨n l j 1 (by omega) D,n l j 2 (by omega) D⟩
theorem zpt {C:Cx} {y:Im} {x:PR} {q q':PS} {z z':Int} (w:z<0→1≤q.pos) (A:Is x q z) (h:Is (bd x (zao C y)) q' z'):z'<0→1≤q'.pos:=by
 intro n
 obtain⟨e,_⟩:=za7 h n
 obtain⟨a,o,j⟩:=zi e
 subst o
 obtain⟨rfl,rfl⟩:=A
 unfold zao at j
 split at j
 ·cases j
 ·cases j
  exact w (by decide)
theorem zg4 {C:Cx} {y:Ep} {x:PR} {q q':PS} {z z':Int} (n:z<0→1≤q.pos) (A:Is x q z) (h:Is (bd x (zn C y)) q' z'):z'<0→1≤q'.pos:=by
 intro o
 obtain⟨e,_⟩:=za7 h o
 obtain⟨a,w,j⟩:=zi e
 subst w
 obtain⟨rfl,rfl⟩:=A
 unfold zn at j
 split at j
 ·cases j
 ·split at j
  ·cases j
   exact n (by decide)
  ·cases j
   exact n (by decide)
theorem zpu (C:Cx) (A o n:Nat) (S:Sv) (q:PS) (w:World) (hm:Mem C A o n S q w) (hw:isT C q.pos 1 zae=true) (h1:isT C (q.pos+1) 4 zF=false) (h2:isT C (q.pos+1) 4 zv=true):
  Calls Tryz.prog 70 #[pv C A o S q (-1) 0] w (Out C A o n (zaK C q) 0 S w):=by
 have HM:=zc hm
 have X:=hm.few
 clear hm
 have HV:Hid (zaK C q=bd (bd (bd (bd (.ok (adv q)) (zd C 4 zv)) (zd C 1 sAs)) (zh C false)) fun a=>bd (zaQ C (zaA C (.ok a.1))) fun b=>zao C ⟨b.2,zv,a.2⟩ b.1):=by
  show _=_
  rw[zaK,zd,if_pos hw,zx]
  rw[zw,h1,h2]
  rfl
 unfold pv
 go_enter Tryz.func70,Tryz.ntmps70
 go_wp2_with fail
 refine (zaC C A o n (.ok q) S q (-1) 0 zae _ (zU q) ((HM.out.alloc _).alloc _)).mono ?_
 rintro e w1 ⟨S1,q1,z1,rfl,i1,m1,s1⟩
 obtain⟨K,L,t1⟩:=HM.out.two2 s1
 have j:=zc K
 have h:=zc L
 have as:=zc m1
 have aO:=zc t1
 have aC:=zc i1
 clear K L i1 m1 t1 s1
 obtain⟨ak,rfl⟩:=zcF aC.out hw
 have HQ:=zc ak
 have al:Hid (q1.pos=q.pos+1):=by show q1.pos=q.pos+1;rw[ak];rfl
 clear ak aC
 obtain⟨a0,a1,a2,a3,a4,a5,a6,a7,a8,a9,D,E,af⟩:=j.out.box
 unfold pv
 go_upto_region 2 with fail
 refine zJ (R:=fun W=>Bx A S1 W (w.heap.size) _∧Bx A S1 W (w.heap.size+1) _∧Mem C A o n S1 q1 W∧SB w.heap.size S w S1 W) ⟨(j.out.put ..),(h.out.other (by omega) ..),(as.out.put j.out ..),(aO.out.put (by omega) ..)⟩ ?_
 clear a0 a1 a2 a3 a4 a5 a6 a7 a8 a9 D E af
 clear j h aO as
 rintro w2 ⟨K,L,m2,t2⟩
 have j:=zc K
 have h:=zc L
 have ag:=zc m2
 have aP:=zc t2
 clear m2 t2 K L
 obtain⟨a0,a1,a2,a3,a4,a5,a6,a7,a8,a9,D,E,af⟩:=j.out.box
 go_wp2_with fail
 refine (zg C A o n S1 q1 (-1) 0 4 zF _ ag.out.tok X (by decide)).mono ?_
 rintro e w3 ⟨rfl,O⟩
 rw[al.out,h1]
 replace j:=zc (j.out.below O)
 replace h:=zc (h.out.below O)
 have ao:=zc (aP.out.below O)
 have ai:=zc (ag.out.later O)
 clear O aP ag
 clear a0 a1 a2 a3 a4 a5 a6 a7 a8 a9 D E af
 obtain⟨a0,a1,a2,a3,a4,a5,a6,a7,a8,a9,D,E,af⟩:=j.out.box
 go_wp2_with fail
 refine (zg C A o n S1 q1 (-1) 0 4 zv _ ai.out.tok X (by decide)).mono ?_
 rintro e w4 ⟨rfl,M⟩
 rw[al.out,h2]
 replace j:=zc (j.out.below M)
 replace h:=zc (h.out.below M)
 have ay:=zc (ao.out.below M)
 have aE:=zc (ai.out.later M)
 clear M ao ai
 clear a0 a1 a2 a3 a4 a5 a6 a7 a8 a9 D E af
 obtain⟨a0,a1,a2,a3,a4,a5,a6,a7,a8,a9,D,E,af⟩:=j.out.box
 clear al
 go_wp2_with fail
 refine (zab C A o n (.ok q1) S1 q1 (-1) 0 zv _ (zU q1) aE.out).mono ?_
 rintro e w5 ⟨S5,q5,z5,rfl,i5,m5,s5⟩
 replace j:=zc (j.out.stp s5)
 replace h:=zc (h.out.stp s5)
 have aL:=zc (ay.out.step s5)
 clear ay
 have aA:=zc m5
 have ba:=zc i5
 clear i5 m5 s5 aE
 clear a0 a1 a2 a3 a4 a5 a6 a7 a8 a9 D E af
 go_wp2_with fail
 refine (zaC C A o n _ S5 q5 z5 0 sAs _ ba.out aA.out).mono ?_
 rintro e w6 ⟨S6,q6,z6,rfl,i6,m6,s6⟩
 replace j:=zc (j.out.stp s6)
 replace h:=zc (h.out.stp s6)
 have aI:=zc (aL.out.step s6)
 clear aL
 have aq:=zc m6
 have aV:=zc i6
 clear i6 m6 s6 aA
 go_wp2_with fail
 refine (zaU C A o n _ S6 q6 z6 0 false _ aV.out aq.out).mono ?_
 rintro e w7 ⟨S7,q7,z7,n7,rfl,i7,m7,s7⟩
 replace j:=zc (j.out.stp s7)
 replace h:=zc (h.out.stp s7)
 have aw:=zc (aI.out.step s7)
 clear aI
 have aj:=zc m7
 have ax:=zc i7
 clear i7 m7 s7 aq
 have be:w.heap.size+1<w7.heap.size:=h.out.lt
 unfold pv
 go_upto_region 13 with fail
 refine zJ (R:=fun W=>Bx A S7 W (w.heap.size) _∧Bx A S7 W (w.heap.size+1) _∧Bx A S7 W (w7.heap.size) _∧Mem C A o n S7 q7 W∧SB w.heap.size S w S7 W) ⟨(j.out.alloc _),(h.out.alloc _),(Bx.new aj.out _),(aj.out.alloc _),(aw.out.alloc _)⟩ ?_
 clear j h aw aj
 rintro w8 ⟨K,L,X2,m8,t8⟩
 have j:=zc K
 have h:=zc L
 have z:=zc X2
 have au:=zc m8
 have ar:=zc t8
 clear m8 t8 K L X2
 obtain⟨c0,c1,c2,c3,c4,c5,c6,c7,c8,c9,aW,bb,cf⟩:=z.out.box
 go_wp2_with fail
 refine (zaC C A o n _ S7 q7 z7 0 zP _ ax.out.fst au.out).mono ?_
 rintro e w9 ⟨S9,q9,z9,rfl,i9,m9,s9⟩
 replace j:=zc (j.out.stp s9)
 replace h:=zc (h.out.stp s9)
 replace z:=zc (z.out.stp s9)
 have am:=zc (ar.out.step s9)
 clear ar
 have aD:=zc m9
 have aT:=zc i9
 clear i9 m9 s9 au
 clear c0 c1 c2 c3 c4 c5 c6 c7 c8 c9 aW bb cf
 go_wp2_with fail
 refine (zdy C A o n _ S9 q9 z9 0 _ aT.out aD.out).mono ?_
 rintro e ah ⟨H,aH,aZ,bc,rfl,aJ,aM,V⟩
 replace j:=zc (j.out.stp V)
 replace h:=zc (h.out.stp V)
 replace z:=zc (z.out.stp V)
 have Y:=zc (am.out.step V)
 clear am
 have U:=zc aM
 have ad:=zc aJ
 clear aJ aM V aD
 have bg:w.heap.size+1<ah.heap.size:=h.out.lt
 have aQ:w7.heap.size<ah.heap.size:=z.out.lt
 unfold pv
 go_upto_region 14 with fail
 refine zJ (R:=fun W=>Bx A H W (w.heap.size) _∧Bx A H W (w.heap.size+1) _∧Bx A H W (w7.heap.size) _∧Bx A H W (ah.heap.size) _∧Mem C A o n H aH W∧SB w.heap.size S w H W) ⟨(j.out.alloc _),(h.out.alloc _),(z.out.alloc _),(Bx.new U.out _),(U.out.alloc _),(Y.out.alloc _)⟩ ?_
 clear j h z Y U
 rintro bo ⟨K,L,X2,X3,aK,an⟩
 have j:=zc K
 have h:=zc L
 have z:=zc X2
 have N:=zc X3
 have ac:=zc aK
 have Z:=zc an
 clear aK an K L X2 X3
 obtain⟨d0,d1,d2,d3,d4,d5,d6,d7,d8,d9,aS,aY,df⟩:=N.out.box
 go_wp2_with fail
 refine (zab C A o n _ H aH aZ 0 cSemi _ ad.out.fst ac.out).mono ?_
 rintro e bk ⟨aR,aX,aU,rfl,az,ap,I⟩
 replace j:=zc (j.out.stp I)
 replace h:=zc (h.out.stp I)
 replace z:=zc (z.out.stp I)
 replace N:=zc (N.out.stp I)
 have ae:=zc (Z.out.step I)
 clear Z
 have ab:=zc ap
 have aa:=zc az
 clear az ap I ac
 clear d0 d1 d2 d3 d4 d5 d6 d7 d8 d9 aS aY df
 go_wp2_with fail
 refine (zfR C A o n _ aR aX aU 0 ⟨bc,zv,n7⟩ _ aa.out ab.out (zaZ aa.out)).mono ?_
 rintro e bm ⟨bj,bl,bn,rfl,aB,aN,J⟩
 replace j:=zc (j.out.stp J)
 replace h:=zc (h.out.stp J)
 replace z:=zc (z.out.stp J)
 replace N:=zc (N.out.stp J)
 have aF:=zc (ae.out.step J)
 clear ae
 have aG:=zc aN
 have av:=zc aB
 clear aB aN J ab
 obtain⟨b0,b1,b2,b3,b4,b5,b6,b7,b8,b9,bi,bh,bf⟩:=h.out.box
 unfold pv
 go_wp2
 refine bodyPost_ret (results_cell_row rfl _ _ (w.heap.size+1) 53 _ (0,0) _ rfl ((h.out.put ..)).heap Tryz.underlying53 rfl (by kernel_rfl)) rfl ?_
 rw[HV.out,←HQ.out,←zjn (G:=fun b a=>zao C ⟨b,zv,a⟩) ax.out ad.out]
 exact zW rfl av.out (aG.out.put h.out ..) (aF.out.put (by omega) ..)
theorem zpv (C:Cx) (A o n:Nat) (S:Sv) (q:PS) (w:World) (hm:Mem C A o n S q w) (hw:isT C q.pos 1 zae=true) (h1:isT C (q.pos+1) 4 zF=false) (h2:isT C (q.pos+1) 4 zv=false) (h3:zB C (q.pos+1) false=true):
  Calls Tryz.prog 70 #[pv C A o S q (-1) 0] w (Out C A o n (zaK C q) 0 S w):=by
 have HM:=zc hm
 have K:=hm.few
 clear hm
 have HV:Hid (zaK C q=bd (bd (.ok (adv q)) (zh C false)) fun a=>bd (zaQ C (zaA C (.ok a.1))) fun b=>zao C ⟨b.2,sDefault,a.2⟩ b.1):=by
  show _=_
  rw[zaK,zd,if_pos hw,zx]
  rw[zw,h1,h2,h3]
  rfl
 unfold pv
 go_enter Tryz.func70,Tryz.ntmps70
 go_wp2_with fail
 refine (zaC C A o n (.ok q) S q (-1) 0 zae _ (zU q) ((HM.out.alloc _).alloc _)).mono ?_
 rintro e w1 ⟨S1,q1,z1,rfl,i1,m1,s1⟩
 obtain⟨J,L,t1⟩:=HM.out.two2 s1
 have h:=zc J
 have j:=zc L
 have as:=zc m1
 have aL:=zc t1
 have aB:=zc i1
 clear J L i1 m1 t1 s1
 obtain⟨am,rfl⟩:=zcF aB.out hw
 have HQ:=zc am
 have aa:Hid (q1.pos=q.pos+1):=by show q1.pos=q.pos+1;rw[am];rfl
 clear am aB
 obtain⟨Z,a1,a2,a3,a4,a5,V,Y,a8,a9,D,E,X⟩:=h.out.box
 unfold pv
 go_upto_region 2 with fail
 refine zJ (R:=fun W=>Bx A S1 W (w.heap.size) _∧Bx A S1 W (w.heap.size+1) _∧Mem C A o n S1 q1 W∧SB w.heap.size S w S1 W) ⟨(h.out.put ..),(j.out.other (by omega) ..),(as.out.put h.out ..),(aL.out.put (by omega) ..)⟩ ?_
 clear Z a1 a2 a3 a4 a5 V Y a8 a9 D E X
 clear h j aL as
 rintro w2 ⟨J,L,m2,t2⟩
 have h:=zc J
 have j:=zc L
 have ah:=zc m2
 have aM:=zc t2
 clear m2 t2 J L
 obtain⟨Z,a1,a2,a3,a4,a5,V,Y,a8,a9,D,E,X⟩:=h.out.box
 go_wp2_with fail
 refine (zg C A o n S1 q1 (-1) 0 4 zF _ ah.out.tok K (by decide)).mono ?_
 rintro e w3 ⟨rfl,U⟩
 rw[aa.out,h1]
 replace h:=zc (h.out.below U)
 replace j:=zc (j.out.below U)
 have ap:=zc (aM.out.below U)
 have al:=zc (ah.out.later U)
 clear U aM ah
 clear Z a1 a2 a3 a4 a5 V Y a8 a9 D E X
 obtain⟨Z,a1,a2,a3,a4,a5,V,Y,a8,a9,D,E,X⟩:=h.out.box
 go_wp2_with fail
 refine (zg C A o n S1 q1 (-1) 0 4 zv _ al.out.tok K (by decide)).mono ?_
 rintro e w4 ⟨rfl,M⟩
 rw[aa.out,h2]
 replace h:=zc (h.out.below M)
 replace j:=zc (j.out.below M)
 have aw:=zc (ap.out.below M)
 have ak:=zc (al.out.later M)
 clear M ap al
 clear Z a1 a2 a3 a4 a5 V Y a8 a9 D E X
 obtain⟨Z,a1,a2,a3,a4,a5,V,Y,a8,a9,D,E,X⟩:=h.out.box
 go_wp2_with fail
 refine (zeV C A o n S1 q1 (-1) 0 false _ ak.out.tok K).mono ?_
 rintro e w5 ⟨rfl,N⟩
 rw[aa.out,h3]
 replace h:=zc (h.out.below N)
 replace j:=zc (j.out.below N)
 have aH:=zc (aw.out.below N)
 have aA:=zc (ak.out.later N)
 clear N aw ak
 clear Z a1 a2 a3 a4 a5 V Y a8 a9 D E X
 obtain⟨Z,a1,a2,a3,a4,a5,V,Y,a8,a9,D,E,X⟩:=h.out.box
 clear aa
 go_wp2_with fail
 refine (zaU C A o n (.ok q1) S1 q1 (-1) 0 false _ (zU q1) aA.out).mono ?_
 rintro e w6 ⟨S6,q6,z6,n6,rfl,i6,m6,s6⟩
 replace h:=zc (h.out.stp s6)
 replace j:=zc (j.out.stp s6)
 have aE:=zc (aH.out.step s6)
 clear aH
 have ai:=zc m6
 have ax:=zc i6
 clear i6 m6 s6 aA
 clear Z a1 a2 a3 a4 a5 V Y a8 a9 D E X
 have aW:w.heap.size+1<w6.heap.size:=j.out.lt
 unfold pv
 go_upto_region 17 with fail
 refine zJ (R:=fun W=>Bx A S6 W (w.heap.size) _∧Bx A S6 W (w.heap.size+1) _∧Bx A S6 W (w6.heap.size) _∧Mem C A o n S6 q6 W∧SB w.heap.size S w S6 W) ⟨(h.out.alloc _),(j.out.alloc _),(Bx.new ai.out _),(ai.out.alloc _),(aE.out.alloc _)⟩ ?_
 clear h j aE ai
 rintro w7 ⟨J,L,X2,m7,t7⟩
 have h:=zc J
 have j:=zc L
 have z:=zc X2
 have aF:=zc m7
 have av:=zc t7
 clear m7 t7 J L X2
 obtain⟨c0,c1,c2,c3,c4,c5,c6,c7,c8,c9,aP,aU,cf⟩:=z.out.box
 go_wp2_with fail
 refine (zaC C A o n _ S6 q6 z6 0 zP _ ax.out.fst aF.out).mono ?_
 rintro e w8 ⟨S8,q8,z8,rfl,i8,m8,s8⟩
 replace h:=zc (h.out.stp s8)
 replace j:=zc (j.out.stp s8)
 replace z:=zc (z.out.stp s8)
 have ar:=zc (av.out.step s8)
 clear av
 have au:=zc m8
 have aQ:=zc i8
 clear i8 m8 s8 aF
 clear c0 c1 c2 c3 c4 c5 c6 c7 c8 c9 aP aU cf
 go_wp2_with fail
 refine (zdy C A o n _ S8 q8 z8 0 _ aQ.out au.out).mono ?_
 rintro e w9 ⟨S9,q9,z9,n9,rfl,i9,m9,s9⟩
 replace h:=zc (h.out.stp s9)
 replace j:=zc (j.out.stp s9)
 replace z:=zc (z.out.stp s9)
 have an:=zc (ar.out.step s9)
 clear ar
 have aj:=zc m9
 have ao:=zc i9
 clear i9 m9 s9 au
 have aX:w.heap.size+1<w9.heap.size:=j.out.lt
 have aN:w6.heap.size<w9.heap.size:=z.out.lt
 unfold pv
 go_upto_region 18 with fail
 refine zJ (R:=fun W=>Bx A S9 W (w.heap.size) _∧Bx A S9 W (w.heap.size+1) _∧Bx A S9 W (w6.heap.size) _∧Bx A S9 W (w9.heap.size) _∧Mem C A o n S9 q9 W∧SB w.heap.size S w S9 W) ⟨(h.out.alloc _),(j.out.alloc _),(z.out.alloc _),(Bx.new aj.out _),(aj.out.alloc _),(an.out.alloc _)⟩ ?_
 clear h j z an aj
 rintro be ⟨J,L,X2,X3,aJ,aD⟩
 have h:=zc J
 have j:=zc L
 have z:=zc X2
 have O:=zc X3
 have ag:=zc aJ
 have ab:=zc aD
 clear aJ aD J L X2 X3
 obtain⟨d0,d1,d2,d3,d4,d5,d6,d7,d8,d9,aO,aR,df⟩:=O.out.box
 go_wp2_with fail
 refine (zab C A o n _ S9 q9 z9 0 cSemi _ ao.out.fst ag.out).mono ?_
 rintro e bh ⟨aS,aT,aV,rfl,aK,aG,H⟩
 replace h:=zc (h.out.stp H)
 replace j:=zc (j.out.stp H)
 replace z:=zc (z.out.stp H)
 replace O:=zc (O.out.stp H)
 have ac:=zc (ab.out.step H)
 clear ab
 have ae:=zc aG
 have ad:=zc aK
 clear aK aG H ag
 clear d0 d1 d2 d3 d4 d5 d6 d7 d8 d9 aO aR df
 go_wp2_with fail
 refine (zfR C A o n _ aS aT aV 0 ⟨n9,sDefault,n6⟩ _ ad.out ae.out (zaZ ad.out)).mono ?_
 rintro e bc ⟨aY,bg,bb,rfl,ay,aq,I⟩
 replace h:=zc (h.out.stp I)
 replace j:=zc (j.out.stp I)
 replace z:=zc (z.out.stp I)
 replace O:=zc (O.out.stp I)
 have aI:=zc (ac.out.step I)
 clear ac
 have aC:=zc aq
 have az:=zc ay
 clear ay aq I ae
 obtain⟨b0,b1,b2,b3,b4,b5,b6,b7,b8,b9,ba,aZ,bf⟩:=j.out.box
 unfold pv
 go_wp2
 refine bodyPost_ret (results_cell_row rfl _ _ (w.heap.size+1) 53 _ (0,0) _ rfl ((j.out.put ..)).heap Tryz.underlying53 rfl (by kernel_rfl)) rfl ?_
 rw[HV.out,←HQ.out,←zjn (G:=fun b a=>zao C ⟨b,sDefault,a⟩) ax.out ao.out]
 exact zW rfl az.out (aC.out.put j.out ..) (aI.out.put (by omega) ..)
theorem zpw (C:Cx) (D o n:Nat) (S:Sv) (q:PS) (w:World) (hm:Mem C D o n S q w) (hw:isT C q.pos 1 zae=true) (h1:isT C (q.pos+1) 4 zF=false) (h2:isT C (q.pos+1) 4 zv=false) (h3:zB C (q.pos+1) false=false):
  Calls Tryz.prog 70 #[pv C D o S q (-1) 0] w (Out C D o n (zaK C q) 0 S w):=by
 have HM:=zc hm
 have E:=hm.few
 clear hm
 have HV:Hid (zaK C q=bd (bd (.ok (adv q)) (zG C)) fun a=>zd C 4 cSemi a.1):=by
  show _=_
  rw[zaK,zd,if_pos hw,zx]
  rw[zw,h1,h2,h3]
  rfl
 unfold pv
 go_enter Tryz.func70,Tryz.ntmps70
 go_wp2_with fail
 refine (zaC C D o n (.ok q) S q (-1) 0 zae _ (zU q) ((HM.out.alloc _).alloc _)).mono ?_
 rintro e w1 ⟨S1,q1,z1,rfl,i1,m1,s1⟩
 obtain⟨X0,X1,t1⟩:=HM.out.two2 s1
 have h:=zc X0
 have j:=zc X1
 have ai:=zc m1
 have ar:=zc t1
 have an:=zc i1
 clear X0 X1 i1 m1 t1 s1
 obtain⟨ag,rfl⟩:=zcF an.out hw
 have HQ:=zc ag
 have Y:Hid (q1.pos=q.pos+1):=by show q1.pos=q.pos+1;rw[ag];rfl
 clear ag an
 obtain⟨N,U,V,O,a4,X,K,M,Z,a9,z,A,L⟩:=h.out.box
 unfold pv
 go_upto_region 2 with fail
 refine zJ (R:=fun W=>Bx D S1 W (w.heap.size) _∧Bx D S1 W (w.heap.size+1) _∧Mem C D o n S1 q1 W∧SB w.heap.size S w S1 W) ⟨(h.out.put ..),(j.out.other (by omega) ..),(ai.out.put h.out ..),(ar.out.put (by omega) ..)⟩ ?_
 clear N U V O a4 X K M Z a9 z A L
 clear h j ar ai
 rintro w2 ⟨X0,X1,m2,t2⟩
 have h:=zc X0
 have j:=zc X1
 have ab:=zc m2
 have as:=zc t2
 clear m2 t2 X0 X1
 obtain⟨N,U,V,O,a4,X,K,M,Z,a9,z,A,L⟩:=h.out.box
 go_wp2_with fail
 refine (zg C D o n S1 q1 (-1) 0 4 zF _ ab.out.tok E (by decide)).mono ?_
 rintro e w3 ⟨rfl,J⟩
 rw[Y.out,h1]
 replace h:=zc (h.out.below J)
 replace j:=zc (j.out.below J)
 have ah:=zc (as.out.below J)
 have ae:=zc (ab.out.later J)
 clear J as ab
 clear N U V O a4 X K M Z a9 z A L
 obtain⟨N,U,V,O,a4,X,K,M,Z,a9,z,A,L⟩:=h.out.box
 go_wp2_with fail
 refine (zg C D o n S1 q1 (-1) 0 4 zv _ ae.out.tok E (by decide)).mono ?_
 rintro e w4 ⟨rfl,H⟩
 rw[Y.out,h2]
 replace h:=zc (h.out.below H)
 replace j:=zc (j.out.below H)
 have ak:=zc (ah.out.below H)
 have ad:=zc (ae.out.later H)
 clear H ah ae
 clear N U V O a4 X K M Z a9 z A L
 obtain⟨N,U,V,O,a4,X,K,M,Z,a9,z,A,L⟩:=h.out.box
 go_wp2_with fail
 refine (zeV C D o n S1 q1 (-1) 0 false _ ad.out.tok E).mono ?_
 rintro e w5 ⟨rfl,I⟩
 rw[Y.out,h3]
 replace h:=zc (h.out.below I)
 replace j:=zc (j.out.below I)
 have aq:=zc (ak.out.below I)
 have am:=zc (ad.out.later I)
 clear I ak ad
 clear N U V O a4 X K M Z a9 z A L
 obtain⟨N,U,V,O,a4,X,K,M,Z,a9,z,A,L⟩:=h.out.box
 clear Y
 go_wp2_with fail
 refine (zdy C D o n (.ok q1) S1 q1 (-1) 0 _ (zU q1) am.out).mono ?_
 rintro e w6 ⟨S6,q6,z6,n6,rfl,i6,m6,s6⟩
 replace h:=zc (h.out.stp s6)
 replace j:=zc (j.out.stp s6)
 have ao:=zc (aq.out.step s6)
 clear aq
 have ac:=zc m6
 have al:=zc i6
 clear i6 m6 s6 am
 clear N U V O a4 X K M Z a9 z A L
 have az:w.heap.size+1<w6.heap.size:=j.out.lt
 unfold pv
 go_upto_region 20 with fail
 refine zJ (R:=fun W=>Bx D S6 W (w.heap.size) _∧Bx D S6 W (w.heap.size+1) _∧Bx D S6 W (w6.heap.size) _∧Mem C D o n S6 q6 W∧SB w.heap.size S w S6 W) ⟨(h.out.alloc _),(j.out.alloc _),(Bx.new ac.out _),(ac.out.alloc _),(ao.out.alloc _)⟩ ?_
 clear h j ao ac
 rintro w7 ⟨X0,X1,X2,m7,t7⟩
 have h:=zc X0
 have j:=zc X1
 have aa:=zc X2
 have ap:=zc m7
 have aj:=zc t7
 clear m7 t7 X0 X1 X2
 obtain⟨c0,c1,c2,c3,c4,c5,c6,c7,c8,c9,aw,ay,cf⟩:=aa.out.box
 go_wp2_with fail
 refine (zab C D o n _ S6 q6 z6 0 cSemi _ al.out.fst ap.out).mono ?_
 rintro e w8 ⟨S8,q8,z8,rfl,i8,m8,s8⟩
 replace h:=zc (h.out.stp s8)
 replace j:=zc (j.out.stp s8)
 replace aa:=zc (aa.out.stp s8)
 have au:=zc (aj.out.step s8)
 clear aj
 have av:=zc m8
 have ax:=zc i8
 clear i8 m8 s8 ap
 clear c0 c1 c2 c3 c4 c5 c6 c7 c8 c9 aw ay cf
 obtain⟨b0,b1,b2,b3,b4,b5,b6,b7,b8,b9,aB,aA,bf⟩:=j.out.box
 unfold pv
 go_wp2
 refine bodyPost_ret (results_cell_row rfl _ _ (w.heap.size+1) 53 _ (0,0) _ rfl ((j.out.put ..)).heap Tryz.underlying53 rfl (by kernel_rfl)) rfl ?_
 rw[HV.out,←HQ.out,←al.out.bind (fun q _=>zd C 4 cSemi q)]
 exact zW rfl ax.out (av.out.put j.out ..) (au.out.put (by omega) ..)
theorem zpx (C:Cx) (D z n:Nat) (S:Sv) (q:PS) (w:World) (hm:Mem C D z n S q w) (hw:isT C q.pos 1 zae=true) (h1:isT C (q.pos+1) 4 zF=true):
  Calls Tryz.prog 70 #[pv C D z S q (-1) 0] w (Out C D z n (zaK C q) 0 S w):=by
 have HM:=zc hm
 have ap:=hm.few
 clear hm
 have HV:Hid (zaK C q=bd (zcz C false (adv q)) fun a=>bd (zaQ C (zaA C (.ok a.1))) fun b=>zR (fun e=>zao C (zb8 b.2 e)) a.2 (.ok b.1)):=by
  show _=_
  rw[zaK,zd,if_pos hw,zx]
  rw[zw,h1]
  rfl
 unfold pv
 go_enter Tryz.func70,Tryz.ntmps70
 go_wp2_with fail
 refine (zaC C D z n (.ok q) S q (-1) 0 zae _ (zU q) ((HM.out.alloc _).alloc _)).mono ?_
 rintro e w1 ⟨S1,q1,z1,rfl,i1,m1,s1⟩
 obtain⟨K,L,t1⟩:=HM.out.two2 s1
 have h:=zc K
 have o:=zc L
 have au:=zc m1
 have aL:=zc t1
 have aC:=zc i1
 clear K L i1 m1 t1 s1
 obtain⟨al,rfl⟩:=zcF aC.out hw
 have HQ:=zc al
 have aK:Hid (q1.pos=q.pos+1):=by show q1.pos=q.pos+1;rw[al];rfl
 clear al aC
 obtain⟨a0,a1,a2,a3,a4,a5,a6,a7,a8,a9,H,I,af⟩:=h.out.box
 unfold pv
 go_upto_region 2 with fail
 refine zJ (R:=fun W=>Bx D S1 W (w.heap.size) _∧Bx D S1 W (w.heap.size+1) _∧Mem C D z n S1 q1 W∧SB w.heap.size S w S1 W) ⟨(h.out.put ..),(o.out.other (by omega) ..),(au.out.put h.out ..),(aL.out.put (by omega) ..)⟩ ?_
 clear a0 a1 a2 a3 a4 a5 a6 a7 a8 a9 H I af
 clear h o aL au
 rintro w2 ⟨K,L,m2,t2⟩
 have h:=zc K
 have o:=zc L
 have ae:=zc m2
 have aM:=zc t2
 clear m2 t2 K L
 obtain⟨a0,a1,a2,a3,a4,a5,a6,a7,a8,a9,H,I,af⟩:=h.out.box
 go_wp2_with fail
 refine (zg C D z n S1 q1 (-1) 0 4 zF _ ae.out.tok ap (by decide)).mono ?_
 rintro e w3 ⟨rfl,ab⟩
 rw[aK.out,h1]
 replace h:=zc (h.out.below ab)
 replace o:=zc (o.out.below ab)
 have ah:=zc (aM.out.below ab)
 have aE:=zc (ae.out.later ab)
 clear ab aM ae
 clear a0 a1 a2 a3 a4 a5 a6 a7 a8 a9 H I af
 obtain⟨a0,a1,a2,a3,a4,a5,a6,a7,a8,a9,H,I,af⟩:=h.out.box
 clear aK
 have aS:=ah.out.size
 go_wp2_with fail
 refine (ziZ C D z n S1 q1 0 false _ aE.out).mono ?_
 rintro e w4 ⟨S4,q4,z4,⟨ra,rc⟩,l,rfl,i4,m4,s4,R0,hl⟩
 obtain⟨g,rfl⟩: ∃g,ra=some ⟨g,0,none⟩:=R0.addr
 replace h:=zc (h.out.stp s4)
 replace o:=zc (o.out.stp s4)
 have aA:=zc (ah.out.step s4)
 clear ah
 have ai:=zc m4
 have ao:=zc i4
 clear i4 m4 s4 aE
 clear a0 a1 a2 a3 a4 a5 a6 a7 a8 a9 H I af
 have E:Hid (Row S4 w4 n w.heap.size ⟨some ⟨g,0,none⟩,rc⟩ l):=⟨R0.own,R0.free,fun k hk=>Nat.le_trans aS (R0.new k hk),R0.addr⟩
 clear R0
 have aX:w.heap.size+1<w4.heap.size:=o.out.lt
 unfold pv
 go_upto_region 4 with fail
 refine zJ (R:=fun W=>Bx D S4 W (w.heap.size) _∧Bx D S4 W (w.heap.size+1) _∧Bx D S4 W (w4.heap.size) _∧Row S4 W n w.heap.size ⟨some ⟨g,0,none⟩,rc⟩ l∧Mem C D z n S4 q4 W∧SB w.heap.size S w S4 W) ⟨(h.out.alloc _),(o.out.alloc _),(Bx.new ai.out _),(E.out.alloc _),(ai.out.alloc _),(aA.out.alloc _)⟩ ?_
 clear h o aA ai
 clear E
 rintro w5 ⟨K,L,X2,R0,m5,t5⟩
 have E:=zc R0
 clear R0
 have h:=zc K
 have o:=zc L
 have A:=zc X2
 have aB:=zc m5
 have aJ:=zc t5
 clear m5 t5 K L X2
 obtain⟨c0,c1,c2,c3,c4,c5,c6,c7,c8,c9,aT,aW,cf⟩:=A.out.box
 go_wp2_with fail
 refine (zaC C D z n _ S4 q4 z4 0 zP _ ao.out.fst aB.out).mono ?_
 rintro e w6 ⟨S6,q6,z6,rfl,i6,m6,s6⟩
 replace h:=zc (h.out.stp s6)
 replace o:=zc (o.out.stp s6)
 replace A:=zc (A.out.stp s6)
 have aH:=zc (aJ.out.step s6)
 have N:Hid (Row S6 w6 n w.heap.size ⟨some ⟨g,0,none⟩,rc⟩ l):=E.out.stp s6
 clear E
 have E:=zc N
 clear N
 clear aJ
 have ar:=zc m6
 have aR:=zc i6
 clear i6 m6 s6 aB
 clear c0 c1 c2 c3 c4 c5 c6 c7 c8 c9 aT aW cf
 go_wp2_with fail
 refine (zdy C D z n _ S6 q6 z6 0 _ aR.out ar.out).mono ?_
 rintro e w7 ⟨S7,q7,z7,n7,rfl,i7,m7,s7⟩
 replace h:=zc (h.out.stp s7)
 replace o:=zc (o.out.stp s7)
 replace A:=zc (A.out.stp s7)
 have ax:=zc (aH.out.step s7)
 have N:Hid (Row S7 w7 n w.heap.size ⟨some ⟨g,0,none⟩,rc⟩ l):=E.out.stp s7
 clear E
 have E:=zc N
 clear N
 clear aH
 have ak:=zc m7
 have ay:=zc i7
 clear i7 m7 s7 ar
 have aY:w.heap.size+1<w7.heap.size:=o.out.lt
 have aO:w4.heap.size<w7.heap.size:=A.out.lt
 unfold pv
 go_upto_region 5 with fail
 refine zJ (R:=fun W=>Bx D S7 W (w.heap.size) _∧Bx D S7 W (w.heap.size+1) _∧Bx D S7 W (w4.heap.size) _∧Bx D S7 W (w7.heap.size) _∧Row S7 W n w.heap.size ⟨some ⟨g,0,none⟩,rc⟩ l∧Mem C D z n S7 q7 W∧SB w.heap.size S w S7 W) ⟨(h.out.alloc _),(o.out.alloc _),(A.out.alloc _),(Bx.new ak.out _),(E.out.alloc _),(ak.out.alloc _),(ax.out.alloc _)⟩ ?_
 clear h o A ax ak
 clear E
 rintro w8 ⟨K,L,X2,X3,R0,m8,t8⟩
 have E:=zc R0
 clear R0
 have h:=zc K
 have o:=zc L
 have A:=zc X2
 have O:=zc X3
 have aw:=zc m8
 have as:=zc t8
 clear m8 t8 K L X2 X3
 obtain⟨d0,d1,d2,d3,d4,d5,d6,d7,d8,d9,ag,aj,df⟩:=O.out.box
 go_wp2_with fail
 refine (zab C D z n _ S7 q7 z7 0 cSemi _ ay.out.fst aw.out).mono ?_
 rintro e w9 ⟨X,q9,z9,rfl,i9,m9,s9⟩
 replace h:=zc (h.out.stp s9)
 replace o:=zc (o.out.stp s9)
 replace A:=zc (A.out.stp s9)
 replace O:=zc (O.out.stp s9)
 have Y:=zc (as.out.step s9)
 have N:Hid (Row X w9 n w.heap.size ⟨some ⟨g,0,none⟩,rc⟩ l):=E.out.stp s9
 clear E
 have E:=zc N
 clear N
 clear as
 have Z:=zc m9
 have V:=zc i9
 clear i9 m9 s9 aw
 clear d0 d1 d2 d3 d4 d5 d6 d7 d8 d9 ag aj df
 obtain⟨a0,a1,a2,a3,a4,a5,a6,a7,a8,a9,H,I,af⟩:=h.out.box
 unfold pv
 go_upto_region 6 with fail
 refine zJ (R:=fun W=>Bx D X W (w.heap.size) _∧Bx D X W (w.heap.size+1) _∧Bx D X W (w4.heap.size) _∧Bx D X W (w7.heap.size) _∧Row X W n w.heap.size ⟨some ⟨g,0,none⟩,rc⟩ l∧Mem C D z n X q9 W∧SB w.heap.size S w X W) ⟨(h.out.put ..),(o.out.other (by omega) ..),(A.out.other (by omega) ..),(O.out.other (by omega) ..),(E.out.put h.out ..),(Z.out.put h.out ..),(Y.out.put (by omega) ..)⟩ ?_
 clear a0 a1 a2 a3 a4 a5 a6 a7 a8 a9 H I af
 clear h o A O Y Z
 clear E
 rintro aD ⟨K,L,X2,X3,R0,aa,aG⟩
 have E:=zc R0
 clear R0
 have h:=zc K
 have o:=zc L
 have A:=zc X2
 have O:=zc X3
 have U:=zc aa
 have ac:=zc aG
 clear aa aG K L X2 X3
 have aQ:Hid (_=_):=zg3 (G:=fun b e=>zao C (zb8 b e)) ao.out ay.out
 go_wp2
 go_loopg [8] l.length (fun k i wr=>∃(j:Nat) (x':PR) (M:Sv) (q':PS) (z':Int),j≤l.length∧i= .int .i64 j∧Is x' q' z'∧(z'<0→1≤q'.pos)∧zR (fun e=>zao C (zb8 n7 e)) (l.drop j) x'=zaK C q∧l.length-j=k∧Mem C D z n M q' wr∧SB w.heap.size S w M wr∧Bx D M wr w.heap.size #[.slice (some ⟨D,0,none⟩) C.ts.length z,.int .i64 q'.pos,.int .i64 C.fin,.bool C.scr,.slice M.rq.a q'.rq.length M.rq.cap,.slice M.im.a q'.im.length M.im.cap,.slice M.ep.a q'.ep.length M.ep.cap,.slice M.st.a q'.st.length M.st.cap,.slice M.ex.a q'.ex.length M.ex.cap,.slice M.la.a q'.la.length M.la.cap,.int .i64 z',.int .i64 0]∧Bx D M wr (w.heap.size+1) #[.slice none 0 0,.int .i64 0,.int .i64 0,.bool false,.slice none 0 0,.slice none 0 0,.slice none 0 0,.slice none 0 0,.slice none 0 0,.slice none 0 0,.int .i64 0,.int .i64 0]∧Row M wr n w.heap.size ⟨some ⟨g,0,none⟩,rc⟩ l)
 case atStart=>exact⟨0,_,X,q9,z9,Nat.zero_le _,rfl,V.out,zaZ V.out,by rw[HV.out,←HQ.out];exact aQ.out,rfl,U.out,ac.out,h.out,o.out,E.out⟩
 case round=>
  obtain⟨j,x9,X,q9,z9,hj,rfl,i9,p9,e9,g9,m9,t9,K,L,R0⟩:=hrel
  clear h o A O E U ac
  have h:=zc K
  have o:=zc L
  have Z:=zc m9
  have Y:=zc t9
  have V:=zc i9
  have av:=zc p9
  have az:=zc e9
  have aN:=zc g9
  have E:=zc R0
  clear K L i9 m9 t9 e9 g9 R0 p9
  by_cases aq:j<l.length
  ·skip
   obtain⟨c1,c2⟩:=E.out.cells (g:=g) rfl aq
   have bb:=E.out.own.lt (g:=g) rfl
   have HX:Hid (∀e,e=l[j]→zR (fun e=>zao C (zb8 n7 e)) (l.drop (j+1)) (bd x9 (zao C (zb8 n7 e)))=zaK C q):=fun e he=>by rw[he,←az.out];exact (zf2 (fun e=>zao C (zb8 n7 e)) l x9 aq).symm
   generalize an:l[j]=el at c1 c2
   have aP:Hid (el=l[j]):=an.symm
   clear an
   obtain⟨a0,a1,a2,a3,a4,a5,a6,a7,a8,a9,H,I,af⟩:=h.out.box
   go_upto_region 9 with fail
   go_region_law (first|(go_simp;go_wp2_with (go_at_call 132;refine (zfR C D z n x9 X q9 z9 0 (zb8 n7 el) _ V.out Z.out.drew av.out).mono ?_;rintro e aD ⟨aF,aU,aV,rfl,aI,aa,am⟩;obtain⟨d0,d1,d2,d3,d4,d5,d6,d7,d8,d9,ag,aj,df⟩:=(h.out.stp am.undrew).box;unfold pv)))
   all_goals
    clear a0 a1 a2 a3 a4 a5 a6 a7 a8 a9 H I af d0 d1 d2 d3 d4 d5 d6 d7 d8 d9 ag aj df
    have ad:=zc aI
    have U:=zc aa
    have J:Hid (Stp X wr aF aD):=am.undrew
    clear aI aa am
    go_wp2
    go_roundg (gk-1)
    case rel=>exact⟨j+1,_,aF,aU,aV,by omega,by go_num,ad.out,zpt av.out V.out ad.out,HX.out el aP.out,by have:=aN.out;omega,U.out.put (h.out.stp J.out) _ _ _ _ _ _ _ _ _ _ _ _,(Y.out.step J.out).put (by omega) _ _ _ _ _ _ _ _ _ _ _ _,(h.out.stp J.out).put _ _ _ _ _ _ _ _ _ _ _ _,(o.out.stp J.out).other (by omega) _ _ _ _ _ _ _ _ _ _ _ _,(E.out.stp J.out).put (h.out.stp J.out) _ _ _ _ _ _ _ _ _ _ _ _⟩
    case measure=>have:=aN.out;omega
  ·skip
   obtain⟨a0,a1,a2,a3,a4,a5,a6,a7,a8,a9,H,I,af⟩:=h.out.box
   obtain⟨b0,b1,b2,b3,b4,b5,b6,b7,b8,b9,ba,aZ,bf⟩:=o.out.box
   go_wp2
   refine bodyPost_ret (results_cell_row rfl _ _ (w.heap.size+1) 53 _ (0,0) _ rfl ((o.out.put ..)).heap Tryz.underlying53 rfl (by kernel_rfl)) rfl ?_
   exact zW rfl (show Is (zaK C q) q9 z9 from by rw[←az.out,List.drop_eq_nil_of_le (by omega)];exact V.out) (Z.out.put o.out ..) (Y.out.put (by omega) ..)
theorem zpy {C:Cx} {k:Int} {n:ByteArray} {q q':PS} (h:zX C k n q= .ok q'):q'={q with st:=q.st++[⟨k,n,(q.ex.length:Int)-1⟩]}∧q.st.length<80:=by
 unfold zX at h
 split at h
 ·cases h
 ·cases h
  exact⟨rfl,by omega⟩
theorem zjo {C:Cx} {x:PR} {k:Int} {s:ByteArray} {j:Int} {n:ByteArray} {q:PS} {z:Int} (h:Is (bd (bd x (zd C k s)) (zX C j n)) q z):z<0→1≤q.pos:=by
 intro D
 obtain⟨e,_⟩:=za7 h D
 obtain⟨a,w,o⟩:=zi e
 obtain⟨b,_,A⟩:=zi w
 obtain⟨rfl,_⟩:=zb0 A
 obtain⟨rfl,_⟩:=zpy o
 simp[adv]
theorem zjp {C:Cx} {y:PRN} {G:PR→PR} {k:Int} {s:ByteArray} {j:Int} {q:PS} {z:Int} {n:ByteArray} (h:Is2 (withN y fun x n=>bd (bd (G x) (zd C k s)) (zX C j n)) q z n):z<0→1≤q.pos:=by
 intro A
 cases y with
 |error e=>have:z=(e:Int):=h;omega
 |ok a=>
  have o:Is2 (bd (bd (bd (G (.ok a.1)) (zd C k s)) (zX C j a.2)) fun q=>.ok (q,a.2)) q z n:=h
  cases w:bd (bd (G (.ok a.1)) (zd C k s)) (zX C j a.2) with
  |error e=>rw[w] at o;have:z=(e:Int):=o;omega
  |ok b=>
   rw[w] at o
   obtain⟨rfl,rfl,_⟩:=o
   exact zjo (show Is (bd (bd (G (.ok a.1)) (zd C k s)) (zX C j a.2)) q (-1) by rw[w];exact⟨rfl,rfl⟩) (by decide)
theorem zpz {C:Cx} {j q:PS} {z:Int} {n:ByteArray} (h:Is2 (zcm C j) q z n):z<0→1≤q.pos:=zjp (G:=fun x=>bd (bd x (zd C 4 cEq)) (pE C .sum 0)) h
theorem zp0 {C:Cx} {j q:PS} {z:Int} {n:ByteArray} (h:Is2 (fnP C j) q z n):z<0→1≤q.pos:=zjp (G:=fun x=>bd (bd (bd (bd (bd (bd x (zd C 4 zm)) (zd C 4 zay)) (zd C 4 zF)) (zd C 1 zd6)) (pE C .sum 0)) (zd C 4 cSemi)) h
theorem zp1 {C:Cx} {x:PR} {o:PS} {w:Int} {j:ByteArray} {G:ByteArray→PS→PR} (h:Is2 (bd (bd x (zd C 1 zP)) (zG C)) o w j):
  bd (bd (zaG (bd (bd x (zd C 1 zP)) (zG C))) (zd C 4 cSemi)) (G j)=bd (zaQ C (zaA C x)) fun b=>G b.2 b.1:=by
 have z:bd (bd x (zd C 1 zP)) (zG C)=zaA C x:=rfl
 rw[z] at h ⊢
 cases n:zaA C x with
 |error e=>rfl
 |ok b=>
  rw[n] at h
  obtain⟨_,_,rfl⟩:=h
  show bd (zd C 4 cSemi b.1) (G b.2)=bd (bd (zd C 4 cSemi b.1) fun q=>.ok (q,b.2)) fun b=>G b.2 b.1
  rw[zK]
  rfl
theorem zp2 {C:Cx} {y:PRL} {n:PS} {h:Int} {l:List Ep} {f:Ep→PS→PR} {D:PS×List Ep→PR} (w:Is3 y n h l) (o:za5 l=false) (j:(decide (h<0)&&isT C n.pos 1 zP)=false):
  zR f l (bd (ze8 y) (zd C 4 cSemi))=bd y fun a=>if !za5 a.2&& !isT C a.1.pos 1 zP then bd (zd C 4 cSemi a.1) fun q=>zR f a.2 (.ok q) else D a:=by
 cases y with
 |error e=>exact ze7 _ _ _
 |ok a=>
  obtain⟨rfl,rfl,rfl⟩:=w
  rw[Bool.and_eq_false_iff] at j
  rw[zx,o,j.resolve_left (by decide)]
  show zR f a.2 (zd C 4 cSemi a.1)=bd (zd C 4 cSemi a.1) fun q=>zR f a.2 (.ok q)
  cases zd C 4 cSemi a.1 with
  |error e=>exact ze7 _ _ _
  |ok c=>rfl
theorem zjq {C:Cx} {y:PRL} {o:PS} {n:Int} {l:List Ep} {D E:PS×List Ep→PR} (q:Is3 y o n l) (j:za5 l=true∨(decide (n<0)&&isT C o.pos 1 zP)=true):
  bd y D=bd y fun a=>if !za5 a.2&& !isT C a.1.pos 1 zP then E a else D a:=by
 cases y with
 |error e=>rfl
 |ok a=>
  obtain⟨rfl,rfl,rfl⟩:=q
  rw[zx,zx]
  rcases j with h|h
  ·rw[h];rfl
  ·rw[Bool.and_eq_true] at h
   rw[h.2,Bool.not_true,Bool.and_false]
   rfl
theorem zp3 (C:Cx) (z o n:Nat) (S:Sv) (q:PS) (w:World) (hm:Mem C z o n S q w) (hw:isT C q.pos 1 zad=true) (h1:isT C (q.pos+1) 4 zF=false) (h2:isT C (q.pos+1) 4 zv=true):
  Calls Tryz.prog 71 #[pv C z o S q (-1) 0] w (Out C z o n (zaf C q) 0 S w):=by
 have HM:=zc hm
 have L:=hm.few
 clear hm
 have HV:Hid (zaf C q=bd (zaQ C (zaA C (bd (.ok (adv q)) (zd C 4 zv)))) fun b=>zn C ⟨3,sNone,sNone,b.2⟩ b.1):=by
  show _=_
  rw[zaf,zd,if_pos hw,zx]
  rw[zw,h1,h2]
  rfl
 unfold pv
 go_enter Tryz.func71,Tryz.ntmps71
 go_wp2_with fail
 refine (zaC C z o n (.ok q) S q (-1) 0 zad _ (zU q) ((HM.out.alloc _).alloc _)).mono ?_
 rintro e w1 ⟨U,N,z1,rfl,i1,m1,s1⟩
 obtain⟨K,M,t1⟩:=HM.out.two2 s1
 have h:=zc K
 have j:=zc M
 have aj:=zc m1
 have aA:=zc t1
 have aq:=zc i1
 clear K M i1 m1 t1 s1
 obtain⟨ab,rfl⟩:=zcF aq.out hw
 have HQ:=zc ab
 have ac:Hid (N.pos=q.pos+1):=by show N.pos=q.pos+1;rw[ab];rfl
 clear ab aq
 obtain⟨a0,a1,a2,a3,a4,a5,O,Y,a8,a9,A,D,X⟩:=h.out.box
 unfold pv
 go_upto_region 2 with fail
 refine zJ (R:=fun W=>Bx z U W (w.heap.size) _∧Bx z U W (w.heap.size+1) _∧Mem C z o n U N W∧SB w.heap.size S w U W) ⟨(h.out.put ..),(j.out.other (by omega) ..),(aj.out.put h.out ..),(aA.out.put (by omega) ..)⟩ ?_
 clear a0 a1 a2 a3 a4 a5 O Y a8 a9 A D X
 clear h j aA aj
 rintro w2 ⟨K,M,m2,t2⟩
 have h:=zc K
 have j:=zc M
 have V:=zc m2
 have aB:=zc t2
 clear m2 t2 K M
 obtain⟨a0,a1,a2,a3,a4,a5,O,Y,a8,a9,A,D,X⟩:=h.out.box
 go_wp2_with fail
 refine (zg C z o n U N (-1) 0 4 zF _ V.out.tok L (by decide)).mono ?_
 rintro e w3 ⟨rfl,I⟩
 rw[ac.out,h1]
 replace h:=zc (h.out.below I)
 replace j:=zc (j.out.below I)
 have ag:=zc (aB.out.below I)
 have Z:=zc (V.out.later I)
 clear I aB V
 clear a0 a1 a2 a3 a4 a5 O Y a8 a9 A D X
 obtain⟨a0,a1,a2,a3,a4,a5,O,Y,a8,a9,A,D,X⟩:=h.out.box
 go_wp2_with fail
 refine (zg C z o n U N (-1) 0 4 zv _ Z.out.tok L (by decide)).mono ?_
 rintro e w4 ⟨rfl,H⟩
 rw[ac.out,h2]
 replace h:=zc (h.out.below H)
 replace j:=zc (j.out.below H)
 have an:=zc (ag.out.below H)
 have as:=zc (Z.out.later H)
 clear H ag Z
 clear a0 a1 a2 a3 a4 a5 O Y a8 a9 A D X
 obtain⟨a0,a1,a2,a3,a4,a5,O,Y,a8,a9,A,D,X⟩:=h.out.box
 clear ac
 go_wp2_with fail
 refine (zab C z o n (.ok N) U N (-1) 0 zv _ (zU N) as.out).mono ?_
 rintro e w5 ⟨S5,q5,z5,rfl,i5,m5,s5⟩
 replace h:=zc (h.out.stp s5)
 replace j:=zc (j.out.stp s5)
 have aw:=zc (an.out.step s5)
 clear an
 have ap:=zc m5
 have aE:=zc i5
 clear i5 m5 s5 as
 clear a0 a1 a2 a3 a4 a5 O Y a8 a9 A D X
 go_wp2_with fail
 refine (zaC C z o n _ S5 q5 z5 0 zP _ aE.out ap.out).mono ?_
 rintro e w6 ⟨S6,q6,z6,rfl,i6,m6,s6⟩
 replace h:=zc (h.out.stp s6)
 replace j:=zc (j.out.stp s6)
 have au:=zc (aw.out.step s6)
 clear aw
 have ah:=zc m6
 have aC:=zc i6
 clear i6 m6 s6 ap
 go_wp2_with fail
 refine (zdy C z o n _ S6 q6 z6 0 _ aC.out ah.out).mono ?_
 rintro e w7 ⟨S7,q7,z7,n7,rfl,i7,m7,s7⟩
 replace h:=zc (h.out.stp s7)
 replace j:=zc (j.out.stp s7)
 have al:=zc (au.out.step s7)
 clear au
 have aa:=zc m7
 have am:=zc i7
 clear i7 m7 s7 ah
 have aG:w.heap.size+1<w7.heap.size:=j.out.lt
 unfold pv
 go_upto_region 20 with fail
 refine zJ (R:=fun W=>Bx z S7 W (w.heap.size) _∧Bx z S7 W (w.heap.size+1) _∧Bx z S7 W (w7.heap.size) _∧Mem C z o n S7 q7 W∧SB w.heap.size S w S7 W) ⟨(h.out.alloc _),(j.out.alloc _),(Bx.new aa.out _),(aa.out.alloc _),(al.out.alloc _)⟩ ?_
 clear h j al aa
 rintro w8 ⟨K,M,X2,m8,t8⟩
 have h:=zc K
 have j:=zc M
 have E:=zc X2
 have ak:=zc m8
 have ai:=zc t8
 clear m8 t8 K M X2
 obtain⟨c0,c1,c2,c3,c4,c5,c6,c7,c8,c9,aD,aF,cf⟩:=E.out.box
 go_wp2_with fail
 refine (zab C z o n _ S7 q7 z7 0 cSemi _ am.out.fst ak.out).mono ?_
 rintro e w9 ⟨S9,q9,z9,rfl,i9,m9,s9⟩
 replace h:=zc (h.out.stp s9)
 replace j:=zc (j.out.stp s9)
 replace E:=zc (E.out.stp s9)
 have ad:=zc (ai.out.step s9)
 clear ai
 have ar:=zc m9
 have ae:=zc i9
 clear i9 m9 s9 ak
 clear c0 c1 c2 c3 c4 c5 c6 c7 c8 c9 aD aF cf
 go_wp2_with fail
 refine (zdn C z o n _ S9 q9 z9 0 ⟨3,sNone,sNone,n7⟩ _ ae.out ar.out (zaZ ae.out)).mono ?_
 rintro e aJ ⟨aL,aK,aM,rfl,av,ay,J⟩
 replace h:=zc (h.out.stp J)
 replace j:=zc (j.out.stp J)
 replace E:=zc (E.out.stp J)
 have ao:=zc (ad.out.step J)
 clear ad
 have az:=zc ay
 have ax:=zc av
 clear av ay J ar
 obtain⟨b0,b1,b2,b3,b4,b5,b6,b7,b8,b9,aI,aH,bf⟩:=j.out.box
 unfold pv
 go_wp2
 refine bodyPost_ret (results_cell_row rfl _ _ (w.heap.size+1) 53 _ (0,0) _ rfl ((j.out.put ..)).heap Tryz.underlying53 rfl (by kernel_rfl)) rfl ?_
 rw[HV.out,←HQ.out,←zp1 (G:=fun b=>zn C ⟨3,sNone,sNone,b⟩) am.out]
 exact zW rfl ax.out (az.out.put j.out ..) (ao.out.put (by omega) ..)
theorem zp4 (C:Cx) (A o n:Nat) (S:Sv) (q:PS) (w:World) (hm:Mem C A o n S q w) (hw:isT C q.pos 1 zad=true) (h1:isT C (q.pos+1) 4 zF=false) (h2:isT C (q.pos+1) 4 zv=false) (h3:isT C (q.pos+1) 1 sDefault=true):
  Calls Tryz.prog 71 #[pv C A o S q (-1) 0] w (Out C A o n (zaf C q) 0 S w):=by
 have HM:=zc hm
 have H:=hm.few
 clear hm
 have HV:Hid (zaf C q=bd (bd (bd (bd (bd (.ok (adv q)) (zd C 1 sDefault)) (pE C .sum 0)) (zd C 4 cSemi)) (zX C 1 zbG)) (zn C ⟨1,sDefault,zbG,sNone⟩)):=by
  show _=_
  rw[zaf,zd,if_pos hw,zx]
  rw[zw,h1,h2,h3]
  rfl
 unfold pv
 go_enter Tryz.func71,Tryz.ntmps71
 go_wp2_with fail
 refine (zaC C A o n (.ok q) S q (-1) 0 zad _ (zU q) ((HM.out.alloc _).alloc _)).mono ?_
 rintro e w1 ⟨S1,q1,z1,rfl,i1,m1,s1⟩
 obtain⟨X0,X1,t1⟩:=HM.out.two2 s1
 have h:=zc X0
 have j:=zc X1
 have ao:=zc m1
 have aG:=zc t1
 have au:=zc i1
 clear X0 X1 i1 m1 t1 s1
 obtain⟨aj,rfl⟩:=zcF au.out hw
 have HQ:=zc aj
 have aa:Hid (q1.pos=q.pos+1):=by show q1.pos=q.pos+1;rw[aj];rfl
 clear aj au
 obtain⟨V,Y,Z,X,a4,a5,N,U,a8,a9,z,D,O⟩:=h.out.box
 unfold pv
 go_upto_region 2 with fail
 refine zJ (R:=fun W=>Bx A S1 W (w.heap.size) _∧Bx A S1 W (w.heap.size+1) _∧Mem C A o n S1 q1 W∧SB w.heap.size S w S1 W) ⟨(h.out.put ..),(j.out.other (by omega) ..),(ao.out.put h.out ..),(aG.out.put (by omega) ..)⟩ ?_
 clear V Y Z X a4 a5 N U a8 a9 z D O
 clear h j aG ao
 rintro w2 ⟨X0,X1,m2,t2⟩
 have h:=zc X0
 have j:=zc X1
 have ae:=zc m2
 have aH:=zc t2
 clear m2 t2 X0 X1
 obtain⟨V,Y,Z,X,a4,a5,N,U,a8,a9,z,D,O⟩:=h.out.box
 go_wp2_with fail
 refine (zg C A o n S1 q1 (-1) 0 4 zF _ ae.out.tok H (by decide)).mono ?_
 rintro e w3 ⟨rfl,L⟩
 rw[aa.out,h1]
 replace h:=zc (h.out.below L)
 replace j:=zc (j.out.below L)
 have al:=zc (aH.out.below L)
 have ai:=zc (ae.out.later L)
 clear L aH ae
 clear V Y Z X a4 a5 N U a8 a9 z D O
 obtain⟨V,Y,Z,X,a4,a5,N,U,a8,a9,z,D,O⟩:=h.out.box
 go_wp2_with fail
 refine (zg C A o n S1 q1 (-1) 0 4 zv _ ai.out.tok H (by decide)).mono ?_
 rintro e w4 ⟨rfl,I⟩
 rw[aa.out,h2]
 replace h:=zc (h.out.below I)
 replace j:=zc (j.out.below I)
 have aq:=zc (al.out.below I)
 have ah:=zc (ai.out.later I)
 clear I al ai
 clear V Y Z X a4 a5 N U a8 a9 z D O
 obtain⟨V,Y,Z,X,a4,a5,N,U,a8,a9,z,D,O⟩:=h.out.box
 go_wp2_with fail
 refine (zg C A o n S1 q1 (-1) 0 1 sDefault _ ah.out.tok H (by decide)).mono ?_
 rintro e w5 ⟨rfl,K⟩
 rw[aa.out,h3]
 replace h:=zc (h.out.below K)
 replace j:=zc (j.out.below K)
 have aD:=zc (aq.out.below K)
 have as:=zc (ah.out.later K)
 clear K aq ah
 clear V Y Z X a4 a5 N U a8 a9 z D O
 obtain⟨V,Y,Z,X,a4,a5,N,U,a8,a9,z,D,O⟩:=h.out.box
 clear aa
 go_wp2_with fail
 refine (zaC C A o n (.ok q1) S1 q1 (-1) 0 sDefault _ (zU q1) as.out).mono ?_
 rintro e w6 ⟨S6,q6,z6,rfl,i6,m6,s6⟩
 replace h:=zc (h.out.stp s6)
 replace j:=zc (j.out.stp s6)
 have ay:=zc (aD.out.step s6)
 clear aD
 have am:=zc m6
 have aJ:=zc i6
 clear i6 m6 s6 as
 clear V Y Z X a4 a5 N U a8 a9 z D O
 go_wp2_with fail
 refine (zcE C A o n _ S6 q6 z6 _ aJ.out am.out).mono ?_
 rintro e w7 ⟨S7,q7,z7,rfl,i7,m7,s7⟩
 replace h:=zc (h.out.stp s7)
 replace j:=zc (j.out.stp s7)
 have ap:=zc (ay.out.step s7)
 clear ay
 have az:=zc m7
 have aI:=zc i7
 clear i7 m7 s7 am
 go_wp2_with fail
 refine (zab C A o n _ S7 q7 z7 0 cSemi _ aI.out az.out).mono ?_
 rintro e w8 ⟨S8,q8,z8,rfl,i8,m8,s8⟩
 replace h:=zc (h.out.stp s8)
 replace j:=zc (j.out.stp s8)
 have an:=zc (ap.out.step s8)
 clear ap
 have ag:=zc m8
 have aw:=zc i8
 clear i8 m8 s8 az
 have aP:w.heap.size+1<w8.heap.size:=j.out.lt
 unfold pv
 go_upto_region 23 with fail
 refine zJ (R:=fun W=>Bx A S8 W (w.heap.size) _∧Bx A S8 W (w.heap.size+1) _∧Bx A S8 W (w8.heap.size) _∧Mem C A o n S8 q8 W∧SB w.heap.size S w S8 W) ⟨(h.out.alloc _),(j.out.alloc _),(Bx.new ag.out _),(ag.out.alloc _),(an.out.alloc _)⟩ ?_
 clear h j an ag
 rintro w9 ⟨X0,X1,X2,m9,t9⟩
 have h:=zc X0
 have j:=zc X1
 have E:=zc X2
 have av:=zc m9
 have ak:=zc t9
 clear m9 t9 X0 X1 X2
 obtain⟨c0,c1,c2,c3,c4,c5,c6,c7,c8,c9,aK,aO,cf⟩:=E.out.box
 go_wp2_with fail
 refine (zc4 C A o n _ S8 q8 z8 0 1 zbG _ aw.out av.out (zaZ aw.out)).mono ?_
 rintro e aS ⟨aM,aL,aN,rfl,aB,aE,M⟩
 replace h:=zc (h.out.stp M)
 replace j:=zc (j.out.stp M)
 replace E:=zc (E.out.stp M)
 have ab:=zc (ak.out.step M)
 clear ak
 have ad:=zc aE
 have ac:=zc aB
 clear aB aE M av
 clear c0 c1 c2 c3 c4 c5 c6 c7 c8 c9 aK aO cf
 go_wp2_with fail
 refine (zdn C A o n _ aM aL aN 0 ⟨1,sDefault,zbG,sNone⟩ _ ac.out ad.out (zjo ac.out)).mono ?_
 rintro e aW ⟨aT,aU,aV,rfl,aF,aC,J⟩
 replace h:=zc (h.out.stp J)
 replace j:=zc (j.out.stp J)
 replace E:=zc (E.out.stp J)
 have ar:=zc (ab.out.step J)
 clear ab
 have aA:=zc aC
 have ax:=zc aF
 clear aF aC J ad
 obtain⟨b0,b1,b2,b3,b4,b5,b6,b7,b8,b9,aR,aQ,bf⟩:=j.out.box
 unfold pv
 go_wp2
 refine bodyPost_ret (results_cell_row rfl _ _ (w.heap.size+1) 53 _ (0,0) _ rfl ((j.out.put ..)).heap Tryz.underlying53 rfl (by kernel_rfl)) rfl ?_
 rw[HV.out,←HQ.out]
 exact zW rfl ax.out (aA.out.put j.out ..) (ar.out.put (by omega) ..)
theorem zp5 (C:Cx) (E z o:Nat) (S:Sv) (q:PS) (w:World) (hm:Mem C E z o S q w) (hw:isT C q.pos 1 zad=true) (h1:isT C (q.pos+1) 4 zF=false) (h2:isT C (q.pos+1) 4 zv=false) (h3:isT C (q.pos+1) 1 sDefault=false) (h4:isT C (q.pos+1) 1 zA=true):
  Calls Tryz.prog 71 #[pv C E z S q (-1) 0] w (Out C E z o (zaf C q) 0 S w):=by
 have HM:=zc hm
 have H:=hm.few
 clear hm
 have HV:Hid (zaf C q=bd (zcm C (adv q)) fun a=>zn C ⟨1,a.2,a.2,sNone⟩ a.1):=by
  show _=_
  rw[zaf,zd,if_pos hw,zx]
  rw[zw,h1,h2,h3,h4]
  rfl
 unfold pv
 go_enter Tryz.func71,Tryz.ntmps71
 go_wp2_with fail
 refine (zaC C E z o (.ok q) S q (-1) 0 zad _ (zU q) ((HM.out.alloc _).alloc _)).mono ?_
 rintro e w1 ⟨S1,q1,z1,rfl,i1,m1,s1⟩
 obtain⟨X0,X1,t1⟩:=HM.out.two2 s1
 have h:=zc X0
 have j:=zc X1
 have an:=zc m1
 have av:=zc t1
 have ar:=zc i1
 clear X0 X1 i1 m1 t1 s1
 obtain⟨aj,rfl⟩:=zcF ar.out hw
 have HQ:=zc aj
 have Z:Hid (q1.pos=q.pos+1):=by show q1.pos=q.pos+1;rw[aj];rfl
 clear aj ar
 obtain⟨N,V,X,O,a4,Y,I,L,a8,a9,A,D,K⟩:=h.out.box
 unfold pv
 go_upto_region 2 with fail
 refine zJ (R:=fun W=>Bx E S1 W (w.heap.size) _∧Bx E S1 W (w.heap.size+1) _∧Mem C E z o S1 q1 W∧SB w.heap.size S w S1 W) ⟨(h.out.put ..),(j.out.other (by omega) ..),(an.out.put h.out ..),(av.out.put (by omega) ..)⟩ ?_
 clear N V X O a4 Y I L a8 a9 A D K
 clear h j av an
 rintro w2 ⟨X0,X1,m2,t2⟩
 have h:=zc X0
 have j:=zc X1
 have ac:=zc m2
 have aw:=zc t2
 clear m2 t2 X0 X1
 obtain⟨N,V,X,O,a4,Y,I,L,a8,a9,A,D,K⟩:=h.out.box
 go_wp2_with fail
 refine (zg C E z o S1 q1 (-1) 0 4 zF _ ac.out.tok H (by decide)).mono ?_
 rintro e w3 ⟨rfl,aa⟩
 rw[Z.out,h1]
 replace h:=zc (h.out.below aa)
 replace j:=zc (j.out.below aa)
 have ak:=zc (aw.out.below aa)
 have ah:=zc (ac.out.later aa)
 clear aa aw ac
 clear N V X O a4 Y I L a8 a9 A D K
 obtain⟨N,V,X,O,a4,Y,I,L,a8,a9,A,D,K⟩:=h.out.box
 go_wp2_with fail
 refine (zg C E z o S1 q1 (-1) 0 4 zv _ ah.out.tok H (by decide)).mono ?_
 rintro e w4 ⟨rfl,J⟩
 rw[Z.out,h2]
 replace h:=zc (h.out.below J)
 replace j:=zc (j.out.below J)
 have aq:=zc (ak.out.below J)
 have ag:=zc (ah.out.later J)
 clear J ak ah
 clear N V X O a4 Y I L a8 a9 A D K
 obtain⟨N,V,X,O,a4,Y,I,L,a8,a9,A,D,K⟩:=h.out.box
 go_wp2_with fail
 refine (zg C E z o S1 q1 (-1) 0 1 sDefault _ ag.out.tok H (by decide)).mono ?_
 rintro e w5 ⟨rfl,U⟩
 rw[Z.out,h3]
 replace h:=zc (h.out.below U)
 replace j:=zc (j.out.below U)
 have au:=zc (aq.out.below U)
 have ae:=zc (ag.out.later U)
 clear U aq ag
 clear N V X O a4 Y I L a8 a9 A D K
 obtain⟨N,V,X,O,a4,Y,I,L,a8,a9,A,D,K⟩:=h.out.box
 go_wp2_with fail
 refine (zg C E z o S1 q1 (-1) 0 1 zA _ ae.out.tok H (by decide)).mono ?_
 rintro e w6 ⟨rfl,M⟩
 rw[Z.out,h4]
 replace h:=zc (h.out.below M)
 replace j:=zc (j.out.below M)
 have as:=zc (au.out.below M)
 have al:=zc (ae.out.later M)
 clear M au ae
 clear N V X O a4 Y I L a8 a9 A D K
 obtain⟨N,V,X,O,a4,Y,I,L,a8,a9,A,D,K⟩:=h.out.box
 clear Z
 go_wp2_with fail
 refine (zg1 C E z o S1 q1 _ al.out).mono ?_
 rintro e w7 ⟨S7,q7,z7,n7,rfl,i7,m7,s7⟩
 replace h:=zc (h.out.stp s7)
 replace j:=zc (j.out.stp s7)
 have ap:=zc (as.out.step s7)
 clear as
 have ai:=zc m7
 have ad:=zc i7
 clear i7 m7 s7 al
 clear N V X O a4 Y I L a8 a9 A D K
 have aC:w.heap.size+1<w7.heap.size:=j.out.lt
 unfold pv
 go_upto_region 26 with fail
 refine zJ (R:=fun W=>Bx E S7 W (w.heap.size) _∧Bx E S7 W (w.heap.size+1) _∧Bx E S7 W (w7.heap.size) _∧Mem C E z o S7 q7 W∧SB w.heap.size S w S7 W) ⟨(h.out.alloc _),(j.out.alloc _),(Bx.new ai.out _),(ai.out.alloc _),(ap.out.alloc _)⟩ ?_
 clear h j ap ai
 rintro w8 ⟨X0,X1,X2,m8,t8⟩
 have h:=zc X0
 have j:=zc X1
 have ab:=zc X2
 have ao:=zc m8
 have am:=zc t8
 clear m8 t8 X0 X1 X2
 obtain⟨c0,c1,c2,c3,c4,c5,c6,c7,c8,c9,aA,aB,cf⟩:=ab.out.box
 go_wp2_with fail
 refine (zdn C E z o _ S7 q7 z7 0 ⟨1,n7,n7,sNone⟩ _ ad.out.fst ao.out (zpz ad.out)).mono ?_
 rintro e w9 ⟨S9,q9,z9,rfl,i9,m9,s9⟩
 replace h:=zc (h.out.stp s9)
 replace j:=zc (j.out.stp s9)
 replace ab:=zc (ab.out.stp s9)
 have ax:=zc (am.out.step s9)
 clear am
 have az:=zc m9
 have ay:=zc i9
 clear i9 m9 s9 ao
 clear c0 c1 c2 c3 c4 c5 c6 c7 c8 c9 aA aB cf
 obtain⟨b0,b1,b2,b3,b4,b5,b6,b7,b8,b9,aE,aD,bf⟩:=j.out.box
 unfold pv
 go_wp2
 refine bodyPost_ret (results_cell_row rfl _ _ (w.heap.size+1) 53 _ (0,0) _ rfl ((j.out.put ..)).heap Tryz.underlying53 rfl (by kernel_rfl)) rfl ?_
 rw[HV.out,←HQ.out,←ad.out.bind (fun q n=>zn C ⟨1,n,n,sNone⟩ q)]
 exact zW rfl ay.out (az.out.put j.out ..) (ax.out.put (by omega) ..)
theorem zp6 (C:Cx) (E D o:Nat) (S:Sv) (q:PS) (w:World) (hm:Mem C E D o S q w) (hw:isT C q.pos 1 zad=true) (h1:isT C (q.pos+1) 4 zF=false) (h2:isT C (q.pos+1) 4 zv=false) (h3:isT C (q.pos+1) 1 sDefault=false) (h4:isT C (q.pos+1) 1 zA=false) (h5:isT C (q.pos+1) 1 zO=true):
  Calls Tryz.prog 71 #[pv C E D S q (-1) 0] w (Out C E D o (zaf C q) 0 S w):=by
 have HM:=zc hm
 have H:=hm.few
 clear hm
 have HV:Hid (zaf C q=bd (fnP C (adv q)) fun a=>zn C ⟨1,a.2,a.2,sNone⟩ a.1):=by
  show _=_
  rw[zaf,zd,if_pos hw,zx]
  rw[zw,h1,h2,h3,h4,h5]
  rfl
 unfold pv
 go_enter Tryz.func71,Tryz.ntmps71
 go_wp2_with fail
 refine (zaC C E D o (.ok q) S q (-1) 0 zad _ (zU q) ((HM.out.alloc _).alloc _)).mono ?_
 rintro e w1 ⟨S1,q1,z1,rfl,i1,m1,s1⟩
 obtain⟨X0,X1,t1⟩:=HM.out.two2 s1
 have h:=zc X0
 have j:=zc X1
 have au:=zc m1
 have aH:=zc t1
 have ay:=zc i1
 clear X0 X1 i1 m1 t1 s1
 obtain⟨ap,rfl⟩:=zcF ay.out hw
 have HQ:=zc ap
 have V:Hid (q1.pos=q.pos+1):=by show q1.pos=q.pos+1;rw[ap];rfl
 clear ap ay
 obtain⟨L,N,O,M,Y,U,I,K,X,Z,z,A,J⟩:=h.out.box
 unfold pv
 go_upto_region 2 with fail
 refine zJ (R:=fun W=>Bx E S1 W (w.heap.size) _∧Bx E S1 W (w.heap.size+1) _∧Mem C E D o S1 q1 W∧SB w.heap.size S w S1 W) ⟨(h.out.put ..),(j.out.other (by omega) ..),(au.out.put h.out ..),(aH.out.put (by omega) ..)⟩ ?_
 clear L N O M Y U I K X Z z A J
 clear h j aH au
 rintro w2 ⟨X0,X1,m2,t2⟩
 have h:=zc X0
 have j:=zc X1
 have ai:=zc m2
 have aI:=zc t2
 clear m2 t2 X0 X1
 obtain⟨L,N,O,M,Y,U,I,K,X,Z,z,A,J⟩:=h.out.box
 go_wp2_with fail
 refine (zg C E D o S1 q1 (-1) 0 4 zF _ ai.out.tok H (by decide)).mono ?_
 rintro e w3 ⟨rfl,ae⟩
 rw[V.out,h1]
 replace h:=zc (h.out.below ae)
 replace j:=zc (j.out.below ae)
 have ar:=zc (aI.out.below ae)
 have ao:=zc (ai.out.later ae)
 clear ae aI ai
 clear L N O M Y U I K X Z z A J
 obtain⟨L,N,O,M,Y,U,I,K,X,Z,z,A,J⟩:=h.out.box
 go_wp2_with fail
 refine (zg C E D o S1 q1 (-1) 0 4 zv _ ao.out.tok H (by decide)).mono ?_
 rintro e w4 ⟨rfl,ab⟩
 rw[V.out,h2]
 replace h:=zc (h.out.below ab)
 replace j:=zc (j.out.below ab)
 have aw:=zc (ar.out.below ab)
 have am:=zc (ao.out.later ab)
 clear ab ar ao
 clear L N O M Y U I K X Z z A J
 obtain⟨L,N,O,M,Y,U,I,K,X,Z,z,A,J⟩:=h.out.box
 go_wp2_with fail
 refine (zg C E D o S1 q1 (-1) 0 1 sDefault _ am.out.tok H (by decide)).mono ?_
 rintro e w5 ⟨rfl,ad⟩
 rw[V.out,h3]
 replace h:=zc (h.out.below ad)
 replace j:=zc (j.out.below ad)
 have aD:=zc (aw.out.below ad)
 have al:=zc (am.out.later ad)
 clear ad aw am
 clear L N O M Y U I K X Z z A J
 obtain⟨L,N,O,M,Y,U,I,K,X,Z,z,A,J⟩:=h.out.box
 go_wp2_with fail
 refine (zg C E D o S1 q1 (-1) 0 1 zA _ al.out.tok H (by decide)).mono ?_
 rintro e w6 ⟨rfl,ac⟩
 rw[V.out,h4]
 replace h:=zc (h.out.below ac)
 replace j:=zc (j.out.below ac)
 have aA:=zc (aD.out.below ac)
 have aj:=zc (al.out.later ac)
 clear ac aD al
 clear L N O M Y U I K X Z z A J
 obtain⟨L,N,O,M,Y,U,I,K,X,Z,z,A,J⟩:=h.out.box
 go_wp2_with fail
 refine (zg C E D o S1 q1 (-1) 0 1 zO _ aj.out.tok H (by decide)).mono ?_
 rintro e w7 ⟨rfl,aa⟩
 rw[V.out,h5]
 replace h:=zc (h.out.below aa)
 replace j:=zc (j.out.below aa)
 have av:=zc (aA.out.below aa)
 have aB:=zc (aj.out.later aa)
 clear aa aA aj
 clear L N O M Y U I K X Z z A J
 obtain⟨L,N,O,M,Y,U,I,K,X,Z,z,A,J⟩:=h.out.box
 clear V
 go_wp2_with fail
 refine (zg2 C E D o S1 q1 _ aB.out).mono ?_
 rintro e w8 ⟨S8,q8,z8,n8,rfl,i8,m8,s8⟩
 replace h:=zc (h.out.stp s8)
 replace j:=zc (j.out.stp s8)
 have as:=zc (av.out.step s8)
 clear av
 have ak:=zc m8
 have an:=zc i8
 clear i8 m8 s8 aB
 clear L N O M Y U I K X Z z A J
 have aL:w.heap.size+1<w8.heap.size:=j.out.lt
 unfold pv
 go_upto_region 29 with fail
 refine zJ (R:=fun W=>Bx E S8 W (w.heap.size) _∧Bx E S8 W (w.heap.size+1) _∧Bx E S8 W (w8.heap.size) _∧Mem C E D o S8 q8 W∧SB w.heap.size S w S8 W) ⟨(h.out.alloc _),(j.out.alloc _),(Bx.new ak.out _),(ak.out.alloc _),(as.out.alloc _)⟩ ?_
 clear h j as ak
 rintro w9 ⟨X0,X1,X2,m9,t9⟩
 have h:=zc X0
 have j:=zc X1
 have ah:=zc X2
 have az:=zc m9
 have aq:=zc t9
 clear m9 t9 X0 X1 X2
 obtain⟨c0,c1,c2,c3,c4,c5,c6,c7,c8,c9,aJ,aK,cf⟩:=ah.out.box
 go_wp2_with fail
 refine (zdn C E D o _ S8 q8 z8 0 ⟨1,n8,n8,sNone⟩ _ an.out.fst az.out (zp0 an.out)).mono ?_
 rintro e aO ⟨aQ,aP,aR,rfl,aC,aF,ag⟩
 replace h:=zc (h.out.stp ag)
 replace j:=zc (j.out.stp ag)
 replace ah:=zc (ah.out.stp ag)
 have ax:=zc (aq.out.step ag)
 clear aq
 have aG:=zc aF
 have aE:=zc aC
 clear aC aF ag az
 clear c0 c1 c2 c3 c4 c5 c6 c7 c8 c9 aJ aK cf
 obtain⟨b0,b1,b2,b3,b4,b5,b6,b7,b8,b9,aN,aM,bf⟩:=j.out.box
 unfold pv
 go_wp2
 refine bodyPost_ret (results_cell_row rfl _ _ (w.heap.size+1) 53 _ (0,0) _ rfl ((j.out.put ..)).heap Tryz.underlying53 rfl (by kernel_rfl)) rfl ?_
 rw[HV.out,←HQ.out,←an.out.bind (fun q n=>zn C ⟨1,n,n,sNone⟩ q)]
 exact zW rfl aE.out (aG.out.put j.out ..) (ax.out.put (by omega) ..)
theorem zp7 (C:Cx) (H A n:Nat) (S:Sv) (q:PS) (w:World) (hm:Mem C H A n S q w) (hw:isT C q.pos 1 zad=true) (h1:isT C (q.pos+1) 4 zF=false) (h2:isT C (q.pos+1) 4 zv=false) (h3:isT C (q.pos+1) 1 sDefault=false) (h4:isT C (q.pos+1) 1 zA=false) (h5:isT C (q.pos+1) 1 zO=false):
  Calls Tryz.prog 71 #[pv C H A S q (-1) 0] w (Out C H A n (zaf C q) 0 S w):=by
 have HM:=zc hm
 have D:=hm.few
 clear hm
 have HV:Hid (zaf C q= .error (zq C (adv q).pos)):=by
  show _=_
  rw[zaf,zd,if_pos hw,zx]
  rw[zw,h1,h2,h3,h4,h5]
  rfl
 unfold pv
 go_enter Tryz.func71,Tryz.ntmps71
 go_wp2_with fail
 refine (zaC C H A n (.ok q) S q (-1) 0 zad _ (zU q) ((HM.out.alloc _).alloc _)).mono ?_
 rintro e w1 ⟨S1,q1,z1,rfl,i1,m1,s1⟩
 obtain⟨X0,X1,t1⟩:=HM.out.two2 s1
 have h:=zc X0
 have j:=zc X1
 have ao:=zc m1
 have av:=zc t1
 have ar:=zc i1
 clear X0 X1 i1 m1 t1 s1
 obtain⟨am,rfl⟩:=zcF ar.out hw
 have HQ:=zc am
 have U:Hid (q1.pos=q.pos+1):=by show q1.pos=q.pos+1;rw[am];rfl
 clear am ar
 obtain⟨K,M,N,L,X,O,E,J,V,Y,o,z,I⟩:=h.out.box
 unfold pv
 go_upto_region 2 with fail
 refine zJ (R:=fun W=>Bx H S1 W (w.heap.size) _∧Bx H S1 W (w.heap.size+1) _∧Mem C H A n S1 q1 W∧SB w.heap.size S w S1 W) ⟨(h.out.put ..),(j.out.other (by omega) ..),(ao.out.put h.out ..),(av.out.put (by omega) ..)⟩ ?_
 clear K M N L X O E J V Y o z I
 clear h j av ao
 rintro w2 ⟨X0,X1,m2,t2⟩
 have h:=zc X0
 have j:=zc X1
 have ag:=zc m2
 have aw:=zc t2
 clear m2 t2 X0 X1
 obtain⟨K,M,N,L,X,O,E,J,V,Y,o,z,I⟩:=h.out.box
 go_wp2_with fail
 refine (zg C H A n S1 q1 (-1) 0 4 zF _ ag.out.tok D (by decide)).mono ?_
 rintro e w3 ⟨rfl,ae⟩
 rw[U.out,h1]
 replace h:=zc (h.out.below ae)
 replace j:=zc (j.out.below ae)
 have an:=zc (aw.out.below ae)
 have ak:=zc (ag.out.later ae)
 clear ae aw ag
 clear K M N L X O E J V Y o z I
 obtain⟨K,M,N,L,X,O,E,J,V,Y,o,z,I⟩:=h.out.box
 go_wp2_with fail
 refine (zg C H A n S1 q1 (-1) 0 4 zv _ ak.out.tok D (by decide)).mono ?_
 rintro e w4 ⟨rfl,aa⟩
 rw[U.out,h2]
 replace h:=zc (h.out.below aa)
 replace j:=zc (j.out.below aa)
 have aq:=zc (an.out.below aa)
 have aj:=zc (ak.out.later aa)
 clear aa an ak
 clear K M N L X O E J V Y o z I
 obtain⟨K,M,N,L,X,O,E,J,V,Y,o,z,I⟩:=h.out.box
 go_wp2_with fail
 refine (zg C H A n S1 q1 (-1) 0 1 sDefault _ aj.out.tok D (by decide)).mono ?_
 rintro e w5 ⟨rfl,ac⟩
 rw[U.out,h3]
 replace h:=zc (h.out.below ac)
 replace j:=zc (j.out.below ac)
 have au:=zc (aq.out.below ac)
 have ai:=zc (aj.out.later ac)
 clear ac aq aj
 clear K M N L X O E J V Y o z I
 obtain⟨K,M,N,L,X,O,E,J,V,Y,o,z,I⟩:=h.out.box
 go_wp2_with fail
 refine (zg C H A n S1 q1 (-1) 0 1 zA _ ai.out.tok D (by decide)).mono ?_
 rintro e w6 ⟨rfl,ab⟩
 rw[U.out,h4]
 replace h:=zc (h.out.below ab)
 replace j:=zc (j.out.below ab)
 have as:=zc (au.out.below ab)
 have ah:=zc (ai.out.later ab)
 clear ab au ai
 clear K M N L X O E J V Y o z I
 obtain⟨K,M,N,L,X,O,E,J,V,Y,o,z,I⟩:=h.out.box
 go_wp2_with fail
 refine (zg C H A n S1 q1 (-1) 0 1 zO _ ah.out.tok D (by decide)).mono ?_
 rintro e w7 ⟨rfl,Z⟩
 rw[U.out,h5]
 replace h:=zc (h.out.below Z)
 replace j:=zc (j.out.below Z)
 have ap:=zc (as.out.below Z)
 have al:=zc (ah.out.later Z)
 clear Z as ah
 clear K M N L X O E J V Y o z I
 obtain⟨K,M,N,L,X,O,E,J,V,Y,o,z,I⟩:=h.out.box
 clear U
 go_wp2_with fail
 refine (zcL C H A n S1 q1 (-1) 0 _ al.out.tok D).mono ?_
 rintro e w8 ⟨rfl,ad⟩
 replace h:=zc (h.out.below ad)
 replace j:=zc (j.out.below ad)
 have ax:=zc (ap.out.below ad)
 have ay:=zc (al.out.later ad)
 clear ad ap al
 clear K M N L X O E J V Y o z I
 obtain⟨b0,b1,b2,b3,b4,b5,b6,b7,b8,b9,aA,az,bf⟩:=j.out.box
 unfold pv
 go_wp2
 refine bodyPost_ret (results_cell_row rfl _ _ (w.heap.size+1) 53 _ (0,0) _ rfl ((j.out.put ..)).heap Tryz.underlying53 rfl (by kernel_rfl)) rfl ?_
 rw[HV.out,←HQ.out]
 exact zW rfl (show Is (.error (zq C q1.pos)) q1 _ from rfl) (ay.out.put j.out ..) (ax.out.put (by omega) ..)
theorem zp8 (C:Cx) (H D n:Nat) (S:Sv) (q:PS) (w:World) (hm:Mem C H D n S q w) (hw:isT C q.pos 1 zad=true) (h1:isT C (q.pos+1) 4 zF=true):
  Calls Tryz.prog 71 #[pv C H D S q (-1) 0] w (Out C H D n (zaf C q) 0 S w):=by
 have HM:=zc hm
 have aH:=hm.few
 clear hm
 have HV:Hid (zaf C q=bd (zcz C true (adv q)) fun a=>if !za5 a.2&& !isT C a.1.pos 1 zP then bd (zd C 4 cSemi a.1) fun q=>zR (fun e=>zn C (zz e)) a.2 (.ok q) else bd (zaQ C (zaA C (.ok a.1))) fun b=>zR (fun e=>zn C (zal b.2 e)) a.2 (.ok b.1)):=by
  show _=_
  rw[zaf,zd,if_pos hw,zx]
  rw[zw,h1]
  rfl
 unfold pv
 go_enter Tryz.func71,Tryz.ntmps71
 go_wp2_with fail
 refine (zaC C H D n (.ok q) S q (-1) 0 zad _ (zU q) ((HM.out.alloc _).alloc _)).mono ?_
 rintro e w1 ⟨S1,q1,z1,rfl,i1,m1,s1⟩
 obtain⟨V,X,t1⟩:=HM.out.two2 s1
 have h:=zc V
 have o:=zc X
 have aU:=zc m1
 have bg:=zc t1
 have aX:=zc i1
 clear V X i1 m1 t1 s1
 obtain⟨aP,rfl⟩:=zcF aX.out hw
 have HQ:=zc aP
 have be:Hid (q1.pos=q.pos+1):=by show q1.pos=q.pos+1;rw[aP];rfl
 clear aP aX
 obtain⟨a0,a1,a2,a3,a4,a5,a6,a7,a8,a9,K,L,af⟩:=h.out.box
 unfold pv
 go_upto_region 2 with fail
 refine zJ (R:=fun W=>Bx H S1 W (w.heap.size) _∧Bx H S1 W (w.heap.size+1) _∧Mem C H D n S1 q1 W∧SB w.heap.size S w S1 W) ⟨(h.out.put ..),(o.out.other (by omega) ..),(aU.out.put h.out ..),(bg.out.put (by omega) ..)⟩ ?_
 clear a0 a1 a2 a3 a4 a5 a6 a7 a8 a9 K L af
 clear h o bg aU
 rintro w2 ⟨V,X,m2,t2⟩
 have h:=zc V
 have o:=zc X
 have aM:=zc m2
 have bh:=zc t2
 clear m2 t2 V X
 have aQ:Hid (zaf C q=bd (zcz C true q1) fun a=>if !za5 a.2&& !isT C a.1.pos 1 zP then bd (zd C 4 cSemi a.1) fun q=>zR (fun e=>zn C (zz e)) a.2 (.ok q) else bd (zaQ C (zaA C (.ok a.1))) fun b=>zR (fun e=>zn C (zal b.2 e)) a.2 (.ok b.1)):=by show _=_;rw[HQ.out];exact HV.out
 obtain⟨a0,a1,a2,a3,a4,a5,a6,a7,a8,a9,K,L,af⟩:=h.out.box
 go_wp2_with fail
 refine (zg C H D n S1 q1 (-1) 0 4 zF _ aM.out.tok aH (by decide)).mono ?_
 rintro e w3 ⟨rfl,aI⟩
 rw[be.out,h1]
 replace h:=zc (h.out.below aI)
 replace o:=zc (o.out.below aI)
 have aN:=zc (bh.out.below aI)
 have aZ:=zc (aM.out.later aI)
 clear aI bh aM
 clear a0 a1 a2 a3 a4 a5 a6 a7 a8 a9 K L af
 obtain⟨a0,a1,a2,a3,a4,a5,a6,a7,a8,a9,K,L,af⟩:=h.out.box
 clear be
 have bj:=aN.out.size
 go_wp2_with fail
 refine (ziZ C H D n S1 q1 0 true _ aZ.out).mono ?_
 rintro e w4 ⟨S4,q4,z4,⟨ra,rc⟩,l,rfl,i4,m4,s4,R0,hl⟩
 obtain⟨g,rfl⟩: ∃g,ra=some ⟨g,0,none⟩:=R0.addr
 replace h:=zc (h.out.stp s4)
 replace o:=zc (o.out.stp s4)
 have aV:=zc (aN.out.step s4)
 clear aN
 have aO:=zc m4
 have ao:=zc i4
 clear i4 m4 s4 aZ
 clear a0 a1 a2 a3 a4 a5 a6 a7 a8 a9 K L af
 have A:Hid (Row S4 w4 n w.heap.size ⟨some ⟨g,0,none⟩,rc⟩ l):=⟨R0.own,R0.free,fun k hk=>Nat.le_trans bj (R0.new k hk),R0.addr⟩
 clear R0
 have bk:w.heap.size+1<w4.heap.size:=o.out.lt
 unfold pv
 go_upto_region 4 with fail
 refine zJ (R:=fun W=>Bx H S4 W (w.heap.size) _∧Bx H S4 W (w.heap.size+1) _∧Bx H S4 W (w4.heap.size) _∧Row S4 W n w.heap.size ⟨some ⟨g,0,none⟩,rc⟩ l∧Mem C H D n S4 q4 W∧SB w.heap.size S w S4 W) ⟨(h.out.alloc _),(o.out.alloc _),(Bx.new aO.out _),(A.out.alloc _),(aO.out.alloc _),(aV.out.alloc _)⟩ ?_
 clear h o aV aO
 clear A
 rintro w5 ⟨V,X,X2,R0,m5,t5⟩
 have A:=zc R0
 clear R0
 have h:=zc V
 have o:=zc X
 have z:=zc X2
 have ax:=zc m5
 have aE:=zc t5
 clear m5 t5 V X X2
 cases hA:za5 l with
 |true=>
  skip
  obtain⟨c0,c1,c2,c3,c4,c5,c6,c7,c8,c9,aj,am,cf⟩:=z.out.box
  go_wp2_with fail
  refine (zaC C H D n _ S4 q4 z4 0 zP _ ao.out.fst ax.out).mono ?_
  rintro e w6 ⟨S6,q6,z6,rfl,i6,m6,s6⟩
  replace h:=zc (h.out.stp s6)
  replace o:=zc (o.out.stp s6)
  replace z:=zc (z.out.stp s6)
  have aA:=zc (aE.out.step s6)
  have J:Hid (Row S6 w6 n w.heap.size ⟨some ⟨g,0,none⟩,rc⟩ l):=A.out.stp s6
  clear A
  have A:=zc J
  clear J
  clear aE
  have aq:=zc m6
  have bi:=zc i6
  clear i6 m6 s6 ax
  clear c0 c1 c2 c3 c4 c5 c6 c7 c8 c9 aj am cf
  go_wp2_with fail
  refine (zdy C H D n _ S6 q6 z6 0 _ bi.out aq.out).mono ?_
  rintro e w7 ⟨S7,q7,z7,n7,rfl,i7,m7,s7⟩
  replace h:=zc (h.out.stp s7)
  replace o:=zc (o.out.stp s7)
  replace z:=zc (z.out.stp s7)
  have au:=zc (aA.out.step s7)
  have J:Hid (Row S7 w7 n w.heap.size ⟨some ⟨g,0,none⟩,rc⟩ l):=A.out.stp s7
  clear A
  have A:=zc J
  clear J
  clear aA
  have al:=zc m7
  have aC:=zc i7
  clear i7 m7 s7 aq
  have ba:w.heap.size+1<w7.heap.size:=o.out.lt
  have aJ:w4.heap.size<w7.heap.size:=z.out.lt
  unfold pv
  go_upto_region 12 with fail
  refine zJ (R:=fun W=>Bx H S7 W (w.heap.size) _∧Bx H S7 W (w.heap.size+1) _∧Bx H S7 W (w4.heap.size) _∧Bx H S7 W (w7.heap.size) _∧Row S7 W n w.heap.size ⟨some ⟨g,0,none⟩,rc⟩ l∧Mem C H D n S7 q7 W∧SB w.heap.size S w S7 W) ⟨(h.out.alloc _),(o.out.alloc _),(z.out.alloc _),(Bx.new al.out _),(A.out.alloc _),(al.out.alloc _),(au.out.alloc _)⟩ ?_
  clear h o z au al
  clear A
  rintro w8 ⟨V,X,X2,X3,R0,m8,t8⟩
  have A:=zc R0
  clear R0
  have h:=zc V
  have o:=zc X
  have z:=zc X2
  have aa:=zc X3
  have ai:=zc m8
  have ar:=zc t8
  clear m8 t8 V X X2 X3
  obtain⟨d0,d1,d2,d3,d4,d5,d6,d7,d8,d9,ah,ak,df⟩:=aa.out.box
  go_wp2_with fail
  refine (zab C H D n _ S7 q7 z7 0 cSemi _ aC.out.fst ai.out).mono ?_
  rintro e w9 ⟨S9,q9,z9,rfl,i9,m9,s9⟩
  replace h:=zc (h.out.stp s9)
  replace o:=zc (o.out.stp s9)
  replace z:=zc (z.out.stp s9)
  replace aa:=zc (aa.out.stp s9)
  have ab:=zc (ar.out.step s9)
  have J:Hid (Row S9 w9 n w.heap.size ⟨some ⟨g,0,none⟩,rc⟩ l):=A.out.stp s9
  clear A
  have A:=zc J
  clear J
  clear ar
  have ad:=zc m9
  have ac:=zc i9
  clear i9 m9 s9 ai
  clear d0 d1 d2 d3 d4 d5 d6 d7 d8 d9 ah ak df
  obtain⟨a0,a1,a2,a3,a4,a5,a6,a7,a8,a9,K,L,af⟩:=h.out.box
  unfold pv
  go_upto_region 13 with fail
  refine zJ (R:=fun W=>Bx H S9 W (w.heap.size) _∧Bx H S9 W (w.heap.size+1) _∧Bx H S9 W (w4.heap.size) _∧Bx H S9 W (w7.heap.size) _∧Row S9 W n w.heap.size ⟨some ⟨g,0,none⟩,rc⟩ l∧Mem C H D n S9 q9 W∧SB w.heap.size S w S9 W) ⟨(h.out.put ..),(o.out.other (by omega) ..),(z.out.other (by omega) ..),(aa.out.other (by omega) ..),(A.out.put h.out ..),(ad.out.put h.out ..),(ab.out.put (by omega) ..)⟩ ?_
  clear a0 a1 a2 a3 a4 a5 a6 a7 a8 a9 K L af
  clear h o z aa ab ad
  clear A
  rintro ay ⟨V,X,X2,X3,R0,ae,bb⟩
  have A:=zc R0
  clear R0
  have h:=zc V
  have o:=zc X
  have z:=zc X2
  have aa:=zc X3
  have U:=zc ae
  have aw:=zc bb
  clear ae bb V X X2 X3
  have aG:Hid (_=zaf C q):=(zg3 (G:=fun b e=>zn C (zal b e)) ao.out aC.out).trans ((zjq ao.out (.inl hA)).trans aQ.out.symm)
  go_wp2
  go_loopg [9] l.length (fun k i wr=>∃(j:Nat) (x':PR) (I:Sv) (Y:PS) (z':Int),j≤l.length∧i= .int .i64 j∧Is x' Y z'∧(z'<0→1≤Y.pos)∧zR (fun e=>zn C (zal n7 e)) (l.drop j) x'=zaf C q∧l.length-j=k∧Mem C H D n I Y wr∧SB w.heap.size S w I wr∧Bx H I wr w.heap.size #[.slice (some ⟨H,0,none⟩) C.ts.length D,.int .i64 Y.pos,.int .i64 C.fin,.bool C.scr,.slice I.rq.a Y.rq.length I.rq.cap,.slice I.im.a Y.im.length I.im.cap,.slice I.ep.a Y.ep.length I.ep.cap,.slice I.st.a Y.st.length I.st.cap,.slice I.ex.a Y.ex.length I.ex.cap,.slice I.la.a Y.la.length I.la.cap,.int .i64 z',.int .i64 0]∧Bx H I wr (w.heap.size+1) #[.slice none 0 0,.int .i64 0,.int .i64 0,.bool false,.slice none 0 0,.slice none 0 0,.slice none 0 0,.slice none 0 0,.slice none 0 0,.slice none 0 0,.int .i64 0,.int .i64 0]∧Row I wr n w.heap.size ⟨some ⟨g,0,none⟩,rc⟩ l)
  case atStart=>exact⟨0,_,S9,q9,z9,Nat.zero_le _,rfl,ac.out,zaZ ac.out,aG.out,rfl,U.out,aw.out,h.out,o.out,A.out⟩
  case round=>
   obtain⟨j,x9,S9,q9,z9,hj,rfl,i9,p9,e9,g9,m9,t9,V,X,R0⟩:=hrel
   clear h o z aa A U aw
   have h:=zc V
   have o:=zc X
   have ad:=zc m9
   have ab:=zc t9
   have ac:=zc i9
   have as:=zc p9
   have av:=zc e9
   have aB:=zc g9
   have A:=zc R0
   clear V X i9 m9 t9 e9 g9 R0 p9
   by_cases ap:j<l.length
   ·skip
    obtain⟨c1,c2⟩:=A.out.cells (g:=g) rfl ap
    have aW:=A.out.own.lt (g:=g) rfl
    have HX:Hid (∀e,e=l[j]→zR (fun e=>zn C (zal n7 e)) (l.drop (j+1)) (bd x9 (zn C (zal n7 e)))=zaf C q):=fun e he=>by rw[he,←av.out];exact (zf2 (fun e=>zn C (zal n7 e)) l x9 ap).symm
    generalize an:l[j]=el at c1 c2
    have aF:Hid (el=l[j]):=an.symm
    clear an
    obtain⟨a0,a1,a2,a3,a4,a5,a6,a7,a8,a9,K,L,af⟩:=h.out.box
    go_upto_region 16 with fail
    go_region_law (first|(go_simp;go_wp2_with (go_at_call 134;refine (zdn C H D n x9 S9 q9 z9 0 (zal n7 el) _ ac.out ad.out.drew as.out).mono ?_;rintro e ay ⟨N,az,aD,rfl,ag,ae,M⟩;obtain⟨d0,d1,d2,d3,d4,d5,d6,d7,d8,d9,ah,ak,df⟩:=(h.out.stp M.undrew).box;unfold pv)))
    all_goals
     clear a0 a1 a2 a3 a4 a5 a6 a7 a8 a9 K L af d0 d1 d2 d3 d4 d5 d6 d7 d8 d9 ah ak df
     have O:=zc ag
     have U:=zc ae
     have E:Hid (Stp S9 wr N ay):=M.undrew
     clear ag ae M
     go_wp2
     go_roundg (gk-1)
     case rel=>exact⟨j+1,_,N,az,aD,by omega,by go_num,O.out,zg4 as.out ac.out O.out,HX.out el aF.out,by have:=aB.out;omega,U.out.put (h.out.stp E.out) _ _ _ _ _ _ _ _ _ _ _ _,(ab.out.step E.out).put (by omega) _ _ _ _ _ _ _ _ _ _ _ _,(h.out.stp E.out).put _ _ _ _ _ _ _ _ _ _ _ _,(o.out.stp E.out).other (by omega) _ _ _ _ _ _ _ _ _ _ _ _,(A.out.stp E.out).put (h.out.stp E.out) _ _ _ _ _ _ _ _ _ _ _ _⟩
     case measure=>have:=aB.out;omega
   ·skip
    obtain⟨a0,a1,a2,a3,a4,a5,a6,a7,a8,a9,K,L,af⟩:=h.out.box
    obtain⟨b0,b1,b2,b3,b4,b5,b6,b7,b8,b9,aS,aR,bf⟩:=o.out.box
    go_wp2
    refine bodyPost_ret (results_cell_row rfl _ _ (w.heap.size+1) 53 _ (0,0) _ rfl ((o.out.put ..)).heap Tryz.underlying53 rfl (by kernel_rfl)) rfl ?_
    exact zW rfl (show Is (zaf C q) q9 z9 from by rw[←av.out,List.drop_eq_nil_of_le (by omega)];exact ac.out) (ad.out.put o.out ..) (ab.out.put (by omega) ..)
 |false=>
  cases hF:(decide (z4<0)&&isT C q4.pos 1 zP) with
  |true=>
   obtain⟨c0,c1,c2,c3,c4,c5,c6,c7,c8,c9,aj,am,cf⟩:=z.out.box
   go_wp2_with fail
   refine (zg C H D n S4 q4 z4 0 1 zP _ ax.out.tok aH (by decide)).mono ?_
   rintro e w6 ⟨rfl,Z⟩
   rw[hF]
   replace h:=zc (h.out.below Z)
   replace o:=zc (o.out.below Z)
   replace z:=zc (z.out.below Z)
   have aA:=zc (aE.out.below Z)
   have aq:=zc (ax.out.later Z)
   have J:Hid (Row S4 w6 n w.heap.size ⟨some ⟨g,0,none⟩,rc⟩ l):=A.out.below Z
   clear A
   have A:=zc J
   clear J
   clear Z aE ax
   clear c0 c1 c2 c3 c4 c5 c6 c7 c8 c9 aj am cf
   obtain⟨c0,c1,c2,c3,c4,c5,c6,c7,c8,c9,aj,am,cf⟩:=z.out.box
   go_wp2_with fail
   refine (zaC C H D n _ S4 q4 z4 0 zP _ ao.out.fst aq.out).mono ?_
   rintro e w7 ⟨S7,q7,z7,rfl,i7,m7,s7⟩
   replace h:=zc (h.out.stp s7)
   replace o:=zc (o.out.stp s7)
   replace z:=zc (z.out.stp s7)
   have au:=zc (aA.out.step s7)
   have J:Hid (Row S7 w7 n w.heap.size ⟨some ⟨g,0,none⟩,rc⟩ l):=A.out.stp s7
   clear A
   have A:=zc J
   clear J
   clear aA
   have al:=zc m7
   have aC:=zc i7
   clear i7 m7 s7 aq
   clear c0 c1 c2 c3 c4 c5 c6 c7 c8 c9 aj am cf
   go_wp2_with fail
   refine (zdy C H D n _ S7 q7 z7 0 _ aC.out al.out).mono ?_
   rintro e w8 ⟨S8,q8,z8,n8,rfl,i8,m8,s8⟩
   replace h:=zc (h.out.stp s8)
   replace o:=zc (o.out.stp s8)
   replace z:=zc (z.out.stp s8)
   have ar:=zc (au.out.step s8)
   have J:Hid (Row S8 w8 n w.heap.size ⟨some ⟨g,0,none⟩,rc⟩ l):=A.out.stp s8
   clear A
   have A:=zc J
   clear J
   clear au
   have ai:=zc m8
   have aY:=zc i8
   clear i8 m8 s8 al
   have ba:w.heap.size+1<w8.heap.size:=o.out.lt
   have aJ:w4.heap.size<w8.heap.size:=z.out.lt
   unfold pv
   go_upto_region 12 with fail
   refine zJ (R:=fun W=>Bx H S8 W (w.heap.size) _∧Bx H S8 W (w.heap.size+1) _∧Bx H S8 W (w4.heap.size) _∧Bx H S8 W (w8.heap.size) _∧Row S8 W n w.heap.size ⟨some ⟨g,0,none⟩,rc⟩ l∧Mem C H D n S8 q8 W∧SB w.heap.size S w S8 W) ⟨(h.out.alloc _),(o.out.alloc _),(z.out.alloc _),(Bx.new ai.out _),(A.out.alloc _),(ai.out.alloc _),(ar.out.alloc _)⟩ ?_
   clear h o z ar ai
   clear A
   rintro w9 ⟨V,X,X2,X3,R0,m9,t9⟩
   have A:=zc R0
   clear R0
   have h:=zc V
   have o:=zc X
   have z:=zc X2
   have aa:=zc X3
   have ad:=zc m9
   have ab:=zc t9
   clear m9 t9 V X X2 X3
   obtain⟨d0,d1,d2,d3,d4,d5,d6,d7,d8,d9,ah,ak,df⟩:=aa.out.box
   go_wp2_with fail
   refine (zab C H D n _ S8 q8 z8 0 cSemi _ aY.out.fst ad.out).mono ?_
   rintro e ay ⟨N,az,aD,rfl,ag,ae,M⟩
   replace h:=zc (h.out.stp M)
   replace o:=zc (o.out.stp M)
   replace z:=zc (z.out.stp M)
   replace aa:=zc (aa.out.stp M)
   have aw:=zc (ab.out.step M)
   have J:Hid (Row N ay n w.heap.size ⟨some ⟨g,0,none⟩,rc⟩ l):=A.out.stp M
   clear A
   have A:=zc J
   clear J
   clear ab
   have U:=zc ae
   have O:=zc ag
   clear ag ae M ad
   clear d0 d1 d2 d3 d4 d5 d6 d7 d8 d9 ah ak df
   obtain⟨a0,a1,a2,a3,a4,a5,a6,a7,a8,a9,K,L,af⟩:=h.out.box
   unfold pv
   go_upto_region 13 with fail
   refine zJ (R:=fun W=>Bx H N W (w.heap.size) _∧Bx H N W (w.heap.size+1) _∧Bx H N W (w4.heap.size) _∧Bx H N W (w8.heap.size) _∧Row N W n w.heap.size ⟨some ⟨g,0,none⟩,rc⟩ l∧Mem C H D n N az W∧SB w.heap.size S w N W) ⟨(h.out.put ..),(o.out.other (by omega) ..),(z.out.other (by omega) ..),(aa.out.other (by omega) ..),(A.out.put h.out ..),(U.out.put h.out ..),(aw.out.put (by omega) ..)⟩ ?_
   clear a0 a1 a2 a3 a4 a5 a6 a7 a8 a9 K L af
   clear h o z aa aw U
   clear A
   rintro bl ⟨V,X,X2,X3,R0,bc,aT⟩
   have A:=zc R0
   clear R0
   have h:=zc V
   have o:=zc X
   have z:=zc X2
   have aa:=zc X3
   have aL:=zc bc
   have aK:=zc aT
   clear bc aT V X X2 X3
   have aG:Hid (_=zaf C q):=(zg3 (G:=fun b e=>zn C (zal b e)) ao.out aY.out).trans ((zjq ao.out (.inr hF)).trans aQ.out.symm)
   go_wp2
   go_loopg [9] l.length (fun k i wr=>∃(j:Nat) (x':PR) (I:Sv) (Y:PS) (z':Int),j≤l.length∧i= .int .i64 j∧Is x' Y z'∧(z'<0→1≤Y.pos)∧zR (fun e=>zn C (zal n8 e)) (l.drop j) x'=zaf C q∧l.length-j=k∧Mem C H D n I Y wr∧SB w.heap.size S w I wr∧Bx H I wr w.heap.size #[.slice (some ⟨H,0,none⟩) C.ts.length D,.int .i64 Y.pos,.int .i64 C.fin,.bool C.scr,.slice I.rq.a Y.rq.length I.rq.cap,.slice I.im.a Y.im.length I.im.cap,.slice I.ep.a Y.ep.length I.ep.cap,.slice I.st.a Y.st.length I.st.cap,.slice I.ex.a Y.ex.length I.ex.cap,.slice I.la.a Y.la.length I.la.cap,.int .i64 z',.int .i64 0]∧Bx H I wr (w.heap.size+1) #[.slice none 0 0,.int .i64 0,.int .i64 0,.bool false,.slice none 0 0,.slice none 0 0,.slice none 0 0,.slice none 0 0,.slice none 0 0,.slice none 0 0,.int .i64 0,.int .i64 0]∧Row I wr n w.heap.size ⟨some ⟨g,0,none⟩,rc⟩ l)
   case atStart=>exact⟨0,_,N,az,aD,Nat.zero_le _,rfl,O.out,zaZ O.out,aG.out,rfl,aL.out,aK.out,h.out,o.out,A.out⟩
   case round=>
    obtain⟨j,x9,S9,q9,z9,hj,rfl,i9,p9,e9,g9,m9,t9,V,X,R0⟩:=hrel
    clear h o z aa A aL aK
    have h:=zc V
    have o:=zc X
    have ad:=zc m9
    have ab:=zc t9
    have ac:=zc i9
    have as:=zc p9
    have av:=zc e9
    have aB:=zc g9
    have A:=zc R0
    clear V X i9 m9 t9 e9 g9 R0 p9
    by_cases ap:j<l.length
    ·skip
     obtain⟨c1,c2⟩:=A.out.cells (g:=g) rfl ap
     have aW:=A.out.own.lt (g:=g) rfl
     have HX:Hid (∀e,e=l[j]→zR (fun e=>zn C (zal n8 e)) (l.drop (j+1)) (bd x9 (zn C (zal n8 e)))=zaf C q):=fun e he=>by rw[he,←av.out];exact (zf2 (fun e=>zn C (zal n8 e)) l x9 ap).symm
     generalize an:l[j]=el at c1 c2
     have aF:Hid (el=l[j]):=an.symm
     clear an
     obtain⟨a0,a1,a2,a3,a4,a5,a6,a7,a8,a9,K,L,af⟩:=h.out.box
     go_upto_region 16 with fail
     go_region_law (first|(go_simp;go_wp2_with (go_at_call 134;refine (zdn C H D n x9 S9 q9 z9 0 (zal n8 el) _ ac.out ad.out.drew as.out).mono ?_;rintro e ay ⟨N,az,aD,rfl,ag,ae,M⟩;obtain⟨d0,d1,d2,d3,d4,d5,d6,d7,d8,d9,ah,ak,df⟩:=(h.out.stp M.undrew).box;unfold pv)))
     all_goals
      clear a0 a1 a2 a3 a4 a5 a6 a7 a8 a9 K L af d0 d1 d2 d3 d4 d5 d6 d7 d8 d9 ah ak df
      have O:=zc ag
      have U:=zc ae
      have E:Hid (Stp S9 wr N ay):=M.undrew
      clear ag ae M
      go_wp2
      go_roundg (gk-1)
      case rel=>exact⟨j+1,_,N,az,aD,by omega,by go_num,O.out,zg4 as.out ac.out O.out,HX.out el aF.out,by have:=aB.out;omega,U.out.put (h.out.stp E.out) _ _ _ _ _ _ _ _ _ _ _ _,(ab.out.step E.out).put (by omega) _ _ _ _ _ _ _ _ _ _ _ _,(h.out.stp E.out).put _ _ _ _ _ _ _ _ _ _ _ _,(o.out.stp E.out).other (by omega) _ _ _ _ _ _ _ _ _ _ _ _,(A.out.stp E.out).put (h.out.stp E.out) _ _ _ _ _ _ _ _ _ _ _ _⟩
      case measure=>have:=aB.out;omega
    ·skip
     obtain⟨a0,a1,a2,a3,a4,a5,a6,a7,a8,a9,K,L,af⟩:=h.out.box
     obtain⟨b0,b1,b2,b3,b4,b5,b6,b7,b8,b9,aS,aR,bf⟩:=o.out.box
     go_wp2
     refine bodyPost_ret (results_cell_row rfl _ _ (w.heap.size+1) 53 _ (0,0) _ rfl ((o.out.put ..)).heap Tryz.underlying53 rfl (by kernel_rfl)) rfl ?_
     exact zW rfl (show Is (zaf C q) q9 z9 from by rw[←av.out,List.drop_eq_nil_of_le (by omega)];exact ac.out) (ad.out.put o.out ..) (ab.out.put (by omega) ..)
  |false=>
   obtain⟨c0,c1,c2,c3,c4,c5,c6,c7,c8,c9,aj,am,cf⟩:=z.out.box
   go_wp2_with fail
   refine (zg C H D n S4 q4 z4 0 1 zP _ ax.out.tok aH (by decide)).mono ?_
   rintro e w6 ⟨rfl,Z⟩
   rw[hF]
   replace h:=zc (h.out.below Z)
   replace o:=zc (o.out.below Z)
   replace z:=zc (z.out.below Z)
   have aA:=zc (aE.out.below Z)
   have aq:=zc (ax.out.later Z)
   have J:Hid (Row S4 w6 n w.heap.size ⟨some ⟨g,0,none⟩,rc⟩ l):=A.out.below Z
   clear A
   have A:=zc J
   clear J
   clear Z aE ax
   clear c0 c1 c2 c3 c4 c5 c6 c7 c8 c9 aj am cf
   obtain⟨c0,c1,c2,c3,c4,c5,c6,c7,c8,c9,aj,am,cf⟩:=z.out.box
   go_wp2_with fail
   refine (zab C H D n _ S4 q4 z4 0 cSemi _ ao.out.fst aq.out).mono ?_
   rintro e w7 ⟨S7,q7,z7,rfl,i7,m7,s7⟩
   replace h:=zc (h.out.stp s7)
   replace o:=zc (o.out.stp s7)
   replace z:=zc (z.out.stp s7)
   have au:=zc (aA.out.step s7)
   have J:Hid (Row S7 w7 n w.heap.size ⟨some ⟨g,0,none⟩,rc⟩ l):=A.out.stp s7
   clear A
   have A:=zc J
   clear J
   clear aA
   have al:=zc m7
   have aC:=zc i7
   clear i7 m7 s7 aq
   clear c0 c1 c2 c3 c4 c5 c6 c7 c8 c9 aj am cf
   obtain⟨a0,a1,a2,a3,a4,a5,a6,a7,a8,a9,K,L,af⟩:=h.out.box
   unfold pv
   go_upto_region 6 with fail
   refine zJ (R:=fun W=>Bx H S7 W (w.heap.size) _∧Bx H S7 W (w.heap.size+1) _∧Bx H S7 W (w4.heap.size) _∧Row S7 W n w.heap.size ⟨some ⟨g,0,none⟩,rc⟩ l∧Mem C H D n S7 q7 W∧SB w.heap.size S w S7 W) ⟨(h.out.put ..),(o.out.other (by omega) ..),(z.out.other (by omega) ..),(A.out.put h.out ..),(al.out.put h.out ..),(au.out.put (by omega) ..)⟩ ?_
   clear a0 a1 a2 a3 a4 a5 a6 a7 a8 a9 K L af
   clear h o z au al
   clear A
   rintro w8 ⟨V,X,X2,R0,m8,t8⟩
   have A:=zc R0
   clear R0
   have h:=zc V
   have o:=zc X
   have z:=zc X2
   have ai:=zc m8
   have ar:=zc t8
   clear m8 t8 V X X2
   have aG:Hid (_=zaf C q):=(zp2 ao.out hA hF).trans aQ.out.symm
   go_wp2
   go_loopg [6] l.length (fun k i wr=>∃(j:Nat) (x':PR) (I:Sv) (Y:PS) (z':Int),j≤l.length∧i= .int .i64 j∧Is x' Y z'∧(z'<0→1≤Y.pos)∧zR (fun e=>zn C (zz e)) (l.drop j) x'=zaf C q∧l.length-j=k∧Mem C H D n I Y wr∧SB w.heap.size S w I wr∧Bx H I wr w.heap.size #[.slice (some ⟨H,0,none⟩) C.ts.length D,.int .i64 Y.pos,.int .i64 C.fin,.bool C.scr,.slice I.rq.a Y.rq.length I.rq.cap,.slice I.im.a Y.im.length I.im.cap,.slice I.ep.a Y.ep.length I.ep.cap,.slice I.st.a Y.st.length I.st.cap,.slice I.ex.a Y.ex.length I.ex.cap,.slice I.la.a Y.la.length I.la.cap,.int .i64 z',.int .i64 0]∧Bx H I wr (w.heap.size+1) #[.slice none 0 0,.int .i64 0,.int .i64 0,.bool false,.slice none 0 0,.slice none 0 0,.slice none 0 0,.slice none 0 0,.slice none 0 0,.slice none 0 0,.int .i64 0,.int .i64 0]∧Row I wr n w.heap.size ⟨some ⟨g,0,none⟩,rc⟩ l)
   case atStart=>exact⟨0,_,S7,q7,z7,Nat.zero_le _,rfl,aC.out,zaZ aC.out,aG.out,rfl,ai.out,ar.out,h.out,o.out,A.out⟩
   case round=>
    obtain⟨j,x9,S9,q9,z9,hj,rfl,i9,p9,e9,g9,m9,t9,V,X,R0⟩:=hrel
    clear h o z A ai ar
    have h:=zc V
    have o:=zc X
    have ad:=zc m9
    have ab:=zc t9
    have ac:=zc i9
    have as:=zc p9
    have av:=zc e9
    have aB:=zc g9
    have A:=zc R0
    clear V X i9 m9 t9 e9 g9 R0 p9
    by_cases ap:j<l.length
    ·skip
     obtain⟨c1,c2⟩:=A.out.cells (g:=g) rfl ap
     have aW:=A.out.own.lt (g:=g) rfl
     have HX:Hid (∀e,e=l[j]→zR (fun e=>zn C (zz e)) (l.drop (j+1)) (bd x9 (zn C (zz e)))=zaf C q):=fun e he=>by rw[he,←av.out];exact (zf2 (fun e=>zn C (zz e)) l x9 ap).symm
     generalize an:l[j]=el at c1 c2
     have aF:Hid (el=l[j]):=an.symm
     clear an
     obtain⟨a0,a1,a2,a3,a4,a5,a6,a7,a8,a9,K,L,af⟩:=h.out.box
     go_upto_region 9 with fail
     go_region_law (first|(go_simp;go_wp2_with (go_at_call 134;refine (zdn C H D n x9 S9 q9 z9 0 (zz el) _ ac.out ad.out.drew as.out).mono ?_;rintro e ay ⟨N,az,aD,rfl,ag,ae,M⟩;obtain⟨d0,d1,d2,d3,d4,d5,d6,d7,d8,d9,ah,ak,df⟩:=(h.out.stp M.undrew).box;unfold pv)))
     all_goals
      clear a0 a1 a2 a3 a4 a5 a6 a7 a8 a9 K L af d0 d1 d2 d3 d4 d5 d6 d7 d8 d9 ah ak df
      have O:=zc ag
      have U:=zc ae
      have E:Hid (Stp S9 wr N ay):=M.undrew
      clear ag ae M
      go_wp2
      go_roundg (gk-1)
      case rel=>exact⟨j+1,_,N,az,aD,by omega,by go_num,O.out,zg4 as.out ac.out O.out,HX.out el aF.out,by have:=aB.out;omega,U.out.put (h.out.stp E.out) _ _ _ _ _ _ _ _ _ _ _ _,(ab.out.step E.out).put (by omega) _ _ _ _ _ _ _ _ _ _ _ _,(h.out.stp E.out).put _ _ _ _ _ _ _ _ _ _ _ _,(o.out.stp E.out).other (by omega) _ _ _ _ _ _ _ _ _ _ _ _,(A.out.stp E.out).put (h.out.stp E.out) _ _ _ _ _ _ _ _ _ _ _ _⟩
      case measure=>have:=aB.out;omega
    ·skip
     obtain⟨a0,a1,a2,a3,a4,a5,a6,a7,a8,a9,K,L,af⟩:=h.out.box
     obtain⟨b0,b1,b2,b3,b4,b5,b6,b7,b8,b9,aS,aR,bf⟩:=o.out.box
     go_wp2
     refine bodyPost_ret (results_cell_row rfl _ _ (w.heap.size+1) 53 _ (0,0) _ rfl ((o.out.put ..)).heap Tryz.underlying53 rfl (by kernel_rfl)) rfl ?_
     exact zW rfl (show Is (zaf C q) q9 z9 from by rw[←av.out,List.drop_eq_nil_of_le (by omega)];exact ac.out) (ad.out.put o.out ..) (ab.out.put (by omega) ..)
theorem zp9 (C:Cx) (n j h:Nat) (S:Sv) (q:PS) (w:World) (o:Mem C n j h S q w) (A:isT C q.pos 1 zae=true):
  Calls Tryz.prog 70 #[pv C n j S q (-1) 0] w (Out C n j h (zaK C q) 0 S w):=by
 cases z:isT C (q.pos+1) 4 zF with
 |true=>exact zpx C n j h S q w o A z
 |false=>
  cases D:isT C (q.pos+1) 4 zv with
  |true=>exact zpu C n j h S q w o A z D
  |false=>
   cases E:zB C (q.pos+1) false with
   |true=>exact zpv C n j h S q w o A z D E
   |false=>exact zpw C n j h S q w o A z D E
theorem zpA (C:Cx) (n j h:Nat) (S:Sv) (q:PS) (w:World) (o:Mem C n j h S q w) (A:isT C q.pos 1 zad=true):
  Calls Tryz.prog 71 #[pv C n j S q (-1) 0] w (Out C n j h (zaf C q) 0 S w):=by
 cases z:isT C (q.pos+1) 4 zF with
 |true=>exact zp8 C n j h S q w o A z
 |false=>
  cases D:isT C (q.pos+1) 4 zv with
  |true=>exact zp3 C n j h S q w o A z D
  |false=>
   cases E:isT C (q.pos+1) 1 sDefault with
   |true=>exact zp4 C n j h S q w o A z D E
   |false=>
    cases H:isT C (q.pos+1) 1 zA with
    |true=>exact zp5 C n j h S q w o A z D E H
    |false=>
     cases I:isT C (q.pos+1) 1 zO with
     |true=>exact zp6 C n j h S q w o A z D E H I
     |false=>exact zp7 C n j h S q w o A z D E H I
theorem zjr {C:Cx} {x:PR} {n:ByteArray}:bd (bd (bd (bd x (zd C 4 cEq)) (pE C .sum 0)) (zd C 4 cSemi)) (zX C 3 n)=bd x fun q=>bd (bd (bd (bd (.ok q) (zd C 4 cEq)) (pE C .sum 0)) (zd C 4 cSemi)) (zX C 3 n):=by cases x<;>rfl
theorem zpB (A:List Tk) (h:Nat) (D o n:Nat) (S:Sv) (q:PS) (w:World) (V:Mem (Cx.mk A h true) D o n S q w) (h0:isT (Cx.mk A h true) q.pos 1 zA=true):
  Calls Tryz.prog 21 #[pv (Cx.mk A h true) D o S q (-1) 0] w (Out (Cx.mk A h true) D o n (zy (Cx.mk A h true) q) 0 S w):=by
 have HM:=zc V
 have E:=V.tok
 have J:(Cx.mk A h true).ts.length≤4000:=V.few
 clear V
 have HV:Hid (zy (Cx.mk A h true) q=zaG (zcm (Cx.mk A h true) q)):=by show zy (Cx.mk A h true) q=_;rw[zy,h0];rfl
 unfold pv
 go_enter Tryz.func21,Tryz.ntmps21
 go_wp2_with fail
 refine (zg (Cx.mk A h true) D o n S q (-1) 0 1 zA _ (zo (zo E _) _) J (by decide)).mono ?_
 rintro e w1 ⟨rfl,N⟩
 rw[h0]
 obtain⟨I,L,m1,t1⟩:=HM.out.two N
 have z:=zc I
 have j:=zc L
 have M:=zc m1
 have O:=zc t1
 clear I L m1 t1 N
 clear E
 obtain⟨a0,a1,a2,a3,a4,a5,a6,a7,a8,a9,Y,ac,af⟩:=z.out.box
 go_wp2_with fail
 refine (zg1 (Cx.mk A h true) D o n S q _ M.out).mono ?_
 rintro e w2 ⟨K,q2,z2,n2,rfl,i2,m2,X⟩
 replace z:=zc (z.out.stp X)
 replace j:=zc (j.out.stp X)
 have U:=zc (O.out.step X)
 clear O
 have H:=zc m2
 have ab:=zc i2
 clear i2 m2 X M
 clear a0 a1 a2 a3 a4 a5 a6 a7 a8 a9 Y ac af
 have ae:w.heap.size+1<w2.heap.size:=j.out.lt
 unfold pv
 go_upto_region 7 with fail
 refine zJ (R:=fun W=>Bx D K W (w.heap.size) _∧Bx D K W (w.heap.size+1) _∧Bx D K W (w2.heap.size) _∧Mem (Cx.mk A h true) D o n K q2 W∧SB w.heap.size S w K W) ⟨(z.out.alloc _),(j.out.alloc _),(Bx.new H.out _),(H.out.alloc _),(U.out.alloc _)⟩ ?_
 clear z j U H
 rintro w3 ⟨I,L,X2,m3,t3⟩
 have z:=zc I
 have j:=zc L
 have Z:=zc X2
 have ad:=zc m3
 have aa:=zc t3
 clear m3 t3 I L X2
 obtain⟨b0,b1,b2,b3,b4,b5,b6,b7,b8,b9,ah,ag,bf⟩:=j.out.box
 obtain⟨c0,c1,c2,c3,c4,c5,c6,c7,c8,c9,ai,aj,cf⟩:=Z.out.box
 go_wp2
 refine bodyPost_ret (results_cell_row rfl _ _ (w.heap.size+1) 53 _ (0,0) _ rfl ((j.out.put ..)).heap Tryz.underlying53 rfl (by kernel_rfl)) rfl ?_
 rw[HV.out]
 exact zW rfl ab.out.fst (ad.out.put j.out ..) (aa.out.put (by omega) ..)
theorem zpC (A:List Tk) (h:Nat) (E z n:Nat) (S:Sv) (q:PS) (w:World) (hm:Mem (Cx.mk A h true) E z n S q w) (h0:isT (Cx.mk A h true) q.pos 1 zA=false) (h1:isT (Cx.mk A h true) q.pos 1 zO=true):
  Calls Tryz.prog 21 #[pv (Cx.mk A h true) E z S q (-1) 0] w (Out (Cx.mk A h true) E z n (zy (Cx.mk A h true) q) 0 S w):=by
 have HM:=zc hm
 have I:=hm.tok
 have H:(Cx.mk A h true).ts.length≤4000:=hm.few
 clear hm
 have HV:Hid (zy (Cx.mk A h true) q=zaG (fnP (Cx.mk A h true) q)):=by show zy (Cx.mk A h true) q=_;rw[zy,h0,h1];rfl
 unfold pv
 go_enter Tryz.func21,Tryz.ntmps21
 go_wp2_with fail
 refine (zg (Cx.mk A h true) E z n S q (-1) 0 1 zA _ (zo (zo I _) _) H (by decide)).mono ?_
 rintro e w1 ⟨rfl,Y⟩
 rw[h0]
 obtain⟨N,X,m1,t1⟩:=HM.out.two Y
 have o:=zc N
 have j:=zc X
 have K:=zc m1
 have Z:=zc t1
 clear N X m1 t1 Y
 clear I
 obtain⟨a0,a1,a2,a3,a4,a5,a6,a7,a8,a9,J,L,af⟩:=o.out.box
 go_wp2_with fail
 refine (zg (Cx.mk A h true) E z n S q (-1) 0 1 zO _ K.out.tok H (by decide)).mono ?_
 rintro e w2 ⟨rfl,D⟩
 rw[h1]
 replace o:=zc (o.out.below D)
 replace j:=zc (j.out.below D)
 have aa:=zc (Z.out.below D)
 have O:=zc (K.out.later D)
 clear D Z K
 clear a0 a1 a2 a3 a4 a5 a6 a7 a8 a9 J L af
 obtain⟨a0,a1,a2,a3,a4,a5,a6,a7,a8,a9,J,L,af⟩:=o.out.box
 go_wp2_with fail
 refine (zg2 (Cx.mk A h true) E z n S q _ O.out).mono ?_
 rintro e w3 ⟨U,q3,z3,n3,rfl,i3,m3,s3⟩
 replace o:=zc (o.out.stp s3)
 replace j:=zc (j.out.stp s3)
 have V:=zc (aa.out.step s3)
 clear aa
 have M:=zc m3
 have ae:=zc i3
 clear i3 m3 s3 O
 clear a0 a1 a2 a3 a4 a5 a6 a7 a8 a9 J L af
 have ag:w.heap.size+1<w3.heap.size:=j.out.lt
 unfold pv
 go_upto_region 10 with fail
 refine zJ (R:=fun W=>Bx E U W (w.heap.size) _∧Bx E U W (w.heap.size+1) _∧Bx E U W (w3.heap.size) _∧Mem (Cx.mk A h true) E z n U q3 W∧SB w.heap.size S w U W) ⟨(o.out.alloc _),(j.out.alloc _),(Bx.new M.out _),(M.out.alloc _),(V.out.alloc _)⟩ ?_
 clear o j V M
 rintro w4 ⟨N,X,X2,m4,t4⟩
 have o:=zc N
 have j:=zc X
 have ab:=zc X2
 have ad:=zc m4
 have ac:=zc t4
 clear m4 t4 N X X2
 obtain⟨b0,b1,b2,b3,b4,b5,b6,b7,b8,b9,ai,ah,bf⟩:=j.out.box
 obtain⟨c0,c1,c2,c3,c4,c5,c6,c7,c8,c9,aj,ak,cf⟩:=ab.out.box
 go_wp2
 refine bodyPost_ret (results_cell_row rfl _ _ (w.heap.size+1) 53 _ (0,0) _ rfl ((j.out.put ..)).heap Tryz.underlying53 rfl (by kernel_rfl)) rfl ?_
 rw[HV.out]
 exact zW rfl ae.out.fst (ad.out.put j.out ..) (ac.out.put (by omega) ..)
theorem zpD (A:List Tk) (h:Nat) (D z o:Nat) (S:Sv) (q:PS) (w:World) (hm:Mem (Cx.mk A h true) D z o S q w) (h0:isT (Cx.mk A h true) q.pos 1 zA=false) (h1:isT (Cx.mk A h true) q.pos 1 zO=false) (h2:isT (Cx.mk A h true) q.pos 1 zap=true):
  Calls Tryz.prog 21 #[pv (Cx.mk A h true) D z S q (-1) 0] w (Out (Cx.mk A h true) D z o (zy (Cx.mk A h true) q) 0 S w):=by
 have HM:=zc hm
 have N:=hm.tok
 have I:(Cx.mk A h true).ts.length≤4000:=hm.few
 clear hm
 have HV:Hid (zy (Cx.mk A h true) q=bd (bd (bd (bd (bd (bd (.ok q) (zd (Cx.mk A h true) 1 zap)) (zd (Cx.mk A h true) 4 zm)) (pE (Cx.mk A h true) .sum 0)) (zd (Cx.mk A h true) 4 zay)) (zd (Cx.mk A h true) 4 cSemi)) (zX (Cx.mk A h true) 4 sNone)):=by show zy (Cx.mk A h true) q=_;rw[zy,h0,h1,h2];rfl
 unfold pv
 go_enter Tryz.func21,Tryz.ntmps21
 go_wp2_with fail
 refine (zg (Cx.mk A h true) D z o S q (-1) 0 1 zA _ (zo (zo N _) _) I (by decide)).mono ?_
 rintro e w1 ⟨rfl,ai⟩
 rw[h0]
 obtain⟨Y,X1,m1,t1⟩:=HM.out.two ai
 have n:=zc Y
 have j:=zc X1
 have U:=zc m1
 have aw:=zc t1
 clear Y X1 m1 t1 ai
 clear N
 obtain⟨a0,a1,a2,a3,a4,a5,Z,a7,a8,a9,E,J,af⟩:=n.out.box
 go_wp2_with fail
 refine (zg (Cx.mk A h true) D z o S q (-1) 0 1 zO _ U.out.tok I (by decide)).mono ?_
 rintro e w2 ⟨rfl,K⟩
 rw[h1]
 replace n:=zc (n.out.below K)
 replace j:=zc (j.out.below K)
 have ax:=zc (aw.out.below K)
 have O:=zc (U.out.later K)
 clear K aw U
 clear a0 a1 a2 a3 a4 a5 Z a7 a8 a9 E J af
 obtain⟨a0,a1,a2,a3,a4,a5,Z,a7,a8,a9,E,J,af⟩:=n.out.box
 go_wp2_with fail
 refine (zg (Cx.mk A h true) D z o S q (-1) 0 1 zap _ O.out.tok I (by decide)).mono ?_
 rintro e w3 ⟨rfl,L⟩
 rw[h2]
 replace n:=zc (n.out.below L)
 replace j:=zc (j.out.below L)
 have ac:=zc (ax.out.below L)
 have ao:=zc (O.out.later L)
 clear L ax O
 clear a0 a1 a2 a3 a4 a5 Z a7 a8 a9 E J af
 obtain⟨a0,a1,a2,a3,a4,a5,Z,a7,a8,a9,E,J,af⟩:=n.out.box
 go_wp2_with fail
 refine (zaC (Cx.mk A h true) D z o (.ok q) S q (-1) 0 zap _ (zU q) ao.out).mono ?_
 rintro e w4 ⟨S4,q4,z4,rfl,i4,m4,s4⟩
 replace n:=zc (n.out.stp s4)
 replace j:=zc (j.out.stp s4)
 have aj:=zc (ac.out.step s4)
 clear ac
 have an:=zc m4
 have ay:=zc i4
 clear i4 m4 s4 ao
 clear a0 a1 a2 a3 a4 a5 Z a7 a8 a9 E J af
 go_wp2_with fail
 refine (zab (Cx.mk A h true) D z o _ S4 q4 z4 0 zm _ ay.out an.out).mono ?_
 rintro e w5 ⟨S5,q5,z5,rfl,i5,m5,s5⟩
 replace n:=zc (n.out.stp s5)
 replace j:=zc (j.out.stp s5)
 have ar:=zc (aj.out.step s5)
 clear aj
 have al:=zc m5
 have aC:=zc i5
 clear i5 m5 s5 an
 go_wp2_with fail
 refine (zcE (Cx.mk A h true) D z o _ S5 q5 z5 _ aC.out al.out).mono ?_
 rintro e w6 ⟨S6,q6,z6,rfl,i6,m6,s6⟩
 replace n:=zc (n.out.stp s6)
 replace j:=zc (j.out.stp s6)
 have ap:=zc (ar.out.step s6)
 clear ar
 have ad:=zc m6
 have aA:=zc i6
 clear i6 m6 s6 al
 go_wp2_with fail
 refine (zab (Cx.mk A h true) D z o _ S6 q6 z6 0 zay _ aA.out ad.out).mono ?_
 rintro e w7 ⟨X,q7,z7,rfl,i7,m7,s7⟩
 replace n:=zc (n.out.stp s7)
 replace j:=zc (j.out.stp s7)
 have ah:=zc (ap.out.step s7)
 clear ap
 have V:=zc m7
 have az:=zc i7
 clear i7 m7 s7 ad
 have aE:w.heap.size+1<w7.heap.size:=j.out.lt
 unfold pv
 go_upto_region 13 with fail
 refine zJ (R:=fun W=>Bx D X W (w.heap.size) _∧Bx D X W (w.heap.size+1) _∧Bx D X W (w7.heap.size) _∧Mem (Cx.mk A h true) D z o X q7 W∧SB w.heap.size S w X W) ⟨(n.out.alloc _),(j.out.alloc _),(Bx.new V.out _),(V.out.alloc _),(ah.out.alloc _)⟩ ?_
 clear n j ah V
 rintro w8 ⟨Y,X1,X2,m8,t8⟩
 have n:=zc Y
 have j:=zc X1
 have H:=zc X2
 have ag:=zc m8
 have ae:=zc t8
 clear m8 t8 Y X1 X2
 obtain⟨c0,c1,c2,c3,c4,c5,c6,c7,c8,c9,aB,aD,cf⟩:=H.out.box
 go_wp2_with fail
 refine (zab (Cx.mk A h true) D z o _ X q7 z7 0 cSemi _ az.out ag.out).mono ?_
 rintro e w9 ⟨S9,q9,z9,rfl,i9,m9,s9⟩
 replace n:=zc (n.out.stp s9)
 replace j:=zc (j.out.stp s9)
 replace H:=zc (H.out.stp s9)
 have aa:=zc (ae.out.step s9)
 clear ae
 have am:=zc m9
 have ab:=zc i9
 clear i9 m9 s9 ag
 clear c0 c1 c2 c3 c4 c5 c6 c7 c8 c9 aB aD cf
 go_wp2_with fail
 refine (zc4 (Cx.mk A h true) D z o _ S9 q9 z9 0 4 sNone _ ab.out am.out (zaZ ab.out)).mono ?_
 rintro e aH ⟨aJ,aI,aK,rfl,aq,au,M⟩
 replace n:=zc (n.out.stp M)
 replace j:=zc (j.out.stp M)
 replace H:=zc (H.out.stp M)
 have ak:=zc (aa.out.step M)
 clear aa
 have av:=zc au
 have as:=zc aq
 clear aq au M am
 obtain⟨b0,b1,b2,b3,b4,b5,b6,b7,b8,b9,aG,aF,bf⟩:=j.out.box
 unfold pv
 go_wp2
 refine bodyPost_ret (results_cell_row rfl _ _ (w.heap.size+1) 53 _ (0,0) _ rfl ((j.out.put ..)).heap Tryz.underlying53 rfl (by kernel_rfl)) rfl ?_
 rw[HV.out]
 exact zW rfl as.out (av.out.put j.out ..) (ak.out.put (by omega) ..)
theorem zpE (z:List Tk) (h:Nat) (I A o:Nat) (S:Sv) (q:PS) (w:World) (hm:Mem (Cx.mk z h true) I A o S q w) (h0:isT (Cx.mk z h true) q.pos 1 zA=false) (h1:isT (Cx.mk z h true) q.pos 1 zO=false) (h2:isT (Cx.mk z h true) q.pos 1 zap=false) (h3:isT (Cx.mk z h true) q.pos 1 za0=true):
  Calls Tryz.prog 21 #[pv (Cx.mk z h true) I A S q (-1) 0] w (Out (Cx.mk z h true) I A o (zy (Cx.mk z h true) q) 0 S w):=by
 have HM:=zc hm
 have M:=hm.tok
 have H:(Cx.mk z h true).ts.length≤4000:=hm.few
 clear hm
 have HV:Hid (zy (Cx.mk z h true) q=bd (bd (bd (bd (.ok q) (zd (Cx.mk z h true) 1 za0)) (pE (Cx.mk z h true) .sum 0)) (zd (Cx.mk z h true) 4 cSemi)) (zX (Cx.mk z h true) 5 sNone)):=by show zy (Cx.mk z h true) q=_;rw[zy,h0,h1,h2,h3];rfl
 unfold pv
 go_enter Tryz.func21,Tryz.ntmps21
 go_wp2_with fail
 refine (zg (Cx.mk z h true) I A o S q (-1) 0 1 zA _ (zo (zo M _) _) H (by decide)).mono ?_
 rintro e w1 ⟨rfl,ae⟩
 rw[h0]
 obtain⟨X0,X1,m1,t1⟩:=HM.out.two ae
 have j:=zc X0
 have n:=zc X1
 have U:=zc m1
 have am:=zc t1
 clear X0 X1 m1 t1 ae
 clear M
 obtain⟨Z,a1,a2,a3,a4,a5,N,X,a8,a9,D,E,V⟩:=j.out.box
 go_wp2_with fail
 refine (zg (Cx.mk z h true) I A o S q (-1) 0 1 zO _ U.out.tok H (by decide)).mono ?_
 rintro e w2 ⟨rfl,K⟩
 rw[h1]
 replace j:=zc (j.out.below K)
 replace n:=zc (n.out.below K)
 have an:=zc (am.out.below K)
 have O:=zc (U.out.later K)
 clear K am U
 clear Z a1 a2 a3 a4 a5 N X a8 a9 D E V
 obtain⟨Z,a1,a2,a3,a4,a5,N,X,a8,a9,D,E,V⟩:=j.out.box
 go_wp2_with fail
 refine (zg (Cx.mk z h true) I A o S q (-1) 0 1 zap _ O.out.tok H (by decide)).mono ?_
 rintro e w3 ⟨rfl,L⟩
 rw[h2]
 replace j:=zc (j.out.below L)
 replace n:=zc (n.out.below L)
 have aa:=zc (an.out.below L)
 have Y:=zc (O.out.later L)
 clear L an O
 clear Z a1 a2 a3 a4 a5 N X a8 a9 D E V
 obtain⟨Z,a1,a2,a3,a4,a5,N,X,a8,a9,D,E,V⟩:=j.out.box
 go_wp2_with fail
 refine (zg (Cx.mk z h true) I A o S q (-1) 0 1 za0 _ Y.out.tok H (by decide)).mono ?_
 rintro e w4 ⟨rfl,J⟩
 rw[h3]
 replace j:=zc (j.out.below J)
 replace n:=zc (n.out.below J)
 have ag:=zc (aa.out.below J)
 have ai:=zc (Y.out.later J)
 clear J aa Y
 clear Z a1 a2 a3 a4 a5 N X a8 a9 D E V
 obtain⟨Z,a1,a2,a3,a4,a5,N,X,a8,a9,D,E,V⟩:=j.out.box
 go_wp2_with fail
 refine (zaC (Cx.mk z h true) I A o (.ok q) S q (-1) 0 za0 _ (zU q) ai.out).mono ?_
 rintro e w5 ⟨S5,q5,z5,rfl,i5,m5,s5⟩
 replace j:=zc (j.out.stp s5)
 replace n:=zc (n.out.stp s5)
 have al:=zc (ag.out.step s5)
 clear ag
 have ah:=zc m5
 have as:=zc i5
 clear i5 m5 s5 ai
 clear Z a1 a2 a3 a4 a5 N X a8 a9 D E V
 go_wp2_with fail
 refine (zcE (Cx.mk z h true) I A o _ S5 q5 z5 _ as.out ah.out).mono ?_
 rintro e w6 ⟨S6,q6,z6,rfl,i6,m6,s6⟩
 replace j:=zc (j.out.stp s6)
 replace n:=zc (n.out.stp s6)
 have aj:=zc (al.out.step s6)
 clear al
 have ab:=zc m6
 have aq:=zc i6
 clear i6 m6 s6 ah
 go_wp2_with fail
 refine (zab (Cx.mk z h true) I A o _ S6 q6 z6 0 cSemi _ aq.out ab.out).mono ?_
 rintro e w7 ⟨S7,q7,z7,rfl,i7,m7,s7⟩
 replace j:=zc (j.out.stp s7)
 replace n:=zc (n.out.stp s7)
 have ac:=zc (aj.out.step s7)
 clear aj
 have ak:=zc m7
 have ad:=zc i7
 clear i7 m7 s7 ab
 go_wp2_with fail
 refine (zc4 (Cx.mk z h true) I A o _ S7 q7 z7 0 5 sNone _ ad.out ak.out (zaZ ad.out)).mono ?_
 rintro e w8 ⟨S8,q8,z8,rfl,i8,m8,s8⟩
 replace j:=zc (j.out.stp s8)
 replace n:=zc (n.out.stp s8)
 have ao:=zc (ac.out.step s8)
 clear ac
 have ap:=zc m8
 have ar:=zc i8
 clear i8 m8 s8 ak
 obtain⟨b0,b1,b2,b3,b4,b5,b6,b7,b8,b9,av,au,bf⟩:=n.out.box
 unfold pv
 go_wp2
 refine bodyPost_ret (results_cell_row rfl _ _ (w.heap.size+1) 53 _ (0,0) _ rfl ((n.out.put ..)).heap Tryz.underlying53 rfl (by kernel_rfl)) rfl ?_
 rw[HV.out]
 exact zW rfl ar.out (ap.out.put n.out ..) (ao.out.put (by omega) ..)
theorem zpF (z:List Tk) (h:Nat) (I A o:Nat) (S:Sv) (q:PS) (w:World) (hm:Mem (Cx.mk z h true) I A o S q w) (h0:isT (Cx.mk z h true) q.pos 1 zA=false) (h1:isT (Cx.mk z h true) q.pos 1 zO=false) (h2:isT (Cx.mk z h true) q.pos 1 zap=false) (h3:isT (Cx.mk z h true) q.pos 1 za0=false) (h4:isT (Cx.mk z h true) q.pos 1 zby=true):
  Calls Tryz.prog 21 #[pv (Cx.mk z h true) I A S q (-1) 0] w (Out (Cx.mk z h true) I A o (zy (Cx.mk z h true) q) 0 S w):=by
 have HM:=zc hm
 have aa:=hm.tok
 have H:(Cx.mk z h true).ts.length≤4000:=hm.few
 clear hm
 have HV:Hid (zy (Cx.mk z h true) q=bd (bd (bd (bd (.ok q) (zd (Cx.mk z h true) 1 zby)) (pE (Cx.mk z h true) .sum 0)) (zd (Cx.mk z h true) 4 cSemi)) (zX (Cx.mk z h true) 6 sNone)):=by show zy (Cx.mk z h true) q=_;rw[zy,h0,h1,h2,h3,h4];rfl
 unfold pv
 go_enter Tryz.func21,Tryz.ntmps21
 go_wp2_with fail
 refine (zg (Cx.mk z h true) I A o S q (-1) 0 1 zA _ (zo (zo aa _) _) H (by decide)).mono ?_
 rintro e w1 ⟨rfl,al⟩
 rw[h0]
 obtain⟨X0,X1,m1,t1⟩:=HM.out.two al
 have j:=zc X0
 have n:=zc X1
 have ac:=zc m1
 have as:=zc t1
 clear X0 X1 m1 t1 al
 clear aa
 obtain⟨V,Y,Z,X,a4,a5,N,U,a8,a9,D,E,O⟩:=j.out.box
 go_wp2_with fail
 refine (zg (Cx.mk z h true) I A o S q (-1) 0 1 zO _ ac.out.tok H (by decide)).mono ?_
 rintro e w2 ⟨rfl,L⟩
 rw[h1]
 replace j:=zc (j.out.below L)
 replace n:=zc (n.out.below L)
 have au:=zc (as.out.below L)
 have ab:=zc (ac.out.later L)
 clear L as ac
 clear V Y Z X a4 a5 N U a8 a9 D E O
 obtain⟨V,Y,Z,X,a4,a5,N,U,a8,a9,D,E,O⟩:=j.out.box
 go_wp2_with fail
 refine (zg (Cx.mk z h true) I A o S q (-1) 0 1 zap _ ab.out.tok H (by decide)).mono ?_
 rintro e w3 ⟨rfl,M⟩
 rw[h2]
 replace j:=zc (j.out.below M)
 replace n:=zc (n.out.below M)
 have ag:=zc (au.out.below M)
 have ae:=zc (ab.out.later M)
 clear M au ab
 clear V Y Z X a4 a5 N U a8 a9 D E O
 obtain⟨V,Y,Z,X,a4,a5,N,U,a8,a9,D,E,O⟩:=j.out.box
 go_wp2_with fail
 refine (zg (Cx.mk z h true) I A o S q (-1) 0 1 za0 _ ae.out.tok H (by decide)).mono ?_
 rintro e w4 ⟨rfl,J⟩
 rw[h3]
 replace j:=zc (j.out.below J)
 replace n:=zc (n.out.below J)
 have am:=zc (ag.out.below J)
 have ad:=zc (ae.out.later J)
 clear J ag ae
 clear V Y Z X a4 a5 N U a8 a9 D E O
 obtain⟨V,Y,Z,X,a4,a5,N,U,a8,a9,D,E,O⟩:=j.out.box
 go_wp2_with fail
 refine (zg (Cx.mk z h true) I A o S q (-1) 0 1 zby _ ad.out.tok H (by decide)).mono ?_
 rintro e w5 ⟨rfl,K⟩
 rw[h4]
 replace j:=zc (j.out.below K)
 replace n:=zc (n.out.below K)
 have ar:=zc (am.out.below K)
 have an:=zc (ad.out.later K)
 clear K am ad
 clear V Y Z X a4 a5 N U a8 a9 D E O
 obtain⟨V,Y,Z,X,a4,a5,N,U,a8,a9,D,E,O⟩:=j.out.box
 go_wp2_with fail
 refine (zaC (Cx.mk z h true) I A o (.ok q) S q (-1) 0 zby _ (zU q) an.out).mono ?_
 rintro e w6 ⟨S6,q6,z6,rfl,i6,m6,s6⟩
 replace j:=zc (j.out.stp s6)
 replace n:=zc (n.out.stp s6)
 have ap:=zc (ar.out.step s6)
 clear ar
 have ah:=zc m6
 have ay:=zc i6
 clear i6 m6 s6 an
 clear V Y Z X a4 a5 N U a8 a9 D E O
 go_wp2_with fail
 refine (zcE (Cx.mk z h true) I A o _ S6 q6 z6 _ ay.out ah.out).mono ?_
 rintro e w7 ⟨S7,q7,z7,rfl,i7,m7,s7⟩
 replace j:=zc (j.out.stp s7)
 replace n:=zc (n.out.stp s7)
 have ak:=zc (ap.out.step s7)
 clear ap
 have aq:=zc m7
 have ax:=zc i7
 clear i7 m7 s7 ah
 go_wp2_with fail
 refine (zab (Cx.mk z h true) I A o _ S7 q7 z7 0 cSemi _ ax.out aq.out).mono ?_
 rintro e w8 ⟨S8,q8,z8,rfl,i8,m8,s8⟩
 replace j:=zc (j.out.stp s8)
 replace n:=zc (n.out.stp s8)
 have ai:=zc (ak.out.step s8)
 clear ak
 have aj:=zc m8
 have ao:=zc i8
 clear i8 m8 s8 aq
 go_wp2_with fail
 refine (zc4 (Cx.mk z h true) I A o _ S8 q8 z8 0 6 sNone _ ao.out aj.out (zaZ ao.out)).mono ?_
 rintro e w9 ⟨S9,q9,z9,rfl,i9,m9,s9⟩
 replace j:=zc (j.out.stp s9)
 replace n:=zc (n.out.stp s9)
 have av:=zc (ai.out.step s9)
 clear ai
 have az:=zc m9
 have aw:=zc i9
 clear i9 m9 s9 aj
 obtain⟨b0,b1,b2,b3,b4,b5,b6,b7,b8,b9,aB,aA,bf⟩:=n.out.box
 unfold pv
 go_wp2
 refine bodyPost_ret (results_cell_row rfl _ _ (w.heap.size+1) 53 _ (0,0) _ rfl ((n.out.put ..)).heap Tryz.underlying53 rfl (by kernel_rfl)) rfl ?_
 rw[HV.out]
 exact zW rfl aw.out (az.out.put n.out ..) (av.out.put (by omega) ..)
theorem zpG (A:List Tk) (h:Nat) (K D z:Nat) (S:Sv) (q:PS) (w:World) (hm:Mem (Cx.mk A h true) K D z S q w) (h0:isT (Cx.mk A h true) q.pos 1 zA=false) (h1:isT (Cx.mk A h true) q.pos 1 zO=false) (h2:isT (Cx.mk A h true) q.pos 1 zap=false) (h3:isT (Cx.mk A h true) q.pos 1 za0=false) (h4:isT (Cx.mk A h true) q.pos 1 zby=false):
  Calls Tryz.prog 21 #[pv (Cx.mk A h true) K D S q (-1) 0] w (Out (Cx.mk A h true) K D z (zy (Cx.mk A h true) q) 0 S w):=by
 have HM:=zc hm
 have ab:=hm.tok
 have J:(Cx.mk A h true).ts.length≤4000:=hm.few
 clear hm
 have HV:Hid (zy (Cx.mk A h true) q=bd (bd (.ok q) (zh (Cx.mk A h true) false)) fun a=>bd (bd (bd (bd (.ok a.1) (zd (Cx.mk A h true) 4 cEq)) (pE (Cx.mk A h true) .sum 0)) (zd (Cx.mk A h true) 4 cSemi)) (zX (Cx.mk A h true) 3 a.2)):=by show zy (Cx.mk A h true) q=_;rw[zy,h0,h1,h2,h3,h4];rfl
 unfold pv
 go_enter Tryz.func21,Tryz.ntmps21
 go_wp2_with fail
 refine (zg (Cx.mk A h true) K D z S q (-1) 0 1 zA _ (zo (zo ab _) _) J (by decide)).mono ?_
 rintro e w1 ⟨rfl,ap⟩
 rw[h0]
 obtain⟨X0,X1,m1,t1⟩:=HM.out.two ap
 have j:=zc X0
 have o:=zc X1
 have ah:=zc m1
 have aF:=zc t1
 clear X0 X1 m1 t1 ap
 clear ab
 obtain⟨a0,a1,a2,a3,a4,a5,X,Z,a8,a9,E,I,Y⟩:=j.out.box
 go_wp2_with fail
 refine (zg (Cx.mk A h true) K D z S q (-1) 0 1 zO _ ah.out.tok J (by decide)).mono ?_
 rintro e w2 ⟨rfl,O⟩
 rw[h1]
 replace j:=zc (j.out.below O)
 replace o:=zc (o.out.below O)
 have aG:=zc (aF.out.below O)
 have ae:=zc (ah.out.later O)
 clear O aF ah
 clear a0 a1 a2 a3 a4 a5 X Z a8 a9 E I Y
 obtain⟨a0,a1,a2,a3,a4,a5,X,Z,a8,a9,E,I,Y⟩:=j.out.box
 go_wp2_with fail
 refine (zg (Cx.mk A h true) K D z S q (-1) 0 1 zap _ ae.out.tok J (by decide)).mono ?_
 rintro e w3 ⟨rfl,U⟩
 rw[h2]
 replace j:=zc (j.out.below U)
 replace o:=zc (o.out.below U)
 have al:=zc (aG.out.below U)
 have aj:=zc (ae.out.later U)
 clear U aG ae
 clear a0 a1 a2 a3 a4 a5 X Z a8 a9 E I Y
 obtain⟨a0,a1,a2,a3,a4,a5,X,Z,a8,a9,E,I,Y⟩:=j.out.box
 go_wp2_with fail
 refine (zg (Cx.mk A h true) K D z S q (-1) 0 1 za0 _ aj.out.tok J (by decide)).mono ?_
 rintro e w4 ⟨rfl,L⟩
 rw[h3]
 replace j:=zc (j.out.below L)
 replace o:=zc (o.out.below L)
 have aq:=zc (al.out.below L)
 have ai:=zc (aj.out.later L)
 clear L al aj
 clear a0 a1 a2 a3 a4 a5 X Z a8 a9 E I Y
 obtain⟨a0,a1,a2,a3,a4,a5,X,Z,a8,a9,E,I,Y⟩:=j.out.box
 go_wp2_with fail
 refine (zg (Cx.mk A h true) K D z S q (-1) 0 1 zby _ ai.out.tok J (by decide)).mono ?_
 rintro e w5 ⟨rfl,N⟩
 rw[h4]
 replace j:=zc (j.out.below N)
 replace o:=zc (o.out.below N)
 have aC:=zc (aq.out.below N)
 have au:=zc (ai.out.later N)
 clear N aq ai
 clear a0 a1 a2 a3 a4 a5 X Z a8 a9 E I Y
 obtain⟨a0,a1,a2,a3,a4,a5,X,Z,a8,a9,E,I,Y⟩:=j.out.box
 go_wp2_with fail
 refine (zaU (Cx.mk A h true) K D z (.ok q) S q (-1) 0 false _ (zU q) au.out).mono ?_
 rintro e w6 ⟨S6,q6,z6,n6,rfl,i6,m6,s6⟩
 replace j:=zc (j.out.stp s6)
 replace o:=zc (o.out.stp s6)
 have ax:=zc (aC.out.step s6)
 clear aC
 have ag:=zc m6
 have ar:=zc i6
 clear i6 m6 s6 au
 clear a0 a1 a2 a3 a4 a5 X Z a8 a9 E I Y
 have aO:w.heap.size+1<w6.heap.size:=o.out.lt
 unfold pv
 go_upto_region 19 with fail
 refine zJ (R:=fun W=>Bx K S6 W (w.heap.size) _∧Bx K S6 W (w.heap.size+1) _∧Bx K S6 W (w6.heap.size) _∧Mem (Cx.mk A h true) K D z S6 q6 W∧SB w.heap.size S w S6 W) ⟨(j.out.alloc _),(o.out.alloc _),(Bx.new ag.out _),(ag.out.alloc _),(ax.out.alloc _)⟩ ?_
 clear j o ax ag
 rintro w7 ⟨X0,X1,X2,m7,t7⟩
 have j:=zc X0
 have o:=zc X1
 have H:=zc X2
 have ay:=zc m7
 have ao:=zc t7
 clear m7 t7 X0 X1 X2
 obtain⟨c0,c1,c2,c3,c4,c5,c6,c7,c8,c9,aI,aN,cf⟩:=H.out.box
 go_wp2_with fail
 refine (zab (Cx.mk A h true) K D z _ S6 q6 z6 0 cEq _ ar.out.fst ay.out).mono ?_
 rintro e w8 ⟨S8,q8,z8,rfl,i8,m8,s8⟩
 replace j:=zc (j.out.stp s8)
 replace o:=zc (o.out.stp s8)
 replace H:=zc (H.out.stp s8)
 have am:=zc (ao.out.step s8)
 clear ao
 have an:=zc m8
 have aJ:=zc i8
 clear i8 m8 s8 ay
 clear c0 c1 c2 c3 c4 c5 c6 c7 c8 c9 aI aN cf
 go_wp2_with fail
 refine (zcE (Cx.mk A h true) K D z _ S8 q8 z8 _ aJ.out an.out).mono ?_
 rintro e w9 ⟨S9,q9,z9,rfl,i9,m9,s9⟩
 replace j:=zc (j.out.stp s9)
 replace o:=zc (o.out.stp s9)
 replace H:=zc (H.out.stp s9)
 have ak:=zc (am.out.step s9)
 clear am
 have av:=zc m9
 have aH:=zc i9
 clear i9 m9 s9 an
 go_wp2_with fail
 refine (zab (Cx.mk A h true) K D z _ S9 q9 z9 0 cSemi _ aH.out av.out).mono ?_
 rintro e aR ⟨aL,aK,aM,rfl,aA,aD,V⟩
 replace j:=zc (j.out.stp V)
 replace o:=zc (o.out.stp V)
 replace H:=zc (H.out.stp V)
 have aa:=zc (ak.out.step V)
 clear ak
 have ad:=zc aD
 have ac:=zc aA
 clear aA aD V av
 go_wp2_with fail
 refine (zc4 (Cx.mk A h true) K D z _ aL aK aM 0 3 n6 _ ac.out ad.out (zaZ ac.out)).mono ?_
 rintro e aV ⟨aS,aT,aU,rfl,aE,aB,M⟩
 replace j:=zc (j.out.stp M)
 replace o:=zc (o.out.stp M)
 replace H:=zc (H.out.stp M)
 have as:=zc (aa.out.step M)
 clear aa
 have az:=zc aB
 have aw:=zc aE
 clear aE aB M ad
 obtain⟨b0,b1,b2,b3,b4,b5,b6,b7,b8,b9,aQ,aP,bf⟩:=o.out.box
 unfold pv
 go_wp2
 refine bodyPost_ret (results_cell_row rfl _ _ (w.heap.size+1) 53 _ (0,0) _ rfl ((o.out.put ..)).heap Tryz.underlying53 rfl (by kernel_rfl)) rfl ?_
 rw[HV.out,←ar.out.bind (fun q n=>bd (bd (bd (bd (.ok q) (zd (Cx.mk A h true) 4 cEq)) (pE (Cx.mk A h true) .sum 0)) (zd (Cx.mk A h true) 4 cSemi)) (zX (Cx.mk A h true) 3 n)),←zjr]
 exact zW rfl aw.out (az.out.put o.out ..) (as.out.put (by omega) ..)
theorem zpH (o:List Tk) (h:Nat) (z n j:Nat) (S:Sv) (q:PS) (w:World) (D:Mem (Cx.mk o h true) z n j S q w):
  Calls Tryz.prog 21 #[pv (Cx.mk o h true) z n S q (-1) 0] w (Out (Cx.mk o h true) z n j (zy (Cx.mk o h true) q) 0 S w):=by
 cases A:isT (Cx.mk o h true) q.pos 1 zA with
 |true=>exact zpB o h z n j S q w D A
 |false=>
  cases E:isT (Cx.mk o h true) q.pos 1 zO with
  |true=>exact zpC o h z n j S q w D A E
  |false=>
   cases H:isT (Cx.mk o h true) q.pos 1 zap with
   |true=>exact zpD o h z n j S q w D A E H
   |false=>
    cases I:isT (Cx.mk o h true) q.pos 1 za0 with
    |true=>exact zpE o h z n j S q w D A E H I
    |false=>
     cases J:isT (Cx.mk o h true) q.pos 1 zby with
     |true=>exact zpF o h z n j S q w D A E H I J
     |false=>
      exact zpG o h z n j S q w D A E H I J
end Go.Proofs.YticdggnnpjachaaGreat
