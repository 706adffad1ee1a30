/-
  What spec's l4Import answers: the walks.
  What spec's l4Export answers: the walks.
  What spec's l4Export answers to a list of names: the walks.
-/
import Derived.Deep.RegionLaw
import Derived.Test.YtmnemfookpjhiaaGreatClSpecRowToSpecParseJ
import Derived.Test.YtmnemfookpjhiaaGreatClSpecParseK
namespace Go.Proofs.YtmnemfookpjhiaaGreat
set_option maxRecDepth 100000
set_option maxHeartbeats 6400000
open Go.RowKit Go.PlainAid
theorem zgm {C:Cx} {k:Int} {s:ByteArray} {q q1:PS} {z1:Int} (h:Is (bd (.ok q) (tokP C k s)) q1 z1) (hw:isT C q.pos k s=true):q1=adv q∧z1= -1:=by
 rw[zbe,tokP,if_pos hw] at h
 exact h
theorem zhr {α:Type} (f:α→PS→PR) (l:List α) (e:Nat):zbg f l (.error e)= .error e:=by
 induction l with
 |nil=>rfl
 |cons a l ih=>exact ih
theorem zkk {α:Type} (f:α→PS→PR) (l:List α) (x:PR) {k:Nat} (hk:k<l.length):zbg f (l.drop k) x=zbg f (l.drop (k+1)) (bd x (f (l[k]))):=by
 rw[List.drop_eq_getElem_cons hk]
 rfl
theorem zxk {C:Cx} {ya:PRN} {qa qb:PS} {za zb:Int} {na nb:ByteArray} {G:ByteArray→ByteArray→PS→PR} (ha:Is2 ya qa za na) (hb:Is2 (bd (bd (fstP ya) (tokP C 1 zbw)) (zbl C)) qb zb nb):
  bd (bd (fstP (bd (bd (fstP ya) (tokP C 1 zbw)) (zbl C))) (tokP C 4 cSemi)) (G nb na)=bd ya fun a=>bd (zel C (zdj C (.ok a.1))) fun b=>G b.2 a.2 b.1:=by
 cases ya with
 |error e=>rfl
 |ok a=>
  obtain⟨_,_,rfl⟩:=ha
  have e1:bd (bd (fstP (.ok a)) (tokP C 1 zbw)) (zbl C)=zdj C (.ok a.1):=rfl
  rw[e1] at hb ⊢
  rw[zbe]
  cases hY:zdj C (.ok a.1) with
  |error e=>rfl
  |ok b=>
   rw[hY] at hb
   obtain⟨_,_,rfl⟩:=hb
   show bd (tokP C 4 cSemi b.1) (G b.2 a.2)=bd (bd (tokP C 4 cSemi b.1) fun q=>.ok (q,b.2)) fun b=>G b.2 a.2 b.1
   rw[zbr]
   rfl
def fstL (y:PRL):PR:=bd y fun a=>.ok a.1
theorem Is3.fst {y:PRL} {q:PS} {z:Int} {l:List Ep} (h:Is3 y q z l):Is (fstL y) q z:=by
 cases y with
 |ok a=>exact⟨h.1,h.2.1⟩
 |error e=>exact h
theorem zpa {C:Cx} {y:PRL} {qa qb:PS} {za zb:Int} {l:List Ep} {nb:ByteArray} {G:ByteArray→Ep→PS→PR} (ha:Is3 y qa za l) (hb:Is2 (bd (bd (fstL y) (tokP C 1 zbw)) (zbl C)) qb zb nb):
  zbg (G nb) l (bd (fstP (bd (bd (fstL y) (tokP C 1 zbw)) (zbl C))) (tokP C 4 cSemi))=bd y fun a=>bd (zel C (zdj C (.ok a.1))) fun b=>zbg (G b.2) a.2 (.ok b.1):=by
 cases y with
 |error e=>exact zhr _ _ _
 |ok a=>
  obtain⟨_,_,rfl⟩:=ha
  have e1:bd (bd (fstL (.ok a)) (tokP C 1 zbw)) (zbl C)=zdj C (.ok a.1):=rfl
  rw[e1] at hb ⊢
  rw[zbe]
  cases hY:zdj C (.ok a.1) with
  |error e=>exact zhr _ _ _
  |ok b=>
   rw[hY] at hb
   obtain⟨_,_,rfl⟩:=hb
   show zbg (G b.2) a.2 (bd (fstP (.ok b)) (tokP C 4 cSemi))=bd (bd (tokP C 4 cSemi b.1) fun q=>.ok (q,b.2)) fun b=>zbg (G b.2) a.2 (.ok b.1)
   have e2:bd (fstP (.ok b)) (tokP C 4 cSemi)=tokP C 4 cSemi b.1:=rfl
   rw[e2,zbr]
   cases tokP C 4 cSemi b.1 with
   |error e=>exact zhr _ _ _
   |ok c=>rfl
theorem Mem.drew {C:Cx} {gt cap base:Nat} {S:Sv} {q:PS} {w:World} (h:Mem C gt cap base S q w):Mem C gt cap base S q w.drew:=⟨⟨h.own.rq,h.own.im,h.own.ep,h.own.st,h.own.ex,h.own.la,h.own.apart⟩,h.inv,h.tok,h.few,h.base⟩
theorem Stp.undrew {S S':Sv} {w w':World} (h:Stp S w.drew S' w'):Stp S w S' w':=⟨h.os,h.tape,h.output,h.size,h.block,h.sub⟩
theorem Row.cells {S:Sv} {w:World} {base B g:Nat} {r:Rw} {l:List Ep} (h:Row S w base B r l) (hg:r.a=some ⟨g,0,none⟩) {j:Nat} (hj:j<l.length):
  w.cell? ⟨g,j*4+1,none⟩=some (.string (l[j]).name)∧w.cell? ⟨g,j*4+2,none⟩=some (.string (l[j]).loc):=by
 have ho:=h.own
 unfold OwnR at ho
 rw[hg] at ho
 have Cb: ∀(l:List Ep) (i c:Nat) (hc:c<4) (hi:i<l.length),(l.flatMap epL)[i*4+c]? =(epL l[i])[c]?:=by
  intro l
  induction l with
  |nil=>intro i c _ hi;simp at hi
  |cons x l ih=>
   intro i c hc hi
   match i with
   |0=>
    simp only[List.flatMap_cons,Nat.zero_mul,Nat.zero_add,List.getElem_cons_zero]
    rw[List.getElem?_append_left (by simp[epL];omega)]
   |i+1=>
    simp only[List.flatMap_cons,List.getElem_cons_succ]
    rw[List.getElem?_append_right (by simp[epL];omega)]
    have e:(i+1)*4+c-(epL x).length=i*4+c:=by simp[epL];omega
    rw[e]
    exact ih i c hc (by L0 using hi)
 rw[ho.cellAt _ (by omega),ho.cellAt _ (by omega)]
 exact⟨Cb l j 1 (by omega) hj,Cb l j 2 (by omega) hj⟩
theorem zbge {C:Cx} {y:Im} {x:PR} {q q':PS} {z z':Int} (hp:z<0→1≤q.pos) (hi:Is x q z) (h:Is (bd x (zcm C y)) q' z'):z'<0→1≤q'.pos:=by
 intro hz
 obtain⟨e,_⟩:=zcs h hz
 obtain⟨a,e1,e2⟩:=zc e
 subst e1
 obtain⟨rfl,rfl⟩:=hi
 unfold zcm at e2
 split at e2
 ·cases e2
 ·cases e2
  exact hp (by decide)
theorem zpb {C:Cx} {y:Ep} {x:PR} {q q':PS} {z z':Int} (hp:z<0→1≤q.pos) (hi:Is x q z) (h:Is (bd x (zv C y)) q' z'):z'<0→1≤q'.pos:=by
 intro hz
 obtain⟨e,_⟩:=zcs h hz
 obtain⟨a,e1,e2⟩:=zc e
 subst e1
 obtain⟨rfl,rfl⟩:=hi
 unfold zv at e2
 split at e2
 ·cases e2
 ·split at e2
  ·cases e2
   exact hp (by decide)
  ·cases e2
   exact hp (by decide)
theorem zvf (C:Cx) (gt cap base:Nat) (S:Sv) (q:PS) (w:World) (hm:Mem C gt cap base S q w) (hw:isT C q.pos 1 zbp=true) (h1:isT C (q.pos+1) 4 zbo=false) (h2:isT C (q.pos+1) 4 zbb=true):
  Calls Tryz.prog 120 #[pv C gt cap S q (-1) 0] w (Out C gt cap base (zcw C q) 0 S w):=by
 have HM:=hidI hm
 have I0:=hm.few
 clear hm
 have HV:Hid (zcw C q=bd (bd (bd (bd (.ok (adv q)) (tokP C 4 zbb)) (tokP C 1 sAs)) (zn C false)) fun a=>bd (zel C (zdj C (.ok a.1))) fun b=>zcm C ⟨b.2,zbb,a.2⟩ b.1):=by
  show _=_
  rw[zcw,tokP,if_pos hw,zbe]
  rw[zp,h1,h2]
  rfl
 unfold pv
 go_enter Tryz.func120,Tryz.ntmps120
 go_wp2_with f0
 refine (zbh C gt cap base (.ok q) S q (-1) 0 zbp _ (zby q) ((HM.out.alloc _).alloc _)).mono ?_
 rintro e w1 ⟨S1,q1,z1,rfl,i1,m1,s1⟩
 obtain⟨X0,X1,t1⟩:=HM.out.two2 s1
 have j0:=hidI X0
 have n0:=hidI X1
 have Q0:=hidI m1
 have N1:=hidI t1
 have L6:=hidI i1
 clear X0 X1 i1 m1 t1 s1
 obtain⟨l7,rfl⟩:=zgm L6.out hw
 have HQ:=hidI l7
 have u6:Hid (q1.pos=q.pos+1):=by show q1.pos=q.pos+1;rw[l7];rfl
 clear l7 L6
 obtain⟨a0,a1,a2,a3,a4,a5,a6,a7,a8,a9,E0,B0,af⟩:=j0.out.box
 unfold pv
 go_upto_region 2 with f0
 refine zo (R:=fun W=>Bx gt S1 W (w.heap.size) _∧Bx gt S1 W (w.heap.size+1) _∧Mem C gt cap base S1 q1 W∧SB w.heap.size S w S1 W) ⟨(j0.out.put _ _ _ _ _ _ _ _ _ _ _ _),(n0.out.other (by omega) _ _ _ _ _ _ _ _ _ _ _ _),(Q0.out.put j0.out _ _ _ _ _ _ _ _ _ _ _ _),(N1.out.put (by omega) _ _ _ _ _ _ _ _ _ _ _ _)⟩ ?_
 clear a0 a1 a2 a3 a4 a5 a6 a7 a8 a9 E0 B0 af
 clear j0 n0 N1 Q0
 rintro w2 ⟨X0,X1,m2,t2⟩
 have j0:=hidI X0
 have n0:=hidI X1
 have M0:=hidI m2
 have F1:=hidI t2
 clear m2 t2 X0 X1
 obtain⟨a0,a1,a2,a3,a4,a5,a6,a7,a8,a9,E0,B0,af⟩:=j0.out.box
 go_wp2_with f0
 refine (zf C gt cap base S1 q1 (-1) 0 4 zbo _ M0.out.tok I0 (by decide)).mono ?_
 rintro e w3 ⟨rfl,N0⟩
 rw[u6.out,h1]
 replace j0:=hidI (j0.out.below N0)
 replace n0:=hidI (n0.out.below N0)
 have Q1:=hidI (F1.out.below N0)
 have U0:=hidI (M0.out.later N0)
 clear N0 F1 M0
 clear a0 a1 a2 a3 a4 a5 a6 a7 a8 a9 E0 B0 af
 obtain⟨a0,a1,a2,a3,a4,a5,a6,a7,a8,a9,E0,B0,af⟩:=j0.out.box
 go_wp2_with f0
 refine (zf C gt cap base S1 q1 (-1) 0 4 zbb _ U0.out.tok I0 (by decide)).mono ?_
 rintro e w4 ⟨rfl,Z0⟩
 rw[u6.out,h2]
 replace j0:=hidI (j0.out.below Z0)
 replace n0:=hidI (n0.out.below Z0)
 have F2:=hidI (Q1.out.below Z0)
 have V1:=hidI (U0.out.later Z0)
 clear Z0 Q1 U0
 clear a0 a1 a2 a3 a4 a5 a6 a7 a8 a9 E0 B0 af
 obtain⟨a0,a1,a2,a3,a4,a5,a6,a7,a8,a9,E0,B0,af⟩:=j0.out.box
 clear u6
 go_wp2_with f0
 refine (zq C gt cap base (.ok q1) S1 q1 (-1) 0 zbb _ (zby q1) V1.out).mono ?_
 rintro e w5 ⟨S5,q5,z5,rfl,i5,m5,s5⟩
 replace j0:=hidI (j0.out.stp s5)
 replace n0:=hidI (n0.out.stp s5)
 have P2:=hidI (F2.out.step s5)
 clear F2
 have Z1:=hidI m5
 have T7:=hidI i5
 clear i5 m5 s5 V1
 clear a0 a1 a2 a3 a4 a5 a6 a7 a8 a9 E0 B0 af
 go_wp2_with f0
 refine (zbh C gt cap base _ S5 q5 z5 0 sAs _ T7.out Z1.out).mono ?_
 rintro e w6 ⟨S6,q6,z6,rfl,i6,m6,s6⟩
 replace j0:=hidI (j0.out.stp s6)
 replace n0:=hidI (n0.out.stp s6)
 have J2:=hidI (P2.out.step s6)
 clear P2
 have j2:=hidI m6
 have D7:=hidI i6
 clear i6 m6 s6 Z1
 go_wp2_with f0
 refine (zcb C gt cap base _ S6 q6 z6 0 false _ D7.out j2.out).mono ?_
 rintro e w7 ⟨S7,q7,z7,n7,rfl,i7,m7,s7⟩
 replace j0:=hidI (j0.out.stp s7)
 replace n0:=hidI (n0.out.stp s7)
 have P3:=hidI (J2.out.step s7)
 clear J2
 have N2:=hidI m7
 have Z5:=hidI i7
 clear i7 m7 s7 j2
 have u5:w.heap.size+1<w7.heap.size:=n0.out.lt
 unfold pv
 go_upto_region 13 with f0
 refine zo (R:=fun W=>Bx gt S7 W (w.heap.size) _∧Bx gt S7 W (w.heap.size+1) _∧Bx gt S7 W (w7.heap.size) _∧Mem C gt cap base S7 q7 W∧SB w.heap.size S w S7 W) ⟨(j0.out.alloc _),(n0.out.alloc _),(Bx.new N2.out _),(N2.out.alloc _),(P3.out.alloc _)⟩ ?_
 clear j0 n0 P3 N2
 rintro w8 ⟨X0,X1,X2,m8,t8⟩
 have j0:=hidI X0
 have n0:=hidI X1
 have G0:=hidI X2
 have H4:=hidI m8
 have J4:=hidI t8
 clear m8 t8 X0 X1 X2
 obtain⟨c0,c1,c2,c3,c4,c5,c6,c7,c8,c9,c10,c11,cf⟩:=G0.out.box
 go_wp2_with f0
 refine (zbh C gt cap base _ S7 q7 z7 0 zbw _ Z5.out.fst H4.out).mono ?_
 rintro e w9 ⟨S9,q9,z9,rfl,i9,m9,s9⟩
 replace j0:=hidI (j0.out.stp s9)
 replace n0:=hidI (n0.out.stp s9)
 replace G0:=hidI (G0.out.stp s9)
 have J5:=hidI (J4.out.step s9)
 clear J4
 have G5:=hidI m9
 have y6:=hidI i9
 clear i9 m9 s9 H4
 clear c0 c1 c2 c3 c4 c5 c6 c7 c8 c9 c10 c11 cf
 go_wp2_with f0
 refine (zgl C gt cap base _ S9 q9 z9 0 _ y6.out G5.out).mono ?_
 rintro e G8 ⟨Q6,X8,r9,n10,rfl,N6,V5,U3⟩
 replace j0:=hidI (j0.out.stp U3)
 replace n0:=hidI (n0.out.stp U3)
 replace G0:=hidI (G0.out.stp U3)
 have l6:=hidI (J5.out.step U3)
 clear J5
 have A5:=hidI V5
 have A6:=hidI N6
 clear N6 V5 U3 G5
 have Ta:w.heap.size+1<G8.heap.size:=n0.out.lt
 have Za:w7.heap.size<G8.heap.size:=G0.out.lt
 unfold pv
 go_upto_region 14 with f0
 refine zo (R:=fun W=>Bx gt Q6 W (w.heap.size) _∧Bx gt Q6 W (w.heap.size+1) _∧Bx gt Q6 W (w7.heap.size) _∧Bx gt Q6 W (G8.heap.size) _∧Mem C gt cap base Q6 X8 W∧SB w.heap.size S w Q6 W) ⟨(j0.out.alloc _),(n0.out.alloc _),(G0.out.alloc _),(Bx.new A5.out _),(A5.out.alloc _),(l6.out.alloc _)⟩ ?_
 clear j0 n0 G0 l6 A5
 rintro Ld ⟨X0,X1,X2,X3,u9,Ge⟩
 have j0:=hidI X0
 have n0:=hidI X1
 have G0:=hidI X2
 have G4:=hidI X3
 have o8:=hidI u9
 have p8:=hidI Ge
 clear u9 Ge X0 X1 X2 X3
 obtain⟨d0,d1,d2,d3,d4,d5,d6,d7,d8,d9,V7,W7,df⟩:=G4.out.box
 go_wp2_with f0
 refine (zq C gt cap base _ Q6 X8 r9 0 cSemi _ A6.out.fst o8.out).mono ?_
 rintro e w12 ⟨S12,q12,z12,rfl,bc,Bb,Q8⟩
 replace j0:=hidI (j0.out.stp Q8)
 replace n0:=hidI (n0.out.stp Q8)
 replace G0:=hidI (G0.out.stp Q8)
 replace G4:=hidI (G4.out.stp Q8)
 have Qa:=hidI (p8.out.step Q8)
 clear p8
 have Va:=hidI Bb
 have pc:=hidI bc
 clear bc Bb Q8 o8
 clear d0 d1 d2 d3 d4 d5 d6 d7 d8 d9 V7 W7 df
 go_wp2_with f0
 refine (zno C gt cap base _ S12 q12 z12 0 ⟨n10,zbb,n7⟩ _ pc.out Va.out (zdi pc.out)).mono ?_
 rintro e w13 ⟨S13,q13,z13,rfl,mf,Ye,Qb⟩
 replace j0:=hidI (j0.out.stp Qb)
 replace n0:=hidI (n0.out.stp Qb)
 replace G0:=hidI (G0.out.stp Qb)
 replace G4:=hidI (G4.out.stp Qb)
 have Ff:=hidI (Qa.out.step Qb)
 clear Qa
 have Jf:=hidI Ye
 have Lf:=hidI mf
 clear mf Ye Qb Va
 obtain⟨b0,b1,b2,b3,b4,b5,b6,b7,b8,b9,Z4,j5,bf⟩:=n0.out.box
 unfold pv
 go_wp2
 refine bodyPost_ret (results_cell_row rfl _ _ (w.heap.size+1) 100 _ (0,0) _ rfl ((n0.out.put _ _ _ _ _ _ _ _ _ _ _ _)).heap Tryz.underlying100 rfl (by o0)) rfl ?_
 rw[HV.out,←HQ.out,←zxk (G:=fun b a=>zcm C ⟨b,zbb,a⟩) Z5.out A6.out]
 exact zx rfl Lf.out (Jf.out.put n0.out _ _ _ _ _ _ _ _ _ _ _ _) (Ff.out.put (by omega) _ _ _ _ _ _ _ _ _ _ _ _)
theorem zti (C:Cx) (gt cap base:Nat) (S:Sv) (q:PS) (w:World) (hm:Mem C gt cap base S q w) (hw:isT C q.pos 1 zbp=true) (h1:isT C (q.pos+1) 4 zbo=false) (h2:isT C (q.pos+1) 4 zbb=false) (h3:zba C (q.pos+1) false=true):
  Calls Tryz.prog 120 #[pv C gt cap S q (-1) 0] w (Out C gt cap base (zcw C q) 0 S w):=by
 have HM:=hidI hm
 have I0:=hm.few
 clear hm
 have HV:Hid (zcw C q=bd (bd (.ok (adv q)) (zn C false)) fun a=>bd (zel C (zdj C (.ok a.1))) fun b=>zcm C ⟨b.2,sDefault,a.2⟩ b.1):=by
  show _=_
  rw[zcw,tokP,if_pos hw,zbe]
  rw[zp,h1,h2,h3]
  rfl
 unfold pv
 go_enter Tryz.func120,Tryz.ntmps120
 go_wp2_with f0
 refine (zbh C gt cap base (.ok q) S q (-1) 0 zbp _ (zby q) ((HM.out.alloc _).alloc _)).mono ?_
 rintro e w1 ⟨S1,q1,z1,rfl,i1,m1,s1⟩
 obtain⟨X0,X1,t1⟩:=HM.out.two2 s1
 have j0:=hidI X0
 have n0:=hidI X1
 have Q0:=hidI m1
 have N1:=hidI t1
 have L6:=hidI i1
 clear X0 X1 i1 m1 t1 s1
 obtain⟨l7,rfl⟩:=zgm L6.out hw
 have HQ:=hidI l7
 have u6:Hid (q1.pos=q.pos+1):=by show q1.pos=q.pos+1;rw[l7];rfl
 clear l7 L6
 obtain⟨a0,a1,a2,a3,a4,a5,a6,a7,a8,a9,E0,B0,af⟩:=j0.out.box
 unfold pv
 go_upto_region 2 with f0
 refine zo (R:=fun W=>Bx gt S1 W (w.heap.size) _∧Bx gt S1 W (w.heap.size+1) _∧Mem C gt cap base S1 q1 W∧SB w.heap.size S w S1 W) ⟨(j0.out.put _ _ _ _ _ _ _ _ _ _ _ _),(n0.out.other (by omega) _ _ _ _ _ _ _ _ _ _ _ _),(Q0.out.put j0.out _ _ _ _ _ _ _ _ _ _ _ _),(N1.out.put (by omega) _ _ _ _ _ _ _ _ _ _ _ _)⟩ ?_
 clear a0 a1 a2 a3 a4 a5 a6 a7 a8 a9 E0 B0 af
 clear j0 n0 N1 Q0
 rintro w2 ⟨X0,X1,m2,t2⟩
 have j0:=hidI X0
 have n0:=hidI X1
 have M0:=hidI m2
 have F1:=hidI t2
 clear m2 t2 X0 X1
 obtain⟨a0,a1,a2,a3,a4,a5,a6,a7,a8,a9,E0,B0,af⟩:=j0.out.box
 go_wp2_with f0
 refine (zf C gt cap base S1 q1 (-1) 0 4 zbo _ M0.out.tok I0 (by decide)).mono ?_
 rintro e w3 ⟨rfl,N0⟩
 rw[u6.out,h1]
 replace j0:=hidI (j0.out.below N0)
 replace n0:=hidI (n0.out.below N0)
 have Q1:=hidI (F1.out.below N0)
 have U0:=hidI (M0.out.later N0)
 clear N0 F1 M0
 clear a0 a1 a2 a3 a4 a5 a6 a7 a8 a9 E0 B0 af
 obtain⟨a0,a1,a2,a3,a4,a5,a6,a7,a8,a9,E0,B0,af⟩:=j0.out.box
 go_wp2_with f0
 refine (zf C gt cap base S1 q1 (-1) 0 4 zbb _ U0.out.tok I0 (by decide)).mono ?_
 rintro e w4 ⟨rfl,Z0⟩
 rw[u6.out,h2]
 replace j0:=hidI (j0.out.below Z0)
 replace n0:=hidI (n0.out.below Z0)
 have F2:=hidI (Q1.out.below Z0)
 have V1:=hidI (U0.out.later Z0)
 clear Z0 Q1 U0
 clear a0 a1 a2 a3 a4 a5 a6 a7 a8 a9 E0 B0 af
 obtain⟨a0,a1,a2,a3,a4,a5,a6,a7,a8,a9,E0,B0,af⟩:=j0.out.box
 go_wp2_with f0
 refine (zjg C gt cap base S1 q1 (-1) 0 false _ V1.out.tok I0).mono ?_
 rintro e w5 ⟨rfl,E3⟩
 rw[u6.out,h3]
 replace j0:=hidI (j0.out.below E3)
 replace n0:=hidI (n0.out.below E3)
 have P2:=hidI (F2.out.below E3)
 have Z1:=hidI (V1.out.later E3)
 clear E3 F2 V1
 clear a0 a1 a2 a3 a4 a5 a6 a7 a8 a9 E0 B0 af
 obtain⟨a0,a1,a2,a3,a4,a5,a6,a7,a8,a9,E0,B0,af⟩:=j0.out.box
 clear u6
 go_wp2_with f0
 refine (zcb C gt cap base (.ok q1) S1 q1 (-1) 0 false _ (zby q1) Z1.out).mono ?_
 rintro e w6 ⟨S6,q6,z6,n6,rfl,i6,m6,s6⟩
 replace j0:=hidI (j0.out.stp s6)
 replace n0:=hidI (n0.out.stp s6)
 have J2:=hidI (P2.out.step s6)
 clear P2
 have j2:=hidI m6
 have D7:=hidI i6
 clear i6 m6 s6 Z1
 clear a0 a1 a2 a3 a4 a5 a6 a7 a8 a9 E0 B0 af
 have u5:w.heap.size+1<w6.heap.size:=n0.out.lt
 unfold pv
 go_upto_region 17 with f0
 refine zo (R:=fun W=>Bx gt S6 W (w.heap.size) _∧Bx gt S6 W (w.heap.size+1) _∧Bx gt S6 W (w6.heap.size) _∧Mem C gt cap base S6 q6 W∧SB w.heap.size S w S6 W) ⟨(j0.out.alloc _),(n0.out.alloc _),(Bx.new j2.out _),(j2.out.alloc _),(J2.out.alloc _)⟩ ?_
 clear j0 n0 J2 j2
 rintro w7 ⟨X0,X1,X2,m7,t7⟩
 have j0:=hidI X0
 have n0:=hidI X1
 have G0:=hidI X2
 have N2:=hidI m7
 have P3:=hidI t7
 clear m7 t7 X0 X1 X2
 obtain⟨c0,c1,c2,c3,c4,c5,c6,c7,c8,c9,c10,c11,cf⟩:=G0.out.box
 go_wp2_with f0
 refine (zbh C gt cap base _ S6 q6 z6 0 zbw _ D7.out.fst N2.out).mono ?_
 rintro e w8 ⟨S8,q8,z8,rfl,i8,m8,s8⟩
 replace j0:=hidI (j0.out.stp s8)
 replace n0:=hidI (n0.out.stp s8)
 replace G0:=hidI (G0.out.stp s8)
 have J4:=hidI (P3.out.step s8)
 clear P3
 have H4:=hidI m8
 have H7:=hidI i8
 clear i8 m8 s8 N2
 clear c0 c1 c2 c3 c4 c5 c6 c7 c8 c9 c10 c11 cf
 go_wp2_with f0
 refine (zgl C gt cap base _ S8 q8 z8 0 _ H7.out H4.out).mono ?_
 rintro e w9 ⟨S9,q9,z9,n9,rfl,i9,m9,s9⟩
 replace j0:=hidI (j0.out.stp s9)
 replace n0:=hidI (n0.out.stp s9)
 replace G0:=hidI (G0.out.stp s9)
 have J5:=hidI (J4.out.step s9)
 clear J4
 have G5:=hidI m9
 have y6:=hidI i9
 clear i9 m9 s9 H4
 have Ta:w.heap.size+1<w9.heap.size:=n0.out.lt
 have Za:w6.heap.size<w9.heap.size:=G0.out.lt
 unfold pv
 go_upto_region 18 with f0
 refine zo (R:=fun W=>Bx gt S9 W (w.heap.size) _∧Bx gt S9 W (w.heap.size+1) _∧Bx gt S9 W (w6.heap.size) _∧Bx gt S9 W (w9.heap.size) _∧Mem C gt cap base S9 q9 W∧SB w.heap.size S w S9 W) ⟨(j0.out.alloc _),(n0.out.alloc _),(G0.out.alloc _),(Bx.new G5.out _),(G5.out.alloc _),(J5.out.alloc _)⟩ ?_
 clear j0 n0 G0 J5 G5
 rintro G8 ⟨X0,X1,X2,X3,V5,ec⟩
 have j0:=hidI X0
 have n0:=hidI X1
 have G0:=hidI X2
 have G4:=hidI X3
 have A5:=hidI V5
 have l6:=hidI ec
 clear V5 ec X0 X1 X2 X3
 obtain⟨d0,d1,d2,d3,d4,d5,d6,d7,d8,d9,V7,W7,df⟩:=G4.out.box
 go_wp2_with f0
 refine (zq C gt cap base _ S9 q9 z9 0 cSemi _ y6.out.fst A5.out).mono ?_
 rintro e Ld ⟨ob,Dc,Qc,rfl,ta,u9,o7⟩
 replace j0:=hidI (j0.out.stp o7)
 replace n0:=hidI (n0.out.stp o7)
 replace G0:=hidI (G0.out.stp o7)
 replace G4:=hidI (G4.out.stp o7)
 have p8:=hidI (l6.out.step o7)
 clear l6
 have o8:=hidI u9
 have P9:=hidI ta
 clear ta u9 o7 A5
 clear d0 d1 d2 d3 d4 d5 d6 d7 d8 d9 V7 W7 df
 go_wp2_with f0
 refine (zno C gt cap base _ ob Dc Qc 0 ⟨n9,sDefault,n6⟩ _ P9.out o8.out (zdi P9.out)).mono ?_
 rintro e w12 ⟨S12,q12,z12,rfl,bc,Bb,Q8⟩
 replace j0:=hidI (j0.out.stp Q8)
 replace n0:=hidI (n0.out.stp Q8)
 replace G0:=hidI (G0.out.stp Q8)
 replace G4:=hidI (G4.out.stp Q8)
 have Qa:=hidI (p8.out.step Q8)
 clear p8
 have Va:=hidI Bb
 have pc:=hidI bc
 clear bc Bb Q8 o8
 obtain⟨b0,b1,b2,b3,b4,b5,b6,b7,b8,b9,Z4,j5,bf⟩:=n0.out.box
 unfold pv
 go_wp2
 refine bodyPost_ret (results_cell_row rfl _ _ (w.heap.size+1) 100 _ (0,0) _ rfl ((n0.out.put _ _ _ _ _ _ _ _ _ _ _ _)).heap Tryz.underlying100 rfl (by o0)) rfl ?_
 rw[HV.out,←HQ.out,←zxk (G:=fun b a=>zcm C ⟨b,sDefault,a⟩) D7.out y6.out]
 exact zx rfl pc.out (Va.out.put n0.out _ _ _ _ _ _ _ _ _ _ _ _) (Qa.out.put (by omega) _ _ _ _ _ _ _ _ _ _ _ _)
theorem zvg (C:Cx) (gt cap base:Nat) (S:Sv) (q:PS) (w:World) (hm:Mem C gt cap base S q w) (hw:isT C q.pos 1 zbp=true) (h1:isT C (q.pos+1) 4 zbo=false) (h2:isT C (q.pos+1) 4 zbb=false) (h3:zba C (q.pos+1) false=false):
  Calls Tryz.prog 120 #[pv C gt cap S q (-1) 0] w (Out C gt cap base (zcw C q) 0 S w):=by
 have HM:=hidI hm
 have I0:=hm.few
 clear hm
 have HV:Hid (zcw C q=bd (bd (.ok (adv q)) (zbl C)) fun a=>tokP C 4 cSemi a.1):=by
  show _=_
  rw[zcw,tokP,if_pos hw,zbe]
  rw[zp,h1,h2,h3]
  rfl
 unfold pv
 go_enter Tryz.func120,Tryz.ntmps120
 go_wp2_with f0
 refine (zbh C gt cap base (.ok q) S q (-1) 0 zbp _ (zby q) ((HM.out.alloc _).alloc _)).mono ?_
 rintro e w1 ⟨S1,q1,z1,rfl,i1,m1,s1⟩
 obtain⟨X0,X1,t1⟩:=HM.out.two2 s1
 have j0:=hidI X0
 have n0:=hidI X1
 have Q0:=hidI m1
 have N1:=hidI t1
 have L6:=hidI i1
 clear X0 X1 i1 m1 t1 s1
 obtain⟨l7,rfl⟩:=zgm L6.out hw
 have HQ:=hidI l7
 have u6:Hid (q1.pos=q.pos+1):=by show q1.pos=q.pos+1;rw[l7];rfl
 clear l7 L6
 obtain⟨a0,a1,a2,a3,a4,a5,a6,a7,a8,a9,E0,B0,af⟩:=j0.out.box
 unfold pv
 go_upto_region 2 with f0
 refine zo (R:=fun W=>Bx gt S1 W (w.heap.size) _∧Bx gt S1 W (w.heap.size+1) _∧Mem C gt cap base S1 q1 W∧SB w.heap.size S w S1 W) ⟨(j0.out.put _ _ _ _ _ _ _ _ _ _ _ _),(n0.out.other (by omega) _ _ _ _ _ _ _ _ _ _ _ _),(Q0.out.put j0.out _ _ _ _ _ _ _ _ _ _ _ _),(N1.out.put (by omega) _ _ _ _ _ _ _ _ _ _ _ _)⟩ ?_
 clear a0 a1 a2 a3 a4 a5 a6 a7 a8 a9 E0 B0 af
 clear j0 n0 N1 Q0
 rintro w2 ⟨X0,X1,m2,t2⟩
 have j0:=hidI X0
 have n0:=hidI X1
 have M0:=hidI m2
 have F1:=hidI t2
 clear m2 t2 X0 X1
 obtain⟨a0,a1,a2,a3,a4,a5,a6,a7,a8,a9,E0,B0,af⟩:=j0.out.box
 go_wp2_with f0
 refine (zf C gt cap base S1 q1 (-1) 0 4 zbo _ M0.out.tok I0 (by decide)).mono ?_
 rintro e w3 ⟨rfl,N0⟩
 rw[u6.out,h1]
 replace j0:=hidI (j0.out.below N0)
 replace n0:=hidI (n0.out.below N0)
 have Q1:=hidI (F1.out.below N0)
 have U0:=hidI (M0.out.later N0)
 clear N0 F1 M0
 clear a0 a1 a2 a3 a4 a5 a6 a7 a8 a9 E0 B0 af
 obtain⟨a0,a1,a2,a3,a4,a5,a6,a7,a8,a9,E0,B0,af⟩:=j0.out.box
 go_wp2_with f0
 refine (zf C gt cap base S1 q1 (-1) 0 4 zbb _ U0.out.tok I0 (by decide)).mono ?_
 rintro e w4 ⟨rfl,Z0⟩
 rw[u6.out,h2]
 replace j0:=hidI (j0.out.below Z0)
 replace n0:=hidI (n0.out.below Z0)
 have F2:=hidI (Q1.out.below Z0)
 have V1:=hidI (U0.out.later Z0)
 clear Z0 Q1 U0
 clear a0 a1 a2 a3 a4 a5 a6 a7 a8 a9 E0 B0 af
 obtain⟨a0,a1,a2,a3,a4,a5,a6,a7,a8,a9,E0,B0,af⟩:=j0.out.box
 go_wp2_with f0
 refine (zjg C gt cap base S1 q1 (-1) 0 false _ V1.out.tok I0).mono ?_
 rintro e w5 ⟨rfl,E3⟩
 rw[u6.out,h3]
 replace j0:=hidI (j0.out.below E3)
 replace n0:=hidI (n0.out.below E3)
 have P2:=hidI (F2.out.below E3)
 have Z1:=hidI (V1.out.later E3)
 clear E3 F2 V1
 clear a0 a1 a2 a3 a4 a5 a6 a7 a8 a9 E0 B0 af
 obtain⟨a0,a1,a2,a3,a4,a5,a6,a7,a8,a9,E0,B0,af⟩:=j0.out.box
 clear u6
 go_wp2_with f0
 refine (zgl C gt cap base (.ok q1) S1 q1 (-1) 0 _ (zby q1) Z1.out).mono ?_
 rintro e w6 ⟨S6,q6,z6,n6,rfl,i6,m6,s6⟩
 replace j0:=hidI (j0.out.stp s6)
 replace n0:=hidI (n0.out.stp s6)
 have J2:=hidI (P2.out.step s6)
 clear P2
 have j2:=hidI m6
 have D7:=hidI i6
 clear i6 m6 s6 Z1
 clear a0 a1 a2 a3 a4 a5 a6 a7 a8 a9 E0 B0 af
 have u5:w.heap.size+1<w6.heap.size:=n0.out.lt
 unfold pv
 go_upto_region 20 with f0
 refine zo (R:=fun W=>Bx gt S6 W (w.heap.size) _∧Bx gt S6 W (w.heap.size+1) _∧Bx gt S6 W (w6.heap.size) _∧Mem C gt cap base S6 q6 W∧SB w.heap.size S w S6 W) ⟨(j0.out.alloc _),(n0.out.alloc _),(Bx.new j2.out _),(j2.out.alloc _),(J2.out.alloc _)⟩ ?_
 clear j0 n0 J2 j2
 rintro w7 ⟨X0,X1,X2,m7,t7⟩
 have j0:=hidI X0
 have n0:=hidI X1
 have G0:=hidI X2
 have N2:=hidI m7
 have P3:=hidI t7
 clear m7 t7 X0 X1 X2
 obtain⟨c0,c1,c2,c3,c4,c5,c6,c7,c8,c9,c10,c11,cf⟩:=G0.out.box
 go_wp2_with f0
 refine (zq C gt cap base _ S6 q6 z6 0 cSemi _ D7.out.fst N2.out).mono ?_
 rintro e w8 ⟨S8,q8,z8,rfl,i8,m8,s8⟩
 replace j0:=hidI (j0.out.stp s8)
 replace n0:=hidI (n0.out.stp s8)
 replace G0:=hidI (G0.out.stp s8)
 have J4:=hidI (P3.out.step s8)
 clear P3
 have H4:=hidI m8
 have H7:=hidI i8
 clear i8 m8 s8 N2
 clear c0 c1 c2 c3 c4 c5 c6 c7 c8 c9 c10 c11 cf
 obtain⟨b0,b1,b2,b3,b4,b5,b6,b7,b8,b9,Z4,j5,bf⟩:=n0.out.box
 unfold pv
 go_wp2
 refine bodyPost_ret (results_cell_row rfl _ _ (w.heap.size+1) 100 _ (0,0) _ rfl ((n0.out.put _ _ _ _ _ _ _ _ _ _ _ _)).heap Tryz.underlying100 rfl (by o0)) rfl ?_
 rw[HV.out,←HQ.out,←D7.out.bind (fun q _=>tokP C 4 cSemi q)]
 exact zx rfl H7.out (H4.out.put n0.out _ _ _ _ _ _ _ _ _ _ _ _) (J4.out.put (by omega) _ _ _ _ _ _ _ _ _ _ _ _)
theorem zvh (C:Cx) (gt cap base:Nat) (S:Sv) (q:PS) (w:World) (hm:Mem C gt cap base S q w) (hw:isT C q.pos 1 zbp=true) (h1:isT C (q.pos+1) 4 zbo=true):
  Calls Tryz.prog 120 #[pv C gt cap S q (-1) 0] w (Out C gt cap base (zcw C q) 0 S w):=by
 have HM:=hidI hm
 have I0:=hm.few
 clear hm
 have HV:Hid (zcw C q=bd (zje C false (adv q)) fun a=>bd (zel C (zdj C (.ok a.1))) fun b=>zbg (fun e=>zcm C (zgz b.2 e)) a.2 (.ok b.1)):=by
  show _=_
  rw[zcw,tokP,if_pos hw,zbe]
  rw[zp,h1]
  rfl
 unfold pv
 go_enter Tryz.func120,Tryz.ntmps120
 go_wp2_with f0
 refine (zbh C gt cap base (.ok q) S q (-1) 0 zbp _ (zby q) ((HM.out.alloc _).alloc _)).mono ?_
 rintro e w1 ⟨S1,q1,z1,rfl,i1,m1,s1⟩
 obtain⟨X0,X1,t1⟩:=HM.out.two2 s1
 have j0:=hidI X0
 have n0:=hidI X1
 have Q0:=hidI m1
 have N1:=hidI t1
 have L6:=hidI i1
 clear X0 X1 i1 m1 t1 s1
 obtain⟨l7,rfl⟩:=zgm L6.out hw
 have HQ:=hidI l7
 have u6:Hid (q1.pos=q.pos+1):=by show q1.pos=q.pos+1;rw[l7];rfl
 clear l7 L6
 obtain⟨a0,a1,a2,a3,a4,a5,a6,a7,a8,a9,E0,B0,af⟩:=j0.out.box
 unfold pv
 go_upto_region 2 with f0
 refine zo (R:=fun W=>Bx gt S1 W (w.heap.size) _∧Bx gt S1 W (w.heap.size+1) _∧Mem C gt cap base S1 q1 W∧SB w.heap.size S w S1 W) ⟨(j0.out.put _ _ _ _ _ _ _ _ _ _ _ _),(n0.out.other (by omega) _ _ _ _ _ _ _ _ _ _ _ _),(Q0.out.put j0.out _ _ _ _ _ _ _ _ _ _ _ _),(N1.out.put (by omega) _ _ _ _ _ _ _ _ _ _ _ _)⟩ ?_
 clear a0 a1 a2 a3 a4 a5 a6 a7 a8 a9 E0 B0 af
 clear j0 n0 N1 Q0
 rintro w2 ⟨X0,X1,m2,t2⟩
 have j0:=hidI X0
 have n0:=hidI X1
 have M0:=hidI m2
 have F1:=hidI t2
 clear m2 t2 X0 X1
 obtain⟨a0,a1,a2,a3,a4,a5,a6,a7,a8,a9,E0,B0,af⟩:=j0.out.box
 go_wp2_with f0
 refine (zf C gt cap base S1 q1 (-1) 0 4 zbo _ M0.out.tok I0 (by decide)).mono ?_
 rintro e w3 ⟨rfl,N0⟩
 rw[u6.out,h1]
 replace j0:=hidI (j0.out.below N0)
 replace n0:=hidI (n0.out.below N0)
 have Q1:=hidI (F1.out.below N0)
 have U0:=hidI (M0.out.later N0)
 clear N0 F1 M0
 clear a0 a1 a2 a3 a4 a5 a6 a7 a8 a9 E0 B0 af
 obtain⟨a0,a1,a2,a3,a4,a5,a6,a7,a8,a9,E0,B0,af⟩:=j0.out.box
 clear u6
 have Y0:=Q1.out.size
 go_wp2_with f0
 refine (zql C gt cap base S1 q1 0 false _ U0.out).mono ?_
 rintro e w4 ⟨S4,q4,z4,⟨ra,rc⟩,l,rfl,i4,m4,s4,R0,hl⟩
 obtain⟨g,rfl⟩: ∃g,ra=some ⟨g,0,none⟩:=R0.addr
 replace j0:=hidI (j0.out.stp s4)
 replace n0:=hidI (n0.out.stp s4)
 have F2:=hidI (Q1.out.step s4)
 clear Q1
 have V1:=hidI m4
 have L7:=hidI i4
 clear i4 m4 s4 U0
 clear a0 a1 a2 a3 a4 a5 a6 a7 a8 a9 E0 B0 af
 have hR:Hid (Row S4 w4 base w.heap.size ⟨some ⟨g,0,none⟩,rc⟩ l):=⟨R0.own,R0.free,fun k hk=>Nat.le_trans Y0 (R0.new k hk),R0.addr⟩
 clear R0
 have u5:w.heap.size+1<w4.heap.size:=n0.out.lt
 unfold pv
 go_upto_region 4 with f0
 refine zo (R:=fun W=>Bx gt S4 W (w.heap.size) _∧Bx gt S4 W (w.heap.size+1) _∧Bx gt S4 W (w4.heap.size) _∧Row S4 W base w.heap.size ⟨some ⟨g,0,none⟩,rc⟩ l∧Mem C gt cap base S4 q4 W∧SB w.heap.size S w S4 W) ⟨(j0.out.alloc _),(n0.out.alloc _),(Bx.new V1.out _),(hR.out.alloc _),(V1.out.alloc _),(F2.out.alloc _)⟩ ?_
 clear j0 n0 F2 V1
 clear hR
 rintro w5 ⟨X0,X1,X2,R0,m5,t5⟩
 have hR:=hidI R0
 clear R0
 have j0:=hidI X0
 have n0:=hidI X1
 have G0:=hidI X2
 have Z1:=hidI m5
 have P2:=hidI t5
 clear m5 t5 X0 X1 X2
 obtain⟨c0,c1,c2,c3,c4,c5,c6,c7,c8,c9,c10,c11,cf⟩:=G0.out.box
 go_wp2_with f0
 refine (zbh C gt cap base _ S4 q4 z4 0 zbw _ L7.out.fst Z1.out).mono ?_
 rintro e w6 ⟨S6,q6,z6,rfl,i6,m6,s6⟩
 replace j0:=hidI (j0.out.stp s6)
 replace n0:=hidI (n0.out.stp s6)
 replace G0:=hidI (G0.out.stp s6)
 have J2:=hidI (P2.out.step s6)
 have L5:Hid (Row S6 w6 base w.heap.size ⟨some ⟨g,0,none⟩,rc⟩ l):=hR.out.stp s6
 clear hR
 have hR:=hidI L5
 clear L5
 clear P2
 have j2:=hidI m6
 have D7:=hidI i6
 clear i6 m6 s6 Z1
 clear c0 c1 c2 c3 c4 c5 c6 c7 c8 c9 c10 c11 cf
 go_wp2_with f0
 refine (zgl C gt cap base _ S6 q6 z6 0 _ D7.out j2.out).mono ?_
 rintro e w7 ⟨S7,q7,z7,n7,rfl,i7,m7,s7⟩
 replace j0:=hidI (j0.out.stp s7)
 replace n0:=hidI (n0.out.stp s7)
 replace G0:=hidI (G0.out.stp s7)
 have P3:=hidI (J2.out.step s7)
 have L5:Hid (Row S7 w7 base w.heap.size ⟨some ⟨g,0,none⟩,rc⟩ l):=hR.out.stp s7
 clear hR
 have hR:=hidI L5
 clear L5
 clear J2
 have N2:=hidI m7
 have Z5:=hidI i7
 clear i7 m7 s7 j2
 have Ta:w.heap.size+1<w7.heap.size:=n0.out.lt
 have Za:w4.heap.size<w7.heap.size:=G0.out.lt
 unfold pv
 go_upto_region 5 with f0
 refine zo (R:=fun W=>Bx gt S7 W (w.heap.size) _∧Bx gt S7 W (w.heap.size+1) _∧Bx gt S7 W (w4.heap.size) _∧Bx gt S7 W (w7.heap.size) _∧Row S7 W base w.heap.size ⟨some ⟨g,0,none⟩,rc⟩ l∧Mem C gt cap base S7 q7 W∧SB w.heap.size S w S7 W) ⟨(j0.out.alloc _),(n0.out.alloc _),(G0.out.alloc _),(Bx.new N2.out _),(hR.out.alloc _),(N2.out.alloc _),(P3.out.alloc _)⟩ ?_
 clear j0 n0 G0 P3 N2
 clear hR
 rintro w8 ⟨X0,X1,X2,X3,R0,m8,t8⟩
 have hR:=hidI R0
 clear R0
 have j0:=hidI X0
 have n0:=hidI X1
 have G0:=hidI X2
 have G4:=hidI X3
 have H4:=hidI m8
 have J4:=hidI t8
 clear m8 t8 X0 X1 X2 X3
 obtain⟨d0,d1,d2,d3,d4,d5,d6,d7,d8,d9,V7,W7,df⟩:=G4.out.box
 go_wp2_with f0
 refine (zq C gt cap base _ S7 q7 z7 0 cSemi _ Z5.out.fst H4.out).mono ?_
 rintro e w9 ⟨S9,q9,z9,rfl,i9,m9,s9⟩
 replace j0:=hidI (j0.out.stp s9)
 replace n0:=hidI (n0.out.stp s9)
 replace G0:=hidI (G0.out.stp s9)
 replace G4:=hidI (G4.out.stp s9)
 have J5:=hidI (J4.out.step s9)
 have L5:Hid (Row S9 w9 base w.heap.size ⟨some ⟨g,0,none⟩,rc⟩ l):=hR.out.stp s9
 clear hR
 have hR:=hidI L5
 clear L5
 clear J4
 have G5:=hidI m9
 have y6:=hidI i9
 clear i9 m9 s9 H4
 clear d0 d1 d2 d3 d4 d5 d6 d7 d8 d9 V7 W7 df
 obtain⟨a0,a1,a2,a3,a4,a5,a6,a7,a8,a9,E0,B0,af⟩:=j0.out.box
 unfold pv
 go_upto_region 6 with f0
 refine zo (R:=fun W=>Bx gt S9 W (w.heap.size) _∧Bx gt S9 W (w.heap.size+1) _∧Bx gt S9 W (w4.heap.size) _∧Bx gt S9 W (w7.heap.size) _∧Row S9 W base w.heap.size ⟨some ⟨g,0,none⟩,rc⟩ l∧Mem C gt cap base S9 q9 W∧SB w.heap.size S w S9 W) ⟨(j0.out.put _ _ _ _ _ _ _ _ _ _ _ _),(n0.out.other (by omega) _ _ _ _ _ _ _ _ _ _ _ _),(G0.out.other (by omega) _ _ _ _ _ _ _ _ _ _ _ _),(G4.out.other (by omega) _ _ _ _ _ _ _ _ _ _ _ _),(hR.out.put j0.out _ _ _ _ _ _ _ _ _ _ _ _),(G5.out.put j0.out _ _ _ _ _ _ _ _ _ _ _ _),(J5.out.put (by omega) _ _ _ _ _ _ _ _ _ _ _ _)⟩ ?_
 clear a0 a1 a2 a3 a4 a5 a6 a7 a8 a9 E0 B0 af
 clear j0 n0 G0 G4 J5 G5
 clear hR
 rintro G8 ⟨X0,X1,X2,X3,R0,V5,ec⟩
 have hR:=hidI R0
 clear R0
 have j0:=hidI X0
 have n0:=hidI X1
 have G0:=hidI X2
 have G4:=hidI X3
 have A5:=hidI V5
 have l6:=hidI ec
 clear V5 ec X0 X1 X2 X3
 have Zd:Hid (_=_):=zpa (G:=fun b e=>zcm C (zgz b e)) L7.out Z5.out
 go_wp2
 go_loopg [8] l.length (fun k i wr=>∃(j:Nat) (x':PR) (S':Sv) (q':PS) (z':Int),j≤l.length∧i= .int .i64 j∧Is x' q' z'∧(z'<0→1≤q'.pos)∧zbg (fun e=>zcm C (zgz n7 e)) (l.drop j) x'=zcw C q∧l.length-j=k∧Mem C gt cap base S' q' wr∧SB w.heap.size S w S' wr∧Bx gt S' wr w.heap.size #[.slice (some ⟨gt,0,none⟩) C.ts.length cap,.int .i64 q'.pos,.int .i64 C.fin,.bool C.scr,.slice S'.rq.a q'.rq.length S'.rq.cap,.slice S'.im.a q'.im.length S'.im.cap,.slice S'.ep.a q'.ep.length S'.ep.cap,.slice S'.st.a q'.st.length S'.st.cap,.slice S'.ex.a q'.ex.length S'.ex.cap,.slice S'.la.a q'.la.length S'.la.cap,.int .i64 z',.int .i64 0]∧Bx gt S' wr (w.heap.size+1) #[.slice none 0 0,.int .i64 0,.int .i64 0,.bool false,.slice none 0 0,.slice none 0 0,.slice none 0 0,.slice none 0 0,.slice none 0 0,.slice none 0 0,.int .i64 0,.int .i64 0]∧Row S' wr base w.heap.size ⟨some ⟨g,0,none⟩,rc⟩ l)
 case atStart=>exact⟨0,_,S9,q9,z9,Nat.zero_le _,rfl,y6.out,zdi y6.out,by rw[HV.out,←HQ.out];exact Zd.out,rfl,A5.out,l6.out,j0.out,n0.out,hR.out⟩
 case round=>
  obtain⟨j,x9,S9,q9,z9,hj,rfl,i9,p9,e9,g9,m9,t9,X0,X1,R0⟩:=hrel
  clear j0 n0 G0 G4 hR A5 l6
  have j0:=hidI X0
  have n0:=hidI X1
  have G5:=hidI m9
  have J5:=hidI t9
  have y6:=hidI i9
  have Yb:=hidI p9
  have ic:=hidI e9
  have U7:=hidI g9
  have hR:=hidI R0
  clear X0 X1 i9 m9 t9 e9 g9 R0 p9
  by_cases F0:j<l.length
  ·skip
   obtain⟨c1,c2⟩:=hR.out.cells (g:=g) rfl F0
   have N3:=hR.out.own.lt (g:=g) rfl
   have HX:Hid (∀e,e=l[j]→zbg (fun e=>zcm C (zgz n7 e)) (l.drop (j+1)) (bd x9 (zcm C (zgz n7 e)))=zcw C q):=fun e he=>by rw[he,←ic.out];exact (zkk (fun e=>zcm C (zgz n7 e)) l x9 F0).symm
   generalize Xa:l[j]=el at c1 c2
   have M8:Hid (el=l[j]):=Xa.symm
   clear Xa
   obtain⟨a0,a1,a2,a3,a4,a5,a6,a7,a8,a9,E0,B0,af⟩:=j0.out.box
   go_upto_region 9 with f0
   go_region_law (first|(go_simp;go_wp2_with (go_at_call 197;refine (zno C gt cap base x9 S9 q9 z9 0 (zgz n7 el) _ y6.out G5.out.drew Yb.out).mono ?_;rintro e G8 ⟨Q6,X8,r9,rfl,N6,V5,U3⟩;obtain⟨d0,d1,d2,d3,d4,d5,d6,d7,d8,d9,V7,W7,df⟩:=(j0.out.stp U3.undrew).box;unfold pv)))
   all_goals
    clear a0 a1 a2 a3 a4 a5 a6 a7 a8 a9 E0 B0 af d0 d1 d2 d3 d4 d5 d6 d7 d8 d9 V7 W7 df
    have A6:=hidI N6
    have A5:=hidI V5
    have y7:Hid (Stp S9 wr Q6 G8):=U3.undrew
    clear N6 V5 U3
    go_wp2
    go_roundg (gk-1)
    case rel=>exact⟨j+1,_,Q6,X8,r9,by omega,by go_num,A6.out,zbge Yb.out y6.out A6.out,HX.out el M8.out,by have:=U7.out;omega,A5.out.put (j0.out.stp y7.out) _ _ _ _ _ _ _ _ _ _ _ _,(J5.out.step y7.out).put (by omega) _ _ _ _ _ _ _ _ _ _ _ _,(j0.out.stp y7.out).put _ _ _ _ _ _ _ _ _ _ _ _,(n0.out.stp y7.out).other (by omega) _ _ _ _ _ _ _ _ _ _ _ _,(hR.out.stp y7.out).put (j0.out.stp y7.out) _ _ _ _ _ _ _ _ _ _ _ _⟩
    case measure=>have:=U7.out;omega
  ·skip
   obtain⟨a0,a1,a2,a3,a4,a5,a6,a7,a8,a9,E0,B0,af⟩:=j0.out.box
   obtain⟨b0,b1,b2,b3,b4,b5,b6,b7,b8,b9,Z4,j5,bf⟩:=n0.out.box
   go_wp2
   refine bodyPost_ret (results_cell_row rfl _ _ (w.heap.size+1) 100 _ (0,0) _ rfl ((n0.out.put _ _ _ _ _ _ _ _ _ _ _ _)).heap Tryz.underlying100 rfl (by o0)) rfl ?_
   exact zx rfl (show Is (zcw C q) q9 z9 from by rw[←ic.out,List.drop_eq_nil_of_le (by omega)];exact y6.out) (G5.out.put n0.out _ _ _ _ _ _ _ _ _ _ _ _) (J5.out.put (by omega) _ _ _ _ _ _ _ _ _ _ _ _)
theorem zbir {C:Cx} {k:Int} {n:ByteArray} {q q':PS} (h:zbx C k n q= .ok q'):q'={q with st:=q.st++[⟨k,n,(q.ex.length:Int)-1⟩]}∧q.st.length<80:=by
 unfold zbx at h
 split at h
 ·cases h
 ·cases h
  exact⟨rfl,by omega⟩
theorem zbgf {C:Cx} {x:PR} {k:Int} {s:ByteArray} {j:Int} {n:ByteArray} {q:PS} {z:Int} (h:Is (bd (bd x (tokP C k s)) (zbx C j n)) q z):z<0→1≤q.pos:=by
 intro hz
 obtain⟨e,_⟩:=zcs h hz
 obtain⟨a,h1,h2⟩:=zc e
 obtain⟨b,_,h4⟩:=zc h1
 obtain⟨rfl,_⟩:=zea h4
 obtain⟨rfl,_⟩:=zbir h2
 simp[adv]
theorem zum {C:Cx} {y:PRN} {G:PR→PR} {k:Int} {s:ByteArray} {j:Int} {q:PS} {z:Int} {n:ByteArray} (h:Is2 (withN y fun x n=>bd (bd (G x) (tokP C k s)) (zbx C j n)) q z n):z<0→1≤q.pos:=by
 intro hz
 cases y with
 |error e=>have:z=(e:Int):=h;omega
 |ok a=>
  have h':Is2 (bd (bd (bd (G (.ok a.1)) (tokP C k s)) (zbx C j a.2)) fun q=>.ok (q,a.2)) q z n:=h
  cases hr:bd (bd (G (.ok a.1)) (tokP C k s)) (zbx C j a.2) with
  |error e=>rw[hr] at h';have:z=(e:Int):=h';omega
  |ok b=>
   rw[hr] at h'
   obtain⟨rfl,rfl,_⟩:=h'
   exact zbgf (show Is (bd (bd (G (.ok a.1)) (tokP C k s)) (zbx C j a.2)) q (-1) by rw[hr];exact⟨rfl,rfl⟩) (by decide)
theorem zblp {C:Cx} {q0 q:PS} {z:Int} {n:ByteArray} (h:Is2 (letP C q0) q z n):z<0→1≤q.pos:=zum (G:=fun x=>bd (bd x (tokP C 4 cEq)) (pE C .sum 0)) h
theorem zboe {C:Cx} {q0 q:PS} {z:Int} {n:ByteArray} (h:Is2 (fnP C q0) q z n):z<0→1≤q.pos:=zum (G:=fun x=>bd (bd (bd (bd (bd (bd x (tokP C 4 zt)) (tokP C 4 zcz)) (tokP C 4 zbo)) (tokP C 1 zli)) (pE C .sum 0)) (tokP C 4 cSemi)) h
theorem zbgg {C:Cx} {x:PR} {qb:PS} {zb:Int} {nb:ByteArray} {G:ByteArray→PS→PR} (hb:Is2 (bd (bd x (tokP C 1 zbw)) (zbl C)) qb zb nb):
  bd (bd (fstP (bd (bd x (tokP C 1 zbw)) (zbl C))) (tokP C 4 cSemi)) (G nb)=bd (zel C (zdj C x)) fun b=>G b.2 b.1:=by
 have e1:bd (bd x (tokP C 1 zbw)) (zbl C)=zdj C x:=rfl
 rw[e1] at hb ⊢
 cases hY:zdj C x with
 |error e=>rfl
 |ok b=>
  rw[hY] at hb
  obtain⟨_,_,rfl⟩:=hb
  show bd (tokP C 4 cSemi b.1) (G b.2)=bd (bd (tokP C 4 cSemi b.1) fun q=>.ok (q,b.2)) fun b=>G b.2 b.1
  rw[zbr]
  rfl
theorem zbdf {C:Cx} {y:PRL} {qa:PS} {za:Int} {l:List Ep} {f:Ep→PS→PR} {D:PS×List Ep→PR} (ha:Is3 y qa za l) (hA:anyB l=false) (hF:(decide (za<0)&&isT C qa.pos 1 zbw)=false):
  zbg f l (bd (fstL y) (tokP C 4 cSemi))=bd y fun a=>if !anyB a.2&& !isT C a.1.pos 1 zbw then bd (tokP C 4 cSemi a.1) fun q=>zbg f a.2 (.ok q) else D a:=by
 cases y with
 |error e=>exact zhr _ _ _
 |ok a=>
  obtain⟨rfl,rfl,rfl⟩:=ha
  rw[Bool.and_eq_false_iff] at hF
  rw[zbe,hA,hF.resolve_left (by decide)]
  show zbg f a.2 (tokP C 4 cSemi a.1)=bd (tokP C 4 cSemi a.1) fun q=>zbg f a.2 (.ok q)
  cases tokP C 4 cSemi a.1 with
  |error e=>exact zhr _ _ _
  |ok c=>rfl
theorem zun {C:Cx} {y:PRL} {qa:PS} {za:Int} {l:List Ep} {D E:PS×List Ep→PR} (ha:Is3 y qa za l) (hAF:anyB l=true∨(decide (za<0)&&isT C qa.pos 1 zbw)=true):
  bd y D=bd y fun a=>if !anyB a.2&& !isT C a.1.pos 1 zbw then E a else D a:=by
 cases y with
 |error e=>rfl
 |ok a=>
  obtain⟨rfl,rfl,rfl⟩:=ha
  rw[zbe,zbe]
  rcases hAF with h|h
  ·rw[h];rfl
  ·rw[Bool.and_eq_true] at h
   rw[h.2,Bool.not_true,Bool.and_false]
   rfl
theorem zvi (C:Cx) (gt cap base:Nat) (S:Sv) (q:PS) (w:World) (hm:Mem C gt cap base S q w) (hw:isT C q.pos 1 zbk=true) (h1:isT C (q.pos+1) 4 zbo=false) (h2:isT C (q.pos+1) 4 zbb=true):
  Calls Tryz.prog 121 #[pv C gt cap S q (-1) 0] w (Out C gt cap base (zbm C q) 0 S w):=by
 have HM:=hidI hm
 have I0:=hm.few
 clear hm
 have HV:Hid (zbm C q=bd (zel C (zdj C (bd (.ok (adv q)) (tokP C 4 zbb)))) fun b=>zv C ⟨3,sNone,sNone,b.2⟩ b.1):=by
  show _=_
  rw[zbm,tokP,if_pos hw,zbe]
  rw[zp,h1,h2]
  rfl
 unfold pv
 go_enter Tryz.func121,Tryz.ntmps121
 go_wp2_with f0
 refine (zbh C gt cap base (.ok q) S q (-1) 0 zbk _ (zby q) ((HM.out.alloc _).alloc _)).mono ?_
 rintro e w1 ⟨S1,q1,z1,rfl,i1,m1,s1⟩
 obtain⟨X0,X1,t1⟩:=HM.out.two2 s1
 have j0:=hidI X0
 have n0:=hidI X1
 have Q0:=hidI m1
 have N1:=hidI t1
 have L6:=hidI i1
 clear X0 X1 i1 m1 t1 s1
 obtain⟨l7,rfl⟩:=zgm L6.out hw
 have HQ:=hidI l7
 have u6:Hid (q1.pos=q.pos+1):=by show q1.pos=q.pos+1;rw[l7];rfl
 clear l7 L6
 obtain⟨a0,a1,a2,a3,a4,a5,a6,a7,a8,a9,E0,B0,af⟩:=j0.out.box
 unfold pv
 go_upto_region 2 with f0
 refine zo (R:=fun W=>Bx gt S1 W (w.heap.size) _∧Bx gt S1 W (w.heap.size+1) _∧Mem C gt cap base S1 q1 W∧SB w.heap.size S w S1 W) ⟨(j0.out.put _ _ _ _ _ _ _ _ _ _ _ _),(n0.out.other (by omega) _ _ _ _ _ _ _ _ _ _ _ _),(Q0.out.put j0.out _ _ _ _ _ _ _ _ _ _ _ _),(N1.out.put (by omega) _ _ _ _ _ _ _ _ _ _ _ _)⟩ ?_
 clear a0 a1 a2 a3 a4 a5 a6 a7 a8 a9 E0 B0 af
 clear j0 n0 N1 Q0
 rintro w2 ⟨X0,X1,m2,t2⟩
 have j0:=hidI X0
 have n0:=hidI X1
 have M0:=hidI m2
 have F1:=hidI t2
 clear m2 t2 X0 X1
 obtain⟨a0,a1,a2,a3,a4,a5,a6,a7,a8,a9,E0,B0,af⟩:=j0.out.box
 go_wp2_with f0
 refine (zf C gt cap base S1 q1 (-1) 0 4 zbo _ M0.out.tok I0 (by decide)).mono ?_
 rintro e w3 ⟨rfl,N0⟩
 rw[u6.out,h1]
 replace j0:=hidI (j0.out.below N0)
 replace n0:=hidI (n0.out.below N0)
 have Q1:=hidI (F1.out.below N0)
 have U0:=hidI (M0.out.later N0)
 clear N0 F1 M0
 clear a0 a1 a2 a3 a4 a5 a6 a7 a8 a9 E0 B0 af
 obtain⟨a0,a1,a2,a3,a4,a5,a6,a7,a8,a9,E0,B0,af⟩:=j0.out.box
 go_wp2_with f0
 refine (zf C gt cap base S1 q1 (-1) 0 4 zbb _ U0.out.tok I0 (by decide)).mono ?_
 rintro e w4 ⟨rfl,Z0⟩
 rw[u6.out,h2]
 replace j0:=hidI (j0.out.below Z0)
 replace n0:=hidI (n0.out.below Z0)
 have F2:=hidI (Q1.out.below Z0)
 have V1:=hidI (U0.out.later Z0)
 clear Z0 Q1 U0
 clear a0 a1 a2 a3 a4 a5 a6 a7 a8 a9 E0 B0 af
 obtain⟨a0,a1,a2,a3,a4,a5,a6,a7,a8,a9,E0,B0,af⟩:=j0.out.box
 clear u6
 go_wp2_with f0
 refine (zq C gt cap base (.ok q1) S1 q1 (-1) 0 zbb _ (zby q1) V1.out).mono ?_
 rintro e w5 ⟨S5,q5,z5,rfl,i5,m5,s5⟩
 replace j0:=hidI (j0.out.stp s5)
 replace n0:=hidI (n0.out.stp s5)
 have P2:=hidI (F2.out.step s5)
 clear F2
 have Z1:=hidI m5
 have T7:=hidI i5
 clear i5 m5 s5 V1
 clear a0 a1 a2 a3 a4 a5 a6 a7 a8 a9 E0 B0 af
 go_wp2_with f0
 refine (zbh C gt cap base _ S5 q5 z5 0 zbw _ T7.out Z1.out).mono ?_
 rintro e w6 ⟨S6,q6,z6,rfl,i6,m6,s6⟩
 replace j0:=hidI (j0.out.stp s6)
 replace n0:=hidI (n0.out.stp s6)
 have J2:=hidI (P2.out.step s6)
 clear P2
 have j2:=hidI m6
 have D7:=hidI i6
 clear i6 m6 s6 Z1
 go_wp2_with f0
 refine (zgl C gt cap base _ S6 q6 z6 0 _ D7.out j2.out).mono ?_
 rintro e w7 ⟨S7,q7,z7,n7,rfl,i7,m7,s7⟩
 replace j0:=hidI (j0.out.stp s7)
 replace n0:=hidI (n0.out.stp s7)
 have P3:=hidI (J2.out.step s7)
 clear J2
 have N2:=hidI m7
 have Z5:=hidI i7
 clear i7 m7 s7 j2
 have u5:w.heap.size+1<w7.heap.size:=n0.out.lt
 unfold pv
 go_upto_region 20 with f0
 refine zo (R:=fun W=>Bx gt S7 W (w.heap.size) _∧Bx gt S7 W (w.heap.size+1) _∧Bx gt S7 W (w7.heap.size) _∧Mem C gt cap base S7 q7 W∧SB w.heap.size S w S7 W) ⟨(j0.out.alloc _),(n0.out.alloc _),(Bx.new N2.out _),(N2.out.alloc _),(P3.out.alloc _)⟩ ?_
 clear j0 n0 P3 N2
 rintro w8 ⟨X0,X1,X2,m8,t8⟩
 have j0:=hidI X0
 have n0:=hidI X1
 have G0:=hidI X2
 have H4:=hidI m8
 have J4:=hidI t8
 clear m8 t8 X0 X1 X2
 obtain⟨c0,c1,c2,c3,c4,c5,c6,c7,c8,c9,c10,c11,cf⟩:=G0.out.box
 go_wp2_with f0
 refine (zq C gt cap base _ S7 q7 z7 0 cSemi _ Z5.out.fst H4.out).mono ?_
 rintro e w9 ⟨S9,q9,z9,rfl,i9,m9,s9⟩
 replace j0:=hidI (j0.out.stp s9)
 replace n0:=hidI (n0.out.stp s9)
 replace G0:=hidI (G0.out.stp s9)
 have J5:=hidI (J4.out.step s9)
 clear J4
 have G5:=hidI m9
 have y6:=hidI i9
 clear i9 m9 s9 H4
 clear c0 c1 c2 c3 c4 c5 c6 c7 c8 c9 c10 c11 cf
 go_wp2_with f0
 refine (zhb C gt cap base _ S9 q9 z9 0 ⟨3,sNone,sNone,n7⟩ _ y6.out G5.out (zdi y6.out)).mono ?_
 rintro e G8 ⟨Q6,X8,r9,rfl,N6,V5,U3⟩
 replace j0:=hidI (j0.out.stp U3)
 replace n0:=hidI (n0.out.stp U3)
 replace G0:=hidI (G0.out.stp U3)
 have l6:=hidI (J5.out.step U3)
 clear J5
 have A5:=hidI V5
 have A6:=hidI N6
 clear N6 V5 U3 G5
 obtain⟨b0,b1,b2,b3,b4,b5,b6,b7,b8,b9,Z4,j5,bf⟩:=n0.out.box
 unfold pv
 go_wp2
 refine bodyPost_ret (results_cell_row rfl _ _ (w.heap.size+1) 100 _ (0,0) _ rfl ((n0.out.put _ _ _ _ _ _ _ _ _ _ _ _)).heap Tryz.underlying100 rfl (by o0)) rfl ?_
 rw[HV.out,←HQ.out,←zbgg (G:=fun b=>zv C ⟨3,sNone,sNone,b⟩) Z5.out]
 exact zx rfl A6.out (A5.out.put n0.out _ _ _ _ _ _ _ _ _ _ _ _) (l6.out.put (by omega) _ _ _ _ _ _ _ _ _ _ _ _)
theorem zrj (C:Cx) (gt cap base:Nat) (S:Sv) (q:PS) (w:World) (hm:Mem C gt cap base S q w) (hw:isT C q.pos 1 zbk=true) (h1:isT C (q.pos+1) 4 zbo=false) (h2:isT C (q.pos+1) 4 zbb=false) (h3:isT C (q.pos+1) 1 sDefault=true):
  Calls Tryz.prog 121 #[pv C gt cap S q (-1) 0] w (Out C gt cap base (zbm C q) 0 S w):=by
 have HM:=hidI hm
 have I0:=hm.few
 clear hm
 have HV:Hid (zbm C q=bd (bd (bd (bd (bd (.ok (adv q)) (tokP C 1 sDefault)) (pE C .sum 0)) (tokP C 4 cSemi)) (zbx C 1 zee)) (zv C ⟨1,sDefault,zee,sNone⟩)):=by
  show _=_
  rw[zbm,tokP,if_pos hw,zbe]
  rw[zp,h1,h2,h3]
  rfl
 unfold pv
 go_enter Tryz.func121,Tryz.ntmps121
 go_wp2_with f0
 refine (zbh C gt cap base (.ok q) S q (-1) 0 zbk _ (zby q) ((HM.out.alloc _).alloc _)).mono ?_
 rintro e w1 ⟨S1,q1,z1,rfl,i1,m1,s1⟩
 obtain⟨X0,X1,t1⟩:=HM.out.two2 s1
 have j0:=hidI X0
 have n0:=hidI X1
 have Q0:=hidI m1
 have N1:=hidI t1
 have L6:=hidI i1
 clear X0 X1 i1 m1 t1 s1
 obtain⟨l7,rfl⟩:=zgm L6.out hw
 have HQ:=hidI l7
 have u6:Hid (q1.pos=q.pos+1):=by show q1.pos=q.pos+1;rw[l7];rfl
 clear l7 L6
 obtain⟨a0,a1,a2,a3,a4,a5,a6,a7,a8,a9,E0,B0,af⟩:=j0.out.box
 unfold pv
 go_upto_region 2 with f0
 refine zo (R:=fun W=>Bx gt S1 W (w.heap.size) _∧Bx gt S1 W (w.heap.size+1) _∧Mem C gt cap base S1 q1 W∧SB w.heap.size S w S1 W) ⟨(j0.out.put _ _ _ _ _ _ _ _ _ _ _ _),(n0.out.other (by omega) _ _ _ _ _ _ _ _ _ _ _ _),(Q0.out.put j0.out _ _ _ _ _ _ _ _ _ _ _ _),(N1.out.put (by omega) _ _ _ _ _ _ _ _ _ _ _ _)⟩ ?_
 clear a0 a1 a2 a3 a4 a5 a6 a7 a8 a9 E0 B0 af
 clear j0 n0 N1 Q0
 rintro w2 ⟨X0,X1,m2,t2⟩
 have j0:=hidI X0
 have n0:=hidI X1
 have M0:=hidI m2
 have F1:=hidI t2
 clear m2 t2 X0 X1
 obtain⟨a0,a1,a2,a3,a4,a5,a6,a7,a8,a9,E0,B0,af⟩:=j0.out.box
 go_wp2_with f0
 refine (zf C gt cap base S1 q1 (-1) 0 4 zbo _ M0.out.tok I0 (by decide)).mono ?_
 rintro e w3 ⟨rfl,N0⟩
 rw[u6.out,h1]
 replace j0:=hidI (j0.out.below N0)
 replace n0:=hidI (n0.out.below N0)
 have Q1:=hidI (F1.out.below N0)
 have U0:=hidI (M0.out.later N0)
 clear N0 F1 M0
 clear a0 a1 a2 a3 a4 a5 a6 a7 a8 a9 E0 B0 af
 obtain⟨a0,a1,a2,a3,a4,a5,a6,a7,a8,a9,E0,B0,af⟩:=j0.out.box
 go_wp2_with f0
 refine (zf C gt cap base S1 q1 (-1) 0 4 zbb _ U0.out.tok I0 (by decide)).mono ?_
 rintro e w4 ⟨rfl,Z0⟩
 rw[u6.out,h2]
 replace j0:=hidI (j0.out.below Z0)
 replace n0:=hidI (n0.out.below Z0)
 have F2:=hidI (Q1.out.below Z0)
 have V1:=hidI (U0.out.later Z0)
 clear Z0 Q1 U0
 clear a0 a1 a2 a3 a4 a5 a6 a7 a8 a9 E0 B0 af
 obtain⟨a0,a1,a2,a3,a4,a5,a6,a7,a8,a9,E0,B0,af⟩:=j0.out.box
 go_wp2_with f0
 refine (zf C gt cap base S1 q1 (-1) 0 1 sDefault _ V1.out.tok I0 (by decide)).mono ?_
 rintro e w5 ⟨rfl,E3⟩
 rw[u6.out,h3]
 replace j0:=hidI (j0.out.below E3)
 replace n0:=hidI (n0.out.below E3)
 have P2:=hidI (F2.out.below E3)
 have Z1:=hidI (V1.out.later E3)
 clear E3 F2 V1
 clear a0 a1 a2 a3 a4 a5 a6 a7 a8 a9 E0 B0 af
 obtain⟨a0,a1,a2,a3,a4,a5,a6,a7,a8,a9,E0,B0,af⟩:=j0.out.box
 clear u6
 go_wp2_with f0
 refine (zbh C gt cap base (.ok q1) S1 q1 (-1) 0 sDefault _ (zby q1) Z1.out).mono ?_
 rintro e w6 ⟨S6,q6,z6,rfl,i6,m6,s6⟩
 replace j0:=hidI (j0.out.stp s6)
 replace n0:=hidI (n0.out.stp s6)
 have J2:=hidI (P2.out.step s6)
 clear P2
 have j2:=hidI m6
 have D7:=hidI i6
 clear i6 m6 s6 Z1
 clear a0 a1 a2 a3 a4 a5 a6 a7 a8 a9 E0 B0 af
 go_wp2_with f0
 refine (zfc C gt cap base _ S6 q6 z6 _ D7.out j2.out).mono ?_
 rintro e w7 ⟨S7,q7,z7,rfl,i7,m7,s7⟩
 replace j0:=hidI (j0.out.stp s7)
 replace n0:=hidI (n0.out.stp s7)
 have P3:=hidI (J2.out.step s7)
 clear J2
 have N2:=hidI m7
 have Z5:=hidI i7
 clear i7 m7 s7 j2
 go_wp2_with f0
 refine (zq C gt cap base _ S7 q7 z7 0 cSemi _ Z5.out N2.out).mono ?_
 rintro e w8 ⟨S8,q8,z8,rfl,i8,m8,s8⟩
 replace j0:=hidI (j0.out.stp s8)
 replace n0:=hidI (n0.out.stp s8)
 have J4:=hidI (P3.out.step s8)
 clear P3
 have H4:=hidI m8
 have H7:=hidI i8
 clear i8 m8 s8 N2
 have u5:w.heap.size+1<w8.heap.size:=n0.out.lt
 unfold pv
 go_upto_region 23 with f0
 refine zo (R:=fun W=>Bx gt S8 W (w.heap.size) _∧Bx gt S8 W (w.heap.size+1) _∧Bx gt S8 W (w8.heap.size) _∧Mem C gt cap base S8 q8 W∧SB w.heap.size S w S8 W) ⟨(j0.out.alloc _),(n0.out.alloc _),(Bx.new H4.out _),(H4.out.alloc _),(J4.out.alloc _)⟩ ?_
 clear j0 n0 J4 H4
 rintro w9 ⟨X0,X1,X2,m9,t9⟩
 have j0:=hidI X0
 have n0:=hidI X1
 have G0:=hidI X2
 have G5:=hidI m9
 have J5:=hidI t9
 clear m9 t9 X0 X1 X2
 obtain⟨c0,c1,c2,c3,c4,c5,c6,c7,c8,c9,c10,c11,cf⟩:=G0.out.box
 go_wp2_with f0
 refine (zed C gt cap base _ S8 q8 z8 0 1 zee _ H7.out G5.out (zdi H7.out)).mono ?_
 rintro e G8 ⟨Q6,X8,r9,rfl,N6,V5,U3⟩
 replace j0:=hidI (j0.out.stp U3)
 replace n0:=hidI (n0.out.stp U3)
 replace G0:=hidI (G0.out.stp U3)
 have l6:=hidI (J5.out.step U3)
 clear J5
 have A5:=hidI V5
 have A6:=hidI N6
 clear N6 V5 U3 G5
 clear c0 c1 c2 c3 c4 c5 c6 c7 c8 c9 c10 c11 cf
 go_wp2_with f0
 refine (zhb C gt cap base _ Q6 X8 r9 0 ⟨1,sDefault,zee,sNone⟩ _ A6.out A5.out (zbgf A6.out)).mono ?_
 rintro e Ld ⟨ob,Dc,Qc,rfl,ta,u9,o7⟩
 replace j0:=hidI (j0.out.stp o7)
 replace n0:=hidI (n0.out.stp o7)
 replace G0:=hidI (G0.out.stp o7)
 have p8:=hidI (l6.out.step o7)
 clear l6
 have o8:=hidI u9
 have P9:=hidI ta
 clear ta u9 o7 A5
 obtain⟨b0,b1,b2,b3,b4,b5,b6,b7,b8,b9,Z4,j5,bf⟩:=n0.out.box
 unfold pv
 go_wp2
 refine bodyPost_ret (results_cell_row rfl _ _ (w.heap.size+1) 100 _ (0,0) _ rfl ((n0.out.put _ _ _ _ _ _ _ _ _ _ _ _)).heap Tryz.underlying100 rfl (by o0)) rfl ?_
 rw[HV.out,←HQ.out]
 exact zx rfl P9.out (o8.out.put n0.out _ _ _ _ _ _ _ _ _ _ _ _) (p8.out.put (by omega) _ _ _ _ _ _ _ _ _ _ _ _)
theorem zxl (C:Cx) (gt cap base:Nat) (S:Sv) (q:PS) (w:World) (hm:Mem C gt cap base S q w) (hw:isT C q.pos 1 zbk=true) (h1:isT C (q.pos+1) 4 zbo=false) (h2:isT C (q.pos+1) 4 zbb=false) (h3:isT C (q.pos+1) 1 sDefault=false) (h4:isT C (q.pos+1) 1 sLet=true):
  Calls Tryz.prog 121 #[pv C gt cap S q (-1) 0] w (Out C gt cap base (zbm C q) 0 S w):=by
 have HM:=hidI hm
 have I0:=hm.few
 clear hm
 have HV:Hid (zbm C q=bd (letP C (adv q)) fun a=>zv C ⟨1,a.2,a.2,sNone⟩ a.1):=by
  show _=_
  rw[zbm,tokP,if_pos hw,zbe]
  rw[zp,h1,h2,h3,h4]
  rfl
 unfold pv
 go_enter Tryz.func121,Tryz.ntmps121
 go_wp2_with f0
 refine (zbh C gt cap base (.ok q) S q (-1) 0 zbk _ (zby q) ((HM.out.alloc _).alloc _)).mono ?_
 rintro e w1 ⟨S1,q1,z1,rfl,i1,m1,s1⟩
 obtain⟨X0,X1,t1⟩:=HM.out.two2 s1
 have j0:=hidI X0
 have n0:=hidI X1
 have Q0:=hidI m1
 have N1:=hidI t1
 have L6:=hidI i1
 clear X0 X1 i1 m1 t1 s1
 obtain⟨l7,rfl⟩:=zgm L6.out hw
 have HQ:=hidI l7
 have u6:Hid (q1.pos=q.pos+1):=by show q1.pos=q.pos+1;rw[l7];rfl
 clear l7 L6
 obtain⟨a0,a1,a2,a3,a4,a5,a6,a7,a8,a9,E0,B0,af⟩:=j0.out.box
 unfold pv
 go_upto_region 2 with f0
 refine zo (R:=fun W=>Bx gt S1 W (w.heap.size) _∧Bx gt S1 W (w.heap.size+1) _∧Mem C gt cap base S1 q1 W∧SB w.heap.size S w S1 W) ⟨(j0.out.put _ _ _ _ _ _ _ _ _ _ _ _),(n0.out.other (by omega) _ _ _ _ _ _ _ _ _ _ _ _),(Q0.out.put j0.out _ _ _ _ _ _ _ _ _ _ _ _),(N1.out.put (by omega) _ _ _ _ _ _ _ _ _ _ _ _)⟩ ?_
 clear a0 a1 a2 a3 a4 a5 a6 a7 a8 a9 E0 B0 af
 clear j0 n0 N1 Q0
 rintro w2 ⟨X0,X1,m2,t2⟩
 have j0:=hidI X0
 have n0:=hidI X1
 have M0:=hidI m2
 have F1:=hidI t2
 clear m2 t2 X0 X1
 obtain⟨a0,a1,a2,a3,a4,a5,a6,a7,a8,a9,E0,B0,af⟩:=j0.out.box
 go_wp2_with f0
 refine (zf C gt cap base S1 q1 (-1) 0 4 zbo _ M0.out.tok I0 (by decide)).mono ?_
 rintro e w3 ⟨rfl,N0⟩
 rw[u6.out,h1]
 replace j0:=hidI (j0.out.below N0)
 replace n0:=hidI (n0.out.below N0)
 have Q1:=hidI (F1.out.below N0)
 have U0:=hidI (M0.out.later N0)
 clear N0 F1 M0
 clear a0 a1 a2 a3 a4 a5 a6 a7 a8 a9 E0 B0 af
 obtain⟨a0,a1,a2,a3,a4,a5,a6,a7,a8,a9,E0,B0,af⟩:=j0.out.box
 go_wp2_with f0
 refine (zf C gt cap base S1 q1 (-1) 0 4 zbb _ U0.out.tok I0 (by decide)).mono ?_
 rintro e w4 ⟨rfl,Z0⟩
 rw[u6.out,h2]
 replace j0:=hidI (j0.out.below Z0)
 replace n0:=hidI (n0.out.below Z0)
 have F2:=hidI (Q1.out.below Z0)
 have V1:=hidI (U0.out.later Z0)
 clear Z0 Q1 U0
 clear a0 a1 a2 a3 a4 a5 a6 a7 a8 a9 E0 B0 af
 obtain⟨a0,a1,a2,a3,a4,a5,a6,a7,a8,a9,E0,B0,af⟩:=j0.out.box
 go_wp2_with f0
 refine (zf C gt cap base S1 q1 (-1) 0 1 sDefault _ V1.out.tok I0 (by decide)).mono ?_
 rintro e w5 ⟨rfl,E3⟩
 rw[u6.out,h3]
 replace j0:=hidI (j0.out.below E3)
 replace n0:=hidI (n0.out.below E3)
 have P2:=hidI (F2.out.below E3)
 have Z1:=hidI (V1.out.later E3)
 clear E3 F2 V1
 clear a0 a1 a2 a3 a4 a5 a6 a7 a8 a9 E0 B0 af
 obtain⟨a0,a1,a2,a3,a4,a5,a6,a7,a8,a9,E0,B0,af⟩:=j0.out.box
 go_wp2_with f0
 refine (zf C gt cap base S1 q1 (-1) 0 1 sLet _ Z1.out.tok I0 (by decide)).mono ?_
 rintro e w6 ⟨rfl,E4⟩
 rw[u6.out,h4]
 replace j0:=hidI (j0.out.below E4)
 replace n0:=hidI (n0.out.below E4)
 have J2:=hidI (P2.out.below E4)
 have j2:=hidI (Z1.out.later E4)
 clear E4 P2 Z1
 clear a0 a1 a2 a3 a4 a5 a6 a7 a8 a9 E0 B0 af
 obtain⟨a0,a1,a2,a3,a4,a5,a6,a7,a8,a9,E0,B0,af⟩:=j0.out.box
 clear u6
 go_wp2_with f0
 refine (znr C gt cap base S1 q1 _ j2.out).mono ?_
 rintro e w7 ⟨S7,q7,z7,n7,rfl,i7,m7,s7⟩
 replace j0:=hidI (j0.out.stp s7)
 replace n0:=hidI (n0.out.stp s7)
 have P3:=hidI (J2.out.step s7)
 clear J2
 have N2:=hidI m7
 have Z5:=hidI i7
 clear i7 m7 s7 j2
 clear a0 a1 a2 a3 a4 a5 a6 a7 a8 a9 E0 B0 af
 have u5:w.heap.size+1<w7.heap.size:=n0.out.lt
 unfold pv
 go_upto_region 26 with f0
 refine zo (R:=fun W=>Bx gt S7 W (w.heap.size) _∧Bx gt S7 W (w.heap.size+1) _∧Bx gt S7 W (w7.heap.size) _∧Mem C gt cap base S7 q7 W∧SB w.heap.size S w S7 W) ⟨(j0.out.alloc _),(n0.out.alloc _),(Bx.new N2.out _),(N2.out.alloc _),(P3.out.alloc _)⟩ ?_
 clear j0 n0 P3 N2
 rintro w8 ⟨X0,X1,X2,m8,t8⟩
 have j0:=hidI X0
 have n0:=hidI X1
 have G0:=hidI X2
 have H4:=hidI m8
 have J4:=hidI t8
 clear m8 t8 X0 X1 X2
 obtain⟨c0,c1,c2,c3,c4,c5,c6,c7,c8,c9,c10,c11,cf⟩:=G0.out.box
 go_wp2_with f0
 refine (zhb C gt cap base _ S7 q7 z7 0 ⟨1,n7,n7,sNone⟩ _ Z5.out.fst H4.out (zblp Z5.out)).mono ?_
 rintro e w9 ⟨S9,q9,z9,rfl,i9,m9,s9⟩
 replace j0:=hidI (j0.out.stp s9)
 replace n0:=hidI (n0.out.stp s9)
 replace G0:=hidI (G0.out.stp s9)
 have J5:=hidI (J4.out.step s9)
 clear J4
 have G5:=hidI m9
 have y6:=hidI i9
 clear i9 m9 s9 H4
 clear c0 c1 c2 c3 c4 c5 c6 c7 c8 c9 c10 c11 cf
 obtain⟨b0,b1,b2,b3,b4,b5,b6,b7,b8,b9,Z4,j5,bf⟩:=n0.out.box
 unfold pv
 go_wp2
 refine bodyPost_ret (results_cell_row rfl _ _ (w.heap.size+1) 100 _ (0,0) _ rfl ((n0.out.put _ _ _ _ _ _ _ _ _ _ _ _)).heap Tryz.underlying100 rfl (by o0)) rfl ?_
 rw[HV.out,←HQ.out,←Z5.out.bind (fun q n=>zv C ⟨1,n,n,sNone⟩ q)]
 exact zx rfl y6.out (G5.out.put n0.out _ _ _ _ _ _ _ _ _ _ _ _) (J5.out.put (by omega) _ _ _ _ _ _ _ _ _ _ _ _)
theorem zzw (C:Cx) (gt cap base:Nat) (S:Sv) (q:PS) (w:World) (hm:Mem C gt cap base S q w) (hw:isT C q.pos 1 zbk=true) (h1:isT C (q.pos+1) 4 zbo=false) (h2:isT C (q.pos+1) 4 zbb=false) (h3:isT C (q.pos+1) 1 sDefault=false) (h4:isT C (q.pos+1) 1 sLet=false) (h5:isT C (q.pos+1) 1 zr=true):
  Calls Tryz.prog 121 #[pv C gt cap S q (-1) 0] w (Out C gt cap base (zbm C q) 0 S w):=by
 have HM:=hidI hm
 have I0:=hm.few
 clear hm
 have HV:Hid (zbm C q=bd (fnP C (adv q)) fun a=>zv C ⟨1,a.2,a.2,sNone⟩ a.1):=by
  show _=_
  rw[zbm,tokP,if_pos hw,zbe]
  rw[zp,h1,h2,h3,h4,h5]
  rfl
 unfold pv
 go_enter Tryz.func121,Tryz.ntmps121
 go_wp2_with f0
 refine (zbh C gt cap base (.ok q) S q (-1) 0 zbk _ (zby q) ((HM.out.alloc _).alloc _)).mono ?_
 rintro e w1 ⟨S1,q1,z1,rfl,i1,m1,s1⟩
 obtain⟨X0,X1,t1⟩:=HM.out.two2 s1
 have j0:=hidI X0
 have n0:=hidI X1
 have Q0:=hidI m1
 have N1:=hidI t1
 have L6:=hidI i1
 clear X0 X1 i1 m1 t1 s1
 obtain⟨l7,rfl⟩:=zgm L6.out hw
 have HQ:=hidI l7
 have u6:Hid (q1.pos=q.pos+1):=by show q1.pos=q.pos+1;rw[l7];rfl
 clear l7 L6
 obtain⟨a0,a1,a2,a3,a4,a5,a6,a7,a8,a9,E0,B0,af⟩:=j0.out.box
 unfold pv
 go_upto_region 2 with f0
 refine zo (R:=fun W=>Bx gt S1 W (w.heap.size) _∧Bx gt S1 W (w.heap.size+1) _∧Mem C gt cap base S1 q1 W∧SB w.heap.size S w S1 W) ⟨(j0.out.put _ _ _ _ _ _ _ _ _ _ _ _),(n0.out.other (by omega) _ _ _ _ _ _ _ _ _ _ _ _),(Q0.out.put j0.out _ _ _ _ _ _ _ _ _ _ _ _),(N1.out.put (by omega) _ _ _ _ _ _ _ _ _ _ _ _)⟩ ?_
 clear a0 a1 a2 a3 a4 a5 a6 a7 a8 a9 E0 B0 af
 clear j0 n0 N1 Q0
 rintro w2 ⟨X0,X1,m2,t2⟩
 have j0:=hidI X0
 have n0:=hidI X1
 have M0:=hidI m2
 have F1:=hidI t2
 clear m2 t2 X0 X1
 obtain⟨a0,a1,a2,a3,a4,a5,a6,a7,a8,a9,E0,B0,af⟩:=j0.out.box
 go_wp2_with f0
 refine (zf C gt cap base S1 q1 (-1) 0 4 zbo _ M0.out.tok I0 (by decide)).mono ?_
 rintro e w3 ⟨rfl,N0⟩
 rw[u6.out,h1]
 replace j0:=hidI (j0.out.below N0)
 replace n0:=hidI (n0.out.below N0)
 have Q1:=hidI (F1.out.below N0)
 have U0:=hidI (M0.out.later N0)
 clear N0 F1 M0
 clear a0 a1 a2 a3 a4 a5 a6 a7 a8 a9 E0 B0 af
 obtain⟨a0,a1,a2,a3,a4,a5,a6,a7,a8,a9,E0,B0,af⟩:=j0.out.box
 go_wp2_with f0
 refine (zf C gt cap base S1 q1 (-1) 0 4 zbb _ U0.out.tok I0 (by decide)).mono ?_
 rintro e w4 ⟨rfl,Z0⟩
 rw[u6.out,h2]
 replace j0:=hidI (j0.out.below Z0)
 replace n0:=hidI (n0.out.below Z0)
 have F2:=hidI (Q1.out.below Z0)
 have V1:=hidI (U0.out.later Z0)
 clear Z0 Q1 U0
 clear a0 a1 a2 a3 a4 a5 a6 a7 a8 a9 E0 B0 af
 obtain⟨a0,a1,a2,a3,a4,a5,a6,a7,a8,a9,E0,B0,af⟩:=j0.out.box
 go_wp2_with f0
 refine (zf C gt cap base S1 q1 (-1) 0 1 sDefault _ V1.out.tok I0 (by decide)).mono ?_
 rintro e w5 ⟨rfl,E3⟩
 rw[u6.out,h3]
 replace j0:=hidI (j0.out.below E3)
 replace n0:=hidI (n0.out.below E3)
 have P2:=hidI (F2.out.below E3)
 have Z1:=hidI (V1.out.later E3)
 clear E3 F2 V1
 clear a0 a1 a2 a3 a4 a5 a6 a7 a8 a9 E0 B0 af
 obtain⟨a0,a1,a2,a3,a4,a5,a6,a7,a8,a9,E0,B0,af⟩:=j0.out.box
 go_wp2_with f0
 refine (zf C gt cap base S1 q1 (-1) 0 1 sLet _ Z1.out.tok I0 (by decide)).mono ?_
 rintro e w6 ⟨rfl,E4⟩
 rw[u6.out,h4]
 replace j0:=hidI (j0.out.below E4)
 replace n0:=hidI (n0.out.below E4)
 have J2:=hidI (P2.out.below E4)
 have j2:=hidI (Z1.out.later E4)
 clear E4 P2 Z1
 clear a0 a1 a2 a3 a4 a5 a6 a7 a8 a9 E0 B0 af
 obtain⟨a0,a1,a2,a3,a4,a5,a6,a7,a8,a9,E0,B0,af⟩:=j0.out.box
 go_wp2_with f0
 refine (zf C gt cap base S1 q1 (-1) 0 1 zr _ j2.out.tok I0 (by decide)).mono ?_
 rintro e w7 ⟨rfl,A7⟩
 rw[u6.out,h5]
 replace j0:=hidI (j0.out.below A7)
 replace n0:=hidI (n0.out.below A7)
 have P3:=hidI (J2.out.below A7)
 have N2:=hidI (j2.out.later A7)
 clear A7 J2 j2
 clear a0 a1 a2 a3 a4 a5 a6 a7 a8 a9 E0 B0 af
 obtain⟨a0,a1,a2,a3,a4,a5,a6,a7,a8,a9,E0,B0,af⟩:=j0.out.box
 clear u6
 go_wp2_with f0
 refine (zoz C gt cap base S1 q1 _ N2.out).mono ?_
 rintro e w8 ⟨S8,q8,z8,n8,rfl,i8,m8,s8⟩
 replace j0:=hidI (j0.out.stp s8)
 replace n0:=hidI (n0.out.stp s8)
 have J4:=hidI (P3.out.step s8)
 clear P3
 have H4:=hidI m8
 have H7:=hidI i8
 clear i8 m8 s8 N2
 clear a0 a1 a2 a3 a4 a5 a6 a7 a8 a9 E0 B0 af
 have u5:w.heap.size+1<w8.heap.size:=n0.out.lt
 unfold pv
 go_upto_region 29 with f0
 refine zo (R:=fun W=>Bx gt S8 W (w.heap.size) _∧Bx gt S8 W (w.heap.size+1) _∧Bx gt S8 W (w8.heap.size) _∧Mem C gt cap base S8 q8 W∧SB w.heap.size S w S8 W) ⟨(j0.out.alloc _),(n0.out.alloc _),(Bx.new H4.out _),(H4.out.alloc _),(J4.out.alloc _)⟩ ?_
 clear j0 n0 J4 H4
 rintro w9 ⟨X0,X1,X2,m9,t9⟩
 have j0:=hidI X0
 have n0:=hidI X1
 have G0:=hidI X2
 have G5:=hidI m9
 have J5:=hidI t9
 clear m9 t9 X0 X1 X2
 obtain⟨c0,c1,c2,c3,c4,c5,c6,c7,c8,c9,c10,c11,cf⟩:=G0.out.box
 go_wp2_with f0
 refine (zhb C gt cap base _ S8 q8 z8 0 ⟨1,n8,n8,sNone⟩ _ H7.out.fst G5.out (zboe H7.out)).mono ?_
 rintro e G8 ⟨Q6,X8,r9,rfl,N6,V5,U3⟩
 replace j0:=hidI (j0.out.stp U3)
 replace n0:=hidI (n0.out.stp U3)
 replace G0:=hidI (G0.out.stp U3)
 have l6:=hidI (J5.out.step U3)
 clear J5
 have A5:=hidI V5
 have A6:=hidI N6
 clear N6 V5 U3 G5
 clear c0 c1 c2 c3 c4 c5 c6 c7 c8 c9 c10 c11 cf
 obtain⟨b0,b1,b2,b3,b4,b5,b6,b7,b8,b9,Z4,j5,bf⟩:=n0.out.box
 unfold pv
 go_wp2
 refine bodyPost_ret (results_cell_row rfl _ _ (w.heap.size+1) 100 _ (0,0) _ rfl ((n0.out.put _ _ _ _ _ _ _ _ _ _ _ _)).heap Tryz.underlying100 rfl (by o0)) rfl ?_
 rw[HV.out,←HQ.out,←H7.out.bind (fun q n=>zv C ⟨1,n,n,sNone⟩ q)]
 exact zx rfl A6.out (A5.out.put n0.out _ _ _ _ _ _ _ _ _ _ _ _) (l6.out.put (by omega) _ _ _ _ _ _ _ _ _ _ _ _)
theorem zvj (C:Cx) (gt cap base:Nat) (S:Sv) (q:PS) (w:World) (hm:Mem C gt cap base S q w) (hw:isT C q.pos 1 zbk=true) (h1:isT C (q.pos+1) 4 zbo=false) (h2:isT C (q.pos+1) 4 zbb=false) (h3:isT C (q.pos+1) 1 sDefault=false) (h4:isT C (q.pos+1) 1 sLet=false) (h5:isT C (q.pos+1) 1 zr=false):
  Calls Tryz.prog 121 #[pv C gt cap S q (-1) 0] w (Out C gt cap base (zbm C q) 0 S w):=by
 have HM:=hidI hm
 have I0:=hm.few
 clear hm
 have HV:Hid (zbm C q= .error (here C (adv q).pos)):=by
  show _=_
  rw[zbm,tokP,if_pos hw,zbe]
  rw[zp,h1,h2,h3,h4,h5]
  rfl
 unfold pv
 go_enter Tryz.func121,Tryz.ntmps121
 go_wp2_with f0
 refine (zbh C gt cap base (.ok q) S q (-1) 0 zbk _ (zby q) ((HM.out.alloc _).alloc _)).mono ?_
 rintro e w1 ⟨S1,q1,z1,rfl,i1,m1,s1⟩
 obtain⟨X0,X1,t1⟩:=HM.out.two2 s1
 have j0:=hidI X0
 have n0:=hidI X1
 have Q0:=hidI m1
 have N1:=hidI t1
 have L6:=hidI i1
 clear X0 X1 i1 m1 t1 s1
 obtain⟨l7,rfl⟩:=zgm L6.out hw
 have HQ:=hidI l7
 have u6:Hid (q1.pos=q.pos+1):=by show q1.pos=q.pos+1;rw[l7];rfl
 clear l7 L6
 obtain⟨a0,a1,a2,a3,a4,a5,a6,a7,a8,a9,E0,B0,af⟩:=j0.out.box
 unfold pv
 go_upto_region 2 with f0
 refine zo (R:=fun W=>Bx gt S1 W (w.heap.size) _∧Bx gt S1 W (w.heap.size+1) _∧Mem C gt cap base S1 q1 W∧SB w.heap.size S w S1 W) ⟨(j0.out.put _ _ _ _ _ _ _ _ _ _ _ _),(n0.out.other (by omega) _ _ _ _ _ _ _ _ _ _ _ _),(Q0.out.put j0.out _ _ _ _ _ _ _ _ _ _ _ _),(N1.out.put (by omega) _ _ _ _ _ _ _ _ _ _ _ _)⟩ ?_
 clear a0 a1 a2 a3 a4 a5 a6 a7 a8 a9 E0 B0 af
 clear j0 n0 N1 Q0
 rintro w2 ⟨X0,X1,m2,t2⟩
 have j0:=hidI X0
 have n0:=hidI X1
 have M0:=hidI m2
 have F1:=hidI t2
 clear m2 t2 X0 X1
 obtain⟨a0,a1,a2,a3,a4,a5,a6,a7,a8,a9,E0,B0,af⟩:=j0.out.box
 go_wp2_with f0
 refine (zf C gt cap base S1 q1 (-1) 0 4 zbo _ M0.out.tok I0 (by decide)).mono ?_
 rintro e w3 ⟨rfl,N0⟩
 rw[u6.out,h1]
 replace j0:=hidI (j0.out.below N0)
 replace n0:=hidI (n0.out.below N0)
 have Q1:=hidI (F1.out.below N0)
 have U0:=hidI (M0.out.later N0)
 clear N0 F1 M0
 clear a0 a1 a2 a3 a4 a5 a6 a7 a8 a9 E0 B0 af
 obtain⟨a0,a1,a2,a3,a4,a5,a6,a7,a8,a9,E0,B0,af⟩:=j0.out.box
 go_wp2_with f0
 refine (zf C gt cap base S1 q1 (-1) 0 4 zbb _ U0.out.tok I0 (by decide)).mono ?_
 rintro e w4 ⟨rfl,Z0⟩
 rw[u6.out,h2]
 replace j0:=hidI (j0.out.below Z0)
 replace n0:=hidI (n0.out.below Z0)
 have F2:=hidI (Q1.out.below Z0)
 have V1:=hidI (U0.out.later Z0)
 clear Z0 Q1 U0
 clear a0 a1 a2 a3 a4 a5 a6 a7 a8 a9 E0 B0 af
 obtain⟨a0,a1,a2,a3,a4,a5,a6,a7,a8,a9,E0,B0,af⟩:=j0.out.box
 go_wp2_with f0
 refine (zf C gt cap base S1 q1 (-1) 0 1 sDefault _ V1.out.tok I0 (by decide)).mono ?_
 rintro e w5 ⟨rfl,E3⟩
 rw[u6.out,h3]
 replace j0:=hidI (j0.out.below E3)
 replace n0:=hidI (n0.out.below E3)
 have P2:=hidI (F2.out.below E3)
 have Z1:=hidI (V1.out.later E3)
 clear E3 F2 V1
 clear a0 a1 a2 a3 a4 a5 a6 a7 a8 a9 E0 B0 af
 obtain⟨a0,a1,a2,a3,a4,a5,a6,a7,a8,a9,E0,B0,af⟩:=j0.out.box
 go_wp2_with f0
 refine (zf C gt cap base S1 q1 (-1) 0 1 sLet _ Z1.out.tok I0 (by decide)).mono ?_
 rintro e w6 ⟨rfl,E4⟩
 rw[u6.out,h4]
 replace j0:=hidI (j0.out.below E4)
 replace n0:=hidI (n0.out.below E4)
 have J2:=hidI (P2.out.below E4)
 have j2:=hidI (Z1.out.later E4)
 clear E4 P2 Z1
 clear a0 a1 a2 a3 a4 a5 a6 a7 a8 a9 E0 B0 af
 obtain⟨a0,a1,a2,a3,a4,a5,a6,a7,a8,a9,E0,B0,af⟩:=j0.out.box
 go_wp2_with f0
 refine (zf C gt cap base S1 q1 (-1) 0 1 zr _ j2.out.tok I0 (by decide)).mono ?_
 rintro e w7 ⟨rfl,A7⟩
 rw[u6.out,h5]
 replace j0:=hidI (j0.out.below A7)
 replace n0:=hidI (n0.out.below A7)
 have P3:=hidI (J2.out.below A7)
 have N2:=hidI (j2.out.later A7)
 clear A7 J2 j2
 clear a0 a1 a2 a3 a4 a5 a6 a7 a8 a9 E0 B0 af
 obtain⟨a0,a1,a2,a3,a4,a5,a6,a7,a8,a9,E0,B0,af⟩:=j0.out.box
 clear u6
 go_wp2_with f0
 refine (zgi C gt cap base S1 q1 (-1) 0 _ N2.out.tok I0).mono ?_
 rintro e w8 ⟨rfl,Ie⟩
 replace j0:=hidI (j0.out.below Ie)
 replace n0:=hidI (n0.out.below Ie)
 have J4:=hidI (P3.out.below Ie)
 have H4:=hidI (N2.out.later Ie)
 clear Ie P3 N2
 clear a0 a1 a2 a3 a4 a5 a6 a7 a8 a9 E0 B0 af
 obtain⟨b0,b1,b2,b3,b4,b5,b6,b7,b8,b9,Z4,j5,bf⟩:=n0.out.box
 unfold pv
 go_wp2
 refine bodyPost_ret (results_cell_row rfl _ _ (w.heap.size+1) 100 _ (0,0) _ rfl ((n0.out.put _ _ _ _ _ _ _ _ _ _ _ _)).heap Tryz.underlying100 rfl (by o0)) rfl ?_
 rw[HV.out,←HQ.out]
 exact zx rfl (show Is (.error (here C q1.pos)) q1 _ from rfl) (H4.out.put n0.out _ _ _ _ _ _ _ _ _ _ _ _) (J4.out.put (by omega) _ _ _ _ _ _ _ _ _ _ _ _)
theorem zvk (C:Cx) (gt cap base:Nat) (S:Sv) (q:PS) (w:World) (hm:Mem C gt cap base S q w) (hw:isT C q.pos 1 zbk=true) (h1:isT C (q.pos+1) 4 zbo=true):
  Calls Tryz.prog 121 #[pv C gt cap S q (-1) 0] w (Out C gt cap base (zbm C q) 0 S w):=by
 have HM:=hidI hm
 have I0:=hm.few
 clear hm
 have HV:Hid (zbm C q=bd (zje C true (adv q)) fun a=>if !anyB a.2&& !isT C a.1.pos 1 zbw then bd (tokP C 4 cSemi a.1) fun q=>zbg (fun e=>zv C (zw e)) a.2 (.ok q) else bd (zel C (zdj C (.ok a.1))) fun b=>zbg (fun e=>zv C (zbq b.2 e)) a.2 (.ok b.1)):=by
  show _=_
  rw[zbm,tokP,if_pos hw,zbe]
  rw[zp,h1]
  rfl
 unfold pv
 go_enter Tryz.func121,Tryz.ntmps121
 go_wp2_with f0
 refine (zbh C gt cap base (.ok q) S q (-1) 0 zbk _ (zby q) ((HM.out.alloc _).alloc _)).mono ?_
 rintro e w1 ⟨S1,q1,z1,rfl,i1,m1,s1⟩
 obtain⟨X0,X1,t1⟩:=HM.out.two2 s1
 have j0:=hidI X0
 have n0:=hidI X1
 have Q0:=hidI m1
 have N1:=hidI t1
 have L6:=hidI i1
 clear X0 X1 i1 m1 t1 s1
 obtain⟨l7,rfl⟩:=zgm L6.out hw
 have HQ:=hidI l7
 have u6:Hid (q1.pos=q.pos+1):=by show q1.pos=q.pos+1;rw[l7];rfl
 clear l7 L6
 obtain⟨a0,a1,a2,a3,a4,a5,a6,a7,a8,a9,E0,B0,af⟩:=j0.out.box
 unfold pv
 go_upto_region 2 with f0
 refine zo (R:=fun W=>Bx gt S1 W (w.heap.size) _∧Bx gt S1 W (w.heap.size+1) _∧Mem C gt cap base S1 q1 W∧SB w.heap.size S w S1 W) ⟨(j0.out.put _ _ _ _ _ _ _ _ _ _ _ _),(n0.out.other (by omega) _ _ _ _ _ _ _ _ _ _ _ _),(Q0.out.put j0.out _ _ _ _ _ _ _ _ _ _ _ _),(N1.out.put (by omega) _ _ _ _ _ _ _ _ _ _ _ _)⟩ ?_
 clear a0 a1 a2 a3 a4 a5 a6 a7 a8 a9 E0 B0 af
 clear j0 n0 N1 Q0
 rintro w2 ⟨X0,X1,m2,t2⟩
 have j0:=hidI X0
 have n0:=hidI X1
 have M0:=hidI m2
 have F1:=hidI t2
 clear m2 t2 X0 X1
 have HV1:Hid (zbm C q=bd (zje C true q1) fun a=>if !anyB a.2&& !isT C a.1.pos 1 zbw then bd (tokP C 4 cSemi a.1) fun q=>zbg (fun e=>zv C (zw e)) a.2 (.ok q) else bd (zel C (zdj C (.ok a.1))) fun b=>zbg (fun e=>zv C (zbq b.2 e)) a.2 (.ok b.1)):=by show _=_;rw[HQ.out];exact HV.out
 obtain⟨a0,a1,a2,a3,a4,a5,a6,a7,a8,a9,E0,B0,af⟩:=j0.out.box
 go_wp2_with f0
 refine (zf C gt cap base S1 q1 (-1) 0 4 zbo _ M0.out.tok I0 (by decide)).mono ?_
 rintro e w3 ⟨rfl,N0⟩
 rw[u6.out,h1]
 replace j0:=hidI (j0.out.below N0)
 replace n0:=hidI (n0.out.below N0)
 have Q1:=hidI (F1.out.below N0)
 have U0:=hidI (M0.out.later N0)
 clear N0 F1 M0
 clear a0 a1 a2 a3 a4 a5 a6 a7 a8 a9 E0 B0 af
 obtain⟨a0,a1,a2,a3,a4,a5,a6,a7,a8,a9,E0,B0,af⟩:=j0.out.box
 clear u6
 have Y0:=Q1.out.size
 go_wp2_with f0
 refine (zql C gt cap base S1 q1 0 true _ U0.out).mono ?_
 rintro e w4 ⟨S4,q4,z4,⟨ra,rc⟩,l,rfl,i4,m4,s4,R0,hl⟩
 obtain⟨g,rfl⟩: ∃g,ra=some ⟨g,0,none⟩:=R0.addr
 replace j0:=hidI (j0.out.stp s4)
 replace n0:=hidI (n0.out.stp s4)
 have F2:=hidI (Q1.out.step s4)
 clear Q1
 have V1:=hidI m4
 have L7:=hidI i4
 clear i4 m4 s4 U0
 clear a0 a1 a2 a3 a4 a5 a6 a7 a8 a9 E0 B0 af
 have hR:Hid (Row S4 w4 base w.heap.size ⟨some ⟨g,0,none⟩,rc⟩ l):=⟨R0.own,R0.free,fun k hk=>Nat.le_trans Y0 (R0.new k hk),R0.addr⟩
 clear R0
 have u5:w.heap.size+1<w4.heap.size:=n0.out.lt
 unfold pv
 go_upto_region 4 with f0
 refine zo (R:=fun W=>Bx gt S4 W (w.heap.size) _∧Bx gt S4 W (w.heap.size+1) _∧Bx gt S4 W (w4.heap.size) _∧Row S4 W base w.heap.size ⟨some ⟨g,0,none⟩,rc⟩ l∧Mem C gt cap base S4 q4 W∧SB w.heap.size S w S4 W) ⟨(j0.out.alloc _),(n0.out.alloc _),(Bx.new V1.out _),(hR.out.alloc _),(V1.out.alloc _),(F2.out.alloc _)⟩ ?_
 clear j0 n0 F2 V1
 clear hR
 rintro w5 ⟨X0,X1,X2,R0,m5,t5⟩
 have hR:=hidI R0
 clear R0
 have j0:=hidI X0
 have n0:=hidI X1
 have G0:=hidI X2
 have Z1:=hidI m5
 have P2:=hidI t5
 clear m5 t5 X0 X1 X2
 cases hA:anyB l with
 |true=>
  skip
  obtain⟨c0,c1,c2,c3,c4,c5,c6,c7,c8,c9,c10,c11,cf⟩:=G0.out.box
  go_wp2_with f0
  refine (zbh C gt cap base _ S4 q4 z4 0 zbw _ L7.out.fst Z1.out).mono ?_
  rintro e w6 ⟨S6,q6,z6,rfl,i6,m6,s6⟩
  replace j0:=hidI (j0.out.stp s6)
  replace n0:=hidI (n0.out.stp s6)
  replace G0:=hidI (G0.out.stp s6)
  have J2:=hidI (P2.out.step s6)
  have L5:Hid (Row S6 w6 base w.heap.size ⟨some ⟨g,0,none⟩,rc⟩ l):=hR.out.stp s6
  clear hR
  have hR:=hidI L5
  clear L5
  clear P2
  have j2:=hidI m6
  have D7:=hidI i6
  clear i6 m6 s6 Z1
  clear c0 c1 c2 c3 c4 c5 c6 c7 c8 c9 c10 c11 cf
  go_wp2_with f0
  refine (zgl C gt cap base _ S6 q6 z6 0 _ D7.out j2.out).mono ?_
  rintro e w7 ⟨S7,q7,z7,n7,rfl,i7,m7,s7⟩
  replace j0:=hidI (j0.out.stp s7)
  replace n0:=hidI (n0.out.stp s7)
  replace G0:=hidI (G0.out.stp s7)
  have P3:=hidI (J2.out.step s7)
  have L5:Hid (Row S7 w7 base w.heap.size ⟨some ⟨g,0,none⟩,rc⟩ l):=hR.out.stp s7
  clear hR
  have hR:=hidI L5
  clear L5
  clear J2
  have N2:=hidI m7
  have Z5:=hidI i7
  clear i7 m7 s7 j2
  have Ta:w.heap.size+1<w7.heap.size:=n0.out.lt
  have Za:w4.heap.size<w7.heap.size:=G0.out.lt
  unfold pv
  go_upto_region 12 with f0
  refine zo (R:=fun W=>Bx gt S7 W (w.heap.size) _∧Bx gt S7 W (w.heap.size+1) _∧Bx gt S7 W (w4.heap.size) _∧Bx gt S7 W (w7.heap.size) _∧Row S7 W base w.heap.size ⟨some ⟨g,0,none⟩,rc⟩ l∧Mem C gt cap base S7 q7 W∧SB w.heap.size S w S7 W) ⟨(j0.out.alloc _),(n0.out.alloc _),(G0.out.alloc _),(Bx.new N2.out _),(hR.out.alloc _),(N2.out.alloc _),(P3.out.alloc _)⟩ ?_
  clear j0 n0 G0 P3 N2
  clear hR
  rintro w8 ⟨X0,X1,X2,X3,R0,m8,t8⟩
  have hR:=hidI R0
  clear R0
  have j0:=hidI X0
  have n0:=hidI X1
  have G0:=hidI X2
  have G4:=hidI X3
  have H4:=hidI m8
  have J4:=hidI t8
  clear m8 t8 X0 X1 X2 X3
  obtain⟨d0,d1,d2,d3,d4,d5,d6,d7,d8,d9,V7,W7,df⟩:=G4.out.box
  go_wp2_with f0
  refine (zq C gt cap base _ S7 q7 z7 0 cSemi _ Z5.out.fst H4.out).mono ?_
  rintro e w9 ⟨S9,q9,z9,rfl,i9,m9,s9⟩
  replace j0:=hidI (j0.out.stp s9)
  replace n0:=hidI (n0.out.stp s9)
  replace G0:=hidI (G0.out.stp s9)
  replace G4:=hidI (G4.out.stp s9)
  have J5:=hidI (J4.out.step s9)
  have L5:Hid (Row S9 w9 base w.heap.size ⟨some ⟨g,0,none⟩,rc⟩ l):=hR.out.stp s9
  clear hR
  have hR:=hidI L5
  clear L5
  clear J4
  have G5:=hidI m9
  have y6:=hidI i9
  clear i9 m9 s9 H4
  clear d0 d1 d2 d3 d4 d5 d6 d7 d8 d9 V7 W7 df
  obtain⟨a0,a1,a2,a3,a4,a5,a6,a7,a8,a9,E0,B0,af⟩:=j0.out.box
  unfold pv
  go_upto_region 13 with f0
  refine zo (R:=fun W=>Bx gt S9 W (w.heap.size) _∧Bx gt S9 W (w.heap.size+1) _∧Bx gt S9 W (w4.heap.size) _∧Bx gt S9 W (w7.heap.size) _∧Row S9 W base w.heap.size ⟨some ⟨g,0,none⟩,rc⟩ l∧Mem C gt cap base S9 q9 W∧SB w.heap.size S w S9 W) ⟨(j0.out.put _ _ _ _ _ _ _ _ _ _ _ _),(n0.out.other (by omega) _ _ _ _ _ _ _ _ _ _ _ _),(G0.out.other (by omega) _ _ _ _ _ _ _ _ _ _ _ _),(G4.out.other (by omega) _ _ _ _ _ _ _ _ _ _ _ _),(hR.out.put j0.out _ _ _ _ _ _ _ _ _ _ _ _),(G5.out.put j0.out _ _ _ _ _ _ _ _ _ _ _ _),(J5.out.put (by omega) _ _ _ _ _ _ _ _ _ _ _ _)⟩ ?_
  clear a0 a1 a2 a3 a4 a5 a6 a7 a8 a9 E0 B0 af
  clear j0 n0 G0 G4 J5 G5
  clear hR
  rintro G8 ⟨X0,X1,X2,X3,R0,V5,ec⟩
  have hR:=hidI R0
  clear R0
  have j0:=hidI X0
  have n0:=hidI X1
  have G0:=hidI X2
  have G4:=hidI X3
  have A5:=hidI V5
  have l6:=hidI ec
  clear V5 ec X0 X1 X2 X3
  have Zd:Hid (_=zbm C q):=(zpa (G:=fun b e=>zv C (zbq b e)) L7.out Z5.out).trans ((zun L7.out (.inl hA)).trans HV1.out.symm)
  go_wp2
  go_loopg [9] l.length (fun k i wr=>∃(j:Nat) (x':PR) (S':Sv) (q':PS) (z':Int),j≤l.length∧i= .int .i64 j∧Is x' q' z'∧(z'<0→1≤q'.pos)∧zbg (fun e=>zv C (zbq n7 e)) (l.drop j) x'=zbm C q∧l.length-j=k∧Mem C gt cap base S' q' wr∧SB w.heap.size S w S' wr∧Bx gt S' wr w.heap.size #[.slice (some ⟨gt,0,none⟩) C.ts.length cap,.int .i64 q'.pos,.int .i64 C.fin,.bool C.scr,.slice S'.rq.a q'.rq.length S'.rq.cap,.slice S'.im.a q'.im.length S'.im.cap,.slice S'.ep.a q'.ep.length S'.ep.cap,.slice S'.st.a q'.st.length S'.st.cap,.slice S'.ex.a q'.ex.length S'.ex.cap,.slice S'.la.a q'.la.length S'.la.cap,.int .i64 z',.int .i64 0]∧Bx gt S' wr (w.heap.size+1) #[.slice none 0 0,.int .i64 0,.int .i64 0,.bool false,.slice none 0 0,.slice none 0 0,.slice none 0 0,.slice none 0 0,.slice none 0 0,.slice none 0 0,.int .i64 0,.int .i64 0]∧Row S' wr base w.heap.size ⟨some ⟨g,0,none⟩,rc⟩ l)
  case atStart=>exact⟨0,_,S9,q9,z9,Nat.zero_le _,rfl,y6.out,zdi y6.out,Zd.out,rfl,A5.out,l6.out,j0.out,n0.out,hR.out⟩
  case round=>
   obtain⟨j,x9,S9,q9,z9,hj,rfl,i9,p9,e9,g9,m9,t9,X0,X1,R0⟩:=hrel
   clear j0 n0 G0 G4 hR A5 l6
   have j0:=hidI X0
   have n0:=hidI X1
   have G5:=hidI m9
   have J5:=hidI t9
   have y6:=hidI i9
   have Yb:=hidI p9
   have ic:=hidI e9
   have U7:=hidI g9
   have hR:=hidI R0
   clear X0 X1 i9 m9 t9 e9 g9 R0 p9
   by_cases F0:j<l.length
   ·skip
    obtain⟨c1,c2⟩:=hR.out.cells (g:=g) rfl F0
    have N3:=hR.out.own.lt (g:=g) rfl
    have HX:Hid (∀e,e=l[j]→zbg (fun e=>zv C (zbq n7 e)) (l.drop (j+1)) (bd x9 (zv C (zbq n7 e)))=zbm C q):=fun e he=>by rw[he,←ic.out];exact (zkk (fun e=>zv C (zbq n7 e)) l x9 F0).symm
    generalize Xa:l[j]=el at c1 c2
    have M8:Hid (el=l[j]):=Xa.symm
    clear Xa
    obtain⟨a0,a1,a2,a3,a4,a5,a6,a7,a8,a9,E0,B0,af⟩:=j0.out.box
    go_upto_region 16 with f0
    go_region_law (first|(go_simp;go_wp2_with (go_at_call 199;refine (zhb C gt cap base x9 S9 q9 z9 0 (zbq n7 el) _ y6.out G5.out.drew Yb.out).mono ?_;rintro e G8 ⟨Q6,X8,r9,rfl,N6,V5,U3⟩;obtain⟨d0,d1,d2,d3,d4,d5,d6,d7,d8,d9,V7,W7,df⟩:=(j0.out.stp U3.undrew).box;unfold pv)))
    all_goals
     clear a0 a1 a2 a3 a4 a5 a6 a7 a8 a9 E0 B0 af d0 d1 d2 d3 d4 d5 d6 d7 d8 d9 V7 W7 df
     have A6:=hidI N6
     have A5:=hidI V5
     have y7:Hid (Stp S9 wr Q6 G8):=U3.undrew
     clear N6 V5 U3
     go_wp2
     go_roundg (gk-1)
     case rel=>exact⟨j+1,_,Q6,X8,r9,by omega,by go_num,A6.out,zpb Yb.out y6.out A6.out,HX.out el M8.out,by have:=U7.out;omega,A5.out.put (j0.out.stp y7.out) _ _ _ _ _ _ _ _ _ _ _ _,(J5.out.step y7.out).put (by omega) _ _ _ _ _ _ _ _ _ _ _ _,(j0.out.stp y7.out).put _ _ _ _ _ _ _ _ _ _ _ _,(n0.out.stp y7.out).other (by omega) _ _ _ _ _ _ _ _ _ _ _ _,(hR.out.stp y7.out).put (j0.out.stp y7.out) _ _ _ _ _ _ _ _ _ _ _ _⟩
     case measure=>have:=U7.out;omega
   ·skip
    obtain⟨a0,a1,a2,a3,a4,a5,a6,a7,a8,a9,E0,B0,af⟩:=j0.out.box
    obtain⟨b0,b1,b2,b3,b4,b5,b6,b7,b8,b9,Z4,j5,bf⟩:=n0.out.box
    go_wp2
    refine bodyPost_ret (results_cell_row rfl _ _ (w.heap.size+1) 100 _ (0,0) _ rfl ((n0.out.put _ _ _ _ _ _ _ _ _ _ _ _)).heap Tryz.underlying100 rfl (by o0)) rfl ?_
    exact zx rfl (show Is (zbm C q) q9 z9 from by rw[←ic.out,List.drop_eq_nil_of_le (by omega)];exact y6.out) (G5.out.put n0.out _ _ _ _ _ _ _ _ _ _ _ _) (J5.out.put (by omega) _ _ _ _ _ _ _ _ _ _ _ _)
 |false=>
  cases hF:(decide (z4<0)&&isT C q4.pos 1 zbw) with
  |true=>
   obtain⟨c0,c1,c2,c3,c4,c5,c6,c7,c8,c9,c10,c11,cf⟩:=G0.out.box
   go_wp2_with f0
   refine (zf C gt cap base S4 q4 z4 0 1 zbw _ Z1.out.tok I0 (by decide)).mono ?_
   rintro e w6 ⟨rfl,E4⟩
   rw[hF]
   replace j0:=hidI (j0.out.below E4)
   replace n0:=hidI (n0.out.below E4)
   replace G0:=hidI (G0.out.below E4)
   have J2:=hidI (P2.out.below E4)
   have j2:=hidI (Z1.out.later E4)
   have L5:Hid (Row S4 w6 base w.heap.size ⟨some ⟨g,0,none⟩,rc⟩ l):=hR.out.below E4
   clear hR
   have hR:=hidI L5
   clear L5
   clear E4 P2 Z1
   clear c0 c1 c2 c3 c4 c5 c6 c7 c8 c9 c10 c11 cf
   obtain⟨c0,c1,c2,c3,c4,c5,c6,c7,c8,c9,c10,c11,cf⟩:=G0.out.box
   go_wp2_with f0
   refine (zbh C gt cap base _ S4 q4 z4 0 zbw _ L7.out.fst j2.out).mono ?_
   rintro e w7 ⟨S7,q7,z7,rfl,i7,m7,s7⟩
   replace j0:=hidI (j0.out.stp s7)
   replace n0:=hidI (n0.out.stp s7)
   replace G0:=hidI (G0.out.stp s7)
   have P3:=hidI (J2.out.step s7)
   have L5:Hid (Row S7 w7 base w.heap.size ⟨some ⟨g,0,none⟩,rc⟩ l):=hR.out.stp s7
   clear hR
   have hR:=hidI L5
   clear L5
   clear J2
   have N2:=hidI m7
   have Z5:=hidI i7
   clear i7 m7 s7 j2
   clear c0 c1 c2 c3 c4 c5 c6 c7 c8 c9 c10 c11 cf
   go_wp2_with f0
   refine (zgl C gt cap base _ S7 q7 z7 0 _ Z5.out N2.out).mono ?_
   rintro e w8 ⟨S8,q8,z8,n8,rfl,i8,m8,s8⟩
   replace j0:=hidI (j0.out.stp s8)
   replace n0:=hidI (n0.out.stp s8)
   replace G0:=hidI (G0.out.stp s8)
   have J4:=hidI (P3.out.step s8)
   have L5:Hid (Row S8 w8 base w.heap.size ⟨some ⟨g,0,none⟩,rc⟩ l):=hR.out.stp s8
   clear hR
   have hR:=hidI L5
   clear L5
   clear P3
   have H4:=hidI m8
   have H7:=hidI i8
   clear i8 m8 s8 N2
   have Ta:w.heap.size+1<w8.heap.size:=n0.out.lt
   have Za:w4.heap.size<w8.heap.size:=G0.out.lt
   unfold pv
   go_upto_region 12 with f0
   refine zo (R:=fun W=>Bx gt S8 W (w.heap.size) _∧Bx gt S8 W (w.heap.size+1) _∧Bx gt S8 W (w4.heap.size) _∧Bx gt S8 W (w8.heap.size) _∧Row S8 W base w.heap.size ⟨some ⟨g,0,none⟩,rc⟩ l∧Mem C gt cap base S8 q8 W∧SB w.heap.size S w S8 W) ⟨(j0.out.alloc _),(n0.out.alloc _),(G0.out.alloc _),(Bx.new H4.out _),(hR.out.alloc _),(H4.out.alloc _),(J4.out.alloc _)⟩ ?_
   clear j0 n0 G0 J4 H4
   clear hR
   rintro w9 ⟨X0,X1,X2,X3,R0,m9,t9⟩
   have hR:=hidI R0
   clear R0
   have j0:=hidI X0
   have n0:=hidI X1
   have G0:=hidI X2
   have G4:=hidI X3
   have G5:=hidI m9
   have J5:=hidI t9
   clear m9 t9 X0 X1 X2 X3
   obtain⟨d0,d1,d2,d3,d4,d5,d6,d7,d8,d9,V7,W7,df⟩:=G4.out.box
   go_wp2_with f0
   refine (zq C gt cap base _ S8 q8 z8 0 cSemi _ H7.out.fst G5.out).mono ?_
   rintro e G8 ⟨Q6,X8,r9,rfl,N6,V5,U3⟩
   replace j0:=hidI (j0.out.stp U3)
   replace n0:=hidI (n0.out.stp U3)
   replace G0:=hidI (G0.out.stp U3)
   replace G4:=hidI (G4.out.stp U3)
   have l6:=hidI (J5.out.step U3)
   have L5:Hid (Row Q6 G8 base w.heap.size ⟨some ⟨g,0,none⟩,rc⟩ l):=hR.out.stp U3
   clear hR
   have hR:=hidI L5
   clear L5
   clear J5
   have A5:=hidI V5
   have A6:=hidI N6
   clear N6 V5 U3 G5
   clear d0 d1 d2 d3 d4 d5 d6 d7 d8 d9 V7 W7 df
   obtain⟨a0,a1,a2,a3,a4,a5,a6,a7,a8,a9,E0,B0,af⟩:=j0.out.box
   unfold pv
   go_upto_region 13 with f0
   refine zo (R:=fun W=>Bx gt Q6 W (w.heap.size) _∧Bx gt Q6 W (w.heap.size+1) _∧Bx gt Q6 W (w4.heap.size) _∧Bx gt Q6 W (w8.heap.size) _∧Row Q6 W base w.heap.size ⟨some ⟨g,0,none⟩,rc⟩ l∧Mem C gt cap base Q6 X8 W∧SB w.heap.size S w Q6 W) ⟨(j0.out.put _ _ _ _ _ _ _ _ _ _ _ _),(n0.out.other (by omega) _ _ _ _ _ _ _ _ _ _ _ _),(G0.out.other (by omega) _ _ _ _ _ _ _ _ _ _ _ _),(G4.out.other (by omega) _ _ _ _ _ _ _ _ _ _ _ _),(hR.out.put j0.out _ _ _ _ _ _ _ _ _ _ _ _),(A5.out.put j0.out _ _ _ _ _ _ _ _ _ _ _ _),(l6.out.put (by omega) _ _ _ _ _ _ _ _ _ _ _ _)⟩ ?_
   clear a0 a1 a2 a3 a4 a5 a6 a7 a8 a9 E0 B0 af
   clear j0 n0 G0 G4 l6 A5
   clear hR
   rintro Ld ⟨X0,X1,X2,X3,R0,u9,Ge⟩
   have hR:=hidI R0
   clear R0
   have j0:=hidI X0
   have n0:=hidI X1
   have G0:=hidI X2
   have G4:=hidI X3
   have o8:=hidI u9
   have p8:=hidI Ge
   clear u9 Ge X0 X1 X2 X3
   have Zd:Hid (_=zbm C q):=(zpa (G:=fun b e=>zv C (zbq b e)) L7.out H7.out).trans ((zun L7.out (.inr hF)).trans HV1.out.symm)
   go_wp2
   go_loopg [9] l.length (fun k i wr=>∃(j:Nat) (x':PR) (S':Sv) (q':PS) (z':Int),j≤l.length∧i= .int .i64 j∧Is x' q' z'∧(z'<0→1≤q'.pos)∧zbg (fun e=>zv C (zbq n8 e)) (l.drop j) x'=zbm C q∧l.length-j=k∧Mem C gt cap base S' q' wr∧SB w.heap.size S w S' wr∧Bx gt S' wr w.heap.size #[.slice (some ⟨gt,0,none⟩) C.ts.length cap,.int .i64 q'.pos,.int .i64 C.fin,.bool C.scr,.slice S'.rq.a q'.rq.length S'.rq.cap,.slice S'.im.a q'.im.length S'.im.cap,.slice S'.ep.a q'.ep.length S'.ep.cap,.slice S'.st.a q'.st.length S'.st.cap,.slice S'.ex.a q'.ex.length S'.ex.cap,.slice S'.la.a q'.la.length S'.la.cap,.int .i64 z',.int .i64 0]∧Bx gt S' wr (w.heap.size+1) #[.slice none 0 0,.int .i64 0,.int .i64 0,.bool false,.slice none 0 0,.slice none 0 0,.slice none 0 0,.slice none 0 0,.slice none 0 0,.slice none 0 0,.int .i64 0,.int .i64 0]∧Row S' wr base w.heap.size ⟨some ⟨g,0,none⟩,rc⟩ l)
   case atStart=>exact⟨0,_,Q6,X8,r9,Nat.zero_le _,rfl,A6.out,zdi A6.out,Zd.out,rfl,o8.out,p8.out,j0.out,n0.out,hR.out⟩
   case round=>
    obtain⟨j,x9,S9,q9,z9,hj,rfl,i9,p9,e9,g9,m9,t9,X0,X1,R0⟩:=hrel
    clear j0 n0 G0 G4 hR o8 p8
    have j0:=hidI X0
    have n0:=hidI X1
    have G5:=hidI m9
    have J5:=hidI t9
    have y6:=hidI i9
    have Yb:=hidI p9
    have ic:=hidI e9
    have U7:=hidI g9
    have hR:=hidI R0
    clear X0 X1 i9 m9 t9 e9 g9 R0 p9
    by_cases F0:j<l.length
    ·skip
     obtain⟨c1,c2⟩:=hR.out.cells (g:=g) rfl F0
     have N3:=hR.out.own.lt (g:=g) rfl
     have HX:Hid (∀e,e=l[j]→zbg (fun e=>zv C (zbq n8 e)) (l.drop (j+1)) (bd x9 (zv C (zbq n8 e)))=zbm C q):=fun e he=>by rw[he,←ic.out];exact (zkk (fun e=>zv C (zbq n8 e)) l x9 F0).symm
     generalize Xa:l[j]=el at c1 c2
     have M8:Hid (el=l[j]):=Xa.symm
     clear Xa
     obtain⟨a0,a1,a2,a3,a4,a5,a6,a7,a8,a9,E0,B0,af⟩:=j0.out.box
     go_upto_region 16 with f0
     go_region_law (first|(go_simp;go_wp2_with (go_at_call 199;refine (zhb C gt cap base x9 S9 q9 z9 0 (zbq n8 el) _ y6.out G5.out.drew Yb.out).mono ?_;rintro e G8 ⟨Q6,X8,r9,rfl,N6,V5,U3⟩;obtain⟨d0,d1,d2,d3,d4,d5,d6,d7,d8,d9,V7,W7,df⟩:=(j0.out.stp U3.undrew).box;unfold pv)))
     all_goals
      clear a0 a1 a2 a3 a4 a5 a6 a7 a8 a9 E0 B0 af d0 d1 d2 d3 d4 d5 d6 d7 d8 d9 V7 W7 df
      have A6:=hidI N6
      have A5:=hidI V5
      have y7:Hid (Stp S9 wr Q6 G8):=U3.undrew
      clear N6 V5 U3
      go_wp2
      go_roundg (gk-1)
      case rel=>exact⟨j+1,_,Q6,X8,r9,by omega,by go_num,A6.out,zpb Yb.out y6.out A6.out,HX.out el M8.out,by have:=U7.out;omega,A5.out.put (j0.out.stp y7.out) _ _ _ _ _ _ _ _ _ _ _ _,(J5.out.step y7.out).put (by omega) _ _ _ _ _ _ _ _ _ _ _ _,(j0.out.stp y7.out).put _ _ _ _ _ _ _ _ _ _ _ _,(n0.out.stp y7.out).other (by omega) _ _ _ _ _ _ _ _ _ _ _ _,(hR.out.stp y7.out).put (j0.out.stp y7.out) _ _ _ _ _ _ _ _ _ _ _ _⟩
      case measure=>have:=U7.out;omega
    ·skip
     obtain⟨a0,a1,a2,a3,a4,a5,a6,a7,a8,a9,E0,B0,af⟩:=j0.out.box
     obtain⟨b0,b1,b2,b3,b4,b5,b6,b7,b8,b9,Z4,j5,bf⟩:=n0.out.box
     go_wp2
     refine bodyPost_ret (results_cell_row rfl _ _ (w.heap.size+1) 100 _ (0,0) _ rfl ((n0.out.put _ _ _ _ _ _ _ _ _ _ _ _)).heap Tryz.underlying100 rfl (by o0)) rfl ?_
     exact zx rfl (show Is (zbm C q) q9 z9 from by rw[←ic.out,List.drop_eq_nil_of_le (by omega)];exact y6.out) (G5.out.put n0.out _ _ _ _ _ _ _ _ _ _ _ _) (J5.out.put (by omega) _ _ _ _ _ _ _ _ _ _ _ _)
  |false=>
   obtain⟨c0,c1,c2,c3,c4,c5,c6,c7,c8,c9,c10,c11,cf⟩:=G0.out.box
   go_wp2_with f0
   refine (zf C gt cap base S4 q4 z4 0 1 zbw _ Z1.out.tok I0 (by decide)).mono ?_
   rintro e w6 ⟨rfl,E4⟩
   rw[hF]
   replace j0:=hidI (j0.out.below E4)
   replace n0:=hidI (n0.out.below E4)
   replace G0:=hidI (G0.out.below E4)
   have J2:=hidI (P2.out.below E4)
   have j2:=hidI (Z1.out.later E4)
   have L5:Hid (Row S4 w6 base w.heap.size ⟨some ⟨g,0,none⟩,rc⟩ l):=hR.out.below E4
   clear hR
   have hR:=hidI L5
   clear L5
   clear E4 P2 Z1
   clear c0 c1 c2 c3 c4 c5 c6 c7 c8 c9 c10 c11 cf
   obtain⟨c0,c1,c2,c3,c4,c5,c6,c7,c8,c9,c10,c11,cf⟩:=G0.out.box
   go_wp2_with f0
   refine (zq C gt cap base _ S4 q4 z4 0 cSemi _ L7.out.fst j2.out).mono ?_
   rintro e w7 ⟨S7,q7,z7,rfl,i7,m7,s7⟩
   replace j0:=hidI (j0.out.stp s7)
   replace n0:=hidI (n0.out.stp s7)
   replace G0:=hidI (G0.out.stp s7)
   have P3:=hidI (J2.out.step s7)
   have L5:Hid (Row S7 w7 base w.heap.size ⟨some ⟨g,0,none⟩,rc⟩ l):=hR.out.stp s7
   clear hR
   have hR:=hidI L5
   clear L5
   clear J2
   have N2:=hidI m7
   have Z5:=hidI i7
   clear i7 m7 s7 j2
   clear c0 c1 c2 c3 c4 c5 c6 c7 c8 c9 c10 c11 cf
   obtain⟨a0,a1,a2,a3,a4,a5,a6,a7,a8,a9,E0,B0,af⟩:=j0.out.box
   unfold pv
   go_upto_region 6 with f0
   refine zo (R:=fun W=>Bx gt S7 W (w.heap.size) _∧Bx gt S7 W (w.heap.size+1) _∧Bx gt S7 W (w4.heap.size) _∧Row S7 W base w.heap.size ⟨some ⟨g,0,none⟩,rc⟩ l∧Mem C gt cap base S7 q7 W∧SB w.heap.size S w S7 W) ⟨(j0.out.put _ _ _ _ _ _ _ _ _ _ _ _),(n0.out.other (by omega) _ _ _ _ _ _ _ _ _ _ _ _),(G0.out.other (by omega) _ _ _ _ _ _ _ _ _ _ _ _),(hR.out.put j0.out _ _ _ _ _ _ _ _ _ _ _ _),(N2.out.put j0.out _ _ _ _ _ _ _ _ _ _ _ _),(P3.out.put (by omega) _ _ _ _ _ _ _ _ _ _ _ _)⟩ ?_
   clear a0 a1 a2 a3 a4 a5 a6 a7 a8 a9 E0 B0 af
   clear j0 n0 G0 P3 N2
   clear hR
   rintro w8 ⟨X0,X1,X2,R0,m8,t8⟩
   have hR:=hidI R0
   clear R0
   have j0:=hidI X0
   have n0:=hidI X1
   have G0:=hidI X2
   have H4:=hidI m8
   have J4:=hidI t8
   clear m8 t8 X0 X1 X2
   have Zd:Hid (_=zbm C q):=(zbdf L7.out hA hF).trans HV1.out.symm
   go_wp2
   go_loopg [6] l.length (fun k i wr=>∃(j:Nat) (x':PR) (S':Sv) (q':PS) (z':Int),j≤l.length∧i= .int .i64 j∧Is x' q' z'∧(z'<0→1≤q'.pos)∧zbg (fun e=>zv C (zw e)) (l.drop j) x'=zbm C q∧l.length-j=k∧Mem C gt cap base S' q' wr∧SB w.heap.size S w S' wr∧Bx gt S' wr w.heap.size #[.slice (some ⟨gt,0,none⟩) C.ts.length cap,.int .i64 q'.pos,.int .i64 C.fin,.bool C.scr,.slice S'.rq.a q'.rq.length S'.rq.cap,.slice S'.im.a q'.im.length S'.im.cap,.slice S'.ep.a q'.ep.length S'.ep.cap,.slice S'.st.a q'.st.length S'.st.cap,.slice S'.ex.a q'.ex.length S'.ex.cap,.slice S'.la.a q'.la.length S'.la.cap,.int .i64 z',.int .i64 0]∧Bx gt S' wr (w.heap.size+1) #[.slice none 0 0,.int .i64 0,.int .i64 0,.bool false,.slice none 0 0,.slice none 0 0,.slice none 0 0,.slice none 0 0,.slice none 0 0,.slice none 0 0,.int .i64 0,.int .i64 0]∧Row S' wr base w.heap.size ⟨some ⟨g,0,none⟩,rc⟩ l)
   case atStart=>exact⟨0,_,S7,q7,z7,Nat.zero_le _,rfl,Z5.out,zdi Z5.out,Zd.out,rfl,H4.out,J4.out,j0.out,n0.out,hR.out⟩
   case round=>
    obtain⟨j,x9,S9,q9,z9,hj,rfl,i9,p9,e9,g9,m9,t9,X0,X1,R0⟩:=hrel
    clear j0 n0 G0 hR H4 J4
    have j0:=hidI X0
    have n0:=hidI X1
    have G5:=hidI m9
    have J5:=hidI t9
    have y6:=hidI i9
    have Yb:=hidI p9
    have ic:=hidI e9
    have U7:=hidI g9
    have hR:=hidI R0
    clear X0 X1 i9 m9 t9 e9 g9 R0 p9
    by_cases F0:j<l.length
    ·skip
     obtain⟨c1,c2⟩:=hR.out.cells (g:=g) rfl F0
     have N3:=hR.out.own.lt (g:=g) rfl
     have HX:Hid (∀e,e=l[j]→zbg (fun e=>zv C (zw e)) (l.drop (j+1)) (bd x9 (zv C (zw e)))=zbm C q):=fun e he=>by rw[he,←ic.out];exact (zkk (fun e=>zv C (zw e)) l x9 F0).symm
     generalize Xa:l[j]=el at c1 c2
     have M8:Hid (el=l[j]):=Xa.symm
     clear Xa
     obtain⟨a0,a1,a2,a3,a4,a5,a6,a7,a8,a9,E0,B0,af⟩:=j0.out.box
     go_upto_region 9 with f0
     go_region_law (first|(go_simp;go_wp2_with (go_at_call 199;refine (zhb C gt cap base x9 S9 q9 z9 0 (zw el) _ y6.out G5.out.drew Yb.out).mono ?_;rintro e G8 ⟨Q6,X8,r9,rfl,N6,V5,U3⟩;obtain⟨d0,d1,d2,d3,d4,d5,d6,d7,d8,d9,V7,W7,df⟩:=(j0.out.stp U3.undrew).box;unfold pv)))
     all_goals
      clear a0 a1 a2 a3 a4 a5 a6 a7 a8 a9 E0 B0 af d0 d1 d2 d3 d4 d5 d6 d7 d8 d9 V7 W7 df
      have A6:=hidI N6
      have A5:=hidI V5
      have y7:Hid (Stp S9 wr Q6 G8):=U3.undrew
      clear N6 V5 U3
      go_wp2
      go_roundg (gk-1)
      case rel=>exact⟨j+1,_,Q6,X8,r9,by omega,by go_num,A6.out,zpb Yb.out y6.out A6.out,HX.out el M8.out,by have:=U7.out;omega,A5.out.put (j0.out.stp y7.out) _ _ _ _ _ _ _ _ _ _ _ _,(J5.out.step y7.out).put (by omega) _ _ _ _ _ _ _ _ _ _ _ _,(j0.out.stp y7.out).put _ _ _ _ _ _ _ _ _ _ _ _,(n0.out.stp y7.out).other (by omega) _ _ _ _ _ _ _ _ _ _ _ _,(hR.out.stp y7.out).put (j0.out.stp y7.out) _ _ _ _ _ _ _ _ _ _ _ _⟩
      case measure=>have:=U7.out;omega
    ·skip
     obtain⟨a0,a1,a2,a3,a4,a5,a6,a7,a8,a9,E0,B0,af⟩:=j0.out.box
     obtain⟨b0,b1,b2,b3,b4,b5,b6,b7,b8,b9,Z4,j5,bf⟩:=n0.out.box
     go_wp2
     refine bodyPost_ret (results_cell_row rfl _ _ (w.heap.size+1) 100 _ (0,0) _ rfl ((n0.out.put _ _ _ _ _ _ _ _ _ _ _ _)).heap Tryz.underlying100 rfl (by o0)) rfl ?_
     exact zx rfl (show Is (zbm C q) q9 z9 from by rw[←ic.out,List.drop_eq_nil_of_le (by omega)];exact y6.out) (G5.out.put n0.out _ _ _ _ _ _ _ _ _ _ _ _) (J5.out.put (by omega) _ _ _ _ _ _ _ _ _ _ _ _)
end Go.Proofs.YtmnemfookpjhiaaGreat
