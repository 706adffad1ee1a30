/-
  What spec's l4Import answers: the walks.
  What spec's l4Export answers: the walks.
  What spec's l4Export answers to a list of names: the walks.
  What spec's l4Item answers: the walks.
  What spec's l4Item answers outside of a script: the walks.
  What spec.Parse answers: the walk.
-/
import Derived.Test.YtjdddblpfbmpaaaGreatClSpecBoxToSpecParseK
namespace Go.Proofs.YtjdddblpfbmpaaaGreat
set_option maxRecDepth 100000
set_option maxHeartbeats 6400000
open Go.RowKit Go.PlainAid
theorem zdq {C:Cx} {k:Int} {s:ByteArray} {q w:PS} {j:Int} (h:Is (bd (.ok q) (ze C k s)) w j) (z:isT C q.pos k s=true):w=adv q∧j= -1:=by
 rw[zB,ze,if_pos z] at h
 exact h
theorem zf1 {α:Type} (f:α→PS→PR) (l:List α) (e:Nat):zX f l (.error e)= .error e:=by
 induction l with
 |nil=>rfl
 |cons a l h=>exact h
theorem zg8 {α:Type} (f:α→PS→PR) (l:List α) (x:PR) {k:Nat} (h:k<l.length):zX f (l.drop k) x=zX f (l.drop (k+1)) (bd x (f (l[k]))):=by
 rw[List.drop_eq_getElem_cons h]
 rfl
theorem zk1 {C:Cx} {h:PRN} {L N:PS} {J A:Int} {w z:ByteArray} {G:ByteArray→ByteArray→PS→PR} (I:Is2 h L J w) (j:Is2 (bd (bd (zaS h) (ze C 1 zU)) (zJ C)) N A z):
  bd (bd (zaS (bd (bd (zaS h) (ze C 1 zU)) (zJ C))) (ze C 4 cSemi)) (G z w)=bd h fun a=>bd (zbg C (zaL C (.ok a.1))) fun b=>G b.2 a.2 b.1:=by
 cases h with
 |error e=>rfl
 |ok a=>
  obtain⟨_,_,rfl⟩:=I
  have H:bd (bd (zaS (.ok a)) (ze C 1 zU)) (zJ C)=zaL C (.ok a.1):=rfl
  rw[H] at j ⊢
  rw[zB]
  cases M:zaL C (.ok a.1) with
  |error e=>rfl
  |ok b=>
   rw[M] at j
   obtain⟨_,_,rfl⟩:=j
   show bd (ze C 4 cSemi b.1) (G b.2 a.2)=bd (bd (ze C 4 cSemi b.1) fun q=>.ok (q,b.2)) fun b=>G b.2 a.2 b.1
   rw[zO]
   rfl
def zf2 (y:PRL):PR:=bd y fun a=>.ok a.1
theorem Is3.fst {y:PRL} {q:PS} {z:Int} {l:List Ep} (h:Is3 y q z l):Is (zf2 y) q z:=by
 cases y with
 |ok a=>exact⟨h.1,h.2.1⟩
 |error e=>exact h
theorem zhG {C:Cx} {y:PRL} {I M:PS} {H w:Int} {l:List Ep} {j:ByteArray} {G:ByteArray→Ep→PS→PR} (A:Is3 y I H l) (h:Is2 (bd (bd (zf2 y) (ze C 1 zU)) (zJ C)) M w j):
  zX (G j) l (bd (zaS (bd (bd (zf2 y) (ze C 1 zU)) (zJ C))) (ze C 4 cSemi))=bd y fun a=>bd (zbg C (zaL C (.ok a.1))) fun b=>zX (G b.2) a.2 (.ok b.1):=by
 cases y with
 |error e=>exact zf1 _ _ _
 |ok a=>
  obtain⟨_,_,rfl⟩:=A
  have z:bd (bd (zf2 (.ok a)) (ze C 1 zU)) (zJ C)=zaL C (.ok a.1):=rfl
  rw[z] at h ⊢
  rw[zB]
  cases J:zaL C (.ok a.1) with
  |error e=>exact zf1 _ _ _
  |ok b=>
   rw[J] at h
   obtain⟨_,_,rfl⟩:=h
   show zX (G b.2) a.2 (bd (zaS (.ok b)) (ze C 4 cSemi))=bd (bd (ze C 4 cSemi b.1) fun q=>.ok (q,b.2)) fun b=>zX (G b.2) a.2 (.ok b.1)
   have L:bd (zaS (.ok b)) (ze C 4 cSemi)=ze C 4 cSemi b.1:=rfl
   rw[L,zO]
   cases ze C 4 cSemi b.1 with
   |error e=>exact zf1 _ _ _
   |ok c=>rfl
theorem Mem.drew {C:Cx} {A z j:Nat} {S:Sv} {q:PS} {w:World} (h:Mem C A z j S q w):Mem C A z j S q w.drew:=⟨⟨h.own.rq,h.own.im,h.own.ep,h.own.st,h.own.ex,h.own.la,h.own.apart⟩,h.inv,h.tok,h.few,h.base⟩
theorem Stp.undrew {S S':Sv} {w w':World} (h:Stp S w.drew S' w'):Stp S w S' w':=⟨h.os,h.tape,h.output,h.size,h.block,h.sub⟩
theorem Row.cells {S:Sv} {w:World} {A B g:Nat} {r:Rw} {l:List Ep} (h:Row S w A B r l) (N:r.a=some ⟨g,0,none⟩) {j:Nat} (J:j<l.length):
  w.cell? ⟨g,j*4+1,none⟩=some (.string (l[j]).name)∧w.cell? ⟨g,j*4+2,none⟩=some (.string (l[j]).loc):=by
 have H:=h.own
 unfold OwnR at H
 rw[N] at H
 have z: ∀(l:List Ep) (i c:Nat) (L:c<4) (I:i<l.length),(l.flatMap epL)[i*4+c]? =(epL l[i])[c]?:=by
  intro l
  induction l with
  |nil=>intro i c _ I;simp at I
  |cons x l M=>
   intro i c L I
   match i with
   |0=>
    simp only[List.flatMap_cons,Nat.zero_mul,Nat.zero_add,List.getElem_cons_zero]
    rw[List.getElem?_append_left (by simp[epL];omega)]
   |i+1=>
    simp only[List.flatMap_cons,List.getElem_cons_succ]
    rw[List.getElem?_append_right (by simp[epL];omega)]
    have e:(i+1)*4+c-(epL x).length=i*4+c:=by simp[epL];omega
    rw[e]
    exact M i c L (by simpa using I)
 rw[H.cellAt _ (by omega),H.cellAt _ (by omega)]
 exact⟨z l j 1 (by omega) J,z l j 2 (by omega) J⟩
theorem zrw {C:Cx} {y:Im} {x:PR} {q q':PS} {z z':Int} (w:z<0→1≤q.pos) (H:Is x q z) (h:Is (bd x (zao C y)) q' z'):z'<0→1≤q'.pos:=by
 intro I
 obtain⟨e,_⟩:=zaI h I
 obtain⟨a,A,j⟩:=zp e
 subst A
 obtain⟨rfl,rfl⟩:=H
 unfold zao at j
 split at j
 ·cases j
 ·cases j
  exact w (by decide)
theorem zhH {C:Cx} {y:Ep} {x:PR} {q q':PS} {z z':Int} (w:z<0→1≤q.pos) (H:Is x q z) (h:Is (bd x (zs C y)) q' z'):z'<0→1≤q'.pos:=by
 intro I
 obtain⟨e,_⟩:=zaI h I
 obtain⟨a,A,j⟩:=zp e
 subst A
 obtain⟨rfl,rfl⟩:=H
 unfold zs at j
 split at j
 ·cases j
 ·split at j
  ·cases j
   exact w (by decide)
  ·cases j
   exact w (by decide)
theorem zrx (C:Cx) (z j h:Nat) (S:Sv) (q:PS) (w:World) (hm:Mem C z j h S q w) (hw:isT C q.pos 1 zan=true) (h1:isT C (q.pos+1) 4 zL=false) (h2:isT C (q.pos+1) 4 zz=true):
  Calls Tryz.prog 106 #[pv C z j S q (-1) 0] w (Out C z j h (zaY C q) 0 S w):=by
 have HM:=zc hm
 have I:=hm.few
 clear hm
 have HV:Hid (zaY C q=bd (bd (bd (bd (.ok (adv q)) (ze C 4 zz)) (ze C 1 sAs)) (zo C false)) fun a=>bd (zbg C (zaL C (.ok a.1))) fun b=>zao C ⟨b.2,zz,a.2⟩ b.1):=by
  show _=_
  rw[zaY,ze,if_pos hw,zB]
  rw[zA,h1,h2]
  rfl
 unfold pv
 go_enter Tryz.func106,Tryz.ntmps106
 go_wp2_with fail
 refine (zaO C z j h (.ok q) S q (-1) 0 zan _ (zab q) ((HM.out.alloc _).alloc _)).mono ?_
 rintro e w1 ⟨S1,N,z1,rfl,U,m1,s1⟩
 have F:=HM.out.fm2 m1 s1
 obtain⟨M,rfl⟩:=zdq U.out hw
 have HQ:=zc M
 have J:Hid (N.pos=q.pos+1):=by show N.pos=q.pos+1;rw[M];rfl
 clear M U
 have L:=F.x0.boxC
 unfold pv
 go_upto_region 2 with fail
 refine (F.put0 ..).cut ?_
 clear L
 intro w2 F
 have L:=F.x0.boxC
 go_wp2_with fail
 refine (zl C z j h S1 N (-1) 0 4 zL _ F.m.tok I (by decide)).mono ?_
 rintro e w3 ⟨rfl,ak⟩
 rw[J.out,h1]
 replace F:=F.below ak
 clear L
 have L:=F.x0.boxC
 go_wp2_with fail
 refine (zl C z j h S1 N (-1) 0 4 zz _ F.m.tok I (by decide)).mono ?_
 rintro e w4 ⟨rfl,aq⟩
 rw[J.out,h2]
 replace F:=F.below aq
 clear L
 have L:=F.x0.boxC
 clear J
 go_wp2_with fail
 refine (zai C z j h (.ok N) S1 N (-1) 0 zz _ (zab N) F.m).mono ?_
 rintro e w5 ⟨S5,q5,z5,rfl,an,m5,s5⟩
 replace F:=F.stp m5 s5
 clear L
 go_wp2_with fail
 refine (zaO C z j h _ S5 q5 z5 0 sAs _ an.out F.m).mono ?_
 rintro e w6 ⟨S6,q6,z6,rfl,ae,m6,s6⟩
 replace F:=F.stp m6 s6
 go_wp2_with fail
 refine (zbm C z j h _ S6 q6 z6 0 false _ ae.out F.m).mono ?_
 rintro e w7 ⟨S7,q7,z7,n7,rfl,V,m7,s7⟩
 replace F:=F.stp m7 s7
 have av:w.heap.size+1<w7.heap.size:=F.x1.lt
 unfold pv
 go_upto_region 13 with fail
 refine (F.new2 _).cut ?_
 intro w8 F
 have cb:=F.x2.boxC
 go_wp2_with fail
 refine (zaO C z j h _ S7 q7 z7 0 zU _ V.out.fst F.m).mono ?_
 rintro e w9 ⟨S9,q9,z9,rfl,aj,m9,s9⟩
 replace F:=F.stp m9 s9
 clear cb
 go_wp2_with fail
 refine (zeg C z j h _ S9 q9 z9 0 _ aj.out F.m).mono ?_
 rintro e X ⟨ai,ar,Z,al,rfl,H,ao,ad⟩
 replace F:=F.stp ao ad
 have au:w.heap.size+1<X.heap.size:=F.x1.lt
 have Y:w7.heap.size<X.heap.size:=F.x2.lt
 unfold pv
 go_upto_region 14 with fail
 refine (F.new3 _).cut ?_
 intro ax F
 have db:=F.x3.boxC
 go_wp2_with fail
 refine (zai C z j h _ ai ar Z 0 cSemi _ H.out.fst F.m).mono ?_
 rintro e aB ⟨am,ac,ap,rfl,A,aa,ag⟩
 replace F:=F.stp aa ag
 clear db
 go_wp2_with fail
 refine (zhh C z j h _ am ac ap 0 ⟨al,zz,n7⟩ _ A.out F.m (zbw A.out)).mono ?_
 rintro e aA ⟨az,ay,aw,rfl,O,ah,af⟩
 replace F:=F.stp ah af
 have bb:=F.x1.boxC
 unfold pv
 go_wp2
 refine (F.x1.put ..).ret rfl rfl ?_
 rw[HV.out,←HQ.out,←zk1 (G:=fun b a=>zao C ⟨b,zz,a⟩) V.out H.out]
 exact (F.put1 ..).done rfl O.out
theorem zry (C:Cx) (z j h:Nat) (S:Sv) (q:PS) (w:World) (hm:Mem C z j h S q w) (hw:isT C q.pos 1 zan=true) (h1:isT C (q.pos+1) 4 zL=false) (h2:isT C (q.pos+1) 4 zz=false) (h3:zF C (q.pos+1) false=true):
  Calls Tryz.prog 106 #[pv C z j S q (-1) 0] w (Out C z j h (zaY C q) 0 S w):=by
 have HM:=zc hm
 have A:=hm.few
 clear hm
 have HV:Hid (zaY C q=bd (bd (.ok (adv q)) (zo C false)) fun a=>bd (zbg C (zaL C (.ok a.1))) fun b=>zao C ⟨b.2,sDefault,a.2⟩ b.1):=by
  show _=_
  rw[zaY,ze,if_pos hw,zB]
  rw[zA,h1,h2,h3]
  rfl
 unfold pv
 go_enter Tryz.func106,Tryz.ntmps106
 go_wp2_with fail
 refine (zaO C z j h (.ok q) S q (-1) 0 zan _ (zab q) ((HM.out.alloc _).alloc _)).mono ?_
 rintro e w1 ⟨Y,L,z1,rfl,N,m1,s1⟩
 have F:=HM.out.fm2 m1 s1
 obtain⟨M,rfl⟩:=zdq N.out hw
 have HQ:=zc M
 have H:Hid (L.pos=q.pos+1):=by show L.pos=q.pos+1;rw[M];rfl
 clear M N
 have I:=F.x0.boxC
 unfold pv
 go_upto_region 2 with fail
 refine (F.put0 ..).cut ?_
 clear I
 intro w2 F
 have I:=F.x0.boxC
 go_wp2_with fail
 refine (zl C z j h Y L (-1) 0 4 zL _ F.m.tok A (by decide)).mono ?_
 rintro e w3 ⟨rfl,ak⟩
 rw[H.out,h1]
 replace F:=F.below ak
 clear I
 have I:=F.x0.boxC
 go_wp2_with fail
 refine (zl C z j h Y L (-1) 0 4 zz _ F.m.tok A (by decide)).mono ?_
 rintro e w4 ⟨rfl,ag⟩
 rw[H.out,h2]
 replace F:=F.below ag
 clear I
 have I:=F.x0.boxC
 go_wp2_with fail
 refine (zfQ C z j h Y L (-1) 0 false _ F.m.tok A).mono ?_
 rintro e w5 ⟨rfl,aa⟩
 rw[H.out,h3]
 replace F:=F.below aa
 clear I
 have I:=F.x0.boxC
 clear H
 go_wp2_with fail
 refine (zbm C z j h (.ok L) Y L (-1) 0 false _ (zab L) F.m).mono ?_
 rintro e w6 ⟨S6,q6,z6,n6,rfl,U,m6,s6⟩
 replace F:=F.stp m6 s6
 clear I
 have al:w.heap.size+1<w6.heap.size:=F.x1.lt
 unfold pv
 go_upto_region 17 with fail
 refine (F.new2 _).cut ?_
 intro w7 F
 have cb:=F.x2.boxC
 go_wp2_with fail
 refine (zaO C z j h _ S6 q6 z6 0 zU _ U.out.fst F.m).mono ?_
 rintro e w8 ⟨S8,q8,z8,rfl,ad,m8,s8⟩
 replace F:=F.stp m8 s8
 clear cb
 go_wp2_with fail
 refine (zeg C z j h _ S8 q8 z8 0 _ ad.out F.m).mono ?_
 rintro e w9 ⟨S9,q9,z9,n9,rfl,V,m9,s9⟩
 replace F:=F.stp m9 s9
 have am:w.heap.size+1<w9.heap.size:=F.x1.lt
 have X:w6.heap.size<w9.heap.size:=F.x2.lt
 unfold pv
 go_upto_region 18 with fail
 refine (F.new3 _).cut ?_
 intro au F
 have db:=F.x3.boxC
 go_wp2_with fail
 refine (zai C z j h _ S9 q9 z9 0 cSemi _ V.out.fst F.m).mono ?_
 rintro e an ⟨ae,ac,ai,rfl,J,af,aj⟩
 replace F:=F.stp af aj
 clear db
 go_wp2_with fail
 refine (zhh C z j h _ ae ac ai 0 ⟨n9,sDefault,n6⟩ _ J.out F.m (zbw J.out)).mono ?_
 rintro e ar ⟨ao,ap,aq,rfl,O,Z,ah⟩
 replace F:=F.stp Z ah
 have bb:=F.x1.boxC
 unfold pv
 go_wp2
 refine (F.x1.put ..).ret rfl rfl ?_
 rw[HV.out,←HQ.out,←zk1 (G:=fun b a=>zao C ⟨b,sDefault,a⟩) U.out V.out]
 exact (F.put1 ..).done rfl O.out
theorem zrz (C:Cx) (I j h:Nat) (S:Sv) (q:PS) (w:World) (X:Mem C I j h S q w) (hw:isT C q.pos 1 zan=true) (h1:isT C (q.pos+1) 4 zL=false) (h2:isT C (q.pos+1) 4 zz=false) (h3:zF C (q.pos+1) false=false):
  Calls Tryz.prog 106 #[pv C I j S q (-1) 0] w (Out C I j h (zaY C q) 0 S w):=by
 have HM:=zc X
 have z:=X.few
 clear X
 have HV:Hid (zaY C q=bd (bd (.ok (adv q)) (zJ C)) fun a=>ze C 4 cSemi a.1):=by
  show _=_
  rw[zaY,ze,if_pos hw,zB]
  rw[zA,h1,h2,h3]
  rfl
 unfold pv
 go_enter Tryz.func106,Tryz.ntmps106
 go_wp2_with fail
 refine (zaO C I j h (.ok q) S q (-1) 0 zan _ (zab q) ((HM.out.alloc _).alloc _)).mono ?_
 rintro e w1 ⟨O,J,z1,rfl,M,m1,s1⟩
 have F:=HM.out.fm2 m1 s1
 obtain⟨L,rfl⟩:=zdq M.out hw
 have HQ:=zc L
 have A:Hid (J.pos=q.pos+1):=by show J.pos=q.pos+1;rw[L];rfl
 clear L M
 have H:=F.x0.boxC
 unfold pv
 go_upto_region 2 with fail
 refine (F.put0 ..).cut ?_
 clear H
 intro w2 F
 have H:=F.x0.boxC
 go_wp2_with fail
 refine (zl C I j h O J (-1) 0 4 zL _ F.m.tok z (by decide)).mono ?_
 rintro e w3 ⟨rfl,Z⟩
 rw[A.out,h1]
 replace F:=F.below Z
 clear H
 have H:=F.x0.boxC
 go_wp2_with fail
 refine (zl C I j h O J (-1) 0 4 zz _ F.m.tok z (by decide)).mono ?_
 rintro e w4 ⟨rfl,Y⟩
 rw[A.out,h2]
 replace F:=F.below Y
 clear H
 have H:=F.x0.boxC
 go_wp2_with fail
 refine (zfQ C I j h O J (-1) 0 false _ F.m.tok z).mono ?_
 rintro e w5 ⟨rfl,U⟩
 rw[A.out,h3]
 replace F:=F.below U
 clear H
 have H:=F.x0.boxC
 clear A
 go_wp2_with fail
 refine (zeg C I j h (.ok J) O J (-1) 0 _ (zab J) F.m).mono ?_
 rintro e w6 ⟨S6,q6,z6,n6,rfl,N,m6,s6⟩
 replace F:=F.stp m6 s6
 clear H
 have aa:w.heap.size+1<w6.heap.size:=F.x1.lt
 unfold pv
 go_upto_region 20 with fail
 refine (F.new2 _).cut ?_
 intro w7 F
 have cb:=F.x2.boxC
 go_wp2_with fail
 refine (zai C I j h _ S6 q6 z6 0 cSemi _ N.out.fst F.m).mono ?_
 rintro e w8 ⟨S8,q8,z8,rfl,V,m8,s8⟩
 replace F:=F.stp m8 s8
 clear cb
 have bb:=F.x1.boxC
 unfold pv
 go_wp2
 refine (F.x1.put ..).ret rfl rfl ?_
 rw[HV.out,←HQ.out,←N.out.bind (fun q _=>ze C 4 cSemi q)]
 exact (F.put1 ..).done rfl V.out
theorem zr0 (C:Cx) (I z h:Nat) (S:Sv) (q:PS) (w:World) (hm:Mem C I z h S q w) (hw:isT C q.pos 1 zan=true) (h1:isT C (q.pos+1) 4 zL=true):
  Calls Tryz.prog 106 #[pv C I z S q (-1) 0] w (Out C I z h (zaY C q) 0 S w):=by
 have HM:=zc hm
 have an:=hm.few
 clear hm
 have HV:Hid (zaY C q=bd (zcY C false (adv q)) fun a=>bd (zbg C (zaL C (.ok a.1))) fun b=>zX (fun e=>zao C (zcb b.2 e)) a.2 (.ok b.1)):=by
  show _=_
  rw[zaY,ze,if_pos hw,zB]
  rw[zA,h1]
  rfl
 unfold pv
 go_enter Tryz.func106,Tryz.ntmps106
 go_wp2_with fail
 refine (zaO C I z h (.ok q) S q (-1) 0 zan _ (zab q) ((HM.out.alloc _).alloc _)).mono ?_
 rintro e w1 ⟨S1,q1,z1,rfl,ac,m1,s1⟩
 have F:=HM.out.fm2 m1 s1
 obtain⟨X,rfl⟩:=zdq ac.out hw
 have HQ:=zc X
 have Z:Hid (q1.pos=q.pos+1):=by show q1.pos=q.pos+1;rw[X];rfl
 clear X ac
 have L:=F.x0.boxC
 unfold pv
 go_upto_region 2 with fail
 refine (F.put0 ..).cut ?_
 clear L
 intro w2 F
 have L:=F.x0.boxC
 go_wp2_with fail
 refine (zl C I z h S1 q1 (-1) 0 4 zL _ F.m.tok an (by decide)).mono ?_
 rintro e w3 ⟨rfl,ax⟩
 rw[Z.out,h1]
 replace F:=F.below ax
 clear L
 have L:=F.x0.boxC
 clear Z
 have aq:=F.t.size
 go_wp2_with fail
 refine (zkn C I z h S1 q1 0 false _ F.m).mono ?_
 rintro e w4 ⟨S4,q4,z4,⟨ra,rc⟩,l,rfl,i4,m4,s4,R0,hl⟩
 obtain⟨g,rfl⟩: ∃g,ra=some ⟨g,0,none⟩:=R0.addr
 replace F:=F.stp m4 s4
 have af:=zc i4
 clear L
 have A:Hid (Row S4 w4 h w.heap.size ⟨some ⟨g,0,none⟩,rc⟩ l):=⟨R0.own,R0.free,fun k hk=>Nat.le_trans aq (R0.new k hk),R0.addr⟩
 clear R0
 have aB:w.heap.size+1<w4.heap.size:=F.x1.lt
 unfold pv
 go_upto_region 4 with fail
 refine (F.new2 _).cutR (RW:=fun W=>Row S4 W h w.heap.size ⟨some ⟨g,0,none⟩,rc⟩ l) (A.out.alloc _) ?_
 clear A
 intro w5 F R0
 have A:=zc R0
 clear R0
 obtain⟨c0,c1,c2,c3,c4,c5,c6,c7,c8,c9,ar,ay,cf⟩:=F.x2.box
 go_wp2_with fail
 refine (zaO C I z h _ S4 q4 z4 0 zU _ af.out.fst F.m).mono ?_
 rintro e w6 ⟨S6,q6,z6,rfl,au,m6,s6⟩
 replace A:=zc (A.out.stp s6)
 replace F:=F.stp m6 s6
 clear c0 c1 c2 c3 c4 c5 c6 c7 c8 c9 ar ay cf
 go_wp2_with fail
 refine (zeg C I z h _ S6 q6 z6 0 _ au.out F.m).mono ?_
 rintro e w7 ⟨S7,q7,z7,n7,rfl,ad,m7,s7⟩
 replace A:=zc (A.out.stp s7)
 replace F:=F.stp m7 s7
 have aA:w.heap.size+1<w7.heap.size:=F.x1.lt
 have ao:w4.heap.size<w7.heap.size:=F.x2.lt
 unfold pv
 go_upto_region 5 with fail
 refine (F.new3 _).cutR (RW:=fun W=>Row S7 W h w.heap.size ⟨some ⟨g,0,none⟩,rc⟩ l) (A.out.alloc _) ?_
 clear A
 intro w8 F R0
 have A:=zc R0
 clear R0
 obtain⟨d0,d1,d2,d3,d4,d5,d6,d7,d8,d9,Y,U,df⟩:=F.x3.box
 go_wp2_with fail
 refine (zai C I z h _ S7 q7 z7 0 cSemi _ ad.out.fst F.m).mono ?_
 rintro e w9 ⟨S9,q9,z9,rfl,J,m9,s9⟩
 replace A:=zc (A.out.stp s9)
 replace F:=F.stp m9 s9
 clear d0 d1 d2 d3 d4 d5 d6 d7 d8 d9 Y U df
 have L:=F.x0.boxC
 unfold pv
 go_upto_region 6 with fail
 refine (F.put0 ..).cutR (RW:=fun W=>Row S9 W h w.heap.size ⟨some ⟨g,0,none⟩,rc⟩ l) (A.out.put F.x0 ..) ?_
 clear L
 clear A
 intro ak F R0
 have A:=zc R0
 clear R0
 have av:Hid (_=_):=zhG (G:=fun b e=>zao C (zcb b e)) af.out ad.out
 go_wp2
 go_loopg [8] l.length (fun k i wr=>∃(j:Nat) (x':PR) (H:Sv) (M:PS) (z':Int),j≤l.length∧i= .int .i64 j∧Is x' M z'∧(z'<0→1≤M.pos)∧zX (fun e=>zao C (zcb n7 e)) (l.drop j) x'=zaY C q∧l.length-j=k∧Mem C I z h H M wr∧SB w.heap.size S w H wr∧Bx I H wr w.heap.size #[.slice (some ⟨I,0,none⟩) C.ts.length z,.int .i64 M.pos,.int .i64 C.fin,.bool C.scr,.slice H.rq.a M.rq.length H.rq.cap,.slice H.im.a M.im.length H.im.cap,.slice H.ep.a M.ep.length H.ep.cap,.slice H.st.a M.st.length H.st.cap,.slice H.ex.a M.ex.length H.ex.cap,.slice H.la.a M.la.length H.la.cap,.int .i64 z',.int .i64 0]∧Bx I H wr (w.heap.size+1) #[.slice none 0 0,.int .i64 0,.int .i64 0,.bool false,.slice none 0 0,.slice none 0 0,.slice none 0 0,.slice none 0 0,.slice none 0 0,.slice none 0 0,.int .i64 0,.int .i64 0]∧Row H wr h w.heap.size ⟨some ⟨g,0,none⟩,rc⟩ l)
 case atStart=>exact⟨0,_,S9,q9,z9,Nat.zero_le _,rfl,J.out,zbw J.out,by rw[HV.out,←HQ.out];exact av.out,rfl,F.m,F.t,F.x0,F.x1,A.out⟩
 case round=>
  obtain⟨j,x9,S9,q9,z9,hj,rfl,i9,p9,e9,g9,m9,t9,X0,X1,R0⟩:=hrel
  clear A
  have F:=Fm.of2 X0 X1 m9 t9 (by omega) (by omega) (by omega)
  have J:=zc i9
  have ag:=zc p9
  have aa:=zc e9
  have am:=zc g9
  have A:=zc R0
  clear X0 X1 i9 m9 t9 e9 g9 R0 p9
  by_cases ae:j<l.length
  ·skip
   obtain⟨c1,c2⟩:=A.out.cells (g:=g) rfl ae
   have aC:=A.out.own.lt (g:=g) rfl
   have HX:Hid (∀e,e=l[j]→zX (fun e=>zao C (zcb n7 e)) (l.drop (j+1)) (bd x9 (zao C (zcb n7 e)))=zaY C q):=fun e he=>by rw[he,←aa.out];exact (zg8 (fun e=>zao C (zcb n7 e)) l x9 ae).symm
   generalize ai:l[j]=el at c1 c2
   have aw:Hid (el=l[j]):=ai.symm
   clear ai
   have L:=F.x0.boxC
   go_upto_region 9 with fail
   go_region_law (first|(go_simp;go_wp2_with (go_at_call 146;refine (zhh C I z h x9 S9 q9 z9 0 (zcb n7 el) _ J.out F.m.drew ag.out).mono ?_;rintro e ak ⟨ah,az,ap,rfl,aj,al,V⟩;obtain⟨d0,d1,d2,d3,d4,d5,d6,d7,d8,d9,Y,U,df⟩:=(F.x0.stp V.undrew).box;unfold pv)))
   all_goals
    clear L d0 d1 d2 d3 d4 d5 d6 d7 d8 d9 Y U df
    have O:=zc aj
    have N:Hid (Stp S9 wr ah ak):=V.undrew
    replace F:=F.stp al N.out
    clear aj al V
    go_wp2
    go_roundg (gk-1)
    case rel=>exact⟨j+1,_,ah,az,ap,by omega,by go_num,O.out,zrw ag.out J.out O.out,HX.out el aw.out,by have:=am.out;omega,F.m.put F.x0 _ _ _ _ _ _ _ _ _ _ _ _,F.t.put (by omega) _ _ _ _ _ _ _ _ _ _ _ _,F.x0.put _ _ _ _ _ _ _ _ _ _ _ _,F.x1.other (by omega) _ _ _ _ _ _ _ _ _ _ _ _,(A.out.stp N.out).put F.x0 _ _ _ _ _ _ _ _ _ _ _ _⟩
    case measure=>have:=am.out;omega
  ·skip
   have L:=F.x0.boxC
   have bb:=F.x1.boxC
   go_wp2
   refine (F.x1.put ..).ret rfl rfl ?_
   exact (F.put1 ..).done rfl (show Is (zaY C q) q9 z9 from by rw[←aa.out,List.drop_eq_nil_of_le (by omega)];exact J.out)
theorem zr1 {C:Cx} {k:Int} {n:ByteArray} {q q':PS} (h:zW C k n q= .ok q'):q'={q with st:=q.st++[⟨k,n,(q.ex.length:Int)-1⟩]}∧q.st.length<80:=by
 unfold zW at h
 split at h
 ·cases h
 ·cases h
  exact⟨rfl,by omega⟩
theorem zk2 {C:Cx} {x:PR} {k:Int} {s:ByteArray} {j:Int} {n:ByteArray} {q:PS} {z:Int} (h:Is (bd (bd x (ze C k s)) (zW C j n)) q z):z<0→1≤q.pos:=by
 intro I
 obtain⟨e,_⟩:=zaI h I
 obtain⟨a,w,A⟩:=zp e
 obtain⟨b,_,H⟩:=zp w
 obtain⟨rfl,_⟩:=zbT H
 obtain⟨rfl,_⟩:=zr1 A
 simp[adv]
theorem zk3 {C:Cx} {y:PRN} {G:PR→PR} {k:Int} {s:ByteArray} {j:Int} {q:PS} {z:Int} {n:ByteArray} (h:Is2 (withN y fun x n=>bd (bd (G x) (ze C k s)) (zW C j n)) q z n):z<0→1≤q.pos:=by
 intro H
 cases y with
 |error e=>have:z=(e:Int):=h;omega
 |ok a=>
  have w:Is2 (bd (bd (bd (G (.ok a.1)) (ze C k s)) (zW C j a.2)) fun q=>.ok (q,a.2)) q z n:=h
  cases A:bd (bd (G (.ok a.1)) (ze C k s)) (zW C j a.2) with
  |error e=>rw[A] at w;have:z=(e:Int):=w;omega
  |ok b=>
   rw[A] at w
   obtain⟨rfl,rfl,_⟩:=w
   exact zk2 (show Is (bd (bd (G (.ok a.1)) (ze C k s)) (zW C j a.2)) q (-1) by rw[A];exact⟨rfl,rfl⟩) (by decide)
theorem zr2 {C:Cx} {j q:PS} {z:Int} {n:ByteArray} (h:Is2 (zcJ C j) q z n):z<0→1≤q.pos:=zk3 (G:=fun x=>bd (bd x (ze C 4 cEq)) (pE C .sum 0)) h
theorem zr3 {C:Cx} {j q:PS} {z:Int} {n:ByteArray} (h:Is2 (fnP C j) q z n):z<0→1≤q.pos:=zk3 (G:=fun x=>bd (bd (bd (bd (bd (bd x (ze C 4 zr)) (ze C 4 za8)) (ze C 4 zL)) (ze C 1 zeq)) (pE C .sum 0)) (ze C 4 cSemi)) h
theorem zr4 {C:Cx} {x:PR} {H:PS} {w:Int} {j:ByteArray} {G:ByteArray→PS→PR} (h:Is2 (bd (bd x (ze C 1 zU)) (zJ C)) H w j):
  bd (bd (zaS (bd (bd x (ze C 1 zU)) (zJ C))) (ze C 4 cSemi)) (G j)=bd (zbg C (zaL C x)) fun b=>G b.2 b.1:=by
 have z:bd (bd x (ze C 1 zU)) (zJ C)=zaL C x:=rfl
 rw[z] at h ⊢
 cases A:zaL C x with
 |error e=>rfl
 |ok b=>
  rw[A] at h
  obtain⟨_,_,rfl⟩:=h
  show bd (ze C 4 cSemi b.1) (G b.2)=bd (bd (ze C 4 cSemi b.1) fun q=>.ok (q,b.2)) fun b=>G b.2 b.1
  rw[zO]
  rfl
theorem zr5 {C:Cx} {y:PRL} {j:PS} {h:Int} {l:List Ep} {f:Ep→PS→PR} {D:PS×List Ep→PR} (z:Is3 y j h l) (A:zaG l=false) (w:(decide (h<0)&&isT C j.pos 1 zU)=false):
  zX f l (bd (zf2 y) (ze C 4 cSemi))=bd y fun a=>if !zaG a.2&& !isT C a.1.pos 1 zU then bd (ze C 4 cSemi a.1) fun q=>zX f a.2 (.ok q) else D a:=by
 cases y with
 |error e=>exact zf1 _ _ _
 |ok a=>
  obtain⟨rfl,rfl,rfl⟩:=z
  rw[Bool.and_eq_false_iff] at w
  rw[zB,A,w.resolve_left (by decide)]
  show zX f a.2 (ze C 4 cSemi a.1)=bd (ze C 4 cSemi a.1) fun q=>zX f a.2 (.ok q)
  cases ze C 4 cSemi a.1 with
  |error e=>exact zf1 _ _ _
  |ok c=>rfl
theorem zk4 {C:Cx} {y:PRL} {w:PS} {z:Int} {l:List Ep} {D E:PS×List Ep→PR} (A:Is3 y w z l) (j:zaG l=true∨(decide (z<0)&&isT C w.pos 1 zU)=true):
  bd y D=bd y fun a=>if !zaG a.2&& !isT C a.1.pos 1 zU then E a else D a:=by
 cases y with
 |error e=>rfl
 |ok a=>
  obtain⟨rfl,rfl,rfl⟩:=A
  rw[zB,zB]
  rcases j with h|h
  ·rw[h];rfl
  ·rw[Bool.and_eq_true] at h
   rw[h.2,Bool.not_true,Bool.and_false]
   rfl
theorem zr6 (C:Cx) (z j h:Nat) (S:Sv) (q:PS) (w:World) (hm:Mem C z j h S q w) (hw:isT C q.pos 1 zal=true) (h1:isT C (q.pos+1) 4 zL=false) (h2:isT C (q.pos+1) 4 zz=true):
  Calls Tryz.prog 107 #[pv C z j S q (-1) 0] w (Out C z j h (zap C q) 0 S w):=by
 have HM:=zc hm
 have A:=hm.few
 clear hm
 have HV:Hid (zap C q=bd (zbg C (zaL C (bd (.ok (adv q)) (ze C 4 zz)))) fun b=>zs C ⟨3,sNone,sNone,b.2⟩ b.1):=by
  show _=_
  rw[zap,ze,if_pos hw,zB]
  rw[zA,h1,h2]
  rfl
 unfold pv
 go_enter Tryz.func107,Tryz.ntmps107
 go_wp2_with fail
 refine (zaO C z j h (.ok q) S q (-1) 0 zal _ (zab q) ((HM.out.alloc _).alloc _)).mono ?_
 rintro e w1 ⟨S1,J,z1,rfl,M,m1,s1⟩
 have F:=HM.out.fm2 m1 s1
 obtain⟨H,rfl⟩:=zdq M.out hw
 have HQ:=zc H
 have I:Hid (J.pos=q.pos+1):=by show J.pos=q.pos+1;rw[H];rfl
 clear H M
 have L:=F.x0.boxC
 unfold pv
 go_upto_region 2 with fail
 refine (F.put0 ..).cut ?_
 clear L
 intro w2 F
 have L:=F.x0.boxC
 go_wp2_with fail
 refine (zl C z j h S1 J (-1) 0 4 zL _ F.m.tok A (by decide)).mono ?_
 rintro e w3 ⟨rfl,ac⟩
 rw[I.out,h1]
 replace F:=F.below ac
 clear L
 have L:=F.x0.boxC
 go_wp2_with fail
 refine (zl C z j h S1 J (-1) 0 4 zz _ F.m.tok A (by decide)).mono ?_
 rintro e w4 ⟨rfl,aa⟩
 rw[I.out,h2]
 replace F:=F.below aa
 clear L
 have L:=F.x0.boxC
 clear I
 go_wp2_with fail
 refine (zai C z j h (.ok J) S1 J (-1) 0 zz _ (zab J) F.m).mono ?_
 rintro e w5 ⟨S5,q5,z5,rfl,X,m5,s5⟩
 replace F:=F.stp m5 s5
 clear L
 go_wp2_with fail
 refine (zaO C z j h _ S5 q5 z5 0 zU _ X.out F.m).mono ?_
 rintro e w6 ⟨S6,q6,z6,rfl,V,m6,s6⟩
 replace F:=F.stp m6 s6
 go_wp2_with fail
 refine (zeg C z j h _ S6 q6 z6 0 _ V.out F.m).mono ?_
 rintro e w7 ⟨S7,q7,z7,n7,rfl,O,m7,s7⟩
 replace F:=F.stp m7 s7
 have ad:w.heap.size+1<w7.heap.size:=F.x1.lt
 unfold pv
 go_upto_region 20 with fail
 refine (F.new2 _).cut ?_
 intro w8 F
 have cb:=F.x2.boxC
 go_wp2_with fail
 refine (zai C z j h _ S7 q7 z7 0 cSemi _ O.out.fst F.m).mono ?_
 rintro e w9 ⟨S9,q9,z9,rfl,U,m9,s9⟩
 replace F:=F.stp m9 s9
 clear cb
 go_wp2_with fail
 refine (zdT C z j h _ S9 q9 z9 0 ⟨3,sNone,sNone,n7⟩ _ U.out F.m (zbw U.out)).mono ?_
 rintro e ag ⟨af,ah,ae,rfl,N,Y,Z⟩
 replace F:=F.stp Y Z
 have bb:=F.x1.boxC
 unfold pv
 go_wp2
 refine (F.x1.put ..).ret rfl rfl ?_
 rw[HV.out,←HQ.out,←zr4 (G:=fun b=>zs C ⟨3,sNone,sNone,b⟩) O.out]
 exact (F.put1 ..).done rfl N.out
theorem zr7 (C:Cx) (z j h:Nat) (S:Sv) (q:PS) (w:World) (hm:Mem C z j h S q w) (hw:isT C q.pos 1 zal=true) (h1:isT C (q.pos+1) 4 zL=false) (h2:isT C (q.pos+1) 4 zz=false) (h3:isT C (q.pos+1) 1 sDefault=true):
  Calls Tryz.prog 107 #[pv C z j S q (-1) 0] w (Out C z j h (zap C q) 0 S w):=by
 have HM:=zc hm
 have A:=hm.few
 clear hm
 have HV:Hid (zap C q=bd (bd (bd (bd (bd (.ok (adv q)) (ze C 1 sDefault)) (pE C .sum 0)) (ze C 4 cSemi)) (zW C 1 zci)) (zs C ⟨1,sDefault,zci,sNone⟩)):=by
  show _=_
  rw[zap,ze,if_pos hw,zB]
  rw[zA,h1,h2,h3]
  rfl
 unfold pv
 go_enter Tryz.func107,Tryz.ntmps107
 go_wp2_with fail
 refine (zaO C z j h (.ok q) S q (-1) 0 zal _ (zab q) ((HM.out.alloc _).alloc _)).mono ?_
 rintro e w1 ⟨V,L,z1,rfl,N,m1,s1⟩
 have F:=HM.out.fm2 m1 s1
 obtain⟨M,rfl⟩:=zdq N.out hw
 have HQ:=zc M
 have H:Hid (L.pos=q.pos+1):=by show L.pos=q.pos+1;rw[M];rfl
 clear M N
 have I:=F.x0.boxC
 unfold pv
 go_upto_region 2 with fail
 refine (F.put0 ..).cut ?_
 clear I
 intro w2 F
 have I:=F.x0.boxC
 go_wp2_with fail
 refine (zl C z j h V L (-1) 0 4 zL _ F.m.tok A (by decide)).mono ?_
 rintro e w3 ⟨rfl,ai⟩
 rw[H.out,h1]
 replace F:=F.below ai
 clear I
 have I:=F.x0.boxC
 go_wp2_with fail
 refine (zl C z j h V L (-1) 0 4 zz _ F.m.tok A (by decide)).mono ?_
 rintro e w4 ⟨rfl,ae⟩
 rw[H.out,h2]
 replace F:=F.below ae
 clear I
 have I:=F.x0.boxC
 go_wp2_with fail
 refine (zl C z j h V L (-1) 0 1 sDefault _ F.m.tok A (by decide)).mono ?_
 rintro e w5 ⟨rfl,Z⟩
 rw[H.out,h3]
 replace F:=F.below Z
 clear I
 have I:=F.x0.boxC
 clear H
 go_wp2_with fail
 refine (zaO C z j h (.ok L) V L (-1) 0 sDefault _ (zab L) F.m).mono ?_
 rintro e w6 ⟨S6,q6,z6,rfl,Y,m6,s6⟩
 replace F:=F.stp m6 s6
 clear I
 go_wp2_with fail
 refine (zdp C z j h _ S6 q6 z6 _ Y.out F.m).mono ?_
 rintro e w7 ⟨S7,q7,z7,rfl,af,m7,s7⟩
 replace F:=F.stp m7 s7
 go_wp2_with fail
 refine (zai C z j h _ S7 q7 z7 0 cSemi _ af.out F.m).mono ?_
 rintro e w8 ⟨S8,q8,z8,rfl,U,m8,s8⟩
 replace F:=F.stp m8 s8
 have ak:w.heap.size+1<w8.heap.size:=F.x1.lt
 unfold pv
 go_upto_region 23 with fail
 refine (F.new2 _).cut ?_
 intro w9 F
 have cb:=F.x2.boxC
 go_wp2_with fail
 refine (zdd C z j h _ S8 q8 z8 0 1 zci _ U.out F.m (zbw U.out)).mono ?_
 rintro e ap ⟨ag,aj,X,rfl,J,aa,ac⟩
 replace F:=F.stp aa ac
 clear cb
 go_wp2_with fail
 refine (zdT C z j h _ ag aj X 0 ⟨1,sDefault,zci,sNone⟩ _ J.out F.m (zk2 J.out)).mono ?_
 rintro e al ⟨an,am,ao,rfl,O,ad,ah⟩
 replace F:=F.stp ad ah
 have bb:=F.x1.boxC
 unfold pv
 go_wp2
 refine (F.x1.put ..).ret rfl rfl ?_
 rw[HV.out,←HQ.out]
 exact (F.put1 ..).done rfl O.out
theorem zr8 (C:Cx) (I j h:Nat) (S:Sv) (q:PS) (w:World) (X:Mem C I j h S q w) (hw:isT C q.pos 1 zal=true) (h1:isT C (q.pos+1) 4 zL=false) (h2:isT C (q.pos+1) 4 zz=false) (h3:isT C (q.pos+1) 1 sDefault=false) (h4:isT C (q.pos+1) 1 zE=true):
  Calls Tryz.prog 107 #[pv C I j S q (-1) 0] w (Out C I j h (zap C q) 0 S w):=by
 have HM:=zc X
 have z:=X.few
 clear X
 have HV:Hid (zap C q=bd (zcJ C (adv q)) fun a=>zs C ⟨1,a.2,a.2,sNone⟩ a.1):=by
  show _=_
  rw[zap,ze,if_pos hw,zB]
  rw[zA,h1,h2,h3,h4]
  rfl
 unfold pv
 go_enter Tryz.func107,Tryz.ntmps107
 go_wp2_with fail
 refine (zaO C I j h (.ok q) S q (-1) 0 zal _ (zab q) ((HM.out.alloc _).alloc _)).mono ?_
 rintro e w1 ⟨O,M,z1,rfl,N,m1,s1⟩
 have F:=HM.out.fm2 m1 s1
 obtain⟨J,rfl⟩:=zdq N.out hw
 have HQ:=zc J
 have A:Hid (M.pos=q.pos+1):=by show M.pos=q.pos+1;rw[J];rfl
 clear J N
 have H:=F.x0.boxC
 unfold pv
 go_upto_region 2 with fail
 refine (F.put0 ..).cut ?_
 clear H
 intro w2 F
 have H:=F.x0.boxC
 go_wp2_with fail
 refine (zl C I j h O M (-1) 0 4 zL _ F.m.tok z (by decide)).mono ?_
 rintro e w3 ⟨rfl,aa⟩
 rw[A.out,h1]
 replace F:=F.below aa
 clear H
 have H:=F.x0.boxC
 go_wp2_with fail
 refine (zl C I j h O M (-1) 0 4 zz _ F.m.tok z (by decide)).mono ?_
 rintro e w4 ⟨rfl,Y⟩
 rw[A.out,h2]
 replace F:=F.below Y
 clear H
 have H:=F.x0.boxC
 go_wp2_with fail
 refine (zl C I j h O M (-1) 0 1 sDefault _ F.m.tok z (by decide)).mono ?_
 rintro e w5 ⟨rfl,V⟩
 rw[A.out,h3]
 replace F:=F.below V
 clear H
 have H:=F.x0.boxC
 go_wp2_with fail
 refine (zl C I j h O M (-1) 0 1 zE _ F.m.tok z (by decide)).mono ?_
 rintro e w6 ⟨rfl,U⟩
 rw[A.out,h4]
 replace F:=F.below U
 clear H
 have H:=F.x0.boxC
 clear A
 go_wp2_with fail
 refine (zhE C I j h O M _ F.m).mono ?_
 rintro e w7 ⟨S7,q7,z7,n7,rfl,L,m7,s7⟩
 replace F:=F.stp m7 s7
 clear H
 have ac:w.heap.size+1<w7.heap.size:=F.x1.lt
 unfold pv
 go_upto_region 26 with fail
 refine (F.new2 _).cut ?_
 intro w8 F
 have cb:=F.x2.boxC
 go_wp2_with fail
 refine (zdT C I j h _ S7 q7 z7 0 ⟨1,n7,n7,sNone⟩ _ L.out.fst F.m (zr2 L.out)).mono ?_
 rintro e w9 ⟨S9,q9,z9,rfl,Z,m9,s9⟩
 replace F:=F.stp m9 s9
 clear cb
 have bb:=F.x1.boxC
 unfold pv
 go_wp2
 refine (F.x1.put ..).ret rfl rfl ?_
 rw[HV.out,←HQ.out,←L.out.bind (fun q n=>zs C ⟨1,n,n,sNone⟩ q)]
 exact (F.put1 ..).done rfl Z.out
theorem zr9 (C:Cx) (I j h:Nat) (S:Sv) (q:PS) (w:World) (hm:Mem C I j h S q w) (hw:isT C q.pos 1 zal=true) (h1:isT C (q.pos+1) 4 zL=false) (h2:isT C (q.pos+1) 4 zz=false) (h3:isT C (q.pos+1) 1 sDefault=false) (h4:isT C (q.pos+1) 1 zE=false) (h5:isT C (q.pos+1) 1 zT=true):
  Calls Tryz.prog 107 #[pv C I j S q (-1) 0] w (Out C I j h (zap C q) 0 S w):=by
 have HM:=zc hm
 have z:=hm.few
 clear hm
 have HV:Hid (zap C q=bd (fnP C (adv q)) fun a=>zs C ⟨1,a.2,a.2,sNone⟩ a.1):=by
  show _=_
  rw[zap,ze,if_pos hw,zB]
  rw[zA,h1,h2,h3,h4,h5]
  rfl
 unfold pv
 go_enter Tryz.func107,Tryz.ntmps107
 go_wp2_with fail
 refine (zaO C I j h (.ok q) S q (-1) 0 zal _ (zab q) ((HM.out.alloc _).alloc _)).mono ?_
 rintro e w1 ⟨N,J,z1,rfl,O,m1,s1⟩
 have F:=HM.out.fm2 m1 s1
 obtain⟨L,rfl⟩:=zdq O.out hw
 have HQ:=zc L
 have A:Hid (J.pos=q.pos+1):=by show J.pos=q.pos+1;rw[L];rfl
 clear L O
 have H:=F.x0.boxC
 unfold pv
 go_upto_region 2 with fail
 refine (F.put0 ..).cut ?_
 clear H
 intro w2 F
 have H:=F.x0.boxC
 go_wp2_with fail
 refine (zl C I j h N J (-1) 0 4 zL _ F.m.tok z (by decide)).mono ?_
 rintro e w3 ⟨rfl,ad⟩
 rw[A.out,h1]
 replace F:=F.below ad
 clear H
 have H:=F.x0.boxC
 go_wp2_with fail
 refine (zl C I j h N J (-1) 0 4 zz _ F.m.tok z (by decide)).mono ?_
 rintro e w4 ⟨rfl,ac⟩
 rw[A.out,h2]
 replace F:=F.below ac
 clear H
 have H:=F.x0.boxC
 go_wp2_with fail
 refine (zl C I j h N J (-1) 0 1 sDefault _ F.m.tok z (by decide)).mono ?_
 rintro e w5 ⟨rfl,X⟩
 rw[A.out,h3]
 replace F:=F.below X
 clear H
 have H:=F.x0.boxC
 go_wp2_with fail
 refine (zl C I j h N J (-1) 0 1 zE _ F.m.tok z (by decide)).mono ?_
 rintro e w6 ⟨rfl,V⟩
 rw[A.out,h4]
 replace F:=F.below V
 clear H
 have H:=F.x0.boxC
 go_wp2_with fail
 refine (zl C I j h N J (-1) 0 1 zT _ F.m.tok z (by decide)).mono ?_
 rintro e w7 ⟨rfl,aa⟩
 rw[A.out,h5]
 replace F:=F.below aa
 clear H
 have H:=F.x0.boxC
 clear A
 go_wp2_with fail
 refine (zhF C I j h N J _ F.m).mono ?_
 rintro e w8 ⟨S8,q8,z8,n8,rfl,M,m8,s8⟩
 replace F:=F.stp m8 s8
 clear H
 have ae:w.heap.size+1<w8.heap.size:=F.x1.lt
 unfold pv
 go_upto_region 29 with fail
 refine (F.new2 _).cut ?_
 intro w9 F
 have cb:=F.x2.boxC
 go_wp2_with fail
 refine (zdT C I j h _ S8 q8 z8 0 ⟨1,n8,n8,sNone⟩ _ M.out.fst F.m (zr3 M.out)).mono ?_
 rintro e ah ⟨ag,ai,af,rfl,U,Y,Z⟩
 replace F:=F.stp Y Z
 clear cb
 have bb:=F.x1.boxC
 unfold pv
 go_wp2
 refine (F.x1.put ..).ret rfl rfl ?_
 rw[HV.out,←HQ.out,←M.out.bind (fun q n=>zs C ⟨1,n,n,sNone⟩ q)]
 exact (F.put1 ..).done rfl U.out
theorem zrA (C:Cx) (J j h:Nat) (S:Sv) (q:PS) (w:World) (X:Mem C J j h S q w) (hw:isT C q.pos 1 zal=true) (h1:isT C (q.pos+1) 4 zL=false) (h2:isT C (q.pos+1) 4 zz=false) (h3:isT C (q.pos+1) 1 sDefault=false) (h4:isT C (q.pos+1) 1 zE=false) (h5:isT C (q.pos+1) 1 zT=false):
  Calls Tryz.prog 107 #[pv C J j S q (-1) 0] w (Out C J j h (zap C q) 0 S w):=by
 have HM:=zc X
 have z:=X.few
 clear X
 have HV:Hid (zap C q= .error (zu C (adv q).pos)):=by
  show _=_
  rw[zap,ze,if_pos hw,zB]
  rw[zA,h1,h2,h3,h4,h5]
  rfl
 unfold pv
 go_enter Tryz.func107,Tryz.ntmps107
 go_wp2_with fail
 refine (zaO C J j h (.ok q) S q (-1) 0 zal _ (zab q) ((HM.out.alloc _).alloc _)).mono ?_
 rintro e w1 ⟨M,I,z1,rfl,N,m1,s1⟩
 have F:=HM.out.fm2 m1 s1
 obtain⟨L,rfl⟩:=zdq N.out hw
 have HQ:=zc L
 have A:Hid (I.pos=q.pos+1):=by show I.pos=q.pos+1;rw[L];rfl
 clear L N
 have H:=F.x0.boxC
 unfold pv
 go_upto_region 2 with fail
 refine (F.put0 ..).cut ?_
 clear H
 intro w2 F
 have H:=F.x0.boxC
 go_wp2_with fail
 refine (zl C J j h M I (-1) 0 4 zL _ F.m.tok z (by decide)).mono ?_
 rintro e w3 ⟨rfl,aa⟩
 rw[A.out,h1]
 replace F:=F.below aa
 clear H
 have H:=F.x0.boxC
 go_wp2_with fail
 refine (zl C J j h M I (-1) 0 4 zz _ F.m.tok z (by decide)).mono ?_
 rintro e w4 ⟨rfl,Z⟩
 rw[A.out,h2]
 replace F:=F.below Z
 clear H
 have H:=F.x0.boxC
 go_wp2_with fail
 refine (zl C J j h M I (-1) 0 1 sDefault _ F.m.tok z (by decide)).mono ?_
 rintro e w5 ⟨rfl,U⟩
 rw[A.out,h3]
 replace F:=F.below U
 clear H
 have H:=F.x0.boxC
 go_wp2_with fail
 refine (zl C J j h M I (-1) 0 1 zE _ F.m.tok z (by decide)).mono ?_
 rintro e w6 ⟨rfl,O⟩
 rw[A.out,h4]
 replace F:=F.below O
 clear H
 have H:=F.x0.boxC
 go_wp2_with fail
 refine (zl C J j h M I (-1) 0 1 zT _ F.m.tok z (by decide)).mono ?_
 rintro e w7 ⟨rfl,V⟩
 rw[A.out,h5]
 replace F:=F.below V
 clear H
 have H:=F.x0.boxC
 clear A
 go_wp2_with fail
 refine (zdy C J j h M I (-1) 0 _ F.m.tok z).mono ?_
 rintro e w8 ⟨rfl,Y⟩
 replace F:=F.below Y
 clear H
 have bb:=F.x1.boxC
 unfold pv
 go_wp2
 refine (F.x1.put ..).ret rfl rfl ?_
 rw[HV.out,←HQ.out]
 exact (F.put1 ..).done rfl (show Is (.error (zu C I.pos)) I _ from rfl)
theorem zrB (C:Cx) (L H h:Nat) (S:Sv) (q:PS) (w:World) (hm:Mem C L H h S q w) (hw:isT C q.pos 1 zal=true) (h1:isT C (q.pos+1) 4 zL=true):
  Calls Tryz.prog 107 #[pv C L H S q (-1) 0] w (Out C L H h (zap C q) 0 S w):=by
 have HM:=zc hm
 have ar:=hm.few
 clear hm
 have HV:Hid (zap C q=bd (zcY C true (adv q)) fun a=>if !zaG a.2&& !isT C a.1.pos 1 zU then bd (ze C 4 cSemi a.1) fun q=>zX (fun e=>zs C (zD e)) a.2 (.ok q) else bd (zbg C (zaL C (.ok a.1))) fun b=>zX (fun e=>zs C (zav b.2 e)) a.2 (.ok b.1)):=by
  show _=_
  rw[zap,ze,if_pos hw,zB]
  rw[zA,h1]
  rfl
 unfold pv
 go_enter Tryz.func107,Tryz.ntmps107
 go_wp2_with fail
 refine (zaO C L H h (.ok q) S q (-1) 0 zal _ (zab q) ((HM.out.alloc _).alloc _)).mono ?_
 rintro e w1 ⟨S1,q1,z1,rfl,az,m1,s1⟩
 have F:=HM.out.fm2 m1 s1
 obtain⟨av,rfl⟩:=zdq az.out hw
 have HQ:=zc av
 have ax:Hid (q1.pos=q.pos+1):=by show q1.pos=q.pos+1;rw[av];rfl
 clear av az
 have X:=F.x0.boxC
 unfold pv
 go_upto_region 2 with fail
 refine (F.put0 ..).cut ?_
 clear X
 intro w2 F
 have aw:Hid (zap C q=bd (zcY C true q1) fun a=>if !zaG a.2&& !isT C a.1.pos 1 zU then bd (ze C 4 cSemi a.1) fun q=>zX (fun e=>zs C (zD e)) a.2 (.ok q) else bd (zbg C (zaL C (.ok a.1))) fun b=>zX (fun e=>zs C (zav b.2 e)) a.2 (.ok b.1)):=by show _=_;rw[HQ.out];exact HV.out
 have X:=F.x0.boxC
 go_wp2_with fail
 refine (zl C L H h S1 q1 (-1) 0 4 zL _ F.m.tok ar (by decide)).mono ?_
 rintro e w3 ⟨rfl,aE⟩
 rw[ax.out,h1]
 replace F:=F.below aE
 clear X
 have X:=F.x0.boxC
 clear ax
 have aC:=F.t.size
 go_wp2_with fail
 refine (zkn C L H h S1 q1 0 true _ F.m).mono ?_
 rintro e w4 ⟨S4,q4,z4,⟨ra,rc⟩,l,rfl,i4,m4,s4,R0,hl⟩
 obtain⟨g,rfl⟩: ∃g,ra=some ⟨g,0,none⟩:=R0.addr
 replace F:=F.stp m4 s4
 have af:=zc i4
 clear X
 have z:Hid (Row S4 w4 h w.heap.size ⟨some ⟨g,0,none⟩,rc⟩ l):=⟨R0.own,R0.free,fun k hk=>Nat.le_trans aC (R0.new k hk),R0.addr⟩
 clear R0
 have aF:w.heap.size+1<w4.heap.size:=F.x1.lt
 unfold pv
 go_upto_region 4 with fail
 refine (F.new2 _).cutR (RW:=fun W=>Row S4 W h w.heap.size ⟨some ⟨g,0,none⟩,rc⟩ l) (z.out.alloc _) ?_
 clear z
 intro w5 F R0
 have z:=zc R0
 clear R0
 cases hA:zaG l with
 |true=>
  skip
  obtain⟨c0,c1,c2,c3,c4,c5,c6,c7,c8,c9,Z,aa,cf⟩:=F.x2.box
  go_wp2_with fail
  refine (zaO C L H h _ S4 q4 z4 0 zU _ af.out.fst F.m).mono ?_
  rintro e w6 ⟨S6,q6,z6,rfl,aD,m6,s6⟩
  replace z:=zc (z.out.stp s6)
  replace F:=F.stp m6 s6
  clear c0 c1 c2 c3 c4 c5 c6 c7 c8 c9 Z aa cf
  go_wp2_with fail
  refine (zeg C L H h _ S6 q6 z6 0 _ aD.out F.m).mono ?_
  rintro e w7 ⟨S7,q7,z7,n7,rfl,al,m7,s7⟩
  replace z:=zc (z.out.stp s7)
  replace F:=F.stp m7 s7
  have aA:w.heap.size+1<w7.heap.size:=F.x1.lt
  have au:w4.heap.size<w7.heap.size:=F.x2.lt
  unfold pv
  go_upto_region 12 with fail
  refine (F.new3 _).cutR (RW:=fun W=>Row S7 W h w.heap.size ⟨some ⟨g,0,none⟩,rc⟩ l) (z.out.alloc _) ?_
  clear z
  intro w8 F R0
  have z:=zc R0
  clear R0
  obtain⟨d0,d1,d2,d3,d4,d5,d6,d7,d8,d9,ac,Y,df⟩:=F.x3.box
  go_wp2_with fail
  refine (zai C L H h _ S7 q7 z7 0 cSemi _ al.out.fst F.m).mono ?_
  rintro e w9 ⟨S9,q9,z9,rfl,N,m9,s9⟩
  replace z:=zc (z.out.stp s9)
  replace F:=F.stp m9 s9
  clear d0 d1 d2 d3 d4 d5 d6 d7 d8 d9 ac Y df
  have X:=F.x0.boxC
  unfold pv
  go_upto_region 13 with fail
  refine (F.put0 ..).cutR (RW:=fun W=>Row S9 W h w.heap.size ⟨some ⟨g,0,none⟩,rc⟩ l) (z.out.put F.x0 ..) ?_
  clear X
  clear z
  intro am F R0
  have z:=zc R0
  clear R0
  have ao:Hid (_=zap C q):=(zhG (G:=fun b e=>zs C (zav b e)) af.out al.out).trans ((zk4 af.out (.inl hA)).trans aw.out.symm)
  go_wp2
  go_loopg [9] l.length (fun k i wr=>∃(j:Nat) (x':PR) (A:Sv) (J:PS) (z':Int),j≤l.length∧i= .int .i64 j∧Is x' J z'∧(z'<0→1≤J.pos)∧zX (fun e=>zs C (zav n7 e)) (l.drop j) x'=zap C q∧l.length-j=k∧Mem C L H h A J wr∧SB w.heap.size S w A wr∧Bx L A wr w.heap.size #[.slice (some ⟨L,0,none⟩) C.ts.length H,.int .i64 J.pos,.int .i64 C.fin,.bool C.scr,.slice A.rq.a J.rq.length A.rq.cap,.slice A.im.a J.im.length A.im.cap,.slice A.ep.a J.ep.length A.ep.cap,.slice A.st.a J.st.length A.st.cap,.slice A.ex.a J.ex.length A.ex.cap,.slice A.la.a J.la.length A.la.cap,.int .i64 z',.int .i64 0]∧Bx L A wr (w.heap.size+1) #[.slice none 0 0,.int .i64 0,.int .i64 0,.bool false,.slice none 0 0,.slice none 0 0,.slice none 0 0,.slice none 0 0,.slice none 0 0,.slice none 0 0,.int .i64 0,.int .i64 0]∧Row A wr h w.heap.size ⟨some ⟨g,0,none⟩,rc⟩ l)
  case atStart=>exact⟨0,_,S9,q9,z9,Nat.zero_le _,rfl,N.out,zbw N.out,ao.out,rfl,F.m,F.t,F.x0,F.x1,z.out⟩
  case round=>
   obtain⟨j,x9,S9,q9,z9,hj,rfl,i9,p9,e9,g9,m9,t9,X0,X1,R0⟩:=hrel
   clear z
   have F:=Fm.of2 X0 X1 m9 t9 (by omega) (by omega) (by omega)
   have N:=zc i9
   have ag:=zc p9
   have ad:=zc e9
   have aj:=zc g9
   have z:=zc R0
   clear X0 X1 i9 m9 t9 e9 g9 R0 p9
   by_cases ae:j<l.length
   ·skip
    obtain⟨c1,c2⟩:=z.out.cells (g:=g) rfl ae
    have ay:=z.out.own.lt (g:=g) rfl
    have HX:Hid (∀e,e=l[j]→zX (fun e=>zs C (zav n7 e)) (l.drop (j+1)) (bd x9 (zs C (zav n7 e)))=zap C q):=fun e he=>by rw[he,←ad.out];exact (zg8 (fun e=>zs C (zav n7 e)) l x9 ae).symm
    generalize ah:l[j]=el at c1 c2
    have ap:Hid (el=l[j]):=ah.symm
    clear ah
    have X:=F.x0.boxC
    go_upto_region 16 with fail
    go_region_law (first|(go_simp;go_wp2_with (go_at_call 148;refine (zdT C L H h x9 S9 q9 z9 0 (zav n7 el) _ N.out F.m.drew ag.out).mono ?_;rintro e am ⟨U,an,ak,rfl,ai,V,M⟩;obtain⟨d0,d1,d2,d3,d4,d5,d6,d7,d8,d9,ac,Y,df⟩:=(F.x0.stp M.undrew).box;unfold pv)))
    all_goals
     clear X d0 d1 d2 d3 d4 d5 d6 d7 d8 d9 ac Y df
     have I:=zc ai
     have O:Hid (Stp S9 wr U am):=M.undrew
     replace F:=F.stp V O.out
     clear ai V M
     go_wp2
     go_roundg (gk-1)
     case rel=>exact⟨j+1,_,U,an,ak,by omega,by go_num,I.out,zhH ag.out N.out I.out,HX.out el ap.out,by have:=aj.out;omega,F.m.put F.x0 _ _ _ _ _ _ _ _ _ _ _ _,F.t.put (by omega) _ _ _ _ _ _ _ _ _ _ _ _,F.x0.put _ _ _ _ _ _ _ _ _ _ _ _,F.x1.other (by omega) _ _ _ _ _ _ _ _ _ _ _ _,(z.out.stp O.out).put F.x0 _ _ _ _ _ _ _ _ _ _ _ _⟩
     case measure=>have:=aj.out;omega
   ·skip
    have X:=F.x0.boxC
    have bb:=F.x1.boxC
    go_wp2
    refine (F.x1.put ..).ret rfl rfl ?_
    exact (F.put1 ..).done rfl (show Is (zap C q) q9 z9 from by rw[←ad.out,List.drop_eq_nil_of_le (by omega)];exact N.out)
 |false=>
  cases hF:(decide (z4<0)&&isT C q4.pos 1 zU) with
  |true=>
   obtain⟨c0,c1,c2,c3,c4,c5,c6,c7,c8,c9,Z,aa,cf⟩:=F.x2.box
   go_wp2_with fail
   refine (zl C L H h S4 q4 z4 0 1 zU _ F.m.tok ar (by decide)).mono ?_
   rintro e w6 ⟨rfl,aq⟩
   rw[hF]
   replace z:=zc (z.out.below aq)
   replace F:=F.below aq
   clear c0 c1 c2 c3 c4 c5 c6 c7 c8 c9 Z aa cf
   obtain⟨c0,c1,c2,c3,c4,c5,c6,c7,c8,c9,Z,aa,cf⟩:=F.x2.box
   go_wp2_with fail
   refine (zaO C L H h _ S4 q4 z4 0 zU _ af.out.fst F.m).mono ?_
   rintro e w7 ⟨S7,q7,z7,rfl,al,m7,s7⟩
   replace z:=zc (z.out.stp s7)
   replace F:=F.stp m7 s7
   clear c0 c1 c2 c3 c4 c5 c6 c7 c8 c9 Z aa cf
   go_wp2_with fail
   refine (zeg C L H h _ S7 q7 z7 0 _ al.out F.m).mono ?_
   rintro e w8 ⟨S8,q8,z8,n8,rfl,aB,m8,s8⟩
   replace z:=zc (z.out.stp s8)
   replace F:=F.stp m8 s8
   have aA:w.heap.size+1<w8.heap.size:=F.x1.lt
   have au:w4.heap.size<w8.heap.size:=F.x2.lt
   unfold pv
   go_upto_region 12 with fail
   refine (F.new3 _).cutR (RW:=fun W=>Row S8 W h w.heap.size ⟨some ⟨g,0,none⟩,rc⟩ l) (z.out.alloc _) ?_
   clear z
   intro w9 F R0
   have z:=zc R0
   clear R0
   obtain⟨d0,d1,d2,d3,d4,d5,d6,d7,d8,d9,ac,Y,df⟩:=F.x3.box
   go_wp2_with fail
   refine (zai C L H h _ S8 q8 z8 0 cSemi _ aB.out.fst F.m).mono ?_
   rintro e am ⟨U,an,ak,rfl,I,V,M⟩
   replace z:=zc (z.out.stp M)
   replace F:=F.stp V M
   clear d0 d1 d2 d3 d4 d5 d6 d7 d8 d9 ac Y df
   have X:=F.x0.boxC
   unfold pv
   go_upto_region 13 with fail
   refine (F.put0 ..).cutR (RW:=fun W=>Row U W h w.heap.size ⟨some ⟨g,0,none⟩,rc⟩ l) (z.out.put F.x0 ..) ?_
   clear X
   clear z
   intro aG F R0
   have z:=zc R0
   clear R0
   have ao:Hid (_=zap C q):=(zhG (G:=fun b e=>zs C (zav b e)) af.out aB.out).trans ((zk4 af.out (.inr hF)).trans aw.out.symm)
   go_wp2
   go_loopg [9] l.length (fun k i wr=>∃(j:Nat) (x':PR) (A:Sv) (J:PS) (z':Int),j≤l.length∧i= .int .i64 j∧Is x' J z'∧(z'<0→1≤J.pos)∧zX (fun e=>zs C (zav n8 e)) (l.drop j) x'=zap C q∧l.length-j=k∧Mem C L H h A J wr∧SB w.heap.size S w A wr∧Bx L A wr w.heap.size #[.slice (some ⟨L,0,none⟩) C.ts.length H,.int .i64 J.pos,.int .i64 C.fin,.bool C.scr,.slice A.rq.a J.rq.length A.rq.cap,.slice A.im.a J.im.length A.im.cap,.slice A.ep.a J.ep.length A.ep.cap,.slice A.st.a J.st.length A.st.cap,.slice A.ex.a J.ex.length A.ex.cap,.slice A.la.a J.la.length A.la.cap,.int .i64 z',.int .i64 0]∧Bx L A wr (w.heap.size+1) #[.slice none 0 0,.int .i64 0,.int .i64 0,.bool false,.slice none 0 0,.slice none 0 0,.slice none 0 0,.slice none 0 0,.slice none 0 0,.slice none 0 0,.int .i64 0,.int .i64 0]∧Row A wr h w.heap.size ⟨some ⟨g,0,none⟩,rc⟩ l)
   case atStart=>exact⟨0,_,U,an,ak,Nat.zero_le _,rfl,I.out,zbw I.out,ao.out,rfl,F.m,F.t,F.x0,F.x1,z.out⟩
   case round=>
    obtain⟨j,x9,S9,q9,z9,hj,rfl,i9,p9,e9,g9,m9,t9,X0,X1,R0⟩:=hrel
    clear z
    have F:=Fm.of2 X0 X1 m9 t9 (by omega) (by omega) (by omega)
    have N:=zc i9
    have ag:=zc p9
    have ad:=zc e9
    have aj:=zc g9
    have z:=zc R0
    clear X0 X1 i9 m9 t9 e9 g9 R0 p9
    by_cases ae:j<l.length
    ·skip
     obtain⟨c1,c2⟩:=z.out.cells (g:=g) rfl ae
     have ay:=z.out.own.lt (g:=g) rfl
     have HX:Hid (∀e,e=l[j]→zX (fun e=>zs C (zav n8 e)) (l.drop (j+1)) (bd x9 (zs C (zav n8 e)))=zap C q):=fun e he=>by rw[he,←ad.out];exact (zg8 (fun e=>zs C (zav n8 e)) l x9 ae).symm
     generalize ah:l[j]=el at c1 c2
     have ap:Hid (el=l[j]):=ah.symm
     clear ah
     have X:=F.x0.boxC
     go_upto_region 16 with fail
     go_region_law (first|(go_simp;go_wp2_with (go_at_call 148;refine (zdT C L H h x9 S9 q9 z9 0 (zav n8 el) _ N.out F.m.drew ag.out).mono ?_;rintro e am ⟨U,an,ak,rfl,ai,V,M⟩;obtain⟨d0,d1,d2,d3,d4,d5,d6,d7,d8,d9,ac,Y,df⟩:=(F.x0.stp M.undrew).box;unfold pv)))
     all_goals
      clear X d0 d1 d2 d3 d4 d5 d6 d7 d8 d9 ac Y df
      have I:=zc ai
      have O:Hid (Stp S9 wr U am):=M.undrew
      replace F:=F.stp V O.out
      clear ai V M
      go_wp2
      go_roundg (gk-1)
      case rel=>exact⟨j+1,_,U,an,ak,by omega,by go_num,I.out,zhH ag.out N.out I.out,HX.out el ap.out,by have:=aj.out;omega,F.m.put F.x0 _ _ _ _ _ _ _ _ _ _ _ _,F.t.put (by omega) _ _ _ _ _ _ _ _ _ _ _ _,F.x0.put _ _ _ _ _ _ _ _ _ _ _ _,F.x1.other (by omega) _ _ _ _ _ _ _ _ _ _ _ _,(z.out.stp O.out).put F.x0 _ _ _ _ _ _ _ _ _ _ _ _⟩
      case measure=>have:=aj.out;omega
    ·skip
     have X:=F.x0.boxC
     have bb:=F.x1.boxC
     go_wp2
     refine (F.x1.put ..).ret rfl rfl ?_
     exact (F.put1 ..).done rfl (show Is (zap C q) q9 z9 from by rw[←ad.out,List.drop_eq_nil_of_le (by omega)];exact N.out)
  |false=>
   obtain⟨c0,c1,c2,c3,c4,c5,c6,c7,c8,c9,Z,aa,cf⟩:=F.x2.box
   go_wp2_with fail
   refine (zl C L H h S4 q4 z4 0 1 zU _ F.m.tok ar (by decide)).mono ?_
   rintro e w6 ⟨rfl,aq⟩
   rw[hF]
   replace z:=zc (z.out.below aq)
   replace F:=F.below aq
   clear c0 c1 c2 c3 c4 c5 c6 c7 c8 c9 Z aa cf
   obtain⟨c0,c1,c2,c3,c4,c5,c6,c7,c8,c9,Z,aa,cf⟩:=F.x2.box
   go_wp2_with fail
   refine (zai C L H h _ S4 q4 z4 0 cSemi _ af.out.fst F.m).mono ?_
   rintro e w7 ⟨S7,q7,z7,rfl,al,m7,s7⟩
   replace z:=zc (z.out.stp s7)
   replace F:=F.stp m7 s7
   clear c0 c1 c2 c3 c4 c5 c6 c7 c8 c9 Z aa cf
   have X:=F.x0.boxC
   unfold pv
   go_upto_region 6 with fail
   refine (F.put0 ..).cutR (RW:=fun W=>Row S7 W h w.heap.size ⟨some ⟨g,0,none⟩,rc⟩ l) (z.out.put F.x0 ..) ?_
   clear X
   clear z
   intro w8 F R0
   have z:=zc R0
   clear R0
   have ao:Hid (_=zap C q):=(zr5 af.out hA hF).trans aw.out.symm
   go_wp2
   go_loopg [6] l.length (fun k i wr=>∃(j:Nat) (x':PR) (A:Sv) (J:PS) (z':Int),j≤l.length∧i= .int .i64 j∧Is x' J z'∧(z'<0→1≤J.pos)∧zX (fun e=>zs C (zD e)) (l.drop j) x'=zap C q∧l.length-j=k∧Mem C L H h A J wr∧SB w.heap.size S w A wr∧Bx L A wr w.heap.size #[.slice (some ⟨L,0,none⟩) C.ts.length H,.int .i64 J.pos,.int .i64 C.fin,.bool C.scr,.slice A.rq.a J.rq.length A.rq.cap,.slice A.im.a J.im.length A.im.cap,.slice A.ep.a J.ep.length A.ep.cap,.slice A.st.a J.st.length A.st.cap,.slice A.ex.a J.ex.length A.ex.cap,.slice A.la.a J.la.length A.la.cap,.int .i64 z',.int .i64 0]∧Bx L A wr (w.heap.size+1) #[.slice none 0 0,.int .i64 0,.int .i64 0,.bool false,.slice none 0 0,.slice none 0 0,.slice none 0 0,.slice none 0 0,.slice none 0 0,.slice none 0 0,.int .i64 0,.int .i64 0]∧Row A wr h w.heap.size ⟨some ⟨g,0,none⟩,rc⟩ l)
   case atStart=>exact⟨0,_,S7,q7,z7,Nat.zero_le _,rfl,al.out,zbw al.out,ao.out,rfl,F.m,F.t,F.x0,F.x1,z.out⟩
   case round=>
    obtain⟨j,x9,S9,q9,z9,hj,rfl,i9,p9,e9,g9,m9,t9,X0,X1,R0⟩:=hrel
    clear z
    have F:=Fm.of2 X0 X1 m9 t9 (by omega) (by omega) (by omega)
    have N:=zc i9
    have ag:=zc p9
    have ad:=zc e9
    have aj:=zc g9
    have z:=zc R0
    clear X0 X1 i9 m9 t9 e9 g9 R0 p9
    by_cases ae:j<l.length
    ·skip
     obtain⟨c1,c2⟩:=z.out.cells (g:=g) rfl ae
     have ay:=z.out.own.lt (g:=g) rfl
     have HX:Hid (∀e,e=l[j]→zX (fun e=>zs C (zD e)) (l.drop (j+1)) (bd x9 (zs C (zD e)))=zap C q):=fun e he=>by rw[he,←ad.out];exact (zg8 (fun e=>zs C (zD e)) l x9 ae).symm
     generalize ah:l[j]=el at c1 c2
     have ap:Hid (el=l[j]):=ah.symm
     clear ah
     have X:=F.x0.boxC
     go_upto_region 9 with fail
     go_region_law (first|(go_simp;go_wp2_with (go_at_call 148;refine (zdT C L H h x9 S9 q9 z9 0 (zD el) _ N.out F.m.drew ag.out).mono ?_;rintro e am ⟨U,an,ak,rfl,ai,V,M⟩;obtain⟨d0,d1,d2,d3,d4,d5,d6,d7,d8,d9,ac,Y,df⟩:=(F.x0.stp M.undrew).box;unfold pv)))
     all_goals
      clear X d0 d1 d2 d3 d4 d5 d6 d7 d8 d9 ac Y df
      have I:=zc ai
      have O:Hid (Stp S9 wr U am):=M.undrew
      replace F:=F.stp V O.out
      clear ai V M
      go_wp2
      go_roundg (gk-1)
      case rel=>exact⟨j+1,_,U,an,ak,by omega,by go_num,I.out,zhH ag.out N.out I.out,HX.out el ap.out,by have:=aj.out;omega,F.m.put F.x0 _ _ _ _ _ _ _ _ _ _ _ _,F.t.put (by omega) _ _ _ _ _ _ _ _ _ _ _ _,F.x0.put _ _ _ _ _ _ _ _ _ _ _ _,F.x1.other (by omega) _ _ _ _ _ _ _ _ _ _ _ _,(z.out.stp O.out).put F.x0 _ _ _ _ _ _ _ _ _ _ _ _⟩
      case measure=>have:=aj.out;omega
    ·skip
     have X:=F.x0.boxC
     have bb:=F.x1.boxC
     go_wp2
     refine (F.x1.put ..).ret rfl rfl ?_
     exact (F.put1 ..).done rfl (show Is (zap C q) q9 z9 from by rw[←ad.out,List.drop_eq_nil_of_le (by omega)];exact N.out)
theorem zrC (C:Cx) (z j h:Nat) (S:Sv) (q:PS) (w:World) (H:Mem C z j h S q w) (A:isT C q.pos 1 zan=true):
  Calls Tryz.prog 106 #[pv C z j S q (-1) 0] w (Out C z j h (zaY C q) 0 S w):=by
 cases I:isT C (q.pos+1) 4 zL with
 |true=>exact zr0 C z j h S q w H A I
 |false=>
  cases J:isT C (q.pos+1) 4 zz with
  |true=>exact zrx C z j h S q w H A I J
  |false=>
   cases L:zF C (q.pos+1) false with
   |true=>exact zry C z j h S q w H A I J L
   |false=>exact zrz C z j h S q w H A I J L
theorem zrD (C:Cx) (z j h:Nat) (S:Sv) (q:PS) (w:World) (H:Mem C z j h S q w) (A:isT C q.pos 1 zal=true):
  Calls Tryz.prog 107 #[pv C z j S q (-1) 0] w (Out C z j h (zap C q) 0 S w):=by
 cases I:isT C (q.pos+1) 4 zL with
 |true=>exact zrB C z j h S q w H A I
 |false=>
  cases J:isT C (q.pos+1) 4 zz with
  |true=>exact zr6 C z j h S q w H A I J
  |false=>
   cases L:isT C (q.pos+1) 1 sDefault with
   |true=>exact zr7 C z j h S q w H A I J L
   |false=>
    cases M:isT C (q.pos+1) 1 zE with
    |true=>exact zr8 C z j h S q w H A I J L M
    |false=>
     cases N:isT C (q.pos+1) 1 zT with
     |true=>exact zr9 C z j h S q w H A I J L M N
     |false=>exact zrA C z j h S q w H A I J L M N
theorem zk5 {C:Cx} {x:PR} {n:ByteArray}:bd (bd (bd (bd x (ze C 4 cEq)) (pE C .sum 0)) (ze C 4 cSemi)) (zW C 3 n)=bd x fun q=>bd (bd (bd (bd (.ok q) (ze C 4 cEq)) (pE C .sum 0)) (ze C 4 cSemi)) (zW C 3 n):=by cases x<;>rfl
theorem zrE (A:List Tk) (h:Nat) (I z j:Nat) (S:Sv) (q:PS) (w:World) (L:Mem (Cx.mk A h true) I z j S q w) (O:isT (Cx.mk A h true) q.pos 1 zE=true):
  Calls Tryz.prog 79 #[pv (Cx.mk A h true) I z S q (-1) 0] w (Out (Cx.mk A h true) I z j (zC (Cx.mk A h true) q) 0 S w):=by
 have X:=zc L
 have H:=L.tok
 have J:(Cx.mk A h true).ts.length≤4000:=L.few
 clear L
 have HV:Hid (zC (Cx.mk A h true) q=zaS (zcJ (Cx.mk A h true) q)):=by show zC (Cx.mk A h true) q=_;rw[zC,O];rfl
 unfold pv
 go_enter Tryz.func79,Tryz.ntmps79
 go_wp2_with fail
 refine (zl (Cx.mk A h true) I z j S q (-1) 0 1 zE _ (zt (zt H _) _) J (by decide)).mono ?_
 rintro e w1 ⟨rfl,N⟩
 rw[O]
 have F:=X.out.fm N
 clear H
 have Z:=F.x0.boxC
 go_wp2_with fail
 refine (zhE (Cx.mk A h true) I z j S q _ F.m).mono ?_
 rintro e w2 ⟨S2,q2,z2,n2,rfl,M,V,Y⟩
 replace F:=F.stp V Y
 clear Z
 have U:w.heap.size+1<w2.heap.size:=F.x1.lt
 unfold pv
 go_upto_region 7 with fail
 refine (F.new2 _).cut ?_
 intro w3 F
 have bb:=F.x1.boxC
 have cb:=F.x2.boxC
 go_wp2
 refine (F.x1.put ..).ret rfl rfl ?_
 rw[HV.out]
 exact (F.put1 ..).done rfl M.out.fst
theorem zrF (A:List Tk) (h:Nat) (J z j:Nat) (S:Sv) (q:PS) (w:World) (L:Mem (Cx.mk A h true) J z j S q w) (V:isT (Cx.mk A h true) q.pos 1 zE=false) (X:isT (Cx.mk A h true) q.pos 1 zT=true):
  Calls Tryz.prog 79 #[pv (Cx.mk A h true) J z S q (-1) 0] w (Out (Cx.mk A h true) J z j (zC (Cx.mk A h true) q) 0 S w):=by
 have HM:=zc L
 have H:=L.tok
 have I:(Cx.mk A h true).ts.length≤4000:=L.few
 clear L
 have HV:Hid (zC (Cx.mk A h true) q=zaS (fnP (Cx.mk A h true) q)):=by show zC (Cx.mk A h true) q=_;rw[zC,V,X];rfl
 unfold pv
 go_enter Tryz.func79,Tryz.ntmps79
 go_wp2_with fail
 refine (zl (Cx.mk A h true) J z j S q (-1) 0 1 zE _ (zt (zt H _) _) I (by decide)).mono ?_
 rintro e w1 ⟨rfl,U⟩
 rw[V]
 have F:=HM.out.fm U
 clear H
 have M:=F.x0.boxC
 go_wp2_with fail
 refine (zl (Cx.mk A h true) J z j S q (-1) 0 1 zT _ F.m.tok I (by decide)).mono ?_
 rintro e w2 ⟨rfl,N⟩
 rw[X]
 replace F:=F.below N
 clear M
 have M:=F.x0.boxC
 go_wp2_with fail
 refine (zhF (Cx.mk A h true) J z j S q _ F.m).mono ?_
 rintro e w3 ⟨S3,q3,z3,n3,rfl,O,Z,s3⟩
 replace F:=F.stp Z s3
 clear M
 have Y:w.heap.size+1<w3.heap.size:=F.x1.lt
 unfold pv
 go_upto_region 10 with fail
 refine (F.new2 _).cut ?_
 intro w4 F
 have bb:=F.x1.boxC
 have cb:=F.x2.boxC
 go_wp2
 refine (F.x1.put ..).ret rfl rfl ?_
 rw[HV.out]
 exact (F.put1 ..).done rfl O.out.fst
theorem zrG (A:List Tk) (h:Nat) (H z j:Nat) (S:Sv) (q:PS) (w:World) (O:Mem (Cx.mk A h true) H z j S q w) (h0:isT (Cx.mk A h true) q.pos 1 zE=false) (h1:isT (Cx.mk A h true) q.pos 1 zT=false) (h2:isT (Cx.mk A h true) q.pos 1 zay=true):
  Calls Tryz.prog 79 #[pv (Cx.mk A h true) H z S q (-1) 0] w (Out (Cx.mk A h true) H z j (zC (Cx.mk A h true) q) 0 S w):=by
 have HM:=zc O
 have J:=O.tok
 have I:(Cx.mk A h true).ts.length≤4000:=O.few
 clear O
 have HV:Hid (zC (Cx.mk A h true) q=bd (bd (bd (bd (bd (bd (.ok q) (ze (Cx.mk A h true) 1 zay)) (ze (Cx.mk A h true) 4 zr)) (pE (Cx.mk A h true) .sum 0)) (ze (Cx.mk A h true) 4 za8)) (ze (Cx.mk A h true) 4 cSemi)) (zW (Cx.mk A h true) 4 sNone)):=by show zC (Cx.mk A h true) q=_;rw[zC,h0,h1,h2];rfl
 unfold pv
 go_enter Tryz.func79,Tryz.ntmps79
 go_wp2_with fail
 refine (zl (Cx.mk A h true) H z j S q (-1) 0 1 zE _ (zt (zt J _) _) I (by decide)).mono ?_
 rintro e w1 ⟨rfl,ad⟩
 rw[h0]
 have F:=HM.out.fm ad
 clear J
 have M:=F.x0.boxC
 go_wp2_with fail
 refine (zl (Cx.mk A h true) H z j S q (-1) 0 1 zT _ F.m.tok I (by decide)).mono ?_
 rintro e w2 ⟨rfl,ac⟩
 rw[h1]
 replace F:=F.below ac
 clear M
 have M:=F.x0.boxC
 go_wp2_with fail
 refine (zl (Cx.mk A h true) H z j S q (-1) 0 1 zay _ F.m.tok I (by decide)).mono ?_
 rintro e w3 ⟨rfl,ae⟩
 rw[h2]
 replace F:=F.below ae
 clear M
 have M:=F.x0.boxC
 go_wp2_with fail
 refine (zaO (Cx.mk A h true) H z j (.ok q) S q (-1) 0 zay _ (zab q) F.m).mono ?_
 rintro e w4 ⟨S4,q4,z4,rfl,Y,m4,s4⟩
 replace F:=F.stp m4 s4
 clear M
 go_wp2_with fail
 refine (zai (Cx.mk A h true) H z j _ S4 q4 z4 0 zr _ Y.out F.m).mono ?_
 rintro e w5 ⟨S5,q5,z5,rfl,X,m5,s5⟩
 replace F:=F.stp m5 s5
 go_wp2_with fail
 refine (zdp (Cx.mk A h true) H z j _ S5 q5 z5 _ X.out F.m).mono ?_
 rintro e w6 ⟨S6,q6,z6,rfl,V,m6,s6⟩
 replace F:=F.stp m6 s6
 go_wp2_with fail
 refine (zai (Cx.mk A h true) H z j _ S6 q6 z6 0 za8 _ V.out F.m).mono ?_
 rintro e w7 ⟨S7,q7,z7,rfl,U,m7,s7⟩
 replace F:=F.stp m7 s7
 have af:w.heap.size+1<w7.heap.size:=F.x1.lt
 unfold pv
 go_upto_region 13 with fail
 refine (F.new2 _).cut ?_
 intro w8 F
 have cb:=F.x2.boxC
 go_wp2_with fail
 refine (zai (Cx.mk A h true) H z j _ S7 q7 z7 0 cSemi _ U.out F.m).mono ?_
 rintro e w9 ⟨S9,q9,z9,rfl,N,m9,s9⟩
 replace F:=F.stp m9 s9
 clear cb
 go_wp2_with fail
 refine (zdd (Cx.mk A h true) H z j _ S9 q9 z9 0 4 sNone _ N.out F.m (zbw N.out)).mono ?_
 rintro e ai ⟨ah,aj,ag,rfl,L,Z,aa⟩
 replace F:=F.stp Z aa
 have bb:=F.x1.boxC
 unfold pv
 go_wp2
 refine (F.x1.put ..).ret rfl rfl ?_
 rw[HV.out]
 exact (F.put1 ..).done rfl L.out
theorem zrH (A:List Tk) (h:Nat) (I z j:Nat) (S:Sv) (q:PS) (w:World) (N:Mem (Cx.mk A h true) I z j S q w) (h0:isT (Cx.mk A h true) q.pos 1 zE=false) (h1:isT (Cx.mk A h true) q.pos 1 zT=false) (h2:isT (Cx.mk A h true) q.pos 1 zay=false) (h3:isT (Cx.mk A h true) q.pos 1 zaA=true):
  Calls Tryz.prog 79 #[pv (Cx.mk A h true) I z S q (-1) 0] w (Out (Cx.mk A h true) I z j (zC (Cx.mk A h true) q) 0 S w):=by
 have HM:=zc N
 have J:=N.tok
 have H:(Cx.mk A h true).ts.length≤4000:=N.few
 clear N
 have HV:Hid (zC (Cx.mk A h true) q=bd (bd (bd (bd (.ok q) (ze (Cx.mk A h true) 1 zaA)) (pE (Cx.mk A h true) .sum 0)) (ze (Cx.mk A h true) 4 cSemi)) (zW (Cx.mk A h true) 5 sNone)):=by show zC (Cx.mk A h true) q=_;rw[zC,h0,h1,h2,h3];rfl
 unfold pv
 go_enter Tryz.func79,Tryz.ntmps79
 go_wp2_with fail
 refine (zl (Cx.mk A h true) I z j S q (-1) 0 1 zE _ (zt (zt J _) _) H (by decide)).mono ?_
 rintro e w1 ⟨rfl,Z⟩
 rw[h0]
 have F:=HM.out.fm Z
 clear J
 have L:=F.x0.boxC
 go_wp2_with fail
 refine (zl (Cx.mk A h true) I z j S q (-1) 0 1 zT _ F.m.tok H (by decide)).mono ?_
 rintro e w2 ⟨rfl,X⟩
 rw[h1]
 replace F:=F.below X
 clear L
 have L:=F.x0.boxC
 go_wp2_with fail
 refine (zl (Cx.mk A h true) I z j S q (-1) 0 1 zay _ F.m.tok H (by decide)).mono ?_
 rintro e w3 ⟨rfl,aa⟩
 rw[h2]
 replace F:=F.below aa
 clear L
 have L:=F.x0.boxC
 go_wp2_with fail
 refine (zl (Cx.mk A h true) I z j S q (-1) 0 1 zaA _ F.m.tok H (by decide)).mono ?_
 rintro e w4 ⟨rfl,Y⟩
 rw[h3]
 replace F:=F.below Y
 clear L
 have L:=F.x0.boxC
 go_wp2_with fail
 refine (zaO (Cx.mk A h true) I z j (.ok q) S q (-1) 0 zaA _ (zab q) F.m).mono ?_
 rintro e w5 ⟨S5,q5,z5,rfl,U,m5,s5⟩
 replace F:=F.stp m5 s5
 clear L
 go_wp2_with fail
 refine (zdp (Cx.mk A h true) I z j _ S5 q5 z5 _ U.out F.m).mono ?_
 rintro e w6 ⟨S6,q6,z6,rfl,O,m6,s6⟩
 replace F:=F.stp m6 s6
 go_wp2_with fail
 refine (zai (Cx.mk A h true) I z j _ S6 q6 z6 0 cSemi _ O.out F.m).mono ?_
 rintro e w7 ⟨S7,q7,z7,rfl,M,m7,s7⟩
 replace F:=F.stp m7 s7
 go_wp2_with fail
 refine (zdd (Cx.mk A h true) I z j _ S7 q7 z7 0 5 sNone _ M.out F.m (zbw M.out)).mono ?_
 rintro e w8 ⟨S8,q8,z8,rfl,V,m8,s8⟩
 replace F:=F.stp m8 s8
 have bb:=F.x1.boxC
 unfold pv
 go_wp2
 refine (F.x1.put ..).ret rfl rfl ?_
 rw[HV.out]
 exact (F.put1 ..).done rfl V.out
theorem zrI (A:List Tk) (h:Nat) (I z j:Nat) (S:Sv) (q:PS) (w:World) (N:Mem (Cx.mk A h true) I z j S q w) (h0:isT (Cx.mk A h true) q.pos 1 zE=false) (h1:isT (Cx.mk A h true) q.pos 1 zT=false) (h2:isT (Cx.mk A h true) q.pos 1 zay=false) (h3:isT (Cx.mk A h true) q.pos 1 zaA=false) (h4:isT (Cx.mk A h true) q.pos 1 zbR=true):
  Calls Tryz.prog 79 #[pv (Cx.mk A h true) I z S q (-1) 0] w (Out (Cx.mk A h true) I z j (zC (Cx.mk A h true) q) 0 S w):=by
 have HM:=zc N
 have L:=N.tok
 have H:(Cx.mk A h true).ts.length≤4000:=N.few
 clear N
 have HV:Hid (zC (Cx.mk A h true) q=bd (bd (bd (bd (.ok q) (ze (Cx.mk A h true) 1 zbR)) (pE (Cx.mk A h true) .sum 0)) (ze (Cx.mk A h true) 4 cSemi)) (zW (Cx.mk A h true) 6 sNone)):=by show zC (Cx.mk A h true) q=_;rw[zC,h0,h1,h2,h3,h4];rfl
 unfold pv
 go_enter Tryz.func79,Tryz.ntmps79
 go_wp2_with fail
 refine (zl (Cx.mk A h true) I z j S q (-1) 0 1 zE _ (zt (zt L _) _) H (by decide)).mono ?_
 rintro e w1 ⟨rfl,Z⟩
 rw[h0]
 have F:=HM.out.fm Z
 clear L
 have J:=F.x0.boxC
 go_wp2_with fail
 refine (zl (Cx.mk A h true) I z j S q (-1) 0 1 zT _ F.m.tok H (by decide)).mono ?_
 rintro e w2 ⟨rfl,X⟩
 rw[h1]
 replace F:=F.below X
 clear J
 have J:=F.x0.boxC
 go_wp2_with fail
 refine (zl (Cx.mk A h true) I z j S q (-1) 0 1 zay _ F.m.tok H (by decide)).mono ?_
 rintro e w3 ⟨rfl,ac⟩
 rw[h2]
 replace F:=F.below ac
 clear J
 have J:=F.x0.boxC
 go_wp2_with fail
 refine (zl (Cx.mk A h true) I z j S q (-1) 0 1 zaA _ F.m.tok H (by decide)).mono ?_
 rintro e w4 ⟨rfl,Y⟩
 rw[h3]
 replace F:=F.below Y
 clear J
 have J:=F.x0.boxC
 go_wp2_with fail
 refine (zl (Cx.mk A h true) I z j S q (-1) 0 1 zbR _ F.m.tok H (by decide)).mono ?_
 rintro e w5 ⟨rfl,V⟩
 rw[h4]
 replace F:=F.below V
 clear J
 have J:=F.x0.boxC
 go_wp2_with fail
 refine (zaO (Cx.mk A h true) I z j (.ok q) S q (-1) 0 zbR _ (zab q) F.m).mono ?_
 rintro e w6 ⟨S6,q6,z6,rfl,U,m6,s6⟩
 replace F:=F.stp m6 s6
 clear J
 go_wp2_with fail
 refine (zdp (Cx.mk A h true) I z j _ S6 q6 z6 _ U.out F.m).mono ?_
 rintro e w7 ⟨S7,q7,z7,rfl,O,m7,s7⟩
 replace F:=F.stp m7 s7
 go_wp2_with fail
 refine (zai (Cx.mk A h true) I z j _ S7 q7 z7 0 cSemi _ O.out F.m).mono ?_
 rintro e w8 ⟨S8,q8,z8,rfl,M,m8,s8⟩
 replace F:=F.stp m8 s8
 go_wp2_with fail
 refine (zdd (Cx.mk A h true) I z j _ S8 q8 z8 0 6 sNone _ M.out F.m (zbw M.out)).mono ?_
 rintro e w9 ⟨S9,q9,z9,rfl,aa,m9,s9⟩
 replace F:=F.stp m9 s9
 have bb:=F.x1.boxC
 unfold pv
 go_wp2
 refine (F.x1.put ..).ret rfl rfl ?_
 rw[HV.out]
 exact (F.put1 ..).done rfl aa.out
theorem zrJ (z:List Tk) (h:Nat) (I A j:Nat) (S:Sv) (q:PS) (w:World) (U:Mem (Cx.mk z h true) I A j S q w) (h0:isT (Cx.mk z h true) q.pos 1 zE=false) (h1:isT (Cx.mk z h true) q.pos 1 zT=false) (h2:isT (Cx.mk z h true) q.pos 1 zay=false) (h3:isT (Cx.mk z h true) q.pos 1 zaA=false) (h4:isT (Cx.mk z h true) q.pos 1 zbR=false):
  Calls Tryz.prog 79 #[pv (Cx.mk z h true) I A S q (-1) 0] w (Out (Cx.mk z h true) I A j (zC (Cx.mk z h true) q) 0 S w):=by
 have HM:=zc U
 have L:=U.tok
 have H:(Cx.mk z h true).ts.length≤4000:=U.few
 clear U
 have HV:Hid (zC (Cx.mk z h true) q=bd (bd (.ok q) (zo (Cx.mk z h true) false)) fun a=>bd (bd (bd (bd (.ok a.1) (ze (Cx.mk z h true) 4 cEq)) (pE (Cx.mk z h true) .sum 0)) (ze (Cx.mk z h true) 4 cSemi)) (zW (Cx.mk z h true) 3 a.2)):=by show zC (Cx.mk z h true) q=_;rw[zC,h0,h1,h2,h3,h4];rfl
 unfold pv
 go_enter Tryz.func79,Tryz.ntmps79
 go_wp2_with fail
 refine (zl (Cx.mk z h true) I A j S q (-1) 0 1 zE _ (zt (zt L _) _) H (by decide)).mono ?_
 rintro e w1 ⟨rfl,af⟩
 rw[h0]
 have F:=HM.out.fm af
 clear L
 have J:=F.x0.boxC
 go_wp2_with fail
 refine (zl (Cx.mk z h true) I A j S q (-1) 0 1 zT _ F.m.tok H (by decide)).mono ?_
 rintro e w2 ⟨rfl,ac⟩
 rw[h1]
 replace F:=F.below ac
 clear J
 have J:=F.x0.boxC
 go_wp2_with fail
 refine (zl (Cx.mk z h true) I A j S q (-1) 0 1 zay _ F.m.tok H (by decide)).mono ?_
 rintro e w3 ⟨rfl,ah⟩
 rw[h2]
 replace F:=F.below ah
 clear J
 have J:=F.x0.boxC
 go_wp2_with fail
 refine (zl (Cx.mk z h true) I A j S q (-1) 0 1 zaA _ F.m.tok H (by decide)).mono ?_
 rintro e w4 ⟨rfl,ae⟩
 rw[h3]
 replace F:=F.below ae
 clear J
 have J:=F.x0.boxC
 go_wp2_with fail
 refine (zl (Cx.mk z h true) I A j S q (-1) 0 1 zbR _ F.m.tok H (by decide)).mono ?_
 rintro e w5 ⟨rfl,X⟩
 rw[h4]
 replace F:=F.below X
 clear J
 have J:=F.x0.boxC
 go_wp2_with fail
 refine (zbm (Cx.mk z h true) I A j (.ok q) S q (-1) 0 false _ (zab q) F.m).mono ?_
 rintro e w6 ⟨S6,q6,z6,n6,rfl,N,m6,s6⟩
 replace F:=F.stp m6 s6
 clear J
 have al:w.heap.size+1<w6.heap.size:=F.x1.lt
 unfold pv
 go_upto_region 19 with fail
 refine (F.new2 _).cut ?_
 intro w7 F
 have cb:=F.x2.boxC
 go_wp2_with fail
 refine (zai (Cx.mk z h true) I A j _ S6 q6 z6 0 cEq _ N.out.fst F.m).mono ?_
 rintro e w8 ⟨S8,q8,z8,rfl,Z,m8,s8⟩
 replace F:=F.stp m8 s8
 clear cb
 go_wp2_with fail
 refine (zdp (Cx.mk z h true) I A j _ S8 q8 z8 _ Z.out F.m).mono ?_
 rintro e w9 ⟨S9,q9,z9,rfl,ag,m9,s9⟩
 replace F:=F.stp m9 s9
 go_wp2_with fail
 refine (zai (Cx.mk z h true) I A j _ S9 q9 z9 0 cSemi _ ag.out F.m).mono ?_
 rintro e aq ⟨ai,ak,V,rfl,M,Y,aa⟩
 replace F:=F.stp Y aa
 go_wp2_with fail
 refine (zdd (Cx.mk z h true) I A j _ ai ak V 0 3 n6 _ M.out F.m (zbw M.out)).mono ?_
 rintro e am ⟨ao,an,ap,rfl,O,ad,aj⟩
 replace F:=F.stp ad aj
 have bb:=F.x1.boxC
 unfold pv
 go_wp2
 refine (F.x1.put ..).ret rfl rfl ?_
 rw[HV.out,←N.out.bind (fun q n=>bd (bd (bd (bd (.ok q) (ze (Cx.mk z h true) 4 cEq)) (pE (Cx.mk z h true) .sum 0)) (ze (Cx.mk z h true) 4 cSemi)) (zW (Cx.mk z h true) 3 n)),←zk5]
 exact (F.put1 ..).done rfl O.out
theorem zrK (A:List Tk) (h:Nat) (H z j:Nat) (S:Sv) (q:PS) (w:World) (I:Mem (Cx.mk A h true) H z j S q w):
  Calls Tryz.prog 79 #[pv (Cx.mk A h true) H z S q (-1) 0] w (Out (Cx.mk A h true) H z j (zC (Cx.mk A h true) q) 0 S w):=by
 cases J:isT (Cx.mk A h true) q.pos 1 zE with
 |true=>exact zrE A h H z j S q w I J
 |false=>
  cases L:isT (Cx.mk A h true) q.pos 1 zT with
  |true=>exact zrF A h H z j S q w I J L
  |false=>
   cases M:isT (Cx.mk A h true) q.pos 1 zay with
   |true=>exact zrG A h H z j S q w I J L M
   |false=>
    cases N:isT (Cx.mk A h true) q.pos 1 zaA with
    |true=>exact zrH A h H z j S q w I J L M N
    |false=>
     cases O:isT (Cx.mk A h true) q.pos 1 zbR with
     |true=>exact zrI A h H z j S q w I J L M N O
     |false=>
      exact zrJ A h H z j S q w I J L M N O
theorem zrL (A:List Tk) (h:Nat) (I z j:Nat) (S:Sv) (q:PS) (w:World) (L:Mem (Cx.mk A h false) I z j S q w) (M:isT (Cx.mk A h false) q.pos 1 zan=true):
  Calls Tryz.prog 79 #[pv (Cx.mk A h false) I z S q (-1) 0] w (Out (Cx.mk A h false) I z j (zC (Cx.mk A h false) q) 0 S w):=by
 have V:=zc L
 have H:=L.tok
 have J:(Cx.mk A h false).ts.length≤4000:=L.few
 clear L
 have Z:Hid (zC (Cx.mk A h false) q=zaY (Cx.mk A h false) q):=by show zC (Cx.mk A h false) q=_;rw[zC,M];rfl
 unfold pv
 go_enter Tryz.func79,Tryz.ntmps79
 go_wp2_with fail
 refine (zl (Cx.mk A h false) I z j S q (-1) 0 1 zan _ (zt (zt H _) _) J (by decide)).mono ?_
 rintro e w1 ⟨rfl,O⟩
 rw[M]
 have F:=V.out.fm O
 clear H
 have Y:=F.x0.boxC
 go_wp2_with fail
 refine (zrC (Cx.mk A h false) I z j S q _ F.m M).mono ?_
 rintro e w2 ⟨S2,q2,z2,rfl,N,U,X⟩
 replace F:=F.stp U X
 clear Y
 have bb:=F.x1.boxC
 unfold pv
 go_wp2
 refine (F.x1.put ..).ret rfl rfl ?_
 rw[Z.out]
 exact (F.put1 ..).done rfl N.out
theorem zrM (A:List Tk) (h:Nat) (J z j:Nat) (S:Sv) (q:PS) (w:World) (L:Mem (Cx.mk A h false) J z j S q w) (X:isT (Cx.mk A h false) q.pos 1 zan=false) (M:isT (Cx.mk A h false) q.pos 1 zal=true):
  Calls Tryz.prog 79 #[pv (Cx.mk A h false) J z S q (-1) 0] w (Out (Cx.mk A h false) J z j (zC (Cx.mk A h false) q) 0 S w):=by
 have Z:=zc L
 have H:=L.tok
 have I:(Cx.mk A h false).ts.length≤4000:=L.few
 clear L
 have HV:Hid (zC (Cx.mk A h false) q=zap (Cx.mk A h false) q):=by show zC (Cx.mk A h false) q=_;rw[zC,X,M];rfl
 unfold pv
 go_enter Tryz.func79,Tryz.ntmps79
 go_wp2_with fail
 refine (zl (Cx.mk A h false) J z j S q (-1) 0 1 zan _ (zt (zt H _) _) I (by decide)).mono ?_
 rintro e w1 ⟨rfl,V⟩
 rw[X]
 have F:=Z.out.fm V
 clear H
 have N:=F.x0.boxC
 go_wp2_with fail
 refine (zl (Cx.mk A h false) J z j S q (-1) 0 1 zal _ F.m.tok I (by decide)).mono ?_
 rintro e w2 ⟨rfl,O⟩
 rw[M]
 replace F:=F.below O
 clear N
 have N:=F.x0.boxC
 go_wp2_with fail
 refine (zrD (Cx.mk A h false) J z j S q _ F.m M).mono ?_
 rintro e w3 ⟨S3,q3,z3,rfl,U,Y,s3⟩
 replace F:=F.stp Y s3
 clear N
 have bb:=F.x1.boxC
 unfold pv
 go_wp2
 refine (F.x1.put ..).ret rfl rfl ?_
 rw[HV.out]
 exact (F.put1 ..).done rfl U.out
theorem zrN (A:List Tk) (h:Nat) (J z j:Nat) (S:Sv) (q:PS) (w:World) (M:Mem (Cx.mk A h false) J z j S q w) (Y:isT (Cx.mk A h false) q.pos 1 zan=false) (Z:isT (Cx.mk A h false) q.pos 1 zal=false) (X:isT (Cx.mk A h false) q.pos 1 zE=true):
  Calls Tryz.prog 79 #[pv (Cx.mk A h false) J z S q (-1) 0] w (Out (Cx.mk A h false) J z j (zC (Cx.mk A h false) q) 0 S w):=by
 have HM:=zc M
 have I:=M.tok
 have H:(Cx.mk A h false).ts.length≤4000:=M.few
 clear M
 have HV:Hid (zC (Cx.mk A h false) q=zaS (zcJ (Cx.mk A h false) q)):=by show zC (Cx.mk A h false) q=_;rw[zC,Y,Z,X];rfl
 unfold pv
 go_enter Tryz.func79,Tryz.ntmps79
 go_wp2_with fail
 refine (zl (Cx.mk A h false) J z j S q (-1) 0 1 zan _ (zt (zt I _) _) H (by decide)).mono ?_
 rintro e w1 ⟨rfl,U⟩
 rw[Y]
 have F:=HM.out.fm U
 clear I
 have L:=F.x0.boxC
 go_wp2_with fail
 refine (zl (Cx.mk A h false) J z j S q (-1) 0 1 zal _ F.m.tok H (by decide)).mono ?_
 rintro e w2 ⟨rfl,O⟩
 rw[Z]
 replace F:=F.below O
 clear L
 have L:=F.x0.boxC
 go_wp2_with fail
 refine (zl (Cx.mk A h false) J z j S q (-1) 0 1 zE _ F.m.tok H (by decide)).mono ?_
 rintro e w3 ⟨rfl,V⟩
 rw[X]
 replace F:=F.below V
 clear L
 have L:=F.x0.boxC
 go_wp2_with fail
 refine (zhE (Cx.mk A h false) J z j S q _ F.m).mono ?_
 rintro e w4 ⟨S4,q4,z4,n4,rfl,N,m4,s4⟩
 replace F:=F.stp m4 s4
 clear L
 have aa:w.heap.size+1<w4.heap.size:=F.x1.lt
 unfold pv
 go_upto_region 7 with fail
 refine (F.new2 _).cut ?_
 intro w5 F
 have bb:=F.x1.boxC
 have cb:=F.x2.boxC
 go_wp2
 refine (F.x1.put ..).ret rfl rfl ?_
 rw[HV.out]
 exact (F.put1 ..).done rfl N.out.fst
theorem zrO (A:List Tk) (h:Nat) (J z j:Nat) (S:Sv) (q:PS) (w:World) (M:Mem (Cx.mk A h false) J z j S q w) (Z:isT (Cx.mk A h false) q.pos 1 zan=false) (h1:isT (Cx.mk A h false) q.pos 1 zal=false) (Y:isT (Cx.mk A h false) q.pos 1 zE=false) (h3:isT (Cx.mk A h false) q.pos 1 zT=true):
  Calls Tryz.prog 79 #[pv (Cx.mk A h false) J z S q (-1) 0] w (Out (Cx.mk A h false) J z j (zC (Cx.mk A h false) q) 0 S w):=by
 have HM:=zc M
 have I:=M.tok
 have H:(Cx.mk A h false).ts.length≤4000:=M.few
 clear M
 have HV:Hid (zC (Cx.mk A h false) q=zaS (fnP (Cx.mk A h false) q)):=by show zC (Cx.mk A h false) q=_;rw[zC,Z,h1,Y,h3];rfl
 unfold pv
 go_enter Tryz.func79,Tryz.ntmps79
 go_wp2_with fail
 refine (zl (Cx.mk A h false) J z j S q (-1) 0 1 zan _ (zt (zt I _) _) H (by decide)).mono ?_
 rintro e w1 ⟨rfl,V⟩
 rw[Z]
 have F:=HM.out.fm V
 clear I
 have L:=F.x0.boxC
 go_wp2_with fail
 refine (zl (Cx.mk A h false) J z j S q (-1) 0 1 zal _ F.m.tok H (by decide)).mono ?_
 rintro e w2 ⟨rfl,O⟩
 rw[h1]
 replace F:=F.below O
 clear L
 have L:=F.x0.boxC
 go_wp2_with fail
 refine (zl (Cx.mk A h false) J z j S q (-1) 0 1 zE _ F.m.tok H (by decide)).mono ?_
 rintro e w3 ⟨rfl,X⟩
 rw[Y]
 replace F:=F.below X
 clear L
 have L:=F.x0.boxC
 go_wp2_with fail
 refine (zl (Cx.mk A h false) J z j S q (-1) 0 1 zT _ F.m.tok H (by decide)).mono ?_
 rintro e w4 ⟨rfl,U⟩
 rw[h3]
 replace F:=F.below U
 clear L
 have L:=F.x0.boxC
 go_wp2_with fail
 refine (zhF (Cx.mk A h false) J z j S q _ F.m).mono ?_
 rintro e w5 ⟨S5,q5,z5,n5,rfl,N,m5,s5⟩
 replace F:=F.stp m5 s5
 clear L
 have aa:w.heap.size+1<w5.heap.size:=F.x1.lt
 unfold pv
 go_upto_region 10 with fail
 refine (F.new2 _).cut ?_
 intro w6 F
 have bb:=F.x1.boxC
 have cb:=F.x2.boxC
 go_wp2
 refine (F.x1.put ..).ret rfl rfl ?_
 rw[HV.out]
 exact (F.put1 ..).done rfl N.out.fst
theorem zrP (A:List Tk) (h:Nat) (I z j:Nat) (S:Sv) (q:PS) (w:World) (O:Mem (Cx.mk A h false) I z j S q w) (h0:isT (Cx.mk A h false) q.pos 1 zan=false) (h1:isT (Cx.mk A h false) q.pos 1 zal=false) (h2:isT (Cx.mk A h false) q.pos 1 zE=false) (h3:isT (Cx.mk A h false) q.pos 1 zT=false) (h4:isT (Cx.mk A h false) q.pos 1 zay=true):
  Calls Tryz.prog 79 #[pv (Cx.mk A h false) I z S q (-1) 0] w (Out (Cx.mk A h false) I z j (zC (Cx.mk A h false) q) 0 S w):=by
 have HM:=zc O
 have L:=O.tok
 have H:(Cx.mk A h false).ts.length≤4000:=O.few
 clear O
 have HV:Hid (zC (Cx.mk A h false) q=bd (bd (bd (bd (bd (bd (.ok q) (ze (Cx.mk A h false) 1 zay)) (ze (Cx.mk A h false) 4 zr)) (pE (Cx.mk A h false) .sum 0)) (ze (Cx.mk A h false) 4 za8)) (ze (Cx.mk A h false) 4 cSemi)) (zW (Cx.mk A h false) 4 sNone)):=by show zC (Cx.mk A h false) q=_;rw[zC,h0,h1,h2,h3,h4];rfl
 unfold pv
 go_enter Tryz.func79,Tryz.ntmps79
 go_wp2_with fail
 refine (zl (Cx.mk A h false) I z j S q (-1) 0 1 zan _ (zt (zt L _) _) H (by decide)).mono ?_
 rintro e w1 ⟨rfl,ah⟩
 rw[h0]
 have F:=HM.out.fm ah
 clear L
 have J:=F.x0.boxC
 go_wp2_with fail
 refine (zl (Cx.mk A h false) I z j S q (-1) 0 1 zal _ F.m.tok H (by decide)).mono ?_
 rintro e w2 ⟨rfl,ac⟩
 rw[h1]
 replace F:=F.below ac
 clear J
 have J:=F.x0.boxC
 go_wp2_with fail
 refine (zl (Cx.mk A h false) I z j S q (-1) 0 1 zE _ F.m.tok H (by decide)).mono ?_
 rintro e w3 ⟨rfl,al⟩
 rw[h2]
 replace F:=F.below al
 clear J
 have J:=F.x0.boxC
 go_wp2_with fail
 refine (zl (Cx.mk A h false) I z j S q (-1) 0 1 zT _ F.m.tok H (by decide)).mono ?_
 rintro e w4 ⟨rfl,af⟩
 rw[h3]
 replace F:=F.below af
 clear J
 have J:=F.x0.boxC
 go_wp2_with fail
 refine (zl (Cx.mk A h false) I z j S q (-1) 0 1 zay _ F.m.tok H (by decide)).mono ?_
 rintro e w5 ⟨rfl,Y⟩
 rw[h4]
 replace F:=F.below Y
 clear J
 have J:=F.x0.boxC
 go_wp2_with fail
 refine (zaO (Cx.mk A h false) I z j (.ok q) S q (-1) 0 zay _ (zab q) F.m).mono ?_
 rintro e w6 ⟨S6,q6,z6,rfl,V,m6,s6⟩
 replace F:=F.stp m6 s6
 clear J
 go_wp2_with fail
 refine (zai (Cx.mk A h false) I z j _ S6 q6 z6 0 zr _ V.out F.m).mono ?_
 rintro e w7 ⟨S7,q7,z7,rfl,U,m7,s7⟩
 replace F:=F.stp m7 s7
 go_wp2_with fail
 refine (zdp (Cx.mk A h false) I z j _ S7 q7 z7 _ U.out F.m).mono ?_
 rintro e w8 ⟨S8,q8,z8,rfl,aa,m8,s8⟩
 replace F:=F.stp m8 s8
 go_wp2_with fail
 refine (zai (Cx.mk A h false) I z j _ S8 q8 z8 0 za8 _ aa.out F.m).mono ?_
 rintro e w9 ⟨S9,q9,z9,rfl,ak,m9,s9⟩
 replace F:=F.stp m9 s9
 have am:w.heap.size+1<w9.heap.size:=F.x1.lt
 unfold pv
 go_upto_region 13 with fail
 refine (F.new2 _).cut ?_
 intro au F
 have cb:=F.x2.boxC
 go_wp2_with fail
 refine (zai (Cx.mk A h false) I z j _ S9 q9 z9 0 cSemi _ ak.out F.m).mono ?_
 rintro e ao ⟨ad,Z,ai,rfl,M,ae,aj⟩
 replace F:=F.stp ae aj
 clear cb
 go_wp2_with fail
 refine (zdd (Cx.mk A h false) I z j _ ad Z ai 0 4 sNone _ M.out F.m (zbw M.out)).mono ?_
 rintro e an ⟨ap,aq,ar,rfl,N,X,ag⟩
 replace F:=F.stp X ag
 have bb:=F.x1.boxC
 unfold pv
 go_wp2
 refine (F.x1.put ..).ret rfl rfl ?_
 rw[HV.out]
 exact (F.put1 ..).done rfl N.out
theorem zrQ (A:List Tk) (h:Nat) (I z j:Nat) (S:Sv) (q:PS) (w:World) (O:Mem (Cx.mk A h false) I z j S q w) (h0:isT (Cx.mk A h false) q.pos 1 zan=false) (h1:isT (Cx.mk A h false) q.pos 1 zal=false) (h2:isT (Cx.mk A h false) q.pos 1 zE=false) (h3:isT (Cx.mk A h false) q.pos 1 zT=false) (h4:isT (Cx.mk A h false) q.pos 1 zay=false) (h5:isT (Cx.mk A h false) q.pos 1 zaA=true):
  Calls Tryz.prog 79 #[pv (Cx.mk A h false) I z S q (-1) 0] w (Out (Cx.mk A h false) I z j (zC (Cx.mk A h false) q) 0 S w):=by
 have HM:=zc O
 have L:=O.tok
 have H:(Cx.mk A h false).ts.length≤4000:=O.few
 clear O
 have HV:Hid (zC (Cx.mk A h false) q=bd (bd (bd (bd (.ok q) (ze (Cx.mk A h false) 1 zaA)) (pE (Cx.mk A h false) .sum 0)) (ze (Cx.mk A h false) 4 cSemi)) (zW (Cx.mk A h false) 5 sNone)):=by show zC (Cx.mk A h false) q=_;rw[zC,h0,h1,h2,h3,h4,h5];rfl
 unfold pv
 go_enter Tryz.func79,Tryz.ntmps79
 go_wp2_with fail
 refine (zl (Cx.mk A h false) I z j S q (-1) 0 1 zan _ (zt (zt L _) _) H (by decide)).mono ?_
 rintro e w1 ⟨rfl,ae⟩
 rw[h0]
 have F:=HM.out.fm ae
 clear L
 have J:=F.x0.boxC
 go_wp2_with fail
 refine (zl (Cx.mk A h false) I z j S q (-1) 0 1 zal _ F.m.tok H (by decide)).mono ?_
 rintro e w2 ⟨rfl,ac⟩
 rw[h1]
 replace F:=F.below ac
 clear J
 have J:=F.x0.boxC
 go_wp2_with fail
 refine (zl (Cx.mk A h false) I z j S q (-1) 0 1 zE _ F.m.tok H (by decide)).mono ?_
 rintro e w3 ⟨rfl,af⟩
 rw[h2]
 replace F:=F.below af
 clear J
 have J:=F.x0.boxC
 go_wp2_with fail
 refine (zl (Cx.mk A h false) I z j S q (-1) 0 1 zT _ F.m.tok H (by decide)).mono ?_
 rintro e w4 ⟨rfl,ad⟩
 rw[h3]
 replace F:=F.below ad
 clear J
 have J:=F.x0.boxC
 go_wp2_with fail
 refine (zl (Cx.mk A h false) I z j S q (-1) 0 1 zay _ F.m.tok H (by decide)).mono ?_
 rintro e w5 ⟨rfl,X⟩
 rw[h4]
 replace F:=F.below X
 clear J
 have J:=F.x0.boxC
 go_wp2_with fail
 refine (zl (Cx.mk A h false) I z j S q (-1) 0 1 zaA _ F.m.tok H (by decide)).mono ?_
 rintro e w6 ⟨rfl,V⟩
 rw[h5]
 replace F:=F.below V
 clear J
 have J:=F.x0.boxC
 go_wp2_with fail
 refine (zaO (Cx.mk A h false) I z j (.ok q) S q (-1) 0 zaA _ (zab q) F.m).mono ?_
 rintro e w7 ⟨S7,q7,z7,rfl,U,m7,s7⟩
 replace F:=F.stp m7 s7
 clear J
 go_wp2_with fail
 refine (zdp (Cx.mk A h false) I z j _ S7 q7 z7 _ U.out F.m).mono ?_
 rintro e w8 ⟨S8,q8,z8,rfl,Z,m8,s8⟩
 replace F:=F.stp m8 s8
 go_wp2_with fail
 refine (zai (Cx.mk A h false) I z j _ S8 q8 z8 0 cSemi _ Z.out F.m).mono ?_
 rintro e w9 ⟨S9,q9,z9,rfl,N,m9,s9⟩
 replace F:=F.stp m9 s9
 go_wp2_with fail
 refine (zdd (Cx.mk A h false) I z j _ S9 q9 z9 0 5 sNone _ N.out F.m (zbw N.out)).mono ?_
 rintro e ai ⟨ah,aj,ag,rfl,M,Y,aa⟩
 replace F:=F.stp Y aa
 have bb:=F.x1.boxC
 unfold pv
 go_wp2
 refine (F.x1.put ..).ret rfl rfl ?_
 rw[HV.out]
 exact (F.put1 ..).done rfl M.out
theorem zrR (z:List Tk) (h:Nat) (I A j:Nat) (S:Sv) (q:PS) (w:World) (V:Mem (Cx.mk z h false) I A j S q w) (h0:isT (Cx.mk z h false) q.pos 1 zan=false) (h1:isT (Cx.mk z h false) q.pos 1 zal=false) (h2:isT (Cx.mk z h false) q.pos 1 zE=false) (h3:isT (Cx.mk z h false) q.pos 1 zT=false) (h4:isT (Cx.mk z h false) q.pos 1 zay=false) (h5:isT (Cx.mk z h false) q.pos 1 zaA=false):
  Calls Tryz.prog 79 #[pv (Cx.mk z h false) I A S q (-1) 0] w (Out (Cx.mk z h false) I A j (zC (Cx.mk z h false) q) 0 S w):=by
 have HM:=zc V
 have L:=V.tok
 have H:(Cx.mk z h false).ts.length≤4000:=V.few
 clear V
 have HV:Hid (zC (Cx.mk z h false) q=bd (bd (.ok q) (zo (Cx.mk z h false) false)) fun a=>bd (bd (bd (bd (.ok a.1) (ze (Cx.mk z h false) 4 cEq)) (pE (Cx.mk z h false) .sum 0)) (ze (Cx.mk z h false) 4 cSemi)) (zW (Cx.mk z h false) 3 a.2)):=by show zC (Cx.mk z h false) q=_;rw[zC,h0,h1,h2,h3,h4,h5];rfl
 unfold pv
 go_enter Tryz.func79,Tryz.ntmps79
 go_wp2_with fail
 refine (zl (Cx.mk z h false) I A j S q (-1) 0 1 zan _ (zt (zt L _) _) H (by decide)).mono ?_
 rintro e w1 ⟨rfl,al⟩
 rw[h0]
 have F:=HM.out.fm al
 clear L
 have J:=F.x0.boxC
 go_wp2_with fail
 refine (zl (Cx.mk z h false) I A j S q (-1) 0 1 zal _ F.m.tok H (by decide)).mono ?_
 rintro e w2 ⟨rfl,ag⟩
 rw[h1]
 replace F:=F.below ag
 clear J
 have J:=F.x0.boxC
 go_wp2_with fail
 refine (zl (Cx.mk z h false) I A j S q (-1) 0 1 zE _ F.m.tok H (by decide)).mono ?_
 rintro e w3 ⟨rfl,ap⟩
 rw[h2]
 replace F:=F.below ap
 clear J
 have J:=F.x0.boxC
 go_wp2_with fail
 refine (zl (Cx.mk z h false) I A j S q (-1) 0 1 zT _ F.m.tok H (by decide)).mono ?_
 rintro e w4 ⟨rfl,aj⟩
 rw[h3]
 replace F:=F.below aj
 clear J
 have J:=F.x0.boxC
 go_wp2_with fail
 refine (zl (Cx.mk z h false) I A j S q (-1) 0 1 zay _ F.m.tok H (by decide)).mono ?_
 rintro e w5 ⟨rfl,ac⟩
 rw[h4]
 replace F:=F.below ac
 clear J
 have J:=F.x0.boxC
 go_wp2_with fail
 refine (zl (Cx.mk z h false) I A j S q (-1) 0 1 zaA _ F.m.tok H (by decide)).mono ?_
 rintro e w6 ⟨rfl,Z⟩
 rw[h5]
 replace F:=F.below Z
 clear J
 have J:=F.x0.boxC
 go_wp2_with fail
 refine (zbm (Cx.mk z h false) I A j (.ok q) S q (-1) 0 false _ (zab q) F.m).mono ?_
 rintro e w7 ⟨S7,q7,z7,n7,rfl,N,m7,s7⟩
 replace F:=F.stp m7 s7
 clear J
 have ar:w.heap.size+1<w7.heap.size:=F.x1.lt
 unfold pv
 go_upto_region 19 with fail
 refine (F.new2 _).cut ?_
 intro w8 F
 have cb:=F.x2.boxC
 go_wp2_with fail
 refine (zai (Cx.mk z h false) I A j _ S7 q7 z7 0 cEq _ N.out.fst F.m).mono ?_
 rintro e w9 ⟨S9,q9,z9,rfl,ao,m9,s9⟩
 replace F:=F.stp m9 s9
 clear cb
 go_wp2_with fail
 refine (zdp (Cx.mk z h false) I A j _ S9 q9 z9 _ ao.out F.m).mono ?_
 rintro e az ⟨am,aq,X,rfl,U,ad,af⟩
 replace F:=F.stp ad af
 go_wp2_with fail
 refine (zai (Cx.mk z h false) I A j _ am aq X 0 cSemi _ U.out F.m).mono ?_
 rintro e au ⟨ah,ae,Y,rfl,M,ai,an⟩
 replace F:=F.stp ai an
 go_wp2_with fail
 refine (zdd (Cx.mk z h false) I A j _ ah ae Y 0 3 n7 _ M.out F.m (zbw M.out)).mono ?_
 rintro e ay ⟨av,aw,ax,rfl,O,aa,ak⟩
 replace F:=F.stp aa ak
 have bb:=F.x1.boxC
 unfold pv
 go_wp2
 refine (F.x1.put ..).ret rfl rfl ?_
 rw[HV.out,←N.out.bind (fun q n=>bd (bd (bd (bd (.ok q) (ze (Cx.mk z h false) 4 cEq)) (pE (Cx.mk z h false) .sum 0)) (ze (Cx.mk z h false) 4 cSemi)) (zW (Cx.mk z h false) 3 n)),←zk5]
 exact (F.put1 ..).done rfl O.out
theorem zrS (A:List Tk) (h:Nat) (H z j:Nat) (S:Sv) (q:PS) (w:World) (I:Mem (Cx.mk A h false) H z j S q w):
  Calls Tryz.prog 79 #[pv (Cx.mk A h false) H z S q (-1) 0] w (Out (Cx.mk A h false) H z j (zC (Cx.mk A h false) q) 0 S w):=by
 cases J:isT (Cx.mk A h false) q.pos 1 zan with
 |true=>exact zrL A h H z j S q w I J
 |false=>
  cases L:isT (Cx.mk A h false) q.pos 1 zal with
  |true=>exact zrM A h H z j S q w I J L
  |false=>
   cases M:isT (Cx.mk A h false) q.pos 1 zE with
   |true=>exact zrN A h H z j S q w I J L M
   |false=>
    cases N:isT (Cx.mk A h false) q.pos 1 zT with
    |true=>exact zrO A h H z j S q w I J L M N
    |false=>
     cases O:isT (Cx.mk A h false) q.pos 1 zay with
     |true=>exact zrP A h H z j S q w I J L M N O
     |false=>
      cases U:isT (Cx.mk A h false) q.pos 1 zaA with
      |true=>exact zrQ A h H z j S q w I J L M N O U
      |false=>
       exact zrR A h H z j S q w I J L M N O U
theorem zrT (C:Cx) (A j h:Nat) (S:Sv) (q:PS) (w:World) (I:Mem C A j h S q w):
  Calls Tryz.prog 79 #[pv C A j S q (-1) 0] w (Out C A j h (zC C q) 0 S w):=by
 obtain⟨J,z,H⟩:=C
 cases H with
 |true=>exact zrK J z A j h S q w I
 |false=>exact zrS J z A j h S q w I
theorem zrU (s:ByteArray) (j:Bool) (w:World) (hs:s.size≤4294967296):
  Calls Tryz.prog 32 #[.string s,.bool j] w fun e w'=>ParseOut s j w e w'∧Below w.heap.size w w':=by
 obtain⟨i0,hi,au,aA,ax⟩:=info_parts Tryz.infoExp
 go_enter Tryz.func32,Tryz.ntmps32
 go_wp2_with fail
 refine (zm6 s j _ hs).mono ?_
 rintro e w1 ⟨⟨r1,U,Y⟩,b1⟩
 have ag:Hid (Below w.heap.size w w1):=((Below.refl _ _).alloc (Nat.le_refl _) _).trans (b1.mono (by rw[zn];omega))
 have hG:w1.heap[w.heap.size]? =some (.cells #[.slice none 0 0,.slice none 0 0,.slice none 0 0,.slice none 0 0,.slice none 0 0] 36 (0,0)):=(b1.block _ (by rw[zn];omega)).trans (heap_alloc_new w _)
 rw[zn] at b1
 cases r1 with
 |error p=>
  obtain⟨g,X,rfl,A⟩:=Y
  have HY:Hid (zb4 s j (.error p)):=⟨_,U,rfl⟩
  have HG:=zc hG
  obtain⟨c0,c1,c2,c3,c4,cf⟩:=zg hG
  have dz:decide ((0:Int)≤(p:Int))=true:=decide_eq_true (by omega)
  clear A U b1 hG
  go_wp2
  refine bodyPost_ret (zar rfl _ _ w.heap.size 36 _ (0,0) _ rfl (zbH HG.out) Tryz.underlying36 rfl (by kernel_rfl)) rfl ?_
  exact⟨⟨_,HY.out,rfl⟩,zbN ag.out (Nat.le_refl _) _ _ _ _ _⟩
 |ok H=>
  obtain⟨g,n,X,rfl,A⟩:=Y
  obtain rfl:n=H.length:=A.2
  rw[zn] at A
  have ak:w.heap.size+1≤w1.heap.size:=by have:=b1.size;rw[zn] at this;exact this
  have aj:=zi6 U
  have HR:=zc U
  have al:Mem ⟨H,s.size,j⟩ g X (w.heap.size+1) S0 zbV w1:=zi7 A aj ak
  have ao:=zc al
  have HG:=zc hG
  clear A U al hG
  go_wp2
  go_loopg [] (H.length+1) (fun k wr=>∃(x':PR) (J:Sv) (q':PS) (z':Int),Is x' q' z'∧bd x' (zaz ⟨H,s.size,j⟩)=zaz ⟨H,s.size,j⟩ zbV∧(z'<0→H.length-q'.pos<k)∧Mem ⟨H,s.size,j⟩ g X (w.heap.size+1) J q' wr∧Below w.heap.size w wr∧Bx g J wr w1.heap.size #[.slice (some ⟨g,0,none⟩) H.length X,.int .i64 q'.pos,.int .i64 s.size,.bool j,.slice J.rq.a q'.rq.length J.rq.cap,.slice J.im.a q'.im.length J.im.cap,.slice J.ep.a q'.ep.length J.ep.cap,.slice J.st.a q'.st.length J.st.cap,.slice J.ex.a q'.ex.length J.ex.cap,.slice J.la.a q'.la.length J.la.cap,.int .i64 z',.int .i64 0]∧wr.heap[w.heap.size]? =some (.cells #[.slice none 0 0,.slice none 0 0,.slice none 0 0,.slice none 0 0,.slice none 0 0] 36 (0,0)))
  case atStart=>exact⟨.ok zbV,S0,zbV,-1,zab _,rfl,fun _=>by show H.length-0<H.length+1;omega,ao.out.alloc _,ag.out.alloc ag.out.size _,Bx.new ao.out _,(Below.heap_alloc _ _ _ (by omega)).trans HG.out⟩
  case round=>
   obtain⟨x2,S2,N,z2,i2,e2,l2,m2,t2,X0,G2⟩:=hrel
   have ai:=zc i2
   have ah:=zc e2
   have aw:=zc l2
   have z:=zc m2
   have ad:=zc t2
   have O:=zc X0
   have M:=zc G2
   have aE:N.pos≤H.length:=m2.inv.pos
   obtain⟨a0,a1,a2,a3,a4,a5,a6,a7,a8,a9,ab,ac,af⟩:=X0.box
   clear i2 e2 l2 m2 t2 X0 G2
   by_cases hz:z2<0
   ·have dz:decide (z2<0)=true:=decide_eq_true hz
    obtain⟨rfl,rfl⟩:=zaI ai.out hz
    by_cases hp:N.pos<H.length
    ·have aD:=aw.out hz
     go_wp2_with fail
     refine (zrT ⟨H,s.size,j⟩ g X (w.heap.size+1) S2 N _ z.out).mono ?_
     rintro e w3 ⟨S3,q3,z3,rfl,i3,m3,s3⟩
     have az:=zc m3
     have aq:=zc i3
     have aa:Hid (Below (w.heap.size+1) wr w3):=s3.under z.out.base z.out.own
     have Z:Hid (Bx g S3 w3 w1.heap.size _):=O.out.stp s3
     have ay:Hid (Below w.heap.size w w3):=ad.out.trans (aa.out.mono (by omega))
     have ae:Hid (w3.heap[w.heap.size]? =some (.cells #[.slice none 0 0,.slice none 0 0,.slice none 0 0,.slice none 0 0,.slice none 0 0] 36 (0,0))):=(aa.out.block _ (by omega)).trans M.out
     have HE:Hid (bd (zC ⟨H,s.size,j⟩ N) (zaz ⟨H,s.size,j⟩)=zaz ⟨H,s.size,j⟩ zbV):=by
      show _=_
      rw[←ah.out,zB,zfK,if_pos hp]
     have HP:Hid (z3<0→N.pos<q3.pos):=fun h=>zfJ (zaI aq.out h).1
     clear i3 m3 s3 a0 a1 a2 a3 a4 a5 a6 a7 a8 a9 ab ac af
     obtain⟨a0,a1,a2,a3,a4,a5,a6,a7,a8,a9,ab,ac,af⟩:=Z.out.box
     unfold pv
     go_wp2
     go_roundg (gk-1)
     case rel=>exact⟨_,S3,q3,z3,aq.out,HE.out,fun h=>by have:=HP.out h;omega,az.out.put Z.out _ _ _ _ _ _ _ _ _ _ _ _,zbW ay.out (by omega) _ _ _ _ _ _ _ _ _ _ _ _,Z.out.put _ _ _ _ _ _ _ _ _ _ _ _,(zf0 (by omega) ..).trans ae.out⟩
     case measure=>omega
    ·have HD:Hid (zaz ⟨H,s.size,j⟩ zbV= .ok N):=by
      show _=_
      rw[←ah.out,zB,zfK,if_neg hp]
     have HY:Hid (zb4 s j (.ok N)):=⟨_,HR.out,HD.out.symm⟩
     have am:w1.heap.size<wr.heap.size:=O.out.lt
     have aC:=z.out.inv.ep
     have I:=z.out.own.ep
     have aa:=z.out.base
     rcases z.out.own.la.nil_or with ⟨ha,hc,hn⟩|⟨gl,ha⟩
     ·have HN:Hid (N.la=[]):=List.eq_nil_of_length_eq_zero hn
      rw[ha,hc,hn] at a9
      obtain⟨c0,c1,c2,c3,c4,cf⟩:=zg M.out
      clear ha hc hn
      go_wp2_with (at_builtin;refine zms _ rfl _ _ 32 rfl 86 i0 Tryz.underlying32 hi (w.heap.size+1) 4 N.ep.length S2.ep _ (by rfl) I (by rfl) ?_)
      clear I
      go_wp2
      refine bodyPost_ret (zar rfl _ _ w.heap.size 36 _ (0,0) _ rfl (zbH ((zx (by omega)).trans M.out)) Tryz.underlying36 rfl (by kernel_rfl)) rfl ?_
      refine⟨⟨_,HY.out,S2,by simp[zfL,HN.out],z.out.whole0 HN.out (Nat.lt_succ_self _) O.out.free fun k V h2=>?_⟩,zbN (ad.out.setCell (by show _≤w1.heap.size;omega) _) (Nat.le_refl _) _ _ _ _ _⟩
      rw[zx V,zx V,zx V,zx V,zx V,zx h2]
     ·have an:OwnR wr (w.heap.size+1) 86 4 ⟨some ⟨gl,0,none⟩,S2.la.cap⟩ N.la.length (N.la.flatMap epL):=by have:=z.out.own.la;unfold OwnR at this ⊢;rw[ha] at this;exact this
      rw[ha] at a9
      go_wp2_with (at_builtin;refine zmr _ rfl _ _ 32 rfl (w.heap.size+1) 86 i0 _ 4 56 Tryz.underlying32 hi au aA ax rfl (by decide) (by decide) S2.ep N.ep.length _ (by rfl) I gl N.la.length S2.la.cap (w.heap.size+1) _ (by rfl) an (zfM _) (by omega) aa ?_)
      intro r' w3 hr hg ap
      have aB:=zc hr
      have L:=zc hg
      have av:=zc ap
      have ar:=fun b hb=>zdS (W:=wr) z.out.own (Nat.le_refl _) (r:=S2.ep.blk) (fun k e=>.inr (.inr (.inl e))) b hb
      have Z:Hid (w3.heap[w1.heap.size]? =_):=(hg.block _ am (fun e=>O.out.free (.inr (.inr (.inl e.symm))))).trans O.out.heap
      have ae:Hid (w3.heap[w.heap.size]? =_):=(hg.block _ (by omega) (fun e=>by have:=(I.typed e.symm).1;omega)).trans M.out
      clear a0 a1 a2 a3 a4 a5 a6 a7 a8 a9 ab ac af hr hg ap ar I an
      obtain⟨a0,a1,a2,a3,a4,a5,a6,a7,a8,a9,ab,ac,af⟩:=zaq Z.out
      obtain⟨c0,c1,c2,c3,c4,cf⟩:=zg ae.out
      go_wp2
      refine bodyPost_ret (zar rfl _ _ w.heap.size 36 _ (0,0) _ rfl (zbH ((zx (by omega)).trans ae.out)) Tryz.underlying36 rfl (by kernel_rfl)) rfl ?_
      refine⟨⟨_,HY.out,{S2 with ep:=r'},by simp[zfL],z.out.whole L.out aB.out av.out (Nat.lt_succ_self _) am O.out.free fun k V h2=>?_⟩,zbN ((ad.out.trans (Below.mono (B:=w.heap.size+1) ⟨L.out.os,L.out.tape,L.out.output,L.out.size,fun k hk=>L.out.block k (by omega) fun e=>by have:=(z.out.own.ep.typed e.symm).1;omega⟩ (by omega))).setCell (by show _≤w1.heap.size;omega) _) (Nat.le_refl _) _ _ _ _ _⟩
      rw[zx V,zx V,zx V,zx V,zx V,zx h2]
   ·have dz:decide (z2<0)=false:=decide_eq_false hz
    obtain⟨e0,rfl,rfl⟩:=zd0 ai.out hz
    have aF:decide ((0:Int)≤(e0:Int))=true:=decide_eq_true (by omega)
    have HY:Hid (zb4 s j (.error e0)):=⟨_,HR.out,(show (.error e0:PR)=zaz ⟨H,s.size,j⟩ zbV from ah.out)⟩
    obtain⟨c0,c1,c2,c3,c4,cf⟩:=zg M.out
    go_wp2
    go_region
    all_goals
     go_wp2
     refine bodyPost_ret (zar rfl _ _ w.heap.size 36 _ (0,0) _ rfl (zbH M.out) Tryz.underlying36 rfl (by kernel_rfl)) rfl ?_
     exact⟨⟨_,HY.out,rfl⟩,(zbN ad.out (Nat.le_refl _) ..).drew⟩
end Go.Proofs.YtjdddblpfbmpaaaGreat
