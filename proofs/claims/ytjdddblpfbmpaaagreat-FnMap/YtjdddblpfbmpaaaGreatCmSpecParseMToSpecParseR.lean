/-
  What spec's l4Import answers: the walks.
  What spec's l4Export answers: the walks.
  What spec's l4Export answers to a list of names: the walks.
  What spec's l4Item answers: the walks.
  What spec's l4Item answers outside of a script: the walks.
  What spec.Parse answers: the walk.
-/
import Derived.Test.YtjdddblpfbmpaaaGreatCmMapHoldToSpecParseK
namespace Go.Proofs.YtjdddblpfbmpaaaGreat
set_option maxRecDepth 100000
set_option maxHeartbeats 6400000
open Go.RowKit Go.PlainAid
theorem zdv {C:Cx} {k:Int} {s:ByteArray} {q z:PS} {j:Int} (h:Is (bd (.ok q) (zd C k s)) z j) (A:isT C q.pos k s=true):z=adv q∧j= -1:=by
 rw[zC,zd,if_pos A] at h
 exact h
theorem zfH {α:Type} (f:α→PS→PR) (l:List α) (e:Nat):zV f l (.error e)= .error e:=by
 induction l with
 |nil=>rfl
 |cons a l j=>exact j
theorem zgE {α:Type} (f:α→PS→PR) (l:List α) (x:PR) {k:Nat} (j:k<l.length):zV f (l.drop k) x=zV f (l.drop (k+1)) (bd x (f (l[k]))):=by
 rw[List.drop_eq_getElem_cons j]
 rfl
theorem zk8 {C:Cx} {j:PRN} {N U:PS} {M I:Int} {A H:ByteArray} {G:ByteArray→ByteArray→PS→PR} (L:Is2 j N M A) (z:Is2 (bd (bd (zaR j) (zd C 1 zY)) (zF C)) U I H):
  bd (bd (zaR (bd (bd (zaR j) (zd C 1 zY)) (zF C))) (zd C 4 cSemi)) (G H A)=bd j fun a=>bd (zba C (zaI C (.ok a.1))) fun b=>G b.2 a.2 b.1:=by
 cases j with
 |error e=>rfl
 |ok a=>
  obtain⟨_,_,rfl⟩:=L
  have J:bd (bd (zaR (.ok a)) (zd C 1 zY)) (zF C)=zaI C (.ok a.1):=rfl
  rw[J] at z ⊢
  rw[zC]
  cases O:zaI C (.ok a.1) with
  |error e=>rfl
  |ok b=>
   rw[O] at z
   obtain⟨_,_,rfl⟩:=z
   show bd (zd C 4 cSemi b.1) (G b.2 a.2)=bd (bd (zd C 4 cSemi b.1) fun q=>.ok (q,b.2)) fun b=>G b.2 a.2 b.1
   rw[zP]
   rfl
def zfI (y:PRL):PR:=bd y fun a=>.ok a.1
theorem Is3.fst {y:PRL} {q:PS} {z:Int} {l:List Ep} (h:Is3 y q z l):Is (zfI y) q z:=by
 cases y with
 |ok a=>exact⟨h.1,h.2.1⟩
 |error e=>exact h
theorem zhY {C:Cx} {y:PRL} {L O:PS} {J A:Int} {l:List Ep} {z:ByteArray} {G:ByteArray→Ep→PS→PR} (I:Is3 y L J l) (j:Is2 (bd (bd (zfI y) (zd C 1 zY)) (zF C)) O A z):
  zV (G z) l (bd (zaR (bd (bd (zfI y) (zd C 1 zY)) (zF C))) (zd C 4 cSemi))=bd y fun a=>bd (zba C (zaI C (.ok a.1))) fun b=>zV (G b.2) a.2 (.ok b.1):=by
 cases y with
 |error e=>exact zfH _ _ _
 |ok a=>
  obtain⟨_,_,rfl⟩:=I
  have H:bd (bd (zfI (.ok a)) (zd C 1 zY)) (zF C)=zaI C (.ok a.1):=rfl
  rw[H] at j ⊢
  rw[zC]
  cases M:zaI C (.ok a.1) with
  |error e=>exact zfH _ _ _
  |ok b=>
   rw[M] at j
   obtain⟨_,_,rfl⟩:=j
   show zV (G b.2) a.2 (bd (zaR (.ok b)) (zd C 4 cSemi))=bd (bd (zd C 4 cSemi b.1) fun q=>.ok (q,b.2)) fun b=>zV (G b.2) a.2 (.ok b.1)
   have N:bd (zaR (.ok b)) (zd C 4 cSemi)=zd C 4 cSemi b.1:=rfl
   rw[N,zP]
   cases zd C 4 cSemi b.1 with
   |error e=>exact zfH _ _ _
   |ok c=>rfl
theorem Mem.drew {C:Cx} {A z j:Nat} {S:Sv} {q:PS} {w:World} (h:Mem C A z j S q w):Mem C A z j S q w.drew:=⟨⟨h.own.rq,h.own.im,h.own.ep,h.own.st,h.own.ex,h.own.la,h.own.apart⟩,h.inv,h.tok,h.few,h.base⟩
theorem Stp.undrew {S S':Sv} {w w':World} (h:Stp S w.drew S' w'):Stp S w S' w':=⟨h.os,h.tape,h.output,h.size,h.block,h.sub⟩
theorem Row.cells {S:Sv} {w:World} {z B g:Nat} {r:Rw} {l:List Ep} (h:Row S w z B r l) (M:r.a=some ⟨g,0,none⟩) {j:Nat} (I:j<l.length):
  w.cell? ⟨g,j*4+1,none⟩=some (.string (l[j]).name)∧w.cell? ⟨g,j*4+2,none⟩=some (.string (l[j]).loc):=by
 have A:=h.own
 unfold OwnR at A
 rw[M] at A
 have q: ∀(l:List Ep) (i c:Nat) (J:c<4) (H:i<l.length),(l.flatMap epL)[i*4+c]? =(epL l[i])[c]?:=by
  intro l
  induction l with
  |nil=>intro i c _ H;simp at H
  |cons x l L=>
   intro i c J H
   match i with
   |0=>
    simp only[List.flatMap_cons,Nat.zero_mul,Nat.zero_add,List.getElem_cons_zero]
    rw[List.getElem?_append_left (by simp[epL];omega)]
   |i+1=>
    simp only[List.flatMap_cons,List.getElem_cons_succ]
    rw[List.getElem?_append_right (by simp[epL];omega)]
    have e:(i+1)*4+c-(epL x).length=i*4+c:=by simp[epL];omega
    rw[e]
    exact L i c J (by simpa using H)
 rw[A.cellAt _ (by omega),A.cellAt _ (by omega)]
 exact⟨q l j 1 (by omega) I,q l j 2 (by omega) I⟩
theorem zq4 {C:Cx} {y:Im} {x:PR} {q q':PS} {z z':Int} (A:z<0→1≤q.pos) (I:Is x q z) (h:Is (bd x (zal C y)) q' z'):z'<0→1≤q'.pos:=by
 intro J
 obtain⟨e,_⟩:=zaH h J
 obtain⟨a,H,j⟩:=zf e
 subst H
 obtain⟨rfl,rfl⟩:=I
 unfold zal at j
 split at j
 ·cases j
 ·cases j
  exact A (by decide)
theorem zhZ {C:Cx} {y:Ep} {x:PR} {q q':PS} {z z':Int} (A:z<0→1≤q.pos) (I:Is x q z) (h:Is (bd x (zq C y)) q' z'):z'<0→1≤q'.pos:=by
 intro J
 obtain⟨e,_⟩:=zaH h J
 obtain⟨a,H,j⟩:=zf e
 subst H
 obtain⟨rfl,rfl⟩:=I
 unfold zq at j
 split at j
 ·cases j
 ·split at j
  ·cases j
   exact A (by decide)
  ·cases j
   exact A (by decide)
theorem zq5 (C:Cx) (A z j:Nat) (S:Sv) (q:PS) (w:World) (hm:Mem C A z j S q w) (hw:isT C q.pos 1 zao=true) (h1:isT C (q.pos+1) 4 zM=false) (h2:isT C (q.pos+1) 4 zy=true):
  Calls Tryz.prog 106 #[pv C A z S q (-1) 0] w (Out C A z j (zaX C q) 0 S w):=by
 have HM:=zc hm
 have J:=hm.few
 clear hm
 have HV:Hid (zaX C q=bd (bd (bd (bd (.ok (adv q)) (zd C 4 zy)) (zd C 1 sAs)) (zo C false)) fun a=>bd (zba C (zaI C (.ok a.1))) fun b=>zal C ⟨b.2,zy,a.2⟩ b.1):=by
  show _=_
  rw[zaX,zd,if_pos hw,zC]
  rw[zz,h1,h2]
  rfl
 unfold pv
 go_enter Tryz.func106,Tryz.ntmps106
 go_wp2_with fail
 refine (zaO C A z j (.ok q) S q (-1) 0 zao _ (zab q) ((HM.out.alloc _).alloc _)).mono ?_
 rintro e w1 ⟨S1,O,z1,rfl,V,m1,s1⟩
 have F:=HM.out.fm2 m1 s1
 obtain⟨N,rfl⟩:=zdv V.out hw
 have HQ:=zc N
 have L:Hid (O.pos=q.pos+1):=by show O.pos=q.pos+1;rw[N];rfl
 clear N V
 have M:=F.x0.boxC
 unfold pv
 go_upto_region 2 with fail
 refine (F.put0 ..).cut ?_
 clear M
 intro w2 F
 have M:=F.x0.boxC
 go_wp2_with fail
 refine (zj C A z j S1 O (-1) 0 4 zM _ F.m.tok J (by decide)).mono ?_
 rintro e w3 ⟨rfl,al⟩
 rw[L.out,h1]
 replace F:=F.below al
 clear M
 have M:=F.x0.boxC
 go_wp2_with fail
 refine (zj C A z j S1 O (-1) 0 4 zy _ F.m.tok J (by decide)).mono ?_
 rintro e w4 ⟨rfl,ar⟩
 rw[L.out,h2]
 replace F:=F.below ar
 clear M
 have M:=F.x0.boxC
 clear L
 go_wp2_with fail
 refine (zah C A z j (.ok O) S1 O (-1) 0 zy _ (zab O) F.m).mono ?_
 rintro e w5 ⟨S5,q5,z5,rfl,ao,m5,s5⟩
 replace F:=F.stp m5 s5
 clear M
 go_wp2_with fail
 refine (zaO C A z j _ S5 q5 z5 0 sAs _ ao.out F.m).mono ?_
 rintro e w6 ⟨S6,q6,z6,rfl,af,m6,s6⟩
 replace F:=F.stp m6 s6
 go_wp2_with fail
 refine (zbt C A z j _ S6 q6 z6 0 false _ af.out F.m).mono ?_
 rintro e w7 ⟨S7,q7,z7,n7,rfl,X,m7,s7⟩
 replace F:=F.stp m7 s7
 have aw:w.heap.size+1<w7.heap.size:=F.x1.lt
 unfold pv
 go_upto_region 13 with fail
 refine (F.new2 _).cut ?_
 intro w8 F
 have cb:=F.x2.boxC
 go_wp2_with fail
 refine (zaO C A z j _ S7 q7 z7 0 zY _ X.out.fst F.m).mono ?_
 rintro e w9 ⟨S9,q9,z9,rfl,ak,m9,s9⟩
 replace F:=F.stp m9 s9
 clear cb
 go_wp2_with fail
 refine (zel C A z j _ S9 q9 z9 0 _ ak.out F.m).mono ?_
 rintro e Y ⟨aj,au,aa,am,rfl,I,ap,ae⟩
 replace F:=F.stp ap ae
 have av:w.heap.size+1<Y.heap.size:=F.x1.lt
 have Z:w7.heap.size<Y.heap.size:=F.x2.lt
 unfold pv
 go_upto_region 14 with fail
 refine (F.new3 _).cut ?_
 intro ay F
 have db:=F.x3.boxC
 go_wp2_with fail
 refine (zah C A z j _ aj au aa 0 cSemi _ I.out.fst F.m).mono ?_
 rintro e aC ⟨an,ad,aq,rfl,H,ac,ah⟩
 replace F:=F.stp ac ah
 clear db
 go_wp2_with fail
 refine (zh2 C A z j _ an ad aq 0 ⟨am,zy,n7⟩ _ H.out F.m (zbx H.out)).mono ?_
 rintro e aB ⟨aA,az,ax,rfl,U,ai,ag⟩
 replace F:=F.stp ai ag
 have bb:=F.x1.boxC
 unfold pv
 go_wp2
 refine (F.x1.put ..).ret rfl rfl ?_
 rw[HV.out,←HQ.out,←zk8 (G:=fun b a=>zal C ⟨b,zy,a⟩) X.out I.out]
 exact (F.put1 ..).done rfl U.out
theorem zq6 (C:Cx) (A z j:Nat) (S:Sv) (q:PS) (w:World) (hm:Mem C A z j S q w) (hw:isT C q.pos 1 zao=true) (h1:isT C (q.pos+1) 4 zM=false) (h2:isT C (q.pos+1) 4 zy=false) (h3:zH C (q.pos+1) false=true):
  Calls Tryz.prog 106 #[pv C A z S q (-1) 0] w (Out C A z j (zaX C q) 0 S w):=by
 have HM:=zc hm
 have H:=hm.few
 clear hm
 have HV:Hid (zaX C q=bd (bd (.ok (adv q)) (zo C false)) fun a=>bd (zba C (zaI C (.ok a.1))) fun b=>zal C ⟨b.2,sDefault,a.2⟩ b.1):=by
  show _=_
  rw[zaX,zd,if_pos hw,zC]
  rw[zz,h1,h2,h3]
  rfl
 unfold pv
 go_enter Tryz.func106,Tryz.ntmps106
 go_wp2_with fail
 refine (zaO C A z j (.ok q) S q (-1) 0 zao _ (zab q) ((HM.out.alloc _).alloc _)).mono ?_
 rintro e w1 ⟨Z,M,z1,rfl,O,m1,s1⟩
 have F:=HM.out.fm2 m1 s1
 obtain⟨N,rfl⟩:=zdv O.out hw
 have HQ:=zc N
 have I:Hid (M.pos=q.pos+1):=by show M.pos=q.pos+1;rw[N];rfl
 clear N O
 have J:=F.x0.boxC
 unfold pv
 go_upto_region 2 with fail
 refine (F.put0 ..).cut ?_
 clear J
 intro w2 F
 have J:=F.x0.boxC
 go_wp2_with fail
 refine (zj C A z j Z M (-1) 0 4 zM _ F.m.tok H (by decide)).mono ?_
 rintro e w3 ⟨rfl,al⟩
 rw[I.out,h1]
 replace F:=F.below al
 clear J
 have J:=F.x0.boxC
 go_wp2_with fail
 refine (zj C A z j Z M (-1) 0 4 zy _ F.m.tok H (by decide)).mono ?_
 rintro e w4 ⟨rfl,ah⟩
 rw[I.out,h2]
 replace F:=F.below ah
 clear J
 have J:=F.x0.boxC
 go_wp2_with fail
 refine (zgl C A z j Z M (-1) 0 false _ F.m.tok H).mono ?_
 rintro e w5 ⟨rfl,ac⟩
 rw[I.out,h3]
 replace F:=F.below ac
 clear J
 have J:=F.x0.boxC
 clear I
 go_wp2_with fail
 refine (zbt C A z j (.ok M) Z M (-1) 0 false _ (zab M) F.m).mono ?_
 rintro e w6 ⟨S6,q6,z6,n6,rfl,V,m6,s6⟩
 replace F:=F.stp m6 s6
 clear J
 have am:w.heap.size+1<w6.heap.size:=F.x1.lt
 unfold pv
 go_upto_region 17 with fail
 refine (F.new2 _).cut ?_
 intro w7 F
 have cb:=F.x2.boxC
 go_wp2_with fail
 refine (zaO C A z j _ S6 q6 z6 0 zY _ V.out.fst F.m).mono ?_
 rintro e w8 ⟨S8,q8,z8,rfl,ae,m8,s8⟩
 replace F:=F.stp m8 s8
 clear cb
 go_wp2_with fail
 refine (zel C A z j _ S8 q8 z8 0 _ ae.out F.m).mono ?_
 rintro e w9 ⟨S9,q9,z9,n9,rfl,X,m9,s9⟩
 replace F:=F.stp m9 s9
 have an:w.heap.size+1<w9.heap.size:=F.x1.lt
 have Y:w6.heap.size<w9.heap.size:=F.x2.lt
 unfold pv
 go_upto_region 18 with fail
 refine (F.new3 _).cut ?_
 intro av F
 have db:=F.x3.boxC
 go_wp2_with fail
 refine (zah C A z j _ S9 q9 z9 0 cSemi _ X.out.fst F.m).mono ?_
 rintro e ao ⟨af,ad,aj,rfl,L,ag,ak⟩
 replace F:=F.stp ag ak
 clear db
 go_wp2_with fail
 refine (zh2 C A z j _ af ad aj 0 ⟨n9,sDefault,n6⟩ _ L.out F.m (zbx L.out)).mono ?_
 rintro e au ⟨ap,aq,ar,rfl,U,aa,ai⟩
 replace F:=F.stp aa ai
 have bb:=F.x1.boxC
 unfold pv
 go_wp2
 refine (F.x1.put ..).ret rfl rfl ?_
 rw[HV.out,←HQ.out,←zk8 (G:=fun b a=>zal C ⟨b,sDefault,a⟩) V.out X.out]
 exact (F.put1 ..).done rfl U.out
theorem zq7 (C:Cx) (J z j:Nat) (S:Sv) (q:PS) (w:World) (Y:Mem C J z j S q w) (hw:isT C q.pos 1 zao=true) (h1:isT C (q.pos+1) 4 zM=false) (h2:isT C (q.pos+1) 4 zy=false) (h3:zH C (q.pos+1) false=false):
  Calls Tryz.prog 106 #[pv C J z S q (-1) 0] w (Out C J z j (zaX C q) 0 S w):=by
 have HM:=zc Y
 have A:=Y.few
 clear Y
 have HV:Hid (zaX C q=bd (bd (.ok (adv q)) (zF C)) fun a=>zd C 4 cSemi a.1):=by
  show _=_
  rw[zaX,zd,if_pos hw,zC]
  rw[zz,h1,h2,h3]
  rfl
 unfold pv
 go_enter Tryz.func106,Tryz.ntmps106
 go_wp2_with fail
 refine (zaO C J z j (.ok q) S q (-1) 0 zao _ (zab q) ((HM.out.alloc _).alloc _)).mono ?_
 rintro e w1 ⟨U,L,z1,rfl,N,m1,s1⟩
 have F:=HM.out.fm2 m1 s1
 obtain⟨M,rfl⟩:=zdv N.out hw
 have HQ:=zc M
 have H:Hid (L.pos=q.pos+1):=by show L.pos=q.pos+1;rw[M];rfl
 clear M N
 have I:=F.x0.boxC
 unfold pv
 go_upto_region 2 with fail
 refine (F.put0 ..).cut ?_
 clear I
 intro w2 F
 have I:=F.x0.boxC
 go_wp2_with fail
 refine (zj C J z j U L (-1) 0 4 zM _ F.m.tok A (by decide)).mono ?_
 rintro e w3 ⟨rfl,aa⟩
 rw[H.out,h1]
 replace F:=F.below aa
 clear I
 have I:=F.x0.boxC
 go_wp2_with fail
 refine (zj C J z j U L (-1) 0 4 zy _ F.m.tok A (by decide)).mono ?_
 rintro e w4 ⟨rfl,Z⟩
 rw[H.out,h2]
 replace F:=F.below Z
 clear I
 have I:=F.x0.boxC
 go_wp2_with fail
 refine (zgl C J z j U L (-1) 0 false _ F.m.tok A).mono ?_
 rintro e w5 ⟨rfl,V⟩
 rw[H.out,h3]
 replace F:=F.below V
 clear I
 have I:=F.x0.boxC
 clear H
 go_wp2_with fail
 refine (zel C J z j (.ok L) U L (-1) 0 _ (zab L) F.m).mono ?_
 rintro e w6 ⟨S6,q6,z6,n6,rfl,O,m6,s6⟩
 replace F:=F.stp m6 s6
 clear I
 have ac:w.heap.size+1<w6.heap.size:=F.x1.lt
 unfold pv
 go_upto_region 20 with fail
 refine (F.new2 _).cut ?_
 intro w7 F
 have cb:=F.x2.boxC
 go_wp2_with fail
 refine (zah C J z j _ S6 q6 z6 0 cSemi _ O.out.fst F.m).mono ?_
 rintro e w8 ⟨S8,q8,z8,rfl,X,m8,s8⟩
 replace F:=F.stp m8 s8
 clear cb
 have bb:=F.x1.boxC
 unfold pv
 go_wp2
 refine (F.x1.put ..).ret rfl rfl ?_
 rw[HV.out,←HQ.out,←O.out.bind (fun q _=>zd C 4 cSemi q)]
 exact (F.put1 ..).done rfl X.out
theorem zq8 (C:Cx) (J A z:Nat) (S:Sv) (q:PS) (w:World) (hm:Mem C J A z S q w) (hw:isT C q.pos 1 zao=true) (h1:isT C (q.pos+1) 4 zM=true):
  Calls Tryz.prog 106 #[pv C J A S q (-1) 0] w (Out C J A z (zaX C q) 0 S w):=by
 have HM:=zc hm
 have ao:=hm.few
 clear hm
 have HV:Hid (zaX C q=bd (zcM C false (adv q)) fun a=>bd (zba C (zaI C (.ok a.1))) fun b=>zV (fun e=>zal C (zca b.2 e)) a.2 (.ok b.1)):=by
  show _=_
  rw[zaX,zd,if_pos hw,zC]
  rw[zz,h1]
  rfl
 unfold pv
 go_enter Tryz.func106,Tryz.ntmps106
 go_wp2_with fail
 refine (zaO C J A z (.ok q) S q (-1) 0 zao _ (zab q) ((HM.out.alloc _).alloc _)).mono ?_
 rintro e w1 ⟨S1,q1,z1,rfl,ad,m1,s1⟩
 have F:=HM.out.fm2 m1 s1
 obtain⟨Y,rfl⟩:=zdv ad.out hw
 have HQ:=zc Y
 have aa:Hid (q1.pos=q.pos+1):=by show q1.pos=q.pos+1;rw[Y];rfl
 clear Y ad
 have M:=F.x0.boxC
 unfold pv
 go_upto_region 2 with fail
 refine (F.put0 ..).cut ?_
 clear M
 intro w2 F
 have M:=F.x0.boxC
 go_wp2_with fail
 refine (zj C J A z S1 q1 (-1) 0 4 zM _ F.m.tok ao (by decide)).mono ?_
 rintro e w3 ⟨rfl,ay⟩
 rw[aa.out,h1]
 replace F:=F.below ay
 clear M
 have M:=F.x0.boxC
 clear aa
 have ar:=F.t.size
 go_wp2_with fail
 refine (zku C J A z S1 q1 0 false _ F.m).mono ?_
 rintro e w4 ⟨S4,q4,z4,⟨ra,rc⟩,l,rfl,i4,m4,s4,R0,hl⟩
 obtain⟨g,rfl⟩: ∃g,ra=some ⟨g,0,none⟩:=R0.addr
 replace F:=F.stp m4 s4
 have ag:=zc i4
 clear M
 have H:Hid (Row S4 w4 z w.heap.size ⟨some ⟨g,0,none⟩,rc⟩ l):=⟨R0.own,R0.free,fun k hk=>Nat.le_trans ar (R0.new k hk),R0.addr⟩
 clear R0
 have aC:w.heap.size+1<w4.heap.size:=F.x1.lt
 unfold pv
 go_upto_region 4 with fail
 refine (F.new2 _).cutR (RW:=fun W=>Row S4 W z w.heap.size ⟨some ⟨g,0,none⟩,rc⟩ l) (H.out.alloc _) ?_
 clear H
 intro w5 F R0
 have H:=zc R0
 clear R0
 obtain⟨c0,c1,c2,c3,c4,c5,c6,c7,c8,c9,au,az,cf⟩:=F.x2.box
 go_wp2_with fail
 refine (zaO C J A z _ S4 q4 z4 0 zY _ ag.out.fst F.m).mono ?_
 rintro e w6 ⟨S6,q6,z6,rfl,av,m6,s6⟩
 replace H:=zc (H.out.stp s6)
 replace F:=F.stp m6 s6
 clear c0 c1 c2 c3 c4 c5 c6 c7 c8 c9 au az cf
 go_wp2_with fail
 refine (zel C J A z _ S6 q6 z6 0 _ av.out F.m).mono ?_
 rintro e w7 ⟨S7,q7,z7,n7,rfl,ae,m7,s7⟩
 replace H:=zc (H.out.stp s7)
 replace F:=F.stp m7 s7
 have aB:w.heap.size+1<w7.heap.size:=F.x1.lt
 have ap:w4.heap.size<w7.heap.size:=F.x2.lt
 unfold pv
 go_upto_region 5 with fail
 refine (F.new3 _).cutR (RW:=fun W=>Row S7 W z w.heap.size ⟨some ⟨g,0,none⟩,rc⟩ l) (H.out.alloc _) ?_
 clear H
 intro w8 F R0
 have H:=zc R0
 clear R0
 obtain⟨d0,d1,d2,d3,d4,d5,d6,d7,d8,d9,Z,V,df⟩:=F.x3.box
 go_wp2_with fail
 refine (zah C J A z _ S7 q7 z7 0 cSemi _ ae.out.fst F.m).mono ?_
 rintro e w9 ⟨S9,q9,z9,rfl,L,m9,s9⟩
 replace H:=zc (H.out.stp s9)
 replace F:=F.stp m9 s9
 clear d0 d1 d2 d3 d4 d5 d6 d7 d8 d9 Z V df
 have M:=F.x0.boxC
 unfold pv
 go_upto_region 6 with fail
 refine (F.put0 ..).cutR (RW:=fun W=>Row S9 W z w.heap.size ⟨some ⟨g,0,none⟩,rc⟩ l) (H.out.put F.x0 ..) ?_
 clear M
 clear H
 intro al F R0
 have H:=zc R0
 clear R0
 have aw:Hid (_=_):=zhY (G:=fun b e=>zal C (zca b e)) ag.out ae.out
 go_wp2
 go_loopg [8] l.length (fun k i wr=>∃(j:Nat) (x':PR) (I:Sv) (N:PS) (z':Int),j≤l.length∧i= .int .i64 j∧Is x' N z'∧(z'<0→1≤N.pos)∧zV (fun e=>zal C (zca n7 e)) (l.drop j) x'=zaX C q∧l.length-j=k∧Mem C J A z I N wr∧SB w.heap.size S w I wr∧Bx J I wr w.heap.size #[.slice (some ⟨J,0,none⟩) C.ts.length A,.int .i64 N.pos,.int .i64 C.fin,.bool C.scr,.slice I.rq.a N.rq.length I.rq.cap,.slice I.im.a N.im.length I.im.cap,.slice I.ep.a N.ep.length I.ep.cap,.slice I.st.a N.st.length I.st.cap,.slice I.ex.a N.ex.length I.ex.cap,.slice I.la.a N.la.length I.la.cap,.int .i64 z',.int .i64 0]∧Bx J I wr (w.heap.size+1) #[.slice none 0 0,.int .i64 0,.int .i64 0,.bool false,.slice none 0 0,.slice none 0 0,.slice none 0 0,.slice none 0 0,.slice none 0 0,.slice none 0 0,.int .i64 0,.int .i64 0]∧Row I wr z w.heap.size ⟨some ⟨g,0,none⟩,rc⟩ l)
 case atStart=>exact⟨0,_,S9,q9,z9,Nat.zero_le _,rfl,L.out,zbx L.out,by rw[HV.out,←HQ.out];exact aw.out,rfl,F.m,F.t,F.x0,F.x1,H.out⟩
 case round=>
  obtain⟨j,x9,S9,q9,z9,hj,rfl,i9,p9,e9,g9,m9,t9,X0,X1,R0⟩:=hrel
  clear H
  have F:=Fm.of2 X0 X1 m9 t9 (by omega) (by omega) (by omega)
  have L:=zc i9
  have ah:=zc p9
  have ac:=zc e9
  have an:=zc g9
  have H:=zc R0
  clear X0 X1 i9 m9 t9 e9 g9 R0 p9
  by_cases af:j<l.length
  ·skip
   obtain⟨c1,c2⟩:=H.out.cells (g:=g) rfl af
   have aD:=H.out.own.lt (g:=g) rfl
   have HX:Hid (∀e,e=l[j]→zV (fun e=>zal C (zca n7 e)) (l.drop (j+1)) (bd x9 (zal C (zca n7 e)))=zaX C q):=fun e he=>by rw[he,←ac.out];exact (zgE (fun e=>zal C (zca n7 e)) l x9 af).symm
   generalize aj:l[j]=el at c1 c2
   have ax:Hid (el=l[j]):=aj.symm
   clear aj
   have M:=F.x0.boxC
   go_upto_region 9 with fail
   go_region_law (first|(go_simp;go_wp2_with (go_at_call 146;refine (zh2 C J A z x9 S9 q9 z9 0 (zca n7 el) _ L.out F.m.drew ah.out).mono ?_;rintro e al ⟨ai,aA,aq,rfl,ak,am,X⟩;obtain⟨d0,d1,d2,d3,d4,d5,d6,d7,d8,d9,Z,V,df⟩:=(F.x0.stp X.undrew).box;unfold pv)))
   all_goals
    clear M d0 d1 d2 d3 d4 d5 d6 d7 d8 d9 Z V df
    have U:=zc ak
    have O:Hid (Stp S9 wr ai al):=X.undrew
    replace F:=F.stp am O.out
    clear ak am X
    go_wp2
    go_roundg (gk-1)
    case rel=>exact⟨j+1,_,ai,aA,aq,by omega,by go_num,U.out,zq4 ah.out L.out U.out,HX.out el ax.out,by have:=an.out;omega,F.m.put F.x0 _ _ _ _ _ _ _ _ _ _ _ _,F.t.put (by omega) _ _ _ _ _ _ _ _ _ _ _ _,F.x0.put _ _ _ _ _ _ _ _ _ _ _ _,F.x1.other (by omega) _ _ _ _ _ _ _ _ _ _ _ _,(H.out.stp O.out).put F.x0 _ _ _ _ _ _ _ _ _ _ _ _⟩
    case measure=>have:=an.out;omega
  ·skip
   have M:=F.x0.boxC
   have bb:=F.x1.boxC
   go_wp2
   refine (F.x1.put ..).ret rfl rfl ?_
   exact (F.put1 ..).done rfl (show Is (zaX C q) q9 z9 from by rw[←ac.out,List.drop_eq_nil_of_le (by omega)];exact L.out)
theorem zq9 {C:Cx} {k:Int} {n:ByteArray} {q q':PS} (h:zU C k n q= .ok q'):q'={q with st:=q.st++[⟨k,n,(q.ex.length:Int)-1⟩]}∧q.st.length<80:=by
 unfold zU at h
 split at h
 ·cases h
 ·cases h
  exact⟨rfl,by omega⟩
theorem zk9 {C:Cx} {x:PR} {k:Int} {s:ByteArray} {j:Int} {n:ByteArray} {q:PS} {z:Int} (h:Is (bd (bd x (zd C k s)) (zU C j n)) q z):z<0→1≤q.pos:=by
 intro J
 obtain⟨e,_⟩:=zaH h J
 obtain⟨a,A,H⟩:=zf e
 obtain⟨b,_,I⟩:=zf A
 obtain⟨rfl,_⟩:=zbL I
 obtain⟨rfl,_⟩:=zq9 H
 simp[adv]
theorem zkA {C:Cx} {y:PRN} {G:PR→PR} {k:Int} {s:ByteArray} {j:Int} {q:PS} {z:Int} {n:ByteArray} (h:Is2 (withN y fun x n=>bd (bd (G x) (zd C k s)) (zU C j n)) q z n):z<0→1≤q.pos:=by
 intro I
 cases y with
 |error e=>have:z=(e:Int):=h;omega
 |ok a=>
  have A:Is2 (bd (bd (bd (G (.ok a.1)) (zd C k s)) (zU C j a.2)) fun q=>.ok (q,a.2)) q z n:=h
  cases H:bd (bd (G (.ok a.1)) (zd C k s)) (zU C j a.2) with
  |error e=>rw[H] at A;have:z=(e:Int):=A;omega
  |ok b=>
   rw[H] at A
   obtain⟨rfl,rfl,_⟩:=A
   exact zk9 (show Is (bd (bd (G (.ok a.1)) (zd C k s)) (zU C j a.2)) q (-1) by rw[H];exact⟨rfl,rfl⟩) (by decide)
theorem zqA {C:Cx} {j q:PS} {z:Int} {n:ByteArray} (h:Is2 (zc9 C j) q z n):z<0→1≤q.pos:=zkA (G:=fun x=>bd (bd x (zd C 4 cEq)) (pE C .sum 0)) h
theorem zqB {C:Cx} {j q:PS} {z:Int} {n:ByteArray} (h:Is2 (fnP C j) q z n):z<0→1≤q.pos:=zkA (G:=fun x=>bd (bd (bd (bd (bd (bd x (zd C 4 zr)) (zd C 4 za8)) (zd C 4 zM)) (zd C 1 zey)) (pE C .sum 0)) (zd C 4 cSemi)) h
theorem zqC {C:Cx} {x:PR} {J:PS} {A:Int} {z:ByteArray} {G:ByteArray→PS→PR} (j:Is2 (bd (bd x (zd C 1 zY)) (zF C)) J A z):
  bd (bd (zaR (bd (bd x (zd C 1 zY)) (zF C))) (zd C 4 cSemi)) (G z)=bd (zba C (zaI C x)) fun b=>G b.2 b.1:=by
 have H:bd (bd x (zd C 1 zY)) (zF C)=zaI C x:=rfl
 rw[H] at j ⊢
 cases I:zaI C x with
 |error e=>rfl
 |ok b=>
  rw[I] at j
  obtain⟨_,_,rfl⟩:=j
  show bd (zd C 4 cSemi b.1) (G b.2)=bd (bd (zd C 4 cSemi b.1) fun q=>.ok (q,b.2)) fun b=>G b.2 b.1
  rw[zP]
  rfl
theorem zqD {C:Cx} {y:PRL} {z:PS} {j:Int} {l:List Ep} {f:Ep→PS→PR} {D:PS×List Ep→PR} (H:Is3 y z j l) (I:zaF l=false) (A:(decide (j<0)&&isT C z.pos 1 zY)=false):
  zV f l (bd (zfI y) (zd C 4 cSemi))=bd y fun a=>if !zaF a.2&& !isT C a.1.pos 1 zY then bd (zd C 4 cSemi a.1) fun q=>zV f a.2 (.ok q) else D a:=by
 cases y with
 |error e=>exact zfH _ _ _
 |ok a=>
  obtain⟨rfl,rfl,rfl⟩:=H
  rw[Bool.and_eq_false_iff] at A
  rw[zC,I,A.resolve_left (by decide)]
  show zV f a.2 (zd C 4 cSemi a.1)=bd (zd C 4 cSemi a.1) fun q=>zV f a.2 (.ok q)
  cases zd C 4 cSemi a.1 with
  |error e=>exact zfH _ _ _
  |ok c=>rfl
theorem zkB {C:Cx} {y:PRL} {q:PS} {z:Int} {l:List Ep} {D E:PS×List Ep→PR} (A:Is3 y q z l) (j:zaF l=true∨(decide (z<0)&&isT C q.pos 1 zY)=true):
  bd y D=bd y fun a=>if !zaF a.2&& !isT C a.1.pos 1 zY then E a else D a:=by
 cases y with
 |error e=>rfl
 |ok a=>
  obtain⟨rfl,rfl,rfl⟩:=A
  rw[zC,zC]
  rcases j with h|h
  ·rw[h];rfl
  ·rw[Bool.and_eq_true] at h
   rw[h.2,Bool.not_true,Bool.and_false]
   rfl
theorem zqE (C:Cx) (A z j:Nat) (S:Sv) (q:PS) (w:World) (hm:Mem C A z j S q w) (hw:isT C q.pos 1 zaj=true) (h1:isT C (q.pos+1) 4 zM=false) (h2:isT C (q.pos+1) 4 zy=true):
  Calls Tryz.prog 107 #[pv C A z S q (-1) 0] w (Out C A z j (zam C q) 0 S w):=by
 have HM:=zc hm
 have H:=hm.few
 clear hm
 have HV:Hid (zam C q=bd (zba C (zaI C (bd (.ok (adv q)) (zd C 4 zy)))) fun b=>zq C ⟨3,sNone,sNone,b.2⟩ b.1):=by
  show _=_
  rw[zam,zd,if_pos hw,zC]
  rw[zz,h1,h2]
  rfl
 unfold pv
 go_enter Tryz.func107,Tryz.ntmps107
 go_wp2_with fail
 refine (zaO C A z j (.ok q) S q (-1) 0 zaj _ (zab q) ((HM.out.alloc _).alloc _)).mono ?_
 rintro e w1 ⟨S1,L,z1,rfl,N,m1,s1⟩
 have F:=HM.out.fm2 m1 s1
 obtain⟨I,rfl⟩:=zdv N.out hw
 have HQ:=zc I
 have J:Hid (L.pos=q.pos+1):=by show L.pos=q.pos+1;rw[I];rfl
 clear I N
 have M:=F.x0.boxC
 unfold pv
 go_upto_region 2 with fail
 refine (F.put0 ..).cut ?_
 clear M
 intro w2 F
 have M:=F.x0.boxC
 go_wp2_with fail
 refine (zj C A z j S1 L (-1) 0 4 zM _ F.m.tok H (by decide)).mono ?_
 rintro e w3 ⟨rfl,ad⟩
 rw[J.out,h1]
 replace F:=F.below ad
 clear M
 have M:=F.x0.boxC
 go_wp2_with fail
 refine (zj C A z j S1 L (-1) 0 4 zy _ F.m.tok H (by decide)).mono ?_
 rintro e w4 ⟨rfl,ac⟩
 rw[J.out,h2]
 replace F:=F.below ac
 clear M
 have M:=F.x0.boxC
 clear J
 go_wp2_with fail
 refine (zah C A z j (.ok L) S1 L (-1) 0 zy _ (zab L) F.m).mono ?_
 rintro e w5 ⟨S5,q5,z5,rfl,Y,m5,s5⟩
 replace F:=F.stp m5 s5
 clear M
 go_wp2_with fail
 refine (zaO C A z j _ S5 q5 z5 0 zY _ Y.out F.m).mono ?_
 rintro e w6 ⟨S6,q6,z6,rfl,X,m6,s6⟩
 replace F:=F.stp m6 s6
 go_wp2_with fail
 refine (zel C A z j _ S6 q6 z6 0 _ X.out F.m).mono ?_
 rintro e w7 ⟨S7,q7,z7,n7,rfl,U,m7,s7⟩
 replace F:=F.stp m7 s7
 have ae:w.heap.size+1<w7.heap.size:=F.x1.lt
 unfold pv
 go_upto_region 20 with fail
 refine (F.new2 _).cut ?_
 intro w8 F
 have cb:=F.x2.boxC
 go_wp2_with fail
 refine (zah C A z j _ S7 q7 z7 0 cSemi _ U.out.fst F.m).mono ?_
 rintro e w9 ⟨S9,q9,z9,rfl,V,m9,s9⟩
 replace F:=F.stp m9 s9
 clear cb
 go_wp2_with fail
 refine (zec C A z j _ S9 q9 z9 0 ⟨3,sNone,sNone,n7⟩ _ V.out F.m (zbx V.out)).mono ?_
 rintro e ah ⟨ag,ai,af,rfl,O,Z,aa⟩
 replace F:=F.stp Z aa
 have bb:=F.x1.boxC
 unfold pv
 go_wp2
 refine (F.x1.put ..).ret rfl rfl ?_
 rw[HV.out,←HQ.out,←zqC (G:=fun b=>zq C ⟨3,sNone,sNone,b⟩) U.out]
 exact (F.put1 ..).done rfl O.out
theorem zqF (C:Cx) (A z j:Nat) (S:Sv) (q:PS) (w:World) (hm:Mem C A z j S q w) (hw:isT C q.pos 1 zaj=true) (h1:isT C (q.pos+1) 4 zM=false) (h2:isT C (q.pos+1) 4 zy=false) (h3:isT C (q.pos+1) 1 sDefault=true):
  Calls Tryz.prog 107 #[pv C A z S q (-1) 0] w (Out C A z j (zam C q) 0 S w):=by
 have HM:=zc hm
 have H:=hm.few
 clear hm
 have HV:Hid (zam C q=bd (bd (bd (bd (bd (.ok (adv q)) (zd C 1 sDefault)) (pE C .sum 0)) (zd C 4 cSemi)) (zU C 1 zck)) (zq C ⟨1,sDefault,zck,sNone⟩)):=by
  show _=_
  rw[zam,zd,if_pos hw,zC]
  rw[zz,h1,h2,h3]
  rfl
 unfold pv
 go_enter Tryz.func107,Tryz.ntmps107
 go_wp2_with fail
 refine (zaO C A z j (.ok q) S q (-1) 0 zaj _ (zab q) ((HM.out.alloc _).alloc _)).mono ?_
 rintro e w1 ⟨X,M,z1,rfl,O,m1,s1⟩
 have F:=HM.out.fm2 m1 s1
 obtain⟨N,rfl⟩:=zdv O.out hw
 have HQ:=zc N
 have I:Hid (M.pos=q.pos+1):=by show M.pos=q.pos+1;rw[N];rfl
 clear N O
 have J:=F.x0.boxC
 unfold pv
 go_upto_region 2 with fail
 refine (F.put0 ..).cut ?_
 clear J
 intro w2 F
 have J:=F.x0.boxC
 go_wp2_with fail
 refine (zj C A z j X M (-1) 0 4 zM _ F.m.tok H (by decide)).mono ?_
 rintro e w3 ⟨rfl,aj⟩
 rw[I.out,h1]
 replace F:=F.below aj
 clear J
 have J:=F.x0.boxC
 go_wp2_with fail
 refine (zj C A z j X M (-1) 0 4 zy _ F.m.tok H (by decide)).mono ?_
 rintro e w4 ⟨rfl,af⟩
 rw[I.out,h2]
 replace F:=F.below af
 clear J
 have J:=F.x0.boxC
 go_wp2_with fail
 refine (zj C A z j X M (-1) 0 1 sDefault _ F.m.tok H (by decide)).mono ?_
 rintro e w5 ⟨rfl,aa⟩
 rw[I.out,h3]
 replace F:=F.below aa
 clear J
 have J:=F.x0.boxC
 clear I
 go_wp2_with fail
 refine (zaO C A z j (.ok M) X M (-1) 0 sDefault _ (zab M) F.m).mono ?_
 rintro e w6 ⟨S6,q6,z6,rfl,Z,m6,s6⟩
 replace F:=F.stp m6 s6
 clear J
 go_wp2_with fail
 refine (zdu C A z j _ S6 q6 z6 _ Z.out F.m).mono ?_
 rintro e w7 ⟨S7,q7,z7,rfl,ag,m7,s7⟩
 replace F:=F.stp m7 s7
 go_wp2_with fail
 refine (zah C A z j _ S7 q7 z7 0 cSemi _ ag.out F.m).mono ?_
 rintro e w8 ⟨S8,q8,z8,rfl,V,m8,s8⟩
 replace F:=F.stp m8 s8
 have al:w.heap.size+1<w8.heap.size:=F.x1.lt
 unfold pv
 go_upto_region 23 with fail
 refine (F.new2 _).cut ?_
 intro w9 F
 have cb:=F.x2.boxC
 go_wp2_with fail
 refine (zdl C A z j _ S8 q8 z8 0 1 zck _ V.out F.m (zbx V.out)).mono ?_
 rintro e aq ⟨ah,ak,Y,rfl,L,ac,ad⟩
 replace F:=F.stp ac ad
 clear cb
 go_wp2_with fail
 refine (zec C A z j _ ah ak Y 0 ⟨1,sDefault,zck,sNone⟩ _ L.out F.m (zk9 L.out)).mono ?_
 rintro e am ⟨ao,an,ap,rfl,U,ae,ai⟩
 replace F:=F.stp ae ai
 have bb:=F.x1.boxC
 unfold pv
 go_wp2
 refine (F.x1.put ..).ret rfl rfl ?_
 rw[HV.out,←HQ.out]
 exact (F.put1 ..).done rfl U.out
theorem zqG (C:Cx) (J z j:Nat) (S:Sv) (q:PS) (w:World) (Y:Mem C J z j S q w) (hw:isT C q.pos 1 zaj=true) (h1:isT C (q.pos+1) 4 zM=false) (h2:isT C (q.pos+1) 4 zy=false) (h3:isT C (q.pos+1) 1 sDefault=false) (h4:isT C (q.pos+1) 1 zG=true):
  Calls Tryz.prog 107 #[pv C J z S q (-1) 0] w (Out C J z j (zam C q) 0 S w):=by
 have HM:=zc Y
 have A:=Y.few
 clear Y
 have HV:Hid (zam C q=bd (zc9 C (adv q)) fun a=>zq C ⟨1,a.2,a.2,sNone⟩ a.1):=by
  show _=_
  rw[zam,zd,if_pos hw,zC]
  rw[zz,h1,h2,h3,h4]
  rfl
 unfold pv
 go_enter Tryz.func107,Tryz.ntmps107
 go_wp2_with fail
 refine (zaO C J z j (.ok q) S q (-1) 0 zaj _ (zab q) ((HM.out.alloc _).alloc _)).mono ?_
 rintro e w1 ⟨U,N,z1,rfl,O,m1,s1⟩
 have F:=HM.out.fm2 m1 s1
 obtain⟨L,rfl⟩:=zdv O.out hw
 have HQ:=zc L
 have H:Hid (N.pos=q.pos+1):=by show N.pos=q.pos+1;rw[L];rfl
 clear L O
 have I:=F.x0.boxC
 unfold pv
 go_upto_region 2 with fail
 refine (F.put0 ..).cut ?_
 clear I
 intro w2 F
 have I:=F.x0.boxC
 go_wp2_with fail
 refine (zj C J z j U N (-1) 0 4 zM _ F.m.tok A (by decide)).mono ?_
 rintro e w3 ⟨rfl,ac⟩
 rw[H.out,h1]
 replace F:=F.below ac
 clear I
 have I:=F.x0.boxC
 go_wp2_with fail
 refine (zj C J z j U N (-1) 0 4 zy _ F.m.tok A (by decide)).mono ?_
 rintro e w4 ⟨rfl,Z⟩
 rw[H.out,h2]
 replace F:=F.below Z
 clear I
 have I:=F.x0.boxC
 go_wp2_with fail
 refine (zj C J z j U N (-1) 0 1 sDefault _ F.m.tok A (by decide)).mono ?_
 rintro e w5 ⟨rfl,X⟩
 rw[H.out,h3]
 replace F:=F.below X
 clear I
 have I:=F.x0.boxC
 go_wp2_with fail
 refine (zj C J z j U N (-1) 0 1 zG _ F.m.tok A (by decide)).mono ?_
 rintro e w6 ⟨rfl,V⟩
 rw[H.out,h4]
 replace F:=F.below V
 clear I
 have I:=F.x0.boxC
 clear H
 go_wp2_with fail
 refine (zhW C J z j U N _ F.m).mono ?_
 rintro e w7 ⟨S7,q7,z7,n7,rfl,M,m7,s7⟩
 replace F:=F.stp m7 s7
 clear I
 have ad:w.heap.size+1<w7.heap.size:=F.x1.lt
 unfold pv
 go_upto_region 26 with fail
 refine (F.new2 _).cut ?_
 intro w8 F
 have cb:=F.x2.boxC
 go_wp2_with fail
 refine (zec C J z j _ S7 q7 z7 0 ⟨1,n7,n7,sNone⟩ _ M.out.fst F.m (zqA M.out)).mono ?_
 rintro e w9 ⟨S9,q9,z9,rfl,aa,m9,s9⟩
 replace F:=F.stp m9 s9
 clear cb
 have bb:=F.x1.boxC
 unfold pv
 go_wp2
 refine (F.x1.put ..).ret rfl rfl ?_
 rw[HV.out,←HQ.out,←M.out.bind (fun q n=>zq C ⟨1,n,n,sNone⟩ q)]
 exact (F.put1 ..).done rfl aa.out
theorem zqH (C:Cx) (J z j:Nat) (S:Sv) (q:PS) (w:World) (hm:Mem C J z j S q w) (hw:isT C q.pos 1 zaj=true) (h1:isT C (q.pos+1) 4 zM=false) (h2:isT C (q.pos+1) 4 zy=false) (h3:isT C (q.pos+1) 1 sDefault=false) (h4:isT C (q.pos+1) 1 zG=false) (h5:isT C (q.pos+1) 1 zX=true):
  Calls Tryz.prog 107 #[pv C J z S q (-1) 0] w (Out C J z j (zam C q) 0 S w):=by
 have HM:=zc hm
 have A:=hm.few
 clear hm
 have HV:Hid (zam C q=bd (fnP C (adv q)) fun a=>zq C ⟨1,a.2,a.2,sNone⟩ a.1):=by
  show _=_
  rw[zam,zd,if_pos hw,zC]
  rw[zz,h1,h2,h3,h4,h5]
  rfl
 unfold pv
 go_enter Tryz.func107,Tryz.ntmps107
 go_wp2_with fail
 refine (zaO C J z j (.ok q) S q (-1) 0 zaj _ (zab q) ((HM.out.alloc _).alloc _)).mono ?_
 rintro e w1 ⟨O,L,z1,rfl,U,m1,s1⟩
 have F:=HM.out.fm2 m1 s1
 obtain⟨M,rfl⟩:=zdv U.out hw
 have HQ:=zc M
 have H:Hid (L.pos=q.pos+1):=by show L.pos=q.pos+1;rw[M];rfl
 clear M U
 have I:=F.x0.boxC
 unfold pv
 go_upto_region 2 with fail
 refine (F.put0 ..).cut ?_
 clear I
 intro w2 F
 have I:=F.x0.boxC
 go_wp2_with fail
 refine (zj C J z j O L (-1) 0 4 zM _ F.m.tok A (by decide)).mono ?_
 rintro e w3 ⟨rfl,ae⟩
 rw[H.out,h1]
 replace F:=F.below ae
 clear I
 have I:=F.x0.boxC
 go_wp2_with fail
 refine (zj C J z j O L (-1) 0 4 zy _ F.m.tok A (by decide)).mono ?_
 rintro e w4 ⟨rfl,ad⟩
 rw[H.out,h2]
 replace F:=F.below ad
 clear I
 have I:=F.x0.boxC
 go_wp2_with fail
 refine (zj C J z j O L (-1) 0 1 sDefault _ F.m.tok A (by decide)).mono ?_
 rintro e w5 ⟨rfl,Y⟩
 rw[H.out,h3]
 replace F:=F.below Y
 clear I
 have I:=F.x0.boxC
 go_wp2_with fail
 refine (zj C J z j O L (-1) 0 1 zG _ F.m.tok A (by decide)).mono ?_
 rintro e w6 ⟨rfl,X⟩
 rw[H.out,h4]
 replace F:=F.below X
 clear I
 have I:=F.x0.boxC
 go_wp2_with fail
 refine (zj C J z j O L (-1) 0 1 zX _ F.m.tok A (by decide)).mono ?_
 rintro e w7 ⟨rfl,ac⟩
 rw[H.out,h5]
 replace F:=F.below ac
 clear I
 have I:=F.x0.boxC
 clear H
 go_wp2_with fail
 refine (zhX C J z j O L _ F.m).mono ?_
 rintro e w8 ⟨S8,q8,z8,n8,rfl,N,m8,s8⟩
 replace F:=F.stp m8 s8
 clear I
 have af:w.heap.size+1<w8.heap.size:=F.x1.lt
 unfold pv
 go_upto_region 29 with fail
 refine (F.new2 _).cut ?_
 intro w9 F
 have cb:=F.x2.boxC
 go_wp2_with fail
 refine (zec C J z j _ S8 q8 z8 0 ⟨1,n8,n8,sNone⟩ _ N.out.fst F.m (zqB N.out)).mono ?_
 rintro e ai ⟨ah,aj,ag,rfl,V,Z,aa⟩
 replace F:=F.stp Z aa
 clear cb
 have bb:=F.x1.boxC
 unfold pv
 go_wp2
 refine (F.x1.put ..).ret rfl rfl ?_
 rw[HV.out,←HQ.out,←N.out.bind (fun q n=>zq C ⟨1,n,n,sNone⟩ q)]
 exact (F.put1 ..).done rfl V.out
theorem zqI (C:Cx) (L z j:Nat) (S:Sv) (q:PS) (w:World) (Y:Mem C L z j S q w) (hw:isT C q.pos 1 zaj=true) (h1:isT C (q.pos+1) 4 zM=false) (h2:isT C (q.pos+1) 4 zy=false) (h3:isT C (q.pos+1) 1 sDefault=false) (h4:isT C (q.pos+1) 1 zG=false) (h5:isT C (q.pos+1) 1 zX=false):
  Calls Tryz.prog 107 #[pv C L z S q (-1) 0] w (Out C L z j (zam C q) 0 S w):=by
 have HM:=zc Y
 have A:=Y.few
 clear Y
 have HV:Hid (zam C q= .error (zu C (adv q).pos)):=by
  show _=_
  rw[zam,zd,if_pos hw,zC]
  rw[zz,h1,h2,h3,h4,h5]
  rfl
 unfold pv
 go_enter Tryz.func107,Tryz.ntmps107
 go_wp2_with fail
 refine (zaO C L z j (.ok q) S q (-1) 0 zaj _ (zab q) ((HM.out.alloc _).alloc _)).mono ?_
 rintro e w1 ⟨N,J,z1,rfl,O,m1,s1⟩
 have F:=HM.out.fm2 m1 s1
 obtain⟨M,rfl⟩:=zdv O.out hw
 have HQ:=zc M
 have H:Hid (J.pos=q.pos+1):=by show J.pos=q.pos+1;rw[M];rfl
 clear M O
 have I:=F.x0.boxC
 unfold pv
 go_upto_region 2 with fail
 refine (F.put0 ..).cut ?_
 clear I
 intro w2 F
 have I:=F.x0.boxC
 go_wp2_with fail
 refine (zj C L z j N J (-1) 0 4 zM _ F.m.tok A (by decide)).mono ?_
 rintro e w3 ⟨rfl,ac⟩
 rw[H.out,h1]
 replace F:=F.below ac
 clear I
 have I:=F.x0.boxC
 go_wp2_with fail
 refine (zj C L z j N J (-1) 0 4 zy _ F.m.tok A (by decide)).mono ?_
 rintro e w4 ⟨rfl,aa⟩
 rw[H.out,h2]
 replace F:=F.below aa
 clear I
 have I:=F.x0.boxC
 go_wp2_with fail
 refine (zj C L z j N J (-1) 0 1 sDefault _ F.m.tok A (by decide)).mono ?_
 rintro e w5 ⟨rfl,V⟩
 rw[H.out,h3]
 replace F:=F.below V
 clear I
 have I:=F.x0.boxC
 go_wp2_with fail
 refine (zj C L z j N J (-1) 0 1 zG _ F.m.tok A (by decide)).mono ?_
 rintro e w6 ⟨rfl,U⟩
 rw[H.out,h4]
 replace F:=F.below U
 clear I
 have I:=F.x0.boxC
 go_wp2_with fail
 refine (zj C L z j N J (-1) 0 1 zX _ F.m.tok A (by decide)).mono ?_
 rintro e w7 ⟨rfl,X⟩
 rw[H.out,h5]
 replace F:=F.below X
 clear I
 have I:=F.x0.boxC
 clear H
 go_wp2_with fail
 refine (zd1 C L z j N J (-1) 0 _ F.m.tok A).mono ?_
 rintro e w8 ⟨rfl,Z⟩
 replace F:=F.below Z
 clear I
 have bb:=F.x1.boxC
 unfold pv
 go_wp2
 refine (F.x1.put ..).ret rfl rfl ?_
 rw[HV.out,←HQ.out]
 exact (F.put1 ..).done rfl (show Is (.error (zu C J.pos)) J _ from rfl)
theorem zqJ (C:Cx) (M I z:Nat) (S:Sv) (q:PS) (w:World) (hm:Mem C M I z S q w) (hw:isT C q.pos 1 zaj=true) (h1:isT C (q.pos+1) 4 zM=true):
  Calls Tryz.prog 107 #[pv C M I S q (-1) 0] w (Out C M I z (zam C q) 0 S w):=by
 have HM:=zc hm
 have au:=hm.few
 clear hm
 have HV:Hid (zam C q=bd (zcM C true (adv q)) fun a=>if !zaF a.2&& !isT C a.1.pos 1 zY then bd (zd C 4 cSemi a.1) fun q=>zV (fun e=>zq C (zD e)) a.2 (.ok q) else bd (zba C (zaI C (.ok a.1))) fun b=>zV (fun e=>zq C (zap b.2 e)) a.2 (.ok b.1)):=by
  show _=_
  rw[zam,zd,if_pos hw,zC]
  rw[zz,h1]
  rfl
 unfold pv
 go_enter Tryz.func107,Tryz.ntmps107
 go_wp2_with fail
 refine (zaO C M I z (.ok q) S q (-1) 0 zaj _ (zab q) ((HM.out.alloc _).alloc _)).mono ?_
 rintro e w1 ⟨S1,q1,z1,rfl,aA,m1,s1⟩
 have F:=HM.out.fm2 m1 s1
 obtain⟨aw,rfl⟩:=zdv aA.out hw
 have HQ:=zc aw
 have ay:Hid (q1.pos=q.pos+1):=by show q1.pos=q.pos+1;rw[aw];rfl
 clear aw aA
 have Y:=F.x0.boxC
 unfold pv
 go_upto_region 2 with fail
 refine (F.put0 ..).cut ?_
 clear Y
 intro w2 F
 have ax:Hid (zam C q=bd (zcM C true q1) fun a=>if !zaF a.2&& !isT C a.1.pos 1 zY then bd (zd C 4 cSemi a.1) fun q=>zV (fun e=>zq C (zD e)) a.2 (.ok q) else bd (zba C (zaI C (.ok a.1))) fun b=>zV (fun e=>zq C (zap b.2 e)) a.2 (.ok b.1)):=by show _=_;rw[HQ.out];exact HV.out
 have Y:=F.x0.boxC
 go_wp2_with fail
 refine (zj C M I z S1 q1 (-1) 0 4 zM _ F.m.tok au (by decide)).mono ?_
 rintro e w3 ⟨rfl,aF⟩
 rw[ay.out,h1]
 replace F:=F.below aF
 clear Y
 have Y:=F.x0.boxC
 clear ay
 have aD:=F.t.size
 go_wp2_with fail
 refine (zku C M I z S1 q1 0 true _ F.m).mono ?_
 rintro e w4 ⟨S4,q4,z4,⟨ra,rc⟩,l,rfl,i4,m4,s4,R0,hl⟩
 obtain⟨g,rfl⟩: ∃g,ra=some ⟨g,0,none⟩:=R0.addr
 replace F:=F.stp m4 s4
 have ag:=zc i4
 clear Y
 have A:Hid (Row S4 w4 z w.heap.size ⟨some ⟨g,0,none⟩,rc⟩ l):=⟨R0.own,R0.free,fun k hk=>Nat.le_trans aD (R0.new k hk),R0.addr⟩
 clear R0
 have aG:w.heap.size+1<w4.heap.size:=F.x1.lt
 unfold pv
 go_upto_region 4 with fail
 refine (F.new2 _).cutR (RW:=fun W=>Row S4 W z w.heap.size ⟨some ⟨g,0,none⟩,rc⟩ l) (A.out.alloc _) ?_
 clear A
 intro w5 F R0
 have A:=zc R0
 clear R0
 cases hA:zaF l with
 |true=>
  skip
  obtain⟨c0,c1,c2,c3,c4,c5,c6,c7,c8,c9,aa,ac,cf⟩:=F.x2.box
  go_wp2_with fail
  refine (zaO C M I z _ S4 q4 z4 0 zY _ ag.out.fst F.m).mono ?_
  rintro e w6 ⟨S6,q6,z6,rfl,aE,m6,s6⟩
  replace A:=zc (A.out.stp s6)
  replace F:=F.stp m6 s6
  clear c0 c1 c2 c3 c4 c5 c6 c7 c8 c9 aa ac cf
  go_wp2_with fail
  refine (zel C M I z _ S6 q6 z6 0 _ aE.out F.m).mono ?_
  rintro e w7 ⟨S7,q7,z7,n7,rfl,am,m7,s7⟩
  replace A:=zc (A.out.stp s7)
  replace F:=F.stp m7 s7
  have aB:w.heap.size+1<w7.heap.size:=F.x1.lt
  have av:w4.heap.size<w7.heap.size:=F.x2.lt
  unfold pv
  go_upto_region 12 with fail
  refine (F.new3 _).cutR (RW:=fun W=>Row S7 W z w.heap.size ⟨some ⟨g,0,none⟩,rc⟩ l) (A.out.alloc _) ?_
  clear A
  intro w8 F R0
  have A:=zc R0
  clear R0
  obtain⟨d0,d1,d2,d3,d4,d5,d6,d7,d8,d9,ad,Z,df⟩:=F.x3.box
  go_wp2_with fail
  refine (zah C M I z _ S7 q7 z7 0 cSemi _ am.out.fst F.m).mono ?_
  rintro e w9 ⟨S9,q9,z9,rfl,O,m9,s9⟩
  replace A:=zc (A.out.stp s9)
  replace F:=F.stp m9 s9
  clear d0 d1 d2 d3 d4 d5 d6 d7 d8 d9 ad Z df
  have Y:=F.x0.boxC
  unfold pv
  go_upto_region 13 with fail
  refine (F.put0 ..).cutR (RW:=fun W=>Row S9 W z w.heap.size ⟨some ⟨g,0,none⟩,rc⟩ l) (A.out.put F.x0 ..) ?_
  clear Y
  clear A
  intro an F R0
  have A:=zc R0
  clear R0
  have ap:Hid (_=zam C q):=(zhY (G:=fun b e=>zq C (zap b e)) ag.out am.out).trans ((zkB ag.out (.inl hA)).trans ax.out.symm)
  go_wp2
  go_loopg [9] l.length (fun k i wr=>∃(j:Nat) (x':PR) (H:Sv) (L:PS) (z':Int),j≤l.length∧i= .int .i64 j∧Is x' L z'∧(z'<0→1≤L.pos)∧zV (fun e=>zq C (zap n7 e)) (l.drop j) x'=zam C q∧l.length-j=k∧Mem C M I z H L wr∧SB w.heap.size S w H wr∧Bx M H wr w.heap.size #[.slice (some ⟨M,0,none⟩) C.ts.length I,.int .i64 L.pos,.int .i64 C.fin,.bool C.scr,.slice H.rq.a L.rq.length H.rq.cap,.slice H.im.a L.im.length H.im.cap,.slice H.ep.a L.ep.length H.ep.cap,.slice H.st.a L.st.length H.st.cap,.slice H.ex.a L.ex.length H.ex.cap,.slice H.la.a L.la.length H.la.cap,.int .i64 z',.int .i64 0]∧Bx M H wr (w.heap.size+1) #[.slice none 0 0,.int .i64 0,.int .i64 0,.bool false,.slice none 0 0,.slice none 0 0,.slice none 0 0,.slice none 0 0,.slice none 0 0,.slice none 0 0,.int .i64 0,.int .i64 0]∧Row H wr z w.heap.size ⟨some ⟨g,0,none⟩,rc⟩ l)
  case atStart=>exact⟨0,_,S9,q9,z9,Nat.zero_le _,rfl,O.out,zbx O.out,ap.out,rfl,F.m,F.t,F.x0,F.x1,A.out⟩
  case round=>
   obtain⟨j,x9,S9,q9,z9,hj,rfl,i9,p9,e9,g9,m9,t9,X0,X1,R0⟩:=hrel
   clear A
   have F:=Fm.of2 X0 X1 m9 t9 (by omega) (by omega) (by omega)
   have O:=zc i9
   have ah:=zc p9
   have ae:=zc e9
   have ak:=zc g9
   have A:=zc R0
   clear X0 X1 i9 m9 t9 e9 g9 R0 p9
   by_cases af:j<l.length
   ·skip
    obtain⟨c1,c2⟩:=A.out.cells (g:=g) rfl af
    have az:=A.out.own.lt (g:=g) rfl
    have HX:Hid (∀e,e=l[j]→zV (fun e=>zq C (zap n7 e)) (l.drop (j+1)) (bd x9 (zq C (zap n7 e)))=zam C q):=fun e he=>by rw[he,←ae.out];exact (zgE (fun e=>zq C (zap n7 e)) l x9 af).symm
    generalize ai:l[j]=el at c1 c2
    have aq:Hid (el=l[j]):=ai.symm
    clear ai
    have Y:=F.x0.boxC
    go_upto_region 16 with fail
    go_region_law (first|(go_simp;go_wp2_with (go_at_call 148;refine (zec C M I z x9 S9 q9 z9 0 (zap n7 el) _ O.out F.m.drew ah.out).mono ?_;rintro e an ⟨V,ao,al,rfl,aj,X,N⟩;obtain⟨d0,d1,d2,d3,d4,d5,d6,d7,d8,d9,ad,Z,df⟩:=(F.x0.stp N.undrew).box;unfold pv)))
    all_goals
     clear Y d0 d1 d2 d3 d4 d5 d6 d7 d8 d9 ad Z df
     have J:=zc aj
     have U:Hid (Stp S9 wr V an):=N.undrew
     replace F:=F.stp X U.out
     clear aj X N
     go_wp2
     go_roundg (gk-1)
     case rel=>exact⟨j+1,_,V,ao,al,by omega,by go_num,J.out,zhZ ah.out O.out J.out,HX.out el aq.out,by have:=ak.out;omega,F.m.put F.x0 _ _ _ _ _ _ _ _ _ _ _ _,F.t.put (by omega) _ _ _ _ _ _ _ _ _ _ _ _,F.x0.put _ _ _ _ _ _ _ _ _ _ _ _,F.x1.other (by omega) _ _ _ _ _ _ _ _ _ _ _ _,(A.out.stp U.out).put F.x0 _ _ _ _ _ _ _ _ _ _ _ _⟩
     case measure=>have:=ak.out;omega
   ·skip
    have Y:=F.x0.boxC
    have bb:=F.x1.boxC
    go_wp2
    refine (F.x1.put ..).ret rfl rfl ?_
    exact (F.put1 ..).done rfl (show Is (zam C q) q9 z9 from by rw[←ae.out,List.drop_eq_nil_of_le (by omega)];exact O.out)
 |false=>
  cases hF:(decide (z4<0)&&isT C q4.pos 1 zY) with
  |true=>
   obtain⟨c0,c1,c2,c3,c4,c5,c6,c7,c8,c9,aa,ac,cf⟩:=F.x2.box
   go_wp2_with fail
   refine (zj C M I z S4 q4 z4 0 1 zY _ F.m.tok au (by decide)).mono ?_
   rintro e w6 ⟨rfl,ar⟩
   rw[hF]
   replace A:=zc (A.out.below ar)
   replace F:=F.below ar
   clear c0 c1 c2 c3 c4 c5 c6 c7 c8 c9 aa ac cf
   obtain⟨c0,c1,c2,c3,c4,c5,c6,c7,c8,c9,aa,ac,cf⟩:=F.x2.box
   go_wp2_with fail
   refine (zaO C M I z _ S4 q4 z4 0 zY _ ag.out.fst F.m).mono ?_
   rintro e w7 ⟨S7,q7,z7,rfl,am,m7,s7⟩
   replace A:=zc (A.out.stp s7)
   replace F:=F.stp m7 s7
   clear c0 c1 c2 c3 c4 c5 c6 c7 c8 c9 aa ac cf
   go_wp2_with fail
   refine (zel C M I z _ S7 q7 z7 0 _ am.out F.m).mono ?_
   rintro e w8 ⟨S8,q8,z8,n8,rfl,aC,m8,s8⟩
   replace A:=zc (A.out.stp s8)
   replace F:=F.stp m8 s8
   have aB:w.heap.size+1<w8.heap.size:=F.x1.lt
   have av:w4.heap.size<w8.heap.size:=F.x2.lt
   unfold pv
   go_upto_region 12 with fail
   refine (F.new3 _).cutR (RW:=fun W=>Row S8 W z w.heap.size ⟨some ⟨g,0,none⟩,rc⟩ l) (A.out.alloc _) ?_
   clear A
   intro w9 F R0
   have A:=zc R0
   clear R0
   obtain⟨d0,d1,d2,d3,d4,d5,d6,d7,d8,d9,ad,Z,df⟩:=F.x3.box
   go_wp2_with fail
   refine (zah C M I z _ S8 q8 z8 0 cSemi _ aC.out.fst F.m).mono ?_
   rintro e an ⟨V,ao,al,rfl,J,X,N⟩
   replace A:=zc (A.out.stp N)
   replace F:=F.stp X N
   clear d0 d1 d2 d3 d4 d5 d6 d7 d8 d9 ad Z df
   have Y:=F.x0.boxC
   unfold pv
   go_upto_region 13 with fail
   refine (F.put0 ..).cutR (RW:=fun W=>Row V W z w.heap.size ⟨some ⟨g,0,none⟩,rc⟩ l) (A.out.put F.x0 ..) ?_
   clear Y
   clear A
   intro aH F R0
   have A:=zc R0
   clear R0
   have ap:Hid (_=zam C q):=(zhY (G:=fun b e=>zq C (zap b e)) ag.out aC.out).trans ((zkB ag.out (.inr hF)).trans ax.out.symm)
   go_wp2
   go_loopg [9] l.length (fun k i wr=>∃(j:Nat) (x':PR) (H:Sv) (L:PS) (z':Int),j≤l.length∧i= .int .i64 j∧Is x' L z'∧(z'<0→1≤L.pos)∧zV (fun e=>zq C (zap n8 e)) (l.drop j) x'=zam C q∧l.length-j=k∧Mem C M I z H L wr∧SB w.heap.size S w H wr∧Bx M H wr w.heap.size #[.slice (some ⟨M,0,none⟩) C.ts.length I,.int .i64 L.pos,.int .i64 C.fin,.bool C.scr,.slice H.rq.a L.rq.length H.rq.cap,.slice H.im.a L.im.length H.im.cap,.slice H.ep.a L.ep.length H.ep.cap,.slice H.st.a L.st.length H.st.cap,.slice H.ex.a L.ex.length H.ex.cap,.slice H.la.a L.la.length H.la.cap,.int .i64 z',.int .i64 0]∧Bx M H wr (w.heap.size+1) #[.slice none 0 0,.int .i64 0,.int .i64 0,.bool false,.slice none 0 0,.slice none 0 0,.slice none 0 0,.slice none 0 0,.slice none 0 0,.slice none 0 0,.int .i64 0,.int .i64 0]∧Row H wr z w.heap.size ⟨some ⟨g,0,none⟩,rc⟩ l)
   case atStart=>exact⟨0,_,V,ao,al,Nat.zero_le _,rfl,J.out,zbx J.out,ap.out,rfl,F.m,F.t,F.x0,F.x1,A.out⟩
   case round=>
    obtain⟨j,x9,S9,q9,z9,hj,rfl,i9,p9,e9,g9,m9,t9,X0,X1,R0⟩:=hrel
    clear A
    have F:=Fm.of2 X0 X1 m9 t9 (by omega) (by omega) (by omega)
    have O:=zc i9
    have ah:=zc p9
    have ae:=zc e9
    have ak:=zc g9
    have A:=zc R0
    clear X0 X1 i9 m9 t9 e9 g9 R0 p9
    by_cases af:j<l.length
    ·skip
     obtain⟨c1,c2⟩:=A.out.cells (g:=g) rfl af
     have az:=A.out.own.lt (g:=g) rfl
     have HX:Hid (∀e,e=l[j]→zV (fun e=>zq C (zap n8 e)) (l.drop (j+1)) (bd x9 (zq C (zap n8 e)))=zam C q):=fun e he=>by rw[he,←ae.out];exact (zgE (fun e=>zq C (zap n8 e)) l x9 af).symm
     generalize ai:l[j]=el at c1 c2
     have aq:Hid (el=l[j]):=ai.symm
     clear ai
     have Y:=F.x0.boxC
     go_upto_region 16 with fail
     go_region_law (first|(go_simp;go_wp2_with (go_at_call 148;refine (zec C M I z x9 S9 q9 z9 0 (zap n8 el) _ O.out F.m.drew ah.out).mono ?_;rintro e an ⟨V,ao,al,rfl,aj,X,N⟩;obtain⟨d0,d1,d2,d3,d4,d5,d6,d7,d8,d9,ad,Z,df⟩:=(F.x0.stp N.undrew).box;unfold pv)))
     all_goals
      clear Y d0 d1 d2 d3 d4 d5 d6 d7 d8 d9 ad Z df
      have J:=zc aj
      have U:Hid (Stp S9 wr V an):=N.undrew
      replace F:=F.stp X U.out
      clear aj X N
      go_wp2
      go_roundg (gk-1)
      case rel=>exact⟨j+1,_,V,ao,al,by omega,by go_num,J.out,zhZ ah.out O.out J.out,HX.out el aq.out,by have:=ak.out;omega,F.m.put F.x0 _ _ _ _ _ _ _ _ _ _ _ _,F.t.put (by omega) _ _ _ _ _ _ _ _ _ _ _ _,F.x0.put _ _ _ _ _ _ _ _ _ _ _ _,F.x1.other (by omega) _ _ _ _ _ _ _ _ _ _ _ _,(A.out.stp U.out).put F.x0 _ _ _ _ _ _ _ _ _ _ _ _⟩
      case measure=>have:=ak.out;omega
    ·skip
     have Y:=F.x0.boxC
     have bb:=F.x1.boxC
     go_wp2
     refine (F.x1.put ..).ret rfl rfl ?_
     exact (F.put1 ..).done rfl (show Is (zam C q) q9 z9 from by rw[←ae.out,List.drop_eq_nil_of_le (by omega)];exact O.out)
  |false=>
   obtain⟨c0,c1,c2,c3,c4,c5,c6,c7,c8,c9,aa,ac,cf⟩:=F.x2.box
   go_wp2_with fail
   refine (zj C M I z S4 q4 z4 0 1 zY _ F.m.tok au (by decide)).mono ?_
   rintro e w6 ⟨rfl,ar⟩
   rw[hF]
   replace A:=zc (A.out.below ar)
   replace F:=F.below ar
   clear c0 c1 c2 c3 c4 c5 c6 c7 c8 c9 aa ac cf
   obtain⟨c0,c1,c2,c3,c4,c5,c6,c7,c8,c9,aa,ac,cf⟩:=F.x2.box
   go_wp2_with fail
   refine (zah C M I z _ S4 q4 z4 0 cSemi _ ag.out.fst F.m).mono ?_
   rintro e w7 ⟨S7,q7,z7,rfl,am,m7,s7⟩
   replace A:=zc (A.out.stp s7)
   replace F:=F.stp m7 s7
   clear c0 c1 c2 c3 c4 c5 c6 c7 c8 c9 aa ac cf
   have Y:=F.x0.boxC
   unfold pv
   go_upto_region 6 with fail
   refine (F.put0 ..).cutR (RW:=fun W=>Row S7 W z w.heap.size ⟨some ⟨g,0,none⟩,rc⟩ l) (A.out.put F.x0 ..) ?_
   clear Y
   clear A
   intro w8 F R0
   have A:=zc R0
   clear R0
   have ap:Hid (_=zam C q):=(zqD ag.out hA hF).trans ax.out.symm
   go_wp2
   go_loopg [6] l.length (fun k i wr=>∃(j:Nat) (x':PR) (H:Sv) (L:PS) (z':Int),j≤l.length∧i= .int .i64 j∧Is x' L z'∧(z'<0→1≤L.pos)∧zV (fun e=>zq C (zD e)) (l.drop j) x'=zam C q∧l.length-j=k∧Mem C M I z H L wr∧SB w.heap.size S w H wr∧Bx M H wr w.heap.size #[.slice (some ⟨M,0,none⟩) C.ts.length I,.int .i64 L.pos,.int .i64 C.fin,.bool C.scr,.slice H.rq.a L.rq.length H.rq.cap,.slice H.im.a L.im.length H.im.cap,.slice H.ep.a L.ep.length H.ep.cap,.slice H.st.a L.st.length H.st.cap,.slice H.ex.a L.ex.length H.ex.cap,.slice H.la.a L.la.length H.la.cap,.int .i64 z',.int .i64 0]∧Bx M H wr (w.heap.size+1) #[.slice none 0 0,.int .i64 0,.int .i64 0,.bool false,.slice none 0 0,.slice none 0 0,.slice none 0 0,.slice none 0 0,.slice none 0 0,.slice none 0 0,.int .i64 0,.int .i64 0]∧Row H wr z w.heap.size ⟨some ⟨g,0,none⟩,rc⟩ l)
   case atStart=>exact⟨0,_,S7,q7,z7,Nat.zero_le _,rfl,am.out,zbx am.out,ap.out,rfl,F.m,F.t,F.x0,F.x1,A.out⟩
   case round=>
    obtain⟨j,x9,S9,q9,z9,hj,rfl,i9,p9,e9,g9,m9,t9,X0,X1,R0⟩:=hrel
    clear A
    have F:=Fm.of2 X0 X1 m9 t9 (by omega) (by omega) (by omega)
    have O:=zc i9
    have ah:=zc p9
    have ae:=zc e9
    have ak:=zc g9
    have A:=zc R0
    clear X0 X1 i9 m9 t9 e9 g9 R0 p9
    by_cases af:j<l.length
    ·skip
     obtain⟨c1,c2⟩:=A.out.cells (g:=g) rfl af
     have az:=A.out.own.lt (g:=g) rfl
     have HX:Hid (∀e,e=l[j]→zV (fun e=>zq C (zD e)) (l.drop (j+1)) (bd x9 (zq C (zD e)))=zam C q):=fun e he=>by rw[he,←ae.out];exact (zgE (fun e=>zq C (zD e)) l x9 af).symm
     generalize ai:l[j]=el at c1 c2
     have aq:Hid (el=l[j]):=ai.symm
     clear ai
     have Y:=F.x0.boxC
     go_upto_region 9 with fail
     go_region_law (first|(go_simp;go_wp2_with (go_at_call 148;refine (zec C M I z x9 S9 q9 z9 0 (zD el) _ O.out F.m.drew ah.out).mono ?_;rintro e an ⟨V,ao,al,rfl,aj,X,N⟩;obtain⟨d0,d1,d2,d3,d4,d5,d6,d7,d8,d9,ad,Z,df⟩:=(F.x0.stp N.undrew).box;unfold pv)))
     all_goals
      clear Y d0 d1 d2 d3 d4 d5 d6 d7 d8 d9 ad Z df
      have J:=zc aj
      have U:Hid (Stp S9 wr V an):=N.undrew
      replace F:=F.stp X U.out
      clear aj X N
      go_wp2
      go_roundg (gk-1)
      case rel=>exact⟨j+1,_,V,ao,al,by omega,by go_num,J.out,zhZ ah.out O.out J.out,HX.out el aq.out,by have:=ak.out;omega,F.m.put F.x0 _ _ _ _ _ _ _ _ _ _ _ _,F.t.put (by omega) _ _ _ _ _ _ _ _ _ _ _ _,F.x0.put _ _ _ _ _ _ _ _ _ _ _ _,F.x1.other (by omega) _ _ _ _ _ _ _ _ _ _ _ _,(A.out.stp U.out).put F.x0 _ _ _ _ _ _ _ _ _ _ _ _⟩
      case measure=>have:=ak.out;omega
    ·skip
     have Y:=F.x0.boxC
     have bb:=F.x1.boxC
     go_wp2
     refine (F.x1.put ..).ret rfl rfl ?_
     exact (F.put1 ..).done rfl (show Is (zam C q) q9 z9 from by rw[←ae.out,List.drop_eq_nil_of_le (by omega)];exact O.out)
theorem zqK (C:Cx) (A z j:Nat) (S:Sv) (q:PS) (w:World) (I:Mem C A z j S q w) (H:isT C q.pos 1 zao=true):
  Calls Tryz.prog 106 #[pv C A z S q (-1) 0] w (Out C A z j (zaX C q) 0 S w):=by
 cases J:isT C (q.pos+1) 4 zM with
 |true=>exact zq8 C A z j S q w I H J
 |false=>
  cases L:isT C (q.pos+1) 4 zy with
  |true=>exact zq5 C A z j S q w I H J L
  |false=>
   cases M:zH C (q.pos+1) false with
   |true=>exact zq6 C A z j S q w I H J L M
   |false=>exact zq7 C A z j S q w I H J L M
theorem zqL (C:Cx) (A z j:Nat) (S:Sv) (q:PS) (w:World) (I:Mem C A z j S q w) (H:isT C q.pos 1 zaj=true):
  Calls Tryz.prog 107 #[pv C A z S q (-1) 0] w (Out C A z j (zam C q) 0 S w):=by
 cases J:isT C (q.pos+1) 4 zM with
 |true=>exact zqJ C A z j S q w I H J
 |false=>
  cases L:isT C (q.pos+1) 4 zy with
  |true=>exact zqE C A z j S q w I H J L
  |false=>
   cases M:isT C (q.pos+1) 1 sDefault with
   |true=>exact zqF C A z j S q w I H J L M
   |false=>
    cases N:isT C (q.pos+1) 1 zG with
    |true=>exact zqG C A z j S q w I H J L M N
    |false=>
     cases O:isT C (q.pos+1) 1 zX with
     |true=>exact zqH C A z j S q w I H J L M N O
     |false=>exact zqI C A z j S q w I H J L M N O
theorem zkC {C:Cx} {x:PR} {n:ByteArray}:bd (bd (bd (bd x (zd C 4 cEq)) (pE C .sum 0)) (zd C 4 cSemi)) (zU C 3 n)=bd x fun q=>bd (bd (bd (bd (.ok q) (zd C 4 cEq)) (pE C .sum 0)) (zd C 4 cSemi)) (zU C 3 n):=by cases x<;>rfl
theorem zqM (H:List Tk) (j:Nat) (J A z:Nat) (S:Sv) (q:PS) (w:World) (M:Mem (Cx.mk H j true) J A z S q w) (U:isT (Cx.mk H j true) q.pos 1 zG=true):
  Calls Tryz.prog 79 #[pv (Cx.mk H j true) J A S q (-1) 0] w (Out (Cx.mk H j true) J A z (zA (Cx.mk H j true) q) 0 S w):=by
 have Y:=zc M
 have I:=M.tok
 have L:(Cx.mk H j true).ts.length≤4000:=M.few
 clear M
 have HV:Hid (zA (Cx.mk H j true) q=zaR (zc9 (Cx.mk H j true) q)):=by show zA (Cx.mk H j true) q=_;rw[zA,U];rfl
 unfold pv
 go_enter Tryz.func79,Tryz.ntmps79
 go_wp2_with fail
 refine (zj (Cx.mk H j true) J A z S q (-1) 0 1 zG _ (zt (zt I _) _) L (by decide)).mono ?_
 rintro e w1 ⟨rfl,O⟩
 rw[U]
 have F:=Y.out.fm O
 clear I
 have ab:=F.x0.boxC
 go_wp2_with fail
 refine (zhW (Cx.mk H j true) J A z S q _ F.m).mono ?_
 rintro e w2 ⟨S2,q2,z2,n2,rfl,N,X,Z⟩
 replace F:=F.stp X Z
 clear ab
 have V:w.heap.size+1<w2.heap.size:=F.x1.lt
 unfold pv
 go_upto_region 7 with fail
 refine (F.new2 _).cut ?_
 intro w3 F
 have bb:=F.x1.boxC
 have cb:=F.x2.boxC
 go_wp2
 refine (F.x1.put ..).ret rfl rfl ?_
 rw[HV.out]
 exact (F.put1 ..).done rfl N.out.fst
theorem zqN (H:List Tk) (j:Nat) (L A z:Nat) (S:Sv) (q:PS) (w:World) (M:Mem (Cx.mk H j true) L A z S q w) (X:isT (Cx.mk H j true) q.pos 1 zG=false) (Y:isT (Cx.mk H j true) q.pos 1 zX=true):
  Calls Tryz.prog 79 #[pv (Cx.mk H j true) L A S q (-1) 0] w (Out (Cx.mk H j true) L A z (zA (Cx.mk H j true) q) 0 S w):=by
 have HM:=zc M
 have I:=M.tok
 have J:(Cx.mk H j true).ts.length≤4000:=M.few
 clear M
 have HV:Hid (zA (Cx.mk H j true) q=zaR (fnP (Cx.mk H j true) q)):=by show zA (Cx.mk H j true) q=_;rw[zA,X,Y];rfl
 unfold pv
 go_enter Tryz.func79,Tryz.ntmps79
 go_wp2_with fail
 refine (zj (Cx.mk H j true) L A z S q (-1) 0 1 zG _ (zt (zt I _) _) J (by decide)).mono ?_
 rintro e w1 ⟨rfl,V⟩
 rw[X]
 have F:=HM.out.fm V
 clear I
 have N:=F.x0.boxC
 go_wp2_with fail
 refine (zj (Cx.mk H j true) L A z S q (-1) 0 1 zX _ F.m.tok J (by decide)).mono ?_
 rintro e w2 ⟨rfl,O⟩
 rw[Y]
 replace F:=F.below O
 clear N
 have N:=F.x0.boxC
 go_wp2_with fail
 refine (zhX (Cx.mk H j true) L A z S q _ F.m).mono ?_
 rintro e w3 ⟨S3,q3,z3,n3,rfl,U,m3,s3⟩
 replace F:=F.stp m3 s3
 clear N
 have Z:w.heap.size+1<w3.heap.size:=F.x1.lt
 unfold pv
 go_upto_region 10 with fail
 refine (F.new2 _).cut ?_
 intro w4 F
 have bb:=F.x1.boxC
 have cb:=F.x2.boxC
 go_wp2
 refine (F.x1.put ..).ret rfl rfl ?_
 rw[HV.out]
 exact (F.put1 ..).done rfl U.out.fst
theorem zqO (H:List Tk) (j:Nat) (I A z:Nat) (S:Sv) (q:PS) (w:World) (U:Mem (Cx.mk H j true) I A z S q w) (h0:isT (Cx.mk H j true) q.pos 1 zG=false) (h1:isT (Cx.mk H j true) q.pos 1 zX=false) (h2:isT (Cx.mk H j true) q.pos 1 za0=true):
  Calls Tryz.prog 79 #[pv (Cx.mk H j true) I A S q (-1) 0] w (Out (Cx.mk H j true) I A z (zA (Cx.mk H j true) q) 0 S w):=by
 have HM:=zc U
 have L:=U.tok
 have J:(Cx.mk H j true).ts.length≤4000:=U.few
 clear U
 have HV:Hid (zA (Cx.mk H j true) q=bd (bd (bd (bd (bd (bd (.ok q) (zd (Cx.mk H j true) 1 za0)) (zd (Cx.mk H j true) 4 zr)) (pE (Cx.mk H j true) .sum 0)) (zd (Cx.mk H j true) 4 za8)) (zd (Cx.mk H j true) 4 cSemi)) (zU (Cx.mk H j true) 4 sNone)):=by show zA (Cx.mk H j true) q=_;rw[zA,h0,h1,h2];rfl
 unfold pv
 go_enter Tryz.func79,Tryz.ntmps79
 go_wp2_with fail
 refine (zj (Cx.mk H j true) I A z S q (-1) 0 1 zG _ (zt (zt L _) _) J (by decide)).mono ?_
 rintro e w1 ⟨rfl,ae⟩
 rw[h0]
 have F:=HM.out.fm ae
 clear L
 have N:=F.x0.boxC
 go_wp2_with fail
 refine (zj (Cx.mk H j true) I A z S q (-1) 0 1 zX _ F.m.tok J (by decide)).mono ?_
 rintro e w2 ⟨rfl,ad⟩
 rw[h1]
 replace F:=F.below ad
 clear N
 have N:=F.x0.boxC
 go_wp2_with fail
 refine (zj (Cx.mk H j true) I A z S q (-1) 0 1 za0 _ F.m.tok J (by decide)).mono ?_
 rintro e w3 ⟨rfl,af⟩
 rw[h2]
 replace F:=F.below af
 clear N
 have N:=F.x0.boxC
 go_wp2_with fail
 refine (zaO (Cx.mk H j true) I A z (.ok q) S q (-1) 0 za0 _ (zab q) F.m).mono ?_
 rintro e w4 ⟨S4,q4,z4,rfl,Z,m4,s4⟩
 replace F:=F.stp m4 s4
 clear N
 go_wp2_with fail
 refine (zah (Cx.mk H j true) I A z _ S4 q4 z4 0 zr _ Z.out F.m).mono ?_
 rintro e w5 ⟨S5,q5,z5,rfl,Y,m5,s5⟩
 replace F:=F.stp m5 s5
 go_wp2_with fail
 refine (zdu (Cx.mk H j true) I A z _ S5 q5 z5 _ Y.out F.m).mono ?_
 rintro e w6 ⟨S6,q6,z6,rfl,X,m6,s6⟩
 replace F:=F.stp m6 s6
 go_wp2_with fail
 refine (zah (Cx.mk H j true) I A z _ S6 q6 z6 0 za8 _ X.out F.m).mono ?_
 rintro e w7 ⟨S7,q7,z7,rfl,V,m7,s7⟩
 replace F:=F.stp m7 s7
 have ag:w.heap.size+1<w7.heap.size:=F.x1.lt
 unfold pv
 go_upto_region 13 with fail
 refine (F.new2 _).cut ?_
 intro w8 F
 have cb:=F.x2.boxC
 go_wp2_with fail
 refine (zah (Cx.mk H j true) I A z _ S7 q7 z7 0 cSemi _ V.out F.m).mono ?_
 rintro e w9 ⟨S9,q9,z9,rfl,O,m9,s9⟩
 replace F:=F.stp m9 s9
 clear cb
 go_wp2_with fail
 refine (zdl (Cx.mk H j true) I A z _ S9 q9 z9 0 4 sNone _ O.out F.m (zbx O.out)).mono ?_
 rintro e aj ⟨ai,ak,ah,rfl,M,aa,ac⟩
 replace F:=F.stp aa ac
 have bb:=F.x1.boxC
 unfold pv
 go_wp2
 refine (F.x1.put ..).ret rfl rfl ?_
 rw[HV.out]
 exact (F.put1 ..).done rfl M.out
theorem zqP (H:List Tk) (j:Nat) (J A z:Nat) (S:Sv) (q:PS) (w:World) (O:Mem (Cx.mk H j true) J A z S q w) (h0:isT (Cx.mk H j true) q.pos 1 zG=false) (h1:isT (Cx.mk H j true) q.pos 1 zX=false) (h2:isT (Cx.mk H j true) q.pos 1 za0=false) (h3:isT (Cx.mk H j true) q.pos 1 zaA=true):
  Calls Tryz.prog 79 #[pv (Cx.mk H j true) J A S q (-1) 0] w (Out (Cx.mk H j true) J A z (zA (Cx.mk H j true) q) 0 S w):=by
 have HM:=zc O
 have L:=O.tok
 have I:(Cx.mk H j true).ts.length≤4000:=O.few
 clear O
 have HV:Hid (zA (Cx.mk H j true) q=bd (bd (bd (bd (.ok q) (zd (Cx.mk H j true) 1 zaA)) (pE (Cx.mk H j true) .sum 0)) (zd (Cx.mk H j true) 4 cSemi)) (zU (Cx.mk H j true) 5 sNone)):=by show zA (Cx.mk H j true) q=_;rw[zA,h0,h1,h2,h3];rfl
 unfold pv
 go_enter Tryz.func79,Tryz.ntmps79
 go_wp2_with fail
 refine (zj (Cx.mk H j true) J A z S q (-1) 0 1 zG _ (zt (zt L _) _) I (by decide)).mono ?_
 rintro e w1 ⟨rfl,aa⟩
 rw[h0]
 have F:=HM.out.fm aa
 clear L
 have M:=F.x0.boxC
 go_wp2_with fail
 refine (zj (Cx.mk H j true) J A z S q (-1) 0 1 zX _ F.m.tok I (by decide)).mono ?_
 rintro e w2 ⟨rfl,Y⟩
 rw[h1]
 replace F:=F.below Y
 clear M
 have M:=F.x0.boxC
 go_wp2_with fail
 refine (zj (Cx.mk H j true) J A z S q (-1) 0 1 za0 _ F.m.tok I (by decide)).mono ?_
 rintro e w3 ⟨rfl,ac⟩
 rw[h2]
 replace F:=F.below ac
 clear M
 have M:=F.x0.boxC
 go_wp2_with fail
 refine (zj (Cx.mk H j true) J A z S q (-1) 0 1 zaA _ F.m.tok I (by decide)).mono ?_
 rintro e w4 ⟨rfl,Z⟩
 rw[h3]
 replace F:=F.below Z
 clear M
 have M:=F.x0.boxC
 go_wp2_with fail
 refine (zaO (Cx.mk H j true) J A z (.ok q) S q (-1) 0 zaA _ (zab q) F.m).mono ?_
 rintro e w5 ⟨S5,q5,z5,rfl,V,m5,s5⟩
 replace F:=F.stp m5 s5
 clear M
 go_wp2_with fail
 refine (zdu (Cx.mk H j true) J A z _ S5 q5 z5 _ V.out F.m).mono ?_
 rintro e w6 ⟨S6,q6,z6,rfl,U,m6,s6⟩
 replace F:=F.stp m6 s6
 go_wp2_with fail
 refine (zah (Cx.mk H j true) J A z _ S6 q6 z6 0 cSemi _ U.out F.m).mono ?_
 rintro e w7 ⟨S7,q7,z7,rfl,N,m7,s7⟩
 replace F:=F.stp m7 s7
 go_wp2_with fail
 refine (zdl (Cx.mk H j true) J A z _ S7 q7 z7 0 5 sNone _ N.out F.m (zbx N.out)).mono ?_
 rintro e w8 ⟨S8,q8,z8,rfl,X,m8,s8⟩
 replace F:=F.stp m8 s8
 have bb:=F.x1.boxC
 unfold pv
 go_wp2
 refine (F.x1.put ..).ret rfl rfl ?_
 rw[HV.out]
 exact (F.put1 ..).done rfl X.out
theorem zqQ (H:List Tk) (j:Nat) (J A z:Nat) (S:Sv) (q:PS) (w:World) (O:Mem (Cx.mk H j true) J A z S q w) (h0:isT (Cx.mk H j true) q.pos 1 zG=false) (h1:isT (Cx.mk H j true) q.pos 1 zX=false) (h2:isT (Cx.mk H j true) q.pos 1 za0=false) (h3:isT (Cx.mk H j true) q.pos 1 zaA=false) (h4:isT (Cx.mk H j true) q.pos 1 zbQ=true):
  Calls Tryz.prog 79 #[pv (Cx.mk H j true) J A S q (-1) 0] w (Out (Cx.mk H j true) J A z (zA (Cx.mk H j true) q) 0 S w):=by
 have HM:=zc O
 have M:=O.tok
 have I:(Cx.mk H j true).ts.length≤4000:=O.few
 clear O
 have HV:Hid (zA (Cx.mk H j true) q=bd (bd (bd (bd (.ok q) (zd (Cx.mk H j true) 1 zbQ)) (pE (Cx.mk H j true) .sum 0)) (zd (Cx.mk H j true) 4 cSemi)) (zU (Cx.mk H j true) 6 sNone)):=by show zA (Cx.mk H j true) q=_;rw[zA,h0,h1,h2,h3,h4];rfl
 unfold pv
 go_enter Tryz.func79,Tryz.ntmps79
 go_wp2_with fail
 refine (zj (Cx.mk H j true) J A z S q (-1) 0 1 zG _ (zt (zt M _) _) I (by decide)).mono ?_
 rintro e w1 ⟨rfl,aa⟩
 rw[h0]
 have F:=HM.out.fm aa
 clear M
 have L:=F.x0.boxC
 go_wp2_with fail
 refine (zj (Cx.mk H j true) J A z S q (-1) 0 1 zX _ F.m.tok I (by decide)).mono ?_
 rintro e w2 ⟨rfl,Y⟩
 rw[h1]
 replace F:=F.below Y
 clear L
 have L:=F.x0.boxC
 go_wp2_with fail
 refine (zj (Cx.mk H j true) J A z S q (-1) 0 1 za0 _ F.m.tok I (by decide)).mono ?_
 rintro e w3 ⟨rfl,ad⟩
 rw[h2]
 replace F:=F.below ad
 clear L
 have L:=F.x0.boxC
 go_wp2_with fail
 refine (zj (Cx.mk H j true) J A z S q (-1) 0 1 zaA _ F.m.tok I (by decide)).mono ?_
 rintro e w4 ⟨rfl,Z⟩
 rw[h3]
 replace F:=F.below Z
 clear L
 have L:=F.x0.boxC
 go_wp2_with fail
 refine (zj (Cx.mk H j true) J A z S q (-1) 0 1 zbQ _ F.m.tok I (by decide)).mono ?_
 rintro e w5 ⟨rfl,X⟩
 rw[h4]
 replace F:=F.below X
 clear L
 have L:=F.x0.boxC
 go_wp2_with fail
 refine (zaO (Cx.mk H j true) J A z (.ok q) S q (-1) 0 zbQ _ (zab q) F.m).mono ?_
 rintro e w6 ⟨S6,q6,z6,rfl,V,m6,s6⟩
 replace F:=F.stp m6 s6
 clear L
 go_wp2_with fail
 refine (zdu (Cx.mk H j true) J A z _ S6 q6 z6 _ V.out F.m).mono ?_
 rintro e w7 ⟨S7,q7,z7,rfl,U,m7,s7⟩
 replace F:=F.stp m7 s7
 go_wp2_with fail
 refine (zah (Cx.mk H j true) J A z _ S7 q7 z7 0 cSemi _ U.out F.m).mono ?_
 rintro e w8 ⟨S8,q8,z8,rfl,N,m8,s8⟩
 replace F:=F.stp m8 s8
 go_wp2_with fail
 refine (zdl (Cx.mk H j true) J A z _ S8 q8 z8 0 6 sNone _ N.out F.m (zbx N.out)).mono ?_
 rintro e w9 ⟨S9,q9,z9,rfl,ac,m9,s9⟩
 replace F:=F.stp m9 s9
 have bb:=F.x1.boxC
 unfold pv
 go_wp2
 refine (F.x1.put ..).ret rfl rfl ?_
 rw[HV.out]
 exact (F.put1 ..).done rfl ac.out
theorem zqR (A:List Tk) (j:Nat) (J H z:Nat) (S:Sv) (q:PS) (w:World) (V:Mem (Cx.mk A j true) J H z S q w) (h0:isT (Cx.mk A j true) q.pos 1 zG=false) (h1:isT (Cx.mk A j true) q.pos 1 zX=false) (h2:isT (Cx.mk A j true) q.pos 1 za0=false) (h3:isT (Cx.mk A j true) q.pos 1 zaA=false) (h4:isT (Cx.mk A j true) q.pos 1 zbQ=false):
  Calls Tryz.prog 79 #[pv (Cx.mk A j true) J H S q (-1) 0] w (Out (Cx.mk A j true) J H z (zA (Cx.mk A j true) q) 0 S w):=by
 have HM:=zc V
 have M:=V.tok
 have I:(Cx.mk A j true).ts.length≤4000:=V.few
 clear V
 have HV:Hid (zA (Cx.mk A j true) q=bd (bd (.ok q) (zo (Cx.mk A j true) false)) fun a=>bd (bd (bd (bd (.ok a.1) (zd (Cx.mk A j true) 4 cEq)) (pE (Cx.mk A j true) .sum 0)) (zd (Cx.mk A j true) 4 cSemi)) (zU (Cx.mk A j true) 3 a.2)):=by show zA (Cx.mk A j true) q=_;rw[zA,h0,h1,h2,h3,h4];rfl
 unfold pv
 go_enter Tryz.func79,Tryz.ntmps79
 go_wp2_with fail
 refine (zj (Cx.mk A j true) J H z S q (-1) 0 1 zG _ (zt (zt M _) _) I (by decide)).mono ?_
 rintro e w1 ⟨rfl,ag⟩
 rw[h0]
 have F:=HM.out.fm ag
 clear M
 have L:=F.x0.boxC
 go_wp2_with fail
 refine (zj (Cx.mk A j true) J H z S q (-1) 0 1 zX _ F.m.tok I (by decide)).mono ?_
 rintro e w2 ⟨rfl,ad⟩
 rw[h1]
 replace F:=F.below ad
 clear L
 have L:=F.x0.boxC
 go_wp2_with fail
 refine (zj (Cx.mk A j true) J H z S q (-1) 0 1 za0 _ F.m.tok I (by decide)).mono ?_
 rintro e w3 ⟨rfl,ai⟩
 rw[h2]
 replace F:=F.below ai
 clear L
 have L:=F.x0.boxC
 go_wp2_with fail
 refine (zj (Cx.mk A j true) J H z S q (-1) 0 1 zaA _ F.m.tok I (by decide)).mono ?_
 rintro e w4 ⟨rfl,af⟩
 rw[h3]
 replace F:=F.below af
 clear L
 have L:=F.x0.boxC
 go_wp2_with fail
 refine (zj (Cx.mk A j true) J H z S q (-1) 0 1 zbQ _ F.m.tok I (by decide)).mono ?_
 rintro e w5 ⟨rfl,Y⟩
 rw[h4]
 replace F:=F.below Y
 clear L
 have L:=F.x0.boxC
 go_wp2_with fail
 refine (zbt (Cx.mk A j true) J H z (.ok q) S q (-1) 0 false _ (zab q) F.m).mono ?_
 rintro e w6 ⟨S6,q6,z6,n6,rfl,O,m6,s6⟩
 replace F:=F.stp m6 s6
 clear L
 have am:w.heap.size+1<w6.heap.size:=F.x1.lt
 unfold pv
 go_upto_region 19 with fail
 refine (F.new2 _).cut ?_
 intro w7 F
 have cb:=F.x2.boxC
 go_wp2_with fail
 refine (zah (Cx.mk A j true) J H z _ S6 q6 z6 0 cEq _ O.out.fst F.m).mono ?_
 rintro e w8 ⟨S8,q8,z8,rfl,aa,m8,s8⟩
 replace F:=F.stp m8 s8
 clear cb
 go_wp2_with fail
 refine (zdu (Cx.mk A j true) J H z _ S8 q8 z8 _ aa.out F.m).mono ?_
 rintro e w9 ⟨S9,q9,z9,rfl,ah,m9,s9⟩
 replace F:=F.stp m9 s9
 go_wp2_with fail
 refine (zah (Cx.mk A j true) J H z _ S9 q9 z9 0 cSemi _ ah.out F.m).mono ?_
 rintro e ar ⟨aj,al,X,rfl,N,Z,ac⟩
 replace F:=F.stp Z ac
 go_wp2_with fail
 refine (zdl (Cx.mk A j true) J H z _ aj al X 0 3 n6 _ N.out F.m (zbx N.out)).mono ?_
 rintro e an ⟨ap,ao,aq,rfl,U,ae,ak⟩
 replace F:=F.stp ae ak
 have bb:=F.x1.boxC
 unfold pv
 go_wp2
 refine (F.x1.put ..).ret rfl rfl ?_
 rw[HV.out,←O.out.bind (fun q n=>bd (bd (bd (bd (.ok q) (zd (Cx.mk A j true) 4 cEq)) (pE (Cx.mk A j true) .sum 0)) (zd (Cx.mk A j true) 4 cSemi)) (zU (Cx.mk A j true) 3 n)),←zkC]
 exact (F.put1 ..).done rfl U.out
theorem zqS (H:List Tk) (j:Nat) (I A z:Nat) (S:Sv) (q:PS) (w:World) (J:Mem (Cx.mk H j true) I A z S q w):
  Calls Tryz.prog 79 #[pv (Cx.mk H j true) I A S q (-1) 0] w (Out (Cx.mk H j true) I A z (zA (Cx.mk H j true) q) 0 S w):=by
 cases L:isT (Cx.mk H j true) q.pos 1 zG with
 |true=>exact zqM H j I A z S q w J L
 |false=>
  cases M:isT (Cx.mk H j true) q.pos 1 zX with
  |true=>exact zqN H j I A z S q w J L M
  |false=>
   cases N:isT (Cx.mk H j true) q.pos 1 za0 with
   |true=>exact zqO H j I A z S q w J L M N
   |false=>
    cases O:isT (Cx.mk H j true) q.pos 1 zaA with
    |true=>exact zqP H j I A z S q w J L M N O
    |false=>
     cases U:isT (Cx.mk H j true) q.pos 1 zbQ with
     |true=>exact zqQ H j I A z S q w J L M N O U
     |false=>
      exact zqR H j I A z S q w J L M N O U
theorem zqT (H:List Tk) (j:Nat) (J A z:Nat) (S:Sv) (q:PS) (w:World) (M:Mem (Cx.mk H j false) J A z S q w) (N:isT (Cx.mk H j false) q.pos 1 zao=true):
  Calls Tryz.prog 79 #[pv (Cx.mk H j false) J A S q (-1) 0] w (Out (Cx.mk H j false) J A z (zA (Cx.mk H j false) q) 0 S w):=by
 have X:=zc M
 have I:=M.tok
 have L:(Cx.mk H j false).ts.length≤4000:=M.few
 clear M
 have HV:Hid (zA (Cx.mk H j false) q=zaX (Cx.mk H j false) q):=by show zA (Cx.mk H j false) q=_;rw[zA,N];rfl
 unfold pv
 go_enter Tryz.func79,Tryz.ntmps79
 go_wp2_with fail
 refine (zj (Cx.mk H j false) J A z S q (-1) 0 1 zao _ (zt (zt I _) _) L (by decide)).mono ?_
 rintro e w1 ⟨rfl,U⟩
 rw[N]
 have F:=X.out.fm U
 clear I
 have Z:=F.x0.boxC
 go_wp2_with fail
 refine (zqK (Cx.mk H j false) J A z S q _ F.m N).mono ?_
 rintro e w2 ⟨S2,q2,z2,rfl,O,V,Y⟩
 replace F:=F.stp V Y
 clear Z
 have bb:=F.x1.boxC
 unfold pv
 go_wp2
 refine (F.x1.put ..).ret rfl rfl ?_
 rw[HV.out]
 exact (F.put1 ..).done rfl O.out
theorem zqU (H:List Tk) (j:Nat) (L A z:Nat) (S:Sv) (q:PS) (w:World) (M:Mem (Cx.mk H j false) L A z S q w) (Y:isT (Cx.mk H j false) q.pos 1 zao=false) (N:isT (Cx.mk H j false) q.pos 1 zaj=true):
  Calls Tryz.prog 79 #[pv (Cx.mk H j false) L A S q (-1) 0] w (Out (Cx.mk H j false) L A z (zA (Cx.mk H j false) q) 0 S w):=by
 have HM:=zc M
 have I:=M.tok
 have J:(Cx.mk H j false).ts.length≤4000:=M.few
 clear M
 have HV:Hid (zA (Cx.mk H j false) q=zam (Cx.mk H j false) q):=by show zA (Cx.mk H j false) q=_;rw[zA,Y,N];rfl
 unfold pv
 go_enter Tryz.func79,Tryz.ntmps79
 go_wp2_with fail
 refine (zj (Cx.mk H j false) L A z S q (-1) 0 1 zao _ (zt (zt I _) _) J (by decide)).mono ?_
 rintro e w1 ⟨rfl,X⟩
 rw[Y]
 have F:=HM.out.fm X
 clear I
 have O:=F.x0.boxC
 go_wp2_with fail
 refine (zj (Cx.mk H j false) L A z S q (-1) 0 1 zaj _ F.m.tok J (by decide)).mono ?_
 rintro e w2 ⟨rfl,U⟩
 rw[N]
 replace F:=F.below U
 clear O
 have O:=F.x0.boxC
 go_wp2_with fail
 refine (zqL (Cx.mk H j false) L A z S q _ F.m N).mono ?_
 rintro e w3 ⟨S3,q3,z3,rfl,V,Z,s3⟩
 replace F:=F.stp Z s3
 clear O
 have bb:=F.x1.boxC
 unfold pv
 go_wp2
 refine (F.x1.put ..).ret rfl rfl ?_
 rw[HV.out]
 exact (F.put1 ..).done rfl V.out
theorem zqV (H:List Tk) (j:Nat) (L A z:Nat) (S:Sv) (q:PS) (w:World) (N:Mem (Cx.mk H j false) L A z S q w) (Z:isT (Cx.mk H j false) q.pos 1 zao=false) (h1:isT (Cx.mk H j false) q.pos 1 zaj=false) (Y:isT (Cx.mk H j false) q.pos 1 zG=true):
  Calls Tryz.prog 79 #[pv (Cx.mk H j false) L A S q (-1) 0] w (Out (Cx.mk H j false) L A z (zA (Cx.mk H j false) q) 0 S w):=by
 have HM:=zc N
 have J:=N.tok
 have I:(Cx.mk H j false).ts.length≤4000:=N.few
 clear N
 have HV:Hid (zA (Cx.mk H j false) q=zaR (zc9 (Cx.mk H j false) q)):=by show zA (Cx.mk H j false) q=_;rw[zA,Z,h1,Y];rfl
 unfold pv
 go_enter Tryz.func79,Tryz.ntmps79
 go_wp2_with fail
 refine (zj (Cx.mk H j false) L A z S q (-1) 0 1 zao _ (zt (zt J _) _) I (by decide)).mono ?_
 rintro e w1 ⟨rfl,V⟩
 rw[Z]
 have F:=HM.out.fm V
 clear J
 have M:=F.x0.boxC
 go_wp2_with fail
 refine (zj (Cx.mk H j false) L A z S q (-1) 0 1 zaj _ F.m.tok I (by decide)).mono ?_
 rintro e w2 ⟨rfl,U⟩
 rw[h1]
 replace F:=F.below U
 clear M
 have M:=F.x0.boxC
 go_wp2_with fail
 refine (zj (Cx.mk H j false) L A z S q (-1) 0 1 zG _ F.m.tok I (by decide)).mono ?_
 rintro e w3 ⟨rfl,X⟩
 rw[Y]
 replace F:=F.below X
 clear M
 have M:=F.x0.boxC
 go_wp2_with fail
 refine (zhW (Cx.mk H j false) L A z S q _ F.m).mono ?_
 rintro e w4 ⟨S4,q4,z4,n4,rfl,O,m4,s4⟩
 replace F:=F.stp m4 s4
 clear M
 have aa:w.heap.size+1<w4.heap.size:=F.x1.lt
 unfold pv
 go_upto_region 7 with fail
 refine (F.new2 _).cut ?_
 intro w5 F
 have bb:=F.x1.boxC
 have cb:=F.x2.boxC
 go_wp2
 refine (F.x1.put ..).ret rfl rfl ?_
 rw[HV.out]
 exact (F.put1 ..).done rfl O.out.fst
theorem zqW (H:List Tk) (j:Nat) (L A z:Nat) (S:Sv) (q:PS) (w:World) (N:Mem (Cx.mk H j false) L A z S q w) (h0:isT (Cx.mk H j false) q.pos 1 zao=false) (h1:isT (Cx.mk H j false) q.pos 1 zaj=false) (Z:isT (Cx.mk H j false) q.pos 1 zG=false) (h3:isT (Cx.mk H j false) q.pos 1 zX=true):
  Calls Tryz.prog 79 #[pv (Cx.mk H j false) L A S q (-1) 0] w (Out (Cx.mk H j false) L A z (zA (Cx.mk H j false) q) 0 S w):=by
 have HM:=zc N
 have J:=N.tok
 have I:(Cx.mk H j false).ts.length≤4000:=N.few
 clear N
 have HV:Hid (zA (Cx.mk H j false) q=zaR (fnP (Cx.mk H j false) q)):=by show zA (Cx.mk H j false) q=_;rw[zA,h0,h1,Z,h3];rfl
 unfold pv
 go_enter Tryz.func79,Tryz.ntmps79
 go_wp2_with fail
 refine (zj (Cx.mk H j false) L A z S q (-1) 0 1 zao _ (zt (zt J _) _) I (by decide)).mono ?_
 rintro e w1 ⟨rfl,X⟩
 rw[h0]
 have F:=HM.out.fm X
 clear J
 have M:=F.x0.boxC
 go_wp2_with fail
 refine (zj (Cx.mk H j false) L A z S q (-1) 0 1 zaj _ F.m.tok I (by decide)).mono ?_
 rintro e w2 ⟨rfl,U⟩
 rw[h1]
 replace F:=F.below U
 clear M
 have M:=F.x0.boxC
 go_wp2_with fail
 refine (zj (Cx.mk H j false) L A z S q (-1) 0 1 zG _ F.m.tok I (by decide)).mono ?_
 rintro e w3 ⟨rfl,Y⟩
 rw[Z]
 replace F:=F.below Y
 clear M
 have M:=F.x0.boxC
 go_wp2_with fail
 refine (zj (Cx.mk H j false) L A z S q (-1) 0 1 zX _ F.m.tok I (by decide)).mono ?_
 rintro e w4 ⟨rfl,V⟩
 rw[h3]
 replace F:=F.below V
 clear M
 have M:=F.x0.boxC
 go_wp2_with fail
 refine (zhX (Cx.mk H j false) L A z S q _ F.m).mono ?_
 rintro e w5 ⟨S5,q5,z5,n5,rfl,O,m5,s5⟩
 replace F:=F.stp m5 s5
 clear M
 have aa:w.heap.size+1<w5.heap.size:=F.x1.lt
 unfold pv
 go_upto_region 10 with fail
 refine (F.new2 _).cut ?_
 intro w6 F
 have bb:=F.x1.boxC
 have cb:=F.x2.boxC
 go_wp2
 refine (F.x1.put ..).ret rfl rfl ?_
 rw[HV.out]
 exact (F.put1 ..).done rfl O.out.fst
theorem zqX (H:List Tk) (j:Nat) (J A z:Nat) (S:Sv) (q:PS) (w:World) (U:Mem (Cx.mk H j false) J A z S q w) (h0:isT (Cx.mk H j false) q.pos 1 zao=false) (h1:isT (Cx.mk H j false) q.pos 1 zaj=false) (h2:isT (Cx.mk H j false) q.pos 1 zG=false) (h3:isT (Cx.mk H j false) q.pos 1 zX=false) (h4:isT (Cx.mk H j false) q.pos 1 za0=true):
  Calls Tryz.prog 79 #[pv (Cx.mk H j false) J A S q (-1) 0] w (Out (Cx.mk H j false) J A z (zA (Cx.mk H j false) q) 0 S w):=by
 have HM:=zc U
 have M:=U.tok
 have I:(Cx.mk H j false).ts.length≤4000:=U.few
 clear U
 have HV:Hid (zA (Cx.mk H j false) q=bd (bd (bd (bd (bd (bd (.ok q) (zd (Cx.mk H j false) 1 za0)) (zd (Cx.mk H j false) 4 zr)) (pE (Cx.mk H j false) .sum 0)) (zd (Cx.mk H j false) 4 za8)) (zd (Cx.mk H j false) 4 cSemi)) (zU (Cx.mk H j false) 4 sNone)):=by show zA (Cx.mk H j false) q=_;rw[zA,h0,h1,h2,h3,h4];rfl
 unfold pv
 go_enter Tryz.func79,Tryz.ntmps79
 go_wp2_with fail
 refine (zj (Cx.mk H j false) J A z S q (-1) 0 1 zao _ (zt (zt M _) _) I (by decide)).mono ?_
 rintro e w1 ⟨rfl,ai⟩
 rw[h0]
 have F:=HM.out.fm ai
 clear M
 have L:=F.x0.boxC
 go_wp2_with fail
 refine (zj (Cx.mk H j false) J A z S q (-1) 0 1 zaj _ F.m.tok I (by decide)).mono ?_
 rintro e w2 ⟨rfl,ad⟩
 rw[h1]
 replace F:=F.below ad
 clear L
 have L:=F.x0.boxC
 go_wp2_with fail
 refine (zj (Cx.mk H j false) J A z S q (-1) 0 1 zG _ F.m.tok I (by decide)).mono ?_
 rintro e w3 ⟨rfl,am⟩
 rw[h2]
 replace F:=F.below am
 clear L
 have L:=F.x0.boxC
 go_wp2_with fail
 refine (zj (Cx.mk H j false) J A z S q (-1) 0 1 zX _ F.m.tok I (by decide)).mono ?_
 rintro e w4 ⟨rfl,ag⟩
 rw[h3]
 replace F:=F.below ag
 clear L
 have L:=F.x0.boxC
 go_wp2_with fail
 refine (zj (Cx.mk H j false) J A z S q (-1) 0 1 za0 _ F.m.tok I (by decide)).mono ?_
 rintro e w5 ⟨rfl,Z⟩
 rw[h4]
 replace F:=F.below Z
 clear L
 have L:=F.x0.boxC
 go_wp2_with fail
 refine (zaO (Cx.mk H j false) J A z (.ok q) S q (-1) 0 za0 _ (zab q) F.m).mono ?_
 rintro e w6 ⟨S6,q6,z6,rfl,X,m6,s6⟩
 replace F:=F.stp m6 s6
 clear L
 go_wp2_with fail
 refine (zah (Cx.mk H j false) J A z _ S6 q6 z6 0 zr _ X.out F.m).mono ?_
 rintro e w7 ⟨S7,q7,z7,rfl,V,m7,s7⟩
 replace F:=F.stp m7 s7
 go_wp2_with fail
 refine (zdu (Cx.mk H j false) J A z _ S7 q7 z7 _ V.out F.m).mono ?_
 rintro e w8 ⟨S8,q8,z8,rfl,ac,m8,s8⟩
 replace F:=F.stp m8 s8
 go_wp2_with fail
 refine (zah (Cx.mk H j false) J A z _ S8 q8 z8 0 za8 _ ac.out F.m).mono ?_
 rintro e w9 ⟨S9,q9,z9,rfl,al,m9,s9⟩
 replace F:=F.stp m9 s9
 have an:w.heap.size+1<w9.heap.size:=F.x1.lt
 unfold pv
 go_upto_region 13 with fail
 refine (F.new2 _).cut ?_
 intro av F
 have cb:=F.x2.boxC
 go_wp2_with fail
 refine (zah (Cx.mk H j false) J A z _ S9 q9 z9 0 cSemi _ al.out F.m).mono ?_
 rintro e ap ⟨ae,aa,aj,rfl,N,af,ak⟩
 replace F:=F.stp af ak
 clear cb
 go_wp2_with fail
 refine (zdl (Cx.mk H j false) J A z _ ae aa aj 0 4 sNone _ N.out F.m (zbx N.out)).mono ?_
 rintro e ao ⟨aq,ar,au,rfl,O,Y,ah⟩
 replace F:=F.stp Y ah
 have bb:=F.x1.boxC
 unfold pv
 go_wp2
 refine (F.x1.put ..).ret rfl rfl ?_
 rw[HV.out]
 exact (F.put1 ..).done rfl O.out
theorem zqY (H:List Tk) (j:Nat) (J A z:Nat) (S:Sv) (q:PS) (w:World) (U:Mem (Cx.mk H j false) J A z S q w) (h0:isT (Cx.mk H j false) q.pos 1 zao=false) (h1:isT (Cx.mk H j false) q.pos 1 zaj=false) (h2:isT (Cx.mk H j false) q.pos 1 zG=false) (h3:isT (Cx.mk H j false) q.pos 1 zX=false) (h4:isT (Cx.mk H j false) q.pos 1 za0=false) (h5:isT (Cx.mk H j false) q.pos 1 zaA=true):
  Calls Tryz.prog 79 #[pv (Cx.mk H j false) J A S q (-1) 0] w (Out (Cx.mk H j false) J A z (zA (Cx.mk H j false) q) 0 S w):=by
 have HM:=zc U
 have M:=U.tok
 have I:(Cx.mk H j false).ts.length≤4000:=U.few
 clear U
 have HV:Hid (zA (Cx.mk H j false) q=bd (bd (bd (bd (.ok q) (zd (Cx.mk H j false) 1 zaA)) (pE (Cx.mk H j false) .sum 0)) (zd (Cx.mk H j false) 4 cSemi)) (zU (Cx.mk H j false) 5 sNone)):=by show zA (Cx.mk H j false) q=_;rw[zA,h0,h1,h2,h3,h4,h5];rfl
 unfold pv
 go_enter Tryz.func79,Tryz.ntmps79
 go_wp2_with fail
 refine (zj (Cx.mk H j false) J A z S q (-1) 0 1 zao _ (zt (zt M _) _) I (by decide)).mono ?_
 rintro e w1 ⟨rfl,af⟩
 rw[h0]
 have F:=HM.out.fm af
 clear M
 have L:=F.x0.boxC
 go_wp2_with fail
 refine (zj (Cx.mk H j false) J A z S q (-1) 0 1 zaj _ F.m.tok I (by decide)).mono ?_
 rintro e w2 ⟨rfl,ad⟩
 rw[h1]
 replace F:=F.below ad
 clear L
 have L:=F.x0.boxC
 go_wp2_with fail
 refine (zj (Cx.mk H j false) J A z S q (-1) 0 1 zG _ F.m.tok I (by decide)).mono ?_
 rintro e w3 ⟨rfl,ag⟩
 rw[h2]
 replace F:=F.below ag
 clear L
 have L:=F.x0.boxC
 go_wp2_with fail
 refine (zj (Cx.mk H j false) J A z S q (-1) 0 1 zX _ F.m.tok I (by decide)).mono ?_
 rintro e w4 ⟨rfl,ae⟩
 rw[h3]
 replace F:=F.below ae
 clear L
 have L:=F.x0.boxC
 go_wp2_with fail
 refine (zj (Cx.mk H j false) J A z S q (-1) 0 1 za0 _ F.m.tok I (by decide)).mono ?_
 rintro e w5 ⟨rfl,Y⟩
 rw[h4]
 replace F:=F.below Y
 clear L
 have L:=F.x0.boxC
 go_wp2_with fail
 refine (zj (Cx.mk H j false) J A z S q (-1) 0 1 zaA _ F.m.tok I (by decide)).mono ?_
 rintro e w6 ⟨rfl,X⟩
 rw[h5]
 replace F:=F.below X
 clear L
 have L:=F.x0.boxC
 go_wp2_with fail
 refine (zaO (Cx.mk H j false) J A z (.ok q) S q (-1) 0 zaA _ (zab q) F.m).mono ?_
 rintro e w7 ⟨S7,q7,z7,rfl,V,m7,s7⟩
 replace F:=F.stp m7 s7
 clear L
 go_wp2_with fail
 refine (zdu (Cx.mk H j false) J A z _ S7 q7 z7 _ V.out F.m).mono ?_
 rintro e w8 ⟨S8,q8,z8,rfl,aa,m8,s8⟩
 replace F:=F.stp m8 s8
 go_wp2_with fail
 refine (zah (Cx.mk H j false) J A z _ S8 q8 z8 0 cSemi _ aa.out F.m).mono ?_
 rintro e w9 ⟨S9,q9,z9,rfl,O,m9,s9⟩
 replace F:=F.stp m9 s9
 go_wp2_with fail
 refine (zdl (Cx.mk H j false) J A z _ S9 q9 z9 0 5 sNone _ O.out F.m (zbx O.out)).mono ?_
 rintro e aj ⟨ai,ak,ah,rfl,N,Z,ac⟩
 replace F:=F.stp Z ac
 have bb:=F.x1.boxC
 unfold pv
 go_wp2
 refine (F.x1.put ..).ret rfl rfl ?_
 rw[HV.out]
 exact (F.put1 ..).done rfl N.out
theorem zqZ (A:List Tk) (j:Nat) (J H z:Nat) (S:Sv) (q:PS) (w:World) (X:Mem (Cx.mk A j false) J H z S q w) (h0:isT (Cx.mk A j false) q.pos 1 zao=false) (h1:isT (Cx.mk A j false) q.pos 1 zaj=false) (h2:isT (Cx.mk A j false) q.pos 1 zG=false) (h3:isT (Cx.mk A j false) q.pos 1 zX=false) (h4:isT (Cx.mk A j false) q.pos 1 za0=false) (h5:isT (Cx.mk A j false) q.pos 1 zaA=false):
  Calls Tryz.prog 79 #[pv (Cx.mk A j false) J H S q (-1) 0] w (Out (Cx.mk A j false) J H z (zA (Cx.mk A j false) q) 0 S w):=by
 have HM:=zc X
 have M:=X.tok
 have I:(Cx.mk A j false).ts.length≤4000:=X.few
 clear X
 have HV:Hid (zA (Cx.mk A j false) q=bd (bd (.ok q) (zo (Cx.mk A j false) false)) fun a=>bd (bd (bd (bd (.ok a.1) (zd (Cx.mk A j false) 4 cEq)) (pE (Cx.mk A j false) .sum 0)) (zd (Cx.mk A j false) 4 cSemi)) (zU (Cx.mk A j false) 3 a.2)):=by show zA (Cx.mk A j false) q=_;rw[zA,h0,h1,h2,h3,h4,h5];rfl
 unfold pv
 go_enter Tryz.func79,Tryz.ntmps79
 go_wp2_with fail
 refine (zj (Cx.mk A j false) J H z S q (-1) 0 1 zao _ (zt (zt M _) _) I (by decide)).mono ?_
 rintro e w1 ⟨rfl,am⟩
 rw[h0]
 have F:=HM.out.fm am
 clear M
 have L:=F.x0.boxC
 go_wp2_with fail
 refine (zj (Cx.mk A j false) J H z S q (-1) 0 1 zaj _ F.m.tok I (by decide)).mono ?_
 rintro e w2 ⟨rfl,ah⟩
 rw[h1]
 replace F:=F.below ah
 clear L
 have L:=F.x0.boxC
 go_wp2_with fail
 refine (zj (Cx.mk A j false) J H z S q (-1) 0 1 zG _ F.m.tok I (by decide)).mono ?_
 rintro e w3 ⟨rfl,aq⟩
 rw[h2]
 replace F:=F.below aq
 clear L
 have L:=F.x0.boxC
 go_wp2_with fail
 refine (zj (Cx.mk A j false) J H z S q (-1) 0 1 zX _ F.m.tok I (by decide)).mono ?_
 rintro e w4 ⟨rfl,ak⟩
 rw[h3]
 replace F:=F.below ak
 clear L
 have L:=F.x0.boxC
 go_wp2_with fail
 refine (zj (Cx.mk A j false) J H z S q (-1) 0 1 za0 _ F.m.tok I (by decide)).mono ?_
 rintro e w5 ⟨rfl,ad⟩
 rw[h4]
 replace F:=F.below ad
 clear L
 have L:=F.x0.boxC
 go_wp2_with fail
 refine (zj (Cx.mk A j false) J H z S q (-1) 0 1 zaA _ F.m.tok I (by decide)).mono ?_
 rintro e w6 ⟨rfl,aa⟩
 rw[h5]
 replace F:=F.below aa
 clear L
 have L:=F.x0.boxC
 go_wp2_with fail
 refine (zbt (Cx.mk A j false) J H z (.ok q) S q (-1) 0 false _ (zab q) F.m).mono ?_
 rintro e w7 ⟨S7,q7,z7,n7,rfl,O,m7,s7⟩
 replace F:=F.stp m7 s7
 clear L
 have au:w.heap.size+1<w7.heap.size:=F.x1.lt
 unfold pv
 go_upto_region 19 with fail
 refine (F.new2 _).cut ?_
 intro w8 F
 have cb:=F.x2.boxC
 go_wp2_with fail
 refine (zah (Cx.mk A j false) J H z _ S7 q7 z7 0 cEq _ O.out.fst F.m).mono ?_
 rintro e w9 ⟨S9,q9,z9,rfl,ap,m9,s9⟩
 replace F:=F.stp m9 s9
 clear cb
 go_wp2_with fail
 refine (zdu (Cx.mk A j false) J H z _ S9 q9 z9 _ ap.out F.m).mono ?_
 rintro e aA ⟨an,ar,Y,rfl,V,ae,ag⟩
 replace F:=F.stp ae ag
 go_wp2_with fail
 refine (zah (Cx.mk A j false) J H z _ an ar Y 0 cSemi _ V.out F.m).mono ?_
 rintro e av ⟨ai,af,Z,rfl,N,aj,ao⟩
 replace F:=F.stp aj ao
 go_wp2_with fail
 refine (zdl (Cx.mk A j false) J H z _ ai af Z 0 3 n7 _ N.out F.m (zbx N.out)).mono ?_
 rintro e az ⟨aw,ax,ay,rfl,U,ac,al⟩
 replace F:=F.stp ac al
 have bb:=F.x1.boxC
 unfold pv
 go_wp2
 refine (F.x1.put ..).ret rfl rfl ?_
 rw[HV.out,←O.out.bind (fun q n=>bd (bd (bd (bd (.ok q) (zd (Cx.mk A j false) 4 cEq)) (pE (Cx.mk A j false) .sum 0)) (zd (Cx.mk A j false) 4 cSemi)) (zU (Cx.mk A j false) 3 n)),←zkC]
 exact (F.put1 ..).done rfl U.out
theorem zra (H:List Tk) (j:Nat) (I A z:Nat) (S:Sv) (q:PS) (w:World) (J:Mem (Cx.mk H j false) I A z S q w):
  Calls Tryz.prog 79 #[pv (Cx.mk H j false) I A S q (-1) 0] w (Out (Cx.mk H j false) I A z (zA (Cx.mk H j false) q) 0 S w):=by
 cases L:isT (Cx.mk H j false) q.pos 1 zao with
 |true=>exact zqT H j I A z S q w J L
 |false=>
  cases M:isT (Cx.mk H j false) q.pos 1 zaj with
  |true=>exact zqU H j I A z S q w J L M
  |false=>
   cases N:isT (Cx.mk H j false) q.pos 1 zG with
   |true=>exact zqV H j I A z S q w J L M N
   |false=>
    cases O:isT (Cx.mk H j false) q.pos 1 zX with
    |true=>exact zqW H j I A z S q w J L M N O
    |false=>
     cases U:isT (Cx.mk H j false) q.pos 1 za0 with
     |true=>exact zqX H j I A z S q w J L M N O U
     |false=>
      cases V:isT (Cx.mk H j false) q.pos 1 zaA with
      |true=>exact zqY H j I A z S q w J L M N O U V
      |false=>
       exact zqZ H j I A z S q w J L M N O U V
theorem zrb (C:Cx) (H z j:Nat) (S:Sv) (q:PS) (w:World) (J:Mem C H z j S q w):
  Calls Tryz.prog 79 #[pv C H z S q (-1) 0] w (Out C H z j (zA C q) 0 S w):=by
 obtain⟨L,A,I⟩:=C
 cases I with
 |true=>exact zqS L A H z j S q w J
 |false=>exact zra L A H z j S q w J
theorem zkD (s:ByteArray) (j:Bool) (w:World) (hs:s.size≤4294967296):
  Calls Tryz.prog 32 #[.string s,.bool j] w fun e w'=>ParseOut s j w e w'∧Below w.heap.size w w':=by
 obtain⟨i0,hi,au,aA,ax⟩:=info_parts Tryz.infoExp
 go_enter Tryz.func32,Tryz.ntmps32
 go_wp2_with fail
 refine (znd s j _ hs).mono ?_
 rintro e w1 ⟨⟨r1,O,X⟩,b1⟩
 have ag:Hid (Below w.heap.size w w1):=((Below.refl _ _).alloc (Nat.le_refl _) _).trans (b1.mono (by rw[zl];omega))
 have hG:w1.heap[w.heap.size]? =some (.cells #[.slice none 0 0,.slice none 0 0,.slice none 0 0,.slice none 0 0,.slice none 0 0] 36 (0,0)):=(b1.block _ (by rw[zl];omega)).trans (heap_alloc_new w _)
 rw[zl] at b1
 cases r1 with
 |error p=>
  obtain⟨g,V,rfl,z⟩:=X
  have HY:Hid (zbs s j (.error p)):=⟨_,O,rfl⟩
  have HG:=zc hG
  obtain⟨c0,c1,c2,c3,c4,cf⟩:=zg hG
  have dz:decide ((0:Int)≤(p:Int))=true:=decide_eq_true (by omega)
  clear z O b1 hG
  go_wp2
  refine bodyPost_ret (zas rfl _ _ w.heap.size 36 _ (0,0) _ rfl (zbN HG.out) Tryz.underlying36 rfl (by kernel_rfl)) rfl ?_
  exact⟨⟨_,HY.out,rfl⟩,zcb ag.out (Nat.le_refl _) _ _ _ _ _⟩
 |ok A=>
  obtain⟨g,n,V,rfl,z⟩:=X
  obtain rfl:n=A.length:=z.2
  rw[zl] at z
  have ak:w.heap.size+1≤w1.heap.size:=by have:=b1.size;rw[zl] at this;exact this
  have aj:=ziY O
  have HR:=zc O
  have al:Mem ⟨A,s.size,j⟩ g V (w.heap.size+1) S0 zbS w1:=ziZ z aj ak
  have ao:=zc al
  have HG:=zc hG
  clear z O al hG
  go_wp2
  go_loopg [] (A.length+1) (fun k wr=>∃(x':PR) (I:Sv) (Z:PS) (z':Int),Is x' Z z'∧bd x' (za1 ⟨A,s.size,j⟩)=za1 ⟨A,s.size,j⟩ zbS∧(z'<0→A.length-Z.pos<k)∧Mem ⟨A,s.size,j⟩ g V (w.heap.size+1) I Z wr∧Below w.heap.size w wr∧Bx g I wr w1.heap.size #[.slice (some ⟨g,0,none⟩) A.length V,.int .i64 Z.pos,.int .i64 s.size,.bool j,.slice I.rq.a Z.rq.length I.rq.cap,.slice I.im.a Z.im.length I.im.cap,.slice I.ep.a Z.ep.length I.ep.cap,.slice I.st.a Z.st.length I.st.cap,.slice I.ex.a Z.ex.length I.ex.cap,.slice I.la.a Z.la.length I.la.cap,.int .i64 z',.int .i64 0]∧wr.heap[w.heap.size]? =some (.cells #[.slice none 0 0,.slice none 0 0,.slice none 0 0,.slice none 0 0,.slice none 0 0] 36 (0,0)))
  case atStart=>exact⟨.ok zbS,S0,zbS,-1,zab _,rfl,fun _=>by show A.length-0<A.length+1;omega,ao.out.alloc _,ag.out.alloc ag.out.size _,Bx.new ao.out _,(Below.heap_alloc _ _ _ (by omega)).trans HG.out⟩
  case round=>
   obtain⟨x2,S2,M,z2,i2,e2,l2,m2,t2,X0,G2⟩:=hrel
   have ai:=zc i2
   have ah:=zc e2
   have aw:=zc l2
   have q:=zc m2
   have ad:=zc t2
   have N:=zc X0
   have L:=zc G2
   have aE:M.pos≤A.length:=m2.inv.pos
   obtain⟨a0,a1,a2,a3,a4,a5,a6,a7,a8,a9,ab,ac,af⟩:=X0.box
   clear i2 e2 l2 m2 t2 X0 G2
   by_cases hz:z2<0
   ·have dz:decide (z2<0)=true:=decide_eq_true hz
    obtain⟨rfl,rfl⟩:=zaH ai.out hz
    by_cases hp:M.pos<A.length
    ·have aD:=aw.out hz
     go_wp2_with fail
     refine (zrb ⟨A,s.size,j⟩ g V (w.heap.size+1) S2 M _ q.out).mono ?_
     rintro e w3 ⟨S3,q3,z3,rfl,i3,m3,s3⟩
     have az:=zc m3
     have aq:=zc i3
     have aa:Hid (Below (w.heap.size+1) wr w3):=s3.under q.out.base q.out.own
     have Y:Hid (Bx g S3 w3 w1.heap.size _):=N.out.stp s3
     have ay:Hid (Below w.heap.size w w3):=ad.out.trans (aa.out.mono (by omega))
     have ae:Hid (w3.heap[w.heap.size]? =some (.cells #[.slice none 0 0,.slice none 0 0,.slice none 0 0,.slice none 0 0,.slice none 0 0] 36 (0,0))):=(aa.out.block _ (by omega)).trans L.out
     have HE:Hid (bd (zA ⟨A,s.size,j⟩ M) (za1 ⟨A,s.size,j⟩)=za1 ⟨A,s.size,j⟩ zbS):=by
      show _=_
      rw[←ah.out,zC,zgf,if_pos hp]
     have HP:Hid (z3<0→M.pos<q3.pos):=fun h=>zge (zaH aq.out h).1
     clear i3 m3 s3 a0 a1 a2 a3 a4 a5 a6 a7 a8 a9 ab ac af
     obtain⟨a0,a1,a2,a3,a4,a5,a6,a7,a8,a9,ab,ac,af⟩:=Y.out.box
     unfold pv
     go_wp2
     go_roundg (gk-1)
     case rel=>exact⟨_,S3,q3,z3,aq.out,HE.out,fun h=>by have:=HP.out h;omega,az.out.put Y.out _ _ _ _ _ _ _ _ _ _ _ _,zbU ay.out (by omega) _ _ _ _ _ _ _ _ _ _ _ _,Y.out.put _ _ _ _ _ _ _ _ _ _ _ _,(zfG (by omega) ..).trans ae.out⟩
     case measure=>omega
    ·have HD:Hid (za1 ⟨A,s.size,j⟩ zbS= .ok M):=by
      show _=_
      rw[←ah.out,zC,zgf,if_neg hp]
     have HY:Hid (zbs s j (.ok M)):=⟨_,HR.out,HD.out.symm⟩
     have am:w1.heap.size<wr.heap.size:=N.out.lt
     have aC:=q.out.inv.ep
     have H:=q.out.own.ep
     have aa:=q.out.base
     rcases q.out.own.la.nil_or with ⟨ha,hc,hn⟩|⟨gl,ha⟩
     ·have HN:Hid (M.la=[]):=List.eq_nil_of_length_eq_zero hn
      rw[ha,hc,hn] at a9
      obtain⟨c0,c1,c2,c3,c4,cf⟩:=zg L.out
      clear ha hc hn
      go_wp2_with (at_builtin;refine zmP _ rfl _ _ 32 rfl 86 i0 Tryz.underlying32 hi (w.heap.size+1) 4 M.ep.length S2.ep _ (by rfl) H (by rfl) ?_)
      clear H
      go_wp2
      refine bodyPost_ret (zas rfl _ _ w.heap.size 36 _ (0,0) _ rfl (zbN ((zn (by omega)).trans L.out)) Tryz.underlying36 rfl (by kernel_rfl)) rfl ?_
      refine⟨⟨_,HY.out,S2,by simp[zgg,HN.out],q.out.whole0 HN.out (Nat.lt_succ_self _) N.out.free fun k U h2=>?_⟩,zcb (ad.out.setCell (by show _≤w1.heap.size;omega) _) (Nat.le_refl _) _ _ _ _ _⟩
      rw[zn U,zn U,zn U,zn U,zn U,zn h2]
     ·have an:OwnR wr (w.heap.size+1) 86 4 ⟨some ⟨gl,0,none⟩,S2.la.cap⟩ M.la.length (M.la.flatMap epL):=by have:=q.out.own.la;unfold OwnR at this ⊢;rw[ha] at this;exact this
      rw[ha] at a9
      go_wp2_with (at_builtin;refine zmO _ rfl _ _ 32 rfl (w.heap.size+1) 86 i0 _ 4 56 Tryz.underlying32 hi au aA ax rfl (by decide) (by decide) S2.ep M.ep.length _ (by rfl) H gl M.la.length S2.la.cap (w.heap.size+1) _ (by rfl) an (zgh _) (by omega) aa ?_)
      intro r' w3 hr hg ap
      have aB:=zc hr
      have J:=zc hg
      have av:=zc ap
      have ar:=fun b hb=>zeb (W:=wr) q.out.own (Nat.le_refl _) (r:=S2.ep.blk) (fun k e=>.inr (.inr (.inl e))) b hb
      have Y:Hid (w3.heap[w1.heap.size]? =_):=(hg.block _ am (fun e=>N.out.free (.inr (.inr (.inl e.symm))))).trans N.out.heap
      have ae:Hid (w3.heap[w.heap.size]? =_):=(hg.block _ (by omega) (fun e=>by have:=(H.typed e.symm).1;omega)).trans L.out
      clear a0 a1 a2 a3 a4 a5 a6 a7 a8 a9 ab ac af hr hg ap ar H an
      obtain⟨a0,a1,a2,a3,a4,a5,a6,a7,a8,a9,ab,ac,af⟩:=zaq Y.out
      obtain⟨c0,c1,c2,c3,c4,cf⟩:=zg ae.out
      go_wp2
      refine bodyPost_ret (zas rfl _ _ w.heap.size 36 _ (0,0) _ rfl (zbN ((zn (by omega)).trans ae.out)) Tryz.underlying36 rfl (by kernel_rfl)) rfl ?_
      refine⟨⟨_,HY.out,{S2 with ep:=r'},by simp[zgg],q.out.whole J.out aB.out av.out (Nat.lt_succ_self _) am N.out.free fun k U h2=>?_⟩,zcb ((ad.out.trans (Below.mono (B:=w.heap.size+1) ⟨J.out.os,J.out.tape,J.out.output,J.out.size,fun k hk=>J.out.block k (by omega) fun e=>by have:=(q.out.own.ep.typed e.symm).1;omega⟩ (by omega))).setCell (by show _≤w1.heap.size;omega) _) (Nat.le_refl _) _ _ _ _ _⟩
      rw[zn U,zn U,zn U,zn U,zn U,zn h2]
   ·have dz:decide (z2<0)=false:=decide_eq_false hz
    obtain⟨e0,rfl,rfl⟩:=zd3 ai.out hz
    have aF:decide ((0:Int)≤(e0:Int))=true:=decide_eq_true (by omega)
    have HY:Hid (zbs s j (.error e0)):=⟨_,HR.out,(show (.error e0:PR)=za1 ⟨A,s.size,j⟩ zbS from ah.out)⟩
    obtain⟨c0,c1,c2,c3,c4,cf⟩:=zg L.out
    go_wp2
    go_region
    all_goals
     go_wp2
     refine bodyPost_ret (zas rfl _ _ w.heap.size 36 _ (0,0) _ rfl (zbN L.out) Tryz.underlying36 rfl (by kernel_rfl)) rfl ?_
     exact⟨⟨_,HY.out,rfl⟩,(zcb ad.out (Nat.le_refl _) ..).drew⟩
end Go.Proofs.YtjdddblpfbmpaaaGreat
