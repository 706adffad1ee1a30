/-
  What spec's l4Import answers: the walks.
  What spec's l4Export answers: the walks.
  What spec's l4Export answers to a list of names: the walks.
  What spec's l4Item answers: the walks.
  What spec's l4Item answers outside of a script: the walks.
  What spec.Parse answers: the walk.
-/
import Derived.Test.YtgcbmogmniahjaaGreatCAcSpecBoxToSpecParseK
namespace Go.Proofs.YtgcbmogmniahjaaGreat
set_option maxRecDepth 100000
set_option maxHeartbeats 6400000
open Go.RowKit Go.PlainAid
theorem zdv {C:Cx} {k:Int} {s:ByteArray} {q z:PS} {w:Int} (h:Is (bd (.ok q) (zd C k s)) z w) (A:isT C q.pos k s=true):z=adv q∧w= -1:=by
 rw[zA,zd,if_pos A] at h
 exact h
theorem zfM {α:Type} (f:α→PS→PR) (l:List α) (e:Nat):zZ f l (.error e)= .error e:=by
 induction l with
 |nil=>rfl
 |cons a l h=>exact h
theorem zgQ {α:Type} (f:α→PS→PR) (l:List α) (x:PR) {k:Nat} (h:k<l.length):zZ f (l.drop k) x=zZ f (l.drop (k+1)) (bd x (f (l[k]))):=by
 rw[List.drop_eq_getElem_cons h]
 rfl
theorem zlt {C:Cx} {h:PRN} {L N:PS} {K H:Int} {z A:ByteArray} {G:ByteArray→ByteArray→PS→PR} (J:Is2 h L K z) (w:Is2 (bd (bd (zaT h) (zd C 1 zW)) (zL C)) N H A):
  bd (bd (zaT (bd (bd (zaT h) (zd C 1 zW)) (zL C))) (zd C 4 cSemi)) (G A z)=bd h fun a=>bd (zbi C (zaM C (.ok a.1))) fun b=>G b.2 a.2 b.1:=by
 cases h with
 |error e=>rfl
 |ok a=>
  obtain⟨_,_,rfl⟩:=J
  have I:bd (bd (zaT (.ok a)) (zd C 1 zW)) (zL C)=zaM C (.ok a.1):=rfl
  rw[I] at w ⊢
  rw[zA]
  cases M:zaM C (.ok a.1) with
  |error e=>rfl
  |ok b=>
   rw[M] at w
   obtain⟨_,_,rfl⟩:=w
   show bd (zd C 4 cSemi b.1) (G b.2 a.2)=bd (bd (zd C 4 cSemi b.1) fun q=>.ok (q,b.2)) fun b=>G b.2 a.2 b.1
   rw[zP]
   rfl
def zfN (y:PRL):PR:=bd y fun a=>.ok a.1
theorem Is3.fst {y:PRL} {q:PS} {z:Int} {l:List Ep} (h:Is3 y q z l):Is (zfN y) q z:=by
 cases y with
 |ok a=>exact⟨h.1,h.2.1⟩
 |error e=>exact h
theorem zio {C:Cx} {y:PRL} {J M:PS} {I z:Int} {l:List Ep} {w:ByteArray} {G:ByteArray→Ep→PS→PR} (H:Is3 y J I l) (h:Is2 (bd (bd (zfN y) (zd C 1 zW)) (zL C)) M z w):
  zZ (G w) l (bd (zaT (bd (bd (zfN y) (zd C 1 zW)) (zL C))) (zd C 4 cSemi))=bd y fun a=>bd (zbi C (zaM C (.ok a.1))) fun b=>zZ (G b.2) a.2 (.ok b.1):=by
 cases y with
 |error e=>exact zfM _ _ _
 |ok a=>
  obtain⟨_,_,rfl⟩:=H
  have A:bd (bd (zfN (.ok a)) (zd C 1 zW)) (zL C)=zaM C (.ok a.1):=rfl
  rw[A] at h ⊢
  rw[zA]
  cases K:zaM C (.ok a.1) with
  |error e=>exact zfM _ _ _
  |ok b=>
   rw[K] at h
   obtain⟨_,_,rfl⟩:=h
   show zZ (G b.2) a.2 (bd (zaT (.ok b)) (zd C 4 cSemi))=bd (bd (zd C 4 cSemi b.1) fun q=>.ok (q,b.2)) fun b=>zZ (G b.2) a.2 (.ok b.1)
   have L:bd (zaT (.ok b)) (zd C 4 cSemi)=zd C 4 cSemi b.1:=rfl
   rw[L,zP]
   cases zd C 4 cSemi b.1 with
   |error e=>exact zfM _ _ _
   |ok c=>rfl
theorem Mem.drew {C:Cx} {A z base:Nat} {S:Sv} {q:PS} {w:World} (h:Mem C A z base S q w):Mem C A z base S q w.drew:=⟨⟨h.own.rq,h.own.im,h.own.ep,h.own.st,h.own.ex,h.own.la,h.own.apart⟩,h.inv,h.tok,h.few,h.base⟩
theorem Stp.undrew {S q:Sv} {w w':World} (h:Stp S w.drew q w'):Stp S w q w':=⟨h.os,h.tape,h.output,h.size,h.block,h.sub⟩
theorem Row.cells {S:Sv} {w:World} {base B g:Nat} {r:Rw} {l:List Ep} (h:Row S w base B r l) (K:r.a=some ⟨g,0,none⟩) {j:Nat} (H:j<l.length):
  w.cell? ⟨g,j*4+1,none⟩=some (.string (l[j]).name)∧w.cell? ⟨g,j*4+2,none⟩=some (.string (l[j]).loc):=by
 have z:=h.own
 unfold OwnR at z
 rw[K] at z
 have q: ∀(l:List Ep) (i c:Nat) (I:c<4) (A:i<l.length),(l.flatMap epL)[i*4+c]? =(epL l[i])[c]?:=by
  intro l
  induction l with
  |nil=>intro i c _ A;simp at A
  |cons x l J=>
   intro i c I A
   match i with
   |0=>
    simp only[List.flatMap_cons,Nat.zero_mul,Nat.zero_add,List.getElem_cons_zero]
    rw[List.getElem?_append_left (by simp[epL];omega)]
   |i+1=>
    simp only[List.flatMap_cons,List.getElem_cons_succ]
    rw[List.getElem?_append_right (by simp[epL];omega)]
    have e:(i+1)*4+c-(epL x).length=i*4+c:=by simp[epL];omega
    rw[e]
    exact J i c I (by simpa using A)
 rw[z.cellAt _ (by omega),z.cellAt _ (by omega)]
 exact⟨q l j 1 (by omega) H,q l j 2 (by omega) H⟩
theorem zsi {C:Cx} {y:Im} {x:PR} {q q':PS} {z z':Int} (A:z<0→1≤q.pos) (I:Is x q z) (h:Is (bd x (zan C y)) q' z'):z'<0→1≤q'.pos:=by
 intro J
 obtain⟨e,_⟩:=zaJ h J
 obtain⟨a,H,w⟩:=zn e
 subst H
 obtain⟨rfl,rfl⟩:=I
 unfold zan at w
 split at w
 ·cases w
 ·cases w
  exact A (by decide)
theorem ziq {C:Cx} {y:Ep} {x:PR} {q q':PS} {z z':Int} (A:z<0→1≤q.pos) (I:Is x q z) (h:Is (bd x (zq C y)) q' z'):z'<0→1≤q'.pos:=by
 intro J
 obtain⟨e,_⟩:=zaJ h J
 obtain⟨a,H,w⟩:=zn e
 subst H
 obtain⟨rfl,rfl⟩:=I
 unfold zq at w
 split at w
 ·cases w
 ·split at w
  ·cases w
   exact A (by decide)
  ·cases w
   exact A (by decide)
theorem zsj (C:Cx) (z h base:Nat) (S:Sv) (q:PS) (w:World) (hm:Mem C z h base S q w) (hw:isT C q.pos 1 zam=true) (h1:isT C (q.pos+1) 4 zN=false) (h2:isT C (q.pos+1) 4 zy=true):
  Calls Tryz.prog 114 #[pv C z h S q (-1) 0] w (Out C z h base (zbc C q) 0 S w):=by
 have HM:=zc hm
 have I:=hm.few
 clear hm
 have HV:Hid (zbc C q=bd (bd (bd (bd (.ok (adv q)) (zd C 4 zy)) (zd C 1 sAs)) (zm C false)) fun a=>bd (zbi C (zaM C (.ok a.1))) fun b=>zan C ⟨b.2,zy,a.2⟩ b.1):=by
  show _=_
  rw[zbc,zd,if_pos hw,zA]
  rw[zz,h1,h2]
  rfl
 unfold pv
 go_enter Tryz.func114,Tryz.ntmps114
 go_wp2_with fail
 refine (zaP C z h base (.ok q) S q (-1) 0 zam _ (zab q) ((HM.out.alloc _).alloc _)).mono ?_
 rintro e w1 ⟨S1,M,z1,rfl,O,m1,s1⟩
 have F:=HM.out.fm2 m1 s1
 obtain⟨L,rfl⟩:=zdv O.out hw
 have HQ:=zc L
 have J:Hid (M.pos=q.pos+1):=by show M.pos=q.pos+1;rw[L];rfl
 clear L O
 have K:=F.x0.boxC
 unfold pv
 go_upto_region 2 with fail
 refine (F.put0 ..).cut ?_
 clear K
 intro w2 F
 have K:=F.x0.boxC
 go_wp2_with fail
 refine (zk C z h base S1 M (-1) 0 4 zN _ F.m.tok I (by decide)).mono ?_
 rintro e w3 ⟨rfl,aj⟩
 rw[J.out,h1]
 replace F:=F.below aj
 clear K
 have K:=F.x0.boxC
 go_wp2_with fail
 refine (zk C z h base S1 M (-1) 0 4 zy _ F.m.tok I (by decide)).mono ?_
 rintro e w4 ⟨rfl,ap⟩
 rw[J.out,h2]
 replace F:=F.below ap
 clear K
 have K:=F.x0.boxC
 clear J
 go_wp2_with fail
 refine (zaj C z h base (.ok M) S1 M (-1) 0 zy _ (zab M) F.m).mono ?_
 rintro e w5 ⟨S5,q5,z5,rfl,am,m5,s5⟩
 replace F:=F.stp m5 s5
 clear K
 go_wp2_with fail
 refine (zaP C z h base _ S5 q5 z5 0 sAs _ am.out F.m).mono ?_
 rintro e w6 ⟨S6,q6,z6,rfl,ad,m6,s6⟩
 replace F:=F.stp m6 s6
 go_wp2_with fail
 refine (zbq C z h base _ S6 q6 z6 0 false _ ad.out F.m).mono ?_
 rintro e w7 ⟨S7,q7,z7,n7,rfl,U,m7,s7⟩
 replace F:=F.stp m7 s7
 have au:w.heap.size+1<w7.heap.size:=F.x1.lt
 unfold pv
 go_upto_region 13 with fail
 refine (F.new2 _).cut ?_
 intro w8 F
 have cb:=F.x2.boxC
 go_wp2_with fail
 refine (zaP C z h base _ S7 q7 z7 0 zW _ U.out.fst F.m).mono ?_
 rintro e w9 ⟨S9,q9,z9,rfl,ai,m9,s9⟩
 replace F:=F.stp m9 s9
 clear cb
 go_wp2_with fail
 refine (zey C z h base _ S9 q9 z9 0 _ ai.out F.m).mono ?_
 rintro e V ⟨ah,aq,Y,ak,rfl,H,an,ac⟩
 replace F:=F.stp an ac
 have ar:w.heap.size+1<V.heap.size:=F.x1.lt
 have X:w7.heap.size<V.heap.size:=F.x2.lt
 unfold pv
 go_upto_region 14 with fail
 refine (F.new3 _).cut ?_
 intro aw F
 have db:=F.x3.boxC
 go_wp2_with fail
 refine (zaj C z h base _ ah aq Y 0 cSemi _ H.out.fst F.m).mono ?_
 rintro e aA ⟨al,aa,ao,rfl,A,Z,af⟩
 replace F:=F.stp Z af
 clear db
 go_wp2_with fail
 refine (zhA C z h base _ al aa ao 0 ⟨ak,zy,n7⟩ _ A.out F.m (zby A.out)).mono ?_
 rintro e az ⟨ay,ax,av,rfl,N,ag,ae⟩
 replace F:=F.stp ag ae
 have bb:=F.x1.boxC
 unfold pv
 go_wp2
 refine (F.x1.put ..).ret rfl rfl ?_
 rw[HV.out,←HQ.out,←zlt (G:=fun b a=>zan C ⟨b,zy,a⟩) U.out H.out]
 exact (F.put1 ..).done rfl N.out
theorem zsk (C:Cx) (z h base:Nat) (S:Sv) (q:PS) (w:World) (hm:Mem C z h base S q w) (hw:isT C q.pos 1 zam=true) (h1:isT C (q.pos+1) 4 zN=false) (h2:isT C (q.pos+1) 4 zy=false) (h3:zH C (q.pos+1) false=true):
  Calls Tryz.prog 114 #[pv C z h S q (-1) 0] w (Out C z h base (zbc C q) 0 S w):=by
 have HM:=zc hm
 have A:=hm.few
 clear hm
 have HV:Hid (zbc C q=bd (bd (.ok (adv q)) (zm C false)) fun a=>bd (zbi C (zaM C (.ok a.1))) fun b=>zan C ⟨b.2,sDefault,a.2⟩ b.1):=by
  show _=_
  rw[zbc,zd,if_pos hw,zA]
  rw[zz,h1,h2,h3]
  rfl
 unfold pv
 go_enter Tryz.func114,Tryz.ntmps114
 go_wp2_with fail
 refine (zaP C z h base (.ok q) S q (-1) 0 zam _ (zab q) ((HM.out.alloc _).alloc _)).mono ?_
 rintro e w1 ⟨X,K,z1,rfl,M,m1,s1⟩
 have F:=HM.out.fm2 m1 s1
 obtain⟨L,rfl⟩:=zdv M.out hw
 have HQ:=zc L
 have H:Hid (K.pos=q.pos+1):=by show K.pos=q.pos+1;rw[L];rfl
 clear L M
 have I:=F.x0.boxC
 unfold pv
 go_upto_region 2 with fail
 refine (F.put0 ..).cut ?_
 clear I
 intro w2 F
 have I:=F.x0.boxC
 go_wp2_with fail
 refine (zk C z h base X K (-1) 0 4 zN _ F.m.tok A (by decide)).mono ?_
 rintro e w3 ⟨rfl,aj⟩
 rw[H.out,h1]
 replace F:=F.below aj
 clear I
 have I:=F.x0.boxC
 go_wp2_with fail
 refine (zk C z h base X K (-1) 0 4 zy _ F.m.tok A (by decide)).mono ?_
 rintro e w4 ⟨rfl,af⟩
 rw[H.out,h2]
 replace F:=F.below af
 clear I
 have I:=F.x0.boxC
 go_wp2_with fail
 refine (zgn C z h base X K (-1) 0 false _ F.m.tok A).mono ?_
 rintro e w5 ⟨rfl,Z⟩
 rw[H.out,h3]
 replace F:=F.below Z
 clear I
 have I:=F.x0.boxC
 clear H
 go_wp2_with fail
 refine (zbq C z h base (.ok K) X K (-1) 0 false _ (zab K) F.m).mono ?_
 rintro e w6 ⟨S6,q6,z6,n6,rfl,O,m6,s6⟩
 replace F:=F.stp m6 s6
 clear I
 have ak:w.heap.size+1<w6.heap.size:=F.x1.lt
 unfold pv
 go_upto_region 17 with fail
 refine (F.new2 _).cut ?_
 intro w7 F
 have cb:=F.x2.boxC
 go_wp2_with fail
 refine (zaP C z h base _ S6 q6 z6 0 zW _ O.out.fst F.m).mono ?_
 rintro e w8 ⟨S8,q8,z8,rfl,ac,m8,s8⟩
 replace F:=F.stp m8 s8
 clear cb
 go_wp2_with fail
 refine (zey C z h base _ S8 q8 z8 0 _ ac.out F.m).mono ?_
 rintro e w9 ⟨S9,q9,z9,n9,rfl,U,m9,s9⟩
 replace F:=F.stp m9 s9
 have al:w.heap.size+1<w9.heap.size:=F.x1.lt
 have V:w6.heap.size<w9.heap.size:=F.x2.lt
 unfold pv
 go_upto_region 18 with fail
 refine (F.new3 _).cut ?_
 intro ar F
 have db:=F.x3.boxC
 go_wp2_with fail
 refine (zaj C z h base _ S9 q9 z9 0 cSemi _ U.out.fst F.m).mono ?_
 rintro e am ⟨ad,aa,ah,rfl,J,ae,ai⟩
 replace F:=F.stp ae ai
 clear db
 go_wp2_with fail
 refine (zhA C z h base _ ad aa ah 0 ⟨n9,sDefault,n6⟩ _ J.out F.m (zby J.out)).mono ?_
 rintro e aq ⟨an,ao,ap,rfl,N,Y,ag⟩
 replace F:=F.stp Y ag
 have bb:=F.x1.boxC
 unfold pv
 go_wp2
 refine (F.x1.put ..).ret rfl rfl ?_
 rw[HV.out,←HQ.out,←zlt (G:=fun b a=>zan C ⟨b,sDefault,a⟩) O.out U.out]
 exact (F.put1 ..).done rfl N.out
theorem zsl (C:Cx) (I h base:Nat) (S:Sv) (q:PS) (w:World) (V:Mem C I h base S q w) (hw:isT C q.pos 1 zam=true) (h1:isT C (q.pos+1) 4 zN=false) (Z:isT C (q.pos+1) 4 zy=false) (h3:zH C (q.pos+1) false=false):
  Calls Tryz.prog 114 #[pv C I h S q (-1) 0] w (Out C I h base (zbc C q) 0 S w):=by
 have HM:=zc V
 have z:=V.few
 clear V
 have HV:Hid (zbc C q=bd (bd (.ok (adv q)) (zL C)) fun a=>zd C 4 cSemi a.1):=by
  show _=_
  rw[zbc,zd,if_pos hw,zA]
  rw[zz,h1,Z,h3]
  rfl
 unfold pv
 go_enter Tryz.func114,Tryz.ntmps114
 go_wp2_with fail
 refine (zaP C I h base (.ok q) S q (-1) 0 zam _ (zab q) ((HM.out.alloc _).alloc _)).mono ?_
 rintro e w1 ⟨N,J,z1,rfl,L,m1,s1⟩
 have F:=HM.out.fm2 m1 s1
 obtain⟨K,rfl⟩:=zdv L.out hw
 have HQ:=zc K
 have A:Hid (J.pos=q.pos+1):=by show J.pos=q.pos+1;rw[K];rfl
 clear K L
 have H:=F.x0.boxC
 unfold pv
 go_upto_region 2 with fail
 refine (F.put0 ..).cut ?_
 clear H
 intro w2 F
 have H:=F.x0.boxC
 go_wp2_with fail
 refine (zk C I h base N J (-1) 0 4 zN _ F.m.tok z (by decide)).mono ?_
 rintro e w3 ⟨rfl,Y⟩
 rw[A.out,h1]
 replace F:=F.below Y
 clear H
 have H:=F.x0.boxC
 go_wp2_with fail
 refine (zk C I h base N J (-1) 0 4 zy _ F.m.tok z (by decide)).mono ?_
 rintro e w4 ⟨rfl,X⟩
 rw[A.out,Z]
 replace F:=F.below X
 clear H
 have H:=F.x0.boxC
 go_wp2_with fail
 refine (zgn C I h base N J (-1) 0 false _ F.m.tok z).mono ?_
 rintro e w5 ⟨rfl,O⟩
 rw[A.out,h3]
 replace F:=F.below O
 clear H
 have H:=F.x0.boxC
 clear A
 go_wp2_with fail
 refine (zey C I h base (.ok J) N J (-1) 0 _ (zab J) F.m).mono ?_
 rintro e w6 ⟨S6,q6,z6,n6,rfl,M,m6,s6⟩
 replace F:=F.stp m6 s6
 clear H
 have aa:w.heap.size+1<w6.heap.size:=F.x1.lt
 unfold pv
 go_upto_region 20 with fail
 refine (F.new2 _).cut ?_
 intro w7 F
 have cb:=F.x2.boxC
 go_wp2_with fail
 refine (zaj C I h base _ S6 q6 z6 0 cSemi _ M.out.fst F.m).mono ?_
 rintro e w8 ⟨S8,q8,z8,rfl,U,m8,s8⟩
 replace F:=F.stp m8 s8
 clear cb
 have bb:=F.x1.boxC
 unfold pv
 go_wp2
 refine (F.x1.put ..).ret rfl rfl ?_
 rw[HV.out,←HQ.out,←M.out.bind (fun q _=>zd C 4 cSemi q)]
 exact (F.put1 ..).done rfl U.out
theorem zsm (C:Cx) (H h base:Nat) (S:Sv) (q:PS) (w:World) (hm:Mem C H h base S q w) (hw:isT C q.pos 1 zam=true) (h1:isT C (q.pos+1) 4 zN=true):
  Calls Tryz.prog 114 #[pv C H h S q (-1) 0] w (Out C H h base (zbc C q) 0 S w):=by
 have HM:=zc hm
 have am:=hm.few
 clear hm
 have HV:Hid (zbc C q=bd (zde C false (adv q)) fun a=>bd (zbi C (zaM C (.ok a.1))) fun b=>zZ (fun e=>zan C (zcf b.2 e)) a.2 (.ok b.1)):=by
  show _=_
  rw[zbc,zd,if_pos hw,zA]
  rw[zz,h1]
  rfl
 unfold pv
 go_enter Tryz.func114,Tryz.ntmps114
 go_wp2_with fail
 refine (zaP C H h base (.ok q) S q (-1) 0 zam _ (zab q) ((HM.out.alloc _).alloc _)).mono ?_
 rintro e w1 ⟨S1,q1,z1,rfl,aa,m1,s1⟩
 have F:=HM.out.fm2 m1 s1
 obtain⟨U,rfl⟩:=zdv aa.out hw
 have HQ:=zc U
 have X:Hid (q1.pos=q.pos+1):=by show q1.pos=q.pos+1;rw[U];rfl
 clear U aa
 have J:=F.x0.boxC
 unfold pv
 go_upto_region 2 with fail
 refine (F.put0 ..).cut ?_
 clear J
 intro w2 F
 have J:=F.x0.boxC
 go_wp2_with fail
 refine (zk C H h base S1 q1 (-1) 0 4 zN _ F.m.tok am (by decide)).mono ?_
 rintro e w3 ⟨rfl,aw⟩
 rw[X.out,h1]
 replace F:=F.below aw
 clear J
 have J:=F.x0.boxC
 clear X
 have ap:=F.t.size
 go_wp2_with fail
 refine (zlf C H h base S1 q1 0 false _ F.m).mono ?_
 rintro e w4 ⟨S4,q4,z4,⟨ra,rc⟩,l,rfl,i4,m4,s4,R0,hl⟩
 obtain⟨g,rfl⟩: ∃g,ra=some ⟨g,0,none⟩:=R0.addr
 replace F:=F.stp m4 s4
 have ae:=zc i4
 clear J
 have z:Hid (Row S4 w4 base w.heap.size ⟨some ⟨g,0,none⟩,rc⟩ l):=⟨R0.own,R0.free,fun k hk=>Nat.le_trans ap (R0.new k hk),R0.addr⟩
 clear R0
 have aA:w.heap.size+1<w4.heap.size:=F.x1.lt
 unfold pv
 go_upto_region 4 with fail
 refine (F.new2 _).cutR (RW:=fun W=>Row S4 W base w.heap.size ⟨some ⟨g,0,none⟩,rc⟩ l) (z.out.alloc _) ?_
 clear z
 intro w5 F R0
 have z:=zc R0
 clear R0
 obtain⟨c0,c1,c2,c3,c4,c5,c6,c7,c8,c9,aq,ax,cf⟩:=F.x2.box
 go_wp2_with fail
 refine (zaP C H h base _ S4 q4 z4 0 zW _ ae.out.fst F.m).mono ?_
 rintro e w6 ⟨S6,q6,z6,rfl,ar,m6,s6⟩
 replace z:=zc (z.out.stp s6)
 replace F:=F.stp m6 s6
 clear c0 c1 c2 c3 c4 c5 c6 c7 c8 c9 aq ax cf
 go_wp2_with fail
 refine (zey C H h base _ S6 q6 z6 0 _ ar.out F.m).mono ?_
 rintro e w7 ⟨S7,q7,z7,Z,rfl,ac,m7,s7⟩
 replace z:=zc (z.out.stp s7)
 replace F:=F.stp m7 s7
 have az:w.heap.size+1<w7.heap.size:=F.x1.lt
 have an:w4.heap.size<w7.heap.size:=F.x2.lt
 unfold pv
 go_upto_region 5 with fail
 refine (F.new3 _).cutR (RW:=fun W=>Row S7 W base w.heap.size ⟨some ⟨g,0,none⟩,rc⟩ l) (z.out.alloc _) ?_
 clear z
 intro w8 F R0
 have z:=zc R0
 clear R0
 obtain⟨d0,d1,d2,d3,d4,d5,d6,d7,d8,d9,V,N,df⟩:=F.x3.box
 go_wp2_with fail
 refine (zaj C H h base _ S7 q7 z7 0 cSemi _ ac.out.fst F.m).mono ?_
 rintro e w9 ⟨S9,q9,z9,rfl,I,m9,s9⟩
 replace z:=zc (z.out.stp s9)
 replace F:=F.stp m9 s9
 clear d0 d1 d2 d3 d4 d5 d6 d7 d8 d9 V N df
 have J:=F.x0.boxC
 unfold pv
 go_upto_region 6 with fail
 refine (F.put0 ..).cutR (RW:=fun W=>Row S9 W base w.heap.size ⟨some ⟨g,0,none⟩,rc⟩ l) (z.out.put F.x0 ..) ?_
 clear J
 clear z
 intro aj F R0
 have z:=zc R0
 clear R0
 have au:Hid (_=_):=zio (G:=fun b e=>zan C (zcf b e)) ae.out ac.out
 go_wp2
 go_loopg [8] l.length (fun k i wr=>∃(j:Nat) (x':PR) (A:Sv) (K:PS) (z':Int),j≤l.length∧i= .int .i64 j∧Is x' K z'∧(z'<0→1≤K.pos)∧zZ (fun e=>zan C (zcf Z e)) (l.drop j) x'=zbc C q∧l.length-j=k∧Mem C H h base A K wr∧SB w.heap.size S w A wr∧Bx H A wr w.heap.size #[.slice (some ⟨H,0,none⟩) C.ts.length h,.int .i64 K.pos,.int .i64 C.fin,.bool C.scr,.slice A.rq.a K.rq.length A.rq.cap,.slice A.im.a K.im.length A.im.cap,.slice A.ep.a K.ep.length A.ep.cap,.slice A.st.a K.st.length A.st.cap,.slice A.ex.a K.ex.length A.ex.cap,.slice A.la.a K.la.length A.la.cap,.int .i64 z',.int .i64 0]∧Bx H A wr (w.heap.size+1) #[.slice none 0 0,.int .i64 0,.int .i64 0,.bool false,.slice none 0 0,.slice none 0 0,.slice none 0 0,.slice none 0 0,.slice none 0 0,.slice none 0 0,.int .i64 0,.int .i64 0]∧Row A wr base w.heap.size ⟨some ⟨g,0,none⟩,rc⟩ l)
 case atStart=>exact⟨0,_,S9,q9,z9,Nat.zero_le _,rfl,I.out,zby I.out,by rw[HV.out,←HQ.out];exact au.out,rfl,F.m,F.t,F.x0,F.x1,z.out⟩
 case round=>
  obtain⟨j,x9,S9,q9,z9,hj,rfl,i9,p9,e9,g9,m9,t9,X0,X1,R0⟩:=hrel
  clear z
  have F:=Fm.of2 X0 X1 m9 t9 (by omega) (by omega) (by omega)
  have I:=zc i9
  have af:=zc p9
  have Y:=zc e9
  have al:=zc g9
  have z:=zc R0
  clear X0 X1 i9 m9 t9 e9 g9 R0 p9
  by_cases ad:j<l.length
  ·skip
   obtain⟨c1,c2⟩:=z.out.cells (g:=g) rfl ad
   have aB:=z.out.own.lt (g:=g) rfl
   have HX:Hid (∀e,e=l[j]→zZ (fun e=>zan C (zcf Z e)) (l.drop (j+1)) (bd x9 (zan C (zcf Z e)))=zbc C q):=fun e he=>by rw[he,←Y.out];exact (zgQ (fun e=>zan C (zcf Z e)) l x9 ad).symm
   generalize ah:l[j]=el at c1 c2
   have av:Hid (el=l[j]):=ah.symm
   clear ah
   have J:=F.x0.boxC
   go_upto_region 9 with fail
   go_region_law (first|(go_simp;go_wp2_with (go_at_call 154;refine (zhA C H h base x9 S9 q9 z9 0 (zcf Z el) _ I.out F.m.drew af.out).mono ?_;rintro e aj ⟨ag,ay,ao,rfl,ai,ak,O⟩;obtain⟨d0,d1,d2,d3,d4,d5,d6,d7,d8,d9,V,N,df⟩:=(F.x0.stp O.undrew).box;unfold pv)))
   all_goals
    clear J d0 d1 d2 d3 d4 d5 d6 d7 d8 d9 V N df
    have M:=zc ai
    have L:Hid (Stp S9 wr ag aj):=O.undrew
    replace F:=F.stp ak L.out
    clear ai ak O
    go_wp2
    go_roundg (gk-1)
    case rel=>exact⟨j+1,_,ag,ay,ao,by omega,by go_num,M.out,zsi af.out I.out M.out,HX.out el av.out,by have:=al.out;omega,F.m.put F.x0 _ _ _ _ _ _ _ _ _ _ _ _,F.t.put (by omega) _ _ _ _ _ _ _ _ _ _ _ _,F.x0.put _ _ _ _ _ _ _ _ _ _ _ _,F.x1.other (by omega) _ _ _ _ _ _ _ _ _ _ _ _,(z.out.stp L.out).put F.x0 _ _ _ _ _ _ _ _ _ _ _ _⟩
    case measure=>have:=al.out;omega
  ·skip
   have J:=F.x0.boxC
   have bb:=F.x1.boxC
   go_wp2
   refine (F.x1.put ..).ret rfl rfl ?_
   exact (F.put1 ..).done rfl (show Is (zbc C q) q9 z9 from by rw[←Y.out,List.drop_eq_nil_of_le (by omega)];exact I.out)
theorem zsn {C:Cx} {k:Int} {n:ByteArray} {q q':PS} (h:zY C k n q= .ok q'):q'={q with st:=q.st++[⟨k,n,(q.ex.length:Int)-1⟩]}∧q.st.length<80:=by
 unfold zY at h
 split at h
 ·cases h
 ·cases h
  exact⟨rfl,by omega⟩
theorem zlu {C:Cx} {x:PR} {k:Int} {s:ByteArray} {j:Int} {n:ByteArray} {q:PS} {z:Int} (h:Is (bd (bd x (zd C k s)) (zY C j n)) q z):z<0→1≤q.pos:=by
 intro I
 obtain⟨e,_⟩:=zaJ h I
 obtain⟨a,w,A⟩:=zn e
 obtain⟨b,_,H⟩:=zn w
 obtain⟨rfl,_⟩:=zbV H
 obtain⟨rfl,_⟩:=zsn A
 simp[adv]
theorem zlv {C:Cx} {y:PRN} {G:PR→PR} {k:Int} {s:ByteArray} {j:Int} {q:PS} {z:Int} {n:ByteArray} (h:Is2 (withN y fun x n=>bd (bd (G x) (zd C k s)) (zY C j n)) q z n):z<0→1≤q.pos:=by
 intro H
 cases y with
 |error e=>have:z=(e:Int):=h;omega
 |ok a=>
  have w:Is2 (bd (bd (bd (G (.ok a.1)) (zd C k s)) (zY C j a.2)) fun q=>.ok (q,a.2)) q z n:=h
  cases A:bd (bd (G (.ok a.1)) (zd C k s)) (zY C j a.2) with
  |error e=>rw[A] at w;have:z=(e:Int):=w;omega
  |ok b=>
   rw[A] at w
   obtain⟨rfl,rfl,_⟩:=w
   exact zlu (show Is (bd (bd (G (.ok a.1)) (zd C k s)) (zY C j a.2)) q (-1) by rw[A];exact⟨rfl,rfl⟩) (by decide)
theorem zso {C:Cx} {w q:PS} {z:Int} {n:ByteArray} (h:Is2 (zcO C w) q z n):z<0→1≤q.pos:=zlv (G:=fun x=>bd (bd x (zd C 4 cEq)) (pE C .sum 0)) h
theorem zsp {C:Cx} {w q:PS} {z:Int} {n:ByteArray} (h:Is2 (fnP C w) q z n):z<0→1≤q.pos:=zlv (G:=fun x=>bd (bd (bd (bd (bd (bd x (zd C 4 zp)) (zd C 4 za8)) (zd C 4 zN)) (zd C 1 ze9)) (pE C .sum 0)) (zd C 4 cSemi)) h
theorem zsq {C:Cx} {x:PR} {I:PS} {z:Int} {w:ByteArray} {G:ByteArray→PS→PR} (h:Is2 (bd (bd x (zd C 1 zW)) (zL C)) I z w):
  bd (bd (zaT (bd (bd x (zd C 1 zW)) (zL C))) (zd C 4 cSemi)) (G w)=bd (zbi C (zaM C x)) fun b=>G b.2 b.1:=by
 have A:bd (bd x (zd C 1 zW)) (zL C)=zaM C x:=rfl
 rw[A] at h ⊢
 cases H:zaM C x with
 |error e=>rfl
 |ok b=>
  rw[H] at h
  obtain⟨_,_,rfl⟩:=h
  show bd (zd C 4 cSemi b.1) (G b.2)=bd (bd (zd C 4 cSemi b.1) fun q=>.ok (q,b.2)) fun b=>G b.2 b.1
  rw[zP]
  rfl
theorem zsr {C:Cx} {y:PRL} {w:PS} {h:Int} {l:List Ep} {f:Ep→PS→PR} {D:PS×List Ep→PR} (A:Is3 y w h l) (H:zaH l=false) (z:(decide (h<0)&&isT C w.pos 1 zW)=false):
  zZ f l (bd (zfN y) (zd C 4 cSemi))=bd y fun a=>if !zaH a.2&& !isT C a.1.pos 1 zW then bd (zd C 4 cSemi a.1) fun q=>zZ f a.2 (.ok q) else D a:=by
 cases y with
 |error e=>exact zfM _ _ _
 |ok a=>
  obtain⟨rfl,rfl,rfl⟩:=A
  rw[Bool.and_eq_false_iff] at z
  rw[zA,H,z.resolve_left (by decide)]
  show zZ f a.2 (zd C 4 cSemi a.1)=bd (zd C 4 cSemi a.1) fun q=>zZ f a.2 (.ok q)
  cases zd C 4 cSemi a.1 with
  |error e=>exact zfM _ _ _
  |ok c=>rfl
theorem zlw {C:Cx} {y:PRL} {w:PS} {z:Int} {l:List Ep} {D E:PS×List Ep→PR} (A:Is3 y w z l) (q:zaH l=true∨(decide (z<0)&&isT C w.pos 1 zW)=true):
  bd y D=bd y fun a=>if !zaH a.2&& !isT C a.1.pos 1 zW then E a else D a:=by
 cases y with
 |error e=>rfl
 |ok a=>
  obtain⟨rfl,rfl,rfl⟩:=A
  rw[zA,zA]
  rcases q with h|h
  ·rw[h];rfl
  ·rw[Bool.and_eq_true] at h
   rw[h.2,Bool.not_true,Bool.and_false]
   rfl
theorem zss (C:Cx) (z h base:Nat) (S:Sv) (q:PS) (w:World) (Z:Mem C z h base S q w) (hw:isT C q.pos 1 zal=true) (h1:isT C (q.pos+1) 4 zN=false) (h2:isT C (q.pos+1) 4 zy=true):
  Calls Tryz.prog 115 #[pv C z h S q (-1) 0] w (Out C z h base (zao C q) 0 S w):=by
 have HM:=zc Z
 have A:=Z.few
 clear Z
 have HV:Hid (zao C q=bd (zbi C (zaM C (bd (.ok (adv q)) (zd C 4 zy)))) fun b=>zq C ⟨3,sNone,sNone,b.2⟩ b.1):=by
  show _=_
  rw[zao,zd,if_pos hw,zA]
  rw[zz,h1,h2]
  rfl
 unfold pv
 go_enter Tryz.func115,Tryz.ntmps115
 go_wp2_with fail
 refine (zaP C z h base (.ok q) S q (-1) 0 zal _ (zab q) ((HM.out.alloc _).alloc _)).mono ?_
 rintro e w1 ⟨S1,J,z1,rfl,L,m1,s1⟩
 have F:=HM.out.fm2 m1 s1
 obtain⟨H,rfl⟩:=zdv L.out hw
 have HQ:=zc H
 have I:Hid (J.pos=q.pos+1):=by show J.pos=q.pos+1;rw[H];rfl
 clear H L
 have K:=F.x0.boxC
 unfold pv
 go_upto_region 2 with fail
 refine (F.put0 ..).cut ?_
 clear K
 intro w2 F
 have K:=F.x0.boxC
 go_wp2_with fail
 refine (zk C z h base S1 J (-1) 0 4 zN _ F.m.tok A (by decide)).mono ?_
 rintro e w3 ⟨rfl,ac⟩
 rw[I.out,h1]
 replace F:=F.below ac
 clear K
 have K:=F.x0.boxC
 go_wp2_with fail
 refine (zk C z h base S1 J (-1) 0 4 zy _ F.m.tok A (by decide)).mono ?_
 rintro e w4 ⟨rfl,aa⟩
 rw[I.out,h2]
 replace F:=F.below aa
 clear K
 have K:=F.x0.boxC
 clear I
 go_wp2_with fail
 refine (zaj C z h base (.ok J) S1 J (-1) 0 zy _ (zab J) F.m).mono ?_
 rintro e w5 ⟨S5,q5,z5,rfl,V,m5,s5⟩
 replace F:=F.stp m5 s5
 clear K
 go_wp2_with fail
 refine (zaP C z h base _ S5 q5 z5 0 zW _ V.out F.m).mono ?_
 rintro e w6 ⟨S6,q6,z6,rfl,U,m6,s6⟩
 replace F:=F.stp m6 s6
 go_wp2_with fail
 refine (zey C z h base _ S6 q6 z6 0 _ U.out F.m).mono ?_
 rintro e w7 ⟨S7,q7,z7,n7,rfl,M,m7,s7⟩
 replace F:=F.stp m7 s7
 have ad:w.heap.size+1<w7.heap.size:=F.x1.lt
 unfold pv
 go_upto_region 20 with fail
 refine (F.new2 _).cut ?_
 intro w8 F
 have cb:=F.x2.boxC
 go_wp2_with fail
 refine (zaj C z h base _ S7 q7 z7 0 cSemi _ M.out.fst F.m).mono ?_
 rintro e w9 ⟨S9,q9,z9,rfl,O,m9,s9⟩
 replace F:=F.stp m9 s9
 clear cb
 go_wp2_with fail
 refine (zek C z h base _ S9 q9 z9 0 ⟨3,sNone,sNone,n7⟩ _ O.out F.m (zby O.out)).mono ?_
 rintro e ag ⟨af,ah,ae,rfl,N,X,Y⟩
 replace F:=F.stp X Y
 have bb:=F.x1.boxC
 unfold pv
 go_wp2
 refine (F.x1.put ..).ret rfl rfl ?_
 rw[HV.out,←HQ.out,←zsq (G:=fun b=>zq C ⟨3,sNone,sNone,b⟩) M.out]
 exact (F.put1 ..).done rfl N.out
theorem zst (C:Cx) (z h base:Nat) (S:Sv) (q:PS) (w:World) (hm:Mem C z h base S q w) (hw:isT C q.pos 1 zal=true) (h1:isT C (q.pos+1) 4 zN=false) (h2:isT C (q.pos+1) 4 zy=false) (h3:isT C (q.pos+1) 1 sDefault=true):
  Calls Tryz.prog 115 #[pv C z h S q (-1) 0] w (Out C z h base (zao C q) 0 S w):=by
 have HM:=zc hm
 have A:=hm.few
 clear hm
 have HV:Hid (zao C q=bd (bd (bd (bd (bd (.ok (adv q)) (zd C 1 sDefault)) (pE C .sum 0)) (zd C 4 cSemi)) (zY C 1 zcp)) (zq C ⟨1,sDefault,zcp,sNone⟩)):=by
  show _=_
  rw[zao,zd,if_pos hw,zA]
  rw[zz,h1,h2,h3]
  rfl
 unfold pv
 go_enter Tryz.func115,Tryz.ntmps115
 go_wp2_with fail
 refine (zaP C z h base (.ok q) S q (-1) 0 zal _ (zab q) ((HM.out.alloc _).alloc _)).mono ?_
 rintro e w1 ⟨U,K,z1,rfl,M,m1,s1⟩
 have F:=HM.out.fm2 m1 s1
 obtain⟨L,rfl⟩:=zdv M.out hw
 have HQ:=zc L
 have H:Hid (K.pos=q.pos+1):=by show K.pos=q.pos+1;rw[L];rfl
 clear L M
 have I:=F.x0.boxC
 unfold pv
 go_upto_region 2 with fail
 refine (F.put0 ..).cut ?_
 clear I
 intro w2 F
 have I:=F.x0.boxC
 go_wp2_with fail
 refine (zk C z h base U K (-1) 0 4 zN _ F.m.tok A (by decide)).mono ?_
 rintro e w3 ⟨rfl,ah⟩
 rw[H.out,h1]
 replace F:=F.below ah
 clear I
 have I:=F.x0.boxC
 go_wp2_with fail
 refine (zk C z h base U K (-1) 0 4 zy _ F.m.tok A (by decide)).mono ?_
 rintro e w4 ⟨rfl,ad⟩
 rw[H.out,h2]
 replace F:=F.below ad
 clear I
 have I:=F.x0.boxC
 go_wp2_with fail
 refine (zk C z h base U K (-1) 0 1 sDefault _ F.m.tok A (by decide)).mono ?_
 rintro e w5 ⟨rfl,Y⟩
 rw[H.out,h3]
 replace F:=F.below Y
 clear I
 have I:=F.x0.boxC
 clear H
 go_wp2_with fail
 refine (zaP C z h base (.ok K) U K (-1) 0 sDefault _ (zab K) F.m).mono ?_
 rintro e w6 ⟨S6,q6,z6,rfl,X,m6,s6⟩
 replace F:=F.stp m6 s6
 clear I
 go_wp2_with fail
 refine (zdu C z h base _ S6 q6 z6 _ X.out F.m).mono ?_
 rintro e w7 ⟨S7,q7,z7,rfl,ae,m7,s7⟩
 replace F:=F.stp m7 s7
 go_wp2_with fail
 refine (zaj C z h base _ S7 q7 z7 0 cSemi _ ae.out F.m).mono ?_
 rintro e w8 ⟨S8,q8,z8,rfl,O,m8,s8⟩
 replace F:=F.stp m8 s8
 have aj:w.heap.size+1<w8.heap.size:=F.x1.lt
 unfold pv
 go_upto_region 23 with fail
 refine (F.new2 _).cut ?_
 intro w9 F
 have cb:=F.x2.boxC
 go_wp2_with fail
 refine (zdj C z h base _ S8 q8 z8 0 1 zcp _ O.out F.m (zby O.out)).mono ?_
 rintro e ao ⟨af,ai,V,rfl,J,Z,aa⟩
 replace F:=F.stp Z aa
 clear cb
 go_wp2_with fail
 refine (zek C z h base _ af ai V 0 ⟨1,sDefault,zcp,sNone⟩ _ J.out F.m (zlu J.out)).mono ?_
 rintro e ak ⟨am,al,an,rfl,N,ac,ag⟩
 replace F:=F.stp ac ag
 have bb:=F.x1.boxC
 unfold pv
 go_wp2
 refine (F.x1.put ..).ret rfl rfl ?_
 rw[HV.out,←HQ.out]
 exact (F.put1 ..).done rfl N.out
theorem zsu (C:Cx) (I h base:Nat) (S:Sv) (q:PS) (w:World) (V:Mem C I h base S q w) (hw:isT C q.pos 1 zal=true) (h1:isT C (q.pos+1) 4 zN=false) (h2:isT C (q.pos+1) 4 zy=false) (h3:isT C (q.pos+1) 1 sDefault=false) (h4:isT C (q.pos+1) 1 zG=true):
  Calls Tryz.prog 115 #[pv C I h S q (-1) 0] w (Out C I h base (zao C q) 0 S w):=by
 have HM:=zc V
 have z:=V.few
 clear V
 have HV:Hid (zao C q=bd (zcO C (adv q)) fun a=>zq C ⟨1,a.2,a.2,sNone⟩ a.1):=by
  show _=_
  rw[zao,zd,if_pos hw,zA]
  rw[zz,h1,h2,h3,h4]
  rfl
 unfold pv
 go_enter Tryz.func115,Tryz.ntmps115
 go_wp2_with fail
 refine (zaP C I h base (.ok q) S q (-1) 0 zal _ (zab q) ((HM.out.alloc _).alloc _)).mono ?_
 rintro e w1 ⟨N,L,z1,rfl,M,m1,s1⟩
 have F:=HM.out.fm2 m1 s1
 obtain⟨J,rfl⟩:=zdv M.out hw
 have HQ:=zc J
 have A:Hid (L.pos=q.pos+1):=by show L.pos=q.pos+1;rw[J];rfl
 clear J M
 have H:=F.x0.boxC
 unfold pv
 go_upto_region 2 with fail
 refine (F.put0 ..).cut ?_
 clear H
 intro w2 F
 have H:=F.x0.boxC
 go_wp2_with fail
 refine (zk C I h base N L (-1) 0 4 zN _ F.m.tok z (by decide)).mono ?_
 rintro e w3 ⟨rfl,Z⟩
 rw[A.out,h1]
 replace F:=F.below Z
 clear H
 have H:=F.x0.boxC
 go_wp2_with fail
 refine (zk C I h base N L (-1) 0 4 zy _ F.m.tok z (by decide)).mono ?_
 rintro e w4 ⟨rfl,X⟩
 rw[A.out,h2]
 replace F:=F.below X
 clear H
 have H:=F.x0.boxC
 go_wp2_with fail
 refine (zk C I h base N L (-1) 0 1 sDefault _ F.m.tok z (by decide)).mono ?_
 rintro e w5 ⟨rfl,U⟩
 rw[A.out,h3]
 replace F:=F.below U
 clear H
 have H:=F.x0.boxC
 go_wp2_with fail
 refine (zk C I h base N L (-1) 0 1 zG _ F.m.tok z (by decide)).mono ?_
 rintro e w6 ⟨rfl,O⟩
 rw[A.out,h4]
 replace F:=F.below O
 clear H
 have H:=F.x0.boxC
 clear A
 go_wp2_with fail
 refine (zim C I h base N L _ F.m).mono ?_
 rintro e w7 ⟨S7,q7,z7,n7,rfl,K,m7,s7⟩
 replace F:=F.stp m7 s7
 clear H
 have aa:w.heap.size+1<w7.heap.size:=F.x1.lt
 unfold pv
 go_upto_region 26 with fail
 refine (F.new2 _).cut ?_
 intro w8 F
 have cb:=F.x2.boxC
 go_wp2_with fail
 refine (zek C I h base _ S7 q7 z7 0 ⟨1,n7,n7,sNone⟩ _ K.out.fst F.m (zso K.out)).mono ?_
 rintro e w9 ⟨S9,q9,z9,rfl,Y,m9,s9⟩
 replace F:=F.stp m9 s9
 clear cb
 have bb:=F.x1.boxC
 unfold pv
 go_wp2
 refine (F.x1.put ..).ret rfl rfl ?_
 rw[HV.out,←HQ.out,←K.out.bind (fun q n=>zq C ⟨1,n,n,sNone⟩ q)]
 exact (F.put1 ..).done rfl Y.out
theorem zsv (C:Cx) (I h base:Nat) (S:Sv) (q:PS) (w:World) (hm:Mem C I h base S q w) (hw:isT C q.pos 1 zal=true) (h1:isT C (q.pos+1) 4 zN=false) (h2:isT C (q.pos+1) 4 zy=false) (h3:isT C (q.pos+1) 1 sDefault=false) (h4:isT C (q.pos+1) 1 zG=false) (h5:isT C (q.pos+1) 1 zV=true):
  Calls Tryz.prog 115 #[pv C I h S q (-1) 0] w (Out C I h base (zao C q) 0 S w):=by
 have HM:=zc hm
 have z:=hm.few
 clear hm
 have HV:Hid (zao C q=bd (fnP C (adv q)) fun a=>zq C ⟨1,a.2,a.2,sNone⟩ a.1):=by
  show _=_
  rw[zao,zd,if_pos hw,zA]
  rw[zz,h1,h2,h3,h4,h5]
  rfl
 unfold pv
 go_enter Tryz.func115,Tryz.ntmps115
 go_wp2_with fail
 refine (zaP C I h base (.ok q) S q (-1) 0 zal _ (zab q) ((HM.out.alloc _).alloc _)).mono ?_
 rintro e w1 ⟨M,J,z1,rfl,N,m1,s1⟩
 have F:=HM.out.fm2 m1 s1
 obtain⟨K,rfl⟩:=zdv N.out hw
 have HQ:=zc K
 have A:Hid (J.pos=q.pos+1):=by show J.pos=q.pos+1;rw[K];rfl
 clear K N
 have H:=F.x0.boxC
 unfold pv
 go_upto_region 2 with fail
 refine (F.put0 ..).cut ?_
 clear H
 intro w2 F
 have H:=F.x0.boxC
 go_wp2_with fail
 refine (zk C I h base M J (-1) 0 4 zN _ F.m.tok z (by decide)).mono ?_
 rintro e w3 ⟨rfl,ac⟩
 rw[A.out,h1]
 replace F:=F.below ac
 clear H
 have H:=F.x0.boxC
 go_wp2_with fail
 refine (zk C I h base M J (-1) 0 4 zy _ F.m.tok z (by decide)).mono ?_
 rintro e w4 ⟨rfl,aa⟩
 rw[A.out,h2]
 replace F:=F.below aa
 clear H
 have H:=F.x0.boxC
 go_wp2_with fail
 refine (zk C I h base M J (-1) 0 1 sDefault _ F.m.tok z (by decide)).mono ?_
 rintro e w5 ⟨rfl,V⟩
 rw[A.out,h3]
 replace F:=F.below V
 clear H
 have H:=F.x0.boxC
 go_wp2_with fail
 refine (zk C I h base M J (-1) 0 1 zG _ F.m.tok z (by decide)).mono ?_
 rintro e w6 ⟨rfl,U⟩
 rw[A.out,h4]
 replace F:=F.below U
 clear H
 have H:=F.x0.boxC
 go_wp2_with fail
 refine (zk C I h base M J (-1) 0 1 zV _ F.m.tok z (by decide)).mono ?_
 rintro e w7 ⟨rfl,Z⟩
 rw[A.out,h5]
 replace F:=F.below Z
 clear H
 have H:=F.x0.boxC
 clear A
 go_wp2_with fail
 refine (zin C I h base M J _ F.m).mono ?_
 rintro e w8 ⟨S8,q8,z8,n8,rfl,L,m8,s8⟩
 replace F:=F.stp m8 s8
 clear H
 have ad:w.heap.size+1<w8.heap.size:=F.x1.lt
 unfold pv
 go_upto_region 29 with fail
 refine (F.new2 _).cut ?_
 intro w9 F
 have cb:=F.x2.boxC
 go_wp2_with fail
 refine (zek C I h base _ S8 q8 z8 0 ⟨1,n8,n8,sNone⟩ _ L.out.fst F.m (zsp L.out)).mono ?_
 rintro e ag ⟨af,ah,ae,rfl,O,X,Y⟩
 replace F:=F.stp X Y
 clear cb
 have bb:=F.x1.boxC
 unfold pv
 go_wp2
 refine (F.x1.put ..).ret rfl rfl ?_
 rw[HV.out,←HQ.out,←L.out.bind (fun q n=>zq C ⟨1,n,n,sNone⟩ q)]
 exact (F.put1 ..).done rfl O.out
theorem zsw (C:Cx) (J h base:Nat) (S:Sv) (q:PS) (w:World) (V:Mem C J h base S q w) (hw:isT C q.pos 1 zal=true) (h1:isT C (q.pos+1) 4 zN=false) (h2:isT C (q.pos+1) 4 zy=false) (h3:isT C (q.pos+1) 1 sDefault=false) (h4:isT C (q.pos+1) 1 zG=false) (h5:isT C (q.pos+1) 1 zV=false):
  Calls Tryz.prog 115 #[pv C J h S q (-1) 0] w (Out C J h base (zao C q) 0 S w):=by
 have HM:=zc V
 have z:=V.few
 clear V
 have HV:Hid (zao C q= .error (zs C (adv q).pos)):=by
  show _=_
  rw[zao,zd,if_pos hw,zA]
  rw[zz,h1,h2,h3,h4,h5]
  rfl
 unfold pv
 go_enter Tryz.func115,Tryz.ntmps115
 go_wp2_with fail
 refine (zaP C J h base (.ok q) S q (-1) 0 zal _ (zab q) ((HM.out.alloc _).alloc _)).mono ?_
 rintro e w1 ⟨L,I,z1,rfl,M,m1,s1⟩
 have F:=HM.out.fm2 m1 s1
 obtain⟨K,rfl⟩:=zdv M.out hw
 have HQ:=zc K
 have A:Hid (I.pos=q.pos+1):=by show I.pos=q.pos+1;rw[K];rfl
 clear K M
 have H:=F.x0.boxC
 unfold pv
 go_upto_region 2 with fail
 refine (F.put0 ..).cut ?_
 clear H
 intro w2 F
 have H:=F.x0.boxC
 go_wp2_with fail
 refine (zk C J h base L I (-1) 0 4 zN _ F.m.tok z (by decide)).mono ?_
 rintro e w3 ⟨rfl,Z⟩
 rw[A.out,h1]
 replace F:=F.below Z
 clear H
 have H:=F.x0.boxC
 go_wp2_with fail
 refine (zk C J h base L I (-1) 0 4 zy _ F.m.tok z (by decide)).mono ?_
 rintro e w4 ⟨rfl,Y⟩
 rw[A.out,h2]
 replace F:=F.below Y
 clear H
 have H:=F.x0.boxC
 go_wp2_with fail
 refine (zk C J h base L I (-1) 0 1 sDefault _ F.m.tok z (by decide)).mono ?_
 rintro e w5 ⟨rfl,O⟩
 rw[A.out,h3]
 replace F:=F.below O
 clear H
 have H:=F.x0.boxC
 go_wp2_with fail
 refine (zk C J h base L I (-1) 0 1 zG _ F.m.tok z (by decide)).mono ?_
 rintro e w6 ⟨rfl,N⟩
 rw[A.out,h4]
 replace F:=F.below N
 clear H
 have H:=F.x0.boxC
 go_wp2_with fail
 refine (zk C J h base L I (-1) 0 1 zV _ F.m.tok z (by decide)).mono ?_
 rintro e w7 ⟨rfl,U⟩
 rw[A.out,h5]
 replace F:=F.below U
 clear H
 have H:=F.x0.boxC
 clear A
 go_wp2_with fail
 refine (zd7 C J h base L I (-1) 0 _ F.m.tok z).mono ?_
 rintro e w8 ⟨rfl,X⟩
 replace F:=F.below X
 clear H
 have bb:=F.x1.boxC
 unfold pv
 go_wp2
 refine (F.x1.put ..).ret rfl rfl ?_
 rw[HV.out,←HQ.out]
 exact (F.put1 ..).done rfl (show Is (.error (zs C I.pos)) I _ from rfl)
theorem zsx (C:Cx) (J A base:Nat) (S:Sv) (q:PS) (w:World) (hm:Mem C J A base S q w) (hw:isT C q.pos 1 zal=true) (h1:isT C (q.pos+1) 4 zN=true):
  Calls Tryz.prog 115 #[pv C J A S q (-1) 0] w (Out C J A base (zao C q) 0 S w):=by
 have HM:=zc hm
 have ap:=hm.few
 clear hm
 have HV:Hid (zao C q=bd (zde C true (adv q)) fun a=>if !zaH a.2&& !isT C a.1.pos 1 zW then bd (zd C 4 cSemi a.1) fun q=>zZ (fun e=>zq C (zD e)) a.2 (.ok q) else bd (zbi C (zaM C (.ok a.1))) fun b=>zZ (fun e=>zq C (zav b.2 e)) a.2 (.ok b.1)):=by
  show _=_
  rw[zao,zd,if_pos hw,zA]
  rw[zz,h1]
  rfl
 unfold pv
 go_enter Tryz.func115,Tryz.ntmps115
 go_wp2_with fail
 refine (zaP C J A base (.ok q) S q (-1) 0 zal _ (zab q) ((HM.out.alloc _).alloc _)).mono ?_
 rintro e w1 ⟨S1,q1,z1,rfl,ax,m1,s1⟩
 have F:=HM.out.fm2 m1 s1
 obtain⟨ar,rfl⟩:=zdv ax.out hw
 have HQ:=zc ar
 have av:Hid (q1.pos=q.pos+1):=by show q1.pos=q.pos+1;rw[ar];rfl
 clear ar ax
 have U:=F.x0.boxC
 unfold pv
 go_upto_region 2 with fail
 refine (F.put0 ..).cut ?_
 clear U
 intro w2 F
 have au:Hid (zao C q=bd (zde C true q1) fun a=>if !zaH a.2&& !isT C a.1.pos 1 zW then bd (zd C 4 cSemi a.1) fun q=>zZ (fun e=>zq C (zD e)) a.2 (.ok q) else bd (zbi C (zaM C (.ok a.1))) fun b=>zZ (fun e=>zq C (zav b.2 e)) a.2 (.ok b.1)):=by show _=_;rw[HQ.out];exact HV.out
 have U:=F.x0.boxC
 go_wp2_with fail
 refine (zk C J A base S1 q1 (-1) 0 4 zN _ F.m.tok ap (by decide)).mono ?_
 rintro e w3 ⟨rfl,aC⟩
 rw[av.out,h1]
 replace F:=F.below aC
 clear U
 have U:=F.x0.boxC
 clear av
 have aA:=F.t.size
 go_wp2_with fail
 refine (zlf C J A base S1 q1 0 true _ F.m).mono ?_
 rintro e w4 ⟨S4,q4,z4,⟨ra,rc⟩,l,rfl,i4,m4,s4,R0,hl⟩
 obtain⟨g,rfl⟩: ∃g,ra=some ⟨g,0,none⟩:=R0.addr
 replace F:=F.stp m4 s4
 have ad:=zc i4
 clear U
 have h:Hid (Row S4 w4 base w.heap.size ⟨some ⟨g,0,none⟩,rc⟩ l):=⟨R0.own,R0.free,fun k hk=>Nat.le_trans aA (R0.new k hk),R0.addr⟩
 clear R0
 have aD:w.heap.size+1<w4.heap.size:=F.x1.lt
 unfold pv
 go_upto_region 4 with fail
 refine (F.new2 _).cutR (RW:=fun W=>Row S4 W base w.heap.size ⟨some ⟨g,0,none⟩,rc⟩ l) (h.out.alloc _) ?_
 clear h
 intro w5 F R0
 have h:=zc R0
 clear R0
 cases hA:zaH l with
 |true=>
  skip
  obtain⟨c0,c1,c2,c3,c4,c5,c6,c7,c8,c9,X,Y,cf⟩:=F.x2.box
  go_wp2_with fail
  refine (zaP C J A base _ S4 q4 z4 0 zW _ ad.out.fst F.m).mono ?_
  rintro e w6 ⟨S6,q6,z6,rfl,aB,m6,s6⟩
  replace h:=zc (h.out.stp s6)
  replace F:=F.stp m6 s6
  clear c0 c1 c2 c3 c4 c5 c6 c7 c8 c9 X Y cf
  go_wp2_with fail
  refine (zey C J A base _ S6 q6 z6 0 _ aB.out F.m).mono ?_
  rintro e w7 ⟨S7,q7,z7,n7,rfl,aj,m7,s7⟩
  replace h:=zc (h.out.stp s7)
  replace F:=F.stp m7 s7
  have ay:w.heap.size+1<w7.heap.size:=F.x1.lt
  have aq:w4.heap.size<w7.heap.size:=F.x2.lt
  unfold pv
  go_upto_region 12 with fail
  refine (F.new3 _).cutR (RW:=fun W=>Row S7 W base w.heap.size ⟨some ⟨g,0,none⟩,rc⟩ l) (h.out.alloc _) ?_
  clear h
  intro w8 F R0
  have h:=zc R0
  clear R0
  obtain⟨d0,d1,d2,d3,d4,d5,d6,d7,d8,d9,Z,V,df⟩:=F.x3.box
  go_wp2_with fail
  refine (zaj C J A base _ S7 q7 z7 0 cSemi _ aj.out.fst F.m).mono ?_
  rintro e w9 ⟨S9,q9,z9,rfl,L,m9,s9⟩
  replace h:=zc (h.out.stp s9)
  replace F:=F.stp m9 s9
  clear d0 d1 d2 d3 d4 d5 d6 d7 d8 d9 Z V df
  have U:=F.x0.boxC
  unfold pv
  go_upto_region 13 with fail
  refine (F.put0 ..).cutR (RW:=fun W=>Row S9 W base w.heap.size ⟨some ⟨g,0,none⟩,rc⟩ l) (h.out.put F.x0 ..) ?_
  clear U
  clear h
  intro ak F R0
  have h:=zc R0
  clear R0
  have am:Hid (_=zao C q):=(zio (G:=fun b e=>zq C (zav b e)) ad.out aj.out).trans ((zlw ad.out (.inl hA)).trans au.out.symm)
  go_wp2
  go_loopg [9] l.length (fun k i wr=>∃(j:Nat) (x':PR) (z:Sv) (I:PS) (z':Int),j≤l.length∧i= .int .i64 j∧Is x' I z'∧(z'<0→1≤I.pos)∧zZ (fun e=>zq C (zav n7 e)) (l.drop j) x'=zao C q∧l.length-j=k∧Mem C J A base z I wr∧SB w.heap.size S w z wr∧Bx J z wr w.heap.size #[.slice (some ⟨J,0,none⟩) C.ts.length A,.int .i64 I.pos,.int .i64 C.fin,.bool C.scr,.slice z.rq.a I.rq.length z.rq.cap,.slice z.im.a I.im.length z.im.cap,.slice z.ep.a I.ep.length z.ep.cap,.slice z.st.a I.st.length z.st.cap,.slice z.ex.a I.ex.length z.ex.cap,.slice z.la.a I.la.length z.la.cap,.int .i64 z',.int .i64 0]∧Bx J z wr (w.heap.size+1) #[.slice none 0 0,.int .i64 0,.int .i64 0,.bool false,.slice none 0 0,.slice none 0 0,.slice none 0 0,.slice none 0 0,.slice none 0 0,.slice none 0 0,.int .i64 0,.int .i64 0]∧Row z wr base w.heap.size ⟨some ⟨g,0,none⟩,rc⟩ l)
  case atStart=>exact⟨0,_,S9,q9,z9,Nat.zero_le _,rfl,L.out,zby L.out,am.out,rfl,F.m,F.t,F.x0,F.x1,h.out⟩
  case round=>
   obtain⟨j,x9,S9,q9,z9,hj,rfl,i9,p9,e9,g9,m9,t9,X0,X1,R0⟩:=hrel
   clear h
   have F:=Fm.of2 X0 X1 m9 t9 (by omega) (by omega) (by omega)
   have L:=zc i9
   have ae:=zc p9
   have aa:=zc e9
   have ah:=zc g9
   have h:=zc R0
   clear X0 X1 i9 m9 t9 e9 g9 R0 p9
   by_cases ac:j<l.length
   ·skip
    obtain⟨c1,c2⟩:=h.out.cells (g:=g) rfl ac
    have aw:=h.out.own.lt (g:=g) rfl
    have HX:Hid (∀e,e=l[j]→zZ (fun e=>zq C (zav n7 e)) (l.drop (j+1)) (bd x9 (zq C (zav n7 e)))=zao C q):=fun e he=>by rw[he,←aa.out];exact (zgQ (fun e=>zq C (zav n7 e)) l x9 ac).symm
    generalize af:l[j]=el at c1 c2
    have an:Hid (el=l[j]):=af.symm
    clear af
    have U:=F.x0.boxC
    go_upto_region 16 with fail
    go_region_law (first|(go_simp;go_wp2_with (go_at_call 156;refine (zek C J A base x9 S9 q9 z9 0 (zav n7 el) _ L.out F.m.drew ae.out).mono ?_;rintro e ak ⟨N,al,ai,rfl,ag,O,K⟩;obtain⟨d0,d1,d2,d3,d4,d5,d6,d7,d8,d9,Z,V,df⟩:=(F.x0.stp K.undrew).box;unfold pv)))
    all_goals
     clear U d0 d1 d2 d3 d4 d5 d6 d7 d8 d9 Z V df
     have H:=zc ag
     have M:Hid (Stp S9 wr N ak):=K.undrew
     replace F:=F.stp O M.out
     clear ag O K
     go_wp2
     go_roundg (gk-1)
     case rel=>exact⟨j+1,_,N,al,ai,by omega,by go_num,H.out,ziq ae.out L.out H.out,HX.out el an.out,by have:=ah.out;omega,F.m.put F.x0 _ _ _ _ _ _ _ _ _ _ _ _,F.t.put (by omega) _ _ _ _ _ _ _ _ _ _ _ _,F.x0.put _ _ _ _ _ _ _ _ _ _ _ _,F.x1.other (by omega) _ _ _ _ _ _ _ _ _ _ _ _,(h.out.stp M.out).put F.x0 _ _ _ _ _ _ _ _ _ _ _ _⟩
     case measure=>have:=ah.out;omega
   ·skip
    have U:=F.x0.boxC
    have bb:=F.x1.boxC
    go_wp2
    refine (F.x1.put ..).ret rfl rfl ?_
    exact (F.put1 ..).done rfl (show Is (zao C q) q9 z9 from by rw[←aa.out,List.drop_eq_nil_of_le (by omega)];exact L.out)
 |false=>
  cases hF:(decide (z4<0)&&isT C q4.pos 1 zW) with
  |true=>
   obtain⟨c0,c1,c2,c3,c4,c5,c6,c7,c8,c9,X,Y,cf⟩:=F.x2.box
   go_wp2_with fail
   refine (zk C J A base S4 q4 z4 0 1 zW _ F.m.tok ap (by decide)).mono ?_
   rintro e w6 ⟨rfl,ao⟩
   rw[hF]
   replace h:=zc (h.out.below ao)
   replace F:=F.below ao
   clear c0 c1 c2 c3 c4 c5 c6 c7 c8 c9 X Y cf
   obtain⟨c0,c1,c2,c3,c4,c5,c6,c7,c8,c9,X,Y,cf⟩:=F.x2.box
   go_wp2_with fail
   refine (zaP C J A base _ S4 q4 z4 0 zW _ ad.out.fst F.m).mono ?_
   rintro e w7 ⟨S7,q7,z7,rfl,aj,m7,s7⟩
   replace h:=zc (h.out.stp s7)
   replace F:=F.stp m7 s7
   clear c0 c1 c2 c3 c4 c5 c6 c7 c8 c9 X Y cf
   go_wp2_with fail
   refine (zey C J A base _ S7 q7 z7 0 _ aj.out F.m).mono ?_
   rintro e w8 ⟨S8,q8,z8,n8,rfl,az,m8,s8⟩
   replace h:=zc (h.out.stp s8)
   replace F:=F.stp m8 s8
   have ay:w.heap.size+1<w8.heap.size:=F.x1.lt
   have aq:w4.heap.size<w8.heap.size:=F.x2.lt
   unfold pv
   go_upto_region 12 with fail
   refine (F.new3 _).cutR (RW:=fun W=>Row S8 W base w.heap.size ⟨some ⟨g,0,none⟩,rc⟩ l) (h.out.alloc _) ?_
   clear h
   intro w9 F R0
   have h:=zc R0
   clear R0
   obtain⟨d0,d1,d2,d3,d4,d5,d6,d7,d8,d9,Z,V,df⟩:=F.x3.box
   go_wp2_with fail
   refine (zaj C J A base _ S8 q8 z8 0 cSemi _ az.out.fst F.m).mono ?_
   rintro e ak ⟨N,al,ai,rfl,H,O,K⟩
   replace h:=zc (h.out.stp K)
   replace F:=F.stp O K
   clear d0 d1 d2 d3 d4 d5 d6 d7 d8 d9 Z V df
   have U:=F.x0.boxC
   unfold pv
   go_upto_region 13 with fail
   refine (F.put0 ..).cutR (RW:=fun W=>Row N W base w.heap.size ⟨some ⟨g,0,none⟩,rc⟩ l) (h.out.put F.x0 ..) ?_
   clear U
   clear h
   intro aE F R0
   have h:=zc R0
   clear R0
   have am:Hid (_=zao C q):=(zio (G:=fun b e=>zq C (zav b e)) ad.out az.out).trans ((zlw ad.out (.inr hF)).trans au.out.symm)
   go_wp2
   go_loopg [9] l.length (fun k i wr=>∃(j:Nat) (x':PR) (z:Sv) (I:PS) (z':Int),j≤l.length∧i= .int .i64 j∧Is x' I z'∧(z'<0→1≤I.pos)∧zZ (fun e=>zq C (zav n8 e)) (l.drop j) x'=zao C q∧l.length-j=k∧Mem C J A base z I wr∧SB w.heap.size S w z wr∧Bx J z wr w.heap.size #[.slice (some ⟨J,0,none⟩) C.ts.length A,.int .i64 I.pos,.int .i64 C.fin,.bool C.scr,.slice z.rq.a I.rq.length z.rq.cap,.slice z.im.a I.im.length z.im.cap,.slice z.ep.a I.ep.length z.ep.cap,.slice z.st.a I.st.length z.st.cap,.slice z.ex.a I.ex.length z.ex.cap,.slice z.la.a I.la.length z.la.cap,.int .i64 z',.int .i64 0]∧Bx J z wr (w.heap.size+1) #[.slice none 0 0,.int .i64 0,.int .i64 0,.bool false,.slice none 0 0,.slice none 0 0,.slice none 0 0,.slice none 0 0,.slice none 0 0,.slice none 0 0,.int .i64 0,.int .i64 0]∧Row z wr base w.heap.size ⟨some ⟨g,0,none⟩,rc⟩ l)
   case atStart=>exact⟨0,_,N,al,ai,Nat.zero_le _,rfl,H.out,zby H.out,am.out,rfl,F.m,F.t,F.x0,F.x1,h.out⟩
   case round=>
    obtain⟨j,x9,S9,q9,z9,hj,rfl,i9,p9,e9,g9,m9,t9,X0,X1,R0⟩:=hrel
    clear h
    have F:=Fm.of2 X0 X1 m9 t9 (by omega) (by omega) (by omega)
    have L:=zc i9
    have ae:=zc p9
    have aa:=zc e9
    have ah:=zc g9
    have h:=zc R0
    clear X0 X1 i9 m9 t9 e9 g9 R0 p9
    by_cases ac:j<l.length
    ·skip
     obtain⟨c1,c2⟩:=h.out.cells (g:=g) rfl ac
     have aw:=h.out.own.lt (g:=g) rfl
     have HX:Hid (∀e,e=l[j]→zZ (fun e=>zq C (zav n8 e)) (l.drop (j+1)) (bd x9 (zq C (zav n8 e)))=zao C q):=fun e he=>by rw[he,←aa.out];exact (zgQ (fun e=>zq C (zav n8 e)) l x9 ac).symm
     generalize af:l[j]=el at c1 c2
     have an:Hid (el=l[j]):=af.symm
     clear af
     have U:=F.x0.boxC
     go_upto_region 16 with fail
     go_region_law (first|(go_simp;go_wp2_with (go_at_call 156;refine (zek C J A base x9 S9 q9 z9 0 (zav n8 el) _ L.out F.m.drew ae.out).mono ?_;rintro e ak ⟨N,al,ai,rfl,ag,O,K⟩;obtain⟨d0,d1,d2,d3,d4,d5,d6,d7,d8,d9,Z,V,df⟩:=(F.x0.stp K.undrew).box;unfold pv)))
     all_goals
      clear U d0 d1 d2 d3 d4 d5 d6 d7 d8 d9 Z V df
      have H:=zc ag
      have M:Hid (Stp S9 wr N ak):=K.undrew
      replace F:=F.stp O M.out
      clear ag O K
      go_wp2
      go_roundg (gk-1)
      case rel=>exact⟨j+1,_,N,al,ai,by omega,by go_num,H.out,ziq ae.out L.out H.out,HX.out el an.out,by have:=ah.out;omega,F.m.put F.x0 _ _ _ _ _ _ _ _ _ _ _ _,F.t.put (by omega) _ _ _ _ _ _ _ _ _ _ _ _,F.x0.put _ _ _ _ _ _ _ _ _ _ _ _,F.x1.other (by omega) _ _ _ _ _ _ _ _ _ _ _ _,(h.out.stp M.out).put F.x0 _ _ _ _ _ _ _ _ _ _ _ _⟩
      case measure=>have:=ah.out;omega
    ·skip
     have U:=F.x0.boxC
     have bb:=F.x1.boxC
     go_wp2
     refine (F.x1.put ..).ret rfl rfl ?_
     exact (F.put1 ..).done rfl (show Is (zao C q) q9 z9 from by rw[←aa.out,List.drop_eq_nil_of_le (by omega)];exact L.out)
  |false=>
   obtain⟨c0,c1,c2,c3,c4,c5,c6,c7,c8,c9,X,Y,cf⟩:=F.x2.box
   go_wp2_with fail
   refine (zk C J A base S4 q4 z4 0 1 zW _ F.m.tok ap (by decide)).mono ?_
   rintro e w6 ⟨rfl,ao⟩
   rw[hF]
   replace h:=zc (h.out.below ao)
   replace F:=F.below ao
   clear c0 c1 c2 c3 c4 c5 c6 c7 c8 c9 X Y cf
   obtain⟨c0,c1,c2,c3,c4,c5,c6,c7,c8,c9,X,Y,cf⟩:=F.x2.box
   go_wp2_with fail
   refine (zaj C J A base _ S4 q4 z4 0 cSemi _ ad.out.fst F.m).mono ?_
   rintro e w7 ⟨S7,q7,z7,rfl,aj,m7,s7⟩
   replace h:=zc (h.out.stp s7)
   replace F:=F.stp m7 s7
   clear c0 c1 c2 c3 c4 c5 c6 c7 c8 c9 X Y cf
   have U:=F.x0.boxC
   unfold pv
   go_upto_region 6 with fail
   refine (F.put0 ..).cutR (RW:=fun W=>Row S7 W base w.heap.size ⟨some ⟨g,0,none⟩,rc⟩ l) (h.out.put F.x0 ..) ?_
   clear U
   clear h
   intro w8 F R0
   have h:=zc R0
   clear R0
   have am:Hid (_=zao C q):=(zsr ad.out hA hF).trans au.out.symm
   go_wp2
   go_loopg [6] l.length (fun k i wr=>∃(j:Nat) (x':PR) (z:Sv) (I:PS) (z':Int),j≤l.length∧i= .int .i64 j∧Is x' I z'∧(z'<0→1≤I.pos)∧zZ (fun e=>zq C (zD e)) (l.drop j) x'=zao C q∧l.length-j=k∧Mem C J A base z I wr∧SB w.heap.size S w z wr∧Bx J z wr w.heap.size #[.slice (some ⟨J,0,none⟩) C.ts.length A,.int .i64 I.pos,.int .i64 C.fin,.bool C.scr,.slice z.rq.a I.rq.length z.rq.cap,.slice z.im.a I.im.length z.im.cap,.slice z.ep.a I.ep.length z.ep.cap,.slice z.st.a I.st.length z.st.cap,.slice z.ex.a I.ex.length z.ex.cap,.slice z.la.a I.la.length z.la.cap,.int .i64 z',.int .i64 0]∧Bx J z wr (w.heap.size+1) #[.slice none 0 0,.int .i64 0,.int .i64 0,.bool false,.slice none 0 0,.slice none 0 0,.slice none 0 0,.slice none 0 0,.slice none 0 0,.slice none 0 0,.int .i64 0,.int .i64 0]∧Row z wr base w.heap.size ⟨some ⟨g,0,none⟩,rc⟩ l)
   case atStart=>exact⟨0,_,S7,q7,z7,Nat.zero_le _,rfl,aj.out,zby aj.out,am.out,rfl,F.m,F.t,F.x0,F.x1,h.out⟩
   case round=>
    obtain⟨j,x9,S9,q9,z9,hj,rfl,i9,p9,e9,g9,m9,t9,X0,X1,R0⟩:=hrel
    clear h
    have F:=Fm.of2 X0 X1 m9 t9 (by omega) (by omega) (by omega)
    have L:=zc i9
    have ae:=zc p9
    have aa:=zc e9
    have ah:=zc g9
    have h:=zc R0
    clear X0 X1 i9 m9 t9 e9 g9 R0 p9
    by_cases ac:j<l.length
    ·skip
     obtain⟨c1,c2⟩:=h.out.cells (g:=g) rfl ac
     have aw:=h.out.own.lt (g:=g) rfl
     have HX:Hid (∀e,e=l[j]→zZ (fun e=>zq C (zD e)) (l.drop (j+1)) (bd x9 (zq C (zD e)))=zao C q):=fun e he=>by rw[he,←aa.out];exact (zgQ (fun e=>zq C (zD e)) l x9 ac).symm
     generalize af:l[j]=el at c1 c2
     have an:Hid (el=l[j]):=af.symm
     clear af
     have U:=F.x0.boxC
     go_upto_region 9 with fail
     go_region_law (first|(go_simp;go_wp2_with (go_at_call 156;refine (zek C J A base x9 S9 q9 z9 0 (zD el) _ L.out F.m.drew ae.out).mono ?_;rintro e ak ⟨N,al,ai,rfl,ag,O,K⟩;obtain⟨d0,d1,d2,d3,d4,d5,d6,d7,d8,d9,Z,V,df⟩:=(F.x0.stp K.undrew).box;unfold pv)))
     all_goals
      clear U d0 d1 d2 d3 d4 d5 d6 d7 d8 d9 Z V df
      have H:=zc ag
      have M:Hid (Stp S9 wr N ak):=K.undrew
      replace F:=F.stp O M.out
      clear ag O K
      go_wp2
      go_roundg (gk-1)
      case rel=>exact⟨j+1,_,N,al,ai,by omega,by go_num,H.out,ziq ae.out L.out H.out,HX.out el an.out,by have:=ah.out;omega,F.m.put F.x0 _ _ _ _ _ _ _ _ _ _ _ _,F.t.put (by omega) _ _ _ _ _ _ _ _ _ _ _ _,F.x0.put _ _ _ _ _ _ _ _ _ _ _ _,F.x1.other (by omega) _ _ _ _ _ _ _ _ _ _ _ _,(h.out.stp M.out).put F.x0 _ _ _ _ _ _ _ _ _ _ _ _⟩
      case measure=>have:=ah.out;omega
    ·skip
     have U:=F.x0.boxC
     have bb:=F.x1.boxC
     go_wp2
     refine (F.x1.put ..).ret rfl rfl ?_
     exact (F.put1 ..).done rfl (show Is (zao C q) q9 z9 from by rw[←aa.out,List.drop_eq_nil_of_le (by omega)];exact L.out)
theorem zsy (C:Cx) (z h base:Nat) (S:Sv) (q:PS) (w:World) (H:Mem C z h base S q w) (A:isT C q.pos 1 zam=true):
  Calls Tryz.prog 114 #[pv C z h S q (-1) 0] w (Out C z h base (zbc C q) 0 S w):=by
 cases I:isT C (q.pos+1) 4 zN with
 |true=>exact zsm C z h base S q w H A I
 |false=>
  cases J:isT C (q.pos+1) 4 zy with
  |true=>exact zsj C z h base S q w H A I J
  |false=>
   cases K:zH C (q.pos+1) false with
   |true=>exact zsk C z h base S q w H A I J K
   |false=>exact zsl C z h base S q w H A I J K
theorem zsz (C:Cx) (z h base:Nat) (S:Sv) (q:PS) (w:World) (H:Mem C z h base S q w) (A:isT C q.pos 1 zal=true):
  Calls Tryz.prog 115 #[pv C z h S q (-1) 0] w (Out C z h base (zao C q) 0 S w):=by
 cases I:isT C (q.pos+1) 4 zN with
 |true=>exact zsx C z h base S q w H A I
 |false=>
  cases J:isT C (q.pos+1) 4 zy with
  |true=>exact zss C z h base S q w H A I J
  |false=>
   cases K:isT C (q.pos+1) 1 sDefault with
   |true=>exact zst C z h base S q w H A I J K
   |false=>
    cases L:isT C (q.pos+1) 1 zG with
    |true=>exact zsu C z h base S q w H A I J K L
    |false=>
     cases M:isT C (q.pos+1) 1 zV with
     |true=>exact zsv C z h base S q w H A I J K L M
     |false=>exact zsw C z h base S q w H A I J K L M
theorem zlx {C:Cx} {x:PR} {n:ByteArray}:bd (bd (bd (bd x (zd C 4 cEq)) (pE C .sum 0)) (zd C 4 cSemi)) (zY C 3 n)=bd x fun q=>bd (bd (bd (bd (.ok q) (zd C 4 cEq)) (pE C .sum 0)) (zd C 4 cSemi)) (zY C 3 n):=by cases x<;>rfl
theorem zs0 (A:List Tk) (h:Nat) (I z base:Nat) (S:Sv) (q:PS) (w:World) (K:Mem (Cx.mk A h true) I z base S q w) (N:isT (Cx.mk A h true) q.pos 1 zG=true):
  Calls Tryz.prog 82 #[pv (Cx.mk A h true) I z S q (-1) 0] w (Out (Cx.mk A h true) I z base (zB (Cx.mk A h true) q) 0 S w):=by
 have V:=zc K
 have H:=K.tok
 have J:(Cx.mk A h true).ts.length≤4000:=K.few
 clear K
 have Z:Hid (zB (Cx.mk A h true) q=zaT (zcO (Cx.mk A h true) q)):=by show zB (Cx.mk A h true) q=_;rw[zB,N];rfl
 unfold pv
 go_enter Tryz.func82,Tryz.ntmps82
 go_wp2_with fail
 refine (zk (Cx.mk A h true) I z base S q (-1) 0 1 zG _ (zr (zr H _) _) J (by decide)).mono ?_
 rintro e w1 ⟨rfl,M⟩
 rw[N]
 have F:=V.out.fm M
 clear H
 have Y:=F.x0.boxC
 go_wp2_with fail
 refine (zim (Cx.mk A h true) I z base S q _ F.m).mono ?_
 rintro e w2 ⟨S2,q2,z2,n2,rfl,L,U,X⟩
 replace F:=F.stp U X
 clear Y
 have O:w.heap.size+1<w2.heap.size:=F.x1.lt
 unfold pv
 go_upto_region 7 with fail
 refine (F.new2 _).cut ?_
 intro w3 F
 have bb:=F.x1.boxC
 have cb:=F.x2.boxC
 go_wp2
 refine (F.x1.put ..).ret rfl rfl ?_
 rw[Z.out]
 exact (F.put1 ..).done rfl L.out.fst
theorem zs1 (A:List Tk) (h:Nat) (J z base:Nat) (S:Sv) (q:PS) (w:World) (K:Mem (Cx.mk A h true) J z base S q w) (U:isT (Cx.mk A h true) q.pos 1 zG=false) (V:isT (Cx.mk A h true) q.pos 1 zV=true):
  Calls Tryz.prog 82 #[pv (Cx.mk A h true) J z S q (-1) 0] w (Out (Cx.mk A h true) J z base (zB (Cx.mk A h true) q) 0 S w):=by
 have HM:=zc K
 have H:=K.tok
 have I:(Cx.mk A h true).ts.length≤4000:=K.few
 clear K
 have HV:Hid (zB (Cx.mk A h true) q=zaT (fnP (Cx.mk A h true) q)):=by show zB (Cx.mk A h true) q=_;rw[zB,U,V];rfl
 unfold pv
 go_enter Tryz.func82,Tryz.ntmps82
 go_wp2_with fail
 refine (zk (Cx.mk A h true) J z base S q (-1) 0 1 zG _ (zr (zr H _) _) I (by decide)).mono ?_
 rintro e w1 ⟨rfl,O⟩
 rw[U]
 have F:=HM.out.fm O
 clear H
 have L:=F.x0.boxC
 go_wp2_with fail
 refine (zk (Cx.mk A h true) J z base S q (-1) 0 1 zV _ F.m.tok I (by decide)).mono ?_
 rintro e w2 ⟨rfl,M⟩
 rw[V]
 replace F:=F.below M
 clear L
 have L:=F.x0.boxC
 go_wp2_with fail
 refine (zin (Cx.mk A h true) J z base S q _ F.m).mono ?_
 rintro e Z ⟨S3,q3,z3,n3,rfl,N,Y,s3⟩
 replace F:=F.stp Y s3
 clear L
 have X:w.heap.size+1<Z.heap.size:=F.x1.lt
 unfold pv
 go_upto_region 10 with fail
 refine (F.new2 _).cut ?_
 intro w4 F
 have bb:=F.x1.boxC
 have cb:=F.x2.boxC
 go_wp2
 refine (F.x1.put ..).ret rfl rfl ?_
 rw[HV.out]
 exact (F.put1 ..).done rfl N.out.fst
theorem zs2 (A:List Tk) (h:Nat) (H z base:Nat) (S:Sv) (q:PS) (w:World) (N:Mem (Cx.mk A h true) H z base S q w) (h0:isT (Cx.mk A h true) q.pos 1 zG=false) (h1:isT (Cx.mk A h true) q.pos 1 zV=false) (h2:isT (Cx.mk A h true) q.pos 1 zaz=true):
  Calls Tryz.prog 82 #[pv (Cx.mk A h true) H z S q (-1) 0] w (Out (Cx.mk A h true) H z base (zB (Cx.mk A h true) q) 0 S w):=by
 have HM:=zc N
 have J:=N.tok
 have I:(Cx.mk A h true).ts.length≤4000:=N.few
 clear N
 have HV:Hid (zB (Cx.mk A h true) q=bd (bd (bd (bd (bd (bd (.ok q) (zd (Cx.mk A h true) 1 zaz)) (zd (Cx.mk A h true) 4 zp)) (pE (Cx.mk A h true) .sum 0)) (zd (Cx.mk A h true) 4 za8)) (zd (Cx.mk A h true) 4 cSemi)) (zY (Cx.mk A h true) 4 sNone)):=by show zB (Cx.mk A h true) q=_;rw[zB,h0,h1,h2];rfl
 unfold pv
 go_enter Tryz.func82,Tryz.ntmps82
 go_wp2_with fail
 refine (zk (Cx.mk A h true) H z base S q (-1) 0 1 zG _ (zr (zr J _) _) I (by decide)).mono ?_
 rintro e w1 ⟨rfl,ac⟩
 rw[h0]
 have F:=HM.out.fm ac
 clear J
 have L:=F.x0.boxC
 go_wp2_with fail
 refine (zk (Cx.mk A h true) H z base S q (-1) 0 1 zV _ F.m.tok I (by decide)).mono ?_
 rintro e w2 ⟨rfl,aa⟩
 rw[h1]
 replace F:=F.below aa
 clear L
 have L:=F.x0.boxC
 go_wp2_with fail
 refine (zk (Cx.mk A h true) H z base S q (-1) 0 1 zaz _ F.m.tok I (by decide)).mono ?_
 rintro e w3 ⟨rfl,ad⟩
 rw[h2]
 replace F:=F.below ad
 clear L
 have L:=F.x0.boxC
 go_wp2_with fail
 refine (zaP (Cx.mk A h true) H z base (.ok q) S q (-1) 0 zaz _ (zab q) F.m).mono ?_
 rintro e w4 ⟨S4,q4,z4,rfl,X,m4,s4⟩
 replace F:=F.stp m4 s4
 clear L
 go_wp2_with fail
 refine (zaj (Cx.mk A h true) H z base _ S4 q4 z4 0 zp _ X.out F.m).mono ?_
 rintro e w5 ⟨S5,q5,z5,rfl,V,m5,s5⟩
 replace F:=F.stp m5 s5
 go_wp2_with fail
 refine (zdu (Cx.mk A h true) H z base _ S5 q5 z5 _ V.out F.m).mono ?_
 rintro e w6 ⟨S6,q6,z6,rfl,U,m6,s6⟩
 replace F:=F.stp m6 s6
 go_wp2_with fail
 refine (zaj (Cx.mk A h true) H z base _ S6 q6 z6 0 za8 _ U.out F.m).mono ?_
 rintro e w7 ⟨S7,q7,z7,rfl,O,m7,s7⟩
 replace F:=F.stp m7 s7
 have ae:w.heap.size+1<w7.heap.size:=F.x1.lt
 unfold pv
 go_upto_region 13 with fail
 refine (F.new2 _).cut ?_
 intro w8 F
 have cb:=F.x2.boxC
 go_wp2_with fail
 refine (zaj (Cx.mk A h true) H z base _ S7 q7 z7 0 cSemi _ O.out F.m).mono ?_
 rintro e w9 ⟨S9,q9,z9,rfl,M,m9,s9⟩
 replace F:=F.stp m9 s9
 clear cb
 go_wp2_with fail
 refine (zdj (Cx.mk A h true) H z base _ S9 q9 z9 0 4 sNone _ M.out F.m (zby M.out)).mono ?_
 rintro e ah ⟨ag,ai,af,rfl,K,Y,Z⟩
 replace F:=F.stp Y Z
 have bb:=F.x1.boxC
 unfold pv
 go_wp2
 refine (F.x1.put ..).ret rfl rfl ?_
 rw[HV.out]
 exact (F.put1 ..).done rfl K.out
theorem zs3 (A:List Tk) (h:Nat) (I z base:Nat) (S:Sv) (q:PS) (w:World) (M:Mem (Cx.mk A h true) I z base S q w) (h0:isT (Cx.mk A h true) q.pos 1 zG=false) (h1:isT (Cx.mk A h true) q.pos 1 zV=false) (h2:isT (Cx.mk A h true) q.pos 1 zaz=false) (h3:isT (Cx.mk A h true) q.pos 1 zaC=true):
  Calls Tryz.prog 82 #[pv (Cx.mk A h true) I z S q (-1) 0] w (Out (Cx.mk A h true) I z base (zB (Cx.mk A h true) q) 0 S w):=by
 have HM:=zc M
 have J:=M.tok
 have H:(Cx.mk A h true).ts.length≤4000:=M.few
 clear M
 have HV:Hid (zB (Cx.mk A h true) q=bd (bd (bd (bd (.ok q) (zd (Cx.mk A h true) 1 zaC)) (pE (Cx.mk A h true) .sum 0)) (zd (Cx.mk A h true) 4 cSemi)) (zY (Cx.mk A h true) 5 sNone)):=by show zB (Cx.mk A h true) q=_;rw[zB,h0,h1,h2,h3];rfl
 unfold pv
 go_enter Tryz.func82,Tryz.ntmps82
 go_wp2_with fail
 refine (zk (Cx.mk A h true) I z base S q (-1) 0 1 zG _ (zr (zr J _) _) H (by decide)).mono ?_
 rintro e w1 ⟨rfl,Y⟩
 rw[h0]
 have F:=HM.out.fm Y
 clear J
 have K:=F.x0.boxC
 go_wp2_with fail
 refine (zk (Cx.mk A h true) I z base S q (-1) 0 1 zV _ F.m.tok H (by decide)).mono ?_
 rintro e w2 ⟨rfl,V⟩
 rw[h1]
 replace F:=F.below V
 clear K
 have K:=F.x0.boxC
 go_wp2_with fail
 refine (zk (Cx.mk A h true) I z base S q (-1) 0 1 zaz _ F.m.tok H (by decide)).mono ?_
 rintro e w3 ⟨rfl,Z⟩
 rw[h2]
 replace F:=F.below Z
 clear K
 have K:=F.x0.boxC
 go_wp2_with fail
 refine (zk (Cx.mk A h true) I z base S q (-1) 0 1 zaC _ F.m.tok H (by decide)).mono ?_
 rintro e w4 ⟨rfl,X⟩
 rw[h3]
 replace F:=F.below X
 clear K
 have K:=F.x0.boxC
 go_wp2_with fail
 refine (zaP (Cx.mk A h true) I z base (.ok q) S q (-1) 0 zaC _ (zab q) F.m).mono ?_
 rintro e w5 ⟨S5,q5,z5,rfl,O,m5,s5⟩
 replace F:=F.stp m5 s5
 clear K
 go_wp2_with fail
 refine (zdu (Cx.mk A h true) I z base _ S5 q5 z5 _ O.out F.m).mono ?_
 rintro e w6 ⟨S6,q6,z6,rfl,N,m6,s6⟩
 replace F:=F.stp m6 s6
 go_wp2_with fail
 refine (zaj (Cx.mk A h true) I z base _ S6 q6 z6 0 cSemi _ N.out F.m).mono ?_
 rintro e w7 ⟨S7,q7,z7,rfl,L,m7,s7⟩
 replace F:=F.stp m7 s7
 go_wp2_with fail
 refine (zdj (Cx.mk A h true) I z base _ S7 q7 z7 0 5 sNone _ L.out F.m (zby L.out)).mono ?_
 rintro e w8 ⟨S8,q8,z8,rfl,U,m8,s8⟩
 replace F:=F.stp m8 s8
 have bb:=F.x1.boxC
 unfold pv
 go_wp2
 refine (F.x1.put ..).ret rfl rfl ?_
 rw[HV.out]
 exact (F.put1 ..).done rfl U.out
theorem zs4 (A:List Tk) (h:Nat) (I z base:Nat) (S:Sv) (q:PS) (w:World) (M:Mem (Cx.mk A h true) I z base S q w) (h0:isT (Cx.mk A h true) q.pos 1 zG=false) (h1:isT (Cx.mk A h true) q.pos 1 zV=false) (h2:isT (Cx.mk A h true) q.pos 1 zaz=false) (h3:isT (Cx.mk A h true) q.pos 1 zaC=false) (h4:isT (Cx.mk A h true) q.pos 1 zbT=true):
  Calls Tryz.prog 82 #[pv (Cx.mk A h true) I z S q (-1) 0] w (Out (Cx.mk A h true) I z base (zB (Cx.mk A h true) q) 0 S w):=by
 have HM:=zc M
 have K:=M.tok
 have H:(Cx.mk A h true).ts.length≤4000:=M.few
 clear M
 have HV:Hid (zB (Cx.mk A h true) q=bd (bd (bd (bd (.ok q) (zd (Cx.mk A h true) 1 zbT)) (pE (Cx.mk A h true) .sum 0)) (zd (Cx.mk A h true) 4 cSemi)) (zY (Cx.mk A h true) 6 sNone)):=by show zB (Cx.mk A h true) q=_;rw[zB,h0,h1,h2,h3,h4];rfl
 unfold pv
 go_enter Tryz.func82,Tryz.ntmps82
 go_wp2_with fail
 refine (zk (Cx.mk A h true) I z base S q (-1) 0 1 zG _ (zr (zr K _) _) H (by decide)).mono ?_
 rintro e w1 ⟨rfl,Y⟩
 rw[h0]
 have F:=HM.out.fm Y
 clear K
 have J:=F.x0.boxC
 go_wp2_with fail
 refine (zk (Cx.mk A h true) I z base S q (-1) 0 1 zV _ F.m.tok H (by decide)).mono ?_
 rintro e w2 ⟨rfl,V⟩
 rw[h1]
 replace F:=F.below V
 clear J
 have J:=F.x0.boxC
 go_wp2_with fail
 refine (zk (Cx.mk A h true) I z base S q (-1) 0 1 zaz _ F.m.tok H (by decide)).mono ?_
 rintro e w3 ⟨rfl,aa⟩
 rw[h2]
 replace F:=F.below aa
 clear J
 have J:=F.x0.boxC
 go_wp2_with fail
 refine (zk (Cx.mk A h true) I z base S q (-1) 0 1 zaC _ F.m.tok H (by decide)).mono ?_
 rintro e w4 ⟨rfl,X⟩
 rw[h3]
 replace F:=F.below X
 clear J
 have J:=F.x0.boxC
 go_wp2_with fail
 refine (zk (Cx.mk A h true) I z base S q (-1) 0 1 zbT _ F.m.tok H (by decide)).mono ?_
 rintro e w5 ⟨rfl,U⟩
 rw[h4]
 replace F:=F.below U
 clear J
 have J:=F.x0.boxC
 go_wp2_with fail
 refine (zaP (Cx.mk A h true) I z base (.ok q) S q (-1) 0 zbT _ (zab q) F.m).mono ?_
 rintro e w6 ⟨S6,q6,z6,rfl,O,m6,s6⟩
 replace F:=F.stp m6 s6
 clear J
 go_wp2_with fail
 refine (zdu (Cx.mk A h true) I z base _ S6 q6 z6 _ O.out F.m).mono ?_
 rintro e w7 ⟨S7,q7,z7,rfl,N,m7,s7⟩
 replace F:=F.stp m7 s7
 go_wp2_with fail
 refine (zaj (Cx.mk A h true) I z base _ S7 q7 z7 0 cSemi _ N.out F.m).mono ?_
 rintro e w8 ⟨S8,q8,z8,rfl,L,m8,s8⟩
 replace F:=F.stp m8 s8
 go_wp2_with fail
 refine (zdj (Cx.mk A h true) I z base _ S8 q8 z8 0 6 sNone _ L.out F.m (zby L.out)).mono ?_
 rintro e w9 ⟨S9,q9,z9,rfl,Z,m9,s9⟩
 replace F:=F.stp m9 s9
 have bb:=F.x1.boxC
 unfold pv
 go_wp2
 refine (F.x1.put ..).ret rfl rfl ?_
 rw[HV.out]
 exact (F.put1 ..).done rfl Z.out
theorem zs5 (z:List Tk) (h:Nat) (I A base:Nat) (S:Sv) (q:PS) (w:World) (O:Mem (Cx.mk z h true) I A base S q w) (h0:isT (Cx.mk z h true) q.pos 1 zG=false) (h1:isT (Cx.mk z h true) q.pos 1 zV=false) (h2:isT (Cx.mk z h true) q.pos 1 zaz=false) (h3:isT (Cx.mk z h true) q.pos 1 zaC=false) (h4:isT (Cx.mk z h true) q.pos 1 zbT=false):
  Calls Tryz.prog 82 #[pv (Cx.mk z h true) I A S q (-1) 0] w (Out (Cx.mk z h true) I A base (zB (Cx.mk z h true) q) 0 S w):=by
 have HM:=zc O
 have K:=O.tok
 have H:(Cx.mk z h true).ts.length≤4000:=O.few
 clear O
 have HV:Hid (zB (Cx.mk z h true) q=bd (bd (.ok q) (zm (Cx.mk z h true) false)) fun a=>bd (bd (bd (bd (.ok a.1) (zd (Cx.mk z h true) 4 cEq)) (pE (Cx.mk z h true) .sum 0)) (zd (Cx.mk z h true) 4 cSemi)) (zY (Cx.mk z h true) 3 a.2)):=by show zB (Cx.mk z h true) q=_;rw[zB,h0,h1,h2,h3,h4];rfl
 unfold pv
 go_enter Tryz.func82,Tryz.ntmps82
 go_wp2_with fail
 refine (zk (Cx.mk z h true) I A base S q (-1) 0 1 zG _ (zr (zr K _) _) H (by decide)).mono ?_
 rintro e w1 ⟨rfl,ae⟩
 rw[h0]
 have F:=HM.out.fm ae
 clear K
 have J:=F.x0.boxC
 go_wp2_with fail
 refine (zk (Cx.mk z h true) I A base S q (-1) 0 1 zV _ F.m.tok H (by decide)).mono ?_
 rintro e w2 ⟨rfl,aa⟩
 rw[h1]
 replace F:=F.below aa
 clear J
 have J:=F.x0.boxC
 go_wp2_with fail
 refine (zk (Cx.mk z h true) I A base S q (-1) 0 1 zaz _ F.m.tok H (by decide)).mono ?_
 rintro e w3 ⟨rfl,ag⟩
 rw[h2]
 replace F:=F.below ag
 clear J
 have J:=F.x0.boxC
 go_wp2_with fail
 refine (zk (Cx.mk z h true) I A base S q (-1) 0 1 zaC _ F.m.tok H (by decide)).mono ?_
 rintro e w4 ⟨rfl,ad⟩
 rw[h3]
 replace F:=F.below ad
 clear J
 have J:=F.x0.boxC
 go_wp2_with fail
 refine (zk (Cx.mk z h true) I A base S q (-1) 0 1 zbT _ F.m.tok H (by decide)).mono ?_
 rintro e w5 ⟨rfl,V⟩
 rw[h4]
 replace F:=F.below V
 clear J
 have J:=F.x0.boxC
 go_wp2_with fail
 refine (zbq (Cx.mk z h true) I A base (.ok q) S q (-1) 0 false _ (zab q) F.m).mono ?_
 rintro e w6 ⟨S6,q6,z6,n6,rfl,M,m6,s6⟩
 replace F:=F.stp m6 s6
 clear J
 have ak:w.heap.size+1<w6.heap.size:=F.x1.lt
 unfold pv
 go_upto_region 19 with fail
 refine (F.new2 _).cut ?_
 intro w7 F
 have cb:=F.x2.boxC
 go_wp2_with fail
 refine (zaj (Cx.mk z h true) I A base _ S6 q6 z6 0 cEq _ M.out.fst F.m).mono ?_
 rintro e w8 ⟨S8,q8,z8,rfl,Y,m8,s8⟩
 replace F:=F.stp m8 s8
 clear cb
 go_wp2_with fail
 refine (zdu (Cx.mk z h true) I A base _ S8 q8 z8 _ Y.out F.m).mono ?_
 rintro e w9 ⟨S9,q9,z9,rfl,af,m9,s9⟩
 replace F:=F.stp m9 s9
 go_wp2_with fail
 refine (zaj (Cx.mk z h true) I A base _ S9 q9 z9 0 cSemi _ af.out F.m).mono ?_
 rintro e ap ⟨ah,aj,U,rfl,L,X,Z⟩
 replace F:=F.stp X Z
 go_wp2_with fail
 refine (zdj (Cx.mk z h true) I A base _ ah aj U 0 3 n6 _ L.out F.m (zby L.out)).mono ?_
 rintro e al ⟨an,am,ao,rfl,N,ac,ai⟩
 replace F:=F.stp ac ai
 have bb:=F.x1.boxC
 unfold pv
 go_wp2
 refine (F.x1.put ..).ret rfl rfl ?_
 rw[HV.out,←M.out.bind (fun q n=>bd (bd (bd (bd (.ok q) (zd (Cx.mk z h true) 4 cEq)) (pE (Cx.mk z h true) .sum 0)) (zd (Cx.mk z h true) 4 cSemi)) (zY (Cx.mk z h true) 3 n)),←zlx]
 exact (F.put1 ..).done rfl N.out
theorem zs6 (A:List Tk) (h:Nat) (H z base:Nat) (S:Sv) (q:PS) (w:World) (I:Mem (Cx.mk A h true) H z base S q w):
  Calls Tryz.prog 82 #[pv (Cx.mk A h true) H z S q (-1) 0] w (Out (Cx.mk A h true) H z base (zB (Cx.mk A h true) q) 0 S w):=by
 cases J:isT (Cx.mk A h true) q.pos 1 zG with
 |true=>exact zs0 A h H z base S q w I J
 |false=>
  cases K:isT (Cx.mk A h true) q.pos 1 zV with
  |true=>exact zs1 A h H z base S q w I J K
  |false=>
   cases L:isT (Cx.mk A h true) q.pos 1 zaz with
   |true=>exact zs2 A h H z base S q w I J K L
   |false=>
    cases M:isT (Cx.mk A h true) q.pos 1 zaC with
    |true=>exact zs3 A h H z base S q w I J K L M
    |false=>
     cases N:isT (Cx.mk A h true) q.pos 1 zbT with
     |true=>exact zs4 A h H z base S q w I J K L M N
     |false=>
      exact zs5 A h H z base S q w I J K L M N
theorem zs7 (A:List Tk) (h:Nat) (I z base:Nat) (S:Sv) (q:PS) (w:World) (K:Mem (Cx.mk A h false) I z base S q w) (L:isT (Cx.mk A h false) q.pos 1 zam=true):
  Calls Tryz.prog 82 #[pv (Cx.mk A h false) I z S q (-1) 0] w (Out (Cx.mk A h false) I z base (zB (Cx.mk A h false) q) 0 S w):=by
 have U:=zc K
 have H:=K.tok
 have J:(Cx.mk A h false).ts.length≤4000:=K.few
 clear K
 have Y:Hid (zB (Cx.mk A h false) q=zbc (Cx.mk A h false) q):=by show zB (Cx.mk A h false) q=_;rw[zB,L];rfl
 unfold pv
 go_enter Tryz.func82,Tryz.ntmps82
 go_wp2_with fail
 refine (zk (Cx.mk A h false) I z base S q (-1) 0 1 zam _ (zr (zr H _) _) J (by decide)).mono ?_
 rintro e Z ⟨rfl,N⟩
 rw[L]
 have F:=U.out.fm N
 clear H
 have X:=F.x0.boxC
 go_wp2_with fail
 refine (zsy (Cx.mk A h false) I z base S q _ F.m L).mono ?_
 rintro e w2 ⟨S2,q2,z2,rfl,M,O,V⟩
 replace F:=F.stp O V
 clear X
 have bb:=F.x1.boxC
 unfold pv
 go_wp2
 refine (F.x1.put ..).ret rfl rfl ?_
 rw[Y.out]
 exact (F.put1 ..).done rfl M.out
theorem zs8 (A:List Tk) (h:Nat) (J z base:Nat) (S:Sv) (q:PS) (w:World) (K:Mem (Cx.mk A h false) J z base S q w) (V:isT (Cx.mk A h false) q.pos 1 zam=false) (L:isT (Cx.mk A h false) q.pos 1 zal=true):
  Calls Tryz.prog 82 #[pv (Cx.mk A h false) J z S q (-1) 0] w (Out (Cx.mk A h false) J z base (zB (Cx.mk A h false) q) 0 S w):=by
 have Y:=zc K
 have H:=K.tok
 have I:(Cx.mk A h false).ts.length≤4000:=K.few
 clear K
 have HV:Hid (zB (Cx.mk A h false) q=zao (Cx.mk A h false) q):=by show zB (Cx.mk A h false) q=_;rw[zB,V,L];rfl
 unfold pv
 go_enter Tryz.func82,Tryz.ntmps82
 go_wp2_with fail
 refine (zk (Cx.mk A h false) J z base S q (-1) 0 1 zam _ (zr (zr H _) _) I (by decide)).mono ?_
 rintro e w1 ⟨rfl,U⟩
 rw[V]
 have F:=Y.out.fm U
 clear H
 have M:=F.x0.boxC
 go_wp2_with fail
 refine (zk (Cx.mk A h false) J z base S q (-1) 0 1 zal _ F.m.tok I (by decide)).mono ?_
 rintro e w2 ⟨rfl,N⟩
 rw[L]
 replace F:=F.below N
 clear M
 have M:=F.x0.boxC
 go_wp2_with fail
 refine (zsz (Cx.mk A h false) J z base S q _ F.m L).mono ?_
 rintro e w3 ⟨S3,q3,z3,rfl,O,X,Z⟩
 replace F:=F.stp X Z
 clear M
 have bb:=F.x1.boxC
 unfold pv
 go_wp2
 refine (F.x1.put ..).ret rfl rfl ?_
 rw[HV.out]
 exact (F.put1 ..).done rfl O.out
theorem zs9 (A:List Tk) (h:Nat) (J z base:Nat) (S:Sv) (q:PS) (w:World) (L:Mem (Cx.mk A h false) J z base S q w) (X:isT (Cx.mk A h false) q.pos 1 zam=false) (Y:isT (Cx.mk A h false) q.pos 1 zal=false) (V:isT (Cx.mk A h false) q.pos 1 zG=true):
  Calls Tryz.prog 82 #[pv (Cx.mk A h false) J z S q (-1) 0] w (Out (Cx.mk A h false) J z base (zB (Cx.mk A h false) q) 0 S w):=by
 have HM:=zc L
 have I:=L.tok
 have H:(Cx.mk A h false).ts.length≤4000:=L.few
 clear L
 have HV:Hid (zB (Cx.mk A h false) q=zaT (zcO (Cx.mk A h false) q)):=by show zB (Cx.mk A h false) q=_;rw[zB,X,Y,V];rfl
 unfold pv
 go_enter Tryz.func82,Tryz.ntmps82
 go_wp2_with fail
 refine (zk (Cx.mk A h false) J z base S q (-1) 0 1 zam _ (zr (zr I _) _) H (by decide)).mono ?_
 rintro e w1 ⟨rfl,O⟩
 rw[X]
 have F:=HM.out.fm O
 clear I
 have K:=F.x0.boxC
 go_wp2_with fail
 refine (zk (Cx.mk A h false) J z base S q (-1) 0 1 zal _ F.m.tok H (by decide)).mono ?_
 rintro e w2 ⟨rfl,N⟩
 rw[Y]
 replace F:=F.below N
 clear K
 have K:=F.x0.boxC
 go_wp2_with fail
 refine (zk (Cx.mk A h false) J z base S q (-1) 0 1 zG _ F.m.tok H (by decide)).mono ?_
 rintro e w3 ⟨rfl,U⟩
 rw[V]
 replace F:=F.below U
 clear K
 have K:=F.x0.boxC
 go_wp2_with fail
 refine (zim (Cx.mk A h false) J z base S q _ F.m).mono ?_
 rintro e w4 ⟨S4,q4,z4,n4,rfl,M,m4,s4⟩
 replace F:=F.stp m4 s4
 clear K
 have Z:w.heap.size+1<w4.heap.size:=F.x1.lt
 unfold pv
 go_upto_region 7 with fail
 refine (F.new2 _).cut ?_
 intro w5 F
 have bb:=F.x1.boxC
 have cb:=F.x2.boxC
 go_wp2
 refine (F.x1.put ..).ret rfl rfl ?_
 rw[HV.out]
 exact (F.put1 ..).done rfl M.out.fst
theorem zsA (A:List Tk) (h:Nat) (J z base:Nat) (S:Sv) (q:PS) (w:World) (L:Mem (Cx.mk A h false) J z base S q w) (Y:isT (Cx.mk A h false) q.pos 1 zam=false) (Z:isT (Cx.mk A h false) q.pos 1 zal=false) (X:isT (Cx.mk A h false) q.pos 1 zG=false) (h3:isT (Cx.mk A h false) q.pos 1 zV=true):
  Calls Tryz.prog 82 #[pv (Cx.mk A h false) J z S q (-1) 0] w (Out (Cx.mk A h false) J z base (zB (Cx.mk A h false) q) 0 S w):=by
 have HM:=zc L
 have I:=L.tok
 have H:(Cx.mk A h false).ts.length≤4000:=L.few
 clear L
 have HV:Hid (zB (Cx.mk A h false) q=zaT (fnP (Cx.mk A h false) q)):=by show zB (Cx.mk A h false) q=_;rw[zB,Y,Z,X,h3];rfl
 unfold pv
 go_enter Tryz.func82,Tryz.ntmps82
 go_wp2_with fail
 refine (zk (Cx.mk A h false) J z base S q (-1) 0 1 zam _ (zr (zr I _) _) H (by decide)).mono ?_
 rintro e w1 ⟨rfl,U⟩
 rw[Y]
 have F:=HM.out.fm U
 clear I
 have K:=F.x0.boxC
 go_wp2_with fail
 refine (zk (Cx.mk A h false) J z base S q (-1) 0 1 zal _ F.m.tok H (by decide)).mono ?_
 rintro e w2 ⟨rfl,N⟩
 rw[Z]
 replace F:=F.below N
 clear K
 have K:=F.x0.boxC
 go_wp2_with fail
 refine (zk (Cx.mk A h false) J z base S q (-1) 0 1 zG _ F.m.tok H (by decide)).mono ?_
 rintro e w3 ⟨rfl,V⟩
 rw[X]
 replace F:=F.below V
 clear K
 have K:=F.x0.boxC
 go_wp2_with fail
 refine (zk (Cx.mk A h false) J z base S q (-1) 0 1 zV _ F.m.tok H (by decide)).mono ?_
 rintro e w4 ⟨rfl,O⟩
 rw[h3]
 replace F:=F.below O
 clear K
 have K:=F.x0.boxC
 go_wp2_with fail
 refine (zin (Cx.mk A h false) J z base S q _ F.m).mono ?_
 rintro e w5 ⟨S5,q5,z5,n5,rfl,M,m5,s5⟩
 replace F:=F.stp m5 s5
 clear K
 have aa:w.heap.size+1<w5.heap.size:=F.x1.lt
 unfold pv
 go_upto_region 10 with fail
 refine (F.new2 _).cut ?_
 intro w6 F
 have bb:=F.x1.boxC
 have cb:=F.x2.boxC
 go_wp2
 refine (F.x1.put ..).ret rfl rfl ?_
 rw[HV.out]
 exact (F.put1 ..).done rfl M.out.fst
theorem zsB (A:List Tk) (h:Nat) (I z base:Nat) (S:Sv) (q:PS) (w:World) (N:Mem (Cx.mk A h false) I z base S q w) (h0:isT (Cx.mk A h false) q.pos 1 zam=false) (h1:isT (Cx.mk A h false) q.pos 1 zal=false) (h2:isT (Cx.mk A h false) q.pos 1 zG=false) (h3:isT (Cx.mk A h false) q.pos 1 zV=false) (h4:isT (Cx.mk A h false) q.pos 1 zaz=true):
  Calls Tryz.prog 82 #[pv (Cx.mk A h false) I z S q (-1) 0] w (Out (Cx.mk A h false) I z base (zB (Cx.mk A h false) q) 0 S w):=by
 have HM:=zc N
 have K:=N.tok
 have H:(Cx.mk A h false).ts.length≤4000:=N.few
 clear N
 have HV:Hid (zB (Cx.mk A h false) q=bd (bd (bd (bd (bd (bd (.ok q) (zd (Cx.mk A h false) 1 zaz)) (zd (Cx.mk A h false) 4 zp)) (pE (Cx.mk A h false) .sum 0)) (zd (Cx.mk A h false) 4 za8)) (zd (Cx.mk A h false) 4 cSemi)) (zY (Cx.mk A h false) 4 sNone)):=by show zB (Cx.mk A h false) q=_;rw[zB,h0,h1,h2,h3,h4];rfl
 unfold pv
 go_enter Tryz.func82,Tryz.ntmps82
 go_wp2_with fail
 refine (zk (Cx.mk A h false) I z base S q (-1) 0 1 zam _ (zr (zr K _) _) H (by decide)).mono ?_
 rintro e w1 ⟨rfl,ag⟩
 rw[h0]
 have F:=HM.out.fm ag
 clear K
 have J:=F.x0.boxC
 go_wp2_with fail
 refine (zk (Cx.mk A h false) I z base S q (-1) 0 1 zal _ F.m.tok H (by decide)).mono ?_
 rintro e w2 ⟨rfl,aa⟩
 rw[h1]
 replace F:=F.below aa
 clear J
 have J:=F.x0.boxC
 go_wp2_with fail
 refine (zk (Cx.mk A h false) I z base S q (-1) 0 1 zG _ F.m.tok H (by decide)).mono ?_
 rintro e w3 ⟨rfl,ak⟩
 rw[h2]
 replace F:=F.below ak
 clear J
 have J:=F.x0.boxC
 go_wp2_with fail
 refine (zk (Cx.mk A h false) I z base S q (-1) 0 1 zV _ F.m.tok H (by decide)).mono ?_
 rintro e w4 ⟨rfl,ae⟩
 rw[h3]
 replace F:=F.below ae
 clear J
 have J:=F.x0.boxC
 go_wp2_with fail
 refine (zk (Cx.mk A h false) I z base S q (-1) 0 1 zaz _ F.m.tok H (by decide)).mono ?_
 rintro e w5 ⟨rfl,X⟩
 rw[h4]
 replace F:=F.below X
 clear J
 have J:=F.x0.boxC
 go_wp2_with fail
 refine (zaP (Cx.mk A h false) I z base (.ok q) S q (-1) 0 zaz _ (zab q) F.m).mono ?_
 rintro e w6 ⟨S6,q6,z6,rfl,U,m6,s6⟩
 replace F:=F.stp m6 s6
 clear J
 go_wp2_with fail
 refine (zaj (Cx.mk A h false) I z base _ S6 q6 z6 0 zp _ U.out F.m).mono ?_
 rintro e w7 ⟨S7,q7,z7,rfl,O,m7,s7⟩
 replace F:=F.stp m7 s7
 go_wp2_with fail
 refine (zdu (Cx.mk A h false) I z base _ S7 q7 z7 _ O.out F.m).mono ?_
 rintro e w8 ⟨S8,q8,z8,rfl,Z,m8,s8⟩
 replace F:=F.stp m8 s8
 go_wp2_with fail
 refine (zaj (Cx.mk A h false) I z base _ S8 q8 z8 0 za8 _ Z.out F.m).mono ?_
 rintro e w9 ⟨S9,q9,z9,rfl,aj,m9,s9⟩
 replace F:=F.stp m9 s9
 have al:w.heap.size+1<w9.heap.size:=F.x1.lt
 unfold pv
 go_upto_region 13 with fail
 refine (F.new2 _).cut ?_
 intro ar F
 have cb:=F.x2.boxC
 go_wp2_with fail
 refine (zaj (Cx.mk A h false) I z base _ S9 q9 z9 0 cSemi _ aj.out F.m).mono ?_
 rintro e an ⟨ac,Y,ah,rfl,L,ad,ai⟩
 replace F:=F.stp ad ai
 clear cb
 go_wp2_with fail
 refine (zdj (Cx.mk A h false) I z base _ ac Y ah 0 4 sNone _ L.out F.m (zby L.out)).mono ?_
 rintro e am ⟨ao,ap,aq,rfl,M,V,af⟩
 replace F:=F.stp V af
 have bb:=F.x1.boxC
 unfold pv
 go_wp2
 refine (F.x1.put ..).ret rfl rfl ?_
 rw[HV.out]
 exact (F.put1 ..).done rfl M.out
theorem zsC (A:List Tk) (h:Nat) (I z base:Nat) (S:Sv) (q:PS) (w:World) (N:Mem (Cx.mk A h false) I z base S q w) (h0:isT (Cx.mk A h false) q.pos 1 zam=false) (h1:isT (Cx.mk A h false) q.pos 1 zal=false) (h2:isT (Cx.mk A h false) q.pos 1 zG=false) (h3:isT (Cx.mk A h false) q.pos 1 zV=false) (h4:isT (Cx.mk A h false) q.pos 1 zaz=false) (h5:isT (Cx.mk A h false) q.pos 1 zaC=true):
  Calls Tryz.prog 82 #[pv (Cx.mk A h false) I z S q (-1) 0] w (Out (Cx.mk A h false) I z base (zB (Cx.mk A h false) q) 0 S w):=by
 have HM:=zc N
 have K:=N.tok
 have H:(Cx.mk A h false).ts.length≤4000:=N.few
 clear N
 have HV:Hid (zB (Cx.mk A h false) q=bd (bd (bd (bd (.ok q) (zd (Cx.mk A h false) 1 zaC)) (pE (Cx.mk A h false) .sum 0)) (zd (Cx.mk A h false) 4 cSemi)) (zY (Cx.mk A h false) 5 sNone)):=by show zB (Cx.mk A h false) q=_;rw[zB,h0,h1,h2,h3,h4,h5];rfl
 unfold pv
 go_enter Tryz.func82,Tryz.ntmps82
 go_wp2_with fail
 refine (zk (Cx.mk A h false) I z base S q (-1) 0 1 zam _ (zr (zr K _) _) H (by decide)).mono ?_
 rintro e w1 ⟨rfl,ad⟩
 rw[h0]
 have F:=HM.out.fm ad
 clear K
 have J:=F.x0.boxC
 go_wp2_with fail
 refine (zk (Cx.mk A h false) I z base S q (-1) 0 1 zal _ F.m.tok H (by decide)).mono ?_
 rintro e w2 ⟨rfl,aa⟩
 rw[h1]
 replace F:=F.below aa
 clear J
 have J:=F.x0.boxC
 go_wp2_with fail
 refine (zk (Cx.mk A h false) I z base S q (-1) 0 1 zG _ F.m.tok H (by decide)).mono ?_
 rintro e w3 ⟨rfl,ae⟩
 rw[h2]
 replace F:=F.below ae
 clear J
 have J:=F.x0.boxC
 go_wp2_with fail
 refine (zk (Cx.mk A h false) I z base S q (-1) 0 1 zV _ F.m.tok H (by decide)).mono ?_
 rintro e w4 ⟨rfl,ac⟩
 rw[h3]
 replace F:=F.below ac
 clear J
 have J:=F.x0.boxC
 go_wp2_with fail
 refine (zk (Cx.mk A h false) I z base S q (-1) 0 1 zaz _ F.m.tok H (by decide)).mono ?_
 rintro e w5 ⟨rfl,V⟩
 rw[h4]
 replace F:=F.below V
 clear J
 have J:=F.x0.boxC
 go_wp2_with fail
 refine (zk (Cx.mk A h false) I z base S q (-1) 0 1 zaC _ F.m.tok H (by decide)).mono ?_
 rintro e w6 ⟨rfl,U⟩
 rw[h5]
 replace F:=F.below U
 clear J
 have J:=F.x0.boxC
 go_wp2_with fail
 refine (zaP (Cx.mk A h false) I z base (.ok q) S q (-1) 0 zaC _ (zab q) F.m).mono ?_
 rintro e w7 ⟨S7,q7,z7,rfl,O,m7,s7⟩
 replace F:=F.stp m7 s7
 clear J
 go_wp2_with fail
 refine (zdu (Cx.mk A h false) I z base _ S7 q7 z7 _ O.out F.m).mono ?_
 rintro e w8 ⟨S8,q8,z8,rfl,Y,m8,s8⟩
 replace F:=F.stp m8 s8
 go_wp2_with fail
 refine (zaj (Cx.mk A h false) I z base _ S8 q8 z8 0 cSemi _ Y.out F.m).mono ?_
 rintro e w9 ⟨S9,q9,z9,rfl,M,m9,s9⟩
 replace F:=F.stp m9 s9
 go_wp2_with fail
 refine (zdj (Cx.mk A h false) I z base _ S9 q9 z9 0 5 sNone _ M.out F.m (zby M.out)).mono ?_
 rintro e ah ⟨ag,ai,af,rfl,L,X,Z⟩
 replace F:=F.stp X Z
 have bb:=F.x1.boxC
 unfold pv
 go_wp2
 refine (F.x1.put ..).ret rfl rfl ?_
 rw[HV.out]
 exact (F.put1 ..).done rfl L.out
theorem zsD (z:List Tk) (h:Nat) (I A base:Nat) (S:Sv) (q:PS) (w:World) (U:Mem (Cx.mk z h false) I A base S q w) (h0:isT (Cx.mk z h false) q.pos 1 zam=false) (h1:isT (Cx.mk z h false) q.pos 1 zal=false) (h2:isT (Cx.mk z h false) q.pos 1 zG=false) (h3:isT (Cx.mk z h false) q.pos 1 zV=false) (h4:isT (Cx.mk z h false) q.pos 1 zaz=false) (h5:isT (Cx.mk z h false) q.pos 1 zaC=false):
  Calls Tryz.prog 82 #[pv (Cx.mk z h false) I A S q (-1) 0] w (Out (Cx.mk z h false) I A base (zB (Cx.mk z h false) q) 0 S w):=by
 have HM:=zc U
 have K:=U.tok
 have H:(Cx.mk z h false).ts.length≤4000:=U.few
 clear U
 have HV:Hid (zB (Cx.mk z h false) q=bd (bd (.ok q) (zm (Cx.mk z h false) false)) fun a=>bd (bd (bd (bd (.ok a.1) (zd (Cx.mk z h false) 4 cEq)) (pE (Cx.mk z h false) .sum 0)) (zd (Cx.mk z h false) 4 cSemi)) (zY (Cx.mk z h false) 3 a.2)):=by show zB (Cx.mk z h false) q=_;rw[zB,h0,h1,h2,h3,h4,h5];rfl
 unfold pv
 go_enter Tryz.func82,Tryz.ntmps82
 go_wp2_with fail
 refine (zk (Cx.mk z h false) I A base S q (-1) 0 1 zam _ (zr (zr K _) _) H (by decide)).mono ?_
 rintro e w1 ⟨rfl,ak⟩
 rw[h0]
 have F:=HM.out.fm ak
 clear K
 have J:=F.x0.boxC
 go_wp2_with fail
 refine (zk (Cx.mk z h false) I A base S q (-1) 0 1 zal _ F.m.tok H (by decide)).mono ?_
 rintro e w2 ⟨rfl,af⟩
 rw[h1]
 replace F:=F.below af
 clear J
 have J:=F.x0.boxC
 go_wp2_with fail
 refine (zk (Cx.mk z h false) I A base S q (-1) 0 1 zG _ F.m.tok H (by decide)).mono ?_
 rintro e w3 ⟨rfl,ao⟩
 rw[h2]
 replace F:=F.below ao
 clear J
 have J:=F.x0.boxC
 go_wp2_with fail
 refine (zk (Cx.mk z h false) I A base S q (-1) 0 1 zV _ F.m.tok H (by decide)).mono ?_
 rintro e w4 ⟨rfl,ai⟩
 rw[h3]
 replace F:=F.below ai
 clear J
 have J:=F.x0.boxC
 go_wp2_with fail
 refine (zk (Cx.mk z h false) I A base S q (-1) 0 1 zaz _ F.m.tok H (by decide)).mono ?_
 rintro e w5 ⟨rfl,aa⟩
 rw[h4]
 replace F:=F.below aa
 clear J
 have J:=F.x0.boxC
 go_wp2_with fail
 refine (zk (Cx.mk z h false) I A base S q (-1) 0 1 zaC _ F.m.tok H (by decide)).mono ?_
 rintro e w6 ⟨rfl,Y⟩
 rw[h5]
 replace F:=F.below Y
 clear J
 have J:=F.x0.boxC
 go_wp2_with fail
 refine (zbq (Cx.mk z h false) I A base (.ok q) S q (-1) 0 false _ (zab q) F.m).mono ?_
 rintro e w7 ⟨S7,q7,z7,n7,rfl,M,m7,s7⟩
 replace F:=F.stp m7 s7
 clear J
 have aq:w.heap.size+1<w7.heap.size:=F.x1.lt
 unfold pv
 go_upto_region 19 with fail
 refine (F.new2 _).cut ?_
 intro w8 F
 have cb:=F.x2.boxC
 go_wp2_with fail
 refine (zaj (Cx.mk z h false) I A base _ S7 q7 z7 0 cEq _ M.out.fst F.m).mono ?_
 rintro e w9 ⟨S9,q9,z9,rfl,an,m9,s9⟩
 replace F:=F.stp m9 s9
 clear cb
 go_wp2_with fail
 refine (zdu (Cx.mk z h false) I A base _ S9 q9 z9 _ an.out F.m).mono ?_
 rintro e ay ⟨al,ap,V,rfl,O,ac,ae⟩
 replace F:=F.stp ac ae
 go_wp2_with fail
 refine (zaj (Cx.mk z h false) I A base _ al ap V 0 cSemi _ O.out F.m).mono ?_
 rintro e ar ⟨ag,ad,X,rfl,L,ah,am⟩
 replace F:=F.stp ah am
 go_wp2_with fail
 refine (zdj (Cx.mk z h false) I A base _ ag ad X 0 3 n7 _ L.out F.m (zby L.out)).mono ?_
 rintro e ax ⟨au,av,aw,rfl,N,Z,aj⟩
 replace F:=F.stp Z aj
 have bb:=F.x1.boxC
 unfold pv
 go_wp2
 refine (F.x1.put ..).ret rfl rfl ?_
 rw[HV.out,←M.out.bind (fun q n=>bd (bd (bd (bd (.ok q) (zd (Cx.mk z h false) 4 cEq)) (pE (Cx.mk z h false) .sum 0)) (zd (Cx.mk z h false) 4 cSemi)) (zY (Cx.mk z h false) 3 n)),←zlx]
 exact (F.put1 ..).done rfl N.out
theorem zsE (A:List Tk) (h:Nat) (H z base:Nat) (S:Sv) (q:PS) (w:World) (I:Mem (Cx.mk A h false) H z base S q w):
  Calls Tryz.prog 82 #[pv (Cx.mk A h false) H z S q (-1) 0] w (Out (Cx.mk A h false) H z base (zB (Cx.mk A h false) q) 0 S w):=by
 cases J:isT (Cx.mk A h false) q.pos 1 zam with
 |true=>exact zs7 A h H z base S q w I J
 |false=>
  cases K:isT (Cx.mk A h false) q.pos 1 zal with
  |true=>exact zs8 A h H z base S q w I J K
  |false=>
   cases L:isT (Cx.mk A h false) q.pos 1 zG with
   |true=>exact zs9 A h H z base S q w I J K L
   |false=>
    cases M:isT (Cx.mk A h false) q.pos 1 zV with
    |true=>exact zsA A h H z base S q w I J K L M
    |false=>
     cases N:isT (Cx.mk A h false) q.pos 1 zaz with
     |true=>exact zsB A h H z base S q w I J K L M N
     |false=>
      cases O:isT (Cx.mk A h false) q.pos 1 zaC with
      |true=>exact zsC A h H z base S q w I J K L M N O
      |false=>
       exact zsD A h H z base S q w I J K L M N O
theorem zsF (C:Cx) (A h base:Nat) (S:Sv) (q:PS) (w:World) (I:Mem C A h base S q w):
  Calls Tryz.prog 82 #[pv C A h S q (-1) 0] w (Out C A h base (zB C q) 0 S w):=by
 obtain⟨J,z,H⟩:=C
 cases H with
 |true=>exact zs6 J z A h base S q w I
 |false=>exact zsE J z A h base S q w I
theorem zsG (s:ByteArray) (q:Bool) (w:World) (hs:s.size≤4294967296):
  Calls Tryz.prog 54 #[.string s,.bool q] w fun e w'=>ParseOut s q w e w'∧Below w.heap.size w w':=by
 obtain⟨i0,hi,au,aA,ax⟩:=info_parts Tryz.infoExp
 go_enter Tryz.func54,Tryz.ntmps54
 go_wp2_with fail
 refine (znY s q _ hs).mono ?_
 rintro e w1 ⟨⟨r1,O,X⟩,b1⟩
 have ag:Hid (Below w.heap.size w w1):=((Below.refl _ _).alloc (Nat.le_refl _) _).trans (b1.mono (by rw[zg];omega))
 have hG:w1.heap[w.heap.size]? =some (.cells #[.slice none 0 0,.slice none 0 0,.slice none 0 0,.slice none 0 0,.slice none 0 0] 54 (0,0)):=(b1.block _ (by rw[zg];omega)).trans (heap_alloc_new w _)
 rw[zg] at b1
 cases r1 with
 |error p=>
  obtain⟨g,V,rfl,A⟩:=X
  have HY:Hid (zb6 s q (.error p)):=⟨_,O,rfl⟩
  have HG:=zc hG
  obtain⟨c0,c1,c2,c3,c4,cf⟩:=zj hG
  have dz:decide ((0:Int)≤(p:Int))=true:=decide_eq_true (by omega)
  clear A O b1 hG
  go_wp2
  refine bodyPost_ret (zaA rfl _ _ w.heap.size 54 _ (0,0) _ rfl (zd6 HG.out) Tryz.underlying54 rfl (by kernel_rfl)) rfl ?_
  exact⟨⟨_,HY.out,rfl⟩,zdI ag.out (Nat.le_refl _) _ _ _ _ _⟩
 |ok H=>
  obtain⟨g,n,V,rfl,A⟩:=X
  obtain rfl:n=H.length:=A.2
  rw[zg] at A
  have ak:w.heap.size+1≤w1.heap.size:=by have:=b1.size;rw[zg] at this;exact this
  have aj:=zjy O
  have HR:=zc O
  have al:Mem ⟨H,s.size,q⟩ g V (w.heap.size+1) S0 zbX w1:=zjz A aj ak
  have ao:=zc al
  have HG:=zc hG
  clear A O al hG
  go_wp2
  go_loopg [] (H.length+1) (fun k wr=>∃(x':PR) (J:Sv) (Z:PS) (z':Int),Is x' Z z'∧bd x' (za0 ⟨H,s.size,q⟩)=za0 ⟨H,s.size,q⟩ zbX∧(z'<0→H.length-Z.pos<k)∧Mem ⟨H,s.size,q⟩ g V (w.heap.size+1) J Z wr∧Below w.heap.size w wr∧Bx g J wr w1.heap.size #[.slice (some ⟨g,0,none⟩) H.length V,.int .i64 Z.pos,.int .i64 s.size,.bool q,.slice J.rq.a Z.rq.length J.rq.cap,.slice J.im.a Z.im.length J.im.cap,.slice J.ep.a Z.ep.length J.ep.cap,.slice J.st.a Z.st.length J.st.cap,.slice J.ex.a Z.ex.length J.ex.cap,.slice J.la.a Z.la.length J.la.cap,.int .i64 z',.int .i64 0]∧wr.heap[w.heap.size]? =some (.cells #[.slice none 0 0,.slice none 0 0,.slice none 0 0,.slice none 0 0,.slice none 0 0] 54 (0,0)))
  case atStart=>exact⟨.ok zbX,S0,zbX,-1,zab _,rfl,fun _=>by show H.length-0<H.length+1;omega,ao.out.alloc _,ag.out.alloc ag.out.size _,Bx.new ao.out _,(Below.heap_alloc _ _ _ (by omega)).trans HG.out⟩
  case round=>
   obtain⟨x2,S2,M,z2,i2,e2,l2,m2,t2,X0,G2⟩:=hrel
   have ai:=zc i2
   have ah:=zc e2
   have aw:=zc l2
   have z:=zc m2
   have ad:=zc t2
   have N:=zc X0
   have L:=zc G2
   have aE:M.pos≤H.length:=m2.inv.pos
   obtain⟨a0,a1,a2,a3,a4,a5,a6,a7,a8,a9,ab,ac,af⟩:=X0.box
   clear i2 e2 l2 m2 t2 X0 G2
   by_cases hz:z2<0
   ·have dz:decide (z2<0)=true:=decide_eq_true hz
    obtain⟨rfl,rfl⟩:=zaJ ai.out hz
    by_cases hp:M.pos<H.length
    ·have aD:=aw.out hz
     go_wp2_with fail
     refine (zsF ⟨H,s.size,q⟩ g V (w.heap.size+1) S2 M _ z.out).mono ?_
     rintro e w3 ⟨S3,q3,z3,rfl,i3,m3,s3⟩
     have az:=zc m3
     have aq:=zc i3
     have aa:Hid (Below (w.heap.size+1) wr w3):=s3.under z.out.base z.out.own
     have Y:Hid (Bx g S3 w3 w1.heap.size _):=N.out.stp s3
     have ay:Hid (Below w.heap.size w w3):=ad.out.trans (aa.out.mono (by omega))
     have ae:Hid (w3.heap[w.heap.size]? =some (.cells #[.slice none 0 0,.slice none 0 0,.slice none 0 0,.slice none 0 0,.slice none 0 0] 54 (0,0))):=(aa.out.block _ (by omega)).trans L.out
     have HE:Hid (bd (zB ⟨H,s.size,q⟩ M) (za0 ⟨H,s.size,q⟩)=za0 ⟨H,s.size,q⟩ zbX):=by
      show _=_
      rw[←ah.out,zA,zgi,if_pos hp]
     have HP:Hid (z3<0→M.pos<q3.pos):=fun h=>zgh (zaJ aq.out h).1
     clear i3 m3 s3 a0 a1 a2 a3 a4 a5 a6 a7 a8 a9 ab ac af
     obtain⟨a0,a1,a2,a3,a4,a5,a6,a7,a8,a9,ab,ac,af⟩:=Y.out.box
     unfold pv
     go_wp2
     go_roundg (gk-1)
     case rel=>exact⟨_,S3,q3,z3,aq.out,HE.out,fun h=>by have:=HP.out h;omega,az.out.put Y.out _ _ _ _ _ _ _ _ _ _ _ _,zbY ay.out (by omega) _ _ _ _ _ _ _ _ _ _ _ _,Y.out.put _ _ _ _ _ _ _ _ _ _ _ _,(zfL (by omega) ..).trans ae.out⟩
     case measure=>omega
    ·have HD:Hid (za0 ⟨H,s.size,q⟩ zbX= .ok M):=by
      show _=_
      rw[←ah.out,zA,zgi,if_neg hp]
     have HY:Hid (zb6 s q (.ok M)):=⟨_,HR.out,HD.out.symm⟩
     have am:w1.heap.size<wr.heap.size:=N.out.lt
     have aC:=z.out.inv.ep
     have I:=z.out.own.ep
     have aa:=z.out.base
     rcases z.out.own.la.nil_or with ⟨ha,hc,hn⟩|⟨gl,ha⟩
     ·have HN:Hid (M.la=[]):=List.eq_nil_of_length_eq_zero hn
      rw[ha,hc,hn] at a9
      obtain⟨c0,c1,c2,c3,c4,cf⟩:=zj L.out
      clear ha hc hn
      go_wp2_with (at_builtin;refine znK _ rfl _ _ 50 rfl 97 i0 Tryz.underlying50 hi (w.heap.size+1) 4 M.ep.length S2.ep _ (by rfl) I (by rfl) ?_)
      clear I
      go_wp2
      refine bodyPost_ret (zaA rfl _ _ w.heap.size 54 _ (0,0) _ rfl (zd6 ((zv (by omega)).trans L.out)) Tryz.underlying54 rfl (by kernel_rfl)) rfl ?_
      refine⟨⟨_,HY.out,S2,by simp[zgj,HN.out],z.out.whole0 HN.out (Nat.lt_succ_self _) N.out.free fun k U h2=>?_⟩,zdI (ad.out.setCell (by show _≤w1.heap.size;omega) _) (Nat.le_refl _) _ _ _ _ _⟩
      rw[zv U,zv U,zv U,zv U,zv U,zv h2]
     ·have an:OwnR wr (w.heap.size+1) 97 4 ⟨some ⟨gl,0,none⟩,S2.la.cap⟩ M.la.length (M.la.flatMap epL):=by have:=z.out.own.la;unfold OwnR at this ⊢;rw[ha] at this;exact this
      rw[ha] at a9
      go_wp2_with (at_builtin;refine znJ _ rfl _ _ 50 rfl (w.heap.size+1) 97 i0 _ 4 56 Tryz.underlying50 hi au aA ax rfl (by decide) (by decide) S2.ep M.ep.length _ (by rfl) I gl M.la.length S2.la.cap (w.heap.size+1) _ (by rfl) an (zh2 _) (by omega) aa ?_)
      intro r' w3 hr hg ap
      have aB:=zc hr
      have K:=zc hg
      have av:=zc ap
      have ar:=fun b hb=>zej (W:=wr) z.out.own (Nat.le_refl _) (r:=S2.ep.blk) (fun k e=>.inr (.inr (.inl e))) b hb
      have Y:Hid (w3.heap[w1.heap.size]? =_):=(hg.block _ am (fun e=>N.out.free (.inr (.inr (.inl e.symm))))).trans N.out.heap
      have ae:Hid (w3.heap[w.heap.size]? =_):=(hg.block _ (by omega) (fun e=>by have:=(I.typed e.symm).1;omega)).trans L.out
      clear a0 a1 a2 a3 a4 a5 a6 a7 a8 a9 ab ac af hr hg ap ar I an
      obtain⟨a0,a1,a2,a3,a4,a5,a6,a7,a8,a9,ab,ac,af⟩:=zap Y.out
      obtain⟨c0,c1,c2,c3,c4,cf⟩:=zj ae.out
      go_wp2
      refine bodyPost_ret (zaA rfl _ _ w.heap.size 54 _ (0,0) _ rfl (zd6 ((zv (by omega)).trans ae.out)) Tryz.underlying54 rfl (by kernel_rfl)) rfl ?_
      refine⟨⟨_,HY.out,{S2 with ep:=r'},by simp[zgj],z.out.whole K.out aB.out av.out (Nat.lt_succ_self _) am N.out.free fun k U h2=>?_⟩,zdI ((ad.out.trans (Below.mono (B:=w.heap.size+1) ⟨K.out.os,K.out.tape,K.out.output,K.out.size,fun k hk=>K.out.block k (by omega) fun e=>by have:=(z.out.own.ep.typed e.symm).1;omega⟩ (by omega))).setCell (by show _≤w1.heap.size;omega) _) (Nat.le_refl _) _ _ _ _ _⟩
      rw[zv U,zv U,zv U,zv U,zv U,zv h2]
   ·have dz:decide (z2<0)=false:=decide_eq_false hz
    obtain⟨e0,rfl,rfl⟩:=zd9 ai.out hz
    have aF:decide ((0:Int)≤(e0:Int))=true:=decide_eq_true (by omega)
    have HY:Hid (zb6 s q (.error e0)):=⟨_,HR.out,(show (.error e0:PR)=za0 ⟨H,s.size,q⟩ zbX from ah.out)⟩
    obtain⟨c0,c1,c2,c3,c4,cf⟩:=zj L.out
    go_wp2
    go_region
    all_goals
     go_wp2
     refine bodyPost_ret (zaA rfl _ _ w.heap.size 54 _ (0,0) _ rfl (zd6 L.out) Tryz.underlying54 rfl (by kernel_rfl)) rfl ?_
     exact⟨⟨_,HY.out,rfl⟩,(zdI ad.out (Nat.le_refl _) ..).drew⟩
end Go.Proofs.YtgcbmogmniahjaaGreat
