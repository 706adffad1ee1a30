/-
  What spec's l4Import answers: the walks.
  What spec's l4Export answers: the walks.
  What spec's l4Export answers to a list of names: the walks.
  What spec's l4Item answers: the walks.
  What spec's l4Item answers outside of a script: the walks.
  What spec.Parse answers: the walk.
-/
import Derived.Test.YtgcbmogmniahjaaGreatCAsSpecBoxToSpecParseK
namespace Go.Proofs.YtgcbmogmniahjaaGreat
set_option maxRecDepth 100000
set_option maxHeartbeats 6400000
open Go.RowKit Go.PlainAid
theorem zd2 {C:Cx} {k:Int} {s:ByteArray} {q z:PS} {w:Int} (h:Is (bd (.ok q) (zd C k s)) z w) (A:isT C q.pos k s=true):z=adv q∧w= -1:=by
 rw[zB,zd,if_pos A] at h
 exact h
theorem zfV {α:Type} (f:α→PS→PR) (l:List α) (e:Nat):zab f l (.error e)= .error e:=by
 induction l with
 |nil=>rfl
 |cons a l h=>exact h
theorem zha {α:Type} (f:α→PS→PR) (l:List α) (x:PR) {k:Nat} (h:k<l.length):zab f (l.drop k) x=zab f (l.drop (k+1)) (bd x (f (l[k]))):=by
 rw[List.drop_eq_getElem_cons h]
 rfl
theorem zl8 {C:Cx} {h:PRN} {J L:PS} {I D:Int} {z A:ByteArray} {G:ByteArray→ByteArray→PS→PR} (H:Is2 h J I z) (w:Is2 (bd (bd (zaV h) (zd C 1 zX)) (zM C)) L D A):
  bd (bd (zaV (bd (bd (zaV h) (zd C 1 zX)) (zM C))) (zd C 4 cSemi)) (G A z)=bd h fun a=>bd (zbl C (zaN C (.ok a.1))) fun b=>G b.2 a.2 b.1:=by
 cases h with
 |error e=>rfl
 |ok a=>
  obtain⟨_,_,rfl⟩:=H
  have E:bd (bd (zaV (.ok a)) (zd C 1 zX)) (zM C)=zaN C (.ok a.1):=rfl
  rw[E] at w ⊢
  rw[zB]
  cases K:zaN C (.ok a.1) with
  |error e=>rfl
  |ok b=>
   rw[K] at w
   obtain⟨_,_,rfl⟩:=w
   show bd (zd C 4 cSemi b.1) (G b.2 a.2)=bd (bd (zd C 4 cSemi b.1) fun q=>.ok (q,b.2)) fun b=>G b.2 a.2 b.1
   rw[zQ]
   rfl
def zfW (y:PRL):PR:=bd y fun a=>.ok a.1
theorem Is3.fst {y:PRL} {q:PS} {z:Int} {l:List Ep} (h:Is3 y q z l):Is (zfW y) q z:=by
 cases y with
 |ok a=>exact⟨h.1,h.2.1⟩
 |error e=>exact h
theorem ziy {C:Cx} {y:PRL} {H K:PS} {E z:Int} {l:List Ep} {w:ByteArray} {G:ByteArray→Ep→PS→PR} (D:Is3 y H E l) (h:Is2 (bd (bd (zfW y) (zd C 1 zX)) (zM C)) K z w):
  zab (G w) l (bd (zaV (bd (bd (zfW y) (zd C 1 zX)) (zM C))) (zd C 4 cSemi))=bd y fun a=>bd (zbl C (zaN C (.ok a.1))) fun b=>zab (G b.2) a.2 (.ok b.1):=by
 cases y with
 |error e=>exact zfV _ _ _
 |ok a=>
  obtain⟨_,_,rfl⟩:=D
  have A:bd (bd (zfW (.ok a)) (zd C 1 zX)) (zM C)=zaN C (.ok a.1):=rfl
  rw[A] at h ⊢
  rw[zB]
  cases I:zaN C (.ok a.1) with
  |error e=>exact zfV _ _ _
  |ok b=>
   rw[I] at h
   obtain⟨_,_,rfl⟩:=h
   show zab (G b.2) a.2 (bd (zaV (.ok b)) (zd C 4 cSemi))=bd (bd (zd C 4 cSemi b.1) fun q=>.ok (q,b.2)) fun b=>zab (G b.2) a.2 (.ok b.1)
   have J:bd (zaV (.ok b)) (zd C 4 cSemi)=zd C 4 cSemi b.1:=rfl
   rw[J,zQ]
   cases zd C 4 cSemi b.1 with
   |error e=>exact zfV _ _ _
   |ok c=>rfl
theorem Mem.drew {C:Cx} {A z base:Nat} {S:Sv} {q:PS} {w:World} (h:Mem C A z base S q w):Mem C A z base S q w.drew:=⟨⟨h.own.rq,h.own.im,h.own.ep,h.own.st,h.own.ex,h.own.la,h.own.apart⟩,h.inv,h.tok,h.few,h.base⟩
theorem Stp.undrew {S q:Sv} {w z:World} (h:Stp S w.drew q z):Stp S w q z:=⟨h.os,h.tape,h.output,h.size,h.block,h.sub⟩
theorem Row.cells {S:Sv} {w:World} {base B g:Nat} {r:Rw} {l:List Ep} (h:Row S w base B r l) (I:r.a=some ⟨g,0,none⟩) {j:Nat} (D:j<l.length):
  w.cell? ⟨g,j*4+1,none⟩=some (.string (l[j]).name)∧w.cell? ⟨g,j*4+2,none⟩=some (.string (l[j]).loc):=by
 have z:=h.own
 unfold OwnR at z
 rw[I] at z
 have q: ∀(l:List Ep) (i c:Nat) (E:c<4) (A:i<l.length),(l.flatMap epL)[i*4+c]? =(epL l[i])[c]?:=by
  intro l
  induction l with
  |nil=>intro i c _ A;simp at A
  |cons x l H=>
   intro i c E A
   match i with
   |0=>
    simp only[List.flatMap_cons,Nat.zero_mul,Nat.zero_add,List.getElem_cons_zero]
    rw[List.getElem?_append_left (by simp[epL];omega)]
   |i+1=>
    simp only[List.flatMap_cons,List.getElem_cons_succ]
    rw[List.getElem?_append_right (by simp[epL];omega)]
    have e:(i+1)*4+c-(epL x).length=i*4+c:=by simp[epL];omega
    rw[e]
    exact H i c E (by simpa using A)
 rw[z.cellAt _ (by omega),z.cellAt _ (by omega)]
 exact⟨q l j 1 (by omega) D,q l j 2 (by omega) D⟩
theorem zs4 {C:Cx} {y:Im} {x:PR} {q q':PS} {z z':Int} (A:z<0→1≤q.pos) (E:Is x q z) (h:Is (bd x (zap C y)) q' z'):z'<0→1≤q'.pos:=by
 intro H
 obtain⟨e,_⟩:=zaK h H
 obtain⟨a,D,w⟩:=zo e
 subst D
 obtain⟨rfl,rfl⟩:=E
 unfold zap at w
 split at w
 ·cases w
 ·cases w
  exact A (by decide)
theorem ziz {C:Cx} {y:Ep} {x:PR} {q q':PS} {z z':Int} (A:z<0→1≤q.pos) (E:Is x q z) (h:Is (bd x (zq C y)) q' z'):z'<0→1≤q'.pos:=by
 intro H
 obtain⟨e,_⟩:=zaK h H
 obtain⟨a,D,w⟩:=zo e
 subst D
 obtain⟨rfl,rfl⟩:=E
 unfold zq at w
 split at w
 ·cases w
 ·split at w
  ·cases w
   exact A (by decide)
  ·cases w
   exact A (by decide)
theorem zs5 (C:Cx) (z h base:Nat) (S:Sv) (q:PS) (w:World) (hm:Mem C z h base S q w) (hw:isT C q.pos 1 zao=true) (h1:isT C (q.pos+1) 4 zO=false) (h2:isT C (q.pos+1) 4 zz=true):
  Calls Tryz.prog 114 #[pv C z h S q (-1) 0] w (Out C z h base (zbe C q) 0 S w):=by
 have HM:=zc hm
 have E:=hm.few
 clear hm
 have HV:Hid (zbe C q=bd (bd (bd (bd (.ok (adv q)) (zd C 4 zz)) (zd C 1 sAs)) (zm C false)) fun a=>bd (zbl C (zaN C (.ok a.1))) fun b=>zap C ⟨b.2,zz,a.2⟩ b.1):=by
  show _=_
  rw[zbe,zd,if_pos hw,zB]
  rw[zA,h1,h2]
  rfl
 unfold pv
 go_enter Tryz.func114,Tryz.ntmps114
 go_wp2_with fail
 refine (zaQ C z h base (.ok q) S q (-1) 0 zao _ (zad q) ((HM.out.alloc _).alloc _)).mono ?_
 rintro e w1 ⟨S1,K,z1,rfl,M,m1,s1⟩
 have F:=HM.out.fm2 m1 s1
 obtain⟨J,rfl⟩:=zd2 M.out hw
 have HQ:=zc J
 have H:Hid (K.pos=q.pos+1):=by show K.pos=q.pos+1;rw[J];rfl
 clear J M
 have I:=F.x0.boxC
 unfold pv
 go_upto_region 2 with fail
 refine (F.put0 ..).cut ?_
 clear I
 intro w2 F
 have I:=F.x0.boxC
 go_wp2_with fail
 refine (zk C z h base S1 K (-1) 0 4 zO _ F.m.tok E (by decide)).mono ?_
 rintro e w3 ⟨rfl,ah⟩
 rw[H.out,h1]
 replace F:=F.below ah
 clear I
 have I:=F.x0.boxC
 go_wp2_with fail
 refine (zk C z h base S1 K (-1) 0 4 zz _ F.m.tok E (by decide)).mono ?_
 rintro e w4 ⟨rfl,an⟩
 rw[H.out,h2]
 replace F:=F.below an
 clear I
 have I:=F.x0.boxC
 clear H
 go_wp2_with fail
 refine (zal C z h base (.ok K) S1 K (-1) 0 zz _ (zad K) F.m).mono ?_
 rintro e w5 ⟨S5,q5,z5,rfl,ak,m5,s5⟩
 replace F:=F.stp m5 s5
 clear I
 go_wp2_with fail
 refine (zaQ C z h base _ S5 q5 z5 0 sAs _ ak.out F.m).mono ?_
 rintro e w6 ⟨S6,q6,z6,rfl,aa,m6,s6⟩
 replace F:=F.stp m6 s6
 go_wp2_with fail
 refine (zbt C z h base _ S6 q6 z6 0 false _ aa.out F.m).mono ?_
 rintro e w7 ⟨S7,q7,z7,n7,rfl,N,m7,s7⟩
 replace F:=F.stp m7 s7
 have aq:w.heap.size+1<w7.heap.size:=F.x1.lt
 unfold pv
 go_upto_region 13 with fail
 refine (F.new2 _).cut ?_
 intro w8 F
 have cb:=F.x2.boxC
 go_wp2_with fail
 refine (zaQ C z h base _ S7 q7 z7 0 zX _ N.out.fst F.m).mono ?_
 rintro e w9 ⟨S9,q9,z9,rfl,ag,m9,s9⟩
 replace F:=F.stp m9 s9
 clear cb
 go_wp2_with fail
 refine (ze8 C z h base _ S9 q9 z9 0 _ ag.out F.m).mono ?_
 rintro e O ⟨af,ao,V,ai,rfl,D,al,Z⟩
 replace F:=F.stp al Z
 have ap:w.heap.size+1<O.heap.size:=F.x1.lt
 have U:w7.heap.size<O.heap.size:=F.x2.lt
 unfold pv
 go_upto_region 14 with fail
 refine (F.new3 _).cut ?_
 intro au F
 have db:=F.x3.boxC
 go_wp2_with fail
 refine (zal C z h base _ af ao V 0 cSemi _ D.out.fst F.m).mono ?_
 rintro e ay ⟨aj,Y,am,rfl,A,X,ad⟩
 replace F:=F.stp X ad
 clear db
 go_wp2_with fail
 refine (zhK C z h base _ aj Y am 0 ⟨ai,zz,n7⟩ _ A.out F.m (zb0 A.out)).mono ?_
 rintro e ax ⟨aw,av,ar,rfl,L,ae,ac⟩
 replace F:=F.stp ae ac
 have bb:=F.x1.boxC
 unfold pv
 go_wp2
 refine (F.x1.put ..).ret rfl rfl ?_
 rw[HV.out,←HQ.out,←zl8 (G:=fun b a=>zap C ⟨b,zz,a⟩) N.out D.out]
 exact (F.put1 ..).done rfl L.out
theorem zs6 (C:Cx) (z h base:Nat) (S:Sv) (q:PS) (w:World) (hm:Mem C z h base S q w) (hw:isT C q.pos 1 zao=true) (h1:isT C (q.pos+1) 4 zO=false) (h2:isT C (q.pos+1) 4 zz=false) (h3:zJ C (q.pos+1) false=true):
  Calls Tryz.prog 114 #[pv C z h S q (-1) 0] w (Out C z h base (zbe C q) 0 S w):=by
 have HM:=zc hm
 have A:=hm.few
 clear hm
 have HV:Hid (zbe C q=bd (bd (.ok (adv q)) (zm C false)) fun a=>bd (zbl C (zaN C (.ok a.1))) fun b=>zap C ⟨b.2,sDefault,a.2⟩ b.1):=by
  show _=_
  rw[zbe,zd,if_pos hw,zB]
  rw[zA,h1,h2,h3]
  rfl
 unfold pv
 go_enter Tryz.func114,Tryz.ntmps114
 go_wp2_with fail
 refine (zaQ C z h base (.ok q) S q (-1) 0 zao _ (zad q) ((HM.out.alloc _).alloc _)).mono ?_
 rintro e w1 ⟨U,I,z1,rfl,K,m1,s1⟩
 have F:=HM.out.fm2 m1 s1
 obtain⟨J,rfl⟩:=zd2 K.out hw
 have HQ:=zc J
 have D:Hid (I.pos=q.pos+1):=by show I.pos=q.pos+1;rw[J];rfl
 clear J K
 have E:=F.x0.boxC
 unfold pv
 go_upto_region 2 with fail
 refine (F.put0 ..).cut ?_
 clear E
 intro w2 F
 have E:=F.x0.boxC
 go_wp2_with fail
 refine (zk C z h base U I (-1) 0 4 zO _ F.m.tok A (by decide)).mono ?_
 rintro e w3 ⟨rfl,ah⟩
 rw[D.out,h1]
 replace F:=F.below ah
 clear E
 have E:=F.x0.boxC
 go_wp2_with fail
 refine (zk C z h base U I (-1) 0 4 zz _ F.m.tok A (by decide)).mono ?_
 rintro e w4 ⟨rfl,ad⟩
 rw[D.out,h2]
 replace F:=F.below ad
 clear E
 have E:=F.x0.boxC
 go_wp2_with fail
 refine (zgw C z h base U I (-1) 0 false _ F.m.tok A).mono ?_
 rintro e w5 ⟨rfl,X⟩
 rw[D.out,h3]
 replace F:=F.below X
 clear E
 have E:=F.x0.boxC
 clear D
 go_wp2_with fail
 refine (zbt C z h base (.ok I) U I (-1) 0 false _ (zad I) F.m).mono ?_
 rintro e w6 ⟨S6,q6,z6,n6,rfl,M,m6,s6⟩
 replace F:=F.stp m6 s6
 clear E
 have ai:w.heap.size+1<w6.heap.size:=F.x1.lt
 unfold pv
 go_upto_region 17 with fail
 refine (F.new2 _).cut ?_
 intro w7 F
 have cb:=F.x2.boxC
 go_wp2_with fail
 refine (zaQ C z h base _ S6 q6 z6 0 zX _ M.out.fst F.m).mono ?_
 rintro e w8 ⟨S8,q8,z8,rfl,Z,m8,s8⟩
 replace F:=F.stp m8 s8
 clear cb
 go_wp2_with fail
 refine (ze8 C z h base _ S8 q8 z8 0 _ Z.out F.m).mono ?_
 rintro e w9 ⟨S9,q9,z9,n9,rfl,N,m9,s9⟩
 replace F:=F.stp m9 s9
 have aj:w.heap.size+1<w9.heap.size:=F.x1.lt
 have O:w6.heap.size<w9.heap.size:=F.x2.lt
 unfold pv
 go_upto_region 18 with fail
 refine (F.new3 _).cut ?_
 intro ap F
 have db:=F.x3.boxC
 go_wp2_with fail
 refine (zal C z h base _ S9 q9 z9 0 cSemi _ N.out.fst F.m).mono ?_
 rintro e ak ⟨aa,Y,af,rfl,H,ac,ag⟩
 replace F:=F.stp ac ag
 clear db
 go_wp2_with fail
 refine (zhK C z h base _ aa Y af 0 ⟨n9,sDefault,n6⟩ _ H.out F.m (zb0 H.out)).mono ?_
 rintro e ao ⟨al,am,an,rfl,L,V,ae⟩
 replace F:=F.stp V ae
 have bb:=F.x1.boxC
 unfold pv
 go_wp2
 refine (F.x1.put ..).ret rfl rfl ?_
 rw[HV.out,←HQ.out,←zl8 (G:=fun b a=>zap C ⟨b,sDefault,a⟩) M.out N.out]
 exact (F.put1 ..).done rfl L.out
theorem zs7 (C:Cx) (E h base:Nat) (S:Sv) (q:PS) (w:World) (O:Mem C E h base S q w) (hw:isT C q.pos 1 zao=true) (Z:isT C (q.pos+1) 4 zO=false) (X:isT C (q.pos+1) 4 zz=false) (h3:zJ C (q.pos+1) false=false):
  Calls Tryz.prog 114 #[pv C E h S q (-1) 0] w (Out C E h base (zbe C q) 0 S w):=by
 have Y:=zc O
 have z:=O.few
 clear O
 have HV:Hid (zbe C q=bd (bd (.ok (adv q)) (zM C)) fun a=>zd C 4 cSemi a.1):=by
  show _=_
  rw[zbe,zd,if_pos hw,zB]
  rw[zA,Z,X,h3]
  rfl
 unfold pv
 go_enter Tryz.func114,Tryz.ntmps114
 go_wp2_with fail
 refine (zaQ C E h base (.ok q) S q (-1) 0 zao _ (zad q) ((Y.out.alloc _).alloc _)).mono ?_
 rintro e w1 ⟨L,H,z1,rfl,J,m1,s1⟩
 have F:=Y.out.fm2 m1 s1
 obtain⟨I,rfl⟩:=zd2 J.out hw
 have HQ:=zc I
 have A:Hid (H.pos=q.pos+1):=by show H.pos=q.pos+1;rw[I];rfl
 clear I J
 have D:=F.x0.boxC
 unfold pv
 go_upto_region 2 with fail
 refine (F.put0 ..).cut ?_
 clear D
 intro w2 F
 have D:=F.x0.boxC
 go_wp2_with fail
 refine (zk C E h base L H (-1) 0 4 zO _ F.m.tok z (by decide)).mono ?_
 rintro e w3 ⟨rfl,V⟩
 rw[A.out,Z]
 replace F:=F.below V
 clear D
 have D:=F.x0.boxC
 go_wp2_with fail
 refine (zk C E h base L H (-1) 0 4 zz _ F.m.tok z (by decide)).mono ?_
 rintro e w4 ⟨rfl,U⟩
 rw[A.out,X]
 replace F:=F.below U
 clear D
 have D:=F.x0.boxC
 go_wp2_with fail
 refine (zgw C E h base L H (-1) 0 false _ F.m.tok z).mono ?_
 rintro e w5 ⟨rfl,M⟩
 rw[A.out,h3]
 replace F:=F.below M
 clear D
 have D:=F.x0.boxC
 clear A
 go_wp2_with fail
 refine (ze8 C E h base (.ok H) L H (-1) 0 _ (zad H) F.m).mono ?_
 rintro e w6 ⟨S6,q6,z6,n6,rfl,K,m6,s6⟩
 replace F:=F.stp m6 s6
 clear D
 have aa:w.heap.size+1<w6.heap.size:=F.x1.lt
 unfold pv
 go_upto_region 20 with fail
 refine (F.new2 _).cut ?_
 intro w7 F
 have cb:=F.x2.boxC
 go_wp2_with fail
 refine (zal C E h base _ S6 q6 z6 0 cSemi _ K.out.fst F.m).mono ?_
 rintro e w8 ⟨S8,q8,z8,rfl,N,m8,s8⟩
 replace F:=F.stp m8 s8
 clear cb
 have bb:=F.x1.boxC
 unfold pv
 go_wp2
 refine (F.x1.put ..).ret rfl rfl ?_
 rw[HV.out,←HQ.out,←K.out.bind (fun q _=>zd C 4 cSemi q)]
 exact (F.put1 ..).done rfl N.out
theorem zs8 (C:Cx) (D h base:Nat) (S:Sv) (q:PS) (w:World) (hm:Mem C D h base S q w) (hw:isT C q.pos 1 zao=true) (h1:isT C (q.pos+1) 4 zO=true):
  Calls Tryz.prog 114 #[pv C D h S q (-1) 0] w (Out C D h base (zbe C q) 0 S w):=by
 have HM:=zc hm
 have al:=hm.few
 clear hm
 have HV:Hid (zbe C q=bd (zdm C false (adv q)) fun a=>bd (zbl C (zaN C (.ok a.1))) fun b=>zab (fun e=>zap C (zcj b.2 e)) a.2 (.ok b.1)):=by
  show _=_
  rw[zbe,zd,if_pos hw,zB]
  rw[zA,h1]
  rfl
 unfold pv
 go_enter Tryz.func114,Tryz.ntmps114
 go_wp2_with fail
 refine (zaQ C D h base (.ok q) S q (-1) 0 zao _ (zad q) ((HM.out.alloc _).alloc _)).mono ?_
 rintro e w1 ⟨S1,q1,z1,rfl,Z,m1,s1⟩
 have F:=HM.out.fm2 m1 s1
 obtain⟨N,rfl⟩:=zd2 Z.out hw
 have HQ:=zc N
 have U:Hid (q1.pos=q.pos+1):=by show q1.pos=q.pos+1;rw[N];rfl
 clear N Z
 have H:=F.x0.boxC
 unfold pv
 go_upto_region 2 with fail
 refine (F.put0 ..).cut ?_
 clear H
 intro w2 F
 have H:=F.x0.boxC
 go_wp2_with fail
 refine (zk C D h base S1 q1 (-1) 0 4 zO _ F.m.tok al (by decide)).mono ?_
 rintro e w3 ⟨rfl,av⟩
 rw[U.out,h1]
 replace F:=F.below av
 clear H
 have H:=F.x0.boxC
 clear U
 have ao:=F.t.size
 go_wp2_with fail
 refine (zlu C D h base S1 q1 0 false _ F.m).mono ?_
 rintro e w4 ⟨S4,q4,z4,⟨ra,Y⟩,l,rfl,i4,m4,s4,R0,hl⟩
 obtain⟨g,rfl⟩: ∃g,ra=some ⟨g,0,none⟩:=R0.addr
 replace F:=F.stp m4 s4
 have ad:=zc i4
 clear H
 have z:Hid (Row S4 w4 base w.heap.size ⟨some ⟨g,0,none⟩,Y⟩ l):=⟨R0.own,R0.free,fun k hk=>Nat.le_trans ao (R0.new k hk),R0.addr⟩
 clear R0
 have az:w.heap.size+1<w4.heap.size:=F.x1.lt
 unfold pv
 go_upto_region 4 with fail
 refine (F.new2 _).cutR (RW:=fun W=>Row S4 W base w.heap.size ⟨some ⟨g,0,none⟩,Y⟩ l) (z.out.alloc _) ?_
 clear z
 intro w5 F R0
 have z:=zc R0
 clear R0
 obtain⟨c0,c1,c2,c3,c4,c5,c6,c7,c8,c9,ap,aw,cf⟩:=F.x2.box
 go_wp2_with fail
 refine (zaQ C D h base _ S4 q4 z4 0 zX _ ad.out.fst F.m).mono ?_
 rintro e w6 ⟨S6,q6,z6,rfl,aq,m6,s6⟩
 replace z:=zc (z.out.stp s6)
 replace F:=F.stp m6 s6
 clear c0 c1 c2 c3 c4 c5 c6 c7 c8 c9 ap aw cf
 go_wp2_with fail
 refine (ze8 C D h base _ S6 q6 z6 0 _ aq.out F.m).mono ?_
 rintro e w7 ⟨S7,q7,z7,X,rfl,aa,m7,s7⟩
 replace z:=zc (z.out.stp s7)
 replace F:=F.stp m7 s7
 have ay:w.heap.size+1<w7.heap.size:=F.x1.lt
 have am:w4.heap.size<w7.heap.size:=F.x2.lt
 unfold pv
 go_upto_region 5 with fail
 refine (F.new3 _).cutR (RW:=fun W=>Row S7 W base w.heap.size ⟨some ⟨g,0,none⟩,Y⟩ l) (z.out.alloc _) ?_
 clear z
 intro w8 F R0
 have z:=zc R0
 clear R0
 obtain⟨d0,d1,d2,d3,d4,d5,d6,d7,d8,d9,O,L,df⟩:=F.x3.box
 go_wp2_with fail
 refine (zal C D h base _ S7 q7 z7 0 cSemi _ aa.out.fst F.m).mono ?_
 rintro e w9 ⟨S9,q9,z9,rfl,E,m9,s9⟩
 replace z:=zc (z.out.stp s9)
 replace F:=F.stp m9 s9
 clear d0 d1 d2 d3 d4 d5 d6 d7 d8 d9 O L df
 have H:=F.x0.boxC
 unfold pv
 go_upto_region 6 with fail
 refine (F.put0 ..).cutR (RW:=fun W=>Row S9 W base w.heap.size ⟨some ⟨g,0,none⟩,Y⟩ l) (z.out.put F.x0 ..) ?_
 clear H
 clear z
 intro ai F R0
 have z:=zc R0
 clear R0
 have ar:Hid (_=_):=ziy (G:=fun b e=>zap C (zcj b e)) ad.out aa.out
 go_wp2
 go_loopg [8] l.length (fun k i wr=>∃(j:Nat) (x':PR) (A:Sv) (I:PS) (z':Int),j≤l.length∧i= .int .i64 j∧Is x' I z'∧(z'<0→1≤I.pos)∧zab (fun e=>zap C (zcj X e)) (l.drop j) x'=zbe C q∧l.length-j=k∧Mem C D h base A I wr∧SB w.heap.size S w A wr∧Bx D A wr w.heap.size #[.slice (some ⟨D,0,none⟩) C.ts.length h,.int .i64 I.pos,.int .i64 C.fin,.bool C.scr,.slice A.rq.a I.rq.length A.rq.cap,.slice A.im.a I.im.length A.im.cap,.slice A.ep.a I.ep.length A.ep.cap,.slice A.st.a I.st.length A.st.cap,.slice A.ex.a I.ex.length A.ex.cap,.slice A.la.a I.la.length A.la.cap,.int .i64 z',.int .i64 0]∧Bx D A wr (w.heap.size+1) #[.slice none 0 0,.int .i64 0,.int .i64 0,.bool false,.slice none 0 0,.slice none 0 0,.slice none 0 0,.slice none 0 0,.slice none 0 0,.slice none 0 0,.int .i64 0,.int .i64 0]∧Row A wr base w.heap.size ⟨some ⟨g,0,none⟩,Y⟩ l)
 case atStart=>exact⟨0,_,S9,q9,z9,Nat.zero_le _,rfl,E.out,zb0 E.out,by rw[HV.out,←HQ.out];exact ar.out,rfl,F.m,F.t,F.x0,F.x1,z.out⟩
 case round=>
  obtain⟨j,x9,S9,q9,z9,hj,rfl,i9,p9,e9,g9,m9,t9,X0,X1,R0⟩:=hrel
  clear z
  have F:=Fm.of2 X0 X1 m9 t9 (by omega) (by omega) (by omega)
  have E:=zc i9
  have ae:=zc p9
  have V:=zc e9
  have ak:=zc g9
  have z:=zc R0
  clear X0 X1 i9 m9 t9 e9 g9 R0 p9
  by_cases ac:j<l.length
  ·skip
   obtain⟨c1,c2⟩:=z.out.cells (g:=g) rfl ac
   have aA:=z.out.own.lt (g:=g) rfl
   have HX:Hid (∀e,e=l[j]→zab (fun e=>zap C (zcj X e)) (l.drop (j+1)) (bd x9 (zap C (zcj X e)))=zbe C q):=fun e he=>by rw[he,←V.out];exact (zha (fun e=>zap C (zcj X e)) l x9 ac).symm
   generalize ag:l[j]=el at c1 c2
   have au:Hid (el=l[j]):=ag.symm
   clear ag
   have H:=F.x0.boxC
   go_upto_region 9 with fail
   go_region_law (first|(go_simp;go_wp2_with (go_at_call 154;refine (zhK C D h base x9 S9 q9 z9 0 (zcj X el) _ E.out F.m.drew ae.out).mono ?_;rintro e ai ⟨af,ax,an,rfl,ah,aj,M⟩;obtain⟨d0,d1,d2,d3,d4,d5,d6,d7,d8,d9,O,L,df⟩:=(F.x0.stp M.undrew).box;unfold pv)))
   all_goals
    clear H d0 d1 d2 d3 d4 d5 d6 d7 d8 d9 O L df
    have K:=zc ah
    have J:Hid (Stp S9 wr af ai):=M.undrew
    replace F:=F.stp aj J.out
    clear ah aj M
    go_wp2
    go_roundg (gk-1)
    case rel=>exact⟨j+1,_,af,ax,an,by omega,by go_num,K.out,zs4 ae.out E.out K.out,HX.out el au.out,by have:=ak.out;omega,F.m.put F.x0 _ _ _ _ _ _ _ _ _ _ _ _,F.t.put (by omega) _ _ _ _ _ _ _ _ _ _ _ _,F.x0.put _ _ _ _ _ _ _ _ _ _ _ _,F.x1.other (by omega) _ _ _ _ _ _ _ _ _ _ _ _,(z.out.stp J.out).put F.x0 _ _ _ _ _ _ _ _ _ _ _ _⟩
    case measure=>have:=ak.out;omega
  ·skip
   have H:=F.x0.boxC
   have bb:=F.x1.boxC
   go_wp2
   refine (F.x1.put ..).ret rfl rfl ?_
   exact (F.put1 ..).done rfl (show Is (zbe C q) q9 z9 from by rw[←V.out,List.drop_eq_nil_of_le (by omega)];exact E.out)
theorem zs9 {C:Cx} {k:Int} {n:ByteArray} {q q':PS} (h:zaa C k n q= .ok q'):q'={q with st:=q.st++[⟨k,n,(q.ex.length:Int)-1⟩]}∧q.st.length<80:=by
 unfold zaa at h
 split at h
 ·cases h
 ·cases h
  exact⟨rfl,by omega⟩
theorem zl9 {C:Cx} {x:PR} {k:Int} {s:ByteArray} {j:Int} {n:ByteArray} {q:PS} {z:Int} (h:Is (bd (bd x (zd C k s)) (zaa C j n)) q z):z<0→1≤q.pos:=by
 intro E
 obtain⟨e,_⟩:=zaK h E
 obtain⟨a,w,A⟩:=zo e
 obtain⟨b,_,D⟩:=zo w
 obtain⟨rfl,_⟩:=zcb D
 obtain⟨rfl,_⟩:=zs9 A
 simp[adv]
theorem zlA {C:Cx} {y:PRN} {G:PR→PR} {k:Int} {s:ByteArray} {j:Int} {q:PS} {z:Int} {n:ByteArray} (h:Is2 (withN y fun x n=>bd (bd (G x) (zd C k s)) (zaa C j n)) q z n):z<0→1≤q.pos:=by
 intro D
 cases y with
 |error e=>have:z=(e:Int):=h;omega
 |ok a=>
  have w:Is2 (bd (bd (bd (G (.ok a.1)) (zd C k s)) (zaa C j a.2)) fun q=>.ok (q,a.2)) q z n:=h
  cases A:bd (bd (G (.ok a.1)) (zd C k s)) (zaa C j a.2) with
  |error e=>rw[A] at w;have:z=(e:Int):=w;omega
  |ok b=>
   rw[A] at w
   obtain⟨rfl,rfl,_⟩:=w
   exact zl9 (show Is (bd (bd (G (.ok a.1)) (zd C k s)) (zaa C j a.2)) q (-1) by rw[A];exact⟨rfl,rfl⟩) (by decide)
theorem zsA {C:Cx} {w q:PS} {z:Int} {n:ByteArray} (h:Is2 (zcT C w) q z n):z<0→1≤q.pos:=zlA (G:=fun x=>bd (bd x (zd C 4 cEq)) (pE C .sum 0)) h
theorem zsB {C:Cx} {w q:PS} {z:Int} {n:ByteArray} (h:Is2 (fnP C w) q z n):z<0→1≤q.pos:=zlA (G:=fun x=>bd (bd (bd (bd (bd (bd x (zd C 4 zp)) (zd C 4 zaA)) (zd C 4 zO)) (zd C 1 zeJ)) (pE C .sum 0)) (zd C 4 cSemi)) h
theorem zsC {C:Cx} {x:PR} {E:PS} {z:Int} {w:ByteArray} {G:ByteArray→PS→PR} (h:Is2 (bd (bd x (zd C 1 zX)) (zM C)) E z w):
  bd (bd (zaV (bd (bd x (zd C 1 zX)) (zM C))) (zd C 4 cSemi)) (G w)=bd (zbl C (zaN C x)) fun b=>G b.2 b.1:=by
 have A:bd (bd x (zd C 1 zX)) (zM C)=zaN C x:=rfl
 rw[A] at h ⊢
 cases D:zaN C x with
 |error e=>rfl
 |ok b=>
  rw[D] at h
  obtain⟨_,_,rfl⟩:=h
  show bd (zd C 4 cSemi b.1) (G b.2)=bd (bd (zd C 4 cSemi b.1) fun q=>.ok (q,b.2)) fun b=>G b.2 b.1
  rw[zQ]
  rfl
theorem zsD {C:Cx} {y:PRL} {w:PS} {h:Int} {l:List Ep} {f:Ep→PS→PR} {D:PS×List Ep→PR} (A:Is3 y w h l) (E:zaI l=false) (z:(decide (h<0)&&isT C w.pos 1 zX)=false):
  zab f l (bd (zfW y) (zd C 4 cSemi))=bd y fun a=>if !zaI a.2&& !isT C a.1.pos 1 zX then bd (zd C 4 cSemi a.1) fun q=>zab f a.2 (.ok q) else D a:=by
 cases y with
 |error e=>exact zfV _ _ _
 |ok a=>
  obtain⟨rfl,rfl,rfl⟩:=A
  rw[Bool.and_eq_false_iff] at z
  rw[zB,E,z.resolve_left (by decide)]
  show zab f a.2 (zd C 4 cSemi a.1)=bd (zd C 4 cSemi a.1) fun q=>zab f a.2 (.ok q)
  cases zd C 4 cSemi a.1 with
  |error e=>exact zfV _ _ _
  |ok c=>rfl
theorem zlB {C:Cx} {y:PRL} {w:PS} {z:Int} {l:List Ep} {D E:PS×List Ep→PR} (A:Is3 y w z l) (q:zaI l=true∨(decide (z<0)&&isT C w.pos 1 zX)=true):
  bd y D=bd y fun a=>if !zaI a.2&& !isT C a.1.pos 1 zX then E a else D a:=by
 cases y with
 |error e=>rfl
 |ok a=>
  obtain⟨rfl,rfl,rfl⟩:=A
  rw[zB,zB]
  rcases q with h|h
  ·rw[h];rfl
  ·rw[Bool.and_eq_true] at h
   rw[h.2,Bool.not_true,Bool.and_false]
   rfl
theorem zsE (C:Cx) (z h base:Nat) (S:Sv) (q:PS) (w:World) (X:Mem C z h base S q w) (hw:isT C q.pos 1 zan=true) (h1:isT C (q.pos+1) 4 zO=false) (h2:isT C (q.pos+1) 4 zz=true):
  Calls Tryz.prog 115 #[pv C z h S q (-1) 0] w (Out C z h base (zaq C q) 0 S w):=by
 have HM:=zc X
 have A:=X.few
 clear X
 have HV:Hid (zaq C q=bd (zbl C (zaN C (bd (.ok (adv q)) (zd C 4 zz)))) fun b=>zq C ⟨3,sNone,sNone,b.2⟩ b.1):=by
  show _=_
  rw[zaq,zd,if_pos hw,zB]
  rw[zA,h1,h2]
  rfl
 unfold pv
 go_enter Tryz.func115,Tryz.ntmps115
 go_wp2_with fail
 refine (zaQ C z h base (.ok q) S q (-1) 0 zan _ (zad q) ((HM.out.alloc _).alloc _)).mono ?_
 rintro e w1 ⟨Z,H,z1,rfl,J,m1,s1⟩
 have F:=HM.out.fm2 m1 s1
 obtain⟨D,rfl⟩:=zd2 J.out hw
 have HQ:=zc D
 have E:Hid (H.pos=q.pos+1):=by show H.pos=q.pos+1;rw[D];rfl
 clear D J
 have I:=F.x0.boxC
 unfold pv
 go_upto_region 2 with fail
 refine (F.put0 ..).cut ?_
 clear I
 intro w2 F
 have I:=F.x0.boxC
 go_wp2_with fail
 refine (zk C z h base Z H (-1) 0 4 zO _ F.m.tok A (by decide)).mono ?_
 rintro e w3 ⟨rfl,aa⟩
 rw[E.out,h1]
 replace F:=F.below aa
 clear I
 have I:=F.x0.boxC
 go_wp2_with fail
 refine (zk C z h base Z H (-1) 0 4 zz _ F.m.tok A (by decide)).mono ?_
 rintro e w4 ⟨rfl,Y⟩
 rw[E.out,h2]
 replace F:=F.below Y
 clear I
 have I:=F.x0.boxC
 clear E
 go_wp2_with fail
 refine (zal C z h base (.ok H) Z H (-1) 0 zz _ (zad H) F.m).mono ?_
 rintro e w5 ⟨S5,q5,z5,rfl,O,m5,s5⟩
 replace F:=F.stp m5 s5
 clear I
 go_wp2_with fail
 refine (zaQ C z h base _ S5 q5 z5 0 zX _ O.out F.m).mono ?_
 rintro e w6 ⟨S6,q6,z6,rfl,N,m6,s6⟩
 replace F:=F.stp m6 s6
 go_wp2_with fail
 refine (ze8 C z h base _ S6 q6 z6 0 _ N.out F.m).mono ?_
 rintro e w7 ⟨S7,q7,z7,n7,rfl,K,m7,s7⟩
 replace F:=F.stp m7 s7
 have ac:w.heap.size+1<w7.heap.size:=F.x1.lt
 unfold pv
 go_upto_region 20 with fail
 refine (F.new2 _).cut ?_
 intro w8 F
 have cb:=F.x2.boxC
 go_wp2_with fail
 refine (zal C z h base _ S7 q7 z7 0 cSemi _ K.out.fst F.m).mono ?_
 rintro e w9 ⟨S9,q9,z9,rfl,M,m9,s9⟩
 replace F:=F.stp m9 s9
 clear cb
 go_wp2_with fail
 refine (zeu C z h base _ S9 q9 z9 0 ⟨3,sNone,sNone,n7⟩ _ M.out F.m (zb0 M.out)).mono ?_
 rintro e af ⟨ae,ag,ad,rfl,L,U,V⟩
 replace F:=F.stp U V
 have bb:=F.x1.boxC
 unfold pv
 go_wp2
 refine (F.x1.put ..).ret rfl rfl ?_
 rw[HV.out,←HQ.out,←zsC (G:=fun b=>zq C ⟨3,sNone,sNone,b⟩) K.out]
 exact (F.put1 ..).done rfl L.out
theorem zsF (C:Cx) (z h base:Nat) (S:Sv) (q:PS) (w:World) (Z:Mem C z h base S q w) (hw:isT C q.pos 1 zan=true) (h1:isT C (q.pos+1) 4 zO=false) (h2:isT C (q.pos+1) 4 zz=false) (h3:isT C (q.pos+1) 1 sDefault=true):
  Calls Tryz.prog 115 #[pv C z h S q (-1) 0] w (Out C z h base (zaq C q) 0 S w):=by
 have HM:=zc Z
 have A:=Z.few
 clear Z
 have HV:Hid (zaq C q=bd (bd (bd (bd (bd (.ok (adv q)) (zd C 1 sDefault)) (pE C .sum 0)) (zd C 4 cSemi)) (zaa C 1 zcs)) (zq C ⟨1,sDefault,zcs,sNone⟩)):=by
  show _=_
  rw[zaq,zd,if_pos hw,zB]
  rw[zA,h1,h2,h3]
  rfl
 unfold pv
 go_enter Tryz.func115,Tryz.ntmps115
 go_wp2_with fail
 refine (zaQ C z h base (.ok q) S q (-1) 0 zan _ (zad q) ((HM.out.alloc _).alloc _)).mono ?_
 rintro e w1 ⟨N,I,z1,rfl,K,m1,s1⟩
 have F:=HM.out.fm2 m1 s1
 obtain⟨J,rfl⟩:=zd2 K.out hw
 have HQ:=zc J
 have D:Hid (I.pos=q.pos+1):=by show I.pos=q.pos+1;rw[J];rfl
 clear J K
 have E:=F.x0.boxC
 unfold pv
 go_upto_region 2 with fail
 refine (F.put0 ..).cut ?_
 clear E
 intro w2 F
 have E:=F.x0.boxC
 go_wp2_with fail
 refine (zk C z h base N I (-1) 0 4 zO _ F.m.tok A (by decide)).mono ?_
 rintro e w3 ⟨rfl,ag⟩
 rw[D.out,h1]
 replace F:=F.below ag
 clear E
 have E:=F.x0.boxC
 go_wp2_with fail
 refine (zk C z h base N I (-1) 0 4 zz _ F.m.tok A (by decide)).mono ?_
 rintro e w4 ⟨rfl,ac⟩
 rw[D.out,h2]
 replace F:=F.below ac
 clear E
 have E:=F.x0.boxC
 go_wp2_with fail
 refine (zk C z h base N I (-1) 0 1 sDefault _ F.m.tok A (by decide)).mono ?_
 rintro e w5 ⟨rfl,V⟩
 rw[D.out,h3]
 replace F:=F.below V
 clear E
 have E:=F.x0.boxC
 clear D
 go_wp2_with fail
 refine (zaQ C z h base (.ok I) N I (-1) 0 sDefault _ (zad I) F.m).mono ?_
 rintro e w6 ⟨S6,q6,z6,rfl,U,m6,s6⟩
 replace F:=F.stp m6 s6
 clear E
 go_wp2_with fail
 refine (zd1 C z h base _ S6 q6 z6 _ U.out F.m).mono ?_
 rintro e w7 ⟨S7,q7,z7,rfl,ad,m7,s7⟩
 replace F:=F.stp m7 s7
 go_wp2_with fail
 refine (zal C z h base _ S7 q7 z7 0 cSemi _ ad.out F.m).mono ?_
 rintro e w8 ⟨S8,q8,z8,rfl,M,m8,s8⟩
 replace F:=F.stp m8 s8
 have ai:w.heap.size+1<w8.heap.size:=F.x1.lt
 unfold pv
 go_upto_region 23 with fail
 refine (F.new2 _).cut ?_
 intro w9 F
 have cb:=F.x2.boxC
 go_wp2_with fail
 refine (zdr C z h base _ S8 q8 z8 0 1 zcs _ M.out F.m (zb0 M.out)).mono ?_
 rintro e an ⟨ae,ah,O,rfl,H,X,Y⟩
 replace F:=F.stp X Y
 clear cb
 go_wp2_with fail
 refine (zeu C z h base _ ae ah O 0 ⟨1,sDefault,zcs,sNone⟩ _ H.out F.m (zl9 H.out)).mono ?_
 rintro e aj ⟨al,ak,am,rfl,L,aa,af⟩
 replace F:=F.stp aa af
 have bb:=F.x1.boxC
 unfold pv
 go_wp2
 refine (F.x1.put ..).ret rfl rfl ?_
 rw[HV.out,←HQ.out]
 exact (F.put1 ..).done rfl L.out
theorem zsG (C:Cx) (E h base:Nat) (S:Sv) (q:PS) (w:World) (O:Mem C E h base S q w) (hw:isT C q.pos 1 zan=true) (h1:isT C (q.pos+1) 4 zO=false) (Y:isT C (q.pos+1) 4 zz=false) (h3:isT C (q.pos+1) 1 sDefault=false) (h4:isT C (q.pos+1) 1 zH=true):
  Calls Tryz.prog 115 #[pv C E h S q (-1) 0] w (Out C E h base (zaq C q) 0 S w):=by
 have Z:=zc O
 have z:=O.few
 clear O
 have HV:Hid (zaq C q=bd (zcT C (adv q)) fun a=>zq C ⟨1,a.2,a.2,sNone⟩ a.1):=by
  show _=_
  rw[zaq,zd,if_pos hw,zB]
  rw[zA,h1,Y,h3,h4]
  rfl
 unfold pv
 go_enter Tryz.func115,Tryz.ntmps115
 go_wp2_with fail
 refine (zaQ C E h base (.ok q) S q (-1) 0 zan _ (zad q) ((Z.out.alloc _).alloc _)).mono ?_
 rintro e w1 ⟨L,J,z1,rfl,K,m1,s1⟩
 have F:=Z.out.fm2 m1 s1
 obtain⟨H,rfl⟩:=zd2 K.out hw
 have HQ:=zc H
 have A:Hid (J.pos=q.pos+1):=by show J.pos=q.pos+1;rw[H];rfl
 clear H K
 have D:=F.x0.boxC
 unfold pv
 go_upto_region 2 with fail
 refine (F.put0 ..).cut ?_
 clear D
 intro w2 F
 have D:=F.x0.boxC
 go_wp2_with fail
 refine (zk C E h base L J (-1) 0 4 zO _ F.m.tok z (by decide)).mono ?_
 rintro e w3 ⟨rfl,X⟩
 rw[A.out,h1]
 replace F:=F.below X
 clear D
 have D:=F.x0.boxC
 go_wp2_with fail
 refine (zk C E h base L J (-1) 0 4 zz _ F.m.tok z (by decide)).mono ?_
 rintro e w4 ⟨rfl,U⟩
 rw[A.out,Y]
 replace F:=F.below U
 clear D
 have D:=F.x0.boxC
 go_wp2_with fail
 refine (zk C E h base L J (-1) 0 1 sDefault _ F.m.tok z (by decide)).mono ?_
 rintro e w5 ⟨rfl,N⟩
 rw[A.out,h3]
 replace F:=F.below N
 clear D
 have D:=F.x0.boxC
 go_wp2_with fail
 refine (zk C E h base L J (-1) 0 1 zH _ F.m.tok z (by decide)).mono ?_
 rintro e w6 ⟨rfl,M⟩
 rw[A.out,h4]
 replace F:=F.below M
 clear D
 have D:=F.x0.boxC
 clear A
 go_wp2_with fail
 refine (ziw C E h base L J _ F.m).mono ?_
 rintro e w7 ⟨S7,q7,z7,n7,rfl,I,m7,s7⟩
 replace F:=F.stp m7 s7
 clear D
 have aa:w.heap.size+1<w7.heap.size:=F.x1.lt
 unfold pv
 go_upto_region 26 with fail
 refine (F.new2 _).cut ?_
 intro w8 F
 have cb:=F.x2.boxC
 go_wp2_with fail
 refine (zeu C E h base _ S7 q7 z7 0 ⟨1,n7,n7,sNone⟩ _ I.out.fst F.m (zsA I.out)).mono ?_
 rintro e w9 ⟨S9,q9,z9,rfl,V,m9,s9⟩
 replace F:=F.stp m9 s9
 clear cb
 have bb:=F.x1.boxC
 unfold pv
 go_wp2
 refine (F.x1.put ..).ret rfl rfl ?_
 rw[HV.out,←HQ.out,←I.out.bind (fun q n=>zq C ⟨1,n,n,sNone⟩ q)]
 exact (F.put1 ..).done rfl V.out
theorem zsH (C:Cx) (E h base:Nat) (S:Sv) (q:PS) (w:World) (Y:Mem C E h base S q w) (hw:isT C q.pos 1 zan=true) (h1:isT C (q.pos+1) 4 zO=false) (h2:isT C (q.pos+1) 4 zz=false) (h3:isT C (q.pos+1) 1 sDefault=false) (h4:isT C (q.pos+1) 1 zH=false) (h5:isT C (q.pos+1) 1 zW=true):
  Calls Tryz.prog 115 #[pv C E h S q (-1) 0] w (Out C E h base (zaq C q) 0 S w):=by
 have HM:=zc Y
 have z:=Y.few
 clear Y
 have HV:Hid (zaq C q=bd (fnP C (adv q)) fun a=>zq C ⟨1,a.2,a.2,sNone⟩ a.1):=by
  show _=_
  rw[zaq,zd,if_pos hw,zB]
  rw[zA,h1,h2,h3,h4,h5]
  rfl
 unfold pv
 go_enter Tryz.func115,Tryz.ntmps115
 go_wp2_with fail
 refine (zaQ C E h base (.ok q) S q (-1) 0 zan _ (zad q) ((HM.out.alloc _).alloc _)).mono ?_
 rintro e w1 ⟨K,H,z1,rfl,L,m1,s1⟩
 have F:=HM.out.fm2 m1 s1
 obtain⟨I,rfl⟩:=zd2 L.out hw
 have HQ:=zc I
 have A:Hid (H.pos=q.pos+1):=by show H.pos=q.pos+1;rw[I];rfl
 clear I L
 have D:=F.x0.boxC
 unfold pv
 go_upto_region 2 with fail
 refine (F.put0 ..).cut ?_
 clear D
 intro w2 F
 have D:=F.x0.boxC
 go_wp2_with fail
 refine (zk C E h base K H (-1) 0 4 zO _ F.m.tok z (by decide)).mono ?_
 rintro e w3 ⟨rfl,aa⟩
 rw[A.out,h1]
 replace F:=F.below aa
 clear D
 have D:=F.x0.boxC
 go_wp2_with fail
 refine (zk C E h base K H (-1) 0 4 zz _ F.m.tok z (by decide)).mono ?_
 rintro e w4 ⟨rfl,Z⟩
 rw[A.out,h2]
 replace F:=F.below Z
 clear D
 have D:=F.x0.boxC
 go_wp2_with fail
 refine (zk C E h base K H (-1) 0 1 sDefault _ F.m.tok z (by decide)).mono ?_
 rintro e w5 ⟨rfl,O⟩
 rw[A.out,h3]
 replace F:=F.below O
 clear D
 have D:=F.x0.boxC
 go_wp2_with fail
 refine (zk C E h base K H (-1) 0 1 zH _ F.m.tok z (by decide)).mono ?_
 rintro e w6 ⟨rfl,N⟩
 rw[A.out,h4]
 replace F:=F.below N
 clear D
 have D:=F.x0.boxC
 go_wp2_with fail
 refine (zk C E h base K H (-1) 0 1 zW _ F.m.tok z (by decide)).mono ?_
 rintro e w7 ⟨rfl,X⟩
 rw[A.out,h5]
 replace F:=F.below X
 clear D
 have D:=F.x0.boxC
 clear A
 go_wp2_with fail
 refine (zix C E h base K H _ F.m).mono ?_
 rintro e w8 ⟨S8,q8,z8,n8,rfl,J,m8,s8⟩
 replace F:=F.stp m8 s8
 clear D
 have ac:w.heap.size+1<w8.heap.size:=F.x1.lt
 unfold pv
 go_upto_region 29 with fail
 refine (F.new2 _).cut ?_
 intro w9 F
 have cb:=F.x2.boxC
 go_wp2_with fail
 refine (zeu C E h base _ S8 q8 z8 0 ⟨1,n8,n8,sNone⟩ _ J.out.fst F.m (zsB J.out)).mono ?_
 rintro e af ⟨ae,ag,ad,rfl,M,U,V⟩
 replace F:=F.stp U V
 clear cb
 have bb:=F.x1.boxC
 unfold pv
 go_wp2
 refine (F.x1.put ..).ret rfl rfl ?_
 rw[HV.out,←HQ.out,←J.out.bind (fun q n=>zq C ⟨1,n,n,sNone⟩ q)]
 exact (F.put1 ..).done rfl M.out
theorem zsI (C:Cx) (H h base:Nat) (S:Sv) (q:PS) (w:World) (O:Mem C H h base S q w) (hw:isT C q.pos 1 zan=true) (h1:isT C (q.pos+1) 4 zO=false) (Y:isT C (q.pos+1) 4 zz=false) (h3:isT C (q.pos+1) 1 sDefault=false) (h4:isT C (q.pos+1) 1 zH=false) (h5:isT C (q.pos+1) 1 zW=false):
  Calls Tryz.prog 115 #[pv C H h S q (-1) 0] w (Out C H h base (zaq C q) 0 S w):=by
 have Z:=zc O
 have z:=O.few
 clear O
 have HV:Hid (zaq C q= .error (zt C (adv q).pos)):=by
  show _=_
  rw[zaq,zd,if_pos hw,zB]
  rw[zA,h1,Y,h3,h4,h5]
  rfl
 unfold pv
 go_enter Tryz.func115,Tryz.ntmps115
 go_wp2_with fail
 refine (zaQ C H h base (.ok q) S q (-1) 0 zan _ (zad q) ((Z.out.alloc _).alloc _)).mono ?_
 rintro e w1 ⟨J,E,z1,rfl,K,m1,s1⟩
 have F:=Z.out.fm2 m1 s1
 obtain⟨I,rfl⟩:=zd2 K.out hw
 have HQ:=zc I
 have A:Hid (E.pos=q.pos+1):=by show E.pos=q.pos+1;rw[I];rfl
 clear I K
 have D:=F.x0.boxC
 unfold pv
 go_upto_region 2 with fail
 refine (F.put0 ..).cut ?_
 clear D
 intro w2 F
 have D:=F.x0.boxC
 go_wp2_with fail
 refine (zk C H h base J E (-1) 0 4 zO _ F.m.tok z (by decide)).mono ?_
 rintro e w3 ⟨rfl,X⟩
 rw[A.out,h1]
 replace F:=F.below X
 clear D
 have D:=F.x0.boxC
 go_wp2_with fail
 refine (zk C H h base J E (-1) 0 4 zz _ F.m.tok z (by decide)).mono ?_
 rintro e w4 ⟨rfl,V⟩
 rw[A.out,Y]
 replace F:=F.below V
 clear D
 have D:=F.x0.boxC
 go_wp2_with fail
 refine (zk C H h base J E (-1) 0 1 sDefault _ F.m.tok z (by decide)).mono ?_
 rintro e w5 ⟨rfl,M⟩
 rw[A.out,h3]
 replace F:=F.below M
 clear D
 have D:=F.x0.boxC
 go_wp2_with fail
 refine (zk C H h base J E (-1) 0 1 zH _ F.m.tok z (by decide)).mono ?_
 rintro e w6 ⟨rfl,L⟩
 rw[A.out,h4]
 replace F:=F.below L
 clear D
 have D:=F.x0.boxC
 go_wp2_with fail
 refine (zk C H h base J E (-1) 0 1 zW _ F.m.tok z (by decide)).mono ?_
 rintro e w7 ⟨rfl,N⟩
 rw[A.out,h5]
 replace F:=F.below N
 clear D
 have D:=F.x0.boxC
 clear A
 go_wp2_with fail
 refine (zdE C H h base J E (-1) 0 _ F.m.tok z).mono ?_
 rintro e w8 ⟨rfl,U⟩
 replace F:=F.below U
 clear D
 have bb:=F.x1.boxC
 unfold pv
 go_wp2
 refine (F.x1.put ..).ret rfl rfl ?_
 rw[HV.out,←HQ.out]
 exact (F.put1 ..).done rfl (show Is (.error (zt C E.pos)) E _ from rfl)
theorem zsJ (C:Cx) (H A base:Nat) (S:Sv) (q:PS) (w:World) (hm:Mem C H A base S q w) (hw:isT C q.pos 1 zan=true) (h1:isT C (q.pos+1) 4 zO=true):
  Calls Tryz.prog 115 #[pv C H A S q (-1) 0] w (Out C H A base (zaq C q) 0 S w):=by
 have HM:=zc hm
 have an:=hm.few
 clear hm
 have HV:Hid (zaq C q=bd (zdm C true (adv q)) fun a=>if !zaI a.2&& !isT C a.1.pos 1 zX then bd (zd C 4 cSemi a.1) fun q=>zab (fun e=>zq C (zF e)) a.2 (.ok q) else bd (zbl C (zaN C (.ok a.1))) fun b=>zab (fun e=>zq C (zax b.2 e)) a.2 (.ok b.1)):=by
  show _=_
  rw[zaq,zd,if_pos hw,zB]
  rw[zA,h1]
  rfl
 unfold pv
 go_enter Tryz.func115,Tryz.ntmps115
 go_wp2_with fail
 refine (zaQ C H A base (.ok q) S q (-1) 0 zan _ (zad q) ((HM.out.alloc _).alloc _)).mono ?_
 rintro e w1 ⟨S1,q1,z1,rfl,av,m1,s1⟩
 have F:=HM.out.fm2 m1 s1
 obtain⟨ap,rfl⟩:=zd2 av.out hw
 have HQ:=zc ap
 have ar:Hid (q1.pos=q.pos+1):=by show q1.pos=q.pos+1;rw[ap];rfl
 clear ap av
 have N:=F.x0.boxC
 unfold pv
 go_upto_region 2 with fail
 refine (F.put0 ..).cut ?_
 clear N
 intro w2 F
 have aq:Hid (zaq C q=bd (zdm C true q1) fun a=>if !zaI a.2&& !isT C a.1.pos 1 zX then bd (zd C 4 cSemi a.1) fun q=>zab (fun e=>zq C (zF e)) a.2 (.ok q) else bd (zbl C (zaN C (.ok a.1))) fun b=>zab (fun e=>zq C (zax b.2 e)) a.2 (.ok b.1)):=by show _=_;rw[HQ.out];exact HV.out
 have N:=F.x0.boxC
 go_wp2_with fail
 refine (zk C H A base S1 q1 (-1) 0 4 zO _ F.m.tok an (by decide)).mono ?_
 rintro e w3 ⟨rfl,aA⟩
 rw[ar.out,h1]
 replace F:=F.below aA
 clear N
 have N:=F.x0.boxC
 clear ar
 have ay:=F.t.size
 go_wp2_with fail
 refine (zlu C H A base S1 q1 0 true _ F.m).mono ?_
 rintro e w4 ⟨S4,q4,z4,⟨ra,rc⟩,l,rfl,i4,m4,s4,R0,hl⟩
 obtain⟨g,rfl⟩: ∃g,ra=some ⟨g,0,none⟩:=R0.addr
 replace F:=F.stp m4 s4
 have aa:=zc i4
 clear N
 have h:Hid (Row S4 w4 base w.heap.size ⟨some ⟨g,0,none⟩,rc⟩ l):=⟨R0.own,R0.free,fun k hk=>Nat.le_trans ay (R0.new k hk),R0.addr⟩
 clear R0
 have aB:w.heap.size+1<w4.heap.size:=F.x1.lt
 unfold pv
 go_upto_region 4 with fail
 refine (F.new2 _).cutR (RW:=fun W=>Row S4 W base w.heap.size ⟨some ⟨g,0,none⟩,rc⟩ l) (h.out.alloc _) ?_
 clear h
 intro w5 F R0
 have h:=zc R0
 clear R0
 cases hA:zaI l with
 |true=>
  skip
  obtain⟨c0,c1,c2,c3,c4,c5,c6,c7,c8,c9,U,V,cf⟩:=F.x2.box
  go_wp2_with fail
  refine (zaQ C H A base _ S4 q4 z4 0 zX _ aa.out.fst F.m).mono ?_
  rintro e w6 ⟨S6,q6,z6,rfl,az,m6,s6⟩
  replace h:=zc (h.out.stp s6)
  replace F:=F.stp m6 s6
  clear c0 c1 c2 c3 c4 c5 c6 c7 c8 c9 U V cf
  go_wp2_with fail
  refine (ze8 C H A base _ S6 q6 z6 0 _ az.out F.m).mono ?_
  rintro e w7 ⟨S7,q7,z7,n7,rfl,ah,m7,s7⟩
  replace h:=zc (h.out.stp s7)
  replace F:=F.stp m7 s7
  have aw:w.heap.size+1<w7.heap.size:=F.x1.lt
  have ao:w4.heap.size<w7.heap.size:=F.x2.lt
  unfold pv
  go_upto_region 12 with fail
  refine (F.new3 _).cutR (RW:=fun W=>Row S7 W base w.heap.size ⟨some ⟨g,0,none⟩,rc⟩ l) (h.out.alloc _) ?_
  clear h
  intro w8 F R0
  have h:=zc R0
  clear R0
  obtain⟨d0,d1,d2,d3,d4,d5,d6,d7,d8,d9,X,O,df⟩:=F.x3.box
  go_wp2_with fail
  refine (zal C H A base _ S7 q7 z7 0 cSemi _ ah.out.fst F.m).mono ?_
  rintro e w9 ⟨S9,q9,z9,rfl,J,m9,s9⟩
  replace h:=zc (h.out.stp s9)
  replace F:=F.stp m9 s9
  clear d0 d1 d2 d3 d4 d5 d6 d7 d8 d9 X O df
  have N:=F.x0.boxC
  unfold pv
  go_upto_region 13 with fail
  refine (F.put0 ..).cutR (RW:=fun W=>Row S9 W base w.heap.size ⟨some ⟨g,0,none⟩,rc⟩ l) (h.out.put F.x0 ..) ?_
  clear N
  clear h
  intro ai F R0
  have h:=zc R0
  clear R0
  have ak:Hid (_=zaq C q):=(ziy (G:=fun b e=>zq C (zax b e)) aa.out ah.out).trans ((zlB aa.out (.inl hA)).trans aq.out.symm)
  go_wp2
  go_loopg [9] l.length (fun k i wr=>∃(j:Nat) (x':PR) (z:Sv) (E:PS) (z':Int),j≤l.length∧i= .int .i64 j∧Is x' E z'∧(z'<0→1≤E.pos)∧zab (fun e=>zq C (zax n7 e)) (l.drop j) x'=zaq C q∧l.length-j=k∧Mem C H A base z E wr∧SB w.heap.size S w z wr∧Bx H z wr w.heap.size #[.slice (some ⟨H,0,none⟩) C.ts.length A,.int .i64 E.pos,.int .i64 C.fin,.bool C.scr,.slice z.rq.a E.rq.length z.rq.cap,.slice z.im.a E.im.length z.im.cap,.slice z.ep.a E.ep.length z.ep.cap,.slice z.st.a E.st.length z.st.cap,.slice z.ex.a E.ex.length z.ex.cap,.slice z.la.a E.la.length z.la.cap,.int .i64 z',.int .i64 0]∧Bx H z wr (w.heap.size+1) #[.slice none 0 0,.int .i64 0,.int .i64 0,.bool false,.slice none 0 0,.slice none 0 0,.slice none 0 0,.slice none 0 0,.slice none 0 0,.slice none 0 0,.int .i64 0,.int .i64 0]∧Row z wr base w.heap.size ⟨some ⟨g,0,none⟩,rc⟩ l)
  case atStart=>exact⟨0,_,S9,q9,z9,Nat.zero_le _,rfl,J.out,zb0 J.out,ak.out,rfl,F.m,F.t,F.x0,F.x1,h.out⟩
  case round=>
   obtain⟨j,x9,S9,q9,z9,hj,rfl,i9,p9,e9,g9,m9,t9,X0,X1,R0⟩:=hrel
   clear h
   have F:=Fm.of2 X0 X1 m9 t9 (by omega) (by omega) (by omega)
   have J:=zc i9
   have ac:=zc p9
   have Y:=zc e9
   have af:=zc g9
   have h:=zc R0
   clear X0 X1 i9 m9 t9 e9 g9 R0 p9
   by_cases Z:j<l.length
   ·skip
    obtain⟨c1,c2⟩:=h.out.cells (g:=g) rfl Z
    have au:=h.out.own.lt (g:=g) rfl
    have HX:Hid (∀e,e=l[j]→zab (fun e=>zq C (zax n7 e)) (l.drop (j+1)) (bd x9 (zq C (zax n7 e)))=zaq C q):=fun e he=>by rw[he,←Y.out];exact (zha (fun e=>zq C (zax n7 e)) l x9 Z).symm
    generalize ad:l[j]=el at c1 c2
    have al:Hid (el=l[j]):=ad.symm
    clear ad
    have N:=F.x0.boxC
    go_upto_region 16 with fail
    go_region_law (first|(go_simp;go_wp2_with (go_at_call 156;refine (zeu C H A base x9 S9 q9 z9 0 (zax n7 el) _ J.out F.m.drew ac.out).mono ?_;rintro e ai ⟨L,aj,ag,rfl,ae,M,I⟩;obtain⟨d0,d1,d2,d3,d4,d5,d6,d7,d8,d9,X,O,df⟩:=(F.x0.stp I.undrew).box;unfold pv)))
    all_goals
     clear N d0 d1 d2 d3 d4 d5 d6 d7 d8 d9 X O df
     have D:=zc ae
     have K:Hid (Stp S9 wr L ai):=I.undrew
     replace F:=F.stp M K.out
     clear ae M I
     go_wp2
     go_roundg (gk-1)
     case rel=>exact⟨j+1,_,L,aj,ag,by omega,by go_num,D.out,ziz ac.out J.out D.out,HX.out el al.out,by have:=af.out;omega,F.m.put F.x0 _ _ _ _ _ _ _ _ _ _ _ _,F.t.put (by omega) _ _ _ _ _ _ _ _ _ _ _ _,F.x0.put _ _ _ _ _ _ _ _ _ _ _ _,F.x1.other (by omega) _ _ _ _ _ _ _ _ _ _ _ _,(h.out.stp K.out).put F.x0 _ _ _ _ _ _ _ _ _ _ _ _⟩
     case measure=>have:=af.out;omega
   ·skip
    have N:=F.x0.boxC
    have bb:=F.x1.boxC
    go_wp2
    refine (F.x1.put ..).ret rfl rfl ?_
    exact (F.put1 ..).done rfl (show Is (zaq C q) q9 z9 from by rw[←Y.out,List.drop_eq_nil_of_le (by omega)];exact J.out)
 |false=>
  cases hF:(decide (z4<0)&&isT C q4.pos 1 zX) with
  |true=>
   obtain⟨c0,c1,c2,c3,c4,c5,c6,c7,c8,c9,U,V,cf⟩:=F.x2.box
   go_wp2_with fail
   refine (zk C H A base S4 q4 z4 0 1 zX _ F.m.tok an (by decide)).mono ?_
   rintro e w6 ⟨rfl,am⟩
   rw[hF]
   replace h:=zc (h.out.below am)
   replace F:=F.below am
   clear c0 c1 c2 c3 c4 c5 c6 c7 c8 c9 U V cf
   obtain⟨c0,c1,c2,c3,c4,c5,c6,c7,c8,c9,U,V,cf⟩:=F.x2.box
   go_wp2_with fail
   refine (zaQ C H A base _ S4 q4 z4 0 zX _ aa.out.fst F.m).mono ?_
   rintro e w7 ⟨S7,q7,z7,rfl,ah,m7,s7⟩
   replace h:=zc (h.out.stp s7)
   replace F:=F.stp m7 s7
   clear c0 c1 c2 c3 c4 c5 c6 c7 c8 c9 U V cf
   go_wp2_with fail
   refine (ze8 C H A base _ S7 q7 z7 0 _ ah.out F.m).mono ?_
   rintro e w8 ⟨S8,q8,z8,n8,rfl,ax,m8,s8⟩
   replace h:=zc (h.out.stp s8)
   replace F:=F.stp m8 s8
   have aw:w.heap.size+1<w8.heap.size:=F.x1.lt
   have ao:w4.heap.size<w8.heap.size:=F.x2.lt
   unfold pv
   go_upto_region 12 with fail
   refine (F.new3 _).cutR (RW:=fun W=>Row S8 W base w.heap.size ⟨some ⟨g,0,none⟩,rc⟩ l) (h.out.alloc _) ?_
   clear h
   intro w9 F R0
   have h:=zc R0
   clear R0
   obtain⟨d0,d1,d2,d3,d4,d5,d6,d7,d8,d9,X,O,df⟩:=F.x3.box
   go_wp2_with fail
   refine (zal C H A base _ S8 q8 z8 0 cSemi _ ax.out.fst F.m).mono ?_
   rintro e ai ⟨L,aj,ag,rfl,D,M,I⟩
   replace h:=zc (h.out.stp I)
   replace F:=F.stp M I
   clear d0 d1 d2 d3 d4 d5 d6 d7 d8 d9 X O df
   have N:=F.x0.boxC
   unfold pv
   go_upto_region 13 with fail
   refine (F.put0 ..).cutR (RW:=fun W=>Row L W base w.heap.size ⟨some ⟨g,0,none⟩,rc⟩ l) (h.out.put F.x0 ..) ?_
   clear N
   clear h
   intro aC F R0
   have h:=zc R0
   clear R0
   have ak:Hid (_=zaq C q):=(ziy (G:=fun b e=>zq C (zax b e)) aa.out ax.out).trans ((zlB aa.out (.inr hF)).trans aq.out.symm)
   go_wp2
   go_loopg [9] l.length (fun k i wr=>∃(j:Nat) (x':PR) (z:Sv) (E:PS) (z':Int),j≤l.length∧i= .int .i64 j∧Is x' E z'∧(z'<0→1≤E.pos)∧zab (fun e=>zq C (zax n8 e)) (l.drop j) x'=zaq C q∧l.length-j=k∧Mem C H A base z E wr∧SB w.heap.size S w z wr∧Bx H z wr w.heap.size #[.slice (some ⟨H,0,none⟩) C.ts.length A,.int .i64 E.pos,.int .i64 C.fin,.bool C.scr,.slice z.rq.a E.rq.length z.rq.cap,.slice z.im.a E.im.length z.im.cap,.slice z.ep.a E.ep.length z.ep.cap,.slice z.st.a E.st.length z.st.cap,.slice z.ex.a E.ex.length z.ex.cap,.slice z.la.a E.la.length z.la.cap,.int .i64 z',.int .i64 0]∧Bx H z wr (w.heap.size+1) #[.slice none 0 0,.int .i64 0,.int .i64 0,.bool false,.slice none 0 0,.slice none 0 0,.slice none 0 0,.slice none 0 0,.slice none 0 0,.slice none 0 0,.int .i64 0,.int .i64 0]∧Row z wr base w.heap.size ⟨some ⟨g,0,none⟩,rc⟩ l)
   case atStart=>exact⟨0,_,L,aj,ag,Nat.zero_le _,rfl,D.out,zb0 D.out,ak.out,rfl,F.m,F.t,F.x0,F.x1,h.out⟩
   case round=>
    obtain⟨j,x9,S9,q9,z9,hj,rfl,i9,p9,e9,g9,m9,t9,X0,X1,R0⟩:=hrel
    clear h
    have F:=Fm.of2 X0 X1 m9 t9 (by omega) (by omega) (by omega)
    have J:=zc i9
    have ac:=zc p9
    have Y:=zc e9
    have af:=zc g9
    have h:=zc R0
    clear X0 X1 i9 m9 t9 e9 g9 R0 p9
    by_cases Z:j<l.length
    ·skip
     obtain⟨c1,c2⟩:=h.out.cells (g:=g) rfl Z
     have au:=h.out.own.lt (g:=g) rfl
     have HX:Hid (∀e,e=l[j]→zab (fun e=>zq C (zax n8 e)) (l.drop (j+1)) (bd x9 (zq C (zax n8 e)))=zaq C q):=fun e he=>by rw[he,←Y.out];exact (zha (fun e=>zq C (zax n8 e)) l x9 Z).symm
     generalize ad:l[j]=el at c1 c2
     have al:Hid (el=l[j]):=ad.symm
     clear ad
     have N:=F.x0.boxC
     go_upto_region 16 with fail
     go_region_law (first|(go_simp;go_wp2_with (go_at_call 156;refine (zeu C H A base x9 S9 q9 z9 0 (zax n8 el) _ J.out F.m.drew ac.out).mono ?_;rintro e ai ⟨L,aj,ag,rfl,ae,M,I⟩;obtain⟨d0,d1,d2,d3,d4,d5,d6,d7,d8,d9,X,O,df⟩:=(F.x0.stp I.undrew).box;unfold pv)))
     all_goals
      clear N d0 d1 d2 d3 d4 d5 d6 d7 d8 d9 X O df
      have D:=zc ae
      have K:Hid (Stp S9 wr L ai):=I.undrew
      replace F:=F.stp M K.out
      clear ae M I
      go_wp2
      go_roundg (gk-1)
      case rel=>exact⟨j+1,_,L,aj,ag,by omega,by go_num,D.out,ziz ac.out J.out D.out,HX.out el al.out,by have:=af.out;omega,F.m.put F.x0 _ _ _ _ _ _ _ _ _ _ _ _,F.t.put (by omega) _ _ _ _ _ _ _ _ _ _ _ _,F.x0.put _ _ _ _ _ _ _ _ _ _ _ _,F.x1.other (by omega) _ _ _ _ _ _ _ _ _ _ _ _,(h.out.stp K.out).put F.x0 _ _ _ _ _ _ _ _ _ _ _ _⟩
      case measure=>have:=af.out;omega
    ·skip
     have N:=F.x0.boxC
     have bb:=F.x1.boxC
     go_wp2
     refine (F.x1.put ..).ret rfl rfl ?_
     exact (F.put1 ..).done rfl (show Is (zaq C q) q9 z9 from by rw[←Y.out,List.drop_eq_nil_of_le (by omega)];exact J.out)
  |false=>
   obtain⟨c0,c1,c2,c3,c4,c5,c6,c7,c8,c9,U,V,cf⟩:=F.x2.box
   go_wp2_with fail
   refine (zk C H A base S4 q4 z4 0 1 zX _ F.m.tok an (by decide)).mono ?_
   rintro e w6 ⟨rfl,am⟩
   rw[hF]
   replace h:=zc (h.out.below am)
   replace F:=F.below am
   clear c0 c1 c2 c3 c4 c5 c6 c7 c8 c9 U V cf
   obtain⟨c0,c1,c2,c3,c4,c5,c6,c7,c8,c9,U,V,cf⟩:=F.x2.box
   go_wp2_with fail
   refine (zal C H A base _ S4 q4 z4 0 cSemi _ aa.out.fst F.m).mono ?_
   rintro e w7 ⟨S7,q7,z7,rfl,ah,m7,s7⟩
   replace h:=zc (h.out.stp s7)
   replace F:=F.stp m7 s7
   clear c0 c1 c2 c3 c4 c5 c6 c7 c8 c9 U V cf
   have N:=F.x0.boxC
   unfold pv
   go_upto_region 6 with fail
   refine (F.put0 ..).cutR (RW:=fun W=>Row S7 W base w.heap.size ⟨some ⟨g,0,none⟩,rc⟩ l) (h.out.put F.x0 ..) ?_
   clear N
   clear h
   intro w8 F R0
   have h:=zc R0
   clear R0
   have ak:Hid (_=zaq C q):=(zsD aa.out hA hF).trans aq.out.symm
   go_wp2
   go_loopg [6] l.length (fun k i wr=>∃(j:Nat) (x':PR) (z:Sv) (E:PS) (z':Int),j≤l.length∧i= .int .i64 j∧Is x' E z'∧(z'<0→1≤E.pos)∧zab (fun e=>zq C (zF e)) (l.drop j) x'=zaq C q∧l.length-j=k∧Mem C H A base z E wr∧SB w.heap.size S w z wr∧Bx H z wr w.heap.size #[.slice (some ⟨H,0,none⟩) C.ts.length A,.int .i64 E.pos,.int .i64 C.fin,.bool C.scr,.slice z.rq.a E.rq.length z.rq.cap,.slice z.im.a E.im.length z.im.cap,.slice z.ep.a E.ep.length z.ep.cap,.slice z.st.a E.st.length z.st.cap,.slice z.ex.a E.ex.length z.ex.cap,.slice z.la.a E.la.length z.la.cap,.int .i64 z',.int .i64 0]∧Bx H z wr (w.heap.size+1) #[.slice none 0 0,.int .i64 0,.int .i64 0,.bool false,.slice none 0 0,.slice none 0 0,.slice none 0 0,.slice none 0 0,.slice none 0 0,.slice none 0 0,.int .i64 0,.int .i64 0]∧Row z wr base w.heap.size ⟨some ⟨g,0,none⟩,rc⟩ l)
   case atStart=>exact⟨0,_,S7,q7,z7,Nat.zero_le _,rfl,ah.out,zb0 ah.out,ak.out,rfl,F.m,F.t,F.x0,F.x1,h.out⟩
   case round=>
    obtain⟨j,x9,S9,q9,z9,hj,rfl,i9,p9,e9,g9,m9,t9,X0,X1,R0⟩:=hrel
    clear h
    have F:=Fm.of2 X0 X1 m9 t9 (by omega) (by omega) (by omega)
    have J:=zc i9
    have ac:=zc p9
    have Y:=zc e9
    have af:=zc g9
    have h:=zc R0
    clear X0 X1 i9 m9 t9 e9 g9 R0 p9
    by_cases Z:j<l.length
    ·skip
     obtain⟨c1,c2⟩:=h.out.cells (g:=g) rfl Z
     have au:=h.out.own.lt (g:=g) rfl
     have HX:Hid (∀e,e=l[j]→zab (fun e=>zq C (zF e)) (l.drop (j+1)) (bd x9 (zq C (zF e)))=zaq C q):=fun e he=>by rw[he,←Y.out];exact (zha (fun e=>zq C (zF e)) l x9 Z).symm
     generalize ad:l[j]=el at c1 c2
     have al:Hid (el=l[j]):=ad.symm
     clear ad
     have N:=F.x0.boxC
     go_upto_region 9 with fail
     go_region_law (first|(go_simp;go_wp2_with (go_at_call 156;refine (zeu C H A base x9 S9 q9 z9 0 (zF el) _ J.out F.m.drew ac.out).mono ?_;rintro e ai ⟨L,aj,ag,rfl,ae,M,I⟩;obtain⟨d0,d1,d2,d3,d4,d5,d6,d7,d8,d9,X,O,df⟩:=(F.x0.stp I.undrew).box;unfold pv)))
     all_goals
      clear N d0 d1 d2 d3 d4 d5 d6 d7 d8 d9 X O df
      have D:=zc ae
      have K:Hid (Stp S9 wr L ai):=I.undrew
      replace F:=F.stp M K.out
      clear ae M I
      go_wp2
      go_roundg (gk-1)
      case rel=>exact⟨j+1,_,L,aj,ag,by omega,by go_num,D.out,ziz ac.out J.out D.out,HX.out el al.out,by have:=af.out;omega,F.m.put F.x0 _ _ _ _ _ _ _ _ _ _ _ _,F.t.put (by omega) _ _ _ _ _ _ _ _ _ _ _ _,F.x0.put _ _ _ _ _ _ _ _ _ _ _ _,F.x1.other (by omega) _ _ _ _ _ _ _ _ _ _ _ _,(h.out.stp K.out).put F.x0 _ _ _ _ _ _ _ _ _ _ _ _⟩
      case measure=>have:=af.out;omega
    ·skip
     have N:=F.x0.boxC
     have bb:=F.x1.boxC
     go_wp2
     refine (F.x1.put ..).ret rfl rfl ?_
     exact (F.put1 ..).done rfl (show Is (zaq C q) q9 z9 from by rw[←Y.out,List.drop_eq_nil_of_le (by omega)];exact J.out)
theorem zsK (C:Cx) (z h base:Nat) (S:Sv) (q:PS) (w:World) (D:Mem C z h base S q w) (A:isT C q.pos 1 zao=true):
  Calls Tryz.prog 114 #[pv C z h S q (-1) 0] w (Out C z h base (zbe C q) 0 S w):=by
 cases E:isT C (q.pos+1) 4 zO with
 |true=>exact zs8 C z h base S q w D A E
 |false=>
  cases H:isT C (q.pos+1) 4 zz with
  |true=>exact zs5 C z h base S q w D A E H
  |false=>
   cases I:zJ C (q.pos+1) false with
   |true=>exact zs6 C z h base S q w D A E H I
   |false=>exact zs7 C z h base S q w D A E H I
theorem zsL (C:Cx) (z h base:Nat) (S:Sv) (q:PS) (w:World) (D:Mem C z h base S q w) (A:isT C q.pos 1 zan=true):
  Calls Tryz.prog 115 #[pv C z h S q (-1) 0] w (Out C z h base (zaq C q) 0 S w):=by
 cases E:isT C (q.pos+1) 4 zO with
 |true=>exact zsJ C z h base S q w D A E
 |false=>
  cases H:isT C (q.pos+1) 4 zz with
  |true=>exact zsE C z h base S q w D A E H
  |false=>
   cases I:isT C (q.pos+1) 1 sDefault with
   |true=>exact zsF C z h base S q w D A E H I
   |false=>
    cases J:isT C (q.pos+1) 1 zH with
    |true=>exact zsG C z h base S q w D A E H I J
    |false=>
     cases K:isT C (q.pos+1) 1 zW with
     |true=>exact zsH C z h base S q w D A E H I J K
     |false=>exact zsI C z h base S q w D A E H I J K
theorem zlC {C:Cx} {x:PR} {n:ByteArray}:bd (bd (bd (bd x (zd C 4 cEq)) (pE C .sum 0)) (zd C 4 cSemi)) (zaa C 3 n)=bd x fun q=>bd (bd (bd (bd (.ok q) (zd C 4 cEq)) (pE C .sum 0)) (zd C 4 cSemi)) (zaa C 3 n):=by cases x<;>rfl
theorem zsM (A:List Tk) (h:Nat) (E z base:Nat) (S:Sv) (q:PS) (w:World) (I:Mem (Cx.mk A h true) E z base S q w) (L:isT (Cx.mk A h true) q.pos 1 zH=true):
  Calls Tryz.prog 82 #[pv (Cx.mk A h true) E z S q (-1) 0] w (Out (Cx.mk A h true) E z base (zC (Cx.mk A h true) q) 0 S w):=by
 have O:=zc I
 have D:=I.tok
 have H:(Cx.mk A h true).ts.length≤4000:=I.few
 clear I
 have X:Hid (zC (Cx.mk A h true) q=zaV (zcT (Cx.mk A h true) q)):=by show zC (Cx.mk A h true) q=_;rw[zC,L];rfl
 unfold pv
 go_enter Tryz.func82,Tryz.ntmps82
 go_wp2_with fail
 refine (zk (Cx.mk A h true) E z base S q (-1) 0 1 zH _ (zr (zr D _) _) H (by decide)).mono ?_
 rintro e Z ⟨rfl,K⟩
 rw[L]
 have F:=O.out.fm K
 clear D
 have V:=F.x0.boxC
 go_wp2_with fail
 refine (ziw (Cx.mk A h true) E z base S q _ F.m).mono ?_
 rintro e Y ⟨S2,q2,z2,n2,rfl,J,N,U⟩
 replace F:=F.stp N U
 clear V
 have M:w.heap.size+1<Y.heap.size:=F.x1.lt
 unfold pv
 go_upto_region 7 with fail
 refine (F.new2 _).cut ?_
 intro w3 F
 have bb:=F.x1.boxC
 have cb:=F.x2.boxC
 go_wp2
 refine (F.x1.put ..).ret rfl rfl ?_
 rw[X.out]
 exact (F.put1 ..).done rfl J.out.fst
theorem zsN (A:List Tk) (h:Nat) (H z base:Nat) (S:Sv) (q:PS) (w:World) (I:Mem (Cx.mk A h true) H z base S q w) (N:isT (Cx.mk A h true) q.pos 1 zH=false) (O:isT (Cx.mk A h true) q.pos 1 zW=true):
  Calls Tryz.prog 82 #[pv (Cx.mk A h true) H z S q (-1) 0] w (Out (Cx.mk A h true) H z base (zC (Cx.mk A h true) q) 0 S w):=by
 have Y:=zc I
 have D:=I.tok
 have E:(Cx.mk A h true).ts.length≤4000:=I.few
 clear I
 have HV:Hid (zC (Cx.mk A h true) q=zaV (fnP (Cx.mk A h true) q)):=by show zC (Cx.mk A h true) q=_;rw[zC,N,O];rfl
 unfold pv
 go_enter Tryz.func82,Tryz.ntmps82
 go_wp2_with fail
 refine (zk (Cx.mk A h true) H z base S q (-1) 0 1 zH _ (zr (zr D _) _) E (by decide)).mono ?_
 rintro e w1 ⟨rfl,M⟩
 rw[N]
 have F:=Y.out.fm M
 clear D
 have J:=F.x0.boxC
 go_wp2_with fail
 refine (zk (Cx.mk A h true) H z base S q (-1) 0 1 zW _ F.m.tok E (by decide)).mono ?_
 rintro e w2 ⟨rfl,K⟩
 rw[O]
 replace F:=F.below K
 clear J
 have J:=F.x0.boxC
 go_wp2_with fail
 refine (zix (Cx.mk A h true) H z base S q _ F.m).mono ?_
 rintro e X ⟨S3,q3,z3,n3,rfl,L,V,Z⟩
 replace F:=F.stp V Z
 clear J
 have U:w.heap.size+1<X.heap.size:=F.x1.lt
 unfold pv
 go_upto_region 10 with fail
 refine (F.new2 _).cut ?_
 intro w4 F
 have bb:=F.x1.boxC
 have cb:=F.x2.boxC
 go_wp2
 refine (F.x1.put ..).ret rfl rfl ?_
 rw[HV.out]
 exact (F.put1 ..).done rfl L.out.fst
theorem zsO (A:List Tk) (h:Nat) (D z base:Nat) (S:Sv) (q:PS) (w:World) (L:Mem (Cx.mk A h true) D z base S q w) (h0:isT (Cx.mk A h true) q.pos 1 zH=false) (h1:isT (Cx.mk A h true) q.pos 1 zW=false) (h2:isT (Cx.mk A h true) q.pos 1 za1=true):
  Calls Tryz.prog 82 #[pv (Cx.mk A h true) D z S q (-1) 0] w (Out (Cx.mk A h true) D z base (zC (Cx.mk A h true) q) 0 S w):=by
 have HM:=zc L
 have H:=L.tok
 have E:(Cx.mk A h true).ts.length≤4000:=L.few
 clear L
 have HV:Hid (zC (Cx.mk A h true) q=bd (bd (bd (bd (bd (bd (.ok q) (zd (Cx.mk A h true) 1 za1)) (zd (Cx.mk A h true) 4 zp)) (pE (Cx.mk A h true) .sum 0)) (zd (Cx.mk A h true) 4 zaA)) (zd (Cx.mk A h true) 4 cSemi)) (zaa (Cx.mk A h true) 4 sNone)):=by show zC (Cx.mk A h true) q=_;rw[zC,h0,h1,h2];rfl
 unfold pv
 go_enter Tryz.func82,Tryz.ntmps82
 go_wp2_with fail
 refine (zk (Cx.mk A h true) D z base S q (-1) 0 1 zH _ (zr (zr H _) _) E (by decide)).mono ?_
 rintro e w1 ⟨rfl,Z⟩
 rw[h0]
 have F:=HM.out.fm Z
 clear H
 have J:=F.x0.boxC
 go_wp2_with fail
 refine (zk (Cx.mk A h true) D z base S q (-1) 0 1 zW _ F.m.tok E (by decide)).mono ?_
 rintro e w2 ⟨rfl,Y⟩
 rw[h1]
 replace F:=F.below Y
 clear J
 have J:=F.x0.boxC
 go_wp2_with fail
 refine (zk (Cx.mk A h true) D z base S q (-1) 0 1 za1 _ F.m.tok E (by decide)).mono ?_
 rintro e w3 ⟨rfl,aa⟩
 rw[h2]
 replace F:=F.below aa
 clear J
 have J:=F.x0.boxC
 go_wp2_with fail
 refine (zaQ (Cx.mk A h true) D z base (.ok q) S q (-1) 0 za1 _ (zad q) F.m).mono ?_
 rintro e w4 ⟨S4,q4,z4,rfl,U,m4,s4⟩
 replace F:=F.stp m4 s4
 clear J
 go_wp2_with fail
 refine (zal (Cx.mk A h true) D z base _ S4 q4 z4 0 zp _ U.out F.m).mono ?_
 rintro e w5 ⟨S5,q5,z5,rfl,O,m5,s5⟩
 replace F:=F.stp m5 s5
 go_wp2_with fail
 refine (zd1 (Cx.mk A h true) D z base _ S5 q5 z5 _ O.out F.m).mono ?_
 rintro e w6 ⟨S6,q6,z6,rfl,N,m6,s6⟩
 replace F:=F.stp m6 s6
 go_wp2_with fail
 refine (zal (Cx.mk A h true) D z base _ S6 q6 z6 0 zaA _ N.out F.m).mono ?_
 rintro e w7 ⟨S7,q7,z7,rfl,M,m7,s7⟩
 replace F:=F.stp m7 s7
 have ac:w.heap.size+1<w7.heap.size:=F.x1.lt
 unfold pv
 go_upto_region 13 with fail
 refine (F.new2 _).cut ?_
 intro w8 F
 have cb:=F.x2.boxC
 go_wp2_with fail
 refine (zal (Cx.mk A h true) D z base _ S7 q7 z7 0 cSemi _ M.out F.m).mono ?_
 rintro e w9 ⟨S9,q9,z9,rfl,K,m9,s9⟩
 replace F:=F.stp m9 s9
 clear cb
 go_wp2_with fail
 refine (zdr (Cx.mk A h true) D z base _ S9 q9 z9 0 4 sNone _ K.out F.m (zb0 K.out)).mono ?_
 rintro e af ⟨ae,ag,ad,rfl,I,V,X⟩
 replace F:=F.stp V X
 have bb:=F.x1.boxC
 unfold pv
 go_wp2
 refine (F.x1.put ..).ret rfl rfl ?_
 rw[HV.out]
 exact (F.put1 ..).done rfl I.out
theorem zsP (A:List Tk) (h:Nat) (E z base:Nat) (S:Sv) (q:PS) (w:World) (K:Mem (Cx.mk A h true) E z base S q w) (Z:isT (Cx.mk A h true) q.pos 1 zH=false) (h1:isT (Cx.mk A h true) q.pos 1 zW=false) (Y:isT (Cx.mk A h true) q.pos 1 za1=false) (h3:isT (Cx.mk A h true) q.pos 1 zaD=true):
  Calls Tryz.prog 82 #[pv (Cx.mk A h true) E z S q (-1) 0] w (Out (Cx.mk A h true) E z base (zC (Cx.mk A h true) q) 0 S w):=by
 have HM:=zc K
 have H:=K.tok
 have D:(Cx.mk A h true).ts.length≤4000:=K.few
 clear K
 have HV:Hid (zC (Cx.mk A h true) q=bd (bd (bd (bd (.ok q) (zd (Cx.mk A h true) 1 zaD)) (pE (Cx.mk A h true) .sum 0)) (zd (Cx.mk A h true) 4 cSemi)) (zaa (Cx.mk A h true) 5 sNone)):=by show zC (Cx.mk A h true) q=_;rw[zC,Z,h1,Y,h3];rfl
 unfold pv
 go_enter Tryz.func82,Tryz.ntmps82
 go_wp2_with fail
 refine (zk (Cx.mk A h true) E z base S q (-1) 0 1 zH _ (zr (zr H _) _) D (by decide)).mono ?_
 rintro e w1 ⟨rfl,V⟩
 rw[Z]
 have F:=HM.out.fm V
 clear H
 have I:=F.x0.boxC
 go_wp2_with fail
 refine (zk (Cx.mk A h true) E z base S q (-1) 0 1 zW _ F.m.tok D (by decide)).mono ?_
 rintro e w2 ⟨rfl,O⟩
 rw[h1]
 replace F:=F.below O
 clear I
 have I:=F.x0.boxC
 go_wp2_with fail
 refine (zk (Cx.mk A h true) E z base S q (-1) 0 1 za1 _ F.m.tok D (by decide)).mono ?_
 rintro e w3 ⟨rfl,X⟩
 rw[Y]
 replace F:=F.below X
 clear I
 have I:=F.x0.boxC
 go_wp2_with fail
 refine (zk (Cx.mk A h true) E z base S q (-1) 0 1 zaD _ F.m.tok D (by decide)).mono ?_
 rintro e w4 ⟨rfl,U⟩
 rw[h3]
 replace F:=F.below U
 clear I
 have I:=F.x0.boxC
 go_wp2_with fail
 refine (zaQ (Cx.mk A h true) E z base (.ok q) S q (-1) 0 zaD _ (zad q) F.m).mono ?_
 rintro e w5 ⟨S5,q5,z5,rfl,M,m5,s5⟩
 replace F:=F.stp m5 s5
 clear I
 go_wp2_with fail
 refine (zd1 (Cx.mk A h true) E z base _ S5 q5 z5 _ M.out F.m).mono ?_
 rintro e w6 ⟨S6,q6,z6,rfl,L,m6,s6⟩
 replace F:=F.stp m6 s6
 go_wp2_with fail
 refine (zal (Cx.mk A h true) E z base _ S6 q6 z6 0 cSemi _ L.out F.m).mono ?_
 rintro e w7 ⟨S7,q7,z7,rfl,J,m7,s7⟩
 replace F:=F.stp m7 s7
 go_wp2_with fail
 refine (zdr (Cx.mk A h true) E z base _ S7 q7 z7 0 5 sNone _ J.out F.m (zb0 J.out)).mono ?_
 rintro e w8 ⟨S8,q8,z8,rfl,N,m8,s8⟩
 replace F:=F.stp m8 s8
 have bb:=F.x1.boxC
 unfold pv
 go_wp2
 refine (F.x1.put ..).ret rfl rfl ?_
 rw[HV.out]
 exact (F.put1 ..).done rfl N.out
theorem zsQ (A:List Tk) (h:Nat) (E z base:Nat) (S:Sv) (q:PS) (w:World) (K:Mem (Cx.mk A h true) E z base S q w) (h0:isT (Cx.mk A h true) q.pos 1 zH=false) (h1:isT (Cx.mk A h true) q.pos 1 zW=false) (Z:isT (Cx.mk A h true) q.pos 1 za1=false) (h3:isT (Cx.mk A h true) q.pos 1 zaD=false) (h4:isT (Cx.mk A h true) q.pos 1 zbZ=true):
  Calls Tryz.prog 82 #[pv (Cx.mk A h true) E z S q (-1) 0] w (Out (Cx.mk A h true) E z base (zC (Cx.mk A h true) q) 0 S w):=by
 have HM:=zc K
 have I:=K.tok
 have D:(Cx.mk A h true).ts.length≤4000:=K.few
 clear K
 have HV:Hid (zC (Cx.mk A h true) q=bd (bd (bd (bd (.ok q) (zd (Cx.mk A h true) 1 zbZ)) (pE (Cx.mk A h true) .sum 0)) (zd (Cx.mk A h true) 4 cSemi)) (zaa (Cx.mk A h true) 6 sNone)):=by show zC (Cx.mk A h true) q=_;rw[zC,h0,h1,Z,h3,h4];rfl
 unfold pv
 go_enter Tryz.func82,Tryz.ntmps82
 go_wp2_with fail
 refine (zk (Cx.mk A h true) E z base S q (-1) 0 1 zH _ (zr (zr I _) _) D (by decide)).mono ?_
 rintro e w1 ⟨rfl,V⟩
 rw[h0]
 have F:=HM.out.fm V
 clear I
 have H:=F.x0.boxC
 go_wp2_with fail
 refine (zk (Cx.mk A h true) E z base S q (-1) 0 1 zW _ F.m.tok D (by decide)).mono ?_
 rintro e w2 ⟨rfl,O⟩
 rw[h1]
 replace F:=F.below O
 clear H
 have H:=F.x0.boxC
 go_wp2_with fail
 refine (zk (Cx.mk A h true) E z base S q (-1) 0 1 za1 _ F.m.tok D (by decide)).mono ?_
 rintro e w3 ⟨rfl,Y⟩
 rw[Z]
 replace F:=F.below Y
 clear H
 have H:=F.x0.boxC
 go_wp2_with fail
 refine (zk (Cx.mk A h true) E z base S q (-1) 0 1 zaD _ F.m.tok D (by decide)).mono ?_
 rintro e w4 ⟨rfl,U⟩
 rw[h3]
 replace F:=F.below U
 clear H
 have H:=F.x0.boxC
 go_wp2_with fail
 refine (zk (Cx.mk A h true) E z base S q (-1) 0 1 zbZ _ F.m.tok D (by decide)).mono ?_
 rintro e w5 ⟨rfl,N⟩
 rw[h4]
 replace F:=F.below N
 clear H
 have H:=F.x0.boxC
 go_wp2_with fail
 refine (zaQ (Cx.mk A h true) E z base (.ok q) S q (-1) 0 zbZ _ (zad q) F.m).mono ?_
 rintro e w6 ⟨S6,q6,z6,rfl,M,m6,s6⟩
 replace F:=F.stp m6 s6
 clear H
 go_wp2_with fail
 refine (zd1 (Cx.mk A h true) E z base _ S6 q6 z6 _ M.out F.m).mono ?_
 rintro e w7 ⟨S7,q7,z7,rfl,L,m7,s7⟩
 replace F:=F.stp m7 s7
 go_wp2_with fail
 refine (zal (Cx.mk A h true) E z base _ S7 q7 z7 0 cSemi _ L.out F.m).mono ?_
 rintro e w8 ⟨S8,q8,z8,rfl,J,m8,s8⟩
 replace F:=F.stp m8 s8
 go_wp2_with fail
 refine (zdr (Cx.mk A h true) E z base _ S8 q8 z8 0 6 sNone _ J.out F.m (zb0 J.out)).mono ?_
 rintro e w9 ⟨S9,q9,z9,rfl,X,m9,s9⟩
 replace F:=F.stp m9 s9
 have bb:=F.x1.boxC
 unfold pv
 go_wp2
 refine (F.x1.put ..).ret rfl rfl ?_
 rw[HV.out]
 exact (F.put1 ..).done rfl X.out
theorem zsR (z:List Tk) (h:Nat) (E A base:Nat) (S:Sv) (q:PS) (w:World) (M:Mem (Cx.mk z h true) E A base S q w) (h0:isT (Cx.mk z h true) q.pos 1 zH=false) (h1:isT (Cx.mk z h true) q.pos 1 zW=false) (h2:isT (Cx.mk z h true) q.pos 1 za1=false) (h3:isT (Cx.mk z h true) q.pos 1 zaD=false) (h4:isT (Cx.mk z h true) q.pos 1 zbZ=false):
  Calls Tryz.prog 82 #[pv (Cx.mk z h true) E A S q (-1) 0] w (Out (Cx.mk z h true) E A base (zC (Cx.mk z h true) q) 0 S w):=by
 have HM:=zc M
 have I:=M.tok
 have D:(Cx.mk z h true).ts.length≤4000:=M.few
 clear M
 have HV:Hid (zC (Cx.mk z h true) q=bd (bd (.ok q) (zm (Cx.mk z h true) false)) fun a=>bd (bd (bd (bd (.ok a.1) (zd (Cx.mk z h true) 4 cEq)) (pE (Cx.mk z h true) .sum 0)) (zd (Cx.mk z h true) 4 cSemi)) (zaa (Cx.mk z h true) 3 a.2)):=by show zC (Cx.mk z h true) q=_;rw[zC,h0,h1,h2,h3,h4];rfl
 unfold pv
 go_enter Tryz.func82,Tryz.ntmps82
 go_wp2_with fail
 refine (zk (Cx.mk z h true) E A base S q (-1) 0 1 zH _ (zr (zr I _) _) D (by decide)).mono ?_
 rintro e w1 ⟨rfl,ac⟩
 rw[h0]
 have F:=HM.out.fm ac
 clear I
 have H:=F.x0.boxC
 go_wp2_with fail
 refine (zk (Cx.mk z h true) E A base S q (-1) 0 1 zW _ F.m.tok D (by decide)).mono ?_
 rintro e w2 ⟨rfl,Y⟩
 rw[h1]
 replace F:=F.below Y
 clear H
 have H:=F.x0.boxC
 go_wp2_with fail
 refine (zk (Cx.mk z h true) E A base S q (-1) 0 1 za1 _ F.m.tok D (by decide)).mono ?_
 rintro e w3 ⟨rfl,ae⟩
 rw[h2]
 replace F:=F.below ae
 clear H
 have H:=F.x0.boxC
 go_wp2_with fail
 refine (zk (Cx.mk z h true) E A base S q (-1) 0 1 zaD _ F.m.tok D (by decide)).mono ?_
 rintro e w4 ⟨rfl,aa⟩
 rw[h3]
 replace F:=F.below aa
 clear H
 have H:=F.x0.boxC
 go_wp2_with fail
 refine (zk (Cx.mk z h true) E A base S q (-1) 0 1 zbZ _ F.m.tok D (by decide)).mono ?_
 rintro e w5 ⟨rfl,O⟩
 rw[h4]
 replace F:=F.below O
 clear H
 have H:=F.x0.boxC
 go_wp2_with fail
 refine (zbt (Cx.mk z h true) E A base (.ok q) S q (-1) 0 false _ (zad q) F.m).mono ?_
 rintro e w6 ⟨S6,q6,z6,n6,rfl,K,m6,s6⟩
 replace F:=F.stp m6 s6
 clear H
 have ai:w.heap.size+1<w6.heap.size:=F.x1.lt
 unfold pv
 go_upto_region 19 with fail
 refine (F.new2 _).cut ?_
 intro w7 F
 have cb:=F.x2.boxC
 go_wp2_with fail
 refine (zal (Cx.mk z h true) E A base _ S6 q6 z6 0 cEq _ K.out.fst F.m).mono ?_
 rintro e w8 ⟨S8,q8,z8,rfl,V,m8,s8⟩
 replace F:=F.stp m8 s8
 clear cb
 go_wp2_with fail
 refine (zd1 (Cx.mk z h true) E A base _ S8 q8 z8 _ V.out F.m).mono ?_
 rintro e w9 ⟨S9,q9,z9,rfl,ad,m9,s9⟩
 replace F:=F.stp m9 s9
 go_wp2_with fail
 refine (zal (Cx.mk z h true) E A base _ S9 q9 z9 0 cSemi _ ad.out F.m).mono ?_
 rintro e an ⟨af,ah,N,rfl,J,U,X⟩
 replace F:=F.stp U X
 go_wp2_with fail
 refine (zdr (Cx.mk z h true) E A base _ af ah N 0 3 n6 _ J.out F.m (zb0 J.out)).mono ?_
 rintro e aj ⟨al,ak,am,rfl,L,Z,ag⟩
 replace F:=F.stp Z ag
 have bb:=F.x1.boxC
 unfold pv
 go_wp2
 refine (F.x1.put ..).ret rfl rfl ?_
 rw[HV.out,←K.out.bind (fun q n=>bd (bd (bd (bd (.ok q) (zd (Cx.mk z h true) 4 cEq)) (pE (Cx.mk z h true) .sum 0)) (zd (Cx.mk z h true) 4 cSemi)) (zaa (Cx.mk z h true) 3 n)),←zlC]
 exact (F.put1 ..).done rfl L.out
theorem zsS (A:List Tk) (h:Nat) (D z base:Nat) (S:Sv) (q:PS) (w:World) (E:Mem (Cx.mk A h true) D z base S q w):
  Calls Tryz.prog 82 #[pv (Cx.mk A h true) D z S q (-1) 0] w (Out (Cx.mk A h true) D z base (zC (Cx.mk A h true) q) 0 S w):=by
 cases H:isT (Cx.mk A h true) q.pos 1 zH with
 |true=>exact zsM A h D z base S q w E H
 |false=>
  cases I:isT (Cx.mk A h true) q.pos 1 zW with
  |true=>exact zsN A h D z base S q w E H I
  |false=>
   cases J:isT (Cx.mk A h true) q.pos 1 za1 with
   |true=>exact zsO A h D z base S q w E H I J
   |false=>
    cases K:isT (Cx.mk A h true) q.pos 1 zaD with
    |true=>exact zsP A h D z base S q w E H I J K
    |false=>
     cases L:isT (Cx.mk A h true) q.pos 1 zbZ with
     |true=>exact zsQ A h D z base S q w E H I J K L
     |false=>
      exact zsR A h D z base S q w E H I J K L
theorem zsT (A:List Tk) (h:Nat) (E z base:Nat) (S:Sv) (q:PS) (w:World) (I:Mem (Cx.mk A h false) E z base S q w) (J:isT (Cx.mk A h false) q.pos 1 zao=true):
  Calls Tryz.prog 82 #[pv (Cx.mk A h false) E z S q (-1) 0] w (Out (Cx.mk A h false) E z base (zC (Cx.mk A h false) q) 0 S w):=by
 have N:=zc I
 have D:=I.tok
 have H:(Cx.mk A h false).ts.length≤4000:=I.few
 clear I
 have V:Hid (zC (Cx.mk A h false) q=zbe (Cx.mk A h false) q):=by show zC (Cx.mk A h false) q=_;rw[zC,J];rfl
 unfold pv
 go_enter Tryz.func82,Tryz.ntmps82
 go_wp2_with fail
 refine (zk (Cx.mk A h false) E z base S q (-1) 0 1 zao _ (zr (zr D _) _) H (by decide)).mono ?_
 rintro e X ⟨rfl,L⟩
 rw[J]
 have F:=N.out.fm L
 clear D
 have U:=F.x0.boxC
 go_wp2_with fail
 refine (zsK (Cx.mk A h false) E z base S q _ F.m J).mono ?_
 rintro e w2 ⟨S2,q2,Z,rfl,K,M,O⟩
 replace F:=F.stp M O
 clear U
 have Y:=F.x1.boxC
 unfold pv
 go_wp2
 refine (F.x1.put ..).ret rfl rfl ?_
 rw[V.out]
 exact (F.put1 ..).done rfl K.out
theorem zsU (A:List Tk) (h:Nat) (H z base:Nat) (S:Sv) (q:PS) (w:World) (I:Mem (Cx.mk A h false) H z base S q w) (O:isT (Cx.mk A h false) q.pos 1 zao=false) (J:isT (Cx.mk A h false) q.pos 1 zan=true):
  Calls Tryz.prog 82 #[pv (Cx.mk A h false) H z S q (-1) 0] w (Out (Cx.mk A h false) H z base (zC (Cx.mk A h false) q) 0 S w):=by
 have V:=zc I
 have D:=I.tok
 have E:(Cx.mk A h false).ts.length≤4000:=I.few
 clear I
 have Y:Hid (zC (Cx.mk A h false) q=zaq (Cx.mk A h false) q):=by show zC (Cx.mk A h false) q=_;rw[zC,O,J];rfl
 unfold pv
 go_enter Tryz.func82,Tryz.ntmps82
 go_wp2_with fail
 refine (zk (Cx.mk A h false) H z base S q (-1) 0 1 zao _ (zr (zr D _) _) E (by decide)).mono ?_
 rintro e Z ⟨rfl,N⟩
 rw[O]
 have F:=V.out.fm N
 clear D
 have K:=F.x0.boxC
 go_wp2_with fail
 refine (zk (Cx.mk A h false) H z base S q (-1) 0 1 zan _ F.m.tok E (by decide)).mono ?_
 rintro e w2 ⟨rfl,L⟩
 rw[J]
 replace F:=F.below L
 clear K
 have K:=F.x0.boxC
 go_wp2_with fail
 refine (zsL (Cx.mk A h false) H z base S q _ F.m J).mono ?_
 rintro e w3 ⟨S3,q3,z3,rfl,M,U,X⟩
 replace F:=F.stp U X
 clear K
 have bb:=F.x1.boxC
 unfold pv
 go_wp2
 refine (F.x1.put ..).ret rfl rfl ?_
 rw[Y.out]
 exact (F.put1 ..).done rfl M.out
theorem zsV (A:List Tk) (h:Nat) (H z base:Nat) (S:Sv) (q:PS) (w:World) (J:Mem (Cx.mk A h false) H z base S q w) (U:isT (Cx.mk A h false) q.pos 1 zao=false) (V:isT (Cx.mk A h false) q.pos 1 zan=false) (O:isT (Cx.mk A h false) q.pos 1 zH=true):
  Calls Tryz.prog 82 #[pv (Cx.mk A h false) H z S q (-1) 0] w (Out (Cx.mk A h false) H z base (zC (Cx.mk A h false) q) 0 S w):=by
 have HM:=zc J
 have E:=J.tok
 have D:(Cx.mk A h false).ts.length≤4000:=J.few
 clear J
 have HV:Hid (zC (Cx.mk A h false) q=zaV (zcT (Cx.mk A h false) q)):=by show zC (Cx.mk A h false) q=_;rw[zC,U,V,O];rfl
 unfold pv
 go_enter Tryz.func82,Tryz.ntmps82
 go_wp2_with fail
 refine (zk (Cx.mk A h false) H z base S q (-1) 0 1 zao _ (zr (zr E _) _) D (by decide)).mono ?_
 rintro e w1 ⟨rfl,M⟩
 rw[U]
 have F:=HM.out.fm M
 clear E
 have I:=F.x0.boxC
 go_wp2_with fail
 refine (zk (Cx.mk A h false) H z base S q (-1) 0 1 zan _ F.m.tok D (by decide)).mono ?_
 rintro e w2 ⟨rfl,L⟩
 rw[V]
 replace F:=F.below L
 clear I
 have I:=F.x0.boxC
 go_wp2_with fail
 refine (zk (Cx.mk A h false) H z base S q (-1) 0 1 zH _ F.m.tok D (by decide)).mono ?_
 rintro e w3 ⟨rfl,N⟩
 rw[O]
 replace F:=F.below N
 clear I
 have I:=F.x0.boxC
 go_wp2_with fail
 refine (ziw (Cx.mk A h false) H z base S q _ F.m).mono ?_
 rintro e Y ⟨S4,q4,z4,n4,rfl,K,m4,Z⟩
 replace F:=F.stp m4 Z
 clear I
 have X:w.heap.size+1<Y.heap.size:=F.x1.lt
 unfold pv
 go_upto_region 7 with fail
 refine (F.new2 _).cut ?_
 intro w5 F
 have bb:=F.x1.boxC
 have cb:=F.x2.boxC
 go_wp2
 refine (F.x1.put ..).ret rfl rfl ?_
 rw[HV.out]
 exact (F.put1 ..).done rfl K.out.fst
theorem zsW (A:List Tk) (h:Nat) (H z base:Nat) (S:Sv) (q:PS) (w:World) (J:Mem (Cx.mk A h false) H z base S q w) (V:isT (Cx.mk A h false) q.pos 1 zao=false) (X:isT (Cx.mk A h false) q.pos 1 zan=false) (U:isT (Cx.mk A h false) q.pos 1 zH=false) (Y:isT (Cx.mk A h false) q.pos 1 zW=true):
  Calls Tryz.prog 82 #[pv (Cx.mk A h false) H z S q (-1) 0] w (Out (Cx.mk A h false) H z base (zC (Cx.mk A h false) q) 0 S w):=by
 have HM:=zc J
 have E:=J.tok
 have D:(Cx.mk A h false).ts.length≤4000:=J.few
 clear J
 have HV:Hid (zC (Cx.mk A h false) q=zaV (fnP (Cx.mk A h false) q)):=by show zC (Cx.mk A h false) q=_;rw[zC,V,X,U,Y];rfl
 unfold pv
 go_enter Tryz.func82,Tryz.ntmps82
 go_wp2_with fail
 refine (zk (Cx.mk A h false) H z base S q (-1) 0 1 zao _ (zr (zr E _) _) D (by decide)).mono ?_
 rintro e w1 ⟨rfl,N⟩
 rw[V]
 have F:=HM.out.fm N
 clear E
 have I:=F.x0.boxC
 go_wp2_with fail
 refine (zk (Cx.mk A h false) H z base S q (-1) 0 1 zan _ F.m.tok D (by decide)).mono ?_
 rintro e w2 ⟨rfl,L⟩
 rw[X]
 replace F:=F.below L
 clear I
 have I:=F.x0.boxC
 go_wp2_with fail
 refine (zk (Cx.mk A h false) H z base S q (-1) 0 1 zH _ F.m.tok D (by decide)).mono ?_
 rintro e w3 ⟨rfl,O⟩
 rw[U]
 replace F:=F.below O
 clear I
 have I:=F.x0.boxC
 go_wp2_with fail
 refine (zk (Cx.mk A h false) H z base S q (-1) 0 1 zW _ F.m.tok D (by decide)).mono ?_
 rintro e w4 ⟨rfl,M⟩
 rw[Y]
 replace F:=F.below M
 clear I
 have I:=F.x0.boxC
 go_wp2_with fail
 refine (zix (Cx.mk A h false) H z base S q _ F.m).mono ?_
 rintro e w5 ⟨S5,q5,z5,n5,rfl,K,m5,s5⟩
 replace F:=F.stp m5 s5
 clear I
 have Z:w.heap.size+1<w5.heap.size:=F.x1.lt
 unfold pv
 go_upto_region 10 with fail
 refine (F.new2 _).cut ?_
 intro w6 F
 have bb:=F.x1.boxC
 have cb:=F.x2.boxC
 go_wp2
 refine (F.x1.put ..).ret rfl rfl ?_
 rw[HV.out]
 exact (F.put1 ..).done rfl K.out.fst
theorem zsX (A:List Tk) (h:Nat) (E z base:Nat) (S:Sv) (q:PS) (w:World) (L:Mem (Cx.mk A h false) E z base S q w) (h0:isT (Cx.mk A h false) q.pos 1 zao=false) (h1:isT (Cx.mk A h false) q.pos 1 zan=false) (h2:isT (Cx.mk A h false) q.pos 1 zH=false) (h3:isT (Cx.mk A h false) q.pos 1 zW=false) (h4:isT (Cx.mk A h false) q.pos 1 za1=true):
  Calls Tryz.prog 82 #[pv (Cx.mk A h false) E z S q (-1) 0] w (Out (Cx.mk A h false) E z base (zC (Cx.mk A h false) q) 0 S w):=by
 have HM:=zc L
 have I:=L.tok
 have D:(Cx.mk A h false).ts.length≤4000:=L.few
 clear L
 have HV:Hid (zC (Cx.mk A h false) q=bd (bd (bd (bd (bd (bd (.ok q) (zd (Cx.mk A h false) 1 za1)) (zd (Cx.mk A h false) 4 zp)) (pE (Cx.mk A h false) .sum 0)) (zd (Cx.mk A h false) 4 zaA)) (zd (Cx.mk A h false) 4 cSemi)) (zaa (Cx.mk A h false) 4 sNone)):=by show zC (Cx.mk A h false) q=_;rw[zC,h0,h1,h2,h3,h4];rfl
 unfold pv
 go_enter Tryz.func82,Tryz.ntmps82
 go_wp2_with fail
 refine (zk (Cx.mk A h false) E z base S q (-1) 0 1 zao _ (zr (zr I _) _) D (by decide)).mono ?_
 rintro e w1 ⟨rfl,ae⟩
 rw[h0]
 have F:=HM.out.fm ae
 clear I
 have H:=F.x0.boxC
 go_wp2_with fail
 refine (zk (Cx.mk A h false) E z base S q (-1) 0 1 zan _ F.m.tok D (by decide)).mono ?_
 rintro e w2 ⟨rfl,Y⟩
 rw[h1]
 replace F:=F.below Y
 clear H
 have H:=F.x0.boxC
 go_wp2_with fail
 refine (zk (Cx.mk A h false) E z base S q (-1) 0 1 zH _ F.m.tok D (by decide)).mono ?_
 rintro e w3 ⟨rfl,ai⟩
 rw[h2]
 replace F:=F.below ai
 clear H
 have H:=F.x0.boxC
 go_wp2_with fail
 refine (zk (Cx.mk A h false) E z base S q (-1) 0 1 zW _ F.m.tok D (by decide)).mono ?_
 rintro e w4 ⟨rfl,ac⟩
 rw[h3]
 replace F:=F.below ac
 clear H
 have H:=F.x0.boxC
 go_wp2_with fail
 refine (zk (Cx.mk A h false) E z base S q (-1) 0 1 za1 _ F.m.tok D (by decide)).mono ?_
 rintro e w5 ⟨rfl,U⟩
 rw[h4]
 replace F:=F.below U
 clear H
 have H:=F.x0.boxC
 go_wp2_with fail
 refine (zaQ (Cx.mk A h false) E z base (.ok q) S q (-1) 0 za1 _ (zad q) F.m).mono ?_
 rintro e w6 ⟨S6,q6,z6,rfl,N,m6,s6⟩
 replace F:=F.stp m6 s6
 clear H
 go_wp2_with fail
 refine (zal (Cx.mk A h false) E z base _ S6 q6 z6 0 zp _ N.out F.m).mono ?_
 rintro e w7 ⟨S7,q7,z7,rfl,M,m7,s7⟩
 replace F:=F.stp m7 s7
 go_wp2_with fail
 refine (zd1 (Cx.mk A h false) E z base _ S7 q7 z7 _ M.out F.m).mono ?_
 rintro e w8 ⟨S8,q8,z8,rfl,X,m8,s8⟩
 replace F:=F.stp m8 s8
 go_wp2_with fail
 refine (zal (Cx.mk A h false) E z base _ S8 q8 z8 0 zaA _ X.out F.m).mono ?_
 rintro e w9 ⟨S9,q9,z9,rfl,ah,m9,s9⟩
 replace F:=F.stp m9 s9
 have aj:w.heap.size+1<w9.heap.size:=F.x1.lt
 unfold pv
 go_upto_region 13 with fail
 refine (F.new2 _).cut ?_
 intro ap F
 have cb:=F.x2.boxC
 go_wp2_with fail
 refine (zal (Cx.mk A h false) E z base _ S9 q9 z9 0 cSemi _ ah.out F.m).mono ?_
 rintro e al ⟨Z,V,af,rfl,J,aa,ag⟩
 replace F:=F.stp aa ag
 clear cb
 go_wp2_with fail
 refine (zdr (Cx.mk A h false) E z base _ Z V af 0 4 sNone _ J.out F.m (zb0 J.out)).mono ?_
 rintro e ak ⟨am,an,ao,rfl,K,O,ad⟩
 replace F:=F.stp O ad
 have bb:=F.x1.boxC
 unfold pv
 go_wp2
 refine (F.x1.put ..).ret rfl rfl ?_
 rw[HV.out]
 exact (F.put1 ..).done rfl K.out
theorem zsY (A:List Tk) (h:Nat) (E z base:Nat) (S:Sv) (q:PS) (w:World) (L:Mem (Cx.mk A h false) E z base S q w) (h0:isT (Cx.mk A h false) q.pos 1 zao=false) (h1:isT (Cx.mk A h false) q.pos 1 zan=false) (h2:isT (Cx.mk A h false) q.pos 1 zH=false) (h3:isT (Cx.mk A h false) q.pos 1 zW=false) (h4:isT (Cx.mk A h false) q.pos 1 za1=false) (h5:isT (Cx.mk A h false) q.pos 1 zaD=true):
  Calls Tryz.prog 82 #[pv (Cx.mk A h false) E z S q (-1) 0] w (Out (Cx.mk A h false) E z base (zC (Cx.mk A h false) q) 0 S w):=by
 have HM:=zc L
 have I:=L.tok
 have D:(Cx.mk A h false).ts.length≤4000:=L.few
 clear L
 have HV:Hid (zC (Cx.mk A h false) q=bd (bd (bd (bd (.ok q) (zd (Cx.mk A h false) 1 zaD)) (pE (Cx.mk A h false) .sum 0)) (zd (Cx.mk A h false) 4 cSemi)) (zaa (Cx.mk A h false) 5 sNone)):=by show zC (Cx.mk A h false) q=_;rw[zC,h0,h1,h2,h3,h4,h5];rfl
 unfold pv
 go_enter Tryz.func82,Tryz.ntmps82
 go_wp2_with fail
 refine (zk (Cx.mk A h false) E z base S q (-1) 0 1 zao _ (zr (zr I _) _) D (by decide)).mono ?_
 rintro e w1 ⟨rfl,aa⟩
 rw[h0]
 have F:=HM.out.fm aa
 clear I
 have H:=F.x0.boxC
 go_wp2_with fail
 refine (zk (Cx.mk A h false) E z base S q (-1) 0 1 zan _ F.m.tok D (by decide)).mono ?_
 rintro e w2 ⟨rfl,Y⟩
 rw[h1]
 replace F:=F.below Y
 clear H
 have H:=F.x0.boxC
 go_wp2_with fail
 refine (zk (Cx.mk A h false) E z base S q (-1) 0 1 zH _ F.m.tok D (by decide)).mono ?_
 rintro e w3 ⟨rfl,ac⟩
 rw[h2]
 replace F:=F.below ac
 clear H
 have H:=F.x0.boxC
 go_wp2_with fail
 refine (zk (Cx.mk A h false) E z base S q (-1) 0 1 zW _ F.m.tok D (by decide)).mono ?_
 rintro e w4 ⟨rfl,Z⟩
 rw[h3]
 replace F:=F.below Z
 clear H
 have H:=F.x0.boxC
 go_wp2_with fail
 refine (zk (Cx.mk A h false) E z base S q (-1) 0 1 za1 _ F.m.tok D (by decide)).mono ?_
 rintro e w5 ⟨rfl,O⟩
 rw[h4]
 replace F:=F.below O
 clear H
 have H:=F.x0.boxC
 go_wp2_with fail
 refine (zk (Cx.mk A h false) E z base S q (-1) 0 1 zaD _ F.m.tok D (by decide)).mono ?_
 rintro e w6 ⟨rfl,N⟩
 rw[h5]
 replace F:=F.below N
 clear H
 have H:=F.x0.boxC
 go_wp2_with fail
 refine (zaQ (Cx.mk A h false) E z base (.ok q) S q (-1) 0 zaD _ (zad q) F.m).mono ?_
 rintro e w7 ⟨S7,q7,z7,rfl,M,m7,s7⟩
 replace F:=F.stp m7 s7
 clear H
 go_wp2_with fail
 refine (zd1 (Cx.mk A h false) E z base _ S7 q7 z7 _ M.out F.m).mono ?_
 rintro e w8 ⟨S8,q8,z8,rfl,V,m8,s8⟩
 replace F:=F.stp m8 s8
 go_wp2_with fail
 refine (zal (Cx.mk A h false) E z base _ S8 q8 z8 0 cSemi _ V.out F.m).mono ?_
 rintro e w9 ⟨S9,q9,z9,rfl,K,m9,s9⟩
 replace F:=F.stp m9 s9
 go_wp2_with fail
 refine (zdr (Cx.mk A h false) E z base _ S9 q9 z9 0 5 sNone _ K.out F.m (zb0 K.out)).mono ?_
 rintro e af ⟨ae,ag,ad,rfl,J,U,X⟩
 replace F:=F.stp U X
 have bb:=F.x1.boxC
 unfold pv
 go_wp2
 refine (F.x1.put ..).ret rfl rfl ?_
 rw[HV.out]
 exact (F.put1 ..).done rfl J.out
theorem zsZ (z:List Tk) (h:Nat) (E A base:Nat) (S:Sv) (q:PS) (w:World) (N:Mem (Cx.mk z h false) E A base S q w) (h0:isT (Cx.mk z h false) q.pos 1 zao=false) (h1:isT (Cx.mk z h false) q.pos 1 zan=false) (h2:isT (Cx.mk z h false) q.pos 1 zH=false) (h3:isT (Cx.mk z h false) q.pos 1 zW=false) (h4:isT (Cx.mk z h false) q.pos 1 za1=false) (h5:isT (Cx.mk z h false) q.pos 1 zaD=false):
  Calls Tryz.prog 82 #[pv (Cx.mk z h false) E A S q (-1) 0] w (Out (Cx.mk z h false) E A base (zC (Cx.mk z h false) q) 0 S w):=by
 have HM:=zc N
 have I:=N.tok
 have D:(Cx.mk z h false).ts.length≤4000:=N.few
 clear N
 have HV:Hid (zC (Cx.mk z h false) q=bd (bd (.ok q) (zm (Cx.mk z h false) false)) fun a=>bd (bd (bd (bd (.ok a.1) (zd (Cx.mk z h false) 4 cEq)) (pE (Cx.mk z h false) .sum 0)) (zd (Cx.mk z h false) 4 cSemi)) (zaa (Cx.mk z h false) 3 a.2)):=by show zC (Cx.mk z h false) q=_;rw[zC,h0,h1,h2,h3,h4,h5];rfl
 unfold pv
 go_enter Tryz.func82,Tryz.ntmps82
 go_wp2_with fail
 refine (zk (Cx.mk z h false) E A base S q (-1) 0 1 zao _ (zr (zr I _) _) D (by decide)).mono ?_
 rintro e w1 ⟨rfl,ai⟩
 rw[h0]
 have F:=HM.out.fm ai
 clear I
 have H:=F.x0.boxC
 go_wp2_with fail
 refine (zk (Cx.mk z h false) E A base S q (-1) 0 1 zan _ F.m.tok D (by decide)).mono ?_
 rintro e w2 ⟨rfl,ad⟩
 rw[h1]
 replace F:=F.below ad
 clear H
 have H:=F.x0.boxC
 go_wp2_with fail
 refine (zk (Cx.mk z h false) E A base S q (-1) 0 1 zH _ F.m.tok D (by decide)).mono ?_
 rintro e w3 ⟨rfl,am⟩
 rw[h2]
 replace F:=F.below am
 clear H
 have H:=F.x0.boxC
 go_wp2_with fail
 refine (zk (Cx.mk z h false) E A base S q (-1) 0 1 zW _ F.m.tok D (by decide)).mono ?_
 rintro e w4 ⟨rfl,ag⟩
 rw[h3]
 replace F:=F.below ag
 clear H
 have H:=F.x0.boxC
 go_wp2_with fail
 refine (zk (Cx.mk z h false) E A base S q (-1) 0 1 za1 _ F.m.tok D (by decide)).mono ?_
 rintro e w5 ⟨rfl,Y⟩
 rw[h4]
 replace F:=F.below Y
 clear H
 have H:=F.x0.boxC
 go_wp2_with fail
 refine (zk (Cx.mk z h false) E A base S q (-1) 0 1 zaD _ F.m.tok D (by decide)).mono ?_
 rintro e w6 ⟨rfl,V⟩
 rw[h5]
 replace F:=F.below V
 clear H
 have H:=F.x0.boxC
 go_wp2_with fail
 refine (zbt (Cx.mk z h false) E A base (.ok q) S q (-1) 0 false _ (zad q) F.m).mono ?_
 rintro e w7 ⟨S7,q7,z7,n7,rfl,K,m7,s7⟩
 replace F:=F.stp m7 s7
 clear H
 have ao:w.heap.size+1<w7.heap.size:=F.x1.lt
 unfold pv
 go_upto_region 19 with fail
 refine (F.new2 _).cut ?_
 intro w8 F
 have cb:=F.x2.boxC
 go_wp2_with fail
 refine (zal (Cx.mk z h false) E A base _ S7 q7 z7 0 cEq _ K.out.fst F.m).mono ?_
 rintro e w9 ⟨S9,q9,z9,rfl,al,m9,s9⟩
 replace F:=F.stp m9 s9
 clear cb
 go_wp2_with fail
 refine (zd1 (Cx.mk z h false) E A base _ S9 q9 z9 _ al.out F.m).mono ?_
 rintro e aw ⟨aj,an,O,rfl,M,Z,ac⟩
 replace F:=F.stp Z ac
 go_wp2_with fail
 refine (zal (Cx.mk z h false) E A base _ aj an O 0 cSemi _ M.out F.m).mono ?_
 rintro e ap ⟨ae,aa,U,rfl,J,af,ak⟩
 replace F:=F.stp af ak
 go_wp2_with fail
 refine (zdr (Cx.mk z h false) E A base _ ae aa U 0 3 n7 _ J.out F.m (zb0 J.out)).mono ?_
 rintro e av ⟨aq,ar,au,rfl,L,X,ah⟩
 replace F:=F.stp X ah
 have bb:=F.x1.boxC
 unfold pv
 go_wp2
 refine (F.x1.put ..).ret rfl rfl ?_
 rw[HV.out,←K.out.bind (fun q n=>bd (bd (bd (bd (.ok q) (zd (Cx.mk z h false) 4 cEq)) (pE (Cx.mk z h false) .sum 0)) (zd (Cx.mk z h false) 4 cSemi)) (zaa (Cx.mk z h false) 3 n)),←zlC]
 exact (F.put1 ..).done rfl L.out
theorem zta (A:List Tk) (h:Nat) (D z base:Nat) (S:Sv) (q:PS) (w:World) (E:Mem (Cx.mk A h false) D z base S q w):
  Calls Tryz.prog 82 #[pv (Cx.mk A h false) D z S q (-1) 0] w (Out (Cx.mk A h false) D z base (zC (Cx.mk A h false) q) 0 S w):=by
 cases H:isT (Cx.mk A h false) q.pos 1 zao with
 |true=>exact zsT A h D z base S q w E H
 |false=>
  cases I:isT (Cx.mk A h false) q.pos 1 zan with
  |true=>exact zsU A h D z base S q w E H I
  |false=>
   cases J:isT (Cx.mk A h false) q.pos 1 zH with
   |true=>exact zsV A h D z base S q w E H I J
   |false=>
    cases K:isT (Cx.mk A h false) q.pos 1 zW with
    |true=>exact zsW A h D z base S q w E H I J K
    |false=>
     cases L:isT (Cx.mk A h false) q.pos 1 za1 with
     |true=>exact zsX A h D z base S q w E H I J K L
     |false=>
      cases M:isT (Cx.mk A h false) q.pos 1 zaD with
      |true=>exact zsY A h D z base S q w E H I J K L M
      |false=>
       exact zsZ A h D z base S q w E H I J K L M
theorem ztb (C:Cx) (A h base:Nat) (S:Sv) (q:PS) (w:World) (E:Mem C A h base S q w):
  Calls Tryz.prog 82 #[pv C A h S q (-1) 0] w (Out C A h base (zC C q) 0 S w):=by
 obtain⟨H,z,D⟩:=C
 cases D with
 |true=>exact zsS H z A h base S q w E
 |false=>exact zta H z A h base S q w E
theorem ztc (s:ByteArray) (q:Bool) (w:World) (hs:s.size≤4294967296):
  Calls Tryz.prog 54 #[.string s,.bool q] w fun e w'=>ParseOut s q w e w'∧Below w.heap.size w w':=by
 obtain⟨i0,hi,ar,az,aw⟩:=info_parts Tryz.infoExp
 go_enter Tryz.func54,Tryz.ntmps54
 go_wp2_with fail
 refine (zou s q _ hs).mono ?_
 rintro e Y ⟨⟨r1,M,U⟩,b1⟩
 have ae:Hid (Below w.heap.size w Y):=((Below.refl _ _).alloc (Nat.le_refl _) _).trans (b1.mono (by rw[zg];omega))
 have hG:Y.heap[w.heap.size]? =some (.cells #[.slice none 0 0,.slice none 0 0,.slice none 0 0,.slice none 0 0,.slice none 0 0] 54 (0,0)):=(b1.block _ (by rw[zg];omega)).trans (heap_alloc_new w _)
 rw[zg] at b1
 cases r1 with
 |error p=>
  obtain⟨g,O,rfl,A⟩:=U
  have HY:Hid (zbA s q (.error p)):=⟨_,M,rfl⟩
  have HG:=zc hG
  obtain⟨c0,c1,c2,c3,c4,cf⟩:=zj hG
  have dz:decide ((0:Int)≤(p:Int))=true:=decide_eq_true (by omega)
  clear A M b1 hG
  go_wp2
  refine bodyPost_ret (zaC rfl _ _ w.heap.size 54 _ (0,0) _ rfl (zdD HG.out) Tryz.underlying54 rfl (by kernel_rfl)) rfl ?_
  exact⟨⟨_,HY.out,rfl⟩,zdR ae.out (Nat.le_refl _) _ _ _ _ _⟩
 |ok D=>
  obtain⟨g,n,O,rfl,A⟩:=U
  obtain rfl:n=D.length:=A.2
  rw[zg] at A
  have aj:w.heap.size+1≤Y.heap.size:=by have:=b1.size;rw[zg] at this;exact this
  have ai:=zjD M
  have HR:=zc M
  have ak:Mem ⟨D,s.size,q⟩ g O (w.heap.size+1) S0 zcd Y:=zjE A ai aj
  have an:=zc ak
  have HG:=zc hG
  clear A M ak hG
  go_wp2
  go_loopg [] (D.length+1) (fun k wr=>∃(x':PR) (H:Sv) (X:PS) (z':Int),Is x' X z'∧bd x' (za2 ⟨D,s.size,q⟩)=za2 ⟨D,s.size,q⟩ zcd∧(z'<0→D.length-X.pos<k)∧Mem ⟨D,s.size,q⟩ g O (w.heap.size+1) H X wr∧Below w.heap.size w wr∧Bx g H wr Y.heap.size #[.slice (some ⟨g,0,none⟩) D.length O,.int .i64 X.pos,.int .i64 s.size,.bool q,.slice H.rq.a X.rq.length H.rq.cap,.slice H.im.a X.im.length H.im.cap,.slice H.ep.a X.ep.length H.ep.cap,.slice H.st.a X.st.length H.st.cap,.slice H.ex.a X.ex.length H.ex.cap,.slice H.la.a X.la.length H.la.cap,.int .i64 z',.int .i64 0]∧wr.heap[w.heap.size]? =some (.cells #[.slice none 0 0,.slice none 0 0,.slice none 0 0,.slice none 0 0,.slice none 0 0] 54 (0,0)))
  case atStart=>exact⟨.ok zcd,S0,zcd,-1,zad _,rfl,fun _=>by show D.length-0<D.length+1;omega,an.out.alloc _,ae.out.alloc ae.out.size _,Bx.new an.out _,(Below.heap_alloc _ _ _ (by omega)).trans HG.out⟩
  case round=>
   obtain⟨x2,S2,K,z2,i2,e2,l2,m2,t2,X0,G2⟩:=hrel
   have ah:=zc i2
   have ag:=zc e2
   have av:=zc l2
   have z:=zc m2
   have ac:=zc t2
   have L:=zc X0
   have J:=zc G2
   have aD:K.pos≤D.length:=m2.inv.pos
   obtain⟨a0,a1,a2,a3,a4,a5,a6,a7,a8,a9,aa,ab,af⟩:=X0.box
   clear i2 e2 l2 m2 t2 X0 G2
   by_cases hz:z2<0
   ·have dz:decide (z2<0)=true:=decide_eq_true hz
    obtain⟨rfl,rfl⟩:=zaK ah.out hz
    by_cases hp:K.pos<D.length
    ·have aC:=av.out hz
     go_wp2_with fail
     refine (ztb ⟨D,s.size,q⟩ g O (w.heap.size+1) S2 K _ z.out).mono ?_
     rintro e w3 ⟨S3,q3,z3,rfl,i3,m3,s3⟩
     have ay:=zc m3
     have ap:=zc i3
     have Z:Hid (Below (w.heap.size+1) wr w3):=s3.under z.out.base z.out.own
     have V:Hid (Bx g S3 w3 Y.heap.size _):=L.out.stp s3
     have ax:Hid (Below w.heap.size w w3):=ac.out.trans (Z.out.mono (by omega))
     have ad:Hid (w3.heap[w.heap.size]? =some (.cells #[.slice none 0 0,.slice none 0 0,.slice none 0 0,.slice none 0 0,.slice none 0 0] 54 (0,0))):=(Z.out.block _ (by omega)).trans J.out
     have HE:Hid (bd (zC ⟨D,s.size,q⟩ K) (za2 ⟨D,s.size,q⟩)=za2 ⟨D,s.size,q⟩ zcd):=by
      show _=_
      rw[←ag.out,zB,zgr,if_pos hp]
     have HP:Hid (z3<0→K.pos<q3.pos):=fun h=>zgq (zaK ap.out h).1
     clear i3 m3 s3 a0 a1 a2 a3 a4 a5 a6 a7 a8 a9 aa ab af
     obtain⟨a0,a1,a2,a3,a4,a5,a6,a7,a8,a9,aa,ab,af⟩:=V.out.box
     unfold pv
     go_wp2
     go_roundg (gk-1)
     case rel=>exact⟨_,S3,q3,z3,ap.out,HE.out,fun h=>by have:=HP.out h;omega,ay.out.put V.out _ _ _ _ _ _ _ _ _ _ _ _,zce ax.out (by omega) _ _ _ _ _ _ _ _ _ _ _ _,V.out.put _ _ _ _ _ _ _ _ _ _ _ _,(zfU (by omega) ..).trans ad.out⟩
     case measure=>omega
    ·have HD:Hid (za2 ⟨D,s.size,q⟩ zcd= .ok K):=by
      show _=_
      rw[←ag.out,zB,zgr,if_neg hp]
     have HY:Hid (zbA s q (.ok K)):=⟨_,HR.out,HD.out.symm⟩
     have al:Y.heap.size<wr.heap.size:=L.out.lt
     have aB:=z.out.inv.ep
     have E:=z.out.own.ep
     have Z:=z.out.base
     rcases z.out.own.la.nil_or with ⟨ha,hc,hn⟩|⟨gl,ha⟩
     ·have HN:Hid (K.la=[]):=List.eq_nil_of_length_eq_zero hn
      rw[ha,hc,hn] at a9
      obtain⟨c0,c1,c2,c3,c4,cf⟩:=zj J.out
      clear ha hc hn
      go_wp2_with (at_builtin;refine zog _ rfl _ _ 50 rfl 97 i0 Tryz.underlying50 hi (w.heap.size+1) 4 K.ep.length S2.ep _ (by rfl) E (by rfl) ?_)
      clear E
      go_wp2
      refine bodyPost_ret (zaC rfl _ _ w.heap.size 54 _ (0,0) _ rfl (zdD ((zx (by omega)).trans J.out)) Tryz.underlying54 rfl (by kernel_rfl)) rfl ?_
      refine⟨⟨_,HY.out,S2,by simp[zgs,HN.out],z.out.whole0 HN.out (Nat.lt_succ_self _) L.out.free fun k N h2=>?_⟩,zdR (ac.out.setCell (by show _≤Y.heap.size;omega) _) (Nat.le_refl _) _ _ _ _ _⟩
      rw[zx N,zx N,zx N,zx N,zx N,zx h2]
     ·have am:OwnR wr (w.heap.size+1) 97 4 ⟨some ⟨gl,0,none⟩,S2.la.cap⟩ K.la.length (K.la.flatMap epL):=by have:=z.out.own.la;unfold OwnR at this ⊢;rw[ha] at this;exact this
      rw[ha] at a9
      go_wp2_with (at_builtin;refine zof _ rfl _ _ 50 rfl (w.heap.size+1) 97 i0 _ 4 56 Tryz.underlying50 hi ar az aw rfl (by decide) (by decide) S2.ep K.ep.length _ (by rfl) E gl K.la.length S2.la.cap (w.heap.size+1) _ (by rfl) am (zhC _) (by omega) Z ?_)
      intro r' w3 hr hg ao
      have aA:=zc hr
      have I:=zc hg
      have au:=zc ao
      have aq:=fun b hb=>zet (W:=wr) z.out.own (Nat.le_refl _) (r:=S2.ep.blk) (fun k e=>.inr (.inr (.inl e))) b hb
      have V:Hid (w3.heap[Y.heap.size]? =_):=(hg.block _ al (fun e=>L.out.free (.inr (.inr (.inl e.symm))))).trans L.out.heap
      have ad:Hid (w3.heap[w.heap.size]? =_):=(hg.block _ (by omega) (fun e=>by have:=(E.typed e.symm).1;omega)).trans J.out
      clear a0 a1 a2 a3 a4 a5 a6 a7 a8 a9 aa ab af hr hg ao aq E am
      obtain⟨a0,a1,a2,a3,a4,a5,a6,a7,a8,a9,aa,ab,af⟩:=zar V.out
      obtain⟨c0,c1,c2,c3,c4,cf⟩:=zj ad.out
      go_wp2
      refine bodyPost_ret (zaC rfl _ _ w.heap.size 54 _ (0,0) _ rfl (zdD ((zx (by omega)).trans ad.out)) Tryz.underlying54 rfl (by kernel_rfl)) rfl ?_
      refine⟨⟨_,HY.out,{S2 with ep:=r'},by simp[zgs],z.out.whole I.out aA.out au.out (Nat.lt_succ_self _) al L.out.free fun k N h2=>?_⟩,zdR ((ac.out.trans (Below.mono (B:=w.heap.size+1) ⟨I.out.os,I.out.tape,I.out.output,I.out.size,fun k hk=>I.out.block k (by omega) fun e=>by have:=(z.out.own.ep.typed e.symm).1;omega⟩ (by omega))).setCell (by show _≤Y.heap.size;omega) _) (Nat.le_refl _) _ _ _ _ _⟩
      rw[zx N,zx N,zx N,zx N,zx N,zx h2]
   ·have dz:decide (z2<0)=false:=decide_eq_false hz
    obtain⟨e0,rfl,rfl⟩:=zdG ah.out hz
    have aE:decide ((0:Int)≤(e0:Int))=true:=decide_eq_true (by omega)
    have HY:Hid (zbA s q (.error e0)):=⟨_,HR.out,(show (.error e0:PR)=za2 ⟨D,s.size,q⟩ zcd from ag.out)⟩
    obtain⟨c0,c1,c2,c3,c4,cf⟩:=zj J.out
    go_wp2
    go_region
    all_goals
     go_wp2
     refine bodyPost_ret (zaC rfl _ _ w.heap.size 54 _ (0,0) _ rfl (zdD J.out) Tryz.underlying54 rfl (by kernel_rfl)) rfl ?_
     exact⟨⟨_,HY.out,rfl⟩,(zdR ac.out (Nat.le_refl _) ..).drew⟩
end Go.Proofs.YtgcbmogmniahjaaGreat
