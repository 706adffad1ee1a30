/-
  What spec's l4Import answers: the walks.
  What spec's l4Export answers: the walks.
  What spec's l4Export answers to a list of names: the walks.
  What spec's l4Item answers: the walks.
  What spec's l4Item answers outside of a script: the walks.
  What spec.Parse answers: the walk.
-/
import Derived.Test.YtcidlffeeninbaaGreatClSpecBoxToSpecParseK
namespace Go.Proofs.YtcidlffeeninbaaGreat
set_option maxRecDepth 100000
set_option maxHeartbeats 6400000
open Go.RowKit Go.PlainAid
theorem zdq {C:Cx} {k:Int} {s:ByteArray} {q z:PS} {w:Int} (h:Is (bd (.ok q) (zd C k s)) z w) (A:isT C q.pos k s=true):z=adv q∧w= -1:=by
 rw[zA,zd,if_pos A] at h
 exact h
theorem zf9 {α:Type} (f:α→PS→PR) (l:List α) (e:Nat):zX f l (.error e)= .error e:=by
 induction l with
 |nil=>rfl
 |cons a l h=>exact h
theorem zgB {α:Type} (f:α→PS→PR) (l:List α) (x:PR) {k:Nat} (h:k<l.length):zX f (l.drop k) x=zX f (l.drop (k+1)) (bd x (f (l[k]))):=by
 rw[List.drop_eq_getElem_cons h]
 rfl
theorem zkO {C:Cx} {h:PRN} {L E:PS} {D I:Int} {z A:ByteArray} {G:ByteArray→ByteArray→PS→PR} (J:Is2 h L D z) (w:Is2 (bd (bd (zaR h) (zd C 1 zV)) (zL C)) E I A):
  bd (bd (zaR (bd (bd (zaR h) (zd C 1 zV)) (zL C))) (zd C 4 cSemi)) (G A z)=bd h fun a=>bd (zbf C (zaK C (.ok a.1))) fun b=>G b.2 a.2 b.1:=by
 cases h with
 |error e=>rfl
 |ok a=>
  obtain⟨_,_,rfl⟩:=J
  have K:bd (bd (zaR (.ok a)) (zd C 1 zV)) (zL C)=zaK C (.ok a.1):=rfl
  rw[K] at w ⊢
  rw[zA]
  cases H:zaK C (.ok a.1) with
  |error e=>rfl
  |ok b=>
   rw[H] at w
   obtain⟨_,_,rfl⟩:=w
   show bd (zd C 4 cSemi b.1) (G b.2 a.2)=bd (bd (zd C 4 cSemi b.1) fun q=>.ok (q,b.2)) fun b=>G b.2 a.2 b.1
   rw[zO]
   rfl
def zfA (y:PRL):PR:=bd y fun a=>.ok a.1
theorem Is3.fst {y:PRL} {q:PS} {z:Int} {l:List Ep} (h:Is3 y q z l):Is (zfA y) q z:=by
 cases y with
 |ok a=>exact⟨h.1,h.2.1⟩
 |error e=>exact h
theorem zhR {C:Cx} {y:PRL} {K A:PS} {z H:Int} {l:List Ep} {w:ByteArray} {G:ByteArray→Ep→PS→PR} (I:Is3 y K z l) (h:Is2 (bd (bd (zfA y) (zd C 1 zV)) (zL C)) A H w):
  zX (G w) l (bd (zaR (bd (bd (zfA y) (zd C 1 zV)) (zL C))) (zd C 4 cSemi))=bd y fun a=>bd (zbf C (zaK C (.ok a.1))) fun b=>zX (G b.2) a.2 (.ok b.1):=by
 cases y with
 |error e=>exact zf9 _ _ _
 |ok a=>
  obtain⟨_,_,rfl⟩:=I
  have J:bd (bd (zfA (.ok a)) (zd C 1 zV)) (zL C)=zaK C (.ok a.1):=rfl
  rw[J] at h ⊢
  rw[zA]
  cases E:zaK C (.ok a.1) with
  |error e=>exact zf9 _ _ _
  |ok b=>
   rw[E] at h
   obtain⟨_,_,rfl⟩:=h
   show zX (G b.2) a.2 (bd (zaR (.ok b)) (zd C 4 cSemi))=bd (bd (zd C 4 cSemi b.1) fun q=>.ok (q,b.2)) fun b=>zX (G b.2) a.2 (.ok b.1)
   have D:bd (zaR (.ok b)) (zd C 4 cSemi)=zd C 4 cSemi b.1:=rfl
   rw[D,zO]
   cases zd C 4 cSemi b.1 with
   |error e=>exact zf9 _ _ _
   |ok c=>rfl
theorem Mem.drew {C:Cx} {D A z:Nat} {S:Sv} {q:PS} {w:World} (h:Mem C D A z S q w):Mem C D A z S q w.drew:=⟨⟨h.own.rq,h.own.im,h.own.ep,h.own.st,h.own.ex,h.own.la,h.own.apart⟩,h.inv,h.tok,h.few,h.base⟩
theorem Stp.undrew {S q:Sv} {w z:World} (h:Stp S w.drew q z):Stp S w q z:=⟨h.os,h.tape,h.output,h.size,h.block,h.sub⟩
theorem Row.cells {S:Sv} {w:World} {q B g:Nat} {r:Rw} {l:List Ep} (h:Row S w q B r l) (I:r.a=some ⟨g,0,none⟩) {j:Nat} (H:j<l.length):
  w.cell? ⟨g,j*4+1,none⟩=some (.string (l[j]).name)∧w.cell? ⟨g,j*4+2,none⟩=some (.string (l[j]).loc):=by
 have A:=h.own
 unfold OwnR at A
 rw[I] at A
 have z: ∀(l:List Ep) (i c:Nat) (E:c<4) (D:i<l.length),(l.flatMap epL)[i*4+c]? =(epL l[i])[c]?:=by
  intro l
  induction l with
  |nil=>intro i c _ D;simp at D
  |cons x l J=>
   intro i c E D
   match i with
   |0=>
    simp only[List.flatMap_cons,Nat.zero_mul,Nat.zero_add,List.getElem_cons_zero]
    rw[List.getElem?_append_left (by simp[epL];omega)]
   |i+1=>
    simp only[List.flatMap_cons,List.getElem_cons_succ]
    rw[List.getElem?_append_right (by simp[epL];omega)]
    have e:(i+1)*4+c-(epL x).length=i*4+c:=by simp[epL];omega
    rw[e]
    exact J i c E (by simpa using D)
 rw[A.cellAt _ (by omega),A.cellAt _ (by omega)]
 exact⟨z l j 1 (by omega) H,z l j 2 (by omega) H⟩
theorem zrx {C:Cx} {y:Im} {x:PR} {q q':PS} {z z':Int} (A:z<0→1≤q.pos) (E:Is x q z) (h:Is (bd x (zap C y)) q' z'):z'<0→1≤q'.pos:=by
 intro D
 obtain⟨e,_⟩:=zaG h D
 obtain⟨a,H,w⟩:=zm e
 subst H
 obtain⟨rfl,rfl⟩:=E
 unfold zap at w
 split at w
 ·cases w
 ·cases w
  exact A (by decide)
theorem zhS {C:Cx} {y:Ep} {x:PR} {q q':PS} {z z':Int} (A:z<0→1≤q.pos) (E:Is x q z) (h:Is (bd x (zp C y)) q' z'):z'<0→1≤q'.pos:=by
 intro D
 obtain⟨e,_⟩:=zaG h D
 obtain⟨a,H,w⟩:=zm e
 subst H
 obtain⟨rfl,rfl⟩:=E
 unfold zp at w
 split at w
 ·cases w
 ·split at w
  ·cases w
   exact A (by decide)
  ·cases w
   exact A (by decide)
theorem zry (C:Cx) (A z h:Nat) (S:Sv) (q:PS) (w:World) (hm:Mem C A z h S q w) (hw:isT C q.pos 1 zal=true) (h1:isT C (q.pos+1) 4 zM=false) (h2:isT C (q.pos+1) 4 zy=true):
  Calls Tryz.prog 87 #[pv C A z S q (-1) 0] w (Out C A z h (zba C q) 0 S w):=by
 have HM:=zc hm
 have D:=hm.few
 clear hm
 have HV:Hid (zba C q=bd (bd (bd (bd (.ok (adv q)) (zd C 4 zy)) (zd C 1 sAs)) (zl C false)) fun a=>bd (zbf C (zaK C (.ok a.1))) fun b=>zap C ⟨b.2,zy,a.2⟩ b.1):=by
  show _=_
  rw[zba,zd,if_pos hw,zA]
  rw[zz,h1,h2]
  rfl
 unfold pv
 go_enter Tryz.func87,Tryz.ntmps87
 go_wp2_with fail
 refine (zaM C A z h (.ok q) S q (-1) 0 zal _ (zaa q) ((HM.out.alloc _).alloc _)).mono ?_
 rintro e w1 ⟨S1,I,z1,rfl,N,m1,s1⟩
 have F:=HM.out.fm2 m1 s1
 obtain⟨J,rfl⟩:=zdq N.out hw
 have HQ:=zc J
 have K:Hid (I.pos=q.pos+1):=by show I.pos=q.pos+1;rw[J];rfl
 clear J N
 have L:=F.x0.boxC
 unfold pv
 go_upto_region 2 with fail
 refine (F.put0 ..).cut ?_
 clear L
 intro w2 F
 have L:=F.x0.boxC
 go_wp2_with fail
 refine (zj C A z h S1 I (-1) 0 4 zM _ F.m.tok D (by decide)).mono ?_
 rintro e w3 ⟨rfl,an⟩
 rw[K.out,h1]
 replace F:=F.below an
 clear L
 have L:=F.x0.boxC
 go_wp2_with fail
 refine (zj C A z h S1 I (-1) 0 4 zy _ F.m.tok D (by decide)).mono ?_
 rintro e w4 ⟨rfl,ak⟩
 rw[K.out,h2]
 replace F:=F.below ak
 clear L
 have L:=F.x0.boxC
 clear K
 go_wp2_with fail
 refine (zai C A z h (.ok I) S1 I (-1) 0 zy _ (zaa I) F.m).mono ?_
 rintro e w5 ⟨S5,q5,z5,rfl,al,m5,s5⟩
 replace F:=F.stp m5 s5
 clear L
 go_wp2_with fail
 refine (zaM C A z h _ S5 q5 z5 0 sAs _ al.out F.m).mono ?_
 rintro e w6 ⟨S6,q6,z6,rfl,ac,m6,s6⟩
 replace F:=F.stp m6 s6
 go_wp2_with fail
 refine (zbl C A z h _ S6 q6 z6 0 false _ ac.out F.m).mono ?_
 rintro e w7 ⟨S7,q7,z7,n7,rfl,U,m7,s7⟩
 replace F:=F.stp m7 s7
 have aq:w.heap.size+1<w7.heap.size:=F.x1.lt
 unfold pv
 go_upto_region 13 with fail
 refine (F.new2 _).cut ?_
 intro w8 F
 have cb:=F.x2.boxC
 go_wp2_with fail
 refine (zaM C A z h _ S7 q7 z7 0 zV _ U.out.fst F.m).mono ?_
 rintro e w9 ⟨S9,q9,z9,rfl,af,m9,s9⟩
 replace F:=F.stp m9 s9
 clear cb
 go_wp2_with fail
 refine (zeq C A z h _ S9 q9 z9 0 _ af.out F.m).mono ?_
 rintro e O ⟨ad,aj,ae,ah,rfl,E,am,ai⟩
 replace F:=F.stp am ai
 have ar:w.heap.size+1<O.heap.size:=F.x1.lt
 have V:w7.heap.size<O.heap.size:=F.x2.lt
 unfold pv
 go_upto_region 14 with fail
 refine (F.new3 _).cut ?_
 intro ax F
 have db:=F.x3.boxC
 go_wp2_with fail
 refine (zai C A z h _ ad aj ae 0 cSemi _ E.out.fst F.m).mono ?_
 rintro e au ⟨Z,X,ao,rfl,H,Y,ag⟩
 replace F:=F.stp Y ag
 clear db
 go_wp2_with fail
 refine (zho C A z h _ Z X ao 0 ⟨ah,zy,n7⟩ _ H.out F.m (zbu H.out)).mono ?_
 rintro e aw ⟨av,az,ay,rfl,M,aa,ap⟩
 replace F:=F.stp aa ap
 have bb:=F.x1.boxC
 unfold pv
 go_wp2
 refine bodyPost_ret (results_cell_row rfl _ _ (w.heap.size+1) 101 _ (0,0) _ rfl ((F.x1.put ..)).heap Tryz.underlying101 rfl (by kernel_rfl)) rfl ?_
 rw[HV.out,←HQ.out,←zkO (G:=fun b a=>zap C ⟨b,zy,a⟩) U.out E.out]
 exact zac rfl M.out (F.put1 ..).m (F.put1 ..).t
theorem zrz (C:Cx) (A z h:Nat) (S:Sv) (q:PS) (w:World) (hm:Mem C A z h S q w) (hw:isT C q.pos 1 zal=true) (h1:isT C (q.pos+1) 4 zM=false) (h2:isT C (q.pos+1) 4 zy=false) (h3:zG C (q.pos+1) false=true):
  Calls Tryz.prog 87 #[pv C A z S q (-1) 0] w (Out C A z h (zba C q) 0 S w):=by
 have HM:=zc hm
 have D:=hm.few
 clear hm
 have HV:Hid (zba C q=bd (bd (.ok (adv q)) (zl C false)) fun a=>bd (zbf C (zaK C (.ok a.1))) fun b=>zap C ⟨b.2,sDefault,a.2⟩ b.1):=by
  show _=_
  rw[zba,zd,if_pos hw,zA]
  rw[zz,h1,h2,h3]
  rfl
 unfold pv
 go_enter Tryz.func87,Tryz.ntmps87
 go_wp2_with fail
 refine (zaM C A z h (.ok q) S q (-1) 0 zal _ (zaa q) ((HM.out.alloc _).alloc _)).mono ?_
 rintro e w1 ⟨V,J,z1,rfl,O,m1,s1⟩
 have F:=HM.out.fm2 m1 s1
 obtain⟨K,rfl⟩:=zdq O.out hw
 have HQ:=zc K
 have E:Hid (J.pos=q.pos+1):=by show J.pos=q.pos+1;rw[K];rfl
 clear K O
 have H:=F.x0.boxC
 unfold pv
 go_upto_region 2 with fail
 refine (F.put0 ..).cut ?_
 clear H
 intro w2 F
 have H:=F.x0.boxC
 go_wp2_with fail
 refine (zj C A z h V J (-1) 0 4 zM _ F.m.tok D (by decide)).mono ?_
 rintro e w3 ⟨rfl,aa⟩
 rw[E.out,h1]
 replace F:=F.below aa
 clear H
 have H:=F.x0.boxC
 go_wp2_with fail
 refine (zj C A z h V J (-1) 0 4 zy _ F.m.tok D (by decide)).mono ?_
 rintro e w4 ⟨rfl,ah⟩
 rw[E.out,h2]
 replace F:=F.below ah
 clear H
 have H:=F.x0.boxC
 go_wp2_with fail
 refine (zgb C A z h V J (-1) 0 false _ F.m.tok D).mono ?_
 rintro e w5 ⟨rfl,ae⟩
 rw[E.out,h3]
 replace F:=F.below ae
 clear H
 have H:=F.x0.boxC
 clear E
 go_wp2_with fail
 refine (zbl C A z h (.ok J) V J (-1) 0 false _ (zaa J) F.m).mono ?_
 rintro e w6 ⟨S6,q6,z6,n6,rfl,N,m6,s6⟩
 replace F:=F.stp m6 s6
 clear H
 have ak:w.heap.size+1<w6.heap.size:=F.x1.lt
 unfold pv
 go_upto_region 17 with fail
 refine (F.new2 _).cut ?_
 intro w7 F
 have cb:=F.x2.boxC
 go_wp2_with fail
 refine (zaM C A z h _ S6 q6 z6 0 zV _ N.out.fst F.m).mono ?_
 rintro e w8 ⟨S8,q8,z8,rfl,af,m8,s8⟩
 replace F:=F.stp m8 s8
 clear cb
 go_wp2_with fail
 refine (zeq C A z h _ S8 q8 z8 0 _ af.out F.m).mono ?_
 rintro e w9 ⟨S9,q9,z9,n9,rfl,L,m9,s9⟩
 replace F:=F.stp m9 s9
 have aj:w.heap.size+1<w9.heap.size:=F.x1.lt
 have U:w6.heap.size<w9.heap.size:=F.x2.lt
 unfold pv
 go_upto_region 18 with fail
 refine (F.new3 _).cut ?_
 intro an F
 have db:=F.x3.boxC
 go_wp2_with fail
 refine (zai C A z h _ S9 q9 z9 0 cSemi _ L.out.fst F.m).mono ?_
 rintro e am ⟨ai,ag,X,rfl,I,ad,Y⟩
 replace F:=F.stp ad Y
 clear db
 go_wp2_with fail
 refine (zho C A z h _ ai ag X 0 ⟨n9,sDefault,n6⟩ _ I.out F.m (zbu I.out)).mono ?_
 rintro e aq ⟨ao,al,ap,rfl,M,Z,ac⟩
 replace F:=F.stp Z ac
 have bb:=F.x1.boxC
 unfold pv
 go_wp2
 refine bodyPost_ret (results_cell_row rfl _ _ (w.heap.size+1) 101 _ (0,0) _ rfl ((F.x1.put ..)).heap Tryz.underlying101 rfl (by kernel_rfl)) rfl ?_
 rw[HV.out,←HQ.out,←zkO (G:=fun b a=>zap C ⟨b,sDefault,a⟩) N.out L.out]
 exact zac rfl M.out (F.put1 ..).m (F.put1 ..).t
theorem zr0 (C:Cx) (H z h:Nat) (S:Sv) (q:PS) (w:World) (V:Mem C H z h S q w) (hw:isT C q.pos 1 zal=true) (h1:isT C (q.pos+1) 4 zM=false) (Y:isT C (q.pos+1) 4 zy=false) (h3:zG C (q.pos+1) false=false):
  Calls Tryz.prog 87 #[pv C H z S q (-1) 0] w (Out C H z h (zba C q) 0 S w):=by
 have HM:=zc V
 have A:=V.few
 clear V
 have HV:Hid (zba C q=bd (bd (.ok (adv q)) (zL C)) fun a=>zd C 4 cSemi a.1):=by
  show _=_
  rw[zba,zd,if_pos hw,zA]
  rw[zz,h1,Y,h3]
  rfl
 unfold pv
 go_enter Tryz.func87,Tryz.ntmps87
 go_wp2_with fail
 refine (zaM C H z h (.ok q) S q (-1) 0 zal _ (zaa q) ((HM.out.alloc _).alloc _)).mono ?_
 rintro e w1 ⟨M,I,z1,rfl,L,m1,s1⟩
 have F:=HM.out.fm2 m1 s1
 obtain⟨J,rfl⟩:=zdq L.out hw
 have HQ:=zc J
 have D:Hid (I.pos=q.pos+1):=by show I.pos=q.pos+1;rw[J];rfl
 clear J L
 have E:=F.x0.boxC
 unfold pv
 go_upto_region 2 with fail
 refine (F.put0 ..).cut ?_
 clear E
 intro w2 F
 have E:=F.x0.boxC
 go_wp2_with fail
 refine (zj C H z h M I (-1) 0 4 zM _ F.m.tok A (by decide)).mono ?_
 rintro e w3 ⟨rfl,N⟩
 rw[D.out,h1]
 replace F:=F.below N
 clear E
 have E:=F.x0.boxC
 go_wp2_with fail
 refine (zj C H z h M I (-1) 0 4 zy _ F.m.tok A (by decide)).mono ?_
 rintro e w4 ⟨rfl,X⟩
 rw[D.out,Y]
 replace F:=F.below X
 clear E
 have E:=F.x0.boxC
 go_wp2_with fail
 refine (zgb C H z h M I (-1) 0 false _ F.m.tok A).mono ?_
 rintro e w5 ⟨rfl,O⟩
 rw[D.out,h3]
 replace F:=F.below O
 clear E
 have E:=F.x0.boxC
 clear D
 go_wp2_with fail
 refine (zeq C H z h (.ok I) M I (-1) 0 _ (zaa I) F.m).mono ?_
 rintro e w6 ⟨S6,q6,z6,n6,rfl,K,m6,s6⟩
 replace F:=F.stp m6 s6
 clear E
 have Z:w.heap.size+1<w6.heap.size:=F.x1.lt
 unfold pv
 go_upto_region 20 with fail
 refine (F.new2 _).cut ?_
 intro w7 F
 have cb:=F.x2.boxC
 go_wp2_with fail
 refine (zai C H z h _ S6 q6 z6 0 cSemi _ K.out.fst F.m).mono ?_
 rintro e w8 ⟨S8,q8,z8,rfl,U,m8,s8⟩
 replace F:=F.stp m8 s8
 clear cb
 have bb:=F.x1.boxC
 unfold pv
 go_wp2
 refine bodyPost_ret (results_cell_row rfl _ _ (w.heap.size+1) 101 _ (0,0) _ rfl ((F.x1.put ..)).heap Tryz.underlying101 rfl (by kernel_rfl)) rfl ?_
 rw[HV.out,←HQ.out,←K.out.bind (fun q _=>zd C 4 cSemi q)]
 exact zac rfl U.out (F.put1 ..).m (F.put1 ..).t
theorem zr1 (C:Cx) (E z h:Nat) (S:Sv) (q:PS) (w:World) (hm:Mem C E z h S q w) (hw:isT C q.pos 1 zal=true) (h1:isT C (q.pos+1) 4 zM=true):
  Calls Tryz.prog 87 #[pv C E z S q (-1) 0] w (Out C E z h (zba C q) 0 S w):=by
 have HM:=zc hm
 have Y:=hm.few
 clear hm
 have HV:Hid (zba C q=bd (zcZ C false (adv q)) fun a=>bd (zbf C (zaK C (.ok a.1))) fun b=>zX (fun e=>zap C (zbZ b.2 e)) a.2 (.ok b.1)):=by
  show _=_
  rw[zba,zd,if_pos hw,zA]
  rw[zz,h1]
  rfl
 unfold pv
 go_enter Tryz.func87,Tryz.ntmps87
 go_wp2_with fail
 refine (zaM C E z h (.ok q) S q (-1) 0 zal _ (zaa q) ((HM.out.alloc _).alloc _)).mono ?_
 rintro e w1 ⟨S1,q1,z1,rfl,ae,m1,s1⟩
 have F:=HM.out.fm2 m1 s1
 obtain⟨M,rfl⟩:=zdq ae.out hw
 have HQ:=zc M
 have ac:Hid (q1.pos=q.pos+1):=by show q1.pos=q.pos+1;rw[M];rfl
 clear M ae
 have I:=F.x0.boxC
 unfold pv
 go_upto_region 2 with fail
 refine (F.put0 ..).cut ?_
 clear I
 intro w2 F
 have I:=F.x0.boxC
 go_wp2_with fail
 refine (zj C E z h S1 q1 (-1) 0 4 zM _ F.m.tok Y (by decide)).mono ?_
 rintro e w3 ⟨rfl,aw⟩
 rw[ac.out,h1]
 replace F:=F.below aw
 clear I
 have I:=F.x0.boxC
 clear ac
 have ap:=F.t.size
 go_wp2_with fail
 refine (zkA C E z h S1 q1 0 false _ F.m).mono ?_
 rintro e w4 ⟨S4,q4,z4,⟨ra,rc⟩,l,rfl,i4,m4,s4,R0,hl⟩
 obtain⟨g,rfl⟩: ∃g,ra=some ⟨g,0,none⟩:=R0.addr
 replace F:=F.stp m4 s4
 have al:=zc i4
 clear I
 have A:Hid (Row S4 w4 h w.heap.size ⟨some ⟨g,0,none⟩,rc⟩ l):=⟨R0.own,R0.free,fun k hk=>Nat.le_trans ap (R0.new k hk),R0.addr⟩
 clear R0
 have ay:w.heap.size+1<w4.heap.size:=F.x1.lt
 unfold pv
 go_upto_region 4 with fail
 refine (F.new2 _).cutR (RW:=fun W=>Row S4 W h w.heap.size ⟨some ⟨g,0,none⟩,rc⟩ l) (A.out.alloc _) ?_
 clear A
 intro w5 F R0
 have A:=zc R0
 clear R0
 obtain⟨c0,c1,c2,c3,c4,c5,c6,c7,c8,c9,ar,au,cf⟩:=F.x2.box
 go_wp2_with fail
 refine (zaM C E z h _ S4 q4 z4 0 zV _ al.out.fst F.m).mono ?_
 rintro e w6 ⟨S6,q6,z6,rfl,an,m6,s6⟩
 replace A:=zc (A.out.stp s6)
 replace F:=F.stp m6 s6
 clear c0 c1 c2 c3 c4 c5 c6 c7 c8 c9 ar au cf
 go_wp2_with fail
 refine (zeq C E z h _ S6 q6 z6 0 _ an.out F.m).mono ?_
 rintro e w7 ⟨S7,q7,z7,X,rfl,ah,m7,s7⟩
 replace A:=zc (A.out.stp s7)
 replace F:=F.stp m7 s7
 have az:w.heap.size+1<w7.heap.size:=F.x1.lt
 have am:w4.heap.size<w7.heap.size:=F.x2.lt
 unfold pv
 go_upto_region 5 with fail
 refine (F.new3 _).cutR (RW:=fun W=>Row S7 W h w.heap.size ⟨some ⟨g,0,none⟩,rc⟩ l) (A.out.alloc _) ?_
 clear A
 intro w8 F R0
 have A:=zc R0
 clear R0
 obtain⟨d0,d1,d2,d3,d4,d5,d6,d7,d8,d9,U,O,df⟩:=F.x3.box
 go_wp2_with fail
 refine (zai C E z h _ S7 q7 z7 0 cSemi _ ah.out.fst F.m).mono ?_
 rintro e w9 ⟨S9,q9,z9,rfl,H,m9,s9⟩
 replace A:=zc (A.out.stp s9)
 replace F:=F.stp m9 s9
 clear d0 d1 d2 d3 d4 d5 d6 d7 d8 d9 U O df
 have I:=F.x0.boxC
 unfold pv
 go_upto_region 6 with fail
 refine (F.put0 ..).cutR (RW:=fun W=>Row S9 W h w.heap.size ⟨some ⟨g,0,none⟩,rc⟩ l) (A.out.put F.x0 ..) ?_
 clear I
 clear A
 intro af F R0
 have A:=zc R0
 clear R0
 have ax:Hid (_=_):=zhR (G:=fun b e=>zap C (zbZ b e)) al.out ah.out
 go_wp2
 go_loopg [8] l.length (fun k i wr=>∃(j:Nat) (x':PR) (D:Sv) (J:PS) (z':Int),j≤l.length∧i= .int .i64 j∧Is x' J z'∧(z'<0→1≤J.pos)∧zX (fun e=>zap C (zbZ X e)) (l.drop j) x'=zba C q∧l.length-j=k∧Mem C E z h D J wr∧SB w.heap.size S w D wr∧Bx E D wr w.heap.size #[.slice (some ⟨E,0,none⟩) C.ts.length z,.int .i64 J.pos,.int .i64 C.fin,.bool C.scr,.slice D.rq.a J.rq.length D.rq.cap,.slice D.im.a J.im.length D.im.cap,.slice D.ep.a J.ep.length D.ep.cap,.slice D.st.a J.st.length D.st.cap,.slice D.ex.a J.ex.length D.ex.cap,.slice D.la.a J.la.length D.la.cap,.int .i64 z',.int .i64 0]∧Bx E D wr (w.heap.size+1) #[.slice none 0 0,.int .i64 0,.int .i64 0,.bool false,.slice none 0 0,.slice none 0 0,.slice none 0 0,.slice none 0 0,.slice none 0 0,.slice none 0 0,.int .i64 0,.int .i64 0]∧Row D wr h w.heap.size ⟨some ⟨g,0,none⟩,rc⟩ l)
 case atStart=>exact⟨0,_,S9,q9,z9,Nat.zero_le _,rfl,H.out,zbu H.out,by rw[HV.out,←HQ.out];exact ax.out,rfl,F.m,F.t,F.x0,F.x1,A.out⟩
 case round=>
  obtain⟨j,x9,S9,q9,z9,hj,rfl,i9,p9,e9,g9,m9,t9,X0,X1,R0⟩:=hrel
  clear A
  have F:=Fm.of2 X0 X1 m9 t9 (by omega) (by omega) (by omega)
  have H:=zc i9
  have Z:=zc p9
  have ag:=zc e9
  have V:=zc g9
  have A:=zc R0
  clear X0 X1 i9 m9 t9 e9 g9 R0 p9
  by_cases ai:j<l.length
  ·skip
   obtain⟨c1,c2⟩:=A.out.cells (g:=g) rfl ai
   have aA:=A.out.own.lt (g:=g) rfl
   have HX:Hid (∀e,e=l[j]→zX (fun e=>zap C (zbZ X e)) (l.drop (j+1)) (bd x9 (zap C (zbZ X e)))=zba C q):=fun e he=>by rw[he,←ag.out];exact (zgB (fun e=>zap C (zbZ X e)) l x9 ai).symm
   generalize ad:l[j]=el at c1 c2
   have aq:Hid (el=l[j]):=ad.symm
   clear ad
   have I:=F.x0.boxC
   go_upto_region 9 with fail
   go_region_law (first|(go_simp;go_wp2_with (go_at_call 133;refine (zho C E z h x9 S9 q9 z9 0 (zbZ X el) _ H.out F.m.drew Z.out).mono ?_;rintro e af ⟨aa,av,ao,rfl,ak,aj,N⟩;obtain⟨d0,d1,d2,d3,d4,d5,d6,d7,d8,d9,U,O,df⟩:=(F.x0.stp N.undrew).box;unfold pv)))
   all_goals
    clear I d0 d1 d2 d3 d4 d5 d6 d7 d8 d9 U O df
    have L:=zc ak
    have K:Hid (Stp S9 wr aa af):=N.undrew
    replace F:=F.stp aj K.out
    clear ak aj N
    go_wp2
    go_roundg (gk-1)
    case rel=>exact⟨j+1,_,aa,av,ao,by omega,by go_num,L.out,zrx Z.out H.out L.out,HX.out el aq.out,by have:=V.out;omega,F.m.put F.x0 _ _ _ _ _ _ _ _ _ _ _ _,F.t.put (by omega) _ _ _ _ _ _ _ _ _ _ _ _,F.x0.put _ _ _ _ _ _ _ _ _ _ _ _,F.x1.other (by omega) _ _ _ _ _ _ _ _ _ _ _ _,(A.out.stp K.out).put F.x0 _ _ _ _ _ _ _ _ _ _ _ _⟩
    case measure=>have:=V.out;omega
  ·skip
   have I:=F.x0.boxC
   have bb:=F.x1.boxC
   go_wp2
   refine bodyPost_ret (results_cell_row rfl _ _ (w.heap.size+1) 101 _ (0,0) _ rfl ((F.x1.put ..)).heap Tryz.underlying101 rfl (by kernel_rfl)) rfl ?_
   exact zac rfl (show Is (zba C q) q9 z9 from by rw[←ag.out,List.drop_eq_nil_of_le (by omega)];exact H.out) (F.put1 ..).m (F.put1 ..).t
theorem zr2 {C:Cx} {k:Int} {n:ByteArray} {q q':PS} (h:zY C k n q= .ok q'):q'={q with st:=q.st++[⟨k,n,(q.ex.length:Int)-1⟩]}∧q.st.length<80:=by
 unfold zY at h
 split at h
 ·cases h
 ·cases h
  exact⟨rfl,by omega⟩
theorem zkP {C:Cx} {x:PR} {k:Int} {s:ByteArray} {j:Int} {n:ByteArray} {q:PS} {z:Int} (h:Is (bd (bd x (zd C k s)) (zY C j n)) q z):z<0→1≤q.pos:=by
 intro A
 obtain⟨e,_⟩:=zaG h A
 obtain⟨a,w,D⟩:=zm e
 obtain⟨b,_,E⟩:=zm w
 obtain⟨rfl,_⟩:=zbO E
 obtain⟨rfl,_⟩:=zr2 D
 simp[adv]
theorem zkQ {C:Cx} {y:PRN} {G:PR→PR} {k:Int} {s:ByteArray} {j:Int} {q:PS} {z:Int} {n:ByteArray} (h:Is2 (withN y fun x n=>bd (bd (G x) (zd C k s)) (zY C j n)) q z n):z<0→1≤q.pos:=by
 intro D
 cases y with
 |error e=>have:z=(e:Int):=h;omega
 |ok a=>
  have w:Is2 (bd (bd (bd (G (.ok a.1)) (zd C k s)) (zY C j a.2)) fun q=>.ok (q,a.2)) q z n:=h
  cases A:bd (bd (G (.ok a.1)) (zd C k s)) (zY C j a.2) with
  |error e=>rw[A] at w;have:z=(e:Int):=w;omega
  |ok b=>
   rw[A] at w
   obtain⟨rfl,rfl,_⟩:=w
   exact zkP (show Is (bd (bd (G (.ok a.1)) (zd C k s)) (zY C j a.2)) q (-1) by rw[A];exact⟨rfl,rfl⟩) (by decide)
theorem zr3 {C:Cx} {w q:PS} {z:Int} {n:ByteArray} (h:Is2 (zcK C w) q z n):z<0→1≤q.pos:=zkQ (G:=fun x=>bd (bd x (zd C 4 cEq)) (pE C .sum 0)) h
theorem zr4 {C:Cx} {w q:PS} {z:Int} {n:ByteArray} (h:Is2 (fnP C w) q z n):z<0→1≤q.pos:=zkQ (G:=fun x=>bd (bd (bd (bd (bd (bd x (zd C 4 zo)) (zd C 4 za7)) (zd C 4 zM)) (zd C 1 ze2)) (pE C .sum 0)) (zd C 4 cSemi)) h
theorem zr5 {C:Cx} {x:PR} {z:PS} {D:Int} {w:ByteArray} {G:ByteArray→PS→PR} (h:Is2 (bd (bd x (zd C 1 zV)) (zL C)) z D w):
  bd (bd (zaR (bd (bd x (zd C 1 zV)) (zL C))) (zd C 4 cSemi)) (G w)=bd (zbf C (zaK C x)) fun b=>G b.2 b.1:=by
 have E:bd (bd x (zd C 1 zV)) (zL C)=zaK C x:=rfl
 rw[E] at h ⊢
 cases A:zaK C x with
 |error e=>rfl
 |ok b=>
  rw[A] at h
  obtain⟨_,_,rfl⟩:=h
  show bd (zd C 4 cSemi b.1) (G b.2)=bd (bd (zd C 4 cSemi b.1) fun q=>.ok (q,b.2)) fun b=>G b.2 b.1
  rw[zO]
  rfl
theorem zr6 {C:Cx} {y:PRL} {z:PS} {h:Int} {l:List Ep} {f:Ep→PS→PR} {D:PS×List Ep→PR} (E:Is3 y z h l) (A:zaE l=false) (w:(decide (h<0)&&isT C z.pos 1 zV)=false):
  zX f l (bd (zfA y) (zd C 4 cSemi))=bd y fun a=>if !zaE a.2&& !isT C a.1.pos 1 zV then bd (zd C 4 cSemi a.1) fun q=>zX f a.2 (.ok q) else D a:=by
 cases y with
 |error e=>exact zf9 _ _ _
 |ok a=>
  obtain⟨rfl,rfl,rfl⟩:=E
  rw[Bool.and_eq_false_iff] at w
  rw[zA,A,w.resolve_left (by decide)]
  show zX f a.2 (zd C 4 cSemi a.1)=bd (zd C 4 cSemi a.1) fun q=>zX f a.2 (.ok q)
  cases zd C 4 cSemi a.1 with
  |error e=>exact zf9 _ _ _
  |ok c=>rfl
theorem zkR {C:Cx} {y:PRL} {z:PS} {w:Int} {l:List Ep} {D E:PS×List Ep→PR} (A:Is3 y z w l) (q:zaE l=true∨(decide (w<0)&&isT C z.pos 1 zV)=true):
  bd y D=bd y fun a=>if !zaE a.2&& !isT C a.1.pos 1 zV then E a else D a:=by
 cases y with
 |error e=>rfl
 |ok a=>
  obtain⟨rfl,rfl,rfl⟩:=A
  rw[zA,zA]
  rcases q with h|h
  ·rw[h];rfl
  ·rw[Bool.and_eq_true] at h
   rw[h.2,Bool.not_true,Bool.and_false]
   rfl
theorem zr7 (C:Cx) (A z h:Nat) (S:Sv) (q:PS) (w:World) (Y:Mem C A z h S q w) (hw:isT C q.pos 1 zak=true) (h1:isT C (q.pos+1) 4 zM=false) (h2:isT C (q.pos+1) 4 zy=true):
  Calls Tryz.prog 88 #[pv C A z S q (-1) 0] w (Out C A z h (zam C q) 0 S w):=by
 have HM:=zc Y
 have D:=Y.few
 clear Y
 have HV:Hid (zam C q=bd (zbf C (zaK C (bd (.ok (adv q)) (zd C 4 zy)))) fun b=>zp C ⟨3,sNone,sNone,b.2⟩ b.1):=by
  show _=_
  rw[zam,zd,if_pos hw,zA]
  rw[zz,h1,h2]
  rfl
 unfold pv
 go_enter Tryz.func88,Tryz.ntmps88
 go_wp2_with fail
 refine (zaM C A z h (.ok q) S q (-1) 0 zak _ (zaa q) ((HM.out.alloc _).alloc _)).mono ?_
 rintro e w1 ⟨V,I,z1,rfl,N,m1,s1⟩
 have F:=HM.out.fm2 m1 s1
 obtain⟨J,rfl⟩:=zdq N.out hw
 have HQ:=zc J
 have E:Hid (I.pos=q.pos+1):=by show I.pos=q.pos+1;rw[J];rfl
 clear J N
 have H:=F.x0.boxC
 unfold pv
 go_upto_region 2 with fail
 refine (F.put0 ..).cut ?_
 clear H
 intro w2 F
 have H:=F.x0.boxC
 go_wp2_with fail
 refine (zj C A z h V I (-1) 0 4 zM _ F.m.tok D (by decide)).mono ?_
 rintro e w3 ⟨rfl,U⟩
 rw[E.out,h1]
 replace F:=F.below U
 clear H
 have H:=F.x0.boxC
 go_wp2_with fail
 refine (zj C A z h V I (-1) 0 4 zy _ F.m.tok D (by decide)).mono ?_
 rintro e w4 ⟨rfl,aa⟩
 rw[E.out,h2]
 replace F:=F.below aa
 clear H
 have H:=F.x0.boxC
 clear E
 go_wp2_with fail
 refine (zai C A z h (.ok I) V I (-1) 0 zy _ (zaa I) F.m).mono ?_
 rintro e w5 ⟨S5,q5,z5,rfl,ac,m5,s5⟩
 replace F:=F.stp m5 s5
 clear H
 go_wp2_with fail
 refine (zaM C A z h _ S5 q5 z5 0 zV _ ac.out F.m).mono ?_
 rintro e w6 ⟨S6,q6,z6,rfl,Z,m6,s6⟩
 replace F:=F.stp m6 s6
 go_wp2_with fail
 refine (zeq C A z h _ S6 q6 z6 0 _ Z.out F.m).mono ?_
 rintro e w7 ⟨S7,q7,z7,n7,rfl,L,m7,s7⟩
 replace F:=F.stp m7 s7
 have ad:w.heap.size+1<w7.heap.size:=F.x1.lt
 unfold pv
 go_upto_region 20 with fail
 refine (F.new2 _).cut ?_
 intro w8 F
 have cb:=F.x2.boxC
 go_wp2_with fail
 refine (zai C A z h _ S7 q7 z7 0 cSemi _ L.out.fst F.m).mono ?_
 rintro e w9 ⟨S9,q9,z9,rfl,K,m9,s9⟩
 replace F:=F.stp m9 s9
 clear cb
 go_wp2_with fail
 refine (zeb C A z h _ S9 q9 z9 0 ⟨3,sNone,sNone,n7⟩ _ K.out F.m (zbu K.out)).mono ?_
 rintro e ae ⟨ah,ag,af,rfl,M,O,X⟩
 replace F:=F.stp O X
 have bb:=F.x1.boxC
 unfold pv
 go_wp2
 refine bodyPost_ret (results_cell_row rfl _ _ (w.heap.size+1) 101 _ (0,0) _ rfl ((F.x1.put ..)).heap Tryz.underlying101 rfl (by kernel_rfl)) rfl ?_
 rw[HV.out,←HQ.out,←zr5 (G:=fun b=>zp C ⟨3,sNone,sNone,b⟩) L.out]
 exact zac rfl M.out (F.put1 ..).m (F.put1 ..).t
theorem zr8 (C:Cx) (A z h:Nat) (S:Sv) (q:PS) (w:World) (hm:Mem C A z h S q w) (hw:isT C q.pos 1 zak=true) (h1:isT C (q.pos+1) 4 zM=false) (h2:isT C (q.pos+1) 4 zy=false) (h3:isT C (q.pos+1) 1 sDefault=true):
  Calls Tryz.prog 88 #[pv C A z S q (-1) 0] w (Out C A z h (zam C q) 0 S w):=by
 have HM:=zc hm
 have D:=hm.few
 clear hm
 have HV:Hid (zam C q=bd (bd (bd (bd (bd (.ok (adv q)) (zd C 1 sDefault)) (pE C .sum 0)) (zd C 4 cSemi)) (zY C 1 zci)) (zp C ⟨1,sDefault,zci,sNone⟩)):=by
  show _=_
  rw[zam,zd,if_pos hw,zA]
  rw[zz,h1,h2,h3]
  rfl
 unfold pv
 go_enter Tryz.func88,Tryz.ntmps88
 go_wp2_with fail
 refine (zaM C A z h (.ok q) S q (-1) 0 zak _ (zaa q) ((HM.out.alloc _).alloc _)).mono ?_
 rintro e w1 ⟨O,I,z1,rfl,N,m1,s1⟩
 have F:=HM.out.fm2 m1 s1
 obtain⟨K,rfl⟩:=zdq N.out hw
 have HQ:=zc K
 have E:Hid (I.pos=q.pos+1):=by show I.pos=q.pos+1;rw[K];rfl
 clear K N
 have H:=F.x0.boxC
 unfold pv
 go_upto_region 2 with fail
 refine (F.put0 ..).cut ?_
 clear H
 intro w2 F
 have H:=F.x0.boxC
 go_wp2_with fail
 refine (zj C A z h O I (-1) 0 4 zM _ F.m.tok D (by decide)).mono ?_
 rintro e w3 ⟨rfl,Y⟩
 rw[E.out,h1]
 replace F:=F.below Y
 clear H
 have H:=F.x0.boxC
 go_wp2_with fail
 refine (zj C A z h O I (-1) 0 4 zy _ F.m.tok D (by decide)).mono ?_
 rintro e w4 ⟨rfl,ag⟩
 rw[E.out,h2]
 replace F:=F.below ag
 clear H
 have H:=F.x0.boxC
 go_wp2_with fail
 refine (zj C A z h O I (-1) 0 1 sDefault _ F.m.tok D (by decide)).mono ?_
 rintro e w5 ⟨rfl,ae⟩
 rw[E.out,h3]
 replace F:=F.below ae
 clear H
 have H:=F.x0.boxC
 clear E
 go_wp2_with fail
 refine (zaM C A z h (.ok I) O I (-1) 0 sDefault _ (zaa I) F.m).mono ?_
 rintro e w6 ⟨S6,q6,z6,rfl,af,m6,s6⟩
 replace F:=F.stp m6 s6
 clear H
 go_wp2_with fail
 refine (zdp C A z h _ S6 q6 z6 _ af.out F.m).mono ?_
 rintro e w7 ⟨S7,q7,z7,rfl,ac,m7,s7⟩
 replace F:=F.stp m7 s7
 go_wp2_with fail
 refine (zai C A z h _ S7 q7 z7 0 cSemi _ ac.out F.m).mono ?_
 rintro e w8 ⟨S8,q8,z8,rfl,M,m8,s8⟩
 replace F:=F.stp m8 s8
 have ai:w.heap.size+1<w8.heap.size:=F.x1.lt
 unfold pv
 go_upto_region 23 with fail
 refine (F.new2 _).cut ?_
 intro w9 F
 have cb:=F.x2.boxC
 go_wp2_with fail
 refine (zde C A z h _ S8 q8 z8 0 1 zci _ M.out F.m (zbu M.out)).mono ?_
 rintro e al ⟨ah,Z,X,rfl,J,U,ad⟩
 replace F:=F.stp U ad
 clear cb
 go_wp2_with fail
 refine (zeb C A z h _ ah Z X 0 ⟨1,sDefault,zci,sNone⟩ _ J.out F.m (zkP J.out)).mono ?_
 rintro e ak ⟨an,am,aj,rfl,L,aa,V⟩
 replace F:=F.stp aa V
 have bb:=F.x1.boxC
 unfold pv
 go_wp2
 refine bodyPost_ret (results_cell_row rfl _ _ (w.heap.size+1) 101 _ (0,0) _ rfl ((F.x1.put ..)).heap Tryz.underlying101 rfl (by kernel_rfl)) rfl ?_
 rw[HV.out,←HQ.out]
 exact zac rfl L.out (F.put1 ..).m (F.put1 ..).t
theorem zr9 (C:Cx) (H z h:Nat) (S:Sv) (q:PS) (w:World) (X:Mem C H z h S q w) (hw:isT C q.pos 1 zak=true) (h1:isT C (q.pos+1) 4 zM=false) (Z:isT C (q.pos+1) 4 zy=false) (h3:isT C (q.pos+1) 1 sDefault=false) (h4:isT C (q.pos+1) 1 zF=true):
  Calls Tryz.prog 88 #[pv C H z S q (-1) 0] w (Out C H z h (zam C q) 0 S w):=by
 have HM:=zc X
 have A:=X.few
 clear X
 have HV:Hid (zam C q=bd (zcK C (adv q)) fun a=>zp C ⟨1,a.2,a.2,sNone⟩ a.1):=by
  show _=_
  rw[zam,zd,if_pos hw,zA]
  rw[zz,h1,Z,h3,h4]
  rfl
 unfold pv
 go_enter Tryz.func88,Tryz.ntmps88
 go_wp2_with fail
 refine (zaM C H z h (.ok q) S q (-1) 0 zak _ (zaa q) ((HM.out.alloc _).alloc _)).mono ?_
 rintro e w1 ⟨L,I,z1,rfl,M,m1,s1⟩
 have F:=HM.out.fm2 m1 s1
 obtain⟨K,rfl⟩:=zdq M.out hw
 have HQ:=zc K
 have D:Hid (I.pos=q.pos+1):=by show I.pos=q.pos+1;rw[K];rfl
 clear K M
 have E:=F.x0.boxC
 unfold pv
 go_upto_region 2 with fail
 refine (F.put0 ..).cut ?_
 clear E
 intro w2 F
 have E:=F.x0.boxC
 go_wp2_with fail
 refine (zj C H z h L I (-1) 0 4 zM _ F.m.tok A (by decide)).mono ?_
 rintro e w3 ⟨rfl,U⟩
 rw[D.out,h1]
 replace F:=F.below U
 clear E
 have E:=F.x0.boxC
 go_wp2_with fail
 refine (zj C H z h L I (-1) 0 4 zy _ F.m.tok A (by decide)).mono ?_
 rintro e w4 ⟨rfl,Y⟩
 rw[D.out,Z]
 replace F:=F.below Y
 clear E
 have E:=F.x0.boxC
 go_wp2_with fail
 refine (zj C H z h L I (-1) 0 1 sDefault _ F.m.tok A (by decide)).mono ?_
 rintro e w5 ⟨rfl,V⟩
 rw[D.out,h3]
 replace F:=F.below V
 clear E
 have E:=F.x0.boxC
 go_wp2_with fail
 refine (zj C H z h L I (-1) 0 1 zF _ F.m.tok A (by decide)).mono ?_
 rintro e w6 ⟨rfl,N⟩
 rw[D.out,h4]
 replace F:=F.below N
 clear E
 have E:=F.x0.boxC
 clear D
 go_wp2_with fail
 refine (zhP C H z h L I _ F.m).mono ?_
 rintro e w7 ⟨S7,q7,z7,n7,rfl,J,m7,s7⟩
 replace F:=F.stp m7 s7
 clear E
 have aa:w.heap.size+1<w7.heap.size:=F.x1.lt
 unfold pv
 go_upto_region 26 with fail
 refine (F.new2 _).cut ?_
 intro w8 F
 have cb:=F.x2.boxC
 go_wp2_with fail
 refine (zeb C H z h _ S7 q7 z7 0 ⟨1,n7,n7,sNone⟩ _ J.out.fst F.m (zr3 J.out)).mono ?_
 rintro e w9 ⟨S9,q9,z9,rfl,O,m9,s9⟩
 replace F:=F.stp m9 s9
 clear cb
 have bb:=F.x1.boxC
 unfold pv
 go_wp2
 refine bodyPost_ret (results_cell_row rfl _ _ (w.heap.size+1) 101 _ (0,0) _ rfl ((F.x1.put ..)).heap Tryz.underlying101 rfl (by kernel_rfl)) rfl ?_
 rw[HV.out,←HQ.out,←J.out.bind (fun q n=>zp C ⟨1,n,n,sNone⟩ q)]
 exact zac rfl O.out (F.put1 ..).m (F.put1 ..).t
theorem zrA (C:Cx) (H z h:Nat) (S:Sv) (q:PS) (w:World) (hm:Mem C H z h S q w) (hw:isT C q.pos 1 zak=true) (h1:isT C (q.pos+1) 4 zM=false) (h2:isT C (q.pos+1) 4 zy=false) (h3:isT C (q.pos+1) 1 sDefault=false) (h4:isT C (q.pos+1) 1 zF=false) (h5:isT C (q.pos+1) 1 zU=true):
  Calls Tryz.prog 88 #[pv C H z S q (-1) 0] w (Out C H z h (zam C q) 0 S w):=by
 have HM:=zc hm
 have A:=hm.few
 clear hm
 have HV:Hid (zam C q=bd (fnP C (adv q)) fun a=>zp C ⟨1,a.2,a.2,sNone⟩ a.1):=by
  show _=_
  rw[zam,zd,if_pos hw,zA]
  rw[zz,h1,h2,h3,h4,h5]
  rfl
 unfold pv
 go_enter Tryz.func88,Tryz.ntmps88
 go_wp2_with fail
 refine (zaM C H z h (.ok q) S q (-1) 0 zak _ (zaa q) ((HM.out.alloc _).alloc _)).mono ?_
 rintro e w1 ⟨L,I,z1,rfl,N,m1,s1⟩
 have F:=HM.out.fm2 m1 s1
 obtain⟨K,rfl⟩:=zdq N.out hw
 have HQ:=zc K
 have D:Hid (I.pos=q.pos+1):=by show I.pos=q.pos+1;rw[K];rfl
 clear K N
 have E:=F.x0.boxC
 unfold pv
 go_upto_region 2 with fail
 refine (F.put0 ..).cut ?_
 clear E
 intro w2 F
 have E:=F.x0.boxC
 go_wp2_with fail
 refine (zj C H z h L I (-1) 0 4 zM _ F.m.tok A (by decide)).mono ?_
 rintro e w3 ⟨rfl,V⟩
 rw[D.out,h1]
 replace F:=F.below V
 clear E
 have E:=F.x0.boxC
 go_wp2_with fail
 refine (zj C H z h L I (-1) 0 4 zy _ F.m.tok A (by decide)).mono ?_
 rintro e w4 ⟨rfl,aa⟩
 rw[D.out,h2]
 replace F:=F.below aa
 clear E
 have E:=F.x0.boxC
 go_wp2_with fail
 refine (zj C H z h L I (-1) 0 1 sDefault _ F.m.tok A (by decide)).mono ?_
 rintro e w5 ⟨rfl,Z⟩
 rw[D.out,h3]
 replace F:=F.below Z
 clear E
 have E:=F.x0.boxC
 go_wp2_with fail
 refine (zj C H z h L I (-1) 0 1 zF _ F.m.tok A (by decide)).mono ?_
 rintro e w6 ⟨rfl,O⟩
 rw[D.out,h4]
 replace F:=F.below O
 clear E
 have E:=F.x0.boxC
 go_wp2_with fail
 refine (zj C H z h L I (-1) 0 1 zU _ F.m.tok A (by decide)).mono ?_
 rintro e w7 ⟨rfl,X⟩
 rw[D.out,h5]
 replace F:=F.below X
 clear E
 have E:=F.x0.boxC
 clear D
 go_wp2_with fail
 refine (zhQ C H z h L I _ F.m).mono ?_
 rintro e w8 ⟨S8,q8,z8,n8,rfl,J,m8,s8⟩
 replace F:=F.stp m8 s8
 clear E
 have ac:w.heap.size+1<w8.heap.size:=F.x1.lt
 unfold pv
 go_upto_region 29 with fail
 refine (F.new2 _).cut ?_
 intro w9 F
 have cb:=F.x2.boxC
 go_wp2_with fail
 refine (zeb C H z h _ S8 q8 z8 0 ⟨1,n8,n8,sNone⟩ _ J.out.fst F.m (zr4 J.out)).mono ?_
 rintro e ad ⟨ag,af,ae,rfl,M,U,Y⟩
 replace F:=F.stp U Y
 clear cb
 have bb:=F.x1.boxC
 unfold pv
 go_wp2
 refine bodyPost_ret (results_cell_row rfl _ _ (w.heap.size+1) 101 _ (0,0) _ rfl ((F.x1.put ..)).heap Tryz.underlying101 rfl (by kernel_rfl)) rfl ?_
 rw[HV.out,←HQ.out,←J.out.bind (fun q n=>zp C ⟨1,n,n,sNone⟩ q)]
 exact zac rfl M.out (F.put1 ..).m (F.put1 ..).t
theorem zrB (C:Cx) (I z h:Nat) (S:Sv) (q:PS) (w:World) (X:Mem C I z h S q w) (hw:isT C q.pos 1 zak=true) (h1:isT C (q.pos+1) 4 zM=false) (h2:isT C (q.pos+1) 4 zy=false) (h3:isT C (q.pos+1) 1 sDefault=false) (h4:isT C (q.pos+1) 1 zF=false) (Z:isT C (q.pos+1) 1 zU=false):
  Calls Tryz.prog 88 #[pv C I z S q (-1) 0] w (Out C I z h (zam C q) 0 S w):=by
 have HM:=zc X
 have A:=X.few
 clear X
 have HV:Hid (zam C q= .error (zs C (adv q).pos)):=by
  show _=_
  rw[zam,zd,if_pos hw,zA]
  rw[zz,h1,h2,h3,h4,Z]
  rfl
 unfold pv
 go_enter Tryz.func88,Tryz.ntmps88
 go_wp2_with fail
 refine (zaM C I z h (.ok q) S q (-1) 0 zak _ (zaa q) ((HM.out.alloc _).alloc _)).mono ?_
 rintro e w1 ⟨K,H,z1,rfl,L,m1,s1⟩
 have F:=HM.out.fm2 m1 s1
 obtain⟨J,rfl⟩:=zdq L.out hw
 have HQ:=zc J
 have D:Hid (H.pos=q.pos+1):=by show H.pos=q.pos+1;rw[J];rfl
 clear J L
 have E:=F.x0.boxC
 unfold pv
 go_upto_region 2 with fail
 refine (F.put0 ..).cut ?_
 clear E
 intro w2 F
 have E:=F.x0.boxC
 go_wp2_with fail
 refine (zj C I z h K H (-1) 0 4 zM _ F.m.tok A (by decide)).mono ?_
 rintro e w3 ⟨rfl,O⟩
 rw[D.out,h1]
 replace F:=F.below O
 clear E
 have E:=F.x0.boxC
 go_wp2_with fail
 refine (zj C I z h K H (-1) 0 4 zy _ F.m.tok A (by decide)).mono ?_
 rintro e w4 ⟨rfl,Y⟩
 rw[D.out,h2]
 replace F:=F.below Y
 clear E
 have E:=F.x0.boxC
 go_wp2_with fail
 refine (zj C I z h K H (-1) 0 1 sDefault _ F.m.tok A (by decide)).mono ?_
 rintro e w5 ⟨rfl,V⟩
 rw[D.out,h3]
 replace F:=F.below V
 clear E
 have E:=F.x0.boxC
 go_wp2_with fail
 refine (zj C I z h K H (-1) 0 1 zF _ F.m.tok A (by decide)).mono ?_
 rintro e w6 ⟨rfl,M⟩
 rw[D.out,h4]
 replace F:=F.below M
 clear E
 have E:=F.x0.boxC
 go_wp2_with fail
 refine (zj C I z h K H (-1) 0 1 zU _ F.m.tok A (by decide)).mono ?_
 rintro e w7 ⟨rfl,U⟩
 rw[D.out,Z]
 replace F:=F.below U
 clear E
 have E:=F.x0.boxC
 clear D
 go_wp2_with fail
 refine (zdz C I z h K H (-1) 0 _ F.m.tok A).mono ?_
 rintro e w8 ⟨rfl,N⟩
 replace F:=F.below N
 clear E
 have bb:=F.x1.boxC
 unfold pv
 go_wp2
 refine bodyPost_ret (results_cell_row rfl _ _ (w.heap.size+1) 101 _ (0,0) _ rfl ((F.x1.put ..)).heap Tryz.underlying101 rfl (by kernel_rfl)) rfl ?_
 rw[HV.out,←HQ.out]
 exact zac rfl (show Is (.error (zs C H.pos)) H _ from rfl) (F.put1 ..).m (F.put1 ..).t
theorem zrC (C:Cx) (I D h:Nat) (S:Sv) (q:PS) (w:World) (hm:Mem C I D h S q w) (hw:isT C q.pos 1 zak=true) (h1:isT C (q.pos+1) 4 zM=true):
  Calls Tryz.prog 88 #[pv C I D S q (-1) 0] w (Out C I D h (zam C q) 0 S w):=by
 have HM:=zc hm
 have al:=hm.few
 clear hm
 have HV:Hid (zam C q=bd (zcZ C true (adv q)) fun a=>if !zaE a.2&& !isT C a.1.pos 1 zV then bd (zd C 4 cSemi a.1) fun q=>zX (fun e=>zp C (zD e)) a.2 (.ok q) else bd (zbf C (zaK C (.ok a.1))) fun b=>zX (fun e=>zp C (zav b.2 e)) a.2 (.ok b.1)):=by
  show _=_
  rw[zam,zd,if_pos hw,zA]
  rw[zz,h1]
  rfl
 unfold pv
 go_enter Tryz.func88,Tryz.ntmps88
 go_wp2_with fail
 refine (zaM C I D h (.ok q) S q (-1) 0 zak _ (zaa q) ((HM.out.alloc _).alloc _)).mono ?_
 rintro e w1 ⟨S1,q1,z1,rfl,av,m1,s1⟩
 have F:=HM.out.fm2 m1 s1
 obtain⟨aq,rfl⟩:=zdq av.out hw
 have HQ:=zc aq
 have au:Hid (q1.pos=q.pos+1):=by show q1.pos=q.pos+1;rw[aq];rfl
 clear aq av
 have O:=F.x0.boxC
 unfold pv
 go_upto_region 2 with fail
 refine (F.put0 ..).cut ?_
 clear O
 intro w2 F
 have ar:Hid (zam C q=bd (zcZ C true q1) fun a=>if !zaE a.2&& !isT C a.1.pos 1 zV then bd (zd C 4 cSemi a.1) fun q=>zX (fun e=>zp C (zD e)) a.2 (.ok q) else bd (zbf C (zaK C (.ok a.1))) fun b=>zX (fun e=>zp C (zav b.2 e)) a.2 (.ok b.1)):=by show _=_;rw[HQ.out];exact HV.out
 have O:=F.x0.boxC
 go_wp2_with fail
 refine (zj C I D h S1 q1 (-1) 0 4 zM _ F.m.tok al (by decide)).mono ?_
 rintro e w3 ⟨rfl,aB⟩
 rw[au.out,h1]
 replace F:=F.below aB
 clear O
 have O:=F.x0.boxC
 clear au
 have aA:=F.t.size
 go_wp2_with fail
 refine (zkA C I D h S1 q1 0 true _ F.m).mono ?_
 rintro e w4 ⟨S4,q4,z4,⟨ra,rc⟩,l,rfl,i4,m4,s4,R0,hl⟩
 obtain⟨g,rfl⟩: ∃g,ra=some ⟨g,0,none⟩:=R0.addr
 replace F:=F.stp m4 s4
 have ag:=zc i4
 clear O
 have z:Hid (Row S4 w4 h w.heap.size ⟨some ⟨g,0,none⟩,rc⟩ l):=⟨R0.own,R0.free,fun k hk=>Nat.le_trans aA (R0.new k hk),R0.addr⟩
 clear R0
 have aC:w.heap.size+1<w4.heap.size:=F.x1.lt
 unfold pv
 go_upto_region 4 with fail
 refine (F.new2 _).cutR (RW:=fun W=>Row S4 W h w.heap.size ⟨some ⟨g,0,none⟩,rc⟩ l) (z.out.alloc _) ?_
 clear z
 intro w5 F R0
 have z:=zc R0
 clear R0
 cases hA:zaE l with
 |true=>
  skip
  obtain⟨c0,c1,c2,c3,c4,c5,c6,c7,c8,c9,U,V,cf⟩:=F.x2.box
  go_wp2_with fail
  refine (zaM C I D h _ S4 q4 z4 0 zV _ ag.out.fst F.m).mono ?_
  rintro e w6 ⟨S6,q6,z6,rfl,az,m6,s6⟩
  replace z:=zc (z.out.stp s6)
  replace F:=F.stp m6 s6
  clear c0 c1 c2 c3 c4 c5 c6 c7 c8 c9 U V cf
  go_wp2_with fail
  refine (zeq C I D h _ S6 q6 z6 0 _ az.out F.m).mono ?_
  rintro e w7 ⟨S7,q7,z7,n7,rfl,ak,m7,s7⟩
  replace z:=zc (z.out.stp s7)
  replace F:=F.stp m7 s7
  have aw:w.heap.size+1<w7.heap.size:=F.x1.lt
  have ap:w4.heap.size<w7.heap.size:=F.x2.lt
  unfold pv
  go_upto_region 12 with fail
  refine (F.new3 _).cutR (RW:=fun W=>Row S7 W h w.heap.size ⟨some ⟨g,0,none⟩,rc⟩ l) (z.out.alloc _) ?_
  clear z
  intro w8 F R0
  have z:=zc R0
  clear R0
  obtain⟨d0,d1,d2,d3,d4,d5,d6,d7,d8,d9,Y,X,df⟩:=F.x3.box
  go_wp2_with fail
  refine (zai C I D h _ S7 q7 z7 0 cSemi _ ak.out.fst F.m).mono ?_
  rintro e w9 ⟨S9,q9,z9,rfl,J,m9,s9⟩
  replace z:=zc (z.out.stp s9)
  replace F:=F.stp m9 s9
  clear d0 d1 d2 d3 d4 d5 d6 d7 d8 d9 Y X df
  have O:=F.x0.boxC
  unfold pv
  go_upto_region 13 with fail
  refine (F.put0 ..).cutR (RW:=fun W=>Row S9 W h w.heap.size ⟨some ⟨g,0,none⟩,rc⟩ l) (z.out.put F.x0 ..) ?_
  clear O
  clear z
  intro ai F R0
  have z:=zc R0
  clear R0
  have ao:Hid (_=zam C q):=(zhR (G:=fun b e=>zp C (zav b e)) ag.out ak.out).trans ((zkR ag.out (.inl hA)).trans ar.out.symm)
  go_wp2
  go_loopg [9] l.length (fun k i wr=>∃(j:Nat) (x':PR) (A:Sv) (H:PS) (z':Int),j≤l.length∧i= .int .i64 j∧Is x' H z'∧(z'<0→1≤H.pos)∧zX (fun e=>zp C (zav n7 e)) (l.drop j) x'=zam C q∧l.length-j=k∧Mem C I D h A H wr∧SB w.heap.size S w A wr∧Bx I A wr w.heap.size #[.slice (some ⟨I,0,none⟩) C.ts.length D,.int .i64 H.pos,.int .i64 C.fin,.bool C.scr,.slice A.rq.a H.rq.length A.rq.cap,.slice A.im.a H.im.length A.im.cap,.slice A.ep.a H.ep.length A.ep.cap,.slice A.st.a H.st.length A.st.cap,.slice A.ex.a H.ex.length A.ex.cap,.slice A.la.a H.la.length A.la.cap,.int .i64 z',.int .i64 0]∧Bx I A wr (w.heap.size+1) #[.slice none 0 0,.int .i64 0,.int .i64 0,.bool false,.slice none 0 0,.slice none 0 0,.slice none 0 0,.slice none 0 0,.slice none 0 0,.slice none 0 0,.int .i64 0,.int .i64 0]∧Row A wr h w.heap.size ⟨some ⟨g,0,none⟩,rc⟩ l)
  case atStart=>exact⟨0,_,S9,q9,z9,Nat.zero_le _,rfl,J.out,zbu J.out,ao.out,rfl,F.m,F.t,F.x0,F.x1,z.out⟩
  case round=>
   obtain⟨j,x9,S9,q9,z9,hj,rfl,i9,p9,e9,g9,m9,t9,X0,X1,R0⟩:=hrel
   clear z
   have F:=Fm.of2 X0 X1 m9 t9 (by omega) (by omega) (by omega)
   have J:=zc i9
   have aa:=zc p9
   have ad:=zc e9
   have Z:=zc g9
   have z:=zc R0
   clear X0 X1 i9 m9 t9 e9 g9 R0 p9
   by_cases ae:j<l.length
   ·skip
    obtain⟨c1,c2⟩:=z.out.cells (g:=g) rfl ae
    have ay:=z.out.own.lt (g:=g) rfl
    have HX:Hid (∀e,e=l[j]→zX (fun e=>zp C (zav n7 e)) (l.drop (j+1)) (bd x9 (zp C (zav n7 e)))=zam C q):=fun e he=>by rw[he,←ad.out];exact (zgB (fun e=>zp C (zav n7 e)) l x9 ae).symm
    generalize ac:l[j]=el at c1 c2
    have am:Hid (el=l[j]):=ac.symm
    clear ac
    have O:=F.x0.boxC
    go_upto_region 16 with fail
    go_region_law (first|(go_simp;go_wp2_with (go_at_call 135;refine (zeb C I D h x9 S9 q9 z9 0 (zav n7 el) _ J.out F.m.drew aa.out).mono ?_;rintro e ai ⟨M,aj,ah,rfl,af,N,K⟩;obtain⟨d0,d1,d2,d3,d4,d5,d6,d7,d8,d9,Y,X,df⟩:=(F.x0.stp K.undrew).box;unfold pv)))
    all_goals
     clear O d0 d1 d2 d3 d4 d5 d6 d7 d8 d9 Y X df
     have E:=zc af
     have L:Hid (Stp S9 wr M ai):=K.undrew
     replace F:=F.stp N L.out
     clear af N K
     go_wp2
     go_roundg (gk-1)
     case rel=>exact⟨j+1,_,M,aj,ah,by omega,by go_num,E.out,zhS aa.out J.out E.out,HX.out el am.out,by have:=Z.out;omega,F.m.put F.x0 _ _ _ _ _ _ _ _ _ _ _ _,F.t.put (by omega) _ _ _ _ _ _ _ _ _ _ _ _,F.x0.put _ _ _ _ _ _ _ _ _ _ _ _,F.x1.other (by omega) _ _ _ _ _ _ _ _ _ _ _ _,(z.out.stp L.out).put F.x0 _ _ _ _ _ _ _ _ _ _ _ _⟩
     case measure=>have:=Z.out;omega
   ·skip
    have O:=F.x0.boxC
    have bb:=F.x1.boxC
    go_wp2
    refine bodyPost_ret (results_cell_row rfl _ _ (w.heap.size+1) 101 _ (0,0) _ rfl ((F.x1.put ..)).heap Tryz.underlying101 rfl (by kernel_rfl)) rfl ?_
    exact zac rfl (show Is (zam C q) q9 z9 from by rw[←ad.out,List.drop_eq_nil_of_le (by omega)];exact J.out) (F.put1 ..).m (F.put1 ..).t
 |false=>
  cases hF:(decide (z4<0)&&isT C q4.pos 1 zV) with
  |true=>
   obtain⟨c0,c1,c2,c3,c4,c5,c6,c7,c8,c9,U,V,cf⟩:=F.x2.box
   go_wp2_with fail
   refine (zj C I D h S4 q4 z4 0 1 zV _ F.m.tok al (by decide)).mono ?_
   rintro e w6 ⟨rfl,an⟩
   rw[hF]
   replace z:=zc (z.out.below an)
   replace F:=F.below an
   clear c0 c1 c2 c3 c4 c5 c6 c7 c8 c9 U V cf
   obtain⟨c0,c1,c2,c3,c4,c5,c6,c7,c8,c9,U,V,cf⟩:=F.x2.box
   go_wp2_with fail
   refine (zaM C I D h _ S4 q4 z4 0 zV _ ag.out.fst F.m).mono ?_
   rintro e w7 ⟨S7,q7,z7,rfl,ak,m7,s7⟩
   replace z:=zc (z.out.stp s7)
   replace F:=F.stp m7 s7
   clear c0 c1 c2 c3 c4 c5 c6 c7 c8 c9 U V cf
   go_wp2_with fail
   refine (zeq C I D h _ S7 q7 z7 0 _ ak.out F.m).mono ?_
   rintro e w8 ⟨S8,q8,z8,n8,rfl,ax,m8,s8⟩
   replace z:=zc (z.out.stp s8)
   replace F:=F.stp m8 s8
   have aw:w.heap.size+1<w8.heap.size:=F.x1.lt
   have ap:w4.heap.size<w8.heap.size:=F.x2.lt
   unfold pv
   go_upto_region 12 with fail
   refine (F.new3 _).cutR (RW:=fun W=>Row S8 W h w.heap.size ⟨some ⟨g,0,none⟩,rc⟩ l) (z.out.alloc _) ?_
   clear z
   intro w9 F R0
   have z:=zc R0
   clear R0
   obtain⟨d0,d1,d2,d3,d4,d5,d6,d7,d8,d9,Y,X,df⟩:=F.x3.box
   go_wp2_with fail
   refine (zai C I D h _ S8 q8 z8 0 cSemi _ ax.out.fst F.m).mono ?_
   rintro e ai ⟨M,aj,ah,rfl,E,N,K⟩
   replace z:=zc (z.out.stp K)
   replace F:=F.stp N K
   clear d0 d1 d2 d3 d4 d5 d6 d7 d8 d9 Y X df
   have O:=F.x0.boxC
   unfold pv
   go_upto_region 13 with fail
   refine (F.put0 ..).cutR (RW:=fun W=>Row M W h w.heap.size ⟨some ⟨g,0,none⟩,rc⟩ l) (z.out.put F.x0 ..) ?_
   clear O
   clear z
   intro aD F R0
   have z:=zc R0
   clear R0
   have ao:Hid (_=zam C q):=(zhR (G:=fun b e=>zp C (zav b e)) ag.out ax.out).trans ((zkR ag.out (.inr hF)).trans ar.out.symm)
   go_wp2
   go_loopg [9] l.length (fun k i wr=>∃(j:Nat) (x':PR) (A:Sv) (H:PS) (z':Int),j≤l.length∧i= .int .i64 j∧Is x' H z'∧(z'<0→1≤H.pos)∧zX (fun e=>zp C (zav n8 e)) (l.drop j) x'=zam C q∧l.length-j=k∧Mem C I D h A H wr∧SB w.heap.size S w A wr∧Bx I A wr w.heap.size #[.slice (some ⟨I,0,none⟩) C.ts.length D,.int .i64 H.pos,.int .i64 C.fin,.bool C.scr,.slice A.rq.a H.rq.length A.rq.cap,.slice A.im.a H.im.length A.im.cap,.slice A.ep.a H.ep.length A.ep.cap,.slice A.st.a H.st.length A.st.cap,.slice A.ex.a H.ex.length A.ex.cap,.slice A.la.a H.la.length A.la.cap,.int .i64 z',.int .i64 0]∧Bx I A wr (w.heap.size+1) #[.slice none 0 0,.int .i64 0,.int .i64 0,.bool false,.slice none 0 0,.slice none 0 0,.slice none 0 0,.slice none 0 0,.slice none 0 0,.slice none 0 0,.int .i64 0,.int .i64 0]∧Row A wr h w.heap.size ⟨some ⟨g,0,none⟩,rc⟩ l)
   case atStart=>exact⟨0,_,M,aj,ah,Nat.zero_le _,rfl,E.out,zbu E.out,ao.out,rfl,F.m,F.t,F.x0,F.x1,z.out⟩
   case round=>
    obtain⟨j,x9,S9,q9,z9,hj,rfl,i9,p9,e9,g9,m9,t9,X0,X1,R0⟩:=hrel
    clear z
    have F:=Fm.of2 X0 X1 m9 t9 (by omega) (by omega) (by omega)
    have J:=zc i9
    have aa:=zc p9
    have ad:=zc e9
    have Z:=zc g9
    have z:=zc R0
    clear X0 X1 i9 m9 t9 e9 g9 R0 p9
    by_cases ae:j<l.length
    ·skip
     obtain⟨c1,c2⟩:=z.out.cells (g:=g) rfl ae
     have ay:=z.out.own.lt (g:=g) rfl
     have HX:Hid (∀e,e=l[j]→zX (fun e=>zp C (zav n8 e)) (l.drop (j+1)) (bd x9 (zp C (zav n8 e)))=zam C q):=fun e he=>by rw[he,←ad.out];exact (zgB (fun e=>zp C (zav n8 e)) l x9 ae).symm
     generalize ac:l[j]=el at c1 c2
     have am:Hid (el=l[j]):=ac.symm
     clear ac
     have O:=F.x0.boxC
     go_upto_region 16 with fail
     go_region_law (first|(go_simp;go_wp2_with (go_at_call 135;refine (zeb C I D h x9 S9 q9 z9 0 (zav n8 el) _ J.out F.m.drew aa.out).mono ?_;rintro e ai ⟨M,aj,ah,rfl,af,N,K⟩;obtain⟨d0,d1,d2,d3,d4,d5,d6,d7,d8,d9,Y,X,df⟩:=(F.x0.stp K.undrew).box;unfold pv)))
     all_goals
      clear O d0 d1 d2 d3 d4 d5 d6 d7 d8 d9 Y X df
      have E:=zc af
      have L:Hid (Stp S9 wr M ai):=K.undrew
      replace F:=F.stp N L.out
      clear af N K
      go_wp2
      go_roundg (gk-1)
      case rel=>exact⟨j+1,_,M,aj,ah,by omega,by go_num,E.out,zhS aa.out J.out E.out,HX.out el am.out,by have:=Z.out;omega,F.m.put F.x0 _ _ _ _ _ _ _ _ _ _ _ _,F.t.put (by omega) _ _ _ _ _ _ _ _ _ _ _ _,F.x0.put _ _ _ _ _ _ _ _ _ _ _ _,F.x1.other (by omega) _ _ _ _ _ _ _ _ _ _ _ _,(z.out.stp L.out).put F.x0 _ _ _ _ _ _ _ _ _ _ _ _⟩
      case measure=>have:=Z.out;omega
    ·skip
     have O:=F.x0.boxC
     have bb:=F.x1.boxC
     go_wp2
     refine bodyPost_ret (results_cell_row rfl _ _ (w.heap.size+1) 101 _ (0,0) _ rfl ((F.x1.put ..)).heap Tryz.underlying101 rfl (by kernel_rfl)) rfl ?_
     exact zac rfl (show Is (zam C q) q9 z9 from by rw[←ad.out,List.drop_eq_nil_of_le (by omega)];exact J.out) (F.put1 ..).m (F.put1 ..).t
  |false=>
   obtain⟨c0,c1,c2,c3,c4,c5,c6,c7,c8,c9,U,V,cf⟩:=F.x2.box
   go_wp2_with fail
   refine (zj C I D h S4 q4 z4 0 1 zV _ F.m.tok al (by decide)).mono ?_
   rintro e w6 ⟨rfl,an⟩
   rw[hF]
   replace z:=zc (z.out.below an)
   replace F:=F.below an
   clear c0 c1 c2 c3 c4 c5 c6 c7 c8 c9 U V cf
   obtain⟨c0,c1,c2,c3,c4,c5,c6,c7,c8,c9,U,V,cf⟩:=F.x2.box
   go_wp2_with fail
   refine (zai C I D h _ S4 q4 z4 0 cSemi _ ag.out.fst F.m).mono ?_
   rintro e w7 ⟨S7,q7,z7,rfl,ak,m7,s7⟩
   replace z:=zc (z.out.stp s7)
   replace F:=F.stp m7 s7
   clear c0 c1 c2 c3 c4 c5 c6 c7 c8 c9 U V cf
   have O:=F.x0.boxC
   unfold pv
   go_upto_region 6 with fail
   refine (F.put0 ..).cutR (RW:=fun W=>Row S7 W h w.heap.size ⟨some ⟨g,0,none⟩,rc⟩ l) (z.out.put F.x0 ..) ?_
   clear O
   clear z
   intro w8 F R0
   have z:=zc R0
   clear R0
   have ao:Hid (_=zam C q):=(zr6 ag.out hA hF).trans ar.out.symm
   go_wp2
   go_loopg [6] l.length (fun k i wr=>∃(j:Nat) (x':PR) (A:Sv) (H:PS) (z':Int),j≤l.length∧i= .int .i64 j∧Is x' H z'∧(z'<0→1≤H.pos)∧zX (fun e=>zp C (zD e)) (l.drop j) x'=zam C q∧l.length-j=k∧Mem C I D h A H wr∧SB w.heap.size S w A wr∧Bx I A wr w.heap.size #[.slice (some ⟨I,0,none⟩) C.ts.length D,.int .i64 H.pos,.int .i64 C.fin,.bool C.scr,.slice A.rq.a H.rq.length A.rq.cap,.slice A.im.a H.im.length A.im.cap,.slice A.ep.a H.ep.length A.ep.cap,.slice A.st.a H.st.length A.st.cap,.slice A.ex.a H.ex.length A.ex.cap,.slice A.la.a H.la.length A.la.cap,.int .i64 z',.int .i64 0]∧Bx I A wr (w.heap.size+1) #[.slice none 0 0,.int .i64 0,.int .i64 0,.bool false,.slice none 0 0,.slice none 0 0,.slice none 0 0,.slice none 0 0,.slice none 0 0,.slice none 0 0,.int .i64 0,.int .i64 0]∧Row A wr h w.heap.size ⟨some ⟨g,0,none⟩,rc⟩ l)
   case atStart=>exact⟨0,_,S7,q7,z7,Nat.zero_le _,rfl,ak.out,zbu ak.out,ao.out,rfl,F.m,F.t,F.x0,F.x1,z.out⟩
   case round=>
    obtain⟨j,x9,S9,q9,z9,hj,rfl,i9,p9,e9,g9,m9,t9,X0,X1,R0⟩:=hrel
    clear z
    have F:=Fm.of2 X0 X1 m9 t9 (by omega) (by omega) (by omega)
    have J:=zc i9
    have aa:=zc p9
    have ad:=zc e9
    have Z:=zc g9
    have z:=zc R0
    clear X0 X1 i9 m9 t9 e9 g9 R0 p9
    by_cases ae:j<l.length
    ·skip
     obtain⟨c1,c2⟩:=z.out.cells (g:=g) rfl ae
     have ay:=z.out.own.lt (g:=g) rfl
     have HX:Hid (∀e,e=l[j]→zX (fun e=>zp C (zD e)) (l.drop (j+1)) (bd x9 (zp C (zD e)))=zam C q):=fun e he=>by rw[he,←ad.out];exact (zgB (fun e=>zp C (zD e)) l x9 ae).symm
     generalize ac:l[j]=el at c1 c2
     have am:Hid (el=l[j]):=ac.symm
     clear ac
     have O:=F.x0.boxC
     go_upto_region 9 with fail
     go_region_law (first|(go_simp;go_wp2_with (go_at_call 135;refine (zeb C I D h x9 S9 q9 z9 0 (zD el) _ J.out F.m.drew aa.out).mono ?_;rintro e ai ⟨M,aj,ah,rfl,af,N,K⟩;obtain⟨d0,d1,d2,d3,d4,d5,d6,d7,d8,d9,Y,X,df⟩:=(F.x0.stp K.undrew).box;unfold pv)))
     all_goals
      clear O d0 d1 d2 d3 d4 d5 d6 d7 d8 d9 Y X df
      have E:=zc af
      have L:Hid (Stp S9 wr M ai):=K.undrew
      replace F:=F.stp N L.out
      clear af N K
      go_wp2
      go_roundg (gk-1)
      case rel=>exact⟨j+1,_,M,aj,ah,by omega,by go_num,E.out,zhS aa.out J.out E.out,HX.out el am.out,by have:=Z.out;omega,F.m.put F.x0 _ _ _ _ _ _ _ _ _ _ _ _,F.t.put (by omega) _ _ _ _ _ _ _ _ _ _ _ _,F.x0.put _ _ _ _ _ _ _ _ _ _ _ _,F.x1.other (by omega) _ _ _ _ _ _ _ _ _ _ _ _,(z.out.stp L.out).put F.x0 _ _ _ _ _ _ _ _ _ _ _ _⟩
      case measure=>have:=Z.out;omega
    ·skip
     have O:=F.x0.boxC
     have bb:=F.x1.boxC
     go_wp2
     refine bodyPost_ret (results_cell_row rfl _ _ (w.heap.size+1) 101 _ (0,0) _ rfl ((F.x1.put ..)).heap Tryz.underlying101 rfl (by kernel_rfl)) rfl ?_
     exact zac rfl (show Is (zam C q) q9 z9 from by rw[←ad.out,List.drop_eq_nil_of_le (by omega)];exact J.out) (F.put1 ..).m (F.put1 ..).t
theorem zrD (C:Cx) (A z h:Nat) (S:Sv) (q:PS) (w:World) (H:Mem C A z h S q w) (E:isT C q.pos 1 zal=true):
  Calls Tryz.prog 87 #[pv C A z S q (-1) 0] w (Out C A z h (zba C q) 0 S w):=by
 cases D:isT C (q.pos+1) 4 zM with
 |true=>exact zr1 C A z h S q w H E D
 |false=>
  cases I:isT C (q.pos+1) 4 zy with
  |true=>exact zry C A z h S q w H E D I
  |false=>
   cases J:zG C (q.pos+1) false with
   |true=>exact zrz C A z h S q w H E D I J
   |false=>exact zr0 C A z h S q w H E D I J
theorem zrE (C:Cx) (A z h:Nat) (S:Sv) (q:PS) (w:World) (H:Mem C A z h S q w) (E:isT C q.pos 1 zak=true):
  Calls Tryz.prog 88 #[pv C A z S q (-1) 0] w (Out C A z h (zam C q) 0 S w):=by
 cases D:isT C (q.pos+1) 4 zM with
 |true=>exact zrC C A z h S q w H E D
 |false=>
  cases I:isT C (q.pos+1) 4 zy with
  |true=>exact zr7 C A z h S q w H E D I
  |false=>
   cases J:isT C (q.pos+1) 1 sDefault with
   |true=>exact zr8 C A z h S q w H E D I J
   |false=>
    cases K:isT C (q.pos+1) 1 zF with
    |true=>exact zr9 C A z h S q w H E D I J K
    |false=>
     cases L:isT C (q.pos+1) 1 zU with
     |true=>exact zrA C A z h S q w H E D I J K L
     |false=>exact zrB C A z h S q w H E D I J K L
theorem zkS {C:Cx} {x:PR} {n:ByteArray}:bd (bd (bd (bd x (zd C 4 cEq)) (pE C .sum 0)) (zd C 4 cSemi)) (zY C 3 n)=bd x fun q=>bd (bd (bd (bd (.ok q) (zd C 4 cEq)) (pE C .sum 0)) (zd C 4 cSemi)) (zY C 3 n):=by cases x<;>rfl
theorem zrF (D:List Tk) (h:Nat) (I A z:Nat) (S:Sv) (q:PS) (w:World) (J:Mem (Cx.mk D h true) I A z S q w) (M:isT (Cx.mk D h true) q.pos 1 zF=true):
  Calls Tryz.prog 53 #[pv (Cx.mk D h true) I A S q (-1) 0] w (Out (Cx.mk D h true) I A z (zB (Cx.mk D h true) q) 0 S w):=by
 have Z:=zc J
 have E:=J.tok
 have H:(Cx.mk D h true).ts.length≤4000:=J.few
 clear J
 have V:Hid (zB (Cx.mk D h true) q=zaR (zcK (Cx.mk D h true) q)):=by show zB (Cx.mk D h true) q=_;rw[zB,M];rfl
 unfold pv
 go_enter Tryz.func53,Tryz.ntmps53
 go_wp2_with fail
 refine (zj (Cx.mk D h true) I A z S q (-1) 0 1 zF _ (zr (zr E _) _) H (by decide)).mono ?_
 rintro e w1 ⟨rfl,L⟩
 rw[M]
 have F:=Z.out.fm L
 clear E
 have U:=F.x0.boxC
 go_wp2_with fail
 refine (zhP (Cx.mk D h true) I A z S q _ F.m).mono ?_
 rintro e Y ⟨S2,q2,z2,n2,rfl,K,X,O⟩
 replace F:=F.stp X O
 clear U
 have N:w.heap.size+1<Y.heap.size:=F.x1.lt
 unfold pv
 go_upto_region 7 with fail
 refine (F.new2 _).cut ?_
 intro w3 F
 have bb:=F.x1.boxC
 have cb:=F.x2.boxC
 go_wp2
 refine bodyPost_ret (results_cell_row rfl _ _ (w.heap.size+1) 101 _ (0,0) _ rfl ((F.x1.put ..)).heap Tryz.underlying101 rfl (by kernel_rfl)) rfl ?_
 rw[V.out]
 exact zac rfl K.out.fst (F.put1 ..).m (F.put1 ..).t
theorem zrG (D:List Tk) (h:Nat) (I A z:Nat) (S:Sv) (q:PS) (w:World) (J:Mem (Cx.mk D h true) I A z S q w) (O:isT (Cx.mk D h true) q.pos 1 zF=false) (V:isT (Cx.mk D h true) q.pos 1 zU=true):
  Calls Tryz.prog 53 #[pv (Cx.mk D h true) I A S q (-1) 0] w (Out (Cx.mk D h true) I A z (zB (Cx.mk D h true) q) 0 S w):=by
 have HM:=zc J
 have H:=J.tok
 have E:(Cx.mk D h true).ts.length≤4000:=J.few
 clear J
 have HV:Hid (zB (Cx.mk D h true) q=zaR (fnP (Cx.mk D h true) q)):=by show zB (Cx.mk D h true) q=_;rw[zB,O,V];rfl
 unfold pv
 go_enter Tryz.func53,Tryz.ntmps53
 go_wp2_with fail
 refine (zj (Cx.mk D h true) I A z S q (-1) 0 1 zF _ (zr (zr H _) _) E (by decide)).mono ?_
 rintro e w1 ⟨rfl,M⟩
 rw[O]
 have F:=HM.out.fm M
 clear H
 have K:=F.x0.boxC
 go_wp2_with fail
 refine (zj (Cx.mk D h true) I A z S q (-1) 0 1 zU _ F.m.tok E (by decide)).mono ?_
 rintro e w2 ⟨rfl,N⟩
 rw[V]
 replace F:=F.below N
 clear K
 have K:=F.x0.boxC
 go_wp2_with fail
 refine (zhQ (Cx.mk D h true) I A z S q _ F.m).mono ?_
 rintro e Y ⟨S3,q3,z3,n3,rfl,L,Z,X⟩
 replace F:=F.stp Z X
 clear K
 have U:w.heap.size+1<Y.heap.size:=F.x1.lt
 unfold pv
 go_upto_region 10 with fail
 refine (F.new2 _).cut ?_
 intro w4 F
 have bb:=F.x1.boxC
 have cb:=F.x2.boxC
 go_wp2
 refine bodyPost_ret (results_cell_row rfl _ _ (w.heap.size+1) 101 _ (0,0) _ rfl ((F.x1.put ..)).heap Tryz.underlying101 rfl (by kernel_rfl)) rfl ?_
 rw[HV.out]
 exact zac rfl L.out.fst (F.put1 ..).m (F.put1 ..).t
theorem zrH (D:List Tk) (h:Nat) (E A z:Nat) (S:Sv) (q:PS) (w:World) (M:Mem (Cx.mk D h true) E A z S q w) (h0:isT (Cx.mk D h true) q.pos 1 zF=false) (h1:isT (Cx.mk D h true) q.pos 1 zU=false) (h2:isT (Cx.mk D h true) q.pos 1 zay=true):
  Calls Tryz.prog 53 #[pv (Cx.mk D h true) E A S q (-1) 0] w (Out (Cx.mk D h true) E A z (zB (Cx.mk D h true) q) 0 S w):=by
 have HM:=zc M
 have I:=M.tok
 have H:(Cx.mk D h true).ts.length≤4000:=M.few
 clear M
 have HV:Hid (zB (Cx.mk D h true) q=bd (bd (bd (bd (bd (bd (.ok q) (zd (Cx.mk D h true) 1 zay)) (zd (Cx.mk D h true) 4 zo)) (pE (Cx.mk D h true) .sum 0)) (zd (Cx.mk D h true) 4 za7)) (zd (Cx.mk D h true) 4 cSemi)) (zY (Cx.mk D h true) 4 sNone)):=by show zB (Cx.mk D h true) q=_;rw[zB,h0,h1,h2];rfl
 unfold pv
 go_enter Tryz.func53,Tryz.ntmps53
 go_wp2_with fail
 refine (zj (Cx.mk D h true) E A z S q (-1) 0 1 zF _ (zr (zr I _) _) H (by decide)).mono ?_
 rintro e w1 ⟨rfl,Z⟩
 rw[h0]
 have F:=HM.out.fm Z
 clear I
 have J:=F.x0.boxC
 go_wp2_with fail
 refine (zj (Cx.mk D h true) E A z S q (-1) 0 1 zU _ F.m.tok H (by decide)).mono ?_
 rintro e w2 ⟨rfl,ac⟩
 rw[h1]
 replace F:=F.below ac
 clear J
 have J:=F.x0.boxC
 go_wp2_with fail
 refine (zj (Cx.mk D h true) E A z S q (-1) 0 1 zay _ F.m.tok H (by decide)).mono ?_
 rintro e w3 ⟨rfl,O⟩
 rw[h2]
 replace F:=F.below O
 clear J
 have J:=F.x0.boxC
 go_wp2_with fail
 refine (zaM (Cx.mk D h true) E A z (.ok q) S q (-1) 0 zay _ (zaa q) F.m).mono ?_
 rintro e w4 ⟨S4,q4,z4,rfl,X,m4,s4⟩
 replace F:=F.stp m4 s4
 clear J
 go_wp2_with fail
 refine (zai (Cx.mk D h true) E A z _ S4 q4 z4 0 zo _ X.out F.m).mono ?_
 rintro e w5 ⟨S5,q5,z5,rfl,aa,m5,s5⟩
 replace F:=F.stp m5 s5
 go_wp2_with fail
 refine (zdp (Cx.mk D h true) E A z _ S5 q5 z5 _ aa.out F.m).mono ?_
 rintro e w6 ⟨S6,q6,z6,rfl,Y,m6,s6⟩
 replace F:=F.stp m6 s6
 go_wp2_with fail
 refine (zai (Cx.mk D h true) E A z _ S6 q6 z6 0 za7 _ Y.out F.m).mono ?_
 rintro e w7 ⟨S7,q7,z7,rfl,U,m7,s7⟩
 replace F:=F.stp m7 s7
 have ad:w.heap.size+1<w7.heap.size:=F.x1.lt
 unfold pv
 go_upto_region 13 with fail
 refine (F.new2 _).cut ?_
 intro w8 F
 have cb:=F.x2.boxC
 go_wp2_with fail
 refine (zai (Cx.mk D h true) E A z _ S7 q7 z7 0 cSemi _ U.out F.m).mono ?_
 rintro e w9 ⟨S9,q9,z9,rfl,K,m9,s9⟩
 replace F:=F.stp m9 s9
 clear cb
 go_wp2_with fail
 refine (zde (Cx.mk D h true) E A z _ S9 q9 z9 0 4 sNone _ K.out F.m (zbu K.out)).mono ?_
 rintro e ae ⟨ah,ag,af,rfl,L,N,V⟩
 replace F:=F.stp N V
 have bb:=F.x1.boxC
 unfold pv
 go_wp2
 refine bodyPost_ret (results_cell_row rfl _ _ (w.heap.size+1) 101 _ (0,0) _ rfl ((F.x1.put ..)).heap Tryz.underlying101 rfl (by kernel_rfl)) rfl ?_
 rw[HV.out]
 exact zac rfl L.out (F.put1 ..).m (F.put1 ..).t
theorem zrI (D:List Tk) (h:Nat) (H A z:Nat) (S:Sv) (q:PS) (w:World) (L:Mem (Cx.mk D h true) H A z S q w) (Z:isT (Cx.mk D h true) q.pos 1 zF=false) (h1:isT (Cx.mk D h true) q.pos 1 zU=false) (h2:isT (Cx.mk D h true) q.pos 1 zay=false) (h3:isT (Cx.mk D h true) q.pos 1 za9=true):
  Calls Tryz.prog 53 #[pv (Cx.mk D h true) H A S q (-1) 0] w (Out (Cx.mk D h true) H A z (zB (Cx.mk D h true) q) 0 S w):=by
 have HM:=zc L
 have I:=L.tok
 have E:(Cx.mk D h true).ts.length≤4000:=L.few
 clear L
 have HV:Hid (zB (Cx.mk D h true) q=bd (bd (bd (bd (.ok q) (zd (Cx.mk D h true) 1 za9)) (pE (Cx.mk D h true) .sum 0)) (zd (Cx.mk D h true) 4 cSemi)) (zY (Cx.mk D h true) 5 sNone)):=by show zB (Cx.mk D h true) q=_;rw[zB,Z,h1,h2,h3];rfl
 unfold pv
 go_enter Tryz.func53,Tryz.ntmps53
 go_wp2_with fail
 refine (zj (Cx.mk D h true) H A z S q (-1) 0 1 zF _ (zr (zr I _) _) E (by decide)).mono ?_
 rintro e w1 ⟨rfl,V⟩
 rw[Z]
 have F:=HM.out.fm V
 clear I
 have J:=F.x0.boxC
 go_wp2_with fail
 refine (zj (Cx.mk D h true) H A z S q (-1) 0 1 zU _ F.m.tok E (by decide)).mono ?_
 rintro e w2 ⟨rfl,Y⟩
 rw[h1]
 replace F:=F.below Y
 clear J
 have J:=F.x0.boxC
 go_wp2_with fail
 refine (zj (Cx.mk D h true) H A z S q (-1) 0 1 zay _ F.m.tok E (by decide)).mono ?_
 rintro e w3 ⟨rfl,M⟩
 rw[h2]
 replace F:=F.below M
 clear J
 have J:=F.x0.boxC
 go_wp2_with fail
 refine (zj (Cx.mk D h true) H A z S q (-1) 0 1 za9 _ F.m.tok E (by decide)).mono ?_
 rintro e w4 ⟨rfl,U⟩
 rw[h3]
 replace F:=F.below U
 clear J
 have J:=F.x0.boxC
 go_wp2_with fail
 refine (zaM (Cx.mk D h true) H A z (.ok q) S q (-1) 0 za9 _ (zaa q) F.m).mono ?_
 rintro e w5 ⟨S5,q5,z5,rfl,X,m5,s5⟩
 replace F:=F.stp m5 s5
 clear J
 go_wp2_with fail
 refine (zdp (Cx.mk D h true) H A z _ S5 q5 z5 _ X.out F.m).mono ?_
 rintro e w6 ⟨S6,q6,z6,rfl,O,m6,s6⟩
 replace F:=F.stp m6 s6
 go_wp2_with fail
 refine (zai (Cx.mk D h true) H A z _ S6 q6 z6 0 cSemi _ O.out F.m).mono ?_
 rintro e w7 ⟨S7,q7,z7,rfl,K,m7,s7⟩
 replace F:=F.stp m7 s7
 go_wp2_with fail
 refine (zde (Cx.mk D h true) H A z _ S7 q7 z7 0 5 sNone _ K.out F.m (zbu K.out)).mono ?_
 rintro e w8 ⟨S8,q8,z8,rfl,N,m8,s8⟩
 replace F:=F.stp m8 s8
 have bb:=F.x1.boxC
 unfold pv
 go_wp2
 refine bodyPost_ret (results_cell_row rfl _ _ (w.heap.size+1) 101 _ (0,0) _ rfl ((F.x1.put ..)).heap Tryz.underlying101 rfl (by kernel_rfl)) rfl ?_
 rw[HV.out]
 exact zac rfl N.out (F.put1 ..).m (F.put1 ..).t
theorem zrJ (D:List Tk) (h:Nat) (H A z:Nat) (S:Sv) (q:PS) (w:World) (L:Mem (Cx.mk D h true) H A z S q w) (h0:isT (Cx.mk D h true) q.pos 1 zF=false) (h1:isT (Cx.mk D h true) q.pos 1 zU=false) (h2:isT (Cx.mk D h true) q.pos 1 zay=false) (h3:isT (Cx.mk D h true) q.pos 1 za9=false) (h4:isT (Cx.mk D h true) q.pos 1 zbM=true):
  Calls Tryz.prog 53 #[pv (Cx.mk D h true) H A S q (-1) 0] w (Out (Cx.mk D h true) H A z (zB (Cx.mk D h true) q) 0 S w):=by
 have HM:=zc L
 have J:=L.tok
 have E:(Cx.mk D h true).ts.length≤4000:=L.few
 clear L
 have HV:Hid (zB (Cx.mk D h true) q=bd (bd (bd (bd (.ok q) (zd (Cx.mk D h true) 1 zbM)) (pE (Cx.mk D h true) .sum 0)) (zd (Cx.mk D h true) 4 cSemi)) (zY (Cx.mk D h true) 6 sNone)):=by show zB (Cx.mk D h true) q=_;rw[zB,h0,h1,h2,h3,h4];rfl
 unfold pv
 go_enter Tryz.func53,Tryz.ntmps53
 go_wp2_with fail
 refine (zj (Cx.mk D h true) H A z S q (-1) 0 1 zF _ (zr (zr J _) _) E (by decide)).mono ?_
 rintro e w1 ⟨rfl,Y⟩
 rw[h0]
 have F:=HM.out.fm Y
 clear J
 have I:=F.x0.boxC
 go_wp2_with fail
 refine (zj (Cx.mk D h true) H A z S q (-1) 0 1 zU _ F.m.tok E (by decide)).mono ?_
 rintro e w2 ⟨rfl,Z⟩
 rw[h1]
 replace F:=F.below Z
 clear I
 have I:=F.x0.boxC
 go_wp2_with fail
 refine (zj (Cx.mk D h true) H A z S q (-1) 0 1 zay _ F.m.tok E (by decide)).mono ?_
 rintro e w3 ⟨rfl,N⟩
 rw[h2]
 replace F:=F.below N
 clear I
 have I:=F.x0.boxC
 go_wp2_with fail
 refine (zj (Cx.mk D h true) H A z S q (-1) 0 1 za9 _ F.m.tok E (by decide)).mono ?_
 rintro e w4 ⟨rfl,X⟩
 rw[h3]
 replace F:=F.below X
 clear I
 have I:=F.x0.boxC
 go_wp2_with fail
 refine (zj (Cx.mk D h true) H A z S q (-1) 0 1 zbM _ F.m.tok E (by decide)).mono ?_
 rintro e w5 ⟨rfl,U⟩
 rw[h4]
 replace F:=F.below U
 clear I
 have I:=F.x0.boxC
 go_wp2_with fail
 refine (zaM (Cx.mk D h true) H A z (.ok q) S q (-1) 0 zbM _ (zaa q) F.m).mono ?_
 rintro e w6 ⟨S6,q6,z6,rfl,V,m6,s6⟩
 replace F:=F.stp m6 s6
 clear I
 go_wp2_with fail
 refine (zdp (Cx.mk D h true) H A z _ S6 q6 z6 _ V.out F.m).mono ?_
 rintro e w7 ⟨S7,q7,z7,rfl,O,m7,s7⟩
 replace F:=F.stp m7 s7
 go_wp2_with fail
 refine (zai (Cx.mk D h true) H A z _ S7 q7 z7 0 cSemi _ O.out F.m).mono ?_
 rintro e w8 ⟨S8,q8,z8,rfl,K,m8,s8⟩
 replace F:=F.stp m8 s8
 go_wp2_with fail
 refine (zde (Cx.mk D h true) H A z _ S8 q8 z8 0 6 sNone _ K.out F.m (zbu K.out)).mono ?_
 rintro e w9 ⟨S9,q9,z9,rfl,M,m9,s9⟩
 replace F:=F.stp m9 s9
 have bb:=F.x1.boxC
 unfold pv
 go_wp2
 refine bodyPost_ret (results_cell_row rfl _ _ (w.heap.size+1) 101 _ (0,0) _ rfl ((F.x1.put ..)).heap Tryz.underlying101 rfl (by kernel_rfl)) rfl ?_
 rw[HV.out]
 exact zac rfl M.out (F.put1 ..).m (F.put1 ..).t
theorem zrK (A:List Tk) (h:Nat) (H D z:Nat) (S:Sv) (q:PS) (w:World) (N:Mem (Cx.mk A h true) H D z S q w) (h0:isT (Cx.mk A h true) q.pos 1 zF=false) (h1:isT (Cx.mk A h true) q.pos 1 zU=false) (h2:isT (Cx.mk A h true) q.pos 1 zay=false) (h3:isT (Cx.mk A h true) q.pos 1 za9=false) (h4:isT (Cx.mk A h true) q.pos 1 zbM=false):
  Calls Tryz.prog 53 #[pv (Cx.mk A h true) H D S q (-1) 0] w (Out (Cx.mk A h true) H D z (zB (Cx.mk A h true) q) 0 S w):=by
 have HM:=zc N
 have J:=N.tok
 have E:(Cx.mk A h true).ts.length≤4000:=N.few
 clear N
 have HV:Hid (zB (Cx.mk A h true) q=bd (bd (.ok q) (zl (Cx.mk A h true) false)) fun a=>bd (bd (bd (bd (.ok a.1) (zd (Cx.mk A h true) 4 cEq)) (pE (Cx.mk A h true) .sum 0)) (zd (Cx.mk A h true) 4 cSemi)) (zY (Cx.mk A h true) 3 a.2)):=by show zB (Cx.mk A h true) q=_;rw[zB,h0,h1,h2,h3,h4];rfl
 unfold pv
 go_enter Tryz.func53,Tryz.ntmps53
 go_wp2_with fail
 refine (zj (Cx.mk A h true) H D z S q (-1) 0 1 zF _ (zr (zr J _) _) E (by decide)).mono ?_
 rintro e w1 ⟨rfl,ag⟩
 rw[h0]
 have F:=HM.out.fm ag
 clear J
 have I:=F.x0.boxC
 go_wp2_with fail
 refine (zj (Cx.mk A h true) H D z S q (-1) 0 1 zU _ F.m.tok E (by decide)).mono ?_
 rintro e w2 ⟨rfl,ah⟩
 rw[h1]
 replace F:=F.below ah
 clear I
 have I:=F.x0.boxC
 go_wp2_with fail
 refine (zj (Cx.mk A h true) H D z S q (-1) 0 1 zay _ F.m.tok E (by decide)).mono ?_
 rintro e w3 ⟨rfl,Y⟩
 rw[h2]
 replace F:=F.below Y
 clear I
 have I:=F.x0.boxC
 go_wp2_with fail
 refine (zj (Cx.mk A h true) H D z S q (-1) 0 1 za9 _ F.m.tok E (by decide)).mono ?_
 rintro e w4 ⟨rfl,af⟩
 rw[h3]
 replace F:=F.below af
 clear I
 have I:=F.x0.boxC
 go_wp2_with fail
 refine (zj (Cx.mk A h true) H D z S q (-1) 0 1 zbM _ F.m.tok E (by decide)).mono ?_
 rintro e w5 ⟨rfl,ad⟩
 rw[h4]
 replace F:=F.below ad
 clear I
 have I:=F.x0.boxC
 go_wp2_with fail
 refine (zbl (Cx.mk A h true) H D z (.ok q) S q (-1) 0 false _ (zaa q) F.m).mono ?_
 rintro e w6 ⟨S6,q6,z6,n6,rfl,M,m6,s6⟩
 replace F:=F.stp m6 s6
 clear I
 have aj:w.heap.size+1<w6.heap.size:=F.x1.lt
 unfold pv
 go_upto_region 19 with fail
 refine (F.new2 _).cut ?_
 intro w7 F
 have cb:=F.x2.boxC
 go_wp2_with fail
 refine (zai (Cx.mk A h true) H D z _ S6 q6 z6 0 cEq _ M.out.fst F.m).mono ?_
 rintro e w8 ⟨S8,q8,z8,rfl,ae,m8,s8⟩
 replace F:=F.stp m8 s8
 clear cb
 go_wp2_with fail
 refine (zdp (Cx.mk A h true) H D z _ S8 q8 z8 _ ae.out F.m).mono ?_
 rintro e w9 ⟨S9,q9,z9,rfl,X,m9,s9⟩
 replace F:=F.stp m9 s9
 go_wp2_with fail
 refine (zai (Cx.mk A h true) H D z _ S9 q9 z9 0 cSemi _ X.out F.m).mono ?_
 rintro e am ⟨ai,Z,V,rfl,K,O,ac⟩
 replace F:=F.stp O ac
 go_wp2_with fail
 refine (zde (Cx.mk A h true) H D z _ ai Z V 0 3 n6 _ K.out F.m (zbu K.out)).mono ?_
 rintro e al ⟨ao,an,ak,rfl,L,aa,U⟩
 replace F:=F.stp aa U
 have bb:=F.x1.boxC
 unfold pv
 go_wp2
 refine bodyPost_ret (results_cell_row rfl _ _ (w.heap.size+1) 101 _ (0,0) _ rfl ((F.x1.put ..)).heap Tryz.underlying101 rfl (by kernel_rfl)) rfl ?_
 rw[HV.out,←M.out.bind (fun q n=>bd (bd (bd (bd (.ok q) (zd (Cx.mk A h true) 4 cEq)) (pE (Cx.mk A h true) .sum 0)) (zd (Cx.mk A h true) 4 cSemi)) (zY (Cx.mk A h true) 3 n)),←zkS]
 exact zac rfl L.out (F.put1 ..).m (F.put1 ..).t
theorem zrL (D:List Tk) (h:Nat) (E A z:Nat) (S:Sv) (q:PS) (w:World) (I:Mem (Cx.mk D h true) E A z S q w):
  Calls Tryz.prog 53 #[pv (Cx.mk D h true) E A S q (-1) 0] w (Out (Cx.mk D h true) E A z (zB (Cx.mk D h true) q) 0 S w):=by
 cases H:isT (Cx.mk D h true) q.pos 1 zF with
 |true=>exact zrF D h E A z S q w I H
 |false=>
  cases J:isT (Cx.mk D h true) q.pos 1 zU with
  |true=>exact zrG D h E A z S q w I H J
  |false=>
   cases K:isT (Cx.mk D h true) q.pos 1 zay with
   |true=>exact zrH D h E A z S q w I H J K
   |false=>
    cases L:isT (Cx.mk D h true) q.pos 1 za9 with
    |true=>exact zrI D h E A z S q w I H J K L
    |false=>
     cases M:isT (Cx.mk D h true) q.pos 1 zbM with
     |true=>exact zrJ D h E A z S q w I H J K L M
     |false=>
      exact zrK D h E A z S q w I H J K L M
theorem zrM (D:List Tk) (h:Nat) (I A z:Nat) (S:Sv) (q:PS) (w:World) (J:Mem (Cx.mk D h false) I A z S q w) (K:isT (Cx.mk D h false) q.pos 1 zal=true):
  Calls Tryz.prog 53 #[pv (Cx.mk D h false) I A S q (-1) 0] w (Out (Cx.mk D h false) I A z (zB (Cx.mk D h false) q) 0 S w):=by
 have X:=zc J
 have E:=J.tok
 have H:(Cx.mk D h false).ts.length≤4000:=J.few
 clear J
 have U:Hid (zB (Cx.mk D h false) q=zba (Cx.mk D h false) q):=by show zB (Cx.mk D h false) q=_;rw[zB,K];rfl
 unfold pv
 go_enter Tryz.func53,Tryz.ntmps53
 go_wp2_with fail
 refine (zj (Cx.mk D h false) I A z S q (-1) 0 1 zal _ (zr (zr E _) _) H (by decide)).mono ?_
 rintro e w1 ⟨rfl,M⟩
 rw[K]
 have F:=X.out.fm M
 clear E
 have O:=F.x0.boxC
 go_wp2_with fail
 refine (zrD (Cx.mk D h false) I A z S q _ F.m K).mono ?_
 rintro e w2 ⟨S2,q2,Y,rfl,L,V,N⟩
 replace F:=F.stp V N
 clear O
 have Z:=F.x1.boxC
 unfold pv
 go_wp2
 refine bodyPost_ret (results_cell_row rfl _ _ (w.heap.size+1) 101 _ (0,0) _ rfl ((F.x1.put ..)).heap Tryz.underlying101 rfl (by kernel_rfl)) rfl ?_
 rw[U.out]
 exact zac rfl L.out (F.put1 ..).m (F.put1 ..).t
theorem zrN (D:List Tk) (h:Nat) (I A z:Nat) (S:Sv) (q:PS) (w:World) (J:Mem (Cx.mk D h false) I A z S q w) (U:isT (Cx.mk D h false) q.pos 1 zal=false) (M:isT (Cx.mk D h false) q.pos 1 zak=true):
  Calls Tryz.prog 53 #[pv (Cx.mk D h false) I A S q (-1) 0] w (Out (Cx.mk D h false) I A z (zB (Cx.mk D h false) q) 0 S w):=by
 have Z:=zc J
 have H:=J.tok
 have E:(Cx.mk D h false).ts.length≤4000:=J.few
 clear J
 have Y:Hid (zB (Cx.mk D h false) q=zam (Cx.mk D h false) q):=by show zB (Cx.mk D h false) q=_;rw[zB,U,M];rfl
 unfold pv
 go_enter Tryz.func53,Tryz.ntmps53
 go_wp2_with fail
 refine (zj (Cx.mk D h false) I A z S q (-1) 0 1 zal _ (zr (zr H _) _) E (by decide)).mono ?_
 rintro e w1 ⟨rfl,N⟩
 rw[U]
 have F:=Z.out.fm N
 clear H
 have K:=F.x0.boxC
 go_wp2_with fail
 refine (zj (Cx.mk D h false) I A z S q (-1) 0 1 zak _ F.m.tok E (by decide)).mono ?_
 rintro e w2 ⟨rfl,O⟩
 rw[M]
 replace F:=F.below O
 clear K
 have K:=F.x0.boxC
 go_wp2_with fail
 refine (zrE (Cx.mk D h false) I A z S q _ F.m M).mono ?_
 rintro e w3 ⟨S3,q3,z3,rfl,L,X,V⟩
 replace F:=F.stp X V
 clear K
 have bb:=F.x1.boxC
 unfold pv
 go_wp2
 refine bodyPost_ret (results_cell_row rfl _ _ (w.heap.size+1) 101 _ (0,0) _ rfl ((F.x1.put ..)).heap Tryz.underlying101 rfl (by kernel_rfl)) rfl ?_
 rw[Y.out]
 exact zac rfl L.out (F.put1 ..).m (F.put1 ..).t
theorem zrO (D:List Tk) (h:Nat) (I A z:Nat) (S:Sv) (q:PS) (w:World) (K:Mem (Cx.mk D h false) I A z S q w) (U:isT (Cx.mk D h false) q.pos 1 zal=false) (Y:isT (Cx.mk D h false) q.pos 1 zak=false) (V:isT (Cx.mk D h false) q.pos 1 zF=true):
  Calls Tryz.prog 53 #[pv (Cx.mk D h false) I A S q (-1) 0] w (Out (Cx.mk D h false) I A z (zB (Cx.mk D h false) q) 0 S w):=by
 have HM:=zc K
 have H:=K.tok
 have E:(Cx.mk D h false).ts.length≤4000:=K.few
 clear K
 have HV:Hid (zB (Cx.mk D h false) q=zaR (zcK (Cx.mk D h false) q)):=by show zB (Cx.mk D h false) q=_;rw[zB,U,Y,V];rfl
 unfold pv
 go_enter Tryz.func53,Tryz.ntmps53
 go_wp2_with fail
 refine (zj (Cx.mk D h false) I A z S q (-1) 0 1 zal _ (zr (zr H _) _) E (by decide)).mono ?_
 rintro e w1 ⟨rfl,N⟩
 rw[U]
 have F:=HM.out.fm N
 clear H
 have J:=F.x0.boxC
 go_wp2_with fail
 refine (zj (Cx.mk D h false) I A z S q (-1) 0 1 zak _ F.m.tok E (by decide)).mono ?_
 rintro e w2 ⟨rfl,O⟩
 rw[Y]
 replace F:=F.below O
 clear J
 have J:=F.x0.boxC
 go_wp2_with fail
 refine (zj (Cx.mk D h false) I A z S q (-1) 0 1 zF _ F.m.tok E (by decide)).mono ?_
 rintro e w3 ⟨rfl,L⟩
 rw[V]
 replace F:=F.below L
 clear J
 have J:=F.x0.boxC
 go_wp2_with fail
 refine (zhP (Cx.mk D h false) I A z S q _ F.m).mono ?_
 rintro e Z ⟨S4,q4,z4,n4,rfl,M,m4,s4⟩
 replace F:=F.stp m4 s4
 clear J
 have X:w.heap.size+1<Z.heap.size:=F.x1.lt
 unfold pv
 go_upto_region 7 with fail
 refine (F.new2 _).cut ?_
 intro w5 F
 have bb:=F.x1.boxC
 have cb:=F.x2.boxC
 go_wp2
 refine bodyPost_ret (results_cell_row rfl _ _ (w.heap.size+1) 101 _ (0,0) _ rfl ((F.x1.put ..)).heap Tryz.underlying101 rfl (by kernel_rfl)) rfl ?_
 rw[HV.out]
 exact zac rfl M.out.fst (F.put1 ..).m (F.put1 ..).t
theorem zrP (D:List Tk) (h:Nat) (I A z:Nat) (S:Sv) (q:PS) (w:World) (K:Mem (Cx.mk D h false) I A z S q w) (V:isT (Cx.mk D h false) q.pos 1 zal=false) (Z:isT (Cx.mk D h false) q.pos 1 zak=false) (X:isT (Cx.mk D h false) q.pos 1 zF=false) (h3:isT (Cx.mk D h false) q.pos 1 zU=true):
  Calls Tryz.prog 53 #[pv (Cx.mk D h false) I A S q (-1) 0] w (Out (Cx.mk D h false) I A z (zB (Cx.mk D h false) q) 0 S w):=by
 have HM:=zc K
 have H:=K.tok
 have E:(Cx.mk D h false).ts.length≤4000:=K.few
 clear K
 have HV:Hid (zB (Cx.mk D h false) q=zaR (fnP (Cx.mk D h false) q)):=by show zB (Cx.mk D h false) q=_;rw[zB,V,Z,X,h3];rfl
 unfold pv
 go_enter Tryz.func53,Tryz.ntmps53
 go_wp2_with fail
 refine (zj (Cx.mk D h false) I A z S q (-1) 0 1 zal _ (zr (zr H _) _) E (by decide)).mono ?_
 rintro e w1 ⟨rfl,N⟩
 rw[V]
 have F:=HM.out.fm N
 clear H
 have J:=F.x0.boxC
 go_wp2_with fail
 refine (zj (Cx.mk D h false) I A z S q (-1) 0 1 zak _ F.m.tok E (by decide)).mono ?_
 rintro e w2 ⟨rfl,U⟩
 rw[Z]
 replace F:=F.below U
 clear J
 have J:=F.x0.boxC
 go_wp2_with fail
 refine (zj (Cx.mk D h false) I A z S q (-1) 0 1 zF _ F.m.tok E (by decide)).mono ?_
 rintro e w3 ⟨rfl,L⟩
 rw[X]
 replace F:=F.below L
 clear J
 have J:=F.x0.boxC
 go_wp2_with fail
 refine (zj (Cx.mk D h false) I A z S q (-1) 0 1 zU _ F.m.tok E (by decide)).mono ?_
 rintro e w4 ⟨rfl,M⟩
 rw[h3]
 replace F:=F.below M
 clear J
 have J:=F.x0.boxC
 go_wp2_with fail
 refine (zhQ (Cx.mk D h false) I A z S q _ F.m).mono ?_
 rintro e w5 ⟨S5,q5,z5,n5,rfl,O,m5,s5⟩
 replace F:=F.stp m5 s5
 clear J
 have Y:w.heap.size+1<w5.heap.size:=F.x1.lt
 unfold pv
 go_upto_region 10 with fail
 refine (F.new2 _).cut ?_
 intro w6 F
 have bb:=F.x1.boxC
 have cb:=F.x2.boxC
 go_wp2
 refine bodyPost_ret (results_cell_row rfl _ _ (w.heap.size+1) 101 _ (0,0) _ rfl ((F.x1.put ..)).heap Tryz.underlying101 rfl (by kernel_rfl)) rfl ?_
 rw[HV.out]
 exact zac rfl O.out.fst (F.put1 ..).m (F.put1 ..).t
theorem zrQ (D:List Tk) (h:Nat) (H A z:Nat) (S:Sv) (q:PS) (w:World) (M:Mem (Cx.mk D h false) H A z S q w) (h0:isT (Cx.mk D h false) q.pos 1 zal=false) (h1:isT (Cx.mk D h false) q.pos 1 zak=false) (h2:isT (Cx.mk D h false) q.pos 1 zF=false) (h3:isT (Cx.mk D h false) q.pos 1 zU=false) (h4:isT (Cx.mk D h false) q.pos 1 zay=true):
  Calls Tryz.prog 53 #[pv (Cx.mk D h false) H A S q (-1) 0] w (Out (Cx.mk D h false) H A z (zB (Cx.mk D h false) q) 0 S w):=by
 have HM:=zc M
 have K:=M.tok
 have E:(Cx.mk D h false).ts.length≤4000:=M.few
 clear M
 have HV:Hid (zB (Cx.mk D h false) q=bd (bd (bd (bd (bd (bd (.ok q) (zd (Cx.mk D h false) 1 zay)) (zd (Cx.mk D h false) 4 zo)) (pE (Cx.mk D h false) .sum 0)) (zd (Cx.mk D h false) 4 za7)) (zd (Cx.mk D h false) 4 cSemi)) (zY (Cx.mk D h false) 4 sNone)):=by show zB (Cx.mk D h false) q=_;rw[zB,h0,h1,h2,h3,h4];rfl
 unfold pv
 go_enter Tryz.func53,Tryz.ntmps53
 go_wp2_with fail
 refine (zj (Cx.mk D h false) H A z S q (-1) 0 1 zal _ (zr (zr K _) _) E (by decide)).mono ?_
 rintro e w1 ⟨rfl,ah⟩
 rw[h0]
 have F:=HM.out.fm ah
 clear K
 have I:=F.x0.boxC
 go_wp2_with fail
 refine (zj (Cx.mk D h false) H A z S q (-1) 0 1 zak _ F.m.tok E (by decide)).mono ?_
 rintro e w2 ⟨rfl,ai⟩
 rw[h1]
 replace F:=F.below ai
 clear I
 have I:=F.x0.boxC
 go_wp2_with fail
 refine (zj (Cx.mk D h false) H A z S q (-1) 0 1 zF _ F.m.tok E (by decide)).mono ?_
 rintro e w3 ⟨rfl,X⟩
 rw[h2]
 replace F:=F.below X
 clear I
 have I:=F.x0.boxC
 go_wp2_with fail
 refine (zj (Cx.mk D h false) H A z S q (-1) 0 1 zU _ F.m.tok E (by decide)).mono ?_
 rintro e w4 ⟨rfl,ag⟩
 rw[h3]
 replace F:=F.below ag
 clear I
 have I:=F.x0.boxC
 go_wp2_with fail
 refine (zj (Cx.mk D h false) H A z S q (-1) 0 1 zay _ F.m.tok E (by decide)).mono ?_
 rintro e w5 ⟨rfl,ac⟩
 rw[h4]
 replace F:=F.below ac
 clear I
 have I:=F.x0.boxC
 go_wp2_with fail
 refine (zaM (Cx.mk D h false) H A z (.ok q) S q (-1) 0 zay _ (zaa q) F.m).mono ?_
 rintro e w6 ⟨S6,q6,z6,rfl,ae,m6,s6⟩
 replace F:=F.stp m6 s6
 clear I
 go_wp2_with fail
 refine (zai (Cx.mk D h false) H A z _ S6 q6 z6 0 zo _ ae.out F.m).mono ?_
 rintro e w7 ⟨S7,q7,z7,rfl,aa,m7,s7⟩
 replace F:=F.stp m7 s7
 go_wp2_with fail
 refine (zdp (Cx.mk D h false) H A z _ S7 q7 z7 _ aa.out F.m).mono ?_
 rintro e w8 ⟨S8,q8,z8,rfl,ad,m8,s8⟩
 replace F:=F.stp m8 s8
 go_wp2_with fail
 refine (zai (Cx.mk D h false) H A z _ S8 q8 z8 0 za7 _ ad.out F.m).mono ?_
 rintro e w9 ⟨S9,q9,z9,rfl,U,m9,s9⟩
 replace F:=F.stp m9 s9
 have ak:w.heap.size+1<w9.heap.size:=F.x1.lt
 unfold pv
 go_upto_region 13 with fail
 refine (F.new2 _).cut ?_
 intro an F
 have cb:=F.x2.boxC
 go_wp2_with fail
 refine (zai (Cx.mk D h false) H A z _ S9 q9 z9 0 cSemi _ U.out F.m).mono ?_
 rintro e am ⟨aj,af,N,rfl,J,Z,O⟩
 replace F:=F.stp Z O
 clear cb
 go_wp2_with fail
 refine (zde (Cx.mk D h false) H A z _ aj af N 0 4 sNone _ J.out F.m (zbu J.out)).mono ?_
 rintro e aq ⟨ao,al,ap,rfl,L,V,Y⟩
 replace F:=F.stp V Y
 have bb:=F.x1.boxC
 unfold pv
 go_wp2
 refine bodyPost_ret (results_cell_row rfl _ _ (w.heap.size+1) 101 _ (0,0) _ rfl ((F.x1.put ..)).heap Tryz.underlying101 rfl (by kernel_rfl)) rfl ?_
 rw[HV.out]
 exact zac rfl L.out (F.put1 ..).m (F.put1 ..).t
theorem zrR (D:List Tk) (h:Nat) (H A z:Nat) (S:Sv) (q:PS) (w:World) (M:Mem (Cx.mk D h false) H A z S q w) (h0:isT (Cx.mk D h false) q.pos 1 zal=false) (h1:isT (Cx.mk D h false) q.pos 1 zak=false) (h2:isT (Cx.mk D h false) q.pos 1 zF=false) (h3:isT (Cx.mk D h false) q.pos 1 zU=false) (h4:isT (Cx.mk D h false) q.pos 1 zay=false) (h5:isT (Cx.mk D h false) q.pos 1 za9=true):
  Calls Tryz.prog 53 #[pv (Cx.mk D h false) H A S q (-1) 0] w (Out (Cx.mk D h false) H A z (zB (Cx.mk D h false) q) 0 S w):=by
 have HM:=zc M
 have J:=M.tok
 have E:(Cx.mk D h false).ts.length≤4000:=M.few
 clear M
 have HV:Hid (zB (Cx.mk D h false) q=bd (bd (bd (bd (.ok q) (zd (Cx.mk D h false) 1 za9)) (pE (Cx.mk D h false) .sum 0)) (zd (Cx.mk D h false) 4 cSemi)) (zY (Cx.mk D h false) 5 sNone)):=by show zB (Cx.mk D h false) q=_;rw[zB,h0,h1,h2,h3,h4,h5];rfl
 unfold pv
 go_enter Tryz.func53,Tryz.ntmps53
 go_wp2_with fail
 refine (zj (Cx.mk D h false) H A z S q (-1) 0 1 zal _ (zr (zr J _) _) E (by decide)).mono ?_
 rintro e w1 ⟨rfl,ac⟩
 rw[h0]
 have F:=HM.out.fm ac
 clear J
 have I:=F.x0.boxC
 go_wp2_with fail
 refine (zj (Cx.mk D h false) H A z S q (-1) 0 1 zak _ F.m.tok E (by decide)).mono ?_
 rintro e w2 ⟨rfl,ad⟩
 rw[h1]
 replace F:=F.below ad
 clear I
 have I:=F.x0.boxC
 go_wp2_with fail
 refine (zj (Cx.mk D h false) H A z S q (-1) 0 1 zF _ F.m.tok E (by decide)).mono ?_
 rintro e w3 ⟨rfl,U⟩
 rw[h2]
 replace F:=F.below U
 clear I
 have I:=F.x0.boxC
 go_wp2_with fail
 refine (zj (Cx.mk D h false) H A z S q (-1) 0 1 zU _ F.m.tok E (by decide)).mono ?_
 rintro e w4 ⟨rfl,aa⟩
 rw[h3]
 replace F:=F.below aa
 clear I
 have I:=F.x0.boxC
 go_wp2_with fail
 refine (zj (Cx.mk D h false) H A z S q (-1) 0 1 zay _ F.m.tok E (by decide)).mono ?_
 rintro e w5 ⟨rfl,Y⟩
 rw[h4]
 replace F:=F.below Y
 clear I
 have I:=F.x0.boxC
 go_wp2_with fail
 refine (zj (Cx.mk D h false) H A z S q (-1) 0 1 za9 _ F.m.tok E (by decide)).mono ?_
 rintro e w6 ⟨rfl,N⟩
 rw[h5]
 replace F:=F.below N
 clear I
 have I:=F.x0.boxC
 go_wp2_with fail
 refine (zaM (Cx.mk D h false) H A z (.ok q) S q (-1) 0 za9 _ (zaa q) F.m).mono ?_
 rintro e w7 ⟨S7,q7,z7,rfl,V,m7,s7⟩
 replace F:=F.stp m7 s7
 clear I
 go_wp2_with fail
 refine (zdp (Cx.mk D h false) H A z _ S7 q7 z7 _ V.out F.m).mono ?_
 rintro e w8 ⟨S8,q8,z8,rfl,Z,m8,s8⟩
 replace F:=F.stp m8 s8
 go_wp2_with fail
 refine (zai (Cx.mk D h false) H A z _ S8 q8 z8 0 cSemi _ Z.out F.m).mono ?_
 rintro e w9 ⟨S9,q9,z9,rfl,K,m9,s9⟩
 replace F:=F.stp m9 s9
 go_wp2_with fail
 refine (zde (Cx.mk D h false) H A z _ S9 q9 z9 0 5 sNone _ K.out F.m (zbu K.out)).mono ?_
 rintro e ae ⟨ah,ag,af,rfl,L,O,X⟩
 replace F:=F.stp O X
 have bb:=F.x1.boxC
 unfold pv
 go_wp2
 refine bodyPost_ret (results_cell_row rfl _ _ (w.heap.size+1) 101 _ (0,0) _ rfl ((F.x1.put ..)).heap Tryz.underlying101 rfl (by kernel_rfl)) rfl ?_
 rw[HV.out]
 exact zac rfl L.out (F.put1 ..).m (F.put1 ..).t
theorem zrS (A:List Tk) (h:Nat) (H D z:Nat) (S:Sv) (q:PS) (w:World) (O:Mem (Cx.mk A h false) H D z S q w) (h0:isT (Cx.mk A h false) q.pos 1 zal=false) (h1:isT (Cx.mk A h false) q.pos 1 zak=false) (h2:isT (Cx.mk A h false) q.pos 1 zF=false) (h3:isT (Cx.mk A h false) q.pos 1 zU=false) (h4:isT (Cx.mk A h false) q.pos 1 zay=false) (h5:isT (Cx.mk A h false) q.pos 1 za9=false):
  Calls Tryz.prog 53 #[pv (Cx.mk A h false) H D S q (-1) 0] w (Out (Cx.mk A h false) H D z (zB (Cx.mk A h false) q) 0 S w):=by
 have HM:=zc O
 have K:=O.tok
 have E:(Cx.mk A h false).ts.length≤4000:=O.few
 clear O
 have HV:Hid (zB (Cx.mk A h false) q=bd (bd (.ok q) (zl (Cx.mk A h false) false)) fun a=>bd (bd (bd (bd (.ok a.1) (zd (Cx.mk A h false) 4 cEq)) (pE (Cx.mk A h false) .sum 0)) (zd (Cx.mk A h false) 4 cSemi)) (zY (Cx.mk A h false) 3 a.2)):=by show zB (Cx.mk A h false) q=_;rw[zB,h0,h1,h2,h3,h4,h5];rfl
 unfold pv
 go_enter Tryz.func53,Tryz.ntmps53
 go_wp2_with fail
 refine (zj (Cx.mk A h false) H D z S q (-1) 0 1 zal _ (zr (zr K _) _) E (by decide)).mono ?_
 rintro e w1 ⟨rfl,al⟩
 rw[h0]
 have F:=HM.out.fm al
 clear K
 have I:=F.x0.boxC
 go_wp2_with fail
 refine (zj (Cx.mk A h false) H D z S q (-1) 0 1 zak _ F.m.tok E (by decide)).mono ?_
 rintro e w2 ⟨rfl,am⟩
 rw[h1]
 replace F:=F.below am
 clear I
 have I:=F.x0.boxC
 go_wp2_with fail
 refine (zj (Cx.mk A h false) H D z S q (-1) 0 1 zF _ F.m.tok E (by decide)).mono ?_
 rintro e w3 ⟨rfl,ad⟩
 rw[h2]
 replace F:=F.below ad
 clear I
 have I:=F.x0.boxC
 go_wp2_with fail
 refine (zj (Cx.mk A h false) H D z S q (-1) 0 1 zU _ F.m.tok E (by decide)).mono ?_
 rintro e w4 ⟨rfl,ak⟩
 rw[h3]
 replace F:=F.below ak
 clear I
 have I:=F.x0.boxC
 go_wp2_with fail
 refine (zj (Cx.mk A h false) H D z S q (-1) 0 1 zay _ F.m.tok E (by decide)).mono ?_
 rintro e w5 ⟨rfl,ai⟩
 rw[h4]
 replace F:=F.below ai
 clear I
 have I:=F.x0.boxC
 go_wp2_with fail
 refine (zj (Cx.mk A h false) H D z S q (-1) 0 1 za9 _ F.m.tok E (by decide)).mono ?_
 rintro e w6 ⟨rfl,V⟩
 rw[h5]
 replace F:=F.below V
 clear I
 have I:=F.x0.boxC
 go_wp2_with fail
 refine (zbl (Cx.mk A h false) H D z (.ok q) S q (-1) 0 false _ (zaa q) F.m).mono ?_
 rintro e w7 ⟨S7,q7,z7,n7,rfl,L,m7,s7⟩
 replace F:=F.stp m7 s7
 clear I
 have ap:w.heap.size+1<w7.heap.size:=F.x1.lt
 unfold pv
 go_upto_region 19 with fail
 refine (F.new2 _).cut ?_
 intro w8 F
 have cb:=F.x2.boxC
 go_wp2_with fail
 refine (zai (Cx.mk A h false) H D z _ S7 q7 z7 0 cEq _ L.out.fst F.m).mono ?_
 rintro e w9 ⟨S9,q9,z9,rfl,aa,m9,s9⟩
 replace F:=F.stp m9 s9
 clear cb
 go_wp2_with fail
 refine (zdp (Cx.mk A h false) H D z _ S9 q9 z9 _ aa.out F.m).mono ?_
 rintro e au ⟨ao,af,Z,rfl,N,X,ah⟩
 replace F:=F.stp X ah
 go_wp2_with fail
 refine (zai (Cx.mk A h false) H D z _ ao af Z 0 cSemi _ N.out F.m).mono ?_
 rintro e ar ⟨an,aj,U,rfl,J,ag,Y⟩
 replace F:=F.stp ag Y
 go_wp2_with fail
 refine (zde (Cx.mk A h false) H D z _ an aj U 0 3 n7 _ J.out F.m (zbu J.out)).mono ?_
 rintro e ax ⟨av,aq,aw,rfl,M,ac,ae⟩
 replace F:=F.stp ac ae
 have bb:=F.x1.boxC
 unfold pv
 go_wp2
 refine bodyPost_ret (results_cell_row rfl _ _ (w.heap.size+1) 101 _ (0,0) _ rfl ((F.x1.put ..)).heap Tryz.underlying101 rfl (by kernel_rfl)) rfl ?_
 rw[HV.out,←L.out.bind (fun q n=>bd (bd (bd (bd (.ok q) (zd (Cx.mk A h false) 4 cEq)) (pE (Cx.mk A h false) .sum 0)) (zd (Cx.mk A h false) 4 cSemi)) (zY (Cx.mk A h false) 3 n)),←zkS]
 exact zac rfl M.out (F.put1 ..).m (F.put1 ..).t
theorem zrT (D:List Tk) (h:Nat) (E A z:Nat) (S:Sv) (q:PS) (w:World) (I:Mem (Cx.mk D h false) E A z S q w):
  Calls Tryz.prog 53 #[pv (Cx.mk D h false) E A S q (-1) 0] w (Out (Cx.mk D h false) E A z (zB (Cx.mk D h false) q) 0 S w):=by
 cases H:isT (Cx.mk D h false) q.pos 1 zal with
 |true=>exact zrM D h E A z S q w I H
 |false=>
  cases J:isT (Cx.mk D h false) q.pos 1 zak with
  |true=>exact zrN D h E A z S q w I H J
  |false=>
   cases K:isT (Cx.mk D h false) q.pos 1 zF with
   |true=>exact zrO D h E A z S q w I H J K
   |false=>
    cases L:isT (Cx.mk D h false) q.pos 1 zU with
    |true=>exact zrP D h E A z S q w I H J K L
    |false=>
     cases M:isT (Cx.mk D h false) q.pos 1 zay with
     |true=>exact zrQ D h E A z S q w I H J K L M
     |false=>
      cases N:isT (Cx.mk D h false) q.pos 1 za9 with
      |true=>exact zrR D h E A z S q w I H J K L M N
      |false=>
       exact zrS D h E A z S q w I H J K L M N
theorem zrU (C:Cx) (A z h:Nat) (S:Sv) (q:PS) (w:World) (I:Mem C A z h S q w):
  Calls Tryz.prog 53 #[pv C A z S q (-1) 0] w (Out C A z h (zB C q) 0 S w):=by
 obtain⟨H,D,E⟩:=C
 cases E with
 |true=>exact zrL H D A z h S q w I
 |false=>exact zrT H D A z h S q w I
theorem zrV (s:ByteArray) (q:Bool) (w:World) (hs:s.size≤4294967296):
  Calls Tryz.prog 31 #[.string s,.bool q] w fun e w'=>ParseOut s q w e w'∧Below w.heap.size w w':=by
 obtain⟨i0,hi,az,ay,ax⟩:=info_parts Tryz.infoExp
 go_enter Tryz.func31,Tryz.ntmps31
 go_wp2_with fail
 refine (znm s q _ hs).mono ?_
 rintro e Y ⟨⟨r1,M,U⟩,b1⟩
 have ae:Hid (Below w.heap.size w Y):=((Below.refl _ _).alloc (Nat.le_refl _) _).trans (b1.mono (by rw[zg];omega))
 have hG:Y.heap[w.heap.size]? =some (.cells #[.slice none 0 0,.slice none 0 0,.slice none 0 0,.slice none 0 0,.slice none 0 0] 48 (0,0)):=(b1.block _ (by rw[zg];omega)).trans (heap_alloc_new w _)
 rw[zg] at b1
 cases r1 with
 |error p=>
  obtain⟨g,O,rfl,A⟩:=U
  have HY:Hid (zbF s q (.error p)):=⟨_,M,rfl⟩
  have HG:=zc hG
  obtain⟨c0,c1,c2,c3,c4,cf⟩:=zk hG
  have dz:decide ((0:Int)≤(p:Int))=true:=decide_eq_true (by omega)
  clear A M b1 hG
  go_wp2
  refine bodyPost_ret (zaI rfl _ _ w.heap.size 48 _ (0,0) _ rfl (zd9 HG.out) Tryz.underlying48 rfl (by kernel_rfl)) rfl ?_
  exact⟨⟨_,HY.out,rfl⟩,zdU ae.out (Nat.le_refl _) _ _ _ _ _⟩
 |ok D=>
  obtain⟨g,n,O,rfl,A⟩:=U
  obtain rfl:n=D.length:=A.2
  rw[zg] at A
  have ao:w.heap.size+1≤Y.heap.size:=by have:=b1.size;rw[zg] at this;exact this
  have ai:=ziR M
  have HR:=zc M
  have ak:Mem ⟨D,s.size,q⟩ g O (w.heap.size+1) S0 zbQ Y:=ziS A ai ao
  have aj:=zc ak
  have HG:=zc hG
  clear A M ak hG
  go_wp2
  go_loopg [] (D.length+1) (fun k wr=>∃(x':PR) (H:Sv) (X:PS) (z':Int),Is x' X z'∧bd x' (zaz ⟨D,s.size,q⟩)=zaz ⟨D,s.size,q⟩ zbQ∧(z'<0→D.length-X.pos<k)∧Mem ⟨D,s.size,q⟩ g O (w.heap.size+1) H X wr∧Below w.heap.size w wr∧Bx g H wr Y.heap.size #[.slice (some ⟨g,0,none⟩) D.length O,.int .i64 X.pos,.int .i64 s.size,.bool q,.slice H.rq.a X.rq.length H.rq.cap,.slice H.im.a X.im.length H.im.cap,.slice H.ep.a X.ep.length H.ep.cap,.slice H.st.a X.st.length H.st.cap,.slice H.ex.a X.ex.length H.ex.cap,.slice H.la.a X.la.length H.la.cap,.int .i64 z',.int .i64 0]∧wr.heap[w.heap.size]? =some (.cells #[.slice none 0 0,.slice none 0 0,.slice none 0 0,.slice none 0 0,.slice none 0 0] 48 (0,0)))
  case atStart=>exact⟨.ok zbQ,S0,zbQ,-1,zaa _,rfl,fun _=>by show D.length-0<D.length+1;omega,aj.out.alloc _,ae.out.alloc ae.out.size _,Bx.new aj.out _,(Below.heap_alloc _ _ _ (by omega)).trans HG.out⟩
  case round=>
   obtain⟨x2,S2,K,z2,i2,e2,l2,m2,t2,X0,G2⟩:=hrel
   have am:=zc i2
   have ag:=zc e2
   have ar:=zc l2
   have z:=zc m2
   have ab:=zc t2
   have L:=zc X0
   have I:=zc G2
   have aD:K.pos≤D.length:=m2.inv.pos
   obtain⟨a0,a1,a2,a3,a4,a5,a6,a7,a8,a9,ac,ad,af⟩:=X0.box
   clear i2 e2 l2 m2 t2 X0 G2
   by_cases hz:z2<0
   ·have dz:decide (z2<0)=true:=decide_eq_true hz
    obtain⟨rfl,rfl⟩:=zaG am.out hz
    by_cases hp:K.pos<D.length
    ·have aC:=ar.out hz
     go_wp2_with fail
     refine (zrU ⟨D,s.size,q⟩ g O (w.heap.size+1) S2 K _ z.out).mono ?_
     rintro e w3 ⟨S3,q3,z3,rfl,i3,m3,s3⟩
     have aA:=zc m3
     have ah:=zc i3
     have Z:Hid (Below (w.heap.size+1) wr w3):=s3.under z.out.base z.out.own
     have N:Hid (Bx g S3 w3 Y.heap.size _):=L.out.stp s3
     have av:Hid (Below w.heap.size w w3):=ab.out.trans (Z.out.mono (by omega))
     have aa:Hid (w3.heap[w.heap.size]? =some (.cells #[.slice none 0 0,.slice none 0 0,.slice none 0 0,.slice none 0 0,.slice none 0 0] 48 (0,0))):=(Z.out.block _ (by omega)).trans I.out
     have HE:Hid (bd (zB ⟨D,s.size,q⟩ K) (zaz ⟨D,s.size,q⟩)=zaz ⟨D,s.size,q⟩ zbQ):=by
      show _=_
      rw[←ag.out,zA,zfW,if_pos hp]
     have HP:Hid (z3<0→K.pos<q3.pos):=fun h=>zfV (zaG ah.out h).1
     clear i3 m3 s3 a0 a1 a2 a3 a4 a5 a6 a7 a8 a9 ac ad af
     obtain⟨a0,a1,a2,a3,a4,a5,a6,a7,a8,a9,ac,ad,af⟩:=N.out.box
     unfold pv
     go_wp2
     go_roundg (gk-1)
     case rel=>exact⟨_,S3,q3,z3,ah.out,HE.out,fun h=>by have:=HP.out h;omega,aA.out.put N.out _ _ _ _ _ _ _ _ _ _ _ _,zbR av.out (by omega) _ _ _ _ _ _ _ _ _ _ _ _,N.out.put _ _ _ _ _ _ _ _ _ _ _ _,(zf8 (by omega) ..).trans aa.out⟩
     case measure=>omega
    ·have HD:Hid (zaz ⟨D,s.size,q⟩ zbQ= .ok K):=by
      show _=_
      rw[←ag.out,zA,zfW,if_neg hp]
     have HY:Hid (zbF s q (.ok K)):=⟨_,HR.out,HD.out.symm⟩
     have al:Y.heap.size<wr.heap.size:=L.out.lt
     have aB:=z.out.inv.ep
     have E:=z.out.own.ep
     have Z:=z.out.base
     rcases z.out.own.la.nil_or with ⟨ha,hc,hn⟩|⟨gl,ha⟩
     ·have HN:Hid (K.la=[]):=List.eq_nil_of_length_eq_zero hn
      rw[ha,hc,hn] at a9
      obtain⟨c0,c1,c2,c3,c4,cf⟩:=zk I.out
      clear ha hc hn
      go_wp2_with (at_builtin;refine zmY _ rfl _ _ 44 rfl 82 i0 Tryz.underlying44 hi (w.heap.size+1) 4 K.ep.length S2.ep _ (by rfl) E (by rfl) ?_)
      clear E
      go_wp2
      refine bodyPost_ret (zaI rfl _ _ w.heap.size 48 _ (0,0) _ rfl (zd9 ((zv (by omega)).trans I.out)) Tryz.underlying48 rfl (by kernel_rfl)) rfl ?_
      refine⟨⟨_,HY.out,S2,by simp[zfX,HN.out],z.out.whole0 HN.out (Nat.lt_succ_self _) L.out.free fun k V h2=>?_⟩,zdU (ab.out.setCell (by show _≤Y.heap.size;omega) _) (Nat.le_refl _) _ _ _ _ _⟩
      rw[zv V,zv V,zv V,zv V,zv V,zv h2]
     ·have ap:OwnR wr (w.heap.size+1) 82 4 ⟨some ⟨gl,0,none⟩,S2.la.cap⟩ K.la.length (K.la.flatMap epL):=by have:=z.out.own.la;unfold OwnR at this ⊢;rw[ha] at this;exact this
      rw[ha] at a9
      go_wp2_with (at_builtin;refine zmX _ rfl _ _ 44 rfl (w.heap.size+1) 82 i0 _ 4 56 Tryz.underlying44 hi az ay ax rfl (by decide) (by decide) S2.ep K.ep.length _ (by rfl) E gl K.la.length S2.la.cap (w.heap.size+1) _ (by rfl) ap (zhg _) (by omega) Z ?_)
      intro r' w3 hr hg an
      have aq:=zc hr
      have J:=zc hg
      have aw:=zc an
      have au:=fun b hb=>zea (W:=wr) z.out.own (Nat.le_refl _) (r:=S2.ep.blk) (fun k e=>.inr (.inr (.inl e))) b hb
      have N:Hid (w3.heap[Y.heap.size]? =_):=(hg.block _ al (fun e=>L.out.free (.inr (.inr (.inl e.symm))))).trans L.out.heap
      have aa:Hid (w3.heap[w.heap.size]? =_):=(hg.block _ (by omega) (fun e=>by have:=(E.typed e.symm).1;omega)).trans I.out
      clear a0 a1 a2 a3 a4 a5 a6 a7 a8 a9 ac ad af hr hg an au E ap
      obtain⟨a0,a1,a2,a3,a4,a5,a6,a7,a8,a9,ac,ad,af⟩:=zan N.out
      obtain⟨c0,c1,c2,c3,c4,cf⟩:=zk aa.out
      go_wp2
      refine bodyPost_ret (zaI rfl _ _ w.heap.size 48 _ (0,0) _ rfl (zd9 ((zv (by omega)).trans aa.out)) Tryz.underlying48 rfl (by kernel_rfl)) rfl ?_
      refine⟨⟨_,HY.out,{S2 with ep:=r'},by simp[zfX],z.out.whole J.out aq.out aw.out (Nat.lt_succ_self _) al L.out.free fun k V h2=>?_⟩,zdU ((ab.out.trans (Below.mono (B:=w.heap.size+1) ⟨J.out.os,J.out.tape,J.out.output,J.out.size,fun k hk=>J.out.block k (by omega) fun e=>by have:=(z.out.own.ep.typed e.symm).1;omega⟩ (by omega))).setCell (by show _≤Y.heap.size;omega) _) (Nat.le_refl _) _ _ _ _ _⟩
      rw[zv V,zv V,zv V,zv V,zv V,zv h2]
   ·have dz:decide (z2<0)=false:=decide_eq_false hz
    obtain⟨e0,rfl,rfl⟩:=zd1 am.out hz
    have aE:decide ((0:Int)≤(e0:Int))=true:=decide_eq_true (by omega)
    have HY:Hid (zbF s q (.error e0)):=⟨_,HR.out,(show (.error e0:PR)=zaz ⟨D,s.size,q⟩ zbQ from ag.out)⟩
    obtain⟨c0,c1,c2,c3,c4,cf⟩:=zk I.out
    go_wp2
    go_region
    all_goals
     go_wp2
     refine bodyPost_ret (zaI rfl _ _ w.heap.size 48 _ (0,0) _ rfl (zd9 I.out) Tryz.underlying48 rfl (by kernel_rfl)) rfl ?_
     exact⟨⟨_,HY.out,rfl⟩,(zdU ab.out (Nat.le_refl _) ..).drew⟩
end Go.Proofs.YtcidlffeeninbaaGreat
