/-
  What impl.ModOk answers: the walk.
  What spec's l4Spec answers: the walk.
  Boxes of a program under way,through calls and stores. No program is spoken of but for the numbers of its types.
-/
import Derived.Test.YthfeoomfiafldaaGreatCdImplParseAll
namespace Go.Proofs.YthfeoomfiafldaaGreat
set_option maxRecDepth 100000
set_option maxHeartbeats 6400000
open Go.RowKit Go.PlainAid Go.Sort
theorem zuq (o:Nat) (S:Sv) (m:Md) (scr:Bool) (w:World) (h:OwnMd w o S m) (Y:Small m) (X:Tree m→(zbZ m).size≤4294967296):
  Calls Tryz.prog 13 #[zbM S m,.bool scr] w fun e w'=>zrA (zbZ m) m scr e∧Below w.heap.size w w':=by
 have HH:=zc h
 have SM:=zc Y
 have HU:=zc X
 have SF:Hid (zhd m):=Y.few
 clear h Y X
 unfold zbM
 go_enter Tryz.func13,Tryz.ntmps13
 go_upto_region 1 with fail
 have H:Hid (Below w.heap.size w (w.alloc (.cells #[.slice S.rq.a m.rq.length S.rq.cap,.slice S.im.a m.im.length S.im.cap,.slice S.ep.a m.ep.length S.ep.cap,.slice S.st.a m.st.length S.st.cap,.slice S.ex.a m.ex.length S.ex.cap] 32))):=(Below.refl _ _).alloc (Nat.le_refl _) _
 refine zaA (R:=fun W=>W.heap[w.heap.size]? =some (.cells #[.slice S.rq.a m.rq.length S.rq.cap,.slice S.im.a m.im.length S.im.cap,.slice S.ep.a m.ep.length S.ep.cap,.slice S.st.a m.st.length S.st.cap,.slice S.ex.a m.ex.length S.ex.cap] 32 (0,0))∧OwnMd W o S m∧Below w.heap.size w W) ⟨heap_alloc_new w _,HH.out.later H.out,H.out⟩ ?_
 obtain⟨gx,L⟩: ∃gx,gx=w.heap.size:=⟨_,rfl⟩
 rw[←L]
 rintro w1 ⟨hx,ho,z⟩
 rw[L] at z
 clear L H HH
 have Z:=zc hx
 have O1:=zc ho
 have Q:=zc z
 clear hx ho z
 obtain⟨c0,c1,c2,c3,c4,cf⟩:=zaa Z.out
 go_wp2_with fail
 refine (zlR o S m scr w1 O1.out SM.out (fun t=>Nat.le_trans (HU.out t) (by omega))).mono ?_
 rintro e w2 ⟨D,z⟩
 obtain⟨t,K,rfl⟩:=D.form
 have PR:=zc K
 have ht:=K.size HU.out
 have X2:=zc ((z.block _ (Array.getElem?_eq_some_iff.1 Z.out).1).trans Z.out)
 have O2:=zc (O1.out.later z)
 have V:=zc (Q.out.trans (z.mono Q.out.size))
 clear D K z c0 c1 c2 c3 c4 cf
 go_wp2_with fail
 refine (zhq t scr w2 ht).mono ?_
 rintro e N ⟨D,z⟩
 have X3:=zc ((z.block _ (Array.getElem?_eq_some_iff.1 X2.out).1).trans X2.out)
 have O3:=zc (O2.out.later z)
 have E:=zc (V.out.trans (z.mono V.out.size))
 clear z
 rcases D.md with ⟨q,j,n,U,hn,rfl,I,J⟩|⟨p,U,rfl⟩
 ·have OK:=zc (zrC (m:=m) U hn)
  have O4:=zc I
  have NF:=zc J
  clear D U hn I J
  unfold zbM
  go_upto_region 2 with fail
  have H:Hid (Below N.heap.size N (N.alloc (.cells #[.slice j.rq.a n.rq.length j.rq.cap,.slice j.im.a n.im.length j.im.cap,.slice j.ep.a n.ep.length j.ep.cap,.slice j.st.a n.st.length j.st.cap,.slice j.ex.a n.ex.length j.ex.cap] 32))):=(Below.refl _ _).alloc (Nat.le_refl _) _
  refine zaA (R:=fun W=>W.heap[gx]? =some (.cells #[.slice S.rq.a m.rq.length S.rq.cap,.slice S.im.a m.im.length S.im.cap,.slice S.ep.a m.ep.length S.ep.cap,.slice S.st.a m.st.length S.st.cap,.slice S.ex.a m.ex.length S.ex.cap] 32 (0,0))∧W.heap[N.heap.size]? =some (.cells #[.slice j.rq.a n.rq.length j.rq.cap,.slice j.im.a n.im.length j.im.cap,.slice j.ep.a n.ep.length j.ep.cap,.slice j.st.a n.st.length j.st.cap,.slice j.ex.a n.ex.length j.ex.cap] 32 (0,0))∧OwnMd W o S m∧OwnMd W w2.heap.size j n∧Below w.heap.size w W) ⟨(H.out.block _ (Array.getElem?_eq_some_iff.1 X3.out).1).trans X3.out,heap_alloc_new N _,O3.out.later H.out,O4.out.later H.out,E.out.trans (H.out.mono E.out.size)⟩ ?_
  obtain⟨gy,O⟩: ∃gy,gy=N.heap.size:=⟨_,rfl⟩
  rw[←O]
  intro w4 h4
  have M:=zc h4
  clear h4 O H X3 O3 O4 E
  obtain⟨c0,c1,c2,c3,c4,cf⟩:=zaa M.out.1
  obtain⟨d0,d1,d2,d3,d4,df⟩:=zaa M.out.2.1
  go_wp2_with fail
  refine ((zrG o w2.heap.size S j m n _ M.out.2.2.1 M.out.2.2.2.1 SF.out)).mono ?_
  rintro e w5 ⟨⟨r,rfl,hr⟩,z⟩
  have HR:=zc hr
  have aa:=zc (M.out.2.2.2.2.trans (z.mono M.out.2.2.2.2.size))
  clear hr z c0 c1 c2 c3 c4 cf d0 d1 d2 d3 d4 df
  go_wp2
  go_ret
  exact⟨⟨t,PR.out,r,rfl,HR.out.trans (Iff.trans ⟨Eq.symm,Eq.symm⟩ OK.out.symm)⟩,aa.out⟩
 ·have NO:=zc (zrB (m:=m) U)
  clear D U
  go_wp2
  go_ret
  exact⟨⟨t,PR.out,false,rfl,⟨fun k=>(by cases k),fun k=>absurd k NO.out⟩⟩,(E.out.alloc E.out.size _)⟩
theorem Tryz.infoString:(Tryz.prog.info? 9).map (fun i=>(i.zero,i.size,i.bytes))=some (some (.string {data:=#[]}),1,16):=by kernel_rfl
theorem OwnR.addr {w:World} {j size n:Nat} {e:TypeId} {r:Rw} {xs:List Value} (h:OwnR w j e size r n xs):n=0∨∃g,r.a=some ⟨g,0,none⟩:=by
 rcases h.2 with ⟨_,z⟩|⟨g,D,E,o,_⟩
 ·exact .inl z
 ·simp only[Value.slice.injEq] at o
  exact .inr ⟨g,o.1⟩
theorem OwnR.str {w:World} {o:Nat} {e:TypeId} {r:Rw} {l:List ByteArray} {g:Nat} (h:OwnR w o e 1 r l.length (l.map .string)) (D:r.a=some ⟨g,0,none⟩) {j:Nat} (z:j<l.length):w.cell? ⟨g,j,none⟩=some (.string (l.getD j sNone)):=by
 unfold OwnR at h
 rw[D] at h
 rw[h.cellAt j (by omega)]
 simp[List.getD,z]
theorem OwnR.lt {w:World} {j size n:Nat} {e:TypeId} {r:Rw} {xs:List Value} {g:Nat} (h:OwnR w j e size r n xs) (o:r.a=some ⟨g,0,none⟩):g<w.heap.size:=(h.typed (k:=g) (by simp[Rw.blk,o,Value.ownBlock])).2.1
theorem zur {l:List ByteArray} {x:ByteArray} {j:Nat} (o:j<l.length) (h:((l.getD j sNone).toList==x.toList)=true):zbe l x=true:=by
 rw[zbe,List.any_eq_true]
 exact⟨l[j],List.getElem_mem o,by simpa [List.getD,o] using h⟩
theorem zus {l:List ByteArray} {x:ByteArray} (h: ∀j,j<l.length→((l.getD j sNone).toList==x.toList)=false):zbe l x=false:=by
 rw[Bool.eq_false_iff,zbe]
 intro k
 rw[List.any_eq_true] at k
 obtain⟨y,D,o⟩:=k
 obtain⟨j,z,rfl⟩:=List.getElem_of_mem D
 have:=h j z
 simp only[List.getD,List.getElem?_eq_getElem z,Option.getD_some] at this
 rw[this] at o
 cases o
theorem zut {C:Cx} {x:PR} {q:PS} {z:Int} (D:Is x q z) (E:(decide (z<0)&&((zf C q.pos).kind==3))=false):Is2 (bd x (zy C)) q (zbC C q.pos z) sNone:=by
 unfold zbC
 by_cases j:z<0
 ·obtain⟨o,H⟩:=zaF D j
  simp only[j,decide_true,Bool.true_and] at E
  rw[o,zh,zy,E,if_pos j]
  rfl
 ·obtain⟨e,o,H⟩:=zd2 D j
  rw[o,zec,if_neg j]
  exact H
theorem zuu (C:Cx) (J E j:Nat) (x:PR) (S:Sv) (q:PS) (z:Int) (d:Nat) (w:World) (hx:Is x q z) (N:Mem C J E j S q w) (O:(decide (z<0)&&((zf C q.pos).kind==3))=false):
  Calls Tryz.prog 97 #[pv C J E S q z d] w (zdN C J E j (bd x (zy C)) d S w):=by
 have U:=zc N
 have D:=N.tok
 have H:=N.few
 have X:Hid (Is2 (bd x (zy C)) q (zbC C q.pos z) sNone):=zut hx O
 clear hx N
 by_cases hz:z<0
 ·have V:decide (0≤z)=false:=decide_eq_false (by omega)
  simp only[hz,decide_true,Bool.true_and] at O
  by_cases hp:q.pos<C.ts.length
  ·obtain⟨M,_,_,_⟩:=D.cells hp (d:=⟨0,sNone,0,C.fin⟩)
   have aa:=(zan D).1
   change _=some (Value.int .i64 (zf C q.pos).kind) at M
   generalize Q:zf C q.pos=t at M O
   have ab:(t.kind !=3)=true:=by rw[bne,O];rfl
   clear Q
   unfold pv
   go_enter Tryz.func97,Tryz.ntmps97
   go_wp2_with fail
   refine (zd0 C J E j S q z d _ (zv (zv D _) _) H).mono ?_
   rintro e w2 ⟨rfl,o⟩
   have I:Hid (_=_):=(zcE o).2
   obtain⟨M,Y,c2,c3,Z,c5,c6,c7,c8,c9,K,L,cf⟩:=zao I.out
   unfold pv
   go_wp2
   refine bodyPost_ret (zaK rfl _ _ (w.heap.size+1) 55 _ (0,0) _ rfl (zbj I.out) Tryz.underlying55 rfl (by kernel_rfl)) rfl ?_
   exact zeo rfl X.out U.out (zbX (zbs o) (Nat.le_succ _) ..)
  ·unfold pv
   go_enter Tryz.func97,Tryz.ntmps97
   go_wp2_with fail
   refine (zd0 C J E j S q z d _ (zv (zv D _) _) H).mono ?_
   rintro e w2 ⟨rfl,o⟩
   have I:Hid (_=_):=(zcE o).2
   obtain⟨M,Y,c2,c3,Z,c5,c6,c7,c8,c9,K,L,cf⟩:=zao I.out
   unfold pv
   go_wp2
   refine bodyPost_ret (zaK rfl _ _ (w.heap.size+1) 55 _ (0,0) _ rfl (zbj I.out) Tryz.underlying55 rfl (by kernel_rfl)) rfl ?_
   exact zeo rfl X.out U.out (zbX (zbs o) (Nat.le_succ _) ..)
 ·have V:decide (0≤z)=true:=decide_eq_true (by omega)
  unfold pv
  go_enter Tryz.func97,Tryz.ntmps97
  go_wp2_with fail
  refine (zd0 C J E j S q z d _ (zv (zv D _) _) H).mono ?_
  rintro e w2 ⟨rfl,o⟩
  have I:Hid (_=_):=(zcE o).2
  obtain⟨M,Y,c2,c3,Z,c5,c6,c7,c8,c9,K,L,cf⟩:=zao I.out
  unfold pv
  go_wp2
  refine bodyPost_ret (zaK rfl _ _ (w.heap.size+1) 55 _ (0,0) _ rfl (zbj I.out) Tryz.underlying55 rfl (by kernel_rfl)) rfl ?_
  exact zeo rfl X.out U.out (zbX (zbs o) (Nat.le_succ _) ..)
def txt (C:Cx) (q:PS):ByteArray:=(zf C q.pos).text
theorem zuv {C:Cx} {q:PS} (o:((zf C q.pos).kind==3)=true) (j:zbe q.rq (txt C q)=true):zy C q= .ok (adv q,txt C q):=by
 unfold txt at j
 rw[zy,if_pos o,if_pos j];rfl
theorem zuw {C:Cx} {q:PS} (z:((zf C q.pos).kind==3)=true) (j:zbe q.rq (txt C q)=false) (o:40≤q.rq.length):zy C q= .error (zu C q.pos):=by
 unfold txt at j
 rw[zy,if_pos z,j,if_pos o];rfl
theorem zux {C:Cx} {q:PS} (z:((zf C q.pos).kind==3)=true) (j:zbe q.rq (txt C q)=false) (o: ¬40≤q.rq.length):zy C q= .ok ({adv q with rq:=q.rq++[txt C q]},txt C q):=by
 unfold txt at j
 rw[zy,if_pos z,j,if_neg o];rfl
theorem zmy (C:Cx) (Z D o:Nat) (S:Sv) (q:PS) (d:Nat) (w:World) (L:Mem C Z D o S q w) (h3:((zf C q.pos).kind==3)=true) (g:Nat) (K:q.rq.length=0∨S.rq.a=some ⟨g,0,none⟩):
  Calls Tryz.prog 97 #[pv C Z D S q (-1) d] w (zdN C Z D o (zy C q) d S w):=by
 obtain⟨i0,hi,ah,ad,ab⟩:=info_parts Tryz.infoString
 have E:=zc L
 have H3:=zc h3
 have M:q.pos<C.ts.length:=zeJ h3 (by decide)
 have ak:=L.few
 have aq:=L.inv.rq
 have aj:=(zan L.tok).1
 obtain⟨c0,c1,_,_⟩:=L.tok.cells M (d:=⟨0,sNone,0,C.fin⟩)
 change _=some (Value.int .i64 (zf C q.pos).kind) at c0
 change _=some (Value.string (txt C q)) at c1
 generalize (zf C q.pos).kind=kd at c0 h3
 have al:(kd !=3)=false:=by rw[bne,h3];rfl
 have ag:=zc K
 obtain⟨R,hR⟩: ∃R:Nat→ByteArray,∀j,R j=q.rq.getD j sNone:=⟨fun j=>q.rq.getD j sNone,fun _=>rfl⟩
 have HR:=zc hR
 have HC:Hid (∀j,j<q.rq.length→w.cell? ⟨g,j,none⟩=some (.string (R j))):=fun j V=>by
  rcases K with e|e
  ·omega
  ·rw[hR];exact E.out.own.rq.str e V
 clear hR
 generalize U:txt C q=tx at c1
 have z:=zc U
 have H:=fun o1 o2 o3=>((E.out.own.rq.alloc o1).alloc o2).alloc o3
 clear U L K
 unfold pv
 go_enter Tryz.func97,Tryz.ntmps97
 go_wp2
 go_loop [5] (fun i=>∃k:Nat,k≤q.rq.length∧i= .int .i64 k∧∀j,j<k→¬(R j).toList=tx.toList) (fun i=>(q.rq.length-intOf i).toNat)
 case atStart=>exact⟨0,Nat.zero_le _,rfl,fun j V=>absurd V (Nat.not_lt_zero j)⟩
 case round=>
  obtain⟨k,hk,rfl,X⟩:=hrel
  have N:=zc X
  clear X
  by_cases O:k<q.rq.length
  ·have ha:S.rq.a=some ⟨g,0,none⟩:=ag.out.elim (fun e=>by omega) id
   have ap:=HC.out k O
   have am:=E.out.own.rq.lt ha
   cases he:((R k).toList==tx.toList) with
   |true=>
    have Q:Hid (zy C q= .ok (adv q,tx)):=by
     show zy C q= .ok (adv q,tx)
     rw[←z.out]
     exact zuv H3.out (zur O (by rw[←HR.out,z.out];exact he))
    have HA:=zc ha
    go_wp2
    refine bodyPost_ret (zaK rfl _ _ (w.heap.size+1) 55 _ (0,0) _ rfl (zdz w _ _) Tryz.underlying55 rfl (by kernel_rfl)) rfl ?_
    rw[Q.out]
    exact zeo (q':=adv q) (z':=-1) (by rw[pv,HA.out];rfl) ⟨rfl,rfl,rfl⟩ (E.out.adv M) (zcD w _ _)
   |false=>
    have HX:Hid (∀j,j<k+1→¬(R j).toList=tx.toList):=fun j V=>by
     by_cases e:j=k
     ·rw[e];exact beq_eq_false_iff_ne.1 he
     ·exact N.out j (by omega)
    go_wp2
    go_round
    case rel=>exact⟨k+1,by omega,by go_num,HX.out⟩
    case measure=>simp[intOf];omega
  ·have HN:Hid (zbe q.rq (txt C q)=false):=zus fun j V=>by rw[z.out,←HR.out];exact beq_eq_false_iff_ne.2 (N.out j (by omega))
   by_cases hn:40≤q.rq.length
   ·have qn:decide ((40:Int)≤(q.rq.length:Int))=true:=decide_eq_true (by omega)
    have Q:Hid (zy C q= .error (zu C q.pos)):=zuw H3.out HN.out hn
    go_wp2_with fail
    refine (zfD C Z D o S (adv q) (-1) d _ (((E.out.adv M).alloc _).alloc _) (by decide) (by simp[adv])).mono ?_
    rintro e w2 ⟨rfl,J⟩
    have G3:Hid (_=_):=(zcE J).2
    obtain⟨b0,b1,b2,b3,b4,b5,b6,b7,b8,b9,aa,ai,bf⟩:=zao G3.out
    have HB:Hid (Below w.heap.size w w2):=zbs J
    clear J
    unfold pv
    go_wp2
    refine bodyPost_ret (zaK rfl _ _ (w.heap.size+1) 55 _ (0,0) _ rfl (zbj G3.out) Tryz.underlying55 rfl (by kernel_rfl)) rfl ?_
    rw[Q.out]
    exact zeo (q':=adv q) (z':=(zu C q.pos:Int)) rfl rfl (E.out.adv M) (zbX HB.out (Nat.le_succ _) ..)
   ·have qn:decide ((40:Int)≤(q.rq.length:Int))=false:=decide_eq_false (by omega)
    have Q:Hid (zy C q= .ok ({adv q with rq:=q.rq++[tx]},tx)):=by
     show zy C q= .ok ({adv q with rq:=q.rq++[tx]},tx)
     rw[←z.out]
     exact zux H3.out HN.out hn
    go_wp2_with (at_builtin;refine zcC _ rfl _ _ 26 rfl o 9 i0 _ 1 16 Tryz.underlying26 hi ah ad ab rfl (by decide) (by decide) S.rq q.rq.length _ (by rfl) (H _ _ _) (w.heap.size+1+1) [.string tx] (by rfl) (by exact (zaY w _ _ _).2.2) rfl (by intro u hu;simp at hu;subst hu;rfl) (by omega) (by have:=E.out.base;rw[zad];omega) ?_)
    intro r' w2 hr hg Y
    have ae:=zc hr
    have HG:=zc hg
    have ac:=zc Y
    have I:=fun b hb=>zep (W:=w) E.out.own (Nat.le_refl _) (r:=S.rq.blk) (fun k e=>.inl e) b hb
    have g1:=(hg.block w.heap.size (by rw[zad];omega) (I _ (Nat.le_refl _))).trans (zaY w _ _ _).1
    have g2:=(hg.block (w.heap.size+1) (by rw[zad];omega) (I _ (by omega))).trans (zaY w _ _ _).2.1
    obtain⟨a0,a1,a2,a3,a4,a5,a6,a7,a8,a9,ao,an,af⟩:=zao g1
    obtain⟨b0,b1,b2,b3,b4,b5,b6,b7,b8,b9,aa,ai,bf⟩:=zao g2
    have G2:=zc g2
    clear g1 g2 hg hr Y I H
    go_wp2
    refine bodyPost_ret (zaK rfl _ _ (w.heap.size+1) 55 _ (0,0) _ rfl (zbj ((zx (by omega)).trans G2.out)) Tryz.underlying55 rfl (by kernel_rfl)) rfl ?_
    obtain⟨m',s'⟩:=(E.out.adv M).grow_rq (x:=tx) (zcW w _ _ _) HG.out ae.out (by rw[zad];exact ac.out) (((Off.refl _ _ _).set (b:=w.heap.size) (Nat.le_refl _) (by rw[zad];omega) _ _).set12 (b:=w.heap.size+1) (by omega) (by rw[zad];omega) ..) (by show q.rq.length<40;omega)
    rw[Q.out]
    exact⟨_,{adv q with rq:=q.rq++[tx]},-1,tx,by simp[pv,adv],⟨rfl,rfl,rfl⟩,m',s'⟩
theorem zeD (C:Cx) (D o j:Nat) (x:PR) (S:Sv) (q:PS) (z:Int) (d:Nat) (w:World) (I:Is x q z) (H:Mem C D o j S q w):
  Calls Tryz.prog 97 #[pv C D o S q z d] w (zdN C D o j (bd x (zy C)) d S w):=by
 cases E:(decide (z<0)&&((zf C q.pos).kind==3)) with
 |false=>exact zuu C D o j x S q z d w I H E
 |true=>
  rw[Bool.and_eq_true,decide_eq_true_eq] at E
  obtain⟨rfl,rfl⟩:=zaF I E.1
  rw[zh]
  rcases H.own.rq.addr with e|⟨g,e⟩
  ·exact zmy C D o j S q d w H E.2 0 (.inl e)
  ·exact zmy C D o j S q d w H E.2 g (.inr e)
abbrev set12 (w:World) (b:Nat) (x0 x1 x2 x3 x4 x5 x6 x7 x8 x9 x10 x11:Value):World:=
 ((((((((((((w.setCell ⟨b,0,none⟩ x0).setCell ⟨b,1,none⟩ x1).setCell ⟨b,2,none⟩ x2).setCell ⟨b,3,none⟩ x3).setCell ⟨b,4,none⟩ x4).setCell ⟨b,5,none⟩ x5).setCell ⟨b,6,none⟩ x6).setCell ⟨b,7,none⟩ x7).setCell ⟨b,8,none⟩ x8).setCell ⟨b,9,none⟩ x9).setCell ⟨b,10,none⟩ x10).setCell ⟨b,11,none⟩ x11)
theorem zje (w:World) (a:Addr) (u:Value):(w.setCell a u).heap.size=w.heap.size:=by show (w.heap.modify _ _).size=_;simp
theorem zuy (w:World) (b:Nat) (z N E K I L D J H M o j:Value):(set12 w b z N E K I L D J H M o j).heap.size=w.heap.size:=by
 unfold set12
 simp only[zje]
theorem zgi {w:World} {b k:Nat} (h:k≠b) (z N D K I L E J H M o j:Value):(set12 w b z N D K I L E J H M o j).heap[k]? =w.heap[k]?:=by
 unfold set12
 rw[zx h,zx h,zx h,zx h,zx h,zx h,zx h,zx h,zx h,zx h,zx h,zx h]
structure Bx (gt:Nat) (S:Sv) (w:World) (b:Nat) (cs:Array Value):Prop where
 heap:w.heap[b]? =some (.cells cs 55 (0,0))
 free: ¬S.has b
 ne:b≠gt
theorem Bx.lt {j b:Nat} {S:Sv} {w:World} {cs:Array Value} (h:Bx j S w b cs):b<w.heap.size:=(Array.getElem?_eq_some_iff.1 h.heap).1
theorem Bx.stp {o b:Nat} {S z:Sv} {w j:World} {cs:Array Value} (h:Bx o S w b cs) (k:Stp S w z j):Bx o z j b cs:=
 ⟨(k.block b h.lt h.free).trans h.heap,fun g=>(k.sub b g).elim h.free fun D=>by have:=h.lt;omega,h.ne⟩
theorem Bx.below {o b:Nat} {S:Sv} {w j:World} {cs:Array Value} (h:Bx o S w b cs) (k:Below w.heap.size w j):Bx o S j b cs:=⟨(k.block b h.lt).trans h.heap,h.free,h.ne⟩
theorem Bx.alloc {j b:Nat} {S:Sv} {w:World} {cs:Array Value} (h:Bx j S w b cs) (o:Obj):Bx j S (w.alloc o) b cs:=h.below ((Below.refl _ _).alloc (Nat.le_refl _) _)
theorem Bx.new {C:Cx} {z o j:Nat} {S:Sv} {q:PS} {w:World} (h:Mem C z o j S q w) (cs:Array Value):Bx z S (w.alloc (.cells cs 55 (0,0))) w.heap.size cs:=
 ⟨heap_alloc_new w _,fun g=>by have:=(h.own.has g).2;omega,by have:=(zan h.tok).1;omega⟩
theorem Bx.set {j b:Nat} {S:Sv} {w:World} {cs:Array Value} (h:Bx j S w b cs) (i:Nat) (u:Value):Bx j S (w.setCell ⟨b,i,none⟩ u) b (cs.setIfInBounds i u):=⟨zcv h.heap,h.free,h.ne⟩
theorem Bx.set_other {j b c:Nat} {S:Sv} {w:World} {cs:Array Value} (h:Bx j S w b cs) (o:b≠c) (i:Nat) (u:Value):Bx j S (w.setCell ⟨c,i,none⟩ u) b cs:=⟨(zx o).trans h.heap,h.free,h.ne⟩
theorem Bx.put {U b:Nat} {S:Sv} {w:World} {v0 v1 v2 X Z v5 v6 V v8 Y z D:Value} (h:Bx U S w b #[v0,v1,v2,X,Z,v5,v6,V,v8,Y,z,D]) (J O K N M H Q L E I j o:Value):
  Bx U S (set12 w b J O K N M H Q L E I j o) b #[J,O,K,N,M,H,Q,L,E,I,j,o]:=⟨zbj h.heap,h.free,h.ne⟩
theorem Bx.other {z b c:Nat} {S:Sv} {w:World} {cs:Array Value} (h:Bx z S w b cs) (K:b≠c) (D Q E M J N H L I O o j:Value):Bx z S (set12 w c D Q E M J N H L I O o j) b cs:=⟨(zgi K ..).trans h.heap,h.free,h.ne⟩
theorem Bx.at1 {H b:Nat} {S:Sv} {w:World} {D O N E M J K z L I o j:Value} (h:Bx H S w b #[D,O,N,E,M,J,K,z,L,I,o,j]) (u:Value):Bx H S (w.setCell ⟨b,1,none⟩ u) b #[D,u,N,E,M,J,K,z,L,I,o,j]:=by simpa using h.set 1 u
theorem Bx.at11 {I b:Nat} {S:Sv} {w:World} {D E O H N K L z M J j o:Value} (h:Bx I S w b #[D,E,O,H,N,K,L,z,M,J,j,o]) (u:Value):Bx I S (w.setCell ⟨b,11,none⟩ u) b #[D,E,O,H,N,K,L,z,M,J,j,u]:=by simpa using h.set 11 u
theorem Bx.box {O b:Nat} {S:Sv} {w:World} {D E N H M J K z L I o j:Value} (h:Bx O S w b #[D,E,N,H,M,J,K,z,L,I,o,j]):Box w b D E N H M J K z L I o j:=zao h.heap
theorem Mem.set {C:Cx} {z o j b:Nat} {S:Sv} {q:PS} {w:World} (h:Mem C z o j S q w) {cs:Array Value} (D:Bx z S w b cs) (i:Nat) (u:Value):Mem C z o j S q (w.setCell ⟨b,i,none⟩ u):=
 ⟨h.own.keep fun k g=>zx (b:=k) fun e=>D.free (by rw[←e];exact g),h.inv,zbJ h.tok (zx D.ne.symm),h.few,by rw[zje];exact h.base⟩
theorem Mem.put {C:Cx} {z o j b:Nat} {S:Sv} {q:PS} {w:World} (h:Mem C z o j S q w) {cs:Array Value} (H:Bx z S w b cs) (I V J O M Q K N L U E D:Value):Mem C z o j S q (set12 w b I V J O M Q K N L U E D):=
 ⟨h.own.keep fun k g=>zgi (k:=k) (fun e=>H.free (by rw[←e];exact g)) _ _ _ _ _ _ _ _ _ _ _ _,h.inv,zbJ h.tok (zgi H.ne.symm ..),h.few,by rw[zuy];exact h.base⟩
structure SB (B:Nat) (S:Sv) (w:World) (S':Sv) (w':World):Prop where
 os:w'.os=w.os
 tape:w'.tape=w.tape
 output:w'.output=w.output
 size:w.heap.size≤w'.heap.size
 low:B≤w.heap.size
 block: ∀k,k<B→¬S.has k→w'.heap[k]? =w.heap[k]?
 sub: ∀k,S'.has k→S.has k∨B≤k
theorem SB.start {S:Sv} {w j:World} (h:Below w.heap.size w j):SB w.heap.size S w S j:=⟨h.os,h.tape,h.output,h.size,Nat.le_refl _,fun k o _=>h.block k o,fun _ g=>.inl g⟩
theorem SB.step {B:Nat} {S E z:Sv} {w D H:World} (h:SB B S w E D) (k:Stp E D z H):SB B S w z H:=
 ⟨k.os.trans h.os,k.tape.trans h.tape,k.output.trans h.output,Nat.le_trans h.size k.size,h.low,
  fun i j o=>(k.block i (by have:=h.size;have:=h.low;omega) fun g=>(h.sub i g).elim o fun I=>by omega).trans (h.block i j o),
  fun i j=>(k.sub i j).elim (h.sub i) fun g=>.inr (by have:=h.size;have:=h.low;omega)⟩
theorem SB.below {B:Nat} {S z:Sv} {w j o:World} (h:SB B S w z j) (k:Below j.heap.size j o):SB B S w z o:=h.step (Stp.below k)
theorem SB.alloc {B:Nat} {S j:Sv} {w z:World} (h:SB B S w j z) (o:Obj):SB B S w j (z.alloc o):=h.below ((Below.refl _ _).alloc (Nat.le_refl _) _)
theorem SB.set {B:Nat} {S o:Sv} {w j:World} (h:SB B S w o j) {b:Nat} (E:B≤b) (i:Nat) (u:Value):SB B S w o (j.setCell ⟨b,i,none⟩ u):=
 ⟨h.os,h.tape,h.output,by rw[zje];exact h.size,h.low,fun k D z=>(zx (by omega)).trans (h.block k D z),h.sub⟩
theorem SB.put {B:Nat} {S O:Sv} {w L:World} (h:SB B S w O L) {b:Nat} (j:B≤b) (D U E M J N H K I Q z o:Value):SB B S w O (set12 L b D U E M J N H K I Q z o):=
 (((((((((((h.set j 0 D).set j 1 U).set j 2 E).set j 3 M).set j 4 J).set j 5 N).set j 6 H).set j 7 K).set j 8 I).set j 9 Q).set j 10 z).set j 11 o
theorem SB.done {S j:Sv} {w o:World} (h:SB w.heap.size S w j o):Stp S w j o:=⟨h.os,h.tape,h.output,h.size,h.block,h.sub⟩
theorem zQ {P:Program} {j:Code} {Q:Exit→Act→World→Prop} {a:Act} {w0:World} {R:World→Prop} (o:R w0) (h: ∀W,R W→Code.wp P j Q a W):Code.wp P j Q a w0:=h w0 o
theorem Mem.two {C:Cx} {D z j:Nat} {S:Sv} {q:PS} {w o:World} {E cb:Array Value} (h:Mem C D z j S q w) (H:Below ((w.alloc (.cells E 55 (0,0))).alloc (.cells cb 55 (0,0))).heap.size ((w.alloc (.cells E 55 (0,0))).alloc (.cells cb 55 (0,0))) o):
  Bx D S o w.heap.size E∧Bx D S o (w.heap.size+1) cb∧Mem C D z j S q o∧SB w.heap.size S w S o:=
 ⟨((Bx.new h _).alloc _).below H,by have:=(Bx.new (h.alloc (.cells E 55 (0,0))) cb).below H;rw[zW] at this;exact this,h.later (zbs H),SB.start (zbs H)⟩
theorem Mem.two2 {C:Cx} {D E j:Nat} {S z:Sv} {q:PS} {w o:World} {H cb:Array Value} (h:Mem C D E j S q w) (s:Stp S ((w.alloc (.cells H 55 (0,0))).alloc (.cells cb 55 (0,0))) z o):
  Bx D z o w.heap.size H∧Bx D z o (w.heap.size+1) cb∧SB w.heap.size S w z o:=
 ⟨((Bx.new h _).alloc _).stp s,by have:=(Bx.new (h.alloc (.cells H 55 (0,0))) cb).stp s;rw[zW] at this;exact this,(SB.start (zcD w _ _)).step s⟩
theorem zac {C:Cx} {E o j:Nat} {y:PR} {d:Nat} {S z:Sv} {w D:World} {q':PS} {z':Int} {v:Value} (I:v=pv C E o z q' z' d) (J:Is y q' z') (H:Mem C E o j z q' D) (K:SB w.heap.size S w z D):Out C E o j y d S w (.returned v) D:=
 ⟨z,q',z',by rw[I],J,H,K.done⟩
end Go.Proofs.YthfeoomfiafldaaGreat
