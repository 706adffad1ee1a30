/-
  What impl.ModOk answers: the walk.
  What spec's l4Spec answers: the walk.
  Boxes of a program under way,through calls and stores. No program is spoken of but for the numbers of its types.
-/
import Derived.Test.YthfeoomfiafldaaGreatCdImplParseAll
namespace Go.Proofs.YthfeoomfiafldaaGreat
set_option maxRecDepth 100000
set_option maxHeartbeats 6400000
open Go.RowKit Go.PlainAid Go.Sort
theorem zuq (o:Nat) (S:Sv) (m:Md) (scr:Bool) (w:World) (h:OwnMd w o S m) (hm:Small m) (V:Tree m→(zbZ m).size≤4294967296):
  Calls Tryz.prog 13 #[zbM S m,.bool scr] w fun e w'=>zrA (zbZ m) m scr e∧Below w.heap.size w w':=by
 have HH:=zc h
 have SM:=zc hm
 have HU:=zc V
 have SF:Hid (zhd m):=hm.few
 clear h hm V
 unfold zbM
 go_enter Tryz.func13,Tryz.ntmps13
 go_upto_region 1 with fail
 have H:Hid (Below w.heap.size w (w.alloc (.cells #[.slice S.rq.a m.rq.length S.rq.cap,.slice S.im.a m.im.length S.im.cap,.slice S.ep.a m.ep.length S.ep.cap,.slice S.st.a m.st.length S.st.cap,.slice S.ex.a m.ex.length S.ex.cap] 32))):=(Below.refl _ _).alloc (Nat.le_refl _) _
 refine zaA (R:=fun W=>W.heap[w.heap.size]? =some (.cells #[.slice S.rq.a m.rq.length S.rq.cap,.slice S.im.a m.im.length S.im.cap,.slice S.ep.a m.ep.length S.ep.cap,.slice S.st.a m.st.length S.st.cap,.slice S.ex.a m.ex.length S.ex.cap] 32 (0,0))∧OwnMd W o S m∧Below w.heap.size w W) ⟨heap_alloc_new w _,HH.out.later H.out,H.out⟩ ?_
 obtain⟨gx,L⟩: ∃gx,gx=w.heap.size:=⟨_,rfl⟩
 rw[←L]
 rintro w1 ⟨hx,ho,z⟩
 rw[L] at z
 clear L H HH
 have X1:=zc hx
 have O1:=zc ho
 have X:=zc z
 clear hx ho z
 obtain⟨c0,c1,c2,Z,Y,cf⟩:=zaa X1.out
 go_wp2_with fail
 refine (zlR o S m scr w1 O1.out SM.out (fun t=>Nat.le_trans (HU.out t) (by omega))).mono ?_
 rintro e w2 ⟨D,z⟩
 obtain⟨t,K,rfl⟩:=D.form
 have PR:=zc K
 have ht:=K.size HU.out
 have X2:=zc ((z.block _ (Array.getElem?_eq_some_iff.1 X1.out).1).trans X1.out)
 have O2:=zc (O1.out.later z)
 have Q:=zc (X.out.trans (z.mono X.out.size))
 clear D K z c0 c1 c2 Z Y cf
 go_wp2_with fail
 refine (zhq t scr w2 ht).mono ?_
 rintro e N ⟨D,z⟩
 have X3:=zc ((z.block _ (Array.getElem?_eq_some_iff.1 X2.out).1).trans X2.out)
 have O3:=zc (O2.out.later z)
 have E:=zc (Q.out.trans (z.mono Q.out.size))
 clear z
 rcases D.md with ⟨q,j,n,O,hn,rfl,I,J⟩|⟨p,O,rfl⟩
 ·have OK:=zc (zrC (m:=m) O hn)
  have O4:=zc I
  have NF:=zc J
  clear D O hn I J
  unfold zbM
  go_upto_region 2 with fail
  have H:Hid (Below N.heap.size N (N.alloc (.cells #[.slice j.rq.a n.rq.length j.rq.cap,.slice j.im.a n.im.length j.im.cap,.slice j.ep.a n.ep.length j.ep.cap,.slice j.st.a n.st.length j.st.cap,.slice j.ex.a n.ex.length j.ex.cap] 32))):=(Below.refl _ _).alloc (Nat.le_refl _) _
  refine zaA (R:=fun W=>W.heap[gx]? =some (.cells #[.slice S.rq.a m.rq.length S.rq.cap,.slice S.im.a m.im.length S.im.cap,.slice S.ep.a m.ep.length S.ep.cap,.slice S.st.a m.st.length S.st.cap,.slice S.ex.a m.ex.length S.ex.cap] 32 (0,0))∧W.heap[N.heap.size]? =some (.cells #[.slice j.rq.a n.rq.length j.rq.cap,.slice j.im.a n.im.length j.im.cap,.slice j.ep.a n.ep.length j.ep.cap,.slice j.st.a n.st.length j.st.cap,.slice j.ex.a n.ex.length j.ex.cap] 32 (0,0))∧OwnMd W o S m∧OwnMd W w2.heap.size j n∧Below w.heap.size w W) ⟨(H.out.block _ (Array.getElem?_eq_some_iff.1 X3.out).1).trans X3.out,heap_alloc_new N _,O3.out.later H.out,O4.out.later H.out,E.out.trans (H.out.mono E.out.size)⟩ ?_
  obtain⟨gy,U⟩: ∃gy,gy=N.heap.size:=⟨_,rfl⟩
  rw[←U]
  intro w4 h4
  have M:=zc h4
  clear h4 U H X3 O3 O4 E
  obtain⟨c0,c1,c2,Z,Y,cf⟩:=zaa M.out.1
  obtain⟨d0,d1,d2,d3,d4,df⟩:=zaa M.out.2.1
  go_wp2_with fail
  refine ((zrG o w2.heap.size S j m n _ M.out.2.2.1 M.out.2.2.2.1 SF.out)).mono ?_
  rintro e w5 ⟨⟨r,rfl,hr⟩,z⟩
  have HR:=zc hr
  have aa:=zc (M.out.2.2.2.2.trans (z.mono M.out.2.2.2.2.size))
  clear hr z c0 c1 c2 Z Y cf d0 d1 d2 d3 d4 df
  go_wp2
  go_ret
  exact⟨⟨t,PR.out,r,rfl,HR.out.trans (Iff.trans ⟨Eq.symm,Eq.symm⟩ OK.out.symm)⟩,aa.out⟩
 ·have NO:=zc (zrB (m:=m) O)
  clear D O
  go_wp2
  go_ret
  exact⟨⟨t,PR.out,false,rfl,⟨fun k=>(by cases k),fun k=>absurd k NO.out⟩⟩,(E.out.alloc E.out.size _)⟩
theorem Tryz.infoString:(Tryz.prog.info? 9).map (fun i=>(i.zero,i.size,i.bytes))=some (some (.string {data:=#[]}),1,16):=by kernel_rfl
theorem OwnR.addr {w:World} {j size n:Nat} {e:TypeId} {r:Rw} {xs:List Value} (h:OwnR w j e size r n xs):n=0∨∃g,r.a=some ⟨g,0,none⟩:=by
 rcases h.2 with ⟨_,z⟩|⟨g,E,D,o,_⟩
 ·exact .inl z
 ·simp only[Value.slice.injEq] at o
  exact .inr ⟨g,o.1⟩
theorem OwnR.str {w:World} {o:Nat} {e:TypeId} {r:Rw} {l:List ByteArray} {g:Nat} (h:OwnR w o e 1 r l.length (l.map .string)) (z:r.a=some ⟨g,0,none⟩) {j:Nat} (D:j<l.length):w.cell? ⟨g,j,none⟩=some (.string (l.getD j sNone)):=by
 unfold OwnR at h
 rw[z] at h
 rw[h.cellAt j (by omega)]
 simp[List.getD,D]
theorem OwnR.lt {w:World} {j size n:Nat} {e:TypeId} {r:Rw} {xs:List Value} {g:Nat} (h:OwnR w j e size r n xs) (o:r.a=some ⟨g,0,none⟩):g<w.heap.size:=(h.typed (k:=g) (by simp[Rw.blk,o,Value.ownBlock])).2.1
theorem zur {l:List ByteArray} {x:ByteArray} {j:Nat} (o:j<l.length) (h:((l.getD j sNone).toList==x.toList)=true):zbe l x=true:=by
 rw[zbe,List.any_eq_true]
 exact⟨l[j],List.getElem_mem o,by simpa [List.getD,o] using h⟩
theorem zus {l:List ByteArray} {x:ByteArray} (h: ∀j,j<l.length→((l.getD j sNone).toList==x.toList)=false):zbe l x=false:=by
 rw[Bool.eq_false_iff,zbe]
 intro k
 rw[List.any_eq_true] at k
 obtain⟨y,D,o⟩:=k
 obtain⟨j,z,rfl⟩:=List.getElem_of_mem D
 have:=h j z
 simp only[List.getD,List.getElem?_eq_getElem z,Option.getD_some] at this
 rw[this] at o
 cases o
theorem zut {C:Cx} {x:PR} {q:PS} {z:Int} (D:Is x q z) (H:(decide (z<0)&&((zf C q.pos).kind==3))=false):Is2 (bd x (zy C)) q (zbC C q.pos z) sNone:=by
 unfold zbC
 by_cases j:z<0
 ·obtain⟨o,E⟩:=zaF D j
  simp only[j,decide_true,Bool.true_and] at H
  rw[o,zh,zy,H,if_pos j]
  rfl
 ·obtain⟨e,o,E⟩:=zd2 D j
  rw[o,zec,if_neg j]
  exact E
theorem zuu (C:Cx) (J E j:Nat) (x:PR) (S:Sv) (q:PS) (z:Int) (d:Nat) (w:World) (hx:Is x q z) (N:Mem C J E j S q w) (O:(decide (z<0)&&((zf C q.pos).kind==3))=false):
  Calls Tryz.prog 97 #[pv C J E S q z d] w (zdN C J E j (bd x (zy C)) d S w):=by
 have X:=zc N
 have o:=N.tok
 have H:=N.few
 have V:Hid (Is2 (bd x (zy C)) q (zbC C q.pos z) sNone):=zut hx O
 clear hx N
 by_cases hz:z<0
 ·have U:decide (0≤z)=false:=decide_eq_false (by omega)
  simp only[hz,decide_true,Bool.true_and] at O
  by_cases hp:q.pos<C.ts.length
  ·obtain⟨M,_,_,_⟩:=o.cells hp (d:=⟨0,sNone,0,C.fin⟩)
   have aa:=(zan o).1
   change _=some (Value.int .i64 (zf C q.pos).kind) at M
   generalize Q:zf C q.pos=t at M O
   have ab:(t.kind !=3)=true:=by rw[bne,O];rfl
   clear Q
   unfold pv
   go_enter Tryz.func97,Tryz.ntmps97
   go_wp2_with fail
   refine (zd0 C J E j S q z d _ (zv (zv o _) _) H).mono ?_
   rintro e w2 ⟨rfl,D⟩
   have I:Hid (_=_):=(zcE D).2
   obtain⟨M,c1,c2,c3,Z,Y,c6,c7,c8,c9,L,K,cf⟩:=zao I.out
   unfold pv
   go_wp2
   refine bodyPost_ret (zaK rfl _ _ (w.heap.size+1) 55 _ (0,0) _ rfl (zbj I.out) Tryz.underlying55 rfl (by kernel_rfl)) rfl ?_
   exact zeo rfl V.out X.out (zbX (zbs D) (Nat.le_succ _) ..)
  ·unfold pv
   go_enter Tryz.func97,Tryz.ntmps97
   go_wp2_with fail
   refine (zd0 C J E j S q z d _ (zv (zv o _) _) H).mono ?_
   rintro e w2 ⟨rfl,D⟩
   have I:Hid (_=_):=(zcE D).2
   obtain⟨M,c1,c2,c3,Z,Y,c6,c7,c8,c9,L,K,cf⟩:=zao I.out
   unfold pv
   go_wp2
   refine bodyPost_ret (zaK rfl _ _ (w.heap.size+1) 55 _ (0,0) _ rfl (zbj I.out) Tryz.underlying55 rfl (by kernel_rfl)) rfl ?_
   exact zeo rfl V.out X.out (zbX (zbs D) (Nat.le_succ _) ..)
 ·have U:decide (0≤z)=true:=decide_eq_true (by omega)
  unfold pv
  go_enter Tryz.func97,Tryz.ntmps97
  go_wp2_with fail
  refine (zd0 C J E j S q z d _ (zv (zv o _) _) H).mono ?_
  rintro e w2 ⟨rfl,D⟩
  have I:Hid (_=_):=(zcE D).2
  obtain⟨M,c1,c2,c3,Z,Y,c6,c7,c8,c9,L,K,cf⟩:=zao I.out
  unfold pv
  go_wp2
  refine bodyPost_ret (zaK rfl _ _ (w.heap.size+1) 55 _ (0,0) _ rfl (zbj I.out) Tryz.underlying55 rfl (by kernel_rfl)) rfl ?_
  exact zeo rfl V.out X.out (zbX (zbs D) (Nat.le_succ _) ..)
def txt (C:Cx) (q:PS):ByteArray:=(zf C q.pos).text
theorem zuv {C:Cx} {q:PS} (o:((zf C q.pos).kind==3)=true) (j:zbe q.rq (txt C q)=true):zy C q= .ok (adv q,txt C q):=by
 unfold txt at j
 rw[zy,if_pos o,if_pos j];rfl
theorem zuw {C:Cx} {q:PS} (z:((zf C q.pos).kind==3)=true) (j:zbe q.rq (txt C q)=false) (o:40≤q.rq.length):zy C q= .error (zu C q.pos):=by
 unfold txt at j
 rw[zy,if_pos z,j,if_pos o];rfl
theorem zux {C:Cx} {q:PS} (z:((zf C q.pos).kind==3)=true) (j:zbe q.rq (txt C q)=false) (o: ¬40≤q.rq.length):zy C q= .ok ({adv q with rq:=q.rq++[txt C q]},txt C q):=by
 unfold txt at j
 rw[zy,if_pos z,j,if_neg o];rfl
theorem zmy (C:Cx) (gt E o:Nat) (S:Sv) (q:PS) (d:Nat) (w:World) (L:Mem C gt E o S q w) (h3:((zf C q.pos).kind==3)=true) (g:Nat) (J:q.rq.length=0∨S.rq.a=some ⟨g,0,none⟩):
  Calls Tryz.prog 97 #[pv C gt E S q (-1) d] w (zdN C gt E o (zy C q) d S w):=by
 obtain⟨i0,hi,ai,ac,ad⟩:=info_parts Tryz.infoString
 have z:=zc L
 have H3:=zc h3
 have X:q.pos<C.ts.length:=zeJ h3 (by decide)
 have aj:=L.few
 have am:=L.inv.rq
 have ak:=(zan L.tok).1
 obtain⟨c0,c1,_,_⟩:=L.tok.cells X (d:=⟨0,sNone,0,C.fin⟩)
 change _=some (Value.int .i64 (zf C q.pos).kind) at c0
 change _=some (Value.string (txt C q)) at c1
 generalize (zf C q.pos).kind=kd at c0 h3
 have an:(kd !=3)=false:=by rw[bne,h3];rfl
 have aa:=zc J
 obtain⟨R,hR⟩: ∃R:Nat→ByteArray,∀j,R j=q.rq.getD j sNone:=⟨fun j=>q.rq.getD j sNone,fun _=>rfl⟩
 have HR:=zc hR
 have HC:Hid (∀j,j<q.rq.length→w.cell? ⟨g,j,none⟩=some (.string (R j))):=fun j Q=>by
  rcases J with e|e
  ·omega
  ·rw[hR];exact z.out.own.rq.str e Q
 clear hR
 generalize Y:txt C q=tx at c1
 have D:=zc Y
 have H:=fun o1 o2 o3=>((z.out.own.rq.alloc o1).alloc o2).alloc o3
 clear Y L J
 unfold pv
 go_enter Tryz.func97,Tryz.ntmps97
 go_wp2
 go_loop [5] (fun i=>∃k:Nat,k≤q.rq.length∧i= .int .i64 k∧∀j,j<k→¬(R j).toList=tx.toList) (fun i=>(q.rq.length-intOf i).toNat)
 case atStart=>exact⟨0,Nat.zero_le _,rfl,fun j Q=>absurd Q (Nat.not_lt_zero j)⟩
 case round=>
  obtain⟨k,hk,rfl,O⟩:=hrel
  have U:=zc O
  clear O
  by_cases N:k<q.rq.length
  ·have ha:S.rq.a=some ⟨g,0,none⟩:=aa.out.elim (fun e=>by omega) id
   have al:=HC.out k N
   have ao:=z.out.own.rq.lt ha
   cases he:((R k).toList==tx.toList) with
   |true=>
    have M:Hid (zy C q= .ok (adv q,tx)):=by
     show zy C q= .ok (adv q,tx)
     rw[←D.out]
     exact zuv H3.out (zur N (by rw[←HR.out,D.out];exact he))
    have HA:=zc ha
    go_wp2
    refine bodyPost_ret (zaK rfl _ _ (w.heap.size+1) 55 _ (0,0) _ rfl (zdz w _ _) Tryz.underlying55 rfl (by kernel_rfl)) rfl ?_
    rw[M.out]
    exact zeo (q':=adv q) (z':=-1) (by rw[pv,HA.out];rfl) ⟨rfl,rfl,rfl⟩ (z.out.adv X) (zcD w _ _)
   |false=>
    have HX:Hid (∀j,j<k+1→¬(R j).toList=tx.toList):=fun j Q=>by
     by_cases e:j=k
     ·rw[e];exact beq_eq_false_iff_ne.1 he
     ·exact U.out j (by omega)
    go_wp2
    go_round
    case rel=>exact⟨k+1,by omega,by go_num,HX.out⟩
    case measure=>simp[intOf];omega
  ·have HN:Hid (zbe q.rq (txt C q)=false):=zus fun j Q=>by rw[D.out,←HR.out];exact beq_eq_false_iff_ne.2 (U.out j (by omega))
   by_cases hn:40≤q.rq.length
   ·have qn:decide ((40:Int)≤(q.rq.length:Int))=true:=decide_eq_true (by omega)
    have M:Hid (zy C q= .error (zu C q.pos)):=zuw H3.out HN.out hn
    go_wp2_with fail
    refine (zfD C gt E o S (adv q) (-1) d _ (((z.out.adv X).alloc _).alloc _) (by decide) (by simp[adv])).mono ?_
    rintro e w2 ⟨rfl,I⟩
    have G3:Hid (_=_):=(zcE I).2
    obtain⟨b0,b1,b2,b3,b4,b5,b6,b7,b8,b9,ae,ab,bf⟩:=zao G3.out
    have HB:Hid (Below w.heap.size w w2):=zbs I
    clear I
    unfold pv
    go_wp2
    refine bodyPost_ret (zaK rfl _ _ (w.heap.size+1) 55 _ (0,0) _ rfl (zbj G3.out) Tryz.underlying55 rfl (by kernel_rfl)) rfl ?_
    rw[M.out]
    exact zeo (q':=adv q) (z':=(zu C q.pos:Int)) rfl rfl (z.out.adv X) (zbX HB.out (Nat.le_succ _) ..)
   ·have qn:decide ((40:Int)≤(q.rq.length:Int))=false:=decide_eq_false (by omega)
    have M:Hid (zy C q= .ok ({adv q with rq:=q.rq++[tx]},tx)):=by
     show zy C q= .ok ({adv q with rq:=q.rq++[tx]},tx)
     rw[←D.out]
     exact zux H3.out HN.out hn
    go_wp2_with (at_builtin;refine zcC _ rfl _ _ 26 rfl o 9 i0 _ 1 16 Tryz.underlying26 hi ai ac ad rfl (by decide) (by decide) S.rq q.rq.length _ (by rfl) (H _ _ _) (w.heap.size+1+1) [.string tx] (by rfl) (by exact (zaY w _ _ _).2.2) rfl (by intro u hu;simp at hu;subst hu;rfl) (by omega) (by have:=z.out.base;rw[zad];omega) ?_)
    intro r' w2 hr Z V
    have ah:=zc hr
    have HG:=zc Z
    have ag:=zc V
    have K:=fun b hb=>zep (W:=w) z.out.own (Nat.le_refl _) (r:=S.rq.blk) (fun k e=>.inl e) b hb
    have g1:=(Z.block w.heap.size (by rw[zad];omega) (K _ (Nat.le_refl _))).trans (zaY w _ _ _).1
    have g2:=(Z.block (w.heap.size+1) (by rw[zad];omega) (K _ (by omega))).trans (zaY w _ _ _).2.1
    obtain⟨a0,a1,a2,a3,a4,a5,a6,a7,a8,a9,ap,aq,af⟩:=zao g1
    obtain⟨b0,b1,b2,b3,b4,b5,b6,b7,b8,b9,ae,ab,bf⟩:=zao g2
    have G2:=zc g2
    clear g1 g2 Z hr V K H
    go_wp2
    refine bodyPost_ret (zaK rfl _ _ (w.heap.size+1) 55 _ (0,0) _ rfl (zbj ((zx (by omega)).trans G2.out)) Tryz.underlying55 rfl (by kernel_rfl)) rfl ?_
    obtain⟨m',s'⟩:=(z.out.adv X).grow_rq (x:=tx) (zcW w _ _ _) HG.out ah.out (by rw[zad];exact ag.out) (((Off.refl _ _ _).set (b:=w.heap.size) (Nat.le_refl _) (by rw[zad];omega) _ _).set12 (b:=w.heap.size+1) (by omega) (by rw[zad];omega) ..) (by show q.rq.length<40;omega)
    rw[M.out]
    exact⟨_,{adv q with rq:=q.rq++[tx]},-1,tx,by simp[pv,adv],⟨rfl,rfl,rfl⟩,m',s'⟩
theorem zeD (C:Cx) (D o j:Nat) (x:PR) (S:Sv) (q:PS) (z:Int) (d:Nat) (w:World) (I:Is x q z) (H:Mem C D o j S q w):
  Calls Tryz.prog 97 #[pv C D o S q z d] w (zdN C D o j (bd x (zy C)) d S w):=by
 cases E:(decide (z<0)&&((zf C q.pos).kind==3)) with
 |false=>exact zuu C D o j x S q z d w I H E
 |true=>
  rw[Bool.and_eq_true,decide_eq_true_eq] at E
  obtain⟨rfl,rfl⟩:=zaF I E.1
  rw[zh]
  rcases H.own.rq.addr with e|⟨g,e⟩
  ·exact zmy C D o j S q d w H E.2 0 (.inl e)
  ·exact zmy C D o j S q d w H E.2 g (.inr e)
abbrev set12 (w:World) (b:Nat) (x0 x1 x2 x3 x4 x5 x6 x7 x8 x9 x10 x11:Value):World:=
 ((((((((((((w.setCell ⟨b,0,none⟩ x0).setCell ⟨b,1,none⟩ x1).setCell ⟨b,2,none⟩ x2).setCell ⟨b,3,none⟩ x3).setCell ⟨b,4,none⟩ x4).setCell ⟨b,5,none⟩ x5).setCell ⟨b,6,none⟩ x6).setCell ⟨b,7,none⟩ x7).setCell ⟨b,8,none⟩ x8).setCell ⟨b,9,none⟩ x9).setCell ⟨b,10,none⟩ x10).setCell ⟨b,11,none⟩ x11)
theorem zje (w:World) (a:Addr) (u:Value):(w.setCell a u).heap.size=w.heap.size:=by show (w.heap.modify _ _).size=_;simp
theorem zuy (w:World) (b:Nat) (L H E M D J z N I K j o:Value):(set12 w b L H E M D J z N I K j o).heap.size=w.heap.size:=by
 unfold set12
 simp only[zje]
theorem zgi {w:World} {b k:Nat} (h:k≠b) (L H E M D J z N I K j o:Value):(set12 w b L H E M D J z N I K j o).heap[k]? =w.heap[k]?:=by
 unfold set12
 rw[zx h,zx h,zx h,zx h,zx h,zx h,zx h,zx h,zx h,zx h,zx h,zx h]
structure Bx (gt:Nat) (S:Sv) (w:World) (b:Nat) (cs:Array Value):Prop where
 heap:w.heap[b]? =some (.cells cs 55 (0,0))
 free: ¬S.has b
 ne:b≠gt
theorem Bx.lt {j b:Nat} {S:Sv} {w:World} {cs:Array Value} (h:Bx j S w b cs):b<w.heap.size:=(Array.getElem?_eq_some_iff.1 h.heap).1
theorem Bx.stp {j b:Nat} {S z:Sv} {w o:World} {cs:Array Value} (h:Bx j S w b cs) (k:Stp S w z o):Bx j z o b cs:=
 ⟨(k.block b h.lt h.free).trans h.heap,fun g=>(k.sub b g).elim h.free fun D=>by have:=h.lt;omega,h.ne⟩
theorem Bx.below {o b:Nat} {S:Sv} {w j:World} {cs:Array Value} (h:Bx o S w b cs) (k:Below w.heap.size w j):Bx o S j b cs:=⟨(k.block b h.lt).trans h.heap,h.free,h.ne⟩
theorem Bx.alloc {j b:Nat} {S:Sv} {w:World} {cs:Array Value} (h:Bx j S w b cs) (o:Obj):Bx j S (w.alloc o) b cs:=h.below ((Below.refl _ _).alloc (Nat.le_refl _) _)
theorem Bx.new {C:Cx} {z o j:Nat} {S:Sv} {q:PS} {w:World} (h:Mem C z o j S q w) (cs:Array Value):Bx z S (w.alloc (.cells cs 55 (0,0))) w.heap.size cs:=
 ⟨heap_alloc_new w _,fun g=>by have:=(h.own.has g).2;omega,by have:=(zan h.tok).1;omega⟩
theorem Bx.set {j b:Nat} {S:Sv} {w:World} {cs:Array Value} (h:Bx j S w b cs) (i:Nat) (u:Value):Bx j S (w.setCell ⟨b,i,none⟩ u) b (cs.setIfInBounds i u):=⟨zcv h.heap,h.free,h.ne⟩
theorem Bx.set_other {j b c:Nat} {S:Sv} {w:World} {cs:Array Value} (h:Bx j S w b cs) (o:b≠c) (i:Nat) (u:Value):Bx j S (w.setCell ⟨c,i,none⟩ u) b cs:=⟨(zx o).trans h.heap,h.free,h.ne⟩
theorem Bx.put {H b:Nat} {S:Sv} {w:World} {v0 v1 v2 Z X V v6 v7 v8 Y z D:Value} (h:Bx H S w b #[v0,v1,v2,Z,X,V,v6,v7,v8,Y,z,D]) (M I Q U O K E N J L o j:Value):
  Bx H S (set12 w b M I Q U O K E N J L o j) b #[M,I,Q,U,O,K,E,N,J,L,o,j]:=⟨zbj h.heap,h.free,h.ne⟩
theorem Bx.other {z b c:Nat} {S:Sv} {w:World} {cs:Array Value} (h:Bx z S w b cs) (J:b≠c) (N I H O E L D Q K M j o:Value):Bx z S (set12 w c N I H O E L D Q K M j o) b cs:=⟨(zgi J ..).trans h.heap,h.free,h.ne⟩
theorem Bx.at1 {L b:Nat} {S:Sv} {w:World} {M O z K I H E N D J o j:Value} (h:Bx L S w b #[M,O,z,K,I,H,E,N,D,J,o,j]) (u:Value):Bx L S (w.setCell ⟨b,1,none⟩ u) b #[M,u,z,K,I,H,E,N,D,J,o,j]:=by simpa using h.set 1 u
theorem Bx.at11 {M b:Nat} {S:Sv} {w:World} {N J z L I H E O D K j o:Value} (h:Bx M S w b #[N,J,z,L,I,H,E,O,D,K,j,o]) (u:Value):Bx M S (w.setCell ⟨b,11,none⟩ u) b #[N,J,z,L,I,H,E,O,D,K,j,u]:=by simpa using h.set 11 u
theorem Bx.box {O b:Nat} {S:Sv} {w:World} {M J z L I H E N D K o j:Value} (h:Bx O S w b #[M,J,z,L,I,H,E,N,D,K,o,j]):Box w b M J z L I H E N D K o j:=zao h.heap
theorem Mem.set {C:Cx} {z o j b:Nat} {S:Sv} {q:PS} {w:World} (h:Mem C z o j S q w) {cs:Array Value} (D:Bx z S w b cs) (i:Nat) (u:Value):Mem C z o j S q (w.setCell ⟨b,i,none⟩ u):=
 ⟨h.own.keep fun k g=>zx (b:=k) fun e=>D.free (by rw[←e];exact g),h.inv,zbJ h.tok (zx D.ne.symm),h.few,by rw[zje];exact h.base⟩
theorem Mem.put {C:Cx} {E o j b:Nat} {S:Sv} {q:PS} {w:World} (h:Mem C E o j S q w) {cs:Array Value} (H:Bx E S w b cs) (Q L K U J N I V M O z D:Value):Mem C E o j S q (set12 w b Q L K U J N I V M O z D):=
 ⟨h.own.keep fun k g=>zgi (k:=k) (fun e=>H.free (by rw[←e];exact g)) _ _ _ _ _ _ _ _ _ _ _ _,h.inv,zbJ h.tok (zgi H.ne.symm ..),h.few,by rw[zuy];exact h.base⟩
structure SB (B:Nat) (S:Sv) (w:World) (S':Sv) (w':World):Prop where
 os:w'.os=w.os
 tape:w'.tape=w.tape
 output:w'.output=w.output
 size:w.heap.size≤w'.heap.size
 low:B≤w.heap.size
 block: ∀k,k<B→¬S.has k→w'.heap[k]? =w.heap[k]?
 sub: ∀k,S'.has k→S.has k∨B≤k
theorem SB.start {S:Sv} {w j:World} (h:Below w.heap.size w j):SB w.heap.size S w S j:=⟨h.os,h.tape,h.output,h.size,Nat.le_refl _,fun k o _=>h.block k o,fun _ g=>.inl g⟩
theorem SB.step {B:Nat} {S o E:Sv} {w D H:World} (h:SB B S w o D) (k:Stp o D E H):SB B S w E H:=
 ⟨k.os.trans h.os,k.tape.trans h.tape,k.output.trans h.output,Nat.le_trans h.size k.size,h.low,
  fun i j z=>(k.block i (by have:=h.size;have:=h.low;omega) fun g=>(h.sub i g).elim z fun I=>by omega).trans (h.block i j z),
  fun i j=>(k.sub i j).elim (h.sub i) fun g=>.inr (by have:=h.size;have:=h.low;omega)⟩
theorem SB.below {B:Nat} {S o:Sv} {w j z:World} (h:SB B S w o j) (k:Below j.heap.size j z):SB B S w o z:=h.step (Stp.below k)
theorem SB.alloc {B:Nat} {S j:Sv} {w z:World} (h:SB B S w j z) (o:Obj):SB B S w j (z.alloc o):=h.below ((Below.refl _ _).alloc (Nat.le_refl _) _)
theorem SB.set {B:Nat} {S j:Sv} {w o:World} (h:SB B S w j o) {b:Nat} (E:B≤b) (i:Nat) (u:Value):SB B S w j (o.setCell ⟨b,i,none⟩ u):=
 ⟨h.os,h.tape,h.output,by rw[zje];exact h.size,h.low,fun k D z=>(zx (by omega)).trans (h.block k D z),h.sub⟩
theorem SB.put {B:Nat} {S E:Sv} {w Q:World} (h:SB B S w E Q) {b:Nat} (j:B≤b) (N J I O H L D U K M o z:Value):SB B S w E (set12 Q b N J I O H L D U K M o z):=
 (((((((((((h.set j 0 N).set j 1 J).set j 2 I).set j 3 O).set j 4 H).set j 5 L).set j 6 D).set j 7 U).set j 8 K).set j 9 M).set j 10 o).set j 11 z
theorem SB.done {S j:Sv} {w o:World} (h:SB w.heap.size S w j o):Stp S w j o:=⟨h.os,h.tape,h.output,h.size,h.block,h.sub⟩
theorem zQ {P:Program} {j:Code} {Q:Exit→Act→World→Prop} {a:Act} {w0:World} {R:World→Prop} (o:R w0) (h: ∀W,R W→Code.wp P j Q a W):Code.wp P j Q a w0:=h w0 o
theorem Mem.two {C:Cx} {H o j:Nat} {S:Sv} {q:PS} {w z:World} {D cb:Array Value} (h:Mem C H o j S q w) (E:Below ((w.alloc (.cells D 55 (0,0))).alloc (.cells cb 55 (0,0))).heap.size ((w.alloc (.cells D 55 (0,0))).alloc (.cells cb 55 (0,0))) z):
  Bx H S z w.heap.size D∧Bx H S z (w.heap.size+1) cb∧Mem C H o j S q z∧SB w.heap.size S w S z:=
 ⟨((Bx.new h _).alloc _).below E,by have:=(Bx.new (h.alloc (.cells D 55 (0,0))) cb).below E;rw[zW] at this;exact this,h.later (zbs E),SB.start (zbs E)⟩
theorem Mem.two2 {C:Cx} {H E j:Nat} {S o:Sv} {q:PS} {w z:World} {D cb:Array Value} (h:Mem C H E j S q w) (s:Stp S ((w.alloc (.cells D 55 (0,0))).alloc (.cells cb 55 (0,0))) o z):
  Bx H o z w.heap.size D∧Bx H o z (w.heap.size+1) cb∧SB w.heap.size S w o z:=
 ⟨((Bx.new h _).alloc _).stp s,by have:=(Bx.new (h.alloc (.cells D 55 (0,0))) cb).stp s;rw[zW] at this;exact this,(SB.start (zcD w _ _)).step s⟩
theorem zac {C:Cx} {E o j:Nat} {y:PR} {d:Nat} {S z:Sv} {w D:World} {q':PS} {z':Int} {v:Value} (I:v=pv C E o z q' z' d) (K:Is y q' z') (H:Mem C E o j z q' D) (J:SB w.heap.size S w z D):Out C E o j y d S w (.returned v) D:=
 ⟨z,q',z',by rw[I],K,H,J.done⟩
end Go.Proofs.YthfeoomfiafldaaGreat
