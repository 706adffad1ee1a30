/-
  What impl.ModOk answers: the walk.
  What spec's l4Spec answers: the walk.
  Boxes of a program under way,through calls and stores. No program is spoken of but for the numbers of its types.
-/
import Derived.Test.YtlnohpdiiileeaaGreatClTwoModToSameSpec
import Derived.Test.YtlnohpdiiileeaaGreatClEqModToImplParseQ
import Derived.Test.YtlnohpdiiileeaaGreatClImplPrintCToImplParseS
import Derived.Test.YtlnohpdiiileeaaGreatClImplParseAll
import Derived.Test.YtlnohpdiiileeaaGreatClImplParseEToImplParseG
import Derived.Deep.Cut
namespace Go.Proofs.YtlnohpdiiileeaaGreat
set_option maxRecDepth 100000
set_option maxHeartbeats 6400000
open Go.RowKit Go.PlainAid Go.Sort
theorem zbko (base:Nat) (S:Sv) (m:Md) (scr:Bool) (w:World) (h:OwnMd w base S m) (hm:Small m) (hsz:Tree m→(zhl m).size≤4294967296):
  Calls Tryz.prog 46 #[modD S m,.bool scr] w fun e w'=>zbxu (zhl m) m scr e∧Below w.heap.size w w':=by
 have HH:=hidI h
 have SM:=hidI hm
 have HU:=hidI hsz
 have SF:Hid (zbaj m):=hm.few
 clear h hm hsz
 unfold modD
 go_enter Tryz.func46,Tryz.ntmps46
 go_upto_region 1 with fail
 have HW:Hid (Below w.heap.size w (w.alloc (.cells #[.slice S.rq.a m.rq.length S.rq.cap,.slice S.im.a m.im.length S.im.cap,.slice S.ep.a m.ep.length S.ep.cap,.slice S.st.a m.st.length S.st.cap,.slice S.ex.a m.ex.length S.ex.cap] 59))):=(Below.refl _ _).alloc (Nat.le_refl _) _
 refine zbk (R:=fun W=>W.heap[w.heap.size]? =some (.cells #[.slice S.rq.a m.rq.length S.rq.cap,.slice S.im.a m.im.length S.im.cap,.slice S.ep.a m.ep.length S.ep.cap,.slice S.st.a m.st.length S.st.cap,.slice S.ex.a m.ex.length S.ex.cap] 59 (0,0))∧OwnMd W base S m∧Below w.heap.size w W) ⟨heap_alloc_new w _,HH.out.later HW.out,HW.out⟩ ?_
 obtain⟨gx,hgx⟩: ∃gx,gx=w.heap.size:=⟨_,rfl⟩
 rw[←hgx]
 rintro w1 ⟨hx,ho,hb⟩
 rw[hgx] at hb
 clear hgx HW HH
 have X1:=hidI hx
 have O1:=hidI ho
 have HB1:=hidI hb
 clear hx ho hb
 obtain⟨c0,c1,c2,c3,c4,cf⟩:=zbh X1.out
 go_wp2_with fail
 refine (zwi base S m scr w1 O1.out SM.out (fun t=>Nat.le_trans (HU.out t) (by omega))).mono ?_
 rintro e w2 ⟨hpo,hb⟩
 obtain⟨t,hpr,rfl⟩:=hpo.form
 have PR:=hidI hpr
 have ht:=hpr.size HU.out
 have X2:=hidI ((hb.block _ (Array.getElem?_eq_some_iff.1 X1.out).1).trans X1.out)
 have O2:=hidI (O1.out.later hb)
 have HB2:=hidI (HB1.out.trans (hb.mono HB1.out.size))
 clear hpo hpr hb c0 c1 c2 c3 c4 cf
 go_wp2_with fail
 refine (znc t scr w2 ht).mono ?_
 rintro e w3 ⟨hpo,hb⟩
 have X3:=hidI ((hb.block _ (Array.getElem?_eq_some_iff.1 X2.out).1).trans X2.out)
 have O3:=hidI (O2.out.later hb)
 have HB3:=hidI (HB2.out.trans (hb.mono HB2.out.size))
 clear hb
 rcases hpo.md with ⟨q,S3,n,hy,hn,rfl,hown,hfew⟩|⟨p,hy,rfl⟩
 ·have OK:=hidI (zbws (m:=m) hy hn)
  have O4:=hidI hown
  have NF:=hidI hfew
  clear hpo hy hn hown hfew
  unfold modD
  go_upto_region 2 with fail
  have HW:Hid (Below w3.heap.size w3 (w3.alloc (.cells #[.slice S3.rq.a n.rq.length S3.rq.cap,.slice S3.im.a n.im.length S3.im.cap,.slice S3.ep.a n.ep.length S3.ep.cap,.slice S3.st.a n.st.length S3.st.cap,.slice S3.ex.a n.ex.length S3.ex.cap] 59))):=(Below.refl _ _).alloc (Nat.le_refl _) _
  refine zbk (R:=fun W=>W.heap[gx]? =some (.cells #[.slice S.rq.a m.rq.length S.rq.cap,.slice S.im.a m.im.length S.im.cap,.slice S.ep.a m.ep.length S.ep.cap,.slice S.st.a m.st.length S.st.cap,.slice S.ex.a m.ex.length S.ex.cap] 59 (0,0))∧W.heap[w3.heap.size]? =some (.cells #[.slice S3.rq.a n.rq.length S3.rq.cap,.slice S3.im.a n.im.length S3.im.cap,.slice S3.ep.a n.ep.length S3.ep.cap,.slice S3.st.a n.st.length S3.st.cap,.slice S3.ex.a n.ex.length S3.ex.cap] 59 (0,0))∧OwnMd W base S m∧OwnMd W w2.heap.size S3 n∧Below w.heap.size w W) ⟨(HW.out.block _ (Array.getElem?_eq_some_iff.1 X3.out).1).trans X3.out,heap_alloc_new w3 _,O3.out.later HW.out,O4.out.later HW.out,HB3.out.trans (HW.out.mono HB3.out.size)⟩ ?_
  obtain⟨gy,hgy⟩: ∃gy,gy=w3.heap.size:=⟨_,rfl⟩
  rw[←hgy]
  intro w4 h4
  have T4:=hidI h4
  clear h4 hgy HW X3 O3 O4 HB3
  obtain⟨c0,c1,c2,c3,c4,cf⟩:=zbh T4.out.1
  obtain⟨d0,d1,d2,d3,d4,df⟩:=zbh T4.out.2.1
  go_wp2_with fail
  refine ((zzp base w2.heap.size S S3 m n _ T4.out.2.2.1 T4.out.2.2.2.1 SF.out)).mono ?_
  rintro e w5 ⟨⟨r,rfl,hr⟩,hb⟩
  have HR:=hidI hr
  have HB5:=hidI (T4.out.2.2.2.2.trans (hb.mono T4.out.2.2.2.2.size))
  clear hr hb c0 c1 c2 c3 c4 cf d0 d1 d2 d3 d4 df
  go_wp2
  go_ret
  exact⟨⟨t,PR.out,r,rfl,HR.out.trans (Iff.trans ⟨Eq.symm,Eq.symm⟩ OK.out.symm)⟩,HB5.out⟩
 ·have NO:=hidI (zbwr (m:=m) hy)
  clear hpo hy
  go_wp2
  go_ret
  exact⟨⟨t,PR.out,false,rfl,⟨fun k=>(by cases k),fun k=>absurd k NO.out⟩⟩,(HB3.out.alloc HB3.out.size _)⟩
theorem Tryz.infoString:(Tryz.prog.info? 9).map (fun i=>(i.zero,i.size,i.bytes))=some (some (.string {data:=#[]}),1,16):=by kernel_rfl
theorem OwnR.addr {w:World} {base size n:Nat} {e:TypeId} {r:Rw} {xs:List Value} (h:OwnR w base e size r n xs):n=0∨∃g,r.a=some ⟨g,0,none⟩:=by
 rcases h.2 with ⟨_,hn⟩|⟨g,cap,cur,hv,_⟩
 ·exact .inl hn
 ·simp only[Value.slice.injEq] at hv
  exact .inr ⟨g,hv.1⟩
theorem OwnR.str {w:World} {base:Nat} {e:TypeId} {r:Rw} {l:List ByteArray} {g:Nat} (h:OwnR w base e 1 r l.length (l.map .string)) (hg:r.a=some ⟨g,0,none⟩) {j:Nat} (hj:j<l.length):w.cell? ⟨g,j,none⟩=some (.string (l.getD j sNone)):=by
 unfold OwnR at h
 rw[hg] at h
 rw[h.cellAt j (by omega)]
 simp[List.getD,hj]
theorem OwnR.lt {w:World} {base size n:Nat} {e:TypeId} {r:Rw} {xs:List Value} {g:Nat} (h:OwnR w base e size r n xs) (hg:r.a=some ⟨g,0,none⟩):g<w.heap.size:=(h.typed (k:=g) (by simp[Rw.blk,hg,Value.ownBlock])).2.1
theorem zbrp {l:List ByteArray} {x:ByteArray} {j:Nat} (hj:j<l.length) (h:((l.getD j sNone).toList==x.toList)=true):hasS l x=true:=by
 rw[hasS,List.any_eq_true]
 exact⟨l[j],List.getElem_mem hj,by simpa [List.getD,hj] using h⟩
theorem zbvf {l:List ByteArray} {x:ByteArray} (h: ∀j,j<l.length→((l.getD j sNone).toList==x.toList)=false):hasS l x=false:=by
 rw[Bool.eq_false_iff,hasS]
 intro k
 rw[List.any_eq_true] at k
 obtain⟨y,hy,hk⟩:=k
 obtain⟨j,hj,rfl⟩:=List.getElem_of_mem hy
 have:=h j hj
 simp only[List.getD,List.getElem?_eq_getElem hj,Option.getD_some] at this
 rw[this] at hk
 cases hk
theorem zbob {C:Cx} {x:PR} {q:PS} {z:Int} (hx:Is x q z) (hi:(decide (z<0)&&((zd C q.pos).kind==3))=false):Is2 (bd x (zbf C)) q (zgn C q.pos z) sNone:=by
 unfold zgn
 by_cases hz:z<0
 ·obtain⟨h1,h2⟩:=zcv hx hz
  simp only[hz,decide_true,Bool.true_and] at hi
  rw[h1,zg,zbf,hi,if_pos hz]
  rfl
 ·obtain⟨e,h1,h2⟩:=zkt hx hz
  rw[h1,zjr,if_neg hz]
  exact h2
theorem zboc (C:Cx) (gt cap base:Nat) (x:PR) (S:Sv) (q:PS) (z:Int) (d:Nat) (w:World) (hx:Is x q z) (hm:Mem C gt cap base S q w) (hi:(decide (z<0)&&((zd C q.pos).kind==3))=false):
  Calls Tryz.prog 237 #[pv C gt cap S q z d] w (Out2 C gt cap base (bd x (zbf C)) d S w):=by
 have HM:=hidI hm
 have htok:=hm.tok
 have hfew:=hm.few
 have HY:Hid (Is2 (bd x (zbf C)) q (zgn C q.pos z) sNone):=zbob hx hi
 clear hx hm
 by_cases hz:z<0
 ·have dz2:decide (0≤z)=false:=decide_eq_false (by omega)
  simp only[hz,decide_true,Bool.true_and] at hi
  by_cases hp:q.pos<C.ts.length
  ·obtain⟨c0,_,_,_⟩:=htok.cells hp (d:=⟨0,sNone,0,C.fin⟩)
   have hglt:=(zbr htok).1
   change _=some (Value.int .i64 (zd C q.pos).kind) at c0
   generalize htk:zd C q.pos=t at c0 hi
   have e1':(t.kind !=3)=true:=by rw[bne,hi];rfl
   clear htk
   unfold pv
   go_enter Tryz.func237,Tryz.ntmps237
   go_wp2_with fail
   refine (zhb C gt cap base S q z d _ (zf (zf htok _) _) hfew).mono ?_
   rintro e w2 ⟨rfl,hb2⟩
   have G3:Hid (_=_):=(zhq hb2).2
   obtain⟨c0,c1,c2,c3,c4,c5,c6,c7,c8,c9,c10,c11,cf⟩:=zcc G3.out
   unfold pv
   go_wp2
   refine bodyPost_ret (zl rfl _ _ (w.heap.size+1) 122 _ (0,0) _ rfl (zff G3.out) Tryz.underlying122 rfl (by kernel_rfl)) rfl ?_
   exact zhx rfl HY.out HM.out (zfb (zcn hb2) (Nat.le_succ _) _ _ _ _ _ _ _ _ _ _ _ _)
  ·unfold pv
   go_enter Tryz.func237,Tryz.ntmps237
   go_wp2_with fail
   refine (zhb C gt cap base S q z d _ (zf (zf htok _) _) hfew).mono ?_
   rintro e w2 ⟨rfl,hb2⟩
   have G3:Hid (_=_):=(zhq hb2).2
   obtain⟨c0,c1,c2,c3,c4,c5,c6,c7,c8,c9,c10,c11,cf⟩:=zcc G3.out
   unfold pv
   go_wp2
   refine bodyPost_ret (zl rfl _ _ (w.heap.size+1) 122 _ (0,0) _ rfl (zff G3.out) Tryz.underlying122 rfl (by kernel_rfl)) rfl ?_
   exact zhx rfl HY.out HM.out (zfb (zcn hb2) (Nat.le_succ _) _ _ _ _ _ _ _ _ _ _ _ _)
 ·have dz2:decide (0≤z)=true:=decide_eq_true (by omega)
  unfold pv
  go_enter Tryz.func237,Tryz.ntmps237
  go_wp2_with fail
  refine (zhb C gt cap base S q z d _ (zf (zf htok _) _) hfew).mono ?_
  rintro e w2 ⟨rfl,hb2⟩
  have G3:Hid (_=_):=(zhq hb2).2
  obtain⟨c0,c1,c2,c3,c4,c5,c6,c7,c8,c9,c10,c11,cf⟩:=zcc G3.out
  unfold pv
  go_wp2
  refine bodyPost_ret (zl rfl _ _ (w.heap.size+1) 122 _ (0,0) _ rfl (zff G3.out) Tryz.underlying122 rfl (by kernel_rfl)) rfl ?_
  exact zhx rfl HY.out HM.out (zfb (zcn hb2) (Nat.le_succ _) _ _ _ _ _ _ _ _ _ _ _ _)
def txt (C:Cx) (q:PS):ByteArray:=(zd C q.pos).text
theorem zbkp {C:Cx} {q:PS} (h3:((zd C q.pos).kind==3)=true) (hh:hasS q.rq (txt C q)=true):zbf C q= .ok (adv q,txt C q):=by
 unfold txt at hh
 rw[zbf,if_pos h3,if_pos hh];rfl
theorem zbod {C:Cx} {q:PS} (h3:((zd C q.pos).kind==3)=true) (hh:hasS q.rq (txt C q)=false) (hn:40≤q.rq.length):zbf C q= .error (here C q.pos):=by
 unfold txt at hh
 rw[zbf,if_pos h3,hh,if_pos hn];rfl
theorem zbrq {C:Cx} {q:PS} (h3:((zd C q.pos).kind==3)=true) (hh:hasS q.rq (txt C q)=false) (hn: ¬40≤q.rq.length):zbf C q= .ok ({adv q with rq:=q.rq++[txt C q]},txt C q):=by
 unfold txt at hh
 rw[zbf,if_pos h3,hh,if_neg hn];rfl
theorem zwq (C:Cx) (gt cap base:Nat) (S:Sv) (q:PS) (d:Nat) (w:World) (hm:Mem C gt cap base S q w) (h3:((zd C q.pos).kind==3)=true) (g:Nat) (hga:q.rq.length=0∨S.rq.a=some ⟨g,0,none⟩):
  Calls Tryz.prog 237 #[pv C gt cap S q (-1) d] w (Out2 C gt cap base (zbf C q) d S w):=by
 obtain⟨i0,hi,hz0,hz1,hz2⟩:=info_parts Tryz.infoString
 have HM:=hidI hm
 have H3:=hidI h3
 have hp:q.pos<C.ts.length:=zne h3 (by decide)
 have hfew:=hm.few
 have hrq:=hm.inv.rq
 have hglt:=(zbr hm.tok).1
 obtain⟨c0,c1,_,_⟩:=hm.tok.cells hp (d:=⟨0,sNone,0,C.fin⟩)
 change _=some (Value.int .i64 (zd C q.pos).kind) at c0
 change _=some (Value.string (txt C q)) at c1
 generalize (zd C q.pos).kind=kd at c0 h3
 have e1':(kd !=3)=false:=by rw[bne,h3];rfl
 have HGA:=hidI hga
 obtain⟨R,hR⟩: ∃R:Nat→ByteArray,∀j,R j=q.rq.getD j sNone:=⟨fun j=>q.rq.getD j sNone,fun _=>rfl⟩
 have HR:=hidI hR
 have HC:Hid (∀j,j<q.rq.length→w.cell? ⟨g,j,none⟩=some (.string (R j))):=fun j hj=>by
  rcases hga with e|e
  ·omega
  ·rw[hR];exact HM.out.own.rq.str e hj
 clear hR
 generalize htx:txt C q=tx at c1
 have HTX:=hidI htx
 have hown:=fun o1 o2 o3=>((HM.out.own.rq.alloc o1).alloc o2).alloc o3
 clear htx hm hga
 unfold pv
 go_enter Tryz.func237,Tryz.ntmps237
 go_wp2
 go_loop [5] (fun i=>∃k:Nat,k≤q.rq.length∧i= .int .i64 k∧∀j,j<k→¬(R j).toList=tx.toList) (fun i=>(q.rq.length-intOf i).toNat)
 case atStart=>exact⟨0,Nat.zero_le _,rfl,fun j hj=>absurd hj (Nat.not_lt_zero j)⟩
 case round=>
  obtain⟨k,hk,rfl,hno⟩:=hrel
  have HNO:=hidI hno
  clear hno
  by_cases hlt:k<q.rq.length
  ·have ha:S.rq.a=some ⟨g,0,none⟩:=HGA.out.elim (fun e=>by omega) id
   have hck:=HC.out k hlt
   have hg1:=HM.out.own.rq.lt ha
   cases he:((R k).toList==tx.toList) with
   |true=>
    have HS:Hid (zbf C q= .ok (adv q,tx)):=by
     show zbf C q= .ok (adv q,tx)
     rw[←HTX.out]
     exact zbkp H3.out (zbrp hlt (by rw[←HR.out,HTX.out];exact he))
    have HA:=hidI ha
    go_wp2
    refine bodyPost_ret (zl rfl _ _ (w.heap.size+1) 122 _ (0,0) _ rfl (new2 w _ _) Tryz.underlying122 rfl (by kernel_rfl)) rfl ?_
    rw[HS.out]
    exact zhx (q':=adv q) (z':=-1) (by rw[pv,HA.out];rfl) ⟨rfl,rfl,rfl⟩ (HM.out.adv hp) (zir w _ _)
   |false=>
    have HX:Hid (∀j,j<k+1→¬(R j).toList=tx.toList):=fun j hj=>by
     by_cases e:j=k
     ·rw[e];exact beq_eq_false_iff_ne.1 he
     ·exact HNO.out j (by omega)
    go_wp2
    go_round
    case rel=>exact⟨k+1,by omega,by go_num,HX.out⟩
    case measure=>simp[intOf];omega
  ·have HN:Hid (hasS q.rq (txt C q)=false):=zbvf fun j hj=>by rw[HTX.out,←HR.out];exact beq_eq_false_iff_ne.2 (HNO.out j (by omega))
   by_cases hn:40≤q.rq.length
   ·have qn:decide ((40:Int)≤(q.rq.length:Int))=true:=decide_eq_true (by omega)
    have HS:Hid (zbf C q= .error (here C q.pos)):=zbod H3.out HN.out hn
    go_wp2_with fail
    refine (zjl C gt cap base S (adv q) (-1) d _ (((HM.out.adv hp).alloc _).alloc _) (by decide) (by simp[adv])).mono ?_
    rintro e w2 ⟨rfl,hb2⟩
    have G3:Hid (_=_):=(zhq hb2).2
    obtain⟨b0,b1,b2,b3,b4,b5,b6,b7,b8,b9,b10,b11,bf⟩:=zcc G3.out
    have HB:Hid (Below w.heap.size w w2):=zcn hb2
    clear hb2
    unfold pv
    go_wp2
    refine bodyPost_ret (zl rfl _ _ (w.heap.size+1) 122 _ (0,0) _ rfl (zff G3.out) Tryz.underlying122 rfl (by kernel_rfl)) rfl ?_
    rw[HS.out]
    exact zhx (q':=adv q) (z':=(here C q.pos:Int)) rfl rfl (HM.out.adv hp) (zfb HB.out (Nat.le_succ _) _ _ _ _ _ _ _ _ _ _ _ _)
   ·have qn:decide ((40:Int)≤(q.rq.length:Int))=false:=decide_eq_false (by omega)
    have HS:Hid (zbf C q= .ok ({adv q with rq:=q.rq++[tx]},tx)):=by
     show zbf C q= .ok ({adv q with rq:=q.rq++[tx]},tx)
     rw[←HTX.out]
     exact zbrq H3.out HN.out hn
    go_wp2_with (at_builtin;refine zhp _ rfl _ _ 22 rfl base 9 i0 _ 1 16 Tryz.underlying22 hi hz0 hz1 hz2 rfl (by decide) (by decide) S.rq q.rq.length _ (by rfl) (hown _ _ _) (w.heap.size+1+1) [.string tx] (by rfl) (by exact (new3 w _ _ _).2.2) rfl (by intro u hu;simp at hu;subst hu;rfl) (by omega) (by have:=HM.out.base;rw[zcg];omega) ?_)
    intro r' w2 hr hg hat
    have HRR:=hidI hr
    have HG:=hidI hg
    have HAT:=hidI hat
    have hne:=fun b hb=>wpos (W:=w) HM.out.own (Nat.le_refl _) (r:=S.rq.blk) (fun k e=>.inl e) b hb
    have g1:=(hg.block w.heap.size (by rw[zcg];omega) (hne _ (Nat.le_refl _))).trans (new3 w _ _ _).1
    have g2:=(hg.block (w.heap.size+1) (by rw[zcg];omega) (hne _ (by omega))).trans (new3 w _ _ _).2.1
    obtain⟨a0,a1,a2,a3,a4,a5,a6,a7,a8,a9,a10,a11,af⟩:=zcc g1
    obtain⟨b0,b1,b2,b3,b4,b5,b6,b7,b8,b9,b10,b11,bf⟩:=zcc g2
    have G2:=hidI g2
    clear g1 g2 hg hr hat hne hown
    go_wp2
    refine bodyPost_ret (zl rfl _ _ (w.heap.size+1) 122 _ (0,0) _ rfl (zff ((zv (by omega)).trans G2.out)) Tryz.underlying122 rfl (by kernel_rfl)) rfl ?_
    obtain⟨m',s'⟩:=(HM.out.adv hp).grow_rq (x:=tx) (zjm w _ _ _) HG.out HRR.out (by rw[zcg];exact HAT.out) (((Off.refl _ _ _).set (b:=w.heap.size) (Nat.le_refl _) (by rw[zcg];omega) _ _).set12 (b:=w.heap.size+1) (by omega) (by rw[zcg];omega) _ _ _ _ _ _ _ _ _ _ _ _) (by show q.rq.length<40;omega)
    rw[HS.out]
    exact⟨_,{adv q with rq:=q.rq++[tx]},-1,tx,by simp[pv,adv],⟨rfl,rfl,rfl⟩,m',s'⟩
theorem zhh (C:Cx) (gt cap base:Nat) (x:PR) (S:Sv) (q:PS) (z:Int) (d:Nat) (w:World) (hx:Is x q z) (hm:Mem C gt cap base S q w):
  Calls Tryz.prog 237 #[pv C gt cap S q z d] w (Out2 C gt cap base (bd x (zbf C)) d S w):=by
 cases hi:(decide (z<0)&&((zd C q.pos).kind==3)) with
 |false=>exact zboc C gt cap base x S q z d w hx hm hi
 |true=>
  rw[Bool.and_eq_true,decide_eq_true_eq] at hi
  obtain⟨rfl,rfl⟩:=zcv hx hi.1
  rw[zg]
  rcases hm.own.rq.addr with e|⟨g,e⟩
  ·exact zwq C gt cap base S q d w hm hi.2 0 (.inl e)
  ·exact zwq C gt cap base S q d w hm hi.2 g (.inr e)
abbrev set12 (w:World) (b:Nat) (x0 x1 x2 x3 x4 x5 x6 x7 x8 x9 x10 x11:Value):World:=
 ((((((((((((w.setCell ⟨b,0,none⟩ x0).setCell ⟨b,1,none⟩ x1).setCell ⟨b,2,none⟩ x2).setCell ⟨b,3,none⟩ x3).setCell ⟨b,4,none⟩ x4).setCell ⟨b,5,none⟩ x5).setCell ⟨b,6,none⟩ x6).setCell ⟨b,7,none⟩ x7).setCell ⟨b,8,none⟩ x8).setCell ⟨b,9,none⟩ x9).setCell ⟨b,10,none⟩ x10).setCell ⟨b,11,none⟩ x11)
theorem znz (w:World) (a:Addr) (u:Value):(w.setCell a u).heap.size=w.heap.size:=by show (w.heap.modify _ _).size=_;simp
theorem zbkq (w:World) (b:Nat) (x0 x1 x2 x3 x4 x5 x6 x7 x8 x9 x10 x11:Value):(set12 w b x0 x1 x2 x3 x4 x5 x6 x7 x8 x9 x10 x11).heap.size=w.heap.size:=by
 unfold set12
 simp only[znz]
theorem zjo {w:World} {b k:Nat} (h:k≠b) (x0 x1 x2 x3 x4 x5 x6 x7 x8 x9 x10 x11:Value):(set12 w b x0 x1 x2 x3 x4 x5 x6 x7 x8 x9 x10 x11).heap[k]? =w.heap[k]?:=by
 unfold set12
 rw[zv h,zv h,zv h,zv h,zv h,zv h,zv h,zv h,zv h,zv h,zv h,zv h]
structure Bx (gt:Nat) (S:Sv) (w:World) (b:Nat) (cs:Array Value):Prop where
 heap:w.heap[b]? =some (.cells cs 122 (0,0))
 free: ¬S.has b
 ne:b≠gt
theorem Bx.lt {gt b:Nat} {S:Sv} {w:World} {cs:Array Value} (h:Bx gt S w b cs):b<w.heap.size:=(Array.getElem?_eq_some_iff.1 h.heap).1
theorem Bx.stp {gt b:Nat} {S S':Sv} {w w':World} {cs:Array Value} (h:Bx gt S w b cs) (k:Stp S w S' w'):Bx gt S' w' b cs:=
 ⟨(k.block b h.lt h.free).trans h.heap,fun g=>(k.sub b g).elim h.free fun g'=>by have:=h.lt;omega,h.ne⟩
theorem Bx.below {gt b:Nat} {S:Sv} {w w':World} {cs:Array Value} (h:Bx gt S w b cs) (k:Below w.heap.size w w'):Bx gt S w' b cs:=⟨(k.block b h.lt).trans h.heap,h.free,h.ne⟩
theorem Bx.alloc {gt b:Nat} {S:Sv} {w:World} {cs:Array Value} (h:Bx gt S w b cs) (o:Obj):Bx gt S (w.alloc o) b cs:=h.below ((Below.refl _ _).alloc (Nat.le_refl _) _)
theorem Bx.new {C:Cx} {gt cap base:Nat} {S:Sv} {q:PS} {w:World} (h:Mem C gt cap base S q w) (cs:Array Value):Bx gt S (w.alloc (.cells cs 122 (0,0))) w.heap.size cs:=
 ⟨heap_alloc_new w _,fun g=>by have:=(h.own.has g).2;omega,by have:=(zbr h.tok).1;omega⟩
theorem Bx.set {gt b:Nat} {S:Sv} {w:World} {cs:Array Value} (h:Bx gt S w b cs) (i:Nat) (u:Value):Bx gt S (w.setCell ⟨b,i,none⟩ u) b (cs.setIfInBounds i u):=⟨zjb h.heap,h.free,h.ne⟩
theorem Bx.set_other {gt b c:Nat} {S:Sv} {w:World} {cs:Array Value} (h:Bx gt S w b cs) (hc:b≠c) (i:Nat) (u:Value):Bx gt S (w.setCell ⟨c,i,none⟩ u) b cs:=⟨(zv hc).trans h.heap,h.free,h.ne⟩
theorem Bx.put {gt b:Nat} {S:Sv} {w:World} {v0 v1 v2 v3 v4 v5 v6 v7 v8 v9 v10 v11:Value} (h:Bx gt S w b #[v0,v1,v2,v3,v4,v5,v6,v7,v8,v9,v10,v11]) (x0 x1 x2 x3 x4 x5 x6 x7 x8 x9 x10 x11:Value):
  Bx gt S (set12 w b x0 x1 x2 x3 x4 x5 x6 x7 x8 x9 x10 x11) b #[x0,x1,x2,x3,x4,x5,x6,x7,x8,x9,x10,x11]:=⟨zff h.heap,h.free,h.ne⟩
theorem Bx.other {gt b c:Nat} {S:Sv} {w:World} {cs:Array Value} (h:Bx gt S w b cs) (hc:b≠c) (x0 x1 x2 x3 x4 x5 x6 x7 x8 x9 x10 x11:Value):Bx gt S (set12 w c x0 x1 x2 x3 x4 x5 x6 x7 x8 x9 x10 x11) b cs:=⟨(zjo hc _ _ _ _ _ _ _ _ _ _ _ _).trans h.heap,h.free,h.ne⟩
theorem Bx.at1 {gt b:Nat} {S:Sv} {w:World} {v0 v1 v2 v3 v4 v5 v6 v7 v8 v9 v10 v11:Value} (h:Bx gt S w b #[v0,v1,v2,v3,v4,v5,v6,v7,v8,v9,v10,v11]) (u:Value):Bx gt S (w.setCell ⟨b,1,none⟩ u) b #[v0,u,v2,v3,v4,v5,v6,v7,v8,v9,v10,v11]:=by simpa using h.set 1 u
theorem Bx.at11 {gt b:Nat} {S:Sv} {w:World} {v0 v1 v2 v3 v4 v5 v6 v7 v8 v9 v10 v11:Value} (h:Bx gt S w b #[v0,v1,v2,v3,v4,v5,v6,v7,v8,v9,v10,v11]) (u:Value):Bx gt S (w.setCell ⟨b,11,none⟩ u) b #[v0,v1,v2,v3,v4,v5,v6,v7,v8,v9,v10,u]:=by simpa using h.set 11 u
theorem Bx.box {gt b:Nat} {S:Sv} {w:World} {v0 v1 v2 v3 v4 v5 v6 v7 v8 v9 v10 v11:Value} (h:Bx gt S w b #[v0,v1,v2,v3,v4,v5,v6,v7,v8,v9,v10,v11]):Box w b v0 v1 v2 v3 v4 v5 v6 v7 v8 v9 v10 v11:=zcc h.heap
theorem Mem.set {C:Cx} {gt cap base b:Nat} {S:Sv} {q:PS} {w:World} (h:Mem C gt cap base S q w) {cs:Array Value} (hb:Bx gt S w b cs) (i:Nat) (u:Value):Mem C gt cap base S q (w.setCell ⟨b,i,none⟩ u):=
 ⟨h.own.keep fun k g=>zv (b:=k) fun e=>hb.free (by rw[←e];exact g),h.inv,zdb h.tok (zv hb.ne.symm),h.few,by rw[znz];exact h.base⟩
theorem Mem.put {C:Cx} {gt cap base b:Nat} {S:Sv} {q:PS} {w:World} (h:Mem C gt cap base S q w) {cs:Array Value} (hb:Bx gt S w b cs) (x0 x1 x2 x3 x4 x5 x6 x7 x8 x9 x10 x11:Value):Mem C gt cap base S q (set12 w b x0 x1 x2 x3 x4 x5 x6 x7 x8 x9 x10 x11):=
 ⟨h.own.keep fun k g=>zjo (k:=k) (fun e=>hb.free (by rw[←e];exact g)) _ _ _ _ _ _ _ _ _ _ _ _,h.inv,zdb h.tok (zjo hb.ne.symm _ _ _ _ _ _ _ _ _ _ _ _),h.few,by rw[zbkq];exact h.base⟩
/-- A way from w on: blocks below B but the six rows' are as they were. -/
structure SB (B:Nat) (S:Sv) (w:World) (S':Sv) (w':World):Prop where
 os:w'.os=w.os
 tape:w'.tape=w.tape
 output:w'.output=w.output
 size:w.heap.size≤w'.heap.size
 low:B≤w.heap.size
 block: ∀k,k<B→¬S.has k→w'.heap[k]? =w.heap[k]?
 sub: ∀k,S'.has k→S.has k∨B≤k
theorem SB.start {S:Sv} {w w':World} (h:Below w.heap.size w w'):SB w.heap.size S w S w':=⟨h.os,h.tape,h.output,h.size,Nat.le_refl _,fun k hk _=>h.block k hk,fun _ g=>.inl g⟩
theorem SB.step {B:Nat} {S S1 S2:Sv} {w w1 w2:World} (h:SB B S w S1 w1) (k:Stp S1 w1 S2 w2):SB B S w S2 w2:=
 ⟨k.os.trans h.os,k.tape.trans h.tape,k.output.trans h.output,Nat.le_trans h.size k.size,h.low,
  fun i hi hn=>(k.block i (by have:=h.size;have:=h.low;omega) fun g=>(h.sub i g).elim hn fun g'=>by omega).trans (h.block i hi hn),
  fun i hi=>(k.sub i hi).elim (h.sub i) fun g=>.inr (by have:=h.size;have:=h.low;omega)⟩
theorem SB.below {B:Nat} {S S1:Sv} {w w1 w2:World} (h:SB B S w S1 w1) (k:Below w1.heap.size w1 w2):SB B S w S1 w2:=h.step (Stp.below k)
theorem SB.alloc {B:Nat} {S S1:Sv} {w w1:World} (h:SB B S w S1 w1) (o:Obj):SB B S w S1 (w1.alloc o):=h.below ((Below.refl _ _).alloc (Nat.le_refl _) _)
theorem SB.set {B:Nat} {S S1:Sv} {w w1:World} (h:SB B S w S1 w1) {b:Nat} (hb:B≤b) (i:Nat) (u:Value):SB B S w S1 (w1.setCell ⟨b,i,none⟩ u):=
 ⟨h.os,h.tape,h.output,by rw[znz];exact h.size,h.low,fun k hk hn=>(zv (by omega)).trans (h.block k hk hn),h.sub⟩
theorem SB.put {B:Nat} {S S1:Sv} {w w1:World} (h:SB B S w S1 w1) {b:Nat} (hb:B≤b) (x0 x1 x2 x3 x4 x5 x6 x7 x8 x9 x10 x11:Value):SB B S w S1 (set12 w1 b x0 x1 x2 x3 x4 x5 x6 x7 x8 x9 x10 x11):=
 (((((((((((h.set hb 0 x0).set hb 1 x1).set hb 2 x2).set hb 3 x3).set hb 4 x4).set hb 5 x5).set hb 6 x6).set hb 7 x7).set hb 8 x8).set hb 9 x9).set hb 10 x10).set hb 11 x11
theorem SB.done {S S1:Sv} {w w1:World} (h:SB w.heap.size S w S1 w1):Stp S w S1 w1:=⟨h.os,h.tape,h.output,h.size,h.block,h.sub⟩
theorem zp {P:Program} {code:Code} {Q:Exit→Act→World→Prop} {a:Act} {w0:World} {R:World→Prop} (h0:R w0) (h: ∀W,R W→Code.wp P code Q a W):Code.wp P code Q a w0:=h w0 h0
/-- The box of what came in, and the one of what is handed back. -/
theorem Mem.two {C:Cx} {gt cap base:Nat} {S:Sv} {q:PS} {w w1:World} {ca cb:Array Value} (h:Mem C gt cap base S q w) (hb:Below ((w.alloc (.cells ca 122 (0,0))).alloc (.cells cb 122 (0,0))).heap.size ((w.alloc (.cells ca 122 (0,0))).alloc (.cells cb 122 (0,0))) w1):
  Bx gt S w1 w.heap.size ca∧Bx gt S w1 (w.heap.size+1) cb∧Mem C gt cap base S q w1∧SB w.heap.size S w S w1:=
 ⟨((Bx.new h _).alloc _).below hb,by have:=(Bx.new (h.alloc (.cells ca 122 (0,0))) cb).below hb;rw[zq] at this;exact this,h.later (zcn hb),SB.start (zcn hb)⟩
theorem Mem.two2 {C:Cx} {gt cap base:Nat} {S S1:Sv} {q:PS} {w w1:World} {ca cb:Array Value} (h:Mem C gt cap base S q w) (s:Stp S ((w.alloc (.cells ca 122 (0,0))).alloc (.cells cb 122 (0,0))) S1 w1):
  Bx gt S1 w1 w.heap.size ca∧Bx gt S1 w1 (w.heap.size+1) cb∧SB w.heap.size S w S1 w1:=
 ⟨((Bx.new h _).alloc _).stp s,by have:=(Bx.new (h.alloc (.cells ca 122 (0,0))) cb).stp s;rw[zq] at this;exact this,(SB.start (zir w _ _)).step s⟩
theorem zba {C:Cx} {gt cap base:Nat} {y:PR} {d:Nat} {S S':Sv} {w w':World} {q':PS} {z':Int} {v:Value} (hv:v=pv C gt cap S' q' z' d) (hi:Is y q' z') (hm:Mem C gt cap base S' q' w') (hs:SB w.heap.size S w S' w'):Out C gt cap base y d S w (.returned v) w':=
 ⟨S',q',z',by rw[hv],hi,hm,hs.done⟩
end Go.Proofs.YtlnohpdiiileeaaGreat
