/-
  What passSigns of impl's parser answers: the walk.
  'append' of one element onto a row of the call's own,as one step of a region that draws its order. No program is spoken of.
  What spec's readers of one token answer: l4Full,l4Sign,l4Word,l4Reserved,l4Plain,l4Name: the walks.
  What spec's l4Plain and l4Name answer: the walks.
  What spec's l4Add,l4Imp,l4Stmt and l4Exp answer: the walks.
  What addExpr of impl's parser answers where there is room: the walk.
  A row of impl's parser grows by one element; what addImp answers where there is room: the walk.
-/
import Derived.Deep.LoopGhost
import Derived.Test.YtlnohpdiiileeaaGreatClImplParseCToImplParseD
import Derived.Deep.RegionLaw
import Derived.Test.YtlnohpdiiileeaaGreatClParseMemToModMem
import Derived.Test.YtlnohpdiiileeaaGreatClSpecParseA
namespace Go.Proofs.YtlnohpdiiileeaaGreat
set_option maxRecDepth 100000
set_option maxHeartbeats 3200000
open Go.RowKit Go.PlainAid Go.Sort
/-- Each byte of s from k on, a sign of its own, so many of them. -/
def zcu (C:Cx) (s:ByteArray):Nat→Nat→PS→PR
 |0,_,q=>.ok q
 |n+1,k,q=>bd (tokP C 4 (s.extract k (k+1)) q) (zcu C s n (k+1))
theorem zuf {C:Cx} {k:Int} {x:ByteArray} {q:PS} (h:isT C q.pos k x=false):tokP C k x q= .error (here C q.pos):=by rw[tokP,h];rfl
theorem zer {C:Cx} {k:Int} {x:ByteArray} {q:PS} (h:isT C q.pos k x=true):tokP C k x q= .ok (adv q):=if_pos h
theorem zmo (C:Cx) (gt cap base gp:Nat) (S:Sv) (q:PS) (s:ByteArray) (w:World) (h:IM C gt cap base gp S q w) (hs:s.size≤100):
  Calls Tryz.prog 234 #[.pointer (some ⟨gp,0,none⟩),.string s] w (IOut C gt cap base gp (zcu C s s.size 0 q) id (fun _=>.tuple #[]) S w):=by
 have HH:=hidI h
 clear h
 go_enter Tryz.func234,Tryz.ntmps234
 go_wp2
 go_loopg [7] s.size (fun k i wr=>∃(j:Nat) (q':PS),i= .int .i64 j∧j+k=s.size∧zcu C s k j q'=zcu C s s.size 0 q∧IM C gt cap base gp S q' wr∧IS gp S w S wr)
 case atStart=>exact⟨0,q,rfl,by omega,rfl,HH.out,IS.refl _ _ _⟩
 case round=>
  obtain⟨j,q',rfl,hj,he,m,t⟩:=hrel
  have HE:=hidI he
  have HM:=hidI m
  have HS:=hidI t
  clear he m t
  match gk,hj,HE with
  |0,hj,HE=>
   have hlt: ¬j<s.size:=by omega
   go_wp2
   go_end0
   rw[←HE.out]
   exact⟨rfl,S,HM.out,HS.out⟩
  |k+1,hj,HE=>
   have hlt:j<s.size:=by omega
   obtain⟨j1,hj1⟩: ∃j1,j1=j+1:=⟨_,rfl⟩
   have ej:(j:Int)+1=(j1:Int):=by omega
   have hjs:j1≤s.size:=by omega
   have hjj:j≤j1:=by omega
   have HJ:=hidI hj1
   clear hj1
   cases hi:isT C q'.pos 4 (s.extract j j1) with
   |true=>
    have HX:Hid (zcu C s k j1 (adv q')=zcu C s s.size 0 q):=by
     show _=_
     rw[←HE.out,zcu,←HJ.out,zer hi]
     rfl
    go_wp2_with fail
    refine (zm C gt cap base gp S q' 4 (s.extract j j1) _ HM.out (by decide)).mono ?_
    rintro e w1 ⟨rfl,m1,s1⟩
    rw[hi] at m1 ⊢
    have HM1:=hidI m1
    have HS1:Hid (IS gp S w S w1):=HS.out.trans s1
    clear m1 s1
    go_wp2
    go_roundg k
    case rel=>exact⟨j1,adv q',rfl,by have:=HJ.out;omega,HX.out,HM1.out,HS1.out⟩
    case measure=>omega
   |false=>
    have HX:Hid (zcu C s s.size 0 q= .error (here C q'.pos)):=by
     show _=_
     rw[←HE.out,zcu,←HJ.out,zuf hi]
     rfl
    go_wp2_with fail
    refine (zm C gt cap base gp S q' 4 (s.extract j j1) _ HM.out (by decide)).mono ?_
    rintro e w1 ⟨rfl,m1,s1⟩
    rw[hi] at m1 ⊢
    have HM1:=hidI m1
    have HB:Hid (Below base w w1):=(HS.out.trans s1).under HH.out.mem.base HH.out.mem.own HH.out.ge
    clear m1 s1
    go_wp2_with fail
    refine (zjd C gt cap base gp S q' _ HM1.out).mono ?_
    rintro e w2 ⟨rfl,hb2⟩
    have HB2:Hid (Below base w w2):=HB.out.trans (hb2.mono HM1.out.mem.base)
    unfold Pan
    go_wp2
    refine⟨rfl,?_⟩
    rw[HX.out]
    exact⟨rfl,HB2.out⟩
theorem znm {P:Program} {ops:Array Oper} {o:Oper} {a:Act} {W:World} {K:Act→World→Prop} {Q:Exit→Act→World→Prop} {E:Prop} (hgd:o.guard=none) (s x:Operand) (t:TypeId)
  (ho:o.op= .call {callee:=.builtin .append,args:=#[s,x],argTypes:=#[t,t]})
  (base:Nat) (e:TypeId) (i:TypeInfo) (z:Value) (size bytes:Nat) (ht:P.underlying t=some (.slice e)) (hi:P.info? e=some i) (hz:i.zero=some z) (hsize:i.size=size) (hby:i.bytes=bytes) (hzs:z.cells.size=size) (hsz:0<size) (h100:bytes≤100)
  (r:Rw) (n:Nat) (xs:List Value) (hs:a.eval s= .slice r.a n r.cap) (hown:OwnR W base e size r n xs)
  (gx:Nat) (news:List Value) (hx:a.eval x= .slice (some ⟨gx,0,none⟩) 1 1) (hg:W.heap[gx]? =some (.cells news.toArray e (0,0))) (hl:news.length=size) (h1: ∀u∈news,u.oneCell'=true) (hn:n+1≤1000000) (hbase:base≤W.heap.size)
  (h: ∀r' w',OwnR w' base e size r' (n+1) (xs++news)→W.grownBy w' r.blk→(r'.blk=r.blk∨r'.blk=some W.heap.size)→K (a.put o.dst (.slice r'.a (n+1) r'.cap)) w'):
  if Region.wanted o (yielded ops a.tmps)=true then Oper.wp P o a W K Q else E:=by
 have hw:Region.wanted o (yielded ops a.tmps)=true:=by simp[Region.wanted,hgd]
 rw[if_pos hw]
 obtain⟨v',w',hr,h2,h3,_,h5⟩:=run_append_own_at (P:=P) W base t o.type e i z size bytes ht hi hz hsize hby hzs hsz _ n xs hown ⟨gx,0,none⟩ 1 1 news (by omega) (by
  intro j u hj
  have e1:(⟨gx,0,none⟩:Addr).add j=⟨gx,j,none⟩:=by simp[Addr.add];exact fun h=>h.symm
  rw[e1]
  simp[World.cell?,hg,hj]) h1 (by unfold maxLen;omega) (by have:(n+1)*bytes≤1000000*100:=Nat.mul_le_mul hn h100;omega) hbase
 unfold Oper.wp execOp
 simp only[ho,resolve,invoke,builtin,Sem.run_bind,Sem.run_pure,Result.andThen_ok,List.map_toArray,List.map_cons,List.map_nil,hs,hx,hr]
 rcases h2.2 with ⟨hv,hn0⟩|⟨g',cap',cur,rfl,hrest⟩
 ·omega
 ·refine h ⟨some ⟨g',0,none⟩,cap'⟩ w' h2 ?_ ?_
  ·rw[←zec r n];exact h3
  ·rw[←zec r n,←zec ⟨some ⟨g',0,none⟩,cap'⟩ (n+1)];exact h5
def Is (x:PR) (q:PS) (z:Int):Prop:=
 match x with
 | .ok q0=>q=q0∧z= -1
 | .error e=>z=(e:Int)
theorem zcb (q:PS):Is (.ok q) q (-1):=⟨rfl,rfl⟩
theorem zcv {x:PR} {q:PS} {z:Int} (h:Is x q z) (hz:z<0):x= .ok q∧z= -1:=by
 cases x with
 |ok q0=>obtain⟨rfl,rfl⟩:=h;exact⟨rfl,rfl⟩
 |error e=>have:z=(e:Int):=h;omega
theorem zkt {x:PR} {q:PS} {z:Int} (h:Is x q z) (hz: ¬z<0): ∃e,x= .error e∧z=(e:Int):=by
 cases x with
 |ok q0=>obtain⟨rfl,rfl⟩:=h;exact absurd (by decide) hz
 |error e=>exact⟨e,rfl,h⟩
def Out (C:Cx) (gt cap base:Nat) (y:PR) (d:Nat) (S:Sv) (w:World) (e:Ending) (w':World):Prop:=
 ∃S' q' z',e= .returned (pv C gt cap S' q' z' d)∧Is y q' z'∧Mem C gt cap base S' q' w'∧Stp S w S' w'
theorem zfc {C:Cx} {gt cap base:Nat} {y:PR} {d:Nat} {S:Sv} {w w':World} {q':PS} {z':Int} {v:Value} (hv:v=pv C gt cap S q' z' d) (hi:Is y q' z') (hm:Mem C gt cap base S q' w) (hb:Below w.heap.size w w'):Out C gt cap base y d S w (.returned v) w':=
 ⟨S,q',z',by rw[hv],hi,hm.later hb,Stp.below hb⟩
theorem zjl (C:Cx) (gt cap base:Nat) (S:Sv) (q:PS) (z:Int) (d:Nat) (w:World) (hm:Mem C gt cap base S q w) (hz:z<0) (hp:1≤q.pos):
  Calls Tryz.prog 244 #[pv C gt cap S q z d] w fun e w'=>e= .returned (pv C gt cap S q (here C (q.pos-1)) d)∧Below w.heap.size w w':=by
 obtain⟨p,hp1⟩: ∃p,q.pos=p+1:=⟨q.pos-1,by omega⟩
 have hlt:p<C.ts.length:=by have:=hm.inv.pos;omega
 have hfew:=hm.few
 obtain⟨_,_,_,c3⟩:=hm.tok.cells hlt (d:=⟨0,sNone,0,C.fin⟩)
 have hglt:=(zbr hm.tok).1
 change _=some (Value.int .i64 (here C p)) at c3
 rw[show q.pos-1=p from by omega]
 have hpi:(q.pos:Int)-1=p:=by omega
 clear hp1
 unfold pv
 go_enter Tryz.func244,Tryz.ntmps244
 go_wp2
 refine bodyPost_ret (results_cell_row rfl _ _ (w.heap.size+1) 122 _ (0,0) _ rfl (new2 w _ _) Tryz.underlying122 rfl (by kernel_rfl)) rfl ?_
 exact⟨rfl,zir w _ _⟩
theorem zt (C:Cx) (gt cap base:Nat) (x:PR) (S:Sv) (q:PS) (z:Int) (d:Nat) (s:ByteArray) (w:World) (hx:Is x q z) (hm:Mem C gt cap base S q w):
  Calls Tryz.prog 152 #[pv C gt cap S q z d,.string s] w (Out C gt cap base (bd x (tokP C 4 s)) d S w):=by
 have HM:=hidI hm
 have htok:=hm.tok
 have hfew:=hm.few
 have HX:=hidI hx
 clear hx hm
 cases hi:(decide (z<0)&&isT C q.pos 4 s) with
 |true=>
  have hlt:q.pos<C.ts.length:=by rw[Bool.and_eq_true] at hi;exact zcm hi.2 (by decide)
  have HY:Hid (Is (bd x (tokP C 4 s)) (adv q) z):=by
   rw[Bool.and_eq_true,decide_eq_true_eq] at hi
   obtain⟨h1,h2⟩:=zcv HX.out hi.1
   show Is (bd x (tokP C 4 s)) (adv q) z
   rw[h1,zg,tokP,if_pos hi.2]
   exact⟨rfl,h2⟩
  unfold pv
  go_enter Tryz.func152,Tryz.ntmps152
  go_wp2_with fail
  refine (ze C gt cap base S q z d 4 s _ (zf (zf htok _) _) hfew (by decide)).mono ?_
  rintro e w1 ⟨rfl,hb⟩
  rw[hi]
  obtain⟨g1,g2⟩:=zhq hb
  obtain⟨a0,a1,a2,a3,a4,a5,a6,a7,a8,a9,a10,a11,af⟩:=zcc g1
  obtain⟨b0,b1,b2,b3,b4,b5,b6,b7,b8,b9,b10,b11,bf⟩:=zcc g2
  have G2:=hidI g2
  clear g1 g2 hi
  go_wp2
  refine bodyPost_ret (results_cell_row rfl _ _ (w.heap.size+1) 122 _ (0,0) _ rfl (zff ((zv (by omega)).trans G2.out)) Tryz.underlying122 rfl (by kernel_rfl)) rfl ?_
  exact zfc rfl HY.out (HM.out.adv hlt) (zfb ((zcn hb).setCell (Nat.le_refl _) _) (Nat.le_succ _) _ _ _ _ _ _ _ _ _ _ _ _)
 |false=>
  have HY:Hid (Is (bd x (tokP C 4 s)) q (zgn C q.pos z)):=by
   show Is (bd x (tokP C 4 s)) q (zgn C q.pos z)
   unfold zgn
   by_cases hz:z<0
   ·obtain⟨h1,h2⟩:=zcv HX.out hz
    simp only[hz,decide_true,Bool.true_and] at hi
    rw[h1,zg,tokP,hi,if_pos hz]
    rfl
   ·obtain⟨e,h1,h2⟩:=zkt HX.out hz
    rw[h1,zjr,if_neg hz]
    exact h2
  unfold pv
  go_enter Tryz.func152,Tryz.ntmps152
  go_wp2_with fail
  refine (ze C gt cap base S q z d 4 s _ (zf (zf htok _) _) hfew (by decide)).mono ?_
  rintro e w1 ⟨rfl,hb⟩
  rw[hi]
  obtain⟨g1,g2⟩:=zhq hb
  obtain⟨a0,a1,a2,a3,a4,a5,a6,a7,a8,a9,a10,a11,af⟩:=zcc g1
  obtain⟨b0,b1,b2,b3,b4,b5,b6,b7,b8,b9,b10,b11,bf⟩:=zcc g2
  have G2:=hidI g2
  have htok1:=zds htok (zcn hb)
  clear g1 g2 hi
  go_wp2_with fail
  refine (zhb C gt cap base S q z d _ htok1 hfew).mono ?_
  rintro e w2 ⟨rfl,hb2⟩
  have G3:Hid (_=_):=(hb2.block _ (Nat.lt_of_lt_of_le (by simp) hb.size)).trans G2.out
  obtain⟨c0,c1,c2,c3,c4,c5,c6,c7,c8,c9,c10,c11,cf⟩:=zcc G3.out
  have hbb:=(zcn hb).trans (hb2.mono (zcn hb).size)
  clear a0 a1 a2 a3 a4 a5 a6 a7 a8 a9 a10 a11 b0 b1 b2 b3 b4 b5 b6 b7 b8 b9 b10 b11 af bf
  unfold pv
  go_wp2
  refine bodyPost_ret (results_cell_row rfl _ _ (w.heap.size+1) 122 _ (0,0) _ rfl (zff G3.out) Tryz.underlying122 rfl (by kernel_rfl)) rfl ?_
  exact zfc rfl HY.out HM.out (zfb hbb (Nat.le_succ _) _ _ _ _ _ _ _ _ _ _ _ _)
-- GEN
theorem zbn (C:Cx) (gt cap base:Nat) (x:PR) (S:Sv) (q:PS) (z:Int) (d:Nat) (s:ByteArray) (w:World) (hx:Is x q z) (hm:Mem C gt cap base S q w):
  Calls Tryz.prog 154 #[pv C gt cap S q z d,.string s] w (Out C gt cap base (bd x (tokP C 1 s)) d S w):=by
 have HM:=hidI hm
 have htok:=hm.tok
 have hfew:=hm.few
 have HX:=hidI hx
 clear hx hm
 cases hi:(decide (z<0)&&isT C q.pos 1 s) with
 |true=>
  have hlt:q.pos<C.ts.length:=by rw[Bool.and_eq_true] at hi;exact zcm hi.2 (by decide)
  have HY:Hid (Is (bd x (tokP C 1 s)) (adv q) z):=by
   rw[Bool.and_eq_true,decide_eq_true_eq] at hi
   obtain⟨h1,h2⟩:=zcv HX.out hi.1
   show Is (bd x (tokP C 1 s)) (adv q) z
   rw[h1,zg,tokP,if_pos hi.2]
   exact⟨rfl,h2⟩
  unfold pv
  go_enter Tryz.func154,Tryz.ntmps154
  go_wp2_with fail
  refine (ze C gt cap base S q z d 1 s _ (zf (zf htok _) _) hfew (by decide)).mono ?_
  rintro e w1 ⟨rfl,hb⟩
  rw[hi]
  obtain⟨g1,g2⟩:=zhq hb
  obtain⟨a0,a1,a2,a3,a4,a5,a6,a7,a8,a9,a10,a11,af⟩:=zcc g1
  obtain⟨b0,b1,b2,b3,b4,b5,b6,b7,b8,b9,b10,b11,bf⟩:=zcc g2
  have G2:=hidI g2
  clear g1 g2 hi
  go_wp2
  refine bodyPost_ret (results_cell_row rfl _ _ (w.heap.size+1) 122 _ (0,0) _ rfl (zff ((zv (by omega)).trans G2.out)) Tryz.underlying122 rfl (by kernel_rfl)) rfl ?_
  exact zfc rfl HY.out (HM.out.adv hlt) (zfb ((zcn hb).setCell (Nat.le_refl _) _) (Nat.le_succ _) _ _ _ _ _ _ _ _ _ _ _ _)
 |false=>
  have HY:Hid (Is (bd x (tokP C 1 s)) q (zgn C q.pos z)):=by
   show Is (bd x (tokP C 1 s)) q (zgn C q.pos z)
   unfold zgn
   by_cases hz:z<0
   ·obtain⟨h1,h2⟩:=zcv HX.out hz
    simp only[hz,decide_true,Bool.true_and] at hi
    rw[h1,zg,tokP,hi,if_pos hz]
    rfl
   ·obtain⟨e,h1,h2⟩:=zkt HX.out hz
    rw[h1,zjr,if_neg hz]
    exact h2
  unfold pv
  go_enter Tryz.func154,Tryz.ntmps154
  go_wp2_with fail
  refine (ze C gt cap base S q z d 1 s _ (zf (zf htok _) _) hfew (by decide)).mono ?_
  rintro e w1 ⟨rfl,hb⟩
  rw[hi]
  obtain⟨g1,g2⟩:=zhq hb
  obtain⟨a0,a1,a2,a3,a4,a5,a6,a7,a8,a9,a10,a11,af⟩:=zcc g1
  obtain⟨b0,b1,b2,b3,b4,b5,b6,b7,b8,b9,b10,b11,bf⟩:=zcc g2
  have G2:=hidI g2
  have htok1:=zds htok (zcn hb)
  clear g1 g2 hi
  go_wp2_with fail
  refine (zhb C gt cap base S q z d _ htok1 hfew).mono ?_
  rintro e w2 ⟨rfl,hb2⟩
  have G3:Hid (_=_):=(hb2.block _ (Nat.lt_of_lt_of_le (by simp) hb.size)).trans G2.out
  obtain⟨c0,c1,c2,c3,c4,c5,c6,c7,c8,c9,c10,c11,cf⟩:=zcc G3.out
  have hbb:=(zcn hb).trans (hb2.mono (zcn hb).size)
  clear a0 a1 a2 a3 a4 a5 a6 a7 a8 a9 a10 a11 b0 b1 b2 b3 b4 b5 b6 b7 b8 b9 b10 b11 af bf
  unfold pv
  go_wp2
  refine bodyPost_ret (results_cell_row rfl _ _ (w.heap.size+1) 122 _ (0,0) _ rfl (zff G3.out) Tryz.underlying122 rfl (by kernel_rfl)) rfl ?_
  exact zfc rfl HY.out HM.out (zfb hbb (Nat.le_succ _) _ _ _ _ _ _ _ _ _ _ _ _)
theorem zez (s:ByteArray) (scr:Bool) (w:World):
  Calls Tryz.prog 294 #[.string s,.bool scr] w fun e w'=>e= .returned (.bool (resB s scr))∧w'=w:=by
 cases e0:(s.toList==[105,109,112,111,114,116]) with
 |true=>
  have HV:Hid (resB s scr=true):=by show resB s scr=true;simp[resB,e0]
  go_enter Tryz.func294,Tryz.ntmps294
  go_wp2
  go_ret
  exact⟨zi HV.out.symm,rfl⟩
 |false=>
  cases e1:(s.toList==[101,120,112,111,114,116]) with
  |true=>
   have HV:Hid (resB s scr=true):=by show resB s scr=true;simp[resB,e0,e1]
   go_enter Tryz.func294,Tryz.ntmps294
   go_wp2
   go_ret
   exact⟨zi HV.out.symm,rfl⟩
  |false=>
   cases e2:(s.toList==[100,101,102,97,117,108,116]) with
   |true=>
    have HV:Hid (resB s scr=true):=by show resB s scr=true;simp[resB,e0,e1,e2]
    go_enter Tryz.func294,Tryz.ntmps294
    go_wp2
    go_ret
    exact⟨zi HV.out.symm,rfl⟩
   |false=>
    cases e3:(s.toList==[108,101,116]) with
    |true=>
     have HV:Hid (resB s scr=true):=by show resB s scr=true;simp[resB,e0,e1,e2,e3]
     go_enter Tryz.func294,Tryz.ntmps294
     go_wp2
     go_ret
     exact⟨zi HV.out.symm,rfl⟩
    |false=>
     cases e4:(s.toList==[102,117,110,99,116,105,111,110]) with
     |true=>
      have HV:Hid (resB s scr=true):=by show resB s scr=true;simp[resB,e0,e1,e2,e3,e4]
      go_enter Tryz.func294,Tryz.ntmps294
      go_wp2
      go_ret
      exact⟨zi HV.out.symm,rfl⟩
     |false=>
      cases e5:(s.toList==[114,101,116,117,114,110]) with
      |true=>
       have HV:Hid (resB s scr=true):=by show resB s scr=true;simp[resB,e0,e1,e2,e3,e4,e5]
       go_enter Tryz.func294,Tryz.ntmps294
       go_wp2
       go_ret
       exact⟨zi HV.out.symm,rfl⟩
      |false=>
       cases e6:(s.toList==[112,114,105,110,116]) with
       |true=>
        have HV:Hid (resB s scr=true):=by show resB s scr=true;simp[resB,e0,e1,e2,e3,e4,e5,e6]
        go_enter Tryz.func294,Tryz.ntmps294
        go_wp2
        go_ret
        exact⟨zi HV.out.symm,rfl⟩
       |false=>
        cases e7:(s.toList==[116,104,114,111,119]) with
        |true=>
         have HV:Hid (resB s scr=true):=by show resB s scr=true;simp[resB,e0,e1,e2,e3,e4,e5,e6,e7]
         go_enter Tryz.func294,Tryz.ntmps294
         go_wp2
         go_ret
         exact⟨zi HV.out.symm,rfl⟩
        |false=>
         cases e8:(s.toList==[102,97,105,108]) with
         |true=>
          have HV:Hid (resB s scr=scr):=by show resB s scr=scr;simp[resB,e0,e1,e2,e3,e4,e5,e6,e7,e8]
          go_enter Tryz.func294,Tryz.ntmps294
          go_wp2
          go_ret
          exact⟨zi HV.out.symm,rfl⟩
         |false=>
          cases e9:(s.toList==[117,110,100,101,102]) with
          |true=>
           have HV:Hid (resB s scr=scr):=by show resB s scr=scr;simp[resB,e0,e1,e2,e3,e4,e5,e6,e7,e8,e9]
           go_enter Tryz.func294,Tryz.ntmps294
           go_wp2
           go_ret
           exact⟨zi HV.out.symm,rfl⟩
          |false=>
           have HV:Hid (resB s scr=false):=by show resB s scr=false;simp[resB,e0,e1,e2,e3,e4,e5,e6,e7,e8,e9]
           go_enter Tryz.func294,Tryz.ntmps294
           go_wp2
           go_ret
           exact⟨zi HV.out.symm,rfl⟩
theorem zbih {C:Cx} {i:Nat} {o:Bool} (h:((zd C i).kind==1)=false):plainB C i o=false:=by rw[plainB,h];rfl
theorem zrq {C:Cx} {i:Nat} {o:Bool} (h: ¬i<C.ts.length):plainB C i o=false:=by
 rw[Bool.eq_false_iff]
 exact fun g=>h (zjs g)
theorem zku (C:Cx) (gt cap base:Nat) (S:Sv) (q:PS) (z:Int) (d:Nat) (o:Bool) (w:World) (ht:OwnT w base 80 gt C.ts.length cap C.ts) (_:C.ts.length≤4000):
  Calls Tryz.prog 239 #[pv C gt cap S q z d,.bool o] w fun e w'=>e= .returned (.bool (decide (z<0)&&plainB C q.pos o))∧Below w.heap.size w w':=by
 unfold pv
 by_cases hz:z<0
 ·have dz:decide (z<0)=true:=decide_eq_true hz
  have dz2:decide (0≤z)=false:=decide_eq_false (by omega)
  by_cases hp:q.pos<C.ts.length
  ·obtain⟨c0,c1,_,_⟩:=ht.cells hp (d:=⟨0,sNone,0,C.fin⟩)
   have hglt:=(zbr ht).1
   change _=some (Value.int .i64 (zd C q.pos).kind) at c0
   change _=some (Value.string (zd C q.pos).text) at c1
   generalize htk:zd C q.pos=t at c0 c1
   cases e1:(t.kind==1) with
   |true=>
    have e1':(t.kind !=1)=false:=by rw[bne,e1];rfl
    cases e2:resB t.text C.scr with
    |false=>
     have HV:Hid (plainB C q.pos o=true):=by show plainB C q.pos o=true;simp only[plainB,htk,e1,e2,Bool.not_false,Bool.true_or,Bool.and_self]
     clear htk
     go_enter Tryz.func239,Tryz.ntmps239
     go_wp2_with (first|(go_at_call 294;refine (zez _ _ _).mono ?_;rintro e w' ⟨rfl,rfl⟩))
     go_ret
     exact⟨zi (by first|(rw[dz,HV.out];rfl)|rfl),(Below.refl _ _).alloc (Nat.le_refl _) _⟩
    |true=>
     cases o with
     |true=>
      cases e3:(t.text.toList==[100,101,102,97,117,108,116]) with
      |true=>
       have HV:Hid (plainB C q.pos true=true):=by show plainB C q.pos true=true;simp only[plainB,htk,e1,e2,e3,Bool.not_true,Bool.and_self,Bool.false_or]
       clear htk
       go_enter Tryz.func239,Tryz.ntmps239
       go_wp2_with (first|(go_at_call 294;refine (zez _ _ _).mono ?_;rintro e w' ⟨rfl,rfl⟩))
       go_ret
       exact⟨zi (by first|(rw[dz,HV.out];rfl)|rfl),(Below.refl _ _).alloc (Nat.le_refl _) _⟩
      |false=>
       have HV:Hid (plainB C q.pos true=false):=by show plainB C q.pos true=false;simp only[plainB,htk,e1,e2,e3,Bool.not_true,Bool.true_and,Bool.or_self]
       clear htk
       go_enter Tryz.func239,Tryz.ntmps239
       go_wp2_with (first|(go_at_call 294;refine (zez _ _ _).mono ?_;rintro e w' ⟨rfl,rfl⟩))
       go_ret
       exact⟨zi (by first|(rw[dz,HV.out];rfl)|rfl),(Below.refl _ _).alloc (Nat.le_refl _) _⟩
     |false=>
      have HV:Hid (plainB C q.pos false=false):=by show plainB C q.pos false=false;simp only[plainB,htk,e1,e2,Bool.not_true,Bool.false_and,Bool.or_self,Bool.and_false]
      clear htk
      go_enter Tryz.func239,Tryz.ntmps239
      go_wp2_with (first|(go_at_call 294;refine (zez _ _ _).mono ?_;rintro e w' ⟨rfl,rfl⟩))
      go_ret
      exact⟨zi (by first|(rw[dz,HV.out];rfl)|rfl),(Below.refl _ _).alloc (Nat.le_refl _) _⟩
   |false=>
    have e1':(t.kind !=1)=true:=by rw[bne,e1];rfl
    have HV:Hid (plainB C q.pos o=false):=zbih (by rw[htk];exact e1)
    clear htk
    go_enter Tryz.func239,Tryz.ntmps239
    go_wp2_with (first|(go_at_call 294;refine (zez _ _ _).mono ?_;rintro e w' ⟨rfl,rfl⟩))
    go_ret
    exact⟨zi (by first|(rw[dz,HV.out];rfl)|rfl),(Below.refl _ _).alloc (Nat.le_refl _) _⟩
  ·have HV:Hid (plainB C q.pos o=false):=zrq hp
   go_enter Tryz.func239,Tryz.ntmps239
   go_wp2_with (first|(go_at_call 294;refine (zez _ _ _).mono ?_;rintro e w' ⟨rfl,rfl⟩))
   go_ret
   exact⟨zi (by first|(rw[dz,HV.out];rfl)|rfl),(Below.refl _ _).alloc (Nat.le_refl _) _⟩
 ·have dz:decide (z<0)=false:=decide_eq_false hz
  have dz2:decide (0≤z)=true:=decide_eq_true (by omega)
  have HV:Hid (plainB C q.pos o=plainB C q.pos o):=rfl
  go_enter Tryz.func239,Tryz.ntmps239
  go_wp2_with (first|(go_at_call 294;refine (zez _ _ _).mono ?_;rintro e w' ⟨rfl,rfl⟩))
  go_ret
  exact⟨zi (by first|(rw[dz,HV.out];rfl)|rfl),(Below.refl _ _).alloc (Nat.le_refl _) _⟩
def Is2 (y:Except Nat (PS×ByteArray)) (q:PS) (z:Int) (n:ByteArray):Prop:=
 match y with
 | .ok a=>q=a.1∧z= -1∧n=a.2
 | .error e=>z=(e:Int)
theorem Is2.fst {y:Except Nat (PS×ByteArray)} {q:PS} {z:Int} {n:ByteArray} (h:Is2 y q z n):Is (fstP y) q z:=by
 cases y with
 |ok a=>exact⟨h.1,h.2.1⟩
 |error e=>exact h
theorem Is2.bind {y:Except Nat (PS×ByteArray)} {q:PS} {z:Int} {n:ByteArray} (h:Is2 y q z n) {β:Type} (F:PS→ByteArray→Except Nat β):bd (fstP y) (fun q=>F q n)=bd y fun a=>F a.1 a.2:=by
 cases y with
 |ok a=>obtain⟨_,_,rfl⟩:=h;rfl
 |error e=>rfl
def Out2 (C:Cx) (gt cap base:Nat) (y:Except Nat (PS×ByteArray)) (d:Nat) (S:Sv) (w:World) (e:Ending) (w':World):Prop:=
 ∃S' q' z' n',e= .returned (.tuple #[pv C gt cap S' q' z' d,.string n'])∧Is2 y q' z' n'∧Mem C gt cap base S' q' w'∧Stp S w S' w'
theorem zhx {C:Cx} {gt cap base:Nat} {y:Except Nat (PS×ByteArray)} {d:Nat} {S:Sv} {w w':World} {q':PS} {z':Int} {n':ByteArray} {v:Value} (hv:v=pv C gt cap S q' z' d) (hi:Is2 y q' z' n') (hm:Mem C gt cap base S q' w) (hb:Below w.heap.size w w'):Out2 C gt cap base y d S w (.returned (.tuple #[v,.string n'])) w':=
 ⟨S,q',z',n',by rw[hv],hi,hm.later hb,Stp.below hb⟩
theorem zcf (C:Cx) (gt cap base:Nat) (x:PR) (S:Sv) (q:PS) (z:Int) (d:Nat) (o:Bool) (w:World) (hx:Is x q z) (hm:Mem C gt cap base S q w):
  Calls Tryz.prog 156 #[pv C gt cap S q z d,.bool o] w (Out2 C gt cap base (bd x (zk C o)) d S w):=by
 have HM:=hidI hm
 have htok:=hm.tok
 have hfew:=hm.few
 have HX:=hidI hx
 clear hx hm
 cases hi:(decide (z<0)&&plainB C q.pos o) with
 |true=>
  have hlt:q.pos<C.ts.length:=by rw[Bool.and_eq_true] at hi;exact zjs hi.2
  have HY:Hid (Is2 (bd x (zk C o)) (adv q) z (zd C q.pos).text):=by
   rw[Bool.and_eq_true,decide_eq_true_eq] at hi
   obtain⟨h1,h2⟩:=zcv HX.out hi.1
   show Is2 (bd x (zk C o)) (adv q) z (zd C q.pos).text
   rw[h1,zg,zk,if_pos hi.2]
   exact⟨rfl,h2,rfl⟩
  unfold pv
  go_enter Tryz.func156,Tryz.ntmps156
  go_wp2_with fail
  refine (zku C gt cap base S q z d o _ (zf (zf htok _) _) hfew).mono ?_
  rintro e w1 ⟨rfl,hb⟩
  rw[hi]
  obtain⟨g1,g2⟩:=zhq hb
  obtain⟨a0,a1,a2,a3,a4,a5,a6,a7,a8,a9,a10,a11,af⟩:=zcc g1
  obtain⟨b0,b1,b2,b3,b4,b5,b6,b7,b8,b9,b10,b11,bf⟩:=zcc g2
  have htok1:=zds htok (zcn hb)
  obtain⟨_,c1,_,_⟩:=htok1.cells hlt (d:=⟨0,sNone,0,C.fin⟩)
  change _=some (Value.string (zd C q.pos).text) at c1
  have G2:=hidI g2
  clear g1 g2 hi
  go_wp2
  refine bodyPost_ret (zl rfl _ _ (w.heap.size+1) 122 _ (0,0) _ rfl (zff ((zv (by omega)).trans G2.out)) Tryz.underlying122 rfl (by kernel_rfl)) rfl ?_
  exact zhx rfl HY.out (HM.out.adv hlt) (zfb ((zcn hb).setCell (Nat.le_refl _) _) (Nat.le_succ _) _ _ _ _ _ _ _ _ _ _ _ _)
 |false=>
  have HY:Hid (Is2 (bd x (zk C o)) q (zgn C q.pos z) sNone):=by
   show Is2 (bd x (zk C o)) q (zgn C q.pos z) sNone
   unfold zgn
   by_cases hz:z<0
   ·obtain⟨h1,h2⟩:=zcv HX.out hz
    simp only[hz,decide_true,Bool.true_and] at hi
    rw[h1,zg,zk,hi,if_pos hz]
    rfl
   ·obtain⟨e,h1,h2⟩:=zkt HX.out hz
    rw[h1,zjr,if_neg hz]
    exact h2
  unfold pv
  go_enter Tryz.func156,Tryz.ntmps156
  go_wp2_with fail
  refine (zku C gt cap base S q z d o _ (zf (zf htok _) _) hfew).mono ?_
  rintro e w1 ⟨rfl,hb⟩
  rw[hi]
  obtain⟨g1,g2⟩:=zhq hb
  obtain⟨a0,a1,a2,a3,a4,a5,a6,a7,a8,a9,a10,a11,af⟩:=zcc g1
  have G2:=hidI g2
  have htok1:=zds htok (zcn hb)
  clear g1 g2 hi
  go_wp2_with fail
  refine (zhb C gt cap base S q z d _ htok1 hfew).mono ?_
  rintro e w2 ⟨rfl,hb2⟩
  have G3:Hid (_=_):=(hb2.block _ (Nat.lt_of_lt_of_le (by simp) hb.size)).trans G2.out
  obtain⟨c0,c1,c2,c3,c4,c5,c6,c7,c8,c9,c10,c11,cf⟩:=zcc G3.out
  have hbb:=(zcn hb).trans (hb2.mono (zcn hb).size)
  clear a0 a1 a2 a3 a4 a5 a6 a7 a8 a9 a10 a11 af
  unfold pv
  go_wp2
  refine bodyPost_ret (zl rfl _ _ (w.heap.size+1) 122 _ (0,0) _ rfl (zff G3.out) Tryz.underlying122 rfl (by kernel_rfl)) rfl ?_
  exact zhx rfl HY.out HM.out (zfb hbb (Nat.le_succ _) _ _ _ _ _ _ _ _ _ _ _ _)
theorem Tryz.infoImp:(Tryz.prog.info? 141).map (fun i=>(i.zero,i.size,i.bytes))=some (some (.agg #[.string {data:=#[]},.string {data:=#[]},.string {data:=#[]}]),3,48):=by kernel_rfl
theorem Tryz.infoExp:(Tryz.prog.info? 143).map (fun i=>(i.zero,i.size,i.bytes))=some (some (.agg #[.int .i64 0,.string {data:=#[]},.string {data:=#[]},.string {data:=#[]}]),4,56):=by kernel_rfl
theorem Tryz.infoStmt:(Tryz.prog.info? 61).map (fun i=>(i.zero,i.size,i.bytes))=some (some (.agg #[.int .i64 0,.string {data:=#[]},.int .i64 0]),3,32):=by kernel_rfl
theorem Tryz.infoExpr:(Tryz.prog.info? 145).map (fun i=>(i.zero,i.size,i.bytes))=some (some (.agg #[.int .i64 0,.int .i64 0,.string {data:=#[]},.string {data:=#[]},.int .i64 0,.int .i64 0]),6,64):=by kernel_rfl
def imV (x:Im):Value:=.agg #[.string x.spec,.string x.first,.string x.loc]
def epV (x:Ep):Value:=.agg #[.int .i64 x.kind,.string x.name,.string x.loc,.string x.spec]
def exV (x:Ex):Value:=.agg #[.int .i64 x.kind,.int .i64 x.num,.string x.name,.string x.field,.int .i64 x.l,.int .i64 x.r]
theorem zjm (w:World) (a b c:Obj):Below w.heap.size w (((w.alloc a).alloc b).alloc c):=(zir w a b).alloc (zir w a b).size c
theorem zvo (w:World) (a b c d:Obj):Below w.heap.size w ((((w.alloc a).alloc b).alloc c).alloc d):=(zjm w a b c).alloc (zjm w a b c).size d
theorem zkv (w:World) (a b:Obj):((w.alloc a).alloc b).heap.size=w.heap.size+1+1:=by rw[zq,zq]
theorem zcg (w:World) (a b c:Obj):(((w.alloc a).alloc b).alloc c).heap.size=w.heap.size+1+1+1:=by rw[zq,zkv]
theorem zdo (w:World) (a b c d:Obj):((((w.alloc a).alloc b).alloc c).alloc d).heap.size=w.heap.size+1+1+1+1:=by rw[zq,zcg]
theorem new3 (w:World) (a b c:Obj):(((w.alloc a).alloc b).alloc c).heap[w.heap.size]? =some a∧(((w.alloc a).alloc b).alloc c).heap[w.heap.size+1]? =some b∧(((w.alloc a).alloc b).alloc c).heap[w.heap.size+1+1]? =some c:=by
 refine⟨?_,?_,?_⟩
 ·rw[Below.heap_alloc _ _ _ (by rw[zkv];omega),Below.heap_alloc _ _ _ (by rw[zq];omega)]
  exact heap_alloc_new w a
 ·rw[Below.heap_alloc _ _ _ (by rw[zkv];omega)]
  exact new2 w a b
 ·rw[←zkv w a b]
  exact heap_alloc_new _ c
theorem new4 (w:World) (a b c d:Obj):((((w.alloc a).alloc b).alloc c).alloc d).heap[w.heap.size]? =some a∧((((w.alloc a).alloc b).alloc c).alloc d).heap[w.heap.size+1]? =some b∧((((w.alloc a).alloc b).alloc c).alloc d).heap[w.heap.size+1+1]? =some c∧((((w.alloc a).alloc b).alloc c).alloc d).heap[w.heap.size+1+1+1]? =some d:=by
 obtain⟨h1,h2,h3⟩:=new3 w a b c
 refine⟨?_,?_,?_,?_⟩
 ·rw[Below.heap_alloc _ _ _ (by rw[zcg];omega)]
  exact h1
 ·rw[Below.heap_alloc _ _ _ (by rw[zcg];omega)]
  exact h2
 ·rw[Below.heap_alloc _ _ _ (by rw[zcg];omega)]
  exact h3
 ·rw[←zcg w a b c]
  exact heap_alloc_new _ d
theorem zoq {w w1:World} {a b c:Obj} (hb:Below (((w.alloc a).alloc b).alloc c).heap.size (((w.alloc a).alloc b).alloc c) w1):Below w.heap.size w w1:=(zjm w a b c).trans (hb.mono (zjm w a b c).size)
theorem zss {C:Cx} {x:PR} {q:PS} {z:Int} {f:PS→PR} (hx:Is x q z) (hz:z<0) (hf:f q= .error (here C (q.pos-1))):Is (bd x f) q (here C (q.pos-1)):=by
 obtain⟨rfl,_⟩:=zcv hx hz
 rw[zg,hf]
 rfl
theorem zst {x:PR} {q:PS} {z:Int} {f:PS→PR} (hx:Is x q z) (hz: ¬z<0):Is (bd x f) q z:=by
 obtain⟨e,rfl,h2⟩:=zkt hx hz
 exact h2
theorem zpe {x:PR} {q q':PS} {z:Int} {f:PS→PR} (hx:Is x q z) (hz:z<0) (hf:f q= .ok q'):Is (bd x f) q' z:=by
 obtain⟨rfl,h2⟩:=zcv hx hz
 rw[zg,hf]
 exact⟨rfl,h2⟩
theorem wpos {w W:World} {base:Nat} {S:Sv} {q:PS} (ho:Own w base S q) (_:w.heap.size≤W.heap.size) {r:Option Nat} (hr: ∀k,r=some k→S.has k) (b:Nat) (hb:w.heap.size≤b):some b≠r:=fun e=>by have:=(ho.has (hr b e.symm)).2;omega
theorem zfr (C:Cx) (gt cap base:Nat) (x:PR) (S:Sv) (q:PS) (z:Int) (d:Nat) (y:Ex) (w:World) (hx:Is x q z) (hm:Mem C gt cap base S q w) (hp:z<0→1≤q.pos):
  Calls Tryz.prog 243 #[pv C gt cap S q z d,exV y] w (Out C gt cap base (bd x (zbm C y)) d S w):=by
 obtain⟨i0,hi,hz0,hz1,hz2⟩:=info_parts Tryz.infoExpr
 have HM:=hidI hm
 have HX:=hidI hx
 have hlex:q.ex.length≤300:=by have:=hm.inv.ex;omega
 clear hx
 by_cases hz:z<0
 ·have dz:decide (0≤z)=false:=decide_eq_false (by omega)
  by_cases hn:300≤q.ex.length
  ·have HY:Hid (Is (bd x (zbm C y)) q (here C (q.pos-1))):=zss HX.out hz (if_pos hn)
   have qn:decide ((300:Int)≤(q.ex.length:Int))=true:=decide_eq_true (by omega)
   have hpos:=hp hz
   clear hp hm
   unfold pv exV
   go_enter Tryz.func243,Tryz.ntmps243
   go_wp2_with fail
   refine (zjl C gt cap base S q z d _ (((HM.out.alloc _).alloc _).alloc _) hz hpos).mono ?_
   rintro e w2 ⟨rfl,hb2⟩
   have hbb:Below w.heap.size w w2:=zoq hb2
   have G3:Hid (_=_):=(hb2.block (w.heap.size+1+1) (by rw[zcg];omega)).trans ((new3 w _ _ _).2.2)
   obtain⟨c0,c1,c2,c3,c4,c5,c6,c7,c8,c9,c10,c11,cf⟩:=zcc G3.out
   clear hb2
   unfold pv
   go_wp2
   refine bodyPost_ret (results_cell_row rfl _ _ (w.heap.size+1+1) 122 _ (0,0) _ rfl (zff G3.out) Tryz.underlying122 rfl (by kernel_rfl)) rfl ?_
   exact zfc rfl HY.out HM.out (zfb hbb (by omega) _ _ _ _ _ _ _ _ _ _ _ _)
  ·have qn:decide ((300:Int)≤(q.ex.length:Int))=false:=decide_eq_false (by omega)
   have HY:Hid (Is (bd x (zbm C y)) {q with ex:=q.ex++[y]} z):=zpe HX.out hz (if_neg hn)
   have hown:=fun o1 o2 o3 o4=>((((HM.out.own.ex.alloc o1).alloc o2).alloc o3).alloc o4)
   clear hp hm
   unfold pv exV
   go_enter Tryz.func243,Tryz.ntmps243
   go_wp2_with (at_builtin;refine zhp _ rfl _ _ 57 rfl base 145 i0 _ 6 64 Tryz.underlying57 hi hz0 hz1 hz2 rfl (by decide) (by decide) S.ex q.ex.length _ (by rfl) (hown _ _ _ _) (w.heap.size+1+1+1) (exL y) (by rfl) (by first|exact (new4 w _ _ _ _).2.2.2|exact (new3 w _ _ _).2.2) rfl (by intro u hu;simp[exL] at hu;rcases hu with rfl|rfl|rfl|rfl|rfl|rfl<;>rfl) (by omega) (by have:=HM.out.base;(first|rw[zdo]|rw[zcg]);omega) ?_)
   intro r' w2 hr hg hat
   have HR:=hidI hr
   have HG:=hidI hg
   have HAT:=hidI hat
   have hne:=fun b hb=>wpos (W:=w) HM.out.own (Nat.le_refl _) (r:=S.ex.blk) (fun k e=>.inr (.inr (.inr (.inr (.inl e))))) b hb
   have g1:=(hg.block w.heap.size (by (first|rw[zdo]|rw[zcg]);omega) (hne _ (Nat.le_refl _))).trans (by first|exact (new4 w _ _ _ _).1|exact (new3 w _ _ _).1)
   have g2:=(hg.block (w.heap.size+1+1) (by (first|rw[zdo]|rw[zcg]);omega) (hne _ (by omega))).trans (by first|exact (new4 w _ _ _ _).2.2.1|exact (new3 w _ _ _).2.1)
   obtain⟨a0,a1,a2,a3,a4,a5,a6,a7,a8,a9,a10,a11,af⟩:=zcc g1
   obtain⟨b0,b1,b2,b3,b4,b5,b6,b7,b8,b9,b10,b11,bf⟩:=zcc g2
   have G2:=hidI g2
   clear g1 g2 hg hr hat hne hown
   go_wp2
   refine bodyPost_ret (results_cell_row rfl _ _ (w.heap.size+1+1) 122 _ (0,0) _ rfl (zff ((zv (by omega)).trans G2.out)) Tryz.underlying122 rfl (by kernel_rfl)) rfl ?_
   obtain⟨m',s'⟩:=HM.out.grow_ex (x:=y) (zvo w _ _ _ _) HG.out HR.out (by (first|rw[zdo]|rw[zcg]);exact HAT.out) (((Off.refl _ _ _).set (b:=w.heap.size) (Nat.le_refl _) (by (first|rw[zdo]|rw[zcg]);omega) _ _).set12 (b:=w.heap.size+1+1) (by omega) (by (first|rw[zdo]|rw[zcg]);omega) _ _ _ _ _ _ _ _ _ _ _ _) (by omega)
   exact⟨_,{q with ex:=q.ex++[y]},z,by simp[pv],HY.out,m',s'⟩
 ·have dz:decide (0≤z)=true:=decide_eq_true (by omega)
  have HY:Hid (Is (bd x (zbm C y)) q z):=zst HX.out hz
  clear hp hm
  unfold pv exV
  go_enter Tryz.func243,Tryz.ntmps243
  go_wp2
  refine bodyPost_ret (results_cell_row rfl _ _ (w.heap.size+1+1) 122 _ (0,0) _ rfl ((new3 w _ _ _).2.2) Tryz.underlying122 rfl (by kernel_rfl)) rfl ?_
  exact zfc rfl HY.out HM.out (zjm w _ _ _)
theorem zpx (C:Cx) (gt cap base:Nat) (x:PR) (S:Sv) (q:PS) (z:Int) (d:Nat) (y:Im) (w:World) (hx:Is x q z) (hm:Mem C gt cap base S q w) (hp:z<0→1≤q.pos):
  Calls Tryz.prog 238 #[pv C gt cap S q z d,imV y] w (Out C gt cap base (bd x (zbx C y)) d S w):=by
 obtain⟨i0,hi,hz0,hz1,hz2⟩:=info_parts Tryz.infoImp
 have HM:=hidI hm
 have HX:=hidI hx
 have hlim:q.im.length≤40:=by have:=hm.inv.im;omega
 clear hx
 by_cases hz:z<0
 ·have dz:decide (0≤z)=false:=decide_eq_false (by omega)
  by_cases hn:40≤q.im.length
  ·have HY:Hid (Is (bd x (zbx C y)) q (here C (q.pos-1))):=zss HX.out hz (if_pos hn)
   have qn:decide ((40:Int)≤(q.im.length:Int))=true:=decide_eq_true (by omega)
   have hpos:=hp hz
   clear hp hm
   unfold pv imV
   go_enter Tryz.func238,Tryz.ntmps238
   go_wp2_with fail
   refine (zjl C gt cap base S q z d _ (((HM.out.alloc _).alloc _).alloc _) hz hpos).mono ?_
   rintro e w2 ⟨rfl,hb2⟩
   have hbb:Below w.heap.size w w2:=zoq hb2
   have G3:Hid (_=_):=(hb2.block (w.heap.size+1+1) (by rw[zcg];omega)).trans ((new3 w _ _ _).2.2)
   obtain⟨c0,c1,c2,c3,c4,c5,c6,c7,c8,c9,c10,c11,cf⟩:=zcc G3.out
   clear hb2
   unfold pv
   go_wp2
   refine bodyPost_ret (results_cell_row rfl _ _ (w.heap.size+1+1) 122 _ (0,0) _ rfl (zff G3.out) Tryz.underlying122 rfl (by kernel_rfl)) rfl ?_
   exact zfc rfl HY.out HM.out (zfb hbb (by omega) _ _ _ _ _ _ _ _ _ _ _ _)
  ·have qn:decide ((40:Int)≤(q.im.length:Int))=false:=decide_eq_false (by omega)
   have HY:Hid (Is (bd x (zbx C y)) {q with im:=q.im++[y]} z):=zpe HX.out hz (if_neg hn)
   have hown:=fun o1 o2 o3 o4=>((((HM.out.own.im.alloc o1).alloc o2).alloc o3).alloc o4)
   clear hp hm
   unfold pv imV
   go_enter Tryz.func238,Tryz.ntmps238
   go_wp2_with (at_builtin;refine zhp _ rfl _ _ 54 rfl base 141 i0 _ 3 48 Tryz.underlying54 hi hz0 hz1 hz2 rfl (by decide) (by decide) S.im q.im.length _ (by rfl) (hown _ _ _ _) (w.heap.size+1+1+1) (imL y) (by rfl) (by first|exact (new4 w _ _ _ _).2.2.2|exact (new3 w _ _ _).2.2) rfl (by intro u hu;simp[imL] at hu;rcases hu with rfl|rfl|rfl<;>rfl) (by omega) (by have:=HM.out.base;(first|rw[zdo]|rw[zcg]);omega) ?_)
   intro r' w2 hr hg hat
   have HR:=hidI hr
   have HG:=hidI hg
   have HAT:=hidI hat
   have hne:=fun b hb=>wpos (W:=w) HM.out.own (Nat.le_refl _) (r:=S.im.blk) (fun k e=>.inr (.inl e)) b hb
   have g1:=(hg.block w.heap.size (by (first|rw[zdo]|rw[zcg]);omega) (hne _ (Nat.le_refl _))).trans (by first|exact (new4 w _ _ _ _).1|exact (new3 w _ _ _).1)
   have g2:=(hg.block (w.heap.size+1+1) (by (first|rw[zdo]|rw[zcg]);omega) (hne _ (by omega))).trans (by first|exact (new4 w _ _ _ _).2.2.1|exact (new3 w _ _ _).2.1)
   obtain⟨a0,a1,a2,a3,a4,a5,a6,a7,a8,a9,a10,a11,af⟩:=zcc g1
   obtain⟨b0,b1,b2,b3,b4,b5,b6,b7,b8,b9,b10,b11,bf⟩:=zcc g2
   have G2:=hidI g2
   clear g1 g2 hg hr hat hne hown
   go_wp2
   refine bodyPost_ret (results_cell_row rfl _ _ (w.heap.size+1+1) 122 _ (0,0) _ rfl (zff ((zv (by omega)).trans G2.out)) Tryz.underlying122 rfl (by kernel_rfl)) rfl ?_
   obtain⟨m',s'⟩:=HM.out.grow_im (x:=y) (zvo w _ _ _ _) HG.out HR.out (by (first|rw[zdo]|rw[zcg]);exact HAT.out) (((Off.refl _ _ _).set (b:=w.heap.size) (Nat.le_refl _) (by (first|rw[zdo]|rw[zcg]);omega) _ _).set12 (b:=w.heap.size+1+1) (by omega) (by (first|rw[zdo]|rw[zcg]);omega) _ _ _ _ _ _ _ _ _ _ _ _) (by omega)
   exact⟨_,{q with im:=q.im++[y]},z,by simp[pv],HY.out,m',s'⟩
 ·have dz:decide (0≤z)=true:=decide_eq_true (by omega)
  have HY:Hid (Is (bd x (zbx C y)) q z):=zst HX.out hz
  clear hp hm
  unfold pv imV
  go_enter Tryz.func238,Tryz.ntmps238
  go_wp2
  refine bodyPost_ret (results_cell_row rfl _ _ (w.heap.size+1+1) 122 _ (0,0) _ rfl ((new3 w _ _ _).2.2) Tryz.underlying122 rfl (by kernel_rfl)) rfl ?_
  exact zfc rfl HY.out HM.out (zjm w _ _ _)
theorem zhy (C:Cx) (gt cap base:Nat) (x:PR) (S:Sv) (q:PS) (z:Int) (d:Nat) (y:Ep) (w:World) (hx:Is x q z) (hm:Mem C gt cap base S q w) (hp:z<0→1≤q.pos):
  Calls Tryz.prog 240 #[pv C gt cap S q z d,epV y] w (Out C gt cap base (bd x (zo C y)) d S w):=by
 obtain⟨i0,hi,hz0,hz1,hz2⟩:=info_parts Tryz.infoExp
 have HM:=hidI hm
 have HX:=hidI hx
 have hlep:q.ep.length≤40:=by have:=hm.inv.ep;omega
 have hlla:q.la.length≤40:=by have:=hm.inv.ep;omega
 clear hx
 by_cases hz:z<0
 ·have dz:decide (0≤z)=false:=decide_eq_false (by omega)
  by_cases hn:40≤q.ep.length+q.la.length
  ·have HY:Hid (Is (bd x (zo C y)) q (here C (q.pos-1))):=zss HX.out hz (if_pos hn)
   have qn:decide ((40:Int)≤(q.ep.length:Int)+(q.la.length:Int))=true:=decide_eq_true (by omega)
   have hpos:=hp hz
   clear hp hm
   unfold pv epV
   go_enter Tryz.func240,Tryz.ntmps240
   go_wp2_with fail
   refine (zjl C gt cap base S q z d _ (((HM.out.alloc _).alloc _).alloc _) hz hpos).mono ?_
   rintro e w2 ⟨rfl,hb2⟩
   have hbb:Below w.heap.size w w2:=zoq hb2
   have G3:Hid (_=_):=(hb2.block (w.heap.size+1+1) (by rw[zcg];omega)).trans ((new3 w _ _ _).2.2)
   obtain⟨c0,c1,c2,c3,c4,c5,c6,c7,c8,c9,c10,c11,cf⟩:=zcc G3.out
   clear hb2
   unfold pv
   go_wp2
   refine bodyPost_ret (results_cell_row rfl _ _ (w.heap.size+1+1) 122 _ (0,0) _ rfl (zff G3.out) Tryz.underlying122 rfl (by kernel_rfl)) rfl ?_
   exact zfc rfl HY.out HM.out (zfb hbb (by omega) _ _ _ _ _ _ _ _ _ _ _ _)
  ·have qn:decide ((40:Int)≤(q.ep.length:Int)+(q.la.length:Int))=false:=decide_eq_false (by omega)
   cases hd:(y.loc.toList==[42,100,101,102,97,117,108,116]) with
   |true=>
    have HY:Hid (Is (bd x (zo C y)) {q with la:=q.la++[y]} z):=zpe HX.out hz (by rw[zo,if_neg hn,if_pos hd])
    have hown:=fun o1 o2 o3 o4=>((((HM.out.own.la.alloc o1).alloc o2).alloc o3).alloc o4)
    clear hp hm
    unfold pv epV
    go_enter Tryz.func240,Tryz.ntmps240
    go_wp2_with (at_builtin;refine zhp _ rfl _ _ 55 rfl base 143 i0 _ 4 56 Tryz.underlying55 hi hz0 hz1 hz2 rfl (by decide) (by decide) S.la q.la.length _ (by rfl) (hown _ _ _ _) (w.heap.size+1+1+1) (epL y) (by rfl) (by first|exact (new4 w _ _ _ _).2.2.2|exact (new3 w _ _ _).2.2) rfl (by intro u hu;simp[epL] at hu;rcases hu with rfl|rfl|rfl|rfl<;>rfl) (by omega) (by have:=HM.out.base;(first|rw[zdo]|rw[zcg]);omega) ?_)
    intro r' w2 hr hg hat
    have HR:=hidI hr
    have HG:=hidI hg
    have HAT:=hidI hat
    have hne:=fun b hb=>wpos (W:=w) HM.out.own (Nat.le_refl _) (r:=S.la.blk) (fun k e=>.inr (.inr (.inr (.inr (.inr e))))) b hb
    have g1:=(hg.block w.heap.size (by (first|rw[zdo]|rw[zcg]);omega) (hne _ (Nat.le_refl _))).trans (by first|exact (new4 w _ _ _ _).1|exact (new3 w _ _ _).1)
    have g2:=(hg.block (w.heap.size+1+1) (by (first|rw[zdo]|rw[zcg]);omega) (hne _ (by omega))).trans (by first|exact (new4 w _ _ _ _).2.2.1|exact (new3 w _ _ _).2.1)
    obtain⟨a0,a1,a2,a3,a4,a5,a6,a7,a8,a9,a10,a11,af⟩:=zcc g1
    obtain⟨b0,b1,b2,b3,b4,b5,b6,b7,b8,b9,b10,b11,bf⟩:=zcc g2
    have G2:=hidI g2
    clear g1 g2 hg hr hat hne hown
    go_wp2
    refine bodyPost_ret (results_cell_row rfl _ _ (w.heap.size+1+1) 122 _ (0,0) _ rfl (zff ((zv (by omega)).trans G2.out)) Tryz.underlying122 rfl (by kernel_rfl)) rfl ?_
    obtain⟨m',s'⟩:=HM.out.grow_la (x:=y) (zvo w _ _ _ _) HG.out HR.out (by (first|rw[zdo]|rw[zcg]);exact HAT.out) (((Off.refl _ _ _).set (b:=w.heap.size) (Nat.le_refl _) (by (first|rw[zdo]|rw[zcg]);omega) _ _).set12 (b:=w.heap.size+1+1) (by omega) (by (first|rw[zdo]|rw[zcg]);omega) _ _ _ _ _ _ _ _ _ _ _ _) (by omega)
    exact⟨_,{q with la:=q.la++[y]},z,by simp[pv],HY.out,m',s'⟩
   |false=>
    have HY:Hid (Is (bd x (zo C y)) {q with ep:=q.ep++[y]} z):=zpe HX.out hz (by rw[zo,if_neg hn,hd];rfl)
    have hown:=fun o1 o2 o3 o4=>((((HM.out.own.ep.alloc o1).alloc o2).alloc o3).alloc o4)
    clear hp hm
    unfold pv epV
    go_enter Tryz.func240,Tryz.ntmps240
    go_wp2_with (at_builtin;refine zhp _ rfl _ _ 55 rfl base 143 i0 _ 4 56 Tryz.underlying55 hi hz0 hz1 hz2 rfl (by decide) (by decide) S.ep q.ep.length _ (by rfl) (hown _ _ _ _) (w.heap.size+1+1+1) (epL y) (by rfl) (by first|exact (new4 w _ _ _ _).2.2.2|exact (new3 w _ _ _).2.2) rfl (by intro u hu;simp[epL] at hu;rcases hu with rfl|rfl|rfl|rfl<;>rfl) (by omega) (by have:=HM.out.base;(first|rw[zdo]|rw[zcg]);omega) ?_)
    intro r' w2 hr hg hat
    have HR:=hidI hr
    have HG:=hidI hg
    have HAT:=hidI hat
    have hne:=fun b hb=>wpos (W:=w) HM.out.own (Nat.le_refl _) (r:=S.ep.blk) (fun k e=>.inr (.inr (.inl e))) b hb
    have g1:=(hg.block w.heap.size (by (first|rw[zdo]|rw[zcg]);omega) (hne _ (Nat.le_refl _))).trans (by first|exact (new4 w _ _ _ _).1|exact (new3 w _ _ _).1)
    have g2:=(hg.block (w.heap.size+1+1) (by (first|rw[zdo]|rw[zcg]);omega) (hne _ (by omega))).trans (by first|exact (new4 w _ _ _ _).2.2.1|exact (new3 w _ _ _).2.1)
    obtain⟨a0,a1,a2,a3,a4,a5,a6,a7,a8,a9,a10,a11,af⟩:=zcc g1
    obtain⟨b0,b1,b2,b3,b4,b5,b6,b7,b8,b9,b10,b11,bf⟩:=zcc g2
    have G2:=hidI g2
    clear g1 g2 hg hr hat hne hown
    go_wp2
    refine bodyPost_ret (results_cell_row rfl _ _ (w.heap.size+1+1) 122 _ (0,0) _ rfl (zff ((zv (by omega)).trans G2.out)) Tryz.underlying122 rfl (by kernel_rfl)) rfl ?_
    obtain⟨m',s'⟩:=HM.out.grow_ep (x:=y) (zvo w _ _ _ _) HG.out HR.out (by (first|rw[zdo]|rw[zcg]);exact HAT.out) (((Off.refl _ _ _).set (b:=w.heap.size) (Nat.le_refl _) (by (first|rw[zdo]|rw[zcg]);omega) _ _).set12 (b:=w.heap.size+1+1) (by omega) (by (first|rw[zdo]|rw[zcg]);omega) _ _ _ _ _ _ _ _ _ _ _ _) (by omega)
    exact⟨_,{q with ep:=q.ep++[y]},z,by simp[pv],HY.out,m',s'⟩
 ·have dz:decide (0≤z)=true:=decide_eq_true (by omega)
  have HY:Hid (Is (bd x (zo C y)) q z):=zst HX.out hz
  clear hp hm
  unfold pv epV
  go_enter Tryz.func240,Tryz.ntmps240
  go_wp2
  refine bodyPost_ret (results_cell_row rfl _ _ (w.heap.size+1+1) 122 _ (0,0) _ rfl ((new3 w _ _ _).2.2) Tryz.underlying122 rfl (by kernel_rfl)) rfl ?_
  exact zfc rfl HY.out HM.out (zjm w _ _ _)
theorem zex (C:Cx) (gt cap base:Nat) (x:PR) (S:Sv) (q:PS) (z:Int) (d:Nat) (k:Int) (nm:ByteArray) (w:World) (hx:Is x q z) (hm:Mem C gt cap base S q w) (hp:z<0→1≤q.pos):
  Calls Tryz.prog 155 #[pv C gt cap S q z d,.int .i64 k,.string nm] w (Out C gt cap base (bd x (zbi C k nm)) d S w):=by
 obtain⟨i0,hi,hz0,hz1,hz2⟩:=info_parts Tryz.infoStmt
 have HM:=hidI hm
 have HX:=hidI hx
 have hlex:q.ex.length≤300:=by have:=hm.inv.ex;omega
 have hlst:q.st.length≤80:=by have:=hm.inv.st;omega
 clear hx
 by_cases hz:z<0
 ·have dz:decide (0≤z)=false:=decide_eq_false (by omega)
  by_cases hn:80≤q.st.length
  ·have HY:Hid (Is (bd x (zbi C k nm)) q (here C (q.pos-1))):=zss HX.out hz (if_pos hn)
   have qn:decide ((80:Int)≤(q.st.length:Int))=true:=decide_eq_true (by omega)
   have hpos:=hp hz
   clear hp hm
   unfold pv
   go_enter Tryz.func155,Tryz.ntmps155
   go_wp2_with fail
   refine (zjl C gt cap base S q z d _ ((HM.out.alloc _).alloc _) hz hpos).mono ?_
   rintro e w2 ⟨rfl,hb2⟩
   have hbb:Below w.heap.size w w2:=zcn hb2
   have G3:Hid (_=_):=(hb2.block (w.heap.size+1) (by rw[zkv];omega)).trans (new2 w _ _)
   obtain⟨c0,c1,c2,c3,c4,c5,c6,c7,c8,c9,c10,c11,cf⟩:=zcc G3.out
   clear hb2
   unfold pv
   go_wp2
   refine bodyPost_ret (results_cell_row rfl _ _ (w.heap.size+1) 122 _ (0,0) _ rfl (zff G3.out) Tryz.underlying122 rfl (by kernel_rfl)) rfl ?_
   exact zfc rfl HY.out HM.out (zfb hbb (by omega) _ _ _ _ _ _ _ _ _ _ _ _)
  ·have qn:decide ((80:Int)≤(q.st.length:Int))=false:=decide_eq_false (by omega)
   have HY:Hid (Is (bd x (zbi C k nm)) {q with st:=q.st++[⟨k,nm,(q.ex.length:Int)-1⟩]} z):=zpe HX.out hz (if_neg hn)
   have hown:=fun o1 o2 o3=>(((HM.out.own.st.alloc o1).alloc o2).alloc o3)
   clear hp hm
   unfold pv
   go_enter Tryz.func155,Tryz.ntmps155
   go_wp2_with (at_builtin;refine zhp _ rfl _ _ 56 rfl base 61 i0 _ 3 32 Tryz.underlying56 hi hz0 hz1 hz2 rfl (by decide) (by decide) S.st q.st.length _ (by rfl) (hown _ _ _) (w.heap.size+1+1) (smL ⟨k,nm,(q.ex.length:Int)-1⟩) (by rfl) (by first|exact (new4 w _ _ _ _).2.2.2|exact (new3 w _ _ _).2.2) rfl (by intro u hu;simp[smL] at hu;rcases hu with rfl|rfl|rfl<;>rfl) (by omega) (by have:=HM.out.base;(first|rw[zdo]|rw[zcg]);omega) ?_)
   intro r' w2 hr hg hat
   have HR:=hidI hr
   have HG:=hidI hg
   have HAT:=hidI hat
   have hne:=fun b hb=>wpos (W:=w) HM.out.own (Nat.le_refl _) (r:=S.st.blk) (fun k e=>.inr (.inr (.inr (.inl e)))) b hb
   have g1:=(hg.block w.heap.size (by (first|rw[zdo]|rw[zcg]);omega) (hne _ (Nat.le_refl _))).trans (by first|exact (new4 w _ _ _ _).1|exact (new3 w _ _ _).1)
   have g2:=(hg.block (w.heap.size+1) (by (first|rw[zdo]|rw[zcg]);omega) (hne _ (by omega))).trans (by first|exact (new4 w _ _ _ _).2.2.1|exact (new3 w _ _ _).2.1)
   obtain⟨a0,a1,a2,a3,a4,a5,a6,a7,a8,a9,a10,a11,af⟩:=zcc g1
   obtain⟨b0,b1,b2,b3,b4,b5,b6,b7,b8,b9,b10,b11,bf⟩:=zcc g2
   have G2:=hidI g2
   clear g1 g2 hg hr hat hne hown
   go_wp2
   refine bodyPost_ret (results_cell_row rfl _ _ (w.heap.size+1) 122 _ (0,0) _ rfl (zff ((zv (by omega)).trans G2.out)) Tryz.underlying122 rfl (by kernel_rfl)) rfl ?_
   obtain⟨m',s'⟩:=HM.out.grow_st (x:=⟨k,nm,(q.ex.length:Int)-1⟩) (zjm w _ _ _) HG.out HR.out (by (first|rw[zdo]|rw[zcg]);exact HAT.out) (((Off.refl _ _ _).set (b:=w.heap.size) (Nat.le_refl _) (by (first|rw[zdo]|rw[zcg]);omega) _ _).set12 (b:=w.heap.size+1) (by omega) (by (first|rw[zdo]|rw[zcg]);omega) _ _ _ _ _ _ _ _ _ _ _ _) (by omega)
   exact⟨_,{q with st:=q.st++[⟨k,nm,(q.ex.length:Int)-1⟩]},z,by simp[pv],HY.out,m',s'⟩
 ·have dz:decide (0≤z)=true:=decide_eq_true (by omega)
  have HY:Hid (Is (bd x (zbi C k nm)) q z):=zst HX.out hz
  clear hp hm
  unfold pv
  go_enter Tryz.func155,Tryz.ntmps155
  go_wp2
  refine bodyPost_ret (results_cell_row rfl _ _ (w.heap.size+1) 122 _ (0,0) _ rfl (new2 w _ _) Tryz.underlying122 rfl (by kernel_rfl)) rfl ?_
  exact zfc rfl HY.out HM.out (zir w _ _)
theorem OwnR.drew {w:World} {base size n:Nat} {e:TypeId} {r:Rw} {xs:List Value} (h:OwnR w base e size r n xs):OwnR w.drew base e size r n xs:=h
theorem zbsk (x:Ex): ∀u∈exL x,u.oneCell'=true:=by
 intro u hu
 simp[exL] at hu
 rcases hu with rfl|rfl|rfl|rfl|rfl|rfl<;>rfl
theorem IM.grow_ex {C:Cx} {gt cap base gp:Nat} {S:Sv} {q:PS} {w W w2:World} {r':Rw} {x:Ex} (h:IM C gt cap base gp S q w) (hW:Below w.heap.size w W) (hg:W.grownBy w2 S.ex.blk) (hr:OwnR w2 base 145 6 r' (q.ex.length+1) (q.ex.flatMap exL++exL x)) (hat:r'.blk=S.ex.blk∨r'.blk=some W.heap.size) (hn:q.ex.length<300):
  IM C gt cap base gp {S with ex:=r'} {q with ex:=q.ex++[x]} (w2.setCell ⟨gp,8,none⟩ (.slice r'.a (q.ex.length+1) r'.cap))∧IS gp S w {S with ex:=r'} (w2.setCell ⟨gp,8,none⟩ (.slice r'.a (q.ex.length+1) r'.cap)):=by
 obtain⟨m',s'⟩:=h.mem.grow_ex (x:=x) hW hg hr hat (Off.refl _ _ _) hn
 have hfree:=h.free
 have hlt:=h.lt
 have hfree': ¬Sv.has {S with ex:=r'} gp:=fun g=>(s'.sub gp g).elim hfree fun g'=>by omega
 have hk: ∀k,k≠gp→(w2.setCell ⟨gp,8,none⟩ (.slice r'.a (q.ex.length+1) r'.cap)).heap[k]? =w2.heap[k]?:=fun k hk=>Below.heap_setCell w2 ⟨gp,8,none⟩ _ k hk
 have hsz:(w2.setCell ⟨gp,8,none⟩ (.slice r'.a (q.ex.length+1) r'.cap)).heap.size=w2.heap.size:=by show (w2.heap.modify _ _).size=_;simp
 have hc:=(s'.block gp hlt hfree).trans h.cells
 refine⟨⟨⟨m'.own.keep fun k g=>hk k fun e=>hfree' (by rw[←e];exact g),m'.inv,zdb m'.tok (hk gt h.ne.symm),m'.few,by rw[hsz];exact m'.base⟩,?_,h.ge⟩,?_⟩
 ·rw[zev hc]
  simp
 ·exact (show IS gp S w {S with ex:=r'} w2 from⟨s'.os,s'.tape,s'.output,s'.size,fun k h1 h2 _=>s'.block k h1 h2,s'.sub⟩).set _ _
theorem zbek (C:Cx) (gt cap base gp:Nat) (S:Sv) (q:PS) (x:Ex) (w:World) (h:IM C gt cap base gp S q w) (hn:q.ex.length<300):
  Calls Tryz.prog 317 #[.pointer (some ⟨gp,0,none⟩),exV x] w fun e w'=>e= .returned (.int .i64 q.ex.length)∧∃S',IM C gt cap base gp S' {q with ex:=q.ex++[x]} w'∧IS gp S w S' w':=by
 obtain⟨i0,hi,hz0,hz1,hz2⟩:=info_parts Tryz.infoExpr
 have HH:=hidI h
 have hlt:=h.lt
 obtain⟨c0,c1,c2,c3,c4,c5,c6,c7,c8,c9,cf⟩:=zbe h.cells
 have hown:=fun o1 o2=>((HH.out.mem.own.ex.alloc o1).drew.alloc o2)
 have hbs:=h.mem.base
 have hne:some gp≠S.ex.blk:=fun e=>HH.out.free (.inr (.inr (.inr (.inr (.inl e.symm)))))
 have HN:=hidI hne
 have hsz: ∀o1 o2,base≤((w.alloc o1).alloc o2).heap.size:=fun o1 o2=>by rw[zkv];omega
 have hgl: ∀o1 o2,gp<((w.alloc o1).alloc o2).heap.size:=fun o1 o2=>by rw[zkv];omega
 clear h hne
 unfold exV
 go_enter Tryz.func317,Tryz.ntmps317
 go_wp2_with fail
 refine (zjv gp q.ex.length 300 _ (by omega)).mono ?_
 rintro e w1 ⟨rfl,rfl⟩
 go_wp2_with fail
 go_region_law (first|(refine znm rfl (.tmp 18) (.tmp 20) 57 rfl base 145 i0 _ 6 64 Tryz.underlying57 hi hz0 hz1 hz2 rfl (by decide) (by decide) S.ex q.ex.length (q.ex.flatMap exL) (by rfl) (by exact hown _ _) (w.heap.size+1) (exL x) (by rfl) (by exact new2 w _ _) rfl (zbsk x) (by omega) (by exact hsz _ _) ?_;intro r' w2 hr hgr hat;have g2:=(hgr.block gp (by exact hgl _ _) HN.out).trans (by exact ((HH.out.alloc _).alloc _).cells);obtain⟨d0,d1,d2,d3,d4,d5,d6,d7,d8,d9,df⟩:=zbe g2))
 all_goals
  have HR:=hidI hr
  have HG:=hidI hgr
  have HAT:=hidI hat
  clear hr hgr hat g2 c0 c1 c2 c3 c4 c5 c6 c7 c8 c9 cf
  go_wp2
  go_ret
  obtain⟨m',s'⟩:=HH.out.grow_ex (zir w _ _).drew HG.out HR.out HAT.out hn
  exact⟨znd (by omega),_,m',s'⟩
theorem zbgi (x:Im): ∀u∈imL x,u.oneCell'=true:=by
 intro u hu
 simp[imL] at hu
 rcases hu with rfl|rfl|rfl<;>rfl
theorem IM.grow_rq {C:Cx} {gt cap base gp:Nat} {S:Sv} {q:PS} {w W w2:World} {r':Rw} {x:ByteArray} (h:IM C gt cap base gp S q w) (hW:Below w.heap.size w W) (hg:W.grownBy w2 S.rq.blk) (hr:OwnR w2 base 9 1 r' (q.rq.length+1) (q.rq.map .string++[.string x])) (hat:r'.blk=S.rq.blk∨r'.blk=some W.heap.size) (hn:q.rq.length<40):
  IM C gt cap base gp {S with rq:=r'} {q with rq:=q.rq++[x]} (w2.setCell ⟨gp,4,none⟩ (.slice r'.a (q.rq.length+1) r'.cap))∧IS gp S w {S with rq:=r'} (w2.setCell ⟨gp,4,none⟩ (.slice r'.a (q.rq.length+1) r'.cap)):=by
 obtain⟨m',s'⟩:=h.mem.grow_rq (x:=x) hW hg hr hat (Off.refl _ _ _) hn
 have hfree:=h.free
 have hlt:=h.lt
 have hfree': ¬Sv.has {S with rq:=r'} gp:=fun g=>(s'.sub gp g).elim hfree fun g'=>by omega
 have hk: ∀k,k≠gp→(w2.setCell ⟨gp,4,none⟩ (.slice r'.a (q.rq.length+1) r'.cap)).heap[k]? =w2.heap[k]?:=fun k hk=>Below.heap_setCell w2 ⟨gp,4,none⟩ _ k hk
 have hsz:(w2.setCell ⟨gp,4,none⟩ (.slice r'.a (q.rq.length+1) r'.cap)).heap.size=w2.heap.size:=by show (w2.heap.modify _ _).size=_;simp
 have hc:=(s'.block gp hlt hfree).trans h.cells
 refine⟨⟨⟨m'.own.keep fun k g=>hk k fun e=>hfree' (by rw[←e];exact g),m'.inv,zdb m'.tok (hk gt h.ne.symm),m'.few,by rw[hsz];exact m'.base⟩,?_,h.ge⟩,?_⟩
 ·rw[zev hc]
  simp
 ·exact (show IS gp S w {S with rq:=r'} w2 from⟨s'.os,s'.tape,s'.output,s'.size,fun k h1 h2 _=>s'.block k h1 h2,s'.sub⟩).set _ _
theorem IM.grow_im {C:Cx} {gt cap base gp:Nat} {S:Sv} {q:PS} {w W w2:World} {r':Rw} {x:Im} (h:IM C gt cap base gp S q w) (hW:Below w.heap.size w W) (hg:W.grownBy w2 S.im.blk) (hr:OwnR w2 base 141 3 r' (q.im.length+1) (q.im.flatMap imL++imL x)) (hat:r'.blk=S.im.blk∨r'.blk=some W.heap.size) (hn:q.im.length<40):
  IM C gt cap base gp {S with im:=r'} {q with im:=q.im++[x]} (w2.setCell ⟨gp,5,none⟩ (.slice r'.a (q.im.length+1) r'.cap))∧IS gp S w {S with im:=r'} (w2.setCell ⟨gp,5,none⟩ (.slice r'.a (q.im.length+1) r'.cap)):=by
 obtain⟨m',s'⟩:=h.mem.grow_im (x:=x) hW hg hr hat (Off.refl _ _ _) hn
 have hfree:=h.free
 have hlt:=h.lt
 have hfree': ¬Sv.has {S with im:=r'} gp:=fun g=>(s'.sub gp g).elim hfree fun g'=>by omega
 have hk: ∀k,k≠gp→(w2.setCell ⟨gp,5,none⟩ (.slice r'.a (q.im.length+1) r'.cap)).heap[k]? =w2.heap[k]?:=fun k hk=>Below.heap_setCell w2 ⟨gp,5,none⟩ _ k hk
 have hsz:(w2.setCell ⟨gp,5,none⟩ (.slice r'.a (q.im.length+1) r'.cap)).heap.size=w2.heap.size:=by show (w2.heap.modify _ _).size=_;simp
 have hc:=(s'.block gp hlt hfree).trans h.cells
 refine⟨⟨⟨m'.own.keep fun k g=>hk k fun e=>hfree' (by rw[←e];exact g),m'.inv,zdb m'.tok (hk gt h.ne.symm),m'.few,by rw[hsz];exact m'.base⟩,?_,h.ge⟩,?_⟩
 ·rw[zev hc]
  simp
 ·exact (show IS gp S w {S with im:=r'} w2 from⟨s'.os,s'.tape,s'.output,s'.size,fun k h1 h2 _=>s'.block k h1 h2,s'.sub⟩).set _ _
theorem IM.grow_ep {C:Cx} {gt cap base gp:Nat} {S:Sv} {q:PS} {w W w2:World} {r':Rw} {x:Ep} (h:IM C gt cap base gp S q w) (hW:Below w.heap.size w W) (hg:W.grownBy w2 S.ep.blk) (hr:OwnR w2 base 143 4 r' (q.ep.length+1) (q.ep.flatMap epL++epL x)) (hat:r'.blk=S.ep.blk∨r'.blk=some W.heap.size) (hn:q.ep.length+q.la.length<40):
  IM C gt cap base gp {S with ep:=r'} {q with ep:=q.ep++[x]} (w2.setCell ⟨gp,6,none⟩ (.slice r'.a (q.ep.length+1) r'.cap))∧IS gp S w {S with ep:=r'} (w2.setCell ⟨gp,6,none⟩ (.slice r'.a (q.ep.length+1) r'.cap)):=by
 obtain⟨m',s'⟩:=h.mem.grow_ep (x:=x) hW hg hr hat (Off.refl _ _ _) hn
 have hfree:=h.free
 have hlt:=h.lt
 have hfree': ¬Sv.has {S with ep:=r'} gp:=fun g=>(s'.sub gp g).elim hfree fun g'=>by omega
 have hk: ∀k,k≠gp→(w2.setCell ⟨gp,6,none⟩ (.slice r'.a (q.ep.length+1) r'.cap)).heap[k]? =w2.heap[k]?:=fun k hk=>Below.heap_setCell w2 ⟨gp,6,none⟩ _ k hk
 have hsz:(w2.setCell ⟨gp,6,none⟩ (.slice r'.a (q.ep.length+1) r'.cap)).heap.size=w2.heap.size:=by show (w2.heap.modify _ _).size=_;simp
 have hc:=(s'.block gp hlt hfree).trans h.cells
 refine⟨⟨⟨m'.own.keep fun k g=>hk k fun e=>hfree' (by rw[←e];exact g),m'.inv,zdb m'.tok (hk gt h.ne.symm),m'.few,by rw[hsz];exact m'.base⟩,?_,h.ge⟩,?_⟩
 ·rw[zev hc]
  simp
 ·exact (show IS gp S w {S with ep:=r'} w2 from⟨s'.os,s'.tape,s'.output,s'.size,fun k h1 h2 _=>s'.block k h1 h2,s'.sub⟩).set _ _
theorem IM.grow_st {C:Cx} {gt cap base gp:Nat} {S:Sv} {q:PS} {w W w2:World} {r':Rw} {x:Sm} (h:IM C gt cap base gp S q w) (hW:Below w.heap.size w W) (hg:W.grownBy w2 S.st.blk) (hr:OwnR w2 base 61 3 r' (q.st.length+1) (q.st.flatMap smL++smL x)) (hat:r'.blk=S.st.blk∨r'.blk=some W.heap.size) (hn:q.st.length<80):
  IM C gt cap base gp {S with st:=r'} {q with st:=q.st++[x]} (w2.setCell ⟨gp,7,none⟩ (.slice r'.a (q.st.length+1) r'.cap))∧IS gp S w {S with st:=r'} (w2.setCell ⟨gp,7,none⟩ (.slice r'.a (q.st.length+1) r'.cap)):=by
 obtain⟨m',s'⟩:=h.mem.grow_st (x:=x) hW hg hr hat (Off.refl _ _ _) hn
 have hfree:=h.free
 have hlt:=h.lt
 have hfree': ¬Sv.has {S with st:=r'} gp:=fun g=>(s'.sub gp g).elim hfree fun g'=>by omega
 have hk: ∀k,k≠gp→(w2.setCell ⟨gp,7,none⟩ (.slice r'.a (q.st.length+1) r'.cap)).heap[k]? =w2.heap[k]?:=fun k hk=>Below.heap_setCell w2 ⟨gp,7,none⟩ _ k hk
 have hsz:(w2.setCell ⟨gp,7,none⟩ (.slice r'.a (q.st.length+1) r'.cap)).heap.size=w2.heap.size:=by show (w2.heap.modify _ _).size=_;simp
 have hc:=(s'.block gp hlt hfree).trans h.cells
 refine⟨⟨⟨m'.own.keep fun k g=>hk k fun e=>hfree' (by rw[←e];exact g),m'.inv,zdb m'.tok (hk gt h.ne.symm),m'.few,by rw[hsz];exact m'.base⟩,?_,h.ge⟩,?_⟩
 ·rw[zev hc]
  simp
 ·exact (show IS gp S w {S with st:=r'} w2 from⟨s'.os,s'.tape,s'.output,s'.size,fun k h1 h2 _=>s'.block k h1 h2,s'.sub⟩).set _ _
theorem IM.grow_la {C:Cx} {gt cap base gp:Nat} {S:Sv} {q:PS} {w W w2:World} {r':Rw} {x:Ep} (h:IM C gt cap base gp S q w) (hW:Below w.heap.size w W) (hg:W.grownBy w2 S.la.blk) (hr:OwnR w2 base 143 4 r' (q.la.length+1) (q.la.flatMap epL++epL x)) (hat:r'.blk=S.la.blk∨r'.blk=some W.heap.size) (hn:q.ep.length+q.la.length<40):
  IM C gt cap base gp {S with la:=r'} {q with la:=q.la++[x]} (w2.setCell ⟨gp,9,none⟩ (.slice r'.a (q.la.length+1) r'.cap))∧IS gp S w {S with la:=r'} (w2.setCell ⟨gp,9,none⟩ (.slice r'.a (q.la.length+1) r'.cap)):=by
 obtain⟨m',s'⟩:=h.mem.grow_la (x:=x) hW hg hr hat (Off.refl _ _ _) hn
 have hfree:=h.free
 have hlt:=h.lt
 have hfree': ¬Sv.has {S with la:=r'} gp:=fun g=>(s'.sub gp g).elim hfree fun g'=>by omega
 have hk: ∀k,k≠gp→(w2.setCell ⟨gp,9,none⟩ (.slice r'.a (q.la.length+1) r'.cap)).heap[k]? =w2.heap[k]?:=fun k hk=>Below.heap_setCell w2 ⟨gp,9,none⟩ _ k hk
 have hsz:(w2.setCell ⟨gp,9,none⟩ (.slice r'.a (q.la.length+1) r'.cap)).heap.size=w2.heap.size:=by show (w2.heap.modify _ _).size=_;simp
 have hc:=(s'.block gp hlt hfree).trans h.cells
 refine⟨⟨⟨m'.own.keep fun k g=>hk k fun e=>hfree' (by rw[←e];exact g),m'.inv,zdb m'.tok (hk gt h.ne.symm),m'.few,by rw[hsz];exact m'.base⟩,?_,h.ge⟩,?_⟩
 ·rw[zev hc]
  simp
 ·exact (show IS gp S w {S with la:=r'} w2 from⟨s'.os,s'.tape,s'.output,s'.size,fun k h1 h2 _=>s'.block k h1 h2,s'.sub⟩).set _ _
theorem zbii (C:Cx) (gt cap base gp:Nat) (S:Sv) (q:PS) (x:Im) (w:World) (h:IM C gt cap base gp S q w) (hn:q.im.length<40):
  Calls Tryz.prog 311 #[.pointer (some ⟨gp,0,none⟩),imV x] w fun e w'=>e= .returned (.tuple #[])∧∃S',IM C gt cap base gp S' {q with im:=q.im++[x]} w'∧IS gp S w S' w':=by
 obtain⟨i0,hi,hz0,hz1,hz2⟩:=info_parts Tryz.infoImp
 have HH:=hidI h
 have hlt:=h.lt
 obtain⟨c0,c1,c2,c3,c4,c5,c6,c7,c8,c9,cf⟩:=zbe h.cells
 have hown:=fun o1 o2=>((HH.out.mem.own.im.alloc o1).drew.alloc o2)
 have hbs:=h.mem.base
 have hne:some gp≠S.im.blk:=fun e=>HH.out.free (.inr (.inl e.symm))
 have HN:=hidI hne
 have hsz: ∀o1 o2,base≤((w.alloc o1).alloc o2).heap.size:=fun o1 o2=>by rw[zkv];omega
 have hgl: ∀o1 o2,gp<((w.alloc o1).alloc o2).heap.size:=fun o1 o2=>by rw[zkv];omega
 clear h hne
 unfold imV
 go_enter Tryz.func311,Tryz.ntmps311
 go_wp2_with fail
 refine (zjv gp q.im.length 40 _ (by omega)).mono ?_
 rintro e w1 ⟨rfl,rfl⟩
 go_wp2_with fail
 go_region_law (first|(refine znm rfl (.tmp 17) (.tmp 19) 54 rfl base 141 i0 _ 3 48 Tryz.underlying54 hi hz0 hz1 hz2 rfl (by decide) (by decide) S.im q.im.length (q.im.flatMap imL) (by rfl) (by exact hown _ _) (w.heap.size+1) (imL x) (by rfl) (by exact new2 w _ _) rfl (zbgi x) (by omega) (by exact hsz _ _) ?_;intro r' w2 hr hgr hat;have g2:=(hgr.block gp (by exact hgl _ _) HN.out).trans (by exact ((HH.out.alloc _).alloc _).cells);obtain⟨d0,d1,d2,d3,d4,d5,d6,d7,d8,d9,df⟩:=zbe g2))
 all_goals
  have HR:=hidI hr
  have HG:=hidI hgr
  have HAT:=hidI hat
  clear hr hgr hat g2 c0 c1 c2 c3 c4 c5 c6 c7 c8 c9 cf
  go_wp2
  go_end0
  obtain⟨m',s'⟩:=HH.out.grow_im (zir w _ _).drew HG.out HR.out HAT.out hn
  exact⟨rfl,_,m',s'⟩
end Go.Proofs.YtlnohpdiiileeaaGreat
