/-
  What passSigns of impl's parser answers: the walk.
  'append' of one element onto a row of the call's own,as one step of a region that draws its order. No program is spoken of.
  What spec's readers of one token answer: l4Full,l4Sign,l4Word,l4Reserved,l4Plain,l4Name: the walks.
  What spec's l4Plain and l4Name answer: the walks.
  What spec's l4Add,l4Imp,l4Stmt and l4Exp answer: the walks.
  What addExpr of impl's parser answers where there is room: the walk.
  A row of impl's parser grows by one element; what addImp answers where there is room: the walk.
-/
import Derived.Deep.LoopGhost
import Derived.Test.YthfeoomfiafldaaGreatCdImplParseCToImplParseD
namespace Go.Proofs.YthfeoomfiafldaaGreat
set_option maxRecDepth 100000
set_option maxHeartbeats 3200000
open Go.RowKit Go.PlainAid Go.Sort
def zaE (C:Cx) (s:ByteArray):Nat→Nat→PS→PR
 |0,_,q=>.ok q
 |n+1,k,q=>bd (zd C 4 (s.extract k (k+1)) q) (zaE C s n (k+1))
theorem zhL {C:Cx} {k:Int} {x:ByteArray} {q:PS} (h:isT C q.pos k x=false):zd C k x q= .error (zu C q.pos):=by rw[zd,h];rfl
theorem zcd {C:Cx} {k:Int} {x:ByteArray} {q:PS} (h:isT C q.pos k x=true):zd C k x q= .ok (adv q):=if_pos h
theorem zhM (C:Cx) (L z o I:Nat) (S:Sv) (q:PS) (s:ByteArray) (w:World) (h:IM C L z o I S q w) (hs:s.size≤100):
  Calls Tryz.prog 94 #[.pointer (some ⟨I,0,none⟩),.string s] w (zT C L z o I (zaE C s s.size 0 q) id (fun _=>.tuple #[]) S w):=by
 have O:=zc h
 clear h
 go_enter Tryz.func94,Tryz.ntmps94
 go_wp2
 go_loopg [7] s.size (fun k i wr=>∃(j:Nat) (D:PS),i= .int .i64 j∧j+k=s.size∧zaE C s k j D=zaE C s s.size 0 q∧IM C L z o I S D wr∧IS I S w S wr)
 case atStart=>exact⟨0,q,rfl,by omega,rfl,O.out,IS.refl _ _ _⟩
 case round=>
  obtain⟨j,D,rfl,Z,he,m,t⟩:=hrel
  have K:=zc he
  have HM:=zc m
  have HS:=zc t
  clear he m t
  match gk,Z,K with
  |0,Z,K=>
   have Y: ¬j<s.size:=by omega
   go_wp2
   go_end0
   rw[←K.out]
   exact⟨rfl,S,HM.out,HS.out⟩
  |k+1,Z,K=>
   have Y:j<s.size:=by omega
   obtain⟨E,N⟩: ∃E,E=j+1:=⟨_,rfl⟩
   have ej:(j:Int)+1=(E:Int):=by omega
   have ac:E≤s.size:=by omega
   have ad:j≤E:=by omega
   have HJ:=zc N
   clear N
   cases Q:isT C D.pos 4 (s.extract j E) with
   |true=>
    have U:Hid (zaE C s k E (adv D)=zaE C s s.size 0 q):=by
     show _=_
     rw[←K.out,zaE,←HJ.out,zcd Q]
     rfl
    go_wp2_with fail
    refine (zP C L z o I S D 4 (s.extract j E) _ HM.out (by decide)).mono ?_
    rintro e X ⟨rfl,J,M⟩
    rw[Q] at J ⊢
    have H:=zc J
    have aa:Hid (IS I S w S X):=HS.out.trans M
    clear J M
    go_wp2
    go_roundg k
    case rel=>exact⟨E,adv D,rfl,by have:=HJ.out;omega,U.out,H.out,aa.out⟩
    case measure=>omega
   |false=>
    have U:Hid (zaE C s s.size 0 q= .error (zu C D.pos)):=by
     show _=_
     rw[←K.out,zaE,←HJ.out,zhL Q]
     rfl
    go_wp2_with fail
    refine (zP C L z o I S D 4 (s.extract j E) _ HM.out (by decide)).mono ?_
    rintro e X ⟨rfl,J,M⟩
    rw[Q] at J ⊢
    have H:=zc J
    have HB:Hid (Below o w X):=(HS.out.trans M).under O.out.mem.base O.out.mem.own O.out.ge
    clear J M
    go_wp2_with fail
    refine (zeT C L z o I S D _ H.out).mono ?_
    rintro e w2 ⟨rfl,ab⟩
    have V:Hid (Below o w w2):=HB.out.trans (ab.mono H.out.mem.base)
    unfold Pan
    go_wp2
    refine⟨rfl,?_⟩
    rw[U.out]
    exact⟨rfl,V.out⟩
theorem zfC {P:Program} {X:Array Oper} {o:Oper} {a:Act} {W:World} {K:Act→World→Prop} {Q:Exit→Act→World→Prop} {E:Prop} (ab:o.guard=none) (s x:Operand) (t:TypeId)
  (ho:o.op= .call {callee:=.builtin .append,args:=#[s,x],argTypes:=#[t,t]})
  (I:Nat) (e:TypeId) (i:TypeInfo) (z:Value) (size D:Nat) (ht:P.underlying t=some (.slice e)) (hi:P.info? e=some i) (hz:i.zero=some z) (L:i.size=size) (ac:i.bytes=D) (Z:z.cells.size=size) (ad:0<size) (U:D≤100)
  (r:Rw) (n:Nat) (xs:List Value) (hs:a.eval s= .slice r.a n r.cap) (Y:OwnR W I e size r n xs)
  (N:Nat) (H:List Value) (hx:a.eval x= .slice (some ⟨N,0,none⟩) 1 1) (hg:W.heap[N]? =some (.cells H.toArray e (0,0))) (hl:H.length=size) (h1: ∀u∈H,u.oneCell'=true) (hn:n+1≤1000000) (M:I≤W.heap.size)
  (h: ∀V O,OwnR O I e size V (n+1) (xs++H)→W.grownBy O r.blk→(V.blk=r.blk∨V.blk=some W.heap.size)→K (a.put o.dst (.slice V.a (n+1) V.cap)) O):
  if Region.wanted o (yielded X a.tmps)=true then Oper.wp P o a W K Q else E:=by
 have hw:Region.wanted o (yielded X a.tmps)=true:=by simp[Region.wanted,ab]
 rw[if_pos hw]
 obtain⟨v',O,hr,h2,h3,_,h5⟩:=run_append_own_at (P:=P) W I t o.type e i z size D ht hi hz L ac Z ad _ n xs Y ⟨N,0,none⟩ 1 1 H (by omega) (by
  intro j u hj
  have e1:(⟨N,0,none⟩:Addr).add j=⟨N,j,none⟩:=by simp[Addr.add];exact fun h=>h.symm
  rw[e1]
  simp[World.cell?,hg,hj]) h1 (by unfold maxLen;omega) (by have:(n+1)*D≤1000000*100:=Nat.mul_le_mul hn U;omega) M
 unfold Oper.wp execOp
 simp only[ho,resolve,invoke,builtin,Sem.run_bind,Sem.run_pure,Result.andThen_ok,List.map_toArray,List.map_cons,List.map_nil,hs,hx,hr]
 rcases h2.2 with ⟨hv,af⟩|⟨g',J,ae,rfl,aa⟩
 ·omega
 ·refine h ⟨some ⟨g',0,none⟩,J⟩ O h2 ?_ ?_
  ·rw[←zb9 r n];exact h3
  ·rw[←zb9 r n,←zb9 ⟨some ⟨g',0,none⟩,J⟩ (n+1)];exact h5
def Is (x:PR) (q:PS) (z:Int):Prop:=
 match x with
 | .ok q0=>q=q0∧z= -1
 | .error e=>z=(e:Int)
theorem zab (q:PS):Is (.ok q) q (-1):=⟨rfl,rfl⟩
theorem zaF {x:PR} {q:PS} {z:Int} (h:Is x q z) (o:z<0):x= .ok q∧z= -1:=by
 cases x with
 |ok j=>obtain⟨rfl,rfl⟩:=h;exact⟨rfl,rfl⟩
 |error e=>have:z=(e:Int):=h;omega
theorem zd2 {x:PR} {q:PS} {z:Int} (h:Is x q z) (j: ¬z<0): ∃e,x= .error e∧z=(e:Int):=by
 cases x with
 |ok o=>obtain⟨rfl,rfl⟩:=h;exact absurd (by decide) j
 |error e=>exact⟨e,rfl,h⟩
def Out (C:Cx) (gt cap base:Nat) (y:PR) (d:Nat) (S:Sv) (w:World) (e:Ending) (w':World):Prop:=
 ∃S' q' z',e= .returned (pv C gt cap S' q' z' d)∧Is y q' z'∧Mem C gt cap base S' q' w'∧Stp S w S' w'
theorem zc5 {C:Cx} {z o j:Nat} {y:PR} {d:Nat} {S:Sv} {w D:World} {q':PS} {z':Int} {v:Value} (I:v=pv C z o S q' z' d) (J:Is y q' z') (H:Mem C z o j S q' w) (E:Below w.heap.size w D):Out C z o j y d S w (.returned v) D:=
 ⟨S,q',z',by rw[I],J,H.later E,Stp.below E⟩
theorem zfD (C:Cx) (H j o:Nat) (S:Sv) (q:PS) (z:Int) (d:Nat) (w:World) (D:Mem C H j o S q w) (Q:z<0) (O:1≤q.pos):
  Calls Tryz.prog 104 #[pv C H j S q z d] w fun e L=>e= .returned (pv C H j S q (zu C (q.pos-1)) d)∧Below w.heap.size w L:=by
 obtain⟨p,E⟩: ∃p,q.pos=p+1:=⟨q.pos-1,by omega⟩
 have I:p<C.ts.length:=by have:=D.inv.pos;omega
 have K:=D.few
 obtain⟨_,_,_,M⟩:=D.tok.cells I (d:=⟨0,sNone,0,C.fin⟩)
 have J:=(zan D.tok).1
 change _=some (Value.int .i64 (zu C p)) at M
 rw[show q.pos-1=p from by omega]
 have N:(q.pos:Int)-1=p:=by omega
 clear E
 unfold pv
 go_enter Tryz.func104,Tryz.ntmps104
 go_wp2
 refine bodyPost_ret (results_cell_row rfl _ _ (w.heap.size+1) 55 _ (0,0) _ rfl (zdz w _ _) Tryz.underlying55 rfl (by kernel_rfl)) rfl ?_
 exact⟨rfl,zcD w _ _⟩
theorem zah (C:Cx) (L o j:Nat) (x:PR) (S:Sv) (q:PS) (z:Int) (d:Nat) (s:ByteArray) (w:World) (hx:Is x q z) (hm:Mem C L o j S q w):
  Calls Tryz.prog 52 #[pv C L o S q z d,.string s] w (Out C L o j (bd x (zd C 4 s)) d S w):=by
 have HM:=zc hm
 have H:=hm.tok
 have D:=hm.few
 have HX:=zc hx
 clear hx hm
 cases E:(decide (z<0)&&isT C q.pos 4 s) with
 |true=>
  have aa:q.pos<C.ts.length:=by rw[Bool.and_eq_true] at E;exact za1 E.2 (by decide)
  have HY:Hid (Is (bd x (zd C 4 s)) (adv q) z):=by
   rw[Bool.and_eq_true,decide_eq_true_eq] at E
   obtain⟨U,Z⟩:=zaF HX.out E.1
   show Is (bd x (zd C 4 s)) (adv q) z
   rw[U,zh,zd,if_pos E.2]
   exact⟨rfl,Z⟩
  unfold pv
  go_enter Tryz.func52,Tryz.ntmps52
  go_wp2_with fail
  refine (zj C L o j S q z d 4 s _ (zv (zv H _) _) D (by decide)).mono ?_
  rintro e w1 ⟨rfl,I⟩
  rw[E]
  obtain⟨V,J⟩:=zcE I
  obtain⟨a0,a1,a2,a3,a4,a5,a6,a7,a8,a9,Q,M,af⟩:=zao V
  obtain⟨b0,b1,b2,b3,b4,b5,b6,b7,b8,b9,O,N,bf⟩:=zao J
  have G2:=zc J
  clear V J E
  go_wp2
  refine bodyPost_ret (results_cell_row rfl _ _ (w.heap.size+1) 55 _ (0,0) _ rfl (zbj ((zx (by omega)).trans G2.out)) Tryz.underlying55 rfl (by kernel_rfl)) rfl ?_
  exact zc5 rfl HY.out (HM.out.adv aa) (zbX ((zbs I).setCell (Nat.le_refl _) _) (Nat.le_succ _) ..)
 |false=>
  have HY:Hid (Is (bd x (zd C 4 s)) q (zbC C q.pos z)):=by
   show Is (bd x (zd C 4 s)) q (zbC C q.pos z)
   unfold zbC
   by_cases X:z<0
   ·obtain⟨U,Z⟩:=zaF HX.out X
    simp only[X,decide_true,Bool.true_and] at E
    rw[U,zh,zd,E,if_pos X]
    rfl
   ·obtain⟨e,U,Z⟩:=zd2 HX.out X
    rw[U,zec,if_neg X]
    exact Z
  unfold pv
  go_enter Tryz.func52,Tryz.ntmps52
  go_wp2_with fail
  refine (zj C L o j S q z d 4 s _ (zv (zv H _) _) D (by decide)).mono ?_
  rintro e w1 ⟨rfl,I⟩
  rw[E]
  obtain⟨V,J⟩:=zcE I
  obtain⟨a0,a1,a2,a3,a4,a5,a6,a7,a8,a9,Q,M,af⟩:=zao V
  obtain⟨b0,b1,b2,b3,b4,b5,b6,b7,b8,b9,O,N,bf⟩:=zao J
  have G2:=zc J
  have K:=zcn H (zbs I)
  clear V J E
  go_wp2_with fail
  refine (zd0 C L o j S q z d _ K D).mono ?_
  rintro e w2 ⟨rfl,Y⟩
  have G3:Hid (_=_):=(Y.block _ (Nat.lt_of_lt_of_le (by simp) I.size)).trans G2.out
  obtain⟨c0,c1,c2,c3,c4,c5,c6,c7,c8,c9,ac,ad,cf⟩:=zao G3.out
  have ab:=(zbs I).trans (Y.mono (zbs I).size)
  clear a0 a1 a2 a3 a4 a5 a6 a7 a8 a9 Q M b0 b1 b2 b3 b4 b5 b6 b7 b8 b9 O N af bf
  unfold pv
  go_wp2
  refine bodyPost_ret (results_cell_row rfl _ _ (w.heap.size+1) 55 _ (0,0) _ rfl (zbj G3.out) Tryz.underlying55 rfl (by kernel_rfl)) rfl ?_
  exact zc5 rfl HY.out HM.out (zbX ab (Nat.le_succ _) ..)
-- GEN
theorem zaT (C:Cx) (L o j:Nat) (x:PR) (S:Sv) (q:PS) (z:Int) (d:Nat) (s:ByteArray) (w:World) (hx:Is x q z) (hm:Mem C L o j S q w):
  Calls Tryz.prog 54 #[pv C L o S q z d,.string s] w (Out C L o j (bd x (zd C 1 s)) d S w):=by
 have HM:=zc hm
 have H:=hm.tok
 have D:=hm.few
 have HX:=zc hx
 clear hx hm
 cases E:(decide (z<0)&&isT C q.pos 1 s) with
 |true=>
  have aa:q.pos<C.ts.length:=by rw[Bool.and_eq_true] at E;exact za1 E.2 (by decide)
  have HY:Hid (Is (bd x (zd C 1 s)) (adv q) z):=by
   rw[Bool.and_eq_true,decide_eq_true_eq] at E
   obtain⟨U,Z⟩:=zaF HX.out E.1
   show Is (bd x (zd C 1 s)) (adv q) z
   rw[U,zh,zd,if_pos E.2]
   exact⟨rfl,Z⟩
  unfold pv
  go_enter Tryz.func54,Tryz.ntmps54
  go_wp2_with fail
  refine (zj C L o j S q z d 1 s _ (zv (zv H _) _) D (by decide)).mono ?_
  rintro e w1 ⟨rfl,I⟩
  rw[E]
  obtain⟨V,J⟩:=zcE I
  obtain⟨a0,a1,a2,a3,a4,a5,a6,a7,a8,a9,Q,M,af⟩:=zao V
  obtain⟨b0,b1,b2,b3,b4,b5,b6,b7,b8,b9,O,N,bf⟩:=zao J
  have G2:=zc J
  clear V J E
  go_wp2
  refine bodyPost_ret (results_cell_row rfl _ _ (w.heap.size+1) 55 _ (0,0) _ rfl (zbj ((zx (by omega)).trans G2.out)) Tryz.underlying55 rfl (by kernel_rfl)) rfl ?_
  exact zc5 rfl HY.out (HM.out.adv aa) (zbX ((zbs I).setCell (Nat.le_refl _) _) (Nat.le_succ _) ..)
 |false=>
  have HY:Hid (Is (bd x (zd C 1 s)) q (zbC C q.pos z)):=by
   show Is (bd x (zd C 1 s)) q (zbC C q.pos z)
   unfold zbC
   by_cases X:z<0
   ·obtain⟨U,Z⟩:=zaF HX.out X
    simp only[X,decide_true,Bool.true_and] at E
    rw[U,zh,zd,E,if_pos X]
    rfl
   ·obtain⟨e,U,Z⟩:=zd2 HX.out X
    rw[U,zec,if_neg X]
    exact Z
  unfold pv
  go_enter Tryz.func54,Tryz.ntmps54
  go_wp2_with fail
  refine (zj C L o j S q z d 1 s _ (zv (zv H _) _) D (by decide)).mono ?_
  rintro e w1 ⟨rfl,I⟩
  rw[E]
  obtain⟨V,J⟩:=zcE I
  obtain⟨a0,a1,a2,a3,a4,a5,a6,a7,a8,a9,Q,M,af⟩:=zao V
  obtain⟨b0,b1,b2,b3,b4,b5,b6,b7,b8,b9,O,N,bf⟩:=zao J
  have G2:=zc J
  have K:=zcn H (zbs I)
  clear V J E
  go_wp2_with fail
  refine (zd0 C L o j S q z d _ K D).mono ?_
  rintro e w2 ⟨rfl,Y⟩
  have G3:Hid (_=_):=(Y.block _ (Nat.lt_of_lt_of_le (by simp) I.size)).trans G2.out
  obtain⟨c0,c1,c2,c3,c4,c5,c6,c7,c8,c9,ac,ad,cf⟩:=zao G3.out
  have ab:=(zbs I).trans (Y.mono (zbs I).size)
  clear a0 a1 a2 a3 a4 a5 a6 a7 a8 a9 Q M b0 b1 b2 b3 b4 b5 b6 b7 b8 b9 O N af bf
  unfold pv
  go_wp2
  refine bodyPost_ret (results_cell_row rfl _ _ (w.heap.size+1) 55 _ (0,0) _ rfl (zbj G3.out) Tryz.underlying55 rfl (by kernel_rfl)) rfl ?_
  exact zc5 rfl HY.out HM.out (zbX ab (Nat.le_succ _) ..)
theorem zem (s:ByteArray) (scr:Bool) (w:World):
  Calls Tryz.prog 126 #[.string s,.bool scr] w fun e N=>e= .returned (.bool (zr s scr))∧N=w:=by
 cases o:(s.toList==[105,109,112,111,114,116]) with
 |true=>
  have j:Hid (zr s scr=true):=by show zr s scr=true;simp[zr,o]
  go_enter Tryz.func126,Tryz.ntmps126
  go_wp2
  go_ret
  exact⟨zq j.out.symm,rfl⟩
 |false=>
  cases z:(s.toList==[101,120,112,111,114,116]) with
  |true=>
   have j:Hid (zr s scr=true):=by show zr s scr=true;simp[zr,o,z]
   go_enter Tryz.func126,Tryz.ntmps126
   go_wp2
   go_ret
   exact⟨zq j.out.symm,rfl⟩
  |false=>
   cases D:(s.toList==[100,101,102,97,117,108,116]) with
   |true=>
    have j:Hid (zr s scr=true):=by show zr s scr=true;simp[zr,o,z,D]
    go_enter Tryz.func126,Tryz.ntmps126
    go_wp2
    go_ret
    exact⟨zq j.out.symm,rfl⟩
   |false=>
    cases E:(s.toList==[108,101,116]) with
    |true=>
     have j:Hid (zr s scr=true):=by show zr s scr=true;simp[zr,o,z,D,E]
     go_enter Tryz.func126,Tryz.ntmps126
     go_wp2
     go_ret
     exact⟨zq j.out.symm,rfl⟩
    |false=>
     cases H:(s.toList==[102,117,110,99,116,105,111,110]) with
     |true=>
      have j:Hid (zr s scr=true):=by show zr s scr=true;simp[zr,o,z,D,E,H]
      go_enter Tryz.func126,Tryz.ntmps126
      go_wp2
      go_ret
      exact⟨zq j.out.symm,rfl⟩
     |false=>
      cases I:(s.toList==[114,101,116,117,114,110]) with
      |true=>
       have j:Hid (zr s scr=true):=by show zr s scr=true;simp[zr,o,z,D,E,H,I]
       go_enter Tryz.func126,Tryz.ntmps126
       go_wp2
       go_ret
       exact⟨zq j.out.symm,rfl⟩
      |false=>
       cases J:(s.toList==[112,114,105,110,116]) with
       |true=>
        have j:Hid (zr s scr=true):=by show zr s scr=true;simp[zr,o,z,D,E,H,I,J]
        go_enter Tryz.func126,Tryz.ntmps126
        go_wp2
        go_ret
        exact⟨zq j.out.symm,rfl⟩
       |false=>
        cases K:(s.toList==[116,104,114,111,119]) with
        |true=>
         have j:Hid (zr s scr=true):=by show zr s scr=true;simp[zr,o,z,D,E,H,I,J,K]
         go_enter Tryz.func126,Tryz.ntmps126
         go_wp2
         go_ret
         exact⟨zq j.out.symm,rfl⟩
        |false=>
         cases L:(s.toList==[102,97,105,108]) with
         |true=>
          have j:Hid (zr s scr=scr):=by show zr s scr=scr;simp[zr,o,z,D,E,H,I,J,K,L]
          go_enter Tryz.func126,Tryz.ntmps126
          go_wp2
          go_ret
          exact⟨zq j.out.symm,rfl⟩
         |false=>
          cases M:(s.toList==[117,110,100,101,102]) with
          |true=>
           have j:Hid (zr s scr=scr):=by show zr s scr=scr;simp[zr,o,z,D,E,H,I,J,K,L,M]
           go_enter Tryz.func126,Tryz.ntmps126
           go_wp2
           go_ret
           exact⟨zq j.out.symm,rfl⟩
          |false=>
           have j:Hid (zr s scr=false):=by show zr s scr=false;simp[zr,o,z,D,E,H,I,J,K,L,M]
           go_enter Tryz.func126,Tryz.ntmps126
           go_wp2
           go_ret
           exact⟨zq j.out.symm,rfl⟩
theorem zod {C:Cx} {i:Nat} {o:Bool} (h:((zf C i).kind==1)=false):plainB C i o=false:=by rw[plainB,h];rfl
theorem zhN {C:Cx} {i:Nat} {o:Bool} (h: ¬i<C.ts.length):plainB C i o=false:=by
 rw[Bool.eq_false_iff]
 exact fun g=>h (zed g)
theorem zg5 (C:Cx) (Y J K:Nat) (S:Sv) (q:PS) (z:Int) (d:Nat) (o:Bool) (w:World) (Q:OwnT w K 40 Y C.ts.length J C.ts) (_:C.ts.length≤4000):
  Calls Tryz.prog 99 #[pv C Y J S q z d,.bool o] w fun e E=>e= .returned (.bool (decide (z<0)&&plainB C q.pos o))∧Below w.heap.size w E:=by
 unfold pv
 by_cases hz:z<0
 ·have H:decide (z<0)=true:=decide_eq_true hz
  have N:decide (0≤z)=false:=decide_eq_false (by omega)
  by_cases V:q.pos<C.ts.length
  ·obtain⟨O,X,_,_⟩:=Q.cells V (d:=⟨0,sNone,0,C.fin⟩)
   have U:=(zan Q).1
   change _=some (Value.int .i64 (zf C q.pos).kind) at O
   change _=some (Value.string (zf C q.pos).text) at X
   generalize j:zf C q.pos=t at O X
   cases I:(t.kind==1) with
   |true=>
    have M:(t.kind !=1)=false:=by rw[bne,I];rfl
    cases L:zr t.text C.scr with
    |false=>
     have D:Hid (plainB C q.pos o=true):=by show plainB C q.pos o=true;simp only[plainB,j,I,L,Bool.not_false,Bool.true_or,Bool.and_self]
     clear j
     go_enter Tryz.func99,Tryz.ntmps99
     go_wp2_with (first|(go_at_call 126;refine (zem _ _ _).mono ?_;rintro e E ⟨rfl,rfl⟩))
     go_ret
     exact⟨zq (by first|(rw[H,D.out];rfl)|rfl),(Below.refl _ _).alloc (Nat.le_refl _) _⟩
    |true=>
     cases o with
     |true=>
      cases Z:(t.text.toList==[100,101,102,97,117,108,116]) with
      |true=>
       have D:Hid (plainB C q.pos true=true):=by show plainB C q.pos true=true;simp only[plainB,j,I,L,Z,Bool.not_true,Bool.and_self,Bool.false_or]
       clear j
       go_enter Tryz.func99,Tryz.ntmps99
       go_wp2_with (first|(go_at_call 126;refine (zem _ _ _).mono ?_;rintro e E ⟨rfl,rfl⟩))
       go_ret
       exact⟨zq (by first|(rw[H,D.out];rfl)|rfl),(Below.refl _ _).alloc (Nat.le_refl _) _⟩
      |false=>
       have D:Hid (plainB C q.pos true=false):=by show plainB C q.pos true=false;simp only[plainB,j,I,L,Z,Bool.not_true,Bool.true_and,Bool.or_self]
       clear j
       go_enter Tryz.func99,Tryz.ntmps99
       go_wp2_with (first|(go_at_call 126;refine (zem _ _ _).mono ?_;rintro e E ⟨rfl,rfl⟩))
       go_ret
       exact⟨zq (by first|(rw[H,D.out];rfl)|rfl),(Below.refl _ _).alloc (Nat.le_refl _) _⟩
     |false=>
      have D:Hid (plainB C q.pos false=false):=by show plainB C q.pos false=false;simp only[plainB,j,I,L,Bool.not_true,Bool.false_and,Bool.or_self,Bool.and_false]
      clear j
      go_enter Tryz.func99,Tryz.ntmps99
      go_wp2_with (first|(go_at_call 126;refine (zem _ _ _).mono ?_;rintro e E ⟨rfl,rfl⟩))
      go_ret
      exact⟨zq (by first|(rw[H,D.out];rfl)|rfl),(Below.refl _ _).alloc (Nat.le_refl _) _⟩
   |false=>
    have M:(t.kind !=1)=true:=by rw[bne,I];rfl
    have D:Hid (plainB C q.pos o=false):=zod (by rw[j];exact I)
    clear j
    go_enter Tryz.func99,Tryz.ntmps99
    go_wp2_with (first|(go_at_call 126;refine (zem _ _ _).mono ?_;rintro e E ⟨rfl,rfl⟩))
    go_ret
    exact⟨zq (by first|(rw[H,D.out];rfl)|rfl),(Below.refl _ _).alloc (Nat.le_refl _) _⟩
  ·have D:Hid (plainB C q.pos o=false):=zhN V
   go_enter Tryz.func99,Tryz.ntmps99
   go_wp2_with (first|(go_at_call 126;refine (zem _ _ _).mono ?_;rintro e E ⟨rfl,rfl⟩))
   go_ret
   exact⟨zq (by first|(rw[H,D.out];rfl)|rfl),(Below.refl _ _).alloc (Nat.le_refl _) _⟩
 ·have H:decide (z<0)=false:=decide_eq_false hz
  have N:decide (0≤z)=true:=decide_eq_true (by omega)
  have D:Hid (plainB C q.pos o=plainB C q.pos o):=rfl
  go_enter Tryz.func99,Tryz.ntmps99
  go_wp2_with (first|(go_at_call 126;refine (zem _ _ _).mono ?_;rintro e E ⟨rfl,rfl⟩))
  go_ret
  exact⟨zq (by first|(rw[H,D.out];rfl)|rfl),(Below.refl _ _).alloc (Nat.le_refl _) _⟩
def Is2 (y:Except Nat (PS×ByteArray)) (q:PS) (z:Int) (n:ByteArray):Prop:=
 match y with
 | .ok a=>q=a.1∧z= -1∧n=a.2
 | .error e=>z=(e:Int)
theorem Is2.fst {y:Except Nat (PS×ByteArray)} {q:PS} {z:Int} {n:ByteArray} (h:Is2 y q z n):Is (za7 y) q z:=by
 cases y with
 |ok a=>exact⟨h.1,h.2.1⟩
 |error e=>exact h
theorem Is2.bind {y:Except Nat (PS×ByteArray)} {q:PS} {z:Int} {n:ByteArray} (h:Is2 y q z n) {β:Type} (F:PS→ByteArray→Except Nat β):bd (za7 y) (fun q=>F q n)=bd y fun a=>F a.1 a.2:=by
 cases y with
 |ok a=>obtain⟨_,_,rfl⟩:=h;rfl
 |error e=>rfl
def zdM (C:Cx) (gt cap base:Nat) (y:Except Nat (PS×ByteArray)) (d:Nat) (S:Sv) (w:World) (e:Ending) (w':World):Prop:=
 ∃S' q' z' n',e= .returned (.tuple #[pv C gt cap S' q' z' d,.string n'])∧Is2 y q' z' n'∧Mem C gt cap base S' q' w'∧Stp S w S' w'
theorem zen {C:Cx} {D o j:Nat} {y:Except Nat (PS×ByteArray)} {d:Nat} {S:Sv} {w E:World} {q':PS} {z':Int} {z:ByteArray} {v:Value} (J:v=pv C D o S q' z' d) (K:Is2 y q' z' z) (I:Mem C D o j S q' w) (H:Below w.heap.size w E):zdM C D o j y d S w (.returned (.tuple #[v,.string z])) E:=
 ⟨S,q',z',z,by rw[J],K,I.later H,Stp.below H⟩
theorem zbz (C:Cx) (M H j:Nat) (x:PR) (S:Sv) (q:PS) (z:Int) (d:Nat) (o:Bool) (w:World) (hx:Is x q z) (hm:Mem C M H j S q w):
  Calls Tryz.prog 56 #[pv C M H S q z d,.bool o] w (zdM C M H j (bd x (zk C o)) d S w):=by
 have HM:=zc hm
 have E:=hm.tok
 have I:=hm.few
 have HX:=zc hx
 clear hx hm
 cases J:(decide (z<0)&&plainB C q.pos o) with
 |true=>
  have O:q.pos<C.ts.length:=by rw[Bool.and_eq_true] at J;exact zed J.2
  have HY:Hid (Is2 (bd x (zk C o)) (adv q) z (zf C q.pos).text):=by
   rw[Bool.and_eq_true,decide_eq_true_eq] at J
   obtain⟨U,Z⟩:=zaF HX.out J.1
   show Is2 (bd x (zk C o)) (adv q) z (zf C q.pos).text
   rw[U,zh,zk,if_pos J.2]
   exact⟨rfl,Z,rfl⟩
  unfold pv
  go_enter Tryz.func56,Tryz.ntmps56
  go_wp2_with fail
  refine (zg5 C M H j S q z d o _ (zv (zv E _) _) I).mono ?_
  rintro e w1 ⟨rfl,K⟩
  rw[J]
  obtain⟨V,L⟩:=zcE K
  obtain⟨a0,a1,a2,a3,a4,a5,a6,a7,a8,a9,Q,N,af⟩:=zao V
  obtain⟨b0,b1,b2,b3,b4,b5,b6,b7,b8,b9,ac,ab,bf⟩:=zao L
  have D:=zcn E (zbs K)
  obtain⟨_,c1,_,_⟩:=D.cells O (d:=⟨0,sNone,0,C.fin⟩)
  change _=some (Value.string (zf C q.pos).text) at c1
  have G2:=zc L
  clear V L J
  go_wp2
  refine bodyPost_ret (zaK rfl _ _ (w.heap.size+1) 55 _ (0,0) _ rfl (zbj ((zx (by omega)).trans G2.out)) Tryz.underlying55 rfl (by kernel_rfl)) rfl ?_
  exact zen rfl HY.out (HM.out.adv O) (zbX ((zbs K).setCell (Nat.le_refl _) _) (Nat.le_succ _) ..)
 |false=>
  have HY:Hid (Is2 (bd x (zk C o)) q (zbC C q.pos z) sNone):=by
   show Is2 (bd x (zk C o)) q (zbC C q.pos z) sNone
   unfold zbC
   by_cases X:z<0
   ·obtain⟨U,Z⟩:=zaF HX.out X
    simp only[X,decide_true,Bool.true_and] at J
    rw[U,zh,zk,J,if_pos X]
    rfl
   ·obtain⟨e,U,Z⟩:=zd2 HX.out X
    rw[U,zec,if_neg X]
    exact Z
  unfold pv
  go_enter Tryz.func56,Tryz.ntmps56
  go_wp2_with fail
  refine (zg5 C M H j S q z d o _ (zv (zv E _) _) I).mono ?_
  rintro e w1 ⟨rfl,K⟩
  rw[J]
  obtain⟨V,L⟩:=zcE K
  obtain⟨a0,a1,a2,a3,a4,a5,a6,a7,a8,a9,Q,N,af⟩:=zao V
  have G2:=zc L
  have D:=zcn E (zbs K)
  clear V L J
  go_wp2_with fail
  refine (zd0 C M H j S q z d _ D I).mono ?_
  rintro e w2 ⟨rfl,Y⟩
  have G3:Hid (_=_):=(Y.block _ (Nat.lt_of_lt_of_le (by simp) K.size)).trans G2.out
  obtain⟨c0,c1,c2,c3,c4,c5,c6,c7,c8,c9,ad,ae,cf⟩:=zao G3.out
  have aa:=(zbs K).trans (Y.mono (zbs K).size)
  clear a0 a1 a2 a3 a4 a5 a6 a7 a8 a9 Q N af
  unfold pv
  go_wp2
  refine bodyPost_ret (zaK rfl _ _ (w.heap.size+1) 55 _ (0,0) _ rfl (zbj G3.out) Tryz.underlying55 rfl (by kernel_rfl)) rfl ?_
  exact zen rfl HY.out HM.out (zbX aa (Nat.le_succ _) ..)
theorem Tryz.infoImp:(Tryz.prog.info? 75).map (fun i=>(i.zero,i.size,i.bytes))=some (some (.agg #[.string {data:=#[]},.string {data:=#[]},.string {data:=#[]}]),3,48):=by kernel_rfl
theorem Tryz.infoExp:(Tryz.prog.info? 77).map (fun i=>(i.zero,i.size,i.bytes))=some (some (.agg #[.int .i64 0,.string {data:=#[]},.string {data:=#[]},.string {data:=#[]}]),4,56):=by kernel_rfl
theorem Tryz.infoStmt:(Tryz.prog.info? 79).map (fun i=>(i.zero,i.size,i.bytes))=some (some (.agg #[.int .i64 0,.string {data:=#[]},.int .i64 0]),3,32):=by kernel_rfl
theorem Tryz.infoExpr:(Tryz.prog.info? 81).map (fun i=>(i.zero,i.size,i.bytes))=some (some (.agg #[.int .i64 0,.int .i64 0,.string {data:=#[]},.string {data:=#[]},.int .i64 0,.int .i64 0]),6,64):=by kernel_rfl
def imV (x:Im):Value:=.agg #[.string x.spec,.string x.first,.string x.loc]
def epV (x:Ep):Value:=.agg #[.int .i64 x.kind,.string x.name,.string x.loc,.string x.spec]
def exV (x:Ex):Value:=.agg #[.int .i64 x.kind,.int .i64 x.num,.string x.name,.string x.field,.int .i64 x.l,.int .i64 x.r]
theorem zcW (w:World) (a b c:Obj):Below w.heap.size w (((w.alloc a).alloc b).alloc c):=(zcD w a b).alloc (zcD w a b).size c
theorem zg6 (w:World) (a b c d:Obj):Below w.heap.size w ((((w.alloc a).alloc b).alloc c).alloc d):=(zcW w a b c).alloc (zcW w a b c).size d
theorem zcG (w:World) (a b:Obj):((w.alloc a).alloc b).heap.size=w.heap.size+1+1:=by rw[zX,zX]
theorem zad (w:World) (a b c:Obj):(((w.alloc a).alloc b).alloc c).heap.size=w.heap.size+1+1+1:=by rw[zX,zcG]
theorem za9 (w:World) (a b c d:Obj):((((w.alloc a).alloc b).alloc c).alloc d).heap.size=w.heap.size+1+1+1+1:=by rw[zX,zad]
theorem zaY (w:World) (a b c:Obj):(((w.alloc a).alloc b).alloc c).heap[w.heap.size]? =some a∧(((w.alloc a).alloc b).alloc c).heap[w.heap.size+1]? =some b∧(((w.alloc a).alloc b).alloc c).heap[w.heap.size+1+1]? =some c:=by
 refine⟨?_,?_,?_⟩
 ·rw[Below.heap_alloc _ _ _ (by rw[zcG];omega),Below.heap_alloc _ _ _ (by rw[zX];omega)]
  exact heap_alloc_new w a
 ·rw[Below.heap_alloc _ _ _ (by rw[zcG];omega)]
  exact zdz w a b
 ·rw[←zcG w a b]
  exact heap_alloc_new _ c
theorem zce (w:World) (a b c d:Obj):((((w.alloc a).alloc b).alloc c).alloc d).heap[w.heap.size]? =some a∧((((w.alloc a).alloc b).alloc c).alloc d).heap[w.heap.size+1]? =some b∧((((w.alloc a).alloc b).alloc c).alloc d).heap[w.heap.size+1+1]? =some c∧((((w.alloc a).alloc b).alloc c).alloc d).heap[w.heap.size+1+1+1]? =some d:=by
 obtain⟨j,z,o⟩:=zaY w a b c
 refine⟨?_,?_,?_,?_⟩
 ·rw[Below.heap_alloc _ _ _ (by rw[zad];omega)]
  exact j
 ·rw[Below.heap_alloc _ _ _ (by rw[zad];omega)]
  exact z
 ·rw[Below.heap_alloc _ _ _ (by rw[zad];omega)]
  exact o
 ·rw[←zad w a b c]
  exact heap_alloc_new _ d
theorem zhO {w j:World} {a b c:Obj} (o:Below (((w.alloc a).alloc b).alloc c).heap.size (((w.alloc a).alloc b).alloc c) j):Below w.heap.size w j:=(zcW w a b c).trans (o.mono (zcW w a b c).size)
theorem zg7 {C:Cx} {x:PR} {q:PS} {z:Int} {f:PS→PR} (j:Is x q z) (D:z<0) (o:f q= .error (zu C (q.pos-1))):Is (bd x f) q (zu C (q.pos-1)):=by
 obtain⟨rfl,_⟩:=zaF j D
 rw[zh,o]
 rfl
theorem zg8 {x:PR} {q:PS} {z:Int} {f:PS→PR} (j:Is x q z) (o: ¬z<0):Is (bd x f) q z:=by
 obtain⟨e,rfl,D⟩:=zd2 j o
 exact D
theorem zfE {x:PR} {q q':PS} {z:Int} {f:PS→PR} (j:Is x q z) (o:z<0) (D:f q= .ok q'):Is (bd x f) q' z:=by
 obtain⟨rfl,E⟩:=zaF j o
 rw[zh,D]
 exact⟨rfl,E⟩
theorem zeo {w W:World} {j:Nat} {S:Sv} {q:PS} (o:Own w j S q) (_:w.heap.size≤W.heap.size) {r:Option Nat} (z: ∀k,r=some k→S.has k) (b:Nat) (D:w.heap.size≤b):some b≠r:=fun e=>by have:=(o.has (z b e.symm)).2;omega
theorem zcX (C:Cx) (U o j:Nat) (x:PR) (S:Sv) (q:PS) (z:Int) (d:Nat) (y:Ex) (w:World) (hx:Is x q z) (N:Mem C U o j S q w) (Q:z<0→1≤q.pos):
  Calls Tryz.prog 103 #[pv C U o S q z d,exV y] w (Out C U o j (bd x (zJ C y)) d S w):=by
 obtain⟨i0,hi,X,Z,ab⟩:=info_parts Tryz.infoExpr
 have E:=zc N
 have HX:=zc hx
 have ac:q.ex.length≤300:=by have:=N.inv.ex;omega
 clear hx
 by_cases K:z<0
 ·have dz:decide (0≤z)=false:=decide_eq_false (by omega)
  by_cases hn:300≤q.ex.length
  ·have L:Hid (Is (bd x (zJ C y)) q (zu C (q.pos-1))):=zg7 HX.out K (if_pos hn)
   have qn:decide ((300:Int)≤(q.ex.length:Int))=true:=decide_eq_true (by omega)
   have M:=Q K
   clear Q N
   unfold pv exV
   go_enter Tryz.func103,Tryz.ntmps103
   go_wp2_with fail
   refine (zfD C U o j S q z d _ (((E.out.alloc _).alloc _).alloc _) K M).mono ?_
   rintro e w2 ⟨rfl,H⟩
   have Y:Below w.heap.size w w2:=zhO H
   have G3:Hid (_=_):=(H.block (w.heap.size+1+1) (by rw[zad];omega)).trans ((zaY w _ _ _).2.2)
   obtain⟨c0,c1,c2,c3,c4,c5,c6,c7,c8,c9,aj,ae,cf⟩:=zao G3.out
   clear H
   unfold pv
   go_wp2
   refine bodyPost_ret (results_cell_row rfl _ _ (w.heap.size+1+1) 55 _ (0,0) _ rfl (zbj G3.out) Tryz.underlying55 rfl (by kernel_rfl)) rfl ?_
   exact zc5 rfl L.out E.out (zbX Y (by omega) ..)
  ·have qn:decide ((300:Int)≤(q.ex.length:Int))=false:=decide_eq_false (by omega)
   have L:Hid (Is (bd x (zJ C y)) {q with ex:=q.ex++[y]} z):=zfE HX.out K (if_neg hn)
   have D:=fun o1 o2 o3 o4=>((((E.out.own.ex.alloc o1).alloc o2).alloc o3).alloc o4)
   clear Q N
   unfold pv exV
   go_enter Tryz.func103,Tryz.ntmps103
   go_wp2_with (at_builtin;refine zcC _ rfl _ _ 30 rfl j 81 i0 _ 6 64 Tryz.underlying30 hi X Z ab rfl (by decide) (by decide) S.ex q.ex.length _ (by rfl) (D ..) (w.heap.size+1+1+1) (exL y) (by rfl) (by first|exact (zce w ..).2.2.2|exact (zaY w _ _ _).2.2) rfl (by intro u hu;simp[exL] at hu;rcases hu with rfl|rfl|rfl|rfl|rfl|rfl<;>rfl) (by omega) (by have:=E.out.base;(first|rw[za9]|rw[zad]);omega) ?_)
   intro r' w2 hr O J
   have HR:=zc hr
   have HG:=zc O
   have aa:=zc J
   have I:=fun b hb=>zeo (W:=w) E.out.own (Nat.le_refl _) (r:=S.ex.blk) (fun k e=>.inr (.inr (.inr (.inr (.inl e))))) b hb
   have g1:=(O.block w.heap.size (by (first|rw[za9]|rw[zad]);omega) (I _ (Nat.le_refl _))).trans (by first|exact (zce w ..).1|exact (zaY w _ _ _).1)
   have V:=(O.block (w.heap.size+1+1) (by (first|rw[za9]|rw[zad]);omega) (I _ (by omega))).trans (by first|exact (zce w ..).2.2.1|exact (zaY w _ _ _).2.1)
   obtain⟨a0,a1,a2,a3,a4,a5,a6,a7,a8,a9,ag,ai,af⟩:=zao g1
   obtain⟨b0,b1,b2,b3,b4,b5,b6,b7,b8,b9,ad,ah,bf⟩:=zao V
   have G2:=zc V
   clear g1 V O hr J I D
   go_wp2
   refine bodyPost_ret (results_cell_row rfl _ _ (w.heap.size+1+1) 55 _ (0,0) _ rfl (zbj ((zx (by omega)).trans G2.out)) Tryz.underlying55 rfl (by kernel_rfl)) rfl ?_
   obtain⟨m',s'⟩:=E.out.grow_ex (x:=y) (zg6 w ..) HG.out HR.out (by (first|rw[za9]|rw[zad]);exact aa.out) (((Off.refl _ _ _).set (b:=w.heap.size) (Nat.le_refl _) (by (first|rw[za9]|rw[zad]);omega) _ _).set12 (b:=w.heap.size+1+1) (by omega) (by (first|rw[za9]|rw[zad]);omega) ..) (by omega)
   exact⟨_,{q with ex:=q.ex++[y]},z,by simp[pv],L.out,m',s'⟩
 ·have dz:decide (0≤z)=true:=decide_eq_true (by omega)
  have L:Hid (Is (bd x (zJ C y)) q z):=zg8 HX.out K
  clear Q N
  unfold pv exV
  go_enter Tryz.func103,Tryz.ntmps103
  go_wp2
  refine bodyPost_ret (results_cell_row rfl _ _ (w.heap.size+1+1) 55 _ (0,0) _ rfl ((zaY w _ _ _).2.2) Tryz.underlying55 rfl (by kernel_rfl)) rfl ?_
  exact zc5 rfl L.out E.out (zcW w _ _ _)
theorem zhP (C:Cx) (U o j:Nat) (x:PR) (S:Sv) (q:PS) (z:Int) (d:Nat) (y:Im) (w:World) (hx:Is x q z) (N:Mem C U o j S q w) (Q:z<0→1≤q.pos):
  Calls Tryz.prog 98 #[pv C U o S q z d,imV y] w (Out C U o j (bd x (zW C y)) d S w):=by
 obtain⟨i0,hi,X,Z,ab⟩:=info_parts Tryz.infoImp
 have E:=zc N
 have HX:=zc hx
 have ac:q.im.length≤40:=by have:=N.inv.im;omega
 clear hx
 by_cases K:z<0
 ·have dz:decide (0≤z)=false:=decide_eq_false (by omega)
  by_cases hn:40≤q.im.length
  ·have L:Hid (Is (bd x (zW C y)) q (zu C (q.pos-1))):=zg7 HX.out K (if_pos hn)
   have qn:decide ((40:Int)≤(q.im.length:Int))=true:=decide_eq_true (by omega)
   have M:=Q K
   clear Q N
   unfold pv imV
   go_enter Tryz.func98,Tryz.ntmps98
   go_wp2_with fail
   refine (zfD C U o j S q z d _ (((E.out.alloc _).alloc _).alloc _) K M).mono ?_
   rintro e w2 ⟨rfl,H⟩
   have Y:Below w.heap.size w w2:=zhO H
   have G3:Hid (_=_):=(H.block (w.heap.size+1+1) (by rw[zad];omega)).trans ((zaY w _ _ _).2.2)
   obtain⟨c0,c1,c2,c3,c4,c5,c6,c7,c8,c9,aj,ae,cf⟩:=zao G3.out
   clear H
   unfold pv
   go_wp2
   refine bodyPost_ret (results_cell_row rfl _ _ (w.heap.size+1+1) 55 _ (0,0) _ rfl (zbj G3.out) Tryz.underlying55 rfl (by kernel_rfl)) rfl ?_
   exact zc5 rfl L.out E.out (zbX Y (by omega) ..)
  ·have qn:decide ((40:Int)≤(q.im.length:Int))=false:=decide_eq_false (by omega)
   have L:Hid (Is (bd x (zW C y)) {q with im:=q.im++[y]} z):=zfE HX.out K (if_neg hn)
   have D:=fun o1 o2 o3 o4=>((((E.out.own.im.alloc o1).alloc o2).alloc o3).alloc o4)
   clear Q N
   unfold pv imV
   go_enter Tryz.func98,Tryz.ntmps98
   go_wp2_with (at_builtin;refine zcC _ rfl _ _ 27 rfl j 75 i0 _ 3 48 Tryz.underlying27 hi X Z ab rfl (by decide) (by decide) S.im q.im.length _ (by rfl) (D ..) (w.heap.size+1+1+1) (imL y) (by rfl) (by first|exact (zce w ..).2.2.2|exact (zaY w _ _ _).2.2) rfl (by intro u hu;simp[imL] at hu;rcases hu with rfl|rfl|rfl<;>rfl) (by omega) (by have:=E.out.base;(first|rw[za9]|rw[zad]);omega) ?_)
   intro r' w2 hr O J
   have HR:=zc hr
   have HG:=zc O
   have aa:=zc J
   have I:=fun b hb=>zeo (W:=w) E.out.own (Nat.le_refl _) (r:=S.im.blk) (fun k e=>.inr (.inl e)) b hb
   have g1:=(O.block w.heap.size (by (first|rw[za9]|rw[zad]);omega) (I _ (Nat.le_refl _))).trans (by first|exact (zce w ..).1|exact (zaY w _ _ _).1)
   have V:=(O.block (w.heap.size+1+1) (by (first|rw[za9]|rw[zad]);omega) (I _ (by omega))).trans (by first|exact (zce w ..).2.2.1|exact (zaY w _ _ _).2.1)
   obtain⟨a0,a1,a2,a3,a4,a5,a6,a7,a8,a9,ag,ai,af⟩:=zao g1
   obtain⟨b0,b1,b2,b3,b4,b5,b6,b7,b8,b9,ad,ah,bf⟩:=zao V
   have G2:=zc V
   clear g1 V O hr J I D
   go_wp2
   refine bodyPost_ret (results_cell_row rfl _ _ (w.heap.size+1+1) 55 _ (0,0) _ rfl (zbj ((zx (by omega)).trans G2.out)) Tryz.underlying55 rfl (by kernel_rfl)) rfl ?_
   obtain⟨m',s'⟩:=E.out.grow_im (x:=y) (zg6 w ..) HG.out HR.out (by (first|rw[za9]|rw[zad]);exact aa.out) (((Off.refl _ _ _).set (b:=w.heap.size) (Nat.le_refl _) (by (first|rw[za9]|rw[zad]);omega) _ _).set12 (b:=w.heap.size+1+1) (by omega) (by (first|rw[za9]|rw[zad]);omega) ..) (by omega)
   exact⟨_,{q with im:=q.im++[y]},z,by simp[pv],L.out,m',s'⟩
 ·have dz:decide (0≤z)=true:=decide_eq_true (by omega)
  have L:Hid (Is (bd x (zW C y)) q z):=zg8 HX.out K
  clear Q N
  unfold pv imV
  go_enter Tryz.func98,Tryz.ntmps98
  go_wp2
  refine bodyPost_ret (results_cell_row rfl _ _ (w.heap.size+1+1) 55 _ (0,0) _ rfl ((zaY w _ _ _).2.2) Tryz.underlying55 rfl (by kernel_rfl)) rfl ?_
  exact zc5 rfl L.out E.out (zcW w _ _ _)
theorem zep (C:Cx) (gt J o:Nat) (x:PR) (S:Sv) (q:PS) (z:Int) (d:Nat) (y:Ep) (w:World) (hx:Is x q z) (O:Mem C gt J o S q w) (V:z<0→1≤q.pos):
  Calls Tryz.prog 100 #[pv C gt J S q z d,epV y] w (Out C gt J o (bd x (zm C y)) d S w):=by
 obtain⟨i0,hi,U,X,Z⟩:=info_parts Tryz.infoExp
 have H:=zc O
 have HX:=zc hx
 have ah:q.ep.length≤40:=by have:=O.inv.ep;omega
 have ai:q.la.length≤40:=by have:=O.inv.ep;omega
 clear hx
 by_cases Q:z<0
 ·have dz:decide (0≤z)=false:=decide_eq_false (by omega)
  by_cases hn:40≤q.ep.length+q.la.length
  ·have M:Hid (Is (bd x (zm C y)) q (zu C (q.pos-1))):=zg7 HX.out Q (if_pos hn)
   have qn:decide ((40:Int)≤(q.ep.length:Int)+(q.la.length:Int))=true:=decide_eq_true (by omega)
   have aa:=V Q
   clear V O
   unfold pv epV
   go_enter Tryz.func100,Tryz.ntmps100
   go_wp2_with fail
   refine (zfD C gt J o S q z d _ (((H.out.alloc _).alloc _).alloc _) Q aa).mono ?_
   rintro e w2 ⟨rfl,N⟩
   have ac:Below w.heap.size w w2:=zhO N
   have G3:Hid (_=_):=(N.block (w.heap.size+1+1) (by rw[zad];omega)).trans ((zaY w _ _ _).2.2)
   obtain⟨c0,c1,c2,c3,c4,c5,c6,c7,c8,c9,ak,aj,cf⟩:=zao G3.out
   clear N
   unfold pv
   go_wp2
   refine bodyPost_ret (results_cell_row rfl _ _ (w.heap.size+1+1) 55 _ (0,0) _ rfl (zbj G3.out) Tryz.underlying55 rfl (by kernel_rfl)) rfl ?_
   exact zc5 rfl M.out H.out (zbX ac (by omega) ..)
  ·have qn:decide ((40:Int)≤(q.ep.length:Int)+(q.la.length:Int))=false:=decide_eq_false (by omega)
   cases hd:(y.loc.toList==[42,100,101,102,97,117,108,116]) with
   |true=>
    have M:Hid (Is (bd x (zm C y)) {q with la:=q.la++[y]} z):=zfE HX.out Q (by rw[zm,if_neg hn,if_pos hd])
    have j:=fun o1 o2 o3 o4=>((((H.out.own.la.alloc o1).alloc o2).alloc o3).alloc o4)
    clear V O
    unfold pv epV
    go_enter Tryz.func100,Tryz.ntmps100
    go_wp2_with (at_builtin;refine zcC _ rfl _ _ 28 rfl o 77 i0 _ 4 56 Tryz.underlying28 hi U X Z rfl (by decide) (by decide) S.la q.la.length _ (by rfl) (j ..) (w.heap.size+1+1+1) (epL y) (by rfl) (by first|exact (zce w ..).2.2.2|exact (zaY w _ _ _).2.2) rfl (by intro u hu;simp[epL] at hu;rcases hu with rfl|rfl|rfl|rfl<;>rfl) (by omega) (by have:=H.out.base;(first|rw[za9]|rw[zad]);omega) ?_)
    intro r' w2 hr I E
    have HR:=zc hr
    have HG:=zc I
    have L:=zc E
    have D:=fun b hb=>zeo (W:=w) H.out.own (Nat.le_refl _) (r:=S.la.blk) (fun k e=>.inr (.inr (.inr (.inr (.inr e))))) b hb
    have Y:=(I.block w.heap.size (by (first|rw[za9]|rw[zad]);omega) (D _ (Nat.le_refl _))).trans (by first|exact (zce w ..).1|exact (zaY w _ _ _).1)
    have K:=(I.block (w.heap.size+1+1) (by (first|rw[za9]|rw[zad]);omega) (D _ (by omega))).trans (by first|exact (zce w ..).2.2.1|exact (zaY w _ _ _).2.1)
    obtain⟨a0,a1,a2,a3,a4,a5,a6,a7,a8,a9,ad,ag,af⟩:=zao Y
    obtain⟨b0,b1,b2,b3,b4,b5,b6,b7,b8,b9,ab,ae,bf⟩:=zao K
    have G2:=zc K
    clear Y K I hr E D j
    go_wp2
    refine bodyPost_ret (results_cell_row rfl _ _ (w.heap.size+1+1) 55 _ (0,0) _ rfl (zbj ((zx (by omega)).trans G2.out)) Tryz.underlying55 rfl (by kernel_rfl)) rfl ?_
    obtain⟨m',s'⟩:=H.out.grow_la (x:=y) (zg6 w ..) HG.out HR.out (by (first|rw[za9]|rw[zad]);exact L.out) (((Off.refl _ _ _).set (b:=w.heap.size) (Nat.le_refl _) (by (first|rw[za9]|rw[zad]);omega) _ _).set12 (b:=w.heap.size+1+1) (by omega) (by (first|rw[za9]|rw[zad]);omega) ..) (by omega)
    exact⟨_,{q with la:=q.la++[y]},z,by simp[pv],M.out,m',s'⟩
   |false=>
    have M:Hid (Is (bd x (zm C y)) {q with ep:=q.ep++[y]} z):=zfE HX.out Q (by rw[zm,if_neg hn,hd];rfl)
    have j:=fun o1 o2 o3 o4=>((((H.out.own.ep.alloc o1).alloc o2).alloc o3).alloc o4)
    clear V O
    unfold pv epV
    go_enter Tryz.func100,Tryz.ntmps100
    go_wp2_with (at_builtin;refine zcC _ rfl _ _ 28 rfl o 77 i0 _ 4 56 Tryz.underlying28 hi U X Z rfl (by decide) (by decide) S.ep q.ep.length _ (by rfl) (j ..) (w.heap.size+1+1+1) (epL y) (by rfl) (by first|exact (zce w ..).2.2.2|exact (zaY w _ _ _).2.2) rfl (by intro u hu;simp[epL] at hu;rcases hu with rfl|rfl|rfl|rfl<;>rfl) (by omega) (by have:=H.out.base;(first|rw[za9]|rw[zad]);omega) ?_)
    intro r' w2 hr I E
    have HR:=zc hr
    have HG:=zc I
    have L:=zc E
    have D:=fun b hb=>zeo (W:=w) H.out.own (Nat.le_refl _) (r:=S.ep.blk) (fun k e=>.inr (.inr (.inl e))) b hb
    have Y:=(I.block w.heap.size (by (first|rw[za9]|rw[zad]);omega) (D _ (Nat.le_refl _))).trans (by first|exact (zce w ..).1|exact (zaY w _ _ _).1)
    have K:=(I.block (w.heap.size+1+1) (by (first|rw[za9]|rw[zad]);omega) (D _ (by omega))).trans (by first|exact (zce w ..).2.2.1|exact (zaY w _ _ _).2.1)
    obtain⟨a0,a1,a2,a3,a4,a5,a6,a7,a8,a9,ad,ag,af⟩:=zao Y
    obtain⟨b0,b1,b2,b3,b4,b5,b6,b7,b8,b9,ab,ae,bf⟩:=zao K
    have G2:=zc K
    clear Y K I hr E D j
    go_wp2
    refine bodyPost_ret (results_cell_row rfl _ _ (w.heap.size+1+1) 55 _ (0,0) _ rfl (zbj ((zx (by omega)).trans G2.out)) Tryz.underlying55 rfl (by kernel_rfl)) rfl ?_
    obtain⟨m',s'⟩:=H.out.grow_ep (x:=y) (zg6 w ..) HG.out HR.out (by (first|rw[za9]|rw[zad]);exact L.out) (((Off.refl _ _ _).set (b:=w.heap.size) (Nat.le_refl _) (by (first|rw[za9]|rw[zad]);omega) _ _).set12 (b:=w.heap.size+1+1) (by omega) (by (first|rw[za9]|rw[zad]);omega) ..) (by omega)
    exact⟨_,{q with ep:=q.ep++[y]},z,by simp[pv],M.out,m',s'⟩
 ·have dz:decide (0≤z)=true:=decide_eq_true (by omega)
  have M:Hid (Is (bd x (zm C y)) q z):=zg8 HX.out Q
  clear V O
  unfold pv epV
  go_enter Tryz.func100,Tryz.ntmps100
  go_wp2
  refine bodyPost_ret (results_cell_row rfl _ _ (w.heap.size+1+1) 55 _ (0,0) _ rfl ((zaY w _ _ _).2.2) Tryz.underlying55 rfl (by kernel_rfl)) rfl ?_
  exact zc5 rfl M.out H.out (zcW w _ _ _)
theorem zcY (C:Cx) (U o j:Nat) (x:PR) (S:Sv) (q:PS) (z:Int) (d:Nat) (k:Int) (nm:ByteArray) (w:World) (hx:Is x q z) (J:Mem C U o j S q w) (Q:z<0→1≤q.pos):
  Calls Tryz.prog 55 #[pv C U o S q z d,.int .i64 k,.string nm] w (Out C U o j (bd x (zE C k nm)) d S w):=by
 obtain⟨i0,hi,X,Z,ab⟩:=info_parts Tryz.infoStmt
 have E:=zc J
 have HX:=zc hx
 have ac:q.ex.length≤300:=by have:=J.inv.ex;omega
 have ad:q.st.length≤80:=by have:=J.inv.st;omega
 clear hx
 by_cases L:z<0
 ·have dz:decide (0≤z)=false:=decide_eq_false (by omega)
  by_cases hn:80≤q.st.length
  ·have M:Hid (Is (bd x (zE C k nm)) q (zu C (q.pos-1))):=zg7 HX.out L (if_pos hn)
   have qn:decide ((80:Int)≤(q.st.length:Int))=true:=decide_eq_true (by omega)
   have N:=Q L
   clear Q J
   unfold pv
   go_enter Tryz.func55,Tryz.ntmps55
   go_wp2_with fail
   refine (zfD C U o j S q z d _ ((E.out.alloc _).alloc _) L N).mono ?_
   rintro e w2 ⟨rfl,H⟩
   have Y:Below w.heap.size w w2:=zbs H
   have G3:Hid (_=_):=(H.block (w.heap.size+1) (by rw[zcG];omega)).trans (zdz w _ _)
   obtain⟨c0,c1,c2,c3,c4,c5,c6,c7,c8,c9,ak,ag,cf⟩:=zao G3.out
   clear H
   unfold pv
   go_wp2
   refine bodyPost_ret (results_cell_row rfl _ _ (w.heap.size+1) 55 _ (0,0) _ rfl (zbj G3.out) Tryz.underlying55 rfl (by kernel_rfl)) rfl ?_
   exact zc5 rfl M.out E.out (zbX Y (by omega) ..)
  ·have qn:decide ((80:Int)≤(q.st.length:Int))=false:=decide_eq_false (by omega)
   have M:Hid (Is (bd x (zE C k nm)) {q with st:=q.st++[⟨k,nm,(q.ex.length:Int)-1⟩]} z):=zfE HX.out L (if_neg hn)
   have D:=fun o1 o2 o3=>(((E.out.own.st.alloc o1).alloc o2).alloc o3)
   clear Q J
   unfold pv
   go_enter Tryz.func55,Tryz.ntmps55
   go_wp2_with (at_builtin;refine zcC _ rfl _ _ 29 rfl j 79 i0 _ 3 32 Tryz.underlying29 hi X Z ab rfl (by decide) (by decide) S.st q.st.length _ (by rfl) (D _ _ _) (w.heap.size+1+1) (smL ⟨k,nm,(q.ex.length:Int)-1⟩) (by rfl) (by first|exact (zce w ..).2.2.2|exact (zaY w _ _ _).2.2) rfl (by intro u hu;simp[smL] at hu;rcases hu with rfl|rfl|rfl<;>rfl) (by omega) (by have:=E.out.base;(first|rw[za9]|rw[zad]);omega) ?_)
   intro r' w2 hr O K
   have HR:=zc hr
   have HG:=zc O
   have aa:=zc K
   have I:=fun b hb=>zeo (W:=w) E.out.own (Nat.le_refl _) (r:=S.st.blk) (fun k e=>.inr (.inr (.inr (.inl e)))) b hb
   have g1:=(O.block w.heap.size (by (first|rw[za9]|rw[zad]);omega) (I _ (Nat.le_refl _))).trans (by first|exact (zce w ..).1|exact (zaY w _ _ _).1)
   have V:=(O.block (w.heap.size+1) (by (first|rw[za9]|rw[zad]);omega) (I _ (by omega))).trans (by first|exact (zce w ..).2.2.1|exact (zaY w _ _ _).2.1)
   obtain⟨a0,a1,a2,a3,a4,a5,a6,a7,a8,a9,ah,aj,af⟩:=zao g1
   obtain⟨b0,b1,b2,b3,b4,b5,b6,b7,b8,b9,ae,ai,bf⟩:=zao V
   have G2:=zc V
   clear g1 V O hr K I D
   go_wp2
   refine bodyPost_ret (results_cell_row rfl _ _ (w.heap.size+1) 55 _ (0,0) _ rfl (zbj ((zx (by omega)).trans G2.out)) Tryz.underlying55 rfl (by kernel_rfl)) rfl ?_
   obtain⟨m',s'⟩:=E.out.grow_st (x:=⟨k,nm,(q.ex.length:Int)-1⟩) (zcW w _ _ _) HG.out HR.out (by (first|rw[za9]|rw[zad]);exact aa.out) (((Off.refl _ _ _).set (b:=w.heap.size) (Nat.le_refl _) (by (first|rw[za9]|rw[zad]);omega) _ _).set12 (b:=w.heap.size+1) (by omega) (by (first|rw[za9]|rw[zad]);omega) ..) (by omega)
   exact⟨_,{q with st:=q.st++[⟨k,nm,(q.ex.length:Int)-1⟩]},z,by simp[pv],M.out,m',s'⟩
 ·have dz:decide (0≤z)=true:=decide_eq_true (by omega)
  have M:Hid (Is (bd x (zE C k nm)) q z):=zg8 HX.out L
  clear Q J
  unfold pv
  go_enter Tryz.func55,Tryz.ntmps55
  go_wp2
  refine bodyPost_ret (results_cell_row rfl _ _ (w.heap.size+1) 55 _ (0,0) _ rfl (zdz w _ _) Tryz.underlying55 rfl (by kernel_rfl)) rfl ?_
  exact zc5 rfl M.out E.out (zcD w _ _)
theorem OwnR.drew {w:World} {j size n:Nat} {e:TypeId} {r:Rw} {xs:List Value} (h:OwnR w j e size r n xs):OwnR w.drew j e size r n xs:=h
theorem zoe (x:Ex): ∀u∈exL x,u.oneCell'=true:=by
 intro u j
 simp[exL] at j
 rcases j with rfl|rfl|rfl|rfl|rfl|rfl<;>rfl
theorem IM.grow_ex {C:Cx} {O J D o:Nat} {S:Sv} {q:PS} {w W z:World} {j:Rw} {x:Ex} (h:IM C O J D o S q w) (U:Below w.heap.size w W) (V:W.grownBy z S.ex.blk) (Z:OwnR z D 81 6 j (q.ex.length+1) (q.ex.flatMap exL++exL x)) (M:j.blk=S.ex.blk∨j.blk=some W.heap.size) (hn:q.ex.length<300):
  IM C O J D o {S with ex:=j} {q with ex:=q.ex++[x]} (z.setCell ⟨o,8,none⟩ (.slice j.a (q.ex.length+1) j.cap))∧IS o S w {S with ex:=j} (z.setCell ⟨o,8,none⟩ (.slice j.a (q.ex.length+1) j.cap)):=by
 obtain⟨K,I⟩:=h.mem.grow_ex (x:=x) U V Z M (Off.refl _ _ _) hn
 have E:=h.free
 have N:=h.lt
 have H: ¬Sv.has {S with ex:=j} o:=fun g=>(I.sub o g).elim E fun g'=>by omega
 have L: ∀k,k≠o→(z.setCell ⟨o,8,none⟩ (.slice j.a (q.ex.length+1) j.cap)).heap[k]? =z.heap[k]?:=fun k L=>Below.heap_setCell z ⟨o,8,none⟩ _ k L
 have Q:(z.setCell ⟨o,8,none⟩ (.slice j.a (q.ex.length+1) j.cap)).heap.size=z.heap.size:=by show (z.heap.modify _ _).size=_;simp
 have X:=(I.block o N E).trans h.cells
 refine⟨⟨⟨K.own.keep fun k g=>L k fun e=>H (by rw[←e];exact g),K.inv,zbJ K.tok (L O h.ne.symm),K.few,by rw[Q];exact K.base⟩,?_,h.ge⟩,?_⟩
 ·rw[zbf X]
  simp
 ·exact (show IS o S w {S with ex:=j} z from⟨I.os,I.tape,I.output,I.size,fun k h1 Y _=>I.block k h1 Y,I.sub⟩).set _ _
theorem zof (C:Cx) (gt J j o:Nat) (S:Sv) (q:PS) (x:Ex) (w:World) (h:IM C gt J j o S q w) (hn:q.ex.length<300):
  Calls Tryz.prog 143 #[.pointer (some ⟨o,0,none⟩),exV x] w fun e X=>e= .returned (.int .i64 q.ex.length)∧∃Z,IM C gt J j o Z {q with ex:=q.ex++[x]} X∧IS o S w Z X:=by
 obtain⟨i0,hi,N,O,U⟩:=info_parts Tryz.infoExpr
 have L:=zc h
 have aa:=h.lt
 obtain⟨c0,c1,c2,c3,c4,c5,c6,c7,c8,c9,cf⟩:=zag h.cells
 have K:=fun D z=>((L.out.mem.own.ex.alloc D).drew.alloc z)
 have ab:=h.mem.base
 have I:some o≠S.ex.blk:=fun e=>L.out.free (.inr (.inr (.inr (.inr (.inl e.symm)))))
 have HN:=zc I
 have V: ∀D z,j≤((w.alloc D).alloc z).heap.size:=fun D z=>by rw[zcG];omega
 have M: ∀D z,o<((w.alloc D).alloc z).heap.size:=fun D z=>by rw[zcG];omega
 clear h I
 unfold exV
 go_enter Tryz.func143,Tryz.ntmps143
 go_wp2_with fail
 refine (zel o q.ex.length 300 _ (by omega)).mono ?_
 rintro e w1 ⟨rfl,rfl⟩
 go_wp2_with fail
 go_region_law (first|(refine zfC rfl (.tmp 18) (.tmp 20) 30 rfl j 81 i0 _ 6 64 Tryz.underlying30 hi N O U rfl (by decide) (by decide) S.ex q.ex.length (q.ex.flatMap exL) (by rfl) (by exact K _ _) (w.heap.size+1) (exL x) (by rfl) (by exact zdz w _ _) rfl (zoe x) (by omega) (by exact V _ _) ?_;intro r' w2 hr E H;have Y:=(E.block o (by exact M _ _) HN.out).trans (by exact ((L.out.alloc _).alloc _).cells);obtain⟨d0,d1,d2,d3,d4,d5,d6,d7,d8,d9,df⟩:=zag Y))
 all_goals
  have HR:=zc hr
  have HG:=zc E
  have Q:=zc H
  clear hr E H Y c0 c1 c2 c3 c4 c5 c6 c7 c8 c9 cf
  go_wp2
  go_ret
  obtain⟨m',s'⟩:=L.out.grow_ex (zcD w _ _).drew HG.out HR.out Q.out hn
  exact⟨zeE (by omega),_,m',s'⟩
theorem zjQ (x:Im): ∀u∈imL x,u.oneCell'=true:=by
 intro u j
 simp[imL] at j
 rcases j with rfl|rfl|rfl<;>rfl
theorem IM.grow_rq {C:Cx} {O J D o:Nat} {S:Sv} {q:PS} {w W z:World} {j:Rw} {x:ByteArray} (h:IM C O J D o S q w) (U:Below w.heap.size w W) (V:W.grownBy z S.rq.blk) (Z:OwnR z D 9 1 j (q.rq.length+1) (q.rq.map .string++[.string x])) (M:j.blk=S.rq.blk∨j.blk=some W.heap.size) (hn:q.rq.length<40):
  IM C O J D o {S with rq:=j} {q with rq:=q.rq++[x]} (z.setCell ⟨o,4,none⟩ (.slice j.a (q.rq.length+1) j.cap))∧IS o S w {S with rq:=j} (z.setCell ⟨o,4,none⟩ (.slice j.a (q.rq.length+1) j.cap)):=by
 obtain⟨K,I⟩:=h.mem.grow_rq (x:=x) U V Z M (Off.refl _ _ _) hn
 have E:=h.free
 have N:=h.lt
 have H: ¬Sv.has {S with rq:=j} o:=fun g=>(I.sub o g).elim E fun g'=>by omega
 have L: ∀k,k≠o→(z.setCell ⟨o,4,none⟩ (.slice j.a (q.rq.length+1) j.cap)).heap[k]? =z.heap[k]?:=fun k L=>Below.heap_setCell z ⟨o,4,none⟩ _ k L
 have Q:(z.setCell ⟨o,4,none⟩ (.slice j.a (q.rq.length+1) j.cap)).heap.size=z.heap.size:=by show (z.heap.modify _ _).size=_;simp
 have X:=(I.block o N E).trans h.cells
 refine⟨⟨⟨K.own.keep fun k g=>L k fun e=>H (by rw[←e];exact g),K.inv,zbJ K.tok (L O h.ne.symm),K.few,by rw[Q];exact K.base⟩,?_,h.ge⟩,?_⟩
 ·rw[zbf X]
  simp
 ·exact (show IS o S w {S with rq:=j} z from⟨I.os,I.tape,I.output,I.size,fun k h1 Y _=>I.block k h1 Y,I.sub⟩).set _ _
theorem IM.grow_im {C:Cx} {O J D o:Nat} {S:Sv} {q:PS} {w W z:World} {j:Rw} {x:Im} (h:IM C O J D o S q w) (U:Below w.heap.size w W) (V:W.grownBy z S.im.blk) (Z:OwnR z D 75 3 j (q.im.length+1) (q.im.flatMap imL++imL x)) (M:j.blk=S.im.blk∨j.blk=some W.heap.size) (hn:q.im.length<40):
  IM C O J D o {S with im:=j} {q with im:=q.im++[x]} (z.setCell ⟨o,5,none⟩ (.slice j.a (q.im.length+1) j.cap))∧IS o S w {S with im:=j} (z.setCell ⟨o,5,none⟩ (.slice j.a (q.im.length+1) j.cap)):=by
 obtain⟨K,I⟩:=h.mem.grow_im (x:=x) U V Z M (Off.refl _ _ _) hn
 have E:=h.free
 have N:=h.lt
 have H: ¬Sv.has {S with im:=j} o:=fun g=>(I.sub o g).elim E fun g'=>by omega
 have L: ∀k,k≠o→(z.setCell ⟨o,5,none⟩ (.slice j.a (q.im.length+1) j.cap)).heap[k]? =z.heap[k]?:=fun k L=>Below.heap_setCell z ⟨o,5,none⟩ _ k L
 have Q:(z.setCell ⟨o,5,none⟩ (.slice j.a (q.im.length+1) j.cap)).heap.size=z.heap.size:=by show (z.heap.modify _ _).size=_;simp
 have X:=(I.block o N E).trans h.cells
 refine⟨⟨⟨K.own.keep fun k g=>L k fun e=>H (by rw[←e];exact g),K.inv,zbJ K.tok (L O h.ne.symm),K.few,by rw[Q];exact K.base⟩,?_,h.ge⟩,?_⟩
 ·rw[zbf X]
  simp
 ·exact (show IS o S w {S with im:=j} z from⟨I.os,I.tape,I.output,I.size,fun k h1 Y _=>I.block k h1 Y,I.sub⟩).set _ _
theorem IM.grow_ep {C:Cx} {O J D o:Nat} {S:Sv} {q:PS} {w W z:World} {j:Rw} {x:Ep} (h:IM C O J D o S q w) (U:Below w.heap.size w W) (V:W.grownBy z S.ep.blk) (Z:OwnR z D 77 4 j (q.ep.length+1) (q.ep.flatMap epL++epL x)) (M:j.blk=S.ep.blk∨j.blk=some W.heap.size) (hn:q.ep.length+q.la.length<40):
  IM C O J D o {S with ep:=j} {q with ep:=q.ep++[x]} (z.setCell ⟨o,6,none⟩ (.slice j.a (q.ep.length+1) j.cap))∧IS o S w {S with ep:=j} (z.setCell ⟨o,6,none⟩ (.slice j.a (q.ep.length+1) j.cap)):=by
 obtain⟨K,I⟩:=h.mem.grow_ep (x:=x) U V Z M (Off.refl _ _ _) hn
 have E:=h.free
 have N:=h.lt
 have H: ¬Sv.has {S with ep:=j} o:=fun g=>(I.sub o g).elim E fun g'=>by omega
 have L: ∀k,k≠o→(z.setCell ⟨o,6,none⟩ (.slice j.a (q.ep.length+1) j.cap)).heap[k]? =z.heap[k]?:=fun k L=>Below.heap_setCell z ⟨o,6,none⟩ _ k L
 have Q:(z.setCell ⟨o,6,none⟩ (.slice j.a (q.ep.length+1) j.cap)).heap.size=z.heap.size:=by show (z.heap.modify _ _).size=_;simp
 have X:=(I.block o N E).trans h.cells
 refine⟨⟨⟨K.own.keep fun k g=>L k fun e=>H (by rw[←e];exact g),K.inv,zbJ K.tok (L O h.ne.symm),K.few,by rw[Q];exact K.base⟩,?_,h.ge⟩,?_⟩
 ·rw[zbf X]
  simp
 ·exact (show IS o S w {S with ep:=j} z from⟨I.os,I.tape,I.output,I.size,fun k h1 Y _=>I.block k h1 Y,I.sub⟩).set _ _
theorem IM.grow_st {C:Cx} {O J D o:Nat} {S:Sv} {q:PS} {w W z:World} {j:Rw} {x:Sm} (h:IM C O J D o S q w) (U:Below w.heap.size w W) (V:W.grownBy z S.st.blk) (Z:OwnR z D 79 3 j (q.st.length+1) (q.st.flatMap smL++smL x)) (M:j.blk=S.st.blk∨j.blk=some W.heap.size) (hn:q.st.length<80):
  IM C O J D o {S with st:=j} {q with st:=q.st++[x]} (z.setCell ⟨o,7,none⟩ (.slice j.a (q.st.length+1) j.cap))∧IS o S w {S with st:=j} (z.setCell ⟨o,7,none⟩ (.slice j.a (q.st.length+1) j.cap)):=by
 obtain⟨K,I⟩:=h.mem.grow_st (x:=x) U V Z M (Off.refl _ _ _) hn
 have E:=h.free
 have N:=h.lt
 have H: ¬Sv.has {S with st:=j} o:=fun g=>(I.sub o g).elim E fun g'=>by omega
 have L: ∀k,k≠o→(z.setCell ⟨o,7,none⟩ (.slice j.a (q.st.length+1) j.cap)).heap[k]? =z.heap[k]?:=fun k L=>Below.heap_setCell z ⟨o,7,none⟩ _ k L
 have Q:(z.setCell ⟨o,7,none⟩ (.slice j.a (q.st.length+1) j.cap)).heap.size=z.heap.size:=by show (z.heap.modify _ _).size=_;simp
 have X:=(I.block o N E).trans h.cells
 refine⟨⟨⟨K.own.keep fun k g=>L k fun e=>H (by rw[←e];exact g),K.inv,zbJ K.tok (L O h.ne.symm),K.few,by rw[Q];exact K.base⟩,?_,h.ge⟩,?_⟩
 ·rw[zbf X]
  simp
 ·exact (show IS o S w {S with st:=j} z from⟨I.os,I.tape,I.output,I.size,fun k h1 Y _=>I.block k h1 Y,I.sub⟩).set _ _
theorem IM.grow_la {C:Cx} {O J D o:Nat} {S:Sv} {q:PS} {w W z:World} {j:Rw} {x:Ep} (h:IM C O J D o S q w) (U:Below w.heap.size w W) (V:W.grownBy z S.la.blk) (Z:OwnR z D 77 4 j (q.la.length+1) (q.la.flatMap epL++epL x)) (M:j.blk=S.la.blk∨j.blk=some W.heap.size) (hn:q.ep.length+q.la.length<40):
  IM C O J D o {S with la:=j} {q with la:=q.la++[x]} (z.setCell ⟨o,9,none⟩ (.slice j.a (q.la.length+1) j.cap))∧IS o S w {S with la:=j} (z.setCell ⟨o,9,none⟩ (.slice j.a (q.la.length+1) j.cap)):=by
 obtain⟨K,I⟩:=h.mem.grow_la (x:=x) U V Z M (Off.refl _ _ _) hn
 have E:=h.free
 have N:=h.lt
 have H: ¬Sv.has {S with la:=j} o:=fun g=>(I.sub o g).elim E fun g'=>by omega
 have L: ∀k,k≠o→(z.setCell ⟨o,9,none⟩ (.slice j.a (q.la.length+1) j.cap)).heap[k]? =z.heap[k]?:=fun k L=>Below.heap_setCell z ⟨o,9,none⟩ _ k L
 have Q:(z.setCell ⟨o,9,none⟩ (.slice j.a (q.la.length+1) j.cap)).heap.size=z.heap.size:=by show (z.heap.modify _ _).size=_;simp
 have X:=(I.block o N E).trans h.cells
 refine⟨⟨⟨K.own.keep fun k g=>L k fun e=>H (by rw[←e];exact g),K.inv,zbJ K.tok (L O h.ne.symm),K.few,by rw[Q];exact K.base⟩,?_,h.ge⟩,?_⟩
 ·rw[zbf X]
  simp
 ·exact (show IS o S w {S with la:=j} z from⟨I.os,I.tape,I.output,I.size,fun k h1 Y _=>I.block k h1 Y,I.sub⟩).set _ _
theorem zog (C:Cx) (gt J j o:Nat) (S:Sv) (q:PS) (x:Im) (w:World) (h:IM C gt J j o S q w) (hn:q.im.length<40):
  Calls Tryz.prog 137 #[.pointer (some ⟨o,0,none⟩),imV x] w fun e X=>e= .returned (.tuple #[])∧∃Z,IM C gt J j o Z {q with im:=q.im++[x]} X∧IS o S w Z X:=by
 obtain⟨i0,hi,N,O,U⟩:=info_parts Tryz.infoImp
 have L:=zc h
 have aa:=h.lt
 obtain⟨c0,c1,c2,c3,c4,c5,c6,c7,c8,c9,cf⟩:=zag h.cells
 have K:=fun D z=>((L.out.mem.own.im.alloc D).drew.alloc z)
 have ab:=h.mem.base
 have I:some o≠S.im.blk:=fun e=>L.out.free (.inr (.inl e.symm))
 have HN:=zc I
 have V: ∀D z,j≤((w.alloc D).alloc z).heap.size:=fun D z=>by rw[zcG];omega
 have M: ∀D z,o<((w.alloc D).alloc z).heap.size:=fun D z=>by rw[zcG];omega
 clear h I
 unfold imV
 go_enter Tryz.func137,Tryz.ntmps137
 go_wp2_with fail
 refine (zel o q.im.length 40 _ (by omega)).mono ?_
 rintro e w1 ⟨rfl,rfl⟩
 go_wp2_with fail
 go_region_law (first|(refine zfC rfl (.tmp 17) (.tmp 19) 27 rfl j 75 i0 _ 3 48 Tryz.underlying27 hi N O U rfl (by decide) (by decide) S.im q.im.length (q.im.flatMap imL) (by rfl) (by exact K _ _) (w.heap.size+1) (imL x) (by rfl) (by exact zdz w _ _) rfl (zjQ x) (by omega) (by exact V _ _) ?_;intro r' w2 hr E H;have Y:=(E.block o (by exact M _ _) HN.out).trans (by exact ((L.out.alloc _).alloc _).cells);obtain⟨d0,d1,d2,d3,d4,d5,d6,d7,d8,d9,df⟩:=zag Y))
 all_goals
  have HR:=zc hr
  have HG:=zc E
  have Q:=zc H
  clear hr E H Y c0 c1 c2 c3 c4 c5 c6 c7 c8 c9 cf
  go_wp2
  go_end0
  obtain⟨m',s'⟩:=L.out.grow_im (zcD w _ _).drew HG.out HR.out Q.out hn
  exact⟨rfl,_,m',s'⟩
end Go.Proofs.YthfeoomfiafldaaGreat
