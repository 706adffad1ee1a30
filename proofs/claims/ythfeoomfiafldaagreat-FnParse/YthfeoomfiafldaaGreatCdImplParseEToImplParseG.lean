/-
  What passSigns of impl's parser answers: the walk.
  'append' of one element onto a row of the call's own,as one step of a region that draws its order. No program is spoken of.
  What spec's readers of one token answer: l4Full,l4Sign,l4Word,l4Reserved,l4Plain,l4Name: the walks.
  What spec's l4Plain and l4Name answer: the walks.
  What spec's l4Add,l4Imp,l4Stmt and l4Exp answer: the walks.
  What addExpr of impl's parser answers where there is room: the walk.
  A row of impl's parser grows by one element; what addImp answers where there is room: the walk.
-/
import Derived.Test.YthfeoomfiafldaaGreatCdImplParseCToImplParseD
namespace Go.Proofs.YthfeoomfiafldaaGreat
set_option maxRecDepth 100000
set_option maxHeartbeats 3200000
open Go.RowKit Go.PlainAid Go.Sort
def zaE (C:Cx) (s:ByteArray):Nat→Nat→PS→PR
 |0,_,q=>.ok q
 |n+1,k,q=>bd (zd C 4 (s.extract k (k+1)) q) (zaE C s n (k+1))
theorem zhN {C:Cx} {k:Int} {x:ByteArray} {q:PS} (h:isT C q.pos k x=false):zd C k x q= .error (zu C q.pos):=by rw[zd,h];rfl
theorem zcd {C:Cx} {k:Int} {x:ByteArray} {q:PS} (h:isT C q.pos k x=true):zd C k x q= .ok (adv q):=if_pos h
theorem zhO (C:Cx) (K z o H:Nat) (S:Sv) (q:PS) (s:ByteArray) (w:World) (h:IM C K z o H S q w) (hs:s.size≤100):
  Calls Tryz.prog 94 #[.pointer (some ⟨H,0,none⟩),.string s] w (zT C K z o H (zaE C s s.size 0 q) id (fun _=>.tuple #[]) S w):=by
 have O:=zc h
 clear h
 go_enter Tryz.func94,Tryz.ntmps94
 go_wp2
 go_loopg [7] s.size (fun k i wr=>∃(j:Nat) (E:PS),i= .int .i64 j∧j+k=s.size∧zaE C s k j E=zaE C s s.size 0 q∧IM C K z o H S E wr∧IS H S w S wr)
 case atStart=>exact⟨0,q,rfl,by omega,rfl,O.out,IS.refl _ _ _⟩
 case round=>
  obtain⟨j,E,rfl,hj,he,m,t⟩:=hrel
  have L:=zc he
  have HM:=zc m
  have U:=zc t
  clear he m t
  match gk,hj,L with
  |0,hj,L=>
   have V: ¬j<s.size:=by omega
   go_wp2
   go_end0
   rw[←L.out]
   exact⟨rfl,S,HM.out,U.out⟩
  |k+1,hj,L=>
   have V:j<s.size:=by omega
   obtain⟨D,N⟩: ∃D,D=j+1:=⟨_,rfl⟩
   have ej:(j:Int)+1=(D:Int):=by omega
   have ab:D≤s.size:=by omega
   have ac:j≤D:=by omega
   have Y:=zc N
   clear N
   cases Q:isT C E.pos 4 (s.extract j D) with
   |true=>
    have HX:Hid (zaE C s k D (adv E)=zaE C s s.size 0 q):=by
     show _=_
     rw[←L.out,zaE,←Y.out,zcd Q]
     rfl
    go_wp2_with fail
    refine (zP C K z o H S E 4 (s.extract j D) _ HM.out (by decide)).mono ?_
    rintro e w1 ⟨rfl,J,M⟩
    rw[Q] at J ⊢
    have I:=zc J
    have X:Hid (IS H S w S w1):=U.out.trans M
    clear J M
    go_wp2
    go_roundg k
    case rel=>exact⟨D,adv E,rfl,by have:=Y.out;omega,HX.out,I.out,X.out⟩
    case measure=>omega
   |false=>
    have HX:Hid (zaE C s s.size 0 q= .error (zu C E.pos)):=by
     show _=_
     rw[←L.out,zaE,←Y.out,zhN Q]
     rfl
    go_wp2_with fail
    refine (zP C K z o H S E 4 (s.extract j D) _ HM.out (by decide)).mono ?_
    rintro e w1 ⟨rfl,J,M⟩
    rw[Q] at J ⊢
    have I:=zc J
    have HB:Hid (Below o w w1):=(U.out.trans M).under O.out.mem.base O.out.mem.own O.out.ge
    clear J M
    go_wp2_with fail
    refine (zeT C K z o H S E _ I.out).mono ?_
    rintro e w2 ⟨rfl,aa⟩
    have Z:Hid (Below o w w2):=HB.out.trans (aa.mono I.out.mem.base)
    unfold Pan
    go_wp2
    refine⟨rfl,?_⟩
    rw[HX.out]
    exact⟨rfl,Z.out⟩
theorem zfC {P:Program} {U:Array Oper} {o:Oper} {a:Act} {W:World} {K:Act→World→Prop} {Q:Exit→Act→World→Prop} {E:Prop} (aa:o.guard=none) (s x:Operand) (t:TypeId)
  (ho:o.op= .call {callee:=.builtin .append,args:=#[s,x],argTypes:=#[t,t]})
  (I:Nat) (e:TypeId) (i:TypeInfo) (z:Value) (size D:Nat) (ht:P.underlying t=some (.slice e)) (hi:P.info? e=some i) (hz:i.zero=some z) (L:i.size=size) (ab:i.bytes=D) (Z:z.cells.size=size) (ad:0<size) (V:D≤100)
  (r:Rw) (n:Nat) (xs:List Value) (hs:a.eval s= .slice r.a n r.cap) (N:OwnR W I e size r n xs)
  (X:Nat) (H:List Value) (hx:a.eval x= .slice (some ⟨X,0,none⟩) 1 1) (hg:W.heap[X]? =some (.cells H.toArray e (0,0))) (hl:H.length=size) (h1: ∀u∈H,u.oneCell'=true) (hn:n+1≤1000000) (M:I≤W.heap.size)
  (h: ∀O Y,OwnR Y I e size O (n+1) (xs++H)→W.grownBy Y r.blk→(O.blk=r.blk∨O.blk=some W.heap.size)→K (a.put o.dst (.slice O.a (n+1) O.cap)) Y):
  if Region.wanted o (yielded U a.tmps)=true then Oper.wp P o a W K Q else E:=by
 have hw:Region.wanted o (yielded U a.tmps)=true:=by simp[Region.wanted,aa]
 rw[if_pos hw]
 obtain⟨v',Y,hr,h2,h3,_,h5⟩:=run_append_own_at (P:=P) W I t o.type e i z size D ht hi hz L ab Z ad _ n xs N ⟨X,0,none⟩ 1 1 H (by omega) (by
  intro j u hj
  have e1:(⟨X,0,none⟩:Addr).add j=⟨X,j,none⟩:=by simp[Addr.add];exact fun h=>h.symm
  rw[e1]
  simp[World.cell?,hg,hj]) h1 (by unfold maxLen;omega) (by have:(n+1)*D≤1000000*100:=Nat.mul_le_mul hn V;omega) M
 unfold Oper.wp execOp
 simp only[ho,resolve,invoke,builtin,Sem.run_bind,Sem.run_pure,Result.andThen_ok,List.map_toArray,List.map_cons,List.map_nil,hs,hx,hr]
 rcases h2.2 with ⟨hv,ae⟩|⟨g',J,af,rfl,ac⟩
 ·omega
 ·refine h ⟨some ⟨g',0,none⟩,J⟩ Y h2 ?_ ?_
  ·rw[←zb9 r n];exact h3
  ·rw[←zb9 r n,←zb9 ⟨some ⟨g',0,none⟩,J⟩ (n+1)];exact h5
def Is (x:PR) (q:PS) (z:Int):Prop:=
 match x with
 | .ok q0=>q=q0∧z= -1
 | .error e=>z=(e:Int)
theorem zab (q:PS):Is (.ok q) q (-1):=⟨rfl,rfl⟩
theorem zaF {x:PR} {q:PS} {z:Int} (h:Is x q z) (j:z<0):x= .ok q∧z= -1:=by
 cases x with
 |ok o=>obtain⟨rfl,rfl⟩:=h;exact⟨rfl,rfl⟩
 |error e=>have:z=(e:Int):=h;omega
theorem zd2 {x:PR} {q:PS} {z:Int} (h:Is x q z) (j: ¬z<0): ∃e,x= .error e∧z=(e:Int):=by
 cases x with
 |ok o=>obtain⟨rfl,rfl⟩:=h;exact absurd (by decide) j
 |error e=>exact⟨e,rfl,h⟩
def Out (C:Cx) (gt cap base:Nat) (y:PR) (d:Nat) (S:Sv) (w:World) (e:Ending) (w':World):Prop:=
 ∃S' q' z',e= .returned (pv C gt cap S' q' z' d)∧Is y q' z'∧Mem C gt cap base S' q' w'∧Stp S w S' w'
theorem zc5 {C:Cx} {z o j:Nat} {y:PR} {d:Nat} {S:Sv} {w E:World} {q':PS} {z':Int} {v:Value} (I:v=pv C z o S q' z' d) (J:Is y q' z') (H:Mem C z o j S q' w) (D:Below w.heap.size w E):Out C z o j y d S w (.returned v) E:=
 ⟨S,q',z',by rw[I],J,H.later D,Stp.below D⟩
theorem zfD (C:Cx) (H j o:Nat) (S:Sv) (q:PS) (z:Int) (d:Nat) (w:World) (D:Mem C H j o S q w) (Q:z<0) (O:1≤q.pos):
  Calls Tryz.prog 104 #[pv C H j S q z d] w fun e M=>e= .returned (pv C H j S q (zu C (q.pos-1)) d)∧Below w.heap.size w M:=by
 obtain⟨p,E⟩: ∃p,q.pos=p+1:=⟨q.pos-1,by omega⟩
 have I:p<C.ts.length:=by have:=D.inv.pos;omega
 have J:=D.few
 obtain⟨_,_,_,N⟩:=D.tok.cells I (d:=⟨0,sNone,0,C.fin⟩)
 have K:=(zan D.tok).1
 change _=some (Value.int .i64 (zu C p)) at N
 rw[show q.pos-1=p from by omega]
 have L:(q.pos:Int)-1=p:=by omega
 clear E
 unfold pv
 go_enter Tryz.func104,Tryz.ntmps104
 go_wp2
 refine bodyPost_ret (results_cell_row rfl _ _ (w.heap.size+1) 55 _ (0,0) _ rfl (zdz w _ _) Tryz.underlying55 rfl (by kernel_rfl)) rfl ?_
 exact⟨rfl,zcD w _ _⟩
theorem zah (C:Cx) (L o j:Nat) (x:PR) (S:Sv) (q:PS) (z:Int) (d:Nat) (s:ByteArray) (w:World) (hx:Is x q z) (hm:Mem C L o j S q w):
  Calls Tryz.prog 52 #[pv C L o S q z d,.string s] w (Out C L o j (bd x (zd C 4 s)) d S w):=by
 have HM:=zc hm
 have H:=hm.tok
 have E:=hm.few
 have HX:=zc hx
 clear hx hm
 cases D:(decide (z<0)&&isT C q.pos 4 s) with
 |true=>
  have aa:q.pos<C.ts.length:=by rw[Bool.and_eq_true] at D;exact za1 D.2 (by decide)
  have HY:Hid (Is (bd x (zd C 4 s)) (adv q) z):=by
   rw[Bool.and_eq_true,decide_eq_true_eq] at D
   obtain⟨O,Z⟩:=zaF HX.out D.1
   show Is (bd x (zd C 4 s)) (adv q) z
   rw[O,zh,zd,if_pos D.2]
   exact⟨rfl,Z⟩
  unfold pv
  go_enter Tryz.func52,Tryz.ntmps52
  go_wp2_with fail
  refine (zj C L o j S q z d 4 s _ (zv (zv H _) _) E (by decide)).mono ?_
  rintro e w1 ⟨rfl,I⟩
  rw[D]
  obtain⟨Q,J⟩:=zcE I
  obtain⟨a0,a1,a2,a3,a4,a5,a6,a7,a8,a9,N,U,af⟩:=zao Q
  obtain⟨b0,b1,b2,b3,b4,b5,b6,b7,b8,b9,V,M,bf⟩:=zao J
  have G2:=zc J
  clear Q J D
  go_wp2
  refine bodyPost_ret (results_cell_row rfl _ _ (w.heap.size+1) 55 _ (0,0) _ rfl (zbj ((zx (by omega)).trans G2.out)) Tryz.underlying55 rfl (by kernel_rfl)) rfl ?_
  exact zc5 rfl HY.out (HM.out.adv aa) (zbX ((zbs I).setCell (Nat.le_refl _) _) (Nat.le_succ _) ..)
 |false=>
  have HY:Hid (Is (bd x (zd C 4 s)) q (zbC C q.pos z)):=by
   show Is (bd x (zd C 4 s)) q (zbC C q.pos z)
   unfold zbC
   by_cases Y:z<0
   ·obtain⟨O,Z⟩:=zaF HX.out Y
    simp only[Y,decide_true,Bool.true_and] at D
    rw[O,zh,zd,D,if_pos Y]
    rfl
   ·obtain⟨e,O,Z⟩:=zd2 HX.out Y
    rw[O,zec,if_neg Y]
    exact Z
  unfold pv
  go_enter Tryz.func52,Tryz.ntmps52
  go_wp2_with fail
  refine (zj C L o j S q z d 4 s _ (zv (zv H _) _) E (by decide)).mono ?_
  rintro e w1 ⟨rfl,I⟩
  rw[D]
  obtain⟨Q,J⟩:=zcE I
  obtain⟨a0,a1,a2,a3,a4,a5,a6,a7,a8,a9,N,U,af⟩:=zao Q
  obtain⟨b0,b1,b2,b3,b4,b5,b6,b7,b8,b9,V,M,bf⟩:=zao J
  have G2:=zc J
  have K:=zcn H (zbs I)
  clear Q J D
  go_wp2_with fail
  refine (zd0 C L o j S q z d _ K E).mono ?_
  rintro e w2 ⟨rfl,X⟩
  have G3:Hid (_=_):=(X.block _ (Nat.lt_of_lt_of_le (by simp) I.size)).trans G2.out
  obtain⟨c0,c1,c2,c3,c4,c5,c6,c7,c8,c9,ad,ac,cf⟩:=zao G3.out
  have ab:=(zbs I).trans (X.mono (zbs I).size)
  clear a0 a1 a2 a3 a4 a5 a6 a7 a8 a9 N U b0 b1 b2 b3 b4 b5 b6 b7 b8 b9 V M af bf
  unfold pv
  go_wp2
  refine bodyPost_ret (results_cell_row rfl _ _ (w.heap.size+1) 55 _ (0,0) _ rfl (zbj G3.out) Tryz.underlying55 rfl (by kernel_rfl)) rfl ?_
  exact zc5 rfl HY.out HM.out (zbX ab (Nat.le_succ _) ..)
-- GEN
theorem zaT (C:Cx) (L o j:Nat) (x:PR) (S:Sv) (q:PS) (z:Int) (d:Nat) (s:ByteArray) (w:World) (hx:Is x q z) (hm:Mem C L o j S q w):
  Calls Tryz.prog 54 #[pv C L o S q z d,.string s] w (Out C L o j (bd x (zd C 1 s)) d S w):=by
 have HM:=zc hm
 have H:=hm.tok
 have E:=hm.few
 have HX:=zc hx
 clear hx hm
 cases D:(decide (z<0)&&isT C q.pos 1 s) with
 |true=>
  have aa:q.pos<C.ts.length:=by rw[Bool.and_eq_true] at D;exact za1 D.2 (by decide)
  have HY:Hid (Is (bd x (zd C 1 s)) (adv q) z):=by
   rw[Bool.and_eq_true,decide_eq_true_eq] at D
   obtain⟨O,Z⟩:=zaF HX.out D.1
   show Is (bd x (zd C 1 s)) (adv q) z
   rw[O,zh,zd,if_pos D.2]
   exact⟨rfl,Z⟩
  unfold pv
  go_enter Tryz.func54,Tryz.ntmps54
  go_wp2_with fail
  refine (zj C L o j S q z d 1 s _ (zv (zv H _) _) E (by decide)).mono ?_
  rintro e w1 ⟨rfl,I⟩
  rw[D]
  obtain⟨Q,J⟩:=zcE I
  obtain⟨a0,a1,a2,a3,a4,a5,a6,a7,a8,a9,N,U,af⟩:=zao Q
  obtain⟨b0,b1,b2,b3,b4,b5,b6,b7,b8,b9,V,M,bf⟩:=zao J
  have G2:=zc J
  clear Q J D
  go_wp2
  refine bodyPost_ret (results_cell_row rfl _ _ (w.heap.size+1) 55 _ (0,0) _ rfl (zbj ((zx (by omega)).trans G2.out)) Tryz.underlying55 rfl (by kernel_rfl)) rfl ?_
  exact zc5 rfl HY.out (HM.out.adv aa) (zbX ((zbs I).setCell (Nat.le_refl _) _) (Nat.le_succ _) ..)
 |false=>
  have HY:Hid (Is (bd x (zd C 1 s)) q (zbC C q.pos z)):=by
   show Is (bd x (zd C 1 s)) q (zbC C q.pos z)
   unfold zbC
   by_cases Y:z<0
   ·obtain⟨O,Z⟩:=zaF HX.out Y
    simp only[Y,decide_true,Bool.true_and] at D
    rw[O,zh,zd,D,if_pos Y]
    rfl
   ·obtain⟨e,O,Z⟩:=zd2 HX.out Y
    rw[O,zec,if_neg Y]
    exact Z
  unfold pv
  go_enter Tryz.func54,Tryz.ntmps54
  go_wp2_with fail
  refine (zj C L o j S q z d 1 s _ (zv (zv H _) _) E (by decide)).mono ?_
  rintro e w1 ⟨rfl,I⟩
  rw[D]
  obtain⟨Q,J⟩:=zcE I
  obtain⟨a0,a1,a2,a3,a4,a5,a6,a7,a8,a9,N,U,af⟩:=zao Q
  obtain⟨b0,b1,b2,b3,b4,b5,b6,b7,b8,b9,V,M,bf⟩:=zao J
  have G2:=zc J
  have K:=zcn H (zbs I)
  clear Q J D
  go_wp2_with fail
  refine (zd0 C L o j S q z d _ K E).mono ?_
  rintro e w2 ⟨rfl,X⟩
  have G3:Hid (_=_):=(X.block _ (Nat.lt_of_lt_of_le (by simp) I.size)).trans G2.out
  obtain⟨c0,c1,c2,c3,c4,c5,c6,c7,c8,c9,ad,ac,cf⟩:=zao G3.out
  have ab:=(zbs I).trans (X.mono (zbs I).size)
  clear a0 a1 a2 a3 a4 a5 a6 a7 a8 a9 N U b0 b1 b2 b3 b4 b5 b6 b7 b8 b9 V M af bf
  unfold pv
  go_wp2
  refine bodyPost_ret (results_cell_row rfl _ _ (w.heap.size+1) 55 _ (0,0) _ rfl (zbj G3.out) Tryz.underlying55 rfl (by kernel_rfl)) rfl ?_
  exact zc5 rfl HY.out HM.out (zbX ab (Nat.le_succ _) ..)
theorem zen (s:ByteArray) (scr:Bool) (w:World):
  Calls Tryz.prog 126 #[.string s,.bool scr] w fun e N=>e= .returned (.bool (zr s scr))∧N=w:=by
 cases o:(s.toList==[105,109,112,111,114,116]) with
 |true=>
  have j:Hid (zr s scr=true):=by show zr s scr=true;simp[zr,o]
  go_enter Tryz.func126,Tryz.ntmps126
  go_wp2
  go_ret
  exact⟨zq j.out.symm,rfl⟩
 |false=>
  cases z:(s.toList==[101,120,112,111,114,116]) with
  |true=>
   have j:Hid (zr s scr=true):=by show zr s scr=true;simp[zr,o,z]
   go_enter Tryz.func126,Tryz.ntmps126
   go_wp2
   go_ret
   exact⟨zq j.out.symm,rfl⟩
  |false=>
   cases D:(s.toList==[100,101,102,97,117,108,116]) with
   |true=>
    have j:Hid (zr s scr=true):=by show zr s scr=true;simp[zr,o,z,D]
    go_enter Tryz.func126,Tryz.ntmps126
    go_wp2
    go_ret
    exact⟨zq j.out.symm,rfl⟩
   |false=>
    cases E:(s.toList==[108,101,116]) with
    |true=>
     have j:Hid (zr s scr=true):=by show zr s scr=true;simp[zr,o,z,D,E]
     go_enter Tryz.func126,Tryz.ntmps126
     go_wp2
     go_ret
     exact⟨zq j.out.symm,rfl⟩
    |false=>
     cases H:(s.toList==[102,117,110,99,116,105,111,110]) with
     |true=>
      have j:Hid (zr s scr=true):=by show zr s scr=true;simp[zr,o,z,D,E,H]
      go_enter Tryz.func126,Tryz.ntmps126
      go_wp2
      go_ret
      exact⟨zq j.out.symm,rfl⟩
     |false=>
      cases I:(s.toList==[114,101,116,117,114,110]) with
      |true=>
       have j:Hid (zr s scr=true):=by show zr s scr=true;simp[zr,o,z,D,E,H,I]
       go_enter Tryz.func126,Tryz.ntmps126
       go_wp2
       go_ret
       exact⟨zq j.out.symm,rfl⟩
      |false=>
       cases J:(s.toList==[112,114,105,110,116]) with
       |true=>
        have j:Hid (zr s scr=true):=by show zr s scr=true;simp[zr,o,z,D,E,H,I,J]
        go_enter Tryz.func126,Tryz.ntmps126
        go_wp2
        go_ret
        exact⟨zq j.out.symm,rfl⟩
       |false=>
        cases K:(s.toList==[116,104,114,111,119]) with
        |true=>
         have j:Hid (zr s scr=true):=by show zr s scr=true;simp[zr,o,z,D,E,H,I,J,K]
         go_enter Tryz.func126,Tryz.ntmps126
         go_wp2
         go_ret
         exact⟨zq j.out.symm,rfl⟩
        |false=>
         cases L:(s.toList==[102,97,105,108]) with
         |true=>
          have j:Hid (zr s scr=scr):=by show zr s scr=scr;simp[zr,o,z,D,E,H,I,J,K,L]
          go_enter Tryz.func126,Tryz.ntmps126
          go_wp2
          go_ret
          exact⟨zq j.out.symm,rfl⟩
         |false=>
          cases M:(s.toList==[117,110,100,101,102]) with
          |true=>
           have j:Hid (zr s scr=scr):=by show zr s scr=scr;simp[zr,o,z,D,E,H,I,J,K,L,M]
           go_enter Tryz.func126,Tryz.ntmps126
           go_wp2
           go_ret
           exact⟨zq j.out.symm,rfl⟩
          |false=>
           have j:Hid (zr s scr=false):=by show zr s scr=false;simp[zr,o,z,D,E,H,I,J,K,L,M]
           go_enter Tryz.func126,Tryz.ntmps126
           go_wp2
           go_ret
           exact⟨zq j.out.symm,rfl⟩
theorem zos {C:Cx} {i:Nat} {o:Bool} (h:((zf C i).kind==1)=false):plainB C i o=false:=by rw[plainB,h];rfl
theorem zhP {C:Cx} {i:Nat} {o:Bool} (h: ¬i<C.ts.length):plainB C i o=false:=by
 rw[Bool.eq_false_iff]
 exact fun g=>h (zed g)
theorem zg5 (C:Cx) (Q K J:Nat) (S:Sv) (q:PS) (z:Int) (d:Nat) (o:Bool) (w:World) (Y:OwnT w J 40 Q C.ts.length K C.ts) (_:C.ts.length≤4000):
  Calls Tryz.prog 99 #[pv C Q K S q z d,.bool o] w fun e E=>e= .returned (.bool (decide (z<0)&&plainB C q.pos o))∧Below w.heap.size w E:=by
 unfold pv
 by_cases Z:z<0
 ·have H:decide (z<0)=true:=decide_eq_true Z
  have M:decide (0≤z)=false:=decide_eq_false (by omega)
  by_cases U:q.pos<C.ts.length
  ·obtain⟨V,X,_,_⟩:=Y.cells U (d:=⟨0,sNone,0,C.fin⟩)
   have aa:=(zan Y).1
   change _=some (Value.int .i64 (zf C q.pos).kind) at V
   change _=some (Value.string (zf C q.pos).text) at X
   generalize j:zf C q.pos=t at V X
   cases I:(t.kind==1) with
   |true=>
    have N:(t.kind !=1)=false:=by rw[bne,I];rfl
    cases L:zr t.text C.scr with
    |false=>
     have D:Hid (plainB C q.pos o=true):=by show plainB C q.pos o=true;simp only[plainB,j,I,L,Bool.not_false,Bool.true_or,Bool.and_self]
     clear j
     go_enter Tryz.func99,Tryz.ntmps99
     go_wp2_with (first|(go_at_call 126;refine (zen _ _ _).mono ?_;rintro e E ⟨rfl,rfl⟩))
     go_ret
     exact⟨zq (by first|(rw[H,D.out];rfl)|rfl),(Below.refl _ _).alloc (Nat.le_refl _) _⟩
    |true=>
     cases o with
     |true=>
      cases O:(t.text.toList==[100,101,102,97,117,108,116]) with
      |true=>
       have D:Hid (plainB C q.pos true=true):=by show plainB C q.pos true=true;simp only[plainB,j,I,L,O,Bool.not_true,Bool.and_self,Bool.false_or]
       clear j
       go_enter Tryz.func99,Tryz.ntmps99
       go_wp2_with (first|(go_at_call 126;refine (zen _ _ _).mono ?_;rintro e E ⟨rfl,rfl⟩))
       go_ret
       exact⟨zq (by first|(rw[H,D.out];rfl)|rfl),(Below.refl _ _).alloc (Nat.le_refl _) _⟩
      |false=>
       have D:Hid (plainB C q.pos true=false):=by show plainB C q.pos true=false;simp only[plainB,j,I,L,O,Bool.not_true,Bool.true_and,Bool.or_self]
       clear j
       go_enter Tryz.func99,Tryz.ntmps99
       go_wp2_with (first|(go_at_call 126;refine (zen _ _ _).mono ?_;rintro e E ⟨rfl,rfl⟩))
       go_ret
       exact⟨zq (by first|(rw[H,D.out];rfl)|rfl),(Below.refl _ _).alloc (Nat.le_refl _) _⟩
     |false=>
      have D:Hid (plainB C q.pos false=false):=by show plainB C q.pos false=false;simp only[plainB,j,I,L,Bool.not_true,Bool.false_and,Bool.or_self,Bool.and_false]
      clear j
      go_enter Tryz.func99,Tryz.ntmps99
      go_wp2_with (first|(go_at_call 126;refine (zen _ _ _).mono ?_;rintro e E ⟨rfl,rfl⟩))
      go_ret
      exact⟨zq (by first|(rw[H,D.out];rfl)|rfl),(Below.refl _ _).alloc (Nat.le_refl _) _⟩
   |false=>
    have N:(t.kind !=1)=true:=by rw[bne,I];rfl
    have D:Hid (plainB C q.pos o=false):=zos (by rw[j];exact I)
    clear j
    go_enter Tryz.func99,Tryz.ntmps99
    go_wp2_with (first|(go_at_call 126;refine (zen _ _ _).mono ?_;rintro e E ⟨rfl,rfl⟩))
    go_ret
    exact⟨zq (by first|(rw[H,D.out];rfl)|rfl),(Below.refl _ _).alloc (Nat.le_refl _) _⟩
  ·have D:Hid (plainB C q.pos o=false):=zhP U
   go_enter Tryz.func99,Tryz.ntmps99
   go_wp2_with (first|(go_at_call 126;refine (zen _ _ _).mono ?_;rintro e E ⟨rfl,rfl⟩))
   go_ret
   exact⟨zq (by first|(rw[H,D.out];rfl)|rfl),(Below.refl _ _).alloc (Nat.le_refl _) _⟩
 ·have H:decide (z<0)=false:=decide_eq_false Z
  have M:decide (0≤z)=true:=decide_eq_true (by omega)
  have D:Hid (plainB C q.pos o=plainB C q.pos o):=rfl
  go_enter Tryz.func99,Tryz.ntmps99
  go_wp2_with (first|(go_at_call 126;refine (zen _ _ _).mono ?_;rintro e E ⟨rfl,rfl⟩))
  go_ret
  exact⟨zq (by first|(rw[H,D.out];rfl)|rfl),(Below.refl _ _).alloc (Nat.le_refl _) _⟩
def Is2 (y:Except Nat (PS×ByteArray)) (q:PS) (z:Int) (n:ByteArray):Prop:=
 match y with
 | .ok a=>q=a.1∧z= -1∧n=a.2
 | .error e=>z=(e:Int)
theorem Is2.fst {y:Except Nat (PS×ByteArray)} {q:PS} {z:Int} {n:ByteArray} (h:Is2 y q z n):Is (za7 y) q z:=by
 cases y with
 |ok a=>exact⟨h.1,h.2.1⟩
 |error e=>exact h
theorem Is2.bind {y:Except Nat (PS×ByteArray)} {q:PS} {z:Int} {n:ByteArray} (h:Is2 y q z n) {β:Type} (F:PS→ByteArray→Except Nat β):bd (za7 y) (fun q=>F q n)=bd y fun a=>F a.1 a.2:=by
 cases y with
 |ok a=>obtain⟨_,_,rfl⟩:=h;rfl
 |error e=>rfl
def zdN (C:Cx) (gt cap base:Nat) (y:Except Nat (PS×ByteArray)) (d:Nat) (S:Sv) (w:World) (e:Ending) (w':World):Prop:=
 ∃S' q' z' n',e= .returned (.tuple #[pv C gt cap S' q' z' d,.string n'])∧Is2 y q' z' n'∧Mem C gt cap base S' q' w'∧Stp S w S' w'
theorem zeo {C:Cx} {D o j:Nat} {y:Except Nat (PS×ByteArray)} {d:Nat} {S:Sv} {w H:World} {q':PS} {z':Int} {z:ByteArray} {v:Value} (J:v=pv C D o S q' z' d) (K:Is2 y q' z' z) (I:Mem C D o j S q' w) (E:Below w.heap.size w H):zdN C D o j y d S w (.returned (.tuple #[v,.string z])) H:=
 ⟨S,q',z',z,by rw[J],K,I.later E,Stp.below E⟩
theorem zbz (C:Cx) (L H j:Nat) (x:PR) (S:Sv) (q:PS) (z:Int) (d:Nat) (o:Bool) (w:World) (hx:Is x q z) (hm:Mem C L H j S q w):
  Calls Tryz.prog 56 #[pv C L H S q z d,.bool o] w (zdN C L H j (bd x (zk C o)) d S w):=by
 have HM:=zc hm
 have E:=hm.tok
 have J:=hm.few
 have HX:=zc hx
 clear hx hm
 cases I:(decide (z<0)&&plainB C q.pos o) with
 |true=>
  have Q:q.pos<C.ts.length:=by rw[Bool.and_eq_true] at I;exact zed I.2
  have HY:Hid (Is2 (bd x (zk C o)) (adv q) z (zf C q.pos).text):=by
   rw[Bool.and_eq_true,decide_eq_true_eq] at I
   obtain⟨O,Z⟩:=zaF HX.out I.1
   show Is2 (bd x (zk C o)) (adv q) z (zf C q.pos).text
   rw[O,zh,zk,if_pos I.2]
   exact⟨rfl,Z,rfl⟩
  unfold pv
  go_enter Tryz.func56,Tryz.ntmps56
  go_wp2_with fail
  refine (zg5 C L H j S q z d o _ (zv (zv E _) _) J).mono ?_
  rintro e w1 ⟨rfl,K⟩
  rw[I]
  obtain⟨U,M⟩:=zcE K
  obtain⟨a0,a1,a2,a3,a4,a5,a6,a7,a8,a9,N,V,af⟩:=zao U
  obtain⟨b0,b1,b2,b3,b4,b5,b6,b7,b8,b9,ae,ab,bf⟩:=zao M
  have D:=zcn E (zbs K)
  obtain⟨_,c1,_,_⟩:=D.cells Q (d:=⟨0,sNone,0,C.fin⟩)
  change _=some (Value.string (zf C q.pos).text) at c1
  have G2:=zc M
  clear U M I
  go_wp2
  refine bodyPost_ret (zaK rfl _ _ (w.heap.size+1) 55 _ (0,0) _ rfl (zbj ((zx (by omega)).trans G2.out)) Tryz.underlying55 rfl (by kernel_rfl)) rfl ?_
  exact zeo rfl HY.out (HM.out.adv Q) (zbX ((zbs K).setCell (Nat.le_refl _) _) (Nat.le_succ _) ..)
 |false=>
  have HY:Hid (Is2 (bd x (zk C o)) q (zbC C q.pos z) sNone):=by
   show Is2 (bd x (zk C o)) q (zbC C q.pos z) sNone
   unfold zbC
   by_cases Y:z<0
   ·obtain⟨O,Z⟩:=zaF HX.out Y
    simp only[Y,decide_true,Bool.true_and] at I
    rw[O,zh,zk,I,if_pos Y]
    rfl
   ·obtain⟨e,O,Z⟩:=zd2 HX.out Y
    rw[O,zec,if_neg Y]
    exact Z
  unfold pv
  go_enter Tryz.func56,Tryz.ntmps56
  go_wp2_with fail
  refine (zg5 C L H j S q z d o _ (zv (zv E _) _) J).mono ?_
  rintro e w1 ⟨rfl,K⟩
  rw[I]
  obtain⟨U,M⟩:=zcE K
  obtain⟨a0,a1,a2,a3,a4,a5,a6,a7,a8,a9,N,V,af⟩:=zao U
  have G2:=zc M
  have D:=zcn E (zbs K)
  clear U M I
  go_wp2_with fail
  refine (zd0 C L H j S q z d _ D J).mono ?_
  rintro e w2 ⟨rfl,X⟩
  have G3:Hid (_=_):=(X.block _ (Nat.lt_of_lt_of_le (by simp) K.size)).trans G2.out
  obtain⟨c0,c1,c2,c3,c4,c5,c6,c7,c8,c9,ad,ac,cf⟩:=zao G3.out
  have aa:=(zbs K).trans (X.mono (zbs K).size)
  clear a0 a1 a2 a3 a4 a5 a6 a7 a8 a9 N V af
  unfold pv
  go_wp2
  refine bodyPost_ret (zaK rfl _ _ (w.heap.size+1) 55 _ (0,0) _ rfl (zbj G3.out) Tryz.underlying55 rfl (by kernel_rfl)) rfl ?_
  exact zeo rfl HY.out HM.out (zbX aa (Nat.le_succ _) ..)
theorem Tryz.infoImp:(Tryz.prog.info? 75).map (fun i=>(i.zero,i.size,i.bytes))=some (some (.agg #[.string {data:=#[]},.string {data:=#[]},.string {data:=#[]}]),3,48):=by kernel_rfl
theorem Tryz.infoExp:(Tryz.prog.info? 77).map (fun i=>(i.zero,i.size,i.bytes))=some (some (.agg #[.int .i64 0,.string {data:=#[]},.string {data:=#[]},.string {data:=#[]}]),4,56):=by kernel_rfl
theorem Tryz.infoStmt:(Tryz.prog.info? 79).map (fun i=>(i.zero,i.size,i.bytes))=some (some (.agg #[.int .i64 0,.string {data:=#[]},.int .i64 0]),3,32):=by kernel_rfl
theorem Tryz.infoExpr:(Tryz.prog.info? 81).map (fun i=>(i.zero,i.size,i.bytes))=some (some (.agg #[.int .i64 0,.int .i64 0,.string {data:=#[]},.string {data:=#[]},.int .i64 0,.int .i64 0]),6,64):=by kernel_rfl
def imV (x:Im):Value:=.agg #[.string x.spec,.string x.first,.string x.loc]
def epV (x:Ep):Value:=.agg #[.int .i64 x.kind,.string x.name,.string x.loc,.string x.spec]
def exV (x:Ex):Value:=.agg #[.int .i64 x.kind,.int .i64 x.num,.string x.name,.string x.field,.int .i64 x.l,.int .i64 x.r]
theorem zcW (w:World) (a b c:Obj):Below w.heap.size w (((w.alloc a).alloc b).alloc c):=(zcD w a b).alloc (zcD w a b).size c
theorem zg6 (w:World) (a b c d:Obj):Below w.heap.size w ((((w.alloc a).alloc b).alloc c).alloc d):=(zcW w a b c).alloc (zcW w a b c).size d
theorem zcG (w:World) (a b:Obj):((w.alloc a).alloc b).heap.size=w.heap.size+1+1:=by rw[zW,zW]
theorem zad (w:World) (a b c:Obj):(((w.alloc a).alloc b).alloc c).heap.size=w.heap.size+1+1+1:=by rw[zW,zcG]
theorem za9 (w:World) (a b c d:Obj):((((w.alloc a).alloc b).alloc c).alloc d).heap.size=w.heap.size+1+1+1+1:=by rw[zW,zad]
theorem zaY (w:World) (a b c:Obj):(((w.alloc a).alloc b).alloc c).heap[w.heap.size]? =some a∧(((w.alloc a).alloc b).alloc c).heap[w.heap.size+1]? =some b∧(((w.alloc a).alloc b).alloc c).heap[w.heap.size+1+1]? =some c:=by
 refine⟨?_,?_,?_⟩
 ·rw[Below.heap_alloc _ _ _ (by rw[zcG];omega),Below.heap_alloc _ _ _ (by rw[zW];omega)]
  exact heap_alloc_new w a
 ·rw[Below.heap_alloc _ _ _ (by rw[zcG];omega)]
  exact zdz w a b
 ·rw[←zcG w a b]
  exact heap_alloc_new _ c
theorem zce (w:World) (a b c d:Obj):((((w.alloc a).alloc b).alloc c).alloc d).heap[w.heap.size]? =some a∧((((w.alloc a).alloc b).alloc c).alloc d).heap[w.heap.size+1]? =some b∧((((w.alloc a).alloc b).alloc c).alloc d).heap[w.heap.size+1+1]? =some c∧((((w.alloc a).alloc b).alloc c).alloc d).heap[w.heap.size+1+1+1]? =some d:=by
 obtain⟨z,o,j⟩:=zaY w a b c
 refine⟨?_,?_,?_,?_⟩
 ·rw[Below.heap_alloc _ _ _ (by rw[zad];omega)]
  exact z
 ·rw[Below.heap_alloc _ _ _ (by rw[zad];omega)]
  exact o
 ·rw[Below.heap_alloc _ _ _ (by rw[zad];omega)]
  exact j
 ·rw[←zad w a b c]
  exact heap_alloc_new _ d
theorem zhQ {w j:World} {a b c:Obj} (o:Below (((w.alloc a).alloc b).alloc c).heap.size (((w.alloc a).alloc b).alloc c) j):Below w.heap.size w j:=(zcW w a b c).trans (o.mono (zcW w a b c).size)
theorem zg7 {C:Cx} {x:PR} {q:PS} {z:Int} {f:PS→PR} (j:Is x q z) (o:z<0) (D:f q= .error (zu C (q.pos-1))):Is (bd x f) q (zu C (q.pos-1)):=by
 obtain⟨rfl,_⟩:=zaF j o
 rw[zh,D]
 rfl
theorem zg8 {x:PR} {q:PS} {z:Int} {f:PS→PR} (j:Is x q z) (D: ¬z<0):Is (bd x f) q z:=by
 obtain⟨e,rfl,o⟩:=zd2 j D
 exact o
theorem zfE {x:PR} {q q':PS} {z:Int} {f:PS→PR} (j:Is x q z) (D:z<0) (E:f q= .ok q'):Is (bd x f) q' z:=by
 obtain⟨rfl,o⟩:=zaF j D
 rw[zh,E]
 exact⟨rfl,o⟩
theorem zep {w W:World} {j:Nat} {S:Sv} {q:PS} (z:Own w j S q) (_:w.heap.size≤W.heap.size) {r:Option Nat} (o: ∀k,r=some k→S.has k) (b:Nat) (D:w.heap.size≤b):some b≠r:=fun e=>by have:=(z.has (o b e.symm)).2;omega
theorem zcX (C:Cx) (Q o j:Nat) (x:PR) (S:Sv) (q:PS) (z:Int) (d:Nat) (y:Ex) (w:World) (hx:Is x q z) (K:Mem C Q o j S q w) (U:z<0→1≤q.pos):
  Calls Tryz.prog 103 #[pv C Q o S q z d,exV y] w (Out C Q o j (bd x (zJ C y)) d S w):=by
 obtain⟨i0,hi,ab,X,Y⟩:=info_parts Tryz.infoExpr
 have H:=zc K
 have HX:=zc hx
 have ac:q.ex.length≤300:=by have:=K.inv.ex;omega
 clear hx
 by_cases J:z<0
 ·have dz:decide (0≤z)=false:=decide_eq_false (by omega)
  by_cases hn:300≤q.ex.length
  ·have N:Hid (Is (bd x (zJ C y)) q (zu C (q.pos-1))):=zg7 HX.out J (if_pos hn)
   have qn:decide ((300:Int)≤(q.ex.length:Int))=true:=decide_eq_true (by omega)
   have L:=U J
   clear U K
   unfold pv exV
   go_enter Tryz.func103,Tryz.ntmps103
   go_wp2_with fail
   refine (zfD C Q o j S q z d _ (((H.out.alloc _).alloc _).alloc _) J L).mono ?_
   rintro e w2 ⟨rfl,E⟩
   have aa:Below w.heap.size w w2:=zhQ E
   have G3:Hid (_=_):=(E.block (w.heap.size+1+1) (by rw[zad];omega)).trans ((zaY w _ _ _).2.2)
   obtain⟨c0,c1,c2,c3,c4,c5,c6,c7,c8,c9,aj,ae,cf⟩:=zao G3.out
   clear E
   unfold pv
   go_wp2
   refine bodyPost_ret (results_cell_row rfl _ _ (w.heap.size+1+1) 55 _ (0,0) _ rfl (zbj G3.out) Tryz.underlying55 rfl (by kernel_rfl)) rfl ?_
   exact zc5 rfl N.out H.out (zbX aa (by omega) ..)
  ·have qn:decide ((300:Int)≤(q.ex.length:Int))=false:=decide_eq_false (by omega)
   have N:Hid (Is (bd x (zJ C y)) {q with ex:=q.ex++[y]} z):=zfE HX.out J (if_neg hn)
   have D:=fun o1 o2 o3 o4=>((((H.out.own.ex.alloc o1).alloc o2).alloc o3).alloc o4)
   clear U K
   unfold pv exV
   go_enter Tryz.func103,Tryz.ntmps103
   go_wp2_with (at_builtin;refine zcC _ rfl _ _ 30 rfl j 81 i0 _ 6 64 Tryz.underlying30 hi ab X Y rfl (by decide) (by decide) S.ex q.ex.length _ (by rfl) (D ..) (w.heap.size+1+1+1) (exL y) (by rfl) (by first|exact (zce w ..).2.2.2|exact (zaY w _ _ _).2.2) rfl (by intro u hu;simp[exL] at hu;rcases hu with rfl|rfl|rfl|rfl|rfl|rfl<;>rfl) (by omega) (by have:=H.out.base;(first|rw[za9]|rw[zad]);omega) ?_)
   intro r' w2 hr O M
   have HR:=zc hr
   have HG:=zc O
   have Z:=zc M
   have I:=fun b hb=>zep (W:=w) H.out.own (Nat.le_refl _) (r:=S.ex.blk) (fun k e=>.inr (.inr (.inr (.inr (.inl e))))) b hb
   have g1:=(O.block w.heap.size (by (first|rw[za9]|rw[zad]);omega) (I _ (Nat.le_refl _))).trans (by first|exact (zce w ..).1|exact (zaY w _ _ _).1)
   have V:=(O.block (w.heap.size+1+1) (by (first|rw[za9]|rw[zad]);omega) (I _ (by omega))).trans (by first|exact (zce w ..).2.2.1|exact (zaY w _ _ _).2.1)
   obtain⟨a0,a1,a2,a3,a4,a5,a6,a7,a8,a9,ah,ai,af⟩:=zao g1
   obtain⟨b0,b1,b2,b3,b4,b5,b6,b7,b8,b9,ag,ad,bf⟩:=zao V
   have G2:=zc V
   clear g1 V O hr M I D
   go_wp2
   refine bodyPost_ret (results_cell_row rfl _ _ (w.heap.size+1+1) 55 _ (0,0) _ rfl (zbj ((zx (by omega)).trans G2.out)) Tryz.underlying55 rfl (by kernel_rfl)) rfl ?_
   obtain⟨m',s'⟩:=H.out.grow_ex (x:=y) (zg6 w ..) HG.out HR.out (by (first|rw[za9]|rw[zad]);exact Z.out) (((Off.refl _ _ _).set (b:=w.heap.size) (Nat.le_refl _) (by (first|rw[za9]|rw[zad]);omega) _ _).set12 (b:=w.heap.size+1+1) (by omega) (by (first|rw[za9]|rw[zad]);omega) ..) (by omega)
   exact⟨_,{q with ex:=q.ex++[y]},z,by simp[pv],N.out,m',s'⟩
 ·have dz:decide (0≤z)=true:=decide_eq_true (by omega)
  have N:Hid (Is (bd x (zJ C y)) q z):=zg8 HX.out J
  clear U K
  unfold pv exV
  go_enter Tryz.func103,Tryz.ntmps103
  go_wp2
  refine bodyPost_ret (results_cell_row rfl _ _ (w.heap.size+1+1) 55 _ (0,0) _ rfl ((zaY w _ _ _).2.2) Tryz.underlying55 rfl (by kernel_rfl)) rfl ?_
  exact zc5 rfl N.out H.out (zcW w _ _ _)
theorem zhR (C:Cx) (Q o j:Nat) (x:PR) (S:Sv) (q:PS) (z:Int) (d:Nat) (y:Im) (w:World) (hx:Is x q z) (K:Mem C Q o j S q w) (U:z<0→1≤q.pos):
  Calls Tryz.prog 98 #[pv C Q o S q z d,imV y] w (Out C Q o j (bd x (zX C y)) d S w):=by
 obtain⟨i0,hi,ab,X,Y⟩:=info_parts Tryz.infoImp
 have H:=zc K
 have HX:=zc hx
 have ac:q.im.length≤40:=by have:=K.inv.im;omega
 clear hx
 by_cases J:z<0
 ·have dz:decide (0≤z)=false:=decide_eq_false (by omega)
  by_cases hn:40≤q.im.length
  ·have N:Hid (Is (bd x (zX C y)) q (zu C (q.pos-1))):=zg7 HX.out J (if_pos hn)
   have qn:decide ((40:Int)≤(q.im.length:Int))=true:=decide_eq_true (by omega)
   have L:=U J
   clear U K
   unfold pv imV
   go_enter Tryz.func98,Tryz.ntmps98
   go_wp2_with fail
   refine (zfD C Q o j S q z d _ (((H.out.alloc _).alloc _).alloc _) J L).mono ?_
   rintro e w2 ⟨rfl,E⟩
   have aa:Below w.heap.size w w2:=zhQ E
   have G3:Hid (_=_):=(E.block (w.heap.size+1+1) (by rw[zad];omega)).trans ((zaY w _ _ _).2.2)
   obtain⟨c0,c1,c2,c3,c4,c5,c6,c7,c8,c9,aj,ae,cf⟩:=zao G3.out
   clear E
   unfold pv
   go_wp2
   refine bodyPost_ret (results_cell_row rfl _ _ (w.heap.size+1+1) 55 _ (0,0) _ rfl (zbj G3.out) Tryz.underlying55 rfl (by kernel_rfl)) rfl ?_
   exact zc5 rfl N.out H.out (zbX aa (by omega) ..)
  ·have qn:decide ((40:Int)≤(q.im.length:Int))=false:=decide_eq_false (by omega)
   have N:Hid (Is (bd x (zX C y)) {q with im:=q.im++[y]} z):=zfE HX.out J (if_neg hn)
   have D:=fun o1 o2 o3 o4=>((((H.out.own.im.alloc o1).alloc o2).alloc o3).alloc o4)
   clear U K
   unfold pv imV
   go_enter Tryz.func98,Tryz.ntmps98
   go_wp2_with (at_builtin;refine zcC _ rfl _ _ 27 rfl j 75 i0 _ 3 48 Tryz.underlying27 hi ab X Y rfl (by decide) (by decide) S.im q.im.length _ (by rfl) (D ..) (w.heap.size+1+1+1) (imL y) (by rfl) (by first|exact (zce w ..).2.2.2|exact (zaY w _ _ _).2.2) rfl (by intro u hu;simp[imL] at hu;rcases hu with rfl|rfl|rfl<;>rfl) (by omega) (by have:=H.out.base;(first|rw[za9]|rw[zad]);omega) ?_)
   intro r' w2 hr O M
   have HR:=zc hr
   have HG:=zc O
   have Z:=zc M
   have I:=fun b hb=>zep (W:=w) H.out.own (Nat.le_refl _) (r:=S.im.blk) (fun k e=>.inr (.inl e)) b hb
   have g1:=(O.block w.heap.size (by (first|rw[za9]|rw[zad]);omega) (I _ (Nat.le_refl _))).trans (by first|exact (zce w ..).1|exact (zaY w _ _ _).1)
   have V:=(O.block (w.heap.size+1+1) (by (first|rw[za9]|rw[zad]);omega) (I _ (by omega))).trans (by first|exact (zce w ..).2.2.1|exact (zaY w _ _ _).2.1)
   obtain⟨a0,a1,a2,a3,a4,a5,a6,a7,a8,a9,ah,ai,af⟩:=zao g1
   obtain⟨b0,b1,b2,b3,b4,b5,b6,b7,b8,b9,ag,ad,bf⟩:=zao V
   have G2:=zc V
   clear g1 V O hr M I D
   go_wp2
   refine bodyPost_ret (results_cell_row rfl _ _ (w.heap.size+1+1) 55 _ (0,0) _ rfl (zbj ((zx (by omega)).trans G2.out)) Tryz.underlying55 rfl (by kernel_rfl)) rfl ?_
   obtain⟨m',s'⟩:=H.out.grow_im (x:=y) (zg6 w ..) HG.out HR.out (by (first|rw[za9]|rw[zad]);exact Z.out) (((Off.refl _ _ _).set (b:=w.heap.size) (Nat.le_refl _) (by (first|rw[za9]|rw[zad]);omega) _ _).set12 (b:=w.heap.size+1+1) (by omega) (by (first|rw[za9]|rw[zad]);omega) ..) (by omega)
   exact⟨_,{q with im:=q.im++[y]},z,by simp[pv],N.out,m',s'⟩
 ·have dz:decide (0≤z)=true:=decide_eq_true (by omega)
  have N:Hid (Is (bd x (zX C y)) q z):=zg8 HX.out J
  clear U K
  unfold pv imV
  go_enter Tryz.func98,Tryz.ntmps98
  go_wp2
  refine bodyPost_ret (results_cell_row rfl _ _ (w.heap.size+1+1) 55 _ (0,0) _ rfl ((zaY w _ _ _).2.2) Tryz.underlying55 rfl (by kernel_rfl)) rfl ?_
  exact zc5 rfl N.out H.out (zcW w _ _ _)
theorem zeq (C:Cx) (gt J j:Nat) (x:PR) (S:Sv) (q:PS) (z:Int) (d:Nat) (y:Ep) (w:World) (hx:Is x q z) (K:Mem C gt J j S q w) (hp:z<0→1≤q.pos):
  Calls Tryz.prog 100 #[pv C gt J S q z d,epV y] w (Out C gt J j (bd x (zm C y)) d S w):=by
 obtain⟨i0,hi,aa,Y,Z⟩:=info_parts Tryz.infoExp
 have E:=zc K
 have HX:=zc hx
 have ah:q.ep.length≤40:=by have:=K.inv.ep;omega
 have ai:q.la.length≤40:=by have:=K.inv.ep;omega
 clear hx
 by_cases Q:z<0
 ·have dz:decide (0≤z)=false:=decide_eq_false (by omega)
  by_cases hn:40≤q.ep.length+q.la.length
  ·have N:Hid (Is (bd x (zm C y)) q (zu C (q.pos-1))):=zg7 HX.out Q (if_pos hn)
   have qn:decide ((40:Int)≤(q.ep.length:Int)+(q.la.length:Int))=true:=decide_eq_true (by omega)
   have X:=hp Q
   clear hp K
   unfold pv epV
   go_enter Tryz.func100,Tryz.ntmps100
   go_wp2_with fail
   refine (zfD C gt J j S q z d _ (((E.out.alloc _).alloc _).alloc _) Q X).mono ?_
   rintro e w2 ⟨rfl,M⟩
   have ae:Below w.heap.size w w2:=zhQ M
   have G3:Hid (_=_):=(M.block (w.heap.size+1+1) (by rw[zad];omega)).trans ((zaY w _ _ _).2.2)
   obtain⟨c0,c1,c2,c3,c4,c5,c6,c7,c8,c9,ak,aj,cf⟩:=zao G3.out
   clear M
   unfold pv
   go_wp2
   refine bodyPost_ret (results_cell_row rfl _ _ (w.heap.size+1+1) 55 _ (0,0) _ rfl (zbj G3.out) Tryz.underlying55 rfl (by kernel_rfl)) rfl ?_
   exact zc5 rfl N.out E.out (zbX ae (by omega) ..)
  ·have qn:decide ((40:Int)≤(q.ep.length:Int)+(q.la.length:Int))=false:=decide_eq_false (by omega)
   cases hd:(y.loc.toList==[42,100,101,102,97,117,108,116]) with
   |true=>
    have N:Hid (Is (bd x (zm C y)) {q with la:=q.la++[y]} z):=zfE HX.out Q (by rw[zm,if_neg hn,if_pos hd])
    have o:=fun o1 o2 o3 o4=>((((E.out.own.la.alloc o1).alloc o2).alloc o3).alloc o4)
    clear hp K
    unfold pv epV
    go_enter Tryz.func100,Tryz.ntmps100
    go_wp2_with (at_builtin;refine zcC _ rfl _ _ 28 rfl j 77 i0 _ 4 56 Tryz.underlying28 hi aa Y Z rfl (by decide) (by decide) S.la q.la.length _ (by rfl) (o ..) (w.heap.size+1+1+1) (epL y) (by rfl) (by first|exact (zce w ..).2.2.2|exact (zaY w _ _ _).2.2) rfl (by intro u hu;simp[epL] at hu;rcases hu with rfl|rfl|rfl|rfl<;>rfl) (by omega) (by have:=E.out.base;(first|rw[za9]|rw[zad]);omega) ?_)
    intro r' w2 V I H
    have HR:=zc V
    have HG:=zc I
    have O:=zc H
    have D:=fun b hb=>zep (W:=w) E.out.own (Nat.le_refl _) (r:=S.la.blk) (fun k e=>.inr (.inr (.inr (.inr (.inr e))))) b hb
    have U:=(I.block w.heap.size (by (first|rw[za9]|rw[zad]);omega) (D _ (Nat.le_refl _))).trans (by first|exact (zce w ..).1|exact (zaY w _ _ _).1)
    have L:=(I.block (w.heap.size+1+1) (by (first|rw[za9]|rw[zad]);omega) (D _ (by omega))).trans (by first|exact (zce w ..).2.2.1|exact (zaY w _ _ _).2.1)
    obtain⟨a0,a1,a2,a3,a4,a5,a6,a7,a8,a9,ad,ag,af⟩:=zao U
    obtain⟨b0,b1,b2,b3,b4,b5,b6,b7,b8,b9,ac,ab,bf⟩:=zao L
    have G2:=zc L
    clear U L I V H D o
    go_wp2
    refine bodyPost_ret (results_cell_row rfl _ _ (w.heap.size+1+1) 55 _ (0,0) _ rfl (zbj ((zx (by omega)).trans G2.out)) Tryz.underlying55 rfl (by kernel_rfl)) rfl ?_
    obtain⟨m',s'⟩:=E.out.grow_la (x:=y) (zg6 w ..) HG.out HR.out (by (first|rw[za9]|rw[zad]);exact O.out) (((Off.refl _ _ _).set (b:=w.heap.size) (Nat.le_refl _) (by (first|rw[za9]|rw[zad]);omega) _ _).set12 (b:=w.heap.size+1+1) (by omega) (by (first|rw[za9]|rw[zad]);omega) ..) (by omega)
    exact⟨_,{q with la:=q.la++[y]},z,by simp[pv],N.out,m',s'⟩
   |false=>
    have N:Hid (Is (bd x (zm C y)) {q with ep:=q.ep++[y]} z):=zfE HX.out Q (by rw[zm,if_neg hn,hd];rfl)
    have o:=fun o1 o2 o3 o4=>((((E.out.own.ep.alloc o1).alloc o2).alloc o3).alloc o4)
    clear hp K
    unfold pv epV
    go_enter Tryz.func100,Tryz.ntmps100
    go_wp2_with (at_builtin;refine zcC _ rfl _ _ 28 rfl j 77 i0 _ 4 56 Tryz.underlying28 hi aa Y Z rfl (by decide) (by decide) S.ep q.ep.length _ (by rfl) (o ..) (w.heap.size+1+1+1) (epL y) (by rfl) (by first|exact (zce w ..).2.2.2|exact (zaY w _ _ _).2.2) rfl (by intro u hu;simp[epL] at hu;rcases hu with rfl|rfl|rfl|rfl<;>rfl) (by omega) (by have:=E.out.base;(first|rw[za9]|rw[zad]);omega) ?_)
    intro r' w2 V I H
    have HR:=zc V
    have HG:=zc I
    have O:=zc H
    have D:=fun b hb=>zep (W:=w) E.out.own (Nat.le_refl _) (r:=S.ep.blk) (fun k e=>.inr (.inr (.inl e))) b hb
    have U:=(I.block w.heap.size (by (first|rw[za9]|rw[zad]);omega) (D _ (Nat.le_refl _))).trans (by first|exact (zce w ..).1|exact (zaY w _ _ _).1)
    have L:=(I.block (w.heap.size+1+1) (by (first|rw[za9]|rw[zad]);omega) (D _ (by omega))).trans (by first|exact (zce w ..).2.2.1|exact (zaY w _ _ _).2.1)
    obtain⟨a0,a1,a2,a3,a4,a5,a6,a7,a8,a9,ad,ag,af⟩:=zao U
    obtain⟨b0,b1,b2,b3,b4,b5,b6,b7,b8,b9,ac,ab,bf⟩:=zao L
    have G2:=zc L
    clear U L I V H D o
    go_wp2
    refine bodyPost_ret (results_cell_row rfl _ _ (w.heap.size+1+1) 55 _ (0,0) _ rfl (zbj ((zx (by omega)).trans G2.out)) Tryz.underlying55 rfl (by kernel_rfl)) rfl ?_
    obtain⟨m',s'⟩:=E.out.grow_ep (x:=y) (zg6 w ..) HG.out HR.out (by (first|rw[za9]|rw[zad]);exact O.out) (((Off.refl _ _ _).set (b:=w.heap.size) (Nat.le_refl _) (by (first|rw[za9]|rw[zad]);omega) _ _).set12 (b:=w.heap.size+1+1) (by omega) (by (first|rw[za9]|rw[zad]);omega) ..) (by omega)
    exact⟨_,{q with ep:=q.ep++[y]},z,by simp[pv],N.out,m',s'⟩
 ·have dz:decide (0≤z)=true:=decide_eq_true (by omega)
  have N:Hid (Is (bd x (zm C y)) q z):=zg8 HX.out Q
  clear hp K
  unfold pv epV
  go_enter Tryz.func100,Tryz.ntmps100
  go_wp2
  refine bodyPost_ret (results_cell_row rfl _ _ (w.heap.size+1+1) 55 _ (0,0) _ rfl ((zaY w _ _ _).2.2) Tryz.underlying55 rfl (by kernel_rfl)) rfl ?_
  exact zc5 rfl N.out E.out (zcW w _ _ _)
theorem zcY (C:Cx) (Q o j:Nat) (x:PR) (S:Sv) (q:PS) (z:Int) (d:Nat) (k:Int) (nm:ByteArray) (w:World) (hx:Is x q z) (J:Mem C Q o j S q w) (U:z<0→1≤q.pos):
  Calls Tryz.prog 55 #[pv C Q o S q z d,.int .i64 k,.string nm] w (Out C Q o j (bd x (zE C k nm)) d S w):=by
 obtain⟨i0,hi,ab,X,Y⟩:=info_parts Tryz.infoStmt
 have H:=zc J
 have HX:=zc hx
 have ad:q.ex.length≤300:=by have:=J.inv.ex;omega
 have ac:q.st.length≤80:=by have:=J.inv.st;omega
 clear hx
 by_cases K:z<0
 ·have dz:decide (0≤z)=false:=decide_eq_false (by omega)
  by_cases hn:80≤q.st.length
  ·have N:Hid (Is (bd x (zE C k nm)) q (zu C (q.pos-1))):=zg7 HX.out K (if_pos hn)
   have qn:decide ((80:Int)≤(q.st.length:Int))=true:=decide_eq_true (by omega)
   have L:=U K
   clear U J
   unfold pv
   go_enter Tryz.func55,Tryz.ntmps55
   go_wp2_with fail
   refine (zfD C Q o j S q z d _ ((H.out.alloc _).alloc _) K L).mono ?_
   rintro e w2 ⟨rfl,E⟩
   have aa:Below w.heap.size w w2:=zbs E
   have G3:Hid (_=_):=(E.block (w.heap.size+1) (by rw[zcG];omega)).trans (zdz w _ _)
   obtain⟨c0,c1,c2,c3,c4,c5,c6,c7,c8,c9,ak,ag,cf⟩:=zao G3.out
   clear E
   unfold pv
   go_wp2
   refine bodyPost_ret (results_cell_row rfl _ _ (w.heap.size+1) 55 _ (0,0) _ rfl (zbj G3.out) Tryz.underlying55 rfl (by kernel_rfl)) rfl ?_
   exact zc5 rfl N.out H.out (zbX aa (by omega) ..)
  ·have qn:decide ((80:Int)≤(q.st.length:Int))=false:=decide_eq_false (by omega)
   have N:Hid (Is (bd x (zE C k nm)) {q with st:=q.st++[⟨k,nm,(q.ex.length:Int)-1⟩]} z):=zfE HX.out K (if_neg hn)
   have D:=fun o1 o2 o3=>(((H.out.own.st.alloc o1).alloc o2).alloc o3)
   clear U J
   unfold pv
   go_enter Tryz.func55,Tryz.ntmps55
   go_wp2_with (at_builtin;refine zcC _ rfl _ _ 29 rfl j 79 i0 _ 3 32 Tryz.underlying29 hi ab X Y rfl (by decide) (by decide) S.st q.st.length _ (by rfl) (D _ _ _) (w.heap.size+1+1) (smL ⟨k,nm,(q.ex.length:Int)-1⟩) (by rfl) (by first|exact (zce w ..).2.2.2|exact (zaY w _ _ _).2.2) rfl (by intro u hu;simp[smL] at hu;rcases hu with rfl|rfl|rfl<;>rfl) (by omega) (by have:=H.out.base;(first|rw[za9]|rw[zad]);omega) ?_)
   intro r' w2 hr O M
   have HR:=zc hr
   have HG:=zc O
   have Z:=zc M
   have I:=fun b hb=>zep (W:=w) H.out.own (Nat.le_refl _) (r:=S.st.blk) (fun k e=>.inr (.inr (.inr (.inl e)))) b hb
   have g1:=(O.block w.heap.size (by (first|rw[za9]|rw[zad]);omega) (I _ (Nat.le_refl _))).trans (by first|exact (zce w ..).1|exact (zaY w _ _ _).1)
   have V:=(O.block (w.heap.size+1) (by (first|rw[za9]|rw[zad]);omega) (I _ (by omega))).trans (by first|exact (zce w ..).2.2.1|exact (zaY w _ _ _).2.1)
   obtain⟨a0,a1,a2,a3,a4,a5,a6,a7,a8,a9,ai,aj,af⟩:=zao g1
   obtain⟨b0,b1,b2,b3,b4,b5,b6,b7,b8,b9,ah,ae,bf⟩:=zao V
   have G2:=zc V
   clear g1 V O hr M I D
   go_wp2
   refine bodyPost_ret (results_cell_row rfl _ _ (w.heap.size+1) 55 _ (0,0) _ rfl (zbj ((zx (by omega)).trans G2.out)) Tryz.underlying55 rfl (by kernel_rfl)) rfl ?_
   obtain⟨m',s'⟩:=H.out.grow_st (x:=⟨k,nm,(q.ex.length:Int)-1⟩) (zcW w _ _ _) HG.out HR.out (by (first|rw[za9]|rw[zad]);exact Z.out) (((Off.refl _ _ _).set (b:=w.heap.size) (Nat.le_refl _) (by (first|rw[za9]|rw[zad]);omega) _ _).set12 (b:=w.heap.size+1) (by omega) (by (first|rw[za9]|rw[zad]);omega) ..) (by omega)
   exact⟨_,{q with st:=q.st++[⟨k,nm,(q.ex.length:Int)-1⟩]},z,by simp[pv],N.out,m',s'⟩
 ·have dz:decide (0≤z)=true:=decide_eq_true (by omega)
  have N:Hid (Is (bd x (zE C k nm)) q z):=zg8 HX.out K
  clear U J
  unfold pv
  go_enter Tryz.func55,Tryz.ntmps55
  go_wp2
  refine bodyPost_ret (results_cell_row rfl _ _ (w.heap.size+1) 55 _ (0,0) _ rfl (zdz w _ _) Tryz.underlying55 rfl (by kernel_rfl)) rfl ?_
  exact zc5 rfl N.out H.out (zcD w _ _)
theorem OwnR.drew {w:World} {j size n:Nat} {e:TypeId} {r:Rw} {xs:List Value} (h:OwnR w j e size r n xs):OwnR w.drew j e size r n xs:=h
theorem zot (x:Ex): ∀u∈exL x,u.oneCell'=true:=by
 intro u j
 simp[exL] at j
 rcases j with rfl|rfl|rfl|rfl|rfl|rfl<;>rfl
theorem IM.grow_ex {C:Cx} {M J z o:Nat} {S:Sv} {q:PS} {w W E:World} {j:Rw} {x:Ex} (h:IM C M J z o S q w) (V:Below w.heap.size w W) (U:W.grownBy E S.ex.blk) (hr:OwnR E z 81 6 j (q.ex.length+1) (q.ex.flatMap exL++exL x)) (O:j.blk=S.ex.blk∨j.blk=some W.heap.size) (Z:q.ex.length<300):
  IM C M J z o {S with ex:=j} {q with ex:=q.ex++[x]} (E.setCell ⟨o,8,none⟩ (.slice j.a (q.ex.length+1) j.cap))∧IS o S w {S with ex:=j} (E.setCell ⟨o,8,none⟩ (.slice j.a (q.ex.length+1) j.cap)):=by
 obtain⟨K,I⟩:=h.mem.grow_ex (x:=x) V U hr O (Off.refl _ _ _) Z
 have D:=h.free
 have N:=h.lt
 have H: ¬Sv.has {S with ex:=j} o:=fun g=>(I.sub o g).elim D fun g'=>by omega
 have L: ∀k,k≠o→(E.setCell ⟨o,8,none⟩ (.slice j.a (q.ex.length+1) j.cap)).heap[k]? =E.heap[k]?:=fun k L=>Below.heap_setCell E ⟨o,8,none⟩ _ k L
 have Q:(E.setCell ⟨o,8,none⟩ (.slice j.a (q.ex.length+1) j.cap)).heap.size=E.heap.size:=by show (E.heap.modify _ _).size=_;simp
 have hc:=(I.block o N D).trans h.cells
 refine⟨⟨⟨K.own.keep fun k g=>L k fun e=>H (by rw[←e];exact g),K.inv,zbJ K.tok (L M h.ne.symm),K.few,by rw[Q];exact K.base⟩,?_,h.ge⟩,?_⟩
 ·rw[zbf hc]
  simp
 ·exact (show IS o S w {S with ex:=j} E from⟨I.os,I.tape,I.output,I.size,fun k Y X _=>I.block k Y X,I.sub⟩).set _ _
theorem zou (C:Cx) (Y J j o:Nat) (S:Sv) (q:PS) (x:Ex) (w:World) (h:IM C Y J j o S q w) (hn:q.ex.length<300):
  Calls Tryz.prog 143 #[.pointer (some ⟨o,0,none⟩),exV x] w fun e w'=>e= .returned (.int .i64 q.ex.length)∧∃X,IM C Y J j o X {q with ex:=q.ex++[x]} w'∧IS o S w X w':=by
 obtain⟨i0,hi,V,N,O⟩:=info_parts Tryz.infoExpr
 have L:=zc h
 have aa:=h.lt
 obtain⟨c0,c1,c2,c3,c4,c5,c6,c7,c8,c9,cf⟩:=zag h.cells
 have H:=fun D z=>((L.out.mem.own.ex.alloc D).drew.alloc z)
 have ab:=h.mem.base
 have K:some o≠S.ex.blk:=fun e=>L.out.free (.inr (.inr (.inr (.inr (.inl e.symm)))))
 have HN:=zc K
 have Q: ∀D z,j≤((w.alloc D).alloc z).heap.size:=fun D z=>by rw[zcG];omega
 have M: ∀D z,o<((w.alloc D).alloc z).heap.size:=fun D z=>by rw[zcG];omega
 clear h K
 unfold exV
 go_enter Tryz.func143,Tryz.ntmps143
 go_wp2_with fail
 refine (zem o q.ex.length 300 _ (by omega)).mono ?_
 rintro e w1 ⟨rfl,rfl⟩
 go_wp2_with fail
 go_region_law (first|(refine zfC rfl (.tmp 18) (.tmp 20) 30 rfl j 81 i0 _ 6 64 Tryz.underlying30 hi V N O rfl (by decide) (by decide) S.ex q.ex.length (q.ex.flatMap exL) (by rfl) (by exact H _ _) (w.heap.size+1) (exL x) (by rfl) (by exact zdz w _ _) rfl (zot x) (by omega) (by exact Q _ _) ?_;intro r' w2 Z E I;have g2:=(E.block o (by exact M _ _) HN.out).trans (by exact ((L.out.alloc _).alloc _).cells);obtain⟨d0,d1,d2,d3,d4,d5,d6,d7,d8,d9,df⟩:=zag g2))
 all_goals
  have HR:=zc Z
  have HG:=zc E
  have U:=zc I
  clear Z E I g2 c0 c1 c2 c3 c4 c5 c6 c7 c8 c9 cf
  go_wp2
  go_ret
  obtain⟨m',s'⟩:=L.out.grow_ex (zcD w _ _).drew HG.out HR.out U.out hn
  exact⟨zeE (by omega),_,m',s'⟩
theorem zjQ (x:Im): ∀u∈imL x,u.oneCell'=true:=by
 intro u j
 simp[imL] at j
 rcases j with rfl|rfl|rfl<;>rfl
theorem IM.grow_rq {C:Cx} {M J z o:Nat} {S:Sv} {q:PS} {w W E:World} {j:Rw} {x:ByteArray} (h:IM C M J z o S q w) (V:Below w.heap.size w W) (U:W.grownBy E S.rq.blk) (hr:OwnR E z 9 1 j (q.rq.length+1) (q.rq.map .string++[.string x])) (O:j.blk=S.rq.blk∨j.blk=some W.heap.size) (Z:q.rq.length<40):
  IM C M J z o {S with rq:=j} {q with rq:=q.rq++[x]} (E.setCell ⟨o,4,none⟩ (.slice j.a (q.rq.length+1) j.cap))∧IS o S w {S with rq:=j} (E.setCell ⟨o,4,none⟩ (.slice j.a (q.rq.length+1) j.cap)):=by
 obtain⟨K,I⟩:=h.mem.grow_rq (x:=x) V U hr O (Off.refl _ _ _) Z
 have D:=h.free
 have N:=h.lt
 have H: ¬Sv.has {S with rq:=j} o:=fun g=>(I.sub o g).elim D fun g'=>by omega
 have L: ∀k,k≠o→(E.setCell ⟨o,4,none⟩ (.slice j.a (q.rq.length+1) j.cap)).heap[k]? =E.heap[k]?:=fun k L=>Below.heap_setCell E ⟨o,4,none⟩ _ k L
 have Q:(E.setCell ⟨o,4,none⟩ (.slice j.a (q.rq.length+1) j.cap)).heap.size=E.heap.size:=by show (E.heap.modify _ _).size=_;simp
 have hc:=(I.block o N D).trans h.cells
 refine⟨⟨⟨K.own.keep fun k g=>L k fun e=>H (by rw[←e];exact g),K.inv,zbJ K.tok (L M h.ne.symm),K.few,by rw[Q];exact K.base⟩,?_,h.ge⟩,?_⟩
 ·rw[zbf hc]
  simp
 ·exact (show IS o S w {S with rq:=j} E from⟨I.os,I.tape,I.output,I.size,fun k Y X _=>I.block k Y X,I.sub⟩).set _ _
theorem IM.grow_im {C:Cx} {M J z o:Nat} {S:Sv} {q:PS} {w W E:World} {j:Rw} {x:Im} (h:IM C M J z o S q w) (V:Below w.heap.size w W) (U:W.grownBy E S.im.blk) (hr:OwnR E z 75 3 j (q.im.length+1) (q.im.flatMap imL++imL x)) (O:j.blk=S.im.blk∨j.blk=some W.heap.size) (Z:q.im.length<40):
  IM C M J z o {S with im:=j} {q with im:=q.im++[x]} (E.setCell ⟨o,5,none⟩ (.slice j.a (q.im.length+1) j.cap))∧IS o S w {S with im:=j} (E.setCell ⟨o,5,none⟩ (.slice j.a (q.im.length+1) j.cap)):=by
 obtain⟨K,I⟩:=h.mem.grow_im (x:=x) V U hr O (Off.refl _ _ _) Z
 have D:=h.free
 have N:=h.lt
 have H: ¬Sv.has {S with im:=j} o:=fun g=>(I.sub o g).elim D fun g'=>by omega
 have L: ∀k,k≠o→(E.setCell ⟨o,5,none⟩ (.slice j.a (q.im.length+1) j.cap)).heap[k]? =E.heap[k]?:=fun k L=>Below.heap_setCell E ⟨o,5,none⟩ _ k L
 have Q:(E.setCell ⟨o,5,none⟩ (.slice j.a (q.im.length+1) j.cap)).heap.size=E.heap.size:=by show (E.heap.modify _ _).size=_;simp
 have hc:=(I.block o N D).trans h.cells
 refine⟨⟨⟨K.own.keep fun k g=>L k fun e=>H (by rw[←e];exact g),K.inv,zbJ K.tok (L M h.ne.symm),K.few,by rw[Q];exact K.base⟩,?_,h.ge⟩,?_⟩
 ·rw[zbf hc]
  simp
 ·exact (show IS o S w {S with im:=j} E from⟨I.os,I.tape,I.output,I.size,fun k Y X _=>I.block k Y X,I.sub⟩).set _ _
theorem IM.grow_ep {C:Cx} {M J z o:Nat} {S:Sv} {q:PS} {w W E:World} {j:Rw} {x:Ep} (h:IM C M J z o S q w) (V:Below w.heap.size w W) (U:W.grownBy E S.ep.blk) (hr:OwnR E z 77 4 j (q.ep.length+1) (q.ep.flatMap epL++epL x)) (O:j.blk=S.ep.blk∨j.blk=some W.heap.size) (Z:q.ep.length+q.la.length<40):
  IM C M J z o {S with ep:=j} {q with ep:=q.ep++[x]} (E.setCell ⟨o,6,none⟩ (.slice j.a (q.ep.length+1) j.cap))∧IS o S w {S with ep:=j} (E.setCell ⟨o,6,none⟩ (.slice j.a (q.ep.length+1) j.cap)):=by
 obtain⟨K,I⟩:=h.mem.grow_ep (x:=x) V U hr O (Off.refl _ _ _) Z
 have D:=h.free
 have N:=h.lt
 have H: ¬Sv.has {S with ep:=j} o:=fun g=>(I.sub o g).elim D fun g'=>by omega
 have L: ∀k,k≠o→(E.setCell ⟨o,6,none⟩ (.slice j.a (q.ep.length+1) j.cap)).heap[k]? =E.heap[k]?:=fun k L=>Below.heap_setCell E ⟨o,6,none⟩ _ k L
 have Q:(E.setCell ⟨o,6,none⟩ (.slice j.a (q.ep.length+1) j.cap)).heap.size=E.heap.size:=by show (E.heap.modify _ _).size=_;simp
 have hc:=(I.block o N D).trans h.cells
 refine⟨⟨⟨K.own.keep fun k g=>L k fun e=>H (by rw[←e];exact g),K.inv,zbJ K.tok (L M h.ne.symm),K.few,by rw[Q];exact K.base⟩,?_,h.ge⟩,?_⟩
 ·rw[zbf hc]
  simp
 ·exact (show IS o S w {S with ep:=j} E from⟨I.os,I.tape,I.output,I.size,fun k Y X _=>I.block k Y X,I.sub⟩).set _ _
theorem IM.grow_st {C:Cx} {M J z o:Nat} {S:Sv} {q:PS} {w W E:World} {j:Rw} {x:Sm} (h:IM C M J z o S q w) (V:Below w.heap.size w W) (U:W.grownBy E S.st.blk) (hr:OwnR E z 79 3 j (q.st.length+1) (q.st.flatMap smL++smL x)) (O:j.blk=S.st.blk∨j.blk=some W.heap.size) (Z:q.st.length<80):
  IM C M J z o {S with st:=j} {q with st:=q.st++[x]} (E.setCell ⟨o,7,none⟩ (.slice j.a (q.st.length+1) j.cap))∧IS o S w {S with st:=j} (E.setCell ⟨o,7,none⟩ (.slice j.a (q.st.length+1) j.cap)):=by
 obtain⟨K,I⟩:=h.mem.grow_st (x:=x) V U hr O (Off.refl _ _ _) Z
 have D:=h.free
 have N:=h.lt
 have H: ¬Sv.has {S with st:=j} o:=fun g=>(I.sub o g).elim D fun g'=>by omega
 have L: ∀k,k≠o→(E.setCell ⟨o,7,none⟩ (.slice j.a (q.st.length+1) j.cap)).heap[k]? =E.heap[k]?:=fun k L=>Below.heap_setCell E ⟨o,7,none⟩ _ k L
 have Q:(E.setCell ⟨o,7,none⟩ (.slice j.a (q.st.length+1) j.cap)).heap.size=E.heap.size:=by show (E.heap.modify _ _).size=_;simp
 have hc:=(I.block o N D).trans h.cells
 refine⟨⟨⟨K.own.keep fun k g=>L k fun e=>H (by rw[←e];exact g),K.inv,zbJ K.tok (L M h.ne.symm),K.few,by rw[Q];exact K.base⟩,?_,h.ge⟩,?_⟩
 ·rw[zbf hc]
  simp
 ·exact (show IS o S w {S with st:=j} E from⟨I.os,I.tape,I.output,I.size,fun k Y X _=>I.block k Y X,I.sub⟩).set _ _
theorem IM.grow_la {C:Cx} {M J z o:Nat} {S:Sv} {q:PS} {w W E:World} {j:Rw} {x:Ep} (h:IM C M J z o S q w) (V:Below w.heap.size w W) (U:W.grownBy E S.la.blk) (hr:OwnR E z 77 4 j (q.la.length+1) (q.la.flatMap epL++epL x)) (O:j.blk=S.la.blk∨j.blk=some W.heap.size) (Z:q.ep.length+q.la.length<40):
  IM C M J z o {S with la:=j} {q with la:=q.la++[x]} (E.setCell ⟨o,9,none⟩ (.slice j.a (q.la.length+1) j.cap))∧IS o S w {S with la:=j} (E.setCell ⟨o,9,none⟩ (.slice j.a (q.la.length+1) j.cap)):=by
 obtain⟨K,I⟩:=h.mem.grow_la (x:=x) V U hr O (Off.refl _ _ _) Z
 have D:=h.free
 have N:=h.lt
 have H: ¬Sv.has {S with la:=j} o:=fun g=>(I.sub o g).elim D fun g'=>by omega
 have L: ∀k,k≠o→(E.setCell ⟨o,9,none⟩ (.slice j.a (q.la.length+1) j.cap)).heap[k]? =E.heap[k]?:=fun k L=>Below.heap_setCell E ⟨o,9,none⟩ _ k L
 have Q:(E.setCell ⟨o,9,none⟩ (.slice j.a (q.la.length+1) j.cap)).heap.size=E.heap.size:=by show (E.heap.modify _ _).size=_;simp
 have hc:=(I.block o N D).trans h.cells
 refine⟨⟨⟨K.own.keep fun k g=>L k fun e=>H (by rw[←e];exact g),K.inv,zbJ K.tok (L M h.ne.symm),K.few,by rw[Q];exact K.base⟩,?_,h.ge⟩,?_⟩
 ·rw[zbf hc]
  simp
 ·exact (show IS o S w {S with la:=j} E from⟨I.os,I.tape,I.output,I.size,fun k Y X _=>I.block k Y X,I.sub⟩).set _ _
theorem zov (C:Cx) (Y J j o:Nat) (S:Sv) (q:PS) (x:Im) (w:World) (h:IM C Y J j o S q w) (hn:q.im.length<40):
  Calls Tryz.prog 137 #[.pointer (some ⟨o,0,none⟩),imV x] w fun e w'=>e= .returned (.tuple #[])∧∃X,IM C Y J j o X {q with im:=q.im++[x]} w'∧IS o S w X w':=by
 obtain⟨i0,hi,V,N,O⟩:=info_parts Tryz.infoImp
 have L:=zc h
 have aa:=h.lt
 obtain⟨c0,c1,c2,c3,c4,c5,c6,c7,c8,c9,cf⟩:=zag h.cells
 have H:=fun D z=>((L.out.mem.own.im.alloc D).drew.alloc z)
 have ab:=h.mem.base
 have K:some o≠S.im.blk:=fun e=>L.out.free (.inr (.inl e.symm))
 have HN:=zc K
 have Q: ∀D z,j≤((w.alloc D).alloc z).heap.size:=fun D z=>by rw[zcG];omega
 have M: ∀D z,o<((w.alloc D).alloc z).heap.size:=fun D z=>by rw[zcG];omega
 clear h K
 unfold imV
 go_enter Tryz.func137,Tryz.ntmps137
 go_wp2_with fail
 refine (zem o q.im.length 40 _ (by omega)).mono ?_
 rintro e w1 ⟨rfl,rfl⟩
 go_wp2_with fail
 go_region_law (first|(refine zfC rfl (.tmp 17) (.tmp 19) 27 rfl j 75 i0 _ 3 48 Tryz.underlying27 hi V N O rfl (by decide) (by decide) S.im q.im.length (q.im.flatMap imL) (by rfl) (by exact H _ _) (w.heap.size+1) (imL x) (by rfl) (by exact zdz w _ _) rfl (zjQ x) (by omega) (by exact Q _ _) ?_;intro r' w2 Z E I;have g2:=(E.block o (by exact M _ _) HN.out).trans (by exact ((L.out.alloc _).alloc _).cells);obtain⟨d0,d1,d2,d3,d4,d5,d6,d7,d8,d9,df⟩:=zag g2))
 all_goals
  have HR:=zc Z
  have HG:=zc E
  have U:=zc I
  clear Z E I g2 c0 c1 c2 c3 c4 c5 c6 c7 c8 c9 cf
  go_wp2
  go_end0
  obtain⟨m',s'⟩:=L.out.grow_im (zcD w _ _).drew HG.out HR.out U.out hn
  exact⟨rfl,_,m',s'⟩
end Go.Proofs.YthfeoomfiafldaaGreat
