/-
  What passSigns of impl's parser answers: the walk.
  'append' of one element onto a row of the call's own,as one step of a region that draws its order. No program is spoken of.
  What spec's readers of one token answer: l4Full,l4Sign,l4Word,l4Reserved,l4Plain,l4Name: the walks.
  What spec's l4Plain and l4Name answer: the walks.
  What spec's l4Add,l4Imp,l4Stmt and l4Exp answer: the walks.
  What addExpr of impl's parser answers where there is room: the walk.
  A row of impl's parser grows by one element; what addImp answers where there is room: the walk.
-/
import Derived.Test.YticdggnnpjachaaGreatCbImplParseCToImplParseD
namespace Go.Proofs.YticdggnnpjachaaGreat
set_option maxRecDepth 100000
set_option maxHeartbeats 3200000
open Go.RowKit Go.PlainAid Go.Sort
def zaB (C:Cx) (s:ByteArray):Nat→Nat→PS→PR
 |0,_,q=>.ok q
 |n+1,k,q=>bd (zd C 4 (s.extract k (k+1)) q) (zaB C s n (k+1))
theorem zgy {C:Cx} {k:Int} {x:ByteArray} {q:PS} (h:isT C q.pos k x=false):zd C k x q= .error (zr C q.pos):=by rw[zd,h];rfl
theorem zbG {C:Cx} {k:Int} {x:ByteArray} {q:PS} (h:isT C q.pos k x=true):zd C k x q= .ok (adv q):=if_pos h
theorem zgz (C:Cx) (I o n D:Nat) (S:Sv) (q:PS) (s:ByteArray) (w:World) (h:IM C I o n D S q w) (hs:s.size≤100):
  Calls Tryz.prog 153 #[.pointer (some ⟨D,0,none⟩),.string s] w (zQ C I o n D (zaB C s s.size 0 q) id (fun _=>.tuple #[]) S w):=by
 have M:=zc h
 clear h
 go_enter Tryz.func153,Tryz.ntmps153
 go_wp2
 go_loopg [7] s.size (fun k i wr=>∃(j:Nat) (A:PS),i= .int .i64 j∧j+k=s.size∧zaB C s k j A=zaB C s s.size 0 q∧IM C I o n D S A wr∧IS D S w S wr)
 case atStart=>exact⟨0,q,rfl,by omega,rfl,M.out,IS.refl _ _ _⟩
 case round=>
  obtain⟨j,A,rfl,Y,he,m,t⟩:=hrel
  have J:=zc he
  have HM:=zc m
  have HS:=zc t
  clear he m t
  match gk,Y,J with
  |0,Y,J=>
   have Z: ¬j<s.size:=by omega
   go_wp2
   go_end0
   rw[←J.out]
   exact⟨rfl,S,HM.out,HS.out⟩
  |k+1,Y,J=>
   have Z:j<s.size:=by omega
   obtain⟨z,L⟩: ∃z,z=j+1:=⟨_,rfl⟩
   have ej:(j:Int)+1=(z:Int):=by omega
   have ab:z≤s.size:=by omega
   have aa:j≤z:=by omega
   have Q:=zc L
   clear L
   cases N:isT C A.pos 4 (s.extract j z) with
   |true=>
    have HX:Hid (zaB C s k z (adv A)=zaB C s s.size 0 q):=by
     show _=_
     rw[←J.out,zaB,←Q.out,zbG N]
     rfl
    go_wp2_with fail
    refine (zK C I o n D S A 4 (s.extract j z) _ HM.out (by decide)).mono ?_
    rintro e U ⟨rfl,H,K⟩
    rw[N] at H ⊢
    have E:=zc H
    have O:Hid (IS D S w S U):=HS.out.trans K
    clear H K
    go_wp2
    go_roundg k
    case rel=>exact⟨z,adv A,rfl,by have:=Q.out;omega,HX.out,E.out,O.out⟩
    case measure=>omega
   |false=>
    have HX:Hid (zaB C s s.size 0 q= .error (zr C A.pos)):=by
     show _=_
     rw[←J.out,zaB,←Q.out,zgy N]
     rfl
    go_wp2_with fail
    refine (zK C I o n D S A 4 (s.extract j z) _ HM.out (by decide)).mono ?_
    rintro e U ⟨rfl,H,K⟩
    rw[N] at H ⊢
    have E:=zc H
    have HB:Hid (Below n w U):=(HS.out.trans K).under M.out.mem.base M.out.mem.own M.out.ge
    clear H K
    go_wp2_with fail
    refine (zdZ C I o n D S A _ E.out).mono ?_
    rintro e w2 ⟨rfl,X⟩
    have V:Hid (Below n w w2):=HB.out.trans (X.mono E.out.mem.base)
    unfold Pan
    go_wp2
    refine⟨rfl,?_⟩
    rw[HX.out]
    exact⟨rfl,V.out⟩
theorem zcI {P:Program} {M:Array Oper} {o:Oper} {a:Act} {W:World} {K:Act→World→Prop} {Q:Exit→Act→World→Prop} {E:Prop} (Z:o.guard=none) (s x:Operand) (t:TypeId)
  (ho:o.op= .call {callee:=.builtin .append,args:=#[s,x],argTypes:=#[t,t]})
  (D:Nat) (e:TypeId) (i:TypeInfo) (z:Value) (size q:Nat) (ht:P.underlying t=some (.slice e)) (hi:P.info? e=some i) (hz:i.zero=some z) (I:i.size=size) (Y:i.bytes=q) (ab:z.cells.size=size) (aa:0<size) (O:q≤100)
  (r:Rw) (n:Nat) (xs:List Value) (hs:a.eval s= .slice r.a n r.cap) (N:OwnR W D e size r n xs)
  (L:Nat) (A:List Value) (hx:a.eval x= .slice (some ⟨L,0,none⟩) 1 1) (hg:W.heap[L]? =some (.cells A.toArray e (0,0))) (hl:A.length=size) (h1: ∀u∈A,u.oneCell'=true) (hn:n+1≤1000000) (J:D≤W.heap.size)
  (h: ∀U V,OwnR V D e size U (n+1) (xs++A)→W.grownBy V r.blk→(U.blk=r.blk∨U.blk=some W.heap.size)→K (a.put o.dst (.slice U.a (n+1) U.cap)) V):
  if Region.wanted o (yielded M a.tmps)=true then Oper.wp P o a W K Q else E:=by
 have hw:Region.wanted o (yielded M a.tmps)=true:=by simp[Region.wanted,Z]
 rw[if_pos hw]
 obtain⟨v',V,hr,h2,h3,_,h5⟩:=run_append_own_at (P:=P) W D t o.type e i z size q ht hi hz I Y ab aa _ n xs N ⟨L,0,none⟩ 1 1 A (by omega) (by
  intro j u hj
  have e1:(⟨L,0,none⟩:Addr).add j=⟨L,j,none⟩:=by simp[Addr.add];exact fun h=>h.symm
  rw[e1]
  simp[World.cell?,hg,hj]) h1 (by unfold maxLen;omega) (by have:(n+1)*q≤1000000*100:=Nat.mul_le_mul hn O;omega) J
 unfold Oper.wp execOp
 simp only[ho,resolve,invoke,builtin,Sem.run_bind,Sem.run_pure,Result.andThen_ok,List.map_toArray,List.map_cons,List.map_nil,hs,hx,hr]
 rcases h2.2 with ⟨hv,ac⟩|⟨g',H,ad,rfl,X⟩
 ·omega
 ·refine h ⟨some ⟨g',0,none⟩,H⟩ V h2 ?_ ?_
  ·rw[←zbo r n];exact h3
  ·rw[←zbo r n,←zbo ⟨some ⟨g',0,none⟩,H⟩ (n+1)];exact h5
def Is (x:PR) (q:PS) (z:Int):Prop:=
 match x with
 | .ok q0=>q=q0∧z= -1
 | .error e=>z=(e:Int)
theorem zX (q:PS):Is (.ok q) q (-1):=⟨rfl,rfl⟩
theorem zaC {x:PR} {q:PS} {z:Int} (h:Is x q z) (n:z<0):x= .ok q∧z= -1:=by
 cases x with
 |ok j=>obtain⟨rfl,rfl⟩:=h;exact⟨rfl,rfl⟩
 |error e=>have:z=(e:Int):=h;omega
theorem zdc {x:PR} {q:PS} {z:Int} (h:Is x q z) (j: ¬z<0): ∃e,x= .error e∧z=(e:Int):=by
 cases x with
 |ok n=>obtain⟨rfl,rfl⟩:=h;exact absurd (by decide) j
 |error e=>exact⟨e,rfl,h⟩
def Out (C:Cx) (gt cap base:Nat) (y:PR) (d:Nat) (S:Sv) (w:World) (e:Ending) (w':World):Prop:=
 ∃S' q' z',e= .returned (pv C gt cap S' q' z' d)∧Is y q' z'∧Mem C gt cap base S' q' w'∧Stp S w S' w'
theorem zcl {C:Cx} {o n j:Nat} {y:PR} {d:Nat} {S:Sv} {w q:World} {q':PS} {z':Int} {v:Value} (E:v=pv C o n S q' z' d) (A:Is y q' z') (D:Mem C o n j S q' w) (z:Below w.heap.size w q):Out C o n j y d S w (.returned v) q:=
 ⟨S,q',z',by rw[E],A,D.later z,Stp.below z⟩
theorem zeG (C:Cx) (A j n:Nat) (S:Sv) (q:PS) (z:Int) (d:Nat) (w:World) (o:Mem C A j n S q w) (M:z<0) (N:1≤q.pos):
  Calls Tryz.prog 138 #[pv C A j S q z d] w fun e L=>e= .returned (pv C A j S q (zr C (q.pos-1)) d)∧Below w.heap.size w L:=by
 obtain⟨p,E⟩: ∃p,q.pos=p+1:=⟨q.pos-1,by omega⟩
 have D:p<C.ts.length:=by have:=o.inv.pos;omega
 have I:=o.few
 obtain⟨_,_,_,J⟩:=o.tok.cells D (d:=⟨0,sNone,0,C.fin⟩)
 have H:=(zan o.tok).1
 change _=some (Value.int .i64 (zr C p)) at J
 rw[show q.pos-1=p from by omega]
 have K:(q.pos:Int)-1=p:=by omega
 clear E
 unfold pv
 go_enter Tryz.func138,Tryz.ntmps138
 go_wp2
 refine bodyPost_ret (results_cell_row rfl _ _ (w.heap.size+1) 53 _ (0,0) _ rfl (zbq w _ _) Tryz.underlying53 rfl (by kernel_rfl)) rfl ?_
 exact⟨rfl,zaT w _ _⟩
theorem zad (C:Cx) (J n j:Nat) (x:PR) (S:Sv) (q:PS) (z:Int) (d:Nat) (s:ByteArray) (w:World) (hx:Is x q z) (X:Mem C J n j S q w):
  Calls Tryz.prog 74 #[pv C J n S q z d,.string s] w (Out C J n j (bd x (zd C 4 s)) d S w):=by
 have HM:=zc X
 have D:=X.tok
 have A:=X.few
 have HX:=zc hx
 clear hx X
 cases o:(decide (z<0)&&isT C q.pos 4 s) with
 |true=>
  have ab:q.pos<C.ts.length:=by rw[Bool.and_eq_true] at o;exact za1 o.2 (by decide)
  have Z:Hid (Is (bd x (zd C 4 s)) (adv q) z):=by
   rw[Bool.and_eq_true,decide_eq_true_eq] at o
   obtain⟨Q,Y⟩:=zaC HX.out o.1
   show Is (bd x (zd C 4 s)) (adv q) z
   rw[Q,zz,zd,if_pos o.2]
   exact⟨rfl,Y⟩
  unfold pv
  go_enter Tryz.func74,Tryz.ntmps74
  go_wp2_with fail
  refine (zh C J n j S q z d 4 s _ (zq (zq D _) _) A (by decide)).mono ?_
  rintro e w1 ⟨rfl,E⟩
  rw[o]
  obtain⟨L,I⟩:=zcz E
  obtain⟨a0,a1,a2,a3,a4,a5,a6,a7,a8,a9,U,V,af⟩:=zaj L
  obtain⟨b0,b1,b2,b3,b4,b5,b6,b7,b8,b9,M,K,bf⟩:=zaj I
  have G2:=zc I
  clear L I o
  go_wp2
  refine bodyPost_ret (results_cell_row rfl _ _ (w.heap.size+1) 53 _ (0,0) _ rfl (zaS ((zi (by omega)).trans G2.out)) Tryz.underlying53 rfl (by kernel_rfl)) rfl ?_
  exact zcl rfl Z.out (HM.out.adv ab) (zbD ((zaZ E).setCell (Nat.le_refl _) _) (Nat.le_succ _) ..)
 |false=>
  have Z:Hid (Is (bd x (zd C 4 s)) q (zbp C q.pos z)):=by
   show Is (bd x (zd C 4 s)) q (zbp C q.pos z)
   unfold zbp
   by_cases O:z<0
   ·obtain⟨Q,Y⟩:=zaC HX.out O
    simp only[O,decide_true,Bool.true_and] at o
    rw[Q,zz,zd,o,if_pos O]
    rfl
   ·obtain⟨e,Q,Y⟩:=zdc HX.out O
    rw[Q,zdU,if_neg O]
    exact Y
  unfold pv
  go_enter Tryz.func74,Tryz.ntmps74
  go_wp2_with fail
  refine (zh C J n j S q z d 4 s _ (zq (zq D _) _) A (by decide)).mono ?_
  rintro e w1 ⟨rfl,E⟩
  rw[o]
  obtain⟨L,I⟩:=zcz E
  obtain⟨a0,a1,a2,a3,a4,a5,a6,a7,a8,a9,U,V,af⟩:=zaj L
  obtain⟨b0,b1,b2,b3,b4,b5,b6,b7,b8,b9,M,K,bf⟩:=zaj I
  have G2:=zc I
  have H:=zbV D (zaZ E)
  clear L I o
  go_wp2_with fail
  refine (zda C J n j S q z d _ H A).mono ?_
  rintro e w2 ⟨rfl,N⟩
  have G3:Hid (_=_):=(N.block _ (Nat.lt_of_lt_of_le (by simp) E.size)).trans G2.out
  obtain⟨c0,c1,c2,c3,c4,c5,c6,c7,c8,c9,ac,ad,cf⟩:=zaj G3.out
  have aa:=(zaZ E).trans (N.mono (zaZ E).size)
  clear a0 a1 a2 a3 a4 a5 a6 a7 a8 a9 U V b0 b1 b2 b3 b4 b5 b6 b7 b8 b9 M K af bf
  unfold pv
  go_wp2
  refine bodyPost_ret (results_cell_row rfl _ _ (w.heap.size+1) 53 _ (0,0) _ rfl (zaS G3.out) Tryz.underlying53 rfl (by kernel_rfl)) rfl ?_
  exact zcl rfl Z.out HM.out (zbD aa (Nat.le_succ _) ..)
-- GEN
theorem zaH (C:Cx) (J n j:Nat) (x:PR) (S:Sv) (q:PS) (z:Int) (d:Nat) (s:ByteArray) (w:World) (hx:Is x q z) (X:Mem C J n j S q w):
  Calls Tryz.prog 76 #[pv C J n S q z d,.string s] w (Out C J n j (bd x (zd C 1 s)) d S w):=by
 have HM:=zc X
 have D:=X.tok
 have A:=X.few
 have HX:=zc hx
 clear hx X
 cases o:(decide (z<0)&&isT C q.pos 1 s) with
 |true=>
  have ab:q.pos<C.ts.length:=by rw[Bool.and_eq_true] at o;exact za1 o.2 (by decide)
  have Z:Hid (Is (bd x (zd C 1 s)) (adv q) z):=by
   rw[Bool.and_eq_true,decide_eq_true_eq] at o
   obtain⟨Q,Y⟩:=zaC HX.out o.1
   show Is (bd x (zd C 1 s)) (adv q) z
   rw[Q,zz,zd,if_pos o.2]
   exact⟨rfl,Y⟩
  unfold pv
  go_enter Tryz.func76,Tryz.ntmps76
  go_wp2_with fail
  refine (zh C J n j S q z d 1 s _ (zq (zq D _) _) A (by decide)).mono ?_
  rintro e w1 ⟨rfl,E⟩
  rw[o]
  obtain⟨L,I⟩:=zcz E
  obtain⟨a0,a1,a2,a3,a4,a5,a6,a7,a8,a9,U,V,af⟩:=zaj L
  obtain⟨b0,b1,b2,b3,b4,b5,b6,b7,b8,b9,M,K,bf⟩:=zaj I
  have G2:=zc I
  clear L I o
  go_wp2
  refine bodyPost_ret (results_cell_row rfl _ _ (w.heap.size+1) 53 _ (0,0) _ rfl (zaS ((zi (by omega)).trans G2.out)) Tryz.underlying53 rfl (by kernel_rfl)) rfl ?_
  exact zcl rfl Z.out (HM.out.adv ab) (zbD ((zaZ E).setCell (Nat.le_refl _) _) (Nat.le_succ _) ..)
 |false=>
  have Z:Hid (Is (bd x (zd C 1 s)) q (zbp C q.pos z)):=by
   show Is (bd x (zd C 1 s)) q (zbp C q.pos z)
   unfold zbp
   by_cases O:z<0
   ·obtain⟨Q,Y⟩:=zaC HX.out O
    simp only[O,decide_true,Bool.true_and] at o
    rw[Q,zz,zd,o,if_pos O]
    rfl
   ·obtain⟨e,Q,Y⟩:=zdc HX.out O
    rw[Q,zdU,if_neg O]
    exact Y
  unfold pv
  go_enter Tryz.func76,Tryz.ntmps76
  go_wp2_with fail
  refine (zh C J n j S q z d 1 s _ (zq (zq D _) _) A (by decide)).mono ?_
  rintro e w1 ⟨rfl,E⟩
  rw[o]
  obtain⟨L,I⟩:=zcz E
  obtain⟨a0,a1,a2,a3,a4,a5,a6,a7,a8,a9,U,V,af⟩:=zaj L
  obtain⟨b0,b1,b2,b3,b4,b5,b6,b7,b8,b9,M,K,bf⟩:=zaj I
  have G2:=zc I
  have H:=zbV D (zaZ E)
  clear L I o
  go_wp2_with fail
  refine (zda C J n j S q z d _ H A).mono ?_
  rintro e w2 ⟨rfl,N⟩
  have G3:Hid (_=_):=(N.block _ (Nat.lt_of_lt_of_le (by simp) E.size)).trans G2.out
  obtain⟨c0,c1,c2,c3,c4,c5,c6,c7,c8,c9,ac,ad,cf⟩:=zaj G3.out
  have aa:=(zaZ E).trans (N.mono (zaZ E).size)
  clear a0 a1 a2 a3 a4 a5 a6 a7 a8 a9 U V b0 b1 b2 b3 b4 b5 b6 b7 b8 b9 M K af bf
  unfold pv
  go_wp2
  refine bodyPost_ret (results_cell_row rfl _ _ (w.heap.size+1) 53 _ (0,0) _ rfl (zaS G3.out) Tryz.underlying53 rfl (by kernel_rfl)) rfl ?_
  exact zcl rfl Z.out HM.out (zbD aa (Nat.le_succ _) ..)
theorem zd4 (s:ByteArray) (j:Bool) (w:World):
  Calls Tryz.prog 166 #[.string s,.bool j] w fun e L=>e= .returned (.bool (zu s j))∧L=w:=by
 cases o:(s.toList==[105,109,112,111,114,116]) with
 |true=>
  have n:Hid (zu s j=true):=by show zu s j=true;simp[zu,o]
  go_enter Tryz.func166,Tryz.ntmps166
  go_wp2
  go_ret
  exact⟨zm n.out.symm,rfl⟩
 |false=>
  cases q:(s.toList==[101,120,112,111,114,116]) with
  |true=>
   have n:Hid (zu s j=true):=by show zu s j=true;simp[zu,o,q]
   go_enter Tryz.func166,Tryz.ntmps166
   go_wp2
   go_ret
   exact⟨zm n.out.symm,rfl⟩
  |false=>
   cases z:(s.toList==[100,101,102,97,117,108,116]) with
   |true=>
    have n:Hid (zu s j=true):=by show zu s j=true;simp[zu,o,q,z]
    go_enter Tryz.func166,Tryz.ntmps166
    go_wp2
    go_ret
    exact⟨zm n.out.symm,rfl⟩
   |false=>
    cases A:(s.toList==[108,101,116]) with
    |true=>
     have n:Hid (zu s j=true):=by show zu s j=true;simp[zu,o,q,z,A]
     go_enter Tryz.func166,Tryz.ntmps166
     go_wp2
     go_ret
     exact⟨zm n.out.symm,rfl⟩
    |false=>
     cases D:(s.toList==[102,117,110,99,116,105,111,110]) with
     |true=>
      have n:Hid (zu s j=true):=by show zu s j=true;simp[zu,o,q,z,A,D]
      go_enter Tryz.func166,Tryz.ntmps166
      go_wp2
      go_ret
      exact⟨zm n.out.symm,rfl⟩
     |false=>
      cases E:(s.toList==[114,101,116,117,114,110]) with
      |true=>
       have n:Hid (zu s j=true):=by show zu s j=true;simp[zu,o,q,z,A,D,E]
       go_enter Tryz.func166,Tryz.ntmps166
       go_wp2
       go_ret
       exact⟨zm n.out.symm,rfl⟩
      |false=>
       cases H:(s.toList==[112,114,105,110,116]) with
       |true=>
        have n:Hid (zu s j=true):=by show zu s j=true;simp[zu,o,q,z,A,D,E,H]
        go_enter Tryz.func166,Tryz.ntmps166
        go_wp2
        go_ret
        exact⟨zm n.out.symm,rfl⟩
       |false=>
        cases I:(s.toList==[116,104,114,111,119]) with
        |true=>
         have n:Hid (zu s j=true):=by show zu s j=true;simp[zu,o,q,z,A,D,E,H,I]
         go_enter Tryz.func166,Tryz.ntmps166
         go_wp2
         go_ret
         exact⟨zm n.out.symm,rfl⟩
        |false=>
         cases J:(s.toList==[102,97,105,108]) with
         |true=>
          have n:Hid (zu s j=j):=by show zu s j=j;simp[zu,o,q,z,A,D,E,H,I,J]
          go_enter Tryz.func166,Tryz.ntmps166
          go_wp2
          go_ret
          exact⟨zm n.out.symm,rfl⟩
         |false=>
          cases K:(s.toList==[117,110,100,101,102]) with
          |true=>
           have n:Hid (zu s j=j):=by show zu s j=j;simp[zu,o,q,z,A,D,E,H,I,J,K]
           go_enter Tryz.func166,Tryz.ntmps166
           go_wp2
           go_ret
           exact⟨zm n.out.symm,rfl⟩
          |false=>
           have n:Hid (zu s j=false):=by show zu s j=false;simp[zu,o,q,z,A,D,E,H,I,J,K]
           go_enter Tryz.func166,Tryz.ntmps166
           go_wp2
           go_ret
           exact⟨zm n.out.symm,rfl⟩
theorem zlK {C:Cx} {i:Nat} {o:Bool} (h:((ze C i).kind==1)=false):zD C i o=false:=by rw[zD,h];rfl
theorem zg0 {C:Cx} {i:Nat} {o:Bool} (h: ¬i<C.ts.length):zD C i o=false:=by
 rw[Bool.eq_false_iff]
 exact fun g=>h (ze4 g)
theorem zfz (C:Cx) (M I H:Nat) (S:Sv) (q:PS) (z:Int) (d:Nat) (o:Bool) (w:World) (V:OwnT w H 111 M C.ts.length I C.ts) (_:C.ts.length≤4000):
  Calls Tryz.prog 133 #[pv C M I S q z d,.bool o] w fun e A=>e= .returned (.bool (decide (z<0)&&zD C q.pos o))∧Below w.heap.size w A:=by
 unfold pv
 by_cases Q:z<0
 ·have D:decide (z<0)=true:=decide_eq_true Q
  have K:decide (0≤z)=false:=decide_eq_false (by omega)
  by_cases Y:q.pos<C.ts.length
  ·obtain⟨O,N,_,_⟩:=V.cells Y (d:=⟨0,sNone,0,C.fin⟩)
   have X:=(zan V).1
   change _=some (Value.int .i64 (ze C q.pos).kind) at O
   change _=some (Value.string (ze C q.pos).text) at N
   generalize j:ze C q.pos=t at O N
   cases E:(t.kind==1) with
   |true=>
    have L:(t.kind !=1)=false:=by rw[bne,E];rfl
    cases J:zu t.text C.scr with
    |false=>
     have n:Hid (zD C q.pos o=true):=by show zD C q.pos o=true;simp only[zD,j,E,J,Bool.not_false,Bool.true_or,Bool.and_self]
     clear j
     go_enter Tryz.func133,Tryz.ntmps133
     go_wp2_with (first|(go_at_call 166;refine (zd4 _ _ _).mono ?_;rintro e A ⟨rfl,rfl⟩))
     go_ret
     exact⟨zm (by first|(rw[D,n.out];rfl)|rfl),(Below.refl _ _).alloc (Nat.le_refl _) _⟩
    |true=>
     cases o with
     |true=>
      cases U:(t.text.toList==[100,101,102,97,117,108,116]) with
      |true=>
       have n:Hid (zD C q.pos true=true):=by show zD C q.pos true=true;simp only[zD,j,E,J,U,Bool.not_true,Bool.and_self,Bool.false_or]
       clear j
       go_enter Tryz.func133,Tryz.ntmps133
       go_wp2_with (first|(go_at_call 166;refine (zd4 _ _ _).mono ?_;rintro e A ⟨rfl,rfl⟩))
       go_ret
       exact⟨zm (by first|(rw[D,n.out];rfl)|rfl),(Below.refl _ _).alloc (Nat.le_refl _) _⟩
      |false=>
       have n:Hid (zD C q.pos true=false):=by show zD C q.pos true=false;simp only[zD,j,E,J,U,Bool.not_true,Bool.true_and,Bool.or_self]
       clear j
       go_enter Tryz.func133,Tryz.ntmps133
       go_wp2_with (first|(go_at_call 166;refine (zd4 _ _ _).mono ?_;rintro e A ⟨rfl,rfl⟩))
       go_ret
       exact⟨zm (by first|(rw[D,n.out];rfl)|rfl),(Below.refl _ _).alloc (Nat.le_refl _) _⟩
     |false=>
      have n:Hid (zD C q.pos false=false):=by show zD C q.pos false=false;simp only[zD,j,E,J,Bool.not_true,Bool.false_and,Bool.or_self,Bool.and_false]
      clear j
      go_enter Tryz.func133,Tryz.ntmps133
      go_wp2_with (first|(go_at_call 166;refine (zd4 _ _ _).mono ?_;rintro e A ⟨rfl,rfl⟩))
      go_ret
      exact⟨zm (by first|(rw[D,n.out];rfl)|rfl),(Below.refl _ _).alloc (Nat.le_refl _) _⟩
   |false=>
    have L:(t.kind !=1)=true:=by rw[bne,E];rfl
    have n:Hid (zD C q.pos o=false):=zlK (by rw[j];exact E)
    clear j
    go_enter Tryz.func133,Tryz.ntmps133
    go_wp2_with (first|(go_at_call 166;refine (zd4 _ _ _).mono ?_;rintro e A ⟨rfl,rfl⟩))
    go_ret
    exact⟨zm (by first|(rw[D,n.out];rfl)|rfl),(Below.refl _ _).alloc (Nat.le_refl _) _⟩
  ·have n:Hid (zD C q.pos o=false):=zg0 Y
   go_enter Tryz.func133,Tryz.ntmps133
   go_wp2_with (first|(go_at_call 166;refine (zd4 _ _ _).mono ?_;rintro e A ⟨rfl,rfl⟩))
   go_ret
   exact⟨zm (by first|(rw[D,n.out];rfl)|rfl),(Below.refl _ _).alloc (Nat.le_refl _) _⟩
 ·have D:decide (z<0)=false:=decide_eq_false Q
  have K:decide (0≤z)=true:=decide_eq_true (by omega)
  have n:Hid (zD C q.pos o=zD C q.pos o):=rfl
  go_enter Tryz.func133,Tryz.ntmps133
  go_wp2_with (first|(go_at_call 166;refine (zd4 _ _ _).mono ?_;rintro e A ⟨rfl,rfl⟩))
  go_ret
  exact⟨zm (by first|(rw[D,n.out];rfl)|rfl),(Below.refl _ _).alloc (Nat.le_refl _) _⟩
def Is2 (y:Except Nat (PS×ByteArray)) (q:PS) (z:Int) (n:ByteArray):Prop:=
 match y with
 | .ok a=>q=a.1∧z= -1∧n=a.2
 | .error e=>z=(e:Int)
theorem Is2.fst {y:Except Nat (PS×ByteArray)} {q:PS} {z:Int} {n:ByteArray} (h:Is2 y q z n):Is (zaK y) q z:=by
 cases y with
 |ok a=>exact⟨h.1,h.2.1⟩
 |error e=>exact h
theorem Is2.bind {y:Except Nat (PS×ByteArray)} {q:PS} {z:Int} {n:ByteArray} (h:Is2 y q z n) {β:Type} (F:PS→ByteArray→Except Nat β):bd (zaK y) (fun q=>F q n)=bd y fun a=>F a.1 a.2:=by
 cases y with
 |ok a=>obtain⟨_,_,rfl⟩:=h;rfl
 |error e=>rfl
def zdo (C:Cx) (gt cap base:Nat) (y:Except Nat (PS×ByteArray)) (d:Nat) (S:Sv) (w:World) (e:Ending) (w':World):Prop:=
 ∃S' q' z' n',e= .returned (.tuple #[pv C gt cap S' q' z' d,.string n'])∧Is2 y q' z' n'∧Mem C gt cap base S' q' w'∧Stp S w S' w'
theorem zd5 {C:Cx} {o n j:Nat} {y:Except Nat (PS×ByteArray)} {d:Nat} {S:Sv} {w z:World} {q':PS} {z':Int} {q:ByteArray} {v:Value} (H:v=pv C o n S q' z' d) (D:Is2 y q' z' q) (E:Mem C o n j S q' w) (A:Below w.heap.size w z):zdo C o n j y d S w (.returned (.tuple #[v,.string q])) z:=
 ⟨S,q',z',q,by rw[H],D,E.later A,Stp.below A⟩
theorem zbe (C:Cx) (J D j:Nat) (x:PR) (S:Sv) (q:PS) (z:Int) (d:Nat) (o:Bool) (w:World) (hx:Is x q z) (X:Mem C J D j S q w):
  Calls Tryz.prog 78 #[pv C J D S q z d,.bool o] w (zdo C J D j (bd x (zj C o)) d S w):=by
 have HM:=zc X
 have A:=X.tok
 have H:=X.few
 have HX:=zc hx
 clear hx X
 cases E:(decide (z<0)&&zD C q.pos o) with
 |true=>
  have N:q.pos<C.ts.length:=by rw[Bool.and_eq_true] at E;exact ze4 E.2
  have Z:Hid (Is2 (bd x (zj C o)) (adv q) z (ze C q.pos).text):=by
   rw[Bool.and_eq_true,decide_eq_true_eq] at E
   obtain⟨Q,Y⟩:=zaC HX.out E.1
   show Is2 (bd x (zj C o)) (adv q) z (ze C q.pos).text
   rw[Q,zz,zj,if_pos E.2]
   exact⟨rfl,Y,rfl⟩
  unfold pv
  go_enter Tryz.func78,Tryz.ntmps78
  go_wp2_with fail
  refine (zfz C J D j S q z d o _ (zq (zq A _) _) H).mono ?_
  rintro e w1 ⟨rfl,I⟩
  rw[E]
  obtain⟨L,K⟩:=zcz I
  obtain⟨a0,a1,a2,a3,a4,a5,a6,a7,a8,a9,U,V,af⟩:=zaj L
  obtain⟨b0,b1,b2,b3,b4,b5,b6,b7,b8,b9,ad,ac,bf⟩:=zaj K
  have n:=zbV A (zaZ I)
  obtain⟨_,c1,_,_⟩:=n.cells N (d:=⟨0,sNone,0,C.fin⟩)
  change _=some (Value.string (ze C q.pos).text) at c1
  have G2:=zc K
  clear L K E
  go_wp2
  refine bodyPost_ret (zaA rfl _ _ (w.heap.size+1) 53 _ (0,0) _ rfl (zaS ((zi (by omega)).trans G2.out)) Tryz.underlying53 rfl (by kernel_rfl)) rfl ?_
  exact zd5 rfl Z.out (HM.out.adv N) (zbD ((zaZ I).setCell (Nat.le_refl _) _) (Nat.le_succ _) ..)
 |false=>
  have Z:Hid (Is2 (bd x (zj C o)) q (zbp C q.pos z) sNone):=by
   show Is2 (bd x (zj C o)) q (zbp C q.pos z) sNone
   unfold zbp
   by_cases O:z<0
   ·obtain⟨Q,Y⟩:=zaC HX.out O
    simp only[O,decide_true,Bool.true_and] at E
    rw[Q,zz,zj,E,if_pos O]
    rfl
   ·obtain⟨e,Q,Y⟩:=zdc HX.out O
    rw[Q,zdU,if_neg O]
    exact Y
  unfold pv
  go_enter Tryz.func78,Tryz.ntmps78
  go_wp2_with fail
  refine (zfz C J D j S q z d o _ (zq (zq A _) _) H).mono ?_
  rintro e w1 ⟨rfl,I⟩
  rw[E]
  obtain⟨L,K⟩:=zcz I
  obtain⟨a0,a1,a2,a3,a4,a5,a6,a7,a8,a9,U,V,af⟩:=zaj L
  have G2:=zc K
  have n:=zbV A (zaZ I)
  clear L K E
  go_wp2_with fail
  refine (zda C J D j S q z d _ n H).mono ?_
  rintro e w2 ⟨rfl,M⟩
  have G3:Hid (_=_):=(M.block _ (Nat.lt_of_lt_of_le (by simp) I.size)).trans G2.out
  obtain⟨c0,c1,c2,c3,c4,c5,c6,c7,c8,c9,ab,ae,cf⟩:=zaj G3.out
  have aa:=(zaZ I).trans (M.mono (zaZ I).size)
  clear a0 a1 a2 a3 a4 a5 a6 a7 a8 a9 U V af
  unfold pv
  go_wp2
  refine bodyPost_ret (zaA rfl _ _ (w.heap.size+1) 53 _ (0,0) _ rfl (zaS G3.out) Tryz.underlying53 rfl (by kernel_rfl)) rfl ?_
  exact zd5 rfl Z.out HM.out (zbD aa (Nat.le_succ _) ..)
theorem Tryz.infoImp:(Tryz.prog.info? 100).map (fun i=>(i.zero,i.size,i.bytes))=some (some (.agg #[.string {data:=#[]},.string {data:=#[]},.string {data:=#[]}]),3,48):=by kernel_rfl
theorem Tryz.infoExp:(Tryz.prog.info? 102).map (fun i=>(i.zero,i.size,i.bytes))=some (some (.agg #[.int .i64 0,.string {data:=#[]},.string {data:=#[]},.string {data:=#[]}]),4,56):=by kernel_rfl
theorem Tryz.infoStmt:(Tryz.prog.info? 106).map (fun i=>(i.zero,i.size,i.bytes))=some (some (.agg #[.int .i64 0,.string {data:=#[]},.int .i64 0]),3,32):=by kernel_rfl
theorem Tryz.infoExpr:(Tryz.prog.info? 108).map (fun i=>(i.zero,i.size,i.bytes))=some (some (.agg #[.int .i64 0,.int .i64 0,.string {data:=#[]},.string {data:=#[]},.int .i64 0,.int .i64 0]),6,64):=by kernel_rfl
def imV (x:Im):Value:=.agg #[.string x.spec,.string x.first,.string x.loc]
def epV (x:Ep):Value:=.agg #[.int .i64 x.kind,.string x.name,.string x.loc,.string x.spec]
def exV (x:Ex):Value:=.agg #[.int .i64 x.kind,.int .i64 x.num,.string x.name,.string x.field,.int .i64 x.l,.int .i64 x.r]
theorem zcJ (w:World) (a b c:Obj):Below w.heap.size w (((w.alloc a).alloc b).alloc c):=(zaT w a b).alloc (zaT w a b).size c
theorem zf0 (w:World) (a b c d:Obj):Below w.heap.size w ((((w.alloc a).alloc b).alloc c).alloc d):=(zcJ w a b c).alloc (zcJ w a b c).size d
theorem zc1 (w:World) (a b:Obj):((w.alloc a).alloc b).heap.size=w.heap.size+1+1:=by rw[zk,zk]
theorem zaa (w:World) (a b c:Obj):(((w.alloc a).alloc b).alloc c).heap.size=w.heap.size+1+1+1:=by rw[zk,zc1]
theorem za4 (w:World) (a b c d:Obj):((((w.alloc a).alloc b).alloc c).alloc d).heap.size=w.heap.size+1+1+1+1:=by rw[zk,zaa]
theorem zaL (w:World) (a b c:Obj):(((w.alloc a).alloc b).alloc c).heap[w.heap.size]? =some a∧(((w.alloc a).alloc b).alloc c).heap[w.heap.size+1]? =some b∧(((w.alloc a).alloc b).alloc c).heap[w.heap.size+1+1]? =some c:=by
 refine⟨?_,?_,?_⟩
 ·rw[Below.heap_alloc _ _ _ (by rw[zc1];omega),Below.heap_alloc _ _ _ (by rw[zk];omega)]
  exact heap_alloc_new w a
 ·rw[Below.heap_alloc _ _ _ (by rw[zc1];omega)]
  exact zbq w a b
 ·rw[←zc1 w a b]
  exact heap_alloc_new _ c
theorem zbH (w:World) (a b c d:Obj):((((w.alloc a).alloc b).alloc c).alloc d).heap[w.heap.size]? =some a∧((((w.alloc a).alloc b).alloc c).alloc d).heap[w.heap.size+1]? =some b∧((((w.alloc a).alloc b).alloc c).alloc d).heap[w.heap.size+1+1]? =some c∧((((w.alloc a).alloc b).alloc c).alloc d).heap[w.heap.size+1+1+1]? =some d:=by
 obtain⟨n,j,o⟩:=zaL w a b c
 refine⟨?_,?_,?_,?_⟩
 ·rw[Below.heap_alloc _ _ _ (by rw[zaa];omega)]
  exact n
 ·rw[Below.heap_alloc _ _ _ (by rw[zaa];omega)]
  exact j
 ·rw[Below.heap_alloc _ _ _ (by rw[zaa];omega)]
  exact o
 ·rw[←zaa w a b c]
  exact heap_alloc_new _ d
theorem zg1 {w j:World} {a b c:Obj} (n:Below (((w.alloc a).alloc b).alloc c).heap.size (((w.alloc a).alloc b).alloc c) j):Below w.heap.size w j:=(zcJ w a b c).trans (n.mono (zcJ w a b c).size)
theorem zf1 {C:Cx} {x:PR} {q:PS} {z:Int} {f:PS→PR} (j:Is x q z) (o:z<0) (n:f q= .error (zr C (q.pos-1))):Is (bd x f) q (zr C (q.pos-1)):=by
 obtain⟨rfl,_⟩:=zaC j o
 rw[zz,n]
 rfl
theorem zf2 {x:PR} {q:PS} {z:Int} {f:PS→PR} (j:Is x q z) (o: ¬z<0):Is (bd x f) q z:=by
 obtain⟨e,rfl,n⟩:=zdc j o
 exact n
theorem zeH {x:PR} {q q':PS} {z:Int} {f:PS→PR} (j:Is x q z) (A:z<0) (n:f q= .ok q'):Is (bd x f) q' z:=by
 obtain⟨rfl,o⟩:=zaC j A
 rw[zz,n]
 exact⟨rfl,o⟩
theorem zd6 {w W:World} {j:Nat} {S:Sv} {q:PS} (n:Own w j S q) (_:w.heap.size≤W.heap.size) {r:Option Nat} (o: ∀k,r=some k→S.has k) (b:Nat) (z:w.heap.size≤b):some b≠r:=fun e=>by have:=(n.has (o b e.symm)).2;omega
theorem zcK (C:Cx) (N n j:Nat) (x:PR) (S:Sv) (q:PS) (z:Int) (d:Nat) (y:Ex) (w:World) (hx:Is x q z) (H:Mem C N n j S q w) (O:z<0→1≤q.pos):
  Calls Tryz.prog 137 #[pv C N n S q z d,exV y] w (Out C N n j (bd x (zN C y)) d S w):=by
 obtain⟨i0,hi,Y,Q,aa⟩:=info_parts Tryz.infoExpr
 have E:=zc H
 have Z:=zc hx
 have ab:q.ex.length≤300:=by have:=H.inv.ex;omega
 clear hx
 by_cases L:z<0
 ·have dz:decide (0≤z)=false:=decide_eq_false (by omega)
  by_cases hn:300≤q.ex.length
  ·have I:Hid (Is (bd x (zN C y)) q (zr C (q.pos-1))):=zf1 Z.out L (if_pos hn)
   have qn:decide ((300:Int)≤(q.ex.length:Int))=true:=decide_eq_true (by omega)
   have J:=O L
   clear O H
   unfold pv exV
   go_enter Tryz.func137,Tryz.ntmps137
   go_wp2_with fail
   refine (zeG C N n j S q z d _ (((E.out.alloc _).alloc _).alloc _) L J).mono ?_
   rintro e w2 ⟨rfl,A⟩
   have U:Below w.heap.size w w2:=zg1 A
   have G3:Hid (_=_):=(A.block (w.heap.size+1+1) (by rw[zaa];omega)).trans ((zaL w _ _ _).2.2)
   obtain⟨c0,c1,c2,c3,c4,c5,c6,c7,c8,c9,ae,ah,cf⟩:=zaj G3.out
   clear A
   unfold pv
   go_wp2
   refine bodyPost_ret (results_cell_row rfl _ _ (w.heap.size+1+1) 53 _ (0,0) _ rfl (zaS G3.out) Tryz.underlying53 rfl (by kernel_rfl)) rfl ?_
   exact zcl rfl I.out E.out (zbD U (by omega) ..)
  ·have qn:decide ((300:Int)≤(q.ex.length:Int))=false:=decide_eq_false (by omega)
   have I:Hid (Is (bd x (zN C y)) {q with ex:=q.ex++[y]} z):=zeH Z.out L (if_neg hn)
   have o:=fun o1 o2 o3 o4=>((((E.out.own.ex.alloc o1).alloc o2).alloc o3).alloc o4)
   clear O H
   unfold pv exV
   go_enter Tryz.func137,Tryz.ntmps137
   go_wp2_with (at_builtin;refine zcu _ rfl _ _ 26 rfl j 108 i0 _ 6 64 Tryz.underlying26 hi Y Q aa rfl (by decide) (by decide) S.ex q.ex.length _ (by rfl) (o ..) (w.heap.size+1+1+1) (exL y) (by rfl) (by first|exact (zbH w ..).2.2.2|exact (zaL w _ _ _).2.2) rfl (by intro u hu;simp[exL] at hu;rcases hu with rfl|rfl|rfl|rfl|rfl|rfl<;>rfl) (by omega) (by have:=E.out.base;(first|rw[za4]|rw[zaa]);omega) ?_)
   intro r' w2 hr M K
   have HR:=zc hr
   have HG:=zc M
   have X:=zc K
   have D:=fun b hb=>zd6 (W:=w) E.out.own (Nat.le_refl _) (r:=S.ex.blk) (fun k e=>.inr (.inr (.inr (.inr (.inl e))))) b hb
   have g1:=(M.block w.heap.size (by (first|rw[za4]|rw[zaa]);omega) (D _ (Nat.le_refl _))).trans (by first|exact (zbH w ..).1|exact (zaL w _ _ _).1)
   have V:=(M.block (w.heap.size+1+1) (by (first|rw[za4]|rw[zaa]);omega) (D _ (by omega))).trans (by first|exact (zbH w ..).2.2.1|exact (zaL w _ _ _).2.1)
   obtain⟨a0,a1,a2,a3,a4,a5,a6,a7,a8,a9,ai,ag,af⟩:=zaj g1
   obtain⟨b0,b1,b2,b3,b4,b5,b6,b7,b8,b9,ad,ac,bf⟩:=zaj V
   have G2:=zc V
   clear g1 V M hr K D o
   go_wp2
   refine bodyPost_ret (results_cell_row rfl _ _ (w.heap.size+1+1) 53 _ (0,0) _ rfl (zaS ((zi (by omega)).trans G2.out)) Tryz.underlying53 rfl (by kernel_rfl)) rfl ?_
   obtain⟨m',s'⟩:=E.out.grow_ex (x:=y) (zf0 w ..) HG.out HR.out (by (first|rw[za4]|rw[zaa]);exact X.out) (((Off.refl _ _ _).set (b:=w.heap.size) (Nat.le_refl _) (by (first|rw[za4]|rw[zaa]);omega) _ _).set12 (b:=w.heap.size+1+1) (by omega) (by (first|rw[za4]|rw[zaa]);omega) ..) (by omega)
   exact⟨_,{q with ex:=q.ex++[y]},z,by simp[pv],I.out,m',s'⟩
 ·have dz:decide (0≤z)=true:=decide_eq_true (by omega)
  have I:Hid (Is (bd x (zN C y)) q z):=zf2 Z.out L
  clear O H
  unfold pv exV
  go_enter Tryz.func137,Tryz.ntmps137
  go_wp2
  refine bodyPost_ret (results_cell_row rfl _ _ (w.heap.size+1+1) 53 _ (0,0) _ rfl ((zaL w _ _ _).2.2) Tryz.underlying53 rfl (by kernel_rfl)) rfl ?_
  exact zcl rfl I.out E.out (zcJ w _ _ _)
theorem zg2 (C:Cx) (N n j:Nat) (x:PR) (S:Sv) (q:PS) (z:Int) (d:Nat) (y:Im) (w:World) (hx:Is x q z) (H:Mem C N n j S q w) (O:z<0→1≤q.pos):
  Calls Tryz.prog 132 #[pv C N n S q z d,imV y] w (Out C N n j (bd x (zak C y)) d S w):=by
 obtain⟨i0,hi,Y,Q,aa⟩:=info_parts Tryz.infoImp
 have E:=zc H
 have Z:=zc hx
 have ab:q.im.length≤40:=by have:=H.inv.im;omega
 clear hx
 by_cases L:z<0
 ·have dz:decide (0≤z)=false:=decide_eq_false (by omega)
  by_cases hn:40≤q.im.length
  ·have I:Hid (Is (bd x (zak C y)) q (zr C (q.pos-1))):=zf1 Z.out L (if_pos hn)
   have qn:decide ((40:Int)≤(q.im.length:Int))=true:=decide_eq_true (by omega)
   have J:=O L
   clear O H
   unfold pv imV
   go_enter Tryz.func132,Tryz.ntmps132
   go_wp2_with fail
   refine (zeG C N n j S q z d _ (((E.out.alloc _).alloc _).alloc _) L J).mono ?_
   rintro e w2 ⟨rfl,A⟩
   have U:Below w.heap.size w w2:=zg1 A
   have G3:Hid (_=_):=(A.block (w.heap.size+1+1) (by rw[zaa];omega)).trans ((zaL w _ _ _).2.2)
   obtain⟨c0,c1,c2,c3,c4,c5,c6,c7,c8,c9,ae,ah,cf⟩:=zaj G3.out
   clear A
   unfold pv
   go_wp2
   refine bodyPost_ret (results_cell_row rfl _ _ (w.heap.size+1+1) 53 _ (0,0) _ rfl (zaS G3.out) Tryz.underlying53 rfl (by kernel_rfl)) rfl ?_
   exact zcl rfl I.out E.out (zbD U (by omega) ..)
  ·have qn:decide ((40:Int)≤(q.im.length:Int))=false:=decide_eq_false (by omega)
   have I:Hid (Is (bd x (zak C y)) {q with im:=q.im++[y]} z):=zeH Z.out L (if_neg hn)
   have o:=fun o1 o2 o3 o4=>((((E.out.own.im.alloc o1).alloc o2).alloc o3).alloc o4)
   clear O H
   unfold pv imV
   go_enter Tryz.func132,Tryz.ntmps132
   go_wp2_with (at_builtin;refine zcu _ rfl _ _ 23 rfl j 100 i0 _ 3 48 Tryz.underlying23 hi Y Q aa rfl (by decide) (by decide) S.im q.im.length _ (by rfl) (o ..) (w.heap.size+1+1+1) (imL y) (by rfl) (by first|exact (zbH w ..).2.2.2|exact (zaL w _ _ _).2.2) rfl (by intro u hu;simp[imL] at hu;rcases hu with rfl|rfl|rfl<;>rfl) (by omega) (by have:=E.out.base;(first|rw[za4]|rw[zaa]);omega) ?_)
   intro r' w2 hr M K
   have HR:=zc hr
   have HG:=zc M
   have X:=zc K
   have D:=fun b hb=>zd6 (W:=w) E.out.own (Nat.le_refl _) (r:=S.im.blk) (fun k e=>.inr (.inl e)) b hb
   have g1:=(M.block w.heap.size (by (first|rw[za4]|rw[zaa]);omega) (D _ (Nat.le_refl _))).trans (by first|exact (zbH w ..).1|exact (zaL w _ _ _).1)
   have V:=(M.block (w.heap.size+1+1) (by (first|rw[za4]|rw[zaa]);omega) (D _ (by omega))).trans (by first|exact (zbH w ..).2.2.1|exact (zaL w _ _ _).2.1)
   obtain⟨a0,a1,a2,a3,a4,a5,a6,a7,a8,a9,ai,ag,af⟩:=zaj g1
   obtain⟨b0,b1,b2,b3,b4,b5,b6,b7,b8,b9,ad,ac,bf⟩:=zaj V
   have G2:=zc V
   clear g1 V M hr K D o
   go_wp2
   refine bodyPost_ret (results_cell_row rfl _ _ (w.heap.size+1+1) 53 _ (0,0) _ rfl (zaS ((zi (by omega)).trans G2.out)) Tryz.underlying53 rfl (by kernel_rfl)) rfl ?_
   obtain⟨m',s'⟩:=E.out.grow_im (x:=y) (zf0 w ..) HG.out HR.out (by (first|rw[za4]|rw[zaa]);exact X.out) (((Off.refl _ _ _).set (b:=w.heap.size) (Nat.le_refl _) (by (first|rw[za4]|rw[zaa]);omega) _ _).set12 (b:=w.heap.size+1+1) (by omega) (by (first|rw[za4]|rw[zaa]);omega) ..) (by omega)
   exact⟨_,{q with im:=q.im++[y]},z,by simp[pv],I.out,m',s'⟩
 ·have dz:decide (0≤z)=true:=decide_eq_true (by omega)
  have I:Hid (Is (bd x (zak C y)) q z):=zf2 Z.out L
  clear O H
  unfold pv imV
  go_enter Tryz.func132,Tryz.ntmps132
  go_wp2
  refine bodyPost_ret (results_cell_row rfl _ _ (w.heap.size+1+1) 53 _ (0,0) _ rfl ((zaL w _ _ _).2.2) Tryz.underlying53 rfl (by kernel_rfl)) rfl ?_
  exact zcl rfl I.out E.out (zcJ w _ _ _)
theorem zd7 (C:Cx) (gt H j:Nat) (x:PR) (S:Sv) (q:PS) (z:Int) (d:Nat) (y:Ep) (w:World) (hx:Is x q z) (I:Mem C gt H j S q w) (V:z<0→1≤q.pos):
  Calls Tryz.prog 134 #[pv C gt H S q z d,epV y] w (Out C gt H j (bd x (zo C y)) d S w):=by
 obtain⟨i0,hi,U,O,Z⟩:=info_parts Tryz.infoExp
 have D:=zc I
 have HX:=zc hx
 have ah:q.ep.length≤40:=by have:=I.inv.ep;omega
 have ag:q.la.length≤40:=by have:=I.inv.ep;omega
 clear hx
 by_cases N:z<0
 ·have dz:decide (0≤z)=false:=decide_eq_false (by omega)
  by_cases hn:40≤q.ep.length+q.la.length
  ·have K:Hid (Is (bd x (zo C y)) q (zr C (q.pos-1))):=zf1 HX.out N (if_pos hn)
   have qn:decide ((40:Int)≤(q.ep.length:Int)+(q.la.length:Int))=true:=decide_eq_true (by omega)
   have Q:=V N
   clear V I
   unfold pv epV
   go_enter Tryz.func134,Tryz.ntmps134
   go_wp2_with fail
   refine (zeG C gt H j S q z d _ (((D.out.alloc _).alloc _).alloc _) N Q).mono ?_
   rintro e w2 ⟨rfl,J⟩
   have ac:Below w.heap.size w w2:=zg1 J
   have G3:Hid (_=_):=(J.block (w.heap.size+1+1) (by rw[zaa];omega)).trans ((zaL w _ _ _).2.2)
   obtain⟨c0,c1,c2,c3,c4,c5,c6,c7,c8,c9,ai,aj,cf⟩:=zaj G3.out
   clear J
   unfold pv
   go_wp2
   refine bodyPost_ret (results_cell_row rfl _ _ (w.heap.size+1+1) 53 _ (0,0) _ rfl (zaS G3.out) Tryz.underlying53 rfl (by kernel_rfl)) rfl ?_
   exact zcl rfl K.out D.out (zbD ac (by omega) ..)
  ·have qn:decide ((40:Int)≤(q.ep.length:Int)+(q.la.length:Int))=false:=decide_eq_false (by omega)
   cases hd:(y.loc.toList==[42,100,101,102,97,117,108,116]) with
   |true=>
    have K:Hid (Is (bd x (zo C y)) {q with la:=q.la++[y]} z):=zeH HX.out N (by rw[zo,if_neg hn,if_pos hd])
    have n:=fun o1 o2 o3 o4=>((((D.out.own.la.alloc o1).alloc o2).alloc o3).alloc o4)
    clear V I
    unfold pv epV
    go_enter Tryz.func134,Tryz.ntmps134
    go_wp2_with (at_builtin;refine zcu _ rfl _ _ 24 rfl j 102 i0 _ 4 56 Tryz.underlying24 hi U O Z rfl (by decide) (by decide) S.la q.la.length _ (by rfl) (n ..) (w.heap.size+1+1+1) (epL y) (by rfl) (by first|exact (zbH w ..).2.2.2|exact (zaL w _ _ _).2.2) rfl (by intro u hu;simp[epL] at hu;rcases hu with rfl|rfl|rfl|rfl<;>rfl) (by omega) (by have:=D.out.base;(first|rw[za4]|rw[zaa]);omega) ?_)
    intro r' w2 X E A
    have HR:=zc X
    have HG:=zc E
    have M:=zc A
    have o:=fun b hb=>zd6 (W:=w) D.out.own (Nat.le_refl _) (r:=S.la.blk) (fun k e=>.inr (.inr (.inr (.inr (.inr e))))) b hb
    have Y:=(E.block w.heap.size (by (first|rw[za4]|rw[zaa]);omega) (o _ (Nat.le_refl _))).trans (by first|exact (zbH w ..).1|exact (zaL w _ _ _).1)
    have L:=(E.block (w.heap.size+1+1) (by (first|rw[za4]|rw[zaa]);omega) (o _ (by omega))).trans (by first|exact (zbH w ..).2.2.1|exact (zaL w _ _ _).2.1)
    obtain⟨a0,a1,a2,a3,a4,a5,a6,a7,a8,a9,ae,ad,af⟩:=zaj Y
    obtain⟨b0,b1,b2,b3,b4,b5,b6,b7,b8,b9,ab,aa,bf⟩:=zaj L
    have G2:=zc L
    clear Y L E X A o n
    go_wp2
    refine bodyPost_ret (results_cell_row rfl _ _ (w.heap.size+1+1) 53 _ (0,0) _ rfl (zaS ((zi (by omega)).trans G2.out)) Tryz.underlying53 rfl (by kernel_rfl)) rfl ?_
    obtain⟨m',s'⟩:=D.out.grow_la (x:=y) (zf0 w ..) HG.out HR.out (by (first|rw[za4]|rw[zaa]);exact M.out) (((Off.refl _ _ _).set (b:=w.heap.size) (Nat.le_refl _) (by (first|rw[za4]|rw[zaa]);omega) _ _).set12 (b:=w.heap.size+1+1) (by omega) (by (first|rw[za4]|rw[zaa]);omega) ..) (by omega)
    exact⟨_,{q with la:=q.la++[y]},z,by simp[pv],K.out,m',s'⟩
   |false=>
    have K:Hid (Is (bd x (zo C y)) {q with ep:=q.ep++[y]} z):=zeH HX.out N (by rw[zo,if_neg hn,hd];rfl)
    have n:=fun o1 o2 o3 o4=>((((D.out.own.ep.alloc o1).alloc o2).alloc o3).alloc o4)
    clear V I
    unfold pv epV
    go_enter Tryz.func134,Tryz.ntmps134
    go_wp2_with (at_builtin;refine zcu _ rfl _ _ 24 rfl j 102 i0 _ 4 56 Tryz.underlying24 hi U O Z rfl (by decide) (by decide) S.ep q.ep.length _ (by rfl) (n ..) (w.heap.size+1+1+1) (epL y) (by rfl) (by first|exact (zbH w ..).2.2.2|exact (zaL w _ _ _).2.2) rfl (by intro u hu;simp[epL] at hu;rcases hu with rfl|rfl|rfl|rfl<;>rfl) (by omega) (by have:=D.out.base;(first|rw[za4]|rw[zaa]);omega) ?_)
    intro r' w2 X E A
    have HR:=zc X
    have HG:=zc E
    have M:=zc A
    have o:=fun b hb=>zd6 (W:=w) D.out.own (Nat.le_refl _) (r:=S.ep.blk) (fun k e=>.inr (.inr (.inl e))) b hb
    have Y:=(E.block w.heap.size (by (first|rw[za4]|rw[zaa]);omega) (o _ (Nat.le_refl _))).trans (by first|exact (zbH w ..).1|exact (zaL w _ _ _).1)
    have L:=(E.block (w.heap.size+1+1) (by (first|rw[za4]|rw[zaa]);omega) (o _ (by omega))).trans (by first|exact (zbH w ..).2.2.1|exact (zaL w _ _ _).2.1)
    obtain⟨a0,a1,a2,a3,a4,a5,a6,a7,a8,a9,ae,ad,af⟩:=zaj Y
    obtain⟨b0,b1,b2,b3,b4,b5,b6,b7,b8,b9,ab,aa,bf⟩:=zaj L
    have G2:=zc L
    clear Y L E X A o n
    go_wp2
    refine bodyPost_ret (results_cell_row rfl _ _ (w.heap.size+1+1) 53 _ (0,0) _ rfl (zaS ((zi (by omega)).trans G2.out)) Tryz.underlying53 rfl (by kernel_rfl)) rfl ?_
    obtain⟨m',s'⟩:=D.out.grow_ep (x:=y) (zf0 w ..) HG.out HR.out (by (first|rw[za4]|rw[zaa]);exact M.out) (((Off.refl _ _ _).set (b:=w.heap.size) (Nat.le_refl _) (by (first|rw[za4]|rw[zaa]);omega) _ _).set12 (b:=w.heap.size+1+1) (by omega) (by (first|rw[za4]|rw[zaa]);omega) ..) (by omega)
    exact⟨_,{q with ep:=q.ep++[y]},z,by simp[pv],K.out,m',s'⟩
 ·have dz:decide (0≤z)=true:=decide_eq_true (by omega)
  have K:Hid (Is (bd x (zo C y)) q z):=zf2 HX.out N
  clear V I
  unfold pv epV
  go_enter Tryz.func134,Tryz.ntmps134
  go_wp2
  refine bodyPost_ret (results_cell_row rfl _ _ (w.heap.size+1+1) 53 _ (0,0) _ rfl ((zaL w _ _ _).2.2) Tryz.underlying53 rfl (by kernel_rfl)) rfl ?_
  exact zcl rfl K.out D.out (zcJ w _ _ _)
theorem zcL (C:Cx) (N n j:Nat) (x:PR) (S:Sv) (q:PS) (z:Int) (d:Nat) (k:Int) (nm:ByteArray) (w:World) (hx:Is x q z) (H:Mem C N n j S q w) (O:z<0→1≤q.pos):
  Calls Tryz.prog 77 #[pv C N n S q z d,.int .i64 k,.string nm] w (Out C N n j (bd x (zV C k nm)) d S w):=by
 obtain⟨i0,hi,Y,Q,aa⟩:=info_parts Tryz.infoStmt
 have E:=zc H
 have Z:=zc hx
 have ab:q.ex.length≤300:=by have:=H.inv.ex;omega
 have ac:q.st.length≤80:=by have:=H.inv.st;omega
 clear hx
 by_cases L:z<0
 ·have dz:decide (0≤z)=false:=decide_eq_false (by omega)
  by_cases hn:80≤q.st.length
  ·have I:Hid (Is (bd x (zV C k nm)) q (zr C (q.pos-1))):=zf1 Z.out L (if_pos hn)
   have qn:decide ((80:Int)≤(q.st.length:Int))=true:=decide_eq_true (by omega)
   have J:=O L
   clear O H
   unfold pv
   go_enter Tryz.func77,Tryz.ntmps77
   go_wp2_with fail
   refine (zeG C N n j S q z d _ ((E.out.alloc _).alloc _) L J).mono ?_
   rintro e w2 ⟨rfl,A⟩
   have U:Below w.heap.size w w2:=zaZ A
   have G3:Hid (_=_):=(A.block (w.heap.size+1) (by rw[zc1];omega)).trans (zbq w _ _)
   obtain⟨c0,c1,c2,c3,c4,c5,c6,c7,c8,c9,ag,ai,cf⟩:=zaj G3.out
   clear A
   unfold pv
   go_wp2
   refine bodyPost_ret (results_cell_row rfl _ _ (w.heap.size+1) 53 _ (0,0) _ rfl (zaS G3.out) Tryz.underlying53 rfl (by kernel_rfl)) rfl ?_
   exact zcl rfl I.out E.out (zbD U (by omega) ..)
  ·have qn:decide ((80:Int)≤(q.st.length:Int))=false:=decide_eq_false (by omega)
   have I:Hid (Is (bd x (zV C k nm)) {q with st:=q.st++[⟨k,nm,(q.ex.length:Int)-1⟩]} z):=zeH Z.out L (if_neg hn)
   have o:=fun o1 o2 o3=>(((E.out.own.st.alloc o1).alloc o2).alloc o3)
   clear O H
   unfold pv
   go_enter Tryz.func77,Tryz.ntmps77
   go_wp2_with (at_builtin;refine zcu _ rfl _ _ 25 rfl j 106 i0 _ 3 32 Tryz.underlying25 hi Y Q aa rfl (by decide) (by decide) S.st q.st.length _ (by rfl) (o _ _ _) (w.heap.size+1+1) (smL ⟨k,nm,(q.ex.length:Int)-1⟩) (by rfl) (by first|exact (zbH w ..).2.2.2|exact (zaL w _ _ _).2.2) rfl (by intro u hu;simp[smL] at hu;rcases hu with rfl|rfl|rfl<;>rfl) (by omega) (by have:=E.out.base;(first|rw[za4]|rw[zaa]);omega) ?_)
   intro r' w2 hr M K
   have HR:=zc hr
   have HG:=zc M
   have X:=zc K
   have D:=fun b hb=>zd6 (W:=w) E.out.own (Nat.le_refl _) (r:=S.st.blk) (fun k e=>.inr (.inr (.inr (.inl e)))) b hb
   have g1:=(M.block w.heap.size (by (first|rw[za4]|rw[zaa]);omega) (D _ (Nat.le_refl _))).trans (by first|exact (zbH w ..).1|exact (zaL w _ _ _).1)
   have V:=(M.block (w.heap.size+1) (by (first|rw[za4]|rw[zaa]);omega) (D _ (by omega))).trans (by first|exact (zbH w ..).2.2.1|exact (zaL w _ _ _).2.1)
   obtain⟨a0,a1,a2,a3,a4,a5,a6,a7,a8,a9,aj,ah,af⟩:=zaj g1
   obtain⟨b0,b1,b2,b3,b4,b5,b6,b7,b8,b9,ae,ad,bf⟩:=zaj V
   have G2:=zc V
   clear g1 V M hr K D o
   go_wp2
   refine bodyPost_ret (results_cell_row rfl _ _ (w.heap.size+1) 53 _ (0,0) _ rfl (zaS ((zi (by omega)).trans G2.out)) Tryz.underlying53 rfl (by kernel_rfl)) rfl ?_
   obtain⟨m',s'⟩:=E.out.grow_st (x:=⟨k,nm,(q.ex.length:Int)-1⟩) (zcJ w _ _ _) HG.out HR.out (by (first|rw[za4]|rw[zaa]);exact X.out) (((Off.refl _ _ _).set (b:=w.heap.size) (Nat.le_refl _) (by (first|rw[za4]|rw[zaa]);omega) _ _).set12 (b:=w.heap.size+1) (by omega) (by (first|rw[za4]|rw[zaa]);omega) ..) (by omega)
   exact⟨_,{q with st:=q.st++[⟨k,nm,(q.ex.length:Int)-1⟩]},z,by simp[pv],I.out,m',s'⟩
 ·have dz:decide (0≤z)=true:=decide_eq_true (by omega)
  have I:Hid (Is (bd x (zV C k nm)) q z):=zf2 Z.out L
  clear O H
  unfold pv
  go_enter Tryz.func77,Tryz.ntmps77
  go_wp2
  refine bodyPost_ret (results_cell_row rfl _ _ (w.heap.size+1) 53 _ (0,0) _ rfl (zbq w _ _) Tryz.underlying53 rfl (by kernel_rfl)) rfl ?_
  exact zcl rfl I.out E.out (zaT w _ _)
theorem OwnR.drew {w:World} {j size n:Nat} {e:TypeId} {r:Rw} {xs:List Value} (h:OwnR w j e size r n xs):OwnR w.drew j e size r n xs:=h
theorem zia (x:Ex): ∀u∈exL x,u.oneCell'=true:=by
 intro u j
 simp[exL] at j
 rcases j with rfl|rfl|rfl|rfl|rfl|rfl<;>rfl
theorem IM.grow_ex {C:Cx} {K H z n:Nat} {S:Sv} {q:PS} {w W A:World} {j:Rw} {x:Ex} (h:IM C K H z n S q w) (X:Below w.heap.size w W) (O:W.grownBy A S.ex.blk) (Z:OwnR A z 108 6 j (q.ex.length+1) (q.ex.flatMap exL++exL x)) (L:j.blk=S.ex.blk∨j.blk=some W.heap.size) (Q:q.ex.length<300):
  IM C K H z n {S with ex:=j} {q with ex:=q.ex++[x]} (A.setCell ⟨n,8,none⟩ (.slice j.a (q.ex.length+1) j.cap))∧IS n S w {S with ex:=j} (A.setCell ⟨n,8,none⟩ (.slice j.a (q.ex.length+1) j.cap)):=by
 obtain⟨I,E⟩:=h.mem.grow_ex (x:=x) X O Z L (Off.refl _ _ _) Q
 have o:=h.free
 have M:=h.lt
 have D: ¬Sv.has {S with ex:=j} n:=fun g=>(E.sub n g).elim o fun g'=>by omega
 have J: ∀k,k≠n→(A.setCell ⟨n,8,none⟩ (.slice j.a (q.ex.length+1) j.cap)).heap[k]? =A.heap[k]?:=fun k J=>Below.heap_setCell A ⟨n,8,none⟩ _ k J
 have N:(A.setCell ⟨n,8,none⟩ (.slice j.a (q.ex.length+1) j.cap)).heap.size=A.heap.size:=by show (A.heap.modify _ _).size=_;simp
 have U:=(E.block n M o).trans h.cells
 refine⟨⟨⟨I.own.keep fun k g=>J k fun e=>D (by rw[←e];exact g),I.inv,zb0 I.tok (J K h.ne.symm),I.few,by rw[N];exact I.base⟩,?_,h.ge⟩,?_⟩
 ·rw[za9 U]
  simp
 ·exact (show IS n S w {S with ex:=j} A from⟨E.os,E.tape,E.output,E.size,fun k Y V _=>E.block k Y V,E.sub⟩).set _ _
theorem zlL (C:Cx) (U D j n:Nat) (S:Sv) (q:PS) (x:Ex) (w:World) (h:IM C U D j n S q w) (hn:q.ex.length<300):
  Calls Tryz.prog 202 #[.pointer (some ⟨n,0,none⟩),exV x] w fun e Y=>e= .returned (.int .i64 q.ex.length)∧∃X,IM C U D j n X {q with ex:=q.ex++[x]} Y∧IS n S w X Y:=by
 obtain⟨i0,hi,N,K,Q⟩:=info_parts Tryz.infoExpr
 have J:=zc h
 have aa:=h.lt
 obtain⟨c0,c1,c2,c3,c4,c5,c6,c7,c8,c9,cf⟩:=zac h.cells
 have E:=fun o A=>((J.out.mem.own.ex.alloc o).drew.alloc A)
 have ab:=h.mem.base
 have I:some n≠S.ex.blk:=fun e=>J.out.free (.inr (.inr (.inr (.inr (.inl e.symm)))))
 have HN:=zc I
 have O: ∀o A,j≤((w.alloc o).alloc A).heap.size:=fun o A=>by rw[zc1];omega
 have L: ∀o A,n<((w.alloc o).alloc A).heap.size:=fun o A=>by rw[zc1];omega
 clear h I
 unfold exV
 go_enter Tryz.func202,Tryz.ntmps202
 go_wp2_with fail
 refine (zd3 n q.ex.length 300 _ (by omega)).mono ?_
 rintro e w1 ⟨rfl,rfl⟩
 go_wp2_with fail
 go_region_law (first|(refine zcI rfl (.tmp 18) (.tmp 20) 26 rfl j 108 i0 _ 6 64 Tryz.underlying26 hi N K Q rfl (by decide) (by decide) S.ex q.ex.length (q.ex.flatMap exL) (by rfl) (by exact E _ _) (w.heap.size+1) (exL x) (by rfl) (by exact zbq w _ _) rfl (zia x) (by omega) (by exact O _ _) ?_;intro r' w2 Z z H;have V:=(z.block n (by exact L _ _) HN.out).trans (by exact ((J.out.alloc _).alloc _).cells);obtain⟨d0,d1,d2,d3,d4,d5,d6,d7,d8,d9,df⟩:=zac V))
 all_goals
  have HR:=zc Z
  have HG:=zc z
  have M:=zc H
  clear Z z H V c0 c1 c2 c3 c4 c5 c6 c7 c8 c9 cf
  go_wp2
  go_ret
  obtain⟨m',s'⟩:=J.out.grow_ex (zaT w _ _).drew HG.out HR.out M.out hn
  exact⟨zdM (by omega),_,m',s'⟩
theorem zg3 (x:Im): ∀u∈imL x,u.oneCell'=true:=by
 intro u j
 simp[imL] at j
 rcases j with rfl|rfl|rfl<;>rfl
theorem IM.grow_rq {C:Cx} {K H z n:Nat} {S:Sv} {q:PS} {w W A:World} {j:Rw} {x:ByteArray} (h:IM C K H z n S q w) (X:Below w.heap.size w W) (O:W.grownBy A S.rq.blk) (Z:OwnR A z 9 1 j (q.rq.length+1) (q.rq.map .string++[.string x])) (L:j.blk=S.rq.blk∨j.blk=some W.heap.size) (Q:q.rq.length<40):
  IM C K H z n {S with rq:=j} {q with rq:=q.rq++[x]} (A.setCell ⟨n,4,none⟩ (.slice j.a (q.rq.length+1) j.cap))∧IS n S w {S with rq:=j} (A.setCell ⟨n,4,none⟩ (.slice j.a (q.rq.length+1) j.cap)):=by
 obtain⟨I,E⟩:=h.mem.grow_rq (x:=x) X O Z L (Off.refl _ _ _) Q
 have o:=h.free
 have M:=h.lt
 have D: ¬Sv.has {S with rq:=j} n:=fun g=>(E.sub n g).elim o fun g'=>by omega
 have J: ∀k,k≠n→(A.setCell ⟨n,4,none⟩ (.slice j.a (q.rq.length+1) j.cap)).heap[k]? =A.heap[k]?:=fun k J=>Below.heap_setCell A ⟨n,4,none⟩ _ k J
 have N:(A.setCell ⟨n,4,none⟩ (.slice j.a (q.rq.length+1) j.cap)).heap.size=A.heap.size:=by show (A.heap.modify _ _).size=_;simp
 have U:=(E.block n M o).trans h.cells
 refine⟨⟨⟨I.own.keep fun k g=>J k fun e=>D (by rw[←e];exact g),I.inv,zb0 I.tok (J K h.ne.symm),I.few,by rw[N];exact I.base⟩,?_,h.ge⟩,?_⟩
 ·rw[za9 U]
  simp
 ·exact (show IS n S w {S with rq:=j} A from⟨E.os,E.tape,E.output,E.size,fun k Y V _=>E.block k Y V,E.sub⟩).set _ _
theorem IM.grow_im {C:Cx} {K H z n:Nat} {S:Sv} {q:PS} {w W A:World} {j:Rw} {x:Im} (h:IM C K H z n S q w) (X:Below w.heap.size w W) (O:W.grownBy A S.im.blk) (Z:OwnR A z 100 3 j (q.im.length+1) (q.im.flatMap imL++imL x)) (L:j.blk=S.im.blk∨j.blk=some W.heap.size) (Q:q.im.length<40):
  IM C K H z n {S with im:=j} {q with im:=q.im++[x]} (A.setCell ⟨n,5,none⟩ (.slice j.a (q.im.length+1) j.cap))∧IS n S w {S with im:=j} (A.setCell ⟨n,5,none⟩ (.slice j.a (q.im.length+1) j.cap)):=by
 obtain⟨I,E⟩:=h.mem.grow_im (x:=x) X O Z L (Off.refl _ _ _) Q
 have o:=h.free
 have M:=h.lt
 have D: ¬Sv.has {S with im:=j} n:=fun g=>(E.sub n g).elim o fun g'=>by omega
 have J: ∀k,k≠n→(A.setCell ⟨n,5,none⟩ (.slice j.a (q.im.length+1) j.cap)).heap[k]? =A.heap[k]?:=fun k J=>Below.heap_setCell A ⟨n,5,none⟩ _ k J
 have N:(A.setCell ⟨n,5,none⟩ (.slice j.a (q.im.length+1) j.cap)).heap.size=A.heap.size:=by show (A.heap.modify _ _).size=_;simp
 have U:=(E.block n M o).trans h.cells
 refine⟨⟨⟨I.own.keep fun k g=>J k fun e=>D (by rw[←e];exact g),I.inv,zb0 I.tok (J K h.ne.symm),I.few,by rw[N];exact I.base⟩,?_,h.ge⟩,?_⟩
 ·rw[za9 U]
  simp
 ·exact (show IS n S w {S with im:=j} A from⟨E.os,E.tape,E.output,E.size,fun k Y V _=>E.block k Y V,E.sub⟩).set _ _
theorem IM.grow_ep {C:Cx} {K H z n:Nat} {S:Sv} {q:PS} {w W A:World} {j:Rw} {x:Ep} (h:IM C K H z n S q w) (X:Below w.heap.size w W) (O:W.grownBy A S.ep.blk) (Z:OwnR A z 102 4 j (q.ep.length+1) (q.ep.flatMap epL++epL x)) (L:j.blk=S.ep.blk∨j.blk=some W.heap.size) (Q:q.ep.length+q.la.length<40):
  IM C K H z n {S with ep:=j} {q with ep:=q.ep++[x]} (A.setCell ⟨n,6,none⟩ (.slice j.a (q.ep.length+1) j.cap))∧IS n S w {S with ep:=j} (A.setCell ⟨n,6,none⟩ (.slice j.a (q.ep.length+1) j.cap)):=by
 obtain⟨I,E⟩:=h.mem.grow_ep (x:=x) X O Z L (Off.refl _ _ _) Q
 have o:=h.free
 have M:=h.lt
 have D: ¬Sv.has {S with ep:=j} n:=fun g=>(E.sub n g).elim o fun g'=>by omega
 have J: ∀k,k≠n→(A.setCell ⟨n,6,none⟩ (.slice j.a (q.ep.length+1) j.cap)).heap[k]? =A.heap[k]?:=fun k J=>Below.heap_setCell A ⟨n,6,none⟩ _ k J
 have N:(A.setCell ⟨n,6,none⟩ (.slice j.a (q.ep.length+1) j.cap)).heap.size=A.heap.size:=by show (A.heap.modify _ _).size=_;simp
 have U:=(E.block n M o).trans h.cells
 refine⟨⟨⟨I.own.keep fun k g=>J k fun e=>D (by rw[←e];exact g),I.inv,zb0 I.tok (J K h.ne.symm),I.few,by rw[N];exact I.base⟩,?_,h.ge⟩,?_⟩
 ·rw[za9 U]
  simp
 ·exact (show IS n S w {S with ep:=j} A from⟨E.os,E.tape,E.output,E.size,fun k Y V _=>E.block k Y V,E.sub⟩).set _ _
theorem IM.grow_st {C:Cx} {K H z n:Nat} {S:Sv} {q:PS} {w W A:World} {j:Rw} {x:Sm} (h:IM C K H z n S q w) (X:Below w.heap.size w W) (O:W.grownBy A S.st.blk) (Z:OwnR A z 106 3 j (q.st.length+1) (q.st.flatMap smL++smL x)) (L:j.blk=S.st.blk∨j.blk=some W.heap.size) (Q:q.st.length<80):
  IM C K H z n {S with st:=j} {q with st:=q.st++[x]} (A.setCell ⟨n,7,none⟩ (.slice j.a (q.st.length+1) j.cap))∧IS n S w {S with st:=j} (A.setCell ⟨n,7,none⟩ (.slice j.a (q.st.length+1) j.cap)):=by
 obtain⟨I,E⟩:=h.mem.grow_st (x:=x) X O Z L (Off.refl _ _ _) Q
 have o:=h.free
 have M:=h.lt
 have D: ¬Sv.has {S with st:=j} n:=fun g=>(E.sub n g).elim o fun g'=>by omega
 have J: ∀k,k≠n→(A.setCell ⟨n,7,none⟩ (.slice j.a (q.st.length+1) j.cap)).heap[k]? =A.heap[k]?:=fun k J=>Below.heap_setCell A ⟨n,7,none⟩ _ k J
 have N:(A.setCell ⟨n,7,none⟩ (.slice j.a (q.st.length+1) j.cap)).heap.size=A.heap.size:=by show (A.heap.modify _ _).size=_;simp
 have U:=(E.block n M o).trans h.cells
 refine⟨⟨⟨I.own.keep fun k g=>J k fun e=>D (by rw[←e];exact g),I.inv,zb0 I.tok (J K h.ne.symm),I.few,by rw[N];exact I.base⟩,?_,h.ge⟩,?_⟩
 ·rw[za9 U]
  simp
 ·exact (show IS n S w {S with st:=j} A from⟨E.os,E.tape,E.output,E.size,fun k Y V _=>E.block k Y V,E.sub⟩).set _ _
theorem IM.grow_la {C:Cx} {K H z n:Nat} {S:Sv} {q:PS} {w W A:World} {j:Rw} {x:Ep} (h:IM C K H z n S q w) (X:Below w.heap.size w W) (O:W.grownBy A S.la.blk) (Z:OwnR A z 102 4 j (q.la.length+1) (q.la.flatMap epL++epL x)) (L:j.blk=S.la.blk∨j.blk=some W.heap.size) (Q:q.ep.length+q.la.length<40):
  IM C K H z n {S with la:=j} {q with la:=q.la++[x]} (A.setCell ⟨n,9,none⟩ (.slice j.a (q.la.length+1) j.cap))∧IS n S w {S with la:=j} (A.setCell ⟨n,9,none⟩ (.slice j.a (q.la.length+1) j.cap)):=by
 obtain⟨I,E⟩:=h.mem.grow_la (x:=x) X O Z L (Off.refl _ _ _) Q
 have o:=h.free
 have M:=h.lt
 have D: ¬Sv.has {S with la:=j} n:=fun g=>(E.sub n g).elim o fun g'=>by omega
 have J: ∀k,k≠n→(A.setCell ⟨n,9,none⟩ (.slice j.a (q.la.length+1) j.cap)).heap[k]? =A.heap[k]?:=fun k J=>Below.heap_setCell A ⟨n,9,none⟩ _ k J
 have N:(A.setCell ⟨n,9,none⟩ (.slice j.a (q.la.length+1) j.cap)).heap.size=A.heap.size:=by show (A.heap.modify _ _).size=_;simp
 have U:=(E.block n M o).trans h.cells
 refine⟨⟨⟨I.own.keep fun k g=>J k fun e=>D (by rw[←e];exact g),I.inv,zb0 I.tok (J K h.ne.symm),I.few,by rw[N];exact I.base⟩,?_,h.ge⟩,?_⟩
 ·rw[za9 U]
  simp
 ·exact (show IS n S w {S with la:=j} A from⟨E.os,E.tape,E.output,E.size,fun k Y V _=>E.block k Y V,E.sub⟩).set _ _
theorem zlM (C:Cx) (U D j n:Nat) (S:Sv) (q:PS) (x:Im) (w:World) (h:IM C U D j n S q w) (hn:q.im.length<40):
  Calls Tryz.prog 196 #[.pointer (some ⟨n,0,none⟩),imV x] w fun e Y=>e= .returned (.tuple #[])∧∃X,IM C U D j n X {q with im:=q.im++[x]} Y∧IS n S w X Y:=by
 obtain⟨i0,hi,N,K,Q⟩:=info_parts Tryz.infoImp
 have J:=zc h
 have aa:=h.lt
 obtain⟨c0,c1,c2,c3,c4,c5,c6,c7,c8,c9,cf⟩:=zac h.cells
 have E:=fun o A=>((J.out.mem.own.im.alloc o).drew.alloc A)
 have ab:=h.mem.base
 have I:some n≠S.im.blk:=fun e=>J.out.free (.inr (.inl e.symm))
 have HN:=zc I
 have O: ∀o A,j≤((w.alloc o).alloc A).heap.size:=fun o A=>by rw[zc1];omega
 have L: ∀o A,n<((w.alloc o).alloc A).heap.size:=fun o A=>by rw[zc1];omega
 clear h I
 unfold imV
 go_enter Tryz.func196,Tryz.ntmps196
 go_wp2_with fail
 refine (zd3 n q.im.length 40 _ (by omega)).mono ?_
 rintro e w1 ⟨rfl,rfl⟩
 go_wp2_with fail
 go_region_law (first|(refine zcI rfl (.tmp 17) (.tmp 19) 23 rfl j 100 i0 _ 3 48 Tryz.underlying23 hi N K Q rfl (by decide) (by decide) S.im q.im.length (q.im.flatMap imL) (by rfl) (by exact E _ _) (w.heap.size+1) (imL x) (by rfl) (by exact zbq w _ _) rfl (zg3 x) (by omega) (by exact O _ _) ?_;intro r' w2 Z z H;have V:=(z.block n (by exact L _ _) HN.out).trans (by exact ((J.out.alloc _).alloc _).cells);obtain⟨d0,d1,d2,d3,d4,d5,d6,d7,d8,d9,df⟩:=zac V))
 all_goals
  have HR:=zc Z
  have HG:=zc z
  have M:=zc H
  clear Z z H V c0 c1 c2 c3 c4 c5 c6 c7 c8 c9 cf
  go_wp2
  go_end0
  obtain⟨m',s'⟩:=J.out.grow_im (zaT w _ _).drew HG.out HR.out M.out hn
  exact⟨rfl,_,m',s'⟩
end Go.Proofs.YticdggnnpjachaaGreat
