/-
  What passSigns of impl's parser answers: the walk.
  'append' of one element onto a row of the call's own,as one step of a region that draws its order. No program is spoken of.
  What spec's readers of one token answer: l4Full,l4Sign,l4Word,l4Reserved,l4Plain,l4Name: the walks.
  What spec's l4Plain and l4Name answer: the walks.
  What spec's l4Add,l4Imp,l4Stmt and l4Exp answer: the walks.
  What addExpr of impl's parser answers where there is room: the walk.
  A row of impl's parser grows by one element; what addImp answers where there is room: the walk.
-/
import Derived.Test.YticdggnnpjachaaGreatCbImplParseCToImplParseD
namespace Go.Proofs.YticdggnnpjachaaGreat
set_option maxRecDepth 100000
set_option maxHeartbeats 3200000
open Go.RowKit Go.PlainAid Go.Sort
def zaB (C:Cx) (s:ByteArray):Nat→Nat→PS→PR
 |0,_,q=>.ok q
 |n+1,k,q=>bd (zd C 4 (s.extract k (k+1)) q) (zaB C s n (k+1))
theorem zgy {C:Cx} {k:Int} {x:ByteArray} {q:PS} (h:isT C q.pos k x=false):zd C k x q= .error (zr C q.pos):=by rw[zd,h];rfl
theorem zbG {C:Cx} {k:Int} {x:ByteArray} {q:PS} (h:isT C q.pos k x=true):zd C k x q= .ok (adv q):=if_pos h
theorem zgz (C:Cx) (I o n D:Nat) (S:Sv) (q:PS) (s:ByteArray) (w:World) (h:IM C I o n D S q w) (hs:s.size≤100):
  Calls Tryz.prog 153 #[.pointer (some ⟨D,0,none⟩),.string s] w (zQ C I o n D (zaB C s s.size 0 q) id (fun _=>.tuple #[]) S w):=by
 have N:=zc h
 clear h
 go_enter Tryz.func153,Tryz.ntmps153
 go_wp2
 go_loopg [7] s.size (fun k i wr=>∃(j:Nat) (z:PS),i= .int .i64 j∧j+k=s.size∧zaB C s k j z=zaB C s s.size 0 q∧IM C I o n D S z wr∧IS D S w S wr)
 case atStart=>exact⟨0,q,rfl,by omega,rfl,N.out,IS.refl _ _ _⟩
 case round=>
  obtain⟨j,z,rfl,X,he,m,t⟩:=hrel
  have J:=zc he
  have Y:=zc m
  have HS:=zc t
  clear he m t
  match gk,X,J with
  |0,X,J=>
   have aa: ¬j<s.size:=by omega
   go_wp2
   go_end0
   rw[←J.out]
   exact⟨rfl,S,Y.out,HS.out⟩
  |k+1,X,J=>
   have aa:j<s.size:=by omega
   obtain⟨A,K⟩: ∃A,A=j+1:=⟨_,rfl⟩
   have ej:(j:Int)+1=(A:Int):=by omega
   have ad:A≤s.size:=by omega
   have ac:j≤A:=by omega
   have Q:=zc K
   clear K
   cases M:isT C z.pos 4 (s.extract j A) with
   |true=>
    have V:Hid (zaB C s k A (adv z)=zaB C s s.size 0 q):=by
     show _=_
     rw[←J.out,zaB,←Q.out,zbG M]
     rfl
    go_wp2_with fail
    refine (zK C I o n D S z 4 (s.extract j A) _ Y.out (by decide)).mono ?_
    rintro e Z ⟨rfl,H,L⟩
    rw[M] at H ⊢
    have E:=zc H
    have U:Hid (IS D S w S Z):=HS.out.trans L
    clear H L
    go_wp2
    go_roundg k
    case rel=>exact⟨A,adv z,rfl,by have:=Q.out;omega,V.out,E.out,U.out⟩
    case measure=>omega
   |false=>
    have V:Hid (zaB C s s.size 0 q= .error (zr C z.pos)):=by
     show _=_
     rw[←J.out,zaB,←Q.out,zgy M]
     rfl
    go_wp2_with fail
    refine (zK C I o n D S z 4 (s.extract j A) _ Y.out (by decide)).mono ?_
    rintro e Z ⟨rfl,H,L⟩
    rw[M] at H ⊢
    have E:=zc H
    have HB:Hid (Below n w Z):=(HS.out.trans L).under N.out.mem.base N.out.mem.own N.out.ge
    clear H L
    go_wp2_with fail
    refine (zdZ C I o n D S z _ E.out).mono ?_
    rintro e w2 ⟨rfl,ab⟩
    have O:Hid (Below n w w2):=HB.out.trans (ab.mono E.out.mem.base)
    unfold Pan
    go_wp2
    refine⟨rfl,?_⟩
    rw[V.out]
    exact⟨rfl,O.out⟩
theorem zcI {P:Program} {N:Array Oper} {o:Oper} {a:Act} {W:World} {K:Act→World→Prop} {Q:Exit→Act→World→Prop} {E:Prop} (Z:o.guard=none) (s x:Operand) (t:TypeId)
  (ho:o.op= .call {callee:=.builtin .append,args:=#[s,x],argTypes:=#[t,t]})
  (D:Nat) (e:TypeId) (i:TypeInfo) (z:Value) (size q:Nat) (ht:P.underlying t=some (.slice e)) (hi:P.info? e=some i) (hz:i.zero=some z) (J:i.size=size) (aa:i.bytes=q) (X:z.cells.size=size) (ab:0<size) (U:q≤100)
  (r:Rw) (n:Nat) (xs:List Value) (hs:a.eval s= .slice r.a n r.cap) (L:OwnR W D e size r n xs)
  (V:Nat) (A:List Value) (hx:a.eval x= .slice (some ⟨V,0,none⟩) 1 1) (hg:W.heap[V]? =some (.cells A.toArray e (0,0))) (hl:A.length=size) (h1: ∀u∈A,u.oneCell'=true) (hn:n+1≤1000000) (I:D≤W.heap.size)
  (h: ∀O M,OwnR M D e size O (n+1) (xs++A)→W.grownBy M r.blk→(O.blk=r.blk∨O.blk=some W.heap.size)→K (a.put o.dst (.slice O.a (n+1) O.cap)) M):
  if Region.wanted o (yielded N a.tmps)=true then Oper.wp P o a W K Q else E:=by
 have hw:Region.wanted o (yielded N a.tmps)=true:=by simp[Region.wanted,Z]
 rw[if_pos hw]
 obtain⟨v',M,hr,h2,h3,_,h5⟩:=run_append_own_at (P:=P) W D t o.type e i z size q ht hi hz J aa X ab _ n xs L ⟨V,0,none⟩ 1 1 A (by omega) (by
  intro j u hj
  have e1:(⟨V,0,none⟩:Addr).add j=⟨V,j,none⟩:=by simp[Addr.add];exact fun h=>h.symm
  rw[e1]
  simp[World.cell?,hg,hj]) h1 (by unfold maxLen;omega) (by have:(n+1)*q≤1000000*100:=Nat.mul_le_mul hn U;omega) I
 unfold Oper.wp execOp
 simp only[ho,resolve,invoke,builtin,Sem.run_bind,Sem.run_pure,Result.andThen_ok,List.map_toArray,List.map_cons,List.map_nil,hs,hx,hr]
 rcases h2.2 with ⟨hv,ac⟩|⟨g',H,ad,rfl,Y⟩
 ·omega
 ·refine h ⟨some ⟨g',0,none⟩,H⟩ M h2 ?_ ?_
  ·rw[←zbo r n];exact h3
  ·rw[←zbo r n,←zbo ⟨some ⟨g',0,none⟩,H⟩ (n+1)];exact h5
def Is (x:PR) (q:PS) (z:Int):Prop:=
 match x with
 | .ok q0=>q=q0∧z= -1
 | .error e=>z=(e:Int)
theorem zX (q:PS):Is (.ok q) q (-1):=⟨rfl,rfl⟩
theorem zaC {x:PR} {q:PS} {z:Int} (h:Is x q z) (j:z<0):x= .ok q∧z= -1:=by
 cases x with
 |ok n=>obtain⟨rfl,rfl⟩:=h;exact⟨rfl,rfl⟩
 |error e=>have:z=(e:Int):=h;omega
theorem zdc {x:PR} {q:PS} {z:Int} (h:Is x q z) (j: ¬z<0): ∃e,x= .error e∧z=(e:Int):=by
 cases x with
 |ok n=>obtain⟨rfl,rfl⟩:=h;exact absurd (by decide) j
 |error e=>exact⟨e,rfl,h⟩
def Out (C:Cx) (gt cap base:Nat) (y:PR) (d:Nat) (S:Sv) (w:World) (e:Ending) (w':World):Prop:=
 ∃S' q' z',e= .returned (pv C gt cap S' q' z' d)∧Is y q' z'∧Mem C gt cap base S' q' w'∧Stp S w S' w'
theorem zcl {C:Cx} {o n j:Nat} {y:PR} {d:Nat} {S:Sv} {w q:World} {q':PS} {z':Int} {v:Value} (A:v=pv C o n S q' z' d) (E:Is y q' z') (D:Mem C o n j S q' w) (z:Below w.heap.size w q):Out C o n j y d S w (.returned v) q:=
 ⟨S,q',z',by rw[A],E,D.later z,Stp.below z⟩
theorem zeG (C:Cx) (D j n:Nat) (S:Sv) (q:PS) (z:Int) (d:Nat) (w:World) (o:Mem C D j n S q w) (N:z<0) (M:1≤q.pos):
  Calls Tryz.prog 138 #[pv C D j S q z d] w fun e J=>e= .returned (pv C D j S q (zr C (q.pos-1)) d)∧Below w.heap.size w J:=by
 obtain⟨p,A⟩: ∃p,q.pos=p+1:=⟨q.pos-1,by omega⟩
 have E:p<C.ts.length:=by have:=o.inv.pos;omega
 have I:=o.few
 obtain⟨_,_,_,L⟩:=o.tok.cells E (d:=⟨0,sNone,0,C.fin⟩)
 have H:=(zan o.tok).1
 change _=some (Value.int .i64 (zr C p)) at L
 rw[show q.pos-1=p from by omega]
 have K:(q.pos:Int)-1=p:=by omega
 clear A
 unfold pv
 go_enter Tryz.func138,Tryz.ntmps138
 go_wp2
 refine bodyPost_ret (results_cell_row rfl _ _ (w.heap.size+1) 53 _ (0,0) _ rfl (zbq w _ _) Tryz.underlying53 rfl (by kernel_rfl)) rfl ?_
 exact⟨rfl,zaT w _ _⟩
theorem zad (C:Cx) (J n j:Nat) (x:PR) (S:Sv) (q:PS) (z:Int) (d:Nat) (s:ByteArray) (w:World) (hx:Is x q z) (X:Mem C J n j S q w):
  Calls Tryz.prog 74 #[pv C J n S q z d,.string s] w (Out C J n j (bd x (zd C 4 s)) d S w):=by
 have HM:=zc X
 have A:=X.tok
 have D:=X.few
 have HX:=zc hx
 clear hx X
 cases o:(decide (z<0)&&isT C q.pos 4 s) with
 |true=>
  have ab:q.pos<C.ts.length:=by rw[Bool.and_eq_true] at o;exact za1 o.2 (by decide)
  have HY:Hid (Is (bd x (zd C 4 s)) (adv q) z):=by
   rw[Bool.and_eq_true,decide_eq_true_eq] at o
   obtain⟨K,Y⟩:=zaC HX.out o.1
   show Is (bd x (zd C 4 s)) (adv q) z
   rw[K,zz,zd,if_pos o.2]
   exact⟨rfl,Y⟩
  unfold pv
  go_enter Tryz.func74,Tryz.ntmps74
  go_wp2_with fail
  refine (zh C J n j S q z d 4 s _ (zq (zq A _) _) D (by decide)).mono ?_
  rintro e w1 ⟨rfl,E⟩
  rw[o]
  obtain⟨Q,H⟩:=zcz E
  obtain⟨a0,a1,a2,a3,a4,a5,a6,a7,a8,a9,L,U,af⟩:=zaj Q
  obtain⟨b0,b1,b2,b3,b4,b5,b6,b7,b8,b9,O,M,bf⟩:=zaj H
  have Z:=zc H
  clear Q H o
  go_wp2
  refine bodyPost_ret (results_cell_row rfl _ _ (w.heap.size+1) 53 _ (0,0) _ rfl (zaS ((zi (by omega)).trans Z.out)) Tryz.underlying53 rfl (by kernel_rfl)) rfl ?_
  exact zcl rfl HY.out (HM.out.adv ab) (zbD ((zaZ E).setCell (Nat.le_refl _) _) (Nat.le_succ _) ..)
 |false=>
  have HY:Hid (Is (bd x (zd C 4 s)) q (zbp C q.pos z)):=by
   show Is (bd x (zd C 4 s)) q (zbp C q.pos z)
   unfold zbp
   by_cases N:z<0
   ·obtain⟨K,Y⟩:=zaC HX.out N
    simp only[N,decide_true,Bool.true_and] at o
    rw[K,zz,zd,o,if_pos N]
    rfl
   ·obtain⟨e,K,Y⟩:=zdc HX.out N
    rw[K,zdU,if_neg N]
    exact Y
  unfold pv
  go_enter Tryz.func74,Tryz.ntmps74
  go_wp2_with fail
  refine (zh C J n j S q z d 4 s _ (zq (zq A _) _) D (by decide)).mono ?_
  rintro e w1 ⟨rfl,E⟩
  rw[o]
  obtain⟨Q,H⟩:=zcz E
  obtain⟨a0,a1,a2,a3,a4,a5,a6,a7,a8,a9,L,U,af⟩:=zaj Q
  obtain⟨b0,b1,b2,b3,b4,b5,b6,b7,b8,b9,O,M,bf⟩:=zaj H
  have Z:=zc H
  have I:=zbV A (zaZ E)
  clear Q H o
  go_wp2_with fail
  refine (zda C J n j S q z d _ I D).mono ?_
  rintro e w2 ⟨rfl,V⟩
  have G3:Hid (_=_):=(V.block _ (Nat.lt_of_lt_of_le (by simp) E.size)).trans Z.out
  obtain⟨c0,c1,c2,c3,c4,c5,c6,c7,c8,c9,ac,ad,cf⟩:=zaj G3.out
  have aa:=(zaZ E).trans (V.mono (zaZ E).size)
  clear a0 a1 a2 a3 a4 a5 a6 a7 a8 a9 L U b0 b1 b2 b3 b4 b5 b6 b7 b8 b9 O M af bf
  unfold pv
  go_wp2
  refine bodyPost_ret (results_cell_row rfl _ _ (w.heap.size+1) 53 _ (0,0) _ rfl (zaS G3.out) Tryz.underlying53 rfl (by kernel_rfl)) rfl ?_
  exact zcl rfl HY.out HM.out (zbD aa (Nat.le_succ _) ..)
-- GEN
theorem zaH (C:Cx) (J n j:Nat) (x:PR) (S:Sv) (q:PS) (z:Int) (d:Nat) (s:ByteArray) (w:World) (hx:Is x q z) (X:Mem C J n j S q w):
  Calls Tryz.prog 76 #[pv C J n S q z d,.string s] w (Out C J n j (bd x (zd C 1 s)) d S w):=by
 have HM:=zc X
 have A:=X.tok
 have D:=X.few
 have HX:=zc hx
 clear hx X
 cases o:(decide (z<0)&&isT C q.pos 1 s) with
 |true=>
  have ab:q.pos<C.ts.length:=by rw[Bool.and_eq_true] at o;exact za1 o.2 (by decide)
  have HY:Hid (Is (bd x (zd C 1 s)) (adv q) z):=by
   rw[Bool.and_eq_true,decide_eq_true_eq] at o
   obtain⟨K,Y⟩:=zaC HX.out o.1
   show Is (bd x (zd C 1 s)) (adv q) z
   rw[K,zz,zd,if_pos o.2]
   exact⟨rfl,Y⟩
  unfold pv
  go_enter Tryz.func76,Tryz.ntmps76
  go_wp2_with fail
  refine (zh C J n j S q z d 1 s _ (zq (zq A _) _) D (by decide)).mono ?_
  rintro e w1 ⟨rfl,E⟩
  rw[o]
  obtain⟨Q,H⟩:=zcz E
  obtain⟨a0,a1,a2,a3,a4,a5,a6,a7,a8,a9,L,U,af⟩:=zaj Q
  obtain⟨b0,b1,b2,b3,b4,b5,b6,b7,b8,b9,O,M,bf⟩:=zaj H
  have Z:=zc H
  clear Q H o
  go_wp2
  refine bodyPost_ret (results_cell_row rfl _ _ (w.heap.size+1) 53 _ (0,0) _ rfl (zaS ((zi (by omega)).trans Z.out)) Tryz.underlying53 rfl (by kernel_rfl)) rfl ?_
  exact zcl rfl HY.out (HM.out.adv ab) (zbD ((zaZ E).setCell (Nat.le_refl _) _) (Nat.le_succ _) ..)
 |false=>
  have HY:Hid (Is (bd x (zd C 1 s)) q (zbp C q.pos z)):=by
   show Is (bd x (zd C 1 s)) q (zbp C q.pos z)
   unfold zbp
   by_cases N:z<0
   ·obtain⟨K,Y⟩:=zaC HX.out N
    simp only[N,decide_true,Bool.true_and] at o
    rw[K,zz,zd,o,if_pos N]
    rfl
   ·obtain⟨e,K,Y⟩:=zdc HX.out N
    rw[K,zdU,if_neg N]
    exact Y
  unfold pv
  go_enter Tryz.func76,Tryz.ntmps76
  go_wp2_with fail
  refine (zh C J n j S q z d 1 s _ (zq (zq A _) _) D (by decide)).mono ?_
  rintro e w1 ⟨rfl,E⟩
  rw[o]
  obtain⟨Q,H⟩:=zcz E
  obtain⟨a0,a1,a2,a3,a4,a5,a6,a7,a8,a9,L,U,af⟩:=zaj Q
  obtain⟨b0,b1,b2,b3,b4,b5,b6,b7,b8,b9,O,M,bf⟩:=zaj H
  have Z:=zc H
  have I:=zbV A (zaZ E)
  clear Q H o
  go_wp2_with fail
  refine (zda C J n j S q z d _ I D).mono ?_
  rintro e w2 ⟨rfl,V⟩
  have G3:Hid (_=_):=(V.block _ (Nat.lt_of_lt_of_le (by simp) E.size)).trans Z.out
  obtain⟨c0,c1,c2,c3,c4,c5,c6,c7,c8,c9,ac,ad,cf⟩:=zaj G3.out
  have aa:=(zaZ E).trans (V.mono (zaZ E).size)
  clear a0 a1 a2 a3 a4 a5 a6 a7 a8 a9 L U b0 b1 b2 b3 b4 b5 b6 b7 b8 b9 O M af bf
  unfold pv
  go_wp2
  refine bodyPost_ret (results_cell_row rfl _ _ (w.heap.size+1) 53 _ (0,0) _ rfl (zaS G3.out) Tryz.underlying53 rfl (by kernel_rfl)) rfl ?_
  exact zcl rfl HY.out HM.out (zbD aa (Nat.le_succ _) ..)
theorem zd4 (s:ByteArray) (j:Bool) (w:World):
  Calls Tryz.prog 166 #[.string s,.bool j] w fun e L=>e= .returned (.bool (zu s j))∧L=w:=by
 cases o:(s.toList==[105,109,112,111,114,116]) with
 |true=>
  have n:Hid (zu s j=true):=by show zu s j=true;simp[zu,o]
  go_enter Tryz.func166,Tryz.ntmps166
  go_wp2
  go_ret
  exact⟨zm n.out.symm,rfl⟩
 |false=>
  cases q:(s.toList==[101,120,112,111,114,116]) with
  |true=>
   have n:Hid (zu s j=true):=by show zu s j=true;simp[zu,o,q]
   go_enter Tryz.func166,Tryz.ntmps166
   go_wp2
   go_ret
   exact⟨zm n.out.symm,rfl⟩
  |false=>
   cases z:(s.toList==[100,101,102,97,117,108,116]) with
   |true=>
    have n:Hid (zu s j=true):=by show zu s j=true;simp[zu,o,q,z]
    go_enter Tryz.func166,Tryz.ntmps166
    go_wp2
    go_ret
    exact⟨zm n.out.symm,rfl⟩
   |false=>
    cases A:(s.toList==[108,101,116]) with
    |true=>
     have n:Hid (zu s j=true):=by show zu s j=true;simp[zu,o,q,z,A]
     go_enter Tryz.func166,Tryz.ntmps166
     go_wp2
     go_ret
     exact⟨zm n.out.symm,rfl⟩
    |false=>
     cases D:(s.toList==[102,117,110,99,116,105,111,110]) with
     |true=>
      have n:Hid (zu s j=true):=by show zu s j=true;simp[zu,o,q,z,A,D]
      go_enter Tryz.func166,Tryz.ntmps166
      go_wp2
      go_ret
      exact⟨zm n.out.symm,rfl⟩
     |false=>
      cases E:(s.toList==[114,101,116,117,114,110]) with
      |true=>
       have n:Hid (zu s j=true):=by show zu s j=true;simp[zu,o,q,z,A,D,E]
       go_enter Tryz.func166,Tryz.ntmps166
       go_wp2
       go_ret
       exact⟨zm n.out.symm,rfl⟩
      |false=>
       cases H:(s.toList==[112,114,105,110,116]) with
       |true=>
        have n:Hid (zu s j=true):=by show zu s j=true;simp[zu,o,q,z,A,D,E,H]
        go_enter Tryz.func166,Tryz.ntmps166
        go_wp2
        go_ret
        exact⟨zm n.out.symm,rfl⟩
       |false=>
        cases I:(s.toList==[116,104,114,111,119]) with
        |true=>
         have n:Hid (zu s j=true):=by show zu s j=true;simp[zu,o,q,z,A,D,E,H,I]
         go_enter Tryz.func166,Tryz.ntmps166
         go_wp2
         go_ret
         exact⟨zm n.out.symm,rfl⟩
        |false=>
         cases J:(s.toList==[102,97,105,108]) with
         |true=>
          have n:Hid (zu s j=j):=by show zu s j=j;simp[zu,o,q,z,A,D,E,H,I,J]
          go_enter Tryz.func166,Tryz.ntmps166
          go_wp2
          go_ret
          exact⟨zm n.out.symm,rfl⟩
         |false=>
          cases K:(s.toList==[117,110,100,101,102]) with
          |true=>
           have n:Hid (zu s j=j):=by show zu s j=j;simp[zu,o,q,z,A,D,E,H,I,J,K]
           go_enter Tryz.func166,Tryz.ntmps166
           go_wp2
           go_ret
           exact⟨zm n.out.symm,rfl⟩
          |false=>
           have n:Hid (zu s j=false):=by show zu s j=false;simp[zu,o,q,z,A,D,E,H,I,J,K]
           go_enter Tryz.func166,Tryz.ntmps166
           go_wp2
           go_ret
           exact⟨zm n.out.symm,rfl⟩
theorem zlK {C:Cx} {i:Nat} {o:Bool} (h:((ze C i).kind==1)=false):zD C i o=false:=by rw[zD,h];rfl
theorem zg0 {C:Cx} {i:Nat} {o:Bool} (h: ¬i<C.ts.length):zD C i o=false:=by
 rw[Bool.eq_false_iff]
 exact fun g=>h (ze4 g)
theorem zfz (C:Cx) (V H I:Nat) (S:Sv) (q:PS) (z:Int) (d:Nat) (o:Bool) (w:World) (O:OwnT w I 111 V C.ts.length H C.ts) (_:C.ts.length≤4000):
  Calls Tryz.prog 133 #[pv C V H S q z d,.bool o] w fun e A=>e= .returned (.bool (decide (z<0)&&zD C q.pos o))∧Below w.heap.size w A:=by
 unfold pv
 by_cases U:z<0
 ·have D:decide (z<0)=true:=decide_eq_true U
  have L:decide (0≤z)=false:=decide_eq_false (by omega)
  by_cases M:q.pos<C.ts.length
  ·obtain⟨Y,Q,_,_⟩:=O.cells M (d:=⟨0,sNone,0,C.fin⟩)
   have N:=(zan O).1
   change _=some (Value.int .i64 (ze C q.pos).kind) at Y
   change _=some (Value.string (ze C q.pos).text) at Q
   generalize j:ze C q.pos=t at Y Q
   cases E:(t.kind==1) with
   |true=>
    have K:(t.kind !=1)=false:=by rw[bne,E];rfl
    cases J:zu t.text C.scr with
    |false=>
     have n:Hid (zD C q.pos o=true):=by show zD C q.pos o=true;simp only[zD,j,E,J,Bool.not_false,Bool.true_or,Bool.and_self]
     clear j
     go_enter Tryz.func133,Tryz.ntmps133
     go_wp2_with (first|(go_at_call 166;refine (zd4 _ _ _).mono ?_;rintro e A ⟨rfl,rfl⟩))
     go_ret
     exact⟨zm (by first|(rw[D,n.out];rfl)|rfl),(Below.refl _ _).alloc (Nat.le_refl _) _⟩
    |true=>
     cases o with
     |true=>
      cases X:(t.text.toList==[100,101,102,97,117,108,116]) with
      |true=>
       have n:Hid (zD C q.pos true=true):=by show zD C q.pos true=true;simp only[zD,j,E,J,X,Bool.not_true,Bool.and_self,Bool.false_or]
       clear j
       go_enter Tryz.func133,Tryz.ntmps133
       go_wp2_with (first|(go_at_call 166;refine (zd4 _ _ _).mono ?_;rintro e A ⟨rfl,rfl⟩))
       go_ret
       exact⟨zm (by first|(rw[D,n.out];rfl)|rfl),(Below.refl _ _).alloc (Nat.le_refl _) _⟩
      |false=>
       have n:Hid (zD C q.pos true=false):=by show zD C q.pos true=false;simp only[zD,j,E,J,X,Bool.not_true,Bool.true_and,Bool.or_self]
       clear j
       go_enter Tryz.func133,Tryz.ntmps133
       go_wp2_with (first|(go_at_call 166;refine (zd4 _ _ _).mono ?_;rintro e A ⟨rfl,rfl⟩))
       go_ret
       exact⟨zm (by first|(rw[D,n.out];rfl)|rfl),(Below.refl _ _).alloc (Nat.le_refl _) _⟩
     |false=>
      have n:Hid (zD C q.pos false=false):=by show zD C q.pos false=false;simp only[zD,j,E,J,Bool.not_true,Bool.false_and,Bool.or_self,Bool.and_false]
      clear j
      go_enter Tryz.func133,Tryz.ntmps133
      go_wp2_with (first|(go_at_call 166;refine (zd4 _ _ _).mono ?_;rintro e A ⟨rfl,rfl⟩))
      go_ret
      exact⟨zm (by first|(rw[D,n.out];rfl)|rfl),(Below.refl _ _).alloc (Nat.le_refl _) _⟩
   |false=>
    have K:(t.kind !=1)=true:=by rw[bne,E];rfl
    have n:Hid (zD C q.pos o=false):=zlK (by rw[j];exact E)
    clear j
    go_enter Tryz.func133,Tryz.ntmps133
    go_wp2_with (first|(go_at_call 166;refine (zd4 _ _ _).mono ?_;rintro e A ⟨rfl,rfl⟩))
    go_ret
    exact⟨zm (by first|(rw[D,n.out];rfl)|rfl),(Below.refl _ _).alloc (Nat.le_refl _) _⟩
  ·have n:Hid (zD C q.pos o=false):=zg0 M
   go_enter Tryz.func133,Tryz.ntmps133
   go_wp2_with (first|(go_at_call 166;refine (zd4 _ _ _).mono ?_;rintro e A ⟨rfl,rfl⟩))
   go_ret
   exact⟨zm (by first|(rw[D,n.out];rfl)|rfl),(Below.refl _ _).alloc (Nat.le_refl _) _⟩
 ·have D:decide (z<0)=false:=decide_eq_false U
  have L:decide (0≤z)=true:=decide_eq_true (by omega)
  have n:Hid (zD C q.pos o=zD C q.pos o):=rfl
  go_enter Tryz.func133,Tryz.ntmps133
  go_wp2_with (first|(go_at_call 166;refine (zd4 _ _ _).mono ?_;rintro e A ⟨rfl,rfl⟩))
  go_ret
  exact⟨zm (by first|(rw[D,n.out];rfl)|rfl),(Below.refl _ _).alloc (Nat.le_refl _) _⟩
def Is2 (y:Except Nat (PS×ByteArray)) (q:PS) (z:Int) (n:ByteArray):Prop:=
 match y with
 | .ok a=>q=a.1∧z= -1∧n=a.2
 | .error e=>z=(e:Int)
theorem Is2.fst {y:Except Nat (PS×ByteArray)} {q:PS} {z:Int} {n:ByteArray} (h:Is2 y q z n):Is (zaK y) q z:=by
 cases y with
 |ok a=>exact⟨h.1,h.2.1⟩
 |error e=>exact h
theorem Is2.bind {y:Except Nat (PS×ByteArray)} {q:PS} {z:Int} {n:ByteArray} (h:Is2 y q z n) {β:Type} (F:PS→ByteArray→Except Nat β):bd (zaK y) (fun q=>F q n)=bd y fun a=>F a.1 a.2:=by
 cases y with
 |ok a=>obtain⟨_,_,rfl⟩:=h;rfl
 |error e=>rfl
def zdo (C:Cx) (gt cap base:Nat) (y:Except Nat (PS×ByteArray)) (d:Nat) (S:Sv) (w:World) (e:Ending) (w':World):Prop:=
 ∃S' q' z' n',e= .returned (.tuple #[pv C gt cap S' q' z' d,.string n'])∧Is2 y q' z' n'∧Mem C gt cap base S' q' w'∧Stp S w S' w'
theorem zd5 {C:Cx} {o n j:Nat} {y:Except Nat (PS×ByteArray)} {d:Nat} {S:Sv} {w z:World} {q':PS} {z':Int} {q:ByteArray} {v:Value} (D:v=pv C o n S q' z' d) (H:Is2 y q' z' q) (E:Mem C o n j S q' w) (A:Below w.heap.size w z):zdo C o n j y d S w (.returned (.tuple #[v,.string q])) z:=
 ⟨S,q',z',q,by rw[D],H,E.later A,Stp.below A⟩
theorem zbe (C:Cx) (J D j:Nat) (x:PR) (S:Sv) (q:PS) (z:Int) (d:Nat) (o:Bool) (w:World) (hx:Is x q z) (X:Mem C J D j S q w):
  Calls Tryz.prog 78 #[pv C J D S q z d,.bool o] w (zdo C J D j (bd x (zj C o)) d S w):=by
 have HM:=zc X
 have A:=X.tok
 have H:=X.few
 have HX:=zc hx
 clear hx X
 cases E:(decide (z<0)&&zD C q.pos o) with
 |true=>
  have Q:q.pos<C.ts.length:=by rw[Bool.and_eq_true] at E;exact ze4 E.2
  have HY:Hid (Is2 (bd x (zj C o)) (adv q) z (ze C q.pos).text):=by
   rw[Bool.and_eq_true,decide_eq_true_eq] at E
   obtain⟨L,Y⟩:=zaC HX.out E.1
   show Is2 (bd x (zj C o)) (adv q) z (ze C q.pos).text
   rw[L,zz,zj,if_pos E.2]
   exact⟨rfl,Y,rfl⟩
  unfold pv
  go_enter Tryz.func78,Tryz.ntmps78
  go_wp2_with fail
  refine (zfz C J D j S q z d o _ (zq (zq A _) _) H).mono ?_
  rintro e w1 ⟨rfl,I⟩
  rw[E]
  obtain⟨O,K⟩:=zcz I
  obtain⟨a0,a1,a2,a3,a4,a5,a6,a7,a8,a9,M,U,af⟩:=zaj O
  obtain⟨b0,b1,b2,b3,b4,b5,b6,b7,b8,b9,ae,ad,bf⟩:=zaj K
  have n:=zbV A (zaZ I)
  obtain⟨_,c1,_,_⟩:=n.cells Q (d:=⟨0,sNone,0,C.fin⟩)
  change _=some (Value.string (ze C q.pos).text) at c1
  have Z:=zc K
  clear O K E
  go_wp2
  refine bodyPost_ret (zaA rfl _ _ (w.heap.size+1) 53 _ (0,0) _ rfl (zaS ((zi (by omega)).trans Z.out)) Tryz.underlying53 rfl (by kernel_rfl)) rfl ?_
  exact zd5 rfl HY.out (HM.out.adv Q) (zbD ((zaZ I).setCell (Nat.le_refl _) _) (Nat.le_succ _) ..)
 |false=>
  have HY:Hid (Is2 (bd x (zj C o)) q (zbp C q.pos z) sNone):=by
   show Is2 (bd x (zj C o)) q (zbp C q.pos z) sNone
   unfold zbp
   by_cases N:z<0
   ·obtain⟨L,Y⟩:=zaC HX.out N
    simp only[N,decide_true,Bool.true_and] at E
    rw[L,zz,zj,E,if_pos N]
    rfl
   ·obtain⟨e,L,Y⟩:=zdc HX.out N
    rw[L,zdU,if_neg N]
    exact Y
  unfold pv
  go_enter Tryz.func78,Tryz.ntmps78
  go_wp2_with fail
  refine (zfz C J D j S q z d o _ (zq (zq A _) _) H).mono ?_
  rintro e w1 ⟨rfl,I⟩
  rw[E]
  obtain⟨O,K⟩:=zcz I
  obtain⟨a0,a1,a2,a3,a4,a5,a6,a7,a8,a9,M,U,af⟩:=zaj O
  have Z:=zc K
  have n:=zbV A (zaZ I)
  clear O K E
  go_wp2_with fail
  refine (zda C J D j S q z d _ n H).mono ?_
  rintro e w2 ⟨rfl,V⟩
  have G3:Hid (_=_):=(V.block _ (Nat.lt_of_lt_of_le (by simp) I.size)).trans Z.out
  obtain⟨c0,c1,c2,c3,c4,c5,c6,c7,c8,c9,ab,ac,cf⟩:=zaj G3.out
  have aa:=(zaZ I).trans (V.mono (zaZ I).size)
  clear a0 a1 a2 a3 a4 a5 a6 a7 a8 a9 M U af
  unfold pv
  go_wp2
  refine bodyPost_ret (zaA rfl _ _ (w.heap.size+1) 53 _ (0,0) _ rfl (zaS G3.out) Tryz.underlying53 rfl (by kernel_rfl)) rfl ?_
  exact zd5 rfl HY.out HM.out (zbD aa (Nat.le_succ _) ..)
theorem Tryz.infoImp:(Tryz.prog.info? 100).map (fun i=>(i.zero,i.size,i.bytes))=some (some (.agg #[.string {data:=#[]},.string {data:=#[]},.string {data:=#[]}]),3,48):=by kernel_rfl
theorem Tryz.infoExp:(Tryz.prog.info? 102).map (fun i=>(i.zero,i.size,i.bytes))=some (some (.agg #[.int .i64 0,.string {data:=#[]},.string {data:=#[]},.string {data:=#[]}]),4,56):=by kernel_rfl
theorem Tryz.infoStmt:(Tryz.prog.info? 106).map (fun i=>(i.zero,i.size,i.bytes))=some (some (.agg #[.int .i64 0,.string {data:=#[]},.int .i64 0]),3,32):=by kernel_rfl
theorem Tryz.infoExpr:(Tryz.prog.info? 108).map (fun i=>(i.zero,i.size,i.bytes))=some (some (.agg #[.int .i64 0,.int .i64 0,.string {data:=#[]},.string {data:=#[]},.int .i64 0,.int .i64 0]),6,64):=by kernel_rfl
def imV (x:Im):Value:=.agg #[.string x.spec,.string x.first,.string x.loc]
def epV (x:Ep):Value:=.agg #[.int .i64 x.kind,.string x.name,.string x.loc,.string x.spec]
def exV (x:Ex):Value:=.agg #[.int .i64 x.kind,.int .i64 x.num,.string x.name,.string x.field,.int .i64 x.l,.int .i64 x.r]
theorem zcJ (w:World) (a b c:Obj):Below w.heap.size w (((w.alloc a).alloc b).alloc c):=(zaT w a b).alloc (zaT w a b).size c
theorem zf0 (w:World) (a b c d:Obj):Below w.heap.size w ((((w.alloc a).alloc b).alloc c).alloc d):=(zcJ w a b c).alloc (zcJ w a b c).size d
theorem zc1 (w:World) (a b:Obj):((w.alloc a).alloc b).heap.size=w.heap.size+1+1:=by rw[zk,zk]
theorem zaa (w:World) (a b c:Obj):(((w.alloc a).alloc b).alloc c).heap.size=w.heap.size+1+1+1:=by rw[zk,zc1]
theorem za4 (w:World) (a b c d:Obj):((((w.alloc a).alloc b).alloc c).alloc d).heap.size=w.heap.size+1+1+1+1:=by rw[zk,zaa]
theorem zaL (w:World) (a b c:Obj):(((w.alloc a).alloc b).alloc c).heap[w.heap.size]? =some a∧(((w.alloc a).alloc b).alloc c).heap[w.heap.size+1]? =some b∧(((w.alloc a).alloc b).alloc c).heap[w.heap.size+1+1]? =some c:=by
 refine⟨?_,?_,?_⟩
 ·rw[Below.heap_alloc _ _ _ (by rw[zc1];omega),Below.heap_alloc _ _ _ (by rw[zk];omega)]
  exact heap_alloc_new w a
 ·rw[Below.heap_alloc _ _ _ (by rw[zc1];omega)]
  exact zbq w a b
 ·rw[←zc1 w a b]
  exact heap_alloc_new _ c
theorem zbH (w:World) (a b c d:Obj):((((w.alloc a).alloc b).alloc c).alloc d).heap[w.heap.size]? =some a∧((((w.alloc a).alloc b).alloc c).alloc d).heap[w.heap.size+1]? =some b∧((((w.alloc a).alloc b).alloc c).alloc d).heap[w.heap.size+1+1]? =some c∧((((w.alloc a).alloc b).alloc c).alloc d).heap[w.heap.size+1+1+1]? =some d:=by
 obtain⟨n,o,j⟩:=zaL w a b c
 refine⟨?_,?_,?_,?_⟩
 ·rw[Below.heap_alloc _ _ _ (by rw[zaa];omega)]
  exact n
 ·rw[Below.heap_alloc _ _ _ (by rw[zaa];omega)]
  exact o
 ·rw[Below.heap_alloc _ _ _ (by rw[zaa];omega)]
  exact j
 ·rw[←zaa w a b c]
  exact heap_alloc_new _ d
theorem zg1 {w j:World} {a b c:Obj} (n:Below (((w.alloc a).alloc b).alloc c).heap.size (((w.alloc a).alloc b).alloc c) j):Below w.heap.size w j:=(zcJ w a b c).trans (n.mono (zcJ w a b c).size)
theorem zf1 {C:Cx} {x:PR} {q:PS} {z:Int} {f:PS→PR} (n:Is x q z) (o:z<0) (j:f q= .error (zr C (q.pos-1))):Is (bd x f) q (zr C (q.pos-1)):=by
 obtain⟨rfl,_⟩:=zaC n o
 rw[zz,j]
 rfl
theorem zf2 {x:PR} {q:PS} {z:Int} {f:PS→PR} (j:Is x q z) (n: ¬z<0):Is (bd x f) q z:=by
 obtain⟨e,rfl,o⟩:=zdc j n
 exact o
theorem zeH {x:PR} {q q':PS} {z:Int} {f:PS→PR} (n:Is x q z) (o:z<0) (j:f q= .ok q'):Is (bd x f) q' z:=by
 obtain⟨rfl,A⟩:=zaC n o
 rw[zz,j]
 exact⟨rfl,A⟩
theorem zd6 {w W:World} {j:Nat} {S:Sv} {q:PS} (o:Own w j S q) (_:w.heap.size≤W.heap.size) {r:Option Nat} (n: ∀k,r=some k→S.has k) (b:Nat) (z:w.heap.size≤b):some b≠r:=fun e=>by have:=(o.has (n b e.symm)).2;omega
theorem zcK (C:Cx) (O n j:Nat) (x:PR) (S:Sv) (q:PS) (z:Int) (d:Nat) (y:Ex) (w:World) (hx:Is x q z) (H:Mem C O n j S q w) (M:z<0→1≤q.pos):
  Calls Tryz.prog 137 #[pv C O n S q z d,exV y] w (Out C O n j (bd x (zN C y)) d S w):=by
 obtain⟨i0,hi,Q,Z,Y⟩:=info_parts Tryz.infoExpr
 have E:=zc H
 have V:=zc hx
 have aa:q.ex.length≤300:=by have:=H.inv.ex;omega
 clear hx
 by_cases K:z<0
 ·have dz:decide (0≤z)=false:=decide_eq_false (by omega)
  by_cases hn:300≤q.ex.length
  ·have L:Hid (Is (bd x (zN C y)) q (zr C (q.pos-1))):=zf1 V.out K (if_pos hn)
   have qn:decide ((300:Int)≤(q.ex.length:Int))=true:=decide_eq_true (by omega)
   have I:=M K
   clear M H
   unfold pv exV
   go_enter Tryz.func137,Tryz.ntmps137
   go_wp2_with fail
   refine (zeG C O n j S q z d _ (((E.out.alloc _).alloc _).alloc _) K I).mono ?_
   rintro e w2 ⟨rfl,A⟩
   have U:Below w.heap.size w w2:=zg1 A
   have G3:Hid (_=_):=(A.block (w.heap.size+1+1) (by rw[zaa];omega)).trans ((zaL w _ _ _).2.2)
   obtain⟨c0,c1,c2,c3,c4,c5,c6,c7,c8,c9,ab,ac,cf⟩:=zaj G3.out
   clear A
   unfold pv
   go_wp2
   refine bodyPost_ret (results_cell_row rfl _ _ (w.heap.size+1+1) 53 _ (0,0) _ rfl (zaS G3.out) Tryz.underlying53 rfl (by kernel_rfl)) rfl ?_
   exact zcl rfl L.out E.out (zbD U (by omega) ..)
  ·have qn:decide ((300:Int)≤(q.ex.length:Int))=false:=decide_eq_false (by omega)
   have L:Hid (Is (bd x (zN C y)) {q with ex:=q.ex++[y]} z):=zeH V.out K (if_neg hn)
   have o:=fun o1 o2 o3 o4=>((((E.out.own.ex.alloc o1).alloc o2).alloc o3).alloc o4)
   clear M H
   unfold pv exV
   go_enter Tryz.func137,Tryz.ntmps137
   go_wp2_with (at_builtin;refine zcu _ rfl _ _ 26 rfl j 108 i0 _ 6 64 Tryz.underlying26 hi Q Z Y rfl (by decide) (by decide) S.ex q.ex.length _ (by rfl) (o ..) (w.heap.size+1+1+1) (exL y) (by rfl) (by first|exact (zbH w ..).2.2.2|exact (zaL w _ _ _).2.2) rfl (by intro u hu;simp[exL] at hu;rcases hu with rfl|rfl|rfl|rfl|rfl|rfl<;>rfl) (by omega) (by have:=E.out.base;(first|rw[za4]|rw[zaa]);omega) ?_)
   intro r' w2 hr N J
   have HR:=zc hr
   have HG:=zc N
   have X:=zc J
   have D:=fun b hb=>zd6 (W:=w) E.out.own (Nat.le_refl _) (r:=S.ex.blk) (fun k e=>.inr (.inr (.inr (.inr (.inl e))))) b hb
   have g1:=(N.block w.heap.size (by (first|rw[za4]|rw[zaa]);omega) (D _ (Nat.le_refl _))).trans (by first|exact (zbH w ..).1|exact (zaL w _ _ _).1)
   have g2:=(N.block (w.heap.size+1+1) (by (first|rw[za4]|rw[zaa]);omega) (D _ (by omega))).trans (by first|exact (zbH w ..).2.2.1|exact (zaL w _ _ _).2.1)
   obtain⟨a0,a1,a2,a3,a4,a5,a6,a7,a8,a9,ad,ah,af⟩:=zaj g1
   obtain⟨b0,b1,b2,b3,b4,b5,b6,b7,b8,b9,ag,ae,bf⟩:=zaj g2
   have G2:=zc g2
   clear g1 g2 N hr J D o
   go_wp2
   refine bodyPost_ret (results_cell_row rfl _ _ (w.heap.size+1+1) 53 _ (0,0) _ rfl (zaS ((zi (by omega)).trans G2.out)) Tryz.underlying53 rfl (by kernel_rfl)) rfl ?_
   obtain⟨m',s'⟩:=E.out.grow_ex (x:=y) (zf0 w ..) HG.out HR.out (by (first|rw[za4]|rw[zaa]);exact X.out) (((Off.refl _ _ _).set (b:=w.heap.size) (Nat.le_refl _) (by (first|rw[za4]|rw[zaa]);omega) _ _).set12 (b:=w.heap.size+1+1) (by omega) (by (first|rw[za4]|rw[zaa]);omega) ..) (by omega)
   exact⟨_,{q with ex:=q.ex++[y]},z,by simp[pv],L.out,m',s'⟩
 ·have dz:decide (0≤z)=true:=decide_eq_true (by omega)
  have L:Hid (Is (bd x (zN C y)) q z):=zf2 V.out K
  clear M H
  unfold pv exV
  go_enter Tryz.func137,Tryz.ntmps137
  go_wp2
  refine bodyPost_ret (results_cell_row rfl _ _ (w.heap.size+1+1) 53 _ (0,0) _ rfl ((zaL w _ _ _).2.2) Tryz.underlying53 rfl (by kernel_rfl)) rfl ?_
  exact zcl rfl L.out E.out (zcJ w _ _ _)
theorem zg2 (C:Cx) (O n j:Nat) (x:PR) (S:Sv) (q:PS) (z:Int) (d:Nat) (y:Im) (w:World) (hx:Is x q z) (H:Mem C O n j S q w) (M:z<0→1≤q.pos):
  Calls Tryz.prog 132 #[pv C O n S q z d,imV y] w (Out C O n j (bd x (zak C y)) d S w):=by
 obtain⟨i0,hi,Q,Z,Y⟩:=info_parts Tryz.infoImp
 have E:=zc H
 have V:=zc hx
 have aa:q.im.length≤40:=by have:=H.inv.im;omega
 clear hx
 by_cases K:z<0
 ·have dz:decide (0≤z)=false:=decide_eq_false (by omega)
  by_cases hn:40≤q.im.length
  ·have L:Hid (Is (bd x (zak C y)) q (zr C (q.pos-1))):=zf1 V.out K (if_pos hn)
   have qn:decide ((40:Int)≤(q.im.length:Int))=true:=decide_eq_true (by omega)
   have I:=M K
   clear M H
   unfold pv imV
   go_enter Tryz.func132,Tryz.ntmps132
   go_wp2_with fail
   refine (zeG C O n j S q z d _ (((E.out.alloc _).alloc _).alloc _) K I).mono ?_
   rintro e w2 ⟨rfl,A⟩
   have U:Below w.heap.size w w2:=zg1 A
   have G3:Hid (_=_):=(A.block (w.heap.size+1+1) (by rw[zaa];omega)).trans ((zaL w _ _ _).2.2)
   obtain⟨c0,c1,c2,c3,c4,c5,c6,c7,c8,c9,ab,ac,cf⟩:=zaj G3.out
   clear A
   unfold pv
   go_wp2
   refine bodyPost_ret (results_cell_row rfl _ _ (w.heap.size+1+1) 53 _ (0,0) _ rfl (zaS G3.out) Tryz.underlying53 rfl (by kernel_rfl)) rfl ?_
   exact zcl rfl L.out E.out (zbD U (by omega) ..)
  ·have qn:decide ((40:Int)≤(q.im.length:Int))=false:=decide_eq_false (by omega)
   have L:Hid (Is (bd x (zak C y)) {q with im:=q.im++[y]} z):=zeH V.out K (if_neg hn)
   have o:=fun o1 o2 o3 o4=>((((E.out.own.im.alloc o1).alloc o2).alloc o3).alloc o4)
   clear M H
   unfold pv imV
   go_enter Tryz.func132,Tryz.ntmps132
   go_wp2_with (at_builtin;refine zcu _ rfl _ _ 23 rfl j 100 i0 _ 3 48 Tryz.underlying23 hi Q Z Y rfl (by decide) (by decide) S.im q.im.length _ (by rfl) (o ..) (w.heap.size+1+1+1) (imL y) (by rfl) (by first|exact (zbH w ..).2.2.2|exact (zaL w _ _ _).2.2) rfl (by intro u hu;simp[imL] at hu;rcases hu with rfl|rfl|rfl<;>rfl) (by omega) (by have:=E.out.base;(first|rw[za4]|rw[zaa]);omega) ?_)
   intro r' w2 hr N J
   have HR:=zc hr
   have HG:=zc N
   have X:=zc J
   have D:=fun b hb=>zd6 (W:=w) E.out.own (Nat.le_refl _) (r:=S.im.blk) (fun k e=>.inr (.inl e)) b hb
   have g1:=(N.block w.heap.size (by (first|rw[za4]|rw[zaa]);omega) (D _ (Nat.le_refl _))).trans (by first|exact (zbH w ..).1|exact (zaL w _ _ _).1)
   have g2:=(N.block (w.heap.size+1+1) (by (first|rw[za4]|rw[zaa]);omega) (D _ (by omega))).trans (by first|exact (zbH w ..).2.2.1|exact (zaL w _ _ _).2.1)
   obtain⟨a0,a1,a2,a3,a4,a5,a6,a7,a8,a9,ad,ah,af⟩:=zaj g1
   obtain⟨b0,b1,b2,b3,b4,b5,b6,b7,b8,b9,ag,ae,bf⟩:=zaj g2
   have G2:=zc g2
   clear g1 g2 N hr J D o
   go_wp2
   refine bodyPost_ret (results_cell_row rfl _ _ (w.heap.size+1+1) 53 _ (0,0) _ rfl (zaS ((zi (by omega)).trans G2.out)) Tryz.underlying53 rfl (by kernel_rfl)) rfl ?_
   obtain⟨m',s'⟩:=E.out.grow_im (x:=y) (zf0 w ..) HG.out HR.out (by (first|rw[za4]|rw[zaa]);exact X.out) (((Off.refl _ _ _).set (b:=w.heap.size) (Nat.le_refl _) (by (first|rw[za4]|rw[zaa]);omega) _ _).set12 (b:=w.heap.size+1+1) (by omega) (by (first|rw[za4]|rw[zaa]);omega) ..) (by omega)
   exact⟨_,{q with im:=q.im++[y]},z,by simp[pv],L.out,m',s'⟩
 ·have dz:decide (0≤z)=true:=decide_eq_true (by omega)
  have L:Hid (Is (bd x (zak C y)) q z):=zf2 V.out K
  clear M H
  unfold pv imV
  go_enter Tryz.func132,Tryz.ntmps132
  go_wp2
  refine bodyPost_ret (results_cell_row rfl _ _ (w.heap.size+1+1) 53 _ (0,0) _ rfl ((zaL w _ _ _).2.2) Tryz.underlying53 rfl (by kernel_rfl)) rfl ?_
  exact zcl rfl L.out E.out (zcJ w _ _ _)
theorem zd7 (C:Cx) (gt H j:Nat) (x:PR) (S:Sv) (q:PS) (z:Int) (d:Nat) (y:Ep) (w:World) (hx:Is x q z) (I:Mem C gt H j S q w) (Q:z<0→1≤q.pos):
  Calls Tryz.prog 134 #[pv C gt H S q z d,epV y] w (Out C gt H j (bd x (zo C y)) d S w):=by
 obtain⟨i0,hi,U,aa,Z⟩:=info_parts Tryz.infoExp
 have D:=zc I
 have HX:=zc hx
 have ai:q.ep.length≤40:=by have:=I.inv.ep;omega
 have ah:q.la.length≤40:=by have:=I.inv.ep;omega
 clear hx
 by_cases N:z<0
 ·have dz:decide (0≤z)=false:=decide_eq_false (by omega)
  by_cases hn:40≤q.ep.length+q.la.length
  ·have L:Hid (Is (bd x (zo C y)) q (zr C (q.pos-1))):=zf1 HX.out N (if_pos hn)
   have qn:decide ((40:Int)≤(q.ep.length:Int)+(q.la.length:Int))=true:=decide_eq_true (by omega)
   have V:=Q N
   clear Q I
   unfold pv epV
   go_enter Tryz.func134,Tryz.ntmps134
   go_wp2_with fail
   refine (zeG C gt H j S q z d _ (((D.out.alloc _).alloc _).alloc _) N V).mono ?_
   rintro e w2 ⟨rfl,J⟩
   have ac:Below w.heap.size w w2:=zg1 J
   have G3:Hid (_=_):=(J.block (w.heap.size+1+1) (by rw[zaa];omega)).trans ((zaL w _ _ _).2.2)
   obtain⟨c0,c1,c2,c3,c4,c5,c6,c7,c8,c9,aj,ak,cf⟩:=zaj G3.out
   clear J
   unfold pv
   go_wp2
   refine bodyPost_ret (results_cell_row rfl _ _ (w.heap.size+1+1) 53 _ (0,0) _ rfl (zaS G3.out) Tryz.underlying53 rfl (by kernel_rfl)) rfl ?_
   exact zcl rfl L.out D.out (zbD ac (by omega) ..)
  ·have qn:decide ((40:Int)≤(q.ep.length:Int)+(q.la.length:Int))=false:=decide_eq_false (by omega)
   cases hd:(y.loc.toList==[42,100,101,102,97,117,108,116]) with
   |true=>
    have L:Hid (Is (bd x (zo C y)) {q with la:=q.la++[y]} z):=zeH HX.out N (by rw[zo,if_neg hn,if_pos hd])
    have n:=fun o1 o2 o3 o4=>((((D.out.own.la.alloc o1).alloc o2).alloc o3).alloc o4)
    clear Q I
    unfold pv epV
    go_enter Tryz.func134,Tryz.ntmps134
    go_wp2_with (at_builtin;refine zcu _ rfl _ _ 24 rfl j 102 i0 _ 4 56 Tryz.underlying24 hi U aa Z rfl (by decide) (by decide) S.la q.la.length _ (by rfl) (n ..) (w.heap.size+1+1+1) (epL y) (by rfl) (by first|exact (zbH w ..).2.2.2|exact (zaL w _ _ _).2.2) rfl (by intro u O;simp[epL] at O;rcases O with rfl|rfl|rfl|rfl<;>rfl) (by omega) (by have:=D.out.base;(first|rw[za4]|rw[zaa]);omega) ?_)
    intro r' w2 X E A
    have HR:=zc X
    have HG:=zc E
    have K:=zc A
    have o:=fun b hb=>zd6 (W:=w) D.out.own (Nat.le_refl _) (r:=S.la.blk) (fun k e=>.inr (.inr (.inr (.inr (.inr e))))) b hb
    have Y:=(E.block w.heap.size (by (first|rw[za4]|rw[zaa]);omega) (o _ (Nat.le_refl _))).trans (by first|exact (zbH w ..).1|exact (zaL w _ _ _).1)
    have M:=(E.block (w.heap.size+1+1) (by (first|rw[za4]|rw[zaa]);omega) (o _ (by omega))).trans (by first|exact (zbH w ..).2.2.1|exact (zaL w _ _ _).2.1)
    obtain⟨a0,a1,a2,a3,a4,a5,a6,a7,a8,a9,ab,ag,af⟩:=zaj Y
    obtain⟨b0,b1,b2,b3,b4,b5,b6,b7,b8,b9,ae,ad,bf⟩:=zaj M
    have G2:=zc M
    clear Y M E X A o n
    go_wp2
    refine bodyPost_ret (results_cell_row rfl _ _ (w.heap.size+1+1) 53 _ (0,0) _ rfl (zaS ((zi (by omega)).trans G2.out)) Tryz.underlying53 rfl (by kernel_rfl)) rfl ?_
    obtain⟨m',s'⟩:=D.out.grow_la (x:=y) (zf0 w ..) HG.out HR.out (by (first|rw[za4]|rw[zaa]);exact K.out) (((Off.refl _ _ _).set (b:=w.heap.size) (Nat.le_refl _) (by (first|rw[za4]|rw[zaa]);omega) _ _).set12 (b:=w.heap.size+1+1) (by omega) (by (first|rw[za4]|rw[zaa]);omega) ..) (by omega)
    exact⟨_,{q with la:=q.la++[y]},z,by simp[pv],L.out,m',s'⟩
   |false=>
    have L:Hid (Is (bd x (zo C y)) {q with ep:=q.ep++[y]} z):=zeH HX.out N (by rw[zo,if_neg hn,hd];rfl)
    have n:=fun o1 o2 o3 o4=>((((D.out.own.ep.alloc o1).alloc o2).alloc o3).alloc o4)
    clear Q I
    unfold pv epV
    go_enter Tryz.func134,Tryz.ntmps134
    go_wp2_with (at_builtin;refine zcu _ rfl _ _ 24 rfl j 102 i0 _ 4 56 Tryz.underlying24 hi U aa Z rfl (by decide) (by decide) S.ep q.ep.length _ (by rfl) (n ..) (w.heap.size+1+1+1) (epL y) (by rfl) (by first|exact (zbH w ..).2.2.2|exact (zaL w _ _ _).2.2) rfl (by intro u O;simp[epL] at O;rcases O with rfl|rfl|rfl|rfl<;>rfl) (by omega) (by have:=D.out.base;(first|rw[za4]|rw[zaa]);omega) ?_)
    intro r' w2 X E A
    have HR:=zc X
    have HG:=zc E
    have K:=zc A
    have o:=fun b hb=>zd6 (W:=w) D.out.own (Nat.le_refl _) (r:=S.ep.blk) (fun k e=>.inr (.inr (.inl e))) b hb
    have Y:=(E.block w.heap.size (by (first|rw[za4]|rw[zaa]);omega) (o _ (Nat.le_refl _))).trans (by first|exact (zbH w ..).1|exact (zaL w _ _ _).1)
    have M:=(E.block (w.heap.size+1+1) (by (first|rw[za4]|rw[zaa]);omega) (o _ (by omega))).trans (by first|exact (zbH w ..).2.2.1|exact (zaL w _ _ _).2.1)
    obtain⟨a0,a1,a2,a3,a4,a5,a6,a7,a8,a9,ab,ag,af⟩:=zaj Y
    obtain⟨b0,b1,b2,b3,b4,b5,b6,b7,b8,b9,ae,ad,bf⟩:=zaj M
    have G2:=zc M
    clear Y M E X A o n
    go_wp2
    refine bodyPost_ret (results_cell_row rfl _ _ (w.heap.size+1+1) 53 _ (0,0) _ rfl (zaS ((zi (by omega)).trans G2.out)) Tryz.underlying53 rfl (by kernel_rfl)) rfl ?_
    obtain⟨m',s'⟩:=D.out.grow_ep (x:=y) (zf0 w ..) HG.out HR.out (by (first|rw[za4]|rw[zaa]);exact K.out) (((Off.refl _ _ _).set (b:=w.heap.size) (Nat.le_refl _) (by (first|rw[za4]|rw[zaa]);omega) _ _).set12 (b:=w.heap.size+1+1) (by omega) (by (first|rw[za4]|rw[zaa]);omega) ..) (by omega)
    exact⟨_,{q with ep:=q.ep++[y]},z,by simp[pv],L.out,m',s'⟩
 ·have dz:decide (0≤z)=true:=decide_eq_true (by omega)
  have L:Hid (Is (bd x (zo C y)) q z):=zf2 HX.out N
  clear Q I
  unfold pv epV
  go_enter Tryz.func134,Tryz.ntmps134
  go_wp2
  refine bodyPost_ret (results_cell_row rfl _ _ (w.heap.size+1+1) 53 _ (0,0) _ rfl ((zaL w _ _ _).2.2) Tryz.underlying53 rfl (by kernel_rfl)) rfl ?_
  exact zcl rfl L.out D.out (zcJ w _ _ _)
theorem zcL (C:Cx) (O n j:Nat) (x:PR) (S:Sv) (q:PS) (z:Int) (d:Nat) (k:Int) (nm:ByteArray) (w:World) (hx:Is x q z) (H:Mem C O n j S q w) (M:z<0→1≤q.pos):
  Calls Tryz.prog 77 #[pv C O n S q z d,.int .i64 k,.string nm] w (Out C O n j (bd x (zV C k nm)) d S w):=by
 obtain⟨i0,hi,Q,Z,Y⟩:=info_parts Tryz.infoStmt
 have E:=zc H
 have V:=zc hx
 have ab:q.ex.length≤300:=by have:=H.inv.ex;omega
 have aa:q.st.length≤80:=by have:=H.inv.st;omega
 clear hx
 by_cases K:z<0
 ·have dz:decide (0≤z)=false:=decide_eq_false (by omega)
  by_cases hn:80≤q.st.length
  ·have L:Hid (Is (bd x (zV C k nm)) q (zr C (q.pos-1))):=zf1 V.out K (if_pos hn)
   have qn:decide ((80:Int)≤(q.st.length:Int))=true:=decide_eq_true (by omega)
   have I:=M K
   clear M H
   unfold pv
   go_enter Tryz.func77,Tryz.ntmps77
   go_wp2_with fail
   refine (zeG C O n j S q z d _ ((E.out.alloc _).alloc _) K I).mono ?_
   rintro e w2 ⟨rfl,A⟩
   have U:Below w.heap.size w w2:=zaZ A
   have G3:Hid (_=_):=(A.block (w.heap.size+1) (by rw[zc1];omega)).trans (zbq w _ _)
   obtain⟨c0,c1,c2,c3,c4,c5,c6,c7,c8,c9,ac,ad,cf⟩:=zaj G3.out
   clear A
   unfold pv
   go_wp2
   refine bodyPost_ret (results_cell_row rfl _ _ (w.heap.size+1) 53 _ (0,0) _ rfl (zaS G3.out) Tryz.underlying53 rfl (by kernel_rfl)) rfl ?_
   exact zcl rfl L.out E.out (zbD U (by omega) ..)
  ·have qn:decide ((80:Int)≤(q.st.length:Int))=false:=decide_eq_false (by omega)
   have L:Hid (Is (bd x (zV C k nm)) {q with st:=q.st++[⟨k,nm,(q.ex.length:Int)-1⟩]} z):=zeH V.out K (if_neg hn)
   have o:=fun o1 o2 o3=>(((E.out.own.st.alloc o1).alloc o2).alloc o3)
   clear M H
   unfold pv
   go_enter Tryz.func77,Tryz.ntmps77
   go_wp2_with (at_builtin;refine zcu _ rfl _ _ 25 rfl j 106 i0 _ 3 32 Tryz.underlying25 hi Q Z Y rfl (by decide) (by decide) S.st q.st.length _ (by rfl) (o _ _ _) (w.heap.size+1+1) (smL ⟨k,nm,(q.ex.length:Int)-1⟩) (by rfl) (by first|exact (zbH w ..).2.2.2|exact (zaL w _ _ _).2.2) rfl (by intro u hu;simp[smL] at hu;rcases hu with rfl|rfl|rfl<;>rfl) (by omega) (by have:=E.out.base;(first|rw[za4]|rw[zaa]);omega) ?_)
   intro r' w2 hr N J
   have HR:=zc hr
   have HG:=zc N
   have X:=zc J
   have D:=fun b hb=>zd6 (W:=w) E.out.own (Nat.le_refl _) (r:=S.st.blk) (fun k e=>.inr (.inr (.inr (.inl e)))) b hb
   have g1:=(N.block w.heap.size (by (first|rw[za4]|rw[zaa]);omega) (D _ (Nat.le_refl _))).trans (by first|exact (zbH w ..).1|exact (zaL w _ _ _).1)
   have g2:=(N.block (w.heap.size+1) (by (first|rw[za4]|rw[zaa]);omega) (D _ (by omega))).trans (by first|exact (zbH w ..).2.2.1|exact (zaL w _ _ _).2.1)
   obtain⟨a0,a1,a2,a3,a4,a5,a6,a7,a8,a9,ae,ai,af⟩:=zaj g1
   obtain⟨b0,b1,b2,b3,b4,b5,b6,b7,b8,b9,ah,ag,bf⟩:=zaj g2
   have G2:=zc g2
   clear g1 g2 N hr J D o
   go_wp2
   refine bodyPost_ret (results_cell_row rfl _ _ (w.heap.size+1) 53 _ (0,0) _ rfl (zaS ((zi (by omega)).trans G2.out)) Tryz.underlying53 rfl (by kernel_rfl)) rfl ?_
   obtain⟨m',s'⟩:=E.out.grow_st (x:=⟨k,nm,(q.ex.length:Int)-1⟩) (zcJ w _ _ _) HG.out HR.out (by (first|rw[za4]|rw[zaa]);exact X.out) (((Off.refl _ _ _).set (b:=w.heap.size) (Nat.le_refl _) (by (first|rw[za4]|rw[zaa]);omega) _ _).set12 (b:=w.heap.size+1) (by omega) (by (first|rw[za4]|rw[zaa]);omega) ..) (by omega)
   exact⟨_,{q with st:=q.st++[⟨k,nm,(q.ex.length:Int)-1⟩]},z,by simp[pv],L.out,m',s'⟩
 ·have dz:decide (0≤z)=true:=decide_eq_true (by omega)
  have L:Hid (Is (bd x (zV C k nm)) q z):=zf2 V.out K
  clear M H
  unfold pv
  go_enter Tryz.func77,Tryz.ntmps77
  go_wp2
  refine bodyPost_ret (results_cell_row rfl _ _ (w.heap.size+1) 53 _ (0,0) _ rfl (zbq w _ _) Tryz.underlying53 rfl (by kernel_rfl)) rfl ?_
  exact zcl rfl L.out E.out (zaT w _ _)
theorem OwnR.drew {w:World} {j size n:Nat} {e:TypeId} {r:Rw} {xs:List Value} (h:OwnR w j e size r n xs):OwnR w.drew j e size r n xs:=h
theorem zia (x:Ex): ∀u∈exL x,u.oneCell'=true:=by
 intro u j
 simp[exL] at j
 rcases j with rfl|rfl|rfl|rfl|rfl|rfl<;>rfl
theorem IM.grow_ex {C:Cx} {K H A n:Nat} {S:Sv} {q:PS} {w W z:World} {j:Rw} {x:Ex} (h:IM C K H A n S q w) (O:Below w.heap.size w W) (Z:W.grownBy z S.ex.blk) (V:OwnR z A 108 6 j (q.ex.length+1) (q.ex.flatMap exL++exL x)) (L:j.blk=S.ex.blk∨j.blk=some W.heap.size) (X:q.ex.length<300):
  IM C K H A n {S with ex:=j} {q with ex:=q.ex++[x]} (z.setCell ⟨n,8,none⟩ (.slice j.a (q.ex.length+1) j.cap))∧IS n S w {S with ex:=j} (z.setCell ⟨n,8,none⟩ (.slice j.a (q.ex.length+1) j.cap)):=by
 obtain⟨I,E⟩:=h.mem.grow_ex (x:=x) O Z V L (Off.refl _ _ _) X
 have o:=h.free
 have M:=h.lt
 have D: ¬Sv.has {S with ex:=j} n:=fun g=>(E.sub n g).elim o fun g'=>by omega
 have J: ∀k,k≠n→(z.setCell ⟨n,8,none⟩ (.slice j.a (q.ex.length+1) j.cap)).heap[k]? =z.heap[k]?:=fun k J=>Below.heap_setCell z ⟨n,8,none⟩ _ k J
 have N:(z.setCell ⟨n,8,none⟩ (.slice j.a (q.ex.length+1) j.cap)).heap.size=z.heap.size:=by show (z.heap.modify _ _).size=_;simp
 have Q:=(E.block n M o).trans h.cells
 refine⟨⟨⟨I.own.keep fun k g=>J k fun e=>D (by rw[←e];exact g),I.inv,zb0 I.tok (J K h.ne.symm),I.few,by rw[N];exact I.base⟩,?_,h.ge⟩,?_⟩
 ·rw[za9 Q]
  simp
 ·exact (show IS n S w {S with ex:=j} z from⟨E.os,E.tape,E.output,E.size,fun k U Y _=>E.block k U Y,E.sub⟩).set _ _
theorem zlL (C:Cx) (X D j n:Nat) (S:Sv) (q:PS) (x:Ex) (w:World) (h:IM C X D j n S q w) (hn:q.ex.length<300):
  Calls Tryz.prog 202 #[.pointer (some ⟨n,0,none⟩),exV x] w fun e V=>e= .returned (.int .i64 q.ex.length)∧∃Y,IM C X D j n Y {q with ex:=q.ex++[x]} V∧IS n S w Y V:=by
 obtain⟨i0,hi,L,M,K⟩:=info_parts Tryz.infoExpr
 have J:=zc h
 have ab:=h.lt
 obtain⟨c0,c1,c2,c3,c4,c5,c6,c7,c8,c9,cf⟩:=zac h.cells
 have E:=fun A o=>((J.out.mem.own.ex.alloc A).drew.alloc o)
 have aa:=h.mem.base
 have H:some n≠S.ex.blk:=fun e=>J.out.free (.inr (.inr (.inr (.inr (.inl e.symm)))))
 have HN:=zc H
 have Q: ∀A o,j≤((w.alloc A).alloc o).heap.size:=fun A o=>by rw[zc1];omega
 have O: ∀A o,n<((w.alloc A).alloc o).heap.size:=fun A o=>by rw[zc1];omega
 clear h H
 unfold exV
 go_enter Tryz.func202,Tryz.ntmps202
 go_wp2_with fail
 refine (zd3 n q.ex.length 300 _ (by omega)).mono ?_
 rintro e w1 ⟨rfl,rfl⟩
 go_wp2_with fail
 go_region_law (first|(refine zcI rfl (.tmp 18) (.tmp 20) 26 rfl j 108 i0 _ 6 64 Tryz.underlying26 hi L M K rfl (by decide) (by decide) S.ex q.ex.length (q.ex.flatMap exL) (by rfl) (by exact E _ _) (w.heap.size+1) (exL x) (by rfl) (by exact zbq w _ _) rfl (zia x) (by omega) (by exact Q _ _) ?_;intro r' w2 U z I;have Z:=(z.block n (by exact O _ _) HN.out).trans (by exact ((J.out.alloc _).alloc _).cells);obtain⟨d0,d1,d2,d3,d4,d5,d6,d7,d8,d9,df⟩:=zac Z))
 all_goals
  have HR:=zc U
  have HG:=zc z
  have N:=zc I
  clear U z I Z c0 c1 c2 c3 c4 c5 c6 c7 c8 c9 cf
  go_wp2
  go_ret
  obtain⟨m',s'⟩:=J.out.grow_ex (zaT w _ _).drew HG.out HR.out N.out hn
  exact⟨zdM (by omega),_,m',s'⟩
theorem zg3 (x:Im): ∀u∈imL x,u.oneCell'=true:=by
 intro u j
 simp[imL] at j
 rcases j with rfl|rfl|rfl<;>rfl
theorem IM.grow_rq {C:Cx} {K H A n:Nat} {S:Sv} {q:PS} {w W z:World} {j:Rw} {x:ByteArray} (h:IM C K H A n S q w) (O:Below w.heap.size w W) (Z:W.grownBy z S.rq.blk) (V:OwnR z A 9 1 j (q.rq.length+1) (q.rq.map .string++[.string x])) (L:j.blk=S.rq.blk∨j.blk=some W.heap.size) (X:q.rq.length<40):
  IM C K H A n {S with rq:=j} {q with rq:=q.rq++[x]} (z.setCell ⟨n,4,none⟩ (.slice j.a (q.rq.length+1) j.cap))∧IS n S w {S with rq:=j} (z.setCell ⟨n,4,none⟩ (.slice j.a (q.rq.length+1) j.cap)):=by
 obtain⟨I,E⟩:=h.mem.grow_rq (x:=x) O Z V L (Off.refl _ _ _) X
 have o:=h.free
 have M:=h.lt
 have D: ¬Sv.has {S with rq:=j} n:=fun g=>(E.sub n g).elim o fun g'=>by omega
 have J: ∀k,k≠n→(z.setCell ⟨n,4,none⟩ (.slice j.a (q.rq.length+1) j.cap)).heap[k]? =z.heap[k]?:=fun k J=>Below.heap_setCell z ⟨n,4,none⟩ _ k J
 have N:(z.setCell ⟨n,4,none⟩ (.slice j.a (q.rq.length+1) j.cap)).heap.size=z.heap.size:=by show (z.heap.modify _ _).size=_;simp
 have Q:=(E.block n M o).trans h.cells
 refine⟨⟨⟨I.own.keep fun k g=>J k fun e=>D (by rw[←e];exact g),I.inv,zb0 I.tok (J K h.ne.symm),I.few,by rw[N];exact I.base⟩,?_,h.ge⟩,?_⟩
 ·rw[za9 Q]
  simp
 ·exact (show IS n S w {S with rq:=j} z from⟨E.os,E.tape,E.output,E.size,fun k U Y _=>E.block k U Y,E.sub⟩).set _ _
theorem IM.grow_im {C:Cx} {K H A n:Nat} {S:Sv} {q:PS} {w W z:World} {j:Rw} {x:Im} (h:IM C K H A n S q w) (O:Below w.heap.size w W) (Z:W.grownBy z S.im.blk) (V:OwnR z A 100 3 j (q.im.length+1) (q.im.flatMap imL++imL x)) (L:j.blk=S.im.blk∨j.blk=some W.heap.size) (X:q.im.length<40):
  IM C K H A n {S with im:=j} {q with im:=q.im++[x]} (z.setCell ⟨n,5,none⟩ (.slice j.a (q.im.length+1) j.cap))∧IS n S w {S with im:=j} (z.setCell ⟨n,5,none⟩ (.slice j.a (q.im.length+1) j.cap)):=by
 obtain⟨I,E⟩:=h.mem.grow_im (x:=x) O Z V L (Off.refl _ _ _) X
 have o:=h.free
 have M:=h.lt
 have D: ¬Sv.has {S with im:=j} n:=fun g=>(E.sub n g).elim o fun g'=>by omega
 have J: ∀k,k≠n→(z.setCell ⟨n,5,none⟩ (.slice j.a (q.im.length+1) j.cap)).heap[k]? =z.heap[k]?:=fun k J=>Below.heap_setCell z ⟨n,5,none⟩ _ k J
 have N:(z.setCell ⟨n,5,none⟩ (.slice j.a (q.im.length+1) j.cap)).heap.size=z.heap.size:=by show (z.heap.modify _ _).size=_;simp
 have Q:=(E.block n M o).trans h.cells
 refine⟨⟨⟨I.own.keep fun k g=>J k fun e=>D (by rw[←e];exact g),I.inv,zb0 I.tok (J K h.ne.symm),I.few,by rw[N];exact I.base⟩,?_,h.ge⟩,?_⟩
 ·rw[za9 Q]
  simp
 ·exact (show IS n S w {S with im:=j} z from⟨E.os,E.tape,E.output,E.size,fun k U Y _=>E.block k U Y,E.sub⟩).set _ _
theorem IM.grow_ep {C:Cx} {K H A n:Nat} {S:Sv} {q:PS} {w W z:World} {j:Rw} {x:Ep} (h:IM C K H A n S q w) (O:Below w.heap.size w W) (Z:W.grownBy z S.ep.blk) (V:OwnR z A 102 4 j (q.ep.length+1) (q.ep.flatMap epL++epL x)) (L:j.blk=S.ep.blk∨j.blk=some W.heap.size) (X:q.ep.length+q.la.length<40):
  IM C K H A n {S with ep:=j} {q with ep:=q.ep++[x]} (z.setCell ⟨n,6,none⟩ (.slice j.a (q.ep.length+1) j.cap))∧IS n S w {S with ep:=j} (z.setCell ⟨n,6,none⟩ (.slice j.a (q.ep.length+1) j.cap)):=by
 obtain⟨I,E⟩:=h.mem.grow_ep (x:=x) O Z V L (Off.refl _ _ _) X
 have o:=h.free
 have M:=h.lt
 have D: ¬Sv.has {S with ep:=j} n:=fun g=>(E.sub n g).elim o fun g'=>by omega
 have J: ∀k,k≠n→(z.setCell ⟨n,6,none⟩ (.slice j.a (q.ep.length+1) j.cap)).heap[k]? =z.heap[k]?:=fun k J=>Below.heap_setCell z ⟨n,6,none⟩ _ k J
 have N:(z.setCell ⟨n,6,none⟩ (.slice j.a (q.ep.length+1) j.cap)).heap.size=z.heap.size:=by show (z.heap.modify _ _).size=_;simp
 have Q:=(E.block n M o).trans h.cells
 refine⟨⟨⟨I.own.keep fun k g=>J k fun e=>D (by rw[←e];exact g),I.inv,zb0 I.tok (J K h.ne.symm),I.few,by rw[N];exact I.base⟩,?_,h.ge⟩,?_⟩
 ·rw[za9 Q]
  simp
 ·exact (show IS n S w {S with ep:=j} z from⟨E.os,E.tape,E.output,E.size,fun k U Y _=>E.block k U Y,E.sub⟩).set _ _
theorem IM.grow_st {C:Cx} {K H A n:Nat} {S:Sv} {q:PS} {w W z:World} {j:Rw} {x:Sm} (h:IM C K H A n S q w) (O:Below w.heap.size w W) (Z:W.grownBy z S.st.blk) (V:OwnR z A 106 3 j (q.st.length+1) (q.st.flatMap smL++smL x)) (L:j.blk=S.st.blk∨j.blk=some W.heap.size) (X:q.st.length<80):
  IM C K H A n {S with st:=j} {q with st:=q.st++[x]} (z.setCell ⟨n,7,none⟩ (.slice j.a (q.st.length+1) j.cap))∧IS n S w {S with st:=j} (z.setCell ⟨n,7,none⟩ (.slice j.a (q.st.length+1) j.cap)):=by
 obtain⟨I,E⟩:=h.mem.grow_st (x:=x) O Z V L (Off.refl _ _ _) X
 have o:=h.free
 have M:=h.lt
 have D: ¬Sv.has {S with st:=j} n:=fun g=>(E.sub n g).elim o fun g'=>by omega
 have J: ∀k,k≠n→(z.setCell ⟨n,7,none⟩ (.slice j.a (q.st.length+1) j.cap)).heap[k]? =z.heap[k]?:=fun k J=>Below.heap_setCell z ⟨n,7,none⟩ _ k J
 have N:(z.setCell ⟨n,7,none⟩ (.slice j.a (q.st.length+1) j.cap)).heap.size=z.heap.size:=by show (z.heap.modify _ _).size=_;simp
 have Q:=(E.block n M o).trans h.cells
 refine⟨⟨⟨I.own.keep fun k g=>J k fun e=>D (by rw[←e];exact g),I.inv,zb0 I.tok (J K h.ne.symm),I.few,by rw[N];exact I.base⟩,?_,h.ge⟩,?_⟩
 ·rw[za9 Q]
  simp
 ·exact (show IS n S w {S with st:=j} z from⟨E.os,E.tape,E.output,E.size,fun k U Y _=>E.block k U Y,E.sub⟩).set _ _
theorem IM.grow_la {C:Cx} {K H A n:Nat} {S:Sv} {q:PS} {w W z:World} {j:Rw} {x:Ep} (h:IM C K H A n S q w) (O:Below w.heap.size w W) (Z:W.grownBy z S.la.blk) (V:OwnR z A 102 4 j (q.la.length+1) (q.la.flatMap epL++epL x)) (L:j.blk=S.la.blk∨j.blk=some W.heap.size) (X:q.ep.length+q.la.length<40):
  IM C K H A n {S with la:=j} {q with la:=q.la++[x]} (z.setCell ⟨n,9,none⟩ (.slice j.a (q.la.length+1) j.cap))∧IS n S w {S with la:=j} (z.setCell ⟨n,9,none⟩ (.slice j.a (q.la.length+1) j.cap)):=by
 obtain⟨I,E⟩:=h.mem.grow_la (x:=x) O Z V L (Off.refl _ _ _) X
 have o:=h.free
 have M:=h.lt
 have D: ¬Sv.has {S with la:=j} n:=fun g=>(E.sub n g).elim o fun g'=>by omega
 have J: ∀k,k≠n→(z.setCell ⟨n,9,none⟩ (.slice j.a (q.la.length+1) j.cap)).heap[k]? =z.heap[k]?:=fun k J=>Below.heap_setCell z ⟨n,9,none⟩ _ k J
 have N:(z.setCell ⟨n,9,none⟩ (.slice j.a (q.la.length+1) j.cap)).heap.size=z.heap.size:=by show (z.heap.modify _ _).size=_;simp
 have Q:=(E.block n M o).trans h.cells
 refine⟨⟨⟨I.own.keep fun k g=>J k fun e=>D (by rw[←e];exact g),I.inv,zb0 I.tok (J K h.ne.symm),I.few,by rw[N];exact I.base⟩,?_,h.ge⟩,?_⟩
 ·rw[za9 Q]
  simp
 ·exact (show IS n S w {S with la:=j} z from⟨E.os,E.tape,E.output,E.size,fun k U Y _=>E.block k U Y,E.sub⟩).set _ _
theorem zlM (C:Cx) (X D j n:Nat) (S:Sv) (q:PS) (x:Im) (w:World) (h:IM C X D j n S q w) (hn:q.im.length<40):
  Calls Tryz.prog 196 #[.pointer (some ⟨n,0,none⟩),imV x] w fun e V=>e= .returned (.tuple #[])∧∃Y,IM C X D j n Y {q with im:=q.im++[x]} V∧IS n S w Y V:=by
 obtain⟨i0,hi,L,M,K⟩:=info_parts Tryz.infoImp
 have J:=zc h
 have ab:=h.lt
 obtain⟨c0,c1,c2,c3,c4,c5,c6,c7,c8,c9,cf⟩:=zac h.cells
 have E:=fun A o=>((J.out.mem.own.im.alloc A).drew.alloc o)
 have aa:=h.mem.base
 have H:some n≠S.im.blk:=fun e=>J.out.free (.inr (.inl e.symm))
 have HN:=zc H
 have Q: ∀A o,j≤((w.alloc A).alloc o).heap.size:=fun A o=>by rw[zc1];omega
 have O: ∀A o,n<((w.alloc A).alloc o).heap.size:=fun A o=>by rw[zc1];omega
 clear h H
 unfold imV
 go_enter Tryz.func196,Tryz.ntmps196
 go_wp2_with fail
 refine (zd3 n q.im.length 40 _ (by omega)).mono ?_
 rintro e w1 ⟨rfl,rfl⟩
 go_wp2_with fail
 go_region_law (first|(refine zcI rfl (.tmp 17) (.tmp 19) 23 rfl j 100 i0 _ 3 48 Tryz.underlying23 hi L M K rfl (by decide) (by decide) S.im q.im.length (q.im.flatMap imL) (by rfl) (by exact E _ _) (w.heap.size+1) (imL x) (by rfl) (by exact zbq w _ _) rfl (zg3 x) (by omega) (by exact Q _ _) ?_;intro r' w2 U z I;have Z:=(z.block n (by exact O _ _) HN.out).trans (by exact ((J.out.alloc _).alloc _).cells);obtain⟨d0,d1,d2,d3,d4,d5,d6,d7,d8,d9,df⟩:=zac Z))
 all_goals
  have HR:=zc U
  have HG:=zc z
  have N:=zc I
  clear U z I Z c0 c1 c2 c3 c4 c5 c6 c7 c8 c9 cf
  go_wp2
  go_end0
  obtain⟨m',s'⟩:=J.out.grow_im (zaT w _ _).drew HG.out HR.out N.out hn
  exact⟨rfl,_,m',s'⟩
end Go.Proofs.YticdggnnpjachaaGreat
