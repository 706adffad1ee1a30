/-
  What passSigns of impl's parser answers: the walk.
  'append' of one element onto a row of the call's own,as one step of a region that draws its order. No program is spoken of.
  What spec's readers of one token answer: l4Full,l4Sign,l4Word,l4Reserved,l4Plain,l4Name: the walks.
  What spec's l4Plain and l4Name answer: the walks.
  What spec's l4Add,l4Imp,l4Stmt and l4Exp answer: the walks.
  What addExpr of impl's parser answers where there is room: the walk.
  A row of impl's parser grows by one element; what addImp answers where there is room: the walk.
-/
import Derived.Deep.LoopGhost
import Derived.Test.YticdggnnpjachaaGreatCcImplParseCToImplParseD
namespace Go.Proofs.YticdggnnpjachaaGreat
set_option maxRecDepth 100000
set_option maxHeartbeats 3200000
open Go.RowKit Go.PlainAid Go.Sort
def za6 (C:Cx) (s:ByteArray):Nat→Nat→PS→PR
 |0,_,q=>.ok q
 |n+1,k,q=>bd (zd C 4 (s.extract k (k+1)) q) (za6 C s n (k+1))
theorem zfN {C:Cx} {k:Int} {x:ByteArray} {q:PS} (h:isT C q.pos k x=false):zd C k x q= .error (zq C q.pos):=by rw[zd,h];rfl
theorem zb9 {C:Cx} {k:Int} {x:ByteArray} {q:PS} (h:isT C q.pos k x=true):zd C k x q= .ok (adv q):=if_pos h
theorem zfO (C:Cx) (I o n E:Nat) (S:Sv) (q:PS) (s:ByteArray) (w:World) (h:IM C I o n E S q w) (hs:s.size≤100):
  Calls Tryz.prog 153 #[.pointer (some ⟨E,0,none⟩),.string s] w (zN C I o n E (za6 C s s.size 0 q) id (fun _=>.tuple #[]) S w):=by
 have N:=zc h
 clear h
 go_enter Tryz.func153,Tryz.ntmps153
 go_wp2
 go_loopg [7] s.size (fun k i wr=>∃(j:Nat) (z:PS),i= .int .i64 j∧j+k=s.size∧za6 C s k j z=za6 C s s.size 0 q∧IM C I o n E S z wr∧IS E S w S wr)
 case atStart=>exact⟨0,q,rfl,by omega,rfl,N.out,IS.refl _ _ _⟩
 case round=>
  obtain⟨j,z,rfl,hj,he,m,t⟩:=hrel
  have J:=zc he
  have X:=zc m
  have U:=zc t
  clear he m t
  match gk,hj,J with
  |0,hj,J=>
   have aa: ¬j<s.size:=by omega
   go_wp2
   go_end0
   rw[←J.out]
   exact⟨rfl,S,X.out,U.out⟩
  |k+1,hj,J=>
   have aa:j<s.size:=by omega
   obtain⟨A,K⟩: ∃A,A=j+1:=⟨_,rfl⟩
   have ej:(j:Int)+1=(A:Int):=by omega
   have ac:A≤s.size:=by omega
   have ad:j≤A:=by omega
   have HJ:=zc K
   clear K
   cases M:isT C z.pos 4 (s.extract j A) with
   |true=>
    have O:Hid (za6 C s k A (adv z)=za6 C s s.size 0 q):=by
     show _=_
     rw[←J.out,za6,←HJ.out,zb9 M]
     rfl
    go_wp2_with fail
    refine (zH C I o n E S z 4 (s.extract j A) _ X.out (by decide)).mono ?_
    rintro e Y ⟨rfl,H,L⟩
    rw[M] at H ⊢
    have D:=zc H
    have ab:Hid (IS E S w S Y):=U.out.trans L
    clear H L
    go_wp2
    go_roundg k
    case rel=>exact⟨A,adv z,rfl,by have:=HJ.out;omega,O.out,D.out,ab.out⟩
    case measure=>omega
   |false=>
    have O:Hid (za6 C s s.size 0 q= .error (zq C z.pos)):=by
     show _=_
     rw[←J.out,za6,←HJ.out,zfN M]
     rfl
    go_wp2_with fail
    refine (zH C I o n E S z 4 (s.extract j A) _ X.out (by decide)).mono ?_
    rintro e Y ⟨rfl,H,L⟩
    rw[M] at H ⊢
    have D:=zc H
    have HB:Hid (Below n w Y):=(U.out.trans L).under N.out.mem.base N.out.mem.own N.out.ge
    clear H L
    go_wp2_with fail
    refine (zdG C I o n E S z _ D.out).mono ?_
    rintro e w2 ⟨rfl,V⟩
    have Z:Hid (Below n w w2):=HB.out.trans (V.mono D.out.mem.base)
    unfold Pan
    go_wp2
    refine⟨rfl,?_⟩
    rw[O.out]
    exact⟨rfl,Z.out⟩
theorem zeq {P:Program} {O:Array Oper} {o:Oper} {a:Act} {W:World} {K:Act→World→Prop} {Q:Exit→Act→World→Prop} {E:Prop} (aa:o.guard=none) (s x:Operand) (t:TypeId)
  (ho:o.op= .call {callee:=.builtin .append,args:=#[s,x],argTypes:=#[t,t]})
  (A:Nat) (e:TypeId) (i:TypeInfo) (z:Value) (size q:Nat) (ht:P.underlying t=some (.slice e)) (hi:P.info? e=some i) (hz:i.zero=some z) (H:i.size=size) (Z:i.bytes=q) (V:z.cells.size=size) (Y:0<size) (N:q≤100)
  (r:Rw) (n:Nat) (xs:List Value) (hs:a.eval s= .slice r.a n r.cap) (M:OwnR W A e size r n xs)
  (J:Nat) (w:List Value) (hx:a.eval x= .slice (some ⟨J,0,none⟩) 1 1) (hg:W.heap[J]? =some (.cells w.toArray e (0,0))) (hl:w.length=size) (h1: ∀u∈w,u.oneCell'=true) (hn:n+1≤1000000) (I:A≤W.heap.size)
  (h: ∀U L,OwnR L A e size U (n+1) (xs++w)→W.grownBy L r.blk→(U.blk=r.blk∨U.blk=some W.heap.size)→K (a.put o.dst (.slice U.a (n+1) U.cap)) L):
  if Region.wanted o (yielded O a.tmps)=true then Oper.wp P o a W K Q else E:=by
 have hw:Region.wanted o (yielded O a.tmps)=true:=by simp[Region.wanted,aa]
 rw[if_pos hw]
 obtain⟨v',L,hr,h2,h3,_,h5⟩:=run_append_own_at (P:=P) W A t o.type e i z size q ht hi hz H Z V Y _ n xs M ⟨J,0,none⟩ 1 1 w (by omega) (by
  intro j u hj
  have e1:(⟨J,0,none⟩:Addr).add j=⟨J,j,none⟩:=by simp[Addr.add];exact fun h=>h.symm
  rw[e1]
  simp[World.cell?,hg,hj]) h1 (by unfold maxLen;omega) (by have:(n+1)*q≤1000000*100:=Nat.mul_le_mul hn N;omega) I
 unfold Oper.wp execOp
 simp only[ho,resolve,invoke,builtin,Sem.run_bind,Sem.run_pure,Result.andThen_ok,List.map_toArray,List.map_cons,List.map_nil,hs,hx,hr]
 rcases h2.2 with ⟨hv,ab⟩|⟨g',D,ac,rfl,X⟩
 ·omega
 ·refine h ⟨some ⟨g',0,none⟩,D⟩ L h2 ?_ ?_
  ·rw[←zbh r n];exact h3
  ·rw[←zbh r n,←zbh ⟨some ⟨g',0,none⟩,D⟩ (n+1)];exact h5
def Is (x:PR) (q:PS) (z:Int):Prop:=
 match x with
 | .ok q0=>q=q0∧z= -1
 | .error e=>z=(e:Int)
theorem zU (q:PS):Is (.ok q) q (-1):=⟨rfl,rfl⟩
theorem za7 {x:PR} {q:PS} {z:Int} (h:Is x q z) (n:z<0):x= .ok q∧z= -1:=by
 cases x with
 |ok j=>obtain⟨rfl,rfl⟩:=h;exact⟨rfl,rfl⟩
 |error e=>have:z=(e:Int):=h;omega
theorem zcN {x:PR} {q:PS} {z:Int} (h:Is x q z) (j: ¬z<0): ∃e,x= .error e∧z=(e:Int):=by
 cases x with
 |ok n=>obtain⟨rfl,rfl⟩:=h;exact absurd (by decide) j
 |error e=>exact⟨e,rfl,h⟩
def Out (C:Cx) (gt cap base:Nat) (y:PR) (d:Nat) (S:Sv) (w:World) (e:Ending) (w':World):Prop:=
 ∃S' q' z',e= .returned (pv C gt cap S' q' z' d)∧Is y q' z'∧Mem C gt cap base S' q' w'∧Stp S w S' w'
theorem zcf {C:Cx} {n j h:Nat} {y:PR} {d:Nat} {S:Sv} {w o:World} {q':PS} {z':Int} {v:Value} (A:v=pv C n j S q' z' d) (z:Is y q' z') (D:Mem C n j h S q' w) (q:Below w.heap.size w o):Out C n j h y d S w (.returned v) o:=
 ⟨S,q',z',by rw[A],z,D.later q,Stp.below q⟩
theorem zer (C:Cx) (o h j:Nat) (S:Sv) (q:PS) (z:Int) (d:Nat) (w:World) (n:Mem C o h j S q w) (L:z<0) (M:1≤q.pos):
  Calls Tryz.prog 138 #[pv C o h S q z d] w fun e I=>e= .returned (pv C o h S q (zq C (q.pos-1)) d)∧Below w.heap.size w I:=by
 obtain⟨p,A⟩: ∃p,q.pos=p+1:=⟨q.pos-1,by omega⟩
 have D:p<C.ts.length:=by have:=n.inv.pos;omega
 have H:=n.few
 obtain⟨_,_,_,K⟩:=n.tok.cells D (d:=⟨0,sNone,0,C.fin⟩)
 have E:=(zak n.tok).1
 change _=some (Value.int .i64 (zq C p)) at K
 rw[show q.pos-1=p from by omega]
 have J:(q.pos:Int)-1=p:=by omega
 clear A
 unfold pv
 go_enter Tryz.func138,Tryz.ntmps138
 go_wp2
 refine bodyPost_ret (results_cell_row rfl _ _ (w.heap.size+1) 53 _ (0,0) _ rfl (zbj w _ _) Tryz.underlying53 rfl (by kernel_rfl)) rfl ?_
 exact⟨rfl,zaM w _ _⟩
theorem zab (C:Cx) (I j h:Nat) (x:PR) (S:Sv) (q:PS) (z:Int) (d:Nat) (s:ByteArray) (w:World) (hx:Is x q z) (X:Mem C I j h S q w):
  Calls Tryz.prog 74 #[pv C I j S q z d,.string s] w (Out C I j h (bd x (zd C 4 s)) d S w):=by
 have HM:=zc X
 have o:=X.tok
 have A:=X.few
 have Z:=zc hx
 clear hx X
 cases n:(decide (z<0)&&isT C q.pos 4 s) with
 |true=>
  have ab:q.pos<C.ts.length:=by rw[Bool.and_eq_true] at n;exact zaz n.2 (by decide)
  have HY:Hid (Is (bd x (zd C 4 s)) (adv q) z):=by
   rw[Bool.and_eq_true,decide_eq_true_eq] at n
   obtain⟨U,Y⟩:=za7 Z.out n.1
   show Is (bd x (zd C 4 s)) (adv q) z
   rw[U,zx,zd,if_pos n.2]
   exact⟨rfl,Y⟩
  unfold pv
  go_enter Tryz.func74,Tryz.ntmps74
  go_wp2_with fail
  refine (zg C I j h S q z d 4 s _ (zo (zo o _) _) A (by decide)).mono ?_
  rintro e w1 ⟨rfl,D⟩
  rw[n]
  obtain⟨N,H⟩:=zcn D
  obtain⟨a0,a1,a2,a3,a4,a5,a6,a7,a8,a9,O,M,af⟩:=zag N
  obtain⟨b0,b1,b2,b3,b4,b5,b6,b7,b8,b9,J,V,bf⟩:=zag H
  have G2:=zc H
  clear N H n
  go_wp2
  refine bodyPost_ret (results_cell_row rfl _ _ (w.heap.size+1) 53 _ (0,0) _ rfl (zaL ((zp (by omega)).trans G2.out)) Tryz.underlying53 rfl (by kernel_rfl)) rfl ?_
  exact zcf rfl HY.out (HM.out.adv ab) (zb5 ((zaR D).setCell (Nat.le_refl _) _) (Nat.le_succ _) ..)
 |false=>
  have HY:Hid (Is (bd x (zd C 4 s)) q (zbi C q.pos z)):=by
   show Is (bd x (zd C 4 s)) q (zbi C q.pos z)
   unfold zbi
   by_cases L:z<0
   ·obtain⟨U,Y⟩:=za7 Z.out L
    simp only[L,decide_true,Bool.true_and] at n
    rw[U,zx,zd,n,if_pos L]
    rfl
   ·obtain⟨e,U,Y⟩:=zcN Z.out L
    rw[U,zd7,if_neg L]
    exact Y
  unfold pv
  go_enter Tryz.func74,Tryz.ntmps74
  go_wp2_with fail
  refine (zg C I j h S q z d 4 s _ (zo (zo o _) _) A (by decide)).mono ?_
  rintro e w1 ⟨rfl,D⟩
  rw[n]
  obtain⟨N,H⟩:=zcn D
  obtain⟨a0,a1,a2,a3,a4,a5,a6,a7,a8,a9,O,M,af⟩:=zag N
  obtain⟨b0,b1,b2,b3,b4,b5,b6,b7,b8,b9,J,V,bf⟩:=zag H
  have G2:=zc H
  have E:=zbO o (zaR D)
  clear N H n
  go_wp2_with fail
  refine (zcL C I j h S q z d _ E A).mono ?_
  rintro e w2 ⟨rfl,K⟩
  have G3:Hid (_=_):=(K.block _ (Nat.lt_of_lt_of_le (by simp) D.size)).trans G2.out
  obtain⟨c0,c1,c2,c3,c4,c5,c6,c7,c8,c9,ad,ac,cf⟩:=zag G3.out
  have aa:=(zaR D).trans (K.mono (zaR D).size)
  clear a0 a1 a2 a3 a4 a5 a6 a7 a8 a9 O M b0 b1 b2 b3 b4 b5 b6 b7 b8 b9 J V af bf
  unfold pv
  go_wp2
  refine bodyPost_ret (results_cell_row rfl _ _ (w.heap.size+1) 53 _ (0,0) _ rfl (zaL G3.out) Tryz.underlying53 rfl (by kernel_rfl)) rfl ?_
  exact zcf rfl HY.out HM.out (zb5 aa (Nat.le_succ _) ..)
-- GEN
theorem zaC (C:Cx) (I j h:Nat) (x:PR) (S:Sv) (q:PS) (z:Int) (d:Nat) (s:ByteArray) (w:World) (hx:Is x q z) (X:Mem C I j h S q w):
  Calls Tryz.prog 76 #[pv C I j S q z d,.string s] w (Out C I j h (bd x (zd C 1 s)) d S w):=by
 have HM:=zc X
 have o:=X.tok
 have A:=X.few
 have Z:=zc hx
 clear hx X
 cases n:(decide (z<0)&&isT C q.pos 1 s) with
 |true=>
  have ab:q.pos<C.ts.length:=by rw[Bool.and_eq_true] at n;exact zaz n.2 (by decide)
  have HY:Hid (Is (bd x (zd C 1 s)) (adv q) z):=by
   rw[Bool.and_eq_true,decide_eq_true_eq] at n
   obtain⟨U,Y⟩:=za7 Z.out n.1
   show Is (bd x (zd C 1 s)) (adv q) z
   rw[U,zx,zd,if_pos n.2]
   exact⟨rfl,Y⟩
  unfold pv
  go_enter Tryz.func76,Tryz.ntmps76
  go_wp2_with fail
  refine (zg C I j h S q z d 1 s _ (zo (zo o _) _) A (by decide)).mono ?_
  rintro e w1 ⟨rfl,D⟩
  rw[n]
  obtain⟨N,H⟩:=zcn D
  obtain⟨a0,a1,a2,a3,a4,a5,a6,a7,a8,a9,O,M,af⟩:=zag N
  obtain⟨b0,b1,b2,b3,b4,b5,b6,b7,b8,b9,J,V,bf⟩:=zag H
  have G2:=zc H
  clear N H n
  go_wp2
  refine bodyPost_ret (results_cell_row rfl _ _ (w.heap.size+1) 53 _ (0,0) _ rfl (zaL ((zp (by omega)).trans G2.out)) Tryz.underlying53 rfl (by kernel_rfl)) rfl ?_
  exact zcf rfl HY.out (HM.out.adv ab) (zb5 ((zaR D).setCell (Nat.le_refl _) _) (Nat.le_succ _) ..)
 |false=>
  have HY:Hid (Is (bd x (zd C 1 s)) q (zbi C q.pos z)):=by
   show Is (bd x (zd C 1 s)) q (zbi C q.pos z)
   unfold zbi
   by_cases L:z<0
   ·obtain⟨U,Y⟩:=za7 Z.out L
    simp only[L,decide_true,Bool.true_and] at n
    rw[U,zx,zd,n,if_pos L]
    rfl
   ·obtain⟨e,U,Y⟩:=zcN Z.out L
    rw[U,zd7,if_neg L]
    exact Y
  unfold pv
  go_enter Tryz.func76,Tryz.ntmps76
  go_wp2_with fail
  refine (zg C I j h S q z d 1 s _ (zo (zo o _) _) A (by decide)).mono ?_
  rintro e w1 ⟨rfl,D⟩
  rw[n]
  obtain⟨N,H⟩:=zcn D
  obtain⟨a0,a1,a2,a3,a4,a5,a6,a7,a8,a9,O,M,af⟩:=zag N
  obtain⟨b0,b1,b2,b3,b4,b5,b6,b7,b8,b9,J,V,bf⟩:=zag H
  have G2:=zc H
  have E:=zbO o (zaR D)
  clear N H n
  go_wp2_with fail
  refine (zcL C I j h S q z d _ E A).mono ?_
  rintro e w2 ⟨rfl,K⟩
  have G3:Hid (_=_):=(K.block _ (Nat.lt_of_lt_of_le (by simp) D.size)).trans G2.out
  obtain⟨c0,c1,c2,c3,c4,c5,c6,c7,c8,c9,ad,ac,cf⟩:=zag G3.out
  have aa:=(zaR D).trans (K.mono (zaR D).size)
  clear a0 a1 a2 a3 a4 a5 a6 a7 a8 a9 O M b0 b1 b2 b3 b4 b5 b6 b7 b8 b9 J V af bf
  unfold pv
  go_wp2
  refine bodyPost_ret (results_cell_row rfl _ _ (w.heap.size+1) 53 _ (0,0) _ rfl (zaL G3.out) Tryz.underlying53 rfl (by kernel_rfl)) rfl ?_
  exact zcf rfl HY.out HM.out (zb5 aa (Nat.le_succ _) ..)
theorem zdk (s:ByteArray) (h:Bool) (w:World):
  Calls Tryz.prog 166 #[.string s,.bool h] w fun e K=>e= .returned (.bool (zs s h))∧K=w:=by
 cases n:(s.toList==[105,109,112,111,114,116]) with
 |true=>
  have j:Hid (zs s h=true):=by show zs s h=true;simp[zs,n]
  go_enter Tryz.func166,Tryz.ntmps166
  go_wp2
  go_ret
  exact⟨zl j.out.symm,rfl⟩
 |false=>
  cases o:(s.toList==[101,120,112,111,114,116]) with
  |true=>
   have j:Hid (zs s h=true):=by show zs s h=true;simp[zs,n,o]
   go_enter Tryz.func166,Tryz.ntmps166
   go_wp2
   go_ret
   exact⟨zl j.out.symm,rfl⟩
  |false=>
   cases q:(s.toList==[100,101,102,97,117,108,116]) with
   |true=>
    have j:Hid (zs s h=true):=by show zs s h=true;simp[zs,n,o,q]
    go_enter Tryz.func166,Tryz.ntmps166
    go_wp2
    go_ret
    exact⟨zl j.out.symm,rfl⟩
   |false=>
    cases z:(s.toList==[108,101,116]) with
    |true=>
     have j:Hid (zs s h=true):=by show zs s h=true;simp[zs,n,o,q,z]
     go_enter Tryz.func166,Tryz.ntmps166
     go_wp2
     go_ret
     exact⟨zl j.out.symm,rfl⟩
    |false=>
     cases A:(s.toList==[102,117,110,99,116,105,111,110]) with
     |true=>
      have j:Hid (zs s h=true):=by show zs s h=true;simp[zs,n,o,q,z,A]
      go_enter Tryz.func166,Tryz.ntmps166
      go_wp2
      go_ret
      exact⟨zl j.out.symm,rfl⟩
     |false=>
      cases D:(s.toList==[114,101,116,117,114,110]) with
      |true=>
       have j:Hid (zs s h=true):=by show zs s h=true;simp[zs,n,o,q,z,A,D]
       go_enter Tryz.func166,Tryz.ntmps166
       go_wp2
       go_ret
       exact⟨zl j.out.symm,rfl⟩
      |false=>
       cases E:(s.toList==[112,114,105,110,116]) with
       |true=>
        have j:Hid (zs s h=true):=by show zs s h=true;simp[zs,n,o,q,z,A,D,E]
        go_enter Tryz.func166,Tryz.ntmps166
        go_wp2
        go_ret
        exact⟨zl j.out.symm,rfl⟩
       |false=>
        cases H:(s.toList==[116,104,114,111,119]) with
        |true=>
         have j:Hid (zs s h=true):=by show zs s h=true;simp[zs,n,o,q,z,A,D,E,H]
         go_enter Tryz.func166,Tryz.ntmps166
         go_wp2
         go_ret
         exact⟨zl j.out.symm,rfl⟩
        |false=>
         cases I:(s.toList==[102,97,105,108]) with
         |true=>
          have j:Hid (zs s h=h):=by show zs s h=h;simp[zs,n,o,q,z,A,D,E,H,I]
          go_enter Tryz.func166,Tryz.ntmps166
          go_wp2
          go_ret
          exact⟨zl j.out.symm,rfl⟩
         |false=>
          cases J:(s.toList==[117,110,100,101,102]) with
          |true=>
           have j:Hid (zs s h=h):=by show zs s h=h;simp[zs,n,o,q,z,A,D,E,H,I,J]
           go_enter Tryz.func166,Tryz.ntmps166
           go_wp2
           go_ret
           exact⟨zl j.out.symm,rfl⟩
          |false=>
           have j:Hid (zs s h=false):=by show zs s h=false;simp[zs,n,o,q,z,A,D,E,H,I,J]
           go_enter Tryz.func166,Tryz.ntmps166
           go_wp2
           go_ret
           exact⟨zl j.out.symm,rfl⟩
theorem zkx {C:Cx} {i:Nat} {o:Bool} (h:((ze C i).kind==1)=false):zB C i o=false:=by rw[zB,h];rfl
theorem zfP {C:Cx} {i:Nat} {o:Bool} (h: ¬i<C.ts.length):zB C i o=false:=by
 rw[Bool.eq_false_iff]
 exact fun g=>h (zed g)
theorem zeV (C:Cx) (L H E:Nat) (S:Sv) (q:PS) (z:Int) (d:Nat) (o:Bool) (w:World) (M:OwnT w E 111 L C.ts.length H C.ts) (_:C.ts.length≤4000):
  Calls Tryz.prog 133 #[pv C L H S q z d,.bool o] w fun e A=>e= .returned (.bool (decide (z<0)&&zB C q.pos o))∧Below w.heap.size w A:=by
 unfold pv
 by_cases N:z<0
 ·have n:decide (z<0)=true:=decide_eq_true N
  have K:decide (0≤z)=false:=decide_eq_false (by omega)
  by_cases O:q.pos<C.ts.length
  ·obtain⟨U,Y,_,_⟩:=M.cells O (d:=⟨0,sNone,0,C.fin⟩)
   have X:=(zak M).1
   change _=some (Value.int .i64 (ze C q.pos).kind) at U
   change _=some (Value.string (ze C q.pos).text) at Y
   generalize h:ze C q.pos=t at U Y
   cases D:(t.kind==1) with
   |true=>
    have J:(t.kind !=1)=false:=by rw[bne,D];rfl
    cases I:zs t.text C.scr with
    |false=>
     have j:Hid (zB C q.pos o=true):=by show zB C q.pos o=true;simp only[zB,h,D,I,Bool.not_false,Bool.true_or,Bool.and_self]
     clear h
     go_enter Tryz.func133,Tryz.ntmps133
     go_wp2_with (first|(go_at_call 166;refine (zdk _ _ _).mono ?_;rintro e A ⟨rfl,rfl⟩))
     go_ret
     exact⟨zl (by first|(rw[n,j.out];rfl)|rfl),(Below.refl _ _).alloc (Nat.le_refl _) _⟩
    |true=>
     cases o with
     |true=>
      cases V:(t.text.toList==[100,101,102,97,117,108,116]) with
      |true=>
       have j:Hid (zB C q.pos true=true):=by show zB C q.pos true=true;simp only[zB,h,D,I,V,Bool.not_true,Bool.and_self,Bool.false_or]
       clear h
       go_enter Tryz.func133,Tryz.ntmps133
       go_wp2_with (first|(go_at_call 166;refine (zdk _ _ _).mono ?_;rintro e A ⟨rfl,rfl⟩))
       go_ret
       exact⟨zl (by first|(rw[n,j.out];rfl)|rfl),(Below.refl _ _).alloc (Nat.le_refl _) _⟩
      |false=>
       have j:Hid (zB C q.pos true=false):=by show zB C q.pos true=false;simp only[zB,h,D,I,V,Bool.not_true,Bool.true_and,Bool.or_self]
       clear h
       go_enter Tryz.func133,Tryz.ntmps133
       go_wp2_with (first|(go_at_call 166;refine (zdk _ _ _).mono ?_;rintro e A ⟨rfl,rfl⟩))
       go_ret
       exact⟨zl (by first|(rw[n,j.out];rfl)|rfl),(Below.refl _ _).alloc (Nat.le_refl _) _⟩
     |false=>
      have j:Hid (zB C q.pos false=false):=by show zB C q.pos false=false;simp only[zB,h,D,I,Bool.not_true,Bool.false_and,Bool.or_self,Bool.and_false]
      clear h
      go_enter Tryz.func133,Tryz.ntmps133
      go_wp2_with (first|(go_at_call 166;refine (zdk _ _ _).mono ?_;rintro e A ⟨rfl,rfl⟩))
      go_ret
      exact⟨zl (by first|(rw[n,j.out];rfl)|rfl),(Below.refl _ _).alloc (Nat.le_refl _) _⟩
   |false=>
    have J:(t.kind !=1)=true:=by rw[bne,D];rfl
    have j:Hid (zB C q.pos o=false):=zkx (by rw[h];exact D)
    clear h
    go_enter Tryz.func133,Tryz.ntmps133
    go_wp2_with (first|(go_at_call 166;refine (zdk _ _ _).mono ?_;rintro e A ⟨rfl,rfl⟩))
    go_ret
    exact⟨zl (by first|(rw[n,j.out];rfl)|rfl),(Below.refl _ _).alloc (Nat.le_refl _) _⟩
  ·have j:Hid (zB C q.pos o=false):=zfP O
   go_enter Tryz.func133,Tryz.ntmps133
   go_wp2_with (first|(go_at_call 166;refine (zdk _ _ _).mono ?_;rintro e A ⟨rfl,rfl⟩))
   go_ret
   exact⟨zl (by first|(rw[n,j.out];rfl)|rfl),(Below.refl _ _).alloc (Nat.le_refl _) _⟩
 ·have n:decide (z<0)=false:=decide_eq_false N
  have K:decide (0≤z)=true:=decide_eq_true (by omega)
  have j:Hid (zB C q.pos o=zB C q.pos o):=rfl
  go_enter Tryz.func133,Tryz.ntmps133
  go_wp2_with (first|(go_at_call 166;refine (zdk _ _ _).mono ?_;rintro e A ⟨rfl,rfl⟩))
  go_ret
  exact⟨zl (by first|(rw[n,j.out];rfl)|rfl),(Below.refl _ _).alloc (Nat.le_refl _) _⟩
def Is2 (y:Except Nat (PS×ByteArray)) (q:PS) (z:Int) (n:ByteArray):Prop:=
 match y with
 | .ok a=>q=a.1∧z= -1∧n=a.2
 | .error e=>z=(e:Int)
theorem Is2.fst {y:Except Nat (PS×ByteArray)} {q:PS} {z:Int} {n:ByteArray} (h:Is2 y q z n):Is (zaG y) q z:=by
 cases y with
 |ok a=>exact⟨h.1,h.2.1⟩
 |error e=>exact h
theorem Is2.bind {y:Except Nat (PS×ByteArray)} {q:PS} {z:Int} {n:ByteArray} (h:Is2 y q z n) {β:Type} (F:PS→ByteArray→Except Nat β):bd (zaG y) (fun q=>F q n)=bd y fun a=>F a.1 a.2:=by
 cases y with
 |ok a=>obtain⟨_,_,rfl⟩:=h;rfl
 |error e=>rfl
def zcW (C:Cx) (gt cap base:Nat) (y:Except Nat (PS×ByteArray)) (d:Nat) (S:Sv) (w:World) (e:Ending) (w':World):Prop:=
 ∃S' q' z' n',e= .returned (.tuple #[pv C gt cap S' q' z' d,.string n'])∧Is2 y q' z' n'∧Mem C gt cap base S' q' w'∧Stp S w S' w'
theorem zdl {C:Cx} {o j h:Nat} {y:Except Nat (PS×ByteArray)} {d:Nat} {S:Sv} {w q:World} {q':PS} {z':Int} {n:ByteArray} {v:Value} (D:v=pv C o j S q' z' d) (A:Is2 y q' z' n) (E:Mem C o j h S q' w) (z:Below w.heap.size w q):zcW C o j h y d S w (.returned (.tuple #[v,.string n])) q:=
 ⟨S,q',z',n,by rw[D],A,E.later z,Stp.below z⟩
theorem zaU (C:Cx) (J A h:Nat) (x:PR) (S:Sv) (q:PS) (z:Int) (d:Nat) (o:Bool) (w:World) (hx:Is x q z) (X:Mem C J A h S q w):
  Calls Tryz.prog 78 #[pv C J A S q z d,.bool o] w (zcW C J A h (bd x (zh C o)) d S w):=by
 have HM:=zc X
 have n:=X.tok
 have E:=X.few
 have Z:=zc hx
 clear hx X
 cases D:(decide (z<0)&&zB C q.pos o) with
 |true=>
  have V:q.pos<C.ts.length:=by rw[Bool.and_eq_true] at D;exact zed D.2
  have HY:Hid (Is2 (bd x (zh C o)) (adv q) z (ze C q.pos).text):=by
   rw[Bool.and_eq_true,decide_eq_true_eq] at D
   obtain⟨U,Y⟩:=za7 Z.out D.1
   show Is2 (bd x (zh C o)) (adv q) z (ze C q.pos).text
   rw[U,zx,zh,if_pos D.2]
   exact⟨rfl,Y,rfl⟩
  unfold pv
  go_enter Tryz.func78,Tryz.ntmps78
  go_wp2_with fail
  refine (zeV C J A h S q z d o _ (zo (zo n _) _) E).mono ?_
  rintro e w1 ⟨rfl,H⟩
  rw[D]
  obtain⟨N,I⟩:=zcn H
  obtain⟨a0,a1,a2,a3,a4,a5,a6,a7,a8,a9,O,M,af⟩:=zag N
  obtain⟨b0,b1,b2,b3,b4,b5,b6,b7,b8,b9,ab,ae,bf⟩:=zag I
  have j:=zbO n (zaR H)
  obtain⟨_,c1,_,_⟩:=j.cells V (d:=⟨0,sNone,0,C.fin⟩)
  change _=some (Value.string (ze C q.pos).text) at c1
  have G2:=zc I
  clear N I D
  go_wp2
  refine bodyPost_ret (za8 rfl _ _ (w.heap.size+1) 53 _ (0,0) _ rfl (zaL ((zp (by omega)).trans G2.out)) Tryz.underlying53 rfl (by kernel_rfl)) rfl ?_
  exact zdl rfl HY.out (HM.out.adv V) (zb5 ((zaR H).setCell (Nat.le_refl _) _) (Nat.le_succ _) ..)
 |false=>
  have HY:Hid (Is2 (bd x (zh C o)) q (zbi C q.pos z) sNone):=by
   show Is2 (bd x (zh C o)) q (zbi C q.pos z) sNone
   unfold zbi
   by_cases L:z<0
   ·obtain⟨U,Y⟩:=za7 Z.out L
    simp only[L,decide_true,Bool.true_and] at D
    rw[U,zx,zh,D,if_pos L]
    rfl
   ·obtain⟨e,U,Y⟩:=zcN Z.out L
    rw[U,zd7,if_neg L]
    exact Y
  unfold pv
  go_enter Tryz.func78,Tryz.ntmps78
  go_wp2_with fail
  refine (zeV C J A h S q z d o _ (zo (zo n _) _) E).mono ?_
  rintro e w1 ⟨rfl,H⟩
  rw[D]
  obtain⟨N,I⟩:=zcn H
  obtain⟨a0,a1,a2,a3,a4,a5,a6,a7,a8,a9,O,M,af⟩:=zag N
  have G2:=zc I
  have j:=zbO n (zaR H)
  clear N I D
  go_wp2_with fail
  refine (zcL C J A h S q z d _ j E).mono ?_
  rintro e w2 ⟨rfl,K⟩
  have G3:Hid (_=_):=(K.block _ (Nat.lt_of_lt_of_le (by simp) H.size)).trans G2.out
  obtain⟨c0,c1,c2,c3,c4,c5,c6,c7,c8,c9,ad,ac,cf⟩:=zag G3.out
  have aa:=(zaR H).trans (K.mono (zaR H).size)
  clear a0 a1 a2 a3 a4 a5 a6 a7 a8 a9 O M af
  unfold pv
  go_wp2
  refine bodyPost_ret (za8 rfl _ _ (w.heap.size+1) 53 _ (0,0) _ rfl (zaL G3.out) Tryz.underlying53 rfl (by kernel_rfl)) rfl ?_
  exact zdl rfl HY.out HM.out (zb5 aa (Nat.le_succ _) ..)
theorem Tryz.infoImp:(Tryz.prog.info? 100).map (fun i=>(i.zero,i.size,i.bytes))=some (some (.agg #[.string {data:=#[]},.string {data:=#[]},.string {data:=#[]}]),3,48):=by kernel_rfl
theorem Tryz.infoExp:(Tryz.prog.info? 102).map (fun i=>(i.zero,i.size,i.bytes))=some (some (.agg #[.int .i64 0,.string {data:=#[]},.string {data:=#[]},.string {data:=#[]}]),4,56):=by kernel_rfl
theorem Tryz.infoStmt:(Tryz.prog.info? 106).map (fun i=>(i.zero,i.size,i.bytes))=some (some (.agg #[.int .i64 0,.string {data:=#[]},.int .i64 0]),3,32):=by kernel_rfl
theorem Tryz.infoExpr:(Tryz.prog.info? 108).map (fun i=>(i.zero,i.size,i.bytes))=some (some (.agg #[.int .i64 0,.int .i64 0,.string {data:=#[]},.string {data:=#[]},.int .i64 0,.int .i64 0]),6,64):=by kernel_rfl
def imV (x:Im):Value:=.agg #[.string x.spec,.string x.first,.string x.loc]
def epV (x:Ep):Value:=.agg #[.int .i64 x.kind,.string x.name,.string x.loc,.string x.spec]
def exV (x:Ex):Value:=.agg #[.int .i64 x.kind,.int .i64 x.num,.string x.name,.string x.field,.int .i64 x.l,.int .i64 x.r]
theorem zc2 (w:World) (a b c:Obj):Below w.heap.size w (((w.alloc a).alloc b).alloc c):=(zaM w a b).alloc (zaM w a b).size c
theorem zeW (w:World) (a b c d:Obj):Below w.heap.size w ((((w.alloc a).alloc b).alloc c).alloc d):=(zc2 w a b c).alloc (zc2 w a b c).size d
theorem zcp (w:World) (a b:Obj):((w.alloc a).alloc b).heap.size=w.heap.size+1+1:=by rw[zj,zj]
theorem zY (w:World) (a b c:Obj):(((w.alloc a).alloc b).alloc c).heap.size=w.heap.size+1+1+1:=by rw[zj,zcp]
theorem za1 (w:World) (a b c d:Obj):((((w.alloc a).alloc b).alloc c).alloc d).heap.size=w.heap.size+1+1+1+1:=by rw[zj,zY]
theorem zaH (w:World) (a b c:Obj):(((w.alloc a).alloc b).alloc c).heap[w.heap.size]? =some a∧(((w.alloc a).alloc b).alloc c).heap[w.heap.size+1]? =some b∧(((w.alloc a).alloc b).alloc c).heap[w.heap.size+1+1]? =some c:=by
 refine⟨?_,?_,?_⟩
 ·rw[Below.heap_alloc _ _ _ (by rw[zcp];omega),Below.heap_alloc _ _ _ (by rw[zj];omega)]
  exact heap_alloc_new w a
 ·rw[Below.heap_alloc _ _ _ (by rw[zcp];omega)]
  exact zbj w a b
 ·rw[←zcp w a b]
  exact heap_alloc_new _ c
theorem zbA (w:World) (a b c d:Obj):((((w.alloc a).alloc b).alloc c).alloc d).heap[w.heap.size]? =some a∧((((w.alloc a).alloc b).alloc c).alloc d).heap[w.heap.size+1]? =some b∧((((w.alloc a).alloc b).alloc c).alloc d).heap[w.heap.size+1+1]? =some c∧((((w.alloc a).alloc b).alloc c).alloc d).heap[w.heap.size+1+1+1]? =some d:=by
 obtain⟨h,j,n⟩:=zaH w a b c
 refine⟨?_,?_,?_,?_⟩
 ·rw[Below.heap_alloc _ _ _ (by rw[zY];omega)]
  exact h
 ·rw[Below.heap_alloc _ _ _ (by rw[zY];omega)]
  exact j
 ·rw[Below.heap_alloc _ _ _ (by rw[zY];omega)]
  exact n
 ·rw[←zY w a b c]
  exact heap_alloc_new _ d
theorem zfQ {w h:World} {a b c:Obj} (j:Below (((w.alloc a).alloc b).alloc c).heap.size (((w.alloc a).alloc b).alloc c) h):Below w.heap.size w h:=(zc2 w a b c).trans (j.mono (zc2 w a b c).size)
theorem zeX {C:Cx} {x:PR} {q:PS} {z:Int} {f:PS→PR} (h:Is x q z) (j:z<0) (n:f q= .error (zq C (q.pos-1))):Is (bd x f) q (zq C (q.pos-1)):=by
 obtain⟨rfl,_⟩:=za7 h j
 rw[zx,n]
 rfl
theorem zeY {x:PR} {q:PS} {z:Int} {f:PS→PR} (j:Is x q z) (n: ¬z<0):Is (bd x f) q z:=by
 obtain⟨e,rfl,h⟩:=zcN j n
 exact h
theorem zes {x:PR} {q q':PS} {z:Int} {f:PS→PR} (j:Is x q z) (n:z<0) (o:f q= .ok q'):Is (bd x f) q' z:=by
 obtain⟨rfl,h⟩:=za7 j n
 rw[zx,o]
 exact⟨rfl,h⟩
theorem zdm {w W:World} {h:Nat} {S:Sv} {q:PS} (j:Own w h S q) (_:w.heap.size≤W.heap.size) {r:Option Nat} (n: ∀k,r=some k→S.has k) (b:Nat) (o:w.heap.size≤b):some b≠r:=fun e=>by have:=(j.has (n b e.symm)).2;omega
theorem zc3 (C:Cx) (N j h:Nat) (x:PR) (S:Sv) (q:PS) (z:Int) (d:Nat) (y:Ex) (w:World) (hx:Is x q z) (J:Mem C N j h S q w) (L:z<0→1≤q.pos):
  Calls Tryz.prog 137 #[pv C N j S q z d,exV y] w (Out C N j h (bd x (zM C y)) d S w):=by
 obtain⟨i0,hi,X,Z,Y⟩:=info_parts Tryz.infoExpr
 have D:=zc J
 have HX:=zc hx
 have aa:q.ex.length≤300:=by have:=J.inv.ex;omega
 clear hx
 by_cases K:z<0
 ·have dz:decide (0≤z)=false:=decide_eq_false (by omega)
  by_cases hn:300≤q.ex.length
  ·have H:Hid (Is (bd x (zM C y)) q (zq C (q.pos-1))):=zeX HX.out K (if_pos hn)
   have qn:decide ((300:Int)≤(q.ex.length:Int))=true:=decide_eq_true (by omega)
   have E:=L K
   clear L J
   unfold pv exV
   go_enter Tryz.func137,Tryz.ntmps137
   go_wp2_with fail
   refine (zer C N j h S q z d _ (((D.out.alloc _).alloc _).alloc _) K E).mono ?_
   rintro e w2 ⟨rfl,o⟩
   have O:Below w.heap.size w w2:=zfQ o
   have G3:Hid (_=_):=(o.block (w.heap.size+1+1) (by rw[zY];omega)).trans ((zaH w _ _ _).2.2)
   obtain⟨c0,c1,c2,c3,c4,c5,c6,c7,c8,c9,ag,ae,cf⟩:=zag G3.out
   clear o
   unfold pv
   go_wp2
   refine bodyPost_ret (results_cell_row rfl _ _ (w.heap.size+1+1) 53 _ (0,0) _ rfl (zaL G3.out) Tryz.underlying53 rfl (by kernel_rfl)) rfl ?_
   exact zcf rfl H.out D.out (zb5 O (by omega) ..)
  ·have qn:decide ((300:Int)≤(q.ex.length:Int))=false:=decide_eq_false (by omega)
   have H:Hid (Is (bd x (zM C y)) {q with ex:=q.ex++[y]} z):=zes HX.out K (if_neg hn)
   have n:=fun o1 o2 o3 o4=>((((D.out.own.ex.alloc o1).alloc o2).alloc o3).alloc o4)
   clear L J
   unfold pv exV
   go_enter Tryz.func137,Tryz.ntmps137
   go_wp2_with (at_builtin;refine zcl _ rfl _ _ 26 rfl h 108 i0 _ 6 64 Tryz.underlying26 hi X Z Y rfl (by decide) (by decide) S.ex q.ex.length _ (by rfl) (n ..) (w.heap.size+1+1+1) (exL y) (by rfl) (by first|exact (zbA w ..).2.2.2|exact (zaH w _ _ _).2.2) rfl (by intro u hu;simp[exL] at hu;rcases hu with rfl|rfl|rfl|rfl|rfl|rfl<;>rfl) (by omega) (by have:=D.out.base;(first|rw[za1]|rw[zY]);omega) ?_)
   intro r' w2 hr M I
   have HR:=zc hr
   have HG:=zc M
   have V:=zc I
   have A:=fun b hb=>zdm (W:=w) D.out.own (Nat.le_refl _) (r:=S.ex.blk) (fun k e=>.inr (.inr (.inr (.inr (.inl e))))) b hb
   have g1:=(M.block w.heap.size (by (first|rw[za1]|rw[zY]);omega) (A _ (Nat.le_refl _))).trans (by first|exact (zbA w ..).1|exact (zaH w _ _ _).1)
   have U:=(M.block (w.heap.size+1+1) (by (first|rw[za1]|rw[zY]);omega) (A _ (by omega))).trans (by first|exact (zbA w ..).2.2.1|exact (zaH w _ _ _).2.1)
   obtain⟨a0,a1,a2,a3,a4,a5,a6,a7,a8,a9,ac,ab,af⟩:=zag g1
   obtain⟨b0,b1,b2,b3,b4,b5,b6,b7,b8,b9,ah,ad,bf⟩:=zag U
   have G2:=zc U
   clear g1 U M hr I A n
   go_wp2
   refine bodyPost_ret (results_cell_row rfl _ _ (w.heap.size+1+1) 53 _ (0,0) _ rfl (zaL ((zp (by omega)).trans G2.out)) Tryz.underlying53 rfl (by kernel_rfl)) rfl ?_
   obtain⟨m',s'⟩:=D.out.grow_ex (x:=y) (zeW w ..) HG.out HR.out (by (first|rw[za1]|rw[zY]);exact V.out) (((Off.refl _ _ _).set (b:=w.heap.size) (Nat.le_refl _) (by (first|rw[za1]|rw[zY]);omega) _ _).set12 (b:=w.heap.size+1+1) (by omega) (by (first|rw[za1]|rw[zY]);omega) ..) (by omega)
   exact⟨_,{q with ex:=q.ex++[y]},z,by simp[pv],H.out,m',s'⟩
 ·have dz:decide (0≤z)=true:=decide_eq_true (by omega)
  have H:Hid (Is (bd x (zM C y)) q z):=zeY HX.out K
  clear L J
  unfold pv exV
  go_enter Tryz.func137,Tryz.ntmps137
  go_wp2
  refine bodyPost_ret (results_cell_row rfl _ _ (w.heap.size+1+1) 53 _ (0,0) _ rfl ((zaH w _ _ _).2.2) Tryz.underlying53 rfl (by kernel_rfl)) rfl ?_
  exact zcf rfl H.out D.out (zc2 w _ _ _)
theorem zfR (C:Cx) (N j h:Nat) (x:PR) (S:Sv) (q:PS) (z:Int) (d:Nat) (y:Im) (w:World) (hx:Is x q z) (J:Mem C N j h S q w) (L:z<0→1≤q.pos):
  Calls Tryz.prog 132 #[pv C N j S q z d,imV y] w (Out C N j h (bd x (zao C y)) d S w):=by
 obtain⟨i0,hi,X,Z,Y⟩:=info_parts Tryz.infoImp
 have D:=zc J
 have HX:=zc hx
 have aa:q.im.length≤40:=by have:=J.inv.im;omega
 clear hx
 by_cases K:z<0
 ·have dz:decide (0≤z)=false:=decide_eq_false (by omega)
  by_cases hn:40≤q.im.length
  ·have H:Hid (Is (bd x (zao C y)) q (zq C (q.pos-1))):=zeX HX.out K (if_pos hn)
   have qn:decide ((40:Int)≤(q.im.length:Int))=true:=decide_eq_true (by omega)
   have E:=L K
   clear L J
   unfold pv imV
   go_enter Tryz.func132,Tryz.ntmps132
   go_wp2_with fail
   refine (zer C N j h S q z d _ (((D.out.alloc _).alloc _).alloc _) K E).mono ?_
   rintro e w2 ⟨rfl,o⟩
   have O:Below w.heap.size w w2:=zfQ o
   have G3:Hid (_=_):=(o.block (w.heap.size+1+1) (by rw[zY];omega)).trans ((zaH w _ _ _).2.2)
   obtain⟨c0,c1,c2,c3,c4,c5,c6,c7,c8,c9,ag,ae,cf⟩:=zag G3.out
   clear o
   unfold pv
   go_wp2
   refine bodyPost_ret (results_cell_row rfl _ _ (w.heap.size+1+1) 53 _ (0,0) _ rfl (zaL G3.out) Tryz.underlying53 rfl (by kernel_rfl)) rfl ?_
   exact zcf rfl H.out D.out (zb5 O (by omega) ..)
  ·have qn:decide ((40:Int)≤(q.im.length:Int))=false:=decide_eq_false (by omega)
   have H:Hid (Is (bd x (zao C y)) {q with im:=q.im++[y]} z):=zes HX.out K (if_neg hn)
   have n:=fun o1 o2 o3 o4=>((((D.out.own.im.alloc o1).alloc o2).alloc o3).alloc o4)
   clear L J
   unfold pv imV
   go_enter Tryz.func132,Tryz.ntmps132
   go_wp2_with (at_builtin;refine zcl _ rfl _ _ 23 rfl h 100 i0 _ 3 48 Tryz.underlying23 hi X Z Y rfl (by decide) (by decide) S.im q.im.length _ (by rfl) (n ..) (w.heap.size+1+1+1) (imL y) (by rfl) (by first|exact (zbA w ..).2.2.2|exact (zaH w _ _ _).2.2) rfl (by intro u hu;simp[imL] at hu;rcases hu with rfl|rfl|rfl<;>rfl) (by omega) (by have:=D.out.base;(first|rw[za1]|rw[zY]);omega) ?_)
   intro r' w2 hr M I
   have HR:=zc hr
   have HG:=zc M
   have V:=zc I
   have A:=fun b hb=>zdm (W:=w) D.out.own (Nat.le_refl _) (r:=S.im.blk) (fun k e=>.inr (.inl e)) b hb
   have g1:=(M.block w.heap.size (by (first|rw[za1]|rw[zY]);omega) (A _ (Nat.le_refl _))).trans (by first|exact (zbA w ..).1|exact (zaH w _ _ _).1)
   have U:=(M.block (w.heap.size+1+1) (by (first|rw[za1]|rw[zY]);omega) (A _ (by omega))).trans (by first|exact (zbA w ..).2.2.1|exact (zaH w _ _ _).2.1)
   obtain⟨a0,a1,a2,a3,a4,a5,a6,a7,a8,a9,ac,ab,af⟩:=zag g1
   obtain⟨b0,b1,b2,b3,b4,b5,b6,b7,b8,b9,ah,ad,bf⟩:=zag U
   have G2:=zc U
   clear g1 U M hr I A n
   go_wp2
   refine bodyPost_ret (results_cell_row rfl _ _ (w.heap.size+1+1) 53 _ (0,0) _ rfl (zaL ((zp (by omega)).trans G2.out)) Tryz.underlying53 rfl (by kernel_rfl)) rfl ?_
   obtain⟨m',s'⟩:=D.out.grow_im (x:=y) (zeW w ..) HG.out HR.out (by (first|rw[za1]|rw[zY]);exact V.out) (((Off.refl _ _ _).set (b:=w.heap.size) (Nat.le_refl _) (by (first|rw[za1]|rw[zY]);omega) _ _).set12 (b:=w.heap.size+1+1) (by omega) (by (first|rw[za1]|rw[zY]);omega) ..) (by omega)
   exact⟨_,{q with im:=q.im++[y]},z,by simp[pv],H.out,m',s'⟩
 ·have dz:decide (0≤z)=true:=decide_eq_true (by omega)
  have H:Hid (Is (bd x (zao C y)) q z):=zeY HX.out K
  clear L J
  unfold pv imV
  go_enter Tryz.func132,Tryz.ntmps132
  go_wp2
  refine bodyPost_ret (results_cell_row rfl _ _ (w.heap.size+1+1) 53 _ (0,0) _ rfl ((zaH w _ _ _).2.2) Tryz.underlying53 rfl (by kernel_rfl)) rfl ?_
  exact zcf rfl H.out D.out (zc2 w _ _ _)
theorem zdn (C:Cx) (gt D h:Nat) (x:PR) (S:Sv) (q:PS) (z:Int) (d:Nat) (y:Ep) (w:World) (hx:Is x q z) (L:Mem C gt D h S q w) (V:z<0→1≤q.pos):
  Calls Tryz.prog 134 #[pv C gt D S q z d,epV y] w (Out C gt D h (bd x (zn C y)) d S w):=by
 obtain⟨i0,hi,O,Z,X⟩:=info_parts Tryz.infoExp
 have o:=zc L
 have HX:=zc hx
 have ah:q.ep.length≤40:=by have:=L.inv.ep;omega
 have ag:q.la.length≤40:=by have:=L.inv.ep;omega
 clear hx
 by_cases M:z<0
 ·have dz:decide (0≤z)=false:=decide_eq_false (by omega)
  by_cases hn:40≤q.ep.length+q.la.length
  ·have K:Hid (Is (bd x (zn C y)) q (zq C (q.pos-1))):=zeX HX.out M (if_pos hn)
   have qn:decide ((40:Int)≤(q.ep.length:Int)+(q.la.length:Int))=true:=decide_eq_true (by omega)
   have U:=V M
   clear V L
   unfold pv epV
   go_enter Tryz.func134,Tryz.ntmps134
   go_wp2_with fail
   refine (zer C gt D h S q z d _ (((o.out.alloc _).alloc _).alloc _) M U).mono ?_
   rintro e w2 ⟨rfl,H⟩
   have ab:Below w.heap.size w w2:=zfQ H
   have G3:Hid (_=_):=(H.block (w.heap.size+1+1) (by rw[zY];omega)).trans ((zaH w _ _ _).2.2)
   obtain⟨c0,c1,c2,c3,c4,c5,c6,c7,c8,c9,aj,ai,cf⟩:=zag G3.out
   clear H
   unfold pv
   go_wp2
   refine bodyPost_ret (results_cell_row rfl _ _ (w.heap.size+1+1) 53 _ (0,0) _ rfl (zaL G3.out) Tryz.underlying53 rfl (by kernel_rfl)) rfl ?_
   exact zcf rfl K.out o.out (zb5 ab (by omega) ..)
  ·have qn:decide ((40:Int)≤(q.ep.length:Int)+(q.la.length:Int))=false:=decide_eq_false (by omega)
   cases hd:(y.loc.toList==[42,100,101,102,97,117,108,116]) with
   |true=>
    have K:Hid (Is (bd x (zn C y)) {q with la:=q.la++[y]} z):=zes HX.out M (by rw[zn,if_neg hn,if_pos hd])
    have j:=fun o1 o2 o3 o4=>((((o.out.own.la.alloc o1).alloc o2).alloc o3).alloc o4)
    clear V L
    unfold pv epV
    go_enter Tryz.func134,Tryz.ntmps134
    go_wp2_with (at_builtin;refine zcl _ rfl _ _ 24 rfl h 102 i0 _ 4 56 Tryz.underlying24 hi O Z X rfl (by decide) (by decide) S.la q.la.length _ (by rfl) (j ..) (w.heap.size+1+1+1) (epL y) (by rfl) (by first|exact (zbA w ..).2.2.2|exact (zaH w _ _ _).2.2) rfl (by intro u Y;simp[epL] at Y;rcases Y with rfl|rfl|rfl|rfl<;>rfl) (by omega) (by have:=o.out.base;(first|rw[za1]|rw[zY]);omega) ?_)
    intro r' w2 N E A
    have HR:=zc N
    have HG:=zc E
    have J:=zc A
    have n:=fun b hb=>zdm (W:=w) o.out.own (Nat.le_refl _) (r:=S.la.blk) (fun k e=>.inr (.inr (.inr (.inr (.inr e))))) b hb
    have g1:=(E.block w.heap.size (by (first|rw[za1]|rw[zY]);omega) (n _ (Nat.le_refl _))).trans (by first|exact (zbA w ..).1|exact (zaH w _ _ _).1)
    have I:=(E.block (w.heap.size+1+1) (by (first|rw[za1]|rw[zY]);omega) (n _ (by omega))).trans (by first|exact (zbA w ..).2.2.1|exact (zaH w _ _ _).2.1)
    obtain⟨a0,a1,a2,a3,a4,a5,a6,a7,a8,a9,ac,aa,af⟩:=zag g1
    obtain⟨b0,b1,b2,b3,b4,b5,b6,b7,b8,b9,ae,ad,bf⟩:=zag I
    have G2:=zc I
    clear g1 I E N A n j
    go_wp2
    refine bodyPost_ret (results_cell_row rfl _ _ (w.heap.size+1+1) 53 _ (0,0) _ rfl (zaL ((zp (by omega)).trans G2.out)) Tryz.underlying53 rfl (by kernel_rfl)) rfl ?_
    obtain⟨m',s'⟩:=o.out.grow_la (x:=y) (zeW w ..) HG.out HR.out (by (first|rw[za1]|rw[zY]);exact J.out) (((Off.refl _ _ _).set (b:=w.heap.size) (Nat.le_refl _) (by (first|rw[za1]|rw[zY]);omega) _ _).set12 (b:=w.heap.size+1+1) (by omega) (by (first|rw[za1]|rw[zY]);omega) ..) (by omega)
    exact⟨_,{q with la:=q.la++[y]},z,by simp[pv],K.out,m',s'⟩
   |false=>
    have K:Hid (Is (bd x (zn C y)) {q with ep:=q.ep++[y]} z):=zes HX.out M (by rw[zn,if_neg hn,hd];rfl)
    have j:=fun o1 o2 o3 o4=>((((o.out.own.ep.alloc o1).alloc o2).alloc o3).alloc o4)
    clear V L
    unfold pv epV
    go_enter Tryz.func134,Tryz.ntmps134
    go_wp2_with (at_builtin;refine zcl _ rfl _ _ 24 rfl h 102 i0 _ 4 56 Tryz.underlying24 hi O Z X rfl (by decide) (by decide) S.ep q.ep.length _ (by rfl) (j ..) (w.heap.size+1+1+1) (epL y) (by rfl) (by first|exact (zbA w ..).2.2.2|exact (zaH w _ _ _).2.2) rfl (by intro u Y;simp[epL] at Y;rcases Y with rfl|rfl|rfl|rfl<;>rfl) (by omega) (by have:=o.out.base;(first|rw[za1]|rw[zY]);omega) ?_)
    intro r' w2 N E A
    have HR:=zc N
    have HG:=zc E
    have J:=zc A
    have n:=fun b hb=>zdm (W:=w) o.out.own (Nat.le_refl _) (r:=S.ep.blk) (fun k e=>.inr (.inr (.inl e))) b hb
    have g1:=(E.block w.heap.size (by (first|rw[za1]|rw[zY]);omega) (n _ (Nat.le_refl _))).trans (by first|exact (zbA w ..).1|exact (zaH w _ _ _).1)
    have I:=(E.block (w.heap.size+1+1) (by (first|rw[za1]|rw[zY]);omega) (n _ (by omega))).trans (by first|exact (zbA w ..).2.2.1|exact (zaH w _ _ _).2.1)
    obtain⟨a0,a1,a2,a3,a4,a5,a6,a7,a8,a9,ac,aa,af⟩:=zag g1
    obtain⟨b0,b1,b2,b3,b4,b5,b6,b7,b8,b9,ae,ad,bf⟩:=zag I
    have G2:=zc I
    clear g1 I E N A n j
    go_wp2
    refine bodyPost_ret (results_cell_row rfl _ _ (w.heap.size+1+1) 53 _ (0,0) _ rfl (zaL ((zp (by omega)).trans G2.out)) Tryz.underlying53 rfl (by kernel_rfl)) rfl ?_
    obtain⟨m',s'⟩:=o.out.grow_ep (x:=y) (zeW w ..) HG.out HR.out (by (first|rw[za1]|rw[zY]);exact J.out) (((Off.refl _ _ _).set (b:=w.heap.size) (Nat.le_refl _) (by (first|rw[za1]|rw[zY]);omega) _ _).set12 (b:=w.heap.size+1+1) (by omega) (by (first|rw[za1]|rw[zY]);omega) ..) (by omega)
    exact⟨_,{q with ep:=q.ep++[y]},z,by simp[pv],K.out,m',s'⟩
 ·have dz:decide (0≤z)=true:=decide_eq_true (by omega)
  have K:Hid (Is (bd x (zn C y)) q z):=zeY HX.out M
  clear V L
  unfold pv epV
  go_enter Tryz.func134,Tryz.ntmps134
  go_wp2
  refine bodyPost_ret (results_cell_row rfl _ _ (w.heap.size+1+1) 53 _ (0,0) _ rfl ((zaH w _ _ _).2.2) Tryz.underlying53 rfl (by kernel_rfl)) rfl ?_
  exact zcf rfl K.out o.out (zc2 w _ _ _)
theorem zc4 (C:Cx) (O j h:Nat) (x:PR) (S:Sv) (q:PS) (z:Int) (d:Nat) (k:Int) (n:ByteArray) (w:World) (hx:Is x q z) (H:Mem C O j h S q w) (M:z<0→1≤q.pos):
  Calls Tryz.prog 77 #[pv C O j S q z d,.int .i64 k,.string n] w (Out C O j h (bd x (zX C k n)) d S w):=by
 obtain⟨i0,hi,Y,aa,Z⟩:=info_parts Tryz.infoStmt
 have E:=zc H
 have HX:=zc hx
 have ac:q.ex.length≤300:=by have:=H.inv.ex;omega
 have ab:q.st.length≤80:=by have:=H.inv.st;omega
 clear hx
 by_cases L:z<0
 ·have dz:decide (0≤z)=false:=decide_eq_false (by omega)
  by_cases hn:80≤q.st.length
  ·have J:Hid (Is (bd x (zX C k n)) q (zq C (q.pos-1))):=zeX HX.out L (if_pos hn)
   have qn:decide ((80:Int)≤(q.st.length:Int))=true:=decide_eq_true (by omega)
   have I:=M L
   clear M H
   unfold pv
   go_enter Tryz.func77,Tryz.ntmps77
   go_wp2_with fail
   refine (zer C O j h S q z d _ ((E.out.alloc _).alloc _) L I).mono ?_
   rintro e w2 ⟨rfl,A⟩
   have U:Below w.heap.size w w2:=zaR A
   have G3:Hid (_=_):=(A.block (w.heap.size+1) (by rw[zcp];omega)).trans (zbj w _ _)
   obtain⟨c0,c1,c2,c3,c4,c5,c6,c7,c8,c9,ai,ah,cf⟩:=zag G3.out
   clear A
   unfold pv
   go_wp2
   refine bodyPost_ret (results_cell_row rfl _ _ (w.heap.size+1) 53 _ (0,0) _ rfl (zaL G3.out) Tryz.underlying53 rfl (by kernel_rfl)) rfl ?_
   exact zcf rfl J.out E.out (zb5 U (by omega) ..)
  ·have qn:decide ((80:Int)≤(q.st.length:Int))=false:=decide_eq_false (by omega)
   have J:Hid (Is (bd x (zX C k n)) {q with st:=q.st++[⟨k,n,(q.ex.length:Int)-1⟩]} z):=zes HX.out L (if_neg hn)
   have o:=fun o1 o2 o3=>(((E.out.own.st.alloc o1).alloc o2).alloc o3)
   clear M H
   unfold pv
   go_enter Tryz.func77,Tryz.ntmps77
   go_wp2_with (at_builtin;refine zcl _ rfl _ _ 25 rfl h 106 i0 _ 3 32 Tryz.underlying25 hi Y aa Z rfl (by decide) (by decide) S.st q.st.length _ (by rfl) (o _ _ _) (w.heap.size+1+1) (smL ⟨k,n,(q.ex.length:Int)-1⟩) (by rfl) (by first|exact (zbA w ..).2.2.2|exact (zaH w _ _ _).2.2) rfl (by intro u hu;simp[smL] at hu;rcases hu with rfl|rfl|rfl<;>rfl) (by omega) (by have:=E.out.base;(first|rw[za1]|rw[zY]);omega) ?_)
   intro r' w2 hr N K
   have HR:=zc hr
   have HG:=zc N
   have X:=zc K
   have D:=fun b hb=>zdm (W:=w) E.out.own (Nat.le_refl _) (r:=S.st.blk) (fun k e=>.inr (.inr (.inr (.inl e)))) b hb
   have g1:=(N.block w.heap.size (by (first|rw[za1]|rw[zY]);omega) (D _ (Nat.le_refl _))).trans (by first|exact (zbA w ..).1|exact (zaH w _ _ _).1)
   have V:=(N.block (w.heap.size+1) (by (first|rw[za1]|rw[zY]);omega) (D _ (by omega))).trans (by first|exact (zbA w ..).2.2.1|exact (zaH w _ _ _).2.1)
   obtain⟨a0,a1,a2,a3,a4,a5,a6,a7,a8,a9,ae,ad,af⟩:=zag g1
   obtain⟨b0,b1,b2,b3,b4,b5,b6,b7,b8,b9,aj,ag,bf⟩:=zag V
   have G2:=zc V
   clear g1 V N hr K D o
   go_wp2
   refine bodyPost_ret (results_cell_row rfl _ _ (w.heap.size+1) 53 _ (0,0) _ rfl (zaL ((zp (by omega)).trans G2.out)) Tryz.underlying53 rfl (by kernel_rfl)) rfl ?_
   obtain⟨m',s'⟩:=E.out.grow_st (x:=⟨k,n,(q.ex.length:Int)-1⟩) (zc2 w _ _ _) HG.out HR.out (by (first|rw[za1]|rw[zY]);exact X.out) (((Off.refl _ _ _).set (b:=w.heap.size) (Nat.le_refl _) (by (first|rw[za1]|rw[zY]);omega) _ _).set12 (b:=w.heap.size+1) (by omega) (by (first|rw[za1]|rw[zY]);omega) ..) (by omega)
   exact⟨_,{q with st:=q.st++[⟨k,n,(q.ex.length:Int)-1⟩]},z,by simp[pv],J.out,m',s'⟩
 ·have dz:decide (0≤z)=true:=decide_eq_true (by omega)
  have J:Hid (Is (bd x (zX C k n)) q z):=zeY HX.out L
  clear M H
  unfold pv
  go_enter Tryz.func77,Tryz.ntmps77
  go_wp2
  refine bodyPost_ret (results_cell_row rfl _ _ (w.heap.size+1) 53 _ (0,0) _ rfl (zbj w _ _) Tryz.underlying53 rfl (by kernel_rfl)) rfl ?_
  exact zcf rfl J.out E.out (zaM w _ _)
theorem OwnR.drew {w:World} {j size n:Nat} {e:TypeId} {r:Rw} {xs:List Value} (h:OwnR w j e size r n xs):OwnR w.drew j e size r n xs:=h
theorem zky (x:Ex): ∀u∈exL x,u.oneCell'=true:=by
 intro u h
 simp[exL] at h
 rcases h with rfl|rfl|rfl|rfl|rfl|rfl<;>rfl
theorem IM.grow_ex {C:Cx} {K H o n:Nat} {S:Sv} {q:PS} {w W A:World} {j:Rw} {x:Ex} (h:IM C K H o n S q w) (V:Below w.heap.size w W) (O:W.grownBy A S.ex.blk) (hr:OwnR A o 108 6 j (q.ex.length+1) (q.ex.flatMap exL++exL x)) (N:j.blk=S.ex.blk∨j.blk=some W.heap.size) (X:q.ex.length<300):
  IM C K H o n {S with ex:=j} {q with ex:=q.ex++[x]} (A.setCell ⟨n,8,none⟩ (.slice j.a (q.ex.length+1) j.cap))∧IS n S w {S with ex:=j} (A.setCell ⟨n,8,none⟩ (.slice j.a (q.ex.length+1) j.cap)):=by
 obtain⟨I,E⟩:=h.mem.grow_ex (x:=x) V O hr N (Off.refl _ _ _) X
 have z:=h.free
 have M:=h.lt
 have D: ¬Sv.has {S with ex:=j} n:=fun g=>(E.sub n g).elim z fun g'=>by omega
 have J: ∀k,k≠n→(A.setCell ⟨n,8,none⟩ (.slice j.a (q.ex.length+1) j.cap)).heap[k]? =A.heap[k]?:=fun k J=>Below.heap_setCell A ⟨n,8,none⟩ _ k J
 have L:(A.setCell ⟨n,8,none⟩ (.slice j.a (q.ex.length+1) j.cap)).heap.size=A.heap.size:=by show (A.heap.modify _ _).size=_;simp
 have Y:=(E.block n M z).trans h.cells
 refine⟨⟨⟨I.own.keep fun k g=>J k fun e=>D (by rw[←e];exact g),I.inv,zbs I.tok (J K h.ne.symm),I.few,by rw[L];exact I.base⟩,?_,h.ge⟩,?_⟩
 ·rw[zas Y]
  simp
 ·exact (show IS n S w {S with ex:=j} A from⟨E.os,E.tape,E.output,E.size,fun k Z U _=>E.block k Z U,E.sub⟩).set _ _
theorem zkz (C:Cx) (V D j n:Nat) (S:Sv) (q:PS) (x:Ex) (w:World) (h:IM C V D j n S q w) (hn:q.ex.length<300):
  Calls Tryz.prog 202 #[.pointer (some ⟨n,0,none⟩),exV x] w fun e X=>e= .returned (.int .i64 q.ex.length)∧∃Y,IM C V D j n Y {q with ex:=q.ex++[x]} X∧IS n S w Y X:=by
 obtain⟨i0,hi,N,O,L⟩:=info_parts Tryz.infoExpr
 have J:=zc h
 have ab:=h.lt
 obtain⟨c0,c1,c2,c3,c4,c5,c6,c7,c8,c9,cf⟩:=zaa h.cells
 have H:=fun o A=>((J.out.mem.own.ex.alloc o).drew.alloc A)
 have aa:=h.mem.base
 have E:some n≠S.ex.blk:=fun e=>J.out.free (.inr (.inr (.inr (.inr (.inl e.symm)))))
 have HN:=zc E
 have K: ∀o A,j≤((w.alloc o).alloc A).heap.size:=fun o A=>by rw[zcp];omega
 have U: ∀o A,n<((w.alloc o).alloc A).heap.size:=fun o A=>by rw[zcp];omega
 clear h E
 unfold exV
 go_enter Tryz.func202,Tryz.ntmps202
 go_wp2_with fail
 refine (zdj n q.ex.length 300 _ (by omega)).mono ?_
 rintro e w1 ⟨rfl,rfl⟩
 go_wp2_with fail
 go_region_law (first|(refine zeq rfl (.tmp 18) (.tmp 20) 26 rfl j 108 i0 _ 6 64 Tryz.underlying26 hi N O L rfl (by decide) (by decide) S.ex q.ex.length (q.ex.flatMap exL) (by rfl) (by exact H _ _) (w.heap.size+1) (exL x) (by rfl) (by exact zbj w _ _) rfl (zky x) (by omega) (by exact K _ _) ?_;intro r' w2 hr z I;have Z:=(z.block n (by exact U _ _) HN.out).trans (by exact ((J.out.alloc _).alloc _).cells);obtain⟨d0,d1,d2,d3,d4,d5,d6,d7,d8,d9,df⟩:=zaa Z))
 all_goals
  have HR:=zc hr
  have HG:=zc z
  have M:=zc I
  clear hr z I Z c0 c1 c2 c3 c4 c5 c6 c7 c8 c9 cf
  go_wp2
  go_ret
  obtain⟨m',s'⟩:=J.out.grow_ex (zaM w _ _).drew HG.out HR.out M.out hn
  exact⟨zeG (by omega),_,m',s'⟩
theorem zhk (x:Im): ∀u∈imL x,u.oneCell'=true:=by
 intro u h
 simp[imL] at h
 rcases h with rfl|rfl|rfl<;>rfl
theorem IM.grow_rq {C:Cx} {K H o n:Nat} {S:Sv} {q:PS} {w W A:World} {j:Rw} {x:ByteArray} (h:IM C K H o n S q w) (V:Below w.heap.size w W) (O:W.grownBy A S.rq.blk) (hr:OwnR A o 9 1 j (q.rq.length+1) (q.rq.map .string++[.string x])) (N:j.blk=S.rq.blk∨j.blk=some W.heap.size) (X:q.rq.length<40):
  IM C K H o n {S with rq:=j} {q with rq:=q.rq++[x]} (A.setCell ⟨n,4,none⟩ (.slice j.a (q.rq.length+1) j.cap))∧IS n S w {S with rq:=j} (A.setCell ⟨n,4,none⟩ (.slice j.a (q.rq.length+1) j.cap)):=by
 obtain⟨I,E⟩:=h.mem.grow_rq (x:=x) V O hr N (Off.refl _ _ _) X
 have z:=h.free
 have M:=h.lt
 have D: ¬Sv.has {S with rq:=j} n:=fun g=>(E.sub n g).elim z fun g'=>by omega
 have J: ∀k,k≠n→(A.setCell ⟨n,4,none⟩ (.slice j.a (q.rq.length+1) j.cap)).heap[k]? =A.heap[k]?:=fun k J=>Below.heap_setCell A ⟨n,4,none⟩ _ k J
 have L:(A.setCell ⟨n,4,none⟩ (.slice j.a (q.rq.length+1) j.cap)).heap.size=A.heap.size:=by show (A.heap.modify _ _).size=_;simp
 have Y:=(E.block n M z).trans h.cells
 refine⟨⟨⟨I.own.keep fun k g=>J k fun e=>D (by rw[←e];exact g),I.inv,zbs I.tok (J K h.ne.symm),I.few,by rw[L];exact I.base⟩,?_,h.ge⟩,?_⟩
 ·rw[zas Y]
  simp
 ·exact (show IS n S w {S with rq:=j} A from⟨E.os,E.tape,E.output,E.size,fun k Z U _=>E.block k Z U,E.sub⟩).set _ _
theorem IM.grow_im {C:Cx} {K H o n:Nat} {S:Sv} {q:PS} {w W A:World} {j:Rw} {x:Im} (h:IM C K H o n S q w) (V:Below w.heap.size w W) (O:W.grownBy A S.im.blk) (hr:OwnR A o 100 3 j (q.im.length+1) (q.im.flatMap imL++imL x)) (N:j.blk=S.im.blk∨j.blk=some W.heap.size) (X:q.im.length<40):
  IM C K H o n {S with im:=j} {q with im:=q.im++[x]} (A.setCell ⟨n,5,none⟩ (.slice j.a (q.im.length+1) j.cap))∧IS n S w {S with im:=j} (A.setCell ⟨n,5,none⟩ (.slice j.a (q.im.length+1) j.cap)):=by
 obtain⟨I,E⟩:=h.mem.grow_im (x:=x) V O hr N (Off.refl _ _ _) X
 have z:=h.free
 have M:=h.lt
 have D: ¬Sv.has {S with im:=j} n:=fun g=>(E.sub n g).elim z fun g'=>by omega
 have J: ∀k,k≠n→(A.setCell ⟨n,5,none⟩ (.slice j.a (q.im.length+1) j.cap)).heap[k]? =A.heap[k]?:=fun k J=>Below.heap_setCell A ⟨n,5,none⟩ _ k J
 have L:(A.setCell ⟨n,5,none⟩ (.slice j.a (q.im.length+1) j.cap)).heap.size=A.heap.size:=by show (A.heap.modify _ _).size=_;simp
 have Y:=(E.block n M z).trans h.cells
 refine⟨⟨⟨I.own.keep fun k g=>J k fun e=>D (by rw[←e];exact g),I.inv,zbs I.tok (J K h.ne.symm),I.few,by rw[L];exact I.base⟩,?_,h.ge⟩,?_⟩
 ·rw[zas Y]
  simp
 ·exact (show IS n S w {S with im:=j} A from⟨E.os,E.tape,E.output,E.size,fun k Z U _=>E.block k Z U,E.sub⟩).set _ _
theorem IM.grow_ep {C:Cx} {K H o n:Nat} {S:Sv} {q:PS} {w W A:World} {j:Rw} {x:Ep} (h:IM C K H o n S q w) (V:Below w.heap.size w W) (O:W.grownBy A S.ep.blk) (hr:OwnR A o 102 4 j (q.ep.length+1) (q.ep.flatMap epL++epL x)) (N:j.blk=S.ep.blk∨j.blk=some W.heap.size) (X:q.ep.length+q.la.length<40):
  IM C K H o n {S with ep:=j} {q with ep:=q.ep++[x]} (A.setCell ⟨n,6,none⟩ (.slice j.a (q.ep.length+1) j.cap))∧IS n S w {S with ep:=j} (A.setCell ⟨n,6,none⟩ (.slice j.a (q.ep.length+1) j.cap)):=by
 obtain⟨I,E⟩:=h.mem.grow_ep (x:=x) V O hr N (Off.refl _ _ _) X
 have z:=h.free
 have M:=h.lt
 have D: ¬Sv.has {S with ep:=j} n:=fun g=>(E.sub n g).elim z fun g'=>by omega
 have J: ∀k,k≠n→(A.setCell ⟨n,6,none⟩ (.slice j.a (q.ep.length+1) j.cap)).heap[k]? =A.heap[k]?:=fun k J=>Below.heap_setCell A ⟨n,6,none⟩ _ k J
 have L:(A.setCell ⟨n,6,none⟩ (.slice j.a (q.ep.length+1) j.cap)).heap.size=A.heap.size:=by show (A.heap.modify _ _).size=_;simp
 have Y:=(E.block n M z).trans h.cells
 refine⟨⟨⟨I.own.keep fun k g=>J k fun e=>D (by rw[←e];exact g),I.inv,zbs I.tok (J K h.ne.symm),I.few,by rw[L];exact I.base⟩,?_,h.ge⟩,?_⟩
 ·rw[zas Y]
  simp
 ·exact (show IS n S w {S with ep:=j} A from⟨E.os,E.tape,E.output,E.size,fun k Z U _=>E.block k Z U,E.sub⟩).set _ _
theorem IM.grow_st {C:Cx} {K H o n:Nat} {S:Sv} {q:PS} {w W A:World} {j:Rw} {x:Sm} (h:IM C K H o n S q w) (V:Below w.heap.size w W) (O:W.grownBy A S.st.blk) (hr:OwnR A o 106 3 j (q.st.length+1) (q.st.flatMap smL++smL x)) (N:j.blk=S.st.blk∨j.blk=some W.heap.size) (X:q.st.length<80):
  IM C K H o n {S with st:=j} {q with st:=q.st++[x]} (A.setCell ⟨n,7,none⟩ (.slice j.a (q.st.length+1) j.cap))∧IS n S w {S with st:=j} (A.setCell ⟨n,7,none⟩ (.slice j.a (q.st.length+1) j.cap)):=by
 obtain⟨I,E⟩:=h.mem.grow_st (x:=x) V O hr N (Off.refl _ _ _) X
 have z:=h.free
 have M:=h.lt
 have D: ¬Sv.has {S with st:=j} n:=fun g=>(E.sub n g).elim z fun g'=>by omega
 have J: ∀k,k≠n→(A.setCell ⟨n,7,none⟩ (.slice j.a (q.st.length+1) j.cap)).heap[k]? =A.heap[k]?:=fun k J=>Below.heap_setCell A ⟨n,7,none⟩ _ k J
 have L:(A.setCell ⟨n,7,none⟩ (.slice j.a (q.st.length+1) j.cap)).heap.size=A.heap.size:=by show (A.heap.modify _ _).size=_;simp
 have Y:=(E.block n M z).trans h.cells
 refine⟨⟨⟨I.own.keep fun k g=>J k fun e=>D (by rw[←e];exact g),I.inv,zbs I.tok (J K h.ne.symm),I.few,by rw[L];exact I.base⟩,?_,h.ge⟩,?_⟩
 ·rw[zas Y]
  simp
 ·exact (show IS n S w {S with st:=j} A from⟨E.os,E.tape,E.output,E.size,fun k Z U _=>E.block k Z U,E.sub⟩).set _ _
theorem IM.grow_la {C:Cx} {K H o n:Nat} {S:Sv} {q:PS} {w W A:World} {j:Rw} {x:Ep} (h:IM C K H o n S q w) (V:Below w.heap.size w W) (O:W.grownBy A S.la.blk) (hr:OwnR A o 102 4 j (q.la.length+1) (q.la.flatMap epL++epL x)) (N:j.blk=S.la.blk∨j.blk=some W.heap.size) (X:q.ep.length+q.la.length<40):
  IM C K H o n {S with la:=j} {q with la:=q.la++[x]} (A.setCell ⟨n,9,none⟩ (.slice j.a (q.la.length+1) j.cap))∧IS n S w {S with la:=j} (A.setCell ⟨n,9,none⟩ (.slice j.a (q.la.length+1) j.cap)):=by
 obtain⟨I,E⟩:=h.mem.grow_la (x:=x) V O hr N (Off.refl _ _ _) X
 have z:=h.free
 have M:=h.lt
 have D: ¬Sv.has {S with la:=j} n:=fun g=>(E.sub n g).elim z fun g'=>by omega
 have J: ∀k,k≠n→(A.setCell ⟨n,9,none⟩ (.slice j.a (q.la.length+1) j.cap)).heap[k]? =A.heap[k]?:=fun k J=>Below.heap_setCell A ⟨n,9,none⟩ _ k J
 have L:(A.setCell ⟨n,9,none⟩ (.slice j.a (q.la.length+1) j.cap)).heap.size=A.heap.size:=by show (A.heap.modify _ _).size=_;simp
 have Y:=(E.block n M z).trans h.cells
 refine⟨⟨⟨I.own.keep fun k g=>J k fun e=>D (by rw[←e];exact g),I.inv,zbs I.tok (J K h.ne.symm),I.few,by rw[L];exact I.base⟩,?_,h.ge⟩,?_⟩
 ·rw[zas Y]
  simp
 ·exact (show IS n S w {S with la:=j} A from⟨E.os,E.tape,E.output,E.size,fun k Z U _=>E.block k Z U,E.sub⟩).set _ _
theorem zk0 (C:Cx) (V D j n:Nat) (S:Sv) (q:PS) (x:Im) (w:World) (h:IM C V D j n S q w) (hn:q.im.length<40):
  Calls Tryz.prog 196 #[.pointer (some ⟨n,0,none⟩),imV x] w fun e X=>e= .returned (.tuple #[])∧∃Y,IM C V D j n Y {q with im:=q.im++[x]} X∧IS n S w Y X:=by
 obtain⟨i0,hi,N,O,L⟩:=info_parts Tryz.infoImp
 have J:=zc h
 have ab:=h.lt
 obtain⟨c0,c1,c2,c3,c4,c5,c6,c7,c8,c9,cf⟩:=zaa h.cells
 have H:=fun o A=>((J.out.mem.own.im.alloc o).drew.alloc A)
 have aa:=h.mem.base
 have E:some n≠S.im.blk:=fun e=>J.out.free (.inr (.inl e.symm))
 have HN:=zc E
 have K: ∀o A,j≤((w.alloc o).alloc A).heap.size:=fun o A=>by rw[zcp];omega
 have U: ∀o A,n<((w.alloc o).alloc A).heap.size:=fun o A=>by rw[zcp];omega
 clear h E
 unfold imV
 go_enter Tryz.func196,Tryz.ntmps196
 go_wp2_with fail
 refine (zdj n q.im.length 40 _ (by omega)).mono ?_
 rintro e w1 ⟨rfl,rfl⟩
 go_wp2_with fail
 go_region_law (first|(refine zeq rfl (.tmp 17) (.tmp 19) 23 rfl j 100 i0 _ 3 48 Tryz.underlying23 hi N O L rfl (by decide) (by decide) S.im q.im.length (q.im.flatMap imL) (by rfl) (by exact H _ _) (w.heap.size+1) (imL x) (by rfl) (by exact zbj w _ _) rfl (zhk x) (by omega) (by exact K _ _) ?_;intro r' w2 hr z I;have Z:=(z.block n (by exact U _ _) HN.out).trans (by exact ((J.out.alloc _).alloc _).cells);obtain⟨d0,d1,d2,d3,d4,d5,d6,d7,d8,d9,df⟩:=zaa Z))
 all_goals
  have HR:=zc hr
  have HG:=zc z
  have M:=zc I
  clear hr z I Z c0 c1 c2 c3 c4 c5 c6 c7 c8 c9 cf
  go_wp2
  go_end0
  obtain⟨m',s'⟩:=J.out.grow_im (zaM w _ _).drew HG.out HR.out M.out hn
  exact⟨rfl,_,m',s'⟩
end Go.Proofs.YticdggnnpjachaaGreat
