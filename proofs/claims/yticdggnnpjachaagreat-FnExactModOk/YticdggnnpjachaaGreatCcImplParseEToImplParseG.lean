/-
  What passSigns of impl's parser answers: the walk.
  'append' of one element onto a row of the call's own,as one step of a region that draws its order. No program is spoken of.
  What spec's readers of one token answer: l4Full,l4Sign,l4Word,l4Reserved,l4Plain,l4Name: the walks.
  What spec's l4Plain and l4Name answer: the walks.
  What spec's l4Add,l4Imp,l4Stmt and l4Exp answer: the walks.
  What addExpr of impl's parser answers where there is room: the walk.
  A row of impl's parser grows by one element; what addImp answers where there is room: the walk.
-/
import Derived.Deep.LoopGhost
import Derived.Test.YticdggnnpjachaaGreatCcImplParseCToImplParseD
namespace Go.Proofs.YticdggnnpjachaaGreat
set_option maxRecDepth 100000
set_option maxHeartbeats 3200000
open Go.RowKit Go.PlainAid Go.Sort
def za6 (C:Cx) (s:ByteArray):Nat→Nat→PS→PR
 |0,_,q=>.ok q
 |n+1,k,q=>bd (zd C 4 (s.extract k (k+1)) q) (za6 C s n (k+1))
theorem zfN {C:Cx} {k:Int} {x:ByteArray} {q:PS} (h:isT C q.pos k x=false):zd C k x q= .error (zq C q.pos):=by rw[zd,h];rfl
theorem zb9 {C:Cx} {k:Int} {x:ByteArray} {q:PS} (h:isT C q.pos k x=true):zd C k x q= .ok (adv q):=if_pos h
theorem zfO (C:Cx) (I o n E:Nat) (S:Sv) (q:PS) (s:ByteArray) (w:World) (h:IM C I o n E S q w) (hs:s.size≤100):
  Calls Tryz.prog 153 #[.pointer (some ⟨E,0,none⟩),.string s] w (zN C I o n E (za6 C s s.size 0 q) id (fun _=>.tuple #[]) S w):=by
 have M:=zc h
 clear h
 go_enter Tryz.func153,Tryz.ntmps153
 go_wp2
 go_loopg [7] s.size (fun k i wr=>∃(j:Nat) (A:PS),i= .int .i64 j∧j+k=s.size∧za6 C s k j A=za6 C s s.size 0 q∧IM C I o n E S A wr∧IS E S w S wr)
 case atStart=>exact⟨0,q,rfl,by omega,rfl,M.out,IS.refl _ _ _⟩
 case round=>
  obtain⟨j,A,rfl,Y,he,m,t⟩:=hrel
  have J:=zc he
  have V:=zc m
  have O:=zc t
  clear he m t
  match gk,Y,J with
  |0,Y,J=>
   have aa: ¬j<s.size:=by omega
   go_wp2
   go_end0
   rw[←J.out]
   exact⟨rfl,S,V.out,O.out⟩
  |k+1,Y,J=>
   have aa:j<s.size:=by omega
   obtain⟨z,K⟩: ∃z,z=j+1:=⟨_,rfl⟩
   have ej:(j:Int)+1=(z:Int):=by omega
   have ad:z≤s.size:=by omega
   have ae:j≤z:=by omega
   have HJ:=zc K
   clear K
   cases N:isT C A.pos 4 (s.extract j z) with
   |true=>
    have Z:Hid (za6 C s k z (adv A)=za6 C s s.size 0 q):=by
     show _=_
     rw[←J.out,za6,←HJ.out,zb9 N]
     rfl
    go_wp2_with fail
    refine (zH C I o n E S A 4 (s.extract j z) _ V.out (by decide)).mono ?_
    rintro e U ⟨rfl,H,L⟩
    rw[N] at H ⊢
    have D:=zc H
    have ab:Hid (IS E S w S U):=O.out.trans L
    clear H L
    go_wp2
    go_roundg k
    case rel=>exact⟨z,adv A,rfl,by have:=HJ.out;omega,Z.out,D.out,ab.out⟩
    case measure=>omega
   |false=>
    have Z:Hid (za6 C s s.size 0 q= .error (zq C A.pos)):=by
     show _=_
     rw[←J.out,za6,←HJ.out,zfN N]
     rfl
    go_wp2_with fail
    refine (zH C I o n E S A 4 (s.extract j z) _ V.out (by decide)).mono ?_
    rintro e U ⟨rfl,H,L⟩
    rw[N] at H ⊢
    have D:=zc H
    have HB:Hid (Below n w U):=(O.out.trans L).under M.out.mem.base M.out.mem.own M.out.ge
    clear H L
    go_wp2_with fail
    refine (zdG C I o n E S A _ D.out).mono ?_
    rintro e w2 ⟨rfl,ac⟩
    have X:Hid (Below n w w2):=HB.out.trans (ac.mono D.out.mem.base)
    unfold Pan
    go_wp2
    refine⟨rfl,?_⟩
    rw[Z.out]
    exact⟨rfl,X.out⟩
theorem zeq {P:Program} {U:Array Oper} {o:Oper} {a:Act} {W:World} {K:Act→World→Prop} {Q:Exit→Act→World→Prop} {E:Prop} (X:o.guard=none) (s x:Operand) (t:TypeId)
  (ho:o.op= .call {callee:=.builtin .append,args:=#[s,x],argTypes:=#[t,t]})
  (A:Nat) (e:TypeId) (i:TypeInfo) (z:Value) (size q:Nat) (ht:P.underlying t=some (.slice e)) (hi:P.info? e=some i) (hz:i.zero=some z) (I:i.size=size) (Z:i.bytes=q) (aa:z.cells.size=size) (V:0<size) (J:q≤100)
  (r:Rw) (n:Nat) (xs:List Value) (hs:a.eval s= .slice r.a n r.cap) (N:OwnR W A e size r n xs)
  (O:Nat) (w:List Value) (hx:a.eval x= .slice (some ⟨O,0,none⟩) 1 1) (hg:W.heap[O]? =some (.cells w.toArray e (0,0))) (hl:w.length=size) (h1: ∀u∈w,u.oneCell'=true) (hn:n+1≤1000000) (H:A≤W.heap.size)
  (h: ∀M L,OwnR L A e size M (n+1) (xs++w)→W.grownBy L r.blk→(M.blk=r.blk∨M.blk=some W.heap.size)→K (a.put o.dst (.slice M.a (n+1) M.cap)) L):
  if Region.wanted o (yielded U a.tmps)=true then Oper.wp P o a W K Q else E:=by
 have hw:Region.wanted o (yielded U a.tmps)=true:=by simp[Region.wanted,X]
 rw[if_pos hw]
 obtain⟨v',L,hr,h2,h3,_,h5⟩:=run_append_own_at (P:=P) W A t o.type e i z size q ht hi hz I Z aa V _ n xs N ⟨O,0,none⟩ 1 1 w (by omega) (by
  intro j u hj
  have e1:(⟨O,0,none⟩:Addr).add j=⟨O,j,none⟩:=by simp[Addr.add];exact fun h=>h.symm
  rw[e1]
  simp[World.cell?,hg,hj]) h1 (by unfold maxLen;omega) (by have:(n+1)*q≤1000000*100:=Nat.mul_le_mul hn J;omega) H
 unfold Oper.wp execOp
 simp only[ho,resolve,invoke,builtin,Sem.run_bind,Sem.run_pure,Result.andThen_ok,List.map_toArray,List.map_cons,List.map_nil,hs,hx,hr]
 rcases h2.2 with ⟨hv,ac⟩|⟨g',D,ab,rfl,Y⟩
 ·omega
 ·refine h ⟨some ⟨g',0,none⟩,D⟩ L h2 ?_ ?_
  ·rw[←zbh r n];exact h3
  ·rw[←zbh r n,←zbh ⟨some ⟨g',0,none⟩,D⟩ (n+1)];exact h5
def Is (x:PR) (q:PS) (z:Int):Prop:=
 match x with
 | .ok q0=>q=q0∧z= -1
 | .error e=>z=(e:Int)
theorem zU (q:PS):Is (.ok q) q (-1):=⟨rfl,rfl⟩
theorem za7 {x:PR} {q:PS} {z:Int} (h:Is x q z) (j:z<0):x= .ok q∧z= -1:=by
 cases x with
 |ok n=>obtain⟨rfl,rfl⟩:=h;exact⟨rfl,rfl⟩
 |error e=>have:z=(e:Int):=h;omega
theorem zcN {x:PR} {q:PS} {z:Int} (h:Is x q z) (j: ¬z<0): ∃e,x= .error e∧z=(e:Int):=by
 cases x with
 |ok n=>obtain⟨rfl,rfl⟩:=h;exact absurd (by decide) j
 |error e=>exact⟨e,rfl,h⟩
def Out (C:Cx) (gt cap base:Nat) (y:PR) (d:Nat) (S:Sv) (w:World) (e:Ending) (w':World):Prop:=
 ∃S' q' z',e= .returned (pv C gt cap S' q' z' d)∧Is y q' z'∧Mem C gt cap base S' q' w'∧Stp S w S' w'
theorem zcf {C:Cx} {n j h:Nat} {y:PR} {d:Nat} {S:Sv} {w o:World} {q':PS} {z':Int} {v:Value} (z:v=pv C n j S q' z' d) (D:Is y q' z') (A:Mem C n j h S q' w) (q:Below w.heap.size w o):Out C n j h y d S w (.returned v) o:=
 ⟨S,q',z',by rw[z],D,A.later q,Stp.below q⟩
theorem zer (C:Cx) (D h j:Nat) (S:Sv) (q:PS) (z:Int) (d:Nat) (w:World) (n:Mem C D h j S q w) (M:z<0) (L:1≤q.pos):
  Calls Tryz.prog 138 #[pv C D h S q z d] w fun e I=>e= .returned (pv C D h S q (zq C (q.pos-1)) d)∧Below w.heap.size w I:=by
 obtain⟨p,o⟩: ∃p,q.pos=p+1:=⟨q.pos-1,by omega⟩
 have A:p<C.ts.length:=by have:=n.inv.pos;omega
 have H:=n.few
 obtain⟨_,_,_,J⟩:=n.tok.cells A (d:=⟨0,sNone,0,C.fin⟩)
 have E:=(zak n.tok).1
 change _=some (Value.int .i64 (zq C p)) at J
 rw[show q.pos-1=p from by omega]
 have K:(q.pos:Int)-1=p:=by omega
 clear o
 unfold pv
 go_enter Tryz.func138,Tryz.ntmps138
 go_wp2
 refine bodyPost_ret (results_cell_row rfl _ _ (w.heap.size+1) 53 _ (0,0) _ rfl (zbj w _ _) Tryz.underlying53 rfl (by kernel_rfl)) rfl ?_
 exact⟨rfl,zaM w _ _⟩
theorem zab (C:Cx) (I j h:Nat) (x:PR) (S:Sv) (q:PS) (z:Int) (d:Nat) (s:ByteArray) (w:World) (hx:Is x q z) (X:Mem C I j h S q w):
  Calls Tryz.prog 74 #[pv C I j S q z d,.string s] w (Out C I j h (bd x (zd C 4 s)) d S w):=by
 have HM:=zc X
 have o:=X.tok
 have n:=X.few
 have HX:=zc hx
 clear hx X
 cases A:(decide (z<0)&&isT C q.pos 4 s) with
 |true=>
  have ab:q.pos<C.ts.length:=by rw[Bool.and_eq_true] at A;exact zaz A.2 (by decide)
  have HY:Hid (Is (bd x (zd C 4 s)) (adv q) z):=by
   rw[Bool.and_eq_true,decide_eq_true_eq] at A
   obtain⟨K,Y⟩:=za7 HX.out A.1
   show Is (bd x (zd C 4 s)) (adv q) z
   rw[K,zx,zd,if_pos A.2]
   exact⟨rfl,Y⟩
  unfold pv
  go_enter Tryz.func74,Tryz.ntmps74
  go_wp2_with fail
  refine (zg C I j h S q z d 4 s _ (zo (zo o _) _) n (by decide)).mono ?_
  rintro e w1 ⟨rfl,D⟩
  rw[A]
  obtain⟨J,H⟩:=zcn D
  obtain⟨a0,a1,a2,a3,a4,a5,a6,a7,a8,a9,L,U,af⟩:=zag J
  obtain⟨b0,b1,b2,b3,b4,b5,b6,b7,b8,b9,N,M,bf⟩:=zag H
  have Z:=zc H
  clear J H A
  go_wp2
  refine bodyPost_ret (results_cell_row rfl _ _ (w.heap.size+1) 53 _ (0,0) _ rfl (zaL ((zp (by omega)).trans Z.out)) Tryz.underlying53 rfl (by kernel_rfl)) rfl ?_
  exact zcf rfl HY.out (HM.out.adv ab) (zb5 ((zaR D).setCell (Nat.le_refl _) _) (Nat.le_succ _) ..)
 |false=>
  have HY:Hid (Is (bd x (zd C 4 s)) q (zbi C q.pos z)):=by
   show Is (bd x (zd C 4 s)) q (zbi C q.pos z)
   unfold zbi
   by_cases O:z<0
   ·obtain⟨K,Y⟩:=za7 HX.out O
    simp only[O,decide_true,Bool.true_and] at A
    rw[K,zx,zd,A,if_pos O]
    rfl
   ·obtain⟨e,K,Y⟩:=zcN HX.out O
    rw[K,zd7,if_neg O]
    exact Y
  unfold pv
  go_enter Tryz.func74,Tryz.ntmps74
  go_wp2_with fail
  refine (zg C I j h S q z d 4 s _ (zo (zo o _) _) n (by decide)).mono ?_
  rintro e w1 ⟨rfl,D⟩
  rw[A]
  obtain⟨J,H⟩:=zcn D
  obtain⟨a0,a1,a2,a3,a4,a5,a6,a7,a8,a9,L,U,af⟩:=zag J
  obtain⟨b0,b1,b2,b3,b4,b5,b6,b7,b8,b9,N,M,bf⟩:=zag H
  have Z:=zc H
  have E:=zbO o (zaR D)
  clear J H A
  go_wp2_with fail
  refine (zcL C I j h S q z d _ E n).mono ?_
  rintro e w2 ⟨rfl,V⟩
  have G3:Hid (_=_):=(V.block _ (Nat.lt_of_lt_of_le (by simp) D.size)).trans Z.out
  obtain⟨c0,c1,c2,c3,c4,c5,c6,c7,c8,c9,ad,ac,cf⟩:=zag G3.out
  have aa:=(zaR D).trans (V.mono (zaR D).size)
  clear a0 a1 a2 a3 a4 a5 a6 a7 a8 a9 L U b0 b1 b2 b3 b4 b5 b6 b7 b8 b9 N M af bf
  unfold pv
  go_wp2
  refine bodyPost_ret (results_cell_row rfl _ _ (w.heap.size+1) 53 _ (0,0) _ rfl (zaL G3.out) Tryz.underlying53 rfl (by kernel_rfl)) rfl ?_
  exact zcf rfl HY.out HM.out (zb5 aa (Nat.le_succ _) ..)
-- GEN
theorem zaC (C:Cx) (I j h:Nat) (x:PR) (S:Sv) (q:PS) (z:Int) (d:Nat) (s:ByteArray) (w:World) (hx:Is x q z) (X:Mem C I j h S q w):
  Calls Tryz.prog 76 #[pv C I j S q z d,.string s] w (Out C I j h (bd x (zd C 1 s)) d S w):=by
 have HM:=zc X
 have o:=X.tok
 have n:=X.few
 have HX:=zc hx
 clear hx X
 cases A:(decide (z<0)&&isT C q.pos 1 s) with
 |true=>
  have ab:q.pos<C.ts.length:=by rw[Bool.and_eq_true] at A;exact zaz A.2 (by decide)
  have HY:Hid (Is (bd x (zd C 1 s)) (adv q) z):=by
   rw[Bool.and_eq_true,decide_eq_true_eq] at A
   obtain⟨K,Y⟩:=za7 HX.out A.1
   show Is (bd x (zd C 1 s)) (adv q) z
   rw[K,zx,zd,if_pos A.2]
   exact⟨rfl,Y⟩
  unfold pv
  go_enter Tryz.func76,Tryz.ntmps76
  go_wp2_with fail
  refine (zg C I j h S q z d 1 s _ (zo (zo o _) _) n (by decide)).mono ?_
  rintro e w1 ⟨rfl,D⟩
  rw[A]
  obtain⟨J,H⟩:=zcn D
  obtain⟨a0,a1,a2,a3,a4,a5,a6,a7,a8,a9,L,U,af⟩:=zag J
  obtain⟨b0,b1,b2,b3,b4,b5,b6,b7,b8,b9,N,M,bf⟩:=zag H
  have Z:=zc H
  clear J H A
  go_wp2
  refine bodyPost_ret (results_cell_row rfl _ _ (w.heap.size+1) 53 _ (0,0) _ rfl (zaL ((zp (by omega)).trans Z.out)) Tryz.underlying53 rfl (by kernel_rfl)) rfl ?_
  exact zcf rfl HY.out (HM.out.adv ab) (zb5 ((zaR D).setCell (Nat.le_refl _) _) (Nat.le_succ _) ..)
 |false=>
  have HY:Hid (Is (bd x (zd C 1 s)) q (zbi C q.pos z)):=by
   show Is (bd x (zd C 1 s)) q (zbi C q.pos z)
   unfold zbi
   by_cases O:z<0
   ·obtain⟨K,Y⟩:=za7 HX.out O
    simp only[O,decide_true,Bool.true_and] at A
    rw[K,zx,zd,A,if_pos O]
    rfl
   ·obtain⟨e,K,Y⟩:=zcN HX.out O
    rw[K,zd7,if_neg O]
    exact Y
  unfold pv
  go_enter Tryz.func76,Tryz.ntmps76
  go_wp2_with fail
  refine (zg C I j h S q z d 1 s _ (zo (zo o _) _) n (by decide)).mono ?_
  rintro e w1 ⟨rfl,D⟩
  rw[A]
  obtain⟨J,H⟩:=zcn D
  obtain⟨a0,a1,a2,a3,a4,a5,a6,a7,a8,a9,L,U,af⟩:=zag J
  obtain⟨b0,b1,b2,b3,b4,b5,b6,b7,b8,b9,N,M,bf⟩:=zag H
  have Z:=zc H
  have E:=zbO o (zaR D)
  clear J H A
  go_wp2_with fail
  refine (zcL C I j h S q z d _ E n).mono ?_
  rintro e w2 ⟨rfl,V⟩
  have G3:Hid (_=_):=(V.block _ (Nat.lt_of_lt_of_le (by simp) D.size)).trans Z.out
  obtain⟨c0,c1,c2,c3,c4,c5,c6,c7,c8,c9,ad,ac,cf⟩:=zag G3.out
  have aa:=(zaR D).trans (V.mono (zaR D).size)
  clear a0 a1 a2 a3 a4 a5 a6 a7 a8 a9 L U b0 b1 b2 b3 b4 b5 b6 b7 b8 b9 N M af bf
  unfold pv
  go_wp2
  refine bodyPost_ret (results_cell_row rfl _ _ (w.heap.size+1) 53 _ (0,0) _ rfl (zaL G3.out) Tryz.underlying53 rfl (by kernel_rfl)) rfl ?_
  exact zcf rfl HY.out HM.out (zb5 aa (Nat.le_succ _) ..)
theorem zdk (s:ByteArray) (h:Bool) (w:World):
  Calls Tryz.prog 166 #[.string s,.bool h] w fun e K=>e= .returned (.bool (zs s h))∧K=w:=by
 cases n:(s.toList==[105,109,112,111,114,116]) with
 |true=>
  have j:Hid (zs s h=true):=by show zs s h=true;simp[zs,n]
  go_enter Tryz.func166,Tryz.ntmps166
  go_wp2
  go_ret
  exact⟨zl j.out.symm,rfl⟩
 |false=>
  cases o:(s.toList==[101,120,112,111,114,116]) with
  |true=>
   have j:Hid (zs s h=true):=by show zs s h=true;simp[zs,n,o]
   go_enter Tryz.func166,Tryz.ntmps166
   go_wp2
   go_ret
   exact⟨zl j.out.symm,rfl⟩
  |false=>
   cases q:(s.toList==[100,101,102,97,117,108,116]) with
   |true=>
    have j:Hid (zs s h=true):=by show zs s h=true;simp[zs,n,o,q]
    go_enter Tryz.func166,Tryz.ntmps166
    go_wp2
    go_ret
    exact⟨zl j.out.symm,rfl⟩
   |false=>
    cases z:(s.toList==[108,101,116]) with
    |true=>
     have j:Hid (zs s h=true):=by show zs s h=true;simp[zs,n,o,q,z]
     go_enter Tryz.func166,Tryz.ntmps166
     go_wp2
     go_ret
     exact⟨zl j.out.symm,rfl⟩
    |false=>
     cases A:(s.toList==[102,117,110,99,116,105,111,110]) with
     |true=>
      have j:Hid (zs s h=true):=by show zs s h=true;simp[zs,n,o,q,z,A]
      go_enter Tryz.func166,Tryz.ntmps166
      go_wp2
      go_ret
      exact⟨zl j.out.symm,rfl⟩
     |false=>
      cases D:(s.toList==[114,101,116,117,114,110]) with
      |true=>
       have j:Hid (zs s h=true):=by show zs s h=true;simp[zs,n,o,q,z,A,D]
       go_enter Tryz.func166,Tryz.ntmps166
       go_wp2
       go_ret
       exact⟨zl j.out.symm,rfl⟩
      |false=>
       cases E:(s.toList==[112,114,105,110,116]) with
       |true=>
        have j:Hid (zs s h=true):=by show zs s h=true;simp[zs,n,o,q,z,A,D,E]
        go_enter Tryz.func166,Tryz.ntmps166
        go_wp2
        go_ret
        exact⟨zl j.out.symm,rfl⟩
       |false=>
        cases H:(s.toList==[116,104,114,111,119]) with
        |true=>
         have j:Hid (zs s h=true):=by show zs s h=true;simp[zs,n,o,q,z,A,D,E,H]
         go_enter Tryz.func166,Tryz.ntmps166
         go_wp2
         go_ret
         exact⟨zl j.out.symm,rfl⟩
        |false=>
         cases I:(s.toList==[102,97,105,108]) with
         |true=>
          have j:Hid (zs s h=h):=by show zs s h=h;simp[zs,n,o,q,z,A,D,E,H,I]
          go_enter Tryz.func166,Tryz.ntmps166
          go_wp2
          go_ret
          exact⟨zl j.out.symm,rfl⟩
         |false=>
          cases J:(s.toList==[117,110,100,101,102]) with
          |true=>
           have j:Hid (zs s h=h):=by show zs s h=h;simp[zs,n,o,q,z,A,D,E,H,I,J]
           go_enter Tryz.func166,Tryz.ntmps166
           go_wp2
           go_ret
           exact⟨zl j.out.symm,rfl⟩
          |false=>
           have j:Hid (zs s h=false):=by show zs s h=false;simp[zs,n,o,q,z,A,D,E,H,I,J]
           go_enter Tryz.func166,Tryz.ntmps166
           go_wp2
           go_ret
           exact⟨zl j.out.symm,rfl⟩
theorem zkx {C:Cx} {i:Nat} {o:Bool} (h:((ze C i).kind==1)=false):zB C i o=false:=by rw[zB,h];rfl
theorem zfP {C:Cx} {i:Nat} {o:Bool} (h: ¬i<C.ts.length):zB C i o=false:=by
 rw[Bool.eq_false_iff]
 exact fun g=>h (zed g)
theorem zeV (C:Cx) (Y H E:Nat) (S:Sv) (q:PS) (z:Int) (d:Nat) (o:Bool) (w:World) (U:OwnT w E 111 Y C.ts.length H C.ts) (_:C.ts.length≤4000):
  Calls Tryz.prog 133 #[pv C Y H S q z d,.bool o] w fun e n=>e= .returned (.bool (decide (z<0)&&zB C q.pos o))∧Below w.heap.size w n:=by
 unfold pv
 by_cases X:z<0
 ·have A:decide (z<0)=true:=decide_eq_true X
  have J:decide (0≤z)=false:=decide_eq_false (by omega)
  by_cases N:q.pos<C.ts.length
  ·obtain⟨M,V,_,_⟩:=U.cells N (d:=⟨0,sNone,0,C.fin⟩)
   have L:=(zak U).1
   change _=some (Value.int .i64 (ze C q.pos).kind) at M
   change _=some (Value.string (ze C q.pos).text) at V
   generalize h:ze C q.pos=t at M V
   cases D:(t.kind==1) with
   |true=>
    have K:(t.kind !=1)=false:=by rw[bne,D];rfl
    cases I:zs t.text C.scr with
    |false=>
     have j:Hid (zB C q.pos o=true):=by show zB C q.pos o=true;simp only[zB,h,D,I,Bool.not_false,Bool.true_or,Bool.and_self]
     clear h
     go_enter Tryz.func133,Tryz.ntmps133
     go_wp2_with (first|(go_at_call 166;refine (zdk _ _ _).mono ?_;rintro e n ⟨rfl,rfl⟩))
     go_ret
     exact⟨zl (by first|(rw[A,j.out];rfl)|rfl),(Below.refl _ _).alloc (Nat.le_refl _) _⟩
    |true=>
     cases o with
     |true=>
      cases O:(t.text.toList==[100,101,102,97,117,108,116]) with
      |true=>
       have j:Hid (zB C q.pos true=true):=by show zB C q.pos true=true;simp only[zB,h,D,I,O,Bool.not_true,Bool.and_self,Bool.false_or]
       clear h
       go_enter Tryz.func133,Tryz.ntmps133
       go_wp2_with (first|(go_at_call 166;refine (zdk _ _ _).mono ?_;rintro e n ⟨rfl,rfl⟩))
       go_ret
       exact⟨zl (by first|(rw[A,j.out];rfl)|rfl),(Below.refl _ _).alloc (Nat.le_refl _) _⟩
      |false=>
       have j:Hid (zB C q.pos true=false):=by show zB C q.pos true=false;simp only[zB,h,D,I,O,Bool.not_true,Bool.true_and,Bool.or_self]
       clear h
       go_enter Tryz.func133,Tryz.ntmps133
       go_wp2_with (first|(go_at_call 166;refine (zdk _ _ _).mono ?_;rintro e n ⟨rfl,rfl⟩))
       go_ret
       exact⟨zl (by first|(rw[A,j.out];rfl)|rfl),(Below.refl _ _).alloc (Nat.le_refl _) _⟩
     |false=>
      have j:Hid (zB C q.pos false=false):=by show zB C q.pos false=false;simp only[zB,h,D,I,Bool.not_true,Bool.false_and,Bool.or_self,Bool.and_false]
      clear h
      go_enter Tryz.func133,Tryz.ntmps133
      go_wp2_with (first|(go_at_call 166;refine (zdk _ _ _).mono ?_;rintro e n ⟨rfl,rfl⟩))
      go_ret
      exact⟨zl (by first|(rw[A,j.out];rfl)|rfl),(Below.refl _ _).alloc (Nat.le_refl _) _⟩
   |false=>
    have K:(t.kind !=1)=true:=by rw[bne,D];rfl
    have j:Hid (zB C q.pos o=false):=zkx (by rw[h];exact D)
    clear h
    go_enter Tryz.func133,Tryz.ntmps133
    go_wp2_with (first|(go_at_call 166;refine (zdk _ _ _).mono ?_;rintro e n ⟨rfl,rfl⟩))
    go_ret
    exact⟨zl (by first|(rw[A,j.out];rfl)|rfl),(Below.refl _ _).alloc (Nat.le_refl _) _⟩
  ·have j:Hid (zB C q.pos o=false):=zfP N
   go_enter Tryz.func133,Tryz.ntmps133
   go_wp2_with (first|(go_at_call 166;refine (zdk _ _ _).mono ?_;rintro e n ⟨rfl,rfl⟩))
   go_ret
   exact⟨zl (by first|(rw[A,j.out];rfl)|rfl),(Below.refl _ _).alloc (Nat.le_refl _) _⟩
 ·have A:decide (z<0)=false:=decide_eq_false X
  have J:decide (0≤z)=true:=decide_eq_true (by omega)
  have j:Hid (zB C q.pos o=zB C q.pos o):=rfl
  go_enter Tryz.func133,Tryz.ntmps133
  go_wp2_with (first|(go_at_call 166;refine (zdk _ _ _).mono ?_;rintro e n ⟨rfl,rfl⟩))
  go_ret
  exact⟨zl (by first|(rw[A,j.out];rfl)|rfl),(Below.refl _ _).alloc (Nat.le_refl _) _⟩
def Is2 (y:Except Nat (PS×ByteArray)) (q:PS) (z:Int) (n:ByteArray):Prop:=
 match y with
 | .ok a=>q=a.1∧z= -1∧n=a.2
 | .error e=>z=(e:Int)
theorem Is2.fst {y:Except Nat (PS×ByteArray)} {q:PS} {z:Int} {n:ByteArray} (h:Is2 y q z n):Is (zaG y) q z:=by
 cases y with
 |ok a=>exact⟨h.1,h.2.1⟩
 |error e=>exact h
theorem Is2.bind {y:Except Nat (PS×ByteArray)} {q:PS} {z:Int} {n:ByteArray} (h:Is2 y q z n) {β:Type} (F:PS→ByteArray→Except Nat β):bd (zaG y) (fun q=>F q n)=bd y fun a=>F a.1 a.2:=by
 cases y with
 |ok a=>obtain⟨_,_,rfl⟩:=h;rfl
 |error e=>rfl
def zcW (C:Cx) (gt cap base:Nat) (y:Except Nat (PS×ByteArray)) (d:Nat) (S:Sv) (w:World) (e:Ending) (w':World):Prop:=
 ∃S' q' z' n',e= .returned (.tuple #[pv C gt cap S' q' z' d,.string n'])∧Is2 y q' z' n'∧Mem C gt cap base S' q' w'∧Stp S w S' w'
theorem zdl {C:Cx} {o j h:Nat} {y:Except Nat (PS×ByteArray)} {d:Nat} {S:Sv} {w q:World} {q':PS} {z':Int} {n:ByteArray} {v:Value} (A:v=pv C o j S q' z' d) (E:Is2 y q' z' n) (D:Mem C o j h S q' w) (z:Below w.heap.size w q):zcW C o j h y d S w (.returned (.tuple #[v,.string n])) q:=
 ⟨S,q',z',n,by rw[A],E,D.later z,Stp.below z⟩
theorem zaU (C:Cx) (J A h:Nat) (x:PR) (S:Sv) (q:PS) (z:Int) (d:Nat) (o:Bool) (w:World) (hx:Is x q z) (X:Mem C J A h S q w):
  Calls Tryz.prog 78 #[pv C J A S q z d,.bool o] w (zcW C J A h (bd x (zh C o)) d S w):=by
 have HM:=zc X
 have n:=X.tok
 have D:=X.few
 have HX:=zc hx
 clear hx X
 cases E:(decide (z<0)&&zB C q.pos o) with
 |true=>
  have N:q.pos<C.ts.length:=by rw[Bool.and_eq_true] at E;exact zed E.2
  have HY:Hid (Is2 (bd x (zh C o)) (adv q) z (ze C q.pos).text):=by
   rw[Bool.and_eq_true,decide_eq_true_eq] at E
   obtain⟨L,Y⟩:=za7 HX.out E.1
   show Is2 (bd x (zh C o)) (adv q) z (ze C q.pos).text
   rw[L,zx,zh,if_pos E.2]
   exact⟨rfl,Y,rfl⟩
  unfold pv
  go_enter Tryz.func78,Tryz.ntmps78
  go_wp2_with fail
  refine (zeV C J A h S q z d o _ (zo (zo n _) _) D).mono ?_
  rintro e w1 ⟨rfl,H⟩
  rw[E]
  obtain⟨K,I⟩:=zcn H
  obtain⟨a0,a1,a2,a3,a4,a5,a6,a7,a8,a9,M,U,af⟩:=zag K
  obtain⟨b0,b1,b2,b3,b4,b5,b6,b7,b8,b9,ae,ad,bf⟩:=zag I
  have j:=zbO n (zaR H)
  obtain⟨_,c1,_,_⟩:=j.cells N (d:=⟨0,sNone,0,C.fin⟩)
  change _=some (Value.string (ze C q.pos).text) at c1
  have Z:=zc I
  clear K I E
  go_wp2
  refine bodyPost_ret (za8 rfl _ _ (w.heap.size+1) 53 _ (0,0) _ rfl (zaL ((zp (by omega)).trans Z.out)) Tryz.underlying53 rfl (by kernel_rfl)) rfl ?_
  exact zdl rfl HY.out (HM.out.adv N) (zb5 ((zaR H).setCell (Nat.le_refl _) _) (Nat.le_succ _) ..)
 |false=>
  have HY:Hid (Is2 (bd x (zh C o)) q (zbi C q.pos z) sNone):=by
   show Is2 (bd x (zh C o)) q (zbi C q.pos z) sNone
   unfold zbi
   by_cases O:z<0
   ·obtain⟨L,Y⟩:=za7 HX.out O
    simp only[O,decide_true,Bool.true_and] at E
    rw[L,zx,zh,E,if_pos O]
    rfl
   ·obtain⟨e,L,Y⟩:=zcN HX.out O
    rw[L,zd7,if_neg O]
    exact Y
  unfold pv
  go_enter Tryz.func78,Tryz.ntmps78
  go_wp2_with fail
  refine (zeV C J A h S q z d o _ (zo (zo n _) _) D).mono ?_
  rintro e w1 ⟨rfl,H⟩
  rw[E]
  obtain⟨K,I⟩:=zcn H
  obtain⟨a0,a1,a2,a3,a4,a5,a6,a7,a8,a9,M,U,af⟩:=zag K
  have Z:=zc I
  have j:=zbO n (zaR H)
  clear K I E
  go_wp2_with fail
  refine (zcL C J A h S q z d _ j D).mono ?_
  rintro e w2 ⟨rfl,V⟩
  have G3:Hid (_=_):=(V.block _ (Nat.lt_of_lt_of_le (by simp) H.size)).trans Z.out
  obtain⟨c0,c1,c2,c3,c4,c5,c6,c7,c8,c9,ac,ab,cf⟩:=zag G3.out
  have aa:=(zaR H).trans (V.mono (zaR H).size)
  clear a0 a1 a2 a3 a4 a5 a6 a7 a8 a9 M U af
  unfold pv
  go_wp2
  refine bodyPost_ret (za8 rfl _ _ (w.heap.size+1) 53 _ (0,0) _ rfl (zaL G3.out) Tryz.underlying53 rfl (by kernel_rfl)) rfl ?_
  exact zdl rfl HY.out HM.out (zb5 aa (Nat.le_succ _) ..)
theorem Tryz.infoImp:(Tryz.prog.info? 100).map (fun i=>(i.zero,i.size,i.bytes))=some (some (.agg #[.string {data:=#[]},.string {data:=#[]},.string {data:=#[]}]),3,48):=by kernel_rfl
theorem Tryz.infoExp:(Tryz.prog.info? 102).map (fun i=>(i.zero,i.size,i.bytes))=some (some (.agg #[.int .i64 0,.string {data:=#[]},.string {data:=#[]},.string {data:=#[]}]),4,56):=by kernel_rfl
theorem Tryz.infoStmt:(Tryz.prog.info? 106).map (fun i=>(i.zero,i.size,i.bytes))=some (some (.agg #[.int .i64 0,.string {data:=#[]},.int .i64 0]),3,32):=by kernel_rfl
theorem Tryz.infoExpr:(Tryz.prog.info? 108).map (fun i=>(i.zero,i.size,i.bytes))=some (some (.agg #[.int .i64 0,.int .i64 0,.string {data:=#[]},.string {data:=#[]},.int .i64 0,.int .i64 0]),6,64):=by kernel_rfl
def imV (x:Im):Value:=.agg #[.string x.spec,.string x.first,.string x.loc]
def epV (x:Ep):Value:=.agg #[.int .i64 x.kind,.string x.name,.string x.loc,.string x.spec]
def exV (x:Ex):Value:=.agg #[.int .i64 x.kind,.int .i64 x.num,.string x.name,.string x.field,.int .i64 x.l,.int .i64 x.r]
theorem zc2 (w:World) (a b c:Obj):Below w.heap.size w (((w.alloc a).alloc b).alloc c):=(zaM w a b).alloc (zaM w a b).size c
theorem zeW (w:World) (a b c d:Obj):Below w.heap.size w ((((w.alloc a).alloc b).alloc c).alloc d):=(zc2 w a b c).alloc (zc2 w a b c).size d
theorem zcp (w:World) (a b:Obj):((w.alloc a).alloc b).heap.size=w.heap.size+1+1:=by rw[zj,zj]
theorem zY (w:World) (a b c:Obj):(((w.alloc a).alloc b).alloc c).heap.size=w.heap.size+1+1+1:=by rw[zj,zcp]
theorem za1 (w:World) (a b c d:Obj):((((w.alloc a).alloc b).alloc c).alloc d).heap.size=w.heap.size+1+1+1+1:=by rw[zj,zY]
theorem zaH (w:World) (a b c:Obj):(((w.alloc a).alloc b).alloc c).heap[w.heap.size]? =some a∧(((w.alloc a).alloc b).alloc c).heap[w.heap.size+1]? =some b∧(((w.alloc a).alloc b).alloc c).heap[w.heap.size+1+1]? =some c:=by
 refine⟨?_,?_,?_⟩
 ·rw[Below.heap_alloc _ _ _ (by rw[zcp];omega),Below.heap_alloc _ _ _ (by rw[zj];omega)]
  exact heap_alloc_new w a
 ·rw[Below.heap_alloc _ _ _ (by rw[zcp];omega)]
  exact zbj w a b
 ·rw[←zcp w a b]
  exact heap_alloc_new _ c
theorem zbA (w:World) (a b c d:Obj):((((w.alloc a).alloc b).alloc c).alloc d).heap[w.heap.size]? =some a∧((((w.alloc a).alloc b).alloc c).alloc d).heap[w.heap.size+1]? =some b∧((((w.alloc a).alloc b).alloc c).alloc d).heap[w.heap.size+1+1]? =some c∧((((w.alloc a).alloc b).alloc c).alloc d).heap[w.heap.size+1+1+1]? =some d:=by
 obtain⟨j,n,h⟩:=zaH w a b c
 refine⟨?_,?_,?_,?_⟩
 ·rw[Below.heap_alloc _ _ _ (by rw[zY];omega)]
  exact j
 ·rw[Below.heap_alloc _ _ _ (by rw[zY];omega)]
  exact n
 ·rw[Below.heap_alloc _ _ _ (by rw[zY];omega)]
  exact h
 ·rw[←zY w a b c]
  exact heap_alloc_new _ d
theorem zfQ {w h:World} {a b c:Obj} (j:Below (((w.alloc a).alloc b).alloc c).heap.size (((w.alloc a).alloc b).alloc c) h):Below w.heap.size w h:=(zc2 w a b c).trans (j.mono (zc2 w a b c).size)
theorem zeX {C:Cx} {x:PR} {q:PS} {z:Int} {f:PS→PR} (n:Is x q z) (j:z<0) (h:f q= .error (zq C (q.pos-1))):Is (bd x f) q (zq C (q.pos-1)):=by
 obtain⟨rfl,_⟩:=za7 n j
 rw[zx,h]
 rfl
theorem zeY {x:PR} {q:PS} {z:Int} {f:PS→PR} (n:Is x q z) (h: ¬z<0):Is (bd x f) q z:=by
 obtain⟨e,rfl,j⟩:=zcN n h
 exact j
theorem zes {x:PR} {q q':PS} {z:Int} {f:PS→PR} (o:Is x q z) (j:z<0) (h:f q= .ok q'):Is (bd x f) q' z:=by
 obtain⟨rfl,n⟩:=za7 o j
 rw[zx,h]
 exact⟨rfl,n⟩
theorem zdm {w W:World} {h:Nat} {S:Sv} {q:PS} (n:Own w h S q) (_:w.heap.size≤W.heap.size) {r:Option Nat} (j: ∀k,r=some k→S.has k) (b:Nat) (o:w.heap.size≤b):some b≠r:=fun e=>by have:=(n.has (j b e.symm)).2;omega
theorem zc3 (C:Cx) (M j h:Nat) (x:PR) (S:Sv) (q:PS) (z:Int) (d:Nat) (y:Ex) (w:World) (hx:Is x q z) (I:Mem C M j h S q w) (L:z<0→1≤q.pos):
  Calls Tryz.prog 137 #[pv C M j S q z d,exV y] w (Out C M j h (bd x (zM C y)) d S w):=by
 obtain⟨i0,hi,X,Y,O⟩:=info_parts Tryz.infoExpr
 have o:=zc I
 have Z:=zc hx
 have ab:q.ex.length≤300:=by have:=I.inv.ex;omega
 clear hx
 by_cases K:z<0
 ·have dz:decide (0≤z)=false:=decide_eq_false (by omega)
  by_cases hn:300≤q.ex.length
  ·have E:Hid (Is (bd x (zM C y)) q (zq C (q.pos-1))):=zeX Z.out K (if_pos hn)
   have qn:decide ((300:Int)≤(q.ex.length:Int))=true:=decide_eq_true (by omega)
   have H:=L K
   clear L I
   unfold pv exV
   go_enter Tryz.func137,Tryz.ntmps137
   go_wp2_with fail
   refine (zer C M j h S q z d _ (((o.out.alloc _).alloc _).alloc _) K H).mono ?_
   rintro e w2 ⟨rfl,D⟩
   have aa:Below w.heap.size w w2:=zfQ D
   have G3:Hid (_=_):=(D.block (w.heap.size+1+1) (by rw[zY];omega)).trans ((zaH w _ _ _).2.2)
   obtain⟨c0,c1,c2,c3,c4,c5,c6,c7,c8,c9,ai,ac,cf⟩:=zag G3.out
   clear D
   unfold pv
   go_wp2
   refine bodyPost_ret (results_cell_row rfl _ _ (w.heap.size+1+1) 53 _ (0,0) _ rfl (zaL G3.out) Tryz.underlying53 rfl (by kernel_rfl)) rfl ?_
   exact zcf rfl E.out o.out (zb5 aa (by omega) ..)
  ·have qn:decide ((300:Int)≤(q.ex.length:Int))=false:=decide_eq_false (by omega)
   have E:Hid (Is (bd x (zM C y)) {q with ex:=q.ex++[y]} z):=zes Z.out K (if_neg hn)
   have n:=fun o1 o2 o3 o4=>((((o.out.own.ex.alloc o1).alloc o2).alloc o3).alloc o4)
   clear L I
   unfold pv exV
   go_enter Tryz.func137,Tryz.ntmps137
   go_wp2_with (at_builtin;refine zcl _ rfl _ _ 26 rfl h 108 i0 _ 6 64 Tryz.underlying26 hi X Y O rfl (by decide) (by decide) S.ex q.ex.length _ (by rfl) (n ..) (w.heap.size+1+1+1) (exL y) (by rfl) (by first|exact (zbA w ..).2.2.2|exact (zaH w _ _ _).2.2) rfl (by intro u hu;simp[exL] at hu;rcases hu with rfl|rfl|rfl|rfl|rfl|rfl<;>rfl) (by omega) (by have:=o.out.base;(first|rw[za1]|rw[zY]);omega) ?_)
   intro r' w2 hr N J
   have HR:=zc hr
   have HG:=zc N
   have U:=zc J
   have A:=fun b hb=>zdm (W:=w) o.out.own (Nat.le_refl _) (r:=S.ex.blk) (fun k e=>.inr (.inr (.inr (.inr (.inl e))))) b hb
   have g1:=(N.block w.heap.size (by (first|rw[za1]|rw[zY]);omega) (A _ (Nat.le_refl _))).trans (by first|exact (zbA w ..).1|exact (zaH w _ _ _).1)
   have V:=(N.block (w.heap.size+1+1) (by (first|rw[za1]|rw[zY]);omega) (A _ (by omega))).trans (by first|exact (zbA w ..).2.2.1|exact (zaH w _ _ _).2.1)
   obtain⟨a0,a1,a2,a3,a4,a5,a6,a7,a8,a9,ad,ag,af⟩:=zag g1
   obtain⟨b0,b1,b2,b3,b4,b5,b6,b7,b8,b9,ah,ae,bf⟩:=zag V
   have G2:=zc V
   clear g1 V N hr J A n
   go_wp2
   refine bodyPost_ret (results_cell_row rfl _ _ (w.heap.size+1+1) 53 _ (0,0) _ rfl (zaL ((zp (by omega)).trans G2.out)) Tryz.underlying53 rfl (by kernel_rfl)) rfl ?_
   obtain⟨m',s'⟩:=o.out.grow_ex (x:=y) (zeW w ..) HG.out HR.out (by (first|rw[za1]|rw[zY]);exact U.out) (((Off.refl _ _ _).set (b:=w.heap.size) (Nat.le_refl _) (by (first|rw[za1]|rw[zY]);omega) _ _).set12 (b:=w.heap.size+1+1) (by omega) (by (first|rw[za1]|rw[zY]);omega) ..) (by omega)
   exact⟨_,{q with ex:=q.ex++[y]},z,by simp[pv],E.out,m',s'⟩
 ·have dz:decide (0≤z)=true:=decide_eq_true (by omega)
  have E:Hid (Is (bd x (zM C y)) q z):=zeY Z.out K
  clear L I
  unfold pv exV
  go_enter Tryz.func137,Tryz.ntmps137
  go_wp2
  refine bodyPost_ret (results_cell_row rfl _ _ (w.heap.size+1+1) 53 _ (0,0) _ rfl ((zaH w _ _ _).2.2) Tryz.underlying53 rfl (by kernel_rfl)) rfl ?_
  exact zcf rfl E.out o.out (zc2 w _ _ _)
theorem zfR (C:Cx) (M j h:Nat) (x:PR) (S:Sv) (q:PS) (z:Int) (d:Nat) (y:Im) (w:World) (hx:Is x q z) (I:Mem C M j h S q w) (L:z<0→1≤q.pos):
  Calls Tryz.prog 132 #[pv C M j S q z d,imV y] w (Out C M j h (bd x (zao C y)) d S w):=by
 obtain⟨i0,hi,X,Y,O⟩:=info_parts Tryz.infoImp
 have o:=zc I
 have Z:=zc hx
 have ab:q.im.length≤40:=by have:=I.inv.im;omega
 clear hx
 by_cases K:z<0
 ·have dz:decide (0≤z)=false:=decide_eq_false (by omega)
  by_cases hn:40≤q.im.length
  ·have E:Hid (Is (bd x (zao C y)) q (zq C (q.pos-1))):=zeX Z.out K (if_pos hn)
   have qn:decide ((40:Int)≤(q.im.length:Int))=true:=decide_eq_true (by omega)
   have H:=L K
   clear L I
   unfold pv imV
   go_enter Tryz.func132,Tryz.ntmps132
   go_wp2_with fail
   refine (zer C M j h S q z d _ (((o.out.alloc _).alloc _).alloc _) K H).mono ?_
   rintro e w2 ⟨rfl,D⟩
   have aa:Below w.heap.size w w2:=zfQ D
   have G3:Hid (_=_):=(D.block (w.heap.size+1+1) (by rw[zY];omega)).trans ((zaH w _ _ _).2.2)
   obtain⟨c0,c1,c2,c3,c4,c5,c6,c7,c8,c9,ai,ac,cf⟩:=zag G3.out
   clear D
   unfold pv
   go_wp2
   refine bodyPost_ret (results_cell_row rfl _ _ (w.heap.size+1+1) 53 _ (0,0) _ rfl (zaL G3.out) Tryz.underlying53 rfl (by kernel_rfl)) rfl ?_
   exact zcf rfl E.out o.out (zb5 aa (by omega) ..)
  ·have qn:decide ((40:Int)≤(q.im.length:Int))=false:=decide_eq_false (by omega)
   have E:Hid (Is (bd x (zao C y)) {q with im:=q.im++[y]} z):=zes Z.out K (if_neg hn)
   have n:=fun o1 o2 o3 o4=>((((o.out.own.im.alloc o1).alloc o2).alloc o3).alloc o4)
   clear L I
   unfold pv imV
   go_enter Tryz.func132,Tryz.ntmps132
   go_wp2_with (at_builtin;refine zcl _ rfl _ _ 23 rfl h 100 i0 _ 3 48 Tryz.underlying23 hi X Y O rfl (by decide) (by decide) S.im q.im.length _ (by rfl) (n ..) (w.heap.size+1+1+1) (imL y) (by rfl) (by first|exact (zbA w ..).2.2.2|exact (zaH w _ _ _).2.2) rfl (by intro u hu;simp[imL] at hu;rcases hu with rfl|rfl|rfl<;>rfl) (by omega) (by have:=o.out.base;(first|rw[za1]|rw[zY]);omega) ?_)
   intro r' w2 hr N J
   have HR:=zc hr
   have HG:=zc N
   have U:=zc J
   have A:=fun b hb=>zdm (W:=w) o.out.own (Nat.le_refl _) (r:=S.im.blk) (fun k e=>.inr (.inl e)) b hb
   have g1:=(N.block w.heap.size (by (first|rw[za1]|rw[zY]);omega) (A _ (Nat.le_refl _))).trans (by first|exact (zbA w ..).1|exact (zaH w _ _ _).1)
   have V:=(N.block (w.heap.size+1+1) (by (first|rw[za1]|rw[zY]);omega) (A _ (by omega))).trans (by first|exact (zbA w ..).2.2.1|exact (zaH w _ _ _).2.1)
   obtain⟨a0,a1,a2,a3,a4,a5,a6,a7,a8,a9,ad,ag,af⟩:=zag g1
   obtain⟨b0,b1,b2,b3,b4,b5,b6,b7,b8,b9,ah,ae,bf⟩:=zag V
   have G2:=zc V
   clear g1 V N hr J A n
   go_wp2
   refine bodyPost_ret (results_cell_row rfl _ _ (w.heap.size+1+1) 53 _ (0,0) _ rfl (zaL ((zp (by omega)).trans G2.out)) Tryz.underlying53 rfl (by kernel_rfl)) rfl ?_
   obtain⟨m',s'⟩:=o.out.grow_im (x:=y) (zeW w ..) HG.out HR.out (by (first|rw[za1]|rw[zY]);exact U.out) (((Off.refl _ _ _).set (b:=w.heap.size) (Nat.le_refl _) (by (first|rw[za1]|rw[zY]);omega) _ _).set12 (b:=w.heap.size+1+1) (by omega) (by (first|rw[za1]|rw[zY]);omega) ..) (by omega)
   exact⟨_,{q with im:=q.im++[y]},z,by simp[pv],E.out,m',s'⟩
 ·have dz:decide (0≤z)=true:=decide_eq_true (by omega)
  have E:Hid (Is (bd x (zao C y)) q z):=zeY Z.out K
  clear L I
  unfold pv imV
  go_enter Tryz.func132,Tryz.ntmps132
  go_wp2
  refine bodyPost_ret (results_cell_row rfl _ _ (w.heap.size+1+1) 53 _ (0,0) _ rfl ((zaH w _ _ _).2.2) Tryz.underlying53 rfl (by kernel_rfl)) rfl ?_
  exact zcf rfl E.out o.out (zc2 w _ _ _)
theorem zdn (C:Cx) (gt E h:Nat) (x:PR) (S:Sv) (q:PS) (z:Int) (d:Nat) (y:Ep) (w:World) (hx:Is x q z) (K:Mem C gt E h S q w) (O:z<0→1≤q.pos):
  Calls Tryz.prog 134 #[pv C gt E S q z d,epV y] w (Out C gt E h (bd x (zn C y)) d S w):=by
 obtain⟨i0,hi,U,V,N⟩:=info_parts Tryz.infoExp
 have o:=zc K
 have HX:=zc hx
 have ag:q.ep.length≤40:=by have:=K.inv.ep;omega
 have ah:q.la.length≤40:=by have:=K.inv.ep;omega
 clear hx
 by_cases M:z<0
 ·have dz:decide (0≤z)=false:=decide_eq_false (by omega)
  by_cases hn:40≤q.ep.length+q.la.length
  ·have I:Hid (Is (bd x (zn C y)) q (zq C (q.pos-1))):=zeX HX.out M (if_pos hn)
   have qn:decide ((40:Int)≤(q.ep.length:Int)+(q.la.length:Int))=true:=decide_eq_true (by omega)
   have X:=O M
   clear O K
   unfold pv epV
   go_enter Tryz.func134,Tryz.ntmps134
   go_wp2_with fail
   refine (zer C gt E h S q z d _ (((o.out.alloc _).alloc _).alloc _) M X).mono ?_
   rintro e w2 ⟨rfl,L⟩
   have ae:Below w.heap.size w w2:=zfQ L
   have G3:Hid (_=_):=(L.block (w.heap.size+1+1) (by rw[zY];omega)).trans ((zaH w _ _ _).2.2)
   obtain⟨c0,c1,c2,c3,c4,c5,c6,c7,c8,c9,aj,ai,cf⟩:=zag G3.out
   clear L
   unfold pv
   go_wp2
   refine bodyPost_ret (results_cell_row rfl _ _ (w.heap.size+1+1) 53 _ (0,0) _ rfl (zaL G3.out) Tryz.underlying53 rfl (by kernel_rfl)) rfl ?_
   exact zcf rfl I.out o.out (zb5 ae (by omega) ..)
  ·have qn:decide ((40:Int)≤(q.ep.length:Int)+(q.la.length:Int))=false:=decide_eq_false (by omega)
   cases hd:(y.loc.toList==[42,100,101,102,97,117,108,116]) with
   |true=>
    have I:Hid (Is (bd x (zn C y)) {q with la:=q.la++[y]} z):=zes HX.out M (by rw[zn,if_neg hn,if_pos hd])
    have j:=fun o1 o2 o3 o4=>((((o.out.own.la.alloc o1).alloc o2).alloc o3).alloc o4)
    clear O K
    unfold pv epV
    go_enter Tryz.func134,Tryz.ntmps134
    go_wp2_with (at_builtin;refine zcl _ rfl _ _ 24 rfl h 102 i0 _ 4 56 Tryz.underlying24 hi U V N rfl (by decide) (by decide) S.la q.la.length _ (by rfl) (j ..) (w.heap.size+1+1+1) (epL y) (by rfl) (by first|exact (zbA w ..).2.2.2|exact (zaH w _ _ _).2.2) rfl (by intro u hu;simp[epL] at hu;rcases hu with rfl|rfl|rfl|rfl<;>rfl) (by omega) (by have:=o.out.base;(first|rw[za1]|rw[zY]);omega) ?_)
    intro r' w2 Z D A
    have HR:=zc Z
    have HG:=zc D
    have H:=zc A
    have n:=fun b hb=>zdm (W:=w) o.out.own (Nat.le_refl _) (r:=S.la.blk) (fun k e=>.inr (.inr (.inr (.inr (.inr e))))) b hb
    have Y:=(D.block w.heap.size (by (first|rw[za1]|rw[zY]);omega) (n _ (Nat.le_refl _))).trans (by first|exact (zbA w ..).1|exact (zaH w _ _ _).1)
    have J:=(D.block (w.heap.size+1+1) (by (first|rw[za1]|rw[zY]);omega) (n _ (by omega))).trans (by first|exact (zbA w ..).2.2.1|exact (zaH w _ _ _).2.1)
    obtain⟨a0,a1,a2,a3,a4,a5,a6,a7,a8,a9,aa,ac,af⟩:=zag Y
    obtain⟨b0,b1,b2,b3,b4,b5,b6,b7,b8,b9,ad,ab,bf⟩:=zag J
    have G2:=zc J
    clear Y J D Z A n j
    go_wp2
    refine bodyPost_ret (results_cell_row rfl _ _ (w.heap.size+1+1) 53 _ (0,0) _ rfl (zaL ((zp (by omega)).trans G2.out)) Tryz.underlying53 rfl (by kernel_rfl)) rfl ?_
    obtain⟨m',s'⟩:=o.out.grow_la (x:=y) (zeW w ..) HG.out HR.out (by (first|rw[za1]|rw[zY]);exact H.out) (((Off.refl _ _ _).set (b:=w.heap.size) (Nat.le_refl _) (by (first|rw[za1]|rw[zY]);omega) _ _).set12 (b:=w.heap.size+1+1) (by omega) (by (first|rw[za1]|rw[zY]);omega) ..) (by omega)
    exact⟨_,{q with la:=q.la++[y]},z,by simp[pv],I.out,m',s'⟩
   |false=>
    have I:Hid (Is (bd x (zn C y)) {q with ep:=q.ep++[y]} z):=zes HX.out M (by rw[zn,if_neg hn,hd];rfl)
    have j:=fun o1 o2 o3 o4=>((((o.out.own.ep.alloc o1).alloc o2).alloc o3).alloc o4)
    clear O K
    unfold pv epV
    go_enter Tryz.func134,Tryz.ntmps134
    go_wp2_with (at_builtin;refine zcl _ rfl _ _ 24 rfl h 102 i0 _ 4 56 Tryz.underlying24 hi U V N rfl (by decide) (by decide) S.ep q.ep.length _ (by rfl) (j ..) (w.heap.size+1+1+1) (epL y) (by rfl) (by first|exact (zbA w ..).2.2.2|exact (zaH w _ _ _).2.2) rfl (by intro u hu;simp[epL] at hu;rcases hu with rfl|rfl|rfl|rfl<;>rfl) (by omega) (by have:=o.out.base;(first|rw[za1]|rw[zY]);omega) ?_)
    intro r' w2 Z D A
    have HR:=zc Z
    have HG:=zc D
    have H:=zc A
    have n:=fun b hb=>zdm (W:=w) o.out.own (Nat.le_refl _) (r:=S.ep.blk) (fun k e=>.inr (.inr (.inl e))) b hb
    have Y:=(D.block w.heap.size (by (first|rw[za1]|rw[zY]);omega) (n _ (Nat.le_refl _))).trans (by first|exact (zbA w ..).1|exact (zaH w _ _ _).1)
    have J:=(D.block (w.heap.size+1+1) (by (first|rw[za1]|rw[zY]);omega) (n _ (by omega))).trans (by first|exact (zbA w ..).2.2.1|exact (zaH w _ _ _).2.1)
    obtain⟨a0,a1,a2,a3,a4,a5,a6,a7,a8,a9,aa,ac,af⟩:=zag Y
    obtain⟨b0,b1,b2,b3,b4,b5,b6,b7,b8,b9,ad,ab,bf⟩:=zag J
    have G2:=zc J
    clear Y J D Z A n j
    go_wp2
    refine bodyPost_ret (results_cell_row rfl _ _ (w.heap.size+1+1) 53 _ (0,0) _ rfl (zaL ((zp (by omega)).trans G2.out)) Tryz.underlying53 rfl (by kernel_rfl)) rfl ?_
    obtain⟨m',s'⟩:=o.out.grow_ep (x:=y) (zeW w ..) HG.out HR.out (by (first|rw[za1]|rw[zY]);exact H.out) (((Off.refl _ _ _).set (b:=w.heap.size) (Nat.le_refl _) (by (first|rw[za1]|rw[zY]);omega) _ _).set12 (b:=w.heap.size+1+1) (by omega) (by (first|rw[za1]|rw[zY]);omega) ..) (by omega)
    exact⟨_,{q with ep:=q.ep++[y]},z,by simp[pv],I.out,m',s'⟩
 ·have dz:decide (0≤z)=true:=decide_eq_true (by omega)
  have I:Hid (Is (bd x (zn C y)) q z):=zeY HX.out M
  clear O K
  unfold pv epV
  go_enter Tryz.func134,Tryz.ntmps134
  go_wp2
  refine bodyPost_ret (results_cell_row rfl _ _ (w.heap.size+1+1) 53 _ (0,0) _ rfl ((zaH w _ _ _).2.2) Tryz.underlying53 rfl (by kernel_rfl)) rfl ?_
  exact zcf rfl I.out o.out (zc2 w _ _ _)
theorem zc4 (C:Cx) (N n h:Nat) (x:PR) (S:Sv) (q:PS) (z:Int) (d:Nat) (k:Int) (j:ByteArray) (w:World) (hx:Is x q z) (H:Mem C N n h S q w) (M:z<0→1≤q.pos):
  Calls Tryz.prog 77 #[pv C N n S q z d,.int .i64 k,.string j] w (Out C N n h (bd x (zX C k j)) d S w):=by
 obtain⟨i0,hi,Y,Z,U⟩:=info_parts Tryz.infoStmt
 have A:=zc H
 have HX:=zc hx
 have ab:q.ex.length≤300:=by have:=H.inv.ex;omega
 have ac:q.st.length≤80:=by have:=H.inv.st;omega
 clear hx
 by_cases L:z<0
 ·have dz:decide (0≤z)=false:=decide_eq_false (by omega)
  by_cases hn:80≤q.st.length
  ·have I:Hid (Is (bd x (zX C k j)) q (zq C (q.pos-1))):=zeX HX.out L (if_pos hn)
   have qn:decide ((80:Int)≤(q.st.length:Int))=true:=decide_eq_true (by omega)
   have J:=M L
   clear M H
   unfold pv
   go_enter Tryz.func77,Tryz.ntmps77
   go_wp2_with fail
   refine (zer C N n h S q z d _ ((A.out.alloc _).alloc _) L J).mono ?_
   rintro e w2 ⟨rfl,E⟩
   have aa:Below w.heap.size w w2:=zaR E
   have G3:Hid (_=_):=(E.block (w.heap.size+1) (by rw[zcp];omega)).trans (zbj w _ _)
   obtain⟨c0,c1,c2,c3,c4,c5,c6,c7,c8,c9,aj,ad,cf⟩:=zag G3.out
   clear E
   unfold pv
   go_wp2
   refine bodyPost_ret (results_cell_row rfl _ _ (w.heap.size+1) 53 _ (0,0) _ rfl (zaL G3.out) Tryz.underlying53 rfl (by kernel_rfl)) rfl ?_
   exact zcf rfl I.out A.out (zb5 aa (by omega) ..)
  ·have qn:decide ((80:Int)≤(q.st.length:Int))=false:=decide_eq_false (by omega)
   have I:Hid (Is (bd x (zX C k j)) {q with st:=q.st++[⟨k,j,(q.ex.length:Int)-1⟩]} z):=zes HX.out L (if_neg hn)
   have o:=fun o1 o2 o3=>(((A.out.own.st.alloc o1).alloc o2).alloc o3)
   clear M H
   unfold pv
   go_enter Tryz.func77,Tryz.ntmps77
   go_wp2_with (at_builtin;refine zcl _ rfl _ _ 25 rfl h 106 i0 _ 3 32 Tryz.underlying25 hi Y Z U rfl (by decide) (by decide) S.st q.st.length _ (by rfl) (o _ _ _) (w.heap.size+1+1) (smL ⟨k,j,(q.ex.length:Int)-1⟩) (by rfl) (by first|exact (zbA w ..).2.2.2|exact (zaH w _ _ _).2.2) rfl (by intro u hu;simp[smL] at hu;rcases hu with rfl|rfl|rfl<;>rfl) (by omega) (by have:=A.out.base;(first|rw[za1]|rw[zY]);omega) ?_)
   intro r' w2 hr O K
   have HR:=zc hr
   have HG:=zc O
   have V:=zc K
   have D:=fun b hb=>zdm (W:=w) A.out.own (Nat.le_refl _) (r:=S.st.blk) (fun k e=>.inr (.inr (.inr (.inl e)))) b hb
   have g1:=(O.block w.heap.size (by (first|rw[za1]|rw[zY]);omega) (D _ (Nat.le_refl _))).trans (by first|exact (zbA w ..).1|exact (zaH w _ _ _).1)
   have X:=(O.block (w.heap.size+1) (by (first|rw[za1]|rw[zY]);omega) (D _ (by omega))).trans (by first|exact (zbA w ..).2.2.1|exact (zaH w _ _ _).2.1)
   obtain⟨a0,a1,a2,a3,a4,a5,a6,a7,a8,a9,ae,ah,af⟩:=zag g1
   obtain⟨b0,b1,b2,b3,b4,b5,b6,b7,b8,b9,ai,ag,bf⟩:=zag X
   have G2:=zc X
   clear g1 X O hr K D o
   go_wp2
   refine bodyPost_ret (results_cell_row rfl _ _ (w.heap.size+1) 53 _ (0,0) _ rfl (zaL ((zp (by omega)).trans G2.out)) Tryz.underlying53 rfl (by kernel_rfl)) rfl ?_
   obtain⟨m',s'⟩:=A.out.grow_st (x:=⟨k,j,(q.ex.length:Int)-1⟩) (zc2 w _ _ _) HG.out HR.out (by (first|rw[za1]|rw[zY]);exact V.out) (((Off.refl _ _ _).set (b:=w.heap.size) (Nat.le_refl _) (by (first|rw[za1]|rw[zY]);omega) _ _).set12 (b:=w.heap.size+1) (by omega) (by (first|rw[za1]|rw[zY]);omega) ..) (by omega)
   exact⟨_,{q with st:=q.st++[⟨k,j,(q.ex.length:Int)-1⟩]},z,by simp[pv],I.out,m',s'⟩
 ·have dz:decide (0≤z)=true:=decide_eq_true (by omega)
  have I:Hid (Is (bd x (zX C k j)) q z):=zeY HX.out L
  clear M H
  unfold pv
  go_enter Tryz.func77,Tryz.ntmps77
  go_wp2
  refine bodyPost_ret (results_cell_row rfl _ _ (w.heap.size+1) 53 _ (0,0) _ rfl (zbj w _ _) Tryz.underlying53 rfl (by kernel_rfl)) rfl ?_
  exact zcf rfl I.out A.out (zaM w _ _)
theorem OwnR.drew {w:World} {j size n:Nat} {e:TypeId} {r:Rw} {xs:List Value} (h:OwnR w j e size r n xs):OwnR w.drew j e size r n xs:=h
theorem zky (x:Ex): ∀u∈exL x,u.oneCell'=true:=by
 intro u h
 simp[exL] at h
 rcases h with rfl|rfl|rfl|rfl|rfl|rfl<;>rfl
theorem IM.grow_ex {C:Cx} {N I o n:Nat} {S:Sv} {q:PS} {w W A:World} {j:Rw} {x:Ex} (h:IM C N I o n S q w) (hW:Below w.heap.size w W) (Z:W.grownBy A S.ex.blk) (X:OwnR A o 108 6 j (q.ex.length+1) (q.ex.flatMap exL++exL x)) (L:j.blk=S.ex.blk∨j.blk=some W.heap.size) (Y:q.ex.length<300):
  IM C N I o n {S with ex:=j} {q with ex:=q.ex++[x]} (A.setCell ⟨n,8,none⟩ (.slice j.a (q.ex.length+1) j.cap))∧IS n S w {S with ex:=j} (A.setCell ⟨n,8,none⟩ (.slice j.a (q.ex.length+1) j.cap)):=by
 obtain⟨H,E⟩:=h.mem.grow_ex (x:=x) hW Z X L (Off.refl _ _ _) Y
 have z:=h.free
 have M:=h.lt
 have D: ¬Sv.has {S with ex:=j} n:=fun g=>(E.sub n g).elim z fun g'=>by omega
 have J: ∀k,k≠n→(A.setCell ⟨n,8,none⟩ (.slice j.a (q.ex.length+1) j.cap)).heap[k]? =A.heap[k]?:=fun k J=>Below.heap_setCell A ⟨n,8,none⟩ _ k J
 have K:(A.setCell ⟨n,8,none⟩ (.slice j.a (q.ex.length+1) j.cap)).heap.size=A.heap.size:=by show (A.heap.modify _ _).size=_;simp
 have O:=(E.block n M z).trans h.cells
 refine⟨⟨⟨H.own.keep fun k g=>J k fun e=>D (by rw[←e];exact g),H.inv,zbs H.tok (J N h.ne.symm),H.few,by rw[K];exact H.base⟩,?_,h.ge⟩,?_⟩
 ·rw[zas O]
  simp
 ·exact (show IS n S w {S with ex:=j} A from⟨E.os,E.tape,E.output,E.size,fun k U V _=>E.block k U V,E.sub⟩).set _ _
theorem zkz (C:Cx) (gt H j n:Nat) (S:Sv) (q:PS) (x:Ex) (w:World) (h:IM C gt H j n S q w) (hn:q.ex.length<300):
  Calls Tryz.prog 202 #[.pointer (some ⟨n,0,none⟩),exV x] w fun e Y=>e= .returned (.int .i64 q.ex.length)∧∃V,IM C gt H j n V {q with ex:=q.ex++[x]} Y∧IS n S w V Y:=by
 obtain⟨i0,hi,M,U,L⟩:=info_parts Tryz.infoExpr
 have J:=zc h
 have aa:=h.lt
 obtain⟨c0,c1,c2,c3,c4,c5,c6,c7,c8,c9,cf⟩:=zaa h.cells
 have I:=fun A z=>((J.out.mem.own.ex.alloc A).drew.alloc z)
 have ab:=h.mem.base
 have E:some n≠S.ex.blk:=fun e=>J.out.free (.inr (.inr (.inr (.inr (.inl e.symm)))))
 have HN:=zc E
 have K: ∀A z,j≤((w.alloc A).alloc z).heap.size:=fun A z=>by rw[zcp];omega
 have N: ∀A z,n<((w.alloc A).alloc z).heap.size:=fun A z=>by rw[zcp];omega
 clear h E
 unfold exV
 go_enter Tryz.func202,Tryz.ntmps202
 go_wp2_with fail
 refine (zdj n q.ex.length 300 _ (by omega)).mono ?_
 rintro e w1 ⟨rfl,rfl⟩
 go_wp2_with fail
 go_region_law (first|(refine zeq rfl (.tmp 18) (.tmp 20) 26 rfl j 108 i0 _ 6 64 Tryz.underlying26 hi M U L rfl (by decide) (by decide) S.ex q.ex.length (q.ex.flatMap exL) (by rfl) (by exact I _ _) (w.heap.size+1) (exL x) (by rfl) (by exact zbj w _ _) rfl (zky x) (by omega) (by exact K _ _) ?_;intro r' w2 X o D;have Z:=(o.block n (by exact N _ _) HN.out).trans (by exact ((J.out.alloc _).alloc _).cells);obtain⟨d0,d1,d2,d3,d4,d5,d6,d7,d8,d9,df⟩:=zaa Z))
 all_goals
  have HR:=zc X
  have HG:=zc o
  have O:=zc D
  clear X o D Z c0 c1 c2 c3 c4 c5 c6 c7 c8 c9 cf
  go_wp2
  go_ret
  obtain⟨m',s'⟩:=J.out.grow_ex (zaM w _ _).drew HG.out HR.out O.out hn
  exact⟨zeG (by omega),_,m',s'⟩
theorem zhk (x:Im): ∀u∈imL x,u.oneCell'=true:=by
 intro u h
 simp[imL] at h
 rcases h with rfl|rfl|rfl<;>rfl
theorem IM.grow_rq {C:Cx} {N I o n:Nat} {S:Sv} {q:PS} {w W A:World} {j:Rw} {x:ByteArray} (h:IM C N I o n S q w) (hW:Below w.heap.size w W) (Z:W.grownBy A S.rq.blk) (X:OwnR A o 9 1 j (q.rq.length+1) (q.rq.map .string++[.string x])) (L:j.blk=S.rq.blk∨j.blk=some W.heap.size) (Y:q.rq.length<40):
  IM C N I o n {S with rq:=j} {q with rq:=q.rq++[x]} (A.setCell ⟨n,4,none⟩ (.slice j.a (q.rq.length+1) j.cap))∧IS n S w {S with rq:=j} (A.setCell ⟨n,4,none⟩ (.slice j.a (q.rq.length+1) j.cap)):=by
 obtain⟨H,E⟩:=h.mem.grow_rq (x:=x) hW Z X L (Off.refl _ _ _) Y
 have z:=h.free
 have M:=h.lt
 have D: ¬Sv.has {S with rq:=j} n:=fun g=>(E.sub n g).elim z fun g'=>by omega
 have J: ∀k,k≠n→(A.setCell ⟨n,4,none⟩ (.slice j.a (q.rq.length+1) j.cap)).heap[k]? =A.heap[k]?:=fun k J=>Below.heap_setCell A ⟨n,4,none⟩ _ k J
 have K:(A.setCell ⟨n,4,none⟩ (.slice j.a (q.rq.length+1) j.cap)).heap.size=A.heap.size:=by show (A.heap.modify _ _).size=_;simp
 have O:=(E.block n M z).trans h.cells
 refine⟨⟨⟨H.own.keep fun k g=>J k fun e=>D (by rw[←e];exact g),H.inv,zbs H.tok (J N h.ne.symm),H.few,by rw[K];exact H.base⟩,?_,h.ge⟩,?_⟩
 ·rw[zas O]
  simp
 ·exact (show IS n S w {S with rq:=j} A from⟨E.os,E.tape,E.output,E.size,fun k U V _=>E.block k U V,E.sub⟩).set _ _
theorem IM.grow_im {C:Cx} {N I o n:Nat} {S:Sv} {q:PS} {w W A:World} {j:Rw} {x:Im} (h:IM C N I o n S q w) (hW:Below w.heap.size w W) (Z:W.grownBy A S.im.blk) (X:OwnR A o 100 3 j (q.im.length+1) (q.im.flatMap imL++imL x)) (L:j.blk=S.im.blk∨j.blk=some W.heap.size) (Y:q.im.length<40):
  IM C N I o n {S with im:=j} {q with im:=q.im++[x]} (A.setCell ⟨n,5,none⟩ (.slice j.a (q.im.length+1) j.cap))∧IS n S w {S with im:=j} (A.setCell ⟨n,5,none⟩ (.slice j.a (q.im.length+1) j.cap)):=by
 obtain⟨H,E⟩:=h.mem.grow_im (x:=x) hW Z X L (Off.refl _ _ _) Y
 have z:=h.free
 have M:=h.lt
 have D: ¬Sv.has {S with im:=j} n:=fun g=>(E.sub n g).elim z fun g'=>by omega
 have J: ∀k,k≠n→(A.setCell ⟨n,5,none⟩ (.slice j.a (q.im.length+1) j.cap)).heap[k]? =A.heap[k]?:=fun k J=>Below.heap_setCell A ⟨n,5,none⟩ _ k J
 have K:(A.setCell ⟨n,5,none⟩ (.slice j.a (q.im.length+1) j.cap)).heap.size=A.heap.size:=by show (A.heap.modify _ _).size=_;simp
 have O:=(E.block n M z).trans h.cells
 refine⟨⟨⟨H.own.keep fun k g=>J k fun e=>D (by rw[←e];exact g),H.inv,zbs H.tok (J N h.ne.symm),H.few,by rw[K];exact H.base⟩,?_,h.ge⟩,?_⟩
 ·rw[zas O]
  simp
 ·exact (show IS n S w {S with im:=j} A from⟨E.os,E.tape,E.output,E.size,fun k U V _=>E.block k U V,E.sub⟩).set _ _
theorem IM.grow_ep {C:Cx} {N I o n:Nat} {S:Sv} {q:PS} {w W A:World} {j:Rw} {x:Ep} (h:IM C N I o n S q w) (hW:Below w.heap.size w W) (Z:W.grownBy A S.ep.blk) (X:OwnR A o 102 4 j (q.ep.length+1) (q.ep.flatMap epL++epL x)) (L:j.blk=S.ep.blk∨j.blk=some W.heap.size) (Y:q.ep.length+q.la.length<40):
  IM C N I o n {S with ep:=j} {q with ep:=q.ep++[x]} (A.setCell ⟨n,6,none⟩ (.slice j.a (q.ep.length+1) j.cap))∧IS n S w {S with ep:=j} (A.setCell ⟨n,6,none⟩ (.slice j.a (q.ep.length+1) j.cap)):=by
 obtain⟨H,E⟩:=h.mem.grow_ep (x:=x) hW Z X L (Off.refl _ _ _) Y
 have z:=h.free
 have M:=h.lt
 have D: ¬Sv.has {S with ep:=j} n:=fun g=>(E.sub n g).elim z fun g'=>by omega
 have J: ∀k,k≠n→(A.setCell ⟨n,6,none⟩ (.slice j.a (q.ep.length+1) j.cap)).heap[k]? =A.heap[k]?:=fun k J=>Below.heap_setCell A ⟨n,6,none⟩ _ k J
 have K:(A.setCell ⟨n,6,none⟩ (.slice j.a (q.ep.length+1) j.cap)).heap.size=A.heap.size:=by show (A.heap.modify _ _).size=_;simp
 have O:=(E.block n M z).trans h.cells
 refine⟨⟨⟨H.own.keep fun k g=>J k fun e=>D (by rw[←e];exact g),H.inv,zbs H.tok (J N h.ne.symm),H.few,by rw[K];exact H.base⟩,?_,h.ge⟩,?_⟩
 ·rw[zas O]
  simp
 ·exact (show IS n S w {S with ep:=j} A from⟨E.os,E.tape,E.output,E.size,fun k U V _=>E.block k U V,E.sub⟩).set _ _
theorem IM.grow_st {C:Cx} {N I o n:Nat} {S:Sv} {q:PS} {w W A:World} {j:Rw} {x:Sm} (h:IM C N I o n S q w) (hW:Below w.heap.size w W) (Z:W.grownBy A S.st.blk) (X:OwnR A o 106 3 j (q.st.length+1) (q.st.flatMap smL++smL x)) (L:j.blk=S.st.blk∨j.blk=some W.heap.size) (Y:q.st.length<80):
  IM C N I o n {S with st:=j} {q with st:=q.st++[x]} (A.setCell ⟨n,7,none⟩ (.slice j.a (q.st.length+1) j.cap))∧IS n S w {S with st:=j} (A.setCell ⟨n,7,none⟩ (.slice j.a (q.st.length+1) j.cap)):=by
 obtain⟨H,E⟩:=h.mem.grow_st (x:=x) hW Z X L (Off.refl _ _ _) Y
 have z:=h.free
 have M:=h.lt
 have D: ¬Sv.has {S with st:=j} n:=fun g=>(E.sub n g).elim z fun g'=>by omega
 have J: ∀k,k≠n→(A.setCell ⟨n,7,none⟩ (.slice j.a (q.st.length+1) j.cap)).heap[k]? =A.heap[k]?:=fun k J=>Below.heap_setCell A ⟨n,7,none⟩ _ k J
 have K:(A.setCell ⟨n,7,none⟩ (.slice j.a (q.st.length+1) j.cap)).heap.size=A.heap.size:=by show (A.heap.modify _ _).size=_;simp
 have O:=(E.block n M z).trans h.cells
 refine⟨⟨⟨H.own.keep fun k g=>J k fun e=>D (by rw[←e];exact g),H.inv,zbs H.tok (J N h.ne.symm),H.few,by rw[K];exact H.base⟩,?_,h.ge⟩,?_⟩
 ·rw[zas O]
  simp
 ·exact (show IS n S w {S with st:=j} A from⟨E.os,E.tape,E.output,E.size,fun k U V _=>E.block k U V,E.sub⟩).set _ _
theorem IM.grow_la {C:Cx} {N I o n:Nat} {S:Sv} {q:PS} {w W A:World} {j:Rw} {x:Ep} (h:IM C N I o n S q w) (hW:Below w.heap.size w W) (Z:W.grownBy A S.la.blk) (X:OwnR A o 102 4 j (q.la.length+1) (q.la.flatMap epL++epL x)) (L:j.blk=S.la.blk∨j.blk=some W.heap.size) (Y:q.ep.length+q.la.length<40):
  IM C N I o n {S with la:=j} {q with la:=q.la++[x]} (A.setCell ⟨n,9,none⟩ (.slice j.a (q.la.length+1) j.cap))∧IS n S w {S with la:=j} (A.setCell ⟨n,9,none⟩ (.slice j.a (q.la.length+1) j.cap)):=by
 obtain⟨H,E⟩:=h.mem.grow_la (x:=x) hW Z X L (Off.refl _ _ _) Y
 have z:=h.free
 have M:=h.lt
 have D: ¬Sv.has {S with la:=j} n:=fun g=>(E.sub n g).elim z fun g'=>by omega
 have J: ∀k,k≠n→(A.setCell ⟨n,9,none⟩ (.slice j.a (q.la.length+1) j.cap)).heap[k]? =A.heap[k]?:=fun k J=>Below.heap_setCell A ⟨n,9,none⟩ _ k J
 have K:(A.setCell ⟨n,9,none⟩ (.slice j.a (q.la.length+1) j.cap)).heap.size=A.heap.size:=by show (A.heap.modify _ _).size=_;simp
 have O:=(E.block n M z).trans h.cells
 refine⟨⟨⟨H.own.keep fun k g=>J k fun e=>D (by rw[←e];exact g),H.inv,zbs H.tok (J N h.ne.symm),H.few,by rw[K];exact H.base⟩,?_,h.ge⟩,?_⟩
 ·rw[zas O]
  simp
 ·exact (show IS n S w {S with la:=j} A from⟨E.os,E.tape,E.output,E.size,fun k U V _=>E.block k U V,E.sub⟩).set _ _
theorem zk0 (C:Cx) (gt H j n:Nat) (S:Sv) (q:PS) (x:Im) (w:World) (h:IM C gt H j n S q w) (hn:q.im.length<40):
  Calls Tryz.prog 196 #[.pointer (some ⟨n,0,none⟩),imV x] w fun e Y=>e= .returned (.tuple #[])∧∃V,IM C gt H j n V {q with im:=q.im++[x]} Y∧IS n S w V Y:=by
 obtain⟨i0,hi,M,U,L⟩:=info_parts Tryz.infoImp
 have J:=zc h
 have aa:=h.lt
 obtain⟨c0,c1,c2,c3,c4,c5,c6,c7,c8,c9,cf⟩:=zaa h.cells
 have I:=fun A z=>((J.out.mem.own.im.alloc A).drew.alloc z)
 have ab:=h.mem.base
 have E:some n≠S.im.blk:=fun e=>J.out.free (.inr (.inl e.symm))
 have HN:=zc E
 have K: ∀A z,j≤((w.alloc A).alloc z).heap.size:=fun A z=>by rw[zcp];omega
 have N: ∀A z,n<((w.alloc A).alloc z).heap.size:=fun A z=>by rw[zcp];omega
 clear h E
 unfold imV
 go_enter Tryz.func196,Tryz.ntmps196
 go_wp2_with fail
 refine (zdj n q.im.length 40 _ (by omega)).mono ?_
 rintro e w1 ⟨rfl,rfl⟩
 go_wp2_with fail
 go_region_law (first|(refine zeq rfl (.tmp 17) (.tmp 19) 23 rfl j 100 i0 _ 3 48 Tryz.underlying23 hi M U L rfl (by decide) (by decide) S.im q.im.length (q.im.flatMap imL) (by rfl) (by exact I _ _) (w.heap.size+1) (imL x) (by rfl) (by exact zbj w _ _) rfl (zhk x) (by omega) (by exact K _ _) ?_;intro r' w2 X o D;have Z:=(o.block n (by exact N _ _) HN.out).trans (by exact ((J.out.alloc _).alloc _).cells);obtain⟨d0,d1,d2,d3,d4,d5,d6,d7,d8,d9,df⟩:=zaa Z))
 all_goals
  have HR:=zc X
  have HG:=zc o
  have O:=zc D
  clear X o D Z c0 c1 c2 c3 c4 c5 c6 c7 c8 c9 cf
  go_wp2
  go_end0
  obtain⟨m',s'⟩:=J.out.grow_im (zaM w _ _).drew HG.out HR.out O.out hn
  exact⟨rfl,_,m',s'⟩
end Go.Proofs.YticdggnnpjachaaGreat
