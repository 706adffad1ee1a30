/-
  What passSigns of impl's parser answers: the walk.
  'append' of one element onto a row of the call's own,as one step of a region that draws its order. No program is spoken of.
  What spec's readers of one token answer: l4Full,l4Sign,l4Word,l4Reserved,l4Plain,l4Name: the walks.
  What spec's l4Plain and l4Name answer: the walks.
  What spec's l4Add,l4Imp,l4Stmt and l4Exp answer: the walks.
  What addExpr of impl's parser answers where there is room: the walk.
  A row of impl's parser grows by one element; what addImp answers where there is room: the walk.
-/
import Derived.Deep.LoopGhost
import Derived.Test.YtjdddblpfbmpaaaGreatClImplParseCToImplParseD
namespace Go.Proofs.YtjdddblpfbmpaaaGreat
set_option maxRecDepth 100000
set_option maxHeartbeats 3200000
open Go.RowKit Go.PlainAid Go.Sort
def zaH (C:Cx) (s:ByteArray):Nat→Nat→PS→PR
 |0,_,q=>.ok q
 |n+1,k,q=>bd (ze C 4 (s.extract k (k+1)) q) (zaH C s n (k+1))
theorem zhd {C:Cx} {k:Int} {x:ByteArray} {q:PS} (h:isT C q.pos k x=false):ze C k x q= .error (zu C q.pos):=by rw[ze,h];rfl
theorem zcc {C:Cx} {k:Int} {x:ByteArray} {q:PS} (h:isT C q.pos k x=true):ze C k x q= .ok (adv q):=if_pos h
theorem zhe (C:Cx) (N A z L:Nat) (S:Sv) (q:PS) (s:ByteArray) (w:World) (h:IM C N A z L S q w) (hs:s.size≤100):
  Calls Tryz.prog 195 #[.pointer (some ⟨L,0,none⟩),.string s] w (zR C N A z L (zaH C s s.size 0 q) id (fun _=>.tuple #[]) S w):=by
 go_enter Tryz.func195,Tryz.ntmps195
 go_wp2
 go_loopg [7] s.size (fun k i wr=>∃(j:Nat) (I:PS),i= .int .i64 j∧j+k=s.size∧zaH C s k j I=zaH C s s.size 0 q∧IM C N A z L S I wr∧IS L S w S wr)
 case atStart=>exact⟨0,q,rfl,by omega,rfl,h,IS.refl _ _ _⟩
 case round=>
  obtain⟨j,I,rfl,hj,he,HM,t⟩:=hrel
  have O:=zc he
  have HS:=zc t
  clear he t
  match gk,hj,O with
  |0,hj,O=>
   have Y: ¬j<s.size:=by omega
   go_wp2
   go_end0
   rw[←O.out]
   exact⟨rfl,S,HM,HS.out⟩
  |k+1,hj,O=>
   have Y:j<s.size:=by omega
   obtain⟨H,U⟩: ∃H,H=j+1:=⟨_,rfl⟩
   have ej:(j:Int)+1=(H:Int):=by omega
   have ad:H≤s.size:=by omega
   have ae:j≤H:=by omega
   have Z:=zc U
   clear U
   cases X:isT C I.pos 4 (s.extract j H) with
   |true=>
    have HX:Hid (zaH C s k H (adv I)=zaH C s s.size 0 q):=by
     show _=_
     rw[←O.out,zaH,←Z.out,zcc X]
     rfl
    go_wp2_with fail
    refine (zN C N A z L S I 4 (s.extract j H) _ HM (by decide)).mono ?_
    rintro e w1 ⟨rfl,M,V⟩
    rw[X] at M ⊢
    have J:=zc M
    have aa:=HS.out.trans V
    clear M V
    go_wp2
    go_roundg k
    case rel=>exact⟨H,adv I,rfl,by have:=Z.out;omega,HX.out,J.out,aa⟩
    case measure=>omega
   |false=>
    have HX:Hid (zaH C s s.size 0 q= .error (zu C I.pos)):=by
     show _=_
     rw[←O.out,zaH,←Z.out,zhd X]
     rfl
    go_wp2_with fail
    refine (zN C N A z L S I 4 (s.extract j H) _ HM (by decide)).mono ?_
    rintro e w1 ⟨rfl,M,V⟩
    rw[X] at M ⊢
    have J:=zc M
    have HB:=(HS.out.trans V).under h.mem.base h.mem.own h.ge
    clear M V
    go_wp2_with fail
    refine (zez C N A z L S I _ J.out).mono ?_
    rintro e w2 ⟨rfl,ac⟩
    have ab:=HB.trans (ac.mono J.out.mem.base)
    unfold Pan
    go_wp2
    refine⟨rfl,?_⟩
    rw[HX.out]
    exact⟨rfl,ab⟩
theorem zfd {P:Program} {ops:Array Oper} {o:Oper} {a:Act} {W:World} {K:Act→World→Prop} {Q:Exit→Act→World→Prop} {E:Prop} (V:o.guard=none) (s x:Operand) (t:TypeId)
  (ho:o.op= .call {callee:=.builtin .append,args:=#[s,x],argTypes:=#[t,t]})
  (H:Nat) (e:TypeId) (i:TypeInfo) (z:Value) (size w:Nat) (ht:P.underlying t=some (.slice e)) (hi:P.info? e=some i) (hz:i.zero=some z) (J:i.size=size) (Y:i.bytes=w) (Z:z.cells.size=size) (X:0<size) (O:w≤100)
  (r:Rw) (n:Nat) (xs:List Value) (hs:a.eval s= .slice r.a n r.cap) (M:OwnR W H e size r n xs)
  (U:Nat) (A:List Value) (hx:a.eval x= .slice (some ⟨U,0,none⟩) 1 1) (hg:W.heap[U]? =some (.cells A.toArray e (0,0))) (hl:A.length=size) (h1: ∀u∈A,u.oneCell'=true) (hn:n+1≤1000000) (L:H≤W.heap.size)
  (h: ∀N w',OwnR w' H e size N (n+1) (xs++A)→W.grownBy w' r.blk→(N.blk=r.blk∨N.blk=some W.heap.size)→K (a.put o.dst (.slice N.a (n+1) N.cap)) w'):
  if Region.wanted o (yielded ops a.tmps)=true then Oper.wp P o a W K Q else E:=by
 have hw:Region.wanted o (yielded ops a.tmps)=true:=by simp[Region.wanted,V]
 rw[if_pos hw]
 obtain⟨v',w',hr,h2,h3,_,h5⟩:=run_append_own_at (P:=P) W H t o.type e i z size w ht hi hz J Y Z X _ n xs M ⟨U,0,none⟩ 1 1 A (by omega) (by
  intro j u hj
  have e1:(⟨U,0,none⟩:Addr).add j=⟨U,j,none⟩:=by simp[Addr.add];exact fun h=>h.symm
  rw[e1]
  simp[World.cell?,hg,hj]) h1 (by unfold maxLen;omega) (by have:(n+1)*w≤1000000*100:=Nat.mul_le_mul hn O;omega) L
 unfold Oper.wp execOp
 simp only[ho,resolve,invoke,builtin,Sem.run_bind,Sem.run_pure,Result.andThen_ok,List.map_toArray,List.map_cons,List.map_nil,hs,hx,hr]
 rcases h2.2 with ⟨hv,ac⟩|⟨g',I,ab,rfl,aa⟩
 ·omega
 ·refine h ⟨some ⟨g',0,none⟩,I⟩ w' h2 ?_ ?_
  ·rw[←zb3 r n];exact h3
  ·rw[←zb3 r n,←zb3 ⟨some ⟨g',0,none⟩,I⟩ (n+1)];exact h5
def Is (x:PR) (q:PS) (z:Int):Prop:=
 match x with
 | .ok q0=>q=q0∧z= -1
 | .error e=>z=(e:Int)
theorem zab (q:PS):Is (.ok q) q (-1):=⟨rfl,rfl⟩
theorem zaI {x:PR} {q:PS} {z:Int} (h:Is x q z) (j:z<0):x= .ok q∧z= -1:=by
 cases x with
 |ok w=>obtain⟨rfl,rfl⟩:=h;exact⟨rfl,rfl⟩
 |error e=>have:z=(e:Int):=h;omega
theorem zd0 {x:PR} {q:PS} {z:Int} (h:Is x q z) (j: ¬z<0): ∃e,x= .error e∧z=(e:Int):=by
 cases x with
 |ok w=>obtain⟨rfl,rfl⟩:=h;exact absurd (by decide) j
 |error e=>exact⟨e,rfl,h⟩
def Out (C:Cx) (gt cap base:Nat) (y:PR) (d:Nat) (S:Sv) (w:World) (e:Ending) (w':World):Prop:=
 ∃S' q' z',e= .returned (pv C gt cap S' q' z' d)∧Hid (Is y q' z')∧Mem C gt cap base S' q' w'∧Stp S w S' w'
theorem zcB {C:Cx} {z j h:Nat} {y:PR} {d:Nat} {S:Sv} {w w':World} {q':PS} {z':Int} {v:Value} (I:v=pv C z j S q' z' d) (J:Is y q' z') (H:Mem C z j h S q' w) (A:Below w.heap.size w w'):Out C z j h y d S w (.returned v) w':=
 ⟨S,q',z',by rw[I],J,H.later A,Stp.below A⟩
theorem zfe (C:Cx) (J h j:Nat) (S:Sv) (q:PS) (z:Int) (d:Nat) (w:World) (A:Mem C J h j S q w) (V:z<0) (U:1≤q.pos):
  Calls Tryz.prog 152 #[pv C J h S q z d] w fun e w'=>e= .returned (pv C J h S q (zu C (q.pos-1)) d)∧Below w.heap.size w w':=by
 obtain⟨p,I⟩: ∃p,q.pos=p+1:=⟨q.pos-1,by omega⟩
 have H:p<C.ts.length:=by have:=A.inv.pos;omega
 have M:=A.few
 obtain⟨_,_,_,O⟩:=A.tok.cells H (d:=⟨0,sNone,0,C.fin⟩)
 have L:=(zau A.tok).1
 change _=some (Value.int .i64 (zu C p)) at O
 rw[show q.pos-1=p from by omega]
 have N:(q.pos:Int)-1=p:=by omega
 clear I
 unfold pv
 go_enter Tryz.func152,Tryz.ntmps152
 go_wp2
 refine bodyPost_ret (results_cell_row rfl _ _ (w.heap.size+1) 122 _ (0,0) _ rfl (new2 w _ _) Tryz.underlying122 rfl (by kernel_rfl)) rfl ?_
 exact⟨rfl,zba w _ _⟩
theorem zai (C:Cx) (N j h:Nat) (x:PR) (S:Sv) (q:PS) (z:Int) (d:Nat) (s:ByteArray) (w:World) (hx:Is x q z) (hm:Mem C N j h S q w):
  Calls Tryz.prog 110 #[pv C N j S q z d,.string s] w (Out C N j h (bd x (ze C 4 s)) d S w):=by
 have HM:=zc hm
 have A:=hm.tok
 have I:=hm.few
 have HX:=zc hx
 clear hx hm
 cases H:(decide (z<0)&&isT C q.pos 4 s) with
 |true=>
  have ab:q.pos<C.ts.length:=by rw[Bool.and_eq_true] at H;exact za9 H.2 (by decide)
  have HY:Hid (Is (bd x (ze C 4 s)) (adv q) z):=by
   rw[Bool.and_eq_true,decide_eq_true_eq] at H
   obtain⟨V,h2⟩:=zaI HX.out H.1
   show Is (bd x (ze C 4 s)) (adv q) z
   rw[V,zB,ze,if_pos H.2]
   exact⟨rfl,h2⟩
  unfold pv
  go_enter Tryz.func110,Tryz.ntmps110
  go_wp2_with fail
  refine (zl C N j h S q z d 4 s _ (zt (zt A _) _) I (by decide)).mono ?_
  rintro e w1 ⟨rfl,J⟩
  rw[H]
  obtain⟨g1,M⟩:=zcL J
  obtain⟨a0,a1,a2,a3,a4,a5,a6,a7,a8,a9,X,Z,af⟩:=zaq g1
  obtain⟨b0,b1,b2,b3,b4,b5,b6,b7,b8,b9,U,O,bf⟩:=zaq M
  have G2:=zc M
  clear g1 M H
  go_wp2
  refine bodyPost_ret (results_cell_row rfl _ _ (w.heap.size+1) 122 _ (0,0) _ rfl (zaZ ((zx (by omega)).trans G2.out)) Tryz.underlying122 rfl (by kernel_rfl)) rfl ?_
  exact zcB rfl HY.out (HM.out.adv ab) (zbW ((zbh J).setCell (Nat.le_refl _) _) (Nat.le_succ _) ..)
 |false=>
  have HY:Hid (Is (bd x (ze C 4 s)) q (zb5 C q.pos z)):=by
   show Is (bd x (ze C 4 s)) q (zb5 C q.pos z)
   unfold zb5
   by_cases Y:z<0
   ·obtain⟨V,h2⟩:=zaI HX.out Y
    simp only[Y,decide_true,Bool.true_and] at H
    rw[V,zB,ze,H,if_pos Y]
    rfl
   ·obtain⟨e,V,h2⟩:=zd0 HX.out Y
    rw[V,zer,if_neg Y]
    exact h2
  unfold pv
  go_enter Tryz.func110,Tryz.ntmps110
  go_wp2_with fail
  refine (zl C N j h S q z d 4 s _ (zt (zt A _) _) I (by decide)).mono ?_
  rintro e w1 ⟨rfl,J⟩
  rw[H]
  obtain⟨g1,M⟩:=zcL J
  obtain⟨a0,a1,a2,a3,a4,a5,a6,a7,a8,a9,X,Z,af⟩:=zaq g1
  obtain⟨b0,b1,b2,b3,b4,b5,b6,b7,b8,b9,U,O,bf⟩:=zaq M
  have G2:=zc M
  have L:=zcu A (zbh J)
  clear g1 M H
  go_wp2_with fail
  refine (zdy C N j h S q z d _ L I).mono ?_
  rintro e w2 ⟨rfl,aa⟩
  have G3:Hid (_=_):=(aa.block _ (Nat.lt_of_lt_of_le (by simp) J.size)).trans G2.out
  obtain⟨c0,c1,c2,c3,c4,c5,c6,c7,c8,c9,ae,ad,cf⟩:=zaq G3.out
  have ac:=(zbh J).trans (aa.mono (zbh J).size)
  clear a0 a1 a2 a3 a4 a5 a6 a7 a8 a9 X Z b0 b1 b2 b3 b4 b5 b6 b7 b8 b9 U O af bf
  unfold pv
  go_wp2
  refine bodyPost_ret (results_cell_row rfl _ _ (w.heap.size+1) 122 _ (0,0) _ rfl (zaZ G3.out) Tryz.underlying122 rfl (by kernel_rfl)) rfl ?_
  exact zcB rfl HY.out HM.out (zbW ac (Nat.le_succ _) ..)
-- GEN
theorem zaO (C:Cx) (N j h:Nat) (x:PR) (S:Sv) (q:PS) (z:Int) (d:Nat) (s:ByteArray) (w:World) (hx:Is x q z) (hm:Mem C N j h S q w):
  Calls Tryz.prog 112 #[pv C N j S q z d,.string s] w (Out C N j h (bd x (ze C 1 s)) d S w):=by
 have HM:=zc hm
 have A:=hm.tok
 have I:=hm.few
 have HX:=zc hx
 clear hx hm
 cases H:(decide (z<0)&&isT C q.pos 1 s) with
 |true=>
  have ab:q.pos<C.ts.length:=by rw[Bool.and_eq_true] at H;exact za9 H.2 (by decide)
  have HY:Hid (Is (bd x (ze C 1 s)) (adv q) z):=by
   rw[Bool.and_eq_true,decide_eq_true_eq] at H
   obtain⟨V,h2⟩:=zaI HX.out H.1
   show Is (bd x (ze C 1 s)) (adv q) z
   rw[V,zB,ze,if_pos H.2]
   exact⟨rfl,h2⟩
  unfold pv
  go_enter Tryz.func112,Tryz.ntmps112
  go_wp2_with fail
  refine (zl C N j h S q z d 1 s _ (zt (zt A _) _) I (by decide)).mono ?_
  rintro e w1 ⟨rfl,J⟩
  rw[H]
  obtain⟨g1,M⟩:=zcL J
  obtain⟨a0,a1,a2,a3,a4,a5,a6,a7,a8,a9,X,Z,af⟩:=zaq g1
  obtain⟨b0,b1,b2,b3,b4,b5,b6,b7,b8,b9,U,O,bf⟩:=zaq M
  have G2:=zc M
  clear g1 M H
  go_wp2
  refine bodyPost_ret (results_cell_row rfl _ _ (w.heap.size+1) 122 _ (0,0) _ rfl (zaZ ((zx (by omega)).trans G2.out)) Tryz.underlying122 rfl (by kernel_rfl)) rfl ?_
  exact zcB rfl HY.out (HM.out.adv ab) (zbW ((zbh J).setCell (Nat.le_refl _) _) (Nat.le_succ _) ..)
 |false=>
  have HY:Hid (Is (bd x (ze C 1 s)) q (zb5 C q.pos z)):=by
   show Is (bd x (ze C 1 s)) q (zb5 C q.pos z)
   unfold zb5
   by_cases Y:z<0
   ·obtain⟨V,h2⟩:=zaI HX.out Y
    simp only[Y,decide_true,Bool.true_and] at H
    rw[V,zB,ze,H,if_pos Y]
    rfl
   ·obtain⟨e,V,h2⟩:=zd0 HX.out Y
    rw[V,zer,if_neg Y]
    exact h2
  unfold pv
  go_enter Tryz.func112,Tryz.ntmps112
  go_wp2_with fail
  refine (zl C N j h S q z d 1 s _ (zt (zt A _) _) I (by decide)).mono ?_
  rintro e w1 ⟨rfl,J⟩
  rw[H]
  obtain⟨g1,M⟩:=zcL J
  obtain⟨a0,a1,a2,a3,a4,a5,a6,a7,a8,a9,X,Z,af⟩:=zaq g1
  obtain⟨b0,b1,b2,b3,b4,b5,b6,b7,b8,b9,U,O,bf⟩:=zaq M
  have G2:=zc M
  have L:=zcu A (zbh J)
  clear g1 M H
  go_wp2_with fail
  refine (zdy C N j h S q z d _ L I).mono ?_
  rintro e w2 ⟨rfl,aa⟩
  have G3:Hid (_=_):=(aa.block _ (Nat.lt_of_lt_of_le (by simp) J.size)).trans G2.out
  obtain⟨c0,c1,c2,c3,c4,c5,c6,c7,c8,c9,ae,ad,cf⟩:=zaq G3.out
  have ac:=(zbh J).trans (aa.mono (zbh J).size)
  clear a0 a1 a2 a3 a4 a5 a6 a7 a8 a9 X Z b0 b1 b2 b3 b4 b5 b6 b7 b8 b9 U O af bf
  unfold pv
  go_wp2
  refine bodyPost_ret (results_cell_row rfl _ _ (w.heap.size+1) 122 _ (0,0) _ rfl (zaZ G3.out) Tryz.underlying122 rfl (by kernel_rfl)) rfl ?_
  exact zcB rfl HY.out HM.out (zbW ac (Nat.le_succ _) ..)
theorem zdQ (s:ByteArray) (h:Bool) (w:World):
  Calls Tryz.prog 180 #[.string s,.bool h] w fun e w'=>e= .returned (.bool (zw s h))∧w'=w:=by
 cases z:(s.toList==[105,109,112,111,114,116]) with
 |true=>
  have j:Hid (zw s h=true):=by show zw s h=true;simp[zw,z]
  go_enter Tryz.func180,Tryz.ntmps180
  go_wp2
  go_ret
  exact⟨zk j.out.symm,rfl⟩
 |false=>
  cases A:(s.toList==[101,120,112,111,114,116]) with
  |true=>
   have j:Hid (zw s h=true):=by show zw s h=true;simp[zw,z,A]
   go_enter Tryz.func180,Tryz.ntmps180
   go_wp2
   go_ret
   exact⟨zk j.out.symm,rfl⟩
  |false=>
   cases H:(s.toList==[100,101,102,97,117,108,116]) with
   |true=>
    have j:Hid (zw s h=true):=by show zw s h=true;simp[zw,z,A,H]
    go_enter Tryz.func180,Tryz.ntmps180
    go_wp2
    go_ret
    exact⟨zk j.out.symm,rfl⟩
   |false=>
    cases I:(s.toList==[108,101,116]) with
    |true=>
     have j:Hid (zw s h=true):=by show zw s h=true;simp[zw,z,A,H,I]
     go_enter Tryz.func180,Tryz.ntmps180
     go_wp2
     go_ret
     exact⟨zk j.out.symm,rfl⟩
    |false=>
     cases J:(s.toList==[102,117,110,99,116,105,111,110]) with
     |true=>
      have j:Hid (zw s h=true):=by show zw s h=true;simp[zw,z,A,H,I,J]
      go_enter Tryz.func180,Tryz.ntmps180
      go_wp2
      go_ret
      exact⟨zk j.out.symm,rfl⟩
     |false=>
      cases L:(s.toList==[114,101,116,117,114,110]) with
      |true=>
       have j:Hid (zw s h=true):=by show zw s h=true;simp[zw,z,A,H,I,J,L]
       go_enter Tryz.func180,Tryz.ntmps180
       go_wp2
       go_ret
       exact⟨zk j.out.symm,rfl⟩
      |false=>
       cases M:(s.toList==[112,114,105,110,116]) with
       |true=>
        have j:Hid (zw s h=true):=by show zw s h=true;simp[zw,z,A,H,I,J,L,M]
        go_enter Tryz.func180,Tryz.ntmps180
        go_wp2
        go_ret
        exact⟨zk j.out.symm,rfl⟩
       |false=>
        cases N:(s.toList==[116,104,114,111,119]) with
        |true=>
         have j:Hid (zw s h=true):=by show zw s h=true;simp[zw,z,A,H,I,J,L,M,N]
         go_enter Tryz.func180,Tryz.ntmps180
         go_wp2
         go_ret
         exact⟨zk j.out.symm,rfl⟩
        |false=>
         cases O:(s.toList==[102,97,105,108]) with
         |true=>
          have j:Hid (zw s h=h):=by show zw s h=h;simp[zw,z,A,H,I,J,L,M,N,O]
          go_enter Tryz.func180,Tryz.ntmps180
          go_wp2
          go_ret
          exact⟨zk j.out.symm,rfl⟩
         |false=>
          cases U:(s.toList==[117,110,100,101,102]) with
          |true=>
           have j:Hid (zw s h=h):=by show zw s h=h;simp[zw,z,A,H,I,J,L,M,N,O,U]
           go_enter Tryz.func180,Tryz.ntmps180
           go_wp2
           go_ret
           exact⟨zk j.out.symm,rfl⟩
          |false=>
           have j:Hid (zw s h=false):=by show zw s h=false;simp[zw,z,A,H,I,J,L,M,N,O,U]
           go_enter Tryz.func180,Tryz.ntmps180
           go_wp2
           go_ret
           exact⟨zk j.out.symm,rfl⟩
theorem zmF {C:Cx} {i:Nat} {o:Bool} (h:((zf C i).kind==1)=false):zF C i o=false:=by rw[zF,h];rfl
theorem zhf {C:Cx} {i:Nat} {o:Bool} (h: ¬i<C.ts.length):zF C i o=false:=by
 rw[Bool.eq_false_iff]
 exact fun g=>h (zeQ g)
theorem zfQ (C:Cx) (Z I J:Nat) (S:Sv) (q:PS) (z:Int) (d:Nat) (o:Bool) (w:World) (Y:OwnT w J 143 Z C.ts.length I C.ts) (_:C.ts.length≤4000):
  Calls Tryz.prog 147 #[pv C Z I S q z d,.bool o] w fun e w'=>e= .returned (.bool (decide (z<0)&&zF C q.pos o))∧Below w.heap.size w w':=by
 unfold pv
 by_cases hz:z<0
 ·have A:decide (z<0)=true:=decide_eq_true hz
  have M:decide (0≤z)=false:=decide_eq_false (by omega)
  by_cases O:q.pos<C.ts.length
  ·obtain⟨V,c1,_,_⟩:=Y.cells O (d:=⟨0,sNone,0,C.fin⟩)
   have X:=(zau Y).1
   change _=some (Value.int .i64 (zf C q.pos).kind) at V
   change _=some (Value.string (zf C q.pos).text) at c1
   generalize h:zf C q.pos=t at V c1
   cases H:(t.kind==1) with
   |true=>
    have N:(t.kind !=1)=false:=by rw[bne,H];rfl
    cases L:zw t.text C.scr with
    |false=>
     have j:Hid (zF C q.pos o=true):=by show zF C q.pos o=true;simp only[zF,h,H,L,Bool.not_false,Bool.true_or,Bool.and_self]
     clear h
     go_enter Tryz.func147,Tryz.ntmps147
     go_wp2_with (first|(go_at_call 180;refine (zdQ _ _ _).mono ?_;rintro e w' ⟨rfl,rfl⟩))
     go_ret
     exact⟨zk (by first|(rw[A,j.out];rfl)|rfl),(Below.refl _ _).alloc (Nat.le_refl _) _⟩
    |true=>
     cases o with
     |true=>
      cases U:(t.text.toList==[100,101,102,97,117,108,116]) with
      |true=>
       have j:Hid (zF C q.pos true=true):=by show zF C q.pos true=true;simp only[zF,h,H,L,U,Bool.not_true,Bool.and_self,Bool.false_or]
       clear h
       go_enter Tryz.func147,Tryz.ntmps147
       go_wp2_with (first|(go_at_call 180;refine (zdQ _ _ _).mono ?_;rintro e w' ⟨rfl,rfl⟩))
       go_ret
       exact⟨zk (by first|(rw[A,j.out];rfl)|rfl),(Below.refl _ _).alloc (Nat.le_refl _) _⟩
      |false=>
       have j:Hid (zF C q.pos true=false):=by show zF C q.pos true=false;simp only[zF,h,H,L,U,Bool.not_true,Bool.true_and,Bool.or_self]
       clear h
       go_enter Tryz.func147,Tryz.ntmps147
       go_wp2_with (first|(go_at_call 180;refine (zdQ _ _ _).mono ?_;rintro e w' ⟨rfl,rfl⟩))
       go_ret
       exact⟨zk (by first|(rw[A,j.out];rfl)|rfl),(Below.refl _ _).alloc (Nat.le_refl _) _⟩
     |false=>
      have j:Hid (zF C q.pos false=false):=by show zF C q.pos false=false;simp only[zF,h,H,L,Bool.not_true,Bool.false_and,Bool.or_self,Bool.and_false]
      clear h
      go_enter Tryz.func147,Tryz.ntmps147
      go_wp2_with (first|(go_at_call 180;refine (zdQ _ _ _).mono ?_;rintro e w' ⟨rfl,rfl⟩))
      go_ret
      exact⟨zk (by first|(rw[A,j.out];rfl)|rfl),(Below.refl _ _).alloc (Nat.le_refl _) _⟩
   |false=>
    have N:(t.kind !=1)=true:=by rw[bne,H];rfl
    have j:Hid (zF C q.pos o=false):=zmF (by rw[h];exact H)
    clear h
    go_enter Tryz.func147,Tryz.ntmps147
    go_wp2_with (first|(go_at_call 180;refine (zdQ _ _ _).mono ?_;rintro e w' ⟨rfl,rfl⟩))
    go_ret
    exact⟨zk (by first|(rw[A,j.out];rfl)|rfl),(Below.refl _ _).alloc (Nat.le_refl _) _⟩
  ·have j:Hid (zF C q.pos o=false):=zhf O
   go_enter Tryz.func147,Tryz.ntmps147
   go_wp2_with (first|(go_at_call 180;refine (zdQ _ _ _).mono ?_;rintro e w' ⟨rfl,rfl⟩))
   go_ret
   exact⟨zk (by first|(rw[A,j.out];rfl)|rfl),(Below.refl _ _).alloc (Nat.le_refl _) _⟩
 ·have A:decide (z<0)=false:=decide_eq_false hz
  have M:decide (0≤z)=true:=decide_eq_true (by omega)
  have j:Hid (zF C q.pos o=zF C q.pos o):=rfl
  go_enter Tryz.func147,Tryz.ntmps147
  go_wp2_with (first|(go_at_call 180;refine (zdQ _ _ _).mono ?_;rintro e w' ⟨rfl,rfl⟩))
  go_ret
  exact⟨zk (by first|(rw[A,j.out];rfl)|rfl),(Below.refl _ _).alloc (Nat.le_refl _) _⟩
def Is2 (y:Except Nat (PS×ByteArray)) (q:PS) (z:Int) (n:ByteArray):Prop:=
 match y with
 | .ok a=>q=a.1∧z= -1∧n=a.2
 | .error e=>z=(e:Int)
theorem Is2.fst {y:Except Nat (PS×ByteArray)} {q:PS} {z:Int} {n:ByteArray} (h:Is2 y q z n):Is (zaS y) q z:=by
 cases y with
 |ok a=>exact⟨h.1,h.2.1⟩
 |error e=>exact h
theorem Is2.bind {y:Except Nat (PS×ByteArray)} {q:PS} {z:Int} {n:ByteArray} (h:Is2 y q z n) {β:Type} (F:PS→ByteArray→Except Nat β):bd (zaS y) (fun q=>F q n)=bd y fun a=>F a.1 a.2:=by
 cases y with
 |ok a=>obtain⟨_,_,rfl⟩:=h;rfl
 |error e=>rfl
def zdA (C:Cx) (gt cap base:Nat) (y:Except Nat (PS×ByteArray)) (d:Nat) (S:Sv) (w:World) (e:Ending) (w':World):Prop:=
 ∃S' q' z' n',e= .returned (.tuple #[pv C gt cap S' q' z' d,.string n'])∧Hid (Is2 y q' z' n')∧Mem C gt cap base S' q' w'∧Stp S w S' w'
theorem zdR {C:Cx} {A j h:Nat} {y:Except Nat (PS×ByteArray)} {d:Nat} {S:Sv} {w w':World} {q':PS} {z':Int} {z:ByteArray} {v:Value} (J:v=pv C A j S q' z' d) (L:Is2 y q' z' z) (I:Mem C A j h S q' w) (H:Below w.heap.size w w'):zdA C A j h y d S w (.returned (.tuple #[v,.string z])) w':=
 ⟨S,q',z',z,by rw[J],L,I.later H,Stp.below H⟩
theorem zbm (C:Cx) (N H h:Nat) (x:PR) (S:Sv) (q:PS) (z:Int) (d:Nat) (o:Bool) (w:World) (hx:Is x q z) (hm:Mem C N H h S q w):
  Calls Tryz.prog 114 #[pv C N H S q z d,.bool o] w (zdA C N H h (bd x (zo C o)) d S w):=by
 have HM:=zc hm
 have A:=hm.tok
 have J:=hm.few
 have HX:=zc hx
 clear hx hm
 cases I:(decide (z<0)&&zF C q.pos o) with
 |true=>
  have O:q.pos<C.ts.length:=by rw[Bool.and_eq_true] at I;exact zeQ I.2
  have HY:Hid (Is2 (bd x (zo C o)) (adv q) z (zf C q.pos).text):=by
   rw[Bool.and_eq_true,decide_eq_true_eq] at I
   obtain⟨U,h2⟩:=zaI HX.out I.1
   show Is2 (bd x (zo C o)) (adv q) z (zf C q.pos).text
   rw[U,zB,zo,if_pos I.2]
   exact⟨rfl,h2,rfl⟩
  unfold pv
  go_enter Tryz.func114,Tryz.ntmps114
  go_wp2_with fail
  refine (zfQ C N H h S q z d o _ (zt (zt A _) _) J).mono ?_
  rintro e w1 ⟨rfl,L⟩
  rw[I]
  obtain⟨Z,M⟩:=zcL L
  obtain⟨a0,a1,a2,a3,a4,a5,a6,a7,a8,a9,V,Y,af⟩:=zaq Z
  obtain⟨b0,b1,b2,b3,b4,b5,b6,b7,b8,b9,ad,ac,bf⟩:=zaq M
  have j:=zcu A (zbh L)
  obtain⟨_,c1,_,_⟩:=j.cells O (d:=⟨0,sNone,0,C.fin⟩)
  change _=some (Value.string (zf C q.pos).text) at c1
  have G2:=zc M
  clear Z M I
  go_wp2
  refine bodyPost_ret (zar rfl _ _ (w.heap.size+1) 122 _ (0,0) _ rfl (zaZ ((zx (by omega)).trans G2.out)) Tryz.underlying122 rfl (by kernel_rfl)) rfl ?_
  exact zdR rfl HY.out (HM.out.adv O) (zbW ((zbh L).setCell (Nat.le_refl _) _) (Nat.le_succ _) ..)
 |false=>
  have HY:Hid (Is2 (bd x (zo C o)) q (zb5 C q.pos z) sNone):=by
   show Is2 (bd x (zo C o)) q (zb5 C q.pos z) sNone
   unfold zb5
   by_cases X:z<0
   ·obtain⟨U,h2⟩:=zaI HX.out X
    simp only[X,decide_true,Bool.true_and] at I
    rw[U,zB,zo,I,if_pos X]
    rfl
   ·obtain⟨e,U,h2⟩:=zd0 HX.out X
    rw[U,zer,if_neg X]
    exact h2
  unfold pv
  go_enter Tryz.func114,Tryz.ntmps114
  go_wp2_with fail
  refine (zfQ C N H h S q z d o _ (zt (zt A _) _) J).mono ?_
  rintro e w1 ⟨rfl,L⟩
  rw[I]
  obtain⟨Z,M⟩:=zcL L
  obtain⟨a0,a1,a2,a3,a4,a5,a6,a7,a8,a9,V,Y,af⟩:=zaq Z
  have G2:=zc M
  have j:=zcu A (zbh L)
  clear Z M I
  go_wp2_with fail
  refine (zdy C N H h S q z d _ j J).mono ?_
  rintro e w2 ⟨rfl,aa⟩
  have G3:Hid (_=_):=(aa.block _ (Nat.lt_of_lt_of_le (by simp) L.size)).trans G2.out
  obtain⟨c0,c1,c2,c3,c4,c5,c6,c7,c8,c9,ag,ae,cf⟩:=zaq G3.out
  have ab:=(zbh L).trans (aa.mono (zbh L).size)
  clear a0 a1 a2 a3 a4 a5 a6 a7 a8 a9 V Y af
  unfold pv
  go_wp2
  refine bodyPost_ret (zar rfl _ _ (w.heap.size+1) 122 _ (0,0) _ rfl (zaZ G3.out) Tryz.underlying122 rfl (by kernel_rfl)) rfl ?_
  exact zdR rfl HY.out HM.out (zbW ab (Nat.le_succ _) ..)
theorem Tryz.infoImp:(Tryz.prog.info? 84).map (fun i=>(i.zero,i.size,i.bytes))=some (some (.agg #[.string {data:=#[]},.string {data:=#[]},.string {data:=#[]}]),3,48):=by kernel_rfl
theorem Tryz.infoExp:(Tryz.prog.info? 86).map (fun i=>(i.zero,i.size,i.bytes))=some (some (.agg #[.int .i64 0,.string {data:=#[]},.string {data:=#[]},.string {data:=#[]}]),4,56):=by kernel_rfl
theorem Tryz.infoStmt:(Tryz.prog.info? 107).map (fun i=>(i.zero,i.size,i.bytes))=some (some (.agg #[.int .i64 0,.string {data:=#[]},.int .i64 0]),3,32):=by kernel_rfl
theorem Tryz.infoExpr:(Tryz.prog.info? 109).map (fun i=>(i.zero,i.size,i.bytes))=some (some (.agg #[.int .i64 0,.int .i64 0,.string {data:=#[]},.string {data:=#[]},.int .i64 0,.int .i64 0]),6,64):=by kernel_rfl
def imV (x:Im):Value:=.agg #[.string x.spec,.string x.first,.string x.loc]
def epV (x:Ep):Value:=.agg #[.int .i64 x.kind,.string x.name,.string x.loc,.string x.spec]
def exV (x:Ex):Value:=.agg #[.int .i64 x.kind,.int .i64 x.num,.string x.name,.string x.field,.int .i64 x.l,.int .i64 x.r]
theorem zdb (w:World) (a b c:Obj):Below w.heap.size w (((w.alloc a).alloc b).alloc c):=(zba w a b).alloc (zba w a b).size c
theorem zfR (w:World) (a b c d:Obj):Below w.heap.size w ((((w.alloc a).alloc b).alloc c).alloc d):=(zdb w a b c).alloc (zdb w a b c).size d
theorem zcN (w:World) (a b:Obj):((w.alloc a).alloc b).heap.size=w.heap.size+1+1:=by rw[zn,zn]
theorem zaf (w:World) (a b c:Obj):(((w.alloc a).alloc b).alloc c).heap.size=w.heap.size+1+1+1:=by rw[zn,zcN]
theorem zaB (w:World) (a b c d:Obj):((((w.alloc a).alloc b).alloc c).alloc d).heap.size=w.heap.size+1+1+1+1:=by rw[zn,zaf]
theorem new3 (w:World) (a b c:Obj):(((w.alloc a).alloc b).alloc c).heap[w.heap.size]? =some a∧(((w.alloc a).alloc b).alloc c).heap[w.heap.size+1]? =some b∧(((w.alloc a).alloc b).alloc c).heap[w.heap.size+1+1]? =some c:=by
 refine⟨?_,?_,?_⟩
 ·rw[Below.heap_alloc _ _ _ (by rw[zcN];omega),Below.heap_alloc _ _ _ (by rw[zn];omega)]
  exact heap_alloc_new w a
 ·rw[Below.heap_alloc _ _ _ (by rw[zcN];omega)]
  exact new2 w a b
 ·rw[←zcN w a b]
  exact heap_alloc_new _ c
theorem zcd (w:World) (a b c d:Obj):((((w.alloc a).alloc b).alloc c).alloc d).heap[w.heap.size]? =some a∧((((w.alloc a).alloc b).alloc c).alloc d).heap[w.heap.size+1]? =some b∧((((w.alloc a).alloc b).alloc c).alloc d).heap[w.heap.size+1+1]? =some c∧((((w.alloc a).alloc b).alloc c).alloc d).heap[w.heap.size+1+1+1]? =some d:=by
 obtain⟨h,j,z⟩:=new3 w a b c
 refine⟨?_,?_,?_,?_⟩
 ·rw[Below.heap_alloc _ _ _ (by rw[zaf];omega)]
  exact h
 ·rw[Below.heap_alloc _ _ _ (by rw[zaf];omega)]
  exact j
 ·rw[Below.heap_alloc _ _ _ (by rw[zaf];omega)]
  exact z
 ·rw[←zaf w a b c]
  exact heap_alloc_new _ d
theorem zhg {w h:World} {a b c:Obj} (j:Below (((w.alloc a).alloc b).alloc c).heap.size (((w.alloc a).alloc b).alloc c) h):Below w.heap.size w h:=(zdb w a b c).trans (j.mono (zdb w a b c).size)
theorem zfS {C:Cx} {x:PR} {q:PS} {z:Int} {f:PS→PR} (j:Is x q z) (w:z<0) (h:f q= .error (zu C (q.pos-1))):Is (bd x f) q (zu C (q.pos-1)):=by
 obtain⟨rfl,_⟩:=zaI j w
 rw[zB,h]
 rfl
theorem zfT {x:PR} {q:PS} {z:Int} {f:PS→PR} (j:Is x q z) (w: ¬z<0):Is (bd x f) q z:=by
 obtain⟨e,rfl,h⟩:=zd0 j w
 exact h
theorem zff {x:PR} {q q':PS} {z:Int} {f:PS→PR} (w:Is x q z) (A:z<0) (j:f q= .ok q'):Is (bd x f) q' z:=by
 obtain⟨rfl,h⟩:=zaI w A
 rw[zB,j]
 exact⟨rfl,h⟩
theorem zdS {w W:World} {h:Nat} {S:Sv} {q:PS} (j:Own w h S q) (_:w.heap.size≤W.heap.size) {r:Option Nat} (z: ∀k,r=some k→S.has k) (b:Nat) (A:w.heap.size≤b):some b≠r:=fun e=>by have:=(j.has (z b e.symm)).2;omega
theorem zdc (C:Cx) (X j h:Nat) (x:PR) (S:Sv) (q:PS) (z:Int) (d:Nat) (y:Ex) (w:World) (hx:Is x q z) (N:Mem C X j h S q w) (Y:z<0→1≤q.pos):
  Calls Tryz.prog 151 #[pv C X j S q z d,exV y] w (Out C X j h (bd x (zQ C y)) d S w):=by
 obtain⟨i0,hi,aa,ad,ac⟩:=info_parts Tryz.infoExpr
 have I:=zc N
 have HX:=zc hx
 have ae:q.ex.length≤300:=by have:=N.inv.ex;omega
 clear hx
 by_cases L:z<0
 ·have dz:decide (0≤z)=false:=decide_eq_false (by omega)
  by_cases hn:300≤q.ex.length
  ·have O:Hid (Is (bd x (zQ C y)) q (zu C (q.pos-1))):=zfS HX.out L (if_pos hn)
   have qn:decide ((300:Int)≤(q.ex.length:Int))=true:=decide_eq_true (by omega)
   have M:=Y L
   clear Y N
   unfold pv exV
   go_enter Tryz.func151,Tryz.ntmps151
   go_wp2_with fail
   refine (zfe C X j h S q z d _ (((I.out.alloc _).alloc _).alloc _) L M).mono ?_
   rintro e w2 ⟨rfl,J⟩
   have Z:Below w.heap.size w w2:=zhg J
   have G3:Hid (_=_):=(J.block (w.heap.size+1+1) (by rw[zaf];omega)).trans ((new3 w _ _ _).2.2)
   obtain⟨c0,c1,c2,c3,c4,c5,c6,c7,c8,c9,ah,al,cf⟩:=zaq G3.out
   clear J
   unfold pv
   go_wp2
   refine bodyPost_ret (results_cell_row rfl _ _ (w.heap.size+1+1) 122 _ (0,0) _ rfl (zaZ G3.out) Tryz.underlying122 rfl (by kernel_rfl)) rfl ?_
   exact zcB rfl O.out I.out (zbW Z (by omega) ..)
  ·have qn:decide ((300:Int)≤(q.ex.length:Int))=false:=decide_eq_false (by omega)
   have O:Hid (Is (bd x (zQ C y)) {q with ex:=q.ex++[y]} z):=zff HX.out L (if_neg hn)
   have A:=fun o1 o2 o3 o4=>((((I.out.own.ex.alloc o1).alloc o2).alloc o3).alloc o4)
   clear Y N
   unfold pv exV
   go_enter Tryz.func151,Tryz.ntmps151
   go_wp2_with (at_builtin;refine zcv _ rfl _ _ 34 rfl h 109 i0 _ 6 64 Tryz.underlying34 hi aa ad ac rfl (by decide) (by decide) S.ex q.ex.length _ (by rfl) (A ..) (w.heap.size+1+1+1) (exL y) (by rfl) (by first|exact (zcd w ..).2.2.2|exact (new3 w _ _ _).2.2) rfl (by intro u hu;simp[exL] at hu;rcases hu with rfl|rfl|rfl|rfl|rfl|rfl<;>rfl) (by omega) (by have:=I.out.base;(first|rw[zaB]|rw[zaf]);omega) ?_)
   intro r' w2 hr V U
   have HR:=zc hr
   have HG:=zc V
   have ab:=zc U
   have H:=fun b hb=>zdS (W:=w) I.out.own (Nat.le_refl _) (r:=S.ex.blk) (fun k e=>.inr (.inr (.inr (.inr (.inl e))))) b hb
   have g1:=(V.block w.heap.size (by (first|rw[zaB]|rw[zaf]);omega) (H _ (Nat.le_refl _))).trans (by first|exact (zcd w ..).1|exact (new3 w _ _ _).1)
   have g2:=(V.block (w.heap.size+1+1) (by (first|rw[zaB]|rw[zaf]);omega) (H _ (by omega))).trans (by first|exact (zcd w ..).2.2.1|exact (new3 w _ _ _).2.1)
   obtain⟨a0,a1,a2,a3,a4,a5,a6,a7,a8,a9,ag,aj,af⟩:=zaq g1
   obtain⟨b0,b1,b2,b3,b4,b5,b6,b7,b8,b9,ak,ai,bf⟩:=zaq g2
   have G2:=zc g2
   clear g1 g2 V hr U H A
   go_wp2
   refine bodyPost_ret (results_cell_row rfl _ _ (w.heap.size+1+1) 122 _ (0,0) _ rfl (zaZ ((zx (by omega)).trans G2.out)) Tryz.underlying122 rfl (by kernel_rfl)) rfl ?_
   obtain⟨m',s'⟩:=I.out.grow_ex (x:=y) (zfR w ..) HG.out HR.out (by (first|rw[zaB]|rw[zaf]);exact ab.out) (((Off.refl _ _ _).set (b:=w.heap.size) (Nat.le_refl _) (by (first|rw[zaB]|rw[zaf]);omega) _ _).set12 (b:=w.heap.size+1+1) (by omega) (by (first|rw[zaB]|rw[zaf]);omega) ..) (by omega)
   exact⟨_,{q with ex:=q.ex++[y]},z,by simp[pv],O.out,m',s'⟩
 ·have dz:decide (0≤z)=true:=decide_eq_true (by omega)
  have O:Hid (Is (bd x (zQ C y)) q z):=zfT HX.out L
  clear Y N
  unfold pv exV
  go_enter Tryz.func151,Tryz.ntmps151
  go_wp2
  refine bodyPost_ret (results_cell_row rfl _ _ (w.heap.size+1+1) 122 _ (0,0) _ rfl ((new3 w _ _ _).2.2) Tryz.underlying122 rfl (by kernel_rfl)) rfl ?_
  exact zcB rfl O.out I.out (zdb w _ _ _)
theorem zhh (C:Cx) (X j h:Nat) (x:PR) (S:Sv) (q:PS) (z:Int) (d:Nat) (y:Im) (w:World) (hx:Is x q z) (N:Mem C X j h S q w) (Y:z<0→1≤q.pos):
  Calls Tryz.prog 146 #[pv C X j S q z d,imV y] w (Out C X j h (bd x (zao C y)) d S w):=by
 obtain⟨i0,hi,aa,ad,ac⟩:=info_parts Tryz.infoImp
 have I:=zc N
 have HX:=zc hx
 have ae:q.im.length≤40:=by have:=N.inv.im;omega
 clear hx
 by_cases L:z<0
 ·have dz:decide (0≤z)=false:=decide_eq_false (by omega)
  by_cases hn:40≤q.im.length
  ·have O:Hid (Is (bd x (zao C y)) q (zu C (q.pos-1))):=zfS HX.out L (if_pos hn)
   have qn:decide ((40:Int)≤(q.im.length:Int))=true:=decide_eq_true (by omega)
   have M:=Y L
   clear Y N
   unfold pv imV
   go_enter Tryz.func146,Tryz.ntmps146
   go_wp2_with fail
   refine (zfe C X j h S q z d _ (((I.out.alloc _).alloc _).alloc _) L M).mono ?_
   rintro e w2 ⟨rfl,J⟩
   have Z:Below w.heap.size w w2:=zhg J
   have G3:Hid (_=_):=(J.block (w.heap.size+1+1) (by rw[zaf];omega)).trans ((new3 w _ _ _).2.2)
   obtain⟨c0,c1,c2,c3,c4,c5,c6,c7,c8,c9,ah,al,cf⟩:=zaq G3.out
   clear J
   unfold pv
   go_wp2
   refine bodyPost_ret (results_cell_row rfl _ _ (w.heap.size+1+1) 122 _ (0,0) _ rfl (zaZ G3.out) Tryz.underlying122 rfl (by kernel_rfl)) rfl ?_
   exact zcB rfl O.out I.out (zbW Z (by omega) ..)
  ·have qn:decide ((40:Int)≤(q.im.length:Int))=false:=decide_eq_false (by omega)
   have O:Hid (Is (bd x (zao C y)) {q with im:=q.im++[y]} z):=zff HX.out L (if_neg hn)
   have A:=fun o1 o2 o3 o4=>((((I.out.own.im.alloc o1).alloc o2).alloc o3).alloc o4)
   clear Y N
   unfold pv imV
   go_enter Tryz.func146,Tryz.ntmps146
   go_wp2_with (at_builtin;refine zcv _ rfl _ _ 31 rfl h 84 i0 _ 3 48 Tryz.underlying31 hi aa ad ac rfl (by decide) (by decide) S.im q.im.length _ (by rfl) (A ..) (w.heap.size+1+1+1) (imL y) (by rfl) (by first|exact (zcd w ..).2.2.2|exact (new3 w _ _ _).2.2) rfl (by intro u hu;simp[imL] at hu;rcases hu with rfl|rfl|rfl<;>rfl) (by omega) (by have:=I.out.base;(first|rw[zaB]|rw[zaf]);omega) ?_)
   intro r' w2 hr V U
   have HR:=zc hr
   have HG:=zc V
   have ab:=zc U
   have H:=fun b hb=>zdS (W:=w) I.out.own (Nat.le_refl _) (r:=S.im.blk) (fun k e=>.inr (.inl e)) b hb
   have g1:=(V.block w.heap.size (by (first|rw[zaB]|rw[zaf]);omega) (H _ (Nat.le_refl _))).trans (by first|exact (zcd w ..).1|exact (new3 w _ _ _).1)
   have g2:=(V.block (w.heap.size+1+1) (by (first|rw[zaB]|rw[zaf]);omega) (H _ (by omega))).trans (by first|exact (zcd w ..).2.2.1|exact (new3 w _ _ _).2.1)
   obtain⟨a0,a1,a2,a3,a4,a5,a6,a7,a8,a9,ag,aj,af⟩:=zaq g1
   obtain⟨b0,b1,b2,b3,b4,b5,b6,b7,b8,b9,ak,ai,bf⟩:=zaq g2
   have G2:=zc g2
   clear g1 g2 V hr U H A
   go_wp2
   refine bodyPost_ret (results_cell_row rfl _ _ (w.heap.size+1+1) 122 _ (0,0) _ rfl (zaZ ((zx (by omega)).trans G2.out)) Tryz.underlying122 rfl (by kernel_rfl)) rfl ?_
   obtain⟨m',s'⟩:=I.out.grow_im (x:=y) (zfR w ..) HG.out HR.out (by (first|rw[zaB]|rw[zaf]);exact ab.out) (((Off.refl _ _ _).set (b:=w.heap.size) (Nat.le_refl _) (by (first|rw[zaB]|rw[zaf]);omega) _ _).set12 (b:=w.heap.size+1+1) (by omega) (by (first|rw[zaB]|rw[zaf]);omega) ..) (by omega)
   exact⟨_,{q with im:=q.im++[y]},z,by simp[pv],O.out,m',s'⟩
 ·have dz:decide (0≤z)=true:=decide_eq_true (by omega)
  have O:Hid (Is (bd x (zao C y)) q z):=zfT HX.out L
  clear Y N
  unfold pv imV
  go_enter Tryz.func146,Tryz.ntmps146
  go_wp2
  refine bodyPost_ret (results_cell_row rfl _ _ (w.heap.size+1+1) 122 _ (0,0) _ rfl ((new3 w _ _ _).2.2) Tryz.underlying122 rfl (by kernel_rfl)) rfl ?_
  exact zcB rfl O.out I.out (zdb w _ _ _)
theorem zdT (C:Cx) (gt L h:Nat) (x:PR) (S:Sv) (q:PS) (z:Int) (d:Nat) (y:Ep) (w:World) (hx:Is x q z) (O:Mem C gt L h S q w) (hp:z<0→1≤q.pos):
  Calls Tryz.prog 148 #[pv C gt L S q z d,epV y] w (Out C gt L h (bd x (zs C y)) d S w):=by
 obtain⟨i0,hi,Y,ab,aa⟩:=info_parts Tryz.infoExp
 have H:=zc O
 have HX:=zc hx
 have aj:q.ep.length≤40:=by have:=O.inv.ep;omega
 have ai:q.la.length≤40:=by have:=O.inv.ep;omega
 clear hx
 by_cases X:z<0
 ·have dz:decide (0≤z)=false:=decide_eq_false (by omega)
  by_cases hn:40≤q.ep.length+q.la.length
  ·have U:Hid (Is (bd x (zs C y)) q (zu C (q.pos-1))):=zfS HX.out X (if_pos hn)
   have qn:decide ((40:Int)≤(q.ep.length:Int)+(q.la.length:Int))=true:=decide_eq_true (by omega)
   have Z:=hp X
   clear hp O
   unfold pv epV
   go_enter Tryz.func148,Tryz.ntmps148
   go_wp2_with fail
   refine (zfe C gt L h S q z d _ (((H.out.alloc _).alloc _).alloc _) X Z).mono ?_
   rintro e w2 ⟨rfl,N⟩
   have ad:Below w.heap.size w w2:=zhg N
   have G3:Hid (_=_):=(N.block (w.heap.size+1+1) (by rw[zaf];omega)).trans ((new3 w _ _ _).2.2)
   obtain⟨c0,c1,c2,c3,c4,c5,c6,c7,c8,c9,ak,al,cf⟩:=zaq G3.out
   clear N
   unfold pv
   go_wp2
   refine bodyPost_ret (results_cell_row rfl _ _ (w.heap.size+1+1) 122 _ (0,0) _ rfl (zaZ G3.out) Tryz.underlying122 rfl (by kernel_rfl)) rfl ?_
   exact zcB rfl U.out H.out (zbW ad (by omega) ..)
  ·have qn:decide ((40:Int)≤(q.ep.length:Int)+(q.la.length:Int))=false:=decide_eq_false (by omega)
   cases hd:(y.loc.toList==[42,100,101,102,97,117,108,116]) with
   |true=>
    have U:Hid (Is (bd x (zs C y)) {q with la:=q.la++[y]} z):=zff HX.out X (by rw[zs,if_neg hn,if_pos hd])
    have j:=fun o1 o2 o3 o4=>((((H.out.own.la.alloc o1).alloc o2).alloc o3).alloc o4)
    clear hp O
    unfold pv epV
    go_enter Tryz.func148,Tryz.ntmps148
    go_wp2_with (at_builtin;refine zcv _ rfl _ _ 32 rfl h 86 i0 _ 4 56 Tryz.underlying32 hi Y ab aa rfl (by decide) (by decide) S.la q.la.length _ (by rfl) (j ..) (w.heap.size+1+1+1) (epL y) (by rfl) (by first|exact (zcd w ..).2.2.2|exact (new3 w _ _ _).2.2) rfl (by intro u hu;simp[epL] at hu;rcases hu with rfl|rfl|rfl|rfl<;>rfl) (by omega) (by have:=H.out.base;(first|rw[zaB]|rw[zaf]);omega) ?_)
    intro r' w2 hr J I
    have HR:=zc hr
    have HG:=zc J
    have M:=zc I
    have A:=fun b hb=>zdS (W:=w) H.out.own (Nat.le_refl _) (r:=S.la.blk) (fun k e=>.inr (.inr (.inr (.inr (.inr e))))) b hb
    have g1:=(J.block w.heap.size (by (first|rw[zaB]|rw[zaf]);omega) (A _ (Nat.le_refl _))).trans (by first|exact (zcd w ..).1|exact (new3 w _ _ _).1)
    have V:=(J.block (w.heap.size+1+1) (by (first|rw[zaB]|rw[zaf]);omega) (A _ (by omega))).trans (by first|exact (zcd w ..).2.2.1|exact (new3 w _ _ _).2.1)
    obtain⟨a0,a1,a2,a3,a4,a5,a6,a7,a8,a9,ac,ag,af⟩:=zaq g1
    obtain⟨b0,b1,b2,b3,b4,b5,b6,b7,b8,b9,ah,ae,bf⟩:=zaq V
    have G2:=zc V
    clear g1 V J hr I A j
    go_wp2
    refine bodyPost_ret (results_cell_row rfl _ _ (w.heap.size+1+1) 122 _ (0,0) _ rfl (zaZ ((zx (by omega)).trans G2.out)) Tryz.underlying122 rfl (by kernel_rfl)) rfl ?_
    obtain⟨m',s'⟩:=H.out.grow_la (x:=y) (zfR w ..) HG.out HR.out (by (first|rw[zaB]|rw[zaf]);exact M.out) (((Off.refl _ _ _).set (b:=w.heap.size) (Nat.le_refl _) (by (first|rw[zaB]|rw[zaf]);omega) _ _).set12 (b:=w.heap.size+1+1) (by omega) (by (first|rw[zaB]|rw[zaf]);omega) ..) (by omega)
    exact⟨_,{q with la:=q.la++[y]},z,by simp[pv],U.out,m',s'⟩
   |false=>
    have U:Hid (Is (bd x (zs C y)) {q with ep:=q.ep++[y]} z):=zff HX.out X (by rw[zs,if_neg hn,hd];rfl)
    have j:=fun o1 o2 o3 o4=>((((H.out.own.ep.alloc o1).alloc o2).alloc o3).alloc o4)
    clear hp O
    unfold pv epV
    go_enter Tryz.func148,Tryz.ntmps148
    go_wp2_with (at_builtin;refine zcv _ rfl _ _ 32 rfl h 86 i0 _ 4 56 Tryz.underlying32 hi Y ab aa rfl (by decide) (by decide) S.ep q.ep.length _ (by rfl) (j ..) (w.heap.size+1+1+1) (epL y) (by rfl) (by first|exact (zcd w ..).2.2.2|exact (new3 w _ _ _).2.2) rfl (by intro u hu;simp[epL] at hu;rcases hu with rfl|rfl|rfl|rfl<;>rfl) (by omega) (by have:=H.out.base;(first|rw[zaB]|rw[zaf]);omega) ?_)
    intro r' w2 hr J I
    have HR:=zc hr
    have HG:=zc J
    have M:=zc I
    have A:=fun b hb=>zdS (W:=w) H.out.own (Nat.le_refl _) (r:=S.ep.blk) (fun k e=>.inr (.inr (.inl e))) b hb
    have g1:=(J.block w.heap.size (by (first|rw[zaB]|rw[zaf]);omega) (A _ (Nat.le_refl _))).trans (by first|exact (zcd w ..).1|exact (new3 w _ _ _).1)
    have V:=(J.block (w.heap.size+1+1) (by (first|rw[zaB]|rw[zaf]);omega) (A _ (by omega))).trans (by first|exact (zcd w ..).2.2.1|exact (new3 w _ _ _).2.1)
    obtain⟨a0,a1,a2,a3,a4,a5,a6,a7,a8,a9,ac,ag,af⟩:=zaq g1
    obtain⟨b0,b1,b2,b3,b4,b5,b6,b7,b8,b9,ah,ae,bf⟩:=zaq V
    have G2:=zc V
    clear g1 V J hr I A j
    go_wp2
    refine bodyPost_ret (results_cell_row rfl _ _ (w.heap.size+1+1) 122 _ (0,0) _ rfl (zaZ ((zx (by omega)).trans G2.out)) Tryz.underlying122 rfl (by kernel_rfl)) rfl ?_
    obtain⟨m',s'⟩:=H.out.grow_ep (x:=y) (zfR w ..) HG.out HR.out (by (first|rw[zaB]|rw[zaf]);exact M.out) (((Off.refl _ _ _).set (b:=w.heap.size) (Nat.le_refl _) (by (first|rw[zaB]|rw[zaf]);omega) _ _).set12 (b:=w.heap.size+1+1) (by omega) (by (first|rw[zaB]|rw[zaf]);omega) ..) (by omega)
    exact⟨_,{q with ep:=q.ep++[y]},z,by simp[pv],U.out,m',s'⟩
 ·have dz:decide (0≤z)=true:=decide_eq_true (by omega)
  have U:Hid (Is (bd x (zs C y)) q z):=zfT HX.out X
  clear hp O
  unfold pv epV
  go_enter Tryz.func148,Tryz.ntmps148
  go_wp2
  refine bodyPost_ret (results_cell_row rfl _ _ (w.heap.size+1+1) 122 _ (0,0) _ rfl ((new3 w _ _ _).2.2) Tryz.underlying122 rfl (by kernel_rfl)) rfl ?_
  exact zcB rfl U.out H.out (zdb w _ _ _)
theorem zdd (C:Cx) (Y A h:Nat) (x:PR) (S:Sv) (q:PS) (z:Int) (d:Nat) (k:Int) (j:ByteArray) (w:World) (hx:Is x q z) (M:Mem C Y A h S q w) (Z:z<0→1≤q.pos):
  Calls Tryz.prog 113 #[pv C Y A S q z d,.int .i64 k,.string j] w (Out C Y A h (bd x (zW C k j)) d S w):=by
 obtain⟨i0,hi,ab,ae,ad⟩:=info_parts Tryz.infoStmt
 have J:=zc M
 have HX:=zc hx
 have ah:q.ex.length≤300:=by have:=M.inv.ex;omega
 have ag:q.st.length≤80:=by have:=M.inv.st;omega
 clear hx
 by_cases N:z<0
 ·have dz:decide (0≤z)=false:=decide_eq_false (by omega)
  by_cases hn:80≤q.st.length
  ·have U:Hid (Is (bd x (zW C k j)) q (zu C (q.pos-1))):=zfS HX.out N (if_pos hn)
   have qn:decide ((80:Int)≤(q.st.length:Int))=true:=decide_eq_true (by omega)
   have O:=Z N
   clear Z M
   unfold pv
   go_enter Tryz.func113,Tryz.ntmps113
   go_wp2_with fail
   refine (zfe C Y A h S q z d _ ((J.out.alloc _).alloc _) N O).mono ?_
   rintro e w2 ⟨rfl,L⟩
   have aa:Below w.heap.size w w2:=zbh L
   have G3:Hid (_=_):=(L.block (w.heap.size+1) (by rw[zcN];omega)).trans (new2 w _ _)
   obtain⟨c0,c1,c2,c3,c4,c5,c6,c7,c8,c9,aj,an,cf⟩:=zaq G3.out
   clear L
   unfold pv
   go_wp2
   refine bodyPost_ret (results_cell_row rfl _ _ (w.heap.size+1) 122 _ (0,0) _ rfl (zaZ G3.out) Tryz.underlying122 rfl (by kernel_rfl)) rfl ?_
   exact zcB rfl U.out J.out (zbW aa (by omega) ..)
  ·have qn:decide ((80:Int)≤(q.st.length:Int))=false:=decide_eq_false (by omega)
   have U:Hid (Is (bd x (zW C k j)) {q with st:=q.st++[⟨k,j,(q.ex.length:Int)-1⟩]} z):=zff HX.out N (if_neg hn)
   have H:=fun o1 o2 o3=>(((J.out.own.st.alloc o1).alloc o2).alloc o3)
   clear Z M
   unfold pv
   go_enter Tryz.func113,Tryz.ntmps113
   go_wp2_with (at_builtin;refine zcv _ rfl _ _ 33 rfl h 107 i0 _ 3 32 Tryz.underlying33 hi ab ae ad rfl (by decide) (by decide) S.st q.st.length _ (by rfl) (H _ _ _) (w.heap.size+1+1) (smL ⟨k,j,(q.ex.length:Int)-1⟩) (by rfl) (by first|exact (zcd w ..).2.2.2|exact (new3 w _ _ _).2.2) rfl (by intro u hu;simp[smL] at hu;rcases hu with rfl|rfl|rfl<;>rfl) (by omega) (by have:=J.out.base;(first|rw[zaB]|rw[zaf]);omega) ?_)
   intro r' w2 hr X V
   have HR:=zc hr
   have HG:=zc X
   have ac:=zc V
   have I:=fun b hb=>zdS (W:=w) J.out.own (Nat.le_refl _) (r:=S.st.blk) (fun k e=>.inr (.inr (.inr (.inl e)))) b hb
   have g1:=(X.block w.heap.size (by (first|rw[zaB]|rw[zaf]);omega) (I _ (Nat.le_refl _))).trans (by first|exact (zcd w ..).1|exact (new3 w _ _ _).1)
   have g2:=(X.block (w.heap.size+1) (by (first|rw[zaB]|rw[zaf]);omega) (I _ (by omega))).trans (by first|exact (zcd w ..).2.2.1|exact (new3 w _ _ _).2.1)
   obtain⟨a0,a1,a2,a3,a4,a5,a6,a7,a8,a9,ai,al,af⟩:=zaq g1
   obtain⟨b0,b1,b2,b3,b4,b5,b6,b7,b8,b9,am,ak,bf⟩:=zaq g2
   have G2:=zc g2
   clear g1 g2 X hr V I H
   go_wp2
   refine bodyPost_ret (results_cell_row rfl _ _ (w.heap.size+1) 122 _ (0,0) _ rfl (zaZ ((zx (by omega)).trans G2.out)) Tryz.underlying122 rfl (by kernel_rfl)) rfl ?_
   obtain⟨m',s'⟩:=J.out.grow_st (x:=⟨k,j,(q.ex.length:Int)-1⟩) (zdb w _ _ _) HG.out HR.out (by (first|rw[zaB]|rw[zaf]);exact ac.out) (((Off.refl _ _ _).set (b:=w.heap.size) (Nat.le_refl _) (by (first|rw[zaB]|rw[zaf]);omega) _ _).set12 (b:=w.heap.size+1) (by omega) (by (first|rw[zaB]|rw[zaf]);omega) ..) (by omega)
   exact⟨_,{q with st:=q.st++[⟨k,j,(q.ex.length:Int)-1⟩]},z,by simp[pv],U.out,m',s'⟩
 ·have dz:decide (0≤z)=true:=decide_eq_true (by omega)
  have U:Hid (Is (bd x (zW C k j)) q z):=zfT HX.out N
  clear Z M
  unfold pv
  go_enter Tryz.func113,Tryz.ntmps113
  go_wp2
  refine bodyPost_ret (results_cell_row rfl _ _ (w.heap.size+1) 122 _ (0,0) _ rfl (new2 w _ _) Tryz.underlying122 rfl (by kernel_rfl)) rfl ?_
  exact zcB rfl U.out J.out (zba w _ _)
theorem OwnR.drew {w:World} {j size n:Nat} {e:TypeId} {r:Rw} {xs:List Value} (h:OwnR w j e size r n xs):OwnR w.drew j e size r n xs:=h
theorem zmG (x:Ex): ∀u∈exL x,u.oneCell'=true:=by
 intro u h
 simp[exL] at h
 rcases h with rfl|rfl|rfl|rfl|rfl|rfl<;>rfl
theorem IM.grow_ex {C:Cx} {Y M A z:Nat} {S:Sv} {q:PS} {w W I:World} {j:Rw} {x:Ex} (h:IM C Y M A z S q w) (hW:Below w.heap.size w W) (hg:W.grownBy I S.ex.blk) (hr:OwnR I A 109 6 j (q.ex.length+1) (q.ex.flatMap exL++exL x)) (V:j.blk=S.ex.blk∨j.blk=some W.heap.size) (hn:q.ex.length<300):
  IM C Y M A z {S with ex:=j} {q with ex:=q.ex++[x]} (I.setCell ⟨z,8,none⟩ (.slice j.a (q.ex.length+1) j.cap))∧IS z S w {S with ex:=j} (I.setCell ⟨z,8,none⟩ (.slice j.a (q.ex.length+1) j.cap)):=by
 obtain⟨N,L⟩:=h.mem.grow_ex (x:=x) hW hg hr V (Off.refl _ _ _) hn
 have H:=h.free
 have U:=h.lt
 have J: ¬Sv.has {S with ex:=j} z:=fun g=>(L.sub z g).elim H fun g'=>by omega
 have O: ∀k,k≠z→(I.setCell ⟨z,8,none⟩ (.slice j.a (q.ex.length+1) j.cap)).heap[k]? =I.heap[k]?:=fun k O=>Below.heap_setCell I ⟨z,8,none⟩ _ k O
 have X:(I.setCell ⟨z,8,none⟩ (.slice j.a (q.ex.length+1) j.cap)).heap.size=I.heap.size:=by show (I.heap.modify _ _).size=_;simp
 have hc:=(L.block z U H).trans h.cells
 refine⟨⟨⟨N.own.keep fun k g=>O k fun e=>J (by rw[←e];exact g),N.inv,zbG N.tok (O Y h.ne.symm),N.few,by rw[X];exact N.base⟩,?_,h.ge⟩,?_⟩
 ·rw[zam hc]
  simp
 ·exact (show IS z S w {S with ex:=j} I from⟨L.os,L.tape,L.output,L.size,fun k h1 Z _=>L.block k h1 Z,L.sub⟩).set _ _
theorem zmH (C:Cx) (gt N j z:Nat) (S:Sv) (q:PS) (x:Ex) (w:World) (h:IM C gt N j z S q w) (hn:q.ex.length<300):
  Calls Tryz.prog 232 #[.pointer (some ⟨z,0,none⟩),exV x] w fun e w'=>e= .returned (.int .i64 q.ex.length)∧∃S',IM C gt N j z S' {q with ex:=q.ex++[x]} w'∧IS z S w S' w':=by
 obtain⟨i0,hi,U,X,Z⟩:=info_parts Tryz.infoExpr
 have O:=zc h
 have ab:=h.lt
 obtain⟨c0,c1,c2,c3,c4,c5,c6,c7,c8,c9,cf⟩:=zah h.cells
 have J:=fun H A=>((O.out.mem.own.ex.alloc H).drew.alloc A)
 have ac:=h.mem.base
 have L:some z≠S.ex.blk:=fun e=>O.out.free (.inr (.inr (.inr (.inr (.inl e.symm)))))
 have HN:=zc L
 have Y: ∀H A,j≤((w.alloc H).alloc A).heap.size:=fun H A=>by rw[zcN];omega
 have aa: ∀H A,z<((w.alloc H).alloc A).heap.size:=fun H A=>by rw[zcN];omega
 clear h L
 unfold exV
 go_enter Tryz.func232,Tryz.ntmps232
 go_wp2_with fail
 refine (zdP z q.ex.length 300 _ (by omega)).mono ?_
 rintro e w1 ⟨rfl,rfl⟩
 go_wp2_with fail
 go_region_law (first|(refine zfd rfl (.tmp 18) (.tmp 20) 34 rfl j 109 i0 _ 6 64 Tryz.underlying34 hi U X Z rfl (by decide) (by decide) S.ex q.ex.length (q.ex.flatMap exL) (by rfl) (by exact J _ _) (w.heap.size+1) (exL x) (by rfl) (by exact new2 w _ _) rfl (zmG x) (by omega) (by exact Y _ _) ?_;intro r' w2 hr I M;have g2:=(I.block z (by exact aa _ _) HN.out).trans (by exact ((O.out.alloc _).alloc _).cells);obtain⟨d0,d1,d2,d3,d4,d5,d6,d7,d8,d9,df⟩:=zah g2))
 all_goals
  have HR:=zc hr
  have HG:=zc I
  have V:=zc M
  clear hr I M g2 c0 c1 c2 c3 c4 c5 c6 c7 c8 c9 cf
  go_wp2
  go_ret
  obtain⟨m',s'⟩:=O.out.grow_ex (zba w _ _).drew HG.out HR.out V.out hn
  exact⟨zfA (by omega),_,m',s'⟩
theorem ziL (x:Im): ∀u∈imL x,u.oneCell'=true:=by
 intro u h
 simp[imL] at h
 rcases h with rfl|rfl|rfl<;>rfl
theorem IM.grow_rq {C:Cx} {Y M A z:Nat} {S:Sv} {q:PS} {w W I:World} {j:Rw} {x:ByteArray} (h:IM C Y M A z S q w) (hW:Below w.heap.size w W) (hg:W.grownBy I S.rq.blk) (hr:OwnR I A 9 1 j (q.rq.length+1) (q.rq.map .string++[.string x])) (V:j.blk=S.rq.blk∨j.blk=some W.heap.size) (hn:q.rq.length<40):
  IM C Y M A z {S with rq:=j} {q with rq:=q.rq++[x]} (I.setCell ⟨z,4,none⟩ (.slice j.a (q.rq.length+1) j.cap))∧IS z S w {S with rq:=j} (I.setCell ⟨z,4,none⟩ (.slice j.a (q.rq.length+1) j.cap)):=by
 obtain⟨N,L⟩:=h.mem.grow_rq (x:=x) hW hg hr V (Off.refl _ _ _) hn
 have H:=h.free
 have U:=h.lt
 have J: ¬Sv.has {S with rq:=j} z:=fun g=>(L.sub z g).elim H fun g'=>by omega
 have O: ∀k,k≠z→(I.setCell ⟨z,4,none⟩ (.slice j.a (q.rq.length+1) j.cap)).heap[k]? =I.heap[k]?:=fun k O=>Below.heap_setCell I ⟨z,4,none⟩ _ k O
 have X:(I.setCell ⟨z,4,none⟩ (.slice j.a (q.rq.length+1) j.cap)).heap.size=I.heap.size:=by show (I.heap.modify _ _).size=_;simp
 have hc:=(L.block z U H).trans h.cells
 refine⟨⟨⟨N.own.keep fun k g=>O k fun e=>J (by rw[←e];exact g),N.inv,zbG N.tok (O Y h.ne.symm),N.few,by rw[X];exact N.base⟩,?_,h.ge⟩,?_⟩
 ·rw[zam hc]
  simp
 ·exact (show IS z S w {S with rq:=j} I from⟨L.os,L.tape,L.output,L.size,fun k h1 Z _=>L.block k h1 Z,L.sub⟩).set _ _
theorem IM.grow_im {C:Cx} {Y M A z:Nat} {S:Sv} {q:PS} {w W I:World} {j:Rw} {x:Im} (h:IM C Y M A z S q w) (hW:Below w.heap.size w W) (hg:W.grownBy I S.im.blk) (hr:OwnR I A 84 3 j (q.im.length+1) (q.im.flatMap imL++imL x)) (V:j.blk=S.im.blk∨j.blk=some W.heap.size) (hn:q.im.length<40):
  IM C Y M A z {S with im:=j} {q with im:=q.im++[x]} (I.setCell ⟨z,5,none⟩ (.slice j.a (q.im.length+1) j.cap))∧IS z S w {S with im:=j} (I.setCell ⟨z,5,none⟩ (.slice j.a (q.im.length+1) j.cap)):=by
 obtain⟨N,L⟩:=h.mem.grow_im (x:=x) hW hg hr V (Off.refl _ _ _) hn
 have H:=h.free
 have U:=h.lt
 have J: ¬Sv.has {S with im:=j} z:=fun g=>(L.sub z g).elim H fun g'=>by omega
 have O: ∀k,k≠z→(I.setCell ⟨z,5,none⟩ (.slice j.a (q.im.length+1) j.cap)).heap[k]? =I.heap[k]?:=fun k O=>Below.heap_setCell I ⟨z,5,none⟩ _ k O
 have X:(I.setCell ⟨z,5,none⟩ (.slice j.a (q.im.length+1) j.cap)).heap.size=I.heap.size:=by show (I.heap.modify _ _).size=_;simp
 have hc:=(L.block z U H).trans h.cells
 refine⟨⟨⟨N.own.keep fun k g=>O k fun e=>J (by rw[←e];exact g),N.inv,zbG N.tok (O Y h.ne.symm),N.few,by rw[X];exact N.base⟩,?_,h.ge⟩,?_⟩
 ·rw[zam hc]
  simp
 ·exact (show IS z S w {S with im:=j} I from⟨L.os,L.tape,L.output,L.size,fun k h1 Z _=>L.block k h1 Z,L.sub⟩).set _ _
theorem IM.grow_ep {C:Cx} {Y M A z:Nat} {S:Sv} {q:PS} {w W I:World} {j:Rw} {x:Ep} (h:IM C Y M A z S q w) (hW:Below w.heap.size w W) (hg:W.grownBy I S.ep.blk) (hr:OwnR I A 86 4 j (q.ep.length+1) (q.ep.flatMap epL++epL x)) (V:j.blk=S.ep.blk∨j.blk=some W.heap.size) (hn:q.ep.length+q.la.length<40):
  IM C Y M A z {S with ep:=j} {q with ep:=q.ep++[x]} (I.setCell ⟨z,6,none⟩ (.slice j.a (q.ep.length+1) j.cap))∧IS z S w {S with ep:=j} (I.setCell ⟨z,6,none⟩ (.slice j.a (q.ep.length+1) j.cap)):=by
 obtain⟨N,L⟩:=h.mem.grow_ep (x:=x) hW hg hr V (Off.refl _ _ _) hn
 have H:=h.free
 have U:=h.lt
 have J: ¬Sv.has {S with ep:=j} z:=fun g=>(L.sub z g).elim H fun g'=>by omega
 have O: ∀k,k≠z→(I.setCell ⟨z,6,none⟩ (.slice j.a (q.ep.length+1) j.cap)).heap[k]? =I.heap[k]?:=fun k O=>Below.heap_setCell I ⟨z,6,none⟩ _ k O
 have X:(I.setCell ⟨z,6,none⟩ (.slice j.a (q.ep.length+1) j.cap)).heap.size=I.heap.size:=by show (I.heap.modify _ _).size=_;simp
 have hc:=(L.block z U H).trans h.cells
 refine⟨⟨⟨N.own.keep fun k g=>O k fun e=>J (by rw[←e];exact g),N.inv,zbG N.tok (O Y h.ne.symm),N.few,by rw[X];exact N.base⟩,?_,h.ge⟩,?_⟩
 ·rw[zam hc]
  simp
 ·exact (show IS z S w {S with ep:=j} I from⟨L.os,L.tape,L.output,L.size,fun k h1 Z _=>L.block k h1 Z,L.sub⟩).set _ _
theorem IM.grow_st {C:Cx} {Y M A z:Nat} {S:Sv} {q:PS} {w W I:World} {j:Rw} {x:Sm} (h:IM C Y M A z S q w) (hW:Below w.heap.size w W) (hg:W.grownBy I S.st.blk) (hr:OwnR I A 107 3 j (q.st.length+1) (q.st.flatMap smL++smL x)) (V:j.blk=S.st.blk∨j.blk=some W.heap.size) (hn:q.st.length<80):
  IM C Y M A z {S with st:=j} {q with st:=q.st++[x]} (I.setCell ⟨z,7,none⟩ (.slice j.a (q.st.length+1) j.cap))∧IS z S w {S with st:=j} (I.setCell ⟨z,7,none⟩ (.slice j.a (q.st.length+1) j.cap)):=by
 obtain⟨N,L⟩:=h.mem.grow_st (x:=x) hW hg hr V (Off.refl _ _ _) hn
 have H:=h.free
 have U:=h.lt
 have J: ¬Sv.has {S with st:=j} z:=fun g=>(L.sub z g).elim H fun g'=>by omega
 have O: ∀k,k≠z→(I.setCell ⟨z,7,none⟩ (.slice j.a (q.st.length+1) j.cap)).heap[k]? =I.heap[k]?:=fun k O=>Below.heap_setCell I ⟨z,7,none⟩ _ k O
 have X:(I.setCell ⟨z,7,none⟩ (.slice j.a (q.st.length+1) j.cap)).heap.size=I.heap.size:=by show (I.heap.modify _ _).size=_;simp
 have hc:=(L.block z U H).trans h.cells
 refine⟨⟨⟨N.own.keep fun k g=>O k fun e=>J (by rw[←e];exact g),N.inv,zbG N.tok (O Y h.ne.symm),N.few,by rw[X];exact N.base⟩,?_,h.ge⟩,?_⟩
 ·rw[zam hc]
  simp
 ·exact (show IS z S w {S with st:=j} I from⟨L.os,L.tape,L.output,L.size,fun k h1 Z _=>L.block k h1 Z,L.sub⟩).set _ _
theorem IM.grow_la {C:Cx} {Y M A z:Nat} {S:Sv} {q:PS} {w W I:World} {j:Rw} {x:Ep} (h:IM C Y M A z S q w) (hW:Below w.heap.size w W) (hg:W.grownBy I S.la.blk) (hr:OwnR I A 86 4 j (q.la.length+1) (q.la.flatMap epL++epL x)) (V:j.blk=S.la.blk∨j.blk=some W.heap.size) (hn:q.ep.length+q.la.length<40):
  IM C Y M A z {S with la:=j} {q with la:=q.la++[x]} (I.setCell ⟨z,9,none⟩ (.slice j.a (q.la.length+1) j.cap))∧IS z S w {S with la:=j} (I.setCell ⟨z,9,none⟩ (.slice j.a (q.la.length+1) j.cap)):=by
 obtain⟨N,L⟩:=h.mem.grow_la (x:=x) hW hg hr V (Off.refl _ _ _) hn
 have H:=h.free
 have U:=h.lt
 have J: ¬Sv.has {S with la:=j} z:=fun g=>(L.sub z g).elim H fun g'=>by omega
 have O: ∀k,k≠z→(I.setCell ⟨z,9,none⟩ (.slice j.a (q.la.length+1) j.cap)).heap[k]? =I.heap[k]?:=fun k O=>Below.heap_setCell I ⟨z,9,none⟩ _ k O
 have X:(I.setCell ⟨z,9,none⟩ (.slice j.a (q.la.length+1) j.cap)).heap.size=I.heap.size:=by show (I.heap.modify _ _).size=_;simp
 have hc:=(L.block z U H).trans h.cells
 refine⟨⟨⟨N.own.keep fun k g=>O k fun e=>J (by rw[←e];exact g),N.inv,zbG N.tok (O Y h.ne.symm),N.few,by rw[X];exact N.base⟩,?_,h.ge⟩,?_⟩
 ·rw[zam hc]
  simp
 ·exact (show IS z S w {S with la:=j} I from⟨L.os,L.tape,L.output,L.size,fun k h1 Z _=>L.block k h1 Z,L.sub⟩).set _ _
theorem zmI (C:Cx) (gt N j z:Nat) (S:Sv) (q:PS) (x:Im) (w:World) (h:IM C gt N j z S q w) (hn:q.im.length<40):
  Calls Tryz.prog 226 #[.pointer (some ⟨z,0,none⟩),imV x] w fun e w'=>e= .returned (.tuple #[])∧∃S',IM C gt N j z S' {q with im:=q.im++[x]} w'∧IS z S w S' w':=by
 obtain⟨i0,hi,U,X,Z⟩:=info_parts Tryz.infoImp
 have O:=zc h
 have ab:=h.lt
 obtain⟨c0,c1,c2,c3,c4,c5,c6,c7,c8,c9,cf⟩:=zah h.cells
 have J:=fun H A=>((O.out.mem.own.im.alloc H).drew.alloc A)
 have ac:=h.mem.base
 have L:some z≠S.im.blk:=fun e=>O.out.free (.inr (.inl e.symm))
 have HN:=zc L
 have Y: ∀H A,j≤((w.alloc H).alloc A).heap.size:=fun H A=>by rw[zcN];omega
 have aa: ∀H A,z<((w.alloc H).alloc A).heap.size:=fun H A=>by rw[zcN];omega
 clear h L
 unfold imV
 go_enter Tryz.func226,Tryz.ntmps226
 go_wp2_with fail
 refine (zdP z q.im.length 40 _ (by omega)).mono ?_
 rintro e w1 ⟨rfl,rfl⟩
 go_wp2_with fail
 go_region_law (first|(refine zfd rfl (.tmp 17) (.tmp 19) 31 rfl j 84 i0 _ 3 48 Tryz.underlying31 hi U X Z rfl (by decide) (by decide) S.im q.im.length (q.im.flatMap imL) (by rfl) (by exact J _ _) (w.heap.size+1) (imL x) (by rfl) (by exact new2 w _ _) rfl (ziL x) (by omega) (by exact Y _ _) ?_;intro r' w2 hr I M;have g2:=(I.block z (by exact aa _ _) HN.out).trans (by exact ((O.out.alloc _).alloc _).cells);obtain⟨d0,d1,d2,d3,d4,d5,d6,d7,d8,d9,df⟩:=zah g2))
 all_goals
  have HR:=zc hr
  have HG:=zc I
  have V:=zc M
  clear hr I M g2 c0 c1 c2 c3 c4 c5 c6 c7 c8 c9 cf
  go_wp2
  go_end0
  obtain⟨m',s'⟩:=O.out.grow_im (zba w _ _).drew HG.out HR.out V.out hn
  exact⟨rfl,_,m',s'⟩
end Go.Proofs.YtjdddblpfbmpaaaGreat
