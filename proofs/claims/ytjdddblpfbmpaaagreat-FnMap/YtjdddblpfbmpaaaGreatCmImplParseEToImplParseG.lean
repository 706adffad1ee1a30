/-
  What passSigns of impl's parser answers: the walk.
  'append' of one element onto a row of the call's own,as one step of a region that draws its order. No program is spoken of.
  What spec's readers of one token answer: l4Full,l4Sign,l4Word,l4Reserved,l4Plain,l4Name: the walks.
  What spec's l4Plain and l4Name answer: the walks.
  What spec's l4Add,l4Imp,l4Stmt and l4Exp answer: the walks.
  What addExpr of impl's parser answers where there is room: the walk.
  A row of impl's parser grows by one element; what addImp answers where there is room: the walk.
-/
import Derived.Deep.LoopGhost
import Derived.Test.YtjdddblpfbmpaaaGreatCmImplParseCToImplParseD
namespace Go.Proofs.YtjdddblpfbmpaaaGreat
set_option maxRecDepth 100000
set_option maxHeartbeats 3200000
open Go.RowKit Go.PlainAid Go.Sort
def zaG (C:Cx) (s:ByteArray):Nat→Nat→PS→PR
 |0,_,q=>.ok q
 |n+1,k,q=>bd (zd C 4 (s.extract k (k+1)) q) (zaG C s n (k+1))
theorem zhy {C:Cx} {k:Int} {x:ByteArray} {q:PS} (h:isT C q.pos k x=false):zd C k x q= .error (zu C q.pos):=by rw[zd,h];rfl
theorem zcc {C:Cx} {k:Int} {x:ByteArray} {q:PS} (h:isT C q.pos k x=true):zd C k x q= .ok (adv q):=if_pos h
theorem zhz (C:Cx) (N A z L:Nat) (S:Sv) (q:PS) (s:ByteArray) (w:World) (h:IM C N A z L S q w) (hs:s.size≤100):
  Calls Tryz.prog 195 #[.pointer (some ⟨L,0,none⟩),.string s] w (zW C N A z L (zaG C s s.size 0 q) id (fun _=>.tuple #[]) S w):=by
 go_enter Tryz.func195,Tryz.ntmps195
 go_wp2
 go_loopg [7] s.size (fun k i wr=>∃(j:Nat) (I:PS),i= .int .i64 j∧j+k=s.size∧zaG C s k j I=zaG C s s.size 0 q∧IM C N A z L S I wr∧IS L S w S wr)
 case atStart=>exact⟨0,q,rfl,by omega,rfl,h,IS.refl _ _ _⟩
 case round=>
  obtain⟨j,I,rfl,hj,he,HM,t⟩:=hrel
  have O:=zc he
  have HS:=zc t
  clear he t
  match gk,hj,O with
  |0,hj,O=>
   have Y: ¬j<s.size:=by omega
   go_wp2
   go_end0
   rw[←O.out]
   exact⟨rfl,S,HM,HS.out⟩
  |k+1,hj,O=>
   have Y:j<s.size:=by omega
   obtain⟨H,U⟩: ∃H,H=j+1:=⟨_,rfl⟩
   have ej:(j:Int)+1=(H:Int):=by omega
   have ad:H≤s.size:=by omega
   have ae:j≤H:=by omega
   have Z:=zc U
   clear U
   cases X:isT C I.pos 4 (s.extract j H) with
   |true=>
    have HX:Hid (zaG C s k H (adv I)=zaG C s s.size 0 q):=by
     show _=_
     rw[←O.out,zaG,←Z.out,zcc X]
     rfl
    go_wp2_with fail
    refine (zO C N A z L S I 4 (s.extract j H) _ HM (by decide)).mono ?_
    rintro e w1 ⟨rfl,M,V⟩
    rw[X] at M ⊢
    have J:=zc M
    have aa:=HS.out.trans V
    clear M V
    go_wp2
    go_roundg k
    case rel=>exact⟨H,adv I,rfl,by have:=Z.out;omega,HX.out,J.out,aa⟩
    case measure=>omega
   |false=>
    have HX:Hid (zaG C s s.size 0 q= .error (zu C I.pos)):=by
     show _=_
     rw[←O.out,zaG,←Z.out,zhy X]
     rfl
    go_wp2_with fail
    refine (zO C N A z L S I 4 (s.extract j H) _ HM (by decide)).mono ?_
    rintro e w1 ⟨rfl,M,V⟩
    rw[X] at M ⊢
    have J:=zc M
    have HB:=(HS.out.trans V).under h.mem.base h.mem.own h.ge
    clear M V
    go_wp2_with fail
    refine (ze6 C N A z L S I _ J.out).mono ?_
    rintro e w2 ⟨rfl,ac⟩
    have ab:=HB.trans (ac.mono J.out.mem.base)
    unfold Pan
    go_wp2
    refine⟨rfl,?_⟩
    rw[HX.out]
    exact⟨rfl,ab⟩
theorem zdi {P:Program} {ops:Array Oper} {o:Oper} {a:Act} {W:World} {K:Act→World→Prop} {Q:Exit→Act→World→Prop} {E:Prop} (V:o.guard=none) (s x:Operand) (t:TypeId)
  (ho:o.op= .call {callee:=.builtin .append,args:=#[s,x],argTypes:=#[t,t]})
  (H:Nat) (e:TypeId) (i:TypeInfo) (z:Value) (size q:Nat) (ht:P.underlying t=some (.slice e)) (hi:P.info? e=some i) (hz:i.zero=some z) (J:i.size=size) (Y:i.bytes=q) (Z:z.cells.size=size) (X:0<size) (O:q≤100)
  (r:Rw) (n:Nat) (xs:List Value) (hs:a.eval s= .slice r.a n r.cap) (M:OwnR W H e size r n xs)
  (U:Nat) (A:List Value) (hx:a.eval x= .slice (some ⟨U,0,none⟩) 1 1) (hg:W.heap[U]? =some (.cells A.toArray e (0,0))) (hl:A.length=size) (h1: ∀u∈A,u.oneCell'=true) (hn:n+1≤4000000) (L:H≤W.heap.size)
  (h: ∀N w',OwnR w' H e size N (n+1) (xs++A)→W.grownBy w' r.blk→(N.blk=r.blk∨N.blk=some W.heap.size)→K (a.put o.dst (.slice N.a (n+1) N.cap)) w'):
  if Region.wanted o (yielded ops a.tmps)=true then Oper.wp P o a W K Q else E:=by
 have hw:Region.wanted o (yielded ops a.tmps)=true:=by simp[Region.wanted,V]
 rw[if_pos hw]
 obtain⟨v',w',hr,h2,h3,_,h5⟩:=run_append_own_at (P:=P) W H t o.type e i z size q ht hi hz J Y Z X _ n xs M ⟨U,0,none⟩ 1 1 A (by omega) (by
  intro j u hj
  have e1:(⟨U,0,none⟩:Addr).add j=⟨U,j,none⟩:=by simp[Addr.add];exact fun h=>h.symm
  rw[e1]
  simp[World.cell?,hg,hj]) h1 (by unfold maxLen;omega) (by have:(n+1)*q≤4000000*100:=Nat.mul_le_mul hn O;omega) L
 unfold Oper.wp execOp
 simp only[ho,resolve,invoke,builtin,Sem.run_bind,Sem.run_pure,Result.andThen_ok,List.map_toArray,List.map_cons,List.map_nil,hs,hx,hr]
 rcases h2.2 with ⟨hv,ac⟩|⟨g',I,ab,rfl,aa⟩
 ·omega
 ·refine h ⟨some ⟨g',0,none⟩,I⟩ w' h2 ?_ ?_
  ·rw[←zb4 r n];exact h3
  ·rw[←zb4 r n,←zb4 ⟨some ⟨g',0,none⟩,I⟩ (n+1)];exact h5
def Is (x:PR) (q:PS) (z:Int):Prop:=
 match x with
 | .ok q0=>q=q0∧z= -1
 | .error e=>z=(e:Int)
theorem zab (q:PS):Is (.ok q) q (-1):=⟨rfl,rfl⟩
theorem zaH {x:PR} {q:PS} {z:Int} (h:Is x q z) (j:z<0):x= .ok q∧z= -1:=by
 cases x with
 |ok A=>obtain⟨rfl,rfl⟩:=h;exact⟨rfl,rfl⟩
 |error e=>have:z=(e:Int):=h;omega
theorem zd3 {x:PR} {q:PS} {z:Int} (h:Is x q z) (j: ¬z<0): ∃e,x= .error e∧z=(e:Int):=by
 cases x with
 |ok A=>obtain⟨rfl,rfl⟩:=h;exact absurd (by decide) j
 |error e=>exact⟨e,rfl,h⟩
def Out (C:Cx) (gt cap base:Nat) (y:PR) (d:Nat) (S:Sv) (w:World) (e:Ending) (w':World):Prop:=
 ∃S' q' z',e= .returned (pv C gt cap S' q' z' d)∧Hid (Is y q' z')∧Mem C gt cap base S' q' w'∧Stp S w S' w'
theorem zcB {C:Cx} {z q j:Nat} {y:PR} {d:Nat} {S:Sv} {w w':World} {q':PS} {z':Int} {v:Value} (I:v=pv C z q S q' z' d) (J:Is y q' z') (H:Mem C z q j S q' w) (A:Below w.heap.size w w'):Out C z q j y d S w (.returned v) w':=
 ⟨S,q',z',by rw[I],J,H.later A,Stp.below A⟩
theorem zfn (C:Cx) (L j A:Nat) (S:Sv) (q:PS) (z:Int) (d:Nat) (w:World) (H:Mem C L j A S q w) (X:z<0) (V:1≤q.pos):
  Calls Tryz.prog 152 #[pv C L j S q z d] w fun e w'=>e= .returned (pv C L j S q (zu C (q.pos-1)) d)∧Below w.heap.size w w':=by
 obtain⟨p,J⟩: ∃p,q.pos=p+1:=⟨q.pos-1,by omega⟩
 have I:p<C.ts.length:=by have:=H.inv.pos;omega
 have N:=H.few
 obtain⟨_,_,_,U⟩:=H.tok.cells I (d:=⟨0,sNone,0,C.fin⟩)
 have M:=(zav H.tok).1
 change _=some (Value.int .i64 (zu C p)) at U
 rw[show q.pos-1=p from by omega]
 have O:(q.pos:Int)-1=p:=by omega
 clear J
 unfold pv
 go_enter Tryz.func152,Tryz.ntmps152
 go_wp2
 refine bodyPost_ret (results_cell_row rfl _ _ (w.heap.size+1) 122 _ (0,0) _ rfl (new2 w _ _) Tryz.underlying122 rfl (by kernel_rfl)) rfl ?_
 exact⟨rfl,zbc w _ _⟩
theorem zah (C:Cx) (O A j:Nat) (x:PR) (S:Sv) (q:PS) (z:Int) (d:Nat) (s:ByteArray) (w:World) (hx:Is x q z) (hm:Mem C O A j S q w):
  Calls Tryz.prog 110 #[pv C O A S q z d,.string s] w (Out C O A j (bd x (zd C 4 s)) d S w):=by
 have HM:=zc hm
 have H:=hm.tok
 have J:=hm.few
 have HX:=zc hx
 clear hx hm
 cases I:(decide (z<0)&&isT C q.pos 4 s) with
 |true=>
  have ac:q.pos<C.ts.length:=by rw[Bool.and_eq_true] at I;exact za9 I.2 (by decide)
  have HY:Hid (Is (bd x (zd C 4 s)) (adv q) z):=by
   rw[Bool.and_eq_true,decide_eq_true_eq] at I
   obtain⟨X,h2⟩:=zaH HX.out I.1
   show Is (bd x (zd C 4 s)) (adv q) z
   rw[X,zC,zd,if_pos I.2]
   exact⟨rfl,h2⟩
  unfold pv
  go_enter Tryz.func110,Tryz.ntmps110
  go_wp2_with fail
  refine (zj C O A j S q z d 4 s _ (zt (zt H _) _) J (by decide)).mono ?_
  rintro e w1 ⟨rfl,L⟩
  rw[I]
  obtain⟨g1,N⟩:=zcO L
  obtain⟨a0,a1,a2,a3,a4,a5,a6,a7,a8,a9,Y,aa,af⟩:=zaq g1
  obtain⟨b0,b1,b2,b3,b4,b5,b6,b7,b8,b9,V,U,bf⟩:=zaq N
  have G2:=zc N
  clear g1 N I
  go_wp2
  refine bodyPost_ret (results_cell_row rfl _ _ (w.heap.size+1) 122 _ (0,0) _ rfl (zbb ((zn (by omega)).trans G2.out)) Tryz.underlying122 rfl (by kernel_rfl)) rfl ?_
  exact zcB rfl HY.out (HM.out.adv ac) (zbU ((zbi L).setCell (Nat.le_refl _) _) (Nat.le_succ _) ..)
 |false=>
  have HY:Hid (Is (bd x (zd C 4 s)) q (zb5 C q.pos z)):=by
   show Is (bd x (zd C 4 s)) q (zb5 C q.pos z)
   unfold zb5
   by_cases Z:z<0
   ·obtain⟨X,h2⟩:=zaH HX.out Z
    simp only[Z,decide_true,Bool.true_and] at I
    rw[X,zC,zd,I,if_pos Z]
    rfl
   ·obtain⟨e,X,h2⟩:=zd3 HX.out Z
    rw[X,zez,if_neg Z]
    exact h2
  unfold pv
  go_enter Tryz.func110,Tryz.ntmps110
  go_wp2_with fail
  refine (zj C O A j S q z d 4 s _ (zt (zt H _) _) J (by decide)).mono ?_
  rintro e w1 ⟨rfl,L⟩
  rw[I]
  obtain⟨g1,N⟩:=zcO L
  obtain⟨a0,a1,a2,a3,a4,a5,a6,a7,a8,a9,Y,aa,af⟩:=zaq g1
  obtain⟨b0,b1,b2,b3,b4,b5,b6,b7,b8,b9,V,U,bf⟩:=zaq N
  have G2:=zc N
  have M:=zcv H (zbi L)
  clear g1 N I
  go_wp2_with fail
  refine (zd1 C O A j S q z d _ M J).mono ?_
  rintro e w2 ⟨rfl,ab⟩
  have G3:Hid (_=_):=(ab.block _ (Nat.lt_of_lt_of_le (by simp) L.size)).trans G2.out
  obtain⟨c0,c1,c2,c3,c4,c5,c6,c7,c8,c9,ag,ae,cf⟩:=zaq G3.out
  have ad:=(zbi L).trans (ab.mono (zbi L).size)
  clear a0 a1 a2 a3 a4 a5 a6 a7 a8 a9 Y aa b0 b1 b2 b3 b4 b5 b6 b7 b8 b9 V U af bf
  unfold pv
  go_wp2
  refine bodyPost_ret (results_cell_row rfl _ _ (w.heap.size+1) 122 _ (0,0) _ rfl (zbb G3.out) Tryz.underlying122 rfl (by kernel_rfl)) rfl ?_
  exact zcB rfl HY.out HM.out (zbU ad (Nat.le_succ _) ..)
-- GEN
theorem zaO (C:Cx) (O A j:Nat) (x:PR) (S:Sv) (q:PS) (z:Int) (d:Nat) (s:ByteArray) (w:World) (hx:Is x q z) (hm:Mem C O A j S q w):
  Calls Tryz.prog 112 #[pv C O A S q z d,.string s] w (Out C O A j (bd x (zd C 1 s)) d S w):=by
 have HM:=zc hm
 have H:=hm.tok
 have J:=hm.few
 have HX:=zc hx
 clear hx hm
 cases I:(decide (z<0)&&isT C q.pos 1 s) with
 |true=>
  have ac:q.pos<C.ts.length:=by rw[Bool.and_eq_true] at I;exact za9 I.2 (by decide)
  have HY:Hid (Is (bd x (zd C 1 s)) (adv q) z):=by
   rw[Bool.and_eq_true,decide_eq_true_eq] at I
   obtain⟨X,h2⟩:=zaH HX.out I.1
   show Is (bd x (zd C 1 s)) (adv q) z
   rw[X,zC,zd,if_pos I.2]
   exact⟨rfl,h2⟩
  unfold pv
  go_enter Tryz.func112,Tryz.ntmps112
  go_wp2_with fail
  refine (zj C O A j S q z d 1 s _ (zt (zt H _) _) J (by decide)).mono ?_
  rintro e w1 ⟨rfl,L⟩
  rw[I]
  obtain⟨g1,N⟩:=zcO L
  obtain⟨a0,a1,a2,a3,a4,a5,a6,a7,a8,a9,Y,aa,af⟩:=zaq g1
  obtain⟨b0,b1,b2,b3,b4,b5,b6,b7,b8,b9,V,U,bf⟩:=zaq N
  have G2:=zc N
  clear g1 N I
  go_wp2
  refine bodyPost_ret (results_cell_row rfl _ _ (w.heap.size+1) 122 _ (0,0) _ rfl (zbb ((zn (by omega)).trans G2.out)) Tryz.underlying122 rfl (by kernel_rfl)) rfl ?_
  exact zcB rfl HY.out (HM.out.adv ac) (zbU ((zbi L).setCell (Nat.le_refl _) _) (Nat.le_succ _) ..)
 |false=>
  have HY:Hid (Is (bd x (zd C 1 s)) q (zb5 C q.pos z)):=by
   show Is (bd x (zd C 1 s)) q (zb5 C q.pos z)
   unfold zb5
   by_cases Z:z<0
   ·obtain⟨X,h2⟩:=zaH HX.out Z
    simp only[Z,decide_true,Bool.true_and] at I
    rw[X,zC,zd,I,if_pos Z]
    rfl
   ·obtain⟨e,X,h2⟩:=zd3 HX.out Z
    rw[X,zez,if_neg Z]
    exact h2
  unfold pv
  go_enter Tryz.func112,Tryz.ntmps112
  go_wp2_with fail
  refine (zj C O A j S q z d 1 s _ (zt (zt H _) _) J (by decide)).mono ?_
  rintro e w1 ⟨rfl,L⟩
  rw[I]
  obtain⟨g1,N⟩:=zcO L
  obtain⟨a0,a1,a2,a3,a4,a5,a6,a7,a8,a9,Y,aa,af⟩:=zaq g1
  obtain⟨b0,b1,b2,b3,b4,b5,b6,b7,b8,b9,V,U,bf⟩:=zaq N
  have G2:=zc N
  have M:=zcv H (zbi L)
  clear g1 N I
  go_wp2_with fail
  refine (zd1 C O A j S q z d _ M J).mono ?_
  rintro e w2 ⟨rfl,ab⟩
  have G3:Hid (_=_):=(ab.block _ (Nat.lt_of_lt_of_le (by simp) L.size)).trans G2.out
  obtain⟨c0,c1,c2,c3,c4,c5,c6,c7,c8,c9,ag,ae,cf⟩:=zaq G3.out
  have ad:=(zbi L).trans (ab.mono (zbi L).size)
  clear a0 a1 a2 a3 a4 a5 a6 a7 a8 a9 Y aa b0 b1 b2 b3 b4 b5 b6 b7 b8 b9 V U af bf
  unfold pv
  go_wp2
  refine bodyPost_ret (results_cell_row rfl _ _ (w.heap.size+1) 122 _ (0,0) _ rfl (zbb G3.out) Tryz.underlying122 rfl (by kernel_rfl)) rfl ?_
  exact zcB rfl HY.out HM.out (zbU ad (Nat.le_succ _) ..)
theorem zdZ (s:ByteArray) (j:Bool) (w:World):
  Calls Tryz.prog 180 #[.string s,.bool j] w fun e w'=>e= .returned (.bool (zw s j))∧w'=w:=by
 cases z:(s.toList==[105,109,112,111,114,116]) with
 |true=>
  have q:Hid (zw s j=true):=by show zw s j=true;simp[zw,z]
  go_enter Tryz.func180,Tryz.ntmps180
  go_wp2
  go_ret
  exact⟨zh q.out.symm,rfl⟩
 |false=>
  cases A:(s.toList==[101,120,112,111,114,116]) with
  |true=>
   have q:Hid (zw s j=true):=by show zw s j=true;simp[zw,z,A]
   go_enter Tryz.func180,Tryz.ntmps180
   go_wp2
   go_ret
   exact⟨zh q.out.symm,rfl⟩
  |false=>
   cases H:(s.toList==[100,101,102,97,117,108,116]) with
   |true=>
    have q:Hid (zw s j=true):=by show zw s j=true;simp[zw,z,A,H]
    go_enter Tryz.func180,Tryz.ntmps180
    go_wp2
    go_ret
    exact⟨zh q.out.symm,rfl⟩
   |false=>
    cases I:(s.toList==[108,101,116]) with
    |true=>
     have q:Hid (zw s j=true):=by show zw s j=true;simp[zw,z,A,H,I]
     go_enter Tryz.func180,Tryz.ntmps180
     go_wp2
     go_ret
     exact⟨zh q.out.symm,rfl⟩
    |false=>
     cases J:(s.toList==[102,117,110,99,116,105,111,110]) with
     |true=>
      have q:Hid (zw s j=true):=by show zw s j=true;simp[zw,z,A,H,I,J]
      go_enter Tryz.func180,Tryz.ntmps180
      go_wp2
      go_ret
      exact⟨zh q.out.symm,rfl⟩
     |false=>
      cases L:(s.toList==[114,101,116,117,114,110]) with
      |true=>
       have q:Hid (zw s j=true):=by show zw s j=true;simp[zw,z,A,H,I,J,L]
       go_enter Tryz.func180,Tryz.ntmps180
       go_wp2
       go_ret
       exact⟨zh q.out.symm,rfl⟩
      |false=>
       cases M:(s.toList==[112,114,105,110,116]) with
       |true=>
        have q:Hid (zw s j=true):=by show zw s j=true;simp[zw,z,A,H,I,J,L,M]
        go_enter Tryz.func180,Tryz.ntmps180
        go_wp2
        go_ret
        exact⟨zh q.out.symm,rfl⟩
       |false=>
        cases N:(s.toList==[116,104,114,111,119]) with
        |true=>
         have q:Hid (zw s j=true):=by show zw s j=true;simp[zw,z,A,H,I,J,L,M,N]
         go_enter Tryz.func180,Tryz.ntmps180
         go_wp2
         go_ret
         exact⟨zh q.out.symm,rfl⟩
        |false=>
         cases O:(s.toList==[102,97,105,108]) with
         |true=>
          have q:Hid (zw s j=j):=by show zw s j=j;simp[zw,z,A,H,I,J,L,M,N,O]
          go_enter Tryz.func180,Tryz.ntmps180
          go_wp2
          go_ret
          exact⟨zh q.out.symm,rfl⟩
         |false=>
          cases U:(s.toList==[117,110,100,101,102]) with
          |true=>
           have q:Hid (zw s j=j):=by show zw s j=j;simp[zw,z,A,H,I,J,L,M,N,O,U]
           go_enter Tryz.func180,Tryz.ntmps180
           go_wp2
           go_ret
           exact⟨zh q.out.symm,rfl⟩
          |false=>
           have q:Hid (zw s j=false):=by show zw s j=false;simp[zw,z,A,H,I,J,L,M,N,O,U]
           go_enter Tryz.func180,Tryz.ntmps180
           go_wp2
           go_ret
           exact⟨zh q.out.symm,rfl⟩
theorem znm {C:Cx} {i:Nat} {o:Bool} (h:((ze C i).kind==1)=false):zH C i o=false:=by rw[zH,h];rfl
theorem zh0 {C:Cx} {i:Nat} {o:Bool} (h: ¬i<C.ts.length):zH C i o=false:=by
 rw[Bool.eq_false_iff]
 exact fun g=>h (zfa g)
theorem zgl (C:Cx) (gt J L:Nat) (S:Sv) (q:PS) (z:Int) (d:Nat) (o:Bool) (w:World) (Z:OwnT w L 143 gt C.ts.length J C.ts) (_:C.ts.length≤4000):
  Calls Tryz.prog 147 #[pv C gt J S q z d,.bool o] w fun e w'=>e= .returned (.bool (decide (z<0)&&zH C q.pos o))∧Below w.heap.size w w':=by
 unfold pv
 by_cases hz:z<0
 ·have H:decide (z<0)=true:=decide_eq_true hz
  have N:decide (0≤z)=false:=decide_eq_false (by omega)
  by_cases U:q.pos<C.ts.length
  ·obtain⟨X,c1,_,_⟩:=Z.cells U (d:=⟨0,sNone,0,C.fin⟩)
   have Y:=(zav Z).1
   change _=some (Value.int .i64 (ze C q.pos).kind) at X
   change _=some (Value.string (ze C q.pos).text) at c1
   generalize j:ze C q.pos=t at X c1
   cases I:(t.kind==1) with
   |true=>
    have O:(t.kind !=1)=false:=by rw[bne,I];rfl
    cases M:zw t.text C.scr with
    |false=>
     have A:Hid (zH C q.pos o=true):=by show zH C q.pos o=true;simp only[zH,j,I,M,Bool.not_false,Bool.true_or,Bool.and_self]
     clear j
     go_enter Tryz.func147,Tryz.ntmps147
     go_wp2_with (first|(go_at_call 180;refine (zdZ _ _ _).mono ?_;rintro e w' ⟨rfl,rfl⟩))
     go_ret
     exact⟨zh (by first|(rw[H,A.out];rfl)|rfl),(Below.refl _ _).alloc (Nat.le_refl _) _⟩
    |true=>
     cases o with
     |true=>
      cases V:(t.text.toList==[100,101,102,97,117,108,116]) with
      |true=>
       have A:Hid (zH C q.pos true=true):=by show zH C q.pos true=true;simp only[zH,j,I,M,V,Bool.not_true,Bool.and_self,Bool.false_or]
       clear j
       go_enter Tryz.func147,Tryz.ntmps147
       go_wp2_with (first|(go_at_call 180;refine (zdZ _ _ _).mono ?_;rintro e w' ⟨rfl,rfl⟩))
       go_ret
       exact⟨zh (by first|(rw[H,A.out];rfl)|rfl),(Below.refl _ _).alloc (Nat.le_refl _) _⟩
      |false=>
       have A:Hid (zH C q.pos true=false):=by show zH C q.pos true=false;simp only[zH,j,I,M,V,Bool.not_true,Bool.true_and,Bool.or_self]
       clear j
       go_enter Tryz.func147,Tryz.ntmps147
       go_wp2_with (first|(go_at_call 180;refine (zdZ _ _ _).mono ?_;rintro e w' ⟨rfl,rfl⟩))
       go_ret
       exact⟨zh (by first|(rw[H,A.out];rfl)|rfl),(Below.refl _ _).alloc (Nat.le_refl _) _⟩
     |false=>
      have A:Hid (zH C q.pos false=false):=by show zH C q.pos false=false;simp only[zH,j,I,M,Bool.not_true,Bool.false_and,Bool.or_self,Bool.and_false]
      clear j
      go_enter Tryz.func147,Tryz.ntmps147
      go_wp2_with (first|(go_at_call 180;refine (zdZ _ _ _).mono ?_;rintro e w' ⟨rfl,rfl⟩))
      go_ret
      exact⟨zh (by first|(rw[H,A.out];rfl)|rfl),(Below.refl _ _).alloc (Nat.le_refl _) _⟩
   |false=>
    have O:(t.kind !=1)=true:=by rw[bne,I];rfl
    have A:Hid (zH C q.pos o=false):=znm (by rw[j];exact I)
    clear j
    go_enter Tryz.func147,Tryz.ntmps147
    go_wp2_with (first|(go_at_call 180;refine (zdZ _ _ _).mono ?_;rintro e w' ⟨rfl,rfl⟩))
    go_ret
    exact⟨zh (by first|(rw[H,A.out];rfl)|rfl),(Below.refl _ _).alloc (Nat.le_refl _) _⟩
  ·have A:Hid (zH C q.pos o=false):=zh0 U
   go_enter Tryz.func147,Tryz.ntmps147
   go_wp2_with (first|(go_at_call 180;refine (zdZ _ _ _).mono ?_;rintro e w' ⟨rfl,rfl⟩))
   go_ret
   exact⟨zh (by first|(rw[H,A.out];rfl)|rfl),(Below.refl _ _).alloc (Nat.le_refl _) _⟩
 ·have H:decide (z<0)=false:=decide_eq_false hz
  have N:decide (0≤z)=true:=decide_eq_true (by omega)
  have A:Hid (zH C q.pos o=zH C q.pos o):=rfl
  go_enter Tryz.func147,Tryz.ntmps147
  go_wp2_with (first|(go_at_call 180;refine (zdZ _ _ _).mono ?_;rintro e w' ⟨rfl,rfl⟩))
  go_ret
  exact⟨zh (by first|(rw[H,A.out];rfl)|rfl),(Below.refl _ _).alloc (Nat.le_refl _) _⟩
def Is2 (y:Except Nat (PS×ByteArray)) (q:PS) (z:Int) (n:ByteArray):Prop:=
 match y with
 | .ok a=>q=a.1∧z= -1∧n=a.2
 | .error e=>z=(e:Int)
theorem Is2.fst {y:Except Nat (PS×ByteArray)} {q:PS} {z:Int} {n:ByteArray} (h:Is2 y q z n):Is (zaR y) q z:=by
 cases y with
 |ok a=>exact⟨h.1,h.2.1⟩
 |error e=>exact h
theorem Is2.bind {y:Except Nat (PS×ByteArray)} {q:PS} {z:Int} {n:ByteArray} (h:Is2 y q z n) {β:Type} (F:PS→ByteArray→Except Nat β):bd (zaR y) (fun q=>F q n)=bd y fun a=>F a.1 a.2:=by
 cases y with
 |ok a=>obtain⟨_,_,rfl⟩:=h;rfl
 |error e=>rfl
def zdI (C:Cx) (gt cap base:Nat) (y:Except Nat (PS×ByteArray)) (d:Nat) (S:Sv) (w:World) (e:Ending) (w':World):Prop:=
 ∃S' q' z' n',e= .returned (.tuple #[pv C gt cap S' q' z' d,.string n'])∧Hid (Is2 y q' z' n')∧Mem C gt cap base S' q' w'∧Stp S w S' w'
theorem zea {C:Cx} {A q j:Nat} {y:Except Nat (PS×ByteArray)} {d:Nat} {S:Sv} {w w':World} {q':PS} {z':Int} {z:ByteArray} {v:Value} (J:v=pv C A q S q' z' d) (L:Is2 y q' z' z) (I:Mem C A q j S q' w) (H:Below w.heap.size w w'):zdI C A q j y d S w (.returned (.tuple #[v,.string z])) w':=
 ⟨S,q',z',z,by rw[J],L,I.later H,Stp.below H⟩
theorem zbt (C:Cx) (O I j:Nat) (x:PR) (S:Sv) (q:PS) (z:Int) (d:Nat) (o:Bool) (w:World) (hx:Is x q z) (hm:Mem C O I j S q w):
  Calls Tryz.prog 114 #[pv C O I S q z d,.bool o] w (zdI C O I j (bd x (zo C o)) d S w):=by
 have HM:=zc hm
 have H:=hm.tok
 have L:=hm.few
 have HX:=zc hx
 clear hx hm
 cases J:(decide (z<0)&&zH C q.pos o) with
 |true=>
  have U:q.pos<C.ts.length:=by rw[Bool.and_eq_true] at J;exact zfa J.2
  have HY:Hid (Is2 (bd x (zo C o)) (adv q) z (ze C q.pos).text):=by
   rw[Bool.and_eq_true,decide_eq_true_eq] at J
   obtain⟨V,h2⟩:=zaH HX.out J.1
   show Is2 (bd x (zo C o)) (adv q) z (ze C q.pos).text
   rw[V,zC,zo,if_pos J.2]
   exact⟨rfl,h2,rfl⟩
  unfold pv
  go_enter Tryz.func114,Tryz.ntmps114
  go_wp2_with fail
  refine (zgl C O I j S q z d o _ (zt (zt H _) _) L).mono ?_
  rintro e w1 ⟨rfl,M⟩
  rw[J]
  obtain⟨g1,N⟩:=zcO M
  obtain⟨a0,a1,a2,a3,a4,a5,a6,a7,a8,a9,X,Z,af⟩:=zaq g1
  obtain⟨b0,b1,b2,b3,b4,b5,b6,b7,b8,b9,ad,ac,bf⟩:=zaq N
  have A:=zcv H (zbi M)
  obtain⟨_,c1,_,_⟩:=A.cells U (d:=⟨0,sNone,0,C.fin⟩)
  change _=some (Value.string (ze C q.pos).text) at c1
  have G2:=zc N
  clear g1 N J
  go_wp2
  refine bodyPost_ret (zas rfl _ _ (w.heap.size+1) 122 _ (0,0) _ rfl (zbb ((zn (by omega)).trans G2.out)) Tryz.underlying122 rfl (by kernel_rfl)) rfl ?_
  exact zea rfl HY.out (HM.out.adv U) (zbU ((zbi M).setCell (Nat.le_refl _) _) (Nat.le_succ _) ..)
 |false=>
  have HY:Hid (Is2 (bd x (zo C o)) q (zb5 C q.pos z) sNone):=by
   show Is2 (bd x (zo C o)) q (zb5 C q.pos z) sNone
   unfold zb5
   by_cases Y:z<0
   ·obtain⟨V,h2⟩:=zaH HX.out Y
    simp only[Y,decide_true,Bool.true_and] at J
    rw[V,zC,zo,J,if_pos Y]
    rfl
   ·obtain⟨e,V,h2⟩:=zd3 HX.out Y
    rw[V,zez,if_neg Y]
    exact h2
  unfold pv
  go_enter Tryz.func114,Tryz.ntmps114
  go_wp2_with fail
  refine (zgl C O I j S q z d o _ (zt (zt H _) _) L).mono ?_
  rintro e w1 ⟨rfl,M⟩
  rw[J]
  obtain⟨g1,N⟩:=zcO M
  obtain⟨a0,a1,a2,a3,a4,a5,a6,a7,a8,a9,X,Z,af⟩:=zaq g1
  have G2:=zc N
  have A:=zcv H (zbi M)
  clear g1 N J
  go_wp2_with fail
  refine (zd1 C O I j S q z d _ A L).mono ?_
  rintro e w2 ⟨rfl,aa⟩
  have G3:Hid (_=_):=(aa.block _ (Nat.lt_of_lt_of_le (by simp) M.size)).trans G2.out
  obtain⟨c0,c1,c2,c3,c4,c5,c6,c7,c8,c9,ag,ae,cf⟩:=zaq G3.out
  have ab:=(zbi M).trans (aa.mono (zbi M).size)
  clear a0 a1 a2 a3 a4 a5 a6 a7 a8 a9 X Z af
  unfold pv
  go_wp2
  refine bodyPost_ret (zas rfl _ _ (w.heap.size+1) 122 _ (0,0) _ rfl (zbb G3.out) Tryz.underlying122 rfl (by kernel_rfl)) rfl ?_
  exact zea rfl HY.out HM.out (zbU ab (Nat.le_succ _) ..)
theorem Tryz.infoImp:(Tryz.prog.info? 84).map (fun i=>(i.zero,i.size,i.bytes))=some (some (.agg #[.string {data:=#[]},.string {data:=#[]},.string {data:=#[]}]),3,48):=by kernel_rfl
theorem Tryz.infoExp:(Tryz.prog.info? 86).map (fun i=>(i.zero,i.size,i.bytes))=some (some (.agg #[.int .i64 0,.string {data:=#[]},.string {data:=#[]},.string {data:=#[]}]),4,56):=by kernel_rfl
theorem Tryz.infoStmt:(Tryz.prog.info? 107).map (fun i=>(i.zero,i.size,i.bytes))=some (some (.agg #[.int .i64 0,.string {data:=#[]},.int .i64 0]),3,32):=by kernel_rfl
theorem Tryz.infoExpr:(Tryz.prog.info? 109).map (fun i=>(i.zero,i.size,i.bytes))=some (some (.agg #[.int .i64 0,.int .i64 0,.string {data:=#[]},.string {data:=#[]},.int .i64 0,.int .i64 0]),6,64):=by kernel_rfl
def imV (x:Im):Value:=.agg #[.string x.spec,.string x.first,.string x.loc]
def epV (x:Ep):Value:=.agg #[.int .i64 x.kind,.string x.name,.string x.loc,.string x.spec]
def exV (x:Ex):Value:=.agg #[.int .i64 x.kind,.int .i64 x.num,.string x.name,.string x.field,.int .i64 x.l,.int .i64 x.r]
theorem zdj (w:World) (a b c:Obj):Below w.heap.size w (((w.alloc a).alloc b).alloc c):=(zbc w a b).alloc (zbc w a b).size c
theorem zgm (w:World) (a b c d:Obj):Below w.heap.size w ((((w.alloc a).alloc b).alloc c).alloc d):=(zdj w a b c).alloc (zdj w a b c).size d
theorem zcQ (w:World) (a b:Obj):((w.alloc a).alloc b).heap.size=w.heap.size+1+1:=by rw[zl,zl]
theorem zae (w:World) (a b c:Obj):(((w.alloc a).alloc b).alloc c).heap.size=w.heap.size+1+1+1:=by rw[zl,zcQ]
theorem zaB (w:World) (a b c d:Obj):((((w.alloc a).alloc b).alloc c).alloc d).heap.size=w.heap.size+1+1+1+1:=by rw[zl,zae]
theorem new3 (w:World) (a b c:Obj):(((w.alloc a).alloc b).alloc c).heap[w.heap.size]? =some a∧(((w.alloc a).alloc b).alloc c).heap[w.heap.size+1]? =some b∧(((w.alloc a).alloc b).alloc c).heap[w.heap.size+1+1]? =some c:=by
 refine⟨?_,?_,?_⟩
 ·rw[Below.heap_alloc _ _ _ (by rw[zcQ];omega),Below.heap_alloc _ _ _ (by rw[zl];omega)]
  exact heap_alloc_new w a
 ·rw[Below.heap_alloc _ _ _ (by rw[zcQ];omega)]
  exact new2 w a b
 ·rw[←zcQ w a b]
  exact heap_alloc_new _ c
theorem zcd (w:World) (a b c d:Obj):((((w.alloc a).alloc b).alloc c).alloc d).heap[w.heap.size]? =some a∧((((w.alloc a).alloc b).alloc c).alloc d).heap[w.heap.size+1]? =some b∧((((w.alloc a).alloc b).alloc c).alloc d).heap[w.heap.size+1+1]? =some c∧((((w.alloc a).alloc b).alloc c).alloc d).heap[w.heap.size+1+1+1]? =some d:=by
 obtain⟨j,q,z⟩:=new3 w a b c
 refine⟨?_,?_,?_,?_⟩
 ·rw[Below.heap_alloc _ _ _ (by rw[zae];omega)]
  exact j
 ·rw[Below.heap_alloc _ _ _ (by rw[zae];omega)]
  exact q
 ·rw[Below.heap_alloc _ _ _ (by rw[zae];omega)]
  exact z
 ·rw[←zae w a b c]
  exact heap_alloc_new _ d
theorem zh1 {w j:World} {a b c:Obj} (q:Below (((w.alloc a).alloc b).alloc c).heap.size (((w.alloc a).alloc b).alloc c) j):Below w.heap.size w j:=(zdj w a b c).trans (q.mono (zdj w a b c).size)
theorem zgn {C:Cx} {x:PR} {q:PS} {z:Int} {f:PS→PR} (A:Is x q z) (H:z<0) (j:f q= .error (zu C (q.pos-1))):Is (bd x f) q (zu C (q.pos-1)):=by
 obtain⟨rfl,_⟩:=zaH A H
 rw[zC,j]
 rfl
theorem zgo {x:PR} {q:PS} {z:Int} {f:PS→PR} (A:Is x q z) (H: ¬z<0):Is (bd x f) q z:=by
 obtain⟨e,rfl,j⟩:=zd3 A H
 exact j
theorem zfo {x:PR} {q q':PS} {z:Int} {f:PS→PR} (H:Is x q z) (I:z<0) (A:f q= .ok q'):Is (bd x f) q' z:=by
 obtain⟨rfl,j⟩:=zaH H I
 rw[zC,A]
 exact⟨rfl,j⟩
theorem zeb {w W:World} {j:Nat} {S:Sv} {q:PS} (z:Own w j S q) (_:w.heap.size≤W.heap.size) {r:Option Nat} (A: ∀k,r=some k→S.has k) (b:Nat) (H:w.heap.size≤b):some b≠r:=fun e=>by have:=(z.has (A b e.symm)).2;omega
theorem zdk (C:Cx) (Y A j:Nat) (x:PR) (S:Sv) (q:PS) (z:Int) (d:Nat) (y:Ex) (w:World) (hx:Is x q z) (O:Mem C Y A j S q w) (Z:z<0→1≤q.pos):
  Calls Tryz.prog 151 #[pv C Y A S q z d,exV y] w (Out C Y A j (bd x (zQ C y)) d S w):=by
 obtain⟨i0,hi,ab,ae,ad⟩:=info_parts Tryz.infoExpr
 have J:=zc O
 have HX:=zc hx
 have ag:q.ex.length≤300:=by have:=O.inv.ex;omega
 clear hx
 by_cases M:z<0
 ·have dz:decide (0≤z)=false:=decide_eq_false (by omega)
  by_cases hn:300≤q.ex.length
  ·have U:Hid (Is (bd x (zQ C y)) q (zu C (q.pos-1))):=zgn HX.out M (if_pos hn)
   have qn:decide ((300:Int)≤(q.ex.length:Int))=true:=decide_eq_true (by omega)
   have N:=Z M
   clear Z O
   unfold pv exV
   go_enter Tryz.func151,Tryz.ntmps151
   go_wp2_with fail
   refine (zfn C Y A j S q z d _ (((J.out.alloc _).alloc _).alloc _) M N).mono ?_
   rintro e w2 ⟨rfl,L⟩
   have aa:Below w.heap.size w w2:=zh1 L
   have G3:Hid (_=_):=(L.block (w.heap.size+1+1) (by rw[zae];omega)).trans ((new3 w _ _ _).2.2)
   obtain⟨c0,c1,c2,c3,c4,c5,c6,c7,c8,c9,ai,am,cf⟩:=zaq G3.out
   clear L
   unfold pv
   go_wp2
   refine bodyPost_ret (results_cell_row rfl _ _ (w.heap.size+1+1) 122 _ (0,0) _ rfl (zbb G3.out) Tryz.underlying122 rfl (by kernel_rfl)) rfl ?_
   exact zcB rfl U.out J.out (zbU aa (by omega) ..)
  ·have qn:decide ((300:Int)≤(q.ex.length:Int))=false:=decide_eq_false (by omega)
   have U:Hid (Is (bd x (zQ C y)) {q with ex:=q.ex++[y]} z):=zfo HX.out M (if_neg hn)
   have H:=fun o1 o2 o3 o4=>((((J.out.own.ex.alloc o1).alloc o2).alloc o3).alloc o4)
   clear Z O
   unfold pv exV
   go_enter Tryz.func151,Tryz.ntmps151
   go_wp2_with (at_builtin;refine zcw _ rfl _ _ 34 rfl j 109 i0 _ 6 64 Tryz.underlying34 hi ab ae ad rfl (by decide) (by decide) S.ex q.ex.length _ (by rfl) (H ..) (w.heap.size+1+1+1) (exL y) (by rfl) (by first|exact (zcd w ..).2.2.2|exact (new3 w _ _ _).2.2) rfl (by intro u hu;simp[exL] at hu;rcases hu with rfl|rfl|rfl|rfl|rfl|rfl<;>rfl) (by omega) (by have:=J.out.base;(first|rw[zaB]|rw[zae]);omega) ?_)
   intro r' w2 hr X V
   have HR:=zc hr
   have HG:=zc X
   have ac:=zc V
   have I:=fun b hb=>zeb (W:=w) J.out.own (Nat.le_refl _) (r:=S.ex.blk) (fun k e=>.inr (.inr (.inr (.inr (.inl e))))) b hb
   have g1:=(X.block w.heap.size (by (first|rw[zaB]|rw[zae]);omega) (I _ (Nat.le_refl _))).trans (by first|exact (zcd w ..).1|exact (new3 w _ _ _).1)
   have g2:=(X.block (w.heap.size+1+1) (by (first|rw[zaB]|rw[zae]);omega) (I _ (by omega))).trans (by first|exact (zcd w ..).2.2.1|exact (new3 w _ _ _).2.1)
   obtain⟨a0,a1,a2,a3,a4,a5,a6,a7,a8,a9,ah,ak,af⟩:=zaq g1
   obtain⟨b0,b1,b2,b3,b4,b5,b6,b7,b8,b9,al,aj,bf⟩:=zaq g2
   have G2:=zc g2
   clear g1 g2 X hr V I H
   go_wp2
   refine bodyPost_ret (results_cell_row rfl _ _ (w.heap.size+1+1) 122 _ (0,0) _ rfl (zbb ((zn (by omega)).trans G2.out)) Tryz.underlying122 rfl (by kernel_rfl)) rfl ?_
   obtain⟨m',s'⟩:=J.out.grow_ex (x:=y) (zgm w ..) HG.out HR.out (by (first|rw[zaB]|rw[zae]);exact ac.out) (((Off.refl _ _ _).set (b:=w.heap.size) (Nat.le_refl _) (by (first|rw[zaB]|rw[zae]);omega) _ _).set12 (b:=w.heap.size+1+1) (by omega) (by (first|rw[zaB]|rw[zae]);omega) ..) (by omega)
   exact⟨_,{q with ex:=q.ex++[y]},z,by simp[pv],U.out,m',s'⟩
 ·have dz:decide (0≤z)=true:=decide_eq_true (by omega)
  have U:Hid (Is (bd x (zQ C y)) q z):=zgo HX.out M
  clear Z O
  unfold pv exV
  go_enter Tryz.func151,Tryz.ntmps151
  go_wp2
  refine bodyPost_ret (results_cell_row rfl _ _ (w.heap.size+1+1) 122 _ (0,0) _ rfl ((new3 w _ _ _).2.2) Tryz.underlying122 rfl (by kernel_rfl)) rfl ?_
  exact zcB rfl U.out J.out (zdj w _ _ _)
theorem zh2 (C:Cx) (Y A j:Nat) (x:PR) (S:Sv) (q:PS) (z:Int) (d:Nat) (y:Im) (w:World) (hx:Is x q z) (O:Mem C Y A j S q w) (Z:z<0→1≤q.pos):
  Calls Tryz.prog 146 #[pv C Y A S q z d,imV y] w (Out C Y A j (bd x (zal C y)) d S w):=by
 obtain⟨i0,hi,ab,ae,ad⟩:=info_parts Tryz.infoImp
 have J:=zc O
 have HX:=zc hx
 have ag:q.im.length≤40:=by have:=O.inv.im;omega
 clear hx
 by_cases M:z<0
 ·have dz:decide (0≤z)=false:=decide_eq_false (by omega)
  by_cases hn:40≤q.im.length
  ·have U:Hid (Is (bd x (zal C y)) q (zu C (q.pos-1))):=zgn HX.out M (if_pos hn)
   have qn:decide ((40:Int)≤(q.im.length:Int))=true:=decide_eq_true (by omega)
   have N:=Z M
   clear Z O
   unfold pv imV
   go_enter Tryz.func146,Tryz.ntmps146
   go_wp2_with fail
   refine (zfn C Y A j S q z d _ (((J.out.alloc _).alloc _).alloc _) M N).mono ?_
   rintro e w2 ⟨rfl,L⟩
   have aa:Below w.heap.size w w2:=zh1 L
   have G3:Hid (_=_):=(L.block (w.heap.size+1+1) (by rw[zae];omega)).trans ((new3 w _ _ _).2.2)
   obtain⟨c0,c1,c2,c3,c4,c5,c6,c7,c8,c9,ai,am,cf⟩:=zaq G3.out
   clear L
   unfold pv
   go_wp2
   refine bodyPost_ret (results_cell_row rfl _ _ (w.heap.size+1+1) 122 _ (0,0) _ rfl (zbb G3.out) Tryz.underlying122 rfl (by kernel_rfl)) rfl ?_
   exact zcB rfl U.out J.out (zbU aa (by omega) ..)
  ·have qn:decide ((40:Int)≤(q.im.length:Int))=false:=decide_eq_false (by omega)
   have U:Hid (Is (bd x (zal C y)) {q with im:=q.im++[y]} z):=zfo HX.out M (if_neg hn)
   have H:=fun o1 o2 o3 o4=>((((J.out.own.im.alloc o1).alloc o2).alloc o3).alloc o4)
   clear Z O
   unfold pv imV
   go_enter Tryz.func146,Tryz.ntmps146
   go_wp2_with (at_builtin;refine zcw _ rfl _ _ 31 rfl j 84 i0 _ 3 48 Tryz.underlying31 hi ab ae ad rfl (by decide) (by decide) S.im q.im.length _ (by rfl) (H ..) (w.heap.size+1+1+1) (imL y) (by rfl) (by first|exact (zcd w ..).2.2.2|exact (new3 w _ _ _).2.2) rfl (by intro u hu;simp[imL] at hu;rcases hu with rfl|rfl|rfl<;>rfl) (by omega) (by have:=J.out.base;(first|rw[zaB]|rw[zae]);omega) ?_)
   intro r' w2 hr X V
   have HR:=zc hr
   have HG:=zc X
   have ac:=zc V
   have I:=fun b hb=>zeb (W:=w) J.out.own (Nat.le_refl _) (r:=S.im.blk) (fun k e=>.inr (.inl e)) b hb
   have g1:=(X.block w.heap.size (by (first|rw[zaB]|rw[zae]);omega) (I _ (Nat.le_refl _))).trans (by first|exact (zcd w ..).1|exact (new3 w _ _ _).1)
   have g2:=(X.block (w.heap.size+1+1) (by (first|rw[zaB]|rw[zae]);omega) (I _ (by omega))).trans (by first|exact (zcd w ..).2.2.1|exact (new3 w _ _ _).2.1)
   obtain⟨a0,a1,a2,a3,a4,a5,a6,a7,a8,a9,ah,ak,af⟩:=zaq g1
   obtain⟨b0,b1,b2,b3,b4,b5,b6,b7,b8,b9,al,aj,bf⟩:=zaq g2
   have G2:=zc g2
   clear g1 g2 X hr V I H
   go_wp2
   refine bodyPost_ret (results_cell_row rfl _ _ (w.heap.size+1+1) 122 _ (0,0) _ rfl (zbb ((zn (by omega)).trans G2.out)) Tryz.underlying122 rfl (by kernel_rfl)) rfl ?_
   obtain⟨m',s'⟩:=J.out.grow_im (x:=y) (zgm w ..) HG.out HR.out (by (first|rw[zaB]|rw[zae]);exact ac.out) (((Off.refl _ _ _).set (b:=w.heap.size) (Nat.le_refl _) (by (first|rw[zaB]|rw[zae]);omega) _ _).set12 (b:=w.heap.size+1+1) (by omega) (by (first|rw[zaB]|rw[zae]);omega) ..) (by omega)
   exact⟨_,{q with im:=q.im++[y]},z,by simp[pv],U.out,m',s'⟩
 ·have dz:decide (0≤z)=true:=decide_eq_true (by omega)
  have U:Hid (Is (bd x (zal C y)) q z):=zgo HX.out M
  clear Z O
  unfold pv imV
  go_enter Tryz.func146,Tryz.ntmps146
  go_wp2
  refine bodyPost_ret (results_cell_row rfl _ _ (w.heap.size+1+1) 122 _ (0,0) _ rfl ((new3 w _ _ _).2.2) Tryz.underlying122 rfl (by kernel_rfl)) rfl ?_
  exact zcB rfl U.out J.out (zdj w _ _ _)
theorem zec (C:Cx) (gt M j:Nat) (x:PR) (S:Sv) (q:PS) (z:Int) (d:Nat) (y:Ep) (w:World) (hx:Is x q z) (U:Mem C gt M j S q w) (hp:z<0→1≤q.pos):
  Calls Tryz.prog 148 #[pv C gt M S q z d,epV y] w (Out C gt M j (bd x (zq C y)) d S w):=by
 obtain⟨i0,hi,Z,ac,ab⟩:=info_parts Tryz.infoExp
 have I:=zc U
 have HX:=zc hx
 have ak:q.ep.length≤40:=by have:=U.inv.ep;omega
 have aj:q.la.length≤40:=by have:=U.inv.ep;omega
 clear hx
 by_cases Y:z<0
 ·have dz:decide (0≤z)=false:=decide_eq_false (by omega)
  by_cases hn:40≤q.ep.length+q.la.length
  ·have V:Hid (Is (bd x (zq C y)) q (zu C (q.pos-1))):=zgn HX.out Y (if_pos hn)
   have qn:decide ((40:Int)≤(q.ep.length:Int)+(q.la.length:Int))=true:=decide_eq_true (by omega)
   have aa:=hp Y
   clear hp U
   unfold pv epV
   go_enter Tryz.func148,Tryz.ntmps148
   go_wp2_with fail
   refine (zfn C gt M j S q z d _ (((I.out.alloc _).alloc _).alloc _) Y aa).mono ?_
   rintro e w2 ⟨rfl,O⟩
   have ae:Below w.heap.size w w2:=zh1 O
   have G3:Hid (_=_):=(O.block (w.heap.size+1+1) (by rw[zae];omega)).trans ((new3 w _ _ _).2.2)
   obtain⟨c0,c1,c2,c3,c4,c5,c6,c7,c8,c9,al,am,cf⟩:=zaq G3.out
   clear O
   unfold pv
   go_wp2
   refine bodyPost_ret (results_cell_row rfl _ _ (w.heap.size+1+1) 122 _ (0,0) _ rfl (zbb G3.out) Tryz.underlying122 rfl (by kernel_rfl)) rfl ?_
   exact zcB rfl V.out I.out (zbU ae (by omega) ..)
  ·have qn:decide ((40:Int)≤(q.ep.length:Int)+(q.la.length:Int))=false:=decide_eq_false (by omega)
   cases hd:(y.loc.toList==[42,100,101,102,97,117,108,116]) with
   |true=>
    have V:Hid (Is (bd x (zq C y)) {q with la:=q.la++[y]} z):=zfo HX.out Y (by rw[zq,if_neg hn,if_pos hd])
    have A:=fun o1 o2 o3 o4=>((((I.out.own.la.alloc o1).alloc o2).alloc o3).alloc o4)
    clear hp U
    unfold pv epV
    go_enter Tryz.func148,Tryz.ntmps148
    go_wp2_with (at_builtin;refine zcw _ rfl _ _ 32 rfl j 86 i0 _ 4 56 Tryz.underlying32 hi Z ac ab rfl (by decide) (by decide) S.la q.la.length _ (by rfl) (A ..) (w.heap.size+1+1+1) (epL y) (by rfl) (by first|exact (zcd w ..).2.2.2|exact (new3 w _ _ _).2.2) rfl (by intro u hu;simp[epL] at hu;rcases hu with rfl|rfl|rfl|rfl<;>rfl) (by omega) (by have:=I.out.base;(first|rw[zaB]|rw[zae]);omega) ?_)
    intro r' w2 hr L J
    have HR:=zc hr
    have HG:=zc L
    have N:=zc J
    have H:=fun b hb=>zeb (W:=w) I.out.own (Nat.le_refl _) (r:=S.la.blk) (fun k e=>.inr (.inr (.inr (.inr (.inr e))))) b hb
    have g1:=(L.block w.heap.size (by (first|rw[zaB]|rw[zae]);omega) (H _ (Nat.le_refl _))).trans (by first|exact (zcd w ..).1|exact (new3 w _ _ _).1)
    have X:=(L.block (w.heap.size+1+1) (by (first|rw[zaB]|rw[zae]);omega) (H _ (by omega))).trans (by first|exact (zcd w ..).2.2.1|exact (new3 w _ _ _).2.1)
    obtain⟨a0,a1,a2,a3,a4,a5,a6,a7,a8,a9,ad,ah,af⟩:=zaq g1
    obtain⟨b0,b1,b2,b3,b4,b5,b6,b7,b8,b9,ai,ag,bf⟩:=zaq X
    have G2:=zc X
    clear g1 X L hr J H A
    go_wp2
    refine bodyPost_ret (results_cell_row rfl _ _ (w.heap.size+1+1) 122 _ (0,0) _ rfl (zbb ((zn (by omega)).trans G2.out)) Tryz.underlying122 rfl (by kernel_rfl)) rfl ?_
    obtain⟨m',s'⟩:=I.out.grow_la (x:=y) (zgm w ..) HG.out HR.out (by (first|rw[zaB]|rw[zae]);exact N.out) (((Off.refl _ _ _).set (b:=w.heap.size) (Nat.le_refl _) (by (first|rw[zaB]|rw[zae]);omega) _ _).set12 (b:=w.heap.size+1+1) (by omega) (by (first|rw[zaB]|rw[zae]);omega) ..) (by omega)
    exact⟨_,{q with la:=q.la++[y]},z,by simp[pv],V.out,m',s'⟩
   |false=>
    have V:Hid (Is (bd x (zq C y)) {q with ep:=q.ep++[y]} z):=zfo HX.out Y (by rw[zq,if_neg hn,hd];rfl)
    have A:=fun o1 o2 o3 o4=>((((I.out.own.ep.alloc o1).alloc o2).alloc o3).alloc o4)
    clear hp U
    unfold pv epV
    go_enter Tryz.func148,Tryz.ntmps148
    go_wp2_with (at_builtin;refine zcw _ rfl _ _ 32 rfl j 86 i0 _ 4 56 Tryz.underlying32 hi Z ac ab rfl (by decide) (by decide) S.ep q.ep.length _ (by rfl) (A ..) (w.heap.size+1+1+1) (epL y) (by rfl) (by first|exact (zcd w ..).2.2.2|exact (new3 w _ _ _).2.2) rfl (by intro u hu;simp[epL] at hu;rcases hu with rfl|rfl|rfl|rfl<;>rfl) (by omega) (by have:=I.out.base;(first|rw[zaB]|rw[zae]);omega) ?_)
    intro r' w2 hr L J
    have HR:=zc hr
    have HG:=zc L
    have N:=zc J
    have H:=fun b hb=>zeb (W:=w) I.out.own (Nat.le_refl _) (r:=S.ep.blk) (fun k e=>.inr (.inr (.inl e))) b hb
    have g1:=(L.block w.heap.size (by (first|rw[zaB]|rw[zae]);omega) (H _ (Nat.le_refl _))).trans (by first|exact (zcd w ..).1|exact (new3 w _ _ _).1)
    have X:=(L.block (w.heap.size+1+1) (by (first|rw[zaB]|rw[zae]);omega) (H _ (by omega))).trans (by first|exact (zcd w ..).2.2.1|exact (new3 w _ _ _).2.1)
    obtain⟨a0,a1,a2,a3,a4,a5,a6,a7,a8,a9,ad,ah,af⟩:=zaq g1
    obtain⟨b0,b1,b2,b3,b4,b5,b6,b7,b8,b9,ai,ag,bf⟩:=zaq X
    have G2:=zc X
    clear g1 X L hr J H A
    go_wp2
    refine bodyPost_ret (results_cell_row rfl _ _ (w.heap.size+1+1) 122 _ (0,0) _ rfl (zbb ((zn (by omega)).trans G2.out)) Tryz.underlying122 rfl (by kernel_rfl)) rfl ?_
    obtain⟨m',s'⟩:=I.out.grow_ep (x:=y) (zgm w ..) HG.out HR.out (by (first|rw[zaB]|rw[zae]);exact N.out) (((Off.refl _ _ _).set (b:=w.heap.size) (Nat.le_refl _) (by (first|rw[zaB]|rw[zae]);omega) _ _).set12 (b:=w.heap.size+1+1) (by omega) (by (first|rw[zaB]|rw[zae]);omega) ..) (by omega)
    exact⟨_,{q with ep:=q.ep++[y]},z,by simp[pv],V.out,m',s'⟩
 ·have dz:decide (0≤z)=true:=decide_eq_true (by omega)
  have V:Hid (Is (bd x (zq C y)) q z):=zgo HX.out Y
  clear hp U
  unfold pv epV
  go_enter Tryz.func148,Tryz.ntmps148
  go_wp2
  refine bodyPost_ret (results_cell_row rfl _ _ (w.heap.size+1+1) 122 _ (0,0) _ rfl ((new3 w _ _ _).2.2) Tryz.underlying122 rfl (by kernel_rfl)) rfl ?_
  exact zcB rfl V.out I.out (zdj w _ _ _)
theorem zdl (C:Cx) (Y A j:Nat) (x:PR) (S:Sv) (q:PS) (z:Int) (d:Nat) (k:Int) (nm:ByteArray) (w:World) (hx:Is x q z) (M:Mem C Y A j S q w) (Z:z<0→1≤q.pos):
  Calls Tryz.prog 113 #[pv C Y A S q z d,.int .i64 k,.string nm] w (Out C Y A j (bd x (zU C k nm)) d S w):=by
 obtain⟨i0,hi,ab,ae,ad⟩:=info_parts Tryz.infoStmt
 have J:=zc M
 have HX:=zc hx
 have ah:q.ex.length≤300:=by have:=M.inv.ex;omega
 have ag:q.st.length≤80:=by have:=M.inv.st;omega
 clear hx
 by_cases N:z<0
 ·have dz:decide (0≤z)=false:=decide_eq_false (by omega)
  by_cases hn:80≤q.st.length
  ·have U:Hid (Is (bd x (zU C k nm)) q (zu C (q.pos-1))):=zgn HX.out N (if_pos hn)
   have qn:decide ((80:Int)≤(q.st.length:Int))=true:=decide_eq_true (by omega)
   have O:=Z N
   clear Z M
   unfold pv
   go_enter Tryz.func113,Tryz.ntmps113
   go_wp2_with fail
   refine (zfn C Y A j S q z d _ ((J.out.alloc _).alloc _) N O).mono ?_
   rintro e w2 ⟨rfl,L⟩
   have aa:Below w.heap.size w w2:=zbi L
   have G3:Hid (_=_):=(L.block (w.heap.size+1) (by rw[zcQ];omega)).trans (new2 w _ _)
   obtain⟨c0,c1,c2,c3,c4,c5,c6,c7,c8,c9,aj,an,cf⟩:=zaq G3.out
   clear L
   unfold pv
   go_wp2
   refine bodyPost_ret (results_cell_row rfl _ _ (w.heap.size+1) 122 _ (0,0) _ rfl (zbb G3.out) Tryz.underlying122 rfl (by kernel_rfl)) rfl ?_
   exact zcB rfl U.out J.out (zbU aa (by omega) ..)
  ·have qn:decide ((80:Int)≤(q.st.length:Int))=false:=decide_eq_false (by omega)
   have U:Hid (Is (bd x (zU C k nm)) {q with st:=q.st++[⟨k,nm,(q.ex.length:Int)-1⟩]} z):=zfo HX.out N (if_neg hn)
   have H:=fun o1 o2 o3=>(((J.out.own.st.alloc o1).alloc o2).alloc o3)
   clear Z M
   unfold pv
   go_enter Tryz.func113,Tryz.ntmps113
   go_wp2_with (at_builtin;refine zcw _ rfl _ _ 33 rfl j 107 i0 _ 3 32 Tryz.underlying33 hi ab ae ad rfl (by decide) (by decide) S.st q.st.length _ (by rfl) (H _ _ _) (w.heap.size+1+1) (smL ⟨k,nm,(q.ex.length:Int)-1⟩) (by rfl) (by first|exact (zcd w ..).2.2.2|exact (new3 w _ _ _).2.2) rfl (by intro u hu;simp[smL] at hu;rcases hu with rfl|rfl|rfl<;>rfl) (by omega) (by have:=J.out.base;(first|rw[zaB]|rw[zae]);omega) ?_)
   intro r' w2 hr X V
   have HR:=zc hr
   have HG:=zc X
   have ac:=zc V
   have I:=fun b hb=>zeb (W:=w) J.out.own (Nat.le_refl _) (r:=S.st.blk) (fun k e=>.inr (.inr (.inr (.inl e)))) b hb
   have g1:=(X.block w.heap.size (by (first|rw[zaB]|rw[zae]);omega) (I _ (Nat.le_refl _))).trans (by first|exact (zcd w ..).1|exact (new3 w _ _ _).1)
   have g2:=(X.block (w.heap.size+1) (by (first|rw[zaB]|rw[zae]);omega) (I _ (by omega))).trans (by first|exact (zcd w ..).2.2.1|exact (new3 w _ _ _).2.1)
   obtain⟨a0,a1,a2,a3,a4,a5,a6,a7,a8,a9,ai,al,af⟩:=zaq g1
   obtain⟨b0,b1,b2,b3,b4,b5,b6,b7,b8,b9,am,ak,bf⟩:=zaq g2
   have G2:=zc g2
   clear g1 g2 X hr V I H
   go_wp2
   refine bodyPost_ret (results_cell_row rfl _ _ (w.heap.size+1) 122 _ (0,0) _ rfl (zbb ((zn (by omega)).trans G2.out)) Tryz.underlying122 rfl (by kernel_rfl)) rfl ?_
   obtain⟨m',s'⟩:=J.out.grow_st (x:=⟨k,nm,(q.ex.length:Int)-1⟩) (zdj w _ _ _) HG.out HR.out (by (first|rw[zaB]|rw[zae]);exact ac.out) (((Off.refl _ _ _).set (b:=w.heap.size) (Nat.le_refl _) (by (first|rw[zaB]|rw[zae]);omega) _ _).set12 (b:=w.heap.size+1) (by omega) (by (first|rw[zaB]|rw[zae]);omega) ..) (by omega)
   exact⟨_,{q with st:=q.st++[⟨k,nm,(q.ex.length:Int)-1⟩]},z,by simp[pv],U.out,m',s'⟩
 ·have dz:decide (0≤z)=true:=decide_eq_true (by omega)
  have U:Hid (Is (bd x (zU C k nm)) q z):=zgo HX.out N
  clear Z M
  unfold pv
  go_enter Tryz.func113,Tryz.ntmps113
  go_wp2
  refine bodyPost_ret (results_cell_row rfl _ _ (w.heap.size+1) 122 _ (0,0) _ rfl (new2 w _ _) Tryz.underlying122 rfl (by kernel_rfl)) rfl ?_
  exact zcB rfl U.out J.out (zbc w _ _)
theorem OwnR.drew {w:World} {j size n:Nat} {e:TypeId} {r:Rw} {xs:List Value} (h:OwnR w j e size r n xs):OwnR w.drew j e size r n xs:=h
theorem zjn (x:Ex): ∀u∈exL x,u.oneCell'=true:=by
 intro u j
 simp[exL] at j
 rcases j with rfl|rfl|rfl|rfl|rfl|rfl<;>rfl
theorem IM.grow_ex {C:Cx} {Y M A z:Nat} {S:Sv} {q:PS} {w W I:World} {j:Rw} {x:Ex} (h:IM C Y M A z S q w) (hW:Below w.heap.size w W) (hg:W.grownBy I S.ex.blk) (hr:OwnR I A 109 6 j (q.ex.length+1) (q.ex.flatMap exL++exL x)) (V:j.blk=S.ex.blk∨j.blk=some W.heap.size) (hn:q.ex.length<300):
  IM C Y M A z {S with ex:=j} {q with ex:=q.ex++[x]} (I.setCell ⟨z,8,none⟩ (.slice j.a (q.ex.length+1) j.cap))∧IS z S w {S with ex:=j} (I.setCell ⟨z,8,none⟩ (.slice j.a (q.ex.length+1) j.cap)):=by
 obtain⟨N,L⟩:=h.mem.grow_ex (x:=x) hW hg hr V (Off.refl _ _ _) hn
 have H:=h.free
 have U:=h.lt
 have J: ¬Sv.has {S with ex:=j} z:=fun g=>(L.sub z g).elim H fun g'=>by omega
 have O: ∀k,k≠z→(I.setCell ⟨z,8,none⟩ (.slice j.a (q.ex.length+1) j.cap)).heap[k]? =I.heap[k]?:=fun k O=>Below.heap_setCell I ⟨z,8,none⟩ _ k O
 have X:(I.setCell ⟨z,8,none⟩ (.slice j.a (q.ex.length+1) j.cap)).heap.size=I.heap.size:=by show (I.heap.modify _ _).size=_;simp
 have hc:=(L.block z U H).trans h.cells
 refine⟨⟨⟨N.own.keep fun k g=>O k fun e=>J (by rw[←e];exact g),N.inv,zbI N.tok (O Y h.ne.symm),N.few,by rw[X];exact N.base⟩,?_,h.ge⟩,?_⟩
 ·rw[zaz hc]
  simp
 ·exact (show IS z S w {S with ex:=j} I from⟨L.os,L.tape,L.output,L.size,fun k h1 Z _=>L.block k h1 Z,L.sub⟩).set _ _
theorem znn (C:Cx) (gt N j z:Nat) (S:Sv) (q:PS) (x:Ex) (w:World) (h:IM C gt N j z S q w) (hn:q.ex.length<300):
  Calls Tryz.prog 232 #[.pointer (some ⟨z,0,none⟩),exV x] w fun e w'=>e= .returned (.int .i64 q.ex.length)∧∃S',IM C gt N j z S' {q with ex:=q.ex++[x]} w'∧IS z S w S' w':=by
 obtain⟨i0,hi,U,X,Z⟩:=info_parts Tryz.infoExpr
 have O:=zc h
 have ab:=h.lt
 obtain⟨c0,c1,c2,c3,c4,c5,c6,c7,c8,c9,cf⟩:=zag h.cells
 have J:=fun H A=>((O.out.mem.own.ex.alloc H).drew.alloc A)
 have ac:=h.mem.base
 have L:some z≠S.ex.blk:=fun e=>O.out.free (.inr (.inr (.inr (.inr (.inl e.symm)))))
 have HN:=zc L
 have Y: ∀H A,j≤((w.alloc H).alloc A).heap.size:=fun H A=>by rw[zcQ];omega
 have aa: ∀H A,z<((w.alloc H).alloc A).heap.size:=fun H A=>by rw[zcQ];omega
 clear h L
 unfold exV
 go_enter Tryz.func232,Tryz.ntmps232
 go_wp2_with fail
 refine (zdY z q.ex.length 300 _ (by omega)).mono ?_
 rintro e w1 ⟨rfl,rfl⟩
 go_wp2_with fail
 go_region_law (first|(refine zdi rfl (.tmp 18) (.tmp 20) 34 rfl j 109 i0 _ 6 64 Tryz.underlying34 hi U X Z rfl (by decide) (by decide) S.ex q.ex.length (q.ex.flatMap exL) (by rfl) (by exact J _ _) (w.heap.size+1) (exL x) (by rfl) (by exact new2 w _ _) rfl (zjn x) (by omega) (by exact Y _ _) ?_;intro r' w2 hr I M;have g2:=(I.block z (by exact aa _ _) HN.out).trans (by exact ((O.out.alloc _).alloc _).cells);obtain⟨d0,d1,d2,d3,d4,d5,d6,d7,d8,d9,df⟩:=zag g2))
 all_goals
  have HR:=zc hr
  have HG:=zc I
  have V:=zc M
  clear hr I M g2 c0 c1 c2 c3 c4 c5 c6 c7 c8 c9 cf
  go_wp2
  go_ret
  obtain⟨m',s'⟩:=O.out.grow_ex (zbc w _ _).drew HG.out HR.out V.out hn
  exact⟨zeu (by omega),_,m',s'⟩
theorem zh3 (x:Im): ∀u∈imL x,u.oneCell'=true:=by
 intro u j
 simp[imL] at j
 rcases j with rfl|rfl|rfl<;>rfl
theorem IM.grow_rq {C:Cx} {Y M A z:Nat} {S:Sv} {q:PS} {w W I:World} {j:Rw} {x:ByteArray} (h:IM C Y M A z S q w) (hW:Below w.heap.size w W) (hg:W.grownBy I S.rq.blk) (hr:OwnR I A 9 1 j (q.rq.length+1) (q.rq.map .string++[.string x])) (V:j.blk=S.rq.blk∨j.blk=some W.heap.size) (hn:q.rq.length<40):
  IM C Y M A z {S with rq:=j} {q with rq:=q.rq++[x]} (I.setCell ⟨z,4,none⟩ (.slice j.a (q.rq.length+1) j.cap))∧IS z S w {S with rq:=j} (I.setCell ⟨z,4,none⟩ (.slice j.a (q.rq.length+1) j.cap)):=by
 obtain⟨N,L⟩:=h.mem.grow_rq (x:=x) hW hg hr V (Off.refl _ _ _) hn
 have H:=h.free
 have U:=h.lt
 have J: ¬Sv.has {S with rq:=j} z:=fun g=>(L.sub z g).elim H fun g'=>by omega
 have O: ∀k,k≠z→(I.setCell ⟨z,4,none⟩ (.slice j.a (q.rq.length+1) j.cap)).heap[k]? =I.heap[k]?:=fun k O=>Below.heap_setCell I ⟨z,4,none⟩ _ k O
 have X:(I.setCell ⟨z,4,none⟩ (.slice j.a (q.rq.length+1) j.cap)).heap.size=I.heap.size:=by show (I.heap.modify _ _).size=_;simp
 have hc:=(L.block z U H).trans h.cells
 refine⟨⟨⟨N.own.keep fun k g=>O k fun e=>J (by rw[←e];exact g),N.inv,zbI N.tok (O Y h.ne.symm),N.few,by rw[X];exact N.base⟩,?_,h.ge⟩,?_⟩
 ·rw[zaz hc]
  simp
 ·exact (show IS z S w {S with rq:=j} I from⟨L.os,L.tape,L.output,L.size,fun k h1 Z _=>L.block k h1 Z,L.sub⟩).set _ _
theorem IM.grow_im {C:Cx} {Y M A z:Nat} {S:Sv} {q:PS} {w W I:World} {j:Rw} {x:Im} (h:IM C Y M A z S q w) (hW:Below w.heap.size w W) (hg:W.grownBy I S.im.blk) (hr:OwnR I A 84 3 j (q.im.length+1) (q.im.flatMap imL++imL x)) (V:j.blk=S.im.blk∨j.blk=some W.heap.size) (hn:q.im.length<40):
  IM C Y M A z {S with im:=j} {q with im:=q.im++[x]} (I.setCell ⟨z,5,none⟩ (.slice j.a (q.im.length+1) j.cap))∧IS z S w {S with im:=j} (I.setCell ⟨z,5,none⟩ (.slice j.a (q.im.length+1) j.cap)):=by
 obtain⟨N,L⟩:=h.mem.grow_im (x:=x) hW hg hr V (Off.refl _ _ _) hn
 have H:=h.free
 have U:=h.lt
 have J: ¬Sv.has {S with im:=j} z:=fun g=>(L.sub z g).elim H fun g'=>by omega
 have O: ∀k,k≠z→(I.setCell ⟨z,5,none⟩ (.slice j.a (q.im.length+1) j.cap)).heap[k]? =I.heap[k]?:=fun k O=>Below.heap_setCell I ⟨z,5,none⟩ _ k O
 have X:(I.setCell ⟨z,5,none⟩ (.slice j.a (q.im.length+1) j.cap)).heap.size=I.heap.size:=by show (I.heap.modify _ _).size=_;simp
 have hc:=(L.block z U H).trans h.cells
 refine⟨⟨⟨N.own.keep fun k g=>O k fun e=>J (by rw[←e];exact g),N.inv,zbI N.tok (O Y h.ne.symm),N.few,by rw[X];exact N.base⟩,?_,h.ge⟩,?_⟩
 ·rw[zaz hc]
  simp
 ·exact (show IS z S w {S with im:=j} I from⟨L.os,L.tape,L.output,L.size,fun k h1 Z _=>L.block k h1 Z,L.sub⟩).set _ _
theorem IM.grow_ep {C:Cx} {Y M A z:Nat} {S:Sv} {q:PS} {w W I:World} {j:Rw} {x:Ep} (h:IM C Y M A z S q w) (hW:Below w.heap.size w W) (hg:W.grownBy I S.ep.blk) (hr:OwnR I A 86 4 j (q.ep.length+1) (q.ep.flatMap epL++epL x)) (V:j.blk=S.ep.blk∨j.blk=some W.heap.size) (hn:q.ep.length+q.la.length<40):
  IM C Y M A z {S with ep:=j} {q with ep:=q.ep++[x]} (I.setCell ⟨z,6,none⟩ (.slice j.a (q.ep.length+1) j.cap))∧IS z S w {S with ep:=j} (I.setCell ⟨z,6,none⟩ (.slice j.a (q.ep.length+1) j.cap)):=by
 obtain⟨N,L⟩:=h.mem.grow_ep (x:=x) hW hg hr V (Off.refl _ _ _) hn
 have H:=h.free
 have U:=h.lt
 have J: ¬Sv.has {S with ep:=j} z:=fun g=>(L.sub z g).elim H fun g'=>by omega
 have O: ∀k,k≠z→(I.setCell ⟨z,6,none⟩ (.slice j.a (q.ep.length+1) j.cap)).heap[k]? =I.heap[k]?:=fun k O=>Below.heap_setCell I ⟨z,6,none⟩ _ k O
 have X:(I.setCell ⟨z,6,none⟩ (.slice j.a (q.ep.length+1) j.cap)).heap.size=I.heap.size:=by show (I.heap.modify _ _).size=_;simp
 have hc:=(L.block z U H).trans h.cells
 refine⟨⟨⟨N.own.keep fun k g=>O k fun e=>J (by rw[←e];exact g),N.inv,zbI N.tok (O Y h.ne.symm),N.few,by rw[X];exact N.base⟩,?_,h.ge⟩,?_⟩
 ·rw[zaz hc]
  simp
 ·exact (show IS z S w {S with ep:=j} I from⟨L.os,L.tape,L.output,L.size,fun k h1 Z _=>L.block k h1 Z,L.sub⟩).set _ _
theorem IM.grow_st {C:Cx} {Y M A z:Nat} {S:Sv} {q:PS} {w W I:World} {j:Rw} {x:Sm} (h:IM C Y M A z S q w) (hW:Below w.heap.size w W) (hg:W.grownBy I S.st.blk) (hr:OwnR I A 107 3 j (q.st.length+1) (q.st.flatMap smL++smL x)) (V:j.blk=S.st.blk∨j.blk=some W.heap.size) (hn:q.st.length<80):
  IM C Y M A z {S with st:=j} {q with st:=q.st++[x]} (I.setCell ⟨z,7,none⟩ (.slice j.a (q.st.length+1) j.cap))∧IS z S w {S with st:=j} (I.setCell ⟨z,7,none⟩ (.slice j.a (q.st.length+1) j.cap)):=by
 obtain⟨N,L⟩:=h.mem.grow_st (x:=x) hW hg hr V (Off.refl _ _ _) hn
 have H:=h.free
 have U:=h.lt
 have J: ¬Sv.has {S with st:=j} z:=fun g=>(L.sub z g).elim H fun g'=>by omega
 have O: ∀k,k≠z→(I.setCell ⟨z,7,none⟩ (.slice j.a (q.st.length+1) j.cap)).heap[k]? =I.heap[k]?:=fun k O=>Below.heap_setCell I ⟨z,7,none⟩ _ k O
 have X:(I.setCell ⟨z,7,none⟩ (.slice j.a (q.st.length+1) j.cap)).heap.size=I.heap.size:=by show (I.heap.modify _ _).size=_;simp
 have hc:=(L.block z U H).trans h.cells
 refine⟨⟨⟨N.own.keep fun k g=>O k fun e=>J (by rw[←e];exact g),N.inv,zbI N.tok (O Y h.ne.symm),N.few,by rw[X];exact N.base⟩,?_,h.ge⟩,?_⟩
 ·rw[zaz hc]
  simp
 ·exact (show IS z S w {S with st:=j} I from⟨L.os,L.tape,L.output,L.size,fun k h1 Z _=>L.block k h1 Z,L.sub⟩).set _ _
theorem IM.grow_la {C:Cx} {Y M A z:Nat} {S:Sv} {q:PS} {w W I:World} {j:Rw} {x:Ep} (h:IM C Y M A z S q w) (hW:Below w.heap.size w W) (hg:W.grownBy I S.la.blk) (hr:OwnR I A 86 4 j (q.la.length+1) (q.la.flatMap epL++epL x)) (V:j.blk=S.la.blk∨j.blk=some W.heap.size) (hn:q.ep.length+q.la.length<40):
  IM C Y M A z {S with la:=j} {q with la:=q.la++[x]} (I.setCell ⟨z,9,none⟩ (.slice j.a (q.la.length+1) j.cap))∧IS z S w {S with la:=j} (I.setCell ⟨z,9,none⟩ (.slice j.a (q.la.length+1) j.cap)):=by
 obtain⟨N,L⟩:=h.mem.grow_la (x:=x) hW hg hr V (Off.refl _ _ _) hn
 have H:=h.free
 have U:=h.lt
 have J: ¬Sv.has {S with la:=j} z:=fun g=>(L.sub z g).elim H fun g'=>by omega
 have O: ∀k,k≠z→(I.setCell ⟨z,9,none⟩ (.slice j.a (q.la.length+1) j.cap)).heap[k]? =I.heap[k]?:=fun k O=>Below.heap_setCell I ⟨z,9,none⟩ _ k O
 have X:(I.setCell ⟨z,9,none⟩ (.slice j.a (q.la.length+1) j.cap)).heap.size=I.heap.size:=by show (I.heap.modify _ _).size=_;simp
 have hc:=(L.block z U H).trans h.cells
 refine⟨⟨⟨N.own.keep fun k g=>O k fun e=>J (by rw[←e];exact g),N.inv,zbI N.tok (O Y h.ne.symm),N.few,by rw[X];exact N.base⟩,?_,h.ge⟩,?_⟩
 ·rw[zaz hc]
  simp
 ·exact (show IS z S w {S with la:=j} I from⟨L.os,L.tape,L.output,L.size,fun k h1 Z _=>L.block k h1 Z,L.sub⟩).set _ _
theorem zno (C:Cx) (gt N j z:Nat) (S:Sv) (q:PS) (x:Im) (w:World) (h:IM C gt N j z S q w) (hn:q.im.length<40):
  Calls Tryz.prog 226 #[.pointer (some ⟨z,0,none⟩),imV x] w fun e w'=>e= .returned (.tuple #[])∧∃S',IM C gt N j z S' {q with im:=q.im++[x]} w'∧IS z S w S' w':=by
 obtain⟨i0,hi,U,X,Z⟩:=info_parts Tryz.infoImp
 have O:=zc h
 have ab:=h.lt
 obtain⟨c0,c1,c2,c3,c4,c5,c6,c7,c8,c9,cf⟩:=zag h.cells
 have J:=fun H A=>((O.out.mem.own.im.alloc H).drew.alloc A)
 have ac:=h.mem.base
 have L:some z≠S.im.blk:=fun e=>O.out.free (.inr (.inl e.symm))
 have HN:=zc L
 have Y: ∀H A,j≤((w.alloc H).alloc A).heap.size:=fun H A=>by rw[zcQ];omega
 have aa: ∀H A,z<((w.alloc H).alloc A).heap.size:=fun H A=>by rw[zcQ];omega
 clear h L
 unfold imV
 go_enter Tryz.func226,Tryz.ntmps226
 go_wp2_with fail
 refine (zdY z q.im.length 40 _ (by omega)).mono ?_
 rintro e w1 ⟨rfl,rfl⟩
 go_wp2_with fail
 go_region_law (first|(refine zdi rfl (.tmp 17) (.tmp 19) 31 rfl j 84 i0 _ 3 48 Tryz.underlying31 hi U X Z rfl (by decide) (by decide) S.im q.im.length (q.im.flatMap imL) (by rfl) (by exact J _ _) (w.heap.size+1) (imL x) (by rfl) (by exact new2 w _ _) rfl (zh3 x) (by omega) (by exact Y _ _) ?_;intro r' w2 hr I M;have g2:=(I.block z (by exact aa _ _) HN.out).trans (by exact ((O.out.alloc _).alloc _).cells);obtain⟨d0,d1,d2,d3,d4,d5,d6,d7,d8,d9,df⟩:=zag g2))
 all_goals
  have HR:=zc hr
  have HG:=zc I
  have V:=zc M
  clear hr I M g2 c0 c1 c2 c3 c4 c5 c6 c7 c8 c9 cf
  go_wp2
  go_end0
  obtain⟨m',s'⟩:=O.out.grow_im (zbc w _ _).drew HG.out HR.out V.out hn
  exact⟨rfl,_,m',s'⟩
end Go.Proofs.YtjdddblpfbmpaaaGreat
