/-
  What passSigns of impl's parser answers: the walk.
  'append' of one element onto a row of the call's own,as one step of a region that draws its order. No program is spoken of.
  What spec's readers of one token answer: l4Full,l4Sign,l4Word,l4Reserved,l4Plain,l4Name: the walks.
  What spec's l4Plain and l4Name answer: the walks.
  What spec's l4Add,l4Imp,l4Stmt and l4Exp answer: the walks.
  What addExpr of impl's parser answers where there is room: the walk.
  A row of impl's parser grows by one element; what addImp answers where there is room: the walk.
-/
import Derived.Deep.LoopGhost
import Derived.Test.YtcidlffeeninbaaGreatClImplParseCToImplParseD
namespace Go.Proofs.YtcidlffeeninbaaGreat
set_option maxRecDepth 100000
set_option maxHeartbeats 3200000
open Go.RowKit Go.PlainAid Go.Sort
def zaF (C:Cx) (s:ByteArray):Nat→Nat→PS→PR
 |0,_,q=>.ok q
 |n+1,k,q=>bd (zd C 4 (s.extract k (k+1)) q) (zaF C s n (k+1))
theorem zhk {C:Cx} {k:Int} {x:ByteArray} {q:PS} (h:isT C q.pos k x=false):zd C k x q= .error (zs C q.pos):=by rw[zd,h];rfl
theorem zca {C:Cx} {k:Int} {x:ByteArray} {q:PS} (h:isT C q.pos k x=true):zd C k x q= .ok (adv q):=if_pos h
theorem zhl (C:Cx) (L A z H:Nat) (S:Sv) (q:PS) (s:ByteArray) (w:World) (h:IM C L A z H S q w) (hs:s.size≤100):
  Calls Tryz.prog 185 #[.pointer (some ⟨H,0,none⟩),.string s] w (zT C L A z H (zaF C s s.size 0 q) id (fun _=>.tuple #[]) S w):=by
 have O:=zc h
 clear h
 go_enter Tryz.func185,Tryz.ntmps185
 go_wp2
 go_loopg [7] s.size (fun k i wr=>∃(j:Nat) (D:PS),i= .int .i64 j∧j+k=s.size∧zaF C s k j D=zaF C s s.size 0 q∧IM C L A z H S D wr∧IS H S w S wr)
 case atStart=>exact⟨0,q,rfl,by omega,rfl,O.out,IS.refl _ _ _⟩
 case round=>
  obtain⟨j,D,rfl,Y,he,m,t⟩:=hrel
  have K:=zc he
  have HM:=zc m
  have X:=zc t
  clear he m t
  match gk,Y,K with
  |0,Y,K=>
   have Z: ¬j<s.size:=by omega
   go_wp2
   go_end0
   rw[←K.out]
   exact⟨rfl,S,HM.out,X.out⟩
  |k+1,Y,K=>
   have Z:j<s.size:=by omega
   obtain⟨E,M⟩: ∃E,E=j+1:=⟨_,rfl⟩
   have ej:(j:Int)+1=(E:Int):=by omega
   have ad:E≤s.size:=by omega
   have ac:j≤E:=by omega
   have HJ:=zc M
   clear M
   cases U:isT C D.pos 4 (s.extract j E) with
   |true=>
    have HX:Hid (zaF C s k E (adv D)=zaF C s s.size 0 q):=by
     show _=_
     rw[←K.out,zaF,←HJ.out,zca U]
     rfl
    go_wp2_with fail
    refine (zN C L A z H S D 4 (s.extract j E) _ HM.out (by decide)).mono ?_
    rintro e w1 ⟨rfl,J,N⟩
    rw[U] at J ⊢
    have I:=zc J
    have V:Hid (IS H S w S w1):=X.out.trans N
    clear J N
    go_wp2
    go_roundg k
    case rel=>exact⟨E,adv D,rfl,by have:=HJ.out;omega,HX.out,I.out,V.out⟩
    case measure=>omega
   |false=>
    have HX:Hid (zaF C s s.size 0 q= .error (zs C D.pos)):=by
     show _=_
     rw[←K.out,zaF,←HJ.out,zhk U]
     rfl
    go_wp2_with fail
    refine (zN C L A z H S D 4 (s.extract j E) _ HM.out (by decide)).mono ?_
    rintro e w1 ⟨rfl,J,N⟩
    rw[U] at J ⊢
    have I:=zc J
    have HB:Hid (Below z w w1):=(X.out.trans N).under O.out.mem.base O.out.mem.own O.out.ge
    clear J N
    go_wp2_with fail
    refine (zeC C L A z H S D _ I.out).mono ?_
    rintro e w2 ⟨rfl,ab⟩
    have aa:Hid (Below z w w2):=HB.out.trans (ab.mono I.out.mem.base)
    unfold Pan
    go_wp2
    refine⟨rfl,?_⟩
    rw[HX.out]
    exact⟨rfl,aa.out⟩
theorem zfp {P:Program} {O:Array Oper} {o:Oper} {a:Act} {W:World} {K:Act→World→Prop} {Q:Exit→Act→World→Prop} {E:Prop} (Z:o.guard=none) (s x:Operand) (t:TypeId)
  (ho:o.op= .call {callee:=.builtin .append,args:=#[s,x],argTypes:=#[t,t]})
  (A:Nat) (e:TypeId) (i:TypeInfo) (z:Value) (size q:Nat) (ht:P.underlying t=some (.slice e)) (hi:P.info? e=some i) (hz:i.zero=some z) (I:i.size=size) (X:i.bytes=q) (aa:z.cells.size=size) (Y:0<size) (N:q≤100)
  (r:Rw) (n:Nat) (xs:List Value) (hs:a.eval s= .slice r.a n r.cap) (M:OwnR W A e size r n xs)
  (U:Nat) (w:List Value) (hx:a.eval x= .slice (some ⟨U,0,none⟩) 1 1) (hg:W.heap[U]? =some (.cells w.toArray e (0,0))) (hl:w.length=size) (h1: ∀u∈w,u.oneCell'=true) (hn:n+1≤1000000) (H:A≤W.heap.size)
  (h: ∀L J,OwnR J A e size L (n+1) (xs++w)→W.grownBy J r.blk→(L.blk=r.blk∨L.blk=some W.heap.size)→K (a.put o.dst (.slice L.a (n+1) L.cap)) J):
  if Region.wanted o (yielded O a.tmps)=true then Oper.wp P o a W K Q else E:=by
 have hw:Region.wanted o (yielded O a.tmps)=true:=by simp[Region.wanted,Z]
 rw[if_pos hw]
 obtain⟨v',J,hr,h2,h3,_,h5⟩:=run_append_own_at (P:=P) W A t o.type e i z size q ht hi hz I X aa Y _ n xs M ⟨U,0,none⟩ 1 1 w (by omega) (by
  intro j u hj
  have e1:(⟨U,0,none⟩:Addr).add j=⟨U,j,none⟩:=by simp[Addr.add];exact fun h=>h.symm
  rw[e1]
  simp[World.cell?,hg,hj]) h1 (by unfold maxLen;omega) (by have:(n+1)*q≤1000000*100:=Nat.mul_le_mul hn N;omega) H
 unfold Oper.wp execOp
 simp only[ho,resolve,invoke,builtin,Sem.run_bind,Sem.run_pure,Result.andThen_ok,List.map_toArray,List.map_cons,List.map_nil,hs,hx,hr]
 rcases h2.2 with ⟨hv,ac⟩|⟨g',D,ab,rfl,V⟩
 ·omega
 ·refine h ⟨some ⟨g',0,none⟩,D⟩ J h2 ?_ ?_
  ·rw[←zb0 r n];exact h3
  ·rw[←zb0 r n,←zb0 ⟨some ⟨g',0,none⟩,D⟩ (n+1)];exact h5
def Is (x:PR) (q:PS) (z:Int):Prop:=
 match x with
 | .ok q0=>q=q0∧z= -1
 | .error e=>z=(e:Int)
theorem zaa (q:PS):Is (.ok q) q (-1):=⟨rfl,rfl⟩
theorem zaG {x:PR} {q:PS} {z:Int} (h:Is x q z) (A:z<0):x= .ok q∧z= -1:=by
 cases x with
 |ok w=>obtain⟨rfl,rfl⟩:=h;exact⟨rfl,rfl⟩
 |error e=>have:z=(e:Int):=h;omega
theorem zd1 {x:PR} {q:PS} {z:Int} (h:Is x q z) (w: ¬z<0): ∃e,x= .error e∧z=(e:Int):=by
 cases x with
 |ok A=>obtain⟨rfl,rfl⟩:=h;exact absurd (by decide) w
 |error e=>exact⟨e,rfl,h⟩
def Out (C:Cx) (gt cap base:Nat) (y:PR) (d:Nat) (S:Sv) (w:World) (e:Ending) (w':World):Prop:=
 ∃S' q' z',e= .returned (pv C gt cap S' q' z' d)∧Hid (Is y q' z')∧Mem C gt cap base S' q' w'∧Stp S w S' w'
theorem zcB {C:Cx} {z q h:Nat} {y:PR} {d:Nat} {S:Sv} {w A:World} {q':PS} {z':Int} {v:Value} (E:v=pv C z q S q' z' d) (H:Is y q' z') (I:Mem C z q h S q' w) (D:Below w.heap.size w A):Out C z q h y d S w (.returned v) A:=
 ⟨S,q',z',by rw[E],H,I.later D,Stp.below D⟩
theorem zfq (C:Cx) (I h A:Nat) (S:Sv) (q:PS) (z:Int) (d:Nat) (w:World) (D:Mem C I h A S q w) (U:z<0) (O:1≤q.pos):
  Calls Tryz.prog 139 #[pv C I h S q z d] w fun e N=>e= .returned (pv C I h S q (zs C (q.pos-1)) d)∧Below w.heap.size w N:=by
 obtain⟨p,E⟩: ∃p,q.pos=p+1:=⟨q.pos-1,by omega⟩
 have H:p<C.ts.length:=by have:=D.inv.pos;omega
 have J:=D.few
 obtain⟨_,_,_,L⟩:=D.tok.cells H (d:=⟨0,sNone,0,C.fin⟩)
 have K:=(zau D.tok).1
 change _=some (Value.int .i64 (zs C p)) at L
 rw[show q.pos-1=p from by omega]
 have M:(q.pos:Int)-1=p:=by omega
 clear E
 unfold pv
 go_enter Tryz.func139,Tryz.ntmps139
 go_wp2
 refine bodyPost_ret (results_cell_row rfl _ _ (w.heap.size+1) 101 _ (0,0) _ rfl (new2 w _ _) Tryz.underlying101 rfl (by kernel_rfl)) rfl ?_
 exact⟨rfl,zbc w _ _⟩
theorem zai (C:Cx) (L A h:Nat) (x:PR) (S:Sv) (q:PS) (z:Int) (d:Nat) (s:ByteArray) (w:World) (hx:Is x q z) (hm:Mem C L A h S q w):
  Calls Tryz.prog 91 #[pv C L A S q z d,.string s] w (Out C L A h (bd x (zd C 4 s)) d S w):=by
 have HM:=zc hm
 have E:=hm.tok
 have D:=hm.few
 have HX:=zc hx
 clear hx hm
 cases H:(decide (z<0)&&isT C q.pos 4 s) with
 |true=>
  have ab:q.pos<C.ts.length:=by rw[Bool.and_eq_true] at H;exact za8 H.2 (by decide)
  have HY:Hid (Is (bd x (zd C 4 s)) (adv q) z):=by
   rw[Bool.and_eq_true,decide_eq_true_eq] at H
   obtain⟨V,h2⟩:=zaG HX.out H.1
   show Is (bd x (zd C 4 s)) (adv q) z
   rw[V,zA,zd,if_pos H.2]
   exact⟨rfl,h2⟩
  unfold pv
  go_enter Tryz.func91,Tryz.ntmps91
  go_wp2_with fail
  refine (zj C L A h S q z d 4 s _ (zr (zr E _) _) D (by decide)).mono ?_
  rintro e w1 ⟨rfl,I⟩
  rw[H]
  obtain⟨Y,J⟩:=zcL I
  obtain⟨a0,a1,a2,a3,a4,a5,a6,a7,a8,a9,U,X,af⟩:=zan Y
  obtain⟨b0,b1,b2,b3,b4,b5,b6,b7,b8,b9,N,O,bf⟩:=zan J
  have G2:=zc J
  clear Y J H
  go_wp2
  refine bodyPost_ret (results_cell_row rfl _ _ (w.heap.size+1) 101 _ (0,0) _ rfl (zbb ((zv (by omega)).trans G2.out)) Tryz.underlying101 rfl (by kernel_rfl)) rfl ?_
  exact zcB rfl HY.out (HM.out.adv ab) (zbR ((zbg I).setCell (Nat.le_refl _) _) (Nat.le_succ _) ..)
 |false=>
  have HY:Hid (Is (bd x (zd C 4 s)) q (zb2 C q.pos z)):=by
   show Is (bd x (zd C 4 s)) q (zb2 C q.pos z)
   unfold zb2
   by_cases M:z<0
   ·obtain⟨V,h2⟩:=zaG HX.out M
    simp only[M,decide_true,Bool.true_and] at H
    rw[V,zA,zd,H,if_pos M]
    rfl
   ·obtain⟨e,V,h2⟩:=zd1 HX.out M
    rw[V,ze3,if_neg M]
    exact h2
  unfold pv
  go_enter Tryz.func91,Tryz.ntmps91
  go_wp2_with fail
  refine (zj C L A h S q z d 4 s _ (zr (zr E _) _) D (by decide)).mono ?_
  rintro e w1 ⟨rfl,I⟩
  rw[H]
  obtain⟨Y,J⟩:=zcL I
  obtain⟨a0,a1,a2,a3,a4,a5,a6,a7,a8,a9,U,X,af⟩:=zan Y
  obtain⟨b0,b1,b2,b3,b4,b5,b6,b7,b8,b9,N,O,bf⟩:=zan J
  have G2:=zc J
  have K:=zcx E (zbg I)
  clear Y J H
  go_wp2_with fail
  refine (zdz C L A h S q z d _ K D).mono ?_
  rintro e w2 ⟨rfl,Z⟩
  have G3:Hid (_=_):=(Z.block _ (Nat.lt_of_lt_of_le (by simp) I.size)).trans G2.out
  obtain⟨c0,c1,c2,c3,c4,c5,c6,c7,c8,c9,ad,ac,cf⟩:=zan G3.out
  have aa:=(zbg I).trans (Z.mono (zbg I).size)
  clear a0 a1 a2 a3 a4 a5 a6 a7 a8 a9 U X b0 b1 b2 b3 b4 b5 b6 b7 b8 b9 N O af bf
  unfold pv
  go_wp2
  refine bodyPost_ret (results_cell_row rfl _ _ (w.heap.size+1) 101 _ (0,0) _ rfl (zbb G3.out) Tryz.underlying101 rfl (by kernel_rfl)) rfl ?_
  exact zcB rfl HY.out HM.out (zbR aa (Nat.le_succ _) ..)
-- GEN
theorem zaM (C:Cx) (L A h:Nat) (x:PR) (S:Sv) (q:PS) (z:Int) (d:Nat) (s:ByteArray) (w:World) (hx:Is x q z) (hm:Mem C L A h S q w):
  Calls Tryz.prog 93 #[pv C L A S q z d,.string s] w (Out C L A h (bd x (zd C 1 s)) d S w):=by
 have HM:=zc hm
 have E:=hm.tok
 have D:=hm.few
 have HX:=zc hx
 clear hx hm
 cases H:(decide (z<0)&&isT C q.pos 1 s) with
 |true=>
  have ab:q.pos<C.ts.length:=by rw[Bool.and_eq_true] at H;exact za8 H.2 (by decide)
  have HY:Hid (Is (bd x (zd C 1 s)) (adv q) z):=by
   rw[Bool.and_eq_true,decide_eq_true_eq] at H
   obtain⟨V,h2⟩:=zaG HX.out H.1
   show Is (bd x (zd C 1 s)) (adv q) z
   rw[V,zA,zd,if_pos H.2]
   exact⟨rfl,h2⟩
  unfold pv
  go_enter Tryz.func93,Tryz.ntmps93
  go_wp2_with fail
  refine (zj C L A h S q z d 1 s _ (zr (zr E _) _) D (by decide)).mono ?_
  rintro e w1 ⟨rfl,I⟩
  rw[H]
  obtain⟨Y,J⟩:=zcL I
  obtain⟨a0,a1,a2,a3,a4,a5,a6,a7,a8,a9,U,X,af⟩:=zan Y
  obtain⟨b0,b1,b2,b3,b4,b5,b6,b7,b8,b9,N,O,bf⟩:=zan J
  have G2:=zc J
  clear Y J H
  go_wp2
  refine bodyPost_ret (results_cell_row rfl _ _ (w.heap.size+1) 101 _ (0,0) _ rfl (zbb ((zv (by omega)).trans G2.out)) Tryz.underlying101 rfl (by kernel_rfl)) rfl ?_
  exact zcB rfl HY.out (HM.out.adv ab) (zbR ((zbg I).setCell (Nat.le_refl _) _) (Nat.le_succ _) ..)
 |false=>
  have HY:Hid (Is (bd x (zd C 1 s)) q (zb2 C q.pos z)):=by
   show Is (bd x (zd C 1 s)) q (zb2 C q.pos z)
   unfold zb2
   by_cases M:z<0
   ·obtain⟨V,h2⟩:=zaG HX.out M
    simp only[M,decide_true,Bool.true_and] at H
    rw[V,zA,zd,H,if_pos M]
    rfl
   ·obtain⟨e,V,h2⟩:=zd1 HX.out M
    rw[V,ze3,if_neg M]
    exact h2
  unfold pv
  go_enter Tryz.func93,Tryz.ntmps93
  go_wp2_with fail
  refine (zj C L A h S q z d 1 s _ (zr (zr E _) _) D (by decide)).mono ?_
  rintro e w1 ⟨rfl,I⟩
  rw[H]
  obtain⟨Y,J⟩:=zcL I
  obtain⟨a0,a1,a2,a3,a4,a5,a6,a7,a8,a9,U,X,af⟩:=zan Y
  obtain⟨b0,b1,b2,b3,b4,b5,b6,b7,b8,b9,N,O,bf⟩:=zan J
  have G2:=zc J
  have K:=zcx E (zbg I)
  clear Y J H
  go_wp2_with fail
  refine (zdz C L A h S q z d _ K D).mono ?_
  rintro e w2 ⟨rfl,Z⟩
  have G3:Hid (_=_):=(Z.block _ (Nat.lt_of_lt_of_le (by simp) I.size)).trans G2.out
  obtain⟨c0,c1,c2,c3,c4,c5,c6,c7,c8,c9,ad,ac,cf⟩:=zan G3.out
  have aa:=(zbg I).trans (Z.mono (zbg I).size)
  clear a0 a1 a2 a3 a4 a5 a6 a7 a8 a9 U X b0 b1 b2 b3 b4 b5 b6 b7 b8 b9 N O af bf
  unfold pv
  go_wp2
  refine bodyPost_ret (results_cell_row rfl _ _ (w.heap.size+1) 101 _ (0,0) _ rfl (zbb G3.out) Tryz.underlying101 rfl (by kernel_rfl)) rfl ?_
  exact zcB rfl HY.out HM.out (zbR aa (Nat.le_succ _) ..)
theorem zdY (s:ByteArray) (h:Bool) (w:World):
  Calls Tryz.prog 166 #[.string s,.bool h] w fun e N=>e= .returned (.bool (zu s h))∧N=w:=by
 cases z:(s.toList==[105,109,112,111,114,116]) with
 |true=>
  have q:Hid (zu s h=true):=by show zu s h=true;simp[zu,z]
  go_enter Tryz.func166,Tryz.ntmps166
  go_wp2
  go_ret
  exact⟨zh q.out.symm,rfl⟩
 |false=>
  cases A:(s.toList==[101,120,112,111,114,116]) with
  |true=>
   have q:Hid (zu s h=true):=by show zu s h=true;simp[zu,z,A]
   go_enter Tryz.func166,Tryz.ntmps166
   go_wp2
   go_ret
   exact⟨zh q.out.symm,rfl⟩
  |false=>
   cases D:(s.toList==[100,101,102,97,117,108,116]) with
   |true=>
    have q:Hid (zu s h=true):=by show zu s h=true;simp[zu,z,A,D]
    go_enter Tryz.func166,Tryz.ntmps166
    go_wp2
    go_ret
    exact⟨zh q.out.symm,rfl⟩
   |false=>
    cases E:(s.toList==[108,101,116]) with
    |true=>
     have q:Hid (zu s h=true):=by show zu s h=true;simp[zu,z,A,D,E]
     go_enter Tryz.func166,Tryz.ntmps166
     go_wp2
     go_ret
     exact⟨zh q.out.symm,rfl⟩
    |false=>
     cases H:(s.toList==[102,117,110,99,116,105,111,110]) with
     |true=>
      have q:Hid (zu s h=true):=by show zu s h=true;simp[zu,z,A,D,E,H]
      go_enter Tryz.func166,Tryz.ntmps166
      go_wp2
      go_ret
      exact⟨zh q.out.symm,rfl⟩
     |false=>
      cases I:(s.toList==[114,101,116,117,114,110]) with
      |true=>
       have q:Hid (zu s h=true):=by show zu s h=true;simp[zu,z,A,D,E,H,I]
       go_enter Tryz.func166,Tryz.ntmps166
       go_wp2
       go_ret
       exact⟨zh q.out.symm,rfl⟩
      |false=>
       cases J:(s.toList==[112,114,105,110,116]) with
       |true=>
        have q:Hid (zu s h=true):=by show zu s h=true;simp[zu,z,A,D,E,H,I,J]
        go_enter Tryz.func166,Tryz.ntmps166
        go_wp2
        go_ret
        exact⟨zh q.out.symm,rfl⟩
       |false=>
        cases K:(s.toList==[116,104,114,111,119]) with
        |true=>
         have q:Hid (zu s h=true):=by show zu s h=true;simp[zu,z,A,D,E,H,I,J,K]
         go_enter Tryz.func166,Tryz.ntmps166
         go_wp2
         go_ret
         exact⟨zh q.out.symm,rfl⟩
        |false=>
         cases L:(s.toList==[102,97,105,108]) with
         |true=>
          have q:Hid (zu s h=h):=by show zu s h=h;simp[zu,z,A,D,E,H,I,J,K,L]
          go_enter Tryz.func166,Tryz.ntmps166
          go_wp2
          go_ret
          exact⟨zh q.out.symm,rfl⟩
         |false=>
          cases M:(s.toList==[117,110,100,101,102]) with
          |true=>
           have q:Hid (zu s h=h):=by show zu s h=h;simp[zu,z,A,D,E,H,I,J,K,L,M]
           go_enter Tryz.func166,Tryz.ntmps166
           go_wp2
           go_ret
           exact⟨zh q.out.symm,rfl⟩
          |false=>
           have q:Hid (zu s h=false):=by show zu s h=false;simp[zu,z,A,D,E,H,I,J,K,L,M]
           go_enter Tryz.func166,Tryz.ntmps166
           go_wp2
           go_ret
           exact⟨zh q.out.symm,rfl⟩
theorem znv {C:Cx} {i:Nat} {o:Bool} (h:((ze C i).kind==1)=false):zG C i o=false:=by rw[zG,h];rfl
theorem zhm {C:Cx} {i:Nat} {o:Bool} (h: ¬i<C.ts.length):zG C i o=false:=by
 rw[Bool.eq_false_iff]
 exact fun g=>h (zfc g)
theorem zgb (C:Cx) (Y J I:Nat) (S:Sv) (q:PS) (z:Int) (d:Nat) (o:Bool) (w:World) (V:OwnT w I 136 Y C.ts.length J C.ts) (_:C.ts.length≤4000):
  Calls Tryz.prog 134 #[pv C Y J S q z d,.bool o] w fun e D=>e= .returned (.bool (decide (z<0)&&zG C q.pos o))∧Below w.heap.size w D:=by
 unfold pv
 by_cases O:z<0
 ·have E:decide (z<0)=true:=decide_eq_true O
  have M:decide (0≤z)=false:=decide_eq_false (by omega)
  by_cases N:q.pos<C.ts.length
  ·obtain⟨c0,Z,_,_⟩:=V.cells N (d:=⟨0,sNone,0,C.fin⟩)
   have U:=(zau V).1
   change _=some (Value.int .i64 (ze C q.pos).kind) at c0
   change _=some (Value.string (ze C q.pos).text) at Z
   generalize h:ze C q.pos=t at c0 Z
   cases H:(t.kind==1) with
   |true=>
    have L:(t.kind !=1)=false:=by rw[bne,H];rfl
    cases K:zu t.text C.scr with
    |false=>
     have A:Hid (zG C q.pos o=true):=by show zG C q.pos o=true;simp only[zG,h,H,K,Bool.not_false,Bool.true_or,Bool.and_self]
     clear h
     go_enter Tryz.func134,Tryz.ntmps134
     go_wp2_with (first|(go_at_call 166;refine (zdY _ _ _).mono ?_;rintro e D ⟨rfl,rfl⟩))
     go_ret
     exact⟨zh (by first|(rw[E,A.out];rfl)|rfl),(Below.refl _ _).alloc (Nat.le_refl _) _⟩
    |true=>
     cases o with
     |true=>
      cases X:(t.text.toList==[100,101,102,97,117,108,116]) with
      |true=>
       have A:Hid (zG C q.pos true=true):=by show zG C q.pos true=true;simp only[zG,h,H,K,X,Bool.not_true,Bool.and_self,Bool.false_or]
       clear h
       go_enter Tryz.func134,Tryz.ntmps134
       go_wp2_with (first|(go_at_call 166;refine (zdY _ _ _).mono ?_;rintro e D ⟨rfl,rfl⟩))
       go_ret
       exact⟨zh (by first|(rw[E,A.out];rfl)|rfl),(Below.refl _ _).alloc (Nat.le_refl _) _⟩
      |false=>
       have A:Hid (zG C q.pos true=false):=by show zG C q.pos true=false;simp only[zG,h,H,K,X,Bool.not_true,Bool.true_and,Bool.or_self]
       clear h
       go_enter Tryz.func134,Tryz.ntmps134
       go_wp2_with (first|(go_at_call 166;refine (zdY _ _ _).mono ?_;rintro e D ⟨rfl,rfl⟩))
       go_ret
       exact⟨zh (by first|(rw[E,A.out];rfl)|rfl),(Below.refl _ _).alloc (Nat.le_refl _) _⟩
     |false=>
      have A:Hid (zG C q.pos false=false):=by show zG C q.pos false=false;simp only[zG,h,H,K,Bool.not_true,Bool.false_and,Bool.or_self,Bool.and_false]
      clear h
      go_enter Tryz.func134,Tryz.ntmps134
      go_wp2_with (first|(go_at_call 166;refine (zdY _ _ _).mono ?_;rintro e D ⟨rfl,rfl⟩))
      go_ret
      exact⟨zh (by first|(rw[E,A.out];rfl)|rfl),(Below.refl _ _).alloc (Nat.le_refl _) _⟩
   |false=>
    have L:(t.kind !=1)=true:=by rw[bne,H];rfl
    have A:Hid (zG C q.pos o=false):=znv (by rw[h];exact H)
    clear h
    go_enter Tryz.func134,Tryz.ntmps134
    go_wp2_with (first|(go_at_call 166;refine (zdY _ _ _).mono ?_;rintro e D ⟨rfl,rfl⟩))
    go_ret
    exact⟨zh (by first|(rw[E,A.out];rfl)|rfl),(Below.refl _ _).alloc (Nat.le_refl _) _⟩
  ·have A:Hid (zG C q.pos o=false):=zhm N
   go_enter Tryz.func134,Tryz.ntmps134
   go_wp2_with (first|(go_at_call 166;refine (zdY _ _ _).mono ?_;rintro e D ⟨rfl,rfl⟩))
   go_ret
   exact⟨zh (by first|(rw[E,A.out];rfl)|rfl),(Below.refl _ _).alloc (Nat.le_refl _) _⟩
 ·have E:decide (z<0)=false:=decide_eq_false O
  have M:decide (0≤z)=true:=decide_eq_true (by omega)
  have A:Hid (zG C q.pos o=zG C q.pos o):=rfl
  go_enter Tryz.func134,Tryz.ntmps134
  go_wp2_with (first|(go_at_call 166;refine (zdY _ _ _).mono ?_;rintro e D ⟨rfl,rfl⟩))
  go_ret
  exact⟨zh (by first|(rw[E,A.out];rfl)|rfl),(Below.refl _ _).alloc (Nat.le_refl _) _⟩
def Is2 (y:Except Nat (PS×ByteArray)) (q:PS) (z:Int) (n:ByteArray):Prop:=
 match y with
 | .ok a=>q=a.1∧z= -1∧n=a.2
 | .error e=>z=(e:Int)
theorem Is2.fst {y:Except Nat (PS×ByteArray)} {q:PS} {z:Int} {n:ByteArray} (h:Is2 y q z n):Is (zaR y) q z:=by
 cases y with
 |ok a=>exact⟨h.1,h.2.1⟩
 |error e=>exact h
theorem Is2.bind {y:Except Nat (PS×ByteArray)} {q:PS} {z:Int} {n:ByteArray} (h:Is2 y q z n) {β:Type} (F:PS→ByteArray→Except Nat β):bd (zaR y) (fun q=>F q n)=bd y fun a=>F a.1 a.2:=by
 cases y with
 |ok a=>obtain⟨_,_,rfl⟩:=h;rfl
 |error e=>rfl
def zdA (C:Cx) (gt cap base:Nat) (y:Except Nat (PS×ByteArray)) (d:Nat) (S:Sv) (w:World) (e:Ending) (w':World):Prop:=
 ∃S' q' z' n',e= .returned (.tuple #[pv C gt cap S' q' z' d,.string n'])∧Hid (Is2 y q' z' n')∧Mem C gt cap base S' q' w'∧Stp S w S' w'
theorem zdZ {C:Cx} {A q h:Nat} {y:Except Nat (PS×ByteArray)} {d:Nat} {S:Sv} {w D:World} {q':PS} {z':Int} {z:ByteArray} {v:Value} (H:v=pv C A q S q' z' d) (I:Is2 y q' z' z) (J:Mem C A q h S q' w) (E:Below w.heap.size w D):zdA C A q h y d S w (.returned (.tuple #[v,.string z])) D:=
 ⟨S,q',z',z,by rw[H],I,J.later E,Stp.below E⟩
theorem zbl (C:Cx) (L E h:Nat) (x:PR) (S:Sv) (q:PS) (z:Int) (d:Nat) (o:Bool) (w:World) (hx:Is x q z) (hm:Mem C L E h S q w):
  Calls Tryz.prog 95 #[pv C L E S q z d,.bool o] w (zdA C L E h (bd x (zl C o)) d S w):=by
 have HM:=zc hm
 have D:=hm.tok
 have H:=hm.few
 have HX:=zc hx
 clear hx hm
 cases I:(decide (z<0)&&zG C q.pos o) with
 |true=>
  have N:q.pos<C.ts.length:=by rw[Bool.and_eq_true] at I;exact zfc I.2
  have HY:Hid (Is2 (bd x (zl C o)) (adv q) z (ze C q.pos).text):=by
   rw[Bool.and_eq_true,decide_eq_true_eq] at I
   obtain⟨U,Z⟩:=zaG HX.out I.1
   show Is2 (bd x (zl C o)) (adv q) z (ze C q.pos).text
   rw[U,zA,zl,if_pos I.2]
   exact⟨rfl,Z,rfl⟩
  unfold pv
  go_enter Tryz.func95,Tryz.ntmps95
  go_wp2_with fail
  refine (zgb C L E h S q z d o _ (zr (zr D _) _) H).mono ?_
  rintro e w1 ⟨rfl,J⟩
  rw[I]
  obtain⟨X,K⟩:=zcL J
  obtain⟨a0,a1,a2,a3,a4,a5,a6,a7,a8,a9,O,V,af⟩:=zan X
  obtain⟨b0,b1,b2,b3,b4,b5,b6,b7,b8,b9,ac,ad,bf⟩:=zan K
  have A:=zcx D (zbg J)
  obtain⟨_,c1,_,_⟩:=A.cells N (d:=⟨0,sNone,0,C.fin⟩)
  change _=some (Value.string (ze C q.pos).text) at c1
  have G2:=zc K
  clear X K I
  go_wp2
  refine bodyPost_ret (zaI rfl _ _ (w.heap.size+1) 101 _ (0,0) _ rfl (zbb ((zv (by omega)).trans G2.out)) Tryz.underlying101 rfl (by kernel_rfl)) rfl ?_
  exact zdZ rfl HY.out (HM.out.adv N) (zbR ((zbg J).setCell (Nat.le_refl _) _) (Nat.le_succ _) ..)
 |false=>
  have HY:Hid (Is2 (bd x (zl C o)) q (zb2 C q.pos z) sNone):=by
   show Is2 (bd x (zl C o)) q (zb2 C q.pos z) sNone
   unfold zb2
   by_cases M:z<0
   ·obtain⟨U,Z⟩:=zaG HX.out M
    simp only[M,decide_true,Bool.true_and] at I
    rw[U,zA,zl,I,if_pos M]
    rfl
   ·obtain⟨e,U,Z⟩:=zd1 HX.out M
    rw[U,ze3,if_neg M]
    exact Z
  unfold pv
  go_enter Tryz.func95,Tryz.ntmps95
  go_wp2_with fail
  refine (zgb C L E h S q z d o _ (zr (zr D _) _) H).mono ?_
  rintro e w1 ⟨rfl,J⟩
  rw[I]
  obtain⟨X,K⟩:=zcL J
  obtain⟨a0,a1,a2,a3,a4,a5,a6,a7,a8,a9,O,V,af⟩:=zan X
  have G2:=zc K
  have A:=zcx D (zbg J)
  clear X K I
  go_wp2_with fail
  refine (zdz C L E h S q z d _ A H).mono ?_
  rintro e w2 ⟨rfl,Y⟩
  have G3:Hid (_=_):=(Y.block _ (Nat.lt_of_lt_of_le (by simp) J.size)).trans G2.out
  obtain⟨c0,c1,c2,c3,c4,c5,c6,c7,c8,c9,ae,ab,cf⟩:=zan G3.out
  have aa:=(zbg J).trans (Y.mono (zbg J).size)
  clear a0 a1 a2 a3 a4 a5 a6 a7 a8 a9 O V af
  unfold pv
  go_wp2
  refine bodyPost_ret (zaI rfl _ _ (w.heap.size+1) 101 _ (0,0) _ rfl (zbb G3.out) Tryz.underlying101 rfl (by kernel_rfl)) rfl ?_
  exact zdZ rfl HY.out HM.out (zbR aa (Nat.le_succ _) ..)
theorem Tryz.infoImp:(Tryz.prog.info? 80).map (fun i=>(i.zero,i.size,i.bytes))=some (some (.agg #[.string {data:=#[]},.string {data:=#[]},.string {data:=#[]}]),3,48):=by kernel_rfl
theorem Tryz.infoExp:(Tryz.prog.info? 82).map (fun i=>(i.zero,i.size,i.bytes))=some (some (.agg #[.int .i64 0,.string {data:=#[]},.string {data:=#[]},.string {data:=#[]}]),4,56):=by kernel_rfl
theorem Tryz.infoStmt:(Tryz.prog.info? 87).map (fun i=>(i.zero,i.size,i.bytes))=some (some (.agg #[.int .i64 0,.string {data:=#[]},.int .i64 0]),3,32):=by kernel_rfl
theorem Tryz.infoExpr:(Tryz.prog.info? 85).map (fun i=>(i.zero,i.size,i.bytes))=some (some (.agg #[.int .i64 0,.int .i64 0,.string {data:=#[]},.string {data:=#[]},.int .i64 0,.int .i64 0]),6,64):=by kernel_rfl
def imV (x:Im):Value:=.agg #[.string x.spec,.string x.first,.string x.loc]
def epV (x:Ep):Value:=.agg #[.int .i64 x.kind,.string x.name,.string x.loc,.string x.spec]
def exV (x:Ex):Value:=.agg #[.int .i64 x.kind,.int .i64 x.num,.string x.name,.string x.field,.int .i64 x.l,.int .i64 x.r]
theorem zdc (w:World) (a b c:Obj):Below w.heap.size w (((w.alloc a).alloc b).alloc c):=(zbc w a b).alloc (zbc w a b).size c
theorem zgc (w:World) (a b c d:Obj):Below w.heap.size w ((((w.alloc a).alloc b).alloc c).alloc d):=(zdc w a b c).alloc (zdc w a b c).size d
theorem zcN (w:World) (a b:Obj):((w.alloc a).alloc b).heap.size=w.heap.size+1+1:=by rw[zg,zg]
theorem zad (w:World) (a b c:Obj):(((w.alloc a).alloc b).alloc c).heap.size=w.heap.size+1+1+1:=by rw[zg,zcN]
theorem zaA (w:World) (a b c d:Obj):((((w.alloc a).alloc b).alloc c).alloc d).heap.size=w.heap.size+1+1+1+1:=by rw[zg,zad]
theorem new3 (w:World) (a b c:Obj):(((w.alloc a).alloc b).alloc c).heap[w.heap.size]? =some a∧(((w.alloc a).alloc b).alloc c).heap[w.heap.size+1]? =some b∧(((w.alloc a).alloc b).alloc c).heap[w.heap.size+1+1]? =some c:=by
 refine⟨?_,?_,?_⟩
 ·rw[Below.heap_alloc _ _ _ (by rw[zcN];omega),Below.heap_alloc _ _ _ (by rw[zg];omega)]
  exact heap_alloc_new w a
 ·rw[Below.heap_alloc _ _ _ (by rw[zcN];omega)]
  exact new2 w a b
 ·rw[←zcN w a b]
  exact heap_alloc_new _ c
theorem zcb (w:World) (a b c d:Obj):((((w.alloc a).alloc b).alloc c).alloc d).heap[w.heap.size]? =some a∧((((w.alloc a).alloc b).alloc c).alloc d).heap[w.heap.size+1]? =some b∧((((w.alloc a).alloc b).alloc c).alloc d).heap[w.heap.size+1+1]? =some c∧((((w.alloc a).alloc b).alloc c).alloc d).heap[w.heap.size+1+1+1]? =some d:=by
 obtain⟨q,z,h⟩:=new3 w a b c
 refine⟨?_,?_,?_,?_⟩
 ·rw[Below.heap_alloc _ _ _ (by rw[zad];omega)]
  exact q
 ·rw[Below.heap_alloc _ _ _ (by rw[zad];omega)]
  exact z
 ·rw[Below.heap_alloc _ _ _ (by rw[zad];omega)]
  exact h
 ·rw[←zad w a b c]
  exact heap_alloc_new _ d
theorem zhn {w h:World} {a b c:Obj} (q:Below (((w.alloc a).alloc b).alloc c).heap.size (((w.alloc a).alloc b).alloc c) h):Below w.heap.size w h:=(zdc w a b c).trans (q.mono (zdc w a b c).size)
theorem zgd {C:Cx} {x:PR} {q:PS} {z:Int} {f:PS→PR} (A:Is x q z) (h:z<0) (w:f q= .error (zs C (q.pos-1))):Is (bd x f) q (zs C (q.pos-1)):=by
 obtain⟨rfl,_⟩:=zaG A h
 rw[zA,w]
 rfl
theorem zge {x:PR} {q:PS} {z:Int} {f:PS→PR} (A:Is x q z) (h: ¬z<0):Is (bd x f) q z:=by
 obtain⟨e,rfl,w⟩:=zd1 A h
 exact w
theorem zfr {x:PR} {q q':PS} {z:Int} {f:PS→PR} (A:Is x q z) (h:z<0) (D:f q= .ok q'):Is (bd x f) q' z:=by
 obtain⟨rfl,w⟩:=zaG A h
 rw[zA,D]
 exact⟨rfl,w⟩
theorem zea {w W:World} {h:Nat} {S:Sv} {q:PS} (z:Own w h S q) (_:w.heap.size≤W.heap.size) {r:Option Nat} (A: ∀k,r=some k→S.has k) (b:Nat) (D:w.heap.size≤b):some b≠r:=fun e=>by have:=(z.has (A b e.symm)).2;omega
theorem zdd (C:Cx) (O A h:Nat) (x:PR) (S:Sv) (q:PS) (z:Int) (d:Nat) (y:Ex) (w:World) (hx:Is x q z) (J:Mem C O A h S q w) (U:z<0→1≤q.pos):
  Calls Tryz.prog 138 #[pv C O A S q z d,exV y] w (Out C O A h (bd x (zQ C y)) d S w):=by
 obtain⟨i0,hi,ac,ab,aa⟩:=info_parts Tryz.infoExpr
 have H:=zc J
 have HX:=zc hx
 have ad:q.ex.length≤300:=by have:=J.inv.ex;omega
 clear hx
 by_cases L:z<0
 ·have dz:decide (0≤z)=false:=decide_eq_false (by omega)
  by_cases hn:300≤q.ex.length
  ·have K:Hid (Is (bd x (zQ C y)) q (zs C (q.pos-1))):=zgd HX.out L (if_pos hn)
   have qn:decide ((300:Int)≤(q.ex.length:Int))=true:=decide_eq_true (by omega)
   have M:=U L
   clear U J
   unfold pv exV
   go_enter Tryz.func138,Tryz.ntmps138
   go_wp2_with fail
   refine (zfq C O A h S q z d _ (((H.out.alloc _).alloc _).alloc _) L M).mono ?_
   rintro e w2 ⟨rfl,E⟩
   have X:Below w.heap.size w w2:=zhn E
   have G3:Hid (_=_):=(E.block (w.heap.size+1+1) (by rw[zad];omega)).trans ((new3 w _ _ _).2.2)
   obtain⟨c0,c1,c2,c3,c4,c5,c6,c7,c8,c9,ah,ai,cf⟩:=zan G3.out
   clear E
   unfold pv
   go_wp2
   refine bodyPost_ret (results_cell_row rfl _ _ (w.heap.size+1+1) 101 _ (0,0) _ rfl (zbb G3.out) Tryz.underlying101 rfl (by kernel_rfl)) rfl ?_
   exact zcB rfl K.out H.out (zbR X (by omega) ..)
  ·have qn:decide ((300:Int)≤(q.ex.length:Int))=false:=decide_eq_false (by omega)
   have K:Hid (Is (bd x (zQ C y)) {q with ex:=q.ex++[y]} z):=zfr HX.out L (if_neg hn)
   have D:=fun o1 o2 o3 o4=>((((H.out.own.ex.alloc o1).alloc o2).alloc o3).alloc o4)
   clear U J
   unfold pv exV
   go_enter Tryz.func138,Tryz.ntmps138
   go_wp2_with (at_builtin;refine zaZ _ rfl _ _ 46 rfl h 85 i0 _ 6 64 Tryz.underlying46 hi ac ab aa rfl (by decide) (by decide) S.ex q.ex.length _ (by rfl) (D ..) (w.heap.size+1+1+1) (exL y) (by rfl) (by first|exact (zcb w ..).2.2.2|exact (new3 w _ _ _).2.2) rfl (by intro u hu;simp[exL] at hu;rcases hu with rfl|rfl|rfl|rfl|rfl|rfl<;>rfl) (by omega) (by have:=H.out.base;(first|rw[zaA]|rw[zad]);omega) ?_)
   intro r' w2 hr V N
   have HR:=zc hr
   have HG:=zc V
   have Y:=zc N
   have I:=fun b hb=>zea (W:=w) H.out.own (Nat.le_refl _) (r:=S.ex.blk) (fun k e=>.inr (.inr (.inr (.inr (.inl e))))) b hb
   have g1:=(V.block w.heap.size (by (first|rw[zaA]|rw[zad]);omega) (I _ (Nat.le_refl _))).trans (by first|exact (zcb w ..).1|exact (new3 w _ _ _).1)
   have Z:=(V.block (w.heap.size+1+1) (by (first|rw[zaA]|rw[zad]);omega) (I _ (by omega))).trans (by first|exact (zcb w ..).2.2.1|exact (new3 w _ _ _).2.1)
   obtain⟨a0,a1,a2,a3,a4,a5,a6,a7,a8,a9,aj,ak,af⟩:=zan g1
   obtain⟨b0,b1,b2,b3,b4,b5,b6,b7,b8,b9,ae,ag,bf⟩:=zan Z
   have G2:=zc Z
   clear g1 Z V hr N I D
   go_wp2
   refine bodyPost_ret (results_cell_row rfl _ _ (w.heap.size+1+1) 101 _ (0,0) _ rfl (zbb ((zv (by omega)).trans G2.out)) Tryz.underlying101 rfl (by kernel_rfl)) rfl ?_
   obtain⟨m',s'⟩:=H.out.grow_ex (x:=y) (zgc w ..) HG.out HR.out (by (first|rw[zaA]|rw[zad]);exact Y.out) (((Off.refl _ _ _).set (b:=w.heap.size) (Nat.le_refl _) (by (first|rw[zaA]|rw[zad]);omega) _ _).set12 (b:=w.heap.size+1+1) (by omega) (by (first|rw[zaA]|rw[zad]);omega) ..) (by omega)
   exact⟨_,{q with ex:=q.ex++[y]},z,by simp[pv],K.out,m',s'⟩
 ·have dz:decide (0≤z)=true:=decide_eq_true (by omega)
  have K:Hid (Is (bd x (zQ C y)) q z):=zge HX.out L
  clear U J
  unfold pv exV
  go_enter Tryz.func138,Tryz.ntmps138
  go_wp2
  refine bodyPost_ret (results_cell_row rfl _ _ (w.heap.size+1+1) 101 _ (0,0) _ rfl ((new3 w _ _ _).2.2) Tryz.underlying101 rfl (by kernel_rfl)) rfl ?_
  exact zcB rfl K.out H.out (zdc w _ _ _)
theorem zho (C:Cx) (O A h:Nat) (x:PR) (S:Sv) (q:PS) (z:Int) (d:Nat) (y:Im) (w:World) (hx:Is x q z) (J:Mem C O A h S q w) (U:z<0→1≤q.pos):
  Calls Tryz.prog 133 #[pv C O A S q z d,imV y] w (Out C O A h (bd x (zap C y)) d S w):=by
 obtain⟨i0,hi,ac,ab,aa⟩:=info_parts Tryz.infoImp
 have H:=zc J
 have HX:=zc hx
 have ad:q.im.length≤40:=by have:=J.inv.im;omega
 clear hx
 by_cases L:z<0
 ·have dz:decide (0≤z)=false:=decide_eq_false (by omega)
  by_cases hn:40≤q.im.length
  ·have K:Hid (Is (bd x (zap C y)) q (zs C (q.pos-1))):=zgd HX.out L (if_pos hn)
   have qn:decide ((40:Int)≤(q.im.length:Int))=true:=decide_eq_true (by omega)
   have M:=U L
   clear U J
   unfold pv imV
   go_enter Tryz.func133,Tryz.ntmps133
   go_wp2_with fail
   refine (zfq C O A h S q z d _ (((H.out.alloc _).alloc _).alloc _) L M).mono ?_
   rintro e w2 ⟨rfl,E⟩
   have X:Below w.heap.size w w2:=zhn E
   have G3:Hid (_=_):=(E.block (w.heap.size+1+1) (by rw[zad];omega)).trans ((new3 w _ _ _).2.2)
   obtain⟨c0,c1,c2,c3,c4,c5,c6,c7,c8,c9,ah,ai,cf⟩:=zan G3.out
   clear E
   unfold pv
   go_wp2
   refine bodyPost_ret (results_cell_row rfl _ _ (w.heap.size+1+1) 101 _ (0,0) _ rfl (zbb G3.out) Tryz.underlying101 rfl (by kernel_rfl)) rfl ?_
   exact zcB rfl K.out H.out (zbR X (by omega) ..)
  ·have qn:decide ((40:Int)≤(q.im.length:Int))=false:=decide_eq_false (by omega)
   have K:Hid (Is (bd x (zap C y)) {q with im:=q.im++[y]} z):=zfr HX.out L (if_neg hn)
   have D:=fun o1 o2 o3 o4=>((((H.out.own.im.alloc o1).alloc o2).alloc o3).alloc o4)
   clear U J
   unfold pv imV
   go_enter Tryz.func133,Tryz.ntmps133
   go_wp2_with (at_builtin;refine zaZ _ rfl _ _ 43 rfl h 80 i0 _ 3 48 Tryz.underlying43 hi ac ab aa rfl (by decide) (by decide) S.im q.im.length _ (by rfl) (D ..) (w.heap.size+1+1+1) (imL y) (by rfl) (by first|exact (zcb w ..).2.2.2|exact (new3 w _ _ _).2.2) rfl (by intro u hu;simp[imL] at hu;rcases hu with rfl|rfl|rfl<;>rfl) (by omega) (by have:=H.out.base;(first|rw[zaA]|rw[zad]);omega) ?_)
   intro r' w2 hr V N
   have HR:=zc hr
   have HG:=zc V
   have Y:=zc N
   have I:=fun b hb=>zea (W:=w) H.out.own (Nat.le_refl _) (r:=S.im.blk) (fun k e=>.inr (.inl e)) b hb
   have g1:=(V.block w.heap.size (by (first|rw[zaA]|rw[zad]);omega) (I _ (Nat.le_refl _))).trans (by first|exact (zcb w ..).1|exact (new3 w _ _ _).1)
   have Z:=(V.block (w.heap.size+1+1) (by (first|rw[zaA]|rw[zad]);omega) (I _ (by omega))).trans (by first|exact (zcb w ..).2.2.1|exact (new3 w _ _ _).2.1)
   obtain⟨a0,a1,a2,a3,a4,a5,a6,a7,a8,a9,aj,ak,af⟩:=zan g1
   obtain⟨b0,b1,b2,b3,b4,b5,b6,b7,b8,b9,ae,ag,bf⟩:=zan Z
   have G2:=zc Z
   clear g1 Z V hr N I D
   go_wp2
   refine bodyPost_ret (results_cell_row rfl _ _ (w.heap.size+1+1) 101 _ (0,0) _ rfl (zbb ((zv (by omega)).trans G2.out)) Tryz.underlying101 rfl (by kernel_rfl)) rfl ?_
   obtain⟨m',s'⟩:=H.out.grow_im (x:=y) (zgc w ..) HG.out HR.out (by (first|rw[zaA]|rw[zad]);exact Y.out) (((Off.refl _ _ _).set (b:=w.heap.size) (Nat.le_refl _) (by (first|rw[zaA]|rw[zad]);omega) _ _).set12 (b:=w.heap.size+1+1) (by omega) (by (first|rw[zaA]|rw[zad]);omega) ..) (by omega)
   exact⟨_,{q with im:=q.im++[y]},z,by simp[pv],K.out,m',s'⟩
 ·have dz:decide (0≤z)=true:=decide_eq_true (by omega)
  have K:Hid (Is (bd x (zap C y)) q z):=zge HX.out L
  clear U J
  unfold pv imV
  go_enter Tryz.func133,Tryz.ntmps133
  go_wp2
  refine bodyPost_ret (results_cell_row rfl _ _ (w.heap.size+1+1) 101 _ (0,0) _ rfl ((new3 w _ _ _).2.2) Tryz.underlying101 rfl (by kernel_rfl)) rfl ?_
  exact zcB rfl K.out H.out (zdc w _ _ _)
theorem zeb (C:Cx) (gt I A:Nat) (x:PR) (S:Sv) (q:PS) (z:Int) (d:Nat) (y:Ep) (w:World) (hx:Is x q z) (L:Mem C gt I A S q w) (X:z<0→1≤q.pos):
  Calls Tryz.prog 135 #[pv C gt I S q z d,epV y] w (Out C gt I A (bd x (zp C y)) d S w):=by
 obtain⟨i0,hi,ab,aa,Z⟩:=info_parts Tryz.infoExp
 have E:=zc L
 have HX:=zc hx
 have aj:q.ep.length≤40:=by have:=L.inv.ep;omega
 have ai:q.la.length≤40:=by have:=L.inv.ep;omega
 clear hx
 by_cases U:z<0
 ·have dz:decide (0≤z)=false:=decide_eq_false (by omega)
  by_cases hn:40≤q.ep.length+q.la.length
  ·have M:Hid (Is (bd x (zp C y)) q (zs C (q.pos-1))):=zgd HX.out U (if_pos hn)
   have qn:decide ((40:Int)≤(q.ep.length:Int)+(q.la.length:Int))=true:=decide_eq_true (by omega)
   have Y:=X U
   clear X L
   unfold pv epV
   go_enter Tryz.func135,Tryz.ntmps135
   go_wp2_with fail
   refine (zfq C gt I A S q z d _ (((E.out.alloc _).alloc _).alloc _) U Y).mono ?_
   rintro e w2 ⟨rfl,K⟩
   have ae:Below w.heap.size w w2:=zhn K
   have G3:Hid (_=_):=(K.block (w.heap.size+1+1) (by rw[zad];omega)).trans ((new3 w _ _ _).2.2)
   obtain⟨c0,c1,c2,c3,c4,c5,c6,c7,c8,c9,ak,al,cf⟩:=zan G3.out
   clear K
   unfold pv
   go_wp2
   refine bodyPost_ret (results_cell_row rfl _ _ (w.heap.size+1+1) 101 _ (0,0) _ rfl (zbb G3.out) Tryz.underlying101 rfl (by kernel_rfl)) rfl ?_
   exact zcB rfl M.out E.out (zbR ae (by omega) ..)
  ·have qn:decide ((40:Int)≤(q.ep.length:Int)+(q.la.length:Int))=false:=decide_eq_false (by omega)
   cases hd:(y.loc.toList==[42,100,101,102,97,117,108,116]) with
   |true=>
    have M:Hid (Is (bd x (zp C y)) {q with la:=q.la++[y]} z):=zfr HX.out U (by rw[zp,if_neg hn,if_pos hd])
    have h:=fun o1 o2 o3 o4=>((((E.out.own.la.alloc o1).alloc o2).alloc o3).alloc o4)
    clear X L
    unfold pv epV
    go_enter Tryz.func135,Tryz.ntmps135
    go_wp2_with (at_builtin;refine zaZ _ rfl _ _ 44 rfl A 82 i0 _ 4 56 Tryz.underlying44 hi ab aa Z rfl (by decide) (by decide) S.la q.la.length _ (by rfl) (h ..) (w.heap.size+1+1+1) (epL y) (by rfl) (by first|exact (zcb w ..).2.2.2|exact (new3 w _ _ _).2.2) rfl (by intro u hu;simp[epL] at hu;rcases hu with rfl|rfl|rfl|rfl<;>rfl) (by omega) (by have:=E.out.base;(first|rw[zaA]|rw[zad]);omega) ?_)
    intro r' w2 V J H
    have HR:=zc V
    have HG:=zc J
    have N:=zc H
    have D:=fun b hb=>zea (W:=w) E.out.own (Nat.le_refl _) (r:=S.la.blk) (fun k e=>.inr (.inr (.inr (.inr (.inr e))))) b hb
    have g1:=(J.block w.heap.size (by (first|rw[zaA]|rw[zad]);omega) (D _ (Nat.le_refl _))).trans (by first|exact (zcb w ..).1|exact (new3 w _ _ _).1)
    have O:=(J.block (w.heap.size+1+1) (by (first|rw[zaA]|rw[zad]);omega) (D _ (by omega))).trans (by first|exact (zcb w ..).2.2.1|exact (new3 w _ _ _).2.1)
    obtain⟨a0,a1,a2,a3,a4,a5,a6,a7,a8,a9,ag,ah,af⟩:=zan g1
    obtain⟨b0,b1,b2,b3,b4,b5,b6,b7,b8,b9,ac,ad,bf⟩:=zan O
    have G2:=zc O
    clear g1 O J V H D h
    go_wp2
    refine bodyPost_ret (results_cell_row rfl _ _ (w.heap.size+1+1) 101 _ (0,0) _ rfl (zbb ((zv (by omega)).trans G2.out)) Tryz.underlying101 rfl (by kernel_rfl)) rfl ?_
    obtain⟨m',s'⟩:=E.out.grow_la (x:=y) (zgc w ..) HG.out HR.out (by (first|rw[zaA]|rw[zad]);exact N.out) (((Off.refl _ _ _).set (b:=w.heap.size) (Nat.le_refl _) (by (first|rw[zaA]|rw[zad]);omega) _ _).set12 (b:=w.heap.size+1+1) (by omega) (by (first|rw[zaA]|rw[zad]);omega) ..) (by omega)
    exact⟨_,{q with la:=q.la++[y]},z,by simp[pv],M.out,m',s'⟩
   |false=>
    have M:Hid (Is (bd x (zp C y)) {q with ep:=q.ep++[y]} z):=zfr HX.out U (by rw[zp,if_neg hn,hd];rfl)
    have h:=fun o1 o2 o3 o4=>((((E.out.own.ep.alloc o1).alloc o2).alloc o3).alloc o4)
    clear X L
    unfold pv epV
    go_enter Tryz.func135,Tryz.ntmps135
    go_wp2_with (at_builtin;refine zaZ _ rfl _ _ 44 rfl A 82 i0 _ 4 56 Tryz.underlying44 hi ab aa Z rfl (by decide) (by decide) S.ep q.ep.length _ (by rfl) (h ..) (w.heap.size+1+1+1) (epL y) (by rfl) (by first|exact (zcb w ..).2.2.2|exact (new3 w _ _ _).2.2) rfl (by intro u hu;simp[epL] at hu;rcases hu with rfl|rfl|rfl|rfl<;>rfl) (by omega) (by have:=E.out.base;(first|rw[zaA]|rw[zad]);omega) ?_)
    intro r' w2 V J H
    have HR:=zc V
    have HG:=zc J
    have N:=zc H
    have D:=fun b hb=>zea (W:=w) E.out.own (Nat.le_refl _) (r:=S.ep.blk) (fun k e=>.inr (.inr (.inl e))) b hb
    have g1:=(J.block w.heap.size (by (first|rw[zaA]|rw[zad]);omega) (D _ (Nat.le_refl _))).trans (by first|exact (zcb w ..).1|exact (new3 w _ _ _).1)
    have O:=(J.block (w.heap.size+1+1) (by (first|rw[zaA]|rw[zad]);omega) (D _ (by omega))).trans (by first|exact (zcb w ..).2.2.1|exact (new3 w _ _ _).2.1)
    obtain⟨a0,a1,a2,a3,a4,a5,a6,a7,a8,a9,ag,ah,af⟩:=zan g1
    obtain⟨b0,b1,b2,b3,b4,b5,b6,b7,b8,b9,ac,ad,bf⟩:=zan O
    have G2:=zc O
    clear g1 O J V H D h
    go_wp2
    refine bodyPost_ret (results_cell_row rfl _ _ (w.heap.size+1+1) 101 _ (0,0) _ rfl (zbb ((zv (by omega)).trans G2.out)) Tryz.underlying101 rfl (by kernel_rfl)) rfl ?_
    obtain⟨m',s'⟩:=E.out.grow_ep (x:=y) (zgc w ..) HG.out HR.out (by (first|rw[zaA]|rw[zad]);exact N.out) (((Off.refl _ _ _).set (b:=w.heap.size) (Nat.le_refl _) (by (first|rw[zaA]|rw[zad]);omega) _ _).set12 (b:=w.heap.size+1+1) (by omega) (by (first|rw[zaA]|rw[zad]);omega) ..) (by omega)
    exact⟨_,{q with ep:=q.ep++[y]},z,by simp[pv],M.out,m',s'⟩
 ·have dz:decide (0≤z)=true:=decide_eq_true (by omega)
  have M:Hid (Is (bd x (zp C y)) q z):=zge HX.out U
  clear X L
  unfold pv epV
  go_enter Tryz.func135,Tryz.ntmps135
  go_wp2
  refine bodyPost_ret (results_cell_row rfl _ _ (w.heap.size+1+1) 101 _ (0,0) _ rfl ((new3 w _ _ _).2.2) Tryz.underlying101 rfl (by kernel_rfl)) rfl ?_
  exact zcB rfl M.out E.out (zdc w _ _ _)
theorem zde (C:Cx) (U D h:Nat) (x:PR) (S:Sv) (q:PS) (z:Int) (d:Nat) (k:Int) (A:ByteArray) (w:World) (hx:Is x q z) (K:Mem C U D h S q w) (V:z<0→1≤q.pos):
  Calls Tryz.prog 94 #[pv C U D S q z d,.int .i64 k,.string A] w (Out C U D h (bd x (zY C k A)) d S w):=by
 obtain⟨i0,hi,ac,ab,aa⟩:=info_parts Tryz.infoStmt
 have I:=zc K
 have HX:=zc hx
 have ad:q.ex.length≤300:=by have:=K.inv.ex;omega
 have ae:q.st.length≤80:=by have:=K.inv.st;omega
 clear hx
 by_cases M:z<0
 ·have dz:decide (0≤z)=false:=decide_eq_false (by omega)
  by_cases hn:80≤q.st.length
  ·have L:Hid (Is (bd x (zY C k A)) q (zs C (q.pos-1))):=zgd HX.out M (if_pos hn)
   have qn:decide ((80:Int)≤(q.st.length:Int))=true:=decide_eq_true (by omega)
   have N:=V M
   clear V K
   unfold pv
   go_enter Tryz.func94,Tryz.ntmps94
   go_wp2_with fail
   refine (zfq C U D h S q z d _ ((I.out.alloc _).alloc _) M N).mono ?_
   rintro e w2 ⟨rfl,H⟩
   have Y:Below w.heap.size w w2:=zbg H
   have G3:Hid (_=_):=(H.block (w.heap.size+1) (by rw[zcN];omega)).trans (new2 w _ _)
   obtain⟨c0,c1,c2,c3,c4,c5,c6,c7,c8,c9,ai,aj,cf⟩:=zan G3.out
   clear H
   unfold pv
   go_wp2
   refine bodyPost_ret (results_cell_row rfl _ _ (w.heap.size+1) 101 _ (0,0) _ rfl (zbb G3.out) Tryz.underlying101 rfl (by kernel_rfl)) rfl ?_
   exact zcB rfl L.out I.out (zbR Y (by omega) ..)
  ·have qn:decide ((80:Int)≤(q.st.length:Int))=false:=decide_eq_false (by omega)
   have L:Hid (Is (bd x (zY C k A)) {q with st:=q.st++[⟨k,A,(q.ex.length:Int)-1⟩]} z):=zfr HX.out M (if_neg hn)
   have E:=fun o1 o2 o3=>(((I.out.own.st.alloc o1).alloc o2).alloc o3)
   clear V K
   unfold pv
   go_enter Tryz.func94,Tryz.ntmps94
   go_wp2_with (at_builtin;refine zaZ _ rfl _ _ 45 rfl h 87 i0 _ 3 32 Tryz.underlying45 hi ac ab aa rfl (by decide) (by decide) S.st q.st.length _ (by rfl) (E _ _ _) (w.heap.size+1+1) (smL ⟨k,A,(q.ex.length:Int)-1⟩) (by rfl) (by first|exact (zcb w ..).2.2.2|exact (new3 w _ _ _).2.2) rfl (by intro u hu;simp[smL] at hu;rcases hu with rfl|rfl|rfl<;>rfl) (by omega) (by have:=I.out.base;(first|rw[zaA]|rw[zad]);omega) ?_)
   intro r' w2 hr X O
   have HR:=zc hr
   have HG:=zc X
   have Z:=zc O
   have J:=fun b hb=>zea (W:=w) I.out.own (Nat.le_refl _) (r:=S.st.blk) (fun k e=>.inr (.inr (.inr (.inl e)))) b hb
   have g1:=(X.block w.heap.size (by (first|rw[zaA]|rw[zad]);omega) (J _ (Nat.le_refl _))).trans (by first|exact (zcb w ..).1|exact (new3 w _ _ _).1)
   have g2:=(X.block (w.heap.size+1) (by (first|rw[zaA]|rw[zad]);omega) (J _ (by omega))).trans (by first|exact (zcb w ..).2.2.1|exact (new3 w _ _ _).2.1)
   obtain⟨a0,a1,a2,a3,a4,a5,a6,a7,a8,a9,ak,al,af⟩:=zan g1
   obtain⟨b0,b1,b2,b3,b4,b5,b6,b7,b8,b9,ag,ah,bf⟩:=zan g2
   have G2:=zc g2
   clear g1 g2 X hr O J E
   go_wp2
   refine bodyPost_ret (results_cell_row rfl _ _ (w.heap.size+1) 101 _ (0,0) _ rfl (zbb ((zv (by omega)).trans G2.out)) Tryz.underlying101 rfl (by kernel_rfl)) rfl ?_
   obtain⟨m',s'⟩:=I.out.grow_st (x:=⟨k,A,(q.ex.length:Int)-1⟩) (zdc w _ _ _) HG.out HR.out (by (first|rw[zaA]|rw[zad]);exact Z.out) (((Off.refl _ _ _).set (b:=w.heap.size) (Nat.le_refl _) (by (first|rw[zaA]|rw[zad]);omega) _ _).set12 (b:=w.heap.size+1) (by omega) (by (first|rw[zaA]|rw[zad]);omega) ..) (by omega)
   exact⟨_,{q with st:=q.st++[⟨k,A,(q.ex.length:Int)-1⟩]},z,by simp[pv],L.out,m',s'⟩
 ·have dz:decide (0≤z)=true:=decide_eq_true (by omega)
  have L:Hid (Is (bd x (zY C k A)) q z):=zge HX.out M
  clear V K
  unfold pv
  go_enter Tryz.func94,Tryz.ntmps94
  go_wp2
  refine bodyPost_ret (results_cell_row rfl _ _ (w.heap.size+1) 101 _ (0,0) _ rfl (new2 w _ _) Tryz.underlying101 rfl (by kernel_rfl)) rfl ?_
  exact zcB rfl L.out I.out (zbc w _ _)
theorem OwnR.drew {w:World} {q size n:Nat} {e:TypeId} {r:Rw} {xs:List Value} (h:OwnR w q e size r n xs):OwnR w.drew q e size r n xs:=h
theorem znw (x:Ex): ∀u∈exL x,u.oneCell'=true:=by
 intro u h
 simp[exL] at h
 rcases h with rfl|rfl|rfl|rfl|rfl|rfl<;>rfl
theorem IM.grow_ex {C:Cx} {V L E A:Nat} {S:Sv} {q:PS} {w W H:World} {z:Rw} {x:Ex} (h:IM C V L E A S q w) (hW:Below w.heap.size w W) (X:W.grownBy H S.ex.blk) (Z:OwnR H E 85 6 z (q.ex.length+1) (q.ex.flatMap exL++exL x)) (U:z.blk=S.ex.blk∨z.blk=some W.heap.size) (hn:q.ex.length<300):
  IM C V L E A {S with ex:=z} {q with ex:=q.ex++[x]} (H.setCell ⟨A,8,none⟩ (.slice z.a (q.ex.length+1) z.cap))∧IS A S w {S with ex:=z} (H.setCell ⟨A,8,none⟩ (.slice z.a (q.ex.length+1) z.cap)):=by
 obtain⟨K,J⟩:=h.mem.grow_ex (x:=x) hW X Z U (Off.refl _ _ _) hn
 have D:=h.free
 have N:=h.lt
 have I: ¬Sv.has {S with ex:=z} A:=fun g=>(J.sub A g).elim D fun g'=>by omega
 have M: ∀k,k≠A→(H.setCell ⟨A,8,none⟩ (.slice z.a (q.ex.length+1) z.cap)).heap[k]? =H.heap[k]?:=fun k M=>Below.heap_setCell H ⟨A,8,none⟩ _ k M
 have O:(H.setCell ⟨A,8,none⟩ (.slice z.a (q.ex.length+1) z.cap)).heap.size=H.heap.size:=by show (H.heap.modify _ _).size=_;simp
 have hc:=(J.block A N D).trans h.cells
 refine⟨⟨⟨K.own.keep fun k g=>M k fun e=>I (by rw[←e];exact g),K.inv,zbE K.tok (M V h.ne.symm),K.few,by rw[O];exact K.base⟩,?_,h.ge⟩,?_⟩
 ·rw[zag hc]
  simp
 ·exact (show IS A S w {S with ex:=z} H from⟨J.os,J.tape,J.output,J.size,fun k h1 Y _=>J.block k h1 Y,J.sub⟩).set _ _
theorem znx (C:Cx) (gt K z A:Nat) (S:Sv) (q:PS) (x:Ex) (w:World) (h:IM C gt K z A S q w) (hn:q.ex.length<300):
  Calls Tryz.prog 220 #[.pointer (some ⟨A,0,none⟩),exV x] w fun e Z=>e= .returned (.int .i64 q.ex.length)∧∃S',IM C gt K z A S' {q with ex:=q.ex++[x]} Z∧IS A S w S' Z:=by
 obtain⟨i0,hi,V,U,O⟩:=info_parts Tryz.infoExpr
 have M:=zc h
 have aa:=h.lt
 obtain⟨c0,c1,c2,c3,c4,c5,c6,c7,c8,c9,cf⟩:=zah h.cells
 have I:=fun D E=>((M.out.mem.own.ex.alloc D).drew.alloc E)
 have ab:=h.mem.base
 have L:some A≠S.ex.blk:=fun e=>M.out.free (.inr (.inr (.inr (.inr (.inl e.symm)))))
 have HN:=zc L
 have N: ∀D E,z≤((w.alloc D).alloc E).heap.size:=fun D E=>by rw[zcN];omega
 have Y: ∀D E,A<((w.alloc D).alloc E).heap.size:=fun D E=>by rw[zcN];omega
 clear h L
 unfold exV
 go_enter Tryz.func220,Tryz.ntmps220
 go_wp2_with fail
 refine (zdX A q.ex.length 300 _ (by omega)).mono ?_
 rintro e w1 ⟨rfl,rfl⟩
 go_wp2_with fail
 go_region_law (first|(refine zfp rfl (.tmp 18) (.tmp 20) 46 rfl z 85 i0 _ 6 64 Tryz.underlying46 hi V U O rfl (by decide) (by decide) S.ex q.ex.length (q.ex.flatMap exL) (by rfl) (by exact I _ _) (w.heap.size+1) (exL x) (by rfl) (by exact new2 w _ _) rfl (znw x) (by omega) (by exact N _ _) ?_;intro r' w2 hr H J;have g2:=(H.block A (by exact Y _ _) HN.out).trans (by exact ((M.out.alloc _).alloc _).cells);obtain⟨d0,d1,d2,d3,d4,d5,d6,d7,d8,d9,df⟩:=zah g2))
 all_goals
  have HR:=zc hr
  have HG:=zc H
  have X:=zc J
  clear hr H J g2 c0 c1 c2 c3 c4 c5 c6 c7 c8 c9 cf
  go_wp2
  go_ret
  obtain⟨m',s'⟩:=M.out.grow_ex (zbc w _ _).drew HG.out HR.out X.out hn
  exact⟨zb7 (by omega),_,m',s'⟩
theorem zjg (x:Im): ∀u∈imL x,u.oneCell'=true:=by
 intro u h
 simp[imL] at h
 rcases h with rfl|rfl|rfl<;>rfl
theorem IM.grow_rq {C:Cx} {V L E A:Nat} {S:Sv} {q:PS} {w W H:World} {z:Rw} {x:ByteArray} (h:IM C V L E A S q w) (hW:Below w.heap.size w W) (X:W.grownBy H S.rq.blk) (Z:OwnR H E 9 1 z (q.rq.length+1) (q.rq.map .string++[.string x])) (U:z.blk=S.rq.blk∨z.blk=some W.heap.size) (hn:q.rq.length<40):
  IM C V L E A {S with rq:=z} {q with rq:=q.rq++[x]} (H.setCell ⟨A,4,none⟩ (.slice z.a (q.rq.length+1) z.cap))∧IS A S w {S with rq:=z} (H.setCell ⟨A,4,none⟩ (.slice z.a (q.rq.length+1) z.cap)):=by
 obtain⟨K,J⟩:=h.mem.grow_rq (x:=x) hW X Z U (Off.refl _ _ _) hn
 have D:=h.free
 have N:=h.lt
 have I: ¬Sv.has {S with rq:=z} A:=fun g=>(J.sub A g).elim D fun g'=>by omega
 have M: ∀k,k≠A→(H.setCell ⟨A,4,none⟩ (.slice z.a (q.rq.length+1) z.cap)).heap[k]? =H.heap[k]?:=fun k M=>Below.heap_setCell H ⟨A,4,none⟩ _ k M
 have O:(H.setCell ⟨A,4,none⟩ (.slice z.a (q.rq.length+1) z.cap)).heap.size=H.heap.size:=by show (H.heap.modify _ _).size=_;simp
 have hc:=(J.block A N D).trans h.cells
 refine⟨⟨⟨K.own.keep fun k g=>M k fun e=>I (by rw[←e];exact g),K.inv,zbE K.tok (M V h.ne.symm),K.few,by rw[O];exact K.base⟩,?_,h.ge⟩,?_⟩
 ·rw[zag hc]
  simp
 ·exact (show IS A S w {S with rq:=z} H from⟨J.os,J.tape,J.output,J.size,fun k h1 Y _=>J.block k h1 Y,J.sub⟩).set _ _
theorem IM.grow_im {C:Cx} {V L E A:Nat} {S:Sv} {q:PS} {w W H:World} {z:Rw} {x:Im} (h:IM C V L E A S q w) (hW:Below w.heap.size w W) (X:W.grownBy H S.im.blk) (Z:OwnR H E 80 3 z (q.im.length+1) (q.im.flatMap imL++imL x)) (U:z.blk=S.im.blk∨z.blk=some W.heap.size) (hn:q.im.length<40):
  IM C V L E A {S with im:=z} {q with im:=q.im++[x]} (H.setCell ⟨A,5,none⟩ (.slice z.a (q.im.length+1) z.cap))∧IS A S w {S with im:=z} (H.setCell ⟨A,5,none⟩ (.slice z.a (q.im.length+1) z.cap)):=by
 obtain⟨K,J⟩:=h.mem.grow_im (x:=x) hW X Z U (Off.refl _ _ _) hn
 have D:=h.free
 have N:=h.lt
 have I: ¬Sv.has {S with im:=z} A:=fun g=>(J.sub A g).elim D fun g'=>by omega
 have M: ∀k,k≠A→(H.setCell ⟨A,5,none⟩ (.slice z.a (q.im.length+1) z.cap)).heap[k]? =H.heap[k]?:=fun k M=>Below.heap_setCell H ⟨A,5,none⟩ _ k M
 have O:(H.setCell ⟨A,5,none⟩ (.slice z.a (q.im.length+1) z.cap)).heap.size=H.heap.size:=by show (H.heap.modify _ _).size=_;simp
 have hc:=(J.block A N D).trans h.cells
 refine⟨⟨⟨K.own.keep fun k g=>M k fun e=>I (by rw[←e];exact g),K.inv,zbE K.tok (M V h.ne.symm),K.few,by rw[O];exact K.base⟩,?_,h.ge⟩,?_⟩
 ·rw[zag hc]
  simp
 ·exact (show IS A S w {S with im:=z} H from⟨J.os,J.tape,J.output,J.size,fun k h1 Y _=>J.block k h1 Y,J.sub⟩).set _ _
theorem IM.grow_ep {C:Cx} {V L E A:Nat} {S:Sv} {q:PS} {w W H:World} {z:Rw} {x:Ep} (h:IM C V L E A S q w) (hW:Below w.heap.size w W) (X:W.grownBy H S.ep.blk) (Z:OwnR H E 82 4 z (q.ep.length+1) (q.ep.flatMap epL++epL x)) (U:z.blk=S.ep.blk∨z.blk=some W.heap.size) (hn:q.ep.length+q.la.length<40):
  IM C V L E A {S with ep:=z} {q with ep:=q.ep++[x]} (H.setCell ⟨A,6,none⟩ (.slice z.a (q.ep.length+1) z.cap))∧IS A S w {S with ep:=z} (H.setCell ⟨A,6,none⟩ (.slice z.a (q.ep.length+1) z.cap)):=by
 obtain⟨K,J⟩:=h.mem.grow_ep (x:=x) hW X Z U (Off.refl _ _ _) hn
 have D:=h.free
 have N:=h.lt
 have I: ¬Sv.has {S with ep:=z} A:=fun g=>(J.sub A g).elim D fun g'=>by omega
 have M: ∀k,k≠A→(H.setCell ⟨A,6,none⟩ (.slice z.a (q.ep.length+1) z.cap)).heap[k]? =H.heap[k]?:=fun k M=>Below.heap_setCell H ⟨A,6,none⟩ _ k M
 have O:(H.setCell ⟨A,6,none⟩ (.slice z.a (q.ep.length+1) z.cap)).heap.size=H.heap.size:=by show (H.heap.modify _ _).size=_;simp
 have hc:=(J.block A N D).trans h.cells
 refine⟨⟨⟨K.own.keep fun k g=>M k fun e=>I (by rw[←e];exact g),K.inv,zbE K.tok (M V h.ne.symm),K.few,by rw[O];exact K.base⟩,?_,h.ge⟩,?_⟩
 ·rw[zag hc]
  simp
 ·exact (show IS A S w {S with ep:=z} H from⟨J.os,J.tape,J.output,J.size,fun k h1 Y _=>J.block k h1 Y,J.sub⟩).set _ _
theorem IM.grow_st {C:Cx} {V L E A:Nat} {S:Sv} {q:PS} {w W H:World} {z:Rw} {x:Sm} (h:IM C V L E A S q w) (hW:Below w.heap.size w W) (X:W.grownBy H S.st.blk) (Z:OwnR H E 87 3 z (q.st.length+1) (q.st.flatMap smL++smL x)) (U:z.blk=S.st.blk∨z.blk=some W.heap.size) (hn:q.st.length<80):
  IM C V L E A {S with st:=z} {q with st:=q.st++[x]} (H.setCell ⟨A,7,none⟩ (.slice z.a (q.st.length+1) z.cap))∧IS A S w {S with st:=z} (H.setCell ⟨A,7,none⟩ (.slice z.a (q.st.length+1) z.cap)):=by
 obtain⟨K,J⟩:=h.mem.grow_st (x:=x) hW X Z U (Off.refl _ _ _) hn
 have D:=h.free
 have N:=h.lt
 have I: ¬Sv.has {S with st:=z} A:=fun g=>(J.sub A g).elim D fun g'=>by omega
 have M: ∀k,k≠A→(H.setCell ⟨A,7,none⟩ (.slice z.a (q.st.length+1) z.cap)).heap[k]? =H.heap[k]?:=fun k M=>Below.heap_setCell H ⟨A,7,none⟩ _ k M
 have O:(H.setCell ⟨A,7,none⟩ (.slice z.a (q.st.length+1) z.cap)).heap.size=H.heap.size:=by show (H.heap.modify _ _).size=_;simp
 have hc:=(J.block A N D).trans h.cells
 refine⟨⟨⟨K.own.keep fun k g=>M k fun e=>I (by rw[←e];exact g),K.inv,zbE K.tok (M V h.ne.symm),K.few,by rw[O];exact K.base⟩,?_,h.ge⟩,?_⟩
 ·rw[zag hc]
  simp
 ·exact (show IS A S w {S with st:=z} H from⟨J.os,J.tape,J.output,J.size,fun k h1 Y _=>J.block k h1 Y,J.sub⟩).set _ _
theorem IM.grow_la {C:Cx} {V L E A:Nat} {S:Sv} {q:PS} {w W H:World} {z:Rw} {x:Ep} (h:IM C V L E A S q w) (hW:Below w.heap.size w W) (X:W.grownBy H S.la.blk) (Z:OwnR H E 82 4 z (q.la.length+1) (q.la.flatMap epL++epL x)) (U:z.blk=S.la.blk∨z.blk=some W.heap.size) (hn:q.ep.length+q.la.length<40):
  IM C V L E A {S with la:=z} {q with la:=q.la++[x]} (H.setCell ⟨A,9,none⟩ (.slice z.a (q.la.length+1) z.cap))∧IS A S w {S with la:=z} (H.setCell ⟨A,9,none⟩ (.slice z.a (q.la.length+1) z.cap)):=by
 obtain⟨K,J⟩:=h.mem.grow_la (x:=x) hW X Z U (Off.refl _ _ _) hn
 have D:=h.free
 have N:=h.lt
 have I: ¬Sv.has {S with la:=z} A:=fun g=>(J.sub A g).elim D fun g'=>by omega
 have M: ∀k,k≠A→(H.setCell ⟨A,9,none⟩ (.slice z.a (q.la.length+1) z.cap)).heap[k]? =H.heap[k]?:=fun k M=>Below.heap_setCell H ⟨A,9,none⟩ _ k M
 have O:(H.setCell ⟨A,9,none⟩ (.slice z.a (q.la.length+1) z.cap)).heap.size=H.heap.size:=by show (H.heap.modify _ _).size=_;simp
 have hc:=(J.block A N D).trans h.cells
 refine⟨⟨⟨K.own.keep fun k g=>M k fun e=>I (by rw[←e];exact g),K.inv,zbE K.tok (M V h.ne.symm),K.few,by rw[O];exact K.base⟩,?_,h.ge⟩,?_⟩
 ·rw[zag hc]
  simp
 ·exact (show IS A S w {S with la:=z} H from⟨J.os,J.tape,J.output,J.size,fun k h1 Y _=>J.block k h1 Y,J.sub⟩).set _ _
theorem zny (C:Cx) (gt K z A:Nat) (S:Sv) (q:PS) (x:Im) (w:World) (h:IM C gt K z A S q w) (hn:q.im.length<40):
  Calls Tryz.prog 214 #[.pointer (some ⟨A,0,none⟩),imV x] w fun e Z=>e= .returned (.tuple #[])∧∃S',IM C gt K z A S' {q with im:=q.im++[x]} Z∧IS A S w S' Z:=by
 obtain⟨i0,hi,V,U,O⟩:=info_parts Tryz.infoImp
 have M:=zc h
 have aa:=h.lt
 obtain⟨c0,c1,c2,c3,c4,c5,c6,c7,c8,c9,cf⟩:=zah h.cells
 have I:=fun D E=>((M.out.mem.own.im.alloc D).drew.alloc E)
 have ab:=h.mem.base
 have L:some A≠S.im.blk:=fun e=>M.out.free (.inr (.inl e.symm))
 have HN:=zc L
 have N: ∀D E,z≤((w.alloc D).alloc E).heap.size:=fun D E=>by rw[zcN];omega
 have Y: ∀D E,A<((w.alloc D).alloc E).heap.size:=fun D E=>by rw[zcN];omega
 clear h L
 unfold imV
 go_enter Tryz.func214,Tryz.ntmps214
 go_wp2_with fail
 refine (zdX A q.im.length 40 _ (by omega)).mono ?_
 rintro e w1 ⟨rfl,rfl⟩
 go_wp2_with fail
 go_region_law (first|(refine zfp rfl (.tmp 17) (.tmp 19) 43 rfl z 80 i0 _ 3 48 Tryz.underlying43 hi V U O rfl (by decide) (by decide) S.im q.im.length (q.im.flatMap imL) (by rfl) (by exact I _ _) (w.heap.size+1) (imL x) (by rfl) (by exact new2 w _ _) rfl (zjg x) (by omega) (by exact N _ _) ?_;intro r' w2 hr H J;have g2:=(H.block A (by exact Y _ _) HN.out).trans (by exact ((M.out.alloc _).alloc _).cells);obtain⟨d0,d1,d2,d3,d4,d5,d6,d7,d8,d9,df⟩:=zah g2))
 all_goals
  have HR:=zc hr
  have HG:=zc H
  have X:=zc J
  clear hr H J g2 c0 c1 c2 c3 c4 c5 c6 c7 c8 c9 cf
  go_wp2
  go_end0
  obtain⟨m',s'⟩:=M.out.grow_im (zbc w _ _).drew HG.out HR.out X.out hn
  exact⟨rfl,_,m',s'⟩
end Go.Proofs.YtcidlffeeninbaaGreat
