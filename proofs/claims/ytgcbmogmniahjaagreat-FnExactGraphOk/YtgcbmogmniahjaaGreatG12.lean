/- Facts and walks that the theorem stands on. -/
import Derived.Deep.LoopGhost
import Derived.Test.YtgcbmogmniahjaaGreatG11
namespace Go.Proofs.YtgcbmogmniahjaaGreat
open Go.Proofs.Tryz
set_option maxRecDepth 100000
set_option maxHeartbeats 3200000
open Go.RowKit Go.PlainAid Go.Sort
def zaF (C:Cx) (s:BA):Nat->Nat->PS->PR
 |0,_,q=>.ok q
 |n+1,k,q=>bd (zd C 4 (s.extract k (k+1)) q) (zaF C s n (k+1))
theorem zhs {C:Cx} {k:Int} {x:BA} {q:PS} (h:isT C q.pos k x=false):zd C k x q= .error (zs C q.pos):=by rw[zd,h];rfl
theorem zcc {C:Cx} {k:Int} {x:BA} {q:PS} (h:isT C q.pos k x=true):zd C k x q= .ok (adv q):=if_pos h
theorem zht (C:Cx) (J z base H:Nat) (S:Sv) (q:PS) (s:BA) (w:World) (h:IM C J z base H S q w) (hs:s.size<=100):
  Calls prog 220 #[.pointer (some ⟨H,0,none⟩),.string s] w (zT C J z base H (zaF C s s.size 0 q) id (fun _=>.tuple #[]) S w):=by
 go_enter func220,ntmps220;go_wp2;go_loopg [7] s.size (fun k i wr=>∃(j:Nat) (D:PS),i= .int .i64 j/\j+k=s.size/\zaF C s k j D=zaF C s s.size 0 q/\IM C J z base H S D wr/\IS H S w S wr)
 case atStart=>exact⟨0,q,rfl,by omega,rfl,h,IS.refl _ _ _⟩
 case round=>
  obtain⟨j,D,rfl,hj,he,V,t⟩:=hrel;have K:=zc he;have Y:=zc t;clear he t
  match gk,hj,K with
  |0,hj,K=>
   have O: ¬j<s.size:=by omega
   go_wp2;go_end0;rw[<-K.o];exact⟨rfl,S,V,Y.o⟩
  |k+1,hj,K=>
   have O:j<s.size:=by omega
   obtain⟨A,L⟩: ∃A,A=j+1:=⟨_,rfl⟩;have ej:(j:Int)+1=(A:Int):=by omega
   have ab:A<=s.size:=by omega
   have ac:j<=A:=by omega
   have U:=zc L;clear L;cases N:isT C D.pos 4 (s.extract j A) with
   |true=>
    have HX:Hid (zaF C s k A (adv D)=zaF C s s.size 0 q):=by
     show _=_;rw[<-K.o,zaF,<-U.o,zcc N];rfl
    go_wp2_with fail;refine (zN C J z base H S D 4 (s.extract j A) _ V (by decide)).mono ?_;rintro e w1 ⟨rfl,I,M⟩;rw[N] at I ⊢;have E:=zc I;have X:=Y.o.trans M;clear I M;go_wp2;go_roundg k
    case rel=>exact⟨A,adv D,rfl,by have:=U.o;omega,HX.o,E.o,X⟩
    case measure=>omega
   |false=>
    have HX:Hid (zaF C s s.size 0 q= .error (zs C D.pos)):=by
     show _=_;rw[<-K.o,zaF,<-U.o,zhs N];rfl
    go_wp2_with fail;refine (zN C J z base H S D 4 (s.extract j A) _ V (by decide)).mono ?_;rintro e w1 ⟨rfl,I,M⟩;rw[N] at I ⊢;have E:=zc I;have HB:=(Y.o.trans M).under h.mem.base h.mem.own h.ge;clear I M;go_wp2_with fail;refine (zeA C J z base H S D _ E.o).mono ?_;rintro e w2 ⟨rfl,aa⟩;have Z:=HB.trans (aa.mono E.o.mem.base);unfold Pan;go_wp2;refine⟨rfl,?_⟩;rw[HX.o];exact⟨rfl,Z⟩
theorem zfs {P:Program} {N:Array Oper} {o:Oper} {a:Act} {W:World} {K:Act->World->Prop} {Q:Exit->Act->World->Prop} {E:Prop} (U:o.guard=none) (s x:Operand) (t:TypeId)
  (ho:o.op= .call {callee:=.builtin .append,args:=#[s,x],argTypes:=#[t,t]})
  (base:Nat) (e:TypeId) (i:TypeInfo) (z:Value) (size q:Nat) (ht:P.underlying t=some (.slice e)) (hi:P.info? e=some i) (hz:i.zero=some z) (D:i.size=size) (X:i.bytes=q) (Y:z.cells.size=size) (V:0<size) (M:q<=100)
  (r:Rw) (n:Nat) (xs:List Value) (hs:a.eval s= .slice r.a n r.cap) (I:OwnR W base e size r n xs)
  (O:Nat) (w:List Value) (hx:a.eval x= .slice (some ⟨O,0,none⟩) 1 1) (hg:W.heap[O]? =some (.cells w.toArray e (0,0))) (hl:w.length=size) (h1: ∀u∈w,u.oneCell'=true) (hn:n+1<=4000000) (H:base<=W.heap.size)
  (h: ∀J L,OwnR L base e size J (n+1) (xs++w)->W.grownBy L r.blk->(J.blk=r.blk∨J.blk=some W.heap.size)->K (a.put o.dst (.slice J.a (n+1) J.cap)) L):
  if Region.wanted o (yielded N a.tmps)=true then Oper.wp P o a W K Q else E:=by
 have hw:Region.wanted o (yielded N a.tmps)=true:=by simp[Region.wanted,U]
 rw[if_pos hw]
 obtain⟨v',L,hr,h2,h3,_,h5⟩:=run_append_own_at (P:=P) W base t o.type e i z size q ht hi hz D X Y V _ n xs I ⟨O,0,none⟩ 1 1 w (by omega) (by
  intro j u hj;have e1:(⟨O,0,none⟩:Addr).add j=⟨O,j,none⟩:=by simp[Addr.add];exact fun h=>h.symm
  rw[e1]
  simp[World.cell?,hg,hj]) h1 (by unfold maxLen;omega) (by have:(n+1)*q<=4000000*100:=Nat.mul_le_mul hn M;omega) H
 unfold Oper.wp execOp;simp only[ho,resolve,invoke,builtin,Sem.run_bind,Sem.run_pure,Result.andThen_ok,List.map_toArray,List.map_cons,List.map_nil,hs,hx,hr];rcases h2.2 with ⟨hv,ab⟩|⟨g',A,aa,rfl,Z⟩
 ·omega
 ·refine h ⟨some ⟨g',0,none⟩,A⟩ L h2 ?_ ?_
  ·rw[<-zb4 r n];exact h3
  ·rw[<-zb4 r n,<-zb4 ⟨some ⟨g',0,none⟩,A⟩ (n+1)];exact h5
def Is (x:PR) (q:PS) (z:Int):Prop:=
 match x with
 | .ok q0=>q=q0/\z= -1
 | .error e=>z=(e:Int)
theorem zaa (q:PS):Is (.ok q) q (-1):=⟨rfl,rfl⟩
theorem zaG {x:PR} {q:PS} {z:Int} (h:Is x q z) (w:z<0):x= .ok q/\z= -1:=by
 cases x with
 |ok A=>obtain⟨rfl,rfl⟩:=h;exact⟨rfl,rfl⟩
 |error e=>have:z=(e:Int):=h;omega
theorem zd2 {x:PR} {q:PS} {z:Int} (h:Is x q z) (w: ¬z<0): ∃e,x= .error e/\z=(e:Int):=by
 cases x with
 |ok A=>obtain⟨rfl,rfl⟩:=h;exact absurd (by decide) w
 |error e=>exact⟨e,rfl,h⟩
def Out (C:Cx) (gt cap base:Nat) (y:PR) (d:Nat) (S:Sv) (w:World) (e:Ending) (w':World):Prop:=
 ∃S' q' z',e= .returned (pv C gt cap S' q' z' d)/\Hid (Is y q' z')/\Mem C gt cap base S' q' w'/\Stp S w S' w'
theorem zcA {C:Cx} {q h base:Nat} {y:PR} {d:Nat} {S:Sv} {w z:World} {q':PS} {z':Int} {v:Value} (E:v=pv C q h S q' z' d) (H:Is y q' z') (D:Mem C q h base S q' w) (A:Below w.heap.size w z):Out C q h base y d S w (.returned v) z:=
 ⟨S,q',z',by rw[E],H,D.later A,Stp.below A⟩
theorem zft (C:Cx) (H h base:Nat) (S:Sv) (q:PS) (z:Int) (d:Nat) (w:World) (A:Mem C H h base S q w) (O:z<0) (N:1<=q.pos):
  Calls prog 160 #[pv C H h S q z d] w fun e K=>e= .returned (pv C H h S q (zs C (q.pos-1)) d)/\Below w.heap.size w K:=by
 obtain⟨p,E⟩: ∃p,q.pos=p+1:=⟨q.pos-1,by omega⟩;have D:p<C.ts.length:=by have:=A.inv.pos;omega
 have J:=A.few;obtain⟨_,_,_,M⟩:=A.tok.cells D (d:=⟨0,sNone,0,C.fin⟩);have I:=(zat A.tok).1;change _=some (Value.int .i64 (zs C p)) at M;rw[show q.pos-1=p from by omega];have L:(q.pos:Int)-1=p:=by omega
 clear E;unfold pv;go_enter func160,ntmps160;go_wp2;refine bodyPost_ret (results_cell_row rfl _ _ (w.heap.size+1) 121 _ (0,0) _ rfl (new2 w _ _) underlying121 rfl (by kernel_rfl)) rfl ?_;exact⟨rfl,zbd w _ _⟩
theorem zah (C:Cx) (K h base:Nat) (x:PR) (S:Sv) (q:PS) (z:Int) (d:Nat) (s:BA) (w:World) (hx:Is x q z) (hm:Mem C K h base S q w):
  Calls prog 118 #[pv C K h S q z d,.string s] w (Out C K h base (bd x (zd C 4 s)) d S w):=by
 have HM:=zc hm;have A:=hm.tok;have E:=hm.few;have HX:=zc hx;clear hx hm;cases D:(decide (z<0)&&isT C q.pos 4 s) with
 |true=>
  have aa:q.pos<C.ts.length:=by rw[Bool.and_eq_true] at D;exact za7 D.2 (by decide)
  have HY:Hid (Is (bd x (zd C 4 s)) (adv q) z):=by
   rw[Bool.and_eq_true,decide_eq_true_eq] at D;obtain⟨N,Z⟩:=zaG HX.o D.1;show Is (bd x (zd C 4 s)) (adv q) z;rw[N,zA,zd,if_pos D.2];exact⟨rfl,Z⟩
  unfold pv;go_enter func118,ntmps118;go_wp2_with fail;refine (zk C K h base S q z d 4 s _ (zr (zr A _) _) E (by decide)).mono ?_;rintro e w1 ⟨rfl,H⟩;rw[D];obtain⟨X,J⟩:=zcL H;obtain⟨a0,a1,a2,a3,a4,a5,a6,a7,a8,a9,O,V,af⟩:=zan X;obtain⟨b0,b1,b2,b3,b4,b5,b6,b7,b8,b9,M,L,bf⟩:=zan J;have G2:=zc J;clear X J D;go_wp2;refine bodyPost_ret (results_cell_row rfl _ _ (w.heap.size+1) 121 _ (0,0) _ rfl (zbc ((zv (by omega)).trans G2.o)) underlying121 rfl (by kernel_rfl)) rfl ?_;exact zcA rfl HY.o (HM.o.adv aa) (zbV ((zbh H).setCell (Nat.le_refl _) _) (Nat.le_succ _) ..)
 |false=>
  have HY:Hid (Is (bd x (zd C 4 s)) q (zb6 C q.pos z)):=by
   show Is (bd x (zd C 4 s)) q (zb6 C q.pos z);unfold zb6;by_cases U:z<0
   ·obtain⟨N,Z⟩:=zaG HX.o U;simp only[U,decide_true,Bool.true_and] at D;rw[N,zA,zd,D,if_pos U];rfl
   ·obtain⟨e,N,Z⟩:=zd2 HX.o U;rw[N,ze2,if_neg U];exact Z
  unfold pv;go_enter func118,ntmps118;go_wp2_with fail;refine (zk C K h base S q z d 4 s _ (zr (zr A _) _) E (by decide)).mono ?_;rintro e w1 ⟨rfl,H⟩;rw[D];obtain⟨X,J⟩:=zcL H;obtain⟨a0,a1,a2,a3,a4,a5,a6,a7,a8,a9,O,V,af⟩:=zan X;obtain⟨b0,b1,b2,b3,b4,b5,b6,b7,b8,b9,M,L,bf⟩:=zan J;have G2:=zc J;have I:=zcw A (zbh H);clear X J D;go_wp2_with fail;refine (zd0 C K h base S q z d _ I E).mono ?_;rintro e w2 ⟨rfl,Y⟩;have G3:Hid (_=_):=(Y.block _ (Nat.lt_of_lt_of_le (by simp) H.size)).trans G2.o;obtain⟨c0,c1,c2,c3,c4,c5,c6,c7,c8,c9,ad,ac,cf⟩:=zan G3.o;have ab:=(zbh H).trans (Y.mono (zbh H).size);clear a0 a1 a2 a3 a4 a5 a6 a7 a8 a9 O V b0 b1 b2 b3 b4 b5 b6 b7 b8 b9 M L af bf;unfold pv;go_wp2;refine bodyPost_ret (results_cell_row rfl _ _ (w.heap.size+1) 121 _ (0,0) _ rfl (zbc G3.o) underlying121 rfl (by kernel_rfl)) rfl ?_;exact zcA rfl HY.o HM.o (zbV ab (Nat.le_succ _) ..)
-- GEN
theorem zaM (C:Cx) (K h base:Nat) (x:PR) (S:Sv) (q:PS) (z:Int) (d:Nat) (s:BA) (w:World) (hx:Is x q z) (hm:Mem C K h base S q w):
  Calls prog 120 #[pv C K h S q z d,.string s] w (Out C K h base (bd x (zd C 1 s)) d S w):=by
 have HM:=zc hm;have A:=hm.tok;have E:=hm.few;have HX:=zc hx;clear hx hm;cases D:(decide (z<0)&&isT C q.pos 1 s) with
 |true=>
  have aa:q.pos<C.ts.length:=by rw[Bool.and_eq_true] at D;exact za7 D.2 (by decide)
  have HY:Hid (Is (bd x (zd C 1 s)) (adv q) z):=by
   rw[Bool.and_eq_true,decide_eq_true_eq] at D;obtain⟨N,Z⟩:=zaG HX.o D.1;show Is (bd x (zd C 1 s)) (adv q) z;rw[N,zA,zd,if_pos D.2];exact⟨rfl,Z⟩
  unfold pv;go_enter func120,ntmps120;go_wp2_with fail;refine (zk C K h base S q z d 1 s _ (zr (zr A _) _) E (by decide)).mono ?_;rintro e w1 ⟨rfl,H⟩;rw[D];obtain⟨X,J⟩:=zcL H;obtain⟨a0,a1,a2,a3,a4,a5,a6,a7,a8,a9,O,V,af⟩:=zan X;obtain⟨b0,b1,b2,b3,b4,b5,b6,b7,b8,b9,M,L,bf⟩:=zan J;have G2:=zc J;clear X J D;go_wp2;refine bodyPost_ret (results_cell_row rfl _ _ (w.heap.size+1) 121 _ (0,0) _ rfl (zbc ((zv (by omega)).trans G2.o)) underlying121 rfl (by kernel_rfl)) rfl ?_;exact zcA rfl HY.o (HM.o.adv aa) (zbV ((zbh H).setCell (Nat.le_refl _) _) (Nat.le_succ _) ..)
 |false=>
  have HY:Hid (Is (bd x (zd C 1 s)) q (zb6 C q.pos z)):=by
   show Is (bd x (zd C 1 s)) q (zb6 C q.pos z);unfold zb6;by_cases U:z<0
   ·obtain⟨N,Z⟩:=zaG HX.o U;simp only[U,decide_true,Bool.true_and] at D;rw[N,zA,zd,D,if_pos U];rfl
   ·obtain⟨e,N,Z⟩:=zd2 HX.o U;rw[N,ze2,if_neg U];exact Z
  unfold pv;go_enter func120,ntmps120;go_wp2_with fail;refine (zk C K h base S q z d 1 s _ (zr (zr A _) _) E (by decide)).mono ?_;rintro e w1 ⟨rfl,H⟩;rw[D];obtain⟨X,J⟩:=zcL H;obtain⟨a0,a1,a2,a3,a4,a5,a6,a7,a8,a9,O,V,af⟩:=zan X;obtain⟨b0,b1,b2,b3,b4,b5,b6,b7,b8,b9,M,L,bf⟩:=zan J;have G2:=zc J;have I:=zcw A (zbh H);clear X J D;go_wp2_with fail;refine (zd0 C K h base S q z d _ I E).mono ?_;rintro e w2 ⟨rfl,Y⟩;have G3:Hid (_=_):=(Y.block _ (Nat.lt_of_lt_of_le (by simp) H.size)).trans G2.o;obtain⟨c0,c1,c2,c3,c4,c5,c6,c7,c8,c9,ad,ac,cf⟩:=zan G3.o;have ab:=(zbh H).trans (Y.mono (zbh H).size);clear a0 a1 a2 a3 a4 a5 a6 a7 a8 a9 O V b0 b1 b2 b3 b4 b5 b6 b7 b8 b9 M L af bf;unfold pv;go_wp2;refine bodyPost_ret (results_cell_row rfl _ _ (w.heap.size+1) 121 _ (0,0) _ rfl (zbc G3.o) underlying121 rfl (by kernel_rfl)) rfl ?_;exact zcA rfl HY.o HM.o (zbV ab (Nat.le_succ _) ..)
theorem zdZ (s:BA) (h:Bool) (w:World):
  Calls prog 179 #[.string s,.bool h] w fun e N=>e= .returned (.bool (zu s h))/\N=w:=by
 cases z:(s.toList==[105,109,112,111,114,116]) with
 |true=>
  have q:Hid (zu s h=true):=by show zu s h=true;simp[zu,z]
  go_enter func179,ntmps179;go_wp2;go_ret;exact⟨zi q.o.symm,rfl⟩
 |false=>
  cases A:(s.toList==[101,120,112,111,114,116]) with
  |true=>
   have q:Hid (zu s h=true):=by show zu s h=true;simp[zu,z,A]
   go_enter func179,ntmps179;go_wp2;go_ret;exact⟨zi q.o.symm,rfl⟩
  |false=>
   cases D:(s.toList==[100,101,102,97,117,108,116]) with
   |true=>
    have q:Hid (zu s h=true):=by show zu s h=true;simp[zu,z,A,D]
    go_enter func179,ntmps179;go_wp2;go_ret;exact⟨zi q.o.symm,rfl⟩
   |false=>
    cases E:(s.toList==[108,101,116]) with
    |true=>
     have q:Hid (zu s h=true):=by show zu s h=true;simp[zu,z,A,D,E]
     go_enter func179,ntmps179;go_wp2;go_ret;exact⟨zi q.o.symm,rfl⟩
    |false=>
     cases H:(s.toList==[102,117,110,99,116,105,111,110]) with
     |true=>
      have q:Hid (zu s h=true):=by show zu s h=true;simp[zu,z,A,D,E,H]
      go_enter func179,ntmps179;go_wp2;go_ret;exact⟨zi q.o.symm,rfl⟩
     |false=>
      cases I:(s.toList==[114,101,116,117,114,110]) with
      |true=>
       have q:Hid (zu s h=true):=by show zu s h=true;simp[zu,z,A,D,E,H,I]
       go_enter func179,ntmps179;go_wp2;go_ret;exact⟨zi q.o.symm,rfl⟩
      |false=>
       cases J:(s.toList==[112,114,105,110,116]) with
       |true=>
        have q:Hid (zu s h=true):=by show zu s h=true;simp[zu,z,A,D,E,H,I,J]
        go_enter func179,ntmps179;go_wp2;go_ret;exact⟨zi q.o.symm,rfl⟩
       |false=>
        cases K:(s.toList==[116,104,114,111,119]) with
        |true=>
         have q:Hid (zu s h=true):=by show zu s h=true;simp[zu,z,A,D,E,H,I,J,K]
         go_enter func179,ntmps179;go_wp2;go_ret;exact⟨zi q.o.symm,rfl⟩
        |false=>
         cases L:(s.toList==[102,97,105,108]) with
         |true=>
          have q:Hid (zu s h=h):=by show zu s h=h;simp[zu,z,A,D,E,H,I,J,K,L]
          go_enter func179,ntmps179;go_wp2;go_ret;exact⟨zi q.o.symm,rfl⟩
         |false=>
          cases M:(s.toList==[117,110,100,101,102]) with
          |true=>
           have q:Hid (zu s h=h):=by show zu s h=h;simp[zu,z,A,D,E,H,I,J,K,L,M]
           go_enter func179,ntmps179;go_wp2;go_ret;exact⟨zi q.o.symm,rfl⟩
          |false=>
           have q:Hid (zu s h=false):=by show zu s h=false;simp[zu,z,A,D,E,H,I,J,K,L,M]
           go_enter func179,ntmps179;go_wp2;go_ret;exact⟨zi q.o.symm,rfl⟩
theorem znG {C:Cx} {i:Nat} {o:Bool} (h:((ze C i).kind==1)=false):zG C i o=false:=by rw[zG,h];rfl
theorem zhu {C:Cx} {i:Nat} {o:Bool} (h: ¬i<C.ts.length):zG C i o=false:=by
 rw[Bool.eq_false_iff];exact fun g=>h (zff g)
theorem zge (C:Cx) (X I base:Nat) (S:Sv) (q:PS) (z:Int) (d:Nat) (o:Bool) (w:World) (V:OwnT w base 158 X C.ts.length I C.ts) (_:C.ts.length<=4000):
  Calls prog 155 #[pv C X I S q z d,.bool o] w fun e D=>e= .returned (.bool (decide (z<0)&&zG C q.pos o))/\Below w.heap.size w D:=by
 unfold pv;by_cases Z:z<0
 ·have E:decide (z<0)=true:=decide_eq_true Z;have K:decide (0<=z)=false:=decide_eq_false (by omega);by_cases M:q.pos<C.ts.length
  ·obtain⟨U,Y,_,_⟩:=V.cells M (d:=⟨0,sNone,0,C.fin⟩);have O:=(zat V).1;change _=some (Value.int .i64 (ze C q.pos).kind) at U;change _=some (Value.string (ze C q.pos).text) at Y;generalize h:ze C q.pos=t at U Y;cases H:(t.kind==1) with
   |true=>
    have L:(t.kind !=1)=false:=by rw[bne,H];rfl
    cases J:zu t.text C.scr with
    |false=>
     have A:Hid (zG C q.pos o=true):=by show zG C q.pos o=true;simp only[zG,h,H,J,Bool.not_false,Bool.true_or,Bool.and_self]
     clear h;go_enter func155,ntmps155;go_wp2_with (first|(go_at_call 179;refine (zdZ _ _ _).mono ?_;rintro e D ⟨rfl,rfl⟩));go_ret;exact⟨zi (by first|(rw[E,A.o];rfl)|rfl),(Below.refl _ _).alloc (Nat.le_refl _) _⟩
    |true=>
     cases o with
     |true=>
      cases N:(t.text.toList==[100,101,102,97,117,108,116]) with
      |true=>
       have A:Hid (zG C q.pos true=true):=by show zG C q.pos true=true;simp only[zG,h,H,J,N,Bool.not_true,Bool.and_self,Bool.false_or]
       clear h;go_enter func155,ntmps155;go_wp2_with (first|(go_at_call 179;refine (zdZ _ _ _).mono ?_;rintro e D ⟨rfl,rfl⟩));go_ret;exact⟨zi (by first|(rw[E,A.o];rfl)|rfl),(Below.refl _ _).alloc (Nat.le_refl _) _⟩
      |false=>
       have A:Hid (zG C q.pos true=false):=by show zG C q.pos true=false;simp only[zG,h,H,J,N,Bool.not_true,Bool.true_and,Bool.or_self]
       clear h;go_enter func155,ntmps155;go_wp2_with (first|(go_at_call 179;refine (zdZ _ _ _).mono ?_;rintro e D ⟨rfl,rfl⟩));go_ret;exact⟨zi (by first|(rw[E,A.o];rfl)|rfl),(Below.refl _ _).alloc (Nat.le_refl _) _⟩
     |false=>
      have A:Hid (zG C q.pos false=false):=by show zG C q.pos false=false;simp only[zG,h,H,J,Bool.not_true,Bool.false_and,Bool.or_self,Bool.and_false]
      clear h;go_enter func155,ntmps155;go_wp2_with (first|(go_at_call 179;refine (zdZ _ _ _).mono ?_;rintro e D ⟨rfl,rfl⟩));go_ret;exact⟨zi (by first|(rw[E,A.o];rfl)|rfl),(Below.refl _ _).alloc (Nat.le_refl _) _⟩
   |false=>
    have L:(t.kind !=1)=true:=by rw[bne,H];rfl
    have A:Hid (zG C q.pos o=false):=znG (by rw[h];exact H);clear h;go_enter func155,ntmps155;go_wp2_with (first|(go_at_call 179;refine (zdZ _ _ _).mono ?_;rintro e D ⟨rfl,rfl⟩));go_ret;exact⟨zi (by first|(rw[E,A.o];rfl)|rfl),(Below.refl _ _).alloc (Nat.le_refl _) _⟩
  ·have A:Hid (zG C q.pos o=false):=zhu M;go_enter func155,ntmps155;go_wp2_with (first|(go_at_call 179;refine (zdZ _ _ _).mono ?_;rintro e D ⟨rfl,rfl⟩));go_ret;exact⟨zi (by first|(rw[E,A.o];rfl)|rfl),(Below.refl _ _).alloc (Nat.le_refl _) _⟩
 ·have E:decide (z<0)=false:=decide_eq_false Z;have K:decide (0<=z)=true:=decide_eq_true (by omega);have A:Hid (zG C q.pos o=zG C q.pos o):=rfl;go_enter func155,ntmps155;go_wp2_with (first|(go_at_call 179;refine (zdZ _ _ _).mono ?_;rintro e D ⟨rfl,rfl⟩));go_ret;exact⟨zi (by first|(rw[E,A.o];rfl)|rfl),(Below.refl _ _).alloc (Nat.le_refl _) _⟩
def Is2 (y:Except Nat (PS×BA)) (q:PS) (z:Int) (n:BA):Prop:=
 match y with
 | .ok a=>q=a.1/\z= -1/\n=a.2
 | .error e=>z=(e:Int)
theorem Is2.fst {y:Except Nat (PS×BA)} {q:PS} {z:Int} {n:BA} (h:Is2 y q z n):Is (zaR y) q z:=by
 cases y with
 |ok a=>exact⟨h.1,h.2.1⟩
 |error e=>exact h
theorem Is2.bind {y:Except Nat (PS×BA)} {q:PS} {z:Int} {n:BA} (h:Is2 y q z n) {β:Type} (F:PS->BA->Except Nat β):bd (zaR y) (fun q=>F q n)=bd y fun a=>F a.1 a.2:=by
 cases y with
 |ok a=>obtain⟨_,_,rfl⟩:=h;rfl
 |error e=>rfl
def zdB (C:Cx) (gt cap base:Nat) (y:Except Nat (PS×BA)) (d:Nat) (S:Sv) (w:World) (e:Ending) (w':World):Prop:=
 ∃S' q' z' n',e= .returned (.tuple #[pv C gt cap S' q' z' d,.string n'])/\Hid (Is2 y q' z' n')/\Mem C gt cap base S' q' w'/\Stp S w S' w'
theorem zea {C:Cx} {z h base:Nat} {y:Except Nat (PS×BA)} {d:Nat} {S:Sv} {w A:World} {q':PS} {z':Int} {q:BA} {v:Value} (H:v=pv C z h S q' z' d) (I:Is2 y q' z' q) (E:Mem C z h base S q' w) (D:Below w.heap.size w A):zdB C z h base y d S w (.returned (.tuple #[v,.string q])) A:=
 ⟨S,q',z',q,by rw[H],I,E.later D,Stp.below D⟩
theorem zbn (C:Cx) (K D base:Nat) (x:PR) (S:Sv) (q:PS) (z:Int) (d:Nat) (o:Bool) (w:World) (hx:Is x q z) (Z:Mem C K D base S q w):
  Calls prog 122 #[pv C K D S q z d,.bool o] w (zdB C K D base (bd x (zm C o)) d S w):=by
 have HM:=zc Z;have A:=Z.tok;have H:=Z.few;have HX:=zc hx;clear hx Z;cases E:(decide (z<0)&&zG C q.pos o) with
 |true=>
  have L:q.pos<C.ts.length:=by rw[Bool.and_eq_true] at E;exact zff E.2
  have HY:Hid (Is2 (bd x (zm C o)) (adv q) z (ze C q.pos).text):=by
   rw[Bool.and_eq_true,decide_eq_true_eq] at E;obtain⟨M,Y⟩:=zaG HX.o E.1;show Is2 (bd x (zm C o)) (adv q) z (ze C q.pos).text;rw[M,zA,zm,if_pos E.2];exact⟨rfl,Y,rfl⟩
  unfold pv;go_enter func122,ntmps122;go_wp2_with fail;refine (zge C K D base S q z d o _ (zr (zr A _) _) H).mono ?_;rintro e w1 ⟨rfl,I⟩;rw[E];obtain⟨V,J⟩:=zcL I;obtain⟨a0,a1,a2,a3,a4,a5,a6,a7,a8,a9,N,U,af⟩:=zan V;obtain⟨b0,b1,b2,b3,b4,b5,b6,b7,b8,b9,ac,ab,bf⟩:=zan J;have h:=zcw A (zbh I);obtain⟨_,c1,_,_⟩:=h.cells L (d:=⟨0,sNone,0,C.fin⟩);change _=some (Value.string (ze C q.pos).text) at c1;have G2:=zc J;clear V J E;go_wp2;refine bodyPost_ret (za8 rfl _ _ (w.heap.size+1) 121 _ (0,0) _ rfl (zbc ((zv (by omega)).trans G2.o)) underlying121 rfl (by kernel_rfl)) rfl ?_;exact zea rfl HY.o (HM.o.adv L) (zbV ((zbh I).setCell (Nat.le_refl _) _) (Nat.le_succ _) ..)
 |false=>
  have HY:Hid (Is2 (bd x (zm C o)) q (zb6 C q.pos z) sNone):=by
   show Is2 (bd x (zm C o)) q (zb6 C q.pos z) sNone;unfold zb6;by_cases O:z<0
   ·obtain⟨M,Y⟩:=zaG HX.o O;simp only[O,decide_true,Bool.true_and] at E;rw[M,zA,zm,E,if_pos O];rfl
   ·obtain⟨e,M,Y⟩:=zd2 HX.o O;rw[M,ze2,if_neg O];exact Y
  unfold pv;go_enter func122,ntmps122;go_wp2_with fail;refine (zge C K D base S q z d o _ (zr (zr A _) _) H).mono ?_;rintro e w1 ⟨rfl,I⟩;rw[E];obtain⟨V,J⟩:=zcL I;obtain⟨a0,a1,a2,a3,a4,a5,a6,a7,a8,a9,N,U,af⟩:=zan V;have G2:=zc J;have h:=zcw A (zbh I);clear V J E;go_wp2_with fail;refine (zd0 C K D base S q z d _ h H).mono ?_;rintro e w2 ⟨rfl,X⟩;have G3:Hid (_=_):=(X.block _ (Nat.lt_of_lt_of_le (by simp) I.size)).trans G2.o;obtain⟨c0,c1,c2,c3,c4,c5,c6,c7,c8,c9,ae,ad,cf⟩:=zan G3.o;have aa:=(zbh I).trans (X.mono (zbh I).size);clear a0 a1 a2 a3 a4 a5 a6 a7 a8 a9 N U af;unfold pv;go_wp2;refine bodyPost_ret (za8 rfl _ _ (w.heap.size+1) 121 _ (0,0) _ rfl (zbc G3.o) underlying121 rfl (by kernel_rfl)) rfl ?_;exact zea rfl HY.o HM.o (zbV aa (Nat.le_succ _) ..)
theorem Tryz.infoImp:(prog.info? 95).map (fun i=>(i.zero,i.size,i.bytes))=some (some (.agg #[.string {data:=#[]},.string {data:=#[]},.string {data:=#[]}]),3,48):=by kernel_rfl
theorem Tryz.infoExp:(prog.info? 97).map (fun i=>(i.zero,i.size,i.bytes))=some (some (.agg #[.int .i64 0,.string {data:=#[]},.string {data:=#[]},.string {data:=#[]}]),4,56):=by kernel_rfl
theorem Tryz.infoStmt:(prog.info? 102).map (fun i=>(i.zero,i.size,i.bytes))=some (some (.agg #[.int .i64 0,.string {data:=#[]},.int .i64 0]),3,32):=by kernel_rfl
theorem Tryz.infoExpr:(prog.info? 100).map (fun i=>(i.zero,i.size,i.bytes))=some (some (.agg #[.int .i64 0,.int .i64 0,.string {data:=#[]},.string {data:=#[]},.int .i64 0,.int .i64 0]),6,64):=by kernel_rfl
def imV (x:Im):Value:=.agg #[.string x.spec,.string x.first,.string x.loc]
def epV (x:Ep):Value:=.agg #[.int .i64 x.kind,.string x.name,.string x.loc,.string x.spec]
def exV (x:Ex):Value:=.agg #[.int .i64 x.kind,.int .i64 x.num,.string x.name,.string x.field,.int .i64 x.l,.int .i64 x.r]
theorem zdc (w:World) (a b c:Obj):Below w.heap.size w (((w.alloc a).alloc b).alloc c):=(zbd w a b).alloc (zbd w a b).size c
theorem zgf (w:World) (a b c d:Obj):Below w.heap.size w ((((w.alloc a).alloc b).alloc c).alloc d):=(zdc w a b c).alloc (zdc w a b c).size d
theorem zcN (w:World) (a b:Obj):((w.alloc a).alloc b).heap.size=w.heap.size+1+1:=by rw[zg,zg]
theorem zad (w:World) (a b c:Obj):(((w.alloc a).alloc b).alloc c).heap.size=w.heap.size+1+1+1:=by rw[zg,zcN]
theorem zaA (w:World) (a b c d:Obj):((((w.alloc a).alloc b).alloc c).alloc d).heap.size=w.heap.size+1+1+1+1:=by rw[zg,zad]
theorem new3 (w:World) (a b c:Obj):(((w.alloc a).alloc b).alloc c).heap[w.heap.size]? =some a/\(((w.alloc a).alloc b).alloc c).heap[w.heap.size+1]? =some b/\(((w.alloc a).alloc b).alloc c).heap[w.heap.size+1+1]? =some c:=by
 refine⟨?_,?_,?_⟩
 ·rw[Below.heap_alloc _ _ _ (by rw[zcN];omega),Below.heap_alloc _ _ _ (by rw[zg];omega)];exact heap_alloc_new w a
 ·rw[Below.heap_alloc _ _ _ (by rw[zcN];omega)];exact new2 w a b
 ·rw[<-zcN w a b];exact heap_alloc_new _ c
theorem zcd (w:World) (a b c d:Obj):((((w.alloc a).alloc b).alloc c).alloc d).heap[w.heap.size]? =some a/\((((w.alloc a).alloc b).alloc c).alloc d).heap[w.heap.size+1]? =some b/\((((w.alloc a).alloc b).alloc c).alloc d).heap[w.heap.size+1+1]? =some c/\((((w.alloc a).alloc b).alloc c).alloc d).heap[w.heap.size+1+1+1]? =some d:=by
 obtain⟨h,q,z⟩:=new3 w a b c;refine⟨?_,?_,?_,?_⟩
 ·rw[Below.heap_alloc _ _ _ (by rw[zad];omega)];exact h
 ·rw[Below.heap_alloc _ _ _ (by rw[zad];omega)];exact q
 ·rw[Below.heap_alloc _ _ _ (by rw[zad];omega)];exact z
 ·rw[<-zad w a b c];exact heap_alloc_new _ d
theorem zhv {w h:World} {a b c:Obj} (q:Below (((w.alloc a).alloc b).alloc c).heap.size (((w.alloc a).alloc b).alloc c) h):Below w.heap.size w h:=(zdc w a b c).trans (q.mono (zdc w a b c).size)
theorem zgg {C:Cx} {x:PR} {q:PS} {z:Int} {f:PS->PR} (w:Is x q z) (A:z<0) (h:f q= .error (zs C (q.pos-1))):Is (bd x f) q (zs C (q.pos-1)):=by
 obtain⟨rfl,_⟩:=zaG w A;rw[zA,h];rfl
theorem zgh {x:PR} {q:PS} {z:Int} {f:PS->PR} (w:Is x q z) (A: ¬z<0):Is (bd x f) q z:=by
 obtain⟨e,rfl,h⟩:=zd2 w A;exact h
theorem zfu {x:PR} {q q':PS} {z:Int} {f:PS->PR} (A:Is x q z) (D:z<0) (w:f q= .ok q'):Is (bd x f) q' z:=by
 obtain⟨rfl,h⟩:=zaG A D;rw[zA,w];exact⟨rfl,h⟩
theorem zeb {w W:World} {base:Nat} {S:Sv} {q:PS} (h:Own w base S q) (_:w.heap.size<=W.heap.size) {r:Option Nat} (z: ∀k,r=some k->S.has k) (b:Nat) (A:w.heap.size<=b):some b≠r:=fun e=>by have:=(h.has (z b e.symm)).2;omega
theorem zdd (C:Cx) (O h base:Nat) (x:PR) (S:Sv) (q:PS) (z:Int) (d:Nat) (y:Ex) (w:World) (hx:Is x q z) (K:Mem C O h base S q w) (U:z<0->1<=q.pos):
  Calls prog 159 #[pv C O h S q z d,exV y] w (Out C O h base (bd x (zQ C y)) d S w):=by
 obtain⟨i0,hi,X,aa,Z⟩:=info_parts Tryz.infoExpr;have E:=zc K;have HX:=zc hx;have ab:q.ex.length<=300:=by have:=K.inv.ex;omega
 clear hx;by_cases I:z<0
 ·have dz:decide (0<=z)=false:=decide_eq_false (by omega);by_cases hn:300<=q.ex.length
  ·have L:Hid (Is (bd x (zQ C y)) q (zs C (q.pos-1))):=zgg HX.o I (if_pos hn);have qn:decide ((300:Int)<=(q.ex.length:Int))=true:=decide_eq_true (by omega);have J:=U I;clear U K;unfold pv exV;go_enter func159,ntmps159;go_wp2_with fail;refine (zft C O h base S q z d _ (((E.o.alloc _).alloc _).alloc _) I J).mono ?_;rintro e w2 ⟨rfl,H⟩;have V:Below w.heap.size w w2:=zhv H;have G3:Hid (_=_):=(H.block (w.heap.size+1+1) (by rw[zad];omega)).trans ((new3 w _ _ _).2.2);obtain⟨c0,c1,c2,c3,c4,c5,c6,c7,c8,c9,ad,ai,cf⟩:=zan G3.o;clear H;unfold pv;go_wp2;refine bodyPost_ret (results_cell_row rfl _ _ (w.heap.size+1+1) 121 _ (0,0) _ rfl (zbc G3.o) underlying121 rfl (by kernel_rfl)) rfl ?_;exact zcA rfl L.o E.o (zbV V (by omega) ..)
  ·have qn:decide ((300:Int)<=(q.ex.length:Int))=false:=decide_eq_false (by omega);have L:Hid (Is (bd x (zQ C y)) {q with ex:=q.ex++[y]} z):=zfu HX.o I (if_neg hn);have A:=fun o1 o2 o3 o4=>((((E.o.own.ex.alloc o1).alloc o2).alloc o3).alloc o4);clear U K;unfold pv exV;go_enter func159,ntmps159;go_wp2_with (at_builtin;refine zba _ rfl _ _ 52 rfl base 100 i0 _ 6 64 underlying52 hi X aa Z rfl (by decide) (by decide) S.ex q.ex.length _ (by rfl) (A ..) (w.heap.size+1+1+1) (exL y) (by rfl) (by first|exact (zcd w ..).2.2.2|exact (new3 w _ _ _).2.2) rfl (by intro u hu;simp[exL] at hu;rcases hu with rfl|rfl|rfl|rfl|rfl|rfl<;>rfl) (by omega) (by have:=E.o.base;(first|rw[zaA]|rw[zad]);omega) ?_);intro r' w2 hr N M;have HR:=zc hr;have HG:=zc N;have Y:=zc M;have D:=fun b hb=>zeb (W:=w) E.o.own (Nat.le_refl _) (r:=S.ex.blk) (fun k e=>.inr (.inr (.inr (.inr (.inl e))))) b hb;have g1:=(N.block w.heap.size (by (first|rw[zaA]|rw[zad]);omega) (D _ (Nat.le_refl _))).trans (by first|exact (zcd w ..).1|exact (new3 w _ _ _).1);have g2:=(N.block (w.heap.size+1+1) (by (first|rw[zaA]|rw[zad]);omega) (D _ (by omega))).trans (by first|exact (zcd w ..).2.2.1|exact (new3 w _ _ _).2.1);obtain⟨a0,a1,a2,a3,a4,a5,a6,a7,a8,a9,ac,ag,af⟩:=zan g1;obtain⟨b0,b1,b2,b3,b4,b5,b6,b7,b8,b9,ah,ae,bf⟩:=zan g2;have G2:=zc g2;clear g1 g2 N hr M D A;go_wp2;refine bodyPost_ret (results_cell_row rfl _ _ (w.heap.size+1+1) 121 _ (0,0) _ rfl (zbc ((zv (by omega)).trans G2.o)) underlying121 rfl (by kernel_rfl)) rfl ?_;obtain⟨m',s'⟩:=E.o.grow_ex (x:=y) (zgf w ..) HG.o HR.o (by (first|rw[zaA]|rw[zad]);exact Y.o) (((Off.refl _ _ _).set (b:=w.heap.size) (Nat.le_refl _) (by (first|rw[zaA]|rw[zad]);omega) _ _).set12 (b:=w.heap.size+1+1) (by omega) (by (first|rw[zaA]|rw[zad]);omega) ..) (by omega);exact⟨_,{q with ex:=q.ex++[y]},z,by simp[pv],L.o,m',s'⟩
 ·have dz:decide (0<=z)=true:=decide_eq_true (by omega);have L:Hid (Is (bd x (zQ C y)) q z):=zgh HX.o I;clear U K;unfold pv exV;go_enter func159,ntmps159;go_wp2;refine bodyPost_ret (results_cell_row rfl _ _ (w.heap.size+1+1) 121 _ (0,0) _ rfl ((new3 w _ _ _).2.2) underlying121 rfl (by kernel_rfl)) rfl ?_;exact zcA rfl L.o E.o (zdc w _ _ _)
theorem zhw (C:Cx) (O h base:Nat) (x:PR) (S:Sv) (q:PS) (z:Int) (d:Nat) (y:Im) (w:World) (hx:Is x q z) (K:Mem C O h base S q w) (U:z<0->1<=q.pos):
  Calls prog 154 #[pv C O h S q z d,imV y] w (Out C O h base (bd x (zal C y)) d S w):=by
 obtain⟨i0,hi,X,aa,Z⟩:=info_parts Tryz.infoImp;have E:=zc K;have HX:=zc hx;have ab:q.im.length<=40:=by have:=K.inv.im;omega
 clear hx;by_cases I:z<0
 ·have dz:decide (0<=z)=false:=decide_eq_false (by omega);by_cases hn:40<=q.im.length
  ·have L:Hid (Is (bd x (zal C y)) q (zs C (q.pos-1))):=zgg HX.o I (if_pos hn);have qn:decide ((40:Int)<=(q.im.length:Int))=true:=decide_eq_true (by omega);have J:=U I;clear U K;unfold pv imV;go_enter func154,ntmps154;go_wp2_with fail;refine (zft C O h base S q z d _ (((E.o.alloc _).alloc _).alloc _) I J).mono ?_;rintro e w2 ⟨rfl,H⟩;have V:Below w.heap.size w w2:=zhv H;have G3:Hid (_=_):=(H.block (w.heap.size+1+1) (by rw[zad];omega)).trans ((new3 w _ _ _).2.2);obtain⟨c0,c1,c2,c3,c4,c5,c6,c7,c8,c9,ad,ai,cf⟩:=zan G3.o;clear H;unfold pv;go_wp2;refine bodyPost_ret (results_cell_row rfl _ _ (w.heap.size+1+1) 121 _ (0,0) _ rfl (zbc G3.o) underlying121 rfl (by kernel_rfl)) rfl ?_;exact zcA rfl L.o E.o (zbV V (by omega) ..)
  ·have qn:decide ((40:Int)<=(q.im.length:Int))=false:=decide_eq_false (by omega);have L:Hid (Is (bd x (zal C y)) {q with im:=q.im++[y]} z):=zfu HX.o I (if_neg hn);have A:=fun o1 o2 o3 o4=>((((E.o.own.im.alloc o1).alloc o2).alloc o3).alloc o4);clear U K;unfold pv imV;go_enter func154,ntmps154;go_wp2_with (at_builtin;refine zba _ rfl _ _ 49 rfl base 95 i0 _ 3 48 underlying49 hi X aa Z rfl (by decide) (by decide) S.im q.im.length _ (by rfl) (A ..) (w.heap.size+1+1+1) (imL y) (by rfl) (by first|exact (zcd w ..).2.2.2|exact (new3 w _ _ _).2.2) rfl (by intro u hu;simp[imL] at hu;rcases hu with rfl|rfl|rfl<;>rfl) (by omega) (by have:=E.o.base;(first|rw[zaA]|rw[zad]);omega) ?_);intro r' w2 hr N M;have HR:=zc hr;have HG:=zc N;have Y:=zc M;have D:=fun b hb=>zeb (W:=w) E.o.own (Nat.le_refl _) (r:=S.im.blk) (fun k e=>.inr (.inl e)) b hb;have g1:=(N.block w.heap.size (by (first|rw[zaA]|rw[zad]);omega) (D _ (Nat.le_refl _))).trans (by first|exact (zcd w ..).1|exact (new3 w _ _ _).1);have g2:=(N.block (w.heap.size+1+1) (by (first|rw[zaA]|rw[zad]);omega) (D _ (by omega))).trans (by first|exact (zcd w ..).2.2.1|exact (new3 w _ _ _).2.1);obtain⟨a0,a1,a2,a3,a4,a5,a6,a7,a8,a9,ac,ag,af⟩:=zan g1;obtain⟨b0,b1,b2,b3,b4,b5,b6,b7,b8,b9,ah,ae,bf⟩:=zan g2;have G2:=zc g2;clear g1 g2 N hr M D A;go_wp2;refine bodyPost_ret (results_cell_row rfl _ _ (w.heap.size+1+1) 121 _ (0,0) _ rfl (zbc ((zv (by omega)).trans G2.o)) underlying121 rfl (by kernel_rfl)) rfl ?_;obtain⟨m',s'⟩:=E.o.grow_im (x:=y) (zgf w ..) HG.o HR.o (by (first|rw[zaA]|rw[zad]);exact Y.o) (((Off.refl _ _ _).set (b:=w.heap.size) (Nat.le_refl _) (by (first|rw[zaA]|rw[zad]);omega) _ _).set12 (b:=w.heap.size+1+1) (by omega) (by (first|rw[zaA]|rw[zad]);omega) ..) (by omega);exact⟨_,{q with im:=q.im++[y]},z,by simp[pv],L.o,m',s'⟩
 ·have dz:decide (0<=z)=true:=decide_eq_true (by omega);have L:Hid (Is (bd x (zal C y)) q z):=zgh HX.o I;clear U K;unfold pv imV;go_enter func154,ntmps154;go_wp2;refine bodyPost_ret (results_cell_row rfl _ _ (w.heap.size+1+1) 121 _ (0,0) _ rfl ((new3 w _ _ _).2.2) underlying121 rfl (by kernel_rfl)) rfl ?_;exact zcA rfl L.o E.o (zdc w _ _ _)
theorem zec (C:Cx) (gt I base:Nat) (x:PR) (S:Sv) (q:PS) (z:Int) (d:Nat) (y:Ep) (w:World) (hx:Is x q z) (L:Mem C gt I base S q w) (hp:z<0->1<=q.pos):
  Calls prog 156 #[pv C gt I S q z d,epV y] w (Out C gt I base (bd x (zp C y)) d S w):=by
 obtain⟨i0,hi,U,Z,X⟩:=info_parts Tryz.infoExp;have D:=zc L;have HX:=zc hx;have ah:q.ep.length<=40:=by have:=L.inv.ep;omega
 have ag:q.la.length<=40:=by have:=L.inv.ep;omega
 clear hx;by_cases O:z<0
 ·have dz:decide (0<=z)=false:=decide_eq_false (by omega);by_cases hn:40<=q.ep.length+q.la.length
  ·have M:Hid (Is (bd x (zp C y)) q (zs C (q.pos-1))):=zgg HX.o O (if_pos hn);have qn:decide ((40:Int)<=(q.ep.length:Int)+(q.la.length:Int))=true:=decide_eq_true (by omega);have V:=hp O;clear hp L;unfold pv epV;go_enter func156,ntmps156;go_wp2_with fail;refine (zft C gt I base S q z d _ (((D.o.alloc _).alloc _).alloc _) O V).mono ?_;rintro e w2 ⟨rfl,K⟩;have ab:Below w.heap.size w w2:=zhv K;have G3:Hid (_=_):=(K.block (w.heap.size+1+1) (by rw[zad];omega)).trans ((new3 w _ _ _).2.2);obtain⟨c0,c1,c2,c3,c4,c5,c6,c7,c8,c9,ai,aj,cf⟩:=zan G3.o;clear K;unfold pv;go_wp2;refine bodyPost_ret (results_cell_row rfl _ _ (w.heap.size+1+1) 121 _ (0,0) _ rfl (zbc G3.o) underlying121 rfl (by kernel_rfl)) rfl ?_;exact zcA rfl M.o D.o (zbV ab (by omega) ..)
  ·have qn:decide ((40:Int)<=(q.ep.length:Int)+(q.la.length:Int))=false:=decide_eq_false (by omega);cases hd:(y.loc.toList==[42,100,101,102,97,117,108,116]) with
   |true=>
    have M:Hid (Is (bd x (zp C y)) {q with la:=q.la++[y]} z):=zfu HX.o O (by rw[zp,if_neg hn,if_pos hd]);have h:=fun o1 o2 o3 o4=>((((D.o.own.la.alloc o1).alloc o2).alloc o3).alloc o4);clear hp L;unfold pv epV;go_enter func156,ntmps156;go_wp2_with (at_builtin;refine zba _ rfl _ _ 50 rfl base 97 i0 _ 4 56 underlying50 hi U Z X rfl (by decide) (by decide) S.la q.la.length _ (by rfl) (h ..) (w.heap.size+1+1+1) (epL y) (by rfl) (by first|exact (zcd w ..).2.2.2|exact (new3 w _ _ _).2.2) rfl (by intro u Y;simp[epL] at Y;rcases Y with rfl|rfl|rfl|rfl<;>rfl) (by omega) (by have:=D.o.base;(first|rw[zaA]|rw[zad]);omega) ?_);intro r' w2 hr H E;have HR:=zc hr;have HG:=zc H;have J:=zc E;have A:=fun b hb=>zeb (W:=w) D.o.own (Nat.le_refl _) (r:=S.la.blk) (fun k e=>.inr (.inr (.inr (.inr (.inr e))))) b hb;have g1:=(H.block w.heap.size (by (first|rw[zaA]|rw[zad]);omega) (A _ (Nat.le_refl _))).trans (by first|exact (zcd w ..).1|exact (new3 w _ _ _).1);have N:=(H.block (w.heap.size+1+1) (by (first|rw[zaA]|rw[zad]);omega) (A _ (by omega))).trans (by first|exact (zcd w ..).2.2.1|exact (new3 w _ _ _).2.1);obtain⟨a0,a1,a2,a3,a4,a5,a6,a7,a8,a9,aa,ad,af⟩:=zan g1;obtain⟨b0,b1,b2,b3,b4,b5,b6,b7,b8,b9,ae,ac,bf⟩:=zan N;have G2:=zc N;clear g1 N H hr E A h;go_wp2;refine bodyPost_ret (results_cell_row rfl _ _ (w.heap.size+1+1) 121 _ (0,0) _ rfl (zbc ((zv (by omega)).trans G2.o)) underlying121 rfl (by kernel_rfl)) rfl ?_;obtain⟨m',s'⟩:=D.o.grow_la (x:=y) (zgf w ..) HG.o HR.o (by (first|rw[zaA]|rw[zad]);exact J.o) (((Off.refl _ _ _).set (b:=w.heap.size) (Nat.le_refl _) (by (first|rw[zaA]|rw[zad]);omega) _ _).set12 (b:=w.heap.size+1+1) (by omega) (by (first|rw[zaA]|rw[zad]);omega) ..) (by omega);exact⟨_,{q with la:=q.la++[y]},z,by simp[pv],M.o,m',s'⟩
   |false=>
    have M:Hid (Is (bd x (zp C y)) {q with ep:=q.ep++[y]} z):=zfu HX.o O (by rw[zp,if_neg hn,hd];rfl);have h:=fun o1 o2 o3 o4=>((((D.o.own.ep.alloc o1).alloc o2).alloc o3).alloc o4);clear hp L;unfold pv epV;go_enter func156,ntmps156;go_wp2_with (at_builtin;refine zba _ rfl _ _ 50 rfl base 97 i0 _ 4 56 underlying50 hi U Z X rfl (by decide) (by decide) S.ep q.ep.length _ (by rfl) (h ..) (w.heap.size+1+1+1) (epL y) (by rfl) (by first|exact (zcd w ..).2.2.2|exact (new3 w _ _ _).2.2) rfl (by intro u Y;simp[epL] at Y;rcases Y with rfl|rfl|rfl|rfl<;>rfl) (by omega) (by have:=D.o.base;(first|rw[zaA]|rw[zad]);omega) ?_);intro r' w2 hr H E;have HR:=zc hr;have HG:=zc H;have J:=zc E;have A:=fun b hb=>zeb (W:=w) D.o.own (Nat.le_refl _) (r:=S.ep.blk) (fun k e=>.inr (.inr (.inl e))) b hb;have g1:=(H.block w.heap.size (by (first|rw[zaA]|rw[zad]);omega) (A _ (Nat.le_refl _))).trans (by first|exact (zcd w ..).1|exact (new3 w _ _ _).1);have N:=(H.block (w.heap.size+1+1) (by (first|rw[zaA]|rw[zad]);omega) (A _ (by omega))).trans (by first|exact (zcd w ..).2.2.1|exact (new3 w _ _ _).2.1);obtain⟨a0,a1,a2,a3,a4,a5,a6,a7,a8,a9,aa,ad,af⟩:=zan g1;obtain⟨b0,b1,b2,b3,b4,b5,b6,b7,b8,b9,ae,ac,bf⟩:=zan N;have G2:=zc N;clear g1 N H hr E A h;go_wp2;refine bodyPost_ret (results_cell_row rfl _ _ (w.heap.size+1+1) 121 _ (0,0) _ rfl (zbc ((zv (by omega)).trans G2.o)) underlying121 rfl (by kernel_rfl)) rfl ?_;obtain⟨m',s'⟩:=D.o.grow_ep (x:=y) (zgf w ..) HG.o HR.o (by (first|rw[zaA]|rw[zad]);exact J.o) (((Off.refl _ _ _).set (b:=w.heap.size) (Nat.le_refl _) (by (first|rw[zaA]|rw[zad]);omega) _ _).set12 (b:=w.heap.size+1+1) (by omega) (by (first|rw[zaA]|rw[zad]);omega) ..) (by omega);exact⟨_,{q with ep:=q.ep++[y]},z,by simp[pv],M.o,m',s'⟩
 ·have dz:decide (0<=z)=true:=decide_eq_true (by omega);have M:Hid (Is (bd x (zp C y)) q z):=zgh HX.o O;clear hp L;unfold pv epV;go_enter func156,ntmps156;go_wp2;refine bodyPost_ret (results_cell_row rfl _ _ (w.heap.size+1+1) 121 _ (0,0) _ rfl ((new3 w _ _ _).2.2) underlying121 rfl (by kernel_rfl)) rfl ?_;exact zcA rfl M.o D.o (zdc w _ _ _)
theorem zde (C:Cx) (U A base:Nat) (x:PR) (S:Sv) (q:PS) (z:Int) (d:Nat) (k:Int) (h:BA) (w:World) (hx:Is x q z) (J:Mem C U A base S q w) (V:z<0->1<=q.pos):
  Calls prog 121 #[pv C U A S q z d,.int .i64 k,.string h] w (Out C U A base (bd x (zX C k h)) d S w):=by
 obtain⟨i0,hi,Y,ab,aa⟩:=info_parts Tryz.infoStmt;have H:=zc J;have HX:=zc hx;have ad:q.ex.length<=300:=by have:=J.inv.ex;omega
 have ac:q.st.length<=80:=by have:=J.inv.st;omega
 clear hx;by_cases K:z<0
 ·have dz:decide (0<=z)=false:=decide_eq_false (by omega);by_cases hn:80<=q.st.length
  ·have M:Hid (Is (bd x (zX C k h)) q (zs C (q.pos-1))):=zgg HX.o K (if_pos hn);have qn:decide ((80:Int)<=(q.st.length:Int))=true:=decide_eq_true (by omega);have L:=V K;clear V J;unfold pv;go_enter func121,ntmps121;go_wp2_with fail;refine (zft C U A base S q z d _ ((H.o.alloc _).alloc _) K L).mono ?_;rintro e w2 ⟨rfl,I⟩;have X:Below w.heap.size w w2:=zbh I;have G3:Hid (_=_):=(I.block (w.heap.size+1) (by rw[zcN];omega)).trans (new2 w _ _);obtain⟨c0,c1,c2,c3,c4,c5,c6,c7,c8,c9,ag,ak,cf⟩:=zan G3.o;clear I;unfold pv;go_wp2;refine bodyPost_ret (results_cell_row rfl _ _ (w.heap.size+1) 121 _ (0,0) _ rfl (zbc G3.o) underlying121 rfl (by kernel_rfl)) rfl ?_;exact zcA rfl M.o H.o (zbV X (by omega) ..)
  ·have qn:decide ((80:Int)<=(q.st.length:Int))=false:=decide_eq_false (by omega);have M:Hid (Is (bd x (zX C k h)) {q with st:=q.st++[⟨k,h,(q.ex.length:Int)-1⟩]} z):=zfu HX.o K (if_neg hn);have D:=fun o1 o2 o3=>(((H.o.own.st.alloc o1).alloc o2).alloc o3);clear V J;unfold pv;go_enter func121,ntmps121;go_wp2_with (at_builtin;refine zba _ rfl _ _ 51 rfl base 102 i0 _ 3 32 underlying51 hi Y ab aa rfl (by decide) (by decide) S.st q.st.length _ (by rfl) (D _ _ _) (w.heap.size+1+1) (smL ⟨k,h,(q.ex.length:Int)-1⟩) (by rfl) (by first|exact (zcd w ..).2.2.2|exact (new3 w _ _ _).2.2) rfl (by intro u hu;simp[smL] at hu;rcases hu with rfl|rfl|rfl<;>rfl) (by omega) (by have:=H.o.base;(first|rw[zaA]|rw[zad]);omega) ?_);intro r' w2 hr O N;have HR:=zc hr;have HG:=zc O;have Z:=zc N;have E:=fun b hb=>zeb (W:=w) H.o.own (Nat.le_refl _) (r:=S.st.blk) (fun k e=>.inr (.inr (.inr (.inl e)))) b hb;have g1:=(O.block w.heap.size (by (first|rw[zaA]|rw[zad]);omega) (E _ (Nat.le_refl _))).trans (by first|exact (zcd w ..).1|exact (new3 w _ _ _).1);have g2:=(O.block (w.heap.size+1) (by (first|rw[zaA]|rw[zad]);omega) (E _ (by omega))).trans (by first|exact (zcd w ..).2.2.1|exact (new3 w _ _ _).2.1);obtain⟨a0,a1,a2,a3,a4,a5,a6,a7,a8,a9,ae,ai,af⟩:=zan g1;obtain⟨b0,b1,b2,b3,b4,b5,b6,b7,b8,b9,aj,ah,bf⟩:=zan g2;have G2:=zc g2;clear g1 g2 O hr N E D;go_wp2;refine bodyPost_ret (results_cell_row rfl _ _ (w.heap.size+1) 121 _ (0,0) _ rfl (zbc ((zv (by omega)).trans G2.o)) underlying121 rfl (by kernel_rfl)) rfl ?_;obtain⟨m',s'⟩:=H.o.grow_st (x:=⟨k,h,(q.ex.length:Int)-1⟩) (zdc w _ _ _) HG.o HR.o (by (first|rw[zaA]|rw[zad]);exact Z.o) (((Off.refl _ _ _).set (b:=w.heap.size) (Nat.le_refl _) (by (first|rw[zaA]|rw[zad]);omega) _ _).set12 (b:=w.heap.size+1) (by omega) (by (first|rw[zaA]|rw[zad]);omega) ..) (by omega);exact⟨_,{q with st:=q.st++[⟨k,h,(q.ex.length:Int)-1⟩]},z,by simp[pv],M.o,m',s'⟩
 ·have dz:decide (0<=z)=true:=decide_eq_true (by omega);have M:Hid (Is (bd x (zX C k h)) q z):=zgh HX.o K;clear V J;unfold pv;go_enter func121,ntmps121;go_wp2;refine bodyPost_ret (results_cell_row rfl _ _ (w.heap.size+1) 121 _ (0,0) _ rfl (new2 w _ _) underlying121 rfl (by kernel_rfl)) rfl ?_;exact zcA rfl M.o H.o (zbd w _ _)
theorem OwnR.drew {w:World} {base size n:Nat} {e:TypeId} {r:Rw} {xs:List Value} (h:OwnR w base e size r n xs):OwnR w.drew base e size r n xs:=h
theorem znH (x:Ex): ∀u∈exL x,u.oneCell'=true:=by
 intro u h;simp[exL] at h;rcases h with rfl|rfl|rfl|rfl|rfl|rfl<;>rfl
theorem IM.grow_ex {C:Cx} {U J base A:Nat} {S:Sv} {q:PS} {w W E:World} {z:Rw} {x:Ex} (h:IM C U J base A S q w) (Y:Below w.heap.size w W) (X:W.grownBy E S.ex.blk) (hr:OwnR E base 100 6 z (q.ex.length+1) (q.ex.flatMap exL++exL x)) (N:z.blk=S.ex.blk∨z.blk=some W.heap.size) (hn:q.ex.length<300):
  IM C U J base A {S with ex:=z} {q with ex:=q.ex++[x]} (E.setCell ⟨A,8,none⟩ (.slice z.a (q.ex.length+1) z.cap))/\IS A S w {S with ex:=z} (E.setCell ⟨A,8,none⟩ (.slice z.a (q.ex.length+1) z.cap)):=by
 obtain⟨K,I⟩:=h.mem.grow_ex (x:=x) Y X hr N (Off.refl _ _ _) hn;have D:=h.free;have M:=h.lt;have H: ¬Sv.has {S with ex:=z} A:=fun g=>(I.sub A g).elim D fun g'=>by omega
 have L: ∀k,k≠A->(E.setCell ⟨A,8,none⟩ (.slice z.a (q.ex.length+1) z.cap)).heap[k]? =E.heap[k]?:=fun k L=>Below.heap_setCell E ⟨A,8,none⟩ _ k L;have O:(E.setCell ⟨A,8,none⟩ (.slice z.a (q.ex.length+1) z.cap)).heap.size=E.heap.size:=by show (E.heap.modify _ _).size=_;simp
 have hc:=(I.block A M D).trans h.cells;refine⟨⟨⟨K.own.keep fun k g=>L k fun e=>H (by rw[<-e];exact g),K.inv,zbG K.tok (L U h.ne.symm),K.few,by rw[O];exact K.base⟩,?_,h.ge⟩,?_⟩
 ·rw[zab hc];simp
 ·exact (show IS A S w {S with ex:=z} E from⟨I.os,I.tape,I.output,I.size,fun k Z V _=>I.block k Z V,I.sub⟩).set _ _
theorem znI (C:Cx) (gt K base z:Nat) (S:Sv) (q:PS) (x:Ex) (w:World) (h:IM C gt K base z S q w) (hn:q.ex.length<300):
  Calls prog 253 #[.pointer (some ⟨z,0,none⟩),exV x] w fun e Y=>e= .returned (.int .i64 q.ex.length)/\∃S',IM C gt K base z S' {q with ex:=q.ex++[x]} Y/\IS z S w S' Y:=by
 obtain⟨i0,hi,M,O,V⟩:=info_parts Tryz.infoExpr;have L:=zc h;have aa:=h.lt;obtain⟨c0,c1,c2,c3,c4,c5,c6,c7,c8,c9,cf⟩:=zag h.cells;have H:=fun D A=>((L.o.mem.own.ex.alloc D).drew.alloc A);have ab:=h.mem.base;have I:some z≠S.ex.blk:=fun e=>L.o.free (.inr (.inr (.inr (.inr (.inl e.symm)))));have HN:=zc I;have U: ∀D A,base<=((w.alloc D).alloc A).heap.size:=fun D A=>by rw[zcN];omega
 have X: ∀D A,z<((w.alloc D).alloc A).heap.size:=fun D A=>by rw[zcN];omega
 clear h I;unfold exV;go_enter func253,ntmps253;go_wp2_with fail;refine (zdY z q.ex.length 300 _ (by omega)).mono ?_;rintro e w1 ⟨rfl,rfl⟩;go_wp2_with fail;go_region_law (first|(refine zfs rfl (.tmp 18) (.tmp 20) 52 rfl base 100 i0 _ 6 64 underlying52 hi M O V rfl (by decide) (by decide) S.ex q.ex.length (q.ex.flatMap exL) (by rfl) (by exact H _ _) (w.heap.size+1) (exL x) (by rfl) (by exact new2 w _ _) rfl (znH x) (by omega) (by exact U _ _) ?_;intro r' w2 hr E J;have Z:=(E.block z (by exact X _ _) HN.o).trans (by exact ((L.o.alloc _).alloc _).cells);obtain⟨d0,d1,d2,d3,d4,d5,d6,d7,d8,d9,df⟩:=zag Z))
 all_goals
  have HR:=zc hr;have HG:=zc E;have N:=zc J;clear hr E J Z c0 c1 c2 c3 c4 c5 c6 c7 c8 c9 cf;go_wp2;go_ret;obtain⟨m',s'⟩:=L.o.grow_ex (zbd w _ _).drew HG.o HR.o N.o hn;exact⟨zbA (by omega),_,m',s'⟩
theorem zju (x:Im): ∀u∈imL x,u.oneCell'=true:=by
 intro u h;simp[imL] at h;rcases h with rfl|rfl|rfl<;>rfl
theorem IM.grow_rq {C:Cx} {U J base A:Nat} {S:Sv} {q:PS} {w W E:World} {z:Rw} {x:BA} (h:IM C U J base A S q w) (Y:Below w.heap.size w W) (X:W.grownBy E S.rq.blk) (hr:OwnR E base 9 1 z (q.rq.length+1) (q.rq.map .string++[.string x])) (N:z.blk=S.rq.blk∨z.blk=some W.heap.size) (hn:q.rq.length<40):
  IM C U J base A {S with rq:=z} {q with rq:=q.rq++[x]} (E.setCell ⟨A,4,none⟩ (.slice z.a (q.rq.length+1) z.cap))/\IS A S w {S with rq:=z} (E.setCell ⟨A,4,none⟩ (.slice z.a (q.rq.length+1) z.cap)):=by
 obtain⟨K,I⟩:=h.mem.grow_rq (x:=x) Y X hr N (Off.refl _ _ _) hn;have D:=h.free;have M:=h.lt;have H: ¬Sv.has {S with rq:=z} A:=fun g=>(I.sub A g).elim D fun g'=>by omega
 have L: ∀k,k≠A->(E.setCell ⟨A,4,none⟩ (.slice z.a (q.rq.length+1) z.cap)).heap[k]? =E.heap[k]?:=fun k L=>Below.heap_setCell E ⟨A,4,none⟩ _ k L;have O:(E.setCell ⟨A,4,none⟩ (.slice z.a (q.rq.length+1) z.cap)).heap.size=E.heap.size:=by show (E.heap.modify _ _).size=_;simp
 have hc:=(I.block A M D).trans h.cells;refine⟨⟨⟨K.own.keep fun k g=>L k fun e=>H (by rw[<-e];exact g),K.inv,zbG K.tok (L U h.ne.symm),K.few,by rw[O];exact K.base⟩,?_,h.ge⟩,?_⟩
 ·rw[zab hc];simp
 ·exact (show IS A S w {S with rq:=z} E from⟨I.os,I.tape,I.output,I.size,fun k Z V _=>I.block k Z V,I.sub⟩).set _ _
theorem IM.grow_im {C:Cx} {U J base A:Nat} {S:Sv} {q:PS} {w W E:World} {z:Rw} {x:Im} (h:IM C U J base A S q w) (Y:Below w.heap.size w W) (X:W.grownBy E S.im.blk) (hr:OwnR E base 95 3 z (q.im.length+1) (q.im.flatMap imL++imL x)) (N:z.blk=S.im.blk∨z.blk=some W.heap.size) (hn:q.im.length<40):
  IM C U J base A {S with im:=z} {q with im:=q.im++[x]} (E.setCell ⟨A,5,none⟩ (.slice z.a (q.im.length+1) z.cap))/\IS A S w {S with im:=z} (E.setCell ⟨A,5,none⟩ (.slice z.a (q.im.length+1) z.cap)):=by
 obtain⟨K,I⟩:=h.mem.grow_im (x:=x) Y X hr N (Off.refl _ _ _) hn;have D:=h.free;have M:=h.lt;have H: ¬Sv.has {S with im:=z} A:=fun g=>(I.sub A g).elim D fun g'=>by omega
 have L: ∀k,k≠A->(E.setCell ⟨A,5,none⟩ (.slice z.a (q.im.length+1) z.cap)).heap[k]? =E.heap[k]?:=fun k L=>Below.heap_setCell E ⟨A,5,none⟩ _ k L;have O:(E.setCell ⟨A,5,none⟩ (.slice z.a (q.im.length+1) z.cap)).heap.size=E.heap.size:=by show (E.heap.modify _ _).size=_;simp
 have hc:=(I.block A M D).trans h.cells;refine⟨⟨⟨K.own.keep fun k g=>L k fun e=>H (by rw[<-e];exact g),K.inv,zbG K.tok (L U h.ne.symm),K.few,by rw[O];exact K.base⟩,?_,h.ge⟩,?_⟩
 ·rw[zab hc];simp
 ·exact (show IS A S w {S with im:=z} E from⟨I.os,I.tape,I.output,I.size,fun k Z V _=>I.block k Z V,I.sub⟩).set _ _
theorem IM.grow_ep {C:Cx} {U J base A:Nat} {S:Sv} {q:PS} {w W E:World} {z:Rw} {x:Ep} (h:IM C U J base A S q w) (Y:Below w.heap.size w W) (X:W.grownBy E S.ep.blk) (hr:OwnR E base 97 4 z (q.ep.length+1) (q.ep.flatMap epL++epL x)) (N:z.blk=S.ep.blk∨z.blk=some W.heap.size) (hn:q.ep.length+q.la.length<40):
  IM C U J base A {S with ep:=z} {q with ep:=q.ep++[x]} (E.setCell ⟨A,6,none⟩ (.slice z.a (q.ep.length+1) z.cap))/\IS A S w {S with ep:=z} (E.setCell ⟨A,6,none⟩ (.slice z.a (q.ep.length+1) z.cap)):=by
 obtain⟨K,I⟩:=h.mem.grow_ep (x:=x) Y X hr N (Off.refl _ _ _) hn;have D:=h.free;have M:=h.lt;have H: ¬Sv.has {S with ep:=z} A:=fun g=>(I.sub A g).elim D fun g'=>by omega
 have L: ∀k,k≠A->(E.setCell ⟨A,6,none⟩ (.slice z.a (q.ep.length+1) z.cap)).heap[k]? =E.heap[k]?:=fun k L=>Below.heap_setCell E ⟨A,6,none⟩ _ k L;have O:(E.setCell ⟨A,6,none⟩ (.slice z.a (q.ep.length+1) z.cap)).heap.size=E.heap.size:=by show (E.heap.modify _ _).size=_;simp
 have hc:=(I.block A M D).trans h.cells;refine⟨⟨⟨K.own.keep fun k g=>L k fun e=>H (by rw[<-e];exact g),K.inv,zbG K.tok (L U h.ne.symm),K.few,by rw[O];exact K.base⟩,?_,h.ge⟩,?_⟩
 ·rw[zab hc];simp
 ·exact (show IS A S w {S with ep:=z} E from⟨I.os,I.tape,I.output,I.size,fun k Z V _=>I.block k Z V,I.sub⟩).set _ _
theorem IM.grow_st {C:Cx} {U J base A:Nat} {S:Sv} {q:PS} {w W E:World} {z:Rw} {x:Sm} (h:IM C U J base A S q w) (Y:Below w.heap.size w W) (X:W.grownBy E S.st.blk) (hr:OwnR E base 102 3 z (q.st.length+1) (q.st.flatMap smL++smL x)) (N:z.blk=S.st.blk∨z.blk=some W.heap.size) (hn:q.st.length<80):
  IM C U J base A {S with st:=z} {q with st:=q.st++[x]} (E.setCell ⟨A,7,none⟩ (.slice z.a (q.st.length+1) z.cap))/\IS A S w {S with st:=z} (E.setCell ⟨A,7,none⟩ (.slice z.a (q.st.length+1) z.cap)):=by
 obtain⟨K,I⟩:=h.mem.grow_st (x:=x) Y X hr N (Off.refl _ _ _) hn;have D:=h.free;have M:=h.lt;have H: ¬Sv.has {S with st:=z} A:=fun g=>(I.sub A g).elim D fun g'=>by omega
 have L: ∀k,k≠A->(E.setCell ⟨A,7,none⟩ (.slice z.a (q.st.length+1) z.cap)).heap[k]? =E.heap[k]?:=fun k L=>Below.heap_setCell E ⟨A,7,none⟩ _ k L;have O:(E.setCell ⟨A,7,none⟩ (.slice z.a (q.st.length+1) z.cap)).heap.size=E.heap.size:=by show (E.heap.modify _ _).size=_;simp
 have hc:=(I.block A M D).trans h.cells;refine⟨⟨⟨K.own.keep fun k g=>L k fun e=>H (by rw[<-e];exact g),K.inv,zbG K.tok (L U h.ne.symm),K.few,by rw[O];exact K.base⟩,?_,h.ge⟩,?_⟩
 ·rw[zab hc];simp
 ·exact (show IS A S w {S with st:=z} E from⟨I.os,I.tape,I.output,I.size,fun k Z V _=>I.block k Z V,I.sub⟩).set _ _
theorem IM.grow_la {C:Cx} {U J base A:Nat} {S:Sv} {q:PS} {w W E:World} {z:Rw} {x:Ep} (h:IM C U J base A S q w) (Y:Below w.heap.size w W) (X:W.grownBy E S.la.blk) (hr:OwnR E base 97 4 z (q.la.length+1) (q.la.flatMap epL++epL x)) (N:z.blk=S.la.blk∨z.blk=some W.heap.size) (hn:q.ep.length+q.la.length<40):
  IM C U J base A {S with la:=z} {q with la:=q.la++[x]} (E.setCell ⟨A,9,none⟩ (.slice z.a (q.la.length+1) z.cap))/\IS A S w {S with la:=z} (E.setCell ⟨A,9,none⟩ (.slice z.a (q.la.length+1) z.cap)):=by
 obtain⟨K,I⟩:=h.mem.grow_la (x:=x) Y X hr N (Off.refl _ _ _) hn;have D:=h.free;have M:=h.lt;have H: ¬Sv.has {S with la:=z} A:=fun g=>(I.sub A g).elim D fun g'=>by omega
 have L: ∀k,k≠A->(E.setCell ⟨A,9,none⟩ (.slice z.a (q.la.length+1) z.cap)).heap[k]? =E.heap[k]?:=fun k L=>Below.heap_setCell E ⟨A,9,none⟩ _ k L;have O:(E.setCell ⟨A,9,none⟩ (.slice z.a (q.la.length+1) z.cap)).heap.size=E.heap.size:=by show (E.heap.modify _ _).size=_;simp
 have hc:=(I.block A M D).trans h.cells;refine⟨⟨⟨K.own.keep fun k g=>L k fun e=>H (by rw[<-e];exact g),K.inv,zbG K.tok (L U h.ne.symm),K.few,by rw[O];exact K.base⟩,?_,h.ge⟩,?_⟩
 ·rw[zab hc];simp
 ·exact (show IS A S w {S with la:=z} E from⟨I.os,I.tape,I.output,I.size,fun k Z V _=>I.block k Z V,I.sub⟩).set _ _
theorem znJ (C:Cx) (gt K base z:Nat) (S:Sv) (q:PS) (x:Im) (w:World) (h:IM C gt K base z S q w) (hn:q.im.length<40):
  Calls prog 247 #[.pointer (some ⟨z,0,none⟩),imV x] w fun e Y=>e= .returned (.tuple #[])/\∃S',IM C gt K base z S' {q with im:=q.im++[x]} Y/\IS z S w S' Y:=by
 obtain⟨i0,hi,M,O,V⟩:=info_parts Tryz.infoImp;have L:=zc h;have aa:=h.lt;obtain⟨c0,c1,c2,c3,c4,c5,c6,c7,c8,c9,cf⟩:=zag h.cells;have H:=fun D A=>((L.o.mem.own.im.alloc D).drew.alloc A);have ab:=h.mem.base;have I:some z≠S.im.blk:=fun e=>L.o.free (.inr (.inl e.symm));have HN:=zc I;have U: ∀D A,base<=((w.alloc D).alloc A).heap.size:=fun D A=>by rw[zcN];omega
 have X: ∀D A,z<((w.alloc D).alloc A).heap.size:=fun D A=>by rw[zcN];omega
 clear h I;unfold imV;go_enter func247,ntmps247;go_wp2_with fail;refine (zdY z q.im.length 40 _ (by omega)).mono ?_;rintro e w1 ⟨rfl,rfl⟩;go_wp2_with fail;go_region_law (first|(refine zfs rfl (.tmp 17) (.tmp 19) 49 rfl base 95 i0 _ 3 48 underlying49 hi M O V rfl (by decide) (by decide) S.im q.im.length (q.im.flatMap imL) (by rfl) (by exact H _ _) (w.heap.size+1) (imL x) (by rfl) (by exact new2 w _ _) rfl (zju x) (by omega) (by exact U _ _) ?_;intro r' w2 hr E J;have Z:=(E.block z (by exact X _ _) HN.o).trans (by exact ((L.o.alloc _).alloc _).cells);obtain⟨d0,d1,d2,d3,d4,d5,d6,d7,d8,d9,df⟩:=zag Z))
 all_goals
  have HR:=zc hr;have HG:=zc E;have N:=zc J;clear hr E J Z c0 c1 c2 c3 c4 c5 c6 c7 c8 c9 cf;go_wp2;go_end0;obtain⟨m',s'⟩:=L.o.grow_im (zbd w _ _).drew HG.o HR.o N.o hn;exact⟨rfl,_,m',s'⟩
end Go.Proofs.YtgcbmogmniahjaaGreat
