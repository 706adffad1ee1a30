/- Facts. -/
import Derived.Deep.LoopGhost
import Derived.Test.YtegdaafmaookjaaGreatP12
namespace Go.Proofs.YtegdaafmaookjaaGreat
open Go.Proofs.Tryz
set_option maxRecDepth 100000
set_option maxHeartbeats 3200000
open Go.RowKit Go.PlainAid Go.Sort
def zaO (C:Cx) (s:BA0):Nat->Nat->PS->PR
 |0,_,q=>.ok q
 |n+1,k,q=>bd (zd C 4 (s.extract k (k+1)) q) (zaO C s n (k+1))
variable (C:Cx) (g b c:Nat) {D:Cx} {z:Int} {s:BA0} {q:PS} {w:World} {W:PR}
theorem zi7 (h:isT D q.pos z s=false):zd D z s q= .error (zz D q.pos):=by rw[zd,h];rfl
theorem zct (h:isT D q.pos z s=true):zd D z s q= .ok (adv q):=if_pos h
theorem zi8 (K:Nat) (S:Sv) (q:PS) (s:BA0) (w:World) (h:IM C g b c K S q w) (hs:s.size<=100):
  Calls prog 236 #[.pointer (some ⟨K,0,none⟩),.string s] w (zaa C g b c K (zaO C s s.size 0 q) id (fun _=>.tuple #[]) S w):=by
 go_enter func236,ntmps236;go_wp2;go_loopg [7] s.size (fun k i wr=>∃(j:Nat) (I:PS),i= .int .i64 j/\j+k=s.size/\zaO C s k j I=zaO C s s.size 0 q/\IM C g b c K S I wr/\IS K S w S wr)
 case atStart=>exact⟨0,q,rfl,by omega,rfl,h,IS.refl _ _ _⟩
 case round=>
  obtain⟨j,I,rfl,hj,he,Z,t⟩:=hrel;have N:=zc he;have HS:=zc t;clear he t
  match gk,hj,N with
  |0,hj,N=>
   have X: ¬j<s.size:=by omega
   go_wp2;go_end0;rw[<-N.o];exact⟨rfl,S,Z,HS.o⟩
  |k+1,hj,N=>
   have X:j<s.size:=by omega
   obtain⟨H,O⟩: ∃H,H=j+1:=⟨_,rfl⟩;have ej:(j:Int)+1=(H:Int):=by omega
   have ad:H<=s.size:=by omega
   have ae:j<=H:=by omega
   have Y:=zc O;clear O;cases V:isT C I.pos 4 (s.extract j H) with
   |true=>
    have HX:Hid (zaO C s k H (adv I)=zaO C s s.size 0 q):=by
     show _=_;rw[<-N.o,zaO,<-Y.o,zct V];rfl
    go_wp2_with fail;refine (zV C g b c K S I 4 (s.extract j H) _ Z (by decide)).mono ?_;rintro e w1 ⟨rfl,L,U⟩;rw[V] at L ⊢;have J:=zc L;have aa:=HS.o.trans U;clear L U;go_wp2;go_roundg k
    case rel=>exact⟨H,adv I,rfl,by have:=Y.o;omega,HX.o,J.o,aa⟩
    case measure=>omega
   |false=>
    have HX:Hid (zaO C s s.size 0 q= .error (zz C I.pos)):=by
     show _=_;rw[<-N.o,zaO,<-Y.o,zi7 V];rfl
    go_wp2_with fail;refine (zV C g b c K S I 4 (s.extract j H) _ Z (by decide)).mono ?_;rintro e w1 ⟨rfl,L,U⟩;rw[V] at L ⊢;have J:=zc L;have HB:=(HS.o.trans U).under h.mem.base h.mem.own h.ge;clear L U;go_wp2_with fail;refine (zft C g b c K S I _ J.o).mono ?_;rintro e w2 ⟨rfl,ac⟩;have ab:=HB.trans (ac.mono J.o.mem.base);unfold Pan;go_wp2;refine⟨rfl,?_⟩;rw[HX.o];exact⟨rfl,ab⟩
theorem zgg {P:Program} {N:Array Oper} {o:Oper} {a:Act} {K:Act->World->Prop} {Q:Exit->Act->World->Prop} {E:Prop} (U:o.guard=none) (s x:Operand) (t:TypeId) (ho:o.op= .call {callee:=.builtin .append,args:=#[s,x],argTypes:=#[t,t]}) (base:Nat) (e:TypeId) (i:TypeInfo) (z:Value) (size q:Nat) (ht:P.underlying t=some (.slice e)) (hi:P.info? e=some i) (hz:i.zero=some z) (H:i.size=size) (X:i.bytes=q) (Y:z.cells.size=size) (V:0<size) (M:q<=100) (r:Rw) (n:Nat) (xs:List Value) (hs:a.eval s= .slice r.a n r.cap) (J:OwnR w base e size r n xs) (O:Nat) (S:List Value) (hx:a.eval x= .slice (some ⟨O,0,none⟩) 1 1) (hg:w.heap[O]? =some (.cells S.toArray e (0,0))) (hl:S.length=size) (h1: ∀u∈S,u.oneCell'=true) (hn:n+1<=4000000) (I:base<=w.heap.size) (h: ∀L w',OwnR w' base e size L (n+1) (xs++S)->w.grownBy w' r.blk->(L.blk=r.blk∨L.blk=some w.heap.size)->K (a.put o.dst (.slice L.a (n+1) L.cap)) w'):
  if Region.wanted o (yielded N a.tmps)=true then Oper.wp P o a w K Q else E:=by
 have hw:Region.wanted o (yielded N a.tmps)=true:=by simp[Region.wanted,U]
 rw[if_pos hw]
 obtain⟨v',w',hr,h2,h3,_,h5⟩:=run_append_own_at (P:=P) w base t o.type e i z size q ht hi hz H X Y V _ n xs J ⟨O,0,none⟩ 1 1 S (by omega) (by
  intro j u hj;have e1:(⟨O,0,none⟩:Addr).add j=⟨O,j,none⟩:=by simp[Addr.add];exact fun h=>h.symm
  rw[e1]
  simp[World.cell?,hg,hj]) h1 (by unfold maxLen;omega) (by have:(n+1)*q<=4000000*100:=Nat.mul_le_mul hn M;omega) I
 unfold Oper.wp execOp;simp only[ho,resolve,invoke,builtin,Sem.run_bind,Sem.run_pure,Result.andThen_ok,List.map_toArray,List.map_cons,List.map_nil,hs,hx,hr];rcases h2.2 with ⟨hv,ab⟩|⟨g',A,aa,rfl,Z⟩
 ·omega
 ·refine h ⟨some ⟨g',0,none⟩,A⟩ w' h2 ?_ ?_
  ·rw[<-zbI r n];exact h3
  ·rw[<-zbI r n,<-zbI ⟨some ⟨g',0,none⟩,A⟩ (n+1)];exact h5
def Is (x:PR) (q:PS) (z:Int):Prop:=
 match x with
 | .ok q0=>q=q0/\z= -1
 | .error e=>z=(e:Int)
theorem zah (q:PS):Is (.ok q) q (-1):=⟨rfl,rfl⟩
theorem zaP (h:Is W q z) (w:z<0):W= .ok q/\z= -1:=by
 cases W with
 |ok A=>obtain⟨rfl,rfl⟩:=h;exact⟨rfl,rfl⟩
 |error e=>have:z=(e:Int):=h;omega
theorem zdY (h:Is W q z) (w: ¬z<0): ∃e,W= .error e/\z=(e:Int):=by
 cases W with
 |ok A=>obtain⟨rfl,rfl⟩:=h;exact absurd (by decide) w
 |error e=>exact⟨e,rfl,h⟩
def Out (C:Cx) (gt cap base:Nat) (y:PR) (d:Nat) (S:Sv) (w:World) (e:Ending) (w':World):Prop:=
 ∃S' q' z',e= .returned (pv C gt cap S' q' z' d)/\Hid (Is y q' z')/\Mem C gt cap base S' q' w'/\Stp S w S' w'
theorem zcW {n h base:Nat} {d:Nat} {S:Sv} {w':World} {v:Value} (I:v=pv D n h S q z d) (J:Is W q z) (H:Mem D n h base S q w) (A:Bw w w'):Out D n h base W d S w (.returned v) w':=
 ⟨S,q,z,by rw[I],J,H.later A,Stp.below A⟩
theorem zgh (S:Sv) (q:PS) (z:Int) (d:Nat) (w:World) (A:Mem C g b c S q w) (U:z<0) (O:1<=q.pos):
  Calls prog 169 #[pv C g b S q z d] w fun e w'=>e= .returned (pv C g b S q (zz C (q.pos-1)) d)/\Bw w w':=by
 obtain⟨p,I⟩: ∃p,q.pos=p+1:=⟨q.pos-1,by omega⟩;have H:p<C.ts.length:=by have:=A.inv.pos;omega
 have L:=A.few;obtain⟨_,_,_,N⟩:=A.tok.cells H (d:=⟨0,sNone,0,C.fin⟩);have K:=(za1 A.tok).1;change _=some (Value.int .i64 (zz C p)) at N;rw[show q.pos-1=p from by omega];have M:(q.pos:Int)-1=p:=by omega
 clear I;unfold pv;go_enter func169,ntmps169;go_wp2;refine bodyPost_ret (results_cell_row rfl _ _ (w.heap.size+1) 127 _ (0,0) _ rfl (new2 w _ _) underlying127 rfl (by kernel_rfl)) rfl ?_;exact⟨rfl,zbq w _ _⟩
theorem zao (x:PR) (S:Sv) (q:PS) (z:Int) (d:Nat) (s:BA0) (w:World) (hx:Is x q z) (hm:Mem C g b c S q w):
  Calls prog 128 #[pv C g b S q z d,.string s] w (Out C g b c (bd x (zd C 4 s)) d S w):=by
 have HM:=zc hm;have A:=hm.tok;have I:=hm.few;have HX:=zc hx;clear hx hm;cases H:(decide (z<0)&&isT C q.pos 4 s) with
 |true=>
  have ab:q.pos<C.ts.length:=by rw[Bool.and_eq_true] at H;exact zaG H.2 (by decide)
  have HY:Hid (Is (bd x (zd C 4 s)) (adv q) z):=by
   rw[Bool.and_eq_true,decide_eq_true_eq] at H;obtain⟨U,h2⟩:=zaP HX.o H.1;show Is (bd x (zd C 4 s)) (adv q) z;rw[U,zJ,zd,if_pos H.2];exact⟨rfl,h2⟩
  unfold pv;go_enter func128,ntmps128;go_wp2_with fail;refine (zm C g b c S q z d 4 s _ (zy (zy A _) _) I (by decide)).mono ?_;rintro e w1 ⟨rfl,J⟩;rw[H];obtain⟨Z,L⟩:=zdj J;obtain⟨a0,a1,a2,a3,a4,a5,a6,a7,a8,a9,V,Y,af⟩:=zaw Z;obtain⟨b0,b1,b2,b3,b4,b5,b6,b7,b8,b9,O,N,bf⟩:=zaw L;have G2:=zc L;clear Z L H;go_wp2;refine bodyPost_ret (results_cell_row rfl _ _ (w.heap.size+1) 127 _ (0,0) _ rfl (zbp ((zC (by omega)).trans G2.o)) underlying127 rfl (by kernel_rfl)) rfl ?_;exact zcW rfl HY.o (HM.o.adv ab) (zcm ((zbv J).setCell (Nat.le_refl _) _) (Nat.le_succ _) ..)
 |false=>
  have HY:Hid (Is (bd x (zd C 4 s)) q (zbK C q.pos z)):=by
   show Is (bd x (zd C 4 s)) q (zbK C q.pos z);unfold zbK;by_cases X:z<0
   ·obtain⟨U,h2⟩:=zaP HX.o X;simp only[X,decide_true,Bool.true_and] at H;rw[U,zJ,zd,H,if_pos X];rfl
   ·obtain⟨e,U,h2⟩:=zdY HX.o X;rw[U,zfl,if_neg X];exact h2
  unfold pv;go_enter func128,ntmps128;go_wp2_with fail;refine (zm C g b c S q z d 4 s _ (zy (zy A _) _) I (by decide)).mono ?_;rintro e w1 ⟨rfl,J⟩;rw[H];obtain⟨Z,L⟩:=zdj J;obtain⟨a0,a1,a2,a3,a4,a5,a6,a7,a8,a9,V,Y,af⟩:=zaw Z;obtain⟨b0,b1,b2,b3,b4,b5,b6,b7,b8,b9,O,N,bf⟩:=zaw L;have G2:=zc L;have K:=zcG A (zbv J);clear Z L H;go_wp2_with fail;refine (zdW C g b c S q z d _ K I).mono ?_;rintro e w2 ⟨rfl,aa⟩;have G3:Hid (_=_):=(aa.block _ (Nat.lt_of_lt_of_le (by simp) J.size)).trans G2.o;obtain⟨c0,c1,c2,c3,c4,c5,c6,c7,c8,c9,ae,ad,cf⟩:=zaw G3.o;have ac:=(zbv J).trans (aa.mono (zbv J).size);clear a0 a1 a2 a3 a4 a5 a6 a7 a8 a9 V Y b0 b1 b2 b3 b4 b5 b6 b7 b8 b9 O N af bf;unfold pv;go_wp2;refine bodyPost_ret (results_cell_row rfl _ _ (w.heap.size+1) 127 _ (0,0) _ rfl (zbp G3.o) underlying127 rfl (by kernel_rfl)) rfl ?_;exact zcW rfl HY.o HM.o (zcm ac (Nat.le_succ _) ..)
-- GEN
theorem zaX (x:PR) (S:Sv) (q:PS) (z:Int) (d:Nat) (s:BA0) (w:World) (hx:Is x q z) (hm:Mem C g b c S q w):
  Calls prog 130 #[pv C g b S q z d,.string s] w (Out C g b c (bd x (zd C 1 s)) d S w):=by
 have HM:=zc hm;have A:=hm.tok;have I:=hm.few;have HX:=zc hx;clear hx hm;cases H:(decide (z<0)&&isT C q.pos 1 s) with
 |true=>
  have ab:q.pos<C.ts.length:=by rw[Bool.and_eq_true] at H;exact zaG H.2 (by decide)
  have HY:Hid (Is (bd x (zd C 1 s)) (adv q) z):=by
   rw[Bool.and_eq_true,decide_eq_true_eq] at H;obtain⟨U,h2⟩:=zaP HX.o H.1;show Is (bd x (zd C 1 s)) (adv q) z;rw[U,zJ,zd,if_pos H.2];exact⟨rfl,h2⟩
  unfold pv;go_enter func130,ntmps130;go_wp2_with fail;refine (zm C g b c S q z d 1 s _ (zy (zy A _) _) I (by decide)).mono ?_;rintro e w1 ⟨rfl,J⟩;rw[H];obtain⟨Z,L⟩:=zdj J;obtain⟨a0,a1,a2,a3,a4,a5,a6,a7,a8,a9,V,Y,af⟩:=zaw Z;obtain⟨b0,b1,b2,b3,b4,b5,b6,b7,b8,b9,O,N,bf⟩:=zaw L;have G2:=zc L;clear Z L H;go_wp2;refine bodyPost_ret (results_cell_row rfl _ _ (w.heap.size+1) 127 _ (0,0) _ rfl (zbp ((zC (by omega)).trans G2.o)) underlying127 rfl (by kernel_rfl)) rfl ?_;exact zcW rfl HY.o (HM.o.adv ab) (zcm ((zbv J).setCell (Nat.le_refl _) _) (Nat.le_succ _) ..)
 |false=>
  have HY:Hid (Is (bd x (zd C 1 s)) q (zbK C q.pos z)):=by
   show Is (bd x (zd C 1 s)) q (zbK C q.pos z);unfold zbK;by_cases X:z<0
   ·obtain⟨U,h2⟩:=zaP HX.o X;simp only[X,decide_true,Bool.true_and] at H;rw[U,zJ,zd,H,if_pos X];rfl
   ·obtain⟨e,U,h2⟩:=zdY HX.o X;rw[U,zfl,if_neg X];exact h2
  unfold pv;go_enter func130,ntmps130;go_wp2_with fail;refine (zm C g b c S q z d 1 s _ (zy (zy A _) _) I (by decide)).mono ?_;rintro e w1 ⟨rfl,J⟩;rw[H];obtain⟨Z,L⟩:=zdj J;obtain⟨a0,a1,a2,a3,a4,a5,a6,a7,a8,a9,V,Y,af⟩:=zaw Z;obtain⟨b0,b1,b2,b3,b4,b5,b6,b7,b8,b9,O,N,bf⟩:=zaw L;have G2:=zc L;have K:=zcG A (zbv J);clear Z L H;go_wp2_with fail;refine (zdW C g b c S q z d _ K I).mono ?_;rintro e w2 ⟨rfl,aa⟩;have G3:Hid (_=_):=(aa.block _ (Nat.lt_of_lt_of_le (by simp) J.size)).trans G2.o;obtain⟨c0,c1,c2,c3,c4,c5,c6,c7,c8,c9,ae,ad,cf⟩:=zaw G3.o;have ac:=(zbv J).trans (aa.mono (zbv J).size);clear a0 a1 a2 a3 a4 a5 a6 a7 a8 a9 V Y b0 b1 b2 b3 b4 b5 b6 b7 b8 b9 O N af bf;unfold pv;go_wp2;refine bodyPost_ret (results_cell_row rfl _ _ (w.heap.size+1) 127 _ (0,0) _ rfl (zbp G3.o) underlying127 rfl (by kernel_rfl)) rfl ?_;exact zcW rfl HY.o HM.o (zcm ac (Nat.le_succ _) ..)
theorem zeF (s:BA0) (h:Bool) (w:World):
  Calls prog 183 #[.string s,.bool h] w fun e w'=>e= .returned (.bool (zB s h))/\w'=w:=by
 cases A:(s.toList==[105,109,112,111,114,116]) with
 |true=>
  have q:Hid (zB s h=true):=by show zB s h=true;simp[zB,A]
  go_enter func183,ntmps183;go_wp2;go_ret;exact⟨zk q.o.symm,rfl⟩
 |false=>
  cases H:(s.toList==[101,120,112,111,114,116]) with
  |true=>
   have q:Hid (zB s h=true):=by show zB s h=true;simp[zB,A,H]
   go_enter func183,ntmps183;go_wp2;go_ret;exact⟨zk q.o.symm,rfl⟩
  |false=>
   cases I:(s.toList==[100,101,102,97,117,108,116]) with
   |true=>
    have q:Hid (zB s h=true):=by show zB s h=true;simp[zB,A,H,I]
    go_enter func183,ntmps183;go_wp2;go_ret;exact⟨zk q.o.symm,rfl⟩
   |false=>
    cases J:(s.toList==[108,101,116]) with
    |true=>
     have q:Hid (zB s h=true):=by show zB s h=true;simp[zB,A,H,I,J]
     go_enter func183,ntmps183;go_wp2;go_ret;exact⟨zk q.o.symm,rfl⟩
    |false=>
     cases K:(s.toList==[102,117,110,99,116,105,111,110]) with
     |true=>
      have q:Hid (zB s h=true):=by show zB s h=true;simp[zB,A,H,I,J,K]
      go_enter func183,ntmps183;go_wp2;go_ret;exact⟨zk q.o.symm,rfl⟩
     |false=>
      cases L:(s.toList==[114,101,116,117,114,110]) with
      |true=>
       have q:Hid (zB s h=true):=by show zB s h=true;simp[zB,A,H,I,J,K,L]
       go_enter func183,ntmps183;go_wp2;go_ret;exact⟨zk q.o.symm,rfl⟩
      |false=>
       cases M:(s.toList==[112,114,105,110,116]) with
       |true=>
        have q:Hid (zB s h=true):=by show zB s h=true;simp[zB,A,H,I,J,K,L,M]
        go_enter func183,ntmps183;go_wp2;go_ret;exact⟨zk q.o.symm,rfl⟩
       |false=>
        cases N:(s.toList==[116,104,114,111,119]) with
        |true=>
         have q:Hid (zB s h=true):=by show zB s h=true;simp[zB,A,H,I,J,K,L,M,N]
         go_enter func183,ntmps183;go_wp2;go_ret;exact⟨zk q.o.symm,rfl⟩
        |false=>
         cases O:(s.toList==[102,97,105,108]) with
         |true=>
          have q:Hid (zB s h=h):=by show zB s h=h;simp[zB,A,H,I,J,K,L,M,N,O]
          go_enter func183,ntmps183;go_wp2;go_ret;exact⟨zk q.o.symm,rfl⟩
         |false=>
          cases U:(s.toList==[117,110,100,101,102]) with
          |true=>
           have q:Hid (zB s h=h):=by show zB s h=h;simp[zB,A,H,I,J,K,L,M,N,O,U]
           go_enter func183,ntmps183;go_wp2;go_ret;exact⟨zk q.o.symm,rfl⟩
          |false=>
           have q:Hid (zB s h=false):=by show zB s h=false;simp[zB,A,H,I,J,K,L,M,N,O,U]
           go_enter func183,ntmps183;go_wp2;go_ret;exact⟨zk q.o.symm,rfl⟩
open Nat (le_refl)
variable (C:Cx) (g b c:Nat) (w:PR) (S:Sv) (q:PS) (z:Int) (d:Nat) (W:World) (s n k m:Obj) {D:Cx} {x:Nat} {p:Bool} {t:PS} {u:Int} {A:BA0} {T:Sv} {V:World} {h:PR} {B:PS->PR}
theorem zqp (h:((ze D x).kind==1)=false):zO D x p=false:=by rw[zO,h];rfl
theorem zi9 (h: ¬x<D.ts.length):zO D x p=false:=by
 rw[Bool.eq_false_iff];exact fun g=>h (zfT g)
theorem zhb (o:Bool) (w:World) (X:OwnT w c 157 g C.ts.length b C.ts) (_:C.ts.length<=4000):
  Calls prog 164 #[pv C g b S q z d,.bool o] w fun e w'=>e= .returned (.bool (decide (z<0)&&zO C q.pos o))/\Bw w w':=by
 unfold pv;by_cases hz:z<0
 ·have H:decide (z<0)=true:=dT hz;have L:decide (0<=z)=false:=dF (by omega);by_cases N:q.pos<C.ts.length
  ·obtain⟨U,Z,_,_⟩:=X.cells N (d:=⟨0,sNone,0,C.fin⟩);have V:=(za1 X).1;change _=some (Value.int .i64 (ze C q.pos).kind) at U;change _=some (Value.string (ze C q.pos).text) at Z;generalize h:ze C q.pos=t at U Z;cases I:(t.kind==1) with
   |true=>
    have M:(t.kind !=1)=false:=by rw[bne,I];rfl
    cases K:zB t.text C.scr with
    |false=>
     have A:Hid (zO C q.pos o=true):=by show zO C q.pos o=true;simp only[zO,h,I,K,Bool.not_false,Bool.true_or,Bool.and_self]
     clear h;go_enter func164,ntmps164;go_wp2_with (first|(go_at_call 183;refine (zeF _ _ _).mono ?_;rintro e w' ⟨rfl,rfl⟩));go_ret;exact⟨zk (by first|(rw[H,A.o];rfl)|rfl),bA0⟩
    |true=>
     cases o with
     |true=>
      cases O:(t.text.toList==[100,101,102,97,117,108,116]) with
      |true=>
       have A:Hid (zO C q.pos true=true):=by show zO C q.pos true=true;simp only[zO,h,I,K,O,Bool.not_true,Bool.and_self,Bool.false_or]
       clear h;go_enter func164,ntmps164;go_wp2_with (first|(go_at_call 183;refine (zeF _ _ _).mono ?_;rintro e w' ⟨rfl,rfl⟩));go_ret;exact⟨zk (by first|(rw[H,A.o];rfl)|rfl),bA0⟩
      |false=>
       have A:Hid (zO C q.pos true=false):=by show zO C q.pos true=false;simp only[zO,h,I,K,O,Bool.not_true,Bool.true_and,Bool.or_self]
       clear h;go_enter func164,ntmps164;go_wp2_with (first|(go_at_call 183;refine (zeF _ _ _).mono ?_;rintro e w' ⟨rfl,rfl⟩));go_ret;exact⟨zk (by first|(rw[H,A.o];rfl)|rfl),bA0⟩
     |false=>
      have A:Hid (zO C q.pos false=false):=by show zO C q.pos false=false;simp only[zO,h,I,K,Bool.not_true,Bool.false_and,Bool.or_self,Bool.and_false]
      clear h;go_enter func164,ntmps164;go_wp2_with (first|(go_at_call 183;refine (zeF _ _ _).mono ?_;rintro e w' ⟨rfl,rfl⟩));go_ret;exact⟨zk (by first|(rw[H,A.o];rfl)|rfl),bA0⟩
   |false=>
    have M:(t.kind !=1)=true:=by rw[bne,I];rfl
    have A:Hid (zO C q.pos o=false):=zqp (by rw[h];exact I);clear h;go_enter func164,ntmps164;go_wp2_with (first|(go_at_call 183;refine (zeF _ _ _).mono ?_;rintro e w' ⟨rfl,rfl⟩));go_ret;exact⟨zk (by first|(rw[H,A.o];rfl)|rfl),bA0⟩
  ·have A:Hid (zO C q.pos o=false):=zi9 N;go_enter func164,ntmps164;go_wp2_with (first|(go_at_call 183;refine (zeF _ _ _).mono ?_;rintro e w' ⟨rfl,rfl⟩));go_ret;exact⟨zk (by first|(rw[H,A.o];rfl)|rfl),bA0⟩
 ·have H:decide (z<0)=false:=dF hz;have L:decide (0<=z)=true:=dT (by omega);have A:Hid (zO C q.pos o=zO C q.pos o):=rfl;go_enter func164,ntmps164;go_wp2_with (first|(go_at_call 183;refine (zeF _ _ _).mono ?_;rintro e w' ⟨rfl,rfl⟩));go_ret;exact⟨zk (by first|(rw[H,A.o];rfl)|rfl),bA0⟩
def Is2 (y:Except Nat (PS×BA0)) (q:PS) (z:Int) (n:BA0):Prop:=
 match y with
 | .ok a=>q=a.1/\z= -1/\n=a.2
 | .error e=>z=(e:Int)
theorem Is2.fst {y:Except Nat (PS×BA0)} (h:Is2 y t u A):Is (zbc y) t u:=by
 cases y with
 |ok a=>exact⟨h.1,h.2.1⟩
 |error e=>exact h
theorem Is2.bind {y:Except Nat (PS×BA0)} (h:Is2 y t u A) {β:Type} (F:PS->BA0->Except Nat β):bd (zbc y) (fun t=>F t A)=bd y fun a=>F a.1 a.2:=by
 cases y with
 |ok a=>obtain⟨_,_,rfl⟩:=h;rfl
 |error e=>rfl
def zep (C:Cx) (gt cap base:Nat) (y:Except Nat (PS×BA0)) (d:Nat) (S:Sv) (w:World) (e:Ending) (w':World):Prop:=
 ∃S' q' z' n',e= .returned (.tuple #[pv C gt cap S' q' z' d,.string n'])/\Hid (Is2 y q' z' n')/\Mem C gt cap base S' q' w'/\Stp S w S' w'
theorem zeG {h base:Nat} {y:Except Nat (PS×BA0)} {d:Nat} {w':World} {q':PS} {z':Int} {q:BA0} {v:Value} (J:v=pv D x h T q' z' d) (K:Is2 y q' z' q) (I:Mem D x h base T q' V) (H:Bw V w'):zep D x h base y d T V (.returned (.tuple #[v,.string q])) w':=
 ⟨T,q',z',q,by rw[J],K,I.later H,Stp.below H⟩
theorem zb1 (o:Bool) (E:World) (hx:Is w q z) (hm:Mem C g b c S q E):
  Calls prog 132 #[pv C g b S q z d,.bool o] E (zep C g b c (bd w (zq C o)) d S E):=by
 have HM:=zc hm;have A:=hm.tok;have J:=hm.few;have HX:=zc hx;clear hx hm;cases I:(decide (z<0)&&zO C q.pos o) with
 |true=>
  have N:q.pos<C.ts.length:=by rw[Bool.and_eq_true] at I;exact zfT I.2
  have HY:Hid (Is2 (bd w (zq C o)) (adv q) z (ze C q.pos).text):=by
   rw[Bool.and_eq_true,decide_eq_true_eq] at I;obtain⟨O,h2⟩:=zaP HX.o I.1;show Is2 (bd w (zq C o)) (adv q) z (ze C q.pos).text;rw[O,zJ,zq,if_pos I.2];exact⟨rfl,h2,rfl⟩
  unfold pv;go_enter func132,ntmps132;go_wp2_with fail;refine (zhb C g b c S q z d o _ (zy (zy A _) _) J).mono ?_;rintro e w1 ⟨rfl,K⟩;rw[I];obtain⟨Y,L⟩:=zdj K;obtain⟨a0,a1,a2,a3,a4,a5,a6,a7,a8,a9,U,X,af⟩:=zaw Y;obtain⟨b0,b1,b2,b3,b4,b5,b6,b7,b8,b9,ac,ab,bf⟩:=zaw L;have h:=zcG A (zbv K);obtain⟨_,c1,_,_⟩:=h.cells N (d:=⟨0,sNone,0,C.fin⟩);change _=some (Value.string (ze C q.pos).text) at c1;have G2:=zc L;clear Y L I;go_wp2;refine bodyPost_ret (zaH rfl _ _ (E.heap.size+1) 127 _ (0,0) _ rfl (zbp ((zC (by omega)).trans G2.o)) underlying127 rfl (by kernel_rfl)) rfl ?_;exact zeG rfl HY.o (HM.o.adv N) (zcm ((zbv K).setCell (le_refl _) _) (Nat.le_succ _) ..)
 |false=>
  have HY:Hid (Is2 (bd w (zq C o)) q (zbK C q.pos z) sNone):=by
   show Is2 (bd w (zq C o)) q (zbK C q.pos z) sNone;unfold zbK;by_cases V:z<0
   ·obtain⟨O,h2⟩:=zaP HX.o V;simp only[V,decide_true,Bool.true_and] at I;rw[O,zJ,zq,I,if_pos V];rfl
   ·obtain⟨e,O,h2⟩:=zdY HX.o V;rw[O,zfl,if_neg V];exact h2
  unfold pv;go_enter func132,ntmps132;go_wp2_with fail;refine (zhb C g b c S q z d o _ (zy (zy A _) _) J).mono ?_;rintro e w1 ⟨rfl,K⟩;rw[I];obtain⟨Y,L⟩:=zdj K;obtain⟨a0,a1,a2,a3,a4,a5,a6,a7,a8,a9,U,X,af⟩:=zaw Y;have G2:=zc L;have h:=zcG A (zbv K);clear Y L I;go_wp2_with fail;refine (zdW C g b c S q z d _ h J).mono ?_;rintro e w2 ⟨rfl,Z⟩;have G3:Hid (_=_):=(Z.block _ (Nat.lt_of_lt_of_le (by simp) K.size)).trans G2.o;obtain⟨c0,c1,c2,c3,c4,c5,c6,c7,c8,c9,ae,ad,cf⟩:=zaw G3.o;have aa:=(zbv K).trans (Z.mono (zbv K).size);clear a0 a1 a2 a3 a4 a5 a6 a7 a8 a9 U X af;unfold pv;go_wp2;refine bodyPost_ret (zaH rfl _ _ (E.heap.size+1) 127 _ (0,0) _ rfl (zbp G3.o) underlying127 rfl (by kernel_rfl)) rfl ?_;exact zeG rfl HY.o HM.o (zcm aa (Nat.le_succ _) ..)
theorem Tryz.infoImp:(prog.info? 101).map (fun i=>(i.zero,i.size,i.bytes))=some (some (.agg #[.string {data:=#[]},.string {data:=#[]},.string {data:=#[]}]),3,48):=by kernel_rfl
theorem Tryz.infoExp:(prog.info? 103).map (fun i=>(i.zero,i.size,i.bytes))=some (some (.agg #[.int .i64 0,.string {data:=#[]},.string {data:=#[]},.string {data:=#[]}]),4,56):=by kernel_rfl
theorem Tryz.infoStmt:(prog.info? 108).map (fun i=>(i.zero,i.size,i.bytes))=some (some (.agg #[.int .i64 0,.string {data:=#[]},.int .i64 0]),3,32):=by kernel_rfl
theorem Tryz.infoExpr:(prog.info? 106).map (fun i=>(i.zero,i.size,i.bytes))=some (some (.agg #[.int .i64 0,.int .i64 0,.string {data:=#[]},.string {data:=#[]},.int .i64 0,.int .i64 0]),6,64):=by kernel_rfl
def imV (x:Im):Value:=.agg #[.string x.spec,.string x.first,.string x.loc]
def epV (x:Ep):Value:=.agg #[.int .i64 x.kind,.string x.name,.string x.loc,.string x.spec]
def exV (x:Ex):Value:=.agg #[.int .i64 x.kind,.int .i64 x.num,.string x.name,.string x.field,.int .i64 x.l,.int .i64 x.r]
theorem zd5:Bw W (((W.alloc s).alloc n).alloc k):=(zbq W s n).alloc (zbq W s n).size k
theorem zhc:Bw W ((((W.alloc s).alloc n).alloc k).alloc m):=(zd5 W s n k).alloc (zd5 W s n k).size m
theorem zdl:((W.alloc s).alloc n).heap.size=W.heap.size+1+1:=by rw[zh,zh]
theorem zal (b c:Obj):(((W.alloc s).alloc b).alloc c).heap.size=W.heap.size+1+1+1:=by rw[zh,zdl]
theorem zaJ (b c d:Obj):((((W.alloc s).alloc b).alloc c).alloc d).heap.size=W.heap.size+1+1+1+1:=by rw[zh,zal]
theorem new3:(((W.alloc s).alloc n).alloc k).heap[W.heap.size]? =some s/\(((W.alloc s).alloc n).alloc k).heap[W.heap.size+1]? =some n/\(((W.alloc s).alloc n).alloc k).heap[W.heap.size+1+1]? =some k:=by
 refine⟨?_,?_,?_⟩
 ·rw[Below.heap_alloc _ _ _ (by rw[zdl];omega),Below.heap_alloc _ _ _ (by rw[zh];omega)];exact hN0 W s
 ·rw[Below.heap_alloc _ _ _ (by rw[zdl];omega)];exact new2 W s n
 ·rw[<-zdl W s n];exact hN0 _ k
theorem zcu:((((W.alloc s).alloc n).alloc k).alloc m).heap[W.heap.size]? =some s/\((((W.alloc s).alloc n).alloc k).alloc m).heap[W.heap.size+1]? =some n/\((((W.alloc s).alloc n).alloc k).alloc m).heap[W.heap.size+1+1]? =some k/\((((W.alloc s).alloc n).alloc k).alloc m).heap[W.heap.size+1+1+1]? =some m:=by
 obtain⟨h,q,A⟩:=new3 W s n k;refine⟨?_,?_,?_,?_⟩
 ·rw[Below.heap_alloc _ _ _ (by rw[zal];omega)];exact h
 ·rw[Below.heap_alloc _ _ _ (by rw[zal];omega)];exact q
 ·rw[Below.heap_alloc _ _ _ (by rw[zal];omega)];exact A
 ·rw[<-zal W s n k];exact hN0 _ m
theorem ziA {h:World} {a b c:Obj} (q:Below (((V.alloc a).alloc b).alloc c).heap.size (((V.alloc a).alloc b).alloc c) h):Bw V h:=(zd5 V a b c).trans (q.mono (zd5 V a b c).size)
theorem zhd (w:Is h t u) (A:u<0) (E:B t= .error (zz D (t.pos-1))):Is (bd h B) t (zz D (t.pos-1)):=by
 obtain⟨rfl,_⟩:=zaP w A;rw[zJ,E];rfl
theorem zhe (w:Is h t u) (A: ¬u<0):Is (bd h B) t u:=by
 obtain⟨e,rfl,E⟩:=zdY w A;exact E
theorem zgi {q':PS} (A:Is h t u) (H:u<0) (w:B t= .ok q'):Is (bd h B) q' u:=by
 obtain⟨rfl,E⟩:=zaP A H;rw[zJ,w];exact⟨rfl,E⟩
theorem zeH {W:World} (h:Own V x T t) (_:V.heap.size<=W.heap.size) {r:Option Nat} (A: ∀k,r=some k->T.has k) (b:Nat) (H:V.heap.size<=b):some b≠r:=fun e=>by have:=(h.has (A b e.symm)).2;omega
theorem zd6 (y:Ex) (F:World) (hx:Is w q z) (M:Mem C g b c S q F) (X:z<0->1<=q.pos):
  Calls prog 168 #[pv C g b S q z d,exV y] F (Out C g b c (bd w (zZ C y)) d S F):=by
 obtain⟨i0,hi,Z,ac,ab⟩:=info_parts Tryz.infoExpr;have I:=zc M;have HX:=zc hx;have ad:q.ex.length<=300:=by have:=M.inv.ex;omega
 clear hx;by_cases K:z<0
 ·have dz:decide (0<=z)=false:=dF (by omega);by_cases hn:300<=q.ex.length
  ·have N:Hid (Is (bd w (zZ C y)) q (zz C (q.pos-1))):=zhd HX.o K (if_pos hn);have qn:decide ((300:Int)<=(q.ex.length:Int))=true:=dT (by omega);have L:=X K;clear X M;unfold pv exV;go_enter func168,ntmps168;go_wp2_with fail;refine (zgh C g b c S q z d _ (((I.o.alloc _).alloc _).alloc _) K L).mono ?_;rintro e w2 ⟨rfl,J⟩;have Y:Bw F w2:=ziA J;have G3:Hid (_=_):=(J.block (F.heap.size+1+1) (by rw[zal];omega)).trans ((new3 F _ _ _).2.2);obtain⟨c0,c1,c2,c3,c4,c5,c6,c7,c8,c9,ag,ak,cf⟩:=zaw G3.o;clear J;unfold pv;go_wp2;refine bodyPost_ret (results_cell_row rfl _ _ (F.heap.size+1+1) 127 _ (0,0) _ rfl (zbp G3.o) underlying127 rfl (by kernel_rfl)) rfl ?_;exact zcW rfl N.o I.o (zcm Y (by omega) ..)
  ·have qn:decide ((300:Int)<=(q.ex.length:Int))=false:=dF (by omega);have N:Hid (Is (bd w (zZ C y)) {q with ex:=q.ex++[y]} z):=zgi HX.o K (if_neg hn);have A:=fun o1 o2 o3 o4=>((((I.o.own.ex.alloc o1).alloc o2).alloc o3).alloc o4);clear X M;unfold pv exV;go_enter func168,ntmps168;go_wp2_with (at_builtin;refine zbm _ rfl _ _ 57 rfl c 106 i0 _ 6 64 underlying57 hi Z ac ab rfl (by decide) (by decide) S.ex q.ex.length _ (by rfl) (A ..) (F.heap.size+1+1+1) (exL y) (by rfl) (by first|exact (zcu F ..).2.2.2|exact (new3 F _ _ _).2.2) rfl (by intro u hu;simp[exL] at hu;rcases hu with rfl|rfl|rfl|rfl|rfl|rfl<;>rfl) (by omega) (by have:=I.o.base;(first|rw[zaJ]|rw[zal]);omega) ?_);intro r' w2 hr U O;have HR:=zc hr;have HG:=zc U;have aa:=zc O;have H:=fun E hb=>zeH (W:=F) I.o.own (le_refl _) (r:=S.ex.blk) (fun k e=>.inr (.inr (.inr (.inr (.inl e))))) E hb;have g1:=(U.block F.heap.size (by (first|rw[zaJ]|rw[zal]);omega) (H _ (le_refl _))).trans (by first|exact (zcu F ..).1|exact (new3 F _ _ _).1);have g2:=(U.block (F.heap.size+1+1) (by (first|rw[zaJ]|rw[zal]);omega) (H _ (by omega))).trans (by first|exact (zcu F ..).2.2.1|exact (new3 F _ _ _).2.1);obtain⟨a0,a1,a2,a3,a4,a5,a6,a7,a8,a9,ae,ai,af⟩:=zaw g1;obtain⟨b0,b1,b2,b3,b4,b5,b6,b7,b8,b9,aj,ah,bf⟩:=zaw g2;have G2:=zc g2;clear g1 g2 U hr O H A;go_wp2;refine bodyPost_ret (results_cell_row rfl _ _ (F.heap.size+1+1) 127 _ (0,0) _ rfl (zbp ((zC (by omega)).trans G2.o)) underlying127 rfl (by kernel_rfl)) rfl ?_;obtain⟨m',s'⟩:=I.o.grow_ex (x:=y) (zhc F ..) HG.o HR.o (by (first|rw[zaJ]|rw[zal]);exact aa.o) (((Off.refl _ _ _).set (b:=F.heap.size) (le_refl _) (by (first|rw[zaJ]|rw[zal]);omega) _ _).set12 (b:=F.heap.size+1+1) (by omega) (by (first|rw[zaJ]|rw[zal]);omega) ..) (by omega);exact⟨_,{q with ex:=q.ex++[y]},z,by simp[pv],N.o,m',s'⟩
 ·have dz:decide (0<=z)=true:=dT (by omega);have N:Hid (Is (bd w (zZ C y)) q z):=zhe HX.o K;clear X M;unfold pv exV;go_enter func168,ntmps168;go_wp2;refine bodyPost_ret (results_cell_row rfl _ _ (F.heap.size+1+1) 127 _ (0,0) _ rfl ((new3 F _ _ _).2.2) underlying127 rfl (by kernel_rfl)) rfl ?_;exact zcW rfl N.o I.o (zd5 F _ _ _)
theorem ziB (y:Im) (F:World) (hx:Is w q z) (M:Mem C g b c S q F) (X:z<0->1<=q.pos):
  Calls prog 163 #[pv C g b S q z d,imV y] F (Out C g b c (bd w (zau C y)) d S F):=by
 obtain⟨i0,hi,Z,ac,ab⟩:=info_parts Tryz.infoImp;have I:=zc M;have HX:=zc hx;have ad:q.im.length<=40:=by have:=M.inv.im;omega
 clear hx;by_cases K:z<0
 ·have dz:decide (0<=z)=false:=dF (by omega);by_cases hn:40<=q.im.length
  ·have N:Hid (Is (bd w (zau C y)) q (zz C (q.pos-1))):=zhd HX.o K (if_pos hn);have qn:decide ((40:Int)<=(q.im.length:Int))=true:=dT (by omega);have L:=X K;clear X M;unfold pv imV;go_enter func163,ntmps163;go_wp2_with fail;refine (zgh C g b c S q z d _ (((I.o.alloc _).alloc _).alloc _) K L).mono ?_;rintro e w2 ⟨rfl,J⟩;have Y:Bw F w2:=ziA J;have G3:Hid (_=_):=(J.block (F.heap.size+1+1) (by rw[zal];omega)).trans ((new3 F _ _ _).2.2);obtain⟨c0,c1,c2,c3,c4,c5,c6,c7,c8,c9,ag,ak,cf⟩:=zaw G3.o;clear J;unfold pv;go_wp2;refine bodyPost_ret (results_cell_row rfl _ _ (F.heap.size+1+1) 127 _ (0,0) _ rfl (zbp G3.o) underlying127 rfl (by kernel_rfl)) rfl ?_;exact zcW rfl N.o I.o (zcm Y (by omega) ..)
  ·have qn:decide ((40:Int)<=(q.im.length:Int))=false:=dF (by omega);have N:Hid (Is (bd w (zau C y)) {q with im:=q.im++[y]} z):=zgi HX.o K (if_neg hn);have A:=fun o1 o2 o3 o4=>((((I.o.own.im.alloc o1).alloc o2).alloc o3).alloc o4);clear X M;unfold pv imV;go_enter func163,ntmps163;go_wp2_with (at_builtin;refine zbm _ rfl _ _ 54 rfl c 101 i0 _ 3 48 underlying54 hi Z ac ab rfl (by decide) (by decide) S.im q.im.length _ (by rfl) (A ..) (F.heap.size+1+1+1) (imL y) (by rfl) (by first|exact (zcu F ..).2.2.2|exact (new3 F _ _ _).2.2) rfl (by intro u hu;simp[imL] at hu;rcases hu with rfl|rfl|rfl<;>rfl) (by omega) (by have:=I.o.base;(first|rw[zaJ]|rw[zal]);omega) ?_);intro r' w2 hr U O;have HR:=zc hr;have HG:=zc U;have aa:=zc O;have H:=fun E hb=>zeH (W:=F) I.o.own (le_refl _) (r:=S.im.blk) (fun k e=>.inr (.inl e)) E hb;have g1:=(U.block F.heap.size (by (first|rw[zaJ]|rw[zal]);omega) (H _ (le_refl _))).trans (by first|exact (zcu F ..).1|exact (new3 F _ _ _).1);have g2:=(U.block (F.heap.size+1+1) (by (first|rw[zaJ]|rw[zal]);omega) (H _ (by omega))).trans (by first|exact (zcu F ..).2.2.1|exact (new3 F _ _ _).2.1);obtain⟨a0,a1,a2,a3,a4,a5,a6,a7,a8,a9,ae,ai,af⟩:=zaw g1;obtain⟨b0,b1,b2,b3,b4,b5,b6,b7,b8,b9,aj,ah,bf⟩:=zaw g2;have G2:=zc g2;clear g1 g2 U hr O H A;go_wp2;refine bodyPost_ret (results_cell_row rfl _ _ (F.heap.size+1+1) 127 _ (0,0) _ rfl (zbp ((zC (by omega)).trans G2.o)) underlying127 rfl (by kernel_rfl)) rfl ?_;obtain⟨m',s'⟩:=I.o.grow_im (x:=y) (zhc F ..) HG.o HR.o (by (first|rw[zaJ]|rw[zal]);exact aa.o) (((Off.refl _ _ _).set (b:=F.heap.size) (le_refl _) (by (first|rw[zaJ]|rw[zal]);omega) _ _).set12 (b:=F.heap.size+1+1) (by omega) (by (first|rw[zaJ]|rw[zal]);omega) ..) (by omega);exact⟨_,{q with im:=q.im++[y]},z,by simp[pv],N.o,m',s'⟩
 ·have dz:decide (0<=z)=true:=dT (by omega);have N:Hid (Is (bd w (zau C y)) q z):=zhe HX.o K;clear X M;unfold pv imV;go_enter func163,ntmps163;go_wp2;refine bodyPost_ret (results_cell_row rfl _ _ (F.heap.size+1+1) 127 _ (0,0) _ rfl ((new3 F _ _ _).2.2) underlying127 rfl (by kernel_rfl)) rfl ?_;exact zcW rfl N.o I.o (zd5 F _ _ _)
theorem zeI (y:Ep) (F:World) (hx:Is w q z) (N:Mem C g b c S q F) (hp:z<0->1<=q.pos):
  Calls prog 165 #[pv C g b S q z d,epV y] F (Out C g b c (bd w (zv C y)) d S F):=by
 obtain⟨i0,hi,X,aa,Z⟩:=info_parts Tryz.infoExp;have H:=zc N;have HX:=zc hx;have ai:q.ep.length<=40:=by have:=N.inv.ep;omega
 have ah:q.la.length<=40:=by have:=N.inv.ep;omega
 clear hx;by_cases V:z<0
 ·have dz:decide (0<=z)=false:=dF (by omega);by_cases hn:40<=q.ep.length+q.la.length
  ·have O:Hid (Is (bd w (zv C y)) q (zz C (q.pos-1))):=zhd HX.o V (if_pos hn);have qn:decide ((40:Int)<=(q.ep.length:Int)+(q.la.length:Int))=true:=dT (by omega);have Y:=hp V;clear hp N;unfold pv epV;go_enter func165,ntmps165;go_wp2_with fail;refine (zgh C g b c S q z d _ (((H.o.alloc _).alloc _).alloc _) V Y).mono ?_;rintro e w2 ⟨rfl,M⟩;have ac:Bw F w2:=ziA M;have G3:Hid (_=_):=(M.block (F.heap.size+1+1) (by rw[zal];omega)).trans ((new3 F _ _ _).2.2);obtain⟨c0,c1,c2,c3,c4,c5,c6,c7,c8,c9,aj,ak,cf⟩:=zaw G3.o;clear M;unfold pv;go_wp2;refine bodyPost_ret (results_cell_row rfl _ _ (F.heap.size+1+1) 127 _ (0,0) _ rfl (zbp G3.o) underlying127 rfl (by kernel_rfl)) rfl ?_;exact zcW rfl O.o H.o (zcm ac (by omega) ..)
  ·have qn:decide ((40:Int)<=(q.ep.length:Int)+(q.la.length:Int))=false:=dF (by omega);cases hd:(y.loc.toList==[42,100,101,102,97,117,108,116]) with
   |true=>
    have O:Hid (Is (bd w (zv C y)) {q with la:=q.la++[y]} z):=zgi HX.o V (by rw[zv,if_neg hn,if_pos hd]);have h:=fun o1 o2 o3 o4=>((((H.o.own.la.alloc o1).alloc o2).alloc o3).alloc o4);clear hp N;unfold pv epV;go_enter func165,ntmps165;go_wp2_with (at_builtin;refine zbm _ rfl _ _ 55 rfl c 103 i0 _ 4 56 underlying55 hi X aa Z rfl (by decide) (by decide) S.la q.la.length _ (by rfl) (h ..) (F.heap.size+1+1+1) (epL y) (by rfl) (by first|exact (zcu F ..).2.2.2|exact (new3 F _ _ _).2.2) rfl (by intro u hu;simp[epL] at hu;rcases hu with rfl|rfl|rfl|rfl<;>rfl) (by omega) (by have:=H.o.base;(first|rw[zaJ]|rw[zal]);omega) ?_);intro r' w2 hr J I;have HR:=zc hr;have HG:=zc J;have L:=zc I;have A:=fun E hb=>zeH (W:=F) H.o.own (le_refl _) (r:=S.la.blk) (fun k e=>.inr (.inr (.inr (.inr (.inr e))))) E hb;have g1:=(J.block F.heap.size (by (first|rw[zaJ]|rw[zal]);omega) (A _ (le_refl _))).trans (by first|exact (zcu F ..).1|exact (new3 F _ _ _).1);have U:=(J.block (F.heap.size+1+1) (by (first|rw[zaJ]|rw[zal]);omega) (A _ (by omega))).trans (by first|exact (zcu F ..).2.2.1|exact (new3 F _ _ _).2.1);obtain⟨a0,a1,a2,a3,a4,a5,a6,a7,a8,a9,ab,ae,af⟩:=zaw g1;obtain⟨b0,b1,b2,b3,b4,b5,b6,b7,b8,b9,ag,ad,bf⟩:=zaw U;have G2:=zc U;clear g1 U J hr I A h;go_wp2;refine bodyPost_ret (results_cell_row rfl _ _ (F.heap.size+1+1) 127 _ (0,0) _ rfl (zbp ((zC (by omega)).trans G2.o)) underlying127 rfl (by kernel_rfl)) rfl ?_;obtain⟨m',s'⟩:=H.o.grow_la (x:=y) (zhc F ..) HG.o HR.o (by (first|rw[zaJ]|rw[zal]);exact L.o) (((Off.refl _ _ _).set (b:=F.heap.size) (le_refl _) (by (first|rw[zaJ]|rw[zal]);omega) _ _).set12 (b:=F.heap.size+1+1) (by omega) (by (first|rw[zaJ]|rw[zal]);omega) ..) (by omega);exact⟨_,{q with la:=q.la++[y]},z,by simp[pv],O.o,m',s'⟩
   |false=>
    have O:Hid (Is (bd w (zv C y)) {q with ep:=q.ep++[y]} z):=zgi HX.o V (by rw[zv,if_neg hn,hd];rfl);have h:=fun o1 o2 o3 o4=>((((H.o.own.ep.alloc o1).alloc o2).alloc o3).alloc o4);clear hp N;unfold pv epV;go_enter func165,ntmps165;go_wp2_with (at_builtin;refine zbm _ rfl _ _ 55 rfl c 103 i0 _ 4 56 underlying55 hi X aa Z rfl (by decide) (by decide) S.ep q.ep.length _ (by rfl) (h ..) (F.heap.size+1+1+1) (epL y) (by rfl) (by first|exact (zcu F ..).2.2.2|exact (new3 F _ _ _).2.2) rfl (by intro u hu;simp[epL] at hu;rcases hu with rfl|rfl|rfl|rfl<;>rfl) (by omega) (by have:=H.o.base;(first|rw[zaJ]|rw[zal]);omega) ?_);intro r' w2 hr J I;have HR:=zc hr;have HG:=zc J;have L:=zc I;have A:=fun E hb=>zeH (W:=F) H.o.own (le_refl _) (r:=S.ep.blk) (fun k e=>.inr (.inr (.inl e))) E hb;have g1:=(J.block F.heap.size (by (first|rw[zaJ]|rw[zal]);omega) (A _ (le_refl _))).trans (by first|exact (zcu F ..).1|exact (new3 F _ _ _).1);have U:=(J.block (F.heap.size+1+1) (by (first|rw[zaJ]|rw[zal]);omega) (A _ (by omega))).trans (by first|exact (zcu F ..).2.2.1|exact (new3 F _ _ _).2.1);obtain⟨a0,a1,a2,a3,a4,a5,a6,a7,a8,a9,ab,ae,af⟩:=zaw g1;obtain⟨b0,b1,b2,b3,b4,b5,b6,b7,b8,b9,ag,ad,bf⟩:=zaw U;have G2:=zc U;clear g1 U J hr I A h;go_wp2;refine bodyPost_ret (results_cell_row rfl _ _ (F.heap.size+1+1) 127 _ (0,0) _ rfl (zbp ((zC (by omega)).trans G2.o)) underlying127 rfl (by kernel_rfl)) rfl ?_;obtain⟨m',s'⟩:=H.o.grow_ep (x:=y) (zhc F ..) HG.o HR.o (by (first|rw[zaJ]|rw[zal]);exact L.o) (((Off.refl _ _ _).set (b:=F.heap.size) (le_refl _) (by (first|rw[zaJ]|rw[zal]);omega) _ _).set12 (b:=F.heap.size+1+1) (by omega) (by (first|rw[zaJ]|rw[zal]);omega) ..) (by omega);exact⟨_,{q with ep:=q.ep++[y]},z,by simp[pv],O.o,m',s'⟩
 ·have dz:decide (0<=z)=true:=dT (by omega);have O:Hid (Is (bd w (zv C y)) q z):=zhe HX.o V;clear hp N;unfold pv epV;go_enter func165,ntmps165;go_wp2;refine bodyPost_ret (results_cell_row rfl _ _ (F.heap.size+1+1) 127 _ (0,0) _ rfl ((new3 F _ _ _).2.2) underlying127 rfl (by kernel_rfl)) rfl ?_;exact zcW rfl O.o H.o (zd5 F _ _ _)
theorem zd7 (k:Int) (h:BA0) (F:World) (hx:Is w q z) (L:Mem C g b c S q F) (Y:z<0->1<=q.pos):
  Calls prog 131 #[pv C g b S q z d,.int .i64 k,.string h] F (Out C g b c (bd w (zae C k h)) d S F):=by
 obtain⟨i0,hi,aa,ad,ac⟩:=info_parts Tryz.infoStmt;have J:=zc L;have HX:=zc hx;have ag:q.ex.length<=300:=by have:=L.inv.ex;omega
 have ae:q.st.length<=80:=by have:=L.inv.st;omega
 clear hx;by_cases M:z<0
 ·have dz:decide (0<=z)=false:=dF (by omega);by_cases hn:80<=q.st.length
  ·have O:Hid (Is (bd w (zae C k h)) q (zz C (q.pos-1))):=zhd HX.o M (if_pos hn);have qn:decide ((80:Int)<=(q.st.length:Int))=true:=dT (by omega);have N:=Y M;clear Y L;unfold pv;go_enter func131,ntmps131;go_wp2_with fail;refine (zgh C g b c S q z d _ ((J.o.alloc _).alloc _) M N).mono ?_;rintro e w2 ⟨rfl,K⟩;have Z:Bw F w2:=zbv K;have G3:Hid (_=_):=(K.block (F.heap.size+1) (by rw[zdl];omega)).trans (new2 F _ _);obtain⟨c0,c1,c2,c3,c4,c5,c6,c7,c8,c9,ai,am,cf⟩:=zaw G3.o;clear K;unfold pv;go_wp2;refine bodyPost_ret (results_cell_row rfl _ _ (F.heap.size+1) 127 _ (0,0) _ rfl (zbp G3.o) underlying127 rfl (by kernel_rfl)) rfl ?_;exact zcW rfl O.o J.o (zcm Z (by omega) ..)
  ·have qn:decide ((80:Int)<=(q.st.length:Int))=false:=dF (by omega);have O:Hid (Is (bd w (zae C k h)) {q with st:=q.st++[⟨k,h,(q.ex.length:Int)-1⟩]} z):=zgi HX.o M (if_neg hn);have H:=fun o1 o2 o3=>(((J.o.own.st.alloc o1).alloc o2).alloc o3);clear Y L;unfold pv;go_enter func131,ntmps131;go_wp2_with (at_builtin;refine zbm _ rfl _ _ 56 rfl c 108 i0 _ 3 32 underlying56 hi aa ad ac rfl (by decide) (by decide) S.st q.st.length _ (by rfl) (H _ _ _) (F.heap.size+1+1) (smL ⟨k,h,(q.ex.length:Int)-1⟩) (by rfl) (by first|exact (zcu F ..).2.2.2|exact (new3 F _ _ _).2.2) rfl (by intro u hu;simp[smL] at hu;rcases hu with rfl|rfl|rfl<;>rfl) (by omega) (by have:=J.o.base;(first|rw[zaJ]|rw[zal]);omega) ?_);intro r' w2 hr V U;have HR:=zc hr;have HG:=zc V;have ab:=zc U;have I:=fun E hb=>zeH (W:=F) J.o.own (le_refl _) (r:=S.st.blk) (fun k e=>.inr (.inr (.inr (.inl e)))) E hb;have g1:=(V.block F.heap.size (by (first|rw[zaJ]|rw[zal]);omega) (I _ (le_refl _))).trans (by first|exact (zcu F ..).1|exact (new3 F _ _ _).1);have g2:=(V.block (F.heap.size+1) (by (first|rw[zaJ]|rw[zal]);omega) (I _ (by omega))).trans (by first|exact (zcu F ..).2.2.1|exact (new3 F _ _ _).2.1);obtain⟨a0,a1,a2,a3,a4,a5,a6,a7,a8,a9,ah,ak,af⟩:=zaw g1;obtain⟨b0,b1,b2,b3,b4,b5,b6,b7,b8,b9,al,aj,bf⟩:=zaw g2;have G2:=zc g2;clear g1 g2 V hr U I H;go_wp2;refine bodyPost_ret (results_cell_row rfl _ _ (F.heap.size+1) 127 _ (0,0) _ rfl (zbp ((zC (by omega)).trans G2.o)) underlying127 rfl (by kernel_rfl)) rfl ?_;obtain⟨m',s'⟩:=J.o.grow_st (x:=⟨k,h,(q.ex.length:Int)-1⟩) (zd5 F _ _ _) HG.o HR.o (by (first|rw[zaJ]|rw[zal]);exact ab.o) (((Off.refl _ _ _).set (b:=F.heap.size) (le_refl _) (by (first|rw[zaJ]|rw[zal]);omega) _ _).set12 (b:=F.heap.size+1) (by omega) (by (first|rw[zaJ]|rw[zal]);omega) ..) (by omega);exact⟨_,{q with st:=q.st++[⟨k,h,(q.ex.length:Int)-1⟩]},z,by simp[pv],O.o,m',s'⟩
 ·have dz:decide (0<=z)=true:=dT (by omega);have O:Hid (Is (bd w (zae C k h)) q z):=zhe HX.o M;clear Y L;unfold pv;go_enter func131,ntmps131;go_wp2;refine bodyPost_ret (results_cell_row rfl _ _ (F.heap.size+1) 127 _ (0,0) _ rfl (new2 F _ _) underlying127 rfl (by kernel_rfl)) rfl ?_;exact zcW rfl O.o J.o (zbq F _ _)
variable {w W V:World} {g b c d:Nat} {C:Rw} {D:Cx} {S:Sv} {q:PS}
theorem OwnR.drew {e:TypeId} {xs:List Value} (h:OwnR w g e b C c xs):OwnR w.drew g e b C c xs:=h
theorem zqq (x:Ex): ∀u∈exL x,u.oneCell'=true:=by
 intro u h;simp[exL] at h;rcases h with rfl|rfl|rfl|rfl|rfl|rfl<;>rfl
theorem IM.grow_ex {A:Rw} {x:Ex} (h:IM D g b c d S q w) (hW:Bw w W) (hg:W.grownBy V S.ex.blk) (hr:OwnR V c 106 6 A (q.ex.length+1) (q.ex.flatMap exL++exL x)) (s:A.blk=S.ex.blk∨A.blk=some W.heap.size) (hn:q.ex.length<300):
  IM D g b c d {S with ex:=A} {q with ex:=q.ex++[x]} (V.setCell ⟨d,8,none⟩ (.slice A.a (q.ex.length+1) A.cap))/\IS d S w {S with ex:=A} (V.setCell ⟨d,8,none⟩ (.slice A.a (q.ex.length+1) A.cap)):=by
 obtain⟨N,L⟩:=h.mem.grow_ex (x:=x) hW hg hr s (Off.refl _ _ _) hn;have I:=h.free;have U:=h.lt;have K: ¬Sv.has {S with ex:=A} d:=fun z=>(L.sub d z).elim I fun g'=>by omega
 have O: ∀k,k≠d->(V.setCell ⟨d,8,none⟩ (.slice A.a (q.ex.length+1) A.cap)).heap[k]? =V.heap[k]?:=fun k O=>Below.heap_setCell V ⟨d,8,none⟩ _ k O;have X:(V.setCell ⟨d,8,none⟩ (.slice A.a (q.ex.length+1) A.cap)).heap.size=V.heap.size:=by show (V.heap.modify _ _).size=_;simp
 have hc:=(L.block d U I).trans h.cells;refine⟨⟨⟨N.own.keep fun k z=>O k fun e=>K (by rw[<-e];exact z),N.inv,zbV N.tok (O g h.ne.symm),N.few,by rw[X];exact N.base⟩,?_,h.ge⟩,?_⟩
 ·rw[zaj hc];simp
 ·exact (show IS d S w {S with ex:=A} V from⟨L.os,L.tape,L.output,L.size,fun k h1 Z _=>L.block k h1 Z,L.sub⟩).set _ _
theorem zqr (C:Cx) (gt N base A:Nat) (S:Sv) (q:PS) (x:Ex) (w:World) (h:IM C gt N base A S q w) (hn:q.ex.length<300):
  Calls prog 269 #[.pointer (some ⟨A,0,none⟩),exV x] w fun e w'=>e= .returned (.int .i64 q.ex.length)/\∃S',IM C gt N base A S' {q with ex:=q.ex++[x]} w'/\IS A S w S' w':=by
 obtain⟨i0,hi,U,X,Z⟩:=info_parts Tryz.infoExpr;have O:=zc h;have ab:=h.lt;obtain⟨c0,c1,c2,c3,c4,c5,c6,c7,c8,c9,cf⟩:=zan h.cells;have K:=fun I H=>((O.o.mem.own.ex.alloc I).drew.alloc H);have ac:=h.mem.base;have L:some A≠S.ex.blk:=fun e=>O.o.free (.inr (.inr (.inr (.inr (.inl e.symm)))));have HN:=zc L;have Y: ∀I H,base<=((w.alloc I).alloc H).heap.size:=fun I H=>by rw[zdl];omega
 have aa: ∀I H,A<((w.alloc I).alloc H).heap.size:=fun I H=>by rw[zdl];omega
 clear h L;unfold exV;go_enter func269,ntmps269;go_wp2_with fail;refine (zeE A q.ex.length 300 _ (by omega)).mono ?_;rintro e w1 ⟨rfl,rfl⟩;go_wp2_with fail;go_region_law (first|(refine zgg rfl (.tmp 18) (.tmp 20) 57 rfl base 106 i0 _ 6 64 underlying57 hi U X Z rfl (by decide) (by decide) S.ex q.ex.length (q.ex.flatMap exL) (by rfl) (by exact K _ _) (w.heap.size+1) (exL x) (by rfl) (by exact new2 w _ _) rfl (zqq x) (by omega) (by exact Y _ _) ?_;intro r' w2 hr J M;have g2:=(J.block A (by exact aa _ _) HN.o).trans (by exact ((O.o.alloc _).alloc _).cells);obtain⟨d0,d1,d2,d3,d4,d5,d6,d7,d8,d9,df⟩:=zan g2))
 all_goals
  have HR:=zc hr;have HG:=zc J;have V:=zc M;clear hr J M g2 c0 c1 c2 c3 c4 c5 c6 c7 c8 c9 cf;go_wp2;go_ret;obtain⟨m',s'⟩:=O.o.grow_ex (zbq w _ _).drew HG.o HR.o V.o hn;exact⟨zbP (by omega),_,m',s'⟩
theorem zkO (x:Im): ∀u∈imL x,u.oneCell'=true:=by
 intro u h;simp[imL] at h;rcases h with rfl|rfl|rfl<;>rfl
theorem IM.grow_rq {A:Rw} {x:BA0} (h:IM D g b c d S q w) (hW:Bw w W) (hg:W.grownBy V S.rq.blk) (hr:OwnR V c 9 1 A (q.rq.length+1) (q.rq.map .string++[.string x])) (s:A.blk=S.rq.blk∨A.blk=some W.heap.size) (hn:q.rq.length<40):
  IM D g b c d {S with rq:=A} {q with rq:=q.rq++[x]} (V.setCell ⟨d,4,none⟩ (.slice A.a (q.rq.length+1) A.cap))/\IS d S w {S with rq:=A} (V.setCell ⟨d,4,none⟩ (.slice A.a (q.rq.length+1) A.cap)):=by
 obtain⟨N,L⟩:=h.mem.grow_rq (x:=x) hW hg hr s (Off.refl _ _ _) hn;have I:=h.free;have U:=h.lt;have K: ¬Sv.has {S with rq:=A} d:=fun z=>(L.sub d z).elim I fun g'=>by omega
 have O: ∀k,k≠d->(V.setCell ⟨d,4,none⟩ (.slice A.a (q.rq.length+1) A.cap)).heap[k]? =V.heap[k]?:=fun k O=>Below.heap_setCell V ⟨d,4,none⟩ _ k O;have X:(V.setCell ⟨d,4,none⟩ (.slice A.a (q.rq.length+1) A.cap)).heap.size=V.heap.size:=by show (V.heap.modify _ _).size=_;simp
 have hc:=(L.block d U I).trans h.cells;refine⟨⟨⟨N.own.keep fun k z=>O k fun e=>K (by rw[<-e];exact z),N.inv,zbV N.tok (O g h.ne.symm),N.few,by rw[X];exact N.base⟩,?_,h.ge⟩,?_⟩
 ·rw[zaj hc];simp
 ·exact (show IS d S w {S with rq:=A} V from⟨L.os,L.tape,L.output,L.size,fun k h1 Z _=>L.block k h1 Z,L.sub⟩).set _ _
theorem IM.grow_im {A:Rw} {x:Im} (h:IM D g b c d S q w) (hW:Bw w W) (hg:W.grownBy V S.im.blk) (hr:OwnR V c 101 3 A (q.im.length+1) (q.im.flatMap imL++imL x)) (s:A.blk=S.im.blk∨A.blk=some W.heap.size) (hn:q.im.length<40):
  IM D g b c d {S with im:=A} {q with im:=q.im++[x]} (V.setCell ⟨d,5,none⟩ (.slice A.a (q.im.length+1) A.cap))/\IS d S w {S with im:=A} (V.setCell ⟨d,5,none⟩ (.slice A.a (q.im.length+1) A.cap)):=by
 obtain⟨N,L⟩:=h.mem.grow_im (x:=x) hW hg hr s (Off.refl _ _ _) hn;have I:=h.free;have U:=h.lt;have K: ¬Sv.has {S with im:=A} d:=fun z=>(L.sub d z).elim I fun g'=>by omega
 have O: ∀k,k≠d->(V.setCell ⟨d,5,none⟩ (.slice A.a (q.im.length+1) A.cap)).heap[k]? =V.heap[k]?:=fun k O=>Below.heap_setCell V ⟨d,5,none⟩ _ k O;have X:(V.setCell ⟨d,5,none⟩ (.slice A.a (q.im.length+1) A.cap)).heap.size=V.heap.size:=by show (V.heap.modify _ _).size=_;simp
 have hc:=(L.block d U I).trans h.cells;refine⟨⟨⟨N.own.keep fun k z=>O k fun e=>K (by rw[<-e];exact z),N.inv,zbV N.tok (O g h.ne.symm),N.few,by rw[X];exact N.base⟩,?_,h.ge⟩,?_⟩
 ·rw[zaj hc];simp
 ·exact (show IS d S w {S with im:=A} V from⟨L.os,L.tape,L.output,L.size,fun k h1 Z _=>L.block k h1 Z,L.sub⟩).set _ _
theorem IM.grow_ep {A:Rw} {x:Ep} (h:IM D g b c d S q w) (hW:Bw w W) (hg:W.grownBy V S.ep.blk) (hr:OwnR V c 103 4 A (q.ep.length+1) (q.ep.flatMap epL++epL x)) (s:A.blk=S.ep.blk∨A.blk=some W.heap.size) (hn:q.ep.length+q.la.length<40):
  IM D g b c d {S with ep:=A} {q with ep:=q.ep++[x]} (V.setCell ⟨d,6,none⟩ (.slice A.a (q.ep.length+1) A.cap))/\IS d S w {S with ep:=A} (V.setCell ⟨d,6,none⟩ (.slice A.a (q.ep.length+1) A.cap)):=by
 obtain⟨N,L⟩:=h.mem.grow_ep (x:=x) hW hg hr s (Off.refl _ _ _) hn;have I:=h.free;have U:=h.lt;have K: ¬Sv.has {S with ep:=A} d:=fun z=>(L.sub d z).elim I fun g'=>by omega
 have O: ∀k,k≠d->(V.setCell ⟨d,6,none⟩ (.slice A.a (q.ep.length+1) A.cap)).heap[k]? =V.heap[k]?:=fun k O=>Below.heap_setCell V ⟨d,6,none⟩ _ k O;have X:(V.setCell ⟨d,6,none⟩ (.slice A.a (q.ep.length+1) A.cap)).heap.size=V.heap.size:=by show (V.heap.modify _ _).size=_;simp
 have hc:=(L.block d U I).trans h.cells;refine⟨⟨⟨N.own.keep fun k z=>O k fun e=>K (by rw[<-e];exact z),N.inv,zbV N.tok (O g h.ne.symm),N.few,by rw[X];exact N.base⟩,?_,h.ge⟩,?_⟩
 ·rw[zaj hc];simp
 ·exact (show IS d S w {S with ep:=A} V from⟨L.os,L.tape,L.output,L.size,fun k h1 Z _=>L.block k h1 Z,L.sub⟩).set _ _
theorem IM.grow_st {A:Rw} {x:Sm} (h:IM D g b c d S q w) (hW:Bw w W) (hg:W.grownBy V S.st.blk) (hr:OwnR V c 108 3 A (q.st.length+1) (q.st.flatMap smL++smL x)) (s:A.blk=S.st.blk∨A.blk=some W.heap.size) (hn:q.st.length<80):
  IM D g b c d {S with st:=A} {q with st:=q.st++[x]} (V.setCell ⟨d,7,none⟩ (.slice A.a (q.st.length+1) A.cap))/\IS d S w {S with st:=A} (V.setCell ⟨d,7,none⟩ (.slice A.a (q.st.length+1) A.cap)):=by
 obtain⟨N,L⟩:=h.mem.grow_st (x:=x) hW hg hr s (Off.refl _ _ _) hn;have I:=h.free;have U:=h.lt;have K: ¬Sv.has {S with st:=A} d:=fun z=>(L.sub d z).elim I fun g'=>by omega
 have O: ∀k,k≠d->(V.setCell ⟨d,7,none⟩ (.slice A.a (q.st.length+1) A.cap)).heap[k]? =V.heap[k]?:=fun k O=>Below.heap_setCell V ⟨d,7,none⟩ _ k O;have X:(V.setCell ⟨d,7,none⟩ (.slice A.a (q.st.length+1) A.cap)).heap.size=V.heap.size:=by show (V.heap.modify _ _).size=_;simp
 have hc:=(L.block d U I).trans h.cells;refine⟨⟨⟨N.own.keep fun k z=>O k fun e=>K (by rw[<-e];exact z),N.inv,zbV N.tok (O g h.ne.symm),N.few,by rw[X];exact N.base⟩,?_,h.ge⟩,?_⟩
 ·rw[zaj hc];simp
 ·exact (show IS d S w {S with st:=A} V from⟨L.os,L.tape,L.output,L.size,fun k h1 Z _=>L.block k h1 Z,L.sub⟩).set _ _
theorem IM.grow_la {A:Rw} {x:Ep} (h:IM D g b c d S q w) (hW:Bw w W) (hg:W.grownBy V S.la.blk) (hr:OwnR V c 103 4 A (q.la.length+1) (q.la.flatMap epL++epL x)) (s:A.blk=S.la.blk∨A.blk=some W.heap.size) (hn:q.ep.length+q.la.length<40):
  IM D g b c d {S with la:=A} {q with la:=q.la++[x]} (V.setCell ⟨d,9,none⟩ (.slice A.a (q.la.length+1) A.cap))/\IS d S w {S with la:=A} (V.setCell ⟨d,9,none⟩ (.slice A.a (q.la.length+1) A.cap)):=by
 obtain⟨N,L⟩:=h.mem.grow_la (x:=x) hW hg hr s (Off.refl _ _ _) hn;have I:=h.free;have U:=h.lt;have K: ¬Sv.has {S with la:=A} d:=fun z=>(L.sub d z).elim I fun g'=>by omega
 have O: ∀k,k≠d->(V.setCell ⟨d,9,none⟩ (.slice A.a (q.la.length+1) A.cap)).heap[k]? =V.heap[k]?:=fun k O=>Below.heap_setCell V ⟨d,9,none⟩ _ k O;have X:(V.setCell ⟨d,9,none⟩ (.slice A.a (q.la.length+1) A.cap)).heap.size=V.heap.size:=by show (V.heap.modify _ _).size=_;simp
 have hc:=(L.block d U I).trans h.cells;refine⟨⟨⟨N.own.keep fun k z=>O k fun e=>K (by rw[<-e];exact z),N.inv,zbV N.tok (O g h.ne.symm),N.few,by rw[X];exact N.base⟩,?_,h.ge⟩,?_⟩
 ·rw[zaj hc];simp
 ·exact (show IS d S w {S with la:=A} V from⟨L.os,L.tape,L.output,L.size,fun k h1 Z _=>L.block k h1 Z,L.sub⟩).set _ _
theorem zqs (C:Cx) (gt N base A:Nat) (S:Sv) (q:PS) (x:Im) (w:World) (h:IM C gt N base A S q w) (hn:q.im.length<40):
  Calls prog 263 #[.pointer (some ⟨A,0,none⟩),imV x] w fun e w'=>e= .returned (.tuple #[])/\∃S',IM C gt N base A S' {q with im:=q.im++[x]} w'/\IS A S w S' w':=by
 obtain⟨i0,hi,U,X,Z⟩:=info_parts Tryz.infoImp;have O:=zc h;have ab:=h.lt;obtain⟨c0,c1,c2,c3,c4,c5,c6,c7,c8,c9,cf⟩:=zan h.cells;have K:=fun I H=>((O.o.mem.own.im.alloc I).drew.alloc H);have ac:=h.mem.base;have L:some A≠S.im.blk:=fun e=>O.o.free (.inr (.inl e.symm));have HN:=zc L;have Y: ∀I H,base<=((w.alloc I).alloc H).heap.size:=fun I H=>by rw[zdl];omega
 have aa: ∀I H,A<((w.alloc I).alloc H).heap.size:=fun I H=>by rw[zdl];omega
 clear h L;unfold imV;go_enter func263,ntmps263;go_wp2_with fail;refine (zeE A q.im.length 40 _ (by omega)).mono ?_;rintro e w1 ⟨rfl,rfl⟩;go_wp2_with fail;go_region_law (first|(refine zgg rfl (.tmp 17) (.tmp 19) 54 rfl base 101 i0 _ 3 48 underlying54 hi U X Z rfl (by decide) (by decide) S.im q.im.length (q.im.flatMap imL) (by rfl) (by exact K _ _) (w.heap.size+1) (imL x) (by rfl) (by exact new2 w _ _) rfl (zkO x) (by omega) (by exact Y _ _) ?_;intro r' w2 hr J M;have g2:=(J.block A (by exact aa _ _) HN.o).trans (by exact ((O.o.alloc _).alloc _).cells);obtain⟨d0,d1,d2,d3,d4,d5,d6,d7,d8,d9,df⟩:=zan g2))
 all_goals
  have HR:=zc hr;have HG:=zc J;have V:=zc M;clear hr J M g2 c0 c1 c2 c3 c4 c5 c6 c7 c8 c9 cf;go_wp2;go_end0;obtain⟨m',s'⟩:=O.o.grow_im (zbq w _ _).drew HG.o HR.o V.o hn;exact⟨rfl,_,m',s'⟩
theorem Tryz.infoString:(prog.info? 9).map (fun i=>(i.zero,i.size,i.bytes))=some (some (.string {data:=#[]}),1,16):=by kernel_rfl
variable (C:Cx) (g b c:Nat) {w:World} {d:Nat} {W:TypeId} {S:Rw} {q:List Value} {z:List BA0} {s:BA0} {D:Cx} {p:PS}
theorem OwnR.addr {size n:Nat} (h:OwnR w d W size S n q):n=0∨∃g,S.a=some ⟨g,0,none⟩:=by
 rcases h.2 with ⟨_,I⟩|⟨g,H,A,k,_⟩
 ·exact .inl I
 ·simp only[vI] at k;exact .inr ⟨g,k.1⟩
theorem OwnR.str {g:Nat} (h:OwnR w d W 1 S z.length (z.map .string)) (A:S.a=some ⟨g,0,none⟩) {j:Nat} (q:j<z.length):w.cell? ⟨g,j,none⟩=some (.string (z.getD j sNone)):=by
 unfold OwnR at h;rw[A] at h;rw[h.cellAt j (by omega)];simp[List.getD,q]
theorem OwnR.lt {size n:Nat} {g:Nat} (h:OwnR w d W size S n q) (m:S.a=some ⟨g,0,none⟩):g<w.heap.size:=(h.typed (k:=g) (by simp[Rw.blk,m,Value.ownBlock])).2.1
theorem ztA (q:d<z.length) (h:((z.getD d sNone).toList==s.toList)=true):zbb z s=true:=by
 rw[zbb,List.any_eq_true];exact⟨z[d],List.getElem_mem q,by simpa [List.getD,q] using h⟩
theorem ztB (h: ∀j,j<z.length->((z.getD j sNone).toList==s.toList)=false):zbb z s=false:=by
 rw[Bool.eq_false_iff,zbb];intro k;rw[List.any_eq_true] at k;obtain⟨y,A,w⟩:=k;obtain⟨j,q,rfl⟩:=List.getElem_of_mem A;have:=h j q;simp only[List.getD,gE q,Option.getD_some] at this;rw[this] at w;cases w
theorem ztC {x:PR} {z:Int} (I:Is x p z) (H:(decide (z<0)&&((ze D p.pos).kind==3))=false):Is2 (bd x (zR D)) p (zbK D p.pos z) sNone:=by
 unfold zbK;by_cases h:z<0
 ·obtain⟨w,A⟩:=zaP I h;simp only[h,decide_true,Bool.true_and] at H;rw[w,zJ,zR,H,if_pos h];rfl
 ·obtain⟨e,w,A⟩:=zdY I h;rw[w,zfl,if_neg h];exact A
theorem ztD (x:PR) (S:Sv) (q:PS) (z:Int) (d:Nat) (w:World) (hx:Is x q z) (U:Mem C g b c S q w) (O:(decide (z<0)&&((ze C q.pos).kind==3))=false):
  Calls prog 162 #[pv C g b S q z d] w (zep C g b c (bd x (zR C)) d S w):=by
 have V:=zc U;have h:=U.tok;have I:=U.few;have Z:Hid (Is2 (bd x (zR C)) q (zbK C q.pos z) sNone):=ztC hx O;clear hx U;by_cases hz:z<0
 ·have Y:decide (0<=z)=false:=dF (by omega);simp only[hz,decide_true,Bool.true_and] at O;by_cases hp:q.pos<C.ts.length
  ·obtain⟨N,_,_,_⟩:=h.cells hp (d:=⟨0,sNone,0,C.fin⟩);have aa:=(za1 h).1;change _=some (Value.int .i64 (ze C q.pos).kind) at N;generalize X:ze C q.pos=t at N O;have ab:(t.kind !=3)=true:=by rw[bne,O];rfl
   clear X;unfold pv;go_enter func162,ntmps162;go_wp2_with fail;refine (zdW C g b c S q z d _ (zy (zy h _) _) I).mono ?_;rintro e w2 ⟨rfl,A⟩;have J:Hid (_=_):=(zdj A).2;obtain⟨N,c1,c2,c3,c4,c5,c6,c7,c8,c9,M,L,cf⟩:=zaw J.o;unfold pv;go_wp2;refine bodyPost_ret (zaH rfl _ _ (w.heap.size+1) 127 _ (0,0) _ rfl (zbp J.o) underlying127 rfl (by kernel_rfl)) rfl ?_;exact zeG rfl Z.o V.o (zcm (zbv A) (Nat.le_succ _) ..)
  ·unfold pv;go_enter func162,ntmps162;go_wp2_with fail;refine (zdW C g b c S q z d _ (zy (zy h _) _) I).mono ?_;rintro e w2 ⟨rfl,A⟩;have J:Hid (_=_):=(zdj A).2;obtain⟨N,c1,c2,c3,c4,c5,c6,c7,c8,c9,M,L,cf⟩:=zaw J.o;unfold pv;go_wp2;refine bodyPost_ret (zaH rfl _ _ (w.heap.size+1) 127 _ (0,0) _ rfl (zbp J.o) underlying127 rfl (by kernel_rfl)) rfl ?_;exact zeG rfl Z.o V.o (zcm (zbv A) (Nat.le_succ _) ..)
 ·have Y:decide (0<=z)=true:=dT (by omega);unfold pv;go_enter func162,ntmps162;go_wp2_with fail;refine (zdW C g b c S q z d _ (zy (zy h _) _) I).mono ?_;rintro e w2 ⟨rfl,A⟩;have J:Hid (_=_):=(zdj A).2;obtain⟨N,c1,c2,c3,c4,c5,c6,c7,c8,c9,M,L,cf⟩:=zaw J.o;unfold pv;go_wp2;refine bodyPost_ret (zaH rfl _ _ (w.heap.size+1) 127 _ (0,0) _ rfl (zbp J.o) underlying127 rfl (by kernel_rfl)) rfl ?_;exact zeG rfl Z.o V.o (zcm (zbv A) (Nat.le_succ _) ..)
def txt (C:Cx) (q:PS):BA0:=(ze C q.pos).text
theorem ztE (w:((ze D p.pos).kind==3)=true) (h:zbb p.rq (txt D p)=true):zR D p= .ok (adv p,txt D p):=by
 unfold txt at h;rw[zR,if_pos w,if_pos h];rfl
theorem ztF (A:((ze D p.pos).kind==3)=true) (h:zbb p.rq (txt D p)=false) (w:40<=p.rq.length):zR D p= .error (zz D p.pos):=by
 unfold txt at h;rw[zR,if_pos A,h,if_pos w];rfl
theorem ztG (A:((ze D p.pos).kind==3)=true) (h:zbb p.rq (txt D p)=false) (w: ¬40<=p.rq.length):zR D p= .ok ({adv p with rq:=p.rq++[txt D p]},txt D p):=by
 unfold txt at h;rw[zR,if_pos A,h,if_neg w];rfl
theorem zmm (S:Sv) (q:PS) (d:Nat) (w:World) (M:Mem C g b c S q w) (h3:((ze C q.pos).kind==3)=true) (n:Nat) (K:q.rq.length=0∨S.rq.a=some ⟨n,0,none⟩):
  Calls prog 162 #[pv C g b S q (-1) d] w (zep C g b c (zR C q) d S w):=by
 obtain⟨i0,hi,ac,ah,ag⟩:=info_parts Tryz.infoString;have h:=zc M;have H3:=zc h3;have hp:q.pos<C.ts.length:=zgO h3 (by decide);have ak:=M.few;have ap:=M.inv.rq;have aj:=(za1 M.tok).1;obtain⟨c0,c1,_,_⟩:=M.tok.cells hp (d:=⟨0,sNone,0,C.fin⟩);change _=some (Value.int .i64 (ze C q.pos).kind) at c0;change _=some (Value.string (txt C q)) at c1;generalize (ze C q.pos).kind=kd at c0 h3;have aq:(kd !=3)=false:=by rw[bne,h3];rfl
 have aa:=zc K;obtain⟨R,hR⟩: ∃R:Nat->BA0,∀j,R j=q.rq.getD j sNone:=⟨fun j=>q.rq.getD j sNone,fun _=>rfl⟩;have HR:=zc hR;have HC:Hid (∀j,j<q.rq.length->w.cell? ⟨n,j,none⟩=some (.string (R j))):=fun j O=>by
  rcases K with e|e
  ·omega
  ·rw[hR];exact h.o.own.rq.str e O
 clear hR;generalize N:txt C q=tx at c1;have A:=zc N;have I:=fun o1 o2 o3=>((h.o.own.rq.alloc o1).alloc o2).alloc o3;clear N M K;unfold pv;go_enter func162,ntmps162;go_wp2;go_loop [5] (fun i=>∃k:Nat,k<=q.rq.length/\i= .int .i64 k/\∀j,j<k->¬(R j).toList=tx.toList) (fun i=>(q.rq.length-intOf i).toNat)
 case atStart=>exact⟨0,Nat.zero_le _,rfl,fun j O=>absurd O (Nat.not_lt_zero j)⟩
 case round=>
  obtain⟨k,hk,rfl,U⟩:=hrel;have X:=zc U;clear U;by_cases V:k<q.rq.length
  ·have ha:S.rq.a=some ⟨n,0,none⟩:=aa.o.elim (fun e=>by omega) id;have am:=HC.o k V;have an:=h.o.own.rq.lt ha;cases he:((R k).toList==tx.toList) with
   |true=>
    have Y:Hid (zR C q= .ok (adv q,tx)):=by
     show zR C q= .ok (adv q,tx);rw[<-A.o];exact ztE H3.o (ztA V (by rw[<-HR.o,A.o];exact he))
    have HA:=zc ha;go_wp2;refine bodyPost_ret (zaH rfl _ _ (w.heap.size+1) 127 _ (0,0) _ rfl (new2 w _ _) underlying127 rfl (by kernel_rfl)) rfl ?_;rw[Y.o];exact zeG (q':=adv q) (z':=-1) (by rw[pv,HA.o];rfl) ⟨rfl,rfl,rfl⟩ (h.o.adv hp) (zbq w _ _)
   |false=>
    have HX:Hid (∀j,j<k+1->¬(R j).toList=tx.toList):=fun j O=>by
     by_cases e:j=k
     ·rw[e];exact beq_eq_false_iff_ne.1 he
     ·exact X.o j (by omega)
    go_wp2;go_round
    case rel=>exact⟨k+1,by omega,by go_num,HX.o⟩
    case measure=>simp[intOf];omega
  ·have HN:Hid (zbb q.rq (txt C q)=false):=ztB fun j O=>by rw[A.o,<-HR.o];exact bN0 (X.o j (by omega))
   by_cases hn:40<=q.rq.length
   ·have qn:decide ((40:Int)<=(q.rq.length:Int))=true:=dT (by omega);have Y:Hid (zR C q= .error (zz C q.pos)):=ztF H3.o HN.o hn;go_wp2_with fail;refine (zgh C g b c S (adv q) (-1) d _ (((h.o.adv hp).alloc _).alloc _) (by decide) (by simp[adv])).mono ?_;rintro e w2 ⟨rfl,L⟩;have G3:Hid (_=_):=(zdj L).2;obtain⟨b0,b1,b2,b3,b4,b5,b6,b7,b8,b9,ae,ab,bf⟩:=zaw G3.o;have HB:Hid (Bw w w2):=zbv L;clear L;unfold pv;go_wp2;refine bodyPost_ret (zaH rfl _ _ (w.heap.size+1) 127 _ (0,0) _ rfl (zbp G3.o) underlying127 rfl (by kernel_rfl)) rfl ?_;rw[Y.o];exact zeG (q':=adv q) (z':=(zz C q.pos:Int)) rfl rfl (h.o.adv hp) (zcm HB.o (Nat.le_succ _) ..)
   ·have qn:decide ((40:Int)<=(q.rq.length:Int))=false:=dF (by omega);have Y:Hid (zR C q= .ok ({adv q with rq:=q.rq++[tx]},tx)):=by
     show zR C q= .ok ({adv q with rq:=q.rq++[tx]},tx);rw[<-A.o];exact ztG H3.o HN.o hn
    go_wp2_with (at_builtin;refine zbm _ rfl _ _ 22 rfl c 9 i0 _ 1 16 underlying22 hi ac ah ag rfl (by decide) (by decide) S.rq q.rq.length _ (by rfl) (I _ _ _) (w.heap.size+1+1) [.string tx] (by rfl) (by exact (new3 w _ _ _).2.2) rfl (by intro u hu;simp at hu;subst hu;rfl) (by omega) (by have:=h.o.base;rw[zal];omega) ?_);intro r' w2 hr hg Z;have ai:=zc hr;have HG:=zc hg;have ad:=zc Z;have J:=fun m hb=>zeH (W:=w) h.o.own (Nat.le_refl _) (r:=S.rq.blk) (fun k e=>.inl e) m hb;have g1:=(hg.block w.heap.size (by rw[zal];omega) (J _ (Nat.le_refl _))).trans (new3 w _ _ _).1;have g2:=(hg.block (w.heap.size+1) (by rw[zal];omega) (J _ (by omega))).trans (new3 w _ _ _).2.1;obtain⟨a0,a1,a2,a3,a4,a5,a6,a7,a8,a9,al,ao,af⟩:=zaw g1;obtain⟨b0,b1,b2,b3,b4,b5,b6,b7,b8,b9,ae,ab,bf⟩:=zaw g2;have G2:=zc g2;clear g1 g2 hg hr Z J I;go_wp2;refine bodyPost_ret (zaH rfl _ _ (w.heap.size+1) 127 _ (0,0) _ rfl (zbp ((zC (by omega)).trans G2.o)) underlying127 rfl (by kernel_rfl)) rfl ?_;obtain⟨m',s'⟩:=(h.o.adv hp).grow_rq (x:=tx) (zd5 w _ _ _) HG.o ai.o (by rw[zal];exact ad.o) (((Off.refl _ _ _).set (b:=w.heap.size) (Nat.le_refl _) (by rw[zal];omega) _ _).set12 (b:=w.heap.size+1) (by omega) (by rw[zal];omega) ..) (by show q.rq.length<40;omega);rw[Y.o];exact⟨_,{adv q with rq:=q.rq++[tx]},-1,tx,by simp[pv,adv],⟨rfl,rfl,rfl⟩,m',s'⟩
theorem zeW (x:PR) (S:Sv) (q:PS) (z:Int) (d:Nat) (w:World) (J:Is x q z) (I:Mem C g b c S q w):
  Calls prog 162 #[pv C g b S q z d] w (zep C g b c (bd x (zR C)) d S w):=by
 cases H:(decide (z<0)&&((ze C q.pos).kind==3)) with
 |false=>exact ztD C g b c x S q z d w J I H
 |true=>
  rw[Bool.and_eq_true,decide_eq_true_eq] at H;obtain⟨rfl,rfl⟩:=zaP J H.1;rw[zJ];rcases I.own.rq.addr with e|⟨n,e⟩
  ·exact zmm C g b c S q d w I H.2 0 (.inl e)
  ·exact zmm C g b c S q d w I H.2 n (.inr e)
variable {w:Array Oper} {W:Oper} {C:Act} {V:World} {D:Cx} {g:Nat} {S:Sv} {q:PS}
theorem znv {P:Program} {d:World} {K:Act->World->Prop} {Q:Exit->Act->World->Prop} {E:Prop} (Y:W.guard=none) (s x:Operand) (t:TypeId) (ho:W.op= .call {callee:=.builtin .append,args:=#[s,x],argTypes:=#[t,t]}) (base:Nat) (e:TypeId) (i:TypeInfo) (z:Value) (size q:Nat) (ht:P.underlying t=some (.slice e)) (hi:P.info? e=some i) (hz:i.zero=some z) (H:i.size=size) (ab:i.bytes=q) (ac:z.cells.size=size) (aa:0<size) (N:q<=100) (r:Rw) (n:Nat) (xs:List Value) (hs:C.eval s= .slice r.a n r.cap) (L:OwnR d base e size r n xs) (U m c J:Nat) (b:List Value) (hx:C.eval x= .slice (some ⟨U,0,none⟩) m c) (hg:OwnR d J e size ⟨some ⟨U,0,none⟩,c⟩ m b) (h1: ∀u∈b,u.oneCell'=true) (hn:n+m<=4000000) (I:base<=d.heap.size) (h: ∀M w',OwnR w' base e size M (n+m) (xs++b)->d.grownBy w' r.blk->(M.blk=r.blk∨M.blk=some d.heap.size)->K (C.put W.dst (.slice M.a (n+m:Nat) M.cap)) w'):
  if Region.wanted W (yielded w C.tmps)=true then Oper.wp P W C d K Q else E:=by
 have hw:Region.wanted W (yielded w C.tmps)=true:=by simp[Region.wanted,Y]
 rw[if_pos hw]
 obtain⟨v',w',hr,X,h3,_,h5⟩:=run_append_own_at (P:=P) d base t W.type e i z size q ht hi hz H ab ac aa _ n xs L ⟨U,0,none⟩ m c b hg.1 (by
  intro j u hj;have e1:(⟨U,0,none⟩:Addr).add j=⟨U,j,none⟩:=by simp[Addr.add];exact fun h=>h.symm
  have Z:j<b.length:=(gS hj).1;rw[e1,World.ownsRow.cellAt hg j (by rw[<-hg.1];exact Z)]
  exact hj) h1 (by unfold maxLen;omega) (by have:(n+m)*q<=4000000*100:=Nat.mul_le_mul hn N;omega) I
 unfold Oper.wp execOp;simp only[ho,resolve,invoke,builtin,Sem.run_bind,Sem.run_pure,Result.andThen_ok,List.map_toArray,List.map_cons,List.map_nil,hs,hx,hr];rcases X.2 with ⟨hv,V⟩|⟨g',A,ae,rfl,ad⟩
 ·subst hv;have:=h ⟨none,0⟩ w' (by rw[V] at X ⊢;exact X) (by rw[<-zbI r n];exact h3) (by rw[<-zbI r n];exact h5);rw[V] at this;exact this
 ·refine h ⟨some ⟨g',0,none⟩,A⟩ w' X ?_ ?_
  ·rw[<-zbI r n];exact h3
  ·rw[<-zbI r n,<-zbI ⟨some ⟨g',0,none⟩,A⟩ (n+m)];exact h5
theorem znw {P:Program} {z:World} {K:Act->World->Prop} {Q:Exit->Act->World->Prop} {E:Prop} (A:W.guard=none) (s x:Operand) (t:TypeId) (N:W.op= .call {callee:=.builtin .append,args:=#[s,x],argTypes:=#[t,t]}) (e:TypeId) (i:TypeInfo) (I:P.underlying t=some (.slice e)) (J:P.info? e=some i) (base size n:Nat) (r:Rw) (xs:List Value) (V:C.eval s= .slice r.a n r.cap) (q:OwnR z base e size r n xs) (X:C.eval x= .slice none 0 0) (h:K (C.put W.dst (.slice r.a n r.cap)) z):if Region.wanted W (yielded w C.tmps)=true then Oper.wp P W C z K Q else E:=by
 have M:Region.wanted W (yielded w C.tmps)=true:=by simp[Region.wanted,A]
 rw[if_pos M];have O:(Builtin.append_ #[t,t] W.type #[.slice r.a n r.cap,.slice none 0 0]).run P z= .ok (.slice r.a n r.cap) z:=by
  rcases q.2 with ⟨H,_⟩|⟨g,U,L,H,_,_,Y,_⟩
  ·rw[H];simp[Builtin.append_,run_underlying I,sizeOf,typeInfo,J,Builtin.lenOf,Builtin.firstCells]
  ·rw[H];simp[Builtin.append_,run_underlying I,sizeOf,typeInfo,J,Builtin.lenOf,Builtin.firstCells,loadCells,Y,storeCells]
 unfold Oper.wp execOp;simp only[N,resolve,invoke,builtin,Sem.run_bind,Sem.run_pure,Result.andThen_ok,List.map_toArray,List.map_cons,List.map_nil,V,X,O];exact h
theorem Mem.wholeI {M base b:Nat} {w' O:World} {J:Rw} (H:Mem D g M base S q V) (X:V.grownBy w' S.ep.blk) (Z:OwnR w' base 103 4 J (q.ep.length+q.la.length) (q.ep.flatMap epL++q.la.flatMap epL)) (L:J.blk=S.ep.blk∨J.blk=some V.heap.size) (hb:b<V.heap.size) (w: ¬S.has b) (s: ∀k,k≠b->O.heap[k]? =w'.heap[k]?):OwnMod O base {S with ep:=J} q:=by
 have I:(q.ep++q.la).length=q.ep.length+q.la.length:=by simp
 have K: ∀(r:Rw) (e:TypeId) (A n:Nat) (U:List Value),OwnR V base e A r n U->e≠103->(∀k,r.blk=some k->S.has k)->OwnR O base e A r n U:=fun r e A n U h he hs=>
  h.keep fun k z=>(s k (fun N=>w (by rw[<-N];exact hs k z))).trans (X.block k (h.typed z).2.1 fun Y=>(h.ne H.own.ep he z) Y.symm)
 refine⟨K _ _ _ _ _ H.own.rq (by decide) fun k z=>.inl z,K _ _ _ _ _ H.own.im (by decide) fun k z=>.inr (.inl z),?_,K _ _ _ _ _ H.own.st (by decide) fun k z=>.inr (.inr (.inr (.inl z))),K _ _ _ _ _ H.own.ex (by decide) fun k z=>.inr (.inr (.inr (.inr (.inl z)))),H.inv.rq,H.inv.im,H.inv.ep,H.inv.st,H.inv.ex⟩;rw[I,List.flatMap_append];refine Z.keep fun k z=>s k ?_;rcases L with e|e
 ·intro N;exact w (by rw[<-N];exact .inr (.inr (.inl (by rw[<-e];exact z))))
 ·have:V.heap.size=k:=oI (e.symm.trans z);omega
theorem Mem.wholeI0 {J base b:Nat} {L:World} (A:Mem D g J base S q V) (M:q.la=[]) (H: ¬S.has b) (s: ∀k,k≠b->L.heap[k]? =V.heap[k]?):OwnMod L base S q:=by
 have I: ∀(r:Rw) (e:TypeId) (w n:Nat) (K:List Value),OwnR V base e w r n K->(∀k,r.blk=some k->S.has k)->OwnR L base e w r n K:=fun r e w n K h O=>
  h.keep fun k z=>s k (fun N=>H (by rw[<-N];exact O k z))
 refine⟨I _ _ _ _ _ A.own.rq fun k z=>.inl z,I _ _ _ _ _ A.own.im fun k z=>.inr (.inl z),?_,I _ _ _ _ _ A.own.st fun k z=>.inr (.inr (.inr (.inl z))),I _ _ _ _ _ A.own.ex fun k z=>.inr (.inr (.inr (.inr (.inl z)))),A.inv.rq,A.inv.im,A.inv.ep,A.inv.st,A.inv.ex⟩;rw[M,List.append_nil];exact I _ _ _ _ _ A.own.ep fun k z=>.inr (.inr (.inl z))
