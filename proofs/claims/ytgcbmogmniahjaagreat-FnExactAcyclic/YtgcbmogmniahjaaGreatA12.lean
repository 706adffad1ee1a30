/- Facts and walks that the theorem stands on. -/
import Derived.Deep.LoopGhost
import Derived.Test.YtgcbmogmniahjaaGreatA11
namespace Go.Proofs.YtgcbmogmniahjaaGreat
open Go.Proofs.Tryz
set_option maxRecDepth 100000
set_option maxHeartbeats 3200000
open Go.RowKit Go.PlainAid Go.Sort
def zaI (C:Cx) (s:BA):Nat->Nat->PS->PR
 |0,_,q=>.ok q
 |n+1,k,q=>bd (zd C 4 (s.extract k (k+1)) q) (zaI C s n (k+1))
theorem zh6 {C:Cx} {k:Int} {x:BA} {q:PS} (h:isT C q.pos k x=false):zd C k x q= .error (zs C q.pos):=by rw[zd,h];rfl
theorem zcg {C:Cx} {k:Int} {x:BA} {q:PS} (h:isT C q.pos k x=true):zd C k x q= .ok (adv q):=if_pos h
theorem zh7 (C:Cx) (L z base J:Nat) (S:Sv) (q:PS) (s:BA) (w:World) (h:IM C L z base J S q w) (hs:s.size<=100):
  Calls prog 220 #[.pointer (some ⟨J,0,none⟩),.string s] w (zU C L z base J (zaI C s s.size 0 q) id (fun _=>.tuple #[]) S w):=by
 go_enter func220,ntmps220;go_wp2;go_loopg [7] s.size (fun k i wr=>∃(j:Nat) (H:PS),i= .int .i64 j/\j+k=s.size/\zaI C s k j H=zaI C s s.size 0 q/\IM C L z base J S H wr/\IS J S w S wr)
 case atStart=>exact⟨0,q,rfl,by omega,rfl,h,IS.refl _ _ _⟩
 case round=>
  obtain⟨j,H,rfl,hj,he,Y,t⟩:=hrel;have M:=zc he;have HS:=zc t;clear he t
  match gk,hj,M with
  |0,hj,M=>
   have V: ¬j<s.size:=by omega
   go_wp2;go_end0;rw[<-M.o];exact⟨rfl,S,Y,HS.o⟩
  |k+1,hj,M=>
   have V:j<s.size:=by omega
   obtain⟨A,N⟩: ∃A,A=j+1:=⟨_,rfl⟩;have ej:(j:Int)+1=(A:Int):=by omega
   have ac:A<=s.size:=by omega
   have ad:j<=A:=by omega
   have X:=zc N;clear N;cases U:isT C H.pos 4 (s.extract j A) with
   |true=>
    have HX:Hid (zaI C s k A (adv H)=zaI C s s.size 0 q):=by
     show _=_;rw[<-M.o,zaI,<-X.o,zcg U];rfl
    go_wp2_with fail;refine (zO C L z base J S H 4 (s.extract j A) _ Y (by decide)).mono ?_;rintro e w1 ⟨rfl,K,O⟩;rw[U] at K ⊢;have I:=zc K;have Z:=HS.o.trans O;clear K O;go_wp2;go_roundg k
    case rel=>exact⟨A,adv H,rfl,by have:=X.o;omega,HX.o,I.o,Z⟩
    case measure=>omega
   |false=>
    have HX:Hid (zaI C s s.size 0 q= .error (zs C H.pos)):=by
     show _=_;rw[<-M.o,zaI,<-X.o,zh6 U];rfl
    go_wp2_with fail;refine (zO C L z base J S H 4 (s.extract j A) _ Y (by decide)).mono ?_;rintro e w1 ⟨rfl,K,O⟩;rw[U] at K ⊢;have I:=zc K;have HB:=(HS.o.trans O).under h.mem.base h.mem.own h.ge;clear K O;go_wp2_with fail;refine (zeI C L z base J S H _ I.o).mono ?_;rintro e w2 ⟨rfl,ab⟩;have aa:=HB.trans (ab.mono I.o.mem.base);unfold Pan;go_wp2;refine⟨rfl,?_⟩;rw[HX.o];exact⟨rfl,aa⟩
theorem zf0 {P:Program} {N:Array Oper} {o:Oper} {a:Act} {W:World} {K:Act->World->Prop} {Q:Exit->Act->World->Prop} {E:Prop} (U:o.guard=none) (s x:Operand) (t:TypeId)
  (ho:o.op= .call {callee:=.builtin .append,args:=#[s,x],argTypes:=#[t,t]})
  (base:Nat) (e:TypeId) (i:TypeInfo) (z:Value) (size q:Nat) (ht:P.underlying t=some (.slice e)) (hi:P.info? e=some i) (hz:i.zero=some z) (H:i.size=size) (X:i.bytes=q) (Y:z.cells.size=size) (V:0<size) (M:q<=100)
  (r:Rw) (n:Nat) (xs:List Value) (hs:a.eval s= .slice r.a n r.cap) (J:OwnR W base e size r n xs)
  (O:Nat) (w:List Value) (hx:a.eval x= .slice (some ⟨O,0,none⟩) 1 1) (hg:W.heap[O]? =some (.cells w.toArray e (0,0))) (hl:w.length=size) (h1: ∀u∈w,u.oneCell'=true) (hn:n+1<=4000000) (I:base<=W.heap.size)
  (h: ∀L w',OwnR w' base e size L (n+1) (xs++w)->W.grownBy w' r.blk->(L.blk=r.blk∨L.blk=some W.heap.size)->K (a.put o.dst (.slice L.a (n+1) L.cap)) w'):
  if Region.wanted o (yielded N a.tmps)=true then Oper.wp P o a W K Q else E:=by
 have hw:Region.wanted o (yielded N a.tmps)=true:=by simp[Region.wanted,U]
 rw[if_pos hw]
 obtain⟨v',w',hr,h2,h3,_,h5⟩:=run_append_own_at (P:=P) W base t o.type e i z size q ht hi hz H X Y V _ n xs J ⟨O,0,none⟩ 1 1 w (by omega) (by
  intro j u hj;have e1:(⟨O,0,none⟩:Addr).add j=⟨O,j,none⟩:=by simp[Addr.add];exact fun h=>h.symm
  rw[e1]
  simp[World.cell?,hg,hj]) h1 (by unfold maxLen;omega) (by have:(n+1)*q<=4000000*100:=Nat.mul_le_mul hn M;omega) I
 unfold Oper.wp execOp;simp only[ho,resolve,invoke,builtin,Sem.run_bind,Sem.run_pure,Result.andThen_ok,List.map_toArray,List.map_cons,List.map_nil,hs,hx,hr];rcases h2.2 with ⟨hv,ab⟩|⟨g',A,aa,rfl,Z⟩
 ·omega
 ·refine h ⟨some ⟨g',0,none⟩,A⟩ w' h2 ?_ ?_
  ·rw[<-zb5 r n];exact h3
  ·rw[<-zb5 r n,<-zb5 ⟨some ⟨g',0,none⟩,A⟩ (n+1)];exact h5
def Is (x:PR) (q:PS) (z:Int):Prop:=
 match x with
 | .ok q0=>q=q0/\z= -1
 | .error e=>z=(e:Int)
theorem zab (q:PS):Is (.ok q) q (-1):=⟨rfl,rfl⟩
theorem zaJ {x:PR} {q:PS} {z:Int} (h:Is x q z) (w:z<0):x= .ok q/\z= -1:=by
 cases x with
 |ok A=>obtain⟨rfl,rfl⟩:=h;exact⟨rfl,rfl⟩
 |error e=>have:z=(e:Int):=h;omega
theorem zd9 {x:PR} {q:PS} {z:Int} (h:Is x q z) (w: ¬z<0): ∃e,x= .error e/\z=(e:Int):=by
 cases x with
 |ok A=>obtain⟨rfl,rfl⟩:=h;exact absurd (by decide) w
 |error e=>exact⟨e,rfl,h⟩
def Out (C:Cx) (gt cap base:Nat) (y:PR) (d:Nat) (S:Sv) (w:World) (e:Ending) (w':World):Prop:=
 ∃S' q' z',e= .returned (pv C gt cap S' q' z' d)/\Hid (Is y q' z')/\Mem C gt cap base S' q' w'/\Stp S w S' w'
theorem zcF {C:Cx} {q h base:Nat} {y:PR} {d:Nat} {S:Sv} {w w':World} {q':PS} {z':Int} {v:Value} (H:v=pv C q h S q' z' d) (I:Is y q' z') (A:Mem C q h base S q' w) (z:Below w.heap.size w w'):Out C q h base y d S w (.returned v) w':=
 ⟨S,q',z',by rw[H],I,A.later z,Stp.below z⟩
theorem zf1 (C:Cx) (J h base:Nat) (S:Sv) (q:PS) (z:Int) (d:Nat) (w:World) (A:Mem C J h base S q w) (U:z<0) (O:1<=q.pos):
  Calls prog 160 #[pv C J h S q z d] w fun e w'=>e= .returned (pv C J h S q (zs C (q.pos-1)) d)/\Below w.heap.size w w':=by
 obtain⟨p,I⟩: ∃p,q.pos=p+1:=⟨q.pos-1,by omega⟩;have H:p<C.ts.length:=by have:=A.inv.pos;omega
 have L:=A.few;obtain⟨_,_,_,N⟩:=A.tok.cells H (d:=⟨0,sNone,0,C.fin⟩);have K:=(zau A.tok).1;change _=some (Value.int .i64 (zs C p)) at N;rw[show q.pos-1=p from by omega];have M:(q.pos:Int)-1=p:=by omega
 clear I;unfold pv;go_enter func160,ntmps160;go_wp2;refine bodyPost_ret (results_cell_row rfl _ _ (w.heap.size+1) 121 _ (0,0) _ rfl (new2 w _ _) underlying121 rfl (by kernel_rfl)) rfl ?_;exact⟨rfl,zbe w _ _⟩
theorem zaj (C:Cx) (M h base:Nat) (x:PR) (S:Sv) (q:PS) (z:Int) (d:Nat) (s:BA) (w:World) (hx:Is x q z) (hm:Mem C M h base S q w):
  Calls prog 118 #[pv C M h S q z d,.string s] w (Out C M h base (bd x (zd C 4 s)) d S w):=by
 have HM:=zc hm;have A:=hm.tok;have I:=hm.few;have HX:=zc hx;clear hx hm;cases H:(decide (z<0)&&isT C q.pos 4 s) with
 |true=>
  have ab:q.pos<C.ts.length:=by rw[Bool.and_eq_true] at H;exact za9 H.2 (by decide)
  have HY:Hid (Is (bd x (zd C 4 s)) (adv q) z):=by
   rw[Bool.and_eq_true,decide_eq_true_eq] at H;obtain⟨U,h2⟩:=zaJ HX.o H.1;show Is (bd x (zd C 4 s)) (adv q) z;rw[U,zA,zd,if_pos H.2];exact⟨rfl,h2⟩
  unfold pv;go_enter func118,ntmps118;go_wp2_with fail;refine (zk C M h base S q z d 4 s _ (zr (zr A _) _) I (by decide)).mono ?_;rintro e w1 ⟨rfl,J⟩;rw[H];obtain⟨Z,L⟩:=zcQ J;obtain⟨a0,a1,a2,a3,a4,a5,a6,a7,a8,a9,V,Y,af⟩:=zap Z;obtain⟨b0,b1,b2,b3,b4,b5,b6,b7,b8,b9,O,N,bf⟩:=zap L;have G2:=zc L;clear Z L H;go_wp2;refine bodyPost_ret (results_cell_row rfl _ _ (w.heap.size+1) 121 _ (0,0) _ rfl (zbd ((zv (by omega)).trans G2.o)) underlying121 rfl (by kernel_rfl)) rfl ?_;exact zcF rfl HY.o (HM.o.adv ab) (zbY ((zbj J).setCell (Nat.le_refl _) _) (Nat.le_succ _) ..)
 |false=>
  have HY:Hid (Is (bd x (zd C 4 s)) q (zb7 C q.pos z)):=by
   show Is (bd x (zd C 4 s)) q (zb7 C q.pos z);unfold zb7;by_cases X:z<0
   ·obtain⟨U,h2⟩:=zaJ HX.o X;simp only[X,decide_true,Bool.true_and] at H;rw[U,zA,zd,H,if_pos X];rfl
   ·obtain⟨e,U,h2⟩:=zd9 HX.o X;rw[U,zeA,if_neg X];exact h2
  unfold pv;go_enter func118,ntmps118;go_wp2_with fail;refine (zk C M h base S q z d 4 s _ (zr (zr A _) _) I (by decide)).mono ?_;rintro e w1 ⟨rfl,J⟩;rw[H];obtain⟨Z,L⟩:=zcQ J;obtain⟨a0,a1,a2,a3,a4,a5,a6,a7,a8,a9,V,Y,af⟩:=zap Z;obtain⟨b0,b1,b2,b3,b4,b5,b6,b7,b8,b9,O,N,bf⟩:=zap L;have G2:=zc L;have K:=zc1 A (zbj J);clear Z L H;go_wp2_with fail;refine (zd7 C M h base S q z d _ K I).mono ?_;rintro e w2 ⟨rfl,aa⟩;have G3:Hid (_=_):=(aa.block _ (Nat.lt_of_lt_of_le (by simp) J.size)).trans G2.o;obtain⟨c0,c1,c2,c3,c4,c5,c6,c7,c8,c9,ae,ad,cf⟩:=zap G3.o;have ac:=(zbj J).trans (aa.mono (zbj J).size);clear a0 a1 a2 a3 a4 a5 a6 a7 a8 a9 V Y b0 b1 b2 b3 b4 b5 b6 b7 b8 b9 O N af bf;unfold pv;go_wp2;refine bodyPost_ret (results_cell_row rfl _ _ (w.heap.size+1) 121 _ (0,0) _ rfl (zbd G3.o) underlying121 rfl (by kernel_rfl)) rfl ?_;exact zcF rfl HY.o HM.o (zbY ac (Nat.le_succ _) ..)
-- GEN
theorem zaP (C:Cx) (M h base:Nat) (x:PR) (S:Sv) (q:PS) (z:Int) (d:Nat) (s:BA) (w:World) (hx:Is x q z) (hm:Mem C M h base S q w):
  Calls prog 120 #[pv C M h S q z d,.string s] w (Out C M h base (bd x (zd C 1 s)) d S w):=by
 have HM:=zc hm;have A:=hm.tok;have I:=hm.few;have HX:=zc hx;clear hx hm;cases H:(decide (z<0)&&isT C q.pos 1 s) with
 |true=>
  have ab:q.pos<C.ts.length:=by rw[Bool.and_eq_true] at H;exact za9 H.2 (by decide)
  have HY:Hid (Is (bd x (zd C 1 s)) (adv q) z):=by
   rw[Bool.and_eq_true,decide_eq_true_eq] at H;obtain⟨U,h2⟩:=zaJ HX.o H.1;show Is (bd x (zd C 1 s)) (adv q) z;rw[U,zA,zd,if_pos H.2];exact⟨rfl,h2⟩
  unfold pv;go_enter func120,ntmps120;go_wp2_with fail;refine (zk C M h base S q z d 1 s _ (zr (zr A _) _) I (by decide)).mono ?_;rintro e w1 ⟨rfl,J⟩;rw[H];obtain⟨Z,L⟩:=zcQ J;obtain⟨a0,a1,a2,a3,a4,a5,a6,a7,a8,a9,V,Y,af⟩:=zap Z;obtain⟨b0,b1,b2,b3,b4,b5,b6,b7,b8,b9,O,N,bf⟩:=zap L;have G2:=zc L;clear Z L H;go_wp2;refine bodyPost_ret (results_cell_row rfl _ _ (w.heap.size+1) 121 _ (0,0) _ rfl (zbd ((zv (by omega)).trans G2.o)) underlying121 rfl (by kernel_rfl)) rfl ?_;exact zcF rfl HY.o (HM.o.adv ab) (zbY ((zbj J).setCell (Nat.le_refl _) _) (Nat.le_succ _) ..)
 |false=>
  have HY:Hid (Is (bd x (zd C 1 s)) q (zb7 C q.pos z)):=by
   show Is (bd x (zd C 1 s)) q (zb7 C q.pos z);unfold zb7;by_cases X:z<0
   ·obtain⟨U,h2⟩:=zaJ HX.o X;simp only[X,decide_true,Bool.true_and] at H;rw[U,zA,zd,H,if_pos X];rfl
   ·obtain⟨e,U,h2⟩:=zd9 HX.o X;rw[U,zeA,if_neg X];exact h2
  unfold pv;go_enter func120,ntmps120;go_wp2_with fail;refine (zk C M h base S q z d 1 s _ (zr (zr A _) _) I (by decide)).mono ?_;rintro e w1 ⟨rfl,J⟩;rw[H];obtain⟨Z,L⟩:=zcQ J;obtain⟨a0,a1,a2,a3,a4,a5,a6,a7,a8,a9,V,Y,af⟩:=zap Z;obtain⟨b0,b1,b2,b3,b4,b5,b6,b7,b8,b9,O,N,bf⟩:=zap L;have G2:=zc L;have K:=zc1 A (zbj J);clear Z L H;go_wp2_with fail;refine (zd7 C M h base S q z d _ K I).mono ?_;rintro e w2 ⟨rfl,aa⟩;have G3:Hid (_=_):=(aa.block _ (Nat.lt_of_lt_of_le (by simp) J.size)).trans G2.o;obtain⟨c0,c1,c2,c3,c4,c5,c6,c7,c8,c9,ae,ad,cf⟩:=zap G3.o;have ac:=(zbj J).trans (aa.mono (zbj J).size);clear a0 a1 a2 a3 a4 a5 a6 a7 a8 a9 V Y b0 b1 b2 b3 b4 b5 b6 b7 b8 b9 O N af bf;unfold pv;go_wp2;refine bodyPost_ret (results_cell_row rfl _ _ (w.heap.size+1) 121 _ (0,0) _ rfl (zbd G3.o) underlying121 rfl (by kernel_rfl)) rfl ?_;exact zcF rfl HY.o HM.o (zbY ac (Nat.le_succ _) ..)
theorem zeh (s:BA) (h:Bool) (w:World):
  Calls prog 179 #[.string s,.bool h] w fun e w'=>e= .returned (.bool (zu s h))/\w'=w:=by
 cases z:(s.toList==[105,109,112,111,114,116]) with
 |true=>
  have q:Hid (zu s h=true):=by show zu s h=true;simp[zu,z]
  go_enter func179,ntmps179;go_wp2;go_ret;exact⟨zi q.o.symm,rfl⟩
 |false=>
  cases A:(s.toList==[101,120,112,111,114,116]) with
  |true=>
   have q:Hid (zu s h=true):=by show zu s h=true;simp[zu,z,A]
   go_enter func179,ntmps179;go_wp2;go_ret;exact⟨zi q.o.symm,rfl⟩
  |false=>
   cases H:(s.toList==[100,101,102,97,117,108,116]) with
   |true=>
    have q:Hid (zu s h=true):=by show zu s h=true;simp[zu,z,A,H]
    go_enter func179,ntmps179;go_wp2;go_ret;exact⟨zi q.o.symm,rfl⟩
   |false=>
    cases I:(s.toList==[108,101,116]) with
    |true=>
     have q:Hid (zu s h=true):=by show zu s h=true;simp[zu,z,A,H,I]
     go_enter func179,ntmps179;go_wp2;go_ret;exact⟨zi q.o.symm,rfl⟩
    |false=>
     cases J:(s.toList==[102,117,110,99,116,105,111,110]) with
     |true=>
      have q:Hid (zu s h=true):=by show zu s h=true;simp[zu,z,A,H,I,J]
      go_enter func179,ntmps179;go_wp2;go_ret;exact⟨zi q.o.symm,rfl⟩
     |false=>
      cases K:(s.toList==[114,101,116,117,114,110]) with
      |true=>
       have q:Hid (zu s h=true):=by show zu s h=true;simp[zu,z,A,H,I,J,K]
       go_enter func179,ntmps179;go_wp2;go_ret;exact⟨zi q.o.symm,rfl⟩
      |false=>
       cases L:(s.toList==[112,114,105,110,116]) with
       |true=>
        have q:Hid (zu s h=true):=by show zu s h=true;simp[zu,z,A,H,I,J,K,L]
        go_enter func179,ntmps179;go_wp2;go_ret;exact⟨zi q.o.symm,rfl⟩
       |false=>
        cases M:(s.toList==[116,104,114,111,119]) with
        |true=>
         have q:Hid (zu s h=true):=by show zu s h=true;simp[zu,z,A,H,I,J,K,L,M]
         go_enter func179,ntmps179;go_wp2;go_ret;exact⟨zi q.o.symm,rfl⟩
        |false=>
         cases N:(s.toList==[102,97,105,108]) with
         |true=>
          have q:Hid (zu s h=h):=by show zu s h=h;simp[zu,z,A,H,I,J,K,L,M,N]
          go_enter func179,ntmps179;go_wp2;go_ret;exact⟨zi q.o.symm,rfl⟩
         |false=>
          cases O:(s.toList==[117,110,100,101,102]) with
          |true=>
           have q:Hid (zu s h=h):=by show zu s h=h;simp[zu,z,A,H,I,J,K,L,M,N,O]
           go_enter func179,ntmps179;go_wp2;go_ret;exact⟨zi q.o.symm,rfl⟩
          |false=>
           have q:Hid (zu s h=false):=by show zu s h=false;simp[zu,z,A,H,I,J,K,L,M,N,O]
           go_enter func179,ntmps179;go_wp2;go_ret;exact⟨zi q.o.symm,rfl⟩
theorem zoh {C:Cx} {i:Nat} {o:Bool} (h:((ze C i).kind==1)=false):zH C i o=false:=by rw[zH,h];rfl
theorem zh8 {C:Cx} {i:Nat} {o:Bool} (h: ¬i<C.ts.length):zH C i o=false:=by
 rw[Bool.eq_false_iff];exact fun g=>h (zfn g)
theorem zgn (C:Cx) (Y J base:Nat) (S:Sv) (q:PS) (z:Int) (d:Nat) (o:Bool) (w:World) (X:OwnT w base 158 Y C.ts.length J C.ts) (_:C.ts.length<=4000):
  Calls prog 155 #[pv C Y J S q z d,.bool o] w fun e w'=>e= .returned (.bool (decide (z<0)&&zH C q.pos o))/\Below w.heap.size w w':=by
 unfold pv;by_cases hz:z<0
 ·have H:decide (z<0)=true:=decide_eq_true hz;have L:decide (0<=z)=false:=decide_eq_false (by omega);by_cases N:q.pos<C.ts.length
  ·obtain⟨U,Z,_,_⟩:=X.cells N (d:=⟨0,sNone,0,C.fin⟩);have V:=(zau X).1;change _=some (Value.int .i64 (ze C q.pos).kind) at U;change _=some (Value.string (ze C q.pos).text) at Z;generalize h:ze C q.pos=t at U Z;cases I:(t.kind==1) with
   |true=>
    have M:(t.kind !=1)=false:=by rw[bne,I];rfl
    cases K:zu t.text C.scr with
    |false=>
     have A:Hid (zH C q.pos o=true):=by show zH C q.pos o=true;simp only[zH,h,I,K,Bool.not_false,Bool.true_or,Bool.and_self]
     clear h;go_enter func155,ntmps155;go_wp2_with (first|(go_at_call 179;refine (zeh _ _ _).mono ?_;rintro e w' ⟨rfl,rfl⟩));go_ret;exact⟨zi (by first|(rw[H,A.o];rfl)|rfl),(Below.refl _ _).alloc (Nat.le_refl _) _⟩
    |true=>
     cases o with
     |true=>
      cases O:(t.text.toList==[100,101,102,97,117,108,116]) with
      |true=>
       have A:Hid (zH C q.pos true=true):=by show zH C q.pos true=true;simp only[zH,h,I,K,O,Bool.not_true,Bool.and_self,Bool.false_or]
       clear h;go_enter func155,ntmps155;go_wp2_with (first|(go_at_call 179;refine (zeh _ _ _).mono ?_;rintro e w' ⟨rfl,rfl⟩));go_ret;exact⟨zi (by first|(rw[H,A.o];rfl)|rfl),(Below.refl _ _).alloc (Nat.le_refl _) _⟩
      |false=>
       have A:Hid (zH C q.pos true=false):=by show zH C q.pos true=false;simp only[zH,h,I,K,O,Bool.not_true,Bool.true_and,Bool.or_self]
       clear h;go_enter func155,ntmps155;go_wp2_with (first|(go_at_call 179;refine (zeh _ _ _).mono ?_;rintro e w' ⟨rfl,rfl⟩));go_ret;exact⟨zi (by first|(rw[H,A.o];rfl)|rfl),(Below.refl _ _).alloc (Nat.le_refl _) _⟩
     |false=>
      have A:Hid (zH C q.pos false=false):=by show zH C q.pos false=false;simp only[zH,h,I,K,Bool.not_true,Bool.false_and,Bool.or_self,Bool.and_false]
      clear h;go_enter func155,ntmps155;go_wp2_with (first|(go_at_call 179;refine (zeh _ _ _).mono ?_;rintro e w' ⟨rfl,rfl⟩));go_ret;exact⟨zi (by first|(rw[H,A.o];rfl)|rfl),(Below.refl _ _).alloc (Nat.le_refl _) _⟩
   |false=>
    have M:(t.kind !=1)=true:=by rw[bne,I];rfl
    have A:Hid (zH C q.pos o=false):=zoh (by rw[h];exact I);clear h;go_enter func155,ntmps155;go_wp2_with (first|(go_at_call 179;refine (zeh _ _ _).mono ?_;rintro e w' ⟨rfl,rfl⟩));go_ret;exact⟨zi (by first|(rw[H,A.o];rfl)|rfl),(Below.refl _ _).alloc (Nat.le_refl _) _⟩
  ·have A:Hid (zH C q.pos o=false):=zh8 N;go_enter func155,ntmps155;go_wp2_with (first|(go_at_call 179;refine (zeh _ _ _).mono ?_;rintro e w' ⟨rfl,rfl⟩));go_ret;exact⟨zi (by first|(rw[H,A.o];rfl)|rfl),(Below.refl _ _).alloc (Nat.le_refl _) _⟩
 ·have H:decide (z<0)=false:=decide_eq_false hz;have L:decide (0<=z)=true:=decide_eq_true (by omega);have A:Hid (zH C q.pos o=zH C q.pos o):=rfl;go_enter func155,ntmps155;go_wp2_with (first|(go_at_call 179;refine (zeh _ _ _).mono ?_;rintro e w' ⟨rfl,rfl⟩));go_ret;exact⟨zi (by first|(rw[H,A.o];rfl)|rfl),(Below.refl _ _).alloc (Nat.le_refl _) _⟩
def Is2 (y:Except Nat (PS×BA)) (q:PS) (z:Int) (n:BA):Prop:=
 match y with
 | .ok a=>q=a.1/\z= -1/\n=a.2
 | .error e=>z=(e:Int)
theorem Is2.fst {y:Except Nat (PS×BA)} {q:PS} {z:Int} {n:BA} (h:Is2 y q z n):Is (zaT y) q z:=by
 cases y with
 |ok a=>exact⟨h.1,h.2.1⟩
 |error e=>exact h
theorem Is2.bind {y:Except Nat (PS×BA)} {q:PS} {z:Int} {n:BA} (h:Is2 y q z n) {β:Type} (F:PS->BA->Except Nat β):bd (zaT y) (fun q=>F q n)=bd y fun a=>F a.1 a.2:=by
 cases y with
 |ok a=>obtain⟨_,_,rfl⟩:=h;rfl
 |error e=>rfl
def zdJ (C:Cx) (gt cap base:Nat) (y:Except Nat (PS×BA)) (d:Nat) (S:Sv) (w:World) (e:Ending) (w':World):Prop:=
 ∃S' q' z' n',e= .returned (.tuple #[pv C gt cap S' q' z' d,.string n'])/\Hid (Is2 y q' z' n')/\Mem C gt cap base S' q' w'/\Stp S w S' w'
theorem zei {C:Cx} {z h base:Nat} {y:Except Nat (PS×BA)} {d:Nat} {S:Sv} {w w':World} {q':PS} {z':Int} {q:BA} {v:Value} (I:v=pv C z h S q' z' d) (J:Is2 y q' z' q) (H:Mem C z h base S q' w) (A:Below w.heap.size w w'):zdJ C z h base y d S w (.returned (.tuple #[v,.string q])) w':=
 ⟨S,q',z',q,by rw[I],J,H.later A,Stp.below A⟩
theorem zbq (C:Cx) (M H base:Nat) (x:PR) (S:Sv) (q:PS) (z:Int) (d:Nat) (o:Bool) (w:World) (hx:Is x q z) (hm:Mem C M H base S q w):
  Calls prog 122 #[pv C M H S q z d,.bool o] w (zdJ C M H base (bd x (zm C o)) d S w):=by
 have HM:=zc hm;have A:=hm.tok;have J:=hm.few;have HX:=zc hx;clear hx hm;cases I:(decide (z<0)&&zH C q.pos o) with
 |true=>
  have N:q.pos<C.ts.length:=by rw[Bool.and_eq_true] at I;exact zfn I.2
  have HY:Hid (Is2 (bd x (zm C o)) (adv q) z (ze C q.pos).text):=by
   rw[Bool.and_eq_true,decide_eq_true_eq] at I;obtain⟨O,h2⟩:=zaJ HX.o I.1;show Is2 (bd x (zm C o)) (adv q) z (ze C q.pos).text;rw[O,zA,zm,if_pos I.2];exact⟨rfl,h2,rfl⟩
  unfold pv;go_enter func122,ntmps122;go_wp2_with fail;refine (zgn C M H base S q z d o _ (zr (zr A _) _) J).mono ?_;rintro e w1 ⟨rfl,K⟩;rw[I];obtain⟨Y,L⟩:=zcQ K;obtain⟨a0,a1,a2,a3,a4,a5,a6,a7,a8,a9,U,X,af⟩:=zap Y;obtain⟨b0,b1,b2,b3,b4,b5,b6,b7,b8,b9,ac,ab,bf⟩:=zap L;have h:=zc1 A (zbj K);obtain⟨_,c1,_,_⟩:=h.cells N (d:=⟨0,sNone,0,C.fin⟩);change _=some (Value.string (ze C q.pos).text) at c1;have G2:=zc L;clear Y L I;go_wp2;refine bodyPost_ret (zaA rfl _ _ (w.heap.size+1) 121 _ (0,0) _ rfl (zbd ((zv (by omega)).trans G2.o)) underlying121 rfl (by kernel_rfl)) rfl ?_;exact zei rfl HY.o (HM.o.adv N) (zbY ((zbj K).setCell (Nat.le_refl _) _) (Nat.le_succ _) ..)
 |false=>
  have HY:Hid (Is2 (bd x (zm C o)) q (zb7 C q.pos z) sNone):=by
   show Is2 (bd x (zm C o)) q (zb7 C q.pos z) sNone;unfold zb7;by_cases V:z<0
   ·obtain⟨O,h2⟩:=zaJ HX.o V;simp only[V,decide_true,Bool.true_and] at I;rw[O,zA,zm,I,if_pos V];rfl
   ·obtain⟨e,O,h2⟩:=zd9 HX.o V;rw[O,zeA,if_neg V];exact h2
  unfold pv;go_enter func122,ntmps122;go_wp2_with fail;refine (zgn C M H base S q z d o _ (zr (zr A _) _) J).mono ?_;rintro e w1 ⟨rfl,K⟩;rw[I];obtain⟨Y,L⟩:=zcQ K;obtain⟨a0,a1,a2,a3,a4,a5,a6,a7,a8,a9,U,X,af⟩:=zap Y;have G2:=zc L;have h:=zc1 A (zbj K);clear Y L I;go_wp2_with fail;refine (zd7 C M H base S q z d _ h J).mono ?_;rintro e w2 ⟨rfl,Z⟩;have G3:Hid (_=_):=(Z.block _ (Nat.lt_of_lt_of_le (by simp) K.size)).trans G2.o;obtain⟨c0,c1,c2,c3,c4,c5,c6,c7,c8,c9,ae,ad,cf⟩:=zap G3.o;have aa:=(zbj K).trans (Z.mono (zbj K).size);clear a0 a1 a2 a3 a4 a5 a6 a7 a8 a9 U X af;unfold pv;go_wp2;refine bodyPost_ret (zaA rfl _ _ (w.heap.size+1) 121 _ (0,0) _ rfl (zbd G3.o) underlying121 rfl (by kernel_rfl)) rfl ?_;exact zei rfl HY.o HM.o (zbY aa (Nat.le_succ _) ..)
theorem Tryz.infoImp:(prog.info? 95).map (fun i=>(i.zero,i.size,i.bytes))=some (some (.agg #[.string {data:=#[]},.string {data:=#[]},.string {data:=#[]}]),3,48):=by kernel_rfl
theorem Tryz.infoExp:(prog.info? 97).map (fun i=>(i.zero,i.size,i.bytes))=some (some (.agg #[.int .i64 0,.string {data:=#[]},.string {data:=#[]},.string {data:=#[]}]),4,56):=by kernel_rfl
theorem Tryz.infoStmt:(prog.info? 102).map (fun i=>(i.zero,i.size,i.bytes))=some (some (.agg #[.int .i64 0,.string {data:=#[]},.int .i64 0]),3,32):=by kernel_rfl
theorem Tryz.infoExpr:(prog.info? 100).map (fun i=>(i.zero,i.size,i.bytes))=some (some (.agg #[.int .i64 0,.int .i64 0,.string {data:=#[]},.string {data:=#[]},.int .i64 0,.int .i64 0]),6,64):=by kernel_rfl
def imV (x:Im):Value:=.agg #[.string x.spec,.string x.first,.string x.loc]
def epV (x:Ep):Value:=.agg #[.int .i64 x.kind,.string x.name,.string x.loc,.string x.spec]
def exV (x:Ex):Value:=.agg #[.int .i64 x.kind,.int .i64 x.num,.string x.name,.string x.field,.int .i64 x.l,.int .i64 x.r]
theorem zdh (w:World) (a b c:Obj):Below w.heap.size w (((w.alloc a).alloc b).alloc c):=(zbe w a b).alloc (zbe w a b).size c
theorem zgo (w:World) (a b c d:Obj):Below w.heap.size w ((((w.alloc a).alloc b).alloc c).alloc d):=(zdh w a b c).alloc (zdh w a b c).size d
theorem zcS (w:World) (a b:Obj):((w.alloc a).alloc b).heap.size=w.heap.size+1+1:=by rw[zg,zg]
theorem zae (w:World) (a b c:Obj):(((w.alloc a).alloc b).alloc c).heap.size=w.heap.size+1+1+1:=by rw[zg,zcS]
theorem zaD (w:World) (a b c d:Obj):((((w.alloc a).alloc b).alloc c).alloc d).heap.size=w.heap.size+1+1+1+1:=by rw[zg,zae]
theorem new3 (w:World) (a b c:Obj):(((w.alloc a).alloc b).alloc c).heap[w.heap.size]? =some a/\(((w.alloc a).alloc b).alloc c).heap[w.heap.size+1]? =some b/\(((w.alloc a).alloc b).alloc c).heap[w.heap.size+1+1]? =some c:=by
 refine⟨?_,?_,?_⟩
 ·rw[Below.heap_alloc _ _ _ (by rw[zcS];omega),Below.heap_alloc _ _ _ (by rw[zg];omega)];exact heap_alloc_new w a
 ·rw[Below.heap_alloc _ _ _ (by rw[zcS];omega)];exact new2 w a b
 ·rw[<-zcS w a b];exact heap_alloc_new _ c
theorem zch (w:World) (a b c d:Obj):((((w.alloc a).alloc b).alloc c).alloc d).heap[w.heap.size]? =some a/\((((w.alloc a).alloc b).alloc c).alloc d).heap[w.heap.size+1]? =some b/\((((w.alloc a).alloc b).alloc c).alloc d).heap[w.heap.size+1+1]? =some c/\((((w.alloc a).alloc b).alloc c).alloc d).heap[w.heap.size+1+1+1]? =some d:=by
 obtain⟨h,q,z⟩:=new3 w a b c;refine⟨?_,?_,?_,?_⟩
 ·rw[Below.heap_alloc _ _ _ (by rw[zae];omega)];exact h
 ·rw[Below.heap_alloc _ _ _ (by rw[zae];omega)];exact q
 ·rw[Below.heap_alloc _ _ _ (by rw[zae];omega)];exact z
 ·rw[<-zae w a b c];exact heap_alloc_new _ d
theorem zh9 {w h:World} {a b c:Obj} (q:Below (((w.alloc a).alloc b).alloc c).heap.size (((w.alloc a).alloc b).alloc c) h):Below w.heap.size w h:=(zdh w a b c).trans (q.mono (zdh w a b c).size)
theorem zgp {C:Cx} {x:PR} {q:PS} {z:Int} {f:PS->PR} (w:Is x q z) (A:z<0) (h:f q= .error (zs C (q.pos-1))):Is (bd x f) q (zs C (q.pos-1)):=by
 obtain⟨rfl,_⟩:=zaJ w A;rw[zA,h];rfl
theorem zgq {x:PR} {q:PS} {z:Int} {f:PS->PR} (w:Is x q z) (A: ¬z<0):Is (bd x f) q z:=by
 obtain⟨e,rfl,h⟩:=zd9 w A;exact h
theorem zf2 {x:PR} {q q':PS} {z:Int} {f:PS->PR} (A:Is x q z) (H:z<0) (w:f q= .ok q'):Is (bd x f) q' z:=by
 obtain⟨rfl,h⟩:=zaJ A H;rw[zA,w];exact⟨rfl,h⟩
theorem zej {w W:World} {base:Nat} {S:Sv} {q:PS} (h:Own w base S q) (_:w.heap.size<=W.heap.size) {r:Option Nat} (z: ∀k,r=some k->S.has k) (b:Nat) (A:w.heap.size<=b):some b≠r:=fun e=>by have:=(h.has (z b e.symm)).2;omega
theorem zdi (C:Cx) (V h base:Nat) (x:PR) (S:Sv) (q:PS) (z:Int) (d:Nat) (y:Ex) (w:World) (hx:Is x q z) (M:Mem C V h base S q w) (X:z<0->1<=q.pos):
  Calls prog 159 #[pv C V h S q z d,exV y] w (Out C V h base (bd x (zR C y)) d S w):=by
 obtain⟨i0,hi,Z,ac,ab⟩:=info_parts Tryz.infoExpr;have I:=zc M;have HX:=zc hx;have ad:q.ex.length<=300:=by have:=M.inv.ex;omega
 clear hx;by_cases K:z<0
 ·have dz:decide (0<=z)=false:=decide_eq_false (by omega);by_cases hn:300<=q.ex.length
  ·have N:Hid (Is (bd x (zR C y)) q (zs C (q.pos-1))):=zgp HX.o K (if_pos hn);have qn:decide ((300:Int)<=(q.ex.length:Int))=true:=decide_eq_true (by omega);have L:=X K;clear X M;unfold pv exV;go_enter func159,ntmps159;go_wp2_with fail;refine (zf1 C V h base S q z d _ (((I.o.alloc _).alloc _).alloc _) K L).mono ?_;rintro e w2 ⟨rfl,J⟩;have Y:Below w.heap.size w w2:=zh9 J;have G3:Hid (_=_):=(J.block (w.heap.size+1+1) (by rw[zae];omega)).trans ((new3 w _ _ _).2.2);obtain⟨c0,c1,c2,c3,c4,c5,c6,c7,c8,c9,ag,ak,cf⟩:=zap G3.o;clear J;unfold pv;go_wp2;refine bodyPost_ret (results_cell_row rfl _ _ (w.heap.size+1+1) 121 _ (0,0) _ rfl (zbd G3.o) underlying121 rfl (by kernel_rfl)) rfl ?_;exact zcF rfl N.o I.o (zbY Y (by omega) ..)
  ·have qn:decide ((300:Int)<=(q.ex.length:Int))=false:=decide_eq_false (by omega);have N:Hid (Is (bd x (zR C y)) {q with ex:=q.ex++[y]} z):=zf2 HX.o K (if_neg hn);have A:=fun o1 o2 o3 o4=>((((I.o.own.ex.alloc o1).alloc o2).alloc o3).alloc o4);clear X M;unfold pv exV;go_enter func159,ntmps159;go_wp2_with (at_builtin;refine zbb _ rfl _ _ 52 rfl base 100 i0 _ 6 64 underlying52 hi Z ac ab rfl (by decide) (by decide) S.ex q.ex.length _ (by rfl) (A ..) (w.heap.size+1+1+1) (exL y) (by rfl) (by first|exact (zch w ..).2.2.2|exact (new3 w _ _ _).2.2) rfl (by intro u hu;simp[exL] at hu;rcases hu with rfl|rfl|rfl|rfl|rfl|rfl<;>rfl) (by omega) (by have:=I.o.base;(first|rw[zaD]|rw[zae]);omega) ?_);intro r' w2 hr U O;have HR:=zc hr;have HG:=zc U;have aa:=zc O;have H:=fun b hb=>zej (W:=w) I.o.own (Nat.le_refl _) (r:=S.ex.blk) (fun k e=>.inr (.inr (.inr (.inr (.inl e))))) b hb;have g1:=(U.block w.heap.size (by (first|rw[zaD]|rw[zae]);omega) (H _ (Nat.le_refl _))).trans (by first|exact (zch w ..).1|exact (new3 w _ _ _).1);have g2:=(U.block (w.heap.size+1+1) (by (first|rw[zaD]|rw[zae]);omega) (H _ (by omega))).trans (by first|exact (zch w ..).2.2.1|exact (new3 w _ _ _).2.1);obtain⟨a0,a1,a2,a3,a4,a5,a6,a7,a8,a9,ae,ai,af⟩:=zap g1;obtain⟨b0,b1,b2,b3,b4,b5,b6,b7,b8,b9,aj,ah,bf⟩:=zap g2;have G2:=zc g2;clear g1 g2 U hr O H A;go_wp2;refine bodyPost_ret (results_cell_row rfl _ _ (w.heap.size+1+1) 121 _ (0,0) _ rfl (zbd ((zv (by omega)).trans G2.o)) underlying121 rfl (by kernel_rfl)) rfl ?_;obtain⟨m',s'⟩:=I.o.grow_ex (x:=y) (zgo w ..) HG.o HR.o (by (first|rw[zaD]|rw[zae]);exact aa.o) (((Off.refl _ _ _).set (b:=w.heap.size) (Nat.le_refl _) (by (first|rw[zaD]|rw[zae]);omega) _ _).set12 (b:=w.heap.size+1+1) (by omega) (by (first|rw[zaD]|rw[zae]);omega) ..) (by omega);exact⟨_,{q with ex:=q.ex++[y]},z,by simp[pv],N.o,m',s'⟩
 ·have dz:decide (0<=z)=true:=decide_eq_true (by omega);have N:Hid (Is (bd x (zR C y)) q z):=zgq HX.o K;clear X M;unfold pv exV;go_enter func159,ntmps159;go_wp2;refine bodyPost_ret (results_cell_row rfl _ _ (w.heap.size+1+1) 121 _ (0,0) _ rfl ((new3 w _ _ _).2.2) underlying121 rfl (by kernel_rfl)) rfl ?_;exact zcF rfl N.o I.o (zdh w _ _ _)
theorem zhA (C:Cx) (V h base:Nat) (x:PR) (S:Sv) (q:PS) (z:Int) (d:Nat) (y:Im) (w:World) (hx:Is x q z) (M:Mem C V h base S q w) (X:z<0->1<=q.pos):
  Calls prog 154 #[pv C V h S q z d,imV y] w (Out C V h base (bd x (zan C y)) d S w):=by
 obtain⟨i0,hi,Z,ac,ab⟩:=info_parts Tryz.infoImp;have I:=zc M;have HX:=zc hx;have ad:q.im.length<=40:=by have:=M.inv.im;omega
 clear hx;by_cases K:z<0
 ·have dz:decide (0<=z)=false:=decide_eq_false (by omega);by_cases hn:40<=q.im.length
  ·have N:Hid (Is (bd x (zan C y)) q (zs C (q.pos-1))):=zgp HX.o K (if_pos hn);have qn:decide ((40:Int)<=(q.im.length:Int))=true:=decide_eq_true (by omega);have L:=X K;clear X M;unfold pv imV;go_enter func154,ntmps154;go_wp2_with fail;refine (zf1 C V h base S q z d _ (((I.o.alloc _).alloc _).alloc _) K L).mono ?_;rintro e w2 ⟨rfl,J⟩;have Y:Below w.heap.size w w2:=zh9 J;have G3:Hid (_=_):=(J.block (w.heap.size+1+1) (by rw[zae];omega)).trans ((new3 w _ _ _).2.2);obtain⟨c0,c1,c2,c3,c4,c5,c6,c7,c8,c9,ag,ak,cf⟩:=zap G3.o;clear J;unfold pv;go_wp2;refine bodyPost_ret (results_cell_row rfl _ _ (w.heap.size+1+1) 121 _ (0,0) _ rfl (zbd G3.o) underlying121 rfl (by kernel_rfl)) rfl ?_;exact zcF rfl N.o I.o (zbY Y (by omega) ..)
  ·have qn:decide ((40:Int)<=(q.im.length:Int))=false:=decide_eq_false (by omega);have N:Hid (Is (bd x (zan C y)) {q with im:=q.im++[y]} z):=zf2 HX.o K (if_neg hn);have A:=fun o1 o2 o3 o4=>((((I.o.own.im.alloc o1).alloc o2).alloc o3).alloc o4);clear X M;unfold pv imV;go_enter func154,ntmps154;go_wp2_with (at_builtin;refine zbb _ rfl _ _ 49 rfl base 95 i0 _ 3 48 underlying49 hi Z ac ab rfl (by decide) (by decide) S.im q.im.length _ (by rfl) (A ..) (w.heap.size+1+1+1) (imL y) (by rfl) (by first|exact (zch w ..).2.2.2|exact (new3 w _ _ _).2.2) rfl (by intro u hu;simp[imL] at hu;rcases hu with rfl|rfl|rfl<;>rfl) (by omega) (by have:=I.o.base;(first|rw[zaD]|rw[zae]);omega) ?_);intro r' w2 hr U O;have HR:=zc hr;have HG:=zc U;have aa:=zc O;have H:=fun b hb=>zej (W:=w) I.o.own (Nat.le_refl _) (r:=S.im.blk) (fun k e=>.inr (.inl e)) b hb;have g1:=(U.block w.heap.size (by (first|rw[zaD]|rw[zae]);omega) (H _ (Nat.le_refl _))).trans (by first|exact (zch w ..).1|exact (new3 w _ _ _).1);have g2:=(U.block (w.heap.size+1+1) (by (first|rw[zaD]|rw[zae]);omega) (H _ (by omega))).trans (by first|exact (zch w ..).2.2.1|exact (new3 w _ _ _).2.1);obtain⟨a0,a1,a2,a3,a4,a5,a6,a7,a8,a9,ae,ai,af⟩:=zap g1;obtain⟨b0,b1,b2,b3,b4,b5,b6,b7,b8,b9,aj,ah,bf⟩:=zap g2;have G2:=zc g2;clear g1 g2 U hr O H A;go_wp2;refine bodyPost_ret (results_cell_row rfl _ _ (w.heap.size+1+1) 121 _ (0,0) _ rfl (zbd ((zv (by omega)).trans G2.o)) underlying121 rfl (by kernel_rfl)) rfl ?_;obtain⟨m',s'⟩:=I.o.grow_im (x:=y) (zgo w ..) HG.o HR.o (by (first|rw[zaD]|rw[zae]);exact aa.o) (((Off.refl _ _ _).set (b:=w.heap.size) (Nat.le_refl _) (by (first|rw[zaD]|rw[zae]);omega) _ _).set12 (b:=w.heap.size+1+1) (by omega) (by (first|rw[zaD]|rw[zae]);omega) ..) (by omega);exact⟨_,{q with im:=q.im++[y]},z,by simp[pv],N.o,m',s'⟩
 ·have dz:decide (0<=z)=true:=decide_eq_true (by omega);have N:Hid (Is (bd x (zan C y)) q z):=zgq HX.o K;clear X M;unfold pv imV;go_enter func154,ntmps154;go_wp2;refine bodyPost_ret (results_cell_row rfl _ _ (w.heap.size+1+1) 121 _ (0,0) _ rfl ((new3 w _ _ _).2.2) underlying121 rfl (by kernel_rfl)) rfl ?_;exact zcF rfl N.o I.o (zdh w _ _ _)
theorem zek (C:Cx) (gt K base:Nat) (x:PR) (S:Sv) (q:PS) (z:Int) (d:Nat) (y:Ep) (w:World) (hx:Is x q z) (N:Mem C gt K base S q w) (hp:z<0->1<=q.pos):
  Calls prog 156 #[pv C gt K S q z d,epV y] w (Out C gt K base (bd x (zq C y)) d S w):=by
 obtain⟨i0,hi,X,aa,Z⟩:=info_parts Tryz.infoExp;have H:=zc N;have HX:=zc hx;have ai:q.ep.length<=40:=by have:=N.inv.ep;omega
 have ah:q.la.length<=40:=by have:=N.inv.ep;omega
 clear hx;by_cases V:z<0
 ·have dz:decide (0<=z)=false:=decide_eq_false (by omega);by_cases hn:40<=q.ep.length+q.la.length
  ·have O:Hid (Is (bd x (zq C y)) q (zs C (q.pos-1))):=zgp HX.o V (if_pos hn);have qn:decide ((40:Int)<=(q.ep.length:Int)+(q.la.length:Int))=true:=decide_eq_true (by omega);have Y:=hp V;clear hp N;unfold pv epV;go_enter func156,ntmps156;go_wp2_with fail;refine (zf1 C gt K base S q z d _ (((H.o.alloc _).alloc _).alloc _) V Y).mono ?_;rintro e w2 ⟨rfl,M⟩;have ac:Below w.heap.size w w2:=zh9 M;have G3:Hid (_=_):=(M.block (w.heap.size+1+1) (by rw[zae];omega)).trans ((new3 w _ _ _).2.2);obtain⟨c0,c1,c2,c3,c4,c5,c6,c7,c8,c9,aj,ak,cf⟩:=zap G3.o;clear M;unfold pv;go_wp2;refine bodyPost_ret (results_cell_row rfl _ _ (w.heap.size+1+1) 121 _ (0,0) _ rfl (zbd G3.o) underlying121 rfl (by kernel_rfl)) rfl ?_;exact zcF rfl O.o H.o (zbY ac (by omega) ..)
  ·have qn:decide ((40:Int)<=(q.ep.length:Int)+(q.la.length:Int))=false:=decide_eq_false (by omega);cases hd:(y.loc.toList==[42,100,101,102,97,117,108,116]) with
   |true=>
    have O:Hid (Is (bd x (zq C y)) {q with la:=q.la++[y]} z):=zf2 HX.o V (by rw[zq,if_neg hn,if_pos hd]);have h:=fun o1 o2 o3 o4=>((((H.o.own.la.alloc o1).alloc o2).alloc o3).alloc o4);clear hp N;unfold pv epV;go_enter func156,ntmps156;go_wp2_with (at_builtin;refine zbb _ rfl _ _ 50 rfl base 97 i0 _ 4 56 underlying50 hi X aa Z rfl (by decide) (by decide) S.la q.la.length _ (by rfl) (h ..) (w.heap.size+1+1+1) (epL y) (by rfl) (by first|exact (zch w ..).2.2.2|exact (new3 w _ _ _).2.2) rfl (by intro u hu;simp[epL] at hu;rcases hu with rfl|rfl|rfl|rfl<;>rfl) (by omega) (by have:=H.o.base;(first|rw[zaD]|rw[zae]);omega) ?_);intro r' w2 hr J I;have HR:=zc hr;have HG:=zc J;have L:=zc I;have A:=fun b hb=>zej (W:=w) H.o.own (Nat.le_refl _) (r:=S.la.blk) (fun k e=>.inr (.inr (.inr (.inr (.inr e))))) b hb;have g1:=(J.block w.heap.size (by (first|rw[zaD]|rw[zae]);omega) (A _ (Nat.le_refl _))).trans (by first|exact (zch w ..).1|exact (new3 w _ _ _).1);have U:=(J.block (w.heap.size+1+1) (by (first|rw[zaD]|rw[zae]);omega) (A _ (by omega))).trans (by first|exact (zch w ..).2.2.1|exact (new3 w _ _ _).2.1);obtain⟨a0,a1,a2,a3,a4,a5,a6,a7,a8,a9,ab,ae,af⟩:=zap g1;obtain⟨b0,b1,b2,b3,b4,b5,b6,b7,b8,b9,ag,ad,bf⟩:=zap U;have G2:=zc U;clear g1 U J hr I A h;go_wp2;refine bodyPost_ret (results_cell_row rfl _ _ (w.heap.size+1+1) 121 _ (0,0) _ rfl (zbd ((zv (by omega)).trans G2.o)) underlying121 rfl (by kernel_rfl)) rfl ?_;obtain⟨m',s'⟩:=H.o.grow_la (x:=y) (zgo w ..) HG.o HR.o (by (first|rw[zaD]|rw[zae]);exact L.o) (((Off.refl _ _ _).set (b:=w.heap.size) (Nat.le_refl _) (by (first|rw[zaD]|rw[zae]);omega) _ _).set12 (b:=w.heap.size+1+1) (by omega) (by (first|rw[zaD]|rw[zae]);omega) ..) (by omega);exact⟨_,{q with la:=q.la++[y]},z,by simp[pv],O.o,m',s'⟩
   |false=>
    have O:Hid (Is (bd x (zq C y)) {q with ep:=q.ep++[y]} z):=zf2 HX.o V (by rw[zq,if_neg hn,hd];rfl);have h:=fun o1 o2 o3 o4=>((((H.o.own.ep.alloc o1).alloc o2).alloc o3).alloc o4);clear hp N;unfold pv epV;go_enter func156,ntmps156;go_wp2_with (at_builtin;refine zbb _ rfl _ _ 50 rfl base 97 i0 _ 4 56 underlying50 hi X aa Z rfl (by decide) (by decide) S.ep q.ep.length _ (by rfl) (h ..) (w.heap.size+1+1+1) (epL y) (by rfl) (by first|exact (zch w ..).2.2.2|exact (new3 w _ _ _).2.2) rfl (by intro u hu;simp[epL] at hu;rcases hu with rfl|rfl|rfl|rfl<;>rfl) (by omega) (by have:=H.o.base;(first|rw[zaD]|rw[zae]);omega) ?_);intro r' w2 hr J I;have HR:=zc hr;have HG:=zc J;have L:=zc I;have A:=fun b hb=>zej (W:=w) H.o.own (Nat.le_refl _) (r:=S.ep.blk) (fun k e=>.inr (.inr (.inl e))) b hb;have g1:=(J.block w.heap.size (by (first|rw[zaD]|rw[zae]);omega) (A _ (Nat.le_refl _))).trans (by first|exact (zch w ..).1|exact (new3 w _ _ _).1);have U:=(J.block (w.heap.size+1+1) (by (first|rw[zaD]|rw[zae]);omega) (A _ (by omega))).trans (by first|exact (zch w ..).2.2.1|exact (new3 w _ _ _).2.1);obtain⟨a0,a1,a2,a3,a4,a5,a6,a7,a8,a9,ab,ae,af⟩:=zap g1;obtain⟨b0,b1,b2,b3,b4,b5,b6,b7,b8,b9,ag,ad,bf⟩:=zap U;have G2:=zc U;clear g1 U J hr I A h;go_wp2;refine bodyPost_ret (results_cell_row rfl _ _ (w.heap.size+1+1) 121 _ (0,0) _ rfl (zbd ((zv (by omega)).trans G2.o)) underlying121 rfl (by kernel_rfl)) rfl ?_;obtain⟨m',s'⟩:=H.o.grow_ep (x:=y) (zgo w ..) HG.o HR.o (by (first|rw[zaD]|rw[zae]);exact L.o) (((Off.refl _ _ _).set (b:=w.heap.size) (Nat.le_refl _) (by (first|rw[zaD]|rw[zae]);omega) _ _).set12 (b:=w.heap.size+1+1) (by omega) (by (first|rw[zaD]|rw[zae]);omega) ..) (by omega);exact⟨_,{q with ep:=q.ep++[y]},z,by simp[pv],O.o,m',s'⟩
 ·have dz:decide (0<=z)=true:=decide_eq_true (by omega);have O:Hid (Is (bd x (zq C y)) q z):=zgq HX.o V;clear hp N;unfold pv epV;go_enter func156,ntmps156;go_wp2;refine bodyPost_ret (results_cell_row rfl _ _ (w.heap.size+1+1) 121 _ (0,0) _ rfl ((new3 w _ _ _).2.2) underlying121 rfl (by kernel_rfl)) rfl ?_;exact zcF rfl O.o H.o (zdh w _ _ _)
theorem zdj (C:Cx) (X A base:Nat) (x:PR) (S:Sv) (q:PS) (z:Int) (d:Nat) (k:Int) (h:BA) (w:World) (hx:Is x q z) (L:Mem C X A base S q w) (Y:z<0->1<=q.pos):
  Calls prog 121 #[pv C X A S q z d,.int .i64 k,.string h] w (Out C X A base (bd x (zY C k h)) d S w):=by
 obtain⟨i0,hi,aa,ad,ac⟩:=info_parts Tryz.infoStmt;have J:=zc L;have HX:=zc hx;have ag:q.ex.length<=300:=by have:=L.inv.ex;omega
 have ae:q.st.length<=80:=by have:=L.inv.st;omega
 clear hx;by_cases M:z<0
 ·have dz:decide (0<=z)=false:=decide_eq_false (by omega);by_cases hn:80<=q.st.length
  ·have O:Hid (Is (bd x (zY C k h)) q (zs C (q.pos-1))):=zgp HX.o M (if_pos hn);have qn:decide ((80:Int)<=(q.st.length:Int))=true:=decide_eq_true (by omega);have N:=Y M;clear Y L;unfold pv;go_enter func121,ntmps121;go_wp2_with fail;refine (zf1 C X A base S q z d _ ((J.o.alloc _).alloc _) M N).mono ?_;rintro e w2 ⟨rfl,K⟩;have Z:Below w.heap.size w w2:=zbj K;have G3:Hid (_=_):=(K.block (w.heap.size+1) (by rw[zcS];omega)).trans (new2 w _ _);obtain⟨c0,c1,c2,c3,c4,c5,c6,c7,c8,c9,ai,am,cf⟩:=zap G3.o;clear K;unfold pv;go_wp2;refine bodyPost_ret (results_cell_row rfl _ _ (w.heap.size+1) 121 _ (0,0) _ rfl (zbd G3.o) underlying121 rfl (by kernel_rfl)) rfl ?_;exact zcF rfl O.o J.o (zbY Z (by omega) ..)
  ·have qn:decide ((80:Int)<=(q.st.length:Int))=false:=decide_eq_false (by omega);have O:Hid (Is (bd x (zY C k h)) {q with st:=q.st++[⟨k,h,(q.ex.length:Int)-1⟩]} z):=zf2 HX.o M (if_neg hn);have H:=fun o1 o2 o3=>(((J.o.own.st.alloc o1).alloc o2).alloc o3);clear Y L;unfold pv;go_enter func121,ntmps121;go_wp2_with (at_builtin;refine zbb _ rfl _ _ 51 rfl base 102 i0 _ 3 32 underlying51 hi aa ad ac rfl (by decide) (by decide) S.st q.st.length _ (by rfl) (H _ _ _) (w.heap.size+1+1) (smL ⟨k,h,(q.ex.length:Int)-1⟩) (by rfl) (by first|exact (zch w ..).2.2.2|exact (new3 w _ _ _).2.2) rfl (by intro u hu;simp[smL] at hu;rcases hu with rfl|rfl|rfl<;>rfl) (by omega) (by have:=J.o.base;(first|rw[zaD]|rw[zae]);omega) ?_);intro r' w2 hr V U;have HR:=zc hr;have HG:=zc V;have ab:=zc U;have I:=fun b hb=>zej (W:=w) J.o.own (Nat.le_refl _) (r:=S.st.blk) (fun k e=>.inr (.inr (.inr (.inl e)))) b hb;have g1:=(V.block w.heap.size (by (first|rw[zaD]|rw[zae]);omega) (I _ (Nat.le_refl _))).trans (by first|exact (zch w ..).1|exact (new3 w _ _ _).1);have g2:=(V.block (w.heap.size+1) (by (first|rw[zaD]|rw[zae]);omega) (I _ (by omega))).trans (by first|exact (zch w ..).2.2.1|exact (new3 w _ _ _).2.1);obtain⟨a0,a1,a2,a3,a4,a5,a6,a7,a8,a9,ah,ak,af⟩:=zap g1;obtain⟨b0,b1,b2,b3,b4,b5,b6,b7,b8,b9,al,aj,bf⟩:=zap g2;have G2:=zc g2;clear g1 g2 V hr U I H;go_wp2;refine bodyPost_ret (results_cell_row rfl _ _ (w.heap.size+1) 121 _ (0,0) _ rfl (zbd ((zv (by omega)).trans G2.o)) underlying121 rfl (by kernel_rfl)) rfl ?_;obtain⟨m',s'⟩:=J.o.grow_st (x:=⟨k,h,(q.ex.length:Int)-1⟩) (zdh w _ _ _) HG.o HR.o (by (first|rw[zaD]|rw[zae]);exact ab.o) (((Off.refl _ _ _).set (b:=w.heap.size) (Nat.le_refl _) (by (first|rw[zaD]|rw[zae]);omega) _ _).set12 (b:=w.heap.size+1) (by omega) (by (first|rw[zaD]|rw[zae]);omega) ..) (by omega);exact⟨_,{q with st:=q.st++[⟨k,h,(q.ex.length:Int)-1⟩]},z,by simp[pv],O.o,m',s'⟩
 ·have dz:decide (0<=z)=true:=decide_eq_true (by omega);have O:Hid (Is (bd x (zY C k h)) q z):=zgq HX.o M;clear Y L;unfold pv;go_enter func121,ntmps121;go_wp2;refine bodyPost_ret (results_cell_row rfl _ _ (w.heap.size+1) 121 _ (0,0) _ rfl (new2 w _ _) underlying121 rfl (by kernel_rfl)) rfl ?_;exact zcF rfl O.o J.o (zbe w _ _)
theorem OwnR.drew {w:World} {base size n:Nat} {e:TypeId} {r:Rw} {xs:List Value} (h:OwnR w base e size r n xs):OwnR w.drew base e size r n xs:=h
theorem zoi (x:Ex): ∀u∈exL x,u.oneCell'=true:=by
 intro u h;simp[exL] at h;rcases h with rfl|rfl|rfl|rfl|rfl|rfl<;>rfl
theorem IM.grow_ex {C:Cx} {X L base A:Nat} {S:Sv} {q:PS} {w W I:World} {z:Rw} {x:Ex} (h:IM C X L base A S q w) (hW:Below w.heap.size w W) (Z:W.grownBy I S.ex.blk) (hr:OwnR I base 100 6 z (q.ex.length+1) (q.ex.flatMap exL++exL x)) (U:z.blk=S.ex.blk∨z.blk=some W.heap.size) (hn:q.ex.length<300):
  IM C X L base A {S with ex:=z} {q with ex:=q.ex++[x]} (I.setCell ⟨A,8,none⟩ (.slice z.a (q.ex.length+1) z.cap))/\IS A S w {S with ex:=z} (I.setCell ⟨A,8,none⟩ (.slice z.a (q.ex.length+1) z.cap)):=by
 obtain⟨M,K⟩:=h.mem.grow_ex (x:=x) hW Z hr U (Off.refl _ _ _) hn;have H:=h.free;have O:=h.lt;have J: ¬Sv.has {S with ex:=z} A:=fun g=>(K.sub A g).elim H fun g'=>by omega
 have N: ∀k,k≠A->(I.setCell ⟨A,8,none⟩ (.slice z.a (q.ex.length+1) z.cap)).heap[k]? =I.heap[k]?:=fun k N=>Below.heap_setCell I ⟨A,8,none⟩ _ k N;have V:(I.setCell ⟨A,8,none⟩ (.slice z.a (q.ex.length+1) z.cap)).heap.size=I.heap.size:=by show (I.heap.modify _ _).size=_;simp
 have hc:=(K.block A O H).trans h.cells;refine⟨⟨⟨M.own.keep fun k g=>N k fun e=>J (by rw[<-e];exact g),M.inv,zbI M.tok (N X h.ne.symm),M.few,by rw[V];exact M.base⟩,?_,h.ge⟩,?_⟩
 ·rw[zac hc];simp
 ·exact (show IS A S w {S with ex:=z} I from⟨K.os,K.tape,K.output,K.size,fun k h1 Y _=>K.block k h1 Y,K.sub⟩).set _ _
theorem zoj (C:Cx) (gt M base z:Nat) (S:Sv) (q:PS) (x:Ex) (w:World) (h:IM C gt M base z S q w) (hn:q.ex.length<300):
  Calls prog 253 #[.pointer (some ⟨z,0,none⟩),exV x] w fun e w'=>e= .returned (.int .i64 q.ex.length)/\∃S',IM C gt M base z S' {q with ex:=q.ex++[x]} w'/\IS z S w S' w':=by
 obtain⟨i0,hi,O,V,Y⟩:=info_parts Tryz.infoExpr;have N:=zc h;have aa:=h.lt;obtain⟨c0,c1,c2,c3,c4,c5,c6,c7,c8,c9,cf⟩:=zah h.cells;have J:=fun H A=>((N.o.mem.own.ex.alloc H).drew.alloc A);have ab:=h.mem.base;have K:some z≠S.ex.blk:=fun e=>N.o.free (.inr (.inr (.inr (.inr (.inl e.symm)))));have HN:=zc K;have X: ∀H A,base<=((w.alloc H).alloc A).heap.size:=fun H A=>by rw[zcS];omega
 have Z: ∀H A,z<((w.alloc H).alloc A).heap.size:=fun H A=>by rw[zcS];omega
 clear h K;unfold exV;go_enter func253,ntmps253;go_wp2_with fail;refine (zeg z q.ex.length 300 _ (by omega)).mono ?_;rintro e w1 ⟨rfl,rfl⟩;go_wp2_with fail;go_region_law (first|(refine zf0 rfl (.tmp 18) (.tmp 20) 52 rfl base 100 i0 _ 6 64 underlying52 hi O V Y rfl (by decide) (by decide) S.ex q.ex.length (q.ex.flatMap exL) (by rfl) (by exact J _ _) (w.heap.size+1) (exL x) (by rfl) (by exact new2 w _ _) rfl (zoi x) (by omega) (by exact X _ _) ?_;intro r' w2 hr I L;have g2:=(I.block z (by exact Z _ _) HN.o).trans (by exact ((N.o.alloc _).alloc _).cells);obtain⟨d0,d1,d2,d3,d4,d5,d6,d7,d8,d9,df⟩:=zah g2))
 all_goals
  have HR:=zc hr;have HG:=zc I;have U:=zc L;clear hr I L g2 c0 c1 c2 c3 c4 c5 c6 c7 c8 c9 cf;go_wp2;go_ret;obtain⟨m',s'⟩:=N.o.grow_ex (zbe w _ _).drew HG.o HR.o U.o hn;exact⟨zbC (by omega),_,m',s'⟩
theorem zjD (x:Im): ∀u∈imL x,u.oneCell'=true:=by
 intro u h;simp[imL] at h;rcases h with rfl|rfl|rfl<;>rfl
theorem IM.grow_rq {C:Cx} {X L base A:Nat} {S:Sv} {q:PS} {w W I:World} {z:Rw} {x:BA} (h:IM C X L base A S q w) (hW:Below w.heap.size w W) (Z:W.grownBy I S.rq.blk) (hr:OwnR I base 9 1 z (q.rq.length+1) (q.rq.map .string++[.string x])) (U:z.blk=S.rq.blk∨z.blk=some W.heap.size) (hn:q.rq.length<40):
  IM C X L base A {S with rq:=z} {q with rq:=q.rq++[x]} (I.setCell ⟨A,4,none⟩ (.slice z.a (q.rq.length+1) z.cap))/\IS A S w {S with rq:=z} (I.setCell ⟨A,4,none⟩ (.slice z.a (q.rq.length+1) z.cap)):=by
 obtain⟨M,K⟩:=h.mem.grow_rq (x:=x) hW Z hr U (Off.refl _ _ _) hn;have H:=h.free;have O:=h.lt;have J: ¬Sv.has {S with rq:=z} A:=fun g=>(K.sub A g).elim H fun g'=>by omega
 have N: ∀k,k≠A->(I.setCell ⟨A,4,none⟩ (.slice z.a (q.rq.length+1) z.cap)).heap[k]? =I.heap[k]?:=fun k N=>Below.heap_setCell I ⟨A,4,none⟩ _ k N;have V:(I.setCell ⟨A,4,none⟩ (.slice z.a (q.rq.length+1) z.cap)).heap.size=I.heap.size:=by show (I.heap.modify _ _).size=_;simp
 have hc:=(K.block A O H).trans h.cells;refine⟨⟨⟨M.own.keep fun k g=>N k fun e=>J (by rw[<-e];exact g),M.inv,zbI M.tok (N X h.ne.symm),M.few,by rw[V];exact M.base⟩,?_,h.ge⟩,?_⟩
 ·rw[zac hc];simp
 ·exact (show IS A S w {S with rq:=z} I from⟨K.os,K.tape,K.output,K.size,fun k h1 Y _=>K.block k h1 Y,K.sub⟩).set _ _
theorem IM.grow_im {C:Cx} {X L base A:Nat} {S:Sv} {q:PS} {w W I:World} {z:Rw} {x:Im} (h:IM C X L base A S q w) (hW:Below w.heap.size w W) (Z:W.grownBy I S.im.blk) (hr:OwnR I base 95 3 z (q.im.length+1) (q.im.flatMap imL++imL x)) (U:z.blk=S.im.blk∨z.blk=some W.heap.size) (hn:q.im.length<40):
  IM C X L base A {S with im:=z} {q with im:=q.im++[x]} (I.setCell ⟨A,5,none⟩ (.slice z.a (q.im.length+1) z.cap))/\IS A S w {S with im:=z} (I.setCell ⟨A,5,none⟩ (.slice z.a (q.im.length+1) z.cap)):=by
 obtain⟨M,K⟩:=h.mem.grow_im (x:=x) hW Z hr U (Off.refl _ _ _) hn;have H:=h.free;have O:=h.lt;have J: ¬Sv.has {S with im:=z} A:=fun g=>(K.sub A g).elim H fun g'=>by omega
 have N: ∀k,k≠A->(I.setCell ⟨A,5,none⟩ (.slice z.a (q.im.length+1) z.cap)).heap[k]? =I.heap[k]?:=fun k N=>Below.heap_setCell I ⟨A,5,none⟩ _ k N;have V:(I.setCell ⟨A,5,none⟩ (.slice z.a (q.im.length+1) z.cap)).heap.size=I.heap.size:=by show (I.heap.modify _ _).size=_;simp
 have hc:=(K.block A O H).trans h.cells;refine⟨⟨⟨M.own.keep fun k g=>N k fun e=>J (by rw[<-e];exact g),M.inv,zbI M.tok (N X h.ne.symm),M.few,by rw[V];exact M.base⟩,?_,h.ge⟩,?_⟩
 ·rw[zac hc];simp
 ·exact (show IS A S w {S with im:=z} I from⟨K.os,K.tape,K.output,K.size,fun k h1 Y _=>K.block k h1 Y,K.sub⟩).set _ _
theorem IM.grow_ep {C:Cx} {X L base A:Nat} {S:Sv} {q:PS} {w W I:World} {z:Rw} {x:Ep} (h:IM C X L base A S q w) (hW:Below w.heap.size w W) (Z:W.grownBy I S.ep.blk) (hr:OwnR I base 97 4 z (q.ep.length+1) (q.ep.flatMap epL++epL x)) (U:z.blk=S.ep.blk∨z.blk=some W.heap.size) (hn:q.ep.length+q.la.length<40):
  IM C X L base A {S with ep:=z} {q with ep:=q.ep++[x]} (I.setCell ⟨A,6,none⟩ (.slice z.a (q.ep.length+1) z.cap))/\IS A S w {S with ep:=z} (I.setCell ⟨A,6,none⟩ (.slice z.a (q.ep.length+1) z.cap)):=by
 obtain⟨M,K⟩:=h.mem.grow_ep (x:=x) hW Z hr U (Off.refl _ _ _) hn;have H:=h.free;have O:=h.lt;have J: ¬Sv.has {S with ep:=z} A:=fun g=>(K.sub A g).elim H fun g'=>by omega
 have N: ∀k,k≠A->(I.setCell ⟨A,6,none⟩ (.slice z.a (q.ep.length+1) z.cap)).heap[k]? =I.heap[k]?:=fun k N=>Below.heap_setCell I ⟨A,6,none⟩ _ k N;have V:(I.setCell ⟨A,6,none⟩ (.slice z.a (q.ep.length+1) z.cap)).heap.size=I.heap.size:=by show (I.heap.modify _ _).size=_;simp
 have hc:=(K.block A O H).trans h.cells;refine⟨⟨⟨M.own.keep fun k g=>N k fun e=>J (by rw[<-e];exact g),M.inv,zbI M.tok (N X h.ne.symm),M.few,by rw[V];exact M.base⟩,?_,h.ge⟩,?_⟩
 ·rw[zac hc];simp
 ·exact (show IS A S w {S with ep:=z} I from⟨K.os,K.tape,K.output,K.size,fun k h1 Y _=>K.block k h1 Y,K.sub⟩).set _ _
theorem IM.grow_st {C:Cx} {X L base A:Nat} {S:Sv} {q:PS} {w W I:World} {z:Rw} {x:Sm} (h:IM C X L base A S q w) (hW:Below w.heap.size w W) (Z:W.grownBy I S.st.blk) (hr:OwnR I base 102 3 z (q.st.length+1) (q.st.flatMap smL++smL x)) (U:z.blk=S.st.blk∨z.blk=some W.heap.size) (hn:q.st.length<80):
  IM C X L base A {S with st:=z} {q with st:=q.st++[x]} (I.setCell ⟨A,7,none⟩ (.slice z.a (q.st.length+1) z.cap))/\IS A S w {S with st:=z} (I.setCell ⟨A,7,none⟩ (.slice z.a (q.st.length+1) z.cap)):=by
 obtain⟨M,K⟩:=h.mem.grow_st (x:=x) hW Z hr U (Off.refl _ _ _) hn;have H:=h.free;have O:=h.lt;have J: ¬Sv.has {S with st:=z} A:=fun g=>(K.sub A g).elim H fun g'=>by omega
 have N: ∀k,k≠A->(I.setCell ⟨A,7,none⟩ (.slice z.a (q.st.length+1) z.cap)).heap[k]? =I.heap[k]?:=fun k N=>Below.heap_setCell I ⟨A,7,none⟩ _ k N;have V:(I.setCell ⟨A,7,none⟩ (.slice z.a (q.st.length+1) z.cap)).heap.size=I.heap.size:=by show (I.heap.modify _ _).size=_;simp
 have hc:=(K.block A O H).trans h.cells;refine⟨⟨⟨M.own.keep fun k g=>N k fun e=>J (by rw[<-e];exact g),M.inv,zbI M.tok (N X h.ne.symm),M.few,by rw[V];exact M.base⟩,?_,h.ge⟩,?_⟩
 ·rw[zac hc];simp
 ·exact (show IS A S w {S with st:=z} I from⟨K.os,K.tape,K.output,K.size,fun k h1 Y _=>K.block k h1 Y,K.sub⟩).set _ _
theorem IM.grow_la {C:Cx} {X L base A:Nat} {S:Sv} {q:PS} {w W I:World} {z:Rw} {x:Ep} (h:IM C X L base A S q w) (hW:Below w.heap.size w W) (Z:W.grownBy I S.la.blk) (hr:OwnR I base 97 4 z (q.la.length+1) (q.la.flatMap epL++epL x)) (U:z.blk=S.la.blk∨z.blk=some W.heap.size) (hn:q.ep.length+q.la.length<40):
  IM C X L base A {S with la:=z} {q with la:=q.la++[x]} (I.setCell ⟨A,9,none⟩ (.slice z.a (q.la.length+1) z.cap))/\IS A S w {S with la:=z} (I.setCell ⟨A,9,none⟩ (.slice z.a (q.la.length+1) z.cap)):=by
 obtain⟨M,K⟩:=h.mem.grow_la (x:=x) hW Z hr U (Off.refl _ _ _) hn;have H:=h.free;have O:=h.lt;have J: ¬Sv.has {S with la:=z} A:=fun g=>(K.sub A g).elim H fun g'=>by omega
 have N: ∀k,k≠A->(I.setCell ⟨A,9,none⟩ (.slice z.a (q.la.length+1) z.cap)).heap[k]? =I.heap[k]?:=fun k N=>Below.heap_setCell I ⟨A,9,none⟩ _ k N;have V:(I.setCell ⟨A,9,none⟩ (.slice z.a (q.la.length+1) z.cap)).heap.size=I.heap.size:=by show (I.heap.modify _ _).size=_;simp
 have hc:=(K.block A O H).trans h.cells;refine⟨⟨⟨M.own.keep fun k g=>N k fun e=>J (by rw[<-e];exact g),M.inv,zbI M.tok (N X h.ne.symm),M.few,by rw[V];exact M.base⟩,?_,h.ge⟩,?_⟩
 ·rw[zac hc];simp
 ·exact (show IS A S w {S with la:=z} I from⟨K.os,K.tape,K.output,K.size,fun k h1 Y _=>K.block k h1 Y,K.sub⟩).set _ _
theorem zok (C:Cx) (gt M base z:Nat) (S:Sv) (q:PS) (x:Im) (w:World) (h:IM C gt M base z S q w) (hn:q.im.length<40):
  Calls prog 247 #[.pointer (some ⟨z,0,none⟩),imV x] w fun e w'=>e= .returned (.tuple #[])/\∃S',IM C gt M base z S' {q with im:=q.im++[x]} w'/\IS z S w S' w':=by
 obtain⟨i0,hi,O,V,Y⟩:=info_parts Tryz.infoImp;have N:=zc h;have aa:=h.lt;obtain⟨c0,c1,c2,c3,c4,c5,c6,c7,c8,c9,cf⟩:=zah h.cells;have J:=fun H A=>((N.o.mem.own.im.alloc H).drew.alloc A);have ab:=h.mem.base;have K:some z≠S.im.blk:=fun e=>N.o.free (.inr (.inl e.symm));have HN:=zc K;have X: ∀H A,base<=((w.alloc H).alloc A).heap.size:=fun H A=>by rw[zcS];omega
 have Z: ∀H A,z<((w.alloc H).alloc A).heap.size:=fun H A=>by rw[zcS];omega
 clear h K;unfold imV;go_enter func247,ntmps247;go_wp2_with fail;refine (zeg z q.im.length 40 _ (by omega)).mono ?_;rintro e w1 ⟨rfl,rfl⟩;go_wp2_with fail;go_region_law (first|(refine zf0 rfl (.tmp 17) (.tmp 19) 49 rfl base 95 i0 _ 3 48 underlying49 hi O V Y rfl (by decide) (by decide) S.im q.im.length (q.im.flatMap imL) (by rfl) (by exact J _ _) (w.heap.size+1) (imL x) (by rfl) (by exact new2 w _ _) rfl (zjD x) (by omega) (by exact X _ _) ?_;intro r' w2 hr I L;have g2:=(I.block z (by exact Z _ _) HN.o).trans (by exact ((N.o.alloc _).alloc _).cells);obtain⟨d0,d1,d2,d3,d4,d5,d6,d7,d8,d9,df⟩:=zah g2))
 all_goals
  have HR:=zc hr;have HG:=zc I;have U:=zc L;clear hr I L g2 c0 c1 c2 c3 c4 c5 c6 c7 c8 c9 cf;go_wp2;go_end0;obtain⟨m',s'⟩:=N.o.grow_im (zbe w _ _).drew HG.o HR.o U.o hn;exact⟨rfl,_,m',s'⟩
end Go.Proofs.YtgcbmogmniahjaaGreat
