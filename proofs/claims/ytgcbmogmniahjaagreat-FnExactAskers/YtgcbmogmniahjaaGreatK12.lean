/- Facts and walks. -/
import Derived.Deep.LoopGhost
import Derived.Test.YtgcbmogmniahjaaGreatK11
namespace Go.Proofs.YtgcbmogmniahjaaGreat
open Nat (le_refl le_succ)
open Go.Proofs.Tryz
set_option maxRecDepth 100000
set_option maxHeartbeats 3200000
open Go.RowKit Go.PlainAid Go.Sort
def zaJ (C:Cx) (s:BA):Nat->Nat->PS->PR
 |0,_,q=>.ok q
 |n+1,k,q=>bd (zd C 4 (s.extract k (k+1)) q) (zaJ C s n (k+1))
variable (w:World) (W C S q:Obj) (D:Cx) (g b c d:Nat) (z:PR) (T:Sv) (p:PS) (u:Int) (n:Nat) (k:Im) (m:Ex) (t:BA) (x:Bool) (V:World) {h:Cx} {A:Int} {B:BA} {E:PS} {F G:World} {I:PR} {J K L:Nat} {N:Sv} {O:Value} {P:Bool} {Q:PS->PR} {R:Rw}
theorem zhG (U:isT h E.pos A B=false):zd h A B E= .error (zt h E.pos):=by rw[zd,U];rfl
theorem zck (U:isT h E.pos A B=true):zd h A B E= .ok (adv E):=if_pos U
theorem zhH (h:IM D g b c d T p V) (hs:t.size<=100):
  Calls prog 220 #[.pointer (some ⟨d,0,none⟩),.string t] V (zV D g b c d (zaJ D t t.size 0 p) id (fun _=>.tuple #[]) T V):=by
 go_enter func220,ntmps220;go_wp2;go_loopg [7] t.size (fun k i wr=>∃(j:Nat) (f:PS),i= .int .i64 j/\j+k=t.size/\zaJ D t k j f=zaJ D t t.size 0 p/\IM D g b c d T f wr/\IS d T V T wr)
 case atStart=>exact⟨0,p,rfl,by omega,rfl,h,IS.refl _ _ _⟩
 case round=>
  obtain⟨j,f,rfl,hj,he,o,l⟩:=hrel;have K:=zc he;have Y:=zc l;clear he l
  match gk,hj,K with
  |0,hj,K=>
   have O: ¬j<t.size:=by omega
   go_wp2;go_end0;rw[<-K.o];exact⟨rfl,T,o,Y.o⟩
  |k+1,hj,K=>
   have O:j<t.size:=by omega
   obtain⟨A,L⟩: ∃A,A=j+1:=⟨_,rfl⟩;have ej:(j:Int)+1=(A:Int):=by omega
   have ab:A<=t.size:=by omega
   have ac:j<=A:=by omega
   have U:=zc L;clear L;cases N:isT D f.pos 4 (t.extract j A) with
   |true=>
    have HX:Hid (zaJ D t k A (adv f)=zaJ D t t.size 0 p):=by
     show _=_;rw[<-K.o,zaJ,<-U.o,zck N];rfl
    go_wp2_with fail;refine (zP D g b c d T f 4 (t.extract j A) _ o (by decide)).mono ?_;rintro e w1 ⟨rfl,I,M⟩;rw[N] at I ⊢;have E:=zc I;have X:=Y.o.trans M;clear I M;go_wp2;go_roundg k
    case rel=>exact⟨A,adv f,rfl,by have:=U.o;omega,HX.o,E.o,X⟩
    case measure=>omega
   |false=>
    have HX:Hid (zaJ D t t.size 0 p= .error (zt D f.pos)):=by
     show _=_;rw[<-K.o,zaJ,<-U.o,zhG N];rfl
    go_wp2_with fail;refine (zP D g b c d T f 4 (t.extract j A) _ o (by decide)).mono ?_;rintro e w1 ⟨rfl,I,M⟩;rw[N] at I ⊢;have E:=zc I;have HB:=(Y.o.trans M).under h.mem.base h.mem.own h.ge;clear I M;go_wp2_with fail;refine (zeS D g b c d T f _ E.o).mono ?_;rintro e w2 ⟨rfl,aa⟩;have Z:=HB.trans (aa.mono E.o.mem.base);unfold Pan;go_wp2;refine⟨rfl,?_⟩;rw[HX.o];exact⟨rfl,Z⟩
theorem zfA {P:Program} {N:Array Oper} {o:Oper} {a:Act} {K:Act->World->Prop} {Q:Exit->Act->World->Prop} {E:Prop} (U:o.guard=none) (s x:Operand) (t:TypeId) (ho:o.op= .call {callee:=.builtin .append,args:=#[s,x],argTypes:=#[t,t]}) (base:Nat) (e:TypeId) (i:TypeInfo) (z:Value) (size q:Nat) (ht:P.underlying t=some (.slice e)) (hi:P.info? e=some i) (hz:i.zero=some z) (D:i.size=size) (X:i.bytes=q) (Y:z.cells.size=size) (V:0<size) (M:q<=100) (r:Rw) (n:Nat) (xs:List Value) (hs:a.eval s= .slice r.a n r.cap) (I:OwnR F base e size r n xs) (O:Nat) (w:List Value) (hx:a.eval x= .slice (some ⟨O,0,none⟩) 1 1) (hg:F.heap[O]? =some (.cells w.toArray e (0,0))) (hl:w.length=size) (h1: ∀u∈w,u.oneCell'=true) (hn:n+1<=4000000) (H:base<=F.heap.size) (h: ∀J L,OwnR L base e size J (n+1) (xs++w)->F.grownBy L r.blk->(J.blk=r.blk∨J.blk=some F.heap.size)->K (a.put o.dst (.slice J.a (n+1) J.cap)) L):
  if Region.wanted o (yielded N a.tmps)=true then Oper.wp P o a F K Q else E:=by
 have hw:Region.wanted o (yielded N a.tmps)=true:=by simp[Region.wanted,U]
 rw[if_pos hw]
 obtain⟨v',L,hr,h2,h3,_,h5⟩:=run_append_own_at (P:=P) F base t o.type e i z size q ht hi hz D X Y V _ n xs I ⟨O,0,none⟩ 1 1 w (by omega) (by
  intro j u hj;have e1:(⟨O,0,none⟩:Addr).add j=⟨O,j,none⟩:=by simp[Addr.add];exact fun h=>h.symm
  rw[e1]
  simp[World.cell?,hg,hj]) h1 (by unfold maxLen;omega) (by have:(n+1)*q<=4000000*100:=Nat.mul_le_mul hn M;omega) H
 unfold Oper.wp execOp;simp only[ho,resolve,invoke,builtin,Sem.run_bind,Sem.run_pure,Result.andThen_ok,List.map_toArray,List.map_cons,List.map_nil,hs,hx,hr];rcases h2.2 with ⟨hv,ab⟩|⟨g',A,aa,rfl,Z⟩
 ·omega
 ·refine h ⟨some ⟨g',0,none⟩,A⟩ L h2 ?_ ?_
  ·rw[<-zb9 r n];exact h3
  ·rw[<-zb9 r n,<-zb9 ⟨some ⟨g',0,none⟩,A⟩ (n+1)];exact h5
def Is (x:PR) (q:PS) (z:Int):Prop:=
 match x with
 | .ok q0=>q=q0/\z= -1
 | .error e=>z=(e:Int)
theorem zad:Is (.ok p) p (-1):=⟨rfl,rfl⟩
theorem zaK (h:Is I E A) (w:A<0):I= .ok E/\A= -1:=by
 cases I with
 |ok U=>obtain⟨rfl,rfl⟩:=h;exact⟨rfl,rfl⟩
 |error e=>have:A=(e:Int):=h;omega
theorem zdG (h:Is I E A) (w: ¬A<0): ∃e,I= .error e/\A=(e:Int):=by
 cases I with
 |ok U=>obtain⟨rfl,rfl⟩:=h;exact absurd (by decide) w
 |error e=>exact⟨e,rfl,h⟩
def Out (C:Cx) (gt cap base:Nat) (y:PR) (d:Nat) (S:Sv) (w:World) (e:Ending) (w':World):Prop:=
 ∃S' q' z',e= .returned (pv C gt cap S' q' z' d)/\Hid (Is y q' z')/\Mem C gt cap base S' q' w'/\Stp S w S' w'
theorem zcI {U:Nat} (X:O=pv h J U N E A L) (H:Is I E A) (D:Mem h J U K N E F) (Y:Bw F G):Out h J U K I L N F (.returned O) G:=
 ⟨N,E,A,by rw[X],H,D.later Y,Stp.below Y⟩
theorem zfB (A:Mem D g b c T p V) (O:u<0) (N:1<=p.pos):
  Calls prog 160 #[pv D g b T p u n] V fun e K=>e= .returned (pv D g b T p (zt D (p.pos-1)) n)/\Bw V K:=by
 obtain⟨X,E⟩: ∃X,p.pos=X+1:=⟨p.pos-1,by omega⟩;have U:X<D.ts.length:=by have:=A.inv.pos;omega
 have J:=A.few;obtain⟨_,_,_,M⟩:=A.tok.cells U (d:=⟨0,sNone,0,D.fin⟩);have I:=(zaw A.tok).1;change _=some (Value.int .i64 (zt D X)) at M;rw[show p.pos-1=X from by omega];have L:(p.pos:Int)-1=X:=by omega
 clear E;unfold pv;go_enter func160,ntmps160;go_wp2;refine bodyPost_ret (results_cell_row rfl _ _ (V.heap.size+1) 121 _ (0,0) _ rfl (new2 V _ _) underlying121 rfl (by kernel_rfl)) rfl ?_;exact⟨rfl,zbg V _ _⟩
theorem zal (i:Int) (d:Nat) (s:BA) (w:World) (hx:Is z p i) (hm:Mem D g b c T p w):
  Calls prog 118 #[pv D g b T p i d,.string s] w (Out D g b c (bd z (zd D 4 s)) d T w):=by
 have HM:=zc hm;have A:=hm.tok;have E:=hm.few;have HX:=zc hx;clear hx hm;cases f:(decide (i<0)&&isT D p.pos 4 s) with
 |true=>
  have aa:p.pos<D.ts.length:=by rw[Bool.and_eq_true] at f;exact zaB f.2 (by decide)
  have HY:Hid (Is (bd z (zd D 4 s)) (adv p) i):=by
   rw[Bool.and_eq_true,decide_eq_true_eq] at f;obtain⟨N,Z⟩:=zaK HX.o f.1;show Is (bd z (zd D 4 s)) (adv p) i;rw[N,zB,zd,if_pos f.2];exact⟨rfl,Z⟩
  unfold pv;go_enter func118,ntmps118;go_wp2_with fail;refine (zk D g b c T p i d 4 s _ (zr (zr A _) _) E (by decide)).mono ?_;rintro e w1 ⟨rfl,H⟩;rw[f];obtain⟨X,J⟩:=zcV H;obtain⟨a0,a1,a2,a3,a4,a5,a6,a7,a8,a9,O,V,af⟩:=zar X;obtain⟨b0,b1,b2,b3,b4,b5,b6,b7,b8,b9,M,L,bf⟩:=zar J;have G2:=zc J;clear X J f;go_wp2;refine bodyPost_ret (results_cell_row rfl _ _ (w.heap.size+1) 121 _ (0,0) _ rfl (zbf ((zx (by omega)).trans G2.o)) underlying121 rfl (by kernel_rfl)) rfl ?_;exact zcI rfl HY.o (HM.o.adv aa) (zce ((zbm H).setCell (le_refl _) _) (le_succ _) ..)
 |false=>
  have HY:Hid (Is (bd z (zd D 4 s)) p (zbB D p.pos i)):=by
   show Is (bd z (zd D 4 s)) p (zbB D p.pos i);unfold zbB;by_cases U:i<0
   ·obtain⟨N,Z⟩:=zaK HX.o U;simp only[U,decide_true,Bool.true_and] at f;rw[N,zB,zd,f,if_pos U];rfl
   ·obtain⟨e,N,Z⟩:=zdG HX.o U;rw[N,zeK,if_neg U];exact Z
  unfold pv;go_enter func118,ntmps118;go_wp2_with fail;refine (zk D g b c T p i d 4 s _ (zr (zr A _) _) E (by decide)).mono ?_;rintro e w1 ⟨rfl,H⟩;rw[f];obtain⟨X,J⟩:=zcV H;obtain⟨a0,a1,a2,a3,a4,a5,a6,a7,a8,a9,O,V,af⟩:=zar X;obtain⟨b0,b1,b2,b3,b4,b5,b6,b7,b8,b9,M,L,bf⟩:=zar J;have G2:=zc J;have I:=zc3 A (zbm H);clear X J f;go_wp2_with fail;refine (zdE D g b c T p i d _ I E).mono ?_;rintro e w2 ⟨rfl,Y⟩;have G3:Hid (_=_):=(Y.block _ (Nat.lt_of_lt_of_le (by simp) H.size)).trans G2.o;obtain⟨c0,c1,c2,c3,c4,c5,c6,c7,c8,c9,ad,ac,cf⟩:=zar G3.o;have ab:=(zbm H).trans (Y.mono (zbm H).size);clear a0 a1 a2 a3 a4 a5 a6 a7 a8 a9 O V b0 b1 b2 b3 b4 b5 b6 b7 b8 b9 M L af bf;unfold pv;go_wp2;refine bodyPost_ret (results_cell_row rfl _ _ (w.heap.size+1) 121 _ (0,0) _ rfl (zbf G3.o) underlying121 rfl (by kernel_rfl)) rfl ?_;exact zcI rfl HY.o HM.o (zce ab (le_succ _) ..)
-- GEN
theorem zaQ (i:Int) (d:Nat) (s:BA) (w:World) (hx:Is z p i) (hm:Mem D g b c T p w):
  Calls prog 120 #[pv D g b T p i d,.string s] w (Out D g b c (bd z (zd D 1 s)) d T w):=by
 have HM:=zc hm;have A:=hm.tok;have E:=hm.few;have HX:=zc hx;clear hx hm;cases f:(decide (i<0)&&isT D p.pos 1 s) with
 |true=>
  have aa:p.pos<D.ts.length:=by rw[Bool.and_eq_true] at f;exact zaB f.2 (by decide)
  have HY:Hid (Is (bd z (zd D 1 s)) (adv p) i):=by
   rw[Bool.and_eq_true,decide_eq_true_eq] at f;obtain⟨N,Z⟩:=zaK HX.o f.1;show Is (bd z (zd D 1 s)) (adv p) i;rw[N,zB,zd,if_pos f.2];exact⟨rfl,Z⟩
  unfold pv;go_enter func120,ntmps120;go_wp2_with fail;refine (zk D g b c T p i d 1 s _ (zr (zr A _) _) E (by decide)).mono ?_;rintro e w1 ⟨rfl,H⟩;rw[f];obtain⟨X,J⟩:=zcV H;obtain⟨a0,a1,a2,a3,a4,a5,a6,a7,a8,a9,O,V,af⟩:=zar X;obtain⟨b0,b1,b2,b3,b4,b5,b6,b7,b8,b9,M,L,bf⟩:=zar J;have G2:=zc J;clear X J f;go_wp2;refine bodyPost_ret (results_cell_row rfl _ _ (w.heap.size+1) 121 _ (0,0) _ rfl (zbf ((zx (by omega)).trans G2.o)) underlying121 rfl (by kernel_rfl)) rfl ?_;exact zcI rfl HY.o (HM.o.adv aa) (zce ((zbm H).setCell (le_refl _) _) (le_succ _) ..)
 |false=>
  have HY:Hid (Is (bd z (zd D 1 s)) p (zbB D p.pos i)):=by
   show Is (bd z (zd D 1 s)) p (zbB D p.pos i);unfold zbB;by_cases U:i<0
   ·obtain⟨N,Z⟩:=zaK HX.o U;simp only[U,decide_true,Bool.true_and] at f;rw[N,zB,zd,f,if_pos U];rfl
   ·obtain⟨e,N,Z⟩:=zdG HX.o U;rw[N,zeK,if_neg U];exact Z
  unfold pv;go_enter func120,ntmps120;go_wp2_with fail;refine (zk D g b c T p i d 1 s _ (zr (zr A _) _) E (by decide)).mono ?_;rintro e w1 ⟨rfl,H⟩;rw[f];obtain⟨X,J⟩:=zcV H;obtain⟨a0,a1,a2,a3,a4,a5,a6,a7,a8,a9,O,V,af⟩:=zar X;obtain⟨b0,b1,b2,b3,b4,b5,b6,b7,b8,b9,M,L,bf⟩:=zar J;have G2:=zc J;have I:=zc3 A (zbm H);clear X J f;go_wp2_with fail;refine (zdE D g b c T p i d _ I E).mono ?_;rintro e w2 ⟨rfl,Y⟩;have G3:Hid (_=_):=(Y.block _ (Nat.lt_of_lt_of_le (by simp) H.size)).trans G2.o;obtain⟨c0,c1,c2,c3,c4,c5,c6,c7,c8,c9,ad,ac,cf⟩:=zar G3.o;have ab:=(zbm H).trans (Y.mono (zbm H).size);clear a0 a1 a2 a3 a4 a5 a6 a7 a8 a9 O V b0 b1 b2 b3 b4 b5 b6 b7 b8 b9 M L af bf;unfold pv;go_wp2;refine bodyPost_ret (results_cell_row rfl _ _ (w.heap.size+1) 121 _ (0,0) _ rfl (zbf G3.o) underlying121 rfl (by kernel_rfl)) rfl ?_;exact zcI rfl HY.o HM.o (zce ab (le_succ _) ..)
theorem zer:
  Calls prog 179 #[.string t,.bool x] V fun e N=>e= .returned (.bool (zw t x))/\N=V:=by
 cases z:(t.toList==[105,109,112,111,114,116]) with
 |true=>
  have q:Hid (zw t x=true):=by show zw t x=true;simp[zw,z]
  go_enter func179,ntmps179;go_wp2;go_ret;exact⟨zi q.o.symm,rfl⟩
 |false=>
  cases A:(t.toList==[101,120,112,111,114,116]) with
  |true=>
   have q:Hid (zw t x=true):=by show zw t x=true;simp[zw,z,A]
   go_enter func179,ntmps179;go_wp2;go_ret;exact⟨zi q.o.symm,rfl⟩
  |false=>
   cases D:(t.toList==[100,101,102,97,117,108,116]) with
   |true=>
    have q:Hid (zw t x=true):=by show zw t x=true;simp[zw,z,A,D]
    go_enter func179,ntmps179;go_wp2;go_ret;exact⟨zi q.o.symm,rfl⟩
   |false=>
    cases E:(t.toList==[108,101,116]) with
    |true=>
     have q:Hid (zw t x=true):=by show zw t x=true;simp[zw,z,A,D,E]
     go_enter func179,ntmps179;go_wp2;go_ret;exact⟨zi q.o.symm,rfl⟩
    |false=>
     cases H:(t.toList==[102,117,110,99,116,105,111,110]) with
     |true=>
      have q:Hid (zw t x=true):=by show zw t x=true;simp[zw,z,A,D,E,H]
      go_enter func179,ntmps179;go_wp2;go_ret;exact⟨zi q.o.symm,rfl⟩
     |false=>
      cases I:(t.toList==[114,101,116,117,114,110]) with
      |true=>
       have q:Hid (zw t x=true):=by show zw t x=true;simp[zw,z,A,D,E,H,I]
       go_enter func179,ntmps179;go_wp2;go_ret;exact⟨zi q.o.symm,rfl⟩
      |false=>
       cases J:(t.toList==[112,114,105,110,116]) with
       |true=>
        have q:Hid (zw t x=true):=by show zw t x=true;simp[zw,z,A,D,E,H,I,J]
        go_enter func179,ntmps179;go_wp2;go_ret;exact⟨zi q.o.symm,rfl⟩
       |false=>
        cases K:(t.toList==[116,104,114,111,119]) with
        |true=>
         have q:Hid (zw t x=true):=by show zw t x=true;simp[zw,z,A,D,E,H,I,J,K]
         go_enter func179,ntmps179;go_wp2;go_ret;exact⟨zi q.o.symm,rfl⟩
        |false=>
         cases L:(t.toList==[102,97,105,108]) with
         |true=>
          have q:Hid (zw t x=x):=by show zw t x=x;simp[zw,z,A,D,E,H,I,J,K,L]
          go_enter func179,ntmps179;go_wp2;go_ret;exact⟨zi q.o.symm,rfl⟩
         |false=>
          cases M:(t.toList==[117,110,100,101,102]) with
          |true=>
           have q:Hid (zw t x=x):=by show zw t x=x;simp[zw,z,A,D,E,H,I,J,K,L,M]
           go_enter func179,ntmps179;go_wp2;go_ret;exact⟨zi q.o.symm,rfl⟩
          |false=>
           have q:Hid (zw t x=false):=by show zw t x=false;simp[zw,z,A,D,E,H,I,J,K,L,M]
           go_enter func179,ntmps179;go_wp2;go_ret;exact⟨zi q.o.symm,rfl⟩
theorem zo3 (U:((ze h J).kind==1)=false):zJ h J P=false:=by rw[zJ,U];rfl
theorem zhI (U: ¬J<h.ts.length):zJ h J P=false:=by
 rw[Bool.eq_false_iff];exact fun g=>U (zfx g)
theorem zgw (i:OwnT V c 158 g D.ts.length b D.ts) (_:D.ts.length<=4000):
  Calls prog 155 #[pv D g b T p u n,.bool x] V fun e f=>e= .returned (.bool (decide (u<0)&&zJ D p.pos x))/\Bw V f:=by
 unfold pv;by_cases Z:u<0
 ·have E:decide (u<0)=true:=decide_eq_true Z;have K:decide (0<=u)=false:=decide_eq_false (by omega);by_cases M:p.pos<D.ts.length
  ·obtain⟨U,Y,_,_⟩:=i.cells M (d:=⟨0,sNone,0,D.fin⟩);have O:=(zaw i).1;change _=some (Value.int .i64 (ze D p.pos).kind) at U;change _=some (Value.string (ze D p.pos).text) at Y;generalize h:ze D p.pos=t at U Y;cases H:(t.kind==1) with
   |true=>
    have L:(t.kind !=1)=false:=by rw[bne,H];rfl
    cases J:zw t.text D.scr with
    |false=>
     have A:Hid (zJ D p.pos x=true):=by show zJ D p.pos x=true;simp only[zJ,h,H,J,Bool.not_false,Bool.true_or,Bool.and_self]
     clear h;go_enter func155,ntmps155;go_wp2_with (first|(go_at_call 179;refine (zer _ _ _).mono ?_;rintro e f ⟨rfl,rfl⟩));go_ret;exact⟨zi (by first|(rw[E,A.o];rfl)|rfl),bA0⟩
    |true=>
     cases x with
     |true=>
      cases N:(t.text.toList==[100,101,102,97,117,108,116]) with
      |true=>
       have A:Hid (zJ D p.pos true=true):=by show zJ D p.pos true=true;simp only[zJ,h,H,J,N,Bool.not_true,Bool.and_self,Bool.false_or]
       clear h;go_enter func155,ntmps155;go_wp2_with (first|(go_at_call 179;refine (zer _ _ _).mono ?_;rintro e f ⟨rfl,rfl⟩));go_ret;exact⟨zi (by first|(rw[E,A.o];rfl)|rfl),bA0⟩
      |false=>
       have A:Hid (zJ D p.pos true=false):=by show zJ D p.pos true=false;simp only[zJ,h,H,J,N,Bool.not_true,Bool.true_and,Bool.or_self]
       clear h;go_enter func155,ntmps155;go_wp2_with (first|(go_at_call 179;refine (zer _ _ _).mono ?_;rintro e f ⟨rfl,rfl⟩));go_ret;exact⟨zi (by first|(rw[E,A.o];rfl)|rfl),bA0⟩
     |false=>
      have A:Hid (zJ D p.pos false=false):=by show zJ D p.pos false=false;simp only[zJ,h,H,J,Bool.not_true,Bool.false_and,Bool.or_self,Bool.and_false]
      clear h;go_enter func155,ntmps155;go_wp2_with (first|(go_at_call 179;refine (zer _ _ _).mono ?_;rintro e f ⟨rfl,rfl⟩));go_ret;exact⟨zi (by first|(rw[E,A.o];rfl)|rfl),bA0⟩
   |false=>
    have L:(t.kind !=1)=true:=by rw[bne,H];rfl
    have A:Hid (zJ D p.pos x=false):=zo3 (by rw[h];exact H);clear h;go_enter func155,ntmps155;go_wp2_with (first|(go_at_call 179;refine (zer _ _ _).mono ?_;rintro e f ⟨rfl,rfl⟩));go_ret;exact⟨zi (by first|(rw[E,A.o];rfl)|rfl),bA0⟩
  ·have A:Hid (zJ D p.pos x=false):=zhI M;go_enter func155,ntmps155;go_wp2_with (first|(go_at_call 179;refine (zer _ _ _).mono ?_;rintro e f ⟨rfl,rfl⟩));go_ret;exact⟨zi (by first|(rw[E,A.o];rfl)|rfl),bA0⟩
 ·have E:decide (u<0)=false:=decide_eq_false Z;have K:decide (0<=u)=true:=decide_eq_true (by omega);have A:Hid (zJ D p.pos x=zJ D p.pos x):=rfl;go_enter func155,ntmps155;go_wp2_with (first|(go_at_call 179;refine (zer _ _ _).mono ?_;rintro e f ⟨rfl,rfl⟩));go_ret;exact⟨zi (by first|(rw[E,A.o];rfl)|rfl),bA0⟩
def Is2 (y:Except Nat (PS×BA)) (q:PS) (z:Int) (n:BA):Prop:=
 match y with
 | .ok a=>q=a.1/\z= -1/\n=a.2
 | .error e=>z=(e:Int)
theorem Is2.fst {y:Except Nat (PS×BA)} (h:Is2 y E A B):Is (zaV y) E A:=by
 cases y with
 |ok a=>exact⟨h.1,h.2.1⟩
 |error e=>exact h
theorem Is2.bind {y:Except Nat (PS×BA)} (h:Is2 y E A B) {β:Type} (F:PS->BA->Except Nat β):bd (zaV y) (fun E=>F E B)=bd y fun a=>F a.1 a.2:=by
 cases y with
 |ok a=>obtain⟨_,_,rfl⟩:=h;rfl
 |error e=>rfl
def zdS (C:Cx) (gt cap base:Nat) (y:Except Nat (PS×BA)) (d:Nat) (S:Sv) (w:World) (e:Ending) (w':World):Prop:=
 ∃S' q' z' n',e= .returned (.tuple #[pv C gt cap S' q' z' d,.string n'])/\Hid (Is2 y q' z' n')/\Mem C gt cap base S' q' w'/\Stp S w S' w'
theorem zes {U:Nat} {y:Except Nat (PS×BA)} {q':PS} {z':Int} (H:O=pv h J U N q' z' L) (I:Is2 y q' z' B) (E:Mem h J U K N q' F) (D:Bw F G):zdS h J U K y L N F (.returned (.tuple #[O,.string B])) G:=
 ⟨N,q',z',B,by rw[H],I,E.later D,Stp.below D⟩
theorem zbt (f base:Nat) (x:PR) (S:Sv) (q:PS) (z:Int) (d:Nat) (o:Bool) (w:World) (hx:Is x q z) (Z:Mem D g f base S q w):
  Calls prog 122 #[pv D g f S q z d,.bool o] w (zdS D g f base (bd x (zm D o)) d S w):=by
 have HM:=zc Z;have A:=Z.tok;have H:=Z.few;have HX:=zc hx;clear hx Z;cases E:(decide (z<0)&&zJ D q.pos o) with
 |true=>
  have L:q.pos<D.ts.length:=by rw[Bool.and_eq_true] at E;exact zfx E.2
  have HY:Hid (Is2 (bd x (zm D o)) (adv q) z (ze D q.pos).text):=by
   rw[Bool.and_eq_true,decide_eq_true_eq] at E;obtain⟨M,Y⟩:=zaK HX.o E.1;show Is2 (bd x (zm D o)) (adv q) z (ze D q.pos).text;rw[M,zB,zm,if_pos E.2];exact⟨rfl,Y,rfl⟩
  unfold pv;go_enter func122,ntmps122;go_wp2_with fail;refine (zgw D g f base S q z d o _ (zr (zr A _) _) H).mono ?_;rintro e w1 ⟨rfl,I⟩;rw[E];obtain⟨V,J⟩:=zcV I;obtain⟨a0,a1,a2,a3,a4,a5,a6,a7,a8,a9,N,U,af⟩:=zar V;obtain⟨b0,b1,b2,b3,b4,b5,b6,b7,b8,b9,ac,ab,bf⟩:=zar J;have h:=zc3 A (zbm I);obtain⟨_,c1,_,_⟩:=h.cells L (d:=⟨0,sNone,0,D.fin⟩);change _=some (Value.string (ze D q.pos).text) at c1;have G2:=zc J;clear V J E;go_wp2;refine bodyPost_ret (zaC rfl _ _ (w.heap.size+1) 121 _ (0,0) _ rfl (zbf ((zx (by omega)).trans G2.o)) underlying121 rfl (by kernel_rfl)) rfl ?_;exact zes rfl HY.o (HM.o.adv L) (zce ((zbm I).setCell (le_refl _) _) (le_succ _) ..)
 |false=>
  have HY:Hid (Is2 (bd x (zm D o)) q (zbB D q.pos z) sNone):=by
   show Is2 (bd x (zm D o)) q (zbB D q.pos z) sNone;unfold zbB;by_cases O:z<0
   ·obtain⟨M,Y⟩:=zaK HX.o O;simp only[O,decide_true,Bool.true_and] at E;rw[M,zB,zm,E,if_pos O];rfl
   ·obtain⟨e,M,Y⟩:=zdG HX.o O;rw[M,zeK,if_neg O];exact Y
  unfold pv;go_enter func122,ntmps122;go_wp2_with fail;refine (zgw D g f base S q z d o _ (zr (zr A _) _) H).mono ?_;rintro e w1 ⟨rfl,I⟩;rw[E];obtain⟨V,J⟩:=zcV I;obtain⟨a0,a1,a2,a3,a4,a5,a6,a7,a8,a9,N,U,af⟩:=zar V;have G2:=zc J;have h:=zc3 A (zbm I);clear V J E;go_wp2_with fail;refine (zdE D g f base S q z d _ h H).mono ?_;rintro e w2 ⟨rfl,X⟩;have G3:Hid (_=_):=(X.block _ (Nat.lt_of_lt_of_le (by simp) I.size)).trans G2.o;obtain⟨c0,c1,c2,c3,c4,c5,c6,c7,c8,c9,ae,ad,cf⟩:=zar G3.o;have aa:=(zbm I).trans (X.mono (zbm I).size);clear a0 a1 a2 a3 a4 a5 a6 a7 a8 a9 N U af;unfold pv;go_wp2;refine bodyPost_ret (zaC rfl _ _ (w.heap.size+1) 121 _ (0,0) _ rfl (zbf G3.o) underlying121 rfl (by kernel_rfl)) rfl ?_;exact zes rfl HY.o HM.o (zce aa (le_succ _) ..)
theorem Tryz.infoImp:(prog.info? 95).map (fun i=>(i.zero,i.size,i.bytes))=some (some (.agg #[.string {data:=#[]},.string {data:=#[]},.string {data:=#[]}]),3,48):=by kernel_rfl
theorem Tryz.infoExp:(prog.info? 97).map (fun i=>(i.zero,i.size,i.bytes))=some (some (.agg #[.int .i64 0,.string {data:=#[]},.string {data:=#[]},.string {data:=#[]}]),4,56):=by kernel_rfl
theorem Tryz.infoStmt:(prog.info? 102).map (fun i=>(i.zero,i.size,i.bytes))=some (some (.agg #[.int .i64 0,.string {data:=#[]},.int .i64 0]),3,32):=by kernel_rfl
theorem Tryz.infoExpr:(prog.info? 100).map (fun i=>(i.zero,i.size,i.bytes))=some (some (.agg #[.int .i64 0,.int .i64 0,.string {data:=#[]},.string {data:=#[]},.int .i64 0,.int .i64 0]),6,64):=by kernel_rfl
def imV (x:Im):Value:=.agg #[.string x.spec,.string x.first,.string x.loc]
def epV (x:Ep):Value:=.agg #[.int .i64 x.kind,.string x.name,.string x.loc,.string x.spec]
def exV (x:Ex):Value:=.agg #[.int .i64 x.kind,.int .i64 x.num,.string x.name,.string x.field,.int .i64 x.l,.int .i64 x.r]
theorem zdp:Bw w (((w.alloc W).alloc C).alloc S):=(zbg w W C).alloc (zbg w W C).size S
theorem zgx:Bw w ((((w.alloc W).alloc C).alloc S).alloc q):=(zdp w W C S).alloc (zdp w W C S).size q
theorem zcX:((w.alloc W).alloc C).heap.size=w.heap.size+1+1:=by rw[zg,zg]
theorem zag (b c:Obj):(((w.alloc W).alloc b).alloc c).heap.size=w.heap.size+1+1+1:=by rw[zg,zcX]
theorem zaE (b c d:Obj):((((w.alloc W).alloc b).alloc c).alloc d).heap.size=w.heap.size+1+1+1+1:=by rw[zg,zag]
theorem new3:(((w.alloc W).alloc C).alloc S).heap[w.heap.size]? =some W/\(((w.alloc W).alloc C).alloc S).heap[w.heap.size+1]? =some C/\(((w.alloc W).alloc C).alloc S).heap[w.heap.size+1+1]? =some S:=by
 refine⟨?_,?_,?_⟩
 ·rw[Below.heap_alloc _ _ _ (by rw[zcX];omega),Below.heap_alloc _ _ _ (by rw[zg];omega)];exact heap_alloc_new w W
 ·rw[Below.heap_alloc _ _ _ (by rw[zcX];omega)];exact new2 w W C
 ·rw[<-zcX w W C];exact heap_alloc_new _ S
theorem zcl:((((w.alloc W).alloc C).alloc S).alloc q).heap[w.heap.size]? =some W/\((((w.alloc W).alloc C).alloc S).alloc q).heap[w.heap.size+1]? =some C/\((((w.alloc W).alloc C).alloc S).alloc q).heap[w.heap.size+1+1]? =some S/\((((w.alloc W).alloc C).alloc S).alloc q).heap[w.heap.size+1+1+1]? =some q:=by
 obtain⟨h,U,z⟩:=new3 w W C S;refine⟨?_,?_,?_,?_⟩
 ·rw[Below.heap_alloc _ _ _ (by rw[zag];omega)];exact h
 ·rw[Below.heap_alloc _ _ _ (by rw[zag];omega)];exact U
 ·rw[Below.heap_alloc _ _ _ (by rw[zag];omega)];exact z
 ·rw[<-zag w W C S];exact heap_alloc_new _ q
theorem zhJ {a b c:Obj} (q:Below (((F.alloc a).alloc b).alloc c).heap.size (((F.alloc a).alloc b).alloc c) G):Bw F G:=(zdp F a b c).trans (q.mono (zdp F a b c).size)
theorem zgy (w:Is I E A) (X:A<0) (U:Q E= .error (zt h (E.pos-1))):Is (bd I Q) E (zt h (E.pos-1)):=by
 obtain⟨rfl,_⟩:=zaK w X;rw[zB,U];rfl
theorem zgz (w:Is I E A) (U: ¬A<0):Is (bd I Q) E A:=by
 obtain⟨e,rfl,h⟩:=zdG w U;exact h
theorem zfC {q':PS} (U:Is I E A) (D:A<0) (w:Q E= .ok q'):Is (bd I Q) q' A:=by
 obtain⟨rfl,h⟩:=zaK U D;rw[zB,w];exact⟨rfl,h⟩
theorem zet {W:World} (h:Own F J N E) (_:F.heap.size<=W.heap.size) {r:Option Nat} (z: ∀k,r=some k->N.has k) (b:Nat) (A:F.heap.size<=b):some b≠r:=fun e=>by have:=(h.has (z b e.symm)).2;omega
theorem zdq (j:Int) (d:Nat) (y:Ex) (w:World) (hx:Is z p j) (K:Mem D g b c T p w) (U:j<0->1<=p.pos):
  Calls prog 159 #[pv D g b T p j d,exV y] w (Out D g b c (bd z (zT D y)) d T w):=by
 obtain⟨i0,hi,X,aa,Z⟩:=info_parts Tryz.infoExpr;have E:=zc K;have HX:=zc hx;have ab:p.ex.length<=300:=by have:=K.inv.ex;omega
 clear hx;by_cases I:j<0
 ·have dz:decide (0<=j)=false:=decide_eq_false (by omega);by_cases hn:300<=p.ex.length
  ·have L:Hid (Is (bd z (zT D y)) p (zt D (p.pos-1))):=zgy HX.o I (if_pos hn);have qn:decide ((300:Int)<=(p.ex.length:Int))=true:=decide_eq_true (by omega);have J:=U I;clear U K;unfold pv exV;go_enter func159,ntmps159;go_wp2_with fail;refine (zfB D g b c T p j d _ (((E.o.alloc _).alloc _).alloc _) I J).mono ?_;rintro e w2 ⟨rfl,H⟩;have V:Bw w w2:=zhJ H;have G3:Hid (_=_):=(H.block (w.heap.size+1+1) (by rw[zag];omega)).trans ((new3 w _ _ _).2.2);obtain⟨c0,c1,c2,c3,c4,c5,c6,c7,c8,c9,ad,ai,cf⟩:=zar G3.o;clear H;unfold pv;go_wp2;refine bodyPost_ret (results_cell_row rfl _ _ (w.heap.size+1+1) 121 _ (0,0) _ rfl (zbf G3.o) underlying121 rfl (by kernel_rfl)) rfl ?_;exact zcI rfl L.o E.o (zce V (by omega) ..)
  ·have qn:decide ((300:Int)<=(p.ex.length:Int))=false:=decide_eq_false (by omega);have L:Hid (Is (bd z (zT D y)) {p with ex:=p.ex++[y]} j):=zfC HX.o I (if_neg hn);have A:=fun o1 o2 o3 o4=>((((E.o.own.ex.alloc o1).alloc o2).alloc o3).alloc o4);clear U K;unfold pv exV;go_enter func159,ntmps159;go_wp2_with (at_builtin;refine zbd _ rfl _ _ 52 rfl c 100 i0 _ 6 64 underlying52 hi X aa Z rfl (by decide) (by decide) T.ex p.ex.length _ (by rfl) (A ..) (w.heap.size+1+1+1) (exL y) (by rfl) (by first|exact (zcl w ..).2.2.2|exact (new3 w _ _ _).2.2) rfl (by intro u hu;simp[exL] at hu;rcases hu with rfl|rfl|rfl|rfl|rfl|rfl<;>rfl) (by omega) (by have:=E.o.base;(first|rw[zaE]|rw[zag]);omega) ?_);intro r' w2 hr N M;have HR:=zc hr;have HG:=zc N;have Y:=zc M;have f:=fun i hb=>zet (W:=w) E.o.own (le_refl _) (r:=T.ex.blk) (fun k e=>.inr (.inr (.inr (.inr (.inl e))))) i hb;have g1:=(N.block w.heap.size (by (first|rw[zaE]|rw[zag]);omega) (f _ (le_refl _))).trans (by first|exact (zcl w ..).1|exact (new3 w _ _ _).1);have g2:=(N.block (w.heap.size+1+1) (by (first|rw[zaE]|rw[zag]);omega) (f _ (by omega))).trans (by first|exact (zcl w ..).2.2.1|exact (new3 w _ _ _).2.1);obtain⟨a0,a1,a2,a3,a4,a5,a6,a7,a8,a9,ac,ag,af⟩:=zar g1;obtain⟨b0,b1,b2,b3,b4,b5,b6,b7,b8,b9,ah,ae,bf⟩:=zar g2;have G2:=zc g2;clear g1 g2 N hr M f A;go_wp2;refine bodyPost_ret (results_cell_row rfl _ _ (w.heap.size+1+1) 121 _ (0,0) _ rfl (zbf ((zx (by omega)).trans G2.o)) underlying121 rfl (by kernel_rfl)) rfl ?_;obtain⟨m',s'⟩:=E.o.grow_ex (x:=y) (zgx w ..) HG.o HR.o (by (first|rw[zaE]|rw[zag]);exact Y.o) (((Off.refl _ _ _).set (b:=w.heap.size) (le_refl _) (by (first|rw[zaE]|rw[zag]);omega) _ _).set12 (b:=w.heap.size+1+1) (by omega) (by (first|rw[zaE]|rw[zag]);omega) ..) (by omega);exact⟨_,{p with ex:=p.ex++[y]},j,by simp[pv],L.o,m',s'⟩
 ·have dz:decide (0<=j)=true:=decide_eq_true (by omega);have L:Hid (Is (bd z (zT D y)) p j):=zgz HX.o I;clear U K;unfold pv exV;go_enter func159,ntmps159;go_wp2;refine bodyPost_ret (results_cell_row rfl _ _ (w.heap.size+1+1) 121 _ (0,0) _ rfl ((new3 w _ _ _).2.2) underlying121 rfl (by kernel_rfl)) rfl ?_;exact zcI rfl L.o E.o (zdp w _ _ _)
theorem zhK (j:Int) (d:Nat) (y:Im) (w:World) (hx:Is z p j) (K:Mem D g b c T p w) (U:j<0->1<=p.pos):
  Calls prog 154 #[pv D g b T p j d,imV y] w (Out D g b c (bd z (zap D y)) d T w):=by
 obtain⟨i0,hi,X,aa,Z⟩:=info_parts Tryz.infoImp;have E:=zc K;have HX:=zc hx;have ab:p.im.length<=40:=by have:=K.inv.im;omega
 clear hx;by_cases I:j<0
 ·have dz:decide (0<=j)=false:=decide_eq_false (by omega);by_cases hn:40<=p.im.length
  ·have L:Hid (Is (bd z (zap D y)) p (zt D (p.pos-1))):=zgy HX.o I (if_pos hn);have qn:decide ((40:Int)<=(p.im.length:Int))=true:=decide_eq_true (by omega);have J:=U I;clear U K;unfold pv imV;go_enter func154,ntmps154;go_wp2_with fail;refine (zfB D g b c T p j d _ (((E.o.alloc _).alloc _).alloc _) I J).mono ?_;rintro e w2 ⟨rfl,H⟩;have V:Bw w w2:=zhJ H;have G3:Hid (_=_):=(H.block (w.heap.size+1+1) (by rw[zag];omega)).trans ((new3 w _ _ _).2.2);obtain⟨c0,c1,c2,c3,c4,c5,c6,c7,c8,c9,ad,ai,cf⟩:=zar G3.o;clear H;unfold pv;go_wp2;refine bodyPost_ret (results_cell_row rfl _ _ (w.heap.size+1+1) 121 _ (0,0) _ rfl (zbf G3.o) underlying121 rfl (by kernel_rfl)) rfl ?_;exact zcI rfl L.o E.o (zce V (by omega) ..)
  ·have qn:decide ((40:Int)<=(p.im.length:Int))=false:=decide_eq_false (by omega);have L:Hid (Is (bd z (zap D y)) {p with im:=p.im++[y]} j):=zfC HX.o I (if_neg hn);have A:=fun o1 o2 o3 o4=>((((E.o.own.im.alloc o1).alloc o2).alloc o3).alloc o4);clear U K;unfold pv imV;go_enter func154,ntmps154;go_wp2_with (at_builtin;refine zbd _ rfl _ _ 49 rfl c 95 i0 _ 3 48 underlying49 hi X aa Z rfl (by decide) (by decide) T.im p.im.length _ (by rfl) (A ..) (w.heap.size+1+1+1) (imL y) (by rfl) (by first|exact (zcl w ..).2.2.2|exact (new3 w _ _ _).2.2) rfl (by intro u hu;simp[imL] at hu;rcases hu with rfl|rfl|rfl<;>rfl) (by omega) (by have:=E.o.base;(first|rw[zaE]|rw[zag]);omega) ?_);intro r' w2 hr N M;have HR:=zc hr;have HG:=zc N;have Y:=zc M;have f:=fun i hb=>zet (W:=w) E.o.own (le_refl _) (r:=T.im.blk) (fun k e=>.inr (.inl e)) i hb;have g1:=(N.block w.heap.size (by (first|rw[zaE]|rw[zag]);omega) (f _ (le_refl _))).trans (by first|exact (zcl w ..).1|exact (new3 w _ _ _).1);have g2:=(N.block (w.heap.size+1+1) (by (first|rw[zaE]|rw[zag]);omega) (f _ (by omega))).trans (by first|exact (zcl w ..).2.2.1|exact (new3 w _ _ _).2.1);obtain⟨a0,a1,a2,a3,a4,a5,a6,a7,a8,a9,ac,ag,af⟩:=zar g1;obtain⟨b0,b1,b2,b3,b4,b5,b6,b7,b8,b9,ah,ae,bf⟩:=zar g2;have G2:=zc g2;clear g1 g2 N hr M f A;go_wp2;refine bodyPost_ret (results_cell_row rfl _ _ (w.heap.size+1+1) 121 _ (0,0) _ rfl (zbf ((zx (by omega)).trans G2.o)) underlying121 rfl (by kernel_rfl)) rfl ?_;obtain⟨m',s'⟩:=E.o.grow_im (x:=y) (zgx w ..) HG.o HR.o (by (first|rw[zaE]|rw[zag]);exact Y.o) (((Off.refl _ _ _).set (b:=w.heap.size) (le_refl _) (by (first|rw[zaE]|rw[zag]);omega) _ _).set12 (b:=w.heap.size+1+1) (by omega) (by (first|rw[zaE]|rw[zag]);omega) ..) (by omega);exact⟨_,{p with im:=p.im++[y]},j,by simp[pv],L.o,m',s'⟩
 ·have dz:decide (0<=j)=true:=decide_eq_true (by omega);have L:Hid (Is (bd z (zap D y)) p j):=zgz HX.o I;clear U K;unfold pv imV;go_enter func154,ntmps154;go_wp2;refine bodyPost_ret (results_cell_row rfl _ _ (w.heap.size+1+1) 121 _ (0,0) _ rfl ((new3 w _ _ _).2.2) underlying121 rfl (by kernel_rfl)) rfl ?_;exact zcI rfl L.o E.o (zdp w _ _ _)
theorem zeu (j:Int) (d:Nat) (y:Ep) (w:World) (hx:Is z p j) (L:Mem D g b c T p w) (hp:j<0->1<=p.pos):
  Calls prog 156 #[pv D g b T p j d,epV y] w (Out D g b c (bd z (zq D y)) d T w):=by
 obtain⟨i0,hi,U,Z,X⟩:=info_parts Tryz.infoExp;have f:=zc L;have HX:=zc hx;have ah:p.ep.length<=40:=by have:=L.inv.ep;omega
 have ag:p.la.length<=40:=by have:=L.inv.ep;omega
 clear hx;by_cases O:j<0
 ·have dz:decide (0<=j)=false:=decide_eq_false (by omega);by_cases hn:40<=p.ep.length+p.la.length
  ·have M:Hid (Is (bd z (zq D y)) p (zt D (p.pos-1))):=zgy HX.o O (if_pos hn);have qn:decide ((40:Int)<=(p.ep.length:Int)+(p.la.length:Int))=true:=decide_eq_true (by omega);have V:=hp O;clear hp L;unfold pv epV;go_enter func156,ntmps156;go_wp2_with fail;refine (zfB D g b c T p j d _ (((f.o.alloc _).alloc _).alloc _) O V).mono ?_;rintro e w2 ⟨rfl,K⟩;have ab:Bw w w2:=zhJ K;have G3:Hid (_=_):=(K.block (w.heap.size+1+1) (by rw[zag];omega)).trans ((new3 w _ _ _).2.2);obtain⟨c0,c1,c2,c3,c4,c5,c6,c7,c8,c9,ai,aj,cf⟩:=zar G3.o;clear K;unfold pv;go_wp2;refine bodyPost_ret (results_cell_row rfl _ _ (w.heap.size+1+1) 121 _ (0,0) _ rfl (zbf G3.o) underlying121 rfl (by kernel_rfl)) rfl ?_;exact zcI rfl M.o f.o (zce ab (by omega) ..)
  ·have qn:decide ((40:Int)<=(p.ep.length:Int)+(p.la.length:Int))=false:=decide_eq_false (by omega);cases hd:(y.loc.toList==[42,100,101,102,97,117,108,116]) with
   |true=>
    have M:Hid (Is (bd z (zq D y)) {p with la:=p.la++[y]} j):=zfC HX.o O (by rw[zq,if_neg hn,if_pos hd]);have h:=fun o1 o2 o3 o4=>((((f.o.own.la.alloc o1).alloc o2).alloc o3).alloc o4);clear hp L;unfold pv epV;go_enter func156,ntmps156;go_wp2_with (at_builtin;refine zbd _ rfl _ _ 50 rfl c 97 i0 _ 4 56 underlying50 hi U Z X rfl (by decide) (by decide) T.la p.la.length _ (by rfl) (h ..) (w.heap.size+1+1+1) (epL y) (by rfl) (by first|exact (zcl w ..).2.2.2|exact (new3 w _ _ _).2.2) rfl (by intro u Y;simp[epL] at Y;rcases Y with rfl|rfl|rfl|rfl<;>rfl) (by omega) (by have:=f.o.base;(first|rw[zaE]|rw[zag]);omega) ?_);intro r' w2 hr H E;have HR:=zc hr;have HG:=zc H;have J:=zc E;have A:=fun i hb=>zet (W:=w) f.o.own (le_refl _) (r:=T.la.blk) (fun k e=>.inr (.inr (.inr (.inr (.inr e))))) i hb;have g1:=(H.block w.heap.size (by (first|rw[zaE]|rw[zag]);omega) (A _ (le_refl _))).trans (by first|exact (zcl w ..).1|exact (new3 w _ _ _).1);have N:=(H.block (w.heap.size+1+1) (by (first|rw[zaE]|rw[zag]);omega) (A _ (by omega))).trans (by first|exact (zcl w ..).2.2.1|exact (new3 w _ _ _).2.1);obtain⟨a0,a1,a2,a3,a4,a5,a6,a7,a8,a9,aa,ad,af⟩:=zar g1;obtain⟨b0,b1,b2,b3,b4,b5,b6,b7,b8,b9,ae,ac,bf⟩:=zar N;have G2:=zc N;clear g1 N H hr E A h;go_wp2;refine bodyPost_ret (results_cell_row rfl _ _ (w.heap.size+1+1) 121 _ (0,0) _ rfl (zbf ((zx (by omega)).trans G2.o)) underlying121 rfl (by kernel_rfl)) rfl ?_;obtain⟨m',s'⟩:=f.o.grow_la (x:=y) (zgx w ..) HG.o HR.o (by (first|rw[zaE]|rw[zag]);exact J.o) (((Off.refl _ _ _).set (b:=w.heap.size) (le_refl _) (by (first|rw[zaE]|rw[zag]);omega) _ _).set12 (b:=w.heap.size+1+1) (by omega) (by (first|rw[zaE]|rw[zag]);omega) ..) (by omega);exact⟨_,{p with la:=p.la++[y]},j,by simp[pv],M.o,m',s'⟩
   |false=>
    have M:Hid (Is (bd z (zq D y)) {p with ep:=p.ep++[y]} j):=zfC HX.o O (by rw[zq,if_neg hn,hd];rfl);have h:=fun o1 o2 o3 o4=>((((f.o.own.ep.alloc o1).alloc o2).alloc o3).alloc o4);clear hp L;unfold pv epV;go_enter func156,ntmps156;go_wp2_with (at_builtin;refine zbd _ rfl _ _ 50 rfl c 97 i0 _ 4 56 underlying50 hi U Z X rfl (by decide) (by decide) T.ep p.ep.length _ (by rfl) (h ..) (w.heap.size+1+1+1) (epL y) (by rfl) (by first|exact (zcl w ..).2.2.2|exact (new3 w _ _ _).2.2) rfl (by intro u Y;simp[epL] at Y;rcases Y with rfl|rfl|rfl|rfl<;>rfl) (by omega) (by have:=f.o.base;(first|rw[zaE]|rw[zag]);omega) ?_);intro r' w2 hr H E;have HR:=zc hr;have HG:=zc H;have J:=zc E;have A:=fun i hb=>zet (W:=w) f.o.own (le_refl _) (r:=T.ep.blk) (fun k e=>.inr (.inr (.inl e))) i hb;have g1:=(H.block w.heap.size (by (first|rw[zaE]|rw[zag]);omega) (A _ (le_refl _))).trans (by first|exact (zcl w ..).1|exact (new3 w _ _ _).1);have N:=(H.block (w.heap.size+1+1) (by (first|rw[zaE]|rw[zag]);omega) (A _ (by omega))).trans (by first|exact (zcl w ..).2.2.1|exact (new3 w _ _ _).2.1);obtain⟨a0,a1,a2,a3,a4,a5,a6,a7,a8,a9,aa,ad,af⟩:=zar g1;obtain⟨b0,b1,b2,b3,b4,b5,b6,b7,b8,b9,ae,ac,bf⟩:=zar N;have G2:=zc N;clear g1 N H hr E A h;go_wp2;refine bodyPost_ret (results_cell_row rfl _ _ (w.heap.size+1+1) 121 _ (0,0) _ rfl (zbf ((zx (by omega)).trans G2.o)) underlying121 rfl (by kernel_rfl)) rfl ?_;obtain⟨m',s'⟩:=f.o.grow_ep (x:=y) (zgx w ..) HG.o HR.o (by (first|rw[zaE]|rw[zag]);exact J.o) (((Off.refl _ _ _).set (b:=w.heap.size) (le_refl _) (by (first|rw[zaE]|rw[zag]);omega) _ _).set12 (b:=w.heap.size+1+1) (by omega) (by (first|rw[zaE]|rw[zag]);omega) ..) (by omega);exact⟨_,{p with ep:=p.ep++[y]},j,by simp[pv],M.o,m',s'⟩
 ·have dz:decide (0<=j)=true:=decide_eq_true (by omega);have M:Hid (Is (bd z (zq D y)) p j):=zgz HX.o O;clear hp L;unfold pv epV;go_enter func156,ntmps156;go_wp2;refine bodyPost_ret (results_cell_row rfl _ _ (w.heap.size+1+1) 121 _ (0,0) _ rfl ((new3 w _ _ _).2.2) underlying121 rfl (by kernel_rfl)) rfl ?_;exact zcI rfl M.o f.o (zdp w _ _ _)
theorem zdr (j:Int) (d:Nat) (k:Int) (h:BA) (w:World) (hx:Is z p j) (J:Mem D g b c T p w) (V:j<0->1<=p.pos):
  Calls prog 121 #[pv D g b T p j d,.int .i64 k,.string h] w (Out D g b c (bd z (zaa D k h)) d T w):=by
 obtain⟨i0,hi,Y,ab,aa⟩:=info_parts Tryz.infoStmt;have H:=zc J;have HX:=zc hx;have ad:p.ex.length<=300:=by have:=J.inv.ex;omega
 have ac:p.st.length<=80:=by have:=J.inv.st;omega
 clear hx;by_cases K:j<0
 ·have dz:decide (0<=j)=false:=decide_eq_false (by omega);by_cases hn:80<=p.st.length
  ·have M:Hid (Is (bd z (zaa D k h)) p (zt D (p.pos-1))):=zgy HX.o K (if_pos hn);have qn:decide ((80:Int)<=(p.st.length:Int))=true:=decide_eq_true (by omega);have L:=V K;clear V J;unfold pv;go_enter func121,ntmps121;go_wp2_with fail;refine (zfB D g b c T p j d _ ((H.o.alloc _).alloc _) K L).mono ?_;rintro e w2 ⟨rfl,I⟩;have X:Bw w w2:=zbm I;have G3:Hid (_=_):=(I.block (w.heap.size+1) (by rw[zcX];omega)).trans (new2 w _ _);obtain⟨c0,c1,c2,c3,c4,c5,c6,c7,c8,c9,ag,ak,cf⟩:=zar G3.o;clear I;unfold pv;go_wp2;refine bodyPost_ret (results_cell_row rfl _ _ (w.heap.size+1) 121 _ (0,0) _ rfl (zbf G3.o) underlying121 rfl (by kernel_rfl)) rfl ?_;exact zcI rfl M.o H.o (zce X (by omega) ..)
  ·have qn:decide ((80:Int)<=(p.st.length:Int))=false:=decide_eq_false (by omega);have M:Hid (Is (bd z (zaa D k h)) {p with st:=p.st++[⟨k,h,(p.ex.length:Int)-1⟩]} j):=zfC HX.o K (if_neg hn);have f:=fun o1 o2 o3=>(((H.o.own.st.alloc o1).alloc o2).alloc o3);clear V J;unfold pv;go_enter func121,ntmps121;go_wp2_with (at_builtin;refine zbd _ rfl _ _ 51 rfl c 102 i0 _ 3 32 underlying51 hi Y ab aa rfl (by decide) (by decide) T.st p.st.length _ (by rfl) (f _ _ _) (w.heap.size+1+1) (smL ⟨k,h,(p.ex.length:Int)-1⟩) (by rfl) (by first|exact (zcl w ..).2.2.2|exact (new3 w _ _ _).2.2) rfl (by intro u hu;simp[smL] at hu;rcases hu with rfl|rfl|rfl<;>rfl) (by omega) (by have:=H.o.base;(first|rw[zaE]|rw[zag]);omega) ?_);intro r' w2 hr O N;have HR:=zc hr;have HG:=zc O;have Z:=zc N;have E:=fun i hb=>zet (W:=w) H.o.own (le_refl _) (r:=T.st.blk) (fun k e=>.inr (.inr (.inr (.inl e)))) i hb;have g1:=(O.block w.heap.size (by (first|rw[zaE]|rw[zag]);omega) (E _ (le_refl _))).trans (by first|exact (zcl w ..).1|exact (new3 w _ _ _).1);have g2:=(O.block (w.heap.size+1) (by (first|rw[zaE]|rw[zag]);omega) (E _ (by omega))).trans (by first|exact (zcl w ..).2.2.1|exact (new3 w _ _ _).2.1);obtain⟨a0,a1,a2,a3,a4,a5,a6,a7,a8,a9,ae,ai,af⟩:=zar g1;obtain⟨b0,b1,b2,b3,b4,b5,b6,b7,b8,b9,aj,ah,bf⟩:=zar g2;have G2:=zc g2;clear g1 g2 O hr N E f;go_wp2;refine bodyPost_ret (results_cell_row rfl _ _ (w.heap.size+1) 121 _ (0,0) _ rfl (zbf ((zx (by omega)).trans G2.o)) underlying121 rfl (by kernel_rfl)) rfl ?_;obtain⟨m',s'⟩:=H.o.grow_st (x:=⟨k,h,(p.ex.length:Int)-1⟩) (zdp w _ _ _) HG.o HR.o (by (first|rw[zaE]|rw[zag]);exact Z.o) (((Off.refl _ _ _).set (b:=w.heap.size) (le_refl _) (by (first|rw[zaE]|rw[zag]);omega) _ _).set12 (b:=w.heap.size+1) (by omega) (by (first|rw[zaE]|rw[zag]);omega) ..) (by omega);exact⟨_,{p with st:=p.st++[⟨k,h,(p.ex.length:Int)-1⟩]},j,by simp[pv],M.o,m',s'⟩
 ·have dz:decide (0<=j)=true:=decide_eq_true (by omega);have M:Hid (Is (bd z (zaa D k h)) p j):=zgz HX.o K;clear V J;unfold pv;go_enter func121,ntmps121;go_wp2;refine bodyPost_ret (results_cell_row rfl _ _ (w.heap.size+1) 121 _ (0,0) _ rfl (new2 w _ _) underlying121 rfl (by kernel_rfl)) rfl ?_;exact zcI rfl M.o H.o (zbg w _ _)
theorem OwnR.drew {e:TypeId} {xs:List Value} (h:OwnR F J e K R L xs):OwnR F.drew J e K R L xs:=h
theorem zo4: ∀u∈exL m,u.oneCell'=true:=by
 intro u h;simp[exL] at h;rcases h with rfl|rfl|rfl|rfl|rfl|rfl<;>rfl
theorem IM.grow_ex {i:Nat} {r:World} {x:Ex} (f:IM h J i K L N E F) (Y:Bw F G) (X:G.grownBy r N.ex.blk) (hr:OwnR r K 100 6 R (E.ex.length+1) (E.ex.flatMap exL++exL x)) (o:R.blk=N.ex.blk∨R.blk=some G.heap.size) (hn:E.ex.length<300):
  IM h J i K L {N with ex:=R} {E with ex:=E.ex++[x]} (r.setCell ⟨L,8,none⟩ (.slice R.a (E.ex.length+1) R.cap))/\IS L N F {N with ex:=R} (r.setCell ⟨L,8,none⟩ (.slice R.a (E.ex.length+1) R.cap)):=by
 obtain⟨j,I⟩:=f.mem.grow_ex (x:=x) Y X hr o (Off.refl _ _ _) hn;have D:=f.free;have M:=f.lt;have H: ¬Sv.has {N with ex:=R} L:=fun g=>(I.sub L g).elim D fun g'=>by omega
 have l: ∀k,k≠L->(r.setCell ⟨L,8,none⟩ (.slice R.a (E.ex.length+1) R.cap)).heap[k]? =r.heap[k]?:=fun k l=>Below.heap_setCell r ⟨L,8,none⟩ _ k l;have O:(r.setCell ⟨L,8,none⟩ (.slice R.a (E.ex.length+1) R.cap)).heap.size=r.heap.size:=by show (r.heap.modify _ _).size=_;simp
 have hc:=(I.block L M D).trans f.cells;refine⟨⟨⟨j.own.keep fun k g=>l k fun e=>H (by rw[<-e];exact g),j.inv,zbM j.tok (l J f.ne.symm),j.few,by rw[O];exact j.base⟩,?_,f.ge⟩,?_⟩
 ·rw[zae hc];simp
 ·exact (show IS L N F {N with ex:=R} r from⟨I.os,I.tape,I.output,I.size,fun k Z V _=>I.block k Z V,I.sub⟩).set _ _
theorem zo5 (h:IM D g b c d T p V) (hn:p.ex.length<300):
  Calls prog 253 #[.pointer (some ⟨d,0,none⟩),exV m] V fun e Y=>e= .returned (.int .i64 p.ex.length)/\∃S',IM D g b c d S' {p with ex:=p.ex++[m]} Y/\IS d T V S' Y:=by
 obtain⟨i0,hi,M,O,i⟩:=info_parts Tryz.infoExpr;have L:=zc h;have aa:=h.lt;obtain⟨c0,c1,c2,c3,c4,c5,c6,c7,c8,c9,cf⟩:=zai h.cells;have H:=fun f A=>((L.o.mem.own.ex.alloc f).drew.alloc A);have ab:=h.mem.base;have I:some d≠T.ex.blk:=fun e=>L.o.free (.inr (.inr (.inr (.inr (.inl e.symm)))));have HN:=zc I;have U: ∀f A,c<=((V.alloc f).alloc A).heap.size:=fun f A=>by rw[zcX];omega
 have X: ∀f A,d<((V.alloc f).alloc A).heap.size:=fun f A=>by rw[zcX];omega
 clear h I;unfold exV;go_enter func253,ntmps253;go_wp2_with fail;refine (zeq d p.ex.length 300 _ (by omega)).mono ?_;rintro e w1 ⟨rfl,rfl⟩;go_wp2_with fail;go_region_law (first|(refine zfA rfl (.tmp 18) (.tmp 20) 52 rfl c 100 i0 _ 6 64 underlying52 hi M O i rfl (by decide) (by decide) T.ex p.ex.length (p.ex.flatMap exL) (by rfl) (by exact H _ _) (V.heap.size+1) (exL m) (by rfl) (by exact new2 V _ _) rfl (zo4 m) (by omega) (by exact U _ _) ?_;intro r' w2 hr E J;have Z:=(E.block d (by exact X _ _) HN.o).trans (by exact ((L.o.alloc _).alloc _).cells);obtain⟨d0,d1,d2,d3,d4,d5,d6,d7,d8,d9,df⟩:=zai Z))
 all_goals
  have HR:=zc hr;have HG:=zc E;have N:=zc J;clear hr E J Z c0 c1 c2 c3 c4 c5 c6 c7 c8 c9 cf;go_wp2;go_ret;obtain⟨m',s'⟩:=L.o.grow_ex (zbg V _ _).drew HG.o HR.o N.o hn;exact⟨zbG (by omega),_,m',s'⟩
theorem zjS: ∀u∈imL k,u.oneCell'=true:=by
 intro u h;simp[imL] at h;rcases h with rfl|rfl|rfl<;>rfl
theorem IM.grow_rq {i:Nat} {r:World} {x:BA} (f:IM h J i K L N E F) (Y:Bw F G) (X:G.grownBy r N.rq.blk) (hr:OwnR r K 9 1 R (E.rq.length+1) (E.rq.map .string++[.string x])) (o:R.blk=N.rq.blk∨R.blk=some G.heap.size) (hn:E.rq.length<40):
  IM h J i K L {N with rq:=R} {E with rq:=E.rq++[x]} (r.setCell ⟨L,4,none⟩ (.slice R.a (E.rq.length+1) R.cap))/\IS L N F {N with rq:=R} (r.setCell ⟨L,4,none⟩ (.slice R.a (E.rq.length+1) R.cap)):=by
 obtain⟨j,I⟩:=f.mem.grow_rq (x:=x) Y X hr o (Off.refl _ _ _) hn;have D:=f.free;have M:=f.lt;have H: ¬Sv.has {N with rq:=R} L:=fun g=>(I.sub L g).elim D fun g'=>by omega
 have l: ∀k,k≠L->(r.setCell ⟨L,4,none⟩ (.slice R.a (E.rq.length+1) R.cap)).heap[k]? =r.heap[k]?:=fun k l=>Below.heap_setCell r ⟨L,4,none⟩ _ k l;have O:(r.setCell ⟨L,4,none⟩ (.slice R.a (E.rq.length+1) R.cap)).heap.size=r.heap.size:=by show (r.heap.modify _ _).size=_;simp
 have hc:=(I.block L M D).trans f.cells;refine⟨⟨⟨j.own.keep fun k g=>l k fun e=>H (by rw[<-e];exact g),j.inv,zbM j.tok (l J f.ne.symm),j.few,by rw[O];exact j.base⟩,?_,f.ge⟩,?_⟩
 ·rw[zae hc];simp
 ·exact (show IS L N F {N with rq:=R} r from⟨I.os,I.tape,I.output,I.size,fun k Z V _=>I.block k Z V,I.sub⟩).set _ _
theorem IM.grow_im {i:Nat} {r:World} {x:Im} (f:IM h J i K L N E F) (Y:Bw F G) (X:G.grownBy r N.im.blk) (hr:OwnR r K 95 3 R (E.im.length+1) (E.im.flatMap imL++imL x)) (o:R.blk=N.im.blk∨R.blk=some G.heap.size) (hn:E.im.length<40):
  IM h J i K L {N with im:=R} {E with im:=E.im++[x]} (r.setCell ⟨L,5,none⟩ (.slice R.a (E.im.length+1) R.cap))/\IS L N F {N with im:=R} (r.setCell ⟨L,5,none⟩ (.slice R.a (E.im.length+1) R.cap)):=by
 obtain⟨j,I⟩:=f.mem.grow_im (x:=x) Y X hr o (Off.refl _ _ _) hn;have D:=f.free;have M:=f.lt;have H: ¬Sv.has {N with im:=R} L:=fun g=>(I.sub L g).elim D fun g'=>by omega
 have l: ∀k,k≠L->(r.setCell ⟨L,5,none⟩ (.slice R.a (E.im.length+1) R.cap)).heap[k]? =r.heap[k]?:=fun k l=>Below.heap_setCell r ⟨L,5,none⟩ _ k l;have O:(r.setCell ⟨L,5,none⟩ (.slice R.a (E.im.length+1) R.cap)).heap.size=r.heap.size:=by show (r.heap.modify _ _).size=_;simp
 have hc:=(I.block L M D).trans f.cells;refine⟨⟨⟨j.own.keep fun k g=>l k fun e=>H (by rw[<-e];exact g),j.inv,zbM j.tok (l J f.ne.symm),j.few,by rw[O];exact j.base⟩,?_,f.ge⟩,?_⟩
 ·rw[zae hc];simp
 ·exact (show IS L N F {N with im:=R} r from⟨I.os,I.tape,I.output,I.size,fun k Z V _=>I.block k Z V,I.sub⟩).set _ _
theorem IM.grow_ep {i:Nat} {r:World} {x:Ep} (f:IM h J i K L N E F) (Y:Bw F G) (X:G.grownBy r N.ep.blk) (hr:OwnR r K 97 4 R (E.ep.length+1) (E.ep.flatMap epL++epL x)) (o:R.blk=N.ep.blk∨R.blk=some G.heap.size) (hn:E.ep.length+E.la.length<40):
  IM h J i K L {N with ep:=R} {E with ep:=E.ep++[x]} (r.setCell ⟨L,6,none⟩ (.slice R.a (E.ep.length+1) R.cap))/\IS L N F {N with ep:=R} (r.setCell ⟨L,6,none⟩ (.slice R.a (E.ep.length+1) R.cap)):=by
 obtain⟨j,I⟩:=f.mem.grow_ep (x:=x) Y X hr o (Off.refl _ _ _) hn;have D:=f.free;have M:=f.lt;have H: ¬Sv.has {N with ep:=R} L:=fun g=>(I.sub L g).elim D fun g'=>by omega
 have l: ∀k,k≠L->(r.setCell ⟨L,6,none⟩ (.slice R.a (E.ep.length+1) R.cap)).heap[k]? =r.heap[k]?:=fun k l=>Below.heap_setCell r ⟨L,6,none⟩ _ k l;have O:(r.setCell ⟨L,6,none⟩ (.slice R.a (E.ep.length+1) R.cap)).heap.size=r.heap.size:=by show (r.heap.modify _ _).size=_;simp
 have hc:=(I.block L M D).trans f.cells;refine⟨⟨⟨j.own.keep fun k g=>l k fun e=>H (by rw[<-e];exact g),j.inv,zbM j.tok (l J f.ne.symm),j.few,by rw[O];exact j.base⟩,?_,f.ge⟩,?_⟩
 ·rw[zae hc];simp
 ·exact (show IS L N F {N with ep:=R} r from⟨I.os,I.tape,I.output,I.size,fun k Z V _=>I.block k Z V,I.sub⟩).set _ _
theorem IM.grow_st {i:Nat} {r:World} {x:Sm} (f:IM h J i K L N E F) (Y:Bw F G) (X:G.grownBy r N.st.blk) (hr:OwnR r K 102 3 R (E.st.length+1) (E.st.flatMap smL++smL x)) (o:R.blk=N.st.blk∨R.blk=some G.heap.size) (hn:E.st.length<80):
  IM h J i K L {N with st:=R} {E with st:=E.st++[x]} (r.setCell ⟨L,7,none⟩ (.slice R.a (E.st.length+1) R.cap))/\IS L N F {N with st:=R} (r.setCell ⟨L,7,none⟩ (.slice R.a (E.st.length+1) R.cap)):=by
 obtain⟨j,I⟩:=f.mem.grow_st (x:=x) Y X hr o (Off.refl _ _ _) hn;have D:=f.free;have M:=f.lt;have H: ¬Sv.has {N with st:=R} L:=fun g=>(I.sub L g).elim D fun g'=>by omega
 have l: ∀k,k≠L->(r.setCell ⟨L,7,none⟩ (.slice R.a (E.st.length+1) R.cap)).heap[k]? =r.heap[k]?:=fun k l=>Below.heap_setCell r ⟨L,7,none⟩ _ k l;have O:(r.setCell ⟨L,7,none⟩ (.slice R.a (E.st.length+1) R.cap)).heap.size=r.heap.size:=by show (r.heap.modify _ _).size=_;simp
 have hc:=(I.block L M D).trans f.cells;refine⟨⟨⟨j.own.keep fun k g=>l k fun e=>H (by rw[<-e];exact g),j.inv,zbM j.tok (l J f.ne.symm),j.few,by rw[O];exact j.base⟩,?_,f.ge⟩,?_⟩
 ·rw[zae hc];simp
 ·exact (show IS L N F {N with st:=R} r from⟨I.os,I.tape,I.output,I.size,fun k Z V _=>I.block k Z V,I.sub⟩).set _ _
theorem IM.grow_la {i:Nat} {r:World} {x:Ep} (f:IM h J i K L N E F) (Y:Bw F G) (X:G.grownBy r N.la.blk) (hr:OwnR r K 97 4 R (E.la.length+1) (E.la.flatMap epL++epL x)) (o:R.blk=N.la.blk∨R.blk=some G.heap.size) (hn:E.ep.length+E.la.length<40):
  IM h J i K L {N with la:=R} {E with la:=E.la++[x]} (r.setCell ⟨L,9,none⟩ (.slice R.a (E.la.length+1) R.cap))/\IS L N F {N with la:=R} (r.setCell ⟨L,9,none⟩ (.slice R.a (E.la.length+1) R.cap)):=by
 obtain⟨j,I⟩:=f.mem.grow_la (x:=x) Y X hr o (Off.refl _ _ _) hn;have D:=f.free;have M:=f.lt;have H: ¬Sv.has {N with la:=R} L:=fun g=>(I.sub L g).elim D fun g'=>by omega
 have l: ∀k,k≠L->(r.setCell ⟨L,9,none⟩ (.slice R.a (E.la.length+1) R.cap)).heap[k]? =r.heap[k]?:=fun k l=>Below.heap_setCell r ⟨L,9,none⟩ _ k l;have O:(r.setCell ⟨L,9,none⟩ (.slice R.a (E.la.length+1) R.cap)).heap.size=r.heap.size:=by show (r.heap.modify _ _).size=_;simp
 have hc:=(I.block L M D).trans f.cells;refine⟨⟨⟨j.own.keep fun k g=>l k fun e=>H (by rw[<-e];exact g),j.inv,zbM j.tok (l J f.ne.symm),j.few,by rw[O];exact j.base⟩,?_,f.ge⟩,?_⟩
 ·rw[zae hc];simp
 ·exact (show IS L N F {N with la:=R} r from⟨I.os,I.tape,I.output,I.size,fun k Z V _=>I.block k Z V,I.sub⟩).set _ _
theorem zo6 (h:IM D g b c d T p V) (hn:p.im.length<40):
  Calls prog 247 #[.pointer (some ⟨d,0,none⟩),imV k] V fun e Y=>e= .returned (.tuple #[])/\∃S',IM D g b c d S' {p with im:=p.im++[k]} Y/\IS d T V S' Y:=by
 obtain⟨i0,hi,M,O,i⟩:=info_parts Tryz.infoImp;have L:=zc h;have aa:=h.lt;obtain⟨c0,c1,c2,c3,c4,c5,c6,c7,c8,c9,cf⟩:=zai h.cells;have H:=fun f A=>((L.o.mem.own.im.alloc f).drew.alloc A);have ab:=h.mem.base;have I:some d≠T.im.blk:=fun e=>L.o.free (.inr (.inl e.symm));have HN:=zc I;have U: ∀f A,c<=((V.alloc f).alloc A).heap.size:=fun f A=>by rw[zcX];omega
 have X: ∀f A,d<((V.alloc f).alloc A).heap.size:=fun f A=>by rw[zcX];omega
 clear h I;unfold imV;go_enter func247,ntmps247;go_wp2_with fail;refine (zeq d p.im.length 40 _ (by omega)).mono ?_;rintro e w1 ⟨rfl,rfl⟩;go_wp2_with fail;go_region_law (first|(refine zfA rfl (.tmp 17) (.tmp 19) 49 rfl c 95 i0 _ 3 48 underlying49 hi M O i rfl (by decide) (by decide) T.im p.im.length (p.im.flatMap imL) (by rfl) (by exact H _ _) (V.heap.size+1) (imL k) (by rfl) (by exact new2 V _ _) rfl (zjS k) (by omega) (by exact U _ _) ?_;intro r' w2 hr E J;have Z:=(E.block d (by exact X _ _) HN.o).trans (by exact ((L.o.alloc _).alloc _).cells);obtain⟨d0,d1,d2,d3,d4,d5,d6,d7,d8,d9,df⟩:=zai Z))
 all_goals
  have HR:=zc hr;have HG:=zc E;have N:=zc J;clear hr E J Z c0 c1 c2 c3 c4 c5 c6 c7 c8 c9 cf;go_wp2;go_end0;obtain⟨m',s'⟩:=L.o.grow_im (zbg V _ _).drew HG.o HR.o N.o hn;exact⟨rfl,_,m',s'⟩
end Go.Proofs.YtgcbmogmniahjaaGreat
