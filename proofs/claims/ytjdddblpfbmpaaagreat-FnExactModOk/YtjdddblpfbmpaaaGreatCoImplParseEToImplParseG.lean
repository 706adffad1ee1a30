/-
  What passSigns of impl's parser answers: the walk.
  'append' of one element onto a row of the call's own,as one step of a region that draws its order. No program is spoken of.
  What spec's readers of one token answer: l4Full,l4Sign,l4Word,l4Reserved,l4Plain,l4Name: the walks.
  What spec's l4Plain and l4Name answer: the walks.
  What spec's l4Add,l4Imp,l4Stmt and l4Exp answer: the walks.
  What addExpr of impl's parser answers where there is room: the walk.
  A row of impl's parser grows by one element; what addImp answers where there is room: the walk.
-/
import Derived.Deep.LoopGhost
import Derived.Test.YtjdddblpfbmpaaaGreatCoImplParseCToImplParseD
namespace Go.Proofs.YtjdddblpfbmpaaaGreat
set_option maxRecDepth 100000
set_option maxHeartbeats 3200000
open Go.RowKit Go.PlainAid Go.Sort
def za5 (C:Cx) (s:ByteArray):Nat→Nat→PS→PR
 |0,_,q=>.ok q
 |n+1,k,q=>bd (zd C 4 (s.extract k (k+1)) q) (za5 C s n (k+1))
theorem zfK {C:Cx} {k:Int} {x:ByteArray} {q:PS} (h:isT C q.pos k x=false):zd C k x q= .error (zp C q.pos):=by rw[zd,h];rfl
theorem zb5 {C:Cx} {k:Int} {x:ByteArray} {q:PS} (h:isT C q.pos k x=true):zd C k x q= .ok (adv q):=if_pos h
theorem zfL (C:Cx) (J z n H:Nat) (S:Sv) (q:PS) (s:ByteArray) (w:World) (h:IM C J z n H S q w) (hs:s.size≤100):
  Calls Tryz.prog 195 #[.pointer (some ⟨H,0,none⟩),.string s] w (zM C J z n H (za5 C s s.size 0 q) id (fun _=>.tuple #[]) S w):=by
 go_enter Tryz.func195,Tryz.ntmps195
 go_wp2
 go_loopg [7] s.size (fun k i wr=>∃(j:Nat) (D:PS),i= .int .i64 j∧j+k=s.size∧za5 C s k j D=za5 C s s.size 0 q∧IM C J z n H S D wr∧IS H S w S wr)
 case atStart=>exact⟨0,q,rfl,by omega,rfl,h,IS.refl _ _ _⟩
 case round=>
  obtain⟨j,D,rfl,hj,he,V,t⟩:=hrel
  have K:=zc he
  have Y:=zc t
  clear he t
  match gk,hj,K with
  |0,hj,K=>
   have O: ¬j<s.size:=by omega
   go_wp2
   go_end0
   rw[←K.out]
   exact⟨rfl,S,V,Y.out⟩
  |k+1,hj,K=>
   have O:j<s.size:=by omega
   obtain⟨A,L⟩: ∃A,A=j+1:=⟨_,rfl⟩
   have ej:(j:Int)+1=(A:Int):=by omega
   have ab:A≤s.size:=by omega
   have ac:j≤A:=by omega
   have U:=zc L
   clear L
   cases N:isT C D.pos 4 (s.extract j A) with
   |true=>
    have HX:Hid (za5 C s k A (adv D)=za5 C s s.size 0 q):=by
     show _=_
     rw[←K.out,za5,←U.out,zb5 N]
     rfl
    go_wp2_with fail
    refine (zH C J z n H S D 4 (s.extract j A) _ V (by decide)).mono ?_
    rintro e w1 ⟨rfl,I,M⟩
    rw[N] at I ⊢
    have E:=zc I
    have X:=Y.out.trans M
    clear I M
    go_wp2
    go_roundg k
    case rel=>exact⟨A,adv D,rfl,by have:=U.out;omega,HX.out,E.out,X⟩
    case measure=>omega
   |false=>
    have HX:Hid (za5 C s s.size 0 q= .error (zp C D.pos)):=by
     show _=_
     rw[←K.out,za5,←U.out,zfK N]
     rfl
    go_wp2_with fail
    refine (zH C J z n H S D 4 (s.extract j A) _ V (by decide)).mono ?_
    rintro e w1 ⟨rfl,I,M⟩
    rw[N] at I ⊢
    have E:=zc I
    have HB:=(Y.out.trans M).under h.mem.base h.mem.own h.ge
    clear I M
    go_wp2_with fail
    refine (zdD C J z n H S D _ E.out).mono ?_
    rintro e w2 ⟨rfl,aa⟩
    have Z:=HB.trans (aa.mono E.out.mem.base)
    unfold Pan
    go_wp2
    refine⟨rfl,?_⟩
    rw[HX.out]
    exact⟨rfl,Z⟩
theorem zen {P:Program} {O:Array Oper} {o:Oper} {a:Act} {W:World} {K:Act→World→Prop} {Q:Exit→Act→World→Prop} {E:Prop} (V:o.guard=none) (s x:Operand) (t:TypeId)
  (ho:o.op= .call {callee:=.builtin .append,args:=#[s,x],argTypes:=#[t,t]})
  (A:Nat) (e:TypeId) (i:TypeInfo) (z:Value) (size q:Nat) (ht:P.underlying t=some (.slice e)) (hi:P.info? e=some i) (hz:i.zero=some z) (H:i.size=size) (Y:i.bytes=q) (Z:z.cells.size=size) (X:0<size) (N:q≤100)
  (r:Rw) (n:Nat) (xs:List Value) (hs:a.eval s= .slice r.a n r.cap) (J:OwnR W A e size r n xs)
  (U:Nat) (w:List Value) (hx:a.eval x= .slice (some ⟨U,0,none⟩) 1 1) (hg:W.heap[U]? =some (.cells w.toArray e (0,0))) (hl:w.length=size) (h1: ∀u∈w,u.oneCell'=true) (hn:n+1≤4000000) (I:A≤W.heap.size)
  (h: ∀L M,OwnR M A e size L (n+1) (xs++w)→W.grownBy M r.blk→(L.blk=r.blk∨L.blk=some W.heap.size)→K (a.put o.dst (.slice L.a (n+1) L.cap)) M):
  if Region.wanted o (yielded O a.tmps)=true then Oper.wp P o a W K Q else E:=by
 have hw:Region.wanted o (yielded O a.tmps)=true:=by simp[Region.wanted,V]
 rw[if_pos hw]
 obtain⟨v',M,hr,h2,h3,_,h5⟩:=run_append_own_at (P:=P) W A t o.type e i z size q ht hi hz H Y Z X _ n xs J ⟨U,0,none⟩ 1 1 w (by omega) (by
  intro j u hj
  have e1:(⟨U,0,none⟩:Addr).add j=⟨U,j,none⟩:=by simp[Addr.add];exact fun h=>h.symm
  rw[e1]
  simp[World.cell?,hg,hj]) h1 (by unfold maxLen;omega) (by have:(n+1)*q≤4000000*100:=Nat.mul_le_mul hn N;omega) I
 unfold Oper.wp execOp
 simp only[ho,resolve,invoke,builtin,Sem.run_bind,Sem.run_pure,Result.andThen_ok,List.map_toArray,List.map_cons,List.map_nil,hs,hx,hr]
 rcases h2.2 with ⟨hv,ac⟩|⟨g',D,ab,rfl,aa⟩
 ·omega
 ·refine h ⟨some ⟨g',0,none⟩,D⟩ M h2 ?_ ?_
  ·rw[←zbe r n];exact h3
  ·rw[←zbe r n,←zbe ⟨some ⟨g',0,none⟩,D⟩ (n+1)];exact h5
def Is (x:PR) (q:PS) (z:Int):Prop:=
 match x with
 | .ok q0=>q=q0∧z= -1
 | .error e=>z=(e:Int)
theorem zT (q:PS):Is (.ok q) q (-1):=⟨rfl,rfl⟩
theorem za6 {x:PR} {q:PS} {z:Int} (h:Is x q z) (j:z<0):x= .ok q∧z= -1:=by
 cases x with
 |ok n=>obtain⟨rfl,rfl⟩:=h;exact⟨rfl,rfl⟩
 |error e=>have:z=(e:Int):=h;omega
theorem zcM {x:PR} {q:PS} {z:Int} (h:Is x q z) (j: ¬z<0): ∃e,x= .error e∧z=(e:Int):=by
 cases x with
 |ok n=>obtain⟨rfl,rfl⟩:=h;exact absurd (by decide) j
 |error e=>exact⟨e,rfl,h⟩
def Out (C:Cx) (gt cap base:Nat) (y:PR) (d:Nat) (S:Sv) (w:World) (e:Ending) (w':World):Prop:=
 ∃S' q' z',e= .returned (pv C gt cap S' q' z' d)∧Hid (Is y q' z')∧Mem C gt cap base S' q' w'∧Stp S w S' w'
theorem zcb {C:Cx} {n j h:Nat} {y:PR} {d:Nat} {S:Sv} {w q:World} {q':PS} {z':Int} {v:Value} (D:v=pv C n j S q' z' d) (E:Is y q' z') (A:Mem C n j h S q' w) (z:Below w.heap.size w q):Out C n j h y d S w (.returned v) q:=
 ⟨S,q',z',by rw[D],E,A.later z,Stp.below z⟩
theorem zeo (C:Cx) (E h j:Nat) (S:Sv) (q:PS) (z:Int) (d:Nat) (w:World) (n:Mem C E h j S q w) (N:z<0) (M:1≤q.pos):
  Calls Tryz.prog 152 #[pv C E h S q z d] w fun e J=>e= .returned (pv C E h S q (zp C (q.pos-1)) d)∧Below w.heap.size w J:=by
 obtain⟨p,D⟩: ∃p,q.pos=p+1:=⟨q.pos-1,by omega⟩
 have A:p<C.ts.length:=by have:=n.inv.pos;omega
 have I:=n.few
 obtain⟨_,_,_,L⟩:=n.tok.cells A (d:=⟨0,sNone,0,C.fin⟩)
 have H:=(zaj n.tok).1
 change _=some (Value.int .i64 (zp C p)) at L
 rw[show q.pos-1=p from by omega]
 have K:(q.pos:Int)-1=p:=by omega
 clear D
 unfold pv
 go_enter Tryz.func152,Tryz.ntmps152
 go_wp2
 refine bodyPost_ret (results_cell_row rfl _ _ (w.heap.size+1) 122 _ (0,0) _ rfl (new2 w _ _) Tryz.underlying122 rfl (by kernel_rfl)) rfl ?_
 exact⟨rfl,zaJ w _ _⟩
theorem zZ (C:Cx) (J j h:Nat) (x:PR) (S:Sv) (q:PS) (z:Int) (d:Nat) (s:ByteArray) (w:World) (hx:Is x q z) (Z:Mem C J j h S q w):
  Calls Tryz.prog 110 #[pv C J j S q z d,.string s] w (Out C J j h (bd x (zd C 4 s)) d S w):=by
 have HM:=zc Z
 have n:=Z.tok
 have D:=Z.few
 have HX:=zc hx
 clear hx Z
 cases A:(decide (z<0)&&isT C q.pos 4 s) with
 |true=>
  have aa:q.pos<C.ts.length:=by rw[Bool.and_eq_true] at A;exact zax A.2 (by decide)
  have HY:Hid (Is (bd x (zd C 4 s)) (adv q) z):=by
   rw[Bool.and_eq_true,decide_eq_true_eq] at A
   obtain⟨M,Y⟩:=za6 HX.out A.1
   show Is (bd x (zd C 4 s)) (adv q) z
   rw[M,zx,zd,if_pos A.2]
   exact⟨rfl,Y⟩
  unfold pv
  go_enter Tryz.func110,Tryz.ntmps110
  go_wp2_with fail
  refine (zg C J j h S q z d 4 s _ (zo (zo n _) _) D (by decide)).mono ?_
  rintro e w1 ⟨rfl,E⟩
  rw[A]
  obtain⟨V,I⟩:=zck E
  obtain⟨a0,a1,a2,a3,a4,a5,a6,a7,a8,a9,N,U,af⟩:=zaf V
  obtain⟨b0,b1,b2,b3,b4,b5,b6,b7,b8,b9,L,K,bf⟩:=zaf I
  have G2:=zc I
  clear V I A
  go_wp2
  refine bodyPost_ret (results_cell_row rfl _ _ (w.heap.size+1) 122 _ (0,0) _ rfl (zaI ((zt (by omega)).trans G2.out)) Tryz.underlying122 rfl (by kernel_rfl)) rfl ?_
  exact zcb rfl HY.out (HM.out.adv aa) (zb2 ((zaO E).setCell (Nat.le_refl _) _) (Nat.le_succ _) ..)
 |false=>
  have HY:Hid (Is (bd x (zd C 4 s)) q (zbf C q.pos z)):=by
   show Is (bd x (zd C 4 s)) q (zbf C q.pos z)
   unfold zbf
   by_cases O:z<0
   ·obtain⟨M,Y⟩:=za6 HX.out O
    simp only[O,decide_true,Bool.true_and] at A
    rw[M,zx,zd,A,if_pos O]
    rfl
   ·obtain⟨e,M,Y⟩:=zcM HX.out O
    rw[M,zd5,if_neg O]
    exact Y
  unfold pv
  go_enter Tryz.func110,Tryz.ntmps110
  go_wp2_with fail
  refine (zg C J j h S q z d 4 s _ (zo (zo n _) _) D (by decide)).mono ?_
  rintro e w1 ⟨rfl,E⟩
  rw[A]
  obtain⟨V,I⟩:=zck E
  obtain⟨a0,a1,a2,a3,a4,a5,a6,a7,a8,a9,N,U,af⟩:=zaf V
  obtain⟨b0,b1,b2,b3,b4,b5,b6,b7,b8,b9,L,K,bf⟩:=zaf I
  have G2:=zc I
  have H:=zbK n (zaO E)
  clear V I A
  go_wp2_with fail
  refine (zcK C J j h S q z d _ H D).mono ?_
  rintro e w2 ⟨rfl,X⟩
  have G3:Hid (_=_):=(X.block _ (Nat.lt_of_lt_of_le (by simp) E.size)).trans G2.out
  obtain⟨c0,c1,c2,c3,c4,c5,c6,c7,c8,c9,ad,ac,cf⟩:=zaf G3.out
  have ab:=(zaO E).trans (X.mono (zaO E).size)
  clear a0 a1 a2 a3 a4 a5 a6 a7 a8 a9 N U b0 b1 b2 b3 b4 b5 b6 b7 b8 b9 L K af bf
  unfold pv
  go_wp2
  refine bodyPost_ret (results_cell_row rfl _ _ (w.heap.size+1) 122 _ (0,0) _ rfl (zaI G3.out) Tryz.underlying122 rfl (by kernel_rfl)) rfl ?_
  exact zcb rfl HY.out HM.out (zb2 ab (Nat.le_succ _) ..)
-- GEN
theorem zaA (C:Cx) (J j h:Nat) (x:PR) (S:Sv) (q:PS) (z:Int) (d:Nat) (s:ByteArray) (w:World) (hx:Is x q z) (Z:Mem C J j h S q w):
  Calls Tryz.prog 112 #[pv C J j S q z d,.string s] w (Out C J j h (bd x (zd C 1 s)) d S w):=by
 have HM:=zc Z
 have n:=Z.tok
 have D:=Z.few
 have HX:=zc hx
 clear hx Z
 cases A:(decide (z<0)&&isT C q.pos 1 s) with
 |true=>
  have aa:q.pos<C.ts.length:=by rw[Bool.and_eq_true] at A;exact zax A.2 (by decide)
  have HY:Hid (Is (bd x (zd C 1 s)) (adv q) z):=by
   rw[Bool.and_eq_true,decide_eq_true_eq] at A
   obtain⟨M,Y⟩:=za6 HX.out A.1
   show Is (bd x (zd C 1 s)) (adv q) z
   rw[M,zx,zd,if_pos A.2]
   exact⟨rfl,Y⟩
  unfold pv
  go_enter Tryz.func112,Tryz.ntmps112
  go_wp2_with fail
  refine (zg C J j h S q z d 1 s _ (zo (zo n _) _) D (by decide)).mono ?_
  rintro e w1 ⟨rfl,E⟩
  rw[A]
  obtain⟨V,I⟩:=zck E
  obtain⟨a0,a1,a2,a3,a4,a5,a6,a7,a8,a9,N,U,af⟩:=zaf V
  obtain⟨b0,b1,b2,b3,b4,b5,b6,b7,b8,b9,L,K,bf⟩:=zaf I
  have G2:=zc I
  clear V I A
  go_wp2
  refine bodyPost_ret (results_cell_row rfl _ _ (w.heap.size+1) 122 _ (0,0) _ rfl (zaI ((zt (by omega)).trans G2.out)) Tryz.underlying122 rfl (by kernel_rfl)) rfl ?_
  exact zcb rfl HY.out (HM.out.adv aa) (zb2 ((zaO E).setCell (Nat.le_refl _) _) (Nat.le_succ _) ..)
 |false=>
  have HY:Hid (Is (bd x (zd C 1 s)) q (zbf C q.pos z)):=by
   show Is (bd x (zd C 1 s)) q (zbf C q.pos z)
   unfold zbf
   by_cases O:z<0
   ·obtain⟨M,Y⟩:=za6 HX.out O
    simp only[O,decide_true,Bool.true_and] at A
    rw[M,zx,zd,A,if_pos O]
    rfl
   ·obtain⟨e,M,Y⟩:=zcM HX.out O
    rw[M,zd5,if_neg O]
    exact Y
  unfold pv
  go_enter Tryz.func112,Tryz.ntmps112
  go_wp2_with fail
  refine (zg C J j h S q z d 1 s _ (zo (zo n _) _) D (by decide)).mono ?_
  rintro e w1 ⟨rfl,E⟩
  rw[A]
  obtain⟨V,I⟩:=zck E
  obtain⟨a0,a1,a2,a3,a4,a5,a6,a7,a8,a9,N,U,af⟩:=zaf V
  obtain⟨b0,b1,b2,b3,b4,b5,b6,b7,b8,b9,L,K,bf⟩:=zaf I
  have G2:=zc I
  have H:=zbK n (zaO E)
  clear V I A
  go_wp2_with fail
  refine (zcK C J j h S q z d _ H D).mono ?_
  rintro e w2 ⟨rfl,X⟩
  have G3:Hid (_=_):=(X.block _ (Nat.lt_of_lt_of_le (by simp) E.size)).trans G2.out
  obtain⟨c0,c1,c2,c3,c4,c5,c6,c7,c8,c9,ad,ac,cf⟩:=zaf G3.out
  have ab:=(zaO E).trans (X.mono (zaO E).size)
  clear a0 a1 a2 a3 a4 a5 a6 a7 a8 a9 N U b0 b1 b2 b3 b4 b5 b6 b7 b8 b9 L K af bf
  unfold pv
  go_wp2
  refine bodyPost_ret (results_cell_row rfl _ _ (w.heap.size+1) 122 _ (0,0) _ rfl (zaI G3.out) Tryz.underlying122 rfl (by kernel_rfl)) rfl ?_
  exact zcb rfl HY.out HM.out (zb2 ab (Nat.le_succ _) ..)
theorem zdh (s:ByteArray) (h:Bool) (w:World):
  Calls Tryz.prog 180 #[.string s,.bool h] w fun e L=>e= .returned (.bool (zs s h))∧L=w:=by
 cases n:(s.toList==[105,109,112,111,114,116]) with
 |true=>
  have j:Hid (zs s h=true):=by show zs s h=true;simp[zs,n]
  go_enter Tryz.func180,Tryz.ntmps180
  go_wp2
  go_ret
  exact⟨zl j.out.symm,rfl⟩
 |false=>
  cases q:(s.toList==[101,120,112,111,114,116]) with
  |true=>
   have j:Hid (zs s h=true):=by show zs s h=true;simp[zs,n,q]
   go_enter Tryz.func180,Tryz.ntmps180
   go_wp2
   go_ret
   exact⟨zl j.out.symm,rfl⟩
  |false=>
   cases z:(s.toList==[100,101,102,97,117,108,116]) with
   |true=>
    have j:Hid (zs s h=true):=by show zs s h=true;simp[zs,n,q,z]
    go_enter Tryz.func180,Tryz.ntmps180
    go_wp2
    go_ret
    exact⟨zl j.out.symm,rfl⟩
   |false=>
    cases A:(s.toList==[108,101,116]) with
    |true=>
     have j:Hid (zs s h=true):=by show zs s h=true;simp[zs,n,q,z,A]
     go_enter Tryz.func180,Tryz.ntmps180
     go_wp2
     go_ret
     exact⟨zl j.out.symm,rfl⟩
    |false=>
     cases D:(s.toList==[102,117,110,99,116,105,111,110]) with
     |true=>
      have j:Hid (zs s h=true):=by show zs s h=true;simp[zs,n,q,z,A,D]
      go_enter Tryz.func180,Tryz.ntmps180
      go_wp2
      go_ret
      exact⟨zl j.out.symm,rfl⟩
     |false=>
      cases E:(s.toList==[114,101,116,117,114,110]) with
      |true=>
       have j:Hid (zs s h=true):=by show zs s h=true;simp[zs,n,q,z,A,D,E]
       go_enter Tryz.func180,Tryz.ntmps180
       go_wp2
       go_ret
       exact⟨zl j.out.symm,rfl⟩
      |false=>
       cases H:(s.toList==[112,114,105,110,116]) with
       |true=>
        have j:Hid (zs s h=true):=by show zs s h=true;simp[zs,n,q,z,A,D,E,H]
        go_enter Tryz.func180,Tryz.ntmps180
        go_wp2
        go_ret
        exact⟨zl j.out.symm,rfl⟩
       |false=>
        cases I:(s.toList==[116,104,114,111,119]) with
        |true=>
         have j:Hid (zs s h=true):=by show zs s h=true;simp[zs,n,q,z,A,D,E,H,I]
         go_enter Tryz.func180,Tryz.ntmps180
         go_wp2
         go_ret
         exact⟨zl j.out.symm,rfl⟩
        |false=>
         cases J:(s.toList==[102,97,105,108]) with
         |true=>
          have j:Hid (zs s h=h):=by show zs s h=h;simp[zs,n,q,z,A,D,E,H,I,J]
          go_enter Tryz.func180,Tryz.ntmps180
          go_wp2
          go_ret
          exact⟨zl j.out.symm,rfl⟩
         |false=>
          cases K:(s.toList==[117,110,100,101,102]) with
          |true=>
           have j:Hid (zs s h=h):=by show zs s h=h;simp[zs,n,q,z,A,D,E,H,I,J,K]
           go_enter Tryz.func180,Tryz.ntmps180
           go_wp2
           go_ret
           exact⟨zl j.out.symm,rfl⟩
          |false=>
           have j:Hid (zs s h=false):=by show zs s h=false;simp[zs,n,q,z,A,D,E,H,I,J,K]
           go_enter Tryz.func180,Tryz.ntmps180
           go_wp2
           go_ret
           exact⟨zl j.out.symm,rfl⟩
theorem zk2 {C:Cx} {i:Nat} {o:Bool} (h:((ze C i).kind==1)=false):zB C i o=false:=by rw[zB,h];rfl
theorem zfM {C:Cx} {i:Nat} {o:Bool} (h: ¬i<C.ts.length):zB C i o=false:=by
 rw[Bool.eq_false_iff]
 exact fun g=>h (zea g)
theorem zeS (C:Cx) (V H E:Nat) (S:Sv) (q:PS) (z:Int) (d:Nat) (o:Bool) (w:World) (L:OwnT w E 143 V C.ts.length H C.ts) (_:C.ts.length≤4000):
  Calls Tryz.prog 147 #[pv C V H S q z d,.bool o] w fun e n=>e= .returned (.bool (decide (z<0)&&zB C q.pos o))∧Below w.heap.size w n:=by
 unfold pv
 by_cases O:z<0
 ·have A:decide (z<0)=true:=decide_eq_true O
  have J:decide (0≤z)=false:=decide_eq_false (by omega)
  by_cases U:q.pos<C.ts.length
  ·obtain⟨Y,N,_,_⟩:=L.cells U (d:=⟨0,sNone,0,C.fin⟩)
   have M:=(zaj L).1
   change _=some (Value.int .i64 (ze C q.pos).kind) at Y
   change _=some (Value.string (ze C q.pos).text) at N
   generalize h:ze C q.pos=t at Y N
   cases D:(t.kind==1) with
   |true=>
    have K:(t.kind !=1)=false:=by rw[bne,D];rfl
    cases I:zs t.text C.scr with
    |false=>
     have j:Hid (zB C q.pos o=true):=by show zB C q.pos o=true;simp only[zB,h,D,I,Bool.not_false,Bool.true_or,Bool.and_self]
     clear h
     go_enter Tryz.func147,Tryz.ntmps147
     go_wp2_with (first|(go_at_call 180;refine (zdh _ _ _).mono ?_;rintro e n ⟨rfl,rfl⟩))
     go_ret
     exact⟨zl (by first|(rw[A,j.out];rfl)|rfl),(Below.refl _ _).alloc (Nat.le_refl _) _⟩
    |true=>
     cases o with
     |true=>
      cases X:(t.text.toList==[100,101,102,97,117,108,116]) with
      |true=>
       have j:Hid (zB C q.pos true=true):=by show zB C q.pos true=true;simp only[zB,h,D,I,X,Bool.not_true,Bool.and_self,Bool.false_or]
       clear h
       go_enter Tryz.func147,Tryz.ntmps147
       go_wp2_with (first|(go_at_call 180;refine (zdh _ _ _).mono ?_;rintro e n ⟨rfl,rfl⟩))
       go_ret
       exact⟨zl (by first|(rw[A,j.out];rfl)|rfl),(Below.refl _ _).alloc (Nat.le_refl _) _⟩
      |false=>
       have j:Hid (zB C q.pos true=false):=by show zB C q.pos true=false;simp only[zB,h,D,I,X,Bool.not_true,Bool.true_and,Bool.or_self]
       clear h
       go_enter Tryz.func147,Tryz.ntmps147
       go_wp2_with (first|(go_at_call 180;refine (zdh _ _ _).mono ?_;rintro e n ⟨rfl,rfl⟩))
       go_ret
       exact⟨zl (by first|(rw[A,j.out];rfl)|rfl),(Below.refl _ _).alloc (Nat.le_refl _) _⟩
     |false=>
      have j:Hid (zB C q.pos false=false):=by show zB C q.pos false=false;simp only[zB,h,D,I,Bool.not_true,Bool.false_and,Bool.or_self,Bool.and_false]
      clear h
      go_enter Tryz.func147,Tryz.ntmps147
      go_wp2_with (first|(go_at_call 180;refine (zdh _ _ _).mono ?_;rintro e n ⟨rfl,rfl⟩))
      go_ret
      exact⟨zl (by first|(rw[A,j.out];rfl)|rfl),(Below.refl _ _).alloc (Nat.le_refl _) _⟩
   |false=>
    have K:(t.kind !=1)=true:=by rw[bne,D];rfl
    have j:Hid (zB C q.pos o=false):=zk2 (by rw[h];exact D)
    clear h
    go_enter Tryz.func147,Tryz.ntmps147
    go_wp2_with (first|(go_at_call 180;refine (zdh _ _ _).mono ?_;rintro e n ⟨rfl,rfl⟩))
    go_ret
    exact⟨zl (by first|(rw[A,j.out];rfl)|rfl),(Below.refl _ _).alloc (Nat.le_refl _) _⟩
  ·have j:Hid (zB C q.pos o=false):=zfM U
   go_enter Tryz.func147,Tryz.ntmps147
   go_wp2_with (first|(go_at_call 180;refine (zdh _ _ _).mono ?_;rintro e n ⟨rfl,rfl⟩))
   go_ret
   exact⟨zl (by first|(rw[A,j.out];rfl)|rfl),(Below.refl _ _).alloc (Nat.le_refl _) _⟩
 ·have A:decide (z<0)=false:=decide_eq_false O
  have J:decide (0≤z)=true:=decide_eq_true (by omega)
  have j:Hid (zB C q.pos o=zB C q.pos o):=rfl
  go_enter Tryz.func147,Tryz.ntmps147
  go_wp2_with (first|(go_at_call 180;refine (zdh _ _ _).mono ?_;rintro e n ⟨rfl,rfl⟩))
  go_ret
  exact⟨zl (by first|(rw[A,j.out];rfl)|rfl),(Below.refl _ _).alloc (Nat.le_refl _) _⟩
def Is2 (y:Except Nat (PS×ByteArray)) (q:PS) (z:Int) (n:ByteArray):Prop:=
 match y with
 | .ok a=>q=a.1∧z= -1∧n=a.2
 | .error e=>z=(e:Int)
theorem Is2.fst {y:Except Nat (PS×ByteArray)} {q:PS} {z:Int} {n:ByteArray} (h:Is2 y q z n):Is (zaE y) q z:=by
 cases y with
 |ok a=>exact⟨h.1,h.2.1⟩
 |error e=>exact h
theorem Is2.bind {y:Except Nat (PS×ByteArray)} {q:PS} {z:Int} {n:ByteArray} (h:Is2 y q z n) {β:Type} (F:PS→ByteArray→Except Nat β):bd (zaE y) (fun q=>F q n)=bd y fun a=>F a.1 a.2:=by
 cases y with
 |ok a=>obtain⟨_,_,rfl⟩:=h;rfl
 |error e=>rfl
def zcU (C:Cx) (gt cap base:Nat) (y:Except Nat (PS×ByteArray)) (d:Nat) (S:Sv) (w:World) (e:Ending) (w':World):Prop:=
 ∃S' q' z' n',e= .returned (.tuple #[pv C gt cap S' q' z' d,.string n'])∧Hid (Is2 y q' z' n')∧Mem C gt cap base S' q' w'∧Stp S w S' w'
theorem zdi {C:Cx} {q j h:Nat} {y:Except Nat (PS×ByteArray)} {d:Nat} {S:Sv} {w z:World} {q':PS} {z':Int} {n:ByteArray} {v:Value} (E:v=pv C q j S q' z' d) (H:Is2 y q' z' n) (D:Mem C q j h S q' w) (A:Below w.heap.size w z):zcU C q j h y d S w (.returned (.tuple #[v,.string n])) z:=
 ⟨S,q',z',n,by rw[E],H,D.later A,Stp.below A⟩
theorem zaS (C:Cx) (J A h:Nat) (x:PR) (S:Sv) (q:PS) (z:Int) (d:Nat) (o:Bool) (w:World) (hx:Is x q z) (Y:Mem C J A h S q w):
  Calls Tryz.prog 114 #[pv C J A S q z d,.bool o] w (zcU C J A h (bd x (zh C o)) d S w):=by
 have HM:=zc Y
 have n:=Y.tok
 have E:=Y.few
 have HX:=zc hx
 clear hx Y
 cases D:(decide (z<0)&&zB C q.pos o) with
 |true=>
  have K:q.pos<C.ts.length:=by rw[Bool.and_eq_true] at D;exact zea D.2
  have HY:Hid (Is2 (bd x (zh C o)) (adv q) z (ze C q.pos).text):=by
   rw[Bool.and_eq_true,decide_eq_true_eq] at D
   obtain⟨L,X⟩:=za6 HX.out D.1
   show Is2 (bd x (zh C o)) (adv q) z (ze C q.pos).text
   rw[L,zx,zh,if_pos D.2]
   exact⟨rfl,X,rfl⟩
  unfold pv
  go_enter Tryz.func114,Tryz.ntmps114
  go_wp2_with fail
  refine (zeS C J A h S q z d o _ (zo (zo n _) _) E).mono ?_
  rintro e w1 ⟨rfl,H⟩
  rw[D]
  obtain⟨U,I⟩:=zck H
  obtain⟨a0,a1,a2,a3,a4,a5,a6,a7,a8,a9,M,O,af⟩:=zaf U
  obtain⟨b0,b1,b2,b3,b4,b5,b6,b7,b8,b9,ab,aa,bf⟩:=zaf I
  have j:=zbK n (zaO H)
  obtain⟨_,c1,_,_⟩:=j.cells K (d:=⟨0,sNone,0,C.fin⟩)
  change _=some (Value.string (ze C q.pos).text) at c1
  have G2:=zc I
  clear U I D
  go_wp2
  refine bodyPost_ret (zay rfl _ _ (w.heap.size+1) 122 _ (0,0) _ rfl (zaI ((zt (by omega)).trans G2.out)) Tryz.underlying122 rfl (by kernel_rfl)) rfl ?_
  exact zdi rfl HY.out (HM.out.adv K) (zb2 ((zaO H).setCell (Nat.le_refl _) _) (Nat.le_succ _) ..)
 |false=>
  have HY:Hid (Is2 (bd x (zh C o)) q (zbf C q.pos z) sNone):=by
   show Is2 (bd x (zh C o)) q (zbf C q.pos z) sNone
   unfold zbf
   by_cases N:z<0
   ·obtain⟨L,X⟩:=za6 HX.out N
    simp only[N,decide_true,Bool.true_and] at D
    rw[L,zx,zh,D,if_pos N]
    rfl
   ·obtain⟨e,L,X⟩:=zcM HX.out N
    rw[L,zd5,if_neg N]
    exact X
  unfold pv
  go_enter Tryz.func114,Tryz.ntmps114
  go_wp2_with fail
  refine (zeS C J A h S q z d o _ (zo (zo n _) _) E).mono ?_
  rintro e w1 ⟨rfl,H⟩
  rw[D]
  obtain⟨U,I⟩:=zck H
  obtain⟨a0,a1,a2,a3,a4,a5,a6,a7,a8,a9,M,O,af⟩:=zaf U
  have G2:=zc I
  have j:=zbK n (zaO H)
  clear U I D
  go_wp2_with fail
  refine (zcK C J A h S q z d _ j E).mono ?_
  rintro e w2 ⟨rfl,V⟩
  have G3:Hid (_=_):=(V.block _ (Nat.lt_of_lt_of_le (by simp) H.size)).trans G2.out
  obtain⟨c0,c1,c2,c3,c4,c5,c6,c7,c8,c9,ad,ac,cf⟩:=zaf G3.out
  have Z:=(zaO H).trans (V.mono (zaO H).size)
  clear a0 a1 a2 a3 a4 a5 a6 a7 a8 a9 M O af
  unfold pv
  go_wp2
  refine bodyPost_ret (zay rfl _ _ (w.heap.size+1) 122 _ (0,0) _ rfl (zaI G3.out) Tryz.underlying122 rfl (by kernel_rfl)) rfl ?_
  exact zdi rfl HY.out HM.out (zb2 Z (Nat.le_succ _) ..)
theorem Tryz.infoImp:(Tryz.prog.info? 84).map (fun i=>(i.zero,i.size,i.bytes))=some (some (.agg #[.string {data:=#[]},.string {data:=#[]},.string {data:=#[]}]),3,48):=by kernel_rfl
theorem Tryz.infoExp:(Tryz.prog.info? 86).map (fun i=>(i.zero,i.size,i.bytes))=some (some (.agg #[.int .i64 0,.string {data:=#[]},.string {data:=#[]},.string {data:=#[]}]),4,56):=by kernel_rfl
theorem Tryz.infoStmt:(Tryz.prog.info? 107).map (fun i=>(i.zero,i.size,i.bytes))=some (some (.agg #[.int .i64 0,.string {data:=#[]},.int .i64 0]),3,32):=by kernel_rfl
theorem Tryz.infoExpr:(Tryz.prog.info? 109).map (fun i=>(i.zero,i.size,i.bytes))=some (some (.agg #[.int .i64 0,.int .i64 0,.string {data:=#[]},.string {data:=#[]},.int .i64 0,.int .i64 0]),6,64):=by kernel_rfl
def imV (x:Im):Value:=.agg #[.string x.spec,.string x.first,.string x.loc]
def epV (x:Ep):Value:=.agg #[.int .i64 x.kind,.string x.name,.string x.loc,.string x.spec]
def exV (x:Ex):Value:=.agg #[.int .i64 x.kind,.int .i64 x.num,.string x.name,.string x.field,.int .i64 x.l,.int .i64 x.r]
theorem zcz (w:World) (a b c:Obj):Below w.heap.size w (((w.alloc a).alloc b).alloc c):=(zaJ w a b).alloc (zaJ w a b).size c
theorem zeT (w:World) (a b c d:Obj):Below w.heap.size w ((((w.alloc a).alloc b).alloc c).alloc d):=(zcz w a b c).alloc (zcz w a b c).size d
theorem zcm (w:World) (a b:Obj):((w.alloc a).alloc b).heap.size=w.heap.size+1+1:=by rw[zk,zk]
theorem zW (w:World) (a b c:Obj):(((w.alloc a).alloc b).alloc c).heap.size=w.heap.size+1+1+1:=by rw[zk,zcm]
theorem za0 (w:World) (a b c d:Obj):((((w.alloc a).alloc b).alloc c).alloc d).heap.size=w.heap.size+1+1+1+1:=by rw[zk,zW]
theorem new3 (w:World) (a b c:Obj):(((w.alloc a).alloc b).alloc c).heap[w.heap.size]? =some a∧(((w.alloc a).alloc b).alloc c).heap[w.heap.size+1]? =some b∧(((w.alloc a).alloc b).alloc c).heap[w.heap.size+1+1]? =some c:=by
 refine⟨?_,?_,?_⟩
 ·rw[Below.heap_alloc _ _ _ (by rw[zcm];omega),Below.heap_alloc _ _ _ (by rw[zk];omega)]
  exact heap_alloc_new w a
 ·rw[Below.heap_alloc _ _ _ (by rw[zcm];omega)]
  exact new2 w a b
 ·rw[←zcm w a b]
  exact heap_alloc_new _ c
theorem zb6 (w:World) (a b c d:Obj):((((w.alloc a).alloc b).alloc c).alloc d).heap[w.heap.size]? =some a∧((((w.alloc a).alloc b).alloc c).alloc d).heap[w.heap.size+1]? =some b∧((((w.alloc a).alloc b).alloc c).alloc d).heap[w.heap.size+1+1]? =some c∧((((w.alloc a).alloc b).alloc c).alloc d).heap[w.heap.size+1+1+1]? =some d:=by
 obtain⟨h,j,n⟩:=new3 w a b c
 refine⟨?_,?_,?_,?_⟩
 ·rw[Below.heap_alloc _ _ _ (by rw[zW];omega)]
  exact h
 ·rw[Below.heap_alloc _ _ _ (by rw[zW];omega)]
  exact j
 ·rw[Below.heap_alloc _ _ _ (by rw[zW];omega)]
  exact n
 ·rw[←zW w a b c]
  exact heap_alloc_new _ d
theorem zfN {w h:World} {a b c:Obj} (j:Below (((w.alloc a).alloc b).alloc c).heap.size (((w.alloc a).alloc b).alloc c) h):Below w.heap.size w h:=(zcz w a b c).trans (j.mono (zcz w a b c).size)
theorem zeU {C:Cx} {x:PR} {q:PS} {z:Int} {f:PS→PR} (j:Is x q z) (n:z<0) (h:f q= .error (zp C (q.pos-1))):Is (bd x f) q (zp C (q.pos-1)):=by
 obtain⟨rfl,_⟩:=za6 j n
 rw[zx,h]
 rfl
theorem zeV {x:PR} {q:PS} {z:Int} {f:PS→PR} (j:Is x q z) (n: ¬z<0):Is (bd x f) q z:=by
 obtain⟨e,rfl,h⟩:=zcM j n
 exact h
theorem zep {x:PR} {q q':PS} {z:Int} {f:PS→PR} (n:Is x q z) (w:z<0) (j:f q= .ok q'):Is (bd x f) q' z:=by
 obtain⟨rfl,h⟩:=za6 n w
 rw[zx,j]
 exact⟨rfl,h⟩
theorem zdj {w W:World} {h:Nat} {S:Sv} {q:PS} (j:Own w h S q) (_:w.heap.size≤W.heap.size) {r:Option Nat} (n: ∀k,r=some k→S.has k) (b:Nat) (z:w.heap.size≤b):some b≠r:=fun e=>by have:=(j.has (n b e.symm)).2;omega
theorem zc0 (C:Cx) (N j h:Nat) (x:PR) (S:Sv) (q:PS) (z:Int) (d:Nat) (y:Ex) (w:World) (hx:Is x q z) (J:Mem C N j h S q w) (O:z<0→1≤q.pos):
  Calls Tryz.prog 151 #[pv C N j S q z d,exV y] w (Out C N j h (bd x (zL C y)) d S w):=by
 obtain⟨i0,hi,V,aa,Y⟩:=info_parts Tryz.infoExpr
 have D:=zc J
 have HX:=zc hx
 have ab:q.ex.length≤300:=by have:=J.inv.ex;omega
 clear hx
 by_cases H:z<0
 ·have dz:decide (0≤z)=false:=decide_eq_false (by omega)
  by_cases hn:300≤q.ex.length
  ·have K:Hid (Is (bd x (zL C y)) q (zp C (q.pos-1))):=zeU HX.out H (if_pos hn)
   have qn:decide ((300:Int)≤(q.ex.length:Int))=true:=decide_eq_true (by omega)
   have I:=O H
   clear O J
   unfold pv exV
   go_enter Tryz.func151,Tryz.ntmps151
   go_wp2_with fail
   refine (zeo C N j h S q z d _ (((D.out.alloc _).alloc _).alloc _) H I).mono ?_
   rintro e w2 ⟨rfl,E⟩
   have U:Below w.heap.size w w2:=zfN E
   have G3:Hid (_=_):=(E.block (w.heap.size+1+1) (by rw[zW];omega)).trans ((new3 w _ _ _).2.2)
   obtain⟨c0,c1,c2,c3,c4,c5,c6,c7,c8,c9,ad,ai,cf⟩:=zaf G3.out
   clear E
   unfold pv
   go_wp2
   refine bodyPost_ret (results_cell_row rfl _ _ (w.heap.size+1+1) 122 _ (0,0) _ rfl (zaI G3.out) Tryz.underlying122 rfl (by kernel_rfl)) rfl ?_
   exact zcb rfl K.out D.out (zb2 U (by omega) ..)
  ·have qn:decide ((300:Int)≤(q.ex.length:Int))=false:=decide_eq_false (by omega)
   have K:Hid (Is (bd x (zL C y)) {q with ex:=q.ex++[y]} z):=zep HX.out H (if_neg hn)
   have n:=fun o1 o2 o3 o4=>((((D.out.own.ex.alloc o1).alloc o2).alloc o3).alloc o4)
   clear O J
   unfold pv exV
   go_enter Tryz.func151,Tryz.ntmps151
   go_wp2_with (at_builtin;refine zch _ rfl _ _ 34 rfl h 109 i0 _ 6 64 Tryz.underlying34 hi V aa Y rfl (by decide) (by decide) S.ex q.ex.length _ (by rfl) (n ..) (w.heap.size+1+1+1) (exL y) (by rfl) (by first|exact (zb6 w ..).2.2.2|exact (new3 w _ _ _).2.2) rfl (by intro u hu;simp[exL] at hu;rcases hu with rfl|rfl|rfl|rfl|rfl|rfl<;>rfl) (by omega) (by have:=D.out.base;(first|rw[za0]|rw[zW]);omega) ?_)
   intro r' w2 hr M L
   have HR:=zc hr
   have HG:=zc M
   have X:=zc L
   have A:=fun b hb=>zdj (W:=w) D.out.own (Nat.le_refl _) (r:=S.ex.blk) (fun k e=>.inr (.inr (.inr (.inr (.inl e))))) b hb
   have g1:=(M.block w.heap.size (by (first|rw[za0]|rw[zW]);omega) (A _ (Nat.le_refl _))).trans (by first|exact (zb6 w ..).1|exact (new3 w _ _ _).1)
   have Z:=(M.block (w.heap.size+1+1) (by (first|rw[za0]|rw[zW]);omega) (A _ (by omega))).trans (by first|exact (zb6 w ..).2.2.1|exact (new3 w _ _ _).2.1)
   obtain⟨a0,a1,a2,a3,a4,a5,a6,a7,a8,a9,ac,ag,af⟩:=zaf g1
   obtain⟨b0,b1,b2,b3,b4,b5,b6,b7,b8,b9,ah,ae,bf⟩:=zaf Z
   have G2:=zc Z
   clear g1 Z M hr L A n
   go_wp2
   refine bodyPost_ret (results_cell_row rfl _ _ (w.heap.size+1+1) 122 _ (0,0) _ rfl (zaI ((zt (by omega)).trans G2.out)) Tryz.underlying122 rfl (by kernel_rfl)) rfl ?_
   obtain⟨m',s'⟩:=D.out.grow_ex (x:=y) (zeT w ..) HG.out HR.out (by (first|rw[za0]|rw[zW]);exact X.out) (((Off.refl _ _ _).set (b:=w.heap.size) (Nat.le_refl _) (by (first|rw[za0]|rw[zW]);omega) _ _).set12 (b:=w.heap.size+1+1) (by omega) (by (first|rw[za0]|rw[zW]);omega) ..) (by omega)
   exact⟨_,{q with ex:=q.ex++[y]},z,by simp[pv],K.out,m',s'⟩
 ·have dz:decide (0≤z)=true:=decide_eq_true (by omega)
  have K:Hid (Is (bd x (zL C y)) q z):=zeV HX.out H
  clear O J
  unfold pv exV
  go_enter Tryz.func151,Tryz.ntmps151
  go_wp2
  refine bodyPost_ret (results_cell_row rfl _ _ (w.heap.size+1+1) 122 _ (0,0) _ rfl ((new3 w _ _ _).2.2) Tryz.underlying122 rfl (by kernel_rfl)) rfl ?_
  exact zcb rfl K.out D.out (zcz w _ _ _)
theorem zfO (C:Cx) (N j h:Nat) (x:PR) (S:Sv) (q:PS) (z:Int) (d:Nat) (y:Im) (w:World) (hx:Is x q z) (J:Mem C N j h S q w) (O:z<0→1≤q.pos):
  Calls Tryz.prog 146 #[pv C N j S q z d,imV y] w (Out C N j h (bd x (zan C y)) d S w):=by
 obtain⟨i0,hi,V,aa,Y⟩:=info_parts Tryz.infoImp
 have D:=zc J
 have HX:=zc hx
 have ab:q.im.length≤40:=by have:=J.inv.im;omega
 clear hx
 by_cases H:z<0
 ·have dz:decide (0≤z)=false:=decide_eq_false (by omega)
  by_cases hn:40≤q.im.length
  ·have K:Hid (Is (bd x (zan C y)) q (zp C (q.pos-1))):=zeU HX.out H (if_pos hn)
   have qn:decide ((40:Int)≤(q.im.length:Int))=true:=decide_eq_true (by omega)
   have I:=O H
   clear O J
   unfold pv imV
   go_enter Tryz.func146,Tryz.ntmps146
   go_wp2_with fail
   refine (zeo C N j h S q z d _ (((D.out.alloc _).alloc _).alloc _) H I).mono ?_
   rintro e w2 ⟨rfl,E⟩
   have U:Below w.heap.size w w2:=zfN E
   have G3:Hid (_=_):=(E.block (w.heap.size+1+1) (by rw[zW];omega)).trans ((new3 w _ _ _).2.2)
   obtain⟨c0,c1,c2,c3,c4,c5,c6,c7,c8,c9,ad,ai,cf⟩:=zaf G3.out
   clear E
   unfold pv
   go_wp2
   refine bodyPost_ret (results_cell_row rfl _ _ (w.heap.size+1+1) 122 _ (0,0) _ rfl (zaI G3.out) Tryz.underlying122 rfl (by kernel_rfl)) rfl ?_
   exact zcb rfl K.out D.out (zb2 U (by omega) ..)
  ·have qn:decide ((40:Int)≤(q.im.length:Int))=false:=decide_eq_false (by omega)
   have K:Hid (Is (bd x (zan C y)) {q with im:=q.im++[y]} z):=zep HX.out H (if_neg hn)
   have n:=fun o1 o2 o3 o4=>((((D.out.own.im.alloc o1).alloc o2).alloc o3).alloc o4)
   clear O J
   unfold pv imV
   go_enter Tryz.func146,Tryz.ntmps146
   go_wp2_with (at_builtin;refine zch _ rfl _ _ 31 rfl h 84 i0 _ 3 48 Tryz.underlying31 hi V aa Y rfl (by decide) (by decide) S.im q.im.length _ (by rfl) (n ..) (w.heap.size+1+1+1) (imL y) (by rfl) (by first|exact (zb6 w ..).2.2.2|exact (new3 w _ _ _).2.2) rfl (by intro u hu;simp[imL] at hu;rcases hu with rfl|rfl|rfl<;>rfl) (by omega) (by have:=D.out.base;(first|rw[za0]|rw[zW]);omega) ?_)
   intro r' w2 hr M L
   have HR:=zc hr
   have HG:=zc M
   have X:=zc L
   have A:=fun b hb=>zdj (W:=w) D.out.own (Nat.le_refl _) (r:=S.im.blk) (fun k e=>.inr (.inl e)) b hb
   have g1:=(M.block w.heap.size (by (first|rw[za0]|rw[zW]);omega) (A _ (Nat.le_refl _))).trans (by first|exact (zb6 w ..).1|exact (new3 w _ _ _).1)
   have Z:=(M.block (w.heap.size+1+1) (by (first|rw[za0]|rw[zW]);omega) (A _ (by omega))).trans (by first|exact (zb6 w ..).2.2.1|exact (new3 w _ _ _).2.1)
   obtain⟨a0,a1,a2,a3,a4,a5,a6,a7,a8,a9,ac,ag,af⟩:=zaf g1
   obtain⟨b0,b1,b2,b3,b4,b5,b6,b7,b8,b9,ah,ae,bf⟩:=zaf Z
   have G2:=zc Z
   clear g1 Z M hr L A n
   go_wp2
   refine bodyPost_ret (results_cell_row rfl _ _ (w.heap.size+1+1) 122 _ (0,0) _ rfl (zaI ((zt (by omega)).trans G2.out)) Tryz.underlying122 rfl (by kernel_rfl)) rfl ?_
   obtain⟨m',s'⟩:=D.out.grow_im (x:=y) (zeT w ..) HG.out HR.out (by (first|rw[za0]|rw[zW]);exact X.out) (((Off.refl _ _ _).set (b:=w.heap.size) (Nat.le_refl _) (by (first|rw[za0]|rw[zW]);omega) _ _).set12 (b:=w.heap.size+1+1) (by omega) (by (first|rw[za0]|rw[zW]);omega) ..) (by omega)
   exact⟨_,{q with im:=q.im++[y]},z,by simp[pv],K.out,m',s'⟩
 ·have dz:decide (0≤z)=true:=decide_eq_true (by omega)
  have K:Hid (Is (bd x (zan C y)) q z):=zeV HX.out H
  clear O J
  unfold pv imV
  go_enter Tryz.func146,Tryz.ntmps146
  go_wp2
  refine bodyPost_ret (results_cell_row rfl _ _ (w.heap.size+1+1) 122 _ (0,0) _ rfl ((new3 w _ _ _).2.2) Tryz.underlying122 rfl (by kernel_rfl)) rfl ?_
  exact zcb rfl K.out D.out (zcz w _ _ _)
theorem zdk (C:Cx) (gt H h:Nat) (x:PR) (S:Sv) (q:PS) (z:Int) (d:Nat) (y:Ep) (w:World) (hx:Is x q z) (K:Mem C gt H h S q w) (Z:z<0→1≤q.pos):
  Calls Tryz.prog 148 #[pv C gt H S q z d,epV y] w (Out C gt H h (bd x (zn C y)) d S w):=by
 obtain⟨i0,hi,O,Y,V⟩:=info_parts Tryz.infoExp
 have A:=zc K
 have HX:=zc hx
 have ah:q.ep.length≤40:=by have:=K.inv.ep;omega
 have ag:q.la.length≤40:=by have:=K.inv.ep;omega
 clear hx
 by_cases N:z<0
 ·have dz:decide (0≤z)=false:=decide_eq_false (by omega)
  by_cases hn:40≤q.ep.length+q.la.length
  ·have L:Hid (Is (bd x (zn C y)) q (zp C (q.pos-1))):=zeU HX.out N (if_pos hn)
   have qn:decide ((40:Int)≤(q.ep.length:Int)+(q.la.length:Int))=true:=decide_eq_true (by omega)
   have U:=Z N
   clear Z K
   unfold pv epV
   go_enter Tryz.func148,Tryz.ntmps148
   go_wp2_with fail
   refine (zeo C gt H h S q z d _ (((A.out.alloc _).alloc _).alloc _) N U).mono ?_
   rintro e w2 ⟨rfl,J⟩
   have ab:Below w.heap.size w w2:=zfN J
   have G3:Hid (_=_):=(J.block (w.heap.size+1+1) (by rw[zW];omega)).trans ((new3 w _ _ _).2.2)
   obtain⟨c0,c1,c2,c3,c4,c5,c6,c7,c8,c9,ai,aj,cf⟩:=zaf G3.out
   clear J
   unfold pv
   go_wp2
   refine bodyPost_ret (results_cell_row rfl _ _ (w.heap.size+1+1) 122 _ (0,0) _ rfl (zaI G3.out) Tryz.underlying122 rfl (by kernel_rfl)) rfl ?_
   exact zcb rfl L.out A.out (zb2 ab (by omega) ..)
  ·have qn:decide ((40:Int)≤(q.ep.length:Int)+(q.la.length:Int))=false:=decide_eq_false (by omega)
   cases hd:(y.loc.toList==[42,100,101,102,97,117,108,116]) with
   |true=>
    have L:Hid (Is (bd x (zn C y)) {q with la:=q.la++[y]} z):=zep HX.out N (by rw[zn,if_neg hn,if_pos hd])
    have j:=fun o1 o2 o3 o4=>((((A.out.own.la.alloc o1).alloc o2).alloc o3).alloc o4)
    clear Z K
    unfold pv epV
    go_enter Tryz.func148,Tryz.ntmps148
    go_wp2_with (at_builtin;refine zch _ rfl _ _ 32 rfl h 86 i0 _ 4 56 Tryz.underlying32 hi O Y V rfl (by decide) (by decide) S.la q.la.length _ (by rfl) (j ..) (w.heap.size+1+1+1) (epL y) (by rfl) (by first|exact (zb6 w ..).2.2.2|exact (new3 w _ _ _).2.2) rfl (by intro u X;simp[epL] at X;rcases X with rfl|rfl|rfl|rfl<;>rfl) (by omega) (by have:=A.out.base;(first|rw[za0]|rw[zW]);omega) ?_)
    intro r' w2 hr E D
    have HR:=zc hr
    have HG:=zc E
    have I:=zc D
    have n:=fun b hb=>zdj (W:=w) A.out.own (Nat.le_refl _) (r:=S.la.blk) (fun k e=>.inr (.inr (.inr (.inr (.inr e))))) b hb
    have g1:=(E.block w.heap.size (by (first|rw[za0]|rw[zW]);omega) (n _ (Nat.le_refl _))).trans (by first|exact (zb6 w ..).1|exact (new3 w _ _ _).1)
    have M:=(E.block (w.heap.size+1+1) (by (first|rw[za0]|rw[zW]);omega) (n _ (by omega))).trans (by first|exact (zb6 w ..).2.2.1|exact (new3 w _ _ _).2.1)
    obtain⟨a0,a1,a2,a3,a4,a5,a6,a7,a8,a9,aa,ad,af⟩:=zaf g1
    obtain⟨b0,b1,b2,b3,b4,b5,b6,b7,b8,b9,ae,ac,bf⟩:=zaf M
    have G2:=zc M
    clear g1 M E hr D n j
    go_wp2
    refine bodyPost_ret (results_cell_row rfl _ _ (w.heap.size+1+1) 122 _ (0,0) _ rfl (zaI ((zt (by omega)).trans G2.out)) Tryz.underlying122 rfl (by kernel_rfl)) rfl ?_
    obtain⟨m',s'⟩:=A.out.grow_la (x:=y) (zeT w ..) HG.out HR.out (by (first|rw[za0]|rw[zW]);exact I.out) (((Off.refl _ _ _).set (b:=w.heap.size) (Nat.le_refl _) (by (first|rw[za0]|rw[zW]);omega) _ _).set12 (b:=w.heap.size+1+1) (by omega) (by (first|rw[za0]|rw[zW]);omega) ..) (by omega)
    exact⟨_,{q with la:=q.la++[y]},z,by simp[pv],L.out,m',s'⟩
   |false=>
    have L:Hid (Is (bd x (zn C y)) {q with ep:=q.ep++[y]} z):=zep HX.out N (by rw[zn,if_neg hn,hd];rfl)
    have j:=fun o1 o2 o3 o4=>((((A.out.own.ep.alloc o1).alloc o2).alloc o3).alloc o4)
    clear Z K
    unfold pv epV
    go_enter Tryz.func148,Tryz.ntmps148
    go_wp2_with (at_builtin;refine zch _ rfl _ _ 32 rfl h 86 i0 _ 4 56 Tryz.underlying32 hi O Y V rfl (by decide) (by decide) S.ep q.ep.length _ (by rfl) (j ..) (w.heap.size+1+1+1) (epL y) (by rfl) (by first|exact (zb6 w ..).2.2.2|exact (new3 w _ _ _).2.2) rfl (by intro u X;simp[epL] at X;rcases X with rfl|rfl|rfl|rfl<;>rfl) (by omega) (by have:=A.out.base;(first|rw[za0]|rw[zW]);omega) ?_)
    intro r' w2 hr E D
    have HR:=zc hr
    have HG:=zc E
    have I:=zc D
    have n:=fun b hb=>zdj (W:=w) A.out.own (Nat.le_refl _) (r:=S.ep.blk) (fun k e=>.inr (.inr (.inl e))) b hb
    have g1:=(E.block w.heap.size (by (first|rw[za0]|rw[zW]);omega) (n _ (Nat.le_refl _))).trans (by first|exact (zb6 w ..).1|exact (new3 w _ _ _).1)
    have M:=(E.block (w.heap.size+1+1) (by (first|rw[za0]|rw[zW]);omega) (n _ (by omega))).trans (by first|exact (zb6 w ..).2.2.1|exact (new3 w _ _ _).2.1)
    obtain⟨a0,a1,a2,a3,a4,a5,a6,a7,a8,a9,aa,ad,af⟩:=zaf g1
    obtain⟨b0,b1,b2,b3,b4,b5,b6,b7,b8,b9,ae,ac,bf⟩:=zaf M
    have G2:=zc M
    clear g1 M E hr D n j
    go_wp2
    refine bodyPost_ret (results_cell_row rfl _ _ (w.heap.size+1+1) 122 _ (0,0) _ rfl (zaI ((zt (by omega)).trans G2.out)) Tryz.underlying122 rfl (by kernel_rfl)) rfl ?_
    obtain⟨m',s'⟩:=A.out.grow_ep (x:=y) (zeT w ..) HG.out HR.out (by (first|rw[za0]|rw[zW]);exact I.out) (((Off.refl _ _ _).set (b:=w.heap.size) (Nat.le_refl _) (by (first|rw[za0]|rw[zW]);omega) _ _).set12 (b:=w.heap.size+1+1) (by omega) (by (first|rw[za0]|rw[zW]);omega) ..) (by omega)
    exact⟨_,{q with ep:=q.ep++[y]},z,by simp[pv],L.out,m',s'⟩
 ·have dz:decide (0≤z)=true:=decide_eq_true (by omega)
  have L:Hid (Is (bd x (zn C y)) q z):=zeV HX.out N
  clear Z K
  unfold pv epV
  go_enter Tryz.func148,Tryz.ntmps148
  go_wp2
  refine bodyPost_ret (results_cell_row rfl _ _ (w.heap.size+1+1) 122 _ (0,0) _ rfl ((new3 w _ _ _).2.2) Tryz.underlying122 rfl (by kernel_rfl)) rfl ?_
  exact zcb rfl L.out A.out (zcz w _ _ _)
theorem zc1 (C:Cx) (O n h:Nat) (x:PR) (S:Sv) (q:PS) (z:Int) (d:Nat) (k:Int) (j:ByteArray) (w:World) (hx:Is x q z) (I:Mem C O n h S q w) (U:z<0→1≤q.pos):
  Calls Tryz.prog 113 #[pv C O n S q z d,.int .i64 k,.string j] w (Out C O n h (bd x (zV C k j)) d S w):=by
 obtain⟨i0,hi,X,aa,Z⟩:=info_parts Tryz.infoStmt
 have E:=zc I
 have HX:=zc hx
 have ac:q.ex.length≤300:=by have:=I.inv.ex;omega
 have ab:q.st.length≤80:=by have:=I.inv.st;omega
 clear hx
 by_cases J:z<0
 ·have dz:decide (0≤z)=false:=decide_eq_false (by omega)
  by_cases hn:80≤q.st.length
  ·have L:Hid (Is (bd x (zV C k j)) q (zp C (q.pos-1))):=zeU HX.out J (if_pos hn)
   have qn:decide ((80:Int)≤(q.st.length:Int))=true:=decide_eq_true (by omega)
   have K:=U J
   clear U I
   unfold pv
   go_enter Tryz.func113,Tryz.ntmps113
   go_wp2_with fail
   refine (zeo C O n h S q z d _ ((E.out.alloc _).alloc _) J K).mono ?_
   rintro e w2 ⟨rfl,H⟩
   have V:Below w.heap.size w w2:=zaO H
   have G3:Hid (_=_):=(H.block (w.heap.size+1) (by rw[zcm];omega)).trans (new2 w _ _)
   obtain⟨c0,c1,c2,c3,c4,c5,c6,c7,c8,c9,ae,aj,cf⟩:=zaf G3.out
   clear H
   unfold pv
   go_wp2
   refine bodyPost_ret (results_cell_row rfl _ _ (w.heap.size+1) 122 _ (0,0) _ rfl (zaI G3.out) Tryz.underlying122 rfl (by kernel_rfl)) rfl ?_
   exact zcb rfl L.out E.out (zb2 V (by omega) ..)
  ·have qn:decide ((80:Int)≤(q.st.length:Int))=false:=decide_eq_false (by omega)
   have L:Hid (Is (bd x (zV C k j)) {q with st:=q.st++[⟨k,j,(q.ex.length:Int)-1⟩]} z):=zep HX.out J (if_neg hn)
   have A:=fun o1 o2 o3=>(((E.out.own.st.alloc o1).alloc o2).alloc o3)
   clear U I
   unfold pv
   go_enter Tryz.func113,Tryz.ntmps113
   go_wp2_with (at_builtin;refine zch _ rfl _ _ 33 rfl h 107 i0 _ 3 32 Tryz.underlying33 hi X aa Z rfl (by decide) (by decide) S.st q.st.length _ (by rfl) (A _ _ _) (w.heap.size+1+1) (smL ⟨k,j,(q.ex.length:Int)-1⟩) (by rfl) (by first|exact (zb6 w ..).2.2.2|exact (new3 w _ _ _).2.2) rfl (by intro u hu;simp[smL] at hu;rcases hu with rfl|rfl|rfl<;>rfl) (by omega) (by have:=E.out.base;(first|rw[za0]|rw[zW]);omega) ?_)
   intro r' w2 hr N M
   have HR:=zc hr
   have HG:=zc N
   have Y:=zc M
   have D:=fun b hb=>zdj (W:=w) E.out.own (Nat.le_refl _) (r:=S.st.blk) (fun k e=>.inr (.inr (.inr (.inl e)))) b hb
   have g1:=(N.block w.heap.size (by (first|rw[za0]|rw[zW]);omega) (D _ (Nat.le_refl _))).trans (by first|exact (zb6 w ..).1|exact (new3 w _ _ _).1)
   have g2:=(N.block (w.heap.size+1) (by (first|rw[za0]|rw[zW]);omega) (D _ (by omega))).trans (by first|exact (zb6 w ..).2.2.1|exact (new3 w _ _ _).2.1)
   obtain⟨a0,a1,a2,a3,a4,a5,a6,a7,a8,a9,ad,ah,af⟩:=zaf g1
   obtain⟨b0,b1,b2,b3,b4,b5,b6,b7,b8,b9,ai,ag,bf⟩:=zaf g2
   have G2:=zc g2
   clear g1 g2 N hr M D A
   go_wp2
   refine bodyPost_ret (results_cell_row rfl _ _ (w.heap.size+1) 122 _ (0,0) _ rfl (zaI ((zt (by omega)).trans G2.out)) Tryz.underlying122 rfl (by kernel_rfl)) rfl ?_
   obtain⟨m',s'⟩:=E.out.grow_st (x:=⟨k,j,(q.ex.length:Int)-1⟩) (zcz w _ _ _) HG.out HR.out (by (first|rw[za0]|rw[zW]);exact Y.out) (((Off.refl _ _ _).set (b:=w.heap.size) (Nat.le_refl _) (by (first|rw[za0]|rw[zW]);omega) _ _).set12 (b:=w.heap.size+1) (by omega) (by (first|rw[za0]|rw[zW]);omega) ..) (by omega)
   exact⟨_,{q with st:=q.st++[⟨k,j,(q.ex.length:Int)-1⟩]},z,by simp[pv],L.out,m',s'⟩
 ·have dz:decide (0≤z)=true:=decide_eq_true (by omega)
  have L:Hid (Is (bd x (zV C k j)) q z):=zeV HX.out J
  clear U I
  unfold pv
  go_enter Tryz.func113,Tryz.ntmps113
  go_wp2
  refine bodyPost_ret (results_cell_row rfl _ _ (w.heap.size+1) 122 _ (0,0) _ rfl (new2 w _ _) Tryz.underlying122 rfl (by kernel_rfl)) rfl ?_
  exact zcb rfl L.out E.out (zaJ w _ _)
theorem OwnR.drew {w:World} {j size n:Nat} {e:TypeId} {r:Rw} {xs:List Value} (h:OwnR w j e size r n xs):OwnR w.drew j e size r n xs:=h
theorem zk3 (x:Ex): ∀u∈exL x,u.oneCell'=true:=by
 intro u h
 simp[exL] at h
 rcases h with rfl|rfl|rfl|rfl|rfl|rfl<;>rfl
theorem IM.grow_ex {C:Cx} {O I z n:Nat} {S:Sv} {q:PS} {w W D:World} {j:Rw} {x:Ex} (h:IM C O I z n S q w) (X:Below w.heap.size w W) (V:W.grownBy D S.ex.blk) (Z:OwnR D z 109 6 j (q.ex.length+1) (q.ex.flatMap exL++exL x)) (M:j.blk=S.ex.blk∨j.blk=some W.heap.size) (hn:q.ex.length<300):
  IM C O I z n {S with ex:=j} {q with ex:=q.ex++[x]} (D.setCell ⟨n,8,none⟩ (.slice j.a (q.ex.length+1) j.cap))∧IS n S w {S with ex:=j} (D.setCell ⟨n,8,none⟩ (.slice j.a (q.ex.length+1) j.cap)):=by
 obtain⟨J,H⟩:=h.mem.grow_ex (x:=x) X V Z M (Off.refl _ _ _) hn
 have A:=h.free
 have L:=h.lt
 have E: ¬Sv.has {S with ex:=j} n:=fun g=>(H.sub n g).elim A fun g'=>by omega
 have K: ∀k,k≠n→(D.setCell ⟨n,8,none⟩ (.slice j.a (q.ex.length+1) j.cap)).heap[k]? =D.heap[k]?:=fun k K=>Below.heap_setCell D ⟨n,8,none⟩ _ k K
 have N:(D.setCell ⟨n,8,none⟩ (.slice j.a (q.ex.length+1) j.cap)).heap.size=D.heap.size:=by show (D.heap.modify _ _).size=_;simp
 have hc:=(H.block n L A).trans h.cells
 refine⟨⟨⟨J.own.keep fun k g=>K k fun e=>E (by rw[←e];exact g),J.inv,zbo J.tok (K O h.ne.symm),J.few,by rw[N];exact J.base⟩,?_,h.ge⟩,?_⟩
 ·rw[zag hc]
  simp
 ·exact (show IS n S w {S with ex:=j} D from⟨H.os,H.tape,H.output,H.size,fun k Y U _=>H.block k Y U,H.sub⟩).set _ _
theorem zk4 (C:Cx) (gt J j n:Nat) (S:Sv) (q:PS) (x:Ex) (w:World) (h:IM C gt J j n S q w) (hn:q.ex.length<300):
  Calls Tryz.prog 232 #[.pointer (some ⟨n,0,none⟩),exV x] w fun e X=>e= .returned (.int .i64 q.ex.length)∧∃S',IM C gt J j n S' {q with ex:=q.ex++[x]} X∧IS n S w S' X:=by
 obtain⟨i0,hi,L,N,U⟩:=info_parts Tryz.infoExpr
 have K:=zc h
 have aa:=h.lt
 obtain⟨c0,c1,c2,c3,c4,c5,c6,c7,c8,c9,cf⟩:=zY h.cells
 have E:=fun A z=>((K.out.mem.own.ex.alloc A).drew.alloc z)
 have ab:=h.mem.base
 have H:some n≠S.ex.blk:=fun e=>K.out.free (.inr (.inr (.inr (.inr (.inl e.symm)))))
 have HN:=zc H
 have O: ∀A z,j≤((w.alloc A).alloc z).heap.size:=fun A z=>by rw[zcm];omega
 have V: ∀A z,n<((w.alloc A).alloc z).heap.size:=fun A z=>by rw[zcm];omega
 clear h H
 unfold exV
 go_enter Tryz.func232,Tryz.ntmps232
 go_wp2_with fail
 refine (zdg n q.ex.length 300 _ (by omega)).mono ?_
 rintro e w1 ⟨rfl,rfl⟩
 go_wp2_with fail
 go_region_law (first|(refine zen rfl (.tmp 18) (.tmp 20) 34 rfl j 109 i0 _ 6 64 Tryz.underlying34 hi L N U rfl (by decide) (by decide) S.ex q.ex.length (q.ex.flatMap exL) (by rfl) (by exact E _ _) (w.heap.size+1) (exL x) (by rfl) (by exact new2 w _ _) rfl (zk3 x) (by omega) (by exact O _ _) ?_;intro r' w2 Z D I;have Y:=(D.block n (by exact V _ _) HN.out).trans (by exact ((K.out.alloc _).alloc _).cells);obtain⟨d0,d1,d2,d3,d4,d5,d6,d7,d8,d9,df⟩:=zY Y))
 all_goals
  have HR:=zc Z
  have HG:=zc D
  have M:=zc I
  clear Z D I Y c0 c1 c2 c3 c4 c5 c6 c7 c8 c9 cf
  go_wp2
  go_ret
  obtain⟨m',s'⟩:=K.out.grow_ex (zaJ w _ _).drew HG.out HR.out M.out hn
  exact⟨zeD (by omega),_,m',s'⟩
theorem zhh (x:Im): ∀u∈imL x,u.oneCell'=true:=by
 intro u h
 simp[imL] at h
 rcases h with rfl|rfl|rfl<;>rfl
theorem IM.grow_rq {C:Cx} {O I z n:Nat} {S:Sv} {q:PS} {w W D:World} {j:Rw} {x:ByteArray} (h:IM C O I z n S q w) (X:Below w.heap.size w W) (V:W.grownBy D S.rq.blk) (Z:OwnR D z 9 1 j (q.rq.length+1) (q.rq.map .string++[.string x])) (M:j.blk=S.rq.blk∨j.blk=some W.heap.size) (hn:q.rq.length<40):
  IM C O I z n {S with rq:=j} {q with rq:=q.rq++[x]} (D.setCell ⟨n,4,none⟩ (.slice j.a (q.rq.length+1) j.cap))∧IS n S w {S with rq:=j} (D.setCell ⟨n,4,none⟩ (.slice j.a (q.rq.length+1) j.cap)):=by
 obtain⟨J,H⟩:=h.mem.grow_rq (x:=x) X V Z M (Off.refl _ _ _) hn
 have A:=h.free
 have L:=h.lt
 have E: ¬Sv.has {S with rq:=j} n:=fun g=>(H.sub n g).elim A fun g'=>by omega
 have K: ∀k,k≠n→(D.setCell ⟨n,4,none⟩ (.slice j.a (q.rq.length+1) j.cap)).heap[k]? =D.heap[k]?:=fun k K=>Below.heap_setCell D ⟨n,4,none⟩ _ k K
 have N:(D.setCell ⟨n,4,none⟩ (.slice j.a (q.rq.length+1) j.cap)).heap.size=D.heap.size:=by show (D.heap.modify _ _).size=_;simp
 have hc:=(H.block n L A).trans h.cells
 refine⟨⟨⟨J.own.keep fun k g=>K k fun e=>E (by rw[←e];exact g),J.inv,zbo J.tok (K O h.ne.symm),J.few,by rw[N];exact J.base⟩,?_,h.ge⟩,?_⟩
 ·rw[zag hc]
  simp
 ·exact (show IS n S w {S with rq:=j} D from⟨H.os,H.tape,H.output,H.size,fun k Y U _=>H.block k Y U,H.sub⟩).set _ _
theorem IM.grow_im {C:Cx} {O I z n:Nat} {S:Sv} {q:PS} {w W D:World} {j:Rw} {x:Im} (h:IM C O I z n S q w) (X:Below w.heap.size w W) (V:W.grownBy D S.im.blk) (Z:OwnR D z 84 3 j (q.im.length+1) (q.im.flatMap imL++imL x)) (M:j.blk=S.im.blk∨j.blk=some W.heap.size) (hn:q.im.length<40):
  IM C O I z n {S with im:=j} {q with im:=q.im++[x]} (D.setCell ⟨n,5,none⟩ (.slice j.a (q.im.length+1) j.cap))∧IS n S w {S with im:=j} (D.setCell ⟨n,5,none⟩ (.slice j.a (q.im.length+1) j.cap)):=by
 obtain⟨J,H⟩:=h.mem.grow_im (x:=x) X V Z M (Off.refl _ _ _) hn
 have A:=h.free
 have L:=h.lt
 have E: ¬Sv.has {S with im:=j} n:=fun g=>(H.sub n g).elim A fun g'=>by omega
 have K: ∀k,k≠n→(D.setCell ⟨n,5,none⟩ (.slice j.a (q.im.length+1) j.cap)).heap[k]? =D.heap[k]?:=fun k K=>Below.heap_setCell D ⟨n,5,none⟩ _ k K
 have N:(D.setCell ⟨n,5,none⟩ (.slice j.a (q.im.length+1) j.cap)).heap.size=D.heap.size:=by show (D.heap.modify _ _).size=_;simp
 have hc:=(H.block n L A).trans h.cells
 refine⟨⟨⟨J.own.keep fun k g=>K k fun e=>E (by rw[←e];exact g),J.inv,zbo J.tok (K O h.ne.symm),J.few,by rw[N];exact J.base⟩,?_,h.ge⟩,?_⟩
 ·rw[zag hc]
  simp
 ·exact (show IS n S w {S with im:=j} D from⟨H.os,H.tape,H.output,H.size,fun k Y U _=>H.block k Y U,H.sub⟩).set _ _
theorem IM.grow_ep {C:Cx} {O I z n:Nat} {S:Sv} {q:PS} {w W D:World} {j:Rw} {x:Ep} (h:IM C O I z n S q w) (X:Below w.heap.size w W) (V:W.grownBy D S.ep.blk) (Z:OwnR D z 86 4 j (q.ep.length+1) (q.ep.flatMap epL++epL x)) (M:j.blk=S.ep.blk∨j.blk=some W.heap.size) (hn:q.ep.length+q.la.length<40):
  IM C O I z n {S with ep:=j} {q with ep:=q.ep++[x]} (D.setCell ⟨n,6,none⟩ (.slice j.a (q.ep.length+1) j.cap))∧IS n S w {S with ep:=j} (D.setCell ⟨n,6,none⟩ (.slice j.a (q.ep.length+1) j.cap)):=by
 obtain⟨J,H⟩:=h.mem.grow_ep (x:=x) X V Z M (Off.refl _ _ _) hn
 have A:=h.free
 have L:=h.lt
 have E: ¬Sv.has {S with ep:=j} n:=fun g=>(H.sub n g).elim A fun g'=>by omega
 have K: ∀k,k≠n→(D.setCell ⟨n,6,none⟩ (.slice j.a (q.ep.length+1) j.cap)).heap[k]? =D.heap[k]?:=fun k K=>Below.heap_setCell D ⟨n,6,none⟩ _ k K
 have N:(D.setCell ⟨n,6,none⟩ (.slice j.a (q.ep.length+1) j.cap)).heap.size=D.heap.size:=by show (D.heap.modify _ _).size=_;simp
 have hc:=(H.block n L A).trans h.cells
 refine⟨⟨⟨J.own.keep fun k g=>K k fun e=>E (by rw[←e];exact g),J.inv,zbo J.tok (K O h.ne.symm),J.few,by rw[N];exact J.base⟩,?_,h.ge⟩,?_⟩
 ·rw[zag hc]
  simp
 ·exact (show IS n S w {S with ep:=j} D from⟨H.os,H.tape,H.output,H.size,fun k Y U _=>H.block k Y U,H.sub⟩).set _ _
theorem IM.grow_st {C:Cx} {O I z n:Nat} {S:Sv} {q:PS} {w W D:World} {j:Rw} {x:Sm} (h:IM C O I z n S q w) (X:Below w.heap.size w W) (V:W.grownBy D S.st.blk) (Z:OwnR D z 107 3 j (q.st.length+1) (q.st.flatMap smL++smL x)) (M:j.blk=S.st.blk∨j.blk=some W.heap.size) (hn:q.st.length<80):
  IM C O I z n {S with st:=j} {q with st:=q.st++[x]} (D.setCell ⟨n,7,none⟩ (.slice j.a (q.st.length+1) j.cap))∧IS n S w {S with st:=j} (D.setCell ⟨n,7,none⟩ (.slice j.a (q.st.length+1) j.cap)):=by
 obtain⟨J,H⟩:=h.mem.grow_st (x:=x) X V Z M (Off.refl _ _ _) hn
 have A:=h.free
 have L:=h.lt
 have E: ¬Sv.has {S with st:=j} n:=fun g=>(H.sub n g).elim A fun g'=>by omega
 have K: ∀k,k≠n→(D.setCell ⟨n,7,none⟩ (.slice j.a (q.st.length+1) j.cap)).heap[k]? =D.heap[k]?:=fun k K=>Below.heap_setCell D ⟨n,7,none⟩ _ k K
 have N:(D.setCell ⟨n,7,none⟩ (.slice j.a (q.st.length+1) j.cap)).heap.size=D.heap.size:=by show (D.heap.modify _ _).size=_;simp
 have hc:=(H.block n L A).trans h.cells
 refine⟨⟨⟨J.own.keep fun k g=>K k fun e=>E (by rw[←e];exact g),J.inv,zbo J.tok (K O h.ne.symm),J.few,by rw[N];exact J.base⟩,?_,h.ge⟩,?_⟩
 ·rw[zag hc]
  simp
 ·exact (show IS n S w {S with st:=j} D from⟨H.os,H.tape,H.output,H.size,fun k Y U _=>H.block k Y U,H.sub⟩).set _ _
theorem IM.grow_la {C:Cx} {O I z n:Nat} {S:Sv} {q:PS} {w W D:World} {j:Rw} {x:Ep} (h:IM C O I z n S q w) (X:Below w.heap.size w W) (V:W.grownBy D S.la.blk) (Z:OwnR D z 86 4 j (q.la.length+1) (q.la.flatMap epL++epL x)) (M:j.blk=S.la.blk∨j.blk=some W.heap.size) (hn:q.ep.length+q.la.length<40):
  IM C O I z n {S with la:=j} {q with la:=q.la++[x]} (D.setCell ⟨n,9,none⟩ (.slice j.a (q.la.length+1) j.cap))∧IS n S w {S with la:=j} (D.setCell ⟨n,9,none⟩ (.slice j.a (q.la.length+1) j.cap)):=by
 obtain⟨J,H⟩:=h.mem.grow_la (x:=x) X V Z M (Off.refl _ _ _) hn
 have A:=h.free
 have L:=h.lt
 have E: ¬Sv.has {S with la:=j} n:=fun g=>(H.sub n g).elim A fun g'=>by omega
 have K: ∀k,k≠n→(D.setCell ⟨n,9,none⟩ (.slice j.a (q.la.length+1) j.cap)).heap[k]? =D.heap[k]?:=fun k K=>Below.heap_setCell D ⟨n,9,none⟩ _ k K
 have N:(D.setCell ⟨n,9,none⟩ (.slice j.a (q.la.length+1) j.cap)).heap.size=D.heap.size:=by show (D.heap.modify _ _).size=_;simp
 have hc:=(H.block n L A).trans h.cells
 refine⟨⟨⟨J.own.keep fun k g=>K k fun e=>E (by rw[←e];exact g),J.inv,zbo J.tok (K O h.ne.symm),J.few,by rw[N];exact J.base⟩,?_,h.ge⟩,?_⟩
 ·rw[zag hc]
  simp
 ·exact (show IS n S w {S with la:=j} D from⟨H.os,H.tape,H.output,H.size,fun k Y U _=>H.block k Y U,H.sub⟩).set _ _
theorem zk5 (C:Cx) (gt J j n:Nat) (S:Sv) (q:PS) (x:Im) (w:World) (h:IM C gt J j n S q w) (hn:q.im.length<40):
  Calls Tryz.prog 226 #[.pointer (some ⟨n,0,none⟩),imV x] w fun e X=>e= .returned (.tuple #[])∧∃S',IM C gt J j n S' {q with im:=q.im++[x]} X∧IS n S w S' X:=by
 obtain⟨i0,hi,L,N,U⟩:=info_parts Tryz.infoImp
 have K:=zc h
 have aa:=h.lt
 obtain⟨c0,c1,c2,c3,c4,c5,c6,c7,c8,c9,cf⟩:=zY h.cells
 have E:=fun A z=>((K.out.mem.own.im.alloc A).drew.alloc z)
 have ab:=h.mem.base
 have H:some n≠S.im.blk:=fun e=>K.out.free (.inr (.inl e.symm))
 have HN:=zc H
 have O: ∀A z,j≤((w.alloc A).alloc z).heap.size:=fun A z=>by rw[zcm];omega
 have V: ∀A z,n<((w.alloc A).alloc z).heap.size:=fun A z=>by rw[zcm];omega
 clear h H
 unfold imV
 go_enter Tryz.func226,Tryz.ntmps226
 go_wp2_with fail
 refine (zdg n q.im.length 40 _ (by omega)).mono ?_
 rintro e w1 ⟨rfl,rfl⟩
 go_wp2_with fail
 go_region_law (first|(refine zen rfl (.tmp 17) (.tmp 19) 31 rfl j 84 i0 _ 3 48 Tryz.underlying31 hi L N U rfl (by decide) (by decide) S.im q.im.length (q.im.flatMap imL) (by rfl) (by exact E _ _) (w.heap.size+1) (imL x) (by rfl) (by exact new2 w _ _) rfl (zhh x) (by omega) (by exact O _ _) ?_;intro r' w2 Z D I;have Y:=(D.block n (by exact V _ _) HN.out).trans (by exact ((K.out.alloc _).alloc _).cells);obtain⟨d0,d1,d2,d3,d4,d5,d6,d7,d8,d9,df⟩:=zY Y))
 all_goals
  have HR:=zc Z
  have HG:=zc D
  have M:=zc I
  clear Z D I Y c0 c1 c2 c3 c4 c5 c6 c7 c8 c9 cf
  go_wp2
  go_end0
  obtain⟨m',s'⟩:=K.out.grow_im (zaJ w _ _).drew HG.out HR.out M.out hn
  exact⟨rfl,_,m',s'⟩
end Go.Proofs.YtjdddblpfbmpaaaGreat
