/- Facts and walks. -/
import Derived.BigRegion
import Derived.Test.YtgcbmogmniahjaaGreatR45
import Derived.Test.YtgcbmogmniahjaaGreatR22
namespace Go.Proofs.YtgcbmogmniahjaaGreat
open List (append_nil length_append length_map getElem?_eq_getElem mem_of_getElem? length_take take_of_length_le take_zero mem_filter map_cons)
open Go.Proofs.Tryz
set_option maxRecDepth 100000
set_option maxHeartbeats 6400000
open Go.RowKit Go.PlainAid Go.Sort
def zcr (s:Sm):Bool:=s.kind==2||(s.kind==1&& !(s.name.toList==dN))
def kI (l:List Im):List (Int×BA):=l.flatMap fun x=>(1,x.loc)::if x.first.toList==[42] then [(3,x.loc)] else []
def kS (l:List Sm):List (Int×BA):=(l.filter zcr).map fun x=>(1,x.name)
def kE (l:List Ep):List (Int×BA):=(l.filter fun x=> !(x.kind==3)).map fun x=>(2,x.name)
def zbq (m:Md):List (Int×BA):=kI m.im++kS m.st++kE m.ep
theorem zvE {l:List Im} {j:Nat} {x:Im} (h:l[j]? =some x):kI (l.take (j+1))=if x.first.toList==[42] then kI (l.take j)++[(1,x.loc)]++[(3,x.loc)] else kI (l.take j)++[(1,x.loc)]:=by
 have e:kI [x]=(1,x.loc)::if x.first.toList==[42] then [(3,x.loc)] else []:=by rw[kI,List.flatMap_cons,List.flatMap_nil,append_nil]
 have q:kI (l.take j++[x])=kI (l.take j)++kI [x]:=by rw[kI,List.flatMap_append];rfl
 rw[zdk h,q,e];generalize (x.first.toList==[42])=b;cases b<;>simp
variable (w:List BA) (g:Nat) (W:Md) (C:List BA) (s t:BA) {b:Nat} {S:List Sm} {V:World} {q:MapEntry} {A:BA} {z:List BA} {c:Md}
theorem zvF {x:Sm} (h:S[b]? =some x):kS (S.take (b+1))=if zcr x then kS (S.take b)++[(1,x.name)] else kS (S.take b):=by
 rw[zdk h,kS,kS,List.filter_append];cases q:zcr x<;>simp[q]
theorem zvG {l:List Ep} {x:Ep} (h:l[b]? =some x):kE (l.take (b+1))=if x.kind==3 then kE (l.take b) else kE (l.take b)++[(2,x.name)]:=by
 rw[zdk h,kE,kE,List.filter_append];cases q:(x.kind==3)<;>simp[q]
theorem zmN (l:List Im):(kI l).length<=2*l.length:=by
 induction l with
 |nil=>simp[kI]
 |cons x l h=>
  have:kI (x::l)=((1,x.loc)::if x.first.toList==[42] then [(3,x.loc)] else [])++kI l:=rfl;rw[this,length_append,List.length_cons,List.length_cons]
  split<;>simp<;>omega
theorem zmO (l:List Sm):(kS l).length<=l.length:=by
 rw[kS,length_map];exact List.length_filter_le _ _
theorem zvH (l:List Ep):(kE l).length<=l.length:=by
 rw[kE,length_map];exact List.length_filter_le _ _
theorem zvI (x:Sm) (w:World):
  Calls prog 138 #[.agg #[.int .i64 x.kind,.string x.name,.int .i64 x.expr]] w fun e D=>e= .returned (.bool (zcr x))/\Bw w D:=by
 have z:Hid (Bw w (w.alloc (.cells #[.int .i64 x.kind,.string x.name,.int .i64 x.expr] 102))):=bA0;cases q:(x.kind==2) with
 |true=>
  have h:Hid (zcr x=true):=by show _=_;rw[zcr,q];rfl
  go_enter func138,ntmps138;go_wp2;go_ret;exact⟨zi h.o.symm,z.o⟩
 |false=>
  cases A:(x.kind==1) with
  |false=>
   have h:Hid (zcr x=false):=by show _=_;rw[zcr,q,A];rfl
   go_enter func138,ntmps138;go_wp2;go_ret;exact⟨zi h.o.symm,z.o⟩
  |true=>
   have h:Hid (zcr x= !(x.name.toList==dN)):=by show _=_;rw[zcr,q,A];simp
   go_enter func138,ntmps138;go_wp2;go_ret;exact⟨zi h.o.symm,z.o⟩
def zvJ (w:World) (L:List (Int×BA)) (e:Ending) (w':World):Prop:=∃b,e= .returned (.map (some b))/\CntW w' b L/\Bw w w'/\w.heap.size<=b
def SU (W0 W:World) (L:List (Int×BA)):Prop:=CntW W W0.heap.size L/\Bw W0 W
theorem SU.below {W w:World} {L:List (Int×BA)} (h:SU V W L) (z:Bw W w):SU V w L:=⟨h.1.kept (z.block _ h.1.lt),h.2.trans (z.mono h.2.size)⟩
theorem SU.grown {W w:World} {L z:List (Int×BA)} (h:SU V W L) (E:CntW w V.heap.size z) (D:W.grownBy w (some V.heap.size)):SU V w z:=⟨E,h.2.grown D h.2.size fun k A=>by cases A;exact Nat.le_refl _⟩
theorem SU.start (h:World):SU h (h.alloc (.map #[] 0)) []:=⟨⟨#[],0,heap_alloc_new h _,zv9 mkK,fun p q=>by cases q⟩,bA0⟩
def zhl (m:Md):Prop:=(∀x∈m.im,x.loc.size<=maxLen)/\(∀x∈m.st,x.name.size<=maxLen)/\(∀x∈m.ep,x.name.size<=maxLen/\x.loc.size<=maxLen)/\∀x∈m.ex,x.name.size<=maxLen
theorem zvK (V:Sv) (m:Md) (w:World) (hI:RowAt w V.im.a imL 3 m.im) (hE:RowAt w V.ep.a epL 4 m.ep) (hS:RowAt w V.st.a smL 3 m.st) (lI:m.im.length<=10000) (lE:m.ep.length<=10000) (lS:m.st.length<=10000) (hN:zhl m):
  Calls prog 98 #[zl V m] w (zvJ w (zbq m)):=by
 obtain⟨a1,ao⟩: ∃a,V.im.a=a:=⟨_,rfl⟩;obtain⟨a2,az⟩: ∃a,V.ep.a=a:=⟨_,rfl⟩;obtain⟨a3,ap⟩: ∃a,V.st.a=a:=⟨_,rfl⟩;unfold zl;rw[ao] at hI ⊢;rw[az] at hE ⊢;rw[ap] at hS ⊢;have af:Hid (Bw w (w.alloc (.cells #[.slice V.rq.a m.rq.length V.rq.cap,.slice a1 m.im.length V.im.cap,.slice a2 m.ep.length V.ep.cap,.slice a3 m.st.length V.st.cap,.slice V.ex.a m.ex.length V.ex.cap] 54))):=bA0;have aj:=zc (heap_alloc_new w (.cells #[.slice V.rq.a m.rq.length V.rq.cap,.slice a1 m.im.length V.im.cap,.slice a2 m.ep.length V.ep.cap,.slice a3 m.st.length V.st.cap,.slice V.ex.a m.ex.length V.ex.cap] 54));have HS:=zc (zg w (.cells #[.slice V.rq.a m.rq.length V.rq.cap,.slice a1 m.im.length V.im.cap,.slice a2 m.ep.length V.ep.cap,.slice a3 m.st.length V.st.cap,.slice V.ex.a m.ex.length V.ex.cap] 54));have RI:=zc (hI.later af.o);have RE:=zc (hE.later af.o);have RS:=zc (hS.later af.o);have ST:=zc (SU.start (w.alloc (.cells #[.slice V.rq.a m.rq.length V.rq.cap,.slice a1 m.im.length V.im.cap,.slice a2 m.ep.length V.ep.cap,.slice a3 m.st.length V.st.cap,.slice V.ex.a m.ex.length V.ex.cap] 54)));have ai:=zc hN;clear hI hE hS ao az ap hN;have aD:=@run_makeMap prog;go_enter func98,ntmps98;go_upto_region 2 with fail;obtain⟨N,av⟩: ∃N,N=w.alloc (.cells #[.slice V.rq.a m.rq.length V.rq.cap,.slice a1 m.im.length V.im.cap,.slice a2 m.ep.length V.ep.cap,.slice a3 m.st.length V.st.cap,.slice V.ex.a m.ex.length V.ex.cap] 54):=⟨_,rfl⟩;rw[<-av] at aj af HS RI RE RS ST ⊢;refine zu (R:=fun W=>SU N W []) ST.o ?_;clear av ST aD;intro W1 aw;have am:=zc aw;clear aw;obtain⟨c0,c1,c2,c3,c4,cf⟩:=zj ((am.o.2.block w.heap.size (by rw[HS.o];omega)).trans aj.o);go_wp2;go_loopg [14] m.im.length (fun k i wr=>∃j:Nat,i= .int .i64 j/\j+k=m.im.length/\SU N wr (kI (m.im.take j)))
 case atStart=>exact⟨0,rfl,by omega,am.o⟩
 case round=>
  clear c0 c1 c2 c3 c4 cf;obtain⟨j,rfl,hj,Z⟩:=hrel;have q:=zc Z;clear Z;by_cases ad:j<m.im.length
  ·have aa:(j:Int)<(m.im.length:Int):=by omega
   obtain⟨x,hx⟩: ∃x,m.im[j]? =some x:=⟨_,getElem?_eq_getElem ad⟩;obtain⟨b,aq,rfl,X⟩:=(RI.o.later q.o.2).get hx;have D:=zc (zvE hx);have ae:Hid (RoleOk (1,x.loc)):=⟨by show (1:Int)<=1;omega,by show (1:Int)<=3;omega,ai.o.1 x (mem_of_getElem? hx)⟩;have aA:Hid (RoleOk (3,x.loc)):=⟨by show (1:Int)<=3;omega,by show (3:Int)<=3;omega,ai.o.1 x (mem_of_getElem? hx)⟩;have d0:=X 0 _ rfl;have d1:=X 1 _ rfl;have d2:=X 2 _ rfl;simp only[Nat.add_zero] at d0;clear X hx;obtain⟨L,hL⟩: ∃L,L=kI (m.im.take j):=⟨_,rfl⟩;have ay:L.length<=20000:=by rw[hL];have:=zmN (m.im.take j);rw[length_take] at this;omega
   rw[<-hL] at q D;clear hL;obtain⟨U,Y⟩: ∃U,U=j+1:=⟨_,rfl⟩;have ej:(j:Int)+1=(U:Int):=by omega
   have E:Hid (∀(w':World),SU N w' (kI (m.im.take (j+1)))->∃j':Nat,Value.int .i64 (U:Int)= .int .i64 (j':Int)/\j'+(gk-1)=m.im.length/\SU N w' (kI (m.im.take j'))):=fun w' h=>⟨U,rfl,by omega,by rw[Y];exact h⟩;clear Y;go_upto_region 5 with fail;refine zu (R:=fun W=>SU N W L/\W.heap[wr.heap.size]? =some (.cells (imL x).toArray 95 (0,0))/\wr.heap.size<W.heap.size) ⟨q.o.below (bA0),heap_alloc_new wr _,by rw[zg];omega⟩ ?_;obtain⟨bs,O⟩: ∃bs,bs=wr.heap.size:=⟨_,rfl⟩;rw[<-O];have NE:Hid (some bs≠some N.heap.size):=fun e=>by have:=q.o.1.lt;simp only[Option.some.injEq] at e;omega
   clear d0 d1 d2 O q;rintro W2 ⟨K,I,M⟩;have ag:=zc K;have ah:=zc I;obtain⟨e0,e1,e2,ef⟩:=zo I;obtain⟨c,v0,st,Wa,Wb,X,l1,me,l2,es,z,H⟩:=K.1.bump (1,x.loc) ae.o;have aG:c<=20000:=by omega
   dsimp only at l1 me l2 es;have A:=zc (K.grown z H);have X3:Hid (Wb.heap[bs]? =some (.cells (imL x).toArray 95 (0,0))):=(H.block bs M NE.o).trans I;have ax:bs<Wb.heap.size:=Nat.lt_of_lt_of_le M H.size;clear K I z H X;rw[HS.o] at l1 me l2 es;go_wp2_with fail;go_region
   all_goals
    clear e0 e1 e2 ef l1 me l2 es;obtain⟨e0,e1,e2,ef⟩:=zo X3.o;cases kf:(x.first.toList==[42]) with
    |false=>
     have J:=zc (E.o Wb (by rw[D.o,kf,if_neg Bool.false_ne_true];exact A.o));clear E D A ag X3 ah;go_wp2;go_roundg (gk-1)
     case rel=>exact J.o
     case measure=>omega
    |true=>
     obtain⟨cc,v1,au,Wc,Wd,ac,l1,me,l2,es,z,H⟩:=A.o.1.bump (3,x.loc) aA.o;rw[length_append] at ac;have ar:cc<=20001:=by simp only[List.length_singleton] at ac;omega
     dsimp only at l1 me l2 es;rw[HS.o] at l1 me l2 es;have J:=zc (E.o Wd (by rw[D.o,kf,if_pos rfl];exact A.o.grown z H));clear E D A ag X3 ah z H ac;go_wp2_with fail;go_region
     all_goals
      go_wp2;go_roundg (gk-1)
      case rel=>exact J.o
      case measure=>omega
  ·have aa: ¬(j:Int)<(m.im.length:Int):=by omega
   have ab:m.im.take j=m.im:=take_of_length_le (by omega);rw[ab] at q;obtain⟨c0,c1,c2,c3,c4,cf⟩:=zj ((q.o.2.block w.heap.size (by rw[HS.o];omega)).trans aj.o);obtain⟨L1,ak⟩: ∃L,L=kI m.im:=⟨_,rfl⟩;have aB:=zc ak;have aE:L1.length<=20000:=by rw[ak];have:=zmN m.im;omega
   rw[<-ak] at q;clear ak ab am;go_wp2;go_loopg [41] m.st.length (fun k i wr=>∃j:Nat,i= .int .i64 j/\j+k=m.st.length/\SU N wr (L1++kS (m.st.take j)))
   case atStart=>exact⟨0,rfl,by omega,by rw[take_zero];show SU N _ (L1++[]);rw[append_nil];exact q.o⟩
   case round=>
    clear c0 c1 c2 c3 c4 cf q;obtain⟨j,rfl,hj,Z⟩:=hrel;have q:=zc Z;clear Z;by_cases ad:j<m.st.length
    ·have aa:(j:Int)<(m.st.length:Int):=by omega
     obtain⟨x,hx⟩: ∃x,m.st[j]? =some x:=⟨_,getElem?_eq_getElem ad⟩;obtain⟨b,aq,rfl,X⟩:=(RS.o.later q.o.2).get hx;have D:=zc (zvF hx);have ae:Hid (RoleOk (1,x.name)):=⟨by show (1:Int)<=1;omega,by show (1:Int)<=3;omega,ai.o.2.1 x (mem_of_getElem? hx)⟩;have d0:=X 0 _ rfl;have d1:=X 1 _ rfl;have d2:=X 2 _ rfl;simp only[Nat.add_zero] at d0;clear X hx;obtain⟨L,hL⟩: ∃L,L=L1++kS (m.st.take j):=⟨_,rfl⟩;have HL:=zc hL;have ay:L.length<=40000:=by rw[hL,length_append];have:=zmO (m.st.take j);rw[length_take] at this;omega
     rw[<-hL] at q;clear hL;obtain⟨U,Y⟩: ∃U,U=j+1:=⟨_,rfl⟩;have ej:(j:Int)+1=(U:Int):=by omega
     have E:Hid (∀(w':World),SU N w' (L1++kS (m.st.take (j+1)))->∃j':Nat,Value.int .i64 (U:Int)= .int .i64 (j':Int)/\j'+(gk-1)=m.st.length/\SU N w' (L1++kS (m.st.take j'))):=fun w' h=>⟨U,rfl,by omega,by rw[Y];exact h⟩;clear Y;go_upto_region 12 with fail;refine zu (R:=fun W=>SU N W L/\W.heap[wr.heap.size]? =some (.cells (smL x).toArray 102 (0,0))/\wr.heap.size<W.heap.size) ⟨q.o.below (bA0),heap_alloc_new wr _,by rw[zg];omega⟩ ?_;obtain⟨bs,O⟩: ∃bs,bs=wr.heap.size:=⟨_,rfl⟩;rw[<-O];clear d0 d1 d2 O q;rintro W2 ⟨K,I,M⟩;have ag:=zc K;have ah:=zc I;obtain⟨e0,e1,e2,ef⟩:=zo I;clear K I;go_wp2_with fail;refine (zvI x _).mono ?_;rintro e W3 ⟨rfl,an⟩;have A:=zc (ag.o.below an);have X3:=zc ((an.block bs M).trans ah.o);clear e0 e1 e2 ef an ag ah M;obtain⟨e0,e1,e2,ef⟩:=zo X3.o;have ax:=(aLt X3.o);cases hd:zcr x with
     |false=>
      have J:=zc (E.o W3 (by rw[D.o,hd,if_neg Bool.false_ne_true,<-HL.o];exact A.o));clear E D A X3 HL;go_wp2;go_roundg (gk-1)
      case rel=>exact J.o
      case measure=>omega
     |true=>
      obtain⟨cc,v1,au,Wc,Wd,ac,l1,me,l2,es,z,H⟩:=A.o.1.bump (1,x.name) ae.o;have ar:cc<=40000:=by omega
      dsimp only at l1 me l2 es;rw[HS.o] at l1 me l2 es;have J:=zc (E.o Wd (by rw[D.o,hd,if_pos rfl,<-List.append_assoc,<-HL.o];exact A.o.grown z H));clear E D A X3 HL z H ac;go_wp2_with fail;go_region
      all_goals
       go_wp2;go_roundg (gk-1)
       case rel=>exact J.o
       case measure=>omega
    ·have aa: ¬(j:Int)<(m.st.length:Int):=by omega
     have ab:m.st.take j=m.st:=take_of_length_le (by omega);rw[ab] at q;obtain⟨c0,c1,c2,c3,c4,cf⟩:=zj ((q.o.2.block w.heap.size (by rw[HS.o];omega)).trans aj.o);obtain⟨L2,al⟩: ∃L,L=L1++kS m.st:=⟨_,rfl⟩;have aC:=zc al;have aF:L2.length<=40000:=by rw[al,length_append];have:=zmO m.st;omega
     rw[<-al] at q;clear al ab;go_wp2;go_loopg [59] m.ep.length (fun k i wr=>∃j:Nat,i= .int .i64 j/\j+k=m.ep.length/\SU N wr (L2++kE (m.ep.take j)))
     case atStart=>exact⟨0,rfl,by omega,by rw[take_zero];show SU N _ (L2++[]);rw[append_nil];exact q.o⟩
     case round=>
      clear c0 c1 c2 c3 c4 cf q;obtain⟨j,rfl,hj,Z⟩:=hrel;have q:=zc Z;clear Z;by_cases ad:j<m.ep.length
      ·have aa:(j:Int)<(m.ep.length:Int):=by omega
       obtain⟨x,hx⟩: ∃x,m.ep[j]? =some x:=⟨_,getElem?_eq_getElem ad⟩;obtain⟨b,aq,rfl,X⟩:=(RE.o.later q.o.2).get hx;have D:=zc (zvG hx);have ae:Hid (RoleOk (2,x.name)):=⟨by show (1:Int)<=2;omega,by show (2:Int)<=3;omega,(ai.o.2.2.1 x (mem_of_getElem? hx)).1⟩;have d0:=X 0 _ rfl;have d1:=X 1 _ rfl;have d2:=X 2 _ rfl;have d3:=X 3 _ rfl;simp only[Nat.add_zero] at d0;clear X hx;obtain⟨L,hL⟩: ∃L,L=L2++kE (m.ep.take j):=⟨_,rfl⟩;have HL:=zc hL;have ay:L.length<=60000:=by rw[hL,length_append];have:=zvH (m.ep.take j);rw[length_take] at this;omega
       rw[<-hL] at q;clear hL;obtain⟨U,Y⟩: ∃U,U=j+1:=⟨_,rfl⟩;have ej:(j:Int)+1=(U:Int):=by omega
       have E:Hid (∀(w':World),SU N w' (L2++kE (m.ep.take (j+1)))->∃j':Nat,Value.int .i64 (U:Int)= .int .i64 (j':Int)/\j'+(gk-1)=m.ep.length/\SU N w' (L2++kE (m.ep.take j'))):=fun w' h=>⟨U,rfl,by omega,by rw[Y];exact h⟩;clear Y;go_upto_region 18 with fail;refine zu (R:=fun W=>SU N W L/\W.heap[wr.heap.size]? =some (.cells (epL x).toArray 97 (0,0))/\wr.heap.size<W.heap.size) ⟨q.o.below (bA0),heap_alloc_new wr _,by rw[zg];omega⟩ ?_;obtain⟨bs,O⟩: ∃bs,bs=wr.heap.size:=⟨_,rfl⟩;rw[<-O];clear d0 d1 d2 d3 O q;rintro W2 ⟨K,I,M⟩;have A:=zc K;obtain⟨e0,e1,e2,e3,ef⟩:=zbN I;clear K I;cases hd:(x.kind==3) with
       |true=>
        have J:=zc (E.o W2 (by rw[D.o,hd,if_pos rfl,<-HL.o];exact A.o));clear E D A HL;go_wp2;go_roundg (gk-1)
        case rel=>exact J.o
        case measure=>omega
       |false=>
        obtain⟨cc,v1,au,Wc,Wd,ac,l1,me,l2,es,z,H⟩:=A.o.1.bump (2,x.name) ae.o;have ar:cc<=60000:=by omega
        dsimp only at l1 me l2 es;rw[HS.o] at l1 me l2 es;have J:=zc (E.o Wd (by rw[D.o,hd,if_neg Bool.false_ne_true,<-List.append_assoc,<-HL.o];exact A.o.grown z H));clear E D A HL z H ac;go_wp2_with fail;go_region
        all_goals
         go_wp2;go_roundg (gk-1)
         case rel=>exact J.o
         case measure=>omega
      ·have aa: ¬(j:Int)<(m.ep.length:Int):=by omega
       have ab:m.ep.take j=m.ep:=take_of_length_le (by omega);rw[ab,aC.o,aB.o] at q;go_wp2;go_ret;refine⟨_,rfl,?_,af.o.trans (q.o.2.mono (by rw[HS.o];omega)),by omega⟩;have:=q.o.1;rw[HS.o] at this;exact this
open Go.ChangeMaps (setBlock)
def twK (L:List (Int×BA)) (r:Int):Prop:=∃n,2<=cnt L (r,n)
def zvL (L:List (Int×BA)) (r:Int) (e:Ending):Prop:=∃b:Bool,e= .returned (.bool b)/\(b=true↔twK L r)
def RgW (W0 W:World) (b it:Nat) (es:Array MapEntry) (clock:Nat) (r:Int) (k:Nat):Prop:=
 ∃seen:Array Nat,W.heap[it]? =some (.mapIter (some b) clock seen clock)/\W.heap[b]? =some (.map es clock)/\(leftOf es seen).size=k/\Bw W0 W/\
  ∀y∈es.toList,seen.contains y.born=true->∀n c,y.key=mkK (r,n)->y.val= .int .i64 c->c<=1
theorem zvM {d:Array MapEntry} {h:Array Nat} (w:q∈(leftOf d h).toList):(leftOf d (h.push q.born)).size<(leftOf d h).size:=by
 have e:(leftOf d (h.push q.born)).toList=(leftOf d h).toList.filter (fun x=> !(x.born==q.born)):=by
  simp only[leftOf,Array.toList_filter,List.filter_filter,Array.contains_push];refine List.filter_congr fun x _=>?_;rw[Bool.not_or,Bool.and_comm]
 rw[<-Array.length_toList,<-Array.length_toList,e,List.length_filter_lt_length_iff_exists];exact⟨q,w,by simp⟩
theorem zvN {l:List MapEntry} (h:(l.map (·.born)).Nodup) {y:MapEntry} (A:q∈l) (z:y∈l) (e:q.born=y.born):q=y:=by
 obtain⟨i,w,rfl⟩:=List.mem_iff_getElem.1 A;obtain⟨j,d,rfl⟩:=List.mem_iff_getElem.1 z;have:i=j:=(List.getElem_inj (xs:=l.map (·.born)) (h₀:=by rw[length_map];exact w) (h₁:=by rw[length_map];exact d) h).1 (by rw[List.getElem_map,List.getElem_map];exact e);subst this;rfl
theorem zmP (L:List (Int×BA)) (r:Int) (w:World) (h:CntW w g L):
  Calls prog 99 #[.map (some g),.int .i64 r] w fun e w'=>zvL L r e/\Bw w w':=by
 obtain⟨I,q,J,hc,hR⟩:=h;have aA:=run_range_map (P:=prog) w 139 182 3 g I q underlying139 J;have HB:=zc J;have HC:=zc hc;have HR:=zc hR;clear J hc hR;go_enter func99,ntmps99;go_wp2;obtain⟨D,X⟩: ∃D,D=w.heap.size:=⟨_,rfl⟩;have K:Hid (RgW w (w.alloc (.mapIter (some g) q #[] q)) g D I q r (leftOf I #[]).size):=⟨#[],by rw[X];exact heap_alloc_new w _,(heap_alloc_old _ _ (aLt HB.o)).trans HB.o,rfl,bA0,fun y _ h=>by simp at h⟩;have av:Hid (w.heap.size<=D):=Nat.le_of_eq X.symm;rw[<-X];clear X;go_loopg [6] (leftOf I #[]).size (fun k u wr=>RgW w wr g D I q r k)
 case atStart=>exact K.o
 case round=>
  clear K;obtain⟨A,hi,J,hk,H,ad⟩:=hrel;have HI:=zc hi;have aB:=zc J;have HK:=zc hk;have au:=zc H;have ak:=zc ad;rcases run_next_at (P:=prog) wr 0 D g q q A I q hi J HC.o.1.1 (Nat.le_refl _) with ⟨h0,E⟩|⟨y,hy,U,af,E⟩
  ·have HV:Hid (¬twK L r):=fun⟨n,hn⟩=>by
    obtain⟨y,hy,e1,e2⟩:=zmH HC.o (zvD.1 (Nat.lt_of_lt_of_le (by decide) hn));have O:A.contains y.born=true:=by
     cases O:A.contains y.born with
     |true=>rfl
     |false=>
      have:y∈(leftOf I A).toList:=by
       simp only[leftOf,Array.toList_filter,mem_filter];exact⟨hy,by rw[O];rfl⟩
      rw[Array.eq_empty_of_size_eq_zero h0] at this;cases this
    have:=ak.o y hy O n _ e1 e2;have h2:(2:Int)<=(cnt L (r,n):Nat):=by omega
    unfold cnt at h2;omega
   clear hi J hk H ad h0;go_wp2;go_ret;exact⟨⟨false,rfl,⟨fun k=>(by cases k),fun k=>absurd k HV.o⟩⟩,au.o⟩
  ·have aa:y∈I.toList:=by
    simp only[leftOf,Array.toList_filter,mem_filter] at hy;exact hy.1
   obtain⟨jy,ao,ac⟩:=List.mem_iff_getElem.1 aa;obtain⟨z,hz,e1,e2⟩:=ziL HC.o (j:=jy) (y:=y) (by rw[getElem?_eq_getElem ao,ac]);have ab:=zc (zvM hy);have hh:U.heap=wr.heap:=by rcases af with rfl|rfl<;>rfl
   have ai:g≠D:=fun e=>by rw[e,hi] at J;cases J
   have ae:U.heap[D]? =some (.mapIter (some g) q A q):=by rw[hh];exact hi
   have n1:=(MapKept.heap_set (o':=.mapIter (some g) q (A.push y.born) q) ae).1;have n2:=(MapKept.heap_set (o':=.mapIter (some g) q (A.push y.born) q) ae).2;have aj:Bw w (setBlock U D (.mapIter (some g) q (A.push y.born) q)):=by
    have h1:Bw w U:=by rcases af with rfl|rfl;exact H;exact H.drew
    refine⟨h1.os,h1.tape,h1.output,by simpa [setBlock] using h1.size,fun k ar=>?_⟩;have aq:k≠D:=by have:=av.o;omega
    exact (n2 k aq).trans (h1.block k ar)
   have Z:=run_entry_at (P:=prog) (setBlock U D (.mapIter (some g) q (A.push y.born) q)) D g q A I q y n1 ((n2 g ai).trans (by rw[hh];exact J)) aa HC.o.1.2.1;have NB:=zc ((n2 g ai).trans (show U.heap[g]? =some (.map I q) by rw[hh];exact J));have NI:(setBlock U D (.mapIter (some g) q (A.push y.born) q)).heap[D]? =some (.mapIter (some g) q (A.push y.born) q):=n1;have M:=zc aj;change (setBlock U D (.mapIter (some g) q (A.push y.born) q)).heap[g]? =_ at NB;generalize setBlock U D (.mapIter (some g) q (A.push y.born) q)=Wn at E Z NB NI M;rw[e1,e2] at E Z;have V:Hid ((z.1=r->cnt L z<=1)->∀y'∈I.toList,(A.push y.born).contains y'.born=true->∀n c,y'.key=mkK (r,n)->y'.val= .int .i64 c->c<=1):=fun ax y' an O n c k1 k2=>by
    rw[Array.contains_push,Bool.or_eq_true] at O;rcases O with O|O
    ·exact ak.o y' an O n c k1 k2
    ·have al:=zvN HC.o.1.2.1 an aa (eq_of_beq O);rw[al,e1] at k1;rw[al,e2] at k2;have:=zhk _ _ k1;have h1:=ax (by rw[this]);simp only[Value.int.injEq,true_and] at k2;unfold cnt at h1;omega
   obtain⟨Y,n0⟩:=z;have az:=zmM L (Y,n0);obtain⟨c,ag⟩: ∃c:Nat,c=cnt L (Y,n0):=⟨_,rfl⟩;change (Instr.next (.pointer (some ⟨D,0,none⟩)) false 0).run prog wr= .ok (.tuple #[.bool true,.agg #[.int .i64 Y,.string n0],.int .i64 (cnt L (Y,n0):Nat)]) Wn at E;change (Instr.entry (.pointer (some ⟨D,0,none⟩))).run prog Wn= .ok (.tuple #[.agg #[.int .i64 Y,.string n0],.int .i64 (cnt L (Y,n0):Nat)]) Wn at Z;rw[<-ag] at E Z az;have am:=zc ag;clear ag hi J hk H ad n1 n2 aj ae hh af ac ao e1 e2 hz aa hy;have N:Hid ((Y=r->c<=1)->RgW w (Wn.alloc (.cells #[.int .i64 Y,.string n0] 182)) g D I q r (leftOf I (A.push y.born)).size):=fun hq=>by
    have ap:=(aLt NB);have ay:=(aLt NI);exact⟨_,(heap_alloc_old _ _ ay).trans NI,(heap_alloc_old _ _ ap).trans NB,rfl,M.o.alloc M.o.size _,V.o (by rw[<-am.o];exact hq)⟩
   cases q1:(Y==r) with
   |false=>
    have ah:=zc (N.o (fun e=>by rw[e] at q1;simp at q1));clear N V;go_wp2;go_roundg ((leftOf I (A.push y.born)).size)
    case rel=>exact ah.o
    case measure=>have:=ab.o;have:=HK.o;omega
   |true=>
    by_cases q2:1<c
    ·have aw:(1:Int)<(c:Int):=by omega
     have HV:Hid (twK L r):=⟨n0,by rw[<-eq_of_beq q1,<-am.o];omega⟩;clear N V;go_wp2;go_ret;exact⟨⟨true,rfl,⟨fun _=>HV.o,fun _=>rfl⟩⟩,M.o.alloc M.o.size _⟩
    ·have aw: ¬(1:Int)<(c:Int):=by omega
     have ah:=zc (N.o (fun _=>by omega));clear N V;go_wp2;go_roundg ((leftOf I (A.push y.born)).size)
     case rel=>exact ah.o
     case measure=>have:=ab.o;have:=HK.o;omega
theorem zvO (x:Ex) (w:World):Calls prog 141 #[.agg #[.int .i64 x.kind,.int .i64 x.num,.string x.name,.string x.field,.int .i64 x.l,.int .i64 x.r]] w fun e q=>e= .returned (.bool (x.kind==4||x.kind==5))/\Bw w q:=by
 have h:Hid (Bw w (w.alloc (.cells #[.int .i64 x.kind,.int .i64 x.num,.string x.name,.string x.field,.int .i64 x.l,.int .i64 x.r] 100))):=bA0;cases A:(x.kind==4) with
 |true=>
  go_enter func141,ntmps141;go_wp2;go_ret;exact⟨rfl,h.o⟩
 |false=>
  cases z:(x.kind==5) with
  |true=>
   go_enter func141,ntmps141;go_wp2;go_ret;exact⟨rfl,h.o⟩
  |false=>
   go_enter func141,ntmps141;go_wp2;go_ret;exact⟨rfl,h.o⟩
def hB (L:List (Int×BA)) (r:Int) (n:BA):Bool:=decide (0<cnt L (r,n))
def unI (L:List (Int×BA)) (x:Ep):Bool:=(x.kind==1&& !(x.loc.toList==dN))&& !hB L 1 x.loc
def mxI (L:List (Int×BA)) (x:Ex):Bool:=(x.kind==4||x.kind==5)&& !hB L 3 x.name
def seI (L:List (Int×BA)) (x:Ep):Bool:=x.kind==1&&hB L 3 x.loc
def ssI (L:List (Int×BA)) (x:Sm):Bool:=x.kind==3&&hB L 3 x.name
def sxI (L:List (Int×BA)) (x:Ex):Bool:=(x.kind==2||x.kind==3)&&hB L 3 x.name
theorem ziO {α:Type} {f:α->Bool} {l:List α} {x:α} (h:l[b]? =some x) (q:f x=true):l.any f=true:=List.any_eq_true.2 ⟨x,mem_of_getElem? h,q⟩
theorem zhm {α:Type} {f:α->Bool} {l:List α} {x:α} (h:l[b]? =some x) (w:(l.take b).any f=false) (q:f x=false):(l.take (b+1)).any f=false:=by
 rw[zdk h,List.any_append,w,Bool.false_or,List.any_cons,q];rfl
def zxX (r:Int) (n:BA):Prop:=RoleOk (r,n)
theorem zfp {r:Int} (h:1<=r) (w:r<=3) (q:A.size<=maxLen):RoleOk (r,A):=⟨h,w,q⟩
theorem zvP {q:World} {o:Obj} (h:V.heap[b]? =some o) (z:Bw V q):q.heap[b]? =some o:=(z.block b (aLt h)).trans h
theorem zvQ (L:List (Int×BA)) (a:Option Addr) (ad:Nat) (l:List Ep) (w:World) (h:CntW w g L) (hr:RowAt w a epL 4 l) (hl:l.length<=10000) (hn: ∀x∈l,x.loc.size<=maxLen):
  Calls prog 100 #[.map (some g),.slice a l.length ad] w fun e D=>e= .returned (.bool (l.any (unI L)))/\Bw w D:=by
 have CW:=zc h;have HR:=zc hr;have HN:=zc hn;clear h hr hn;go_enter func100,ntmps100;go_wp2;go_loopg [9] l.length (fun k i wr=>∃j:Nat,i= .int .i64 j/\j+k=l.length/\(l.take j).any (unI L)=false/\Bw w wr)
 case atStart=>exact⟨0,rfl,by omega,rfl,Below.refl _ _⟩
 case round=>
  obtain⟨j,rfl,hj,N,Y⟩:=hrel;have K:=zc N;have q:=zc Y;clear N Y;by_cases ab:j<l.length
  ·have aa:(j:Int)<(l.length:Int):=by omega
   obtain⟨x,hx⟩: ∃x,l[j]? =some x:=⟨_,getElem?_eq_getElem ab⟩;obtain⟨bb,ag,rfl,hc⟩:=(HR.o.later q.o).get hx;have HX:=zc hx;have NS:=zc (HN.o x (mem_of_getElem? HX.o));have d0:=hc 0 _ rfl;have d1:=hc 1 _ rfl;have d2:=hc 2 _ rfl;have d3:=hc 3 _ rfl;simp only[Nat.add_zero] at d0;clear hc hx;obtain⟨O,U⟩: ∃O,O=j+1:=⟨_,rfl⟩;have ej:(j:Int)+1=(O:Int):=by omega
   have z:Hid (∀D:World,unI L x=false->Bw wr D->∃j':Nat,Value.int .i64 (O:Int)= .int .i64 (j':Int)/\j'+(gk-1)=l.length/\(l.take j').any (unI L)=false/\Bw w D):=fun D h1 h2=>⟨O,rfl,by omega,by rw[U];exact zhm HX.o K.o h1,q.o.trans (h2.mono q.o.size)⟩;clear U;go_upto_region 4 with fail;refine zu (R:=fun W=>Below wr.heap.size wr W/\W.heap[wr.heap.size]? =some (.cells (epL x).toArray 97 (0,0))) ⟨bA0,heap_alloc_new wr _⟩ ?_;have Z:=zc (CW.o.kept ((q.o.block _ CW.o.lt)));obtain⟨bs,I⟩: ∃bs,bs=wr.heap.size:=⟨_,rfl⟩;rw[<-I];have ae:=zc I;clear d0 d1 d2 d3 I;rintro W2 ⟨H,J⟩;rw[ae.o] at H;have E:=zc H;have X:=zc (Z.o.kept (H.block _ Z.o.lt));obtain⟨e0,e1,e2,e3,ef⟩:=zbN J;have af:=(aLt J);clear H J;cases k1:(x.kind==1) with
   |true=>
    cases kd:(x.loc.toList==dN) with
    |true=>
     have A:=zc (z.o W2 (by rw[unI,k1,kd];rfl) E.o);clear z;go_wp2;go_roundg (gk-1)
     case rel=>exact A.o
     case measure=>omega
    |false=>
     cases M:hB L 1 x.loc with
     |true=>
      have A:=zc (z.o W2 (by rw[unI,k1,kd,M];rfl) E.o);clear z;go_wp2_with (first|(go_at_call 139;refine (zfo g L 1 x.loc _ X.o (zfp (by decide) (by decide) NS.o)).mono ?_;rintro e D ⟨rfl,V⟩;rw[V];clear V D;change hB L 1 x.loc=_ at M;rw[show decide (0<cnt L (1,x.loc))=hB L 1 x.loc from rfl,M]));go_roundg (gk-1)
      case rel=>exact A.o
      case measure=>omega
     |false=>
      have HV:Hid (l.any (unI L)=true):=ziO HX.o (by rw[unI,k1,kd,M];rfl);clear z;go_wp2_with (first|(go_at_call 139;refine (zfo g L 1 x.loc _ X.o (zfp (by decide) (by decide) NS.o)).mono ?_;rintro e D ⟨rfl,V⟩;rw[V];clear V D;change hB L 1 x.loc=_ at M;rw[show decide (0<cnt L (1,x.loc))=hB L 1 x.loc from rfl,M]));go_ret;exact⟨zi HV.o.symm,q.o.trans (E.o.mono q.o.size)⟩
   |false=>
    have A:=zc (z.o W2 (by rw[unI,k1];rfl) E.o);clear z;go_wp2;go_roundg (gk-1)
    case rel=>exact A.o
    case measure=>omega
  ·have aa: ¬(j:Int)<(l.length:Int):=by omega
   have ac:l.take j=l:=take_of_length_le (by omega);rw[ac] at K;go_wp2;go_ret;exact⟨zi K.o.symm,q.o⟩
theorem zvR (L:List (Int×BA)) (a:Option Addr) (ai:Nat) (l:List Ex) (w:World) (h:CntW w g L) (hr:RowAt w a exL 6 l) (hl:l.length<=10000) (hn: ∀x∈l,x.name.size<=maxLen):
  Calls prog 102 #[.map (some g),.slice a l.length ai] w fun e D=>e= .returned (.bool (l.any (mxI L)))/\Bw w D:=by
 have CW:=zc h;have HR:=zc hr;have HN:=zc hn;clear h hr hn;go_enter func102,ntmps102;go_wp2;go_loopg [9] l.length (fun k i wr=>∃j:Nat,i= .int .i64 j/\j+k=l.length/\(l.take j).any (mxI L)=false/\Bw w wr)
 case atStart=>exact⟨0,rfl,by omega,rfl,Below.refl _ _⟩
 case round=>
  obtain⟨j,rfl,hj,V,ad⟩:=hrel;have K:=zc V;have q:=zc ad;clear V ad;by_cases ag:j<l.length
  ·have af:(j:Int)<(l.length:Int):=by omega
   obtain⟨x,hx⟩: ∃x,l[j]? =some x:=⟨_,getElem?_eq_getElem ag⟩;obtain⟨bb,al,rfl,O⟩:=(HR.o.later q.o).get hx;have HX:=zc hx;have NS:=zc (HN.o x (mem_of_getElem? HX.o));have d0:=O 0 _ rfl;have d1:=O 1 _ rfl;have d2:=O 2 _ rfl;have d3:=O 3 _ rfl;have d4:=O 4 _ rfl;have d5:=O 5 _ rfl;simp only[Nat.add_zero] at d0;clear O hx;obtain⟨X,Y⟩: ∃X,X=j+1:=⟨_,rfl⟩;have ej:(j:Int)+1=(X:Int):=by omega
   have z:Hid (∀D:World,mxI L x=false->Bw wr D->∃j':Nat,Value.int .i64 (X:Int)= .int .i64 (j':Int)/\j'+(gk-1)=l.length/\(l.take j').any (mxI L)=false/\Bw w D):=fun D h1 h2=>⟨X,rfl,by omega,by rw[Y];exact zhm HX.o K.o h1,q.o.trans (h2.mono q.o.size)⟩;clear Y;go_upto_region 4 with fail;refine zu (R:=fun W=>Below wr.heap.size wr W/\W.heap[wr.heap.size]? =some (.cells (exL x).toArray 100 (0,0))) ⟨bA0,heap_alloc_new wr _⟩ ?_;have ae:=zc (CW.o.kept ((q.o.block _ CW.o.lt)));obtain⟨bs,I⟩: ∃bs,bs=wr.heap.size:=⟨_,rfl⟩;rw[<-I];have aj:=zc I;clear d0 d1 d2 d3 d4 d5 I;rintro W2 ⟨E,A⟩;rw[aj.o] at E;have ab:=zc E;have aa:=zc (ae.o.kept (E.block _ ae.o.lt));obtain⟨e0,e1,e2,e3,e4,e5,ef⟩:=zy A;have ac:=(aLt A);clear E;go_wp2_with fail;refine (zvO x _).mono ?_;rintro e W3 ⟨rfl,H⟩;have J:=zvP A H;have M:=zc (ab.o.trans (H.mono ab.o.size));have Z:=zc (aa.o.kept (H.block _ aa.o.lt));clear e0 e1 e2 e3 e4 e5 ef ac H;obtain⟨e0,e1,e2,e3,e4,e5,ef⟩:=zy J;have ak:=(aLt J);clear A J;cases kb:(x.kind==4||x.kind==5) with
   |true=>
    cases U:hB L 3 x.name with
    |true=>
     have N:=zc (z.o W3 (by rw[mxI,kb,U];rfl) M.o);clear z;go_wp2_with (first|(go_at_call 139;refine (zfo g L 3 x.name _ Z.o (zfp (by decide) (by decide) NS.o)).mono ?_;rintro e D ⟨rfl,hw⟩;rw[hw];clear hw D;change hB L 3 x.name=_ at U;rw[show decide (0<cnt L (3,x.name))=hB L 3 x.name from rfl,U]));go_roundg (gk-1)
     case rel=>exact N.o
     case measure=>omega
    |false=>
     have HV:Hid (l.any (mxI L)=true):=ziO HX.o (by rw[mxI,kb,U];rfl);clear z;go_wp2_with (first|(go_at_call 139;refine (zfo g L 3 x.name _ Z.o (zfp (by decide) (by decide) NS.o)).mono ?_;rintro e D ⟨rfl,hw⟩;rw[hw];clear hw D;change hB L 3 x.name=_ at U;rw[show decide (0<cnt L (3,x.name))=hB L 3 x.name from rfl,U]));go_ret;exact⟨zi HV.o.symm,q.o.trans (M.o.mono q.o.size)⟩
   |false=>
    have N:=zc (z.o W3 (by rw[mxI,kb];rfl) M.o);clear z;go_wp2;go_roundg (gk-1)
    case rel=>exact N.o
    case measure=>omega
  ·have af: ¬(j:Int)<(l.length:Int):=by omega
   have ah:l.take j=l:=take_of_length_le (by omega);rw[ah] at K;go_wp2;go_ret;exact⟨zi K.o.symm,q.o⟩
def zba (l:List BA) (n:BA):Nat:=@List.count BA instBEqOfDecidableEq n l
theorem zfq:0<zba z A↔A∈z:=zmK z A
theorem zgf:zba (w++C) s=zba w s+zba C s:=zmL w C s
theorem ziP:zba (w++[s]) t=zba w t+if s=t then 1 else 0:=ziN w s t
theorem zd5 (l1 h:List (Int×BA)) (p:Int×BA):cnt (l1++h) p=cnt l1 p+cnt h p:=zmL l1 h p
theorem zvS (l:List (Int×BA)) (x p:Int×BA):cnt (l++[x]) p=cnt l p+if x=p then 1 else 0:=ziN l x p
theorem zmQ (p:Int×BA):cnt [] p=0:=rfl
theorem zmR:zba [] s=0:=rfl
theorem zeF (l:List (Int×BA)) (x p:Int×BA):cnt (x::l) p=cnt l p+if x=p then 1 else 0:=by
 have:=zd5 [x] l p;have h:=zvS [] x p;rw[List.nil_append,zmQ,Nat.zero_add] at h;rw[List.singleton_append,h] at this;omega
theorem zhn:zba (s::w) t=zba w t+if s=t then 1 else 0:=by
 have:=zgf [s] w t;have h:=ziP [] s t;rw[List.nil_append,zmR,Nat.zero_add] at h;rw[List.singleton_append,h] at this;omega
theorem zvT {n:BA}: ∀k,k<=z.length->2<=zba (z.take k) n->∃i,i<k/\inL (z.take i) (z.getD i sNone)=true:=by
 intro k
 induction k with
 |zero=>intro _ h;rw[take_zero,zmR] at h;omega
 |succ k A=>
  intro d h;have w:z[k]? =some z[k]:=getElem?_eq_getElem d;rw[zdk w,ziP] at h;by_cases D:2<=zba (z.take k) n
  ·obtain⟨i,E,q⟩:=A (by omega) D;exact⟨i,by omega,q⟩
  ·split at h
   ·rename_i e
    refine⟨k,by omega,zgG.2 ?_⟩;rw[show z.getD k sNone=z[k] by simp[List.getD,w],e];exact zfq.1 (by omega)
   ·omega
theorem ziQ:twB z=true↔∃n,2<=zba z n:=by
 constructor
 ·intro h;rw[twB,List.any_eq_true] at h;obtain⟨k,w,q⟩:=h;rw[List.mem_range] at w;have d:z[k]? =some z[k]:=getElem?_eq_getElem w;rw[show z.getD k sNone=z[k] by simp[List.getD,d]] at q;have E:=zfq.2 (zgG.1 q);refine⟨z[k],?_⟩;have e:z=z.take (k+1)++z.drop (k+1):=(List.take_append_drop _ _).symm;have:zba z z[k]=zba (z.take (k+1)) z[k]+zba (z.drop (k+1)) z[k]:=by
   rw[<-zgf,<-e]
  rw[zdk d,ziP,if_pos rfl] at this;omega
 ·rintro⟨n,D⟩;obtain⟨i,A,q⟩:=zvT (n:=n) z.length (Nat.le_refl _) (by rw[List.take_length];exact D);exact zk4 A q
def zeg (l:List Im):List BA:=(l.filter fun x=>x.first.toList==[42]).map (·.loc)
theorem ziR (l:List Im) (n:BA):cnt (kI l) (1,n)=zba (imN l) n/\cnt (kI l) (2,n)=0/\cnt (kI l) (3,n)=zba (zeg l) n:=by
 induction l with
 |nil=>exact⟨rfl,rfl,rfl⟩
 |cons x l h=>
  have e:kI (x::l)=((1,x.loc)::if x.first.toList==[42] then [(3,x.loc)] else [])++kI l:=rfl;have w:imN (x::l)=x.loc::imN l:=rfl;rw[e,w,zd5,zd5,zd5,h.1,h.2.1,h.2.2,zhn];have q:zeg (x::l)=if x.first.toList==[42] then x.loc::zeg l else zeg l:=by
   rw[zeg,List.filter_cons]
   split<;>rfl
  rw[q];generalize (x.first.toList==[42])=b;cases b<;>simp[zeF,zmQ,zhn]<;>omega
theorem ziS (l:List Sm) (n:BA):cnt (kS l) (1,n)=zba ((l.filter zcr).map (·.name)) n/\cnt (kS l) (2,n)=0/\cnt (kS l) (3,n)=0:=by
 rw[kS]
 induction l.filter zcr with
 |nil=>exact⟨rfl,rfl,rfl⟩
 |cons x l h=>
  rw[map_cons,map_cons,zeF,zeF,zeF,h.1,h.2.1,h.2.2,zhn];simp
theorem ziT (l:List Ep) (n:BA):cnt (kE l) (1,n)=0/\cnt (kE l) (2,n)=zba (epN l) n/\cnt (kE l) (3,n)=0:=by
 rw[kE,epN]
 induction l.filter (fun x=> !(x.kind==3)) with
 |nil=>exact⟨rfl,rfl,rfl⟩
 |cons x l h=>
  rw[map_cons,map_cons,zeF,zeF,zeF,h.1,h.2.1,h.2.2,zhn];simp
theorem zvU (h:zcL S):S.filter zcr=S.filter zbU:=by
 refine List.filter_congr fun s D=>?_;have z:=h s D;rw[zcr,zbU];cases w:(s.name.toList==dN) with
 |true=>
  have A:=z (by simpa using w);rw[A];rfl
 |false=>simp[Bool.or_comm]
theorem ziU (h:zcL c.st) (n:BA):cnt (zbq c) (1,n)=zba (zbP c) n:=by
 rw[zbq,zd5,zd5,(ziR _ _).1,(ziS _ _).1,(ziT _ _).1,zvU h,zbP,zgf,stN];omega
theorem zmS:cnt (zbq W) (2,s)=zba (epN W.ep) s:=by
 rw[zbq,zd5,zd5,(ziR _ _).2.1,(ziS _ _).2.1,(ziT _ _).2.1];omega
theorem zvV:cnt (zbq W) (3,s)=zba (zeg W.im) s:=by
 rw[zbq,zd5,zd5,(ziR _ _).2.2,(ziS _ _).2.2,(ziT _ _).2.2];omega
theorem tw1 (h:zcL c.st):twK (zbq c) 1↔twB (zbP c)=true:=by
 rw[ziQ];exact⟨fun⟨n,q⟩=>⟨n,by rw[<-ziU h];exact q⟩,fun⟨n,q⟩=>⟨n,by rw[ziU h];exact q⟩⟩
theorem tw2:twK (zbq W) 2↔twB (epN W.ep)=true:=by
 rw[ziQ];exact⟨fun⟨n,h⟩=>⟨n,by rw[<-zmS];exact h⟩,fun⟨n,h⟩=>⟨n,by rw[zmS];exact h⟩⟩
theorem zvW (h:zcL c.st) (n:BA):hB (zbq c) 1 n=inL (zbP c) n:=by
 rw[hB,ziU h,Bool.eq_iff_iff,decide_eq_true_eq,zfq,zgG]
theorem zho (J:twB (zbP c)=false) (n:BA):hB (zbq c) 3 n=spB c.im n:=by
 have z: ∀(i j:Nat) (x y:Im),c.im[i]? =some x->c.im[j]? =some y->i<j->x.loc=n->y.loc≠n:=by
  intro i j x y E H N q M;have:twB (zbP c)=true:=by
   rw[ziQ];refine⟨n,?_⟩;rw[zbP,zgf];have e:imN c.im=imN (c.im.take j)++imN (c.im.drop j):=by rw[imN,imN,imN,<-List.map_append,List.take_append_drop]
   rw[e,zgf];have V:0<zba (imN (c.im.take j)) n:=zfq.2 (List.mem_map.2 ⟨x,mem_of_getElem? (i:=i) (by rw[List.getElem?_take,if_pos N];exact E),q⟩);have U:0<zba (imN (c.im.drop j)) n:=zfq.2 (List.mem_map.2 ⟨y,mem_of_getElem? (i:=0) (by rw[List.getElem?_drop];exact H),M⟩);omega
  rw[J] at this;cases this
 rw[hB,zvV,Bool.eq_iff_iff,decide_eq_true_eq,zfq];have D:n∈zeg c.im↔∃x∈c.im,(x.first.toList==[42])=true/\x.loc=n:=by
  rw[zeg,List.mem_map];constructor
  ·rintro⟨x,q,e⟩;rw[mem_filter] at q;exact⟨x,q.1,q.2,e⟩
  ·rintro⟨x,q,L,I⟩;exact⟨x,List.mem_filter.2 ⟨q,L⟩,I⟩
 rw[D,spB];cases K:c.im.find? (fun x=>x.loc.toList==n.toList) with
 |none=>
  rw[List.find?_eq_none] at K;constructor
  ·rintro⟨x,q,_,e⟩;exact absurd ((zei _ _).2 e) (K x q)
  ·intro h;cases h
 |some y=>
  obtain⟨M,i,E,w,O⟩:=List.find?_eq_some_iff_getElem.1 K;have A:=(zei _ _).1 M;constructor
  ·rintro⟨x,q,L,I⟩;obtain⟨j,H,rfl⟩:=List.mem_iff_getElem.1 q;rcases Nat.lt_trichotomy i j with h|h|h
   ·exact absurd I (z i j y _ (by rw[getElem?_eq_getElem E,w]) (getElem?_eq_getElem H) h A)
   ·subst h;rw[<-w];exact L
   ·exact absurd A (z j i _ y (getElem?_eq_getElem H) (by rw[getElem?_eq_getElem E,w]) h I)
  ·intro h;exact⟨y,by rw[<-w];exact List.getElem_mem E,h,A⟩
theorem zvX (h:zcL c.st):c.ep.any (unI (zbq c))=unB (zbP c) c.ep:=by
 rw[unB];congr 1;funext x;rw[unI,zvW h,Bool.and_assoc]
theorem zvY (h:twB (zbP c)=false):(c.ep.any (seI (zbq c))||(c.st.any (ssI (zbq c))||c.ex.any (sxI (zbq c))))=(seB c.im c.ep||sxB c.im c.ex||ssB c.im c.st):=by
 have z:seI (zbq c)=fun x=>x.kind==1&&spB c.im x.loc:=by funext x;rw[seI,zho h]
 have w:ssI (zbq c)=fun x=>x.kind==3&&spB c.im x.name:=by funext x;rw[ssI,zho h]
 have q:sxI (zbq c)=fun x=>(x.kind==2||x.kind==3)&&spB c.im x.name:=by funext x;rw[sxI,zho h]
 rw[z,w,q,seB,sxB,ssB,Bool.or_assoc];congr 1;exact Bool.or_comm _ _
theorem zvZ (h:twB (zbP c)=false):c.ex.any (mxI (zbq c))=mxB c.im c.ex:=by
 have e:mxI (zbq c)=fun x=>(x.kind==4||x.kind==5)&& !spB c.im x.name:=by funext x;rw[mxI,zho h]
 rw[e,mxB]
end Go.Proofs.YtgcbmogmniahjaaGreat
