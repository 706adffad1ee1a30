/- Facts and walks that the theorem stands on. -/
import Derived.BigRegion
import Derived.Test.YtgcbmogmniahjaaGreatA45
import Derived.Test.YtgcbmogmniahjaaGreatA22
namespace Go.Proofs.YtgcbmogmniahjaaGreat
open Go.Proofs.Tryz
set_option maxRecDepth 100000
set_option maxHeartbeats 6400000
open Go.RowKit Go.PlainAid Go.Sort
def zcn (s:Sm):Bool:=s.kind==2||(s.kind==1&& !(s.name.toList==dN))
def kI (l:List Im):List (Int×BA):=l.flatMap fun x=>(1,x.loc)::if x.first.toList==[42] then [(3,x.loc)] else []
def kS (l:List Sm):List (Int×BA):=(l.filter zcn).map fun x=>(1,x.name)
def kE (l:List Ep):List (Int×BA):=(l.filter fun x=> !(x.kind==3)).map fun x=>(2,x.name)
def zbn (m:Md):List (Int×BA):=kI m.im++kS m.st++kE m.ep
theorem zvs {l:List Im} {j:Nat} {x:Im} (h:l[j]? =some x):kI (l.take (j+1))=if x.first.toList==[42] then kI (l.take j)++[(1,x.loc)]++[(3,x.loc)] else kI (l.take j)++[(1,x.loc)]:=by
 have e:kI [x]=(1,x.loc)::if x.first.toList==[42] then [(3,x.loc)] else []:=by rw[kI,List.flatMap_cons,List.flatMap_nil,List.append_nil]
 have q:kI (l.take j++[x])=kI (l.take j)++kI [x]:=by rw[kI,List.flatMap_append];rfl
 rw[zdc h,q,e];generalize (x.first.toList==[42])=b;cases b<;>simp
theorem zvt {l:List Sm} {j:Nat} {x:Sm} (h:l[j]? =some x):kS (l.take (j+1))=if zcn x then kS (l.take j)++[(1,x.name)] else kS (l.take j):=by
 rw[zdc h,kS,kS,List.filter_append];cases q:zcn x<;>simp[q]
theorem zvu {l:List Ep} {j:Nat} {x:Ep} (h:l[j]? =some x):kE (l.take (j+1))=if x.kind==3 then kE (l.take j) else kE (l.take j)++[(2,x.name)]:=by
 rw[zdc h,kE,kE,List.filter_append];cases q:(x.kind==3)<;>simp[q]
theorem zm8 (l:List Im):(kI l).length<=2*l.length:=by
 induction l with
 |nil=>simp[kI]
 |cons x l h=>
  have:kI (x::l)=((1,x.loc)::if x.first.toList==[42] then [(3,x.loc)] else [])++kI l:=rfl;rw[this,List.length_append,List.length_cons,List.length_cons]
  split<;>simp<;>omega
theorem zm9 (l:List Sm):(kS l).length<=l.length:=by
 rw[kS,List.length_map];exact List.length_filter_le _ _
theorem zvv (l:List Ep):(kE l).length<=l.length:=by
 rw[kE,List.length_map];exact List.length_filter_le _ _
theorem zvw (x:Sm) (w:World):
  Calls prog 138 #[.agg #[.int .i64 x.kind,.string x.name,.int .i64 x.expr]] w fun e w'=>e= .returned (.bool (zcn x))/\Below w.heap.size w w':=by
 have z:Hid (Below w.heap.size w (w.alloc (.cells #[.int .i64 x.kind,.string x.name,.int .i64 x.expr] 102))):=(Below.refl _ _).alloc (Nat.le_refl _) _;cases q:(x.kind==2) with
 |true=>
  have h:Hid (zcn x=true):=by show _=_;rw[zcn,q];rfl
  go_enter func138,ntmps138;go_wp2;go_ret;exact⟨zi h.o.symm,z.o⟩
 |false=>
  cases A:(x.kind==1) with
  |false=>
   have h:Hid (zcn x=false):=by show _=_;rw[zcn,q,A];rfl
   go_enter func138,ntmps138;go_wp2;go_ret;exact⟨zi h.o.symm,z.o⟩
  |true=>
   have h:Hid (zcn x= !(x.name.toList==dN)):=by show _=_;rw[zcn,q,A];simp
   go_enter func138,ntmps138;go_wp2;go_ret;exact⟨zi h.o.symm,z.o⟩
def zvx (w:World) (L:List (Int×BA)) (e:Ending) (w':World):Prop:=∃b,e= .returned (.map (some b))/\CntW w' b L/\Below w.heap.size w w'/\w.heap.size<=b
def SU (W0 W:World) (L:List (Int×BA)):Prop:=CntW W W0.heap.size L/\Below W0.heap.size W0 W
theorem SU.below {q W w:World} {L:List (Int×BA)} (h:SU q W L) (z:Below W.heap.size W w):SU q w L:=⟨h.1.kept (z.block _ h.1.lt),h.2.trans (z.mono h.2.size)⟩
theorem SU.grown {q W w:World} {L z:List (Int×BA)} (h:SU q W L) (I:CntW w q.heap.size z) (H:W.grownBy w (some q.heap.size)):SU q w z:=⟨I,h.2.grown H h.2.size fun k A=>by cases A;exact Nat.le_refl _⟩
theorem SU.start (h:World):SU h (h.alloc (.map #[] 0)) []:=⟨⟨#[],0,heap_alloc_new h _,zvn mkK,fun p q=>by cases q⟩,(Below.refl _ _).alloc (Nat.le_refl _) _⟩
def zhb (m:Md):Prop:=(∀x∈m.im,x.loc.size<=maxLen)/\(∀x∈m.st,x.name.size<=maxLen)/\(∀x∈m.ep,x.name.size<=maxLen/\x.loc.size<=maxLen)/\∀x∈m.ex,x.name.size<=maxLen
theorem zvy (V:Sv) (m:Md) (w:World) (hI:RowAt w V.im.a imL 3 m.im) (hE:RowAt w V.ep.a epL 4 m.ep) (hS:RowAt w V.st.a smL 3 m.st) (lI:m.im.length<=10000) (lE:m.ep.length<=10000) (lS:m.st.length<=10000) (hN:zhb m):
  Calls prog 98 #[zl V m] w (zvx w (zbn m)):=by
 obtain⟨a1,aq⟩: ∃a,V.im.a=a:=⟨_,rfl⟩;obtain⟨a2,aB⟩: ∃a,V.ep.a=a:=⟨_,rfl⟩;obtain⟨a3,ar⟩: ∃a,V.st.a=a:=⟨_,rfl⟩;unfold zl;rw[aq] at hI ⊢;rw[aB] at hE ⊢;rw[ar] at hS ⊢;have ah:Hid (Below w.heap.size w (w.alloc (.cells #[.slice V.rq.a m.rq.length V.rq.cap,.slice a1 m.im.length V.im.cap,.slice a2 m.ep.length V.ep.cap,.slice a3 m.st.length V.st.cap,.slice V.ex.a m.ex.length V.ex.cap] 54))):=(Below.refl _ _).alloc (Nat.le_refl _) _;have al:=zc (heap_alloc_new w (.cells #[.slice V.rq.a m.rq.length V.rq.cap,.slice a1 m.im.length V.im.cap,.slice a2 m.ep.length V.ep.cap,.slice a3 m.st.length V.st.cap,.slice V.ex.a m.ex.length V.ex.cap] 54));have HS:=zc (zg w (.cells #[.slice V.rq.a m.rq.length V.rq.cap,.slice a1 m.im.length V.im.cap,.slice a2 m.ep.length V.ep.cap,.slice a3 m.st.length V.st.cap,.slice V.ex.a m.ex.length V.ex.cap] 54));have RI:=zc (hI.later ah.o);have RE:=zc (hE.later ah.o);have RS:=zc (hS.later ah.o);have ST:=zc (SU.start (w.alloc (.cells #[.slice V.rq.a m.rq.length V.rq.cap,.slice a1 m.im.length V.im.cap,.slice a2 m.ep.length V.ep.cap,.slice a3 m.st.length V.st.cap,.slice V.ex.a m.ex.length V.ex.cap] 54)));have ak:=zc hN;clear hI hE hS aq aB ar hN;have aF:=@run_makeMap prog;go_enter func98,ntmps98;go_upto_region 2 with fail;obtain⟨U,ax⟩: ∃U,U=w.alloc (.cells #[.slice V.rq.a m.rq.length V.rq.cap,.slice a1 m.im.length V.im.cap,.slice a2 m.ep.length V.ep.cap,.slice a3 m.st.length V.st.cap,.slice V.ex.a m.ex.length V.ex.cap] 54):=⟨_,rfl⟩;rw[<-ax] at al ah HS RI RE RS ST ⊢;refine zx (R:=fun W=>SU U W []) ST.o ?_;clear ax ST aF;intro W1 ay;have ao:=zc ay;clear ay;obtain⟨c0,c1,c2,c3,c4,cf⟩:=zj ((ao.o.2.block w.heap.size (by rw[HS.o];omega)).trans al.o);go_wp2;go_loopg [14] m.im.length (fun k i wr=>∃j:Nat,i= .int .i64 j/\j+k=m.im.length/\SU U wr (kI (m.im.take j)))
 case atStart=>exact⟨0,rfl,by omega,ao.o⟩
 case round=>
  clear c0 c1 c2 c3 c4 cf;obtain⟨j,rfl,hj,ab⟩:=hrel;have q:=zc ab;clear ab;by_cases af:j<m.im.length
  ·have ac:(j:Int)<(m.im.length:Int):=by omega
   obtain⟨x,hx⟩: ∃x,m.im[j]? =some x:=⟨_,List.getElem?_eq_getElem af⟩;obtain⟨b,au,rfl,Z⟩:=(RI.o.later q.o.2).get hx;have H:=zc (zvs hx);have ag:Hid (RoleOk (1,x.loc)):=⟨by show (1:Int)<=1;omega,by show (1:Int)<=3;omega,ak.o.1 x (List.mem_of_getElem? hx)⟩;have aC:Hid (RoleOk (3,x.loc)):=⟨by show (1:Int)<=3;omega,by show (3:Int)<=3;omega,ak.o.1 x (List.mem_of_getElem? hx)⟩;have d0:=Z 0 _ rfl;have d1:=Z 1 _ rfl;have d2:=Z 2 _ rfl;simp only[Nat.add_zero] at d0;clear Z hx;obtain⟨L,hL⟩: ∃L,L=kI (m.im.take j):=⟨_,rfl⟩;have aA:L.length<=20000:=by rw[hL];have:=zm8 (m.im.take j);rw[List.length_take] at this;omega
   rw[<-hL] at q H;clear hL;obtain⟨Y,aa⟩: ∃Y,Y=j+1:=⟨_,rfl⟩;have ej:(j:Int)+1=(Y:Int):=by omega
   have I:Hid (∀(w':World),SU U w' (kI (m.im.take (j+1)))->∃j':Nat,Value.int .i64 (Y:Int)= .int .i64 (j':Int)/\j'+(gk-1)=m.im.length/\SU U w' (kI (m.im.take j'))):=fun w' h=>⟨Y,rfl,by omega,by rw[aa];exact h⟩;clear aa;go_upto_region 5 with fail;refine zx (R:=fun W=>SU U W L/\W.heap[wr.heap.size]? =some (.cells (imL x).toArray 95 (0,0))/\wr.heap.size<W.heap.size) ⟨q.o.below ((Below.refl _ _).alloc (Nat.le_refl _) _),heap_alloc_new wr _,by rw[zg];omega⟩ ?_;obtain⟨bs,X⟩: ∃bs,bs=wr.heap.size:=⟨_,rfl⟩;rw[<-X];have NE:Hid (some bs≠some U.heap.size):=fun e=>by have:=q.o.1.lt;simp only[Option.some.injEq] at e;omega
   clear d0 d1 d2 X q;rintro W2 ⟨N,K,O⟩;have ai:=zc N;have aj:=zc K;obtain⟨e0,e1,e2,ef⟩:=zo K;obtain⟨c,v0,st,Wa,Wb,Z,l1,me,l2,es,z,J⟩:=N.1.bump (1,x.loc) ag.o;have aI:c<=20000:=by omega
   dsimp only at l1 me l2 es;have A:=zc (N.grown z J);have X3:Hid (Wb.heap[bs]? =some (.cells (imL x).toArray 95 (0,0))):=(J.block bs O NE.o).trans K;have az:bs<Wb.heap.size:=Nat.lt_of_lt_of_le O J.size;clear N K z J Z;rw[HS.o] at l1 me l2 es;go_wp2_with fail;go_region
   all_goals
    clear e0 e1 e2 ef l1 me l2 es;obtain⟨e0,e1,e2,ef⟩:=zo X3.o;cases kf:(x.first.toList==[42]) with
    |false=>
     have M:=zc (I.o Wb (by rw[H.o,kf,if_neg Bool.false_ne_true];exact A.o));clear I H A ai X3 aj;go_wp2;go_roundg (gk-1)
     case rel=>exact M.o
     case measure=>omega
    |true=>
     obtain⟨cc,v1,aw,Wc,Wd,ae,l1,me,l2,es,z,J⟩:=A.o.1.bump (3,x.loc) aC.o;rw[List.length_append] at ae;have av:cc<=20001:=by simp only[List.length_singleton] at ae;omega
     dsimp only at l1 me l2 es;rw[HS.o] at l1 me l2 es;have M:=zc (I.o Wd (by rw[H.o,kf,if_pos rfl];exact A.o.grown z J));clear I H A ai X3 aj z J ae;go_wp2_with fail;go_region
     all_goals
      go_wp2;go_roundg (gk-1)
      case rel=>exact M.o
      case measure=>omega
  ·have ac: ¬(j:Int)<(m.im.length:Int):=by omega
   have ad:m.im.take j=m.im:=List.take_of_length_le (by omega);rw[ad] at q;obtain⟨c0,c1,c2,c3,c4,cf⟩:=zj ((q.o.2.block w.heap.size (by rw[HS.o];omega)).trans al.o);obtain⟨L1,am⟩: ∃L,L=kI m.im:=⟨_,rfl⟩;have aD:=zc am;have aG:L1.length<=20000:=by rw[am];have:=zm8 m.im;omega
   rw[<-am] at q;clear am ad ao;go_wp2;go_loopg [41] m.st.length (fun k i wr=>∃j:Nat,i= .int .i64 j/\j+k=m.st.length/\SU U wr (L1++kS (m.st.take j)))
   case atStart=>exact⟨0,rfl,by omega,by rw[List.take_zero];show SU U _ (L1++[]);rw[List.append_nil];exact q.o⟩
   case round=>
    clear c0 c1 c2 c3 c4 cf q;obtain⟨j,rfl,hj,ab⟩:=hrel;have q:=zc ab;clear ab;by_cases af:j<m.st.length
    ·have ac:(j:Int)<(m.st.length:Int):=by omega
     obtain⟨x,hx⟩: ∃x,m.st[j]? =some x:=⟨_,List.getElem?_eq_getElem af⟩;obtain⟨b,au,rfl,Z⟩:=(RS.o.later q.o.2).get hx;have H:=zc (zvt hx);have ag:Hid (RoleOk (1,x.name)):=⟨by show (1:Int)<=1;omega,by show (1:Int)<=3;omega,ak.o.2.1 x (List.mem_of_getElem? hx)⟩;have d0:=Z 0 _ rfl;have d1:=Z 1 _ rfl;have d2:=Z 2 _ rfl;simp only[Nat.add_zero] at d0;clear Z hx;obtain⟨L,hL⟩: ∃L,L=L1++kS (m.st.take j):=⟨_,rfl⟩;have HL:=zc hL;have aA:L.length<=40000:=by rw[hL,List.length_append];have:=zm9 (m.st.take j);rw[List.length_take] at this;omega
     rw[<-hL] at q;clear hL;obtain⟨Y,aa⟩: ∃Y,Y=j+1:=⟨_,rfl⟩;have ej:(j:Int)+1=(Y:Int):=by omega
     have I:Hid (∀(w':World),SU U w' (L1++kS (m.st.take (j+1)))->∃j':Nat,Value.int .i64 (Y:Int)= .int .i64 (j':Int)/\j'+(gk-1)=m.st.length/\SU U w' (L1++kS (m.st.take j'))):=fun w' h=>⟨Y,rfl,by omega,by rw[aa];exact h⟩;clear aa;go_upto_region 12 with fail;refine zx (R:=fun W=>SU U W L/\W.heap[wr.heap.size]? =some (.cells (smL x).toArray 102 (0,0))/\wr.heap.size<W.heap.size) ⟨q.o.below ((Below.refl _ _).alloc (Nat.le_refl _) _),heap_alloc_new wr _,by rw[zg];omega⟩ ?_;obtain⟨bs,X⟩: ∃bs,bs=wr.heap.size:=⟨_,rfl⟩;rw[<-X];clear d0 d1 d2 X q;rintro W2 ⟨N,K,O⟩;have ai:=zc N;have aj:=zc K;obtain⟨e0,e1,e2,ef⟩:=zo K;clear N K;go_wp2_with fail;refine (zvw x _).mono ?_;rintro e W3 ⟨rfl,ap⟩;have A:=zc (ai.o.below ap);have X3:=zc ((ap.block bs O).trans aj.o);clear e0 e1 e2 ef ap ai aj O;obtain⟨e0,e1,e2,ef⟩:=zo X3.o;have az:=(aLt X3.o);cases hd:zcn x with
     |false=>
      have M:=zc (I.o W3 (by rw[H.o,hd,if_neg Bool.false_ne_true,<-HL.o];exact A.o));clear I H A X3 HL;go_wp2;go_roundg (gk-1)
      case rel=>exact M.o
      case measure=>omega
     |true=>
      obtain⟨cc,v1,aw,Wc,Wd,ae,l1,me,l2,es,z,J⟩:=A.o.1.bump (1,x.name) ag.o;have av:cc<=40000:=by omega
      dsimp only at l1 me l2 es;rw[HS.o] at l1 me l2 es;have M:=zc (I.o Wd (by rw[H.o,hd,if_pos rfl,<-List.append_assoc,<-HL.o];exact A.o.grown z J));clear I H A X3 HL z J ae;go_wp2_with fail;go_region
      all_goals
       go_wp2;go_roundg (gk-1)
       case rel=>exact M.o
       case measure=>omega
    ·have ac: ¬(j:Int)<(m.st.length:Int):=by omega
     have ad:m.st.take j=m.st:=List.take_of_length_le (by omega);rw[ad] at q;obtain⟨c0,c1,c2,c3,c4,cf⟩:=zj ((q.o.2.block w.heap.size (by rw[HS.o];omega)).trans al.o);obtain⟨L2,an⟩: ∃L,L=L1++kS m.st:=⟨_,rfl⟩;have aE:=zc an;have aH:L2.length<=40000:=by rw[an,List.length_append];have:=zm9 m.st;omega
     rw[<-an] at q;clear an ad;go_wp2;go_loopg [59] m.ep.length (fun k i wr=>∃j:Nat,i= .int .i64 j/\j+k=m.ep.length/\SU U wr (L2++kE (m.ep.take j)))
     case atStart=>exact⟨0,rfl,by omega,by rw[List.take_zero];show SU U _ (L2++[]);rw[List.append_nil];exact q.o⟩
     case round=>
      clear c0 c1 c2 c3 c4 cf q;obtain⟨j,rfl,hj,ab⟩:=hrel;have q:=zc ab;clear ab;by_cases af:j<m.ep.length
      ·have ac:(j:Int)<(m.ep.length:Int):=by omega
       obtain⟨x,hx⟩: ∃x,m.ep[j]? =some x:=⟨_,List.getElem?_eq_getElem af⟩;obtain⟨b,au,rfl,Z⟩:=(RE.o.later q.o.2).get hx;have H:=zc (zvu hx);have ag:Hid (RoleOk (2,x.name)):=⟨by show (1:Int)<=2;omega,by show (2:Int)<=3;omega,(ak.o.2.2.1 x (List.mem_of_getElem? hx)).1⟩;have d0:=Z 0 _ rfl;have d1:=Z 1 _ rfl;have d2:=Z 2 _ rfl;have d3:=Z 3 _ rfl;simp only[Nat.add_zero] at d0;clear Z hx;obtain⟨L,hL⟩: ∃L,L=L2++kE (m.ep.take j):=⟨_,rfl⟩;have HL:=zc hL;have aA:L.length<=60000:=by rw[hL,List.length_append];have:=zvv (m.ep.take j);rw[List.length_take] at this;omega
       rw[<-hL] at q;clear hL;obtain⟨Y,aa⟩: ∃Y,Y=j+1:=⟨_,rfl⟩;have ej:(j:Int)+1=(Y:Int):=by omega
       have I:Hid (∀(w':World),SU U w' (L2++kE (m.ep.take (j+1)))->∃j':Nat,Value.int .i64 (Y:Int)= .int .i64 (j':Int)/\j'+(gk-1)=m.ep.length/\SU U w' (L2++kE (m.ep.take j'))):=fun w' h=>⟨Y,rfl,by omega,by rw[aa];exact h⟩;clear aa;go_upto_region 18 with fail;refine zx (R:=fun W=>SU U W L/\W.heap[wr.heap.size]? =some (.cells (epL x).toArray 97 (0,0))/\wr.heap.size<W.heap.size) ⟨q.o.below ((Below.refl _ _).alloc (Nat.le_refl _) _),heap_alloc_new wr _,by rw[zg];omega⟩ ?_;obtain⟨bs,X⟩: ∃bs,bs=wr.heap.size:=⟨_,rfl⟩;rw[<-X];clear d0 d1 d2 d3 X q;rintro W2 ⟨N,K,O⟩;have A:=zc N;obtain⟨e0,e1,e2,e3,ef⟩:=zbJ K;clear N K;cases hd:(x.kind==3) with
       |true=>
        have M:=zc (I.o W2 (by rw[H.o,hd,if_pos rfl,<-HL.o];exact A.o));clear I H A HL;go_wp2;go_roundg (gk-1)
        case rel=>exact M.o
        case measure=>omega
       |false=>
        obtain⟨cc,v1,aw,Wc,Wd,ae,l1,me,l2,es,z,J⟩:=A.o.1.bump (2,x.name) ag.o;have av:cc<=60000:=by omega
        dsimp only at l1 me l2 es;rw[HS.o] at l1 me l2 es;have M:=zc (I.o Wd (by rw[H.o,hd,if_neg Bool.false_ne_true,<-List.append_assoc,<-HL.o];exact A.o.grown z J));clear I H A HL z J ae;go_wp2_with fail;go_region
        all_goals
         go_wp2;go_roundg (gk-1)
         case rel=>exact M.o
         case measure=>omega
      ·have ac: ¬(j:Int)<(m.ep.length:Int):=by omega
       have ad:m.ep.take j=m.ep:=List.take_of_length_le (by omega);rw[ad,aE.o,aD.o] at q;go_wp2;go_ret;refine⟨_,rfl,?_,ah.o.trans (q.o.2.mono (by rw[HS.o];omega)),by omega⟩;have:=q.o.1;rw[HS.o] at this;exact this
open Go.ChangeMaps (setBlock)
def twK (L:List (Int×BA)) (r:Int):Prop:=∃n,2<=cnt L (r,n)
def zvz (L:List (Int×BA)) (r:Int) (e:Ending):Prop:=∃b:Bool,e= .returned (.bool b)/\(b=true↔twK L r)
def RgW (W0 W:World) (b it:Nat) (es:Array MapEntry) (clock:Nat) (r:Int) (k:Nat):Prop:=
 ∃seen:Array Nat,W.heap[it]? =some (.mapIter (some b) clock seen clock)/\W.heap[b]? =some (.map es clock)/\(leftOf es seen).size=k/\Below W0.heap.size W0 W/\
  ∀y∈es.toList,seen.contains y.born=true->∀n c,y.key=mkK (r,n)->y.val= .int .i64 c->c<=1
theorem zv0 {q:Array MapEntry} {h:Array Nat} {y:MapEntry} (w:y∈(leftOf q h).toList):(leftOf q (h.push y.born)).size<(leftOf q h).size:=by
 have e:(leftOf q (h.push y.born)).toList=(leftOf q h).toList.filter (fun x=> !(x.born==y.born)):=by
  simp only[leftOf,Array.toList_filter,List.filter_filter,Array.contains_push];refine List.filter_congr fun x _=>?_;rw[Bool.not_or,Bool.and_comm]
 rw[<-Array.length_toList,<-Array.length_toList,e,List.length_filter_lt_length_iff_exists];exact⟨y,w,by simp⟩
theorem zv1 {l:List MapEntry} (h:(l.map (·.born)).Nodup) {x y:MapEntry} (A:x∈l) (z:y∈l) (e:x.born=y.born):x=y:=by
 obtain⟨i,w,rfl⟩:=List.mem_iff_getElem.1 A;obtain⟨j,q,rfl⟩:=List.mem_iff_getElem.1 z;have:i=j:=(List.getElem_inj (xs:=l.map (·.born)) (h₀:=by rw[List.length_map];exact w) (h₁:=by rw[List.length_map];exact q) h).1 (by rw[List.getElem_map,List.getElem_map];exact e);subst this;rfl
theorem zmA (b:Nat) (L:List (Int×BA)) (r:Int) (w:World) (h:CntW w b L):
  Calls prog 99 #[.map (some b),.int .i64 r] w fun e w'=>zvz L r e/\Below w.heap.size w w':=by
 obtain⟨K,q,M,hc,hR⟩:=h;have aB:=run_range_map (P:=prog) w 139 182 3 b K q underlying139 M;have HB:=zc M;have HC:=zc hc;have HR:=zc hR;clear M hc hR;go_enter func99,ntmps99;go_wp2;obtain⟨H,Z⟩: ∃H,H=w.heap.size:=⟨_,rfl⟩;have N:Hid (RgW w (w.alloc (.mapIter (some b) q #[] q)) b H K q r (leftOf K #[]).size):=⟨#[],by rw[Z];exact heap_alloc_new w _,(heap_alloc_old _ _ (aLt HB.o)).trans HB.o,rfl,(Below.refl _ _).alloc (Nat.le_refl _) _,fun y _ h=>by simp at h⟩;have aw:Hid (w.heap.size<=H):=Nat.le_of_eq Z.symm;rw[<-Z];clear Z;go_loopg [6] (leftOf K #[]).size (fun k u wr=>RgW w wr b H K q r k)
 case atStart=>exact N.o
 case round=>
  clear N;obtain⟨A,hi,M,hk,J,ae⟩:=hrel;have HI:=zc hi;have aC:=zc M;have HK:=zc hk;have av:=zc J;have al:=zc ae;rcases run_next_at (P:=prog) wr 0 H b q q A K q hi M HC.o.1.1 (Nat.le_refl _) with ⟨h0,I⟩|⟨y,hy,X,ag,I⟩
  ·have HV:Hid (¬twK L r):=fun⟨n,hn⟩=>by
    obtain⟨y,hy,e1,e2⟩:=zm2 HC.o (zvr.1 (Nat.lt_of_lt_of_le (by decide) hn));have V:A.contains y.born=true:=by
     cases V:A.contains y.born with
     |true=>rfl
     |false=>
      have:y∈(leftOf K A).toList:=by
       simp only[leftOf,Array.toList_filter,List.mem_filter];exact⟨hy,by rw[V];rfl⟩
      rw[Array.eq_empty_of_size_eq_zero h0] at this;cases this
    have:=al.o y hy V n _ e1 e2;have h2:(2:Int)<=(cnt L (r,n):Nat):=by omega
    unfold cnt at h2;omega
   clear hi M hk J ae h0;go_wp2;go_ret;exact⟨⟨false,rfl,⟨fun k=>(by cases k),fun k=>absurd k HV.o⟩⟩,av.o⟩
  ·have ab:y∈K.toList:=by
    simp only[leftOf,Array.toList_filter,List.mem_filter] at hy;exact hy.1
   obtain⟨jy,ap,ad⟩:=List.mem_iff_getElem.1 ab;obtain⟨z,hz,e1,e2⟩:=ziC HC.o (j:=jy) (y:=y) (by rw[List.getElem?_eq_getElem ap,ad]);have ac:=zc (zv0 hy);have hh:X.heap=wr.heap:=by rcases ag with rfl|rfl<;>rfl
   have aj:b≠H:=fun e=>by rw[e,hi] at M;cases M
   have af:X.heap[H]? =some (.mapIter (some b) q A q):=by rw[hh];exact hi
   have n1:=(MapKept.heap_set (o':=.mapIter (some b) q (A.push y.born) q) af).1;have n2:=(MapKept.heap_set (o':=.mapIter (some b) q (A.push y.born) q) af).2;have ak:Below w.heap.size w (setBlock X H (.mapIter (some b) q (A.push y.born) q)):=by
    have h1:Below w.heap.size w X:=by rcases ag with rfl|rfl;exact J;exact J.drew
    refine⟨h1.os,h1.tape,h1.output,by simpa [setBlock] using h1.size,fun k au=>?_⟩;have ar:k≠H:=by have:=aw.o;omega
    exact (n2 k ar).trans (h1.block k au)
   have aa:=run_entry_at (P:=prog) (setBlock X H (.mapIter (some b) q (A.push y.born) q)) H b q A K q y n1 ((n2 b aj).trans (by rw[hh];exact M)) ab HC.o.1.2.1;have NB:=zc ((n2 b aj).trans (show X.heap[b]? =some (.map K q) by rw[hh];exact M));have NI:(setBlock X H (.mapIter (some b) q (A.push y.born) q)).heap[H]? =some (.mapIter (some b) q (A.push y.born) q):=n1;have O:=zc ak;change (setBlock X H (.mapIter (some b) q (A.push y.born) q)).heap[b]? =_ at NB;generalize setBlock X H (.mapIter (some b) q (A.push y.born) q)=Wn at I aa NB NI O;rw[e1,e2] at I aa;have Y:Hid ((z.1=r->cnt L z<=1)->∀y'∈K.toList,(A.push y.born).contains y'.born=true->∀n c,y'.key=mkK (r,n)->y'.val= .int .i64 c->c<=1):=fun ay y' ao V n c k1 k2=>by
    rw[Array.contains_push,Bool.or_eq_true] at V;rcases V with V|V
    ·exact al.o y' ao V n c k1 k2
    ·have am:=zv1 HC.o.1.2.1 ao ab (eq_of_beq V);rw[am,e1] at k1;rw[am,e2] at k2;have:=zha _ _ k1;have h1:=ay (by rw[this]);simp only[Value.int.injEq,true_and] at k2;unfold cnt at h1;omega
   obtain⟨r0,n0⟩:=z;have aA:=zm7 L (r0,n0);obtain⟨c,ah⟩: ∃c:Nat,c=cnt L (r0,n0):=⟨_,rfl⟩;change (Instr.next (.pointer (some ⟨H,0,none⟩)) false 0).run prog wr= .ok (.tuple #[.bool true,.agg #[.int .i64 r0,.string n0],.int .i64 (cnt L (r0,n0):Nat)]) Wn at I;change (Instr.entry (.pointer (some ⟨H,0,none⟩))).run prog Wn= .ok (.tuple #[.agg #[.int .i64 r0,.string n0],.int .i64 (cnt L (r0,n0):Nat)]) Wn at aa;rw[<-ah] at I aa aA;have an:=zc ah;clear ah hi M hk J ae n1 n2 ak af hh ag ad ap e1 e2 hz ab hy;have U:Hid ((r0=r->c<=1)->RgW w (Wn.alloc (.cells #[.int .i64 r0,.string n0] 182)) b H K q r (leftOf K (A.push y.born)).size):=fun hq=>by
    have aq:=(aLt NB);have az:=(aLt NI);exact⟨_,(heap_alloc_old _ _ az).trans NI,(heap_alloc_old _ _ aq).trans NB,rfl,O.o.alloc O.o.size _,Y.o (by rw[<-an.o];exact hq)⟩
   cases q1:(r0==r) with
   |false=>
    have ai:=zc (U.o (fun e=>by rw[e] at q1;simp at q1));clear U Y;go_wp2;go_roundg ((leftOf K (A.push y.born)).size)
    case rel=>exact ai.o
    case measure=>have:=ac.o;have:=HK.o;omega
   |true=>
    by_cases q2:1<c
    ·have ax:(1:Int)<(c:Int):=by omega
     have HV:Hid (twK L r):=⟨n0,by rw[<-eq_of_beq q1,<-an.o];omega⟩;clear U Y;go_wp2;go_ret;exact⟨⟨true,rfl,⟨fun _=>HV.o,fun _=>rfl⟩⟩,O.o.alloc O.o.size _⟩
    ·have ax: ¬(1:Int)<(c:Int):=by omega
     have ai:=zc (U.o (fun _=>by omega));clear U Y;go_wp2;go_roundg ((leftOf K (A.push y.born)).size)
     case rel=>exact ai.o
     case measure=>have:=ac.o;have:=HK.o;omega
theorem zv2 (x:Ex) (w:World):Calls prog 141 #[.agg #[.int .i64 x.kind,.int .i64 x.num,.string x.name,.string x.field,.int .i64 x.l,.int .i64 x.r]] w fun e w'=>e= .returned (.bool (x.kind==4||x.kind==5))/\Below w.heap.size w w':=by
 have h:Hid (Below w.heap.size w (w.alloc (.cells #[.int .i64 x.kind,.int .i64 x.num,.string x.name,.string x.field,.int .i64 x.l,.int .i64 x.r] 100))):=(Below.refl _ _).alloc (Nat.le_refl _) _;cases z:(x.kind==4) with
 |true=>
  go_enter func141,ntmps141;go_wp2;go_ret;exact⟨rfl,h.o⟩
 |false=>
  cases q:(x.kind==5) with
  |true=>
   go_enter func141,ntmps141;go_wp2;go_ret;exact⟨rfl,h.o⟩
  |false=>
   go_enter func141,ntmps141;go_wp2;go_ret;exact⟨rfl,h.o⟩
def hB (L:List (Int×BA)) (r:Int) (n:BA):Bool:=decide (0<cnt L (r,n))
def unI (L:List (Int×BA)) (x:Ep):Bool:=(x.kind==1&& !(x.loc.toList==dN))&& !hB L 1 x.loc
def mxI (L:List (Int×BA)) (x:Ex):Bool:=(x.kind==4||x.kind==5)&& !hB L 3 x.name
def seI (L:List (Int×BA)) (x:Ep):Bool:=x.kind==1&&hB L 3 x.loc
def ssI (L:List (Int×BA)) (x:Sm):Bool:=x.kind==3&&hB L 3 x.name
def sxI (L:List (Int×BA)) (x:Ex):Bool:=(x.kind==2||x.kind==3)&&hB L 3 x.name
theorem ziF {α:Type} {f:α->Bool} {l:List α} {j:Nat} {x:α} (h:l[j]? =some x) (q:f x=true):l.any f=true:=List.any_eq_true.2 ⟨x,List.mem_of_getElem? h,q⟩
theorem zhc {α:Type} {f:α->Bool} {l:List α} {j:Nat} {x:α} (h:l[j]? =some x) (w:(l.take j).any f=false) (q:f x=false):(l.take (j+1)).any f=false:=by
 rw[zdc h,List.any_append,w,Bool.false_or,List.any_cons,q];rfl
def zxh (r:Int) (n:BA):Prop:=RoleOk (r,n)
theorem zff {r:Int} {n:BA} (h:1<=r) (w:r<=3) (q:n.size<=maxLen):RoleOk (r,n):=⟨h,w,q⟩
theorem zv3 {w w':World} {k:Nat} {o:Obj} (h:w.heap[k]? =some o) (q:Below w.heap.size w w'):w'.heap[k]? =some o:=(q.block k (aLt h)).trans h
theorem zv4 (b:Nat) (L:List (Int×BA)) (a:Option Addr) (ae:Nat) (l:List Ep) (w:World) (h:CntW w b L) (hr:RowAt w a epL 4 l) (hl:l.length<=10000) (hn: ∀x∈l,x.loc.size<=maxLen):
  Calls prog 100 #[.map (some b),.slice a l.length ae] w fun e w'=>e= .returned (.bool (l.any (unI L)))/\Below w.heap.size w w':=by
 have CW:=zc h;have HR:=zc hr;have HN:=zc hn;clear h hr hn;go_enter func100,ntmps100;go_wp2;go_loopg [9] l.length (fun k i wr=>∃j:Nat,i= .int .i64 j/\j+k=l.length/\(l.take j).any (unI L)=false/\Below w.heap.size w wr)
 case atStart=>exact⟨0,rfl,by omega,rfl,Below.refl _ _⟩
 case round=>
  obtain⟨j,rfl,hj,O,Z⟩:=hrel;have M:=zc O;have q:=zc Z;clear O Z;by_cases ac:j<l.length
  ·have ab:(j:Int)<(l.length:Int):=by omega
   obtain⟨x,hx⟩: ∃x,l[j]? =some x:=⟨_,List.getElem?_eq_getElem ac⟩;obtain⟨bb,ah,rfl,hc⟩:=(HR.o.later q.o).get hx;have HX:=zc hx;have NS:=zc (HN.o x (List.mem_of_getElem? HX.o));have d0:=hc 0 _ rfl;have d1:=hc 1 _ rfl;have d2:=hc 2 _ rfl;have d3:=hc 3 _ rfl;simp only[Nat.add_zero] at d0;clear hc hx;obtain⟨U,V⟩: ∃U,U=j+1:=⟨_,rfl⟩;have ej:(j:Int)+1=(U:Int):=by omega
   have z:Hid (∀w':World,unI L x=false->Below wr.heap.size wr w'->∃j':Nat,Value.int .i64 (U:Int)= .int .i64 (j':Int)/\j'+(gk-1)=l.length/\(l.take j').any (unI L)=false/\Below w.heap.size w w'):=fun w' h1 h2=>⟨U,rfl,by omega,by rw[V];exact zhc HX.o M.o h1,q.o.trans (h2.mono q.o.size)⟩;clear V;go_upto_region 4 with fail;refine zx (R:=fun W=>Below wr.heap.size wr W/\W.heap[wr.heap.size]? =some (.cells (epL x).toArray 97 (0,0))) ⟨(Below.refl _ _).alloc (Nat.le_refl _) _,heap_alloc_new wr _⟩ ?_;have aa:=zc (CW.o.kept ((q.o.block _ CW.o.lt)));obtain⟨bs,J⟩: ∃bs,bs=wr.heap.size:=⟨_,rfl⟩;rw[<-J];have af:=zc J;clear d0 d1 d2 d3 J;rintro W2 ⟨I,K⟩;rw[af.o] at I;have H:=zc I;have Y:=zc (aa.o.kept (I.block _ aa.o.lt));obtain⟨e0,e1,e2,e3,ef⟩:=zbJ K;have ag:=(aLt K);clear I K;cases k1:(x.kind==1) with
   |true=>
    cases kd:(x.loc.toList==dN) with
    |true=>
     have A:=zc (z.o W2 (by rw[unI,k1,kd];rfl) H.o);clear z;go_wp2;go_roundg (gk-1)
     case rel=>exact A.o
     case measure=>omega
    |false=>
     cases N:hB L 1 x.loc with
     |true=>
      have A:=zc (z.o W2 (by rw[unI,k1,kd,N];rfl) H.o);clear z;go_wp2_with (first|(go_at_call 139;refine (zfe b L 1 x.loc _ Y.o (zff (by decide) (by decide) NS.o)).mono ?_;rintro e w' ⟨rfl,X⟩;rw[X];clear X w';change hB L 1 x.loc=_ at N;rw[show decide (0<cnt L (1,x.loc))=hB L 1 x.loc from rfl,N]));go_roundg (gk-1)
      case rel=>exact A.o
      case measure=>omega
     |false=>
      have HV:Hid (l.any (unI L)=true):=ziF HX.o (by rw[unI,k1,kd,N];rfl);clear z;go_wp2_with (first|(go_at_call 139;refine (zfe b L 1 x.loc _ Y.o (zff (by decide) (by decide) NS.o)).mono ?_;rintro e w' ⟨rfl,X⟩;rw[X];clear X w';change hB L 1 x.loc=_ at N;rw[show decide (0<cnt L (1,x.loc))=hB L 1 x.loc from rfl,N]));go_ret;exact⟨zi HV.o.symm,q.o.trans (H.o.mono q.o.size)⟩
   |false=>
    have A:=zc (z.o W2 (by rw[unI,k1];rfl) H.o);clear z;go_wp2;go_roundg (gk-1)
    case rel=>exact A.o
    case measure=>omega
  ·have ab: ¬(j:Int)<(l.length:Int):=by omega
   have ad:l.take j=l:=List.take_of_length_le (by omega);rw[ad] at M;go_wp2;go_ret;exact⟨zi M.o.symm,q.o⟩
theorem zv5 (b:Nat) (L:List (Int×BA)) (a:Option Addr) (aj:Nat) (l:List Ex) (w:World) (h:CntW w b L) (hr:RowAt w a exL 6 l) (hl:l.length<=10000) (hn: ∀x∈l,x.name.size<=maxLen):
  Calls prog 102 #[.map (some b),.slice a l.length aj] w fun e w'=>e= .returned (.bool (l.any (mxI L)))/\Below w.heap.size w w':=by
 have CW:=zc h;have HR:=zc hr;have HN:=zc hn;clear h hr hn;go_enter func102,ntmps102;go_wp2;go_loopg [9] l.length (fun k i wr=>∃j:Nat,i= .int .i64 j/\j+k=l.length/\(l.take j).any (mxI L)=false/\Below w.heap.size w wr)
 case atStart=>exact⟨0,rfl,by omega,rfl,Below.refl _ _⟩
 case round=>
  obtain⟨j,rfl,hj,X,ae⟩:=hrel;have M:=zc X;have q:=zc ae;clear X ae;by_cases ah:j<l.length
  ·have ag:(j:Int)<(l.length:Int):=by omega
   obtain⟨x,hx⟩: ∃x,l[j]? =some x:=⟨_,List.getElem?_eq_getElem ah⟩;obtain⟨bb,am,rfl,U⟩:=(HR.o.later q.o).get hx;have HX:=zc hx;have NS:=zc (HN.o x (List.mem_of_getElem? HX.o));have d0:=U 0 _ rfl;have d1:=U 1 _ rfl;have d2:=U 2 _ rfl;have d3:=U 3 _ rfl;have d4:=U 4 _ rfl;have d5:=U 5 _ rfl;simp only[Nat.add_zero] at d0;clear U hx;obtain⟨Y,Z⟩: ∃Y,Y=j+1:=⟨_,rfl⟩;have ej:(j:Int)+1=(Y:Int):=by omega
   have z:Hid (∀w':World,mxI L x=false->Below wr.heap.size wr w'->∃j':Nat,Value.int .i64 (Y:Int)= .int .i64 (j':Int)/\j'+(gk-1)=l.length/\(l.take j').any (mxI L)=false/\Below w.heap.size w w'):=fun w' h1 h2=>⟨Y,rfl,by omega,by rw[Z];exact zhc HX.o M.o h1,q.o.trans (h2.mono q.o.size)⟩;clear Z;go_upto_region 4 with fail;refine zx (R:=fun W=>Below wr.heap.size wr W/\W.heap[wr.heap.size]? =some (.cells (exL x).toArray 100 (0,0))) ⟨(Below.refl _ _).alloc (Nat.le_refl _) _,heap_alloc_new wr _⟩ ?_;have af:=zc (CW.o.kept ((q.o.block _ CW.o.lt)));obtain⟨bs,J⟩: ∃bs,bs=wr.heap.size:=⟨_,rfl⟩;rw[<-J];have ak:=zc J;clear d0 d1 d2 d3 d4 d5 J;rintro W2 ⟨H,A⟩;rw[ak.o] at H;have ac:=zc H;have ab:=zc (af.o.kept (H.block _ af.o.lt));obtain⟨e0,e1,e2,e3,e4,e5,ef⟩:=zw A;have ad:=(aLt A);clear H;go_wp2_with fail;refine (zv2 x _).mono ?_;rintro e W3 ⟨rfl,I⟩;have K:=zv3 A I;have N:=zc (ac.o.trans (I.mono ac.o.size));have aa:=zc (ab.o.kept (I.block _ ab.o.lt));clear e0 e1 e2 e3 e4 e5 ef ad I;obtain⟨e0,e1,e2,e3,e4,e5,ef⟩:=zw K;have al:=(aLt K);clear A K;cases kb:(x.kind==4||x.kind==5) with
   |true=>
    cases V:hB L 3 x.name with
    |true=>
     have O:=zc (z.o W3 (by rw[mxI,kb,V];rfl) N.o);clear z;go_wp2_with (first|(go_at_call 139;refine (zfe b L 3 x.name _ aa.o (zff (by decide) (by decide) NS.o)).mono ?_;rintro e w' ⟨rfl,hw⟩;rw[hw];clear hw w';change hB L 3 x.name=_ at V;rw[show decide (0<cnt L (3,x.name))=hB L 3 x.name from rfl,V]));go_roundg (gk-1)
     case rel=>exact O.o
     case measure=>omega
    |false=>
     have HV:Hid (l.any (mxI L)=true):=ziF HX.o (by rw[mxI,kb,V];rfl);clear z;go_wp2_with (first|(go_at_call 139;refine (zfe b L 3 x.name _ aa.o (zff (by decide) (by decide) NS.o)).mono ?_;rintro e w' ⟨rfl,hw⟩;rw[hw];clear hw w';change hB L 3 x.name=_ at V;rw[show decide (0<cnt L (3,x.name))=hB L 3 x.name from rfl,V]));go_ret;exact⟨zi HV.o.symm,q.o.trans (N.o.mono q.o.size)⟩
   |false=>
    have O:=zc (z.o W3 (by rw[mxI,kb];rfl) N.o);clear z;go_wp2;go_roundg (gk-1)
    case rel=>exact O.o
    case measure=>omega
  ·have ag: ¬(j:Int)<(l.length:Int):=by omega
   have ai:l.take j=l:=List.take_of_length_le (by omega);rw[ai] at M;go_wp2;go_ret;exact⟨zi M.o.symm,q.o⟩
def zaY (l:List BA) (n:BA):Nat:=@List.count BA instBEqOfDecidableEq n l
theorem zfg {l:List BA} {n:BA}:0<zaY l n↔n∈l:=zm5 l n
theorem zfW (l1 h:List BA) (n:BA):zaY (l1++h) n=zaY l1 n+zaY h n:=zm6 l1 h n
theorem ziG (l:List BA) (x n:BA):zaY (l++[x]) n=zaY l n+if x=n then 1 else 0:=ziE l x n
theorem zdy (l1 h:List (Int×BA)) (p:Int×BA):cnt (l1++h) p=cnt l1 p+cnt h p:=zm6 l1 h p
theorem zv6 (l:List (Int×BA)) (x p:Int×BA):cnt (l++[x]) p=cnt l p+if x=p then 1 else 0:=ziE l x p
theorem zmB (p:Int×BA):cnt [] p=0:=rfl
theorem zmC (n:BA):zaY [] n=0:=rfl
theorem ze5 (l:List (Int×BA)) (x p:Int×BA):cnt (x::l) p=cnt l p+if x=p then 1 else 0:=by
 have:=zdy [x] l p;have h:=zv6 [] x p;rw[List.nil_append,zmB,Nat.zero_add] at h;rw[List.singleton_append,h] at this;omega
theorem zhd (l:List BA) (x n:BA):zaY (x::l) n=zaY l n+if x=n then 1 else 0:=by
 have:=zfW [x] l n;have h:=ziG [] x n;rw[List.nil_append,zmC,Nat.zero_add] at h;rw[List.singleton_append,h] at this;omega
theorem zv7 {l:List BA} {n:BA}: ∀k,k<=l.length->2<=zaY (l.take k) n->∃i,i<k/\inL (l.take i) (l.getD i sNone)=true:=by
 intro k
 induction k with
 |zero=>intro _ h;rw[List.take_zero,zmC] at h;omega
 |succ k A=>
  intro z h;have w:l[k]? =some l[k]:=List.getElem?_eq_getElem z;rw[zdc w,ziG] at h;by_cases H:2<=zaY (l.take k) n
  ·obtain⟨i,I,q⟩:=A (by omega) H;exact⟨i,by omega,q⟩
  ·split at h
   ·rename_i e
    refine⟨k,by omega,zg7.2 ?_⟩;rw[show l.getD k sNone=l[k] by simp[List.getD,w],e];exact zfg.1 (by omega)
   ·omega
theorem ziH {l:List BA}:twB l=true↔∃n,2<=zaY l n:=by
 constructor
 ·intro h;rw[twB,List.any_eq_true] at h;obtain⟨k,w,q⟩:=h;rw[List.mem_range] at w;have z:l[k]? =some l[k]:=List.getElem?_eq_getElem w;rw[show l.getD k sNone=l[k] by simp[List.getD,z]] at q;have I:=zfg.2 (zg7.1 q);refine⟨l[k],?_⟩;have e:l=l.take (k+1)++l.drop (k+1):=(List.take_append_drop _ _).symm;have:zaY l l[k]=zaY (l.take (k+1)) l[k]+zaY (l.drop (k+1)) l[k]:=by
   rw[<-zfW,<-e]
  rw[zdc z,ziG,if_pos rfl] at this;omega
 ·rintro⟨n,H⟩;obtain⟨i,A,q⟩:=zv7 (n:=n) l.length (Nat.le_refl _) (by rw[List.take_length];exact H);exact zkp A q
def zdW (l:List Im):List BA:=(l.filter fun x=>x.first.toList==[42]).map (·.loc)
theorem ziI (l:List Im) (n:BA):cnt (kI l) (1,n)=zaY (imN l) n/\cnt (kI l) (2,n)=0/\cnt (kI l) (3,n)=zaY (zdW l) n:=by
 induction l with
 |nil=>exact⟨rfl,rfl,rfl⟩
 |cons x l h=>
  have e:kI (x::l)=((1,x.loc)::if x.first.toList==[42] then [(3,x.loc)] else [])++kI l:=rfl;have w:imN (x::l)=x.loc::imN l:=rfl;rw[e,w,zdy,zdy,zdy,h.1,h.2.1,h.2.2,zhd];have q:zdW (x::l)=if x.first.toList==[42] then x.loc::zdW l else zdW l:=by
   rw[zdW,List.filter_cons]
   split<;>rfl
  rw[q];generalize (x.first.toList==[42])=b;cases b<;>simp[ze5,zmB,zhd]<;>omega
theorem ziJ (l:List Sm) (n:BA):cnt (kS l) (1,n)=zaY ((l.filter zcn).map (·.name)) n/\cnt (kS l) (2,n)=0/\cnt (kS l) (3,n)=0:=by
 rw[kS]
 induction l.filter zcn with
 |nil=>exact⟨rfl,rfl,rfl⟩
 |cons x l h=>
  rw[List.map_cons,List.map_cons,ze5,ze5,ze5,h.1,h.2.1,h.2.2,zhd];simp
theorem ziK (l:List Ep) (n:BA):cnt (kE l) (1,n)=0/\cnt (kE l) (2,n)=zaY (epN l) n/\cnt (kE l) (3,n)=0:=by
 rw[kE,epN]
 induction l.filter (fun x=> !(x.kind==3)) with
 |nil=>exact⟨rfl,rfl,rfl⟩
 |cons x l h=>
  rw[List.map_cons,List.map_cons,ze5,ze5,ze5,h.1,h.2.1,h.2.2,zhd];simp
theorem zv8 {q:List Sm} (h:zcI q):q.filter zcn=q.filter zbP:=by
 refine List.filter_congr fun s H=>?_;have z:=h s H;rw[zcn,zbP];cases w:(s.name.toList==dN) with
 |true=>
  have A:=z (by simpa using w);rw[A];rfl
 |false=>simp[Bool.or_comm]
theorem ziL {m:Md} (h:zcI m.st) (n:BA):cnt (zbn m) (1,n)=zaY (zbL m) n:=by
 rw[zbn,zdy,zdy,(ziI _ _).1,(ziJ _ _).1,(ziK _ _).1,zv8 h,zbL,zfW,stN];omega
theorem zmD (m:Md) (n:BA):cnt (zbn m) (2,n)=zaY (epN m.ep) n:=by
 rw[zbn,zdy,zdy,(ziI _ _).2.1,(ziJ _ _).2.1,(ziK _ _).2.1];omega
theorem zv9 (m:Md) (n:BA):cnt (zbn m) (3,n)=zaY (zdW m.im) n:=by
 rw[zbn,zdy,zdy,(ziI _ _).2.2,(ziJ _ _).2.2,(ziK _ _).2.2];omega
theorem tw1 {m:Md} (h:zcI m.st):twK (zbn m) 1↔twB (zbL m)=true:=by
 rw[ziH];exact⟨fun⟨n,q⟩=>⟨n,by rw[<-ziL h];exact q⟩,fun⟨n,q⟩=>⟨n,by rw[ziL h];exact q⟩⟩
theorem tw2 (m:Md):twK (zbn m) 2↔twB (epN m.ep)=true:=by
 rw[ziH];exact⟨fun⟨n,h⟩=>⟨n,by rw[<-zmD];exact h⟩,fun⟨n,h⟩=>⟨n,by rw[zmD];exact h⟩⟩
theorem zvA {m:Md} (h:zcI m.st) (n:BA):hB (zbn m) 1 n=inL (zbL m) n:=by
 rw[hB,ziL h,Bool.eq_iff_iff,decide_eq_true_eq,zfg,zg7]
theorem zhe {m:Md} (L:twB (zbL m)=false) (n:BA):hB (zbn m) 3 n=spB m.im n:=by
 have z: ∀(i j:Nat) (x y:Im),m.im[i]? =some x->m.im[j]? =some y->i<j->x.loc=n->y.loc≠n:=by
  intro i j x y I J U q O;have:twB (zbL m)=true:=by
   rw[ziH];refine⟨n,?_⟩;rw[zbL,zfW];have e:imN m.im=imN (m.im.take j)++imN (m.im.drop j):=by rw[imN,imN,imN,<-List.map_append,List.take_append_drop]
   rw[e,zfW];have Y:0<zaY (imN (m.im.take j)) n:=zfg.2 (List.mem_map.2 ⟨x,List.mem_of_getElem? (i:=i) (by rw[List.getElem?_take,if_pos U];exact I),q⟩);have X:0<zaY (imN (m.im.drop j)) n:=zfg.2 (List.mem_map.2 ⟨y,List.mem_of_getElem? (i:=0) (by rw[List.getElem?_drop];exact J),O⟩);omega
  rw[L] at this;cases this
 rw[hB,zv9,Bool.eq_iff_iff,decide_eq_true_eq,zfg];have H:n∈zdW m.im↔∃x∈m.im,(x.first.toList==[42])=true/\x.loc=n:=by
  rw[zdW,List.mem_map];constructor
  ·rintro⟨x,q,e⟩;rw[List.mem_filter] at q;exact⟨x,q.1,q.2,e⟩
  ·rintro⟨x,q,N,K⟩;exact⟨x,List.mem_filter.2 ⟨q,N⟩,K⟩
 rw[H,spB];cases M:m.im.find? (fun x=>x.loc.toList==n.toList) with
 |none=>
  rw[List.find?_eq_none] at M;constructor
  ·rintro⟨x,q,_,e⟩;exact absurd ((zdY _ _).2 e) (M x q)
  ·intro h;cases h
 |some y=>
  obtain⟨O,i,I,w,V⟩:=List.find?_eq_some_iff_getElem.1 M;have A:=(zdY _ _).1 O;constructor
  ·rintro⟨x,q,N,K⟩;obtain⟨j,J,rfl⟩:=List.mem_iff_getElem.1 q;rcases Nat.lt_trichotomy i j with h|h|h
   ·exact absurd K (z i j y _ (by rw[List.getElem?_eq_getElem I,w]) (List.getElem?_eq_getElem J) h A)
   ·subst h;rw[<-w];exact N
   ·exact absurd A (z j i _ y (List.getElem?_eq_getElem J) (by rw[List.getElem?_eq_getElem I,w]) h K)
  ·intro h;exact⟨y,by rw[<-w];exact List.getElem_mem I,h,A⟩
theorem zvB {m:Md} (h:zcI m.st):m.ep.any (unI (zbn m))=unB (zbL m) m.ep:=by
 rw[unB];congr 1;funext x;rw[unI,zvA h,Bool.and_assoc]
theorem zvC {m:Md} (h:twB (zbL m)=false):(m.ep.any (seI (zbn m))||(m.st.any (ssI (zbn m))||m.ex.any (sxI (zbn m))))=(seB m.im m.ep||sxB m.im m.ex||ssB m.im m.st):=by
 have z:seI (zbn m)=fun x=>x.kind==1&&spB m.im x.loc:=by funext x;rw[seI,zhe h]
 have w:ssI (zbn m)=fun x=>x.kind==3&&spB m.im x.name:=by funext x;rw[ssI,zhe h]
 have q:sxI (zbn m)=fun x=>(x.kind==2||x.kind==3)&&spB m.im x.name:=by funext x;rw[sxI,zhe h]
 rw[z,w,q,seB,sxB,ssB,Bool.or_assoc];congr 1;exact Bool.or_comm _ _
theorem zvD {m:Md} (h:twB (zbL m)=false):m.ex.any (mxI (zbn m))=mxB m.im m.ex:=by
 have e:mxI (zbn m)=fun x=>(x.kind==4||x.kind==5)&& !spB m.im x.name:=by funext x;rw[mxI,zhe h]
 rw[e,mxB]
end Go.Proofs.YtgcbmogmniahjaaGreat
