/- Facts. -/
import Derived.BigRegion
import Derived.Test.YtegdaafmaookjaaGreatP62
namespace Go.Proofs.YtegdaafmaookjaaGreat
open Nat (le_refl add_zero)
open List (append_nil length_append length_map length_take)
open Go.Proofs.Tryz
set_option maxRecDepth 100000
set_option maxHeartbeats 6400000
open Go.RowKit Go.PlainAid Go.Sort
def zc0 (s:Sm):Bool:=s.kind==2||(s.kind==1&& !(s.name.toList==dN))
def kI (l:List Im):List (Int×BA0):=l.flatMap fun x=>(1,x.loc)::if x.first.toList==[42] then [(3,x.loc)] else []
def kS (l:List Sm):List (Int×BA0):=(l.filter zc0).map fun x=>(1,x.name)
def kE (l:List Ep):List (Int×BA0):=(l.filter fun x=> !(x.kind==3)).map fun x=>(2,x.name)
def zby (m:Md):List (Int×BA0):=kI m.im++kS m.st++kE m.ep
variable {g:Nat} {w:World} {W:MapEntry}
theorem zxw {l:List Im} {x:Im} (h:l[g]? =some x):kI (l.take (g+1))=if x.first.toList==[42] then kI (l.take g)++[(1,x.loc)]++[(3,x.loc)] else kI (l.take g)++[(1,x.loc)]:=by
 have e:kI [x]=(1,x.loc)::if x.first.toList==[42] then [(3,x.loc)] else []:=by rw[kI,List.flatMap_cons,List.flatMap_nil,append_nil]
 have q:kI (l.take g++[x])=kI (l.take g)++kI [x]:=by rw[kI,List.flatMap_append];rfl
 rw[zd0 h,q,e];generalize (x.first.toList==[42])=b;cases b<;>simp
theorem zxx {l:List Sm} {x:Sm} (h:l[g]? =some x):kS (l.take (g+1))=if zc0 x then kS (l.take g)++[(1,x.name)] else kS (l.take g):=by
 rw[zd0 h,kS,kS,List.filter_append];cases q:zc0 x<;>simp[q]
theorem zxy {l:List Ep} {x:Ep} (h:l[g]? =some x):kE (l.take (g+1))=if x.kind==3 then kE (l.take g) else kE (l.take g)++[(2,x.name)]:=by
 rw[zd0 h,kE,kE,List.filter_append];cases q:(x.kind==3)<;>simp[q]
theorem znK (l:List Im):(kI l).length<=2*l.length:=by
 induction l with
 |nil=>simp[kI]
 |cons x l h=>
  have:kI (x::l)=((1,x.loc)::if x.first.toList==[42] then [(3,x.loc)] else [])++kI l:=rfl;rw[this,length_append,List.length_cons,List.length_cons]
  split<;>simp<;>omega
theorem znL (l:List Sm):(kS l).length<=l.length:=by
 rw[kS,length_map];exact List.length_filter_le _ _
theorem zxz (l:List Ep):(kE l).length<=l.length:=by
 rw[kE,length_map];exact List.length_filter_le _ _
theorem zx0 (x:Sm) (w:World):
  Calls prog 179 #[.agg #[.int .i64 x.kind,.string x.name,.int .i64 x.expr]] w fun e w'=>e= .returned (.bool (zc0 x))/\Below w.heap.size w w':=by
 have A:Hid (Below w.heap.size w (w.alloc (.cells #[.int .i64 x.kind,.string x.name,.int .i64 x.expr] 108))):=(Below.refl _ _).alloc (le_refl _) _;cases q:(x.kind==2) with
 |true=>
  have h:Hid (zc0 x=true):=by show _=_;rw[zc0,q];rfl
  go_enter func179,ntmps179;go_wp2;go_ret;exact⟨zk h.o.symm,A.o⟩
 |false=>
  cases H:(x.kind==1) with
  |false=>
   have h:Hid (zc0 x=false):=by show _=_;rw[zc0,q,H];rfl
   go_enter func179,ntmps179;go_wp2;go_ret;exact⟨zk h.o.symm,A.o⟩
  |true=>
   have h:Hid (zc0 x= !(x.name.toList==dN)):=by show _=_;rw[zc0,q,H];simp
   go_enter func179,ntmps179;go_wp2;go_ret;exact⟨zk h.o.symm,A.o⟩
def zx1 (w:World) (L:List (Int×BA0)) (e:Ending) (w':World):Prop:=∃b,e= .returned (.map (some b))/\CntW w' b L/\Below w.heap.size w w'/\w.heap.size<=b
def SU (W0 W:World) (L:List (Int×BA0)):Prop:=CntW W W0.heap.size L/\Below W0.heap.size W0 W
theorem SU.below {W C:World} {L:List (Int×BA0)} (h:SU w W L) (A:Below W.heap.size W C):SU w C L:=⟨h.1.kept (A.block _ h.1.lt),h.2.trans (A.mono h.2.size)⟩
theorem SU.grown {W C:World} {L A:List (Int×BA0)} (h:SU w W L) (J:CntW C w.heap.size A) (I:W.grownBy C (some w.heap.size)):SU w C A:=⟨J,h.2.grown I h.2.size fun k H=>by cases H;exact le_refl _⟩
theorem SU.start (h:World):SU h (h.alloc (.map #[] 0)) []:=⟨⟨#[],0,hN0 h _,zxr mkK,fun p q=>by cases q⟩,(Below.refl _ _).alloc (le_refl _) _⟩
def zhR (m:Md):Prop:=(∀x∈m.im,x.loc.size<=maxLen)/\(∀x∈m.st,x.name.size<=maxLen)/\(∀x∈m.ep,x.name.size<=maxLen/\x.loc.size<=maxLen)/\∀x∈m.ex,x.name.size<=maxLen
theorem zx2 (V:Sv) (m:Md) (w:World) (hI:RowAt w V.im.a imL 3 m.im) (hE:RowAt w V.ep.a epL 4 m.ep) (hS:RowAt w V.st.a smL 3 m.st) (lI:m.im.length<=10000) (lE:m.ep.length<=10000) (lS:m.st.length<=10000) (hN:zhR m):
  Calls prog 146 #[zo V m] w (zx1 w (zby m)):=by
 obtain⟨a1,aq⟩: ∃a,V.im.a=a:=⟨_,rfl⟩;obtain⟨a2,aB⟩: ∃a,V.ep.a=a:=⟨_,rfl⟩;obtain⟨a3,ar⟩: ∃a,V.st.a=a:=⟨_,rfl⟩;unfold zo;rw[aq] at hI ⊢;rw[aB] at hE ⊢;rw[ar] at hS ⊢;have ah:Hid (Below w.heap.size w (w.alloc (.cells #[.slice V.rq.a m.rq.length V.rq.cap,.slice a1 m.im.length V.im.cap,.slice a2 m.ep.length V.ep.cap,.slice a3 m.st.length V.st.cap,.slice V.ex.a m.ex.length V.ex.cap] 59))):=(Below.refl _ _).alloc (le_refl _) _;have al:=zc (hN0 w (.cells #[.slice V.rq.a m.rq.length V.rq.cap,.slice a1 m.im.length V.im.cap,.slice a2 m.ep.length V.ep.cap,.slice a3 m.st.length V.st.cap,.slice V.ex.a m.ex.length V.ex.cap] 59));have HS:=zc (zh w (.cells #[.slice V.rq.a m.rq.length V.rq.cap,.slice a1 m.im.length V.im.cap,.slice a2 m.ep.length V.ep.cap,.slice a3 m.st.length V.st.cap,.slice V.ex.a m.ex.length V.ex.cap] 59));have RI:=zc (hI.later ah.o);have RE:=zc (hE.later ah.o);have RS:=zc (hS.later ah.o);have ST:=zc (SU.start (w.alloc (.cells #[.slice V.rq.a m.rq.length V.rq.cap,.slice a1 m.im.length V.im.cap,.slice a2 m.ep.length V.ep.cap,.slice a3 m.st.length V.st.cap,.slice V.ex.a m.ex.length V.ex.cap] 59)));have ak:=zc hN;clear hI hE hS aq aB ar hN;have aF:=@run_makeMap prog;go_enter func146,ntmps146;go_upto_region 2 with fail;obtain⟨X,ax⟩: ∃X,X=w.alloc (.cells #[.slice V.rq.a m.rq.length V.rq.cap,.slice a1 m.im.length V.im.cap,.slice a2 m.ep.length V.ep.cap,.slice a3 m.st.length V.st.cap,.slice V.ex.a m.ex.length V.ex.cap] 59):=⟨_,rfl⟩;rw[<-ax] at al ah HS RI RE RS ST ⊢;refine zp (R:=fun W=>SU X W []) ST.o ?_;clear ax ST aF;intro W1 ay;have ao:=zc ay;clear ay;obtain⟨c0,c1,c2,c3,c4,cf⟩:=zl ((ao.o.2.block w.heap.size (by rw[HS.o];omega)).trans al.o);go_wp2;go_loopg [14] m.im.length (fun k i wr=>∃j:Nat,i= .int .i64 j/\j+k=m.im.length/\SU X wr (kI (m.im.take j)))
 case atStart=>exact⟨0,rfl,by omega,ao.o⟩
 case round=>
  clear c0 c1 c2 c3 c4 cf;obtain⟨j,rfl,hj,ab⟩:=hrel;have q:=zc ab;clear ab;by_cases af:j<m.im.length
  ·have ac:(j:Int)<(m.im.length:Int):=by omega
   obtain⟨x,hx⟩: ∃x,m.im[j]? =some x:=⟨_,gE af⟩;obtain⟨b,au,rfl,hc⟩:=(RI.o.later q.o.2).get hx;have I:=zc (zxw hx);have ag:Hid (RoleOk (1,x.loc)):=⟨by show (1:Int)<=1;omega,by show (1:Int)<=3;omega,ak.o.1 x (mG hx)⟩;have aC:Hid (RoleOk (3,x.loc)):=⟨by show (1:Int)<=3;omega,by show (3:Int)<=3;omega,ak.o.1 x (mG hx)⟩;have d0:=hc 0 _ rfl;have d1:=hc 1 _ rfl;have d2:=hc 2 _ rfl;simp only[add_zero] at d0;clear hc hx;obtain⟨L,hL⟩: ∃L,L=kI (m.im.take j):=⟨_,rfl⟩;have aA:L.length<=20000:=by rw[hL];have:=znK (m.im.take j);rw[length_take] at this;omega
   rw[<-hL] at q I;clear hL;obtain⟨Z,aa⟩: ∃Z,Z=j+1:=⟨_,rfl⟩;have ej:(j:Int)+1=(Z:Int):=by omega
   have J:Hid (∀(w':World),SU X w' (kI (m.im.take (j+1)))->∃j':Nat,Value.int .i64 (Z:Int)= .int .i64 (j':Int)/\j'+(gk-1)=m.im.length/\SU X w' (kI (m.im.take j'))):=fun w' h=>⟨Z,rfl,by omega,by rw[aa];exact h⟩;clear aa;go_upto_region 5 with fail;refine zp (R:=fun W=>SU X W L/\W.heap[wr.heap.size]? =some (.cells (imL x).toArray 101 (0,0))/\wr.heap.size<W.heap.size) ⟨q.o.below ((Below.refl _ _).alloc (le_refl _) _),hN0 wr _,by rw[zh];omega⟩ ?_;obtain⟨bs,Y⟩: ∃bs,bs=wr.heap.size:=⟨_,rfl⟩;rw[<-Y];have NE:Hid (some bs≠some X.heap.size):=fun e=>by have:=q.o.1.lt;simp only[sI0] at e;omega
   clear d0 d1 d2 Y q;rintro W2 ⟨O,M,U⟩;have ai:=zc O;have aj:=zc M;obtain⟨e0,e1,e2,ef⟩:=zg M;obtain⟨c,v0,st,Wa,Wb,hc,l1,me,l2,es,A,K⟩:=O.1.bump (1,x.loc) ag.o;have aI:c<=20000:=by omega
   dsimp only at l1 me l2 es;have H:=zc (O.grown A K);have X3:Hid (Wb.heap[bs]? =some (.cells (imL x).toArray 101 (0,0))):=(K.block bs U NE.o).trans M;have az:bs<Wb.heap.size:=Nat.lt_of_lt_of_le U K.size;clear O M A K hc;rw[HS.o] at l1 me l2 es;go_wp2_with fail;go_region
   all_goals
    clear e0 e1 e2 ef l1 me l2 es;obtain⟨e0,e1,e2,ef⟩:=zg X3.o;cases kf:(x.first.toList==[42]) with
    |false=>
     have N:=zc (J.o Wb (by rw[I.o,kf,if_neg Bool.false_ne_true];exact H.o));clear J I H ai X3 aj;go_wp2;go_roundg (gk-1)
     case rel=>exact N.o
     case measure=>omega
    |true=>
     obtain⟨cc,v1,aw,Wc,Wd,ae,l1,me,l2,es,A,K⟩:=H.o.1.bump (3,x.loc) aC.o;rw[length_append] at ae;have av:cc<=20001:=by simp only[List.length_singleton] at ae;omega
     dsimp only at l1 me l2 es;rw[HS.o] at l1 me l2 es;have N:=zc (J.o Wd (by rw[I.o,kf,if_pos rfl];exact H.o.grown A K));clear J I H ai X3 aj A K ae;go_wp2_with fail;go_region
     all_goals
      go_wp2;go_roundg (gk-1)
      case rel=>exact N.o
      case measure=>omega
  ·have ac: ¬(j:Int)<(m.im.length:Int):=by omega
   have ad:m.im.take j=m.im:=List.take_of_length_le (by omega);rw[ad] at q;obtain⟨c0,c1,c2,c3,c4,cf⟩:=zl ((q.o.2.block w.heap.size (by rw[HS.o];omega)).trans al.o);obtain⟨L1,am⟩: ∃L,L=kI m.im:=⟨_,rfl⟩;have aD:=zc am;have aG:L1.length<=20000:=by rw[am];have:=znK m.im;omega
   rw[<-am] at q;clear am ad ao;go_wp2;go_loopg [41] m.st.length (fun k i wr=>∃j:Nat,i= .int .i64 j/\j+k=m.st.length/\SU X wr (L1++kS (m.st.take j)))
   case atStart=>exact⟨0,rfl,by omega,by rw[List.take_zero];show SU X _ (L1++[]);rw[append_nil];exact q.o⟩
   case round=>
    clear c0 c1 c2 c3 c4 cf q;obtain⟨j,rfl,hj,ab⟩:=hrel;have q:=zc ab;clear ab;by_cases af:j<m.st.length
    ·have ac:(j:Int)<(m.st.length:Int):=by omega
     obtain⟨x,hx⟩: ∃x,m.st[j]? =some x:=⟨_,gE af⟩;obtain⟨b,au,rfl,hc⟩:=(RS.o.later q.o.2).get hx;have I:=zc (zxx hx);have ag:Hid (RoleOk (1,x.name)):=⟨by show (1:Int)<=1;omega,by show (1:Int)<=3;omega,ak.o.2.1 x (mG hx)⟩;have d0:=hc 0 _ rfl;have d1:=hc 1 _ rfl;have d2:=hc 2 _ rfl;simp only[add_zero] at d0;clear hc hx;obtain⟨L,hL⟩: ∃L,L=L1++kS (m.st.take j):=⟨_,rfl⟩;have HL:=zc hL;have aA:L.length<=40000:=by rw[hL,length_append];have:=znL (m.st.take j);rw[length_take] at this;omega
     rw[<-hL] at q;clear hL;obtain⟨Z,aa⟩: ∃Z,Z=j+1:=⟨_,rfl⟩;have ej:(j:Int)+1=(Z:Int):=by omega
     have J:Hid (∀(w':World),SU X w' (L1++kS (m.st.take (j+1)))->∃j':Nat,Value.int .i64 (Z:Int)= .int .i64 (j':Int)/\j'+(gk-1)=m.st.length/\SU X w' (L1++kS (m.st.take j'))):=fun w' h=>⟨Z,rfl,by omega,by rw[aa];exact h⟩;clear aa;go_upto_region 12 with fail;refine zp (R:=fun W=>SU X W L/\W.heap[wr.heap.size]? =some (.cells (smL x).toArray 108 (0,0))/\wr.heap.size<W.heap.size) ⟨q.o.below ((Below.refl _ _).alloc (le_refl _) _),hN0 wr _,by rw[zh];omega⟩ ?_;obtain⟨bs,Y⟩: ∃bs,bs=wr.heap.size:=⟨_,rfl⟩;rw[<-Y];clear d0 d1 d2 Y q;rintro W2 ⟨O,M,U⟩;have ai:=zc O;have aj:=zc M;obtain⟨e0,e1,e2,ef⟩:=zg M;clear O M;go_wp2_with fail;refine (zx0 x _).mono ?_;rintro e W3 ⟨rfl,ap⟩;have H:=zc (ai.o.below ap);have X3:=zc ((ap.block bs U).trans aj.o);clear e0 e1 e2 ef ap ai aj U;obtain⟨e0,e1,e2,ef⟩:=zg X3.o;have az:=(aLt X3.o);cases hd:zc0 x with
     |false=>
      have N:=zc (J.o W3 (by rw[I.o,hd,if_neg Bool.false_ne_true,<-HL.o];exact H.o));clear J I H X3 HL;go_wp2;go_roundg (gk-1)
      case rel=>exact N.o
      case measure=>omega
     |true=>
      obtain⟨cc,v1,aw,Wc,Wd,ae,l1,me,l2,es,A,K⟩:=H.o.1.bump (1,x.name) ag.o;have av:cc<=40000:=by omega
      dsimp only at l1 me l2 es;rw[HS.o] at l1 me l2 es;have N:=zc (J.o Wd (by rw[I.o,hd,if_pos rfl,<-List.append_assoc,<-HL.o];exact H.o.grown A K));clear J I H X3 HL A K ae;go_wp2_with fail;go_region
      all_goals
       go_wp2;go_roundg (gk-1)
       case rel=>exact N.o
       case measure=>omega
    ·have ac: ¬(j:Int)<(m.st.length:Int):=by omega
     have ad:m.st.take j=m.st:=List.take_of_length_le (by omega);rw[ad] at q;obtain⟨c0,c1,c2,c3,c4,cf⟩:=zl ((q.o.2.block w.heap.size (by rw[HS.o];omega)).trans al.o);obtain⟨L2,an⟩: ∃L,L=L1++kS m.st:=⟨_,rfl⟩;have aE:=zc an;have aH:L2.length<=40000:=by rw[an,length_append];have:=znL m.st;omega
     rw[<-an] at q;clear an ad;go_wp2;go_loopg [59] m.ep.length (fun k i wr=>∃j:Nat,i= .int .i64 j/\j+k=m.ep.length/\SU X wr (L2++kE (m.ep.take j)))
     case atStart=>exact⟨0,rfl,by omega,by rw[List.take_zero];show SU X _ (L2++[]);rw[append_nil];exact q.o⟩
     case round=>
      clear c0 c1 c2 c3 c4 cf q;obtain⟨j,rfl,hj,ab⟩:=hrel;have q:=zc ab;clear ab;by_cases af:j<m.ep.length
      ·have ac:(j:Int)<(m.ep.length:Int):=by omega
       obtain⟨x,hx⟩: ∃x,m.ep[j]? =some x:=⟨_,gE af⟩;obtain⟨b,au,rfl,hc⟩:=(RE.o.later q.o.2).get hx;have I:=zc (zxy hx);have ag:Hid (RoleOk (2,x.name)):=⟨by show (1:Int)<=2;omega,by show (2:Int)<=3;omega,(ak.o.2.2.1 x (mG hx)).1⟩;have d0:=hc 0 _ rfl;have d1:=hc 1 _ rfl;have d2:=hc 2 _ rfl;have d3:=hc 3 _ rfl;simp only[add_zero] at d0;clear hc hx;obtain⟨L,hL⟩: ∃L,L=L2++kE (m.ep.take j):=⟨_,rfl⟩;have HL:=zc hL;have aA:L.length<=60000:=by rw[hL,length_append];have:=zxz (m.ep.take j);rw[length_take] at this;omega
       rw[<-hL] at q;clear hL;obtain⟨Z,aa⟩: ∃Z,Z=j+1:=⟨_,rfl⟩;have ej:(j:Int)+1=(Z:Int):=by omega
       have J:Hid (∀(w':World),SU X w' (L2++kE (m.ep.take (j+1)))->∃j':Nat,Value.int .i64 (Z:Int)= .int .i64 (j':Int)/\j'+(gk-1)=m.ep.length/\SU X w' (L2++kE (m.ep.take j'))):=fun w' h=>⟨Z,rfl,by omega,by rw[aa];exact h⟩;clear aa;go_upto_region 18 with fail;refine zp (R:=fun W=>SU X W L/\W.heap[wr.heap.size]? =some (.cells (epL x).toArray 103 (0,0))/\wr.heap.size<W.heap.size) ⟨q.o.below ((Below.refl _ _).alloc (le_refl _) _),hN0 wr _,by rw[zh];omega⟩ ?_;obtain⟨bs,Y⟩: ∃bs,bs=wr.heap.size:=⟨_,rfl⟩;rw[<-Y];clear d0 d1 d2 d3 Y q;rintro W2 ⟨O,M,U⟩;have H:=zc O;obtain⟨e0,e1,e2,e3,ef⟩:=zbW M;clear O M;cases hd:(x.kind==3) with
       |true=>
        have N:=zc (J.o W2 (by rw[I.o,hd,if_pos rfl,<-HL.o];exact H.o));clear J I H HL;go_wp2;go_roundg (gk-1)
        case rel=>exact N.o
        case measure=>omega
       |false=>
        obtain⟨cc,v1,aw,Wc,Wd,ae,l1,me,l2,es,A,K⟩:=H.o.1.bump (2,x.name) ag.o;have av:cc<=60000:=by omega
        dsimp only at l1 me l2 es;rw[HS.o] at l1 me l2 es;have N:=zc (J.o Wd (by rw[I.o,hd,if_neg Bool.false_ne_true,<-List.append_assoc,<-HL.o];exact H.o.grown A K));clear J I H HL A K ae;go_wp2_with fail;go_region
        all_goals
         go_wp2;go_roundg (gk-1)
         case rel=>exact N.o
         case measure=>omega
      ·have ac: ¬(j:Int)<(m.ep.length:Int):=by omega
       have ad:m.ep.take j=m.ep:=List.take_of_length_le (by omega);rw[ad,aE.o,aD.o] at q;go_wp2;go_ret;refine⟨_,rfl,?_,ah.o.trans (q.o.2.mono (by rw[HS.o];omega)),by omega⟩;have:=q.o.1;rw[HS.o] at this;exact this
open Go.ChangeMaps (setBlock)
def twK (L:List (Int×BA0)) (r:Int):Prop:=∃n,2<=cnt L (r,n)
def zx3 (L:List (Int×BA0)) (r:Int) (e:Ending):Prop:=∃b:Bool,e= .returned (.bool b)/\(b=true↔twK L r)
def RgW (W0 W:World) (b it:Nat) (es:Array MapEntry) (clock:Nat) (r:Int) (k:Nat):Prop:=
 ∃seen:Array Nat,W.heap[it]? =some (.mapIter (some b) clock seen clock)/\W.heap[b]? =some (.map es clock)/\(leftOf es seen).size=k/\Below W0.heap.size W0 W/\
  ∀y∈es.toList,seen.contains y.born=true->∀n c,y.key=mkK (r,n)->y.val= .int .i64 c->c<=1
theorem zx4 {q:Array MapEntry} {h:Array Nat} (w:W∈(leftOf q h).toList):(leftOf q (h.push W.born)).size<(leftOf q h).size:=by
 have e:(leftOf q (h.push W.born)).toList=(leftOf q h).toList.filter (fun x=> !(x.born==W.born)):=by
  simp only[leftOf,Array.toList_filter,List.filter_filter,Array.contains_push];refine List.filter_congr fun x _=>?_;rw[Bool.not_or,Bool.and_comm]
 rw[<-Array.length_toList,<-Array.length_toList,e,List.length_filter_lt_length_iff_exists];exact⟨W,w,by simp⟩
theorem zx5 {l:List MapEntry} (h:(l.map (·.born)).Nodup) {y:MapEntry} (H:W∈l) (A:y∈l) (e:W.born=y.born):W=y:=by
 obtain⟨i,w,rfl⟩:=List.mem_iff_getElem.1 H;obtain⟨j,q,rfl⟩:=List.mem_iff_getElem.1 A;have:i=j:=(List.getElem_inj (xs:=l.map (·.born)) (h₀:=by rw[length_map];exact w) (h₁:=by rw[length_map];exact q) h).1 (by rw[List.getElem_map,List.getElem_map];exact e);subst this;rfl
theorem znM (b:Nat) (L:List (Int×BA0)) (r:Int) (w:World) (h:CntW w b L):
  Calls prog 147 #[.map (some b),.int .i64 r] w fun e w'=>zx3 L r e/\Below w.heap.size w w':=by
 obtain⟨K,q,M,hc,hR⟩:=h;have aB:=run_range_map (P:=prog) w 183 206 3 b K q underlying183 M;have HB:=zc M;have HC:=zc hc;have HR:=zc hR;clear M hc hR;go_enter func147,ntmps147;go_wp2;obtain⟨H,Z⟩: ∃H,H=w.heap.size:=⟨_,rfl⟩;have N:Hid (RgW w (w.alloc (.mapIter (some b) q #[] q)) b H K q r (leftOf K #[]).size):=⟨#[],by rw[Z];exact hN0 w _,(heap_alloc_old _ _ (aLt HB.o)).trans HB.o,rfl,(Below.refl _ _).alloc (le_refl _) _,fun y _ h=>by simp at h⟩;have aw:Hid (w.heap.size<=H):=Nat.le_of_eq Z.symm;rw[<-Z];clear Z;go_loopg [6] (leftOf K #[]).size (fun k u wr=>RgW w wr b H K q r k)
 case atStart=>exact N.o
 case round=>
  clear N;obtain⟨A,hi,M,hk,J,ae⟩:=hrel;have HI:=zc hi;have aC:=zc M;have HK:=zc hk;have av:=zc J;have al:=zc ae;rcases run_next_at (P:=prog) wr 0 H b q q A K q hi M HC.o.1.1 (le_refl _) with ⟨h0,I⟩|⟨y,hy,X,ag,I⟩
  ·have HV:Hid (¬twK L r):=fun⟨n,hn⟩=>by
    obtain⟨y,hy,e1,e2⟩:=znE HC.o (zxv.1 (Nat.lt_of_lt_of_le (by decide) hn));have V:A.contains y.born=true:=by
     cases V:A.contains y.born with
     |true=>rfl
     |false=>
      have:y∈(leftOf K A).toList:=by
       simp only[leftOf,Array.toList_filter,List.mem_filter];exact⟨hy,by rw[V];rfl⟩
      rw[Array.eq_empty_of_size_eq_zero h0] at this;cases this
    have:=al.o y hy V n _ e1 e2;have h2:(2:Int)<=(cnt L (r,n):Nat):=by omega
    unfold cnt at h2;omega
   clear hi M hk J ae h0;go_wp2;go_ret;exact⟨⟨false,rfl,⟨fun k=>(by cases k),fun k=>absurd k HV.o⟩⟩,av.o⟩
  ·have ab:y∈K.toList:=by
    simp only[leftOf,Array.toList_filter,List.mem_filter] at hy;exact hy.1
   obtain⟨jy,ap,ad⟩:=List.mem_iff_getElem.1 ab;obtain⟨z,hz,e1,e2⟩:=zj9 HC.o (j:=jy) (y:=y) (by rw[gE ap,ad]);have ac:=zc (zx4 hy);have hh:X.heap=wr.heap:=by rcases ag with rfl|rfl<;>rfl
   have aj:b≠H:=fun e=>by rw[e,hi] at M;cases M
   have af:X.heap[H]? =some (.mapIter (some b) q A q):=by rw[hh];exact hi
   have n1:=(MapKept.heap_set (o':=.mapIter (some b) q (A.push y.born) q) af).1;have n2:=(MapKept.heap_set (o':=.mapIter (some b) q (A.push y.born) q) af).2;have ak:Below w.heap.size w (setBlock X H (.mapIter (some b) q (A.push y.born) q)):=by
    have h1:Below w.heap.size w X:=by rcases ag with rfl|rfl;exact J;exact J.drew
    refine⟨h1.os,h1.tape,h1.output,by simpa [setBlock] using h1.size,fun k au=>?_⟩;have ar:k≠H:=by have:=aw.o;omega
    exact (n2 k ar).trans (h1.block k au)
   have aa:=run_entry_at (P:=prog) (setBlock X H (.mapIter (some b) q (A.push y.born) q)) H b q A K q y n1 ((n2 b aj).trans (by rw[hh];exact M)) ab HC.o.1.2.1;have NB:=zc ((n2 b aj).trans (show X.heap[b]? =some (.map K q) by rw[hh];exact M));have NI:(setBlock X H (.mapIter (some b) q (A.push y.born) q)).heap[H]? =some (.mapIter (some b) q (A.push y.born) q):=n1;have O:=zc ak;change (setBlock X H (.mapIter (some b) q (A.push y.born) q)).heap[b]? =_ at NB;generalize setBlock X H (.mapIter (some b) q (A.push y.born) q)=Wn at I aa NB NI O;rw[e1,e2] at I aa;have Y:Hid ((z.1=r->cnt L z<=1)->∀y'∈K.toList,(A.push y.born).contains y'.born=true->∀n c,y'.key=mkK (r,n)->y'.val= .int .i64 c->c<=1):=fun ay y' ao V n c k1 k2=>by
    rw[Array.contains_push,Bool.or_eq_true] at V;rcases V with V|V
    ·exact al.o y' ao V n c k1 k2
    ·have am:=zx5 HC.o.1.2.1 ao ab (eq_of_beq V);rw[am,e1] at k1;rw[am,e2] at k2;have:=zhQ _ _ k1;have h1:=ay (by rw[this]);simp only[Value.int.injEq,true_and] at k2;unfold cnt at h1;omega
   obtain⟨r0,n0⟩:=z;have aA:=znJ L (r0,n0);obtain⟨c,ah⟩: ∃c:Nat,c=cnt L (r0,n0):=⟨_,rfl⟩;change (Instr.next (.pointer (some ⟨H,0,none⟩)) false 0).run prog wr= .ok (.tuple #[.bool true,.agg #[.int .i64 r0,.string n0],.int .i64 (cnt L (r0,n0):Nat)]) Wn at I;change (Instr.entry (.pointer (some ⟨H,0,none⟩))).run prog Wn= .ok (.tuple #[.agg #[.int .i64 r0,.string n0],.int .i64 (cnt L (r0,n0):Nat)]) Wn at aa;rw[<-ah] at I aa aA;have an:=zc ah;clear ah hi M hk J ae n1 n2 ak af hh ag ad ap e1 e2 hz ab hy;have U:Hid ((r0=r->c<=1)->RgW w (Wn.alloc (.cells #[.int .i64 r0,.string n0] 206)) b H K q r (leftOf K (A.push y.born)).size):=fun hq=>by
    have aq:=(aLt NB);have az:=(aLt NI);exact⟨_,(heap_alloc_old _ _ az).trans NI,(heap_alloc_old _ _ aq).trans NB,rfl,O.o.alloc O.o.size _,Y.o (by rw[<-an.o];exact hq)⟩
   cases q1:(r0==r) with
   |false=>
    have ai:=zc (U.o (fun e=>by rw[e] at q1;simp at q1));clear U Y;go_wp2;go_roundg ((leftOf K (A.push y.born)).size)
    case rel=>exact ai.o
    case measure=>have:=ac.o;have:=HK.o;omega
   |true=>
    by_cases q2:1<c
    ·have ax:(1:Int)<(c:Int):=by omega
     have HV:Hid (twK L r):=⟨n0,by rw[<-eq_of_beq q1,<-an.o];omega⟩;clear U Y;go_wp2;go_ret;exact⟨⟨true,rfl,⟨fun _=>HV.o,fun _=>rfl⟩⟩,O.o.alloc O.o.size _⟩
    ·have ax: ¬(1:Int)<(c:Int):=by omega
     have ai:=zc (U.o (fun _=>by omega));clear U Y;go_wp2;go_roundg ((leftOf K (A.push y.born)).size)
     case rel=>exact ai.o
     case measure=>have:=ac.o;have:=HK.o;omega
set_option maxHeartbeats 3200000
def hB (L:List (Int×BA0)) (r:Int) (n:BA0):Bool:=decide (0<cnt L (r,n))
def unI (L:List (Int×BA0)) (x:Ep):Bool:=(x.kind==1&& !(x.loc.toList==dN))&& !hB L 1 x.loc
def mxI (L:List (Int×BA0)) (x:Ex):Bool:=(x.kind==4||x.kind==5)&& !hB L 3 x.name
def seI (L:List (Int×BA0)) (x:Ep):Bool:=x.kind==1&&hB L 3 x.loc
def ssI (L:List (Int×BA0)) (x:Sm):Bool:=x.kind==3&&hB L 3 x.name
def sxI (L:List (Int×BA0)) (x:Ex):Bool:=(x.kind==2||x.kind==3)&&hB L 3 x.name
variable (w:List BA0) (W:Md) (C:List BA0) (s t:BA0) {g:Nat} {A:BA0} {S:List BA0} {q:Md}
theorem zjC {α:Type} {f:α->Bool} {l:List α} {x:α} (h:l[g]? =some x) (q:f x=true):l.any f=true:=List.any_eq_true.2 ⟨x,mG h,q⟩
theorem zhS {α:Type} {f:α->Bool} {l:List α} {x:α} (h:l[g]? =some x) (w:(l.take g).any f=false) (q:f x=false):(l.take (g+1)).any f=false:=by
 rw[zd0 h,List.any_append,w,Bool.false_or,List.any_cons,q];rfl
def z0b (r:Int) (n:BA0):Prop:=RoleOk (r,n)
theorem zfH {r:Int} (h:1<=r) (w:r<=3) (q:A.size<=maxLen):RoleOk (r,A):=⟨h,w,q⟩
theorem zx7 {w w':World} {o:Obj} (h:w.heap[g]? =some o) (q:Bw w w'):w'.heap[g]? =some o:=(q.block g (aLt h)).trans h
theorem zx8 (b:Nat) (L:List (Int×BA0)) (a:Option Addr) (af:Nat) (l:List Ep) (w:World) (h:CntW w b L) (hr:RowAt w a epL 4 l) (hl:l.length<=10000) (hn: ∀x∈l,x.loc.size<=maxLen):
  Calls prog 148 #[.map (some b),.slice a l.length af] w fun e w'=>e= .returned (.bool (l.any (unI L)))/\Bw w w':=by
 have CW:=zc h;have HR:=zc hr;have HN:=zc hn;clear h hr hn;go_enter func148,ntmps148;go_wp2;go_loopg [9] l.length (fun k i wr=>∃j:Nat,i= .int .i64 j/\j+k=l.length/\(l.take j).any (unI L)=false/\Bw w wr)
 case atStart=>exact⟨0,rfl,by omega,rfl,Below.refl _ _⟩
 case round=>
  obtain⟨j,rfl,hj,U,aa⟩:=hrel;have N:=zc U;have q:=zc aa;clear U aa;by_cases ad:j<l.length
  ·have ac:(j:Int)<(l.length:Int):=by omega
   obtain⟨x,hx⟩: ∃x,l[j]? =some x:=⟨_,gE ad⟩;obtain⟨bb,ai,rfl,hc⟩:=(HR.o.later q.o).get hx;have HX:=zc hx;have NS:=zc (HN.o x (mG HX.o));have d0:=hc 0 _ rfl;have d1:=hc 1 _ rfl;have d2:=hc 2 _ rfl;have d3:=hc 3 _ rfl;simp only[Nat.add_zero] at d0;clear hc hx;obtain⟨V,X⟩: ∃V,V=j+1:=⟨_,rfl⟩;have ej:(j:Int)+1=(V:Int):=by omega
   have A:Hid (∀w':World,unI L x=false->Bw wr w'->∃j':Nat,Value.int .i64 (V:Int)= .int .i64 (j':Int)/\j'+(gk-1)=l.length/\(l.take j').any (unI L)=false/\Bw w w'):=fun w' h1 h2=>⟨V,rfl,by omega,by rw[X];exact zhS HX.o N.o h1,q.o.trans (h2.mono q.o.size)⟩;clear X;go_upto_region 4 with fail;refine zp (R:=fun W=>Below wr.heap.size wr W/\W.heap[wr.heap.size]? =some (.cells (epL x).toArray 103 (0,0))) ⟨bA0,hN0 wr _⟩ ?_;have ab:=zc (CW.o.kept ((q.o.block _ CW.o.lt)));obtain⟨bs,K⟩: ∃bs,bs=wr.heap.size:=⟨_,rfl⟩;rw[<-K];have ag:=zc K;clear d0 d1 d2 d3 K;rintro W2 ⟨J,M⟩;rw[ag.o] at J;have I:=zc J;have Z:=zc (ab.o.kept (J.block _ ab.o.lt));obtain⟨e0,e1,e2,e3,ef⟩:=zbW M;have ah:=(aLt M);clear J M;cases k1:(x.kind==1) with
   |true=>
    cases kd:(x.loc.toList==dN) with
    |true=>
     have H:=zc (A.o W2 (by rw[unI,k1,kd];rfl) I.o);clear A;go_wp2;go_roundg (gk-1)
     case rel=>exact H.o
     case measure=>omega
    |false=>
     cases O:hB L 1 x.loc with
     |true=>
      have H:=zc (A.o W2 (by rw[unI,k1,kd,O];rfl) I.o);clear A;go_wp2_with (first|(go_at_call 180;refine (zfG b L 1 x.loc _ Z.o (zfH (by decide) (by decide) NS.o)).mono ?_;rintro e w' ⟨rfl,Y⟩;rw[Y];clear Y w';change hB L 1 x.loc=_ at O;rw[show decide (0<cnt L (1,x.loc))=hB L 1 x.loc from rfl,O]));go_roundg (gk-1)
      case rel=>exact H.o
      case measure=>omega
     |false=>
      have HV:Hid (l.any (unI L)=true):=zjC HX.o (by rw[unI,k1,kd,O];rfl);clear A;go_wp2_with (first|(go_at_call 180;refine (zfG b L 1 x.loc _ Z.o (zfH (by decide) (by decide) NS.o)).mono ?_;rintro e w' ⟨rfl,Y⟩;rw[Y];clear Y w';change hB L 1 x.loc=_ at O;rw[show decide (0<cnt L (1,x.loc))=hB L 1 x.loc from rfl,O]));go_ret;exact⟨zk HV.o.symm,q.o.trans (I.o.mono q.o.size)⟩
   |false=>
    have H:=zc (A.o W2 (by rw[unI,k1];rfl) I.o);clear A;go_wp2;go_roundg (gk-1)
    case rel=>exact H.o
    case measure=>omega
  ·have ac: ¬(j:Int)<(l.length:Int):=by omega
   have ae:l.take j=l:=List.take_of_length_le (by omega);rw[ae] at N;go_wp2;go_ret;exact⟨zk N.o.symm,q.o⟩
theorem zx9 (b:Nat) (L:List (Int×BA0)) (a:Option Addr) (ak:Nat) (l:List Ex) (w:World) (h:CntW w b L) (hr:RowAt w a exL 6 l) (hl:l.length<=10000) (hn: ∀x∈l,x.name.size<=maxLen):
  Calls prog 150 #[.map (some b),.slice a l.length ak] w fun e w'=>e= .returned (.bool (l.any (mxI L)))/\Bw w w':=by
 have CW:=zc h;have HR:=zc hr;have HN:=zc hn;clear h hr hn;go_enter func150,ntmps150;go_wp2;go_loopg [9] l.length (fun k i wr=>∃j:Nat,i= .int .i64 j/\j+k=l.length/\(l.take j).any (mxI L)=false/\Bw w wr)
 case atStart=>exact⟨0,rfl,by omega,rfl,Below.refl _ _⟩
 case round=>
  obtain⟨j,rfl,hj,Y,af⟩:=hrel;have N:=zc Y;have q:=zc af;clear Y af;by_cases ai:j<l.length
  ·have ah:(j:Int)<(l.length:Int):=by omega
   obtain⟨x,hx⟩: ∃x,l[j]? =some x:=⟨_,gE ai⟩;obtain⟨bb,an,rfl,V⟩:=(HR.o.later q.o).get hx;have HX:=zc hx;have NS:=zc (HN.o x (mG HX.o));have d0:=V 0 _ rfl;have d1:=V 1 _ rfl;have d2:=V 2 _ rfl;have d3:=V 3 _ rfl;have d4:=V 4 _ rfl;have d5:=V 5 _ rfl;simp only[Nat.add_zero] at d0;clear V hx;obtain⟨Z,aa⟩: ∃Z,Z=j+1:=⟨_,rfl⟩;have ej:(j:Int)+1=(Z:Int):=by omega
   have A:Hid (∀w':World,mxI L x=false->Bw wr w'->∃j':Nat,Value.int .i64 (Z:Int)= .int .i64 (j':Int)/\j'+(gk-1)=l.length/\(l.take j').any (mxI L)=false/\Bw w w'):=fun w' h1 h2=>⟨Z,rfl,by omega,by rw[aa];exact zhS HX.o N.o h1,q.o.trans (h2.mono q.o.size)⟩;clear aa;go_upto_region 4 with fail;refine zp (R:=fun W=>Below wr.heap.size wr W/\W.heap[wr.heap.size]? =some (.cells (exL x).toArray 106 (0,0))) ⟨bA0,hN0 wr _⟩ ?_;have ag:=zc (CW.o.kept ((q.o.block _ CW.o.lt)));obtain⟨bs,K⟩: ∃bs,bs=wr.heap.size:=⟨_,rfl⟩;rw[<-K];have al:=zc K;clear d0 d1 d2 d3 d4 d5 K;rintro W2 ⟨I,H⟩;rw[al.o] at I;have ad:=zc I;have ac:=zc (ag.o.kept (I.block _ ag.o.lt));obtain⟨e0,e1,e2,e3,e4,e5,ef⟩:=zD H;have ae:=(aLt H);clear I;go_wp2_with fail;refine (zx6 x _).mono ?_;rintro e W3 ⟨rfl,J⟩;have M:=zx7 H J;have O:=zc (ad.o.trans (J.mono ad.o.size));have ab:=zc (ac.o.kept (J.block _ ac.o.lt));clear e0 e1 e2 e3 e4 e5 ef ae J;obtain⟨e0,e1,e2,e3,e4,e5,ef⟩:=zD M;have am:=(aLt M);clear H M;cases kb:(x.kind==4||x.kind==5) with
   |true=>
    cases X:hB L 3 x.name with
    |true=>
     have U:=zc (A.o W3 (by rw[mxI,kb,X];rfl) O.o);clear A;go_wp2_with (first|(go_at_call 180;refine (zfG b L 3 x.name _ ab.o (zfH (by decide) (by decide) NS.o)).mono ?_;rintro e w' ⟨rfl,hw⟩;rw[hw];clear hw w';change hB L 3 x.name=_ at X;rw[show decide (0<cnt L (3,x.name))=hB L 3 x.name from rfl,X]));go_roundg (gk-1)
     case rel=>exact U.o
     case measure=>omega
    |false=>
     have HV:Hid (l.any (mxI L)=true):=zjC HX.o (by rw[mxI,kb,X];rfl);clear A;go_wp2_with (first|(go_at_call 180;refine (zfG b L 3 x.name _ ab.o (zfH (by decide) (by decide) NS.o)).mono ?_;rintro e w' ⟨rfl,hw⟩;rw[hw];clear hw w';change hB L 3 x.name=_ at X;rw[show decide (0<cnt L (3,x.name))=hB L 3 x.name from rfl,X]));go_ret;exact⟨zk HV.o.symm,q.o.trans (O.o.mono q.o.size)⟩
   |false=>
    have U:=zc (A.o W3 (by rw[mxI,kb];rfl) O.o);clear A;go_wp2;go_roundg (gk-1)
    case rel=>exact U.o
    case measure=>omega
  ·have ah: ¬(j:Int)<(l.length:Int):=by omega
   have aj:l.take j=l:=List.take_of_length_le (by omega);rw[aj] at N;go_wp2;go_ret;exact⟨zk N.o.symm,q.o⟩
def zbi (l:List BA0) (n:BA0):Nat:=@List.count BA0 instBEqOfDecidableEq n l
theorem zfI:0<zbi S A↔A∈S:=znH S A
theorem zgB:zbi (w++C) s=zbi w s+zbi C s:=znI w C s
theorem zjD:zbi (w++[s]) t=zbi w t+if s=t then 1 else 0:=zjB w s t
theorem zdM (l1 h:List (Int×BA0)) (p:Int×BA0):cnt (l1++h) p=cnt l1 p+cnt h p:=znI l1 h p
theorem zxA (l:List (Int×BA0)) (x p:Int×BA0):cnt (l++[x]) p=cnt l p+if x=p then 1 else 0:=zjB l x p
theorem znN (p:Int×BA0):cnt [] p=0:=rfl
theorem znO:zbi [] s=0:=rfl
theorem zfd (l:List (Int×BA0)) (x p:Int×BA0):cnt (x::l) p=cnt l p+if x=p then 1 else 0:=by
 have:=zdM [x] l p;have h:=zxA [] x p;rw[List.nil_append,znN,Nat.zero_add] at h;rw[List.singleton_append,h] at this;omega
theorem zhT:zbi (s::w) t=zbi w t+if s=t then 1 else 0:=by
 have:=zgB [s] w t;have h:=zjD [] s t;rw[List.nil_append,znO,Nat.zero_add] at h;rw[List.singleton_append,h] at this;omega
theorem zxB {n:BA0}: ∀k,k<=S.length->2<=zbi (S.take k) n->∃i,i<k/\inL (S.take i) (S.getD i sNone)=true:=by
 intro k
 induction k with
 |zero=>intro _ h;rw[List.take_zero,znO] at h;omega
 |succ k H=>
  intro A h;have w:S[k]? =some S[k]:=gE A;rw[zd0 w,zjD] at h;by_cases I:2<=zbi (S.take k) n
  ·obtain⟨i,J,q⟩:=H (by omega) I;exact⟨i,by omega,q⟩
  ·split at h
   ·rename_i e
    refine⟨k,by omega,zhu.2 ?_⟩;rw[show S.getD k sNone=S[k] by simp[List.getD,w],e];exact zfI.1 (by omega)
   ·omega
theorem zjE:twB S=true↔∃n,2<=zbi S n:=by
 constructor
 ·intro h;rw[twB,List.any_eq_true] at h;obtain⟨k,w,q⟩:=h;rw[List.mem_range] at w;have A:S[k]? =some S[k]:=gE w;rw[show S.getD k sNone=S[k] by simp[List.getD,A]] at q;have J:=zfI.2 (zhu.1 q);refine⟨S[k],?_⟩;have e:S=S.take (k+1)++S.drop (k+1):=(List.take_append_drop _ _).symm;have:zbi S S[k]=zbi (S.take (k+1)) S[k]+zbi (S.drop (k+1)) S[k]:=by
   rw[<-zgB,<-e]
  rw[zd0 A,zjD,if_pos rfl] at this;omega
 ·rintro⟨n,I⟩;obtain⟨i,H,q⟩:=zxB (n:=n) S.length (Nat.le_refl _) (by rw[List.take_length];exact I);exact zl1 H q
def ze2 (l:List Im):List BA0:=(l.filter fun x=>x.first.toList==[42]).map (·.loc)
theorem zjF (l:List Im) (n:BA0):cnt (kI l) (1,n)=zbi (imN l) n/\cnt (kI l) (2,n)=0/\cnt (kI l) (3,n)=zbi (ze2 l) n:=by
 induction l with
 |nil=>exact⟨rfl,rfl,rfl⟩
 |cons x l h=>
  have e:kI (x::l)=((1,x.loc)::if x.first.toList==[42] then [(3,x.loc)] else [])++kI l:=rfl;have w:imN (x::l)=x.loc::imN l:=rfl;rw[e,w,zdM,zdM,zdM,h.1,h.2.1,h.2.2,zhT];have q:ze2 (x::l)=if x.first.toList==[42] then x.loc::ze2 l else ze2 l:=by
   rw[ze2,List.filter_cons]
   split<;>rfl
  rw[q];generalize (x.first.toList==[42])=b;cases b<;>simp[zfd,znN,zhT]<;>omega
theorem zjG (l:List Sm) (n:BA0):cnt (kS l) (1,n)=zbi ((l.filter zc0).map (·.name)) n/\cnt (kS l) (2,n)=0/\cnt (kS l) (3,n)=0:=by
 rw[kS]
 induction l.filter zc0 with
 |nil=>exact⟨rfl,rfl,rfl⟩
 |cons x l h=>
  rw[List.map_cons,List.map_cons,zfd,zfd,zfd,h.1,h.2.1,h.2.2,zhT];simp
theorem zjH (l:List Ep) (n:BA0):cnt (kE l) (1,n)=0/\cnt (kE l) (2,n)=zbi (epN l) n/\cnt (kE l) (3,n)=0:=by
 rw[kE,epN]
 induction l.filter (fun x=> !(x.kind==3)) with
 |nil=>exact⟨rfl,rfl,rfl⟩
 |cons x l h=>
  rw[List.map_cons,List.map_cons,zfd,zfd,zfd,h.1,h.2.1,h.2.2,zhT];simp
theorem zxC {q:List Sm} (h:zcZ q):q.filter zc0=q.filter zcd:=by
 refine List.filter_congr fun s I=>?_;have A:=h s I;rw[zc0,zcd];cases w:(s.name.toList==dN) with
 |true=>
  have H:=A (by simpa using w);rw[H];rfl
 |false=>simp[Bool.or_comm]
theorem zjI (h:zcZ q.st) (n:BA0):cnt (zby q) (1,n)=zbi (zbY q) n:=by
 rw[zby,zdM,zdM,(zjF _ _).1,(zjG _ _).1,(zjH _ _).1,zxC h,zbY,zgB,stN];omega
theorem znP:cnt (zby W) (2,s)=zbi (epN W.ep) s:=by
 rw[zby,zdM,zdM,(zjF _ _).2.1,(zjG _ _).2.1,(zjH _ _).2.1];omega
theorem zxD:cnt (zby W) (3,s)=zbi (ze2 W.im) s:=by
 rw[zby,zdM,zdM,(zjF _ _).2.2,(zjG _ _).2.2,(zjH _ _).2.2];omega
theorem tw1 (h:zcZ q.st):twK (zby q) 1↔twB (zbY q)=true:=by
 rw[zjE];exact⟨fun⟨n,z⟩=>⟨n,by rw[<-zjI h];exact z⟩,fun⟨n,z⟩=>⟨n,by rw[zjI h];exact z⟩⟩
theorem tw2:twK (zby W) 2↔twB (epN W.ep)=true:=by
 rw[zjE];exact⟨fun⟨n,h⟩=>⟨n,by rw[<-znP];exact h⟩,fun⟨n,h⟩=>⟨n,by rw[znP];exact h⟩⟩
theorem zxE (h:zcZ q.st) (n:BA0):hB (zby q) 1 n=inL (zbY q) n:=by
 rw[hB,zjI h,Bool.eq_iff_iff,decide_eq_true_eq,zfI,zhu]
theorem zhU (M:twB (zbY q)=false) (n:BA0):hB (zby q) 3 n=spB q.im n:=by
 have A: ∀(i j:Nat) (x y:Im),q.im[i]? =some x->q.im[j]? =some y->i<j->x.loc=n->y.loc≠n:=by
  intro i j x y J K V z U;have:twB (zbY q)=true:=by
   rw[zjE];refine⟨n,?_⟩;rw[zbY,zgB];have e:imN q.im=imN (q.im.take j)++imN (q.im.drop j):=by rw[imN,imN,imN,<-List.map_append,List.take_append_drop]
   rw[e,zgB];have Z:0<zbi (imN (q.im.take j)) n:=zfI.2 (List.mem_map.2 ⟨x,mG (i:=i) (by rw[List.getElem?_take,if_pos V];exact J),z⟩);have Y:0<zbi (imN (q.im.drop j)) n:=zfI.2 (List.mem_map.2 ⟨y,mG (i:=0) (by rw[List.getElem?_drop];exact K),U⟩);omega
  rw[M] at this;cases this
 rw[hB,zxD,Bool.eq_iff_iff,decide_eq_true_eq,zfI];have I:n∈ze2 q.im↔∃x∈q.im,(x.first.toList==[42])=true/\x.loc=n:=by
  rw[ze2,List.mem_map];constructor
  ·rintro⟨x,z,e⟩;rw[List.mem_filter] at z;exact⟨x,z.1,z.2,e⟩
  ·rintro⟨x,z,O,L⟩;exact⟨x,List.mem_filter.2 ⟨z,O⟩,L⟩
 rw[I,spB];cases N:q.im.find? (fun x=>x.loc.toList==n.toList) with
 |none=>
  rw[List.find?_eq_none] at N;constructor
  ·rintro⟨x,z,_,e⟩;exact absurd ((ze6 _ _).2 e) (N x z)
  ·intro h;cases h
 |some y=>
  obtain⟨U,i,J,w,X⟩:=List.find?_eq_some_iff_getElem.1 N;have H:=(ze6 _ _).1 U;constructor
  ·rintro⟨x,z,O,L⟩;obtain⟨j,K,rfl⟩:=List.mem_iff_getElem.1 z;rcases Nat.lt_trichotomy i j with h|h|h
   ·exact absurd L (A i j y _ (by rw[gE J,w]) (gE K) h H)
   ·subst h;rw[<-w];exact O
   ·exact absurd H (A j i _ y (gE K) (by rw[gE J,w]) h L)
  ·intro h;exact⟨y,by rw[<-w];exact List.getElem_mem J,h,H⟩
theorem zxF (h:zcZ q.st):q.ep.any (unI (zby q))=unB (zbY q) q.ep:=by
 rw[unB];congr 1;funext x;rw[unI,zxE h,Bool.and_assoc]
theorem zxG (h:twB (zbY q)=false):(q.ep.any (seI (zby q))||(q.st.any (ssI (zby q))||q.ex.any (sxI (zby q))))=(seB q.im q.ep||sxB q.im q.ex||ssB q.im q.st):=by
 have A:seI (zby q)=fun x=>x.kind==1&&spB q.im x.loc:=by funext x;rw[seI,zhU h]
 have w:ssI (zby q)=fun x=>x.kind==3&&spB q.im x.name:=by funext x;rw[ssI,zhU h]
 have z:sxI (zby q)=fun x=>(x.kind==2||x.kind==3)&&spB q.im x.name:=by funext x;rw[sxI,zhU h]
 rw[A,w,z,seB,sxB,ssB,Bool.or_assoc];congr 1;exact Bool.or_comm _ _
theorem zxH (h:twB (zbY q)=false):q.ex.any (mxI (zby q))=mxB q.im q.ex:=by
 have e:mxI (zby q)=fun x=>(x.kind==4||x.kind==5)&& !spB q.im x.name:=by funext x;rw[mxI,zhU h]
 rw[e,mxB]
