/- Facts and walks. -/
import Derived.Test.YtgcbmogmniahjaaGreatR22
namespace Go.Proofs.YtgcbmogmniahjaaGreat
open List (length_append getElem?_eq_getElem length_map length_take take_of_length_le)
open Go.Proofs.Tryz
set_option maxRecDepth 100000
set_option maxHeartbeats 25600000
open Go.RowKit Go.PlainAid Go.Sort
theorem Tryz.infoES:(prog.info? 9).map (fun i=>(i.zero,i.size,i.bytes))=some (some (.string {data:=#[]}),1,16):=by kernel_rfl
def PB (W1 W:World) (r:Rw) (l:List BA):Prop:=Bw W1 W/\OwnR W W1.heap.size 9 1 r l.length (l.map .string)
variable {w:World} {W:Rw} {C:List BA} {g:Nat} {S:Sv} {q:Md}
theorem PB.below {s q:World} (h:PB w s W C) (z:Bw s q):PB w q W C:=
 ⟨h.1.trans (z.mono h.1.size),h.2.keep fun k A=>z.block k (h.2.typed A).2.1⟩
theorem PB.nil (W:World):PB W (W.alloc (.cells #[] 9 (0,0))) ⟨some ⟨W.heap.size,0,none⟩,0⟩ []:=
 ⟨bA0,World.ownsRow_lit W #[] 0 (Nat.le_refl _) (by unfold maxLen;omega) rfl⟩
theorem PB.app {s q:World} {z:Rw} {x:BA} (h:PB w s W C) (D:OwnR q w.heap.size 9 1 z (C.length+1) (C.map .string++[.string x])) (E:s.grownBy q W.blk):PB w q z (C++[x]):=by
 refine⟨h.1.grown E h.1.size fun k A=>(h.2.typed A).1,?_⟩;rw[length_append,List.map_append];exact D
theorem PB.row {z:World} (h:PB w z W C):RowS z W.a C:=RowS.of h.2
theorem zv3 {l:List Sm} {x:Sm} (h:l[g]? =some x):stN (l.take (g+1))=if zbU x then stN (l.take g)++[x.name] else stN (l.take g):=by
 rw[zdk h,stN,stN,List.filter_append];cases q:zbU x<;>simp[q]
def zv4 (w:World) (l:List BA) (e:Ending) (w':World):Prop:=∃r:Rw,e= .returned (.slice r.a l.length r.cap)/\PB w w' r l
theorem zv5 (V:Sv) (m:Md) (w:World) (hr:RowAt w V.st.a smL 3 m.st) (hl:m.st.length<=10000):
  Calls prog 57 #[zl V m] w (zv4 w (stN m.st)):=by
 obtain⟨a,ha⟩: ∃a,V.st.a=a:=⟨_,rfl⟩;unfold zl;rw[ha] at hr ⊢;have Y:=zc (heap_alloc_new w (.cells #[.slice V.rq.a m.rq.length V.rq.cap,.slice V.im.a m.im.length V.im.cap,.slice V.ep.a m.ep.length V.ep.cap,.slice a m.st.length V.st.cap,.slice V.ex.a m.ex.length V.ex.cap] 54));have N:Hid (Bw w (w.alloc (.cells #[.slice V.rq.a m.rq.length V.rq.cap,.slice V.im.a m.im.length V.im.cap,.slice V.ep.a m.ep.length V.ep.cap,.slice a m.st.length V.st.cap,.slice V.ex.a m.ex.length V.ex.cap] 54))):=bA0;have HR:=zc (hr.later N.o);have HS:=zc (zg w (.cells #[.slice V.rq.a m.rq.length V.rq.cap,.slice V.im.a m.im.length V.im.cap,.slice V.ep.a m.ep.length V.ep.cap,.slice a m.st.length V.st.cap,.slice V.ex.a m.ex.length V.ex.cap] 54));have L:=zc (PB.nil (w.alloc (.cells #[.slice V.rq.a m.rq.length V.rq.cap,.slice V.im.a m.im.length V.im.cap,.slice V.ep.a m.ep.length V.ep.cap,.slice a m.st.length V.st.cap,.slice V.ex.a m.ex.length V.ex.cap] 54)));clear hr ha;obtain⟨i0,hi,ad,af,ah⟩:=info_parts Tryz.infoES;go_enter func57,ntmps57;go_upto_region 2 with fail;obtain⟨E,ae⟩: ∃E,E=w.alloc (.cells #[.slice V.rq.a m.rq.length V.rq.cap,.slice V.im.a m.im.length V.im.cap,.slice V.ep.a m.ep.length V.ep.cap,.slice a m.st.length V.st.cap,.slice V.ex.a m.ex.length V.ex.cap] 54):=⟨_,rfl⟩;rw[<-ae] at Y N HR HS L ⊢;refine zu (R:=fun W=>PB E W ⟨some ⟨w.heap.size+1,0,none⟩,0⟩ []) (by rw[<-HS.o];exact L.o) ?_;clear ae L;intro W1 hp;have ao:=zc hp;clear hp;go_wp2;go_loopg [3,4] m.st.length (fun k o i wr=>∃(j:Nat) (r:Rw),o= .slice r.a (stN (m.st.take j)).length r.cap/\i= .int .i64 j/\j+k=m.st.length/\PB E wr r (stN (m.st.take j)))
 case atStart=>exact⟨0,_,rfl,rfl,by omega,ao.o⟩
 case round=>
  obtain⟨j,r,rfl,rfl,hj,hp⟩:=hrel;have L:=zc hp;clear hp;obtain⟨c0,c1,c2,c3,c4,cf⟩:=zj ((L.o.1.block w.heap.size (by rw[HS.o];omega)).trans Y.o);by_cases am:j<m.st.length
  ·have aj:(j:Int)<(m.st.length:Int):=by omega
   obtain⟨x,hx⟩: ∃x,m.st[j]? =some x:=⟨_,getElem?_eq_getElem am⟩;obtain⟨b,aq,rfl,hc⟩:=(HR.o.later L.o.1).get hx;have HX:=zc hx;have d0:=hc 0 _ rfl;have d1:=hc 1 _ rfl;have d2:=hc 2 _ rfl;simp only[Nat.add_zero] at d0;clear hc hx;obtain⟨n,hn⟩: ∃n,n=(stN (m.st.take j)).length:=⟨_,rfl⟩;have HN:=zc hn;have ar:n<=j:=by rw[hn,stN,length_map];exact Nat.le_trans (List.length_filter_le _ _) (by rw[length_take];omega)
   rw[<-hn];clear hn;go_upto_region 6 with fail;refine zu (R:=fun W=>PB E W r (stN (m.st.take j))/\W.heap[wr.heap.size]? =some (.cells (smL x).toArray 102 (0,0))) ?_ ?_
   ·exact⟨L.o.below (bA0),heap_alloc_new wr _⟩
   obtain⟨bs,ab⟩: ∃bs,bs=wr.heap.size:=⟨_,rfl⟩;rw[<-ab];clear c0 c1 c2 c3 c4 cf d0 d1 d2 ab L;rintro W2 ⟨ag,U⟩;have K:=zc ag;obtain⟨e0,e1,e2,ef⟩:=zo U;have ap:=(aLt U);have Z:=zc (zv3 HX.o);obtain⟨X,ac⟩: ∃X,X=j+1:=⟨_,rfl⟩;have ej:(j:Int)+1=(X:Int):=by omega
   have HJ:=zc ac;clear ag U ac;have no: ∀(h:zbU x=false),∃(M:Nat) (q:Rw),Value.slice r.a n r.cap= .slice q.a (stN (m.st.take M)).length q.cap/\Value.int .i64 (X:Int)= .int .i64 (M:Int)/\M+(gk-1)=m.st.length/\PB E W2 q (stN (m.st.take M)):=fun h=>by
    have e:=Z.o;rw[h,if_neg Bool.false_ne_true] at e;refine⟨X,r,?_,rfl,by have:=HJ.o;omega,?_⟩
    ·rw[HN.o,HJ.o,e]
    ·rw[HJ.o,e];exact K.o
   have O:=zc no;have A:Hid (zbU x=true->∀(q:Rw) (D:World),PB E D q (stN (m.st.take j)++[x.name])->∃(M:Nat) (aa:Rw),Value.slice q.a (n+1) q.cap= .slice aa.a (stN (m.st.take M)).length aa.cap/\Value.int .i64 (X:Int)= .int .i64 (M:Int)/\M+(gk-1)=m.st.length/\PB E D aa (stN (m.st.take M))):=fun h q D al=>by
    have e:=Z.o;rw[h,if_pos rfl] at e;refine⟨X,q,?_,rfl,by have:=HJ.o;omega,?_⟩
    ·rw[HN.o,HJ.o,e,length_append];rfl
    ·rw[HJ.o,e];exact al
   have ai:Hid (∀o,OwnR (W2.alloc o) E.heap.size 9 1 r n ((stN (m.st.take j)).map .string)):=fun o=>by
    rw[HN.o];exact (K.o.below ((Below.refl _ _).alloc (Nat.le_refl _) o)).2
   have SZ:=zc K.o.1.size;have ak:Hid (∀(q:Rw) (D:World) (o:Obj),OwnR D E.heap.size 9 1 q (n+1) ((stN (m.st.take j)).map .string++[.string x.name])->(W2.alloc o).grownBy D r.blk->PB E D q (stN (m.st.take j)++[x.name])):=fun q D o hr hg=>by
    rw[HN.o] at hr;exact (K.o.below ((Below.refl _ _).alloc (Nat.le_refl _) o)).app hr hg
   clear no Z HN K HR N Y;cases k1:(x.kind==1) with
   |true=>
    cases k3:(x.name.toList==dN) with
    |true=>
     have h:zbU x=false:=by rw[zbU,k1,k3];rfl
     have z:=zc (O.o h);clear O A h;go_wp2;go_roundg (gk-1)
     case rel=>exact z.o
     case measure=>omega
    |false=>
     have h:zbU x=true:=by rw[zbU,k1,k3];rfl
     have z:=zc (A.o h);clear O A h;go_wp2_with (first|(at_builtin;refine zbd _ rfl _ _ 22 rfl E.heap.size 9 i0 _ 1 16 underlying22 hi ad af ah rfl (by decide) (by decide) r n _ rfl (ai.o _) W2.heap.size [.string x.name] rfl (heap_alloc_new _ _) rfl (zcY _) (by omega) (by rw[zg];have:=SZ.o;omega) ?_;intro q D H I _));have J:=zc (z.o q D (ak.o q D _ H I));clear H I;go_wp2;go_roundg (gk-1)
     case rel=>exact J.o
     case measure=>omega
   |false=>
    cases k2:(x.kind==2) with
    |false=>
     have h:zbU x=false:=by rw[zbU,k1,k2];rfl
     have z:=zc (O.o h);clear O A h;go_wp2;go_roundg (gk-1)
     case rel=>exact z.o
     case measure=>omega
    |true=>
     cases k3:(x.name.toList==dN) with
     |true=>
      have h:zbU x=false:=by rw[zbU,k1,k2,k3];rfl
      have z:=zc (O.o h);clear O A h;go_wp2;go_roundg (gk-1)
      case rel=>exact z.o
      case measure=>omega
     |false=>
      have h:zbU x=true:=by rw[zbU,k1,k2,k3];rfl
      have z:=zc (A.o h);clear O A h;go_wp2_with (first|(at_builtin;refine zbd _ rfl _ _ 22 rfl E.heap.size 9 i0 _ 1 16 underlying22 hi ad af ah rfl (by decide) (by decide) r n _ rfl (ai.o _) W2.heap.size [.string x.name] rfl (heap_alloc_new _ _) rfl (zcY _) (by omega) (by rw[zg];have:=SZ.o;omega) ?_;intro q D H I _));have J:=zc (z.o q D (ak.o q D _ H I));clear H I;go_wp2;go_roundg (gk-1)
      case rel=>exact J.o
      case measure=>omega
  ·have aj: ¬(j:Int)<(m.st.length:Int):=by omega
   have an:m.st.take j=m.st:=take_of_length_le (by omega);rw[an] at L ⊢;go_wp2;go_ret;exact⟨r,rfl,N.o.trans (L.o.1.mono (by rw[HS.o];omega)),L.o.2.low (by rw[HS.o];omega)⟩
theorem zv6 {l:List Im} {x:Im} (h:l[g]? =some x):imN (l.take (g+1))=imN (l.take g)++[x.loc]:=by
 rw[zdk h,imN,imN,List.map_append];rfl
theorem ziJ (l:List Sm):(stN l).length<=l.length:=by
 rw[stN,length_map];exact List.length_filter_le _ _
theorem ziK (l:List BA) (x:BA):(l++[x]).length=l.length+1:=by simp
theorem OwnR.fits {size n:Nat} {e:TypeId} {xs:List Value} (h:OwnR w g e size W n xs):n<=W.cap:=by
 obtain⟨_,⟨_,A⟩|⟨s,z,q,D,_,_,A,_⟩⟩:=h
 ·omega
 ·simp only[Value.slice.injEq] at D;omega
theorem zv7 {l:List Ep} {x:Ep} (h:l[g]? =some x):epN (l.take (g+1))=if x.kind==3 then epN (l.take g) else epN (l.take g)++[x.name]:=by
 rw[zdk h,epN,epN,List.filter_append];cases q:(x.kind==3)<;>simp[q]
theorem zmG (l:List Ep):(epN l).length<=l.length:=by
 rw[epN,length_map];exact List.length_filter_le _ _
theorem zge {α:Type} {f:α->Bool} {l:List α} {x:α} (h:l[g]? =some x):(l.take (g+1)).any f=((l.take g).any f||f x):=by
 rw[zdk h,List.any_append];simp
def MdBox (V:Sv) (m:Md) (b:Nat) (W:World):Prop:=W.heap[b]? =some (.cells #[.slice V.rq.a m.rq.length V.rq.cap,.slice V.im.a m.im.length V.im.cap,.slice V.ep.a m.ep.length V.ep.cap,.slice V.st.a m.st.length V.st.cap,.slice V.ex.a m.ex.length V.ex.cap] 54 (0,0))/\RowAt W V.im.a imL 3 m.im/\RowAt W V.ep.a epL 4 m.ep/\RowAt W V.st.a smL 3 m.st/\RowAt W V.ex.a exL 6 m.ex
theorem MdBox.later {b:Nat} {s:World} (h:MdBox S q b w) (z:Bw w s):MdBox S q b s:=
 ⟨(z.block b (aLt h.1)).trans h.1,h.2.1.later z,h.2.2.1.later z,h.2.2.2.1.later z,h.2.2.2.2.later z⟩
theorem MdBox.lt (h:MdBox S q g w):g<w.heap.size:=(aLt h.1)
theorem zv8 (V:Sv) (m:Md) (bg:Bool) (w:World) (hI:RowAt w V.im.a imL 3 m.im) (hE:RowAt w V.ep.a epL 4 m.ep) (hS:RowAt w V.st.a smL 3 m.st) (hX:RowAt w V.ex.a exL 6 m.ex) (lI:m.im.length<=10000) (lE:m.ep.length<=10000) (lS:m.st.length<=10000) (lX:m.ex.length<=10000):
  Calls prog 29 #[zl V m,.bool bg] w fun e w'=>e= .returned (.int .i64 (zat m))/\Bw w w':=by
 have ao:Hid (Bw w (w.alloc (.cells #[.slice V.rq.a m.rq.length V.rq.cap,.slice V.im.a m.im.length V.im.cap,.slice V.ep.a m.ep.length V.ep.cap,.slice V.st.a m.st.length V.st.cap,.slice V.ex.a m.ex.length V.ex.cap] 54))):=bA0;have aE:Hid (MdBox V m w.heap.size (w.alloc (.cells #[.slice V.rq.a m.rq.length V.rq.cap,.slice V.im.a m.im.length V.im.cap,.slice V.ep.a m.ep.length V.ep.cap,.slice V.st.a m.st.length V.st.cap,.slice V.ex.a m.ex.length V.ex.cap] 54))):=⟨heap_alloc_new w _,hI.later ao.o,hE.later ao.o,hS.later ao.o,hX.later ao.o⟩;have HS:=zc (zg w (.cells #[.slice V.rq.a m.rq.length V.rq.cap,.slice V.im.a m.im.length V.im.cap,.slice V.ep.a m.ep.length V.ep.cap,.slice V.st.a m.st.length V.st.cap,.slice V.ex.a m.ex.length V.ex.cap] 54));clear hI hE hS hX;obtain⟨i0,hi,am,ar,ap⟩:=info_parts Tryz.infoES;unfold zl;go_enter func29,ntmps29;go_wp2_with fail;refine (zv5 V m _ aE.o.2.2.2.1 lS).mono ?_;obtain⟨W0,a7⟩: ∃W0,W0=w.alloc (.cells #[.slice V.rq.a m.rq.length V.rq.cap,.slice V.im.a m.im.length V.im.cap,.slice V.ep.a m.ep.length V.ep.cap,.slice V.st.a m.st.length V.st.cap,.slice V.ex.a m.ex.length V.ex.cap] 54):=⟨_,rfl⟩;rw[<-a7] at aE ao HS ⊢;clear a7;rintro e W1 ⟨r1,rfl,a8⟩;have ba:=zc a8;clear a8;go_wp2;go_loopg [5,6] m.im.length (fun k o i wr=>∃(j:Nat) (r:Rw),o= .slice r.a (stN m.st++imN (m.im.take j)).length r.cap/\i= .int .i64 j/\j+k=m.im.length/\PB W0 wr r (stN m.st++imN (m.im.take j)))
 case atStart=>exact⟨0,r1,by simp[imN],rfl,by omega,by rw[List.take_zero];show PB W0 W1 r1 (stN m.st++[]);rw[List.append_nil];exact ba.o⟩
 case round=>
  clear ba;obtain⟨j,r,rfl,rfl,hj,hp⟩:=hrel;have HP:=zc hp;clear hp;have BX:=zc (aE.o.later HP.o.1);obtain⟨c0,c1,Z,c3,c4,cf⟩:=zj BX.o.1;by_cases av:j<m.im.length
  ·have ah:(j:Int)<(m.im.length:Int):=by omega
   obtain⟨x,hx⟩: ∃x,m.im[j]? =some x:=⟨_,getElem?_eq_getElem av⟩;obtain⟨b,aO,ha,hc⟩:=BX.o.2.1.get hx;have a5:=zc (zv6 hx);have d0:=hc 2 _ rfl;rw[ha] at c1;clear hc hx ha;obtain⟨n,hn⟩: ∃n,n=(stN m.st++imN (m.im.take j)).length:=⟨_,rfl⟩;have HN:=zc hn;have bb:n<=20000:=by rw[hn,length_append,imN,length_map,length_take];have:=ziJ m.st;omega
   rw[<-hn];clear hn;have J:Hid (∀o,OwnR (wr.alloc o) W0.heap.size 9 1 r n ((stN m.st++imN (m.im.take j)).map .string)):=fun o=>by
    rw[HN.o];exact (HP.o.below ((Below.refl _ _).alloc (Nat.le_refl _) o)).2
   have SZ:=zc HP.o.1.size;obtain⟨j1,O⟩: ∃j1,j1=j+1:=⟨_,rfl⟩;have ej:(j:Int)+1=(j1:Int):=by omega
   have HJ:=zc O;clear O;go_wp2_with (first|(at_builtin;refine zbd _ rfl _ _ 22 rfl W0.heap.size 9 i0 _ 1 16 underlying22 hi am ar ap rfl (by decide) (by decide) r n _ rfl (J.o _) wr.heap.size [.string x.loc] rfl (heap_alloc_new _ _) rfl (zcY _) (by omega) (by rw[zg];have:=SZ.o;omega) ?_;intro K w' E A _));have h:Hid (∃(j':Nat) (aW:Rw),Value.slice K.a (n+1) K.cap= .slice aW.a (stN m.st++imN (m.im.take j')).length aW.cap/\Value.int .i64 (j1:Int)= .int .i64 (j':Int)/\j'+(gk-1)=m.im.length/\PB W0 w' aW (stN m.st++imN (m.im.take j'))):=by
    rw[HN.o] at E;have bc:=(HP.o.below (bA0)).app E A;refine⟨j1,K,?_,rfl,by have:=HJ.o;omega,?_⟩
    ·rw[HN.o,HJ.o,a5.o,<-List.append_assoc,ziK]
    ·rw[HJ.o,a5.o,<-List.append_assoc];exact bc
   clear E A J HN HP c0 c1 Z c3 c4 cf d0;go_wp2;go_roundg (gk-1)
   case rel=>exact h.o
   case measure=>omega
  ·have ah: ¬(j:Int)<(m.im.length:Int):=by omega
   have ag:m.im.take j=m.im:=take_of_length_le (by omega);rw[ag] at HP ⊢;obtain⟨L,hL⟩: ∃L,L=stN m.st++imN m.im:=⟨_,rfl⟩;have aQ:Hid (zbP m=L):=hL.symm;rw[<-hL] at HP ⊢;have bf:L.length<=20000:=by rw[hL,length_append,imN,length_map];have:=ziJ m.st;omega
   obtain⟨n,hn⟩: ∃n,n=L.length:=⟨_,rfl⟩;have HN:=zc hn;have bj:n<=20000:=by omega
   rw[<-hn];clear hL hn bf ag hj;go_wp2_with fail;refine (zmF r.a r.cap n L _ HN.o HP.o.row (by omega) (by rw[HN.o];exact HP.o.2.fits)).mono ?_;rintro e W2 ⟨rfl,aP⟩;have aD:=zc (HP.o.below aP);have ak:=zc (BX.o.later aP);clear aP HP BX c0 c1 Z c3 c4 cf;cases aU:twB L with
   |true=>
    have HV:Hid (zat m=1):=by show zat m=1;rw[zat,aQ.o,aU];rfl
    go_wp2;go_ret;exact⟨zbG HV.o.symm,ao.o.trans (aD.o.1.mono (by rw[HS.o];omega))⟩
   |false=>
    have a2:=zc aU;have aV:=zc (ao.o.trans (aD.o.1.mono (by rw[HS.o];omega)));have ax:=zc aD.o.row;have PN:=zc (PB.nil W2);clear aU aD ao aE;go_upto_region 9 with fail;refine zu (R:=fun W=>PB W2 W ⟨some ⟨W2.heap.size,0,none⟩,0⟩ []) PN.o ?_;clear PN;intro W3 aY;have a4:=zc aY;clear aY;go_wp2;go_loopg [7,8,9,10] m.ep.length (fun k o u s i wr=>∃(j:Nat) (r2:Rw),o= .slice r2.a (epN (m.ep.take j)).length r2.cap/\u= .bool (unB L (m.ep.take j))/\s= .bool (seB m.im (m.ep.take j))/\i= .int .i64 j/\j+k=m.ep.length/\PB W2 wr r2 (epN (m.ep.take j)))
    case atStart=>exact⟨0,_,rfl,rfl,rfl,rfl,by omega,a4.o⟩
    case round=>
     clear a4;obtain⟨j,r2,rfl,rfl,rfl,rfl,hj,hp⟩:=hrel;have HP:=zc hp;clear hp;have BX:=zc (ak.o.later HP.o.1);obtain⟨c0,c1,Z,c3,c4,cf⟩:=zj BX.o.1;by_cases av:j<m.ep.length
     ·have ah:(j:Int)<(m.ep.length:Int):=by omega
      obtain⟨x,hx⟩: ∃x,m.ep[j]? =some x:=⟨_,getElem?_eq_getElem av⟩;obtain⟨b,aO,ha,hc⟩:=BX.o.2.2.1.get hx;have KN:=zc (zv7 hx);have KU:Hid (unB L (m.ep.take (j+1))=(unB L (m.ep.take j)||(x.kind==1&&(!(x.loc.toList==dN)&& !inL L x.loc)))):=zge hx;have KS:Hid (seB m.im (m.ep.take (j+1))=(seB m.im (m.ep.take j)||(x.kind==1&&spB m.im x.loc))):=zge hx;have d0:=hc 0 _ rfl;have d1:=hc 1 _ rfl;have d2:=hc 2 _ rfl;have d3:=hc 3 _ rfl;simp only[Nat.add_zero] at d0;rw[ha] at Z;clear hc hx;obtain⟨Y,N⟩: ∃Y,Y=(epN (m.ep.take j)).length:=⟨_,rfl⟩;have M:=zc N;have bb:Y<=20000:=by rw[N];have:=zmG (m.ep.take j);rw[length_take] at this;omega
      obtain⟨u,hu⟩: ∃u,u=unB L (m.ep.take j):=⟨_,rfl⟩;obtain⟨s,hs⟩: ∃s,s=seB m.im (m.ep.take j):=⟨_,rfl⟩;obtain⟨j1,O⟩: ∃j1,j1=j+1:=⟨_,rfl⟩;have ej:(j:Int)+1=(j1:Int):=by omega
      rw[<-N,<-hu,<-hs];rw[<-hu] at KU;rw[<-hs] at KS
      have z:Hid (∀(K:Rw) (n':Nat) (u' s':Bool) (w':World),n'=(epN (m.ep.take (j+1))).length->u'=unB L (m.ep.take (j+1))->s'=seB m.im (m.ep.take (j+1))->PB W2 w' K (epN (m.ep.take (j+1)))->
        ∃(j':Nat) (r2:Rw),Value.slice K.a n' K.cap= .slice r2.a (epN (m.ep.take j')).length r2.cap/\Value.bool u'= .bool (unB L (m.ep.take j'))/\Value.bool s'= .bool (seB m.im (m.ep.take j'))/\Value.int .i64 (j1:Int)= .int .i64 (j':Int)/\j'+(gk-1)=m.ep.length/\PB W2 w' r2 (epN (m.ep.take j'))):=fun K n' u' s' w' h1 h2 h3 h4=>by
       refine⟨j1,K,?_,?_,?_,rfl,by omega,?_⟩
       ·rw[O,h1]
       ·rw[O,h2]
       ·rw[O,h3]
       ·rw[O];exact h4
      clear N hu hs O;go_upto_region 15 with fail;refine zu (R:=fun W=>PB W2 W r2 (epN (m.ep.take j))/\W.heap[wr.heap.size]? =some (.cells (epL x).toArray 97 (0,0))) ?_ ?_
      ·exact⟨HP.o.below (bA0),heap_alloc_new wr _⟩
      obtain⟨bs,ay⟩: ∃bs,bs=wr.heap.size:=⟨_,rfl⟩;rw[<-ay];have aw:Hid (∀k,r2.blk=some k->k≠bs):=fun k hk e=>by have:=(HP.o.2.typed hk).2.1;omega
      clear c0 c1 Z c3 c4 cf d0 d1 d2 d3 ay HP BX ha;rintro W4 ⟨a0,aj⟩;have ac:=zc a0;have X:=zc aj;obtain⟨e0,e1,e2,e3,ef⟩:=zbN aj;have ae:=(aLt aj);clear a0 aj;cases k3:(x.kind==3) with
      |true=>
       have k1:(x.kind==1)=false:=by rw[eq_of_beq k3];rfl
       have h:=zc (z.o r2 Y u s W4 (by rw[KN.o,k3,if_pos rfl];exact M.o) (by rw[KU.o,k1];simp) (by rw[KS.o,k1];simp) (by rw[KN.o,k3,if_pos rfl];exact ac.o));clear z KN KU KS M ac X;go_wp2;go_roundg (gk-1)
       case rel=>exact h.o
       case measure=>omega
      |false=>
       have J:Hid (∀o,OwnR (W4.alloc o) W2.heap.size 9 1 r2 Y ((epN (m.ep.take j)).map .string)):=fun o=>by
        rw[M.o];exact (ac.o.below ((Below.refl _ _).alloc (Nat.le_refl _) o)).2
       have SZ:=zc ac.o.1.size;cases k1:(x.kind==1) with
       |false=>
        go_wp2_with (first|(at_builtin;refine zbd _ rfl _ _ 22 rfl W2.heap.size 9 i0 _ 1 16 underlying22 hi am ar ap rfl (by decide) (by decide) r2 Y _ rfl (J.o _) W4.heap.size [.string x.name] rfl (heap_alloc_new _ _) rfl (zcY _) (by omega) (by rw[zg];have:=SZ.o;omega) ?_;intro K W5 E A _;have XB:Hid (W5.heap[bs]? =some (.cells (epL x).toArray 97 (0,0))):=(A.block bs (by rw[zg];omega) (fun e=>aw.o bs e.symm rfl)).trans ((heap_alloc_old _ _ ae).trans X.o);clear e0 e1 e2 e3 ef;obtain⟨e0,e1,e2,e3,ef⟩:=zbN XB.o));rw[M.o] at E;have D:Hid (PB W2 W5 K (epN (m.ep.take (j+1)))):=by show PB _ _ _ _;rw[KN.o,k3,if_neg Bool.false_ne_true];exact (ac.o.below (bA0)).app E A
        have U:Hid (Y+1=(epN (m.ep.take (j+1))).length):=by show _=_;rw[KN.o,k3,if_neg Bool.false_ne_true,ziK,M.o]
        have h:=zc (z.o K (Y+1) u s W5 U.o (by rw[KU.o,k1];simp) (by rw[KS.o,k1];simp) D.o);clear z KN KU KS M ac X D U J E A;go_wp2;go_roundg (gk-1)
        case rel=>exact h.o
        case measure=>omega
       |true=>
        have af:Hid (∀(K:Rw) (w':World) (o:Obj),OwnR w' W2.heap.size 9 1 K (Y+1) ((epN (m.ep.take j)).map .string++[.string x.name])->(W4.alloc o).grownBy w' r2.blk->PB W2 w' K (epN (m.ep.take (j+1)))):=fun K w' o E A=>by
         rw[M.o] at E;rw[KN.o,k3,if_neg Bool.false_ne_true];exact (ac.o.below (bA0)).app E A
        have U:Hid (Y+1=(epN (m.ep.take (j+1))).length):=by show _=_;rw[KN.o,k3,if_neg Bool.false_ne_true,ziK,M.o]
        cases u with
        |true=>
         cases s with
         |true=>
          go_wp2_with (first|(at_builtin;refine zbd _ rfl _ _ 22 rfl W2.heap.size 9 i0 _ 1 16 underlying22 hi am ar ap rfl (by decide) (by decide) r2 Y _ rfl (J.o _) W4.heap.size [.string x.name] rfl (heap_alloc_new _ _) rfl (zcY _) (by omega) (by rw[zg];have:=SZ.o;omega) ?_;intro K W5 E A _;have XB:Hid (W5.heap[bs]? =some (.cells (epL x).toArray 97 (0,0))):=(A.block bs (by rw[zg];omega) (fun e=>aw.o bs e.symm rfl)).trans ((heap_alloc_old _ _ ae).trans X.o);clear e0 e1 e2 e3 ef;obtain⟨e0,e1,e2,e3,ef⟩:=zbN XB.o;have D:=zc (af.o K W5 _ E A);have I:=zc (ak.o.later D.o.1);obtain⟨c0,c1,Z,c3,c4,cf⟩:=zj I.o.1;have aa:=zc (ax.o.later D.o.1);clear E A));have h:=zc (z.o K (Y+1) (true) (true) W5 U.o (by rw[KU.o,k1];simp) (by rw[KS.o,k1];simp) D.o);clear z KN KU KS M ac X D U J af I aa c0 c1 Z c3 c4 cf e0 e1 e2 e3 ef;go_wp2;go_roundg (gk-1)
          case rel=>exact h.o
          case measure=>omega
         |false=>
          go_wp2_with (first|(at_builtin;refine zbd _ rfl _ _ 22 rfl W2.heap.size 9 i0 _ 1 16 underlying22 hi am ar ap rfl (by decide) (by decide) r2 Y _ rfl (J.o _) W4.heap.size [.string x.name] rfl (heap_alloc_new _ _) rfl (zcY _) (by omega) (by rw[zg];have:=SZ.o;omega) ?_;intro K W5 E A _;have XB:Hid (W5.heap[bs]? =some (.cells (epL x).toArray 97 (0,0))):=(A.block bs (by rw[zg];omega) (fun e=>aw.o bs e.symm rfl)).trans ((heap_alloc_old _ _ ae).trans X.o);clear e0 e1 e2 e3 ef;obtain⟨e0,e1,e2,e3,ef⟩:=zbN XB.o;have D:=zc (af.o K W5 _ E A);have I:=zc (ak.o.later D.o.1);obtain⟨c0,c1,Z,c3,c4,cf⟩:=zj I.o.1;have aa:=zc (ax.o.later D.o.1);clear E A)|(go_at_call 59;refine (zef V m _ _ I.o.2.1 (by omega)).mono ?_;rintro e W6 ⟨rfl,H⟩;have ab:=zc H;clear H));have h:=zc (z.o K (Y+1) (true) (spB m.im x.loc) W6 U.o (by rw[KU.o,k1];simp) (by rw[KS.o,k1];simp) (D.o.below ab.o));clear z KN KU KS M ac X D U J af I aa c0 c1 Z c3 c4 cf e0 e1 e2 e3 ef;go_wp2;go_roundg (gk-1)
          case rel=>exact h.o
          case measure=>omega
        |false=>
         cases kd:(x.loc.toList==dN) with
         |true=>
          cases s with
          |true=>
           go_wp2_with (first|(at_builtin;refine zbd _ rfl _ _ 22 rfl W2.heap.size 9 i0 _ 1 16 underlying22 hi am ar ap rfl (by decide) (by decide) r2 Y _ rfl (J.o _) W4.heap.size [.string x.name] rfl (heap_alloc_new _ _) rfl (zcY _) (by omega) (by rw[zg];have:=SZ.o;omega) ?_;intro K W5 E A _;have XB:Hid (W5.heap[bs]? =some (.cells (epL x).toArray 97 (0,0))):=(A.block bs (by rw[zg];omega) (fun e=>aw.o bs e.symm rfl)).trans ((heap_alloc_old _ _ ae).trans X.o);clear e0 e1 e2 e3 ef;obtain⟨e0,e1,e2,e3,ef⟩:=zbN XB.o;have D:=zc (af.o K W5 _ E A);have I:=zc (ak.o.later D.o.1);obtain⟨c0,c1,Z,c3,c4,cf⟩:=zj I.o.1;have aa:=zc (ax.o.later D.o.1);clear E A));have h:=zc (z.o K (Y+1) (false) (true) W5 U.o (by rw[KU.o,k1,kd];simp) (by rw[KS.o,k1];simp) D.o);clear z KN KU KS M ac X D U J af I aa c0 c1 Z c3 c4 cf e0 e1 e2 e3 ef;go_wp2;go_roundg (gk-1)
           case rel=>exact h.o
           case measure=>omega
          |false=>
           go_wp2_with (first|(at_builtin;refine zbd _ rfl _ _ 22 rfl W2.heap.size 9 i0 _ 1 16 underlying22 hi am ar ap rfl (by decide) (by decide) r2 Y _ rfl (J.o _) W4.heap.size [.string x.name] rfl (heap_alloc_new _ _) rfl (zcY _) (by omega) (by rw[zg];have:=SZ.o;omega) ?_;intro K W5 E A _;have XB:Hid (W5.heap[bs]? =some (.cells (epL x).toArray 97 (0,0))):=(A.block bs (by rw[zg];omega) (fun e=>aw.o bs e.symm rfl)).trans ((heap_alloc_old _ _ ae).trans X.o);clear e0 e1 e2 e3 ef;obtain⟨e0,e1,e2,e3,ef⟩:=zbN XB.o;have D:=zc (af.o K W5 _ E A);have I:=zc (ak.o.later D.o.1);obtain⟨c0,c1,Z,c3,c4,cf⟩:=zj I.o.1;have aa:=zc (ax.o.later D.o.1);clear E A)|(go_at_call 59;refine (zef V m _ _ I.o.2.1 (by omega)).mono ?_;rintro e W6 ⟨rfl,H⟩;have ab:=zc H;clear H));have h:=zc (z.o K (Y+1) (false) (spB m.im x.loc) W6 U.o (by rw[KU.o,k1,kd];simp) (by rw[KS.o,k1];simp) (D.o.below ab.o));clear z KN KU KS M ac X D U J af I aa c0 c1 Z c3 c4 cf e0 e1 e2 e3 ef;go_wp2;go_roundg (gk-1)
           case rel=>exact h.o
           case measure=>omega
         |false=>
          cases s with
          |true=>
           go_wp2_with (first|(at_builtin;refine zbd _ rfl _ _ 22 rfl W2.heap.size 9 i0 _ 1 16 underlying22 hi am ar ap rfl (by decide) (by decide) r2 Y _ rfl (J.o _) W4.heap.size [.string x.name] rfl (heap_alloc_new _ _) rfl (zcY _) (by omega) (by rw[zg];have:=SZ.o;omega) ?_;intro K W5 E A _;have XB:Hid (W5.heap[bs]? =some (.cells (epL x).toArray 97 (0,0))):=(A.block bs (by rw[zg];omega) (fun e=>aw.o bs e.symm rfl)).trans ((heap_alloc_old _ _ ae).trans X.o);clear e0 e1 e2 e3 ef;obtain⟨e0,e1,e2,e3,ef⟩:=zbN XB.o;have D:=zc (af.o K W5 _ E A);have I:=zc (ak.o.later D.o.1);obtain⟨c0,c1,Z,c3,c4,cf⟩:=zj I.o.1;have aa:=zc (ax.o.later D.o.1);clear E A)|(go_at_call 27;refine (zgd r.a r.cap n L _ _ HN.o aa.o (by omega)).mono ?_;rintro e w' ⟨rfl,rfl⟩));have h:=zc (z.o K (Y+1) (!inL L x.loc) (true) w' U.o (by rw[KU.o,k1,kd];simp) (by rw[KS.o,k1];simp) D.o);clear z KN KU KS M ac X D U J af I aa c0 c1 Z c3 c4 cf e0 e1 e2 e3 ef;go_wp2;go_roundg (gk-1)
           case rel=>exact h.o
           case measure=>omega
          |false=>
           go_wp2_with (first|(at_builtin;refine zbd _ rfl _ _ 22 rfl W2.heap.size 9 i0 _ 1 16 underlying22 hi am ar ap rfl (by decide) (by decide) r2 Y _ rfl (J.o _) W4.heap.size [.string x.name] rfl (heap_alloc_new _ _) rfl (zcY _) (by omega) (by rw[zg];have:=SZ.o;omega) ?_;intro K W5 E A _;have XB:Hid (W5.heap[bs]? =some (.cells (epL x).toArray 97 (0,0))):=(A.block bs (by rw[zg];omega) (fun e=>aw.o bs e.symm rfl)).trans ((heap_alloc_old _ _ ae).trans X.o);clear e0 e1 e2 e3 ef;obtain⟨e0,e1,e2,e3,ef⟩:=zbN XB.o;have D:=zc (af.o K W5 _ E A);have I:=zc (ak.o.later D.o.1);obtain⟨c0,c1,Z,c3,c4,cf⟩:=zj I.o.1;have aa:=zc (ax.o.later D.o.1);clear E A)|(go_at_call 27;refine (zgd r.a r.cap n L _ _ HN.o aa.o (by omega)).mono ?_;rintro e w' ⟨rfl,rfl⟩)|(go_at_call 59;refine (zef V m _ _ I.o.2.1 (by omega)).mono ?_;rintro e W6 ⟨rfl,H⟩;have ab:=zc H;clear H));have h:=zc (z.o K (Y+1) (!inL L x.loc) (spB m.im x.loc) W6 U.o (by rw[KU.o,k1,kd];simp) (by rw[KS.o,k1];simp) (D.o.below ab.o));clear z KN KU KS M ac X D U J af I aa c0 c1 Z c3 c4 cf e0 e1 e2 e3 ef;go_wp2;go_roundg (gk-1)
           case rel=>exact h.o
           case measure=>omega
     ·have ah: ¬(j:Int)<(m.ep.length:Int):=by omega
      have ag:m.ep.take j=m.ep:=take_of_length_le (by omega);rw[ag] at HP ⊢;have bh:=zc (HP.o.2);have aR:=zc (aV.o.trans (HP.o.1.mono aV.o.size));obtain⟨Y,N⟩: ∃Y,Y=(epN m.ep).length:=⟨_,rfl⟩;have M:=zc N;have bb:Y<=20000:=by rw[N];have:=zmG m.ep;omega
      obtain⟨u,hu⟩: ∃u,u=unB L m.ep:=⟨_,rfl⟩;have HU:=zc hu;obtain⟨s0,aM⟩: ∃s,s=seB m.im m.ep:=⟨_,rfl⟩;have aZ:=zc aM;have aI:=zc HP.o.row;have a6:Hid (Y<=r2.cap):=by rw[N];exact HP.o.2.fits
      rw[<-N,<-hu,<-aM];clear N hu aM ag HP bh ax ak aV HN;go_wp2;go_loopg [9,12,13] m.ex.length (fun k s me i aJ=>∃j:Nat,s= .bool (s0||sxB m.im (m.ex.take j))/\me= .bool (mxB m.im (m.ex.take j))/\i= .int .i64 j/\j+k=m.ex.length/\Bw wr aJ)
      case atStart=>exact⟨0,by simp[sxB],rfl,rfl,by omega,Below.refl _ _⟩
      case round=>
       obtain⟨j,rfl,rfl,rfl,hj,hb⟩:=hrel;have HB:=zc hb;clear hb;have az:=zc (BX.o.later HB.o);clear c0 c1 Z c3 c4 cf;obtain⟨c0,c1,Z,c3,c4,cf⟩:=zj az.o.1;by_cases av:j<m.ex.length
       ·have ah:(j:Int)<(m.ex.length:Int):=by omega
        obtain⟨x,hx⟩: ∃x,m.ex[j]? =some x:=⟨_,getElem?_eq_getElem av⟩;obtain⟨b,aO,ha,hc⟩:=az.o.2.2.2.2.get hx;have KS:Hid (sxB m.im (m.ex.take (j+1))=(sxB m.im (m.ex.take j)||((x.kind==2||x.kind==3)&&spB m.im x.name))):=zge hx;have KM:Hid (mxB m.im (m.ex.take (j+1))=(mxB m.im (m.ex.take j)||((x.kind==4||x.kind==5)&& !spB m.im x.name))):=zge hx;have d0:=hc 0 _ rfl;have d1:=hc 1 _ rfl;have d2:=hc 2 _ rfl;have d3:=hc 3 _ rfl;have d4:=hc 4 _ rfl;have d5:=hc 5 _ rfl;simp only[Nat.add_zero] at d0;rw[ha] at c4;clear hc hx ha;obtain⟨s,hs⟩: ∃s,s=(s0||sxB m.im (m.ex.take j)):=⟨_,rfl⟩;obtain⟨me,au⟩: ∃me,me=mxB m.im (m.ex.take j):=⟨_,rfl⟩;obtain⟨j1,O⟩: ∃j1,j1=j+1:=⟨_,rfl⟩;have ej:(j:Int)+1=(j1:Int):=by omega
        rw[<-hs,<-au]
        have z:Hid (∀(s' aL:Bool) (w':World),s'=(s||((x.kind==2||x.kind==3)&&spB m.im x.name))->aL=(me||((x.kind==4||x.kind==5)&& !spB m.im x.name))->Bw wr w'->
          ∃j':Nat,Value.bool s'= .bool (s0||sxB m.im (m.ex.take j'))/\Value.bool aL= .bool (mxB m.im (m.ex.take j'))/\Value.int .i64 (j1:Int)= .int .i64 (j':Int)/\j'+(gk-1)=m.ex.length/\Below _ _ w'):=fun s' aL w' h1 h2 h3=>by
         refine⟨j1,?_,?_,rfl,by omega,HB.o.trans (h3.mono HB.o.size)⟩
         ·rw[O,KS.o,h1,hs,Bool.or_assoc]
         ·rw[O,KM.o,h2,au]
        clear hs au O KS KM;go_upto_region 25 with fail;refine zu (R:=fun W=>Below wr.heap.size wr W/\W.heap[wr.heap.size]? =some (.cells (exL x).toArray 100 (0,0))) ⟨bA0,heap_alloc_new wr _⟩ ?_;obtain⟨bs,ay⟩: ∃bs,bs=wr.heap.size:=⟨_,rfl⟩;rw[<-ay];have bi:=zc ay;clear c0 c1 Z c3 c4 cf d0 d1 d2 d3 d4 d5 ay;rintro W4 ⟨aF,aj⟩;rw[bi.o] at aF;have ad:=zc aF;have ai:=zc (az.o.later aF);obtain⟨c0,c1,Z,c3,c4,cf⟩:=zj ai.o.1;obtain⟨e0,e1,e2,e3,e4,e5,ef⟩:=zy aj;have ae:=(aLt aj);clear aF aj az;cases q2:(x.kind==2) with
        |true=>
         have q:=q2;clear q2;have q2:(x.kind==2)=true:=by rw[eq_of_beq q];rfl
         have q3:(x.kind==3)=false:=by rw[eq_of_beq q];rfl
         have q4:(x.kind==4)=false:=by rw[eq_of_beq q];rfl
         have q5:(x.kind==5)=false:=by rw[eq_of_beq q];rfl
         clear q;cases s with
         |true=>
          have h:=zc (z.o (true) (me) W4 (by rw[q2,q3];simp) (by rw[q4,q5];simp) ad.o);clear z;go_wp2;go_roundg (gk-1)
          case rel=>exact h.o
          case measure=>omega
         |false=>
          go_wp2_with (first|(go_at_call 59;refine (zef V m _ _ ai.o.2.1 (by omega)).mono ?_;rintro e W6 ⟨rfl,H⟩;have ab:=zc H;clear H));have h:=zc (z.o (spB m.im x.name) (me) W6 (by rw[q2,q3];simp) (by rw[q4,q5];simp) (ad.o.trans (ab.o.mono ad.o.size)));go_roundg (gk-1)
          case rel=>exact h.o
          case measure=>omega
        |false=>
         cases q3:(x.kind==3) with
         |true=>
          have q:=q3;clear q2 q3;have q2:(x.kind==2)=false:=by rw[eq_of_beq q];rfl
          have q3:(x.kind==3)=true:=by rw[eq_of_beq q];rfl
          have q4:(x.kind==4)=false:=by rw[eq_of_beq q];rfl
          have q5:(x.kind==5)=false:=by rw[eq_of_beq q];rfl
          clear q;cases s with
          |true=>
           have h:=zc (z.o (true) (me) W4 (by rw[q2,q3];simp) (by rw[q4,q5];simp) ad.o);clear z;go_wp2;go_roundg (gk-1)
           case rel=>exact h.o
           case measure=>omega
          |false=>
           go_wp2_with (first|(go_at_call 59;refine (zef V m _ _ ai.o.2.1 (by omega)).mono ?_;rintro e W6 ⟨rfl,H⟩;have ab:=zc H;clear H));have h:=zc (z.o (spB m.im x.name) (me) W6 (by rw[q2,q3];simp) (by rw[q4,q5];simp) (ad.o.trans (ab.o.mono ad.o.size)));go_roundg (gk-1)
           case rel=>exact h.o
           case measure=>omega
         |false=>
          cases q4:(x.kind==4) with
          |true=>
           have q:=q4;clear q2 q3 q4;have q2:(x.kind==2)=false:=by rw[eq_of_beq q];rfl
           have q3:(x.kind==3)=false:=by rw[eq_of_beq q];rfl
           have q4:(x.kind==4)=true:=by rw[eq_of_beq q];rfl
           have q5:(x.kind==5)=false:=by rw[eq_of_beq q];rfl
           clear q;cases me with
           |true=>
            have h:=zc (z.o (s) (true) W4 (by rw[q2,q3];simp) (by rw[q4,q5];simp) ad.o);clear z;go_wp2;go_roundg (gk-1)
            case rel=>exact h.o
            case measure=>omega
           |false=>
            go_wp2_with (first|(go_at_call 59;refine (zef V m _ _ ai.o.2.1 (by omega)).mono ?_;rintro e W6 ⟨rfl,H⟩;have ab:=zc H;clear H));have h:=zc (z.o (s) (!spB m.im x.name) W6 (by rw[q2,q3];simp) (by rw[q4,q5];simp) (ad.o.trans (ab.o.mono ad.o.size)));go_roundg (gk-1)
            case rel=>exact h.o
            case measure=>omega
          |false=>
           cases q5:(x.kind==5) with
           |true=>
            have q:=q5;clear q2 q3 q4 q5;have q2:(x.kind==2)=false:=by rw[eq_of_beq q];rfl
            have q3:(x.kind==3)=false:=by rw[eq_of_beq q];rfl
            have q4:(x.kind==4)=false:=by rw[eq_of_beq q];rfl
            have q5:(x.kind==5)=true:=by rw[eq_of_beq q];rfl
            clear q;cases me with
            |true=>
             have h:=zc (z.o (s) (true) W4 (by rw[q2,q3];simp) (by rw[q4,q5];simp) ad.o);clear z;go_wp2;go_roundg (gk-1)
             case rel=>exact h.o
             case measure=>omega
            |false=>
             go_wp2_with (first|(go_at_call 59;refine (zef V m _ _ ai.o.2.1 (by omega)).mono ?_;rintro e W6 ⟨rfl,H⟩;have ab:=zc H;clear H));have h:=zc (z.o (s) (!spB m.im x.name) W6 (by rw[q2,q3];simp) (by rw[q4,q5];simp) (ad.o.trans (ab.o.mono ad.o.size)));go_roundg (gk-1)
             case rel=>exact h.o
             case measure=>omega
           |false=>
            have h:=zc (z.o (s) (me) W4 (by rw[q2,q3];simp) (by rw[q4,q5];simp) ad.o);clear z;go_wp2;go_roundg (gk-1)
            case rel=>exact h.o
            case measure=>omega
       ·have ah: ¬(j:Int)<(m.ex.length:Int):=by omega
        have ag:m.ex.take j=m.ex:=take_of_length_le (by omega);rw[ag];obtain⟨s1,aS⟩: ∃s,s=(s0||sxB m.im m.ex):=⟨_,rfl⟩;have aX:=zc aS;obtain⟨me,au⟩: ∃me,me=mxB m.im m.ex:=⟨_,rfl⟩;have a9:=zc au;have aN:=zc (aR.o.trans (HB.o.mono aR.o.size));have aH:=zc (aI.o.later HB.o);rw[<-aS,<-au];clear aS au ag HB BX aR aI;go_wp2;go_loopg [9,15] m.st.length (fun k s i aJ=>∃j:Nat,s= .bool (s1||ssB m.im (m.st.take j))/\i= .int .i64 j/\j+k=m.st.length/\Bw wr aJ)
        case atStart=>exact⟨0,by simp[ssB],rfl,by omega,Below.refl _ _⟩
        case round=>
         obtain⟨j,rfl,rfl,hj,hb⟩:=hrel;have HB:=zc hb;clear hb;have ai:=zc (az.o.later HB.o);clear c0 c1 Z c3 c4 cf;obtain⟨c0,c1,Z,c3,c4,cf⟩:=zj ai.o.1;by_cases av:j<m.st.length
         ·have ah:(j:Int)<(m.st.length:Int):=by omega
          obtain⟨x,hx⟩: ∃x,m.st[j]? =some x:=⟨_,getElem?_eq_getElem av⟩;obtain⟨b,aO,ha,hc⟩:=ai.o.2.2.2.1.get hx;have KS:Hid (ssB m.im (m.st.take (j+1))=(ssB m.im (m.st.take j)||(x.kind==3&&spB m.im x.name))):=zge hx;have d0:=hc 0 _ rfl;have d1:=hc 1 _ rfl;simp only[Nat.add_zero] at d0;have HA:=zc ha;rw[ha] at c3;clear hc hx ha;obtain⟨s,hs⟩: ∃s,s=(s1||ssB m.im (m.st.take j)):=⟨_,rfl⟩;obtain⟨j1,O⟩: ∃j1,j1=j+1:=⟨_,rfl⟩;have ej:(j:Int)+1=(j1:Int):=by omega
          rw[<-hs]
          have z:Hid (∀(s':Bool) (w':World),s'=(s||(x.kind==3&&spB m.im x.name))->Bw wr w'->
            ∃j':Nat,Value.bool s'= .bool (s1||ssB m.im (m.st.take j'))/\Value.int .i64 (j1:Int)= .int .i64 (j':Int)/\j'+(gk-1)=m.st.length/\Below _ _ w'):=fun s' w' h1 h3=>by
           refine⟨j1,?_,rfl,by omega,HB.o.trans (h3.mono HB.o.size)⟩;rw[O,KS.o,h1,hs,Bool.or_assoc]
          clear hs O KS;have C0:=zc c0;have C1:=zc c1;have C2:=zc Z;have C3:=zc c3;have C4:=zc c4;have D0:=zc d0;have D1:=zc d1;have cQ: ∀d os,Calls prog 59 #[zl V m,.string x.name] (grow (redrawn wr d) os) fun e be=>e= .returned (.bool (spB m.im x.name))/\∃p:Regrown,be=grow (redrawn wr p.d) p.os:=
           fun d os=>Calls.regrown_of (zef V m _ _ (ai.o.2.1.later (below_regrown wr d os)) (by omega))
          unfold zl at cQ;rw[HA.o] at cQ;cases s with
          |true=>
           go_wp2_with fail;clear c0 c1 Z c3 c4 d0 d1;have f0:=cell_regrown C0.o;have f1:=cell_regrown C1.o;have f2:=cell_regrown C2.o;have f3:=cell_regrown C3.o;have f4:=cell_regrown C4.o;have g0:=cell_regrown D0.o;have g1:=cell_regrown D1.o;refine wp_region_quiet_below (by kernel_rfl) (by kernel_rfl) ?_
           repeat (go_big_quiet_step (exact cQ _ _))
           refine wpQuiet_nil ?_;intro w9 al;have aq:Hid (Bw wr w9):=by obtain⟨⟨dq,aC⟩,an⟩:=al;show Below _ _ _;rw[an];exact below_regrown wr dq aC
           have h:=zc (z.o (true) w9 (by simp) aq.o);clear z al f0 f1 f2 f3 f4 g0 g1 cQ;go_wp2;go_roundg (gk-1)
           case rel=>exact h.o
           case measure=>omega
          |false=>
           cases k3:(x.kind==3) with
           |false=>
            go_wp2_with fail;clear c0 c1 Z c3 c4 d0 d1;have f0:=cell_regrown C0.o;have f1:=cell_regrown C1.o;have f2:=cell_regrown C2.o;have f3:=cell_regrown C3.o;have f4:=cell_regrown C4.o;have g0:=cell_regrown D0.o;have g1:=cell_regrown D1.o;refine wp_region_quiet_below (by kernel_rfl) (by kernel_rfl) ?_
            repeat (go_big_quiet_step (exact cQ _ _))
            refine wpQuiet_nil ?_;intro w9 al;have aq:Hid (Bw wr w9):=by obtain⟨⟨dq,aC⟩,an⟩:=al;show Below _ _ _;rw[an];exact below_regrown wr dq aC
            have h:=zc (z.o (false) w9 (by rw[k3];simp) aq.o);clear z al f0 f1 f2 f3 f4 g0 g1 cQ;go_wp2;go_roundg (gk-1)
            case rel=>exact h.o
            case measure=>omega
           |true=>
            go_wp2_with fail;clear c0 c1 Z c3 c4 d0 d1;have f0:=cell_regrown C0.o;have f1:=cell_regrown C1.o;have f2:=cell_regrown C2.o;have f3:=cell_regrown C3.o;have f4:=cell_regrown C4.o;have g0:=cell_regrown D0.o;have g1:=cell_regrown D1.o;refine wp_region_quiet_below (by kernel_rfl) (by kernel_rfl) ?_
            repeat (go_big_quiet_step (exact cQ _ _))
            refine wpQuiet_nil ?_;intro w9 al;have aq:Hid (Bw wr w9):=by obtain⟨⟨dq,aC⟩,an⟩:=al;show Below _ _ _;rw[an];exact below_regrown wr dq aC
            have h:=zc (z.o (spB m.im x.name) w9 (by rw[k3];simp) aq.o);clear z al f0 f1 f2 f3 f4 g0 g1 cQ;go_wp2;go_roundg (gk-1)
            case rel=>exact h.o
            case measure=>omega
         ·have ah: ¬(j:Int)<(m.st.length:Int):=by omega
          have ag:m.st.take j=m.st:=take_of_length_le (by omega);rw[ag];obtain⟨s2,aK⟩: ∃s,s=(s1||ssB m.im m.st):=⟨_,rfl⟩;have a3:=zc aK;rw[<-aK];have aT:=zc (aN.o.trans (HB.o.mono aN.o.size));have aG:=zc (aH.o.later HB.o);clear aK ag HB aN aH ai az;have aA:Hid (zat m=if twB (epN m.ep) then 2 else if u then 3 else if s2 then 4 else if me then 5 else 0):=by
           show _=_;rw[zat,aQ.o,a2.o,HU.o,a3.o,aX.o,aZ.o,a9.o];rfl
          clear aQ a2 HU a3 aX aZ a9;go_wp2_with fail;refine (zmF r2.a r2.cap Y (epN m.ep) _ M.o aG.o (by omega) a6.o).mono ?_;rintro e W8 ⟨rfl,a1⟩;have aB:=zc (aT.o.trans (a1.mono aT.o.size));clear a1 aT aG;generalize twB (epN m.ep)=t2 at aA ⊢;cases t2 with
          |true=>
           go_wp2;go_ret;exact⟨zbG (by rw[aA.o];rfl),aB.o⟩
          |false=>
           cases u with
           |true=>
            go_wp2;go_ret;exact⟨zbG (by rw[aA.o];rfl),aB.o⟩
           |false=>
            cases s2 with
            |true=>
             go_wp2;go_ret;exact⟨zbG (by rw[aA.o];rfl),aB.o⟩
            |false=>
             cases me with
             |true=>
              go_wp2;go_ret;exact⟨zbG (by rw[aA.o];rfl),aB.o⟩
             |false=>
              go_wp2;go_ret;exact⟨zbG (by rw[aA.o];rfl),aB.o⟩
end Go.Proofs.YtgcbmogmniahjaaGreat
