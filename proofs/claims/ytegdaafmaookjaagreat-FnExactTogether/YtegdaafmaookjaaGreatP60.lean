/- Facts. -/
import Derived.Test.YtegdaafmaookjaaGreatP19
namespace Go.Proofs.YtegdaafmaookjaaGreat
open List (length_append length_map length_take take_of_length_le)
open Go.Proofs.Tryz
set_option maxRecDepth 100000
set_option maxHeartbeats 25600000
open Go.RowKit Go.PlainAid Go.Sort
theorem Tryz.infoES:(prog.info? 9).map (fun i=>(i.zero,i.size,i.bytes))=some (some (.string {data:=#[]}),1,16):=by kernel_rfl
def PB (W1 W:World) (r:Rw) (l:List BA0):Prop:=Bw W1 W/\OwnR W W1.heap.size 9 1 r l.length (l.map .string)
variable {w:World} {W:Rw} {C:List BA0} {g:Nat} {S:Sv} {q:Md}
theorem PB.below {z q:World} (h:PB w z W C) (A:Bw z q):PB w q W C:=
 ⟨h.1.trans (A.mono h.1.size),h.2.keep fun k H=>A.block k (h.2.typed H).2.1⟩
theorem PB.nil (W:World):PB W (W.alloc (.cells #[] 9 (0,0))) ⟨some ⟨W.heap.size,0,none⟩,0⟩ []:=
 ⟨bA0,World.ownsRow_lit W #[] 0 (Nat.le_refl _) (by unfold maxLen;omega) rfl⟩
theorem PB.app {s w':World} {z:Rw} {x:BA0} (h:PB w s W C) (H:OwnR w' w.heap.size 9 1 z (C.length+1) (C.map .string++[.string x])) (I:s.grownBy w' W.blk):PB w w' z (C++[x]):=by
 refine⟨h.1.grown I h.1.size fun k A=>(h.2.typed A).1,?_⟩;rw[length_append,List.map_append];exact H
theorem PB.row {z:World} (h:PB w z W C):RowS z W.a C:=RowS.of h.2
theorem zxl {l:List Sm} {x:Sm} (h:l[g]? =some x):stN (l.take (g+1))=if zcd x then stN (l.take g)++[x.name] else stN (l.take g):=by
 rw[zd0 h,stN,stN,List.filter_append];cases q:zcd x<;>simp[q]
def zxm (w:World) (l:List BA0) (e:Ending) (w':World):Prop:=∃r:Rw,e= .returned (.slice r.a l.length r.cap)/\PB w w' r l
theorem zxn (V:Sv) (m:Md) (w:World) (hr:RowAt w V.st.a smL 3 m.st) (hl:m.st.length<=10000):
  Calls prog 71 #[zo V m] w (zxm w (stN m.st)):=by
 obtain⟨a,ha⟩: ∃a,V.st.a=a:=⟨_,rfl⟩;unfold zo;rw[ha] at hr ⊢;have aa:=zc (hN0 w (.cells #[.slice V.rq.a m.rq.length V.rq.cap,.slice V.im.a m.im.length V.im.cap,.slice V.ep.a m.ep.length V.ep.cap,.slice a m.st.length V.st.cap,.slice V.ex.a m.ex.length V.ex.cap] 59));have X:Hid (Bw w (w.alloc (.cells #[.slice V.rq.a m.rq.length V.rq.cap,.slice V.im.a m.im.length V.im.cap,.slice V.ep.a m.ep.length V.ep.cap,.slice a m.st.length V.st.cap,.slice V.ex.a m.ex.length V.ex.cap] 59))):=bA0;have HR:=zc (hr.later X.o);have HS:=zc (zh w (.cells #[.slice V.rq.a m.rq.length V.rq.cap,.slice V.im.a m.im.length V.im.cap,.slice V.ep.a m.ep.length V.ep.cap,.slice a m.st.length V.st.cap,.slice V.ex.a m.ex.length V.ex.cap] 59));have O:=zc (PB.nil (w.alloc (.cells #[.slice V.rq.a m.rq.length V.rq.cap,.slice V.im.a m.im.length V.im.cap,.slice V.ep.a m.ep.length V.ep.cap,.slice a m.st.length V.st.cap,.slice V.ex.a m.ex.length V.ex.cap] 59)));clear hr ha;obtain⟨i0,hi,af,ah,aj⟩:=info_parts Tryz.infoES;go_enter func71,ntmps71;go_upto_region 2 with fail;obtain⟨J,ag⟩: ∃J,J=w.alloc (.cells #[.slice V.rq.a m.rq.length V.rq.cap,.slice V.im.a m.im.length V.im.cap,.slice V.ep.a m.ep.length V.ep.cap,.slice a m.st.length V.st.cap,.slice V.ex.a m.ex.length V.ex.cap] 59):=⟨_,rfl⟩;rw[<-ag] at aa X HR HS O ⊢;refine zp (R:=fun W=>PB J W ⟨some ⟨w.heap.size+1,0,none⟩,0⟩ []) (by rw[<-HS.o];exact O.o) ?_;clear ag O;intro W1 hp;have aq:=zc hp;clear hp;go_wp2;go_loopg [3,4] m.st.length (fun k o i wr=>∃(j:Nat) (r:Rw),o= .slice r.a (stN (m.st.take j)).length r.cap/\i= .int .i64 j/\j+k=m.st.length/\PB J wr r (stN (m.st.take j)))
 case atStart=>exact⟨0,_,rfl,rfl,by omega,aq.o⟩
 case round=>
  obtain⟨j,r,rfl,rfl,hj,hp⟩:=hrel;have O:=zc hp;clear hp;obtain⟨c0,c1,c2,c3,c4,cf⟩:=zl ((O.o.1.block w.heap.size (by rw[HS.o];omega)).trans aa.o);by_cases ao:j<m.st.length
  ·have al:(j:Int)<(m.st.length:Int):=by omega
   obtain⟨x,hx⟩: ∃x,m.st[j]? =some x:=⟨_,gE ao⟩;obtain⟨b,au,rfl,hc⟩:=(HR.o.later O.o.1).get hx;have HX:=zc hx;have d0:=hc 0 _ rfl;have d1:=hc 1 _ rfl;have d2:=hc 2 _ rfl;simp only[Nat.add_zero] at d0;clear hc hx;obtain⟨n,hn⟩: ∃n,n=(stN (m.st.take j)).length:=⟨_,rfl⟩;have HN:=zc hn;have av:n<=j:=by rw[hn,stN,length_map];exact Nat.le_trans (List.length_filter_le _ _) (by rw[length_take];omega)
   rw[<-hn];clear hn;go_upto_region 6 with fail;refine zp (R:=fun W=>PB J W r (stN (m.st.take j))/\W.heap[wr.heap.size]? =some (.cells (smL x).toArray 108 (0,0))) ?_ ?_
   ·exact⟨O.o.below (bA0),hN0 wr _⟩
   obtain⟨bs,ad⟩: ∃bs,bs=wr.heap.size:=⟨_,rfl⟩;rw[<-ad];clear c0 c1 c2 c3 c4 cf d0 d1 d2 ad O;rintro W2 ⟨ai,Z⟩;have N:=zc ai;obtain⟨e0,e1,e2,ef⟩:=zg Z;have ar:=(aLt Z);have ab:=zc (zxl HX.o);obtain⟨j1,ae⟩: ∃j1,j1=j+1:=⟨_,rfl⟩;have ej:(j:Int)+1=(j1:Int):=by omega
   have HJ:=zc ae;clear ai Z ae;have no: ∀(h:zcd x=false),∃(U:Nat) (q:Rw),Value.slice r.a n r.cap= .slice q.a (stN (m.st.take U)).length q.cap/\Value.int .i64 (j1:Int)= .int .i64 (U:Int)/\U+(gk-1)=m.st.length/\PB J W2 q (stN (m.st.take U)):=fun h=>by
    have e:=ab.o;rw[h,if_neg Bool.false_ne_true] at e;refine⟨j1,r,?_,rfl,by have:=HJ.o;omega,?_⟩
    ·rw[HN.o,HJ.o,e]
    ·rw[HJ.o,e];exact N.o
   have Y:=zc no;have H:Hid (zcd x=true->∀(q:Rw) (I:World),PB J I q (stN (m.st.take j)++[x.name])->∃(U:Nat) (ac:Rw),Value.slice q.a (n+1) q.cap= .slice ac.a (stN (m.st.take U)).length ac.cap/\Value.int .i64 (j1:Int)= .int .i64 (U:Int)/\U+(gk-1)=m.st.length/\PB J I ac (stN (m.st.take U))):=fun h q I an=>by
    have e:=ab.o;rw[h,if_pos rfl] at e;refine⟨j1,q,?_,rfl,by have:=HJ.o;omega,?_⟩
    ·rw[HN.o,HJ.o,e,length_append];rfl
    ·rw[HJ.o,e];exact an
   have ak:Hid (∀o,OwnR (W2.alloc o) J.heap.size 9 1 r n ((stN (m.st.take j)).map .string)):=fun o=>by
    rw[HN.o];exact (N.o.below ((Below.refl _ _).alloc (Nat.le_refl _) o)).2
   have SZ:=zc N.o.1.size;have am:Hid (∀(q:Rw) (I:World) (o:Obj),OwnR I J.heap.size 9 1 q (n+1) ((stN (m.st.take j)).map .string++[.string x.name])->(W2.alloc o).grownBy I r.blk->PB J I q (stN (m.st.take j)++[x.name])):=fun q I o hr hg=>by
    rw[HN.o] at hr;exact (N.o.below ((Below.refl _ _).alloc (Nat.le_refl _) o)).app hr hg
   clear no ab HN N HR X aa;cases k1:(x.kind==1) with
   |true=>
    cases k3:(x.name.toList==dN) with
    |true=>
     have h:zcd x=false:=by rw[zcd,k1,k3];rfl
     have A:=zc (Y.o h);clear Y H h;go_wp2;go_roundg (gk-1)
     case rel=>exact A.o
     case measure=>omega
    |false=>
     have h:zcd x=true:=by rw[zcd,k1,k3];rfl
     have A:=zc (H.o h);clear Y H h;go_wp2_with (first|(at_builtin;refine zbm _ rfl _ _ 22 rfl J.heap.size 9 i0 _ 1 16 underlying22 hi af ah aj rfl (by decide) (by decide) r n _ rfl (ak.o _) W2.heap.size [.string x.name] rfl (hN0 _ _) rfl (zdm _) (by omega) (by rw[zh];have:=SZ.o;omega) ?_;intro q I K L _));have M:=zc (A.o q I (am.o q I _ K L));clear K L;go_wp2;go_roundg (gk-1)
     case rel=>exact M.o
     case measure=>omega
   |false=>
    cases k2:(x.kind==2) with
    |false=>
     have h:zcd x=false:=by rw[zcd,k1,k2];rfl
     have A:=zc (Y.o h);clear Y H h;go_wp2;go_roundg (gk-1)
     case rel=>exact A.o
     case measure=>omega
    |true=>
     cases k3:(x.name.toList==dN) with
     |true=>
      have h:zcd x=false:=by rw[zcd,k1,k2,k3];rfl
      have A:=zc (Y.o h);clear Y H h;go_wp2;go_roundg (gk-1)
      case rel=>exact A.o
      case measure=>omega
     |false=>
      have h:zcd x=true:=by rw[zcd,k1,k2,k3];rfl
      have A:=zc (H.o h);clear Y H h;go_wp2_with (first|(at_builtin;refine zbm _ rfl _ _ 22 rfl J.heap.size 9 i0 _ 1 16 underlying22 hi af ah aj rfl (by decide) (by decide) r n _ rfl (ak.o _) W2.heap.size [.string x.name] rfl (hN0 _ _) rfl (zdm _) (by omega) (by rw[zh];have:=SZ.o;omega) ?_;intro q I K L _));have M:=zc (A.o q I (am.o q I _ K L));clear K L;go_wp2;go_roundg (gk-1)
      case rel=>exact M.o
      case measure=>omega
  ·have al: ¬(j:Int)<(m.st.length:Int):=by omega
   have ap:m.st.take j=m.st:=take_of_length_le (by omega);rw[ap] at O ⊢;go_wp2;go_ret;exact⟨r,rfl,X.o.trans (O.o.1.mono (by rw[HS.o];omega)),O.o.2.low (by rw[HS.o];omega)⟩
theorem zxo {l:List Im} {x:Im} (h:l[g]? =some x):imN (l.take (g+1))=imN (l.take g)++[x.loc]:=by
 rw[zd0 h,imN,imN,List.map_append];rfl
theorem z0x (l:List Sm):(stN l).length<=l.length:=by
 rw[stN,length_map];exact List.length_filter_le _ _
theorem zj8 (l:List BA0) (x:BA0):(l++[x]).length=l.length+1:=by simp
theorem OwnR.fits {size n:Nat} {e:TypeId} {xs:List Value} (h:OwnR w g e size W n xs):n<=W.cap:=by
 obtain⟨_,⟨_,H⟩|⟨z,A,q,I,_,_,H,_⟩⟩:=h
 ·omega
 ·simp only[vI] at I;omega
theorem zxp {l:List Ep} {x:Ep} (h:l[g]? =some x):epN (l.take (g+1))=if x.kind==3 then epN (l.take g) else epN (l.take g)++[x.name]:=by
 rw[zd0 h,epN,epN,List.filter_append];cases q:(x.kind==3)<;>simp[q]
theorem znD (l:List Ep):(epN l).length<=l.length:=by
 rw[epN,length_map];exact List.length_filter_le _ _
theorem zgA {α:Type} {f:α->Bool} {l:List α} {x:α} (h:l[g]? =some x):(l.take (g+1)).any f=((l.take g).any f||f x):=by
 rw[zd0 h,List.any_append];simp
def MdBox (V:Sv) (m:Md) (b:Nat) (W:World):Prop:=W.heap[b]? =some (.cells #[.slice V.rq.a m.rq.length V.rq.cap,.slice V.im.a m.im.length V.im.cap,.slice V.ep.a m.ep.length V.ep.cap,.slice V.st.a m.st.length V.st.cap,.slice V.ex.a m.ex.length V.ex.cap] 59 (0,0))/\RowAt W V.im.a imL 3 m.im/\RowAt W V.ep.a epL 4 m.ep/\RowAt W V.st.a smL 3 m.st/\RowAt W V.ex.a exL 6 m.ex
theorem MdBox.later {b:Nat} {s:World} (h:MdBox S q b w) (z:Bw w s):MdBox S q b s:=
 ⟨(z.block b (aLt h.1)).trans h.1,h.2.1.later z,h.2.2.1.later z,h.2.2.2.1.later z,h.2.2.2.2.later z⟩
theorem MdBox.lt (h:MdBox S q g w):g<w.heap.size:=(aLt h.1)
theorem zxq (V:Sv) (m:Md) (bh:Bool) (w:World) (hI:RowAt w V.im.a imL 3 m.im) (hE:RowAt w V.ep.a epL 4 m.ep) (hS:RowAt w V.st.a smL 3 m.st) (hX:RowAt w V.ex.a exL 6 m.ex) (lI:m.im.length<=10000) (lE:m.ep.length<=10000) (lS:m.st.length<=10000) (lX:m.ex.length<=10000):
  Calls prog 41 #[zo V m,.bool bh] w fun e w'=>e= .returned (.int .i64 (zax m))/\Bw w w':=by
 have ap:Hid (Bw w (w.alloc (.cells (bxA V m) 59))):=bA0;have aF:Hid (MdBox V m w.heap.size (w.alloc (.cells (bxA V m) 59))):=⟨hN0 w _,hI.later ap.o,hE.later ap.o,hS.later ap.o,hX.later ap.o⟩;have HS:=zc (zh w (.cells (bxA V m) 59));clear hI hE hS hX;obtain⟨i0,hi,an,au,aq⟩:=info_parts Tryz.infoES;unfold zo;go_enter func41,ntmps41;go_wp2_with fail;refine (zxn V m _ aF.o.2.2.2.1 lS).mono ?_;obtain⟨W0,a8⟩: ∃W0,W0=w.alloc (.cells (bxA V m) 59):=⟨_,rfl⟩;rw[<-a8] at aF ap HS ⊢;clear a8;rintro e W1 ⟨r1,rfl,a9⟩;have bb:=zc a9;clear a9;go_wp2;go_loopg [5,6] m.im.length (fun k o i wr=>∃(j:Nat) (r:Rw),o= .slice r.a (stN m.st++imN (m.im.take j)).length r.cap/\i= .int .i64 j/\j+k=m.im.length/\PB W0 wr r (stN m.st++imN (m.im.take j)))
 case atStart=>exact⟨0,r1,by simp[imN],rfl,by omega,by rw[List.take_zero];show PB W0 W1 r1 (stN m.st++[]);rw[List.append_nil];exact bb.o⟩
 case round=>
  clear bb;obtain⟨j,r,rfl,rfl,hj,hp⟩:=hrel;have HP:=zc hp;clear hp;have BX:=zc (aF.o.later HP.o.1);obtain⟨c0,c1,c2,c3,c4,cf⟩:=zl BX.o.1;by_cases aw:j<m.im.length
  ·have ai:(j:Int)<(m.im.length:Int):=by omega
   obtain⟨x,hx⟩: ∃x,m.im[j]? =some x:=⟨_,gE aw⟩;obtain⟨b,aP,ha,hc⟩:=BX.o.2.1.get hx;have a6:=zc (zxo hx);have d0:=hc 2 _ rfl;rw[ha] at c1;clear hc hx ha;obtain⟨n,hn⟩: ∃n,n=(stN m.st++imN (m.im.take j)).length:=⟨_,rfl⟩;have HN:=zc hn;have bc:n<=20000:=by rw[hn,length_append,imN,length_map,length_take];have:=z0x m.st;omega
   rw[<-hn];clear hn;have N:Hid (∀o,OwnR (wr.alloc o) W0.heap.size 9 1 r n ((stN m.st++imN (m.im.take j)).map .string)):=fun o=>by
    rw[HN.o];exact (HP.o.below ((Below.refl _ _).alloc (Nat.le_refl _) o)).2
   have SZ:=zc HP.o.1.size;obtain⟨j1,Y⟩: ∃j1,j1=j+1:=⟨_,rfl⟩;have ej:(j:Int)+1=(j1:Int):=by omega
   have HJ:=zc Y;clear Y;go_wp2_with (first|(at_builtin;refine zbm _ rfl _ _ 22 rfl W0.heap.size 9 i0 _ 1 16 underlying22 hi an au aq rfl (by decide) (by decide) r n _ rfl (N.o _) wr.heap.size [.string x.loc] rfl (hN0 _ _) rfl (zdm _) (by omega) (by rw[zh];have:=SZ.o;omega) ?_;intro O w' J H _));have h:Hid (∃(j':Nat) (aX:Rw),Value.slice O.a (n+1) O.cap= .slice aX.a (stN m.st++imN (m.im.take j')).length aX.cap/\Value.int .i64 (j1:Int)= .int .i64 (j':Int)/\j'+(gk-1)=m.im.length/\PB W0 w' aX (stN m.st++imN (m.im.take j'))):=by
    rw[HN.o] at J;have be:=(HP.o.below (bA0)).app J H;refine⟨j1,O,?_,rfl,by have:=HJ.o;omega,?_⟩
    ·rw[HN.o,HJ.o,a6.o,<-List.append_assoc,zj8]
    ·rw[HJ.o,a6.o,<-List.append_assoc];exact be
   clear J H N HN HP c0 c1 c2 c3 c4 cf d0;go_wp2;go_roundg (gk-1)
   case rel=>exact h.o
   case measure=>omega
  ·have ai: ¬(j:Int)<(m.im.length:Int):=by omega
   have ah:m.im.take j=m.im:=take_of_length_le (by omega);rw[ah] at HP ⊢;obtain⟨L,hL⟩: ∃L,L=stN m.st++imN m.im:=⟨_,rfl⟩;have aR:Hid (zbY m=L):=hL.symm;rw[<-hL] at HP ⊢;have bg:L.length<=20000:=by rw[hL,length_append,imN,length_map];have:=z0x m.st;omega
   obtain⟨n,hn⟩: ∃n,n=L.length:=⟨_,rfl⟩;have HN:=zc hn;have bk:n<=20000:=by omega
   rw[<-hn];clear hL hn bg ah hj;go_wp2_with fail;refine (znC r.a r.cap n L _ HN.o HP.o.row (by omega) (by rw[HN.o];exact HP.o.2.fits)).mono ?_;rintro e W2 ⟨rfl,aQ⟩;have aE:=zc (HP.o.below aQ);have al:=zc (BX.o.later aQ);clear aQ HP BX c0 c1 c2 c3 c4 cf;cases aV:twB L with
   |true=>
    have HV:Hid (zax m=1):=by show zax m=1;rw[zax,aR.o,aV];rfl
    go_wp2;go_ret;exact⟨zbP HV.o.symm,ap.o.trans (aE.o.1.mono (by rw[HS.o];omega))⟩
   |false=>
    have a3:=zc aV;have aW:=zc (ap.o.trans (aE.o.1.mono (by rw[HS.o];omega)));have ay:=zc aE.o.row;have PN:=zc (PB.nil W2);clear aV aE ap aF;go_upto_region 9 with fail;refine zp (R:=fun W=>PB W2 W ⟨some ⟨W2.heap.size,0,none⟩,0⟩ []) PN.o ?_;clear PN;intro W3 aZ;have a5:=zc aZ;clear aZ;go_wp2;go_loopg [7,8,9,10] m.ep.length (fun k o u s i wr=>∃(j:Nat) (r2:Rw),o= .slice r2.a (epN (m.ep.take j)).length r2.cap/\u= .bool (unB L (m.ep.take j))/\s= .bool (seB m.im (m.ep.take j))/\i= .int .i64 j/\j+k=m.ep.length/\PB W2 wr r2 (epN (m.ep.take j)))
    case atStart=>exact⟨0,_,rfl,rfl,rfl,rfl,by omega,a5.o⟩
    case round=>
     clear a5;obtain⟨j,r2,rfl,rfl,rfl,rfl,hj,hp⟩:=hrel;have HP:=zc hp;clear hp;have BX:=zc (al.o.later HP.o.1);obtain⟨c0,c1,c2,c3,c4,cf⟩:=zl BX.o.1;by_cases aw:j<m.ep.length
     ·have ai:(j:Int)<(m.ep.length:Int):=by omega
      obtain⟨x,hx⟩: ∃x,m.ep[j]? =some x:=⟨_,gE aw⟩;obtain⟨b,aP,ha,hc⟩:=BX.o.2.2.1.get hx;have KN:=zc (zxp hx);have KU:Hid (unB L (m.ep.take (j+1))=(unB L (m.ep.take j)||(x.kind==1&&(!(x.loc.toList==dN)&& !inL L x.loc)))):=zgA hx;have KS:Hid (seB m.im (m.ep.take (j+1))=(seB m.im (m.ep.take j)||(x.kind==1&&spB m.im x.loc))):=zgA hx;have d0:=hc 0 _ rfl;have d1:=hc 1 _ rfl;have d2:=hc 2 _ rfl;have d3:=hc 3 _ rfl;simp only[Nat.add_zero] at d0;rw[ha] at c2;clear hc hx;obtain⟨n2,X⟩: ∃n2,n2=(epN (m.ep.take j)).length:=⟨_,rfl⟩;have U:=zc X;have bc:n2<=20000:=by rw[X];have:=znD (m.ep.take j);rw[length_take] at this;omega
      obtain⟨u,hu⟩: ∃u,u=unB L (m.ep.take j):=⟨_,rfl⟩;obtain⟨s,hs⟩: ∃s,s=seB m.im (m.ep.take j):=⟨_,rfl⟩;obtain⟨j1,Y⟩: ∃j1,j1=j+1:=⟨_,rfl⟩;have ej:(j:Int)+1=(j1:Int):=by omega
      rw[<-X,<-hu,<-hs];rw[<-hu] at KU;rw[<-hs] at KS
      have A:Hid (∀(O:Rw) (n':Nat) (u' s':Bool) (w':World),n'=(epN (m.ep.take (j+1))).length->u'=unB L (m.ep.take (j+1))->s'=seB m.im (m.ep.take (j+1))->PB W2 w' O (epN (m.ep.take (j+1)))->
        ∃(j':Nat) (r2:Rw),Value.slice O.a n' O.cap= .slice r2.a (epN (m.ep.take j')).length r2.cap/\Value.bool u'= .bool (unB L (m.ep.take j'))/\Value.bool s'= .bool (seB m.im (m.ep.take j'))/\Value.int .i64 (j1:Int)= .int .i64 (j':Int)/\j'+(gk-1)=m.ep.length/\PB W2 w' r2 (epN (m.ep.take j'))):=fun O n' u' s' w' h1 h2 h3 h4=>by
       refine⟨j1,O,?_,?_,?_,rfl,by omega,?_⟩
       ·rw[Y,h1]
       ·rw[Y,h2]
       ·rw[Y,h3]
       ·rw[Y];exact h4
      clear X hu hs Y;go_upto_region 15 with fail;refine zp (R:=fun W=>PB W2 W r2 (epN (m.ep.take j))/\W.heap[wr.heap.size]? =some (.cells (epL x).toArray 103 (0,0))) ?_ ?_
      ·exact⟨HP.o.below (bA0),hN0 wr _⟩
      obtain⟨bs,az⟩: ∃bs,bs=wr.heap.size:=⟨_,rfl⟩;rw[<-az];have ax:Hid (∀k,r2.blk=some k->k≠bs):=fun k hk e=>by have:=(HP.o.2.typed hk).2.1;omega
      clear c0 c1 c2 c3 c4 cf d0 d1 d2 d3 az HP BX ha;rintro W4 ⟨a1,ak⟩;have ad:=zc a1;have aa:=zc ak;obtain⟨e0,e1,e2,e3,ef⟩:=zbW ak;have af:=(aLt ak);clear a1 ak;cases k3:(x.kind==3) with
      |true=>
       have k1:(x.kind==1)=false:=by rw[eq_of_beq k3];rfl
       have h:=zc (A.o r2 n2 u s W4 (by rw[KN.o,k3,if_pos rfl];exact U.o) (by rw[KU.o,k1];simp) (by rw[KS.o,k1];simp) (by rw[KN.o,k3,if_pos rfl];exact ad.o));clear A KN KU KS U ad aa;go_wp2;go_roundg (gk-1)
       case rel=>exact h.o
       case measure=>omega
      |false=>
       have N:Hid (∀o,OwnR (W4.alloc o) W2.heap.size 9 1 r2 n2 ((epN (m.ep.take j)).map .string)):=fun o=>by
        rw[U.o];exact (ad.o.below ((Below.refl _ _).alloc (Nat.le_refl _) o)).2
       have SZ:=zc ad.o.1.size;cases k1:(x.kind==1) with
       |false=>
        go_wp2_with (first|(at_builtin;refine zbm _ rfl _ _ 22 rfl W2.heap.size 9 i0 _ 1 16 underlying22 hi an au aq rfl (by decide) (by decide) r2 n2 _ rfl (N.o _) W4.heap.size [.string x.name] rfl (hN0 _ _) rfl (zdm _) (by omega) (by rw[zh];have:=SZ.o;omega) ?_;intro O W5 J H _;have XB:Hid (W5.heap[bs]? =some (.cells (epL x).toArray 103 (0,0))):=(H.block bs (by rw[zh];omega) (fun e=>ax.o bs e.symm rfl)).trans ((heap_alloc_old _ _ af).trans aa.o);clear e0 e1 e2 e3 ef;obtain⟨e0,e1,e2,e3,ef⟩:=zbW XB.o));rw[U.o] at J;have I:Hid (PB W2 W5 O (epN (m.ep.take (j+1)))):=by show PB _ _ _ _;rw[KN.o,k3,if_neg Bool.false_ne_true];exact (ad.o.below (bA0)).app J H
        have Z:Hid (n2+1=(epN (m.ep.take (j+1))).length):=by show _=_;rw[KN.o,k3,if_neg Bool.false_ne_true,zj8,U.o]
        have h:=zc (A.o O (n2+1) u s W5 Z.o (by rw[KU.o,k1];simp) (by rw[KS.o,k1];simp) I.o);clear A KN KU KS U ad aa I Z N J H;go_wp2;go_roundg (gk-1)
        case rel=>exact h.o
        case measure=>omega
       |true=>
        have ag:Hid (∀(O:Rw) (w':World) (o:Obj),OwnR w' W2.heap.size 9 1 O (n2+1) ((epN (m.ep.take j)).map .string++[.string x.name])->(W4.alloc o).grownBy w' r2.blk->PB W2 w' O (epN (m.ep.take (j+1)))):=fun O w' o J H=>by
         rw[U.o] at J;rw[KN.o,k3,if_neg Bool.false_ne_true];exact (ad.o.below (bA0)).app J H
        have Z:Hid (n2+1=(epN (m.ep.take (j+1))).length):=by show _=_;rw[KN.o,k3,if_neg Bool.false_ne_true,zj8,U.o]
        cases u with
        |true=>
         cases s with
         |true=>
          go_wp2_with (first|(at_builtin;refine zbm _ rfl _ _ 22 rfl W2.heap.size 9 i0 _ 1 16 underlying22 hi an au aq rfl (by decide) (by decide) r2 n2 _ rfl (N.o _) W4.heap.size [.string x.name] rfl (hN0 _ _) rfl (zdm _) (by omega) (by rw[zh];have:=SZ.o;omega) ?_;intro O W5 J H _;have XB:Hid (W5.heap[bs]? =some (.cells (epL x).toArray 103 (0,0))):=(H.block bs (by rw[zh];omega) (fun e=>ax.o bs e.symm rfl)).trans ((heap_alloc_old _ _ af).trans aa.o);clear e0 e1 e2 e3 ef;obtain⟨e0,e1,e2,e3,ef⟩:=zbW XB.o;have I:=zc (ag.o O W5 _ J H);have M:=zc (al.o.later I.o.1);obtain⟨c0,c1,c2,c3,c4,cf⟩:=zl M.o.1;have ab:=zc (ay.o.later I.o.1);clear J H));have h:=zc (A.o O (n2+1) (true) (true) W5 Z.o (by rw[KU.o,k1];simp) (by rw[KS.o,k1];simp) I.o);clear A KN KU KS U ad aa I Z N ag M ab c0 c1 c2 c3 c4 cf e0 e1 e2 e3 ef;go_wp2;go_roundg (gk-1)
          case rel=>exact h.o
          case measure=>omega
         |false=>
          go_wp2_with (first|(at_builtin;refine zbm _ rfl _ _ 22 rfl W2.heap.size 9 i0 _ 1 16 underlying22 hi an au aq rfl (by decide) (by decide) r2 n2 _ rfl (N.o _) W4.heap.size [.string x.name] rfl (hN0 _ _) rfl (zdm _) (by omega) (by rw[zh];have:=SZ.o;omega) ?_;intro O W5 J H _;have XB:Hid (W5.heap[bs]? =some (.cells (epL x).toArray 103 (0,0))):=(H.block bs (by rw[zh];omega) (fun e=>ax.o bs e.symm rfl)).trans ((heap_alloc_old _ _ af).trans aa.o);clear e0 e1 e2 e3 ef;obtain⟨e0,e1,e2,e3,ef⟩:=zbW XB.o;have I:=zc (ag.o O W5 _ J H);have M:=zc (al.o.later I.o.1);obtain⟨c0,c1,c2,c3,c4,cf⟩:=zl M.o.1;have ab:=zc (ay.o.later I.o.1);clear J H)|(go_at_call 73;refine (ze1 V m _ _ M.o.2.1 (by omega)).mono ?_;rintro e W6 ⟨rfl,K⟩;have ac:=zc K;clear K));have h:=zc (A.o O (n2+1) (true) (spB m.im x.loc) W6 Z.o (by rw[KU.o,k1];simp) (by rw[KS.o,k1];simp) (I.o.below ac.o));clear A KN KU KS U ad aa I Z N ag M ab c0 c1 c2 c3 c4 cf e0 e1 e2 e3 ef;go_wp2;go_roundg (gk-1)
          case rel=>exact h.o
          case measure=>omega
        |false=>
         cases kd:(x.loc.toList==dN) with
         |true=>
          cases s with
          |true=>
           go_wp2_with (first|(at_builtin;refine zbm _ rfl _ _ 22 rfl W2.heap.size 9 i0 _ 1 16 underlying22 hi an au aq rfl (by decide) (by decide) r2 n2 _ rfl (N.o _) W4.heap.size [.string x.name] rfl (hN0 _ _) rfl (zdm _) (by omega) (by rw[zh];have:=SZ.o;omega) ?_;intro O W5 J H _;have XB:Hid (W5.heap[bs]? =some (.cells (epL x).toArray 103 (0,0))):=(H.block bs (by rw[zh];omega) (fun e=>ax.o bs e.symm rfl)).trans ((heap_alloc_old _ _ af).trans aa.o);clear e0 e1 e2 e3 ef;obtain⟨e0,e1,e2,e3,ef⟩:=zbW XB.o;have I:=zc (ag.o O W5 _ J H);have M:=zc (al.o.later I.o.1);obtain⟨c0,c1,c2,c3,c4,cf⟩:=zl M.o.1;have ab:=zc (ay.o.later I.o.1);clear J H));have h:=zc (A.o O (n2+1) (false) (true) W5 Z.o (by rw[KU.o,k1,kd];simp) (by rw[KS.o,k1];simp) I.o);clear A KN KU KS U ad aa I Z N ag M ab c0 c1 c2 c3 c4 cf e0 e1 e2 e3 ef;go_wp2;go_roundg (gk-1)
           case rel=>exact h.o
           case measure=>omega
          |false=>
           go_wp2_with (first|(at_builtin;refine zbm _ rfl _ _ 22 rfl W2.heap.size 9 i0 _ 1 16 underlying22 hi an au aq rfl (by decide) (by decide) r2 n2 _ rfl (N.o _) W4.heap.size [.string x.name] rfl (hN0 _ _) rfl (zdm _) (by omega) (by rw[zh];have:=SZ.o;omega) ?_;intro O W5 J H _;have XB:Hid (W5.heap[bs]? =some (.cells (epL x).toArray 103 (0,0))):=(H.block bs (by rw[zh];omega) (fun e=>ax.o bs e.symm rfl)).trans ((heap_alloc_old _ _ af).trans aa.o);clear e0 e1 e2 e3 ef;obtain⟨e0,e1,e2,e3,ef⟩:=zbW XB.o;have I:=zc (ag.o O W5 _ J H);have M:=zc (al.o.later I.o.1);obtain⟨c0,c1,c2,c3,c4,cf⟩:=zl M.o.1;have ab:=zc (ay.o.later I.o.1);clear J H)|(go_at_call 73;refine (ze1 V m _ _ M.o.2.1 (by omega)).mono ?_;rintro e W6 ⟨rfl,K⟩;have ac:=zc K;clear K));have h:=zc (A.o O (n2+1) (false) (spB m.im x.loc) W6 Z.o (by rw[KU.o,k1,kd];simp) (by rw[KS.o,k1];simp) (I.o.below ac.o));clear A KN KU KS U ad aa I Z N ag M ab c0 c1 c2 c3 c4 cf e0 e1 e2 e3 ef;go_wp2;go_roundg (gk-1)
           case rel=>exact h.o
           case measure=>omega
         |false=>
          cases s with
          |true=>
           go_wp2_with (first|(at_builtin;refine zbm _ rfl _ _ 22 rfl W2.heap.size 9 i0 _ 1 16 underlying22 hi an au aq rfl (by decide) (by decide) r2 n2 _ rfl (N.o _) W4.heap.size [.string x.name] rfl (hN0 _ _) rfl (zdm _) (by omega) (by rw[zh];have:=SZ.o;omega) ?_;intro O W5 J H _;have XB:Hid (W5.heap[bs]? =some (.cells (epL x).toArray 103 (0,0))):=(H.block bs (by rw[zh];omega) (fun e=>ax.o bs e.symm rfl)).trans ((heap_alloc_old _ _ af).trans aa.o);clear e0 e1 e2 e3 ef;obtain⟨e0,e1,e2,e3,ef⟩:=zbW XB.o;have I:=zc (ag.o O W5 _ J H);have M:=zc (al.o.later I.o.1);obtain⟨c0,c1,c2,c3,c4,cf⟩:=zl M.o.1;have ab:=zc (ay.o.later I.o.1);clear J H)|(go_at_call 39;refine (zg9 r.a r.cap n L _ _ HN.o ab.o (by omega)).mono ?_;rintro e w' ⟨rfl,rfl⟩));have h:=zc (A.o O (n2+1) (!inL L x.loc) (true) w' Z.o (by rw[KU.o,k1,kd];simp) (by rw[KS.o,k1];simp) I.o);clear A KN KU KS U ad aa I Z N ag M ab c0 c1 c2 c3 c4 cf e0 e1 e2 e3 ef;go_wp2;go_roundg (gk-1)
           case rel=>exact h.o
           case measure=>omega
          |false=>
           go_wp2_with (first|(at_builtin;refine zbm _ rfl _ _ 22 rfl W2.heap.size 9 i0 _ 1 16 underlying22 hi an au aq rfl (by decide) (by decide) r2 n2 _ rfl (N.o _) W4.heap.size [.string x.name] rfl (hN0 _ _) rfl (zdm _) (by omega) (by rw[zh];have:=SZ.o;omega) ?_;intro O W5 J H _;have XB:Hid (W5.heap[bs]? =some (.cells (epL x).toArray 103 (0,0))):=(H.block bs (by rw[zh];omega) (fun e=>ax.o bs e.symm rfl)).trans ((heap_alloc_old _ _ af).trans aa.o);clear e0 e1 e2 e3 ef;obtain⟨e0,e1,e2,e3,ef⟩:=zbW XB.o;have I:=zc (ag.o O W5 _ J H);have M:=zc (al.o.later I.o.1);obtain⟨c0,c1,c2,c3,c4,cf⟩:=zl M.o.1;have ab:=zc (ay.o.later I.o.1);clear J H)|(go_at_call 39;refine (zg9 r.a r.cap n L _ _ HN.o ab.o (by omega)).mono ?_;rintro e w' ⟨rfl,rfl⟩)|(go_at_call 73;refine (ze1 V m _ _ M.o.2.1 (by omega)).mono ?_;rintro e W6 ⟨rfl,K⟩;have ac:=zc K;clear K));have h:=zc (A.o O (n2+1) (!inL L x.loc) (spB m.im x.loc) W6 Z.o (by rw[KU.o,k1,kd];simp) (by rw[KS.o,k1];simp) (I.o.below ac.o));clear A KN KU KS U ad aa I Z N ag M ab c0 c1 c2 c3 c4 cf e0 e1 e2 e3 ef;go_wp2;go_roundg (gk-1)
           case rel=>exact h.o
           case measure=>omega
     ·have ai: ¬(j:Int)<(m.ep.length:Int):=by omega
      have ah:m.ep.take j=m.ep:=take_of_length_le (by omega);rw[ah] at HP ⊢;have bi:=zc (HP.o.2);have aS:=zc (aW.o.trans (HP.o.1.mono aW.o.size));obtain⟨n2,X⟩: ∃n2,n2=(epN m.ep).length:=⟨_,rfl⟩;have U:=zc X;have bc:n2<=20000:=by rw[X];have:=znD m.ep;omega
      obtain⟨u,hu⟩: ∃u,u=unB L m.ep:=⟨_,rfl⟩;have HU:=zc hu;obtain⟨s0,aN⟩: ∃s,s=seB m.im m.ep:=⟨_,rfl⟩;have a0:=zc aN;have aJ:=zc HP.o.row;have a7:Hid (n2<=r2.cap):=by rw[X];exact HP.o.2.fits
      rw[<-X,<-hu,<-aN];clear X hu aN ah HP bi ay al aW HN;go_wp2;go_loopg [9,12,13] m.ex.length (fun k s me i aK=>∃j:Nat,s= .bool (s0||sxB m.im (m.ex.take j))/\me= .bool (mxB m.im (m.ex.take j))/\i= .int .i64 j/\j+k=m.ex.length/\Bw wr aK)
      case atStart=>exact⟨0,by simp[sxB],rfl,rfl,by omega,Below.refl _ _⟩
      case round=>
       obtain⟨j,rfl,rfl,rfl,hj,hb⟩:=hrel;have HB:=zc hb;clear hb;have aA:=zc (BX.o.later HB.o);clear c0 c1 c2 c3 c4 cf;obtain⟨c0,c1,c2,c3,c4,cf⟩:=zl aA.o.1;by_cases aw:j<m.ex.length
       ·have ai:(j:Int)<(m.ex.length:Int):=by omega
        obtain⟨x,hx⟩: ∃x,m.ex[j]? =some x:=⟨_,gE aw⟩;obtain⟨b,aP,ha,hc⟩:=aA.o.2.2.2.2.get hx;have KS:Hid (sxB m.im (m.ex.take (j+1))=(sxB m.im (m.ex.take j)||((x.kind==2||x.kind==3)&&spB m.im x.name))):=zgA hx;have KM:Hid (mxB m.im (m.ex.take (j+1))=(mxB m.im (m.ex.take j)||((x.kind==4||x.kind==5)&& !spB m.im x.name))):=zgA hx;have d0:=hc 0 _ rfl;have d1:=hc 1 _ rfl;have d2:=hc 2 _ rfl;have d3:=hc 3 _ rfl;have d4:=hc 4 _ rfl;have d5:=hc 5 _ rfl;simp only[Nat.add_zero] at d0;rw[ha] at c4;clear hc hx ha;obtain⟨s,hs⟩: ∃s,s=(s0||sxB m.im (m.ex.take j)):=⟨_,rfl⟩;obtain⟨me,av⟩: ∃me,me=mxB m.im (m.ex.take j):=⟨_,rfl⟩;obtain⟨j1,Y⟩: ∃j1,j1=j+1:=⟨_,rfl⟩;have ej:(j:Int)+1=(j1:Int):=by omega
        rw[<-hs,<-av]
        have A:Hid (∀(s' aM:Bool) (w':World),s'=(s||((x.kind==2||x.kind==3)&&spB m.im x.name))->aM=(me||((x.kind==4||x.kind==5)&& !spB m.im x.name))->Bw wr w'->
          ∃j':Nat,Value.bool s'= .bool (s0||sxB m.im (m.ex.take j'))/\Value.bool aM= .bool (mxB m.im (m.ex.take j'))/\Value.int .i64 (j1:Int)= .int .i64 (j':Int)/\j'+(gk-1)=m.ex.length/\Below _ _ w'):=fun s' aM w' h1 h2 h3=>by
         refine⟨j1,?_,?_,rfl,by omega,HB.o.trans (h3.mono HB.o.size)⟩
         ·rw[Y,KS.o,h1,hs,Bool.or_assoc]
         ·rw[Y,KM.o,h2,av]
        clear hs av Y KS KM;go_upto_region 25 with fail;refine zp (R:=fun W=>Below wr.heap.size wr W/\W.heap[wr.heap.size]? =some (.cells (exL x).toArray 106 (0,0))) ⟨bA0,hN0 wr _⟩ ?_;obtain⟨bs,az⟩: ∃bs,bs=wr.heap.size:=⟨_,rfl⟩;rw[<-az];have bj:=zc az;clear c0 c1 c2 c3 c4 cf d0 d1 d2 d3 d4 d5 az;rintro W4 ⟨aG,ak⟩;rw[bj.o] at aG;have ae:=zc aG;have aj:=zc (aA.o.later aG);obtain⟨c0,c1,c2,c3,c4,cf⟩:=zl aj.o.1;obtain⟨e0,e1,e2,e3,e4,e5,ef⟩:=zD ak;have af:=(aLt ak);clear aG ak aA;cases q2:(x.kind==2) with
        |true=>
         have q:=q2;clear q2;have q2:(x.kind==2)=true:=by rw[eq_of_beq q];rfl
         have q3:(x.kind==3)=false:=by rw[eq_of_beq q];rfl
         have q4:(x.kind==4)=false:=by rw[eq_of_beq q];rfl
         have q5:(x.kind==5)=false:=by rw[eq_of_beq q];rfl
         clear q;cases s with
         |true=>
          have h:=zc (A.o (true) (me) W4 (by rw[q2,q3];simp) (by rw[q4,q5];simp) ae.o);clear A;go_wp2;go_roundg (gk-1)
          case rel=>exact h.o
          case measure=>omega
         |false=>
          go_wp2_with (first|(go_at_call 73;refine (ze1 V m _ _ aj.o.2.1 (by omega)).mono ?_;rintro e W6 ⟨rfl,K⟩;have ac:=zc K;clear K));have h:=zc (A.o (spB m.im x.name) (me) W6 (by rw[q2,q3];simp) (by rw[q4,q5];simp) (ae.o.trans (ac.o.mono ae.o.size)));go_roundg (gk-1)
          case rel=>exact h.o
          case measure=>omega
        |false=>
         cases q3:(x.kind==3) with
         |true=>
          have q:=q3;clear q2 q3;have q2:(x.kind==2)=false:=by rw[eq_of_beq q];rfl
          have q3:(x.kind==3)=true:=by rw[eq_of_beq q];rfl
          have q4:(x.kind==4)=false:=by rw[eq_of_beq q];rfl
          have q5:(x.kind==5)=false:=by rw[eq_of_beq q];rfl
          clear q;cases s with
          |true=>
           have h:=zc (A.o (true) (me) W4 (by rw[q2,q3];simp) (by rw[q4,q5];simp) ae.o);clear A;go_wp2;go_roundg (gk-1)
           case rel=>exact h.o
           case measure=>omega
          |false=>
           go_wp2_with (first|(go_at_call 73;refine (ze1 V m _ _ aj.o.2.1 (by omega)).mono ?_;rintro e W6 ⟨rfl,K⟩;have ac:=zc K;clear K));have h:=zc (A.o (spB m.im x.name) (me) W6 (by rw[q2,q3];simp) (by rw[q4,q5];simp) (ae.o.trans (ac.o.mono ae.o.size)));go_roundg (gk-1)
           case rel=>exact h.o
           case measure=>omega
         |false=>
          cases q4:(x.kind==4) with
          |true=>
           have q:=q4;clear q2 q3 q4;have q2:(x.kind==2)=false:=by rw[eq_of_beq q];rfl
           have q3:(x.kind==3)=false:=by rw[eq_of_beq q];rfl
           have q4:(x.kind==4)=true:=by rw[eq_of_beq q];rfl
           have q5:(x.kind==5)=false:=by rw[eq_of_beq q];rfl
           clear q;cases me with
           |true=>
            have h:=zc (A.o (s) (true) W4 (by rw[q2,q3];simp) (by rw[q4,q5];simp) ae.o);clear A;go_wp2;go_roundg (gk-1)
            case rel=>exact h.o
            case measure=>omega
           |false=>
            go_wp2_with (first|(go_at_call 73;refine (ze1 V m _ _ aj.o.2.1 (by omega)).mono ?_;rintro e W6 ⟨rfl,K⟩;have ac:=zc K;clear K));have h:=zc (A.o (s) (!spB m.im x.name) W6 (by rw[q2,q3];simp) (by rw[q4,q5];simp) (ae.o.trans (ac.o.mono ae.o.size)));go_roundg (gk-1)
            case rel=>exact h.o
            case measure=>omega
          |false=>
           cases q5:(x.kind==5) with
           |true=>
            have q:=q5;clear q2 q3 q4 q5;have q2:(x.kind==2)=false:=by rw[eq_of_beq q];rfl
            have q3:(x.kind==3)=false:=by rw[eq_of_beq q];rfl
            have q4:(x.kind==4)=false:=by rw[eq_of_beq q];rfl
            have q5:(x.kind==5)=true:=by rw[eq_of_beq q];rfl
            clear q;cases me with
            |true=>
             have h:=zc (A.o (s) (true) W4 (by rw[q2,q3];simp) (by rw[q4,q5];simp) ae.o);clear A;go_wp2;go_roundg (gk-1)
             case rel=>exact h.o
             case measure=>omega
            |false=>
             go_wp2_with (first|(go_at_call 73;refine (ze1 V m _ _ aj.o.2.1 (by omega)).mono ?_;rintro e W6 ⟨rfl,K⟩;have ac:=zc K;clear K));have h:=zc (A.o (s) (!spB m.im x.name) W6 (by rw[q2,q3];simp) (by rw[q4,q5];simp) (ae.o.trans (ac.o.mono ae.o.size)));go_roundg (gk-1)
             case rel=>exact h.o
             case measure=>omega
           |false=>
            have h:=zc (A.o (s) (me) W4 (by rw[q2,q3];simp) (by rw[q4,q5];simp) ae.o);clear A;go_wp2;go_roundg (gk-1)
            case rel=>exact h.o
            case measure=>omega
       ·have ai: ¬(j:Int)<(m.ex.length:Int):=by omega
        have ah:m.ex.take j=m.ex:=take_of_length_le (by omega);rw[ah];obtain⟨s1,aT⟩: ∃s,s=(s0||sxB m.im m.ex):=⟨_,rfl⟩;have aY:=zc aT;obtain⟨me,av⟩: ∃me,me=mxB m.im m.ex:=⟨_,rfl⟩;have ba:=zc av;have aO:=zc (aS.o.trans (HB.o.mono aS.o.size));have aI:=zc (aJ.o.later HB.o);rw[<-aT,<-av];clear aT av ah HB BX aS aJ;go_wp2;go_loopg [9,15] m.st.length (fun k s i aK=>∃j:Nat,s= .bool (s1||ssB m.im (m.st.take j))/\i= .int .i64 j/\j+k=m.st.length/\Bw wr aK)
        case atStart=>exact⟨0,by simp[ssB],rfl,by omega,Below.refl _ _⟩
        case round=>
         obtain⟨j,rfl,rfl,hj,hb⟩:=hrel;have HB:=zc hb;clear hb;have aj:=zc (aA.o.later HB.o);clear c0 c1 c2 c3 c4 cf;obtain⟨c0,c1,c2,c3,c4,cf⟩:=zl aj.o.1;by_cases aw:j<m.st.length
         ·have ai:(j:Int)<(m.st.length:Int):=by omega
          obtain⟨x,hx⟩: ∃x,m.st[j]? =some x:=⟨_,gE aw⟩;obtain⟨b,aP,ha,hc⟩:=aj.o.2.2.2.1.get hx;have KS:Hid (ssB m.im (m.st.take (j+1))=(ssB m.im (m.st.take j)||(x.kind==3&&spB m.im x.name))):=zgA hx;have d0:=hc 0 _ rfl;have d1:=hc 1 _ rfl;simp only[Nat.add_zero] at d0;have HA:=zc ha;rw[ha] at c3;clear hc hx ha;obtain⟨s,hs⟩: ∃s,s=(s1||ssB m.im (m.st.take j)):=⟨_,rfl⟩;obtain⟨j1,Y⟩: ∃j1,j1=j+1:=⟨_,rfl⟩;have ej:(j:Int)+1=(j1:Int):=by omega
          rw[<-hs]
          have A:Hid (∀(s':Bool) (w':World),s'=(s||(x.kind==3&&spB m.im x.name))->Bw wr w'->
            ∃j':Nat,Value.bool s'= .bool (s1||ssB m.im (m.st.take j'))/\Value.int .i64 (j1:Int)= .int .i64 (j':Int)/\j'+(gk-1)=m.st.length/\Below _ _ w'):=fun s' w' h1 h3=>by
           refine⟨j1,?_,rfl,by omega,HB.o.trans (h3.mono HB.o.size)⟩;rw[Y,KS.o,h1,hs,Bool.or_assoc]
          clear hs Y KS;have C0:=zc c0;have C1:=zc c1;have C2:=zc c2;have C3:=zc c3;have C4:=zc c4;have D0:=zc d0;have D1:=zc d1;have cQ: ∀d os,Calls prog 73 #[zo V m,.string x.name] (grow (redrawn wr d) os) fun e bf=>e= .returned (.bool (spB m.im x.name))/\∃p:Regrown,bf=grow (redrawn wr p.d) p.os:=
           fun d os=>Calls.regrown_of (ze1 V m _ _ (aj.o.2.1.later (below_regrown wr d os)) (by omega))
          unfold zo at cQ;rw[HA.o] at cQ;cases s with
          |true=>
           go_wp2_with fail;clear c0 c1 c2 c3 c4 d0 d1;have f0:=cR0 C0.o;have f1:=cR0 C1.o;have f2:=cR0 C2.o;have f3:=cR0 C3.o;have f4:=cR0 C4.o;have g0:=cR0 D0.o;have g1:=cR0 D1.o;refine wp_region_quiet_below (by kernel_rfl) (by kernel_rfl) ?_
           repeat (go_big_quiet_step (exact cQ _ _))
           refine wpQuiet_nil ?_;intro w9 am;have ar:Hid (Bw wr w9):=by obtain⟨⟨dq,aD⟩,ao⟩:=am;show Below _ _ _;rw[ao];exact below_regrown wr dq aD
           have h:=zc (A.o (true) w9 (by simp) ar.o);clear A am f0 f1 f2 f3 f4 g0 g1 cQ;go_wp2;go_roundg (gk-1)
           case rel=>exact h.o
           case measure=>omega
          |false=>
           cases k3:(x.kind==3) with
           |false=>
            go_wp2_with fail;clear c0 c1 c2 c3 c4 d0 d1;have f0:=cR0 C0.o;have f1:=cR0 C1.o;have f2:=cR0 C2.o;have f3:=cR0 C3.o;have f4:=cR0 C4.o;have g0:=cR0 D0.o;have g1:=cR0 D1.o;refine wp_region_quiet_below (by kernel_rfl) (by kernel_rfl) ?_
            repeat (go_big_quiet_step (exact cQ _ _))
            refine wpQuiet_nil ?_;intro w9 am;have ar:Hid (Bw wr w9):=by obtain⟨⟨dq,aD⟩,ao⟩:=am;show Below _ _ _;rw[ao];exact below_regrown wr dq aD
            have h:=zc (A.o (false) w9 (by rw[k3];simp) ar.o);clear A am f0 f1 f2 f3 f4 g0 g1 cQ;go_wp2;go_roundg (gk-1)
            case rel=>exact h.o
            case measure=>omega
           |true=>
            go_wp2_with fail;clear c0 c1 c2 c3 c4 d0 d1;have f0:=cR0 C0.o;have f1:=cR0 C1.o;have f2:=cR0 C2.o;have f3:=cR0 C3.o;have f4:=cR0 C4.o;have g0:=cR0 D0.o;have g1:=cR0 D1.o;refine wp_region_quiet_below (by kernel_rfl) (by kernel_rfl) ?_
            repeat (go_big_quiet_step (exact cQ _ _))
            refine wpQuiet_nil ?_;intro w9 am;have ar:Hid (Bw wr w9):=by obtain⟨⟨dq,aD⟩,ao⟩:=am;show Below _ _ _;rw[ao];exact below_regrown wr dq aD
            have h:=zc (A.o (spB m.im x.name) w9 (by rw[k3];simp) ar.o);clear A am f0 f1 f2 f3 f4 g0 g1 cQ;go_wp2;go_roundg (gk-1)
            case rel=>exact h.o
            case measure=>omega
         ·have ai: ¬(j:Int)<(m.st.length:Int):=by omega
          have ah:m.st.take j=m.st:=take_of_length_le (by omega);rw[ah];obtain⟨s2,aL⟩: ∃s,s=(s1||ssB m.im m.st):=⟨_,rfl⟩;have a4:=zc aL;rw[<-aL];have aU:=zc (aO.o.trans (HB.o.mono aO.o.size));have aH:=zc (aI.o.later HB.o);clear aL ah HB aO aI aj aA;have aB:Hid (zax m=if twB (epN m.ep) then 2 else if u then 3 else if s2 then 4 else if me then 5 else 0):=by
           show _=_;rw[zax,aR.o,a3.o,HU.o,a4.o,aY.o,a0.o,ba.o];rfl
          clear aR a3 HU a4 aY a0 ba;go_wp2_with fail;refine (znC r2.a r2.cap n2 (epN m.ep) _ U.o aH.o (by omega) a7.o).mono ?_;rintro e W8 ⟨rfl,a2⟩;have aC:=zc (aU.o.trans (a2.mono aU.o.size));clear a2 aU aH;generalize twB (epN m.ep)=t2 at aB ⊢;cases t2 with
          |true=>
           go_wp2;go_ret;exact⟨zbP (by rw[aB.o];rfl),aC.o⟩
          |false=>
           cases u with
           |true=>
            go_wp2;go_ret;exact⟨zbP (by rw[aB.o];rfl),aC.o⟩
           |false=>
            cases s2 with
            |true=>
             go_wp2;go_ret;exact⟨zbP (by rw[aB.o];rfl),aC.o⟩
            |false=>
             cases me with
             |true=>
              go_wp2;go_ret;exact⟨zbP (by rw[aB.o];rfl),aC.o⟩
             |false=>
              go_wp2;go_ret;exact⟨zbP (by rw[aB.o];rfl),aC.o⟩
