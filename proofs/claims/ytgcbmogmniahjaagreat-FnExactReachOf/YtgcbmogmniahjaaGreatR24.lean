/- Facts and walks. -/
import Derived.BigRegion
import Derived.Test.YtgcbmogmniahjaaGreatR23
namespace Go.Proofs.YtgcbmogmniahjaaGreat
open Nat (le_succ le_refl le_trans add_zero)
open Go.Proofs.Tryz
set_option maxRecDepth 100000
set_option maxHeartbeats 12800000
open Go.RowKit Go.PlainAid Go.Sort
theorem Tryz.infoInt:(prog.info? 3).map (fun i=>(i.zero,i.size,i.bytes))=some (some (.int .i64 0),1,8):=by kernel_rfl
variable (z:Int) (s:BA) (C:Cx) (g b c:Nat) (S:Sv) (w:Md) {W:World} {d n k:Nat} {q:Nat->Nat} {x:List Value} {T:Sv} {p:Md} {t:TypeId} {h:Rw} {A:List BA} {B:BA} {D:Cx} {E:PS}
theorem zll:(madeCells #[.int .i64 0] g).toList=zau g (fun _=>0):=by
 rw[toList_madeCells_one];unfold zau;rw[List.map_const',List.length_range];rfl
theorem zfe {F G:Nat} (h:W.ownsRow d 3 1 (.slice (some ⟨n,0,none⟩) F G) F (zau F q)) {k:Nat} (z:k<F):W.cell? ⟨n,k,none⟩=some (.int .i64 (q k:Int)):=by
 rw[h.cellAt k (by omega)];exact zgS q z
theorem zgT {F:Nat} {f:Nat->Nat} (h:W.ownsRow d 3 1 (.slice (some ⟨n,0,none⟩) F k) F (zau F f)) (G v:Nat) (z:v=f G+1):(W.setCell ⟨n,G,none⟩ (.int .i64 (v:Int))).ownsRow d 3 1 (.slice (some ⟨n,0,none⟩) F k) F (zau F (zaM f G)):=by
 have:=(h.stored G (.int .i64 (v:Int))).1;rw[zrJ f (zaM f G) v (by rw[zrK,z]) (fun j A=>zrL f A)] at this;exact this
theorem zfT {A:World} {F:Nat} (h:W.ownsRow d 3 1 (.slice (some ⟨n,0,none⟩) F k) F x) (D:Bw W A):A.ownsRow d 3 1 (.slice (some ⟨n,0,none⟩) F k) F x:=by
 have z:OwnR W d 3 1 ⟨some ⟨n,0,none⟩,k⟩ F x:=h;exact z.keep fun G e=>D.block G (z.typed e).2.1
theorem zir {F:Nat} (h:W.ownsRow d 3 1 (.slice (some ⟨n,0,none⟩) F k) F x):d<=n/\n<W.heap.size:=by
 have z:OwnR W d 3 1 ⟨some ⟨n,0,none⟩,k⟩ F x:=h;exact⟨(z.typed rfl).1,(z.typed rfl).2.1⟩
theorem zgU {u:Value} (h:OwnMd W d T p) (K: ∀b,W.heap[n]? =some b->∃A,b= .cells A 3 (0,0)):OwnMd (W.setCell ⟨n,k,none⟩ u) d T p:=by
 have D: ∀(e:TypeId) (q F:Nat) (r:Rw) (E:List Value),OwnR W d e q r F E->e≠3->OwnR (W.setCell ⟨n,k,none⟩ u) d e q r F E:=fun e q F r E h H=>h.keep fun b J=>Below.heap_setCell W ⟨n,k,none⟩ u b (fun I=>by
  obtain⟨_,_,c,L⟩:=h.typed J;obtain⟨A,z⟩:=K _ (by rw[<-show b=n from I];exact L);simp only[Obj.cells.injEq] at z
  exact H z.2.1)
 exact⟨D _ _ _ _ _ h.rq (by decide),D _ _ _ _ _ h.im (by decide),D _ _ _ _ _ h.ep (by decide),D _ _ _ _ _ h.st (by decide),D _ _ _ _ _ h.ex (by decide)⟩
def cE (ex:List Ex) (j:Nat):Nat->Nat:=fun k=>zav (ex.take j) (k:Int)
theorem OwnMd.drewI (h:OwnMd W d T p):OwnMd W.drew d T p:=⟨h.rq,h.im,h.ep,h.st,h.ex⟩
def cS (m:Md) (j:Nat):Nat->Nat:=fun k=>zav m.ex (k:Int)+zaP (m.st.take j) (k:Int)
def zgV (m:Md) (e:Ending):Prop:=∃b,e= .returned (.bool b)/\(b=true↔Tree m)
theorem zdb (h: ¬Tree p):zgV p (.returned (.bool false)):=⟨false,rfl,⟨(fun k=>by cases k),fun t=>absurd t h⟩⟩
theorem zlm (h:Tree p):zgV p (.returned (.bool true)):=⟨true,rfl,⟨fun _=>h,fun _=>rfl⟩⟩
theorem zgW {F:Nat} (h:W.ownsRow d 3 1 (.slice (some ⟨n,0,none⟩) F k) F x): ∀b,W.heap[n]? =some b->∃z,b= .cells z 3 (0,0):=by
 have D:OwnR W d 3 1 ⟨some ⟨n,0,none⟩,k⟩ F x:=h;obtain⟨_,_,c,E⟩:=D.typed rfl;intro b A;rw[E] at A;exact⟨c,(Option.some.inj A).symm⟩
theorem zrM (G:World) (h:OwnMd G g S w) (hl:w.ex.length<=4294967296) (hs:w.st.length<=4294967296):
  Calls prog 83 #[zl S w] G fun e w'=>zgV w e/\Bw G w':=by
 obtain⟨i0,hi,aM,aW,aT⟩:=info_parts Tryz.infoInt;have HH:=zc h;clear h;unfold zl;go_enter func83,ntmps83;go_wp2_with (first|(at_make;refine wpList_make_full _ rfl _ _ 36 rfl (G.heap.size+1) 3 i0 (.int .i64 0) 1 underlying36 hi aM aW .i64 .i64 _ _ w.ex.length (by rfl) (by rfl) rfl rfl (by rw[aT];omega) (by unfold maxLen;omega) (by rw[zg];omega) ?_));intro w1 ad X;rw[zll] at ad;have bb:Below (G.heap.size+1) (G.alloc _) w1:=⟨X.os,X.tape,X.output,X.size,fun k hk=>X.block k (by rw[zg];exact hk) (by simp)⟩;have aD:Hid (Bw G w1):=(bA0).trans (bb.mono (by omega));have aC:Hid (w1.heap[G.heap.size]? =some (.cells #[.slice S.rq.a w.rq.length S.rq.cap,.slice S.im.a w.im.length S.im.cap,.slice S.ep.a w.ep.length S.ep.cap,.slice S.st.a w.st.length S.st.cap,.slice S.ex.a w.ex.length S.ex.cap] 54 (0,0))):=(bb.block _ (by omega)).trans (heap_alloc_new G _);have aL:=zc (HH.o.later aD.o);have aO:Hid (w1.ownsRow (G.heap.size+1) 3 1 (.slice (some ⟨G.heap.size+1,0,none⟩) w.ex.length w.ex.length) w.ex.length (zau w.ex.length (cE w.ex 0))):=by show World.ownsRow _ _ _ _ _ _ _;rw[show zau w.ex.length (cE w.ex 0)=zau w.ex.length (fun _=>0) from ze7 fun k _=>by simp[cE,zav]];exact ad
 clear ad X bb;obtain⟨c0,c1,c2,c3,c4,cf⟩:=zj aC.o;go_wp2;go_loopg [4] w.ex.length (fun k i wr=>∃j:Nat,i= .int .i64 j/\j+k=w.ex.length/\AheadTo w.ex j/\wr.ownsRow (G.heap.size+1) 3 1 (.slice (some ⟨G.heap.size+1,0,none⟩) w.ex.length w.ex.length) w.ex.length (zau w.ex.length (cE w.ex j))/\OwnMd wr g S w/\wr.heap[G.heap.size]? =some (.cells #[.slice S.rq.a w.rq.length S.rq.cap,.slice S.im.a w.im.length S.im.cap,.slice S.ep.a w.ep.length S.ep.cap,.slice S.st.a w.st.length S.st.cap,.slice S.ex.a w.ex.length S.ex.cap] 54 (0,0))/\Bw G wr)
 case atStart=>exact⟨0,rfl,by omega,fun i x hi=>absurd hi (Nat.not_lt_zero i),aO.o,aL.o,aC.o,aD.o⟩
 case round=>
  obtain⟨j,rfl,hj,ah,z,M,N,I⟩:=hrel;have AH:=zc ah;have HN:=zc z;have HO:=zc M;have HX:=zc N;have U:=zc I;clear ah z M N I;clear c0 c1 c2 c3 c4 cf;obtain⟨c0,c1,c2,c3,c4,cf⟩:=zj HX.o;have ak:=(aLt HX.o);by_cases A:j<w.ex.length
  ·have aB:(j:Int)<(w.ex.length:Int):=by omega
   obtain⟨F,hg,bj,x0,x1,x2,x3,x4,x5⟩:=HO.o.expr A;rw[hg] at c4;clear hg;have aA:=zc (zen A);obtain⟨x,am⟩: ∃x,w.ex.getD j zh=x:=⟨_,rfl⟩;rw[am] at x0 x1 x2 x3 x4 x5;have K:Hid (w.ex[j]=x):=aA.o.symm.trans am;clear am aA;obtain⟨J,E⟩: ∃J,J=j+1:=⟨_,rfl⟩;have ej:(j:Int)+1=(J:Int):=by omega
   have O:=zc E;clear E;have Y:Hid (Bw wr (wr.alloc (.cells #[.int .i64 x.kind,.int .i64 x.num,.string x.name,.string x.field,.int .i64 x.l,.int .i64 x.r] 100))):=bA0;go_wp2_with fail;refine (zlc x.kind _).mono ?_;rintro e w2 ⟨rfl,hw⟩;rw[hw];clear hw w2;cases ht:zac x.kind with
   |false=>
    go_wp2;go_roundg (gk-1)
    case rel=>exact⟨J,rfl,by have:=O.o;omega,by rw[O.o];exact AH.o.next A (fun k=>by rw[K.o,ht] at k;cases k),by rw[O.o,show zau w.ex.length (cE w.ex (j+1))=zau w.ex.length (cE w.ex j) from ze7 fun k _=>(zlj A (by rw[K.o];exact ht) k).symm];exact zfT HN.o Y.o,HO.o.later Y.o,(Y.o.block _ ak).trans HX.o,U.o.trans (Y.o.mono U.o.size)⟩
    case measure=>omega
   |true=>
    by_cases a1:x.l<0
    ·have ac:decide (x.l<0)=true:=decide_eq_true a1;go_wp2;go_ret;exact⟨zdb (fun (t:Tree w)=>absurd t.ahead (AheadTo.not A (by rw[K.o];exact ht) (by rw[K.o];omega))),U.o.trans (Y.o.mono U.o.size)⟩
    have ac:decide (x.l<0)=false:=decide_eq_false a1;by_cases a2:(j:Int)<=x.l
    ·have af:decide ((j:Int)<=x.l)=true:=decide_eq_true a2;go_wp2;go_ret;exact⟨zdb (fun (t:Tree w)=>absurd t.ahead (AheadTo.not A (by rw[K.o];exact ht) (by rw[K.o];omega))),U.o.trans (Y.o.mono U.o.size)⟩
    have af:decide ((j:Int)<=x.l)=false:=decide_eq_false a2;by_cases a3:x.r<0
    ·have aE:decide (x.r<0)=true:=decide_eq_true a3;go_wp2;go_ret;exact⟨zdb (fun (t:Tree w)=>absurd t.ahead (AheadTo.not A (by rw[K.o];exact ht) (by rw[K.o];omega))),U.o.trans (Y.o.mono U.o.size)⟩
    have aE:decide (x.r<0)=false:=decide_eq_false a3;by_cases a4:(j:Int)<=x.r
    ·have aH:decide ((j:Int)<=x.r)=true:=decide_eq_true a4;go_wp2;go_ret;exact⟨zdb (fun (t:Tree w)=>absurd t.ahead (AheadTo.not A (by rw[K.o];exact ht) (by rw[K.o];omega))),U.o.trans (Y.o.mono U.o.size)⟩
    have aH:decide ((j:Int)<=x.r)=false:=decide_eq_false a4;go_wp2_with fail;obtain⟨q,aa⟩: ∃q:Nat,x.l=(q:Int):=⟨x.l.toNat,by omega⟩;obtain⟨D,Z⟩: ∃D:Nat,x.r=(D:Int):=⟨x.r.toNat,by omega⟩;have bt:q<w.ex.length:=by omega
    have bl:D<w.ex.length:=by omega
    have a0:(q:Int)<(w.ex.length:Int):=by omega
    have a6:(D:Int)<(w.ex.length:Int):=by omega
    have aN:Hid (AheadTo w.ex (j+1)):=AH.o.next A (fun _=>by rw[K.o];omega);have HU:Hid (∀k:Nat,zaM (zaM (cE w.ex j) q) D k=cE w.ex (j+1) k):=fun k=>by have:=zli A (by rw[K.o];exact ht) (by rw[K.o];omega) (by rw[K.o];omega) k;rw[K.o,aa,Z] at this;exact this
    have aF:=zgR (w.ex.take j);have aZ:(w.ex.take j).length<=4294967296:=by rw[List.length_take];omega
    have be:=(zir HN.o).2;refine zu (R:=fun W=>W.heap[wr.heap.size]? =some (.cells #[.int .i64 x.kind,.int .i64 x.num,.string x.name,.string x.field,.int .i64 (q:Int),.int .i64 (D:Int)] 100 (0,0))/\W.ownsRow (G.heap.size+1) 3 1 (.slice (some ⟨G.heap.size+1,0,none⟩) w.ex.length w.ex.length) w.ex.length (zau w.ex.length (cE w.ex j))/\OwnMd W g S w/\W.heap[G.heap.size]? =some (.cells #[.slice S.rq.a w.rq.length S.rq.cap,.slice S.im.a w.im.length S.im.cap,.slice S.ep.a w.ep.length S.ep.cap,.slice S.st.a w.st.length S.st.cap,.slice S.ex.a w.ex.length S.ex.cap] 54 (0,0))/\Below G.heap.size G W) ⟨by have:=heap_alloc_new wr (.cells #[.int .i64 x.kind,.int .i64 x.num,.string x.name,.string x.field,.int .i64 x.l,.int .i64 x.r] 100);rw[aa,Z] at this;rw[aa,Z];exact this,zfT HN.o Y.o,HO.o.later Y.o,(Y.o.block _ ak).trans HX.o,U.o.trans (Y.o.mono U.o.size)⟩ ?_;have bn:=zc aa;have bf:=zc Z;clear aa Z ac af aE aH a1 a2 a3 a4;rintro W ⟨xb,z,M,N,I⟩;have bk:=zc xb;have bm:=zc z;have bg:=zc M;have bo:=zc N;have bs:=zc I;obtain⟨s0,s1,s2,s3,s4,s5,sf⟩:=zy xb;obtain⟨va,ai⟩: ∃v,(cE w.ex j) q=v:=⟨_,rfl⟩;have ea:=zfe z (k:=q) (by omega);have ef:=z.frozenAt;rw[ai] at ea;have a9:va<=17179869184:=by rw[<-ai];have:=aF (q:Int);unfold cE;omega
    obtain⟨ua,aw⟩: ∃u,u=va+1:=⟨_,rfl⟩;have bq:(va:Int)+1=(ua:Int):=by omega
    have a8:IntKind.i64.wrap (ua:Int)=(ua:Int):=IntWalk.i64_in _ ⟨by omega,by omega⟩;have aQ:Hid ((W.setCell ⟨G.heap.size+1,q,none⟩ (.int .i64 (ua:Int))).ownsRow (G.heap.size+1) 3 1 (.slice (some ⟨G.heap.size+1,0,none⟩) w.ex.length w.ex.length) w.ex.length (zau w.ex.length (zaM (cE w.ex j) q))):=zgT z q ua (by rw[aw,ai]);have aX:Hid (OwnMd (W.setCell ⟨G.heap.size+1,q,none⟩ (.int .i64 (ua:Int))) g S w):=zgU M (zgW z);have aP:Hid ((W.setCell ⟨G.heap.size+1,q,none⟩ (.int .i64 (ua:Int))).heap[G.heap.size]? =some (.cells #[.slice S.rq.a w.rq.length S.rq.cap,.slice S.im.a w.im.length S.im.cap,.slice S.ep.a w.ep.length S.ep.cap,.slice S.st.a w.st.length S.st.cap,.slice S.ex.a w.ex.length S.ex.cap] 54 (0,0))):=(zx (by omega)).trans N;have aV:Hid (Bw G (W.setCell ⟨G.heap.size+1,q,none⟩ (.int .i64 (ua:Int)))):=I.setCell (le_succ _) _;have aY:Hid ((W.setCell ⟨G.heap.size+1,q,none⟩ (.int .i64 (ua:Int))).heap[wr.heap.size]? =some (.cells #[.int .i64 x.kind,.int .i64 x.num,.string x.name,.string x.field,.int .i64 (q:Int),.int .i64 (D:Int)] 100 (0,0))):=(zx (by omega)).trans xb;clear xb z M N I ai aw;go_region;clear s0 s1 s2 s3 s4 s5 sf ef ea;go_wp2_with fail;refine zu (R:=fun W=>W.heap[wr.heap.size]? =some (.cells #[.int .i64 x.kind,.int .i64 x.num,.string x.name,.string x.field,.int .i64 (q:Int),.int .i64 (D:Int)] 100 (0,0))/\W.ownsRow (G.heap.size+1) 3 1 (.slice (some ⟨G.heap.size+1,0,none⟩) w.ex.length w.ex.length) w.ex.length (zau w.ex.length (zaM (cE w.ex j) q))/\OwnMd W g S w/\W.heap[G.heap.size]? =some (.cells #[.slice S.rq.a w.rq.length S.rq.cap,.slice S.im.a w.im.length S.im.cap,.slice S.ep.a w.ep.length S.ep.cap,.slice S.st.a w.st.length S.st.cap,.slice S.ex.a w.ex.length S.ex.cap] 54 (0,0))/\Below G.heap.size G W) ⟨aY.o,aQ.o,aX.o.drewI,aP.o,aV.o.drew⟩ ?_;rintro V ⟨xb,z,M,N,I⟩;have bv:=zc xb;have bp:=zc z;have bc:=zc M;have bu:=zc N;have bh:=zc I;obtain⟨s0,s1,s2,s3,s4,s5,sf⟩:=zy xb;obtain⟨vb,ae⟩: ∃v,(zaM (cE w.ex j) q) D=v:=⟨_,rfl⟩;have eb:=zfe z (k:=D) (by omega);have ef:=z.frozenAt;rw[ae] at eb;have a5:vb<=17179869184:=by rw[<-ae];have:=aF (D:Int);unfold zaM cE;split<;>omega
    obtain⟨ub,an⟩: ∃u,u=vb+1:=⟨_,rfl⟩;have bi:(vb:Int)+1=(ub:Int):=by omega
    have a7:IntKind.i64.wrap (ub:Int)=(ub:Int):=IntWalk.i64_in _ ⟨by omega,by omega⟩;have aK:Hid ((V.setCell ⟨G.heap.size+1,D,none⟩ (.int .i64 (ub:Int))).ownsRow (G.heap.size+1) 3 1 (.slice (some ⟨G.heap.size+1,0,none⟩) w.ex.length w.ex.length) w.ex.length (zau w.ex.length (zaM (zaM (cE w.ex j) q) D))):=zgT z D ub (by rw[an,ae]);have aS:Hid (OwnMd (V.setCell ⟨G.heap.size+1,D,none⟩ (.int .i64 (ub:Int))) g S w):=zgU M (zgW z);have aJ:Hid ((V.setCell ⟨G.heap.size+1,D,none⟩ (.int .i64 (ub:Int))).heap[G.heap.size]? =some (.cells #[.slice S.rq.a w.rq.length S.rq.cap,.slice S.im.a w.im.length S.im.cap,.slice S.ep.a w.ep.length S.ep.cap,.slice S.st.a w.st.length S.st.cap,.slice S.ex.a w.ex.length S.ex.cap] 54 (0,0))):=(zx (by omega)).trans N;have aU:Hid (Bw G (V.setCell ⟨G.heap.size+1,D,none⟩ (.int .i64 (ub:Int)))):=I.setCell (le_succ _) _;have br:Hid ((V.setCell ⟨G.heap.size+1,D,none⟩ (.int .i64 (ub:Int))).heap[wr.heap.size]? =some (.cells #[.int .i64 x.kind,.int .i64 x.num,.string x.name,.string x.field,.int .i64 (q:Int),.int .i64 (D:Int)] 100 (0,0))):=(zx (by omega)).trans xb;clear xb z M N I ae an;go_region;clear s0 s1 s2 s3 s4 s5 sf ef eb;go_wp2;go_roundg (gk-1)
    case rel=>exact⟨J,rfl,by have:=O.o;omega,by rw[O.o];exact aN.o,by rw[O.o,<-ze7 fun k _=>HU.o k];exact aK.o,aS.o.drewI,aJ.o,aU.o.drew⟩
    case measure=>omega
  ·have aB: ¬(j:Int)<(w.ex.length:Int):=by omega
   obtain rfl:j=w.ex.length:=by omega
   have HA:=zc AH.o.all;have HC:Hid (wr.ownsRow (G.heap.size+1) 3 1 (.slice (some ⟨G.heap.size+1,0,none⟩) w.ex.length w.ex.length) w.ex.length (zau w.ex.length (cS w 0))):=by show World.ownsRow _ _ _ _ _ _ _;rw[show zau w.ex.length (cS w 0)=zau w.ex.length (cE w.ex w.ex.length) from ze7 fun k _=>by simp[cE,cS,zaP]];exact HN.o
   go_wp2;go_loopg [6] w.st.length (fun k i wr=>∃j:Nat,i= .int .i64 j/\j+k=w.st.length/\(∀s∈w.st.take j,0<=s.expr/\s.expr<(w.ex.length:Int))/\wr.ownsRow (G.heap.size+1) 3 1 (.slice (some ⟨G.heap.size+1,0,none⟩) w.ex.length w.ex.length) w.ex.length (zau w.ex.length (cS w j))/\OwnMd wr g S w/\wr.heap[G.heap.size]? =some (.cells #[.slice S.rq.a w.rq.length S.rq.cap,.slice S.im.a w.im.length S.im.cap,.slice S.ep.a w.ep.length S.ep.cap,.slice S.st.a w.st.length S.st.cap,.slice S.ex.a w.ex.length S.ex.cap] 54 (0,0))/\Bw G wr)
   case atStart=>exact⟨0,rfl,by omega,(fun s hs=>by simp at hs),HC.o,HO.o,HX.o,U.o⟩
   case round=>
    obtain⟨j,rfl,bx,ah,z,M,N,I⟩:=hrel;have AS:=zc ah;have ab:=zc z;have ay:=zc M;have aG:=zc N;have ag:=zc I;clear ah z M N I c0 c1 c2 c3 c4 cf;obtain⟨c0,c1,c2,c3,c4,cf⟩:=zj aG.o;by_cases H:j<w.st.length
    ·have ap:(j:Int)<(w.st.length:Int):=by omega
     obtain⟨s,av⟩: ∃s,w.st[j]? =some s:=⟨_,List.getElem?_eq_getElem H⟩;obtain⟨F,hg,aI⟩:=OwnR.elem (f:=smL) (m:=3) (fun _=>rfl) ay.o.st av;have k2:=aI 2 (by omega);simp only[smL,List.getElem?_cons_zero,List.getElem?_cons_succ] at k2;rw[hg] at c3;obtain⟨_,aj⟩:=List.getElem?_eq_some_iff.1 av;have HS:Hid (w.st[j]=s):=aj;clear hg aI av aj;obtain⟨J,E⟩: ∃J,J=j+1:=⟨_,rfl⟩;have ej:(j:Int)+1=(J:Int):=by omega
     have O:=zc E;clear E;by_cases a1:s.expr<0
     ·have ac:decide (s.expr<0)=true:=decide_eq_true a1;go_wp2;go_ret;exact⟨zdb (fun (t:Tree w)=>by have:=t.stm _ (List.getElem_mem H);rw[HS.o] at this;omega),ag.o⟩
     have ac:decide (s.expr<0)=false:=decide_eq_false a1;by_cases a2:(w.ex.length:Int)<=s.expr
     ·have af:decide ((w.ex.length:Int)<=s.expr)=true:=decide_eq_true a2;go_wp2;go_ret;exact⟨zdb (fun (t:Tree w)=>by have:=t.stm _ (List.getElem_mem H);rw[HS.o] at this;omega),ag.o⟩
     have af:decide ((w.ex.length:Int)<=s.expr)=false:=decide_eq_false a2;obtain⟨L,ar⟩: ∃L:Nat,s.expr=(L:Int):=⟨s.expr.toNat,by omega⟩;have aR:L<w.ex.length:=by omega
     have ba:(L:Int)<(w.ex.length:Int):=by omega
     have au:Hid (∀s∈w.st.take (j+1),0<=s.expr/\s.expr<(w.ex.length:Int)):=by
      intro y hy;rw[List.take_succ_eq_append_getElem H,List.mem_append] at hy;rcases hy with hy|hy
      ·exact AS.o y hy
      ·simp only[List.mem_singleton] at hy;rw[hy,HS.o];omega
     have HU:Hid (∀k:Nat,zaM (cS w j) L k=cS w (j+1) k):=fun k=>by have:=zlk (ex:=w.ex) H (by rw[HS.o];omega) k;rw[HS.o,ar] at this;exact this
     rw[ar] at k2 a1 a2 ac af;obtain⟨v,hv⟩: ∃v,cS w j L=v:=⟨_,rfl⟩;have ea:=zfe ab.o aR;have ef:=ab.o.frozenAt;rw[hv] at ea;have ae:v<=17179869184:=by rw[<-hv];unfold cS;have:=zgR w.ex (L:Int);have:=zlh (w.st.take j) (L:Int);rw[List.length_take] at this;omega
     obtain⟨u,hu⟩: ∃u,u=v+1:=⟨_,rfl⟩;have ev:(v:Int)+1=(u:Int):=by omega
     have an:u<=17179869185:=by omega
     have NN:Hid ((wr.setCell ⟨G.heap.size+1,L,none⟩ (.int .i64 (u:Int))).ownsRow (G.heap.size+1) 3 1 (.slice (some ⟨G.heap.size+1,0,none⟩) w.ex.length w.ex.length) w.ex.length (zau w.ex.length (zaM (cS w j) L))):=zgT ab.o L u (by rw[hu,hv]);have NO:Hid (OwnMd (wr.setCell ⟨G.heap.size+1,L,none⟩ (.int .i64 (u:Int))) g S w):=zgU ay.o (zgW ab.o);have NX:Hid ((wr.setCell ⟨G.heap.size+1,L,none⟩ (.int .i64 (u:Int))).heap[G.heap.size]? =some (.cells #[.slice S.rq.a w.rq.length S.rq.cap,.slice S.im.a w.im.length S.im.cap,.slice S.ep.a w.ep.length S.ep.cap,.slice S.st.a w.st.length S.st.cap,.slice S.ex.a w.ex.length S.ex.cap] 54 (0,0))):=(zx (by omega)).trans aG.o;have NB:Hid (Bw G (wr.setCell ⟨G.heap.size+1,L,none⟩ (.int .i64 (u:Int)))):=ag.o.setCell (le_succ _) _;clear ar hv hu;go_wp2;go_roundg (gk-1)
     case rel=>exact⟨J,rfl,by have:=O.o;omega,by rw[O.o];exact au.o,by rw[O.o,<-ze7 fun k _=>HU.o k];exact NN.o,NO.o,NX.o,NB.o⟩
     case measure=>omega
    ·have ap: ¬(j:Int)<(w.st.length:Int):=by omega
     obtain rfl:j=w.st.length:=by omega
     have au:Hid (∀s∈w.st,0<=s.expr/\s.expr<(w.ex.length:Int)):=by have:=AS.o;rw[List.take_length] at this;exact this
     go_wp2;go_loopg [8] w.ex.length (fun k i wr=>∃j:Nat,i= .int .i64 j/\j+k=w.ex.length/\(∀k,k<j->cS w w.st.length k=1)/\wr.ownsRow (G.heap.size+1) 3 1 (.slice (some ⟨G.heap.size+1,0,none⟩) w.ex.length w.ex.length) w.ex.length (zau w.ex.length (cS w w.st.length))/\Bw G wr)
     case atStart=>exact⟨0,rfl,by omega,fun k hk=>absurd hk (Nat.not_lt_zero k),ab.o,ag.o⟩
     case round=>
      obtain⟨j,rfl,bw,ah,z,I⟩:=hrel;have AC:=zc ah;have az:=zc z;have ao:=zc I;clear ah z I c0 c1 c2 c3 c4 cf;by_cases al:j<w.ex.length
      ·have aq:(j:Int)<(w.ex.length:Int):=by omega
       obtain⟨v,hv⟩: ∃v,cS w w.st.length j=v:=⟨_,rfl⟩;have ea:=zfe az.o al;rw[hv] at ea;have HV:=zc hv;clear hv;obtain⟨J,E⟩: ∃J,J=j+1:=⟨_,rfl⟩;have ej:(j:Int)+1=(J:Int):=by omega
       have O:=zc E;clear E;by_cases ax:v=1
       ·subst ax;go_wp2;go_roundg (gk-1)
        case rel=>exact⟨J,rfl,by have:=O.o;omega,(fun k hk=>(Nat.lt_or_eq_of_le (show k<=j by have:=O.o;omega)).elim (AC.o k) (fun e=>by rw[e];exact HV.o)),az.o,ao.o⟩
        case measure=>omega
       ·have dv:((v:Int) !=1)=true:=by rw[bne_iff_ne];omega
        go_wp2;go_ret;exact⟨zdb (fun (t:Tree w)=>absurd (by have:=t.once j al;have h2:=HV.o;unfold cS at h2;rw[List.take_length] at h2;omega) ax),ao.o⟩
      ·have aq: ¬(j:Int)<(w.ex.length:Int):=by omega
       go_wp2;go_ret;exact⟨zlm ⟨HA.o,au.o,fun k hk=>by have:=AC.o k (by omega);unfold cS at this;rw[List.take_length] at this;exact this⟩,ao.o⟩
theorem zgX {α:Type} {l:List α} (h:d<l.length): ∃x,l[d]? =some x:=⟨_,List.getElem?_eq_getElem h⟩
theorem zrN:s++sNone=s:=by
 cases s with
 |mk d=>
  show ByteArray.append _ _=_;simp[ByteArray.append]
theorem zrO:(acc (stF w.ex) w.st (zcm w)).size<=(zcn w).size:=le_refl _
theorem zln:(acc epF w.ep (acc zaf w.im (acc rqT w.rq sNone))).size<=(zcn w).size:=zew _ _ _
theorem zlo:(acc zaf w.im (acc rqT w.rq sNone)).size<=(zcn w).size:=le_trans (zew _ _ _) (zln w)
theorem zrP:(acc rqT w.rq sNone).size<=(zcn w).size:=le_trans (zew _ _ _) (zlo w)
theorem zrQ (e:BA):e.size<=(za9 z s e).size:=by
 unfold za9
 repeat (first|split|(simp only[ByteArray.size_append];omega))
theorem zrR (ay:Bool) (G:World) (h:OwnMd G g S w) (hm:Small w) (al:Tree w->(zcn w).size<=1099511627776):
  Calls prog 55 #[zl S w,.bool ay] G fun e w'=>PrintOut (zcn w) w e/\Bw G w':=by
 have HH:=zc h;have SM:=zc hm;have HU:=zc al;obtain⟨f1,f2,f3,f4,f5⟩:=hm.few;clear h hm al;unfold zl;go_enter func55,ntmps55;go_wp2_with fail;refine (zrM g S w _ (HH.o.alloc _) f5 f4).mono ?_;rintro e w1 ⟨⟨b,rfl,I⟩,af⟩;have HT:=zc I;have ai:Hid (Bw G w1):=(bA0).trans (af.mono (by rw[zg];omega));have am:Hid (w1.heap[G.heap.size]? =some (.cells #[.slice S.rq.a w.rq.length S.rq.cap,.slice S.im.a w.im.length S.im.cap,.slice S.ep.a w.ep.length S.ep.cap,.slice S.st.a w.st.length S.st.cap,.slice S.ex.a w.ex.length S.ex.cap] 54 (0,0))):=(af.block _ (by rw[zg];omega)).trans (heap_alloc_new G _);have aq:=zc (HH.o.later ai.o);clear I af;obtain⟨c0,c1,c2,c3,c4,cf⟩:=zj am.o;cases b with
 |false=>
  go_wp2;go_ret;exact⟨.inr ⟨(fun t=>by have:=HT.o.2 t;cases this),rfl⟩,ai.o⟩
 |true=>
  have TR:=zc (HT.o.1 rfl);have HZ:=zc (HU.o TR.o);go_wp2;go_loopg [5,6] w.rq.length (fun k t i wr=>∃(j:Nat) (H:BA),i= .int .i64 j/\t= .string H/\j+k=w.rq.length/\H=acc rqT (w.rq.take j) sNone/\OwnMd wr g S w/\wr.heap[G.heap.size]? =some (.cells #[.slice S.rq.a w.rq.length S.rq.cap,.slice S.im.a w.im.length S.im.cap,.slice S.ep.a w.ep.length S.ep.cap,.slice S.st.a w.st.length S.st.cap,.slice S.ex.a w.ex.length S.ex.cap] 54 (0,0))/\Bw G wr)
  case atStart=>exact⟨0,_,rfl,rfl,by omega,rfl,aq.o,am.o,ai.o⟩
  case round=>
   obtain⟨j,H,rfl,rfl,hj,L,ho,hx,I⟩:=hrel;have q:=zc L;have X:=zc ho;have U:=zc hx;have Z:=zc I;clear L ho hx I c0 c1 c2 c3 c4 cf;obtain⟨c0,c1,c2,c3,c4,cf⟩:=zj U.o;have aa:=(aLt U.o);by_cases V:j<w.rq.length
   ·have N:(j:Int)<(w.rq.length:Int):=by omega
    obtain⟨x,A⟩:=zgX V;have D:=List.mem_of_getElem? A;have HS:=zc (zc6 rqT A sNone);have z:=zdU rqT w.rq (j+1) sNone;rw[HS.o,<-q.o,ByteArray.size_append] at z;have J:(acc rqT w.rq sNone).size<=1099511627776:=le_trans (zrP w) HZ.o;obtain⟨O,M⟩: ∃O,O=j+1:=⟨_,rfl⟩;have ej:(j:Int)+1=(O:Int):=by omega
    have HJ:=zc M;clear M;have ah:H.size<=1099511627776:=by omega
    obtain⟨F,hg,hc⟩:=X.o.rq.text V;rw[hg] at c0;have ak:w.rq.getD j sNone=x:=by rw[List.getD,A];rfl
    rw[ak] at hc;clear hg ak;have aC:=SM.o.rq x D;obtain⟨qt,ag⟩: ∃t,za3 x=t:=⟨_,rfl⟩;have ao:=zio x;rw[ag] at ao;have aA:qt.size<=8589934592:=by omega
    have QT:=zc ag;clear ag ao z J A D;go_wp2_with fail;refine (zgQ x _ (by omega)).mono ?_;rintro e w2 ⟨rfl,hw⟩;rw[hw,QT.o];clear hw w2;go_wp2;go_roundg (gk-1)
    case rel=>exact⟨O,_,rfl,rfl,by have:=HJ.o;omega,by rw[HJ.o,HS.o,<-q.o,rqT,QT.o,ByteArray.append_assoc,ByteArray.append_assoc,ByteArray.append_assoc],X.o,U.o,Z.o⟩
    case measure=>omega
   ·have N: ¬(j:Int)<(w.rq.length:Int):=by omega
    have Y:Hid (H=acc rqT w.rq sNone):=by show H=_;rw[q.o,List.take_of_length_le (by omega)]
    clear q;go_wp2;go_loopg [5,7] w.im.length (fun k t i wr=>∃(j:Nat) (H:BA),i= .int .i64 j/\t= .string H/\j+k=w.im.length/\H=acc zaf (w.im.take j) (acc rqT w.rq sNone)/\OwnMd wr g S w/\wr.heap[G.heap.size]? =some (.cells #[.slice S.rq.a w.rq.length S.rq.cap,.slice S.im.a w.im.length S.im.cap,.slice S.ep.a w.ep.length S.ep.cap,.slice S.st.a w.st.length S.st.cap,.slice S.ex.a w.ex.length S.ex.cap] 54 (0,0))/\Bw G wr)
    case atStart=>exact⟨0,_,rfl,rfl,by omega,Y.o,X.o,U.o,Z.o⟩
    case round=>
     obtain⟨j,H,rfl,rfl,hj,L,ho,hx,I⟩:=hrel;have q:=zc L;have X:=zc ho;have U:=zc hx;have Z:=zc I;clear L ho hx I c0 c1 c2 c3 c4 cf;obtain⟨c0,c1,c2,c3,c4,cf⟩:=zj U.o;have aa:=(aLt U.o);by_cases V:j<w.im.length
     ·have N:(j:Int)<(w.im.length:Int):=by omega
      obtain⟨x,A⟩:=zgX V;have D:=List.mem_of_getElem? A;have HS:=zc (zc6 zaf A (acc rqT w.rq sNone));have z:=zdU zaf w.im (j+1) (acc rqT w.rq sNone);rw[HS.o,<-q.o,ByteArray.size_append] at z;have J:(acc zaf w.im (acc rqT w.rq sNone)).size<=1099511627776:=le_trans (zlo w) HZ.o;obtain⟨O,M⟩: ∃O,O=j+1:=⟨_,rfl⟩;have ej:(j:Int)+1=(O:Int):=by omega
      have HJ:=zc M;clear M;have ah:H.size<=1099511627776:=by omega
      obtain⟨F,hg,E⟩:=OwnR.elem (f:=imL) (m:=3) (fun _=>rfl) X.o.im A;rw[hg] at c1;have k0:=E 0 (by omega);have k1:=E 1 (by omega);have k2:=E 2 (by omega);simp only[imL,add_zero,List.getElem?_cons_zero,List.getElem?_cons_succ] at k0 k1 k2;obtain⟨z1,z2,z3⟩:=SM.o.im x D;clear hg E A D;obtain⟨pt,K⟩: ∃t,zaf x=t:=⟨_,rfl⟩;have an:pt.size<=1099511627776:=by rw[<-K];omega
      have PT:=zc K;clear K z J;go_wp2_with fail;refine (zr8 x _ z1 z2 z3).mono ?_;rintro e w2 ⟨rfl,I⟩;rw[PT.o];have ab:=zc (X.o.later I);have ad:=zc ((I.block _ aa).trans U.o);have ac:=zc (Z.o.trans (I.mono Z.o.size));clear I;go_wp2;go_roundg (gk-1)
      case rel=>exact⟨O,_,rfl,rfl,by have:=HJ.o;omega,by rw[HJ.o,HS.o,<-q.o,PT.o],ab.o,ad.o,ac.o⟩
      case measure=>omega
     ·have N: ¬(j:Int)<(w.im.length:Int):=by omega
      have Y:Hid (H=acc zaf w.im (acc rqT w.rq sNone)):=by show H=_;rw[q.o,List.take_of_length_le (by omega)]
      clear q;go_wp2;go_loopg [5,8] w.ep.length (fun k t i wr=>∃(j:Nat) (H:BA),i= .int .i64 j/\t= .string H/\j+k=w.ep.length/\H=acc epF (w.ep.take j) (acc zaf w.im (acc rqT w.rq sNone))/\OwnMd wr g S w/\wr.heap[G.heap.size]? =some (.cells #[.slice S.rq.a w.rq.length S.rq.cap,.slice S.im.a w.im.length S.im.cap,.slice S.ep.a w.ep.length S.ep.cap,.slice S.st.a w.st.length S.st.cap,.slice S.ex.a w.ex.length S.ex.cap] 54 (0,0))/\Bw G wr)
      case atStart=>exact⟨0,_,rfl,rfl,by omega,Y.o,X.o,U.o,Z.o⟩
      case round=>
       obtain⟨j,H,rfl,rfl,hj,L,ho,hx,I⟩:=hrel;have q:=zc L;have X:=zc ho;have U:=zc hx;have Z:=zc I;clear L ho hx I c0 c1 c2 c3 c4 cf;obtain⟨c0,c1,c2,c3,c4,cf⟩:=zj U.o;have aa:=(aLt U.o);by_cases V:j<w.ep.length
       ·have N:(j:Int)<(w.ep.length:Int):=by omega
        obtain⟨x,A⟩:=zgX V;have D:=List.mem_of_getElem? A;have HS:=zc (zc6 epF A (acc zaf w.im (acc rqT w.rq sNone)));have z:=zdU epF w.ep (j+1) (acc zaf w.im (acc rqT w.rq sNone));rw[HS.o,<-q.o,ByteArray.size_append] at z;have J:(acc epF w.ep (acc zaf w.im (acc rqT w.rq sNone))).size<=1099511627776:=le_trans (zln w) HZ.o;obtain⟨O,M⟩: ∃O,O=j+1:=⟨_,rfl⟩;have ej:(j:Int)+1=(O:Int):=by omega
        have HJ:=zc M;clear M;have ah:H.size<=1099511627776:=by omega
        obtain⟨F,hg,E⟩:=OwnR.elem (f:=epL) (m:=4) (fun _=>rfl) X.o.ep A;rw[hg] at c2;have k0:=E 0 (by omega);have k1:=E 1 (by omega);have k2:=E 2 (by omega);have k3:=E 3 (by omega);simp only[epL,add_zero,List.getElem?_cons_zero,List.getElem?_cons_succ] at k0 k1 k2 k3;obtain⟨z1,z2,z3⟩:=SM.o.ep x D;clear hg E A D;cases hd:(x.loc.toList==[42,100,101,102,97,117,108,116]) with
        |true=>
         clear z J;go_wp2;go_roundg (gk-1)
         case rel=>exact⟨O,_,rfl,rfl,by have:=HJ.o;omega,by rw[HJ.o,HS.o,<-q.o,epF,hd];show H=H++sNone;rw[zrN],X.o,U.o,Z.o⟩
         case measure=>omega
        |false=>
         obtain⟨pt,K⟩: ∃t,zbx x=t:=⟨_,rfl⟩;have an:pt.size<=1099511627776:=by rw[<-K,<-show epF x=zbx x from (by rw[epF,hd];rfl)];omega
         have PT:=zc K;clear K z J;go_wp2_with fail;refine (zr9 x _ z1 z2 z3).mono ?_;rintro e w2 ⟨rfl,I⟩;rw[PT.o];have ab:=zc (X.o.later I);have ad:=zc ((I.block _ aa).trans U.o);have ac:=zc (Z.o.trans (I.mono Z.o.size));clear I;go_wp2;go_roundg (gk-1)
         case rel=>exact⟨O,_,rfl,rfl,by have:=HJ.o;omega,by rw[HJ.o,HS.o,<-q.o,epF,hd];show _=H++zbx x;rw[PT.o],ab.o,ad.o,ac.o⟩
         case measure=>omega
       ·have N: ¬(j:Int)<(w.ep.length:Int):=by omega
        have Y:Hid (H=acc epF w.ep (acc zaf w.im (acc rqT w.rq sNone))):=by show H=_;rw[q.o,List.take_of_length_le (by omega)]
        clear q;go_wp2;go_loopg [5,9] w.st.length (fun k t i wr=>∃(j:Nat) (H:BA),i= .int .i64 j/\t= .string H/\j+k=w.st.length/\H=acc (stF w.ex) (w.st.take j) (zcm w)/\OwnMd wr g S w/\wr.heap[G.heap.size]? =some (.cells #[.slice S.rq.a w.rq.length S.rq.cap,.slice S.im.a w.im.length S.im.cap,.slice S.ep.a w.ep.length S.ep.cap,.slice S.st.a w.st.length S.st.cap,.slice S.ex.a w.ex.length S.ex.cap] 54 (0,0))/\Bw G wr)
        case atStart=>exact⟨0,_,rfl,rfl,by omega,Y.o,X.o,U.o,Z.o⟩
        case round=>
         obtain⟨j,H,rfl,rfl,hj,L,ho,hx,I⟩:=hrel;have q:=zc L;have X:=zc ho;have U:=zc hx;have Z:=zc I;clear L ho hx I c0 c1 c2 c3 c4 cf;obtain⟨c0,c1,c2,c3,c4,cf⟩:=zj U.o;have aa:=(aLt U.o);by_cases V:j<w.st.length
         ·have N:(j:Int)<(w.st.length:Int):=by omega
          obtain⟨x,A⟩:=zgX V;have D:=List.mem_of_getElem? A;have HS:=zc (zc6 (stF w.ex) A (zcm w));have z:=zdU (stF w.ex) w.st (j+1) (zcm w);rw[HS.o,<-q.o,ByteArray.size_append] at z;have J:(acc (stF w.ex) w.st (zcm w)).size<=1099511627776:=le_trans (zrO w) HZ.o;obtain⟨O,M⟩: ∃O,O=j+1:=⟨_,rfl⟩;have ej:(j:Int)+1=(O:Int):=by omega
          have HJ:=zc M;clear M;have ah:H.size<=1099511627776:=by omega
          obtain⟨F,hg,E⟩:=OwnR.elem (f:=smL) (m:=3) (fun _=>rfl) X.o.st A;rw[hg] at c3;have k0:=E 0 (by omega);have k1:=E 1 (by omega);have k2:=E 2 (by omega);simp only[smL,add_zero,List.getElem?_cons_zero,List.getElem?_cons_succ] at k0 k1 k2;have z1:=SM.o.st x D;obtain⟨t1,t2⟩:=TR.o.stm x D;obtain⟨en,aj⟩: ∃en:Nat,x.expr=(en:Int):=⟨x.expr.toNat,by omega⟩;obtain⟨pt,K⟩: ∃t,za9 x.kind x.name (prX w.ex en)=t:=⟨_,rfl⟩;have ap:stF w.ex x=pt:=by rw[stF,aj,Int.toNat_natCast,K]
          rw[ap] at HS z;have an:pt.size<=1099511627776:=by omega
          have az:wt w.ex en<=1099511627776:=by have:=zrQ x.kind x.name (prX w.ex en);rw[K] at this;unfold wt;omega
          rw[aj] at k2;have HG:=zc hg;have cS: ∀d os,Calls prog 87 #[.agg #[.slice S.rq.a w.rq.length S.rq.cap,.slice S.im.a w.im.length S.im.cap,.slice S.ep.a w.ep.length S.ep.cap,.slice (some ⟨F,0,none⟩) w.st.length S.st.cap,.slice S.ex.a w.ex.length S.ex.cap],.agg #[.int .i64 x.kind,.string x.name,.int .i64 (en:Int)]] (grow (redrawn wr d) os) fun e ax=>e= .returned (.string pt)/\∃p:Regrown,ax=grow (redrawn wr p.d) p.os:=fun d os=>Calls.regrown_of (by rw[<-K,<-hg];exact zrH g S w x.kind x.name en _ (X.o.later (below_regrown _ d os)) (by omega) SM.o.nums TR.o.ahead az z1);have C0:=zc c0;have C1:=zc c1;have C2:=zc c2;have C3:=zc c3;have C4:=zc c4;have K0:=zc k0;have K1:=zc k1;have K2:=zc k2;clear hg E A D K ap z J aj HG;go_wp2_with fail;have y0:=cell_regrown C0.o;have y1:=cell_regrown C1.o;have y2:=cell_regrown C2.o;have y3:=cell_regrown C3.o;have y4:=cell_regrown C4.o;have av:=cell_regrown K0.o;have ar:=cell_regrown K1.o;have aw:=cell_regrown K2.o;refine wp_region_quiet_below (by kernel_rfl) (by kernel_rfl) ?_
          repeat (go_big_quiet_step (with_reducible exact cS _ _))
          refine wpQuiet_nil ?_;intro w2 au;obtain⟨⟨dq,aB⟩,ae⟩:=au;have I:Bw wr w2:=by rw[ae];exact below_regrown _ _ _
          have ab:=zc (X.o.later I);have ad:=zc ((I.block _ aa).trans U.o);have ac:=zc (Z.o.trans (I.mono Z.o.size));clear I ae y0 y1 y2 y3 y4 av ar aw cS;go_wp2;go_roundg (gk-1)
          case rel=>exact⟨O,_,rfl,rfl,by have:=HJ.o;omega,by rw[HJ.o,HS.o,<-q.o],ab.o,ad.o,ac.o⟩
          case measure=>omega
         ·have N: ¬(j:Int)<(w.st.length:Int):=by omega
          have Y:Hid (H=acc (stF w.ex) w.st (zcm w)):=by show H=_;rw[q.o,List.take_of_length_le (by omega)]
          clear q;go_wp2;go_ret;exact⟨.inl ⟨TR.o,za4 Y.o⟩,Z.o⟩
theorem Tryz.infoString:(prog.info? 9).map (fun i=>(i.zero,i.size,i.bytes))=some (some (.string {data:=#[]}),1,16):=by kernel_rfl
theorem OwnR.addr {F:Nat} (G:OwnR W d t n h F x):F=0∨∃g,h.a=some ⟨g,0,none⟩:=by
 rcases G.2 with ⟨_,D⟩|⟨g,A,z,q,_⟩
 ·exact .inl D
 ·simp only[Value.slice.injEq] at q;exact .inr ⟨g,q.1⟩
theorem OwnR.str (F:OwnR W d t 1 h A.length (A.map .string)) (z:h.a=some ⟨n,0,none⟩) (q:k<A.length):W.cell? ⟨n,k,none⟩=some (.string (A.getD k sNone)):=by
 unfold OwnR at F;rw[z] at F;rw[F.cellAt k (by omega)];simp[List.getD,q]
theorem OwnR.lt {F:Nat} {g:Nat} (G:OwnR W d t n h F x) (q:h.a=some ⟨g,0,none⟩):g<W.heap.size:=(G.typed (k:=g) (by simp[Rw.blk,q,Value.ownBlock])).2.1
theorem zrS (q:d<A.length) (h:((A.getD d sNone).toList==B.toList)=true):zaU A B=true:=by
 rw[zaU,List.any_eq_true];exact⟨A[d],List.getElem_mem q,by simpa [List.getD,q] using h⟩
theorem zrT (h: ∀j,j<A.length->((A.getD j sNone).toList==B.toList)=false):zaU A B=false:=by
 rw[Bool.eq_false_iff,zaU];intro k;rw[List.any_eq_true] at k;obtain⟨y,z,w⟩:=k;obtain⟨j,q,rfl⟩:=List.getElem_of_mem z;have:=h j q;simp only[List.getD,List.getElem?_eq_getElem q,Option.getD_some] at this;rw[this] at w;cases w
theorem zrU {x:PR} {z:Int} (G:Is x E z) (F:(decide (z<0)&&((ze D E.pos).kind==3))=false):Is2 (bd x (zM D)) E (zbB D E.pos z) sNone:=by
 unfold zbB;by_cases h:z<0
 ·obtain⟨w,A⟩:=zaK G h;simp only[h,decide_true,Bool.true_and] at F;rw[w,zB,zM,F,if_pos h];rfl
 ·obtain⟨e,w,A⟩:=zdG G h;rw[w,zeK,if_neg h];exact A
theorem zrV (x:PR) (S:Sv) (q:PS) (z:Int) (d:Nat) (w:World) (hx:Is x q z) (N:Mem C g b c S q w) (M:(decide (z<0)&&((ze C q.pos).kind==3))=false):
  Calls prog 153 #[pv C g b S q z d] w (zdS C g b c (bd x (zM C)) d S w):=by
 have O:=zc N;have h:=N.tok;have E:=N.few;have X:Hid (Is2 (bd x (zM C)) q (zbB C q.pos z) sNone):=zrU hx M;clear hx N;by_cases hz:z<0
 ·have V:decide (0<=z)=false:=decide_eq_false (by omega);simp only[hz,decide_true,Bool.true_and] at M;by_cases hp:q.pos<C.ts.length
  ·obtain⟨L,_,_,_⟩:=h.cells hp (d:=⟨0,sNone,0,C.fin⟩);have aa:=(zaw h).1;change _=some (Value.int .i64 (ze C q.pos).kind) at L;generalize U:ze C q.pos=t at L M;have ab:(t.kind !=3)=true:=by rw[bne,M];rfl
   clear U;unfold pv;go_enter func153,ntmps153;go_wp2_with fail;refine (zdE C g b c S q z d _ (zr (zr h _) _) E).mono ?_;rintro e w2 ⟨rfl,A⟩;have H:Hid (_=_):=(zcV A).2;obtain⟨L,c1,c2,c3,c4,c5,c6,c7,Y,Z,K,J,cf⟩:=zar H.o;unfold pv;go_wp2;refine bodyPost_ret (zaC rfl _ _ (w.heap.size+1) 121 _ (0,0) _ rfl (zbf H.o) underlying121 rfl (by kernel_rfl)) rfl ?_;exact zes rfl X.o O.o (zce (zbm A) (le_succ _) ..)
  ·unfold pv;go_enter func153,ntmps153;go_wp2_with fail;refine (zdE C g b c S q z d _ (zr (zr h _) _) E).mono ?_;rintro e w2 ⟨rfl,A⟩;have H:Hid (_=_):=(zcV A).2;obtain⟨L,c1,c2,c3,c4,c5,c6,c7,Y,Z,K,J,cf⟩:=zar H.o;unfold pv;go_wp2;refine bodyPost_ret (zaC rfl _ _ (w.heap.size+1) 121 _ (0,0) _ rfl (zbf H.o) underlying121 rfl (by kernel_rfl)) rfl ?_;exact zes rfl X.o O.o (zce (zbm A) (le_succ _) ..)
 ·have V:decide (0<=z)=true:=decide_eq_true (by omega);unfold pv;go_enter func153,ntmps153;go_wp2_with fail;refine (zdE C g b c S q z d _ (zr (zr h _) _) E).mono ?_;rintro e w2 ⟨rfl,A⟩;have H:Hid (_=_):=(zcV A).2;obtain⟨L,c1,c2,c3,c4,c5,c6,c7,Y,Z,K,J,cf⟩:=zar H.o;unfold pv;go_wp2;refine bodyPost_ret (zaC rfl _ _ (w.heap.size+1) 121 _ (0,0) _ rfl (zbf H.o) underlying121 rfl (by kernel_rfl)) rfl ?_;exact zes rfl X.o O.o (zce (zbm A) (le_succ _) ..)
def txt (C:Cx) (q:PS):BA:=(ze C q.pos).text
theorem zrW (w:((ze D E.pos).kind==3)=true) (h:zaU E.rq (txt D E)=true):zM D E= .ok (adv E,txt D E):=by
 unfold txt at h;rw[zM,if_pos w,if_pos h];rfl
theorem zrX (z:((ze D E.pos).kind==3)=true) (h:zaU E.rq (txt D E)=false) (w:40<=E.rq.length):zM D E= .error (zt D E.pos):=by
 unfold txt at h;rw[zM,if_pos z,h,if_pos w];rfl
theorem zrY (z:((ze D E.pos).kind==3)=true) (h:zaU E.rq (txt D E)=false) (w: ¬40<=E.rq.length):zM D E= .ok ({adv E with rq:=E.rq++[txt D E]},txt D E):=by
 unfold txt at h;rw[zM,if_pos z,h,if_neg w];rfl
theorem zlp (q:PS) (d:Nat) (w:World) (J:Mem C g b c S q w) (Y:((ze C q.pos).kind==3)=true) (F:Nat) (H:q.rq.length=0∨S.rq.a=some ⟨F,0,none⟩):
  Calls prog 153 #[pv C g b S q (-1) d] w (zdS C g b c (zM C q) d S w):=by
 obtain⟨i0,hi,ac,ah,ag⟩:=info_parts Tryz.infoString;have h:=zc J;have H3:=zc Y;have X:q.pos<C.ts.length:=zgj Y (by decide);have ak:=J.few;have ap:=J.inv.rq;have aj:=(zaw J.tok).1;obtain⟨c0,c1,_,_⟩:=J.tok.cells X (d:=⟨0,sNone,0,C.fin⟩);change _=some (Value.int .i64 (ze C q.pos).kind) at c0;change _=some (Value.string (txt C q)) at c1;generalize (ze C q.pos).kind=kd at c0 Y;have aq:(kd !=3)=false:=by rw[bne,Y];rfl
 have aa:=zc H;obtain⟨R,hR⟩: ∃R:Nat->BA,∀j,R j=q.rq.getD j sNone:=⟨fun j=>q.rq.getD j sNone,fun _=>rfl⟩;have HR:=zc hR;have HC:Hid (∀j,j<q.rq.length->w.cell? ⟨F,j,none⟩=some (.string (R j))):=fun j L=>by
  rcases H with e|e
  ·omega
  ·rw[hR];exact h.o.own.rq.str e L
 clear hR;generalize K:txt C q=tx at c1;have z:=zc K;have D:=fun o1 o2 o3=>((h.o.own.rq.alloc o1).alloc o2).alloc o3;clear K J H;unfold pv;go_enter func153,ntmps153;go_wp2;go_loop [5] (fun i=>∃k:Nat,k<=q.rq.length/\i= .int .i64 k/\∀j,j<k->¬(R j).toList=tx.toList) (fun i=>(q.rq.length-intOf i).toNat)
 case atStart=>exact⟨0,Nat.zero_le _,rfl,fun j L=>absurd L (Nat.not_lt_zero j)⟩
 case round=>
  obtain⟨k,hk,rfl,M⟩:=hrel;have O:=zc M;clear M;by_cases N:k<q.rq.length
  ·have ha:S.rq.a=some ⟨F,0,none⟩:=aa.o.elim (fun e=>by omega) id;have am:=HC.o k N;have an:=h.o.own.rq.lt ha;cases he:((R k).toList==tx.toList) with
   |true=>
    have U:Hid (zM C q= .ok (adv q,tx)):=by
     show zM C q= .ok (adv q,tx);rw[<-z.o];exact zrW H3.o (zrS N (by rw[<-HR.o,z.o];exact he))
    have HA:=zc ha;go_wp2;refine bodyPost_ret (zaC rfl _ _ (w.heap.size+1) 121 _ (0,0) _ rfl (new2 w _ _) underlying121 rfl (by kernel_rfl)) rfl ?_;rw[U.o];exact zes (q':=adv q) (z':=-1) (by rw[pv,HA.o];rfl) ⟨rfl,rfl,rfl⟩ (h.o.adv X) (zbg w _ _)
   |false=>
    have HX:Hid (∀j,j<k+1->¬(R j).toList=tx.toList):=fun j L=>by
     by_cases e:j=k
     ·rw[e];exact beq_eq_false_iff_ne.1 he
     ·exact O.o j (by omega)
    go_wp2;go_round
    case rel=>exact⟨k+1,by omega,by go_num,HX.o⟩
    case measure=>simp[intOf];omega
  ·have HN:Hid (zaU q.rq (txt C q)=false):=zrT fun j L=>by rw[z.o,<-HR.o];exact beq_eq_false_iff_ne.2 (O.o j (by omega))
   by_cases hn:40<=q.rq.length
   ·have qn:decide ((40:Int)<=(q.rq.length:Int))=true:=decide_eq_true (by omega);have U:Hid (zM C q= .error (zt C q.pos)):=zrX H3.o HN.o hn;go_wp2_with fail;refine (zfB C g b c S (adv q) (-1) d _ (((h.o.adv X).alloc _).alloc _) (by decide) (by simp[adv])).mono ?_;rintro e w2 ⟨rfl,I⟩;have G3:Hid (_=_):=(zcV I).2;obtain⟨b0,b1,b2,b3,b4,b5,b6,b7,b8,b9,ae,ab,bf⟩:=zar G3.o;have HB:Hid (Bw w w2):=zbm I;clear I;unfold pv;go_wp2;refine bodyPost_ret (zaC rfl _ _ (w.heap.size+1) 121 _ (0,0) _ rfl (zbf G3.o) underlying121 rfl (by kernel_rfl)) rfl ?_;rw[U.o];exact zes (q':=adv q) (z':=(zt C q.pos:Int)) rfl rfl (h.o.adv X) (zce HB.o (le_succ _) ..)
   ·have qn:decide ((40:Int)<=(q.rq.length:Int))=false:=decide_eq_false (by omega);have U:Hid (zM C q= .ok ({adv q with rq:=q.rq++[tx]},tx)):=by
     show zM C q= .ok ({adv q with rq:=q.rq++[tx]},tx);rw[<-z.o];exact zrY H3.o HN.o hn
    go_wp2_with (at_builtin;refine zbd _ rfl _ _ 22 rfl c 9 i0 _ 1 16 underlying22 hi ac ah ag rfl (by decide) (by decide) S.rq q.rq.length _ (by rfl) (D _ _ _) (w.heap.size+1+1) [.string tx] (by rfl) (by exact (new3 w _ _ _).2.2) rfl (by intro u hu;simp at hu;subst hu;rfl) (by omega) (by have:=h.o.base;rw[zag];omega) ?_);intro r' w2 hr Z V;have ai:=zc hr;have HG:=zc Z;have ad:=zc V;have E:=fun G hb=>zet (W:=w) h.o.own (le_refl _) (r:=S.rq.blk) (fun k e=>.inl e) G hb;have g1:=(Z.block w.heap.size (by rw[zag];omega) (E _ (le_refl _))).trans (new3 w _ _ _).1;have g2:=(Z.block (w.heap.size+1) (by rw[zag];omega) (E _ (by omega))).trans (new3 w _ _ _).2.1;obtain⟨a0,a1,a2,a3,a4,a5,a6,a7,a8,a9,al,ao,af⟩:=zar g1;obtain⟨b0,b1,b2,b3,b4,b5,b6,b7,b8,b9,ae,ab,bf⟩:=zar g2;have G2:=zc g2;clear g1 g2 Z hr V E D;go_wp2;refine bodyPost_ret (zaC rfl _ _ (w.heap.size+1) 121 _ (0,0) _ rfl (zbf ((zx (by omega)).trans G2.o)) underlying121 rfl (by kernel_rfl)) rfl ?_;obtain⟨m',s'⟩:=(h.o.adv X).grow_rq (x:=tx) (zdp w _ _ _) HG.o ai.o (by rw[zag];exact ad.o) (((Off.refl _ _ _).set (b:=w.heap.size) (le_refl _) (by rw[zag];omega) _ _).set12 (b:=w.heap.size+1) (by omega) (by rw[zag];omega) ..) (by show q.rq.length<40;omega);rw[U.o];exact⟨_,{adv q with rq:=q.rq++[tx]},-1,tx,by simp[pv,adv],⟨rfl,rfl,rfl⟩,m',s'⟩
theorem ze8 (x:PR) (S:Sv) (q:PS) (z:Int) (d:Nat) (w:World) (H:Is x q z) (E:Mem C g b c S q w):
  Calls prog 153 #[pv C g b S q z d] w (zdS C g b c (bd x (zM C)) d S w):=by
 cases D:(decide (z<0)&&((ze C q.pos).kind==3)) with
 |false=>exact zrV C g b c x S q z d w H E D
 |true=>
  rw[Bool.and_eq_true,decide_eq_true_eq] at D;obtain⟨rfl,rfl⟩:=zaK H D.1;rw[zB];rcases E.own.rq.addr with e|⟨F,e⟩
  ·exact zlp C g b c S q d w E D.2 0 (.inl e)
  ·exact zlp C g b c S q d w E D.2 F (.inr e)
end Go.Proofs.YtgcbmogmniahjaaGreat
