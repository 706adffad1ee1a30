/- Facts and walks that the theorem stands on. -/
import Derived.BigRegion
import Derived.Test.YtgcbmogmniahjaaGreatG23
namespace Go.Proofs.YtgcbmogmniahjaaGreat
open Go.Proofs.Tryz
set_option maxRecDepth 100000
set_option maxHeartbeats 12800000
open Go.RowKit Go.PlainAid Go.Sort
theorem Tryz.infoInt:(prog.info? 3).map (fun i=>(i.zero,i.size,i.bytes))=some (some (.int .i64 0),1,8):=by kernel_rfl
theorem zkG (n:Nat):(madeCells #[.int .i64 0] n).toList=zar n (fun _=>0):=by
 rw[toList_madeCells_one];unfold zar;rw[List.map_const',List.length_range];rfl
theorem zeM {w:World} {base g n q:Nat} {f:Nat->Nat} (h:w.ownsRow base 3 1 (.slice (some ⟨g,0,none⟩) n q) n (zar n f)) {k:Nat} (z:k<n):w.cell? ⟨g,k,none⟩=some (.int .i64 (f k:Int)):=by
 rw[h.cellAt k (by omega)];exact zg8 f z
theorem zg9 {w:World} {base g n q:Nat} {f:Nat->Nat} (h:w.ownsRow base 3 1 (.slice (some ⟨g,0,none⟩) n q) n (zar n f)) (k v:Nat) (z:v=f k+1):(w.setCell ⟨g,k,none⟩ (.int .i64 (v:Int))).ownsRow base 3 1 (.slice (some ⟨g,0,none⟩) n q) n (zar n (zaI f k)):=by
 have:=(h.stored k (.int .i64 (v:Int))).1;rw[zqY f (zaI f k) v (by rw[zqZ,z]) (fun j A=>zra f A)] at this;exact this
theorem zfB {w A:World} {base g n q:Nat} {xs:List Value} (h:w.ownsRow base 3 1 (.slice (some ⟨g,0,none⟩) n q) n xs) (D:Below w.heap.size w A):A.ownsRow base 3 1 (.slice (some ⟨g,0,none⟩) n q) n xs:=by
 have z:OwnR w base 3 1 ⟨some ⟨g,0,none⟩,q⟩ n xs:=h;exact z.keep fun k e=>D.block k (z.typed e).2.1
theorem zhR {w:World} {base g n q:Nat} {xs:List Value} (h:w.ownsRow base 3 1 (.slice (some ⟨g,0,none⟩) n q) n xs):base<=g/\g<w.heap.size:=by
 have z:OwnR w base 3 1 ⟨some ⟨g,0,none⟩,q⟩ n xs:=h;exact⟨(z.typed rfl).1,(z.typed rfl).2.1⟩
theorem zgA {w:World} {base g k:Nat} {S:Sv} {m:Md} {u:Value} (h:OwnMd w base S m) (K: ∀b,w.heap[g]? =some b->∃A,b= .cells A 3 (0,0)):OwnMd (w.setCell ⟨g,k,none⟩ u) base S m:=by
 have D: ∀(e:TypeId) (q n:Nat) (r:Rw) (E:List Value),OwnR w base e q r n E->e≠3->OwnR (w.setCell ⟨g,k,none⟩ u) base e q r n E:=fun e q n r E h H=>h.keep fun b J=>Below.heap_setCell w ⟨g,k,none⟩ u b (fun I=>by
  obtain⟨_,_,c,L⟩:=h.typed J;obtain⟨A,z⟩:=K _ (by rw[<-show b=g from I];exact L);simp only[Obj.cells.injEq] at z
  exact H z.2.1)
 exact⟨D _ _ _ _ _ h.rq (by decide),D _ _ _ _ _ h.im (by decide),D _ _ _ _ _ h.ep (by decide),D _ _ _ _ _ h.st (by decide),D _ _ _ _ _ h.ex (by decide)⟩
def cE (ex:List Ex) (j:Nat):Nat->Nat:=fun k=>zas (ex.take j) (k:Int)
theorem OwnMd.drewI {w:World} {base:Nat} {S:Sv} {m:Md} (h:OwnMd w base S m):OwnMd w.drew base S m:=⟨h.rq,h.im,h.ep,h.st,h.ex⟩
def cS (m:Md) (j:Nat):Nat->Nat:=fun k=>zas m.ex (k:Int)+zaL (m.st.take j) (k:Int)
def zgB (m:Md) (e:Ending):Prop:=∃b,e= .returned (.bool b)/\(b=true↔Tree m)
theorem zcR {m:Md} (h: ¬Tree m):zgB m (.returned (.bool false)):=⟨false,rfl,⟨(fun k=>by cases k),fun t=>absurd t h⟩⟩
theorem zkH {m:Md} (h:Tree m):zgB m (.returned (.bool true)):=⟨true,rfl,⟨fun _=>h,fun _=>rfl⟩⟩
theorem zgC {w:World} {base g n q:Nat} {xs:List Value} (h:w.ownsRow base 3 1 (.slice (some ⟨g,0,none⟩) n q) n xs): ∀b,w.heap[g]? =some b->∃z,b= .cells z 3 (0,0):=by
 have D:OwnR w base 3 1 ⟨some ⟨g,0,none⟩,q⟩ n xs:=h;obtain⟨_,_,c,E⟩:=D.typed rfl;intro b A;rw[E] at A;exact⟨c,(Option.some.inj A).symm⟩
theorem zrb (base:Nat) (S:Sv) (m:Md) (w:World) (h:OwnMd w base S m) (hl:m.ex.length<=4294967296) (hs:m.st.length<=4294967296):
  Calls prog 83 #[zl S m] w fun e w'=>zgB m e/\Below w.heap.size w w':=by
 obtain⟨i0,hi,aM,aW,aT⟩:=info_parts Tryz.infoInt;have HH:=zc h;clear h;unfold zl;go_enter func83,ntmps83;go_wp2_with (first|(at_make;refine wpList_make_full _ rfl _ _ 36 rfl (w.heap.size+1) 3 i0 (.int .i64 0) 1 underlying36 hi aM aW .i64 .i64 _ _ m.ex.length (by rfl) (by rfl) rfl rfl (by rw[aT];omega) (by unfold maxLen;omega) (by rw[zg];omega) ?_));intro w1 ad X;rw[zkG] at ad;have bb:Below (w.heap.size+1) (w.alloc _) w1:=⟨X.os,X.tape,X.output,X.size,fun k hk=>X.block k (by rw[zg];exact hk) (by simp)⟩;have aD:Hid (Below w.heap.size w w1):=((Below.refl _ _).alloc (Nat.le_refl _) _).trans (bb.mono (by omega));have aC:Hid (w1.heap[w.heap.size]? =some (.cells #[.slice S.rq.a m.rq.length S.rq.cap,.slice S.im.a m.im.length S.im.cap,.slice S.ep.a m.ep.length S.ep.cap,.slice S.st.a m.st.length S.st.cap,.slice S.ex.a m.ex.length S.ex.cap] 54 (0,0))):=(bb.block _ (by omega)).trans (heap_alloc_new w _);have aL:=zc (HH.o.later aD.o);have aO:Hid (w1.ownsRow (w.heap.size+1) 3 1 (.slice (some ⟨w.heap.size+1,0,none⟩) m.ex.length m.ex.length) m.ex.length (zar m.ex.length (cE m.ex 0))):=by show World.ownsRow _ _ _ _ _ _ _;rw[show zar m.ex.length (cE m.ex 0)=zar m.ex.length (fun _=>0) from zep fun k _=>by simp[cE,zas]];exact ad
 clear ad X bb;obtain⟨c0,c1,c2,c3,c4,cf⟩:=zj aC.o;go_wp2;go_loopg [4] m.ex.length (fun k i wr=>∃j:Nat,i= .int .i64 j/\j+k=m.ex.length/\AheadTo m.ex j/\wr.ownsRow (w.heap.size+1) 3 1 (.slice (some ⟨w.heap.size+1,0,none⟩) m.ex.length m.ex.length) m.ex.length (zar m.ex.length (cE m.ex j))/\OwnMd wr base S m/\wr.heap[w.heap.size]? =some (.cells #[.slice S.rq.a m.rq.length S.rq.cap,.slice S.im.a m.im.length S.im.cap,.slice S.ep.a m.ep.length S.ep.cap,.slice S.st.a m.st.length S.st.cap,.slice S.ex.a m.ex.length S.ex.cap] 54 (0,0))/\Below w.heap.size w wr)
 case atStart=>exact⟨0,rfl,by omega,fun i x hi=>absurd hi (Nat.not_lt_zero i),aO.o,aL.o,aC.o,aD.o⟩
 case round=>
  obtain⟨j,rfl,hj,ah,z,M,N,I⟩:=hrel;have AH:=zc ah;have HN:=zc z;have HO:=zc M;have HX:=zc N;have U:=zc I;clear ah z M N I;clear c0 c1 c2 c3 c4 cf;obtain⟨c0,c1,c2,c3,c4,cf⟩:=zj HX.o;have ak:=(aLt HX.o);by_cases A:j<m.ex.length
  ·have aB:(j:Int)<(m.ex.length:Int):=by omega
   obtain⟨g,hg,bj,x0,x1,x2,x3,x4,x5⟩:=HO.o.expr A;rw[hg] at c4;clear hg;have aA:=zc (zdV A);obtain⟨x,am⟩: ∃x,m.ex.getD j zh=x:=⟨_,rfl⟩;rw[am] at x0 x1 x2 x3 x4 x5;have K:Hid (m.ex[j]=x):=aA.o.symm.trans am;clear am aA;obtain⟨J,E⟩: ∃J,J=j+1:=⟨_,rfl⟩;have ej:(j:Int)+1=(J:Int):=by omega
   have O:=zc E;clear E;have Y:Hid (Below wr.heap.size wr (wr.alloc (.cells #[.int .i64 x.kind,.int .i64 x.num,.string x.name,.string x.field,.int .i64 x.l,.int .i64 x.r] 100))):=(Below.refl _ _).alloc (Nat.le_refl _) _;go_wp2_with fail;refine (zk7 x.kind _).mono ?_;rintro e w2 ⟨rfl,hw⟩;rw[hw];clear hw w2;cases ht:zZ x.kind with
   |false=>
    go_wp2;go_roundg (gk-1)
    case rel=>exact⟨J,rfl,by have:=O.o;omega,by rw[O.o];exact AH.o.next A (fun k=>by rw[K.o,ht] at k;cases k),by rw[O.o,show zar m.ex.length (cE m.ex (j+1))=zar m.ex.length (cE m.ex j) from zep fun k _=>(zkE A (by rw[K.o];exact ht) k).symm];exact zfB HN.o Y.o,HO.o.later Y.o,(Y.o.block _ ak).trans HX.o,U.o.trans (Y.o.mono U.o.size)⟩
    case measure=>omega
   |true=>
    by_cases a1:x.l<0
    ·have ac:decide (x.l<0)=true:=decide_eq_true a1;go_wp2;go_ret;exact⟨zcR (fun (t:Tree m)=>absurd t.ahead (AheadTo.not A (by rw[K.o];exact ht) (by rw[K.o];omega))),U.o.trans (Y.o.mono U.o.size)⟩
    have ac:decide (x.l<0)=false:=decide_eq_false a1;by_cases a2:(j:Int)<=x.l
    ·have af:decide ((j:Int)<=x.l)=true:=decide_eq_true a2;go_wp2;go_ret;exact⟨zcR (fun (t:Tree m)=>absurd t.ahead (AheadTo.not A (by rw[K.o];exact ht) (by rw[K.o];omega))),U.o.trans (Y.o.mono U.o.size)⟩
    have af:decide ((j:Int)<=x.l)=false:=decide_eq_false a2;by_cases a3:x.r<0
    ·have aE:decide (x.r<0)=true:=decide_eq_true a3;go_wp2;go_ret;exact⟨zcR (fun (t:Tree m)=>absurd t.ahead (AheadTo.not A (by rw[K.o];exact ht) (by rw[K.o];omega))),U.o.trans (Y.o.mono U.o.size)⟩
    have aE:decide (x.r<0)=false:=decide_eq_false a3;by_cases a4:(j:Int)<=x.r
    ·have aH:decide ((j:Int)<=x.r)=true:=decide_eq_true a4;go_wp2;go_ret;exact⟨zcR (fun (t:Tree m)=>absurd t.ahead (AheadTo.not A (by rw[K.o];exact ht) (by rw[K.o];omega))),U.o.trans (Y.o.mono U.o.size)⟩
    have aH:decide ((j:Int)<=x.r)=false:=decide_eq_false a4;go_wp2_with fail;obtain⟨q,aa⟩: ∃q:Nat,x.l=(q:Int):=⟨x.l.toNat,by omega⟩;obtain⟨D,Z⟩: ∃D:Nat,x.r=(D:Int):=⟨x.r.toNat,by omega⟩;have bt:q<m.ex.length:=by omega
    have bl:D<m.ex.length:=by omega
    have a0:(q:Int)<(m.ex.length:Int):=by omega
    have a6:(D:Int)<(m.ex.length:Int):=by omega
    have aN:Hid (AheadTo m.ex (j+1)):=AH.o.next A (fun _=>by rw[K.o];omega);have HU:Hid (∀k:Nat,zaI (zaI (cE m.ex j) q) D k=cE m.ex (j+1) k):=fun k=>by have:=zkD A (by rw[K.o];exact ht) (by rw[K.o];omega) (by rw[K.o];omega) k;rw[K.o,aa,Z] at this;exact this
    have aF:=zg7 (m.ex.take j);have aZ:(m.ex.take j).length<=4294967296:=by rw[List.length_take];omega
    have be:=(zhR HN.o).2;refine zy (R:=fun W=>W.heap[wr.heap.size]? =some (.cells #[.int .i64 x.kind,.int .i64 x.num,.string x.name,.string x.field,.int .i64 (q:Int),.int .i64 (D:Int)] 100 (0,0))/\W.ownsRow (w.heap.size+1) 3 1 (.slice (some ⟨w.heap.size+1,0,none⟩) m.ex.length m.ex.length) m.ex.length (zar m.ex.length (cE m.ex j))/\OwnMd W base S m/\W.heap[w.heap.size]? =some (.cells #[.slice S.rq.a m.rq.length S.rq.cap,.slice S.im.a m.im.length S.im.cap,.slice S.ep.a m.ep.length S.ep.cap,.slice S.st.a m.st.length S.st.cap,.slice S.ex.a m.ex.length S.ex.cap] 54 (0,0))/\Below w.heap.size w W) ⟨by have:=heap_alloc_new wr (.cells #[.int .i64 x.kind,.int .i64 x.num,.string x.name,.string x.field,.int .i64 x.l,.int .i64 x.r] 100);rw[aa,Z] at this;rw[aa,Z];exact this,zfB HN.o Y.o,HO.o.later Y.o,(Y.o.block _ ak).trans HX.o,U.o.trans (Y.o.mono U.o.size)⟩ ?_;have bn:=zc aa;have bf:=zc Z;clear aa Z ac af aE aH a1 a2 a3 a4;rintro W ⟨xb,z,M,N,I⟩;have bk:=zc xb;have bm:=zc z;have bg:=zc M;have bo:=zc N;have bs:=zc I;obtain⟨s0,s1,s2,s3,s4,s5,sf⟩:=zw xb;obtain⟨va,ai⟩: ∃v,(cE m.ex j) q=v:=⟨_,rfl⟩;have ea:=zeM z (k:=q) (by omega);have ef:=z.frozenAt;rw[ai] at ea;have a9:va<=17179869184:=by rw[<-ai];have:=aF (q:Int);unfold cE;omega
    obtain⟨ua,aw⟩: ∃u,u=va+1:=⟨_,rfl⟩;have bq:(va:Int)+1=(ua:Int):=by omega
    have a8:IntKind.i64.wrap (ua:Int)=(ua:Int):=IntWalk.i64_in _ ⟨by omega,by omega⟩;have aQ:Hid ((W.setCell ⟨w.heap.size+1,q,none⟩ (.int .i64 (ua:Int))).ownsRow (w.heap.size+1) 3 1 (.slice (some ⟨w.heap.size+1,0,none⟩) m.ex.length m.ex.length) m.ex.length (zar m.ex.length (zaI (cE m.ex j) q))):=zg9 z q ua (by rw[aw,ai]);have aX:Hid (OwnMd (W.setCell ⟨w.heap.size+1,q,none⟩ (.int .i64 (ua:Int))) base S m):=zgA M (zgC z);have aP:Hid ((W.setCell ⟨w.heap.size+1,q,none⟩ (.int .i64 (ua:Int))).heap[w.heap.size]? =some (.cells #[.slice S.rq.a m.rq.length S.rq.cap,.slice S.im.a m.im.length S.im.cap,.slice S.ep.a m.ep.length S.ep.cap,.slice S.st.a m.st.length S.st.cap,.slice S.ex.a m.ex.length S.ex.cap] 54 (0,0))):=(zv (by omega)).trans N;have aV:Hid (Below w.heap.size w (W.setCell ⟨w.heap.size+1,q,none⟩ (.int .i64 (ua:Int)))):=I.setCell (Nat.le_succ _) _;have aY:Hid ((W.setCell ⟨w.heap.size+1,q,none⟩ (.int .i64 (ua:Int))).heap[wr.heap.size]? =some (.cells #[.int .i64 x.kind,.int .i64 x.num,.string x.name,.string x.field,.int .i64 (q:Int),.int .i64 (D:Int)] 100 (0,0))):=(zv (by omega)).trans xb;clear xb z M N I ai aw;go_region;clear s0 s1 s2 s3 s4 s5 sf ef ea;go_wp2_with fail;refine zy (R:=fun W=>W.heap[wr.heap.size]? =some (.cells #[.int .i64 x.kind,.int .i64 x.num,.string x.name,.string x.field,.int .i64 (q:Int),.int .i64 (D:Int)] 100 (0,0))/\W.ownsRow (w.heap.size+1) 3 1 (.slice (some ⟨w.heap.size+1,0,none⟩) m.ex.length m.ex.length) m.ex.length (zar m.ex.length (zaI (cE m.ex j) q))/\OwnMd W base S m/\W.heap[w.heap.size]? =some (.cells #[.slice S.rq.a m.rq.length S.rq.cap,.slice S.im.a m.im.length S.im.cap,.slice S.ep.a m.ep.length S.ep.cap,.slice S.st.a m.st.length S.st.cap,.slice S.ex.a m.ex.length S.ex.cap] 54 (0,0))/\Below w.heap.size w W) ⟨aY.o,aQ.o,aX.o.drewI,aP.o,aV.o.drew⟩ ?_;rintro V ⟨xb,z,M,N,I⟩;have bv:=zc xb;have bp:=zc z;have bc:=zc M;have bu:=zc N;have bh:=zc I;obtain⟨s0,s1,s2,s3,s4,s5,sf⟩:=zw xb;obtain⟨vb,ae⟩: ∃v,(zaI (cE m.ex j) q) D=v:=⟨_,rfl⟩;have eb:=zeM z (k:=D) (by omega);have ef:=z.frozenAt;rw[ae] at eb;have a5:vb<=17179869184:=by rw[<-ae];have:=aF (D:Int);unfold zaI cE;split<;>omega
    obtain⟨ub,an⟩: ∃u,u=vb+1:=⟨_,rfl⟩;have bi:(vb:Int)+1=(ub:Int):=by omega
    have a7:IntKind.i64.wrap (ub:Int)=(ub:Int):=IntWalk.i64_in _ ⟨by omega,by omega⟩;have aK:Hid ((V.setCell ⟨w.heap.size+1,D,none⟩ (.int .i64 (ub:Int))).ownsRow (w.heap.size+1) 3 1 (.slice (some ⟨w.heap.size+1,0,none⟩) m.ex.length m.ex.length) m.ex.length (zar m.ex.length (zaI (zaI (cE m.ex j) q) D))):=zg9 z D ub (by rw[an,ae]);have aS:Hid (OwnMd (V.setCell ⟨w.heap.size+1,D,none⟩ (.int .i64 (ub:Int))) base S m):=zgA M (zgC z);have aJ:Hid ((V.setCell ⟨w.heap.size+1,D,none⟩ (.int .i64 (ub:Int))).heap[w.heap.size]? =some (.cells #[.slice S.rq.a m.rq.length S.rq.cap,.slice S.im.a m.im.length S.im.cap,.slice S.ep.a m.ep.length S.ep.cap,.slice S.st.a m.st.length S.st.cap,.slice S.ex.a m.ex.length S.ex.cap] 54 (0,0))):=(zv (by omega)).trans N;have aU:Hid (Below w.heap.size w (V.setCell ⟨w.heap.size+1,D,none⟩ (.int .i64 (ub:Int)))):=I.setCell (Nat.le_succ _) _;have br:Hid ((V.setCell ⟨w.heap.size+1,D,none⟩ (.int .i64 (ub:Int))).heap[wr.heap.size]? =some (.cells #[.int .i64 x.kind,.int .i64 x.num,.string x.name,.string x.field,.int .i64 (q:Int),.int .i64 (D:Int)] 100 (0,0))):=(zv (by omega)).trans xb;clear xb z M N I ae an;go_region;clear s0 s1 s2 s3 s4 s5 sf ef eb;go_wp2;go_roundg (gk-1)
    case rel=>exact⟨J,rfl,by have:=O.o;omega,by rw[O.o];exact aN.o,by rw[O.o,<-zep fun k _=>HU.o k];exact aK.o,aS.o.drewI,aJ.o,aU.o.drew⟩
    case measure=>omega
  ·have aB: ¬(j:Int)<(m.ex.length:Int):=by omega
   obtain rfl:j=m.ex.length:=by omega
   have HA:=zc AH.o.all;have HC:Hid (wr.ownsRow (w.heap.size+1) 3 1 (.slice (some ⟨w.heap.size+1,0,none⟩) m.ex.length m.ex.length) m.ex.length (zar m.ex.length (cS m 0))):=by show World.ownsRow _ _ _ _ _ _ _;rw[show zar m.ex.length (cS m 0)=zar m.ex.length (cE m.ex m.ex.length) from zep fun k _=>by simp[cE,cS,zaL]];exact HN.o
   go_wp2;go_loopg [6] m.st.length (fun k i wr=>∃j:Nat,i= .int .i64 j/\j+k=m.st.length/\(∀s∈m.st.take j,0<=s.expr/\s.expr<(m.ex.length:Int))/\wr.ownsRow (w.heap.size+1) 3 1 (.slice (some ⟨w.heap.size+1,0,none⟩) m.ex.length m.ex.length) m.ex.length (zar m.ex.length (cS m j))/\OwnMd wr base S m/\wr.heap[w.heap.size]? =some (.cells #[.slice S.rq.a m.rq.length S.rq.cap,.slice S.im.a m.im.length S.im.cap,.slice S.ep.a m.ep.length S.ep.cap,.slice S.st.a m.st.length S.st.cap,.slice S.ex.a m.ex.length S.ex.cap] 54 (0,0))/\Below w.heap.size w wr)
   case atStart=>exact⟨0,rfl,by omega,(fun s hs=>by simp at hs),HC.o,HO.o,HX.o,U.o⟩
   case round=>
    obtain⟨j,rfl,bx,ah,z,M,N,I⟩:=hrel;have AS:=zc ah;have ab:=zc z;have ay:=zc M;have aG:=zc N;have ag:=zc I;clear ah z M N I c0 c1 c2 c3 c4 cf;obtain⟨c0,c1,c2,c3,c4,cf⟩:=zj aG.o;by_cases H:j<m.st.length
    ·have ap:(j:Int)<(m.st.length:Int):=by omega
     obtain⟨s,av⟩: ∃s,m.st[j]? =some s:=⟨_,List.getElem?_eq_getElem H⟩;obtain⟨g,hg,aI⟩:=OwnR.elem (f:=smL) (m:=3) (fun _=>rfl) ay.o.st av;have k2:=aI 2 (by omega);simp only[smL,List.getElem?_cons_zero,List.getElem?_cons_succ] at k2;rw[hg] at c3;obtain⟨_,aj⟩:=List.getElem?_eq_some_iff.1 av;have HS:Hid (m.st[j]=s):=aj;clear hg aI av aj;obtain⟨J,E⟩: ∃J,J=j+1:=⟨_,rfl⟩;have ej:(j:Int)+1=(J:Int):=by omega
     have O:=zc E;clear E;by_cases a1:s.expr<0
     ·have ac:decide (s.expr<0)=true:=decide_eq_true a1;go_wp2;go_ret;exact⟨zcR (fun (t:Tree m)=>by have:=t.stm _ (List.getElem_mem H);rw[HS.o] at this;omega),ag.o⟩
     have ac:decide (s.expr<0)=false:=decide_eq_false a1;by_cases a2:(m.ex.length:Int)<=s.expr
     ·have af:decide ((m.ex.length:Int)<=s.expr)=true:=decide_eq_true a2;go_wp2;go_ret;exact⟨zcR (fun (t:Tree m)=>by have:=t.stm _ (List.getElem_mem H);rw[HS.o] at this;omega),ag.o⟩
     have af:decide ((m.ex.length:Int)<=s.expr)=false:=decide_eq_false a2;obtain⟨L,ar⟩: ∃L:Nat,s.expr=(L:Int):=⟨s.expr.toNat,by omega⟩;have aR:L<m.ex.length:=by omega
     have ba:(L:Int)<(m.ex.length:Int):=by omega
     have au:Hid (∀s∈m.st.take (j+1),0<=s.expr/\s.expr<(m.ex.length:Int)):=by
      intro y hy;rw[List.take_succ_eq_append_getElem H,List.mem_append] at hy;rcases hy with hy|hy
      ·exact AS.o y hy
      ·simp only[List.mem_singleton] at hy;rw[hy,HS.o];omega
     have HU:Hid (∀k:Nat,zaI (cS m j) L k=cS m (j+1) k):=fun k=>by have:=zkF (ex:=m.ex) H (by rw[HS.o];omega) k;rw[HS.o,ar] at this;exact this
     rw[ar] at k2 a1 a2 ac af;obtain⟨v,hv⟩: ∃v,cS m j L=v:=⟨_,rfl⟩;have ea:=zeM ab.o aR;have ef:=ab.o.frozenAt;rw[hv] at ea;have ae:v<=17179869184:=by rw[<-hv];unfold cS;have:=zg7 m.ex (L:Int);have:=zkC (m.st.take j) (L:Int);rw[List.length_take] at this;omega
     obtain⟨u,hu⟩: ∃u,u=v+1:=⟨_,rfl⟩;have ev:(v:Int)+1=(u:Int):=by omega
     have an:u<=17179869185:=by omega
     have NN:Hid ((wr.setCell ⟨w.heap.size+1,L,none⟩ (.int .i64 (u:Int))).ownsRow (w.heap.size+1) 3 1 (.slice (some ⟨w.heap.size+1,0,none⟩) m.ex.length m.ex.length) m.ex.length (zar m.ex.length (zaI (cS m j) L))):=zg9 ab.o L u (by rw[hu,hv]);have NO:Hid (OwnMd (wr.setCell ⟨w.heap.size+1,L,none⟩ (.int .i64 (u:Int))) base S m):=zgA ay.o (zgC ab.o);have NX:Hid ((wr.setCell ⟨w.heap.size+1,L,none⟩ (.int .i64 (u:Int))).heap[w.heap.size]? =some (.cells #[.slice S.rq.a m.rq.length S.rq.cap,.slice S.im.a m.im.length S.im.cap,.slice S.ep.a m.ep.length S.ep.cap,.slice S.st.a m.st.length S.st.cap,.slice S.ex.a m.ex.length S.ex.cap] 54 (0,0))):=(zv (by omega)).trans aG.o;have NB:Hid (Below w.heap.size w (wr.setCell ⟨w.heap.size+1,L,none⟩ (.int .i64 (u:Int)))):=ag.o.setCell (Nat.le_succ _) _;clear ar hv hu;go_wp2;go_roundg (gk-1)
     case rel=>exact⟨J,rfl,by have:=O.o;omega,by rw[O.o];exact au.o,by rw[O.o,<-zep fun k _=>HU.o k];exact NN.o,NO.o,NX.o,NB.o⟩
     case measure=>omega
    ·have ap: ¬(j:Int)<(m.st.length:Int):=by omega
     obtain rfl:j=m.st.length:=by omega
     have au:Hid (∀s∈m.st,0<=s.expr/\s.expr<(m.ex.length:Int)):=by have:=AS.o;rw[List.take_length] at this;exact this
     go_wp2;go_loopg [8] m.ex.length (fun k i wr=>∃j:Nat,i= .int .i64 j/\j+k=m.ex.length/\(∀k,k<j->cS m m.st.length k=1)/\wr.ownsRow (w.heap.size+1) 3 1 (.slice (some ⟨w.heap.size+1,0,none⟩) m.ex.length m.ex.length) m.ex.length (zar m.ex.length (cS m m.st.length))/\Below w.heap.size w wr)
     case atStart=>exact⟨0,rfl,by omega,fun k hk=>absurd hk (Nat.not_lt_zero k),ab.o,ag.o⟩
     case round=>
      obtain⟨j,rfl,bw,ah,z,I⟩:=hrel;have AC:=zc ah;have az:=zc z;have ao:=zc I;clear ah z I c0 c1 c2 c3 c4 cf;by_cases al:j<m.ex.length
      ·have aq:(j:Int)<(m.ex.length:Int):=by omega
       obtain⟨v,hv⟩: ∃v,cS m m.st.length j=v:=⟨_,rfl⟩;have ea:=zeM az.o al;rw[hv] at ea;have HV:=zc hv;clear hv;obtain⟨J,E⟩: ∃J,J=j+1:=⟨_,rfl⟩;have ej:(j:Int)+1=(J:Int):=by omega
       have O:=zc E;clear E;by_cases ax:v=1
       ·subst ax;go_wp2;go_roundg (gk-1)
        case rel=>exact⟨J,rfl,by have:=O.o;omega,(fun k hk=>(Nat.lt_or_eq_of_le (show k<=j by have:=O.o;omega)).elim (AC.o k) (fun e=>by rw[e];exact HV.o)),az.o,ao.o⟩
        case measure=>omega
       ·have dv:((v:Int) !=1)=true:=by rw[bne_iff_ne];omega
        go_wp2;go_ret;exact⟨zcR (fun (t:Tree m)=>absurd (by have:=t.once j al;have h2:=HV.o;unfold cS at h2;rw[List.take_length] at h2;omega) ax),ao.o⟩
      ·have aq: ¬(j:Int)<(m.ex.length:Int):=by omega
       go_wp2;go_ret;exact⟨zkH ⟨HA.o,au.o,fun k hk=>by have:=AC.o k (by omega);unfold cS at this;rw[List.take_length] at this;exact this⟩,ao.o⟩
theorem zgD {α:Type} {l:List α} {j:Nat} (h:j<l.length): ∃x,l[j]? =some x:=⟨_,List.getElem?_eq_getElem h⟩
theorem zrc (t:BA):t++sNone=t:=by
 cases t with
 |mk d=>
  show ByteArray.append _ _=_;simp[ByteArray.append]
theorem zrd (m:Md):(acc (stF m.ex) m.st (zce m)).size<=(zcf m).size:=Nat.le_refl _
theorem zkI (m:Md):(acc epF m.ep (acc zac m.im (acc rqT m.rq sNone))).size<=(zcf m).size:=zee _ _ _
theorem zkJ (m:Md):(acc zac m.im (acc rqT m.rq sNone)).size<=(zcf m).size:=Nat.le_trans (zee _ _ _) (zkI m)
theorem zre (m:Md):(acc rqT m.rq sNone).size<=(zcf m).size:=Nat.le_trans (zee _ _ _) (zkJ m)
theorem zrf (k:Int) (n e:BA):e.size<=(za4 k n e).size:=by
 unfold za4
 repeat (first|split|(simp only[ByteArray.size_append];omega))
theorem zrg (base:Nat) (S:Sv) (m:Md) (ay:Bool) (w:World) (h:OwnMd w base S m) (hm:Small m) (al:Tree m->(zcf m).size<=1099511627776):
  Calls prog 55 #[zl S m,.bool ay] w fun e w'=>PrintOut (zcf m) m e/\Below w.heap.size w w':=by
 have HH:=zc h;have SM:=zc hm;have HU:=zc al;obtain⟨f1,f2,f3,f4,f5⟩:=hm.few;clear h hm al;unfold zl;go_enter func55,ntmps55;go_wp2_with fail;refine (zrb base S m _ (HH.o.alloc _) f5 f4).mono ?_;rintro e w1 ⟨⟨b,rfl,I⟩,af⟩;have HT:=zc I;have ai:Hid (Below w.heap.size w w1):=((Below.refl _ _).alloc (Nat.le_refl _) _).trans (af.mono (by rw[zg];omega));have am:Hid (w1.heap[w.heap.size]? =some (.cells #[.slice S.rq.a m.rq.length S.rq.cap,.slice S.im.a m.im.length S.im.cap,.slice S.ep.a m.ep.length S.ep.cap,.slice S.st.a m.st.length S.st.cap,.slice S.ex.a m.ex.length S.ex.cap] 54 (0,0))):=(af.block _ (by rw[zg];omega)).trans (heap_alloc_new w _);have aq:=zc (HH.o.later ai.o);clear I af;obtain⟨c0,c1,c2,c3,c4,cf⟩:=zj am.o;cases b with
 |false=>
  go_wp2;go_ret;exact⟨.inr ⟨(fun t=>by have:=HT.o.2 t;cases this),rfl⟩,ai.o⟩
 |true=>
  have TR:=zc (HT.o.1 rfl);have HZ:=zc (HU.o TR.o);go_wp2;go_loopg [5,6] m.rq.length (fun k t i wr=>∃(j:Nat) (H:BA),i= .int .i64 j/\t= .string H/\j+k=m.rq.length/\H=acc rqT (m.rq.take j) sNone/\OwnMd wr base S m/\wr.heap[w.heap.size]? =some (.cells #[.slice S.rq.a m.rq.length S.rq.cap,.slice S.im.a m.im.length S.im.cap,.slice S.ep.a m.ep.length S.ep.cap,.slice S.st.a m.st.length S.st.cap,.slice S.ex.a m.ex.length S.ex.cap] 54 (0,0))/\Below w.heap.size w wr)
  case atStart=>exact⟨0,_,rfl,rfl,by omega,rfl,aq.o,am.o,ai.o⟩
  case round=>
   obtain⟨j,H,rfl,rfl,hj,L,ho,hx,I⟩:=hrel;have q:=zc L;have X:=zc ho;have U:=zc hx;have Z:=zc I;clear L ho hx I c0 c1 c2 c3 c4 cf;obtain⟨c0,c1,c2,c3,c4,cf⟩:=zj U.o;have aa:=(aLt U.o);by_cases V:j<m.rq.length
   ·have N:(j:Int)<(m.rq.length:Int):=by omega
    obtain⟨x,A⟩:=zgD V;have D:=List.mem_of_getElem? A;have HS:=zc (zcz rqT A sNone);have z:=zdD rqT m.rq (j+1) sNone;rw[HS.o,<-q.o,ByteArray.size_append] at z;have J:(acc rqT m.rq sNone).size<=1099511627776:=Nat.le_trans (zre m) HZ.o;obtain⟨O,M⟩: ∃O,O=j+1:=⟨_,rfl⟩;have ej:(j:Int)+1=(O:Int):=by omega
    have HJ:=zc M;clear M;have ah:H.size<=1099511627776:=by omega
    obtain⟨g,hg,hc⟩:=X.o.rq.text V;rw[hg] at c0;have ak:m.rq.getD j sNone=x:=by rw[List.getD,A];rfl
    rw[ak] at hc;clear hg ak;have aC:=SM.o.rq x D;obtain⟨qt,ag⟩: ∃t,zaz x=t:=⟨_,rfl⟩;have ao:=zhP x;rw[ag] at ao;have aA:qt.size<=8589934592:=by omega
    have QT:=zc ag;clear ag ao z J A D;go_wp2_with fail;refine (zg6 x _ (by omega)).mono ?_;rintro e w2 ⟨rfl,hw⟩;rw[hw,QT.o];clear hw w2;go_wp2;go_roundg (gk-1)
    case rel=>exact⟨O,_,rfl,rfl,by have:=HJ.o;omega,by rw[HJ.o,HS.o,<-q.o,rqT,QT.o,ByteArray.append_assoc,ByteArray.append_assoc,ByteArray.append_assoc],X.o,U.o,Z.o⟩
    case measure=>omega
   ·have N: ¬(j:Int)<(m.rq.length:Int):=by omega
    have Y:Hid (H=acc rqT m.rq sNone):=by show H=_;rw[q.o,List.take_of_length_le (by omega)]
    clear q;go_wp2;go_loopg [5,7] m.im.length (fun k t i wr=>∃(j:Nat) (H:BA),i= .int .i64 j/\t= .string H/\j+k=m.im.length/\H=acc zac (m.im.take j) (acc rqT m.rq sNone)/\OwnMd wr base S m/\wr.heap[w.heap.size]? =some (.cells #[.slice S.rq.a m.rq.length S.rq.cap,.slice S.im.a m.im.length S.im.cap,.slice S.ep.a m.ep.length S.ep.cap,.slice S.st.a m.st.length S.st.cap,.slice S.ex.a m.ex.length S.ex.cap] 54 (0,0))/\Below w.heap.size w wr)
    case atStart=>exact⟨0,_,rfl,rfl,by omega,Y.o,X.o,U.o,Z.o⟩
    case round=>
     obtain⟨j,H,rfl,rfl,hj,L,ho,hx,I⟩:=hrel;have q:=zc L;have X:=zc ho;have U:=zc hx;have Z:=zc I;clear L ho hx I c0 c1 c2 c3 c4 cf;obtain⟨c0,c1,c2,c3,c4,cf⟩:=zj U.o;have aa:=(aLt U.o);by_cases V:j<m.im.length
     ·have N:(j:Int)<(m.im.length:Int):=by omega
      obtain⟨x,A⟩:=zgD V;have D:=List.mem_of_getElem? A;have HS:=zc (zcz zac A (acc rqT m.rq sNone));have z:=zdD zac m.im (j+1) (acc rqT m.rq sNone);rw[HS.o,<-q.o,ByteArray.size_append] at z;have J:(acc zac m.im (acc rqT m.rq sNone)).size<=1099511627776:=Nat.le_trans (zkJ m) HZ.o;obtain⟨O,M⟩: ∃O,O=j+1:=⟨_,rfl⟩;have ej:(j:Int)+1=(O:Int):=by omega
      have HJ:=zc M;clear M;have ah:H.size<=1099511627776:=by omega
      obtain⟨g,hg,E⟩:=OwnR.elem (f:=imL) (m:=3) (fun _=>rfl) X.o.im A;rw[hg] at c1;have k0:=E 0 (by omega);have k1:=E 1 (by omega);have k2:=E 2 (by omega);simp only[imL,Nat.add_zero,List.getElem?_cons_zero,List.getElem?_cons_succ] at k0 k1 k2;obtain⟨z1,z2,z3⟩:=SM.o.im x D;clear hg E A D;obtain⟨pt,K⟩: ∃t,zac x=t:=⟨_,rfl⟩;have an:pt.size<=1099511627776:=by rw[<-K];omega
      have PT:=zc K;clear K z J;go_wp2_with fail;refine (zqN x _ z1 z2 z3).mono ?_;rintro e w2 ⟨rfl,I⟩;rw[PT.o];have ab:=zc (X.o.later I);have ad:=zc ((I.block _ aa).trans U.o);have ac:=zc (Z.o.trans (I.mono Z.o.size));clear I;go_wp2;go_roundg (gk-1)
      case rel=>exact⟨O,_,rfl,rfl,by have:=HJ.o;omega,by rw[HJ.o,HS.o,<-q.o,PT.o],ab.o,ad.o,ac.o⟩
      case measure=>omega
     ·have N: ¬(j:Int)<(m.im.length:Int):=by omega
      have Y:Hid (H=acc zac m.im (acc rqT m.rq sNone)):=by show H=_;rw[q.o,List.take_of_length_le (by omega)]
      clear q;go_wp2;go_loopg [5,8] m.ep.length (fun k t i wr=>∃(j:Nat) (H:BA),i= .int .i64 j/\t= .string H/\j+k=m.ep.length/\H=acc epF (m.ep.take j) (acc zac m.im (acc rqT m.rq sNone))/\OwnMd wr base S m/\wr.heap[w.heap.size]? =some (.cells #[.slice S.rq.a m.rq.length S.rq.cap,.slice S.im.a m.im.length S.im.cap,.slice S.ep.a m.ep.length S.ep.cap,.slice S.st.a m.st.length S.st.cap,.slice S.ex.a m.ex.length S.ex.cap] 54 (0,0))/\Below w.heap.size w wr)
      case atStart=>exact⟨0,_,rfl,rfl,by omega,Y.o,X.o,U.o,Z.o⟩
      case round=>
       obtain⟨j,H,rfl,rfl,hj,L,ho,hx,I⟩:=hrel;have q:=zc L;have X:=zc ho;have U:=zc hx;have Z:=zc I;clear L ho hx I c0 c1 c2 c3 c4 cf;obtain⟨c0,c1,c2,c3,c4,cf⟩:=zj U.o;have aa:=(aLt U.o);by_cases V:j<m.ep.length
       ·have N:(j:Int)<(m.ep.length:Int):=by omega
        obtain⟨x,A⟩:=zgD V;have D:=List.mem_of_getElem? A;have HS:=zc (zcz epF A (acc zac m.im (acc rqT m.rq sNone)));have z:=zdD epF m.ep (j+1) (acc zac m.im (acc rqT m.rq sNone));rw[HS.o,<-q.o,ByteArray.size_append] at z;have J:(acc epF m.ep (acc zac m.im (acc rqT m.rq sNone))).size<=1099511627776:=Nat.le_trans (zkI m) HZ.o;obtain⟨O,M⟩: ∃O,O=j+1:=⟨_,rfl⟩;have ej:(j:Int)+1=(O:Int):=by omega
        have HJ:=zc M;clear M;have ah:H.size<=1099511627776:=by omega
        obtain⟨g,hg,E⟩:=OwnR.elem (f:=epL) (m:=4) (fun _=>rfl) X.o.ep A;rw[hg] at c2;have k0:=E 0 (by omega);have k1:=E 1 (by omega);have k2:=E 2 (by omega);have k3:=E 3 (by omega);simp only[epL,Nat.add_zero,List.getElem?_cons_zero,List.getElem?_cons_succ] at k0 k1 k2 k3;obtain⟨z1,z2,z3⟩:=SM.o.ep x D;clear hg E A D;cases hd:(x.loc.toList==[42,100,101,102,97,117,108,116]) with
        |true=>
         clear z J;go_wp2;go_roundg (gk-1)
         case rel=>exact⟨O,_,rfl,rfl,by have:=HJ.o;omega,by rw[HJ.o,HS.o,<-q.o,epF,hd];show H=H++sNone;rw[zrc],X.o,U.o,Z.o⟩
         case measure=>omega
        |false=>
         obtain⟨pt,K⟩: ∃t,zbr x=t:=⟨_,rfl⟩;have an:pt.size<=1099511627776:=by rw[<-K,<-show epF x=zbr x from (by rw[epF,hd];rfl)];omega
         have PT:=zc K;clear K z J;go_wp2_with fail;refine (zqO x _ z1 z2 z3).mono ?_;rintro e w2 ⟨rfl,I⟩;rw[PT.o];have ab:=zc (X.o.later I);have ad:=zc ((I.block _ aa).trans U.o);have ac:=zc (Z.o.trans (I.mono Z.o.size));clear I;go_wp2;go_roundg (gk-1)
         case rel=>exact⟨O,_,rfl,rfl,by have:=HJ.o;omega,by rw[HJ.o,HS.o,<-q.o,epF,hd];show _=H++zbr x;rw[PT.o],ab.o,ad.o,ac.o⟩
         case measure=>omega
       ·have N: ¬(j:Int)<(m.ep.length:Int):=by omega
        have Y:Hid (H=acc epF m.ep (acc zac m.im (acc rqT m.rq sNone))):=by show H=_;rw[q.o,List.take_of_length_le (by omega)]
        clear q;go_wp2;go_loopg [5,9] m.st.length (fun k t i wr=>∃(j:Nat) (H:BA),i= .int .i64 j/\t= .string H/\j+k=m.st.length/\H=acc (stF m.ex) (m.st.take j) (zce m)/\OwnMd wr base S m/\wr.heap[w.heap.size]? =some (.cells #[.slice S.rq.a m.rq.length S.rq.cap,.slice S.im.a m.im.length S.im.cap,.slice S.ep.a m.ep.length S.ep.cap,.slice S.st.a m.st.length S.st.cap,.slice S.ex.a m.ex.length S.ex.cap] 54 (0,0))/\Below w.heap.size w wr)
        case atStart=>exact⟨0,_,rfl,rfl,by omega,Y.o,X.o,U.o,Z.o⟩
        case round=>
         obtain⟨j,H,rfl,rfl,hj,L,ho,hx,I⟩:=hrel;have q:=zc L;have X:=zc ho;have U:=zc hx;have Z:=zc I;clear L ho hx I c0 c1 c2 c3 c4 cf;obtain⟨c0,c1,c2,c3,c4,cf⟩:=zj U.o;have aa:=(aLt U.o);by_cases V:j<m.st.length
         ·have N:(j:Int)<(m.st.length:Int):=by omega
          obtain⟨x,A⟩:=zgD V;have D:=List.mem_of_getElem? A;have HS:=zc (zcz (stF m.ex) A (zce m));have z:=zdD (stF m.ex) m.st (j+1) (zce m);rw[HS.o,<-q.o,ByteArray.size_append] at z;have J:(acc (stF m.ex) m.st (zce m)).size<=1099511627776:=Nat.le_trans (zrd m) HZ.o;obtain⟨O,M⟩: ∃O,O=j+1:=⟨_,rfl⟩;have ej:(j:Int)+1=(O:Int):=by omega
          have HJ:=zc M;clear M;have ah:H.size<=1099511627776:=by omega
          obtain⟨g,hg,E⟩:=OwnR.elem (f:=smL) (m:=3) (fun _=>rfl) X.o.st A;rw[hg] at c3;have k0:=E 0 (by omega);have k1:=E 1 (by omega);have k2:=E 2 (by omega);simp only[smL,Nat.add_zero,List.getElem?_cons_zero,List.getElem?_cons_succ] at k0 k1 k2;have z1:=SM.o.st x D;obtain⟨t1,t2⟩:=TR.o.stm x D;obtain⟨en,aj⟩: ∃en:Nat,x.expr=(en:Int):=⟨x.expr.toNat,by omega⟩;obtain⟨pt,K⟩: ∃t,za4 x.kind x.name (prX m.ex en)=t:=⟨_,rfl⟩;have ap:stF m.ex x=pt:=by rw[stF,aj,Int.toNat_natCast,K]
          rw[ap] at HS z;have an:pt.size<=1099511627776:=by omega
          have az:wt m.ex en<=1099511627776:=by have:=zrf x.kind x.name (prX m.ex en);rw[K] at this;unfold wt;omega
          rw[aj] at k2;have HG:=zc hg;have cS: ∀d os,Calls prog 87 #[.agg #[.slice S.rq.a m.rq.length S.rq.cap,.slice S.im.a m.im.length S.im.cap,.slice S.ep.a m.ep.length S.ep.cap,.slice (some ⟨g,0,none⟩) m.st.length S.st.cap,.slice S.ex.a m.ex.length S.ex.cap],.agg #[.int .i64 x.kind,.string x.name,.int .i64 (en:Int)]] (grow (redrawn wr d) os) fun e ax=>e= .returned (.string pt)/\∃p:Regrown,ax=grow (redrawn wr p.d) p.os:=fun d os=>Calls.regrown_of (by rw[<-K,<-hg];exact zqW base S m x.kind x.name en _ (X.o.later (below_regrown _ d os)) (by omega) SM.o.nums TR.o.ahead az z1);have C0:=zc c0;have C1:=zc c1;have C2:=zc c2;have C3:=zc c3;have C4:=zc c4;have K0:=zc k0;have K1:=zc k1;have K2:=zc k2;clear hg E A D K ap z J aj HG;go_wp2_with fail;have y0:=cell_regrown C0.o;have y1:=cell_regrown C1.o;have y2:=cell_regrown C2.o;have y3:=cell_regrown C3.o;have y4:=cell_regrown C4.o;have av:=cell_regrown K0.o;have ar:=cell_regrown K1.o;have aw:=cell_regrown K2.o;refine wp_region_quiet_below (by kernel_rfl) (by kernel_rfl) ?_
          repeat (go_big_quiet_step (with_reducible exact cS _ _))
          refine wpQuiet_nil ?_;intro w2 au;obtain⟨⟨dq,aB⟩,ae⟩:=au;have I:Below wr.heap.size wr w2:=by rw[ae];exact below_regrown _ _ _
          have ab:=zc (X.o.later I);have ad:=zc ((I.block _ aa).trans U.o);have ac:=zc (Z.o.trans (I.mono Z.o.size));clear I ae y0 y1 y2 y3 y4 av ar aw cS;go_wp2;go_roundg (gk-1)
          case rel=>exact⟨O,_,rfl,rfl,by have:=HJ.o;omega,by rw[HJ.o,HS.o,<-q.o],ab.o,ad.o,ac.o⟩
          case measure=>omega
         ·have N: ¬(j:Int)<(m.st.length:Int):=by omega
          have Y:Hid (H=acc (stF m.ex) m.st (zce m)):=by show H=_;rw[q.o,List.take_of_length_le (by omega)]
          clear q;go_wp2;go_ret;exact⟨.inl ⟨TR.o,za5 Y.o⟩,Z.o⟩
theorem Tryz.infoString:(prog.info? 9).map (fun i=>(i.zero,i.size,i.bytes))=some (some (.string {data:=#[]}),1,16):=by kernel_rfl
theorem OwnR.addr {w:World} {base size n:Nat} {e:TypeId} {r:Rw} {xs:List Value} (h:OwnR w base e size r n xs):n=0∨∃g,r.a=some ⟨g,0,none⟩:=by
 rcases h.2 with ⟨_,D⟩|⟨g,A,z,q,_⟩
 ·exact .inl D
 ·simp only[Value.slice.injEq] at q;exact .inr ⟨g,q.1⟩
theorem OwnR.str {w:World} {base:Nat} {e:TypeId} {r:Rw} {l:List BA} {g:Nat} (h:OwnR w base e 1 r l.length (l.map .string)) (z:r.a=some ⟨g,0,none⟩) {j:Nat} (q:j<l.length):w.cell? ⟨g,j,none⟩=some (.string (l.getD j sNone)):=by
 unfold OwnR at h;rw[z] at h;rw[h.cellAt j (by omega)];simp[List.getD,q]
theorem OwnR.lt {w:World} {base size n:Nat} {e:TypeId} {r:Rw} {xs:List Value} {g:Nat} (h:OwnR w base e size r n xs) (q:r.a=some ⟨g,0,none⟩):g<w.heap.size:=(h.typed (k:=g) (by simp[Rw.blk,q,Value.ownBlock])).2.1
theorem zrh {l:List BA} {x:BA} {j:Nat} (q:j<l.length) (h:((l.getD j sNone).toList==x.toList)=true):zaQ l x=true:=by
 rw[zaQ,List.any_eq_true];exact⟨l[j],List.getElem_mem q,by simpa [List.getD,q] using h⟩
theorem zri {l:List BA} {x:BA} (h: ∀j,j<l.length->((l.getD j sNone).toList==x.toList)=false):zaQ l x=false:=by
 rw[Bool.eq_false_iff,zaQ];intro k;rw[List.any_eq_true] at k;obtain⟨y,z,w⟩:=k;obtain⟨j,q,rfl⟩:=List.getElem_of_mem z;have:=h j q;simp only[List.getD,List.getElem?_eq_getElem q,Option.getD_some] at this;rw[this] at w;cases w
theorem zrj {C:Cx} {x:PR} {q:PS} {z:Int} (E:Is x q z) (D:(decide (z<0)&&((ze C q.pos).kind==3))=false):Is2 (bd x (zK C)) q (zb6 C q.pos z) sNone:=by
 unfold zb6;by_cases h:z<0
 ·obtain⟨w,A⟩:=zaG E h;simp only[h,decide_true,Bool.true_and] at D;rw[w,zA,zK,D,if_pos h];rfl
 ·obtain⟨e,w,A⟩:=zd2 E h;rw[w,ze2,if_neg h];exact A
theorem zrk (C:Cx) (I D base:Nat) (x:PR) (S:Sv) (q:PS) (z:Int) (d:Nat) (w:World) (hx:Is x q z) (N:Mem C I D base S q w) (M:(decide (z<0)&&((ze C q.pos).kind==3))=false):
  Calls prog 153 #[pv C I D S q z d] w (zdB C I D base (bd x (zK C)) d S w):=by
 have O:=zc N;have h:=N.tok;have E:=N.few;have X:Hid (Is2 (bd x (zK C)) q (zb6 C q.pos z) sNone):=zrj hx M;clear hx N;by_cases hz:z<0
 ·have V:decide (0<=z)=false:=decide_eq_false (by omega);simp only[hz,decide_true,Bool.true_and] at M;by_cases hp:q.pos<C.ts.length
  ·obtain⟨L,_,_,_⟩:=h.cells hp (d:=⟨0,sNone,0,C.fin⟩);have aa:=(zat h).1;change _=some (Value.int .i64 (ze C q.pos).kind) at L;generalize U:ze C q.pos=t at L M;have ab:(t.kind !=3)=true:=by rw[bne,M];rfl
   clear U;unfold pv;go_enter func153,ntmps153;go_wp2_with fail;refine (zd0 C I D base S q z d _ (zr (zr h _) _) E).mono ?_;rintro e w2 ⟨rfl,A⟩;have H:Hid (_=_):=(zcL A).2;obtain⟨L,c1,c2,c3,c4,c5,c6,c7,Y,Z,K,J,cf⟩:=zan H.o;unfold pv;go_wp2;refine bodyPost_ret (za8 rfl _ _ (w.heap.size+1) 121 _ (0,0) _ rfl (zbc H.o) underlying121 rfl (by kernel_rfl)) rfl ?_;exact zea rfl X.o O.o (zbV (zbh A) (Nat.le_succ _) ..)
  ·unfold pv;go_enter func153,ntmps153;go_wp2_with fail;refine (zd0 C I D base S q z d _ (zr (zr h _) _) E).mono ?_;rintro e w2 ⟨rfl,A⟩;have H:Hid (_=_):=(zcL A).2;obtain⟨L,c1,c2,c3,c4,c5,c6,c7,Y,Z,K,J,cf⟩:=zan H.o;unfold pv;go_wp2;refine bodyPost_ret (za8 rfl _ _ (w.heap.size+1) 121 _ (0,0) _ rfl (zbc H.o) underlying121 rfl (by kernel_rfl)) rfl ?_;exact zea rfl X.o O.o (zbV (zbh A) (Nat.le_succ _) ..)
 ·have V:decide (0<=z)=true:=decide_eq_true (by omega);unfold pv;go_enter func153,ntmps153;go_wp2_with fail;refine (zd0 C I D base S q z d _ (zr (zr h _) _) E).mono ?_;rintro e w2 ⟨rfl,A⟩;have H:Hid (_=_):=(zcL A).2;obtain⟨L,c1,c2,c3,c4,c5,c6,c7,Y,Z,K,J,cf⟩:=zan H.o;unfold pv;go_wp2;refine bodyPost_ret (za8 rfl _ _ (w.heap.size+1) 121 _ (0,0) _ rfl (zbc H.o) underlying121 rfl (by kernel_rfl)) rfl ?_;exact zea rfl X.o O.o (zbV (zbh A) (Nat.le_succ _) ..)
def txt (C:Cx) (q:PS):BA:=(ze C q.pos).text
theorem zrl {C:Cx} {q:PS} (w:((ze C q.pos).kind==3)=true) (h:zaQ q.rq (txt C q)=true):zK C q= .ok (adv q,txt C q):=by
 unfold txt at h;rw[zK,if_pos w,if_pos h];rfl
theorem zrm {C:Cx} {q:PS} (z:((ze C q.pos).kind==3)=true) (h:zaQ q.rq (txt C q)=false) (w:40<=q.rq.length):zK C q= .error (zs C q.pos):=by
 unfold txt at h;rw[zK,if_pos z,h,if_pos w];rfl
theorem zrn {C:Cx} {q:PS} (z:((ze C q.pos).kind==3)=true) (h:zaQ q.rq (txt C q)=false) (w: ¬40<=q.rq.length):zK C q= .ok ({adv q with rq:=q.rq++[txt C q]},txt C q):=by
 unfold txt at h;rw[zK,if_pos z,h,if_neg w];rfl
theorem zkK (C:Cx) (gt A base:Nat) (S:Sv) (q:PS) (d:Nat) (w:World) (J:Mem C gt A base S q w) (Y:((ze C q.pos).kind==3)=true) (g:Nat) (H:q.rq.length=0∨S.rq.a=some ⟨g,0,none⟩):
  Calls prog 153 #[pv C gt A S q (-1) d] w (zdB C gt A base (zK C q) d S w):=by
 obtain⟨i0,hi,ac,ah,ag⟩:=info_parts Tryz.infoString;have h:=zc J;have H3:=zc Y;have X:q.pos<C.ts.length:=zfR Y (by decide);have ak:=J.few;have ap:=J.inv.rq;have aj:=(zat J.tok).1;obtain⟨c0,c1,_,_⟩:=J.tok.cells X (d:=⟨0,sNone,0,C.fin⟩);change _=some (Value.int .i64 (ze C q.pos).kind) at c0;change _=some (Value.string (txt C q)) at c1;generalize (ze C q.pos).kind=kd at c0 Y;have aq:(kd !=3)=false:=by rw[bne,Y];rfl
 have aa:=zc H;obtain⟨R,hR⟩: ∃R:Nat->BA,∀j,R j=q.rq.getD j sNone:=⟨fun j=>q.rq.getD j sNone,fun _=>rfl⟩;have HR:=zc hR;have HC:Hid (∀j,j<q.rq.length->w.cell? ⟨g,j,none⟩=some (.string (R j))):=fun j L=>by
  rcases H with e|e
  ·omega
  ·rw[hR];exact h.o.own.rq.str e L
 clear hR;generalize K:txt C q=tx at c1;have z:=zc K;have D:=fun o1 o2 o3=>((h.o.own.rq.alloc o1).alloc o2).alloc o3;clear K J H;unfold pv;go_enter func153,ntmps153;go_wp2;go_loop [5] (fun i=>∃k:Nat,k<=q.rq.length/\i= .int .i64 k/\∀j,j<k->¬(R j).toList=tx.toList) (fun i=>(q.rq.length-intOf i).toNat)
 case atStart=>exact⟨0,Nat.zero_le _,rfl,fun j L=>absurd L (Nat.not_lt_zero j)⟩
 case round=>
  obtain⟨k,hk,rfl,M⟩:=hrel;have O:=zc M;clear M;by_cases N:k<q.rq.length
  ·have ha:S.rq.a=some ⟨g,0,none⟩:=aa.o.elim (fun e=>by omega) id;have am:=HC.o k N;have an:=h.o.own.rq.lt ha;cases he:((R k).toList==tx.toList) with
   |true=>
    have U:Hid (zK C q= .ok (adv q,tx)):=by
     show zK C q= .ok (adv q,tx);rw[<-z.o];exact zrl H3.o (zrh N (by rw[<-HR.o,z.o];exact he))
    have HA:=zc ha;go_wp2;refine bodyPost_ret (za8 rfl _ _ (w.heap.size+1) 121 _ (0,0) _ rfl (new2 w _ _) underlying121 rfl (by kernel_rfl)) rfl ?_;rw[U.o];exact zea (q':=adv q) (z':=-1) (by rw[pv,HA.o];rfl) ⟨rfl,rfl,rfl⟩ (h.o.adv X) (zbd w _ _)
   |false=>
    have HX:Hid (∀j,j<k+1->¬(R j).toList=tx.toList):=fun j L=>by
     by_cases e:j=k
     ·rw[e];exact beq_eq_false_iff_ne.1 he
     ·exact O.o j (by omega)
    go_wp2;go_round
    case rel=>exact⟨k+1,by omega,by go_num,HX.o⟩
    case measure=>simp[intOf];omega
  ·have HN:Hid (zaQ q.rq (txt C q)=false):=zri fun j L=>by rw[z.o,<-HR.o];exact beq_eq_false_iff_ne.2 (O.o j (by omega))
   by_cases hn:40<=q.rq.length
   ·have qn:decide ((40:Int)<=(q.rq.length:Int))=true:=decide_eq_true (by omega);have U:Hid (zK C q= .error (zs C q.pos)):=zrm H3.o HN.o hn;go_wp2_with fail;refine (zft C gt A base S (adv q) (-1) d _ (((h.o.adv X).alloc _).alloc _) (by decide) (by simp[adv])).mono ?_;rintro e w2 ⟨rfl,I⟩;have G3:Hid (_=_):=(zcL I).2;obtain⟨b0,b1,b2,b3,b4,b5,b6,b7,b8,b9,ae,ab,bf⟩:=zan G3.o;have HB:Hid (Below w.heap.size w w2):=zbh I;clear I;unfold pv;go_wp2;refine bodyPost_ret (za8 rfl _ _ (w.heap.size+1) 121 _ (0,0) _ rfl (zbc G3.o) underlying121 rfl (by kernel_rfl)) rfl ?_;rw[U.o];exact zea (q':=adv q) (z':=(zs C q.pos:Int)) rfl rfl (h.o.adv X) (zbV HB.o (Nat.le_succ _) ..)
   ·have qn:decide ((40:Int)<=(q.rq.length:Int))=false:=decide_eq_false (by omega);have U:Hid (zK C q= .ok ({adv q with rq:=q.rq++[tx]},tx)):=by
     show zK C q= .ok ({adv q with rq:=q.rq++[tx]},tx);rw[<-z.o];exact zrn H3.o HN.o hn
    go_wp2_with (at_builtin;refine zba _ rfl _ _ 22 rfl base 9 i0 _ 1 16 underlying22 hi ac ah ag rfl (by decide) (by decide) S.rq q.rq.length _ (by rfl) (D _ _ _) (w.heap.size+1+1) [.string tx] (by rfl) (by exact (new3 w _ _ _).2.2) rfl (by intro u hu;simp at hu;subst hu;rfl) (by omega) (by have:=h.o.base;rw[zad];omega) ?_);intro r' w2 hr Z V;have ai:=zc hr;have HG:=zc Z;have ad:=zc V;have E:=fun b hb=>zeb (W:=w) h.o.own (Nat.le_refl _) (r:=S.rq.blk) (fun k e=>.inl e) b hb;have g1:=(Z.block w.heap.size (by rw[zad];omega) (E _ (Nat.le_refl _))).trans (new3 w _ _ _).1;have g2:=(Z.block (w.heap.size+1) (by rw[zad];omega) (E _ (by omega))).trans (new3 w _ _ _).2.1;obtain⟨a0,a1,a2,a3,a4,a5,a6,a7,a8,a9,al,ao,af⟩:=zan g1;obtain⟨b0,b1,b2,b3,b4,b5,b6,b7,b8,b9,ae,ab,bf⟩:=zan g2;have G2:=zc g2;clear g1 g2 Z hr V E D;go_wp2;refine bodyPost_ret (za8 rfl _ _ (w.heap.size+1) 121 _ (0,0) _ rfl (zbc ((zv (by omega)).trans G2.o)) underlying121 rfl (by kernel_rfl)) rfl ?_;obtain⟨m',s'⟩:=(h.o.adv X).grow_rq (x:=tx) (zdc w _ _ _) HG.o ai.o (by rw[zad];exact ad.o) (((Off.refl _ _ _).set (b:=w.heap.size) (Nat.le_refl _) (by rw[zad];omega) _ _).set12 (b:=w.heap.size+1) (by omega) (by rw[zad];omega) ..) (by show q.rq.length<40;omega);rw[U.o];exact⟨_,{adv q with rq:=q.rq++[tx]},-1,tx,by simp[pv,adv],⟨rfl,rfl,rfl⟩,m',s'⟩
theorem zeq (C:Cx) (A h base:Nat) (x:PR) (S:Sv) (q:PS) (z:Int) (d:Nat) (w:World) (H:Is x q z) (E:Mem C A h base S q w):
  Calls prog 153 #[pv C A h S q z d] w (zdB C A h base (bd x (zK C)) d S w):=by
 cases D:(decide (z<0)&&((ze C q.pos).kind==3)) with
 |false=>exact zrk C A h base x S q z d w H E D
 |true=>
  rw[Bool.and_eq_true,decide_eq_true_eq] at D;obtain⟨rfl,rfl⟩:=zaG H D.1;rw[zA];rcases E.own.rq.addr with e|⟨g,e⟩
  ·exact zkK C A h base S q d w E D.2 0 (.inl e)
  ·exact zkK C A h base S q d w E D.2 g (.inr e)
end Go.Proofs.YtgcbmogmniahjaaGreat
