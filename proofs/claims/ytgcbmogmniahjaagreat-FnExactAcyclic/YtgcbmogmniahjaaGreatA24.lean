/- Facts and walks that the theorem stands on. -/
import Derived.BigRegion
import Derived.Test.YtgcbmogmniahjaaGreatA23
namespace Go.Proofs.YtgcbmogmniahjaaGreat
open Go.Proofs.Tryz
set_option maxRecDepth 100000
set_option maxHeartbeats 12800000
open Go.RowKit Go.PlainAid Go.Sort
theorem Tryz.infoInt:(prog.info? 3).map (fun i=>(i.zero,i.size,i.bytes))=some (some (.int .i64 0),1,8):=by kernel_rfl
theorem zkW (n:Nat):(madeCells #[.int .i64 0] n).toList=zas n (fun _=>0):=by
 rw[toList_madeCells_one];unfold zas;rw[List.map_const',List.length_range];rfl
theorem zeU {w:World} {base g n q:Nat} {f:Nat->Nat} (h:w.ownsRow base 3 1 (.slice (some ⟨g,0,none⟩) n q) n (zas n f)) {k:Nat} (z:k<n):w.cell? ⟨g,k,none⟩=some (.int .i64 (f k:Int)):=by
 rw[h.cellAt k (by omega)];exact zgI f z
theorem zgJ {w:World} {base g n q:Nat} {f:Nat->Nat} (h:w.ownsRow base 3 1 (.slice (some ⟨g,0,none⟩) n q) n (zas n f)) (k v:Nat) (z:v=f k+1):(w.setCell ⟨g,k,none⟩ (.int .i64 (v:Int))).ownsRow base 3 1 (.slice (some ⟨g,0,none⟩) n q) n (zas n (zaL f k)):=by
 have:=(h.stored k (.int .i64 (v:Int))).1;rw[zrx f (zaL f k) v (by rw[zry,z]) (fun j A=>zrz f A)] at this;exact this
theorem zfK {w w':World} {base g n q:Nat} {xs:List Value} (h:w.ownsRow base 3 1 (.slice (some ⟨g,0,none⟩) n q) n xs) (A:Below w.heap.size w w'):w'.ownsRow base 3 1 (.slice (some ⟨g,0,none⟩) n q) n xs:=by
 have z:OwnR w base 3 1 ⟨some ⟨g,0,none⟩,q⟩ n xs:=h;exact z.keep fun k e=>A.block k (z.typed e).2.1
theorem zih {w:World} {base g n q:Nat} {xs:List Value} (h:w.ownsRow base 3 1 (.slice (some ⟨g,0,none⟩) n q) n xs):base<=g/\g<w.heap.size:=by
 have z:OwnR w base 3 1 ⟨some ⟨g,0,none⟩,q⟩ n xs:=h;exact⟨(z.typed rfl).1,(z.typed rfl).2.1⟩
theorem zgK {w:World} {base g k:Nat} {S:Sv} {m:Md} {u:Value} (h:OwnMd w base S m) (M: ∀b,w.heap[g]? =some b->∃A,b= .cells A 3 (0,0)):OwnMd (w.setCell ⟨g,k,none⟩ u) base S m:=by
 have H: ∀(e:TypeId) (q n:Nat) (r:Rw) (I:List Value),OwnR w base e q r n I->e≠3->OwnR (w.setCell ⟨g,k,none⟩ u) base e q r n I:=fun e q n r I h J=>h.keep fun b L=>Below.heap_setCell w ⟨g,k,none⟩ u b (fun K=>by
  obtain⟨_,_,c,N⟩:=h.typed L;obtain⟨A,z⟩:=M _ (by rw[<-show b=g from K];exact N);simp only[Obj.cells.injEq] at z
  exact J z.2.1)
 exact⟨H _ _ _ _ _ h.rq (by decide),H _ _ _ _ _ h.im (by decide),H _ _ _ _ _ h.ep (by decide),H _ _ _ _ _ h.st (by decide),H _ _ _ _ _ h.ex (by decide)⟩
def cE (ex:List Ex) (j:Nat):Nat->Nat:=fun k=>zat (ex.take j) (k:Int)
theorem OwnMd.drewI {w:World} {base:Nat} {S:Sv} {m:Md} (h:OwnMd w base S m):OwnMd w.drew base S m:=⟨h.rq,h.im,h.ep,h.st,h.ex⟩
def cS (m:Md) (j:Nat):Nat->Nat:=fun k=>zat m.ex (k:Int)+zaO (m.st.take j) (k:Int)
def zgL (m:Md) (e:Ending):Prop:=∃b,e= .returned (.bool b)/\(b=true↔Tree m)
theorem zcW {m:Md} (h: ¬Tree m):zgL m (.returned (.bool false)):=⟨false,rfl,⟨(fun k=>by cases k),fun t=>absurd t h⟩⟩
theorem zkX {m:Md} (h:Tree m):zgL m (.returned (.bool true)):=⟨true,rfl,⟨fun _=>h,fun _=>rfl⟩⟩
theorem zgM {w:World} {base g n q:Nat} {xs:List Value} (h:w.ownsRow base 3 1 (.slice (some ⟨g,0,none⟩) n q) n xs): ∀b,w.heap[g]? =some b->∃z,b= .cells z 3 (0,0):=by
 have H:OwnR w base 3 1 ⟨some ⟨g,0,none⟩,q⟩ n xs:=h;obtain⟨_,_,c,I⟩:=H.typed rfl;intro b A;rw[I] at A;exact⟨c,(Option.some.inj A).symm⟩
theorem zr0 (base:Nat) (S:Sv) (m:Md) (w:World) (h:OwnMd w base S m) (hl:m.ex.length<=4294967296) (hs:m.st.length<=4294967296):
  Calls prog 83 #[zl S m] w fun e w'=>zgL m e/\Below w.heap.size w w':=by
 obtain⟨i0,hi,aN,aX,aU⟩:=info_parts Tryz.infoInt;have HH:=zc h;clear h;unfold zl;go_enter func83,ntmps83;go_wp2_with (first|(at_make;refine wpList_make_full _ rfl _ _ 36 rfl (w.heap.size+1) 3 i0 (.int .i64 0) 1 underlying36 hi aN aX .i64 .i64 _ _ m.ex.length (by rfl) (by rfl) rfl rfl (by rw[aU];omega) (by unfold maxLen;omega) (by rw[zg];omega) ?_));intro w1 ae Z;rw[zkW] at ae;have bb:Below (w.heap.size+1) (w.alloc _) w1:=⟨Z.os,Z.tape,Z.output,Z.size,fun k hk=>Z.block k (by rw[zg];exact hk) (by simp)⟩;have aE:Hid (Below w.heap.size w w1):=((Below.refl _ _).alloc (Nat.le_refl _) _).trans (bb.mono (by omega));have aD:Hid (w1.heap[w.heap.size]? =some (.cells #[.slice S.rq.a m.rq.length S.rq.cap,.slice S.im.a m.im.length S.im.cap,.slice S.ep.a m.ep.length S.ep.cap,.slice S.st.a m.st.length S.st.cap,.slice S.ex.a m.ex.length S.ex.cap] 54 (0,0))):=(bb.block _ (by omega)).trans (heap_alloc_new w _);have aM:=zc (HH.o.later aE.o);have aP:Hid (w1.ownsRow (w.heap.size+1) 3 1 (.slice (some ⟨w.heap.size+1,0,none⟩) m.ex.length m.ex.length) m.ex.length (zas m.ex.length (cE m.ex 0))):=by show World.ownsRow _ _ _ _ _ _ _;rw[show zas m.ex.length (cE m.ex 0)=zas m.ex.length (fun _=>0) from zex fun k _=>by simp[cE,zat]];exact ae
 clear ae Z bb;obtain⟨c0,c1,c2,c3,c4,cf⟩:=zj aD.o;go_wp2;go_loopg [4] m.ex.length (fun k i wr=>∃j:Nat,i= .int .i64 j/\j+k=m.ex.length/\AheadTo m.ex j/\wr.ownsRow (w.heap.size+1) 3 1 (.slice (some ⟨w.heap.size+1,0,none⟩) m.ex.length m.ex.length) m.ex.length (zas m.ex.length (cE m.ex j))/\OwnMd wr base S m/\wr.heap[w.heap.size]? =some (.cells #[.slice S.rq.a m.rq.length S.rq.cap,.slice S.im.a m.im.length S.im.cap,.slice S.ep.a m.ep.length S.ep.cap,.slice S.st.a m.st.length S.st.cap,.slice S.ex.a m.ex.length S.ex.cap] 54 (0,0))/\Below w.heap.size w wr)
 case atStart=>exact⟨0,rfl,by omega,fun i x hi=>absurd hi (Nat.not_lt_zero i),aP.o,aM.o,aD.o,aE.o⟩
 case round=>
  obtain⟨j,rfl,hj,ah,z,O,U,K⟩:=hrel;have AH:=zc ah;have HN:=zc z;have HO:=zc O;have HX:=zc U;have Y:=zc K;clear ah z O U K;clear c0 c1 c2 c3 c4 cf;obtain⟨c0,c1,c2,c3,c4,cf⟩:=zj HX.o;have al:=(aLt HX.o);by_cases A:j<m.ex.length
  ·have aC:(j:Int)<(m.ex.length:Int):=by omega
   obtain⟨g,hg,bk,x0,x1,x2,x3,x4,x5⟩:=HO.o.expr A;rw[hg] at c4;clear hg;have aB:=zc (zed A);obtain⟨x,an⟩: ∃x,m.ex.getD j zh=x:=⟨_,rfl⟩;rw[an] at x0 x1 x2 x3 x4 x5;have M:Hid (m.ex[j]=x):=aB.o.symm.trans an;clear an aB;obtain⟨L,I⟩: ∃L,L=j+1:=⟨_,rfl⟩;have ej:(j:Int)+1=(L:Int):=by omega
   have X:=zc I;clear I;have HW:Hid (Below wr.heap.size wr (wr.alloc (.cells #[.int .i64 x.kind,.int .i64 x.num,.string x.name,.string x.field,.int .i64 x.l,.int .i64 x.r] 100))):=(Below.refl _ _).alloc (Nat.le_refl _) _;go_wp2_with fail;refine (zkN x.kind _).mono ?_;rintro e w2 ⟨rfl,hw⟩;rw[hw];clear hw w2;cases ht:zaa x.kind with
   |false=>
    go_wp2;go_roundg (gk-1)
    case rel=>exact⟨L,rfl,by have:=X.o;omega,by rw[X.o];exact AH.o.next A (fun k=>by rw[M.o,ht] at k;cases k),by rw[X.o,show zas m.ex.length (cE m.ex (j+1))=zas m.ex.length (cE m.ex j) from zex fun k _=>(zkU A (by rw[M.o];exact ht) k).symm];exact zfK HN.o HW.o,HO.o.later HW.o,(HW.o.block _ al).trans HX.o,Y.o.trans (HW.o.mono Y.o.size)⟩
    case measure=>omega
   |true=>
    by_cases a1:x.l<0
    ·have ad:decide (x.l<0)=true:=decide_eq_true a1;go_wp2;go_ret;exact⟨zcW (fun (t:Tree m)=>absurd t.ahead (AheadTo.not A (by rw[M.o];exact ht) (by rw[M.o];omega))),Y.o.trans (HW.o.mono Y.o.size)⟩
    have ad:decide (x.l<0)=false:=decide_eq_false a1;by_cases a2:(j:Int)<=x.l
    ·have ag:decide ((j:Int)<=x.l)=true:=decide_eq_true a2;go_wp2;go_ret;exact⟨zcW (fun (t:Tree m)=>absurd t.ahead (AheadTo.not A (by rw[M.o];exact ht) (by rw[M.o];omega))),Y.o.trans (HW.o.mono Y.o.size)⟩
    have ag:decide ((j:Int)<=x.l)=false:=decide_eq_false a2;by_cases a3:x.r<0
    ·have aF:decide (x.r<0)=true:=decide_eq_true a3;go_wp2;go_ret;exact⟨zcW (fun (t:Tree m)=>absurd t.ahead (AheadTo.not A (by rw[M.o];exact ht) (by rw[M.o];omega))),Y.o.trans (HW.o.mono Y.o.size)⟩
    have aF:decide (x.r<0)=false:=decide_eq_false a3;by_cases a4:(j:Int)<=x.r
    ·have aI:decide ((j:Int)<=x.r)=true:=decide_eq_true a4;go_wp2;go_ret;exact⟨zcW (fun (t:Tree m)=>absurd t.ahead (AheadTo.not A (by rw[M.o];exact ht) (by rw[M.o];omega))),Y.o.trans (HW.o.mono Y.o.size)⟩
    have aI:decide ((j:Int)<=x.r)=false:=decide_eq_false a4;go_wp2_with fail;obtain⟨q,ab⟩: ∃q:Nat,x.l=(q:Int):=⟨x.l.toNat,by omega⟩;obtain⟨H,aa⟩: ∃H:Nat,x.r=(H:Int):=⟨x.r.toNat,by omega⟩;have bu:q<m.ex.length:=by omega
    have bm:H<m.ex.length:=by omega
    have a5:(q:Int)<(m.ex.length:Int):=by omega
    have a7:(H:Int)<(m.ex.length:Int):=by omega
    have aO:Hid (AheadTo m.ex (j+1)):=AH.o.next A (fun _=>by rw[M.o];omega);have HU:Hid (∀k:Nat,zaL (zaL (cE m.ex j) q) H k=cE m.ex (j+1) k):=fun k=>by have:=zkT A (by rw[M.o];exact ht) (by rw[M.o];omega) (by rw[M.o];omega) k;rw[M.o,ab,aa] at this;exact this
    have aG:=zgH (m.ex.take j);have a0:(m.ex.take j).length<=4294967296:=by rw[List.length_take];omega
    have bf:=(zih HN.o).2;refine zx (R:=fun W=>W.heap[wr.heap.size]? =some (.cells #[.int .i64 x.kind,.int .i64 x.num,.string x.name,.string x.field,.int .i64 (q:Int),.int .i64 (H:Int)] 100 (0,0))/\W.ownsRow (w.heap.size+1) 3 1 (.slice (some ⟨w.heap.size+1,0,none⟩) m.ex.length m.ex.length) m.ex.length (zas m.ex.length (cE m.ex j))/\OwnMd W base S m/\W.heap[w.heap.size]? =some (.cells #[.slice S.rq.a m.rq.length S.rq.cap,.slice S.im.a m.im.length S.im.cap,.slice S.ep.a m.ep.length S.ep.cap,.slice S.st.a m.st.length S.st.cap,.slice S.ex.a m.ex.length S.ex.cap] 54 (0,0))/\Below w.heap.size w W) ⟨by have:=heap_alloc_new wr (.cells #[.int .i64 x.kind,.int .i64 x.num,.string x.name,.string x.field,.int .i64 x.l,.int .i64 x.r] 100);rw[ab,aa] at this;rw[ab,aa];exact this,zfK HN.o HW.o,HO.o.later HW.o,(HW.o.block _ al).trans HX.o,Y.o.trans (HW.o.mono Y.o.size)⟩ ?_;have bo:=zc ab;have bg:=zc aa;clear ab aa ad ag aF aI a1 a2 a3 a4;rintro W ⟨xb,z,O,U,K⟩;have bl:=zc xb;have bn:=zc z;have bh:=zc O;have bp:=zc U;have bt:=zc K;obtain⟨s0,s1,s2,s3,s4,s5,sf⟩:=zw xb;obtain⟨va,aj⟩: ∃v,(cE m.ex j) q=v:=⟨_,rfl⟩;have ea:=zeU z (k:=q) (by omega);have ef:=z.frozenAt;rw[aj] at ea;have ba:va<=17179869184:=by rw[<-aj];have:=aG (q:Int);unfold cE;omega
    obtain⟨ua,ax⟩: ∃u,u=va+1:=⟨_,rfl⟩;have br:(va:Int)+1=(ua:Int):=by omega
    have a9:IntKind.i64.wrap (ua:Int)=(ua:Int):=IntWalk.i64_in _ ⟨by omega,by omega⟩;have aR:Hid ((W.setCell ⟨w.heap.size+1,q,none⟩ (.int .i64 (ua:Int))).ownsRow (w.heap.size+1) 3 1 (.slice (some ⟨w.heap.size+1,0,none⟩) m.ex.length m.ex.length) m.ex.length (zas m.ex.length (zaL (cE m.ex j) q))):=zgJ z q ua (by rw[ax,aj]);have aY:Hid (OwnMd (W.setCell ⟨w.heap.size+1,q,none⟩ (.int .i64 (ua:Int))) base S m):=zgK O (zgM z);have aQ:Hid ((W.setCell ⟨w.heap.size+1,q,none⟩ (.int .i64 (ua:Int))).heap[w.heap.size]? =some (.cells #[.slice S.rq.a m.rq.length S.rq.cap,.slice S.im.a m.im.length S.im.cap,.slice S.ep.a m.ep.length S.ep.cap,.slice S.st.a m.st.length S.st.cap,.slice S.ex.a m.ex.length S.ex.cap] 54 (0,0))):=(zv (by omega)).trans U;have aW:Hid (Below w.heap.size w (W.setCell ⟨w.heap.size+1,q,none⟩ (.int .i64 (ua:Int)))):=K.setCell (Nat.le_succ _) _;have aZ:Hid ((W.setCell ⟨w.heap.size+1,q,none⟩ (.int .i64 (ua:Int))).heap[wr.heap.size]? =some (.cells #[.int .i64 x.kind,.int .i64 x.num,.string x.name,.string x.field,.int .i64 (q:Int),.int .i64 (H:Int)] 100 (0,0))):=(zv (by omega)).trans xb;clear xb z O U K aj ax;go_region;clear s0 s1 s2 s3 s4 s5 sf ef ea;go_wp2_with fail;refine zx (R:=fun W=>W.heap[wr.heap.size]? =some (.cells #[.int .i64 x.kind,.int .i64 x.num,.string x.name,.string x.field,.int .i64 (q:Int),.int .i64 (H:Int)] 100 (0,0))/\W.ownsRow (w.heap.size+1) 3 1 (.slice (some ⟨w.heap.size+1,0,none⟩) m.ex.length m.ex.length) m.ex.length (zas m.ex.length (zaL (cE m.ex j) q))/\OwnMd W base S m/\W.heap[w.heap.size]? =some (.cells #[.slice S.rq.a m.rq.length S.rq.cap,.slice S.im.a m.im.length S.im.cap,.slice S.ep.a m.ep.length S.ep.cap,.slice S.st.a m.st.length S.st.cap,.slice S.ex.a m.ex.length S.ex.cap] 54 (0,0))/\Below w.heap.size w W) ⟨aZ.o,aR.o,aY.o.drewI,aQ.o,aW.o.drew⟩ ?_;rintro V ⟨xb,z,O,U,K⟩;have bw:=zc xb;have bq:=zc z;have be:=zc O;have bv:=zc U;have bi:=zc K;obtain⟨s0,s1,s2,s3,s4,s5,sf⟩:=zw xb;obtain⟨vb,af⟩: ∃v,(zaL (cE m.ex j) q) H=v:=⟨_,rfl⟩;have eb:=zeU z (k:=H) (by omega);have ef:=z.frozenAt;rw[af] at eb;have a6:vb<=17179869184:=by rw[<-af];have:=aG (H:Int);unfold zaL cE;split<;>omega
    obtain⟨ub,ao⟩: ∃u,u=vb+1:=⟨_,rfl⟩;have bj:(vb:Int)+1=(ub:Int):=by omega
    have a8:IntKind.i64.wrap (ub:Int)=(ub:Int):=IntWalk.i64_in _ ⟨by omega,by omega⟩;have aL:Hid ((V.setCell ⟨w.heap.size+1,H,none⟩ (.int .i64 (ub:Int))).ownsRow (w.heap.size+1) 3 1 (.slice (some ⟨w.heap.size+1,0,none⟩) m.ex.length m.ex.length) m.ex.length (zas m.ex.length (zaL (zaL (cE m.ex j) q) H))):=zgJ z H ub (by rw[ao,af]);have aT:Hid (OwnMd (V.setCell ⟨w.heap.size+1,H,none⟩ (.int .i64 (ub:Int))) base S m):=zgK O (zgM z);have aK:Hid ((V.setCell ⟨w.heap.size+1,H,none⟩ (.int .i64 (ub:Int))).heap[w.heap.size]? =some (.cells #[.slice S.rq.a m.rq.length S.rq.cap,.slice S.im.a m.im.length S.im.cap,.slice S.ep.a m.ep.length S.ep.cap,.slice S.st.a m.st.length S.st.cap,.slice S.ex.a m.ex.length S.ex.cap] 54 (0,0))):=(zv (by omega)).trans U;have aV:Hid (Below w.heap.size w (V.setCell ⟨w.heap.size+1,H,none⟩ (.int .i64 (ub:Int)))):=K.setCell (Nat.le_succ _) _;have bs:Hid ((V.setCell ⟨w.heap.size+1,H,none⟩ (.int .i64 (ub:Int))).heap[wr.heap.size]? =some (.cells #[.int .i64 x.kind,.int .i64 x.num,.string x.name,.string x.field,.int .i64 (q:Int),.int .i64 (H:Int)] 100 (0,0))):=(zv (by omega)).trans xb;clear xb z O U K af ao;go_region;clear s0 s1 s2 s3 s4 s5 sf ef eb;go_wp2;go_roundg (gk-1)
    case rel=>exact⟨L,rfl,by have:=X.o;omega,by rw[X.o];exact aO.o,by rw[X.o,<-zex fun k _=>HU.o k];exact aL.o,aT.o.drewI,aK.o,aV.o.drew⟩
    case measure=>omega
  ·have aC: ¬(j:Int)<(m.ex.length:Int):=by omega
   obtain rfl:j=m.ex.length:=by omega
   have HA:=zc AH.o.all;have HC:Hid (wr.ownsRow (w.heap.size+1) 3 1 (.slice (some ⟨w.heap.size+1,0,none⟩) m.ex.length m.ex.length) m.ex.length (zas m.ex.length (cS m 0))):=by show World.ownsRow _ _ _ _ _ _ _;rw[show zas m.ex.length (cS m 0)=zas m.ex.length (cE m.ex m.ex.length) from zex fun k _=>by simp[cE,cS,zaO]];exact HN.o
   go_wp2;go_loopg [6] m.st.length (fun k i wr=>∃j:Nat,i= .int .i64 j/\j+k=m.st.length/\(∀s∈m.st.take j,0<=s.expr/\s.expr<(m.ex.length:Int))/\wr.ownsRow (w.heap.size+1) 3 1 (.slice (some ⟨w.heap.size+1,0,none⟩) m.ex.length m.ex.length) m.ex.length (zas m.ex.length (cS m j))/\OwnMd wr base S m/\wr.heap[w.heap.size]? =some (.cells #[.slice S.rq.a m.rq.length S.rq.cap,.slice S.im.a m.im.length S.im.cap,.slice S.ep.a m.ep.length S.ep.cap,.slice S.st.a m.st.length S.st.cap,.slice S.ex.a m.ex.length S.ex.cap] 54 (0,0))/\Below w.heap.size w wr)
   case atStart=>exact⟨0,rfl,by omega,(fun s hs=>by simp at hs),HC.o,HO.o,HX.o,Y.o⟩
   case round=>
    obtain⟨j,rfl,bz,ah,z,O,U,K⟩:=hrel;have AS:=zc ah;have ac:=zc z;have az:=zc O;have aH:=zc U;have ai:=zc K;clear ah z O U K c0 c1 c2 c3 c4 cf;obtain⟨c0,c1,c2,c3,c4,cf⟩:=zj aH.o;by_cases J:j<m.st.length
    ·have aq:(j:Int)<(m.st.length:Int):=by omega
     obtain⟨s,aw⟩: ∃s,m.st[j]? =some s:=⟨_,List.getElem?_eq_getElem J⟩;obtain⟨g,hg,aJ⟩:=OwnR.elem (f:=smL) (m:=3) (fun _=>rfl) az.o.st aw;have k2:=aJ 2 (by omega);simp only[smL,List.getElem?_cons_zero,List.getElem?_cons_succ] at k2;rw[hg] at c3;obtain⟨_,ak⟩:=List.getElem?_eq_some_iff.1 aw;have HS:Hid (m.st[j]=s):=ak;clear hg aJ aw ak;obtain⟨L,I⟩: ∃L,L=j+1:=⟨_,rfl⟩;have ej:(j:Int)+1=(L:Int):=by omega
     have X:=zc I;clear I;by_cases a1:s.expr<0
     ·have ad:decide (s.expr<0)=true:=decide_eq_true a1;go_wp2;go_ret;exact⟨zcW (fun (t:Tree m)=>by have:=t.stm _ (List.getElem_mem J);rw[HS.o] at this;omega),ai.o⟩
     have ad:decide (s.expr<0)=false:=decide_eq_false a1;by_cases a2:(m.ex.length:Int)<=s.expr
     ·have ag:decide ((m.ex.length:Int)<=s.expr)=true:=decide_eq_true a2;go_wp2;go_ret;exact⟨zcW (fun (t:Tree m)=>by have:=t.stm _ (List.getElem_mem J);rw[HS.o] at this;omega),ai.o⟩
     have ag:decide ((m.ex.length:Int)<=s.expr)=false:=decide_eq_false a2;obtain⟨N,au⟩: ∃N:Nat,s.expr=(N:Int):=⟨s.expr.toNat,by omega⟩;have aS:N<m.ex.length:=by omega
     have bc:(N:Int)<(m.ex.length:Int):=by omega
     have av:Hid (∀s∈m.st.take (j+1),0<=s.expr/\s.expr<(m.ex.length:Int)):=by
      intro y hy;rw[List.take_succ_eq_append_getElem J,List.mem_append] at hy;rcases hy with hy|hy
      ·exact AS.o y hy
      ·simp only[List.mem_singleton] at hy;rw[hy,HS.o];omega
     have HU:Hid (∀k:Nat,zaL (cS m j) N k=cS m (j+1) k):=fun k=>by have:=zkV (ex:=m.ex) J (by rw[HS.o];omega) k;rw[HS.o,au] at this;exact this
     rw[au] at k2 a1 a2 ad ag;obtain⟨v,hv⟩: ∃v,cS m j N=v:=⟨_,rfl⟩;have ea:=zeU ac.o aS;have ef:=ac.o.frozenAt;rw[hv] at ea;have af:v<=17179869184:=by rw[<-hv];unfold cS;have:=zgH m.ex (N:Int);have:=zkS (m.st.take j) (N:Int);rw[List.length_take] at this;omega
     obtain⟨u,hu⟩: ∃u,u=v+1:=⟨_,rfl⟩;have ev:(v:Int)+1=(u:Int):=by omega
     have ao:u<=17179869185:=by omega
     have NN:Hid ((wr.setCell ⟨w.heap.size+1,N,none⟩ (.int .i64 (u:Int))).ownsRow (w.heap.size+1) 3 1 (.slice (some ⟨w.heap.size+1,0,none⟩) m.ex.length m.ex.length) m.ex.length (zas m.ex.length (zaL (cS m j) N))):=zgJ ac.o N u (by rw[hu,hv]);have NO:Hid (OwnMd (wr.setCell ⟨w.heap.size+1,N,none⟩ (.int .i64 (u:Int))) base S m):=zgK az.o (zgM ac.o);have NX:Hid ((wr.setCell ⟨w.heap.size+1,N,none⟩ (.int .i64 (u:Int))).heap[w.heap.size]? =some (.cells #[.slice S.rq.a m.rq.length S.rq.cap,.slice S.im.a m.im.length S.im.cap,.slice S.ep.a m.ep.length S.ep.cap,.slice S.st.a m.st.length S.st.cap,.slice S.ex.a m.ex.length S.ex.cap] 54 (0,0))):=(zv (by omega)).trans aH.o;have NB:Hid (Below w.heap.size w (wr.setCell ⟨w.heap.size+1,N,none⟩ (.int .i64 (u:Int)))):=ai.o.setCell (Nat.le_succ _) _;clear au hv hu;go_wp2;go_roundg (gk-1)
     case rel=>exact⟨L,rfl,by have:=X.o;omega,by rw[X.o];exact av.o,by rw[X.o,<-zex fun k _=>HU.o k];exact NN.o,NO.o,NX.o,NB.o⟩
     case measure=>omega
    ·have aq: ¬(j:Int)<(m.st.length:Int):=by omega
     obtain rfl:j=m.st.length:=by omega
     have av:Hid (∀s∈m.st,0<=s.expr/\s.expr<(m.ex.length:Int)):=by have:=AS.o;rw[List.take_length] at this;exact this
     go_wp2;go_loopg [8] m.ex.length (fun k i wr=>∃j:Nat,i= .int .i64 j/\j+k=m.ex.length/\(∀k,k<j->cS m m.st.length k=1)/\wr.ownsRow (w.heap.size+1) 3 1 (.slice (some ⟨w.heap.size+1,0,none⟩) m.ex.length m.ex.length) m.ex.length (zas m.ex.length (cS m m.st.length))/\Below w.heap.size w wr)
     case atStart=>exact⟨0,rfl,by omega,fun k hk=>absurd hk (Nat.not_lt_zero k),ac.o,ai.o⟩
     case round=>
      obtain⟨j,rfl,bx,ah,z,K⟩:=hrel;have AC:=zc ah;have aA:=zc z;have ap:=zc K;clear ah z K c0 c1 c2 c3 c4 cf;by_cases am:j<m.ex.length
      ·have ar:(j:Int)<(m.ex.length:Int):=by omega
       obtain⟨v,hv⟩: ∃v,cS m m.st.length j=v:=⟨_,rfl⟩;have ea:=zeU aA.o am;rw[hv] at ea;have HV:=zc hv;clear hv;obtain⟨L,I⟩: ∃L,L=j+1:=⟨_,rfl⟩;have ej:(j:Int)+1=(L:Int):=by omega
       have X:=zc I;clear I;by_cases ay:v=1
       ·subst ay;go_wp2;go_roundg (gk-1)
        case rel=>exact⟨L,rfl,by have:=X.o;omega,(fun k hk=>(Nat.lt_or_eq_of_le (show k<=j by have:=X.o;omega)).elim (AC.o k) (fun e=>by rw[e];exact HV.o)),aA.o,ap.o⟩
        case measure=>omega
       ·have dv:((v:Int) !=1)=true:=by rw[bne_iff_ne];omega
        go_wp2;go_ret;exact⟨zcW (fun (t:Tree m)=>absurd (by have:=t.once j am;have h2:=HV.o;unfold cS at h2;rw[List.take_length] at h2;omega) ay),ap.o⟩
      ·have ar: ¬(j:Int)<(m.ex.length:Int):=by omega
       go_wp2;go_ret;exact⟨zkX ⟨HA.o,av.o,fun k hk=>by have:=AC.o k (by omega);unfold cS at this;rw[List.take_length] at this;exact this⟩,ap.o⟩
theorem zgN {α:Type} {l:List α} {j:Nat} (h:j<l.length): ∃x,l[j]? =some x:=⟨_,List.getElem?_eq_getElem h⟩
theorem zr1 (t:BA):t++sNone=t:=by
 cases t with
 |mk d=>
  show ByteArray.append _ _=_;simp[ByteArray.append]
theorem zr2 (m:Md):(acc (stF m.ex) m.st (zci m)).size<=(zcj m).size:=Nat.le_refl _
theorem zkY (m:Md):(acc epF m.ep (acc zad m.im (acc rqT m.rq sNone))).size<=(zcj m).size:=zem _ _ _
theorem zkZ (m:Md):(acc zad m.im (acc rqT m.rq sNone)).size<=(zcj m).size:=Nat.le_trans (zem _ _ _) (zkY m)
theorem zr3 (m:Md):(acc rqT m.rq sNone).size<=(zcj m).size:=Nat.le_trans (zem _ _ _) (zkZ m)
theorem zr4 (k:Int) (n e:BA):e.size<=(za6 k n e).size:=by
 unfold za6
 repeat (first|split|(simp only[ByteArray.size_append];omega))
theorem zr5 (base:Nat) (S:Sv) (m:Md) (az:Bool) (w:World) (h:OwnMd w base S m) (hm:Small m) (am:Tree m->(zcj m).size<=1099511627776):
  Calls prog 55 #[zl S m,.bool az] w fun e w'=>PrintOut (zcj m) m e/\Below w.heap.size w w':=by
 have HH:=zc h;have SM:=zc hm;have HU:=zc am;obtain⟨f1,f2,f3,f4,f5⟩:=hm.few;clear h hm am;unfold zl;go_enter func55,ntmps55;go_wp2_with fail;refine (zr0 base S m _ (HH.o.alloc _) f5 f4).mono ?_;rintro e w1 ⟨⟨b,rfl,K⟩,ag⟩;have HT:=zc K;have aj:Hid (Below w.heap.size w w1):=((Below.refl _ _).alloc (Nat.le_refl _) _).trans (ag.mono (by rw[zg];omega));have an:Hid (w1.heap[w.heap.size]? =some (.cells #[.slice S.rq.a m.rq.length S.rq.cap,.slice S.im.a m.im.length S.im.cap,.slice S.ep.a m.ep.length S.ep.cap,.slice S.st.a m.st.length S.st.cap,.slice S.ex.a m.ex.length S.ex.cap] 54 (0,0))):=(ag.block _ (by rw[zg];omega)).trans (heap_alloc_new w _);have ar:=zc (HH.o.later aj.o);clear K ag;obtain⟨c0,c1,c2,c3,c4,cf⟩:=zj an.o;cases b with
 |false=>
  go_wp2;go_ret;exact⟨.inr ⟨(fun t=>by have:=HT.o.2 t;cases this),rfl⟩,aj.o⟩
 |true=>
  have TR:=zc (HT.o.1 rfl);have HZ:=zc (HU.o TR.o);go_wp2;go_loopg [5,6] m.rq.length (fun k t i wr=>∃(j:Nat) (J:BA),i= .int .i64 j/\t= .string J/\j+k=m.rq.length/\J=acc rqT (m.rq.take j) sNone/\OwnMd wr base S m/\wr.heap[w.heap.size]? =some (.cells #[.slice S.rq.a m.rq.length S.rq.cap,.slice S.im.a m.im.length S.im.cap,.slice S.ep.a m.ep.length S.ep.cap,.slice S.st.a m.st.length S.st.cap,.slice S.ex.a m.ex.length S.ex.cap] 54 (0,0))/\Below w.heap.size w wr)
  case atStart=>exact⟨0,_,rfl,rfl,by omega,rfl,ar.o,an.o,aj.o⟩
  case round=>
   obtain⟨j,J,rfl,rfl,hj,N,ho,hx,K⟩:=hrel;have q:=zc N;have Z:=zc ho;have X:=zc hx;have HB:=zc K;clear N ho hx K c0 c1 c2 c3 c4 cf;obtain⟨c0,c1,c2,c3,c4,cf⟩:=zj X.o;have ab:=(aLt X.o);by_cases Y:j<m.rq.length
   ·have U:(j:Int)<(m.rq.length:Int):=by omega
    obtain⟨x,A⟩:=zgN Y;have H:=List.mem_of_getElem? A;have HS:=zc (zc4 rqT A sNone);have z:=zdL rqT m.rq (j+1) sNone;rw[HS.o,<-q.o,ByteArray.size_append] at z;have L:(acc rqT m.rq sNone).size<=1099511627776:=Nat.le_trans (zr3 m) HZ.o;obtain⟨V,O⟩: ∃V,V=j+1:=⟨_,rfl⟩;have ej:(j:Int)+1=(V:Int):=by omega
    have HJ:=zc O;clear O;have ai:J.size<=1099511627776:=by omega
    obtain⟨g,hg,hc⟩:=Z.o.rq.text Y;rw[hg] at c0;have al:m.rq.getD j sNone=x:=by rw[List.getD,A];rfl
    rw[al] at hc;clear hg al;have aD:=SM.o.rq x H;obtain⟨qt,ah⟩: ∃t,za1 x=t:=⟨_,rfl⟩;have ap:=zif x;rw[ah] at ap;have aB:qt.size<=8589934592:=by omega
    have QT:=zc ah;clear ah ap z L A H;go_wp2_with fail;refine (zgG x _ (by omega)).mono ?_;rintro e w2 ⟨rfl,hw⟩;rw[hw,QT.o];clear hw w2;go_wp2;go_roundg (gk-1)
    case rel=>exact⟨V,_,rfl,rfl,by have:=HJ.o;omega,by rw[HJ.o,HS.o,<-q.o,rqT,QT.o,ByteArray.append_assoc,ByteArray.append_assoc,ByteArray.append_assoc],Z.o,X.o,HB.o⟩
    case measure=>omega
   ·have U: ¬(j:Int)<(m.rq.length:Int):=by omega
    have aa:Hid (J=acc rqT m.rq sNone):=by show J=_;rw[q.o,List.take_of_length_le (by omega)]
    clear q;go_wp2;go_loopg [5,7] m.im.length (fun k t i wr=>∃(j:Nat) (J:BA),i= .int .i64 j/\t= .string J/\j+k=m.im.length/\J=acc zad (m.im.take j) (acc rqT m.rq sNone)/\OwnMd wr base S m/\wr.heap[w.heap.size]? =some (.cells #[.slice S.rq.a m.rq.length S.rq.cap,.slice S.im.a m.im.length S.im.cap,.slice S.ep.a m.ep.length S.ep.cap,.slice S.st.a m.st.length S.st.cap,.slice S.ex.a m.ex.length S.ex.cap] 54 (0,0))/\Below w.heap.size w wr)
    case atStart=>exact⟨0,_,rfl,rfl,by omega,aa.o,Z.o,X.o,HB.o⟩
    case round=>
     obtain⟨j,J,rfl,rfl,hj,N,ho,hx,K⟩:=hrel;have q:=zc N;have Z:=zc ho;have X:=zc hx;have HB:=zc K;clear N ho hx K c0 c1 c2 c3 c4 cf;obtain⟨c0,c1,c2,c3,c4,cf⟩:=zj X.o;have ab:=(aLt X.o);by_cases Y:j<m.im.length
     ·have U:(j:Int)<(m.im.length:Int):=by omega
      obtain⟨x,A⟩:=zgN Y;have H:=List.mem_of_getElem? A;have HS:=zc (zc4 zad A (acc rqT m.rq sNone));have z:=zdL zad m.im (j+1) (acc rqT m.rq sNone);rw[HS.o,<-q.o,ByteArray.size_append] at z;have L:(acc zad m.im (acc rqT m.rq sNone)).size<=1099511627776:=Nat.le_trans (zkZ m) HZ.o;obtain⟨V,O⟩: ∃V,V=j+1:=⟨_,rfl⟩;have ej:(j:Int)+1=(V:Int):=by omega
      have HJ:=zc O;clear O;have ai:J.size<=1099511627776:=by omega
      obtain⟨g,hg,I⟩:=OwnR.elem (f:=imL) (m:=3) (fun _=>rfl) Z.o.im A;rw[hg] at c1;have k0:=I 0 (by omega);have k1:=I 1 (by omega);have k2:=I 2 (by omega);simp only[imL,Nat.add_zero,List.getElem?_cons_zero,List.getElem?_cons_succ] at k0 k1 k2;obtain⟨z1,z2,z3⟩:=SM.o.im x H;clear hg I A H;obtain⟨pt,M⟩: ∃t,zad x=t:=⟨_,rfl⟩;have ao:pt.size<=1099511627776:=by rw[<-M];omega
      have PT:=zc M;clear M z L;go_wp2_with fail;refine (zrm x _ z1 z2 z3).mono ?_;rintro e w2 ⟨rfl,K⟩;rw[PT.o];have ac:=zc (Z.o.later K);have ae:=zc ((K.block _ ab).trans X.o);have ad:=zc (HB.o.trans (K.mono HB.o.size));clear K;go_wp2;go_roundg (gk-1)
      case rel=>exact⟨V,_,rfl,rfl,by have:=HJ.o;omega,by rw[HJ.o,HS.o,<-q.o,PT.o],ac.o,ae.o,ad.o⟩
      case measure=>omega
     ·have U: ¬(j:Int)<(m.im.length:Int):=by omega
      have aa:Hid (J=acc zad m.im (acc rqT m.rq sNone)):=by show J=_;rw[q.o,List.take_of_length_le (by omega)]
      clear q;go_wp2;go_loopg [5,8] m.ep.length (fun k t i wr=>∃(j:Nat) (J:BA),i= .int .i64 j/\t= .string J/\j+k=m.ep.length/\J=acc epF (m.ep.take j) (acc zad m.im (acc rqT m.rq sNone))/\OwnMd wr base S m/\wr.heap[w.heap.size]? =some (.cells #[.slice S.rq.a m.rq.length S.rq.cap,.slice S.im.a m.im.length S.im.cap,.slice S.ep.a m.ep.length S.ep.cap,.slice S.st.a m.st.length S.st.cap,.slice S.ex.a m.ex.length S.ex.cap] 54 (0,0))/\Below w.heap.size w wr)
      case atStart=>exact⟨0,_,rfl,rfl,by omega,aa.o,Z.o,X.o,HB.o⟩
      case round=>
       obtain⟨j,J,rfl,rfl,hj,N,ho,hx,K⟩:=hrel;have q:=zc N;have Z:=zc ho;have X:=zc hx;have HB:=zc K;clear N ho hx K c0 c1 c2 c3 c4 cf;obtain⟨c0,c1,c2,c3,c4,cf⟩:=zj X.o;have ab:=(aLt X.o);by_cases Y:j<m.ep.length
       ·have U:(j:Int)<(m.ep.length:Int):=by omega
        obtain⟨x,A⟩:=zgN Y;have H:=List.mem_of_getElem? A;have HS:=zc (zc4 epF A (acc zad m.im (acc rqT m.rq sNone)));have z:=zdL epF m.ep (j+1) (acc zad m.im (acc rqT m.rq sNone));rw[HS.o,<-q.o,ByteArray.size_append] at z;have L:(acc epF m.ep (acc zad m.im (acc rqT m.rq sNone))).size<=1099511627776:=Nat.le_trans (zkY m) HZ.o;obtain⟨V,O⟩: ∃V,V=j+1:=⟨_,rfl⟩;have ej:(j:Int)+1=(V:Int):=by omega
        have HJ:=zc O;clear O;have ai:J.size<=1099511627776:=by omega
        obtain⟨g,hg,I⟩:=OwnR.elem (f:=epL) (m:=4) (fun _=>rfl) Z.o.ep A;rw[hg] at c2;have k0:=I 0 (by omega);have k1:=I 1 (by omega);have k2:=I 2 (by omega);have k3:=I 3 (by omega);simp only[epL,Nat.add_zero,List.getElem?_cons_zero,List.getElem?_cons_succ] at k0 k1 k2 k3;obtain⟨z1,z2,z3⟩:=SM.o.ep x H;clear hg I A H;cases hd:(x.loc.toList==[42,100,101,102,97,117,108,116]) with
        |true=>
         clear z L;go_wp2;go_roundg (gk-1)
         case rel=>exact⟨V,_,rfl,rfl,by have:=HJ.o;omega,by rw[HJ.o,HS.o,<-q.o,epF,hd];show J=J++sNone;rw[zr1],Z.o,X.o,HB.o⟩
         case measure=>omega
        |false=>
         obtain⟨pt,M⟩: ∃t,zbu x=t:=⟨_,rfl⟩;have ao:pt.size<=1099511627776:=by rw[<-M,<-show epF x=zbu x from (by rw[epF,hd];rfl)];omega
         have PT:=zc M;clear M z L;go_wp2_with fail;refine (zrn x _ z1 z2 z3).mono ?_;rintro e w2 ⟨rfl,K⟩;rw[PT.o];have ac:=zc (Z.o.later K);have ae:=zc ((K.block _ ab).trans X.o);have ad:=zc (HB.o.trans (K.mono HB.o.size));clear K;go_wp2;go_roundg (gk-1)
         case rel=>exact⟨V,_,rfl,rfl,by have:=HJ.o;omega,by rw[HJ.o,HS.o,<-q.o,epF,hd];show _=J++zbu x;rw[PT.o],ac.o,ae.o,ad.o⟩
         case measure=>omega
       ·have U: ¬(j:Int)<(m.ep.length:Int):=by omega
        have aa:Hid (J=acc epF m.ep (acc zad m.im (acc rqT m.rq sNone))):=by show J=_;rw[q.o,List.take_of_length_le (by omega)]
        clear q;go_wp2;go_loopg [5,9] m.st.length (fun k t i wr=>∃(j:Nat) (J:BA),i= .int .i64 j/\t= .string J/\j+k=m.st.length/\J=acc (stF m.ex) (m.st.take j) (zci m)/\OwnMd wr base S m/\wr.heap[w.heap.size]? =some (.cells #[.slice S.rq.a m.rq.length S.rq.cap,.slice S.im.a m.im.length S.im.cap,.slice S.ep.a m.ep.length S.ep.cap,.slice S.st.a m.st.length S.st.cap,.slice S.ex.a m.ex.length S.ex.cap] 54 (0,0))/\Below w.heap.size w wr)
        case atStart=>exact⟨0,_,rfl,rfl,by omega,aa.o,Z.o,X.o,HB.o⟩
        case round=>
         obtain⟨j,J,rfl,rfl,hj,N,ho,hx,K⟩:=hrel;have q:=zc N;have Z:=zc ho;have X:=zc hx;have HB:=zc K;clear N ho hx K c0 c1 c2 c3 c4 cf;obtain⟨c0,c1,c2,c3,c4,cf⟩:=zj X.o;have ab:=(aLt X.o);by_cases Y:j<m.st.length
         ·have U:(j:Int)<(m.st.length:Int):=by omega
          obtain⟨x,A⟩:=zgN Y;have H:=List.mem_of_getElem? A;have HS:=zc (zc4 (stF m.ex) A (zci m));have z:=zdL (stF m.ex) m.st (j+1) (zci m);rw[HS.o,<-q.o,ByteArray.size_append] at z;have L:(acc (stF m.ex) m.st (zci m)).size<=1099511627776:=Nat.le_trans (zr2 m) HZ.o;obtain⟨V,O⟩: ∃V,V=j+1:=⟨_,rfl⟩;have ej:(j:Int)+1=(V:Int):=by omega
          have HJ:=zc O;clear O;have ai:J.size<=1099511627776:=by omega
          obtain⟨g,hg,I⟩:=OwnR.elem (f:=smL) (m:=3) (fun _=>rfl) Z.o.st A;rw[hg] at c3;have k0:=I 0 (by omega);have k1:=I 1 (by omega);have k2:=I 2 (by omega);simp only[smL,Nat.add_zero,List.getElem?_cons_zero,List.getElem?_cons_succ] at k0 k1 k2;have z1:=SM.o.st x H;obtain⟨t1,t2⟩:=TR.o.stm x H;obtain⟨en,ak⟩: ∃en:Nat,x.expr=(en:Int):=⟨x.expr.toNat,by omega⟩;obtain⟨pt,M⟩: ∃t,za6 x.kind x.name (prX m.ex en)=t:=⟨_,rfl⟩;have aq:stF m.ex x=pt:=by rw[stF,ak,Int.toNat_natCast,M]
          rw[aq] at HS z;have ao:pt.size<=1099511627776:=by omega
          have aA:wt m.ex en<=1099511627776:=by have:=zr4 x.kind x.name (prX m.ex en);rw[M] at this;unfold wt;omega
          rw[ak] at k2;have HG:=zc hg;have cS: ∀d os,Calls prog 87 #[.agg #[.slice S.rq.a m.rq.length S.rq.cap,.slice S.im.a m.im.length S.im.cap,.slice S.ep.a m.ep.length S.ep.cap,.slice (some ⟨g,0,none⟩) m.st.length S.st.cap,.slice S.ex.a m.ex.length S.ex.cap],.agg #[.int .i64 x.kind,.string x.name,.int .i64 (en:Int)]] (grow (redrawn wr d) os) fun e ay=>e= .returned (.string pt)/\∃p:Regrown,ay=grow (redrawn wr p.d) p.os:=fun d os=>Calls.regrown_of (by rw[<-M,<-hg];exact zrv base S m x.kind x.name en _ (Z.o.later (below_regrown _ d os)) (by omega) SM.o.nums TR.o.ahead aA z1);have C0:=zc c0;have C1:=zc c1;have C2:=zc c2;have C3:=zc c3;have C4:=zc c4;have K0:=zc k0;have K1:=zc k1;have K2:=zc k2;clear hg I A H M aq z L ak HG;go_wp2_with fail;have y0:=cell_regrown C0.o;have y1:=cell_regrown C1.o;have y2:=cell_regrown C2.o;have y3:=cell_regrown C3.o;have y4:=cell_regrown C4.o;have aw:=cell_regrown K0.o;have au:=cell_regrown K1.o;have ax:=cell_regrown K2.o;refine wp_region_quiet_below (by kernel_rfl) (by kernel_rfl) ?_
          repeat (go_big_quiet_step (with_reducible exact cS _ _))
          refine wpQuiet_nil ?_;intro w2 av;obtain⟨⟨dq,aC⟩,af⟩:=av;have K:Below wr.heap.size wr w2:=by rw[af];exact below_regrown _ _ _
          have ac:=zc (Z.o.later K);have ae:=zc ((K.block _ ab).trans X.o);have ad:=zc (HB.o.trans (K.mono HB.o.size));clear K af y0 y1 y2 y3 y4 aw au ax cS;go_wp2;go_roundg (gk-1)
          case rel=>exact⟨V,_,rfl,rfl,by have:=HJ.o;omega,by rw[HJ.o,HS.o,<-q.o],ac.o,ae.o,ad.o⟩
          case measure=>omega
         ·have U: ¬(j:Int)<(m.st.length:Int):=by omega
          have aa:Hid (J=acc (stF m.ex) m.st (zci m)):=by show J=_;rw[q.o,List.take_of_length_le (by omega)]
          clear q;go_wp2;go_ret;exact⟨.inl ⟨TR.o,za7 aa.o⟩,HB.o⟩
theorem Tryz.infoString:(prog.info? 9).map (fun i=>(i.zero,i.size,i.bytes))=some (some (.string {data:=#[]}),1,16):=by kernel_rfl
theorem OwnR.addr {w:World} {base size n:Nat} {e:TypeId} {r:Rw} {xs:List Value} (h:OwnR w base e size r n xs):n=0∨∃g,r.a=some ⟨g,0,none⟩:=by
 rcases h.2 with ⟨_,H⟩|⟨g,A,z,q,_⟩
 ·exact .inl H
 ·simp only[Value.slice.injEq] at q;exact .inr ⟨g,q.1⟩
theorem OwnR.str {w:World} {base:Nat} {e:TypeId} {r:Rw} {l:List BA} {g:Nat} (h:OwnR w base e 1 r l.length (l.map .string)) (z:r.a=some ⟨g,0,none⟩) {j:Nat} (q:j<l.length):w.cell? ⟨g,j,none⟩=some (.string (l.getD j sNone)):=by
 unfold OwnR at h;rw[z] at h;rw[h.cellAt j (by omega)];simp[List.getD,q]
theorem OwnR.lt {w:World} {base size n:Nat} {e:TypeId} {r:Rw} {xs:List Value} {g:Nat} (h:OwnR w base e size r n xs) (q:r.a=some ⟨g,0,none⟩):g<w.heap.size:=(h.typed (k:=g) (by simp[Rw.blk,q,Value.ownBlock])).2.1
theorem zr6 {l:List BA} {x:BA} {j:Nat} (q:j<l.length) (h:((l.getD j sNone).toList==x.toList)=true):zaS l x=true:=by
 rw[zaS,List.any_eq_true];exact⟨l[j],List.getElem_mem q,by simpa [List.getD,q] using h⟩
theorem zr7 {l:List BA} {x:BA} (h: ∀j,j<l.length->((l.getD j sNone).toList==x.toList)=false):zaS l x=false:=by
 rw[Bool.eq_false_iff,zaS];intro k;rw[List.any_eq_true] at k;obtain⟨y,z,w⟩:=k;obtain⟨j,q,rfl⟩:=List.getElem_of_mem z;have:=h j q;simp only[List.getD,List.getElem?_eq_getElem q,Option.getD_some] at this;rw[this] at w;cases w
theorem zr8 {C:Cx} {x:PR} {q:PS} {z:Int} (I:Is x q z) (H:(decide (z<0)&&((ze C q.pos).kind==3))=false):Is2 (bd x (zL C)) q (zb7 C q.pos z) sNone:=by
 unfold zb7;by_cases h:z<0
 ·obtain⟨w,A⟩:=zaJ I h;simp only[h,decide_true,Bool.true_and] at H;rw[w,zA,zL,H,if_pos h];rfl
 ·obtain⟨e,w,A⟩:=zd9 I h;rw[w,zeA,if_neg h];exact A
theorem zr9 (C:Cx) (K H base:Nat) (x:PR) (S:Sv) (q:PS) (z:Int) (d:Nat) (w:World) (hx:Is x q z) (U:Mem C K H base S q w) (O:(decide (z<0)&&((ze C q.pos).kind==3))=false):
  Calls prog 153 #[pv C K H S q z d] w (zdJ C K H base (bd x (zL C)) d S w):=by
 have V:=zc U;have h:=U.tok;have I:=U.few;have Z:Hid (Is2 (bd x (zL C)) q (zb7 C q.pos z) sNone):=zr8 hx O;clear hx U;by_cases hz:z<0
 ·have Y:decide (0<=z)=false:=decide_eq_false (by omega);simp only[hz,decide_true,Bool.true_and] at O;by_cases hp:q.pos<C.ts.length
  ·obtain⟨N,_,_,_⟩:=h.cells hp (d:=⟨0,sNone,0,C.fin⟩);have aa:=(zau h).1;change _=some (Value.int .i64 (ze C q.pos).kind) at N;generalize X:ze C q.pos=t at N O;have ab:(t.kind !=3)=true:=by rw[bne,O];rfl
   clear X;unfold pv;go_enter func153,ntmps153;go_wp2_with fail;refine (zd7 C K H base S q z d _ (zr (zr h _) _) I).mono ?_;rintro e w2 ⟨rfl,A⟩;have J:Hid (_=_):=(zcQ A).2;obtain⟨N,c1,c2,c3,c4,c5,c6,c7,c8,c9,M,L,cf⟩:=zap J.o;unfold pv;go_wp2;refine bodyPost_ret (zaA rfl _ _ (w.heap.size+1) 121 _ (0,0) _ rfl (zbd J.o) underlying121 rfl (by kernel_rfl)) rfl ?_;exact zei rfl Z.o V.o (zbY (zbj A) (Nat.le_succ _) ..)
  ·unfold pv;go_enter func153,ntmps153;go_wp2_with fail;refine (zd7 C K H base S q z d _ (zr (zr h _) _) I).mono ?_;rintro e w2 ⟨rfl,A⟩;have J:Hid (_=_):=(zcQ A).2;obtain⟨N,c1,c2,c3,c4,c5,c6,c7,c8,c9,M,L,cf⟩:=zap J.o;unfold pv;go_wp2;refine bodyPost_ret (zaA rfl _ _ (w.heap.size+1) 121 _ (0,0) _ rfl (zbd J.o) underlying121 rfl (by kernel_rfl)) rfl ?_;exact zei rfl Z.o V.o (zbY (zbj A) (Nat.le_succ _) ..)
 ·have Y:decide (0<=z)=true:=decide_eq_true (by omega);unfold pv;go_enter func153,ntmps153;go_wp2_with fail;refine (zd7 C K H base S q z d _ (zr (zr h _) _) I).mono ?_;rintro e w2 ⟨rfl,A⟩;have J:Hid (_=_):=(zcQ A).2;obtain⟨N,c1,c2,c3,c4,c5,c6,c7,c8,c9,M,L,cf⟩:=zap J.o;unfold pv;go_wp2;refine bodyPost_ret (zaA rfl _ _ (w.heap.size+1) 121 _ (0,0) _ rfl (zbd J.o) underlying121 rfl (by kernel_rfl)) rfl ?_;exact zei rfl Z.o V.o (zbY (zbj A) (Nat.le_succ _) ..)
def txt (C:Cx) (q:PS):BA:=(ze C q.pos).text
theorem zrA {C:Cx} {q:PS} (w:((ze C q.pos).kind==3)=true) (h:zaS q.rq (txt C q)=true):zL C q= .ok (adv q,txt C q):=by
 unfold txt at h;rw[zL,if_pos w,if_pos h];rfl
theorem zrB {C:Cx} {q:PS} (z:((ze C q.pos).kind==3)=true) (h:zaS q.rq (txt C q)=false) (w:40<=q.rq.length):zL C q= .error (zs C q.pos):=by
 unfold txt at h;rw[zL,if_pos z,h,if_pos w];rfl
theorem zrC {C:Cx} {q:PS} (z:((ze C q.pos).kind==3)=true) (h:zaS q.rq (txt C q)=false) (w: ¬40<=q.rq.length):zL C q= .ok ({adv q with rq:=q.rq++[txt C q]},txt C q):=by
 unfold txt at h;rw[zL,if_pos z,h,if_neg w];rfl
theorem zla (C:Cx) (gt A base:Nat) (S:Sv) (q:PS) (d:Nat) (w:World) (L:Mem C gt A base S q w) (h3:((ze C q.pos).kind==3)=true) (g:Nat) (J:q.rq.length=0∨S.rq.a=some ⟨g,0,none⟩):
  Calls prog 153 #[pv C gt A S q (-1) d] w (zdJ C gt A base (zL C q) d S w):=by
 obtain⟨i0,hi,ac,ah,ag⟩:=info_parts Tryz.infoString;have h:=zc L;have H3:=zc h3;have Z:q.pos<C.ts.length:=zga h3 (by decide);have ak:=L.few;have ap:=L.inv.rq;have aj:=(zau L.tok).1;obtain⟨c0,c1,_,_⟩:=L.tok.cells Z (d:=⟨0,sNone,0,C.fin⟩);change _=some (Value.int .i64 (ze C q.pos).kind) at c0;change _=some (Value.string (txt C q)) at c1;generalize (ze C q.pos).kind=kd at c0 h3;have aq:(kd !=3)=false:=by rw[bne,h3];rfl
 have aa:=zc J;obtain⟨R,hR⟩: ∃R:Nat->BA,∀j,R j=q.rq.getD j sNone:=⟨fun j=>q.rq.getD j sNone,fun _=>rfl⟩;have HR:=zc hR;have HC:Hid (∀j,j<q.rq.length->w.cell? ⟨g,j,none⟩=some (.string (R j))):=fun j N=>by
  rcases J with e|e
  ·omega
  ·rw[hR];exact h.o.own.rq.str e N
 clear hR;generalize M:txt C q=tx at c1;have z:=zc M;have H:=fun o1 o2 o3=>((h.o.own.rq.alloc o1).alloc o2).alloc o3;clear M L J;unfold pv;go_enter func153,ntmps153;go_wp2;go_loop [5] (fun i=>∃k:Nat,k<=q.rq.length/\i= .int .i64 k/\∀j,j<k->¬(R j).toList=tx.toList) (fun i=>(q.rq.length-intOf i).toNat)
 case atStart=>exact⟨0,Nat.zero_le _,rfl,fun j N=>absurd N (Nat.not_lt_zero j)⟩
 case round=>
  obtain⟨k,hk,rfl,O⟩:=hrel;have V:=zc O;clear O;by_cases U:k<q.rq.length
  ·have ha:S.rq.a=some ⟨g,0,none⟩:=aa.o.elim (fun e=>by omega) id;have am:=HC.o k U;have an:=h.o.own.rq.lt ha;cases he:((R k).toList==tx.toList) with
   |true=>
    have X:Hid (zL C q= .ok (adv q,tx)):=by
     show zL C q= .ok (adv q,tx);rw[<-z.o];exact zrA H3.o (zr6 U (by rw[<-HR.o,z.o];exact he))
    have HA:=zc ha;go_wp2;refine bodyPost_ret (zaA rfl _ _ (w.heap.size+1) 121 _ (0,0) _ rfl (new2 w _ _) underlying121 rfl (by kernel_rfl)) rfl ?_;rw[X.o];exact zei (q':=adv q) (z':=-1) (by rw[pv,HA.o];rfl) ⟨rfl,rfl,rfl⟩ (h.o.adv Z) (zbe w _ _)
   |false=>
    have HX:Hid (∀j,j<k+1->¬(R j).toList=tx.toList):=fun j N=>by
     by_cases e:j=k
     ·rw[e];exact beq_eq_false_iff_ne.1 he
     ·exact V.o j (by omega)
    go_wp2;go_round
    case rel=>exact⟨k+1,by omega,by go_num,HX.o⟩
    case measure=>simp[intOf];omega
  ·have HN:Hid (zaS q.rq (txt C q)=false):=zr7 fun j N=>by rw[z.o,<-HR.o];exact beq_eq_false_iff_ne.2 (V.o j (by omega))
   by_cases hn:40<=q.rq.length
   ·have qn:decide ((40:Int)<=(q.rq.length:Int))=true:=decide_eq_true (by omega);have X:Hid (zL C q= .error (zs C q.pos)):=zrB H3.o HN.o hn;go_wp2_with fail;refine (zf1 C gt A base S (adv q) (-1) d _ (((h.o.adv Z).alloc _).alloc _) (by decide) (by simp[adv])).mono ?_;rintro e w2 ⟨rfl,K⟩;have G3:Hid (_=_):=(zcQ K).2;obtain⟨b0,b1,b2,b3,b4,b5,b6,b7,b8,b9,ae,ab,bf⟩:=zap G3.o;have HB:Hid (Below w.heap.size w w2):=zbj K;clear K;unfold pv;go_wp2;refine bodyPost_ret (zaA rfl _ _ (w.heap.size+1) 121 _ (0,0) _ rfl (zbd G3.o) underlying121 rfl (by kernel_rfl)) rfl ?_;rw[X.o];exact zei (q':=adv q) (z':=(zs C q.pos:Int)) rfl rfl (h.o.adv Z) (zbY HB.o (Nat.le_succ _) ..)
   ·have qn:decide ((40:Int)<=(q.rq.length:Int))=false:=decide_eq_false (by omega);have X:Hid (zL C q= .ok ({adv q with rq:=q.rq++[tx]},tx)):=by
     show zL C q= .ok ({adv q with rq:=q.rq++[tx]},tx);rw[<-z.o];exact zrC H3.o HN.o hn
    go_wp2_with (at_builtin;refine zbb _ rfl _ _ 22 rfl base 9 i0 _ 1 16 underlying22 hi ac ah ag rfl (by decide) (by decide) S.rq q.rq.length _ (by rfl) (H _ _ _) (w.heap.size+1+1) [.string tx] (by rfl) (by exact (new3 w _ _ _).2.2) rfl (by intro u hu;simp at hu;subst hu;rfl) (by omega) (by have:=h.o.base;rw[zae];omega) ?_);intro r' w2 hr hg Y;have ai:=zc hr;have HG:=zc hg;have ad:=zc Y;have I:=fun b hb=>zej (W:=w) h.o.own (Nat.le_refl _) (r:=S.rq.blk) (fun k e=>.inl e) b hb;have g1:=(hg.block w.heap.size (by rw[zae];omega) (I _ (Nat.le_refl _))).trans (new3 w _ _ _).1;have g2:=(hg.block (w.heap.size+1) (by rw[zae];omega) (I _ (by omega))).trans (new3 w _ _ _).2.1;obtain⟨a0,a1,a2,a3,a4,a5,a6,a7,a8,a9,al,ao,af⟩:=zap g1;obtain⟨b0,b1,b2,b3,b4,b5,b6,b7,b8,b9,ae,ab,bf⟩:=zap g2;have G2:=zc g2;clear g1 g2 hg hr Y I H;go_wp2;refine bodyPost_ret (zaA rfl _ _ (w.heap.size+1) 121 _ (0,0) _ rfl (zbd ((zv (by omega)).trans G2.o)) underlying121 rfl (by kernel_rfl)) rfl ?_;obtain⟨m',s'⟩:=(h.o.adv Z).grow_rq (x:=tx) (zdh w _ _ _) HG.o ai.o (by rw[zae];exact ad.o) (((Off.refl _ _ _).set (b:=w.heap.size) (Nat.le_refl _) (by rw[zae];omega) _ _).set12 (b:=w.heap.size+1) (by omega) (by rw[zae];omega) ..) (by show q.rq.length<40;omega);rw[X.o];exact⟨_,{adv q with rq:=q.rq++[tx]},-1,tx,by simp[pv,adv],⟨rfl,rfl,rfl⟩,m',s'⟩
theorem zey (C:Cx) (A h base:Nat) (x:PR) (S:Sv) (q:PS) (z:Int) (d:Nat) (w:World) (J:Is x q z) (I:Mem C A h base S q w):
  Calls prog 153 #[pv C A h S q z d] w (zdJ C A h base (bd x (zL C)) d S w):=by
 cases H:(decide (z<0)&&((ze C q.pos).kind==3)) with
 |false=>exact zr9 C A h base x S q z d w J I H
 |true=>
  rw[Bool.and_eq_true,decide_eq_true_eq] at H;obtain⟨rfl,rfl⟩:=zaJ J H.1;rw[zA];rcases I.own.rq.addr with e|⟨g,e⟩
  ·exact zla C A h base S q d w I H.2 0 (.inl e)
  ·exact zla C A h base S q d w I H.2 g (.inr e)
end Go.Proofs.YtgcbmogmniahjaaGreat
