/- Facts. -/
import Derived.BigRegion
import Derived.Test.YtegdaafmaookjaaGreatP34
namespace Go.Proofs.YtegdaafmaookjaaGreat
open Nat (le_succ le_trans add_zero)
open Go.Proofs.Tryz
theorem aA0 {a b c:ByteArray}:a ++ b ++ c = a ++ (b ++ c):=ByteArray.append_assoc
set_option maxRecDepth 100000
set_option maxHeartbeats 12800000
open Go.RowKit Go.PlainAid Go.Sort
theorem Tryz.infoInt:(prog.info? 3).map (fun i=>(i.zero,i.size,i.bytes))=some (some (.int .i64 0),1,8):=by kernel_rfl
variable (g:Nat) (w:Md) {W:World} {b c d:Nat} {C:Nat->Nat} {S:List Value} {T:Sv} {q:Md}
theorem zmi:(madeCells #[.int .i64 0] g).toList=zaz g (fun _=>0):=by
 rw[toList_madeCells_one];unfold zaz;rw[List.map_const',List.length_range];rfl
theorem zf6 {q:Nat} (h:W.ownsRow b 3 1 (.slice (some ⟨c,0,none⟩) d q) d (zaz d C)) {k:Nat} (A:k<d):W.cell? ⟨c,k,none⟩=some (.int .i64 (C k:Int)):=by
 rw[h.cellAt k (by omega)];exact zh8 C A
theorem zh9 {q:Nat} (h:W.ownsRow b 3 1 (.slice (some ⟨c,0,none⟩) d q) d (zaz d C)) (k v:Nat) (A:v=C k+1):(W.setCell ⟨c,k,none⟩ (.int .i64 (v:Int))).ownsRow b 3 1 (.slice (some ⟨c,0,none⟩) d q) d (zaz d (zaS C k)):=by
 have:=(h.stored k (.int .i64 (v:Int))).1;rw[zt1 C (zaS C k) v (by rw[zt2,A]) (fun j H=>zt3 C H)] at this;exact this
theorem zgz {w':World} {q:Nat} (h:W.ownsRow b 3 1 (.slice (some ⟨c,0,none⟩) d q) d S) (H:Bw W w'):w'.ownsRow b 3 1 (.slice (some ⟨c,0,none⟩) d q) d S:=by
 have A:OwnR W b 3 1 ⟨some ⟨c,0,none⟩,q⟩ d S:=h;exact A.keep fun k e=>H.block k (A.typed e).2.1
theorem zjf {q:Nat} (h:W.ownsRow b 3 1 (.slice (some ⟨c,0,none⟩) d q) d S):b<=c/\c<W.heap.size:=by
 have A:OwnR W b 3 1 ⟨some ⟨c,0,none⟩,q⟩ d S:=h;exact⟨(A.typed rfl).1,(A.typed rfl).2.1⟩
theorem zhA {u:Value} (h:OwnMd W b T q) (N: ∀z,W.heap[c]? =some z->∃H,z= .cells H 3 (0,0)):OwnMd (W.setCell ⟨c,d,none⟩ u) b T q:=by
 have I: ∀(e:TypeId) (x n:Nat) (r:Rw) (J:List Value),OwnR W b e x r n J->e≠3->OwnR (W.setCell ⟨c,d,none⟩ u) b e x r n J:=fun e x n r J h K=>h.keep fun z M=>Below.heap_setCell W ⟨c,d,none⟩ u z (fun L=>by
  obtain⟨_,_,s,O⟩:=h.typed M;obtain⟨H,A⟩:=N _ (by rw[<-show z=c from L];exact O);simp only[Obj.cells.injEq] at A
  exact K A.2.1)
 exact⟨I _ _ _ _ _ h.rq (by decide),I _ _ _ _ _ h.im (by decide),I _ _ _ _ _ h.ep (by decide),I _ _ _ _ _ h.st (by decide),I _ _ _ _ _ h.ex (by decide)⟩
def cE (ex:List Ex) (j:Nat):Nat->Nat:=fun k=>za0 (ex.take j) (k:Int)
theorem OwnMd.drewI (h:OwnMd W b T q):OwnMd W.drew b T q:=⟨h.rq,h.im,h.ep,h.st,h.ex⟩
def cS (m:Md) (j:Nat):Nat->Nat:=fun k=>za0 m.ex (k:Int)+zaW (m.st.take j) (k:Int)
def zhB (m:Md) (e:Ending):Prop:=∃b,e= .returned (.bool b)/\(b=true↔Tree m)
theorem zdo (h: ¬Tree q):zhB q (.returned (.bool false)):=⟨false,rfl,⟨(fun k=>by cases k),fun t=>absurd t h⟩⟩
theorem zmj (h:Tree q):zhB q (.returned (.bool true)):=⟨true,rfl,⟨fun _=>h,fun _=>rfl⟩⟩
theorem zhC {q:Nat} (h:W.ownsRow b 3 1 (.slice (some ⟨c,0,none⟩) d q) d S): ∀z,W.heap[c]? =some z->∃A,z= .cells A 3 (0,0):=by
 have I:OwnR W b 3 1 ⟨some ⟨c,0,none⟩,q⟩ d S:=h;obtain⟨_,_,s,J⟩:=I.typed rfl;intro z H;rw[J] at H;exact⟨s,(oI H).symm⟩
theorem zt4 (S:Sv) (m:Md) (w:World) (h:OwnMd w g S m) (hl:m.ex.length<=4294967296) (hs:m.st.length<=4294967296):
  Calls prog 97 #[zo S m] w fun e w'=>zhB m e/\Bw w w':=by
 obtain⟨i0,hi,aO,aY,aV⟩:=info_parts Tryz.infoInt;have HH:=zc h;clear h;unfold zo;go_enter func97,ntmps97;go_wp2_with (first|(at_make;refine wpList_make_full _ rfl _ _ 36 rfl (w.heap.size+1) 3 i0 (.int .i64 0) 1 underlying36 hi aO aY .i64 .i64 _ _ m.ex.length (by rfl) (by rfl) rfl rfl (by rw[aV];omega) (by unfold maxLen;omega) (by rw[zh];omega) ?_));intro w1 af aa;rw[zmi] at af;have bb:Below (w.heap.size+1) (w.alloc _) w1:=⟨aa.os,aa.tape,aa.output,aa.size,fun k hk=>aa.block k (by rw[zh];exact hk) (by simp)⟩;have aF:Hid (Bw w w1):=(bA0).trans (bb.mono (by omega));have aE:Hid (w1.heap[w.heap.size]? =some (.cells (bxA S m) 59 (0,0))):=(bb.block _ (by omega)).trans (hN0 w _);have aN:=zc (HH.o.later aF.o);have aQ:Hid (w1.ownsRow (w.heap.size+1) 3 1 (.slice (some ⟨w.heap.size+1,0,none⟩) m.ex.length m.ex.length) m.ex.length (zaz m.ex.length (cE m.ex 0))):=by show World.ownsRow _ _ _ _ _ _ _;rw[show zaz m.ex.length (cE m.ex 0)=zaz m.ex.length (fun _=>0) from zeV fun k _=>by simp[cE,za0]];exact af
 clear af aa bb;obtain⟨c0,c1,c2,c3,c4,cf⟩:=zl aE.o;go_wp2;go_loopg [4] m.ex.length (fun k i wr=>∃j:Nat,i= .int .i64 j/\j+k=m.ex.length/\AheadTo m.ex j/\wr.ownsRow (w.heap.size+1) 3 1 (.slice (some ⟨w.heap.size+1,0,none⟩) m.ex.length m.ex.length) m.ex.length (zaz m.ex.length (cE m.ex j))/\OwnMd wr g S m/\wr.heap[w.heap.size]? =some (.cells (bxA S m) 59 (0,0))/\Bw w wr)
 case atStart=>exact⟨0,rfl,by omega,fun i x hi=>absurd hi (Nat.not_lt_zero i),aQ.o,aN.o,aE.o,aF.o⟩
 case round=>
  obtain⟨j,rfl,hj,ah,A,U,X,L⟩:=hrel;have AH:=zc ah;have HN:=zc A;have HO:=zc U;have HX:=zc X;have Z:=zc L;clear ah A U X L;clear c0 c1 c2 c3 c4 cf;obtain⟨c0,c1,c2,c3,c4,cf⟩:=zl HX.o;have am:=(aLt HX.o);by_cases H:j<m.ex.length
  ·have aD:(j:Int)<(m.ex.length:Int):=by omega
   obtain⟨z,hg,bl,x0,x1,x2,x3,x4,x5⟩:=HO.o.expr H;rw[hg] at c4;clear hg;have aC:=zc (zeB H);obtain⟨x,ao⟩: ∃x,m.ex.getD j zj=x:=⟨_,rfl⟩;rw[ao] at x0 x1 x2 x3 x4 x5;have N:Hid (m.ex[j]=x):=aC.o.symm.trans ao;clear ao aC;obtain⟨M,J⟩: ∃M,M=j+1:=⟨_,rfl⟩;have ej:(j:Int)+1=(M:Int):=by omega
   have Y:=zc J;clear J;have HW:Hid (Bw wr (wr.alloc (.cells #[.int .i64 x.kind,.int .i64 x.num,.string x.name,.string x.field,.int .i64 x.l,.int .i64 x.r] 106))):=bA0;go_wp2_with fail;refine (zlZ x.kind _).mono ?_;rintro e w2 ⟨rfl,hw⟩;rw[hw];clear hw w2;cases ht:zag x.kind with
   |false=>
    go_wp2;go_roundg (gk-1)
    case rel=>exact⟨M,rfl,by have:=Y.o;omega,by rw[Y.o];exact AH.o.next H (fun k=>by rw[N.o,ht] at k;cases k),by rw[Y.o,show zaz m.ex.length (cE m.ex (j+1))=zaz m.ex.length (cE m.ex j) from zeV fun k _=>(zmg H (by rw[N.o];exact ht) k).symm];exact zgz HN.o HW.o,HO.o.later HW.o,(HW.o.block _ am).trans HX.o,Z.o.trans (HW.o.mono Z.o.size)⟩
    case measure=>omega
   |true=>
    by_cases a1:x.l<0
    ·have ae:decide (x.l<0)=true:=dT a1;go_wp2;go_ret;exact⟨zdo (fun (t:Tree m)=>absurd t.ahead (AheadTo.not H (by rw[N.o];exact ht) (by rw[N.o];omega))),Z.o.trans (HW.o.mono Z.o.size)⟩
    have ae:decide (x.l<0)=false:=dF a1;by_cases a2:(j:Int)<=x.l
    ·have ai:decide ((j:Int)<=x.l)=true:=dT a2;go_wp2;go_ret;exact⟨zdo (fun (t:Tree m)=>absurd t.ahead (AheadTo.not H (by rw[N.o];exact ht) (by rw[N.o];omega))),Z.o.trans (HW.o.mono Z.o.size)⟩
    have ai:decide ((j:Int)<=x.l)=false:=dF a2;by_cases a3:x.r<0
    ·have aG:decide (x.r<0)=true:=dT a3;go_wp2;go_ret;exact⟨zdo (fun (t:Tree m)=>absurd t.ahead (AheadTo.not H (by rw[N.o];exact ht) (by rw[N.o];omega))),Z.o.trans (HW.o.mono Z.o.size)⟩
    have aG:decide (x.r<0)=false:=dF a3;by_cases a4:(j:Int)<=x.r
    ·have aJ:decide ((j:Int)<=x.r)=true:=dT a4;go_wp2;go_ret;exact⟨zdo (fun (t:Tree m)=>absurd t.ahead (AheadTo.not H (by rw[N.o];exact ht) (by rw[N.o];omega))),Z.o.trans (HW.o.mono Z.o.size)⟩
    have aJ:decide ((j:Int)<=x.r)=false:=dF a4;go_wp2_with fail;obtain⟨q,ac⟩: ∃q:Nat,x.l=(q:Int):=⟨x.l.toNat,by omega⟩;obtain⟨I,ab⟩: ∃I:Nat,x.r=(I:Int):=⟨x.r.toNat,by omega⟩;have bv:q<m.ex.length:=by omega
    have bn:I<m.ex.length:=by omega
    have a6:(q:Int)<(m.ex.length:Int):=by omega
    have a8:(I:Int)<(m.ex.length:Int):=by omega
    have aP:Hid (AheadTo m.ex (j+1)):=AH.o.next H (fun _=>by rw[N.o];omega);have HU:Hid (∀k:Nat,zaS (zaS (cE m.ex j) q) I k=cE m.ex (j+1) k):=fun k=>by have:=zmf H (by rw[N.o];exact ht) (by rw[N.o];omega) (by rw[N.o];omega) k;rw[N.o,ac,ab] at this;exact this
    have aH:=zh7 (m.ex.take j);have a5:(m.ex.take j).length<=4294967296:=by rw[List.length_take];omega
    have bg:=(zjf HN.o).2;refine zp (R:=fun W=>W.heap[wr.heap.size]? =some (.cells #[.int .i64 x.kind,.int .i64 x.num,.string x.name,.string x.field,.int .i64 (q:Int),.int .i64 (I:Int)] 106 (0,0))/\W.ownsRow (w.heap.size+1) 3 1 (.slice (some ⟨w.heap.size+1,0,none⟩) m.ex.length m.ex.length) m.ex.length (zaz m.ex.length (cE m.ex j))/\OwnMd W g S m/\W.heap[w.heap.size]? =some (.cells (bxA S m) 59 (0,0))/\Below w.heap.size w W) ⟨by have:=hN0 wr (.cells #[.int .i64 x.kind,.int .i64 x.num,.string x.name,.string x.field,.int .i64 x.l,.int .i64 x.r] 106);rw[ac,ab] at this;rw[ac,ab];exact this,zgz HN.o HW.o,HO.o.later HW.o,(HW.o.block _ am).trans HX.o,Z.o.trans (HW.o.mono Z.o.size)⟩ ?_;have bp:=zc ac;have bh:=zc ab;clear ac ab ae ai aG aJ a1 a2 a3 a4;rintro W ⟨xb,A,U,X,L⟩;have bm:=zc xb;have bo:=zc A;have bi:=zc U;have bq:=zc X;have bu:=zc L;obtain⟨s0,s1,s2,s3,s4,s5,sf⟩:=zD xb;obtain⟨va,ak⟩: ∃v,(cE m.ex j) q=v:=⟨_,rfl⟩;have ea:=zf6 A (k:=q) (by omega);have ef:=A.frozenAt;rw[ak] at ea;have bc:va<=17179869184:=by rw[<-ak];have:=aH (q:Int);unfold cE;omega
    obtain⟨ua,ay⟩: ∃u,u=va+1:=⟨_,rfl⟩;have bs:(va:Int)+1=(ua:Int):=by omega
    have ba:IntKind.i64.wrap (ua:Int)=(ua:Int):=IntWalk.i64_in _ ⟨by omega,by omega⟩;have aS:Hid ((W.setCell ⟨w.heap.size+1,q,none⟩ (.int .i64 (ua:Int))).ownsRow (w.heap.size+1) 3 1 (.slice (some ⟨w.heap.size+1,0,none⟩) m.ex.length m.ex.length) m.ex.length (zaz m.ex.length (zaS (cE m.ex j) q))):=zh9 A q ua (by rw[ay,ak]);have aZ:Hid (OwnMd (W.setCell ⟨w.heap.size+1,q,none⟩ (.int .i64 (ua:Int))) g S m):=zhA U (zhC A);have aR:Hid ((W.setCell ⟨w.heap.size+1,q,none⟩ (.int .i64 (ua:Int))).heap[w.heap.size]? =some (.cells (bxA S m) 59 (0,0))):=(zC (by omega)).trans X;have aX:Hid (Bw w (W.setCell ⟨w.heap.size+1,q,none⟩ (.int .i64 (ua:Int)))):=L.setCell (le_succ _) _;have a0:Hid ((W.setCell ⟨w.heap.size+1,q,none⟩ (.int .i64 (ua:Int))).heap[wr.heap.size]? =some (.cells #[.int .i64 x.kind,.int .i64 x.num,.string x.name,.string x.field,.int .i64 (q:Int),.int .i64 (I:Int)] 106 (0,0))):=(zC (by omega)).trans xb;clear xb A U X L ak ay;go_region;clear s0 s1 s2 s3 s4 s5 sf ef ea;go_wp2_with fail;refine zp (R:=fun W=>W.heap[wr.heap.size]? =some (.cells #[.int .i64 x.kind,.int .i64 x.num,.string x.name,.string x.field,.int .i64 (q:Int),.int .i64 (I:Int)] 106 (0,0))/\W.ownsRow (w.heap.size+1) 3 1 (.slice (some ⟨w.heap.size+1,0,none⟩) m.ex.length m.ex.length) m.ex.length (zaz m.ex.length (zaS (cE m.ex j) q))/\OwnMd W g S m/\W.heap[w.heap.size]? =some (.cells (bxA S m) 59 (0,0))/\Below w.heap.size w W) ⟨a0.o,aS.o,aZ.o.drewI,aR.o,aX.o.drew⟩ ?_;rintro V ⟨xb,A,U,X,L⟩;have bx:=zc xb;have br:=zc A;have bf:=zc U;have bw:=zc X;have bj:=zc L;obtain⟨s0,s1,s2,s3,s4,s5,sf⟩:=zD xb;obtain⟨vb,ag⟩: ∃v,(zaS (cE m.ex j) q) I=v:=⟨_,rfl⟩;have eb:=zf6 A (k:=I) (by omega);have ef:=A.frozenAt;rw[ag] at eb;have a7:vb<=17179869184:=by rw[<-ag];have:=aH (I:Int);unfold zaS cE;split<;>omega
    obtain⟨ub,ap⟩: ∃u,u=vb+1:=⟨_,rfl⟩;have bk:(vb:Int)+1=(ub:Int):=by omega
    have a9:IntKind.i64.wrap (ub:Int)=(ub:Int):=IntWalk.i64_in _ ⟨by omega,by omega⟩;have aM:Hid ((V.setCell ⟨w.heap.size+1,I,none⟩ (.int .i64 (ub:Int))).ownsRow (w.heap.size+1) 3 1 (.slice (some ⟨w.heap.size+1,0,none⟩) m.ex.length m.ex.length) m.ex.length (zaz m.ex.length (zaS (zaS (cE m.ex j) q) I))):=zh9 A I ub (by rw[ap,ag]);have aU:Hid (OwnMd (V.setCell ⟨w.heap.size+1,I,none⟩ (.int .i64 (ub:Int))) g S m):=zhA U (zhC A);have aL:Hid ((V.setCell ⟨w.heap.size+1,I,none⟩ (.int .i64 (ub:Int))).heap[w.heap.size]? =some (.cells (bxA S m) 59 (0,0))):=(zC (by omega)).trans X;have aW:Hid (Bw w (V.setCell ⟨w.heap.size+1,I,none⟩ (.int .i64 (ub:Int)))):=L.setCell (le_succ _) _;have bt:Hid ((V.setCell ⟨w.heap.size+1,I,none⟩ (.int .i64 (ub:Int))).heap[wr.heap.size]? =some (.cells #[.int .i64 x.kind,.int .i64 x.num,.string x.name,.string x.field,.int .i64 (q:Int),.int .i64 (I:Int)] 106 (0,0))):=(zC (by omega)).trans xb;clear xb A U X L ag ap;go_region;clear s0 s1 s2 s3 s4 s5 sf ef eb;go_wp2;go_roundg (gk-1)
    case rel=>exact⟨M,rfl,by have:=Y.o;omega,by rw[Y.o];exact aP.o,by rw[Y.o,<-zeV fun k _=>HU.o k];exact aM.o,aU.o.drewI,aL.o,aW.o.drew⟩
    case measure=>omega
  ·have aD: ¬(j:Int)<(m.ex.length:Int):=by omega
   obtain rfl:j=m.ex.length:=by omega
   have HA:=zc AH.o.all;have HC:Hid (wr.ownsRow (w.heap.size+1) 3 1 (.slice (some ⟨w.heap.size+1,0,none⟩) m.ex.length m.ex.length) m.ex.length (zaz m.ex.length (cS m 0))):=by show World.ownsRow _ _ _ _ _ _ _;rw[show zaz m.ex.length (cS m 0)=zaz m.ex.length (cE m.ex m.ex.length) from zeV fun k _=>by simp[cE,cS,zaW]];exact HN.o
   go_wp2;go_loopg [6] m.st.length (fun k i wr=>∃j:Nat,i= .int .i64 j/\j+k=m.st.length/\(∀s∈m.st.take j,0<=s.expr/\s.expr<(m.ex.length:Int))/\wr.ownsRow (w.heap.size+1) 3 1 (.slice (some ⟨w.heap.size+1,0,none⟩) m.ex.length m.ex.length) m.ex.length (zaz m.ex.length (cS m j))/\OwnMd wr g S m/\wr.heap[w.heap.size]? =some (.cells (bxA S m) 59 (0,0))/\Bw w wr)
   case atStart=>exact⟨0,rfl,by omega,(fun s hs=>by simp at hs),HC.o,HO.o,HX.o,Z.o⟩
   case round=>
    obtain⟨j,rfl,bA,ah,A,U,X,L⟩:=hrel;have AS:=zc ah;have ad:=zc A;have aA:=zc U;have aI:=zc X;have aj:=zc L;clear ah A U X L c0 c1 c2 c3 c4 cf;obtain⟨c0,c1,c2,c3,c4,cf⟩:=zl aI.o;by_cases K:j<m.st.length
    ·have ar:(j:Int)<(m.st.length:Int):=by omega
     obtain⟨s,ax⟩: ∃s,m.st[j]? =some s:=⟨_,gE K⟩;obtain⟨z,hg,aK⟩:=OwnR.elem (f:=smL) (m:=3) (fun _=>rfl) aA.o.st ax;have k2:=aK 2 (by omega);simp only[smL,List.getElem?_cons_zero,List.getElem?_cons_succ] at k2;rw[hg] at c3;obtain⟨_,al⟩:=gS ax;have HS:Hid (m.st[j]=s):=al;clear hg aK ax al;obtain⟨M,J⟩: ∃M,M=j+1:=⟨_,rfl⟩;have ej:(j:Int)+1=(M:Int):=by omega
     have Y:=zc J;clear J;by_cases a1:s.expr<0
     ·have ae:decide (s.expr<0)=true:=dT a1;go_wp2;go_ret;exact⟨zdo (fun (t:Tree m)=>by have:=t.stm _ (List.getElem_mem K);rw[HS.o] at this;omega),aj.o⟩
     have ae:decide (s.expr<0)=false:=dF a1;by_cases a2:(m.ex.length:Int)<=s.expr
     ·have ai:decide ((m.ex.length:Int)<=s.expr)=true:=dT a2;go_wp2;go_ret;exact⟨zdo (fun (t:Tree m)=>by have:=t.stm _ (List.getElem_mem K);rw[HS.o] at this;omega),aj.o⟩
     have ai:decide ((m.ex.length:Int)<=s.expr)=false:=dF a2;obtain⟨O,av⟩: ∃O:Nat,s.expr=(O:Int):=⟨s.expr.toNat,by omega⟩;have aT:O<m.ex.length:=by omega
     have be:(O:Int)<(m.ex.length:Int):=by omega
     have aw:Hid (∀s∈m.st.take (j+1),0<=s.expr/\s.expr<(m.ex.length:Int)):=by
      intro y hy;rw[tG K,List.mem_append] at hy;rcases hy with hy|hy
      ·exact AS.o y hy
      ·simp only[List.mem_singleton] at hy;rw[hy,HS.o];omega
     have HU:Hid (∀k:Nat,zaS (cS m j) O k=cS m (j+1) k):=fun k=>by have:=zmh (ex:=m.ex) K (by rw[HS.o];omega) k;rw[HS.o,av] at this;exact this
     rw[av] at k2 a1 a2 ae ai;obtain⟨v,hv⟩: ∃v,cS m j O=v:=⟨_,rfl⟩;have ea:=zf6 ad.o aT;have ef:=ad.o.frozenAt;rw[hv] at ea;have ag:v<=17179869184:=by rw[<-hv];unfold cS;have:=zh7 m.ex (O:Int);have:=zme (m.st.take j) (O:Int);rw[List.length_take] at this;omega
     obtain⟨u,hu⟩: ∃u,u=v+1:=⟨_,rfl⟩;have ev:(v:Int)+1=(u:Int):=by omega
     have ap:u<=17179869185:=by omega
     have NN:Hid ((wr.setCell ⟨w.heap.size+1,O,none⟩ (.int .i64 (u:Int))).ownsRow (w.heap.size+1) 3 1 (.slice (some ⟨w.heap.size+1,0,none⟩) m.ex.length m.ex.length) m.ex.length (zaz m.ex.length (zaS (cS m j) O))):=zh9 ad.o O u (by rw[hu,hv]);have NO:Hid (OwnMd (wr.setCell ⟨w.heap.size+1,O,none⟩ (.int .i64 (u:Int))) g S m):=zhA aA.o (zhC ad.o);have NX:Hid ((wr.setCell ⟨w.heap.size+1,O,none⟩ (.int .i64 (u:Int))).heap[w.heap.size]? =some (.cells (bxA S m) 59 (0,0))):=(zC (by omega)).trans aI.o;have NB:Hid (Bw w (wr.setCell ⟨w.heap.size+1,O,none⟩ (.int .i64 (u:Int)))):=aj.o.setCell (le_succ _) _;clear av hv hu;go_wp2;go_roundg (gk-1)
     case rel=>exact⟨M,rfl,by have:=Y.o;omega,by rw[Y.o];exact aw.o,by rw[Y.o,<-zeV fun k _=>HU.o k];exact NN.o,NO.o,NX.o,NB.o⟩
     case measure=>omega
    ·have ar: ¬(j:Int)<(m.st.length:Int):=by omega
     obtain rfl:j=m.st.length:=by omega
     have aw:Hid (∀s∈m.st,0<=s.expr/\s.expr<(m.ex.length:Int)):=by have:=AS.o;rw[List.take_length] at this;exact this
     go_wp2;go_loopg [8] m.ex.length (fun k i wr=>∃j:Nat,i= .int .i64 j/\j+k=m.ex.length/\(∀k,k<j->cS m m.st.length k=1)/\wr.ownsRow (w.heap.size+1) 3 1 (.slice (some ⟨w.heap.size+1,0,none⟩) m.ex.length m.ex.length) m.ex.length (zaz m.ex.length (cS m m.st.length))/\Bw w wr)
     case atStart=>exact⟨0,rfl,by omega,fun k hk=>absurd hk (Nat.not_lt_zero k),ad.o,aj.o⟩
     case round=>
      obtain⟨j,rfl,bz,ah,A,L⟩:=hrel;have AC:=zc ah;have aB:=zc A;have aq:=zc L;clear ah A L c0 c1 c2 c3 c4 cf;by_cases an:j<m.ex.length
      ·have au:(j:Int)<(m.ex.length:Int):=by omega
       obtain⟨v,hv⟩: ∃v,cS m m.st.length j=v:=⟨_,rfl⟩;have ea:=zf6 aB.o an;rw[hv] at ea;have HV:=zc hv;clear hv;obtain⟨M,J⟩: ∃M,M=j+1:=⟨_,rfl⟩;have ej:(j:Int)+1=(M:Int):=by omega
       have Y:=zc J;clear J;by_cases az:v=1
       ·subst az;go_wp2;go_roundg (gk-1)
        case rel=>exact⟨M,rfl,by have:=Y.o;omega,(fun k hk=>(Nat.lt_or_eq_of_le (show k<=j by have:=Y.o;omega)).elim (AC.o k) (fun e=>by rw[e];exact HV.o)),aB.o,aq.o⟩
        case measure=>omega
       ·have dv:((v:Int) !=1)=true:=by rw[bne_iff_ne];omega
        go_wp2;go_ret;exact⟨zdo (fun (t:Tree m)=>absurd (by have:=t.once j an;have h2:=HV.o;unfold cS at h2;rw[List.take_length] at h2;omega) az),aq.o⟩
      ·have au: ¬(j:Int)<(m.ex.length:Int):=by omega
       go_wp2;go_ret;exact⟨zmj ⟨HA.o,aw.o,fun k hk=>by have:=AC.o k (by omega);unfold cS at this;rw[List.take_length] at this;exact this⟩,aq.o⟩
theorem zhD {α:Type} {l:List α} (h:b<l.length): ∃x,l[b]? =some x:=⟨_,gE h⟩
theorem zt5 (t:BA0):t++sNone=t:=by
 cases t with
 |mk d=>
  show ByteArray.append _ _=_;simp[ByteArray.append]
theorem zt6:(acc (stF w.ex) w.st (zcv w)).size<=(zcw w).size:=Nat.le_refl _
theorem zmk:(acc epF w.ep (acc zak w.im (acc rqT w.rq sNone))).size<=(zcw w).size:=zeK _ _ _
theorem zml:(acc zak w.im (acc rqT w.rq sNone)).size<=(zcw w).size:=le_trans (zeK _ _ _) (zmk w)
theorem zt7:(acc rqT w.rq sNone).size<=(zcw w).size:=le_trans (zeK _ _ _) (zml w)
theorem zt8 (k:Int) (n e:BA0):e.size<=(zaE k n e).size:=by
 unfold zaE
 repeat (first|split|(simp only[sA];omega))
theorem zt9 (S:Sv) (m:Md) (az:Bool) (w:World) (h:OwnMd w g S m) (hm:Small m) (am:Tree m->(zcw m).size<=1099511627776):
  Calls prog 69 #[zo S m,.bool az] w fun e w'=>PrintOut (zcw m) m e/\Bw w w':=by
 have HH:=zc h;have SM:=zc hm;have HU:=zc am;obtain⟨f1,f2,f3,f4,f5⟩:=hm.few;clear h hm am;unfold zo;go_enter func69,ntmps69;go_wp2_with fail;refine (zt4 g S m _ (HH.o.alloc _) f5 f4).mono ?_;rintro e w1 ⟨⟨b,rfl,L⟩,ag⟩;have HT:=zc L;have aj:Hid (Bw w w1):=(bA0).trans (ag.mono (by rw[zh];omega));have an:Hid (w1.heap[w.heap.size]? =some (.cells (bxA S m) 59 (0,0))):=(ag.block _ (by rw[zh];omega)).trans (hN0 w _);have ar:=zc (HH.o.later aj.o);clear L ag;obtain⟨c0,c1,c2,c3,c4,cf⟩:=zl an.o;cases b with
 |false=>
  go_wp2;go_ret;exact⟨.inr ⟨(fun t=>by have:=HT.o.2 t;cases this),rfl⟩,aj.o⟩
 |true=>
  have TR:=zc (HT.o.1 rfl);have HZ:=zc (HU.o TR.o);go_wp2;go_loopg [5,6] m.rq.length (fun k t i wr=>∃(j:Nat) (K:BA0),i= .int .i64 j/\t= .string K/\j+k=m.rq.length/\K=acc rqT (m.rq.take j) sNone/\OwnMd wr g S m/\wr.heap[w.heap.size]? =some (.cells (bxA S m) 59 (0,0))/\Bw w wr)
  case atStart=>exact⟨0,_,rfl,rfl,by omega,rfl,ar.o,an.o,aj.o⟩
  case round=>
   obtain⟨j,K,rfl,rfl,hj,O,ho,hx,L⟩:=hrel;have q:=zc O;have HO:=zc ho;have Y:=zc hx;have HB:=zc L;clear O ho hx L c0 c1 c2 c3 c4 cf;obtain⟨c0,c1,c2,c3,c4,cf⟩:=zl Y.o;have ab:=(aLt Y.o);by_cases Z:j<m.rq.length
   ·have V:(j:Int)<(m.rq.length:Int):=by omega
    obtain⟨x,H⟩:=zhD Z;have I:=mG H;have HS:=zc (zcJ rqT H sNone);have A:=zer rqT m.rq (j+1) sNone;rw[HS.o,<-q.o,sA] at A;have M:(acc rqT m.rq sNone).size<=1099511627776:=le_trans (zt7 m) HZ.o;obtain⟨X,U⟩: ∃X,X=j+1:=⟨_,rfl⟩;have ej:(j:Int)+1=(X:Int):=by omega
    have HJ:=zc U;clear U;have ai:K.size<=1099511627776:=by omega
    obtain⟨z,hg,hc⟩:=HO.o.rq.text Z;rw[hg] at c0;have al:m.rq.getD j sNone=x:=by rw[List.getD,H];rfl
    rw[al] at hc;clear hg al;have aD:=SM.o.rq x I;obtain⟨qt,ah⟩: ∃t,za7 x=t:=⟨_,rfl⟩;have ap:=zjd x;rw[ah] at ap;have aB:qt.size<=8589934592:=by omega
    have QT:=zc ah;clear ah ap A M H I;go_wp2_with fail;refine (zh6 x _ (by omega)).mono ?_;rintro e w2 ⟨rfl,hw⟩;rw[hw,QT.o];clear hw w2;go_wp2;go_roundg (gk-1)
    case rel=>exact⟨X,_,rfl,rfl,by have:=HJ.o;omega,by rw[HJ.o,HS.o,<-q.o,rqT,QT.o,aA0,aA0,aA0],HO.o,Y.o,HB.o⟩
    case measure=>omega
   ·have V: ¬(j:Int)<(m.rq.length:Int):=by omega
    have aa:Hid (K=acc rqT m.rq sNone):=by show K=_;rw[q.o,List.take_of_length_le (by omega)]
    clear q;go_wp2;go_loopg [5,7] m.im.length (fun k t i wr=>∃(j:Nat) (K:BA0),i= .int .i64 j/\t= .string K/\j+k=m.im.length/\K=acc zak (m.im.take j) (acc rqT m.rq sNone)/\OwnMd wr g S m/\wr.heap[w.heap.size]? =some (.cells (bxA S m) 59 (0,0))/\Bw w wr)
    case atStart=>exact⟨0,_,rfl,rfl,by omega,aa.o,HO.o,Y.o,HB.o⟩
    case round=>
     obtain⟨j,K,rfl,rfl,hj,O,ho,hx,L⟩:=hrel;have q:=zc O;have HO:=zc ho;have Y:=zc hx;have HB:=zc L;clear O ho hx L c0 c1 c2 c3 c4 cf;obtain⟨c0,c1,c2,c3,c4,cf⟩:=zl Y.o;have ab:=(aLt Y.o);by_cases Z:j<m.im.length
     ·have V:(j:Int)<(m.im.length:Int):=by omega
      obtain⟨x,H⟩:=zhD Z;have I:=mG H;have HS:=zc (zcJ zak H (acc rqT m.rq sNone));have A:=zer zak m.im (j+1) (acc rqT m.rq sNone);rw[HS.o,<-q.o,sA] at A;have M:(acc zak m.im (acc rqT m.rq sNone)).size<=1099511627776:=le_trans (zml m) HZ.o;obtain⟨X,U⟩: ∃X,X=j+1:=⟨_,rfl⟩;have ej:(j:Int)+1=(X:Int):=by omega
      have HJ:=zc U;clear U;have ai:K.size<=1099511627776:=by omega
      obtain⟨z,hg,J⟩:=OwnR.elem (f:=imL) (m:=3) (fun _=>rfl) HO.o.im H;rw[hg] at c1;have k0:=J 0 (by omega);have k1:=J 1 (by omega);have k2:=J 2 (by omega);simp only[imL,add_zero,List.getElem?_cons_zero,List.getElem?_cons_succ] at k0 k1 k2;obtain⟨z1,z2,z3⟩:=SM.o.im x I;clear hg J H I;obtain⟨pt,N⟩: ∃t,zak x=t:=⟨_,rfl⟩;have ao:pt.size<=1099511627776:=by rw[<-N];omega
      have PT:=zc N;clear N A M;go_wp2_with fail;refine (ztq x _ z1 z2 z3).mono ?_;rintro e w2 ⟨rfl,L⟩;rw[PT.o];have ac:=zc (HO.o.later L);have ae:=zc ((L.block _ ab).trans Y.o);have ad:=zc (HB.o.trans (L.mono HB.o.size));clear L;go_wp2;go_roundg (gk-1)
      case rel=>exact⟨X,_,rfl,rfl,by have:=HJ.o;omega,by rw[HJ.o,HS.o,<-q.o,PT.o],ac.o,ae.o,ad.o⟩
      case measure=>omega
     ·have V: ¬(j:Int)<(m.im.length:Int):=by omega
      have aa:Hid (K=acc zak m.im (acc rqT m.rq sNone)):=by show K=_;rw[q.o,List.take_of_length_le (by omega)]
      clear q;go_wp2;go_loopg [5,8] m.ep.length (fun k t i wr=>∃(j:Nat) (K:BA0),i= .int .i64 j/\t= .string K/\j+k=m.ep.length/\K=acc epF (m.ep.take j) (acc zak m.im (acc rqT m.rq sNone))/\OwnMd wr g S m/\wr.heap[w.heap.size]? =some (.cells (bxA S m) 59 (0,0))/\Bw w wr)
      case atStart=>exact⟨0,_,rfl,rfl,by omega,aa.o,HO.o,Y.o,HB.o⟩
      case round=>
       obtain⟨j,K,rfl,rfl,hj,O,ho,hx,L⟩:=hrel;have q:=zc O;have HO:=zc ho;have Y:=zc hx;have HB:=zc L;clear O ho hx L c0 c1 c2 c3 c4 cf;obtain⟨c0,c1,c2,c3,c4,cf⟩:=zl Y.o;have ab:=(aLt Y.o);by_cases Z:j<m.ep.length
       ·have V:(j:Int)<(m.ep.length:Int):=by omega
        obtain⟨x,H⟩:=zhD Z;have I:=mG H;have HS:=zc (zcJ epF H (acc zak m.im (acc rqT m.rq sNone)));have A:=zer epF m.ep (j+1) (acc zak m.im (acc rqT m.rq sNone));rw[HS.o,<-q.o,sA] at A;have M:(acc epF m.ep (acc zak m.im (acc rqT m.rq sNone))).size<=1099511627776:=le_trans (zmk m) HZ.o;obtain⟨X,U⟩: ∃X,X=j+1:=⟨_,rfl⟩;have ej:(j:Int)+1=(X:Int):=by omega
        have HJ:=zc U;clear U;have ai:K.size<=1099511627776:=by omega
        obtain⟨z,hg,J⟩:=OwnR.elem (f:=epL) (m:=4) (fun _=>rfl) HO.o.ep H;rw[hg] at c2;have k0:=J 0 (by omega);have k1:=J 1 (by omega);have k2:=J 2 (by omega);have k3:=J 3 (by omega);simp only[epL,add_zero,List.getElem?_cons_zero,List.getElem?_cons_succ] at k0 k1 k2 k3;obtain⟨z1,z2,z3⟩:=SM.o.ep x I;clear hg J H I;cases hd:(x.loc.toList==[42,100,101,102,97,117,108,116]) with
        |true=>
         clear A M;go_wp2;go_roundg (gk-1)
         case rel=>exact⟨X,_,rfl,rfl,by have:=HJ.o;omega,by rw[HJ.o,HS.o,<-q.o,epF,hd];show K=K++sNone;rw[zt5],HO.o,Y.o,HB.o⟩
         case measure=>omega
        |false=>
         obtain⟨pt,N⟩: ∃t,zb5 x=t:=⟨_,rfl⟩;have ao:pt.size<=1099511627776:=by rw[<-N,<-show epF x=zb5 x from (by rw[epF,hd];rfl)];omega
         have PT:=zc N;clear N A M;go_wp2_with fail;refine (ztr x _ z1 z2 z3).mono ?_;rintro e w2 ⟨rfl,L⟩;rw[PT.o];have ac:=zc (HO.o.later L);have ae:=zc ((L.block _ ab).trans Y.o);have ad:=zc (HB.o.trans (L.mono HB.o.size));clear L;go_wp2;go_roundg (gk-1)
         case rel=>exact⟨X,_,rfl,rfl,by have:=HJ.o;omega,by rw[HJ.o,HS.o,<-q.o,epF,hd];show _=K++zb5 x;rw[PT.o],ac.o,ae.o,ad.o⟩
         case measure=>omega
       ·have V: ¬(j:Int)<(m.ep.length:Int):=by omega
        have aa:Hid (K=acc epF m.ep (acc zak m.im (acc rqT m.rq sNone))):=by show K=_;rw[q.o,List.take_of_length_le (by omega)]
        clear q;go_wp2;go_loopg [5,9] m.st.length (fun k t i wr=>∃(j:Nat) (K:BA0),i= .int .i64 j/\t= .string K/\j+k=m.st.length/\K=acc (stF m.ex) (m.st.take j) (zcv m)/\OwnMd wr g S m/\wr.heap[w.heap.size]? =some (.cells (bxA S m) 59 (0,0))/\Bw w wr)
        case atStart=>exact⟨0,_,rfl,rfl,by omega,aa.o,HO.o,Y.o,HB.o⟩
        case round=>
         obtain⟨j,K,rfl,rfl,hj,O,ho,hx,L⟩:=hrel;have q:=zc O;have HO:=zc ho;have Y:=zc hx;have HB:=zc L;clear O ho hx L c0 c1 c2 c3 c4 cf;obtain⟨c0,c1,c2,c3,c4,cf⟩:=zl Y.o;have ab:=(aLt Y.o);by_cases Z:j<m.st.length
         ·have V:(j:Int)<(m.st.length:Int):=by omega
          obtain⟨x,H⟩:=zhD Z;have I:=mG H;have HS:=zc (zcJ (stF m.ex) H (zcv m));have A:=zer (stF m.ex) m.st (j+1) (zcv m);rw[HS.o,<-q.o,sA] at A;have M:(acc (stF m.ex) m.st (zcv m)).size<=1099511627776:=le_trans (zt6 m) HZ.o;obtain⟨X,U⟩: ∃X,X=j+1:=⟨_,rfl⟩;have ej:(j:Int)+1=(X:Int):=by omega
          have HJ:=zc U;clear U;have ai:K.size<=1099511627776:=by omega
          obtain⟨z,hg,J⟩:=OwnR.elem (f:=smL) (m:=3) (fun _=>rfl) HO.o.st H;rw[hg] at c3;have k0:=J 0 (by omega);have k1:=J 1 (by omega);have k2:=J 2 (by omega);simp only[smL,add_zero,List.getElem?_cons_zero,List.getElem?_cons_succ] at k0 k1 k2;have z1:=SM.o.st x I;obtain⟨t1,t2⟩:=TR.o.stm x I;obtain⟨en,ak⟩: ∃en:Nat,x.expr=(en:Int):=⟨x.expr.toNat,by omega⟩;obtain⟨pt,N⟩: ∃t,zaE x.kind x.name (prX m.ex en)=t:=⟨_,rfl⟩;have aq:stF m.ex x=pt:=by rw[stF,ak,Int.toNat_natCast,N]
          rw[aq] at HS A;have ao:pt.size<=1099511627776:=by omega
          have aA:wt m.ex en<=1099511627776:=by have:=zt8 x.kind x.name (prX m.ex en);rw[N] at this;unfold wt;omega
          rw[ak] at k2;have HG:=zc hg;have cS: ∀d os,Calls prog 101 #[.agg #[.slice S.rq.a m.rq.length S.rq.cap,.slice S.im.a m.im.length S.im.cap,.slice S.ep.a m.ep.length S.ep.cap,.slice (some ⟨z,0,none⟩) m.st.length S.st.cap,.slice S.ex.a m.ex.length S.ex.cap],.agg #[.int .i64 x.kind,.string x.name,.int .i64 (en:Int)]] (grow (redrawn wr d) os) fun e ay=>e= .returned (.string pt)/\∃p:Regrown,ay=grow (redrawn wr p.d) p.os:=fun d os=>Calls.regrown_of (by rw[<-N,<-hg];exact ztz g S m x.kind x.name en _ (HO.o.later (below_regrown _ d os)) (by omega) SM.o.nums TR.o.ahead aA z1);have C0:=zc c0;have C1:=zc c1;have C2:=zc c2;have C3:=zc c3;have C4:=zc c4;have K0:=zc k0;have K1:=zc k1;have K2:=zc k2;clear hg J H I N aq A M ak HG;go_wp2_with fail;have y0:=cR0 C0.o;have y1:=cR0 C1.o;have y2:=cR0 C2.o;have y3:=cR0 C3.o;have y4:=cR0 C4.o;have aw:=cR0 K0.o;have au:=cR0 K1.o;have ax:=cR0 K2.o;refine wp_region_quiet_below (by kernel_rfl) (by kernel_rfl) ?_
          repeat (go_big_quiet_step (with_reducible exact cS _ _))
          refine wpQuiet_nil ?_;intro w2 av;obtain⟨⟨dq,aC⟩,af⟩:=av;have L:Bw wr w2:=by rw[af];exact below_regrown _ _ _
          have ac:=zc (HO.o.later L);have ae:=zc ((L.block _ ab).trans Y.o);have ad:=zc (HB.o.trans (L.mono HB.o.size));clear L af y0 y1 y2 y3 y4 aw au ax cS;go_wp2;go_roundg (gk-1)
          case rel=>exact⟨X,_,rfl,rfl,by have:=HJ.o;omega,by rw[HJ.o,HS.o,<-q.o],ac.o,ae.o,ad.o⟩
          case measure=>omega
         ·have V: ¬(j:Int)<(m.st.length:Int):=by omega
          have aa:Hid (K=acc (stF m.ex) m.st (zcv m)):=by show K=_;rw[q.o,List.take_of_length_le (by omega)]
          clear q;go_wp2;go_ret;exact⟨.inl ⟨TR.o,za9 aa.o⟩,HB.o⟩
