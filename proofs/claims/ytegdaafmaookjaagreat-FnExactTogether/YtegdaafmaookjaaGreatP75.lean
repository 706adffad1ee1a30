/- Facts. -/
import Derived.Test.YtegdaafmaookjaaGreatP58
import Derived.Test.YtegdaafmaookjaaGreatP60
import Derived.Test.YtegdaafmaookjaaGreatP74
namespace Go.Proofs.YtegdaafmaookjaaGreat
open Nat (add_zero not_lt_zero)
open Go.Proofs.Tryz
set_option maxRecDepth 100000
set_option maxHeartbeats 12800000
open Go.RowKit Go.PlainAid Go.Sort
theorem znW:zf3 40:=fun q S m w h A=>(zuL q S m false w h (zlN A.1 A.2) (fun t=>by have:=(zlM t A.2).1;have:=A.1;omega)).mono fun _ _ k=>⟨zr6 k.1,k.2⟩
theorem znX:zf3 111:=fun q S m w h A=>(zxi q S m false w h (zlN A.1 A.2) (fun t=>by have:=(zlM t A.2).2;have:=A.1;omega)).mono fun _ _ k=>⟨zr7 k.1,k.2⟩
theorem znY:zf4 41:=fun _ S m w h _ q=>zxq S m false w (RowAt.of (f:=imL) (m:=3) (fun _=>rfl) h.im) (RowAt.of (f:=epL) (m:=4) (fun _=>rfl) h.ep) (RowAt.of (f:=smL) (m:=3) (fun _=>rfl) h.st) (RowAt.of (f:=exL) (m:=6) (fun _=>rfl) h.ex) q.parts.im q.parts.ep q.parts.st q.parts.ex
variable {w:Md} {W:World} {g b:Nat} {C:List Bool} {S:GS} {q:Gr} {z:List Lk} {s:Lk}
theorem zyc (h:zaU w<=1048576):zhR w:=by
 unfold zaU at h;refine⟨fun x q=>?_,fun x q=>?_,fun x q=>?_,fun x q=>?_⟩
 ·have:=zc8 (c:=zcn) q;have e:zcn x=x.spec.size+x.first.size+x.loc.size:=rfl;unfold maxLen;omega
 ·have:=zc8 (c:=zc7) q;have e:zc7 x=x.name.size:=rfl;unfold maxLen;omega
 ·have:=zc8 (c:=zco) q;have e:zco x=x.name.size+x.loc.size+x.spec.size:=rfl;unfold maxLen;omega
 ·have:=zc8 (c:=zda) q;have e:zda x=x.name.size+x.field.size:=rfl;unfold maxLen;omega
theorem znZ:zf4 112:=fun _ S m w h A q=>zyb S m false w (RowAt.of (f:=imL) (m:=3) (fun _=>rfl) h.im) (RowAt.of (f:=epL) (m:=4) (fun _=>rfl) h.ep) (RowAt.of (f:=smL) (m:=3) (fun _=>rfl) h.st) (RowAt.of (f:=exL) (m:=6) (fun _=>rfl) h.ex) q.parts.im q.parts.ep q.parts.st q.parts.ex (zyc A.1) q.parts.fair
def OwnBl (w:World) (base g n:Nat) (b:List Bool):Prop:=OwnR w base 4 1 ⟨some ⟨g,0,none⟩,n⟩ n (b.map .bool)
theorem OwnBl.len {d n:Nat} {b:List Bool} (h:OwnBl W g d n b):b.length=n:=by have:=h.1;rw[List.length_map] at this;omega
theorem OwnBl.cell {d:Nat} {k:List Bool} (h:OwnBl W g d b k) {j:Nat} {v:Bool} (q:k[j]? =some v):W.cell? ⟨d,j,none⟩=some (.bool v):=by
 have I:=h.len;have H:=(gS q).1;have A:W.ownsRow g 4 1 (.slice (some ⟨d,0,none⟩) b b) b (k.map .bool):=h;rw[A.cellAt j (by omega),List.getElem?_map,q];rfl
theorem OwnBl.free {d:Nat} {k:List Bool} (h:OwnBl W g d b k) (j:Nat):W.frozen? ⟨d,j,none⟩=false:=by
 have q:W.ownsRow g 4 1 (.slice (some ⟨d,0,none⟩) b b) b (k.map .bool):=h;exact q.frozenAt j
theorem OwnBl.set {d n:Nat} {b:List Bool} (h:OwnBl W g d n b) (j:Nat) (v:Bool):OwnBl (W.setCell ⟨d,j,none⟩ (.bool v)) g d n (b.set j v):=by
 have q:W.ownsRow g 4 1 (.slice (some ⟨d,0,none⟩) n n) n (b.map .bool):=h;unfold OwnBl OwnR;rw[List.map_set];exact (q.stored j (.bool v)).1
theorem OwnBl.later {w':World} {d n:Nat} {b:List Bool} (h:OwnBl W g d n b) (q:Bw W w'):OwnBl w' g d n b:=OwnR.later h q
theorem OwnBl.at {d n:Nat} (h:OwnBl W g d n C):g<=d/\d<W.heap.size:=⟨(h.typed rfl).1,(h.typed rfl).2.1⟩
theorem OwnBl.block {d:Nat} {k:List Bool} (h:OwnBl W g d b k): ∃q,W.heap[d]? =some (.cells q 4 (0,0)):=(h.typed rfl).2.2
def zjO (w:World) (n:Nat) (b:List Bool) (e:Ending) (w':World):Prop:=∃g,e= .returned (.slice (some ⟨g,0,none⟩) n n)/\OwnBl w' w.heap.size g n b/\Bw w w'
theorem Tryz.infoBl:(prog.info? 4).map (fun i=>(i.zero,i.size,i.bytes))=some (some (.bool false),1,1):=by kernel_rfl
structure RchW (w W:World) (G:GS) (g:Gr) (gx gb n:Nat) (b:List Bool):Prop where
 x:Bk W gx (grC G g) 32
 r:OwnBl W w.heap.size gb n b
 ne:gx≠gb
 b:Bw w W
theorem RchW.set {d:World} {A k n:Nat} {b:List Bool} (h:RchW W d S q A k n b) (j:Nat):RchW W (d.setCell ⟨k,j,none⟩ (.bool true)) S q A k n (b.set j true):=
 ⟨(heap_setCell_other d ⟨k,j,none⟩ A (.bool true) h.ne).trans h.x,h.r.set j true,h.ne,h.b.setCell h.r.at.1 _⟩
theorem zoa (h:z[g]? =some s) (b:List Bool):zbr (z.take (g+1)) b=zbZ (zbr (z.take g) b) s:=by
 obtain⟨q,rfl⟩:=gS h;rw[tG q,zbr,List.foldl_append];rfl
theorem zyd (base:Nat) (G:GS) (g:Gr) (w:World) (ho:GrOwn w base G g) (hn:1<=g.ms.length) (ax:g.ms.length<=8) (hl:g.ls.length<=1048576) (hr: ∀l∈g.ls,0<=l.frm/\l.frm<(g.ms.length:Int)/\0<=l.to/\l.to<(g.ms.length:Int)):
  Calls prog 42 #[grD G g] w fun e w'=>zjO w g.ms.length (zai g.ls g.ms.length (zbh g.ms.length)) e w':=by
 have HR:=zc (RowAt.of (f:=lkL) (m:=3) (fun _=>rfl) ho.ls);have HC:=zc hr;clear ho hr;obtain⟨i0,hi,ai,am,ak⟩:=info_parts Tryz.infoBl;unfold grD;go_enter func42,ntmps42;go_upto_region 1 with fail;obtain⟨A,O⟩: ∃A,A=w.heap.size:=⟨_,rfl⟩;rw[<-O];refine zp (R:=fun W=>Bk W A (grC G g) 32/\Below w.heap.size w W) (by rw[O];exact⟨hN0 w _,zn w _⟩) ?_;rintro W0 ⟨hx,hb⟩;have av:w.heap.size<=A:=by omega
 clear O;have X0:=zc hx;have V:=zc hb;have ah:A<W0.heap.size:=(aLt hx);clear hx hb;obtain⟨c0,c1,M,cf⟩:=zg X0.o;go_wp2_with (first|(at_make;refine wpList_make_full W0 rfl _ _ 63 rfl w.heap.size 4 i0 _ 1 underlying63 hi ai am .i64 .i64 _ _ g.ms.length (by rfl) (by rfl) rfl rfl (by rw[ak];omega) (by unfold maxLen;omega) V.o.size ?_));intro w1 q L;have aa:Bw W0 w1:=(Below.refl _ _).grown L (Nat.le_refl _) (fun k h=>by cases h);obtain⟨K,Z⟩: ∃K,K=W0.heap.size:=⟨_,rfl⟩;have RR:Hid (RchW w w1 G g A K g.ms.length (List.replicate g.ms.length false)):=by
  refine⟨X0.o.later aa,?_,by omega,zi V.o aa⟩;unfold OwnBl OwnR;rw[toList_madeCells_one] at q;rw[Z,List.map_replicate];exact q
 rw[<-Z];clear q L aa Z X0 V ah c0 c1 M cf;obtain⟨c0,c1,M,cf⟩:=zg RR.o.x;have f0:=RR.o.r.free 0;have b0:=RR.o.r.cell (j:=0) (v:=false) (by rw[List.getElem?_replicate,if_pos (by omega)]);have ar:(0:Int)<(g.ms.length:Int):=by omega
 have R1:=zc (RR.o.set 0);go_upto_region 3 with fail;obtain⟨w2,ab⟩: ∃w2,w2=w1.setCell ⟨K,0,none⟩ (.bool true):=⟨_,rfl⟩;rw[<-ab] at R1 ⊢;clear ab RR f0 b0 c0 c1 M cf;have an:(List.replicate g.ms.length false).length=g.ms.length:=List.length_replicate ..;change Hid (RchW w w2 G g A K g.ms.length (zbh g.ms.length)) at R1;go_wp2;go_loopg [4,5] g.ms.length (fun k s4 s5 wr=>∃r:Nat,s4= .int .i64 r/\r+k=g.ms.length/\RchW w wr G g A K g.ms.length (zai g.ls r (zbh g.ms.length)))
 case atStart=>exact⟨0,rfl,by omega,R1.o⟩
 case round=>
  obtain⟨r,rfl,hr,hw⟩:=hrel;have RW:=zc hw;clear hw R1;obtain⟨c0,c1,M,cf⟩:=zg RW.o.x;by_cases ap:r<g.ms.length
  ·have ae:(r:Int)<(g.ms.length:Int):=by omega
   obtain⟨r1,ac⟩: ∃r1,r1=r+1:=⟨_,rfl⟩;have er:(r:Int)+1=(r1:Int):=by omega
   have U:=zc ac;clear ac;go_wp2;clear c0 c1 M cf;go_loopg [5] g.ls.length (fun k s5 wq=>∃i:Nat,s5= .int .i64 i/\i+k=g.ls.length/\RchW w wq G g A K g.ms.length (zbr (g.ls.take i) (zai g.ls r (zbh g.ms.length))))
   case atStart=>exact⟨0,rfl,by omega,RW.o⟩
   case round=>
    obtain⟨i,rfl,ao,hw⟩:=hrel;have H:=zc hw;clear hw;obtain⟨c0,c1,M,cf⟩:=zg H.o.x;by_cases al:i<g.ls.length
    ·have ag:(i:Int)<(g.ls.length:Int):=by omega
     obtain⟨l,J⟩: ∃l,g.ls[i]? =some l:=⟨_,gE al⟩;obtain⟨y0,y1,y2,y3⟩:=HC.o l (mG J);obtain⟨bl,aq,af,hc⟩:=(HR.o.later H.o.b).get J;have k0:=hc 0 _ rfl;have k2:=hc 2 _ rfl;have HN:=zc (zoa J (zai g.ls r (zbh g.ms.length)));simp only[add_zero] at k0;clear hc J;obtain⟨fr,Y⟩: ∃fr:Nat,l.frm=fr:=⟨l.frm.toNat,by omega⟩;obtain⟨X,N⟩: ∃X:Nat,l.to=X:=⟨l.to.toNat,by omega⟩;obtain⟨b,hb⟩: ∃b,b=zbr (g.ls.take i) (zai g.ls r (zbh g.ms.length)):=⟨_,rfl⟩;rw[<-hb] at H HN;clear hb;have aj:=H.o.r.len;obtain⟨v,hv⟩: ∃v,b[fr]? =some v:=⟨_,gE (by omega)⟩;obtain⟨u,hu⟩: ∃u,b[X]? =some u:=⟨_,gE (by omega)⟩;have HS:Hid (zbZ b l=if v=true then b.set X true else b):=by
      show zbZ b l=_;unfold zbZ;rw[Y,N,Int.toNat_natCast,Int.toNat_natCast,List.getD,hv];rfl
     have b0:=H.o.r.cell hv;have b1:=H.o.r.cell hu;have f1:=H.o.r.free X;have au:(fr:Int)<(g.ms.length:Int):=by omega
     have aw:(X:Int)<(g.ms.length:Int):=by omega
     have Q1:=zc (H.o.set X);rw[Y] at k0;rw[N] at k2;rw[af] at M;clear Y N af hv hu aj y0 y1 y2 y3;obtain⟨i1,ad⟩: ∃i1,i1=i+1:=⟨_,rfl⟩;have ei:(i:Int)+1=(i1:Int):=by omega
     have I:=zc ad;clear ad;cases v with
     |true=>
      go_wp2;go_roundg (gk-1)
      case rel=>exact⟨i1,rfl,by have:=I.o;omega,by rw[I.o,HN.o,HS.o];exact Q1.o⟩
      case measure=>omega
     |false=>
      go_wp2;go_roundg (gk-1)
      case rel=>exact⟨i1,rfl,by have:=I.o;omega,by rw[I.o,HN.o,HS.o];exact H.o⟩
      case measure=>omega
    ·have ag: ¬(i:Int)<(g.ls.length:Int):=by omega
     have QE:Hid (RchW w wr G g A K g.ms.length (zai g.ls r1 (zbh g.ms.length))):=by
      show RchW ..;rw[U.o,ziM];have:=H.o;rw[List.take_of_length_le (by omega)] at this;exact this
     go_wp2;go_roundg (g.ms.length-r1)
     case rel=>exact⟨r1,rfl,by have:=U.o;omega,QE.o⟩
     case measure=>have:=U.o;omega
  ·have ae: ¬(r:Int)<(g.ms.length:Int):=by omega
   obtain rfl:r=g.ms.length:=by omega
   go_wp2;go_ret;exact⟨K,rfl,RW.o.r,RW.o.b⟩
structure GrW (w W:World) (G:GS) (g:Gr) (gx:Nat):Prop where
 x:Bk W gx (grC G g) 32
 b:Bw w W
theorem GrW.later {d A:World} {n:Nat} (h:GrW W d S q n) (H:Bw d A):GrW W A S q n:=⟨h.x.later H,zi h.b H⟩
theorem GrOwn.rows {d:Gr} (h:GrOwn W g S d):RowS W S.pr.a d.ps/\RowAt W S.mr.a mdL 5 (S.sv.zip d.ms)/\RowAt W S.lr.a lkL 3 d.ls:=
 ⟨RowAt.of (f:=fun x=>[Value.string x]) (m:=1) (fun _=>rfl) h.ps,RowAt.of (f:=mdL) (m:=5) (fun _=>rfl) (zey h.len h.ms),RowAt.of (f:=lkL) (m:=3) (fun _=>rfl) h.ls⟩
def GrTo (g:Gr) (i:Nat):Prop:=(∀j,j<i->zf2 g.ps j)/\∀(j:Nat) (m:Md),j<i->g.ms[j]? =some m->MOk m/\zax m=0
theorem GrTo.next {i:Nat} (h:GrTo q i) (n:q.ms[i]? =some w) (I:zf2 q.ps i) (H:MOk w) (J:zax w=0):GrTo q (i+1):=by
 refine⟨fun j A=>?_,fun j x A d=>?_⟩
 ·by_cases e:j=i
  ·rw[e];exact I
  ·exact h.1 j (by omega)
 ·by_cases e:j=i
  ·rw[e,n] at d;cases d;exact⟨H,J⟩
  ·exact h.2 j x (by omega) d
theorem zye {i:Nat} (n:i<q.ms.length) (d:q.ms[i]? =some w) (h: ¬(zf2 q.ps i/\MOk w/\zax w=0)): ¬GrS q:=fun k=>h ⟨k.2.2.1 i n,k.2.2.2.1 w (mG d)⟩
def zhX (g:Gr) (i:Nat) (l:Lk):Prop:=0<=l.frm/\l.frm<((zw g).length:Int)/\0<=l.to/\l.to<((zw g).length:Int)/\(∃s∈(zw g).getD l.frm.toNat [],s.toList=l.spec.toList)/\∀(k:Nat) (x:Lk),k<i->g.ls[k]? =some x->zW x≠zW l
def LkTo (g:Gr) (i:Nat):Prop:=∀(j:Nat) (l:Lk),j<i->g.ls[j]? =some l->zhX g j l
theorem LkTo.next {i:Nat} (h:LkTo q i) (A:q.ls[i]? =some s) (w:zhX q i s):LkTo q (i+1):=by
 intro j x H d;by_cases e:j=i
 ·rw[e,A] at d;cases d;rw[e];exact w
 ·exact h j x (by omega) d
theorem zjP {i:Nat} (d:q.ls[i]? =some s) (h: ¬zhX q i s): ¬GrS q:=fun k=>h (k.2.2.2.2.1.2 i s d)
theorem zyf {i:Nat} (I:q.ls[i]? =some s):
  (decide (s.frm<0)=true/\¬GrS q)∨(decide (s.frm<0)=false/\((decide ((q.ms.length:Int)<=s.frm)=true/\¬GrS q)∨(decide ((q.ms.length:Int)<=s.frm)=false/\((decide (s.to<0)=true/\¬GrS q)∨(decide (s.to<0)=false/\((decide ((q.ms.length:Int)<=s.to)=true/\¬GrS q)∨decide ((q.ms.length:Int)<=s.to)=false)))))):=by
 have h:=zjP I;unfold zhX at h;rw[zcf] at h;by_cases A:s.frm<0
 ·exact .inl ⟨dT A,h fun k=>by omega⟩
 ·refine .inr ⟨dF A,?_⟩;by_cases d:(q.ms.length:Int)<=s.frm
  ·exact .inl ⟨dT d,h fun k=>by omega⟩
  ·refine .inr ⟨dF d,?_⟩;by_cases H:s.to<0
   ·exact .inl ⟨dT H,h fun k=>by omega⟩
   ·refine .inr ⟨dF H,?_⟩;by_cases w:(q.ms.length:Int)<=s.to
    ·exact .inl ⟨dT w,h fun k=>by omega⟩
    ·exact .inr (dF w)
theorem zyg (x l:Lk):(x.frm=l.frm/\(x.spec.toList==l.spec.toList)=true/\zW x=zW l)∨(x.frm=l.frm/\(x.spec.toList==l.spec.toList)=false/\zW x≠zW l)∨(¬x.frm=l.frm/\zW x≠zW l):=by
 by_cases h:x.frm=l.frm
 ·cases q:(x.spec.toList==l.spec.toList) with
  |true=>exact .inl ⟨h,rfl,by unfold zW;rw[h,eq_of_beq q]⟩
  |false=>exact .inr (.inl ⟨h,rfl,fun e=>by rw[(Prod.mk.inj e).2] at q;simp at q⟩)
 ·exact .inr (.inr ⟨h,fun e=>h (Prod.mk.inj e).1⟩)
theorem zyh {l:Lk} (h: ∀(k:Nat) (s:Lk),k<g->z[k]? =some s->zW s≠zW l) (w:z[g]? =some s) (A:zW s≠zW l): ∀(k:Nat) (s:Lk),k<g+1->z[k]? =some s->zW s≠zW l:=by
 intro k y H q;by_cases e:k=g
 ·rw[e,w] at q;cases q;exact A
 ·exact h k y (by omega) q
theorem zyi {i:Nat} {p:BA0} (N:i<q.ms.length) (H:q.ms[i]? =some w) (L:q.ps.getD i sNone=p) (M:GrTo q i):
  (p.toList.isEmpty=true/\¬GrS q)∨(p.toList.isEmpty=false/\((((zaR p).toList==p.toList)=false/\¬GrS q)∨(((zaR p).toList==p.toList)=true/\((inL (q.ps.take i) p=true/\¬GrS q)∨(inL (q.ps.take i) p=false/\((¬MOk w/\¬GrS q)∨(MOk w/\((¬zax w=0/\¬GrS q)∨(zax w=0/\GrTo q (i+1)))))))))):=by
 have h:=zye N H;have d:=fun a b c=>M.next H a b c;unfold zf2 at h d;rw[L] at h d;cases J:p.toList.isEmpty with
 |true=>exact .inl ⟨rfl,h fun k=>by rw[J] at k;exact absurd k.1.1 (by decide)⟩
 |false=>
  refine .inr ⟨rfl,?_⟩;cases I:((zaR p).toList==p.toList) with
  |false=>exact .inl ⟨rfl,h fun k=>by rw[I] at k;exact absurd k.1.2.1 (by decide)⟩
  |true=>
   refine .inr ⟨rfl,?_⟩;cases K:inL (q.ps.take i) p with
   |true=>exact .inl ⟨rfl,h fun k=>by rw[K] at k;exact absurd k.1.2.2 (by decide)⟩
   |false=>
    refine .inr ⟨rfl,?_⟩;by_cases n:MOk w
    ·refine .inr ⟨n,?_⟩;by_cases A:zax w=0
     ·exact .inr ⟨A,d ⟨J,I,K⟩ n A⟩
     ·exact .inl ⟨A,h fun k=>A k.2.2⟩
    ·exact .inl ⟨n,h fun k=>n k.2.1⟩
theorem zob (ai:zf3 40) (ag:zf4 41) (base:Nat) (G:GS) (g:Gr) (w:World) (ho:GrOwn w base G g) (hg:GdG g):
  Calls prog 11 #[grD G g] w fun e w'=>SameOut (GrS g) e/\Bw w w':=by
 have HO:=zc ho;have HG:=zc hg;have CM:=zc ai;have CE:=zc ag;have aP:=hg.pl;have aN:=hg.ml;have aH:=hg.ll;clear ho hg ai ag;unfold grD;go_enter func11,ntmps11;go_upto_region 1 with fail;obtain⟨gx,aj⟩: ∃gx,gx=w.heap.size:=⟨_,rfl⟩;rw[<-aj];refine zp (R:=fun W=>GrW w W G g gx) (by rw[aj];exact⟨hN0 w _,zn w _⟩) ?_;intro W0 hW;have X0:=zc hW;clear hW aj;obtain⟨c0,c1,c2,cf⟩:=zg X0.o.x;by_cases hn:1<=g.ms.length/\g.ms.length<=8
 case neg=>
  have HN:Hid (¬GrS g):=fun k=>hn k.1;have I:inB (g.ms.length:Int) 1 8=false:=by unfold inB;simp;omega
  go_wp2_with (first|(go_at_call 37;refine (zfK _ _ _ _).mono ?_;rintro e w' ⟨rfl,rfl⟩;rw[I]));go_ret;exact⟨zb8 HN.o rfl,X0.o.b⟩
 have I:inB (g.ms.length:Int) 1 8=true:=by unfold inB;simp;omega
 obtain⟨an,aq⟩:=hn;by_cases hp:g.ps.length=g.ms.length
 case neg=>
  have HN:Hid (¬GrS g):=fun k=>hp k.2.1;have aD: ¬(g.ps.length:Int)=(g.ms.length:Int):=by omega
  go_wp2_with (first|(go_at_call 37;refine (zfK _ _ _ _).mono ?_;rintro e w' ⟨rfl,rfl⟩;rw[I]));go_ret;exact⟨zb8 HN.o rfl,X0.o.b⟩
 have aD:(g.ps.length:Int)=(g.ms.length:Int):=by omega
 go_wp2_with (first|(go_at_call 37;refine (zfK _ _ _ _).mono ?_;rintro e w' ⟨rfl,rfl⟩;rw[I]));have am:Hid (∀k,zar ((zw g).take k)<=1048576):=fun k=>Nat.le_trans (zh3 _ _) HG.o.rq;clear c0 c1 c2 cf I;go_loopg [4,5] g.ms.length (fun k s4 s5 wr=>∃i:Nat,s5= .int .i64 i/\s4= .int .i64 (zar ((zw g).take i):Nat)/\i+k=g.ms.length/\GrTo g i/\GrW w wr G g gx)
 case atStart=>exact⟨0,rfl,rfl,by omega,⟨fun j hj=>absurd hj (not_lt_zero j),fun j m hj=>absurd hj (not_lt_zero j)⟩,X0.o⟩
 case round=>
  obtain⟨i,rfl,rfl,hi,ht,hw⟩:=hrel;have X:=zc hw;have TO:=zc ht;clear hw ht X0;have aL:=am.o i;by_cases ae:i<g.ms.length
  ·have ac:(i:Int)<(g.ms.length:Int):=by omega
   have aI:(i:Int)<(g.ps.length:Int):=by omega
   obtain⟨p,af⟩: ∃p,g.ps[i]? =some p:=⟨_,gE (by omega)⟩;obtain⟨m,hm⟩: ∃m,g.ms[i]? =some m:=⟨_,gE ae⟩;obtain⟨S,hS⟩:=zec HO.o.len hm;have OW:=zc (HO.o.later X.o.b);have OM:=zc (OW.o.md _ (mG hS));have GM:=zc (HG.o.ms m (mG hm));have HM:=zc hm;have PD:Hid (g.ps.getD i sNone=p):=by show _=_;rw[List.getD,af];rfl
   have RQ:Hid ((zw g)[i]? =some m.rq):=by show _=_;rw[zw,List.getElem?_map,hm];rfl
   obtain⟨b1,o1,e1,k1⟩:=OW.o.rows.1.get af;obtain⟨b2,o2,e2,k2⟩:=OW.o.rows.2.1.get hS;have aJ:(i:Int)<=(G.pr.cap:Int):=by have:=OW.o.ps.cap;omega
   have C0:=zc (k1 0 _ rfl);have D0:=zc (k2 0 _ rfl);have D1:=zc (k2 1 _ rfl);have D2:=zc (k2 2 _ rfl);have D3:=zc (k2 3 _ rfl);have D4:=zc (k2 4 _ rfl);have aC:p.size<=9223372036854775807:=by have:=HG.o.ps p (mG af);omega
   have RT:Hid (RowS wr G.pr.a (g.ps.take i)):=OW.o.rows.1.take i;have aw:i=(g.ps.take i).length:=by rw[List.length_take];omega
   have cC: ∀d M,Calls prog 38 #[.string p] (grow (redrawn wr d) M) fun e K=>e= .returned (.string (zaR p))/\∃q:Regrown,K=grow (redrawn wr q.d) q.os:=fun d M=>Calls.regrown_of (zxV p _ aC);have cI: ∀d M,Calls prog 39 #[.slice (some ⟨b1,o1,none⟩) i G.pr.cap,.string p] (grow (redrawn wr d) M) fun e K=>e= .returned (.bool (inL (g.ps.take i) p))/\∃q:Regrown,K=grow (redrawn wr q.d) q.os:=fun d M=>Calls.regrown_of ((zg9 (some ⟨b1,o1,none⟩) G.pr.cap i (g.ps.take i) p _ aw (e1▸RT.o.later (below_regrown wr d M)) (by omega)).mono fun e w' h=>⟨h.1,by rw[h.2];exact Below.refl _ _⟩);have cM: ∀(b:Bool),(b=true↔MOk m)->∀d M,Calls prog 40 #[zo S m,.bool false] (grow (redrawn wr d) M) fun e K=>e= .returned (.bool b)/\∃q:Regrown,K=grow (redrawn wr q.d) q.os:=fun b hb d M=>Calls.regrown_of ((CM.o base S m _ (OM.o.later (below_regrown wr d M)) GM.o).mono fun e w' h=>⟨h.1.of hb,h.2⟩);have cE:MOk m->∀d M,Calls prog 41 #[zo S m,.bool false] (grow (redrawn wr d) M) fun e K=>e= .returned (.int .i64 (zax m))/\∃q:Regrown,K=grow (redrawn wr q.d) q.os:=fun U d M=>Calls.regrown_of (CE.o base S m _ (OM.o.later (below_regrown wr d M)) GM.o U);unfold zo at cM cE;obtain⟨C1,C2,C3,cf⟩:=zg X.o.x;rw[e1] at C1;rw[e2] at C2;have Y1:=zc C1;have Y2:=zc C2;clear af hm hS k1 k2 e1 e2 C1 C2 C3 cf aw;have ar:=zyi ae HM.o PD.o TO.o;rcases ar with ⟨h1,H⟩|⟨h1,⟨h2,H⟩|⟨h2,⟨h3,H⟩|⟨h3,⟨h4,H⟩|⟨h4,⟨h5,H⟩|⟨h5,H⟩⟩⟩⟩⟩
   all_goals have HX:=zc H
   all_goals clear H
   case' inr.inr.inr.inr.inl=>
    have q1:decide (zax m=0)=false:=dF h5;have q2:(zax m==0)=false:=q1;have q3:(zax m !=0)=true:=by rw[bne,q2];rfl
   all_goals (
    go_wp2;have z0:=cR0 C0.o;have z1:=cR0 Y1.o;have z2:=cR0 Y2.o;have d0:=cR0 D0.o;have d1:=cR0 D1.o;have d2:=cR0 D2.o;have d3:=cR0 D3.o;have d4:=cR0 D4.o;simp only[add_zero,Nat.mul_one] at z0 d0;refine wp_region_quiet_below (by kernel_rfl) (by kernel_rfl) ?_
    repeat (go_big_quiet_step (first|with_reducible exact cC _ _|with_reducible exact cI _ _|with_reducible exact cM true (iff_of_true rfl h4) _ _|with_reducible exact cM false (by simp[h4]) _ _|with_reducible exact cE h4 _ _))
    refine wpQuiet_nil ?_;intro w2 J;obtain⟨q,A⟩:=J;have XE:=zc (X.o.later (zez A))
    clear z0 z1 z2 d0 d1 d2 d3 d4)
   all_goals first
    |(go_wp2;go_ret;exact⟨zb8 HX.o rfl,XE.o.b⟩)
    |(
     have E1:w2.cell? ⟨gx,1,none⟩=some (.slice (some ⟨b2,o2,none⟩) g.ms.length G.mr.cap):=by rw[A];exact cR0 Y2.o _ _
     have E0:w2.cell? ⟨b2,o2+i*5,none⟩=some (.slice S.rq.a m.rq.length S.rq.cap):=by rw[A];exact cR0 D0.o _ _
     obtain⟨Z,N⟩: ∃Z,Z=i+1:=⟨_,rfl⟩;have ei:(i:Int)+1=(Z:Int):=by omega
     have aa:=zc N;have aM:(zar ((zw g).take i):Int)+(m.rq.length:Int)=(zar ((zw g).take Z):Nat):=by rw[N,zh2 RQ.o];omega
     have aQ:=am.o Z;clear N A cC cI cM cE;go_wp2;go_roundg (gk-1)
     case rel=>exact⟨Z,rfl,rfl,by have:=aa.o;omega,by rw[aa.o];exact HX.o,XE.o⟩
     case measure=>omega)
  ·have ac: ¬(i:Int)<(g.ms.length:Int):=by omega
   obtain rfl:i=g.ms.length:=by omega
   have HT:Hid (zar ((zw g).take g.ms.length)=zar (zw g)):=by show _=_;rw[List.take_of_length_le (by rw[zcf];exact Nat.le_refl _)]
   obtain⟨c0,c1,c2,cf⟩:=zg X.o.x;by_cases V:zar ((zw g).take g.ms.length)=g.ls.length
   case neg=>
    have HN:Hid (¬GrS g):=fun k=>V (HT.o.trans k.2.2.2.2.1.1);have ay: ¬((zar ((zw g).take g.ms.length):Nat):Int)=(g.ls.length:Int):=by omega
    clear V;go_wp2;go_ret;exact⟨zb8 HN.o rfl,X.o.b⟩
   have ay:((zar ((zw g).take g.ms.length):Nat):Int)=(g.ls.length:Int):=by omega
   have aB:=zc V;clear V;go_wp2;have X1:=zc X.o;clear c0 c1 c2 cf X;go_loopg [6] g.ls.length (fun k s6 wr=>∃i:Nat,s6= .int .i64 i/\i+k=g.ls.length/\LkTo g i/\GrW w wr G g gx)
   case atStart=>exact⟨0,rfl,by omega,(fun j l hj=>absurd hj (not_lt_zero j)),X1.o⟩
   case round=>
    obtain⟨i,rfl,hi,ht,hw⟩:=hrel;have X:=zc hw;have LT:=zc ht;clear hw ht X1;obtain⟨c0,c1,c2,cf⟩:=zg X.o.x;by_cases ae:i<g.ls.length
    ·have ac:(i:Int)<(g.ls.length:Int):=by omega
     obtain⟨l,Y⟩: ∃l,g.ls[i]? =some l:=⟨_,gE ae⟩;have HL:=zc Y;obtain⟨b1,o1,e1,k1⟩:=(HO.o.later X.o.b).rows.2.2.get Y;have k0:=k1 0 _ rfl;have k2:=k1 2 _ rfl;have k3:=k1 1 _ rfl;simp only[add_zero] at k0;rw[e1] at c2;clear Y k1;go_upto_region 17 with fail;obtain⟨gl,ak⟩: ∃gl,gl=wr.heap.size:=⟨_,rfl⟩;rw[<-ak];refine zp (R:=fun W=>GrW w W G g gx/\Bk W gl #[.int .i64 l.frm,.string l.spec,.int .i64 l.to] 62) ⟨X.o.later (zn wr _),by rw[ak];exact hN0 wr _⟩ ?_;clear ak X k0 k2 k3 e1 c0 c1 c2 cf;rintro w1 ⟨H,Y⟩;have X:=zc H;have L:=zc Y;clear H Y;have Z0:=zc (zg L.o).1;have Z1:=zc (zg L.o).2.1;have Z2:=zc (zg L.o).2.2.1;have Y1:=zc (zg X.o.x).2.1;have al:=zyf HL.o;rcases al with ⟨h1,H⟩|⟨h1,⟨h2,H⟩|⟨h2,⟨h3,H⟩|⟨h3,⟨h4,H⟩|h4⟩⟩⟩
     iterate 4
      ·have HX:=zc H;clear H;go_wp2;have z0:=cR0 Z0.o;have z2:=cR0 Z2.o;have O:=cR0 Y1.o;refine wp_region_quiet_below (by kernel_rfl) (by kernel_rfl) ?_
       repeat (go_big_quiet_step (fail))
       refine wpQuiet_nil ?_;intro w2 J;obtain⟨q,A⟩:=J;have XE:=zc (X.o.later (zez A));go_wp2;go_ret;exact⟨zb8 HX.o rfl,XE.o.b⟩
     have g1: ¬l.frm<0:=of_decide_eq_false h1;have g2: ¬(g.ms.length:Int)<=l.frm:=of_decide_eq_false h2;have g3: ¬l.to<0:=of_decide_eq_false h3;have g4: ¬(g.ms.length:Int)<=l.to:=of_decide_eq_false h4;obtain⟨m,hm⟩: ∃m,g.ms[l.frm.toNat]? =some m:=⟨_,gE (by omega)⟩;obtain⟨S,hS⟩:=zec HO.o.len hm;have OW:=zc (HO.o.later X.o.b);obtain⟨b2,o2,e2,k2⟩:=OW.o.rows.2.1.get hS;have D0:=zc (k2 0 _ rfl);have RS:=zc (RowS.of (OW.o.md _ (mG hS)).rq);have aA:m.rq.length<=1048576:=by
      have:=(HG.o.ms m (mG hm)).1;unfold zaU at this;omega
     have g5:0<=l.frm:=by omega
     have g6:l.frm<(g.ms.length:Int):=by omega
     have cI: ∀d M,Calls prog 39 #[.slice S.rq.a m.rq.length S.rq.cap,.string l.spec] (grow (redrawn w1 d) M) fun e K=>e= .returned (.bool (inL m.rq l.spec))/\∃q:Regrown,K=grow (redrawn w1 q.d) q.os:=fun d M=>Calls.regrown_of ((zg9 S.rq.a S.rq.cap m.rq.length m.rq l.spec _ rfl (RS.o.later (below_regrown w1 d M)) aA).mono fun e w' h=>⟨h.1,by rw[h.2];exact Below.refl _ _⟩);have HI:Hid (inL m.rq l.spec=true↔∃s∈(zw g).getD l.frm.toNat [],s.toList=l.spec.toList):=by
      show _↔_;rw[List.getD,zw,List.getElem?_map,hm,zhu];exact⟨fun h=>⟨_,h,rfl⟩,fun⟨s,h,e⟩=>zls e▸h⟩
     have O:=Y1.o;rw[e2] at O;have Y2:=zc O;have G3:Hid (0<=l.to/\l.to<(g.ms.length:Int)):=⟨by omega,by omega⟩;clear hm hS k2 e2 O g1 g2 g3 g4;cases I:inL m.rq l.spec with
     |false=>
      have HX:Hid (¬GrS g):=zjP HL.o fun k=>by rw[HI.o.2 k.2.2.2.2.1] at I;cases I
      go_wp2;have z0:=cR0 Z0.o;have z1:=cR0 Z1.o;have z2:=cR0 Z2.o;have O:=cR0 Y2.o;have d0:=cR0 D0.o;simp only[add_zero] at d0;refine wp_region_quiet_below (by kernel_rfl) (by kernel_rfl) ?_
      repeat (go_big_quiet_step (with_reducible exact cI _ _))
      refine wpQuiet_nil ?_;intro w2 J;obtain⟨q,A⟩:=J;have XE:=zc (X.o.later (zez A));go_wp2;go_ret;exact⟨zb8 HX.o rfl,XE.o.b⟩
     |true=>
      go_wp2;have z0:=cR0 Z0.o;have z1:=cR0 Z1.o;have z2:=cR0 Z2.o;have O:=cR0 Y2.o;have d0:=cR0 D0.o;simp only[add_zero] at d0;refine wp_region_quiet_below (by kernel_rfl) (by kernel_rfl) ?_
      repeat (go_big_quiet_step (with_reducible exact cI _ _))
      refine wpQuiet_nil ?_;intro w2 J;obtain⟨q,A⟩:=J;have XE:=zc (X.o.later (zez A));have LE:=zc (L.o.later (zez A));clear A z0 z1 z2 O d0;go_wp2;have aG:=zc I;clear X L Z0 Z1 Z2 Y1 Y2 D0 OW RS cI I h1 h2 h3 h4;have X2:=zc XE.o;have L2:=zc LE.o;clear XE LE;go_loopg [8] i (fun k s8 wr=>∃j:Nat,s8= .int .i64 j/\j+k=i/\(∀(k:Nat) (x:Lk),k<j->g.ls[k]? =some x->zW x≠zW l)/\GrW w wr G g gx/\Bk wr gl #[.int .i64 l.frm,.string l.spec,.int .i64 l.to] 62)
      case atStart=>exact⟨0,rfl,by omega,(fun k x U=>absurd U (not_lt_zero k)),X2.o,L2.o⟩
      case round=>
       obtain⟨j,rfl,hj,U,H,Y⟩:=hrel;have X:=zc H;have L:=zc Y;have KN:=zc U;clear H Y U X2 L2;by_cases aF:j<i
       ·have au:(j:Int)<(i:Int):=by omega
        have aK:(j:Int)<(g.ls.length:Int):=by omega
        obtain⟨x,H⟩: ∃x,g.ls[j]? =some x:=⟨_,gE (by omega)⟩;obtain⟨b1,o1,e1,k1⟩:=(HO.o.later X.o.b).rows.2.2.get H;have k0:=k1 0 _ rfl;have k3:=k1 1 _ rfl;obtain⟨c0,c1,c2,cf⟩:=zg X.o.x;obtain⟨d0,d1,d2,df⟩:=zg L.o;simp only[add_zero] at k0;rw[e1] at c2;have HX:=zc H;clear H k1 e1;obtain⟨j1,ab⟩: ∃j1,j1=j+1:=⟨_,rfl⟩;have ej:(j:Int)+1=(j1:Int):=by omega
        have ad:=zc ab;clear ab;have al:(x.frm=l.frm/\(x.spec.toList==l.spec.toList)=true/\zW x=zW l)∨(x.frm=l.frm/\(x.spec.toList==l.spec.toList)=false/\zW x≠zW l)∨(¬x.frm=l.frm/\zW x≠zW l):=zyg x l;have C2:=zc c2;have K0:=zc k0;have K3:=zc k3;have D0:=zc d0;have D1:=zc d1;clear c0 c1 c2 cf d0 d1 d2 df k0 k3;rcases al with ⟨O,y2,y3⟩|⟨O,y2,y3⟩|⟨O,y3⟩
        all_goals have Y3:=zc y3
        case' inl=>have q1:decide (x.frm=l.frm)=true:=dT O
        case' inr.inl=>have q1:decide (x.frm=l.frm)=true:=dT O
        case' inr.inr=>have q1:decide (x.frm=l.frm)=false:=dF O
        all_goals (
         have q2:(x.frm==l.frm)=_:=q1;clear O y3;go_wp2;have z0:=cR0 C2.o;have z1:=cR0 K0.o;have z2:=cR0 K3.o;have z3:=cR0 D0.o;have z4:=cR0 D1.o;refine wp_region_quiet_below (by kernel_rfl) (by kernel_rfl) ?_
         repeat (go_big_quiet_step (fail))
         refine wpQuiet_nil ?_;intro w2 J;obtain⟨q,A⟩:=J;have XE:=zc (X.o.later (zez A));have LE:=zc (L.o.later (zez A));clear A z0 z1 z2 z3 z4
         first
         |(have HN:Hid (¬GrS g):=zjP HL.o fun k=>k.2.2.2.2.2 j x aF HX.o Y3.o
           go_wp2;go_ret
           exact⟨zb8 HN.o rfl,XE.o.b⟩)
         |(go_wp2
           go_roundg (gk-1)
           case rel=>exact⟨j1,rfl,by have:=ad.o;omega,(by rw[ad.o];exact zyh KN.o HX.o Y3.o),XE.o,LE.o⟩
           case measure=>omega))
       ·have au: ¬(j:Int)<(i:Int):=by omega
        obtain rfl:j=i:=by omega
        obtain⟨Z,N⟩: ∃Z,Z=j+1:=⟨_,rfl⟩;have ei:(j:Int)+1=(Z:Int):=by omega
        have aa:=zc N;have aE:Hid (LkTo g Z):=by
         rw[N];exact LT.o.next HL.o ⟨g5,by rw[zcf];exact g6,G3.o.1,by rw[zcf];exact G3.o.2,HI.o.1 aG.o,KN.o⟩
        clear N;go_wp2;go_roundg (g.ls.length-Z)
        case rel=>exact⟨Z,rfl,by have:=aa.o;omega,aE.o,X.o⟩
        case measure=>have:=aa.o;omega
    ·have ac: ¬(i:Int)<(g.ls.length:Int):=by omega
     obtain rfl:i=g.ls.length:=by omega
     have ah:Hid (zgq (zw g) g.ls):=⟨HT.o.symm.trans aB.o,fun i l Y=>LT.o i l (gS Y).1 Y⟩;have OW:=zc (HO.o.later X.o.b);have RG:Hid (∀l∈g.ls,0<=l.frm/\l.frm<(g.ms.length:Int)/\0<=l.to/\l.to<(g.ms.length:Int)):=fun l Y=>by
      obtain⟨i,hi⟩:=List.mem_iff_getElem?.1 Y;have:=ah.o.2 i l hi;rw[zcf] at this;exact⟨this.1,this.2.1,this.2.2.1,this.2.2.2.1⟩
     go_wp2_with fail;have cR:=zyd base G g wr OW.o an aq aH RG.o;unfold grD at cR;rw[hp] at cR;refine cR.mono ?_;clear cR;rintro e w2 ⟨gb,rfl,ap,hb⟩;have OB:=zc ap;have HB:=zc (zi X.o.b hb);clear ap hb c0 c1 c2 cf;obtain⟨b,hb⟩: ∃b,b=zai g.ls g.ms.length (zbh g.ms.length):=⟨_,rfl⟩;have av:=zc hb;rw[<-hb] at OB;clear hb;have aO:=OB.o.len;go_wp2;go_loopg [10] g.ms.length (fun k az wr=>∃j:Nat,az= .int .i64 j/\j+k=g.ms.length/\(∀k,k<j->b[k]? =some true)/\wr=w2)
     case atStart=>exact⟨0,rfl,by omega,(fun k U=>absurd U (not_lt_zero k)),rfl⟩
     case round=>
      obtain⟨j,rfl,hj,U,rfl⟩:=hrel;have KN:=zc U;clear U;by_cases ax:j<g.ms.length
      ·have ao:(j:Int)<(g.ms.length:Int):=by omega
       obtain⟨v,hv⟩: ∃v,b[j]? =some v:=⟨_,gE (by omega)⟩;have z0:=OB.o.cell hv;have HV:=zc hv;clear hv;obtain⟨j1,ab⟩: ∃j1,j1=j+1:=⟨_,rfl⟩;have ej:(j:Int)+1=(j1:Int):=by omega
       have ad:=zc ab;clear ab;cases v with
       |true=>
        have HK:Hid (∀k,k<j1->b[k]? =some true):=fun k U=>by
         by_cases e:k=j
         ·rw[e];exact HV.o
         ·exact KN.o k (by have:=ad.o;omega)
        go_wp2;go_roundg (gk-1)
        case rel=>exact⟨j1,rfl,by have:=ad.o;omega,HK.o,rfl⟩
        case measure=>omega
       |false=>
        have HN:Hid (¬GrS g):=fun k=>by
         have h1:=k.2.2.2.2.2 j ax;rw[<-av.o,HV.o] at h1;cases h1
        go_wp2;go_ret;exact⟨zb8 HN.o rfl,HB.o⟩
      ·have ao: ¬(j:Int)<(g.ms.length:Int):=by omega
       obtain rfl:j=g.ms.length:=by omega
       have HY:Hid (GrS g):=⟨⟨an,aq⟩,hp,TO.o.1,(fun m hm=>by
        obtain⟨i,hi⟩:=List.mem_iff_getElem?.1 hm
        exact TO.o.2 i m (gS hi).1 hi),ah.o,(fun k U=>by rw[<-av.o];exact KN.o k U)⟩
       go_wp2;go_ret;exact⟨⟨true,rfl,by simp[HY.o]⟩,HB.o⟩
