/- Facts and walks that the theorem stands on. -/
import Derived.Test.YtgcbmogmniahjaaGreatG40
import Derived.Test.YtgcbmogmniahjaaGreatG43
import Derived.Test.YtgcbmogmniahjaaGreatG55
namespace Go.Proofs.YtgcbmogmniahjaaGreat
open Go.Proofs.Tryz
set_option maxRecDepth 100000
set_option maxHeartbeats 12800000
open Go.RowKit Go.PlainAid Go.Sort
theorem zv9:zf9 28:=fun q S m w h z=>(zss q S m false w h (zkv z.1 z.2) (fun t=>by have:=(zku t z.2).1;have:=z.1;omega)).mono fun _ _ k=>⟨zoX k.1,k.2⟩
theorem zvA:zf9 65:=fun q S m w h z=>(zuF q S m false w h (zkv z.1 z.2) (fun t=>by have:=(zku t z.2).2;have:=z.1;omega)).mono fun _ _ k=>⟨zoY k.1,k.2⟩
theorem zvB:zfA 29:=fun _ S m w h _ q=>zuN S m false w (RowAt.of (f:=imL) (m:=3) (fun _=>rfl) h.im) (RowAt.of (f:=epL) (m:=4) (fun _=>rfl) h.ep) (RowAt.of (f:=smL) (m:=3) (fun _=>rfl) h.st) (RowAt.of (f:=exL) (m:=6) (fun _=>rfl) h.ex) q.parts.im q.parts.ep q.parts.st q.parts.ex
theorem zvC {m:Md} (h:zbu m<=1048576):zgR m:=by
 unfold zbu at h;refine⟨fun x q=>?_,fun x q=>?_,fun x q=>?_,fun x q=>?_⟩
 ·have:=zdo (c:=zbX) q;have e:zbX x=x.spec.size+x.first.size+x.loc.size:=rfl;unfold maxLen;omega
 ·have:=zdo (c:=zcp) q;have e:zcp x=x.name.size:=rfl;unfold maxLen;omega
 ·have:=zdo (c:=zbY) q;have e:zbY x=x.name.size+x.loc.size+x.spec.size:=rfl;unfold maxLen;omega
 ·have:=zdo (c:=zcE) q;have e:zcE x=x.name.size+x.field.size:=rfl;unfold maxLen;omega
theorem zvD:zfA 66:=fun _ S m w h z q=>zv8 S m false w (RowAt.of (f:=imL) (m:=3) (fun _=>rfl) h.im) (RowAt.of (f:=epL) (m:=4) (fun _=>rfl) h.ep) (RowAt.of (f:=smL) (m:=3) (fun _=>rfl) h.st) (RowAt.of (f:=exL) (m:=6) (fun _=>rfl) h.ex) q.parts.im q.parts.ep q.parts.st q.parts.ex (zvC z.1) q.parts.fair
def OwnBl (w:World) (base g n:Nat) (b:List Bool):Prop:=OwnR w base 4 1 ⟨some ⟨g,0,none⟩,n⟩ n (b.map .bool)
theorem OwnBl.len {w:World} {base g n:Nat} {b:List Bool} (h:OwnBl w base g n b):b.length=n:=by have:=h.1;rw[List.length_map] at this;omega
theorem OwnBl.cell {w:World} {base g n:Nat} {b:List Bool} (h:OwnBl w base g n b) {j:Nat} {v:Bool} (q:b[j]? =some v):w.cell? ⟨g,j,none⟩=some (.bool v):=by
 have D:=h.len;have A:=(List.getElem?_eq_some_iff.1 q).1;have z:w.ownsRow base 4 1 (.slice (some ⟨g,0,none⟩) n n) n (b.map .bool):=h;rw[z.cellAt j (by omega),List.getElem?_map,q];rfl
theorem OwnBl.free {w:World} {base g n:Nat} {b:List Bool} (h:OwnBl w base g n b) (j:Nat):w.frozen? ⟨g,j,none⟩=false:=by
 have q:w.ownsRow base 4 1 (.slice (some ⟨g,0,none⟩) n n) n (b.map .bool):=h;exact q.frozenAt j
theorem OwnBl.set {w:World} {base g n:Nat} {b:List Bool} (h:OwnBl w base g n b) (j:Nat) (v:Bool):OwnBl (w.setCell ⟨g,j,none⟩ (.bool v)) base g n (b.set j v):=by
 have q:w.ownsRow base 4 1 (.slice (some ⟨g,0,none⟩) n n) n (b.map .bool):=h;unfold OwnBl OwnR;rw[List.map_set];exact (q.stored j (.bool v)).1
theorem OwnBl.later {w q:World} {base g n:Nat} {b:List Bool} (h:OwnBl w base g n b) (z:Below w.heap.size w q):OwnBl q base g n b:=OwnR.later h z
theorem OwnBl.at {w:World} {base g n:Nat} {b:List Bool} (h:OwnBl w base g n b):base<=g/\g<w.heap.size:=⟨(h.typed rfl).1,(h.typed rfl).2.1⟩
theorem OwnBl.block {w:World} {base g n:Nat} {b:List Bool} (h:OwnBl w base g n b): ∃q,w.heap[g]? =some (.cells q 4 (0,0)):=(h.typed rfl).2.2
def zvE (w:World) (n:Nat) (b:List Bool) (e:Ending) (w':World):Prop:=∃g,e= .returned (.slice (some ⟨g,0,none⟩) n n)/\OwnBl w' w.heap.size g n b/\Below w.heap.size w w'
theorem Tryz.infoBl:(prog.info? 4).map (fun i=>(i.zero,i.size,i.bytes))=some (some (.bool false),1,1):=by kernel_rfl
structure RchW (w W:World) (G:GS) (g:Gr) (gx gb n:Nat) (b:List Bool):Prop where
 x:Bk W gx (grC G g) 32
 r:OwnBl W w.heap.size gb n b
 ne:gx≠gb
 b:Below w.heap.size w W
theorem RchW.set {w W:World} {G:GS} {g:Gr} {z q n:Nat} {b:List Bool} (h:RchW w W G g z q n b) (j:Nat):RchW w (W.setCell ⟨q,j,none⟩ (.bool true)) G g z q n (b.set j true):=
 ⟨(heap_setCell_other W ⟨q,j,none⟩ z (.bool true) h.ne).trans h.x,h.r.set j true,h.ne,h.b.setCell h.r.at.1 _⟩
theorem zvF {ls:List Lk} {i:Nat} {l:Lk} (h:ls[i]? =some l) (b:List Bool):zbs (ls.take (i+1)) b=zcg (zbs (ls.take i) b) l:=by
 obtain⟨q,rfl⟩:=List.getElem?_eq_some_iff.1 h;rw[List.take_succ_eq_append_getElem q,zbs,List.foldl_append];rfl
theorem zvG (base:Nat) (G:GS) (g:Gr) (w:World) (ho:GrOwn w base G g) (hn:1<=g.ms.length) (aw:g.ms.length<=8) (hl:g.ls.length<=1048576) (hr: ∀l∈g.ls,0<=l.frm/\l.frm<(g.ms.length:Int)/\0<=l.to/\l.to<(g.ms.length:Int)):
  Calls prog 30 #[grD G g] w fun e w'=>zvE w g.ms.length (zaV g.ls g.ms.length (zaW g.ms.length)) e w':=by
 have HR:=zc (RowAt.of (f:=lkL) (m:=3) (fun _=>rfl) ho.ls);have HC:=zc hr;clear ho hr;obtain⟨i0,hi,ah,al,aj⟩:=info_parts Tryz.infoBl;unfold grD;go_enter func30,ntmps30;go_upto_region 1 with fail;obtain⟨z,L⟩: ∃z,z=w.heap.size:=⟨_,rfl⟩;rw[<-L];refine zy (R:=fun W=>Bk W z (grC G g) 32/\Below w.heap.size w W) (by rw[L];exact⟨heap_alloc_new w _,zaN w _⟩) ?_;rintro W0 ⟨hx,hb⟩;have au:w.heap.size<=z:=by omega
 clear L;have X0:=zc hx;have N:=zc hb;have ag:z<W0.heap.size:=(aLt hx);clear hx hb;obtain⟨c0,Y,J,Z⟩:=zq X0.o;go_wp2_with (first|(at_make;refine wpList_make_full W0 rfl _ _ 58 rfl w.heap.size 4 i0 _ 1 underlying58 hi ah al .i64 .i64 _ _ g.ms.length (by rfl) (by rfl) rfl rfl (by rw[aj];omega) (by unfold maxLen;omega) N.o.size ?_));intro w1 q I;have X:Below W0.heap.size W0 w1:=(Below.refl _ _).grown I (Nat.le_refl _) (fun k h=>by cases h);obtain⟨H,V⟩: ∃H,H=W0.heap.size:=⟨_,rfl⟩;have RR:Hid (RchW w w1 G g z H g.ms.length (List.replicate g.ms.length false)):=by
  refine⟨X0.o.later X,?_,by omega,zaq N.o X⟩;unfold OwnBl OwnR;rw[toList_madeCells_one] at q;rw[V,List.map_replicate];exact q
 rw[<-V];clear q I X V X0 N ag c0 Y J Z;obtain⟨c0,Y,J,Z⟩:=zq RR.o.x;have f0:=RR.o.r.free 0;have b0:=RR.o.r.cell (j:=0) (v:=false) (by rw[List.getElem?_replicate,if_pos (by omega)]);have aq:(0:Int)<(g.ms.length:Int):=by omega
 have R1:=zc (RR.o.set 0);go_upto_region 3 with fail;obtain⟨w2,aa⟩: ∃w2,w2=w1.setCell ⟨H,0,none⟩ (.bool true):=⟨_,rfl⟩;rw[<-aa] at R1 ⊢;clear aa RR f0 b0 c0 Y J Z;have am:(List.replicate g.ms.length false).length=g.ms.length:=List.length_replicate ..;change Hid (RchW w w2 G g z H g.ms.length (zaW g.ms.length)) at R1;go_wp2;go_loopg [4,5] g.ms.length (fun k s4 s5 wr=>∃r:Nat,s4= .int .i64 r/\r+k=g.ms.length/\RchW w wr G g z H g.ms.length (zaV g.ls r (zaW g.ms.length)))
 case atStart=>exact⟨0,rfl,by omega,R1.o⟩
 case round=>
  obtain⟨r,rfl,hr,hw⟩:=hrel;have RW:=zc hw;clear hw R1;obtain⟨c0,Y,J,Z⟩:=zq RW.o.x;by_cases ao:r<g.ms.length
  ·have ad:(r:Int)<(g.ms.length:Int):=by omega
   obtain⟨r1,ab⟩: ∃r1,r1=r+1:=⟨_,rfl⟩;have er:(r:Int)+1=(r1:Int):=by omega
   have M:=zc ab;clear ab;go_wp2;clear c0 Y J Z;go_loopg [5] g.ls.length (fun k s5 wq=>∃i:Nat,s5= .int .i64 i/\i+k=g.ls.length/\RchW w wq G g z H g.ms.length (zbs (g.ls.take i) (zaV g.ls r (zaW g.ms.length))))
   case atStart=>exact⟨0,rfl,by omega,RW.o⟩
   case round=>
    obtain⟨i,rfl,an,hw⟩:=hrel;have A:=zc hw;clear hw;obtain⟨c0,Y,J,Z⟩:=zq A.o.x;by_cases ak:i<g.ls.length
    ·have af:(i:Int)<(g.ls.length:Int):=by omega
     obtain⟨l,E⟩: ∃l,g.ls[i]? =some l:=⟨_,List.getElem?_eq_getElem ak⟩;obtain⟨y0,y1,y2,y3⟩:=HC.o l (List.mem_of_getElem? E);obtain⟨bl,ap,ae,hc⟩:=(HR.o.later A.o.b).get E;have k0:=hc 0 _ rfl;have k2:=hc 2 _ rfl;have HN:=zc (zvF E (zaV g.ls r (zaW g.ms.length)));simp only[Nat.add_zero] at k0;clear hc E;obtain⟨fr,U⟩: ∃fr:Nat,l.frm=fr:=⟨l.frm.toNat,by omega⟩;obtain⟨O,K⟩: ∃O:Nat,l.to=O:=⟨l.to.toNat,by omega⟩;obtain⟨b,hb⟩: ∃b,b=zbs (g.ls.take i) (zaV g.ls r (zaW g.ms.length)):=⟨_,rfl⟩;rw[<-hb] at A HN;clear hb;have ai:=A.o.r.len;obtain⟨v,hv⟩: ∃v,b[fr]? =some v:=⟨_,List.getElem?_eq_getElem (by omega)⟩;obtain⟨u,hu⟩: ∃u,b[O]? =some u:=⟨_,List.getElem?_eq_getElem (by omega)⟩;have HS:Hid (zcg b l=if v=true then b.set O true else b):=by
      show zcg b l=_;unfold zcg;rw[U,K,Int.toNat_natCast,Int.toNat_natCast,List.getD,hv];rfl
     have b0:=A.o.r.cell hv;have b1:=A.o.r.cell hu;have f1:=A.o.r.free O;have ar:(fr:Int)<(g.ms.length:Int):=by omega
     have av:(O:Int)<(g.ms.length:Int):=by omega
     have Q1:=zc (A.o.set O);rw[U] at k0;rw[K] at k2;rw[ae] at J;clear U K ae hv hu ai y0 y1 y2 y3;obtain⟨i1,ac⟩: ∃i1,i1=i+1:=⟨_,rfl⟩;have ei:(i:Int)+1=(i1:Int):=by omega
     have D:=zc ac;clear ac;cases v with
     |true=>
      go_wp2;go_roundg (gk-1)
      case rel=>exact⟨i1,rfl,by have:=D.o;omega,by rw[D.o,HN.o,HS.o];exact Q1.o⟩
      case measure=>omega
     |false=>
      go_wp2;go_roundg (gk-1)
      case rel=>exact⟨i1,rfl,by have:=D.o;omega,by rw[D.o,HN.o,HS.o];exact A.o⟩
      case measure=>omega
    ·have af: ¬(i:Int)<(g.ls.length:Int):=by omega
     have QE:Hid (RchW w wr G g z H g.ms.length (zaV g.ls r1 (zaW g.ms.length))):=by
      show RchW ..;rw[M.o,zjQ];have:=A.o;rw[List.take_of_length_le (by omega)] at this;exact this
     go_wp2;go_roundg (g.ms.length-r1)
     case rel=>exact⟨r1,rfl,by have:=M.o;omega,QE.o⟩
     case measure=>have:=M.o;omega
  ·have ad: ¬(r:Int)<(g.ms.length:Int):=by omega
   obtain rfl:r=g.ms.length:=by omega
   go_wp2;go_ret;exact⟨H,rfl,RW.o.r,RW.o.b⟩
structure GrW (w W:World) (G:GS) (g:Gr) (gx:Nat):Prop where
 x:Bk W gx (grC G g) 32
 b:Below w.heap.size w W
theorem GrW.later {w W z:World} {G:GS} {g:Gr} {q:Nat} (h:GrW w W G g q) (A:Below W.heap.size W z):GrW w z G g q:=⟨h.x.later A,zaq h.b A⟩
theorem GrOwn.rows {w:World} {base:Nat} {G:GS} {g:Gr} (h:GrOwn w base G g):RowS w G.pr.a g.ps/\RowAt w G.mr.a mdL 5 (G.sv.zip g.ms)/\RowAt w G.lr.a lkL 3 g.ls:=
 ⟨RowAt.of (f:=fun x=>[Value.string x]) (m:=1) (fun _=>rfl) h.ps,RowAt.of (f:=mdL) (m:=5) (fun _=>rfl) (zeI h.len h.ms),RowAt.of (f:=lkL) (m:=3) (fun _=>rfl) h.ls⟩
def GrTo (g:Gr) (i:Nat):Prop:=(∀j,j<i->zeK g.ps j)/\∀(j:Nat) (m:Md),j<i->g.ms[j]? =some m->MOk m/\zap m=0
theorem GrTo.next {g:Gr} {i:Nat} {m:Md} (h:GrTo g i) (w:g.ms[i]? =some m) (D:zeK g.ps i) (A:MOk m) (E:zap m=0):GrTo g (i+1):=by
 refine⟨fun j z=>?_,fun j x z q=>?_⟩
 ·by_cases e:j=i
  ·rw[e];exact D
  ·exact h.1 j (by omega)
 ·by_cases e:j=i
  ·rw[e,w] at q;cases q;exact⟨A,E⟩
  ·exact h.2 j x (by omega) q
theorem zvH {g:Gr} {i:Nat} {m:Md} (w:i<g.ms.length) (q:g.ms[i]? =some m) (h: ¬(zeK g.ps i/\MOk m/\zap m=0)): ¬GrS g:=fun k=>h ⟨k.2.2.1 i w,k.2.2.2.1 m (List.mem_of_getElem? q)⟩
def zgX (g:Gr) (i:Nat) (l:Lk):Prop:=0<=l.frm/\l.frm<((zC g).length:Int)/\0<=l.to/\l.to<((zC g).length:Int)/\(∃s∈(zC g).getD l.frm.toNat [],s.toList=l.spec.toList)/\∀(k:Nat) (x:Lk),k<i->g.ls[k]? =some x->zR x≠zR l
def LkTo (g:Gr) (i:Nat):Prop:=∀(j:Nat) (l:Lk),j<i->g.ls[j]? =some l->zgX g j l
theorem LkTo.next {g:Gr} {i:Nat} {l:Lk} (h:LkTo g i) (z:g.ls[i]? =some l) (w:zgX g i l):LkTo g (i+1):=by
 intro j x A q;by_cases e:j=i
 ·rw[e,z] at q;cases q;rw[e];exact w
 ·exact h j x (by omega) q
theorem ziB {g:Gr} {i:Nat} {l:Lk} (q:g.ls[i]? =some l) (h: ¬zgX g i l): ¬GrS g:=fun k=>h (k.2.2.2.2.1.2 i l q)
theorem zvI {g:Gr} {i:Nat} {l:Lk} (D:g.ls[i]? =some l):
  (decide (l.frm<0)=true/\¬GrS g)∨(decide (l.frm<0)=false/\((decide ((g.ms.length:Int)<=l.frm)=true/\¬GrS g)∨(decide ((g.ms.length:Int)<=l.frm)=false/\((decide (l.to<0)=true/\¬GrS g)∨(decide (l.to<0)=false/\((decide ((g.ms.length:Int)<=l.to)=true/\¬GrS g)∨decide ((g.ms.length:Int)<=l.to)=false)))))):=by
 have h:=ziB D;unfold zgX at h;rw[zcq] at h;by_cases z:l.frm<0
 ·exact .inl ⟨decide_eq_true z,h fun k=>by omega⟩
 ·refine .inr ⟨decide_eq_false z,?_⟩;by_cases q:(g.ms.length:Int)<=l.frm
  ·exact .inl ⟨decide_eq_true q,h fun k=>by omega⟩
  ·refine .inr ⟨decide_eq_false q,?_⟩;by_cases A:l.to<0
   ·exact .inl ⟨decide_eq_true A,h fun k=>by omega⟩
   ·refine .inr ⟨decide_eq_false A,?_⟩;by_cases w:(g.ms.length:Int)<=l.to
    ·exact .inl ⟨decide_eq_true w,h fun k=>by omega⟩
    ·exact .inr (decide_eq_false w)
theorem zvJ (x l:Lk):(x.frm=l.frm/\(x.spec.toList==l.spec.toList)=true/\zR x=zR l)∨(x.frm=l.frm/\(x.spec.toList==l.spec.toList)=false/\zR x≠zR l)∨(¬x.frm=l.frm/\zR x≠zR l):=by
 by_cases h:x.frm=l.frm
 ·cases q:(x.spec.toList==l.spec.toList) with
  |true=>exact .inl ⟨h,rfl,by unfold zR;rw[h,eq_of_beq q]⟩
  |false=>exact .inr (.inl ⟨h,rfl,fun e=>by rw[(Prod.mk.inj e).2] at q;simp at q⟩)
 ·exact .inr (.inr ⟨h,fun e=>h (Prod.mk.inj e).1⟩)
theorem zvK {ls:List Lk} {j:Nat} {x l:Lk} (h: ∀(k:Nat) (x:Lk),k<j->ls[k]? =some x->zR x≠zR l) (w:ls[j]? =some x) (z:zR x≠zR l): ∀(k:Nat) (x:Lk),k<j+1->ls[k]? =some x->zR x≠zR l:=by
 intro k y A q;by_cases e:k=j
 ·rw[e,w] at q;cases q;exact z
 ·exact h k y (by omega) q
theorem zvL {g:Gr} {i:Nat} {m:Md} {p:BA} (K:i<g.ms.length) (A:g.ms[i]? =some m) (I:g.ps.getD i sNone=p) (J:GrTo g i):
  (p.toList.isEmpty=true/\¬GrS g)∨(p.toList.isEmpty=false/\((((zaH p).toList==p.toList)=false/\¬GrS g)∨(((zaH p).toList==p.toList)=true/\((inL (g.ps.take i) p=true/\¬GrS g)∨(inL (g.ps.take i) p=false/\((¬MOk m/\¬GrS g)∨(MOk m/\((¬zap m=0/\¬GrS g)∨(zap m=0/\GrTo g (i+1)))))))))):=by
 have h:=zvH K A;have q:=fun a b c=>J.next A a b c;unfold zeK at h q;rw[I] at h q;cases E:p.toList.isEmpty with
 |true=>exact .inl ⟨rfl,h fun k=>by rw[E] at k;exact absurd k.1.1 (by decide)⟩
 |false=>
  refine .inr ⟨rfl,?_⟩;cases D:((zaH p).toList==p.toList) with
  |false=>exact .inl ⟨rfl,h fun k=>by rw[D] at k;exact absurd k.1.2.1 (by decide)⟩
  |true=>
   refine .inr ⟨rfl,?_⟩;cases H:inL (g.ps.take i) p with
   |true=>exact .inl ⟨rfl,h fun k=>by rw[H] at k;exact absurd k.1.2.2 (by decide)⟩
   |false=>
    refine .inr ⟨rfl,?_⟩;by_cases w:MOk m
    ·refine .inr ⟨w,?_⟩;by_cases z:zap m=0
     ·exact .inr ⟨z,q ⟨E,D,H⟩ w z⟩
     ·exact .inl ⟨z,h fun k=>z k.2.2⟩
    ·exact .inl ⟨w,h fun k=>w k.2.1⟩
theorem zvM (ai:zf9 28) (ag:zfA 29) (base:Nat) (G:GS) (g:Gr) (w:World) (ho:GrOwn w base G g) (hg:GdG g):
  Calls prog 8 #[grD G g] w fun e w'=>SameOut (GrS g) e/\Below w.heap.size w w':=by
 have HO:=zc ho;have HG:=zc hg;have CM:=zc ai;have CE:=zc ag;have aP:=hg.pl;have aN:=hg.ml;have aH:=hg.ll;clear ho hg ai ag;unfold grD;go_enter func8,ntmps8;go_upto_region 1 with fail;obtain⟨gx,aj⟩: ∃gx,gx=w.heap.size:=⟨_,rfl⟩;rw[<-aj];refine zy (R:=fun W=>GrW w W G g gx) (by rw[aj];exact⟨heap_alloc_new w _,zaN w _⟩) ?_;intro W0 hW;have X0:=zc hW;clear hW aj;obtain⟨c0,c1,Z,cf⟩:=zq X0.o.x;by_cases hn:1<=g.ms.length/\g.ms.length<=8
 case neg=>
  have HN:Hid (¬GrS g):=fun k=>hn k.1;have D:inB (g.ms.length:Int) 1 8=false:=by unfold inB;simp;omega
  go_wp2_with (first|(go_at_call 25;refine (zfa _ _ _ _).mono ?_;rintro e w' ⟨rfl,rfl⟩;rw[D]));go_ret;exact⟨zbw HN.o rfl,X0.o.b⟩
 have D:inB (g.ms.length:Int) 1 8=true:=by unfold inB;simp;omega
 obtain⟨an,aq⟩:=hn;by_cases hp:g.ps.length=g.ms.length
 case neg=>
  have HN:Hid (¬GrS g):=fun k=>hp k.2.1;have aD: ¬(g.ps.length:Int)=(g.ms.length:Int):=by omega
  go_wp2_with (first|(go_at_call 25;refine (zfa _ _ _ _).mono ?_;rintro e w' ⟨rfl,rfl⟩;rw[D]));go_ret;exact⟨zbw HN.o rfl,X0.o.b⟩
 have aD:(g.ps.length:Int)=(g.ms.length:Int):=by omega
 go_wp2_with (first|(go_at_call 25;refine (zfa _ _ _ _).mono ?_;rintro e w' ⟨rfl,rfl⟩;rw[D]));have am:Hid (∀k,zao ((zC g).take k)<=1048576):=fun k=>Nat.le_trans (zhL _ _) HG.o.rq;clear c0 c1 Z cf D;go_loopg [4,5] g.ms.length (fun k s4 s5 wr=>∃i:Nat,s5= .int .i64 i/\s4= .int .i64 (zao ((zC g).take i):Nat)/\i+k=g.ms.length/\GrTo g i/\GrW w wr G g gx)
 case atStart=>exact⟨0,rfl,rfl,by omega,⟨fun j hj=>absurd hj (Nat.not_lt_zero j),fun j m hj=>absurd hj (Nat.not_lt_zero j)⟩,X0.o⟩
 case round=>
  obtain⟨i,rfl,rfl,hi,ht,hw⟩:=hrel;have X:=zc hw;have TO:=zc ht;clear hw ht X0;have aL:=am.o i;by_cases ae:i<g.ms.length
  ·have ac:(i:Int)<(g.ms.length:Int):=by omega
   have aI:(i:Int)<(g.ps.length:Int):=by omega
   obtain⟨p,af⟩: ∃p,g.ps[i]? =some p:=⟨_,List.getElem?_eq_getElem (by omega)⟩;obtain⟨m,Y⟩: ∃m,g.ms[i]? =some m:=⟨_,List.getElem?_eq_getElem ae⟩;obtain⟨S,hS⟩:=zdJ HO.o.len Y;have OW:=zc (HO.o.later X.o.b);have OM:=zc (OW.o.md _ (List.mem_of_getElem? hS));have GM:=zc (HG.o.ms m (List.mem_of_getElem? Y));have HM:=zc Y;have PD:Hid (g.ps.getD i sNone=p):=by show _=_;rw[List.getD,af];rfl
   have RQ:Hid ((zC g)[i]? =some m.rq):=by show _=_;rw[zC,List.getElem?_map,Y];rfl
   obtain⟨b1,o1,e1,k1⟩:=OW.o.rows.1.get af;obtain⟨b2,o2,e2,k2⟩:=OW.o.rows.2.1.get hS;have aJ:(i:Int)<=(G.pr.cap:Int):=by have:=OW.o.ps.cap;omega
   have C0:=zc (k1 0 _ rfl);have D0:=zc (k2 0 _ rfl);have D1:=zc (k2 1 _ rfl);have D2:=zc (k2 2 _ rfl);have D3:=zc (k2 3 _ rfl);have D4:=zc (k2 4 _ rfl);have aC:p.size<=9223372036854775807:=by have:=HG.o.ps p (List.mem_of_getElem? af);omega
   have RT:Hid (RowS wr G.pr.a (g.ps.take i)):=OW.o.rows.1.take i;have aw:i=(g.ps.take i).length:=by rw[List.length_take];omega
   have cC: ∀d I,Calls prog 26 #[.string p] (grow (redrawn wr d) I) fun e H=>e= .returned (.string (zaH p))/\∃q:Regrown,H=grow (redrawn wr q.d) q.os:=fun d I=>Calls.regrown_of (zv2 p _ aC);have cI: ∀d I,Calls prog 27 #[.slice (some ⟨b1,o1,none⟩) i G.pr.cap,.string p] (grow (redrawn wr d) I) fun e H=>e= .returned (.bool (inL (g.ps.take i) p))/\∃q:Regrown,H=grow (redrawn wr q.d) q.os:=fun d I=>Calls.regrown_of ((zfL (some ⟨b1,o1,none⟩) G.pr.cap i (g.ps.take i) p _ aw (e1▸RT.o.later (below_regrown wr d I)) (by omega)).mono fun e w' h=>⟨h.1,by rw[h.2];exact Below.refl _ _⟩);have cM: ∀(b:Bool),(b=true↔MOk m)->∀d I,Calls prog 28 #[zl S m,.bool false] (grow (redrawn wr d) I) fun e H=>e= .returned (.bool b)/\∃q:Regrown,H=grow (redrawn wr q.d) q.os:=fun b hb d I=>Calls.regrown_of ((CM.o base S m _ (OM.o.later (below_regrown wr d I)) GM.o).mono fun e w' h=>⟨h.1.of hb,h.2⟩);have cE:MOk m->∀d I,Calls prog 29 #[zl S m,.bool false] (grow (redrawn wr d) I) fun e H=>e= .returned (.int .i64 (zap m))/\∃q:Regrown,H=grow (redrawn wr q.d) q.os:=fun M d I=>Calls.regrown_of (CE.o base S m _ (OM.o.later (below_regrown wr d I)) GM.o M);unfold zl at cM cE;obtain⟨C1,C2,C3,cf⟩:=zq X.o.x;rw[e1] at C1;rw[e2] at C2;have Y1:=zc C1;have Y2:=zc C2;clear af Y hS k1 k2 e1 e2 C1 C2 C3 cf aw;have ar:=zvL ae HM.o PD.o TO.o;rcases ar with ⟨h1,A⟩|⟨h1,⟨h2,A⟩|⟨h2,⟨h3,A⟩|⟨h3,⟨h4,A⟩|⟨h4,⟨h5,A⟩|⟨h5,A⟩⟩⟩⟩⟩
   all_goals have HX:=zc A
   all_goals clear A
   case' inr.inr.inr.inr.inl=>
    have q1:decide (zap m=0)=false:=decide_eq_false h5;have q2:(zap m==0)=false:=q1;have q3:(zap m !=0)=true:=by rw[bne,q2];rfl
   all_goals (
    go_wp2;have z0:=cell_regrown C0.o;have z1:=cell_regrown Y1.o;have z2:=cell_regrown Y2.o;have d0:=cell_regrown D0.o;have d1:=cell_regrown D1.o;have d2:=cell_regrown D2.o;have d3:=cell_regrown D3.o;have d4:=cell_regrown D4.o;simp only[Nat.add_zero,Nat.mul_one] at z0 d0;refine wp_region_quiet_below (by kernel_rfl) (by kernel_rfl) ?_
    repeat (go_big_quiet_step (first|with_reducible exact cC _ _|with_reducible exact cI _ _|with_reducible exact cM true (iff_of_true rfl h4) _ _|with_reducible exact cM false (by simp[h4]) _ _|with_reducible exact cE h4 _ _))
    refine wpQuiet_nil ?_;intro w2 E;obtain⟨q,z⟩:=E;have V:=zc (X.o.later (zdK z))
    clear z0 z1 z2 d0 d1 d2 d3 d4)
   all_goals first
    |(go_wp2;go_ret;exact⟨zbw HX.o rfl,V.o.b⟩)
    |(
     have E1:w2.cell? ⟨gx,1,none⟩=some (.slice (some ⟨b2,o2,none⟩) g.ms.length G.mr.cap):=by rw[z];exact cell_regrown Y2.o _ _
     have E0:w2.cell? ⟨b2,o2+i*5,none⟩=some (.slice S.rq.a m.rq.length S.rq.cap):=by rw[z];exact cell_regrown D0.o _ _
     obtain⟨U,J⟩: ∃U,U=i+1:=⟨_,rfl⟩;have ei:(i:Int)+1=(U:Int):=by omega
     have aa:=zc J;have aM:(zao ((zC g).take i):Int)+(m.rq.length:Int)=(zao ((zC g).take U):Nat):=by rw[J,zhK RQ.o];omega
     have aQ:=am.o U;clear J z cC cI cM cE;go_wp2;go_roundg (gk-1)
     case rel=>exact⟨U,rfl,rfl,by have:=aa.o;omega,by rw[aa.o];exact HX.o,V.o⟩
     case measure=>omega)
  ·have ac: ¬(i:Int)<(g.ms.length:Int):=by omega
   obtain rfl:i=g.ms.length:=by omega
   have HT:Hid (zao ((zC g).take g.ms.length)=zao (zC g)):=by show _=_;rw[List.take_of_length_le (by rw[zcq];exact Nat.le_refl _)]
   obtain⟨c0,c1,Z,cf⟩:=zq X.o.x;by_cases N:zao ((zC g).take g.ms.length)=g.ls.length
   case neg=>
    have HN:Hid (¬GrS g):=fun k=>N (HT.o.trans k.2.2.2.2.1.1);have ay: ¬((zao ((zC g).take g.ms.length):Nat):Int)=(g.ls.length:Int):=by omega
    clear N;go_wp2;go_ret;exact⟨zbw HN.o rfl,X.o.b⟩
   have ay:((zao ((zC g).take g.ms.length):Nat):Int)=(g.ls.length:Int):=by omega
   have aB:=zc N;clear N;go_wp2;have X1:=zc X.o;clear c0 c1 Z cf X;go_loopg [6] g.ls.length (fun k s6 wr=>∃i:Nat,s6= .int .i64 i/\i+k=g.ls.length/\LkTo g i/\GrW w wr G g gx)
   case atStart=>exact⟨0,rfl,by omega,(fun j l hj=>absurd hj (Nat.not_lt_zero j)),X1.o⟩
   case round=>
    obtain⟨i,rfl,hi,ht,hw⟩:=hrel;have X:=zc hw;have LT:=zc ht;clear hw ht X1;obtain⟨c0,c1,Z,cf⟩:=zq X.o.x;by_cases ae:i<g.ls.length
    ·have ac:(i:Int)<(g.ls.length:Int):=by omega
     obtain⟨l,O⟩: ∃l,g.ls[i]? =some l:=⟨_,List.getElem?_eq_getElem ae⟩;have HL:=zc O;obtain⟨b1,o1,e1,k1⟩:=(HO.o.later X.o.b).rows.2.2.get O;have k0:=k1 0 _ rfl;have k2:=k1 2 _ rfl;have k3:=k1 1 _ rfl;simp only[Nat.add_zero] at k0;rw[e1] at Z;clear O k1;go_upto_region 17 with fail;obtain⟨gl,ak⟩: ∃gl,gl=wr.heap.size:=⟨_,rfl⟩;rw[<-ak];refine zy (R:=fun W=>GrW w W G g gx/\Bk W gl #[.int .i64 l.frm,.string l.spec,.int .i64 l.to] 57) ⟨X.o.later (zaN wr _),by rw[ak];exact heap_alloc_new wr _⟩ ?_;clear ak X k0 k2 k3 e1 c0 c1 Z cf;rintro w1 ⟨A,O⟩;have X:=zc A;have L:=zc O;clear A O;have Z0:=zc (zq L.o).1;have Z1:=zc (zq L.o).2.1;have Z2:=zc (zq L.o).2.2.1;have Y1:=zc (zq X.o.x).2.1;have al:=zvI HL.o;rcases al with ⟨h1,A⟩|⟨h1,⟨h2,A⟩|⟨h2,⟨h3,A⟩|⟨h3,⟨h4,A⟩|h4⟩⟩⟩
     iterate 4
      ·have HX:=zc A;clear A;go_wp2;have z0:=cell_regrown Z0.o;have z2:=cell_regrown Z2.o;have K:=cell_regrown Y1.o;refine wp_region_quiet_below (by kernel_rfl) (by kernel_rfl) ?_
       repeat (go_big_quiet_step (fail))
       refine wpQuiet_nil ?_;intro w2 E;obtain⟨q,z⟩:=E;have V:=zc (X.o.later (zdK z));go_wp2;go_ret;exact⟨zbw HX.o rfl,V.o.b⟩
     have g1: ¬l.frm<0:=of_decide_eq_false h1;have g2: ¬(g.ms.length:Int)<=l.frm:=of_decide_eq_false h2;have g3: ¬l.to<0:=of_decide_eq_false h3;have g4: ¬(g.ms.length:Int)<=l.to:=of_decide_eq_false h4;obtain⟨m,Y⟩: ∃m,g.ms[l.frm.toNat]? =some m:=⟨_,List.getElem?_eq_getElem (by omega)⟩;obtain⟨S,hS⟩:=zdJ HO.o.len Y;have OW:=zc (HO.o.later X.o.b);obtain⟨b2,o2,e2,k2⟩:=OW.o.rows.2.1.get hS;have D0:=zc (k2 0 _ rfl);have RS:=zc (RowS.of (OW.o.md _ (List.mem_of_getElem? hS)).rq);have aA:m.rq.length<=1048576:=by
      have:=(HG.o.ms m (List.mem_of_getElem? Y)).1;unfold zbu at this;omega
     have g5:0<=l.frm:=by omega
     have g6:l.frm<(g.ms.length:Int):=by omega
     have cI: ∀d I,Calls prog 27 #[.slice S.rq.a m.rq.length S.rq.cap,.string l.spec] (grow (redrawn w1 d) I) fun e H=>e= .returned (.bool (inL m.rq l.spec))/\∃q:Regrown,H=grow (redrawn w1 q.d) q.os:=fun d I=>Calls.regrown_of ((zfL S.rq.a S.rq.cap m.rq.length m.rq l.spec _ rfl (RS.o.later (below_regrown w1 d I)) aA).mono fun e w' h=>⟨h.1,by rw[h.2];exact Below.refl _ _⟩);have HI:Hid (inL m.rq l.spec=true↔∃s∈(zC g).getD l.frm.toNat [],s.toList=l.spec.toList):=by
      show _↔_;rw[List.getD,zC,List.getElem?_map,Y,zgx];exact⟨fun h=>⟨_,h,rfl⟩,fun⟨s,h,e⟩=>zjM e▸h⟩
     have K:=Y1.o;rw[e2] at K;have Y2:=zc K;have G3:Hid (0<=l.to/\l.to<(g.ms.length:Int)):=⟨by omega,by omega⟩;clear Y hS k2 e2 K g1 g2 g3 g4;cases D:inL m.rq l.spec with
     |false=>
      have HX:Hid (¬GrS g):=ziB HL.o fun k=>by rw[HI.o.2 k.2.2.2.2.1] at D;cases D
      go_wp2;have z0:=cell_regrown Z0.o;have z1:=cell_regrown Z1.o;have z2:=cell_regrown Z2.o;have K:=cell_regrown Y2.o;have d0:=cell_regrown D0.o;simp only[Nat.add_zero] at d0;refine wp_region_quiet_below (by kernel_rfl) (by kernel_rfl) ?_
      repeat (go_big_quiet_step (with_reducible exact cI _ _))
      refine wpQuiet_nil ?_;intro w2 E;obtain⟨q,z⟩:=E;have V:=zc (X.o.later (zdK z));go_wp2;go_ret;exact⟨zbw HX.o rfl,V.o.b⟩
     |true=>
      go_wp2;have z0:=cell_regrown Z0.o;have z1:=cell_regrown Z1.o;have z2:=cell_regrown Z2.o;have K:=cell_regrown Y2.o;have d0:=cell_regrown D0.o;simp only[Nat.add_zero] at d0;refine wp_region_quiet_below (by kernel_rfl) (by kernel_rfl) ?_
      repeat (go_big_quiet_step (with_reducible exact cI _ _))
      refine wpQuiet_nil ?_;intro w2 E;obtain⟨q,z⟩:=E;have V:=zc (X.o.later (zdK z));have LE:=zc (L.o.later (zdK z));clear z z0 z1 z2 K d0;go_wp2;have aG:=zc D;clear X L Z0 Z1 Z2 Y1 Y2 D0 OW RS cI D h1 h2 h3 h4;have X2:=zc V.o;have L2:=zc LE.o;clear V LE;go_loopg [8] i (fun k s8 wr=>∃j:Nat,s8= .int .i64 j/\j+k=i/\(∀(k:Nat) (x:Lk),k<j->g.ls[k]? =some x->zR x≠zR l)/\GrW w wr G g gx/\Bk wr gl #[.int .i64 l.frm,.string l.spec,.int .i64 l.to] 57)
      case atStart=>exact⟨0,rfl,by omega,(fun k x M=>absurd M (Nat.not_lt_zero k)),X2.o,L2.o⟩
      case round=>
       obtain⟨j,rfl,hj,M,A,O⟩:=hrel;have X:=zc A;have L:=zc O;have KN:=zc M;clear A O M X2 L2;by_cases aF:j<i
       ·have au:(j:Int)<(i:Int):=by omega
        have aK:(j:Int)<(g.ls.length:Int):=by omega
        obtain⟨x,A⟩: ∃x,g.ls[j]? =some x:=⟨_,List.getElem?_eq_getElem (by omega)⟩;obtain⟨b1,o1,e1,k1⟩:=(HO.o.later X.o.b).rows.2.2.get A;have k0:=k1 0 _ rfl;have k3:=k1 1 _ rfl;obtain⟨c0,c1,Z,cf⟩:=zq X.o.x;obtain⟨d0,d1,d2,df⟩:=zq L.o;simp only[Nat.add_zero] at k0;rw[e1] at Z;have HX:=zc A;clear A k1 e1;obtain⟨j1,ab⟩: ∃j1,j1=j+1:=⟨_,rfl⟩;have ej:(j:Int)+1=(j1:Int):=by omega
        have ad:=zc ab;clear ab;have al:(x.frm=l.frm/\(x.spec.toList==l.spec.toList)=true/\zR x=zR l)∨(x.frm=l.frm/\(x.spec.toList==l.spec.toList)=false/\zR x≠zR l)∨(¬x.frm=l.frm/\zR x≠zR l):=zvJ x l;have C2:=zc Z;have K0:=zc k0;have K3:=zc k3;have D0:=zc d0;have D1:=zc d1;clear c0 c1 Z cf d0 d1 d2 df k0 k3;rcases al with ⟨K,y2,y3⟩|⟨K,y2,y3⟩|⟨K,y3⟩
        all_goals have Y3:=zc y3
        case' inl=>have q1:decide (x.frm=l.frm)=true:=decide_eq_true K
        case' inr.inl=>have q1:decide (x.frm=l.frm)=true:=decide_eq_true K
        case' inr.inr=>have q1:decide (x.frm=l.frm)=false:=decide_eq_false K
        all_goals (
         have q2:(x.frm==l.frm)=_:=q1;clear K y3;go_wp2;have z0:=cell_regrown C2.o;have z1:=cell_regrown K0.o;have z2:=cell_regrown K3.o;have z3:=cell_regrown D0.o;have z4:=cell_regrown D1.o;refine wp_region_quiet_below (by kernel_rfl) (by kernel_rfl) ?_
         repeat (go_big_quiet_step (fail))
         refine wpQuiet_nil ?_;intro w2 E;obtain⟨q,z⟩:=E;have V:=zc (X.o.later (zdK z));have LE:=zc (L.o.later (zdK z));clear z z0 z1 z2 z3 z4
         first
         |(have HN:Hid (¬GrS g):=ziB HL.o fun k=>k.2.2.2.2.2 j x aF HX.o Y3.o
           go_wp2;go_ret
           exact⟨zbw HN.o rfl,V.o.b⟩)
         |(go_wp2
           go_roundg (gk-1)
           case rel=>exact⟨j1,rfl,by have:=ad.o;omega,(by rw[ad.o];exact zvK KN.o HX.o Y3.o),V.o,LE.o⟩
           case measure=>omega))
       ·have au: ¬(j:Int)<(i:Int):=by omega
        obtain rfl:j=i:=by omega
        obtain⟨U,J⟩: ∃U,U=j+1:=⟨_,rfl⟩;have ei:(j:Int)+1=(U:Int):=by omega
        have aa:=zc J;have aE:Hid (LkTo g U):=by
         rw[J];exact LT.o.next HL.o ⟨g5,by rw[zcq];exact g6,G3.o.1,by rw[zcq];exact G3.o.2,HI.o.1 aG.o,KN.o⟩
        clear J;go_wp2;go_roundg (g.ls.length-U)
        case rel=>exact⟨U,rfl,by have:=aa.o;omega,aE.o,X.o⟩
        case measure=>have:=aa.o;omega
    ·have ac: ¬(i:Int)<(g.ls.length:Int):=by omega
     obtain rfl:i=g.ls.length:=by omega
     have ah:Hid (zf1 (zC g) g.ls):=⟨HT.o.symm.trans aB.o,fun i l O=>LT.o i l (List.getElem?_eq_some_iff.1 O).1 O⟩;have OW:=zc (HO.o.later X.o.b);have RG:Hid (∀l∈g.ls,0<=l.frm/\l.frm<(g.ms.length:Int)/\0<=l.to/\l.to<(g.ms.length:Int)):=fun l O=>by
      obtain⟨i,hi⟩:=List.mem_iff_getElem?.1 O;have:=ah.o.2 i l hi;rw[zcq] at this;exact⟨this.1,this.2.1,this.2.2.1,this.2.2.2.1⟩
     go_wp2_with fail;have cR:=zvG base G g wr OW.o an aq aH RG.o;unfold grD at cR;rw[hp] at cR;refine cR.mono ?_;clear cR;rintro e w2 ⟨gb,rfl,ap,hb⟩;have OB:=zc ap;have HB:=zc (zaq X.o.b hb);clear ap hb c0 c1 Z cf;obtain⟨b,hb⟩: ∃b,b=zaV g.ls g.ms.length (zaW g.ms.length):=⟨_,rfl⟩;have av:=zc hb;rw[<-hb] at OB;clear hb;have aO:=OB.o.len;go_wp2;go_loopg [10] g.ms.length (fun k az wr=>∃j:Nat,az= .int .i64 j/\j+k=g.ms.length/\(∀k,k<j->b[k]? =some true)/\wr=w2)
     case atStart=>exact⟨0,rfl,by omega,(fun k M=>absurd M (Nat.not_lt_zero k)),rfl⟩
     case round=>
      obtain⟨j,rfl,hj,M,rfl⟩:=hrel;have KN:=zc M;clear M;by_cases ax:j<g.ms.length
      ·have ao:(j:Int)<(g.ms.length:Int):=by omega
       obtain⟨v,hv⟩: ∃v,b[j]? =some v:=⟨_,List.getElem?_eq_getElem (by omega)⟩;have z0:=OB.o.cell hv;have HV:=zc hv;clear hv;obtain⟨j1,ab⟩: ∃j1,j1=j+1:=⟨_,rfl⟩;have ej:(j:Int)+1=(j1:Int):=by omega
       have ad:=zc ab;clear ab;cases v with
       |true=>
        have HK:Hid (∀k,k<j1->b[k]? =some true):=fun k M=>by
         by_cases e:k=j
         ·rw[e];exact HV.o
         ·exact KN.o k (by have:=ad.o;omega)
        go_wp2;go_roundg (gk-1)
        case rel=>exact⟨j1,rfl,by have:=ad.o;omega,HK.o,rfl⟩
        case measure=>omega
       |false=>
        have HN:Hid (¬GrS g):=fun k=>by
         have h1:=k.2.2.2.2.2 j ax;rw[<-av.o,HV.o] at h1;cases h1
        go_wp2;go_ret;exact⟨zbw HN.o rfl,HB.o⟩
      ·have ao: ¬(j:Int)<(g.ms.length:Int):=by omega
       obtain rfl:j=g.ms.length:=by omega
       have HY:Hid (GrS g):=⟨⟨an,aq⟩,hp,TO.o.1,(fun m Y=>by
        obtain⟨i,hi⟩:=List.mem_iff_getElem?.1 Y
        exact TO.o.2 i m (List.getElem?_eq_some_iff.1 hi).1 hi),ah.o,(fun k M=>by rw[<-av.o];exact KN.o k M)⟩
       go_wp2;go_ret;exact⟨⟨true,rfl,by simp[HY.o]⟩,HB.o⟩
end Go.Proofs.YtgcbmogmniahjaaGreat
