/- Facts and walks that the theorem stands on. -/
import Derived.Test.YtgcbmogmniahjaaGreatA40
import Derived.Test.YtgcbmogmniahjaaGreatA43
import Derived.Test.YtgcbmogmniahjaaGreatA55
namespace Go.Proofs.YtgcbmogmniahjaaGreat
open Go.Proofs.Tryz
set_option maxRecDepth 100000
set_option maxHeartbeats 12800000
open Go.RowKit Go.PlainAid Go.Sort
theorem zvY:zfI 28:=fun q S m w h z=>(zsH q S m false w h (zkB z.1 z.2) (fun t=>by have:=(zkA t z.2).1;have:=z.1;omega)).mono fun _ _ k=>⟨zpy k.1,k.2⟩
theorem zvZ:zfI 65:=fun q S m w h z=>(zve q S m false w h (zkB z.1 z.2) (fun t=>by have:=(zkA t z.2).2;have:=z.1;omega)).mono fun _ _ k=>⟨zpz k.1,k.2⟩
theorem zwa:zfJ 29:=fun _ S m w h _ q=>zvm S m false w (RowAt.of (f:=imL) (m:=3) (fun _=>rfl) h.im) (RowAt.of (f:=epL) (m:=4) (fun _=>rfl) h.ep) (RowAt.of (f:=smL) (m:=3) (fun _=>rfl) h.st) (RowAt.of (f:=exL) (m:=6) (fun _=>rfl) h.ex) q.parts.im q.parts.ep q.parts.st q.parts.ex
theorem zwb {m:Md} (h:zbv m<=1048576):zhb m:=by
 unfold zbv at h;refine⟨fun x q=>?_,fun x q=>?_,fun x q=>?_,fun x q=>?_⟩
 ·have:=zdt (c:=zca) q;have e:zca x=x.spec.size+x.first.size+x.loc.size:=rfl;unfold maxLen;omega
 ·have:=zdt (c:=zcu) q;have e:zcu x=x.name.size:=rfl;unfold maxLen;omega
 ·have:=zdt (c:=zcb) q;have e:zcb x=x.name.size+x.loc.size+x.spec.size:=rfl;unfold maxLen;omega
 ·have:=zdt (c:=zcJ) q;have e:zcJ x=x.name.size+x.field.size:=rfl;unfold maxLen;omega
theorem zwc:zfJ 66:=fun _ S m w h z q=>zvX S m false w (RowAt.of (f:=imL) (m:=3) (fun _=>rfl) h.im) (RowAt.of (f:=epL) (m:=4) (fun _=>rfl) h.ep) (RowAt.of (f:=smL) (m:=3) (fun _=>rfl) h.st) (RowAt.of (f:=exL) (m:=6) (fun _=>rfl) h.ex) q.parts.im q.parts.ep q.parts.st q.parts.ex (zwb z.1) q.parts.fair
def RchF (ls:List Lk) (m j:Nat):Prop:=∀S:Nat->Prop,S m->(∀l∈ls,S l.frm.toNat->S l.to.toNat)->S j
theorem RchF.self (ls:List Lk) (m:Nat):RchF ls m m:=fun _ h _=>h
theorem RchF.link {ls:List Lk} {m:Nat} {l:Lk} (w:l∈ls) (h:RchF ls m l.frm.toNat):RchF ls m l.to.toNat:=fun S z q=>q l w (h S z q)
def zay (n m:Nat):List Bool:=(List.replicate n false).set m true
theorem zhh (n m:Nat):(zay n m).length=n:=by rw[zay,List.length_set,List.length_replicate]
theorem ziR {n m j:Nat} (h:(zay n m)[j]? =some true):j=m:=by
 unfold zay at h;rw[List.getElem?_set] at h
 split at h
 ·next e=>exact e.symm
 ·rw[List.getElem?_replicate] at h
  split at h<;>cases h
theorem zhi {n m:Nat} (h:m<n):(zay n m)[m]? =some true:=by
 unfold zay;rw[List.getElem?_set,if_pos rfl,if_pos (by rw[List.length_replicate];exact h)]
theorem zwd {n m:Nat} (h:m<n):1<=zE (zay n m):=by
 unfold zE;exact List.count_pos_iff.2 (List.mem_of_getElem? (zhi h))
def zhj (ls:List Lk) (n:Nat):Prop:=∀l∈ls,l.frm.toNat<n/\l.to.toNat<n
theorem zwe {ls:List Lk} {n m:Nat} (H:m<n) (w:zhj ls n) (j:Nat):(zai ls n (zay n m))[j]? =some true↔RchF ls m j:=by
 have z:=zhh n m;constructor
 ·intro h S L K;exact zhN (S:=S) K n (zay n m) (fun k J=>by rw[ziR J];exact L) j h
 ·intro h;have q:=zfA ls n (zay n m);rw[z] at q;have A:zg5 ls (zai ls n (zay n m)):=by
   rcases zkl ls n (zay n m) with k|k
   ·exact k
   ·have:=zdN (zai ls n (zay n m));have:=zwd H;omega
  exact h (fun j=>(zai ls n (zay n m))[j]? =some true) ((zhM ls n (zay n m)).2 m (zhi H)) fun l I M=>A l I M (by rw[q];exact (w l I).2)
theorem zwf {b c:List Bool} (w:b.length=c.length) (h: ∀j:Nat,b[j]? =some true↔c[j]? =some true):b=c:=zkk ⟨w,fun j q=>(h j).1 q⟩ ⟨w.symm,fun j q=>(h j).2 q⟩
def zdz (a:Nat) (s:List Bool×List Nat) (l:Lk):List Bool×List Nat:=if l.frm=(a:Int)/\s.1.getD l.to.toNat true=false then (s.1.set l.to.toNat true,s.2++[l.to.toNat]) else s
def zxr (ls:List Lk) (a:Nat) (s:List Bool×List Nat):List Bool×List Nat:=ls.foldl (zdz a) s
structure WkP (ls:List Lk) (n m a:Nat) (s:List Bool×List Nat):Prop where
 len:s.1.length=n
 self:s.1[m]? =some true
 at':s.1[a]? =some true
 low: ∀k∈s.2,s.1[k]? =some true
 sound: ∀j:Nat,s.1[j]? =some true->RchF ls m j
 shut: ∀j:Nat,s.1[j]? =some true->j=a∨j∈s.2∨∀l∈ls,l.frm.toNat=j->s.1[l.to.toNat]? =some true
 cnt:s.2.length<=zE s.1
theorem WkP.start {ls:List Lk} {n m:Nat} (q:m<n):WkP ls n m m (zay n m,[]):=
 ⟨zhh n m,zhi q,zhi q,fun k w=>(by cases w),fun j h=>by rw[ziR h];exact .self ls m,fun j h=>.inl (ziR h),Nat.zero_le _⟩
structure WkK (ls:List Lk) (n m a:Nat) (s0:List Bool×List Nat) (k:Nat) (s:List Bool×List Nat):Prop where
 wk:WkP ls n m a s
 le:LeB s0.1 s.1
 done: ∀l∈ls.take k,l.frm.toNat=a->s.1[l.to.toNat]? =some true
 meas:s.2.length+zE s0.1=s0.2.length+zE s.1
theorem zmK {b:List Bool} {k:Nat} (h:k<b.length):b.getD k true=false↔b[k]? =some false:=by
 rw[List.getD,List.getElem?_eq_getElem h];simp
theorem WkK.next {ls:List Lk} {n m a k:Nat} {Z s:List Bool×List Nat} {l:Lk} (O:zhj ls n) (hz: ∀l∈ls,0<=l.frm) (X:ls[k]? =some l) (h:WkK ls n m a Z k s):WkK ls n m a Z (k+1) (zdz a s l):=by
 have U:=List.mem_of_getElem? X;have aa:=(O l U).2;have J:=h.wk.len;obtain⟨M,N⟩:=List.getElem?_eq_some_iff.1 X;have Y: ∀x∈ls.take (k+1),x∈ls.take k∨x=l:=fun x w=>by
  rw[List.take_succ_eq_append_getElem M] at w;rcases List.mem_append.1 w with w|w
  ·exact .inl w
  ·exact .inr (by rw[<-N];exact List.mem_singleton.1 w)
 by_cases K:l.frm=(a:Int)/\s.1.getD l.to.toNat true=false
 ·have hf:=(zmK (by omega)).1 K.2;have V:zdz a s l=(s.1.set l.to.toNat true,s.2++[l.to.toNat]):=if_pos K;have I:=LeB.set s.1 l.to.toNat;have z:(s.1.set l.to.toNat true)[l.to.toNat]? =some true:=by rw[List.getElem?_set,if_pos rfl,if_pos (by omega)]
  have A:l.frm.toNat=a:=by rw[K.1,Int.toNat_natCast]
  rw[V];refine⟨⟨by rw[List.length_set];exact J,I.2 _ h.wk.self,I.2 _ h.wk.at',fun j q=>?_,fun j q=>?_,fun j q=>?_,?_⟩,h.le.trans I,fun x w e=>?_,?_⟩
  ·rcases List.mem_append.1 q with q|q
   ·exact I.2 _ (h.wk.low j q)
   ·rw[List.mem_singleton.1 q];exact z
  ·have q:(s.1.set l.to.toNat true)[j]? =some true:=q;rw[List.getElem?_set] at q
   split at q
   ·next e=>rw[<-e];exact .link U (by rw[A];exact h.wk.sound a h.wk.at')
   ·exact h.wk.sound j q
  ·have q:(s.1.set l.to.toNat true)[j]? =some true:=q;rw[List.getElem?_set] at q
   split at q
   ·next e=>exact .inr (.inl (List.mem_append_right _ (List.mem_singleton.2 e.symm)))
   ·rcases h.wk.shut j q with e|e|e
    ·exact .inl e
    ·exact .inr (.inl (List.mem_append_left _ e))
    ·exact .inr (.inr fun x w L=>I.2 _ (e x w L))
  ·have:=h.wk.cnt;have e:=zg6 hf;show (s.2++[l.to.toNat]).length<=zE (s.1.set l.to.toNat true);rw[e,List.length_append,List.length_singleton];omega
  ·rcases Y x w with w|rfl
   ·exact I.2 _ (h.done x w e)
   ·exact z
  ·have:=h.meas;have e:=zg6 hf;show (s.2++[l.to.toNat]).length+_=_+zE (s.1.set l.to.toNat true);rw[e,List.length_append,List.length_singleton];omega
 ·have V:zdz a s l=s:=if_neg K;rw[V];refine⟨h.wk,h.le,fun x w e=>?_,h.meas⟩;rcases Y x w with w|rfl
  ·exact h.done x w e
  ·have A:x.frm=(a:Int):=by have:=hz x U;omega
   have H: ¬s.1.getD x.to.toNat true=false:=fun k=>K ⟨A,k⟩;rw[zmK (by omega),List.getElem?_eq_getElem (by omega)] at H;rw[List.getElem?_eq_getElem (by omega)];cases hb:s.1[x.to.toNat] with
   |true=>rfl
   |false=>rw[hb] at H;exact absurd rfl H
theorem WkK.first {ls:List Lk} {n m a:Nat} {s:List Bool×List Nat} (h:WkP ls n m a s):WkK ls n m a s 0 s:=⟨h,.refl _,fun x q=>(by cases q),rfl⟩
theorem WkK.over {ls:List Lk} {n m a:Nat} {I s:List Bool×List Nat} (z:m<n) (q:zhj ls n) (h:WkK ls n m a I ls.length s) (A:s.2=[]):s.1=zai ls n (zay n m):=by
 refine zwf (by rw[zfA,zhh];exact h.wk.len) fun j=>?_;rw[zwe z q];refine⟨h.wk.sound j,fun H=>H (fun j=>s.1[j]? =some true) h.wk.self fun l w J=>?_⟩;rcases h.wk.shut _ J with e|e|e
 ·exact h.done l (by rw[List.take_length];exact w) e
 ·rw[A] at e;cases e
 ·exact e l w rfl
theorem WkK.pop {ls:List Lk} {n m a b:Nat} {J s:List Bool×List Nat} {z:List Nat} (h:WkK ls n m a J ls.length s) (q:s.2=z++[b]):WkP ls n m b (s.1,z):=by
 have K:b∈s.2:=by rw[q];exact List.mem_append_right _ (List.mem_singleton.2 rfl)
 refine⟨h.wk.len,h.wk.self,h.wk.low b K,fun k A=>h.wk.low k (by rw[q];exact List.mem_append_left _ A),h.wk.sound,fun j I=>?_,by have:=h.wk.cnt;rw[q,List.length_append] at this;show z.length<=zE s.1;omega⟩;rcases h.wk.shut j I with e|e|e
 ·exact .inr (.inr fun l H w=>h.done l (by rw[List.take_length];exact H) (w.trans e))
 ·rw[q] at e;rcases List.mem_append.1 e with e|e
  ·exact .inr (.inl e)
  ·exact .inl (List.mem_singleton.1 e)
 ·exact .inr (.inr e)
def GrC (f:FuncId):Prop:=∀(base:Nat) (G:GS) (g:Gr) (w:World),GrOwn w base G g->GdG g->Calls prog f #[grD G g] w fun e w'=>SameOut (GrS g) e/\Below w.heap.size w w'
def zbB (g:Gr) (a b:Nat):Bool:=(zai g.ls g.ms.length (zay g.ms.length a)).getD b false
theorem GrS.links {g:Gr} (h:GrS g): ∀l∈g.ls,0<=l.frm/\l.frm<(g.ms.length:Int)/\0<=l.to/\l.to<(g.ms.length:Int):=by
 intro l z;obtain⟨i,I⟩:=List.mem_iff_getElem?.1 z;obtain⟨A,q,H,w,_⟩:=h.2.2.2.2.1.2 i l I;rw[zck] at q w;exact⟨A,q,H,w⟩
theorem zmL {g:Gr} {a b:Nat} (q:b<g.ms.length):(zai g.ls g.ms.length (zay g.ms.length a))[b]? =some (zbB g a b):=by
 have h:b<(zai g.ls g.ms.length (zay g.ms.length a)).length:=by rw[zfA,zhh];exact q
 rw[zbB,List.getD,List.getElem?_eq_getElem h];rfl
def zhk (g:Gr):Prop:=GrS g/\∀l∈g.ls,zbB g l.to.toNat l.frm.toNat=false
theorem zmM {g:Gr} {i:Nat} {l:Lk} (h: ∀j x,j<i->g.ls[j]? =some x->zbB g x.to.toNat x.frm.toNat=false) (w:g.ls[i]? =some l) (z:zbB g l.to.toNat l.frm.toNat=false): ∀j x,j<i+1->g.ls[j]? =some x->zbB g x.to.toNat x.frm.toNat=false:=by
 intro j x A q;by_cases e:j=i
 ·subst e;rw[w] at q;cases q;exact z
 ·exact h j x (by omega) q
def OwnBl (w:World) (base g n:Nat) (b:List Bool):Prop:=OwnR w base 4 1 ⟨some ⟨g,0,none⟩,n⟩ n (b.map .bool)
theorem OwnBl.len {w:World} {base g n:Nat} {b:List Bool} (h:OwnBl w base g n b):b.length=n:=by have:=h.1;rw[List.length_map] at this;omega
theorem OwnBl.cell {w:World} {base g n:Nat} {b:List Bool} (h:OwnBl w base g n b) {j:Nat} {v:Bool} (q:b[j]? =some v):w.cell? ⟨g,j,none⟩=some (.bool v):=by
 have H:=h.len;have A:=(List.getElem?_eq_some_iff.1 q).1;have z:w.ownsRow base 4 1 (.slice (some ⟨g,0,none⟩) n n) n (b.map .bool):=h;rw[z.cellAt j (by omega),List.getElem?_map,q];rfl
theorem OwnBl.free {w:World} {base g n:Nat} {b:List Bool} (h:OwnBl w base g n b) (j:Nat):w.frozen? ⟨g,j,none⟩=false:=by
 have q:w.ownsRow base 4 1 (.slice (some ⟨g,0,none⟩) n n) n (b.map .bool):=h;exact q.frozenAt j
theorem OwnBl.set {w:World} {base g n:Nat} {b:List Bool} (h:OwnBl w base g n b) (j:Nat) (v:Bool):OwnBl (w.setCell ⟨g,j,none⟩ (.bool v)) base g n (b.set j v):=by
 have q:w.ownsRow base 4 1 (.slice (some ⟨g,0,none⟩) n n) n (b.map .bool):=h;unfold OwnBl OwnR;rw[List.map_set];exact (q.stored j (.bool v)).1
theorem OwnBl.later {w w':World} {base g n:Nat} {b:List Bool} (h:OwnBl w base g n b) (q:Below w.heap.size w w'):OwnBl w' base g n b:=OwnR.later h q
theorem OwnBl.at {w:World} {base g n:Nat} {b:List Bool} (h:OwnBl w base g n b):base<=g/\g<w.heap.size:=⟨(h.typed rfl).1,(h.typed rfl).2.1⟩
theorem OwnBl.block {w:World} {base g n:Nat} {b:List Bool} (h:OwnBl w base g n b): ∃q,w.heap[g]? =some (.cells q 4 (0,0)):=(h.typed rfl).2.2
def ziS (w:World) (n:Nat) (b:List Bool) (e:Ending) (w':World):Prop:=∃g,e= .returned (.slice (some ⟨g,0,none⟩) n n)/\OwnBl w' w.heap.size g n b/\Below w.heap.size w w'
theorem Tryz.infoBl:(prog.info? 4).map (fun i=>(i.zero,i.size,i.bytes))=some (some (.bool false),1,1):=by kernel_rfl
structure RchW (w W:World) (G:GS) (g:Gr) (gx gb n:Nat) (b:List Bool):Prop where
 x:Bk W gx (grC G g) 32
 r:OwnBl W w.heap.size gb n b
 ne:gx≠gb
 b:Below w.heap.size w W
theorem RchW.set {w W:World} {G:GS} {g:Gr} {z q n:Nat} {b:List Bool} (h:RchW w W G g z q n b) (j:Nat):RchW w (W.setCell ⟨q,j,none⟩ (.bool true)) G g z q n (b.set j true):=
 ⟨(heap_setCell_other W ⟨q,j,none⟩ z (.bool true) h.ne).trans h.x,h.r.set j true,h.ne,h.b.setCell h.r.at.1 _⟩
theorem zmN {ls:List Lk} {i:Nat} {l:Lk} (h:ls[i]? =some l) (b:List Bool):zbf (ls.take (i+1)) b=zbM (zbf (ls.take i) b) l:=by
 obtain⟨q,rfl⟩:=List.getElem?_eq_some_iff.1 h;rw[List.take_succ_eq_append_getElem q,zbf,List.foldl_append];rfl
theorem zwg (base:Nat) (G:GS) (g:Gr) (w:World) (ho:GrOwn w base G g) (hn:1<=g.ms.length) (aw:g.ms.length<=8) (hl:g.ls.length<=1048576) (hr: ∀l∈g.ls,0<=l.frm/\l.frm<(g.ms.length:Int)/\0<=l.to/\l.to<(g.ms.length:Int)):
  Calls prog 30 #[grD G g] w fun e w'=>ziS w g.ms.length (zai g.ls g.ms.length (zaX g.ms.length)) e w':=by
 have HR:=zc (RowAt.of (f:=lkL) (m:=3) (fun _=>rfl) ho.ls);have HC:=zc hr;clear ho hr;obtain⟨i0,hi,ah,al,aj⟩:=info_parts Tryz.infoBl;unfold grD;go_enter func30,ntmps30;go_upto_region 1 with fail;obtain⟨z,N⟩: ∃z,z=w.heap.size:=⟨_,rfl⟩;rw[<-N];refine zx (R:=fun W=>Bk W z (grC G g) 32/\Below w.heap.size w W) (by rw[N];exact⟨heap_alloc_new w _,zaB w _⟩) ?_;rintro W0 ⟨hx,hb⟩;have au:w.heap.size<=z:=by omega
 clear N;have X0:=zc hx;have U:=zc hb;have ag:z<W0.heap.size:=(aLt hx);clear hx hb;obtain⟨c0,c1,L,cf⟩:=zo X0.o;go_wp2_with (first|(at_make;refine wpList_make_full W0 rfl _ _ 58 rfl w.heap.size 4 i0 _ 1 underlying58 hi ah al .i64 .i64 _ _ g.ms.length (by rfl) (by rfl) rfl rfl (by rw[aj];omega) (by unfold maxLen;omega) U.o.size ?_));intro w1 q K;have Z:Below W0.heap.size W0 w1:=(Below.refl _ _).grown K (Nat.le_refl _) (fun k h=>by cases h);obtain⟨J,Y⟩: ∃J,J=W0.heap.size:=⟨_,rfl⟩;have RR:Hid (RchW w w1 G g z J g.ms.length (List.replicate g.ms.length false)):=by
  refine⟨X0.o.later Z,?_,by omega,zaf U.o Z⟩;unfold OwnBl OwnR;rw[toList_madeCells_one] at q;rw[Y,List.map_replicate];exact q
 rw[<-Y];clear q K Z Y X0 U ag c0 c1 L cf;obtain⟨c0,c1,L,cf⟩:=zo RR.o.x;have f0:=RR.o.r.free 0;have b0:=RR.o.r.cell (j:=0) (v:=false) (by rw[List.getElem?_replicate,if_pos (by omega)]);have aq:(0:Int)<(g.ms.length:Int):=by omega
 have R1:=zc (RR.o.set 0);go_upto_region 3 with fail;obtain⟨w2,aa⟩: ∃w2,w2=w1.setCell ⟨J,0,none⟩ (.bool true):=⟨_,rfl⟩;rw[<-aa] at R1 ⊢;clear aa RR f0 b0 c0 c1 L cf;have am:(List.replicate g.ms.length false).length=g.ms.length:=List.length_replicate ..;change Hid (RchW w w2 G g z J g.ms.length (zaX g.ms.length)) at R1;go_wp2;go_loopg [4,5] g.ms.length (fun k s4 s5 wr=>∃r:Nat,s4= .int .i64 r/\r+k=g.ms.length/\RchW w wr G g z J g.ms.length (zai g.ls r (zaX g.ms.length)))
 case atStart=>exact⟨0,rfl,by omega,R1.o⟩
 case round=>
  obtain⟨r,rfl,hr,hw⟩:=hrel;have RW:=zc hw;clear hw R1;obtain⟨c0,c1,L,cf⟩:=zo RW.o.x;by_cases ao:r<g.ms.length
  ·have ad:(r:Int)<(g.ms.length:Int):=by omega
   obtain⟨r1,ab⟩: ∃r1,r1=r+1:=⟨_,rfl⟩;have er:(r:Int)+1=(r1:Int):=by omega
   have O:=zc ab;clear ab;go_wp2;clear c0 c1 L cf;go_loopg [5] g.ls.length (fun k s5 wq=>∃i:Nat,s5= .int .i64 i/\i+k=g.ls.length/\RchW w wq G g z J g.ms.length (zbf (g.ls.take i) (zai g.ls r (zaX g.ms.length))))
   case atStart=>exact⟨0,rfl,by omega,RW.o⟩
   case round=>
    obtain⟨i,rfl,an,hw⟩:=hrel;have A:=zc hw;clear hw;obtain⟨c0,c1,L,cf⟩:=zo A.o.x;by_cases ak:i<g.ls.length
    ·have af:(i:Int)<(g.ls.length:Int):=by omega
     obtain⟨l,I⟩: ∃l,g.ls[i]? =some l:=⟨_,List.getElem?_eq_getElem ak⟩;obtain⟨y0,y1,y2,y3⟩:=HC.o l (List.mem_of_getElem? I);obtain⟨bl,ap,ae,hc⟩:=(HR.o.later A.o.b).get I;have k0:=hc 0 _ rfl;have k2:=hc 2 _ rfl;have HN:=zc (zmN I (zai g.ls r (zaX g.ms.length)));simp only[Nat.add_zero] at k0;clear hc I;obtain⟨fr,X⟩: ∃fr:Nat,l.frm=fr:=⟨l.frm.toNat,by omega⟩;obtain⟨V,M⟩: ∃V:Nat,l.to=V:=⟨l.to.toNat,by omega⟩;obtain⟨b,hb⟩: ∃b,b=zbf (g.ls.take i) (zai g.ls r (zaX g.ms.length)):=⟨_,rfl⟩;rw[<-hb] at A HN;clear hb;have ai:=A.o.r.len;obtain⟨v,hv⟩: ∃v,b[fr]? =some v:=⟨_,List.getElem?_eq_getElem (by omega)⟩;obtain⟨u,hu⟩: ∃u,b[V]? =some u:=⟨_,List.getElem?_eq_getElem (by omega)⟩;have HS:Hid (zbM b l=if v=true then b.set V true else b):=by
      show zbM b l=_;unfold zbM;rw[X,M,Int.toNat_natCast,Int.toNat_natCast,List.getD,hv];rfl
     have b0:=A.o.r.cell hv;have b1:=A.o.r.cell hu;have f1:=A.o.r.free V;have ar:(fr:Int)<(g.ms.length:Int):=by omega
     have av:(V:Int)<(g.ms.length:Int):=by omega
     have Q1:=zc (A.o.set V);rw[X] at k0;rw[M] at k2;rw[ae] at L;clear X M ae hv hu ai y0 y1 y2 y3;obtain⟨i1,ac⟩: ∃i1,i1=i+1:=⟨_,rfl⟩;have ei:(i:Int)+1=(i1:Int):=by omega
     have H:=zc ac;clear ac;cases v with
     |true=>
      go_wp2;go_roundg (gk-1)
      case rel=>exact⟨i1,rfl,by have:=H.o;omega,by rw[H.o,HN.o,HS.o];exact Q1.o⟩
      case measure=>omega
     |false=>
      go_wp2;go_roundg (gk-1)
      case rel=>exact⟨i1,rfl,by have:=H.o;omega,by rw[H.o,HN.o,HS.o];exact A.o⟩
      case measure=>omega
    ·have af: ¬(i:Int)<(g.ls.length:Int):=by omega
     have QE:Hid (RchW w wr G g z J g.ms.length (zai g.ls r1 (zaX g.ms.length))):=by
      show RchW ..;rw[O.o,zhL];have:=A.o;rw[List.take_of_length_le (by omega)] at this;exact this
     go_wp2;go_roundg (g.ms.length-r1)
     case rel=>exact⟨r1,rfl,by have:=O.o;omega,QE.o⟩
     case measure=>have:=O.o;omega
  ·have ad: ¬(r:Int)<(g.ms.length:Int):=by omega
   obtain rfl:r=g.ms.length:=by omega
   go_wp2;go_ret;exact⟨J,rfl,RW.o.r,RW.o.b⟩
structure GrW (w W:World) (G:GS) (g:Gr) (gx:Nat):Prop where
 x:Bk W gx (grC G g) 32
 b:Below w.heap.size w W
theorem GrW.later {w W z:World} {G:GS} {g:Gr} {q:Nat} (h:GrW w W G g q) (A:Below W.heap.size W z):GrW w z G g q:=⟨h.x.later A,zaf h.b A⟩
theorem GrOwn.rows {w:World} {base:Nat} {G:GS} {g:Gr} (h:GrOwn w base G g):RowS w G.pr.a g.ps/\RowAt w G.mr.a mdL 5 (G.sv.zip g.ms)/\RowAt w G.lr.a lkL 3 g.ls:=
 ⟨RowAt.of (f:=fun x=>[Value.string x]) (m:=1) (fun _=>rfl) h.ps,RowAt.of (f:=mdL) (m:=5) (fun _=>rfl) (zeQ h.len h.ms),RowAt.of (f:=lkL) (m:=3) (fun _=>rfl) h.ls⟩
def GrTo (g:Gr) (i:Nat):Prop:=(∀j,j<i->zeS g.ps j)/\∀(j:Nat) (m:Md),j<i->g.ms[j]? =some m->MOk m/\zar m=0
theorem GrTo.next {g:Gr} {i:Nat} {m:Md} (h:GrTo g i) (w:g.ms[i]? =some m) (H:zeS g.ps i) (A:MOk m) (I:zar m=0):GrTo g (i+1):=by
 refine⟨fun j z=>?_,fun j x z q=>?_⟩
 ·by_cases e:j=i
  ·rw[e];exact H
  ·exact h.1 j (by omega)
 ·by_cases e:j=i
  ·rw[e,w] at q;cases q;exact⟨A,I⟩
  ·exact h.2 j x (by omega) q
theorem zwh {g:Gr} {i:Nat} {m:Md} (w:i<g.ms.length) (q:g.ms[i]? =some m) (h: ¬(zeS g.ps i/\MOk m/\zar m=0)): ¬GrS g:=fun k=>h ⟨k.2.2.1 i w,k.2.2.2.1 m (List.mem_of_getElem? q)⟩
def zhl (g:Gr) (i:Nat) (l:Lk):Prop:=0<=l.frm/\l.frm<((zC g).length:Int)/\0<=l.to/\l.to<((zC g).length:Int)/\(∃s∈(zC g).getD l.frm.toNat [],s.toList=l.spec.toList)/\∀(k:Nat) (x:Lk),k<i->g.ls[k]? =some x->zT x≠zT l
def LkTo (g:Gr) (i:Nat):Prop:=∀(j:Nat) (l:Lk),j<i->g.ls[j]? =some l->zhl g j l
theorem LkTo.next {g:Gr} {i:Nat} {l:Lk} (h:LkTo g i) (z:g.ls[i]? =some l) (w:zhl g i l):LkTo g (i+1):=by
 intro j x A q;by_cases e:j=i
 ·rw[e,z] at q;cases q;rw[e];exact w
 ·exact h j x (by omega) q
theorem ziT {g:Gr} {i:Nat} {l:Lk} (q:g.ls[i]? =some l) (h: ¬zhl g i l): ¬GrS g:=fun k=>h (k.2.2.2.2.1.2 i l q)
theorem zwi {g:Gr} {i:Nat} {l:Lk} (H:g.ls[i]? =some l):
  (decide (l.frm<0)=true/\¬GrS g)∨(decide (l.frm<0)=false/\((decide ((g.ms.length:Int)<=l.frm)=true/\¬GrS g)∨(decide ((g.ms.length:Int)<=l.frm)=false/\((decide (l.to<0)=true/\¬GrS g)∨(decide (l.to<0)=false/\((decide ((g.ms.length:Int)<=l.to)=true/\¬GrS g)∨decide ((g.ms.length:Int)<=l.to)=false)))))):=by
 have h:=ziT H;unfold zhl at h;rw[zck] at h;by_cases z:l.frm<0
 ·exact .inl ⟨decide_eq_true z,h fun k=>by omega⟩
 ·refine .inr ⟨decide_eq_false z,?_⟩;by_cases q:(g.ms.length:Int)<=l.frm
  ·exact .inl ⟨decide_eq_true q,h fun k=>by omega⟩
  ·refine .inr ⟨decide_eq_false q,?_⟩;by_cases A:l.to<0
   ·exact .inl ⟨decide_eq_true A,h fun k=>by omega⟩
   ·refine .inr ⟨decide_eq_false A,?_⟩;by_cases w:(g.ms.length:Int)<=l.to
    ·exact .inl ⟨decide_eq_true w,h fun k=>by omega⟩
    ·exact .inr (decide_eq_false w)
theorem zwj (x l:Lk):(x.frm=l.frm/\(x.spec.toList==l.spec.toList)=true/\zT x=zT l)∨(x.frm=l.frm/\(x.spec.toList==l.spec.toList)=false/\zT x≠zT l)∨(¬x.frm=l.frm/\zT x≠zT l):=by
 by_cases h:x.frm=l.frm
 ·cases q:(x.spec.toList==l.spec.toList) with
  |true=>exact .inl ⟨h,rfl,by unfold zT;rw[h,eq_of_beq q]⟩
  |false=>exact .inr (.inl ⟨h,rfl,fun e=>by rw[(Prod.mk.inj e).2] at q;simp at q⟩)
 ·exact .inr (.inr ⟨h,fun e=>h (Prod.mk.inj e).1⟩)
theorem zwk {ls:List Lk} {j:Nat} {x l:Lk} (h: ∀(k:Nat) (x:Lk),k<j->ls[k]? =some x->zT x≠zT l) (w:ls[j]? =some x) (z:zT x≠zT l): ∀(k:Nat) (x:Lk),k<j+1->ls[k]? =some x->zT x≠zT l:=by
 intro k y A q;by_cases e:k=j
 ·rw[e,w] at q;cases q;exact z
 ·exact h k y (by omega) q
theorem zwl {g:Gr} {i:Nat} {m:Md} {p:BA} (M:i<g.ms.length) (A:g.ms[i]? =some m) (K:g.ps.getD i sNone=p) (L:GrTo g i):
  (p.toList.isEmpty=true/\¬GrS g)∨(p.toList.isEmpty=false/\((((zaK p).toList==p.toList)=false/\¬GrS g)∨(((zaK p).toList==p.toList)=true/\((inL (g.ps.take i) p=true/\¬GrS g)∨(inL (g.ps.take i) p=false/\((¬MOk m/\¬GrS g)∨(MOk m/\((¬zar m=0/\¬GrS g)∨(zar m=0/\GrTo g (i+1)))))))))):=by
 have h:=zwh M A;have q:=fun a b c=>L.next A a b c;unfold zeS at h q;rw[K] at h q;cases I:p.toList.isEmpty with
 |true=>exact .inl ⟨rfl,h fun k=>by rw[I] at k;exact absurd k.1.1 (by decide)⟩
 |false=>
  refine .inr ⟨rfl,?_⟩;cases H:((zaK p).toList==p.toList) with
  |false=>exact .inl ⟨rfl,h fun k=>by rw[H] at k;exact absurd k.1.2.1 (by decide)⟩
  |true=>
   refine .inr ⟨rfl,?_⟩;cases J:inL (g.ps.take i) p with
   |true=>exact .inl ⟨rfl,h fun k=>by rw[J] at k;exact absurd k.1.2.2 (by decide)⟩
   |false=>
    refine .inr ⟨rfl,?_⟩;by_cases w:MOk m
    ·refine .inr ⟨w,?_⟩;by_cases z:zar m=0
     ·exact .inr ⟨z,q ⟨I,H,J⟩ w z⟩
     ·exact .inl ⟨z,h fun k=>z k.2.2⟩
    ·exact .inl ⟨w,h fun k=>w k.2.1⟩
theorem zwm (ai:zfI 28) (ag:zfJ 29) (base:Nat) (G:GS) (g:Gr) (w:World) (ho:GrOwn w base G g) (hg:GdG g):
  Calls prog 8 #[grD G g] w fun e w'=>SameOut (GrS g) e/\Below w.heap.size w w':=by
 have HO:=zc ho;have HG:=zc hg;have CM:=zc ai;have CE:=zc ag;have aP:=hg.pl;have aN:=hg.ml;have aH:=hg.ll;clear ho hg ai ag;unfold grD;go_enter func8,ntmps8;go_upto_region 1 with fail;obtain⟨gx,aj⟩: ∃gx,gx=w.heap.size:=⟨_,rfl⟩;rw[<-aj];refine zx (R:=fun W=>GrW w W G g gx) (by rw[aj];exact⟨heap_alloc_new w _,zaB w _⟩) ?_;intro W0 hW;have X0:=zc hW;clear hW aj;obtain⟨c0,c1,c2,cf⟩:=zo X0.o.x;by_cases hn:1<=g.ms.length/\g.ms.length<=8
 case neg=>
  have HN:Hid (¬GrS g):=fun k=>hn k.1;have H:inB (g.ms.length:Int) 1 8=false:=by unfold inB;simp;omega
  go_wp2_with (first|(go_at_call 25;refine (zfi _ _ _ _).mono ?_;rintro e w' ⟨rfl,rfl⟩;rw[H]));go_ret;exact⟨zbx HN.o rfl,X0.o.b⟩
 have H:inB (g.ms.length:Int) 1 8=true:=by unfold inB;simp;omega
 obtain⟨an,aq⟩:=hn;by_cases hp:g.ps.length=g.ms.length
 case neg=>
  have HN:Hid (¬GrS g):=fun k=>hp k.2.1;have aD: ¬(g.ps.length:Int)=(g.ms.length:Int):=by omega
  go_wp2_with (first|(go_at_call 25;refine (zfi _ _ _ _).mono ?_;rintro e w' ⟨rfl,rfl⟩;rw[H]));go_ret;exact⟨zbx HN.o rfl,X0.o.b⟩
 have aD:(g.ps.length:Int)=(g.ms.length:Int):=by omega
 go_wp2_with (first|(go_at_call 25;refine (zfi _ _ _ _).mono ?_;rintro e w' ⟨rfl,rfl⟩;rw[H]));have am:Hid (∀k,zaq ((zC g).take k)<=1048576):=fun k=>Nat.le_trans (zib _ _) HG.o.rq;clear c0 c1 c2 cf H;go_loopg [4,5] g.ms.length (fun k s4 s5 wr=>∃i:Nat,s5= .int .i64 i/\s4= .int .i64 (zaq ((zC g).take i):Nat)/\i+k=g.ms.length/\GrTo g i/\GrW w wr G g gx)
 case atStart=>exact⟨0,rfl,rfl,by omega,⟨fun j hj=>absurd hj (Nat.not_lt_zero j),fun j m hj=>absurd hj (Nat.not_lt_zero j)⟩,X0.o⟩
 case round=>
  obtain⟨i,rfl,rfl,hi,ht,hw⟩:=hrel;have X:=zc hw;have TO:=zc ht;clear hw ht X0;have aL:=am.o i;by_cases ae:i<g.ms.length
  ·have ac:(i:Int)<(g.ms.length:Int):=by omega
   have aI:(i:Int)<(g.ps.length:Int):=by omega
   obtain⟨p,af⟩: ∃p,g.ps[i]? =some p:=⟨_,List.getElem?_eq_getElem (by omega)⟩;obtain⟨m,hm⟩: ∃m,g.ms[i]? =some m:=⟨_,List.getElem?_eq_getElem ae⟩;obtain⟨S,hS⟩:=zdS HO.o.len hm;have OW:=zc (HO.o.later X.o.b);have OM:=zc (OW.o.md _ (List.mem_of_getElem? hS));have GM:=zc (HG.o.ms m (List.mem_of_getElem? hm));have HM:=zc hm;have PD:Hid (g.ps.getD i sNone=p):=by show _=_;rw[List.getD,af];rfl
   have RQ:Hid ((zC g)[i]? =some m.rq):=by show _=_;rw[zC,List.getElem?_map,hm];rfl
   obtain⟨b1,o1,e1,k1⟩:=OW.o.rows.1.get af;obtain⟨b2,o2,e2,k2⟩:=OW.o.rows.2.1.get hS;have aJ:(i:Int)<=(G.pr.cap:Int):=by have:=OW.o.ps.cap;omega
   have C0:=zc (k1 0 _ rfl);have D0:=zc (k2 0 _ rfl);have D1:=zc (k2 1 _ rfl);have D2:=zc (k2 2 _ rfl);have D3:=zc (k2 3 _ rfl);have D4:=zc (k2 4 _ rfl);have aC:p.size<=9223372036854775807:=by have:=HG.o.ps p (List.mem_of_getElem? af);omega
   have RT:Hid (RowS wr G.pr.a (g.ps.take i)):=OW.o.rows.1.take i;have aw:i=(g.ps.take i).length:=by rw[List.length_take];omega
   have cC: ∀d K,Calls prog 26 #[.string p] (grow (redrawn wr d) K) fun e J=>e= .returned (.string (zaK p))/\∃q:Regrown,J=grow (redrawn wr q.d) q.os:=fun d K=>Calls.regrown_of (zvR p _ aC);have cI: ∀d K,Calls prog 27 #[.slice (some ⟨b1,o1,none⟩) i G.pr.cap,.string p] (grow (redrawn wr d) K) fun e J=>e= .returned (.bool (inL (g.ps.take i) p))/\∃q:Regrown,J=grow (redrawn wr q.d) q.os:=fun d K=>Calls.regrown_of ((zfU (some ⟨b1,o1,none⟩) G.pr.cap i (g.ps.take i) p _ aw (e1▸RT.o.later (below_regrown wr d K)) (by omega)).mono fun e w' h=>⟨h.1,by rw[h.2];exact Below.refl _ _⟩);have cM: ∀(b:Bool),(b=true↔MOk m)->∀d K,Calls prog 28 #[zl S m,.bool false] (grow (redrawn wr d) K) fun e J=>e= .returned (.bool b)/\∃q:Regrown,J=grow (redrawn wr q.d) q.os:=fun b hb d K=>Calls.regrown_of ((CM.o base S m _ (OM.o.later (below_regrown wr d K)) GM.o).mono fun e w' h=>⟨h.1.of hb,h.2⟩);have cE:MOk m->∀d K,Calls prog 29 #[zl S m,.bool false] (grow (redrawn wr d) K) fun e J=>e= .returned (.int .i64 (zar m))/\∃q:Regrown,J=grow (redrawn wr q.d) q.os:=fun O d K=>Calls.regrown_of (CE.o base S m _ (OM.o.later (below_regrown wr d K)) GM.o O);unfold zl at cM cE;obtain⟨C1,C2,C3,cf⟩:=zo X.o.x;rw[e1] at C1;rw[e2] at C2;have Y1:=zc C1;have Y2:=zc C2;clear af hm hS k1 k2 e1 e2 C1 C2 C3 cf aw;have ar:=zwl ae HM.o PD.o TO.o;rcases ar with ⟨h1,A⟩|⟨h1,⟨h2,A⟩|⟨h2,⟨h3,A⟩|⟨h3,⟨h4,A⟩|⟨h4,⟨h5,A⟩|⟨h5,A⟩⟩⟩⟩⟩
   all_goals have HX:=zc A
   all_goals clear A
   case' inr.inr.inr.inr.inl=>
    have q1:decide (zar m=0)=false:=decide_eq_false h5;have q2:(zar m==0)=false:=q1;have q3:(zar m !=0)=true:=by rw[bne,q2];rfl
   all_goals (
    go_wp2;have z0:=cell_regrown C0.o;have z1:=cell_regrown Y1.o;have z2:=cell_regrown Y2.o;have d0:=cell_regrown D0.o;have d1:=cell_regrown D1.o;have d2:=cell_regrown D2.o;have d3:=cell_regrown D3.o;have d4:=cell_regrown D4.o;simp only[Nat.add_zero,Nat.mul_one] at z0 d0;refine wp_region_quiet_below (by kernel_rfl) (by kernel_rfl) ?_
    repeat (go_big_quiet_step (first|with_reducible exact cC _ _|with_reducible exact cI _ _|with_reducible exact cM true (iff_of_true rfl h4) _ _|with_reducible exact cM false (by simp[h4]) _ _|with_reducible exact cE h4 _ _))
    refine wpQuiet_nil ?_;intro w2 I;obtain⟨q,z⟩:=I;have Z:=zc (X.o.later (zdT z))
    clear z0 z1 z2 d0 d1 d2 d3 d4)
   all_goals first
    |(go_wp2;go_ret;exact⟨zbx HX.o rfl,Z.o.b⟩)
    |(
     have E1:w2.cell? ⟨gx,1,none⟩=some (.slice (some ⟨b2,o2,none⟩) g.ms.length G.mr.cap):=by rw[z];exact cell_regrown Y2.o _ _
     have E0:w2.cell? ⟨b2,o2+i*5,none⟩=some (.slice S.rq.a m.rq.length S.rq.cap):=by rw[z];exact cell_regrown D0.o _ _
     obtain⟨Y,M⟩: ∃Y,Y=i+1:=⟨_,rfl⟩;have ei:(i:Int)+1=(Y:Int):=by omega
     have aa:=zc M;have aM:(zaq ((zC g).take i):Int)+(m.rq.length:Int)=(zaq ((zC g).take Y):Nat):=by rw[M,zia RQ.o];omega
     have aQ:=am.o Y;clear M z cC cI cM cE;go_wp2;go_roundg (gk-1)
     case rel=>exact⟨Y,rfl,rfl,by have:=aa.o;omega,by rw[aa.o];exact HX.o,Z.o⟩
     case measure=>omega)
  ·have ac: ¬(i:Int)<(g.ms.length:Int):=by omega
   obtain rfl:i=g.ms.length:=by omega
   have HT:Hid (zaq ((zC g).take g.ms.length)=zaq (zC g)):=by show _=_;rw[List.take_of_length_le (by rw[zck];exact Nat.le_refl _)]
   obtain⟨c0,c1,c2,cf⟩:=zo X.o.x;by_cases U:zaq ((zC g).take g.ms.length)=g.ls.length
   case neg=>
    have HN:Hid (¬GrS g):=fun k=>U (HT.o.trans k.2.2.2.2.1.1);have ay: ¬((zaq ((zC g).take g.ms.length):Nat):Int)=(g.ls.length:Int):=by omega
    clear U;go_wp2;go_ret;exact⟨zbx HN.o rfl,X.o.b⟩
   have ay:((zaq ((zC g).take g.ms.length):Nat):Int)=(g.ls.length:Int):=by omega
   have aB:=zc U;clear U;go_wp2;have X1:=zc X.o;clear c0 c1 c2 cf X;go_loopg [6] g.ls.length (fun k s6 wr=>∃i:Nat,s6= .int .i64 i/\i+k=g.ls.length/\LkTo g i/\GrW w wr G g gx)
   case atStart=>exact⟨0,rfl,by omega,(fun j l hj=>absurd hj (Nat.not_lt_zero j)),X1.o⟩
   case round=>
    obtain⟨i,rfl,hi,ht,hw⟩:=hrel;have X:=zc hw;have LT:=zc ht;clear hw ht X1;obtain⟨c0,c1,c2,cf⟩:=zo X.o.x;by_cases ae:i<g.ls.length
    ·have ac:(i:Int)<(g.ls.length:Int):=by omega
     obtain⟨l,V⟩: ∃l,g.ls[i]? =some l:=⟨_,List.getElem?_eq_getElem ae⟩;have HL:=zc V;obtain⟨b1,o1,e1,k1⟩:=(HO.o.later X.o.b).rows.2.2.get V;have k0:=k1 0 _ rfl;have k2:=k1 2 _ rfl;have k3:=k1 1 _ rfl;simp only[Nat.add_zero] at k0;rw[e1] at c2;clear V k1;go_upto_region 17 with fail;obtain⟨gl,ak⟩: ∃gl,gl=wr.heap.size:=⟨_,rfl⟩;rw[<-ak];refine zx (R:=fun W=>GrW w W G g gx/\Bk W gl #[.int .i64 l.frm,.string l.spec,.int .i64 l.to] 57) ⟨X.o.later (zaB wr _),by rw[ak];exact heap_alloc_new wr _⟩ ?_;clear ak X k0 k2 k3 e1 c0 c1 c2 cf;rintro w1 ⟨A,V⟩;have X:=zc A;have L:=zc V;clear A V;have Z0:=zc (zo L.o).1;have Z1:=zc (zo L.o).2.1;have Z2:=zc (zo L.o).2.2.1;have Y1:=zc (zo X.o.x).2.1;have al:=zwi HL.o;rcases al with ⟨h1,A⟩|⟨h1,⟨h2,A⟩|⟨h2,⟨h3,A⟩|⟨h3,⟨h4,A⟩|h4⟩⟩⟩
     iterate 4
      ·have HX:=zc A;clear A;go_wp2;have z0:=cell_regrown Z0.o;have z2:=cell_regrown Z2.o;have N:=cell_regrown Y1.o;refine wp_region_quiet_below (by kernel_rfl) (by kernel_rfl) ?_
       repeat (go_big_quiet_step (fail))
       refine wpQuiet_nil ?_;intro w2 I;obtain⟨q,z⟩:=I;have Z:=zc (X.o.later (zdT z));go_wp2;go_ret;exact⟨zbx HX.o rfl,Z.o.b⟩
     have g1: ¬l.frm<0:=of_decide_eq_false h1;have g2: ¬(g.ms.length:Int)<=l.frm:=of_decide_eq_false h2;have g3: ¬l.to<0:=of_decide_eq_false h3;have g4: ¬(g.ms.length:Int)<=l.to:=of_decide_eq_false h4;obtain⟨m,hm⟩: ∃m,g.ms[l.frm.toNat]? =some m:=⟨_,List.getElem?_eq_getElem (by omega)⟩;obtain⟨S,hS⟩:=zdS HO.o.len hm;have OW:=zc (HO.o.later X.o.b);obtain⟨b2,o2,e2,k2⟩:=OW.o.rows.2.1.get hS;have D0:=zc (k2 0 _ rfl);have RS:=zc (RowS.of (OW.o.md _ (List.mem_of_getElem? hS)).rq);have aA:m.rq.length<=1048576:=by
      have:=(HG.o.ms m (List.mem_of_getElem? hm)).1;unfold zbv at this;omega
     have g5:0<=l.frm:=by omega
     have g6:l.frm<(g.ms.length:Int):=by omega
     have cI: ∀d K,Calls prog 27 #[.slice S.rq.a m.rq.length S.rq.cap,.string l.spec] (grow (redrawn w1 d) K) fun e J=>e= .returned (.bool (inL m.rq l.spec))/\∃q:Regrown,J=grow (redrawn w1 q.d) q.os:=fun d K=>Calls.regrown_of ((zfU S.rq.a S.rq.cap m.rq.length m.rq l.spec _ rfl (RS.o.later (below_regrown w1 d K)) aA).mono fun e w' h=>⟨h.1,by rw[h.2];exact Below.refl _ _⟩);have HI:Hid (inL m.rq l.spec=true↔∃s∈(zC g).getD l.frm.toNat [],s.toList=l.spec.toList):=by
      show _↔_;rw[List.getD,zC,List.getElem?_map,hm,zg7];exact⟨fun h=>⟨_,h,rfl⟩,fun⟨s,h,e⟩=>zkf e▸h⟩
     have N:=Y1.o;rw[e2] at N;have Y2:=zc N;have G3:Hid (0<=l.to/\l.to<(g.ms.length:Int)):=⟨by omega,by omega⟩;clear hm hS k2 e2 N g1 g2 g3 g4;cases H:inL m.rq l.spec with
     |false=>
      have HX:Hid (¬GrS g):=ziT HL.o fun k=>by rw[HI.o.2 k.2.2.2.2.1] at H;cases H
      go_wp2;have z0:=cell_regrown Z0.o;have z1:=cell_regrown Z1.o;have z2:=cell_regrown Z2.o;have N:=cell_regrown Y2.o;have d0:=cell_regrown D0.o;simp only[Nat.add_zero] at d0;refine wp_region_quiet_below (by kernel_rfl) (by kernel_rfl) ?_
      repeat (go_big_quiet_step (with_reducible exact cI _ _))
      refine wpQuiet_nil ?_;intro w2 I;obtain⟨q,z⟩:=I;have Z:=zc (X.o.later (zdT z));go_wp2;go_ret;exact⟨zbx HX.o rfl,Z.o.b⟩
     |true=>
      go_wp2;have z0:=cell_regrown Z0.o;have z1:=cell_regrown Z1.o;have z2:=cell_regrown Z2.o;have N:=cell_regrown Y2.o;have d0:=cell_regrown D0.o;simp only[Nat.add_zero] at d0;refine wp_region_quiet_below (by kernel_rfl) (by kernel_rfl) ?_
      repeat (go_big_quiet_step (with_reducible exact cI _ _))
      refine wpQuiet_nil ?_;intro w2 I;obtain⟨q,z⟩:=I;have Z:=zc (X.o.later (zdT z));have LE:=zc (L.o.later (zdT z));clear z z0 z1 z2 N d0;go_wp2;have aG:=zc H;clear X L Z0 Z1 Z2 Y1 Y2 D0 OW RS cI H h1 h2 h3 h4;have X2:=zc Z.o;have L2:=zc LE.o;clear Z LE;go_loopg [8] i (fun k s8 wr=>∃j:Nat,s8= .int .i64 j/\j+k=i/\(∀(k:Nat) (x:Lk),k<j->g.ls[k]? =some x->zT x≠zT l)/\GrW w wr G g gx/\Bk wr gl #[.int .i64 l.frm,.string l.spec,.int .i64 l.to] 57)
      case atStart=>exact⟨0,rfl,by omega,(fun k x O=>absurd O (Nat.not_lt_zero k)),X2.o,L2.o⟩
      case round=>
       obtain⟨j,rfl,hj,O,A,V⟩:=hrel;have X:=zc A;have L:=zc V;have KN:=zc O;clear A V O X2 L2;by_cases aF:j<i
       ·have au:(j:Int)<(i:Int):=by omega
        have aK:(j:Int)<(g.ls.length:Int):=by omega
        obtain⟨x,A⟩: ∃x,g.ls[j]? =some x:=⟨_,List.getElem?_eq_getElem (by omega)⟩;obtain⟨b1,o1,e1,k1⟩:=(HO.o.later X.o.b).rows.2.2.get A;have k0:=k1 0 _ rfl;have k3:=k1 1 _ rfl;obtain⟨c0,c1,c2,cf⟩:=zo X.o.x;obtain⟨d0,d1,d2,df⟩:=zo L.o;simp only[Nat.add_zero] at k0;rw[e1] at c2;have HX:=zc A;clear A k1 e1;obtain⟨j1,ab⟩: ∃j1,j1=j+1:=⟨_,rfl⟩;have ej:(j:Int)+1=(j1:Int):=by omega
        have ad:=zc ab;clear ab;have al:(x.frm=l.frm/\(x.spec.toList==l.spec.toList)=true/\zT x=zT l)∨(x.frm=l.frm/\(x.spec.toList==l.spec.toList)=false/\zT x≠zT l)∨(¬x.frm=l.frm/\zT x≠zT l):=zwj x l;have C2:=zc c2;have K0:=zc k0;have K3:=zc k3;have D0:=zc d0;have D1:=zc d1;clear c0 c1 c2 cf d0 d1 d2 df k0 k3;rcases al with ⟨N,y2,y3⟩|⟨N,y2,y3⟩|⟨N,y3⟩
        all_goals have Y3:=zc y3
        case' inl=>have q1:decide (x.frm=l.frm)=true:=decide_eq_true N
        case' inr.inl=>have q1:decide (x.frm=l.frm)=true:=decide_eq_true N
        case' inr.inr=>have q1:decide (x.frm=l.frm)=false:=decide_eq_false N
        all_goals (
         have q2:(x.frm==l.frm)=_:=q1;clear N y3;go_wp2;have z0:=cell_regrown C2.o;have z1:=cell_regrown K0.o;have z2:=cell_regrown K3.o;have z3:=cell_regrown D0.o;have z4:=cell_regrown D1.o;refine wp_region_quiet_below (by kernel_rfl) (by kernel_rfl) ?_
         repeat (go_big_quiet_step (fail))
         refine wpQuiet_nil ?_;intro w2 I;obtain⟨q,z⟩:=I;have Z:=zc (X.o.later (zdT z));have LE:=zc (L.o.later (zdT z));clear z z0 z1 z2 z3 z4
         first
         |(have HN:Hid (¬GrS g):=ziT HL.o fun k=>k.2.2.2.2.2 j x aF HX.o Y3.o
           go_wp2;go_ret
           exact⟨zbx HN.o rfl,Z.o.b⟩)
         |(go_wp2
           go_roundg (gk-1)
           case rel=>exact⟨j1,rfl,by have:=ad.o;omega,(by rw[ad.o];exact zwk KN.o HX.o Y3.o),Z.o,LE.o⟩
           case measure=>omega))
       ·have au: ¬(j:Int)<(i:Int):=by omega
        obtain rfl:j=i:=by omega
        obtain⟨Y,M⟩: ∃Y,Y=j+1:=⟨_,rfl⟩;have ei:(j:Int)+1=(Y:Int):=by omega
        have aa:=zc M;have aE:Hid (LkTo g Y):=by
         rw[M];exact LT.o.next HL.o ⟨g5,by rw[zck];exact g6,G3.o.1,by rw[zck];exact G3.o.2,HI.o.1 aG.o,KN.o⟩
        clear M;go_wp2;go_roundg (g.ls.length-Y)
        case rel=>exact⟨Y,rfl,by have:=aa.o;omega,aE.o,X.o⟩
        case measure=>have:=aa.o;omega
    ·have ac: ¬(i:Int)<(g.ls.length:Int):=by omega
     obtain rfl:i=g.ls.length:=by omega
     have ah:Hid (zf9 (zC g) g.ls):=⟨HT.o.symm.trans aB.o,fun i l V=>LT.o i l (List.getElem?_eq_some_iff.1 V).1 V⟩;have OW:=zc (HO.o.later X.o.b);have RG:Hid (∀l∈g.ls,0<=l.frm/\l.frm<(g.ms.length:Int)/\0<=l.to/\l.to<(g.ms.length:Int)):=fun l V=>by
      obtain⟨i,hi⟩:=List.mem_iff_getElem?.1 V;have:=ah.o.2 i l hi;rw[zck] at this;exact⟨this.1,this.2.1,this.2.2.1,this.2.2.2.1⟩
     go_wp2_with fail;have cR:=zwg base G g wr OW.o an aq aH RG.o;unfold grD at cR;rw[hp] at cR;refine cR.mono ?_;clear cR;rintro e w2 ⟨gb,rfl,ap,hb⟩;have OB:=zc ap;have HB:=zc (zaf X.o.b hb);clear ap hb c0 c1 c2 cf;obtain⟨b,hb⟩: ∃b,b=zai g.ls g.ms.length (zaX g.ms.length):=⟨_,rfl⟩;have av:=zc hb;rw[<-hb] at OB;clear hb;have aO:=OB.o.len;go_wp2;go_loopg [10] g.ms.length (fun k az wr=>∃j:Nat,az= .int .i64 j/\j+k=g.ms.length/\(∀k,k<j->b[k]? =some true)/\wr=w2)
     case atStart=>exact⟨0,rfl,by omega,(fun k O=>absurd O (Nat.not_lt_zero k)),rfl⟩
     case round=>
      obtain⟨j,rfl,hj,O,rfl⟩:=hrel;have KN:=zc O;clear O;by_cases ax:j<g.ms.length
      ·have ao:(j:Int)<(g.ms.length:Int):=by omega
       obtain⟨v,hv⟩: ∃v,b[j]? =some v:=⟨_,List.getElem?_eq_getElem (by omega)⟩;have z0:=OB.o.cell hv;have HV:=zc hv;clear hv;obtain⟨j1,ab⟩: ∃j1,j1=j+1:=⟨_,rfl⟩;have ej:(j:Int)+1=(j1:Int):=by omega
       have ad:=zc ab;clear ab;cases v with
       |true=>
        have HK:Hid (∀k,k<j1->b[k]? =some true):=fun k O=>by
         by_cases e:k=j
         ·rw[e];exact HV.o
         ·exact KN.o k (by have:=ad.o;omega)
        go_wp2;go_roundg (gk-1)
        case rel=>exact⟨j1,rfl,by have:=ad.o;omega,HK.o,rfl⟩
        case measure=>omega
       |false=>
        have HN:Hid (¬GrS g):=fun k=>by
         have h1:=k.2.2.2.2.2 j ax;rw[<-av.o,HV.o] at h1;cases h1
        go_wp2;go_ret;exact⟨zbx HN.o rfl,HB.o⟩
      ·have ao: ¬(j:Int)<(g.ms.length:Int):=by omega
       obtain rfl:j=g.ms.length:=by omega
       have HY:Hid (GrS g):=⟨⟨an,aq⟩,hp,TO.o.1,(fun m hm=>by
        obtain⟨i,hi⟩:=List.mem_iff_getElem?.1 hm
        exact TO.o.2 i m (List.getElem?_eq_some_iff.1 hi).1 hi),ah.o,(fun k O=>by rw[<-av.o];exact KN.o k O)⟩
       go_wp2;go_ret;exact⟨⟨true,rfl,by simp[HY.o]⟩,HB.o⟩
end Go.Proofs.YtgcbmogmniahjaaGreat
