/- Facts and walks. -/
import Derived.Test.YtgcbmogmniahjaaGreatR40
import Derived.Test.YtgcbmogmniahjaaGreatR43
import Derived.Test.YtgcbmogmniahjaaGreatR55
namespace Go.Proofs.YtgcbmogmniahjaaGreat
open Nat (add_zero not_lt_zero)
open List (replicate getElem?_set mem_of_getElem? getElem?_eq_getElem length_append getElem?_map)
open Go.Proofs.Tryz
set_option maxRecDepth 100000
set_option maxHeartbeats 12800000
open Go.RowKit Go.PlainAid Go.Sort
theorem zwu:zfR 28:=fun q S m w h z=>(ztd q S m false w h (zkQ z.1 z.2) (fun t=>by have:=(zkP t z.2).1;have:=z.1;omega)).mono fun _ _ k=>⟨zpK k.1,k.2⟩
theorem zwv:zfR 65:=fun q S m w h z=>(zv0 q S m false w h (zkQ z.1 z.2) (fun t=>by have:=(zkP t z.2).2;have:=z.1;omega)).mono fun _ _ k=>⟨zpL k.1,k.2⟩
theorem zww:zfS 29:=fun _ S m w h _ q=>zv8 S m false w (RowAt.of (f:=imL) (m:=3) (fun _=>rfl) h.im) (RowAt.of (f:=epL) (m:=4) (fun _=>rfl) h.ep) (RowAt.of (f:=smL) (m:=3) (fun _=>rfl) h.st) (RowAt.of (f:=exL) (m:=6) (fun _=>rfl) h.ex) q.parts.im q.parts.ep q.parts.st q.parts.ex
variable (g:Nat) {w:Md} {W:List Lk} {b c d:Nat} {C:Lk} {S:List Bool} {q:Gr} {V:World} {z:GS}
theorem zwx (h:zbi w<=1048576):zhl w:=by
 unfold zbi at h;refine⟨fun x q=>?_,fun x q=>?_,fun x q=>?_,fun x q=>?_⟩
 ·have:=zd0 (c:=zcf) q;have e:zcf x=x.spec.size+x.first.size+x.loc.size:=rfl;unfold maxLen;omega
 ·have:=zd0 (c:=zcx) q;have e:zcx x=x.name.size:=rfl;unfold maxLen;omega
 ·have:=zd0 (c:=zcg) q;have e:zcg x=x.name.size+x.loc.size+x.spec.size:=rfl;unfold maxLen;omega
 ·have:=zd0 (c:=zcM) q;have e:zcM x=x.name.size+x.field.size:=rfl;unfold maxLen;omega
theorem zwy:zfS 66:=fun _ S m w h z q=>zwt S m false w (RowAt.of (f:=imL) (m:=3) (fun _=>rfl) h.im) (RowAt.of (f:=epL) (m:=4) (fun _=>rfl) h.ep) (RowAt.of (f:=smL) (m:=3) (fun _=>rfl) h.st) (RowAt.of (f:=exL) (m:=6) (fun _=>rfl) h.ex) q.parts.im q.parts.ep q.parts.st q.parts.ex (zwx z.1) q.parts.fair
def RchF (ls:List Lk) (m j:Nat):Prop:=∀S:Nat->Prop,S m->(∀l∈ls,S l.frm.toNat->S l.to.toNat)->S j
theorem RchF.self (ls:List Lk) (m:Nat):RchF ls m m:=fun _ h _=>h
theorem RchF.link (w:C∈W) (h:RchF W b C.frm.toNat):RchF W b C.to.toNat:=fun S z q=>q C w (h S z q)
def za0 (n m:Nat):List Bool:=(replicate n false).set m true
theorem zhr (m:Nat):(za0 g m).length=g:=by rw[za0,List.length_set,List.length_replicate]
theorem zja (h:(za0 b c)[d]? =some true):d=c:=by
 unfold za0 at h;rw[getElem?_set] at h
 split at h
 ·next e=>exact e.symm
 ·rw[List.getElem?_replicate] at h
  split at h<;>cases h
theorem zhs (h:c<b):(za0 b c)[c]? =some true:=by
 unfold za0;rw[getElem?_set,if_pos rfl,if_pos (by rw[List.length_replicate];exact h)]
theorem zwz (h:c<b):1<=zG (za0 b c):=by
 unfold zG;exact List.count_pos_iff.2 (mem_of_getElem? (zhs h))
def zht (ls:List Lk) (n:Nat):Prop:=∀l∈ls,l.frm.toNat<n/\l.to.toNat<n
theorem zw0 (D:c<b) (w:zht W b) (j:Nat):(zah W b (za0 b c))[j]? =some true↔RchF W c j:=by
 have z:=zhr b c;constructor
 ·intro h S J I;exact zhX (S:=S) I b (za0 b c) (fun k H=>by rw[zja H];exact J) j h
 ·intro h;have q:=zfK W b (za0 b c);rw[z] at q;have A:zgE W (zah W b (za0 b c)):=by
   rcases zk0 W b (za0 b c) with k|k
   ·exact k
   ·have:=zdW (zah W b (za0 b c));have:=zwz D;omega
  exact h (fun j=>(zah W b (za0 b c))[j]? =some true) ((zhW W b (za0 b c)).2 c (zhs D)) fun l E K=>A l E K (by rw[q];exact (w l E).2)
theorem zw1 {c:List Bool} (w:S.length=c.length) (h: ∀j:Nat,S[j]? =some true↔c[j]? =some true):S=c:=zkz ⟨w,fun j q=>(h j).1 q⟩ ⟨w.symm,fun j q=>(h j).2 q⟩
def zd6 (a:Nat) (s:List Bool×List Nat) (l:Lk):List Bool×List Nat:=if l.frm=(a:Int)/\s.1.getD l.to.toNat true=false then (s.1.set l.to.toNat true,s.2++[l.to.toNat]) else s
def zyh (ls:List Lk) (a:Nat) (s:List Bool×List Nat):List Bool×List Nat:=ls.foldl (zd6 a) s
structure WkP (ls:List Lk) (n m a:Nat) (s:List Bool×List Nat):Prop where
 len:s.1.length=n
 self:s.1[m]? =some true
 at':s.1[a]? =some true
 low: ∀k∈s.2,s.1[k]? =some true
 sound: ∀j:Nat,s.1[j]? =some true->RchF ls m j
 shut: ∀j:Nat,s.1[j]? =some true->j=a∨j∈s.2∨∀l∈ls,l.frm.toNat=j->s.1[l.to.toNat]? =some true
 cnt:s.2.length<=zG s.1
theorem WkP.start (q:c<b):WkP W b c c (za0 b c,[]):=
 ⟨zhr b c,zhs q,zhs q,fun k w=>(by cases w),fun j h=>by rw[zja h];exact .self W c,fun j h=>.inl (zja h),Nat.zero_le _⟩
structure WkK (ls:List Lk) (n m a:Nat) (s0:List Bool×List Nat) (k:Nat) (s:List Bool×List Nat):Prop where
 wk:WkP ls n m a s
 le:LeB s0.1 s.1
 done: ∀l∈ls.take k,l.frm.toNat=a->s.1[l.to.toNat]? =some true
 meas:s.2.length+zG s0.1=s0.2.length+zG s.1
theorem zmZ {k:Nat} (h:k<S.length):S.getD k true=false↔S[k]? =some false:=by
 rw[List.getD,getElem?_eq_getElem h];simp
theorem WkK.next {ls:List Lk} {n m a k:Nat} {X s:List Bool×List Nat} {l:Lk} (M:zht ls n) (hz: ∀l∈ls,0<=l.frm) (U:ls[k]? =some l) (h:WkK ls n m a X k s):WkK ls n m a X (k+1) (zd6 a s l):=by
 have N:=mem_of_getElem? U;have aa:=(M l N).2;have H:=h.wk.len;obtain⟨K,L⟩:=List.getElem?_eq_some_iff.1 U;have V: ∀x∈ls.take (k+1),x∈ls.take k∨x=l:=fun x w=>by
  rw[List.take_succ_eq_append_getElem K] at w;rcases List.mem_append.1 w with w|w
  ·exact .inl w
  ·exact .inr (by rw[<-L];exact List.mem_singleton.1 w)
 by_cases I:l.frm=(a:Int)/\s.1.getD l.to.toNat true=false
 ·have Y:=(zmZ (by omega)).1 I.2;have O:zd6 a s l=(s.1.set l.to.toNat true,s.2++[l.to.toNat]):=if_pos I;have E:=LeB.set s.1 l.to.toNat;have z:(s.1.set l.to.toNat true)[l.to.toNat]? =some true:=by rw[getElem?_set,if_pos rfl,if_pos (by omega)]
  have A:l.frm.toNat=a:=by rw[I.1,Int.toNat_natCast]
  rw[O];refine⟨⟨by rw[List.length_set];exact H,E.2 _ h.wk.self,E.2 _ h.wk.at',fun j q=>?_,fun j q=>?_,fun j q=>?_,?_⟩,h.le.trans E,fun x w e=>?_,?_⟩
  ·rcases List.mem_append.1 q with q|q
   ·exact E.2 _ (h.wk.low j q)
   ·rw[List.mem_singleton.1 q];exact z
  ·have q:(s.1.set l.to.toNat true)[j]? =some true:=q;rw[getElem?_set] at q
   split at q
   ·next e=>rw[<-e];exact .link N (by rw[A];exact h.wk.sound a h.wk.at')
   ·exact h.wk.sound j q
  ·have q:(s.1.set l.to.toNat true)[j]? =some true:=q;rw[getElem?_set] at q
   split at q
   ·next e=>exact .inr (.inl (List.mem_append_right _ (List.mem_singleton.2 e.symm)))
   ·rcases h.wk.shut j q with e|e|e
    ·exact .inl e
    ·exact .inr (.inl (List.mem_append_left _ e))
    ·exact .inr (.inr fun x w J=>E.2 _ (e x w J))
  ·have:=h.wk.cnt;have e:=zgF Y;show (s.2++[l.to.toNat]).length<=zG (s.1.set l.to.toNat true);rw[e,length_append,List.length_singleton];omega
  ·rcases V x w with w|rfl
   ·exact E.2 _ (h.done x w e)
   ·exact z
  ·have:=h.meas;have e:=zgF Y;show (s.2++[l.to.toNat]).length+_=_+zG (s.1.set l.to.toNat true);rw[e,length_append,List.length_singleton];omega
 ·have O:zd6 a s l=s:=if_neg I;rw[O];refine⟨h.wk,h.le,fun x w e=>?_,h.meas⟩;rcases V x w with w|rfl
  ·exact h.done x w e
  ·have A:x.frm=(a:Int):=by have:=hz x N;omega
   have D: ¬s.1.getD x.to.toNat true=false:=fun k=>I ⟨A,k⟩;rw[zmZ (by omega),getElem?_eq_getElem (by omega)] at D;rw[getElem?_eq_getElem (by omega)];cases Z:s.1[x.to.toNat] with
   |true=>rfl
   |false=>rw[Z] at D;exact absurd rfl D
theorem WkK.first {s:List Bool×List Nat} (h:WkP W b c d s):WkK W b c d s 0 s:=⟨h,.refl _,fun x q=>(by cases q),rfl⟩
theorem WkK.over {E s:List Bool×List Nat} (z:c<b) (q:zht W b) (h:WkK W b c d E W.length s) (A:s.2=[]):s.1=zah W b (za0 b c):=by
 refine zw1 (by rw[zfK,zhr];exact h.wk.len) fun j=>?_;rw[zw0 z q];refine⟨h.wk.sound j,fun D=>D (fun j=>s.1[j]? =some true) h.wk.self fun l w H=>?_⟩;rcases h.wk.shut _ H with e|e|e
 ·exact h.done l (by rw[List.take_length];exact w) e
 ·rw[A] at e;cases e
 ·exact e l w rfl
theorem WkK.pop {x:Nat} {H s:List Bool×List Nat} {z:List Nat} (h:WkK W b c d H W.length s) (q:s.2=z++[x]):WkP W b c x (s.1,z):=by
 have I:x∈s.2:=by rw[q];exact List.mem_append_right _ (List.mem_singleton.2 rfl)
 refine⟨h.wk.len,h.wk.self,h.wk.low x I,fun k A=>h.wk.low k (by rw[q];exact List.mem_append_left _ A),h.wk.sound,fun j E=>?_,by have:=h.wk.cnt;rw[q,length_append] at this;show z.length<=zG s.1;omega⟩;rcases h.wk.shut j E with e|e|e
 ·exact .inr (.inr fun l D w=>h.done l (by rw[List.take_length];exact D) (w.trans e))
 ·rw[q] at e;rcases List.mem_append.1 e with e|e
  ·exact .inr (.inl e)
  ·exact .inl (List.mem_singleton.1 e)
 ·exact .inr (.inr e)
def GrC (f:FuncId):Prop:=∀(base:Nat) (G:GS) (g:Gr) (w:World),GrOwn w base G g->GdG g->Calls prog f #[grD G g] w fun e w'=>SameOut (GrS g) e/\Bw w w'
def zaT (g:Gr) (a b:Nat):Bool:=(zah g.ls g.ms.length (za0 g.ms.length a)).getD b false
theorem GrS.links (h:GrS q): ∀l∈q.ls,0<=l.frm/\l.frm<(q.ms.length:Int)/\0<=l.to/\l.to<(q.ms.length:Int):=by
 intro l z;obtain⟨i,E⟩:=List.mem_iff_getElem?.1 z;obtain⟨A,s,D,w,_⟩:=h.2.2.2.2.1.2 i l E;rw[zco] at s w;exact⟨A,s,D,w⟩
theorem zna {n:Nat} (s:n<q.ms.length):(zah q.ls q.ms.length (za0 q.ms.length b))[n]? =some (zaT q b n):=by
 have h:n<(zah q.ls q.ms.length (za0 q.ms.length b)).length:=by rw[zfK,zhr];exact s
 rw[zaT,List.getD,getElem?_eq_getElem h];rfl
def zyi (g:Gr):Prop:=GrS g/\∀l∈g.ls,zaT g l.to.toNat l.frm.toNat=false
def OwnBl (w:World) (base g n:Nat) (b:List Bool):Prop:=OwnR w base 4 1 ⟨some ⟨g,0,none⟩,n⟩ n (b.map .bool)
theorem OwnBl.len {base:Nat} {b:List Bool} (h:OwnBl V base c d b):b.length=d:=by have:=h.1;rw[List.length_map] at this;omega
theorem OwnBl.cell {s:List Bool} (h:OwnBl V b c d s) {j:Nat} {v:Bool} (q:s[j]? =some v):V.cell? ⟨c,j,none⟩=some (.bool v):=by
 have D:=h.len;have A:=(List.getElem?_eq_some_iff.1 q).1;have z:V.ownsRow b 4 1 (.slice (some ⟨c,0,none⟩) d d) d (s.map .bool):=h;rw[z.cellAt j (by omega),getElem?_map,q];rfl
theorem OwnBl.free {s:List Bool} (h:OwnBl V b c d s) (j:Nat):V.frozen? ⟨c,j,none⟩=false:=by
 have q:V.ownsRow b 4 1 (.slice (some ⟨c,0,none⟩) d d) d (s.map .bool):=h;exact q.frozenAt j
theorem OwnBl.set {base:Nat} {b:List Bool} (h:OwnBl V base c d b) (j:Nat) (v:Bool):OwnBl (V.setCell ⟨c,j,none⟩ (.bool v)) base c d (b.set j v):=by
 have q:V.ownsRow base 4 1 (.slice (some ⟨c,0,none⟩) d d) d (b.map .bool):=h;unfold OwnBl OwnR;rw[List.map_set];exact (q.stored j (.bool v)).1
theorem OwnBl.later {q:World} {base:Nat} {b:List Bool} (h:OwnBl V base c d b) (z:Bw V q):OwnBl q base c d b:=OwnR.later h z
theorem OwnBl.at {s:List Bool} (h:OwnBl V b c d s):b<=c/\c<V.heap.size:=⟨(h.typed rfl).1,(h.typed rfl).2.1⟩
theorem OwnBl.block {s:List Bool} (h:OwnBl V b c d s): ∃q,V.heap[c]? =some (.cells q 4 (0,0)):=(h.typed rfl).2.2
def zjb (w:World) (n:Nat) (b:List Bool) (e:Ending) (w':World):Prop:=∃g,e= .returned (.slice (some ⟨g,0,none⟩) n n)/\OwnBl w' w.heap.size g n b/\Bw w w'
theorem Tryz.infoBl:(prog.info? 4).map (fun i=>(i.zero,i.size,i.bytes))=some (some (.bool false),1,1):=by kernel_rfl
structure RchW (w W:World) (G:GS) (g:Gr) (gx gb n:Nat) (b:List Bool):Prop where
 x:Bk W gx (grC G g) 32
 r:OwnBl W w.heap.size gb n b
 ne:gx≠gb
 b:Bw w W
theorem RchW.set {W:World} {s k n:Nat} {b:List Bool} (h:RchW V W z q s k n b) (j:Nat):RchW V (W.setCell ⟨k,j,none⟩ (.bool true)) z q s k n (b.set j true):=
 ⟨(heap_setCell_other W ⟨k,j,none⟩ s (.bool true) h.ne).trans h.x,h.r.set j true,h.ne,h.b.setCell h.r.at.1 _⟩
theorem znb (h:W[b]? =some C) (s:List Bool):zbh (W.take (b+1)) s=zbQ (zbh (W.take b) s) C:=by
 obtain⟨q,rfl⟩:=List.getElem?_eq_some_iff.1 h;rw[List.take_succ_eq_append_getElem q,zbh,List.foldl_append];rfl
theorem zw2 (G:GS) (s:Gr) (w:World) (ho:GrOwn w g G s) (hn:1<=s.ms.length) (aw:s.ms.length<=8) (hl:s.ls.length<=1048576) (hr: ∀l∈s.ls,0<=l.frm/\l.frm<(s.ms.length:Int)/\0<=l.to/\l.to<(s.ms.length:Int)):
  Calls prog 30 #[grD G s] w fun e w'=>zjb w s.ms.length (zah s.ls s.ms.length (zaZ s.ms.length)) e w':=by
 have HR:=zc (RowAt.of (f:=lkL) (m:=3) (fun _=>rfl) ho.ls);have HC:=zc hr;clear ho hr;obtain⟨i0,hi,ah,al,aj⟩:=info_parts Tryz.infoBl;unfold grD;go_enter func30,ntmps30;go_upto_region 1 with fail;obtain⟨z,L⟩: ∃z,z=w.heap.size:=⟨_,rfl⟩;rw[<-L];refine zu (R:=fun W=>Bk W z (grC G s) 32/\Below w.heap.size w W) (by rw[L];exact⟨heap_alloc_new w _,zan w _⟩) ?_;rintro W0 ⟨hx,hb⟩;have au:w.heap.size<=z:=by omega
 clear L;have X0:=zc hx;have N:=zc hb;have ag:z<W0.heap.size:=(aLt hx);clear hx hb;obtain⟨c0,Y,J,Z⟩:=zo X0.o;go_wp2_with (first|(at_make;refine wpList_make_full W0 rfl _ _ 58 rfl w.heap.size 4 i0 _ 1 underlying58 hi ah al .i64 .i64 _ _ s.ms.length (by rfl) (by rfl) rfl rfl (by rw[aj];omega) (by unfold maxLen;omega) N.o.size ?_));intro w1 q I;have X:Bw W0 w1:=(Below.refl _ _).grown I (Nat.le_refl _) (fun k h=>by cases h);obtain⟨H,V⟩: ∃H,H=W0.heap.size:=⟨_,rfl⟩;have RR:Hid (RchW w w1 G s z H s.ms.length (replicate s.ms.length false)):=by
  refine⟨X0.o.later X,?_,by omega,zZ N.o X⟩;unfold OwnBl OwnR;rw[toList_madeCells_one] at q;rw[V,List.map_replicate];exact q
 rw[<-V];clear q I X V X0 N ag c0 Y J Z;obtain⟨c0,Y,J,Z⟩:=zo RR.o.x;have f0:=RR.o.r.free 0;have b0:=RR.o.r.cell (j:=0) (v:=false) (by rw[List.getElem?_replicate,if_pos (by omega)]);have aq:(0:Int)<(s.ms.length:Int):=by omega
 have R1:=zc (RR.o.set 0);go_upto_region 3 with fail;obtain⟨w2,aa⟩: ∃w2,w2=w1.setCell ⟨H,0,none⟩ (.bool true):=⟨_,rfl⟩;rw[<-aa] at R1 ⊢;clear aa RR f0 b0 c0 Y J Z;have am:(replicate s.ms.length false).length=s.ms.length:=List.length_replicate ..;change Hid (RchW w w2 G s z H s.ms.length (zaZ s.ms.length)) at R1;go_wp2;go_loopg [4,5] s.ms.length (fun k s4 s5 wr=>∃r:Nat,s4= .int .i64 r/\r+k=s.ms.length/\RchW w wr G s z H s.ms.length (zah s.ls r (zaZ s.ms.length)))
 case atStart=>exact⟨0,rfl,by omega,R1.o⟩
 case round=>
  obtain⟨r,rfl,hr,hw⟩:=hrel;have RW:=zc hw;clear hw R1;obtain⟨c0,Y,J,Z⟩:=zo RW.o.x;by_cases ao:r<s.ms.length
  ·have ad:(r:Int)<(s.ms.length:Int):=by omega
   obtain⟨r1,ab⟩: ∃r1,r1=r+1:=⟨_,rfl⟩;have er:(r:Int)+1=(r1:Int):=by omega
   have M:=zc ab;clear ab;go_wp2;clear c0 Y J Z;go_loopg [5] s.ls.length (fun k s5 wq=>∃i:Nat,s5= .int .i64 i/\i+k=s.ls.length/\RchW w wq G s z H s.ms.length (zbh (s.ls.take i) (zah s.ls r (zaZ s.ms.length))))
   case atStart=>exact⟨0,rfl,by omega,RW.o⟩
   case round=>
    obtain⟨i,rfl,an,hw⟩:=hrel;have A:=zc hw;clear hw;obtain⟨c0,Y,J,Z⟩:=zo A.o.x;by_cases ak:i<s.ls.length
    ·have af:(i:Int)<(s.ls.length:Int):=by omega
     obtain⟨l,E⟩: ∃l,s.ls[i]? =some l:=⟨_,getElem?_eq_getElem ak⟩;obtain⟨y0,y1,y2,y3⟩:=HC.o l (mem_of_getElem? E);obtain⟨bl,ap,ae,hc⟩:=(HR.o.later A.o.b).get E;have k0:=hc 0 _ rfl;have k2:=hc 2 _ rfl;have HN:=zc (znb E (zah s.ls r (zaZ s.ms.length)));simp only[add_zero] at k0;clear hc E;obtain⟨fr,U⟩: ∃fr:Nat,l.frm=fr:=⟨l.frm.toNat,by omega⟩;obtain⟨O,K⟩: ∃O:Nat,l.to=O:=⟨l.to.toNat,by omega⟩;obtain⟨b,hb⟩: ∃b,b=zbh (s.ls.take i) (zah s.ls r (zaZ s.ms.length)):=⟨_,rfl⟩;rw[<-hb] at A HN;clear hb;have ai:=A.o.r.len;obtain⟨v,hv⟩: ∃v,b[fr]? =some v:=⟨_,getElem?_eq_getElem (by omega)⟩;obtain⟨u,hu⟩: ∃u,b[O]? =some u:=⟨_,getElem?_eq_getElem (by omega)⟩;have HS:Hid (zbQ b l=if v=true then b.set O true else b):=by
      show zbQ b l=_;unfold zbQ;rw[U,K,Int.toNat_natCast,Int.toNat_natCast,List.getD,hv];rfl
     have b0:=A.o.r.cell hv;have b1:=A.o.r.cell hu;have f1:=A.o.r.free O;have ar:(fr:Int)<(s.ms.length:Int):=by omega
     have av:(O:Int)<(s.ms.length:Int):=by omega
     have Q1:=zc (A.o.set O);rw[U] at k0;rw[K] at k2;rw[ae] at J;clear U K ae hv hu ai y0 y1 y2 y3;obtain⟨i1,ac⟩: ∃i1,i1=i+1:=⟨_,rfl⟩;have ei:(i:Int)+1=(i1:Int):=by omega
     have D:=zc ac;clear ac;cases v with
     |true=>
      go_wp2;go_roundg (gk-1)
      case rel=>exact⟨i1,rfl,by have:=D.o;omega,by rw[D.o,HN.o,HS.o];exact Q1.o⟩
      case measure=>omega
     |false=>
      go_wp2;go_roundg (gk-1)
      case rel=>exact⟨i1,rfl,by have:=D.o;omega,by rw[D.o,HN.o,HS.o];exact A.o⟩
      case measure=>omega
    ·have af: ¬(i:Int)<(s.ls.length:Int):=by omega
     have QE:Hid (RchW w wr G s z H s.ms.length (zah s.ls r1 (zaZ s.ms.length))):=by
      show RchW ..;rw[M.o,zhV];have:=A.o;rw[List.take_of_length_le (by omega)] at this;exact this
     go_wp2;go_roundg (s.ms.length-r1)
     case rel=>exact⟨r1,rfl,by have:=M.o;omega,QE.o⟩
     case measure=>have:=M.o;omega
  ·have ad: ¬(r:Int)<(s.ms.length:Int):=by omega
   obtain rfl:r=s.ms.length:=by omega
   go_wp2;go_ret;exact⟨H,rfl,RW.o.r,RW.o.b⟩
structure GrW (w W:World) (G:GS) (g:Gr) (gx:Nat):Prop where
 x:Bk W gx (grC G g) 32
 b:Bw w W
theorem GrW.later {W s:World} {n:Nat} (h:GrW V W z q n) (A:Bw W s):GrW V s z q n:=⟨h.x.later A,zZ h.b A⟩
theorem GrOwn.rows (h:GrOwn V b z q):RowS V z.pr.a q.ps/\RowAt V z.mr.a mdL 5 (z.sv.zip q.ms)/\RowAt V z.lr.a lkL 3 q.ls:=
 ⟨RowAt.of (f:=fun x=>[Value.string x]) (m:=1) (fun _=>rfl) h.ps,RowAt.of (f:=mdL) (m:=5) (fun _=>rfl) (zfa h.len h.ms),RowAt.of (f:=lkL) (m:=3) (fun _=>rfl) h.ls⟩
def GrTo (g:Gr) (i:Nat):Prop:=(∀j,j<i->zfc g.ps j)/\∀(j:Nat) (m:Md),j<i->g.ms[j]? =some m->MOk m/\zat m=0
theorem GrTo.next (h:GrTo q b) (n:q.ms[b]? =some w) (D:zfc q.ps b) (A:MOk w) (E:zat w=0):GrTo q (b+1):=by
 refine⟨fun j z=>?_,fun j x z s=>?_⟩
 ·by_cases e:j=b
  ·rw[e];exact D
  ·exact h.1 j (by omega)
 ·by_cases e:j=b
  ·rw[e,n] at s;cases s;exact⟨A,E⟩
  ·exact h.2 j x (by omega) s
theorem zw3 (n:b<q.ms.length) (s:q.ms[b]? =some w) (h: ¬(zfc q.ps b/\MOk w/\zat w=0)): ¬GrS q:=fun k=>h ⟨k.2.2.1 b n,k.2.2.2.1 w (mem_of_getElem? s)⟩
def zhu (g:Gr) (i:Nat) (l:Lk):Prop:=0<=l.frm/\l.frm<((zE g).length:Int)/\0<=l.to/\l.to<((zE g).length:Int)/\(∃s∈(zE g).getD l.frm.toNat [],s.toList=l.spec.toList)/\∀(k:Nat) (x:Lk),k<i->g.ls[k]? =some x->zU x≠zU l
def LkTo (g:Gr) (i:Nat):Prop:=∀(j:Nat) (l:Lk),j<i->g.ls[j]? =some l->zhu g j l
theorem LkTo.next (h:LkTo q b) (z:q.ls[b]? =some C) (w:zhu q b C):LkTo q (b+1):=by
 intro j x A s;by_cases e:j=b
 ·rw[e,z] at s;cases s;rw[e];exact w
 ·exact h j x (by omega) s
theorem zjc (s:q.ls[b]? =some C) (h: ¬zhu q b C): ¬GrS q:=fun k=>h (k.2.2.2.2.1.2 b C s)
theorem zw4 (D:q.ls[b]? =some C):
  (decide (C.frm<0)=true/\¬GrS q)∨(decide (C.frm<0)=false/\((decide ((q.ms.length:Int)<=C.frm)=true/\¬GrS q)∨(decide ((q.ms.length:Int)<=C.frm)=false/\((decide (C.to<0)=true/\¬GrS q)∨(decide (C.to<0)=false/\((decide ((q.ms.length:Int)<=C.to)=true/\¬GrS q)∨decide ((q.ms.length:Int)<=C.to)=false)))))):=by
 have h:=zjc D;unfold zhu at h;rw[zco] at h;by_cases z:C.frm<0
 ·exact .inl ⟨decide_eq_true z,h fun k=>by omega⟩
 ·refine .inr ⟨decide_eq_false z,?_⟩;by_cases s:(q.ms.length:Int)<=C.frm
  ·exact .inl ⟨decide_eq_true s,h fun k=>by omega⟩
  ·refine .inr ⟨decide_eq_false s,?_⟩;by_cases A:C.to<0
   ·exact .inl ⟨decide_eq_true A,h fun k=>by omega⟩
   ·refine .inr ⟨decide_eq_false A,?_⟩;by_cases w:(q.ms.length:Int)<=C.to
    ·exact .inl ⟨decide_eq_true w,h fun k=>by omega⟩
    ·exact .inr (decide_eq_false w)
theorem zw5 (x l:Lk):(x.frm=l.frm/\(x.spec.toList==l.spec.toList)=true/\zU x=zU l)∨(x.frm=l.frm/\(x.spec.toList==l.spec.toList)=false/\zU x≠zU l)∨(¬x.frm=l.frm/\zU x≠zU l):=by
 by_cases h:x.frm=l.frm
 ·cases q:(x.spec.toList==l.spec.toList) with
  |true=>exact .inl ⟨h,rfl,by unfold zU;rw[h,eq_of_beq q]⟩
  |false=>exact .inr (.inl ⟨h,rfl,fun e=>by rw[(Prod.mk.inj e).2] at q;simp at q⟩)
 ·exact .inr (.inr ⟨h,fun e=>h (Prod.mk.inj e).1⟩)
theorem zw6 {l:Lk} (h: ∀(k:Nat) (C:Lk),k<b->W[k]? =some C->zU C≠zU l) (w:W[b]? =some C) (z:zU C≠zU l): ∀(k:Nat) (C:Lk),k<b+1->W[k]? =some C->zU C≠zU l:=by
 intro k y A q;by_cases e:k=b
 ·rw[e,w] at q;cases q;exact z
 ·exact h k y (by omega) q
theorem zw7 {p:BA} (K:b<q.ms.length) (A:q.ms[b]? =some w) (I:q.ps.getD b sNone=p) (J:GrTo q b):
  (p.toList.isEmpty=true/\¬GrS q)∨(p.toList.isEmpty=false/\((((zaL p).toList==p.toList)=false/\¬GrS q)∨(((zaL p).toList==p.toList)=true/\((inL (q.ps.take b) p=true/\¬GrS q)∨(inL (q.ps.take b) p=false/\((¬MOk w/\¬GrS q)∨(MOk w/\((¬zat w=0/\¬GrS q)∨(zat w=0/\GrTo q (b+1)))))))))):=by
 have h:=zw3 K A;have s:=fun a n c=>J.next A a n c;unfold zfc at h s;rw[I] at h s;cases E:p.toList.isEmpty with
 |true=>exact .inl ⟨rfl,h fun k=>by rw[E] at k;exact absurd k.1.1 (by decide)⟩
 |false=>
  refine .inr ⟨rfl,?_⟩;cases D:((zaL p).toList==p.toList) with
  |false=>exact .inl ⟨rfl,h fun k=>by rw[D] at k;exact absurd k.1.2.1 (by decide)⟩
  |true=>
   refine .inr ⟨rfl,?_⟩;cases H:inL (q.ps.take b) p with
   |true=>exact .inl ⟨rfl,h fun k=>by rw[H] at k;exact absurd k.1.2.2 (by decide)⟩
   |false=>
    refine .inr ⟨rfl,?_⟩;by_cases x:MOk w
    ·refine .inr ⟨x,?_⟩;by_cases z:zat w=0
     ·exact .inr ⟨z,s ⟨E,D,H⟩ x z⟩
     ·exact .inl ⟨z,h fun k=>z k.2.2⟩
    ·exact .inl ⟨x,h fun k=>x k.2.1⟩
theorem zw8 (ai:zfR 28) (ag:zfS 29) (base:Nat) (G:GS) (g:Gr) (w:World) (ho:GrOwn w base G g) (hg:GdG g):
  Calls prog 8 #[grD G g] w fun e w'=>SameOut (GrS g) e/\Bw w w':=by
 have HO:=zc ho;have HG:=zc hg;have CM:=zc ai;have CE:=zc ag;have aP:=hg.pl;have aN:=hg.ml;have aH:=hg.ll;clear ho hg ai ag;unfold grD;go_enter func8,ntmps8;go_upto_region 1 with fail;obtain⟨gx,aj⟩: ∃gx,gx=w.heap.size:=⟨_,rfl⟩;rw[<-aj];refine zu (R:=fun W=>GrW w W G g gx) (by rw[aj];exact⟨heap_alloc_new w _,zan w _⟩) ?_;intro W0 hW;have X0:=zc hW;clear hW aj;obtain⟨c0,c1,Z,cf⟩:=zo X0.o.x;by_cases hn:1<=g.ms.length/\g.ms.length<=8
 case neg=>
  have HN:Hid (¬GrS g):=fun k=>hn k.1;have D:inB (g.ms.length:Int) 1 8=false:=by unfold inB;simp;omega
  go_wp2_with (first|(go_at_call 25;refine (zfs _ _ _ _).mono ?_;rintro e w' ⟨rfl,rfl⟩;rw[D]));go_ret;exact⟨zbz HN.o rfl,X0.o.b⟩
 have D:inB (g.ms.length:Int) 1 8=true:=by unfold inB;simp;omega
 obtain⟨an,aq⟩:=hn;by_cases hp:g.ps.length=g.ms.length
 case neg=>
  have HN:Hid (¬GrS g):=fun k=>hp k.2.1;have aD: ¬(g.ps.length:Int)=(g.ms.length:Int):=by omega
  go_wp2_with (first|(go_at_call 25;refine (zfs _ _ _ _).mono ?_;rintro e w' ⟨rfl,rfl⟩;rw[D]));go_ret;exact⟨zbz HN.o rfl,X0.o.b⟩
 have aD:(g.ps.length:Int)=(g.ms.length:Int):=by omega
 go_wp2_with (first|(go_at_call 25;refine (zfs _ _ _ _).mono ?_;rintro e w' ⟨rfl,rfl⟩;rw[D]));have am:Hid (∀k,zas ((zE g).take k)<=1048576):=fun k=>Nat.le_trans (zik _ _) HG.o.rq;clear c0 c1 Z cf D;go_loopg [4,5] g.ms.length (fun k s4 s5 wr=>∃i:Nat,s5= .int .i64 i/\s4= .int .i64 (zas ((zE g).take i):Nat)/\i+k=g.ms.length/\GrTo g i/\GrW w wr G g gx)
 case atStart=>exact⟨0,rfl,rfl,by omega,⟨fun j hj=>absurd hj (not_lt_zero j),fun j m hj=>absurd hj (not_lt_zero j)⟩,X0.o⟩
 case round=>
  obtain⟨i,rfl,rfl,hi,ht,hw⟩:=hrel;have X:=zc hw;have TO:=zc ht;clear hw ht X0;have aL:=am.o i;by_cases ae:i<g.ms.length
  ·have ac:(i:Int)<(g.ms.length:Int):=by omega
   have aI:(i:Int)<(g.ps.length:Int):=by omega
   obtain⟨p,af⟩: ∃p,g.ps[i]? =some p:=⟨_,getElem?_eq_getElem (by omega)⟩;obtain⟨m,Y⟩: ∃m,g.ms[i]? =some m:=⟨_,getElem?_eq_getElem ae⟩;obtain⟨S,hS⟩:=zec HO.o.len Y;have OW:=zc (HO.o.later X.o.b);have OM:=zc (OW.o.md _ (mem_of_getElem? hS));have GM:=zc (HG.o.ms m (mem_of_getElem? Y));have HM:=zc Y;have PD:Hid (g.ps.getD i sNone=p):=by show _=_;rw[List.getD,af];rfl
   have RQ:Hid ((zE g)[i]? =some m.rq):=by show _=_;rw[zE,getElem?_map,Y];rfl
   obtain⟨b1,o1,e1,k1⟩:=OW.o.rows.1.get af;obtain⟨b2,o2,e2,k2⟩:=OW.o.rows.2.1.get hS;have aJ:(i:Int)<=(G.pr.cap:Int):=by have:=OW.o.ps.cap;omega
   have C0:=zc (k1 0 _ rfl);have D0:=zc (k2 0 _ rfl);have D1:=zc (k2 1 _ rfl);have D2:=zc (k2 2 _ rfl);have D3:=zc (k2 3 _ rfl);have D4:=zc (k2 4 _ rfl);have aC:p.size<=9223372036854775807:=by have:=HG.o.ps p (mem_of_getElem? af);omega
   have RT:Hid (RowS wr G.pr.a (g.ps.take i)):=OW.o.rows.1.take i;have aw:i=(g.ps.take i).length:=by rw[List.length_take];omega
   have cC: ∀d I,Calls prog 26 #[.string p] (grow (redrawn wr d) I) fun e H=>e= .returned (.string (zaL p))/\∃q:Regrown,H=grow (redrawn wr q.d) q.os:=fun d I=>Calls.regrown_of (zwn p _ aC);have cI: ∀d I,Calls prog 27 #[.slice (some ⟨b1,o1,none⟩) i G.pr.cap,.string p] (grow (redrawn wr d) I) fun e H=>e= .returned (.bool (inL (g.ps.take i) p))/\∃q:Regrown,H=grow (redrawn wr q.d) q.os:=fun d I=>Calls.regrown_of ((zgd (some ⟨b1,o1,none⟩) G.pr.cap i (g.ps.take i) p _ aw (e1▸RT.o.later (below_regrown wr d I)) (by omega)).mono fun e w' h=>⟨h.1,by rw[h.2];exact Below.refl _ _⟩);have cM: ∀(b:Bool),(b=true↔MOk m)->∀d I,Calls prog 28 #[zl S m,.bool false] (grow (redrawn wr d) I) fun e H=>e= .returned (.bool b)/\∃q:Regrown,H=grow (redrawn wr q.d) q.os:=fun b hb d I=>Calls.regrown_of ((CM.o base S m _ (OM.o.later (below_regrown wr d I)) GM.o).mono fun e w' h=>⟨h.1.of hb,h.2⟩);have cE:MOk m->∀d I,Calls prog 29 #[zl S m,.bool false] (grow (redrawn wr d) I) fun e H=>e= .returned (.int .i64 (zat m))/\∃q:Regrown,H=grow (redrawn wr q.d) q.os:=fun M d I=>Calls.regrown_of (CE.o base S m _ (OM.o.later (below_regrown wr d I)) GM.o M);unfold zl at cM cE;obtain⟨C1,C2,C3,cf⟩:=zo X.o.x;rw[e1] at C1;rw[e2] at C2;have Y1:=zc C1;have Y2:=zc C2;clear af Y hS k1 k2 e1 e2 C1 C2 C3 cf aw;have ar:=zw7 ae HM.o PD.o TO.o;rcases ar with ⟨h1,A⟩|⟨h1,⟨h2,A⟩|⟨h2,⟨h3,A⟩|⟨h3,⟨h4,A⟩|⟨h4,⟨h5,A⟩|⟨h5,A⟩⟩⟩⟩⟩
   all_goals have HX:=zc A
   all_goals clear A
   case' inr.inr.inr.inr.inl=>
    have q1:decide (zat m=0)=false:=decide_eq_false h5;have q2:(zat m==0)=false:=q1;have q3:(zat m !=0)=true:=by rw[bne,q2];rfl
   all_goals (
    go_wp2;have z0:=cell_regrown C0.o;have z1:=cell_regrown Y1.o;have z2:=cell_regrown Y2.o;have d0:=cell_regrown D0.o;have d1:=cell_regrown D1.o;have d2:=cell_regrown D2.o;have d3:=cell_regrown D3.o;have d4:=cell_regrown D4.o;simp only[add_zero,Nat.mul_one] at z0 d0;refine wp_region_quiet_below (by kernel_rfl) (by kernel_rfl) ?_
    repeat (go_big_quiet_step (first|with_reducible exact cC _ _|with_reducible exact cI _ _|with_reducible exact cM true (iff_of_true rfl h4) _ _|with_reducible exact cM false (by simp[h4]) _ _|with_reducible exact cE h4 _ _))
    refine wpQuiet_nil ?_;intro w2 E;obtain⟨q,z⟩:=E;have V:=zc (X.o.later (zed z))
    clear z0 z1 z2 d0 d1 d2 d3 d4)
   all_goals first
    |(go_wp2;go_ret;exact⟨zbz HX.o rfl,V.o.b⟩)
    |(
     have E1:w2.cell? ⟨gx,1,none⟩=some (.slice (some ⟨b2,o2,none⟩) g.ms.length G.mr.cap):=by rw[z];exact cell_regrown Y2.o _ _
     have E0:w2.cell? ⟨b2,o2+i*5,none⟩=some (.slice S.rq.a m.rq.length S.rq.cap):=by rw[z];exact cell_regrown D0.o _ _
     obtain⟨U,J⟩: ∃U,U=i+1:=⟨_,rfl⟩;have ei:(i:Int)+1=(U:Int):=by omega
     have aa:=zc J;have aM:(zas ((zE g).take i):Int)+(m.rq.length:Int)=(zas ((zE g).take U):Nat):=by rw[J,zij RQ.o];omega
     have aQ:=am.o U;clear J z cC cI cM cE;go_wp2;go_roundg (gk-1)
     case rel=>exact⟨U,rfl,rfl,by have:=aa.o;omega,by rw[aa.o];exact HX.o,V.o⟩
     case measure=>omega)
  ·have ac: ¬(i:Int)<(g.ms.length:Int):=by omega
   obtain rfl:i=g.ms.length:=by omega
   have HT:Hid (zas ((zE g).take g.ms.length)=zas (zE g)):=by show _=_;rw[List.take_of_length_le (by rw[zco];exact Nat.le_refl _)]
   obtain⟨c0,c1,Z,cf⟩:=zo X.o.x;by_cases N:zas ((zE g).take g.ms.length)=g.ls.length
   case neg=>
    have HN:Hid (¬GrS g):=fun k=>N (HT.o.trans k.2.2.2.2.1.1);have ay: ¬((zas ((zE g).take g.ms.length):Nat):Int)=(g.ls.length:Int):=by omega
    clear N;go_wp2;go_ret;exact⟨zbz HN.o rfl,X.o.b⟩
   have ay:((zas ((zE g).take g.ms.length):Nat):Int)=(g.ls.length:Int):=by omega
   have aB:=zc N;clear N;go_wp2;have X1:=zc X.o;clear c0 c1 Z cf X;go_loopg [6] g.ls.length (fun k s6 wr=>∃i:Nat,s6= .int .i64 i/\i+k=g.ls.length/\LkTo g i/\GrW w wr G g gx)
   case atStart=>exact⟨0,rfl,by omega,(fun j l hj=>absurd hj (not_lt_zero j)),X1.o⟩
   case round=>
    obtain⟨i,rfl,hi,ht,hw⟩:=hrel;have X:=zc hw;have LT:=zc ht;clear hw ht X1;obtain⟨c0,c1,Z,cf⟩:=zo X.o.x;by_cases ae:i<g.ls.length
    ·have ac:(i:Int)<(g.ls.length:Int):=by omega
     obtain⟨l,O⟩: ∃l,g.ls[i]? =some l:=⟨_,getElem?_eq_getElem ae⟩;have HL:=zc O;obtain⟨b1,o1,e1,k1⟩:=(HO.o.later X.o.b).rows.2.2.get O;have k0:=k1 0 _ rfl;have k2:=k1 2 _ rfl;have k3:=k1 1 _ rfl;simp only[add_zero] at k0;rw[e1] at Z;clear O k1;go_upto_region 17 with fail;obtain⟨gl,ak⟩: ∃gl,gl=wr.heap.size:=⟨_,rfl⟩;rw[<-ak];refine zu (R:=fun W=>GrW w W G g gx/\Bk W gl #[.int .i64 l.frm,.string l.spec,.int .i64 l.to] 57) ⟨X.o.later (zan wr _),by rw[ak];exact heap_alloc_new wr _⟩ ?_;clear ak X k0 k2 k3 e1 c0 c1 Z cf;rintro w1 ⟨A,O⟩;have X:=zc A;have L:=zc O;clear A O;have Z0:=zc (zo L.o).1;have Z1:=zc (zo L.o).2.1;have Z2:=zc (zo L.o).2.2.1;have Y1:=zc (zo X.o.x).2.1;have al:=zw4 HL.o;rcases al with ⟨h1,A⟩|⟨h1,⟨h2,A⟩|⟨h2,⟨h3,A⟩|⟨h3,⟨h4,A⟩|h4⟩⟩⟩
     iterate 4
      ·have HX:=zc A;clear A;go_wp2;have z0:=cell_regrown Z0.o;have z2:=cell_regrown Z2.o;have K:=cell_regrown Y1.o;refine wp_region_quiet_below (by kernel_rfl) (by kernel_rfl) ?_
       repeat (go_big_quiet_step (fail))
       refine wpQuiet_nil ?_;intro w2 E;obtain⟨q,z⟩:=E;have V:=zc (X.o.later (zed z));go_wp2;go_ret;exact⟨zbz HX.o rfl,V.o.b⟩
     have g1: ¬l.frm<0:=of_decide_eq_false h1;have g2: ¬(g.ms.length:Int)<=l.frm:=of_decide_eq_false h2;have g3: ¬l.to<0:=of_decide_eq_false h3;have g4: ¬(g.ms.length:Int)<=l.to:=of_decide_eq_false h4;obtain⟨m,Y⟩: ∃m,g.ms[l.frm.toNat]? =some m:=⟨_,getElem?_eq_getElem (by omega)⟩;obtain⟨S,hS⟩:=zec HO.o.len Y;have OW:=zc (HO.o.later X.o.b);obtain⟨b2,o2,e2,k2⟩:=OW.o.rows.2.1.get hS;have D0:=zc (k2 0 _ rfl);have RS:=zc (RowS.of (OW.o.md _ (mem_of_getElem? hS)).rq);have aA:m.rq.length<=1048576:=by
      have:=(HG.o.ms m (mem_of_getElem? Y)).1;unfold zbi at this;omega
     have g5:0<=l.frm:=by omega
     have g6:l.frm<(g.ms.length:Int):=by omega
     have cI: ∀d I,Calls prog 27 #[.slice S.rq.a m.rq.length S.rq.cap,.string l.spec] (grow (redrawn w1 d) I) fun e H=>e= .returned (.bool (inL m.rq l.spec))/\∃q:Regrown,H=grow (redrawn w1 q.d) q.os:=fun d I=>Calls.regrown_of ((zgd S.rq.a S.rq.cap m.rq.length m.rq l.spec _ rfl (RS.o.later (below_regrown w1 d I)) aA).mono fun e w' h=>⟨h.1,by rw[h.2];exact Below.refl _ _⟩);have HI:Hid (inL m.rq l.spec=true↔∃s∈(zE g).getD l.frm.toNat [],s.toList=l.spec.toList):=by
      show _↔_;rw[List.getD,zE,getElem?_map,Y,zgG];exact⟨fun h=>⟨_,h,rfl⟩,fun⟨s,h,e⟩=>zku e▸h⟩
     have K:=Y1.o;rw[e2] at K;have Y2:=zc K;have G3:Hid (0<=l.to/\l.to<(g.ms.length:Int)):=⟨by omega,by omega⟩;clear Y hS k2 e2 K g1 g2 g3 g4;cases D:inL m.rq l.spec with
     |false=>
      have HX:Hid (¬GrS g):=zjc HL.o fun k=>by rw[HI.o.2 k.2.2.2.2.1] at D;cases D
      go_wp2;have z0:=cell_regrown Z0.o;have z1:=cell_regrown Z1.o;have z2:=cell_regrown Z2.o;have K:=cell_regrown Y2.o;have d0:=cell_regrown D0.o;simp only[add_zero] at d0;refine wp_region_quiet_below (by kernel_rfl) (by kernel_rfl) ?_
      repeat (go_big_quiet_step (with_reducible exact cI _ _))
      refine wpQuiet_nil ?_;intro w2 E;obtain⟨q,z⟩:=E;have V:=zc (X.o.later (zed z));go_wp2;go_ret;exact⟨zbz HX.o rfl,V.o.b⟩
     |true=>
      go_wp2;have z0:=cell_regrown Z0.o;have z1:=cell_regrown Z1.o;have z2:=cell_regrown Z2.o;have K:=cell_regrown Y2.o;have d0:=cell_regrown D0.o;simp only[add_zero] at d0;refine wp_region_quiet_below (by kernel_rfl) (by kernel_rfl) ?_
      repeat (go_big_quiet_step (with_reducible exact cI _ _))
      refine wpQuiet_nil ?_;intro w2 E;obtain⟨q,z⟩:=E;have V:=zc (X.o.later (zed z));have LE:=zc (L.o.later (zed z));clear z z0 z1 z2 K d0;go_wp2;have aG:=zc D;clear X L Z0 Z1 Z2 Y1 Y2 D0 OW RS cI D h1 h2 h3 h4;have X2:=zc V.o;have L2:=zc LE.o;clear V LE;go_loopg [8] i (fun k s8 wr=>∃j:Nat,s8= .int .i64 j/\j+k=i/\(∀(k:Nat) (x:Lk),k<j->g.ls[k]? =some x->zU x≠zU l)/\GrW w wr G g gx/\Bk wr gl #[.int .i64 l.frm,.string l.spec,.int .i64 l.to] 57)
      case atStart=>exact⟨0,rfl,by omega,(fun k x M=>absurd M (not_lt_zero k)),X2.o,L2.o⟩
      case round=>
       obtain⟨j,rfl,hj,M,A,O⟩:=hrel;have X:=zc A;have L:=zc O;have KN:=zc M;clear A O M X2 L2;by_cases aF:j<i
       ·have au:(j:Int)<(i:Int):=by omega
        have aK:(j:Int)<(g.ls.length:Int):=by omega
        obtain⟨x,A⟩: ∃x,g.ls[j]? =some x:=⟨_,getElem?_eq_getElem (by omega)⟩;obtain⟨b1,o1,e1,k1⟩:=(HO.o.later X.o.b).rows.2.2.get A;have k0:=k1 0 _ rfl;have k3:=k1 1 _ rfl;obtain⟨c0,c1,Z,cf⟩:=zo X.o.x;obtain⟨d0,d1,d2,df⟩:=zo L.o;simp only[add_zero] at k0;rw[e1] at Z;have HX:=zc A;clear A k1 e1;obtain⟨j1,ab⟩: ∃j1,j1=j+1:=⟨_,rfl⟩;have ej:(j:Int)+1=(j1:Int):=by omega
        have ad:=zc ab;clear ab;have al:(x.frm=l.frm/\(x.spec.toList==l.spec.toList)=true/\zU x=zU l)∨(x.frm=l.frm/\(x.spec.toList==l.spec.toList)=false/\zU x≠zU l)∨(¬x.frm=l.frm/\zU x≠zU l):=zw5 x l;have C2:=zc Z;have K0:=zc k0;have K3:=zc k3;have D0:=zc d0;have D1:=zc d1;clear c0 c1 Z cf d0 d1 d2 df k0 k3;rcases al with ⟨K,y2,y3⟩|⟨K,y2,y3⟩|⟨K,y3⟩
        all_goals have Y3:=zc y3
        case' inl=>have q1:decide (x.frm=l.frm)=true:=decide_eq_true K
        case' inr.inl=>have q1:decide (x.frm=l.frm)=true:=decide_eq_true K
        case' inr.inr=>have q1:decide (x.frm=l.frm)=false:=decide_eq_false K
        all_goals (
         have q2:(x.frm==l.frm)=_:=q1;clear K y3;go_wp2;have z0:=cell_regrown C2.o;have z1:=cell_regrown K0.o;have z2:=cell_regrown K3.o;have z3:=cell_regrown D0.o;have z4:=cell_regrown D1.o;refine wp_region_quiet_below (by kernel_rfl) (by kernel_rfl) ?_
         repeat (go_big_quiet_step (fail))
         refine wpQuiet_nil ?_;intro w2 E;obtain⟨q,z⟩:=E;have V:=zc (X.o.later (zed z));have LE:=zc (L.o.later (zed z));clear z z0 z1 z2 z3 z4
         first
         |(have HN:Hid (¬GrS g):=zjc HL.o fun k=>k.2.2.2.2.2 j x aF HX.o Y3.o
           go_wp2;go_ret
           exact⟨zbz HN.o rfl,V.o.b⟩)
         |(go_wp2
           go_roundg (gk-1)
           case rel=>exact⟨j1,rfl,by have:=ad.o;omega,(by rw[ad.o];exact zw6 KN.o HX.o Y3.o),V.o,LE.o⟩
           case measure=>omega))
       ·have au: ¬(j:Int)<(i:Int):=by omega
        obtain rfl:j=i:=by omega
        obtain⟨U,J⟩: ∃U,U=j+1:=⟨_,rfl⟩;have ei:(j:Int)+1=(U:Int):=by omega
        have aa:=zc J;have aE:Hid (LkTo g U):=by
         rw[J];exact LT.o.next HL.o ⟨g5,by rw[zco];exact g6,G3.o.1,by rw[zco];exact G3.o.2,HI.o.1 aG.o,KN.o⟩
        clear J;go_wp2;go_roundg (g.ls.length-U)
        case rel=>exact⟨U,rfl,by have:=aa.o;omega,aE.o,X.o⟩
        case measure=>have:=aa.o;omega
    ·have ac: ¬(i:Int)<(g.ls.length:Int):=by omega
     obtain rfl:i=g.ls.length:=by omega
     have ah:Hid (zfJ (zE g) g.ls):=⟨HT.o.symm.trans aB.o,fun i l O=>LT.o i l (List.getElem?_eq_some_iff.1 O).1 O⟩;have OW:=zc (HO.o.later X.o.b);have RG:Hid (∀l∈g.ls,0<=l.frm/\l.frm<(g.ms.length:Int)/\0<=l.to/\l.to<(g.ms.length:Int)):=fun l O=>by
      obtain⟨i,hi⟩:=List.mem_iff_getElem?.1 O;have:=ah.o.2 i l hi;rw[zco] at this;exact⟨this.1,this.2.1,this.2.2.1,this.2.2.2.1⟩
     go_wp2_with fail;have cR:=zw2 base G g wr OW.o an aq aH RG.o;unfold grD at cR;rw[hp] at cR;refine cR.mono ?_;clear cR;rintro e w2 ⟨gb,rfl,ap,hb⟩;have OB:=zc ap;have HB:=zc (zZ X.o.b hb);clear ap hb c0 c1 Z cf;obtain⟨b,hb⟩: ∃b,b=zah g.ls g.ms.length (zaZ g.ms.length):=⟨_,rfl⟩;have av:=zc hb;rw[<-hb] at OB;clear hb;have aO:=OB.o.len;go_wp2;go_loopg [10] g.ms.length (fun k az wr=>∃j:Nat,az= .int .i64 j/\j+k=g.ms.length/\(∀k,k<j->b[k]? =some true)/\wr=w2)
     case atStart=>exact⟨0,rfl,by omega,(fun k M=>absurd M (not_lt_zero k)),rfl⟩
     case round=>
      obtain⟨j,rfl,hj,M,rfl⟩:=hrel;have KN:=zc M;clear M;by_cases ax:j<g.ms.length
      ·have ao:(j:Int)<(g.ms.length:Int):=by omega
       obtain⟨v,hv⟩: ∃v,b[j]? =some v:=⟨_,getElem?_eq_getElem (by omega)⟩;have z0:=OB.o.cell hv;have HV:=zc hv;clear hv;obtain⟨j1,ab⟩: ∃j1,j1=j+1:=⟨_,rfl⟩;have ej:(j:Int)+1=(j1:Int):=by omega
       have ad:=zc ab;clear ab;cases v with
       |true=>
        have HK:Hid (∀k,k<j1->b[k]? =some true):=fun k M=>by
         by_cases e:k=j
         ·rw[e];exact HV.o
         ·exact KN.o k (by have:=ad.o;omega)
        go_wp2;go_roundg (gk-1)
        case rel=>exact⟨j1,rfl,by have:=ad.o;omega,HK.o,rfl⟩
        case measure=>omega
       |false=>
        have HN:Hid (¬GrS g):=fun k=>by
         have h1:=k.2.2.2.2.2 j ax;rw[<-av.o,HV.o] at h1;cases h1
        go_wp2;go_ret;exact⟨zbz HN.o rfl,HB.o⟩
      ·have ao: ¬(j:Int)<(g.ms.length:Int):=by omega
       obtain rfl:j=g.ms.length:=by omega
       have HY:Hid (GrS g):=⟨⟨an,aq⟩,hp,TO.o.1,(fun m Y=>by
        obtain⟨i,hi⟩:=List.mem_iff_getElem?.1 Y
        exact TO.o.2 i m (List.getElem?_eq_some_iff.1 hi).1 hi),ah.o,(fun k M=>by rw[<-av.o];exact KN.o k M)⟩
       go_wp2;go_ret;exact⟨⟨true,rfl,by simp[HY.o]⟩,HB.o⟩
end Go.Proofs.YtgcbmogmniahjaaGreat
