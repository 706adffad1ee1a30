/-
  ModOk and Early of both sides,as graphs ask them.
  Which modules are come to from any one: by rounds over all Links,and by a walk with a stack of its own. No program is spoken of.
  What chapter 15's walks hold,GraphOk's contract as a premise. No program is spoken of but for the numbers of its types.
  What spec.l7Reach answers: the walk.
  What spec.GraphOk answers: the walk.
-/
import Derived.Test.YtgcbmogmniahjaaGreatCAsReadAgain
import Derived.Test.YtgcbmogmniahjaaGreatCAsSpecEarlyBToSpecEarlyC
import Derived.Test.YtgcbmogmniahjaaGreatCAsImplEarlySToImplEarlyF
namespace Go.Proofs.YtgcbmogmniahjaaGreat
set_option maxRecDepth 100000
set_option maxHeartbeats 12800000
open Go.RowKit Go.PlainAid Go.Sort
theorem zwu:zfR 28:=fun q S m w h z=>(ztd q S m false w h (zkQ z.1 z.2) (fun t=>by have:=(zkP t z.2).1;have:=z.1;omega)).mono fun _ _ k=>⟨zpK k.1,k.2⟩
theorem zwv:zfR 65:=fun q S m w h z=>(zv0 q S m false w h (zkQ z.1 z.2) (fun t=>by have:=(zkP t z.2).2;have:=z.1;omega)).mono fun _ _ k=>⟨zpL k.1,k.2⟩
theorem zww:zfS 29:=fun _ S m w h _ q=>zv8 S m false w (RowAt.of (f:=imL) (m:=3) (fun _=>rfl) h.im) (RowAt.of (f:=epL) (m:=4) (fun _=>rfl) h.ep) (RowAt.of (f:=smL) (m:=3) (fun _=>rfl) h.st) (RowAt.of (f:=exL) (m:=6) (fun _=>rfl) h.ex) q.parts.im q.parts.ep q.parts.st q.parts.ex
theorem zwx {m:Md} (h:zbi m≤1048576):zhl m:=by
 unfold zbi at h
 refine⟨fun x q=>?_,fun x q=>?_,fun x q=>?_,fun x q=>?_⟩
 ·have:=zd0 (c:=zcf) q
  have e:zcf x=x.spec.size+x.first.size+x.loc.size:=rfl
  unfold maxLen
  omega
 ·have:=zd0 (c:=zcx) q
  have e:zcx x=x.name.size:=rfl
  unfold maxLen
  omega
 ·have:=zd0 (c:=zcg) q
  have e:zcg x=x.name.size+x.loc.size+x.spec.size:=rfl
  unfold maxLen
  omega
 ·have:=zd0 (c:=zcM) q
  have e:zcM x=x.name.size+x.field.size:=rfl
  unfold maxLen
  omega
theorem zwy:zfS 66:=fun _ S m w h z q=>zwt S m false w (RowAt.of (f:=imL) (m:=3) (fun _=>rfl) h.im) (RowAt.of (f:=epL) (m:=4) (fun _=>rfl) h.ep) (RowAt.of (f:=smL) (m:=3) (fun _=>rfl) h.st) (RowAt.of (f:=exL) (m:=6) (fun _=>rfl) h.ex) q.parts.im q.parts.ep q.parts.st q.parts.ex (zwx z.1) q.parts.fair
def RchF (ls:List Lk) (m j:Nat):Prop:=∀S:Nat→Prop,S m→(∀l∈ls,S l.frm.toNat→S l.to.toNat)→S j
theorem RchF.self (ls:List Lk) (m:Nat):RchF ls m m:=fun _ h _=>h
theorem RchF.link {ls:List Lk} {m:Nat} {l:Lk} (w:l∈ls) (h:RchF ls m l.frm.toNat):RchF ls m l.to.toNat:=fun S z q=>q l w (h S z q)
def za0 (n m:Nat):List Bool:=(List.replicate n false).set m true
theorem zhr (n m:Nat):(za0 n m).length=n:=by rw[za0,List.length_set,List.length_replicate]
theorem zja {n m j:Nat} (h:(za0 n m)[j]? =some true):j=m:=by
 unfold za0 at h
 rw[List.getElem?_set] at h
 split at h
 ·next e=>exact e.symm
 ·rw[List.getElem?_replicate] at h
  split at h<;>cases h
theorem zhs {n m:Nat} (h:m<n):(za0 n m)[m]? =some true:=by
 unfold za0
 rw[List.getElem?_set,if_pos rfl,if_pos (by rw[List.length_replicate];exact h)]
theorem zwz {n m:Nat} (h:m<n):1≤zG (za0 n m):=by
 unfold zG
 exact List.count_pos_iff.2 (List.mem_of_getElem? (zhs h))
def zht (ls:List Lk) (n:Nat):Prop:=∀l∈ls,l.frm.toNat<n∧l.to.toNat<n
theorem zw0 {ls:List Lk} {n m:Nat} (D:m<n) (w:zht ls n) (j:Nat):(zaj ls n (za0 n m))[j]? =some true↔RchF ls m j:=by
 have z:=zhr n m
 constructor
 ·intro h S J I
  exact zhX (S:=S) I n (za0 n m) (fun k H=>by rw[zja H];exact J) j h
 ·intro h
  have q:=zfK ls n (za0 n m)
  rw[z] at q
  have A:zgE ls (zaj ls n (za0 n m)):=by
   rcases zk0 ls n (za0 n m) with k|k
   ·exact k
   ·have:=zdW (zaj ls n (za0 n m));have:=zwz D;omega
  exact h (fun j=>(zaj ls n (za0 n m))[j]? =some true) ((zhW ls n (za0 n m)).2 m (zhs D)) fun l E K=>A l E K (by rw[q];exact (w l E).2)
theorem zw1 {b c:List Bool} (w:b.length=c.length) (h: ∀j:Nat,b[j]? =some true↔c[j]? =some true):b=c:=zkz ⟨w,fun j q=>(h j).1 q⟩ ⟨w.symm,fun j q=>(h j).2 q⟩
def zd6 (a:Nat) (s:List Bool×List Nat) (l:Lk):List Bool×List Nat:=if l.frm=(a:Int)∧s.1.getD l.to.toNat true=false then (s.1.set l.to.toNat true,s.2++[l.to.toNat]) else s
def zyh (ls:List Lk) (a:Nat) (s:List Bool×List Nat):List Bool×List Nat:=ls.foldl (zd6 a) s
structure WkP (ls:List Lk) (n m a:Nat) (s:List Bool×List Nat):Prop where
 len:s.1.length=n
 self:s.1[m]? =some true
 at':s.1[a]? =some true
 low: ∀k∈s.2,s.1[k]? =some true
 sound: ∀j:Nat,s.1[j]? =some true→RchF ls m j
 shut: ∀j:Nat,s.1[j]? =some true→j=a∨j∈s.2∨∀l∈ls,l.frm.toNat=j→s.1[l.to.toNat]? =some true
 cnt:s.2.length≤zG s.1
theorem WkP.start {ls:List Lk} {n m:Nat} (q:m<n):WkP ls n m m (za0 n m,[]):=
 ⟨zhr n m,zhs q,zhs q,fun k w=>(by cases w),fun j h=>by rw[zja h];exact .self ls m,fun j h=>.inl (zja h),Nat.zero_le _⟩
structure WkK (ls:List Lk) (n m a:Nat) (s0:List Bool×List Nat) (k:Nat) (s:List Bool×List Nat):Prop where
 wk:WkP ls n m a s
 le:LeB s0.1 s.1
 done: ∀l∈ls.take k,l.frm.toNat=a→s.1[l.to.toNat]? =some true
 meas:s.2.length+zG s0.1=s0.2.length+zG s.1
theorem zmZ {b:List Bool} {k:Nat} (h:k<b.length):b.getD k true=false↔b[k]? =some false:=by
 rw[List.getD,List.getElem?_eq_getElem h]
 simp
theorem WkK.next {ls:List Lk} {n m a k:Nat} {X s:List Bool×List Nat} {l:Lk} (M:zht ls n) (hz: ∀l∈ls,0≤l.frm) (U:ls[k]? =some l) (h:WkK ls n m a X k s):WkK ls n m a X (k+1) (zd6 a s l):=by
 have N:=List.mem_of_getElem? U
 have aa:=(M l N).2
 have H:=h.wk.len
 obtain⟨K,L⟩:=List.getElem?_eq_some_iff.1 U
 have V: ∀x∈ls.take (k+1),x∈ls.take k∨x=l:=fun x w=>by
  rw[List.take_succ_eq_append_getElem K] at w
  rcases List.mem_append.1 w with w|w
  ·exact .inl w
  ·exact .inr (by rw[←L];exact List.mem_singleton.1 w)
 by_cases I:l.frm=(a:Int)∧s.1.getD l.to.toNat true=false
 ·have Y:=(zmZ (by omega)).1 I.2
  have O:zd6 a s l=(s.1.set l.to.toNat true,s.2++[l.to.toNat]):=if_pos I
  have E:=LeB.set s.1 l.to.toNat
  have z:(s.1.set l.to.toNat true)[l.to.toNat]? =some true:=by rw[List.getElem?_set,if_pos rfl,if_pos (by omega)]
  have A:l.frm.toNat=a:=by rw[I.1,Int.toNat_natCast]
  rw[O]
  refine⟨⟨by rw[List.length_set];exact H,E.2 _ h.wk.self,E.2 _ h.wk.at',fun j q=>?_,fun j q=>?_,fun j q=>?_,?_⟩,h.le.trans E,fun x w e=>?_,?_⟩
  ·rcases List.mem_append.1 q with q|q
   ·exact E.2 _ (h.wk.low j q)
   ·rw[List.mem_singleton.1 q];exact z
  ·have q:(s.1.set l.to.toNat true)[j]? =some true:=q
   rw[List.getElem?_set] at q
   split at q
   ·next e=>rw[←e];exact .link N (by rw[A];exact h.wk.sound a h.wk.at')
   ·exact h.wk.sound j q
  ·have q:(s.1.set l.to.toNat true)[j]? =some true:=q
   rw[List.getElem?_set] at q
   split at q
   ·next e=>exact .inr (.inl (List.mem_append_right _ (List.mem_singleton.2 e.symm)))
   ·rcases h.wk.shut j q with e|e|e
    ·exact .inl e
    ·exact .inr (.inl (List.mem_append_left _ e))
    ·exact .inr (.inr fun x w J=>E.2 _ (e x w J))
  ·have:=h.wk.cnt
   have e:=zgF Y
   show (s.2++[l.to.toNat]).length≤zG (s.1.set l.to.toNat true)
   rw[e,List.length_append,List.length_singleton]
   omega
  ·rcases V x w with w|rfl
   ·exact E.2 _ (h.done x w e)
   ·exact z
  ·have:=h.meas
   have e:=zgF Y
   show (s.2++[l.to.toNat]).length+_=_+zG (s.1.set l.to.toNat true)
   rw[e,List.length_append,List.length_singleton]
   omega
 ·have O:zd6 a s l=s:=if_neg I
  rw[O]
  refine⟨h.wk,h.le,fun x w e=>?_,h.meas⟩
  rcases V x w with w|rfl
  ·exact h.done x w e
  ·have A:x.frm=(a:Int):=by have:=hz x N;omega
   have D: ¬s.1.getD x.to.toNat true=false:=fun k=>I ⟨A,k⟩
   rw[zmZ (by omega),List.getElem?_eq_getElem (by omega)] at D
   rw[List.getElem?_eq_getElem (by omega)]
   cases Z:s.1[x.to.toNat] with
   |true=>rfl
   |false=>rw[Z] at D;exact absurd rfl D
theorem WkK.first {ls:List Lk} {n m a:Nat} {s:List Bool×List Nat} (h:WkP ls n m a s):WkK ls n m a s 0 s:=⟨h,.refl _,fun x q=>(by cases q),rfl⟩
theorem WkK.over {ls:List Lk} {n m a:Nat} {E s:List Bool×List Nat} (z:m<n) (q:zht ls n) (h:WkK ls n m a E ls.length s) (A:s.2=[]):s.1=zaj ls n (za0 n m):=by
 refine zw1 (by rw[zfK,zhr];exact h.wk.len) fun j=>?_
 rw[zw0 z q]
 refine⟨h.wk.sound j,fun D=>D (fun j=>s.1[j]? =some true) h.wk.self fun l w H=>?_⟩
 rcases h.wk.shut _ H with e|e|e
 ·exact h.done l (by rw[List.take_length];exact w) e
 ·rw[A] at e;cases e
 ·exact e l w rfl
theorem WkK.pop {ls:List Lk} {n m a b:Nat} {H s:List Bool×List Nat} {z:List Nat} (h:WkK ls n m a H ls.length s) (q:s.2=z++[b]):WkP ls n m b (s.1,z):=by
 have I:b∈s.2:=by rw[q];exact List.mem_append_right _ (List.mem_singleton.2 rfl)
 refine⟨h.wk.len,h.wk.self,h.wk.low b I,fun k A=>h.wk.low k (by rw[q];exact List.mem_append_left _ A),h.wk.sound,fun j E=>?_,by have:=h.wk.cnt;rw[q,List.length_append] at this;show z.length≤zG s.1;omega⟩
 rcases h.wk.shut j E with e|e|e
 ·exact .inr (.inr fun l D w=>h.done l (by rw[List.take_length];exact D) (w.trans e))
 ·rw[q] at e
  rcases List.mem_append.1 e with e|e
  ·exact .inr (.inl e)
  ·exact .inl (List.mem_singleton.1 e)
 ·exact .inr (.inr e)
def GrC (f:FuncId):Prop:=∀(base:Nat) (G:GS) (g:Gr) (w:World),GrOwn w base G g→GdG g→Calls Tryz.prog f #[grD G g] w fun e w'=>SameOut (GrS g) e∧Below w.heap.size w w'
def zaT (g:Gr) (a b:Nat):Bool:=(zaj g.ls g.ms.length (za0 g.ms.length a)).getD b false
theorem GrS.links {g:Gr} (h:GrS g): ∀l∈g.ls,0≤l.frm∧l.frm<(g.ms.length:Int)∧0≤l.to∧l.to<(g.ms.length:Int):=by
 intro l z
 obtain⟨i,E⟩:=List.mem_iff_getElem?.1 z
 obtain⟨A,q,D,w,_⟩:=h.2.2.2.2.1.2 i l E
 rw[zco] at q w
 exact⟨A,q,D,w⟩
theorem zna {g:Gr} {a b:Nat} (q:b<g.ms.length):(zaj g.ls g.ms.length (za0 g.ms.length a))[b]? =some (zaT g a b):=by
 have h:b<(zaj g.ls g.ms.length (za0 g.ms.length a)).length:=by rw[zfK,zhr];exact q
 rw[zaT,List.getD,List.getElem?_eq_getElem h]
 rfl
def zyi (g:Gr):Prop:=GrS g∧∀l∈g.ls,zaT g l.to.toNat l.frm.toNat=false
def OwnBl (w:World) (base g n:Nat) (b:List Bool):Prop:=OwnR w base 4 1 ⟨some ⟨g,0,none⟩,n⟩ n (b.map .bool)
theorem OwnBl.len {w:World} {base g n:Nat} {b:List Bool} (h:OwnBl w base g n b):b.length=n:=by have:=h.1;rw[List.length_map] at this;omega
theorem OwnBl.cell {w:World} {base g n:Nat} {b:List Bool} (h:OwnBl w base g n b) {j:Nat} {v:Bool} (q:b[j]? =some v):w.cell? ⟨g,j,none⟩=some (.bool v):=by
 have D:=h.len
 have A:=(List.getElem?_eq_some_iff.1 q).1
 have z:w.ownsRow base 4 1 (.slice (some ⟨g,0,none⟩) n n) n (b.map .bool):=h
 rw[z.cellAt j (by omega),List.getElem?_map,q]
 rfl
theorem OwnBl.free {w:World} {base g n:Nat} {b:List Bool} (h:OwnBl w base g n b) (j:Nat):w.frozen? ⟨g,j,none⟩=false:=by
 have q:w.ownsRow base 4 1 (.slice (some ⟨g,0,none⟩) n n) n (b.map .bool):=h
 exact q.frozenAt j
theorem OwnBl.set {w:World} {base g n:Nat} {b:List Bool} (h:OwnBl w base g n b) (j:Nat) (v:Bool):OwnBl (w.setCell ⟨g,j,none⟩ (.bool v)) base g n (b.set j v):=by
 have q:w.ownsRow base 4 1 (.slice (some ⟨g,0,none⟩) n n) n (b.map .bool):=h
 unfold OwnBl OwnR
 rw[List.map_set]
 exact (q.stored j (.bool v)).1
theorem OwnBl.later {w q:World} {base g n:Nat} {b:List Bool} (h:OwnBl w base g n b) (z:Below w.heap.size w q):OwnBl q base g n b:=OwnR.later h z
theorem OwnBl.at {w:World} {base g n:Nat} {b:List Bool} (h:OwnBl w base g n b):base≤g∧g<w.heap.size:=⟨(h.typed rfl).1,(h.typed rfl).2.1⟩
theorem OwnBl.block {w:World} {base g n:Nat} {b:List Bool} (h:OwnBl w base g n b): ∃q,w.heap[g]? =some (.cells q 4 (0,0)):=(h.typed rfl).2.2
def zjb (w:World) (n:Nat) (b:List Bool) (e:Ending) (w':World):Prop:=∃g,e= .returned (.slice (some ⟨g,0,none⟩) n n)∧OwnBl w' w.heap.size g n b∧Below w.heap.size w w'
theorem Tryz.infoBl:(Tryz.prog.info? 4).map (fun i=>(i.zero,i.size,i.bytes))=some (some (.bool false),1,1):=by kernel_rfl
structure RchW (w W:World) (G:GS) (g:Gr) (gx gb n:Nat) (b:List Bool):Prop where
 x:Bk W gx (grC G g) 32
 r:OwnBl W w.heap.size gb n b
 ne:gx≠gb
 b:Below w.heap.size w W
theorem RchW.set {w W:World} {G:GS} {g:Gr} {z q n:Nat} {b:List Bool} (h:RchW w W G g z q n b) (j:Nat):RchW w (W.setCell ⟨q,j,none⟩ (.bool true)) G g z q n (b.set j true):=
 ⟨(heap_setCell_other W ⟨q,j,none⟩ z (.bool true) h.ne).trans h.x,h.r.set j true,h.ne,h.b.setCell h.r.at.1 _⟩
theorem znb {ls:List Lk} {i:Nat} {l:Lk} (h:ls[i]? =some l) (b:List Bool):zbh (ls.take (i+1)) b=zbQ (zbh (ls.take i) b) l:=by
 obtain⟨q,rfl⟩:=List.getElem?_eq_some_iff.1 h
 rw[List.take_succ_eq_append_getElem q,zbh,List.foldl_append]
 rfl
theorem zw2 (base:Nat) (G:GS) (g:Gr) (w:World) (ho:GrOwn w base G g) (hn:1≤g.ms.length) (aw:g.ms.length≤8) (hl:g.ls.length≤1048576) (hr: ∀l∈g.ls,0≤l.frm∧l.frm<(g.ms.length:Int)∧0≤l.to∧l.to<(g.ms.length:Int)):
  Calls Tryz.prog 30 #[grD G g] w fun e w'=>zjb w g.ms.length (zaj g.ls g.ms.length (zaZ g.ms.length)) e w':=by
 have HR:=zc (RowAt.of (f:=lkL) (m:=3) (fun _=>rfl) ho.ls)
 have HC:=zc hr
 clear ho hr
 obtain⟨i0,hi,ah,al,aj⟩:=info_parts Tryz.infoBl
 unfold grD
 go_enter Tryz.func30,Tryz.ntmps30
 go_upto_region 1 with fail
 obtain⟨z,L⟩: ∃z,z=w.heap.size:=⟨_,rfl⟩
 rw[←L]
 refine zu (R:=fun W=>Bk W z (grC G g) 32∧Below w.heap.size w W) (by rw[L];exact⟨heap_alloc_new w _,zak w _⟩) ?_
 rintro W0 ⟨hx,hb⟩
 have au:w.heap.size≤z:=by omega
 clear L
 have X0:=zc hx
 have N:=zc hb
 have ag:z<W0.heap.size:=(Array.getElem?_eq_some_iff.1 hx).1
 clear hx hb
 obtain⟨c0,Y,J,Z⟩:=zn X0.out
 go_wp2_with (first|(at_make;refine wpList_make_full W0 rfl _ _ 58 rfl w.heap.size 4 i0 _ 1 Tryz.underlying58 hi ah al .i64 .i64 _ _ g.ms.length (by rfl) (by rfl) rfl rfl (by rw[aj];omega) (by unfold maxLen;omega) N.out.size ?_))
 intro w1 q I
 have X:Below W0.heap.size W0 w1:=(Below.refl _ _).grown I (Nat.le_refl _) (fun k h=>by cases h)
 obtain⟨H,V⟩: ∃H,H=W0.heap.size:=⟨_,rfl⟩
 have RR:Hid (RchW w w1 G g z H g.ms.length (List.replicate g.ms.length false)):=by
  refine⟨X0.out.later X,?_,by omega,zZ N.out X⟩
  unfold OwnBl OwnR
  rw[toList_madeCells_one] at q
  rw[V,List.map_replicate]
  exact q
 rw[←V]
 clear q I X V X0 N ag c0 Y J Z
 obtain⟨c0,Y,J,Z⟩:=zn RR.out.x
 have f0:=RR.out.r.free 0
 have b0:=RR.out.r.cell (j:=0) (v:=false) (by rw[List.getElem?_replicate,if_pos (by omega)])
 have aq:(0:Int)<(g.ms.length:Int):=by omega
 have R1:=zc (RR.out.set 0)
 go_upto_region 3 with fail
 obtain⟨w2,aa⟩: ∃w2,w2=w1.setCell ⟨H,0,none⟩ (.bool true):=⟨_,rfl⟩
 rw[←aa] at R1 ⊢
 clear aa RR f0 b0 c0 Y J Z
 have am:(List.replicate g.ms.length false).length=g.ms.length:=List.length_replicate ..
 change Hid (RchW w w2 G g z H g.ms.length (zaZ g.ms.length)) at R1
 go_wp2
 go_loopg [4,5] g.ms.length (fun k s4 s5 wr=>∃r:Nat,s4= .int .i64 r∧r+k=g.ms.length∧RchW w wr G g z H g.ms.length (zaj g.ls r (zaZ g.ms.length)))
 case atStart=>exact⟨0,rfl,by omega,R1.out⟩
 case round=>
  obtain⟨r,rfl,hr,hw⟩:=hrel
  have RW:=zc hw
  clear hw R1
  obtain⟨c0,Y,J,Z⟩:=zn RW.out.x
  by_cases ao:r<g.ms.length
  ·have ad:(r:Int)<(g.ms.length:Int):=by omega
   obtain⟨r1,ab⟩: ∃r1,r1=r+1:=⟨_,rfl⟩
   have er:(r:Int)+1=(r1:Int):=by omega
   have M:=zc ab
   clear ab
   go_wp2
   clear c0 Y J Z
   go_loopg [5] g.ls.length (fun k s5 wq=>∃i:Nat,s5= .int .i64 i∧i+k=g.ls.length∧RchW w wq G g z H g.ms.length (zbh (g.ls.take i) (zaj g.ls r (zaZ g.ms.length))))
   case atStart=>exact⟨0,rfl,by omega,RW.out⟩
   case round=>
    obtain⟨i,rfl,an,hw⟩:=hrel
    have A:=zc hw
    clear hw
    obtain⟨c0,Y,J,Z⟩:=zn A.out.x
    by_cases ak:i<g.ls.length
    ·have af:(i:Int)<(g.ls.length:Int):=by omega
     obtain⟨l,E⟩: ∃l,g.ls[i]? =some l:=⟨_,List.getElem?_eq_getElem ak⟩
     obtain⟨y0,y1,y2,y3⟩:=HC.out l (List.mem_of_getElem? E)
     obtain⟨bl,ap,ae,hc⟩:=(HR.out.later A.out.b).get E
     have k0:=hc 0 _ rfl
     have k2:=hc 2 _ rfl
     have HN:=zc (znb E (zaj g.ls r (zaZ g.ms.length)))
     simp only[Nat.add_zero] at k0
     clear hc E
     obtain⟨fr,U⟩: ∃fr:Nat,l.frm=fr:=⟨l.frm.toNat,by omega⟩
     obtain⟨O,K⟩: ∃O:Nat,l.to=O:=⟨l.to.toNat,by omega⟩
     obtain⟨b,hb⟩: ∃b,b=zbh (g.ls.take i) (zaj g.ls r (zaZ g.ms.length)):=⟨_,rfl⟩
     rw[←hb] at A HN
     clear hb
     have ai:=A.out.r.len
     obtain⟨v,hv⟩: ∃v,b[fr]? =some v:=⟨_,List.getElem?_eq_getElem (by omega)⟩
     obtain⟨u,hu⟩: ∃u,b[O]? =some u:=⟨_,List.getElem?_eq_getElem (by omega)⟩
     have HS:Hid (zbQ b l=if v=true then b.set O true else b):=by
      show zbQ b l=_
      unfold zbQ
      rw[U,K,Int.toNat_natCast,Int.toNat_natCast,List.getD,hv]
      rfl
     have b0:=A.out.r.cell hv
     have b1:=A.out.r.cell hu
     have f1:=A.out.r.free O
     have ar:(fr:Int)<(g.ms.length:Int):=by omega
     have av:(O:Int)<(g.ms.length:Int):=by omega
     have Q1:=zc (A.out.set O)
     rw[U] at k0
     rw[K] at k2
     rw[ae] at J
     clear U K ae hv hu ai y0 y1 y2 y3
     obtain⟨i1,ac⟩: ∃i1,i1=i+1:=⟨_,rfl⟩
     have ei:(i:Int)+1=(i1:Int):=by omega
     have D:=zc ac
     clear ac
     cases v with
     |true=>
      go_wp2
      go_roundg (gk-1)
      case rel=>exact⟨i1,rfl,by have:=D.out;omega,by rw[D.out,HN.out,HS.out];exact Q1.out⟩
      case measure=>omega
     |false=>
      go_wp2
      go_roundg (gk-1)
      case rel=>exact⟨i1,rfl,by have:=D.out;omega,by rw[D.out,HN.out,HS.out];exact A.out⟩
      case measure=>omega
    ·have af: ¬(i:Int)<(g.ls.length:Int):=by omega
     have QE:Hid (RchW w wr G g z H g.ms.length (zaj g.ls r1 (zaZ g.ms.length))):=by
      show RchW ..
      rw[M.out,zhV]
      have:=A.out
      rw[List.take_of_length_le (by omega)] at this
      exact this
     go_wp2
     go_roundg (g.ms.length-r1)
     case rel=>exact⟨r1,rfl,by have:=M.out;omega,QE.out⟩
     case measure=>have:=M.out;omega
  ·have ad: ¬(r:Int)<(g.ms.length:Int):=by omega
   obtain rfl:r=g.ms.length:=by omega
   go_wp2
   go_ret
   exact⟨H,rfl,RW.out.r,RW.out.b⟩
structure GrW (w W:World) (G:GS) (g:Gr) (gx:Nat):Prop where
 x:Bk W gx (grC G g) 32
 b:Below w.heap.size w W
theorem GrW.later {w W z:World} {G:GS} {g:Gr} {q:Nat} (h:GrW w W G g q) (A:Below W.heap.size W z):GrW w z G g q:=⟨h.x.later A,zZ h.b A⟩
theorem GrOwn.rows {w:World} {base:Nat} {G:GS} {g:Gr} (h:GrOwn w base G g):RowS w G.pr.a g.ps∧RowAt w G.mr.a mdL 5 (G.sv.zip g.ms)∧RowAt w G.lr.a lkL 3 g.ls:=
 ⟨RowAt.of (f:=fun x=>[Value.string x]) (m:=1) (fun _=>rfl) h.ps,RowAt.of (f:=mdL) (m:=5) (fun _=>rfl) (zfa h.len h.ms),RowAt.of (f:=lkL) (m:=3) (fun _=>rfl) h.ls⟩
def GrTo (g:Gr) (i:Nat):Prop:=(∀j,j<i→zfc g.ps j)∧∀(j:Nat) (m:Md),j<i→g.ms[j]? =some m→MOk m∧zat m=0
theorem GrTo.next {g:Gr} {i:Nat} {m:Md} (h:GrTo g i) (w:g.ms[i]? =some m) (D:zfc g.ps i) (A:MOk m) (E:zat m=0):GrTo g (i+1):=by
 refine⟨fun j z=>?_,fun j x z q=>?_⟩
 ·by_cases e:j=i
  ·rw[e];exact D
  ·exact h.1 j (by omega)
 ·by_cases e:j=i
  ·rw[e,w] at q;cases q;exact⟨A,E⟩
  ·exact h.2 j x (by omega) q
theorem zw3 {g:Gr} {i:Nat} {m:Md} (w:i<g.ms.length) (q:g.ms[i]? =some m) (h: ¬(zfc g.ps i∧MOk m∧zat m=0)): ¬GrS g:=fun k=>h ⟨k.2.2.1 i w,k.2.2.2.1 m (List.mem_of_getElem? q)⟩
def zhu (g:Gr) (i:Nat) (l:Lk):Prop:=0≤l.frm∧l.frm<((zE g).length:Int)∧0≤l.to∧l.to<((zE g).length:Int)∧(∃s∈(zE g).getD l.frm.toNat [],s.toList=l.spec.toList)∧∀(k:Nat) (x:Lk),k<i→g.ls[k]? =some x→zU x≠zU l
def LkTo (g:Gr) (i:Nat):Prop:=∀(j:Nat) (l:Lk),j<i→g.ls[j]? =some l→zhu g j l
theorem LkTo.next {g:Gr} {i:Nat} {l:Lk} (h:LkTo g i) (z:g.ls[i]? =some l) (w:zhu g i l):LkTo g (i+1):=by
 intro j x A q
 by_cases e:j=i
 ·rw[e,z] at q;cases q;rw[e];exact w
 ·exact h j x (by omega) q
theorem zjc {g:Gr} {i:Nat} {l:Lk} (q:g.ls[i]? =some l) (h: ¬zhu g i l): ¬GrS g:=fun k=>h (k.2.2.2.2.1.2 i l q)
theorem zw4 {g:Gr} {i:Nat} {l:Lk} (D:g.ls[i]? =some l):
  (decide (l.frm<0)=true∧¬GrS g)∨(decide (l.frm<0)=false∧((decide ((g.ms.length:Int)≤l.frm)=true∧¬GrS g)∨(decide ((g.ms.length:Int)≤l.frm)=false∧((decide (l.to<0)=true∧¬GrS g)∨(decide (l.to<0)=false∧((decide ((g.ms.length:Int)≤l.to)=true∧¬GrS g)∨decide ((g.ms.length:Int)≤l.to)=false)))))):=by
 have h:=zjc D
 unfold zhu at h
 rw[zco] at h
 by_cases z:l.frm<0
 ·exact .inl ⟨decide_eq_true z,h fun k=>by omega⟩
 ·refine .inr ⟨decide_eq_false z,?_⟩
  by_cases q:(g.ms.length:Int)≤l.frm
  ·exact .inl ⟨decide_eq_true q,h fun k=>by omega⟩
  ·refine .inr ⟨decide_eq_false q,?_⟩
   by_cases A:l.to<0
   ·exact .inl ⟨decide_eq_true A,h fun k=>by omega⟩
   ·refine .inr ⟨decide_eq_false A,?_⟩
    by_cases w:(g.ms.length:Int)≤l.to
    ·exact .inl ⟨decide_eq_true w,h fun k=>by omega⟩
    ·exact .inr (decide_eq_false w)
theorem zw5 (x l:Lk):(x.frm=l.frm∧(x.spec.toList==l.spec.toList)=true∧zU x=zU l)∨(x.frm=l.frm∧(x.spec.toList==l.spec.toList)=false∧zU x≠zU l)∨(¬x.frm=l.frm∧zU x≠zU l):=by
 by_cases h:x.frm=l.frm
 ·cases q:(x.spec.toList==l.spec.toList) with
  |true=>exact .inl ⟨h,rfl,by unfold zU;rw[h,eq_of_beq q]⟩
  |false=>exact .inr (.inl ⟨h,rfl,fun e=>by rw[(Prod.mk.inj e).2] at q;simp at q⟩)
 ·exact .inr (.inr ⟨h,fun e=>h (Prod.mk.inj e).1⟩)
theorem zw6 {ls:List Lk} {j:Nat} {x l:Lk} (h: ∀(k:Nat) (x:Lk),k<j→ls[k]? =some x→zU x≠zU l) (w:ls[j]? =some x) (z:zU x≠zU l): ∀(k:Nat) (x:Lk),k<j+1→ls[k]? =some x→zU x≠zU l:=by
 intro k y A q
 by_cases e:k=j
 ·rw[e,w] at q;cases q;exact z
 ·exact h k y (by omega) q
theorem zw7 {g:Gr} {i:Nat} {m:Md} {p:ByteArray} (K:i<g.ms.length) (A:g.ms[i]? =some m) (I:g.ps.getD i sNone=p) (J:GrTo g i):
  (p.toList.isEmpty=true∧¬GrS g)∨(p.toList.isEmpty=false∧((((zaL p).toList==p.toList)=false∧¬GrS g)∨(((zaL p).toList==p.toList)=true∧((inL (g.ps.take i) p=true∧¬GrS g)∨(inL (g.ps.take i) p=false∧((¬MOk m∧¬GrS g)∨(MOk m∧((¬zat m=0∧¬GrS g)∨(zat m=0∧GrTo g (i+1)))))))))):=by
 have h:=zw3 K A
 have q:=fun a b c=>J.next A a b c
 unfold zfc at h q
 rw[I] at h q
 cases E:p.toList.isEmpty with
 |true=>exact .inl ⟨rfl,h fun k=>by rw[E] at k;exact absurd k.1.1 (by decide)⟩
 |false=>
  refine .inr ⟨rfl,?_⟩
  cases D:((zaL p).toList==p.toList) with
  |false=>exact .inl ⟨rfl,h fun k=>by rw[D] at k;exact absurd k.1.2.1 (by decide)⟩
  |true=>
   refine .inr ⟨rfl,?_⟩
   cases H:inL (g.ps.take i) p with
   |true=>exact .inl ⟨rfl,h fun k=>by rw[H] at k;exact absurd k.1.2.2 (by decide)⟩
   |false=>
    refine .inr ⟨rfl,?_⟩
    by_cases w:MOk m
    ·refine .inr ⟨w,?_⟩
     by_cases z:zat m=0
     ·exact .inr ⟨z,q ⟨E,D,H⟩ w z⟩
     ·exact .inl ⟨z,h fun k=>z k.2.2⟩
    ·exact .inl ⟨w,h fun k=>w k.2.1⟩
theorem zw8 (ai:zfR 28) (ag:zfS 29) (base:Nat) (G:GS) (g:Gr) (w:World) (ho:GrOwn w base G g) (hg:GdG g):
  Calls Tryz.prog 8 #[grD G g] w fun e w'=>SameOut (GrS g) e∧Below w.heap.size w w':=by
 have HO:=zc ho
 have HG:=zc hg
 have CM:=zc ai
 have CE:=zc ag
 have aP:=hg.pl
 have aN:=hg.ml
 have aH:=hg.ll
 clear ho hg ai ag
 unfold grD
 go_enter Tryz.func8,Tryz.ntmps8
 go_upto_region 1 with fail
 obtain⟨gx,aj⟩: ∃gx,gx=w.heap.size:=⟨_,rfl⟩
 rw[←aj]
 refine zu (R:=fun W=>GrW w W G g gx) (by rw[aj];exact⟨heap_alloc_new w _,zak w _⟩) ?_
 intro W0 hW
 have X0:=zc hW
 clear hW aj
 obtain⟨c0,c1,Z,cf⟩:=zn X0.out.x
 by_cases hn:1≤g.ms.length∧g.ms.length≤8
 case neg=>
  have HN:Hid (¬GrS g):=fun k=>hn k.1
  have D:inB (g.ms.length:Int) 1 8=false:=by unfold inB;simp;omega
  go_wp2_with (first|(go_at_call 25;refine (zfs _ _ _ _).mono ?_;rintro e w' ⟨rfl,rfl⟩;rw[D]))
  go_ret
  exact⟨zbz HN.out rfl,X0.out.b⟩
 have D:inB (g.ms.length:Int) 1 8=true:=by unfold inB;simp;omega
 obtain⟨an,aq⟩:=hn
 by_cases hp:g.ps.length=g.ms.length
 case neg=>
  have HN:Hid (¬GrS g):=fun k=>hp k.2.1
  have aD: ¬(g.ps.length:Int)=(g.ms.length:Int):=by omega
  go_wp2_with (first|(go_at_call 25;refine (zfs _ _ _ _).mono ?_;rintro e w' ⟨rfl,rfl⟩;rw[D]))
  go_ret
  exact⟨zbz HN.out rfl,X0.out.b⟩
 have aD:(g.ps.length:Int)=(g.ms.length:Int):=by omega
 go_wp2_with (first|(go_at_call 25;refine (zfs _ _ _ _).mono ?_;rintro e w' ⟨rfl,rfl⟩;rw[D]))
 have am:Hid (∀k,zas ((zE g).take k)≤1048576):=fun k=>Nat.le_trans (zik _ _) HG.out.rq
 clear c0 c1 Z cf D
 go_loopg [4,5] g.ms.length (fun k s4 s5 wr=>∃i:Nat,s5= .int .i64 i∧s4= .int .i64 (zas ((zE g).take i):Nat)∧i+k=g.ms.length∧GrTo g i∧GrW w wr G g gx)
 case atStart=>exact⟨0,rfl,rfl,by omega,⟨fun j hj=>absurd hj (Nat.not_lt_zero j),fun j m hj=>absurd hj (Nat.not_lt_zero j)⟩,X0.out⟩
 case round=>
  obtain⟨i,rfl,rfl,hi,ht,hw⟩:=hrel
  have X:=zc hw
  have TO:=zc ht
  clear hw ht X0
  have aL:=am.out i
  by_cases ae:i<g.ms.length
  ·have ac:(i:Int)<(g.ms.length:Int):=by omega
   have aI:(i:Int)<(g.ps.length:Int):=by omega
   obtain⟨p,af⟩: ∃p,g.ps[i]? =some p:=⟨_,List.getElem?_eq_getElem (by omega)⟩
   obtain⟨m,Y⟩: ∃m,g.ms[i]? =some m:=⟨_,List.getElem?_eq_getElem ae⟩
   obtain⟨S,hS⟩:=zec HO.out.len Y
   have OW:=zc (HO.out.later X.out.b)
   have OM:=zc (OW.out.md _ (List.mem_of_getElem? hS))
   have GM:=zc (HG.out.ms m (List.mem_of_getElem? Y))
   have HM:=zc Y
   have PD:Hid (g.ps.getD i sNone=p):=by show _=_;rw[List.getD,af];rfl
   have RQ:Hid ((zE g)[i]? =some m.rq):=by show _=_;rw[zE,List.getElem?_map,Y];rfl
   obtain⟨b1,o1,e1,k1⟩:=OW.out.rows.1.get af
   obtain⟨b2,o2,e2,k2⟩:=OW.out.rows.2.1.get hS
   have aJ:(i:Int)≤(G.pr.cap:Int):=by have:=OW.out.ps.cap;omega
   have C0:=zc (k1 0 _ rfl)
   have D0:=zc (k2 0 _ rfl)
   have D1:=zc (k2 1 _ rfl)
   have D2:=zc (k2 2 _ rfl)
   have D3:=zc (k2 3 _ rfl)
   have D4:=zc (k2 4 _ rfl)
   have aC:p.size≤9223372036854775807:=by have:=HG.out.ps p (List.mem_of_getElem? af);omega
   have RT:Hid (RowS wr G.pr.a (g.ps.take i)):=OW.out.rows.1.take i
   have aw:i=(g.ps.take i).length:=by rw[List.length_take];omega
   have cC: ∀d I,Calls Tryz.prog 26 #[.string p] (grow (redrawn wr d) I) fun e H=>e= .returned (.string (zaL p))∧∃q:Regrown,H=grow (redrawn wr q.d) q.os:=fun d I=>Calls.regrown_of (zwn p _ aC)
   have cI: ∀d I,Calls Tryz.prog 27 #[.slice (some ⟨b1,o1,none⟩) i G.pr.cap,.string p] (grow (redrawn wr d) I) fun e H=>e= .returned (.bool (inL (g.ps.take i) p))∧∃q:Regrown,H=grow (redrawn wr q.d) q.os:=fun d I=>Calls.regrown_of ((zgd (some ⟨b1,o1,none⟩) G.pr.cap i (g.ps.take i) p _ aw (e1▸RT.out.later (below_regrown wr d I)) (by omega)).mono fun e w' h=>⟨h.1,by rw[h.2];exact Below.refl _ _⟩)
   have cM: ∀(b:Bool),(b=true↔MOk m)→∀d I,Calls Tryz.prog 28 #[zl S m,.bool false] (grow (redrawn wr d) I) fun e H=>e= .returned (.bool b)∧∃q:Regrown,H=grow (redrawn wr q.d) q.os:=fun b hb d I=>Calls.regrown_of ((CM.out base S m _ (OM.out.later (below_regrown wr d I)) GM.out).mono fun e w' h=>⟨h.1.of hb,h.2⟩)
   have cE:MOk m→∀d I,Calls Tryz.prog 29 #[zl S m,.bool false] (grow (redrawn wr d) I) fun e H=>e= .returned (.int .i64 (zat m))∧∃q:Regrown,H=grow (redrawn wr q.d) q.os:=fun M d I=>Calls.regrown_of (CE.out base S m _ (OM.out.later (below_regrown wr d I)) GM.out M)
   unfold zl at cM cE
   obtain⟨C1,C2,C3,cf⟩:=zn X.out.x
   rw[e1] at C1
   rw[e2] at C2
   have Y1:=zc C1
   have Y2:=zc C2
   clear af Y hS k1 k2 e1 e2 C1 C2 C3 cf aw
   have ar:=zw7 ae HM.out PD.out TO.out
   rcases ar with ⟨h1,A⟩|⟨h1,⟨h2,A⟩|⟨h2,⟨h3,A⟩|⟨h3,⟨h4,A⟩|⟨h4,⟨h5,A⟩|⟨h5,A⟩⟩⟩⟩⟩
   all_goals have HX:=zc A
   all_goals clear A
   case' inr.inr.inr.inr.inl=>
    have q1:decide (zat m=0)=false:=decide_eq_false h5
    have q2:(zat m==0)=false:=q1
    have q3:(zat m !=0)=true:=by rw[bne,q2];rfl
   all_goals (
    go_wp2
    have z0:=cell_regrown C0.out
    have z1:=cell_regrown Y1.out
    have z2:=cell_regrown Y2.out
    have d0:=cell_regrown D0.out
    have d1:=cell_regrown D1.out
    have d2:=cell_regrown D2.out
    have d3:=cell_regrown D3.out
    have d4:=cell_regrown D4.out
    simp only[Nat.add_zero,Nat.mul_one] at z0 d0
    refine wp_region_quiet_below (by kernel_rfl) (by kernel_rfl) ?_
    repeat (go_big_quiet_step (first|with_reducible exact cC _ _|with_reducible exact cI _ _|with_reducible exact cM true (iff_of_true rfl h4) _ _|with_reducible exact cM false (by simp[h4]) _ _|with_reducible exact cE h4 _ _))
    refine wpQuiet_nil ?_
    intro w2 E
    obtain⟨q,z⟩:=E
    have V:=zc (X.out.later (zed z))
    clear z0 z1 z2 d0 d1 d2 d3 d4)
   all_goals first
    |(go_wp2;go_ret;exact⟨zbz HX.out rfl,V.out.b⟩)
    |(
     have E1:w2.cell? ⟨gx,1,none⟩=some (.slice (some ⟨b2,o2,none⟩) g.ms.length G.mr.cap):=by rw[z];exact cell_regrown Y2.out _ _
     have E0:w2.cell? ⟨b2,o2+i*5,none⟩=some (.slice S.rq.a m.rq.length S.rq.cap):=by rw[z];exact cell_regrown D0.out _ _
     obtain⟨U,J⟩: ∃U,U=i+1:=⟨_,rfl⟩
     have ei:(i:Int)+1=(U:Int):=by omega
     have aa:=zc J
     have aM:(zas ((zE g).take i):Int)+(m.rq.length:Int)=(zas ((zE g).take U):Nat):=by rw[J,zij RQ.out];omega
     have aQ:=am.out U
     clear J z cC cI cM cE
     go_wp2
     go_roundg (gk-1)
     case rel=>exact⟨U,rfl,rfl,by have:=aa.out;omega,by rw[aa.out];exact HX.out,V.out⟩
     case measure=>omega)
  ·have ac: ¬(i:Int)<(g.ms.length:Int):=by omega
   obtain rfl:i=g.ms.length:=by omega
   have HT:Hid (zas ((zE g).take g.ms.length)=zas (zE g)):=by show _=_;rw[List.take_of_length_le (by rw[zco];exact Nat.le_refl _)]
   obtain⟨c0,c1,Z,cf⟩:=zn X.out.x
   by_cases N:zas ((zE g).take g.ms.length)=g.ls.length
   case neg=>
    have HN:Hid (¬GrS g):=fun k=>N (HT.out.trans k.2.2.2.2.1.1)
    have ay: ¬((zas ((zE g).take g.ms.length):Nat):Int)=(g.ls.length:Int):=by omega
    clear N
    go_wp2
    go_ret
    exact⟨zbz HN.out rfl,X.out.b⟩
   have ay:((zas ((zE g).take g.ms.length):Nat):Int)=(g.ls.length:Int):=by omega
   have aB:=zc N
   clear N
   go_wp2
   have X1:=zc X.out
   clear c0 c1 Z cf X
   go_loopg [6] g.ls.length (fun k s6 wr=>∃i:Nat,s6= .int .i64 i∧i+k=g.ls.length∧LkTo g i∧GrW w wr G g gx)
   case atStart=>exact⟨0,rfl,by omega,(fun j l hj=>absurd hj (Nat.not_lt_zero j)),X1.out⟩
   case round=>
    obtain⟨i,rfl,hi,ht,hw⟩:=hrel
    have X:=zc hw
    have LT:=zc ht
    clear hw ht X1
    obtain⟨c0,c1,Z,cf⟩:=zn X.out.x
    by_cases ae:i<g.ls.length
    ·have ac:(i:Int)<(g.ls.length:Int):=by omega
     obtain⟨l,O⟩: ∃l,g.ls[i]? =some l:=⟨_,List.getElem?_eq_getElem ae⟩
     have HL:=zc O
     obtain⟨b1,o1,e1,k1⟩:=(HO.out.later X.out.b).rows.2.2.get O
     have k0:=k1 0 _ rfl
     have k2:=k1 2 _ rfl
     have k3:=k1 1 _ rfl
     simp only[Nat.add_zero] at k0
     rw[e1] at Z
     clear O k1
     go_upto_region 17 with fail
     obtain⟨gl,ak⟩: ∃gl,gl=wr.heap.size:=⟨_,rfl⟩
     rw[←ak]
     refine zu (R:=fun W=>GrW w W G g gx∧Bk W gl #[.int .i64 l.frm,.string l.spec,.int .i64 l.to] 57) ⟨X.out.later (zak wr _),by rw[ak];exact heap_alloc_new wr _⟩ ?_
     clear ak X k0 k2 k3 e1 c0 c1 Z cf
     rintro w1 ⟨A,O⟩
     have X:=zc A
     have L:=zc O
     clear A O
     have Z0:=zc (zn L.out).1
     have Z1:=zc (zn L.out).2.1
     have Z2:=zc (zn L.out).2.2.1
     have Y1:=zc (zn X.out.x).2.1
     have al:=zw4 HL.out
     rcases al with ⟨h1,A⟩|⟨h1,⟨h2,A⟩|⟨h2,⟨h3,A⟩|⟨h3,⟨h4,A⟩|h4⟩⟩⟩
     iterate 4
      ·have HX:=zc A
       clear A
       go_wp2
       have z0:=cell_regrown Z0.out
       have z2:=cell_regrown Z2.out
       have K:=cell_regrown Y1.out
       refine wp_region_quiet_below (by kernel_rfl) (by kernel_rfl) ?_
       repeat (go_big_quiet_step (fail))
       refine wpQuiet_nil ?_
       intro w2 E
       obtain⟨q,z⟩:=E
       have V:=zc (X.out.later (zed z))
       go_wp2
       go_ret
       exact⟨zbz HX.out rfl,V.out.b⟩
     have g1: ¬l.frm<0:=of_decide_eq_false h1
     have g2: ¬(g.ms.length:Int)≤l.frm:=of_decide_eq_false h2
     have g3: ¬l.to<0:=of_decide_eq_false h3
     have g4: ¬(g.ms.length:Int)≤l.to:=of_decide_eq_false h4
     obtain⟨m,Y⟩: ∃m,g.ms[l.frm.toNat]? =some m:=⟨_,List.getElem?_eq_getElem (by omega)⟩
     obtain⟨S,hS⟩:=zec HO.out.len Y
     have OW:=zc (HO.out.later X.out.b)
     obtain⟨b2,o2,e2,k2⟩:=OW.out.rows.2.1.get hS
     have D0:=zc (k2 0 _ rfl)
     have RS:=zc (RowS.of (OW.out.md _ (List.mem_of_getElem? hS)).rq)
     have aA:m.rq.length≤1048576:=by
      have:=(HG.out.ms m (List.mem_of_getElem? Y)).1
      unfold zbi at this
      omega
     have g5:0≤l.frm:=by omega
     have g6:l.frm<(g.ms.length:Int):=by omega
     have cI: ∀d I,Calls Tryz.prog 27 #[.slice S.rq.a m.rq.length S.rq.cap,.string l.spec] (grow (redrawn w1 d) I) fun e H=>e= .returned (.bool (inL m.rq l.spec))∧∃q:Regrown,H=grow (redrawn w1 q.d) q.os:=fun d I=>Calls.regrown_of ((zgd S.rq.a S.rq.cap m.rq.length m.rq l.spec _ rfl (RS.out.later (below_regrown w1 d I)) aA).mono fun e w' h=>⟨h.1,by rw[h.2];exact Below.refl _ _⟩)
     have HI:Hid (inL m.rq l.spec=true↔∃s∈(zE g).getD l.frm.toNat [],s.toList=l.spec.toList):=by
      show _↔_
      rw[List.getD,zE,List.getElem?_map,Y,zgG]
      exact⟨fun h=>⟨_,h,rfl⟩,fun⟨s,h,e⟩=>zku e▸h⟩
     have K:=Y1.out
     rw[e2] at K
     have Y2:=zc K
     have G3:Hid (0≤l.to∧l.to<(g.ms.length:Int)):=⟨by omega,by omega⟩
     clear Y hS k2 e2 K g1 g2 g3 g4
     cases D:inL m.rq l.spec with
     |false=>
      have HX:Hid (¬GrS g):=zjc HL.out fun k=>by rw[HI.out.2 k.2.2.2.2.1] at D;cases D
      go_wp2
      have z0:=cell_regrown Z0.out
      have z1:=cell_regrown Z1.out
      have z2:=cell_regrown Z2.out
      have K:=cell_regrown Y2.out
      have d0:=cell_regrown D0.out
      simp only[Nat.add_zero] at d0
      refine wp_region_quiet_below (by kernel_rfl) (by kernel_rfl) ?_
      repeat (go_big_quiet_step (with_reducible exact cI _ _))
      refine wpQuiet_nil ?_
      intro w2 E
      obtain⟨q,z⟩:=E
      have V:=zc (X.out.later (zed z))
      go_wp2
      go_ret
      exact⟨zbz HX.out rfl,V.out.b⟩
     |true=>
      go_wp2
      have z0:=cell_regrown Z0.out
      have z1:=cell_regrown Z1.out
      have z2:=cell_regrown Z2.out
      have K:=cell_regrown Y2.out
      have d0:=cell_regrown D0.out
      simp only[Nat.add_zero] at d0
      refine wp_region_quiet_below (by kernel_rfl) (by kernel_rfl) ?_
      repeat (go_big_quiet_step (with_reducible exact cI _ _))
      refine wpQuiet_nil ?_
      intro w2 E
      obtain⟨q,z⟩:=E
      have V:=zc (X.out.later (zed z))
      have LE:=zc (L.out.later (zed z))
      clear z z0 z1 z2 K d0
      go_wp2
      have aG:=zc D
      clear X L Z0 Z1 Z2 Y1 Y2 D0 OW RS cI D h1 h2 h3 h4
      have X2:=zc V.out
      have L2:=zc LE.out
      clear V LE
      go_loopg [8] i (fun k s8 wr=>∃j:Nat,s8= .int .i64 j∧j+k=i∧(∀(k:Nat) (x:Lk),k<j→g.ls[k]? =some x→zU x≠zU l)∧GrW w wr G g gx∧Bk wr gl #[.int .i64 l.frm,.string l.spec,.int .i64 l.to] 57)
      case atStart=>exact⟨0,rfl,by omega,(fun k x M=>absurd M (Nat.not_lt_zero k)),X2.out,L2.out⟩
      case round=>
       obtain⟨j,rfl,hj,M,A,O⟩:=hrel
       have X:=zc A
       have L:=zc O
       have KN:=zc M
       clear A O M X2 L2
       by_cases aF:j<i
       ·have au:(j:Int)<(i:Int):=by omega
        have aK:(j:Int)<(g.ls.length:Int):=by omega
        obtain⟨x,A⟩: ∃x,g.ls[j]? =some x:=⟨_,List.getElem?_eq_getElem (by omega)⟩
        obtain⟨b1,o1,e1,k1⟩:=(HO.out.later X.out.b).rows.2.2.get A
        have k0:=k1 0 _ rfl
        have k3:=k1 1 _ rfl
        obtain⟨c0,c1,Z,cf⟩:=zn X.out.x
        obtain⟨d0,d1,d2,df⟩:=zn L.out
        simp only[Nat.add_zero] at k0
        rw[e1] at Z
        have HX:=zc A
        clear A k1 e1
        obtain⟨j1,ab⟩: ∃j1,j1=j+1:=⟨_,rfl⟩
        have ej:(j:Int)+1=(j1:Int):=by omega
        have ad:=zc ab
        clear ab
        have al:(x.frm=l.frm∧(x.spec.toList==l.spec.toList)=true∧zU x=zU l)∨(x.frm=l.frm∧(x.spec.toList==l.spec.toList)=false∧zU x≠zU l)∨(¬x.frm=l.frm∧zU x≠zU l):=zw5 x l
        have C2:=zc Z
        have K0:=zc k0
        have K3:=zc k3
        have D0:=zc d0
        have D1:=zc d1
        clear c0 c1 Z cf d0 d1 d2 df k0 k3
        rcases al with ⟨K,y2,y3⟩|⟨K,y2,y3⟩|⟨K,y3⟩
        all_goals have Y3:=zc y3
        case' inl=>have q1:decide (x.frm=l.frm)=true:=decide_eq_true K
        case' inr.inl=>have q1:decide (x.frm=l.frm)=true:=decide_eq_true K
        case' inr.inr=>have q1:decide (x.frm=l.frm)=false:=decide_eq_false K
        all_goals (
         have q2:(x.frm==l.frm)=_:=q1
         clear K y3
         go_wp2
         have z0:=cell_regrown C2.out
         have z1:=cell_regrown K0.out
         have z2:=cell_regrown K3.out
         have z3:=cell_regrown D0.out
         have z4:=cell_regrown D1.out
         refine wp_region_quiet_below (by kernel_rfl) (by kernel_rfl) ?_
         repeat (go_big_quiet_step (fail))
         refine wpQuiet_nil ?_
         intro w2 E
         obtain⟨q,z⟩:=E
         have V:=zc (X.out.later (zed z))
         have LE:=zc (L.out.later (zed z))
         clear z z0 z1 z2 z3 z4
         first
         |(have HN:Hid (¬GrS g):=zjc HL.out fun k=>k.2.2.2.2.2 j x aF HX.out Y3.out
           go_wp2
           go_ret
           exact⟨zbz HN.out rfl,V.out.b⟩)
         |(go_wp2
           go_roundg (gk-1)
           case rel=>exact⟨j1,rfl,by have:=ad.out;omega,(by rw[ad.out];exact zw6 KN.out HX.out Y3.out),V.out,LE.out⟩
           case measure=>omega))
       ·have au: ¬(j:Int)<(i:Int):=by omega
        obtain rfl:j=i:=by omega
        obtain⟨U,J⟩: ∃U,U=j+1:=⟨_,rfl⟩
        have ei:(j:Int)+1=(U:Int):=by omega
        have aa:=zc J
        have aE:Hid (LkTo g U):=by
         rw[J]
         exact LT.out.next HL.out ⟨g5,by rw[zco];exact g6,G3.out.1,by rw[zco];exact G3.out.2,HI.out.1 aG.out,KN.out⟩
        clear J
        go_wp2
        go_roundg (g.ls.length-U)
        case rel=>exact⟨U,rfl,by have:=aa.out;omega,aE.out,X.out⟩
        case measure=>have:=aa.out;omega
    ·have ac: ¬(i:Int)<(g.ls.length:Int):=by omega
     obtain rfl:i=g.ls.length:=by omega
     have ah:Hid (zfJ (zE g) g.ls):=⟨HT.out.symm.trans aB.out,fun i l O=>LT.out i l (List.getElem?_eq_some_iff.1 O).1 O⟩
     have OW:=zc (HO.out.later X.out.b)
     have RG:Hid (∀l∈g.ls,0≤l.frm∧l.frm<(g.ms.length:Int)∧0≤l.to∧l.to<(g.ms.length:Int)):=fun l O=>by
      obtain⟨i,hi⟩:=List.mem_iff_getElem?.1 O
      have:=ah.out.2 i l hi
      rw[zco] at this
      exact⟨this.1,this.2.1,this.2.2.1,this.2.2.2.1⟩
     go_wp2_with fail
     have cR:=zw2 base G g wr OW.out an aq aH RG.out
     unfold grD at cR
     rw[hp] at cR
     refine cR.mono ?_
     clear cR
     rintro e w2 ⟨gb,rfl,ap,hb⟩
     have OB:=zc ap
     have HB:=zc (zZ X.out.b hb)
     clear ap hb c0 c1 Z cf
     obtain⟨b,hb⟩: ∃b,b=zaj g.ls g.ms.length (zaZ g.ms.length):=⟨_,rfl⟩
     have av:=zc hb
     rw[←hb] at OB
     clear hb
     have aO:=OB.out.len
     go_wp2
     go_loopg [10] g.ms.length (fun k az wr=>∃j:Nat,az= .int .i64 j∧j+k=g.ms.length∧(∀k,k<j→b[k]? =some true)∧wr=w2)
     case atStart=>exact⟨0,rfl,by omega,(fun k M=>absurd M (Nat.not_lt_zero k)),rfl⟩
     case round=>
      obtain⟨j,rfl,hj,M,rfl⟩:=hrel
      have KN:=zc M
      clear M
      by_cases ax:j<g.ms.length
      ·have ao:(j:Int)<(g.ms.length:Int):=by omega
       obtain⟨v,hv⟩: ∃v,b[j]? =some v:=⟨_,List.getElem?_eq_getElem (by omega)⟩
       have z0:=OB.out.cell hv
       have HV:=zc hv
       clear hv
       obtain⟨j1,ab⟩: ∃j1,j1=j+1:=⟨_,rfl⟩
       have ej:(j:Int)+1=(j1:Int):=by omega
       have ad:=zc ab
       clear ab
       cases v with
       |true=>
        have HK:Hid (∀k,k<j1→b[k]? =some true):=fun k M=>by
         by_cases e:k=j
         ·rw[e];exact HV.out
         ·exact KN.out k (by have:=ad.out;omega)
        go_wp2
        go_roundg (gk-1)
        case rel=>exact⟨j1,rfl,by have:=ad.out;omega,HK.out,rfl⟩
        case measure=>omega
       |false=>
        have HN:Hid (¬GrS g):=fun k=>by
         have h1:=k.2.2.2.2.2 j ax
         rw[←av.out,HV.out] at h1
         cases h1
        go_wp2
        go_ret
        exact⟨zbz HN.out rfl,HB.out⟩
      ·have ao: ¬(j:Int)<(g.ms.length:Int):=by omega
       obtain rfl:j=g.ms.length:=by omega
       have HY:Hid (GrS g):=⟨⟨an,aq⟩,hp,TO.out.1,(fun m Y=>by
        obtain⟨i,hi⟩:=List.mem_iff_getElem?.1 Y
        exact TO.out.2 i m (List.getElem?_eq_some_iff.1 hi).1 hi),ah.out,(fun k M=>by rw[←av.out];exact KN.out k M)⟩
       go_wp2
       go_ret
       exact⟨⟨true,rfl,by simp[HY.out]⟩,HB.out⟩
end Go.Proofs.YtgcbmogmniahjaaGreat
