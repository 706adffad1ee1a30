/-
  What impl.ReachOf and impl.Askers answer: the walks.
  What markText of the laws answers: the walk.
  Rows of the call's own that are marked cell by cell. No program is spoken of.
  What the laws' markers of lists answer: the walks.
  What the law's marking of a row of Links does (a Link has a Stmt's shape): made out of LawModMark's text of Stmts.
  What the law's marking of a graph does,whatever blocks its modules share.
  What the law's marking of a graph does: the walks of its modules and of the whole.
-/
import Derived.RangeFuncBox
import Derived.Test.YtgcbmogmniahjaaGreatCAsCycPreToImplReachIn
namespace Go.Proofs.YtgcbmogmniahjaaGreat
set_option maxRecDepth 100000
set_option maxHeartbeats 3200000
open Go.RowKit Go.PlainAid Go.Sort
theorem zxs (L:GrC 10) (base:Nat) (G:GS) (g:Gr) (z:Int) (w:World) (M:GrOwn w base G g) (H:GdG g):
  Calls Tryz.prog 44 #[grD G g,.int .i64 z] w fun e O=>SameOut (InG g z) e∧Below w.heap.size w O:=by
 have CG:=zc L
 have U:=zc H
 have aa:=H.ml
 obtain⟨E,h⟩: ∃E,E=w.alloc (.cells (grC G g) 32):=⟨_,rfl⟩
 have A:Hid (Below w.heap.size w E):=by rw[h];exact zc (zak w _)
 have X0:Hid (Bk E w.heap.size (grC G g) 32):=by rw[h];exact zc (heap_alloc_new w _)
 have Y:=zc (M.later A.out)
 clear M H L
 obtain⟨c0,V,X,cf⟩:=zn X0.out
 rw[h] at c0 V X
 unfold grD
 by_cases I:0≤z
 ·have N:=zc I
  by_cases K:z<(g.ms.length:Int)
  ·have Z:=zc K
   go_enter Tryz.func44,Tryz.ntmps44
   go_wp2_with fail
   rw[←h]
   refine (CG.out base G g E Y.out U.out).mono ?_
   rintro e w1 ⟨⟨b,rfl,J⟩,D⟩
   have q:Hid (b=true↔InG g z):=zc (J.trans ⟨fun k=>⟨k,N.out,Z.out⟩,fun k=>k.1⟩)
   have HW:=zc (A.out.trans (D.mono A.out.size))
   clear J D
   cases b<;>(
    go_wp2
    go_ret
    exact⟨⟨_,rfl,by simpa using q.out⟩,HW.out⟩)
  ·have q:Hid (false=true↔InG g z):=zc ⟨fun k=>(by cases k),fun k=>absurd k.2.2 K⟩
   go_enter Tryz.func44,Tryz.ntmps44
   go_wp2
   go_ret
   rw[←h]
   exact⟨⟨false,rfl,q.out⟩,A.out⟩
 ·have q:Hid (false=true↔InG g z):=zc ⟨fun k=>(by cases k),fun k=>absurd k.2.1 I⟩
  go_enter Tryz.func44,Tryz.ntmps44
  go_wp2
  go_ret
  rw[←h]
  exact⟨⟨false,rfl,q.out⟩,A.out⟩
theorem Tryz.infoItA:(Tryz.prog.info? 3).map (fun i=>(i.zero,i.size,i.bytes))=some (some (.int .i64 0),1,8):=by kernel_rfl
theorem zxt (g:Gr) (b A E q j:Nat) (U:Nat→Nat) (w:World) (h:ReAt w g b U) (H:w.heap[A]? =some (.cells #[.slice (some ⟨b,0,none⟩) g.ms.length g.ms.length] 71 (0,0))) (z:w.heap[E]? =some (.cells #[.int .i64 (q:Int)] 3 (0,0))) (I:q<g.ms.length) (M:j<g.ms.length):
  Calls Tryz.prog 50 #[.int .i64 (j:Int),.pointer (some ⟨A,0,none⟩),.pointer (some ⟨E,0,none⟩)] w fun e K=>e= .returned (.bool (zaT g j q))∧Below w.heap.size w K:=by
 obtain⟨V,_,D⟩:=h.2 j M
 have N:=D q I
 generalize zaT g j q=v at N ⊢
 have X:=Boxed.cell H
 have Y:=Boxed.cell z
 have J:(q:Int)<(g.ms.length:Int):=by omega
 have O:(j:Int)<(g.ms.length:Int):=by omega
 have L:Hid (Below w.heap.size w w):=zc (Below.refl _ _)
 clear h D H z
 go_enter Tryz.func50,Tryz.ntmps50
 go_wp2
 go_region
 all_goals
  go_wp2
  go_ret
  exact⟨rfl,L.out.drew⟩
theorem zxu (g:Gr) (b gc V z:Nat) (gs:Nat→Nat) (w:World) (h:ReAt w g b gs) (hc:w.heap[gc]? =some (.cells #[.slice (some ⟨b,0,none⟩) g.ms.length g.ms.length] 71 (0,0))) (hq:w.heap[V]? =some (.cells #[.int .i64 (z:Int)] 3 (0,0))) (hm:z<g.ms.length) (ae:g.ms.length≤8):
  Calls Tryz.prog 45 #[.slice (some ⟨b,0,none⟩) g.ms.length g.ms.length,.func (.func 50) #[] #[.pointer (some ⟨gc,0,none⟩),.pointer (some ⟨V,0,none⟩)]] w fun e w'=>∃a n J,e= .returned (.slice a n J)∧OutE itE 3 w' w.heap.size a n J (zbF g.ms.length fun j=>zaT g j z)∧Below w.heap.size w w':=by
 obtain⟨i0,hi,N,Y,aa⟩:=info_parts Tryz.infoItA
 have RA:=zc h
 have HC:=zc hc
 have HQ:=zc hq
 clear h hc hq
 go_enter Tryz.func45,Tryz.ntmps45
 have O0:Hid (OwnE itE (w.alloc (.cells #[] 3)) w.heap.size 3 w.heap.size 0 0 []):=zc (OwnE.nil itE w 3)
 have B0:Hid (Below w.heap.size w (w.alloc (.cells #[] 3))):=zc ((Below.refl _ _).alloc (Nat.le_refl _) _)
 go_wp2
 go_loopw [10,5,6] (fun i o _ wr=>∃(k K H q:Nat),k≤g.ms.length∧i= .int .i64 k∧o= .slice (some ⟨K,0,none⟩) H q∧Hid (OwnE itE wr w.heap.size 3 K H q (zbF k fun j=>zaT g j z))∧Hid (Below w.heap.size w wr)) (fun i _ _ _=>(g.ms.length-intOf i).toNat)
 case atStart=>exact⟨0,w.heap.size,0,0,Nat.zero_le _,rfl,rfl,O0,B0⟩
 case round=>
  obtain⟨k,K,H,q,hk,rfl,rfl,M,E⟩:=hrel
  clear O0 B0
  by_cases D:k<g.ms.length
  ·have ac:(k:Int)<(g.ms.length:Int):=by omega
   have A:=zc (znt (fun j=>zaT g j z) k)
   have ad:H≤8:=by have:=M.out.2;have:=zjj k fun j=>zaT g j z;omega
   go_wp2_with fail
   refine (zxt g b gc V z k gs wr (RA.out.later E.out) (zjl HC.out E.out) (zjl HQ.out E.out) hm D).mono ?_
   rintro e w2 ⟨rfl,U⟩
   have O2:=zc (M.out.later U)
   have L:=zc (E.out.trans (U.mono E.out.size))
   clear U M E
   cases hp:zaT g k z with
   |true=>
    have O:Hid ((zbF (k+1) fun j=>zaT g j z)=(zbF k fun j=>zaT g j z)++[Int.ofNat k]):=by show _=_;rw[A.out,if_pos hp]
    go_wp2_with (at_builtin;refine zji itE _ rfl _ _ 36 rfl w.heap.size 3 i0 _ 8 Tryz.underlying36 hi N Y aa rfl (by decide) K H q _ (by rfl) (O2.out.later ((Below.refl _ _).alloc (Nat.le_refl _) _)) w2.heap.size (Int.ofNat k) (by rfl) (by exact heap_alloc_new _ _) (by omega) ?_;intro g4 I w4 Z X ab)
    go_roundw
    case rel=>exact⟨k+1,g4,H+1,I,D,by go_num,by go_num,by rw[O.out];exact zc Z,zc ((L.out.alloc L.out.size _).grown X (L.out.alloc L.out.size _).size (fun j hj=>by cases hj;exact O2.out.blk.1))⟩
    case measure=>simp[intOf];omega
   |false=>
    have O:Hid ((zbF (k+1) fun j=>zaT g j z)=zbF k fun j=>zaT g j z):=by show _=_;rw[A.out,if_neg (by rw[hp];decide)]
    go_wp2
    go_roundw
    case rel=>exact⟨k+1,K,H,q,D,by go_num,rfl,by rw[O.out];exact O2,L⟩
    case measure=>simp[intOf];omega
  ·obtain rfl:k=g.ms.length:=by omega
   go_wp2
   go_ret
   exact⟨_,_,_,rfl,OutE.own M.out,E.out⟩
theorem znu (cG:GrC 10) (base:Nat) (G:GS) (g:Gr) (z:Int) (w:World) (ho:GrOwn w base G g) (U:GdG g):
  Calls Tryz.prog 21 #[grD G g,.int .i64 z] w (zjk g z (fun z j=>zaT g j z) w):=by
 have CG:=zc cG
 have HG:=zc U
 have N:=U.ll
 have O0:=zc ho
 clear ho U cG
 unfold grD
 go_enter Tryz.func21,Tryz.ntmps21
 go_upto_region 1 with fail
 have e1:(w.alloc (.cells (grC G g) 32)).heap.size=w.heap.size+1:=zg _ _
 refine zu (R:=fun W=>Bk W w.heap.size (grC G g) 32∧Bk W (w.heap.size+1) #[.int .i64 z] 3∧Below w.heap.size w W) ⟨zjl (heap_alloc_new w _) (zak _ _),(by have:=heap_alloc_new (w.alloc (.cells (grC G g) 32)) (.cells #[.int .i64 z] 3);rw[e1] at this;exact this),zZ (zak w _) (zak _ _)⟩ ?_
 clear e1
 rintro W0 ⟨hx,E,h⟩
 have X0:=zc hx
 have Q0:=zc E
 have Z:=zc h
 clear hx E h
 obtain⟨c0,Y,c2,cf⟩:=zn X0.out
 have cq:=Boxed.cell Q0.out
 go_wp2_with fail
 refine (zxs CG.out base G g z W0 (O0.out.later Z.out) HG.out).mono ?_
 rintro e w1 ⟨⟨b,rfl,I⟩,h⟩
 have X1:=zc (X0.out.later h)
 have Q1:=zc (Q0.out.later h)
 have M:=zc (zZ Z.out h)
 have V:=zc I
 clear I h c0 Y c2 cf cq X0 Q0 Z
 obtain⟨c0,Y,c2,cf⟩:=zn X1.out
 have cq:=Boxed.cell Q1.out
 cases b with
 |false=>
  go_wp2
  go_ret
  exact⟨none,0,0,_,rfl,OutE.nil _ _ _ _ _ _,M.out,fun k=>absurd (V.out.2 k) (by decide),fun _=>rfl⟩
 |true=>
  have J:Hid (InG g z):=V.out.1 (by simp)
  have LK:=zc J.out.1.links
  have D:g.ms.length≤8:=J.out.1.1.2
  obtain⟨H,rfl⟩: ∃H:Nat,z=(H:Int):=⟨z.toNat,by have:=J.out.2.1;omega⟩
  have aa:H<g.ms.length:=by have:=J.out.2.2;omega
  clear V
  go_wp2_with fail
  refine (zxr base G g w1 (O0.out.later M.out) D N LK.out).mono ?_
  rintro e A ⟨O,gs,rfl,q,h⟩
  have RA:=zc q
  have Q2:=zc (Q1.out.later h)
  have B2:=zc (zZ M.out h)
  clear q h c0 Y c2 cf cq X1 Q1 M
  go_upto_region 4 with fail
  refine zu (R:=fun W=>Bk W A.heap.size #[.slice (some ⟨O,0,none⟩) g.ms.length g.ms.length] 71∧Bk W (w.heap.size+1) #[.int .i64 (H:Int)] 3∧ReAt W g O gs∧Below w.heap.size w W) ⟨heap_alloc_new A _,Q2.out.later (zak A _),RA.out.later (zak A _),zZ B2.out (zak A _)⟩ ?_
  obtain⟨gc,L⟩: ∃gc,gc=A.heap.size:=⟨_,rfl⟩
  rw[←L]
  clear L RA Q2 B2
  rintro w3 ⟨hy,E,q,h⟩
  have Y3:=zc hy
  have Q3:=zc E
  have RA:=zc q
  have B3:=zc h
  clear hy E q h
  have cy:=Boxed.cell Y3.out
  go_wp2_with fail
  refine (zxu g O gc (w.heap.size+1) H gs w3 RA.out Y3.out Q3.out aa D).mono ?_
  rintro e w4 ⟨a,n,X,rfl,K,h⟩
  go_wp2
  go_ret
  refine⟨a,n,X,_,rfl,zxj K B3.out.size,zZ B3.out h,fun _=>rfl,fun k=>absurd J.out k⟩
def zcE:Nat→Nat→ByteArray→ByteArray
 |0,_,o=>o
 |f+1,k,o=>if k=0 then o else zcE f (k/10) (strOfNums [48+(k:Int)%10]++o)
def mtS (k:Nat):ByteArray:={data:=#[109]}++zcE k k {data:=#[]}
theorem zxv (f:Nat) (o:ByteArray):zcE f 0 o=o:=by cases f<;>rfl
theorem zxw {f k:Nat} {o:ByteArray} (h:k≤f) (w:0<k): ∃q,k/10≤q∧zcE f k o=zcE q (k/10) (strOfNums [48+(k:Int)%10]++o):=by
 match f,h with
 |0,h=>omega
 |f+1,h=>exact⟨f,by omega,by rw[zcE,if_neg (by omega)]⟩
theorem zdh (h:Nat) (w:World) (_:0<h) (N:h≤8000000):
  Calls Tryz.prog 72 #[.int .i64 h] w fun e K=>e= .returned (.string (mtS h))∧Below w.heap.size w K:=by
 go_enter Tryz.func72,Tryz.ntmps72
 go_wp2
 go_loopw [0,3] (fun i o wr=>∃(k f m:Nat) (x:ByteArray),i= .int .i64 k∧o= .string x∧k≤f∧k≤8000000∧zcE f k x=zcE h h {data:=#[]}∧x.size≤m∧k+m≤8000000∧Below w.heap.size w wr) (fun i _ _=>(intOf i).toNat)
 case atStart=>exact⟨h,h,0,_,rfl,rfl,Nat.le_refl _,N,rfl,Nat.le_refl _,by omega,Below.refl _ _⟩
 case round=>
  obtain⟨k,f,m,x,rfl,rfl,E,L,H,Y,V,A⟩:=hrel
  have J:Hid (zcE f k x=zcE h h {data:=#[]}):=H
  clear H
  by_cases M:0<k
  ·obtain⟨I,D,q⟩:=zxw (o:=x) E M
   have U:Hid (zcE I (k/10) (strOfNums [48+(k:Int)%10]++x)=zcE h h {data:=#[]}):=q.symm.trans J.out
   have q:=fun (w:World) (x:Int)=>zhx (P:=Tryz.prog) (src:=147) (dst:=9) Tryz.underlying147 Tryz.underlying5 Tryz.underlying9 w x
   have z:=fun x=>strOfNums_size [x]
   have O:k/10+1≤k:=by omega
   go_wp2
   go_roundw
   case rel=>exact⟨k/10,I,m+1,_,by go_num,rfl,D,by omega,U.out,by rw[ByteArray.size_append,z];simp;omega,by omega,A.alloc A.size _⟩
   case measure=>simp[intOf];omega
  ·obtain rfl:k=0:=by omega
   have X:Hid (x=zcE h h {data:=#[]}):=by have:=J.out;rw[zxv] at this;exact this
   go_wp2
   go_ret
   exact⟨za4 (by rw[X.out];rfl),A⟩
def FK (kd:Nat→Bool) (m k i:Nat):Value:=if kd (i%m) then .string (mtS (k+i)) else .int .i64 ((k+i:Nat):Int)
theorem zdi {h:Nat→Bool} {m k i c q:Nat} (w:i%m=c) (z:h c=true) (A:q=k+i):FK h m k i= .string (mtS q):=by rw[FK,w,z,A];rfl
theorem zdN {h:Nat→Bool} {m k i c q:Nat} (w:i%m=c) (z:h c=false) (A:q=k+i):FK h m k i= .int .i64 (q:Int):=by rw[FK,w,z,A];rfl
def OwnG (w:World) (base:Nat) (e:TypeId) (size:Nat) (r:Rw) (n:Nat) (F:Nat→Value) (c:Nat):Prop:=∃xs,OwnR w base e size r n xs∧∀i,i<c→xs[i]? =some (F i)
theorem OwnG.start {w:World} {base size n:Nat} {e:TypeId} {r:Rw} {xs:List Value} (h:OwnR w base e size r n xs) (F:Nat→Value):OwnG w base e size r n F 0:=⟨xs,h,fun i q=>absurd q (Nat.not_lt_zero i)⟩
theorem OwnG.keep {w q:World} {base size n c:Nat} {e:TypeId} {r:Rw} {F:Nat→Value} (h:OwnG w base e size r n F c) (z: ∀k,r.blk=some k→q.heap[k]? =w.heap[k]?):OwnG q base e size r n F c:=by
 obtain⟨E,D,A⟩:=h
 exact⟨E,D.keep z,A⟩
theorem OwnG.typed {w:World} {base size n c:Nat} {e:TypeId} {r:Rw} {F:Nat→Value} (h:OwnG w base e size r n F c) {k:Nat} (z:r.blk=some k):base≤k∧k<w.heap.size∧∃q,w.heap[k]? =some (.cells q e (0,0)):=by
 obtain⟨D,A,_⟩:=h
 exact A.typed z
theorem OwnG.later {w q:World} {base size n c:Nat} {e:TypeId} {r:Rw} {F:Nat→Value} (h:OwnG w base e size r n F c) (z:Below w.heap.size w q):OwnG q base e size r n F c:=h.keep fun k g=>z.block k (h.typed g).2.1
theorem OwnR.at {w:World} {base size n g:Nat} {e:TypeId} {r:Rw} {xs:List Value} (h:OwnR w base e size r n xs) (q:r.a=some ⟨g,0,none⟩):w.ownsRow base e size (.slice (some ⟨g,0,none⟩) n r.cap) n xs:=by
 unfold OwnR at h
 rw[q] at h
 exact h
theorem OwnG.has {w:World} {base size n c g:Nat} {e:TypeId} {r:Rw} {F:Nat→Value} (h:OwnG w base e size r n F c) (A:r.a=some ⟨g,0,none⟩) (i:Nat) (z:i<n*size): ∃v,w.cell? ⟨g,i,none⟩=some v:=by
 obtain⟨D,q,_⟩:=h
 rw[(q.at A).cellAt i z]
 exact⟨_,List.getElem?_eq_getElem (by rw[q.1];exact z)⟩
theorem OwnG.cell {w:World} {base size n c g:Nat} {e:TypeId} {r:Rw} {F:Nat→Value} (h:OwnG w base e size r n F c) (A:r.a=some ⟨g,0,none⟩) (i:Nat) (E:i<n*size) (D:i<c):w.cell? ⟨g,i,none⟩=some (F i):=by
 obtain⟨H,z,q⟩:=h
 rw[(z.at A).cellAt i E]
 exact q i D
theorem OwnG.free {w:World} {base size n c g:Nat} {e:TypeId} {r:Rw} {F:Nat→Value} (h:OwnG w base e size r n F c) (z:r.a=some ⟨g,0,none⟩) (i:Nat):w.frozen? ⟨g,i,none⟩=false:=by
 obtain⟨A,q,_⟩:=h
 exact (q.at z).frozenAt i
theorem zb1 {r:Rw} {g:Nat} (h:r.a=some ⟨g,0,none⟩):r.blk=some g:=by rw[Rw.blk,h];rfl
theorem OwnG.put {w:World} {base size n c g:Nat} {e:TypeId} {r:Rw} {F:Nat→Value} (h:OwnG w base e size r n F c) (z:r.a=some ⟨g,0,none⟩) (I:c<n*size) {v:Value} (A:F c=v):OwnG (w.setCell ⟨g,c,none⟩ v) base e size r n F (c+1):=by
 subst A
 obtain⟨E,q,D⟩:=h
 have H:=q.1
 refine⟨E.set c (F c),?_,fun i J=>?_⟩
 ·unfold OwnR
  rw[z]
  exact ((q.at z).stored c (F c)).1
 ·by_cases e:i=c
  ·subst e
   exact List.getElem?_set_self (by omega)
  ·rw[List.getElem?_set_ne (by omega)]
   exact D i (by omega)
theorem zcP (w:World) (b:Option Nat):w.grownBy w b:=⟨rfl,rfl,rfl,Nat.le_refl _,fun _ _ _=>rfl⟩
theorem znv {w A D:World} {b:Option Nat} (h:w.grownBy A b) (k:A.grownBy D b):w.grownBy D b:=
 ⟨k.os.trans h.os,k.tape.trans h.tape,k.output.trans h.output,Nat.le_trans h.size k.size,fun i z q=>(k.block i (Nat.lt_of_lt_of_le z h.size) q).trans (h.block i z q)⟩
theorem zdj {w q z:World} {b:Option Nat} (h:w.grownBy q b) (k:Below q.heap.size q z):w.grownBy z b:=
 znv h ⟨k.os,k.tape,k.output,k.size,fun i A _=>k.block i A⟩
theorem zb2 {w q:World} {g i:Nat} {u:Value} {b:Option Nat} (h:w.grownBy q b) (A:b=some g):w.grownBy (q.setCell ⟨g,i,none⟩ u) b:=
 znv h ⟨rfl,rfl,rfl,by show _≤(q.heap.modify _ _).size;simp,fun k _ z=>Below.heap_setCell q ⟨g,i,none⟩ u k (fun e=>z (by rw[A,e]))⟩
theorem zxx (A:Option Addr) (D h:Nat) (w:World):Calls Tryz.prog 47 #[.slice A 0 D,.int .i64 h] w fun e z=>e= .returned (.int .i64 h)∧z=w:=by
 go_enter Tryz.func47,Tryz.ntmps47
 go_wp2
 go_loopg [1,5] 1 (fun k q i wr=>k=1∧q= .int .i64 h∧i= .int .i64 0∧wr=w)
 case atStart=>exact⟨rfl,rfl,rfl,rfl⟩
 case round=>
  obtain⟨rfl,rfl,rfl,rfl⟩:=hrel
  go_wp2
  go_ret
  exact⟨rfl,rfl⟩
theorem zxy (base g n h:Nat) (r:Rw) (w:World) (h1:OwnG w base 9 1 r n (FK (fun _=>true) 1 h) 0) (e1:r.a=some ⟨g,0,none⟩) (hn:n≤1048576) (ah:0<h) (hk:h+n*1≤7900000):
  Calls Tryz.prog 47 #[.slice (some ⟨g,0,none⟩) n r.cap,.int .i64 h] w fun e w'=>e= .returned (.int .i64 ((h+n:Nat):Int))∧OwnG w' base 9 1 r n (FK (fun _=>true) 1 h) (n)∧w.grownBy w' r.blk:=by
 have H1:=zc h1
 have K:=zc e1
 clear h1 e1
 go_enter Tryz.func47,Tryz.ntmps47
 go_wp2
 go_loopg [1,5] n (fun k q i wr=>∃j:Nat,i= .int .i64 j∧j+k=n∧q= .int .i64 ((h+j:Nat):Int)∧OwnG wr base 9 1 r n (FK (fun _=>true) 1 h) (j)∧w.grownBy wr r.blk)
 case atStart=>exact⟨0,rfl,by omega,by simp,by exact H1.out,zcP _ _⟩
 case round=>
  obtain⟨j,rfl,hj,hq,ho,hg⟩:=hrel
  have A:=zc ho
  have N:=zc hg
  clear ho hg
  by_cases ag:j<n
  ·have O:(j:Int)<(n:Int):=by omega
   obtain⟨z,M⟩: ∃z:Nat,z=h+(j):=⟨_,rfl⟩
   rw[←M] at hq
   subst hq
   obtain⟨E,Z⟩: ∃E:Nat,E=z+1:=⟨_,rfl⟩
   have aj:(z:Int)+1=(E:Int):=by omega
   have aa:Hid (FK (fun _=>true) 1 h (j)= .string (mtS z)):=zdi (c:=0) (by omega) (by decide) (by omega)
   have HQ:Hid (E=h+(j+1)):=by show E=_;omega
   have ai:E≤7950000:=by omega
   have ae:0<z:=by omega
   have D:Hid (0<z∧z≤8000000):=⟨by omega,by omega⟩
   obtain⟨J,L⟩: ∃J,J=j+1:=⟨_,rfl⟩
   have ej:(j:Int)+1=(J:Int):=by omega
   have HJ:=zc L
   clear L M Z
   obtain⟨ak,af⟩:=A.out.has K.out (j) (by omega)
   have ad:=A.out.free K.out (j)
   go_wp2_with fail
   refine (zdh z _ D.out.1 D.out.2).mono ?_
   rintro e w0 ⟨rfl,H⟩
   have I:=zc (A.out.later H)
   have ac:=zc (zdj N.out H)
   clear H
   obtain⟨ab,X⟩:=I.out.has K.out (j) (by omega)
   have Y:=I.out.free K.out (j)
   have V:Hid (OwnG (w0.setCell ⟨g,j,none⟩ (.string (mtS z))) base 9 1 r n (FK (fun _=>true) 1 h) (j+1)):=I.out.put K.out (by omega) aa.out
   have U:Hid (w.grownBy (w0.setCell ⟨g,j,none⟩ (.string (mtS z))) r.blk):=zb2 ac.out (zb1 K.out)
   go_wp2
   go_roundg (gk-1)
   case rel=>exact⟨J,rfl,by have:=HJ.out;omega,by have:=HJ.out;have:=HQ.out;rw[show E=h+J from by omega],by have:=V.out;rw[show J=j+1 from by have:=HJ.out;omega];exact this,U.out⟩
   case measure=>omega
  ·have O: ¬(j:Int)<(n:Int):=by omega
   obtain rfl:j=n:=by omega
   subst hq
   go_wp2
   go_ret
   exact⟨rfl,A.out,N.out⟩
theorem znw (base n h:Nat) (r:Rw) (w:World) (E:OwnG w base 9 1 r n (FK (fun _=>true) 1 h) 0) (L:n≤1048576) (q:0<h) (I:h+n*1≤7900000):
  Calls Tryz.prog 47 #[.slice r.a n r.cap,.int .i64 h] w fun e A=>e= .returned (.int .i64 ((h+n:Nat):Int))∧OwnG A base 9 1 r n (FK (fun _=>true) 1 h) (n)∧w.grownBy A r.blk:=by
 by_cases H:n=0
 ·subst H
  refine (zxx _ _ h w).mono ?_
  rintro e M ⟨rfl,rfl⟩
  exact⟨by simp,by exact E,zcP _ _⟩
 ·obtain⟨J,D,K⟩:=E
  rcases D.nil_or with ⟨_,_,e⟩|⟨g,z⟩
  ·exact absurd e H
  ·rw[z]
   exact zxy base g n h r w ⟨J,D,K⟩ z L q I
theorem zxz (A:Option Addr) (D h:Nat) (w:World):Calls Tryz.prog 73 #[.slice A 0 D,.int .i64 h] w fun e z=>e= .returned (.int .i64 h)∧z=w:=by
 go_enter Tryz.func73,Tryz.ntmps73
 go_wp2
 go_loopg [1,5] 1 (fun k q i wr=>k=1∧q= .int .i64 h∧i= .int .i64 0∧wr=w)
 case atStart=>exact⟨rfl,rfl,rfl,rfl⟩
 case round=>
  obtain⟨rfl,rfl,rfl,rfl⟩:=hrel
  go_wp2
  go_ret
  exact⟨rfl,rfl⟩
theorem zx0 (base g n A:Nat) (r:Rw) (w:World) (h1:OwnG w base 95 3 r n (FK (fun _=>true) 3 A) 0) (e1:r.a=some ⟨g,0,none⟩) (hn:n≤1048576) (aV:0<A) (hk:A+n*3≤7900000):
  Calls Tryz.prog 73 #[.slice (some ⟨g,0,none⟩) n r.cap,.int .i64 A] w fun e w'=>e= .returned (.int .i64 ((A+n*3:Nat):Int))∧OwnG w' base 95 3 r n (FK (fun _=>true) 3 A) (n*3)∧w.grownBy w' r.blk:=by
 have H1:=zc h1
 have h:=zc e1
 clear h1 e1
 go_enter Tryz.func73,Tryz.ntmps73
 go_wp2
 go_loopg [1,5] n (fun k q i wr=>∃j:Nat,i= .int .i64 j∧j+k=n∧q= .int .i64 ((A+j*3:Nat):Int)∧OwnG wr base 95 3 r n (FK (fun _=>true) 3 A) (j*3)∧w.grownBy wr r.blk)
 case atStart=>exact⟨0,rfl,by omega,by simp,by rw[Nat.zero_mul];exact H1.out,zcP _ _⟩
 case round=>
  obtain⟨j,rfl,hj,hq,ho,hg⟩:=hrel
  have z:=zc ho
  have Z:=zc hg
  clear ho hg
  by_cases aU:j<n
  ·have ad:(j:Int)<(n:Int):=by omega
   obtain⟨I,ac⟩: ∃I:Nat,I=A+(j*3):=⟨_,rfl⟩
   rw[←ac] at hq
   subst hq
   obtain⟨J,aG⟩: ∃J:Nat,J=I+1:=⟨_,rfl⟩
   have a1:(I:Int)+1=(J:Int):=by omega
   obtain⟨H,aB⟩: ∃H:Nat,H=J+1:=⟨_,rfl⟩
   have aT:(J:Int)+1=(H:Int):=by omega
   obtain⟨N,ax⟩: ∃N:Nat,N=H+1:=⟨_,rfl⟩
   have aW:(H:Int)+1=(N:Int):=by omega
   have aC:Hid (FK (fun _=>true) 3 A (j*3)= .string (mtS I)):=zdi (c:=0) (by omega) (by decide) (by omega)
   have ay:Hid (FK (fun _=>true) 3 A (j*3+1)= .string (mtS J)):=zdi (c:=1) (by omega) (by decide) (by omega)
   have aJ:Hid (FK (fun _=>true) 3 A (j*3+2)= .string (mtS H)):=zdi (c:=2) (by omega) (by decide) (by omega)
   have HQ:Hid (N=A+(j*3+3)):=by show N=_;omega
   have aY:N≤7950000:=by omega
   have aQ:0<I:=by omega
   have M:Hid (0<I∧I≤8000000):=⟨by omega,by omega⟩
   have L:Hid (0<J∧J≤8000000):=⟨by omega,by omega⟩
   have K:Hid (0<H∧H≤8000000):=⟨by omega,by omega⟩
   obtain⟨Y,ab⟩: ∃Y,Y=j+1:=⟨_,rfl⟩
   have ej:(j:Int)+1=(Y:Int):=by omega
   have HJ:=zc ab
   clear ab ac aG aB ax
   obtain⟨aZ,aN⟩:=z.out.has h.out (j*3) (by omega)
   have aM:=z.out.free h.out (j*3)
   obtain⟨aX,aO⟩:=z.out.has h.out (j*3+1) (by omega)
   have aP:=z.out.free h.out (j*3+1)
   obtain⟨a0,aS⟩:=z.out.has h.out (j*3+2) (by omega)
   have aR:=z.out.free h.out (j*3+2)
   go_wp2_with fail
   refine (zdh I _ M.out.1 M.out.2).mono ?_
   rintro e w0 ⟨rfl,U⟩
   have D:=zc (z.out.later U)
   have aF:=zc (zdj Z.out U)
   clear U
   obtain⟨aE,ao⟩:=D.out.has h.out (j*3) (by omega)
   have av:=D.out.free h.out (j*3)
   obtain⟨aK,aw⟩:=D.out.has h.out (j*3+1) (by omega)
   have am:=D.out.free h.out (j*3+1)
   obtain⟨az,al⟩:=D.out.has h.out (j*3+2) (by omega)
   have ap:=D.out.free h.out (j*3+2)
   have ae:Hid (OwnG (w0.setCell ⟨g,j*3,none⟩ (.string (mtS I))) base 95 3 r n (FK (fun _=>true) 3 A) (j*3+1)):=D.out.put h.out (by omega) aC.out
   have aa:Hid (w.grownBy (w0.setCell ⟨g,j*3,none⟩ (.string (mtS I))) r.blk):=zb2 aF.out (zb1 h.out)
   go_wp2_with fail
   refine (zdh J _ L.out.1 L.out.2).mono ?_
   rintro e w1 ⟨rfl,X⟩
   have E:=zc (ae.out.later X)
   have aL:=zc (zdj aa.out X)
   clear X
   obtain⟨aA,an⟩:=E.out.has h.out (j*3+1) (by omega)
   have aq:=E.out.free h.out (j*3+1)
   obtain⟨aH,au⟩:=E.out.has h.out (j*3+2) (by omega)
   have aj:=E.out.free h.out (j*3+2)
   have ag:Hid (OwnG (w1.setCell ⟨g,j*3+1,none⟩ (.string (mtS J))) base 95 3 r n (FK (fun _=>true) 3 A) (j*3+1+1)):=E.out.put h.out (by omega) ay.out
   have af:Hid (w.grownBy (w1.setCell ⟨g,j*3+1,none⟩ (.string (mtS J))) r.blk):=zb2 aL.out (zb1 h.out)
   go_wp2_with fail
   refine (zdh H _ K.out.1 K.out.2).mono ?_
   rintro e w2 ⟨rfl,V⟩
   have O:=zc (ag.out.later V)
   have aD:=zc (zdj af.out V)
   clear V
   obtain⟨aI,ar⟩:=O.out.has h.out (j*3+2) (by omega)
   have ak:=O.out.free h.out (j*3+2)
   have ai:Hid (OwnG (w2.setCell ⟨g,j*3+2,none⟩ (.string (mtS H))) base 95 3 r n (FK (fun _=>true) 3 A) (j*3+2+1)):=O.out.put h.out (by omega) aJ.out
   have ah:Hid (w.grownBy (w2.setCell ⟨g,j*3+2,none⟩ (.string (mtS H))) r.blk):=zb2 aD.out (zb1 h.out)
   go_wp2
   go_roundg (gk-1)
   case rel=>exact⟨Y,rfl,by have:=HJ.out;omega,by have:=HJ.out;have:=HQ.out;rw[show N=A+Y*3 from by omega],by have:=ai.out;rw[show Y*3=j*3+2+1 from by have:=HJ.out;omega];exact this,ah.out⟩
   case measure=>omega
  ·have ad: ¬(j:Int)<(n:Int):=by omega
   obtain rfl:j=n:=by omega
   subst hq
   go_wp2
   go_ret
   exact⟨rfl,z.out,Z.out⟩
theorem zx1 (base n h:Nat) (r:Rw) (w:World) (E:OwnG w base 95 3 r n (FK (fun _=>true) 3 h) 0) (L:n≤1048576) (q:0<h) (I:h+n*3≤7900000):
  Calls Tryz.prog 73 #[.slice r.a n r.cap,.int .i64 h] w fun e A=>e= .returned (.int .i64 ((h+n*3:Nat):Int))∧OwnG A base 95 3 r n (FK (fun _=>true) 3 h) (n*3)∧w.grownBy A r.blk:=by
 by_cases H:n=0
 ·subst H
  refine (zxz _ _ h w).mono ?_
  rintro e M ⟨rfl,rfl⟩
  exact⟨by simp,by rw[Nat.zero_mul];exact E,zcP _ _⟩
 ·obtain⟨J,D,K⟩:=E
  rcases D.nil_or with ⟨_,_,e⟩|⟨g,z⟩
  ·exact absurd e H
  ·rw[z]
   exact zx0 base g n h r w ⟨J,D,K⟩ z L q I
theorem zx2 (A:Option Addr) (D h:Nat) (w:World):Calls Tryz.prog 74 #[.slice A 0 D,.int .i64 h] w fun e z=>e= .returned (.int .i64 h)∧z=w:=by
 go_enter Tryz.func74,Tryz.ntmps74
 go_wp2
 go_loopg [1,5] 1 (fun k q i wr=>k=1∧q= .int .i64 h∧i= .int .i64 0∧wr=w)
 case atStart=>exact⟨rfl,rfl,rfl,rfl⟩
 case round=>
  obtain⟨rfl,rfl,rfl,rfl⟩:=hrel
  go_wp2
  go_ret
  exact⟨rfl,rfl⟩
theorem zx3 (base g n A:Nat) (r:Rw) (w:World) (h1:OwnG w base 97 4 r n (FK (fun i=> !decide (i=0)) 4 A) 0) (e1:r.a=some ⟨g,0,none⟩) (hn:n≤1048576) (a3:0<A) (hk:A+n*4≤7900000):
  Calls Tryz.prog 74 #[.slice (some ⟨g,0,none⟩) n r.cap,.int .i64 A] w fun e w'=>e= .returned (.int .i64 ((A+n*4:Nat):Int))∧OwnG w' base 97 4 r n (FK (fun i=> !decide (i=0)) 4 A) (n*4)∧w.grownBy w' r.blk:=by
 have H1:=zc h1
 have h:=zc e1
 clear h1 e1
 go_enter Tryz.func74,Tryz.ntmps74
 go_wp2
 go_loopg [1,5] n (fun k q i wr=>∃j:Nat,i= .int .i64 j∧j+k=n∧q= .int .i64 ((A+j*4:Nat):Int)∧OwnG wr base 97 4 r n (FK (fun i=> !decide (i=0)) 4 A) (j*4)∧w.grownBy wr r.blk)
 case atStart=>exact⟨0,rfl,by omega,by simp,by rw[Nat.zero_mul];exact H1.out,zcP _ _⟩
 case round=>
  obtain⟨j,rfl,hj,hq,ho,hg⟩:=hrel
  have z:=zc ho
  have ab:=zc hg
  clear ho hg
  by_cases a2:j<n
  ·have af:(j:Int)<(n:Int):=by omega
   obtain⟨N,ae⟩: ∃N:Nat,N=A+(j*4):=⟨_,rfl⟩
   rw[←ae] at hq
   subst hq
   obtain⟨J,aJ⟩: ∃J:Nat,J=N+1:=⟨_,rfl⟩
   have ba:(N:Int)+1=(J:Int):=by omega
   obtain⟨I,aF⟩: ∃I:Nat,I=J+1:=⟨_,rfl⟩
   have a1:(J:Int)+1=(I:Int):=by omega
   obtain⟨E,aB⟩: ∃E:Nat,E=I+1:=⟨_,rfl⟩
   have a4:(I:Int)+1=(E:Int):=by omega
   obtain⟨X,aD⟩: ∃X:Nat,X=E+1:=⟨_,rfl⟩
   have a0:(E:Int)+1=(X:Int):=by omega
   have aH:Hid (FK (fun i=> !decide (i=0)) 4 A (j*4)= .int .i64 (N:Int)):=zdN (c:=0) (by omega) (by decide) (by omega)
   have aC:Hid (FK (fun i=> !decide (i=0)) 4 A (j*4+1)= .string (mtS J)):=zdi (c:=1) (by omega) (by decide) (by omega)
   have aN:Hid (FK (fun i=> !decide (i=0)) 4 A (j*4+2)= .string (mtS I)):=zdi (c:=2) (by omega) (by decide) (by omega)
   have aO:Hid (FK (fun i=> !decide (i=0)) 4 A (j*4+3)= .string (mtS E)):=zdi (c:=3) (by omega) (by decide) (by omega)
   have HQ:Hid (X=A+(j*4+4)):=by show X=_;omega
   have a7:X≤7950000:=by omega
   have aX:0<N:=by omega
   have L:Hid (0<J∧J≤8000000):=⟨by omega,by omega⟩
   have K:Hid (0<I∧I≤8000000):=⟨by omega,by omega⟩
   have M:Hid (0<E∧E≤8000000):=⟨by omega,by omega⟩
   obtain⟨Z,ad⟩: ∃Z,Z=j+1:=⟨_,rfl⟩
   have ej:(j:Int)+1=(Z:Int):=by omega
   have HJ:=zc ad
   clear ad ae aJ aF aB aD
   obtain⟨a8,aS⟩:=z.out.has h.out (j*4) (by omega)
   have aR:=z.out.free h.out (j*4)
   obtain⟨a6,aT⟩:=z.out.has h.out (j*4+1) (by omega)
   have aW:=z.out.free h.out (j*4+1)
   obtain⟨a9,aZ⟩:=z.out.has h.out (j*4+2) (by omega)
   have aY:=z.out.free h.out (j*4+2)
   obtain⟨a5,aV⟩:=z.out.has h.out (j*4+3) (by omega)
   have aU:=z.out.free h.out (j*4+3)
   have ag:Hid (OwnG (wr.setCell ⟨g,j*4,none⟩ (.int .i64 (N:Int))) base 97 4 r n (FK (fun i=> !decide (i=0)) 4 A) (j*4+1)):=z.out.put h.out (by omega) aH.out
   have ac:Hid (w.grownBy (wr.setCell ⟨g,j*4,none⟩ (.int .i64 (N:Int))) r.blk):=zb2 ab.out (zb1 h.out)
   go_wp2_with fail
   refine (zdh J _ L.out.1 L.out.2).mono ?_
   rintro e w1 ⟨rfl,Y⟩
   have D:=zc (ag.out.later Y)
   have aQ:=zc (zdj ac.out Y)
   clear Y
   obtain⟨aE,av⟩:=D.out.has h.out (j*4+1) (by omega)
   have aw:=D.out.free h.out (j*4+1)
   obtain⟨aK,ay⟩:=D.out.has h.out (j*4+2) (by omega)
   have am:=D.out.free h.out (j*4+2)
   obtain⟨aP,ap⟩:=D.out.has h.out (j*4+3) (by omega)
   have ao:=D.out.free h.out (j*4+3)
   have ai:Hid (OwnG (w1.setCell ⟨g,j*4+1,none⟩ (.string (mtS J))) base 97 4 r n (FK (fun i=> !decide (i=0)) 4 A) (j*4+1+1)):=D.out.put h.out (by omega) aC.out
   have ah:Hid (w.grownBy (w1.setCell ⟨g,j*4+1,none⟩ (.string (mtS J))) r.blk):=zb2 aQ.out (zb1 h.out)
   go_wp2_with fail
   refine (zdh I _ K.out.1 K.out.2).mono ?_
   rintro e w2 ⟨rfl,O⟩
   have H:=zc (ai.out.later O)
   have aI:=zc (zdj ah.out O)
   clear O
   obtain⟨aL,ax⟩:=H.out.has h.out (j*4+2) (by omega)
   have an:=H.out.free h.out (j*4+2)
   obtain⟨aG,ar⟩:=H.out.has h.out (j*4+3) (by omega)
   have az:=H.out.free h.out (j*4+3)
   have al:Hid (OwnG (w2.setCell ⟨g,j*4+2,none⟩ (.string (mtS I))) base 97 4 r n (FK (fun i=> !decide (i=0)) 4 A) (j*4+2+1)):=H.out.put h.out (by omega) aN.out
   have aj:Hid (w.grownBy (w2.setCell ⟨g,j*4+2,none⟩ (.string (mtS I))) r.blk):=zb2 aI.out (zb1 h.out)
   go_wp2_with fail
   refine (zdh E _ M.out.1 M.out.2).mono ?_
   rintro e w3 ⟨rfl,U⟩
   have V:=zc (al.out.later U)
   have aM:=zc (zdj aj.out U)
   clear U
   obtain⟨aA,au⟩:=V.out.has h.out (j*4+3) (by omega)
   have aq:=V.out.free h.out (j*4+3)
   have ak:Hid (OwnG (w3.setCell ⟨g,j*4+3,none⟩ (.string (mtS E))) base 97 4 r n (FK (fun i=> !decide (i=0)) 4 A) (j*4+3+1)):=V.out.put h.out (by omega) aO.out
   have aa:Hid (w.grownBy (w3.setCell ⟨g,j*4+3,none⟩ (.string (mtS E))) r.blk):=zb2 aM.out (zb1 h.out)
   go_wp2
   go_roundg (gk-1)
   case rel=>exact⟨Z,rfl,by have:=HJ.out;omega,by have:=HJ.out;have:=HQ.out;rw[show X=A+Z*4 from by omega],by have:=ak.out;rw[show Z*4=j*4+3+1 from by have:=HJ.out;omega];exact this,aa.out⟩
   case measure=>omega
  ·have af: ¬(j:Int)<(n:Int):=by omega
   obtain rfl:j=n:=by omega
   subst hq
   go_wp2
   go_ret
   exact⟨rfl,z.out,ab.out⟩
theorem zx4 (base n h:Nat) (r:Rw) (w:World) (E:OwnG w base 97 4 r n (FK (fun i=> !decide (i=0)) 4 h) 0) (L:n≤1048576) (q:0<h) (I:h+n*4≤7900000):
  Calls Tryz.prog 74 #[.slice r.a n r.cap,.int .i64 h] w fun e A=>e= .returned (.int .i64 ((h+n*4:Nat):Int))∧OwnG A base 97 4 r n (FK (fun i=> !decide (i=0)) 4 h) (n*4)∧w.grownBy A r.blk:=by
 by_cases H:n=0
 ·subst H
  refine (zx2 _ _ h w).mono ?_
  rintro e M ⟨rfl,rfl⟩
  exact⟨by simp,by rw[Nat.zero_mul];exact E,zcP _ _⟩
 ·obtain⟨J,D,K⟩:=E
  rcases D.nil_or with ⟨_,_,e⟩|⟨g,z⟩
  ·exact absurd e H
  ·rw[z]
   exact zx3 base g n h r w ⟨J,D,K⟩ z L q I
theorem zx5 (A:Option Addr) (D h:Nat) (w:World):Calls Tryz.prog 75 #[.slice A 0 D,.int .i64 h] w fun e z=>e= .returned (.int .i64 h)∧z=w:=by
 go_enter Tryz.func75,Tryz.ntmps75
 go_wp2
 go_loopg [1,5] 1 (fun k q i wr=>k=1∧q= .int .i64 h∧i= .int .i64 0∧wr=w)
 case atStart=>exact⟨rfl,rfl,rfl,rfl⟩
 case round=>
  obtain⟨rfl,rfl,rfl,rfl⟩:=hrel
  go_wp2
  go_ret
  exact⟨rfl,rfl⟩
theorem zx6 (base g n z:Nat) (r:Rw) (w:World) (h1:OwnG w base 102 3 r n (FK (fun i=>decide (i=1)) 3 z) 0) (e1:r.a=some ⟨g,0,none⟩) (hn:n≤1048576) (aC:0<z) (hk:z+n*3≤7900000):
  Calls Tryz.prog 75 #[.slice (some ⟨g,0,none⟩) n r.cap,.int .i64 z] w fun e w'=>e= .returned (.int .i64 ((z+n*3:Nat):Int))∧OwnG w' base 102 3 r n (FK (fun i=>decide (i=1)) 3 z) (n*3)∧w.grownBy w' r.blk:=by
 have H1:=zc h1
 have A:=zc e1
 clear h1 e1
 go_enter Tryz.func75,Tryz.ntmps75
 go_wp2
 go_loopg [1,5] n (fun k q i wr=>∃j:Nat,i= .int .i64 j∧j+k=n∧q= .int .i64 ((z+j*3:Nat):Int)∧OwnG wr base 102 3 r n (FK (fun i=>decide (i=1)) 3 z) (j*3)∧w.grownBy wr r.blk)
 case atStart=>exact⟨0,rfl,by omega,by simp,by rw[Nat.zero_mul];exact H1.out,zcP _ _⟩
 case round=>
  obtain⟨j,rfl,hj,hq,ho,hg⟩:=hrel
  have h:=zc ho
  have Z:=zc hg
  clear ho hg
  by_cases az:j<n
  ·have aa:(j:Int)<(n:Int):=by omega
   obtain⟨H,V⟩: ∃H:Nat,H=z+(j*3):=⟨_,rfl⟩
   rw[←V] at hq
   subst hq
   obtain⟨D,ah⟩: ∃D:Nat,D=H+1:=⟨_,rfl⟩
   have aG:(H:Int)+1=(D:Int):=by omega
   obtain⟨J,ap⟩: ∃J:Nat,J=D+1:=⟨_,rfl⟩
   have aE:(D:Int)+1=(J:Int):=by omega
   obtain⟨K,am⟩: ∃K:Nat,K=J+1:=⟨_,rfl⟩
   have aD:(J:Int)+1=(K:Int):=by omega
   have ai:Hid (FK (fun i=>decide (i=1)) 3 z (j*3)= .int .i64 (H:Int)):=zdN (c:=0) (by omega) (by decide) (by omega)
   have ao:Hid (FK (fun i=>decide (i=1)) 3 z (j*3+1)= .string (mtS D)):=zdi (c:=1) (by omega) (by decide) (by omega)
   have ak:Hid (FK (fun i=>decide (i=1)) 3 z (j*3+2)= .int .i64 (J:Int)):=zdN (c:=2) (by omega) (by decide) (by omega)
   have HQ:Hid (K=z+(j*3+3)):=by show K=_;omega
   have aF:K≤7950000:=by omega
   have aw:0<H:=by omega
   have I:Hid (0<D∧D≤8000000):=⟨by omega,by omega⟩
   obtain⟨M,N⟩: ∃M,M=j+1:=⟨_,rfl⟩
   have ej:(j:Int)+1=(M:Int):=by omega
   have HJ:=zc N
   clear N V ah ap am
   obtain⟨aH,ax⟩:=h.out.has A.out (j*3) (by omega)
   have ar:=h.out.free A.out (j*3)
   obtain⟨aB,au⟩:=h.out.has A.out (j*3+1) (by omega)
   have aq:=h.out.free A.out (j*3+1)
   obtain⟨aA,ay⟩:=h.out.has A.out (j*3+2) (by omega)
   have av:=h.out.free A.out (j*3+2)
   have ac:Hid (OwnG (wr.setCell ⟨g,j*3,none⟩ (.int .i64 (H:Int))) base 102 3 r n (FK (fun i=>decide (i=1)) 3 z) (j*3+1)):=h.out.put A.out (by omega) ai.out
   have ab:Hid (w.grownBy (wr.setCell ⟨g,j*3,none⟩ (.int .i64 (H:Int))) r.blk):=zb2 Z.out (zb1 A.out)
   go_wp2_with fail
   refine (zdh D _ I.out.1 I.out.2).mono ?_
   rintro e w1 ⟨rfl,L⟩
   have E:=zc (ac.out.later L)
   have an:=zc (zdj ab.out L)
   clear L
   obtain⟨al,ad⟩:=E.out.has A.out (j*3+1) (by omega)
   have ae:=E.out.free A.out (j*3+1)
   obtain⟨aj,ag⟩:=E.out.has A.out (j*3+2) (by omega)
   have af:=E.out.free A.out (j*3+2)
   have X:Hid (OwnG (w1.setCell ⟨g,j*3+1,none⟩ (.string (mtS D))) base 102 3 r n (FK (fun i=>decide (i=1)) 3 z) (j*3+1+1)):=E.out.put A.out (by omega) ao.out
   have U:Hid (w.grownBy (w1.setCell ⟨g,j*3+1,none⟩ (.string (mtS D))) r.blk):=zb2 an.out (zb1 A.out)
   have O:Hid (OwnG ((w1.setCell ⟨g,j*3+1,none⟩ (.string (mtS D))).setCell ⟨g,j*3+2,none⟩ (.int .i64 (J:Int))) base 102 3 r n (FK (fun i=>decide (i=1)) 3 z) (j*3+2+1)):=X.out.put A.out (by omega) ak.out
   have Y:Hid (w.grownBy ((w1.setCell ⟨g,j*3+1,none⟩ (.string (mtS D))).setCell ⟨g,j*3+2,none⟩ (.int .i64 (J:Int))) r.blk):=zb2 U.out (zb1 A.out)
   go_wp2
   go_roundg (gk-1)
   case rel=>exact⟨M,rfl,by have:=HJ.out;omega,by have:=HJ.out;have:=HQ.out;rw[show K=z+M*3 from by omega],by have:=O.out;rw[show M*3=j*3+2+1 from by have:=HJ.out;omega];exact this,Y.out⟩
   case measure=>omega
  ·have aa: ¬(j:Int)<(n:Int):=by omega
   obtain rfl:j=n:=by omega
   subst hq
   go_wp2
   go_ret
   exact⟨rfl,h.out,Z.out⟩
theorem zx7 (base n h:Nat) (r:Rw) (w:World) (E:OwnG w base 102 3 r n (FK (fun i=>decide (i=1)) 3 h) 0) (L:n≤1048576) (q:0<h) (I:h+n*3≤7900000):
  Calls Tryz.prog 75 #[.slice r.a n r.cap,.int .i64 h] w fun e A=>e= .returned (.int .i64 ((h+n*3:Nat):Int))∧OwnG A base 102 3 r n (FK (fun i=>decide (i=1)) 3 h) (n*3)∧w.grownBy A r.blk:=by
 by_cases H:n=0
 ·subst H
  refine (zx5 _ _ h w).mono ?_
  rintro e M ⟨rfl,rfl⟩
  exact⟨by simp,by rw[Nat.zero_mul];exact E,zcP _ _⟩
 ·obtain⟨J,D,K⟩:=E
  rcases D.nil_or with ⟨_,_,e⟩|⟨g,z⟩
  ·exact absurd e H
  ·rw[z]
   exact zx6 base g n h r w ⟨J,D,K⟩ z L q I
theorem zx8 (A:Option Addr) (D h:Nat) (w:World):Calls Tryz.prog 76 #[.slice A 0 D,.int .i64 h] w fun e z=>e= .returned (.int .i64 h)∧z=w:=by
 go_enter Tryz.func76,Tryz.ntmps76
 go_wp2
 go_loopg [1,5] 1 (fun k q i wr=>k=1∧q= .int .i64 h∧i= .int .i64 0∧wr=w)
 case atStart=>exact⟨rfl,rfl,rfl,rfl⟩
 case round=>
  obtain⟨rfl,rfl,rfl,rfl⟩:=hrel
  go_wp2
  go_ret
  exact⟨rfl,rfl⟩
theorem zx9 (base g n A:Nat) (r:Rw) (w:World) (h1:OwnG w base 100 6 r n (FK (fun i=>decide (i=2)||decide (i=3)) 6 A) 0) (e1:r.a=some ⟨g,0,none⟩) (hn:n≤1048576) (bi:0<A) (hk:A+n*6≤7900000):
  Calls Tryz.prog 76 #[.slice (some ⟨g,0,none⟩) n r.cap,.int .i64 A] w fun e w'=>e= .returned (.int .i64 ((A+n*6:Nat):Int))∧OwnG w' base 100 6 r n (FK (fun i=>decide (i=2)||decide (i=3)) 6 A) (n*6)∧w.grownBy w' r.blk:=by
 have H1:=zc h1
 have h:=zc e1
 clear h1 e1
 go_enter Tryz.func76,Tryz.ntmps76
 go_wp2
 go_loopg [1,5] n (fun k q i wr=>∃j:Nat,i= .int .i64 j∧j+k=n∧q= .int .i64 ((A+j*6:Nat):Int)∧OwnG wr base 100 6 r n (FK (fun i=>decide (i=2)||decide (i=3)) 6 A) (j*6)∧w.grownBy wr r.blk)
 case atStart=>exact⟨0,rfl,by omega,by simp,by rw[Nat.zero_mul];exact H1.out,zcP _ _⟩
 case round=>
  obtain⟨j,rfl,hj,hq,ho,hg⟩:=hrel
  have z:=zc ho
  have ac:=zc hg
  clear ho hg
  by_cases bh:j<n
  ·have ah:(j:Int)<(n:Int):=by omega
   obtain⟨J,af⟩: ∃J:Nat,J=A+(j*6):=⟨_,rfl⟩
   rw[←af] at hq
   subst hq
   obtain⟨O,aU⟩: ∃O:Nat,O=J+1:=⟨_,rfl⟩
   have br:(J:Int)+1=(O:Int):=by omega
   obtain⟨I,aO⟩: ∃I:Nat,I=O+1:=⟨_,rfl⟩
   have bg:(O:Int)+1=(I:Int):=by omega
   obtain⟨E,aL⟩: ∃E:Nat,E=I+1:=⟨_,rfl⟩
   have bj:(I:Int)+1=(E:Int):=by omega
   obtain⟨K,aN⟩: ∃K:Nat,K=E+1:=⟨_,rfl⟩
   have bf:(E:Int)+1=(K:Int):=by omega
   obtain⟨N,aZ⟩: ∃N:Nat,N=K+1:=⟨_,rfl⟩
   have bm:(K:Int)+1=(N:Int):=by omega
   obtain⟨U,a0⟩: ∃U:Nat,U=N+1:=⟨_,rfl⟩
   have bt:(N:Int)+1=(U:Int):=by omega
   have aR:Hid (FK (fun i=>decide (i=2)||decide (i=3)) 6 A (j*6)= .int .i64 (J:Int)):=zdN (c:=0) (by omega) (by decide) (by omega)
   have aM:Hid (FK (fun i=>decide (i=2)||decide (i=3)) 6 A (j*6+1)= .int .i64 (O:Int)):=zdN (c:=1) (by omega) (by decide) (by omega)
   have aX:Hid (FK (fun i=>decide (i=2)||decide (i=3)) 6 A (j*6+2)= .string (mtS I)):=zdi (c:=2) (by omega) (by decide) (by omega)
   have aY:Hid (FK (fun i=>decide (i=2)||decide (i=3)) 6 A (j*6+3)= .string (mtS E)):=zdi (c:=3) (by omega) (by decide) (by omega)
   have aQ:Hid (FK (fun i=>decide (i=2)||decide (i=3)) 6 A (j*6+4)= .int .i64 (K:Int)):=zdN (c:=4) (by omega) (by decide) (by omega)
   have aT:Hid (FK (fun i=>decide (i=2)||decide (i=3)) 6 A (j*6+5)= .int .i64 (N:Int)):=zdN (c:=5) (by omega) (by decide) (by omega)
   have HQ:Hid (U=A+(j*6+6)):=by show U=_;omega
   have bn:U≤7950000:=by omega
   have ba:0<J:=by omega
   have L:Hid (0<I∧I≤8000000):=⟨by omega,by omega⟩
   have M:Hid (0<E∧E≤8000000):=⟨by omega,by omega⟩
   obtain⟨Y,ae⟩: ∃Y,Y=j+1:=⟨_,rfl⟩
   have ej:(j:Int)+1=(Y:Int):=by omega
   have HJ:=zc ae
   clear ae af aU aO aL aN aZ a0
   obtain⟨bo,a2⟩:=z.out.has h.out (j*6) (by omega)
   have a1:=z.out.free h.out (j*6)
   obtain⟨bl,a4⟩:=z.out.has h.out (j*6+1) (by omega)
   have a8:=z.out.free h.out (j*6+1)
   obtain⟨bp,be⟩:=z.out.has h.out (j*6+2) (by omega)
   have bb:=z.out.free h.out (j*6+2)
   obtain⟨bk,a7⟩:=z.out.has h.out (j*6+3) (by omega)
   have a5:=z.out.free h.out (j*6+3)
   obtain⟨bs,bc⟩:=z.out.has h.out (j*6+4) (by omega)
   have a6:=z.out.free h.out (j*6+4)
   obtain⟨bq,a3⟩:=z.out.has h.out (j*6+5) (by omega)
   have a9:=z.out.free h.out (j*6+5)
   have ai:Hid (OwnG (wr.setCell ⟨g,j*6,none⟩ (.int .i64 (J:Int))) base 100 6 r n (FK (fun i=>decide (i=2)||decide (i=3)) 6 A) (j*6+1)):=z.out.put h.out (by omega) aR.out
   have ad:Hid (w.grownBy (wr.setCell ⟨g,j*6,none⟩ (.int .i64 (J:Int))) r.blk):=zb2 ac.out (zb1 h.out)
   have ak:Hid (OwnG ((wr.setCell ⟨g,j*6,none⟩ (.int .i64 (J:Int))).setCell ⟨g,j*6+1,none⟩ (.int .i64 (O:Int))) base 100 6 r n (FK (fun i=>decide (i=2)||decide (i=3)) 6 A) (j*6+1+1)):=ai.out.put h.out (by omega) aM.out
   have aj:Hid (w.grownBy ((wr.setCell ⟨g,j*6,none⟩ (.int .i64 (J:Int))).setCell ⟨g,j*6+1,none⟩ (.int .i64 (O:Int))) r.blk):=zb2 ad.out (zb1 h.out)
   go_wp2_with fail
   refine (zdh I _ L.out.1 L.out.2).mono ?_
   rintro e w2 ⟨rfl,V⟩
   have D:=zc (ak.out.later V)
   have aS:=zc (zdj aj.out V)
   clear V
   obtain⟨aV,aD⟩:=D.out.has h.out (j*6+2) (by omega)
   have aq:=D.out.free h.out (j*6+2)
   obtain⟨aP,aA⟩:=D.out.has h.out (j*6+3) (by omega)
   have aF:=D.out.free h.out (j*6+3)
   obtain⟨aJ,ax⟩:=D.out.has h.out (j*6+4) (by omega)
   have av:=D.out.free h.out (j*6+4)
   obtain⟨aH,aC⟩:=D.out.has h.out (j*6+5) (by omega)
   have au:=D.out.free h.out (j*6+5)
   have ap:Hid (OwnG (w2.setCell ⟨g,j*6+2,none⟩ (.string (mtS I))) base 100 6 r n (FK (fun i=>decide (i=2)||decide (i=3)) 6 A) (j*6+2+1)):=D.out.put h.out (by omega) aX.out
   have al:Hid (w.grownBy (w2.setCell ⟨g,j*6+2,none⟩ (.string (mtS I))) r.blk):=zb2 aS.out (zb1 h.out)
   go_wp2_with fail
   refine (zdh E _ M.out.1 M.out.2).mono ?_
   rintro e Z ⟨rfl,X⟩
   have H:=zc (ap.out.later X)
   have aW:=zc (zdj al.out X)
   clear X
   obtain⟨aI,aB⟩:=H.out.has h.out (j*6+3) (by omega)
   have ay:=H.out.free h.out (j*6+3)
   obtain⟨aK,ar⟩:=H.out.has h.out (j*6+4) (by omega)
   have aw:=H.out.free h.out (j*6+4)
   obtain⟨aG,az⟩:=H.out.has h.out (j*6+5) (by omega)
   have aE:=H.out.free h.out (j*6+5)
   have ao:Hid (OwnG (Z.setCell ⟨g,j*6+3,none⟩ (.string (mtS E))) base 100 6 r n (FK (fun i=>decide (i=2)||decide (i=3)) 6 A) (j*6+3+1)):=H.out.put h.out (by omega) aY.out
   have aa:Hid (w.grownBy (Z.setCell ⟨g,j*6+3,none⟩ (.string (mtS E))) r.blk):=zb2 aW.out (zb1 h.out)
   have ag:Hid (OwnG ((Z.setCell ⟨g,j*6+3,none⟩ (.string (mtS E))).setCell ⟨g,j*6+4,none⟩ (.int .i64 (K:Int))) base 100 6 r n (FK (fun i=>decide (i=2)||decide (i=3)) 6 A) (j*6+4+1)):=ao.out.put h.out (by omega) aQ.out
   have ab:Hid (w.grownBy ((Z.setCell ⟨g,j*6+3,none⟩ (.string (mtS E))).setCell ⟨g,j*6+4,none⟩ (.int .i64 (K:Int))) r.blk):=zb2 aa.out (zb1 h.out)
   have an:Hid (OwnG (((Z.setCell ⟨g,j*6+3,none⟩ (.string (mtS E))).setCell ⟨g,j*6+4,none⟩ (.int .i64 (K:Int))).setCell ⟨g,j*6+5,none⟩ (.int .i64 (N:Int))) base 100 6 r n (FK (fun i=>decide (i=2)||decide (i=3)) 6 A) (j*6+5+1)):=ag.out.put h.out (by omega) aT.out
   have am:Hid (w.grownBy (((Z.setCell ⟨g,j*6+3,none⟩ (.string (mtS E))).setCell ⟨g,j*6+4,none⟩ (.int .i64 (K:Int))).setCell ⟨g,j*6+5,none⟩ (.int .i64 (N:Int))) r.blk):=zb2 ab.out (zb1 h.out)
   go_wp2
   go_roundg (gk-1)
   case rel=>exact⟨Y,rfl,by have:=HJ.out;omega,by have:=HJ.out;have:=HQ.out;rw[show U=A+Y*6 from by omega],by have:=an.out;rw[show Y*6=j*6+5+1 from by have:=HJ.out;omega];exact this,am.out⟩
   case measure=>omega
  ·have ah: ¬(j:Int)<(n:Int):=by omega
   obtain rfl:j=n:=by omega
   subst hq
   go_wp2
   go_ret
   exact⟨rfl,z.out,ac.out⟩
theorem zxA (base n h:Nat) (r:Rw) (w:World) (E:OwnG w base 100 6 r n (FK (fun i=>decide (i=2)||decide (i=3)) 6 h) 0) (L:n≤1048576) (q:0<h) (I:h+n*6≤7900000):
  Calls Tryz.prog 76 #[.slice r.a n r.cap,.int .i64 h] w fun e A=>e= .returned (.int .i64 ((h+n*6:Nat):Int))∧OwnG A base 100 6 r n (FK (fun i=>decide (i=2)||decide (i=3)) 6 h) (n*6)∧w.grownBy A r.blk:=by
 by_cases H:n=0
 ·subst H
  refine (zx8 _ _ h w).mono ?_
  rintro e M ⟨rfl,rfl⟩
  exact⟨by simp,by rw[Nat.zero_mul];exact E,zcP _ _⟩
 ·obtain⟨J,D,K⟩:=E
  rcases D.nil_or with ⟨_,_,e⟩|⟨g,z⟩
  ·exact absurd e H
  ·rw[z]
   exact zx9 base g n h r w ⟨J,D,K⟩ z L q I
theorem zxB (A:Option Addr) (D h:Nat) (w:World):Calls Tryz.prog 49 #[.slice A 0 D,.int .i64 h] w fun e z=>e= .returned (.int .i64 h)∧z=w:=by
 go_enter Tryz.func49,Tryz.ntmps49
 go_wp2
 go_loopg [1,5] 1 (fun k q i wr=>k=1∧q= .int .i64 h∧i= .int .i64 0∧wr=w)
 case atStart=>exact⟨rfl,rfl,rfl,rfl⟩
 case round=>
  obtain⟨rfl,rfl,rfl,rfl⟩:=hrel
  go_wp2
  go_ret
  exact⟨rfl,rfl⟩
theorem zxC (base g n z:Nat) (r:Rw) (w:World) (h1:OwnG w base 57 3 r n (FK (fun i=>decide (i=1)) 3 z) 0) (e1:r.a=some ⟨g,0,none⟩) (hn:n≤1048576) (aC:0<z) (hk:z+n*3≤7900000):
  Calls Tryz.prog 49 #[.slice (some ⟨g,0,none⟩) n r.cap,.int .i64 z] w fun e w'=>e= .returned (.int .i64 ((z+n*3:Nat):Int))∧OwnG w' base 57 3 r n (FK (fun i=>decide (i=1)) 3 z) (n*3)∧w.grownBy w' r.blk:=by
 have H1:=zc h1
 have A:=zc e1
 clear h1 e1
 go_enter Tryz.func49,Tryz.ntmps49
 go_wp2
 go_loopg [1,5] n (fun k q i wr=>∃j:Nat,i= .int .i64 j∧j+k=n∧q= .int .i64 ((z+j*3:Nat):Int)∧OwnG wr base 57 3 r n (FK (fun i=>decide (i=1)) 3 z) (j*3)∧w.grownBy wr r.blk)
 case atStart=>exact⟨0,rfl,by omega,by simp,by rw[Nat.zero_mul];exact H1.out,zcP _ _⟩
 case round=>
  obtain⟨j,rfl,hj,hq,ho,hg⟩:=hrel
  have h:=zc ho
  have Z:=zc hg
  clear ho hg
  by_cases az:j<n
  ·have aa:(j:Int)<(n:Int):=by omega
   obtain⟨H,V⟩: ∃H:Nat,H=z+(j*3):=⟨_,rfl⟩
   rw[←V] at hq
   subst hq
   obtain⟨D,ah⟩: ∃D:Nat,D=H+1:=⟨_,rfl⟩
   have aG:(H:Int)+1=(D:Int):=by omega
   obtain⟨J,ap⟩: ∃J:Nat,J=D+1:=⟨_,rfl⟩
   have aE:(D:Int)+1=(J:Int):=by omega
   obtain⟨K,am⟩: ∃K:Nat,K=J+1:=⟨_,rfl⟩
   have aD:(J:Int)+1=(K:Int):=by omega
   have ai:Hid (FK (fun i=>decide (i=1)) 3 z (j*3)= .int .i64 (H:Int)):=zdN (c:=0) (by omega) (by decide) (by omega)
   have ao:Hid (FK (fun i=>decide (i=1)) 3 z (j*3+1)= .string (mtS D)):=zdi (c:=1) (by omega) (by decide) (by omega)
   have ak:Hid (FK (fun i=>decide (i=1)) 3 z (j*3+2)= .int .i64 (J:Int)):=zdN (c:=2) (by omega) (by decide) (by omega)
   have HQ:Hid (K=z+(j*3+3)):=by show K=_;omega
   have aF:K≤7950000:=by omega
   have aw:0<H:=by omega
   have I:Hid (0<D∧D≤8000000):=⟨by omega,by omega⟩
   obtain⟨M,N⟩: ∃M,M=j+1:=⟨_,rfl⟩
   have ej:(j:Int)+1=(M:Int):=by omega
   have HJ:=zc N
   clear N V ah ap am
   obtain⟨aH,ax⟩:=h.out.has A.out (j*3) (by omega)
   have ar:=h.out.free A.out (j*3)
   obtain⟨aB,au⟩:=h.out.has A.out (j*3+1) (by omega)
   have aq:=h.out.free A.out (j*3+1)
   obtain⟨aA,ay⟩:=h.out.has A.out (j*3+2) (by omega)
   have av:=h.out.free A.out (j*3+2)
   have ac:Hid (OwnG (wr.setCell ⟨g,j*3,none⟩ (.int .i64 (H:Int))) base 57 3 r n (FK (fun i=>decide (i=1)) 3 z) (j*3+1)):=h.out.put A.out (by omega) ai.out
   have ab:Hid (w.grownBy (wr.setCell ⟨g,j*3,none⟩ (.int .i64 (H:Int))) r.blk):=zb2 Z.out (zb1 A.out)
   go_wp2_with fail
   refine (zdh D _ I.out.1 I.out.2).mono ?_
   rintro e w1 ⟨rfl,L⟩
   have E:=zc (ac.out.later L)
   have an:=zc (zdj ab.out L)
   clear L
   obtain⟨al,ad⟩:=E.out.has A.out (j*3+1) (by omega)
   have ae:=E.out.free A.out (j*3+1)
   obtain⟨aj,ag⟩:=E.out.has A.out (j*3+2) (by omega)
   have af:=E.out.free A.out (j*3+2)
   have X:Hid (OwnG (w1.setCell ⟨g,j*3+1,none⟩ (.string (mtS D))) base 57 3 r n (FK (fun i=>decide (i=1)) 3 z) (j*3+1+1)):=E.out.put A.out (by omega) ao.out
   have U:Hid (w.grownBy (w1.setCell ⟨g,j*3+1,none⟩ (.string (mtS D))) r.blk):=zb2 an.out (zb1 A.out)
   have O:Hid (OwnG ((w1.setCell ⟨g,j*3+1,none⟩ (.string (mtS D))).setCell ⟨g,j*3+2,none⟩ (.int .i64 (J:Int))) base 57 3 r n (FK (fun i=>decide (i=1)) 3 z) (j*3+2+1)):=X.out.put A.out (by omega) ak.out
   have Y:Hid (w.grownBy ((w1.setCell ⟨g,j*3+1,none⟩ (.string (mtS D))).setCell ⟨g,j*3+2,none⟩ (.int .i64 (J:Int))) r.blk):=zb2 U.out (zb1 A.out)
   go_wp2
   go_roundg (gk-1)
   case rel=>exact⟨M,rfl,by have:=HJ.out;omega,by have:=HJ.out;have:=HQ.out;rw[show K=z+M*3 from by omega],by have:=O.out;rw[show M*3=j*3+2+1 from by have:=HJ.out;omega];exact this,Y.out⟩
   case measure=>omega
  ·have aa: ¬(j:Int)<(n:Int):=by omega
   obtain rfl:j=n:=by omega
   subst hq
   go_wp2
   go_ret
   exact⟨rfl,h.out,Z.out⟩
theorem zxD (base n h:Nat) (r:Rw) (w:World) (E:OwnG w base 57 3 r n (FK (fun i=>decide (i=1)) 3 h) 0) (L:n≤1048576) (q:0<h) (I:h+n*3≤7900000):
  Calls Tryz.prog 49 #[.slice r.a n r.cap,.int .i64 h] w fun e A=>e= .returned (.int .i64 ((h+n*3:Nat):Int))∧OwnG A base 57 3 r n (FK (fun i=>decide (i=1)) 3 h) (n*3)∧w.grownBy A r.blk:=by
 by_cases H:n=0
 ·subst H
  refine (zxB _ _ h w).mono ?_
  rintro e M ⟨rfl,rfl⟩
  exact⟨by simp,by rw[Nat.zero_mul];exact E,zcP _ _⟩
 ·obtain⟨J,D,K⟩:=E
  rcases D.nil_or with ⟨_,_,e⟩|⟨g,z⟩
  ·exact absurd e H
  ·rw[z]
   exact zxC base g n h r w ⟨J,D,K⟩ z L q I
def RowZ (w:World) (base:Nat) (e:TypeId) (size:Nat) (r:Rw) (n:Nat):Prop:=∃xs,OwnR w base e size r n xs
def MkT (e:TypeId) (size:Nat):Prop:=(e=9∧size=1)∨(e=95∧size=3)∨(e=97∧size=4)∨(e=102∧size=3)∨(e=100∧size=6)∨(e=57∧size=3)
theorem zjn:MkT 9 1:=.inl ⟨rfl,rfl⟩
theorem znx:MkT 95 3:=.inr (.inl ⟨rfl,rfl⟩)
theorem zny:MkT 97 4:=.inr (.inr (.inl ⟨rfl,rfl⟩))
theorem znz:MkT 102 3:=.inr (.inr (.inr (.inl ⟨rfl,rfl⟩)))
theorem zn0:MkT 100 6:=.inr (.inr (.inr (.inr (.inl ⟨rfl,rfl⟩))))
theorem zjo:MkT 57 3:=.inr (.inr (.inr (.inr (.inr ⟨rfl,rfl⟩))))
theorem MkT.one {e:TypeId} {s q:Nat} (h:MkT e s) (w:MkT e q):s=q∧0<s:=by
 rcases h with ⟨rfl,rfl⟩|⟨rfl,rfl⟩|⟨rfl,rfl⟩|⟨rfl,rfl⟩|⟨rfl,rfl⟩|⟨rfl,rfl⟩<;>rcases w with ⟨k,rfl⟩|⟨k,rfl⟩|⟨k,rfl⟩|⟨k,rfl⟩|⟨k,rfl⟩|⟨k,rfl⟩<;>first|exact⟨rfl,by decide⟩|exact absurd k (by decide)
theorem RowZ.marked {w w':World} {base D n n' size z:Nat} {e e':TypeId} {r r':Rw} (h:RowZ w D e' z r' n') (t':MkT e' z) (t:MkT e size) (h0:RowZ w base e size r n) (h1:RowZ w' base e size r n) (hg:w.grownBy w' r.blk):RowZ w' D e' z r' n':=by
 obtain⟨xs,hx⟩:=h
 by_cases hb: ∃q,r'.blk=some q∧r.blk=some q
 ·obtain⟨q,E,H⟩:=hb
  obtain⟨ys,hy⟩:=h0
  obtain⟨zs,hz⟩:=h1
  obtain⟨_,_,ak,hc⟩:=hx.typed E
  obtain⟨_,_,K,ac⟩:=hy.typed H
  rw[hc] at ac
  have e0:=Option.some.inj ac
  simp only[Obj.cells.injEq] at e0
  obtain⟨rfl,rfl,_⟩:=e0
  obtain⟨rfl,aa⟩:=t.one t'
  rcases hx.2 with ⟨U,_⟩|⟨g1,A,ab,U,aj,af,Y,ae,ag,_⟩
  ·simp only[Value.slice.injEq] at U
   rw[Rw.blk,U.1] at E
   cases E
  ·rcases hy.2 with ⟨O,_⟩|⟨g2,J,K,O,_,N,_,_,ah,_⟩
   ·simp only[Value.slice.injEq] at O
    rw[Rw.blk,O.1] at H
    cases H
   ·rcases hz.2 with ⟨V,_⟩|⟨g3,L,M,V,_,Z,_,_,X,_⟩
    ·simp only[Value.slice.injEq] at V
     rw[Rw.blk,V.1] at H
     cases H
    ·simp only[Value.slice.injEq] at U O V
     have q1:g1=q:=by rw[Rw.blk,U.1] at E;simpa [Value.ownBlock] using E
     have q2:g2=q:=by rw[Rw.blk,O.1] at H;simpa [Value.ownBlock] using H
     have q3:g3=q:=by rw[Rw.blk,V.1] at H;simpa [Value.ownBlock] using H
     subst q1
     rw[q2] at N
     rw[q3] at Z
     have ad:ab=K:=by
      rw[af] at N
      simpa using Option.some.inj N
     have ai:J=L:=O.2.2.symm.trans V.2.2
     have I:A=L:=by
      rw[←ai]
      have:A*size=J*size:=by rw[←ag,←ah,ad]
      exact Nat.eq_of_mul_eq_mul_right aa this
     refine⟨(M.toList.take (n'*size)),?_,.inr ⟨g1,A,M,by simp only[Value.slice.injEq];exact U,aj,Z,Y,ae,by rw[X,I],rfl⟩⟩
     rw[List.length_take,Array.length_toList,X,←I]
     exact Nat.min_eq_left (Nat.mul_le_mul_right _ Y)
 ·exact⟨xs,hx.keep fun k hk=>hg.block k (hx.typed hk).2.1 fun e=>hb ⟨k,hk,e.symm⟩⟩
structure Mkd (base:Nat) (w w':World):Prop where
 bel:Below base w w'
 rows: ∀{b s n:Nat} {e:TypeId} {r:Rw},MkT e s→RowZ w b e s r n→RowZ w' b e s r n
 off: ∀{j:Nat} {cur:Array Value} {t:TypeId},w.heap[j]? =some (.cells cur t (0,0))→(∀s,¬MkT t s)→w'.heap[j]? =w.heap[j]?
theorem Mkd.refl (base:Nat) (w:World):Mkd base w w:=⟨Below.refl _ _,fun _ h=>h,fun _ _=>rfl⟩
theorem Mkd.trans {base:Nat} {w z D:World} (h:Mkd base w z) (k:Mkd base z D):Mkd base w D:=
 ⟨h.bel.trans k.bel,fun t r=>k.rows t (h.rows t r),fun q A=>by
  have e:=h.off q A
  exact (k.off (e.trans q) A).trans e⟩
theorem Mkd.one {base size n:Nat} {w z:World} {e:TypeId} {r:Rw} (t:MkT e size) (N:RowZ w base e size r n) (M:RowZ z base e size r n) (D:w.grownBy z r.blk) (I:base≤w.heap.size):Mkd base w z:=by
 obtain⟨K,A⟩:=N
 refine⟨(Below.refl _ _).mono I|>.grown D I (fun j q=>(A.typed q).1),fun L h=>h.marked L t ⟨K,A⟩ M D,fun {j cur t2} q ht=>?_⟩
 refine D.block j (Array.getElem?_eq_some_iff.1 q).1 fun O=>?_
 obtain⟨_,_,H,J⟩:=A.typed O.symm
 rw[q] at J
 have E:=Option.some.inj J
 simp only[Obj.cells.injEq] at E
 exact ht size (E.2.1▸t)
def zbS (m:Md):Nat:=m.rq.length+m.im.length+m.ep.length+m.st.length+m.ex.length
structure MdS (w:World) (base:Nat) (S:Sv) (m:Md):Prop where
 rq:RowZ w base 9 1 S.rq m.rq.length
 im:RowZ w base 95 3 S.im m.im.length
 ep:RowZ w base 97 4 S.ep m.ep.length
 st:RowZ w base 102 3 S.st m.st.length
 ex:RowZ w base 100 6 S.ex m.ex.length
theorem MdS.of {w:World} {base:Nat} {S:Sv} {m:Md} (h:OwnMd w base S m):MdS w base S m:=⟨⟨_,h.rq⟩,⟨_,h.im⟩,⟨_,h.ep⟩,⟨_,h.st⟩,⟨_,h.ex⟩⟩
theorem MdS.later {w q:World} {base b:Nat} {S:Sv} {m:Md} (h:MdS w base S m) (k:Mkd b w q):MdS q base S m:=⟨k.rows zjn h.rq,k.rows znx h.im,k.rows zny h.ep,k.rows znz h.st,k.rows zn0 h.ex⟩
theorem OwnG.s {w:World} {base size n c:Nat} {e:TypeId} {r:Rw} {F:Nat→Value} (h:OwnG w base e size r n F c):RowZ w base e size r n:=by obtain⟨z,q,_⟩:=h;exact⟨z,q⟩
theorem RowZ.g {w:World} {base size n:Nat} {e:TypeId} {r:Rw} (h:RowZ w base e size r n) (F:Nat→Value):OwnG w base e size r n F 0:=by obtain⟨z,q⟩:=h;exact OwnG.start q F
theorem zn1: ∀s,¬MkT 54 s:=by
 intro s h
 rcases h with ⟨k,_⟩|⟨k,_⟩|⟨k,_⟩|⟨k,_⟩|⟨k,_⟩|⟨k,_⟩<;>exact absurd k (by decide)
theorem zxE {q:List Md} {j:Nat} {m:Md} (h:q[j]? =some m):((q.take (j+1)).map zbS).sum=((q.take j).map zbS).sum+zbS m:=by
 obtain⟨w,rfl⟩:=List.getElem?_eq_some_iff.1 h
 rw[List.take_succ_eq_append_getElem w,List.map_append,List.sum_append]
 simp
theorem zxF (h:List Md) (j:Nat):((h.take j).map zbS).sum≤(h.map zbS).sum:=by
 have e:h.map zbS=(h.take j).map zbS++(h.drop j).map zbS:=by rw[←List.map_append,List.take_append_drop]
 rw[e,List.sum_append]
 omega
theorem zxG (base:Nat) (mr:Rw) (U:List Sv) (D:List Md) (k:Nat) (w:World) (hu:U.length=D.length) (h:OwnR w base 54 5 mr D.length ((U.zip D).flatMap mdL)) (hm: ∀x∈U.zip D,MdS w base x.1 x.2) (hb:base≤w.heap.size) (hk:0<k) (ax:k≤1100000) (hs:(D.map zbS).sum≤1048576) (hn:D.length≤1048576):
  Calls Tryz.prog 48 #[.slice mr.a D.length mr.cap,.int .i64 (k:Int)] w fun e w'=>(∃k2:Nat,e= .returned (.int .i64 (k2:Int))∧k≤k2∧k2≤k+6*(D.map zbS).sum)∧Mkd base w w':=by
 have HM:=zc hm
 have HR:Hid (∀W,Mkd base w W→RowAt W mr.a mdL 5 (U.zip D)):=zc (fun W k=>RowAt.of (f:=mdL) (m:=5) (fun _=>rfl) (by
  rw[show (U.zip D).length=D.length from by rw[List.length_zip];omega]
  exact h.keep fun q hq=>by
   obtain⟨_,_,aw,hc⟩:=h.typed hq
   exact k.off hc zn1))
 have HU:=zc hu
 clear hm h hu
 go_enter Tryz.func48,Tryz.ntmps48
 go_wp2
 go_loopw [5,1] (fun i s wr=>∃j k':Nat,j≤D.length∧i= .int .i64 j∧s= .int .i64 k'∧k≤k'∧k'≤k+6*((D.take j).map zbS).sum∧Hid (Mkd base w wr)) (fun i _ _=>(D.length-intOf i).toNat)
 case atStart=>exact⟨0,k,Nat.zero_le _,rfl,rfl,Nat.le_refl _,by omega,zc (Mkd.refl _ _)⟩
 case round=>
  obtain⟨j,k',hj,rfl,rfl,al,af,M0⟩:=hrel
  by_cases ak:j<D.length
  ·have au:(j:Int)<(D.length:Int):=by omega
   obtain⟨⟨S,m⟩,hx⟩: ∃x,(U.zip D)[j]? =some x:=⟨_,List.getElem?_eq_getElem (by rw[List.length_zip];have:=HU.out;omega)⟩
   have ai:D[j]? =some m:=by
    rw[List.getElem?_zip_eq_some] at hx
    exact hx.2
   have M:=zc (HM.out _ (List.mem_of_getElem? hx))
   have K:=zxE ai
   have aj:=zxF D (j+1)
   have ac:zbS m=m.rq.length+m.im.length+m.ep.length+m.st.length+m.ex.length:=rfl
   rw[K,ac] at aj
   obtain⟨sj,am⟩: ∃sj,sj=((D.take j).map zbS).sum:=⟨_,rfl⟩
   rw[←am] at K aj af
   obtain⟨b,L,ah,_⟩:=(HR.out wr M0.out).get hx
   have HC:Hid (∀W,Mkd base w W→W.cell? ⟨b,L+j*5,none⟩=some (.slice S.rq.a m.rq.length S.rq.cap)∧W.cell? ⟨b,L+j*5+1,none⟩=some (.slice S.im.a m.im.length S.im.cap)∧W.cell? ⟨b,L+j*5+2,none⟩=some (.slice S.ep.a m.ep.length S.ep.cap)∧W.cell? ⟨b,L+j*5+3,none⟩=some (.slice S.st.a m.st.length S.st.cap)∧W.cell? ⟨b,L+j*5+4,none⟩=some (.slice S.ex.a m.ex.length S.ex.cap)):=zc (fun W kw=>by
    obtain⟨b',an,e,hc⟩:=(HR.out W kw).get hx
    rw[ah] at e
    cases e
    exact⟨hc 0 _ rfl,hc 1 _ rfl,hc 2 _ rfl,hc 3 _ rfl,hc 4 _ rfl⟩)
   rw[ah]
   clear hx ai ah
   obtain⟨Y,N,O,V,X⟩:=HC.out wr M0.out
   go_wp2_with fail
   refine (znw base m.rq.length k' S.rq wr ((M.out.later M0.out).rq.g _) (by omega) (by omega) (by omega)).mono ?_
   rintro e w1 ⟨rfl,z,A⟩
   have M1:Hid (Mkd base w w1):=zc (M0.out.trans (Mkd.one zjn (M.out.later M0.out).rq z.s A (Nat.le_trans hb M0.out.bel.size)))
   obtain⟨H,aa⟩: ∃q,q=k'+m.rq.length:=⟨_,rfl⟩
   rw[←aa]
   have ar:k'≤H∧H≤k'+m.rq.length:=by omega
   clear aa z A Y N O V X
   obtain⟨Y,N,O,V,X⟩:=HC.out w1 M1.out
   go_wp2_with fail
   refine (zx1 base m.im.length H S.im w1 ((M.out.later M1.out).im.g _) (by omega) (by omega) (by omega)).mono ?_
   rintro e w2 ⟨rfl,z,A⟩
   have M2:Hid (Mkd base w w2):=zc (M1.out.trans (Mkd.one znx (M.out.later M1.out).im z.s A (Nat.le_trans hb M1.out.bel.size)))
   obtain⟨I,Z⟩: ∃q,q=H+m.im.length*3:=⟨_,rfl⟩
   rw[←Z]
   have aq:H≤I∧I≤H+m.im.length*3:=by omega
   clear Z z A Y N O V X
   obtain⟨Y,N,O,V,X⟩:=HC.out w2 M2.out
   go_wp2_with fail
   refine (zx4 base m.ep.length I S.ep w2 ((M.out.later M2.out).ep.g _) (by omega) (by omega) (by omega)).mono ?_
   rintro e w3 ⟨rfl,z,A⟩
   have M3:Hid (Mkd base w w3):=zc (M2.out.trans (Mkd.one zny (M.out.later M2.out).ep z.s A (Nat.le_trans hb M2.out.bel.size)))
   obtain⟨J,ae⟩: ∃q,q=I+m.ep.length*4:=⟨_,rfl⟩
   rw[←ae]
   have ao:I≤J∧J≤I+m.ep.length*4:=by omega
   clear ae z A Y N O V X
   obtain⟨Y,N,O,V,X⟩:=HC.out w3 M3.out
   go_wp2_with fail
   refine (zx7 base m.st.length J S.st w3 ((M.out.later M3.out).st.g _) (by omega) (by omega) (by omega)).mono ?_
   rintro e w4 ⟨rfl,z,A⟩
   have M4:Hid (Mkd base w w4):=zc (M3.out.trans (Mkd.one znz (M.out.later M3.out).st z.s A (Nat.le_trans hb M3.out.bel.size)))
   obtain⟨E,ad⟩: ∃q,q=J+m.st.length*3:=⟨_,rfl⟩
   rw[←ad]
   have av:J≤E∧E≤J+m.st.length*3:=by omega
   clear ad z A Y N O V X
   obtain⟨Y,N,O,V,X⟩:=HC.out w4 M4.out
   go_wp2_with fail
   refine (zxA base m.ex.length E S.ex w4 ((M.out.later M4.out).ex.g _) (by omega) (by omega) (by omega)).mono ?_
   rintro e w5 ⟨rfl,z,A⟩
   have M5:Hid (Mkd base w w5):=zc (M4.out.trans (Mkd.one zn0 (M.out.later M4.out).ex z.s A (Nat.le_trans hb M4.out.bel.size)))
   obtain⟨ag,ab⟩: ∃q,q=E+m.ex.length*6:=⟨_,rfl⟩
   rw[←ab]
   have ap:E≤ag∧ag≤E+m.ex.length*6:=by omega
   clear ab z A Y N O V X
   go_wp2
   go_roundw
   case rel=>exact⟨j+1,ag,ak,by go_num,rfl,by omega,by rw[K,ac];omega,M5⟩
   case measure=>simp[intOf];omega
  ·obtain rfl:j=D.length:=by omega
   rw[List.take_length] at af
   go_wp2
   go_ret
   exact⟨⟨_,rfl,al,af⟩,M0.out⟩
theorem Mkd.below {base:Nat} {w q:World} (h:Below w.heap.size w q) (D:base≤w.heap.size):Mkd base w q:=
 ⟨h.mono D,fun _ k=>by obtain⟨A,E⟩:=k;exact⟨A,E.later h⟩,fun z _=>h.block _ (Array.getElem?_eq_some_iff.1 z).1⟩
theorem zn2: ∀s,¬MkT 32 s:=by
 intro s h
 rcases h with ⟨k,_⟩|⟨k,_⟩|⟨k,_⟩|⟨k,_⟩|⟨k,_⟩|⟨k,_⟩<;>exact absurd k (by decide)
theorem zxH (base:Nat) (G:GS) (g:Gr) (w:World) (ho:GrOwn w base G g) (U:base≤w.heap.size) (hs:g.ps.length+(g.ms.map zbS).sum+g.ls.length≤1048576) (hn:g.ms.length≤1048576):
  Calls Tryz.prog 17 #[grD G g,.int .i64 1] w fun e w'=>(∃k:Nat,e= .returned (.int .i64 (k:Int)))∧Mkd base w w':=by
 have L:=zc ho
 have I:=ho.len
 clear ho
 unfold grD
 go_enter Tryz.func17,Tryz.ntmps17
 go_upto_region 1 with fail
 refine zu (R:=fun W=>Bk W w.heap.size (grC G g) 32∧Below w.heap.size w W) ⟨heap_alloc_new w _,zak w _⟩ ?_
 rintro W0 ⟨X,A⟩
 have V:=zc X
 have M0:Hid (Mkd base w W0):=zc (Mkd.below A U)
 have P0:Hid (RowZ W0 base 9 1 G.pr g.ps.length):=zc ⟨_,L.out.ps.later A⟩
 clear X A
 obtain⟨N,J,K,M⟩:=zn V.out
 go_wp2_with fail
 refine (znw base g.ps.length 1 G.pr W0 (P0.out.g _) (by omega) (by omega) (by omega)).mono ?_
 rintro e E ⟨rfl,h,z⟩
 have N1:=Mkd.one zjn P0.out h.s z (Nat.le_trans U M0.out.bel.size)
 have D:=zc (M0.out.trans N1)
 have Y:Hid (Bk E w.heap.size (grC G g) 32):=zc ((N1.off V.out zn2).trans V.out)
 obtain⟨Z,H⟩: ∃q,q=1+g.ps.length:=⟨_,rfl⟩
 rw[←H]
 have aa:0<Z∧Z≤1+g.ps.length:=by omega
 have MS:Hid (OwnR E base 54 5 G.mr g.ms.length ((G.sv.zip g.ms).flatMap mdL)):=zc (L.out.ms.keep fun q hq=>by
  obtain⟨_,_,ac,hc⟩:=L.out.ms.typed hq
  exact D.out.off hc zn1)
 have MM:Hid (∀x∈G.sv.zip g.ms,MdS E base x.1 x.2):=zc (fun x X=>(MdS.of (L.out.md x X)).later D.out)
 have L1:Hid (RowZ E base 57 3 G.lr g.ls.length):=zc (D.out.rows zjo ⟨_,L.out.ls⟩)
 clear H h z N1 N J K M V M0 P0
 obtain⟨N,J,K,M⟩:=zn Y.out
 go_wp2_with fail
 refine (zxG base G.mr G.sv g.ms Z E I MS.out MM.out (Nat.le_trans U D.out.bel.size) aa.1 (by omega) (by omega) hn).mono ?_
 rintro e w2 ⟨⟨k2,rfl,ab,ad⟩,O⟩
 have M2:=zc (D.out.trans O)
 have X2:Hid (Bk w2 w.heap.size (grC G g) 32):=zc ((O.off Y.out zn2).trans Y.out)
 have L2:=zc (O.rows zjo L1.out)
 clear O N J K M Y D MS MM L1
 obtain⟨N,J,K,M⟩:=zn X2.out
 go_wp2_with fail
 refine (zxD base g.ls.length k2 G.lr w2 (L2.out.g _) (by omega) (by omega) (by omega)).mono ?_
 rintro e w3 ⟨rfl,h,z⟩
 have M3:=zc (M2.out.trans (Mkd.one zjo L2.out h.s z (Nat.le_trans U M2.out.bel.size)))
 clear h z N J K M X2 M2 L2
 go_wp2
 go_ret
 exact⟨⟨_,rfl⟩,M3.out⟩
end Go.Proofs.YtgcbmogmniahjaaGreat
