/- Facts and walks. -/
import Derived.RangeFuncBox
import Derived.Test.YtgcbmogmniahjaaGreatR62
namespace Go.Proofs.YtgcbmogmniahjaaGreat
open Nat (le_refl le_trans zero_mul)
open Go.Proofs.Tryz
set_option maxRecDepth 100000
set_option maxHeartbeats 3200000
open Go.RowKit Go.PlainAid Go.Sort
theorem zxs (L:GrC 10) (base:Nat) (G:GS) (g:Gr) (z:Int) (w:World) (M:GrOwn w base G g) (H:GdG g):
  Calls prog 44 #[grD G g,.int .i64 z] w fun e O=>SameOut (InG g z) e/\Bw w O:=by
 have CG:=zc L;have U:=zc H;have aa:=H.ml;obtain⟨E,h⟩: ∃E,E=w.alloc (.cells (grC G g) 32):=⟨_,rfl⟩;have A:Hid (Bw w E):=by rw[h];exact zc (zan w _)
 have X0:Hid (Bk E w.heap.size (grC G g) 32):=by rw[h];exact zc (heap_alloc_new w _)
 have Y:=zc (M.later A.o);clear M H L;obtain⟨c0,V,X,cf⟩:=zo X0.o;rw[h] at c0 V X;unfold grD;by_cases I:0<=z
 ·have N:=zc I;by_cases K:z<(g.ms.length:Int)
  ·have Z:=zc K;go_enter func44,ntmps44;go_wp2_with fail;rw[<-h];refine (CG.o base G g E Y.o U.o).mono ?_;rintro e w1 ⟨⟨b,rfl,J⟩,D⟩;have q:Hid (b=true↔InG g z):=zc (J.trans ⟨fun k=>⟨k,N.o,Z.o⟩,fun k=>k.1⟩);have HW:=zc (A.o.trans (D.mono A.o.size));clear J D
   cases b<;>(
    go_wp2;go_ret
    exact⟨⟨_,rfl,by simpa using q.o⟩,HW.o⟩)
  ·have q:Hid (false=true↔InG g z):=zc ⟨fun k=>(by cases k),fun k=>absurd k.2.2 K⟩;go_enter func44,ntmps44;go_wp2;go_ret;rw[<-h];exact⟨⟨false,rfl,q.o⟩,A.o⟩
 ·have q:Hid (false=true↔InG g z):=zc ⟨fun k=>(by cases k),fun k=>absurd k.2.1 I⟩;go_enter func44,ntmps44;go_wp2;go_ret;rw[<-h];exact⟨⟨false,rfl,q.o⟩,A.o⟩
theorem Tryz.infoItA:(prog.info? 3).map (fun i=>(i.zero,i.size,i.bytes))=some (some (.int .i64 0),1,8):=by kernel_rfl
variable (w:Gr) (g b:Nat) (W:Option Addr) (c d:Nat) (C:Rw) (V:World) {n k m S q:Nat} {z:Nat->Bool} {s x:World} {p:TypeId} {t:Rw} {h:Nat->Value} {A:Value} {B:Option Nat} {T:Sv} {D:Md}
theorem zxt (b A E q j:Nat) (U:Nat->Nat) (F:World) (h:ReAt F w b U) (H:F.heap[A]? =some (.cells #[.slice (some ⟨b,0,none⟩) w.ms.length w.ms.length] 71 (0,0))) (z:F.heap[E]? =some (.cells #[.int .i64 (q:Int)] 3 (0,0))) (I:q<w.ms.length) (M:j<w.ms.length):
  Calls prog 46 #[.int .i64 (j:Int),.pointer (some ⟨A,0,none⟩),.pointer (some ⟨E,0,none⟩)] F fun e K=>e= .returned (.bool (zaT w q j))/\Bw F K:=by
 obtain⟨V,_,D⟩:=h.2 q I;have N:=D j M;generalize zaT w q j=v at N ⊢;have X:=Boxed.cell H;have Y:=Boxed.cell z;have J:(q:Int)<(w.ms.length:Int):=by omega
 have O:(j:Int)<(w.ms.length:Int):=by omega
 have L:Hid (Bw F F):=zc (Below.refl _ _);clear h D H z;go_enter func46,ntmps46;go_wp2;go_ret;exact⟨rfl,L.o⟩
theorem zxu (b gc V z:Nat) (gs:Nat->Nat) (F:World) (h:ReAt F w b gs) (hc:F.heap[gc]? =some (.cells #[.slice (some ⟨b,0,none⟩) w.ms.length w.ms.length] 71 (0,0))) (hq:F.heap[V]? =some (.cells #[.int .i64 (z:Int)] 3 (0,0))) (hm:z<w.ms.length) (ae:w.ms.length<=8):
  Calls prog 45 #[.slice (some ⟨b,0,none⟩) w.ms.length w.ms.length,.func (.func 46) #[] #[.pointer (some ⟨gc,0,none⟩),.pointer (some ⟨V,0,none⟩)]] F fun e w'=>∃a n J,e= .returned (.slice a n J)/\OutE itE 3 w' F.heap.size a n J (zbF w.ms.length fun j=>zaT w z j)/\Bw F w':=by
 obtain⟨i0,hi,N,Y,aa⟩:=info_parts Tryz.infoItA;have RA:=zc h;have HC:=zc hc;have HQ:=zc hq;clear h hc hq;go_enter func45,ntmps45;have O0:Hid (OwnE itE (F.alloc (.cells #[] 3)) F.heap.size 3 F.heap.size 0 0 []):=zc (OwnE.nil itE F 3);have B0:Hid (Bw F (F.alloc (.cells #[] 3))):=zc (bA0);go_wp2;go_loopw [10,5,6] (fun i o _ wr=>∃(k K H q:Nat),k<=w.ms.length/\i= .int .i64 k/\o= .slice (some ⟨K,0,none⟩) H q/\Hid (OwnE itE wr F.heap.size 3 K H q (zbF k fun j=>zaT w z j))/\Hid (Bw F wr)) (fun i _ _ _=>(w.ms.length-intOf i).toNat)
 case atStart=>exact⟨0,F.heap.size,0,0,Nat.zero_le _,rfl,rfl,O0,B0⟩
 case round=>
  obtain⟨k,K,H,q,hk,rfl,rfl,M,E⟩:=hrel;clear O0 B0;by_cases D:k<w.ms.length
  ·have ac:(k:Int)<(w.ms.length:Int):=by omega
   have A:=zc (znt (fun j=>zaT w z j) k);have ad:H<=8:=by have:=M.o.2;have:=zjj k fun j=>zaT w z j;omega
   go_wp2_with fail;refine (zxt w b gc V z k gs wr (RA.o.later E.o) (zjl HC.o E.o) (zjl HQ.o E.o) hm D).mono ?_;rintro e w2 ⟨rfl,U⟩;have O2:=zc (M.o.later U);have L:=zc (E.o.trans (U.mono E.o.size));clear U M E;cases hp:zaT w z k with
   |true=>
    have O:Hid ((zbF (k+1) fun j=>zaT w z j)=(zbF k fun j=>zaT w z j)++[Int.ofNat k]):=by show _=_;rw[A.o,if_pos hp]
    go_wp2_with (at_builtin;refine zji itE _ rfl _ _ 36 rfl F.heap.size 3 i0 _ 8 underlying36 hi N Y aa rfl (by decide) K H q _ (by rfl) (O2.o.later (bA0)) w2.heap.size (Int.ofNat k) (by rfl) (by exact heap_alloc_new _ _) (by omega) ?_;intro g4 I w4 Z X ab);go_roundw
    case rel=>exact⟨k+1,g4,H+1,I,D,by go_num,by go_num,by rw[O.o];exact zc Z,zc ((L.o.alloc L.o.size _).grown X (L.o.alloc L.o.size _).size (fun j hj=>by cases hj;exact O2.o.blk.1))⟩
    case measure=>simp[intOf];omega
   |false=>
    have O:Hid ((zbF (k+1) fun j=>zaT w z j)=zbF k fun j=>zaT w z j):=by show _=_;rw[A.o,if_neg (by rw[hp];decide)]
    go_wp2;go_roundw
    case rel=>exact⟨k+1,K,H,q,D,by go_num,rfl,by rw[O.o];exact O2,L⟩
    case measure=>simp[intOf];omega
  ·obtain rfl:k=w.ms.length:=by omega
   go_wp2;go_ret;exact⟨_,_,_,rfl,OutE.own M.o,E.o⟩
theorem znu (cG:GrC 10) (base:Nat) (G:GS) (g:Gr) (z:Int) (w:World) (ho:GrOwn w base G g) (U:GdG g):
  Calls prog 15 #[grD G g,.int .i64 z] w (zjk g z (fun z j=>zaT g z j) w):=by
 have CG:=zc cG;have HG:=zc U;have N:=U.ll;have O0:=zc ho;clear ho U cG;unfold grD;go_enter func15,ntmps15;go_upto_region 1 with fail;have e1:(w.alloc (.cells (grC G g) 32)).heap.size=w.heap.size+1:=zg _ _;refine zu (R:=fun W=>Bk W w.heap.size (grC G g) 32/\Bk W (w.heap.size+1) #[.int .i64 z] 3/\Below w.heap.size w W) ⟨zjl (heap_alloc_new w _) (zan _ _),(by have:=heap_alloc_new (w.alloc (.cells (grC G g) 32)) (.cells #[.int .i64 z] 3);rw[e1] at this;exact this),zZ (zan w _) (zan _ _)⟩ ?_;clear e1;rintro W0 ⟨hx,E,h⟩;have X0:=zc hx;have Q0:=zc E;have Z:=zc h;clear hx E h;obtain⟨c0,Y,c2,cf⟩:=zo X0.o;have cq:=Boxed.cell Q0.o;go_wp2_with fail;refine (zxs CG.o base G g z W0 (O0.o.later Z.o) HG.o).mono ?_;rintro e w1 ⟨⟨b,rfl,I⟩,h⟩;have X1:=zc (X0.o.later h);have Q1:=zc (Q0.o.later h);have M:=zc (zZ Z.o h);have V:=zc I;clear I h c0 Y c2 cf cq X0 Q0 Z;obtain⟨c0,Y,c2,cf⟩:=zo X1.o;have cq:=Boxed.cell Q1.o;cases b with
 |false=>
  go_wp2;go_ret;exact⟨none,0,0,_,rfl,OutE.nil _ _ _ _ _ _,M.o,fun k=>absurd (V.o.2 k) (by decide),fun _=>rfl⟩
 |true=>
  have J:Hid (InG g z):=V.o.1 (by simp);have LK:=zc J.o.1.links;have D:g.ms.length<=8:=J.o.1.1.2;obtain⟨H,rfl⟩: ∃H:Nat,z=(H:Int):=⟨z.toNat,by have:=J.o.2.1;omega⟩;have aa:H<g.ms.length:=by have:=J.o.2.2;omega
  clear V;go_wp2_with fail;refine (zxr base G g w1 (O0.o.later M.o) D N LK.o).mono ?_;rintro e A ⟨O,gs,rfl,q,h⟩;have RA:=zc q;have Q2:=zc (Q1.o.later h);have B2:=zc (zZ M.o h);clear q h c0 Y c2 cf cq X1 Q1 M;go_upto_region 4 with fail;refine zu (R:=fun W=>Bk W A.heap.size #[.slice (some ⟨O,0,none⟩) g.ms.length g.ms.length] 71/\Bk W (w.heap.size+1) #[.int .i64 (H:Int)] 3/\ReAt W g O gs/\Below w.heap.size w W) ⟨heap_alloc_new A _,Q2.o.later (zan A _),RA.o.later (zan A _),zZ B2.o (zan A _)⟩ ?_;obtain⟨gc,L⟩: ∃gc,gc=A.heap.size:=⟨_,rfl⟩;rw[<-L];clear L RA Q2 B2;rintro w3 ⟨hy,E,q,h⟩;have Y3:=zc hy;have Q3:=zc E;have RA:=zc q;have B3:=zc h;clear hy E q h;have cy:=Boxed.cell Y3.o;go_wp2_with fail;refine (zxu g O gc (w.heap.size+1) H gs w3 RA.o Y3.o Q3.o aa D).mono ?_;rintro e w4 ⟨a,n,X,rfl,K,h⟩;go_wp2;go_ret;refine⟨a,n,X,_,rfl,zxj K B3.o.size,zZ B3.o h,fun _=>rfl,fun k=>absurd J.o k⟩
def zcE:Nat->Nat->BA->BA
 |0,_,o=>o
 |f+1,k,o=>if k=0 then o else zcE f (k/10) (strOfNums [48+(k:Int)%10]++o)
def mtS (k:Nat):BA:={data:=#[109]}++zcE k k {data:=#[]}
theorem zxv (o:BA):zcE g 0 o=o:=by cases g<;>rfl
theorem zxw {o:BA} (h:k<=n) (w:0<k): ∃q,k/10<=q/\zcE n k o=zcE q (k/10) (strOfNums [48+(k:Int)%10]++o):=by
 match n,h with
 |0,h=>omega
 |n+1,h=>exact⟨n,by omega,by rw[zcE,if_neg (by omega)]⟩
theorem zdh (_:0<g) (N:g<=8000000):
  Calls prog 72 #[.int .i64 g] V fun e K=>e= .returned (.string (mtS g))/\Bw V K:=by
 go_enter func72,ntmps72;go_wp2;go_loopw [0,3] (fun i o wr=>∃(k f m:Nat) (x:BA),i= .int .i64 k/\o= .string x/\k<=f/\k<=8000000/\zcE f k x=zcE g g {data:=#[]}/\x.size<=m/\k+m<=8000000/\Bw V wr) (fun i _ _=>(intOf i).toNat)
 case atStart=>exact⟨g,g,0,_,rfl,rfl,le_refl _,N,rfl,le_refl _,by omega,Below.refl _ _⟩
 case round=>
  obtain⟨k,f,m,x,rfl,rfl,E,L,H,Y,F,A⟩:=hrel;have J:Hid (zcE f k x=zcE g g {data:=#[]}):=H;clear H;by_cases M:0<k
  ·obtain⟨I,D,q⟩:=zxw (o:=x) E M;have U:Hid (zcE I (k/10) (strOfNums [48+(k:Int)%10]++x)=zcE g g {data:=#[]}):=q.symm.trans J.o;have q:=fun (V:World) (x:Int)=>zhx (P:=prog) (src:=147) (dst:=9) underlying147 underlying5 underlying9 V x;have z:=fun x=>strOfNums_size [x];have O:k/10+1<=k:=by omega
   go_wp2;go_roundw
   case rel=>exact⟨k/10,I,m+1,_,by go_num,rfl,D,by omega,U.o,by rw[ByteArray.size_append,z];simp;omega,by omega,A.alloc A.size _⟩
   case measure=>simp[intOf];omega
  ·obtain rfl:k=0:=by omega
   have X:Hid (x=zcE g g {data:=#[]}):=by have:=J.o;rw[zxv] at this;exact this
   go_wp2;go_ret;exact⟨za4 (by rw[X.o];rfl),A⟩
def FK (kd:Nat->Bool) (m k i:Nat):Value:=if kd (i%m) then .string (mtS (k+i)) else .int .i64 ((k+i:Nat):Int)
theorem zdi {i c:Nat} (w:i%n=c) (E:z c=true) (A:S=k+i):FK z n k i= .string (mtS S):=by rw[FK,w,E,A];rfl
theorem zdN {i c:Nat} (w:i%n=c) (E:z c=false) (A:S=k+i):FK z n k i= .int .i64 (S:Int):=by rw[FK,w,E,A];rfl
def OwnG (w:World) (base:Nat) (e:TypeId) (size:Nat) (r:Rw) (n:Nat) (F:Nat->Value) (c:Nat):Prop:=∃xs,OwnR w base e size r n xs/\∀i,i<c->xs[i]? =some (F i)
theorem OwnG.start {E:Nat} {xs:List Value} (h:OwnR s n p k t E xs) (F:Nat->Value):OwnG s n p k t E F 0:=⟨xs,h,fun i q=>absurd q (Nat.not_lt_zero i)⟩
theorem OwnG.keep {size G:Nat} (H:OwnG s n p size t G h m) (z: ∀k,t.blk=some k->x.heap[k]? =s.heap[k]?):OwnG x n p size t G h m:=by
 obtain⟨E,D,A⟩:=H;exact⟨E,D.keep z,A⟩
theorem OwnG.typed {size E:Nat} {r:Rw} (G:OwnG s n p size r E h m) {k:Nat} (z:r.blk=some k):n<=k/\k<s.heap.size/\∃q,s.heap[k]? =some (.cells q p (0,0)):=by
 obtain⟨D,A,_⟩:=G;exact A.typed z
theorem OwnG.later {E:Nat} (H:OwnG s n p k t E h m) (z:Bw s x):OwnG x n p k t E h m:=H.keep fun G g=>z.block G (H.typed g).2.1
theorem OwnR.at {w:World} {base size n g:Nat} {e:TypeId} {r:Rw} {xs:List Value} (h:OwnR w base e size r n xs) (q:r.a=some ⟨g,0,none⟩):w.ownsRow base e size (.slice (some ⟨g,0,none⟩) n r.cap) n xs:=by
 unfold OwnR at h;rw[q] at h;exact h
theorem OwnG.has {E:Nat} (G:OwnG s n p k t E h m) (A:t.a=some ⟨S,0,none⟩) (i:Nat) (z:i<E*k): ∃v,s.cell? ⟨S,i,none⟩=some v:=by
 obtain⟨D,q,_⟩:=G;rw[(q.at A).cellAt i z];exact⟨_,List.getElem?_eq_getElem (by rw[q.1];exact z)⟩
theorem OwnG.cell {G:Nat} (I:OwnG s n p k t G h m) (A:t.a=some ⟨S,0,none⟩) (i:Nat) (E:i<G*k) (D:i<m):s.cell? ⟨S,i,none⟩=some (h i):=by
 obtain⟨H,z,q⟩:=I;rw[(z.at A).cellAt i E];exact q i D
theorem OwnG.free {E:Nat} (G:OwnG s n p k t E h m) (z:t.a=some ⟨S,0,none⟩) (i:Nat):s.frozen? ⟨S,i,none⟩=false:=by
 obtain⟨A,q,_⟩:=G;exact (q.at z).frozenAt i
theorem zb1 (h:t.a=some ⟨n,0,none⟩):t.blk=some n:=by rw[Rw.blk,h];rfl
theorem OwnG.put {G:Nat} {e:TypeId} (K:OwnG s n e k t G h m) (z:t.a=some ⟨S,0,none⟩) (I:m<G*k) (L:h m=A):OwnG (s.setCell ⟨S,m,none⟩ A) n e k t G h (m+1):=by
 subst L;obtain⟨E,q,D⟩:=K;have H:=q.1;refine⟨E.set m (h m),?_,fun i J=>?_⟩
 ·unfold OwnR;rw[z];exact ((q.at z).stored m (h m)).1
 ·by_cases e:i=m
  ·subst e;exact List.getElem?_set_self (by omega)
  ·rw[List.getElem?_set_ne (by omega)];exact D i (by omega)
theorem zcP (b:Option Nat):V.grownBy V b:=⟨rfl,rfl,rfl,le_refl _,fun _ _ _=>rfl⟩
theorem znv {D:World} (h:s.grownBy x B) (k:x.grownBy D B):s.grownBy D B:=
 ⟨k.os.trans h.os,k.tape.trans h.tape,k.output.trans h.output,le_trans h.size k.size,fun i z q=>(k.block i (Nat.lt_of_lt_of_le z h.size) q).trans (h.block i z q)⟩
theorem zdj {z:World} (h:s.grownBy x B) (k:Bw x z):s.grownBy z B:=
 znv h ⟨k.os,k.tape,k.output,k.size,fun i A _=>k.block i A⟩
theorem zb2 (h:s.grownBy x B) (F:B=some n):s.grownBy (x.setCell ⟨n,k,none⟩ A) B:=
 znv h ⟨rfl,rfl,rfl,by show _<=(x.heap.modify _ _).size;simp,fun E _ z=>Below.heap_setCell x ⟨n,k,none⟩ A E (fun e=>z (by rw[F,e]))⟩
theorem zxx:Calls prog 47 #[.slice W 0 c,.int .i64 d] V fun e z=>e= .returned (.int .i64 d)/\z=V:=by
 go_enter func47,ntmps47;go_wp2;go_loopg [1,5] 1 (fun k q i wr=>k=1/\q= .int .i64 d/\i= .int .i64 0/\wr=V)
 case atStart=>exact⟨rfl,rfl,rfl,rfl⟩
 case round=>
  obtain⟨rfl,rfl,rfl,rfl⟩:=hrel;go_wp2;go_ret;exact⟨rfl,rfl⟩
theorem zxy (F n h:Nat) (r:Rw) (w:World) (h1:OwnG w g 9 1 r n (FK (fun _=>true) 1 h) 0) (e1:r.a=some ⟨F,0,none⟩) (hn:n<=1048576) (ah:0<h) (hk:h+n*1<=7900000):
  Calls prog 47 #[.slice (some ⟨F,0,none⟩) n r.cap,.int .i64 h] w fun e w'=>e= .returned (.int .i64 ((h+n:Nat):Int))/\OwnG w' g 9 1 r n (FK (fun _=>true) 1 h) (n)/\w.grownBy w' r.blk:=by
 have H1:=zc h1;have K:=zc e1;clear h1 e1;go_enter func47,ntmps47;go_wp2;go_loopg [1,5] n (fun k q i wr=>∃j:Nat,i= .int .i64 j/\j+k=n/\q= .int .i64 ((h+j:Nat):Int)/\OwnG wr g 9 1 r n (FK (fun _=>true) 1 h) (j)/\w.grownBy wr r.blk)
 case atStart=>exact⟨0,rfl,by omega,by simp,by exact H1.o,zcP _ _⟩
 case round=>
  obtain⟨j,rfl,hj,hq,ho,hg⟩:=hrel;have A:=zc ho;have N:=zc hg;clear ho hg;by_cases ag:j<n
  ·have O:(j:Int)<(n:Int):=by omega
   obtain⟨z,M⟩: ∃z:Nat,z=h+(j):=⟨_,rfl⟩;rw[<-M] at hq;subst hq;obtain⟨E,Z⟩: ∃E:Nat,E=z+1:=⟨_,rfl⟩;have aj:(z:Int)+1=(E:Int):=by omega
   have aa:Hid (FK (fun _=>true) 1 h (j)= .string (mtS z)):=zdi (c:=0) (by omega) (by decide) (by omega);have HQ:Hid (E=h+(j+1)):=by show E=_;omega
   have ai:E<=7950000:=by omega
   have ae:0<z:=by omega
   have D:Hid (0<z/\z<=8000000):=⟨by omega,by omega⟩;obtain⟨J,L⟩: ∃J,J=j+1:=⟨_,rfl⟩;have ej:(j:Int)+1=(J:Int):=by omega
   have HJ:=zc L;clear L M Z;obtain⟨ak,af⟩:=A.o.has K.o (j) (by omega);have ad:=A.o.free K.o (j);go_wp2_with fail;refine (zdh z _ D.o.1 D.o.2).mono ?_;rintro e w0 ⟨rfl,H⟩;have I:=zc (A.o.later H);have ac:=zc (zdj N.o H);clear H;obtain⟨ab,X⟩:=I.o.has K.o (j) (by omega);have Y:=I.o.free K.o (j);have V:Hid (OwnG (w0.setCell ⟨F,j,none⟩ (.string (mtS z))) g 9 1 r n (FK (fun _=>true) 1 h) (j+1)):=I.o.put K.o (by omega) aa.o;have U:Hid (w.grownBy (w0.setCell ⟨F,j,none⟩ (.string (mtS z))) r.blk):=zb2 ac.o (zb1 K.o);go_wp2;go_roundg (gk-1)
   case rel=>exact⟨J,rfl,by have:=HJ.o;omega,by have:=HJ.o;have:=HQ.o;rw[show E=h+J from by omega],by have:=V.o;rw[show J=j+1 from by have:=HJ.o;omega];exact this,U.o⟩
   case measure=>omega
  ·have O: ¬(j:Int)<(n:Int):=by omega
   obtain rfl:j=n:=by omega
   subst hq;go_wp2;go_ret;exact⟨rfl,A.o,N.o⟩
theorem znw (E:OwnG V g 9 1 C b (FK (fun _=>true) 1 c) 0) (L:b<=1048576) (q:0<c) (I:c+b*1<=7900000):
  Calls prog 47 #[.slice C.a b C.cap,.int .i64 c] V fun e A=>e= .returned (.int .i64 ((c+b:Nat):Int))/\OwnG A g 9 1 C b (FK (fun _=>true) 1 c) (b)/\V.grownBy A C.blk:=by
 by_cases H:b=0
 ·subst H;refine (zxx _ _ c V).mono ?_;rintro e M ⟨rfl,rfl⟩;exact⟨by simp,by exact E,zcP _ _⟩
 ·obtain⟨J,D,K⟩:=E;rcases D.nil_or with ⟨_,_,e⟩|⟨F,z⟩
  ·exact absurd e H
  ·rw[z];exact zxy g F b c C V ⟨J,D,K⟩ z L q I
theorem zxz:Calls prog 73 #[.slice W 0 c,.int .i64 d] V fun e z=>e= .returned (.int .i64 d)/\z=V:=by
 go_enter func73,ntmps73;go_wp2;go_loopg [1,5] 1 (fun k q i wr=>k=1/\q= .int .i64 d/\i= .int .i64 0/\wr=V)
 case atStart=>exact⟨rfl,rfl,rfl,rfl⟩
 case round=>
  obtain⟨rfl,rfl,rfl,rfl⟩:=hrel;go_wp2;go_ret;exact⟨rfl,rfl⟩
theorem zx0 (F n A:Nat) (r:Rw) (w:World) (h1:OwnG w g 95 3 r n (FK (fun _=>true) 3 A) 0) (e1:r.a=some ⟨F,0,none⟩) (hn:n<=1048576) (aV:0<A) (hk:A+n*3<=7900000):
  Calls prog 73 #[.slice (some ⟨F,0,none⟩) n r.cap,.int .i64 A] w fun e w'=>e= .returned (.int .i64 ((A+n*3:Nat):Int))/\OwnG w' g 95 3 r n (FK (fun _=>true) 3 A) (n*3)/\w.grownBy w' r.blk:=by
 have H1:=zc h1;have h:=zc e1;clear h1 e1;go_enter func73,ntmps73;go_wp2;go_loopg [1,5] n (fun k q i wr=>∃j:Nat,i= .int .i64 j/\j+k=n/\q= .int .i64 ((A+j*3:Nat):Int)/\OwnG wr g 95 3 r n (FK (fun _=>true) 3 A) (j*3)/\w.grownBy wr r.blk)
 case atStart=>exact⟨0,rfl,by omega,by simp,by rw[zero_mul];exact H1.o,zcP _ _⟩
 case round=>
  obtain⟨j,rfl,hj,hq,ho,hg⟩:=hrel;have z:=zc ho;have Z:=zc hg;clear ho hg;by_cases aU:j<n
  ·have ad:(j:Int)<(n:Int):=by omega
   obtain⟨I,ac⟩: ∃I:Nat,I=A+(j*3):=⟨_,rfl⟩;rw[<-ac] at hq;subst hq;obtain⟨J,aG⟩: ∃J:Nat,J=I+1:=⟨_,rfl⟩;have a1:(I:Int)+1=(J:Int):=by omega
   obtain⟨H,aB⟩: ∃H:Nat,H=J+1:=⟨_,rfl⟩;have aT:(J:Int)+1=(H:Int):=by omega
   obtain⟨N,ax⟩: ∃N:Nat,N=H+1:=⟨_,rfl⟩;have aW:(H:Int)+1=(N:Int):=by omega
   have aC:Hid (FK (fun _=>true) 3 A (j*3)= .string (mtS I)):=zdi (c:=0) (by omega) (by decide) (by omega);have ay:Hid (FK (fun _=>true) 3 A (j*3+1)= .string (mtS J)):=zdi (c:=1) (by omega) (by decide) (by omega);have aJ:Hid (FK (fun _=>true) 3 A (j*3+2)= .string (mtS H)):=zdi (c:=2) (by omega) (by decide) (by omega);have HQ:Hid (N=A+(j*3+3)):=by show N=_;omega
   have aY:N<=7950000:=by omega
   have aQ:0<I:=by omega
   have M:Hid (0<I/\I<=8000000):=⟨by omega,by omega⟩;have L:Hid (0<J/\J<=8000000):=⟨by omega,by omega⟩;have K:Hid (0<H/\H<=8000000):=⟨by omega,by omega⟩;obtain⟨Y,ab⟩: ∃Y,Y=j+1:=⟨_,rfl⟩;have ej:(j:Int)+1=(Y:Int):=by omega
   have HJ:=zc ab;clear ab ac aG aB ax;obtain⟨aZ,aN⟩:=z.o.has h.o (j*3) (by omega);have aM:=z.o.free h.o (j*3);obtain⟨aX,aO⟩:=z.o.has h.o (j*3+1) (by omega);have aP:=z.o.free h.o (j*3+1);obtain⟨a0,aS⟩:=z.o.has h.o (j*3+2) (by omega);have aR:=z.o.free h.o (j*3+2);go_wp2_with fail;refine (zdh I _ M.o.1 M.o.2).mono ?_;rintro e w0 ⟨rfl,U⟩;have D:=zc (z.o.later U);have aF:=zc (zdj Z.o U);clear U;obtain⟨aE,ao⟩:=D.o.has h.o (j*3) (by omega);have av:=D.o.free h.o (j*3);obtain⟨aK,aw⟩:=D.o.has h.o (j*3+1) (by omega);have am:=D.o.free h.o (j*3+1);obtain⟨az,al⟩:=D.o.has h.o (j*3+2) (by omega);have ap:=D.o.free h.o (j*3+2);have ae:Hid (OwnG (w0.setCell ⟨F,j*3,none⟩ (.string (mtS I))) g 95 3 r n (FK (fun _=>true) 3 A) (j*3+1)):=D.o.put h.o (by omega) aC.o;have aa:Hid (w.grownBy (w0.setCell ⟨F,j*3,none⟩ (.string (mtS I))) r.blk):=zb2 aF.o (zb1 h.o);go_wp2_with fail;refine (zdh J _ L.o.1 L.o.2).mono ?_;rintro e w1 ⟨rfl,X⟩;have E:=zc (ae.o.later X);have aL:=zc (zdj aa.o X);clear X;obtain⟨aA,an⟩:=E.o.has h.o (j*3+1) (by omega);have aq:=E.o.free h.o (j*3+1);obtain⟨aH,au⟩:=E.o.has h.o (j*3+2) (by omega);have aj:=E.o.free h.o (j*3+2);have ag:Hid (OwnG (w1.setCell ⟨F,j*3+1,none⟩ (.string (mtS J))) g 95 3 r n (FK (fun _=>true) 3 A) (j*3+1+1)):=E.o.put h.o (by omega) ay.o;have af:Hid (w.grownBy (w1.setCell ⟨F,j*3+1,none⟩ (.string (mtS J))) r.blk):=zb2 aL.o (zb1 h.o);go_wp2_with fail;refine (zdh H _ K.o.1 K.o.2).mono ?_;rintro e w2 ⟨rfl,V⟩;have O:=zc (ag.o.later V);have aD:=zc (zdj af.o V);clear V;obtain⟨aI,ar⟩:=O.o.has h.o (j*3+2) (by omega);have ak:=O.o.free h.o (j*3+2);have ai:Hid (OwnG (w2.setCell ⟨F,j*3+2,none⟩ (.string (mtS H))) g 95 3 r n (FK (fun _=>true) 3 A) (j*3+2+1)):=O.o.put h.o (by omega) aJ.o;have ah:Hid (w.grownBy (w2.setCell ⟨F,j*3+2,none⟩ (.string (mtS H))) r.blk):=zb2 aD.o (zb1 h.o);go_wp2;go_roundg (gk-1)
   case rel=>exact⟨Y,rfl,by have:=HJ.o;omega,by have:=HJ.o;have:=HQ.o;rw[show N=A+Y*3 from by omega],by have:=ai.o;rw[show Y*3=j*3+2+1 from by have:=HJ.o;omega];exact this,ah.o⟩
   case measure=>omega
  ·have ad: ¬(j:Int)<(n:Int):=by omega
   obtain rfl:j=n:=by omega
   subst hq;go_wp2;go_ret;exact⟨rfl,z.o,Z.o⟩
theorem zx1 (E:OwnG V g 95 3 C b (FK (fun _=>true) 3 c) 0) (L:b<=1048576) (q:0<c) (I:c+b*3<=7900000):
  Calls prog 73 #[.slice C.a b C.cap,.int .i64 c] V fun e A=>e= .returned (.int .i64 ((c+b*3:Nat):Int))/\OwnG A g 95 3 C b (FK (fun _=>true) 3 c) (b*3)/\V.grownBy A C.blk:=by
 by_cases H:b=0
 ·subst H;refine (zxz _ _ c V).mono ?_;rintro e M ⟨rfl,rfl⟩;exact⟨by simp,by rw[zero_mul];exact E,zcP _ _⟩
 ·obtain⟨J,D,K⟩:=E;rcases D.nil_or with ⟨_,_,e⟩|⟨F,z⟩
  ·exact absurd e H
  ·rw[z];exact zx0 g F b c C V ⟨J,D,K⟩ z L q I
theorem zx2:Calls prog 74 #[.slice W 0 c,.int .i64 d] V fun e z=>e= .returned (.int .i64 d)/\z=V:=by
 go_enter func74,ntmps74;go_wp2;go_loopg [1,5] 1 (fun k q i wr=>k=1/\q= .int .i64 d/\i= .int .i64 0/\wr=V)
 case atStart=>exact⟨rfl,rfl,rfl,rfl⟩
 case round=>
  obtain⟨rfl,rfl,rfl,rfl⟩:=hrel;go_wp2;go_ret;exact⟨rfl,rfl⟩
theorem zx3 (F n A:Nat) (r:Rw) (w:World) (h1:OwnG w g 97 4 r n (FK (fun i=> !decide (i=0)) 4 A) 0) (e1:r.a=some ⟨F,0,none⟩) (hn:n<=1048576) (a3:0<A) (hk:A+n*4<=7900000):
  Calls prog 74 #[.slice (some ⟨F,0,none⟩) n r.cap,.int .i64 A] w fun e w'=>e= .returned (.int .i64 ((A+n*4:Nat):Int))/\OwnG w' g 97 4 r n (FK (fun i=> !decide (i=0)) 4 A) (n*4)/\w.grownBy w' r.blk:=by
 have H1:=zc h1;have h:=zc e1;clear h1 e1;go_enter func74,ntmps74;go_wp2;go_loopg [1,5] n (fun k q i wr=>∃j:Nat,i= .int .i64 j/\j+k=n/\q= .int .i64 ((A+j*4:Nat):Int)/\OwnG wr g 97 4 r n (FK (fun i=> !decide (i=0)) 4 A) (j*4)/\w.grownBy wr r.blk)
 case atStart=>exact⟨0,rfl,by omega,by simp,by rw[zero_mul];exact H1.o,zcP _ _⟩
 case round=>
  obtain⟨j,rfl,hj,hq,ho,hg⟩:=hrel;have z:=zc ho;have ab:=zc hg;clear ho hg;by_cases a2:j<n
  ·have af:(j:Int)<(n:Int):=by omega
   obtain⟨N,ae⟩: ∃N:Nat,N=A+(j*4):=⟨_,rfl⟩;rw[<-ae] at hq;subst hq;obtain⟨J,aJ⟩: ∃J:Nat,J=N+1:=⟨_,rfl⟩;have ba:(N:Int)+1=(J:Int):=by omega
   obtain⟨I,aF⟩: ∃I:Nat,I=J+1:=⟨_,rfl⟩;have a1:(J:Int)+1=(I:Int):=by omega
   obtain⟨E,aB⟩: ∃E:Nat,E=I+1:=⟨_,rfl⟩;have a4:(I:Int)+1=(E:Int):=by omega
   obtain⟨X,aD⟩: ∃X:Nat,X=E+1:=⟨_,rfl⟩;have a0:(E:Int)+1=(X:Int):=by omega
   have aH:Hid (FK (fun i=> !decide (i=0)) 4 A (j*4)= .int .i64 (N:Int)):=zdN (c:=0) (by omega) (by decide) (by omega);have aC:Hid (FK (fun i=> !decide (i=0)) 4 A (j*4+1)= .string (mtS J)):=zdi (c:=1) (by omega) (by decide) (by omega);have aN:Hid (FK (fun i=> !decide (i=0)) 4 A (j*4+2)= .string (mtS I)):=zdi (c:=2) (by omega) (by decide) (by omega);have aO:Hid (FK (fun i=> !decide (i=0)) 4 A (j*4+3)= .string (mtS E)):=zdi (c:=3) (by omega) (by decide) (by omega);have HQ:Hid (X=A+(j*4+4)):=by show X=_;omega
   have a7:X<=7950000:=by omega
   have aX:0<N:=by omega
   have L:Hid (0<J/\J<=8000000):=⟨by omega,by omega⟩;have K:Hid (0<I/\I<=8000000):=⟨by omega,by omega⟩;have M:Hid (0<E/\E<=8000000):=⟨by omega,by omega⟩;obtain⟨Z,ad⟩: ∃Z,Z=j+1:=⟨_,rfl⟩;have ej:(j:Int)+1=(Z:Int):=by omega
   have HJ:=zc ad;clear ad ae aJ aF aB aD;obtain⟨a8,aS⟩:=z.o.has h.o (j*4) (by omega);have aR:=z.o.free h.o (j*4);obtain⟨a6,aT⟩:=z.o.has h.o (j*4+1) (by omega);have aW:=z.o.free h.o (j*4+1);obtain⟨a9,aZ⟩:=z.o.has h.o (j*4+2) (by omega);have aY:=z.o.free h.o (j*4+2);obtain⟨a5,aV⟩:=z.o.has h.o (j*4+3) (by omega);have aU:=z.o.free h.o (j*4+3);have ag:Hid (OwnG (wr.setCell ⟨F,j*4,none⟩ (.int .i64 (N:Int))) g 97 4 r n (FK (fun i=> !decide (i=0)) 4 A) (j*4+1)):=z.o.put h.o (by omega) aH.o;have ac:Hid (w.grownBy (wr.setCell ⟨F,j*4,none⟩ (.int .i64 (N:Int))) r.blk):=zb2 ab.o (zb1 h.o);go_wp2_with fail;refine (zdh J _ L.o.1 L.o.2).mono ?_;rintro e w1 ⟨rfl,Y⟩;have D:=zc (ag.o.later Y);have aQ:=zc (zdj ac.o Y);clear Y;obtain⟨aE,av⟩:=D.o.has h.o (j*4+1) (by omega);have aw:=D.o.free h.o (j*4+1);obtain⟨aK,ay⟩:=D.o.has h.o (j*4+2) (by omega);have am:=D.o.free h.o (j*4+2);obtain⟨aP,ap⟩:=D.o.has h.o (j*4+3) (by omega);have ao:=D.o.free h.o (j*4+3);have ai:Hid (OwnG (w1.setCell ⟨F,j*4+1,none⟩ (.string (mtS J))) g 97 4 r n (FK (fun i=> !decide (i=0)) 4 A) (j*4+1+1)):=D.o.put h.o (by omega) aC.o;have ah:Hid (w.grownBy (w1.setCell ⟨F,j*4+1,none⟩ (.string (mtS J))) r.blk):=zb2 aQ.o (zb1 h.o);go_wp2_with fail;refine (zdh I _ K.o.1 K.o.2).mono ?_;rintro e w2 ⟨rfl,O⟩;have H:=zc (ai.o.later O);have aI:=zc (zdj ah.o O);clear O;obtain⟨aL,ax⟩:=H.o.has h.o (j*4+2) (by omega);have an:=H.o.free h.o (j*4+2);obtain⟨aG,ar⟩:=H.o.has h.o (j*4+3) (by omega);have az:=H.o.free h.o (j*4+3);have al:Hid (OwnG (w2.setCell ⟨F,j*4+2,none⟩ (.string (mtS I))) g 97 4 r n (FK (fun i=> !decide (i=0)) 4 A) (j*4+2+1)):=H.o.put h.o (by omega) aN.o;have aj:Hid (w.grownBy (w2.setCell ⟨F,j*4+2,none⟩ (.string (mtS I))) r.blk):=zb2 aI.o (zb1 h.o);go_wp2_with fail;refine (zdh E _ M.o.1 M.o.2).mono ?_;rintro e w3 ⟨rfl,U⟩;have V:=zc (al.o.later U);have aM:=zc (zdj aj.o U);clear U;obtain⟨aA,au⟩:=V.o.has h.o (j*4+3) (by omega);have aq:=V.o.free h.o (j*4+3);have ak:Hid (OwnG (w3.setCell ⟨F,j*4+3,none⟩ (.string (mtS E))) g 97 4 r n (FK (fun i=> !decide (i=0)) 4 A) (j*4+3+1)):=V.o.put h.o (by omega) aO.o;have aa:Hid (w.grownBy (w3.setCell ⟨F,j*4+3,none⟩ (.string (mtS E))) r.blk):=zb2 aM.o (zb1 h.o);go_wp2;go_roundg (gk-1)
   case rel=>exact⟨Z,rfl,by have:=HJ.o;omega,by have:=HJ.o;have:=HQ.o;rw[show X=A+Z*4 from by omega],by have:=ak.o;rw[show Z*4=j*4+3+1 from by have:=HJ.o;omega];exact this,aa.o⟩
   case measure=>omega
  ·have af: ¬(j:Int)<(n:Int):=by omega
   obtain rfl:j=n:=by omega
   subst hq;go_wp2;go_ret;exact⟨rfl,z.o,ab.o⟩
theorem zx4 (E:OwnG V g 97 4 C b (FK (fun i=> !decide (i=0)) 4 c) 0) (L:b<=1048576) (q:0<c) (I:c+b*4<=7900000):
  Calls prog 74 #[.slice C.a b C.cap,.int .i64 c] V fun e A=>e= .returned (.int .i64 ((c+b*4:Nat):Int))/\OwnG A g 97 4 C b (FK (fun i=> !decide (i=0)) 4 c) (b*4)/\V.grownBy A C.blk:=by
 by_cases H:b=0
 ·subst H;refine (zx2 _ _ c V).mono ?_;rintro e M ⟨rfl,rfl⟩;exact⟨by simp,by rw[zero_mul];exact E,zcP _ _⟩
 ·obtain⟨J,D,K⟩:=E;rcases D.nil_or with ⟨_,_,e⟩|⟨F,z⟩
  ·exact absurd e H
  ·rw[z];exact zx3 g F b c C V ⟨J,D,K⟩ z L q I
theorem zx5:Calls prog 75 #[.slice W 0 c,.int .i64 d] V fun e z=>e= .returned (.int .i64 d)/\z=V:=by
 go_enter func75,ntmps75;go_wp2;go_loopg [1,5] 1 (fun k q i wr=>k=1/\q= .int .i64 d/\i= .int .i64 0/\wr=V)
 case atStart=>exact⟨rfl,rfl,rfl,rfl⟩
 case round=>
  obtain⟨rfl,rfl,rfl,rfl⟩:=hrel;go_wp2;go_ret;exact⟨rfl,rfl⟩
theorem zx6 (F n z:Nat) (r:Rw) (w:World) (h1:OwnG w g 102 3 r n (FK (fun i=>decide (i=1)) 3 z) 0) (e1:r.a=some ⟨F,0,none⟩) (hn:n<=1048576) (aC:0<z) (hk:z+n*3<=7900000):
  Calls prog 75 #[.slice (some ⟨F,0,none⟩) n r.cap,.int .i64 z] w fun e w'=>e= .returned (.int .i64 ((z+n*3:Nat):Int))/\OwnG w' g 102 3 r n (FK (fun i=>decide (i=1)) 3 z) (n*3)/\w.grownBy w' r.blk:=by
 have H1:=zc h1;have A:=zc e1;clear h1 e1;go_enter func75,ntmps75;go_wp2;go_loopg [1,5] n (fun k q i wr=>∃j:Nat,i= .int .i64 j/\j+k=n/\q= .int .i64 ((z+j*3:Nat):Int)/\OwnG wr g 102 3 r n (FK (fun i=>decide (i=1)) 3 z) (j*3)/\w.grownBy wr r.blk)
 case atStart=>exact⟨0,rfl,by omega,by simp,by rw[zero_mul];exact H1.o,zcP _ _⟩
 case round=>
  obtain⟨j,rfl,hj,hq,ho,hg⟩:=hrel;have h:=zc ho;have Z:=zc hg;clear ho hg;by_cases az:j<n
  ·have aa:(j:Int)<(n:Int):=by omega
   obtain⟨H,V⟩: ∃H:Nat,H=z+(j*3):=⟨_,rfl⟩;rw[<-V] at hq;subst hq;obtain⟨D,ah⟩: ∃D:Nat,D=H+1:=⟨_,rfl⟩;have aG:(H:Int)+1=(D:Int):=by omega
   obtain⟨J,ap⟩: ∃J:Nat,J=D+1:=⟨_,rfl⟩;have aE:(D:Int)+1=(J:Int):=by omega
   obtain⟨K,am⟩: ∃K:Nat,K=J+1:=⟨_,rfl⟩;have aD:(J:Int)+1=(K:Int):=by omega
   have ai:Hid (FK (fun i=>decide (i=1)) 3 z (j*3)= .int .i64 (H:Int)):=zdN (c:=0) (by omega) (by decide) (by omega);have ao:Hid (FK (fun i=>decide (i=1)) 3 z (j*3+1)= .string (mtS D)):=zdi (c:=1) (by omega) (by decide) (by omega);have ak:Hid (FK (fun i=>decide (i=1)) 3 z (j*3+2)= .int .i64 (J:Int)):=zdN (c:=2) (by omega) (by decide) (by omega);have HQ:Hid (K=z+(j*3+3)):=by show K=_;omega
   have aF:K<=7950000:=by omega
   have aw:0<H:=by omega
   have I:Hid (0<D/\D<=8000000):=⟨by omega,by omega⟩;obtain⟨M,N⟩: ∃M,M=j+1:=⟨_,rfl⟩;have ej:(j:Int)+1=(M:Int):=by omega
   have HJ:=zc N;clear N V ah ap am;obtain⟨aH,ax⟩:=h.o.has A.o (j*3) (by omega);have ar:=h.o.free A.o (j*3);obtain⟨aB,au⟩:=h.o.has A.o (j*3+1) (by omega);have aq:=h.o.free A.o (j*3+1);obtain⟨aA,ay⟩:=h.o.has A.o (j*3+2) (by omega);have av:=h.o.free A.o (j*3+2);have ac:Hid (OwnG (wr.setCell ⟨F,j*3,none⟩ (.int .i64 (H:Int))) g 102 3 r n (FK (fun i=>decide (i=1)) 3 z) (j*3+1)):=h.o.put A.o (by omega) ai.o;have ab:Hid (w.grownBy (wr.setCell ⟨F,j*3,none⟩ (.int .i64 (H:Int))) r.blk):=zb2 Z.o (zb1 A.o);go_wp2_with fail;refine (zdh D _ I.o.1 I.o.2).mono ?_;rintro e w1 ⟨rfl,L⟩;have E:=zc (ac.o.later L);have an:=zc (zdj ab.o L);clear L;obtain⟨al,ad⟩:=E.o.has A.o (j*3+1) (by omega);have ae:=E.o.free A.o (j*3+1);obtain⟨aj,ag⟩:=E.o.has A.o (j*3+2) (by omega);have af:=E.o.free A.o (j*3+2);have X:Hid (OwnG (w1.setCell ⟨F,j*3+1,none⟩ (.string (mtS D))) g 102 3 r n (FK (fun i=>decide (i=1)) 3 z) (j*3+1+1)):=E.o.put A.o (by omega) ao.o;have U:Hid (w.grownBy (w1.setCell ⟨F,j*3+1,none⟩ (.string (mtS D))) r.blk):=zb2 an.o (zb1 A.o);have O:Hid (OwnG ((w1.setCell ⟨F,j*3+1,none⟩ (.string (mtS D))).setCell ⟨F,j*3+2,none⟩ (.int .i64 (J:Int))) g 102 3 r n (FK (fun i=>decide (i=1)) 3 z) (j*3+2+1)):=X.o.put A.o (by omega) ak.o;have Y:Hid (w.grownBy ((w1.setCell ⟨F,j*3+1,none⟩ (.string (mtS D))).setCell ⟨F,j*3+2,none⟩ (.int .i64 (J:Int))) r.blk):=zb2 U.o (zb1 A.o);go_wp2;go_roundg (gk-1)
   case rel=>exact⟨M,rfl,by have:=HJ.o;omega,by have:=HJ.o;have:=HQ.o;rw[show K=z+M*3 from by omega],by have:=O.o;rw[show M*3=j*3+2+1 from by have:=HJ.o;omega];exact this,Y.o⟩
   case measure=>omega
  ·have aa: ¬(j:Int)<(n:Int):=by omega
   obtain rfl:j=n:=by omega
   subst hq;go_wp2;go_ret;exact⟨rfl,h.o,Z.o⟩
theorem zx7 (E:OwnG V g 102 3 C b (FK (fun i=>decide (i=1)) 3 c) 0) (L:b<=1048576) (q:0<c) (I:c+b*3<=7900000):
  Calls prog 75 #[.slice C.a b C.cap,.int .i64 c] V fun e A=>e= .returned (.int .i64 ((c+b*3:Nat):Int))/\OwnG A g 102 3 C b (FK (fun i=>decide (i=1)) 3 c) (b*3)/\V.grownBy A C.blk:=by
 by_cases H:b=0
 ·subst H;refine (zx5 _ _ c V).mono ?_;rintro e M ⟨rfl,rfl⟩;exact⟨by simp,by rw[zero_mul];exact E,zcP _ _⟩
 ·obtain⟨J,D,K⟩:=E;rcases D.nil_or with ⟨_,_,e⟩|⟨F,z⟩
  ·exact absurd e H
  ·rw[z];exact zx6 g F b c C V ⟨J,D,K⟩ z L q I
theorem zx8:Calls prog 76 #[.slice W 0 c,.int .i64 d] V fun e z=>e= .returned (.int .i64 d)/\z=V:=by
 go_enter func76,ntmps76;go_wp2;go_loopg [1,5] 1 (fun k q i wr=>k=1/\q= .int .i64 d/\i= .int .i64 0/\wr=V)
 case atStart=>exact⟨rfl,rfl,rfl,rfl⟩
 case round=>
  obtain⟨rfl,rfl,rfl,rfl⟩:=hrel;go_wp2;go_ret;exact⟨rfl,rfl⟩
theorem zx9 (F n A:Nat) (r:Rw) (w:World) (h1:OwnG w g 100 6 r n (FK (fun i=>decide (i=2)||decide (i=3)) 6 A) 0) (e1:r.a=some ⟨F,0,none⟩) (hn:n<=1048576) (bi:0<A) (hk:A+n*6<=7900000):
  Calls prog 76 #[.slice (some ⟨F,0,none⟩) n r.cap,.int .i64 A] w fun e w'=>e= .returned (.int .i64 ((A+n*6:Nat):Int))/\OwnG w' g 100 6 r n (FK (fun i=>decide (i=2)||decide (i=3)) 6 A) (n*6)/\w.grownBy w' r.blk:=by
 have H1:=zc h1;have h:=zc e1;clear h1 e1;go_enter func76,ntmps76;go_wp2;go_loopg [1,5] n (fun k q i wr=>∃j:Nat,i= .int .i64 j/\j+k=n/\q= .int .i64 ((A+j*6:Nat):Int)/\OwnG wr g 100 6 r n (FK (fun i=>decide (i=2)||decide (i=3)) 6 A) (j*6)/\w.grownBy wr r.blk)
 case atStart=>exact⟨0,rfl,by omega,by simp,by rw[zero_mul];exact H1.o,zcP _ _⟩
 case round=>
  obtain⟨j,rfl,hj,hq,ho,hg⟩:=hrel;have z:=zc ho;have ac:=zc hg;clear ho hg;by_cases bh:j<n
  ·have ah:(j:Int)<(n:Int):=by omega
   obtain⟨J,af⟩: ∃J:Nat,J=A+(j*6):=⟨_,rfl⟩;rw[<-af] at hq;subst hq;obtain⟨O,aU⟩: ∃O:Nat,O=J+1:=⟨_,rfl⟩;have br:(J:Int)+1=(O:Int):=by omega
   obtain⟨I,aO⟩: ∃I:Nat,I=O+1:=⟨_,rfl⟩;have bg:(O:Int)+1=(I:Int):=by omega
   obtain⟨E,aL⟩: ∃E:Nat,E=I+1:=⟨_,rfl⟩;have bj:(I:Int)+1=(E:Int):=by omega
   obtain⟨K,aN⟩: ∃K:Nat,K=E+1:=⟨_,rfl⟩;have bf:(E:Int)+1=(K:Int):=by omega
   obtain⟨N,aZ⟩: ∃N:Nat,N=K+1:=⟨_,rfl⟩;have bm:(K:Int)+1=(N:Int):=by omega
   obtain⟨U,a0⟩: ∃U:Nat,U=N+1:=⟨_,rfl⟩;have bt:(N:Int)+1=(U:Int):=by omega
   have aR:Hid (FK (fun i=>decide (i=2)||decide (i=3)) 6 A (j*6)= .int .i64 (J:Int)):=zdN (c:=0) (by omega) (by decide) (by omega);have aM:Hid (FK (fun i=>decide (i=2)||decide (i=3)) 6 A (j*6+1)= .int .i64 (O:Int)):=zdN (c:=1) (by omega) (by decide) (by omega);have aX:Hid (FK (fun i=>decide (i=2)||decide (i=3)) 6 A (j*6+2)= .string (mtS I)):=zdi (c:=2) (by omega) (by decide) (by omega);have aY:Hid (FK (fun i=>decide (i=2)||decide (i=3)) 6 A (j*6+3)= .string (mtS E)):=zdi (c:=3) (by omega) (by decide) (by omega);have aQ:Hid (FK (fun i=>decide (i=2)||decide (i=3)) 6 A (j*6+4)= .int .i64 (K:Int)):=zdN (c:=4) (by omega) (by decide) (by omega);have aT:Hid (FK (fun i=>decide (i=2)||decide (i=3)) 6 A (j*6+5)= .int .i64 (N:Int)):=zdN (c:=5) (by omega) (by decide) (by omega);have HQ:Hid (U=A+(j*6+6)):=by show U=_;omega
   have bn:U<=7950000:=by omega
   have ba:0<J:=by omega
   have L:Hid (0<I/\I<=8000000):=⟨by omega,by omega⟩;have M:Hid (0<E/\E<=8000000):=⟨by omega,by omega⟩;obtain⟨Y,ae⟩: ∃Y,Y=j+1:=⟨_,rfl⟩;have ej:(j:Int)+1=(Y:Int):=by omega
   have HJ:=zc ae;clear ae af aU aO aL aN aZ a0;obtain⟨bo,a2⟩:=z.o.has h.o (j*6) (by omega);have a1:=z.o.free h.o (j*6);obtain⟨bl,a4⟩:=z.o.has h.o (j*6+1) (by omega);have a8:=z.o.free h.o (j*6+1);obtain⟨bp,be⟩:=z.o.has h.o (j*6+2) (by omega);have bb:=z.o.free h.o (j*6+2);obtain⟨bk,a7⟩:=z.o.has h.o (j*6+3) (by omega);have a5:=z.o.free h.o (j*6+3);obtain⟨bs,bc⟩:=z.o.has h.o (j*6+4) (by omega);have a6:=z.o.free h.o (j*6+4);obtain⟨bq,a3⟩:=z.o.has h.o (j*6+5) (by omega);have a9:=z.o.free h.o (j*6+5);have ai:Hid (OwnG (wr.setCell ⟨F,j*6,none⟩ (.int .i64 (J:Int))) g 100 6 r n (FK (fun i=>decide (i=2)||decide (i=3)) 6 A) (j*6+1)):=z.o.put h.o (by omega) aR.o;have ad:Hid (w.grownBy (wr.setCell ⟨F,j*6,none⟩ (.int .i64 (J:Int))) r.blk):=zb2 ac.o (zb1 h.o);have ak:Hid (OwnG ((wr.setCell ⟨F,j*6,none⟩ (.int .i64 (J:Int))).setCell ⟨F,j*6+1,none⟩ (.int .i64 (O:Int))) g 100 6 r n (FK (fun i=>decide (i=2)||decide (i=3)) 6 A) (j*6+1+1)):=ai.o.put h.o (by omega) aM.o;have aj:Hid (w.grownBy ((wr.setCell ⟨F,j*6,none⟩ (.int .i64 (J:Int))).setCell ⟨F,j*6+1,none⟩ (.int .i64 (O:Int))) r.blk):=zb2 ad.o (zb1 h.o);go_wp2_with fail;refine (zdh I _ L.o.1 L.o.2).mono ?_;rintro e w2 ⟨rfl,V⟩;have D:=zc (ak.o.later V);have aS:=zc (zdj aj.o V);clear V;obtain⟨aV,aD⟩:=D.o.has h.o (j*6+2) (by omega);have aq:=D.o.free h.o (j*6+2);obtain⟨aP,aA⟩:=D.o.has h.o (j*6+3) (by omega);have aF:=D.o.free h.o (j*6+3);obtain⟨aJ,ax⟩:=D.o.has h.o (j*6+4) (by omega);have av:=D.o.free h.o (j*6+4);obtain⟨aH,aC⟩:=D.o.has h.o (j*6+5) (by omega);have au:=D.o.free h.o (j*6+5);have ap:Hid (OwnG (w2.setCell ⟨F,j*6+2,none⟩ (.string (mtS I))) g 100 6 r n (FK (fun i=>decide (i=2)||decide (i=3)) 6 A) (j*6+2+1)):=D.o.put h.o (by omega) aX.o;have al:Hid (w.grownBy (w2.setCell ⟨F,j*6+2,none⟩ (.string (mtS I))) r.blk):=zb2 aS.o (zb1 h.o);go_wp2_with fail;refine (zdh E _ M.o.1 M.o.2).mono ?_;rintro e Z ⟨rfl,X⟩;have H:=zc (ap.o.later X);have aW:=zc (zdj al.o X);clear X;obtain⟨aI,aB⟩:=H.o.has h.o (j*6+3) (by omega);have ay:=H.o.free h.o (j*6+3);obtain⟨aK,ar⟩:=H.o.has h.o (j*6+4) (by omega);have aw:=H.o.free h.o (j*6+4);obtain⟨aG,az⟩:=H.o.has h.o (j*6+5) (by omega);have aE:=H.o.free h.o (j*6+5);have ao:Hid (OwnG (Z.setCell ⟨F,j*6+3,none⟩ (.string (mtS E))) g 100 6 r n (FK (fun i=>decide (i=2)||decide (i=3)) 6 A) (j*6+3+1)):=H.o.put h.o (by omega) aY.o;have aa:Hid (w.grownBy (Z.setCell ⟨F,j*6+3,none⟩ (.string (mtS E))) r.blk):=zb2 aW.o (zb1 h.o);have ag:Hid (OwnG ((Z.setCell ⟨F,j*6+3,none⟩ (.string (mtS E))).setCell ⟨F,j*6+4,none⟩ (.int .i64 (K:Int))) g 100 6 r n (FK (fun i=>decide (i=2)||decide (i=3)) 6 A) (j*6+4+1)):=ao.o.put h.o (by omega) aQ.o;have ab:Hid (w.grownBy ((Z.setCell ⟨F,j*6+3,none⟩ (.string (mtS E))).setCell ⟨F,j*6+4,none⟩ (.int .i64 (K:Int))) r.blk):=zb2 aa.o (zb1 h.o);have an:Hid (OwnG (((Z.setCell ⟨F,j*6+3,none⟩ (.string (mtS E))).setCell ⟨F,j*6+4,none⟩ (.int .i64 (K:Int))).setCell ⟨F,j*6+5,none⟩ (.int .i64 (N:Int))) g 100 6 r n (FK (fun i=>decide (i=2)||decide (i=3)) 6 A) (j*6+5+1)):=ag.o.put h.o (by omega) aT.o;have am:Hid (w.grownBy (((Z.setCell ⟨F,j*6+3,none⟩ (.string (mtS E))).setCell ⟨F,j*6+4,none⟩ (.int .i64 (K:Int))).setCell ⟨F,j*6+5,none⟩ (.int .i64 (N:Int))) r.blk):=zb2 ab.o (zb1 h.o);go_wp2;go_roundg (gk-1)
   case rel=>exact⟨Y,rfl,by have:=HJ.o;omega,by have:=HJ.o;have:=HQ.o;rw[show U=A+Y*6 from by omega],by have:=an.o;rw[show Y*6=j*6+5+1 from by have:=HJ.o;omega];exact this,am.o⟩
   case measure=>omega
  ·have ah: ¬(j:Int)<(n:Int):=by omega
   obtain rfl:j=n:=by omega
   subst hq;go_wp2;go_ret;exact⟨rfl,z.o,ac.o⟩
theorem zxA (E:OwnG V g 100 6 C b (FK (fun i=>decide (i=2)||decide (i=3)) 6 c) 0) (L:b<=1048576) (q:0<c) (I:c+b*6<=7900000):
  Calls prog 76 #[.slice C.a b C.cap,.int .i64 c] V fun e A=>e= .returned (.int .i64 ((c+b*6:Nat):Int))/\OwnG A g 100 6 C b (FK (fun i=>decide (i=2)||decide (i=3)) 6 c) (b*6)/\V.grownBy A C.blk:=by
 by_cases H:b=0
 ·subst H;refine (zx8 _ _ c V).mono ?_;rintro e M ⟨rfl,rfl⟩;exact⟨by simp,by rw[zero_mul];exact E,zcP _ _⟩
 ·obtain⟨J,D,K⟩:=E;rcases D.nil_or with ⟨_,_,e⟩|⟨F,z⟩
  ·exact absurd e H
  ·rw[z];exact zx9 g F b c C V ⟨J,D,K⟩ z L q I
theorem zxB:Calls prog 49 #[.slice W 0 c,.int .i64 d] V fun e z=>e= .returned (.int .i64 d)/\z=V:=by
 go_enter func49,ntmps49;go_wp2;go_loopg [1,5] 1 (fun k q i wr=>k=1/\q= .int .i64 d/\i= .int .i64 0/\wr=V)
 case atStart=>exact⟨rfl,rfl,rfl,rfl⟩
 case round=>
  obtain⟨rfl,rfl,rfl,rfl⟩:=hrel;go_wp2;go_ret;exact⟨rfl,rfl⟩
theorem zxC (F n z:Nat) (r:Rw) (w:World) (h1:OwnG w g 57 3 r n (FK (fun i=>decide (i=1)) 3 z) 0) (e1:r.a=some ⟨F,0,none⟩) (hn:n<=1048576) (aC:0<z) (hk:z+n*3<=7900000):
  Calls prog 49 #[.slice (some ⟨F,0,none⟩) n r.cap,.int .i64 z] w fun e w'=>e= .returned (.int .i64 ((z+n*3:Nat):Int))/\OwnG w' g 57 3 r n (FK (fun i=>decide (i=1)) 3 z) (n*3)/\w.grownBy w' r.blk:=by
 have H1:=zc h1;have A:=zc e1;clear h1 e1;go_enter func49,ntmps49;go_wp2;go_loopg [1,5] n (fun k q i wr=>∃j:Nat,i= .int .i64 j/\j+k=n/\q= .int .i64 ((z+j*3:Nat):Int)/\OwnG wr g 57 3 r n (FK (fun i=>decide (i=1)) 3 z) (j*3)/\w.grownBy wr r.blk)
 case atStart=>exact⟨0,rfl,by omega,by simp,by rw[zero_mul];exact H1.o,zcP _ _⟩
 case round=>
  obtain⟨j,rfl,hj,hq,ho,hg⟩:=hrel;have h:=zc ho;have Z:=zc hg;clear ho hg;by_cases az:j<n
  ·have aa:(j:Int)<(n:Int):=by omega
   obtain⟨H,V⟩: ∃H:Nat,H=z+(j*3):=⟨_,rfl⟩;rw[<-V] at hq;subst hq;obtain⟨D,ah⟩: ∃D:Nat,D=H+1:=⟨_,rfl⟩;have aG:(H:Int)+1=(D:Int):=by omega
   obtain⟨J,ap⟩: ∃J:Nat,J=D+1:=⟨_,rfl⟩;have aE:(D:Int)+1=(J:Int):=by omega
   obtain⟨K,am⟩: ∃K:Nat,K=J+1:=⟨_,rfl⟩;have aD:(J:Int)+1=(K:Int):=by omega
   have ai:Hid (FK (fun i=>decide (i=1)) 3 z (j*3)= .int .i64 (H:Int)):=zdN (c:=0) (by omega) (by decide) (by omega);have ao:Hid (FK (fun i=>decide (i=1)) 3 z (j*3+1)= .string (mtS D)):=zdi (c:=1) (by omega) (by decide) (by omega);have ak:Hid (FK (fun i=>decide (i=1)) 3 z (j*3+2)= .int .i64 (J:Int)):=zdN (c:=2) (by omega) (by decide) (by omega);have HQ:Hid (K=z+(j*3+3)):=by show K=_;omega
   have aF:K<=7950000:=by omega
   have aw:0<H:=by omega
   have I:Hid (0<D/\D<=8000000):=⟨by omega,by omega⟩;obtain⟨M,N⟩: ∃M,M=j+1:=⟨_,rfl⟩;have ej:(j:Int)+1=(M:Int):=by omega
   have HJ:=zc N;clear N V ah ap am;obtain⟨aH,ax⟩:=h.o.has A.o (j*3) (by omega);have ar:=h.o.free A.o (j*3);obtain⟨aB,au⟩:=h.o.has A.o (j*3+1) (by omega);have aq:=h.o.free A.o (j*3+1);obtain⟨aA,ay⟩:=h.o.has A.o (j*3+2) (by omega);have av:=h.o.free A.o (j*3+2);have ac:Hid (OwnG (wr.setCell ⟨F,j*3,none⟩ (.int .i64 (H:Int))) g 57 3 r n (FK (fun i=>decide (i=1)) 3 z) (j*3+1)):=h.o.put A.o (by omega) ai.o;have ab:Hid (w.grownBy (wr.setCell ⟨F,j*3,none⟩ (.int .i64 (H:Int))) r.blk):=zb2 Z.o (zb1 A.o);go_wp2_with fail;refine (zdh D _ I.o.1 I.o.2).mono ?_;rintro e w1 ⟨rfl,L⟩;have E:=zc (ac.o.later L);have an:=zc (zdj ab.o L);clear L;obtain⟨al,ad⟩:=E.o.has A.o (j*3+1) (by omega);have ae:=E.o.free A.o (j*3+1);obtain⟨aj,ag⟩:=E.o.has A.o (j*3+2) (by omega);have af:=E.o.free A.o (j*3+2);have X:Hid (OwnG (w1.setCell ⟨F,j*3+1,none⟩ (.string (mtS D))) g 57 3 r n (FK (fun i=>decide (i=1)) 3 z) (j*3+1+1)):=E.o.put A.o (by omega) ao.o;have U:Hid (w.grownBy (w1.setCell ⟨F,j*3+1,none⟩ (.string (mtS D))) r.blk):=zb2 an.o (zb1 A.o);have O:Hid (OwnG ((w1.setCell ⟨F,j*3+1,none⟩ (.string (mtS D))).setCell ⟨F,j*3+2,none⟩ (.int .i64 (J:Int))) g 57 3 r n (FK (fun i=>decide (i=1)) 3 z) (j*3+2+1)):=X.o.put A.o (by omega) ak.o;have Y:Hid (w.grownBy ((w1.setCell ⟨F,j*3+1,none⟩ (.string (mtS D))).setCell ⟨F,j*3+2,none⟩ (.int .i64 (J:Int))) r.blk):=zb2 U.o (zb1 A.o);go_wp2;go_roundg (gk-1)
   case rel=>exact⟨M,rfl,by have:=HJ.o;omega,by have:=HJ.o;have:=HQ.o;rw[show K=z+M*3 from by omega],by have:=O.o;rw[show M*3=j*3+2+1 from by have:=HJ.o;omega];exact this,Y.o⟩
   case measure=>omega
  ·have aa: ¬(j:Int)<(n:Int):=by omega
   obtain rfl:j=n:=by omega
   subst hq;go_wp2;go_ret;exact⟨rfl,h.o,Z.o⟩
theorem zxD (E:OwnG V g 57 3 C b (FK (fun i=>decide (i=1)) 3 c) 0) (L:b<=1048576) (q:0<c) (I:c+b*3<=7900000):
  Calls prog 49 #[.slice C.a b C.cap,.int .i64 c] V fun e A=>e= .returned (.int .i64 ((c+b*3:Nat):Int))/\OwnG A g 57 3 C b (FK (fun i=>decide (i=1)) 3 c) (b*3)/\V.grownBy A C.blk:=by
 by_cases H:b=0
 ·subst H;refine (zxB _ _ c V).mono ?_;rintro e M ⟨rfl,rfl⟩;exact⟨by simp,by rw[zero_mul];exact E,zcP _ _⟩
 ·obtain⟨J,D,K⟩:=E;rcases D.nil_or with ⟨_,_,e⟩|⟨F,z⟩
  ·exact absurd e H
  ·rw[z];exact zxC g F b c C V ⟨J,D,K⟩ z L q I
def RowZ (w:World) (base:Nat) (e:TypeId) (size:Nat) (r:Rw) (n:Nat):Prop:=∃xs,OwnR w base e size r n xs
def MkT (e:TypeId) (size:Nat):Prop:=(e=9/\size=1)∨(e=95/\size=3)∨(e=97/\size=4)∨(e=102/\size=3)∨(e=100/\size=6)∨(e=57/\size=3)
theorem zjn:MkT 9 1:=.inl ⟨rfl,rfl⟩
theorem znx:MkT 95 3:=.inr (.inl ⟨rfl,rfl⟩)
theorem zny:MkT 97 4:=.inr (.inr (.inl ⟨rfl,rfl⟩))
theorem znz:MkT 102 3:=.inr (.inr (.inr (.inl ⟨rfl,rfl⟩)))
theorem zn0:MkT 100 6:=.inr (.inr (.inr (.inr (.inl ⟨rfl,rfl⟩))))
theorem zjo:MkT 57 3:=.inr (.inr (.inr (.inr (.inr ⟨rfl,rfl⟩))))
theorem MkT.one (h:MkT p n) (w:MkT p k):n=k/\0<n:=by
 rcases h with ⟨rfl,rfl⟩|⟨rfl,rfl⟩|⟨rfl,rfl⟩|⟨rfl,rfl⟩|⟨rfl,rfl⟩|⟨rfl,rfl⟩<;>rcases w with ⟨E,rfl⟩|⟨E,rfl⟩|⟨E,rfl⟩|⟨E,rfl⟩|⟨E,rfl⟩|⟨E,rfl⟩<;>first|exact⟨rfl,by decide⟩|exact absurd E (by decide)
theorem RowZ.marked {F:Nat} {e':TypeId} {r':Rw} (h:RowZ s k e' q r' m) (t':MkT e' q) (Q:MkT p S) (h0:RowZ s n p S t F) (h1:RowZ x n p S t F) (hg:s.grownBy x t.blk):RowZ x k e' q r' m:=by
 obtain⟨xs,hx⟩:=h;by_cases hb: ∃P,r'.blk=some P/\t.blk=some P
 ·obtain⟨P,E,H⟩:=hb;obtain⟨ys,hy⟩:=h0;obtain⟨zs,hz⟩:=h1;obtain⟨_,_,ak,hc⟩:=hx.typed E;obtain⟨_,_,K,ac⟩:=hy.typed H;rw[hc] at ac;have e0:=Option.some.inj ac;simp only[Obj.cells.injEq] at e0;obtain⟨rfl,rfl,_⟩:=e0;obtain⟨rfl,aa⟩:=Q.one t';rcases hx.2 with ⟨U,_⟩|⟨g1,A,ab,U,aj,af,Y,ae,ag,_⟩
  ·simp only[Value.slice.injEq] at U;rw[Rw.blk,U.1] at E;cases E
  ·rcases hy.2 with ⟨O,_⟩|⟨g2,J,K,O,_,N,_,_,ah,_⟩
   ·simp only[Value.slice.injEq] at O;rw[Rw.blk,O.1] at H;cases H
   ·rcases hz.2 with ⟨V,_⟩|⟨g3,L,M,V,_,Z,_,_,X,_⟩
    ·simp only[Value.slice.injEq] at V;rw[Rw.blk,V.1] at H;cases H
    ·simp only[Value.slice.injEq] at U O V;have q1:g1=P:=by rw[Rw.blk,U.1] at E;simpa [Value.ownBlock] using E
     have q2:g2=P:=by rw[Rw.blk,O.1] at H;simpa [Value.ownBlock] using H
     have q3:g3=P:=by rw[Rw.blk,V.1] at H;simpa [Value.ownBlock] using H
     subst q1;rw[q2] at N;rw[q3] at Z;have ad:ab=K:=by
      rw[af] at N
      simpa using Option.some.inj N
     have ai:J=L:=O.2.2.symm.trans V.2.2;have I:A=L:=by
      rw[<-ai];have:A*S=J*S:=by rw[<-ag,<-ah,ad]
      exact Nat.eq_of_mul_eq_mul_right aa this
     refine⟨(M.toList.take (m*S)),?_,.inr ⟨g1,A,M,by simp only[Value.slice.injEq];exact U,aj,Z,Y,ae,by rw[X,I],rfl⟩⟩;rw[List.length_take,Array.length_toList,X,<-I];exact Nat.min_eq_left (Nat.mul_le_mul_right _ Y)
 ·exact⟨xs,hx.keep fun G hk=>hg.block G (hx.typed hk).2.1 fun p=>hb ⟨G,hk,p.symm⟩⟩
structure Mkd (base:Nat) (w w':World):Prop where
 bel:Below base w w'
 rows: ∀{b s n:Nat} {e:TypeId} {r:Rw},MkT e s->RowZ w b e s r n->RowZ w' b e s r n
 off: ∀{j:Nat} {cur:Array Value} {t:TypeId},w.heap[j]? =some (.cells cur t (0,0))->(∀s,¬MkT t s)->w'.heap[j]? =w.heap[j]?
theorem Mkd.refl:Mkd g V V:=⟨Below.refl _ _,fun _ h=>h,fun _ _=>rfl⟩
theorem Mkd.trans {D:World} (h:Mkd n s x) (k:Mkd n x D):Mkd n s D:=
 ⟨h.bel.trans k.bel,fun t r=>k.rows t (h.rows t r),fun q A=>by
  have e:=h.off q A
  exact (k.off (e.trans q) A).trans e⟩
theorem Mkd.one {F:Nat} (G:MkT p k) (N:RowZ s n p k t F) (M:RowZ x n p k t F) (D:s.grownBy x t.blk) (I:n<=s.heap.size):Mkd n s x:=by
 obtain⟨K,A⟩:=N;refine⟨(Below.refl _ _).mono I|>.grown D I (fun j q=>(A.typed q).1),fun L h=>h.marked L G ⟨K,A⟩ M D,fun {j cur t2} q ht=>?_⟩;refine D.block j (aLt q) fun O=>?_;obtain⟨_,_,H,J⟩:=A.typed O.symm;rw[q] at J;have E:=Option.some.inj J;simp only[Obj.cells.injEq] at E;exact ht k (E.2.1▸G)
def zbS (m:Md):Nat:=m.rq.length+m.im.length+m.ep.length+m.st.length+m.ex.length
structure MdS (w:World) (base:Nat) (S:Sv) (m:Md):Prop where
 rq:RowZ w base 9 1 S.rq m.rq.length
 im:RowZ w base 95 3 S.im m.im.length
 ep:RowZ w base 97 4 S.ep m.ep.length
 st:RowZ w base 102 3 S.st m.st.length
 ex:RowZ w base 100 6 S.ex m.ex.length
theorem MdS.of {m:Md} (h:OwnMd s n T m):MdS s n T m:=⟨⟨_,h.rq⟩,⟨_,h.im⟩,⟨_,h.ep⟩,⟨_,h.st⟩,⟨_,h.ex⟩⟩
theorem MdS.later {b:Nat} (h:MdS s n T D) (k:Mkd b s x):MdS x n T D:=⟨k.rows zjn h.rq,k.rows znx h.im,k.rows zny h.ep,k.rows znz h.st,k.rows zn0 h.ex⟩
theorem OwnG.s {w:World} {E:Nat} (G:OwnG w n p k t E h m):RowZ w n p k t E:=by obtain⟨z,q,_⟩:=G;exact⟨z,q⟩
theorem RowZ.g {E:Nat} (h:RowZ s n p k t E) (F:Nat->Value):OwnG s n p k t E F 0:=by obtain⟨z,q⟩:=h;exact OwnG.start q F
theorem zn1: ∀s,¬MkT 54 s:=by
 intro s h;rcases h with ⟨k,_⟩|⟨k,_⟩|⟨k,_⟩|⟨k,_⟩|⟨k,_⟩|⟨k,_⟩<;>exact absurd k (by decide)
theorem zxE {q:List Md} (h:q[n]? =some D):((q.take (n+1)).map zbS).sum=((q.take n).map zbS).sum+zbS D:=by
 obtain⟨w,rfl⟩:=List.getElem?_eq_some_iff.1 h;rw[List.take_succ_eq_append_getElem w,List.map_append,List.sum_append];simp
theorem zxF (h:List Md) (j:Nat):((h.take j).map zbS).sum<=(h.map zbS).sum:=by
 have e:h.map zbS=(h.take j).map zbS++(h.drop j).map zbS:=by rw[<-List.map_append,List.take_append_drop]
 rw[e,List.sum_append];omega
theorem zxG (base:Nat) (mr:Rw) (U:List Sv) (D:List Md) (k:Nat) (w:World) (hu:U.length=D.length) (h:OwnR w base 54 5 mr D.length ((U.zip D).flatMap mdL)) (hm: ∀x∈U.zip D,MdS w base x.1 x.2) (hb:base<=w.heap.size) (hk:0<k) (ax:k<=1100000) (hs:(D.map zbS).sum<=1048576) (hn:D.length<=1048576):
  Calls prog 48 #[.slice mr.a D.length mr.cap,.int .i64 (k:Int)] w fun e w'=>(∃k2:Nat,e= .returned (.int .i64 (k2:Int))/\k<=k2/\k2<=k+6*(D.map zbS).sum)/\Mkd base w w':=by
 have HM:=zc hm
 have HR:Hid (∀W,Mkd base w W->RowAt W mr.a mdL 5 (U.zip D)):=zc (fun W k=>RowAt.of (f:=mdL) (m:=5) (fun _=>rfl) (by
  rw[show (U.zip D).length=D.length from by rw[List.length_zip];omega];exact h.keep fun q hq=>by
   obtain⟨_,_,aw,hc⟩:=h.typed hq
   exact k.off hc zn1))
 have HU:=zc hu;clear hm h hu;go_enter func48,ntmps48;go_wp2;go_loopw [5,1] (fun i s wr=>∃j k':Nat,j<=D.length/\i= .int .i64 j/\s= .int .i64 k'/\k<=k'/\k'<=k+6*((D.take j).map zbS).sum/\Hid (Mkd base w wr)) (fun i _ _=>(D.length-intOf i).toNat)
 case atStart=>exact⟨0,k,Nat.zero_le _,rfl,rfl,le_refl _,by omega,zc (Mkd.refl _ _)⟩
 case round=>
  obtain⟨j,k',hj,rfl,rfl,al,af,M0⟩:=hrel;by_cases ak:j<D.length
  ·have au:(j:Int)<(D.length:Int):=by omega
   obtain⟨⟨S,m⟩,hx⟩: ∃x,(U.zip D)[j]? =some x:=⟨_,List.getElem?_eq_getElem (by rw[List.length_zip];have:=HU.o;omega)⟩;have ai:D[j]? =some m:=by
    rw[List.getElem?_zip_eq_some] at hx;exact hx.2
   have M:=zc (HM.o _ (List.mem_of_getElem? hx));have K:=zxE ai;have aj:=zxF D (j+1);have ac:zbS m=m.rq.length+m.im.length+m.ep.length+m.st.length+m.ex.length:=rfl;rw[K,ac] at aj;obtain⟨sj,am⟩: ∃sj,sj=((D.take j).map zbS).sum:=⟨_,rfl⟩;rw[<-am] at K aj af;obtain⟨b,L,ah,_⟩:=(HR.o wr M0.o).get hx
   have HC:Hid (∀W,Mkd base w W->W.cell? ⟨b,L+j*5,none⟩=some (.slice S.rq.a m.rq.length S.rq.cap)/\W.cell? ⟨b,L+j*5+1,none⟩=some (.slice S.im.a m.im.length S.im.cap)/\W.cell? ⟨b,L+j*5+2,none⟩=some (.slice S.ep.a m.ep.length S.ep.cap)/\W.cell? ⟨b,L+j*5+3,none⟩=some (.slice S.st.a m.st.length S.st.cap)/\W.cell? ⟨b,L+j*5+4,none⟩=some (.slice S.ex.a m.ex.length S.ex.cap)):=zc (fun W kw=>by
    obtain⟨b',an,e,hc⟩:=(HR.o W kw).get hx;rw[ah] at e;cases e
    exact⟨hc 0 _ rfl,hc 1 _ rfl,hc 2 _ rfl,hc 3 _ rfl,hc 4 _ rfl⟩)
   rw[ah];clear hx ai ah;obtain⟨Y,N,O,V,X⟩:=HC.o wr M0.o;go_wp2_with fail;refine (znw base m.rq.length k' S.rq wr ((M.o.later M0.o).rq.g _) (by omega) (by omega) (by omega)).mono ?_;rintro e w1 ⟨rfl,z,A⟩;have M1:Hid (Mkd base w w1):=zc (M0.o.trans (Mkd.one zjn (M.o.later M0.o).rq z.s A (le_trans hb M0.o.bel.size)));obtain⟨H,aa⟩: ∃q,q=k'+m.rq.length:=⟨_,rfl⟩;rw[<-aa];have ar:k'<=H/\H<=k'+m.rq.length:=by omega
   clear aa z A Y N O V X;obtain⟨Y,N,O,V,X⟩:=HC.o w1 M1.o;go_wp2_with fail;refine (zx1 base m.im.length H S.im w1 ((M.o.later M1.o).im.g _) (by omega) (by omega) (by omega)).mono ?_;rintro e w2 ⟨rfl,z,A⟩;have M2:Hid (Mkd base w w2):=zc (M1.o.trans (Mkd.one znx (M.o.later M1.o).im z.s A (le_trans hb M1.o.bel.size)));obtain⟨I,Z⟩: ∃q,q=H+m.im.length*3:=⟨_,rfl⟩;rw[<-Z];have aq:H<=I/\I<=H+m.im.length*3:=by omega
   clear Z z A Y N O V X;obtain⟨Y,N,O,V,X⟩:=HC.o w2 M2.o;go_wp2_with fail;refine (zx4 base m.ep.length I S.ep w2 ((M.o.later M2.o).ep.g _) (by omega) (by omega) (by omega)).mono ?_;rintro e w3 ⟨rfl,z,A⟩;have M3:Hid (Mkd base w w3):=zc (M2.o.trans (Mkd.one zny (M.o.later M2.o).ep z.s A (le_trans hb M2.o.bel.size)));obtain⟨J,ae⟩: ∃q,q=I+m.ep.length*4:=⟨_,rfl⟩;rw[<-ae];have ao:I<=J/\J<=I+m.ep.length*4:=by omega
   clear ae z A Y N O V X;obtain⟨Y,N,O,V,X⟩:=HC.o w3 M3.o;go_wp2_with fail;refine (zx7 base m.st.length J S.st w3 ((M.o.later M3.o).st.g _) (by omega) (by omega) (by omega)).mono ?_;rintro e w4 ⟨rfl,z,A⟩;have M4:Hid (Mkd base w w4):=zc (M3.o.trans (Mkd.one znz (M.o.later M3.o).st z.s A (le_trans hb M3.o.bel.size)));obtain⟨E,ad⟩: ∃q,q=J+m.st.length*3:=⟨_,rfl⟩;rw[<-ad];have av:J<=E/\E<=J+m.st.length*3:=by omega
   clear ad z A Y N O V X;obtain⟨Y,N,O,V,X⟩:=HC.o w4 M4.o;go_wp2_with fail;refine (zxA base m.ex.length E S.ex w4 ((M.o.later M4.o).ex.g _) (by omega) (by omega) (by omega)).mono ?_;rintro e w5 ⟨rfl,z,A⟩;have M5:Hid (Mkd base w w5):=zc (M4.o.trans (Mkd.one zn0 (M.o.later M4.o).ex z.s A (le_trans hb M4.o.bel.size)));obtain⟨ag,ab⟩: ∃q,q=E+m.ex.length*6:=⟨_,rfl⟩;rw[<-ab];have ap:E<=ag/\ag<=E+m.ex.length*6:=by omega
   clear ab z A Y N O V X;go_wp2;go_roundw
   case rel=>exact⟨j+1,ag,ak,by go_num,rfl,by omega,by rw[K,ac];omega,M5⟩
   case measure=>simp[intOf];omega
  ·obtain rfl:j=D.length:=by omega
   rw[List.take_length] at af;go_wp2;go_ret;exact⟨⟨_,rfl,al,af⟩,M0.o⟩
theorem Mkd.below (h:Bw s x) (D:n<=s.heap.size):Mkd n s x:=
 ⟨h.mono D,fun _ k=>by obtain⟨A,E⟩:=k;exact⟨A,E.later h⟩,fun z _=>h.block _ (aLt z)⟩
theorem zn2: ∀s,¬MkT 32 s:=by
 intro s h;rcases h with ⟨k,_⟩|⟨k,_⟩|⟨k,_⟩|⟨k,_⟩|⟨k,_⟩|⟨k,_⟩<;>exact absurd k (by decide)
theorem zxH (G:GS) (F:Gr) (w:World) (ho:GrOwn w g G F) (U:g<=w.heap.size) (hs:F.ps.length+(F.ms.map zbS).sum+F.ls.length<=1048576) (hn:F.ms.length<=1048576):
  Calls prog 17 #[grD G F,.int .i64 1] w fun e w'=>(∃k:Nat,e= .returned (.int .i64 (k:Int)))/\Mkd g w w':=by
 have L:=zc ho;have I:=ho.len;clear ho;unfold grD;go_enter func17,ntmps17;go_upto_region 1 with fail;refine zu (R:=fun W=>Bk W w.heap.size (grC G F) 32/\Below w.heap.size w W) ⟨heap_alloc_new w _,zan w _⟩ ?_;rintro W0 ⟨X,A⟩;have V:=zc X;have M0:Hid (Mkd g w W0):=zc (Mkd.below A U);have P0:Hid (RowZ W0 g 9 1 G.pr F.ps.length):=zc ⟨_,L.o.ps.later A⟩;clear X A;obtain⟨N,J,K,M⟩:=zo V.o;go_wp2_with fail;refine (znw g F.ps.length 1 G.pr W0 (P0.o.g _) (by omega) (by omega) (by omega)).mono ?_;rintro e E ⟨rfl,h,z⟩;have N1:=Mkd.one zjn P0.o h.s z (le_trans U M0.o.bel.size);have D:=zc (M0.o.trans N1);have Y:Hid (Bk E w.heap.size (grC G F) 32):=zc ((N1.off V.o zn2).trans V.o);obtain⟨Z,H⟩: ∃q,q=1+F.ps.length:=⟨_,rfl⟩;rw[<-H];have aa:0<Z/\Z<=1+F.ps.length:=by omega
 have MS:Hid (OwnR E g 54 5 G.mr F.ms.length ((G.sv.zip F.ms).flatMap mdL)):=zc (L.o.ms.keep fun q hq=>by
  obtain⟨_,_,ac,hc⟩:=L.o.ms.typed hq
  exact D.o.off hc zn1)
 have MM:Hid (∀x∈G.sv.zip F.ms,MdS E g x.1 x.2):=zc (fun x X=>(MdS.of (L.o.md x X)).later D.o);have L1:Hid (RowZ E g 57 3 G.lr F.ls.length):=zc (D.o.rows zjo ⟨_,L.o.ls⟩);clear H h z N1 N J K M V M0 P0;obtain⟨N,J,K,M⟩:=zo Y.o;go_wp2_with fail;refine (zxG g G.mr G.sv F.ms Z E I MS.o MM.o (le_trans U D.o.bel.size) aa.1 (by omega) (by omega) hn).mono ?_;rintro e w2 ⟨⟨k2,rfl,ab,ad⟩,O⟩;have M2:=zc (D.o.trans O);have X2:Hid (Bk w2 w.heap.size (grC G F) 32):=zc ((O.off Y.o zn2).trans Y.o);have L2:=zc (O.rows zjo L1.o);clear O N J K M Y D MS MM L1;obtain⟨N,J,K,M⟩:=zo X2.o;go_wp2_with fail;refine (zxD g F.ls.length k2 G.lr w2 (L2.o.g _) (by omega) (by omega) (by omega)).mono ?_;rintro e w3 ⟨rfl,h,z⟩;have M3:=zc (M2.o.trans (Mkd.one zjo L2.o h.s z (le_trans U M2.o.bel.size)));clear h z N J K M X2 M2 L2;go_wp2;go_ret;exact⟨⟨_,rfl⟩,M3.o⟩
end Go.Proofs.YtgcbmogmniahjaaGreat
namespace Go.Proofs.YtgcbmogmniahjaaGreat
open Go.RowKit Go.PlainAid Go.Sort
def SzO (left:Int) (c:Nat) (e:Ending):Prop:=∃z:Int,e= .returned (.int .i64 z)/\ -1<=z/\z<=left/\(0<=z->z+(c:Int)<=left)
def zyk (l:List BA):Nat:=(l.map ByteArray.size).sum
def zyl (c:Cd):Prop:=c.ins.length<=9223372036854775807/\c.cells.length<=9223372036854775807/\c.ent.length<=9223372036854775807/\∀x∈c.cells,x.size<=9223372036854775807
def zym (c:Cd):Prop:=c.ins.length<=1048576/\c.cells.length<=1048576/\c.ent.length<=1048576/\∀x∈c.cells,x.size<=1048576
def zyn (c:Cd) (g0 g1 g2:Nat):CA:=⟨some ⟨g0,0,none⟩,c.ins.length,some ⟨g1,0,none⟩,c.cells.length,some ⟨g2,0,none⟩,c.ent.length⟩
abbrev Fl:=BA×BA
def flL (x:Fl):List Value:=[.string x.1,.string x.2]
def zn3:Fl:=({data:=#[]},{data:=#[]})
def zyo (fs:List Fl) (j:Nat):BA:=(fs.getD j zn3).1
def zyp (fs:List Fl) (j:Nat):BA:=(fs.getD j zn3).2
def zyq (len:Nat) (Pt Tx:Nat->BA):List Fl:=(List.range len).map fun j=>(Pt j,Tx j)
def zyr (w:World) (base:Nat) (e:TypeId) (g n cap:Nat) (fs:List Fl):Prop:=w.ownsRow base e 2 (.slice (some ⟨g,0,none⟩) n cap) n (fs.flatMap flL)/\n=fs.length
def OwnM (w:World) (base:Nat) (e:TypeId) (size g n cap k0 c:Nat):Prop:=∃xs,w.ownsRow base e size (.slice (some ⟨g,0,none⟩) n cap) n xs/\∀i,i<c->xs[i]? =some (.string (mtS (k0+i)))
variable {w:World} {g b c d k:Nat} {W:TypeId}
theorem OwnM.start {C:Nat} {xs:List Value} (h:w.ownsRow g W b (.slice (some ⟨C,0,none⟩) c d) c xs) (A:Nat):OwnM w g W b C c d A 0:=⟨xs,h,fun i z=>absurd z (Nat.not_lt_zero i)⟩
theorem OwnM.blk {C E S:Nat} (h:OwnM w g W b C c d E S):g<=C/\C<w.heap.size:=by
 obtain⟨K,H,_⟩:=h;rcases H.2 with ⟨q,_⟩|⟨L,A,D,q,I,J,_⟩
 ·simp at q
 ·simp only[Value.slice.injEq,Option.some.injEq,Addr.mk.injEq,and_true,true_and] at q;obtain⟨rfl,rfl⟩:=q;exact⟨I,(aLt J)⟩
theorem OwnM.keep {s:World} {C E S:Nat} (h:OwnM w g W b C c d E S) (J:s.heap[C]? =w.heap[C]?):OwnM s g W b C c d E S:=by
 obtain⟨M,H,K⟩:=h;refine⟨M,⟨H.1,?_⟩,K⟩;rcases H.2 with ⟨z,_⟩|⟨O,I,A,z,D,N,L⟩
 ·simp at z
 ·simp only[Value.slice.injEq,Option.some.injEq,Addr.mk.injEq,and_true,true_and] at z;obtain⟨rfl,rfl⟩:=z;exact .inr ⟨C,d,A,rfl,D,J.trans N,L⟩
theorem OwnM.later {s:World} {C z S:Nat} (h:OwnM w g W b C c d z S) (A:Bw w s):OwnM s g W b C c d z S:=h.keep (A.block C h.blk.2)
theorem OwnM.has {C D S:Nat} (h:OwnM w g W b C c d D S) (i:Nat) (A:i<c*b): ∃v,w.cell? ⟨C,i,none⟩=some v:=by
 obtain⟨E,z,_⟩:=h;rw[z.cellAt i A];exact⟨_,List.getElem?_eq_getElem (by rw[z.1];exact A)⟩
theorem OwnM.cell {C A S:Nat} (h:OwnM w g W b C c d A S) (i q:Nat) (J:i<c*b) (I:i<S) (D:q=A+i):w.cell? ⟨C,i,none⟩=some (.string (mtS q)):=by
 obtain⟨K,H,E⟩:=h;rw[H.cellAt i J,D];exact E i I
theorem OwnM.free {C A S:Nat} (h:OwnM w g W b C c d A S) (i:Nat):w.frozen? ⟨C,i,none⟩=false:=by
 obtain⟨D,z,_⟩:=h;exact z.frozenAt i
theorem OwnM.put {C A S:Nat} {e:TypeId} (h:OwnM w g e b C c d A S) (K:S<c*b) (E:k=A+S):OwnM (w.setCell ⟨C,S,none⟩ (.string (mtS k))) g e b C c d A (S+1):=by
 subst E;obtain⟨I,D,H⟩:=h;have J:=D.1;refine⟨I.set S (.string (mtS (A+S))),(D.stored S _).1,fun i L=>?_⟩;by_cases e:i=S
 ·subst e;exact List.getElem?_set_self (by omega)
 ·rw[List.getElem?_set_ne (by omega)];exact H i (by omega)
theorem OwnM.nil {C S:Nat} (h:OwnM w g W b C 0 c d 0) (A:S=0):OwnM w g W b C 0 c d S:=by rw[A];exact h
structure Kept3 (g0 g1 g2:Nat) (w W:World):Prop where
 os:W.os=w.os
 tape:W.tape=w.tape
 output:W.output=w.output
 size:w.heap.size<=W.heap.size
 block: ∀k,k<w.heap.size->k≠g0->k≠g1->k≠g2->W.heap[k]? =w.heap[k]?
theorem Kept3.below {C:Nat} {W:World} (h:Kept3 g b c w W) (I:C<=g) (H:C<=b) (E:C<=c) (J:C<=w.heap.size):Below C w W:=⟨h.os,h.tape,h.output,h.size,fun k D=>h.block k (by omega) (by omega) (by omega) (by omega)⟩
end Go.Proofs.YtgcbmogmniahjaaGreat
