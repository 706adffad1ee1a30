/- Facts. -/
import Derived.Test.YtegdaafmaookjaaGreatP97
namespace Go.Proofs.YtegdaafmaookjaaGreat
open Go.Proofs.Tryz
set_option maxRecDepth 100000
set_option maxHeartbeats 6400000
open Go.RowKit Go.PlainAid Go.Sort
theorem zzy (cG:GrC 11) (base:Nat) (G:GS) (g:Gr) (H:Int) (w:World) (ho:GrOwn w base G g) (hg:GdG g):
  Calls prog 23 #[grD G g,.int .i64 H] w (zfP g H (fun h j=>zx g j h) w):=by
 obtain⟨i0,hi,ag,al,aj⟩:=info_parts Tryz.infoItS;have CG:=zc cG;have HG:=zc hg;have ak:=hg.ll;have aq:=hg.ml;have O0:=zc ho;clear ho hg cG;unfold grD;go_enter func23,ntmps23;go_upto_region 1 with fail;refine zp (R:=fun W=>Bk W w.heap.size (grC G g) 32/\Below w.heap.size w W) ⟨hN0 w _,zn w _⟩ ?_;rintro W0 ⟨X,A⟩;have N:=zc X;have K:=zc A;clear X A;go_upto_region 2 with fail;refine zp (R:=fun W=>Bk W w.heap.size (grC G g) 32/\OwnE itE W w.heap.size 3 W0.heap.size 0 0 []/\Below w.heap.size w W) ⟨N.o.later (zn W0 _),(OwnE.nil itE W0 3).low K.o.size,zi K.o (zn W0 _)⟩ ?_;obtain⟨gr,ae⟩: ∃gr,gr=W0.heap.size:=⟨_,rfl⟩;rw[<-ae];clear ae N K;rintro W1 ⟨X,hr,A⟩;have N:=zc X;have R0:=zc hr;have K:=zc A;clear X hr A;obtain⟨c0,Y,U,Z⟩:=zg N.o;go_wp2_with fail;refine (CG.o base G g W1 (O0.o.later K.o) HG.o).mono ?_;rintro e w1 ⟨⟨b,rfl,V⟩,A⟩;have X1:=zc (N.o.later A);have R1:=zc (R0.o.later A);have B1:=zc (zi K.o A);have OK:=zc V;clear V A c0 Y U Z N K R0;obtain⟨c0,Y,U,Z⟩:=zg X1.o;have NO:Hid (¬InG g H->zfP g H (fun h j=>zx g j h) w (.returned (.slice (some ⟨gr,0,none⟩) 0 0)) w1):=zc (fun k=>⟨_,_,_,_,rfl,OutE.own R1.o,B1.o,fun k'=>absurd k' k,fun _=>rfl⟩);cases b with
 |false=>
  have HK:Hid (¬InG g H):=zc (fun k=>absurd (OK.o.2 k.1) (by decide));clear OK;go_wp2;go_ret;exact NO.o HK.o
 |true=>
  have I:Hid (GrS g):=OK.o.1 (by simp);clear OK;by_cases h0:0<=H
  ·by_cases h1:H<(g.ms.length:Int)
   ·have LK:=zc I.o.links;have af:1<=g.ms.length:=I.o.1.1;have ai:g.ms.length<=8:=I.o.1.2;obtain⟨h,rfl⟩: ∃h:Nat,H=(h:Int):=⟨H.toNat,by omega⟩;have IG:Hid (InG g (h:Int)):=zc ⟨I.o,h0,h1⟩;have ah:h<g.ms.length:=by omega
    clear NO;have au:decide (g.ms.length<=h)=false:=dF (by omega);have ar: ¬g.ms.length<=h:=by omega
    have ao:decide ((h:Int)<0)=false:=dF (by omega);go_wp2;go_loopw [6,5] (fun i o wr=>∃(k O M q:Nat),k<=g.ms.length/\i= .int .i64 k/\o= .slice (some ⟨O,0,none⟩) M q/\Hid (OwnE itE wr w.heap.size 3 O M q (zM k fun j=>zx g j h))/\Hid (Bw w wr)/\Hid (Bk wr w.heap.size (grC G g) 32)) (fun i _ _=>(g.ms.length-intOf i).toNat)
    case atStart=>exact⟨0,gr,0,0,Nat.zero_le _,rfl,rfl,R1,B1,X1⟩
    case round=>
     clear R1 B1 X1 c0 Y U Z;obtain⟨k,O,M,q,hk,rfl,rfl,HO,HB,HX⟩:=hrel;obtain⟨c0,Y,U,Z⟩:=zg HX.o;by_cases L:k<g.ms.length
     ·have aa:(k:Int)<(g.ms.length:Int):=by omega
      have J:=zc (zdw (fun j=>zx g j h) k);have ap:M<=8:=by have:=HO.o.2;have:=zei k fun j=>zx g j h;omega
      go_wp2_with fail;refine (zfO base G g k L wr (O0.o.later HB.o) af ai ak LK.o).mono ?_;rintro e w2 ⟨gf,rfl,ac,A⟩;have hc:=ac.cell (zdO (a:=k) ah);have O2:=zc (HO.o.later A);have B2:=zc (zi HB.o A);have X2:=zc (HX.o.later A);clear ac A HO HB HX c0 Y U Z;cases hp:zx g k h with
      |true=>
       rw[hp] at hc;have HM:Hid ((zM (k+1) fun j=>zx g j h)=(zM k fun j=>zx g j h)++[Int.ofNat k]):=by show _=_;rw[J.o,if_pos hp]
       go_wp2_with (at_builtin;refine zeh itE _ rfl _ _ 36 rfl w.heap.size 3 i0 _ 8 underlying36 hi ag al aj rfl (by decide) O M q _ (by rfl) (O2.o.later (bA0)) w2.heap.size (Int.ofNat k) (by rfl) (by exact hN0 _ _) (by omega) ?_;intro g4 ab w4 am ad an);have B4:=zc ((B2.o.alloc B2.o.size _).grown ad (B2.o.alloc B2.o.size _).size (fun j hj=>by cases hj;exact O2.o.blk.1));have X4:Hid (Bk w4 w.heap.size (grC G g) 32):=zc (zzi (X2.o.later (zn _ _)) (O2.o.later (zn _ _)) ad);go_roundw
       case rel=>exact⟨k+1,g4,M+1,ab,L,by go_num,by go_num,by rw[HM.o];exact zc am,B4,X4⟩
       case measure=>simp[intOf];omega
      |false=>
       rw[hp] at hc;have HM:Hid ((zM (k+1) fun j=>zx g j h)=zM k fun j=>zx g j h):=by show _=_;rw[J.o,if_neg (by rw[hp];decide)]
       go_wp2;go_roundw
       case rel=>exact⟨k+1,O,M,q,L,by go_num,rfl,by rw[HM.o];exact O2,B2,X2⟩
       case measure=>simp[intOf];omega
     ·obtain rfl:k=g.ms.length:=by omega
      have aa: ¬((g.ms.length:Nat):Int)<(g.ms.length:Int):=by omega
      go_wp2;go_ret;exact⟨_,_,_,_,rfl,OutE.own HO.o,HB.o,fun _=>by rw[Int.toNat_natCast],fun k=>absurd IG.o k⟩
   ·have HK:Hid (¬InG g H):=zc (fun k=>h1 k.2.2);go_wp2;go_ret;exact NO.o HK.o
  ·have HK:Hid (¬InG g H):=zc (fun k=>h0 k.2.1);go_wp2;go_ret;exact NO.o HK.o
set_option maxHeartbeats 3200000
theorem zzz (g:Gr) (b H J q j:Nat) (X:Nat->Nat) (w:World) (h:ReAt w g b X) (K:w.heap[H]? =some (.cells #[.slice (some ⟨b,0,none⟩) g.ms.length g.ms.length] 75 (0,0))) (A:w.heap[J]? =some (.cells #[.int .i64 (q:Int)] 3 (0,0))) (L:q<g.ms.length) (N:j<g.ms.length):
  Calls prog 62 #[.int .i64 (j:Int),.pointer (some ⟨H,0,none⟩),.pointer (some ⟨J,0,none⟩)] w fun e w'=>e= .returned (.bool (zx g j q))/\Bw w w':=by
 obtain⟨Y,_,I⟩:=h.2 j N;have U:=I q L;generalize zx g j q=v at U ⊢;have Z:=Boxed.cell K;have c1:=Boxed.cell A;have M:(q:Int)<(g.ms.length:Int):=by omega
 have V:(j:Int)<(g.ms.length:Int):=by omega
 have O:Hid (Bw w w):=zc (Below.refl _ _);clear h I K A;go_enter func62,ntmps62;go_wp2;go_region
 all_goals
  go_wp2;go_ret;exact⟨rfl,O.o.drew⟩
theorem zz0 (g:Gr) (b gc Z A:Nat) (gs:Nat->Nat) (w:World) (h:ReAt w g b gs) (hc:w.heap[gc]? =some (.cells #[.slice (some ⟨b,0,none⟩) g.ms.length g.ms.length] 75 (0,0))) (hq:w.heap[Z]? =some (.cells #[.int .i64 (A:Int)] 3 (0,0))) (hm:A<g.ms.length) (ah:g.ms.length<=8):
  Calls prog 57 #[.slice (some ⟨b,0,none⟩) g.ms.length g.ms.length,.func (.func 62) #[] #[.pointer (some ⟨gc,0,none⟩),.pointer (some ⟨Z,0,none⟩)]] w fun e w'=>∃a n M,e= .returned (.slice a n M)/\OutE itE 3 w' w.heap.size a n M (zM g.ms.length fun j=>zx g j A)/\Bw w w':=by
 obtain⟨i0,hi,V,ab,ad⟩:=info_parts Tryz.infoItA;have RA:=zc h;have HC:=zc hc;have HQ:=zc hq;clear h hc hq;go_enter func57,ntmps57;have O0:Hid (OwnE itE (w.alloc (.cells #[] 3)) w.heap.size 3 w.heap.size 0 0 []):=zc (OwnE.nil itE w 3);have B0:Hid (Bw w (w.alloc (.cells #[] 3))):=zc (bA0);go_wp2;go_loopw [10,5,6] (fun i o _ wr=>∃(k N K q:Nat),k<=g.ms.length/\i= .int .i64 k/\o= .slice (some ⟨N,0,none⟩) K q/\Hid (OwnE itE wr w.heap.size 3 N K q (zM k fun j=>zx g j A))/\Hid (Bw w wr)) (fun i _ _ _=>(g.ms.length-intOf i).toNat)
 case atStart=>exact⟨0,w.heap.size,0,0,Nat.zero_le _,rfl,rfl,O0,B0⟩
 case round=>
  obtain⟨k,N,K,q,hk,rfl,rfl,U,J⟩:=hrel;clear O0 B0;by_cases I:k<g.ms.length
  ·have af:(k:Int)<(g.ms.length:Int):=by omega
   have H:=zc (zdw (fun j=>zx g j A) k);have ag:K<=8:=by have:=U.o.2;have:=zei k fun j=>zx g j A;omega
   go_wp2_with fail;refine (zzz g b gc Z A k gs wr (RA.o.later J.o) (zdc HC.o J.o) (zdc HQ.o J.o) hm I).mono ?_;rintro e w2 ⟨rfl,Y⟩;have O2:=zc (U.o.later Y);have O:=zc (J.o.trans (Y.mono J.o.size));clear Y U J;cases hp:zx g k A with
   |true=>
    have X:Hid ((zM (k+1) fun j=>zx g j A)=(zM k fun j=>zx g j A)++[Int.ofNat k]):=by show _=_;rw[H.o,if_pos hp]
    go_wp2_with (at_builtin;refine zeh itE _ rfl _ _ 36 rfl w.heap.size 3 i0 _ 8 underlying36 hi V ab ad rfl (by decide) N K q _ (by rfl) (O2.o.later (bA0)) w2.heap.size (Int.ofNat k) (by rfl) (by exact hN0 _ _) (by omega) ?_;intro g4 L w4 ac aa ae);go_roundw
    case rel=>exact⟨k+1,g4,K+1,L,I,by go_num,by go_num,by rw[X.o];exact zc ac,zc ((O.o.alloc O.o.size _).grown aa (O.o.alloc O.o.size _).size (fun j hj=>by cases hj;exact O2.o.blk.1))⟩
    case measure=>simp[intOf];omega
   |false=>
    have X:Hid ((zM (k+1) fun j=>zx g j A)=zM k fun j=>zx g j A):=by show _=_;rw[H.o,if_neg (by rw[hp];decide)]
    go_wp2;go_roundw
    case rel=>exact⟨k+1,N,K,q,I,by go_num,rfl,by rw[X.o];exact O2,O⟩
    case measure=>simp[intOf];omega
  ·obtain rfl:k=g.ms.length:=by omega
   go_wp2;go_ret;exact⟨_,_,_,rfl,OutE.own U.o,J.o⟩
theorem zoK (cG:GrC 13) (base:Nat) (G:GS) (g:Gr) (A:Int) (w:World) (ho:GrOwn w base G g) (Y:GdG g):
  Calls prog 24 #[grD G g,.int .i64 A] w (zfP g A (fun A j=>zx g j A) w):=by
 have CG:=zc cG;have HG:=zc Y;have V:=Y.ll;have O0:=zc ho;clear ho Y cG;unfold grD;go_enter func24,ntmps24;go_upto_region 1 with fail;have e1:(w.alloc (.cells (grC G g) 32)).heap.size=w.heap.size+1:=zh _ _;refine zp (R:=fun W=>Bk W w.heap.size (grC G g) 32/\Bk W (w.heap.size+1) #[.int .i64 A] 3/\Below w.heap.size w W) ⟨zdc (hN0 w _) (zn _ _),(by have:=hN0 (w.alloc (.cells (grC G g) 32)) (.cells #[.int .i64 A] 3);rw[e1] at this;exact this),zi (zn w _) (zn _ _)⟩ ?_;clear e1;rintro W0 ⟨hx,J,h⟩;have X0:=zc hx;have Q0:=zc J;have B0:=zc h;clear hx J h;obtain⟨c0,c1,c2,cf⟩:=zg X0.o;have cq:=Boxed.cell Q0.o;go_wp2_with fail;refine (zoD CG.o base G g A W0 (O0.o.later B0.o) HG.o).mono ?_;rintro e w1 ⟨⟨b,rfl,L⟩,h⟩;have X1:=zc (X0.o.later h);have Q1:=zc (Q0.o.later h);have U:=zc (zi B0.o h);have Z:=zc L;clear L h c0 c1 c2 cf cq X0 Q0 B0;obtain⟨c0,c1,c2,cf⟩:=zg X1.o;have cq:=Boxed.cell Q1.o;cases b with
 |false=>
  go_wp2;go_ret;exact⟨none,0,0,_,rfl,OutE.nil _ _ _ _ _ _,U.o,fun k=>absurd (Z.o.2 k) (by decide),fun _=>rfl⟩
 |true=>
  have M:Hid (InG g A):=Z.o.1 (by simp);have LK:=zc M.o.1.links;have I:g.ms.length<=8:=M.o.1.1.2;obtain⟨K,rfl⟩: ∃K:Nat,A=(K:Int):=⟨A.toNat,by have:=M.o.2.1;omega⟩;have ab:K<g.ms.length:=by have:=M.o.2.2;omega
  clear Z;go_wp2_with fail;refine (zgC base G g w1 (O0.o.later U.o) I V LK.o).mono ?_;rintro e H ⟨X,gs,rfl,q,h⟩;have RA:=zc q;have Q2:=zc (Q1.o.later h);have B2:=zc (zi U.o h);clear q h c0 c1 c2 cf cq X1 Q1 U;go_upto_region 4 with fail;refine zp (R:=fun W=>Bk W H.heap.size #[.slice (some ⟨X,0,none⟩) g.ms.length g.ms.length] 75/\Bk W (w.heap.size+1) #[.int .i64 (K:Int)] 3/\ReAt W g X gs/\Below w.heap.size w W) ⟨hN0 H _,Q2.o.later (zn H _),RA.o.later (zn H _),zi B2.o (zn H _)⟩ ?_;obtain⟨gc,O⟩: ∃gc,gc=H.heap.size:=⟨_,rfl⟩;rw[<-O];clear O RA Q2 B2;rintro w3 ⟨hy,J,q,h⟩;have Y3:=zc hy;have Q3:=zc J;have RA:=zc q;have B3:=zc h;clear hy J q h;have cy:=Boxed.cell Y3.o;go_wp2_with fail;refine (zz0 g X gc (w.heap.size+1) K gs w3 RA.o Y3.o Q3.o ab I).mono ?_;rintro e w4 ⟨a,n,aa,rfl,N,h⟩;go_wp2;go_ret;refine⟨a,n,aa,_,rfl,zgD N B3.o.size,zi B3.o h,fun _=>rfl,fun k=>absurd M.o k⟩
