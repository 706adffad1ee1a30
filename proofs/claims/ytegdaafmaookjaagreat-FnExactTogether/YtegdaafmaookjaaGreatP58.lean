/- Facts. -/
import Derived.Test.YtegdaafmaookjaaGreatP45
import Derived.Test.YtegdaafmaookjaaGreatP57
namespace Go.Proofs.YtegdaafmaookjaaGreat
open Go.Proofs.Tryz
set_option maxRecDepth 100000
set_option maxHeartbeats 6400000
open Go.RowKit Go.PlainAid Go.Sort
def zxg (m:Md) (scr:Bool) (w:World) (e:Ending) (w':World):Prop:=
 ∃(t:BA0) (S:Sv) (n:Md) (r:Bool),PrOf (zbX m) m t/\e= .returned (.tuple #[zo S n,.bool r])/\OwnMd w' w.heap.size S n/\(r=true↔zes t scr m)/\(r=true->n=m)/\Bw w w'
structure RA (w:World) (base b3 gx gz gy:Nat) (S S3:Sv) (m n:Md) (z0 z1 z2 z3 z4:Value) (W:World):Prop where
 x:W.heap[gx]? =some (.cells (bxA S m) 59 (0,0))
 z:W.heap[gz]? =some (.cells #[z0,z1,z2,z3,z4] 59 (0,0))
 y:W.heap[gy]? =some (.cells (bxA S3 n) 59 (0,0))
 om:OwnMd W base S m
 on':OwnMd W b3 S3 n
 bel:Bw w W
 hz:w.heap.size<=gz
 hx:gx≠gz
 hy:gy≠gz
variable {w W W':World} {base b3 gx gz gy:Nat} {S S3:Sv} {m n:Md} {z0 z1 z2 z3 z4:Value}
theorem RA.later (h:RA w base b3 gx gz gy S S3 m n z0 z1 z2 z3 z4 W) (q:Bw W W'):RA w base b3 gx gz gy S S3 m n z0 z1 z2 z3 z4 W':=
 ⟨(q.block _ (aLt h.x)).trans h.x,(q.block _ (aLt h.z)).trans h.z,(q.block _ (aLt h.y)).trans h.y,h.om.later q,h.on'.later q,h.bel.trans (q.mono h.bel.size),h.hz,h.hx,h.hy⟩
theorem znB {W:World} {b c:Nat} (q A I H w:Value) (h:b≠c):(((((W.setCell ⟨c,0,none⟩ q).setCell ⟨c,1,none⟩ A).setCell ⟨c,2,none⟩ I).setCell ⟨c,3,none⟩ H).setCell ⟨c,4,none⟩ w).heap[b]? =W.heap[b]?:=by
 rw[heap_setCell_other _ _ _ _ h,heap_setCell_other _ _ _ _ h,heap_setCell_other _ _ _ _ h,heap_setCell_other _ _ _ _ h,heap_setCell_other _ _ _ _ h]
theorem RA.store (h:RA w base b3 gx gz gy S S3 m n z0 z1 z2 z3 z4 W) (q H J I A:Value):RA w base b3 gx gz gy S S3 m n q H J I A (((((W.setCell ⟨gz,0,none⟩ q).setCell ⟨gz,1,none⟩ H).setCell ⟨gz,2,none⟩ J).setCell ⟨gz,3,none⟩ I).setCell ⟨gz,4,none⟩ A):=
 ⟨(znB _ _ _ _ _ h.hx).trans h.x,zdV h.z,(znB _ _ _ _ _ h.hy).trans h.y,zhy (o:=0) h.om ⟨_,h.z⟩,zhy (o:=0) h.on' ⟨_,h.z⟩,zeo h.bel h.hz _ _ _ _ _,h.hz,h.hx,h.hy⟩
theorem zxh (base:Nat) (S:Sv) (m:Md) (X:Bool) (w:World) (h:OwnMd w base S m) (hm:Small m) (ac:Tree m->(zbX m).size<=4294967296):
  Calls prog 145 #[zo S m,.bool X] w (zxg m X w):=by
 have HH:=zc h;have SM:=zc hm;have HU:=zc ac;have SF:Hid (zeq m):=hm.few;clear h hm ac;unfold zo;go_enter func145,ntmps145;go_upto_region 1 with fail;have e1:(w.alloc (.cells (bxA S m) 59)).heap.size=w.heap.size+1:=zh _ _;have I:Hid (Bw w ((w.alloc (.cells (bxA S m) 59)).alloc (.cells #[.slice none 0 0,.slice none 0 0,.slice none 0 0,.slice none 0 0,.slice none 0 0] 59))):=(bA0).alloc (by rw[e1];omega) _;refine zp (R:=fun W=>W.heap[w.heap.size]? =some (.cells (bxA S m) 59 (0,0))/\W.heap[w.heap.size+1]? =some (.cells #[.slice none 0 0,.slice none 0 0,.slice none 0 0,.slice none 0 0,.slice none 0 0] 59 (0,0))/\OwnMd W base S m/\Below w.heap.size w W) ⟨(heap_alloc_old _ _ (by rw[e1];omega)).trans (hN0 w _),heap_alloc2_new w _ _,HH.o.later I.o,I.o⟩ ?_;obtain⟨gx,Z⟩: ∃gx,gx=w.heap.size:=⟨_,rfl⟩;obtain⟨gz,ad⟩: ∃gz,gz=w.heap.size+1:=⟨_,rfl⟩;rw[<-ad,<-Z];rintro w1 ⟨hx,hz,ho,A⟩;rw[Z] at A;have V:Hid (gx≠gz/\w.heap.size<=gz):=⟨by omega,by omega⟩;clear Z ad I HH e1;have X1:=zc hx;have Z1:=zc hz;have O1:=zc ho;have ab:=zc A;clear hx hz ho A;obtain⟨c0,c1,c2,c3,c4,cf⟩:=zl X1.o;go_wp2_with fail;refine (zv3 base S m X w1 O1.o SM.o (fun t=>Nat.le_trans (HU.o t) (by omega))).mono ?_;rintro e w2 ⟨L,A⟩;obtain⟨t,aa,rfl⟩:=L.form;have PR:=zc aa;have ht:=aa.size HU.o;have X2:=zc ((A.block _ (aLt X1.o)).trans X1.o);have Z2:=zc ((A.block _ (aLt Z1.o)).trans Z1.o);have O2:=zc (O1.o.later A);have U:=zc (ab.o.trans (A.mono ab.o.size));clear L aa A c0 c1 c2 c3 c4 cf X1 Z1 O1 ab;go_wp2_with fail;refine (zxf t X w2 ht).mono ?_;rintro e J ⟨L,A⟩;have X3:=zc ((A.block _ (aLt X2.o)).trans X2.o);have Z3:=zc ((A.block _ (aLt Z2.o)).trans Z2.o);have O3:=zc (O2.o.later A);have M:=zc (U.o.trans (A.mono U.o.size));have ag:=(aLt Z2.o);clear A X2 Z2 O2;rcases L.md with ⟨q,S3,n,hy,hn,rfl,Y,ae⟩|⟨p,hy,rfl⟩
 ·have OK:=zc (zlm (m:=m) hy hn);have O4:=zc Y;have N:gz<J.heap.size:=(aLt Z3.o);clear L hy hn Y ae;unfold zo;go_upto_region 2 with fail;have I:Hid (Bw J (J.alloc (.cells (bxA S3 n) 59))):=bA0;refine zp (R:=RA w base w2.heap.size gx gz J.heap.size S S3 m n (.slice none 0 0) (.slice none 0 0) (.slice none 0 0) (.slice none 0 0) (.slice none 0 0)) ⟨(I.o.block _ (aLt X3.o)).trans X3.o,(I.o.block _ N).trans Z3.o,hN0 J _,O3.o.later I.o,O4.o.later I.o,M.o.trans (I.o.mono M.o.size),V.o.2,V.o.1,by omega⟩ ?_;obtain⟨gy,O⟩: ∃gy,gy=J.heap.size:=⟨_,rfl⟩;rw[<-O];intro w4 h4;have K:=zc h4;clear h4 O I X3 Z3 O3 O4 M N;obtain⟨c0,c1,c2,c3,c4,cf⟩:=zl K.o.x;obtain⟨d0,d1,d2,d3,d4,df⟩:=zl K.o.y;obtain⟨k0,k1,k2,k3,k4,kf⟩:=zl K.o.z;go_region_with (go_at_call 178;first|(refine ((zlX base w2.heap.size S S3 m n _ (K.o.later (Below.refl _ _).drew).om (K.o.later (Below.refl _ _).drew).on' SF.o)).mono ?_;rintro e w5 ⟨⟨r,rfl,hr⟩,A⟩;have H:=zc ((K.o.later (Below.refl _ _).drew).later A);have HR:=zc hr;clear hr A;obtain⟨a0,a1,a2,a3,a4,af⟩:=zl H.o.x;obtain⟨b0,b1,b2,b3,b4,bf⟩:=zl H.o.y;obtain⟨l0,l1,l2,l3,l4,lf⟩:=zl H.o.z)|(refine ((zlX base w2.heap.size S S3 m n _ ((K.o.later (Below.refl _ _).drew).store ..).om ((K.o.later (Below.refl _ _).drew).store ..).on' SF.o)).mono ?_;rintro e w5 ⟨⟨r,rfl,hr⟩,A⟩;have H:=zc (((K.o.later (Below.refl _ _).drew).store ..).later A);have HR:=zc hr;clear hr A;obtain⟨a0,a1,a2,a3,a4,af⟩:=zl H.o.x;obtain⟨b0,b1,b2,b3,b4,bf⟩:=zl H.o.y;obtain⟨l0,l1,l2,l3,l4,lf⟩:=zl H.o.z))
  all_goals
   go_wp2
   first
   |(refine bodyPost_ret (zaH rfl _ _ gz 59 _ (0,0) _ rfl (H.o.store ..).z underlying59 rfl (by kernel_rfl)) rfl ?_
     exact⟨t,S3,n,r,PR.o,rfl,((H.o.store ..).on').low U.o.size,HR.o.trans (Iff.trans ⟨Eq.symm,Eq.symm⟩ OK.o.symm),fun k=>(HR.o.1 k).symm,(H.o.store ..).bel⟩)
   |(refine bodyPost_ret (zaH rfl _ _ gz 59 _ (0,0) _ rfl H.o.z underlying59 rfl (by kernel_rfl)) rfl ?_
     exact⟨t,S3,n,r,PR.o,rfl,H.o.on'.low U.o.size,HR.o.trans (Iff.trans ⟨Eq.symm,Eq.symm⟩ OK.o.symm),fun k=>(HR.o.1 k).symm,H.o.bel⟩)
 ·have NO:=zc (zll (m:=m) hy);have N:gz<J.heap.size:=(aLt Z3.o);clear L hy;go_upto_region 2 with fail;have I:Hid (Bw J (J.alloc (.cells #[.slice none 0 0,.slice none 0 0,.slice none 0 0,.slice none 0 0,.slice none 0 0] 59))):=bA0;refine zp (R:=RA w base w2.heap.size gx gz J.heap.size S S0 m md0 (.slice none 0 0) (.slice none 0 0) (.slice none 0 0) (.slice none 0 0) (.slice none 0 0)) ⟨(I.o.block _ (aLt X3.o)).trans X3.o,(I.o.block _ N).trans Z3.o,hN0 J _,O3.o.later I.o,zmA _ _,M.o.trans (I.o.mono M.o.size),V.o.2,V.o.1,by omega⟩ ?_;obtain⟨gy,O⟩: ∃gy,gy=J.heap.size:=⟨_,rfl⟩;rw[<-O];intro w4 h4;have K:=zc h4;clear h4 O I X3 Z3 O3 M N;obtain⟨c0,c1,c2,c3,c4,cf⟩:=zl K.o.x;obtain⟨d0,d1,d2,d3,d4,df⟩:=zl (v0:=.slice none 0 0) (v1:=.slice none 0 0) (v2:=.slice none 0 0) (v3:=.slice none 0 0) (v4:=.slice none 0 0) K.o.y;obtain⟨k0,k1,k2,k3,k4,kf⟩:=zl K.o.z;have H:=zc ((K.o.store (.slice none 0 0) (.slice none 0 0) (.slice none 0 0) (.slice none 0 0) (.slice none 0 0)).later (Below.refl _ _).drew);have ah:((p:Int)== -1)=false:=bN0 (by omega);go_region_with (fail)
  all_goals
   go_wp2;go_simp;refine bodyPost_ret (zaH rfl _ _ gz 59 _ (0,0) _ rfl H.o.z underlying59 rfl (by kernel_rfl)) rfl ?_;exact⟨t,S0,md0,false,PR.o,rfl,zmA _ _,⟨fun k=>(by cases k),fun k=>absurd k NO.o⟩,fun k=>(by cases k),H.o.bel⟩
theorem zxi (base:Nat) (S:Sv) (m:Md) (q:Bool) (w:World) (h:OwnMd w base S m) (K:Small m) (A:Tree m->(zbX m).size<=4294967296):
  Calls prog 111 #[zo S m,.bool q] w fun e w'=>zhp (zbX m) m q e/\Bw w w':=by
 have I:Hid (Bw w (w.alloc (.cells (bxA S m) 59))):=bA0;have H:=zc (zxh base S m q _ (h.later I.o) K A);clear h K A;unfold zo at H ⊢;go_enter func111,ntmps111;go_wp2_with fail;refine H.o.mono ?_;rintro e V ⟨t,X,n,r,J,rfl,_,M,_,N⟩;have O:=zc J;have U:=zc M;have L:=zc (I.o.trans (N.mono I.o.size));clear J M N H;unfold zo;go_wp2;go_ret;exact⟨⟨t,O.o,r,rfl,U.o⟩,L.o.alloc L.o.size _⟩
