/-
 What impl.readAgain and impl.ModOk answer: the walks.
-/
import Derived.Test.YtgcbmogmniahjaaGreatCAcImplParseAll
namespace Go.Proofs.YtgcbmogmniahjaaGreat
set_option maxRecDepth 100000
set_option maxHeartbeats 6400000
open Go.RowKit Go.PlainAid Go.Sort
def zvc (m:Md) (scr:Bool) (w:World) (e:Ending) (w':World):Prop:=
 ∃(t:ByteArray) (S:Sv) (n:Md) (r:Bool),PrOf (zbK m) m t∧e= .returned (.tuple #[zl S n,.bool r])∧OwnMd w' w.heap.size S n∧(r=true↔zdM t scr m)∧(r=true→n=m)∧Below w.heap.size w w'
structure RA (w:World) (base b3 gx gz gy:Nat) (S S3:Sv) (m n:Md) (z0 z1 z2 z3 z4:Value) (W:World):Prop where
 x:W.heap[gx]? =some (.cells #[.slice S.rq.a m.rq.length S.rq.cap,.slice S.im.a m.im.length S.im.cap,.slice S.ep.a m.ep.length S.ep.cap,.slice S.st.a m.st.length S.st.cap,.slice S.ex.a m.ex.length S.ex.cap] 54 (0,0))
 z:W.heap[gz]? =some (.cells #[z0,z1,z2,z3,z4] 54 (0,0))
 y:W.heap[gy]? =some (.cells #[.slice S3.rq.a n.rq.length S3.rq.cap,.slice S3.im.a n.im.length S3.im.cap,.slice S3.ep.a n.ep.length S3.ep.cap,.slice S3.st.a n.st.length S3.st.cap,.slice S3.ex.a n.ex.length S3.ex.cap] 54 (0,0))
 om:OwnMd W base S m
 on':OwnMd W b3 S3 n
 bel:Below w.heap.size w W
 hz:w.heap.size≤gz
 hx:gx≠gz
 hy:gy≠gz
variable {w W W':World} {base b3 gx gz gy:Nat} {S S3:Sv} {m n:Md} {z0 z1 z2 z3 z4:Value}
theorem RA.later (h:RA w base b3 gx gz gy S S3 m n z0 z1 z2 z3 z4 W) (q:Below W.heap.size W W'):RA w base b3 gx gz gy S S3 m n z0 z1 z2 z3 z4 W':=
 ⟨(q.block _ (Array.getElem?_eq_some_iff.1 h.x).1).trans h.x,(q.block _ (Array.getElem?_eq_some_iff.1 h.z).1).trans h.z,(q.block _ (Array.getElem?_eq_some_iff.1 h.y).1).trans h.y,h.om.later q,h.on'.later q,h.bel.trans (q.mono h.bel.size),h.hz,h.hx,h.hy⟩
theorem zmz {W:World} {b c:Nat} (q z H A w:Value) (h:b≠c):(((((W.setCell ⟨c,0,none⟩ q).setCell ⟨c,1,none⟩ z).setCell ⟨c,2,none⟩ H).setCell ⟨c,3,none⟩ A).setCell ⟨c,4,none⟩ w).heap[b]? =W.heap[b]?:=by
 rw[heap_setCell_other _ _ _ _ h,heap_setCell_other _ _ _ _ h,heap_setCell_other _ _ _ _ h,heap_setCell_other _ _ _ _ h,heap_setCell_other _ _ _ _ h]
theorem RA.store (h:RA w base b3 gx gz gy S S3 m n z0 z1 z2 z3 z4 W) (q H J I A:Value):RA w base b3 gx gz gy S S3 m n q H J I A (((((W.setCell ⟨gz,0,none⟩ q).setCell ⟨gz,1,none⟩ H).setCell ⟨gz,2,none⟩ J).setCell ⟨gz,3,none⟩ I).setCell ⟨gz,4,none⟩ A):=
 ⟨(zmz _ _ _ _ _ h.hx).trans h.x,zd6 h.z,(zmz _ _ _ _ _ h.hy).trans h.y,zgB (o:=0) h.om ⟨_,h.z⟩,zgB (o:=0) h.on' ⟨_,h.z⟩,zdI h.bel h.hz _ _ _ _ _,h.hz,h.hx,h.hy⟩
theorem zvd (base:Nat) (S:Sv) (m:Md) (X:Bool) (w:World) (h:OwnMd w base S m) (hm:Small m) (ac:Tree m→(zbK m).size≤4294967296):
  Calls Tryz.prog 97 #[zl S m,.bool X] w (zvc m X w):=by
 have HH:=zc h
 have SM:=zc hm
 have HU:=zc ac
 have SF:Hid (zdK m):=hm.few
 clear h hm ac
 unfold zl
 go_enter Tryz.func97,Tryz.ntmps97
 go_upto_region 1 with fail
 have e1:(w.alloc (.cells #[.slice S.rq.a m.rq.length S.rq.cap,.slice S.im.a m.im.length S.im.cap,.slice S.ep.a m.ep.length S.ep.cap,.slice S.st.a m.st.length S.st.cap,.slice S.ex.a m.ex.length S.ex.cap] 54)).heap.size=w.heap.size+1:=zg _ _
 have I:Hid (Below w.heap.size w ((w.alloc (.cells #[.slice S.rq.a m.rq.length S.rq.cap,.slice S.im.a m.im.length S.im.cap,.slice S.ep.a m.ep.length S.ep.cap,.slice S.st.a m.st.length S.st.cap,.slice S.ex.a m.ex.length S.ex.cap] 54)).alloc (.cells #[.slice none 0 0,.slice none 0 0,.slice none 0 0,.slice none 0 0,.slice none 0 0] 54))):=((Below.refl _ _).alloc (Nat.le_refl _) _).alloc (by rw[e1];omega) _
 refine zx (R:=fun W=>W.heap[w.heap.size]? =some (.cells #[.slice S.rq.a m.rq.length S.rq.cap,.slice S.im.a m.im.length S.im.cap,.slice S.ep.a m.ep.length S.ep.cap,.slice S.st.a m.st.length S.st.cap,.slice S.ex.a m.ex.length S.ex.cap] 54 (0,0))∧W.heap[w.heap.size+1]? =some (.cells #[.slice none 0 0,.slice none 0 0,.slice none 0 0,.slice none 0 0,.slice none 0 0] 54 (0,0))∧OwnMd W base S m∧Below w.heap.size w W) ⟨(heap_alloc_old _ _ (by rw[e1];omega)).trans (heap_alloc_new w _),heap_alloc2_new w _ _,HH.out.later I.out,I.out⟩ ?_
 obtain⟨gx,Z⟩: ∃gx,gx=w.heap.size:=⟨_,rfl⟩
 obtain⟨gz,ad⟩: ∃gz,gz=w.heap.size+1:=⟨_,rfl⟩
 rw[←ad,←Z]
 rintro w1 ⟨hx,hz,ho,A⟩
 rw[Z] at A
 have V:Hid (gx≠gz∧w.heap.size≤gz):=⟨by omega,by omega⟩
 clear Z ad I HH e1
 have X1:=zc hx
 have Z1:=zc hz
 have O1:=zc ho
 have ab:=zc A
 clear hx hz ho A
 obtain⟨c0,c1,c2,c3,c4,cf⟩:=zj X1.out
 go_wp2_with fail
 refine (ztz base S m X w1 O1.out SM.out (fun t=>Nat.le_trans (HU.out t) (by omega))).mono ?_
 rintro e w2 ⟨L,A⟩
 obtain⟨t,aa,rfl⟩:=L.form
 have PR:=zc aa
 have ht:=aa.size HU.out
 have X2:=zc ((A.block _ (Array.getElem?_eq_some_iff.1 X1.out).1).trans X1.out)
 have Z2:=zc ((A.block _ (Array.getElem?_eq_some_iff.1 Z1.out).1).trans Z1.out)
 have O2:=zc (O1.out.later A)
 have U:=zc (ab.out.trans (A.mono ab.out.size))
 clear L aa A c0 c1 c2 c3 c4 cf X1 Z1 O1 ab
 go_wp2_with fail
 refine (zvb t X w2 ht).mono ?_
 rintro e J ⟨L,A⟩
 have X3:=zc ((A.block _ (Array.getElem?_eq_some_iff.1 X2.out).1).trans X2.out)
 have Z3:=zc ((A.block _ (Array.getElem?_eq_some_iff.1 Z2.out).1).trans Z2.out)
 have O3:=zc (O2.out.later A)
 have M:=zc (U.out.trans (A.mono U.out.size))
 have ag:=(Array.getElem?_eq_some_iff.1 Z2.out).1
 clear A X2 Z2 O2
 rcases L.md with ⟨q,S3,n,hy,hn,rfl,Y,ae⟩|⟨p,hy,rfl⟩
 ·have OK:=zc (zkb (m:=m) hy hn)
  have O4:=zc Y
  have N:gz<J.heap.size:=(Array.getElem?_eq_some_iff.1 Z3.out).1
  clear L hy hn Y ae
  unfold zl
  go_upto_region 2 with fail
  have I:Hid (Below J.heap.size J (J.alloc (.cells #[.slice S3.rq.a n.rq.length S3.rq.cap,.slice S3.im.a n.im.length S3.im.cap,.slice S3.ep.a n.ep.length S3.ep.cap,.slice S3.st.a n.st.length S3.st.cap,.slice S3.ex.a n.ex.length S3.ex.cap] 54))):=(Below.refl _ _).alloc (Nat.le_refl _) _
  refine zx (R:=RA w base w2.heap.size gx gz J.heap.size S S3 m n (.slice none 0 0) (.slice none 0 0) (.slice none 0 0) (.slice none 0 0) (.slice none 0 0)) ⟨(I.out.block _ (Array.getElem?_eq_some_iff.1 X3.out).1).trans X3.out,(I.out.block _ N).trans Z3.out,heap_alloc_new J _,O3.out.later I.out,O4.out.later I.out,M.out.trans (I.out.mono M.out.size),V.out.2,V.out.1,by omega⟩ ?_
  obtain⟨gy,O⟩: ∃gy,gy=J.heap.size:=⟨_,rfl⟩
  rw[←O]
  intro w4 h4
  have K:=zc h4
  clear h4 O I X3 Z3 O3 O4 M N
  obtain⟨c0,c1,c2,c3,c4,cf⟩:=zj K.out.x
  obtain⟨d0,d1,d2,d3,d4,df⟩:=zj K.out.y
  obtain⟨k0,k1,k2,k3,k4,kf⟩:=zj K.out.z
  go_region_with (go_at_call 137;first|(refine ((zkL base w2.heap.size S S3 m n _ (K.out.later (Below.refl _ _).drew).om (K.out.later (Below.refl _ _).drew).on' SF.out)).mono ?_;rintro e w5 ⟨⟨r,rfl,hr⟩,A⟩;have H:=zc ((K.out.later (Below.refl _ _).drew).later A);have HR:=zc hr;clear hr A;obtain⟨a0,a1,a2,a3,a4,af⟩:=zj H.out.x;obtain⟨b0,b1,b2,b3,b4,bf⟩:=zj H.out.y;obtain⟨l0,l1,l2,l3,l4,lf⟩:=zj H.out.z)|(refine ((zkL base w2.heap.size S S3 m n _ ((K.out.later (Below.refl _ _).drew).store ..).om ((K.out.later (Below.refl _ _).drew).store ..).on' SF.out)).mono ?_;rintro e w5 ⟨⟨r,rfl,hr⟩,A⟩;have H:=zc (((K.out.later (Below.refl _ _).drew).store ..).later A);have HR:=zc hr;clear hr A;obtain⟨a0,a1,a2,a3,a4,af⟩:=zj H.out.x;obtain⟨b0,b1,b2,b3,b4,bf⟩:=zj H.out.y;obtain⟨l0,l1,l2,l3,l4,lf⟩:=zj H.out.z))
  all_goals
   go_wp2
   first
   |(refine bodyPost_ret (zaA rfl _ _ gz 54 _ (0,0) _ rfl (H.out.store ..).z Tryz.underlying54 rfl (by kernel_rfl)) rfl ?_
     exact⟨t,S3,n,r,PR.out,rfl,((H.out.store ..).on').low U.out.size,HR.out.trans (Iff.trans ⟨Eq.symm,Eq.symm⟩ OK.out.symm),fun k=>(HR.out.1 k).symm,(H.out.store ..).bel⟩)
   |(refine bodyPost_ret (zaA rfl _ _ gz 54 _ (0,0) _ rfl H.out.z Tryz.underlying54 rfl (by kernel_rfl)) rfl ?_
     exact⟨t,S3,n,r,PR.out,rfl,H.out.on'.low U.out.size,HR.out.trans (Iff.trans ⟨Eq.symm,Eq.symm⟩ OK.out.symm),fun k=>(HR.out.1 k).symm,H.out.bel⟩)
 ·have NO:=zc (zka (m:=m) hy)
  have N:gz<J.heap.size:=(Array.getElem?_eq_some_iff.1 Z3.out).1
  clear L hy
  go_upto_region 2 with fail
  have I:Hid (Below J.heap.size J (J.alloc (.cells #[.slice none 0 0,.slice none 0 0,.slice none 0 0,.slice none 0 0,.slice none 0 0] 54))):=(Below.refl _ _).alloc (Nat.le_refl _) _
  refine zx (R:=RA w base w2.heap.size gx gz J.heap.size S S0 m md0 (.slice none 0 0) (.slice none 0 0) (.slice none 0 0) (.slice none 0 0) (.slice none 0 0)) ⟨(I.out.block _ (Array.getElem?_eq_some_iff.1 X3.out).1).trans X3.out,(I.out.block _ N).trans Z3.out,heap_alloc_new J _,O3.out.later I.out,zly _ _,M.out.trans (I.out.mono M.out.size),V.out.2,V.out.1,by omega⟩ ?_
  obtain⟨gy,O⟩: ∃gy,gy=J.heap.size:=⟨_,rfl⟩
  rw[←O]
  intro w4 h4
  have K:=zc h4
  clear h4 O I X3 Z3 O3 M N
  obtain⟨c0,c1,c2,c3,c4,cf⟩:=zj K.out.x
  obtain⟨d0,d1,d2,d3,d4,df⟩:=zj (v0:=.slice none 0 0) (v1:=.slice none 0 0) (v2:=.slice none 0 0) (v3:=.slice none 0 0) (v4:=.slice none 0 0) K.out.y
  obtain⟨k0,k1,k2,k3,k4,kf⟩:=zj K.out.z
  have H:=zc ((K.out.store (.slice none 0 0) (.slice none 0 0) (.slice none 0 0) (.slice none 0 0) (.slice none 0 0)).later (Below.refl _ _).drew)
  have ah:((p:Int)== -1)=false:=beq_eq_false_iff_ne.2 (by omega)
  go_region_with (fail)
  all_goals
   go_wp2
   go_simp
   refine bodyPost_ret (zaA rfl _ _ gz 54 _ (0,0) _ rfl H.out.z Tryz.underlying54 rfl (by kernel_rfl)) rfl ?_
   exact⟨t,S0,md0,false,PR.out,rfl,zly _ _,⟨fun k=>(by cases k),fun k=>absurd k NO.out⟩,fun k=>(by cases k),H.out.bel⟩
theorem zve (base:Nat) (S:Sv) (m:Md) (q:Bool) (w:World) (h:OwnMd w base S m) (J:Small m) (z:Tree m→(zbK m).size≤4294967296):
  Calls Tryz.prog 65 #[zl S m,.bool q] w fun e w'=>zg1 (zbK m) m q e∧Below w.heap.size w w':=by
 have H:Hid (Below w.heap.size w (w.alloc (.cells #[.slice S.rq.a m.rq.length S.rq.cap,.slice S.im.a m.im.length S.im.cap,.slice S.ep.a m.ep.length S.ep.cap,.slice S.st.a m.st.length S.st.cap,.slice S.ex.a m.ex.length S.ex.cap] 54))):=(Below.refl _ _).alloc (Nat.le_refl _) _
 have A:=zc (zvd base S m q _ (h.later H.out) J z)
 clear h J z
 unfold zl at A ⊢
 go_enter Tryz.func65,Tryz.ntmps65
 go_wp2_with fail
 refine A.out.mono ?_
 rintro e U ⟨t,V,n,r,I,rfl,_,L,_,M⟩
 have N:=zc I
 have O:=zc L
 have K:=zc (H.out.trans (M.mono H.out.size))
 clear I L M A
 unfold zl
 go_wp2
 go_ret
 exact⟨⟨t,N.out,r,rfl,O.out⟩,K.out.alloc K.out.size _⟩
end Go.Proofs.YtgcbmogmniahjaaGreat