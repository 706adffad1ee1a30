/-
 What impl.readAgain and impl.ModOk answer: the walks.
-/
import Derived.Test.YtgcbmogmniahjaaGreatCReImplParseAll
namespace Go.Proofs.YtgcbmogmniahjaaGreat
set_option maxRecDepth 100000
set_option maxHeartbeats 6400000
open Go.RowKit Go.PlainAid Go.Sort
def zvy (m:Md) (scr:Bool) (w:World) (e:Ending) (w':World):Prop:=
 ∃(t:ByteArray) (S:Sv) (n:Md) (r:Bool),PrOf (zbO m) m t∧e= .returned (.tuple #[zl S n,.bool r])∧OwnMd w' w.heap.size S n∧(r=true↔zdV t scr m)∧(r=true→n=m)∧Below w.heap.size w w'
structure RA (w:World) (base b3 gx gz gy:Nat) (S S3:Sv) (m n:Md) (z0 z1 z2 z3 z4:Value) (W:World):Prop where
 x:W.heap[gx]? =some (.cells #[.slice S.rq.a m.rq.length S.rq.cap,.slice S.im.a m.im.length S.im.cap,.slice S.ep.a m.ep.length S.ep.cap,.slice S.st.a m.st.length S.st.cap,.slice S.ex.a m.ex.length S.ex.cap] 54 (0,0))
 z:W.heap[gz]? =some (.cells #[z0,z1,z2,z3,z4] 54 (0,0))
 y:W.heap[gy]? =some (.cells #[.slice S3.rq.a n.rq.length S3.rq.cap,.slice S3.im.a n.im.length S3.im.cap,.slice S3.ep.a n.ep.length S3.ep.cap,.slice S3.st.a n.st.length S3.st.cap,.slice S3.ex.a n.ex.length S3.ex.cap] 54 (0,0))
 om:OwnMd W base S m
 on':OwnMd W b3 S3 n
 bel:Below w.heap.size w W
 hz:w.heap.size≤gz
 hx:gx≠gz
 hy:gy≠gz
variable {w W W':World} {base b3 gx gz gy:Nat} {S S3:Sv} {m n:Md} {z0 z1 z2 z3 z4:Value}
theorem RA.later (h:RA w base b3 gx gz gy S S3 m n z0 z1 z2 z3 z4 W) (q:Below W.heap.size W W'):RA w base b3 gx gz gy S S3 m n z0 z1 z2 z3 z4 W':=
 ⟨(q.block _ (Array.getElem?_eq_some_iff.1 h.x).1).trans h.x,(q.block _ (Array.getElem?_eq_some_iff.1 h.z).1).trans h.z,(q.block _ (Array.getElem?_eq_some_iff.1 h.y).1).trans h.y,h.om.later q,h.on'.later q,h.bel.trans (q.mono h.bel.size),h.hz,h.hx,h.hy⟩
theorem zmE {W:World} {b c:Nat} (q z D A w:Value) (h:b≠c):(((((W.setCell ⟨c,0,none⟩ q).setCell ⟨c,1,none⟩ z).setCell ⟨c,2,none⟩ D).setCell ⟨c,3,none⟩ A).setCell ⟨c,4,none⟩ w).heap[b]? =W.heap[b]?:=by
 rw[heap_setCell_other _ _ _ _ h,heap_setCell_other _ _ _ _ h,heap_setCell_other _ _ _ _ h,heap_setCell_other _ _ _ _ h,heap_setCell_other _ _ _ _ h]
theorem RA.store (h:RA w base b3 gx gz gy S S3 m n z0 z1 z2 z3 z4 W) (q D H E A:Value):RA w base b3 gx gz gy S S3 m n q D H E A (((((W.setCell ⟨gz,0,none⟩ q).setCell ⟨gz,1,none⟩ D).setCell ⟨gz,2,none⟩ H).setCell ⟨gz,3,none⟩ E).setCell ⟨gz,4,none⟩ A):=
 ⟨(zmE _ _ _ _ _ h.hx).trans h.x,zdD h.z,(zmE _ _ _ _ _ h.hy).trans h.y,zgK (o:=0) h.om ⟨_,h.z⟩,zgK (o:=0) h.on' ⟨_,h.z⟩,zdR h.bel h.hz _ _ _ _ _,h.hz,h.hx,h.hy⟩
theorem zvz (base:Nat) (S:Sv) (m:Md) (U:Bool) (w:World) (h:OwnMd w base S m) (hm:Small m) (aa:Tree m→(zbO m).size≤4294967296):
  Calls Tryz.prog 97 #[zl S m,.bool U] w (zvy m U w):=by
 have HH:=zc h
 have SM:=zc hm
 have HU:=zc aa
 have SF:Hid (zdT m):=hm.few
 clear h hm aa
 unfold zl
 go_enter Tryz.func97,Tryz.ntmps97
 go_upto_region 1 with fail
 have e1:(w.alloc (.cells #[.slice S.rq.a m.rq.length S.rq.cap,.slice S.im.a m.im.length S.im.cap,.slice S.ep.a m.ep.length S.ep.cap,.slice S.st.a m.st.length S.st.cap,.slice S.ex.a m.ex.length S.ex.cap] 54)).heap.size=w.heap.size+1:=zg _ _
 have E:Hid (Below w.heap.size w ((w.alloc (.cells #[.slice S.rq.a m.rq.length S.rq.cap,.slice S.im.a m.im.length S.im.cap,.slice S.ep.a m.ep.length S.ep.cap,.slice S.st.a m.st.length S.st.cap,.slice S.ex.a m.ex.length S.ex.cap] 54)).alloc (.cells #[.slice none 0 0,.slice none 0 0,.slice none 0 0,.slice none 0 0,.slice none 0 0] 54))):=((Below.refl _ _).alloc (Nat.le_refl _) _).alloc (by rw[e1];omega) _
 refine zu (R:=fun W=>W.heap[w.heap.size]? =some (.cells #[.slice S.rq.a m.rq.length S.rq.cap,.slice S.im.a m.im.length S.im.cap,.slice S.ep.a m.ep.length S.ep.cap,.slice S.st.a m.st.length S.st.cap,.slice S.ex.a m.ex.length S.ex.cap] 54 (0,0))∧W.heap[w.heap.size+1]? =some (.cells #[.slice none 0 0,.slice none 0 0,.slice none 0 0,.slice none 0 0,.slice none 0 0] 54 (0,0))∧OwnMd W base S m∧Below w.heap.size w W) ⟨(heap_alloc_old _ _ (by rw[e1];omega)).trans (heap_alloc_new w _),heap_alloc2_new w _ _,HH.out.later E.out,E.out⟩ ?_
 obtain⟨gx,X⟩: ∃gx,gx=w.heap.size:=⟨_,rfl⟩
 obtain⟨gz,ab⟩: ∃gz,gz=w.heap.size+1:=⟨_,rfl⟩
 rw[←ab,←X]
 rintro w1 ⟨hx,hz,ho,A⟩
 rw[X] at A
 have O:Hid (gx≠gz∧w.heap.size≤gz):=⟨by omega,by omega⟩
 clear X ab E HH e1
 have X1:=zc hx
 have Z1:=zc hz
 have O1:=zc ho
 have Z:=zc A
 clear hx hz ho A
 obtain⟨c0,c1,c2,c3,c4,cf⟩:=zj X1.out
 go_wp2_with fail
 refine (ztL base S m U w1 O1.out SM.out (fun t=>Nat.le_trans (HU.out t) (by omega))).mono ?_
 rintro e w2 ⟨J,A⟩
 obtain⟨t,Y,rfl⟩:=J.form
 have PR:=zc Y
 have ht:=Y.size HU.out
 have X2:=zc ((A.block _ (Array.getElem?_eq_some_iff.1 X1.out).1).trans X1.out)
 have Z2:=zc ((A.block _ (Array.getElem?_eq_some_iff.1 Z1.out).1).trans Z1.out)
 have O2:=zc (O1.out.later A)
 have N:=zc (Z.out.trans (A.mono Z.out.size))
 clear J Y A c0 c1 c2 c3 c4 cf X1 Z1 O1 Z
 go_wp2_with fail
 refine (zvx t U w2 ht).mono ?_
 rintro e H ⟨J,A⟩
 have X3:=zc ((A.block _ (Array.getElem?_eq_some_iff.1 X2.out).1).trans X2.out)
 have Z3:=zc ((A.block _ (Array.getElem?_eq_some_iff.1 Z2.out).1).trans Z2.out)
 have O3:=zc (O2.out.later A)
 have K:=zc (N.out.trans (A.mono N.out.size))
 have ad:=(Array.getElem?_eq_some_iff.1 Z2.out).1
 clear A X2 Z2 O2
 rcases J.md with ⟨q,S3,n,hy,hn,rfl,V,ac⟩|⟨p,hy,rfl⟩
 ·have OK:=zc (zkq (m:=m) hy hn)
  have O4:=zc V
  have L:gz<H.heap.size:=(Array.getElem?_eq_some_iff.1 Z3.out).1
  clear J hy hn V ac
  unfold zl
  go_upto_region 2 with fail
  have E:Hid (Below H.heap.size H (H.alloc (.cells #[.slice S3.rq.a n.rq.length S3.rq.cap,.slice S3.im.a n.im.length S3.im.cap,.slice S3.ep.a n.ep.length S3.ep.cap,.slice S3.st.a n.st.length S3.st.cap,.slice S3.ex.a n.ex.length S3.ex.cap] 54))):=(Below.refl _ _).alloc (Nat.le_refl _) _
  refine zu (R:=RA w base w2.heap.size gx gz H.heap.size S S3 m n (.slice none 0 0) (.slice none 0 0) (.slice none 0 0) (.slice none 0 0) (.slice none 0 0)) ⟨(E.out.block _ (Array.getElem?_eq_some_iff.1 X3.out).1).trans X3.out,(E.out.block _ L).trans Z3.out,heap_alloc_new H _,O3.out.later E.out,O4.out.later E.out,K.out.trans (E.out.mono K.out.size),O.out.2,O.out.1,by omega⟩ ?_
  obtain⟨gy,M⟩: ∃gy,gy=H.heap.size:=⟨_,rfl⟩
  rw[←M]
  intro w4 h4
  have I:=zc h4
  clear h4 M E X3 Z3 O3 O4 K L
  obtain⟨c0,c1,c2,c3,c4,cf⟩:=zj I.out.x
  obtain⟨d0,d1,d2,d3,d4,df⟩:=zj I.out.y
  obtain⟨k0,k1,k2,k3,k4,kf⟩:=zj I.out.z
  go_region_with (go_at_call 137;first|(refine ((zla base w2.heap.size S S3 m n _ (I.out.later (Below.refl _ _).drew).om (I.out.later (Below.refl _ _).drew).on' SF.out)).mono ?_;rintro e w5 ⟨⟨r,rfl,hr⟩,A⟩;have D:=zc ((I.out.later (Below.refl _ _).drew).later A);have HR:=zc hr;clear hr A;obtain⟨a0,a1,a2,a3,a4,af⟩:=zj D.out.x;obtain⟨b0,b1,b2,b3,b4,bf⟩:=zj D.out.y;obtain⟨l0,l1,l2,l3,l4,lf⟩:=zj D.out.z)|(refine ((zla base w2.heap.size S S3 m n _ ((I.out.later (Below.refl _ _).drew).store ..).om ((I.out.later (Below.refl _ _).drew).store ..).on' SF.out)).mono ?_;rintro e w5 ⟨⟨r,rfl,hr⟩,A⟩;have D:=zc (((I.out.later (Below.refl _ _).drew).store ..).later A);have HR:=zc hr;clear hr A;obtain⟨a0,a1,a2,a3,a4,af⟩:=zj D.out.x;obtain⟨b0,b1,b2,b3,b4,bf⟩:=zj D.out.y;obtain⟨l0,l1,l2,l3,l4,lf⟩:=zj D.out.z))
  all_goals
   go_wp2
   first
   |(refine bodyPost_ret (zaC rfl _ _ gz 54 _ (0,0) _ rfl (D.out.store ..).z Tryz.underlying54 rfl (by kernel_rfl)) rfl ?_
     exact⟨t,S3,n,r,PR.out,rfl,((D.out.store ..).on').low N.out.size,HR.out.trans (Iff.trans ⟨Eq.symm,Eq.symm⟩ OK.out.symm),fun k=>(HR.out.1 k).symm,(D.out.store ..).bel⟩)
   |(refine bodyPost_ret (zaC rfl _ _ gz 54 _ (0,0) _ rfl D.out.z Tryz.underlying54 rfl (by kernel_rfl)) rfl ?_
     exact⟨t,S3,n,r,PR.out,rfl,D.out.on'.low N.out.size,HR.out.trans (Iff.trans ⟨Eq.symm,Eq.symm⟩ OK.out.symm),fun k=>(HR.out.1 k).symm,D.out.bel⟩)
 ·have NO:=zc (zkp (m:=m) hy)
  have L:gz<H.heap.size:=(Array.getElem?_eq_some_iff.1 Z3.out).1
  clear J hy
  go_upto_region 2 with fail
  have E:Hid (Below H.heap.size H (H.alloc (.cells #[.slice none 0 0,.slice none 0 0,.slice none 0 0,.slice none 0 0,.slice none 0 0] 54))):=(Below.refl _ _).alloc (Nat.le_refl _) _
  refine zu (R:=RA w base w2.heap.size gx gz H.heap.size S S0 m md0 (.slice none 0 0) (.slice none 0 0) (.slice none 0 0) (.slice none 0 0) (.slice none 0 0)) ⟨(E.out.block _ (Array.getElem?_eq_some_iff.1 X3.out).1).trans X3.out,(E.out.block _ L).trans Z3.out,heap_alloc_new H _,O3.out.later E.out,zlD _ _,K.out.trans (E.out.mono K.out.size),O.out.2,O.out.1,by omega⟩ ?_
  obtain⟨gy,M⟩: ∃gy,gy=H.heap.size:=⟨_,rfl⟩
  rw[←M]
  intro w4 h4
  have I:=zc h4
  clear h4 M E X3 Z3 O3 K L
  obtain⟨c0,c1,c2,c3,c4,cf⟩:=zj I.out.x
  obtain⟨d0,d1,d2,d3,d4,df⟩:=zj (v0:=.slice none 0 0) (v1:=.slice none 0 0) (v2:=.slice none 0 0) (v3:=.slice none 0 0) (v4:=.slice none 0 0) I.out.y
  obtain⟨k0,k1,k2,k3,k4,kf⟩:=zj I.out.z
  have D:=zc ((I.out.store (.slice none 0 0) (.slice none 0 0) (.slice none 0 0) (.slice none 0 0) (.slice none 0 0)).later (Below.refl _ _).drew)
  have ae:((p:Int)== -1)=false:=beq_eq_false_iff_ne.2 (by omega)
  go_region_with (fail)
  all_goals
   go_wp2
   go_simp
   refine bodyPost_ret (zaC rfl _ _ gz 54 _ (0,0) _ rfl D.out.z Tryz.underlying54 rfl (by kernel_rfl)) rfl ?_
   exact⟨t,S0,md0,false,PR.out,rfl,zlD _ _,⟨fun k=>(by cases k),fun k=>absurd k NO.out⟩,fun k=>(by cases k),D.out.bel⟩
theorem zv0 (base:Nat) (S:Sv) (m:Md) (q:Bool) (w:World) (h:OwnMd w base S m) (H:Small m) (z:Tree m→(zbO m).size≤4294967296):
  Calls Tryz.prog 65 #[zl S m,.bool q] w fun e L=>zgA (zbO m) m q e∧Below w.heap.size w L:=by
 have D:Hid (Below w.heap.size w (w.alloc (.cells #[.slice S.rq.a m.rq.length S.rq.cap,.slice S.im.a m.im.length S.im.cap,.slice S.ep.a m.ep.length S.ep.cap,.slice S.st.a m.st.length S.st.cap,.slice S.ex.a m.ex.length S.ex.cap] 54))):=(Below.refl _ _).alloc (Nat.le_refl _) _
 have A:=zc (zvz base S m q _ (h.later D.out) H z)
 clear h H z
 unfold zl at A ⊢
 go_enter Tryz.func65,Tryz.ntmps65
 go_wp2_with fail
 refine A.out.mono ?_
 rintro e O ⟨t,U,n,r,E,rfl,_,J,_,K⟩
 have M:=zc E
 have N:=zc J
 have I:=zc (D.out.trans (K.mono D.out.size))
 clear E J K A
 unfold zl
 go_wp2
 go_ret
 exact⟨⟨t,M.out,r,rfl,N.out⟩,I.out.alloc I.out.size _⟩
end Go.Proofs.YtgcbmogmniahjaaGreat