/-
  What impl.readAgain and impl.ModOk answer: the walks.
  What impl.MapMod answers: the walk.
  The order of texts. No program is spoken of.
  The last of rules that rise and are for a name is the longest one. No program is spoken of.
  What impl's isStrByte,isStr,Rule.isRight and RulesOk answer: the walks.
  What impl's Rule.isFor,Rule.put,ruleFor and MapSpec answer,the model's != of rules handed in: the walks.
  The model's != of two rules. No program is spoken of but by a type's number.
  What impl.MapSpec answers,with the model's != of rules.
-/
import Derived.Test.YtjdddblpfbmpaaaGreatClImplParseAll
namespace Go.Proofs.YtjdddblpfbmpaaaGreat
set_option maxRecDepth 100000
set_option maxHeartbeats 6400000
open Go.RowKit Go.PlainAid Go.Sort
def zuq (m:Md) (scr:Bool) (w:World) (e:Ending) (w':World):Prop:=
 ∃(t:ByteArray) (S:Sv) (n:Md) (r:Bool),PrOf (zbr m) m t∧e= .returned (.tuple #[zh S n,.bool r])∧OwnMd w' w.heap.size S n∧(r=true↔zd2 t scr m)∧(r=true→n=m)∧Below w.heap.size w w'
structure RA (w:World) (base b3 gx gz gy:Nat) (S S3:Sv) (m n:Md) (z0 z1 z2 z3 z4:Value) (W:World):Prop where
 x:W.heap[gx]? =some (.cells #[.slice S.rq.a m.rq.length S.rq.cap,.slice S.im.a m.im.length S.im.cap,.slice S.ep.a m.ep.length S.ep.cap,.slice S.st.a m.st.length S.st.cap,.slice S.ex.a m.ex.length S.ex.cap] 36 (0,0))
 z:W.heap[gz]? =some (.cells #[z0,z1,z2,z3,z4] 36 (0,0))
 y:W.heap[gy]? =some (.cells #[.slice S3.rq.a n.rq.length S3.rq.cap,.slice S3.im.a n.im.length S3.im.cap,.slice S3.ep.a n.ep.length S3.ep.cap,.slice S3.st.a n.st.length S3.st.cap,.slice S3.ex.a n.ex.length S3.ex.cap] 36 (0,0))
 om:OwnMd W base S m
 on':OwnMd W b3 S3 n
 bel:Below w.heap.size w W
 hz:w.heap.size≤gz
 hx:gx≠gz
 hy:gy≠gz
variable {w W W':World} {base b3 gx gz gy:Nat} {S S3:Sv} {m n:Md} {z0 z1 z2 z3 z4:Value}
theorem RA.later (h:RA w base b3 gx gz gy S S3 m n z0 z1 z2 z3 z4 W) (j:Below W.heap.size W W'):RA w base b3 gx gz gy S S3 m n z0 z1 z2 z3 z4 W':=
 ⟨(j.block _ (Array.getElem?_eq_some_iff.1 h.x).1).trans h.x,(j.block _ (Array.getElem?_eq_some_iff.1 h.z).1).trans h.z,(j.block _ (Array.getElem?_eq_some_iff.1 h.y).1).trans h.y,h.om.later j,h.on'.later j,h.bel.trans (j.mono h.bel.size),h.hz,h.hx,h.hy⟩
theorem zl3 {W:World} {b c:Nat} (x0 x1 x2 x3 x4:Value) (h:b≠c):(((((W.setCell ⟨c,0,none⟩ x0).setCell ⟨c,1,none⟩ x1).setCell ⟨c,2,none⟩ x2).setCell ⟨c,3,none⟩ x3).setCell ⟨c,4,none⟩ x4).heap[b]? =W.heap[b]?:=by
 rw[heap_setCell_other _ _ _ _ h,heap_setCell_other _ _ _ _ h,heap_setCell_other _ _ _ _ h,heap_setCell_other _ _ _ _ h,heap_setCell_other _ _ _ _ h]
theorem RA.store (h:RA w base b3 gx gz gy S S3 m n z0 z1 z2 z3 z4 W) (x0 x1 x2 x3 x4:Value):RA w base b3 gx gz gy S S3 m n x0 x1 x2 x3 x4 (((((W.setCell ⟨gz,0,none⟩ x0).setCell ⟨gz,1,none⟩ x1).setCell ⟨gz,2,none⟩ x2).setCell ⟨gz,3,none⟩ x3).setCell ⟨gz,4,none⟩ x4):=
 ⟨(zl3 _ _ _ _ _ h.hx).trans h.x,zbH h.z,(zl3 _ _ _ _ _ h.hy).trans h.y,zdZ (o:=0) h.om ⟨_,h.z⟩,zdZ (o:=0) h.on' ⟨_,h.z⟩,zbN h.bel h.hz _ _ _ _ _,h.hz,h.hx,h.hy⟩
theorem zl4 (base:Nat) (S:Sv) (m:Md) (X:Bool) (w:World) (h:OwnMd w base S m) (hm:Small m) (ac:Tree m→(zbr m).size≤4294967296):
  Calls Tryz.prog 40 #[zh S m,.bool X] w (zuq m X w):=by
 have HH:=zc h
 have SM:=zc hm
 have HU:=zc ac
 have SF:Hid (zdB m):=hm.few
 clear h hm ac
 unfold zh
 go_enter Tryz.func40,Tryz.ntmps40
 go_upto_region 1 with fail
 have e1:(w.alloc (.cells #[.slice S.rq.a m.rq.length S.rq.cap,.slice S.im.a m.im.length S.im.cap,.slice S.ep.a m.ep.length S.ep.cap,.slice S.st.a m.st.length S.st.cap,.slice S.ex.a m.ex.length S.ex.cap] 36)).heap.size=w.heap.size+1:=zn _ _
 have H:Hid (Below w.heap.size w ((w.alloc (.cells #[.slice S.rq.a m.rq.length S.rq.cap,.slice S.im.a m.im.length S.im.cap,.slice S.ep.a m.ep.length S.ep.cap,.slice S.st.a m.st.length S.st.cap,.slice S.ex.a m.ex.length S.ex.cap] 36)).alloc (.cells #[.slice none 0 0,.slice none 0 0,.slice none 0 0,.slice none 0 0,.slice none 0 0] 36))):=((Below.refl _ _).alloc (Nat.le_refl _) _).alloc (by rw[e1];omega) _
 refine zV (R:=fun W=>W.heap[w.heap.size]? =some (.cells #[.slice S.rq.a m.rq.length S.rq.cap,.slice S.im.a m.im.length S.im.cap,.slice S.ep.a m.ep.length S.ep.cap,.slice S.st.a m.st.length S.st.cap,.slice S.ex.a m.ex.length S.ex.cap] 36 (0,0))∧W.heap[w.heap.size+1]? =some (.cells #[.slice none 0 0,.slice none 0 0,.slice none 0 0,.slice none 0 0,.slice none 0 0] 36 (0,0))∧OwnMd W base S m∧Below w.heap.size w W) ⟨(heap_alloc_old _ _ (by rw[e1];omega)).trans (heap_alloc_new w _),heap_alloc2_new w _ _,HH.out.later H.out,H.out⟩ ?_
 obtain⟨gx,Z⟩: ∃gx,gx=w.heap.size:=⟨_,rfl⟩
 obtain⟨gz,ad⟩: ∃gz,gz=w.heap.size+1:=⟨_,rfl⟩
 rw[←ad,←Z]
 rintro w1 ⟨hx,hz,ho,j⟩
 rw[Z] at j
 have V:Hid (gx≠gz∧w.heap.size≤gz):=⟨by omega,by omega⟩
 clear Z ad H HH e1
 have X1:=zc hx
 have Z1:=zc hz
 have O1:=zc ho
 have ab:=zc j
 clear hx hz ho j
 obtain⟨c0,c1,c2,c3,c4,cf⟩:=zg X1.out
 go_wp2_with fail
 refine (zsD base S m X w1 O1.out SM.out (fun t=>Nat.le_trans (HU.out t) (by omega))).mono ?_
 rintro e w2 ⟨L,j⟩
 obtain⟨t,aa,rfl⟩:=L.form
 have PR:=zc aa
 have ht:=aa.size HU.out
 have X2:=zc ((j.block _ (Array.getElem?_eq_some_iff.1 X1.out).1).trans X1.out)
 have Z2:=zc ((j.block _ (Array.getElem?_eq_some_iff.1 Z1.out).1).trans Z1.out)
 have O2:=zc (O1.out.later j)
 have U:=zc (ab.out.trans (j.mono ab.out.size))
 clear L aa j c0 c1 c2 c3 c4 cf X1 Z1 O1 ab
 go_wp2_with fail
 refine (zup t X w2 ht).mono ?_
 rintro e I ⟨L,j⟩
 have X3:=zc ((j.block _ (Array.getElem?_eq_some_iff.1 X2.out).1).trans X2.out)
 have Z3:=zc ((j.block _ (Array.getElem?_eq_some_iff.1 Z2.out).1).trans Z2.out)
 have O3:=zc (O2.out.later j)
 have M:=zc (U.out.trans (j.mono U.out.size))
 have ag:=(Array.getElem?_eq_some_iff.1 Z2.out).1
 clear j X2 Z2 O2
 rcases L.md with ⟨q,S3,n,hy,hn,rfl,Y,ae⟩|⟨p,hy,rfl⟩
 ·have OK:=zc (zjj (m:=m) hy hn)
  have O4:=zc Y
  have N:gz<I.heap.size:=(Array.getElem?_eq_some_iff.1 Z3.out).1
  clear L hy hn Y ae
  unfold zh
  go_upto_region 2 with fail
  have H:Hid (Below I.heap.size I (I.alloc (.cells #[.slice S3.rq.a n.rq.length S3.rq.cap,.slice S3.im.a n.im.length S3.im.cap,.slice S3.ep.a n.ep.length S3.ep.cap,.slice S3.st.a n.st.length S3.st.cap,.slice S3.ex.a n.ex.length S3.ex.cap] 36))):=(Below.refl _ _).alloc (Nat.le_refl _) _
  refine zV (R:=RA w base w2.heap.size gx gz I.heap.size S S3 m n (.slice none 0 0) (.slice none 0 0) (.slice none 0 0) (.slice none 0 0) (.slice none 0 0)) ⟨(H.out.block _ (Array.getElem?_eq_some_iff.1 X3.out).1).trans X3.out,(H.out.block _ N).trans Z3.out,heap_alloc_new I _,O3.out.later H.out,O4.out.later H.out,M.out.trans (H.out.mono M.out.size),V.out.2,V.out.1,by omega⟩ ?_
  obtain⟨gy,O⟩: ∃gy,gy=I.heap.size:=⟨_,rfl⟩
  rw[←O]
  intro w4 h4
  have J:=zc h4
  clear h4 O H X3 Z3 O3 O4 M N
  obtain⟨c0,c1,c2,c3,c4,cf⟩:=zg J.out.x
  obtain⟨d0,d1,d2,d3,d4,df⟩:=zg J.out.y
  obtain⟨k0,k1,k2,k3,k4,kf⟩:=zg J.out.z
  go_region_with (go_at_call 91;first|(refine ((zjS base w2.heap.size S S3 m n _ (J.out.later (Below.refl _ _).drew).om (J.out.later (Below.refl _ _).drew).on' SF.out)).mono ?_;rintro e w5 ⟨⟨r,rfl,hr⟩,j⟩;have A:=zc ((J.out.later (Below.refl _ _).drew).later j);have HR:=zc hr;clear hr j;obtain⟨a0,a1,a2,a3,a4,af⟩:=zg A.out.x;obtain⟨b0,b1,b2,b3,b4,bf⟩:=zg A.out.y;obtain⟨l0,l1,l2,l3,l4,lf⟩:=zg A.out.z)|(refine ((zjS base w2.heap.size S S3 m n _ ((J.out.later (Below.refl _ _).drew).store ..).om ((J.out.later (Below.refl _ _).drew).store ..).on' SF.out)).mono ?_;rintro e w5 ⟨⟨r,rfl,hr⟩,j⟩;have A:=zc (((J.out.later (Below.refl _ _).drew).store ..).later j);have HR:=zc hr;clear hr j;obtain⟨a0,a1,a2,a3,a4,af⟩:=zg A.out.x;obtain⟨b0,b1,b2,b3,b4,bf⟩:=zg A.out.y;obtain⟨l0,l1,l2,l3,l4,lf⟩:=zg A.out.z))
  all_goals
   go_wp2
   first
   |(refine bodyPost_ret (zar rfl _ _ gz 36 _ (0,0) _ rfl (A.out.store ..).z Tryz.underlying36 rfl (by kernel_rfl)) rfl ?_
     exact⟨t,S3,n,r,PR.out,rfl,((A.out.store ..).on').low U.out.size,HR.out.trans (Iff.trans ⟨Eq.symm,Eq.symm⟩ OK.out.symm),fun k=>(HR.out.1 k).symm,(A.out.store ..).bel⟩)
   |(refine bodyPost_ret (zar rfl _ _ gz 36 _ (0,0) _ rfl A.out.z Tryz.underlying36 rfl (by kernel_rfl)) rfl ?_
     exact⟨t,S3,n,r,PR.out,rfl,A.out.on'.low U.out.size,HR.out.trans (Iff.trans ⟨Eq.symm,Eq.symm⟩ OK.out.symm),fun k=>(HR.out.1 k).symm,A.out.bel⟩)
 ·have NO:=zc (zji (m:=m) hy)
  have N:gz<I.heap.size:=(Array.getElem?_eq_some_iff.1 Z3.out).1
  clear L hy
  go_upto_region 2 with fail
  have H:Hid (Below I.heap.size I (I.alloc (.cells #[.slice none 0 0,.slice none 0 0,.slice none 0 0,.slice none 0 0,.slice none 0 0] 36))):=(Below.refl _ _).alloc (Nat.le_refl _) _
  refine zV (R:=RA w base w2.heap.size gx gz I.heap.size S S0 m md0 (.slice none 0 0) (.slice none 0 0) (.slice none 0 0) (.slice none 0 0) (.slice none 0 0)) ⟨(H.out.block _ (Array.getElem?_eq_some_iff.1 X3.out).1).trans X3.out,(H.out.block _ N).trans Z3.out,heap_alloc_new I _,O3.out.later H.out,ze4 _ _,M.out.trans (H.out.mono M.out.size),V.out.2,V.out.1,by omega⟩ ?_
  obtain⟨gy,O⟩: ∃gy,gy=I.heap.size:=⟨_,rfl⟩
  rw[←O]
  intro w4 h4
  have J:=zc h4
  clear h4 O H X3 Z3 O3 M N
  obtain⟨c0,c1,c2,c3,c4,cf⟩:=zg J.out.x
  obtain⟨d0,d1,d2,d3,d4,df⟩:=zg (v0:=.slice none 0 0) (v1:=.slice none 0 0) (v2:=.slice none 0 0) (v3:=.slice none 0 0) (v4:=.slice none 0 0) J.out.y
  obtain⟨k0,k1,k2,k3,k4,kf⟩:=zg J.out.z
  have A:=zc ((J.out.store (.slice none 0 0) (.slice none 0 0) (.slice none 0 0) (.slice none 0 0) (.slice none 0 0)).later (Below.refl _ _).drew)
  have ah:((p:Int)== -1)=false:=beq_eq_false_iff_ne.2 (by omega)
  go_region_with (fail)
  all_goals
   go_wp2
   go_simp
   refine bodyPost_ret (zar rfl _ _ gz 36 _ (0,0) _ rfl A.out.z Tryz.underlying36 rfl (by kernel_rfl)) rfl ?_
   exact⟨t,S0,md0,false,PR.out,rfl,ze4 _ _,⟨fun k=>(by cases k),fun k=>absurd k NO.out⟩,fun k=>(by cases k),A.out.bel⟩
theorem zur (base:Nat) (S:Sv) (m:Md) (j:Bool) (w:World) (h:OwnMd w base S m) (J:Small m) (z:Tree m→(zbr m).size≤4294967296):
  Calls Tryz.prog 9 #[zh S m,.bool j] w fun e w'=>zge (zbr m) m j e∧Below w.heap.size w w':=by
 have H:Hid (Below w.heap.size w (w.alloc (.cells #[.slice S.rq.a m.rq.length S.rq.cap,.slice S.im.a m.im.length S.im.cap,.slice S.ep.a m.ep.length S.ep.cap,.slice S.st.a m.st.length S.st.cap,.slice S.ex.a m.ex.length S.ex.cap] 36))):=(Below.refl _ _).alloc (Nat.le_refl _) _
 have A:=zc (zl4 base S m j _ (h.later H.out) J z)
 clear h J z
 unfold zh at A ⊢
 go_enter Tryz.func9,Tryz.ntmps9
 go_wp2_with fail
 refine A.out.mono ?_
 rintro e V ⟨t,X,n,r,I,rfl,_,M,_,N⟩
 have O:=zc I
 have U:=zc M
 have L:=zc (H.out.trans (N.mono H.out.size))
 clear I M N A
 unfold zh
 go_wp2
 go_ret
 exact⟨⟨t,O.out,r,rfl,U.out⟩,L.out.alloc L.out.size _⟩
theorem zus {m:Md} {t:ByteArray} {r:Bool} (h:PrOf (zbr m) m t) (w:r=true↔zd2 t false m):r=true↔MOk m:=by
 obtain⟨b,e,j⟩:=zjm ⟨t,h,r,rfl,w⟩
 cases e
 exact j
theorem zl5 (cM:zjI 21) (N:Nat) (a:Option Addr) (g len ae:Nat) (Pt Tx:Nat→ByteArray) (S:Sv) (m:Md) (w:World) (hf:FilesAt w a g 0 len Pt Tx) (hl:len≤1048576) (hp: ∀j,j<len→(Pt j).size≤1048576) (ht: ∀j,j<len→(Tx j).size≤1048576) (h:OwnMd w N S m) (hc:zbb m≤1048576) (hn:zaR m.ex):
  Calls Tryz.prog 14 #[.slice a len ae,zh S m] w (zj1 (zZ len Pt Tx) m w):=by
 have HH:=zc h
 have CM:=zc cM
 have HF:=zc hf
 have HP:=zc hp
 have HT:=zc ht
 have HC:=zc hc
 have HN:=zc hn
 clear h cM hf hp ht hn hc
 unfold zh
 go_enter Tryz.func14,Tryz.ntmps14
 go_upto_region 1 with fail
 have e1:(w.alloc (.cells #[.slice S.rq.a m.rq.length S.rq.cap,.slice S.im.a m.im.length S.im.cap,.slice S.ep.a m.ep.length S.ep.cap,.slice S.st.a m.st.length S.st.cap,.slice S.ex.a m.ex.length S.ex.cap] 36)).heap.size=w.heap.size+1:=zn _ _
 have U:Hid (Below w.heap.size w ((w.alloc (.cells #[.slice S.rq.a m.rq.length S.rq.cap,.slice S.im.a m.im.length S.im.cap,.slice S.ep.a m.ep.length S.ep.cap,.slice S.st.a m.st.length S.st.cap,.slice S.ex.a m.ex.length S.ex.cap] 36)).alloc (.cells #[.slice none 0 0,.slice none 0 0,.slice none 0 0,.slice none 0 0,.slice none 0 0] 36))):=((Below.refl _ _).alloc (Nat.le_refl _) _).alloc (by rw[e1];omega) _
 refine zV (R:=fun W=>W.heap[w.heap.size]? =some (.cells #[.slice S.rq.a m.rq.length S.rq.cap,.slice S.im.a m.im.length S.im.cap,.slice S.ep.a m.ep.length S.ep.cap,.slice S.st.a m.st.length S.st.cap,.slice S.ex.a m.ex.length S.ex.cap] 36 (0,0))∧W.heap[w.heap.size+1]? =some (.cells #[.slice none 0 0,.slice none 0 0,.slice none 0 0,.slice none 0 0,.slice none 0 0] 36 (0,0))∧OwnMd W N S m∧Below w.heap.size w W) ⟨(heap_alloc_old _ _ (by rw[e1];omega)).trans (heap_alloc_new w _),heap_alloc2_new w _ _,HH.out.later U.out,U.out⟩ ?_
 obtain⟨gx,Y⟩: ∃gx,gx=w.heap.size:=⟨_,rfl⟩
 obtain⟨O,ag⟩: ∃O,O=w.heap.size+1:=⟨_,rfl⟩
 rw[←ag,←Y]
 rintro w1 ⟨hx,hz,ho,A⟩
 rw[Y] at A
 have aa:Hid (w.heap.size≤O):=by show _≤_;omega
 clear Y ag U HH e1
 have X1:=zc hx
 have Z1:=zc hz
 have O1:=zc ho
 have I:=zc A
 clear hx hz ho A
 obtain⟨c0,c1,c2,c3,c4,cf⟩:=zg X1.out
 go_wp2_with fail
 refine (zl4 N S m false w1 O1.out (zoe HC.out HN.out) (fun t=>by have:=(zgg t HN.out).2;have:=HC.out;omega)).mono ?_
 rintro e w2 ⟨t,z,n,r,ad,rfl,X,hr,L,A⟩
 have OK:=zc (zus ad hr)
 have ON:=zc X
 have SA:=zc L
 have Z2:=zc ((A.block _ (Array.getElem?_eq_some_iff.1 Z1.out).1).trans Z1.out)
 have Z:=zc (I.out.trans (A.mono I.out.size))
 have LZ:Hid (O<w1.heap.size):=(Array.getElem?_eq_some_iff.1 Z1.out).1
 have F2:=zc ((HF.out.later I.out).later A)
 have SZ:=zc A.size
 clear ad X hr L A c0 c1 c2 c3 c4 cf X1 O1
 unfold zh
 go_upto_region 2 with fail
 have U:Hid (Below w2.heap.size w2 (w2.alloc (.cells #[.slice z.rq.a n.rq.length z.rq.cap,.slice z.im.a n.im.length z.im.cap,.slice z.ep.a n.ep.length z.ep.cap,.slice z.st.a n.st.length z.st.cap,.slice z.ex.a n.ex.length z.ex.cap] 36))):=(Below.refl _ _).alloc (Nat.le_refl _) _
 refine zV (R:=fun W=>W.heap[w2.heap.size]? =some (.cells #[.slice z.rq.a n.rq.length z.rq.cap,.slice z.im.a n.im.length z.im.cap,.slice z.ep.a n.ep.length z.ep.cap,.slice z.st.a n.st.length z.st.cap,.slice z.ex.a n.ex.length z.ex.cap] 36 (0,0))∧W.heap[O]? =some (.cells #[.slice none 0 0,.slice none 0 0,.slice none 0 0,.slice none 0 0,.slice none 0 0] 36 (0,0))∧OwnMd W w1.heap.size z n∧FilesAt W a g 0 len Pt Tx∧Below w.heap.size w W) ⟨heap_alloc_new w2 _,(U.out.block _ (Array.getElem?_eq_some_iff.1 Z2.out).1).trans Z2.out,ON.out.later U.out,F2.out.later U.out,Z.out.trans (U.out.mono Z.out.size)⟩ ?_
 obtain⟨gy,af⟩: ∃gy,gy=w2.heap.size:=⟨_,rfl⟩
 have ah:Hid (w1.heap.size≤gy):=by show _≤_;have:=SZ.out;omega
 rw[←af]
 rintro w3 ⟨hy,hz,ho,hf,A⟩
 have Y3:=zc hy
 have Z3:=zc hz
 have O3:=zc ho
 have F3:=zc hf
 have B3:=zc A
 clear hy hz ho hf A af U Z2 ON F2 Z
 cases r with
 |false=>
  obtain⟨k0,k1,k2,k3,k4,kf⟩:=zg Z3.out
  go_wp2
  refine bodyPost_ret (zar rfl _ _ O 36 _ (0,0) _ rfl (zbH Z3.out) Tryz.underlying36 rfl (by kernel_rfl)) rfl ?_
  exact⟨false,S0,rfl,ze4 _ _,⟨fun k=>(by cases k),fun k=>OK.out.2 k.1⟩,zbN B3.out aa.out _ _ _ _ _⟩
 |true=>
  obtain rfl:=SA.out rfl
  have MK:=zc (OK.out.1 rfl)
  have PT:=zc MK.out.parts
  have M3:Hid (MW w1.heap.size gy a g len Pt Tx w3 w3 z n n.im.length n.ep.length):=⟨Y3.out,O3.out,F3.out,fun hl=>Nat.lt_of_lt_of_le (HF.out.lt hl) I.out.size,Below.refl _ _,ah.out,rfl,rfl⟩
  clear SA OK Y3 O3 F3
  go_wp2_with fail
  refine (zqb CM.out w1.heap.size gy a g len ae Pt Tx z n n.im.length n.ep.length w3 M3.out hl HP.out HT.out (by have:=PT.out.rq;omega) PT.out.im PT.out.ep (zeA HC.out).1 (zeA HC.out).2.1 (zeA HC.out).2.2).mono ?_
  rintro e w4 ⟨rfl,J,V⟩
  have M4:=zc V
  have Z4:=zc ((V.bel.block O LZ.out).trans Z3.out)
  have B4:=zc (B3.out.trans (V.bel.mono (I.out.size)))
  clear V M3 Z3 B3
  have H:=zc (zoo (len:=len) (Pt:=Pt) (Tx:=Tx) HC.out HN.out)
  obtain⟨M,V⟩: ∃M,M=zaM (zZ len Pt Tx) n:=⟨_,rfl⟩
  have HM:=zc V
  rw[←V] at M4 H
  clear V
  have BX:=M4.out.box
  rw[←M4.out.hli,←M4.out.hle] at BX
  have X4:=zc BX
  obtain⟨c0,c1,c2,c3,c4,cf⟩:=zg BX
  clear BX
  go_wp2_with fail
  refine (zur w1.heap.size J M false w4 M4.out.own H.out.1 H.out.2.1).mono ?_
  rintro e w5 ⟨ab,A⟩
  obtain⟨b,rfl,ac⟩:=zjm ab
  have OK:=zc ac
  have X5:=zc ((A.block _ (Array.getElem?_eq_some_iff.1 X4.out).1).trans X4.out)
  have Z5:=zc ((A.block _ (Array.getElem?_eq_some_iff.1 Z4.out).1).trans Z4.out)
  have B5:=zc (B4.out.trans (A.mono B4.out.size))
  have O5:=zc (M4.out.own.later A)
  clear ab ac A c0 c1 c2 c3 c4 cf X4 Z4 B4
  obtain⟨c0,c1,c2,c3,c4,cf⟩:=zg X5.out
  obtain⟨k0,k1,k2,k3,k4,kf⟩:=zg Z5.out
  cases b with
  |false=>
   go_wp2
   refine bodyPost_ret (zar rfl _ _ O 36 _ (0,0) _ rfl (zbH Z5.out) Tryz.underlying36 rfl (by kernel_rfl)) rfl ?_
   exact⟨false,S0,rfl,ze4 _ _,⟨fun k=>(by cases k),fun k=>OK.out.2 (HM.out▸k.2)⟩,zbN B5.out aa.out _ _ _ _ _⟩
  |true=>
   go_wp2
   refine bodyPost_ret (zar rfl _ _ O 36 _ (0,0) _ rfl (zbH Z5.out) Tryz.underlying36 rfl (by kernel_rfl)) rfl ?_
   have hO:=(zdZ (o:=0) (x0:=.slice J.rq.a M.rq.length J.rq.cap) (x1:=.slice J.im.a M.im.length J.im.cap) (x2:=.slice J.ep.a M.ep.length J.ep.cap) (x3:=.slice J.st.a M.st.length J.st.cap) (x4:=.slice J.ex.a M.ex.length J.ex.cap) O5.out ⟨_,Z5.out⟩).low I.out.size
   have hK:=OK.out.1 (by first|trivial|rfl)
   have hE:=HM.out
   subst hE
   exact⟨true,J,rfl,hO,⟨fun _=>⟨MK.out,hK⟩,fun _=>rfl⟩,zbN B5.out aa.out _ _ _ _ _⟩
theorem zut: ∀a b c:List UInt8,Op.bytesLess a b=true→Op.bytesLess b c=true→Op.bytesLess a c=true:=by
 intro a
 induction a with
 |nil=>intro b c j h;cases b with
  |nil=>simp[Op.bytesLess] at j
  |cons y b=>cases c with
   |nil=>simp[Op.bytesLess] at h
   |cons z c=>rfl
 |cons x a w=>
  intro b c j h
  cases b with
  |nil=>simp[Op.bytesLess] at j
  |cons y b=>cases c with
   |nil=>simp[Op.bytesLess] at h
   |cons z c=>
    simp only[Op.bytesLess,Bool.or_eq_true,Bool.and_eq_true,decide_eq_true_eq,beq_iff_eq] at j h ⊢
    rcases j with j|⟨rfl,j⟩
    ·rcases h with h|⟨rfl,h⟩
     ·exact .inl (UInt8.lt_trans j h)
     ·exact .inl j
    ·rcases h with h|⟨rfl,h⟩
     ·exact .inl h
     ·exact .inr ⟨rfl,w b c j h⟩
theorem zuu {P:Nat→ByteArray} {len:Nat} (h: ∀k,0<k→k<len→Op.bytesLess (P (k-1)).toList (P k).toList=true): ∀i j,i<j→j<len→Op.bytesLess (P i).toList (P j).toList=true:=by
 intro i j
 induction j with
 |zero=>intro z;omega
 |succ j A=>
  intro z H
  have w:=h (j+1) (by omega) H
  rw[Nat.add_sub_cancel] at w
  rcases Nat.lt_or_ge i j with g|g
  ·exact zut _ _ _ (A g (by omega)) w
  ·have:i=j:=by omega
   subst this
   exact w
theorem zuv: ∀a b:List UInt8,Op.bytesLess (a++b) a=false:=by
 intro a b
 induction a with
 |nil=>cases b<;>rfl
 |cons x a h=>simp[Op.bytesLess,h]
theorem zuw {p s:ByteArray} (h:zb7 p s=true):p.toList=s.toList.take p.size:=by
 rw[zb7,Bool.and_eq_true,beq_iff_eq] at h
 rw[←h.2,Lib.extract_toList,List.drop_zero,Nat.sub_zero,Lib.toList_data]
theorem zl6 {p s:ByteArray} (h:zaU p s=true):p.toList=s.toList.take p.size:=by
 have j:p.toList.length=p.size:=by rw[Lib.toList_data,Array.length_toList];rfl
 rw[zaU,Bool.or_eq_true,Bool.and_eq_true] at h
 rcases h with h|⟨_,h⟩
 ·rw[beq_iff_eq] at h
  rw[←h,←j,List.take_length]
 ·exact zuw h
theorem zux {p q s:ByteArray} (j:zaU p s=true) (w:zaU q s=true) (h:Op.bytesLess p.toList q.toList=true):p.size<q.size:=by
 rcases Nat.lt_or_ge p.size q.size with g|g
 ·exact g
 ·have e:p.toList=q.toList++(s.toList.take p.size).drop q.size:=by
   have z:q.toList=(s.toList.take p.size).take q.size:=by rw[List.take_take,Nat.min_eq_left g];exact zl6 w
   rw[z,List.take_append_drop]
   exact zl6 j
  rw[e,zuv] at h
  cases h
theorem zuy {len k:Nat} {Pt Tx:Nat→ByteArray} {s:ByteArray} (I:zbs len Pt Tx=true) (z:k<len) (h:zaU (Pt k) s=true):zac Pt s (k+1)=some k:=by
 cases w:zac Pt s k with
 |none=>exact zgj h w
 |some b=>
  obtain⟨L,H⟩:=zdY w
  exact zgk h w (zux H h (zuu (fun j J A=>((zhs.1 I).2 j A).2 J) b k L z))
def zf9 (Pt Tx:Nat→ByteArray):Option Nat→ByteArray×ByteArray
 |none=>({data:=#[]},{data:=#[]})
 |some b=>(Pt b,Tx b)
theorem zuz {p:ByteArray} (h:0<p.size):Lib.hasSuffix p.data.toList [47]=(bt p (p.size-1)==47):=by
 have w:p.data.toList.length=p.size:=by rw[Array.length_toList];rfl
 have z:=Lib.hasSuffix_of_drop p.data.toList [47]
 rw[←z,zdt,decide_eq_true (by rw[w];exact h),Bool.true_and]
 obtain⟨j,x,e⟩: ∃j x,p.data.toList=j++[x]:=by
  rcases List.eq_nil_or_concat p.data.toList with e|⟨j,x,e⟩
  ·rw[e] at w;simp at w;omega
  ·exact⟨j,x,by rw[e,List.concat_eq_append]⟩
 have I:p.size=j.length+1:=by rw[←w,e,List.length_append];rfl
 rw[e,I,show [(47:UInt8)].length=1 from rfl,List.length_append,show [x].length=1 from rfl,Nat.add_sub_cancel,List.drop_left]
 have H:((j++[x]).map (fun b=>(b.toNat:Int))).getD j.length 0=(x.toNat:Int):=by simp
 rw[H]
 show ([x]==[47])=((x.toNat:Int)==47)
 rw[Bool.eq_iff_iff,beq_iff_eq,beq_iff_eq]
 constructor
 ·intro h;cases h;rfl
 ·intro h
  have:x.toNat=(47:UInt8).toNat:=by have A:(47:UInt8).toNat=47:=rfl;omega
  rw[UInt8.toNat_inj.1 this]
theorem zl7 (c:Int) (w:World) (U:0≤c) (O:c≤255):
  Calls Tryz.prog 185 #[.int .u8 c] w fun e w'=>e= .returned (.bool (decide (zb8 c)))∧w'=w:=by
 have z:c<32∨127≤c∨c=34∨c=92∨zb8 c:=by unfold zb8;omega
 rcases z with r|r|r|r|r
 ·have j:Hid (decide (zb8 c)=false):=decide_eq_false (fun h=>by unfold zb8 at h;omega)
  have A:decide (32≤c)=false:=decide_eq_false (by omega)
  clear r
  go_enter Tryz.func185,Tryz.ntmps185
  go_wp2
  go_ret
  exact⟨zk j.out.symm,rfl⟩
 ·have j:Hid (decide (zb8 c)=false):=decide_eq_false (fun h=>by unfold zb8 at h;omega)
  have A:decide (32≤c)=true:=decide_eq_true (by omega)
  have J:decide (c≤126)=false:=decide_eq_false (by omega)
  clear r
  go_enter Tryz.func185,Tryz.ntmps185
  go_wp2
  go_ret
  exact⟨zk j.out.symm,rfl⟩
 ·have j:Hid (decide (zb8 c)=false):=decide_eq_false (fun h=>by unfold zb8 at h;omega)
  subst r
  go_enter Tryz.func185,Tryz.ntmps185
  go_wp2
  go_ret
  exact⟨zk j.out.symm,rfl⟩
 ·have j:Hid (decide (zb8 c)=false):=decide_eq_false (fun h=>by unfold zb8 at h;omega)
  subst r
  go_enter Tryz.func185,Tryz.ntmps185
  go_wp2
  go_ret
  exact⟨zk j.out.symm,rfl⟩
 ·have j:Hid (decide (zb8 c)=true):=decide_eq_true r
  obtain⟨M,H,L,I⟩:=r
  have A:decide (32≤c)=true:=decide_eq_true (by omega)
  have J:decide (c≤126)=true:=decide_eq_true (by omega)
  have N:(c !=34)=true:=bne_iff_ne.2 (by omega)
  have V:(c !=92)=true:=bne_iff_ne.2 (by omega)
  clear M H L I
  go_enter Tryz.func185,Tryz.ntmps185
  go_wp2
  go_ret
  exact⟨zk j.out.symm,rfl⟩
theorem zl8 (s:ByteArray) (w:World) (_:s.size≤9223372036854775807):
  Calls Tryz.prog 175 #[.string s] w fun e w'=>e= .returned (.bool (zcz s))∧w'=w:=by
 have Y:=get_bt s
 by_cases U:s.size≤40
 ·go_enter Tryz.func175,Tryz.ntmps175
  go_wp2
  go_loop [9,3] (fun i _=>∃k:Nat,k≤s.size∧i= .int .i64 k∧∀j,j<k→zb8 (bt s j)) (fun i _=>(s.size-intOf i).toNat)
  case atStart=>exact⟨0,by omega,rfl,fun j O=>by omega⟩
  case round=>
   obtain⟨k,X,rfl,A⟩:=hrel
   have I:=zY A
   clear A
   by_cases M:k<s.size
   ·have H:=bt_nonneg s k
    have J:=bt_le s k
    by_cases z:zb8 (bt s k)
    ·have L:Hid (∀j,j<k+1→zb8 (bt s j)):=fun j O=>by
      by_cases e:j=k
      ·rw[e];exact z
      ·exact I.out j (by omega)
     have N:=zY (decide_eq_true z)
     clear z
     go_wp2_with fail
     refine (zl7 _ _ H J).mono ?_
     rintro e w' ⟨rfl,rfl⟩
     rw[N.out]
     go_wp2
     go_round
     case rel=>exact⟨k+1,by omega,by go_num,L.out⟩
     case measure=>simp[intOf];omega
    ·have L:Hid (¬zd3 s):=fun h=>z (h.2 k M)
     have N:=zY (decide_eq_false z)
     clear z
     go_wp2_with fail
     refine (zl7 _ _ H J).mono ?_
     rintro e w' ⟨rfl,rfl⟩
     rw[N.out]
     go_wp2
     go_ret
     exact⟨zk (zdX L.out).symm,rfl⟩
   ·have V:Hid (zd3 s):=⟨U,fun j O=>I.out j (by omega)⟩
    go_wp2
    go_ret
    exact⟨zk (zjv V.out).symm,rfl⟩
 ·have L:Hid (¬zd3 s):=fun h=>U h.1
  go_enter Tryz.func175,Tryz.ntmps175
  go_wp2
  go_ret
  exact⟨zk (zdX L.out).symm,rfl⟩
theorem zu0 (p t:ByteArray) (w:World) (A:p.size≤9223372036854775807) (H:t.size≤9223372036854775807):
  Calls Tryz.prog 133 #[.agg #[.string p,.string t]] w fun e w'=>e= .returned (.bool (zbI p t))∧Below w.heap.size w w':=by
 have j:Hid (Below w.heap.size w (w.alloc (.cells #[.string p,.string t] 57))):=(Below.refl _ _).alloc (Nat.le_refl _) _
 cases z:p.toList.isEmpty with
 |true=>
  have h:Hid (zbI p t=false):=by show _=_;rw[zbI,z];rfl
  go_enter Tryz.func133,Tryz.ntmps133
  go_wp2
  go_ret
  exact⟨zk h.out.symm,j.out⟩
 |false=>
  have h:Hid (zbI p t=(zcz p&&zcz t)):=by show _=_;rw[zbI,z];rfl
  generalize zbI p t=rb at h
  go_enter Tryz.func133,Tryz.ntmps133
  go_wp2_with fail
  refine (zl8 _ _ A).mono ?_
  rintro e w' ⟨rfl,rfl⟩
  generalize zcz p=b1 at h
  cases b1 with
  |false=>
   go_wp2
   go_ret
   exact⟨zk h.out.symm,j.out⟩
  |true=>
   go_wp2_with fail
   refine (zl8 _ _ H).mono ?_
   rintro e w' ⟨rfl,rfl⟩
   go_wp2
   go_ret
   exact⟨zk h.out.symm,j.out⟩
theorem zu1 {w0 wr W:World} {p t:ByteArray} {e:TypeId} (h:Below w0.heap.size w0 wr) (j:W=wr.alloc (.cells #[.string p,.string t] e)):
  W.cell? ⟨wr.heap.size,0,none⟩=some (.string p)∧W.cell? ⟨wr.heap.size,1,none⟩=some (.string t)∧Below w0.heap.size w0 W:=by
 subst j
 refine⟨?_,?_,h.alloc h.size _⟩
 ·rw[World.cell?_alloc_new];rfl
 ·rw[World.cell?_alloc_new];rfl
theorem zu2 (a:Option Addr) (g len ac:Nat) (Pt Tx:Nat→ByteArray) (w:World) (hf:FilesAt w a g 0 len Pt Tx) (hl:len≤1048576) (hp: ∀j,j<len→(Pt j).size≤1048576) (ht: ∀j,j<len→(Tx j).size≤1048576):
  Calls Tryz.prog 99 #[.slice a len ac] w fun e w'=>e= .returned (.bool (zbs len Pt Tx))∧Below w.heap.size w w':=by
 by_cases V:len≤8
 ·go_enter Tryz.func99,Tryz.ntmps99
  go_wp2
  go_loopw [10,3,4] (fun i _ _ wr=>∃k:Nat,k≤len∧i= .int .i64 k∧zd4 k Pt Tx∧Below w.heap.size w wr) (fun i _ _ _=>(len-intOf i).toNat)
  case atStart=>exact⟨0,by omega,rfl,fun j hj=>absurd hj (Nat.not_lt_zero j),Below.refl _ _⟩
  case round=>
   obtain⟨k,hk,rfl,Z,hb⟩:=hrel
   have N:Hid (zd4 k Pt Tx):=Z
   clear Z
   by_cases J:k<len
   ·obtain rfl:=hf.addr (by omega)
    have X:=hf.later hb
    have c0:=X.path k J
    have c1:=X.text k J
    rw[Nat.zero_add] at c0 c1
    have af:=hp k J
    have ag:=ht k J
    obtain⟨W,hW⟩: ∃W,W=wr.alloc (.cells #[.string (Pt k),.string (Tx k)] 57):=⟨_,rfl⟩
    have HW:Hid (W=wr.alloc (.cells #[.string (Pt k),.string (Tx k)] 57)):=hW
    obtain⟨b0,b1,A⟩:=zu1 hb hW
    have B0:Hid (W.cell? ⟨wr.heap.size,0,none⟩=some (.string (Pt k))):=b0
    have B1:Hid (W.cell? ⟨wr.heap.size,1,none⟩=some (.string (Tx k))):=b1
    have ae:=hf.later A
    have U: ∀d os,Calls Tryz.prog 133 #[.agg #[.string (Pt k),.string (Tx k)]] (grow (redrawn W d) os) fun e ad=>e= .returned (.bool (zbI (Pt k) (Tx k)))∧∃p:Regrown,ad=grow (redrawn W p.d) p.os:=
     fun d os=>Calls.regrown_of (zu0 _ _ _ (by omega) (by omega))
    clear hW b0 b1
    cases L:zbI (Pt k) (Tx k) with
    |false=>
     have Y:Hid (¬zcm len Pt Tx):=fun h=>by have:=(h.2 k J).1;rw[L] at this;cases this
     rw[L] at U
     go_wp2
     rw[←HW.out]
     have k0:=cell_regrown B0.out
     have k1:=cell_regrown B1.out
     refine wp_region_quiet_below (by kernel_rfl) (by kernel_rfl) ?_
     repeat (go_big_quiet_step (exact U _ _))
     refine wpQuiet_nil ?_
     intro _ H
     obtain⟨⟨O,I⟩,z⟩:=H
     subst z
     go_wp2
     go_ret
     exact⟨zk (zdD Y.out).symm,A.trans ((below_regrown W O I).mono A.size)⟩
    |true=>
     rw[L] at U
     by_cases ab:k=0
     ·subst ab
      have HX:Hid (zd4 (0+1) Pt Tx):=zgh N.out L (fun h=>absurd h (Nat.lt_irrefl _))
      go_wp2
      rw[←HW.out]
      have k0:=cell_regrown B0.out
      have k1:=cell_regrown B1.out
      refine wp_region_quiet_below (by kernel_rfl) (by kernel_rfl) ?_
      repeat (go_big_quiet_step (exact U _ _))
      refine wpQuiet_nil ?_
      intro _ H
      obtain⟨⟨O,I⟩,z⟩:=H
      subst z
      have M:=A.trans ((below_regrown W O I).mono A.size)
      go_wp2
      go_roundw
      case rel=>exact⟨0+1,by omega,by go_num,HX.out,M⟩
      case measure=>simp[intOf];omega
     ·obtain⟨m,rfl⟩: ∃m,k=m+1:=⟨k-1,by omega⟩
      have ez:((m+1:Nat):Int)=(m:Int)+1:=by omega
      have ah:decide ((0:Int)<((m+1:Nat):Int))=true:=decide_eq_true (by omega)
      have p0:=ae.path m (by omega)
      rw[Nat.zero_add] at p0
      have P0:Hid (W.cell? ⟨g,m*2,none⟩=some (.string (Pt m))):=p0
      clear p0
      cases aa:Op.bytesLess (Pt m).toList (Pt (m+1)).toList with
      |true=>
       have HX:Hid (zd4 (m+1+1) Pt Tx):=zgh N.out L (fun _=>aa)
       go_wp2
       rw[←HW.out]
       have k0:=cell_regrown B0.out
       have k1:=cell_regrown B1.out
       have k2:=cell_regrown P0.out
       refine wp_region_quiet_below (by kernel_rfl) (by kernel_rfl) ?_
       repeat (go_big_quiet_step (exact U _ _))
       refine wpQuiet_nil ?_
       intro _ H
       obtain⟨⟨O,I⟩,z⟩:=H
       subst z
       have M:=A.trans ((below_regrown W O I).mono A.size)
       go_wp2
       go_roundw
       case rel=>exact⟨m+1+1,by omega,by go_num,HX.out,M⟩
       case measure=>simp[intOf];omega
      |false=>
       have Y:Hid (¬zcm len Pt Tx):=fun h=>by have:=(h.2 (m+1) J).2 (by omega);rw[Nat.add_sub_cancel,aa] at this;cases this
       go_wp2
       rw[←HW.out]
       have k0:=cell_regrown B0.out
       have k1:=cell_regrown B1.out
       have k2:=cell_regrown P0.out
       refine wp_region_quiet_below (by kernel_rfl) (by kernel_rfl) ?_
       repeat (go_big_quiet_step (exact U _ _))
       refine wpQuiet_nil ?_
       intro _ H
       obtain⟨⟨O,I⟩,z⟩:=H
       subst z
       have M:=A.trans ((below_regrown W O I).mono A.size)
       go_wp2
       go_ret
       exact⟨zk (zdD Y.out).symm,M⟩
   ·have HY:Hid (zcm len Pt Tx):=⟨V,fun j hj=>N.out j (by omega)⟩
    go_wp2
    go_ret
    exact⟨zk (zjw HY.out).symm,hb⟩
 ·have Y:Hid (¬zcm len Pt Tx):=fun h=>V h.1
  go_enter Tryz.func99,Tryz.ntmps99
  go_wp2
  go_ret
  exact⟨zk (zdD Y.out).symm,Below.refl _ _⟩
theorem zu3 (s p:ByteArray):Lib.hasPrefix s.data.toList p.data.toList=zb7 p s:=(Lib.hasPrefix_raw s p).symm
theorem zu4 (p t s:ByteArray) (w:World) (I:0<p.size) (J:p.size≤1048576):
  Calls Tryz.prog 100 #[.agg #[.string p,.string t],.string s] w fun e w'=>e= .returned (.bool (zaU p s))∧Below w.heap.size w w':=by
 have j:Hid (Below w.heap.size w (w.alloc (.cells #[.string p,.string t] 57))):=(Below.refl _ _).alloc (Nat.le_refl _) _
 have H:Hid (Lib.hasSuffix p.data.toList [47]=(bt p (p.size-1)==47)):=zuz I
 have z:Hid (Lib.hasPrefix s.data.toList p.data.toList=zb7 p s):=zu3 s p
 have h:Hid (zaU p s=((p.toList==s.toList)||((bt p (p.size-1)==47)&&zb7 p s))):=rfl
 clear I
 generalize zaU p s=v at h
 generalize (bt p (p.size-1)==47)=b1 at h H
 generalize zb7 p s=b2 at h z
 cases A:(p.toList==s.toList) with
 |true=>
  rw[A] at h
  go_enter Tryz.func100,Tryz.ntmps100
  go_wp2
  go_ret
  exact⟨zk h.out.symm,j.out⟩
 |false=>
  rw[A] at h
  go_enter Tryz.func100,Tryz.ntmps100
  go_wp2_with fail
  refine (Tryz.strings_HasSuffix _ _ _ (by omega)).mono ?_
  rintro e w' ⟨rfl,rfl⟩
  rw[H.out]
  cases b1 with
  |false=>
   go_wp2
   go_ret
   exact⟨zk h.out.symm,j.out⟩
  |true=>
   go_wp2_with fail
   refine (Tryz.strings_HasPrefix _ _ _).mono ?_
   rintro e w' ⟨rfl,rfl⟩
   rw[z.out]
   go_wp2
   go_ret
   exact⟨zk h.out.symm,j.out⟩
theorem zl9 (p t s:ByteArray) (w:World) (h:p.size≤s.size) (z:s.size≤1048576) (A:t.size≤1048576):
  Calls Tryz.prog 67 #[.agg #[.string p,.string t],.string s] w fun e w'=>e= .returned (.string (t++s.extract p.size s.size))∧Below w.heap.size w w':=by
 have j:Hid (Below w.heap.size w (w.alloc (.cells #[.string p,.string t] 57))):=(Below.refl _ _).alloc (Nat.le_refl _) _
 go_enter Tryz.func67,Tryz.ntmps67
 go_wp2
 go_quiet (fail)
 go_wp2
 go_ret
 exact⟨rfl,zeD j.out⟩
theorem zlA {w:World} {b i:Nat} {j:Array Value} {u:Value} {t:TypeId} (h:w.heap[b]? =some (.cells j t (0,0))):(w.setCell ⟨b,i,none⟩ u).heap[b]? =some (.cells (j.setIfInBounds i u) t (0,0)):=by
 simp only[World.setCell,Array.getElem?_modify]
 rw[if_pos trivial,h]
 rfl
theorem zia {w:World} {b:Nat} {v0 v1 x0 x1:Value} {t:TypeId} (h:w.heap[b]? =some (.cells #[v0,v1] t (0,0))):((w.setCell ⟨b,0,none⟩ x0).setCell ⟨b,1,none⟩ x1).heap[b]? =some (.cells #[x0,x1] t (0,0)):=by
 have e:=zlA (i:=1) (u:=x1) (zlA (i:=0) (u:=x0) h)
 rw[e]
 simp
theorem zlB {w:World} {b c i:Nat} {u:Value} (h:b≠c):(w.setCell ⟨c,i,none⟩ u).heap[b]? =w.heap[b]?:=Below.heap_setCell w ⟨c,i,none⟩ u b h
theorem zlC {w:World} {b:Nat} {e:TypeId} {v0 v1:Value} (h:w.heap[b]? =some (.cells #[v0,v1] e (0,0))):w.cell? ⟨b,0,none⟩=some v0∧w.cell? ⟨b,1,none⟩=some v1:=by
 constructor<;>simp[World.cell?,h]
theorem zib {w:World} {b:Nat} {e:TypeId} {v0 v1:Value} (h:w.heap[b]? =some (.cells #[v0,v1] e (0,0))):w.cell? ⟨b,0,none⟩=some v0∧w.cell? ⟨b,1,none⟩=some v1∧w.frozen? ⟨b,0,none⟩=false∧w.frozen? ⟨b,1,none⟩=false:=by
 refine⟨?_,?_,?_,?_⟩<;>simp[World.cell?,World.frozen?,h]
theorem zgI {w W:World} {j:Nat} {o:Obj} (h:w.heap[j]? =some o) (z:Below w.heap.size w W):W.heap[j]? =some o:=(z.block j (Array.getElem?_eq_some_iff.1 h).1).trans h
def zcW (len:Nat) (Pt Tx:Nat→ByteArray) (s:ByteArray):ByteArray×ByteArray:=match zbs len Pt Tx with
 |true=>zf9 Pt Tx (zac Pt s len)
 |false=>zf9 Pt Tx none
theorem zu5 (a:Option Addr) (g len L:Nat) (Pt Tx:Nat→ByteArray) (s:ByteArray) (w:World) (hf:FilesAt w a g 0 len Pt Tx) (hl:len≤1048576) (hp: ∀j,j<len→(Pt j).size≤1048576) (ht: ∀j,j<len→(Tx j).size≤1048576):
  Calls Tryz.prog 66 #[.slice a len L,.string s] w fun e w'=>e= .returned (.agg #[.string (zcW len Pt Tx s).1,.string (zcW len Pt Tx s).2])∧Below w.heap.size w w':=by
 obtain⟨W,J⟩: ∃W,W=(w.alloc (.cells #[.string {data:=#[]},.string {data:=#[]}] 57)).alloc (.cells #[.string {data:=#[]},.string {data:=#[]}] 57):=⟨_,rfl⟩
 have HW:=zY J
 have e1:(w.alloc (.cells #[.string {data:=#[]},.string {data:=#[]}] 57)).heap.size=w.heap.size+1:=by show (w.heap.push _).size=_;simp
 have U:Hid (Below w.heap.size w W):=by
  show Below _ _ _
  rw[J]
  exact ((Below.refl _ _).alloc (Nat.le_refl _) _).alloc (by rw[e1];omega) _
 have G4:Hid (W.heap[w.heap.size]? =some (.cells #[.string {data:=#[]},.string {data:=#[]}] 57 (0,0))):=by
  show _=_
  rw[J,heap_alloc_old _ _ (by rw[e1];omega)]
  exact heap_alloc_new w _
 have G5:Hid (W.heap[w.heap.size+1]? =some (.cells #[.string {data:=#[]},.string {data:=#[]}] 57 (0,0))):=by
  show _=_
  rw[J]
  exact heap_alloc2_new w _ _
 clear J
 have Y:=zY hf
 have HP:=zY hp
 have HT:=zY ht
 clear hf hp ht
 go_enter Tryz.func66,Tryz.ntmps66
 go_wp2_with fail
 rw[←HW.out]
 clear e1
 refine (zu2 a g len L Pt Tx _ (Y.out.later U.out) hl HP.out HT.out).mono ?_
 rintro e w1 ⟨rfl,A⟩
 have B1:=zY (U.out.trans (A.mono U.out.size))
 have V:=zY (zgI G4.out A)
 have X5:=zY (zgI G5.out A)
 clear A G4 G5 U HW
 cases z:zbs len Pt Tx with
 |false=>
  have HV:Hid (zcW len Pt Tx s=({data:=#[]},{data:=#[]})):=by show _=_;rw[zcW,z];rfl
  obtain⟨X,N⟩:=zlC X5.out
  obtain⟨d0,d1,z0,z1⟩:=zib V.out
  go_wp2
  refine bodyPost_ret (results_cell_row rfl _ _ w.heap.size 57 _ (0,0) _ rfl (zia V.out) Tryz.underlying57 rfl (by kernel_rfl)) rfl ?_
  exact⟨by rw[HV.out],(B1.out.setCell (Nat.le_refl _) _).setCell (Nat.le_refl _) _⟩
 |true=>
  have HV:Hid (zcW len Pt Tx s=zf9 Pt Tx (zac Pt s len)):=by show _=_;rw[zcW,z]
  have HR:=zY z
  clear z
  go_wp2
  go_loopw [15,7] (fun i _ wr=>∃k:Nat,k≤len∧i= .int .i64 k∧Hid (wr.heap[w.heap.size]? =some (.cells #[.string {data:=#[]},.string {data:=#[]}] 57 (0,0)))∧Hid (wr.heap[w.heap.size+1]? =some (.cells #[.string (zf9 Pt Tx (zac Pt s k)).1,.string (zf9 Pt Tx (zac Pt s k)).2] 57 (0,0)))∧Hid (Below w.heap.size w wr)) (fun i _ _=>(len-intOf i).toNat)
  case atStart=>exact⟨0,Nat.zero_le _,rfl,V,X5,B1⟩
  case round=>
   obtain⟨k,hk,rfl,O,Z,B⟩:=hrel
   clear V X5 B1
   by_cases h:k<len
   ·obtain rfl:=Y.out.addr (by omega)
    have I:=Y.out.later B.out
    have X:=I.path k h
    have N:=I.text k h
    rw[Nat.zero_add] at X N
    have aa:=HP.out k h
    clear I
    go_wp2_with fail
    refine (zu4 _ _ _ _ (zhw HR.out h) aa).mono ?_
    rintro e w2 ⟨rfl,M⟩
    obtain⟨b0,b1,H⟩:=zoh M
    have B2:=zY (B.out.trans (H.mono B.out.size))
    have Z4:=zY (zgI O.out H)
    have Z5:=zY (zgI Z.out H)
    clear M H O Z X N
    cases hh:zaU (Pt k) s with
    |true=>
     have HX:Hid (zac Pt s (k+1)=some k):=zuy HR.out h hh
     obtain⟨d0,d1,z0,z1⟩:=zib Z5.out
     go_wp2
     go_roundw
     case rel=>
      refine⟨k+1,h,by go_num,?_,?_,zY ((B2.out.setCell (by show _≤w.heap.size+1;omega) _).setCell (by show _≤w.heap.size+1;omega) _)⟩
      ·exact (zlB (by omega)).trans ((zlB (by omega)).trans Z4.out)
      ·show _=_
       rw[HX.out]
       exact zia Z5.out
     case measure=>simp[intOf];omega
    |false=>
     have HX:Hid (zac Pt s (k+1)=zac Pt s k):=zgi hh
     go_wp2
     go_roundw
     case rel=>
      refine⟨k+1,h,by go_num,Z4,?_,B2⟩
      show _=_
      rw[HX.out]
      exact Z5.out
     case measure=>simp[intOf];omega
   ·obtain rfl:k=len:=by omega
    obtain⟨X,N⟩:=zlC Z.out
    obtain⟨d0,d1,z0,z1⟩:=zib O.out
    go_wp2
    refine bodyPost_ret (results_cell_row rfl _ _ w.heap.size 57 _ (0,0) _ rfl (zia O.out) Tryz.underlying57 rfl (by kernel_rfl)) rfl ?_
    exact⟨by rw[HV.out],(B.out.setCell (Nat.le_refl _) _).setCell (Nat.le_refl _) _⟩
theorem zu6 (len:Nat) (Pt Tx:Nat→ByteArray) (s:ByteArray) (J: ∀j,j<len→(Tx j).size≤1048576):
  (zcW len Pt Tx s=({data:=#[]},{data:=#[]})∧zZ len Pt Tx s=s)∨∃p t,zcW len Pt Tx s=(p,t)∧p.toList.isEmpty=false∧p.size≤s.size∧t.size≤1048576∧(40<(t.size:Int)+s.size-p.size→zZ len Pt Tx s=s)∧(¬40<(t.size:Int)+s.size-p.size→zZ len Pt Tx s=t++s.extract p.size s.size):=by
 cases w:zbs len Pt Tx with
 |false=>exact .inl ⟨by rw[zcW,w];rfl,zgm w⟩
 |true=>
  cases z:zac Pt s len with
  |none=>exact .inl ⟨by rw[zcW,w,z];rfl,zgn z⟩
  |some b=>
   obtain⟨A,I⟩:=zdY z
   have H:=((zhs.1 w).2 b A).1
   rw[zbI,Bool.and_eq_true,Bool.and_eq_true,Bool.not_eq_true'] at H
   exact .inr ⟨Pt b,Tx b,by rw[zcW,w,z];rfl,H.1.1,zgl I,J b A,fun h=>zhu z h,fun h=>zhv w z h⟩
def zlD:Prop:=∀(p t q u:ByteArray) (W:World),Sem.run Tryz.prog (binOp .neq 57 (.agg #[.string p,.string t]) (.agg #[.string q,.string u])) W= .ok (.bool (!((p.toList==q.toList)&&(t.toList==u.toList)))) W
def zlE:Prop:=∀(op:BinOp) (a b:Operand) (p t q u:ByteArray) (W:World),Sem.run Tryz.prog (eqGuard op 57 a b (.agg #[.string p,.string t]) (.agg #[.string q,.string u])) W= .ok () W
theorem zic (s:ByteArray) (w:World) (h:s.size≤281474976710656):
  Calls Tryz.prog 68 #[.string s] w fun e w'=>e= .returned (.string s)∧Below w.heap.size w w':=by
 go_enter Tryz.func68,Tryz.ntmps68
 go_wp2_with fail
 refine (Tryz.stringslite_Clone _ _ h).mono ?_
 rintro e z ⟨rfl,j⟩
 go_wp2
 go_ret
 exact⟨rfl,j⟩
theorem zu7 (Z:zlD) (Y:zlE) (a:Option Addr) (g len N:Nat) (Pt Tx:Nat→ByteArray) (s:ByteArray) (w:World) (hf:FilesAt w a g 0 len Pt Tx) (hl:len≤1048576) (hp: ∀j,j<len→(Pt j).size≤1048576) (ht: ∀j,j<len→(Tx j).size≤1048576) (hs:s.size≤1048576):
  Calls Tryz.prog 21 #[.slice a len N,.string s] w fun e w'=>e= .returned (.string (zZ len Pt Tx s))∧Below w.heap.size w w':=by
 unfold zlD at Z
 unfold zlE at Y
 have C:=zu6 len Pt Tx s ht
 have M:=zY (zu5 a g len N Pt Tx s w hf hl hp ht)
 clear hf hp ht
 generalize zZ len Pt Tx s=v at C
 rcases C with ⟨V,hv⟩|⟨p,t,V,he,O,U,h1,h2⟩
 ·have X:=zY hv
  rw[V] at M
  clear V hv
  go_enter Tryz.func21,Tryz.ntmps21
  go_wp2_with fail
  refine M.out.mono ?_
  rintro e w1 ⟨rfl,z⟩
  have h:=z.alloc z.size (.cells #[.string {data:=#[]},.string {data:=#[]}] 57)
  go_wp2_with fail
  refine (zic _ _ (by omega)).mono ?_
  rintro e w2 ⟨rfl,A⟩
  go_wp2
  go_ret
  exact⟨za1 X.out.symm,h.trans (A.mono h.size)⟩
 ·rw[V] at M
  clear V
  by_cases I:40<(t.size:Int)+s.size-p.size
  ·have X:=zY (h1 I)
   clear h1 h2
   go_enter Tryz.func21,Tryz.ntmps21
   go_wp2_with fail
   refine M.out.mono ?_
   rintro e w1 ⟨rfl,z⟩
   have h:=zY (z.alloc z.size (.cells #[.string p,.string t] 57))
   go_wp2_with fail
   refine (zl9 _ _ _ _ O (by omega) U).mono ?_
   rintro e w2 ⟨rfl,A⟩
   have H:=zY (h.out.trans (A.mono h.out.size))
   clear A
   obtain⟨y,J⟩: ∃y,t++s.extract p.size s.size=y:=⟨_,rfl⟩
   have hz: ¬(y.size:Int)≤40:=by rw[←J,ByteArray.size_append,ByteArray.size_extract];omega
   rw[J]
   clear J
   go_wp2_with fail
   refine (zic _ _ (by omega)).mono ?_
   rintro e w3 ⟨rfl,L⟩
   go_wp2
   go_ret
   exact⟨za1 X.out.symm,H.out.trans (L.mono H.out.size)⟩
  ·have X:=zY (h2 I)
   clear h1 h2
   go_enter Tryz.func21,Tryz.ntmps21
   go_wp2_with fail
   refine M.out.mono ?_
   rintro e w1 ⟨rfl,z⟩
   have h:=zY (z.alloc z.size (.cells #[.string p,.string t] 57))
   go_wp2_with fail
   refine (zl9 _ _ _ _ O (by omega) U).mono ?_
   rintro e w2 ⟨rfl,A⟩
   have H:=zY (h.out.trans (A.mono h.out.size))
   clear A
   obtain⟨y,J⟩: ∃y,t++s.extract p.size s.size=y:=⟨_,rfl⟩
   have hz:(y.size:Int)≤40:=by rw[←J,ByteArray.size_append,ByteArray.size_extract];omega
   rw[J]
   have HY:=zY J
   clear J
   go_wp2_with fail
   refine (zic _ _ (by omega)).mono ?_
   rintro e w3 ⟨rfl,L⟩
   go_wp2
   go_ret
   exact⟨za1 (by rw[X.out,HY.out]),H.out.trans (L.mono H.out.size)⟩
theorem zu8 (p t q u:ByteArray) (w:World):Sem.run Tryz.prog (binOp .neq 57 (.agg #[.string p,.string t]) (.agg #[.string q,.string u])) w= .ok (.bool (!((p.toList==q.toList)&&(t.toList==u.toList)))) w:=by
 have H:=Tryz.underlying9
 have J:=Tryz.isAgg9
 have I:=Tryz.sizeOf9
 have j:Tryz.prog.underlying 57=some (.struct (Tryz.prog.fieldsOf 57)):=by kernel_rfl
 have h:Tryz.prog.stoodInHeld 57=false:=by kernel_rfl
 rw[run_neq_struct,show (10000:Nat)=9999+1 from rfl,run_equalIn_agg w 9999 57 _ _ j h]
 simp only[Program.fieldsOf,Tryz.underlying57]
 go_simp
 by_cases A:p.toList=q.toList<;>by_cases z:t.toList=u.toList<;>simp[A,z]
theorem zu9 (h:BinOp) (a b:Operand) (p t q u:ByteArray) (w:World):Sem.run Tryz.prog (eqGuard h 57 a b (.agg #[.string p,.string t]) (.agg #[.string q,.string u])) w= .ok () w:=run_eqGuard_agg w h 57 a b _ _ (by kernel_rfl)
theorem zlF (a:Option Addr) (g len h:Nat) (Pt Tx:Nat→ByteArray) (s:ByteArray) (w:World) (A:FilesAt w a g 0 len Pt Tx) (H:len≤1048576) (z: ∀j,j<len→(Pt j).size≤1048576) (I: ∀j,j<len→(Tx j).size≤1048576) (J:s.size≤1048576):
  Calls Tryz.prog 21 #[.slice a len h,.string s] w fun e w'=>e= .returned (.string (zZ len Pt Tx s))∧Below w.heap.size w w':=zu7 zu8 zu9 a g len h Pt Tx s w A H z I J
end Go.Proofs.YtjdddblpfbmpaaaGreat
