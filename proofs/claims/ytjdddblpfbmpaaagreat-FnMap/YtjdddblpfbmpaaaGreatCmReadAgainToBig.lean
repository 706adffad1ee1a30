/-
  What impl.readAgain and impl.ModOk answer: the walks.
  What impl.MapMod answers: the walk.
  What impl's isStrByte,isStr,Rule.isRight and RulesOk answer: the walks.
  What impl's Rule.isFor,Rule.put,ruleFor and MapSpec answer,the model's != of rules handed in: the walks.
  The model's != of two rules. No program is spoken of but by a type's number.
  What impl.MapSpec answers,with the model's != of rules.
  What laws.big answers: the walk.
-/
import Derived.Test.YtjdddblpfbmpaaaGreatCmImplParseAll
namespace Go.Proofs.YtjdddblpfbmpaaaGreat
set_option maxRecDepth 100000
set_option maxHeartbeats 6400000
open Go.RowKit Go.PlainAid Go.Sort
def zu0 (m:Md) (scr:Bool) (w:World) (e:Ending) (w':World):Prop:=
 ∃(t:ByteArray) (S:Sv) (n:Md) (r:Bool),PrOf (zbj m) m t∧e= .returned (.tuple #[zp S n,.bool r])∧OwnMd w' w.heap.size S n∧(r=true↔zd6 t scr m)∧(r=true→n=m)∧Below w.heap.size w w'
structure RA (w:World) (base b3 gx gz gy:Nat) (S S3:Sv) (m n:Md) (z0 z1 z2 z3 z4:Value) (W:World):Prop where
 x:W.heap[gx]? =some (.cells #[.slice S.rq.a m.rq.length S.rq.cap,.slice S.im.a m.im.length S.im.cap,.slice S.ep.a m.ep.length S.ep.cap,.slice S.st.a m.st.length S.st.cap,.slice S.ex.a m.ex.length S.ex.cap] 36 (0,0))
 z:W.heap[gz]? =some (.cells #[z0,z1,z2,z3,z4] 36 (0,0))
 y:W.heap[gy]? =some (.cells #[.slice S3.rq.a n.rq.length S3.rq.cap,.slice S3.im.a n.im.length S3.im.cap,.slice S3.ep.a n.ep.length S3.ep.cap,.slice S3.st.a n.st.length S3.st.cap,.slice S3.ex.a n.ex.length S3.ex.cap] 36 (0,0))
 om:OwnMd W base S m
 on':OwnMd W b3 S3 n
 bel:Below w.heap.size w W
 hz:w.heap.size≤gz
 hx:gx≠gz
 hy:gy≠gz
variable {w W W':World} {base b3 gx gz gy:Nat} {S S3:Sv} {m n:Md} {z0 z1 z2 z3 z4:Value}
theorem RA.later (h:RA w base b3 gx gz gy S S3 m n z0 z1 z2 z3 z4 W) (j:Below W.heap.size W W'):RA w base b3 gx gz gy S S3 m n z0 z1 z2 z3 z4 W':=
 ⟨(j.block _ (Array.getElem?_eq_some_iff.1 h.x).1).trans h.x,(j.block _ (Array.getElem?_eq_some_iff.1 h.z).1).trans h.z,(j.block _ (Array.getElem?_eq_some_iff.1 h.y).1).trans h.y,h.om.later j,h.on'.later j,h.bel.trans (j.mono h.bel.size),h.hz,h.hx,h.hy⟩
theorem zme {W:World} {b c:Nat} (x0 x1 x2 x3 x4:Value) (h:b≠c):(((((W.setCell ⟨c,0,none⟩ x0).setCell ⟨c,1,none⟩ x1).setCell ⟨c,2,none⟩ x2).setCell ⟨c,3,none⟩ x3).setCell ⟨c,4,none⟩ x4).heap[b]? =W.heap[b]?:=by
 rw[heap_setCell_other _ _ _ _ h,heap_setCell_other _ _ _ _ h,heap_setCell_other _ _ _ _ h,heap_setCell_other _ _ _ _ h,heap_setCell_other _ _ _ _ h]
theorem RA.store (h:RA w base b3 gx gz gy S S3 m n z0 z1 z2 z3 z4 W) (x0 x1 x2 x3 x4:Value):RA w base b3 gx gz gy S S3 m n x0 x1 x2 x3 x4 (((((W.setCell ⟨gz,0,none⟩ x0).setCell ⟨gz,1,none⟩ x1).setCell ⟨gz,2,none⟩ x2).setCell ⟨gz,3,none⟩ x3).setCell ⟨gz,4,none⟩ x4):=
 ⟨(zme _ _ _ _ _ h.hx).trans h.x,zbN h.z,(zme _ _ _ _ _ h.hy).trans h.y,zfK (o:=0) h.om ⟨_,h.z⟩,zfK (o:=0) h.on' ⟨_,h.z⟩,zcb h.bel h.hz _ _ _ _ _,h.hz,h.hx,h.hy⟩
theorem zmf (base:Nat) (S:Sv) (m:Md) (X:Bool) (w:World) (h:OwnMd w base S m) (hm:Small m) (ac:Tree m→(zbj m).size≤4294967296):
  Calls Tryz.prog 40 #[zp S m,.bool X] w (zu0 m X w):=by
 have HH:=zc h
 have SM:=zc hm
 have HU:=zc ac
 have SF:Hid (zee m):=hm.few
 clear h hm ac
 unfold zp
 go_enter Tryz.func40,Tryz.ntmps40
 go_upto_region 1 with fail
 have e1:(w.alloc (.cells #[.slice S.rq.a m.rq.length S.rq.cap,.slice S.im.a m.im.length S.im.cap,.slice S.ep.a m.ep.length S.ep.cap,.slice S.st.a m.st.length S.st.cap,.slice S.ex.a m.ex.length S.ex.cap] 36)).heap.size=w.heap.size+1:=zl _ _
 have H:Hid (Below w.heap.size w ((w.alloc (.cells #[.slice S.rq.a m.rq.length S.rq.cap,.slice S.im.a m.im.length S.im.cap,.slice S.ep.a m.ep.length S.ep.cap,.slice S.st.a m.st.length S.st.cap,.slice S.ex.a m.ex.length S.ex.cap] 36)).alloc (.cells #[.slice none 0 0,.slice none 0 0,.slice none 0 0,.slice none 0 0,.slice none 0 0] 36))):=((Below.refl _ _).alloc (Nat.le_refl _) _).alloc (by rw[e1];omega) _
 refine zac (R:=fun W=>W.heap[w.heap.size]? =some (.cells #[.slice S.rq.a m.rq.length S.rq.cap,.slice S.im.a m.im.length S.im.cap,.slice S.ep.a m.ep.length S.ep.cap,.slice S.st.a m.st.length S.st.cap,.slice S.ex.a m.ex.length S.ex.cap] 36 (0,0))∧W.heap[w.heap.size+1]? =some (.cells #[.slice none 0 0,.slice none 0 0,.slice none 0 0,.slice none 0 0,.slice none 0 0] 36 (0,0))∧OwnMd W base S m∧Below w.heap.size w W) ⟨(heap_alloc_old _ _ (by rw[e1];omega)).trans (heap_alloc_new w _),heap_alloc2_new w _ _,HH.out.later H.out,H.out⟩ ?_
 obtain⟨gx,Z⟩: ∃gx,gx=w.heap.size:=⟨_,rfl⟩
 obtain⟨gz,ad⟩: ∃gz,gz=w.heap.size+1:=⟨_,rfl⟩
 rw[←ad,←Z]
 rintro w1 ⟨hx,hz,ho,j⟩
 rw[Z] at j
 have V:Hid (gx≠gz∧w.heap.size≤gz):=⟨by omega,by omega⟩
 clear Z ad H HH e1
 have X1:=zc hx
 have Z1:=zc hz
 have O1:=zc ho
 have ab:=zc j
 clear hx hz ho j
 obtain⟨c0,c1,c2,c3,c4,cf⟩:=zg X1.out
 go_wp2_with fail
 refine (zsN base S m X w1 O1.out SM.out (fun t=>Nat.le_trans (HU.out t) (by omega))).mono ?_
 rintro e w2 ⟨L,j⟩
 obtain⟨t,aa,rfl⟩:=L.form
 have PR:=zc aa
 have ht:=aa.size HU.out
 have X2:=zc ((j.block _ (Array.getElem?_eq_some_iff.1 X1.out).1).trans X1.out)
 have Z2:=zc ((j.block _ (Array.getElem?_eq_some_iff.1 Z1.out).1).trans Z1.out)
 have O2:=zc (O1.out.later j)
 have U:=zc (ab.out.trans (j.mono ab.out.size))
 clear L aa j c0 c1 c2 c3 c4 cf X1 Z1 O1 ab
 go_wp2_with fail
 refine (zuz t X w2 ht).mono ?_
 rintro e I ⟨L,j⟩
 have X3:=zc ((j.block _ (Array.getElem?_eq_some_iff.1 X2.out).1).trans X2.out)
 have Z3:=zc ((j.block _ (Array.getElem?_eq_some_iff.1 Z2.out).1).trans Z2.out)
 have O3:=zc (O2.out.later j)
 have M:=zc (U.out.trans (j.mono U.out.size))
 have ag:=(Array.getElem?_eq_some_iff.1 Z2.out).1
 clear j X2 Z2 O2
 rcases L.md with ⟨q,S3,n,hy,hn,rfl,Y,ae⟩|⟨p,hy,rfl⟩
 ·have OK:=zc (zjC (m:=m) hy hn)
  have O4:=zc Y
  have N:gz<I.heap.size:=(Array.getElem?_eq_some_iff.1 Z3.out).1
  clear L hy hn Y ae
  unfold zp
  go_upto_region 2 with fail
  have H:Hid (Below I.heap.size I (I.alloc (.cells #[.slice S3.rq.a n.rq.length S3.rq.cap,.slice S3.im.a n.im.length S3.im.cap,.slice S3.ep.a n.ep.length S3.ep.cap,.slice S3.st.a n.st.length S3.st.cap,.slice S3.ex.a n.ex.length S3.ex.cap] 36))):=(Below.refl _ _).alloc (Nat.le_refl _) _
  refine zac (R:=RA w base w2.heap.size gx gz I.heap.size S S3 m n (.slice none 0 0) (.slice none 0 0) (.slice none 0 0) (.slice none 0 0) (.slice none 0 0)) ⟨(H.out.block _ (Array.getElem?_eq_some_iff.1 X3.out).1).trans X3.out,(H.out.block _ N).trans Z3.out,heap_alloc_new I _,O3.out.later H.out,O4.out.later H.out,M.out.trans (H.out.mono M.out.size),V.out.2,V.out.1,by omega⟩ ?_
  obtain⟨gy,O⟩: ∃gy,gy=I.heap.size:=⟨_,rfl⟩
  rw[←O]
  intro w4 h4
  have J:=zc h4
  clear h4 O H X3 Z3 O3 O4 M N
  obtain⟨c0,c1,c2,c3,c4,cf⟩:=zg J.out.x
  obtain⟨d0,d1,d2,d3,d4,df⟩:=zg J.out.y
  obtain⟨k0,k1,k2,k3,k4,kf⟩:=zg J.out.z
  go_region_with (go_at_call 91;first|(refine ((zkS base w2.heap.size S S3 m n _ (J.out.later (Below.refl _ _).drew).om (J.out.later (Below.refl _ _).drew).on' SF.out)).mono ?_;rintro e w5 ⟨⟨r,rfl,hr⟩,j⟩;have A:=zc ((J.out.later (Below.refl _ _).drew).later j);have HR:=zc hr;clear hr j;obtain⟨a0,a1,a2,a3,a4,af⟩:=zg A.out.x;obtain⟨b0,b1,b2,b3,b4,bf⟩:=zg A.out.y;obtain⟨l0,l1,l2,l3,l4,lf⟩:=zg A.out.z)|(refine ((zkS base w2.heap.size S S3 m n _ ((J.out.later (Below.refl _ _).drew).store ..).om ((J.out.later (Below.refl _ _).drew).store ..).on' SF.out)).mono ?_;rintro e w5 ⟨⟨r,rfl,hr⟩,j⟩;have A:=zc (((J.out.later (Below.refl _ _).drew).store ..).later j);have HR:=zc hr;clear hr j;obtain⟨a0,a1,a2,a3,a4,af⟩:=zg A.out.x;obtain⟨b0,b1,b2,b3,b4,bf⟩:=zg A.out.y;obtain⟨l0,l1,l2,l3,l4,lf⟩:=zg A.out.z))
  all_goals
   go_wp2
   first
   |(refine bodyPost_ret (zas rfl _ _ gz 36 _ (0,0) _ rfl (A.out.store ..).z Tryz.underlying36 rfl (by kernel_rfl)) rfl ?_
     exact⟨t,S3,n,r,PR.out,rfl,((A.out.store ..).on').low U.out.size,HR.out.trans (Iff.trans ⟨Eq.symm,Eq.symm⟩ OK.out.symm),fun k=>(HR.out.1 k).symm,(A.out.store ..).bel⟩)
   |(refine bodyPost_ret (zas rfl _ _ gz 36 _ (0,0) _ rfl A.out.z Tryz.underlying36 rfl (by kernel_rfl)) rfl ?_
     exact⟨t,S3,n,r,PR.out,rfl,A.out.on'.low U.out.size,HR.out.trans (Iff.trans ⟨Eq.symm,Eq.symm⟩ OK.out.symm),fun k=>(HR.out.1 k).symm,A.out.bel⟩)
 ·have NO:=zc (zjB (m:=m) hy)
  have N:gz<I.heap.size:=(Array.getElem?_eq_some_iff.1 Z3.out).1
  clear L hy
  go_upto_region 2 with fail
  have H:Hid (Below I.heap.size I (I.alloc (.cells #[.slice none 0 0,.slice none 0 0,.slice none 0 0,.slice none 0 0,.slice none 0 0] 36))):=(Below.refl _ _).alloc (Nat.le_refl _) _
  refine zac (R:=RA w base w2.heap.size gx gz I.heap.size S S0 m md0 (.slice none 0 0) (.slice none 0 0) (.slice none 0 0) (.slice none 0 0) (.slice none 0 0)) ⟨(H.out.block _ (Array.getElem?_eq_some_iff.1 X3.out).1).trans X3.out,(H.out.block _ N).trans Z3.out,heap_alloc_new I _,O3.out.later H.out,zeC _ _,M.out.trans (H.out.mono M.out.size),V.out.2,V.out.1,by omega⟩ ?_
  obtain⟨gy,O⟩: ∃gy,gy=I.heap.size:=⟨_,rfl⟩
  rw[←O]
  intro w4 h4
  have J:=zc h4
  clear h4 O H X3 Z3 O3 M N
  obtain⟨c0,c1,c2,c3,c4,cf⟩:=zg J.out.x
  obtain⟨d0,d1,d2,d3,d4,df⟩:=zg (v0:=.slice none 0 0) (v1:=.slice none 0 0) (v2:=.slice none 0 0) (v3:=.slice none 0 0) (v4:=.slice none 0 0) J.out.y
  obtain⟨k0,k1,k2,k3,k4,kf⟩:=zg J.out.z
  have A:=zc ((J.out.store (.slice none 0 0) (.slice none 0 0) (.slice none 0 0) (.slice none 0 0) (.slice none 0 0)).later (Below.refl _ _).drew)
  have ah:((p:Int)== -1)=false:=beq_eq_false_iff_ne.2 (by omega)
  go_region_with (fail)
  all_goals
   go_wp2
   go_simp
   refine bodyPost_ret (zas rfl _ _ gz 36 _ (0,0) _ rfl A.out.z Tryz.underlying36 rfl (by kernel_rfl)) rfl ?_
   exact⟨t,S0,md0,false,PR.out,rfl,zeC _ _,⟨fun k=>(by cases k),fun k=>absurd k NO.out⟩,fun k=>(by cases k),A.out.bel⟩
theorem zu1 (base:Nat) (S:Sv) (m:Md) (j:Bool) (w:World) (h:OwnMd w base S m) (I:Small m) (q:Tree m→(zbj m).size≤4294967296):
  Calls Tryz.prog 9 #[zp S m,.bool j] w fun e w'=>zgu (zbj m) m j e∧Below w.heap.size w w':=by
 have A:Hid (Below w.heap.size w (w.alloc (.cells #[.slice S.rq.a m.rq.length S.rq.cap,.slice S.im.a m.im.length S.im.cap,.slice S.ep.a m.ep.length S.ep.cap,.slice S.st.a m.st.length S.st.cap,.slice S.ex.a m.ex.length S.ex.cap] 36))):=(Below.refl _ _).alloc (Nat.le_refl _) _
 have z:=zc (zmf base S m j _ (h.later A.out) I q)
 clear h I q
 unfold zp at z ⊢
 go_enter Tryz.func9,Tryz.ntmps9
 go_wp2_with fail
 refine z.out.mono ?_
 rintro e U ⟨t,V,n,r,H,rfl,_,L,_,M⟩
 have N:=zc H
 have O:=zc L
 have J:=zc (A.out.trans (M.mono A.out.size))
 clear H L M z
 unfold zp
 go_wp2
 go_ret
 exact⟨⟨t,N.out,r,rfl,O.out⟩,J.out.alloc J.out.size _⟩
theorem zu2 {m:Md} {t:ByteArray} {r:Bool} (j:PrOf (zbj m) m t) (z:r=true↔zd6 t false m):r=true↔MOk m:=by
 obtain⟨b,e,q⟩:=zjF ⟨t,j,r,rfl,z⟩
 cases e
 exact q
theorem zmg (cM:zkP 21) (L:Nat) (a:Option Addr) (g len ae:Nat) (Pt Tx:Nat→ByteArray) (S:Sv) (m:Md) (w:World) (hf:FilesAt w a g 0 len Pt Tx) (hl:len≤1048576) (hp: ∀j,j<len→(Pt j).size≤1048576) (ht: ∀j,j<len→(Tx j).size≤1048576) (h:OwnMd w L S m) (hc:MapFit m) (hn:zaW m.ex):
  Calls Tryz.prog 14 #[.slice a len ae,zp S m] w (zjQ (zT len Pt Tx) m w):=by
 have HH:=zc h
 have CM:=zc cM
 have HF:=zc hf
 have HP:=zc hp
 have HT:=zc ht
 have HC:=zc hc
 have HN:=zc hn
 clear h cM hf hp ht hn hc
 unfold zp
 go_enter Tryz.func14,Tryz.ntmps14
 go_upto_region 1 with fail
 have e1:(w.alloc (.cells #[.slice S.rq.a m.rq.length S.rq.cap,.slice S.im.a m.im.length S.im.cap,.slice S.ep.a m.ep.length S.ep.cap,.slice S.st.a m.st.length S.st.cap,.slice S.ex.a m.ex.length S.ex.cap] 36)).heap.size=w.heap.size+1:=zl _ _
 have O:Hid (Below w.heap.size w ((w.alloc (.cells #[.slice S.rq.a m.rq.length S.rq.cap,.slice S.im.a m.im.length S.im.cap,.slice S.ep.a m.ep.length S.ep.cap,.slice S.st.a m.st.length S.st.cap,.slice S.ex.a m.ex.length S.ex.cap] 36)).alloc (.cells #[.slice none 0 0,.slice none 0 0,.slice none 0 0,.slice none 0 0,.slice none 0 0] 36))):=((Below.refl _ _).alloc (Nat.le_refl _) _).alloc (by rw[e1];omega) _
 refine zac (R:=fun W=>W.heap[w.heap.size]? =some (.cells #[.slice S.rq.a m.rq.length S.rq.cap,.slice S.im.a m.im.length S.im.cap,.slice S.ep.a m.ep.length S.ep.cap,.slice S.st.a m.st.length S.st.cap,.slice S.ex.a m.ex.length S.ex.cap] 36 (0,0))∧W.heap[w.heap.size+1]? =some (.cells #[.slice none 0 0,.slice none 0 0,.slice none 0 0,.slice none 0 0,.slice none 0 0] 36 (0,0))∧OwnMd W L S m∧Below w.heap.size w W) ⟨(heap_alloc_old _ _ (by rw[e1];omega)).trans (heap_alloc_new w _),heap_alloc2_new w _ _,HH.out.later O.out,O.out⟩ ?_
 obtain⟨gx,X⟩: ∃gx,gx=w.heap.size:=⟨_,rfl⟩
 obtain⟨N,ag⟩: ∃N,N=w.heap.size+1:=⟨_,rfl⟩
 rw[←ag,←X]
 rintro Z ⟨hx,hz,ho,z⟩
 rw[X] at z
 have aa:Hid (w.heap.size≤N):=by show _≤_;omega
 clear X ag O HH e1
 have X1:=zc hx
 have Z1:=zc hz
 have O1:=zc ho
 have H:=zc z
 clear hx hz ho z
 obtain⟨c0,c1,c2,c3,c4,cf⟩:=zg X1.out
 go_wp2_with fail
 refine (zmf L S m false Z O1.out (zhC HC.out.cost HN.out) (fun t=>by have:=(zf0 t HN.out).2;have:=HC.out.cost;omega)).mono ?_
 rintro e w2 ⟨t,q,n,r,ad,rfl,V,hr,J,z⟩
 have OK:=zc (zu2 ad hr)
 have ON:=zc V
 have SA:=zc J
 have Z2:=zc ((z.block _ (Array.getElem?_eq_some_iff.1 Z1.out).1).trans Z1.out)
 have Y:=zc (H.out.trans (z.mono H.out.size))
 have LZ:Hid (N<Z.heap.size):=(Array.getElem?_eq_some_iff.1 Z1.out).1
 have F2:=zc ((HF.out.later H.out).later z)
 have SZ:=zc z.size
 clear ad V hr J z c0 c1 c2 c3 c4 cf X1 O1
 unfold zp
 go_upto_region 2 with fail
 have O:Hid (Below w2.heap.size w2 (w2.alloc (.cells #[.slice q.rq.a n.rq.length q.rq.cap,.slice q.im.a n.im.length q.im.cap,.slice q.ep.a n.ep.length q.ep.cap,.slice q.st.a n.st.length q.st.cap,.slice q.ex.a n.ex.length q.ex.cap] 36))):=(Below.refl _ _).alloc (Nat.le_refl _) _
 refine zac (R:=fun W=>W.heap[w2.heap.size]? =some (.cells #[.slice q.rq.a n.rq.length q.rq.cap,.slice q.im.a n.im.length q.im.cap,.slice q.ep.a n.ep.length q.ep.cap,.slice q.st.a n.st.length q.st.cap,.slice q.ex.a n.ex.length q.ex.cap] 36 (0,0))∧W.heap[N]? =some (.cells #[.slice none 0 0,.slice none 0 0,.slice none 0 0,.slice none 0 0,.slice none 0 0] 36 (0,0))∧OwnMd W Z.heap.size q n∧FilesAt W a g 0 len Pt Tx∧Below w.heap.size w W) ⟨heap_alloc_new w2 _,(O.out.block _ (Array.getElem?_eq_some_iff.1 Z2.out).1).trans Z2.out,ON.out.later O.out,F2.out.later O.out,Y.out.trans (O.out.mono Y.out.size)⟩ ?_
 obtain⟨gy,af⟩: ∃gy,gy=w2.heap.size:=⟨_,rfl⟩
 have ah:Hid (Z.heap.size≤gy):=by show _≤_;have:=SZ.out;omega
 rw[←af]
 rintro w3 ⟨hy,hz,ho,hf,z⟩
 have Y3:=zc hy
 have Z3:=zc hz
 have O3:=zc ho
 have F3:=zc hf
 have B3:=zc z
 clear hy hz ho hf z af O Z2 ON F2 Y
 cases r with
 |false=>
  obtain⟨k0,k1,k2,k3,k4,kf⟩:=zg Z3.out
  go_wp2
  refine bodyPost_ret (zas rfl _ _ N 36 _ (0,0) _ rfl (zbN Z3.out) Tryz.underlying36 rfl (by kernel_rfl)) rfl ?_
  exact⟨false,S0,rfl,zeC _ _,⟨fun k=>(by cases k),fun k=>OK.out.2 k.1⟩,zcb B3.out aa.out _ _ _ _ _⟩
 |true=>
  obtain rfl:=SA.out rfl
  have MK:=zc (OK.out.1 rfl)
  have PT:=zc MK.out.parts
  have M3:Hid (MW Z.heap.size gy a g len Pt Tx w3 w3 q n n.im.length n.ep.length):=⟨Y3.out,O3.out,F3.out,fun hl=>Nat.lt_of_lt_of_le (HF.out.lt hl) H.out.size,Below.refl _ _,ah.out,rfl,rfl⟩
  clear SA OK Y3 O3 F3
  go_wp2_with fail
  refine (zr4 CM.out Z.heap.size gy a g len ae Pt Tx q n n.im.length n.ep.length w3 M3.out hl HP.out HT.out (by have:=PT.out.rq;omega) PT.out.im PT.out.ep HC.out.parts.1 HC.out.parts.2.1 HC.out.parts.2.2).mono ?_
  rintro e w4 ⟨rfl,I,U⟩
  have M4:=zc U
  have Z4:=zc ((U.bel.block N LZ.out).trans Z3.out)
  have B4:=zc (B3.out.trans (U.bel.mono (H.out.size)))
  clear U M3 Z3 B3
  have A:=zc (zoK (len:=len) (Pt:=Pt) (Tx:=Tx) HC.out HN.out)
  obtain⟨M,U⟩: ∃M,M=zaZ (zT len Pt Tx) n:=⟨_,rfl⟩
  have HM:=zc U
  rw[←U] at M4 A
  clear U
  have BX:=M4.out.box
  rw[←M4.out.hli,←M4.out.hle] at BX
  have X4:=zc BX
  obtain⟨c0,c1,c2,c3,c4,cf⟩:=zg BX
  clear BX
  go_wp2_with fail
  refine (zu1 Z.heap.size I M false w4 M4.out.own A.out.1 A.out.2.1).mono ?_
  rintro e w5 ⟨ab,z⟩
  obtain⟨b,rfl,ac⟩:=zjF ab
  have OK:=zc ac
  have X5:=zc ((z.block _ (Array.getElem?_eq_some_iff.1 X4.out).1).trans X4.out)
  have Z5:=zc ((z.block _ (Array.getElem?_eq_some_iff.1 Z4.out).1).trans Z4.out)
  have B5:=zc (B4.out.trans (z.mono B4.out.size))
  have O5:=zc (M4.out.own.later z)
  clear ab ac z c0 c1 c2 c3 c4 cf X4 Z4 B4
  obtain⟨c0,c1,c2,c3,c4,cf⟩:=zg X5.out
  obtain⟨k0,k1,k2,k3,k4,kf⟩:=zg Z5.out
  cases b with
  |false=>
   go_wp2
   refine bodyPost_ret (zas rfl _ _ N 36 _ (0,0) _ rfl (zbN Z5.out) Tryz.underlying36 rfl (by kernel_rfl)) rfl ?_
   exact⟨false,S0,rfl,zeC _ _,⟨fun k=>(by cases k),fun k=>OK.out.2 (HM.out▸k.2)⟩,zcb B5.out aa.out _ _ _ _ _⟩
  |true=>
   go_wp2
   refine bodyPost_ret (zas rfl _ _ N 36 _ (0,0) _ rfl (zbN Z5.out) Tryz.underlying36 rfl (by kernel_rfl)) rfl ?_
   have hO:=(zfK (o:=0) (x0:=.slice I.rq.a M.rq.length I.rq.cap) (x1:=.slice I.im.a M.im.length I.im.cap) (x2:=.slice I.ep.a M.ep.length I.ep.cap) (x3:=.slice I.st.a M.st.length I.st.cap) (x4:=.slice I.ex.a M.ex.length I.ex.cap) O5.out ⟨_,Z5.out⟩).low H.out.size
   have hK:=OK.out.1 (by first|trivial|rfl)
   have hE:=HM.out
   subst hE
   exact⟨true,I,rfl,hO,⟨fun _=>⟨MK.out,hK⟩,fun _=>rfl⟩,zcb B5.out aa.out _ _ _ _ _⟩
theorem zmh (c:Int) (w:World) (O:0≤c) (N:c≤255):
  Calls Tryz.prog 185 #[.int .u8 c] w fun e w'=>e= .returned (.bool (decide (zb8 c)))∧w'=w:=by
 have q:c<32∨127≤c∨c=34∨c=92∨zb8 c:=by unfold zb8;omega
 rcases q with r|r|r|r|r
 ·have j:Hid (decide (zb8 c)=false):=decide_eq_false (fun h=>by unfold zb8 at h;omega)
  have z:decide (32≤c)=false:=decide_eq_false (by omega)
  clear r
  go_enter Tryz.func185,Tryz.ntmps185
  go_wp2
  go_ret
  exact⟨zh j.out.symm,rfl⟩
 ·have j:Hid (decide (zb8 c)=false):=decide_eq_false (fun h=>by unfold zb8 at h;omega)
  have z:decide (32≤c)=true:=decide_eq_true (by omega)
  have I:decide (c≤126)=false:=decide_eq_false (by omega)
  clear r
  go_enter Tryz.func185,Tryz.ntmps185
  go_wp2
  go_ret
  exact⟨zh j.out.symm,rfl⟩
 ·have j:Hid (decide (zb8 c)=false):=decide_eq_false (fun h=>by unfold zb8 at h;omega)
  subst r
  go_enter Tryz.func185,Tryz.ntmps185
  go_wp2
  go_ret
  exact⟨zh j.out.symm,rfl⟩
 ·have j:Hid (decide (zb8 c)=false):=decide_eq_false (fun h=>by unfold zb8 at h;omega)
  subst r
  go_enter Tryz.func185,Tryz.ntmps185
  go_wp2
  go_ret
  exact⟨zh j.out.symm,rfl⟩
 ·have j:Hid (decide (zb8 c)=true):=decide_eq_true r
  obtain⟨L,A,J,H⟩:=r
  have z:decide (32≤c)=true:=decide_eq_true (by omega)
  have I:decide (c≤126)=true:=decide_eq_true (by omega)
  have M:(c !=34)=true:=bne_iff_ne.2 (by omega)
  have U:(c !=92)=true:=bne_iff_ne.2 (by omega)
  clear L A J H
  go_enter Tryz.func185,Tryz.ntmps185
  go_wp2
  go_ret
  exact⟨zh j.out.symm,rfl⟩
theorem zmi (s:ByteArray) (w:World) (_:s.size≤9223372036854775807):
  Calls Tryz.prog 175 #[.string s] w fun e w'=>e= .returned (.bool (zcn s))∧w'=w:=by
 have X:=get_bt s
 by_cases O:s.size≤40
 ·go_enter Tryz.func175,Tryz.ntmps175
  go_wp2
  go_loop [9,3] (fun i _=>∃k:Nat,k≤s.size∧i= .int .i64 k∧∀j,j<k→zb8 (bt s j)) (fun i _=>(s.size-intOf i).toNat)
  case atStart=>exact⟨0,by omega,rfl,fun j N=>by omega⟩
  case round=>
   obtain⟨k,V,rfl,z⟩:=hrel
   have H:=zan z
   clear z
   by_cases L:k<s.size
   ·have A:=bt_nonneg s k
    have I:=bt_le s k
    by_cases q:zb8 (bt s k)
    ·have J:Hid (∀j,j<k+1→zb8 (bt s j)):=fun j N=>by
      by_cases e:j=k
      ·rw[e];exact q
      ·exact H.out j (by omega)
     have M:=zan (decide_eq_true q)
     clear q
     go_wp2_with fail
     refine (zmh _ _ A I).mono ?_
     rintro e w' ⟨rfl,rfl⟩
     rw[M.out]
     go_wp2
     go_round
     case rel=>exact⟨k+1,by omega,by go_num,J.out⟩
     case measure=>simp[intOf];omega
    ·have J:Hid (¬zdq s):=fun h=>q (h.2 k L)
     have M:=zan (decide_eq_false q)
     clear q
     go_wp2_with fail
     refine (zmh _ _ A I).mono ?_
     rintro e w' ⟨rfl,rfl⟩
     rw[M.out]
     go_wp2
     go_ret
     exact⟨zh (zeg J.out).symm,rfl⟩
   ·have U:Hid (zdq s):=⟨O,fun j N=>H.out j (by omega)⟩
    go_wp2
    go_ret
    exact⟨zh (zjN U.out).symm,rfl⟩
 ·have J:Hid (¬zdq s):=fun h=>O h.1
  go_enter Tryz.func175,Tryz.ntmps175
  go_wp2
  go_ret
  exact⟨zh (zeg J.out).symm,rfl⟩
theorem zu3 (p t:ByteArray) (w:World) (A:p.size≤9223372036854775807) (H:t.size≤9223372036854775807):
  Calls Tryz.prog 133 #[.agg #[.string p,.string t]] w fun e w'=>e= .returned (.bool (zb9 p t))∧Below w.heap.size w w':=by
 have q:Hid (Below w.heap.size w (w.alloc (.cells #[.string p,.string t] 57))):=(Below.refl _ _).alloc (Nat.le_refl _) _
 cases z:p.toList.isEmpty with
 |true=>
  have j:Hid (zb9 p t=false):=by show _=_;rw[zb9,z];rfl
  go_enter Tryz.func133,Tryz.ntmps133
  go_wp2
  go_ret
  exact⟨zh j.out.symm,q.out⟩
 |false=>
  have j:Hid (zb9 p t=(zcn p&&zcn t)):=by show _=_;rw[zb9,z];rfl
  generalize zb9 p t=rb at j
  go_enter Tryz.func133,Tryz.ntmps133
  go_wp2_with fail
  refine (zmi _ _ A).mono ?_
  rintro e w' ⟨rfl,rfl⟩
  generalize zcn p=b1 at j
  cases b1 with
  |false=>
   go_wp2
   go_ret
   exact⟨zh j.out.symm,q.out⟩
  |true=>
   go_wp2_with fail
   refine (zmi _ _ H).mono ?_
   rintro e w' ⟨rfl,rfl⟩
   go_wp2
   go_ret
   exact⟨zh j.out.symm,q.out⟩
theorem zu4 {w0 wr W:World} {p t:ByteArray} {e:TypeId} (j:Below w0.heap.size w0 wr) (q:W=wr.alloc (.cells #[.string p,.string t] e)):
  W.cell? ⟨wr.heap.size,0,none⟩=some (.string p)∧W.cell? ⟨wr.heap.size,1,none⟩=some (.string t)∧Below w0.heap.size w0 W:=by
 subst q
 refine⟨?_,?_,j.alloc j.size _⟩
 ·rw[World.cell?_alloc_new];rfl
 ·rw[World.cell?_alloc_new];rfl
theorem zu5 (a:Option Addr) (g len ab:Nat) (Pt Tx:Nat→ByteArray) (w:World) (hf:FilesAt w a g 0 len Pt Tx) (hl:len≤1048576) (hp: ∀j,j<len→(Pt j).size≤1048576) (ht: ∀j,j<len→(Tx j).size≤1048576):
  Calls Tryz.prog 99 #[.slice a len ab] w fun e w'=>e= .returned (.bool (zaY len Pt Tx))∧Below w.heap.size w w':=by
 by_cases U:len≤8
 ·go_enter Tryz.func99,Tryz.ntmps99
  go_wp2
  go_loopw [10,3,4] (fun i _ _ wr=>∃k:Nat,k≤len∧i= .int .i64 k∧zd7 k Pt Tx∧Below w.heap.size w wr) (fun i _ _ _=>(len-intOf i).toNat)
  case atStart=>exact⟨0,by omega,rfl,fun j hj=>absurd hj (Nat.not_lt_zero j),Below.refl _ _⟩
  case round=>
   obtain⟨k,hk,rfl,Y,hb⟩:=hrel
   have M:Hid (zd7 k Pt Tx):=Y
   clear Y
   by_cases I:k<len
   ·obtain rfl:=hf.addr (by omega)
    have V:=hf.later hb
    have c0:=V.path k I
    have c1:=V.text k I
    rw[Nat.zero_add] at c0 c1
    have ae:=hp k I
    have af:=ht k I
    obtain⟨W,hW⟩: ∃W,W=wr.alloc (.cells #[.string (Pt k),.string (Tx k)] 57):=⟨_,rfl⟩
    have HW:Hid (W=wr.alloc (.cells #[.string (Pt k),.string (Tx k)] 57)):=hW
    obtain⟨b0,b1,z⟩:=zu4 hb hW
    have B0:Hid (W.cell? ⟨wr.heap.size,0,none⟩=some (.string (Pt k))):=b0
    have B1:Hid (W.cell? ⟨wr.heap.size,1,none⟩=some (.string (Tx k))):=b1
    have ad:=hf.later z
    have O: ∀d os,Calls Tryz.prog 133 #[.agg #[.string (Pt k),.string (Tx k)]] (grow (redrawn W d) os) fun e ac=>e= .returned (.bool (zb9 (Pt k) (Tx k)))∧∃p:Regrown,ac=grow (redrawn W p.d) p.os:=
     fun d os=>Calls.regrown_of (zu3 _ _ _ (by omega) (by omega))
    clear hW b0 b1
    cases J:zb9 (Pt k) (Tx k) with
    |false=>
     have X:Hid (¬zco len Pt Tx):=fun h=>by have:=(h.2 k I).1;rw[J] at this;cases this
     rw[J] at O
     go_wp2
     rw[←HW.out]
     have k0:=cell_regrown B0.out
     have k1:=cell_regrown B1.out
     refine wp_region_quiet_below (by kernel_rfl) (by kernel_rfl) ?_
     repeat (go_big_quiet_step (exact O _ _))
     refine wpQuiet_nil ?_
     intro _ A
     obtain⟨⟨N,H⟩,q⟩:=A
     subst q
     go_wp2
     go_ret
     exact⟨zh (zdK X.out).symm,z.trans ((below_regrown W N H).mono z.size)⟩
    |true=>
     rw[J] at O
     by_cases aa:k=0
     ·subst aa
      have HX:Hid (zd7 (0+1) Pt Tx):=zgy M.out J (fun h=>absurd h (Nat.lt_irrefl _))
      go_wp2
      rw[←HW.out]
      have k0:=cell_regrown B0.out
      have k1:=cell_regrown B1.out
      refine wp_region_quiet_below (by kernel_rfl) (by kernel_rfl) ?_
      repeat (go_big_quiet_step (exact O _ _))
      refine wpQuiet_nil ?_
      intro _ A
      obtain⟨⟨N,H⟩,q⟩:=A
      subst q
      have L:=z.trans ((below_regrown W N H).mono z.size)
      go_wp2
      go_roundw
      case rel=>exact⟨0+1,by omega,by go_num,HX.out,L⟩
      case measure=>simp[intOf];omega
     ·obtain⟨m,rfl⟩: ∃m,k=m+1:=⟨k-1,by omega⟩
      have ez:((m+1:Nat):Int)=(m:Int)+1:=by omega
      have ag:decide ((0:Int)<((m+1:Nat):Int))=true:=decide_eq_true (by omega)
      have p0:=ad.path m (by omega)
      rw[Nat.zero_add] at p0
      have P0:Hid (W.cell? ⟨g,m*2,none⟩=some (.string (Pt m))):=p0
      clear p0
      cases Z:Op.bytesLess (Pt m).toList (Pt (m+1)).toList with
      |true=>
       have HX:Hid (zd7 (m+1+1) Pt Tx):=zgy M.out J (fun _=>Z)
       go_wp2
       rw[←HW.out]
       have k0:=cell_regrown B0.out
       have k1:=cell_regrown B1.out
       have k2:=cell_regrown P0.out
       refine wp_region_quiet_below (by kernel_rfl) (by kernel_rfl) ?_
       repeat (go_big_quiet_step (exact O _ _))
       refine wpQuiet_nil ?_
       intro _ A
       obtain⟨⟨N,H⟩,q⟩:=A
       subst q
       have L:=z.trans ((below_regrown W N H).mono z.size)
       go_wp2
       go_roundw
       case rel=>exact⟨m+1+1,by omega,by go_num,HX.out,L⟩
       case measure=>simp[intOf];omega
      |false=>
       have X:Hid (¬zco len Pt Tx):=fun h=>by have:=(h.2 (m+1) I).2 (by omega);rw[Nat.add_sub_cancel,Z] at this;cases this
       go_wp2
       rw[←HW.out]
       have k0:=cell_regrown B0.out
       have k1:=cell_regrown B1.out
       have k2:=cell_regrown P0.out
       refine wp_region_quiet_below (by kernel_rfl) (by kernel_rfl) ?_
       repeat (go_big_quiet_step (exact O _ _))
       refine wpQuiet_nil ?_
       intro _ A
       obtain⟨⟨N,H⟩,q⟩:=A
       subst q
       have L:=z.trans ((below_regrown W N H).mono z.size)
       go_wp2
       go_ret
       exact⟨zh (zdK X.out).symm,L⟩
   ·have HY:Hid (zco len Pt Tx):=⟨U,fun j hj=>M.out j (by omega)⟩
    go_wp2
    go_ret
    exact⟨zh (zjO HY.out).symm,hb⟩
 ·have X:Hid (¬zco len Pt Tx):=fun h=>U h.1
  go_enter Tryz.func99,Tryz.ntmps99
  go_wp2
  go_ret
  exact⟨zh (zdK X.out).symm,Below.refl _ _⟩
theorem zu6 (s p:ByteArray):Lib.hasPrefix s.data.toList p.data.toList=zb7 p s:=(Lib.hasPrefix_raw s p).symm
theorem zu7 (p t s:ByteArray) (w:World) (I:0<p.size) (J:p.size≤1048576):
  Calls Tryz.prog 100 #[.agg #[.string p,.string t],.string s] w fun e w'=>e= .returned (.bool (zaM p s))∧Below w.heap.size w w':=by
 have q:Hid (Below w.heap.size w (w.alloc (.cells #[.string p,.string t] 57))):=(Below.refl _ _).alloc (Nat.le_refl _) _
 have H:Hid (Lib.hasSuffix p.data.toList [47]=(bt p (p.size-1)==47)):=zoQ I
 have z:Hid (Lib.hasPrefix s.data.toList p.data.toList=zb7 p s):=zu6 s p
 have j:Hid (zaM p s=((p.toList==s.toList)||((bt p (p.size-1)==47)&&zb7 p s))):=rfl
 clear I
 generalize zaM p s=v at j
 generalize (bt p (p.size-1)==47)=b1 at j H
 generalize zb7 p s=b2 at j z
 cases A:(p.toList==s.toList) with
 |true=>
  rw[A] at j
  go_enter Tryz.func100,Tryz.ntmps100
  go_wp2
  go_ret
  exact⟨zh j.out.symm,q.out⟩
 |false=>
  rw[A] at j
  go_enter Tryz.func100,Tryz.ntmps100
  go_wp2_with fail
  refine (Tryz.strings_HasSuffix _ _ _ (by omega)).mono ?_
  rintro e w' ⟨rfl,rfl⟩
  rw[H.out]
  cases b1 with
  |false=>
   go_wp2
   go_ret
   exact⟨zh j.out.symm,q.out⟩
  |true=>
   go_wp2_with fail
   refine (Tryz.strings_HasPrefix _ _ _).mono ?_
   rintro e w' ⟨rfl,rfl⟩
   rw[z.out]
   go_wp2
   go_ret
   exact⟨zh j.out.symm,q.out⟩
theorem zmj (p t s:ByteArray) (w:World) (h:p.size≤s.size) (q:s.size≤1048576) (z:t.size≤1048576):
  Calls Tryz.prog 67 #[.agg #[.string p,.string t],.string s] w fun e w'=>e= .returned (.string (t++s.extract p.size s.size))∧Below w.heap.size w w':=by
 have j:Hid (Below w.heap.size w (w.alloc (.cells #[.string p,.string t] 57))):=(Below.refl _ _).alloc (Nat.le_refl _) _
 go_enter Tryz.func67,Tryz.ntmps67
 go_wp2
 go_quiet (fail)
 go_wp2
 go_ret
 exact⟨rfl,zeN j.out⟩
theorem zmk {w:World} {b i:Nat} {j:Array Value} {u:Value} {t:TypeId} (h:w.heap[b]? =some (.cells j t (0,0))):(w.setCell ⟨b,i,none⟩ u).heap[b]? =some (.cells (j.setIfInBounds i u) t (0,0)):=by
 simp only[World.setCell,Array.getElem?_modify]
 rw[if_pos trivial,h]
 rfl
theorem zi9 {w:World} {b:Nat} {v0 v1 x0 x1:Value} {t:TypeId} (h:w.heap[b]? =some (.cells #[v0,v1] t (0,0))):((w.setCell ⟨b,0,none⟩ x0).setCell ⟨b,1,none⟩ x1).heap[b]? =some (.cells #[x0,x1] t (0,0)):=by
 have e:=zmk (i:=1) (u:=x1) (zmk (i:=0) (u:=x0) h)
 rw[e]
 simp
theorem zml {w:World} {b c i:Nat} {u:Value} (h:b≠c):(w.setCell ⟨c,i,none⟩ u).heap[b]? =w.heap[b]?:=Below.heap_setCell w ⟨c,i,none⟩ u b h
theorem zmm {w:World} {b:Nat} {e:TypeId} {v0 v1:Value} (h:w.heap[b]? =some (.cells #[v0,v1] e (0,0))):w.cell? ⟨b,0,none⟩=some v0∧w.cell? ⟨b,1,none⟩=some v1:=by
 constructor<;>simp[World.cell?,h]
theorem ziA {w:World} {b:Nat} {e:TypeId} {v0 v1:Value} (h:w.heap[b]? =some (.cells #[v0,v1] e (0,0))):w.cell? ⟨b,0,none⟩=some v0∧w.cell? ⟨b,1,none⟩=some v1∧w.frozen? ⟨b,0,none⟩=false∧w.frozen? ⟨b,1,none⟩=false:=by
 refine⟨?_,?_,?_,?_⟩<;>simp[World.cell?,World.frozen?,h]
theorem zha {w W:World} {j:Nat} {o:Obj} (h:w.heap[j]? =some o) (q:Below w.heap.size w W):W.heap[j]? =some o:=(q.block j (Array.getElem?_eq_some_iff.1 h).1).trans h
def zde (len:Nat) (Pt Tx:Nat→ByteArray) (s:ByteArray):ByteArray×ByteArray:=match zaY len Pt Tx with
 |true=>zfA Pt Tx (zZ Pt s len)
 |false=>zfA Pt Tx none
theorem zu8 (a:Option Addr) (g len L:Nat) (Pt Tx:Nat→ByteArray) (s:ByteArray) (w:World) (hf:FilesAt w a g 0 len Pt Tx) (hl:len≤1048576) (hp: ∀j,j<len→(Pt j).size≤1048576) (ht: ∀j,j<len→(Tx j).size≤1048576):
  Calls Tryz.prog 66 #[.slice a len L,.string s] w fun e w'=>e= .returned (.agg #[.string (zde len Pt Tx s).1,.string (zde len Pt Tx s).2])∧Below w.heap.size w w':=by
 obtain⟨W,J⟩: ∃W,W=(w.alloc (.cells #[.string {data:=#[]},.string {data:=#[]}] 57)).alloc (.cells #[.string {data:=#[]},.string {data:=#[]}] 57):=⟨_,rfl⟩
 have HW:=zan J
 have e1:(w.alloc (.cells #[.string {data:=#[]},.string {data:=#[]}] 57)).heap.size=w.heap.size+1:=by show (w.heap.push _).size=_;simp
 have U:Hid (Below w.heap.size w W):=by
  show Below _ _ _
  rw[J]
  exact ((Below.refl _ _).alloc (Nat.le_refl _) _).alloc (by rw[e1];omega) _
 have G4:Hid (W.heap[w.heap.size]? =some (.cells #[.string {data:=#[]},.string {data:=#[]}] 57 (0,0))):=by
  show _=_
  rw[J,heap_alloc_old _ _ (by rw[e1];omega)]
  exact heap_alloc_new w _
 have G5:Hid (W.heap[w.heap.size+1]? =some (.cells #[.string {data:=#[]},.string {data:=#[]}] 57 (0,0))):=by
  show _=_
  rw[J]
  exact heap_alloc2_new w _ _
 clear J
 have Y:=zan hf
 have HP:=zan hp
 have HT:=zan ht
 clear hf hp ht
 go_enter Tryz.func66,Tryz.ntmps66
 go_wp2_with fail
 rw[←HW.out]
 clear e1
 refine (zu5 a g len L Pt Tx _ (Y.out.later U.out) hl HP.out HT.out).mono ?_
 rintro e w1 ⟨rfl,A⟩
 have B1:=zan (U.out.trans (A.mono U.out.size))
 have V:=zan (zha G4.out A)
 have X5:=zan (zha G5.out A)
 clear A G4 G5 U HW
 cases z:zaY len Pt Tx with
 |false=>
  have HV:Hid (zde len Pt Tx s=({data:=#[]},{data:=#[]})):=by show _=_;rw[zde,z];rfl
  obtain⟨X,N⟩:=zmm X5.out
  obtain⟨d0,d1,z0,z1⟩:=ziA V.out
  go_wp2
  refine bodyPost_ret (results_cell_row rfl _ _ w.heap.size 57 _ (0,0) _ rfl (zi9 V.out) Tryz.underlying57 rfl (by kernel_rfl)) rfl ?_
  exact⟨by rw[HV.out],(B1.out.setCell (Nat.le_refl _) _).setCell (Nat.le_refl _) _⟩
 |true=>
  have HV:Hid (zde len Pt Tx s=zfA Pt Tx (zZ Pt s len)):=by show _=_;rw[zde,z]
  have HR:=zan z
  clear z
  go_wp2
  go_loopw [15,7] (fun i _ wr=>∃k:Nat,k≤len∧i= .int .i64 k∧Hid (wr.heap[w.heap.size]? =some (.cells #[.string {data:=#[]},.string {data:=#[]}] 57 (0,0)))∧Hid (wr.heap[w.heap.size+1]? =some (.cells #[.string (zfA Pt Tx (zZ Pt s k)).1,.string (zfA Pt Tx (zZ Pt s k)).2] 57 (0,0)))∧Hid (Below w.heap.size w wr)) (fun i _ _=>(len-intOf i).toNat)
  case atStart=>exact⟨0,Nat.zero_le _,rfl,V,X5,B1⟩
  case round=>
   obtain⟨k,hk,rfl,O,Z,B⟩:=hrel
   clear V X5 B1
   by_cases q:k<len
   ·obtain rfl:=Y.out.addr (by omega)
    have I:=Y.out.later B.out
    have X:=I.path k q
    have N:=I.text k q
    rw[Nat.zero_add] at X N
    have aa:=HP.out k q
    clear I
    go_wp2_with fail
    refine (zu7 _ _ _ _ (zhG HR.out q) aa).mono ?_
    rintro e w2 ⟨rfl,M⟩
    obtain⟨b0,b1,H⟩:=zoC M
    have B2:=zan (B.out.trans (H.mono B.out.size))
    have Z4:=zan (zha O.out H)
    have Z5:=zan (zha Z.out H)
    clear M H O Z X N
    cases hh:zaM (Pt k) s with
    |true=>
     have HX:Hid (zZ Pt s (k+1)=some k):=zjS HR.out q hh
     obtain⟨d0,d1,z0,z1⟩:=ziA Z5.out
     go_wp2
     go_roundw
     case rel=>
      refine⟨k+1,q,by go_num,?_,?_,zan ((B2.out.setCell (by show _≤w.heap.size+1;omega) _).setCell (by show _≤w.heap.size+1;omega) _)⟩
      ·exact (zml (by omega)).trans ((zml (by omega)).trans Z4.out)
      ·show _=_
       rw[HX.out]
       exact zi9 Z5.out
     case measure=>simp[intOf];omega
    |false=>
     have HX:Hid (zZ Pt s (k+1)=zZ Pt s k):=zf2 hh
     go_wp2
     go_roundw
     case rel=>
      refine⟨k+1,q,by go_num,Z4,?_,B2⟩
      show _=_
      rw[HX.out]
      exact Z5.out
     case measure=>simp[intOf];omega
   ·obtain rfl:k=len:=by omega
    obtain⟨X,N⟩:=zmm Z.out
    obtain⟨d0,d1,z0,z1⟩:=ziA O.out
    go_wp2
    refine bodyPost_ret (results_cell_row rfl _ _ w.heap.size 57 _ (0,0) _ rfl (zi9 O.out) Tryz.underlying57 rfl (by kernel_rfl)) rfl ?_
    exact⟨by rw[HV.out],(B.out.setCell (Nat.le_refl _) _).setCell (Nat.le_refl _) _⟩
theorem zu9 (len:Nat) (Pt Tx:Nat→ByteArray) (s:ByteArray) (J: ∀j,j<len→(Tx j).size≤1048576):
  (zde len Pt Tx s=({data:=#[]},{data:=#[]})∧zT len Pt Tx s=s)∨∃p t,zde len Pt Tx s=(p,t)∧p.toList.isEmpty=false∧p.size≤s.size∧t.size≤1048576∧(40<(t.size:Int)+s.size-p.size→zT len Pt Tx s=s)∧(¬40<(t.size:Int)+s.size-p.size→zT len Pt Tx s=t++s.extract p.size s.size):=by
 cases q:zaY len Pt Tx with
 |false=>exact .inl ⟨by rw[zde,q];rfl,zf4 q⟩
 |true=>
  cases z:zZ Pt s len with
  |none=>exact .inl ⟨by rw[zde,q,z];rfl,zf5 z⟩
  |some b=>
   obtain⟨A,I⟩:=zeh z
   have H:=((zgx.1 q).2 b A).1
   rw[zb9,Bool.and_eq_true,Bool.and_eq_true,Bool.not_eq_true'] at H
   exact .inr ⟨Pt b,Tx b,by rw[zde,q,z];rfl,H.1.1,zf3 I,J b A,fun h=>zhF z h,fun h=>zg2 q z h⟩
def zmn:Prop:=∀(p t q u:ByteArray) (W:World),Sem.run Tryz.prog (binOp .neq 57 (.agg #[.string p,.string t]) (.agg #[.string q,.string u])) W= .ok (.bool (!((p.toList==q.toList)&&(t.toList==u.toList)))) W
def zmo:Prop:=∀(op:BinOp) (a b:Operand) (p t q u:ByteArray) (W:World),Sem.run Tryz.prog (eqGuard op 57 a b (.agg #[.string p,.string t]) (.agg #[.string q,.string u])) W= .ok () W
theorem ziB (s:ByteArray) (w:World) (h:s.size≤281474976710656):
  Calls Tryz.prog 68 #[.string s] w fun e w'=>e= .returned (.string s)∧Below w.heap.size w w':=by
 go_enter Tryz.func68,Tryz.ntmps68
 go_wp2_with fail
 refine (Tryz.stringslite_Clone _ _ h).mono ?_
 rintro e q ⟨rfl,j⟩
 go_wp2
 go_ret
 exact⟨rfl,j⟩
theorem zuA (Z:zmn) (Y:zmo) (a:Option Addr) (g len N:Nat) (Pt Tx:Nat→ByteArray) (s:ByteArray) (w:World) (hf:FilesAt w a g 0 len Pt Tx) (hl:len≤1048576) (hp: ∀j,j<len→(Pt j).size≤1048576) (ht: ∀j,j<len→(Tx j).size≤1048576) (hs:s.size≤1048576):
  Calls Tryz.prog 21 #[.slice a len N,.string s] w fun e w'=>e= .returned (.string (zT len Pt Tx s))∧Below w.heap.size w w':=by
 unfold zmn at Z
 unfold zmo at Y
 have C:=zu9 len Pt Tx s ht
 have M:=zan (zu8 a g len N Pt Tx s w hf hl hp ht)
 clear hf hp ht
 generalize zT len Pt Tx s=v at C
 rcases C with ⟨V,hv⟩|⟨p,t,V,he,O,U,h1,h2⟩
 ·have X:=zan hv
  rw[V] at M
  clear V hv
  go_enter Tryz.func21,Tryz.ntmps21
  go_wp2_with fail
  refine M.out.mono ?_
  rintro e w1 ⟨rfl,z⟩
  have q:=z.alloc z.size (.cells #[.string {data:=#[]},.string {data:=#[]}] 57)
  go_wp2_with fail
  refine (ziB _ _ (by omega)).mono ?_
  rintro e w2 ⟨rfl,A⟩
  go_wp2
  go_ret
  exact⟨zar X.out.symm,q.trans (A.mono q.size)⟩
 ·rw[V] at M
  clear V
  by_cases I:40<(t.size:Int)+s.size-p.size
  ·have X:=zan (h1 I)
   clear h1 h2
   go_enter Tryz.func21,Tryz.ntmps21
   go_wp2_with fail
   refine M.out.mono ?_
   rintro e w1 ⟨rfl,z⟩
   have q:=zan (z.alloc z.size (.cells #[.string p,.string t] 57))
   go_wp2_with fail
   refine (zmj _ _ _ _ O (by omega) U).mono ?_
   rintro e w2 ⟨rfl,A⟩
   have H:=zan (q.out.trans (A.mono q.out.size))
   clear A
   obtain⟨y,J⟩: ∃y,t++s.extract p.size s.size=y:=⟨_,rfl⟩
   have hz: ¬(y.size:Int)≤40:=by rw[←J,ByteArray.size_append,ByteArray.size_extract];omega
   rw[J]
   clear J
   go_wp2_with fail
   refine (ziB _ _ (by omega)).mono ?_
   rintro e w3 ⟨rfl,L⟩
   go_wp2
   go_ret
   exact⟨zar X.out.symm,H.out.trans (L.mono H.out.size)⟩
  ·have X:=zan (h2 I)
   clear h1 h2
   go_enter Tryz.func21,Tryz.ntmps21
   go_wp2_with fail
   refine M.out.mono ?_
   rintro e w1 ⟨rfl,z⟩
   have q:=zan (z.alloc z.size (.cells #[.string p,.string t] 57))
   go_wp2_with fail
   refine (zmj _ _ _ _ O (by omega) U).mono ?_
   rintro e w2 ⟨rfl,A⟩
   have H:=zan (q.out.trans (A.mono q.out.size))
   clear A
   obtain⟨y,J⟩: ∃y,t++s.extract p.size s.size=y:=⟨_,rfl⟩
   have hz:(y.size:Int)≤40:=by rw[←J,ByteArray.size_append,ByteArray.size_extract];omega
   rw[J]
   have HY:=zan J
   clear J
   go_wp2_with fail
   refine (ziB _ _ (by omega)).mono ?_
   rintro e w3 ⟨rfl,L⟩
   go_wp2
   go_ret
   exact⟨zar (by rw[X.out,HY.out]),H.out.trans (L.mono H.out.size)⟩
theorem zuB (p t q u:ByteArray) (w:World):Sem.run Tryz.prog (binOp .neq 57 (.agg #[.string p,.string t]) (.agg #[.string q,.string u])) w= .ok (.bool (!((p.toList==q.toList)&&(t.toList==u.toList)))) w:=by
 have I:=Tryz.underlying9
 have L:=Tryz.isAgg9
 have J:=Tryz.sizeOf9
 have z:Tryz.prog.underlying 57=some (.struct (Tryz.prog.fieldsOf 57)):=by kernel_rfl
 have j:Tryz.prog.stoodInHeld 57=false:=by kernel_rfl
 rw[run_neq_struct,show (10000:Nat)=9999+1 from rfl,run_equalIn_agg w 9999 57 _ _ z j]
 simp only[Program.fieldsOf,Tryz.underlying57]
 go_simp
 by_cases H:p.toList=q.toList<;>by_cases A:t.toList=u.toList<;>simp[H,A]
theorem zuC (j:BinOp) (a b:Operand) (p t q u:ByteArray) (w:World):Sem.run Tryz.prog (eqGuard j 57 a b (.agg #[.string p,.string t]) (.agg #[.string q,.string u])) w= .ok () w:=run_eqGuard_agg w j 57 a b _ _ (by kernel_rfl)
theorem ziC (a:Option Addr) (g len q:Nat) (Pt Tx:Nat→ByteArray) (s:ByteArray) (w:World) (A:FilesAt w a g 0 len Pt Tx) (H:len≤1048576) (z: ∀j,j<len→(Pt j).size≤1048576) (I: ∀j,j<len→(Tx j).size≤1048576) (J:s.size≤1048576):
  Calls Tryz.prog 21 #[.slice a len q,.string s] w fun e w'=>e= .returned (.string (zT len Pt Tx s))∧Below w.heap.size w w':=zuA zuB zuC a g len q Pt Tx s w A H z I J
theorem zmp (a:Option Addr) (len j:Nat) (w:World) (_:len≤9223372036854775807):
  Calls Tryz.prog 19 #[.slice a len j] w fun e w'=>e= .returned (.bool (decide ((1048576:Int)<len)))∧w'=w:=by
 go_enter Tryz.func19,Tryz.ntmps19
 go_wp2
 go_ret
 exact⟨rfl,rfl⟩
end Go.Proofs.YtjdddblpfbmpaaaGreat
