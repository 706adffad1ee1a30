/-
  What impl.readAgain and impl.ModOk answer: the walks.
  What l5Expr of the specification answers of a product: the walk.
  What l5Expr of the specification answers,whole. No walk is zp.
  What l5As,l5Quote,l5Imp,l5Exp and l5Stmt of the specification answer: the walks.
  What spec.Print answers: the walk.
  What spec's l4Spec answers: the walk.
  Boxes of a program under way,through calls and stores. No program is spoken of but for the numbers of its types.
  A row of pairs of names beside a program under way. No program is spoken of but for the numbers of its types.
  What spec's l4Tail answers: the walk.
-/
import Derived.Test.YtjdddblpfbmpaaaGreatCoEqMod
import Derived.Test.YtjdddblpfbmpaaaGreatCoImplParseAll
import Derived.Deep.DeepCutAuto
namespace Go.Proofs.YtjdddblpfbmpaaaGreat
set_option maxRecDepth 100000
set_option maxHeartbeats 12800000
open Go.RowKit Go.PlainAid Go.Sort
def zo9 (m:Md) (scr:Bool) (w:World) (e:Ending) (w':World):Prop:=
 ∃(t:ByteArray) (S:Sv) (n:Md) (r:Bool),PrOf (zbp m) m t∧e= .returned (.tuple #[zq S n,.bool r])∧OwnMd w' w.heap.size S n∧(r=true↔zdn t scr m)∧(r=true→n=m)∧Below w.heap.size w w'
structure RA (w:World) (base b3 gx gz gy:Nat) (S S3:Sv) (m n:Md) (z0 z1 z2 z3 z4:Value) (W:World):Prop where
 x:W.heap[gx]? =some (.cells #[.slice S.rq.a m.rq.length S.rq.cap,.slice S.im.a m.im.length S.im.cap,.slice S.ep.a m.ep.length S.ep.cap,.slice S.st.a m.st.length S.st.cap,.slice S.ex.a m.ex.length S.ex.cap] 36 (0,0))
 z:W.heap[gz]? =some (.cells #[z0,z1,z2,z3,z4] 36 (0,0))
 y:W.heap[gy]? =some (.cells #[.slice S3.rq.a n.rq.length S3.rq.cap,.slice S3.im.a n.im.length S3.im.cap,.slice S3.ep.a n.ep.length S3.ep.cap,.slice S3.st.a n.st.length S3.st.cap,.slice S3.ex.a n.ex.length S3.ex.cap] 36 (0,0))
 om:OwnMd W base S m
 on':OwnMd W b3 S3 n
 bel:Below w.heap.size w W
 hz:w.heap.size≤gz
 hx:gx≠gz
 hy:gy≠gz
variable {w W W':World} {base b3 gx gz gy:Nat} {S S3:Sv} {m n:Md} {z0 z1 z2 z3 z4:Value}
theorem RA.later (h:RA w base b3 gx gz gy S S3 m n z0 z1 z2 z3 z4 W) (j:Below W.heap.size W W'):RA w base b3 gx gz gy S S3 m n z0 z1 z2 z3 z4 W':=
 ⟨(j.block _ (Array.getElem?_eq_some_iff.1 h.x).1).trans h.x,(j.block _ (Array.getElem?_eq_some_iff.1 h.z).1).trans h.z,(j.block _ (Array.getElem?_eq_some_iff.1 h.y).1).trans h.y,h.om.later j,h.on'.later j,h.bel.trans (j.mono h.bel.size),h.hz,h.hx,h.hy⟩
theorem ziV {W:World} {b c:Nat} (j q z w n:Value) (h:b≠c):(((((W.setCell ⟨c,0,none⟩ j).setCell ⟨c,1,none⟩ q).setCell ⟨c,2,none⟩ z).setCell ⟨c,3,none⟩ w).setCell ⟨c,4,none⟩ n).heap[b]? =W.heap[b]?:=by
 rw[heap_setCell_other _ _ _ _ h,heap_setCell_other _ _ _ _ h,heap_setCell_other _ _ _ _ h,heap_setCell_other _ _ _ _ h,heap_setCell_other _ _ _ _ h]
theorem RA.store (h:RA w base b3 gx gz gy S S3 m n z0 z1 z2 z3 z4 W) (j A E D q:Value):RA w base b3 gx gz gy S S3 m n j A E D q (((((W.setCell ⟨gz,0,none⟩ j).setCell ⟨gz,1,none⟩ A).setCell ⟨gz,2,none⟩ E).setCell ⟨gz,3,none⟩ D).setCell ⟨gz,4,none⟩ q):=
 ⟨(ziV _ _ _ _ _ h.hx).trans h.x,zcJ h.z,(ziV _ _ _ _ _ h.hy).trans h.y,zhG (o:=0) h.om ⟨_,h.z⟩,zhG (o:=0) h.on' ⟨_,h.z⟩,zcS h.bel h.hz _ _ _ _ _,h.hz,h.hx,h.hy⟩
theorem zoA (base:Nat) (S:Sv) (m:Md) (O:Bool) (w:World) (h:OwnMd w base S m) (hm:Small m) (aa:Tree m→(zbp m).size≤4294967296):
  Calls Tryz.prog 40 #[zq S m,.bool O] w (zo9 m O w):=by
 have HH:=zc h
 have SM:=zc hm
 have HU:=zc aa
 have SF:Hid (zdJ m):=hm.few
 clear h hm aa
 unfold zq
 go_enter Tryz.func40,Tryz.ntmps40
 go_upto_region 1 with fail
 have e1:(w.alloc (.cells #[.slice S.rq.a m.rq.length S.rq.cap,.slice S.im.a m.im.length S.im.cap,.slice S.ep.a m.ep.length S.ep.cap,.slice S.st.a m.st.length S.st.cap,.slice S.ex.a m.ex.length S.ex.cap] 36)).heap.size=w.heap.size+1:=zk _ _
 have D:Hid (Below w.heap.size w ((w.alloc (.cells #[.slice S.rq.a m.rq.length S.rq.cap,.slice S.im.a m.im.length S.im.cap,.slice S.ep.a m.ep.length S.ep.cap,.slice S.st.a m.st.length S.st.cap,.slice S.ex.a m.ex.length S.ex.cap] 36)).alloc (.cells #[.slice none 0 0,.slice none 0 0,.slice none 0 0,.slice none 0 0,.slice none 0 0] 36))):=((Below.refl _ _).alloc (Nat.le_refl _) _).alloc (by rw[e1];omega) _
 refine zac (R:=fun W=>W.heap[w.heap.size]? =some (.cells #[.slice S.rq.a m.rq.length S.rq.cap,.slice S.im.a m.im.length S.im.cap,.slice S.ep.a m.ep.length S.ep.cap,.slice S.st.a m.st.length S.st.cap,.slice S.ex.a m.ex.length S.ex.cap] 36 (0,0))∧W.heap[w.heap.size+1]? =some (.cells #[.slice none 0 0,.slice none 0 0,.slice none 0 0,.slice none 0 0,.slice none 0 0] 36 (0,0))∧OwnMd W base S m∧Below w.heap.size w W) ⟨(heap_alloc_old _ _ (by rw[e1];omega)).trans (heap_alloc_new w _),heap_alloc2_new w _ _,HH.out.later D.out,D.out⟩ ?_
 obtain⟨gx,V⟩: ∃gx,gx=w.heap.size:=⟨_,rfl⟩
 obtain⟨gz,ab⟩: ∃gz,gz=w.heap.size+1:=⟨_,rfl⟩
 rw[←ab,←V]
 rintro w1 ⟨hx,hz,ho,j⟩
 rw[V] at j
 have N:Hid (gx≠gz∧w.heap.size≤gz):=⟨by omega,by omega⟩
 clear V ab D HH e1
 have X1:=zc hx
 have Z1:=zc hz
 have O1:=zc ho
 have Y:=zc j
 clear hx hz ho j
 obtain⟨c0,c1,c2,c3,c4,cf⟩:=zi X1.out
 go_wp2_with fail
 refine (zmW base S m O w1 O1.out SM.out (fun t=>Nat.le_trans (HU.out t) (by omega))).mono ?_
 rintro e w2 ⟨I,j⟩
 obtain⟨t,X,rfl⟩:=I.form
 have PR:=zc X
 have ht:=X.size HU.out
 have X2:=zc ((j.block _ (Array.getElem?_eq_some_iff.1 X1.out).1).trans X1.out)
 have Z2:=zc ((j.block _ (Array.getElem?_eq_some_iff.1 Z1.out).1).trans Z1.out)
 have O2:=zc (O1.out.later j)
 have M:=zc (Y.out.trans (j.mono Y.out.size))
 clear I X j c0 c1 c2 c3 c4 cf X1 Z1 O1 Y
 go_wp2_with fail
 refine (zo8 t O w2 ht).mono ?_
 rintro e E ⟨I,j⟩
 have X3:=zc ((j.block _ (Array.getElem?_eq_some_iff.1 X2.out).1).trans X2.out)
 have Z:=zc ((j.block _ (Array.getElem?_eq_some_iff.1 Z2.out).1).trans Z2.out)
 have O3:=zc (O2.out.later j)
 have J:=zc (M.out.trans (j.mono M.out.size))
 have ad:=(Array.getElem?_eq_some_iff.1 Z2.out).1
 clear j X2 Z2 O2
 rcases I.md with ⟨q,S3,n,hy,hn,rfl,U,ac⟩|⟨p,hy,rfl⟩
 ·have OK:=zc (zh6 (m:=m) hy hn)
  have O4:=zc U
  have K:gz<E.heap.size:=(Array.getElem?_eq_some_iff.1 Z.out).1
  clear I hy hn U ac
  unfold zq
  go_upto_region 2 with fail
  have D:Hid (Below E.heap.size E (E.alloc (.cells #[.slice S3.rq.a n.rq.length S3.rq.cap,.slice S3.im.a n.im.length S3.im.cap,.slice S3.ep.a n.ep.length S3.ep.cap,.slice S3.st.a n.st.length S3.st.cap,.slice S3.ex.a n.ex.length S3.ex.cap] 36))):=(Below.refl _ _).alloc (Nat.le_refl _) _
  refine zac (R:=RA w base w2.heap.size gx gz E.heap.size S S3 m n (.slice none 0 0) (.slice none 0 0) (.slice none 0 0) (.slice none 0 0) (.slice none 0 0)) ⟨(D.out.block _ (Array.getElem?_eq_some_iff.1 X3.out).1).trans X3.out,(D.out.block _ K).trans Z.out,heap_alloc_new E _,O3.out.later D.out,O4.out.later D.out,J.out.trans (D.out.mono J.out.size),N.out.2,N.out.1,by omega⟩ ?_
  obtain⟨gy,L⟩: ∃gy,gy=E.heap.size:=⟨_,rfl⟩
  rw[←L]
  intro w4 h4
  have H:=zc h4
  clear h4 L D X3 Z O3 O4 J K
  obtain⟨c0,c1,c2,c3,c4,cf⟩:=zi H.out.x
  obtain⟨d0,d1,d2,d3,d4,df⟩:=zi H.out.y
  obtain⟨k0,k1,k2,k3,k4,kf⟩:=zi H.out.z
  go_region_with (go_at_call 91;first|(refine ((zhF base w2.heap.size S S3 m n _ (H.out.later (Below.refl _ _).drew).om (H.out.later (Below.refl _ _).drew).on' SF.out)).mono ?_;rintro e w5 ⟨⟨r,rfl,hr⟩,j⟩;have A:=zc ((H.out.later (Below.refl _ _).drew).later j);have HR:=zc hr;clear hr j;obtain⟨a0,a1,a2,a3,a4,af⟩:=zi A.out.x;obtain⟨b0,b1,b2,b3,b4,bf⟩:=zi A.out.y;obtain⟨l0,l1,l2,l3,l4,lf⟩:=zi A.out.z)|(refine ((zhF base w2.heap.size S S3 m n _ ((H.out.later (Below.refl _ _).drew).store ..).om ((H.out.later (Below.refl _ _).drew).store ..).on' SF.out)).mono ?_;rintro e w5 ⟨⟨r,rfl,hr⟩,j⟩;have A:=zc (((H.out.later (Below.refl _ _).drew).store ..).later j);have HR:=zc hr;clear hr j;obtain⟨a0,a1,a2,a3,a4,af⟩:=zi A.out.x;obtain⟨b0,b1,b2,b3,b4,bf⟩:=zi A.out.y;obtain⟨l0,l1,l2,l3,l4,lf⟩:=zi A.out.z))
  all_goals
   go_wp2
   first
   |(refine bodyPost_ret (zay rfl _ _ gz 36 _ (0,0) _ rfl (A.out.store ..).z Tryz.underlying36 rfl (by kernel_rfl)) rfl ?_
     exact⟨t,S3,n,r,PR.out,rfl,((A.out.store ..).on').low M.out.size,HR.out.trans (Iff.trans ⟨Eq.symm,Eq.symm⟩ OK.out.symm),fun k=>(HR.out.1 k).symm,(A.out.store ..).bel⟩)
   |(refine bodyPost_ret (zay rfl _ _ gz 36 _ (0,0) _ rfl A.out.z Tryz.underlying36 rfl (by kernel_rfl)) rfl ?_
     exact⟨t,S3,n,r,PR.out,rfl,A.out.on'.low M.out.size,HR.out.trans (Iff.trans ⟨Eq.symm,Eq.symm⟩ OK.out.symm),fun k=>(HR.out.1 k).symm,A.out.bel⟩)
 ·have NO:=zc (zh5 (m:=m) hy)
  have K:gz<E.heap.size:=(Array.getElem?_eq_some_iff.1 Z.out).1
  clear I hy
  go_upto_region 2 with fail
  have D:Hid (Below E.heap.size E (E.alloc (.cells #[.slice none 0 0,.slice none 0 0,.slice none 0 0,.slice none 0 0,.slice none 0 0] 36))):=(Below.refl _ _).alloc (Nat.le_refl _) _
  refine zac (R:=RA w base w2.heap.size gx gz E.heap.size S S0 m md0 (.slice none 0 0) (.slice none 0 0) (.slice none 0 0) (.slice none 0 0) (.slice none 0 0)) ⟨(D.out.block _ (Array.getElem?_eq_some_iff.1 X3.out).1).trans X3.out,(D.out.block _ K).trans Z.out,heap_alloc_new E _,O3.out.later D.out,zht _ _,J.out.trans (D.out.mono J.out.size),N.out.2,N.out.1,by omega⟩ ?_
  obtain⟨gy,L⟩: ∃gy,gy=E.heap.size:=⟨_,rfl⟩
  rw[←L]
  intro w4 h4
  have H:=zc h4
  clear h4 L D X3 Z O3 J K
  obtain⟨c0,c1,c2,c3,c4,cf⟩:=zi H.out.x
  obtain⟨d0,d1,d2,d3,d4,df⟩:=zi (v0:=.slice none 0 0) (v1:=.slice none 0 0) (v2:=.slice none 0 0) (v3:=.slice none 0 0) (v4:=.slice none 0 0) H.out.y
  obtain⟨k0,k1,k2,k3,k4,kf⟩:=zi H.out.z
  have A:=zc ((H.out.store (.slice none 0 0) (.slice none 0 0) (.slice none 0 0) (.slice none 0 0) (.slice none 0 0)).later (Below.refl _ _).drew)
  have ae:((p:Int)== -1)=false:=beq_eq_false_iff_ne.2 (by omega)
  go_region_with (fail)
  all_goals
   go_wp2
   go_simp
   refine bodyPost_ret (zay rfl _ _ gz 36 _ (0,0) _ rfl A.out.z Tryz.underlying36 rfl (by kernel_rfl)) rfl ?_
   exact⟨t,S0,md0,false,PR.out,rfl,zht _ _,⟨fun k=>(by cases k),fun k=>absurd k NO.out⟩,fun k=>(by cases k),A.out.bel⟩
theorem zoB (base:Nat) (S:Sv) (m:Md) (j:Bool) (w:World) (h:OwnMd w base S m) (E:Small m) (q:Tree m→(zbp m).size≤4294967296):
  Calls Tryz.prog 9 #[zq S m,.bool j] w fun e K=>zh4 (zbp m) m j e∧Below w.heap.size w K:=by
 have A:Hid (Below w.heap.size w (w.alloc (.cells #[.slice S.rq.a m.rq.length S.rq.cap,.slice S.im.a m.im.length S.im.cap,.slice S.ep.a m.ep.length S.ep.cap,.slice S.st.a m.st.length S.st.cap,.slice S.ex.a m.ex.length S.ex.cap] 36))):=(Below.refl _ _).alloc (Nat.le_refl _) _
 have z:=zc (zoA base S m j _ (h.later A.out) E q)
 clear h E q
 unfold zq at z ⊢
 go_enter Tryz.func9,Tryz.ntmps9
 go_wp2_with fail
 refine z.out.mono ?_
 rintro e N ⟨t,O,n,r,D,rfl,_,I,_,J⟩
 have L:=zc D
 have M:=zc I
 have H:=zc (A.out.trans (J.mono A.out.size))
 clear D I J z
 unfold zq
 go_wp2
 go_ret
 exact⟨⟨t,L.out,r,rfl,M.out⟩,H.out.alloc H.out.size _⟩
theorem zoC (q g:Nat) (S:Sv) (m:Md) (i n j:Nat) (k E:Int) (A H:ByteArray) (w:World) (J:S.ex.a=some ⟨g,0,none⟩) (h:OwnMd w q S m) (hi:i<m.ex.length) (ac:g<w.heap.size) (c0:w.cell? ⟨g,i*6,none⟩=some (.int .i64 k)) (c1:w.cell? ⟨g,i*6+1,none⟩=some (.int .i64 E)) (c2:w.cell? ⟨g,i*6+2,none⟩=some (.string A)) (c3:w.cell? ⟨g,i*6+3,none⟩=some (.string H)) (c4:w.cell? ⟨g,i*6+4,none⟩=some (.int .i64 (n:Int))) (c5:w.cell? ⟨g,i*6+5,none⟩=some (.int .i64 (j:Int))) (k1:(k==1)=false) (k2:(k==2)=false) (k3:(k==3)=false) (k4:(k==4)=false) (k5:(k==5)=false) (k6:(k==6)=false) (k7:(k==7)=false) (k8:(k==8)=true) (O:(zC (zK (m.ex.getD n zf).kind) (prX m.ex n)++tStar++zC (zR (m.ex.getD j zf).kind) (prX m.ex j)).size≤1099511627776) (he:zdL q S m i) (hl:n<i) (hr:j<i) (ae:wt m.ex n≤1099511627776) (ah:wt m.ex j≤1099511627776):
  Calls Tryz.prog 117 #[zq S m,.int .i64 i] w fun e w'=>e= .returned (.string (zC (zK (m.ex.getD n zf).kind) (prX m.ex n)++tStar++zC (zR (m.ex.getD j zf).kind) (prX m.ex j)))∧Below w.heap.size w w':=by
 have al:(i:Int)<(m.ex.length:Int):=by omega
 have HA:Hid (OwnMd ((w.alloc (.cells #[.slice S.rq.a m.rq.length S.rq.cap,.slice S.im.a m.im.length S.im.cap,.slice S.ep.a m.ep.length S.ep.cap,.slice S.st.a m.st.length S.st.cap,.slice (some ⟨g,0,none⟩) m.ex.length S.ex.cap] 36)).alloc (.cells #[.int .i64 k,.int .i64 E,.string A,.string H,.int .i64 (n:Int),.int .i64 (j:Int)] 109)) q S m):=(h.alloc _).alloc _
 have HE:=zc he
 have I:Hid (zq S m= .agg #[.slice S.rq.a m.rq.length S.rq.cap,.slice S.im.a m.im.length S.im.cap,.slice S.ep.a m.ep.length S.ep.cap,.slice S.st.a m.st.length S.st.cap,.slice (some ⟨g,0,none⟩) m.ex.length S.ex.cap]):=by show _=_;rw[zq,J]
 have am:(n:Int)<(m.ex.length:Int):=by omega
 have an:(j:Int)<(m.ex.length:Int):=by omega
 obtain⟨g2,hg2,-,d0,-,-,-,-,-⟩:=h.expr (i:=j) (by omega)
 have eg:g2=g:=by have:=hg2.symm.trans J;simpa using this
 rw[eg] at d0
 obtain⟨Z,M⟩: ∃Z,(m.ex.getD j zf).kind=Z:=⟨_,rfl⟩
 rw[M] at d0
 have ab:=zc M
 obtain⟨tl,N⟩: ∃tl,zC (zK (m.ex.getD n zf).kind) (prX m.ex n)=tl:=⟨_,rfl⟩
 obtain⟨tr,V⟩: ∃tr,zC (zR (m.ex.getD j zf).kind) (prX m.ex j)=tr:=⟨_,rfl⟩
 rw[N,V] at O
 have aa:=zc N
 have U:=zc V
 obtain⟨kl,L⟩: ∃kl,(m.ex.getD n zf).kind=kl:=⟨_,rfl⟩
 have cK: ∀d D,Calls Tryz.prog 155 #[.agg #[.slice S.rq.a m.rq.length S.rq.cap,.slice S.im.a m.im.length S.im.cap,.slice S.ep.a m.ep.length S.ep.cap,.slice S.st.a m.st.length S.st.cap,.slice (some ⟨g,0,none⟩) m.ex.length S.ex.cap],.int .i64 (n:Int)] (grow (redrawn ((w.alloc (.cells #[.slice S.rq.a m.rq.length S.rq.cap,.slice S.im.a m.im.length S.im.cap,.slice S.ep.a m.ep.length S.ep.cap,.slice S.st.a m.st.length S.st.cap,.slice (some ⟨g,0,none⟩) m.ex.length S.ex.cap] 36)).alloc (.cells #[.int .i64 k,.int .i64 E,.string A,.string H,.int .i64 (n:Int),.int .i64 (j:Int)] 109)) d) D) fun e z=>e= .returned (.bool (zK kl))∧∃p:Regrown,z=grow (redrawn ((w.alloc (.cells #[.slice S.rq.a m.rq.length S.rq.cap,.slice S.im.a m.im.length S.im.cap,.slice S.ep.a m.ep.length S.ep.cap,.slice S.st.a m.st.length S.st.cap,.slice (some ⟨g,0,none⟩) m.ex.length S.ex.cap] 36)).alloc (.cells #[.int .i64 k,.int .i64 E,.string A,.string H,.int .i64 (n:Int),.int .i64 (j:Int)] 109)) p.d) p.os:=fun d D=>Calls.regrown_of (by rw[←I.out,←L];exact zfY q S m n _ (HA.out.later (below_regrown _ d D)) (by omega))
 have cL: ∀d D,Calls Tryz.prog 154 #[.agg #[.slice S.rq.a m.rq.length S.rq.cap,.slice S.im.a m.im.length S.im.cap,.slice S.ep.a m.ep.length S.ep.cap,.slice S.st.a m.st.length S.st.cap,.slice (some ⟨g,0,none⟩) m.ex.length S.ex.cap],.int .i64 (n:Int),.bool (zK kl)] (grow (redrawn ((w.alloc (.cells #[.slice S.rq.a m.rq.length S.rq.cap,.slice S.im.a m.im.length S.im.cap,.slice S.ep.a m.ep.length S.ep.cap,.slice S.st.a m.st.length S.st.cap,.slice (some ⟨g,0,none⟩) m.ex.length S.ex.cap] 36)).alloc (.cells #[.int .i64 k,.int .i64 E,.string A,.string H,.int .i64 (n:Int),.int .i64 (j:Int)] 109)) d) D) fun e z=>e= .returned (.string tl)∧∃p:Regrown,z=grow (redrawn ((w.alloc (.cells #[.slice S.rq.a m.rq.length S.rq.cap,.slice S.im.a m.im.length S.im.cap,.slice S.ep.a m.ep.length S.ep.cap,.slice S.st.a m.st.length S.st.cap,.slice (some ⟨g,0,none⟩) m.ex.length S.ex.cap] 36)).alloc (.cells #[.int .i64 k,.int .i64 E,.string A,.string H,.int .i64 (n:Int),.int .i64 (j:Int)] 109)) p.d) p.os:=fun d D=>Calls.regrown_of (by rw[←I.out,←aa.out,L];exact zfg q S m i n _ _ HE.out (by omega) (by omega) (HA.out.later (below_regrown _ d D)) ae)
 have cS: ∀d D,Calls Tryz.prog 115 #[.int .i64 Z] (grow (redrawn ((w.alloc (.cells #[.slice S.rq.a m.rq.length S.rq.cap,.slice S.im.a m.im.length S.im.cap,.slice S.ep.a m.ep.length S.ep.cap,.slice S.st.a m.st.length S.st.cap,.slice (some ⟨g,0,none⟩) m.ex.length S.ex.cap] 36)).alloc (.cells #[.int .i64 k,.int .i64 E,.string A,.string H,.int .i64 (n:Int),.int .i64 (j:Int)] 109)) d) D) fun e z=>e= .returned (.bool (zR Z))∧∃p:Regrown,z=grow (redrawn ((w.alloc (.cells #[.slice S.rq.a m.rq.length S.rq.cap,.slice S.im.a m.im.length S.im.cap,.slice S.ep.a m.ep.length S.ep.cap,.slice S.st.a m.st.length S.st.cap,.slice (some ⟨g,0,none⟩) m.ex.length S.ex.cap] 36)).alloc (.cells #[.int .i64 k,.int .i64 E,.string A,.string H,.int .i64 (n:Int),.int .i64 (j:Int)] 109)) p.d) p.os:=fun d D=>Calls.regrown_of ((zhP Z _).mono (by rintro e w' ⟨rfl,rfl⟩;exact⟨rfl,Below.refl _ _⟩))
 have cR: ∀d D,Calls Tryz.prog 154 #[.agg #[.slice S.rq.a m.rq.length S.rq.cap,.slice S.im.a m.im.length S.im.cap,.slice S.ep.a m.ep.length S.ep.cap,.slice S.st.a m.st.length S.st.cap,.slice (some ⟨g,0,none⟩) m.ex.length S.ex.cap],.int .i64 (j:Int),.bool (zR Z)] (grow (redrawn ((w.alloc (.cells #[.slice S.rq.a m.rq.length S.rq.cap,.slice S.im.a m.im.length S.im.cap,.slice S.ep.a m.ep.length S.ep.cap,.slice S.st.a m.st.length S.st.cap,.slice (some ⟨g,0,none⟩) m.ex.length S.ex.cap] 36)).alloc (.cells #[.int .i64 k,.int .i64 E,.string A,.string H,.int .i64 (n:Int),.int .i64 (j:Int)] 109)) d) D) fun e z=>e= .returned (.string tr)∧∃p:Regrown,z=grow (redrawn ((w.alloc (.cells #[.slice S.rq.a m.rq.length S.rq.cap,.slice S.im.a m.im.length S.im.cap,.slice S.ep.a m.ep.length S.ep.cap,.slice S.st.a m.st.length S.st.cap,.slice (some ⟨g,0,none⟩) m.ex.length S.ex.cap] 36)).alloc (.cells #[.int .i64 k,.int .i64 E,.string A,.string H,.int .i64 (n:Int),.int .i64 (j:Int)] 109)) p.d) p.os:=fun d D=>Calls.regrown_of (by rw[←I.out,←U.out,ab.out];exact zfg q S m i j _ _ HE.out (by omega) (by omega) (HA.out.later (below_regrown _ d D)) ah)
 have X:Hid (Six ((w.alloc (.cells #[.slice S.rq.a m.rq.length S.rq.cap,.slice S.im.a m.im.length S.im.cap,.slice S.ep.a m.ep.length S.ep.cap,.slice S.st.a m.st.length S.st.cap,.slice (some ⟨g,0,none⟩) m.ex.length S.ex.cap] 36)).alloc (.cells #[.int .i64 k,.int .i64 E,.string A,.string H,.int .i64 (n:Int),.int .i64 (j:Int)] 109)) (w.heap.size+1) (.int .i64 k) (.int .i64 E) (.string A) (.string H) (.int .i64 (n:Int)) (.int .i64 (j:Int))):=zu (new2 w _ _)
 have Y:=zc (zi (zca (o':=.cells #[.int .i64 k,.int .i64 E,.string A,.string H,.int .i64 (n:Int),.int .i64 (j:Int)] 109) (heap_alloc_new w (.cells #[.slice S.rq.a m.rq.length S.rq.cap,.slice S.im.a m.im.length S.im.cap,.slice S.ep.a m.ep.length S.ep.cap,.slice S.st.a m.st.length S.st.cap,.slice (some ⟨g,0,none⟩) m.ex.length S.ex.cap] 36))))
 have D0:Hid (((w.alloc (.cells #[.slice S.rq.a m.rq.length S.rq.cap,.slice S.im.a m.im.length S.im.cap,.slice S.ep.a m.ep.length S.ep.cap,.slice S.st.a m.st.length S.st.cap,.slice (some ⟨g,0,none⟩) m.ex.length S.ex.cap] 36)).alloc (.cells #[.int .i64 k,.int .i64 E,.string A,.string H,.int .i64 (n:Int),.int .i64 (j:Int)] 109)).cell? ⟨g,j*6,none⟩=some (.int .i64 Z)):=by show _=_;rw[World.cell?_alloc_past _ _ _ (by rw[zk];omega),World.cell?_alloc_past _ _ _ ac];exact d0
 simp only[ByteArray.size_append] at O
 have af:tStar.size=3:=rfl
 have aj:tl.size≤1099511627776:=by omega
 have ak:tr.size≤1099511627776:=by omega
 have HV:Hid ((zC (zK (m.ex.getD n zf).kind) (prX m.ex n)++tStar++zC (zR (m.ex.getD j zf).kind) (prX m.ex j))=tl++tStar++tr):=by show _=_;rw[aa.out,U.out]
 unfold zq
 rw[J]
 clear J h HA HE I aa U N V M ab hg2 he O af d0 eg L
 go_enter Tryz.func117,Tryz.ntmps117
 go_wp2_with fail
 have x0:=cell_regrown X.out.c0
 have x4:=cell_regrown X.out.c4
 have x5:=cell_regrown X.out.c5
 have y0:=cell_regrown Y.out.1
 have y1:=cell_regrown Y.out.2.1
 have y2:=cell_regrown Y.out.2.2.1
 have y3:=cell_regrown Y.out.2.2.2.1
 have y4:=cell_regrown Y.out.2.2.2.2.1
 have e0:=cell_regrown D0.out
 refine wp_region_quiet_below (by kernel_rfl) (by kernel_rfl) ?_
 repeat (go_big_quiet_step (first|with_reducible exact cL _ _|with_reducible exact cS _ _|with_reducible exact cR _ _|with_reducible exact cK _ _))
 refine wpQuiet_nil ?_
 intro w1 ad
 obtain⟨⟨dq,ai⟩,K⟩:=ad
 have ag:Hid (Below w.heap.size w w1):=by show Below _ _ _;rw[K];exact (zaJ w _ _).trans ((below_regrown _ _ _).mono (by rw[zk,zk];omega))
 clear K
 go_wp2
 go_ret
 exact⟨zaD HV.out.symm,ag.out⟩
theorem zfu (b:Bool) (t:ByteArray):t.size≤(zC b t).size:=by
 unfold zC
 split
 ·rw[ByteArray.size_append,ByteArray.size_append]
  omega
 ·exact Nat.le_refl _
theorem zoD (A:Nat) (S:Sv) (m:Md) (hn:zaR m.ex) (ha:zbd m.ex) (n:Nat):zdL A S m n:=by
 induction n with
 |zero=>intro i w D;omega
 |succ n ih=>
  intro i w ac D h j
  by_cases aa:i<n
  ·exact ih i w aa D h j
  ·have he:zdL A S m i:=by
    have:i=n:=by omega
    rw[this]
    exact ih
   obtain⟨g,z,q,U,K,M,N,L,O⟩:=h.expr D
   have ab:=hn (m.ex.getD i zf) (by rw[zdd D];exact List.getElem_mem D)
   have X:=zeI ha (i:=i)
   unfold wt at j
   rw[zf9 ha] at j ⊢
   generalize m.ex.getD i zf=x at*
   by_cases E:(x.kind==1)=true
   ·rw[if_pos E]
    exact zlY g S m i _ _ _ _ _ _ w z D q U K M N L O E ab
   rw[if_neg E] at j ⊢
   by_cases I:(x.kind==2)=true
   ·rw[if_pos I]
    exact zlZ g S m i _ _ _ _ _ _ w z D q U K M N L O (by simpa using E) I
   rw[if_neg I] at j ⊢
   by_cases J:(x.kind==3)=true
   ·rw[if_pos J] at j ⊢
    exact zma g S m i _ _ _ _ _ _ w z D q U K M N L O (by simpa using E) (by simpa using I) J j
   rw[if_neg J] at j ⊢
   by_cases V:(x.kind==4)=true
   ·rw[if_pos V] at j ⊢
    exact zmb g S m i _ _ _ _ _ _ w z D q U K M N L O (by simpa using E) (by simpa using I) (by simpa using J) V j
   rw[if_neg V] at j ⊢
   by_cases Y:(x.kind==5)=true
   ·rw[if_pos Y] at j ⊢
    exact zmc g S m i _ _ _ _ _ _ w z D q U K M N L O (by simpa using E) (by simpa using I) (by simpa using J) (by simpa using V) Y j
   rw[if_neg Y] at j ⊢
   by_cases Z:(x.kind==6)=true
   ·rw[if_pos Z] at j ⊢
    obtain⟨h1,h2,h3,h4⟩:=X (zbn (.inl Z))
    have H:=j
    rw[ByteArray.size_append,ByteArray.size_append] at H
    have s2:=zfu (zK (m.ex.getD x.r.toNat zf).kind) (prX m.ex x.r.toNat)
    exact zme A g S m i x.l.toNat x.r.toNat _ _ _ _ w z h D q U K M N (by rw[L,Int.toNat_of_nonneg h1]) (by rw[O,Int.toNat_of_nonneg h3]) (by simpa using E) (by simpa using I) (by simpa using J) (by simpa using V) (by simpa using Y) Z j he (by omega) (by omega) (by unfold wt;omega) (by unfold wt;omega)
   rw[if_neg Z] at j ⊢
   by_cases k7:(x.kind==7)=true
   ·rw[if_pos k7] at j ⊢
    obtain⟨h1,h2,h3,h4⟩:=X (zbn (.inr (.inl k7)))
    have H:=j
    rw[ByteArray.size_append,ByteArray.size_append] at H
    have s2:=zfu (zK (m.ex.getD x.r.toNat zf).kind) (prX m.ex x.r.toNat)
    exact zmf A g S m i x.l.toNat x.r.toNat _ _ _ _ w z h D q U K M N (by rw[L,Int.toNat_of_nonneg h1]) (by rw[O,Int.toNat_of_nonneg h3]) (by simpa using E) (by simpa using I) (by simpa using J) (by simpa using V) (by simpa using Y) (by simpa using Z) k7 j he (by omega) (by omega) (by unfold wt;omega) (by unfold wt;omega)
   rw[if_neg k7] at j ⊢
   by_cases k8:(x.kind==8)=true
   ·rw[if_pos k8] at j ⊢
    obtain⟨h1,h2,h3,h4⟩:=X (zbn (.inr (.inr k8)))
    have H:=j
    rw[ByteArray.size_append,ByteArray.size_append] at H
    have s1:=zfu (zK (m.ex.getD x.l.toNat zf).kind) (prX m.ex x.l.toNat)
    have s2:=zfu (zR (m.ex.getD x.r.toNat zf).kind) (prX m.ex x.r.toNat)
    exact zoC A g S m i x.l.toNat x.r.toNat _ _ _ _ w z h D q U K M N (by rw[L,Int.toNat_of_nonneg h1]) (by rw[O,Int.toNat_of_nonneg h3]) (by simpa using E) (by simpa using I) (by simpa using J) (by simpa using V) (by simpa using Y) (by simpa using Z) (by simpa using k7) k8 j he (by omega) (by omega) (by unfold wt;omega) (by unfold wt;omega)
   rw[if_neg k8] at j ⊢
   exact zmd g S m i _ _ _ _ _ _ w z D q U K M N L O (by simpa using E) (by simpa using I) (by simpa using J) (by simpa using V) (by simpa using Y) (by simpa using Z) (by simpa using k7) (by simpa using k8)
theorem zdv (j:Nat) (S:Sv) (m:Md) (i:Nat) (w:World) (D:zaR m.ex) (z:zbd m.ex) (A:i<m.ex.length) (h:OwnMd w j S m) (n:wt m.ex i≤1099511627776):
  Calls Tryz.prog 117 #[zq S m,.int .i64 i] w fun e q=>e= .returned (.string (prX m.ex i))∧Below w.heap.size w q:=zoD j S m D z (i+1) i w (Nat.lt_succ_self i) A h n
theorem zgs (a b:ByteArray) (w:World) (q:a.size≤1099511627776) (z:b.size≤1099511627776):Calls Tryz.prog 116 #[.string a,.string b] w fun e n=>e= .returned (.string (asT a b))∧n=w:=by
 cases h:(a.toList==b.toList) with
 |true=>
  have j:Hid (asT a b=a):=by show _=_;rw[asT,h];rfl
  go_enter Tryz.func116,Tryz.ntmps116
  go_wp2
  go_ret
  exact⟨zaD j.out.symm,rfl⟩
 |false=>
  have j:Hid (asT a b=a++({data:=#[32,97,115,32]}:ByteArray)++b):=by show _=_;rw[asT,h];rfl
  go_enter Tryz.func116,Tryz.ntmps116
  go_wp2
  go_ret
  exact⟨zaD j.out.symm,rfl⟩
theorem zfv (s:ByteArray) (w:World) (n:s.size≤1099511627776):Calls Tryz.prog 81 #[.string s] w fun e j=>e= .returned (.string (zaq s))∧j=w:=by
 have h:Hid (zaq s=({data:=#[34]}:ByteArray)++s++({data:=#[34]}:ByteArray)):=rfl
 go_enter Tryz.func81,Tryz.ntmps81
 go_wp2
 go_ret
 exact⟨zaD h.out.symm,rfl⟩
theorem zgt (s:ByteArray):(zaq s).size=s.size+2:=by
 rw[zaq,ByteArray.size_append,ByteArray.size_append]
 show 1+s.size+1=_
 omega
theorem ziW (a b:ByteArray):(asT a b).size≤a.size+b.size+4:=by
 unfold asT
 split
 ·omega
 ·rw[ByteArray.size_append,ByteArray.size_append]
  show a.size+4+b.size≤_
  omega
theorem zoE (x:Im) (w:World) (h1:x.spec.size≤4294967296) (h2:x.first.size≤4294967296) (h3:x.loc.size≤4294967296):Calls Tryz.prog 82 #[imV x] w fun e I=>e= .returned (.string (zU x))∧Below w.heap.size w I:=by
 obtain⟨Y,q⟩: ∃t,zaq x.spec=t:=⟨_,rfl⟩
 obtain⟨at',hat⟩: ∃t,asT x.first x.loc=t:=⟨_,rfl⟩
 have U:=zgt x.spec
 have ha:=ziW x.first x.loc
 rw[q] at U
 rw[hat] at ha
 have ab:Y.size≤8589934592:=by omega
 have aa:at'.size≤17179869184:=by omega
 have L:=zc q
 have AT:=zc hat
 have K: ∀d E,Calls Tryz.prog 81 #[.string x.spec] (grow (redrawn (w.alloc (.cells #[.string x.spec,.string x.first,.string x.loc] 84)) d) E) fun e z=>e= .returned (.string Y)∧∃p:Regrown,z=grow (redrawn (w.alloc (.cells #[.string x.spec,.string x.first,.string x.loc] 84)) p.d) p.os:=fun d E=>Calls.regrown_of (by rw[←q];exact (zfv x.spec _ (by omega)).mono (by rintro e I ⟨rfl,rfl⟩;exact⟨rfl,Below.refl _ _⟩))
 have J: ∀d E,Calls Tryz.prog 116 #[.string x.first,.string x.loc] (grow (redrawn (w.alloc (.cells #[.string x.spec,.string x.first,.string x.loc] 84)) d) E) fun e z=>e= .returned (.string at')∧∃p:Regrown,z=grow (redrawn (w.alloc (.cells #[.string x.spec,.string x.first,.string x.loc] 84)) p.d) p.os:=fun d E=>Calls.regrown_of (by rw[←hat];exact (zgs x.first x.loc _ (by omega) (by omega)).mono (by rintro e I ⟨rfl,rfl⟩;exact⟨rfl,Below.refl _ _⟩))
 have X:=zc (zbq (heap_alloc_new w (.cells #[.string x.spec,.string x.first,.string x.loc] 84)))
 clear q hat U ha
 unfold imV
 cases M:(x.first.toList==[42]) with
 |true=>
  have H:Hid (zU x=({data:=#[105,109,112,111,114,116,32,42,32,97,115,32]}:ByteArray)++x.loc++({data:=#[32,102,114,111,109,32]}:ByteArray)++zaq x.spec++({data:=#[59,10]}:ByteArray)):=by show _=_;rw[zU,M];rfl
  go_enter Tryz.func82,Tryz.ntmps82
  go_wp2_with fail
  have Z:=cell_regrown X.out.1
  have O:=cell_regrown X.out.2.1
  have y2:=cell_regrown X.out.2.2.1
  refine wp_region_quiet_below (by kernel_rfl) (by kernel_rfl) ?_
  repeat (go_big_quiet_step (first|with_reducible exact K _ _|with_reducible exact J _ _))
  refine wpQuiet_nil ?_
  intro A j
  obtain⟨⟨N,D⟩,h⟩:=j
  have n:Hid (Below w.heap.size w A):=by show Below _ _ _;rw[h];exact ((Below.refl _ _).alloc (Nat.le_refl _) _).trans ((below_regrown _ _ _).mono (by rw[zk];omega))
  clear h
  go_wp2
  go_ret
  exact⟨zaD (by rw[H.out,L.out]),n.out⟩
 |false=>
  cases V:(x.first.toList==[100,101,102,97,117,108,116]) with
  |true=>
   have H:Hid (zU x=({data:=#[105,109,112,111,114,116,32]}:ByteArray)++x.loc++({data:=#[32,102,114,111,109,32]}:ByteArray)++zaq x.spec++({data:=#[59,10]}:ByteArray)):=by show _=_;rw[zU,M,V];rfl
   go_enter Tryz.func82,Tryz.ntmps82
   go_wp2_with fail
   have Z:=cell_regrown X.out.1
   have O:=cell_regrown X.out.2.1
   have y2:=cell_regrown X.out.2.2.1
   refine wp_region_quiet_below (by kernel_rfl) (by kernel_rfl) ?_
   repeat (go_big_quiet_step (first|with_reducible exact K _ _|with_reducible exact J _ _))
   refine wpQuiet_nil ?_
   intro A j
   obtain⟨⟨N,D⟩,h⟩:=j
   have n:Hid (Below w.heap.size w A):=by show Below _ _ _;rw[h];exact ((Below.refl _ _).alloc (Nat.le_refl _) _).trans ((below_regrown _ _ _).mono (by rw[zk];omega))
   clear h
   go_wp2
   go_ret
   exact⟨zaD (by rw[H.out,L.out]),n.out⟩
  |false=>
   have H:Hid (zU x=({data:=#[105,109,112,111,114,116,32,123,32]}:ByteArray)++asT x.first x.loc++({data:=#[32,125,32,102,114,111,109,32]}:ByteArray)++zaq x.spec++({data:=#[59,10]}:ByteArray)):=by show _=_;rw[zU,M,V];rfl
   go_enter Tryz.func82,Tryz.ntmps82
   go_wp2_with fail
   have Z:=cell_regrown X.out.1
   have O:=cell_regrown X.out.2.1
   have y2:=cell_regrown X.out.2.2.1
   refine wp_region_quiet_below (by kernel_rfl) (by kernel_rfl) ?_
   repeat (go_big_quiet_step (first|with_reducible exact K _ _|with_reducible exact J _ _))
   refine wpQuiet_nil ?_
   intro A j
   obtain⟨⟨N,D⟩,h⟩:=j
   have n:Hid (Below w.heap.size w A):=by show Below _ _ _;rw[h];exact ((Below.refl _ _).alloc (Nat.le_refl _) _).trans ((below_regrown _ _ _).mono (by rw[zk];omega))
   clear h
   go_wp2
   go_ret
   exact⟨zaD (by rw[H.out,L.out,AT.out]),n.out⟩
theorem zoF (x:Ep) (w:World) (h1:x.spec.size≤4294967296) (h2:x.name.size≤4294967296) (h3:x.loc.size≤4294967296):Calls Tryz.prog 83 #[epV x] w fun e n=>e= .returned (.string (zaW x))∧Below w.heap.size w n:=by
 obtain⟨J,h⟩: ∃t,zaq x.spec=t:=⟨_,rfl⟩
 obtain⟨at',hat⟩: ∃t,asT x.loc x.name=t:=⟨_,rfl⟩
 have N:=zgt x.spec
 have V:=ziW x.loc x.name
 rw[h] at N
 rw[hat] at V
 have ab:J.size≤8589934592:=by omega
 have aa:at'.size≤17179869184:=by omega
 have U:=zc h
 have Y:=zc hat
 have cQ: ∀d A,Calls Tryz.prog 81 #[.string x.spec] (grow (redrawn (w.alloc (.cells #[.int .i64 x.kind,.string x.name,.string x.loc,.string x.spec] 86)) d) A) fun e q=>e= .returned (.string J)∧∃p:Regrown,q=grow (redrawn (w.alloc (.cells #[.int .i64 x.kind,.string x.name,.string x.loc,.string x.spec] 86)) p.d) p.os:=fun d A=>Calls.regrown_of (by rw[←h];exact (zfv x.spec _ (by omega)).mono (by rintro e n ⟨rfl,rfl⟩;exact⟨rfl,Below.refl _ _⟩))
 have cA: ∀d A,Calls Tryz.prog 116 #[.string x.loc,.string x.name] (grow (redrawn (w.alloc (.cells #[.int .i64 x.kind,.string x.name,.string x.loc,.string x.spec] 86)) d) A) fun e q=>e= .returned (.string at')∧∃p:Regrown,q=grow (redrawn (w.alloc (.cells #[.int .i64 x.kind,.string x.name,.string x.loc,.string x.spec] 86)) p.d) p.os:=fun d A=>Calls.regrown_of (by rw[←hat];exact (zgs x.loc x.name _ (by omega) (by omega)).mono (by rintro e n ⟨rfl,rfl⟩;exact⟨rfl,Below.refl _ _⟩))
 have M: ∀w:World,Calls Tryz.prog 81 #[.string x.spec] w fun e n=>e= .returned (.string J)∧n=w:=fun w=>by rw[←h];exact zfv x.spec w (by omega)
 have I: ∀w:World,Calls Tryz.prog 116 #[.string x.loc,.string x.name] w fun e n=>e= .returned (.string at')∧n=w:=fun w=>by rw[←hat];exact zgs x.loc x.name w (by omega) (by omega)
 have X:=zc (zcT (heap_alloc_new w (.cells #[.int .i64 x.kind,.string x.name,.string x.loc,.string x.spec] 86)))
 clear h hat N V
 unfold epV
 cases L:(x.kind==3) with
 |true=>
  have E:Hid (zaW x=({data:=#[101,120,112,111,114,116,32,42,32,102,114,111,109,32]}:ByteArray)++zaq x.spec++({data:=#[59,10]}:ByteArray)):=by show _=_;rw[zaW,L];rfl
  go_enter Tryz.func83,Tryz.ntmps83
  go_wp2_with fail
  refine (M _).mono ?_
  rintro e z ⟨rfl,D⟩
  rw[D]
  clear D z
  go_wp2
  go_ret
  exact⟨zaD (by rw[E.out,U.out]),(Below.refl _ _).alloc (Nat.le_refl _) _⟩
 |false=>
  cases O:(x.kind==2) with
  |true=>
   have E:Hid (zaW x=({data:=#[101,120,112,111,114,116,32,123,32]}:ByteArray)++asT x.loc x.name++({data:=#[32,125,32,102,114,111,109,32]}:ByteArray)++zaq x.spec++({data:=#[59,10]}:ByteArray)):=by show _=_;rw[zaW,L,O];rfl
   go_enter Tryz.func83,Tryz.ntmps83
   go_wp2_with fail
   have y0:=cell_regrown X.out.1
   have y1:=cell_regrown X.out.2.1
   have y2:=cell_regrown X.out.2.2.1
   have y3:=cell_regrown X.out.2.2.2.1
   refine wp_region_quiet_below (by kernel_rfl) (by kernel_rfl) ?_
   repeat (go_big_quiet_step (first|with_reducible exact cQ _ _|with_reducible exact cA _ _))
   refine wpQuiet_nil ?_
   intro z H
   obtain⟨⟨dq,Z⟩,j⟩:=H
   have K:Hid (Below w.heap.size w z):=by show Below _ _ _;rw[j];exact ((Below.refl _ _).alloc (Nat.le_refl _) _).trans ((below_regrown _ _ _).mono (by rw[zk];omega))
   clear j
   go_wp2
   go_ret
   exact⟨zaD (by rw[E.out,U.out,Y.out]),K.out⟩
  |false=>
   have E:Hid (zaW x=({data:=#[101,120,112,111,114,116,32,123,32]}:ByteArray)++asT x.loc x.name++({data:=#[32,125,59,10]}:ByteArray)):=by show _=_;rw[zaW,L,O];rfl
   go_enter Tryz.func83,Tryz.ntmps83
   go_wp2_with fail
   refine (I _).mono ?_
   rintro e z ⟨rfl,D⟩
   rw[D]
   clear D z
   go_wp2
   go_ret
   exact⟨zaD (by rw[E.out,Y.out]),(Below.refl _ _).alloc (Nat.le_refl _) _⟩
theorem zoG (j:Nat) (S:Sv) (m:Md) (k:Int) (n:ByteArray) (i:Nat) (w:World) (h:OwnMd w j S m) (M:i<m.ex.length) (N:zaR m.ex) (V:zbd m.ex) (E:wt m.ex i≤1099511627776) (_:n.size≤4294967296) (H:(k==1)=true) (L:(n.toList==[42,100,101,102,97,117,108,116])=true):
  Calls Tryz.prog 84 #[zq S m,.agg #[.int .i64 k,.string n,.int .i64 (i:Int)]] w fun e J=>e= .returned (.string (zav k n (prX m.ex i)))∧Below w.heap.size w J:=by
 have U:=zc h
 have X:Hid (zav k n (prX m.ex i)=({data:=#[101,120,112,111,114,116,32,100,101,102,97,117,108,116,32]}:ByteArray)++prX m.ex i++({data:=#[59,10]}:ByteArray)):=by show _=_;rw[zav,H,L];rfl
 have q:=E
 unfold wt at q
 have O:=zc (And.intro (zca (o':=.cells #[.int .i64 k,.string n,.int .i64 (i:Int)] 107) (heap_alloc_new w (.cells #[.slice S.rq.a m.rq.length S.rq.cap,.slice S.im.a m.im.length S.im.cap,.slice S.ep.a m.ep.length S.ep.cap,.slice S.st.a m.st.length S.st.cap,.slice S.ex.a m.ex.length S.ex.cap] 36))) (new2 w (.cells #[.slice S.rq.a m.rq.length S.rq.cap,.slice S.im.a m.im.length S.im.cap,.slice S.ep.a m.ep.length S.ep.cap,.slice S.st.a m.st.length S.st.cap,.slice S.ex.a m.ex.length S.ex.cap] 36) (.cells #[.int .i64 k,.string n,.int .i64 (i:Int)] 107)))
 clear h
 unfold zq
 go_enter Tryz.func84,Tryz.ntmps84
 go_wp2_with fail
 refine (zdv j S m i _ N V M ((U.out.alloc _).alloc _) E).mono ?_
 rintro e I ⟨rfl,A⟩
 have K:Hid (Below w.heap.size w I):=(zaJ w _ _).trans (A.mono (by rw[zk,zk];omega))
 have D:=zc ((A.block _ (by rw[zk,zk];omega)).trans O.out.2)
 obtain⟨c0,Z,c2,cf⟩:=zbq D.out
 clear A
 obtain⟨t,z⟩: ∃t,prX m.ex i=t:=⟨_,rfl⟩
 rw[z] at q ⊢
 have Y:=zc z
 clear z
 go_wp2
 go_ret
 exact⟨zaD (by rw[X.out,Y.out]),K.out⟩
theorem zoH (j:Nat) (S:Sv) (m:Md) (k:Int) (n:ByteArray) (i:Nat) (w:World) (h:OwnMd w j S m) (M:i<m.ex.length) (N:zaR m.ex) (V:zbd m.ex) (E:wt m.ex i≤1099511627776) (hs:n.size≤4294967296) (H:(k==1)=true) (L:(n.toList==[42,100,101,102,97,117,108,116])=false):
  Calls Tryz.prog 84 #[zq S m,.agg #[.int .i64 k,.string n,.int .i64 (i:Int)]] w fun e J=>e= .returned (.string (zav k n (prX m.ex i)))∧Below w.heap.size w J:=by
 have U:=zc h
 have X:Hid (zav k n (prX m.ex i)=({data:=#[108,101,116,32]}:ByteArray)++n++({data:=#[32,61,32]}:ByteArray)++prX m.ex i++({data:=#[59,10]}:ByteArray)):=by show _=_;rw[zav,H,L];rfl
 have q:=E
 unfold wt at q
 have O:=zc (And.intro (zca (o':=.cells #[.int .i64 k,.string n,.int .i64 (i:Int)] 107) (heap_alloc_new w (.cells #[.slice S.rq.a m.rq.length S.rq.cap,.slice S.im.a m.im.length S.im.cap,.slice S.ep.a m.ep.length S.ep.cap,.slice S.st.a m.st.length S.st.cap,.slice S.ex.a m.ex.length S.ex.cap] 36))) (new2 w (.cells #[.slice S.rq.a m.rq.length S.rq.cap,.slice S.im.a m.im.length S.im.cap,.slice S.ep.a m.ep.length S.ep.cap,.slice S.st.a m.st.length S.st.cap,.slice S.ex.a m.ex.length S.ex.cap] 36) (.cells #[.int .i64 k,.string n,.int .i64 (i:Int)] 107)))
 clear h
 unfold zq
 go_enter Tryz.func84,Tryz.ntmps84
 go_wp2_with fail
 refine (zdv j S m i _ N V M ((U.out.alloc _).alloc _) E).mono ?_
 rintro e I ⟨rfl,A⟩
 have K:Hid (Below w.heap.size w I):=(zaJ w _ _).trans (A.mono (by rw[zk,zk];omega))
 have D:=zc ((A.block _ (by rw[zk,zk];omega)).trans O.out.2)
 obtain⟨c0,Z,c2,cf⟩:=zbq D.out
 clear A
 obtain⟨t,z⟩: ∃t,prX m.ex i=t:=⟨_,rfl⟩
 rw[z] at q ⊢
 have Y:=zc z
 clear z
 go_wp2
 go_ret
 exact⟨zaD (by rw[X.out,Y.out]),K.out⟩
theorem zoI (j:Nat) (S:Sv) (m:Md) (k:Int) (n:ByteArray) (i:Nat) (w:World) (h:OwnMd w j S m) (L:i<m.ex.length) (M:zaR m.ex) (V:zbd m.ex) (E:wt m.ex i≤1099511627776) (hs:n.size≤4294967296) (H:(k==1)=false) (N:(k==2)=true):
  Calls Tryz.prog 84 #[zq S m,.agg #[.int .i64 k,.string n,.int .i64 (i:Int)]] w fun e J=>e= .returned (.string (zav k n (prX m.ex i)))∧Below w.heap.size w J:=by
 have U:=zc h
 have X:Hid (zav k n (prX m.ex i)=({data:=#[102,117,110,99,116,105,111,110,32]}:ByteArray)++n++({data:=#[40,41,32,123,32,114,101,116,117,114,110,32]}:ByteArray)++prX m.ex i++({data:=#[59,32,125,10]}:ByteArray)):=by show _=_;rw[zav,H,N];rfl
 have q:=E
 unfold wt at q
 have O:=zc (And.intro (zca (o':=.cells #[.int .i64 k,.string n,.int .i64 (i:Int)] 107) (heap_alloc_new w (.cells #[.slice S.rq.a m.rq.length S.rq.cap,.slice S.im.a m.im.length S.im.cap,.slice S.ep.a m.ep.length S.ep.cap,.slice S.st.a m.st.length S.st.cap,.slice S.ex.a m.ex.length S.ex.cap] 36))) (new2 w (.cells #[.slice S.rq.a m.rq.length S.rq.cap,.slice S.im.a m.im.length S.im.cap,.slice S.ep.a m.ep.length S.ep.cap,.slice S.st.a m.st.length S.st.cap,.slice S.ex.a m.ex.length S.ex.cap] 36) (.cells #[.int .i64 k,.string n,.int .i64 (i:Int)] 107)))
 clear h
 unfold zq
 go_enter Tryz.func84,Tryz.ntmps84
 go_wp2_with fail
 refine (zdv j S m i _ M V L ((U.out.alloc _).alloc _) E).mono ?_
 rintro e I ⟨rfl,A⟩
 have K:Hid (Below w.heap.size w I):=(zaJ w _ _).trans (A.mono (by rw[zk,zk];omega))
 have D:=zc ((A.block _ (by rw[zk,zk];omega)).trans O.out.2)
 obtain⟨c0,Z,c2,cf⟩:=zbq D.out
 clear A
 obtain⟨t,z⟩: ∃t,prX m.ex i=t:=⟨_,rfl⟩
 rw[z] at q ⊢
 have Y:=zc z
 clear z
 go_wp2
 go_ret
 exact⟨zaD (by rw[X.out,Y.out]),K.out⟩
theorem zoJ (j:Nat) (S:Sv) (m:Md) (k:Int) (n:ByteArray) (i:Nat) (w:World) (h:OwnMd w j S m) (M:i<m.ex.length) (N:zaR m.ex) (X:zbd m.ex) (E:wt m.ex i≤1099511627776) (hs:n.size≤4294967296) (H:(k==1)=false) (O:(k==2)=false) (K:(k==3)=true):
  Calls Tryz.prog 84 #[zq S m,.agg #[.int .i64 k,.string n,.int .i64 (i:Int)]] w fun e J=>e= .returned (.string (zav k n (prX m.ex i)))∧Below w.heap.size w J:=by
 have V:=zc h
 have Y:Hid (zav k n (prX m.ex i)=n++({data:=#[32,61,32]}:ByteArray)++prX m.ex i++({data:=#[59,10]}:ByteArray)):=by show _=_;rw[zav,H,O,K];rfl
 have q:=E
 unfold wt at q
 have U:=zc (And.intro (zca (o':=.cells #[.int .i64 k,.string n,.int .i64 (i:Int)] 107) (heap_alloc_new w (.cells #[.slice S.rq.a m.rq.length S.rq.cap,.slice S.im.a m.im.length S.im.cap,.slice S.ep.a m.ep.length S.ep.cap,.slice S.st.a m.st.length S.st.cap,.slice S.ex.a m.ex.length S.ex.cap] 36))) (new2 w (.cells #[.slice S.rq.a m.rq.length S.rq.cap,.slice S.im.a m.im.length S.im.cap,.slice S.ep.a m.ep.length S.ep.cap,.slice S.st.a m.st.length S.st.cap,.slice S.ex.a m.ex.length S.ex.cap] 36) (.cells #[.int .i64 k,.string n,.int .i64 (i:Int)] 107)))
 clear h
 unfold zq
 go_enter Tryz.func84,Tryz.ntmps84
 go_wp2_with fail
 refine (zdv j S m i _ N X M ((V.out.alloc _).alloc _) E).mono ?_
 rintro e I ⟨rfl,A⟩
 have L:Hid (Below w.heap.size w I):=(zaJ w _ _).trans (A.mono (by rw[zk,zk];omega))
 have D:=zc ((A.block _ (by rw[zk,zk];omega)).trans U.out.2)
 obtain⟨c0,c1,c2,cf⟩:=zbq D.out
 clear A
 obtain⟨t,z⟩: ∃t,prX m.ex i=t:=⟨_,rfl⟩
 rw[z] at q ⊢
 have Z:=zc z
 clear z
 go_wp2
 go_ret
 exact⟨zaD (by rw[Y.out,Z.out]),L.out⟩
theorem zoK (j:Nat) (S:Sv) (m:Md) (k:Int) (n:ByteArray) (i:Nat) (w:World) (h:OwnMd w j S m) (M:i<m.ex.length) (N:zaR m.ex) (X:zbd m.ex) (E:wt m.ex i≤1099511627776) (_:n.size≤4294967296) (H:(k==1)=false) (O:(k==2)=false) (K:(k==3)=false) (Z:(k==4)=true):
  Calls Tryz.prog 84 #[zq S m,.agg #[.int .i64 k,.string n,.int .i64 (i:Int)]] w fun e J=>e= .returned (.string (zav k n (prX m.ex i)))∧Below w.heap.size w J:=by
 have V:=zc h
 have Y:Hid (zav k n (prX m.ex i)=({data:=#[112,114,105,110,116,40]}:ByteArray)++prX m.ex i++({data:=#[41,59,10]}:ByteArray)):=by show _=_;rw[zav,H,O,K,Z];rfl
 have q:=E
 unfold wt at q
 have U:=zc (And.intro (zca (o':=.cells #[.int .i64 k,.string n,.int .i64 (i:Int)] 107) (heap_alloc_new w (.cells #[.slice S.rq.a m.rq.length S.rq.cap,.slice S.im.a m.im.length S.im.cap,.slice S.ep.a m.ep.length S.ep.cap,.slice S.st.a m.st.length S.st.cap,.slice S.ex.a m.ex.length S.ex.cap] 36))) (new2 w (.cells #[.slice S.rq.a m.rq.length S.rq.cap,.slice S.im.a m.im.length S.im.cap,.slice S.ep.a m.ep.length S.ep.cap,.slice S.st.a m.st.length S.st.cap,.slice S.ex.a m.ex.length S.ex.cap] 36) (.cells #[.int .i64 k,.string n,.int .i64 (i:Int)] 107)))
 clear h
 unfold zq
 go_enter Tryz.func84,Tryz.ntmps84
 go_wp2_with fail
 refine (zdv j S m i _ N X M ((V.out.alloc _).alloc _) E).mono ?_
 rintro e I ⟨rfl,A⟩
 have L:Hid (Below w.heap.size w I):=(zaJ w _ _).trans (A.mono (by rw[zk,zk];omega))
 have D:=zc ((A.block _ (by rw[zk,zk];omega)).trans U.out.2)
 obtain⟨c0,c1,c2,cf⟩:=zbq D.out
 clear A
 obtain⟨t,z⟩: ∃t,prX m.ex i=t:=⟨_,rfl⟩
 rw[z] at q ⊢
 have HT:=zc z
 clear z
 go_wp2
 go_ret
 exact⟨zaD (by rw[Y.out,HT.out]),L.out⟩
theorem zoL (j:Nat) (S:Sv) (m:Md) (k:Int) (n:ByteArray) (i:Nat) (w:World) (h:OwnMd w j S m) (O:i<m.ex.length) (U:zaR m.ex) (Y:zbd m.ex) (E:wt m.ex i≤1099511627776) (_:n.size≤4294967296) (H:(k==1)=false) (V:(k==2)=false) (L:(k==3)=false) (k4:(k==4)=false) (N:(k==5)=true):
  Calls Tryz.prog 84 #[zq S m,.agg #[.int .i64 k,.string n,.int .i64 (i:Int)]] w fun e J=>e= .returned (.string (zav k n (prX m.ex i)))∧Below w.heap.size w J:=by
 have X:=zc h
 have Z:Hid (zav k n (prX m.ex i)=({data:=#[116,104,114,111,119,32]}:ByteArray)++prX m.ex i++({data:=#[59,10]}:ByteArray)):=by show _=_;rw[zav,H,V,L,k4,N];rfl
 have q:=E
 unfold wt at q
 have HX:=zc (And.intro (zca (o':=.cells #[.int .i64 k,.string n,.int .i64 (i:Int)] 107) (heap_alloc_new w (.cells #[.slice S.rq.a m.rq.length S.rq.cap,.slice S.im.a m.im.length S.im.cap,.slice S.ep.a m.ep.length S.ep.cap,.slice S.st.a m.st.length S.st.cap,.slice S.ex.a m.ex.length S.ex.cap] 36))) (new2 w (.cells #[.slice S.rq.a m.rq.length S.rq.cap,.slice S.im.a m.im.length S.im.cap,.slice S.ep.a m.ep.length S.ep.cap,.slice S.st.a m.st.length S.st.cap,.slice S.ex.a m.ex.length S.ex.cap] 36) (.cells #[.int .i64 k,.string n,.int .i64 (i:Int)] 107)))
 clear h
 unfold zq
 go_enter Tryz.func84,Tryz.ntmps84
 go_wp2_with fail
 refine (zdv j S m i _ U Y O ((X.out.alloc _).alloc _) E).mono ?_
 rintro e I ⟨rfl,A⟩
 have M:Hid (Below w.heap.size w I):=(zaJ w _ _).trans (A.mono (by rw[zk,zk];omega))
 have D:=zc ((A.block _ (by rw[zk,zk];omega)).trans HX.out.2)
 obtain⟨c0,c1,c2,cf⟩:=zbq D.out
 clear A
 obtain⟨t,z⟩: ∃t,prX m.ex i=t:=⟨_,rfl⟩
 rw[z] at q ⊢
 have K:=zc z
 clear z
 go_wp2
 go_ret
 exact⟨zaD (by rw[Z.out,K.out]),M.out⟩
theorem zoM (j:Nat) (S:Sv) (m:Md) (k:Int) (n:ByteArray) (i:Nat) (w:World) (h:OwnMd w j S m) (O:i<m.ex.length) (U:zaR m.ex) (Y:zbd m.ex) (E:wt m.ex i≤1099511627776) (_:n.size≤4294967296) (H:(k==1)=false) (V:(k==2)=false) (L:(k==3)=false) (k4:(k==4)=false) (N:(k==5)=false):
  Calls Tryz.prog 84 #[zq S m,.agg #[.int .i64 k,.string n,.int .i64 (i:Int)]] w fun e J=>e= .returned (.string (zav k n (prX m.ex i)))∧Below w.heap.size w J:=by
 have X:=zc h
 have Z:Hid (zav k n (prX m.ex i)=({data:=#[102,97,105,108,32]}:ByteArray)++prX m.ex i++({data:=#[59,10]}:ByteArray)):=by show _=_;rw[zav,H,V,L,k4,N];rfl
 have q:=E
 unfold wt at q
 have HX:=zc (And.intro (zca (o':=.cells #[.int .i64 k,.string n,.int .i64 (i:Int)] 107) (heap_alloc_new w (.cells #[.slice S.rq.a m.rq.length S.rq.cap,.slice S.im.a m.im.length S.im.cap,.slice S.ep.a m.ep.length S.ep.cap,.slice S.st.a m.st.length S.st.cap,.slice S.ex.a m.ex.length S.ex.cap] 36))) (new2 w (.cells #[.slice S.rq.a m.rq.length S.rq.cap,.slice S.im.a m.im.length S.im.cap,.slice S.ep.a m.ep.length S.ep.cap,.slice S.st.a m.st.length S.st.cap,.slice S.ex.a m.ex.length S.ex.cap] 36) (.cells #[.int .i64 k,.string n,.int .i64 (i:Int)] 107)))
 clear h
 unfold zq
 go_enter Tryz.func84,Tryz.ntmps84
 go_wp2_with fail
 refine (zdv j S m i _ U Y O ((X.out.alloc _).alloc _) E).mono ?_
 rintro e I ⟨rfl,A⟩
 have M:Hid (Below w.heap.size w I):=(zaJ w _ _).trans (A.mono (by rw[zk,zk];omega))
 have D:=zc ((A.block _ (by rw[zk,zk];omega)).trans HX.out.2)
 obtain⟨c0,c1,c2,cf⟩:=zbq D.out
 clear A
 obtain⟨t,z⟩: ∃t,prX m.ex i=t:=⟨_,rfl⟩
 rw[z] at q ⊢
 have K:=zc z
 clear z
 go_wp2
 go_ret
 exact⟨zaD (by rw[Z.out,K.out]),M.out⟩
theorem zoN (j:Nat) (S:Sv) (m:Md) (k:Int) (n:ByteArray) (i:Nat) (w:World) (h:OwnMd w j S m) (E:i<m.ex.length) (H:zaR m.ex) (A:zbd m.ex) (z:wt m.ex i≤1099511627776) (D:n.size≤4294967296):
  Calls Tryz.prog 84 #[zq S m,.agg #[.int .i64 k,.string n,.int .i64 (i:Int)]] w fun e N=>e= .returned (.string (zav k n (prX m.ex i)))∧Below w.heap.size w N:=by
 cases q:(k==1) with
 |true=>
  cases L:(n.toList==[42,100,101,102,97,117,108,116]) with
  |true=>exact zoG j S m k n i w h E H A z D q L
  |false=>exact zoH j S m k n i w h E H A z D q L
 |false=>
  cases I:(k==2) with
  |true=>exact zoI j S m k n i w h E H A z D q I
  |false=>
   cases J:(k==3) with
   |true=>exact zoJ j S m k n i w h E H A z D q I J
   |false=>
    cases K:(k==4) with
    |true=>exact zoK j S m k n i w h E H A z D q I J K
    |false=>
     cases M:(k==5) with
     |true=>exact zoL j S m k n i w h E H A z D q I J K M
     |false=>exact zoM j S m k n i w h E H A z D q I J K M
theorem zfw {α:Type} {l:List α} {j:Nat} (h:j<l.length): ∃x,l[j]? =some x:=⟨_,List.getElem?_eq_getElem h⟩
theorem zoO (t:ByteArray):t++sNone=t:=by
 cases t with
 |mk d=>
  show ByteArray.append _ _=_
  simp[ByteArray.append]
theorem zoP (m:Md):(acc (stF m.ex) m.st (zb7 m)).size≤(zbP m).size:=Nat.le_refl _
theorem ziX (m:Md):(acc epF m.ep (acc zU m.im (acc rqT m.rq sNone))).size≤(zbP m).size:=zdm _ _ _
theorem ziY (m:Md):(acc zU m.im (acc rqT m.rq sNone)).size≤(zbP m).size:=Nat.le_trans (zdm _ _ _) (ziX m)
theorem zoQ (m:Md):(acc rqT m.rq sNone).size≤(zbP m).size:=Nat.le_trans (zdm _ _ _) (ziY m)
theorem zoR (k:Int) (n e:ByteArray):e.size≤(zav k n e).size:=by
 unfold zav
 repeat (first|split|(simp only[ByteArray.size_append];omega))
theorem zoS (N:Nat) (S:Sv) (m:Md) (ay:Bool) (w:World) (h:OwnMd w N S m) (hm:Small m) (al:Tree m→(zbP m).size≤1099511627776):
  Calls Tryz.prog 33 #[zq S m,.bool ay] w fun e w'=>PrintOut (zbP m) m e∧Below w.heap.size w w':=by
 have HH:=zc h
 have SM:=zc hm
 have HU:=zc al
 obtain⟨f1,f2,f3,f4,f5⟩:=hm.few
 clear h hm al
 unfold zq
 go_enter Tryz.func33,Tryz.ntmps33
 go_wp2_with fail
 refine (zmk N S m _ (HH.out.alloc _) f5 f4).mono ?_
 rintro e w1 ⟨⟨b,rfl,H⟩,af⟩
 have HT:=zc H
 have ai:Hid (Below w.heap.size w w1):=((Below.refl _ _).alloc (Nat.le_refl _) _).trans (af.mono (by rw[zk];omega))
 have am:Hid (w1.heap[w.heap.size]? =some (.cells #[.slice S.rq.a m.rq.length S.rq.cap,.slice S.im.a m.im.length S.im.cap,.slice S.ep.a m.ep.length S.ep.cap,.slice S.st.a m.st.length S.st.cap,.slice S.ex.a m.ex.length S.ex.cap] 36 (0,0))):=(af.block _ (by rw[zk];omega)).trans (heap_alloc_new w _)
 have aq:=zc (HH.out.later ai.out)
 clear H af
 obtain⟨c0,c1,c2,c3,c4,cf⟩:=zi am.out
 cases b with
 |false=>
  go_wp2
  go_ret
  exact⟨.inr ⟨(fun t=>by have:=HT.out.2 t;cases this),rfl⟩,ai.out⟩
 |true=>
  have TR:=zc (HT.out.1 rfl)
  have HZ:=zc (HU.out TR.out)
  go_wp2
  go_loopg [5,6] m.rq.length (fun k t i wr=>∃(j:Nat) (E:ByteArray),i= .int .i64 j∧t= .string E∧j+k=m.rq.length∧E=acc rqT (m.rq.take j) sNone∧OwnMd wr N S m∧wr.heap[w.heap.size]? =some (.cells #[.slice S.rq.a m.rq.length S.rq.cap,.slice S.im.a m.im.length S.im.cap,.slice S.ep.a m.ep.length S.ep.cap,.slice S.st.a m.st.length S.st.cap,.slice S.ex.a m.ex.length S.ex.cap] 36 (0,0))∧Below w.heap.size w wr)
  case atStart=>exact⟨0,_,rfl,rfl,by omega,rfl,aq.out,am.out,ai.out⟩
  case round=>
   obtain⟨j,E,rfl,rfl,hj,K,ho,hx,H⟩:=hrel
   have n:=zc K
   have X:=zc ho
   have U:=zc hx
   have Z:=zc H
   clear K ho hx H c0 c1 c2 c3 c4 cf
   obtain⟨c0,c1,c2,c3,c4,cf⟩:=zi U.out
   have aa:=(Array.getElem?_eq_some_iff.1 U.out).1
   by_cases V:j<m.rq.length
   ·have M:(j:Int)<(m.rq.length:Int):=by omega
    obtain⟨x,z⟩:=zfw V
    have A:=List.mem_of_getElem? z
    have HS:=zc (zbO rqT z sNone)
    have q:=zcV rqT m.rq (j+1) sNone
    rw[HS.out,←n.out,ByteArray.size_append] at q
    have I:(acc rqT m.rq sNone).size≤1099511627776:=Nat.le_trans (zoQ m) HZ.out
    obtain⟨O,L⟩: ∃O,O=j+1:=⟨_,rfl⟩
    have ej:(j:Int)+1=(O:Int):=by omega
    have HJ:=zc L
    clear L
    have ah:E.size≤1099511627776:=by omega
    obtain⟨g,hg,hc⟩:=X.out.rq.text V
    rw[hg] at c0
    have ak:m.rq.getD j sNone=x:=by rw[List.getD,z];rfl
    rw[ak] at hc
    clear hg ak
    have aC:=SM.out.rq x A
    obtain⟨qt,ag⟩: ∃t,zaq x=t:=⟨_,rfl⟩
    have ao:=zgt x
    rw[ag] at ao
    have aA:qt.size≤8589934592:=by omega
    have QT:=zc ag
    clear ag ao q I z A
    go_wp2_with fail
    refine (zfv x _ (by omega)).mono ?_
    rintro e w2 ⟨rfl,hw⟩
    rw[hw,QT.out]
    clear hw w2
    go_wp2
    go_roundg (gk-1)
    case rel=>exact⟨O,_,rfl,rfl,by have:=HJ.out;omega,by rw[HJ.out,HS.out,←n.out,rqT,QT.out,ByteArray.append_assoc,ByteArray.append_assoc,ByteArray.append_assoc],X.out,U.out,Z.out⟩
    case measure=>omega
   ·have M: ¬(j:Int)<(m.rq.length:Int):=by omega
    have Y:Hid (E=acc rqT m.rq sNone):=by show E=_;rw[n.out,List.take_of_length_le (by omega)]
    clear n
    go_wp2
    go_loopg [5,7] m.im.length (fun k t i wr=>∃(j:Nat) (E:ByteArray),i= .int .i64 j∧t= .string E∧j+k=m.im.length∧E=acc zU (m.im.take j) (acc rqT m.rq sNone)∧OwnMd wr N S m∧wr.heap[w.heap.size]? =some (.cells #[.slice S.rq.a m.rq.length S.rq.cap,.slice S.im.a m.im.length S.im.cap,.slice S.ep.a m.ep.length S.ep.cap,.slice S.st.a m.st.length S.st.cap,.slice S.ex.a m.ex.length S.ex.cap] 36 (0,0))∧Below w.heap.size w wr)
    case atStart=>exact⟨0,_,rfl,rfl,by omega,Y.out,X.out,U.out,Z.out⟩
    case round=>
     obtain⟨j,E,rfl,rfl,hj,K,ho,hx,H⟩:=hrel
     have n:=zc K
     have X:=zc ho
     have U:=zc hx
     have Z:=zc H
     clear K ho hx H c0 c1 c2 c3 c4 cf
     obtain⟨c0,c1,c2,c3,c4,cf⟩:=zi U.out
     have aa:=(Array.getElem?_eq_some_iff.1 U.out).1
     by_cases V:j<m.im.length
     ·have M:(j:Int)<(m.im.length:Int):=by omega
      obtain⟨x,z⟩:=zfw V
      have A:=List.mem_of_getElem? z
      have HS:=zc (zbO zU z (acc rqT m.rq sNone))
      have q:=zcV zU m.im (j+1) (acc rqT m.rq sNone)
      rw[HS.out,←n.out,ByteArray.size_append] at q
      have I:(acc zU m.im (acc rqT m.rq sNone)).size≤1099511627776:=Nat.le_trans (ziY m) HZ.out
      obtain⟨O,L⟩: ∃O,O=j+1:=⟨_,rfl⟩
      have ej:(j:Int)+1=(O:Int):=by omega
      have HJ:=zc L
      clear L
      have ah:E.size≤1099511627776:=by omega
      obtain⟨g,hg,D⟩:=OwnR.elem (f:=imL) (m:=3) (fun _=>rfl) X.out.im z
      rw[hg] at c1
      have k0:=D 0 (by omega)
      have k1:=D 1 (by omega)
      have k2:=D 2 (by omega)
      simp only[imL,Nat.add_zero,List.getElem?_cons_zero,List.getElem?_cons_succ] at k0 k1 k2
      obtain⟨z1,z2,z3⟩:=SM.out.im x A
      clear hg D z A
      obtain⟨pt,J⟩: ∃t,zU x=t:=⟨_,rfl⟩
      have an:pt.size≤1099511627776:=by rw[←J];omega
      have PT:=zc J
      clear J q I
      go_wp2_with fail
      refine (zoE x _ z1 z2 z3).mono ?_
      rintro e w2 ⟨rfl,H⟩
      rw[PT.out]
      have ab:=zc (X.out.later H)
      have ad:=zc ((H.block _ aa).trans U.out)
      have ac:=zc (Z.out.trans (H.mono Z.out.size))
      clear H
      go_wp2
      go_roundg (gk-1)
      case rel=>exact⟨O,_,rfl,rfl,by have:=HJ.out;omega,by rw[HJ.out,HS.out,←n.out,PT.out],ab.out,ad.out,ac.out⟩
      case measure=>omega
     ·have M: ¬(j:Int)<(m.im.length:Int):=by omega
      have Y:Hid (E=acc zU m.im (acc rqT m.rq sNone)):=by show E=_;rw[n.out,List.take_of_length_le (by omega)]
      clear n
      go_wp2
      go_loopg [5,8] m.ep.length (fun k t i wr=>∃(j:Nat) (E:ByteArray),i= .int .i64 j∧t= .string E∧j+k=m.ep.length∧E=acc epF (m.ep.take j) (acc zU m.im (acc rqT m.rq sNone))∧OwnMd wr N S m∧wr.heap[w.heap.size]? =some (.cells #[.slice S.rq.a m.rq.length S.rq.cap,.slice S.im.a m.im.length S.im.cap,.slice S.ep.a m.ep.length S.ep.cap,.slice S.st.a m.st.length S.st.cap,.slice S.ex.a m.ex.length S.ex.cap] 36 (0,0))∧Below w.heap.size w wr)
      case atStart=>exact⟨0,_,rfl,rfl,by omega,Y.out,X.out,U.out,Z.out⟩
      case round=>
       obtain⟨j,E,rfl,rfl,hj,K,ho,hx,H⟩:=hrel
       have n:=zc K
       have X:=zc ho
       have U:=zc hx
       have Z:=zc H
       clear K ho hx H c0 c1 c2 c3 c4 cf
       obtain⟨c0,c1,c2,c3,c4,cf⟩:=zi U.out
       have aa:=(Array.getElem?_eq_some_iff.1 U.out).1
       by_cases V:j<m.ep.length
       ·have M:(j:Int)<(m.ep.length:Int):=by omega
        obtain⟨x,z⟩:=zfw V
        have A:=List.mem_of_getElem? z
        have HS:=zc (zbO epF z (acc zU m.im (acc rqT m.rq sNone)))
        have q:=zcV epF m.ep (j+1) (acc zU m.im (acc rqT m.rq sNone))
        rw[HS.out,←n.out,ByteArray.size_append] at q
        have I:(acc epF m.ep (acc zU m.im (acc rqT m.rq sNone))).size≤1099511627776:=Nat.le_trans (ziX m) HZ.out
        obtain⟨O,L⟩: ∃O,O=j+1:=⟨_,rfl⟩
        have ej:(j:Int)+1=(O:Int):=by omega
        have HJ:=zc L
        clear L
        have ah:E.size≤1099511627776:=by omega
        obtain⟨g,hg,D⟩:=OwnR.elem (f:=epL) (m:=4) (fun _=>rfl) X.out.ep z
        rw[hg] at c2
        have k0:=D 0 (by omega)
        have k1:=D 1 (by omega)
        have k2:=D 2 (by omega)
        have k3:=D 3 (by omega)
        simp only[epL,Nat.add_zero,List.getElem?_cons_zero,List.getElem?_cons_succ] at k0 k1 k2 k3
        obtain⟨z1,z2,z3⟩:=SM.out.ep x A
        clear hg D z A
        cases hd:(x.loc.toList==[42,100,101,102,97,117,108,116]) with
        |true=>
         clear q I
         go_wp2
         go_roundg (gk-1)
         case rel=>exact⟨O,_,rfl,rfl,by have:=HJ.out;omega,by rw[HJ.out,HS.out,←n.out,epF,hd];show E=E++sNone;rw[zoO],X.out,U.out,Z.out⟩
         case measure=>omega
        |false=>
         obtain⟨pt,J⟩: ∃t,zaW x=t:=⟨_,rfl⟩
         have an:pt.size≤1099511627776:=by rw[←J,←show epF x=zaW x from (by rw[epF,hd];rfl)];omega
         have PT:=zc J
         clear J q I
         go_wp2_with fail
         refine (zoF x _ z1 z2 z3).mono ?_
         rintro e w2 ⟨rfl,H⟩
         rw[PT.out]
         have ab:=zc (X.out.later H)
         have ad:=zc ((H.block _ aa).trans U.out)
         have ac:=zc (Z.out.trans (H.mono Z.out.size))
         clear H
         go_wp2
         go_roundg (gk-1)
         case rel=>exact⟨O,_,rfl,rfl,by have:=HJ.out;omega,by rw[HJ.out,HS.out,←n.out,epF,hd];show _=E++zaW x;rw[PT.out],ab.out,ad.out,ac.out⟩
         case measure=>omega
       ·have M: ¬(j:Int)<(m.ep.length:Int):=by omega
        have Y:Hid (E=acc epF m.ep (acc zU m.im (acc rqT m.rq sNone))):=by show E=_;rw[n.out,List.take_of_length_le (by omega)]
        clear n
        go_wp2
        go_loopg [5,9] m.st.length (fun k t i wr=>∃(j:Nat) (E:ByteArray),i= .int .i64 j∧t= .string E∧j+k=m.st.length∧E=acc (stF m.ex) (m.st.take j) (zb7 m)∧OwnMd wr N S m∧wr.heap[w.heap.size]? =some (.cells #[.slice S.rq.a m.rq.length S.rq.cap,.slice S.im.a m.im.length S.im.cap,.slice S.ep.a m.ep.length S.ep.cap,.slice S.st.a m.st.length S.st.cap,.slice S.ex.a m.ex.length S.ex.cap] 36 (0,0))∧Below w.heap.size w wr)
        case atStart=>exact⟨0,_,rfl,rfl,by omega,Y.out,X.out,U.out,Z.out⟩
        case round=>
         obtain⟨j,E,rfl,rfl,hj,K,ho,hx,H⟩:=hrel
         have n:=zc K
         have X:=zc ho
         have U:=zc hx
         have Z:=zc H
         clear K ho hx H c0 c1 c2 c3 c4 cf
         obtain⟨c0,c1,c2,c3,c4,cf⟩:=zi U.out
         have aa:=(Array.getElem?_eq_some_iff.1 U.out).1
         by_cases V:j<m.st.length
         ·have M:(j:Int)<(m.st.length:Int):=by omega
          obtain⟨x,z⟩:=zfw V
          have A:=List.mem_of_getElem? z
          have HS:=zc (zbO (stF m.ex) z (zb7 m))
          have q:=zcV (stF m.ex) m.st (j+1) (zb7 m)
          rw[HS.out,←n.out,ByteArray.size_append] at q
          have I:(acc (stF m.ex) m.st (zb7 m)).size≤1099511627776:=Nat.le_trans (zoP m) HZ.out
          obtain⟨O,L⟩: ∃O,O=j+1:=⟨_,rfl⟩
          have ej:(j:Int)+1=(O:Int):=by omega
          have HJ:=zc L
          clear L
          have ah:E.size≤1099511627776:=by omega
          obtain⟨g,hg,D⟩:=OwnR.elem (f:=smL) (m:=3) (fun _=>rfl) X.out.st z
          rw[hg] at c3
          have k0:=D 0 (by omega)
          have k1:=D 1 (by omega)
          have k2:=D 2 (by omega)
          simp only[smL,Nat.add_zero,List.getElem?_cons_zero,List.getElem?_cons_succ] at k0 k1 k2
          have z1:=SM.out.st x A
          obtain⟨t1,t2⟩:=TR.out.stm x A
          obtain⟨en,aj⟩: ∃en:Nat,x.expr=(en:Int):=⟨x.expr.toNat,by omega⟩
          obtain⟨pt,J⟩: ∃t,zav x.kind x.name (prX m.ex en)=t:=⟨_,rfl⟩
          have ap:stF m.ex x=pt:=by rw[stF,aj,Int.toNat_natCast,J]
          rw[ap] at HS q
          have an:pt.size≤1099511627776:=by omega
          have az:wt m.ex en≤1099511627776:=by have:=zoR x.kind x.name (prX m.ex en);rw[J] at this;unfold wt;omega
          rw[aj] at k2
          have HG:=zc hg
          have cS: ∀d os,Calls Tryz.prog 84 #[.agg #[.slice S.rq.a m.rq.length S.rq.cap,.slice S.im.a m.im.length S.im.cap,.slice S.ep.a m.ep.length S.ep.cap,.slice (some ⟨g,0,none⟩) m.st.length S.st.cap,.slice S.ex.a m.ex.length S.ex.cap],.agg #[.int .i64 x.kind,.string x.name,.int .i64 (en:Int)]] (grow (redrawn wr d) os) fun e ax=>e= .returned (.string pt)∧∃p:Regrown,ax=grow (redrawn wr p.d) p.os:=fun d os=>Calls.regrown_of (by rw[←J,←hg];exact zoN N S m x.kind x.name en _ (X.out.later (below_regrown _ d os)) (by omega) SM.out.nums TR.out.ahead az z1)
          have C0:=zc c0
          have C1:=zc c1
          have C2:=zc c2
          have C3:=zc c3
          have C4:=zc c4
          have K0:=zc k0
          have K1:=zc k1
          have K2:=zc k2
          clear hg D z A J ap q I aj HG
          go_wp2_with fail
          have y0:=cell_regrown C0.out
          have y1:=cell_regrown C1.out
          have y2:=cell_regrown C2.out
          have y3:=cell_regrown C3.out
          have y4:=cell_regrown C4.out
          have av:=cell_regrown K0.out
          have ar:=cell_regrown K1.out
          have aw:=cell_regrown K2.out
          refine wp_region_quiet_below (by kernel_rfl) (by kernel_rfl) ?_
          repeat (go_big_quiet_step (with_reducible exact cS _ _))
          refine wpQuiet_nil ?_
          intro w2 au
          obtain⟨⟨dq,aB⟩,ae⟩:=au
          have H:Below wr.heap.size wr w2:=by rw[ae];exact below_regrown _ _ _
          have ab:=zc (X.out.later H)
          have ad:=zc ((H.block _ aa).trans U.out)
          have ac:=zc (Z.out.trans (H.mono Z.out.size))
          clear H ae y0 y1 y2 y3 y4 av ar aw cS
          go_wp2
          go_roundg (gk-1)
          case rel=>exact⟨O,_,rfl,rfl,by have:=HJ.out;omega,by rw[HJ.out,HS.out,←n.out],ab.out,ad.out,ac.out⟩
          case measure=>omega
         ·have M: ¬(j:Int)<(m.st.length:Int):=by omega
          have Y:Hid (E=acc (stF m.ex) m.st (zb7 m)):=by show E=_;rw[n.out,List.take_of_length_le (by omega)]
          clear n
          go_wp2
          go_ret
          exact⟨.inl ⟨TR.out,zaD Y.out⟩,Z.out⟩
theorem Tryz.infoString:(Tryz.prog.info? 9).map (fun i=>(i.zero,i.size,i.bytes))=some (some (.string {data:=#[]}),1,16):=by kernel_rfl
theorem OwnR.addr {w:World} {j size n:Nat} {e:TypeId} {r:Rw} {xs:List Value} (h:OwnR w j e size r n xs):n=0∨∃g,r.a=some ⟨g,0,none⟩:=by
 rcases h.2 with ⟨_,D⟩|⟨g,A,z,q,_⟩
 ·exact .inl D
 ·simp only[Value.slice.injEq] at q
  exact .inr ⟨g,q.1⟩
theorem OwnR.str {w:World} {n:Nat} {e:TypeId} {r:Rw} {l:List ByteArray} {g:Nat} (h:OwnR w n e 1 r l.length (l.map .string)) (z:r.a=some ⟨g,0,none⟩) {j:Nat} (q:j<l.length):w.cell? ⟨g,j,none⟩=some (.string (l.getD j sNone)):=by
 unfold OwnR at h
 rw[z] at h
 rw[h.cellAt j (by omega)]
 simp[List.getD,q]
theorem OwnR.lt {w:World} {j size n:Nat} {e:TypeId} {r:Rw} {xs:List Value} {g:Nat} (h:OwnR w j e size r n xs) (q:r.a=some ⟨g,0,none⟩):g<w.heap.size:=(h.typed (k:=g) (by simp[Rw.blk,q,Value.ownBlock])).2.1
theorem zoT {l:List ByteArray} {x:ByteArray} {j:Nat} (n:j<l.length) (h:((l.getD j sNone).toList==x.toList)=true):zaL l x=true:=by
 rw[zaL,List.any_eq_true]
 exact⟨l[j],List.getElem_mem n,by simpa [List.getD,n] using h⟩
theorem zoU {l:List ByteArray} {x:ByteArray} (h: ∀j,j<l.length→((l.getD j sNone).toList==x.toList)=false):zaL l x=false:=by
 rw[Bool.eq_false_iff,zaL]
 intro k
 rw[List.any_eq_true] at k
 obtain⟨y,w,q⟩:=k
 obtain⟨j,n,rfl⟩:=List.getElem_of_mem w
 have:=h j n
 simp only[List.getD,List.getElem?_eq_getElem n,Option.getD_some] at this
 rw[this] at q
 cases q
theorem zoV {C:Cx} {x:PR} {q:PS} {z:Int} (A:Is x q z) (w:(decide (z<0)&&((ze C q.pos).kind==3))=false):Is2 (bd x (zG C)) q (zbf C q.pos z) sNone:=by
 unfold zbf
 by_cases h:z<0
 ·obtain⟨j,n⟩:=za6 A h
  simp only[h,decide_true,Bool.true_and] at w
  rw[j,zx,zG,w,if_pos h]
  rfl
 ·obtain⟨e,j,n⟩:=zcM A h
  rw[j,zd5,if_neg h]
  exact n
theorem zoW (C:Cx) (H A h:Nat) (x:PR) (S:Sv) (q:PS) (z:Int) (d:Nat) (w:World) (hx:Is x q z) (M:Mem C H A h S q w) (L:(decide (z<0)&&((ze C q.pos).kind==3))=false):
  Calls Tryz.prog 145 #[pv C H A S q z d] w (zcU C H A h (bd x (zG C)) d S w):=by
 have O:=zc M
 have j:=M.tok
 have D:=M.few
 have V:Hid (Is2 (bd x (zG C)) q (zbf C q.pos z) sNone):=zoV hx L
 clear hx M
 by_cases hz:z<0
 ·have U:decide (0≤z)=false:=decide_eq_false (by omega)
  simp only[hz,decide_true,Bool.true_and] at L
  by_cases hp:q.pos<C.ts.length
  ·obtain⟨K,_,_,_⟩:=j.cells hp (d:=⟨0,sNone,0,C.fin⟩)
   have Z:=(zaj j).1
   change _=some (Value.int .i64 (ze C q.pos).kind) at K
   generalize N:ze C q.pos=t at K L
   have aa:(t.kind !=3)=true:=by rw[bne,L];rfl
   clear N
   unfold pv
   go_enter Tryz.func145,Tryz.ntmps145
   go_wp2_with fail
   refine (zcK C H A h S q z d _ (zo (zo j _) _) D).mono ?_
   rintro e w2 ⟨rfl,n⟩
   have E:Hid (_=_):=(zck n).2
   obtain⟨K,c1,c2,c3,c4,c5,c6,c7,X,Y,J,I,cf⟩:=zaf E.out
   unfold pv
   go_wp2
   refine bodyPost_ret (zay rfl _ _ (w.heap.size+1) 122 _ (0,0) _ rfl (zaI E.out) Tryz.underlying122 rfl (by kernel_rfl)) rfl ?_
   exact zdi rfl V.out O.out (zb2 (zaO n) (Nat.le_succ _) ..)
  ·unfold pv
   go_enter Tryz.func145,Tryz.ntmps145
   go_wp2_with fail
   refine (zcK C H A h S q z d _ (zo (zo j _) _) D).mono ?_
   rintro e w2 ⟨rfl,n⟩
   have E:Hid (_=_):=(zck n).2
   obtain⟨K,c1,c2,c3,c4,c5,c6,c7,X,Y,J,I,cf⟩:=zaf E.out
   unfold pv
   go_wp2
   refine bodyPost_ret (zay rfl _ _ (w.heap.size+1) 122 _ (0,0) _ rfl (zaI E.out) Tryz.underlying122 rfl (by kernel_rfl)) rfl ?_
   exact zdi rfl V.out O.out (zb2 (zaO n) (Nat.le_succ _) ..)
 ·have U:decide (0≤z)=true:=decide_eq_true (by omega)
  unfold pv
  go_enter Tryz.func145,Tryz.ntmps145
  go_wp2_with fail
  refine (zcK C H A h S q z d _ (zo (zo j _) _) D).mono ?_
  rintro e w2 ⟨rfl,n⟩
  have E:Hid (_=_):=(zck n).2
  obtain⟨K,c1,c2,c3,c4,c5,c6,c7,X,Y,J,I,cf⟩:=zaf E.out
  unfold pv
  go_wp2
  refine bodyPost_ret (zay rfl _ _ (w.heap.size+1) 122 _ (0,0) _ rfl (zaI E.out) Tryz.underlying122 rfl (by kernel_rfl)) rfl ?_
  exact zdi rfl V.out O.out (zb2 (zaO n) (Nat.le_succ _) ..)
def txt (C:Cx) (q:PS):ByteArray:=(ze C q.pos).text
theorem zoX {C:Cx} {q:PS} (j:((ze C q.pos).kind==3)=true) (h:zaL q.rq (txt C q)=true):zG C q= .ok (adv q,txt C q):=by
 unfold txt at h
 rw[zG,if_pos j,if_pos h];rfl
theorem zoY {C:Cx} {q:PS} (n:((ze C q.pos).kind==3)=true) (h:zaL q.rq (txt C q)=false) (j:40≤q.rq.length):zG C q= .error (zp C q.pos):=by
 unfold txt at h
 rw[zG,if_pos n,h,if_pos j];rfl
theorem zoZ {C:Cx} {q:PS} (n:((ze C q.pos).kind==3)=true) (h:zaL q.rq (txt C q)=false) (j: ¬40≤q.rq.length):zG C q= .ok ({adv q with rq:=q.rq++[txt C q]},txt C q):=by
 unfold txt at h
 rw[zG,if_pos n,h,if_neg j];rfl
theorem ziZ (C:Cx) (gt A h:Nat) (S:Sv) (q:PS) (d:Nat) (w:World) (J:Mem C gt A h S q w) (Y:((ze C q.pos).kind==3)=true) (g:Nat) (H:q.rq.length=0∨S.rq.a=some ⟨g,0,none⟩):
  Calls Tryz.prog 145 #[pv C gt A S q (-1) d] w (zcU C gt A h (zG C q) d S w):=by
 obtain⟨i0,hi,ac,ah,ag⟩:=info_parts Tryz.infoString
 have n:=zc J
 have H3:=zc Y
 have X:q.pos<C.ts.length:=zeF Y (by decide)
 have ak:=J.few
 have ap:=J.inv.rq
 have aj:=(zaj J.tok).1
 obtain⟨c0,c1,_,_⟩:=J.tok.cells X (d:=⟨0,sNone,0,C.fin⟩)
 change _=some (Value.int .i64 (ze C q.pos).kind) at c0
 change _=some (Value.string (txt C q)) at c1
 generalize (ze C q.pos).kind=kd at c0 Y
 have aq:(kd !=3)=false:=by rw[bne,Y];rfl
 have aa:=zc H
 obtain⟨R,hR⟩: ∃R:Nat→ByteArray,∀j,R j=q.rq.getD j sNone:=⟨fun j=>q.rq.getD j sNone,fun _=>rfl⟩
 have HR:=zc hR
 have HC:Hid (∀j,j<q.rq.length→w.cell? ⟨g,j,none⟩=some (.string (R j))):=fun j L=>by
  rcases H with e|e
  ·omega
  ·rw[hR];exact n.out.own.rq.str e L
 clear hR
 generalize K:txt C q=tx at c1
 have z:=zc K
 have D:=fun o1 o2 o3=>((n.out.own.rq.alloc o1).alloc o2).alloc o3
 clear K J H
 unfold pv
 go_enter Tryz.func145,Tryz.ntmps145
 go_wp2
 go_loop [5] (fun i=>∃k:Nat,k≤q.rq.length∧i= .int .i64 k∧∀j,j<k→¬(R j).toList=tx.toList) (fun i=>(q.rq.length-intOf i).toNat)
 case atStart=>exact⟨0,Nat.zero_le _,rfl,fun j L=>absurd L (Nat.not_lt_zero j)⟩
 case round=>
  obtain⟨k,hk,rfl,M⟩:=hrel
  have O:=zc M
  clear M
  by_cases N:k<q.rq.length
  ·have ha:S.rq.a=some ⟨g,0,none⟩:=aa.out.elim (fun e=>by omega) id
   have am:=HC.out k N
   have an:=n.out.own.rq.lt ha
   cases he:((R k).toList==tx.toList) with
   |true=>
    have U:Hid (zG C q= .ok (adv q,tx)):=by
     show zG C q= .ok (adv q,tx)
     rw[←z.out]
     exact zoX H3.out (zoT N (by rw[←HR.out,z.out];exact he))
    have HA:=zc ha
    go_wp2
    refine bodyPost_ret (zay rfl _ _ (w.heap.size+1) 122 _ (0,0) _ rfl (new2 w _ _) Tryz.underlying122 rfl (by kernel_rfl)) rfl ?_
    rw[U.out]
    exact zdi (q':=adv q) (z':=-1) (by rw[pv,HA.out];rfl) ⟨rfl,rfl,rfl⟩ (n.out.adv X) (zaJ w _ _)
   |false=>
    have HX:Hid (∀j,j<k+1→¬(R j).toList=tx.toList):=fun j L=>by
     by_cases e:j=k
     ·rw[e];exact beq_eq_false_iff_ne.1 he
     ·exact O.out j (by omega)
    go_wp2
    go_round
    case rel=>exact⟨k+1,by omega,by go_num,HX.out⟩
    case measure=>simp[intOf];omega
  ·have HN:Hid (zaL q.rq (txt C q)=false):=zoU fun j L=>by rw[z.out,←HR.out];exact beq_eq_false_iff_ne.2 (O.out j (by omega))
   by_cases hn:40≤q.rq.length
   ·have qn:decide ((40:Int)≤(q.rq.length:Int))=true:=decide_eq_true (by omega)
    have U:Hid (zG C q= .error (zp C q.pos)):=zoY H3.out HN.out hn
    go_wp2_with fail
    refine (zeo C gt A h S (adv q) (-1) d _ (((n.out.adv X).alloc _).alloc _) (by decide) (by simp[adv])).mono ?_
    rintro e w2 ⟨rfl,I⟩
    have G3:Hid (_=_):=(zck I).2
    obtain⟨b0,b1,b2,b3,b4,b5,b6,b7,b8,b9,ae,ab,bf⟩:=zaf G3.out
    have HB:Hid (Below w.heap.size w w2):=zaO I
    clear I
    unfold pv
    go_wp2
    refine bodyPost_ret (zay rfl _ _ (w.heap.size+1) 122 _ (0,0) _ rfl (zaI G3.out) Tryz.underlying122 rfl (by kernel_rfl)) rfl ?_
    rw[U.out]
    exact zdi (q':=adv q) (z':=(zp C q.pos:Int)) rfl rfl (n.out.adv X) (zb2 HB.out (Nat.le_succ _) ..)
   ·have qn:decide ((40:Int)≤(q.rq.length:Int))=false:=decide_eq_false (by omega)
    have U:Hid (zG C q= .ok ({adv q with rq:=q.rq++[tx]},tx)):=by
     show zG C q= .ok ({adv q with rq:=q.rq++[tx]},tx)
     rw[←z.out]
     exact zoZ H3.out HN.out hn
    go_wp2_with (at_builtin;refine zch _ rfl _ _ 22 rfl h 9 i0 _ 1 16 Tryz.underlying22 hi ac ah ag rfl (by decide) (by decide) S.rq q.rq.length _ (by rfl) (D _ _ _) (w.heap.size+1+1) [.string tx] (by rfl) (by exact (new3 w _ _ _).2.2) rfl (by intro u hu;simp at hu;subst hu;rfl) (by omega) (by have:=n.out.base;rw[zW];omega) ?_)
    intro r' w2 hr Z V
    have ai:=zc hr
    have HG:=zc Z
    have ad:=zc V
    have E:=fun b hb=>zdj (W:=w) n.out.own (Nat.le_refl _) (r:=S.rq.blk) (fun k e=>.inl e) b hb
    have g1:=(Z.block w.heap.size (by rw[zW];omega) (E _ (Nat.le_refl _))).trans (new3 w _ _ _).1
    have g2:=(Z.block (w.heap.size+1) (by rw[zW];omega) (E _ (by omega))).trans (new3 w _ _ _).2.1
    obtain⟨a0,a1,a2,a3,a4,a5,a6,a7,a8,a9,al,ao,af⟩:=zaf g1
    obtain⟨b0,b1,b2,b3,b4,b5,b6,b7,b8,b9,ae,ab,bf⟩:=zaf g2
    have G2:=zc g2
    clear g1 g2 Z hr V E D
    go_wp2
    refine bodyPost_ret (zay rfl _ _ (w.heap.size+1) 122 _ (0,0) _ rfl (zaI ((zt (by omega)).trans G2.out)) Tryz.underlying122 rfl (by kernel_rfl)) rfl ?_
    obtain⟨m',s'⟩:=(n.out.adv X).grow_rq (x:=tx) (zcz w _ _ _) HG.out ai.out (by rw[zW];exact ad.out) (((Off.refl _ _ _).set (b:=w.heap.size) (Nat.le_refl _) (by rw[zW];omega) _ _).set12 (b:=w.heap.size+1) (by omega) (by rw[zW];omega) ..) (by show q.rq.length<40;omega)
    rw[U.out]
    exact⟨_,{adv q with rq:=q.rq++[tx]},-1,tx,by simp[pv,adv],⟨rfl,rfl,rfl⟩,m',s'⟩
theorem zdw (C:Cx) (n j h:Nat) (x:PR) (S:Sv) (q:PS) (z:Int) (d:Nat) (w:World) (E:Is x q z) (D:Mem C n j h S q w):
  Calls Tryz.prog 145 #[pv C n j S q z d] w (zcU C n j h (bd x (zG C)) d S w):=by
 cases A:(decide (z<0)&&((ze C q.pos).kind==3)) with
 |false=>exact zoW C n j h x S q z d w E D A
 |true=>
  rw[Bool.and_eq_true,decide_eq_true_eq] at A
  obtain⟨rfl,rfl⟩:=za6 E A.1
  rw[zx]
  rcases D.own.rq.addr with e|⟨g,e⟩
  ·exact ziZ C n j h S q d w D A.2 0 (.inl e)
  ·exact ziZ C n j h S q d w D A.2 g (.inr e)
abbrev set12 (w:World) (b:Nat) (x0 x1 x2 x3 x4 x5 x6 x7 x8 x9 x10 x11:Value):World:=
 ((((((((((((w.setCell ⟨b,0,none⟩ x0).setCell ⟨b,1,none⟩ x1).setCell ⟨b,2,none⟩ x2).setCell ⟨b,3,none⟩ x3).setCell ⟨b,4,none⟩ x4).setCell ⟨b,5,none⟩ x5).setCell ⟨b,6,none⟩ x6).setCell ⟨b,7,none⟩ x7).setCell ⟨b,8,none⟩ x8).setCell ⟨b,9,none⟩ x9).setCell ⟨b,10,none⟩ x10).setCell ⟨b,11,none⟩ x11)
theorem zgu (w:World) (a:Addr) (u:Value):(w.setCell a u).heap.size=w.heap.size:=by show (w.heap.modify _ _).size=_;simp
theorem zpa (w:World) (b:Nat) (n D J E q K A I z H h j:Value):(set12 w b n D J E q K A I z H h j).heap.size=w.heap.size:=by
 unfold set12
 simp only[zgu]
theorem ze3 {w:World} {b k:Nat} (h:k≠b) (q E K H z L D J A I j n:Value):(set12 w b q E K H z L D J A I j n).heap[k]? =w.heap[k]?:=by
 unfold set12
 rw[zt h,zt h,zt h,zt h,zt h,zt h,zt h,zt h,zt h,zt h,zt h,zt h]
structure Bx (gt:Nat) (S:Sv) (w:World) (b:Nat) (cs:Array Value):Prop where
 heap:w.heap[b]? =some (.cells cs 122 (0,0))
 free: ¬S.has b
 ne:b≠gt
theorem Bx.lt {gt b:Nat} {S:Sv} {w:World} {cs:Array Value} (h:Bx gt S w b cs):b<w.heap.size:=(Array.getElem?_eq_some_iff.1 h.heap).1
theorem Bx.stp {gt b:Nat} {S j:Sv} {w n:World} {cs:Array Value} (h:Bx gt S w b cs) (k:Stp S w j n):Bx gt j n b cs:=
 ⟨(k.block b h.lt h.free).trans h.heap,fun g=>(k.sub b g).elim h.free fun q=>by have:=h.lt;omega,h.ne⟩
theorem Bx.below {gt b:Nat} {S:Sv} {w j:World} {cs:Array Value} (h:Bx gt S w b cs) (k:Below w.heap.size w j):Bx gt S j b cs:=⟨(k.block b h.lt).trans h.heap,h.free,h.ne⟩
theorem Bx.alloc {gt b:Nat} {S:Sv} {w:World} {cs:Array Value} (h:Bx gt S w b cs) (o:Obj):Bx gt S (w.alloc o) b cs:=h.below ((Below.refl _ _).alloc (Nat.le_refl _) _)
theorem Bx.new {C:Cx} {gt cap base:Nat} {S:Sv} {q:PS} {w:World} (h:Mem C gt cap base S q w) (cs:Array Value):Bx gt S (w.alloc (.cells cs 122 (0,0))) w.heap.size cs:=
 ⟨heap_alloc_new w _,fun g=>by have:=(h.own.has g).2;omega,by have:=(zaj h.tok).1;omega⟩
theorem Bx.set {gt b:Nat} {S:Sv} {w:World} {cs:Array Value} (h:Bx gt S w b cs) (i:Nat) (u:Value):Bx gt S (w.setCell ⟨b,i,none⟩ u) b (cs.setIfInBounds i u):=⟨zbL h.heap,h.free,h.ne⟩
theorem Bx.set_other {gt b c:Nat} {S:Sv} {w:World} {cs:Array Value} (h:Bx gt S w b cs) (j:b≠c) (i:Nat) (u:Value):Bx gt S (w.setCell ⟨c,i,none⟩ u) b cs:=⟨(zt j).trans h.heap,h.free,h.ne⟩
theorem Bx.put {gt b:Nat} {S:Sv} {w:World} {v0 v1 v2 v3 v4 v5 v6 v7 v8 v9 v10 v11:Value} (h:Bx gt S w b #[v0,v1,v2,v3,v4,v5,v6,v7,v8,v9,v10,v11]) (q E K H z L D J A I j n:Value):
  Bx gt S (set12 w b q E K H z L D J A I j n) b #[q,E,K,H,z,L,D,J,A,I,j,n]:=⟨zaI h.heap,h.free,h.ne⟩
theorem Bx.other {gt b c:Nat} {S:Sv} {w:World} {cs:Array Value} (h:Bx gt S w b cs) (I:b≠c) (q E L H z M D K A J j n:Value):Bx gt S (set12 w c q E L H z M D K A J j n) b cs:=⟨(ze3 I ..).trans h.heap,h.free,h.ne⟩
theorem Bx.at1 {gt b:Nat} {S:Sv} {w:World} {v0 v1 v2 v3 v4 v5 v6 v7 v8 v9 v10 v11:Value} (h:Bx gt S w b #[v0,v1,v2,v3,v4,v5,v6,v7,v8,v9,v10,v11]) (u:Value):Bx gt S (w.setCell ⟨b,1,none⟩ u) b #[v0,u,v2,v3,v4,v5,v6,v7,v8,v9,v10,v11]:=by simpa using h.set 1 u
theorem Bx.at11 {gt b:Nat} {S:Sv} {w:World} {v0 v1 v2 v3 v4 v5 v6 v7 v8 v9 v10 v11:Value} (h:Bx gt S w b #[v0,v1,v2,v3,v4,v5,v6,v7,v8,v9,v10,v11]) (u:Value):Bx gt S (w.setCell ⟨b,11,none⟩ u) b #[v0,v1,v2,v3,v4,v5,v6,v7,v8,v9,v10,u]:=by simpa using h.set 11 u
theorem Bx.box {gt b:Nat} {S:Sv} {w:World} {v0 v1 v2 v3 v4 v5 v6 v7 v8 v9 v10 v11:Value} (h:Bx gt S w b #[v0,v1,v2,v3,v4,v5,v6,v7,v8,v9,v10,v11]):Box w b v0 v1 v2 v3 v4 v5 v6 v7 v8 v9 v10 v11:=zaf h.heap
theorem Mem.set {C:Cx} {gt cap base b:Nat} {S:Sv} {q:PS} {w:World} (h:Mem C gt cap base S q w) {cs:Array Value} (j:Bx gt S w b cs) (i:Nat) (u:Value):Mem C gt cap base S q (w.setCell ⟨b,i,none⟩ u):=
 ⟨h.own.keep fun k g=>zt (b:=k) fun e=>j.free (by rw[←e];exact g),h.inv,zbo h.tok (zt j.ne.symm),h.few,by rw[zgu];exact h.base⟩
theorem Mem.put {C:Cx} {gt cap base b:Nat} {S:Sv} {q:PS} {w:World} (h:Mem C gt cap base S q w) {cs:Array Value} (z:Bx gt S w b cs) (A I M J D N H L E K j n:Value):Mem C gt cap base S q (set12 w b A I M J D N H L E K j n):=
 ⟨h.own.keep fun k g=>ze3 (k:=k) (fun e=>z.free (by rw[←e];exact g)) _ _ _ _ _ _ _ _ _ _ _ _,h.inv,zbo h.tok (ze3 z.ne.symm ..),h.few,by rw[zpa];exact h.base⟩
structure SB (B:Nat) (S:Sv) (w:World) (S':Sv) (w':World):Prop where
 os:w'.os=w.os
 tape:w'.tape=w.tape
 output:w'.output=w.output
 size:w.heap.size≤w'.heap.size
 low:B≤w.heap.size
 block: ∀k,k<B→¬S.has k→w'.heap[k]? =w.heap[k]?
 sub: ∀k,S'.has k→S.has k∨B≤k
theorem SB.start {S:Sv} {w j:World} (h:Below w.heap.size w j):SB w.heap.size S w S j:=⟨h.os,h.tape,h.output,h.size,Nat.le_refl _,fun k n _=>h.block k n,fun _ g=>.inl g⟩
theorem SB.step {B:Nat} {S S1 n:Sv} {w w1 q:World} (h:SB B S w S1 w1) (k:Stp S1 w1 n q):SB B S w n q:=
 ⟨k.os.trans h.os,k.tape.trans h.tape,k.output.trans h.output,Nat.le_trans h.size k.size,h.low,
  fun i j z=>(k.block i (by have:=h.size;have:=h.low;omega) fun g=>(h.sub i g).elim z fun A=>by omega).trans (h.block i j z),
  fun i j=>(k.sub i j).elim (h.sub i) fun g=>.inr (by have:=h.size;have:=h.low;omega)⟩
theorem SB.below {B:Nat} {S S1:Sv} {w w1 j:World} (h:SB B S w S1 w1) (k:Below w1.heap.size w1 j):SB B S w S1 j:=h.step (Stp.below k)
theorem SB.alloc {B:Nat} {S S1:Sv} {w w1:World} (h:SB B S w S1 w1) (o:Obj):SB B S w S1 (w1.alloc o):=h.below ((Below.refl _ _).alloc (Nat.le_refl _) _)
theorem SB.set {B:Nat} {S S1:Sv} {w w1:World} (h:SB B S w S1 w1) {b:Nat} (q:B≤b) (i:Nat) (u:Value):SB B S w S1 (w1.setCell ⟨b,i,none⟩ u):=
 ⟨h.os,h.tape,h.output,by rw[zgu];exact h.size,h.low,fun k j n=>(zt (by omega)).trans (h.block k j n),h.sub⟩
theorem SB.put {B:Nat} {S S1:Sv} {w w1:World} (h:SB B S w S1 w1) {b:Nat} (j:B≤b) (z H L I A M E K D J n q:Value):SB B S w S1 (set12 w1 b z H L I A M E K D J n q):=
 (((((((((((h.set j 0 z).set j 1 H).set j 2 L).set j 3 I).set j 4 A).set j 5 M).set j 6 E).set j 7 K).set j 8 D).set j 9 J).set j 10 n).set j 11 q
theorem SB.done {S S1:Sv} {w w1:World} (h:SB w.heap.size S w S1 w1):Stp S w S1 w1:=⟨h.os,h.tape,h.output,h.size,h.block,h.sub⟩
theorem Mem.two {C:Cx} {gt cap base:Nat} {S:Sv} {q:PS} {w w1:World} {n j:Array Value} (h:Mem C gt cap base S q w) (z:Below ((w.alloc (.cells n 122 (0,0))).alloc (.cells j 122 (0,0))).heap.size ((w.alloc (.cells n 122 (0,0))).alloc (.cells j 122 (0,0))) w1):
  Bx gt S w1 w.heap.size n∧Bx gt S w1 (w.heap.size+1) j∧Mem C gt cap base S q w1∧SB w.heap.size S w S w1:=
 ⟨((Bx.new h _).alloc _).below z,by have:=(Bx.new (h.alloc (.cells n 122 (0,0))) j).below z;rw[zk] at this;exact this,h.later (zaO z),SB.start (zaO z)⟩
theorem Mem.two2 {C:Cx} {gt cap base:Nat} {S S1:Sv} {q:PS} {w w1:World} {n j:Array Value} (h:Mem C gt cap base S q w) (s:Stp S ((w.alloc (.cells n 122 (0,0))).alloc (.cells j 122 (0,0))) S1 w1):
  Bx gt S1 w1 w.heap.size n∧Bx gt S1 w1 (w.heap.size+1) j∧SB w.heap.size S w S1 w1:=
 ⟨((Bx.new h _).alloc _).stp s,by have:=(Bx.new (h.alloc (.cells n 122 (0,0))) j).stp s;rw[zk] at this;exact this,(SB.start (zaJ w _ _)).step s⟩
theorem Bx.boxC {gt b:Nat} {S:Sv} {w:World} {v0 v1 v2 v3 v4 v5 v6 v7 v8 v9 v10 v11:Value} (h:Bx gt S w b #[v0,v1,v2,v3,v4,v5,v6,v7,v8,v9,v10,v11]):w.cell? ⟨b,0,none⟩=some v0∧w.cell? ⟨b,1,none⟩=some v1∧w.cell? ⟨b,2,none⟩=some v2∧w.cell? ⟨b,3,none⟩=some v3∧w.cell? ⟨b,4,none⟩=some v4∧w.cell? ⟨b,5,none⟩=some v5∧w.cell? ⟨b,6,none⟩=some v6∧w.cell? ⟨b,7,none⟩=some v7∧w.cell? ⟨b,8,none⟩=some v8∧w.cell? ⟨b,9,none⟩=some v9∧w.cell? ⟨b,10,none⟩=some v10∧w.cell? ⟨b,11,none⟩=some v11∧∀i,w.frozen? ⟨b,i,none⟩=false:=
 have k:=h.box
 ⟨k.c0,k.c1,k.c2,k.c3,k.c4,k.c5,k.c6,k.c7,k.c8,k.c9,k.c10,k.c11,k.fz⟩
theorem Bx.ret {gt b:Nat} {S:Sv} {w:World} {v0 v1 v2 v3 v4 v5 v6 v7 v8 v9 v10 v11:Value} (h:Bx gt S w b #[v0,v1,v2,v3,v4,v5,v6,v7,v8,v9,v10,v11]) {j:Func} {p:Tmp} {tmps:Array Value} {R:Ending→World→Prop} (z:j.results= #[.cell p 122]) (n:tmps.getD p undef= .pointer (some ⟨b,0,none⟩)) (q:R (.returned (.agg #[v0,v1,v2,v3,v4,v5,v6,v7,v8,v9,v10,v11])) w):bodyPost Tryz.prog j R .ret {tmps:=tmps,defers:=[]} w:=
 bodyPost_ret (results_cell_row z _ _ b 122 _ (0,0) _ n h.heap Tryz.underlying122 rfl (by kernel_rfl)) rfl q
structure Fm (C:Cx) (gt cap base:Nat) (S0:Sv) (w0:World) (S:Sv) (q:PS) (bs:List (Nat×Array Value)) (w:World):Prop where
 x: ∀b∈bs,Bx gt S w b.1 b.2
 d:bs.Pairwise fun a b=>a.1≠b.1
 g: ∀b∈bs,w0.heap.size≤b.1
 m:Mem C gt cap base S q w
 t:SB w0.heap.size S0 w0 S w
section
variable {C:Cx} {gt cap base b b0 b1 b2 b3:Nat} {S0 S S1:Sv} {w0 w w1:World} {q q1:PS} {bs l1:List (Nat×Array Value)} {cs c0 c1 c2 c3:Array Value} {v0 v1 v2 v3 v4 v5 v6 v7 v8 v9 v10 v11:Value}
theorem Fm.x0 (F:Fm C gt cap base S0 w0 S q ((b0,c0)::bs) w):Bx gt S w b0 c0:=F.x _ (List.mem_cons_self ..)
theorem Fm.x1 (F:Fm C gt cap base S0 w0 S q ((b0,c0)::(b1,c1)::bs) w):Bx gt S w b1 c1:=F.x (b1,c1) (by simp)
theorem Fm.x2 (F:Fm C gt cap base S0 w0 S q ((b0,c0)::(b1,c1)::(b2,c2)::bs) w):Bx gt S w b2 c2:=F.x (b2,c2) (by simp)
theorem Fm.x3 (F:Fm C gt cap base S0 w0 S q ((b0,c0)::(b1,c1)::(b2,c2)::(b3,c3)::bs) w):Bx gt S w b3 c3:=F.x (b3,c3) (by simp)
theorem Fm.below (F:Fm C gt cap base S0 w0 S q bs w) (k:Below w.heap.size w w1):Fm C gt cap base S0 w0 S q bs w1:=⟨fun b h=>(F.x b h).below k,F.d,F.g,F.m.later k,F.t.below k⟩
theorem Fm.stp (F:Fm C gt cap base S0 w0 S q bs w) (m:Mem C gt cap base S1 q1 w1) (k:Stp S w S1 w1):Fm C gt cap base S0 w0 S1 q1 bs w1:=⟨fun b h=>(F.x b h).stp k,F.d,F.g,m,F.t.step k⟩
theorem Fm.alloc (F:Fm C gt cap base S0 w0 S q bs w) (o:Obj):Fm C gt cap base S0 w0 S q bs (w.alloc o):=F.below ((Below.refl _ _).alloc (Nat.le_refl _) _)
theorem Fm.adv (F:Fm C gt cap base S0 w0 S q bs w) (h:q.pos<C.ts.length):Fm C gt cap base S0 w0 S (adv q) bs w:=⟨F.x,F.d,F.g,F.m.adv h,F.t⟩
theorem Fm.new (F:Fm C gt cap base S0 w0 S q bs w) (cs:Array Value):Fm C gt cap base S0 w0 S q (bs++[(w.heap.size,cs)]) (w.alloc (.cells cs 122 (0,0))):=by
 refine⟨fun b h=>?_,?_,fun b h=>?_,F.m.alloc _,F.t.alloc _⟩
 ·rcases List.mem_append.1 h with h|h
  ·exact (F.x b h).alloc _
  ·rw[List.mem_singleton.1 h];exact Bx.new F.m cs
 ·refine List.pairwise_append.2 ⟨F.d,List.pairwise_singleton _ _,fun a j b n=>?_⟩
  rw[List.mem_singleton.1 n]
  exact Nat.ne_of_lt (F.x a j).lt
 ·rcases List.mem_append.1 h with h|h
  ·exact F.g b h
  ·rw[List.mem_singleton.1 h];exact F.t.size
theorem Fm.new2 (F:Fm C gt cap base S0 w0 S q [(b0,c0),(b1,c1)] w) (cs:Array Value):Fm C gt cap base S0 w0 S q [(b0,c0),(b1,c1),(w.heap.size,cs)] (w.alloc (.cells cs 122 (0,0))):=F.new cs
theorem Fm.new3 (F:Fm C gt cap base S0 w0 S q [(b0,c0),(b1,c1),(b2,c2)] w) (cs:Array Value):Fm C gt cap base S0 w0 S q [(b0,c0),(b1,c1),(b2,c2),(w.heap.size,cs)] (w.alloc (.cells cs 122 (0,0))):=F.new cs
theorem Fm.turn (F:Fm C gt cap base S0 w0 S q (l1++(b,cs)::bs) w) (K:Bx gt S w1 b c0) (z: ∀k,k≠b→∀c,Bx gt S w k c→Bx gt S w1 k c) (D:Mem C gt cap base S q w1) (J:SB w0.heap.size S0 w0 S w1):Fm C gt cap base S0 w0 S q (l1++(b,c0)::bs) w1:=by
 obtain⟨H,E,j⟩:=List.pairwise_append.1 F.d
 obtain⟨n,I⟩:=List.pairwise_cons.1 E
 refine⟨fun a h=>?_,List.pairwise_append.2 ⟨H,List.pairwise_cons.2 ⟨n,I⟩,fun a A c L=>?_⟩,fun a h=>?_,D,J⟩
 ·rcases List.mem_append.1 h with h|h
  ·exact z _ (j a h _ (List.mem_cons_self ..)) _ (F.x a (List.mem_append_left _ h))
  ·rcases List.mem_cons.1 h with h|h
   ·rw[h];exact K
   ·exact z _ (n a h).symm _ (F.x a (List.mem_append_right _ (List.mem_cons_of_mem _ h)))
 ·rcases List.mem_cons.1 L with h|h
  ·rw[h];exact j a A (b,cs) (List.mem_cons_self ..)
  ·exact j a A c (List.mem_cons_of_mem _ h)
 ·rcases List.mem_append.1 h with h|h
  ·exact F.g a (List.mem_append_left _ h)
  ·rcases List.mem_cons.1 h with h|h
   ·rw[h];exact F.g (b,cs) (List.mem_append_right _ (List.mem_cons_self ..))
   ·exact F.g a (List.mem_append_right _ (List.mem_cons_of_mem _ h))
theorem Fm.put (F:Fm C gt cap base S0 w0 S q (l1++(b,#[v0,v1,v2,v3,v4,v5,v6,v7,v8,v9,v10,v11])::bs) w) (z H L I A M E K D J j n:Value):Fm C gt cap base S0 w0 S q (l1++(b,#[z,H,L,I,A,M,E,K,D,J,j,n])::bs) (set12 w b z H L I A M E K D J j n):=
 have h:Bx gt S w b #[v0,v1,v2,v3,v4,v5,v6,v7,v8,v9,v10,v11]:=F.x (b,_) (List.mem_append_right _ (List.mem_cons_self ..))
 F.turn (h.put ..) (fun _ N _ O=>O.other N ..) (F.m.put h ..) (F.t.put (F.g (b,_) (List.mem_append_right _ (List.mem_cons_self ..))) ..)
theorem Fm.put0 (F:Fm C gt cap base S0 w0 S q ((b,#[v0,v1,v2,v3,v4,v5,v6,v7,v8,v9,v10,v11])::bs) w) (n E K H z L D J A I h j:Value):Fm C gt cap base S0 w0 S q ((b,#[n,E,K,H,z,L,D,J,A,I,h,j])::bs) (set12 w b n E K H z L D J A I h j):=Fm.put (l1:=[]) F ..
theorem Fm.put1 (F:Fm C gt cap base S0 w0 S q ((b0,c0)::(b,#[v0,v1,v2,v3,v4,v5,v6,v7,v8,v9,v10,v11])::bs) w) (n E K H z L D J A I h j:Value):Fm C gt cap base S0 w0 S q ((b0,c0)::(b,#[n,E,K,H,z,L,D,J,A,I,h,j])::bs) (set12 w b n E K H z L D J A I h j):=Fm.put (l1:=[(b0,c0)]) F ..
theorem Fm.put2 (F:Fm C gt cap base S0 w0 S q ((b0,c0)::(b1,c1)::(b,#[v0,v1,v2,v3,v4,v5,v6,v7,v8,v9,v10,v11])::bs) w) (n E K H z L D J A I h j:Value):Fm C gt cap base S0 w0 S q ((b0,c0)::(b1,c1)::(b,#[n,E,K,H,z,L,D,J,A,I,h,j])::bs) (set12 w b n E K H z L D J A I h j):=Fm.put (l1:=[(b0,c0),(b1,c1)]) F ..
theorem Fm.put3 (F:Fm C gt cap base S0 w0 S q ((b0,c0)::(b1,c1)::(b2,c2)::(b,#[v0,v1,v2,v3,v4,v5,v6,v7,v8,v9,v10,v11])::bs) w) (n E K H z L D J A I h j:Value):Fm C gt cap base S0 w0 S q ((b0,c0)::(b1,c1)::(b2,c2)::(b,#[n,E,K,H,z,L,D,J,A,I,h,j])::bs) (set12 w b n E K H z L D J A I h j):=Fm.put (l1:=[(b0,c0),(b1,c1),(b2,c2)]) F ..
theorem Fm.set0_1 (F:Fm C gt cap base S0 w0 S q ((b,#[v0,v1,v2,v3,v4,v5,v6,v7,v8,v9,v10,v11])::bs) w) (u:Value):Fm C gt cap base S0 w0 S q ((b,#[v0,u,v2,v3,v4,v5,v6,v7,v8,v9,v10,v11])::bs) (w.setCell ⟨b,1,none⟩ u):=
 have h:Bx gt S w b #[v0,v1,v2,v3,v4,v5,v6,v7,v8,v9,v10,v11]:=F.x (b,_) (by simp)
 Fm.turn (l1:=[]) F (h.at1 u) (fun _ n _ j=>j.set_other n 1 u) (F.m.set h 1 u) (F.t.set (F.g (b,#[v0,v1,v2,v3,v4,v5,v6,v7,v8,v9,v10,v11]) (by simp)) 1 u)
theorem Fm.set0_11 (F:Fm C gt cap base S0 w0 S q ((b,#[v0,v1,v2,v3,v4,v5,v6,v7,v8,v9,v10,v11])::bs) w) (u:Value):Fm C gt cap base S0 w0 S q ((b,#[v0,v1,v2,v3,v4,v5,v6,v7,v8,v9,v10,u])::bs) (w.setCell ⟨b,11,none⟩ u):=
 have h:Bx gt S w b #[v0,v1,v2,v3,v4,v5,v6,v7,v8,v9,v10,v11]:=F.x (b,_) (by simp)
 Fm.turn (l1:=[]) F (h.at11 u) (fun _ n _ j=>j.set_other n 11 u) (F.m.set h 11 u) (F.t.set (F.g (b,#[v0,v1,v2,v3,v4,v5,v6,v7,v8,v9,v10,v11]) (by simp)) 11 u)
theorem Fm.set2_1 (F:Fm C gt cap base S0 w0 S q ((b0,c0)::(b1,c1)::(b,#[v0,v1,v2,v3,v4,v5,v6,v7,v8,v9,v10,v11])::bs) w) (u:Value):Fm C gt cap base S0 w0 S q ((b0,c0)::(b1,c1)::(b,#[v0,u,v2,v3,v4,v5,v6,v7,v8,v9,v10,v11])::bs) (w.setCell ⟨b,1,none⟩ u):=
 have h:Bx gt S w b #[v0,v1,v2,v3,v4,v5,v6,v7,v8,v9,v10,v11]:=F.x (b,_) (by simp)
 Fm.turn (l1:=[(b0,c0),(b1,c1)]) F (h.at1 u) (fun _ n _ j=>j.set_other n 1 u) (F.m.set h 1 u) (F.t.set (F.g (b,#[v0,v1,v2,v3,v4,v5,v6,v7,v8,v9,v10,v11]) (by simp)) 1 u)
theorem Fm.of2 (n:Bx gt S w b0 c0) (D:Bx gt S w b1 c1) (m:Mem C gt cap base S q w) (t:SB w0.heap.size S0 w0 S w) (h:b0≠b1) (A:w0.heap.size≤b0) (z:w0.heap.size≤b1):Fm C gt cap base S0 w0 S q [(b0,c0),(b1,c1)] w:=by
 refine⟨fun b j=>?_,by simp[h],fun b j=>?_,m,t⟩
 ·simp at j
  rcases j with rfl|rfl
  ·exact n
  ·exact D
 ·simp at j
  rcases j with rfl|rfl
  ·exact A
  ·exact z
theorem Fm.cut {P:Program} {j:Code} {Q:Exit→Act→World→Prop} {a:Act} (F:Fm C gt cap base S0 w0 S q bs w) (h: ∀W,Fm C gt cap base S0 w0 S q bs W→Code.wp P j Q a W):Code.wp P j Q a w:=h w F
theorem Fm.cutR {P:Program} {j:Code} {Q:Exit→Act→World→Prop} {a:Act} {RW:World→Prop} (F:Fm C gt cap base S0 w0 S q bs w) (r:RW w) (h: ∀W,Fm C gt cap base S0 w0 S q bs W→RW W→Code.wp P j Q a W):Code.wp P j Q a w:=h w F r
theorem Mem.fm {n j:Array Value} (h:Mem C gt cap base S q w) (z:Below ((w.alloc (.cells n 122 (0,0))).alloc (.cells j 122 (0,0))).heap.size ((w.alloc (.cells n 122 (0,0))).alloc (.cells j 122 (0,0))) w1):Fm C gt cap base S w S q [(w.heap.size,n),(w.heap.size+1,j)] w1:=
 have⟨h1,h2,h3,h4⟩:=h.two z
 Fm.of2 h1 h2 h3 h4 (by omega) (by omega) (by omega)
theorem Mem.fm2 {n j:Array Value} (h:Mem C gt cap base S q w) (m:Mem C gt cap base S1 q1 w1) (s:Stp S ((w.alloc (.cells n 122 (0,0))).alloc (.cells j 122 (0,0))) S1 w1):Fm C gt cap base S w S1 q1 [(w.heap.size,n),(w.heap.size+1,j)] w1:=
 have⟨h1,h2,h3⟩:=h.two2 s
 Fm.of2 h1 h2 m h3 (by omega) (by omega) (by omega)
end
theorem zja {C:Cx} {gt cap base:Nat} {y:PR} {d:Nat} {S h:Sv} {w j:World} {q':PS} {z':Int} {v:Value} (q:v=pv C gt cap h q' z' d) (A:Is y q' z') (n:Mem C gt cap base h q' j) (z:SB w.heap.size S w h j):Out C gt cap base y d S w (.returned v) j:=
 ⟨h,q',z',by rw[q],A,n,z.done⟩
theorem Fm.done {C:Cx} {gt cap base:Nat} {y:PR} {d:Nat} {S h:Sv} {w j:World} {q':PS} {z':Int} {v:Value} {bs:List (Nat×Array Value)} (F:Fm C gt cap base S w h q' bs j) (q:v=pv C gt cap h q' z' d) (n:Is y q' z'):Out C gt cap base y d S w (.returned v) j:=zja q n F.m F.t
structure Row (S:Sv) (w:World) (base B:Nat) (r:Rw) (l:List Ep):Prop where
 own:OwnR w base 86 4 r l.length (l.flatMap epL)
 free: ∀k,r.blk=some k→¬S.has k
 new: ∀k,r.blk=some k→B≤k
 addr: ∃g,r.a=some ⟨g,0,none⟩
theorem Row.ne {A b:Nat} {S:Sv} {w:World} {j B:Nat} {r:Rw} {l:List Ep} {q:Array Value} (h:Row S w j B r l) (z:Bx A S w b q): ∀k,r.blk=some k→k≠b:=by
 rintro k n rfl
 obtain⟨_,_,c,g⟩:=h.own.typed n
 rw[z.heap] at g
 simp only[Option.some.injEq,Obj.cells.injEq] at g
 exact absurd g.2.1 (by decide)
theorem Row.stp {S q:Sv} {w z:World} {j B:Nat} {r:Rw} {l:List Ep} (h:Row S w j B r l) (s:Stp S w q z):Row q z j B r l:=
 ⟨h.own.keep fun k n=>s.block k (h.own.typed n).2.1 (h.free k n),fun k n g=>(s.sub k g).elim (h.free k n) fun A=>by have:=(h.own.typed n).2.1;omega,h.new,h.addr⟩
theorem Row.below {S:Sv} {w n:World} {j B:Nat} {r:Rw} {l:List Ep} (h:Row S w j B r l) (s:Below w.heap.size w n):Row S n j B r l:=h.stp (Stp.below s)
theorem Row.alloc {S:Sv} {w:World} {j B:Nat} {r:Rw} {l:List Ep} (h:Row S w j B r l) (o:Obj):Row S (w.alloc o) j B r l:=h.below ((Below.refl _ _).alloc (Nat.le_refl _) _)
theorem Row.drew {S:Sv} {w:World} {j B:Nat} {r:Rw} {l:List Ep} (h:Row S w j B r l):Row S w.drew j B r l:=⟨h.own,h.free,h.new,h.addr⟩
theorem Row.set {A b:Nat} {S:Sv} {w:World} {j B:Nat} {r:Rw} {l:List Ep} {q:Array Value} (h:Row S w j B r l) (z:Bx A S w b q) (i:Nat) (u:Value):Row S (w.setCell ⟨b,i,none⟩ u) j B r l:=
 ⟨h.own.keep fun k n=>zt (h.ne z k n),h.free,h.new,h.addr⟩
theorem Row.put {N b:Nat} {S:Sv} {w:World} {j B:Nat} {r:Rw} {l:List Ep} {H:Array Value} (h:Row S w j B r l) (L:Bx N S w b H) (A K U M E V J O I z n q:Value):Row S (set12 w b A K U M E V J O I z n q) j B r l:=
 ⟨h.own.keep fun k D=>ze3 (h.ne L k D) _ _ _ _ _ _ _ _ _ _ _ _,h.free,h.new,h.addr⟩
theorem Row.nil {C:Cx} {A z j B:Nat} {S:Sv} {q:PS} {w:World} (h:Mem C A z j S q w) (D:B≤w.heap.size):Row S (w.alloc (.cells #[] 86 (0,0))) j B ⟨some ⟨w.heap.size,0,none⟩,0⟩ []:=by
 refine⟨World.ownsRow_lit w #[] 0 h.base (by unfold maxLen;omega) rfl,fun k n g=>?_,fun k n=>?_,⟨_,rfl⟩⟩
 ·simp only[Rw.blk,Value.ownBlock,Option.some.injEq] at n
  have:=(h.own.has g).2
  omega
 ·simp only[Rw.blk,Value.ownBlock,Option.some.injEq] at n
  omega
theorem Row.grow {C:Cx} {I D j B:Nat} {S:Sv} {q:PS} {W A:World} {r H:Rw} {l:List Ep} {x:Ep} (h:Row S W j B r l) (z:Mem C I D j S q W) (U:B≤W.heap.size) (M:W.grownBy A r.blk) (L:OwnR A j 86 4 H (l.length+1) (l.flatMap epL++epL x)) (E:H.blk=r.blk∨H.blk=some W.heap.size):
  Row S A j B H (l++[x])∧Mem C I D j S q A:=by
 refine⟨⟨?_,fun k w g=>?_,fun k w=>?_,L.addr.resolve_left (by omega)⟩,?_⟩
 ·have e:(l++[x]).length=l.length+1:=by simp
  rw[e]
  simpa using L
 ·rcases E with e|e
  ·exact h.free k (by rw[←e];exact w) g
  ·have N:W.heap.size=k:=Option.some.inj (e.symm.trans w)
   have:=(z.own.has g).2
   omega
 ·rcases E with e|e
  ·exact h.new k (by rw[←e];exact w)
  ·have N:W.heap.size=k:=Option.some.inj (e.symm.trans w)
   omega
 ·have n: ∀k,k<W.heap.size→r.blk≠some k→A.heap[k]? =W.heap[k]?:=fun k w J=>M.block k w fun e=>J e.symm
  refine⟨z.own.keep fun k w=>n k (z.own.has w).2 fun e=>h.free k e w,z.inv,zbo z.tok (n I (zaj z.tok).1 fun e=>?_),z.few,Nat.le_trans z.base M.size⟩
  obtain⟨_,_,c,g⟩:=h.own.typed e
  obtain⟨O,K⟩:=zeK z.tok
  rw[g] at K
  simp only[Option.some.injEq,Obj.cells.injEq] at K
  exact absurd K.2.1 (by decide)
theorem Row.bx {q b:Nat} {S:Sv} {W w:World} {n B:Nat} {r:Rw} {l:List Ep} {z:Array Value} (h:Row S W n B r l) (j:Bx q S W b z) (A:W.grownBy w r.blk):Bx q S w b z:=
 ⟨(A.block b j.lt fun e=>h.ne j b e.symm rfl).trans j.heap,j.free,j.ne⟩
theorem Row.sb {S S0:Sv} {w W z:World} {n:Nat} {B:Nat} {r:Rw} {l:List Ep} (h:Row S W n B r l) (j:SB B S0 w S W) (q:W.grownBy z r.blk):SB B S0 w S z:=
 ⟨q.os.trans j.os,q.tape.trans j.tape,q.output.trans j.output,Nat.le_trans j.size q.size,j.low,fun k A D=>(q.block k (by have:=j.size;have:=j.low;omega) fun e=>by have:=h.new k e.symm;omega).trans (j.block k A D),j.sub⟩
theorem Mem.list3 {C:Cx} {H E j:Nat} {S z:Sv} {q:PS} {w n:World} {D A:Array Value} (h:Mem C H E j S q w) (s:Stp S (((w.alloc (.cells D 122 (0,0))).alloc (.cells A 122 (0,0))).alloc (.cells #[] 86 (0,0))) z n):
  Bx H z n w.heap.size D∧Bx H z n (w.heap.size+1) A∧Row z n j w.heap.size ⟨some ⟨w.heap.size+1+1,0,none⟩,0⟩ []∧SB w.heap.size S w z n:=by
 refine⟨(((Bx.new h _).alloc _).alloc _).stp s,?_,?_,(SB.start (zcz w _ _ _)).step s⟩
 ·have:=((Bx.new (h.alloc (.cells D 122 (0,0))) A).alloc (.cells #[] 86 (0,0))).stp s
  rw[zk] at this
  exact this
 ·have:=(Row.nil (B:=w.heap.size) ((h.alloc (.cells D 122 (0,0))).alloc (.cells A 122 (0,0))) (zaJ w _ _).size).stp s
  rw[zcm] at this
  exact this
def Is3 (y:PRL) (q:PS) (z:Int) (l:List Ep):Prop:=
 match y with
 | .ok a=>q=a.1∧z= -1∧l=a.2
 | .error e=>z=(e:Int)
def zpb (C:Cx) (gt cap base:Nat) (y:PRL) (d:Nat) (S:Sv) (w:World) (e:Ending) (w':World):Prop:=
 ∃S' q' z' r l,e= .returned (.tuple #[pv C gt cap S' q' z' d,.slice r.a l.length r.cap,.bool (za4 l)])∧Is3 y q' z' l∧Mem C gt cap base S' q' w'∧Stp S w S' w'∧Row S' w' base w.heap.size r l∧l.length≤4001
theorem zjb (l:List Ep) (x:Ep):za4 (l++[x])=(za4 l||(x.loc.toList==[100,101,102,97,117,108,116])):=by simp[za4]
theorem zpc {n:Func} {p u v:Tmp} {q:TypeId} (h:n.results= #[.cell p q,.tmp u,.tmp v]) (tmps:Array Value) (P:Program) (w:World):
  (results n tmps).run P w=((asAddr (tmps.getD p undef)).run P w).andThen fun a z=>((loadVar q a).run P z).andThen fun x j=>.ok (.tuple #[x,tmps.getD u undef,tmps.getD v undef]) j:=by
 simp only[results,h]
 simp[Sem.run_bind,Result.andThen]
theorem zjc {P:Program} {q:Func} {p u v:Tmp} {n:TypeId} (h:q.results= #[.cell p n,.tmp u,.tmp v]) (tmps:Array Value) (w:World) (g:Nat) (t:TypeId) (j:Array Value) (z:Nat×Nat) (d:TypeDesc)
  (D:tmps.getD p undef= .pointer (some ⟨g,0,none⟩)) (H:w.heap[g]? =some (.cells j t z))
  (E:P.underlying n=some d) (A:(match d with| .struct _| .array _ _=>true|_=>false)=true) (I:(P.info? n).map (·.size)=some j.size):
  (results q tmps).run P w= .ok (.tuple #[.agg j,tmps.getD u undef,tmps.getD v undef]) w:=by
 rw[zpc h,D]
 simp[asAddr,Result.andThen,run_loadVar_row w g t n j z d H E A I]
theorem zaX {C:Cx} {x:PR} {k:Int} {s:ByteArray} {q:PS} {z:Int} (h:Is (bd x (zd C k s)) q z):z<0→1≤q.pos:=by
 intro n
 obtain⟨e,_⟩:=za6 h n
 obtain⟨a,_,j⟩:=zj e
 obtain⟨rfl,_⟩:=zbx j
 simp[adv]
theorem zgv (C:Cx) (A j h:Nat) (S:Sv) (q:PS) (d:Nat) (z:ByteArray) (w:World) (L:Mem C A j h S q w) (hp:1≤q.pos):
  Calls Tryz.prog 202 #[pv C A j S q (-1) d,.string z] w (Out C A j h (zbm C z q) d S w):=by
 have V:=zc L
 have n:=L.tok
 have D:=L.few
 clear L
 cases K:isT C q.pos 4 zm with
 |true=>
  have U:Hid (zbm C z q=bd (bd (bd (.ok q) (zd C 4 zm)) (zd C 4 zaw)) (zL C ⟨3,0,z,sNone,0,0⟩)):=if_pos K
  unfold pv
  go_enter Tryz.func202,Tryz.ntmps202
  go_wp2_with fail
  refine (zg C A j h S q (-1) d 4 zm _ (zo (zo n _) _) D (by decide)).mono ?_
  rintro e w1 ⟨rfl,H⟩
  rw[K]
  have F:=V.out.fm H
  clear n
  have I:=F.x0.boxC
  go_wp2_with fail
  refine (zZ C A j h (.ok q) S q (-1) d zm _ (zT q) F.m).mono ?_
  rintro e w2 ⟨Y,Z,X,rfl,E,M,N⟩
  replace F:=F.stp M N
  clear I
  go_wp2_with fail
  refine (zZ C A j h _ Y Z X d zaw _ E.out F.m).mono ?_
  rintro e w3 ⟨S3,q3,z3,rfl,J,m3,s3⟩
  replace F:=F.stp m3 s3
  have I:=F.x0.boxC
  unfold pv
  go_wp2_with fail
  refine (zc0 C A j h _ S3 q3 z3 d ⟨3,0,z,sNone,0,0⟩ _ J.out (F.put0 ..).m (zaX J.out)).mono ?_
  rintro e w4 ⟨S4,q4,z4,rfl,O,m4,s4⟩
  replace F:=(F.put0 ..).stp m4 s4
  clear I
  have bb:=F.x1.boxC
  unfold pv
  go_wp2
  refine (F.x1.put ..).ret rfl rfl ?_
  rw[U.out]
  exact (F.put1 ..).done rfl O.out
 |false=>
  have U:Hid (zbm C z q=bd (.ok q) (zL C ⟨2,0,z,sNone,0,0⟩)):=by show zbm C z q=_;rw[zbm,K];rfl
  unfold pv
  go_enter Tryz.func202,Tryz.ntmps202
  go_wp2_with fail
  refine (zg C A j h S q (-1) d 4 zm _ (zo (zo n _) _) D (by decide)).mono ?_
  rintro e w1 ⟨rfl,H⟩
  rw[K]
  have F:=V.out.fm H
  clear n
  have I:=F.x0.boxC
  go_wp2_with fail
  refine (zc0 C A j h (.ok q) S q (-1) d ⟨2,0,z,sNone,0,0⟩ _ (zT q) F.m (fun _=>hp)).mono ?_
  rintro e w2 ⟨Y,Z,X,rfl,E,M,N⟩
  replace F:=F.stp M N
  clear I
  have bb:=F.x1.boxC
  unfold pv
  go_wp2
  refine (F.x1.put ..).ret rfl rfl ?_
  rw[U.out]
  exact (F.put1 ..).done rfl E.out
end Go.Proofs.YtjdddblpfbmpaaaGreat
