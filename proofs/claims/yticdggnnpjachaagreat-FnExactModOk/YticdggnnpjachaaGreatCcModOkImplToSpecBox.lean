/-
  What impl.ModOk answers: the walk.
  What l5Expr of the specification answers of a product: the walk.
  What l5Expr of the specification answers,whole. No walk is zq.
  What l5As,l5Quote,l5Imp,l5Exp and l5Stmt of the specification answer: the walks.
  What spec.Print answers: the walk.
  What spec's l4Spec answers: the walk.
  Boxes of a program under way,through calls and stores. No program is spoken of but for the numbers of its types.
-/
import Derived.Test.YticdggnnpjachaaGreatCcImplParseAll
namespace Go.Proofs.YticdggnnpjachaaGreat
set_option maxRecDepth 100000
set_option maxHeartbeats 12800000
open Go.RowKit Go.PlainAid Go.Sort
theorem zoz (o:Nat) (S:Sv) (m:Md) (H:Bool) (w:World) (h:OwnMd w o S m) (hm:Small m) (U:Tree m→(zb6 m).size≤4294967296):
  Calls Tryz.prog 14 #[zt S m,.bool H] w fun e w'=>zh6 (zb6 m) m H e∧Below w.heap.size w w':=by
 have HH:=zc h
 have SM:=zc hm
 have HU:=zc U
 have SF:Hid (zdM m):=hm.few
 clear h hm U
 unfold zt
 go_enter Tryz.func14,Tryz.ntmps14
 go_upto_region 1 with fail
 have E:Hid (Below w.heap.size w (w.alloc (.cells #[.slice S.rq.a m.rq.length S.rq.cap,.slice S.im.a m.im.length S.im.cap,.slice S.ep.a m.ep.length S.ep.cap,.slice S.st.a m.st.length S.st.cap,.slice S.ex.a m.ex.length S.ex.cap] 28))):=(Below.refl _ _).alloc (Nat.le_refl _) _
 refine zah (R:=fun W=>W.heap[w.heap.size]? =some (.cells #[.slice S.rq.a m.rq.length S.rq.cap,.slice S.im.a m.im.length S.im.cap,.slice S.ep.a m.ep.length S.ep.cap,.slice S.st.a m.st.length S.st.cap,.slice S.ex.a m.ex.length S.ex.cap] 28 (0,0))∧OwnMd W o S m∧Below w.heap.size w W) ⟨heap_alloc_new w _,HH.out.later E.out,E.out⟩ ?_
 obtain⟨gx,K⟩: ∃gx,gx=w.heap.size:=⟨_,rfl⟩
 rw[←K]
 rintro w1 ⟨hx,ho,z⟩
 rw[K] at z
 clear K E HH
 have X1:=zc hx
 have O1:=zc ho
 have O:=zc z
 clear hx ho z
 obtain⟨c0,c1,c2,c3,c4,cf⟩:=zk X1.out
 go_wp2_with fail
 refine (zmM o S m H w1 O1.out SM.out (fun t=>Nat.le_trans (HU.out t) (by omega))).mono ?_
 rintro e w2 ⟨A,z⟩
 obtain⟨t,L,rfl⟩:=A.form
 have PR:=zc L
 have ht:=L.size HU.out
 have X2:=zc ((z.block _ (Array.getElem?_eq_some_iff.1 X1.out).1).trans X1.out)
 have O2:=zc (O1.out.later z)
 have V:=zc (O.out.trans (z.mono O.out.size))
 clear A L z c0 c1 c2 c3 c4 cf
 go_wp2_with fail
 refine (zoy t H w2 ht).mono ?_
 rintro e M ⟨A,z⟩
 have X3:=zc ((z.block _ (Array.getElem?_eq_some_iff.1 X2.out).1).trans X2.out)
 have O3:=zc (O2.out.later z)
 have D:=zc (V.out.trans (z.mono V.out.size))
 clear z
 rcases A.md with ⟨q,j,n,Y,hn,rfl,I,J⟩|⟨p,Y,rfl⟩
 ·have OK:=zc (zh8 (m:=m) Y hn)
  have O4:=zc I
  have NF:=zc J
  clear A Y hn I J
  unfold zt
  go_upto_region 2 with fail
  have E:Hid (Below M.heap.size M (M.alloc (.cells #[.slice j.rq.a n.rq.length j.rq.cap,.slice j.im.a n.im.length j.im.cap,.slice j.ep.a n.ep.length j.ep.cap,.slice j.st.a n.st.length j.st.cap,.slice j.ex.a n.ex.length j.ex.cap] 28))):=(Below.refl _ _).alloc (Nat.le_refl _) _
  refine zah (R:=fun W=>W.heap[gx]? =some (.cells #[.slice S.rq.a m.rq.length S.rq.cap,.slice S.im.a m.im.length S.im.cap,.slice S.ep.a m.ep.length S.ep.cap,.slice S.st.a m.st.length S.st.cap,.slice S.ex.a m.ex.length S.ex.cap] 28 (0,0))∧W.heap[M.heap.size]? =some (.cells #[.slice j.rq.a n.rq.length j.rq.cap,.slice j.im.a n.im.length j.im.cap,.slice j.ep.a n.ep.length j.ep.cap,.slice j.st.a n.st.length j.st.cap,.slice j.ex.a n.ex.length j.ex.cap] 28 (0,0))∧OwnMd W o S m∧OwnMd W w2.heap.size j n∧Below w.heap.size w W) ⟨(E.out.block _ (Array.getElem?_eq_some_iff.1 X3.out).1).trans X3.out,heap_alloc_new M _,O3.out.later E.out,O4.out.later E.out,D.out.trans (E.out.mono D.out.size)⟩ ?_
  obtain⟨gy,X⟩: ∃gy,gy=M.heap.size:=⟨_,rfl⟩
  rw[←X]
  intro w4 h4
  have N:=zc h4
  clear h4 X E X3 O3 O4 D
  obtain⟨c0,c1,c2,c3,c4,cf⟩:=zk N.out.1
  obtain⟨d0,d1,d2,d3,d4,df⟩:=zk N.out.2.1
  go_wp2_with fail
  refine ((zlG o w2.heap.size S j m n _ N.out.2.2.1 N.out.2.2.2.1 SF.out)).mono ?_
  rintro e w5 ⟨⟨r,rfl,hr⟩,z⟩
  have HR:=zc hr
  have Z:=zc (N.out.2.2.2.2.trans (z.mono N.out.2.2.2.2.size))
  clear hr z c0 c1 c2 c3 c4 cf d0 d1 d2 d3 d4 df
  go_wp2
  go_ret
  exact⟨⟨t,PR.out,r,rfl,HR.out.trans (Iff.trans ⟨Eq.symm,Eq.symm⟩ OK.out.symm)⟩,Z.out⟩
 ·have NO:=zc (zh7 (m:=m) Y)
  clear A Y
  go_wp2
  go_ret
  exact⟨⟨t,PR.out,false,rfl,⟨fun k=>(by cases k),fun k=>absurd k NO.out⟩⟩,(D.out.alloc D.out.size _)⟩
theorem zo0 (o g:Nat) (S:Sv) (m:Md) (i n j:Nat) (k E:Int) (A z:ByteArray) (w:World) (H:S.ex.a=some ⟨g,0,none⟩) (h:OwnMd w o S m) (hi:i<m.ex.length) (ae:g<w.heap.size) (c0:w.cell? ⟨g,i*6,none⟩=some (.int .i64 k)) (c1:w.cell? ⟨g,i*6+1,none⟩=some (.int .i64 E)) (c2:w.cell? ⟨g,i*6+2,none⟩=some (.string A)) (c3:w.cell? ⟨g,i*6+3,none⟩=some (.string z)) (c4:w.cell? ⟨g,i*6+4,none⟩=some (.int .i64 (n:Int))) (c5:w.cell? ⟨g,i*6+5,none⟩=some (.int .i64 (j:Int))) (k1:(k==1)=false) (k2:(k==2)=false) (k3:(k==3)=false) (k4:(k==4)=false) (k5:(k==5)=false) (k6:(k==6)=false) (k7:(k==7)=false) (k8:(k==8)=true) (K:(zC (zL (m.ex.getD n zf).kind) (prX m.ex n)++tStar++zC (zT (m.ex.getD j zf).kind) (prX m.ex j)).size≤1099511627776) (he:zdP o S m i) (hl:n<i) (hr:j<i) (ad:wt m.ex n≤1099511627776) (af:wt m.ex j≤1099511627776):
  Calls Tryz.prog 123 #[zt S m,.int .i64 i] w fun e w'=>e= .returned (.string (zC (zL (m.ex.getD n zf).kind) (prX m.ex n)++tStar++zC (zT (m.ex.getD j zf).kind) (prX m.ex j)))∧Below w.heap.size w w':=by
 have al:(i:Int)<(m.ex.length:Int):=by omega
 have HA:Hid (OwnMd ((w.alloc (.cells #[.slice S.rq.a m.rq.length S.rq.cap,.slice S.im.a m.im.length S.im.cap,.slice S.ep.a m.ep.length S.ep.cap,.slice S.st.a m.st.length S.st.cap,.slice (some ⟨g,0,none⟩) m.ex.length S.ex.cap] 28)).alloc (.cells #[.int .i64 k,.int .i64 E,.string A,.string z,.int .i64 (n:Int),.int .i64 (j:Int)] 108)) o S m):=(h.alloc _).alloc _
 have HE:=zc he
 have I:Hid (zt S m= .agg #[.slice S.rq.a m.rq.length S.rq.cap,.slice S.im.a m.im.length S.im.cap,.slice S.ep.a m.ep.length S.ep.cap,.slice S.st.a m.st.length S.st.cap,.slice (some ⟨g,0,none⟩) m.ex.length S.ex.cap]):=by show _=_;rw[zt,H]
 have ah:(n:Int)<(m.ex.length:Int):=by omega
 have ak:(j:Int)<(m.ex.length:Int):=by omega
 obtain⟨g2,hg2,-,d0,-,-,-,-,-⟩:=h.expr (i:=j) (by omega)
 have eg:g2=g:=by have:=hg2.symm.trans H;simpa using this
 rw[eg] at d0
 obtain⟨L,U⟩: ∃L,(m.ex.getD j zf).kind=L:=⟨_,rfl⟩
 rw[U] at d0
 have aa:=zc U
 obtain⟨tl,M⟩: ∃tl,zC (zL (m.ex.getD n zf).kind) (prX m.ex n)=tl:=⟨_,rfl⟩
 obtain⟨tr,V⟩: ∃tr,zC (zT (m.ex.getD j zf).kind) (prX m.ex j)=tr:=⟨_,rfl⟩
 rw[M,V] at K
 have O:=zc M
 have Z:=zc V
 obtain⟨kl,N⟩: ∃kl,(m.ex.getD n zf).kind=kl:=⟨_,rfl⟩
 have cK: ∀d D,Calls Tryz.prog 165 #[.agg #[.slice S.rq.a m.rq.length S.rq.cap,.slice S.im.a m.im.length S.im.cap,.slice S.ep.a m.ep.length S.ep.cap,.slice S.st.a m.st.length S.st.cap,.slice (some ⟨g,0,none⟩) m.ex.length S.ex.cap],.int .i64 (n:Int)] (grow (redrawn ((w.alloc (.cells #[.slice S.rq.a m.rq.length S.rq.cap,.slice S.im.a m.im.length S.im.cap,.slice S.ep.a m.ep.length S.ep.cap,.slice S.st.a m.st.length S.st.cap,.slice (some ⟨g,0,none⟩) m.ex.length S.ex.cap] 28)).alloc (.cells #[.int .i64 k,.int .i64 E,.string A,.string z,.int .i64 (n:Int),.int .i64 (j:Int)] 108)) d) D) fun e q=>e= .returned (.bool (zL kl))∧∃p:Regrown,q=grow (redrawn ((w.alloc (.cells #[.slice S.rq.a m.rq.length S.rq.cap,.slice S.im.a m.im.length S.im.cap,.slice S.ep.a m.ep.length S.ep.cap,.slice S.st.a m.st.length S.st.cap,.slice (some ⟨g,0,none⟩) m.ex.length S.ex.cap] 28)).alloc (.cells #[.int .i64 k,.int .i64 E,.string A,.string z,.int .i64 (n:Int),.int .i64 (j:Int)] 108)) p.d) p.os:=fun d D=>Calls.regrown_of (by rw[←I.out,←N];exact zgb o S m n _ (HA.out.later (below_regrown _ d D)) (by omega))
 have cL: ∀d D,Calls Tryz.prog 164 #[.agg #[.slice S.rq.a m.rq.length S.rq.cap,.slice S.im.a m.im.length S.im.cap,.slice S.ep.a m.ep.length S.ep.cap,.slice S.st.a m.st.length S.st.cap,.slice (some ⟨g,0,none⟩) m.ex.length S.ex.cap],.int .i64 (n:Int),.bool (zL kl)] (grow (redrawn ((w.alloc (.cells #[.slice S.rq.a m.rq.length S.rq.cap,.slice S.im.a m.im.length S.im.cap,.slice S.ep.a m.ep.length S.ep.cap,.slice S.st.a m.st.length S.st.cap,.slice (some ⟨g,0,none⟩) m.ex.length S.ex.cap] 28)).alloc (.cells #[.int .i64 k,.int .i64 E,.string A,.string z,.int .i64 (n:Int),.int .i64 (j:Int)] 108)) d) D) fun e q=>e= .returned (.string tl)∧∃p:Regrown,q=grow (redrawn ((w.alloc (.cells #[.slice S.rq.a m.rq.length S.rq.cap,.slice S.im.a m.im.length S.im.cap,.slice S.ep.a m.ep.length S.ep.cap,.slice S.st.a m.st.length S.st.cap,.slice (some ⟨g,0,none⟩) m.ex.length S.ex.cap] 28)).alloc (.cells #[.int .i64 k,.int .i64 E,.string A,.string z,.int .i64 (n:Int),.int .i64 (j:Int)] 108)) p.d) p.os:=fun d D=>Calls.regrown_of (by rw[←I.out,←O.out,N];exact zfj o S m i n _ _ HE.out (by omega) (by omega) (HA.out.later (below_regrown _ d D)) ad)
 have cS: ∀d D,Calls Tryz.prog 121 #[.int .i64 L] (grow (redrawn ((w.alloc (.cells #[.slice S.rq.a m.rq.length S.rq.cap,.slice S.im.a m.im.length S.im.cap,.slice S.ep.a m.ep.length S.ep.cap,.slice S.st.a m.st.length S.st.cap,.slice (some ⟨g,0,none⟩) m.ex.length S.ex.cap] 28)).alloc (.cells #[.int .i64 k,.int .i64 E,.string A,.string z,.int .i64 (n:Int),.int .i64 (j:Int)] 108)) d) D) fun e q=>e= .returned (.bool (zT L))∧∃p:Regrown,q=grow (redrawn ((w.alloc (.cells #[.slice S.rq.a m.rq.length S.rq.cap,.slice S.im.a m.im.length S.im.cap,.slice S.ep.a m.ep.length S.ep.cap,.slice S.st.a m.st.length S.st.cap,.slice (some ⟨g,0,none⟩) m.ex.length S.ex.cap] 28)).alloc (.cells #[.int .i64 k,.int .i64 E,.string A,.string z,.int .i64 (n:Int),.int .i64 (j:Int)] 108)) p.d) p.os:=fun d D=>Calls.regrown_of ((zhP L _).mono (by rintro e w' ⟨rfl,rfl⟩;exact⟨rfl,Below.refl _ _⟩))
 have cR: ∀d D,Calls Tryz.prog 164 #[.agg #[.slice S.rq.a m.rq.length S.rq.cap,.slice S.im.a m.im.length S.im.cap,.slice S.ep.a m.ep.length S.ep.cap,.slice S.st.a m.st.length S.st.cap,.slice (some ⟨g,0,none⟩) m.ex.length S.ex.cap],.int .i64 (j:Int),.bool (zT L)] (grow (redrawn ((w.alloc (.cells #[.slice S.rq.a m.rq.length S.rq.cap,.slice S.im.a m.im.length S.im.cap,.slice S.ep.a m.ep.length S.ep.cap,.slice S.st.a m.st.length S.st.cap,.slice (some ⟨g,0,none⟩) m.ex.length S.ex.cap] 28)).alloc (.cells #[.int .i64 k,.int .i64 E,.string A,.string z,.int .i64 (n:Int),.int .i64 (j:Int)] 108)) d) D) fun e q=>e= .returned (.string tr)∧∃p:Regrown,q=grow (redrawn ((w.alloc (.cells #[.slice S.rq.a m.rq.length S.rq.cap,.slice S.im.a m.im.length S.im.cap,.slice S.ep.a m.ep.length S.ep.cap,.slice S.st.a m.st.length S.st.cap,.slice (some ⟨g,0,none⟩) m.ex.length S.ex.cap] 28)).alloc (.cells #[.int .i64 k,.int .i64 E,.string A,.string z,.int .i64 (n:Int),.int .i64 (j:Int)] 108)) p.d) p.os:=fun d D=>Calls.regrown_of (by rw[←I.out,←Z.out,aa.out];exact zfj o S m i j _ _ HE.out (by omega) (by omega) (HA.out.later (below_regrown _ d D)) af)
 have X:Hid (Six ((w.alloc (.cells #[.slice S.rq.a m.rq.length S.rq.cap,.slice S.im.a m.im.length S.im.cap,.slice S.ep.a m.ep.length S.ep.cap,.slice S.st.a m.st.length S.st.cap,.slice (some ⟨g,0,none⟩) m.ex.length S.ex.cap] 28)).alloc (.cells #[.int .i64 k,.int .i64 E,.string A,.string z,.int .i64 (n:Int),.int .i64 (j:Int)] 108)) (w.heap.size+1) (.int .i64 k) (.int .i64 E) (.string A) (.string z) (.int .i64 (n:Int)) (.int .i64 (j:Int))):=zu (zbj w _ _)
 have Y:=zc (zk (zce (o':=.cells #[.int .i64 k,.int .i64 E,.string A,.string z,.int .i64 (n:Int),.int .i64 (j:Int)] 108) (heap_alloc_new w (.cells #[.slice S.rq.a m.rq.length S.rq.cap,.slice S.im.a m.im.length S.im.cap,.slice S.ep.a m.ep.length S.ep.cap,.slice S.st.a m.st.length S.st.cap,.slice (some ⟨g,0,none⟩) m.ex.length S.ex.cap] 28))))
 have D0:Hid (((w.alloc (.cells #[.slice S.rq.a m.rq.length S.rq.cap,.slice S.im.a m.im.length S.im.cap,.slice S.ep.a m.ep.length S.ep.cap,.slice S.st.a m.st.length S.st.cap,.slice (some ⟨g,0,none⟩) m.ex.length S.ex.cap] 28)).alloc (.cells #[.int .i64 k,.int .i64 E,.string A,.string z,.int .i64 (n:Int),.int .i64 (j:Int)] 108)).cell? ⟨g,j*6,none⟩=some (.int .i64 L)):=by show _=_;rw[World.cell?_alloc_past _ _ _ (by rw[zj];omega),World.cell?_alloc_past _ _ _ ae];exact d0
 simp only[ByteArray.size_append] at K
 have ag:tStar.size=3:=rfl
 have aj:tl.size≤1099511627776:=by omega
 have am:tr.size≤1099511627776:=by omega
 have HV:Hid ((zC (zL (m.ex.getD n zf).kind) (prX m.ex n)++tStar++zC (zT (m.ex.getD j zf).kind) (prX m.ex j))=tl++tStar++tr):=by show _=_;rw[O.out,Z.out]
 unfold zt
 rw[H]
 clear H h HA HE I O Z M V U aa hg2 he K ag d0 eg N
 go_enter Tryz.func123,Tryz.ntmps123
 go_wp2_with fail
 have x0:=cell_regrown X.out.c0
 have x4:=cell_regrown X.out.c4
 have x5:=cell_regrown X.out.c5
 have y0:=cell_regrown Y.out.1
 have y1:=cell_regrown Y.out.2.1
 have y2:=cell_regrown Y.out.2.2.1
 have y3:=cell_regrown Y.out.2.2.2.1
 have y4:=cell_regrown Y.out.2.2.2.2.1
 have e0:=cell_regrown D0.out
 refine wp_region_quiet_below (by kernel_rfl) (by kernel_rfl) ?_
 repeat (go_big_quiet_step (first|with_reducible exact cL _ _|with_reducible exact cS _ _|with_reducible exact cR _ _|with_reducible exact cK _ _))
 refine wpQuiet_nil ?_
 intro w1 ac
 obtain⟨⟨dq,ai⟩,J⟩:=ac
 have ab:Hid (Below w.heap.size w w1):=by show Below _ _ _;rw[J];exact (zaM w _ _).trans ((below_regrown _ _ _).mono (by rw[zj,zj];omega))
 clear J
 go_wp2
 go_ret
 exact⟨zaF HV.out.symm,ab.out⟩
theorem zfx (b:Bool) (t:ByteArray):t.size≤(zC b t).size:=by
 unfold zC
 split
 ·rw[ByteArray.size_append,ByteArray.size_append]
  omega
 ·exact Nat.le_refl _
theorem zo1 (z:Nat) (S:Sv) (m:Md) (hn:zbg m.ex) (ha:zbf m.ex) (n:Nat):zdP z S m n:=by
 induction n with
 |zero=>intro i w A;omega
 |succ n ih=>
  intro i w ac A h j
  by_cases ab:i<n
  ·exact ih i w ab A h j
  ·have he:zdP z S m i:=by
    have:i=n:=by omega
    rw[this]
    exact ih
   obtain⟨g,q,o,L,N,M,O,J,I⟩:=h.expr A
   have aa:=hn (m.ex.getD i zf) (by rw[zdf A];exact List.getElem_mem A)
   have Y:=zeL ha (i:=i)
   unfold wt at j
   rw[zfC ha] at j ⊢
   generalize m.ex.getD i zf=x at*
   by_cases E:(x.kind==1)=true
   ·rw[if_pos E]
    exact zlS g S m i _ _ _ _ _ _ w q A o L N M O J I E aa
   rw[if_neg E] at j ⊢
   by_cases H:(x.kind==2)=true
   ·rw[if_pos H]
    exact zlT g S m i _ _ _ _ _ _ w q A o L N M O J I (by simpa using E) H
   rw[if_neg H] at j ⊢
   by_cases K:(x.kind==3)=true
   ·rw[if_pos K] at j ⊢
    exact zlU g S m i _ _ _ _ _ _ w q A o L N M O J I (by simpa using E) (by simpa using H) K j
   rw[if_neg K] at j ⊢
   by_cases U:(x.kind==4)=true
   ·rw[if_pos U] at j ⊢
    exact zlV g S m i _ _ _ _ _ _ w q A o L N M O J I (by simpa using E) (by simpa using H) (by simpa using K) U j
   rw[if_neg U] at j ⊢
   by_cases V:(x.kind==5)=true
   ·rw[if_pos V] at j ⊢
    exact zlW g S m i _ _ _ _ _ _ w q A o L N M O J I (by simpa using E) (by simpa using H) (by simpa using K) (by simpa using U) V j
   rw[if_neg V] at j ⊢
   by_cases X:(x.kind==6)=true
   ·rw[if_pos X] at j ⊢
    obtain⟨h1,h2,h3,h4⟩:=Y (zbr (.inl X))
    have D:=j
    rw[ByteArray.size_append,ByteArray.size_append] at D
    have s2:=zfx (zL (m.ex.getD x.r.toNat zf).kind) (prX m.ex x.r.toNat)
    exact zlY z g S m i x.l.toNat x.r.toNat _ _ _ _ w q h A o L N M O (by rw[J,Int.toNat_of_nonneg h1]) (by rw[I,Int.toNat_of_nonneg h3]) (by simpa using E) (by simpa using H) (by simpa using K) (by simpa using U) (by simpa using V) X j he (by omega) (by omega) (by unfold wt;omega) (by unfold wt;omega)
   rw[if_neg X] at j ⊢
   by_cases Z:(x.kind==7)=true
   ·rw[if_pos Z] at j ⊢
    obtain⟨h1,h2,h3,h4⟩:=Y (zbr (.inr (.inl Z)))
    have D:=j
    rw[ByteArray.size_append,ByteArray.size_append] at D
    have s2:=zfx (zL (m.ex.getD x.r.toNat zf).kind) (prX m.ex x.r.toNat)
    exact zlZ z g S m i x.l.toNat x.r.toNat _ _ _ _ w q h A o L N M O (by rw[J,Int.toNat_of_nonneg h1]) (by rw[I,Int.toNat_of_nonneg h3]) (by simpa using E) (by simpa using H) (by simpa using K) (by simpa using U) (by simpa using V) (by simpa using X) Z j he (by omega) (by omega) (by unfold wt;omega) (by unfold wt;omega)
   rw[if_neg Z] at j ⊢
   by_cases k8:(x.kind==8)=true
   ·rw[if_pos k8] at j ⊢
    obtain⟨h1,h2,h3,h4⟩:=Y (zbr (.inr (.inr k8)))
    have D:=j
    rw[ByteArray.size_append,ByteArray.size_append] at D
    have s1:=zfx (zL (m.ex.getD x.l.toNat zf).kind) (prX m.ex x.l.toNat)
    have s2:=zfx (zT (m.ex.getD x.r.toNat zf).kind) (prX m.ex x.r.toNat)
    exact zo0 z g S m i x.l.toNat x.r.toNat _ _ _ _ w q h A o L N M O (by rw[J,Int.toNat_of_nonneg h1]) (by rw[I,Int.toNat_of_nonneg h3]) (by simpa using E) (by simpa using H) (by simpa using K) (by simpa using U) (by simpa using V) (by simpa using X) (by simpa using Z) k8 j he (by omega) (by omega) (by unfold wt;omega) (by unfold wt;omega)
   rw[if_neg k8] at j ⊢
   exact zlX g S m i _ _ _ _ _ _ w q A o L N M O J I (by simpa using E) (by simpa using H) (by simpa using K) (by simpa using U) (by simpa using V) (by simpa using X) (by simpa using Z) (by simpa using k8)
theorem zdx (j:Nat) (S:Sv) (m:Md) (i:Nat) (w:World) (z:zbg m.ex) (o:zbf m.ex) (n:i<m.ex.length) (h:OwnMd w j S m) (A:wt m.ex i≤1099511627776):
  Calls Tryz.prog 123 #[zt S m,.int .i64 i] w fun e q=>e= .returned (.string (prX m.ex i))∧Below w.heap.size w q:=zo1 j S m z o (i+1) i w (Nat.lt_succ_self i) n h A
theorem zgv (a b:ByteArray) (w:World) (o:a.size≤1099511627776) (q:b.size≤1099511627776):Calls Tryz.prog 122 #[.string a,.string b] w fun e n=>e= .returned (.string (asT a b))∧n=w:=by
 cases h:(a.toList==b.toList) with
 |true=>
  have j:Hid (asT a b=a):=by show _=_;rw[asT,h];rfl
  go_enter Tryz.func122,Tryz.ntmps122
  go_wp2
  go_ret
  exact⟨zaF j.out.symm,rfl⟩
 |false=>
  have j:Hid (asT a b=a++({data:=#[32,97,115,32]}:ByteArray)++b):=by show _=_;rw[asT,h];rfl
  go_enter Tryz.func122,Tryz.ntmps122
  go_wp2
  go_ret
  exact⟨zaF j.out.symm,rfl⟩
theorem zfy (s:ByteArray) (w:World) (n:s.size≤1099511627776):Calls Tryz.prog 62 #[.string s] w fun e h=>e= .returned (.string (zar s))∧h=w:=by
 have j:Hid (zar s=({data:=#[34]}:ByteArray)++s++({data:=#[34]}:ByteArray)):=rfl
 go_enter Tryz.func62,Tryz.ntmps62
 go_wp2
 go_ret
 exact⟨zaF j.out.symm,rfl⟩
theorem zgw (s:ByteArray):(zar s).size=s.size+2:=by
 rw[zar,ByteArray.size_append,ByteArray.size_append]
 show 1+s.size+1=_
 omega
theorem ziS (a b:ByteArray):(asT a b).size≤a.size+b.size+4:=by
 unfold asT
 split
 ·omega
 ·rw[ByteArray.size_append,ByteArray.size_append]
  show a.size+4+b.size≤_
  omega
theorem zo2 (x:Im) (w:World) (h1:x.spec.size≤4294967296) (h2:x.first.size≤4294967296) (h3:x.loc.size≤4294967296):Calls Tryz.prog 63 #[imV x] w fun e I=>e= .returned (.string (zV x))∧Below w.heap.size w I:=by
 obtain⟨N,o⟩: ∃t,zar x.spec=t:=⟨_,rfl⟩
 obtain⟨at',hat⟩: ∃t,asT x.first x.loc=t:=⟨_,rfl⟩
 have U:=zgw x.spec
 have Z:=ziS x.first x.loc
 rw[o] at U
 rw[hat] at Z
 have ab:N.size≤8589934592:=by omega
 have aa:at'.size≤17179869184:=by omega
 have H:=zc o
 have AT:=zc hat
 have J: ∀d E,Calls Tryz.prog 62 #[.string x.spec] (grow (redrawn (w.alloc (.cells #[.string x.spec,.string x.first,.string x.loc] 100)) d) E) fun e q=>e= .returned (.string N)∧∃p:Regrown,q=grow (redrawn (w.alloc (.cells #[.string x.spec,.string x.first,.string x.loc] 100)) p.d) p.os:=fun d E=>Calls.regrown_of (by rw[←o];exact (zfy x.spec _ (by omega)).mono (by rintro e I ⟨rfl,rfl⟩;exact⟨rfl,Below.refl _ _⟩))
 have L: ∀d E,Calls Tryz.prog 122 #[.string x.first,.string x.loc] (grow (redrawn (w.alloc (.cells #[.string x.spec,.string x.first,.string x.loc] 100)) d) E) fun e q=>e= .returned (.string at')∧∃p:Regrown,q=grow (redrawn (w.alloc (.cells #[.string x.spec,.string x.first,.string x.loc] 100)) p.d) p.os:=fun d E=>Calls.regrown_of (by rw[←hat];exact (zgv x.first x.loc _ (by omega) (by omega)).mono (by rintro e I ⟨rfl,rfl⟩;exact⟨rfl,Below.refl _ _⟩))
 have X:=zc (zbt (heap_alloc_new w (.cells #[.string x.spec,.string x.first,.string x.loc] 100)))
 clear o hat U Z
 unfold imV
 cases K:(x.first.toList==[42]) with
 |true=>
  have D:Hid (zV x=({data:=#[105,109,112,111,114,116,32,42,32,97,115,32]}:ByteArray)++x.loc++({data:=#[32,102,114,111,109,32]}:ByteArray)++zar x.spec++({data:=#[59,10]}:ByteArray)):=by show _=_;rw[zV,K];rfl
  go_enter Tryz.func63,Tryz.ntmps63
  go_wp2_with fail
  have M:=cell_regrown X.out.1
  have y1:=cell_regrown X.out.2.1
  have O:=cell_regrown X.out.2.2.1
  refine wp_region_quiet_below (by kernel_rfl) (by kernel_rfl) ?_
  repeat (go_big_quiet_step (first|with_reducible exact J _ _|with_reducible exact L _ _))
  refine wpQuiet_nil ?_
  intro z n
  obtain⟨⟨Y,A⟩,h⟩:=n
  have j:Hid (Below w.heap.size w z):=by show Below _ _ _;rw[h];exact ((Below.refl _ _).alloc (Nat.le_refl _) _).trans ((below_regrown _ _ _).mono (by rw[zj];omega))
  clear h
  go_wp2
  go_ret
  exact⟨zaF (by rw[D.out,H.out]),j.out⟩
 |false=>
  cases V:(x.first.toList==[100,101,102,97,117,108,116]) with
  |true=>
   have D:Hid (zV x=({data:=#[105,109,112,111,114,116,32]}:ByteArray)++x.loc++({data:=#[32,102,114,111,109,32]}:ByteArray)++zar x.spec++({data:=#[59,10]}:ByteArray)):=by show _=_;rw[zV,K,V];rfl
   go_enter Tryz.func63,Tryz.ntmps63
   go_wp2_with fail
   have M:=cell_regrown X.out.1
   have y1:=cell_regrown X.out.2.1
   have O:=cell_regrown X.out.2.2.1
   refine wp_region_quiet_below (by kernel_rfl) (by kernel_rfl) ?_
   repeat (go_big_quiet_step (first|with_reducible exact J _ _|with_reducible exact L _ _))
   refine wpQuiet_nil ?_
   intro z n
   obtain⟨⟨Y,A⟩,h⟩:=n
   have j:Hid (Below w.heap.size w z):=by show Below _ _ _;rw[h];exact ((Below.refl _ _).alloc (Nat.le_refl _) _).trans ((below_regrown _ _ _).mono (by rw[zj];omega))
   clear h
   go_wp2
   go_ret
   exact⟨zaF (by rw[D.out,H.out]),j.out⟩
  |false=>
   have D:Hid (zV x=({data:=#[105,109,112,111,114,116,32,123,32]}:ByteArray)++asT x.first x.loc++({data:=#[32,125,32,102,114,111,109,32]}:ByteArray)++zar x.spec++({data:=#[59,10]}:ByteArray)):=by show _=_;rw[zV,K,V];rfl
   go_enter Tryz.func63,Tryz.ntmps63
   go_wp2_with fail
   have M:=cell_regrown X.out.1
   have y1:=cell_regrown X.out.2.1
   have O:=cell_regrown X.out.2.2.1
   refine wp_region_quiet_below (by kernel_rfl) (by kernel_rfl) ?_
   repeat (go_big_quiet_step (first|with_reducible exact J _ _|with_reducible exact L _ _))
   refine wpQuiet_nil ?_
   intro z n
   obtain⟨⟨Y,A⟩,h⟩:=n
   have j:Hid (Below w.heap.size w z):=by show Below _ _ _;rw[h];exact ((Below.refl _ _).alloc (Nat.le_refl _) _).trans ((below_regrown _ _ _).mono (by rw[zj];omega))
   clear h
   go_wp2
   go_ret
   exact⟨zaF (by rw[D.out,H.out,AT.out]),j.out⟩
theorem zo3 (x:Ep) (w:World) (h1:x.spec.size≤4294967296) (h2:x.name.size≤4294967296) (h3:x.loc.size≤4294967296):Calls Tryz.prog 64 #[epV x] w fun e o=>e= .returned (.string (zaY x))∧Below w.heap.size w o:=by
 obtain⟨I,h⟩: ∃t,zar x.spec=t:=⟨_,rfl⟩
 obtain⟨at',hat⟩: ∃t,asT x.loc x.name=t:=⟨_,rfl⟩
 have N:=zgw x.spec
 have V:=ziS x.loc x.name
 rw[h] at N
 rw[hat] at V
 have aa:I.size≤8589934592:=by omega
 have Y:at'.size≤17179869184:=by omega
 have M:=zc h
 have O:=zc hat
 have cQ: ∀d A,Calls Tryz.prog 62 #[.string x.spec] (grow (redrawn (w.alloc (.cells #[.int .i64 x.kind,.string x.name,.string x.loc,.string x.spec] 102)) d) A) fun e n=>e= .returned (.string I)∧∃p:Regrown,n=grow (redrawn (w.alloc (.cells #[.int .i64 x.kind,.string x.name,.string x.loc,.string x.spec] 102)) p.d) p.os:=fun d A=>Calls.regrown_of (by rw[←h];exact (zfy x.spec _ (by omega)).mono (by rintro e o ⟨rfl,rfl⟩;exact⟨rfl,Below.refl _ _⟩))
 have cA: ∀d A,Calls Tryz.prog 122 #[.string x.loc,.string x.name] (grow (redrawn (w.alloc (.cells #[.int .i64 x.kind,.string x.name,.string x.loc,.string x.spec] 102)) d) A) fun e n=>e= .returned (.string at')∧∃p:Regrown,n=grow (redrawn (w.alloc (.cells #[.int .i64 x.kind,.string x.name,.string x.loc,.string x.spec] 102)) p.d) p.os:=fun d A=>Calls.regrown_of (by rw[←hat];exact (zgv x.loc x.name _ (by omega) (by omega)).mono (by rintro e o ⟨rfl,rfl⟩;exact⟨rfl,Below.refl _ _⟩))
 have J: ∀w:World,Calls Tryz.prog 62 #[.string x.spec] w fun e o=>e= .returned (.string I)∧o=w:=fun w=>by rw[←h];exact zfy x.spec w (by omega)
 have K: ∀w:World,Calls Tryz.prog 122 #[.string x.loc,.string x.name] w fun e o=>e= .returned (.string at')∧o=w:=fun w=>by rw[←hat];exact zgv x.loc x.name w (by omega) (by omega)
 have X:=zc (zcV (heap_alloc_new w (.cells #[.int .i64 x.kind,.string x.name,.string x.loc,.string x.spec] 102)))
 clear h hat N V
 unfold epV
 cases L:(x.kind==3) with
 |true=>
  have z:Hid (zaY x=({data:=#[101,120,112,111,114,116,32,42,32,102,114,111,109,32]}:ByteArray)++zar x.spec++({data:=#[59,10]}:ByteArray)):=by show _=_;rw[zaY,L];rfl
  go_enter Tryz.func64,Tryz.ntmps64
  go_wp2_with fail
  refine (J _).mono ?_
  rintro e q ⟨rfl,D⟩
  rw[D]
  clear D q
  go_wp2
  go_ret
  exact⟨zaF (by rw[z.out,M.out]),(Below.refl _ _).alloc (Nat.le_refl _) _⟩
 |false=>
  cases U:(x.kind==2) with
  |true=>
   have z:Hid (zaY x=({data:=#[101,120,112,111,114,116,32,123,32]}:ByteArray)++asT x.loc x.name++({data:=#[32,125,32,102,114,111,109,32]}:ByteArray)++zar x.spec++({data:=#[59,10]}:ByteArray)):=by show _=_;rw[zaY,L,U];rfl
   go_enter Tryz.func64,Tryz.ntmps64
   go_wp2_with fail
   have y0:=cell_regrown X.out.1
   have y1:=cell_regrown X.out.2.1
   have y2:=cell_regrown X.out.2.2.1
   have y3:=cell_regrown X.out.2.2.2.1
   refine wp_region_quiet_below (by kernel_rfl) (by kernel_rfl) ?_
   repeat (go_big_quiet_step (first|with_reducible exact cQ _ _|with_reducible exact cA _ _))
   refine wpQuiet_nil ?_
   intro q H
   obtain⟨⟨dq,Z⟩,j⟩:=H
   have E:Hid (Below w.heap.size w q):=by show Below _ _ _;rw[j];exact ((Below.refl _ _).alloc (Nat.le_refl _) _).trans ((below_regrown _ _ _).mono (by rw[zj];omega))
   clear j
   go_wp2
   go_ret
   exact⟨zaF (by rw[z.out,M.out,O.out]),E.out⟩
  |false=>
   have z:Hid (zaY x=({data:=#[101,120,112,111,114,116,32,123,32]}:ByteArray)++asT x.loc x.name++({data:=#[32,125,59,10]}:ByteArray)):=by show _=_;rw[zaY,L,U];rfl
   go_enter Tryz.func64,Tryz.ntmps64
   go_wp2_with fail
   refine (K _).mono ?_
   rintro e q ⟨rfl,D⟩
   rw[D]
   clear D q
   go_wp2
   go_ret
   exact⟨zaF (by rw[z.out,O.out]),(Below.refl _ _).alloc (Nat.le_refl _) _⟩
theorem zo4 (j:Nat) (S:Sv) (m:Md) (k:Int) (n:ByteArray) (i:Nat) (w:World) (h:OwnMd w j S m) (J:i<m.ex.length) (O:zbg m.ex) (K:zbf m.ex) (D:wt m.ex i≤1099511627776) (_:n.size≤4294967296) (I:(k==1)=true) (V:(n.toList==[42,100,101,102,97,117,108,116])=true):
  Calls Tryz.prog 65 #[zt S m,.agg #[.int .i64 k,.string n,.int .i64 (i:Int)]] w fun e N=>e= .returned (.string (zax k n (prX m.ex i)))∧Below w.heap.size w N:=by
 have L:=zc h
 have U:Hid (zax k n (prX m.ex i)=({data:=#[101,120,112,111,114,116,32,100,101,102,97,117,108,116,32]}:ByteArray)++prX m.ex i++({data:=#[59,10]}:ByteArray)):=by show _=_;rw[zax,I,V];rfl
 have o:=D
 unfold wt at o
 have E:=zc (And.intro (zce (o':=.cells #[.int .i64 k,.string n,.int .i64 (i:Int)] 106) (heap_alloc_new w (.cells #[.slice S.rq.a m.rq.length S.rq.cap,.slice S.im.a m.im.length S.im.cap,.slice S.ep.a m.ep.length S.ep.cap,.slice S.st.a m.st.length S.st.cap,.slice S.ex.a m.ex.length S.ex.cap] 28))) (zbj w (.cells #[.slice S.rq.a m.rq.length S.rq.cap,.slice S.im.a m.im.length S.im.cap,.slice S.ep.a m.ep.length S.ep.cap,.slice S.st.a m.st.length S.st.cap,.slice S.ex.a m.ex.length S.ex.cap] 28) (.cells #[.int .i64 k,.string n,.int .i64 (i:Int)] 106)))
 clear h
 unfold zt
 go_enter Tryz.func65,Tryz.ntmps65
 go_wp2_with fail
 refine (zdx j S m i _ O K J ((L.out.alloc _).alloc _) D).mono ?_
 rintro e H ⟨rfl,A⟩
 have X:Hid (Below w.heap.size w H):=(zaM w _ _).trans (A.mono (by rw[zj,zj];omega))
 have q:=zc ((A.block _ (by rw[zj,zj];omega)).trans E.out.2)
 obtain⟨Z,c1,c2,Y⟩:=zbt q.out
 clear A
 obtain⟨t,z⟩: ∃t,prX m.ex i=t:=⟨_,rfl⟩
 rw[z] at o ⊢
 have M:=zc z
 clear z
 go_wp2
 go_ret
 exact⟨zaF (by rw[U.out,M.out]),X.out⟩
theorem zo5 (j:Nat) (S:Sv) (m:Md) (k:Int) (n:ByteArray) (i:Nat) (w:World) (h:OwnMd w j S m) (J:i<m.ex.length) (O:zbg m.ex) (K:zbf m.ex) (D:wt m.ex i≤1099511627776) (hs:n.size≤4294967296) (I:(k==1)=true) (V:(n.toList==[42,100,101,102,97,117,108,116])=false):
  Calls Tryz.prog 65 #[zt S m,.agg #[.int .i64 k,.string n,.int .i64 (i:Int)]] w fun e N=>e= .returned (.string (zax k n (prX m.ex i)))∧Below w.heap.size w N:=by
 have L:=zc h
 have U:Hid (zax k n (prX m.ex i)=({data:=#[108,101,116,32]}:ByteArray)++n++({data:=#[32,61,32]}:ByteArray)++prX m.ex i++({data:=#[59,10]}:ByteArray)):=by show _=_;rw[zax,I,V];rfl
 have o:=D
 unfold wt at o
 have E:=zc (And.intro (zce (o':=.cells #[.int .i64 k,.string n,.int .i64 (i:Int)] 106) (heap_alloc_new w (.cells #[.slice S.rq.a m.rq.length S.rq.cap,.slice S.im.a m.im.length S.im.cap,.slice S.ep.a m.ep.length S.ep.cap,.slice S.st.a m.st.length S.st.cap,.slice S.ex.a m.ex.length S.ex.cap] 28))) (zbj w (.cells #[.slice S.rq.a m.rq.length S.rq.cap,.slice S.im.a m.im.length S.im.cap,.slice S.ep.a m.ep.length S.ep.cap,.slice S.st.a m.st.length S.st.cap,.slice S.ex.a m.ex.length S.ex.cap] 28) (.cells #[.int .i64 k,.string n,.int .i64 (i:Int)] 106)))
 clear h
 unfold zt
 go_enter Tryz.func65,Tryz.ntmps65
 go_wp2_with fail
 refine (zdx j S m i _ O K J ((L.out.alloc _).alloc _) D).mono ?_
 rintro e H ⟨rfl,A⟩
 have X:Hid (Below w.heap.size w H):=(zaM w _ _).trans (A.mono (by rw[zj,zj];omega))
 have q:=zc ((A.block _ (by rw[zj,zj];omega)).trans E.out.2)
 obtain⟨Z,c1,c2,Y⟩:=zbt q.out
 clear A
 obtain⟨t,z⟩: ∃t,prX m.ex i=t:=⟨_,rfl⟩
 rw[z] at o ⊢
 have M:=zc z
 clear z
 go_wp2
 go_ret
 exact⟨zaF (by rw[U.out,M.out]),X.out⟩
theorem zo6 (j:Nat) (S:Sv) (m:Md) (k:Int) (n:ByteArray) (i:Nat) (w:World) (h:OwnMd w j S m) (J:i<m.ex.length) (U:zbg m.ex) (K:zbf m.ex) (D:wt m.ex i≤1099511627776) (hs:n.size≤4294967296) (I:(k==1)=false) (O:(k==2)=true):
  Calls Tryz.prog 65 #[zt S m,.agg #[.int .i64 k,.string n,.int .i64 (i:Int)]] w fun e N=>e= .returned (.string (zax k n (prX m.ex i)))∧Below w.heap.size w N:=by
 have L:=zc h
 have V:Hid (zax k n (prX m.ex i)=({data:=#[102,117,110,99,116,105,111,110,32]}:ByteArray)++n++({data:=#[40,41,32,123,32,114,101,116,117,114,110,32]}:ByteArray)++prX m.ex i++({data:=#[59,32,125,10]}:ByteArray)):=by show _=_;rw[zax,I,O];rfl
 have o:=D
 unfold wt at o
 have E:=zc (And.intro (zce (o':=.cells #[.int .i64 k,.string n,.int .i64 (i:Int)] 106) (heap_alloc_new w (.cells #[.slice S.rq.a m.rq.length S.rq.cap,.slice S.im.a m.im.length S.im.cap,.slice S.ep.a m.ep.length S.ep.cap,.slice S.st.a m.st.length S.st.cap,.slice S.ex.a m.ex.length S.ex.cap] 28))) (zbj w (.cells #[.slice S.rq.a m.rq.length S.rq.cap,.slice S.im.a m.im.length S.im.cap,.slice S.ep.a m.ep.length S.ep.cap,.slice S.st.a m.st.length S.st.cap,.slice S.ex.a m.ex.length S.ex.cap] 28) (.cells #[.int .i64 k,.string n,.int .i64 (i:Int)] 106)))
 clear h
 unfold zt
 go_enter Tryz.func65,Tryz.ntmps65
 go_wp2_with fail
 refine (zdx j S m i _ U K J ((L.out.alloc _).alloc _) D).mono ?_
 rintro e H ⟨rfl,A⟩
 have X:Hid (Below w.heap.size w H):=(zaM w _ _).trans (A.mono (by rw[zj,zj];omega))
 have q:=zc ((A.block _ (by rw[zj,zj];omega)).trans E.out.2)
 obtain⟨Z,c1,c2,Y⟩:=zbt q.out
 clear A
 obtain⟨t,z⟩: ∃t,prX m.ex i=t:=⟨_,rfl⟩
 rw[z] at o ⊢
 have M:=zc z
 clear z
 go_wp2
 go_ret
 exact⟨zaF (by rw[V.out,M.out]),X.out⟩
theorem zo7 (j:Nat) (S:Sv) (m:Md) (k:Int) (n:ByteArray) (i:Nat) (w:World) (h:OwnMd w j S m) (J:i<m.ex.length) (V:zbg m.ex) (L:zbf m.ex) (D:wt m.ex i≤1099511627776) (hs:n.size≤4294967296) (I:(k==1)=false) (U:(k==2)=false) (K:(k==3)=true):
  Calls Tryz.prog 65 #[zt S m,.agg #[.int .i64 k,.string n,.int .i64 (i:Int)]] w fun e O=>e= .returned (.string (zax k n (prX m.ex i)))∧Below w.heap.size w O:=by
 have M:=zc h
 have X:Hid (zax k n (prX m.ex i)=n++({data:=#[32,61,32]}:ByteArray)++prX m.ex i++({data:=#[59,10]}:ByteArray)):=by show _=_;rw[zax,I,U,K];rfl
 have o:=D
 unfold wt at o
 have E:=zc (And.intro (zce (o':=.cells #[.int .i64 k,.string n,.int .i64 (i:Int)] 106) (heap_alloc_new w (.cells #[.slice S.rq.a m.rq.length S.rq.cap,.slice S.im.a m.im.length S.im.cap,.slice S.ep.a m.ep.length S.ep.cap,.slice S.st.a m.st.length S.st.cap,.slice S.ex.a m.ex.length S.ex.cap] 28))) (zbj w (.cells #[.slice S.rq.a m.rq.length S.rq.cap,.slice S.im.a m.im.length S.im.cap,.slice S.ep.a m.ep.length S.ep.cap,.slice S.st.a m.st.length S.st.cap,.slice S.ex.a m.ex.length S.ex.cap] 28) (.cells #[.int .i64 k,.string n,.int .i64 (i:Int)] 106)))
 clear h
 unfold zt
 go_enter Tryz.func65,Tryz.ntmps65
 go_wp2_with fail
 refine (zdx j S m i _ V L J ((M.out.alloc _).alloc _) D).mono ?_
 rintro e H ⟨rfl,A⟩
 have Y:Hid (Below w.heap.size w H):=(zaM w _ _).trans (A.mono (by rw[zj,zj];omega))
 have q:=zc ((A.block _ (by rw[zj,zj];omega)).trans E.out.2)
 obtain⟨c0,c1,c2,Z⟩:=zbt q.out
 clear A
 obtain⟨t,z⟩: ∃t,prX m.ex i=t:=⟨_,rfl⟩
 rw[z] at o ⊢
 have N:=zc z
 clear z
 go_wp2
 go_ret
 exact⟨zaF (by rw[X.out,N.out]),Y.out⟩
theorem zo8 (j:Nat) (S:Sv) (m:Md) (k:Int) (n:ByteArray) (i:Nat) (w:World) (h:OwnMd w j S m) (J:i<m.ex.length) (V:zbg m.ex) (L:zbf m.ex) (D:wt m.ex i≤1099511627776) (_:n.size≤4294967296) (I:(k==1)=false) (U:(k==2)=false) (K:(k==3)=false) (Y:(k==4)=true):
  Calls Tryz.prog 65 #[zt S m,.agg #[.int .i64 k,.string n,.int .i64 (i:Int)]] w fun e O=>e= .returned (.string (zax k n (prX m.ex i)))∧Below w.heap.size w O:=by
 have M:=zc h
 have X:Hid (zax k n (prX m.ex i)=({data:=#[112,114,105,110,116,40]}:ByteArray)++prX m.ex i++({data:=#[41,59,10]}:ByteArray)):=by show _=_;rw[zax,I,U,K,Y];rfl
 have o:=D
 unfold wt at o
 have E:=zc (And.intro (zce (o':=.cells #[.int .i64 k,.string n,.int .i64 (i:Int)] 106) (heap_alloc_new w (.cells #[.slice S.rq.a m.rq.length S.rq.cap,.slice S.im.a m.im.length S.im.cap,.slice S.ep.a m.ep.length S.ep.cap,.slice S.st.a m.st.length S.st.cap,.slice S.ex.a m.ex.length S.ex.cap] 28))) (zbj w (.cells #[.slice S.rq.a m.rq.length S.rq.cap,.slice S.im.a m.im.length S.im.cap,.slice S.ep.a m.ep.length S.ep.cap,.slice S.st.a m.st.length S.st.cap,.slice S.ex.a m.ex.length S.ex.cap] 28) (.cells #[.int .i64 k,.string n,.int .i64 (i:Int)] 106)))
 clear h
 unfold zt
 go_enter Tryz.func65,Tryz.ntmps65
 go_wp2_with fail
 refine (zdx j S m i _ V L J ((M.out.alloc _).alloc _) D).mono ?_
 rintro e H ⟨rfl,A⟩
 have Z:Hid (Below w.heap.size w H):=(zaM w _ _).trans (A.mono (by rw[zj,zj];omega))
 have q:=zc ((A.block _ (by rw[zj,zj];omega)).trans E.out.2)
 obtain⟨c0,c1,c2,cf⟩:=zbt q.out
 clear A
 obtain⟨t,z⟩: ∃t,prX m.ex i=t:=⟨_,rfl⟩
 rw[z] at o ⊢
 have N:=zc z
 clear z
 go_wp2
 go_ret
 exact⟨zaF (by rw[X.out,N.out]),Z.out⟩
theorem zo9 (j:Nat) (S:Sv) (m:Md) (k:Int) (n:ByteArray) (i:Nat) (w:World) (h:OwnMd w j S m) (K:i<m.ex.length) (X:zbg m.ex) (M:zbf m.ex) (D:wt m.ex i≤1099511627776) (_:n.size≤4294967296) (J:(k==1)=false) (V:(k==2)=false) (L:(k==3)=false) (Z:(k==4)=false) (H:(k==5)=true):
  Calls Tryz.prog 65 #[zt S m,.agg #[.int .i64 k,.string n,.int .i64 (i:Int)]] w fun e U=>e= .returned (.string (zax k n (prX m.ex i)))∧Below w.heap.size w U:=by
 have N:=zc h
 have Y:Hid (zax k n (prX m.ex i)=({data:=#[116,104,114,111,119,32]}:ByteArray)++prX m.ex i++({data:=#[59,10]}:ByteArray)):=by show _=_;rw[zax,J,V,L,Z,H];rfl
 have o:=D
 unfold wt at o
 have E:=zc (And.intro (zce (o':=.cells #[.int .i64 k,.string n,.int .i64 (i:Int)] 106) (heap_alloc_new w (.cells #[.slice S.rq.a m.rq.length S.rq.cap,.slice S.im.a m.im.length S.im.cap,.slice S.ep.a m.ep.length S.ep.cap,.slice S.st.a m.st.length S.st.cap,.slice S.ex.a m.ex.length S.ex.cap] 28))) (zbj w (.cells #[.slice S.rq.a m.rq.length S.rq.cap,.slice S.im.a m.im.length S.im.cap,.slice S.ep.a m.ep.length S.ep.cap,.slice S.st.a m.st.length S.st.cap,.slice S.ex.a m.ex.length S.ex.cap] 28) (.cells #[.int .i64 k,.string n,.int .i64 (i:Int)] 106)))
 clear h
 unfold zt
 go_enter Tryz.func65,Tryz.ntmps65
 go_wp2_with fail
 refine (zdx j S m i _ X M K ((N.out.alloc _).alloc _) D).mono ?_
 rintro e I ⟨rfl,A⟩
 have HB:Hid (Below w.heap.size w I):=(zaM w _ _).trans (A.mono (by rw[zj,zj];omega))
 have q:=zc ((A.block _ (by rw[zj,zj];omega)).trans E.out.2)
 obtain⟨c0,c1,c2,cf⟩:=zbt q.out
 clear A
 obtain⟨t,z⟩: ∃t,prX m.ex i=t:=⟨_,rfl⟩
 rw[z] at o ⊢
 have O:=zc z
 clear z
 go_wp2
 go_ret
 exact⟨zaF (by rw[Y.out,O.out]),HB.out⟩
theorem zoA (j:Nat) (S:Sv) (m:Md) (k:Int) (n:ByteArray) (i:Nat) (w:World) (h:OwnMd w j S m) (K:i<m.ex.length) (X:zbg m.ex) (M:zbf m.ex) (D:wt m.ex i≤1099511627776) (_:n.size≤4294967296) (J:(k==1)=false) (V:(k==2)=false) (L:(k==3)=false) (Z:(k==4)=false) (H:(k==5)=false):
  Calls Tryz.prog 65 #[zt S m,.agg #[.int .i64 k,.string n,.int .i64 (i:Int)]] w fun e U=>e= .returned (.string (zax k n (prX m.ex i)))∧Below w.heap.size w U:=by
 have N:=zc h
 have Y:Hid (zax k n (prX m.ex i)=({data:=#[102,97,105,108,32]}:ByteArray)++prX m.ex i++({data:=#[59,10]}:ByteArray)):=by show _=_;rw[zax,J,V,L,Z,H];rfl
 have o:=D
 unfold wt at o
 have E:=zc (And.intro (zce (o':=.cells #[.int .i64 k,.string n,.int .i64 (i:Int)] 106) (heap_alloc_new w (.cells #[.slice S.rq.a m.rq.length S.rq.cap,.slice S.im.a m.im.length S.im.cap,.slice S.ep.a m.ep.length S.ep.cap,.slice S.st.a m.st.length S.st.cap,.slice S.ex.a m.ex.length S.ex.cap] 28))) (zbj w (.cells #[.slice S.rq.a m.rq.length S.rq.cap,.slice S.im.a m.im.length S.im.cap,.slice S.ep.a m.ep.length S.ep.cap,.slice S.st.a m.st.length S.st.cap,.slice S.ex.a m.ex.length S.ex.cap] 28) (.cells #[.int .i64 k,.string n,.int .i64 (i:Int)] 106)))
 clear h
 unfold zt
 go_enter Tryz.func65,Tryz.ntmps65
 go_wp2_with fail
 refine (zdx j S m i _ X M K ((N.out.alloc _).alloc _) D).mono ?_
 rintro e I ⟨rfl,A⟩
 have HB:Hid (Below w.heap.size w I):=(zaM w _ _).trans (A.mono (by rw[zj,zj];omega))
 have q:=zc ((A.block _ (by rw[zj,zj];omega)).trans E.out.2)
 obtain⟨c0,c1,c2,cf⟩:=zbt q.out
 clear A
 obtain⟨t,z⟩: ∃t,prX m.ex i=t:=⟨_,rfl⟩
 rw[z] at o ⊢
 have O:=zc z
 clear z
 go_wp2
 go_ret
 exact⟨zaF (by rw[Y.out,O.out]),HB.out⟩
theorem zoB (j:Nat) (S:Sv) (m:Md) (k:Int) (n:ByteArray) (i:Nat) (w:World) (h:OwnMd w j S m) (o:i<m.ex.length) (A:zbg m.ex) (q:zbf m.ex) (E:wt m.ex i≤1099511627776) (z:n.size≤4294967296):
  Calls Tryz.prog 65 #[zt S m,.agg #[.int .i64 k,.string n,.int .i64 (i:Int)]] w fun e M=>e= .returned (.string (zax k n (prX m.ex i)))∧Below w.heap.size w M:=by
 cases D:(k==1) with
 |true=>
  cases L:(n.toList==[42,100,101,102,97,117,108,116]) with
  |true=>exact zo4 j S m k n i w h o A q E z D L
  |false=>exact zo5 j S m k n i w h o A q E z D L
 |false=>
  cases H:(k==2) with
  |true=>exact zo6 j S m k n i w h o A q E z D H
  |false=>
   cases I:(k==3) with
   |true=>exact zo7 j S m k n i w h o A q E z D H I
   |false=>
    cases J:(k==4) with
    |true=>exact zo8 j S m k n i w h o A q E z D H I J
    |false=>
     cases K:(k==5) with
     |true=>exact zo9 j S m k n i w h o A q E z D H I J K
     |false=>exact zoA j S m k n i w h o A q E z D H I J K
theorem zfz {α:Type} {l:List α} {j:Nat} (h:j<l.length): ∃x,l[j]? =some x:=⟨_,List.getElem?_eq_getElem h⟩
theorem zoC (t:ByteArray):t++sNone=t:=by
 cases t with
 |mk d=>
  show ByteArray.append _ _=_
  simp[ByteArray.append]
theorem zoD (m:Md):(acc (stF m.ex) m.st (zbB m)).size≤(zbT m).size:=Nat.le_refl _
theorem ziT (m:Md):(acc epF m.ep (acc zV m.im (acc rqT m.rq sNone))).size≤(zbT m).size:=zdp _ _ _
theorem ziU (m:Md):(acc zV m.im (acc rqT m.rq sNone)).size≤(zbT m).size:=Nat.le_trans (zdp _ _ _) (ziT m)
theorem zoE (m:Md):(acc rqT m.rq sNone).size≤(zbT m).size:=Nat.le_trans (zdp _ _ _) (ziU m)
theorem zoF (k:Int) (n e:ByteArray):e.size≤(zax k n e).size:=by
 unfold zax
 repeat (first|split|(simp only[ByteArray.size_append];omega))
theorem zoG (J:Nat) (S:Sv) (m:Md) (az:Bool) (w:World) (h:OwnMd w J S m) (hm:Small m) (al:Tree m→(zbT m).size≤1099511627776):
  Calls Tryz.prog 18 #[zt S m,.bool az] w fun e w'=>PrintOut (zbT m) m e∧Below w.heap.size w w':=by
 have HH:=zc h
 have SM:=zc hm
 have HU:=zc al
 obtain⟨f1,f2,f3,f4,f5⟩:=hm.few
 clear h hm al
 unfold zt
 go_enter Tryz.func18,Tryz.ntmps18
 go_wp2_with fail
 refine (zme J S m _ (HH.out.alloc _) f5 f4).mono ?_
 rintro e w1 ⟨⟨b,rfl,E⟩,af⟩
 have HT:=zc E
 have ai:Hid (Below w.heap.size w w1):=((Below.refl _ _).alloc (Nat.le_refl _) _).trans (af.mono (by rw[zj];omega))
 have ak:Hid (w1.heap[w.heap.size]? =some (.cells #[.slice S.rq.a m.rq.length S.rq.cap,.slice S.im.a m.im.length S.im.cap,.slice S.ep.a m.ep.length S.ep.cap,.slice S.st.a m.st.length S.st.cap,.slice S.ex.a m.ex.length S.ex.cap] 28 (0,0))):=(af.block _ (by rw[zj];omega)).trans (heap_alloc_new w _)
 have aq:=zc (HH.out.later ai.out)
 clear E af
 obtain⟨c0,c1,c2,c3,c4,cf⟩:=zk ak.out
 cases b with
 |false=>
  go_wp2
  go_ret
  exact⟨.inr ⟨(fun t=>by have:=HT.out.2 t;cases this),rfl⟩,ai.out⟩
 |true=>
  have TR:=zc (HT.out.1 rfl)
  have HZ:=zc (HU.out TR.out)
  go_wp2
  go_loopg [5,6] m.rq.length (fun k t i wr=>∃(j:Nat) (D:ByteArray),i= .int .i64 j∧t= .string D∧j+k=m.rq.length∧D=acc rqT (m.rq.take j) sNone∧OwnMd wr J S m∧wr.heap[w.heap.size]? =some (.cells #[.slice S.rq.a m.rq.length S.rq.cap,.slice S.im.a m.im.length S.im.cap,.slice S.ep.a m.ep.length S.ep.cap,.slice S.st.a m.st.length S.st.cap,.slice S.ex.a m.ex.length S.ex.cap] 28 (0,0))∧Below w.heap.size w wr)
  case atStart=>exact⟨0,_,rfl,rfl,by omega,rfl,aq.out,ak.out,ai.out⟩
  case round=>
   obtain⟨j,D,rfl,rfl,hj,L,ho,hx,E⟩:=hrel
   have n:=zc L
   have V:=zc ho
   have O:=zc hx
   have X:=zc E
   clear L ho hx E c0 c1 c2 c3 c4 cf
   obtain⟨c0,c1,c2,c3,c4,cf⟩:=zk O.out
   have aa:=(Array.getElem?_eq_some_iff.1 O.out).1
   by_cases U:j<m.rq.length
   ·have K:(j:Int)<(m.rq.length:Int):=by omega
    obtain⟨x,q⟩:=zfz U
    have z:=List.mem_of_getElem? q
    have HS:=zc (zbS rqT q sNone)
    have o:=zcX rqT m.rq (j+1) sNone
    rw[HS.out,←n.out,ByteArray.size_append] at o
    have H:(acc rqT m.rq sNone).size≤1099511627776:=Nat.le_trans (zoE m) HZ.out
    obtain⟨N,M⟩: ∃N,N=j+1:=⟨_,rfl⟩
    have ej:(j:Int)+1=(N:Int):=by omega
    have HJ:=zc M
    clear M
    have aj:D.size≤1099511627776:=by omega
    obtain⟨g,Z,hc⟩:=V.out.rq.text U
    rw[Z] at c0
    have ap:m.rq.getD j sNone=x:=by rw[List.getD,q];rfl
    rw[ap] at hc
    clear Z ap
    have aC:=SM.out.rq x z
    obtain⟨qt,ag⟩: ∃t,zar x=t:=⟨_,rfl⟩
    have ao:=zgw x
    rw[ag] at ao
    have aA:qt.size≤8589934592:=by omega
    have QT:=zc ag
    clear ag ao o H q z
    go_wp2_with fail
    refine (zfy x _ (by omega)).mono ?_
    rintro e w2 ⟨rfl,hw⟩
    rw[hw,QT.out]
    clear hw w2
    go_wp2
    go_roundg (gk-1)
    case rel=>exact⟨N,_,rfl,rfl,by have:=HJ.out;omega,by rw[HJ.out,HS.out,←n.out,rqT,QT.out,ByteArray.append_assoc,ByteArray.append_assoc,ByteArray.append_assoc],V.out,O.out,X.out⟩
    case measure=>omega
   ·have K: ¬(j:Int)<(m.rq.length:Int):=by omega
    have Y:Hid (D=acc rqT m.rq sNone):=by show D=_;rw[n.out,List.take_of_length_le (by omega)]
    clear n
    go_wp2
    go_loopg [5,7] m.im.length (fun k t i wr=>∃(j:Nat) (D:ByteArray),i= .int .i64 j∧t= .string D∧j+k=m.im.length∧D=acc zV (m.im.take j) (acc rqT m.rq sNone)∧OwnMd wr J S m∧wr.heap[w.heap.size]? =some (.cells #[.slice S.rq.a m.rq.length S.rq.cap,.slice S.im.a m.im.length S.im.cap,.slice S.ep.a m.ep.length S.ep.cap,.slice S.st.a m.st.length S.st.cap,.slice S.ex.a m.ex.length S.ex.cap] 28 (0,0))∧Below w.heap.size w wr)
    case atStart=>exact⟨0,_,rfl,rfl,by omega,Y.out,V.out,O.out,X.out⟩
    case round=>
     obtain⟨j,D,rfl,rfl,hj,L,ho,hx,E⟩:=hrel
     have n:=zc L
     have V:=zc ho
     have O:=zc hx
     have X:=zc E
     clear L ho hx E c0 c1 c2 c3 c4 cf
     obtain⟨c0,c1,c2,c3,c4,cf⟩:=zk O.out
     have aa:=(Array.getElem?_eq_some_iff.1 O.out).1
     by_cases U:j<m.im.length
     ·have K:(j:Int)<(m.im.length:Int):=by omega
      obtain⟨x,q⟩:=zfz U
      have z:=List.mem_of_getElem? q
      have HS:=zc (zbS zV q (acc rqT m.rq sNone))
      have o:=zcX zV m.im (j+1) (acc rqT m.rq sNone)
      rw[HS.out,←n.out,ByteArray.size_append] at o
      have H:(acc zV m.im (acc rqT m.rq sNone)).size≤1099511627776:=Nat.le_trans (ziU m) HZ.out
      obtain⟨N,M⟩: ∃N,N=j+1:=⟨_,rfl⟩
      have ej:(j:Int)+1=(N:Int):=by omega
      have HJ:=zc M
      clear M
      have aj:D.size≤1099511627776:=by omega
      obtain⟨g,Z,A⟩:=OwnR.elem (f:=imL) (m:=3) (fun _=>rfl) V.out.im q
      rw[Z] at c1
      have k0:=A 0 (by omega)
      have k1:=A 1 (by omega)
      have k2:=A 2 (by omega)
      simp only[imL,Nat.add_zero,List.getElem?_cons_zero,List.getElem?_cons_succ] at k0 k1 k2
      obtain⟨z1,z2,z3⟩:=SM.out.im x z
      clear Z A q z
      obtain⟨pt,I⟩: ∃t,zV x=t:=⟨_,rfl⟩
      have am:pt.size≤1099511627776:=by rw[←I];omega
      have PT:=zc I
      clear I o H
      go_wp2_with fail
      refine (zo2 x _ z1 z2 z3).mono ?_
      rintro e w2 ⟨rfl,E⟩
      rw[PT.out]
      have ac:=zc (V.out.later E)
      have ad:=zc ((E.block _ aa).trans O.out)
      have ab:=zc (X.out.trans (E.mono X.out.size))
      clear E
      go_wp2
      go_roundg (gk-1)
      case rel=>exact⟨N,_,rfl,rfl,by have:=HJ.out;omega,by rw[HJ.out,HS.out,←n.out,PT.out],ac.out,ad.out,ab.out⟩
      case measure=>omega
     ·have K: ¬(j:Int)<(m.im.length:Int):=by omega
      have Y:Hid (D=acc zV m.im (acc rqT m.rq sNone)):=by show D=_;rw[n.out,List.take_of_length_le (by omega)]
      clear n
      go_wp2
      go_loopg [5,8] m.ep.length (fun k t i wr=>∃(j:Nat) (D:ByteArray),i= .int .i64 j∧t= .string D∧j+k=m.ep.length∧D=acc epF (m.ep.take j) (acc zV m.im (acc rqT m.rq sNone))∧OwnMd wr J S m∧wr.heap[w.heap.size]? =some (.cells #[.slice S.rq.a m.rq.length S.rq.cap,.slice S.im.a m.im.length S.im.cap,.slice S.ep.a m.ep.length S.ep.cap,.slice S.st.a m.st.length S.st.cap,.slice S.ex.a m.ex.length S.ex.cap] 28 (0,0))∧Below w.heap.size w wr)
      case atStart=>exact⟨0,_,rfl,rfl,by omega,Y.out,V.out,O.out,X.out⟩
      case round=>
       obtain⟨j,D,rfl,rfl,hj,L,ho,hx,E⟩:=hrel
       have n:=zc L
       have V:=zc ho
       have O:=zc hx
       have X:=zc E
       clear L ho hx E c0 c1 c2 c3 c4 cf
       obtain⟨c0,c1,c2,c3,c4,cf⟩:=zk O.out
       have aa:=(Array.getElem?_eq_some_iff.1 O.out).1
       by_cases U:j<m.ep.length
       ·have K:(j:Int)<(m.ep.length:Int):=by omega
        obtain⟨x,q⟩:=zfz U
        have z:=List.mem_of_getElem? q
        have HS:=zc (zbS epF q (acc zV m.im (acc rqT m.rq sNone)))
        have o:=zcX epF m.ep (j+1) (acc zV m.im (acc rqT m.rq sNone))
        rw[HS.out,←n.out,ByteArray.size_append] at o
        have H:(acc epF m.ep (acc zV m.im (acc rqT m.rq sNone))).size≤1099511627776:=Nat.le_trans (ziT m) HZ.out
        obtain⟨N,M⟩: ∃N,N=j+1:=⟨_,rfl⟩
        have ej:(j:Int)+1=(N:Int):=by omega
        have HJ:=zc M
        clear M
        have aj:D.size≤1099511627776:=by omega
        obtain⟨g,Z,A⟩:=OwnR.elem (f:=epL) (m:=4) (fun _=>rfl) V.out.ep q
        rw[Z] at c2
        have k0:=A 0 (by omega)
        have k1:=A 1 (by omega)
        have k2:=A 2 (by omega)
        have k3:=A 3 (by omega)
        simp only[epL,Nat.add_zero,List.getElem?_cons_zero,List.getElem?_cons_succ] at k0 k1 k2 k3
        obtain⟨z1,z2,z3⟩:=SM.out.ep x z
        clear Z A q z
        cases hd:(x.loc.toList==[42,100,101,102,97,117,108,116]) with
        |true=>
         clear o H
         go_wp2
         go_roundg (gk-1)
         case rel=>exact⟨N,_,rfl,rfl,by have:=HJ.out;omega,by rw[HJ.out,HS.out,←n.out,epF,hd];show D=D++sNone;rw[zoC],V.out,O.out,X.out⟩
         case measure=>omega
        |false=>
         obtain⟨pt,I⟩: ∃t,zaY x=t:=⟨_,rfl⟩
         have am:pt.size≤1099511627776:=by rw[←I,←show epF x=zaY x from (by rw[epF,hd];rfl)];omega
         have PT:=zc I
         clear I o H
         go_wp2_with fail
         refine (zo3 x _ z1 z2 z3).mono ?_
         rintro e w2 ⟨rfl,E⟩
         rw[PT.out]
         have ac:=zc (V.out.later E)
         have ad:=zc ((E.block _ aa).trans O.out)
         have ab:=zc (X.out.trans (E.mono X.out.size))
         clear E
         go_wp2
         go_roundg (gk-1)
         case rel=>exact⟨N,_,rfl,rfl,by have:=HJ.out;omega,by rw[HJ.out,HS.out,←n.out,epF,hd];show _=D++zaY x;rw[PT.out],ac.out,ad.out,ab.out⟩
         case measure=>omega
       ·have K: ¬(j:Int)<(m.ep.length:Int):=by omega
        have Y:Hid (D=acc epF m.ep (acc zV m.im (acc rqT m.rq sNone))):=by show D=_;rw[n.out,List.take_of_length_le (by omega)]
        clear n
        go_wp2
        go_loopg [5,9] m.st.length (fun k t i wr=>∃(j:Nat) (D:ByteArray),i= .int .i64 j∧t= .string D∧j+k=m.st.length∧D=acc (stF m.ex) (m.st.take j) (zbB m)∧OwnMd wr J S m∧wr.heap[w.heap.size]? =some (.cells #[.slice S.rq.a m.rq.length S.rq.cap,.slice S.im.a m.im.length S.im.cap,.slice S.ep.a m.ep.length S.ep.cap,.slice S.st.a m.st.length S.st.cap,.slice S.ex.a m.ex.length S.ex.cap] 28 (0,0))∧Below w.heap.size w wr)
        case atStart=>exact⟨0,_,rfl,rfl,by omega,Y.out,V.out,O.out,X.out⟩
        case round=>
         obtain⟨j,D,rfl,rfl,hj,L,ho,hx,E⟩:=hrel
         have n:=zc L
         have V:=zc ho
         have O:=zc hx
         have X:=zc E
         clear L ho hx E c0 c1 c2 c3 c4 cf
         obtain⟨c0,c1,c2,c3,c4,cf⟩:=zk O.out
         have aa:=(Array.getElem?_eq_some_iff.1 O.out).1
         by_cases U:j<m.st.length
         ·have K:(j:Int)<(m.st.length:Int):=by omega
          obtain⟨x,q⟩:=zfz U
          have z:=List.mem_of_getElem? q
          have HS:=zc (zbS (stF m.ex) q (zbB m))
          have o:=zcX (stF m.ex) m.st (j+1) (zbB m)
          rw[HS.out,←n.out,ByteArray.size_append] at o
          have H:(acc (stF m.ex) m.st (zbB m)).size≤1099511627776:=Nat.le_trans (zoD m) HZ.out
          obtain⟨N,M⟩: ∃N,N=j+1:=⟨_,rfl⟩
          have ej:(j:Int)+1=(N:Int):=by omega
          have HJ:=zc M
          clear M
          have aj:D.size≤1099511627776:=by omega
          obtain⟨g,Z,A⟩:=OwnR.elem (f:=smL) (m:=3) (fun _=>rfl) V.out.st q
          rw[Z] at c3
          have k0:=A 0 (by omega)
          have k1:=A 1 (by omega)
          have k2:=A 2 (by omega)
          simp only[smL,Nat.add_zero,List.getElem?_cons_zero,List.getElem?_cons_succ] at k0 k1 k2
          have z1:=SM.out.st x z
          obtain⟨t1,t2⟩:=TR.out.stm x z
          obtain⟨en,ah⟩: ∃en:Nat,x.expr=(en:Int):=⟨x.expr.toNat,by omega⟩
          obtain⟨pt,I⟩: ∃t,zax x.kind x.name (prX m.ex en)=t:=⟨_,rfl⟩
          have an:stF m.ex x=pt:=by rw[stF,ah,Int.toNat_natCast,I]
          rw[an] at HS o
          have am:pt.size≤1099511627776:=by omega
          have ar:wt m.ex en≤1099511627776:=by have:=zoF x.kind x.name (prX m.ex en);rw[I] at this;unfold wt;omega
          rw[ah] at k2
          have HG:=zc Z
          have cS: ∀d os,Calls Tryz.prog 65 #[.agg #[.slice S.rq.a m.rq.length S.rq.cap,.slice S.im.a m.im.length S.im.cap,.slice S.ep.a m.ep.length S.ep.cap,.slice (some ⟨g,0,none⟩) m.st.length S.st.cap,.slice S.ex.a m.ex.length S.ex.cap],.agg #[.int .i64 x.kind,.string x.name,.int .i64 (en:Int)]] (grow (redrawn wr d) os) fun e ay=>e= .returned (.string pt)∧∃p:Regrown,ay=grow (redrawn wr p.d) p.os:=fun d os=>Calls.regrown_of (by rw[←I,←Z];exact zoB J S m x.kind x.name en _ (V.out.later (below_regrown _ d os)) (by omega) SM.out.nums TR.out.ahead ar z1)
          have C0:=zc c0
          have C1:=zc c1
          have C2:=zc c2
          have C3:=zc c3
          have C4:=zc c4
          have K0:=zc k0
          have K1:=zc k1
          have K2:=zc k2
          clear Z A q z I an o H ah HG
          go_wp2_with fail
          have y0:=cell_regrown C0.out
          have y1:=cell_regrown C1.out
          have y2:=cell_regrown C2.out
          have y3:=cell_regrown C3.out
          have y4:=cell_regrown C4.out
          have ax:=cell_regrown K0.out
          have au:=cell_regrown K1.out
          have av:=cell_regrown K2.out
          refine wp_region_quiet_below (by kernel_rfl) (by kernel_rfl) ?_
          repeat (go_big_quiet_step (with_reducible exact cS _ _))
          refine wpQuiet_nil ?_
          intro w2 aw
          obtain⟨⟨dq,aB⟩,ae⟩:=aw
          have E:Below wr.heap.size wr w2:=by rw[ae];exact below_regrown _ _ _
          have ac:=zc (V.out.later E)
          have ad:=zc ((E.block _ aa).trans O.out)
          have ab:=zc (X.out.trans (E.mono X.out.size))
          clear E ae y0 y1 y2 y3 y4 ax au av cS
          go_wp2
          go_roundg (gk-1)
          case rel=>exact⟨N,_,rfl,rfl,by have:=HJ.out;omega,by rw[HJ.out,HS.out,←n.out],ac.out,ad.out,ab.out⟩
          case measure=>omega
         ·have K: ¬(j:Int)<(m.st.length:Int):=by omega
          have Y:Hid (D=acc (stF m.ex) m.st (zbB m)):=by show D=_;rw[n.out,List.take_of_length_le (by omega)]
          clear n
          go_wp2
          go_ret
          exact⟨.inl ⟨TR.out,zaF Y.out⟩,X.out⟩
theorem Tryz.infoString:(Tryz.prog.info? 9).map (fun i=>(i.zero,i.size,i.bytes))=some (some (.string {data:=#[]}),1,16):=by kernel_rfl
theorem OwnR.addr {w:World} {j size n:Nat} {e:TypeId} {r:Rw} {xs:List Value} (h:OwnR w j e size r n xs):n=0∨∃g,r.a=some ⟨g,0,none⟩:=by
 rcases h.2 with ⟨_,z⟩|⟨g,A,q,o,_⟩
 ·exact .inl z
 ·simp only[Value.slice.injEq] at o
  exact .inr ⟨g,o.1⟩
theorem OwnR.str {w:World} {n:Nat} {e:TypeId} {r:Rw} {l:List ByteArray} {g:Nat} (h:OwnR w n e 1 r l.length (l.map .string)) (o:r.a=some ⟨g,0,none⟩) {j:Nat} (q:j<l.length):w.cell? ⟨g,j,none⟩=some (.string (l.getD j sNone)):=by
 unfold OwnR at h
 rw[o] at h
 rw[h.cellAt j (by omega)]
 simp[List.getD,q]
theorem OwnR.lt {w:World} {j size n:Nat} {e:TypeId} {r:Rw} {xs:List Value} {g:Nat} (h:OwnR w j e size r n xs) (o:r.a=some ⟨g,0,none⟩):g<w.heap.size:=(h.typed (k:=g) (by simp[Rw.blk,o,Value.ownBlock])).2.1
theorem zoH {l:List ByteArray} {x:ByteArray} {j:Nat} (n:j<l.length) (h:((l.getD j sNone).toList==x.toList)=true):zaO l x=true:=by
 rw[zaO,List.any_eq_true]
 exact⟨l[j],List.getElem_mem n,by simpa [List.getD,n] using h⟩
theorem zoI {l:List ByteArray} {x:ByteArray} (h: ∀j,j<l.length→((l.getD j sNone).toList==x.toList)=false):zaO l x=false:=by
 rw[Bool.eq_false_iff,zaO]
 intro k
 rw[List.any_eq_true] at k
 obtain⟨y,q,n⟩:=k
 obtain⟨j,o,rfl⟩:=List.getElem_of_mem q
 have:=h j o
 simp only[List.getD,List.getElem?_eq_getElem o,Option.getD_some] at this
 rw[this] at n
 cases n
theorem zoJ {C:Cx} {x:PR} {q:PS} {z:Int} (w:Is x q z) (n:(decide (z<0)&&((ze C q.pos).kind==3))=false):Is2 (bd x (zG C)) q (zbi C q.pos z) sNone:=by
 unfold zbi
 by_cases h:z<0
 ·obtain⟨j,o⟩:=za7 w h
  simp only[h,decide_true,Bool.true_and] at n
  rw[j,zx,zG,n,if_pos h]
  rfl
 ·obtain⟨e,j,o⟩:=zcN w h
  rw[j,zd7,if_neg h]
  exact o
theorem zoK (C:Cx) (E o j:Nat) (x:PR) (S:Sv) (q:PS) (z:Int) (d:Nat) (w:World) (X:Is x q z) (L:Mem C E o j S q w) (K:(decide (z<0)&&((ze C q.pos).kind==3))=false):
  Calls Tryz.prog 131 #[pv C E o S q z d] w (zcW C E o j (bd x (zG C)) d S w):=by
 have O:=zc L
 have h:=L.tok
 have A:=L.few
 have U:Hid (Is2 (bd x (zG C)) q (zbi C q.pos z) sNone):=zoJ X K
 clear X L
 by_cases hz:z<0
 ·have N:decide (0≤z)=false:=decide_eq_false (by omega)
  simp only[hz,decide_true,Bool.true_and] at K
  by_cases hp:q.pos<C.ts.length
  ·obtain⟨I,_,_,_⟩:=h.cells hp (d:=⟨0,sNone,0,C.fin⟩)
   have Y:=(zak h).1
   change _=some (Value.int .i64 (ze C q.pos).kind) at I
   generalize M:ze C q.pos=t at I K
   have aa:(t.kind !=3)=true:=by rw[bne,K];rfl
   clear M
   unfold pv
   go_enter Tryz.func131,Tryz.ntmps131
   go_wp2_with fail
   refine (zcL C E o j S q z d _ (zo (zo h _) _) A).mono ?_
   rintro e w2 ⟨rfl,n⟩
   have D:Hid (_=_):=(zcn n).2
   obtain⟨I,c1,c2,c3,Z,V,c6,c7,c8,c9,H,J,cf⟩:=zag D.out
   unfold pv
   go_wp2
   refine bodyPost_ret (za8 rfl _ _ (w.heap.size+1) 53 _ (0,0) _ rfl (zaL D.out) Tryz.underlying53 rfl (by kernel_rfl)) rfl ?_
   exact zdl rfl U.out O.out (zb5 (zaR n) (Nat.le_succ _) ..)
  ·unfold pv
   go_enter Tryz.func131,Tryz.ntmps131
   go_wp2_with fail
   refine (zcL C E o j S q z d _ (zo (zo h _) _) A).mono ?_
   rintro e w2 ⟨rfl,n⟩
   have D:Hid (_=_):=(zcn n).2
   obtain⟨I,c1,c2,c3,Z,V,c6,c7,c8,c9,H,J,cf⟩:=zag D.out
   unfold pv
   go_wp2
   refine bodyPost_ret (za8 rfl _ _ (w.heap.size+1) 53 _ (0,0) _ rfl (zaL D.out) Tryz.underlying53 rfl (by kernel_rfl)) rfl ?_
   exact zdl rfl U.out O.out (zb5 (zaR n) (Nat.le_succ _) ..)
 ·have N:decide (0≤z)=true:=decide_eq_true (by omega)
  unfold pv
  go_enter Tryz.func131,Tryz.ntmps131
  go_wp2_with fail
  refine (zcL C E o j S q z d _ (zo (zo h _) _) A).mono ?_
  rintro e w2 ⟨rfl,n⟩
  have D:Hid (_=_):=(zcn n).2
  obtain⟨I,c1,c2,c3,Z,V,c6,c7,c8,c9,H,J,cf⟩:=zag D.out
  unfold pv
  go_wp2
  refine bodyPost_ret (za8 rfl _ _ (w.heap.size+1) 53 _ (0,0) _ rfl (zaL D.out) Tryz.underlying53 rfl (by kernel_rfl)) rfl ?_
  exact zdl rfl U.out O.out (zb5 (zaR n) (Nat.le_succ _) ..)
def txt (C:Cx) (q:PS):ByteArray:=(ze C q.pos).text
theorem zoL {C:Cx} {q:PS} (j:((ze C q.pos).kind==3)=true) (h:zaO q.rq (txt C q)=true):zG C q= .ok (adv q,txt C q):=by
 unfold txt at h
 rw[zG,if_pos j,if_pos h];rfl
theorem zoM {C:Cx} {q:PS} (j:((ze C q.pos).kind==3)=true) (h:zaO q.rq (txt C q)=false) (n:40≤q.rq.length):zG C q= .error (zq C q.pos):=by
 unfold txt at h
 rw[zG,if_pos j,h,if_pos n];rfl
theorem zoN {C:Cx} {q:PS} (j:((ze C q.pos).kind==3)=true) (h:zaO q.rq (txt C q)=false) (n: ¬40≤q.rq.length):zG C q= .ok ({adv q with rq:=q.rq++[txt C q]},txt C q):=by
 unfold txt at h
 rw[zG,if_pos j,h,if_neg n];rfl
theorem ziV (C:Cx) (Y z h:Nat) (S:Sv) (q:PS) (d:Nat) (w:World) (I:Mem C Y z h S q w) (Z:((ze C q.pos).kind==3)=true) (g:Nat) (D:q.rq.length=0∨S.rq.a=some ⟨g,0,none⟩):
  Calls Tryz.prog 131 #[pv C Y z S q (-1) d] w (zcW C Y z h (zG C q) d S w):=by
 obtain⟨i0,hi,aa,ae,ai⟩:=info_parts Tryz.infoString
 have o:=zc I
 have H3:=zc Z
 have V:q.pos<C.ts.length:=zeI Z (by decide)
 have ak:=I.few
 have an:=I.inv.rq
 have aj:=(zak I.tok).1
 obtain⟨c0,c1,_,_⟩:=I.tok.cells V (d:=⟨0,sNone,0,C.fin⟩)
 change _=some (Value.int .i64 (ze C q.pos).kind) at c0
 change _=some (Value.string (txt C q)) at c1
 generalize (ze C q.pos).kind=kd at c0 Z
 have aq:(kd !=3)=false:=by rw[bne,Z];rfl
 have ag:=zc D
 obtain⟨R,hR⟩: ∃R:Nat→ByteArray,∀j,R j=q.rq.getD j sNone:=⟨fun j=>q.rq.getD j sNone,fun _=>rfl⟩
 have HR:=zc hR
 have HC:Hid (∀j,j<q.rq.length→w.cell? ⟨g,j,none⟩=some (.string (R j))):=fun j U=>by
  rcases D with e|e
  ·omega
  ·rw[hR];exact o.out.own.rq.str e U
 clear hR
 generalize M:txt C q=tx at c1
 have n:=zc M
 have A:=fun o1 o2 o3=>((o.out.own.rq.alloc o1).alloc o2).alloc o3
 clear M I D
 unfold pv
 go_enter Tryz.func131,Tryz.ntmps131
 go_wp2
 go_loop [5] (fun i=>∃k:Nat,k≤q.rq.length∧i= .int .i64 k∧∀j,j<k→¬(R j).toList=tx.toList) (fun i=>(q.rq.length-intOf i).toNat)
 case atStart=>exact⟨0,Nat.zero_le _,rfl,fun j U=>absurd U (Nat.not_lt_zero j)⟩
 case round=>
  obtain⟨k,hk,rfl,O⟩:=hrel
  have K:=zc O
  clear O
  by_cases J:k<q.rq.length
  ·have ha:S.rq.a=some ⟨g,0,none⟩:=ag.out.elim (fun e=>by omega) id
   have al:=HC.out k J
   have ap:=o.out.own.rq.lt ha
   cases he:((R k).toList==tx.toList) with
   |true=>
    have L:Hid (zG C q= .ok (adv q,tx)):=by
     show zG C q= .ok (adv q,tx)
     rw[←n.out]
     exact zoL H3.out (zoH J (by rw[←HR.out,n.out];exact he))
    have HA:=zc ha
    go_wp2
    refine bodyPost_ret (za8 rfl _ _ (w.heap.size+1) 53 _ (0,0) _ rfl (zbj w _ _) Tryz.underlying53 rfl (by kernel_rfl)) rfl ?_
    rw[L.out]
    exact zdl (q':=adv q) (z':=-1) (by rw[pv,HA.out];rfl) ⟨rfl,rfl,rfl⟩ (o.out.adv V) (zaM w _ _)
   |false=>
    have HX:Hid (∀j,j<k+1→¬(R j).toList=tx.toList):=fun j U=>by
     by_cases e:j=k
     ·rw[e];exact beq_eq_false_iff_ne.1 he
     ·exact K.out j (by omega)
    go_wp2
    go_round
    case rel=>exact⟨k+1,by omega,by go_num,HX.out⟩
    case measure=>simp[intOf];omega
  ·have HN:Hid (zaO q.rq (txt C q)=false):=zoI fun j U=>by rw[n.out,←HR.out];exact beq_eq_false_iff_ne.2 (K.out j (by omega))
   by_cases hn:40≤q.rq.length
   ·have qn:decide ((40:Int)≤(q.rq.length:Int))=true:=decide_eq_true (by omega)
    have L:Hid (zG C q= .error (zq C q.pos)):=zoM H3.out HN.out hn
    go_wp2_with fail
    refine (zer C Y z h S (adv q) (-1) d _ (((o.out.adv V).alloc _).alloc _) (by decide) (by simp[adv])).mono ?_
    rintro e w2 ⟨rfl,E⟩
    have G3:Hid (_=_):=(zcn E).2
    obtain⟨b0,b1,b2,b3,b4,b5,b6,b7,b8,b9,ad,ah,bf⟩:=zag G3.out
    have HB:Hid (Below w.heap.size w w2):=zaR E
    clear E
    unfold pv
    go_wp2
    refine bodyPost_ret (za8 rfl _ _ (w.heap.size+1) 53 _ (0,0) _ rfl (zaL G3.out) Tryz.underlying53 rfl (by kernel_rfl)) rfl ?_
    rw[L.out]
    exact zdl (q':=adv q) (z':=(zq C q.pos:Int)) rfl rfl (o.out.adv V) (zb5 HB.out (Nat.le_succ _) ..)
   ·have qn:decide ((40:Int)≤(q.rq.length:Int))=false:=decide_eq_false (by omega)
    have L:Hid (zG C q= .ok ({adv q with rq:=q.rq++[tx]},tx)):=by
     show zG C q= .ok ({adv q with rq:=q.rq++[tx]},tx)
     rw[←n.out]
     exact zoN H3.out HN.out hn
    go_wp2_with (at_builtin;refine zcl _ rfl _ _ 22 rfl h 9 i0 _ 1 16 Tryz.underlying22 hi aa ae ai rfl (by decide) (by decide) S.rq q.rq.length _ (by rfl) (A _ _ _) (w.heap.size+1+1) [.string tx] (by rfl) (by exact (zaH w _ _ _).2.2) rfl (by intro u hu;simp at hu;subst hu;rfl) (by omega) (by have:=o.out.base;rw[zY];omega) ?_)
    intro r' w2 hr X N
    have ac:=zc hr
    have HG:=zc X
    have ab:=zc N
    have H:=fun b hb=>zdm (W:=w) o.out.own (Nat.le_refl _) (r:=S.rq.blk) (fun k e=>.inl e) b hb
    have g1:=(X.block w.heap.size (by rw[zY];omega) (H _ (Nat.le_refl _))).trans (zaH w _ _ _).1
    have g2:=(X.block (w.heap.size+1) (by rw[zY];omega) (H _ (by omega))).trans (zaH w _ _ _).2.1
    obtain⟨a0,a1,a2,a3,a4,a5,a6,a7,a8,a9,am,ao,af⟩:=zag g1
    obtain⟨b0,b1,b2,b3,b4,b5,b6,b7,b8,b9,ad,ah,bf⟩:=zag g2
    have G2:=zc g2
    clear g1 g2 X hr N H A
    go_wp2
    refine bodyPost_ret (za8 rfl _ _ (w.heap.size+1) 53 _ (0,0) _ rfl (zaL ((zp (by omega)).trans G2.out)) Tryz.underlying53 rfl (by kernel_rfl)) rfl ?_
    obtain⟨m',s'⟩:=(o.out.adv V).grow_rq (x:=tx) (zc2 w _ _ _) HG.out ac.out (by rw[zY];exact ab.out) (((Off.refl _ _ _).set (b:=w.heap.size) (Nat.le_refl _) (by rw[zY];omega) _ _).set12 (b:=w.heap.size+1) (by omega) (by rw[zY];omega) ..) (by show q.rq.length<40;omega)
    rw[L.out]
    exact⟨_,{adv q with rq:=q.rq++[tx]},-1,tx,by simp[pv,adv],⟨rfl,rfl,rfl⟩,m',s'⟩
theorem zdy (C:Cx) (n j h:Nat) (x:PR) (S:Sv) (q:PS) (z:Int) (d:Nat) (w:World) (D:Is x q z) (A:Mem C n j h S q w):
  Calls Tryz.prog 131 #[pv C n j S q z d] w (zcW C n j h (bd x (zG C)) d S w):=by
 cases o:(decide (z<0)&&((ze C q.pos).kind==3)) with
 |false=>exact zoK C n j h x S q z d w D A o
 |true=>
  rw[Bool.and_eq_true,decide_eq_true_eq] at o
  obtain⟨rfl,rfl⟩:=za7 D o.1
  rw[zx]
  rcases A.own.rq.addr with e|⟨g,e⟩
  ·exact ziV C n j h S q d w A o.2 0 (.inl e)
  ·exact ziV C n j h S q d w A o.2 g (.inr e)
abbrev set12 (w:World) (b:Nat) (x0 x1 x2 x3 x4 x5 x6 x7 x8 x9 x10 x11:Value):World:=
 ((((((((((((w.setCell ⟨b,0,none⟩ x0).setCell ⟨b,1,none⟩ x1).setCell ⟨b,2,none⟩ x2).setCell ⟨b,3,none⟩ x3).setCell ⟨b,4,none⟩ x4).setCell ⟨b,5,none⟩ x5).setCell ⟨b,6,none⟩ x6).setCell ⟨b,7,none⟩ x7).setCell ⟨b,8,none⟩ x8).setCell ⟨b,9,none⟩ x9).setCell ⟨b,10,none⟩ x10).setCell ⟨b,11,none⟩ x11)
theorem zgx (w:World) (a:Addr) (u:Value):(w.setCell a u).heap.size=w.heap.size:=by show (w.heap.modify _ _).size=_;simp
theorem zoO (w:World) (b:Nat) (A z n D o q J I E H j h:Value):(set12 w b A z n D o q J I E H j h).heap.size=w.heap.size:=by
 unfold set12
 simp only[zgx]
theorem ze6 {w:World} {b k:Nat} (h:k≠b) (D A o E q z K J H I n j:Value):(set12 w b D A o E q z K J H I n j).heap[k]? =w.heap[k]?:=by
 unfold set12
 rw[zp h,zp h,zp h,zp h,zp h,zp h,zp h,zp h,zp h,zp h,zp h,zp h]
structure Bx (gt:Nat) (S:Sv) (w:World) (b:Nat) (cs:Array Value):Prop where
 heap:w.heap[b]? =some (.cells cs 53 (0,0))
 free: ¬S.has b
 ne:b≠gt
theorem Bx.lt {j b:Nat} {S:Sv} {w:World} {n:Array Value} (h:Bx j S w b n):b<w.heap.size:=(Array.getElem?_eq_some_iff.1 h.heap).1
theorem Bx.stp {o b:Nat} {S q:Sv} {w j:World} {n:Array Value} (h:Bx o S w b n) (k:Stp S w q j):Bx o q j b n:=
 ⟨(k.block b h.lt h.free).trans h.heap,fun g=>(k.sub b g).elim h.free fun z=>by have:=h.lt;omega,h.ne⟩
theorem Bx.below {j b:Nat} {S:Sv} {w o:World} {n:Array Value} (h:Bx j S w b n) (k:Below w.heap.size w o):Bx j S o b n:=⟨(k.block b h.lt).trans h.heap,h.free,h.ne⟩
theorem Bx.alloc {j b:Nat} {S:Sv} {w:World} {n:Array Value} (h:Bx j S w b n) (o:Obj):Bx j S (w.alloc o) b n:=h.below ((Below.refl _ _).alloc (Nat.le_refl _) _)
theorem Bx.new {C:Cx} {o n j:Nat} {S:Sv} {q:PS} {w:World} (h:Mem C o n j S q w) (z:Array Value):Bx o S (w.alloc (.cells z 53 (0,0))) w.heap.size z:=
 ⟨heap_alloc_new w _,fun g=>by have:=(h.own.has g).2;omega,by have:=(zak h.tok).1;omega⟩
theorem Bx.set {j b:Nat} {S:Sv} {w:World} {n:Array Value} (h:Bx j S w b n) (i:Nat) (u:Value):Bx j S (w.setCell ⟨b,i,none⟩ u) b (n.setIfInBounds i u):=⟨zbP h.heap,h.free,h.ne⟩
theorem Bx.set_other {j b c:Nat} {S:Sv} {w:World} {n:Array Value} (h:Bx j S w b n) (o:b≠c) (i:Nat) (u:Value):Bx j S (w.setCell ⟨c,i,none⟩ u) b n:=⟨(zp o).trans h.heap,h.free,h.ne⟩
theorem Bx.put {L b:Nat} {S:Sv} {w:World} {V v1 X Z v4 v5 Y O v8 U o q:Value} (h:Bx L S w b #[V,v1,X,Z,v4,v5,Y,O,v8,U,o,q]) (N z D E J K A M H I n j:Value):
  Bx L S (set12 w b N z D E J K A M H I n j) b #[N,z,D,E,J,K,A,M,H,I,n,j]:=⟨zaL h.heap,h.free,h.ne⟩
theorem Bx.other {q b c:Nat} {S:Sv} {w:World} {o:Array Value} (h:Bx q S w b o) (D:b≠c) (I H z J A E N M K L n j:Value):Bx q S (set12 w c I H z J A E N M K L n j) b o:=⟨(ze6 D ..).trans h.heap,h.free,h.ne⟩
theorem Bx.at1 {E b:Nat} {S:Sv} {w:World} {I L A H q K D o J z j n:Value} (h:Bx E S w b #[I,L,A,H,q,K,D,o,J,z,j,n]) (u:Value):Bx E S (w.setCell ⟨b,1,none⟩ u) b #[I,u,A,H,q,K,D,o,J,z,j,n]:=by simpa using h.set 1 u
theorem Bx.at11 {E b:Nat} {S:Sv} {w:World} {I J A H q L D o K z j n:Value} (h:Bx E S w b #[I,J,A,H,q,L,D,o,K,z,j,n]) (u:Value):Bx E S (w.setCell ⟨b,11,none⟩ u) b #[I,J,A,H,q,L,D,o,K,z,j,u]:=by simpa using h.set 11 u
theorem Bx.box {L b:Nat} {S:Sv} {w:World} {H I A E q K D o J z j n:Value} (h:Bx L S w b #[H,I,A,E,q,K,D,o,J,z,j,n]):Box w b H I A E q K D o J z j n:=zag h.heap
theorem Mem.set {C:Cx} {o n j b:Nat} {S:Sv} {q:PS} {w:World} (h:Mem C o n j S q w) {A:Array Value} (z:Bx o S w b A) (i:Nat) (u:Value):Mem C o n j S q (w.setCell ⟨b,i,none⟩ u):=
 ⟨h.own.keep fun k g=>zp (b:=k) fun e=>z.free (by rw[←e];exact g),h.inv,zbs h.tok (zp z.ne.symm),h.few,by rw[zgx];exact h.base⟩
theorem Mem.put {C:Cx} {z n j b:Nat} {S:Sv} {q:PS} {w:World} (h:Mem C z n j S q w) {E:Array Value} (D:Bx z S w b E) (L K H M I J V U N O A o:Value):Mem C z n j S q (set12 w b L K H M I J V U N O A o):=
 ⟨h.own.keep fun k g=>ze6 (k:=k) (fun e=>D.free (by rw[←e];exact g)) _ _ _ _ _ _ _ _ _ _ _ _,h.inv,zbs h.tok (ze6 D.ne.symm ..),h.few,by rw[zoO];exact h.base⟩
structure SB (B:Nat) (S:Sv) (w:World) (S':Sv) (w':World):Prop where
 os:w'.os=w.os
 tape:w'.tape=w.tape
 output:w'.output=w.output
 size:w.heap.size≤w'.heap.size
 low:B≤w.heap.size
 block: ∀k,k<B→¬S.has k→w'.heap[k]? =w.heap[k]?
 sub: ∀k,S'.has k→S.has k∨B≤k
theorem SB.start {S:Sv} {w j:World} (h:Below w.heap.size w j):SB w.heap.size S w S j:=⟨h.os,h.tape,h.output,h.size,Nat.le_refl _,fun k n _=>h.block k n,fun _ g=>.inl g⟩
theorem SB.step {B:Nat} {S z A:Sv} {w n o:World} (h:SB B S w z n) (k:Stp z n A o):SB B S w A o:=
 ⟨k.os.trans h.os,k.tape.trans h.tape,k.output.trans h.output,Nat.le_trans h.size k.size,h.low,
  fun i j q=>(k.block i (by have:=h.size;have:=h.low;omega) fun g=>(h.sub i g).elim q fun D=>by omega).trans (h.block i j q),
  fun i j=>(k.sub i j).elim (h.sub i) fun g=>.inr (by have:=h.size;have:=h.low;omega)⟩
theorem SB.below {B:Nat} {S o:Sv} {w j n:World} (h:SB B S w o j) (k:Below j.heap.size j n):SB B S w o n:=h.step (Stp.below k)
theorem SB.alloc {B:Nat} {S n:Sv} {w j:World} (h:SB B S w n j) (o:Obj):SB B S w n (j.alloc o):=h.below ((Below.refl _ _).alloc (Nat.le_refl _) _)
theorem SB.set {B:Nat} {S n:Sv} {w j:World} (h:SB B S w n j) {b:Nat} (z:B≤b) (i:Nat) (u:Value):SB B S w n (j.setCell ⟨b,i,none⟩ u):=
 ⟨h.os,h.tape,h.output,by rw[zgx];exact h.size,h.low,fun k q o=>(zp (by omega)).trans (h.block k q o),h.sub⟩
theorem SB.put {B:Nat} {S E:Sv} {w q:World} (h:SB B S w E q) {b:Nat} (j:B≤b) (I H z J A D N M K L o n:Value):SB B S w E (set12 q b I H z J A D N M K L o n):=
 (((((((((((h.set j 0 I).set j 1 H).set j 2 z).set j 3 J).set j 4 A).set j 5 D).set j 6 N).set j 7 M).set j 8 K).set j 9 L).set j 10 o).set j 11 n
theorem SB.done {S n:Sv} {w j:World} (h:SB w.heap.size S w n j):Stp S w n j:=⟨h.os,h.tape,h.output,h.size,h.block,h.sub⟩
theorem zJ {P:Program} {j:Code} {Q:Exit→Act→World→Prop} {a:Act} {w0:World} {R:World→Prop} (n:R w0) (h: ∀W,R W→Code.wp P j Q a W):Code.wp P j Q a w0:=h w0 n
theorem Mem.two {C:Cx} {E o j:Nat} {S:Sv} {q:PS} {w n:World} {z A:Array Value} (h:Mem C E o j S q w) (D:Below ((w.alloc (.cells z 53 (0,0))).alloc (.cells A 53 (0,0))).heap.size ((w.alloc (.cells z 53 (0,0))).alloc (.cells A 53 (0,0))) n):
  Bx E S n w.heap.size z∧Bx E S n (w.heap.size+1) A∧Mem C E o j S q n∧SB w.heap.size S w S n:=
 ⟨((Bx.new h _).alloc _).below D,by have:=(Bx.new (h.alloc (.cells z 53 (0,0))) A).below D;rw[zj] at this;exact this,h.later (zaR D),SB.start (zaR D)⟩
theorem Mem.two2 {C:Cx} {D E j:Nat} {S o:Sv} {q:PS} {w n:World} {z A:Array Value} (h:Mem C D E j S q w) (s:Stp S ((w.alloc (.cells z 53 (0,0))).alloc (.cells A 53 (0,0))) o n):
  Bx D o n w.heap.size z∧Bx D o n (w.heap.size+1) A∧SB w.heap.size S w o n:=
 ⟨((Bx.new h _).alloc _).stp s,by have:=(Bx.new (h.alloc (.cells z 53 (0,0))) A).stp s;rw[zj] at this;exact this,(SB.start (zaM w _ _)).step s⟩
theorem zW {C:Cx} {q j h:Nat} {y:PR} {d:Nat} {S n:Sv} {w o:World} {q':PS} {z':Int} {v:Value} (D:v=pv C q j n q' z' d) (z:Is y q' z') (E:Mem C q j h n q' o) (A:SB w.heap.size S w n o):Out C q j h y d S w (.returned v) o:=
 ⟨n,q',z',by rw[D],z,E,A.done⟩
end Go.Proofs.YticdggnnpjachaaGreat
