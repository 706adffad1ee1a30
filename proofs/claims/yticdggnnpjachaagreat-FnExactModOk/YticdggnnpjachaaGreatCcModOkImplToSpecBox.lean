/-
  What impl.ModOk answers: the walk.
  What l5Expr of the specification answers of a product: the walk.
  What l5Expr of the specification answers,whole. No walk is zq.
  What l5As,l5Quote,l5Imp,l5Exp and l5Stmt of the specification answer: the walks.
  What spec.Print answers: the walk.
  What spec's l4Spec answers: the walk.
  Boxes of a program under way,through calls and stores. No program is spoken of but for the numbers of its types.
-/
import Derived.Test.YticdggnnpjachaaGreatCcImplParseAll
namespace Go.Proofs.YticdggnnpjachaaGreat
set_option maxRecDepth 100000
set_option maxHeartbeats 12800000
open Go.RowKit Go.PlainAid Go.Sort
theorem zoz (o:Nat) (S:Sv) (m:Md) (H:Bool) (w:World) (h:OwnMd w o S m) (Z:Small m) (U:Tree m→(zb6 m).size≤4294967296):
  Calls Tryz.prog 14 #[zt S m,.bool H] w fun e w'=>zh6 (zb6 m) m H e∧Below w.heap.size w w':=by
 have HH:=zc h
 have SM:=zc Z
 have HU:=zc U
 have SF:Hid (zdM m):=Z.few
 clear h Z U
 unfold zt
 go_enter Tryz.func14,Tryz.ntmps14
 go_upto_region 1 with fail
 have E:Hid (Below w.heap.size w (w.alloc (.cells #[.slice S.rq.a m.rq.length S.rq.cap,.slice S.im.a m.im.length S.im.cap,.slice S.ep.a m.ep.length S.ep.cap,.slice S.st.a m.st.length S.st.cap,.slice S.ex.a m.ex.length S.ex.cap] 28))):=(Below.refl _ _).alloc (Nat.le_refl _) _
 refine zah (R:=fun W=>W.heap[w.heap.size]? =some (.cells #[.slice S.rq.a m.rq.length S.rq.cap,.slice S.im.a m.im.length S.im.cap,.slice S.ep.a m.ep.length S.ep.cap,.slice S.st.a m.st.length S.st.cap,.slice S.ex.a m.ex.length S.ex.cap] 28 (0,0))∧OwnMd W o S m∧Below w.heap.size w W) ⟨heap_alloc_new w _,HH.out.later E.out,E.out⟩ ?_
 obtain⟨gx,L⟩: ∃gx,gx=w.heap.size:=⟨_,rfl⟩
 rw[←L]
 rintro w1 ⟨hx,ho,z⟩
 rw[L] at z
 clear L E HH
 have X1:=zc hx
 have O1:=zc ho
 have V:=zc z
 clear hx ho z
 obtain⟨c0,c1,c2,c3,c4,cf⟩:=zk X1.out
 go_wp2_with fail
 refine (zmM o S m H w1 O1.out SM.out (fun t=>Nat.le_trans (HU.out t) (by omega))).mono ?_
 rintro e w2 ⟨A,z⟩
 obtain⟨t,K,rfl⟩:=A.form
 have PR:=zc K
 have ht:=K.size HU.out
 have X2:=zc ((z.block _ (Array.getElem?_eq_some_iff.1 X1.out).1).trans X1.out)
 have O2:=zc (O1.out.later z)
 have Y:=zc (V.out.trans (z.mono V.out.size))
 clear A K z c0 c1 c2 c3 c4 cf
 go_wp2_with fail
 refine (zoy t H w2 ht).mono ?_
 rintro e M ⟨A,z⟩
 have X3:=zc ((z.block _ (Array.getElem?_eq_some_iff.1 X2.out).1).trans X2.out)
 have O3:=zc (O2.out.later z)
 have D:=zc (Y.out.trans (z.mono Y.out.size))
 clear z
 rcases A.md with ⟨q,j,n,X,hn,rfl,I,J⟩|⟨p,X,rfl⟩
 ·have OK:=zc (zh8 (m:=m) X hn)
  have O4:=zc I
  have NF:=zc J
  clear A X hn I J
  unfold zt
  go_upto_region 2 with fail
  have E:Hid (Below M.heap.size M (M.alloc (.cells #[.slice j.rq.a n.rq.length j.rq.cap,.slice j.im.a n.im.length j.im.cap,.slice j.ep.a n.ep.length j.ep.cap,.slice j.st.a n.st.length j.st.cap,.slice j.ex.a n.ex.length j.ex.cap] 28))):=(Below.refl _ _).alloc (Nat.le_refl _) _
  refine zah (R:=fun W=>W.heap[gx]? =some (.cells #[.slice S.rq.a m.rq.length S.rq.cap,.slice S.im.a m.im.length S.im.cap,.slice S.ep.a m.ep.length S.ep.cap,.slice S.st.a m.st.length S.st.cap,.slice S.ex.a m.ex.length S.ex.cap] 28 (0,0))∧W.heap[M.heap.size]? =some (.cells #[.slice j.rq.a n.rq.length j.rq.cap,.slice j.im.a n.im.length j.im.cap,.slice j.ep.a n.ep.length j.ep.cap,.slice j.st.a n.st.length j.st.cap,.slice j.ex.a n.ex.length j.ex.cap] 28 (0,0))∧OwnMd W o S m∧OwnMd W w2.heap.size j n∧Below w.heap.size w W) ⟨(E.out.block _ (Array.getElem?_eq_some_iff.1 X3.out).1).trans X3.out,heap_alloc_new M _,O3.out.later E.out,O4.out.later E.out,D.out.trans (E.out.mono D.out.size)⟩ ?_
  obtain⟨gy,O⟩: ∃gy,gy=M.heap.size:=⟨_,rfl⟩
  rw[←O]
  intro w4 h4
  have N:=zc h4
  clear h4 O E X3 O3 O4 D
  obtain⟨c0,c1,c2,c3,c4,cf⟩:=zk N.out.1
  obtain⟨d0,d1,d2,d3,d4,df⟩:=zk N.out.2.1
  go_wp2_with fail
  refine ((zlG o w2.heap.size S j m n _ N.out.2.2.1 N.out.2.2.2.1 SF.out)).mono ?_
  rintro e w5 ⟨⟨r,rfl,hr⟩,z⟩
  have HR:=zc hr
  have aa:=zc (N.out.2.2.2.2.trans (z.mono N.out.2.2.2.2.size))
  clear hr z c0 c1 c2 c3 c4 cf d0 d1 d2 d3 d4 df
  go_wp2
  go_ret
  exact⟨⟨t,PR.out,r,rfl,HR.out.trans (Iff.trans ⟨Eq.symm,Eq.symm⟩ OK.out.symm)⟩,aa.out⟩
 ·have NO:=zc (zh7 (m:=m) X)
  clear A X
  go_wp2
  go_ret
  exact⟨⟨t,PR.out,false,rfl,⟨fun k=>(by cases k),fun k=>absurd k NO.out⟩⟩,(D.out.alloc D.out.size _)⟩
theorem zo0 (o g:Nat) (S:Sv) (m:Md) (i j n:Nat) (k z:Int) (A D:ByteArray) (w:World) (I:S.ex.a=some ⟨g,0,none⟩) (h:OwnMd w o S m) (hi:i<m.ex.length) (ag:g<w.heap.size) (c0:w.cell? ⟨g,i*6,none⟩=some (.int .i64 k)) (c1:w.cell? ⟨g,i*6+1,none⟩=some (.int .i64 z)) (c2:w.cell? ⟨g,i*6+2,none⟩=some (.string A)) (c3:w.cell? ⟨g,i*6+3,none⟩=some (.string D)) (c4:w.cell? ⟨g,i*6+4,none⟩=some (.int .i64 (j:Int))) (c5:w.cell? ⟨g,i*6+5,none⟩=some (.int .i64 (n:Int))) (k1:(k==1)=false) (k2:(k==2)=false) (k3:(k==3)=false) (k4:(k==4)=false) (k5:(k==5)=false) (k6:(k==6)=false) (k7:(k==7)=false) (k8:(k==8)=true) (O:(zC (zL (m.ex.getD j zf).kind) (prX m.ex j)++tStar++zC (zT (m.ex.getD n zf).kind) (prX m.ex n)).size≤1099511627776) (he:zdP o S m i) (hl:j<i) (hr:n<i) (ac:wt m.ex j≤1099511627776) (ab:wt m.ex n≤1099511627776):
  Calls Tryz.prog 123 #[zt S m,.int .i64 i] w fun e w'=>e= .returned (.string (zC (zL (m.ex.getD j zf).kind) (prX m.ex j)++tStar++zC (zT (m.ex.getD n zf).kind) (prX m.ex n)))∧Below w.heap.size w w':=by
 have ai:(i:Int)<(m.ex.length:Int):=by omega
 have HA:Hid (OwnMd ((w.alloc (.cells #[.slice S.rq.a m.rq.length S.rq.cap,.slice S.im.a m.im.length S.im.cap,.slice S.ep.a m.ep.length S.ep.cap,.slice S.st.a m.st.length S.st.cap,.slice (some ⟨g,0,none⟩) m.ex.length S.ex.cap] 28)).alloc (.cells #[.int .i64 k,.int .i64 z,.string A,.string D,.int .i64 (j:Int),.int .i64 (n:Int)] 108)) o S m):=(h.alloc _).alloc _
 have HE:=zc he
 have H:Hid (zt S m= .agg #[.slice S.rq.a m.rq.length S.rq.cap,.slice S.im.a m.im.length S.im.cap,.slice S.ep.a m.ep.length S.ep.cap,.slice S.st.a m.st.length S.st.cap,.slice (some ⟨g,0,none⟩) m.ex.length S.ex.cap]):=by show _=_;rw[zt,I]
 have al:(j:Int)<(m.ex.length:Int):=by omega
 have am:(n:Int)<(m.ex.length:Int):=by omega
 obtain⟨g2,hg2,-,d0,-,-,-,-,-⟩:=h.expr (i:=n) (by omega)
 have eg:g2=g:=by have:=hg2.symm.trans I;simpa using this
 rw[eg] at d0
 obtain⟨U,V⟩: ∃U,(m.ex.getD n zf).kind=U:=⟨_,rfl⟩
 rw[V] at d0
 have aa:=zc V
 obtain⟨tl,N⟩: ∃tl,zC (zL (m.ex.getD j zf).kind) (prX m.ex j)=tl:=⟨_,rfl⟩
 obtain⟨tr,Z⟩: ∃tr,zC (zT (m.ex.getD n zf).kind) (prX m.ex n)=tr:=⟨_,rfl⟩
 rw[N,Z] at O
 have L:=zc N
 have K:=zc Z
 obtain⟨kl,M⟩: ∃kl,(m.ex.getD j zf).kind=kl:=⟨_,rfl⟩
 have cK: ∀d E,Calls Tryz.prog 165 #[.agg #[.slice S.rq.a m.rq.length S.rq.cap,.slice S.im.a m.im.length S.im.cap,.slice S.ep.a m.ep.length S.ep.cap,.slice S.st.a m.st.length S.st.cap,.slice (some ⟨g,0,none⟩) m.ex.length S.ex.cap],.int .i64 (j:Int)] (grow (redrawn ((w.alloc (.cells #[.slice S.rq.a m.rq.length S.rq.cap,.slice S.im.a m.im.length S.im.cap,.slice S.ep.a m.ep.length S.ep.cap,.slice S.st.a m.st.length S.st.cap,.slice (some ⟨g,0,none⟩) m.ex.length S.ex.cap] 28)).alloc (.cells #[.int .i64 k,.int .i64 z,.string A,.string D,.int .i64 (j:Int),.int .i64 (n:Int)] 108)) d) E) fun e q=>e= .returned (.bool (zL kl))∧∃p:Regrown,q=grow (redrawn ((w.alloc (.cells #[.slice S.rq.a m.rq.length S.rq.cap,.slice S.im.a m.im.length S.im.cap,.slice S.ep.a m.ep.length S.ep.cap,.slice S.st.a m.st.length S.st.cap,.slice (some ⟨g,0,none⟩) m.ex.length S.ex.cap] 28)).alloc (.cells #[.int .i64 k,.int .i64 z,.string A,.string D,.int .i64 (j:Int),.int .i64 (n:Int)] 108)) p.d) p.os:=fun d E=>Calls.regrown_of (by rw[←H.out,←M];exact zgb o S m j _ (HA.out.later (below_regrown _ d E)) (by omega))
 have cL: ∀d E,Calls Tryz.prog 164 #[.agg #[.slice S.rq.a m.rq.length S.rq.cap,.slice S.im.a m.im.length S.im.cap,.slice S.ep.a m.ep.length S.ep.cap,.slice S.st.a m.st.length S.st.cap,.slice (some ⟨g,0,none⟩) m.ex.length S.ex.cap],.int .i64 (j:Int),.bool (zL kl)] (grow (redrawn ((w.alloc (.cells #[.slice S.rq.a m.rq.length S.rq.cap,.slice S.im.a m.im.length S.im.cap,.slice S.ep.a m.ep.length S.ep.cap,.slice S.st.a m.st.length S.st.cap,.slice (some ⟨g,0,none⟩) m.ex.length S.ex.cap] 28)).alloc (.cells #[.int .i64 k,.int .i64 z,.string A,.string D,.int .i64 (j:Int),.int .i64 (n:Int)] 108)) d) E) fun e q=>e= .returned (.string tl)∧∃p:Regrown,q=grow (redrawn ((w.alloc (.cells #[.slice S.rq.a m.rq.length S.rq.cap,.slice S.im.a m.im.length S.im.cap,.slice S.ep.a m.ep.length S.ep.cap,.slice S.st.a m.st.length S.st.cap,.slice (some ⟨g,0,none⟩) m.ex.length S.ex.cap] 28)).alloc (.cells #[.int .i64 k,.int .i64 z,.string A,.string D,.int .i64 (j:Int),.int .i64 (n:Int)] 108)) p.d) p.os:=fun d E=>Calls.regrown_of (by rw[←H.out,←L.out,M];exact zfj o S m i j _ _ HE.out (by omega) (by omega) (HA.out.later (below_regrown _ d E)) ac)
 have cS: ∀d E,Calls Tryz.prog 121 #[.int .i64 U] (grow (redrawn ((w.alloc (.cells #[.slice S.rq.a m.rq.length S.rq.cap,.slice S.im.a m.im.length S.im.cap,.slice S.ep.a m.ep.length S.ep.cap,.slice S.st.a m.st.length S.st.cap,.slice (some ⟨g,0,none⟩) m.ex.length S.ex.cap] 28)).alloc (.cells #[.int .i64 k,.int .i64 z,.string A,.string D,.int .i64 (j:Int),.int .i64 (n:Int)] 108)) d) E) fun e q=>e= .returned (.bool (zT U))∧∃p:Regrown,q=grow (redrawn ((w.alloc (.cells #[.slice S.rq.a m.rq.length S.rq.cap,.slice S.im.a m.im.length S.im.cap,.slice S.ep.a m.ep.length S.ep.cap,.slice S.st.a m.st.length S.st.cap,.slice (some ⟨g,0,none⟩) m.ex.length S.ex.cap] 28)).alloc (.cells #[.int .i64 k,.int .i64 z,.string A,.string D,.int .i64 (j:Int),.int .i64 (n:Int)] 108)) p.d) p.os:=fun d E=>Calls.regrown_of ((zhP U _).mono (by rintro e w' ⟨rfl,rfl⟩;exact⟨rfl,Below.refl _ _⟩))
 have cR: ∀d E,Calls Tryz.prog 164 #[.agg #[.slice S.rq.a m.rq.length S.rq.cap,.slice S.im.a m.im.length S.im.cap,.slice S.ep.a m.ep.length S.ep.cap,.slice S.st.a m.st.length S.st.cap,.slice (some ⟨g,0,none⟩) m.ex.length S.ex.cap],.int .i64 (n:Int),.bool (zT U)] (grow (redrawn ((w.alloc (.cells #[.slice S.rq.a m.rq.length S.rq.cap,.slice S.im.a m.im.length S.im.cap,.slice S.ep.a m.ep.length S.ep.cap,.slice S.st.a m.st.length S.st.cap,.slice (some ⟨g,0,none⟩) m.ex.length S.ex.cap] 28)).alloc (.cells #[.int .i64 k,.int .i64 z,.string A,.string D,.int .i64 (j:Int),.int .i64 (n:Int)] 108)) d) E) fun e q=>e= .returned (.string tr)∧∃p:Regrown,q=grow (redrawn ((w.alloc (.cells #[.slice S.rq.a m.rq.length S.rq.cap,.slice S.im.a m.im.length S.im.cap,.slice S.ep.a m.ep.length S.ep.cap,.slice S.st.a m.st.length S.st.cap,.slice (some ⟨g,0,none⟩) m.ex.length S.ex.cap] 28)).alloc (.cells #[.int .i64 k,.int .i64 z,.string A,.string D,.int .i64 (j:Int),.int .i64 (n:Int)] 108)) p.d) p.os:=fun d E=>Calls.regrown_of (by rw[←H.out,←K.out,aa.out];exact zfj o S m i n _ _ HE.out (by omega) (by omega) (HA.out.later (below_regrown _ d E)) ab)
 have X:Hid (Six ((w.alloc (.cells #[.slice S.rq.a m.rq.length S.rq.cap,.slice S.im.a m.im.length S.im.cap,.slice S.ep.a m.ep.length S.ep.cap,.slice S.st.a m.st.length S.st.cap,.slice (some ⟨g,0,none⟩) m.ex.length S.ex.cap] 28)).alloc (.cells #[.int .i64 k,.int .i64 z,.string A,.string D,.int .i64 (j:Int),.int .i64 (n:Int)] 108)) (w.heap.size+1) (.int .i64 k) (.int .i64 z) (.string A) (.string D) (.int .i64 (j:Int)) (.int .i64 (n:Int))):=zu (zbj w _ _)
 have Y:=zc (zk (zce (o':=.cells #[.int .i64 k,.int .i64 z,.string A,.string D,.int .i64 (j:Int),.int .i64 (n:Int)] 108) (heap_alloc_new w (.cells #[.slice S.rq.a m.rq.length S.rq.cap,.slice S.im.a m.im.length S.im.cap,.slice S.ep.a m.ep.length S.ep.cap,.slice S.st.a m.st.length S.st.cap,.slice (some ⟨g,0,none⟩) m.ex.length S.ex.cap] 28))))
 have D0:Hid (((w.alloc (.cells #[.slice S.rq.a m.rq.length S.rq.cap,.slice S.im.a m.im.length S.im.cap,.slice S.ep.a m.ep.length S.ep.cap,.slice S.st.a m.st.length S.st.cap,.slice (some ⟨g,0,none⟩) m.ex.length S.ex.cap] 28)).alloc (.cells #[.int .i64 k,.int .i64 z,.string A,.string D,.int .i64 (j:Int),.int .i64 (n:Int)] 108)).cell? ⟨g,n*6,none⟩=some (.int .i64 U)):=by show _=_;rw[World.cell?_alloc_past _ _ _ (by rw[zj];omega),World.cell?_alloc_past _ _ _ ag];exact d0
 simp only[ByteArray.size_append] at O
 have af:tStar.size=3:=rfl
 have ak:tl.size≤1099511627776:=by omega
 have ah:tr.size≤1099511627776:=by omega
 have HV:Hid ((zC (zL (m.ex.getD j zf).kind) (prX m.ex j)++tStar++zC (zT (m.ex.getD n zf).kind) (prX m.ex n))=tl++tStar++tr):=by show _=_;rw[L.out,K.out]
 unfold zt
 rw[I]
 clear I h HA HE H L K N Z V aa hg2 he O af d0 eg M
 go_enter Tryz.func123,Tryz.ntmps123
 go_wp2_with fail
 have x0:=cell_regrown X.out.c0
 have x4:=cell_regrown X.out.c4
 have x5:=cell_regrown X.out.c5
 have y0:=cell_regrown Y.out.1
 have y1:=cell_regrown Y.out.2.1
 have y2:=cell_regrown Y.out.2.2.1
 have y3:=cell_regrown Y.out.2.2.2.1
 have y4:=cell_regrown Y.out.2.2.2.2.1
 have e0:=cell_regrown D0.out
 refine wp_region_quiet_below (by kernel_rfl) (by kernel_rfl) ?_
 repeat (go_big_quiet_step (first|with_reducible exact cL _ _|with_reducible exact cS _ _|with_reducible exact cR _ _|with_reducible exact cK _ _))
 refine wpQuiet_nil ?_
 intro w1 ad
 obtain⟨⟨dq,aj⟩,J⟩:=ad
 have ae:Hid (Below w.heap.size w w1):=by show Below _ _ _;rw[J];exact (zaM w _ _).trans ((below_regrown _ _ _).mono (by rw[zj,zj];omega))
 clear J
 go_wp2
 go_ret
 exact⟨zaF HV.out.symm,ae.out⟩
theorem zfx (b:Bool) (t:ByteArray):t.size≤(zC b t).size:=by
 unfold zC
 split
 ·rw[ByteArray.size_append,ByteArray.size_append]
  omega
 ·exact Nat.le_refl _
theorem zo1 (z:Nat) (S:Sv) (m:Md) (hn:zbg m.ex) (ha:zbf m.ex) (n:Nat):zdP z S m n:=by
 induction n with
 |zero=>intro i w A;omega
 |succ n ih=>
  intro i w ac A h j
  by_cases ab:i<n
  ·exact ih i w ab A h j
  ·have he:zdP z S m i:=by
    have:i=n:=by omega
    rw[this]
    exact ih
   obtain⟨g,o,q,L,O,M,N,K,J⟩:=h.expr A
   have aa:=hn (m.ex.getD i zf) (by rw[zdf A];exact List.getElem_mem A)
   have X:=zeL ha (i:=i)
   unfold wt at j
   rw[zfC ha] at j ⊢
   generalize m.ex.getD i zf=x at*
   by_cases E:(x.kind==1)=true
   ·rw[if_pos E]
    exact zlS g S m i _ _ _ _ _ _ w o A q L O M N K J E aa
   rw[if_neg E] at j ⊢
   by_cases H:(x.kind==2)=true
   ·rw[if_pos H]
    exact zlT g S m i _ _ _ _ _ _ w o A q L O M N K J (by simpa using E) H
   rw[if_neg H] at j ⊢
   by_cases I:(x.kind==3)=true
   ·rw[if_pos I] at j ⊢
    exact zlU g S m i _ _ _ _ _ _ w o A q L O M N K J (by simpa using E) (by simpa using H) I j
   rw[if_neg I] at j ⊢
   by_cases U:(x.kind==4)=true
   ·rw[if_pos U] at j ⊢
    exact zlV g S m i _ _ _ _ _ _ w o A q L O M N K J (by simpa using E) (by simpa using H) (by simpa using I) U j
   rw[if_neg U] at j ⊢
   by_cases V:(x.kind==5)=true
   ·rw[if_pos V] at j ⊢
    exact zlW g S m i _ _ _ _ _ _ w o A q L O M N K J (by simpa using E) (by simpa using H) (by simpa using I) (by simpa using U) V j
   rw[if_neg V] at j ⊢
   by_cases Y:(x.kind==6)=true
   ·rw[if_pos Y] at j ⊢
    obtain⟨h1,h2,h3,h4⟩:=X (zbr (.inl Y))
    have D:=j
    rw[ByteArray.size_append,ByteArray.size_append] at D
    have s2:=zfx (zL (m.ex.getD x.r.toNat zf).kind) (prX m.ex x.r.toNat)
    exact zlY z g S m i x.l.toNat x.r.toNat _ _ _ _ w o h A q L O M N (by rw[K,Int.toNat_of_nonneg h1]) (by rw[J,Int.toNat_of_nonneg h3]) (by simpa using E) (by simpa using H) (by simpa using I) (by simpa using U) (by simpa using V) Y j he (by omega) (by omega) (by unfold wt;omega) (by unfold wt;omega)
   rw[if_neg Y] at j ⊢
   by_cases Z:(x.kind==7)=true
   ·rw[if_pos Z] at j ⊢
    obtain⟨h1,h2,h3,h4⟩:=X (zbr (.inr (.inl Z)))
    have D:=j
    rw[ByteArray.size_append,ByteArray.size_append] at D
    have s2:=zfx (zL (m.ex.getD x.r.toNat zf).kind) (prX m.ex x.r.toNat)
    exact zlZ z g S m i x.l.toNat x.r.toNat _ _ _ _ w o h A q L O M N (by rw[K,Int.toNat_of_nonneg h1]) (by rw[J,Int.toNat_of_nonneg h3]) (by simpa using E) (by simpa using H) (by simpa using I) (by simpa using U) (by simpa using V) (by simpa using Y) Z j he (by omega) (by omega) (by unfold wt;omega) (by unfold wt;omega)
   rw[if_neg Z] at j ⊢
   by_cases k8:(x.kind==8)=true
   ·rw[if_pos k8] at j ⊢
    obtain⟨h1,h2,h3,h4⟩:=X (zbr (.inr (.inr k8)))
    have D:=j
    rw[ByteArray.size_append,ByteArray.size_append] at D
    have s1:=zfx (zL (m.ex.getD x.l.toNat zf).kind) (prX m.ex x.l.toNat)
    have s2:=zfx (zT (m.ex.getD x.r.toNat zf).kind) (prX m.ex x.r.toNat)
    exact zo0 z g S m i x.l.toNat x.r.toNat _ _ _ _ w o h A q L O M N (by rw[K,Int.toNat_of_nonneg h1]) (by rw[J,Int.toNat_of_nonneg h3]) (by simpa using E) (by simpa using H) (by simpa using I) (by simpa using U) (by simpa using V) (by simpa using Y) (by simpa using Z) k8 j he (by omega) (by omega) (by unfold wt;omega) (by unfold wt;omega)
   rw[if_neg k8] at j ⊢
   exact zlX g S m i _ _ _ _ _ _ w o A q L O M N K J (by simpa using E) (by simpa using H) (by simpa using I) (by simpa using U) (by simpa using V) (by simpa using Y) (by simpa using Z) (by simpa using k8)
theorem zdx (j:Nat) (S:Sv) (m:Md) (i:Nat) (w:World) (A:zbg m.ex) (z:zbf m.ex) (q:i<m.ex.length) (h:OwnMd w j S m) (n:wt m.ex i≤1099511627776):
  Calls Tryz.prog 123 #[zt S m,.int .i64 i] w fun e o=>e= .returned (.string (prX m.ex i))∧Below w.heap.size w o:=zo1 j S m A z (i+1) i w (Nat.lt_succ_self i) q h n
theorem zgv (a b:ByteArray) (w:World) (q:a.size≤1099511627776) (o:b.size≤1099511627776):Calls Tryz.prog 122 #[.string a,.string b] w fun e n=>e= .returned (.string (asT a b))∧n=w:=by
 cases h:(a.toList==b.toList) with
 |true=>
  have j:Hid (asT a b=a):=by show _=_;rw[asT,h];rfl
  go_enter Tryz.func122,Tryz.ntmps122
  go_wp2
  go_ret
  exact⟨zaF j.out.symm,rfl⟩
 |false=>
  have j:Hid (asT a b=a++({data:=#[32,97,115,32]}:ByteArray)++b):=by show _=_;rw[asT,h];rfl
  go_enter Tryz.func122,Tryz.ntmps122
  go_wp2
  go_ret
  exact⟨zaF j.out.symm,rfl⟩
theorem zfy (s:ByteArray) (w:World) (n:s.size≤1099511627776):Calls Tryz.prog 62 #[.string s] w fun e h=>e= .returned (.string (zar s))∧h=w:=by
 have j:Hid (zar s=({data:=#[34]}:ByteArray)++s++({data:=#[34]}:ByteArray)):=rfl
 go_enter Tryz.func62,Tryz.ntmps62
 go_wp2
 go_ret
 exact⟨zaF j.out.symm,rfl⟩
theorem zgw (s:ByteArray):(zar s).size=s.size+2:=by
 rw[zar,ByteArray.size_append,ByteArray.size_append]
 show 1+s.size+1=_
 omega
theorem ziS (a b:ByteArray):(asT a b).size≤a.size+b.size+4:=by
 unfold asT
 split
 ·omega
 ·rw[ByteArray.size_append,ByteArray.size_append]
  show a.size+4+b.size≤_
  omega
theorem zo2 (x:Im) (w:World) (h1:x.spec.size≤4294967296) (h2:x.first.size≤4294967296) (h3:x.loc.size≤4294967296):Calls Tryz.prog 63 #[imV x] w fun e J=>e= .returned (.string (zV x))∧Below w.heap.size w J:=by
 obtain⟨Y,o⟩: ∃t,zar x.spec=t:=⟨_,rfl⟩
 obtain⟨at',hat⟩: ∃t,asT x.first x.loc=t:=⟨_,rfl⟩
 have N:=zgw x.spec
 have O:=ziS x.first x.loc
 rw[o] at N
 rw[hat] at O
 have aa:Y.size≤8589934592:=by omega
 have ab:at'.size≤17179869184:=by omega
 have K:=zc o
 have AT:=zc hat
 have I: ∀d D,Calls Tryz.prog 62 #[.string x.spec] (grow (redrawn (w.alloc (.cells #[.string x.spec,.string x.first,.string x.loc] 100)) d) D) fun e q=>e= .returned (.string Y)∧∃p:Regrown,q=grow (redrawn (w.alloc (.cells #[.string x.spec,.string x.first,.string x.loc] 100)) p.d) p.os:=fun d D=>Calls.regrown_of (by rw[←o];exact (zfy x.spec _ (by omega)).mono (by rintro e J ⟨rfl,rfl⟩;exact⟨rfl,Below.refl _ _⟩))
 have L: ∀d D,Calls Tryz.prog 122 #[.string x.first,.string x.loc] (grow (redrawn (w.alloc (.cells #[.string x.spec,.string x.first,.string x.loc] 100)) d) D) fun e q=>e= .returned (.string at')∧∃p:Regrown,q=grow (redrawn (w.alloc (.cells #[.string x.spec,.string x.first,.string x.loc] 100)) p.d) p.os:=fun d D=>Calls.regrown_of (by rw[←hat];exact (zgv x.first x.loc _ (by omega) (by omega)).mono (by rintro e J ⟨rfl,rfl⟩;exact⟨rfl,Below.refl _ _⟩))
 have X:=zc (zbt (heap_alloc_new w (.cells #[.string x.spec,.string x.first,.string x.loc] 100)))
 clear o hat N O
 unfold imV
 cases H:(x.first.toList==[42]) with
 |true=>
  have A:Hid (zV x=({data:=#[105,109,112,111,114,116,32,42,32,97,115,32]}:ByteArray)++x.loc++({data:=#[32,102,114,111,109,32]}:ByteArray)++zar x.spec++({data:=#[59,10]}:ByteArray)):=by show _=_;rw[zV,H];rfl
  go_enter Tryz.func63,Tryz.ntmps63
  go_wp2_with fail
  have Z:=cell_regrown X.out.1
  have y1:=cell_regrown X.out.2.1
  have V:=cell_regrown X.out.2.2.1
  refine wp_region_quiet_below (by kernel_rfl) (by kernel_rfl) ?_
  repeat (go_big_quiet_step (first|with_reducible exact I _ _|with_reducible exact L _ _))
  refine wpQuiet_nil ?_
  intro z j
  obtain⟨⟨M,E⟩,h⟩:=j
  have n:Hid (Below w.heap.size w z):=by show Below _ _ _;rw[h];exact ((Below.refl _ _).alloc (Nat.le_refl _) _).trans ((below_regrown _ _ _).mono (by rw[zj];omega))
  clear h
  go_wp2
  go_ret
  exact⟨zaF (by rw[A.out,K.out]),n.out⟩
 |false=>
  cases U:(x.first.toList==[100,101,102,97,117,108,116]) with
  |true=>
   have A:Hid (zV x=({data:=#[105,109,112,111,114,116,32]}:ByteArray)++x.loc++({data:=#[32,102,114,111,109,32]}:ByteArray)++zar x.spec++({data:=#[59,10]}:ByteArray)):=by show _=_;rw[zV,H,U];rfl
   go_enter Tryz.func63,Tryz.ntmps63
   go_wp2_with fail
   have Z:=cell_regrown X.out.1
   have y1:=cell_regrown X.out.2.1
   have V:=cell_regrown X.out.2.2.1
   refine wp_region_quiet_below (by kernel_rfl) (by kernel_rfl) ?_
   repeat (go_big_quiet_step (first|with_reducible exact I _ _|with_reducible exact L _ _))
   refine wpQuiet_nil ?_
   intro z j
   obtain⟨⟨M,E⟩,h⟩:=j
   have n:Hid (Below w.heap.size w z):=by show Below _ _ _;rw[h];exact ((Below.refl _ _).alloc (Nat.le_refl _) _).trans ((below_regrown _ _ _).mono (by rw[zj];omega))
   clear h
   go_wp2
   go_ret
   exact⟨zaF (by rw[A.out,K.out]),n.out⟩
  |false=>
   have A:Hid (zV x=({data:=#[105,109,112,111,114,116,32,123,32]}:ByteArray)++asT x.first x.loc++({data:=#[32,125,32,102,114,111,109,32]}:ByteArray)++zar x.spec++({data:=#[59,10]}:ByteArray)):=by show _=_;rw[zV,H,U];rfl
   go_enter Tryz.func63,Tryz.ntmps63
   go_wp2_with fail
   have Z:=cell_regrown X.out.1
   have y1:=cell_regrown X.out.2.1
   have V:=cell_regrown X.out.2.2.1
   refine wp_region_quiet_below (by kernel_rfl) (by kernel_rfl) ?_
   repeat (go_big_quiet_step (first|with_reducible exact I _ _|with_reducible exact L _ _))
   refine wpQuiet_nil ?_
   intro z j
   obtain⟨⟨M,E⟩,h⟩:=j
   have n:Hid (Below w.heap.size w z):=by show Below _ _ _;rw[h];exact ((Below.refl _ _).alloc (Nat.le_refl _) _).trans ((below_regrown _ _ _).mono (by rw[zj];omega))
   clear h
   go_wp2
   go_ret
   exact⟨zaF (by rw[A.out,K.out,AT.out]),n.out⟩
theorem zo3 (x:Ep) (w:World) (h1:x.spec.size≤4294967296) (h2:x.name.size≤4294967296) (h3:x.loc.size≤4294967296):Calls Tryz.prog 64 #[epV x] w fun e o=>e= .returned (.string (zaY x))∧Below w.heap.size w o:=by
 obtain⟨K,h⟩: ∃t,zar x.spec=t:=⟨_,rfl⟩
 obtain⟨at',hat⟩: ∃t,asT x.loc x.name=t:=⟨_,rfl⟩
 have M:=zgw x.spec
 have O:=ziS x.loc x.name
 rw[h] at M
 rw[hat] at O
 have Y:K.size≤8589934592:=by omega
 have Z:at'.size≤17179869184:=by omega
 have V:=zc h
 have N:=zc hat
 have cQ: ∀d D,Calls Tryz.prog 62 #[.string x.spec] (grow (redrawn (w.alloc (.cells #[.int .i64 x.kind,.string x.name,.string x.loc,.string x.spec] 102)) d) D) fun e n=>e= .returned (.string K)∧∃p:Regrown,n=grow (redrawn (w.alloc (.cells #[.int .i64 x.kind,.string x.name,.string x.loc,.string x.spec] 102)) p.d) p.os:=fun d D=>Calls.regrown_of (by rw[←h];exact (zfy x.spec _ (by omega)).mono (by rintro e o ⟨rfl,rfl⟩;exact⟨rfl,Below.refl _ _⟩))
 have cA: ∀d D,Calls Tryz.prog 122 #[.string x.loc,.string x.name] (grow (redrawn (w.alloc (.cells #[.int .i64 x.kind,.string x.name,.string x.loc,.string x.spec] 102)) d) D) fun e n=>e= .returned (.string at')∧∃p:Regrown,n=grow (redrawn (w.alloc (.cells #[.int .i64 x.kind,.string x.name,.string x.loc,.string x.spec] 102)) p.d) p.os:=fun d D=>Calls.regrown_of (by rw[←hat];exact (zgv x.loc x.name _ (by omega) (by omega)).mono (by rintro e o ⟨rfl,rfl⟩;exact⟨rfl,Below.refl _ _⟩))
 have L: ∀w:World,Calls Tryz.prog 62 #[.string x.spec] w fun e o=>e= .returned (.string K)∧o=w:=fun w=>by rw[←h];exact zfy x.spec w (by omega)
 have E: ∀w:World,Calls Tryz.prog 122 #[.string x.loc,.string x.name] w fun e o=>e= .returned (.string at')∧o=w:=fun w=>by rw[←hat];exact zgv x.loc x.name w (by omega) (by omega)
 have X:=zc (zcV (heap_alloc_new w (.cells #[.int .i64 x.kind,.string x.name,.string x.loc,.string x.spec] 102)))
 clear h hat M O
 unfold epV
 cases H:(x.kind==3) with
 |true=>
  have A:Hid (zaY x=({data:=#[101,120,112,111,114,116,32,42,32,102,114,111,109,32]}:ByteArray)++zar x.spec++({data:=#[59,10]}:ByteArray)):=by show _=_;rw[zaY,H];rfl
  go_enter Tryz.func64,Tryz.ntmps64
  go_wp2_with fail
  refine (L _).mono ?_
  rintro e z ⟨rfl,q⟩
  rw[q]
  clear q z
  go_wp2
  go_ret
  exact⟨zaF (by rw[A.out,V.out]),(Below.refl _ _).alloc (Nat.le_refl _) _⟩
 |false=>
  cases U:(x.kind==2) with
  |true=>
   have A:Hid (zaY x=({data:=#[101,120,112,111,114,116,32,123,32]}:ByteArray)++asT x.loc x.name++({data:=#[32,125,32,102,114,111,109,32]}:ByteArray)++zar x.spec++({data:=#[59,10]}:ByteArray)):=by show _=_;rw[zaY,H,U];rfl
   go_enter Tryz.func64,Tryz.ntmps64
   go_wp2_with fail
   have y0:=cell_regrown X.out.1
   have y1:=cell_regrown X.out.2.1
   have y2:=cell_regrown X.out.2.2.1
   have y3:=cell_regrown X.out.2.2.2.1
   refine wp_region_quiet_below (by kernel_rfl) (by kernel_rfl) ?_
   repeat (go_big_quiet_step (first|with_reducible exact cQ _ _|with_reducible exact cA _ _))
   refine wpQuiet_nil ?_
   intro z I
   obtain⟨⟨dq,aa⟩,j⟩:=I
   have J:Hid (Below w.heap.size w z):=by show Below _ _ _;rw[j];exact ((Below.refl _ _).alloc (Nat.le_refl _) _).trans ((below_regrown _ _ _).mono (by rw[zj];omega))
   clear j
   go_wp2
   go_ret
   exact⟨zaF (by rw[A.out,V.out,N.out]),J.out⟩
  |false=>
   have A:Hid (zaY x=({data:=#[101,120,112,111,114,116,32,123,32]}:ByteArray)++asT x.loc x.name++({data:=#[32,125,59,10]}:ByteArray)):=by show _=_;rw[zaY,H,U];rfl
   go_enter Tryz.func64,Tryz.ntmps64
   go_wp2_with fail
   refine (E _).mono ?_
   rintro e z ⟨rfl,q⟩
   rw[q]
   clear q z
   go_wp2
   go_ret
   exact⟨zaF (by rw[A.out,N.out]),(Below.refl _ _).alloc (Nat.le_refl _) _⟩
theorem zo4 (j:Nat) (S:Sv) (m:Md) (k:Int) (n:ByteArray) (i:Nat) (w:World) (h:OwnMd w j S m) (I:i<m.ex.length) (M:zbg m.ex) (J:zbf m.ex) (D:wt m.ex i≤1099511627776) (_:n.size≤4294967296) (U:(k==1)=true) (E:(n.toList==[42,100,101,102,97,117,108,116])=true):
  Calls Tryz.prog 65 #[zt S m,.agg #[.int .i64 k,.string n,.int .i64 (i:Int)]] w fun e L=>e= .returned (.string (zax k n (prX m.ex i)))∧Below w.heap.size w L:=by
 have O:=zc h
 have N:Hid (zax k n (prX m.ex i)=({data:=#[101,120,112,111,114,116,32,100,101,102,97,117,108,116,32]}:ByteArray)++prX m.ex i++({data:=#[59,10]}:ByteArray)):=by show _=_;rw[zax,U,E];rfl
 have o:=D
 unfold wt at o
 have H:=zc (And.intro (zce (o':=.cells #[.int .i64 k,.string n,.int .i64 (i:Int)] 106) (heap_alloc_new w (.cells #[.slice S.rq.a m.rq.length S.rq.cap,.slice S.im.a m.im.length S.im.cap,.slice S.ep.a m.ep.length S.ep.cap,.slice S.st.a m.st.length S.st.cap,.slice S.ex.a m.ex.length S.ex.cap] 28))) (zbj w (.cells #[.slice S.rq.a m.rq.length S.rq.cap,.slice S.im.a m.im.length S.im.cap,.slice S.ep.a m.ep.length S.ep.cap,.slice S.st.a m.st.length S.st.cap,.slice S.ex.a m.ex.length S.ex.cap] 28) (.cells #[.int .i64 k,.string n,.int .i64 (i:Int)] 106)))
 clear h
 unfold zt
 go_enter Tryz.func65,Tryz.ntmps65
 go_wp2_with fail
 refine (zdx j S m i _ M J I ((O.out.alloc _).alloc _) D).mono ?_
 rintro e K ⟨rfl,A⟩
 have X:Hid (Below w.heap.size w K):=(zaM w _ _).trans (A.mono (by rw[zj,zj];omega))
 have q:=zc ((A.block _ (by rw[zj,zj];omega)).trans H.out.2)
 obtain⟨Z,c1,Y,cf⟩:=zbt q.out
 clear A
 obtain⟨t,z⟩: ∃t,prX m.ex i=t:=⟨_,rfl⟩
 rw[z] at o ⊢
 have V:=zc z
 clear z
 go_wp2
 go_ret
 exact⟨zaF (by rw[N.out,V.out]),X.out⟩
theorem zo5 (j:Nat) (S:Sv) (m:Md) (k:Int) (n:ByteArray) (i:Nat) (w:World) (h:OwnMd w j S m) (I:i<m.ex.length) (M:zbg m.ex) (J:zbf m.ex) (D:wt m.ex i≤1099511627776) (Y:n.size≤4294967296) (U:(k==1)=true) (E:(n.toList==[42,100,101,102,97,117,108,116])=false):
  Calls Tryz.prog 65 #[zt S m,.agg #[.int .i64 k,.string n,.int .i64 (i:Int)]] w fun e L=>e= .returned (.string (zax k n (prX m.ex i)))∧Below w.heap.size w L:=by
 have O:=zc h
 have N:Hid (zax k n (prX m.ex i)=({data:=#[108,101,116,32]}:ByteArray)++n++({data:=#[32,61,32]}:ByteArray)++prX m.ex i++({data:=#[59,10]}:ByteArray)):=by show _=_;rw[zax,U,E];rfl
 have o:=D
 unfold wt at o
 have H:=zc (And.intro (zce (o':=.cells #[.int .i64 k,.string n,.int .i64 (i:Int)] 106) (heap_alloc_new w (.cells #[.slice S.rq.a m.rq.length S.rq.cap,.slice S.im.a m.im.length S.im.cap,.slice S.ep.a m.ep.length S.ep.cap,.slice S.st.a m.st.length S.st.cap,.slice S.ex.a m.ex.length S.ex.cap] 28))) (zbj w (.cells #[.slice S.rq.a m.rq.length S.rq.cap,.slice S.im.a m.im.length S.im.cap,.slice S.ep.a m.ep.length S.ep.cap,.slice S.st.a m.st.length S.st.cap,.slice S.ex.a m.ex.length S.ex.cap] 28) (.cells #[.int .i64 k,.string n,.int .i64 (i:Int)] 106)))
 clear h
 unfold zt
 go_enter Tryz.func65,Tryz.ntmps65
 go_wp2_with fail
 refine (zdx j S m i _ M J I ((O.out.alloc _).alloc _) D).mono ?_
 rintro e K ⟨rfl,A⟩
 have X:Hid (Below w.heap.size w K):=(zaM w _ _).trans (A.mono (by rw[zj,zj];omega))
 have q:=zc ((A.block _ (by rw[zj,zj];omega)).trans H.out.2)
 obtain⟨c0,c1,Z,cf⟩:=zbt q.out
 clear A
 obtain⟨t,z⟩: ∃t,prX m.ex i=t:=⟨_,rfl⟩
 rw[z] at o ⊢
 have V:=zc z
 clear z
 go_wp2
 go_ret
 exact⟨zaF (by rw[N.out,V.out]),X.out⟩
theorem zo6 (j:Nat) (S:Sv) (m:Md) (k:Int) (n:ByteArray) (i:Nat) (w:World) (h:OwnMd w j S m) (H:i<m.ex.length) (L:zbg m.ex) (I:zbf m.ex) (D:wt m.ex i≤1099511627776) (Y:n.size≤4294967296) (U:(k==1)=false) (O:(k==2)=true):
  Calls Tryz.prog 65 #[zt S m,.agg #[.int .i64 k,.string n,.int .i64 (i:Int)]] w fun e K=>e= .returned (.string (zax k n (prX m.ex i)))∧Below w.heap.size w K:=by
 have N:=zc h
 have M:Hid (zax k n (prX m.ex i)=({data:=#[102,117,110,99,116,105,111,110,32]}:ByteArray)++n++({data:=#[40,41,32,123,32,114,101,116,117,114,110,32]}:ByteArray)++prX m.ex i++({data:=#[59,32,125,10]}:ByteArray)):=by show _=_;rw[zax,U,O];rfl
 have o:=D
 unfold wt at o
 have E:=zc (And.intro (zce (o':=.cells #[.int .i64 k,.string n,.int .i64 (i:Int)] 106) (heap_alloc_new w (.cells #[.slice S.rq.a m.rq.length S.rq.cap,.slice S.im.a m.im.length S.im.cap,.slice S.ep.a m.ep.length S.ep.cap,.slice S.st.a m.st.length S.st.cap,.slice S.ex.a m.ex.length S.ex.cap] 28))) (zbj w (.cells #[.slice S.rq.a m.rq.length S.rq.cap,.slice S.im.a m.im.length S.im.cap,.slice S.ep.a m.ep.length S.ep.cap,.slice S.st.a m.st.length S.st.cap,.slice S.ex.a m.ex.length S.ex.cap] 28) (.cells #[.int .i64 k,.string n,.int .i64 (i:Int)] 106)))
 clear h
 unfold zt
 go_enter Tryz.func65,Tryz.ntmps65
 go_wp2_with fail
 refine (zdx j S m i _ L I H ((N.out.alloc _).alloc _) D).mono ?_
 rintro e J ⟨rfl,A⟩
 have X:Hid (Below w.heap.size w J):=(zaM w _ _).trans (A.mono (by rw[zj,zj];omega))
 have q:=zc ((A.block _ (by rw[zj,zj];omega)).trans E.out.2)
 obtain⟨c0,c1,Z,cf⟩:=zbt q.out
 clear A
 obtain⟨t,z⟩: ∃t,prX m.ex i=t:=⟨_,rfl⟩
 rw[z] at o ⊢
 have V:=zc z
 clear z
 go_wp2
 go_ret
 exact⟨zaF (by rw[M.out,V.out]),X.out⟩
theorem zo7 (j:Nat) (S:Sv) (m:Md) (k:Int) (n:ByteArray) (i:Nat) (w:World) (h:OwnMd w j S m) (I:i<m.ex.length) (M:zbg m.ex) (J:zbf m.ex) (D:wt m.ex i≤1099511627776) (Z:n.size≤4294967296) (V:(k==1)=false) (U:(k==2)=false) (H:(k==3)=true):
  Calls Tryz.prog 65 #[zt S m,.agg #[.int .i64 k,.string n,.int .i64 (i:Int)]] w fun e L=>e= .returned (.string (zax k n (prX m.ex i)))∧Below w.heap.size w L:=by
 have O:=zc h
 have N:Hid (zax k n (prX m.ex i)=n++({data:=#[32,61,32]}:ByteArray)++prX m.ex i++({data:=#[59,10]}:ByteArray)):=by show _=_;rw[zax,V,U,H];rfl
 have o:=D
 unfold wt at o
 have E:=zc (And.intro (zce (o':=.cells #[.int .i64 k,.string n,.int .i64 (i:Int)] 106) (heap_alloc_new w (.cells #[.slice S.rq.a m.rq.length S.rq.cap,.slice S.im.a m.im.length S.im.cap,.slice S.ep.a m.ep.length S.ep.cap,.slice S.st.a m.st.length S.st.cap,.slice S.ex.a m.ex.length S.ex.cap] 28))) (zbj w (.cells #[.slice S.rq.a m.rq.length S.rq.cap,.slice S.im.a m.im.length S.im.cap,.slice S.ep.a m.ep.length S.ep.cap,.slice S.st.a m.st.length S.st.cap,.slice S.ex.a m.ex.length S.ex.cap] 28) (.cells #[.int .i64 k,.string n,.int .i64 (i:Int)] 106)))
 clear h
 unfold zt
 go_enter Tryz.func65,Tryz.ntmps65
 go_wp2_with fail
 refine (zdx j S m i _ M J I ((O.out.alloc _).alloc _) D).mono ?_
 rintro e K ⟨rfl,A⟩
 have Y:Hid (Below w.heap.size w K):=(zaM w _ _).trans (A.mono (by rw[zj,zj];omega))
 have q:=zc ((A.block _ (by rw[zj,zj];omega)).trans E.out.2)
 obtain⟨c0,c1,c2,cf⟩:=zbt q.out
 clear A
 obtain⟨t,z⟩: ∃t,prX m.ex i=t:=⟨_,rfl⟩
 rw[z] at o ⊢
 have X:=zc z
 clear z
 go_wp2
 go_ret
 exact⟨zaF (by rw[N.out,X.out]),Y.out⟩
theorem zo8 (j:Nat) (S:Sv) (m:Md) (k:Int) (n:ByteArray) (i:Nat) (w:World) (h:OwnMd w j S m) (J:i<m.ex.length) (N:zbg m.ex) (K:zbf m.ex) (D:wt m.ex i≤1099511627776) (_:n.size≤4294967296) (X:(k==1)=false) (V:(k==2)=false) (I:(k==3)=false) (E:(k==4)=true):
  Calls Tryz.prog 65 #[zt S m,.agg #[.int .i64 k,.string n,.int .i64 (i:Int)]] w fun e M=>e= .returned (.string (zax k n (prX m.ex i)))∧Below w.heap.size w M:=by
 have U:=zc h
 have O:Hid (zax k n (prX m.ex i)=({data:=#[112,114,105,110,116,40]}:ByteArray)++prX m.ex i++({data:=#[41,59,10]}:ByteArray)):=by show _=_;rw[zax,X,V,I,E];rfl
 have o:=D
 unfold wt at o
 have H:=zc (And.intro (zce (o':=.cells #[.int .i64 k,.string n,.int .i64 (i:Int)] 106) (heap_alloc_new w (.cells #[.slice S.rq.a m.rq.length S.rq.cap,.slice S.im.a m.im.length S.im.cap,.slice S.ep.a m.ep.length S.ep.cap,.slice S.st.a m.st.length S.st.cap,.slice S.ex.a m.ex.length S.ex.cap] 28))) (zbj w (.cells #[.slice S.rq.a m.rq.length S.rq.cap,.slice S.im.a m.im.length S.im.cap,.slice S.ep.a m.ep.length S.ep.cap,.slice S.st.a m.st.length S.st.cap,.slice S.ex.a m.ex.length S.ex.cap] 28) (.cells #[.int .i64 k,.string n,.int .i64 (i:Int)] 106)))
 clear h
 unfold zt
 go_enter Tryz.func65,Tryz.ntmps65
 go_wp2_with fail
 refine (zdx j S m i _ N K J ((U.out.alloc _).alloc _) D).mono ?_
 rintro e L ⟨rfl,A⟩
 have Z:Hid (Below w.heap.size w L):=(zaM w _ _).trans (A.mono (by rw[zj,zj];omega))
 have q:=zc ((A.block _ (by rw[zj,zj];omega)).trans H.out.2)
 obtain⟨c0,c1,c2,cf⟩:=zbt q.out
 clear A
 obtain⟨t,z⟩: ∃t,prX m.ex i=t:=⟨_,rfl⟩
 rw[z] at o ⊢
 have Y:=zc z
 clear z
 go_wp2
 go_ret
 exact⟨zaF (by rw[O.out,Y.out]),Z.out⟩
theorem zo9 (j:Nat) (S:Sv) (m:Md) (k:Int) (n:ByteArray) (i:Nat) (w:World) (h:OwnMd w j S m) (J:i<m.ex.length) (O:zbg m.ex) (K:zbf m.ex) (D:wt m.ex i≤1099511627776) (_:n.size≤4294967296) (Z:(k==1)=false) (Y:(k==2)=false) (I:(k==3)=false) (E:(k==4)=false) (L:(k==5)=true):
  Calls Tryz.prog 65 #[zt S m,.agg #[.int .i64 k,.string n,.int .i64 (i:Int)]] w fun e N=>e= .returned (.string (zax k n (prX m.ex i)))∧Below w.heap.size w N:=by
 have V:=zc h
 have U:Hid (zax k n (prX m.ex i)=({data:=#[116,104,114,111,119,32]}:ByteArray)++prX m.ex i++({data:=#[59,10]}:ByteArray)):=by show _=_;rw[zax,Z,Y,I,E,L];rfl
 have o:=D
 unfold wt at o
 have H:=zc (And.intro (zce (o':=.cells #[.int .i64 k,.string n,.int .i64 (i:Int)] 106) (heap_alloc_new w (.cells #[.slice S.rq.a m.rq.length S.rq.cap,.slice S.im.a m.im.length S.im.cap,.slice S.ep.a m.ep.length S.ep.cap,.slice S.st.a m.st.length S.st.cap,.slice S.ex.a m.ex.length S.ex.cap] 28))) (zbj w (.cells #[.slice S.rq.a m.rq.length S.rq.cap,.slice S.im.a m.im.length S.im.cap,.slice S.ep.a m.ep.length S.ep.cap,.slice S.st.a m.st.length S.st.cap,.slice S.ex.a m.ex.length S.ex.cap] 28) (.cells #[.int .i64 k,.string n,.int .i64 (i:Int)] 106)))
 clear h
 unfold zt
 go_enter Tryz.func65,Tryz.ntmps65
 go_wp2_with fail
 refine (zdx j S m i _ O K J ((V.out.alloc _).alloc _) D).mono ?_
 rintro e M ⟨rfl,z⟩
 have HB:Hid (Below w.heap.size w M):=(zaM w _ _).trans (z.mono (by rw[zj,zj];omega))
 have A:=zc ((z.block _ (by rw[zj,zj];omega)).trans H.out.2)
 obtain⟨c0,c1,c2,cf⟩:=zbt A.out
 clear z
 obtain⟨t,q⟩: ∃t,prX m.ex i=t:=⟨_,rfl⟩
 rw[q] at o ⊢
 have X:=zc q
 clear q
 go_wp2
 go_ret
 exact⟨zaF (by rw[U.out,X.out]),HB.out⟩
theorem zoA (j:Nat) (S:Sv) (m:Md) (k:Int) (n:ByteArray) (i:Nat) (w:World) (h:OwnMd w j S m) (J:i<m.ex.length) (O:zbg m.ex) (K:zbf m.ex) (D:wt m.ex i≤1099511627776) (_:n.size≤4294967296) (Z:(k==1)=false) (Y:(k==2)=false) (I:(k==3)=false) (E:(k==4)=false) (L:(k==5)=false):
  Calls Tryz.prog 65 #[zt S m,.agg #[.int .i64 k,.string n,.int .i64 (i:Int)]] w fun e N=>e= .returned (.string (zax k n (prX m.ex i)))∧Below w.heap.size w N:=by
 have V:=zc h
 have U:Hid (zax k n (prX m.ex i)=({data:=#[102,97,105,108,32]}:ByteArray)++prX m.ex i++({data:=#[59,10]}:ByteArray)):=by show _=_;rw[zax,Z,Y,I,E,L];rfl
 have o:=D
 unfold wt at o
 have H:=zc (And.intro (zce (o':=.cells #[.int .i64 k,.string n,.int .i64 (i:Int)] 106) (heap_alloc_new w (.cells #[.slice S.rq.a m.rq.length S.rq.cap,.slice S.im.a m.im.length S.im.cap,.slice S.ep.a m.ep.length S.ep.cap,.slice S.st.a m.st.length S.st.cap,.slice S.ex.a m.ex.length S.ex.cap] 28))) (zbj w (.cells #[.slice S.rq.a m.rq.length S.rq.cap,.slice S.im.a m.im.length S.im.cap,.slice S.ep.a m.ep.length S.ep.cap,.slice S.st.a m.st.length S.st.cap,.slice S.ex.a m.ex.length S.ex.cap] 28) (.cells #[.int .i64 k,.string n,.int .i64 (i:Int)] 106)))
 clear h
 unfold zt
 go_enter Tryz.func65,Tryz.ntmps65
 go_wp2_with fail
 refine (zdx j S m i _ O K J ((V.out.alloc _).alloc _) D).mono ?_
 rintro e M ⟨rfl,z⟩
 have HB:Hid (Below w.heap.size w M):=(zaM w _ _).trans (z.mono (by rw[zj,zj];omega))
 have A:=zc ((z.block _ (by rw[zj,zj];omega)).trans H.out.2)
 obtain⟨c0,c1,c2,cf⟩:=zbt A.out
 clear z
 obtain⟨t,q⟩: ∃t,prX m.ex i=t:=⟨_,rfl⟩
 rw[q] at o ⊢
 have X:=zc q
 clear q
 go_wp2
 go_ret
 exact⟨zaF (by rw[U.out,X.out]),HB.out⟩
theorem zoB (j:Nat) (S:Sv) (m:Md) (k:Int) (n:ByteArray) (i:Nat) (w:World) (h:OwnMd w j S m) (q:i<m.ex.length) (D:zbg m.ex) (z:zbf m.ex) (o:wt m.ex i≤1099511627776) (E:n.size≤4294967296):
  Calls Tryz.prog 65 #[zt S m,.agg #[.int .i64 k,.string n,.int .i64 (i:Int)]] w fun e M=>e= .returned (.string (zax k n (prX m.ex i)))∧Below w.heap.size w M:=by
 cases A:(k==1) with
 |true=>
  cases L:(n.toList==[42,100,101,102,97,117,108,116]) with
  |true=>exact zo4 j S m k n i w h q D z o E A L
  |false=>exact zo5 j S m k n i w h q D z o E A L
 |false=>
  cases H:(k==2) with
  |true=>exact zo6 j S m k n i w h q D z o E A H
  |false=>
   cases I:(k==3) with
   |true=>exact zo7 j S m k n i w h q D z o E A H I
   |false=>
    cases J:(k==4) with
    |true=>exact zo8 j S m k n i w h q D z o E A H I J
    |false=>
     cases K:(k==5) with
     |true=>exact zo9 j S m k n i w h q D z o E A H I J K
     |false=>exact zoA j S m k n i w h q D z o E A H I J K
theorem zfz {α:Type} {l:List α} {j:Nat} (h:j<l.length): ∃x,l[j]? =some x:=⟨_,List.getElem?_eq_getElem h⟩
theorem zoC (t:ByteArray):t++sNone=t:=by
 cases t with
 |mk d=>
  show ByteArray.append _ _=_
  simp[ByteArray.append]
theorem zoD (m:Md):(acc (stF m.ex) m.st (zbB m)).size≤(zbT m).size:=Nat.le_refl _
theorem ziT (m:Md):(acc epF m.ep (acc zV m.im (acc rqT m.rq sNone))).size≤(zbT m).size:=zdp _ _ _
theorem ziU (m:Md):(acc zV m.im (acc rqT m.rq sNone)).size≤(zbT m).size:=Nat.le_trans (zdp _ _ _) (ziT m)
theorem zoE (m:Md):(acc rqT m.rq sNone).size≤(zbT m).size:=Nat.le_trans (zdp _ _ _) (ziU m)
theorem zoF (k:Int) (n e:ByteArray):e.size≤(zax k n e).size:=by
 unfold zax
 repeat (first|split|(simp only[ByteArray.size_append];omega))
theorem zoG (L:Nat) (S:Sv) (m:Md) (av:Bool) (w:World) (h:OwnMd w L S m) (hm:Small m) (ao:Tree m→(zbT m).size≤1099511627776):
  Calls Tryz.prog 18 #[zt S m,.bool av] w fun e w'=>PrintOut (zbT m) m e∧Below w.heap.size w w':=by
 have HH:=zc h
 have SM:=zc hm
 have HU:=zc ao
 obtain⟨f1,f2,f3,f4,f5⟩:=hm.few
 clear h hm ao
 unfold zt
 go_enter Tryz.func18,Tryz.ntmps18
 go_wp2_with fail
 refine (zme L S m _ (HH.out.alloc _) f5 f4).mono ?_
 rintro e w1 ⟨⟨b,rfl,E⟩,aj⟩
 have HT:=zc E
 have ag:Hid (Below w.heap.size w w1):=((Below.refl _ _).alloc (Nat.le_refl _) _).trans (aj.mono (by rw[zj];omega))
 have ap:Hid (w1.heap[w.heap.size]? =some (.cells #[.slice S.rq.a m.rq.length S.rq.cap,.slice S.im.a m.im.length S.im.cap,.slice S.ep.a m.ep.length S.ep.cap,.slice S.st.a m.st.length S.st.cap,.slice S.ex.a m.ex.length S.ex.cap] 28 (0,0))):=(aj.block _ (by rw[zj];omega)).trans (heap_alloc_new w _)
 have ay:=zc (HH.out.later ag.out)
 clear E aj
 obtain⟨c0,c1,c2,c3,c4,cf⟩:=zk ap.out
 cases b with
 |false=>
  go_wp2
  go_ret
  exact⟨.inr ⟨(fun t=>by have:=HT.out.2 t;cases this),rfl⟩,ag.out⟩
 |true=>
  have TR:=zc (HT.out.1 rfl)
  have HZ:=zc (HU.out TR.out)
  go_wp2
  go_loopg [5,6] m.rq.length (fun k t i wr=>∃(j:Nat) (D:ByteArray),i= .int .i64 j∧t= .string D∧j+k=m.rq.length∧D=acc rqT (m.rq.take j) sNone∧OwnMd wr L S m∧wr.heap[w.heap.size]? =some (.cells #[.slice S.rq.a m.rq.length S.rq.cap,.slice S.im.a m.im.length S.im.cap,.slice S.ep.a m.ep.length S.ep.cap,.slice S.st.a m.st.length S.st.cap,.slice S.ex.a m.ex.length S.ex.cap] 28 (0,0))∧Below w.heap.size w wr)
  case atStart=>exact⟨0,_,rfl,rfl,by omega,rfl,ay.out,ap.out,ag.out⟩
  case round=>
   obtain⟨j,D,rfl,rfl,hj,K,ho,hx,E⟩:=hrel
   have n:=zc K
   have V:=zc ho
   have O:=zc hx
   have Y:=zc E
   clear K ho hx E c0 c1 c2 c3 c4 cf
   obtain⟨c0,c1,c2,c3,c4,cf⟩:=zk O.out
   have aa:=(Array.getElem?_eq_some_iff.1 O.out).1
   by_cases U:j<m.rq.length
   ·have M:(j:Int)<(m.rq.length:Int):=by omega
    obtain⟨x,q⟩:=zfz U
    have z:=List.mem_of_getElem? q
    have Z:=zc (zbS rqT q sNone)
    have o:=zcX rqT m.rq (j+1) sNone
    rw[Z.out,←n.out,ByteArray.size_append] at o
    have H:(acc rqT m.rq sNone).size≤1099511627776:=Nat.le_trans (zoE m) HZ.out
    obtain⟨N,J⟩: ∃N,N=j+1:=⟨_,rfl⟩
    have ej:(j:Int)+1=(N:Int):=by omega
    have HJ:=zc J
    clear J
    have ah:D.size≤1099511627776:=by omega
    obtain⟨g,hg,hc⟩:=V.out.rq.text U
    rw[hg] at c0
    have am:m.rq.getD j sNone=x:=by rw[List.getD,q];rfl
    rw[am] at hc
    clear hg am
    have aB:=SM.out.rq x z
    obtain⟨qt,ai⟩: ∃t,zar x=t:=⟨_,rfl⟩
    have an:=zgw x
    rw[ai] at an
    have aA:qt.size≤8589934592:=by omega
    have QT:=zc ai
    clear ai an o H q z
    go_wp2_with fail
    refine (zfy x _ (by omega)).mono ?_
    rintro e w2 ⟨rfl,hw⟩
    rw[hw,QT.out]
    clear hw w2
    go_wp2
    go_roundg (gk-1)
    case rel=>exact⟨N,_,rfl,rfl,by have:=HJ.out;omega,by rw[HJ.out,Z.out,←n.out,rqT,QT.out,ByteArray.append_assoc,ByteArray.append_assoc,ByteArray.append_assoc],V.out,O.out,Y.out⟩
    case measure=>omega
   ·have M: ¬(j:Int)<(m.rq.length:Int):=by omega
    have X:Hid (D=acc rqT m.rq sNone):=by show D=_;rw[n.out,List.take_of_length_le (by omega)]
    clear n
    go_wp2
    go_loopg [5,7] m.im.length (fun k t i wr=>∃(j:Nat) (D:ByteArray),i= .int .i64 j∧t= .string D∧j+k=m.im.length∧D=acc zV (m.im.take j) (acc rqT m.rq sNone)∧OwnMd wr L S m∧wr.heap[w.heap.size]? =some (.cells #[.slice S.rq.a m.rq.length S.rq.cap,.slice S.im.a m.im.length S.im.cap,.slice S.ep.a m.ep.length S.ep.cap,.slice S.st.a m.st.length S.st.cap,.slice S.ex.a m.ex.length S.ex.cap] 28 (0,0))∧Below w.heap.size w wr)
    case atStart=>exact⟨0,_,rfl,rfl,by omega,X.out,V.out,O.out,Y.out⟩
    case round=>
     obtain⟨j,D,rfl,rfl,hj,K,ho,hx,E⟩:=hrel
     have n:=zc K
     have V:=zc ho
     have O:=zc hx
     have Y:=zc E
     clear K ho hx E c0 c1 c2 c3 c4 cf
     obtain⟨c0,c1,c2,c3,c4,cf⟩:=zk O.out
     have aa:=(Array.getElem?_eq_some_iff.1 O.out).1
     by_cases U:j<m.im.length
     ·have M:(j:Int)<(m.im.length:Int):=by omega
      obtain⟨x,q⟩:=zfz U
      have z:=List.mem_of_getElem? q
      have Z:=zc (zbS zV q (acc rqT m.rq sNone))
      have o:=zcX zV m.im (j+1) (acc rqT m.rq sNone)
      rw[Z.out,←n.out,ByteArray.size_append] at o
      have H:(acc zV m.im (acc rqT m.rq sNone)).size≤1099511627776:=Nat.le_trans (ziU m) HZ.out
      obtain⟨N,J⟩: ∃N,N=j+1:=⟨_,rfl⟩
      have ej:(j:Int)+1=(N:Int):=by omega
      have HJ:=zc J
      clear J
      have ah:D.size≤1099511627776:=by omega
      obtain⟨g,hg,A⟩:=OwnR.elem (f:=imL) (m:=3) (fun _=>rfl) V.out.im q
      rw[hg] at c1
      have k0:=A 0 (by omega)
      have k1:=A 1 (by omega)
      have k2:=A 2 (by omega)
      simp only[imL,Nat.add_zero,List.getElem?_cons_zero,List.getElem?_cons_succ] at k0 k1 k2
      obtain⟨z1,z2,z3⟩:=SM.out.im x z
      clear hg A q z
      obtain⟨pt,I⟩: ∃t,zV x=t:=⟨_,rfl⟩
      have al:pt.size≤1099511627776:=by rw[←I];omega
      have PT:=zc I
      clear I o H
      go_wp2_with fail
      refine (zo2 x _ z1 z2 z3).mono ?_
      rintro e w2 ⟨rfl,E⟩
      rw[PT.out]
      have ab:=zc (V.out.later E)
      have ac:=zc ((E.block _ aa).trans O.out)
      have ad:=zc (Y.out.trans (E.mono Y.out.size))
      clear E
      go_wp2
      go_roundg (gk-1)
      case rel=>exact⟨N,_,rfl,rfl,by have:=HJ.out;omega,by rw[HJ.out,Z.out,←n.out,PT.out],ab.out,ac.out,ad.out⟩
      case measure=>omega
     ·have M: ¬(j:Int)<(m.im.length:Int):=by omega
      have X:Hid (D=acc zV m.im (acc rqT m.rq sNone)):=by show D=_;rw[n.out,List.take_of_length_le (by omega)]
      clear n
      go_wp2
      go_loopg [5,8] m.ep.length (fun k t i wr=>∃(j:Nat) (D:ByteArray),i= .int .i64 j∧t= .string D∧j+k=m.ep.length∧D=acc epF (m.ep.take j) (acc zV m.im (acc rqT m.rq sNone))∧OwnMd wr L S m∧wr.heap[w.heap.size]? =some (.cells #[.slice S.rq.a m.rq.length S.rq.cap,.slice S.im.a m.im.length S.im.cap,.slice S.ep.a m.ep.length S.ep.cap,.slice S.st.a m.st.length S.st.cap,.slice S.ex.a m.ex.length S.ex.cap] 28 (0,0))∧Below w.heap.size w wr)
      case atStart=>exact⟨0,_,rfl,rfl,by omega,X.out,V.out,O.out,Y.out⟩
      case round=>
       obtain⟨j,D,rfl,rfl,hj,K,ho,hx,E⟩:=hrel
       have n:=zc K
       have V:=zc ho
       have O:=zc hx
       have Y:=zc E
       clear K ho hx E c0 c1 c2 c3 c4 cf
       obtain⟨c0,c1,c2,c3,c4,cf⟩:=zk O.out
       have aa:=(Array.getElem?_eq_some_iff.1 O.out).1
       by_cases U:j<m.ep.length
       ·have M:(j:Int)<(m.ep.length:Int):=by omega
        obtain⟨x,q⟩:=zfz U
        have z:=List.mem_of_getElem? q
        have Z:=zc (zbS epF q (acc zV m.im (acc rqT m.rq sNone)))
        have o:=zcX epF m.ep (j+1) (acc zV m.im (acc rqT m.rq sNone))
        rw[Z.out,←n.out,ByteArray.size_append] at o
        have H:(acc epF m.ep (acc zV m.im (acc rqT m.rq sNone))).size≤1099511627776:=Nat.le_trans (ziT m) HZ.out
        obtain⟨N,J⟩: ∃N,N=j+1:=⟨_,rfl⟩
        have ej:(j:Int)+1=(N:Int):=by omega
        have HJ:=zc J
        clear J
        have ah:D.size≤1099511627776:=by omega
        obtain⟨g,hg,A⟩:=OwnR.elem (f:=epL) (m:=4) (fun _=>rfl) V.out.ep q
        rw[hg] at c2
        have k0:=A 0 (by omega)
        have k1:=A 1 (by omega)
        have k2:=A 2 (by omega)
        have k3:=A 3 (by omega)
        simp only[epL,Nat.add_zero,List.getElem?_cons_zero,List.getElem?_cons_succ] at k0 k1 k2 k3
        obtain⟨z1,z2,z3⟩:=SM.out.ep x z
        clear hg A q z
        cases hd:(x.loc.toList==[42,100,101,102,97,117,108,116]) with
        |true=>
         clear o H
         go_wp2
         go_roundg (gk-1)
         case rel=>exact⟨N,_,rfl,rfl,by have:=HJ.out;omega,by rw[HJ.out,Z.out,←n.out,epF,hd];show D=D++sNone;rw[zoC],V.out,O.out,Y.out⟩
         case measure=>omega
        |false=>
         obtain⟨pt,I⟩: ∃t,zaY x=t:=⟨_,rfl⟩
         have al:pt.size≤1099511627776:=by rw[←I,←show epF x=zaY x from (by rw[epF,hd];rfl)];omega
         have PT:=zc I
         clear I o H
         go_wp2_with fail
         refine (zo3 x _ z1 z2 z3).mono ?_
         rintro e w2 ⟨rfl,E⟩
         rw[PT.out]
         have ab:=zc (V.out.later E)
         have ac:=zc ((E.block _ aa).trans O.out)
         have ad:=zc (Y.out.trans (E.mono Y.out.size))
         clear E
         go_wp2
         go_roundg (gk-1)
         case rel=>exact⟨N,_,rfl,rfl,by have:=HJ.out;omega,by rw[HJ.out,Z.out,←n.out,epF,hd];show _=D++zaY x;rw[PT.out],ab.out,ac.out,ad.out⟩
         case measure=>omega
       ·have M: ¬(j:Int)<(m.ep.length:Int):=by omega
        have X:Hid (D=acc epF m.ep (acc zV m.im (acc rqT m.rq sNone))):=by show D=_;rw[n.out,List.take_of_length_le (by omega)]
        clear n
        go_wp2
        go_loopg [5,9] m.st.length (fun k t i wr=>∃(j:Nat) (D:ByteArray),i= .int .i64 j∧t= .string D∧j+k=m.st.length∧D=acc (stF m.ex) (m.st.take j) (zbB m)∧OwnMd wr L S m∧wr.heap[w.heap.size]? =some (.cells #[.slice S.rq.a m.rq.length S.rq.cap,.slice S.im.a m.im.length S.im.cap,.slice S.ep.a m.ep.length S.ep.cap,.slice S.st.a m.st.length S.st.cap,.slice S.ex.a m.ex.length S.ex.cap] 28 (0,0))∧Below w.heap.size w wr)
        case atStart=>exact⟨0,_,rfl,rfl,by omega,X.out,V.out,O.out,Y.out⟩
        case round=>
         obtain⟨j,D,rfl,rfl,hj,K,ho,hx,E⟩:=hrel
         have n:=zc K
         have V:=zc ho
         have O:=zc hx
         have Y:=zc E
         clear K ho hx E c0 c1 c2 c3 c4 cf
         obtain⟨c0,c1,c2,c3,c4,cf⟩:=zk O.out
         have aa:=(Array.getElem?_eq_some_iff.1 O.out).1
         by_cases U:j<m.st.length
         ·have M:(j:Int)<(m.st.length:Int):=by omega
          obtain⟨x,q⟩:=zfz U
          have z:=List.mem_of_getElem? q
          have Z:=zc (zbS (stF m.ex) q (zbB m))
          have o:=zcX (stF m.ex) m.st (j+1) (zbB m)
          rw[Z.out,←n.out,ByteArray.size_append] at o
          have H:(acc (stF m.ex) m.st (zbB m)).size≤1099511627776:=Nat.le_trans (zoD m) HZ.out
          obtain⟨N,J⟩: ∃N,N=j+1:=⟨_,rfl⟩
          have ej:(j:Int)+1=(N:Int):=by omega
          have HJ:=zc J
          clear J
          have ah:D.size≤1099511627776:=by omega
          obtain⟨g,hg,A⟩:=OwnR.elem (f:=smL) (m:=3) (fun _=>rfl) V.out.st q
          rw[hg] at c3
          have k0:=A 0 (by omega)
          have k1:=A 1 (by omega)
          have k2:=A 2 (by omega)
          simp only[smL,Nat.add_zero,List.getElem?_cons_zero,List.getElem?_cons_succ] at k0 k1 k2
          have z1:=SM.out.st x z
          obtain⟨t1,t2⟩:=TR.out.stm x z
          obtain⟨en,af⟩: ∃en:Nat,x.expr=(en:Int):=⟨x.expr.toNat,by omega⟩
          obtain⟨pt,I⟩: ∃t,zax x.kind x.name (prX m.ex en)=t:=⟨_,rfl⟩
          have ak:stF m.ex x=pt:=by rw[stF,af,Int.toNat_natCast,I]
          rw[ak] at Z o
          have al:pt.size≤1099511627776:=by omega
          have ax:wt m.ex en≤1099511627776:=by have:=zoF x.kind x.name (prX m.ex en);rw[I] at this;unfold wt;omega
          rw[af] at k2
          have HG:=zc hg
          have cS: ∀d os,Calls Tryz.prog 65 #[.agg #[.slice S.rq.a m.rq.length S.rq.cap,.slice S.im.a m.im.length S.im.cap,.slice S.ep.a m.ep.length S.ep.cap,.slice (some ⟨g,0,none⟩) m.st.length S.st.cap,.slice S.ex.a m.ex.length S.ex.cap],.agg #[.int .i64 x.kind,.string x.name,.int .i64 (en:Int)]] (grow (redrawn wr d) os) fun e aw=>e= .returned (.string pt)∧∃p:Regrown,aw=grow (redrawn wr p.d) p.os:=fun d os=>Calls.regrown_of (by rw[←I,←hg];exact zoB L S m x.kind x.name en _ (V.out.later (below_regrown _ d os)) (by omega) SM.out.nums TR.out.ahead ax z1)
          have C0:=zc c0
          have C1:=zc c1
          have C2:=zc c2
          have C3:=zc c3
          have C4:=zc c4
          have K0:=zc k0
          have K1:=zc k1
          have K2:=zc k2
          clear hg A q z I ak o H af HG
          go_wp2_with fail
          have y0:=cell_regrown C0.out
          have y1:=cell_regrown C1.out
          have y2:=cell_regrown C2.out
          have y3:=cell_regrown C3.out
          have y4:=cell_regrown C4.out
          have az:=cell_regrown K0.out
          have au:=cell_regrown K1.out
          have aq:=cell_regrown K2.out
          refine wp_region_quiet_below (by kernel_rfl) (by kernel_rfl) ?_
          repeat (go_big_quiet_step (with_reducible exact cS _ _))
          refine wpQuiet_nil ?_
          intro w2 ar
          obtain⟨⟨dq,aC⟩,ae⟩:=ar
          have E:Below wr.heap.size wr w2:=by rw[ae];exact below_regrown _ _ _
          have ab:=zc (V.out.later E)
          have ac:=zc ((E.block _ aa).trans O.out)
          have ad:=zc (Y.out.trans (E.mono Y.out.size))
          clear E ae y0 y1 y2 y3 y4 az au aq cS
          go_wp2
          go_roundg (gk-1)
          case rel=>exact⟨N,_,rfl,rfl,by have:=HJ.out;omega,by rw[HJ.out,Z.out,←n.out],ab.out,ac.out,ad.out⟩
          case measure=>omega
         ·have M: ¬(j:Int)<(m.st.length:Int):=by omega
          have X:Hid (D=acc (stF m.ex) m.st (zbB m)):=by show D=_;rw[n.out,List.take_of_length_le (by omega)]
          clear n
          go_wp2
          go_ret
          exact⟨.inl ⟨TR.out,zaF X.out⟩,Y.out⟩
theorem Tryz.infoString:(Tryz.prog.info? 9).map (fun i=>(i.zero,i.size,i.bytes))=some (some (.string {data:=#[]}),1,16):=by kernel_rfl
theorem OwnR.addr {w:World} {j size n:Nat} {e:TypeId} {r:Rw} {xs:List Value} (h:OwnR w j e size r n xs):n=0∨∃g,r.a=some ⟨g,0,none⟩:=by
 rcases h.2 with ⟨_,q⟩|⟨g,A,z,o,_⟩
 ·exact .inl q
 ·simp only[Value.slice.injEq] at o
  exact .inr ⟨g,o.1⟩
theorem OwnR.str {w:World} {n:Nat} {e:TypeId} {r:Rw} {l:List ByteArray} {g:Nat} (h:OwnR w n e 1 r l.length (l.map .string)) (o:r.a=some ⟨g,0,none⟩) {j:Nat} (q:j<l.length):w.cell? ⟨g,j,none⟩=some (.string (l.getD j sNone)):=by
 unfold OwnR at h
 rw[o] at h
 rw[h.cellAt j (by omega)]
 simp[List.getD,q]
theorem OwnR.lt {w:World} {j size n:Nat} {e:TypeId} {r:Rw} {xs:List Value} {g:Nat} (h:OwnR w j e size r n xs) (o:r.a=some ⟨g,0,none⟩):g<w.heap.size:=(h.typed (k:=g) (by simp[Rw.blk,o,Value.ownBlock])).2.1
theorem zoH {l:List ByteArray} {x:ByteArray} {j:Nat} (n:j<l.length) (h:((l.getD j sNone).toList==x.toList)=true):zaO l x=true:=by
 rw[zaO,List.any_eq_true]
 exact⟨l[j],List.getElem_mem n,by simpa [List.getD,n] using h⟩
theorem zoI {l:List ByteArray} {x:ByteArray} (h: ∀j,j<l.length→((l.getD j sNone).toList==x.toList)=false):zaO l x=false:=by
 rw[Bool.eq_false_iff,zaO]
 intro k
 rw[List.any_eq_true] at k
 obtain⟨y,q,n⟩:=k
 obtain⟨j,o,rfl⟩:=List.getElem_of_mem q
 have:=h j o
 simp only[List.getD,List.getElem?_eq_getElem o,Option.getD_some] at this
 rw[this] at n
 cases n
theorem zoJ {C:Cx} {x:PR} {q:PS} {z:Int} (o:Is x q z) (n:(decide (z<0)&&((ze C q.pos).kind==3))=false):Is2 (bd x (zG C)) q (zbi C q.pos z) sNone:=by
 unfold zbi
 by_cases h:z<0
 ·obtain⟨j,w⟩:=za7 o h
  simp only[h,decide_true,Bool.true_and] at n
  rw[j,zx,zG,n,if_pos h]
  rfl
 ·obtain⟨e,j,w⟩:=zcN o h
  rw[j,zd7,if_neg h]
  exact w
theorem zoK (C:Cx) (E o j:Nat) (x:PR) (S:Sv) (q:PS) (z:Int) (d:Nat) (w:World) (Y:Is x q z) (K:Mem C E o j S q w) (L:(decide (z<0)&&((ze C q.pos).kind==3))=false):
  Calls Tryz.prog 131 #[pv C E o S q z d] w (zcW C E o j (bd x (zG C)) d S w):=by
 have M:=zc K
 have n:=K.tok
 have A:=K.few
 have N:Hid (Is2 (bd x (zG C)) q (zbi C q.pos z) sNone):=zoJ Y L
 clear Y K
 by_cases hz:z<0
 ·have U:decide (0≤z)=false:=decide_eq_false (by omega)
  simp only[hz,decide_true,Bool.true_and] at L
  by_cases hp:q.pos<C.ts.length
  ·obtain⟨J,_,_,_⟩:=n.cells hp (d:=⟨0,sNone,0,C.fin⟩)
   have aa:=(zak n).1
   change _=some (Value.int .i64 (ze C q.pos).kind) at J
   generalize O:ze C q.pos=t at J L
   have ab:(t.kind !=3)=true:=by rw[bne,L];rfl
   clear O
   unfold pv
   go_enter Tryz.func131,Tryz.ntmps131
   go_wp2_with fail
   refine (zcL C E o j S q z d _ (zo (zo n _) _) A).mono ?_
   rintro e w2 ⟨rfl,h⟩
   have D:Hid (_=_):=(zcn h).2
   obtain⟨J,c1,c2,c3,c4,X,Z,c7,c8,V,I,H,cf⟩:=zag D.out
   unfold pv
   go_wp2
   refine bodyPost_ret (za8 rfl _ _ (w.heap.size+1) 53 _ (0,0) _ rfl (zaL D.out) Tryz.underlying53 rfl (by kernel_rfl)) rfl ?_
   exact zdl rfl N.out M.out (zb5 (zaR h) (Nat.le_succ _) ..)
  ·unfold pv
   go_enter Tryz.func131,Tryz.ntmps131
   go_wp2_with fail
   refine (zcL C E o j S q z d _ (zo (zo n _) _) A).mono ?_
   rintro e w2 ⟨rfl,h⟩
   have D:Hid (_=_):=(zcn h).2
   obtain⟨J,c1,c2,c3,c4,X,Z,c7,c8,V,I,H,cf⟩:=zag D.out
   unfold pv
   go_wp2
   refine bodyPost_ret (za8 rfl _ _ (w.heap.size+1) 53 _ (0,0) _ rfl (zaL D.out) Tryz.underlying53 rfl (by kernel_rfl)) rfl ?_
   exact zdl rfl N.out M.out (zb5 (zaR h) (Nat.le_succ _) ..)
 ·have U:decide (0≤z)=true:=decide_eq_true (by omega)
  unfold pv
  go_enter Tryz.func131,Tryz.ntmps131
  go_wp2_with fail
  refine (zcL C E o j S q z d _ (zo (zo n _) _) A).mono ?_
  rintro e w2 ⟨rfl,h⟩
  have D:Hid (_=_):=(zcn h).2
  obtain⟨J,c1,c2,c3,c4,X,Z,c7,c8,V,I,H,cf⟩:=zag D.out
  unfold pv
  go_wp2
  refine bodyPost_ret (za8 rfl _ _ (w.heap.size+1) 53 _ (0,0) _ rfl (zaL D.out) Tryz.underlying53 rfl (by kernel_rfl)) rfl ?_
  exact zdl rfl N.out M.out (zb5 (zaR h) (Nat.le_succ _) ..)
def txt (C:Cx) (q:PS):ByteArray:=(ze C q.pos).text
theorem zoL {C:Cx} {q:PS} (j:((ze C q.pos).kind==3)=true) (h:zaO q.rq (txt C q)=true):zG C q= .ok (adv q,txt C q):=by
 unfold txt at h
 rw[zG,if_pos j,if_pos h];rfl
theorem zoM {C:Cx} {q:PS} (n:((ze C q.pos).kind==3)=true) (h:zaO q.rq (txt C q)=false) (j:40≤q.rq.length):zG C q= .error (zq C q.pos):=by
 unfold txt at h
 rw[zG,if_pos n,h,if_pos j];rfl
theorem zoN {C:Cx} {q:PS} (n:((ze C q.pos).kind==3)=true) (h:zaO q.rq (txt C q)=false) (j: ¬40≤q.rq.length):zG C q= .ok ({adv q with rq:=q.rq++[txt C q]},txt C q):=by
 unfold txt at h
 rw[zG,if_pos n,h,if_neg j];rfl
theorem ziV (C:Cx) (Z n h:Nat) (S:Sv) (q:PS) (d:Nat) (w:World) (I:Mem C Z n h S q w) (X:((ze C q.pos).kind==3)=true) (g:Nat) (E:q.rq.length=0∨S.rq.a=some ⟨g,0,none⟩):
  Calls Tryz.prog 131 #[pv C Z n S q (-1) d] w (zcW C Z n h (zG C q) d S w):=by
 obtain⟨i0,hi,ab,ah,ad⟩:=info_parts Tryz.infoString
 have o:=zc I
 have H3:=zc X
 have N:q.pos<C.ts.length:=zeI X (by decide)
 have ak:=I.few
 have ap:=I.inv.rq
 have aj:=(zak I.tok).1
 obtain⟨c0,c1,_,_⟩:=I.tok.cells N (d:=⟨0,sNone,0,C.fin⟩)
 change _=some (Value.int .i64 (ze C q.pos).kind) at c0
 change _=some (Value.string (txt C q)) at c1
 generalize (ze C q.pos).kind=kd at c0 X
 have aq:(kd !=3)=false:=by rw[bne,X];rfl
 have ac:=zc E
 obtain⟨R,hR⟩: ∃R:Nat→ByteArray,∀j,R j=q.rq.getD j sNone:=⟨fun j=>q.rq.getD j sNone,fun _=>rfl⟩
 have HR:=zc hR
 have HC:Hid (∀j,j<q.rq.length→w.cell? ⟨g,j,none⟩=some (.string (R j))):=fun j M=>by
  rcases E with e|e
  ·omega
  ·rw[hR];exact o.out.own.rq.str e M
 clear hR
 generalize K:txt C q=tx at c1
 have z:=zc K
 have A:=fun o1 o2 o3=>((o.out.own.rq.alloc o1).alloc o2).alloc o3
 clear K I E
 unfold pv
 go_enter Tryz.func131,Tryz.ntmps131
 go_wp2
 go_loop [5] (fun i=>∃k:Nat,k≤q.rq.length∧i= .int .i64 k∧∀j,j<k→¬(R j).toList=tx.toList) (fun i=>(q.rq.length-intOf i).toNat)
 case atStart=>exact⟨0,Nat.zero_le _,rfl,fun j M=>absurd M (Nat.not_lt_zero j)⟩
 case round=>
  obtain⟨k,hk,rfl,L⟩:=hrel
  have O:=zc L
  clear L
  by_cases V:k<q.rq.length
  ·have ha:S.rq.a=some ⟨g,0,none⟩:=ac.out.elim (fun e=>by omega) id
   have an:=HC.out k V
   have al:=o.out.own.rq.lt ha
   cases he:((R k).toList==tx.toList) with
   |true=>
    have J:Hid (zG C q= .ok (adv q,tx)):=by
     show zG C q= .ok (adv q,tx)
     rw[←z.out]
     exact zoL H3.out (zoH V (by rw[←HR.out,z.out];exact he))
    have HA:=zc ha
    go_wp2
    refine bodyPost_ret (za8 rfl _ _ (w.heap.size+1) 53 _ (0,0) _ rfl (zbj w _ _) Tryz.underlying53 rfl (by kernel_rfl)) rfl ?_
    rw[J.out]
    exact zdl (q':=adv q) (z':=-1) (by rw[pv,HA.out];rfl) ⟨rfl,rfl,rfl⟩ (o.out.adv N) (zaM w _ _)
   |false=>
    have HX:Hid (∀j,j<k+1→¬(R j).toList=tx.toList):=fun j M=>by
     by_cases e:j=k
     ·rw[e];exact beq_eq_false_iff_ne.1 he
     ·exact O.out j (by omega)
    go_wp2
    go_round
    case rel=>exact⟨k+1,by omega,by go_num,HX.out⟩
    case measure=>simp[intOf];omega
  ·have HN:Hid (zaO q.rq (txt C q)=false):=zoI fun j M=>by rw[z.out,←HR.out];exact beq_eq_false_iff_ne.2 (O.out j (by omega))
   by_cases hn:40≤q.rq.length
   ·have qn:decide ((40:Int)≤(q.rq.length:Int))=true:=decide_eq_true (by omega)
    have J:Hid (zG C q= .error (zq C q.pos)):=zoM H3.out HN.out hn
    go_wp2_with fail
    refine (zer C Z n h S (adv q) (-1) d _ (((o.out.adv N).alloc _).alloc _) (by decide) (by simp[adv])).mono ?_
    rintro e w2 ⟨rfl,D⟩
    have G3:Hid (_=_):=(zcn D).2
    obtain⟨b0,b1,b2,b3,b4,b5,b6,b7,b8,b9,ai,ae,bf⟩:=zag G3.out
    have HB:Hid (Below w.heap.size w w2):=zaR D
    clear D
    unfold pv
    go_wp2
    refine bodyPost_ret (za8 rfl _ _ (w.heap.size+1) 53 _ (0,0) _ rfl (zaL G3.out) Tryz.underlying53 rfl (by kernel_rfl)) rfl ?_
    rw[J.out]
    exact zdl (q':=adv q) (z':=(zq C q.pos:Int)) rfl rfl (o.out.adv N) (zb5 HB.out (Nat.le_succ _) ..)
   ·have qn:decide ((40:Int)≤(q.rq.length:Int))=false:=decide_eq_false (by omega)
    have J:Hid (zG C q= .ok ({adv q with rq:=q.rq++[tx]},tx)):=by
     show zG C q= .ok ({adv q with rq:=q.rq++[tx]},tx)
     rw[←z.out]
     exact zoN H3.out HN.out hn
    go_wp2_with (at_builtin;refine zcl _ rfl _ _ 22 rfl h 9 i0 _ 1 16 Tryz.underlying22 hi ab ah ad rfl (by decide) (by decide) S.rq q.rq.length _ (by rfl) (A _ _ _) (w.heap.size+1+1) [.string tx] (by rfl) (by exact (zaH w _ _ _).2.2) rfl (by intro u hu;simp at hu;subst hu;rfl) (by omega) (by have:=o.out.base;rw[zY];omega) ?_)
    intro r' w2 hr Y U
    have ag:=zc hr
    have HG:=zc Y
    have aa:=zc U
    have H:=fun b hb=>zdm (W:=w) o.out.own (Nat.le_refl _) (r:=S.rq.blk) (fun k e=>.inl e) b hb
    have g1:=(Y.block w.heap.size (by rw[zY];omega) (H _ (Nat.le_refl _))).trans (zaH w _ _ _).1
    have g2:=(Y.block (w.heap.size+1) (by rw[zY];omega) (H _ (by omega))).trans (zaH w _ _ _).2.1
    obtain⟨a0,a1,a2,a3,a4,a5,a6,a7,a8,a9,ao,am,af⟩:=zag g1
    obtain⟨b0,b1,b2,b3,b4,b5,b6,b7,b8,b9,ai,ae,bf⟩:=zag g2
    have G2:=zc g2
    clear g1 g2 Y hr U H A
    go_wp2
    refine bodyPost_ret (za8 rfl _ _ (w.heap.size+1) 53 _ (0,0) _ rfl (zaL ((zp (by omega)).trans G2.out)) Tryz.underlying53 rfl (by kernel_rfl)) rfl ?_
    obtain⟨m',s'⟩:=(o.out.adv N).grow_rq (x:=tx) (zc2 w _ _ _) HG.out ag.out (by rw[zY];exact aa.out) (((Off.refl _ _ _).set (b:=w.heap.size) (Nat.le_refl _) (by rw[zY];omega) _ _).set12 (b:=w.heap.size+1) (by omega) (by rw[zY];omega) ..) (by show q.rq.length<40;omega)
    rw[J.out]
    exact⟨_,{adv q with rq:=q.rq++[tx]},-1,tx,by simp[pv,adv],⟨rfl,rfl,rfl⟩,m',s'⟩
theorem zdy (C:Cx) (n j h:Nat) (x:PR) (S:Sv) (q:PS) (z:Int) (d:Nat) (w:World) (D:Is x q z) (A:Mem C n j h S q w):
  Calls Tryz.prog 131 #[pv C n j S q z d] w (zcW C n j h (bd x (zG C)) d S w):=by
 cases o:(decide (z<0)&&((ze C q.pos).kind==3)) with
 |false=>exact zoK C n j h x S q z d w D A o
 |true=>
  rw[Bool.and_eq_true,decide_eq_true_eq] at o
  obtain⟨rfl,rfl⟩:=za7 D o.1
  rw[zx]
  rcases A.own.rq.addr with e|⟨g,e⟩
  ·exact ziV C n j h S q d w A o.2 0 (.inl e)
  ·exact ziV C n j h S q d w A o.2 g (.inr e)
abbrev set12 (w:World) (b:Nat) (x0 x1 x2 x3 x4 x5 x6 x7 x8 x9 x10 x11:Value):World:=
 ((((((((((((w.setCell ⟨b,0,none⟩ x0).setCell ⟨b,1,none⟩ x1).setCell ⟨b,2,none⟩ x2).setCell ⟨b,3,none⟩ x3).setCell ⟨b,4,none⟩ x4).setCell ⟨b,5,none⟩ x5).setCell ⟨b,6,none⟩ x6).setCell ⟨b,7,none⟩ x7).setCell ⟨b,8,none⟩ x8).setCell ⟨b,9,none⟩ x9).setCell ⟨b,10,none⟩ x10).setCell ⟨b,11,none⟩ x11)
theorem zgx (w:World) (a:Addr) (u:Value):(w.setCell a u).heap.size=w.heap.size:=by show (w.heap.modify _ _).size=_;simp
theorem zoO (w:World) (b:Nat) (J o n E A I H D z q h j:Value):(set12 w b J o n E A I H D z q h j).heap.size=w.heap.size:=by
 unfold set12
 simp only[zgx]
theorem ze6 {w:World} {b k:Nat} (h:k≠b) (K q o H D J I E A z j n:Value):(set12 w b K q o H D J I E A z j n).heap[k]? =w.heap[k]?:=by
 unfold set12
 rw[zp h,zp h,zp h,zp h,zp h,zp h,zp h,zp h,zp h,zp h,zp h,zp h]
structure Bx (gt:Nat) (S:Sv) (w:World) (b:Nat) (cs:Array Value):Prop where
 heap:w.heap[b]? =some (.cells cs 53 (0,0))
 free: ¬S.has b
 ne:b≠gt
theorem Bx.lt {n b:Nat} {S:Sv} {w:World} {j:Array Value} (h:Bx n S w b j):b<w.heap.size:=(Array.getElem?_eq_some_iff.1 h.heap).1
theorem Bx.stp {q b:Nat} {S o:Sv} {w j:World} {n:Array Value} (h:Bx q S w b n) (k:Stp S w o j):Bx q o j b n:=
 ⟨(k.block b h.lt h.free).trans h.heap,fun g=>(k.sub b g).elim h.free fun z=>by have:=h.lt;omega,h.ne⟩
theorem Bx.below {o b:Nat} {S:Sv} {w n:World} {j:Array Value} (h:Bx o S w b j) (k:Below w.heap.size w n):Bx o S n b j:=⟨(k.block b h.lt).trans h.heap,h.free,h.ne⟩
theorem Bx.alloc {n b:Nat} {S:Sv} {w:World} {j:Array Value} (h:Bx n S w b j) (o:Obj):Bx n S (w.alloc o) b j:=h.below ((Below.refl _ _).alloc (Nat.le_refl _) _)
theorem Bx.new {C:Cx} {o n j:Nat} {S:Sv} {q:PS} {w:World} (h:Mem C o n j S q w) (z:Array Value):Bx o S (w.alloc (.cells z 53 (0,0))) w.heap.size z:=
 ⟨heap_alloc_new w _,fun g=>by have:=(h.own.has g).2;omega,by have:=(zak h.tok).1;omega⟩
theorem Bx.set {n b:Nat} {S:Sv} {w:World} {j:Array Value} (h:Bx n S w b j) (i:Nat) (u:Value):Bx n S (w.setCell ⟨b,i,none⟩ u) b (j.setIfInBounds i u):=⟨zbP h.heap,h.free,h.ne⟩
theorem Bx.set_other {j b c:Nat} {S:Sv} {w:World} {n:Array Value} (h:Bx j S w b n) (o:b≠c) (i:Nat) (u:Value):Bx j S (w.setCell ⟨c,i,none⟩ u) b n:=⟨(zp o).trans h.heap,h.free,h.ne⟩
theorem Bx.put {N b:Nat} {S:Sv} {w:World} {U v1 O Z v4 V v6 v7 X Y o q:Value} (h:Bx N S w b #[U,v1,O,Z,v4,V,v6,v7,X,Y,o,q]) (I K J M H D A z E L n j:Value):
  Bx N S (set12 w b I K J M H D A z E L n j) b #[I,K,J,M,H,D,A,z,E,L,n,j]:=⟨zaL h.heap,h.free,h.ne⟩
theorem Bx.other {q b c:Nat} {S:Sv} {w:World} {o:Array Value} (h:Bx q S w b o) (M:b≠c) (N A z J H L K I E D j n:Value):Bx q S (set12 w c N A z J H L K I E D j n) b o:=⟨(ze6 M ..).trans h.heap,h.free,h.ne⟩
theorem Bx.at1 {K b:Nat} {S:Sv} {w:World} {H L q z I o D J A E j n:Value} (h:Bx K S w b #[H,L,q,z,I,o,D,J,A,E,j,n]) (u:Value):Bx K S (w.setCell ⟨b,1,none⟩ u) b #[H,u,q,z,I,o,D,J,A,E,j,n]:=by simpa using h.set 1 u
theorem Bx.at11 {K b:Nat} {S:Sv} {w:World} {H L q z I o D J A E j n:Value} (h:Bx K S w b #[H,L,q,z,I,o,D,J,A,E,j,n]) (u:Value):Bx K S (w.setCell ⟨b,11,none⟩ u) b #[H,L,q,z,I,o,D,J,A,E,j,u]:=by simpa using h.set 11 u
theorem Bx.box {L b:Nat} {S:Sv} {w:World} {H K q z I o D J A E j n:Value} (h:Bx L S w b #[H,K,q,z,I,o,D,J,A,E,j,n]):Box w b H K q z I o D J A E j n:=zag h.heap
theorem Mem.set {C:Cx} {o n j b:Nat} {S:Sv} {q:PS} {w:World} (h:Mem C o n j S q w) {A:Array Value} (z:Bx o S w b A) (i:Nat) (u:Value):Mem C o n j S q (w.setCell ⟨b,i,none⟩ u):=
 ⟨h.own.keep fun k g=>zp (b:=k) fun e=>z.free (by rw[←e];exact g),h.inv,zbs h.tok (zp z.ne.symm),h.few,by rw[zgx];exact h.base⟩
theorem Mem.put {C:Cx} {z n j b:Nat} {S:Sv} {q:PS} {w:World} (h:Mem C z n j S q w) {E:Array Value} (D:Bx z S w b E) (V I H N L U O M K J o A:Value):Mem C z n j S q (set12 w b V I H N L U O M K J o A):=
 ⟨h.own.keep fun k g=>ze6 (k:=k) (fun e=>D.free (by rw[←e];exact g)) _ _ _ _ _ _ _ _ _ _ _ _,h.inv,zbs h.tok (ze6 D.ne.symm ..),h.few,by rw[zoO];exact h.base⟩
structure SB (B:Nat) (S:Sv) (w:World) (S':Sv) (w':World):Prop where
 os:w'.os=w.os
 tape:w'.tape=w.tape
 output:w'.output=w.output
 size:w.heap.size≤w'.heap.size
 low:B≤w.heap.size
 block: ∀k,k<B→¬S.has k→w'.heap[k]? =w.heap[k]?
 sub: ∀k,S'.has k→S.has k∨B≤k
theorem SB.start {S:Sv} {w j:World} (h:Below w.heap.size w j):SB w.heap.size S w S j:=⟨h.os,h.tape,h.output,h.size,Nat.le_refl _,fun k n _=>h.block k n,fun _ g=>.inl g⟩
theorem SB.step {B:Nat} {S o A:Sv} {w q n:World} (h:SB B S w o q) (k:Stp o q A n):SB B S w A n:=
 ⟨k.os.trans h.os,k.tape.trans h.tape,k.output.trans h.output,Nat.le_trans h.size k.size,h.low,
  fun i j z=>(k.block i (by have:=h.size;have:=h.low;omega) fun g=>(h.sub i g).elim z fun D=>by omega).trans (h.block i j z),
  fun i j=>(k.sub i j).elim (h.sub i) fun g=>.inr (by have:=h.size;have:=h.low;omega)⟩
theorem SB.below {B:Nat} {S o:Sv} {w j n:World} (h:SB B S w o j) (k:Below j.heap.size j n):SB B S w o n:=h.step (Stp.below k)
theorem SB.alloc {B:Nat} {S j:Sv} {w n:World} (h:SB B S w j n) (o:Obj):SB B S w j (n.alloc o):=h.below ((Below.refl _ _).alloc (Nat.le_refl _) _)
theorem SB.set {B:Nat} {S j:Sv} {w n:World} (h:SB B S w j n) {b:Nat} (z:B≤b) (i:Nat) (u:Value):SB B S w j (n.setCell ⟨b,i,none⟩ u):=
 ⟨h.os,h.tape,h.output,by rw[zgx];exact h.size,h.low,fun k q o=>(zp (by omega)).trans (h.block k q o),h.sub⟩
theorem SB.put {B:Nat} {S z:Sv} {w q:World} (h:SB B S w z q) {b:Nat} (j:B≤b) (N D A K I M L J H E n o:Value):SB B S w z (set12 q b N D A K I M L J H E n o):=
 (((((((((((h.set j 0 N).set j 1 D).set j 2 A).set j 3 K).set j 4 I).set j 5 M).set j 6 L).set j 7 J).set j 8 H).set j 9 E).set j 10 n).set j 11 o
theorem SB.done {S j:Sv} {w n:World} (h:SB w.heap.size S w j n):Stp S w j n:=⟨h.os,h.tape,h.output,h.size,h.block,h.sub⟩
theorem zJ {P:Program} {j:Code} {Q:Exit→Act→World→Prop} {a:Act} {w0:World} {R:World→Prop} (n:R w0) (h: ∀W,R W→Code.wp P j Q a W):Code.wp P j Q a w0:=h w0 n
theorem Mem.two {C:Cx} {E o j:Nat} {S:Sv} {q:PS} {w n:World} {D A:Array Value} (h:Mem C E o j S q w) (z:Below ((w.alloc (.cells D 53 (0,0))).alloc (.cells A 53 (0,0))).heap.size ((w.alloc (.cells D 53 (0,0))).alloc (.cells A 53 (0,0))) n):
  Bx E S n w.heap.size D∧Bx E S n (w.heap.size+1) A∧Mem C E o j S q n∧SB w.heap.size S w S n:=
 ⟨((Bx.new h _).alloc _).below z,by have:=(Bx.new (h.alloc (.cells D 53 (0,0))) A).below z;rw[zj] at this;exact this,h.later (zaR z),SB.start (zaR z)⟩
theorem Mem.two2 {C:Cx} {E z j:Nat} {S n:Sv} {q:PS} {w o:World} {D A:Array Value} (h:Mem C E z j S q w) (s:Stp S ((w.alloc (.cells D 53 (0,0))).alloc (.cells A 53 (0,0))) n o):
  Bx E n o w.heap.size D∧Bx E n o (w.heap.size+1) A∧SB w.heap.size S w n o:=
 ⟨((Bx.new h _).alloc _).stp s,by have:=(Bx.new (h.alloc (.cells D 53 (0,0))) A).stp s;rw[zj] at this;exact this,(SB.start (zaM w _ _)).step s⟩
theorem zW {C:Cx} {q j h:Nat} {y:PR} {d:Nat} {S n:Sv} {w o:World} {q':PS} {z':Int} {v:Value} (A:v=pv C q j n q' z' d) (z:Is y q' z') (D:Mem C q j h n q' o) (E:SB w.heap.size S w n o):Out C q j h y d S w (.returned v) o:=
 ⟨n,q',z',by rw[A],z,D,E.done⟩
end Go.Proofs.YticdggnnpjachaaGreat
