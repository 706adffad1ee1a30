/-
  What impl.ModOk answers: the walk.
  What l5Expr of the specification answers of a product: the walk.
  What l5Expr of the specification answers,whole. No walk is zr.
  What l5As,l5Quote,l5Imp,l5Exp and l5Stmt of the specification answer: the walks.
  What spec.Print answers: the walk.
-/
import Derived.Test.YticdggnnpjachaaGreatCbImplParseAll
namespace Go.Proofs.YticdggnnpjachaaGreat
set_option maxRecDepth 100000
set_option maxHeartbeats 12800000
open Go.RowKit Go.PlainAid Go.Sort
theorem zrr (o:Nat) (S:Sv) (m:Md) (H:Bool) (w:World) (h:OwnMd w o S m) (hm:Small m) (V:Tree m→(zb1 m).size≤4294967296):
  Calls Tryz.prog 14 #[zp S m,.bool H] w fun e w'=>ziX (zb1 m) m H e∧Below w.heap.size w w':=by
 have HH:=zc h
 have SM:=zc hm
 have HU:=zc V
 have SF:Hid (zem m):=hm.few
 clear h hm V
 unfold zp
 go_enter Tryz.func14,Tryz.ntmps14
 go_upto_region 1 with fail
 have E:Hid (Below w.heap.size w (w.alloc (.cells #[.slice S.rq.a m.rq.length S.rq.cap,.slice S.im.a m.im.length S.im.cap,.slice S.ep.a m.ep.length S.ep.cap,.slice S.st.a m.st.length S.st.cap,.slice S.ex.a m.ex.length S.ex.cap] 28))):=(Below.refl _ _).alloc (Nat.le_refl _) _
 refine zau (R:=fun W=>W.heap[w.heap.size]? =some (.cells #[.slice S.rq.a m.rq.length S.rq.cap,.slice S.im.a m.im.length S.im.cap,.slice S.ep.a m.ep.length S.ep.cap,.slice S.st.a m.st.length S.st.cap,.slice S.ex.a m.ex.length S.ex.cap] 28 (0,0))∧OwnMd W o S m∧Below w.heap.size w W) ⟨heap_alloc_new w _,HH.out.later E.out,E.out⟩ ?_
 obtain⟨Z,K⟩: ∃Z,Z=w.heap.size:=⟨_,rfl⟩
 rw[←K]
 rintro w1 ⟨hx,ho,z⟩
 rw[K] at z
 clear K E HH
 have X1:=zc hx
 have O1:=zc ho
 have X:=zc z
 clear hx ho z
 obtain⟨c0,c1,Y,c3,c4,cf⟩:=zl X1.out
 go_wp2_with fail
 refine (zhe o S m H w1 O1.out SM.out (fun t=>Nat.le_trans (HU.out t) (by omega))).mono ?_
 rintro e w2 ⟨A,z⟩
 obtain⟨t,L,rfl⟩:=A.form
 have PR:=zc L
 have ht:=L.size HU.out
 have X2:=zc ((z.block _ (Array.getElem?_eq_some_iff.1 X1.out).1).trans X1.out)
 have O2:=zc (O1.out.later z)
 have Q:=zc (X.out.trans (z.mono X.out.size))
 clear A L z c0 c1 Y c3 c4 cf
 go_wp2_with fail
 refine (zkj t H w2 ht).mono ?_
 rintro e M ⟨A,z⟩
 have X3:=zc ((z.block _ (Array.getElem?_eq_some_iff.1 X2.out).1).trans X2.out)
 have O3:=zc (O2.out.later z)
 have D:=zc (Q.out.trans (z.mono Q.out.size))
 clear z
 rcases A.md with ⟨q,j,n,U,hn,rfl,I,J⟩|⟨p,U,rfl⟩
 ·have OK:=zc (zgO (m:=m) U hn)
  have O4:=zc I
  have NF:=zc J
  clear A U hn I J
  unfold zp
  go_upto_region 2 with fail
  have E:Hid (Below M.heap.size M (M.alloc (.cells #[.slice j.rq.a n.rq.length j.rq.cap,.slice j.im.a n.im.length j.im.cap,.slice j.ep.a n.ep.length j.ep.cap,.slice j.st.a n.st.length j.st.cap,.slice j.ex.a n.ex.length j.ex.cap] 28))):=(Below.refl _ _).alloc (Nat.le_refl _) _
  refine zau (R:=fun W=>W.heap[Z]? =some (.cells #[.slice S.rq.a m.rq.length S.rq.cap,.slice S.im.a m.im.length S.im.cap,.slice S.ep.a m.ep.length S.ep.cap,.slice S.st.a m.st.length S.st.cap,.slice S.ex.a m.ex.length S.ex.cap] 28 (0,0))∧W.heap[M.heap.size]? =some (.cells #[.slice j.rq.a n.rq.length j.rq.cap,.slice j.im.a n.im.length j.im.cap,.slice j.ep.a n.ep.length j.ep.cap,.slice j.st.a n.st.length j.st.cap,.slice j.ex.a n.ex.length j.ex.cap] 28 (0,0))∧OwnMd W o S m∧OwnMd W w2.heap.size j n∧Below w.heap.size w W) ⟨(E.out.block _ (Array.getElem?_eq_some_iff.1 X3.out).1).trans X3.out,heap_alloc_new M _,O3.out.later E.out,O4.out.later E.out,D.out.trans (E.out.mono D.out.size)⟩ ?_
  obtain⟨gy,O⟩: ∃gy,gy=M.heap.size:=⟨_,rfl⟩
  rw[←O]
  intro w4 h4
  have N:=zc h4
  clear h4 O E X3 O3 O4 D
  obtain⟨c0,c1,Y,c3,c4,cf⟩:=zl N.out.1
  obtain⟨d0,d1,d2,d3,d4,df⟩:=zl N.out.2.1
  go_wp2_with fail
  refine ((zoH o w2.heap.size S j m n _ N.out.2.2.1 N.out.2.2.2.1 SF.out)).mono ?_
  rintro e w5 ⟨⟨r,rfl,hr⟩,z⟩
  have HR:=zc hr
  have aa:=zc (N.out.2.2.2.2.trans (z.mono N.out.2.2.2.2.size))
  clear hr z c0 c1 Y c3 c4 cf d0 d1 d2 d3 d4 df
  go_wp2
  go_ret
  exact⟨⟨t,PR.out,r,rfl,HR.out.trans (Iff.trans ⟨Eq.symm,Eq.symm⟩ OK.out.symm)⟩,aa.out⟩
 ·have NO:=zc (zgN (m:=m) U)
  clear A U
  go_wp2
  go_ret
  exact⟨⟨t,PR.out,false,rfl,⟨fun k=>(by cases k),fun k=>absurd k NO.out⟩⟩,(D.out.alloc D.out.size _)⟩
theorem zrs (o g:Nat) (S:Sv) (m:Md) (i n j:Nat) (k A:Int) (nm D:ByteArray) (w:World) (E:S.ex.a=some ⟨g,0,none⟩) (h:OwnMd w o S m) (hi:i<m.ex.length) (ad:g<w.heap.size) (c0:w.cell? ⟨g,i*6,none⟩=some (.int .i64 k)) (c1:w.cell? ⟨g,i*6+1,none⟩=some (.int .i64 A)) (c2:w.cell? ⟨g,i*6+2,none⟩=some (.string nm)) (c3:w.cell? ⟨g,i*6+3,none⟩=some (.string D)) (c4:w.cell? ⟨g,i*6+4,none⟩=some (.int .i64 (n:Int))) (c5:w.cell? ⟨g,i*6+5,none⟩=some (.int .i64 (j:Int))) (k1:(k==1)=false) (k2:(k==2)=false) (k3:(k==3)=false) (k4:(k==4)=false) (k5:(k==5)=false) (k6:(k==6)=false) (k7:(k==7)=false) (k8:(k==8)=true) (M:(zE (zO (m.ex.getD n zg).kind) (prX m.ex n)++tStar++zE (zW (m.ex.getD j zg).kind) (prX m.ex j)).size≤1099511627776) (he:zeo o S m i) (hl:n<i) (hr:j<i) (aa:wt m.ex n≤1099511627776) (ac:wt m.ex j≤1099511627776):
  Calls Tryz.prog 123 #[zp S m,.int .i64 i] w fun e w'=>e= .returned (.string (zE (zO (m.ex.getD n zg).kind) (prX m.ex n)++tStar++zE (zW (m.ex.getD j zg).kind) (prX m.ex j)))∧Below w.heap.size w w':=by
 have ah:(i:Int)<(m.ex.length:Int):=by omega
 have HA:Hid (OwnMd ((w.alloc (.cells #[.slice S.rq.a m.rq.length S.rq.cap,.slice S.im.a m.im.length S.im.cap,.slice S.ep.a m.ep.length S.ep.cap,.slice S.st.a m.st.length S.st.cap,.slice (some ⟨g,0,none⟩) m.ex.length S.ex.cap] 28)).alloc (.cells #[.int .i64 k,.int .i64 A,.string nm,.string D,.int .i64 (n:Int),.int .i64 (j:Int)] 108)) o S m):=(h.alloc _).alloc _
 have HE:=zc he
 have H:Hid (zp S m= .agg #[.slice S.rq.a m.rq.length S.rq.cap,.slice S.im.a m.im.length S.im.cap,.slice S.ep.a m.ep.length S.ep.cap,.slice S.st.a m.st.length S.st.cap,.slice (some ⟨g,0,none⟩) m.ex.length S.ex.cap]):=by show _=_;rw[zp,E]
 have aj:(n:Int)<(m.ex.length:Int):=by omega
 have ak:(j:Int)<(m.ex.length:Int):=by omega
 obtain⟨g2,hg2,-,d0,-,-,-,-,-⟩:=h.expr (i:=j) (by omega)
 have eg:g2=g:=by have:=hg2.symm.trans E;simpa using this
 rw[eg] at d0
 obtain⟨L,U⟩: ∃L,(m.ex.getD j zg).kind=L:=⟨_,rfl⟩
 rw[U] at d0
 have Z:=zc U
 obtain⟨V,O⟩: ∃V,zE (zO (m.ex.getD n zg).kind) (prX m.ex n)=V:=⟨_,rfl⟩
 obtain⟨tr,J⟩: ∃tr,zE (zW (m.ex.getD j zg).kind) (prX m.ex j)=tr:=⟨_,rfl⟩
 rw[O,J] at M
 have N:=zc O
 have Q:=zc J
 obtain⟨kl,K⟩: ∃kl,(m.ex.getD n zg).kind=kl:=⟨_,rfl⟩
 have cK: ∀d z,Calls Tryz.prog 165 #[.agg #[.slice S.rq.a m.rq.length S.rq.cap,.slice S.im.a m.im.length S.im.cap,.slice S.ep.a m.ep.length S.ep.cap,.slice S.st.a m.st.length S.st.cap,.slice (some ⟨g,0,none⟩) m.ex.length S.ex.cap],.int .i64 (n:Int)] (grow (redrawn ((w.alloc (.cells #[.slice S.rq.a m.rq.length S.rq.cap,.slice S.im.a m.im.length S.im.cap,.slice S.ep.a m.ep.length S.ep.cap,.slice S.st.a m.st.length S.st.cap,.slice (some ⟨g,0,none⟩) m.ex.length S.ex.cap] 28)).alloc (.cells #[.int .i64 k,.int .i64 A,.string nm,.string D,.int .i64 (n:Int),.int .i64 (j:Int)] 108)) d) z) fun e q=>e= .returned (.bool (zO kl))∧∃p:Regrown,q=grow (redrawn ((w.alloc (.cells #[.slice S.rq.a m.rq.length S.rq.cap,.slice S.im.a m.im.length S.im.cap,.slice S.ep.a m.ep.length S.ep.cap,.slice S.st.a m.st.length S.st.cap,.slice (some ⟨g,0,none⟩) m.ex.length S.ex.cap] 28)).alloc (.cells #[.int .i64 k,.int .i64 A,.string nm,.string D,.int .i64 (n:Int),.int .i64 (j:Int)] 108)) p.d) p.os:=fun d z=>Calls.regrown_of (by rw[←H.out,←K];exact zgY o S m n _ (HA.out.later (below_regrown _ d z)) (by omega))
 have cL: ∀d z,Calls Tryz.prog 164 #[.agg #[.slice S.rq.a m.rq.length S.rq.cap,.slice S.im.a m.im.length S.im.cap,.slice S.ep.a m.ep.length S.ep.cap,.slice S.st.a m.st.length S.st.cap,.slice (some ⟨g,0,none⟩) m.ex.length S.ex.cap],.int .i64 (n:Int),.bool (zO kl)] (grow (redrawn ((w.alloc (.cells #[.slice S.rq.a m.rq.length S.rq.cap,.slice S.im.a m.im.length S.im.cap,.slice S.ep.a m.ep.length S.ep.cap,.slice S.st.a m.st.length S.st.cap,.slice (some ⟨g,0,none⟩) m.ex.length S.ex.cap] 28)).alloc (.cells #[.int .i64 k,.int .i64 A,.string nm,.string D,.int .i64 (n:Int),.int .i64 (j:Int)] 108)) d) z) fun e q=>e= .returned (.string V)∧∃p:Regrown,q=grow (redrawn ((w.alloc (.cells #[.slice S.rq.a m.rq.length S.rq.cap,.slice S.im.a m.im.length S.im.cap,.slice S.ep.a m.ep.length S.ep.cap,.slice S.st.a m.st.length S.st.cap,.slice (some ⟨g,0,none⟩) m.ex.length S.ex.cap] 28)).alloc (.cells #[.int .i64 k,.int .i64 A,.string nm,.string D,.int .i64 (n:Int),.int .i64 (j:Int)] 108)) p.d) p.os:=fun d z=>Calls.regrown_of (by rw[←H.out,←N.out,K];exact zfD o S m i n _ _ HE.out (by omega) (by omega) (HA.out.later (below_regrown _ d z)) aa)
 have cS: ∀d z,Calls Tryz.prog 121 #[.int .i64 L] (grow (redrawn ((w.alloc (.cells #[.slice S.rq.a m.rq.length S.rq.cap,.slice S.im.a m.im.length S.im.cap,.slice S.ep.a m.ep.length S.ep.cap,.slice S.st.a m.st.length S.st.cap,.slice (some ⟨g,0,none⟩) m.ex.length S.ex.cap] 28)).alloc (.cells #[.int .i64 k,.int .i64 A,.string nm,.string D,.int .i64 (n:Int),.int .i64 (j:Int)] 108)) d) z) fun e q=>e= .returned (.bool (zW L))∧∃p:Regrown,q=grow (redrawn ((w.alloc (.cells #[.slice S.rq.a m.rq.length S.rq.cap,.slice S.im.a m.im.length S.im.cap,.slice S.ep.a m.ep.length S.ep.cap,.slice S.st.a m.st.length S.st.cap,.slice (some ⟨g,0,none⟩) m.ex.length S.ex.cap] 28)).alloc (.cells #[.int .i64 k,.int .i64 A,.string nm,.string D,.int .i64 (n:Int),.int .i64 (j:Int)] 108)) p.d) p.os:=fun d z=>Calls.regrown_of ((zjg L _).mono (by rintro e w' ⟨rfl,rfl⟩;exact⟨rfl,Below.refl _ _⟩))
 have cR: ∀d z,Calls Tryz.prog 164 #[.agg #[.slice S.rq.a m.rq.length S.rq.cap,.slice S.im.a m.im.length S.im.cap,.slice S.ep.a m.ep.length S.ep.cap,.slice S.st.a m.st.length S.st.cap,.slice (some ⟨g,0,none⟩) m.ex.length S.ex.cap],.int .i64 (j:Int),.bool (zW L)] (grow (redrawn ((w.alloc (.cells #[.slice S.rq.a m.rq.length S.rq.cap,.slice S.im.a m.im.length S.im.cap,.slice S.ep.a m.ep.length S.ep.cap,.slice S.st.a m.st.length S.st.cap,.slice (some ⟨g,0,none⟩) m.ex.length S.ex.cap] 28)).alloc (.cells #[.int .i64 k,.int .i64 A,.string nm,.string D,.int .i64 (n:Int),.int .i64 (j:Int)] 108)) d) z) fun e q=>e= .returned (.string tr)∧∃p:Regrown,q=grow (redrawn ((w.alloc (.cells #[.slice S.rq.a m.rq.length S.rq.cap,.slice S.im.a m.im.length S.im.cap,.slice S.ep.a m.ep.length S.ep.cap,.slice S.st.a m.st.length S.st.cap,.slice (some ⟨g,0,none⟩) m.ex.length S.ex.cap] 28)).alloc (.cells #[.int .i64 k,.int .i64 A,.string nm,.string D,.int .i64 (n:Int),.int .i64 (j:Int)] 108)) p.d) p.os:=fun d z=>Calls.regrown_of (by rw[←H.out,←Q.out,Z.out];exact zfD o S m i j _ _ HE.out (by omega) (by omega) (HA.out.later (below_regrown _ d z)) ac)
 have X:Hid (Six ((w.alloc (.cells #[.slice S.rq.a m.rq.length S.rq.cap,.slice S.im.a m.im.length S.im.cap,.slice S.ep.a m.ep.length S.ep.cap,.slice S.st.a m.st.length S.st.cap,.slice (some ⟨g,0,none⟩) m.ex.length S.ex.cap] 28)).alloc (.cells #[.int .i64 k,.int .i64 A,.string nm,.string D,.int .i64 (n:Int),.int .i64 (j:Int)] 108)) (w.heap.size+1) (.int .i64 k) (.int .i64 A) (.string nm) (.string D) (.int .i64 (n:Int)) (.int .i64 (j:Int))):=zv (zbq w _ _)
 have Y:=zc (zl (zck (o':=.cells #[.int .i64 k,.int .i64 A,.string nm,.string D,.int .i64 (n:Int),.int .i64 (j:Int)] 108) (heap_alloc_new w (.cells #[.slice S.rq.a m.rq.length S.rq.cap,.slice S.im.a m.im.length S.im.cap,.slice S.ep.a m.ep.length S.ep.cap,.slice S.st.a m.st.length S.st.cap,.slice (some ⟨g,0,none⟩) m.ex.length S.ex.cap] 28))))
 have D0:Hid (((w.alloc (.cells #[.slice S.rq.a m.rq.length S.rq.cap,.slice S.im.a m.im.length S.im.cap,.slice S.ep.a m.ep.length S.ep.cap,.slice S.st.a m.st.length S.st.cap,.slice (some ⟨g,0,none⟩) m.ex.length S.ex.cap] 28)).alloc (.cells #[.int .i64 k,.int .i64 A,.string nm,.string D,.int .i64 (n:Int),.int .i64 (j:Int)] 108)).cell? ⟨g,j*6,none⟩=some (.int .i64 L)):=by show _=_;rw[World.cell?_alloc_past _ _ _ (by rw[zk];omega),World.cell?_alloc_past _ _ _ ad];exact d0
 simp only[ByteArray.size_append] at M
 have ae:tStar.size=3:=rfl
 have ai:V.size≤1099511627776:=by omega
 have ag:tr.size≤1099511627776:=by omega
 have HV:Hid ((zE (zO (m.ex.getD n zg).kind) (prX m.ex n)++tStar++zE (zW (m.ex.getD j zg).kind) (prX m.ex j))=V++tStar++tr):=by show _=_;rw[N.out,Q.out]
 unfold zp
 rw[E]
 clear E h HA HE H N Q O J U Z hg2 he M ae d0 eg K
 go_enter Tryz.func123,Tryz.ntmps123
 go_wp2_with fail
 have x0:=cell_regrown X.out.c0
 have x4:=cell_regrown X.out.c4
 have x5:=cell_regrown X.out.c5
 have y0:=cell_regrown Y.out.1
 have y1:=cell_regrown Y.out.2.1
 have y2:=cell_regrown Y.out.2.2.1
 have y3:=cell_regrown Y.out.2.2.2.1
 have y4:=cell_regrown Y.out.2.2.2.2.1
 have e0:=cell_regrown D0.out
 refine wp_region_quiet_below (by kernel_rfl) (by kernel_rfl) ?_
 repeat (go_big_quiet_step (first|with_reducible exact cL _ _|with_reducible exact cS _ _|with_reducible exact cR _ _|with_reducible exact cK _ _))
 refine wpQuiet_nil ?_
 intro w1 ab
 obtain⟨⟨dq,al⟩,I⟩:=ab
 have af:Hid (Below w.heap.size w w1):=by show Below _ _ _;rw[I];exact (zaT w _ _).trans ((below_regrown _ _ _).mono (by rw[zk,zk];omega))
 clear I
 go_wp2
 go_ret
 exact⟨za2 HV.out.symm,af.out⟩
theorem zfR (b:Bool) (t:ByteArray):t.size≤(zE b t).size:=by
 unfold zE
 split
 ·rw[ByteArray.size_append,ByteArray.size_append]
  omega
 ·exact Nat.le_refl _
theorem zrt (z:Nat) (S:Sv) (m:Md) (hn:zbB m.ex) (ha:zbn m.ex) (n:Nat):zeo z S m n:=by
 induction n with
 |zero=>intro i w A;omega
 |succ n ih=>
  intro i w ac A h j
  by_cases ab:i<n
  ·exact ih i w ab A h j
  ·have he:zeo z S m i:=by
    have:i=n:=by omega
    rw[this]
    exact ih
   obtain⟨g,q,o,M,K,J,N,L,O⟩:=h.expr A
   have aa:=hn (m.ex.getD i zg) (by rw[zdz A];exact List.getElem_mem A)
   have X:=zfp ha (i:=i)
   unfold wt at j
   rw[zgk ha] at j ⊢
   generalize m.ex.getD i zg=x at*
   by_cases E:(x.kind==1)=true
   ·rw[if_pos E]
    exact zoM g S m i _ _ _ _ _ _ w q A o M K J N L O E aa
   rw[if_neg E] at j ⊢
   by_cases H:(x.kind==2)=true
   ·rw[if_pos H]
    exact zoN g S m i _ _ _ _ _ _ w q A o M K J N L O (by simpa using E) H
   rw[if_neg H] at j ⊢
   by_cases I:(x.kind==3)=true
   ·rw[if_pos I] at j ⊢
    exact zoO g S m i _ _ _ _ _ _ w q A o M K J N L O (by simpa using E) (by simpa using H) I j
   rw[if_neg I] at j ⊢
   by_cases Q:(x.kind==4)=true
   ·rw[if_pos Q] at j ⊢
    exact zoP g S m i _ _ _ _ _ _ w q A o M K J N L O (by simpa using E) (by simpa using H) (by simpa using I) Q j
   rw[if_neg Q] at j ⊢
   by_cases V:(x.kind==5)=true
   ·rw[if_pos V] at j ⊢
    exact zoQ g S m i _ _ _ _ _ _ w q A o M K J N L O (by simpa using E) (by simpa using H) (by simpa using I) (by simpa using Q) V j
   rw[if_neg V] at j ⊢
   by_cases U:(x.kind==6)=true
   ·rw[if_pos U] at j ⊢
    obtain⟨h1,h2,Z,h4⟩:=X (zby (.inl U))
    have D:=j
    rw[ByteArray.size_append,ByteArray.size_append] at D
    have s2:=zfR (zO (m.ex.getD x.r.toNat zg).kind) (prX m.ex x.r.toNat)
    exact zoS z g S m i x.l.toNat x.r.toNat _ _ _ _ w q h A o M K J N (by rw[L,Int.toNat_of_nonneg h1]) (by rw[O,Int.toNat_of_nonneg Z]) (by simpa using E) (by simpa using H) (by simpa using I) (by simpa using Q) (by simpa using V) U j he (by omega) (by omega) (by unfold wt;omega) (by unfold wt;omega)
   rw[if_neg U] at j ⊢
   by_cases Y:(x.kind==7)=true
   ·rw[if_pos Y] at j ⊢
    obtain⟨h1,h2,Z,h4⟩:=X (zby (.inr (.inl Y)))
    have D:=j
    rw[ByteArray.size_append,ByteArray.size_append] at D
    have s2:=zfR (zO (m.ex.getD x.r.toNat zg).kind) (prX m.ex x.r.toNat)
    exact zoT z g S m i x.l.toNat x.r.toNat _ _ _ _ w q h A o M K J N (by rw[L,Int.toNat_of_nonneg h1]) (by rw[O,Int.toNat_of_nonneg Z]) (by simpa using E) (by simpa using H) (by simpa using I) (by simpa using Q) (by simpa using V) (by simpa using U) Y j he (by omega) (by omega) (by unfold wt;omega) (by unfold wt;omega)
   rw[if_neg Y] at j ⊢
   by_cases k8:(x.kind==8)=true
   ·rw[if_pos k8] at j ⊢
    obtain⟨h1,h2,Z,h4⟩:=X (zby (.inr (.inr k8)))
    have D:=j
    rw[ByteArray.size_append,ByteArray.size_append] at D
    have s1:=zfR (zO (m.ex.getD x.l.toNat zg).kind) (prX m.ex x.l.toNat)
    have s2:=zfR (zW (m.ex.getD x.r.toNat zg).kind) (prX m.ex x.r.toNat)
    exact zrs z g S m i x.l.toNat x.r.toNat _ _ _ _ w q h A o M K J N (by rw[L,Int.toNat_of_nonneg h1]) (by rw[O,Int.toNat_of_nonneg Z]) (by simpa using E) (by simpa using H) (by simpa using I) (by simpa using Q) (by simpa using V) (by simpa using U) (by simpa using Y) k8 j he (by omega) (by omega) (by unfold wt;omega) (by unfold wt;omega)
   rw[if_neg k8] at j ⊢
   exact zoR g S m i _ _ _ _ _ _ w q A o M K J N L O (by simpa using E) (by simpa using H) (by simpa using I) (by simpa using Q) (by simpa using V) (by simpa using U) (by simpa using Y) (by simpa using k8)
theorem zdL (j:Nat) (S:Sv) (m:Md) (i:Nat) (w:World) (o:zbB m.ex) (q:zbn m.ex) (n:i<m.ex.length) (h:OwnMd w j S m) (z:wt m.ex i≤1099511627776):
  Calls Tryz.prog 123 #[zp S m,.int .i64 i] w fun e A=>e= .returned (.string (prX m.ex i))∧Below w.heap.size w A:=zrt j S m o q (i+1) i w (Nat.lt_succ_self i) n h z
theorem zht (a b:ByteArray) (w:World) (o:a.size≤1099511627776) (q:b.size≤1099511627776):Calls Tryz.prog 122 #[.string a,.string b] w fun e n=>e= .returned (.string (asT a b))∧n=w:=by
 cases h:(a.toList==b.toList) with
 |true=>
  have j:Hid (asT a b=a):=by show _=_;rw[asT,h];rfl
  go_enter Tryz.func122,Tryz.ntmps122
  go_wp2
  go_ret
  exact⟨za2 j.out.symm,rfl⟩
 |false=>
  have j:Hid (asT a b=a++({data:=#[32,97,115,32]}:ByteArray)++b):=by show _=_;rw[asT,h];rfl
  go_enter Tryz.func122,Tryz.ntmps122
  go_wp2
  go_ret
  exact⟨za2 j.out.symm,rfl⟩
theorem zfS (s:ByteArray) (w:World) (o:s.size≤1099511627776):Calls Tryz.prog 62 #[.string s] w fun e j=>e= .returned (.string (zat s))∧j=w:=by
 have n:Hid (zat s=({data:=#[34]}:ByteArray)++s++({data:=#[34]}:ByteArray)):=rfl
 go_enter Tryz.func62,Tryz.ntmps62
 go_wp2
 go_ret
 exact⟨za2 n.out.symm,rfl⟩
theorem zhu (s:ByteArray):(zat s).size=s.size+2:=by
 rw[zat,ByteArray.size_append,ByteArray.size_append]
 show 1+s.size+1=_
 omega
theorem zkk (a b:ByteArray):(asT a b).size≤a.size+b.size+4:=by
 unfold asT
 split
 ·omega
 ·rw[ByteArray.size_append,ByteArray.size_append]
  show a.size+4+b.size≤_
  omega
theorem zru (x:Im) (w:World) (h1:x.spec.size≤4294967296) (h2:x.first.size≤4294967296) (h3:x.loc.size≤4294967296):Calls Tryz.prog 63 #[imV x] w fun e K=>e= .returned (.string (zZ x))∧Below w.heap.size w K:=by
 obtain⟨U,q⟩: ∃t,zat x.spec=t:=⟨_,rfl⟩
 obtain⟨at',hat⟩: ∃t,asT x.first x.loc=t:=⟨_,rfl⟩
 have O:=zhu x.spec
 have ha:=zkk x.first x.loc
 rw[q] at O
 rw[hat] at ha
 have ab:U.size≤8589934592:=by omega
 have aa:at'.size≤17179869184:=by omega
 have M:=zc q
 have AT:=zc hat
 have J: ∀d A,Calls Tryz.prog 62 #[.string x.spec] (grow (redrawn (w.alloc (.cells #[.string x.spec,.string x.first,.string x.loc] 100)) d) A) fun e z=>e= .returned (.string U)∧∃p:Regrown,z=grow (redrawn (w.alloc (.cells #[.string x.spec,.string x.first,.string x.loc] 100)) p.d) p.os:=fun d A=>Calls.regrown_of (by rw[←q];exact (zfS x.spec _ (by omega)).mono (by rintro e K ⟨rfl,rfl⟩;exact⟨rfl,Below.refl _ _⟩))
 have I: ∀d A,Calls Tryz.prog 122 #[.string x.first,.string x.loc] (grow (redrawn (w.alloc (.cells #[.string x.spec,.string x.first,.string x.loc] 100)) d) A) fun e z=>e= .returned (.string at')∧∃p:Regrown,z=grow (redrawn (w.alloc (.cells #[.string x.spec,.string x.first,.string x.loc] 100)) p.d) p.os:=fun d A=>Calls.regrown_of (by rw[←hat];exact (zht x.first x.loc _ (by omega) (by omega)).mono (by rintro e K ⟨rfl,rfl⟩;exact⟨rfl,Below.refl _ _⟩))
 have X:=zc (zb2 (heap_alloc_new w (.cells #[.string x.spec,.string x.first,.string x.loc] 100)))
 clear q hat O ha
 unfold imV
 cases L:(x.first.toList==[42]) with
 |true=>
  have H:Hid (zZ x=({data:=#[105,109,112,111,114,116,32,42,32,97,115,32]}:ByteArray)++x.loc++({data:=#[32,102,114,111,109,32]}:ByteArray)++zat x.spec++({data:=#[59,10]}:ByteArray)):=by show _=_;rw[zZ,L];rfl
  go_enter Tryz.func63,Tryz.ntmps63
  go_wp2_with fail
  have Z:=cell_regrown X.out.1
  have Q:=cell_regrown X.out.2.1
  have Y:=cell_regrown X.out.2.2.1
  refine wp_region_quiet_below (by kernel_rfl) (by kernel_rfl) ?_
  repeat (go_big_quiet_step (first|with_reducible exact J _ _|with_reducible exact I _ _))
  refine wpQuiet_nil ?_
  intro D n
  obtain⟨⟨N,E⟩,j⟩:=n
  have o:Hid (Below w.heap.size w D):=by show Below _ _ _;rw[j];exact ((Below.refl _ _).alloc (Nat.le_refl _) _).trans ((below_regrown _ _ _).mono (by rw[zk];omega))
  clear j
  go_wp2
  go_ret
  exact⟨za2 (by rw[H.out,M.out]),o.out⟩
 |false=>
  cases V:(x.first.toList==[100,101,102,97,117,108,116]) with
  |true=>
   have H:Hid (zZ x=({data:=#[105,109,112,111,114,116,32]}:ByteArray)++x.loc++({data:=#[32,102,114,111,109,32]}:ByteArray)++zat x.spec++({data:=#[59,10]}:ByteArray)):=by show _=_;rw[zZ,L,V];rfl
   go_enter Tryz.func63,Tryz.ntmps63
   go_wp2_with fail
   have Z:=cell_regrown X.out.1
   have Q:=cell_regrown X.out.2.1
   have Y:=cell_regrown X.out.2.2.1
   refine wp_region_quiet_below (by kernel_rfl) (by kernel_rfl) ?_
   repeat (go_big_quiet_step (first|with_reducible exact J _ _|with_reducible exact I _ _))
   refine wpQuiet_nil ?_
   intro D n
   obtain⟨⟨N,E⟩,j⟩:=n
   have o:Hid (Below w.heap.size w D):=by show Below _ _ _;rw[j];exact ((Below.refl _ _).alloc (Nat.le_refl _) _).trans ((below_regrown _ _ _).mono (by rw[zk];omega))
   clear j
   go_wp2
   go_ret
   exact⟨za2 (by rw[H.out,M.out]),o.out⟩
  |false=>
   have H:Hid (zZ x=({data:=#[105,109,112,111,114,116,32,123,32]}:ByteArray)++asT x.first x.loc++({data:=#[32,125,32,102,114,111,109,32]}:ByteArray)++zat x.spec++({data:=#[59,10]}:ByteArray)):=by show _=_;rw[zZ,L,V];rfl
   go_enter Tryz.func63,Tryz.ntmps63
   go_wp2_with fail
   have Z:=cell_regrown X.out.1
   have Q:=cell_regrown X.out.2.1
   have Y:=cell_regrown X.out.2.2.1
   refine wp_region_quiet_below (by kernel_rfl) (by kernel_rfl) ?_
   repeat (go_big_quiet_step (first|with_reducible exact J _ _|with_reducible exact I _ _))
   refine wpQuiet_nil ?_
   intro D n
   obtain⟨⟨N,E⟩,j⟩:=n
   have o:Hid (Below w.heap.size w D):=by show Below _ _ _;rw[j];exact ((Below.refl _ _).alloc (Nat.le_refl _) _).trans ((below_regrown _ _ _).mono (by rw[zk];omega))
   clear j
   go_wp2
   go_ret
   exact⟨za2 (by rw[H.out,M.out,AT.out]),o.out⟩
theorem zrv (x:Ep) (w:World) (h1:x.spec.size≤4294967296) (h2:x.name.size≤4294967296) (h3:x.loc.size≤4294967296):Calls Tryz.prog 64 #[epV x] w fun e o=>e= .returned (.string (zbi x))∧Below w.heap.size w o:=by
 obtain⟨I,j⟩: ∃t,zat x.spec=t:=⟨_,rfl⟩
 obtain⟨at',hat⟩: ∃t,asT x.loc x.name=t:=⟨_,rfl⟩
 have O:=zhu x.spec
 have V:=zkk x.loc x.name
 rw[j] at O
 rw[hat] at V
 have aa:I.size≤8589934592:=by omega
 have Z:at'.size≤17179869184:=by omega
 have U:=zc j
 have N:=zc hat
 have cQ: ∀d z,Calls Tryz.prog 62 #[.string x.spec] (grow (redrawn (w.alloc (.cells #[.int .i64 x.kind,.string x.name,.string x.loc,.string x.spec] 102)) d) z) fun e q=>e= .returned (.string I)∧∃p:Regrown,q=grow (redrawn (w.alloc (.cells #[.int .i64 x.kind,.string x.name,.string x.loc,.string x.spec] 102)) p.d) p.os:=fun d z=>Calls.regrown_of (by rw[←j];exact (zfS x.spec _ (by omega)).mono (by rintro e o ⟨rfl,rfl⟩;exact⟨rfl,Below.refl _ _⟩))
 have Y: ∀d z,Calls Tryz.prog 122 #[.string x.loc,.string x.name] (grow (redrawn (w.alloc (.cells #[.int .i64 x.kind,.string x.name,.string x.loc,.string x.spec] 102)) d) z) fun e q=>e= .returned (.string at')∧∃p:Regrown,q=grow (redrawn (w.alloc (.cells #[.int .i64 x.kind,.string x.name,.string x.loc,.string x.spec] 102)) p.d) p.os:=fun d z=>Calls.regrown_of (by rw[←hat];exact (zht x.loc x.name _ (by omega) (by omega)).mono (by rintro e o ⟨rfl,rfl⟩;exact⟨rfl,Below.refl _ _⟩))
 have H: ∀w:World,Calls Tryz.prog 62 #[.string x.spec] w fun e o=>e= .returned (.string I)∧o=w:=fun w=>by rw[←j];exact zfS x.spec w (by omega)
 have M: ∀w:World,Calls Tryz.prog 122 #[.string x.loc,.string x.name] w fun e o=>e= .returned (.string at')∧o=w:=fun w=>by rw[←hat];exact zht x.loc x.name w (by omega) (by omega)
 have X:=zc (zdn (heap_alloc_new w (.cells #[.int .i64 x.kind,.string x.name,.string x.loc,.string x.spec] 102)))
 clear j hat O V
 unfold epV
 cases K:(x.kind==3) with
 |true=>
  have E:Hid (zbi x=({data:=#[101,120,112,111,114,116,32,42,32,102,114,111,109,32]}:ByteArray)++zat x.spec++({data:=#[59,10]}:ByteArray)):=by show _=_;rw[zbi,K];rfl
  go_enter Tryz.func64,Tryz.ntmps64
  go_wp2_with fail
  refine (H _).mono ?_
  rintro e A ⟨rfl,D⟩
  rw[D]
  clear D A
  go_wp2
  go_ret
  exact⟨za2 (by rw[E.out,U.out]),(Below.refl _ _).alloc (Nat.le_refl _) _⟩
 |false=>
  cases Q:(x.kind==2) with
  |true=>
   have E:Hid (zbi x=({data:=#[101,120,112,111,114,116,32,123,32]}:ByteArray)++asT x.loc x.name++({data:=#[32,125,32,102,114,111,109,32]}:ByteArray)++zat x.spec++({data:=#[59,10]}:ByteArray)):=by show _=_;rw[zbi,K,Q];rfl
   go_enter Tryz.func64,Tryz.ntmps64
   go_wp2_with fail
   have y0:=cell_regrown X.out.1
   have y1:=cell_regrown X.out.2.1
   have y2:=cell_regrown X.out.2.2.1
   have y3:=cell_regrown X.out.2.2.2.1
   refine wp_region_quiet_below (by kernel_rfl) (by kernel_rfl) ?_
   repeat (go_big_quiet_step (first|with_reducible exact cQ _ _|with_reducible exact Y _ _))
   refine wpQuiet_nil ?_
   intro A J
   obtain⟨⟨dq,ab⟩,n⟩:=J
   have L:Hid (Below w.heap.size w A):=by show Below _ _ _;rw[n];exact ((Below.refl _ _).alloc (Nat.le_refl _) _).trans ((below_regrown _ _ _).mono (by rw[zk];omega))
   clear n
   go_wp2
   go_ret
   exact⟨za2 (by rw[E.out,U.out,N.out]),L.out⟩
  |false=>
   have E:Hid (zbi x=({data:=#[101,120,112,111,114,116,32,123,32]}:ByteArray)++asT x.loc x.name++({data:=#[32,125,59,10]}:ByteArray)):=by show _=_;rw[zbi,K,Q];rfl
   go_enter Tryz.func64,Tryz.ntmps64
   go_wp2_with fail
   refine (M _).mono ?_
   rintro e A ⟨rfl,D⟩
   rw[D]
   clear D A
   go_wp2
   go_ret
   exact⟨za2 (by rw[E.out,N.out]),(Below.refl _ _).alloc (Nat.le_refl _) _⟩
theorem zrw (j:Nat) (S:Sv) (m:Md) (k:Int) (n:ByteArray) (i:Nat) (w:World) (h:OwnMd w j S m) (J:i<m.ex.length) (K:zbB m.ex) (O:zbn m.ex) (D:wt m.ex i≤1099511627776) (_:n.size≤4294967296) (N:(k==1)=true) (H:(n.toList==[42,100,101,102,97,117,108,116])=true):
  Calls Tryz.prog 65 #[zp S m,.agg #[.int .i64 k,.string n,.int .i64 (i:Int)]] w fun e V=>e= .returned (.string (zaz k n (prX m.ex i)))∧Below w.heap.size w V:=by
 have I:=zc h
 have Q:Hid (zaz k n (prX m.ex i)=({data:=#[101,120,112,111,114,116,32,100,101,102,97,117,108,116,32]}:ByteArray)++prX m.ex i++({data:=#[59,10]}:ByteArray)):=by show _=_;rw[zaz,N,H];rfl
 have o:=D
 unfold wt at o
 have U:=zc (And.intro (zck (o':=.cells #[.int .i64 k,.string n,.int .i64 (i:Int)] 106) (heap_alloc_new w (.cells #[.slice S.rq.a m.rq.length S.rq.cap,.slice S.im.a m.im.length S.im.cap,.slice S.ep.a m.ep.length S.ep.cap,.slice S.st.a m.st.length S.st.cap,.slice S.ex.a m.ex.length S.ex.cap] 28))) (zbq w (.cells #[.slice S.rq.a m.rq.length S.rq.cap,.slice S.im.a m.im.length S.im.cap,.slice S.ep.a m.ep.length S.ep.cap,.slice S.st.a m.st.length S.st.cap,.slice S.ex.a m.ex.length S.ex.cap] 28) (.cells #[.int .i64 k,.string n,.int .i64 (i:Int)] 106)))
 clear h
 unfold zp
 go_enter Tryz.func65,Tryz.ntmps65
 go_wp2_with fail
 refine (zdL j S m i _ K O J ((I.out.alloc _).alloc _) D).mono ?_
 rintro e E ⟨rfl,z⟩
 have L:Hid (Below w.heap.size w E):=(zaT w _ _).trans (z.mono (by rw[zk,zk];omega))
 have q:=zc ((z.block _ (by rw[zk,zk];omega)).trans U.out.2)
 obtain⟨c0,Z,X,Y⟩:=zb2 q.out
 clear z
 obtain⟨t,A⟩: ∃t,prX m.ex i=t:=⟨_,rfl⟩
 rw[A] at o ⊢
 have M:=zc A
 clear A
 go_wp2
 go_ret
 exact⟨za2 (by rw[Q.out,M.out]),L.out⟩
theorem zrx (j:Nat) (S:Sv) (m:Md) (k:Int) (n:ByteArray) (i:Nat) (w:World) (h:OwnMd w j S m) (J:i<m.ex.length) (K:zbB m.ex) (O:zbn m.ex) (D:wt m.ex i≤1099511627776) (hs:n.size≤4294967296) (N:(k==1)=true) (H:(n.toList==[42,100,101,102,97,117,108,116])=false):
  Calls Tryz.prog 65 #[zp S m,.agg #[.int .i64 k,.string n,.int .i64 (i:Int)]] w fun e V=>e= .returned (.string (zaz k n (prX m.ex i)))∧Below w.heap.size w V:=by
 have I:=zc h
 have Q:Hid (zaz k n (prX m.ex i)=({data:=#[108,101,116,32]}:ByteArray)++n++({data:=#[32,61,32]}:ByteArray)++prX m.ex i++({data:=#[59,10]}:ByteArray)):=by show _=_;rw[zaz,N,H];rfl
 have o:=D
 unfold wt at o
 have U:=zc (And.intro (zck (o':=.cells #[.int .i64 k,.string n,.int .i64 (i:Int)] 106) (heap_alloc_new w (.cells #[.slice S.rq.a m.rq.length S.rq.cap,.slice S.im.a m.im.length S.im.cap,.slice S.ep.a m.ep.length S.ep.cap,.slice S.st.a m.st.length S.st.cap,.slice S.ex.a m.ex.length S.ex.cap] 28))) (zbq w (.cells #[.slice S.rq.a m.rq.length S.rq.cap,.slice S.im.a m.im.length S.im.cap,.slice S.ep.a m.ep.length S.ep.cap,.slice S.st.a m.st.length S.st.cap,.slice S.ex.a m.ex.length S.ex.cap] 28) (.cells #[.int .i64 k,.string n,.int .i64 (i:Int)] 106)))
 clear h
 unfold zp
 go_enter Tryz.func65,Tryz.ntmps65
 go_wp2_with fail
 refine (zdL j S m i _ K O J ((I.out.alloc _).alloc _) D).mono ?_
 rintro e E ⟨rfl,z⟩
 have L:Hid (Below w.heap.size w E):=(zaT w _ _).trans (z.mono (by rw[zk,zk];omega))
 have q:=zc ((z.block _ (by rw[zk,zk];omega)).trans U.out.2)
 obtain⟨c0,Z,X,Y⟩:=zb2 q.out
 clear z
 obtain⟨t,A⟩: ∃t,prX m.ex i=t:=⟨_,rfl⟩
 rw[A] at o ⊢
 have M:=zc A
 clear A
 go_wp2
 go_ret
 exact⟨za2 (by rw[Q.out,M.out]),L.out⟩
theorem zry (j:Nat) (S:Sv) (m:Md) (k:Int) (n:ByteArray) (i:Nat) (w:World) (h:OwnMd w j S m) (J:i<m.ex.length) (K:zbB m.ex) (O:zbn m.ex) (D:wt m.ex i≤1099511627776) (hs:n.size≤4294967296) (N:(k==1)=false) (H:(k==2)=true):
  Calls Tryz.prog 65 #[zp S m,.agg #[.int .i64 k,.string n,.int .i64 (i:Int)]] w fun e V=>e= .returned (.string (zaz k n (prX m.ex i)))∧Below w.heap.size w V:=by
 have I:=zc h
 have Q:Hid (zaz k n (prX m.ex i)=({data:=#[102,117,110,99,116,105,111,110,32]}:ByteArray)++n++({data:=#[40,41,32,123,32,114,101,116,117,114,110,32]}:ByteArray)++prX m.ex i++({data:=#[59,32,125,10]}:ByteArray)):=by show _=_;rw[zaz,N,H];rfl
 have o:=D
 unfold wt at o
 have U:=zc (And.intro (zck (o':=.cells #[.int .i64 k,.string n,.int .i64 (i:Int)] 106) (heap_alloc_new w (.cells #[.slice S.rq.a m.rq.length S.rq.cap,.slice S.im.a m.im.length S.im.cap,.slice S.ep.a m.ep.length S.ep.cap,.slice S.st.a m.st.length S.st.cap,.slice S.ex.a m.ex.length S.ex.cap] 28))) (zbq w (.cells #[.slice S.rq.a m.rq.length S.rq.cap,.slice S.im.a m.im.length S.im.cap,.slice S.ep.a m.ep.length S.ep.cap,.slice S.st.a m.st.length S.st.cap,.slice S.ex.a m.ex.length S.ex.cap] 28) (.cells #[.int .i64 k,.string n,.int .i64 (i:Int)] 106)))
 clear h
 unfold zp
 go_enter Tryz.func65,Tryz.ntmps65
 go_wp2_with fail
 refine (zdL j S m i _ K O J ((I.out.alloc _).alloc _) D).mono ?_
 rintro e E ⟨rfl,z⟩
 have L:Hid (Below w.heap.size w E):=(zaT w _ _).trans (z.mono (by rw[zk,zk];omega))
 have q:=zc ((z.block _ (by rw[zk,zk];omega)).trans U.out.2)
 obtain⟨c0,Z,X,Y⟩:=zb2 q.out
 clear z
 obtain⟨t,A⟩: ∃t,prX m.ex i=t:=⟨_,rfl⟩
 rw[A] at o ⊢
 have M:=zc A
 clear A
 go_wp2
 go_ret
 exact⟨za2 (by rw[Q.out,M.out]),L.out⟩
theorem zrz (j:Nat) (S:Sv) (m:Md) (k:Int) (n:ByteArray) (i:Nat) (w:World) (h:OwnMd w j S m) (K:i<m.ex.length) (L:zbB m.ex) (Q:zbn m.ex) (D:wt m.ex i≤1099511627776) (hs:n.size≤4294967296) (O:(k==1)=false) (I:(k==2)=false) (E:(k==3)=true):
  Calls Tryz.prog 65 #[zp S m,.agg #[.int .i64 k,.string n,.int .i64 (i:Int)]] w fun e X=>e= .returned (.string (zaz k n (prX m.ex i)))∧Below w.heap.size w X:=by
 have J:=zc h
 have U:Hid (zaz k n (prX m.ex i)=n++({data:=#[32,61,32]}:ByteArray)++prX m.ex i++({data:=#[59,10]}:ByteArray)):=by show _=_;rw[zaz,O,I,E];rfl
 have o:=D
 unfold wt at o
 have V:=zc (And.intro (zck (o':=.cells #[.int .i64 k,.string n,.int .i64 (i:Int)] 106) (heap_alloc_new w (.cells #[.slice S.rq.a m.rq.length S.rq.cap,.slice S.im.a m.im.length S.im.cap,.slice S.ep.a m.ep.length S.ep.cap,.slice S.st.a m.st.length S.st.cap,.slice S.ex.a m.ex.length S.ex.cap] 28))) (zbq w (.cells #[.slice S.rq.a m.rq.length S.rq.cap,.slice S.im.a m.im.length S.im.cap,.slice S.ep.a m.ep.length S.ep.cap,.slice S.st.a m.st.length S.st.cap,.slice S.ex.a m.ex.length S.ex.cap] 28) (.cells #[.int .i64 k,.string n,.int .i64 (i:Int)] 106)))
 clear h
 unfold zp
 go_enter Tryz.func65,Tryz.ntmps65
 go_wp2_with fail
 refine (zdL j S m i _ L Q K ((J.out.alloc _).alloc _) D).mono ?_
 rintro e H ⟨rfl,z⟩
 have M:Hid (Below w.heap.size w H):=(zaT w _ _).trans (z.mono (by rw[zk,zk];omega))
 have q:=zc ((z.block _ (by rw[zk,zk];omega)).trans V.out.2)
 obtain⟨c0,c1,Y,Z⟩:=zb2 q.out
 clear z
 obtain⟨t,A⟩: ∃t,prX m.ex i=t:=⟨_,rfl⟩
 rw[A] at o ⊢
 have N:=zc A
 clear A
 go_wp2
 go_ret
 exact⟨za2 (by rw[U.out,N.out]),M.out⟩
theorem zr0 (j:Nat) (S:Sv) (m:Md) (k:Int) (n:ByteArray) (i:Nat) (w:World) (h:OwnMd w j S m) (K:i<m.ex.length) (L:zbB m.ex) (Q:zbn m.ex) (D:wt m.ex i≤1099511627776) (_:n.size≤4294967296) (O:(k==1)=false) (I:(k==2)=false) (E:(k==3)=false) (U:(k==4)=true):
  Calls Tryz.prog 65 #[zp S m,.agg #[.int .i64 k,.string n,.int .i64 (i:Int)]] w fun e Y=>e= .returned (.string (zaz k n (prX m.ex i)))∧Below w.heap.size w Y:=by
 have J:=zc h
 have V:Hid (zaz k n (prX m.ex i)=({data:=#[112,114,105,110,116,40]}:ByteArray)++prX m.ex i++({data:=#[41,59,10]}:ByteArray)):=by show _=_;rw[zaz,O,I,E,U];rfl
 have o:=D
 unfold wt at o
 have X:=zc (And.intro (zck (o':=.cells #[.int .i64 k,.string n,.int .i64 (i:Int)] 106) (heap_alloc_new w (.cells #[.slice S.rq.a m.rq.length S.rq.cap,.slice S.im.a m.im.length S.im.cap,.slice S.ep.a m.ep.length S.ep.cap,.slice S.st.a m.st.length S.st.cap,.slice S.ex.a m.ex.length S.ex.cap] 28))) (zbq w (.cells #[.slice S.rq.a m.rq.length S.rq.cap,.slice S.im.a m.im.length S.im.cap,.slice S.ep.a m.ep.length S.ep.cap,.slice S.st.a m.st.length S.st.cap,.slice S.ex.a m.ex.length S.ex.cap] 28) (.cells #[.int .i64 k,.string n,.int .i64 (i:Int)] 106)))
 clear h
 unfold zp
 go_enter Tryz.func65,Tryz.ntmps65
 go_wp2_with fail
 refine (zdL j S m i _ L Q K ((J.out.alloc _).alloc _) D).mono ?_
 rintro e H ⟨rfl,z⟩
 have M:Hid (Below w.heap.size w H):=(zaT w _ _).trans (z.mono (by rw[zk,zk];omega))
 have q:=zc ((z.block _ (by rw[zk,zk];omega)).trans X.out.2)
 obtain⟨c0,c1,Z,cf⟩:=zb2 q.out
 clear z
 obtain⟨t,A⟩: ∃t,prX m.ex i=t:=⟨_,rfl⟩
 rw[A] at o ⊢
 have N:=zc A
 clear A
 go_wp2
 go_ret
 exact⟨za2 (by rw[V.out,N.out]),M.out⟩
theorem zr1 (j:Nat) (S:Sv) (m:Md) (k:Int) (n:ByteArray) (i:Nat) (w:World) (h:OwnMd w j S m) (L:i<m.ex.length) (M:zbB m.ex) (U:zbn m.ex) (D:wt m.ex i≤1099511627776) (_:n.size≤4294967296) (Z:(k==1)=false) (J:(k==2)=false) (E:(k==3)=false) (V:(k==4)=false) (O:(k==5)=true):
  Calls Tryz.prog 65 #[zp S m,.agg #[.int .i64 k,.string n,.int .i64 (i:Int)]] w fun e I=>e= .returned (.string (zaz k n (prX m.ex i)))∧Below w.heap.size w I:=by
 have K:=zc h
 have X:Hid (zaz k n (prX m.ex i)=({data:=#[116,104,114,111,119,32]}:ByteArray)++prX m.ex i++({data:=#[59,10]}:ByteArray)):=by show _=_;rw[zaz,Z,J,E,V,O];rfl
 have o:=D
 unfold wt at o
 have Y:=zc (And.intro (zck (o':=.cells #[.int .i64 k,.string n,.int .i64 (i:Int)] 106) (heap_alloc_new w (.cells #[.slice S.rq.a m.rq.length S.rq.cap,.slice S.im.a m.im.length S.im.cap,.slice S.ep.a m.ep.length S.ep.cap,.slice S.st.a m.st.length S.st.cap,.slice S.ex.a m.ex.length S.ex.cap] 28))) (zbq w (.cells #[.slice S.rq.a m.rq.length S.rq.cap,.slice S.im.a m.im.length S.im.cap,.slice S.ep.a m.ep.length S.ep.cap,.slice S.st.a m.st.length S.st.cap,.slice S.ex.a m.ex.length S.ex.cap] 28) (.cells #[.int .i64 k,.string n,.int .i64 (i:Int)] 106)))
 clear h
 unfold zp
 go_enter Tryz.func65,Tryz.ntmps65
 go_wp2_with fail
 refine (zdL j S m i _ M U L ((K.out.alloc _).alloc _) D).mono ?_
 rintro e H ⟨rfl,z⟩
 have N:Hid (Below w.heap.size w H):=(zaT w _ _).trans (z.mono (by rw[zk,zk];omega))
 have q:=zc ((z.block _ (by rw[zk,zk];omega)).trans Y.out.2)
 obtain⟨c0,c1,c2,cf⟩:=zb2 q.out
 clear z
 obtain⟨t,A⟩: ∃t,prX m.ex i=t:=⟨_,rfl⟩
 rw[A] at o ⊢
 have Q:=zc A
 clear A
 go_wp2
 go_ret
 exact⟨za2 (by rw[X.out,Q.out]),N.out⟩
theorem zr2 (j:Nat) (S:Sv) (m:Md) (k:Int) (n:ByteArray) (i:Nat) (w:World) (h:OwnMd w j S m) (L:i<m.ex.length) (M:zbB m.ex) (U:zbn m.ex) (D:wt m.ex i≤1099511627776) (_:n.size≤4294967296) (Z:(k==1)=false) (J:(k==2)=false) (E:(k==3)=false) (V:(k==4)=false) (O:(k==5)=false):
  Calls Tryz.prog 65 #[zp S m,.agg #[.int .i64 k,.string n,.int .i64 (i:Int)]] w fun e I=>e= .returned (.string (zaz k n (prX m.ex i)))∧Below w.heap.size w I:=by
 have K:=zc h
 have X:Hid (zaz k n (prX m.ex i)=({data:=#[102,97,105,108,32]}:ByteArray)++prX m.ex i++({data:=#[59,10]}:ByteArray)):=by show _=_;rw[zaz,Z,J,E,V,O];rfl
 have o:=D
 unfold wt at o
 have Y:=zc (And.intro (zck (o':=.cells #[.int .i64 k,.string n,.int .i64 (i:Int)] 106) (heap_alloc_new w (.cells #[.slice S.rq.a m.rq.length S.rq.cap,.slice S.im.a m.im.length S.im.cap,.slice S.ep.a m.ep.length S.ep.cap,.slice S.st.a m.st.length S.st.cap,.slice S.ex.a m.ex.length S.ex.cap] 28))) (zbq w (.cells #[.slice S.rq.a m.rq.length S.rq.cap,.slice S.im.a m.im.length S.im.cap,.slice S.ep.a m.ep.length S.ep.cap,.slice S.st.a m.st.length S.st.cap,.slice S.ex.a m.ex.length S.ex.cap] 28) (.cells #[.int .i64 k,.string n,.int .i64 (i:Int)] 106)))
 clear h
 unfold zp
 go_enter Tryz.func65,Tryz.ntmps65
 go_wp2_with fail
 refine (zdL j S m i _ M U L ((K.out.alloc _).alloc _) D).mono ?_
 rintro e H ⟨rfl,z⟩
 have N:Hid (Below w.heap.size w H):=(zaT w _ _).trans (z.mono (by rw[zk,zk];omega))
 have q:=zc ((z.block _ (by rw[zk,zk];omega)).trans Y.out.2)
 obtain⟨c0,c1,c2,cf⟩:=zb2 q.out
 clear z
 obtain⟨t,A⟩: ∃t,prX m.ex i=t:=⟨_,rfl⟩
 rw[A] at o ⊢
 have Q:=zc A
 clear A
 go_wp2
 go_ret
 exact⟨za2 (by rw[X.out,Q.out]),N.out⟩
theorem zr3 (j:Nat) (S:Sv) (m:Md) (k:Int) (n:ByteArray) (i:Nat) (w:World) (h:OwnMd w j S m) (o:i<m.ex.length) (z:zbB m.ex) (A:zbn m.ex) (E:wt m.ex i≤1099511627776) (q:n.size≤4294967296):
  Calls Tryz.prog 65 #[zp S m,.agg #[.int .i64 k,.string n,.int .i64 (i:Int)]] w fun e M=>e= .returned (.string (zaz k n (prX m.ex i)))∧Below w.heap.size w M:=by
 cases D:(k==1) with
 |true=>
  cases L:(n.toList==[42,100,101,102,97,117,108,116]) with
  |true=>exact zrw j S m k n i w h o z A E q D L
  |false=>exact zrx j S m k n i w h o z A E q D L
 |false=>
  cases H:(k==2) with
  |true=>exact zry j S m k n i w h o z A E q D H
  |false=>
   cases I:(k==3) with
   |true=>exact zrz j S m k n i w h o z A E q D H I
   |false=>
    cases J:(k==4) with
    |true=>exact zr0 j S m k n i w h o z A E q D H I J
    |false=>
     cases K:(k==5) with
     |true=>exact zr1 j S m k n i w h o z A E q D H I J K
     |false=>exact zr2 j S m k n i w h o z A E q D H I J K
theorem zfT {α:Type} {l:List α} {j:Nat} (h:j<l.length): ∃x,l[j]? =some x:=⟨_,List.getElem?_eq_getElem h⟩
theorem zr4 (t:ByteArray):t++sNone=t:=by
 cases t with
 |mk d=>
  show ByteArray.append _ _=_
  simp[ByteArray.append]
theorem zr5 (m:Md):(acc (stF m.ex) m.st (zbI m)).size≤(zbJ m).size:=Nat.le_refl _
theorem zkl (m:Md):(acc epF m.ep (acc zZ m.im (acc rqT m.rq sNone))).size≤(zbJ m).size:=zdD _ _ _
theorem zkm (m:Md):(acc zZ m.im (acc rqT m.rq sNone)).size≤(zbJ m).size:=Nat.le_trans (zdD _ _ _) (zkl m)
theorem zr6 (m:Md):(acc rqT m.rq sNone).size≤(zbJ m).size:=Nat.le_trans (zdD _ _ _) (zkm m)
theorem zr7 (k:Int) (n e:ByteArray):e.size≤(zaz k n e).size:=by
 unfold zaz
 repeat (first|split|(simp only[ByteArray.size_append];omega))
theorem zkn (K:Nat) (S:Sv) (m:Md) (au:Bool) (w:World) (h:OwnMd w K S m) (hm:Small m) (ak:Tree m→(zbJ m).size≤1099511627776):
  Calls Tryz.prog 18 #[zp S m,.bool au] w fun e w'=>PrintOut (zbJ m) m e∧Below w.heap.size w w':=by
 have HH:=zc h
 have SM:=zc hm
 have HU:=zc ak
 obtain⟨f1,f2,f3,f4,f5⟩:=hm.few
 clear h hm ak
 unfold zp
 go_enter Tryz.func18,Tryz.ntmps18
 go_wp2_with fail
 refine (zoY K S m _ (HH.out.alloc _) f5 f4).mono ?_
 rintro e w1 ⟨⟨b,rfl,D⟩,ah⟩
 have HT:=zc D
 have ag:Hid (Below w.heap.size w w1):=((Below.refl _ _).alloc (Nat.le_refl _) _).trans (ah.mono (by rw[zk];omega))
 have aj:Hid (w1.heap[w.heap.size]? =some (.cells #[.slice S.rq.a m.rq.length S.rq.cap,.slice S.im.a m.im.length S.im.cap,.slice S.ep.a m.ep.length S.ep.cap,.slice S.st.a m.st.length S.st.cap,.slice S.ex.a m.ex.length S.ex.cap] 28 (0,0))):=(ah.block _ (by rw[zk];omega)).trans (heap_alloc_new w _)
 have ax:=zc (HH.out.later ag.out)
 clear D ah
 obtain⟨c0,c1,c2,c3,c4,cf⟩:=zl aj.out
 cases b with
 |false=>
  go_wp2
  go_ret
  exact⟨.inr ⟨(fun t=>by have:=HT.out.2 t;cases this),rfl⟩,ag.out⟩
 |true=>
  have TR:=zc (HT.out.1 rfl)
  have HZ:=zc (HU.out TR.out)
  go_wp2
  go_loopg [5,6] m.rq.length (fun k t i wr=>∃(j:Nat) (tx:ByteArray),i= .int .i64 j∧t= .string tx∧j+k=m.rq.length∧tx=acc rqT (m.rq.take j) sNone∧OwnMd wr K S m∧wr.heap[w.heap.size]? =some (.cells #[.slice S.rq.a m.rq.length S.rq.cap,.slice S.im.a m.im.length S.im.cap,.slice S.ep.a m.ep.length S.ep.cap,.slice S.st.a m.st.length S.st.cap,.slice S.ex.a m.ex.length S.ex.cap] 28 (0,0))∧Below w.heap.size w wr)
  case atStart=>exact⟨0,_,rfl,rfl,by omega,rfl,ax.out,aj.out,ag.out⟩
  case round=>
   obtain⟨j,tx,rfl,rfl,hj,J,ho,hx,D⟩:=hrel
   have n:=zc J
   have Q:=zc ho
   have N:=zc hx
   have V:=zc D
   clear J ho hx D c0 c1 c2 c3 c4 cf
   obtain⟨c0,c1,c2,c3,c4,cf⟩:=zl N.out
   have Y:=(Array.getElem?_eq_some_iff.1 N.out).1
   by_cases O:j<m.rq.length
   ·have L:(j:Int)<(m.rq.length:Int):=by omega
    obtain⟨x,q⟩:=zfT O
    have z:=List.mem_of_getElem? q
    have Z:=zc (zbY rqT q sNone)
    have o:=zdr rqT m.rq (j+1) sNone
    rw[Z.out,←n.out,ByteArray.size_append] at o
    have E:(acc rqT m.rq sNone).size≤1099511627776:=Nat.le_trans (zr6 m) HZ.out
    obtain⟨M,I⟩: ∃M,M=j+1:=⟨_,rfl⟩
    have ej:(j:Int)+1=(M:Int):=by omega
    have HJ:=zc I
    clear I
    have ai:tx.size≤1099511627776:=by omega
    obtain⟨g,X,hc⟩:=Q.out.rq.text O
    rw[X] at c0
    have ao:m.rq.getD j sNone=x:=by rw[List.getD,q];rfl
    rw[ao] at hc
    clear X ao
    have aA:=SM.out.rq x z
    obtain⟨qt,af⟩: ∃t,zat x=t:=⟨_,rfl⟩
    have al:=zhu x
    rw[af] at al
    have aB:qt.size≤8589934592:=by omega
    have QT:=zc af
    clear af al o E q z
    go_wp2_with fail
    refine (zfS x _ (by omega)).mono ?_
    rintro e w2 ⟨rfl,hw⟩
    rw[hw,QT.out]
    clear hw w2
    go_wp2
    go_roundg (gk-1)
    case rel=>exact⟨M,_,rfl,rfl,by have:=HJ.out;omega,by rw[HJ.out,Z.out,←n.out,rqT,QT.out,ByteArray.append_assoc,ByteArray.append_assoc,ByteArray.append_assoc],Q.out,N.out,V.out⟩
    case measure=>omega
   ·have L: ¬(j:Int)<(m.rq.length:Int):=by omega
    have U:Hid (tx=acc rqT m.rq sNone):=by show tx=_;rw[n.out,List.take_of_length_le (by omega)]
    clear n
    go_wp2
    go_loopg [5,7] m.im.length (fun k t i wr=>∃(j:Nat) (tx:ByteArray),i= .int .i64 j∧t= .string tx∧j+k=m.im.length∧tx=acc zZ (m.im.take j) (acc rqT m.rq sNone)∧OwnMd wr K S m∧wr.heap[w.heap.size]? =some (.cells #[.slice S.rq.a m.rq.length S.rq.cap,.slice S.im.a m.im.length S.im.cap,.slice S.ep.a m.ep.length S.ep.cap,.slice S.st.a m.st.length S.st.cap,.slice S.ex.a m.ex.length S.ex.cap] 28 (0,0))∧Below w.heap.size w wr)
    case atStart=>exact⟨0,_,rfl,rfl,by omega,U.out,Q.out,N.out,V.out⟩
    case round=>
     obtain⟨j,tx,rfl,rfl,hj,J,ho,hx,D⟩:=hrel
     have n:=zc J
     have Q:=zc ho
     have N:=zc hx
     have V:=zc D
     clear J ho hx D c0 c1 c2 c3 c4 cf
     obtain⟨c0,c1,c2,c3,c4,cf⟩:=zl N.out
     have Y:=(Array.getElem?_eq_some_iff.1 N.out).1
     by_cases O:j<m.im.length
     ·have L:(j:Int)<(m.im.length:Int):=by omega
      obtain⟨x,q⟩:=zfT O
      have z:=List.mem_of_getElem? q
      have Z:=zc (zbY zZ q (acc rqT m.rq sNone))
      have o:=zdr zZ m.im (j+1) (acc rqT m.rq sNone)
      rw[Z.out,←n.out,ByteArray.size_append] at o
      have E:(acc zZ m.im (acc rqT m.rq sNone)).size≤1099511627776:=Nat.le_trans (zkm m) HZ.out
      obtain⟨M,I⟩: ∃M,M=j+1:=⟨_,rfl⟩
      have ej:(j:Int)+1=(M:Int):=by omega
      have HJ:=zc I
      clear I
      have ai:tx.size≤1099511627776:=by omega
      obtain⟨g,X,A⟩:=OwnR.elem (f:=imL) (m:=3) (fun _=>rfl) Q.out.im q
      rw[X] at c1
      have k0:=A 0 (by omega)
      have k1:=A 1 (by omega)
      have k2:=A 2 (by omega)
      simp only[imL,Nat.add_zero,List.getElem?_cons_zero,List.getElem?_cons_succ] at k0 k1 k2
      obtain⟨z1,z2,z3⟩:=SM.out.im x z
      clear X A q z
      obtain⟨pt,H⟩: ∃t,zZ x=t:=⟨_,rfl⟩
      have an:pt.size≤1099511627776:=by rw[←H];omega
      have PT:=zc H
      clear H o E
      go_wp2_with fail
      refine (zru x _ z1 z2 z3).mono ?_
      rintro e w2 ⟨rfl,D⟩
      rw[PT.out]
      have ac:=zc (Q.out.later D)
      have aa:=zc ((D.block _ Y).trans N.out)
      have ab:=zc (V.out.trans (D.mono V.out.size))
      clear D
      go_wp2
      go_roundg (gk-1)
      case rel=>exact⟨M,_,rfl,rfl,by have:=HJ.out;omega,by rw[HJ.out,Z.out,←n.out,PT.out],ac.out,aa.out,ab.out⟩
      case measure=>omega
     ·have L: ¬(j:Int)<(m.im.length:Int):=by omega
      have U:Hid (tx=acc zZ m.im (acc rqT m.rq sNone)):=by show tx=_;rw[n.out,List.take_of_length_le (by omega)]
      clear n
      go_wp2
      go_loopg [5,8] m.ep.length (fun k t i wr=>∃(j:Nat) (tx:ByteArray),i= .int .i64 j∧t= .string tx∧j+k=m.ep.length∧tx=acc epF (m.ep.take j) (acc zZ m.im (acc rqT m.rq sNone))∧OwnMd wr K S m∧wr.heap[w.heap.size]? =some (.cells #[.slice S.rq.a m.rq.length S.rq.cap,.slice S.im.a m.im.length S.im.cap,.slice S.ep.a m.ep.length S.ep.cap,.slice S.st.a m.st.length S.st.cap,.slice S.ex.a m.ex.length S.ex.cap] 28 (0,0))∧Below w.heap.size w wr)
      case atStart=>exact⟨0,_,rfl,rfl,by omega,U.out,Q.out,N.out,V.out⟩
      case round=>
       obtain⟨j,tx,rfl,rfl,hj,J,ho,hx,D⟩:=hrel
       have n:=zc J
       have Q:=zc ho
       have N:=zc hx
       have V:=zc D
       clear J ho hx D c0 c1 c2 c3 c4 cf
       obtain⟨c0,c1,c2,c3,c4,cf⟩:=zl N.out
       have Y:=(Array.getElem?_eq_some_iff.1 N.out).1
       by_cases O:j<m.ep.length
       ·have L:(j:Int)<(m.ep.length:Int):=by omega
        obtain⟨x,q⟩:=zfT O
        have z:=List.mem_of_getElem? q
        have Z:=zc (zbY epF q (acc zZ m.im (acc rqT m.rq sNone)))
        have o:=zdr epF m.ep (j+1) (acc zZ m.im (acc rqT m.rq sNone))
        rw[Z.out,←n.out,ByteArray.size_append] at o
        have E:(acc epF m.ep (acc zZ m.im (acc rqT m.rq sNone))).size≤1099511627776:=Nat.le_trans (zkl m) HZ.out
        obtain⟨M,I⟩: ∃M,M=j+1:=⟨_,rfl⟩
        have ej:(j:Int)+1=(M:Int):=by omega
        have HJ:=zc I
        clear I
        have ai:tx.size≤1099511627776:=by omega
        obtain⟨g,X,A⟩:=OwnR.elem (f:=epL) (m:=4) (fun _=>rfl) Q.out.ep q
        rw[X] at c2
        have k0:=A 0 (by omega)
        have k1:=A 1 (by omega)
        have k2:=A 2 (by omega)
        have k3:=A 3 (by omega)
        simp only[epL,Nat.add_zero,List.getElem?_cons_zero,List.getElem?_cons_succ] at k0 k1 k2 k3
        obtain⟨z1,z2,z3⟩:=SM.out.ep x z
        clear X A q z
        cases hd:(x.loc.toList==[42,100,101,102,97,117,108,116]) with
        |true=>
         clear o E
         go_wp2
         go_roundg (gk-1)
         case rel=>exact⟨M,_,rfl,rfl,by have:=HJ.out;omega,by rw[HJ.out,Z.out,←n.out,epF,hd];show tx=tx++sNone;rw[zr4],Q.out,N.out,V.out⟩
         case measure=>omega
        |false=>
         obtain⟨pt,H⟩: ∃t,zbi x=t:=⟨_,rfl⟩
         have an:pt.size≤1099511627776:=by rw[←H,←show epF x=zbi x from (by rw[epF,hd];rfl)];omega
         have PT:=zc H
         clear H o E
         go_wp2_with fail
         refine (zrv x _ z1 z2 z3).mono ?_
         rintro e w2 ⟨rfl,D⟩
         rw[PT.out]
         have ac:=zc (Q.out.later D)
         have aa:=zc ((D.block _ Y).trans N.out)
         have ab:=zc (V.out.trans (D.mono V.out.size))
         clear D
         go_wp2
         go_roundg (gk-1)
         case rel=>exact⟨M,_,rfl,rfl,by have:=HJ.out;omega,by rw[HJ.out,Z.out,←n.out,epF,hd];show _=tx++zbi x;rw[PT.out],ac.out,aa.out,ab.out⟩
         case measure=>omega
       ·have L: ¬(j:Int)<(m.ep.length:Int):=by omega
        have U:Hid (tx=acc epF m.ep (acc zZ m.im (acc rqT m.rq sNone))):=by show tx=_;rw[n.out,List.take_of_length_le (by omega)]
        clear n
        go_wp2
        go_loopg [5,9] m.st.length (fun k t i wr=>∃(j:Nat) (tx:ByteArray),i= .int .i64 j∧t= .string tx∧j+k=m.st.length∧tx=acc (stF m.ex) (m.st.take j) (zbI m)∧OwnMd wr K S m∧wr.heap[w.heap.size]? =some (.cells #[.slice S.rq.a m.rq.length S.rq.cap,.slice S.im.a m.im.length S.im.cap,.slice S.ep.a m.ep.length S.ep.cap,.slice S.st.a m.st.length S.st.cap,.slice S.ex.a m.ex.length S.ex.cap] 28 (0,0))∧Below w.heap.size w wr)
        case atStart=>exact⟨0,_,rfl,rfl,by omega,U.out,Q.out,N.out,V.out⟩
        case round=>
         obtain⟨j,tx,rfl,rfl,hj,J,ho,hx,D⟩:=hrel
         have n:=zc J
         have Q:=zc ho
         have N:=zc hx
         have V:=zc D
         clear J ho hx D c0 c1 c2 c3 c4 cf
         obtain⟨c0,c1,c2,c3,c4,cf⟩:=zl N.out
         have Y:=(Array.getElem?_eq_some_iff.1 N.out).1
         by_cases O:j<m.st.length
         ·have L:(j:Int)<(m.st.length:Int):=by omega
          obtain⟨x,q⟩:=zfT O
          have z:=List.mem_of_getElem? q
          have Z:=zc (zbY (stF m.ex) q (zbI m))
          have o:=zdr (stF m.ex) m.st (j+1) (zbI m)
          rw[Z.out,←n.out,ByteArray.size_append] at o
          have E:(acc (stF m.ex) m.st (zbI m)).size≤1099511627776:=Nat.le_trans (zr5 m) HZ.out
          obtain⟨M,I⟩: ∃M,M=j+1:=⟨_,rfl⟩
          have ej:(j:Int)+1=(M:Int):=by omega
          have HJ:=zc I
          clear I
          have ai:tx.size≤1099511627776:=by omega
          obtain⟨g,X,A⟩:=OwnR.elem (f:=smL) (m:=3) (fun _=>rfl) Q.out.st q
          rw[X] at c3
          have k0:=A 0 (by omega)
          have k1:=A 1 (by omega)
          have k2:=A 2 (by omega)
          simp only[smL,Nat.add_zero,List.getElem?_cons_zero,List.getElem?_cons_succ] at k0 k1 k2
          have z1:=SM.out.st x z
          obtain⟨t1,t2⟩:=TR.out.stm x z
          obtain⟨en,ae⟩: ∃en:Nat,x.expr=(en:Int):=⟨x.expr.toNat,by omega⟩
          obtain⟨pt,H⟩: ∃t,zaz x.kind x.name (prX m.ex en)=t:=⟨_,rfl⟩
          have am:stF m.ex x=pt:=by rw[stF,ae,Int.toNat_natCast,H]
          rw[am] at Z o
          have an:pt.size≤1099511627776:=by omega
          have ar:wt m.ex en≤1099511627776:=by have:=zr7 x.kind x.name (prX m.ex en);rw[H] at this;unfold wt;omega
          rw[ae] at k2
          have HG:=zc X
          have cS: ∀d os,Calls Tryz.prog 65 #[.agg #[.slice S.rq.a m.rq.length S.rq.cap,.slice S.im.a m.im.length S.im.cap,.slice S.ep.a m.ep.length S.ep.cap,.slice (some ⟨g,0,none⟩) m.st.length S.st.cap,.slice S.ex.a m.ex.length S.ex.cap],.agg #[.int .i64 x.kind,.string x.name,.int .i64 (en:Int)]] (grow (redrawn wr d) os) fun e aw=>e= .returned (.string pt)∧∃p:Regrown,aw=grow (redrawn wr p.d) p.os:=fun d os=>Calls.regrown_of (by rw[←H,←X];exact zr3 K S m x.kind x.name en _ (Q.out.later (below_regrown _ d os)) (by omega) SM.out.nums TR.out.ahead ar z1)
          have C0:=zc c0
          have C1:=zc c1
          have C2:=zc c2
          have C3:=zc c3
          have C4:=zc c4
          have K0:=zc k0
          have K1:=zc k1
          have K2:=zc k2
          clear X A q z H am o E ae HG
          go_wp2_with fail
          have y0:=cell_regrown C0.out
          have y1:=cell_regrown C1.out
          have y2:=cell_regrown C2.out
          have y3:=cell_regrown C3.out
          have y4:=cell_regrown C4.out
          have av:=cell_regrown K0.out
          have ap:=cell_regrown K1.out
          have aq:=cell_regrown K2.out
          refine wp_region_quiet_below (by kernel_rfl) (by kernel_rfl) ?_
          repeat (go_big_quiet_step (with_reducible exact cS _ _))
          refine wpQuiet_nil ?_
          intro w2 ay
          obtain⟨⟨dq,az⟩,ad⟩:=ay
          have D:Below wr.heap.size wr w2:=by rw[ad];exact below_regrown _ _ _
          have ac:=zc (Q.out.later D)
          have aa:=zc ((D.block _ Y).trans N.out)
          have ab:=zc (V.out.trans (D.mono V.out.size))
          clear D ad y0 y1 y2 y3 y4 av ap aq cS
          go_wp2
          go_roundg (gk-1)
          case rel=>exact⟨M,_,rfl,rfl,by have:=HJ.out;omega,by rw[HJ.out,Z.out,←n.out],ac.out,aa.out,ab.out⟩
          case measure=>omega
         ·have L: ¬(j:Int)<(m.st.length:Int):=by omega
          have U:Hid (tx=acc (stF m.ex) m.st (zbI m)):=by show tx=_;rw[n.out,List.take_of_length_le (by omega)]
          clear n
          go_wp2
          go_ret
          exact⟨.inl ⟨TR.out,za2 U.out⟩,V.out⟩
end Go.Proofs.YticdggnnpjachaaGreat
