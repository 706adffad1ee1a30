/-
 What spec.ModOk answers: the walk.
-/
import Derived.Test.YticdggnnpjachaaGreatCcSpecParseQToSpecParseR
namespace Go.Proofs.YticdggnnpjachaaGreat
set_option maxRecDepth 100000
set_option maxHeartbeats 6400000
open Go.RowKit Go.PlainAid Go.Sort
theorem zpS (o:Nat) (S:Sv) (m:Md) (H:Bool) (w:World) (h:OwnMd w o S m) (Z:Small m) (U:Tree m→(zbT m).size≤4294967296):
  Calls Tryz.prog 12 #[zt S m,.bool H] w fun e w'=>zh6 (zbT m) m H e∧Below w.heap.size w w':=by
 have HH:=zc h
 have SM:=zc Z
 have HU:=zc U
 have SF:Hid (zdM m):=Z.few
 clear h Z U
 unfold zt
 go_enter Tryz.func12,Tryz.ntmps12
 go_upto_region 1 with fail
 have E:Hid (Below w.heap.size w (w.alloc (.cells #[.slice S.rq.a m.rq.length S.rq.cap,.slice S.im.a m.im.length S.im.cap,.slice S.ep.a m.ep.length S.ep.cap,.slice S.st.a m.st.length S.st.cap,.slice S.ex.a m.ex.length S.ex.cap] 28))):=(Below.refl _ _).alloc (Nat.le_refl _) _
 refine zah (R:=fun W=>W.heap[w.heap.size]? =some (.cells #[.slice S.rq.a m.rq.length S.rq.cap,.slice S.im.a m.im.length S.im.cap,.slice S.ep.a m.ep.length S.ep.cap,.slice S.st.a m.st.length S.st.cap,.slice S.ex.a m.ex.length S.ex.cap] 28 (0,0))∧OwnMd W o S m∧Below w.heap.size w W) ⟨heap_alloc_new w _,HH.out.later E.out,E.out⟩ ?_
 obtain⟨gx,L⟩: ∃gx,gx=w.heap.size:=⟨_,rfl⟩
 rw[←L]
 rintro w1 ⟨hx,ho,z⟩
 rw[L] at z
 clear L E HH
 have X1:=zc hx
 have O1:=zc ho
 have V:=zc z
 clear hx ho z
 obtain⟨c0,c1,c2,c3,c4,cf⟩:=zk X1.out
 go_wp2_with fail
 refine (zoG o S m H w1 O1.out SM.out (fun t=>Nat.le_trans (HU.out t) (by omega))).mono ?_
 rintro e w2 ⟨A,z⟩
 obtain⟨t,K,rfl⟩:=A.form
 have PR:=zc K
 have ht:=K.size HU.out
 have X2:=zc ((z.block _ (Array.getElem?_eq_some_iff.1 X1.out).1).trans X1.out)
 have O2:=zc (O1.out.later z)
 have Y:=zc (V.out.trans (z.mono V.out.size))
 clear A K z c0 c1 c2 c3 c4 cf
 go_wp2_with fail
 refine (zpR t H w2 ht).mono ?_
 rintro e M ⟨A,z⟩
 have X3:=zc ((z.block _ (Array.getElem?_eq_some_iff.1 X2.out).1).trans X2.out)
 have O3:=zc (O2.out.later z)
 have D:=zc (Y.out.trans (z.mono Y.out.size))
 clear z
 rcases A.md with ⟨q,j,n,X,hn,rfl,I,J⟩|⟨p,X,rfl⟩
 ·have OK:=zc (zh8 (m:=m) X hn)
  have O4:=zc I
  have NF:=zc J
  clear A X hn I J
  unfold zt
  go_upto_region 2 with fail
  have E:Hid (Below M.heap.size M (M.alloc (.cells #[.slice j.rq.a n.rq.length j.rq.cap,.slice j.im.a n.im.length j.im.cap,.slice j.ep.a n.ep.length j.ep.cap,.slice j.st.a n.st.length j.st.cap,.slice j.ex.a n.ex.length j.ex.cap] 28))):=(Below.refl _ _).alloc (Nat.le_refl _) _
  refine zah (R:=fun W=>W.heap[gx]? =some (.cells #[.slice S.rq.a m.rq.length S.rq.cap,.slice S.im.a m.im.length S.im.cap,.slice S.ep.a m.ep.length S.ep.cap,.slice S.st.a m.st.length S.st.cap,.slice S.ex.a m.ex.length S.ex.cap] 28 (0,0))∧W.heap[M.heap.size]? =some (.cells #[.slice j.rq.a n.rq.length j.rq.cap,.slice j.im.a n.im.length j.im.cap,.slice j.ep.a n.ep.length j.ep.cap,.slice j.st.a n.st.length j.st.cap,.slice j.ex.a n.ex.length j.ex.cap] 28 (0,0))∧OwnMd W o S m∧OwnMd W w2.heap.size j n∧Below w.heap.size w W) ⟨(E.out.block _ (Array.getElem?_eq_some_iff.1 X3.out).1).trans X3.out,heap_alloc_new M _,O3.out.later E.out,O4.out.later E.out,D.out.trans (E.out.mono D.out.size)⟩ ?_
  obtain⟨gy,O⟩: ∃gy,gy=M.heap.size:=⟨_,rfl⟩
  rw[←O]
  intro w4 h4
  have N:=zc h4
  clear h4 O E X3 O3 O4 D
  obtain⟨c0,c1,c2,c3,c4,cf⟩:=zk N.out.1
  obtain⟨d0,d1,d2,d3,d4,df⟩:=zk N.out.2.1
  go_wp2_with fail
  refine ((zlF zh9 zhA zhB zhC zhD zhE zhF zhG w2.heap.size o j S n m _ N.out.2.2.2.1 N.out.2.2.1 NF.out)).mono ?_
  rintro e w5 ⟨⟨r,rfl,hr⟩,z⟩
  have HR:=zc hr
  have aa:=zc (N.out.2.2.2.2.trans (z.mono N.out.2.2.2.2.size))
  clear hr z c0 c1 c2 c3 c4 cf d0 d1 d2 d3 d4 df
  go_wp2
  go_ret
  exact⟨⟨t,PR.out,r,rfl,HR.out.trans OK.out.symm⟩,aa.out⟩
 ·have NO:=zc (zh7 (m:=m) X)
  clear A X
  go_wp2
  go_ret
  exact⟨⟨t,PR.out,false,rfl,⟨fun k=>(by cases k),fun k=>absurd k NO.out⟩⟩,(D.out.alloc D.out.size _)⟩
end Go.Proofs.YticdggnnpjachaaGreat