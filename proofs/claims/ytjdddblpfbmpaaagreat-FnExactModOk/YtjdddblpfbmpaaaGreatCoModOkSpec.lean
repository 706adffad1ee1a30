/-
 What spec.ModOk answers: the walk.
-/
import Derived.Test.YtjdddblpfbmpaaaGreatCoSpecParseOToSpecParseR
namespace Go.Proofs.YtjdddblpfbmpaaaGreat
set_option maxRecDepth 100000
set_option maxHeartbeats 6400000
open Go.RowKit Go.PlainAid Go.Sort
theorem zqe (z:Nat) (S:Sv) (m:Md) (H:Bool) (w:World) (h:OwnMd w z S m) (hm:Small m) (V:Tree m→(zbP m).size≤4294967296):
  Calls Tryz.prog 7 #[zq S m,.bool H] w fun e w'=>zh4 (zbP m) m H e∧Below w.heap.size w w':=by
 have HH:=zc h
 have SM:=zc hm
 have HU:=zc V
 have SF:Hid (zdJ m):=hm.few
 clear h hm V
 unfold zq
 go_enter Tryz.func7,Tryz.ntmps7
 go_upto_region 1 with fail
 have I:Hid (Below w.heap.size w (w.alloc (.cells #[.slice S.rq.a m.rq.length S.rq.cap,.slice S.im.a m.im.length S.im.cap,.slice S.ep.a m.ep.length S.ep.cap,.slice S.st.a m.st.length S.st.cap,.slice S.ex.a m.ex.length S.ex.cap] 36))):=(Below.refl _ _).alloc (Nat.le_refl _) _
 refine zac (R:=fun W=>W.heap[w.heap.size]? =some (.cells #[.slice S.rq.a m.rq.length S.rq.cap,.slice S.im.a m.im.length S.im.cap,.slice S.ep.a m.ep.length S.ep.cap,.slice S.st.a m.st.length S.st.cap,.slice S.ex.a m.ex.length S.ex.cap] 36 (0,0))∧OwnMd W z S m∧Below w.heap.size w W) ⟨heap_alloc_new w _,HH.out.later I.out,I.out⟩ ?_
 obtain⟨gx,M⟩: ∃gx,gx=w.heap.size:=⟨_,rfl⟩
 rw[←M]
 rintro w1 ⟨hx,ho,A⟩
 rw[M] at A
 clear M I HH
 have X1:=zc hx
 have O1:=zc ho
 have Y:=zc A
 clear hx ho A
 obtain⟨c0,c1,c2,c3,c4,cf⟩:=zi X1.out
 go_wp2_with fail
 refine (zoS z S m H w1 O1.out SM.out (fun t=>Nat.le_trans (HU.out t) (by omega))).mono ?_
 rintro e w2 ⟨D,A⟩
 obtain⟨t,L,rfl⟩:=D.form
 have PR:=zc L
 have ht:=L.size HU.out
 have X2:=zc ((A.block _ (Array.getElem?_eq_some_iff.1 X1.out).1).trans X1.out)
 have O2:=zc (O1.out.later A)
 have Z:=zc (Y.out.trans (A.mono Y.out.size))
 clear D L A c0 c1 c2 c3 c4 cf
 go_wp2_with fail
 refine (zqd t H w2 ht).mono ?_
 rintro e N ⟨D,A⟩
 have X3:=zc ((A.block _ (Array.getElem?_eq_some_iff.1 X2.out).1).trans X2.out)
 have O3:=zc (O2.out.later A)
 have E:=zc (Z.out.trans (A.mono Z.out.size))
 clear A
 rcases D.md with ⟨q,j,n,X,hn,rfl,J,K⟩|⟨p,X,rfl⟩
 ·have OK:=zc (zh6 (m:=m) X hn)
  have O4:=zc J
  have NF:=zc K
  clear D X hn J K
  unfold zq
  go_upto_region 2 with fail
  have I:Hid (Below N.heap.size N (N.alloc (.cells #[.slice j.rq.a n.rq.length j.rq.cap,.slice j.im.a n.im.length j.im.cap,.slice j.ep.a n.ep.length j.ep.cap,.slice j.st.a n.st.length j.st.cap,.slice j.ex.a n.ex.length j.ex.cap] 36))):=(Below.refl _ _).alloc (Nat.le_refl _) _
  refine zac (R:=fun W=>W.heap[gx]? =some (.cells #[.slice S.rq.a m.rq.length S.rq.cap,.slice S.im.a m.im.length S.im.cap,.slice S.ep.a m.ep.length S.ep.cap,.slice S.st.a m.st.length S.st.cap,.slice S.ex.a m.ex.length S.ex.cap] 36 (0,0))∧W.heap[N.heap.size]? =some (.cells #[.slice j.rq.a n.rq.length j.rq.cap,.slice j.im.a n.im.length j.im.cap,.slice j.ep.a n.ep.length j.ep.cap,.slice j.st.a n.st.length j.st.cap,.slice j.ex.a n.ex.length j.ex.cap] 36 (0,0))∧OwnMd W z S m∧OwnMd W w2.heap.size j n∧Below w.heap.size w W) ⟨(I.out.block _ (Array.getElem?_eq_some_iff.1 X3.out).1).trans X3.out,heap_alloc_new N _,O3.out.later I.out,O4.out.later I.out,E.out.trans (I.out.mono E.out.size)⟩ ?_
  obtain⟨gy,U⟩: ∃gy,gy=N.heap.size:=⟨_,rfl⟩
  rw[←U]
  intro w4 h4
  have O:=zc h4
  clear h4 U I X3 O3 O4 E
  obtain⟨c0,c1,c2,c3,c4,cf⟩:=zi O.out.1
  obtain⟨d0,d1,d2,d3,d4,df⟩:=zi O.out.2.1
  go_wp2_with fail
  refine ((zlM zh7 zh8 zh9 zhA zhB zhC zhD zhE w2.heap.size z j S n m _ O.out.2.2.2.1 O.out.2.2.1 NF.out)).mono ?_
  rintro e w5 ⟨⟨r,rfl,hr⟩,A⟩
  have HR:=zc hr
  have aa:=zc (O.out.2.2.2.2.trans (A.mono O.out.2.2.2.2.size))
  clear hr A c0 c1 c2 c3 c4 cf d0 d1 d2 d3 d4 df
  go_wp2
  go_ret
  exact⟨⟨t,PR.out,r,rfl,HR.out.trans OK.out.symm⟩,aa.out⟩
 ·have NO:=zc (zh5 (m:=m) X)
  clear D X
  go_wp2
  go_ret
  exact⟨⟨t,PR.out,false,rfl,⟨fun k=>(by cases k),fun k=>absurd k NO.out⟩⟩,(E.out.alloc E.out.size _)⟩
end Go.Proofs.YtjdddblpfbmpaaaGreat