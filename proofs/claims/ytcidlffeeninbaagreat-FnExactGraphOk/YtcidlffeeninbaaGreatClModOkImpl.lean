/-
 What impl.ModOk answers: the walk.
-/
import Derived.Test.YtcidlffeeninbaaGreatClImplParseAll
namespace Go.Proofs.YtcidlffeeninbaaGreat
set_option maxRecDepth 100000
set_option maxHeartbeats 6400000
open Go.RowKit Go.PlainAid Go.Sort
theorem zur (A:Nat) (S:Sv) (m:Md) (I:Bool) (w:World) (h:OwnMd w A S m) (hm:Small m) (V:Tree m→(zbS m).size≤4294967296):
  Calls Tryz.prog 42 #[zn S m,.bool I] w fun e w'=>zgo (zbS m) m I e∧Below w.heap.size w w':=by
 have HH:=zc h
 have SM:=zc hm
 have HU:=zc V
 have SF:Hid (zdB m):=hm.few
 clear h hm V
 unfold zn
 go_enter Tryz.func42,Tryz.ntmps42
 go_upto_region 1 with fail
 have J:Hid (Below w.heap.size w (w.alloc (.cells #[.slice S.rq.a m.rq.length S.rq.cap,.slice S.im.a m.im.length S.im.cap,.slice S.ep.a m.ep.length S.ep.cap,.slice S.st.a m.st.length S.st.cap,.slice S.ex.a m.ex.length S.ex.cap] 48))):=(Below.refl _ _).alloc (Nat.le_refl _) _
 refine zx (R:=fun W=>W.heap[w.heap.size]? =some (.cells #[.slice S.rq.a m.rq.length S.rq.cap,.slice S.im.a m.im.length S.im.cap,.slice S.ep.a m.ep.length S.ep.cap,.slice S.st.a m.st.length S.st.cap,.slice S.ex.a m.ex.length S.ex.cap] 48 (0,0))∧OwnMd W A S m∧Below w.heap.size w W) ⟨heap_alloc_new w _,HH.out.later J.out,J.out⟩ ?_
 obtain⟨gx,N⟩: ∃gx,gx=w.heap.size:=⟨_,rfl⟩
 rw[←N]
 rintro w1 ⟨hx,ho,D⟩
 rw[N] at D
 clear N J HH
 have X1:=zc hx
 have O1:=zc ho
 have aa:=zc D
 clear hx ho D
 obtain⟨c0,c1,c2,c3,c4,cf⟩:=zk X1.out
 go_wp2_with fail
 refine (zsE A S m I w1 O1.out SM.out (fun t=>Nat.le_trans (HU.out t) (by omega))).mono ?_
 rintro e w2 ⟨E,D⟩
 obtain⟨t,M,rfl⟩:=E.form
 have PR:=zc M
 have ht:=M.size HU.out
 have X2:=zc ((D.block _ (Array.getElem?_eq_some_iff.1 X1.out).1).trans X1.out)
 have O2:=zc (O1.out.later D)
 have Y:=zc (aa.out.trans (D.mono aa.out.size))
 clear E M D c0 c1 c2 c3 c4 cf
 go_wp2_with fail
 refine (zuq t I w2 ht).mono ?_
 rintro e U ⟨E,D⟩
 have X3:=zc ((D.block _ (Array.getElem?_eq_some_iff.1 X2.out).1).trans X2.out)
 have O3:=zc (O2.out.later D)
 have H:=zc (Y.out.trans (D.mono Y.out.size))
 clear D
 rcases E.md with ⟨q,z,n,Z,hn,rfl,K,L⟩|⟨p,Z,rfl⟩
 ·have OK:=zc (zj4 (m:=m) Z hn)
  have O4:=zc K
  have NF:=zc L
  clear E Z hn K L
  unfold zn
  go_upto_region 2 with fail
  have J:Hid (Below U.heap.size U (U.alloc (.cells #[.slice z.rq.a n.rq.length z.rq.cap,.slice z.im.a n.im.length z.im.cap,.slice z.ep.a n.ep.length z.ep.cap,.slice z.st.a n.st.length z.st.cap,.slice z.ex.a n.ex.length z.ex.cap] 48))):=(Below.refl _ _).alloc (Nat.le_refl _) _
  refine zx (R:=fun W=>W.heap[gx]? =some (.cells #[.slice S.rq.a m.rq.length S.rq.cap,.slice S.im.a m.im.length S.im.cap,.slice S.ep.a m.ep.length S.ep.cap,.slice S.st.a m.st.length S.st.cap,.slice S.ex.a m.ex.length S.ex.cap] 48 (0,0))∧W.heap[U.heap.size]? =some (.cells #[.slice z.rq.a n.rq.length z.rq.cap,.slice z.im.a n.im.length z.im.cap,.slice z.ep.a n.ep.length z.ep.cap,.slice z.st.a n.st.length z.st.cap,.slice z.ex.a n.ex.length z.ex.cap] 48 (0,0))∧OwnMd W A S m∧OwnMd W w2.heap.size z n∧Below w.heap.size w W) ⟨(J.out.block _ (Array.getElem?_eq_some_iff.1 X3.out).1).trans X3.out,heap_alloc_new U _,O3.out.later J.out,O4.out.later J.out,H.out.trans (J.out.mono H.out.size)⟩ ?_
  obtain⟨gy,X⟩: ∃gy,gy=U.heap.size:=⟨_,rfl⟩
  rw[←X]
  intro w4 h4
  have O:=zc h4
  clear h4 X J X3 O3 O4 H
  obtain⟨c0,c1,c2,c3,c4,cf⟩:=zk O.out.1
  obtain⟨d0,d1,d2,d3,d4,df⟩:=zk O.out.2.1
  go_wp2_with fail
  refine ((zqj A w2.heap.size S z m n _ O.out.2.2.1 O.out.2.2.2.1 SF.out)).mono ?_
  rintro e w5 ⟨⟨r,rfl,hr⟩,D⟩
  have HR:=zc hr
  have ab:=zc (O.out.2.2.2.2.trans (D.mono O.out.2.2.2.2.size))
  clear hr D c0 c1 c2 c3 c4 cf d0 d1 d2 d3 d4 df
  go_wp2
  go_ret
  exact⟨⟨t,PR.out,r,rfl,HR.out.trans (Iff.trans ⟨Eq.symm,Eq.symm⟩ OK.out.symm)⟩,ab.out⟩
 ·have NO:=zc (zj3 (m:=m) Z)
  clear E Z
  go_wp2
  go_ret
  exact⟨⟨t,PR.out,false,rfl,⟨fun k=>(by cases k),fun k=>absurd k NO.out⟩⟩,(H.out.alloc H.out.size _)⟩
end Go.Proofs.YtcidlffeeninbaaGreat