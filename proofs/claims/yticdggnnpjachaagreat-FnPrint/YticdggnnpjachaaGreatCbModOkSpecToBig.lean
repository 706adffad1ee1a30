/-
  What spec.ModOk answers: the walk.
  What laws.big answers: the walk.
-/
import Derived.Test.YticdggnnpjachaaGreatCbModOkImplToSpecPrintE
namespace Go.Proofs.YticdggnnpjachaaGreat
set_option maxRecDepth 100000
set_option maxHeartbeats 6400000
open Go.RowKit Go.PlainAid Go.Sort
theorem zr8 (o:Nat) (S:Sv) (m:Md) (H:Bool) (w:World) (h:OwnMd w o S m) (hm:Small m) (V:Tree m→(zbJ m).size≤4294967296):
  Calls Tryz.prog 12 #[zp S m,.bool H] w fun e w'=>ziX (zbJ m) m H e∧Below w.heap.size w w':=by
 have HH:=zc h
 have SM:=zc hm
 have HU:=zc V
 have SF:Hid (zem m):=hm.few
 clear h hm V
 unfold zp
 go_enter Tryz.func12,Tryz.ntmps12
 go_upto_region 1 with fail
 have E:Hid (Below w.heap.size w (w.alloc (.cells #[.slice S.rq.a m.rq.length S.rq.cap,.slice S.im.a m.im.length S.im.cap,.slice S.ep.a m.ep.length S.ep.cap,.slice S.st.a m.st.length S.st.cap,.slice S.ex.a m.ex.length S.ex.cap] 28))):=(Below.refl _ _).alloc (Nat.le_refl _) _
 refine zau (R:=fun W=>W.heap[w.heap.size]? =some (.cells #[.slice S.rq.a m.rq.length S.rq.cap,.slice S.im.a m.im.length S.im.cap,.slice S.ep.a m.ep.length S.ep.cap,.slice S.st.a m.st.length S.st.cap,.slice S.ex.a m.ex.length S.ex.cap] 28 (0,0))∧OwnMd W o S m∧Below w.heap.size w W) ⟨heap_alloc_new w _,HH.out.later E.out,E.out⟩ ?_
 obtain⟨Z,K⟩: ∃Z,Z=w.heap.size:=⟨_,rfl⟩
 rw[←K]
 rintro w1 ⟨hx,ho,z⟩
 rw[K] at z
 clear K E HH
 have X1:=zc hx
 have O1:=zc ho
 have X:=zc z
 clear hx ho z
 obtain⟨c0,c1,Y,c3,c4,cf⟩:=zl X1.out
 go_wp2_with fail
 refine (zkn o S m H w1 O1.out SM.out (fun t=>Nat.le_trans (HU.out t) (by omega))).mono ?_
 rintro e w2 ⟨A,z⟩
 obtain⟨t,L,rfl⟩:=A.form
 have PR:=zc L
 have ht:=L.size HU.out
 have X2:=zc ((z.block _ (Array.getElem?_eq_some_iff.1 X1.out).1).trans X1.out)
 have O2:=zc (O1.out.later z)
 have Q:=zc (X.out.trans (z.mono X.out.size))
 clear A L z c0 c1 Y c3 c4 cf
 go_wp2_with fail
 refine (ziQ t H w2 ht).mono ?_
 rintro e M ⟨A,z⟩
 have X3:=zc ((z.block _ (Array.getElem?_eq_some_iff.1 X2.out).1).trans X2.out)
 have O3:=zc (O2.out.later z)
 have D:=zc (Q.out.trans (z.mono Q.out.size))
 clear z
 rcases A.md with ⟨q,j,n,U,hn,rfl,I,J⟩|⟨p,U,rfl⟩
 ·have OK:=zc (zgO (m:=m) U hn)
  have O4:=zc I
  have NF:=zc J
  clear A U hn I J
  unfold zp
  go_upto_region 2 with fail
  have E:Hid (Below M.heap.size M (M.alloc (.cells #[.slice j.rq.a n.rq.length j.rq.cap,.slice j.im.a n.im.length j.im.cap,.slice j.ep.a n.ep.length j.ep.cap,.slice j.st.a n.st.length j.st.cap,.slice j.ex.a n.ex.length j.ex.cap] 28))):=(Below.refl _ _).alloc (Nat.le_refl _) _
  refine zau (R:=fun W=>W.heap[Z]? =some (.cells #[.slice S.rq.a m.rq.length S.rq.cap,.slice S.im.a m.im.length S.im.cap,.slice S.ep.a m.ep.length S.ep.cap,.slice S.st.a m.st.length S.st.cap,.slice S.ex.a m.ex.length S.ex.cap] 28 (0,0))∧W.heap[M.heap.size]? =some (.cells #[.slice j.rq.a n.rq.length j.rq.cap,.slice j.im.a n.im.length j.im.cap,.slice j.ep.a n.ep.length j.ep.cap,.slice j.st.a n.st.length j.st.cap,.slice j.ex.a n.ex.length j.ex.cap] 28 (0,0))∧OwnMd W o S m∧OwnMd W w2.heap.size j n∧Below w.heap.size w W) ⟨(E.out.block _ (Array.getElem?_eq_some_iff.1 X3.out).1).trans X3.out,heap_alloc_new M _,O3.out.later E.out,O4.out.later E.out,D.out.trans (E.out.mono D.out.size)⟩ ?_
  obtain⟨gy,O⟩: ∃gy,gy=M.heap.size:=⟨_,rfl⟩
  rw[←O]
  intro w4 h4
  have N:=zc h4
  clear h4 O E X3 O3 O4 D
  obtain⟨c0,c1,Y,c3,c4,cf⟩:=zl N.out.1
  obtain⟨d0,d1,d2,d3,d4,df⟩:=zl N.out.2.1
  go_wp2_with fail
  refine ((zoG zgP zgQ zgR zgS zgT zgU zgV zgW w2.heap.size o j S n m _ N.out.2.2.2.1 N.out.2.2.1 NF.out)).mono ?_
  rintro e w5 ⟨⟨r,rfl,hr⟩,z⟩
  have HR:=zc hr
  have aa:=zc (N.out.2.2.2.2.trans (z.mono N.out.2.2.2.2.size))
  clear hr z c0 c1 Y c3 c4 cf d0 d1 d2 d3 d4 df
  go_wp2
  go_ret
  exact⟨⟨t,PR.out,r,rfl,HR.out.trans OK.out.symm⟩,aa.out⟩
 ·have NO:=zc (zgN (m:=m) U)
  clear A U
  go_wp2
  go_ret
  exact⟨⟨t,PR.out,false,rfl,⟨fun k=>(by cases k),fun k=>absurd k NO.out⟩⟩,(D.out.alloc D.out.size _)⟩
theorem zko (a:Option Addr) (j n:Nat) (w:World) (_:j≤9223372036854775807):
  Calls Tryz.prog 15 #[.slice a j n] w fun e o=>e= .returned (.bool (decide ((1048576:Int)<j)))∧o=w:=by
 go_enter Tryz.func15,Tryz.ntmps15
 go_wp2
 go_ret
 exact⟨rfl,rfl⟩
end Go.Proofs.YticdggnnpjachaaGreat
