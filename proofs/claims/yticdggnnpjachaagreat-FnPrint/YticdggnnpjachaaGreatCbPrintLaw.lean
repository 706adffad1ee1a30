/-
 What laws.FnPrint answers of a code that is not too long: the walk.
-/
import Derived.Test.YticdggnnpjachaaGreatCbModOkSpecToBig
namespace Go.Proofs.YticdggnnpjachaaGreat
set_option maxRecDepth 100000
set_option maxHeartbeats 12800000
open Go.RowKit Go.PlainAid Go.Sort
theorem PrOf.one {T j n:ByteArray} {m:Md} (q:PrOf T m j) (o:PrOf T m n):j=n:=by
 rcases q with ⟨a,rfl⟩|⟨a,rfl⟩<;>rcases o with ⟨b,rfl⟩|⟨b,rfl⟩
 ·rfl
 ·exact absurd a b
 ·exact absurd b a
 ·rfl
theorem zr9 (S:Src) (hS:S.ok) (w:World) (hc:zct S w) (hl:S.lim≤w.heap.size) (aa:S.len≤1048576):
  Calls Tryz.prog 5 #[.slice S.a S.len S.cap] w fun e w'=>e= .returned (.bool true)∧Below w.heap.size w w':=by
 have U:decide ((1048576:Int)<S.len)=false:=by simp;omega
 have HC:=zc hc
 clear hc
 go_enter Tryz.func5,Tryz.ntmps5
 go_wp2_with fail
 refine (zko _ _ _ _ (by omega)).mono ?_
 rintro e w' ⟨rfl,hw⟩
 rw[hw,U]
 clear hw
 go_wp2_with fail
 refine (zog S hS w HC.out hl aa).mono ?_
 rintro e Z ⟨V,m,D,rfl,ho,hd,j⟩
 have O1:=zc ho
 have DR:=zc hd
 have B1:=zc j
 clear ho hd j HC U
 have SM:=zc DR.out.small
 have TS:Hid (Tree m→(zbJ m).size≤4294967296):=fun t=>(DR.out.text t).1
 have TI:Hid (Tree m→(zb1 m).size≤4294967296):=fun t=>(DR.out.text t).2
 have EQ:Hid (zb1 m=zbJ m):=ziY DR.out.fair
 unfold zp
 go_upto_region 4 with fail
 have Q:Hid (Below Z.heap.size Z (Z.alloc (.cells #[.slice V.rq.a m.rq.length V.rq.cap,.slice V.im.a m.im.length V.im.cap,.slice V.ep.a m.ep.length V.ep.cap,.slice V.st.a m.st.length V.st.cap,.slice V.ex.a m.ex.length V.ex.cap] 28))):=(Below.refl _ _).alloc (Nat.le_refl _) _
 refine zau (R:=fun W=>W.heap[Z.heap.size]? =some (.cells #[.slice V.rq.a m.rq.length V.rq.cap,.slice V.im.a m.im.length V.im.cap,.slice V.ep.a m.ep.length V.ep.cap,.slice V.st.a m.st.length V.st.cap,.slice V.ex.a m.ex.length V.ex.cap] 28 (0,0))∧OwnMd W w.heap.size V m∧Below w.heap.size w W) ⟨heap_alloc_new Z _,O1.out.later Q.out,B1.out.trans (Q.out.mono B1.out.size)⟩ ?_
 obtain⟨gx,ab⟩: ∃gx,gx=Z.heap.size:=⟨_,rfl⟩
 rw[←ab]
 rintro w2 ⟨hx,ho,j⟩
 clear ab Q O1 B1
 have X2:=zc hx
 have O2:=zc ho
 have B2:=zc j
 clear hx ho j
 obtain⟨E,N,H,K,I,L⟩:=zl X2.out
 go_wp2_with fail
 refine (zrr w.heap.size V m D w2 O2.out SM.out TI.out).mono ?_
 rintro e w3 ⟨⟨Y,p1,r1,rfl,i1⟩,j⟩
 have P1:=zc p1
 have I1:=zc i1
 have X3:=zc ((j.block _ (Array.getElem?_eq_some_iff.1 X2.out).1).trans X2.out)
 have O3:=zc (O2.out.later j)
 have B3:=zc (B2.out.trans (j.mono B2.out.size))
 clear j p1 i1 E N H K I L
 obtain⟨E,N,H,K,I,L⟩:=zl X3.out
 go_wp2_with fail
 refine (zhe w.heap.size V m D w3 O3.out SM.out (fun t=>Nat.le_trans (TI.out t) (by omega))).mono ?_
 rintro e w4 ⟨o,j⟩
 obtain⟨t,A,rfl⟩:=o.form
 obtain rfl:Y=t:=P1.out.one A
 have X4:=zc ((j.block _ (Array.getElem?_eq_some_iff.1 X3.out).1).trans X3.out)
 have O4:=zc (O3.out.later j)
 have B4:=zc (B3.out.trans (j.mono B3.out.size))
 clear j o A E N H K I L
 obtain⟨E,N,H,K,I,L⟩:=zl X4.out
 go_wp2_with fail
 refine (zr8 w.heap.size V m D w4 O4.out SM.out TS.out).mono ?_
 rintro e w5 ⟨⟨t2,p2,r2,rfl,i2⟩,j⟩
 obtain rfl:r2=r1:=by
  have k:=(i2.trans (zoF p2 P1.out)).trans I1.out.symm
  cases r1<;>cases r2<;>simp_all
 have X5:=zc ((j.block _ (Array.getElem?_eq_some_iff.1 X4.out).1).trans X4.out)
 have O5:=zc (O4.out.later j)
 have B5:=zc (B4.out.trans (j.mono B4.out.size))
 clear j p2 i2 E N H K I L
 obtain⟨E,N,H,K,I,L⟩:=zl X5.out
 have ad:Y.size≤4294967296:=P1.out.size TI.out
 have ag:(!(Y.toList==Y.toList))=false:=by simp
 cases r2<;>(
  go_wp2_with fail
  refine (zkn w.heap.size V m D w5 O5.out SM.out (fun t=>Nat.le_trans (TS.out t) (by omega))).mono ?_
  rintro e w6 ⟨o,j⟩
  obtain⟨t,A,rfl⟩:=o.form
  obtain rfl:Y=t:=by have:=P1.out;rw[EQ.out] at this;exact this.one A
  have X6:=zc ((j.block _ (Array.getElem?_eq_some_iff.1 X5.out).1).trans X5.out)
  have O6:=zc (O5.out.later j)
  have B6:=zc (B5.out.trans (j.mono B5.out.size))
  clear j o A E N H K I L
  obtain⟨E,N,H,K,I,L⟩:=zl X6.out
  go_wp2_with fail
  refine (zkj Y D w6 ad).mono ?_
  rintro e w7 ⟨o,j⟩
  have X7:=zc ((j.block _ (Array.getElem?_eq_some_iff.1 X6.out).1).trans X6.out)
  have O7:=zc (O6.out.later j)
  have X:=zc (B6.out.trans (j.mono B6.out.size))
  clear j E N H K I L)
 ·rcases o.md with ⟨q,z,n,hy,hn,rfl,J,M⟩|⟨p,hy,rfl⟩
  ·unfold zp
   go_wp2
   go_ret
   exact⟨rfl,X.out.alloc X.out.size _⟩
  ·go_wp2
   go_ret
   exact⟨rfl,X.out.alloc X.out.size _⟩
 ·rcases o.md with ⟨q,z,n,hy,hn,rfl,J,M⟩|⟨p,hy,rfl⟩
  ·obtain rfl:n=m:=(zgO hy hn).1 (I1.out.1 (by simp))
   have O8:=zc J
   have NF:=zc M
   clear o hy hn J M
   unfold zp
   go_upto_region 9 with fail
   have Q:Hid (Below w7.heap.size w7 (w7.alloc (.cells #[.slice z.rq.a n.rq.length z.rq.cap,.slice z.im.a n.im.length z.im.cap,.slice z.ep.a n.ep.length z.ep.cap,.slice z.st.a n.st.length z.st.cap,.slice z.ex.a n.ex.length z.ex.cap] 28))):=(Below.refl _ _).alloc (Nat.le_refl _) _
   refine zau (R:=fun W=>W.heap[gx]? =some (.cells #[.slice V.rq.a n.rq.length V.rq.cap,.slice V.im.a n.im.length V.im.cap,.slice V.ep.a n.ep.length V.ep.cap,.slice V.st.a n.st.length V.st.cap,.slice V.ex.a n.ex.length V.ex.cap] 28 (0,0))∧W.heap[w7.heap.size]? =some (.cells #[.slice z.rq.a n.rq.length z.rq.cap,.slice z.im.a n.im.length z.im.cap,.slice z.ep.a n.ep.length z.ep.cap,.slice z.st.a n.st.length z.st.cap,.slice z.ex.a n.ex.length z.ex.cap] 28 (0,0))∧OwnMd W w.heap.size V n∧OwnMd W w6.heap.size z n∧Below w.heap.size w W) ⟨(Q.out.block _ (Array.getElem?_eq_some_iff.1 X7.out).1).trans X7.out,heap_alloc_new w7 _,O7.out.later Q.out,O8.out.later Q.out,X.out.trans (Q.out.mono X.out.size)⟩ ?_
   obtain⟨gy,ac⟩: ∃gy,gy=w7.heap.size:=⟨_,rfl⟩
   rw[←ac]
   intro w8 h8
   have O:=zc h8
   clear h8 ac Q X7 O7 O8 X
   obtain⟨E,N,H,K,I,L⟩:=zl O.out.1
   obtain⟨d0,d1,d2,d3,d4,df⟩:=zl O.out.2.1
   go_wp2_with fail
   refine (zoC zgP zgQ zgR zgS zgT zgU zgV zgW w6.heap.size w.heap.size z V n _ O.out.2.2.2.1 O.out.2.2.1 NF.out).mono ?_
   rintro e w9 ⟨rfl,j⟩
   have Y9:=zc ((j.block _ (Array.getElem?_eq_some_iff.1 O.out.2.1).1).trans O.out.2.1)
   have O9:=zc (O.out.2.2.2.1.later j)
   have B9:=zc (O.out.2.2.2.2.trans (j.mono O.out.2.2.2.2.size))
   clear j E N H K I L d0 d1 d2 d3 d4 df O
   obtain⟨d0,d1,d2,d3,d4,df⟩:=zl Y9.out
   go_wp2_with fail
   refine (zhe w6.heap.size z n D w9 O9.out SM.out (fun t=>Nat.le_trans (TI.out t) (by omega))).mono ?_
   rintro e af ⟨o,j⟩
   obtain⟨t,A,rfl⟩:=o.form
   obtain rfl:Y=t:=P1.out.one A
   have ae:=zc (B9.out.trans (j.mono B9.out.size))
   clear j o A d0 d1 d2 d3 d4 df
   go_wp2
   go_ret
   exact⟨rfl,ae.out⟩
  ·exact absurd (I1.out.1 (by simp)) (zgN hy)
end Go.Proofs.YticdggnnpjachaaGreat