/-
 What laws.FnPrint answers of a code that is not too long: the walk.
-/
import Derived.Test.YtmnemfookpjhiaaGreatClDrawModToOkMath
import Derived.Test.YtmnemfookpjhiaaGreatClModOkImplToSpecPrintE
import Derived.Test.YtmnemfookpjhiaaGreatClModOkSpecToBig
namespace Go.Proofs.YtmnemfookpjhiaaGreat
set_option maxRecDepth 100000
set_option maxHeartbeats 12800000
open Go.RowKit Go.PlainAid Go.Sort
theorem PrOf.one {T t1 t2:ByteArray} {m:Md} (h1:PrOf T m t1) (h2:PrOf T m t2):t1=t2:=by
 rcases h1 with ⟨a,rfl⟩|⟨a,rfl⟩<;>rcases h2 with ⟨b,rfl⟩|⟨b,rfl⟩
 ·rfl
 ·exact absurd a b
 ·exact absurd b a
 ·rfl
theorem zbau (S:Src) (hS:S.ok) (w:World) (hc:ziy S w) (hl:S.lim≤w.heap.size) (hlen:S.len≤1048576):
  Calls Tryz.prog 7 #[.slice S.a S.len S.cap] w fun e w'=>e= .returned (.bool true)∧Below w.heap.size w w':=by
 have hbig:decide ((1048576:Int)<S.len)=false:=by simp;omega
 have HC:=hidI hc
 clear hc
 go_enter Tryz.func7,Tryz.ntmps7
 go_wp2_with fail
 refine (zbcd _ _ _ _ (by omega)).mono ?_
 rintro e w' ⟨rfl,hw⟩
 rw[hw,hbig]
 clear hw
 go_wp2_with fail
 refine (ztj S hS w HC.out hl hlen).mono ?_
 rintro e w1 ⟨V,m,scr,rfl,ho,hd,hb⟩
 have O1:=hidI ho
 have DR:=hidI hd
 have B1:=hidI hb
 clear ho hd hb HC hbig
 have SM:=hidI DR.out.small
 have TS:Hid (Tree m→(zhe m).size≤4294967296):=fun t=>(DR.out.text t).1
 have TI:Hid (Tree m→(zge m).size≤4294967296):=fun t=>(DR.out.text t).2
 have EQ:Hid (zge m=zhe m):=zup DR.out.fair
 unfold modD
 go_upto_region 4 with fail
 have HW:Hid (Below w1.heap.size w1 (w1.alloc (.cells #[.slice V.rq.a m.rq.length V.rq.cap,.slice V.im.a m.im.length V.im.cap,.slice V.ep.a m.ep.length V.ep.cap,.slice V.st.a m.st.length V.st.cap,.slice V.ex.a m.ex.length V.ex.cap] 54))):=(Below.refl _ _).alloc (Nat.le_refl _) _
 refine zbc (R:=fun W=>W.heap[w1.heap.size]? =some (.cells #[.slice V.rq.a m.rq.length V.rq.cap,.slice V.im.a m.im.length V.im.cap,.slice V.ep.a m.ep.length V.ep.cap,.slice V.st.a m.st.length V.st.cap,.slice V.ex.a m.ex.length V.ex.cap] 54 (0,0))∧OwnMd W w.heap.size V m∧Below w.heap.size w W) ⟨heap_alloc_new w1 _,O1.out.later HW.out,B1.out.trans (HW.out.mono B1.out.size)⟩ ?_
 obtain⟨gx,hgx⟩: ∃gx,gx=w1.heap.size:=⟨_,rfl⟩
 rw[←hgx]
 rintro w2 ⟨hx,ho,hb⟩
 clear hgx HW O1 B1
 have X2:=hidI hx
 have O2:=hidI ho
 have B2:=hidI hb
 clear hx ho hb
 obtain⟨c0,c1,c2,c3,c4,cf⟩:=zi X2.out
 go_wp2_with fail
 refine (zben w.heap.size V m scr w2 O2.out SM.out TI.out).mono ?_
 rintro e w3 ⟨⟨t1,p1,r1,rfl,i1⟩,hb⟩
 have P1:=hidI p1
 have I1:=hidI i1
 have X3:=hidI ((hb.block _ (Array.getElem?_eq_some_iff.1 X2.out).1).trans X2.out)
 have O3:=hidI (O2.out.later hb)
 have B3:=hidI (B2.out.trans (hb.mono B2.out.size))
 clear hb p1 i1 c0 c1 c2 c3 c4 cf
 obtain⟨c0,c1,c2,c3,c4,cf⟩:=zi X3.out
 go_wp2_with fail
 refine (znx w.heap.size V m scr w3 O3.out SM.out (fun t=>Nat.le_trans (TI.out t) (by omega))).mono ?_
 rintro e w4 ⟨hpo,hb⟩
 obtain⟨t,hpr,rfl⟩:=hpo.form
 obtain rfl:t1=t:=P1.out.one hpr
 have X4:=hidI ((hb.block _ (Array.getElem?_eq_some_iff.1 X3.out).1).trans X3.out)
 have O4:=hidI (O3.out.later hb)
 have B4:=hidI (B3.out.trans (hb.mono B3.out.size))
 clear hb hpo hpr c0 c1 c2 c3 c4 cf
 obtain⟨c0,c1,c2,c3,c4,cf⟩:=zi X4.out
 go_wp2_with fail
 refine (zbeq w.heap.size V m scr w4 O4.out SM.out TS.out).mono ?_
 rintro e w5 ⟨⟨t2,p2,r2,rfl,i2⟩,hb⟩
 obtain rfl:r2=r1:=by
  have k:=(i2.trans (zbls p2 P1.out)).trans I1.out.symm
  cases r1<;>cases r2<;>simp_all
 have X5:=hidI ((hb.block _ (Array.getElem?_eq_some_iff.1 X4.out).1).trans X4.out)
 have O5:=hidI (O4.out.later hb)
 have B5:=hidI (B4.out.trans (hb.mono B4.out.size))
 clear hb p2 i2 c0 c1 c2 c3 c4 cf
 obtain⟨c0,c1,c2,c3,c4,cf⟩:=zi X5.out
 have hts:t1.size≤4294967296:=P1.out.size TI.out
 have hnn:(!(t1.toList==t1.toList))=false:=by simp
 cases r2<;>(
  go_wp2_with fail
  refine (zsz w.heap.size V m scr w5 O5.out SM.out (fun t=>Nat.le_trans (TS.out t) (by omega))).mono ?_
  rintro e w6 ⟨hpo,hb⟩
  obtain⟨t,hpr,rfl⟩:=hpo.form
  obtain rfl:t1=t:=by have:=P1.out;rw[EQ.out] at this;exact this.one hpr
  have X6:=hidI ((hb.block _ (Array.getElem?_eq_some_iff.1 X5.out).1).trans X5.out)
  have O6:=hidI (O5.out.later hb)
  have B6:=hidI (B5.out.trans (hb.mono B5.out.size))
  clear hb hpo hpr c0 c1 c2 c3 c4 cf
  obtain⟨c0,c1,c2,c3,c4,cf⟩:=zi X6.out
  go_wp2_with fail
  refine (zsy t1 scr w6 hts).mono ?_
  rintro e w7 ⟨hpo,hb⟩
  have X7:=hidI ((hb.block _ (Array.getElem?_eq_some_iff.1 X6.out).1).trans X6.out)
  have O7:=hidI (O6.out.later hb)
  have B7:=hidI (B6.out.trans (hb.mono B6.out.size))
  clear hb c0 c1 c2 c3 c4 cf)
 ·rcases hpo.md with ⟨q,S3,n,hy,hn,rfl,hown,hfew⟩|⟨p,hy,rfl⟩
  ·unfold modD
   go_wp2
   go_ret
   exact⟨rfl,B7.out.alloc B7.out.size _⟩
  ·go_wp2
   go_ret
   exact⟨rfl,B7.out.alloc B7.out.size _⟩
 ·rcases hpo.md with ⟨q,S3,n,hy,hn,rfl,hown,hfew⟩|⟨p,hy,rfl⟩
  ·obtain rfl:n=m:=(zya hy hn).1 (I1.out.1 (by simp))
   have O8:=hidI hown
   have NF:=hidI hfew
   clear hpo hy hn hown hfew
   unfold modD
   go_upto_region 9 with fail
   have HW:Hid (Below w7.heap.size w7 (w7.alloc (.cells #[.slice S3.rq.a n.rq.length S3.rq.cap,.slice S3.im.a n.im.length S3.im.cap,.slice S3.ep.a n.ep.length S3.ep.cap,.slice S3.st.a n.st.length S3.st.cap,.slice S3.ex.a n.ex.length S3.ex.cap] 54))):=(Below.refl _ _).alloc (Nat.le_refl _) _
   refine zbc (R:=fun W=>W.heap[gx]? =some (.cells #[.slice V.rq.a n.rq.length V.rq.cap,.slice V.im.a n.im.length V.im.cap,.slice V.ep.a n.ep.length V.ep.cap,.slice V.st.a n.st.length V.st.cap,.slice V.ex.a n.ex.length V.ex.cap] 54 (0,0))∧W.heap[w7.heap.size]? =some (.cells #[.slice S3.rq.a n.rq.length S3.rq.cap,.slice S3.im.a n.im.length S3.im.cap,.slice S3.ep.a n.ep.length S3.ep.cap,.slice S3.st.a n.st.length S3.st.cap,.slice S3.ex.a n.ex.length S3.ex.cap] 54 (0,0))∧OwnMd W w.heap.size V n∧OwnMd W w6.heap.size S3 n∧Below w.heap.size w W) ⟨(HW.out.block _ (Array.getElem?_eq_some_iff.1 X7.out).1).trans X7.out,heap_alloc_new w7 _,O7.out.later HW.out,O8.out.later HW.out,B7.out.trans (HW.out.mono B7.out.size)⟩ ?_
   obtain⟨gy,hgy⟩: ∃gy,gy=w7.heap.size:=⟨_,rfl⟩
   rw[←hgy]
   intro w8 h8
   have T8:=hidI h8
   clear h8 hgy HW X7 O7 O8 B7
   obtain⟨c0,c1,c2,c3,c4,cf⟩:=zi T8.out.1
   obtain⟨d0,d1,d2,d3,d4,df⟩:=zi T8.out.2.1
   go_wp2_with fail
   refine (zxy zbdk zbdl zbdm zbdn zbdo zbdp zbdq zbdr w6.heap.size w.heap.size S3 V n _ T8.out.2.2.2.1 T8.out.2.2.1 NF.out).mono ?_
   rintro e w9 ⟨rfl,hb⟩
   have Y9:=hidI ((hb.block _ (Array.getElem?_eq_some_iff.1 T8.out.2.1).1).trans T8.out.2.1)
   have O9:=hidI (T8.out.2.2.2.1.later hb)
   have B9:=hidI (T8.out.2.2.2.2.trans (hb.mono T8.out.2.2.2.2.size))
   clear hb c0 c1 c2 c3 c4 cf d0 d1 d2 d3 d4 df T8
   obtain⟨d0,d1,d2,d3,d4,df⟩:=zi Y9.out
   go_wp2_with fail
   refine (znx w6.heap.size S3 n scr w9 O9.out SM.out (fun t=>Nat.le_trans (TI.out t) (by omega))).mono ?_
   rintro e w10 ⟨hpo,hb⟩
   obtain⟨t,hpr,rfl⟩:=hpo.form
   obtain rfl:t1=t:=P1.out.one hpr
   have B10:=hidI (B9.out.trans (hb.mono B9.out.size))
   clear hb hpo hpr d0 d1 d2 d3 d4 df
   go_wp2
   go_ret
   exact⟨rfl,B10.out⟩
  ·exact absurd (I1.out.1 (by simp)) (zxz hy)
end Go.Proofs.YtmnemfookpjhiaaGreat