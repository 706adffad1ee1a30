/-
  What impl.ModOk answers: the walk.
  What l5Expr of the specification answers of a product: the walk.
  What l5Expr of the specification answers,whole. No walk is here.
  What l5As,l5Quote,l5Imp,l5Exp and l5Stmt of the specification answer: the walks.
  What spec.Print answers: the walk.
-/
import Derived.Test.YtmnemfookpjhiaaGreatClDrawModToOkMath
import Derived.Test.YtmnemfookpjhiaaGreatClEqModToImplParseQ
import Derived.Test.YtmnemfookpjhiaaGreatClImplPrintCToImplParseS
import Derived.Test.YtmnemfookpjhiaaGreatClImplParseAll
import Derived.Test.YtmnemfookpjhiaaGreatClSpecTreeToImplPrintA
namespace Go.Proofs.YtmnemfookpjhiaaGreat
set_option maxRecDepth 100000
set_option maxHeartbeats 12800000
open Go.RowKit Go.PlainAid Go.Sort
theorem zben (base:Nat) (S:Sv) (m:Md) (scr:Bool) (w:World) (h:OwnMd w base S m) (hm:Small m) (hsz:Tree m→(zge m).size≤4294967296):
  Calls Tryz.prog 29 #[modD S m,.bool scr] w fun e w'=>zbkk (zge m) m scr e∧Below w.heap.size w w':=by
 have HH:=hidI h
 have SM:=hidI hm
 have HU:=hidI hsz
 have SF:Hid (zpw m):=hm.few
 clear h hm hsz
 unfold modD
 go_enter Tryz.func29,Tryz.ntmps29
 go_upto_region 1 with fail
 have HW:Hid (Below w.heap.size w (w.alloc (.cells #[.slice S.rq.a m.rq.length S.rq.cap,.slice S.im.a m.im.length S.im.cap,.slice S.ep.a m.ep.length S.ep.cap,.slice S.st.a m.st.length S.st.cap,.slice S.ex.a m.ex.length S.ex.cap] 54))):=(Below.refl _ _).alloc (Nat.le_refl _) _
 refine zbc (R:=fun W=>W.heap[w.heap.size]? =some (.cells #[.slice S.rq.a m.rq.length S.rq.cap,.slice S.im.a m.im.length S.im.cap,.slice S.ep.a m.ep.length S.ep.cap,.slice S.st.a m.st.length S.st.cap,.slice S.ex.a m.ex.length S.ex.cap] 54 (0,0))∧OwnMd W base S m∧Below w.heap.size w W) ⟨heap_alloc_new w _,HH.out.later HW.out,HW.out⟩ ?_
 obtain⟨gx,hgx⟩: ∃gx,gx=w.heap.size:=⟨_,rfl⟩
 rw[←hgx]
 rintro w1 ⟨hx,ho,hb⟩
 rw[hgx] at hb
 clear hgx HW HH
 have X1:=hidI hx
 have O1:=hidI ho
 have HB1:=hidI hb
 clear hx ho hb
 obtain⟨c0,c1,c2,c3,c4,cf⟩:=zi X1.out
 go_wp2_with fail
 refine (znx base S m scr w1 O1.out SM.out (fun t=>Nat.le_trans (HU.out t) (by omega))).mono ?_
 rintro e w2 ⟨hpo,hb⟩
 obtain⟨t,hpr,rfl⟩:=hpo.form
 have PR:=hidI hpr
 have ht:=hpr.size HU.out
 have X2:=hidI ((hb.block _ (Array.getElem?_eq_some_iff.1 X1.out).1).trans X1.out)
 have O2:=hidI (O1.out.later hb)
 have HB2:=hidI (HB1.out.trans (hb.mono HB1.out.size))
 clear hpo hpr hb c0 c1 c2 c3 c4 cf
 go_wp2_with fail
 refine (zsy t scr w2 ht).mono ?_
 rintro e w3 ⟨hpo,hb⟩
 have X3:=hidI ((hb.block _ (Array.getElem?_eq_some_iff.1 X2.out).1).trans X2.out)
 have O3:=hidI (O2.out.later hb)
 have HB3:=hidI (HB2.out.trans (hb.mono HB2.out.size))
 clear hb
 rcases hpo.md with ⟨q,S3,n,hy,hn,rfl,hown,hfew⟩|⟨p,hy,rfl⟩
 ·have OK:=hidI (zya (m:=m) hy hn)
  have O4:=hidI hown
  have NF:=hidI hfew
  clear hpo hy hn hown hfew
  unfold modD
  go_upto_region 2 with fail
  have HW:Hid (Below w3.heap.size w3 (w3.alloc (.cells #[.slice S3.rq.a n.rq.length S3.rq.cap,.slice S3.im.a n.im.length S3.im.cap,.slice S3.ep.a n.ep.length S3.ep.cap,.slice S3.st.a n.st.length S3.st.cap,.slice S3.ex.a n.ex.length S3.ex.cap] 54))):=(Below.refl _ _).alloc (Nat.le_refl _) _
  refine zbc (R:=fun W=>W.heap[gx]? =some (.cells #[.slice S.rq.a m.rq.length S.rq.cap,.slice S.im.a m.im.length S.im.cap,.slice S.ep.a m.ep.length S.ep.cap,.slice S.st.a m.st.length S.st.cap,.slice S.ex.a m.ex.length S.ex.cap] 54 (0,0))∧W.heap[w3.heap.size]? =some (.cells #[.slice S3.rq.a n.rq.length S3.rq.cap,.slice S3.im.a n.im.length S3.im.cap,.slice S3.ep.a n.ep.length S3.ep.cap,.slice S3.st.a n.st.length S3.st.cap,.slice S3.ex.a n.ex.length S3.ex.cap] 54 (0,0))∧OwnMd W base S m∧OwnMd W w2.heap.size S3 n∧Below w.heap.size w W) ⟨(HW.out.block _ (Array.getElem?_eq_some_iff.1 X3.out).1).trans X3.out,heap_alloc_new w3 _,O3.out.later HW.out,O4.out.later HW.out,HB3.out.trans (HW.out.mono HB3.out.size)⟩ ?_
  obtain⟨gy,hgy⟩: ∃gy,gy=w3.heap.size:=⟨_,rfl⟩
  rw[←hgy]
  intro w4 h4
  have T4:=hidI h4
  clear h4 hgy HW X3 O3 O4 HB3
  obtain⟨c0,c1,c2,c3,c4,cf⟩:=zi T4.out.1
  obtain⟨d0,d1,d2,d3,d4,df⟩:=zi T4.out.2.1
  go_wp2_with fail
  refine ((zvq base w2.heap.size S S3 m n _ T4.out.2.2.1 T4.out.2.2.2.1 SF.out)).mono ?_
  rintro e w5 ⟨⟨r,rfl,hr⟩,hb⟩
  have HR:=hidI hr
  have HB5:=hidI (T4.out.2.2.2.2.trans (hb.mono T4.out.2.2.2.2.size))
  clear hr hb c0 c1 c2 c3 c4 cf d0 d1 d2 d3 d4 df
  go_wp2
  go_ret
  exact⟨⟨t,PR.out,r,rfl,HR.out.trans (Iff.trans ⟨Eq.symm,Eq.symm⟩ OK.out.symm)⟩,HB5.out⟩
 ·have NO:=hidI (zxz (m:=m) hy)
  clear hpo hy
  go_wp2
  go_ret
  exact⟨⟨t,PR.out,false,rfl,⟨fun k=>(by cases k),fun k=>absurd k NO.out⟩⟩,(HB3.out.alloc HB3.out.size _)⟩
theorem zbjy (base g:Nat) (S:Sv) (m:Md) (i ln rn:Nat) (k nu:Int) (nm fi:ByteArray) (w:World) (hex:S.ex.a=some ⟨g,0,none⟩) (h:OwnMd w base S m) (hi:i<m.ex.length) (hlt:g<w.heap.size) (c0:w.cell? ⟨g,i*6,none⟩=some (.int .i64 k)) (c1:w.cell? ⟨g,i*6+1,none⟩=some (.int .i64 nu)) (c2:w.cell? ⟨g,i*6+2,none⟩=some (.string nm)) (c3:w.cell? ⟨g,i*6+3,none⟩=some (.string fi)) (c4:w.cell? ⟨g,i*6+4,none⟩=some (.int .i64 (ln:Int))) (c5:w.cell? ⟨g,i*6+5,none⟩=some (.int .i64 (rn:Int))) (k1:(k==1)=false) (k2:(k==2)=false) (k3:(k==3)=false) (k4:(k==4)=false) (k5:(k==5)=false) (k6:(k==6)=false) (k7:(k==7)=false) (k8:(k==8)=true) (hsz:(zbj (sumK (m.ex.getD ln exNo).kind) (prX m.ex ln)++tStar++zbj (twoK (m.ex.getD rn exNo).kind) (prX m.ex rn)).size≤1099511627776) (he:znf base S m i) (hl:ln<i) (hr:rn<i) (hwl:wt m.ex ln≤1099511627776) (hwr:wt m.ex rn≤1099511627776):
  Calls Tryz.prog 151 #[modD S m,.int .i64 i] w fun e w'=>e= .returned (.string (zbj (sumK (m.ex.getD ln exNo).kind) (prX m.ex ln)++tStar++zbj (twoK (m.ex.getD rn exNo).kind) (prX m.ex rn)))∧Below w.heap.size w w':=by
 have hii:(i:Int)<(m.ex.length:Int):=by omega
 have HA:Hid (OwnMd ((w.alloc (.cells #[.slice S.rq.a m.rq.length S.rq.cap,.slice S.im.a m.im.length S.im.cap,.slice S.ep.a m.ep.length S.ep.cap,.slice S.st.a m.st.length S.st.cap,.slice (some ⟨g,0,none⟩) m.ex.length S.ex.cap] 54)).alloc (.cells #[.int .i64 k,.int .i64 nu,.string nm,.string fi,.int .i64 (ln:Int),.int .i64 (rn:Int)] 125)) base S m):=(h.alloc _).alloc _
 have HE:=hidI he
 have HMV:Hid (modD S m= .agg #[.slice S.rq.a m.rq.length S.rq.cap,.slice S.im.a m.im.length S.im.cap,.slice S.ep.a m.ep.length S.ep.cap,.slice S.st.a m.st.length S.st.cap,.slice (some ⟨g,0,none⟩) m.ex.length S.ex.cap]):=by show _=_;rw[modD,hex]
 have hli:(ln:Int)<(m.ex.length:Int):=by omega
 have hri:(rn:Int)<(m.ex.length:Int):=by omega
 obtain⟨g2,hg2,-,d0,-,-,-,-,-⟩:=h.expr (i:=rn) (by omega)
 have eg:g2=g:=by have:=hg2.symm.trans hex;simpa using this
 rw[eg] at d0
 obtain⟨kr,hkr⟩: ∃kr,(m.ex.getD rn exNo).kind=kr:=⟨_,rfl⟩
 rw[hkr] at d0
 have HKR:=hidI hkr
 obtain⟨tl,htl⟩: ∃tl,zbj (sumK (m.ex.getD ln exNo).kind) (prX m.ex ln)=tl:=⟨_,rfl⟩
 obtain⟨tr,htr⟩: ∃tr,zbj (twoK (m.ex.getD rn exNo).kind) (prX m.ex rn)=tr:=⟨_,rfl⟩
 rw[htl,htr] at hsz
 have HTL:=hidI htl
 have HTR:=hidI htr
 obtain⟨kl,hkl⟩: ∃kl,(m.ex.getD ln exNo).kind=kl:=⟨_,rfl⟩
 have cK: ∀d os,Calls Tryz.prog 210 #[.agg #[.slice S.rq.a m.rq.length S.rq.cap,.slice S.im.a m.im.length S.im.cap,.slice S.ep.a m.ep.length S.ep.cap,.slice S.st.a m.st.length S.st.cap,.slice (some ⟨g,0,none⟩) m.ex.length S.ex.cap],.int .i64 (ln:Int)] (grow (redrawn ((w.alloc (.cells #[.slice S.rq.a m.rq.length S.rq.cap,.slice S.im.a m.im.length S.im.cap,.slice S.ep.a m.ep.length S.ep.cap,.slice S.st.a m.st.length S.st.cap,.slice (some ⟨g,0,none⟩) m.ex.length S.ex.cap] 54)).alloc (.cells #[.int .i64 k,.int .i64 nu,.string nm,.string fi,.int .i64 (ln:Int),.int .i64 (rn:Int)] 125)) d) os) fun e w''=>e= .returned (.bool (sumK kl))∧∃p:Regrown,w''=grow (redrawn ((w.alloc (.cells #[.slice S.rq.a m.rq.length S.rq.cap,.slice S.im.a m.im.length S.im.cap,.slice S.ep.a m.ep.length S.ep.cap,.slice S.st.a m.st.length S.st.cap,.slice (some ⟨g,0,none⟩) m.ex.length S.ex.cap] 54)).alloc (.cells #[.int .i64 k,.int .i64 nu,.string nm,.string fi,.int .i64 (ln:Int),.int .i64 (rn:Int)] 125)) p.d) p.os:=fun d os=>Calls.regrown_of (by rw[←HMV.out,←hkl];exact zpf base S m ln _ (HA.out.later (below_regrown _ d os)) (by omega))
 have cL: ∀d os,Calls Tryz.prog 209 #[.agg #[.slice S.rq.a m.rq.length S.rq.cap,.slice S.im.a m.im.length S.im.cap,.slice S.ep.a m.ep.length S.ep.cap,.slice S.st.a m.st.length S.st.cap,.slice (some ⟨g,0,none⟩) m.ex.length S.ex.cap],.int .i64 (ln:Int),.bool (sumK kl)] (grow (redrawn ((w.alloc (.cells #[.slice S.rq.a m.rq.length S.rq.cap,.slice S.im.a m.im.length S.im.cap,.slice S.ep.a m.ep.length S.ep.cap,.slice S.st.a m.st.length S.st.cap,.slice (some ⟨g,0,none⟩) m.ex.length S.ex.cap] 54)).alloc (.cells #[.int .i64 k,.int .i64 nu,.string nm,.string fi,.int .i64 (ln:Int),.int .i64 (rn:Int)] 125)) d) os) fun e w''=>e= .returned (.string tl)∧∃p:Regrown,w''=grow (redrawn ((w.alloc (.cells #[.slice S.rq.a m.rq.length S.rq.cap,.slice S.im.a m.im.length S.im.cap,.slice S.ep.a m.ep.length S.ep.cap,.slice S.st.a m.st.length S.st.cap,.slice (some ⟨g,0,none⟩) m.ex.length S.ex.cap] 54)).alloc (.cells #[.int .i64 k,.int .i64 nu,.string nm,.string fi,.int .i64 (ln:Int),.int .i64 (rn:Int)] 125)) p.d) p.os:=fun d os=>Calls.regrown_of (by rw[←HMV.out,←HTL.out,hkl];exact zmj base S m i ln _ _ HE.out (by omega) (by omega) (HA.out.later (below_regrown _ d os)) hwl)
 have cS: ∀d os,Calls Tryz.prog 149 #[.int .i64 kr] (grow (redrawn ((w.alloc (.cells #[.slice S.rq.a m.rq.length S.rq.cap,.slice S.im.a m.im.length S.im.cap,.slice S.ep.a m.ep.length S.ep.cap,.slice S.st.a m.st.length S.st.cap,.slice (some ⟨g,0,none⟩) m.ex.length S.ex.cap] 54)).alloc (.cells #[.int .i64 k,.int .i64 nu,.string nm,.string fi,.int .i64 (ln:Int),.int .i64 (rn:Int)] 125)) d) os) fun e w''=>e= .returned (.bool (twoK kr))∧∃p:Regrown,w''=grow (redrawn ((w.alloc (.cells #[.slice S.rq.a m.rq.length S.rq.cap,.slice S.im.a m.im.length S.im.cap,.slice S.ep.a m.ep.length S.ep.cap,.slice S.st.a m.st.length S.st.cap,.slice (some ⟨g,0,none⟩) m.ex.length S.ex.cap] 54)).alloc (.cells #[.int .i64 k,.int .i64 nu,.string nm,.string fi,.int .i64 (ln:Int),.int .i64 (rn:Int)] 125)) p.d) p.os:=fun d os=>Calls.regrown_of ((zus kr _).mono (by rintro e w' ⟨rfl,rfl⟩;exact⟨rfl,Below.refl _ _⟩))
 have cR: ∀d os,Calls Tryz.prog 209 #[.agg #[.slice S.rq.a m.rq.length S.rq.cap,.slice S.im.a m.im.length S.im.cap,.slice S.ep.a m.ep.length S.ep.cap,.slice S.st.a m.st.length S.st.cap,.slice (some ⟨g,0,none⟩) m.ex.length S.ex.cap],.int .i64 (rn:Int),.bool (twoK kr)] (grow (redrawn ((w.alloc (.cells #[.slice S.rq.a m.rq.length S.rq.cap,.slice S.im.a m.im.length S.im.cap,.slice S.ep.a m.ep.length S.ep.cap,.slice S.st.a m.st.length S.st.cap,.slice (some ⟨g,0,none⟩) m.ex.length S.ex.cap] 54)).alloc (.cells #[.int .i64 k,.int .i64 nu,.string nm,.string fi,.int .i64 (ln:Int),.int .i64 (rn:Int)] 125)) d) os) fun e w''=>e= .returned (.string tr)∧∃p:Regrown,w''=grow (redrawn ((w.alloc (.cells #[.slice S.rq.a m.rq.length S.rq.cap,.slice S.im.a m.im.length S.im.cap,.slice S.ep.a m.ep.length S.ep.cap,.slice S.st.a m.st.length S.st.cap,.slice (some ⟨g,0,none⟩) m.ex.length S.ex.cap] 54)).alloc (.cells #[.int .i64 k,.int .i64 nu,.string nm,.string fi,.int .i64 (ln:Int),.int .i64 (rn:Int)] 125)) p.d) p.os:=fun d os=>Calls.regrown_of (by rw[←HMV.out,←HTR.out,HKR.out];exact zmj base S m i rn _ _ HE.out (by omega) (by omega) (HA.out.later (below_regrown _ d os)) hwr)
 have X:Hid (Six ((w.alloc (.cells #[.slice S.rq.a m.rq.length S.rq.cap,.slice S.im.a m.im.length S.im.cap,.slice S.ep.a m.ep.length S.ep.cap,.slice S.st.a m.st.length S.st.cap,.slice (some ⟨g,0,none⟩) m.ex.length S.ex.cap] 54)).alloc (.cells #[.int .i64 k,.int .i64 nu,.string nm,.string fi,.int .i64 (ln:Int),.int .i64 (rn:Int)] 125)) (w.heap.size+1) (.int .i64 k) (.int .i64 nu) (.string nm) (.string fi) (.int .i64 (ln:Int)) (.int .i64 (rn:Int))):=zu (new2 w _ _)
 have Y:=hidI (zi (zdu (o':=.cells #[.int .i64 k,.int .i64 nu,.string nm,.string fi,.int .i64 (ln:Int),.int .i64 (rn:Int)] 125) (heap_alloc_new w (.cells #[.slice S.rq.a m.rq.length S.rq.cap,.slice S.im.a m.im.length S.im.cap,.slice S.ep.a m.ep.length S.ep.cap,.slice S.st.a m.st.length S.st.cap,.slice (some ⟨g,0,none⟩) m.ex.length S.ex.cap] 54))))
 have D0:Hid (((w.alloc (.cells #[.slice S.rq.a m.rq.length S.rq.cap,.slice S.im.a m.im.length S.im.cap,.slice S.ep.a m.ep.length S.ep.cap,.slice S.st.a m.st.length S.st.cap,.slice (some ⟨g,0,none⟩) m.ex.length S.ex.cap] 54)).alloc (.cells #[.int .i64 k,.int .i64 nu,.string nm,.string fi,.int .i64 (ln:Int),.int .i64 (rn:Int)] 125)).cell? ⟨g,rn*6,none⟩=some (.int .i64 kr)):=by show _=_;rw[World.cell?_alloc_past _ _ _ (by rw[ze];omega),World.cell?_alloc_past _ _ _ hlt];exact d0
 simp only[ByteArray.size_append] at hsz
 have hp3:tStar.size=3:=rfl
 have hs1:tl.size≤1099511627776:=by omega
 have hs2:tr.size≤1099511627776:=by omega
 have HV:Hid ((zbj (sumK (m.ex.getD ln exNo).kind) (prX m.ex ln)++tStar++zbj (twoK (m.ex.getD rn exNo).kind) (prX m.ex rn))=tl++tStar++tr):=by show _=_;rw[HTL.out,HTR.out]
 unfold modD
 rw[hex]
 clear hex h HA HE HMV HTL HTR htl htr hkr HKR hg2 he hsz hp3 d0 eg hkl
 go_enter Tryz.func151,Tryz.ntmps151
 go_wp2_with fail
 have x0:=cell_regrown X.out.c0
 have x4:=cell_regrown X.out.c4
 have x5:=cell_regrown X.out.c5
 have y0:=cell_regrown Y.out.1
 have y1:=cell_regrown Y.out.2.1
 have y2:=cell_regrown Y.out.2.2.1
 have y3:=cell_regrown Y.out.2.2.2.1
 have y4:=cell_regrown Y.out.2.2.2.2.1
 have e0:=cell_regrown D0.out
 refine wp_region_quiet_below (by kernel_rfl) (by kernel_rfl) ?_
 repeat (go_big_quiet_step (first|with_reducible exact cL _ _|with_reducible exact cS _ _|with_reducible exact cR _ _|with_reducible exact cK _ _))
 refine wpQuiet_nil ?_
 intro w1 hw'
 obtain⟨⟨dq,osq⟩,hw''⟩:=hw'
 have HB1:Hid (Below w.heap.size w w1):=by show Below _ _ _;rw[hw''];exact (zdo w _ _).trans ((below_regrown _ _ _).mono (by rw[ze,ze];omega))
 clear hw''
 go_wp2
 go_ret
 exact⟨zcd HV.out.symm,HB1.out⟩
theorem zqb (b:Bool) (t:ByteArray):t.size≤(zbj b t).size:=by
 unfold zbj
 split
 ·rw[ByteArray.size_append,ByteArray.size_append]
  omega
 ·exact Nat.le_refl _
theorem zbeo (base:Nat) (S:Sv) (m:Md) (hn:Nums m.ex) (ha:zfs m.ex) (n:Nat):znf base S m n:=by
 induction n with
 |zero=>intro i w hi;omega
 |succ n ih=>
  intro i w hin hi h hw
  by_cases hlt:i<n
  ·exact ih i w hlt hi h hw
  ·have he:znf base S m i:=by
    have:i=n:=by omega
    rw[this]
    exact ih
   obtain⟨g,hex,hgl,c0,c1,c2,c3,c4,c5⟩:=h.expr hi
   have hnu:=hn (m.ex.getD i exNo) (by rw[zjs hi];exact List.getElem_mem hi)
   have hah:=znl ha (i:=i)
   unfold wt at hw
   rw[zqw ha] at hw ⊢
   generalize m.ex.getD i exNo=x at*
   by_cases k1:(x.kind==1)=true
   ·rw[if_pos k1]
    exact zbiz g S m i _ _ _ _ _ _ w hex hi hgl c0 c1 c2 c3 c4 c5 k1 hnu
   rw[if_neg k1] at hw ⊢
   by_cases k2:(x.kind==2)=true
   ·rw[if_pos k2]
    exact zbja g S m i _ _ _ _ _ _ w hex hi hgl c0 c1 c2 c3 c4 c5 (by simpa using k1) k2
   rw[if_neg k2] at hw ⊢
   by_cases k3:(x.kind==3)=true
   ·rw[if_pos k3] at hw ⊢
    exact zbjb g S m i _ _ _ _ _ _ w hex hi hgl c0 c1 c2 c3 c4 c5 (by simpa using k1) (by simpa using k2) k3 hw
   rw[if_neg k3] at hw ⊢
   by_cases k4:(x.kind==4)=true
   ·rw[if_pos k4] at hw ⊢
    exact zbjc g S m i _ _ _ _ _ _ w hex hi hgl c0 c1 c2 c3 c4 c5 (by simpa using k1) (by simpa using k2) (by simpa using k3) k4 hw
   rw[if_neg k4] at hw ⊢
   by_cases k5:(x.kind==5)=true
   ·rw[if_pos k5] at hw ⊢
    exact zbjd g S m i _ _ _ _ _ _ w hex hi hgl c0 c1 c2 c3 c4 c5 (by simpa using k1) (by simpa using k2) (by simpa using k3) (by simpa using k4) k5 hw
   rw[if_neg k5] at hw ⊢
   by_cases k6:(x.kind==6)=true
   ·rw[if_pos k6] at hw ⊢
    obtain⟨h1,h2,h3,h4⟩:=hah (zeo (.inl k6))
    have hw2:=hw
    rw[ByteArray.size_append,ByteArray.size_append] at hw2
    have s2:=zqb (sumK (m.ex.getD x.r.toNat exNo).kind) (prX m.ex x.r.toNat)
    exact zbjf base g S m i x.l.toNat x.r.toNat _ _ _ _ w hex h hi hgl c0 c1 c2 c3 (by rw[c4,Int.toNat_of_nonneg h1]) (by rw[c5,Int.toNat_of_nonneg h3]) (by simpa using k1) (by simpa using k2) (by simpa using k3) (by simpa using k4) (by simpa using k5) k6 hw he (by omega) (by omega) (by unfold wt;omega) (by unfold wt;omega)
   rw[if_neg k6] at hw ⊢
   by_cases k7:(x.kind==7)=true
   ·rw[if_pos k7] at hw ⊢
    obtain⟨h1,h2,h3,h4⟩:=hah (zeo (.inr (.inl k7)))
    have hw2:=hw
    rw[ByteArray.size_append,ByteArray.size_append] at hw2
    have s2:=zqb (sumK (m.ex.getD x.r.toNat exNo).kind) (prX m.ex x.r.toNat)
    exact zbjg base g S m i x.l.toNat x.r.toNat _ _ _ _ w hex h hi hgl c0 c1 c2 c3 (by rw[c4,Int.toNat_of_nonneg h1]) (by rw[c5,Int.toNat_of_nonneg h3]) (by simpa using k1) (by simpa using k2) (by simpa using k3) (by simpa using k4) (by simpa using k5) (by simpa using k6) k7 hw he (by omega) (by omega) (by unfold wt;omega) (by unfold wt;omega)
   rw[if_neg k7] at hw ⊢
   by_cases k8:(x.kind==8)=true
   ·rw[if_pos k8] at hw ⊢
    obtain⟨h1,h2,h3,h4⟩:=hah (zeo (.inr (.inr k8)))
    have hw2:=hw
    rw[ByteArray.size_append,ByteArray.size_append] at hw2
    have s1:=zqb (sumK (m.ex.getD x.l.toNat exNo).kind) (prX m.ex x.l.toNat)
    have s2:=zqb (twoK (m.ex.getD x.r.toNat exNo).kind) (prX m.ex x.r.toNat)
    exact zbjy base g S m i x.l.toNat x.r.toNat _ _ _ _ w hex h hi hgl c0 c1 c2 c3 (by rw[c4,Int.toNat_of_nonneg h1]) (by rw[c5,Int.toNat_of_nonneg h3]) (by simpa using k1) (by simpa using k2) (by simpa using k3) (by simpa using k4) (by simpa using k5) (by simpa using k6) (by simpa using k7) k8 hw he (by omega) (by omega) (by unfold wt;omega) (by unfold wt;omega)
   rw[if_neg k8] at hw ⊢
   exact zbje g S m i _ _ _ _ _ _ w hex hi hgl c0 c1 c2 c3 c4 c5 (by simpa using k1) (by simpa using k2) (by simpa using k3) (by simpa using k4) (by simpa using k5) (by simpa using k6) (by simpa using k7) (by simpa using k8)
theorem zhh (base:Nat) (S:Sv) (m:Md) (i:Nat) (w:World) (hn:Nums m.ex) (ha:zfs m.ex) (hi:i<m.ex.length) (h:OwnMd w base S m) (hw:wt m.ex i≤1099511627776):
  Calls Tryz.prog 151 #[modD S m,.int .i64 i] w fun e w'=>e= .returned (.string (prX m.ex i))∧Below w.heap.size w w':=zbeo base S m hn ha (i+1) i w (Nat.lt_succ_self i) hi h hw
theorem zru (a b:ByteArray) (w:World) (ha:a.size≤1099511627776) (hb:b.size≤1099511627776):Calls Tryz.prog 150 #[.string a,.string b] w fun e w'=>e= .returned (.string (asT a b))∧w'=w:=by
 cases h:(a.toList==b.toList) with
 |true=>
  have HV:Hid (asT a b=a):=by show _=_;rw[asT,h];rfl
  go_enter Tryz.func150,Tryz.ntmps150
  go_wp2
  go_ret
  exact⟨zcd HV.out.symm,rfl⟩
 |false=>
  have HV:Hid (asT a b=a++({data:=#[32,97,115,32]}:ByteArray)++b):=by show _=_;rw[asT,h];rfl
  go_enter Tryz.func150,Tryz.ntmps150
  go_wp2
  go_ret
  exact⟨zcd HV.out.symm,rfl⟩
theorem zkm (s:ByteArray) (w:World) (hs:s.size≤1099511627776):Calls Tryz.prog 76 #[.string s] w fun e w'=>e= .returned (.string (zch s))∧w'=w:=by
 have HV:Hid (zch s=({data:=#[34]}:ByteArray)++s++({data:=#[34]}:ByteArray)):=rfl
 go_enter Tryz.func76,Tryz.ntmps76
 go_wp2
 go_ret
 exact⟨zcd HV.out.symm,rfl⟩
theorem zoe (s:ByteArray):(zch s).size=s.size+2:=by
 rw[zch,ByteArray.size_append,ByteArray.size_append]
 show 1+s.size+1=_
 omega
theorem zbcc (a b:ByteArray):(asT a b).size≤a.size+b.size+4:=by
 unfold asT
 split
 ·omega
 ·rw[ByteArray.size_append,ByteArray.size_append]
  show a.size+4+b.size≤_
  omega
theorem zbhk (x:Im) (w:World) (h1:x.spec.size≤4294967296) (h2:x.first.size≤4294967296) (h3:x.loc.size≤4294967296):Calls Tryz.prog 77 #[imV x] w fun e w'=>e= .returned (.string (impT x))∧Below w.heap.size w w':=by
 obtain⟨qt,hqt⟩: ∃t,zch x.spec=t:=⟨_,rfl⟩
 obtain⟨at',hat⟩: ∃t,asT x.first x.loc=t:=⟨_,rfl⟩
 have hq:=zoe x.spec
 have ha:=zbcc x.first x.loc
 rw[hqt] at hq
 rw[hat] at ha
 have hq2:qt.size≤8589934592:=by omega
 have ha2:at'.size≤17179869184:=by omega
 have QT:=hidI hqt
 have AT:=hidI hat
 have cQ: ∀d os,Calls Tryz.prog 76 #[.string x.spec] (grow (redrawn (w.alloc (.cells #[.string x.spec,.string x.first,.string x.loc] 119)) d) os) fun e w''=>e= .returned (.string qt)∧∃p:Regrown,w''=grow (redrawn (w.alloc (.cells #[.string x.spec,.string x.first,.string x.loc] 119)) p.d) p.os:=fun d os=>Calls.regrown_of (by rw[←hqt];exact (zkm x.spec _ (by omega)).mono (by rintro e w' ⟨rfl,rfl⟩;exact⟨rfl,Below.refl _ _⟩))
 have cA: ∀d os,Calls Tryz.prog 150 #[.string x.first,.string x.loc] (grow (redrawn (w.alloc (.cells #[.string x.spec,.string x.first,.string x.loc] 119)) d) os) fun e w''=>e= .returned (.string at')∧∃p:Regrown,w''=grow (redrawn (w.alloc (.cells #[.string x.spec,.string x.first,.string x.loc] 119)) p.d) p.os:=fun d os=>Calls.regrown_of (by rw[←hat];exact (zru x.first x.loc _ (by omega) (by omega)).mono (by rintro e w' ⟨rfl,rfl⟩;exact⟨rfl,Below.refl _ _⟩))
 have X:=hidI (zdf (heap_alloc_new w (.cells #[.string x.spec,.string x.first,.string x.loc] 119)))
 clear hqt hat hq ha
 unfold imV
 cases e1:(x.first.toList==[42]) with
 |true=>
  have HV:Hid (impT x=({data:=#[105,109,112,111,114,116,32,42,32,97,115,32]}:ByteArray)++x.loc++({data:=#[32,102,114,111,109,32]}:ByteArray)++zch x.spec++({data:=#[59,10]}:ByteArray)):=by show _=_;rw[impT,e1];rfl
  go_enter Tryz.func77,Tryz.ntmps77
  go_wp2_with fail
  have y0:=cell_regrown X.out.1
  have y1:=cell_regrown X.out.2.1
  have y2:=cell_regrown X.out.2.2.1
  refine wp_region_quiet_below (by kernel_rfl) (by kernel_rfl) ?_
  repeat (go_big_quiet_step (first|with_reducible exact cQ _ _|with_reducible exact cA _ _))
  refine wpQuiet_nil ?_
  intro w1 hw'
  obtain⟨⟨dq,osq⟩,hw''⟩:=hw'
  have HB1:Hid (Below w.heap.size w w1):=by show Below _ _ _;rw[hw''];exact ((Below.refl _ _).alloc (Nat.le_refl _) _).trans ((below_regrown _ _ _).mono (by rw[ze];omega))
  clear hw''
  go_wp2
  go_ret
  exact⟨zcd (by rw[HV.out,QT.out]),HB1.out⟩
 |false=>
  cases e2:(x.first.toList==[100,101,102,97,117,108,116]) with
  |true=>
   have HV:Hid (impT x=({data:=#[105,109,112,111,114,116,32]}:ByteArray)++x.loc++({data:=#[32,102,114,111,109,32]}:ByteArray)++zch x.spec++({data:=#[59,10]}:ByteArray)):=by show _=_;rw[impT,e1,e2];rfl
   go_enter Tryz.func77,Tryz.ntmps77
   go_wp2_with fail
   have y0:=cell_regrown X.out.1
   have y1:=cell_regrown X.out.2.1
   have y2:=cell_regrown X.out.2.2.1
   refine wp_region_quiet_below (by kernel_rfl) (by kernel_rfl) ?_
   repeat (go_big_quiet_step (first|with_reducible exact cQ _ _|with_reducible exact cA _ _))
   refine wpQuiet_nil ?_
   intro w1 hw'
   obtain⟨⟨dq,osq⟩,hw''⟩:=hw'
   have HB1:Hid (Below w.heap.size w w1):=by show Below _ _ _;rw[hw''];exact ((Below.refl _ _).alloc (Nat.le_refl _) _).trans ((below_regrown _ _ _).mono (by rw[ze];omega))
   clear hw''
   go_wp2
   go_ret
   exact⟨zcd (by rw[HV.out,QT.out]),HB1.out⟩
  |false=>
   have HV:Hid (impT x=({data:=#[105,109,112,111,114,116,32,123,32]}:ByteArray)++asT x.first x.loc++({data:=#[32,125,32,102,114,111,109,32]}:ByteArray)++zch x.spec++({data:=#[59,10]}:ByteArray)):=by show _=_;rw[impT,e1,e2];rfl
   go_enter Tryz.func77,Tryz.ntmps77
   go_wp2_with fail
   have y0:=cell_regrown X.out.1
   have y1:=cell_regrown X.out.2.1
   have y2:=cell_regrown X.out.2.2.1
   refine wp_region_quiet_below (by kernel_rfl) (by kernel_rfl) ?_
   repeat (go_big_quiet_step (first|with_reducible exact cQ _ _|with_reducible exact cA _ _))
   refine wpQuiet_nil ?_
   intro w1 hw'
   obtain⟨⟨dq,osq⟩,hw''⟩:=hw'
   have HB1:Hid (Below w.heap.size w w1):=by show Below _ _ _;rw[hw''];exact ((Below.refl _ _).alloc (Nat.le_refl _) _).trans ((below_regrown _ _ _).mono (by rw[ze];omega))
   clear hw''
   go_wp2
   go_ret
   exact⟨zcd (by rw[HV.out,QT.out,AT.out]),HB1.out⟩
theorem zbhl (x:Ep) (w:World) (h1:x.spec.size≤4294967296) (h2:x.name.size≤4294967296) (h3:x.loc.size≤4294967296):Calls Tryz.prog 78 #[epV x] w fun e w'=>e= .returned (.string (expT x))∧Below w.heap.size w w':=by
 obtain⟨qt,hqt⟩: ∃t,zch x.spec=t:=⟨_,rfl⟩
 obtain⟨at',hat⟩: ∃t,asT x.loc x.name=t:=⟨_,rfl⟩
 have hq:=zoe x.spec
 have ha:=zbcc x.loc x.name
 rw[hqt] at hq
 rw[hat] at ha
 have hq2:qt.size≤8589934592:=by omega
 have ha2:at'.size≤17179869184:=by omega
 have QT:=hidI hqt
 have AT:=hidI hat
 have cQ: ∀d os,Calls Tryz.prog 76 #[.string x.spec] (grow (redrawn (w.alloc (.cells #[.int .i64 x.kind,.string x.name,.string x.loc,.string x.spec] 121)) d) os) fun e w''=>e= .returned (.string qt)∧∃p:Regrown,w''=grow (redrawn (w.alloc (.cells #[.int .i64 x.kind,.string x.name,.string x.loc,.string x.spec] 121)) p.d) p.os:=fun d os=>Calls.regrown_of (by rw[←hqt];exact (zkm x.spec _ (by omega)).mono (by rintro e w' ⟨rfl,rfl⟩;exact⟨rfl,Below.refl _ _⟩))
 have cA: ∀d os,Calls Tryz.prog 150 #[.string x.loc,.string x.name] (grow (redrawn (w.alloc (.cells #[.int .i64 x.kind,.string x.name,.string x.loc,.string x.spec] 121)) d) os) fun e w''=>e= .returned (.string at')∧∃p:Regrown,w''=grow (redrawn (w.alloc (.cells #[.int .i64 x.kind,.string x.name,.string x.loc,.string x.spec] 121)) p.d) p.os:=fun d os=>Calls.regrown_of (by rw[←hat];exact (zru x.loc x.name _ (by omega) (by omega)).mono (by rintro e w' ⟨rfl,rfl⟩;exact⟨rfl,Below.refl _ _⟩))
 have cQ1: ∀w:World,Calls Tryz.prog 76 #[.string x.spec] w fun e w'=>e= .returned (.string qt)∧w'=w:=fun w=>by rw[←hqt];exact zkm x.spec w (by omega)
 have cA1: ∀w:World,Calls Tryz.prog 150 #[.string x.loc,.string x.name] w fun e w'=>e= .returned (.string at')∧w'=w:=fun w=>by rw[←hat];exact zru x.loc x.name w (by omega) (by omega)
 have X:=hidI (ziv (heap_alloc_new w (.cells #[.int .i64 x.kind,.string x.name,.string x.loc,.string x.spec] 121)))
 clear hqt hat hq ha
 unfold epV
 cases e1:(x.kind==3) with
 |true=>
  have HV:Hid (expT x=({data:=#[101,120,112,111,114,116,32,42,32,102,114,111,109,32]}:ByteArray)++zch x.spec++({data:=#[59,10]}:ByteArray)):=by show _=_;rw[expT,e1];rfl
  go_enter Tryz.func78,Tryz.ntmps78
  go_wp2_with fail
  refine (cQ1 _).mono ?_
  rintro e w1 ⟨rfl,hw⟩
  rw[hw]
  clear hw w1
  go_wp2
  go_ret
  exact⟨zcd (by rw[HV.out,QT.out]),(Below.refl _ _).alloc (Nat.le_refl _) _⟩
 |false=>
  cases e2:(x.kind==2) with
  |true=>
   have HV:Hid (expT x=({data:=#[101,120,112,111,114,116,32,123,32]}:ByteArray)++asT x.loc x.name++({data:=#[32,125,32,102,114,111,109,32]}:ByteArray)++zch x.spec++({data:=#[59,10]}:ByteArray)):=by show _=_;rw[expT,e1,e2];rfl
   go_enter Tryz.func78,Tryz.ntmps78
   go_wp2_with fail
   have y0:=cell_regrown X.out.1
   have y1:=cell_regrown X.out.2.1
   have y2:=cell_regrown X.out.2.2.1
   have y3:=cell_regrown X.out.2.2.2.1
   refine wp_region_quiet_below (by kernel_rfl) (by kernel_rfl) ?_
   repeat (go_big_quiet_step (first|with_reducible exact cQ _ _|with_reducible exact cA _ _))
   refine wpQuiet_nil ?_
   intro w1 hw'
   obtain⟨⟨dq,osq⟩,hw''⟩:=hw'
   have HB1:Hid (Below w.heap.size w w1):=by show Below _ _ _;rw[hw''];exact ((Below.refl _ _).alloc (Nat.le_refl _) _).trans ((below_regrown _ _ _).mono (by rw[ze];omega))
   clear hw''
   go_wp2
   go_ret
   exact⟨zcd (by rw[HV.out,QT.out,AT.out]),HB1.out⟩
  |false=>
   have HV:Hid (expT x=({data:=#[101,120,112,111,114,116,32,123,32]}:ByteArray)++asT x.loc x.name++({data:=#[32,125,59,10]}:ByteArray)):=by show _=_;rw[expT,e1,e2];rfl
   go_enter Tryz.func78,Tryz.ntmps78
   go_wp2_with fail
   refine (cA1 _).mono ?_
   rintro e w1 ⟨rfl,hw⟩
   rw[hw]
   clear hw w1
   go_wp2
   go_ret
   exact⟨zcd (by rw[HV.out,AT.out]),(Below.refl _ _).alloc (Nat.le_refl _) _⟩
theorem zbjz (base:Nat) (S:Sv) (m:Md) (k:Int) (n:ByteArray) (i:Nat) (w:World) (h:OwnMd w base S m) (hi:i<m.ex.length) (hn:Nums m.ex) (ha:zfs m.ex) (hw:wt m.ex i≤1099511627776) (_:n.size≤4294967296) (k1:(k==1)=true) (en:(n.toList==[42,100,101,102,97,117,108,116])=true):
  Calls Tryz.prog 79 #[modD S m,.agg #[.int .i64 k,.string n,.int .i64 (i:Int)]] w fun e w'=>e= .returned (.string (zcy k n (prX m.ex i)))∧Below w.heap.size w w':=by
 have HH:=hidI h
 have HV:Hid (zcy k n (prX m.ex i)=({data:=#[101,120,112,111,114,116,32,100,101,102,97,117,108,116,32]}:ByteArray)++prX m.ex i++({data:=#[59,10]}:ByteArray)):=by show _=_;rw[zcy,k1,en];rfl
 have hsz:=hw
 unfold wt at hsz
 have HX:=hidI (And.intro (zdu (o':=.cells #[.int .i64 k,.string n,.int .i64 (i:Int)] 123) (heap_alloc_new w (.cells #[.slice S.rq.a m.rq.length S.rq.cap,.slice S.im.a m.im.length S.im.cap,.slice S.ep.a m.ep.length S.ep.cap,.slice S.st.a m.st.length S.st.cap,.slice S.ex.a m.ex.length S.ex.cap] 54))) (new2 w (.cells #[.slice S.rq.a m.rq.length S.rq.cap,.slice S.im.a m.im.length S.im.cap,.slice S.ep.a m.ep.length S.ep.cap,.slice S.st.a m.st.length S.st.cap,.slice S.ex.a m.ex.length S.ex.cap] 54) (.cells #[.int .i64 k,.string n,.int .i64 (i:Int)] 123)))
 clear h
 unfold modD
 go_enter Tryz.func79,Tryz.ntmps79
 go_wp2_with fail
 refine (zhh base S m i _ hn ha hi ((HH.out.alloc _).alloc _) hw).mono ?_
 rintro e w1 ⟨rfl,hb⟩
 have HB:Hid (Below w.heap.size w w1):=(zdo w _ _).trans (hb.mono (by rw[ze,ze];omega))
 have HX1:=hidI ((hb.block _ (by rw[ze,ze];omega)).trans HX.out.2)
 obtain⟨c0,c1,c2,cf⟩:=zdf HX1.out
 clear hb
 obtain⟨t,ht⟩: ∃t,prX m.ex i=t:=⟨_,rfl⟩
 rw[ht] at hsz ⊢
 have HT:=hidI ht
 clear ht
 go_wp2
 go_ret
 exact⟨zcd (by rw[HV.out,HT.out]),HB.out⟩
theorem zbka (base:Nat) (S:Sv) (m:Md) (k:Int) (n:ByteArray) (i:Nat) (w:World) (h:OwnMd w base S m) (hi:i<m.ex.length) (hn:Nums m.ex) (ha:zfs m.ex) (hw:wt m.ex i≤1099511627776) (hs:n.size≤4294967296) (k1:(k==1)=true) (en:(n.toList==[42,100,101,102,97,117,108,116])=false):
  Calls Tryz.prog 79 #[modD S m,.agg #[.int .i64 k,.string n,.int .i64 (i:Int)]] w fun e w'=>e= .returned (.string (zcy k n (prX m.ex i)))∧Below w.heap.size w w':=by
 have HH:=hidI h
 have HV:Hid (zcy k n (prX m.ex i)=({data:=#[108,101,116,32]}:ByteArray)++n++({data:=#[32,61,32]}:ByteArray)++prX m.ex i++({data:=#[59,10]}:ByteArray)):=by show _=_;rw[zcy,k1,en];rfl
 have hsz:=hw
 unfold wt at hsz
 have HX:=hidI (And.intro (zdu (o':=.cells #[.int .i64 k,.string n,.int .i64 (i:Int)] 123) (heap_alloc_new w (.cells #[.slice S.rq.a m.rq.length S.rq.cap,.slice S.im.a m.im.length S.im.cap,.slice S.ep.a m.ep.length S.ep.cap,.slice S.st.a m.st.length S.st.cap,.slice S.ex.a m.ex.length S.ex.cap] 54))) (new2 w (.cells #[.slice S.rq.a m.rq.length S.rq.cap,.slice S.im.a m.im.length S.im.cap,.slice S.ep.a m.ep.length S.ep.cap,.slice S.st.a m.st.length S.st.cap,.slice S.ex.a m.ex.length S.ex.cap] 54) (.cells #[.int .i64 k,.string n,.int .i64 (i:Int)] 123)))
 clear h
 unfold modD
 go_enter Tryz.func79,Tryz.ntmps79
 go_wp2_with fail
 refine (zhh base S m i _ hn ha hi ((HH.out.alloc _).alloc _) hw).mono ?_
 rintro e w1 ⟨rfl,hb⟩
 have HB:Hid (Below w.heap.size w w1):=(zdo w _ _).trans (hb.mono (by rw[ze,ze];omega))
 have HX1:=hidI ((hb.block _ (by rw[ze,ze];omega)).trans HX.out.2)
 obtain⟨c0,c1,c2,cf⟩:=zdf HX1.out
 clear hb
 obtain⟨t,ht⟩: ∃t,prX m.ex i=t:=⟨_,rfl⟩
 rw[ht] at hsz ⊢
 have HT:=hidI ht
 clear ht
 go_wp2
 go_ret
 exact⟨zcd (by rw[HV.out,HT.out]),HB.out⟩
theorem zbkb (base:Nat) (S:Sv) (m:Md) (k:Int) (n:ByteArray) (i:Nat) (w:World) (h:OwnMd w base S m) (hi:i<m.ex.length) (hn:Nums m.ex) (ha:zfs m.ex) (hw:wt m.ex i≤1099511627776) (hs:n.size≤4294967296) (k1:(k==1)=false) (k2:(k==2)=true):
  Calls Tryz.prog 79 #[modD S m,.agg #[.int .i64 k,.string n,.int .i64 (i:Int)]] w fun e w'=>e= .returned (.string (zcy k n (prX m.ex i)))∧Below w.heap.size w w':=by
 have HH:=hidI h
 have HV:Hid (zcy k n (prX m.ex i)=({data:=#[102,117,110,99,116,105,111,110,32]}:ByteArray)++n++({data:=#[40,41,32,123,32,114,101,116,117,114,110,32]}:ByteArray)++prX m.ex i++({data:=#[59,32,125,10]}:ByteArray)):=by show _=_;rw[zcy,k1,k2];rfl
 have hsz:=hw
 unfold wt at hsz
 have HX:=hidI (And.intro (zdu (o':=.cells #[.int .i64 k,.string n,.int .i64 (i:Int)] 123) (heap_alloc_new w (.cells #[.slice S.rq.a m.rq.length S.rq.cap,.slice S.im.a m.im.length S.im.cap,.slice S.ep.a m.ep.length S.ep.cap,.slice S.st.a m.st.length S.st.cap,.slice S.ex.a m.ex.length S.ex.cap] 54))) (new2 w (.cells #[.slice S.rq.a m.rq.length S.rq.cap,.slice S.im.a m.im.length S.im.cap,.slice S.ep.a m.ep.length S.ep.cap,.slice S.st.a m.st.length S.st.cap,.slice S.ex.a m.ex.length S.ex.cap] 54) (.cells #[.int .i64 k,.string n,.int .i64 (i:Int)] 123)))
 clear h
 unfold modD
 go_enter Tryz.func79,Tryz.ntmps79
 go_wp2_with fail
 refine (zhh base S m i _ hn ha hi ((HH.out.alloc _).alloc _) hw).mono ?_
 rintro e w1 ⟨rfl,hb⟩
 have HB:Hid (Below w.heap.size w w1):=(zdo w _ _).trans (hb.mono (by rw[ze,ze];omega))
 have HX1:=hidI ((hb.block _ (by rw[ze,ze];omega)).trans HX.out.2)
 obtain⟨c0,c1,c2,cf⟩:=zdf HX1.out
 clear hb
 obtain⟨t,ht⟩: ∃t,prX m.ex i=t:=⟨_,rfl⟩
 rw[ht] at hsz ⊢
 have HT:=hidI ht
 clear ht
 go_wp2
 go_ret
 exact⟨zcd (by rw[HV.out,HT.out]),HB.out⟩
theorem zbkc (base:Nat) (S:Sv) (m:Md) (k:Int) (n:ByteArray) (i:Nat) (w:World) (h:OwnMd w base S m) (hi:i<m.ex.length) (hn:Nums m.ex) (ha:zfs m.ex) (hw:wt m.ex i≤1099511627776) (hs:n.size≤4294967296) (k1:(k==1)=false) (k2:(k==2)=false) (k3:(k==3)=true):
  Calls Tryz.prog 79 #[modD S m,.agg #[.int .i64 k,.string n,.int .i64 (i:Int)]] w fun e w'=>e= .returned (.string (zcy k n (prX m.ex i)))∧Below w.heap.size w w':=by
 have HH:=hidI h
 have HV:Hid (zcy k n (prX m.ex i)=n++({data:=#[32,61,32]}:ByteArray)++prX m.ex i++({data:=#[59,10]}:ByteArray)):=by show _=_;rw[zcy,k1,k2,k3];rfl
 have hsz:=hw
 unfold wt at hsz
 have HX:=hidI (And.intro (zdu (o':=.cells #[.int .i64 k,.string n,.int .i64 (i:Int)] 123) (heap_alloc_new w (.cells #[.slice S.rq.a m.rq.length S.rq.cap,.slice S.im.a m.im.length S.im.cap,.slice S.ep.a m.ep.length S.ep.cap,.slice S.st.a m.st.length S.st.cap,.slice S.ex.a m.ex.length S.ex.cap] 54))) (new2 w (.cells #[.slice S.rq.a m.rq.length S.rq.cap,.slice S.im.a m.im.length S.im.cap,.slice S.ep.a m.ep.length S.ep.cap,.slice S.st.a m.st.length S.st.cap,.slice S.ex.a m.ex.length S.ex.cap] 54) (.cells #[.int .i64 k,.string n,.int .i64 (i:Int)] 123)))
 clear h
 unfold modD
 go_enter Tryz.func79,Tryz.ntmps79
 go_wp2_with fail
 refine (zhh base S m i _ hn ha hi ((HH.out.alloc _).alloc _) hw).mono ?_
 rintro e w1 ⟨rfl,hb⟩
 have HB:Hid (Below w.heap.size w w1):=(zdo w _ _).trans (hb.mono (by rw[ze,ze];omega))
 have HX1:=hidI ((hb.block _ (by rw[ze,ze];omega)).trans HX.out.2)
 obtain⟨c0,c1,c2,cf⟩:=zdf HX1.out
 clear hb
 obtain⟨t,ht⟩: ∃t,prX m.ex i=t:=⟨_,rfl⟩
 rw[ht] at hsz ⊢
 have HT:=hidI ht
 clear ht
 go_wp2
 go_ret
 exact⟨zcd (by rw[HV.out,HT.out]),HB.out⟩
theorem zbkd (base:Nat) (S:Sv) (m:Md) (k:Int) (n:ByteArray) (i:Nat) (w:World) (h:OwnMd w base S m) (hi:i<m.ex.length) (hn:Nums m.ex) (ha:zfs m.ex) (hw:wt m.ex i≤1099511627776) (_:n.size≤4294967296) (k1:(k==1)=false) (k2:(k==2)=false) (k3:(k==3)=false) (k4:(k==4)=true):
  Calls Tryz.prog 79 #[modD S m,.agg #[.int .i64 k,.string n,.int .i64 (i:Int)]] w fun e w'=>e= .returned (.string (zcy k n (prX m.ex i)))∧Below w.heap.size w w':=by
 have HH:=hidI h
 have HV:Hid (zcy k n (prX m.ex i)=({data:=#[112,114,105,110,116,40]}:ByteArray)++prX m.ex i++({data:=#[41,59,10]}:ByteArray)):=by show _=_;rw[zcy,k1,k2,k3,k4];rfl
 have hsz:=hw
 unfold wt at hsz
 have HX:=hidI (And.intro (zdu (o':=.cells #[.int .i64 k,.string n,.int .i64 (i:Int)] 123) (heap_alloc_new w (.cells #[.slice S.rq.a m.rq.length S.rq.cap,.slice S.im.a m.im.length S.im.cap,.slice S.ep.a m.ep.length S.ep.cap,.slice S.st.a m.st.length S.st.cap,.slice S.ex.a m.ex.length S.ex.cap] 54))) (new2 w (.cells #[.slice S.rq.a m.rq.length S.rq.cap,.slice S.im.a m.im.length S.im.cap,.slice S.ep.a m.ep.length S.ep.cap,.slice S.st.a m.st.length S.st.cap,.slice S.ex.a m.ex.length S.ex.cap] 54) (.cells #[.int .i64 k,.string n,.int .i64 (i:Int)] 123)))
 clear h
 unfold modD
 go_enter Tryz.func79,Tryz.ntmps79
 go_wp2_with fail
 refine (zhh base S m i _ hn ha hi ((HH.out.alloc _).alloc _) hw).mono ?_
 rintro e w1 ⟨rfl,hb⟩
 have HB:Hid (Below w.heap.size w w1):=(zdo w _ _).trans (hb.mono (by rw[ze,ze];omega))
 have HX1:=hidI ((hb.block _ (by rw[ze,ze];omega)).trans HX.out.2)
 obtain⟨c0,c1,c2,cf⟩:=zdf HX1.out
 clear hb
 obtain⟨t,ht⟩: ∃t,prX m.ex i=t:=⟨_,rfl⟩
 rw[ht] at hsz ⊢
 have HT:=hidI ht
 clear ht
 go_wp2
 go_ret
 exact⟨zcd (by rw[HV.out,HT.out]),HB.out⟩
theorem zbke (base:Nat) (S:Sv) (m:Md) (k:Int) (n:ByteArray) (i:Nat) (w:World) (h:OwnMd w base S m) (hi:i<m.ex.length) (hn:Nums m.ex) (ha:zfs m.ex) (hw:wt m.ex i≤1099511627776) (_:n.size≤4294967296) (k1:(k==1)=false) (k2:(k==2)=false) (k3:(k==3)=false) (k4:(k==4)=false) (k5:(k==5)=true):
  Calls Tryz.prog 79 #[modD S m,.agg #[.int .i64 k,.string n,.int .i64 (i:Int)]] w fun e w'=>e= .returned (.string (zcy k n (prX m.ex i)))∧Below w.heap.size w w':=by
 have HH:=hidI h
 have HV:Hid (zcy k n (prX m.ex i)=({data:=#[116,104,114,111,119,32]}:ByteArray)++prX m.ex i++({data:=#[59,10]}:ByteArray)):=by show _=_;rw[zcy,k1,k2,k3,k4,k5];rfl
 have hsz:=hw
 unfold wt at hsz
 have HX:=hidI (And.intro (zdu (o':=.cells #[.int .i64 k,.string n,.int .i64 (i:Int)] 123) (heap_alloc_new w (.cells #[.slice S.rq.a m.rq.length S.rq.cap,.slice S.im.a m.im.length S.im.cap,.slice S.ep.a m.ep.length S.ep.cap,.slice S.st.a m.st.length S.st.cap,.slice S.ex.a m.ex.length S.ex.cap] 54))) (new2 w (.cells #[.slice S.rq.a m.rq.length S.rq.cap,.slice S.im.a m.im.length S.im.cap,.slice S.ep.a m.ep.length S.ep.cap,.slice S.st.a m.st.length S.st.cap,.slice S.ex.a m.ex.length S.ex.cap] 54) (.cells #[.int .i64 k,.string n,.int .i64 (i:Int)] 123)))
 clear h
 unfold modD
 go_enter Tryz.func79,Tryz.ntmps79
 go_wp2_with fail
 refine (zhh base S m i _ hn ha hi ((HH.out.alloc _).alloc _) hw).mono ?_
 rintro e w1 ⟨rfl,hb⟩
 have HB:Hid (Below w.heap.size w w1):=(zdo w _ _).trans (hb.mono (by rw[ze,ze];omega))
 have HX1:=hidI ((hb.block _ (by rw[ze,ze];omega)).trans HX.out.2)
 obtain⟨c0,c1,c2,cf⟩:=zdf HX1.out
 clear hb
 obtain⟨t,ht⟩: ∃t,prX m.ex i=t:=⟨_,rfl⟩
 rw[ht] at hsz ⊢
 have HT:=hidI ht
 clear ht
 go_wp2
 go_ret
 exact⟨zcd (by rw[HV.out,HT.out]),HB.out⟩
theorem zbkf (base:Nat) (S:Sv) (m:Md) (k:Int) (n:ByteArray) (i:Nat) (w:World) (h:OwnMd w base S m) (hi:i<m.ex.length) (hn:Nums m.ex) (ha:zfs m.ex) (hw:wt m.ex i≤1099511627776) (_:n.size≤4294967296) (k1:(k==1)=false) (k2:(k==2)=false) (k3:(k==3)=false) (k4:(k==4)=false) (k5:(k==5)=false):
  Calls Tryz.prog 79 #[modD S m,.agg #[.int .i64 k,.string n,.int .i64 (i:Int)]] w fun e w'=>e= .returned (.string (zcy k n (prX m.ex i)))∧Below w.heap.size w w':=by
 have HH:=hidI h
 have HV:Hid (zcy k n (prX m.ex i)=({data:=#[102,97,105,108,32]}:ByteArray)++prX m.ex i++({data:=#[59,10]}:ByteArray)):=by show _=_;rw[zcy,k1,k2,k3,k4,k5];rfl
 have hsz:=hw
 unfold wt at hsz
 have HX:=hidI (And.intro (zdu (o':=.cells #[.int .i64 k,.string n,.int .i64 (i:Int)] 123) (heap_alloc_new w (.cells #[.slice S.rq.a m.rq.length S.rq.cap,.slice S.im.a m.im.length S.im.cap,.slice S.ep.a m.ep.length S.ep.cap,.slice S.st.a m.st.length S.st.cap,.slice S.ex.a m.ex.length S.ex.cap] 54))) (new2 w (.cells #[.slice S.rq.a m.rq.length S.rq.cap,.slice S.im.a m.im.length S.im.cap,.slice S.ep.a m.ep.length S.ep.cap,.slice S.st.a m.st.length S.st.cap,.slice S.ex.a m.ex.length S.ex.cap] 54) (.cells #[.int .i64 k,.string n,.int .i64 (i:Int)] 123)))
 clear h
 unfold modD
 go_enter Tryz.func79,Tryz.ntmps79
 go_wp2_with fail
 refine (zhh base S m i _ hn ha hi ((HH.out.alloc _).alloc _) hw).mono ?_
 rintro e w1 ⟨rfl,hb⟩
 have HB:Hid (Below w.heap.size w w1):=(zdo w _ _).trans (hb.mono (by rw[ze,ze];omega))
 have HX1:=hidI ((hb.block _ (by rw[ze,ze];omega)).trans HX.out.2)
 obtain⟨c0,c1,c2,cf⟩:=zdf HX1.out
 clear hb
 obtain⟨t,ht⟩: ∃t,prX m.ex i=t:=⟨_,rfl⟩
 rw[ht] at hsz ⊢
 have HT:=hidI ht
 clear ht
 go_wp2
 go_ret
 exact⟨zcd (by rw[HV.out,HT.out]),HB.out⟩
theorem zbep (base:Nat) (S:Sv) (m:Md) (k:Int) (n:ByteArray) (i:Nat) (w:World) (h:OwnMd w base S m) (hi:i<m.ex.length) (hn:Nums m.ex) (ha:zfs m.ex) (hw:wt m.ex i≤1099511627776) (hs:n.size≤4294967296):
  Calls Tryz.prog 79 #[modD S m,.agg #[.int .i64 k,.string n,.int .i64 (i:Int)]] w fun e w'=>e= .returned (.string (zcy k n (prX m.ex i)))∧Below w.heap.size w w':=by
 cases k1:(k==1) with
 |true=>
  cases en:(n.toList==[42,100,101,102,97,117,108,116]) with
  |true=>exact zbjz base S m k n i w h hi hn ha hw hs k1 en
  |false=>exact zbka base S m k n i w h hi hn ha hw hs k1 en
 |false=>
  cases k2:(k==2) with
  |true=>exact zbkb base S m k n i w h hi hn ha hw hs k1 k2
  |false=>
   cases k3:(k==3) with
   |true=>exact zbkc base S m k n i w h hi hn ha hw hs k1 k2 k3
   |false=>
    cases k4:(k==4) with
    |true=>exact zbkd base S m k n i w h hi hn ha hw hs k1 k2 k3 k4
    |false=>
     cases k5:(k==5) with
     |true=>exact zbke base S m k n i w h hi hn ha hw hs k1 k2 k3 k4 k5
     |false=>exact zbkf base S m k n i w h hi hn ha hw hs k1 k2 k3 k4 k5
theorem zof {α:Type} {l:List α} {j:Nat} (h:j<l.length): ∃x,l[j]? =some x:=⟨_,List.getElem?_eq_getElem h⟩
theorem zbkg (t:ByteArray):t++sNone=t:=by
 cases t with
 |mk d=>
  show ByteArray.append _ _=_
  simp[ByteArray.append]
theorem zbpa (m:Md):(acc (stF m.ex) m.st (zhd m)).size≤(zhe m).size:=Nat.le_refl _
theorem zbkm (m:Md):(acc epF m.ep (acc impT m.im (acc rqT m.rq sNone))).size≤(zhe m).size:=zis _ _ _
theorem zbkn (m:Md):(acc impT m.im (acc rqT m.rq sNone)).size≤(zhe m).size:=Nat.le_trans (zis _ _ _) (zbkm m)
theorem zbpb (m:Md):(acc rqT m.rq sNone).size≤(zhe m).size:=Nat.le_trans (zis _ _ _) (zbkn m)
theorem zbng (k:Int) (n e:ByteArray):e.size≤(zcy k n e).size:=by
 unfold zcy
 repeat (first|split|(simp only[ByteArray.size_append];omega))
theorem zsz (base:Nat) (S:Sv) (m:Md) (scr:Bool) (w:World) (h:OwnMd w base S m) (hm:Small m) (hsz:Tree m→(zhe m).size≤1099511627776):
  Calls Tryz.prog 32 #[modD S m,.bool scr] w fun e w'=>PrintOut (zhe m) m e∧Below w.heap.size w w':=by
 have HH:=hidI h
 have SM:=hidI hm
 have HU:=hidI hsz
 obtain⟨f1,f2,f3,f4,f5⟩:=hm.few
 clear h hm hsz
 unfold modD
 go_enter Tryz.func32,Tryz.ntmps32
 go_wp2_with fail
 refine (zbdu base S m _ (HH.out.alloc _) f5 f4).mono ?_
 rintro e w1 ⟨⟨b,rfl,hb⟩,bel⟩
 have HT:=hidI hb
 have HB1:Hid (Below w.heap.size w w1):=((Below.refl _ _).alloc (Nat.le_refl _) _).trans (bel.mono (by rw[ze];omega))
 have HX1:Hid (w1.heap[w.heap.size]? =some (.cells #[.slice S.rq.a m.rq.length S.rq.cap,.slice S.im.a m.im.length S.im.cap,.slice S.ep.a m.ep.length S.ep.cap,.slice S.st.a m.st.length S.st.cap,.slice S.ex.a m.ex.length S.ex.cap] 54 (0,0))):=(bel.block _ (by rw[ze];omega)).trans (heap_alloc_new w _)
 have HO1:=hidI (HH.out.later HB1.out)
 clear hb bel
 obtain⟨c0,c1,c2,c3,c4,cf⟩:=zi HX1.out
 cases b with
 |false=>
  go_wp2
  go_ret
  exact⟨.inr ⟨(fun t=>by have:=HT.out.2 t;cases this),rfl⟩,HB1.out⟩
 |true=>
  have TR:=hidI (HT.out.1 rfl)
  have HZ:=hidI (HU.out TR.out)
  go_wp2
  go_loopg [5,6] m.rq.length (fun k t i wr=>∃(j:Nat) (tx:ByteArray),i= .int .i64 j∧t= .string tx∧j+k=m.rq.length∧tx=acc rqT (m.rq.take j) sNone∧OwnMd wr base S m∧wr.heap[w.heap.size]? =some (.cells #[.slice S.rq.a m.rq.length S.rq.cap,.slice S.im.a m.im.length S.im.cap,.slice S.ep.a m.ep.length S.ep.cap,.slice S.st.a m.st.length S.st.cap,.slice S.ex.a m.ex.length S.ex.cap] 54 (0,0))∧Below w.heap.size w wr)
  case atStart=>exact⟨0,_,rfl,rfl,by omega,rfl,HO1.out,HX1.out,HB1.out⟩
  case round=>
   obtain⟨j,tx,rfl,rfl,hj,htx,ho,hx,hb⟩:=hrel
   have HTX0:=hidI htx
   have HO:=hidI ho
   have HX:=hidI hx
   have HB:=hidI hb
   clear htx ho hx hb c0 c1 c2 c3 c4 cf
   obtain⟨c0,c1,c2,c3,c4,cf⟩:=zi HX.out
   have hwl:=(Array.getElem?_eq_some_iff.1 HX.out).1
   by_cases hlt:j<m.rq.length
   ·have hlti:(j:Int)<(m.rq.length:Int):=by omega
    obtain⟨x,hxj⟩:=zof hlt
    have hmem:=List.mem_of_getElem? hxj
    have HS:=hidI (zeq rqT hxj sNone)
    have hpart:=zhs rqT m.rq (j+1) sNone
    rw[HS.out,←HTX0.out,ByteArray.size_append] at hpart
    have htot:(acc rqT m.rq sNone).size≤1099511627776:=Nat.le_trans (zbpb m) HZ.out
    obtain⟨j1,hj1⟩: ∃j1,j1=j+1:=⟨_,rfl⟩
    have ej:(j:Int)+1=(j1:Int):=by omega
    have HJ:=hidI hj1
    clear hj1
    have hs1:tx.size≤1099511627776:=by omega
    obtain⟨g,hg,hc⟩:=HO.out.rq.text hlt
    rw[hg] at c0
    have hxg:m.rq.getD j sNone=x:=by rw[List.getD,hxj];rfl
    rw[hxg] at hc
    clear hg hxg
    have hxs:=SM.out.rq x hmem
    obtain⟨qt,hqt⟩: ∃t,zch x=t:=⟨_,rfl⟩
    have hqs:=zoe x
    rw[hqt] at hqs
    have hq2:qt.size≤8589934592:=by omega
    have QT:=hidI hqt
    clear hqt hqs hpart htot hxj hmem
    go_wp2_with fail
    refine (zkm x _ (by omega)).mono ?_
    rintro e w2 ⟨rfl,hw⟩
    rw[hw,QT.out]
    clear hw w2
    go_wp2
    go_roundg (gk-1)
    case rel=>exact⟨j1,_,rfl,rfl,by have:=HJ.out;omega,by rw[HJ.out,HS.out,←HTX0.out,rqT,QT.out,ByteArray.append_assoc,ByteArray.append_assoc,ByteArray.append_assoc],HO.out,HX.out,HB.out⟩
    case measure=>omega
   ·have hlti: ¬(j:Int)<(m.rq.length:Int):=by omega
    have HTX:Hid (tx=acc rqT m.rq sNone):=by show tx=_;rw[HTX0.out,List.take_of_length_le (by omega)]
    clear HTX0
    go_wp2
    go_loopg [5,7] m.im.length (fun k t i wr=>∃(j:Nat) (tx:ByteArray),i= .int .i64 j∧t= .string tx∧j+k=m.im.length∧tx=acc impT (m.im.take j) (acc rqT m.rq sNone)∧OwnMd wr base S m∧wr.heap[w.heap.size]? =some (.cells #[.slice S.rq.a m.rq.length S.rq.cap,.slice S.im.a m.im.length S.im.cap,.slice S.ep.a m.ep.length S.ep.cap,.slice S.st.a m.st.length S.st.cap,.slice S.ex.a m.ex.length S.ex.cap] 54 (0,0))∧Below w.heap.size w wr)
    case atStart=>exact⟨0,_,rfl,rfl,by omega,HTX.out,HO.out,HX.out,HB.out⟩
    case round=>
     obtain⟨j,tx,rfl,rfl,hj,htx,ho,hx,hb⟩:=hrel
     have HTX0:=hidI htx
     have HO:=hidI ho
     have HX:=hidI hx
     have HB:=hidI hb
     clear htx ho hx hb c0 c1 c2 c3 c4 cf
     obtain⟨c0,c1,c2,c3,c4,cf⟩:=zi HX.out
     have hwl:=(Array.getElem?_eq_some_iff.1 HX.out).1
     by_cases hlt:j<m.im.length
     ·have hlti:(j:Int)<(m.im.length:Int):=by omega
      obtain⟨x,hxj⟩:=zof hlt
      have hmem:=List.mem_of_getElem? hxj
      have HS:=hidI (zeq impT hxj (acc rqT m.rq sNone))
      have hpart:=zhs impT m.im (j+1) (acc rqT m.rq sNone)
      rw[HS.out,←HTX0.out,ByteArray.size_append] at hpart
      have htot:(acc impT m.im (acc rqT m.rq sNone)).size≤1099511627776:=Nat.le_trans (zbkn m) HZ.out
      obtain⟨j1,hj1⟩: ∃j1,j1=j+1:=⟨_,rfl⟩
      have ej:(j:Int)+1=(j1:Int):=by omega
      have HJ:=hidI hj1
      clear hj1
      have hs1:tx.size≤1099511627776:=by omega
      obtain⟨g,hg,hcl⟩:=OwnR.elem (f:=imL) (m:=3) (fun _=>rfl) HO.out.im hxj
      rw[hg] at c1
      have k0:=hcl 0 (by omega)
      have k1:=hcl 1 (by omega)
      have k2:=hcl 2 (by omega)
      simp only[imL,Nat.add_zero,List.getElem?_cons_zero,List.getElem?_cons_succ] at k0 k1 k2
      obtain⟨z1,z2,z3⟩:=SM.out.im x hmem
      clear hg hcl hxj hmem
      obtain⟨pt,hpt⟩: ∃t,impT x=t:=⟨_,rfl⟩
      have hp2:pt.size≤1099511627776:=by rw[←hpt];omega
      have PT:=hidI hpt
      clear hpt hpart htot
      go_wp2_with fail
      refine (zbhk x _ z1 z2 z3).mono ?_
      rintro e w2 ⟨rfl,hb⟩
      rw[PT.out]
      have HO2:=hidI (HO.out.later hb)
      have HX2:=hidI ((hb.block _ hwl).trans HX.out)
      have HB2:=hidI (HB.out.trans (hb.mono HB.out.size))
      clear hb
      go_wp2
      go_roundg (gk-1)
      case rel=>exact⟨j1,_,rfl,rfl,by have:=HJ.out;omega,by rw[HJ.out,HS.out,←HTX0.out,PT.out],HO2.out,HX2.out,HB2.out⟩
      case measure=>omega
     ·have hlti: ¬(j:Int)<(m.im.length:Int):=by omega
      have HTX:Hid (tx=acc impT m.im (acc rqT m.rq sNone)):=by show tx=_;rw[HTX0.out,List.take_of_length_le (by omega)]
      clear HTX0
      go_wp2
      go_loopg [5,8] m.ep.length (fun k t i wr=>∃(j:Nat) (tx:ByteArray),i= .int .i64 j∧t= .string tx∧j+k=m.ep.length∧tx=acc epF (m.ep.take j) (acc impT m.im (acc rqT m.rq sNone))∧OwnMd wr base S m∧wr.heap[w.heap.size]? =some (.cells #[.slice S.rq.a m.rq.length S.rq.cap,.slice S.im.a m.im.length S.im.cap,.slice S.ep.a m.ep.length S.ep.cap,.slice S.st.a m.st.length S.st.cap,.slice S.ex.a m.ex.length S.ex.cap] 54 (0,0))∧Below w.heap.size w wr)
      case atStart=>exact⟨0,_,rfl,rfl,by omega,HTX.out,HO.out,HX.out,HB.out⟩
      case round=>
       obtain⟨j,tx,rfl,rfl,hj,htx,ho,hx,hb⟩:=hrel
       have HTX0:=hidI htx
       have HO:=hidI ho
       have HX:=hidI hx
       have HB:=hidI hb
       clear htx ho hx hb c0 c1 c2 c3 c4 cf
       obtain⟨c0,c1,c2,c3,c4,cf⟩:=zi HX.out
       have hwl:=(Array.getElem?_eq_some_iff.1 HX.out).1
       by_cases hlt:j<m.ep.length
       ·have hlti:(j:Int)<(m.ep.length:Int):=by omega
        obtain⟨x,hxj⟩:=zof hlt
        have hmem:=List.mem_of_getElem? hxj
        have HS:=hidI (zeq epF hxj (acc impT m.im (acc rqT m.rq sNone)))
        have hpart:=zhs epF m.ep (j+1) (acc impT m.im (acc rqT m.rq sNone))
        rw[HS.out,←HTX0.out,ByteArray.size_append] at hpart
        have htot:(acc epF m.ep (acc impT m.im (acc rqT m.rq sNone))).size≤1099511627776:=Nat.le_trans (zbkm m) HZ.out
        obtain⟨j1,hj1⟩: ∃j1,j1=j+1:=⟨_,rfl⟩
        have ej:(j:Int)+1=(j1:Int):=by omega
        have HJ:=hidI hj1
        clear hj1
        have hs1:tx.size≤1099511627776:=by omega
        obtain⟨g,hg,hcl⟩:=OwnR.elem (f:=epL) (m:=4) (fun _=>rfl) HO.out.ep hxj
        rw[hg] at c2
        have k0:=hcl 0 (by omega)
        have k1:=hcl 1 (by omega)
        have k2:=hcl 2 (by omega)
        have k3:=hcl 3 (by omega)
        simp only[epL,Nat.add_zero,List.getElem?_cons_zero,List.getElem?_cons_succ] at k0 k1 k2 k3
        obtain⟨z1,z2,z3⟩:=SM.out.ep x hmem
        clear hg hcl hxj hmem
        cases hd:(x.loc.toList==[42,100,101,102,97,117,108,116]) with
        |true=>
         clear hpart htot
         go_wp2
         go_roundg (gk-1)
         case rel=>exact⟨j1,_,rfl,rfl,by have:=HJ.out;omega,by rw[HJ.out,HS.out,←HTX0.out,epF,hd];show tx=tx++sNone;rw[zbkg],HO.out,HX.out,HB.out⟩
         case measure=>omega
        |false=>
         obtain⟨pt,hpt⟩: ∃t,expT x=t:=⟨_,rfl⟩
         have hp2:pt.size≤1099511627776:=by rw[←hpt,←show epF x=expT x from (by rw[epF,hd];rfl)];omega
         have PT:=hidI hpt
         clear hpt hpart htot
         go_wp2_with fail
         refine (zbhl x _ z1 z2 z3).mono ?_
         rintro e w2 ⟨rfl,hb⟩
         rw[PT.out]
         have HO2:=hidI (HO.out.later hb)
         have HX2:=hidI ((hb.block _ hwl).trans HX.out)
         have HB2:=hidI (HB.out.trans (hb.mono HB.out.size))
         clear hb
         go_wp2
         go_roundg (gk-1)
         case rel=>exact⟨j1,_,rfl,rfl,by have:=HJ.out;omega,by rw[HJ.out,HS.out,←HTX0.out,epF,hd];show _=tx++expT x;rw[PT.out],HO2.out,HX2.out,HB2.out⟩
         case measure=>omega
       ·have hlti: ¬(j:Int)<(m.ep.length:Int):=by omega
        have HTX:Hid (tx=acc epF m.ep (acc impT m.im (acc rqT m.rq sNone))):=by show tx=_;rw[HTX0.out,List.take_of_length_le (by omega)]
        clear HTX0
        go_wp2
        go_loopg [5,9] m.st.length (fun k t i wr=>∃(j:Nat) (tx:ByteArray),i= .int .i64 j∧t= .string tx∧j+k=m.st.length∧tx=acc (stF m.ex) (m.st.take j) (zhd m)∧OwnMd wr base S m∧wr.heap[w.heap.size]? =some (.cells #[.slice S.rq.a m.rq.length S.rq.cap,.slice S.im.a m.im.length S.im.cap,.slice S.ep.a m.ep.length S.ep.cap,.slice S.st.a m.st.length S.st.cap,.slice S.ex.a m.ex.length S.ex.cap] 54 (0,0))∧Below w.heap.size w wr)
        case atStart=>exact⟨0,_,rfl,rfl,by omega,HTX.out,HO.out,HX.out,HB.out⟩
        case round=>
         obtain⟨j,tx,rfl,rfl,hj,htx,ho,hx,hb⟩:=hrel
         have HTX0:=hidI htx
         have HO:=hidI ho
         have HX:=hidI hx
         have HB:=hidI hb
         clear htx ho hx hb c0 c1 c2 c3 c4 cf
         obtain⟨c0,c1,c2,c3,c4,cf⟩:=zi HX.out
         have hwl:=(Array.getElem?_eq_some_iff.1 HX.out).1
         by_cases hlt:j<m.st.length
         ·have hlti:(j:Int)<(m.st.length:Int):=by omega
          obtain⟨x,hxj⟩:=zof hlt
          have hmem:=List.mem_of_getElem? hxj
          have HS:=hidI (zeq (stF m.ex) hxj (zhd m))
          have hpart:=zhs (stF m.ex) m.st (j+1) (zhd m)
          rw[HS.out,←HTX0.out,ByteArray.size_append] at hpart
          have htot:(acc (stF m.ex) m.st (zhd m)).size≤1099511627776:=Nat.le_trans (zbpa m) HZ.out
          obtain⟨j1,hj1⟩: ∃j1,j1=j+1:=⟨_,rfl⟩
          have ej:(j:Int)+1=(j1:Int):=by omega
          have HJ:=hidI hj1
          clear hj1
          have hs1:tx.size≤1099511627776:=by omega
          obtain⟨g,hg,hcl⟩:=OwnR.elem (f:=smL) (m:=3) (fun _=>rfl) HO.out.st hxj
          rw[hg] at c3
          have k0:=hcl 0 (by omega)
          have k1:=hcl 1 (by omega)
          have k2:=hcl 2 (by omega)
          simp only[smL,Nat.add_zero,List.getElem?_cons_zero,List.getElem?_cons_succ] at k0 k1 k2
          have z1:=SM.out.st x hmem
          obtain⟨t1,t2⟩:=TR.out.stm x hmem
          obtain⟨en,hen⟩: ∃en:Nat,x.expr=(en:Int):=⟨x.expr.toNat,by omega⟩
          obtain⟨pt,hpt⟩: ∃t,zcy x.kind x.name (prX m.ex en)=t:=⟨_,rfl⟩
          have hsf:stF m.ex x=pt:=by rw[stF,hen,Int.toNat_natCast,hpt]
          rw[hsf] at HS hpart
          have hp2:pt.size≤1099511627776:=by omega
          have hwt:wt m.ex en≤1099511627776:=by have:=zbng x.kind x.name (prX m.ex en);rw[hpt] at this;unfold wt;omega
          rw[hen] at k2
          have HG:=hidI hg
          have cS: ∀d os,Calls Tryz.prog 79 #[.agg #[.slice S.rq.a m.rq.length S.rq.cap,.slice S.im.a m.im.length S.im.cap,.slice S.ep.a m.ep.length S.ep.cap,.slice (some ⟨g,0,none⟩) m.st.length S.st.cap,.slice S.ex.a m.ex.length S.ex.cap],.agg #[.int .i64 x.kind,.string x.name,.int .i64 (en:Int)]] (grow (redrawn wr d) os) fun e w''=>e= .returned (.string pt)∧∃p:Regrown,w''=grow (redrawn wr p.d) p.os:=fun d os=>Calls.regrown_of (by rw[←hpt,←hg];exact zbep base S m x.kind x.name en _ (HO.out.later (below_regrown _ d os)) (by omega) SM.out.nums TR.out.ahead hwt z1)
          have C0:=hidI c0
          have C1:=hidI c1
          have C2:=hidI c2
          have C3:=hidI c3
          have C4:=hidI c4
          have K0:=hidI k0
          have K1:=hidI k1
          have K2:=hidI k2
          clear hg hcl hxj hmem hpt hsf hpart htot hen HG
          go_wp2_with fail
          have y0:=cell_regrown C0.out
          have y1:=cell_regrown C1.out
          have y2:=cell_regrown C2.out
          have y3:=cell_regrown C3.out
          have y4:=cell_regrown C4.out
          have w0':=cell_regrown K0.out
          have w1':=cell_regrown K1.out
          have w2':=cell_regrown K2.out
          refine wp_region_quiet_below (by kernel_rfl) (by kernel_rfl) ?_
          repeat (go_big_quiet_step (with_reducible exact cS _ _))
          refine wpQuiet_nil ?_
          intro w2 hw'
          obtain⟨⟨dq,osq⟩,hw''⟩:=hw'
          have hb:Below wr.heap.size wr w2:=by rw[hw''];exact below_regrown _ _ _
          have HO2:=hidI (HO.out.later hb)
          have HX2:=hidI ((hb.block _ hwl).trans HX.out)
          have HB2:=hidI (HB.out.trans (hb.mono HB.out.size))
          clear hb hw'' y0 y1 y2 y3 y4 w0' w1' w2' cS
          go_wp2
          go_roundg (gk-1)
          case rel=>exact⟨j1,_,rfl,rfl,by have:=HJ.out;omega,by rw[HJ.out,HS.out,←HTX0.out],HO2.out,HX2.out,HB2.out⟩
          case measure=>omega
         ·have hlti: ¬(j:Int)<(m.st.length:Int):=by omega
          have HTX:Hid (tx=acc (stF m.ex) m.st (zhd m)):=by show tx=_;rw[HTX0.out,List.take_of_length_le (by omega)]
          clear HTX0
          go_wp2
          go_ret
          exact⟨.inl ⟨TR.out,zcd HTX.out⟩,HB.out⟩
end Go.Proofs.YtmnemfookpjhiaaGreat
