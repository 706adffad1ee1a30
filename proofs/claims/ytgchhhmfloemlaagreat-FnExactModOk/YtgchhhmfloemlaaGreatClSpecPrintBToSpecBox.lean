/-
  What l5Expr of the specification answers of a product: the walk.
  What l5Expr of the specification answers,whole. No walk is here.
  What l5As,l5Quote,l5Imp,l5Exp and l5Stmt of the specification answer: the walks.
  What spec.Print answers: the walk.
  What spec's l4Spec answers: the walk.
  Boxes of a program under way,through calls and stores. No program is spoken of but for the numbers of its types.
-/
import Derived.Test.YtgchhhmfloemlaaGreatClImplParseEToImplParseG
import Derived.Test.YtgchhhmfloemlaaGreatClTwoModToSameSpec
import Derived.Test.YtgchhhmfloemlaaGreatClEqModToImplParseQ
import Derived.Test.YtgchhhmfloemlaaGreatClSpecTreeToImplPrintA
import Derived.Deep.Cut
namespace Go.Proofs.YtgchhhmfloemlaaGreat
open Go.RowKit Go.PlainAid Go.Sort

set_option maxRecDepth 100000 in
set_option maxHeartbeats 12800000 in
theorem zbhr (base g : Nat) (S : Sv) (m : Md) (i ln rn : Nat) (k nu : Int) (nm fi : ByteArray) (w : World) (hex : S.ex.a = some ⟨g,0,none⟩) (h : OwnMd w base S m) (hi : i < m.ex.length) (hlt : g < w.heap.size) (c0 : w.cell? ⟨g,i * 6,none⟩ = some (.int .i64 k)) (c1 : w.cell? ⟨g,i * 6 + 1,none⟩ = some (.int .i64 nu)) (c2 : w.cell? ⟨g,i * 6 + 2,none⟩ = some (.string nm)) (c3 : w.cell? ⟨g,i * 6 + 3,none⟩ = some (.string fi)) (c4 : w.cell? ⟨g,i * 6 + 4,none⟩ = some (.int .i64 (ln : Int))) (c5 : w.cell? ⟨g,i * 6 + 5,none⟩ = some (.int .i64 (rn : Int))) (k1 : (k == 1) = false) (k2 : (k == 2) = false) (k3 : (k == 3) = false) (k4 : (k == 4) = false) (k5 : (k == 5) = false) (k6 : (k == 6) = false) (k7 : (k == 7) = false) (k8 : (k == 8) = true) (hsz : (zbj (sumK (m.ex.getD ln exNo).kind) (prX m.ex ln) ++ tStar ++ zbj (twoK (m.ex.getD rn exNo).kind) (prX m.ex rn)).size ≤ 1099511627776) (he : zlw base S m i) (hl : ln < i) (hr : rn < i) (hwl : wt m.ex ln ≤ 1099511627776) (hwr : wt m.ex rn ≤ 1099511627776) :
  Calls Tryz.prog 121 #[modD S m,.int .i64 i] w fun e w' => e = .returned (.string (zbj (sumK (m.ex.getD ln exNo).kind) (prX m.ex ln) ++ tStar ++ zbj (twoK (m.ex.getD rn exNo).kind) (prX m.ex rn))) ∧ Below w.heap.size w w':=by
 have hii : (i : Int) < (m.ex.length : Int):=by omega
 have HA : Hid (OwnMd ((w.alloc (.cells #[.slice S.rq.a m.rq.length S.rq.cap,.slice S.im.a m.im.length S.im.cap,.slice S.ep.a m.ep.length S.ep.cap,.slice S.st.a m.st.length S.st.cap,.slice (some ⟨g,0,none⟩) m.ex.length S.ex.cap] 36)).alloc (.cells #[.int .i64 k,.int .i64 nu,.string nm,.string fi,.int .i64 (ln : Int),.int .i64 (rn : Int)] 106)) base S m):=(h.alloc _).alloc _
 have HE:=hidI he
 have HMV : Hid (modD S m = .agg #[.slice S.rq.a m.rq.length S.rq.cap,.slice S.im.a m.im.length S.im.cap,.slice S.ep.a m.ep.length S.ep.cap,.slice S.st.a m.st.length S.st.cap,.slice (some ⟨g,0,none⟩) m.ex.length S.ex.cap]):=by show _ = _; rw [modD,hex]
 have hli : (ln : Int) < (m.ex.length : Int):=by omega
 have hri : (rn : Int) < (m.ex.length : Int):=by omega
 obtain ⟨g2,hg2,-,d0,-,-,-,-,-⟩:=h.expr (i:=rn) (by omega)
 have eg : g2 = g:=by have:=hg2.symm.trans hex; simpa using this
 rw [eg] at d0
 obtain ⟨kr,hkr⟩ : ∃ kr,(m.ex.getD rn exNo).kind = kr:=⟨_,rfl⟩
 rw [hkr] at d0
 have HKR:=hidI hkr
 obtain ⟨tl,htl⟩ : ∃ tl,zbj (sumK (m.ex.getD ln exNo).kind) (prX m.ex ln) = tl:=⟨_,rfl⟩
 obtain ⟨tr,htr⟩ : ∃ tr,zbj (twoK (m.ex.getD rn exNo).kind) (prX m.ex rn) = tr:=⟨_,rfl⟩
 rw [htl,htr] at hsz
 have HTL:=hidI htl
 have HTR:=hidI htr
 obtain ⟨kl,hkl⟩ : ∃ kl,(m.ex.getD ln exNo).kind = kl:=⟨_,rfl⟩
 have cK : ∀ d os,Calls Tryz.prog 156 #[.agg #[.slice S.rq.a m.rq.length S.rq.cap,.slice S.im.a m.im.length S.im.cap,.slice S.ep.a m.ep.length S.ep.cap,.slice S.st.a m.st.length S.st.cap,.slice (some ⟨g,0,none⟩) m.ex.length S.ex.cap],.int .i64 (ln : Int)] (grow (redrawn ((w.alloc (.cells #[.slice S.rq.a m.rq.length S.rq.cap,.slice S.im.a m.im.length S.im.cap,.slice S.ep.a m.ep.length S.ep.cap,.slice S.st.a m.st.length S.st.cap,.slice (some ⟨g,0,none⟩) m.ex.length S.ex.cap] 36)).alloc (.cells #[.int .i64 k,.int .i64 nu,.string nm,.string fi,.int .i64 (ln : Int),.int .i64 (rn : Int)] 106)) d) os) fun e w'' => e = .returned (.bool (sumK kl)) ∧ ∃ p : Regrown,w'' = grow (redrawn ((w.alloc (.cells #[.slice S.rq.a m.rq.length S.rq.cap,.slice S.im.a m.im.length S.im.cap,.slice S.ep.a m.ep.length S.ep.cap,.slice S.st.a m.st.length S.st.cap,.slice (some ⟨g,0,none⟩) m.ex.length S.ex.cap] 36)).alloc (.cells #[.int .i64 k,.int .i64 nu,.string nm,.string fi,.int .i64 (ln : Int),.int .i64 (rn : Int)] 106)) p.d) p.os:=fun d os => Calls.regrown_of (by rw [← HMV.out,← hkl]; exact znw base S m ln _ (HA.out.later (below_regrown _ d os)) (by omega))
 have cL : ∀ d os,Calls Tryz.prog 155 #[.agg #[.slice S.rq.a m.rq.length S.rq.cap,.slice S.im.a m.im.length S.im.cap,.slice S.ep.a m.ep.length S.ep.cap,.slice S.st.a m.st.length S.st.cap,.slice (some ⟨g,0,none⟩) m.ex.length S.ex.cap],.int .i64 (ln : Int),.bool (sumK kl)] (grow (redrawn ((w.alloc (.cells #[.slice S.rq.a m.rq.length S.rq.cap,.slice S.im.a m.im.length S.im.cap,.slice S.ep.a m.ep.length S.ep.cap,.slice S.st.a m.st.length S.st.cap,.slice (some ⟨g,0,none⟩) m.ex.length S.ex.cap] 36)).alloc (.cells #[.int .i64 k,.int .i64 nu,.string nm,.string fi,.int .i64 (ln : Int),.int .i64 (rn : Int)] 106)) d) os) fun e w'' => e = .returned (.string tl) ∧ ∃ p : Regrown,w'' = grow (redrawn ((w.alloc (.cells #[.slice S.rq.a m.rq.length S.rq.cap,.slice S.im.a m.im.length S.im.cap,.slice S.ep.a m.ep.length S.ep.cap,.slice S.st.a m.st.length S.st.cap,.slice (some ⟨g,0,none⟩) m.ex.length S.ex.cap] 36)).alloc (.cells #[.int .i64 k,.int .i64 nu,.string nm,.string fi,.int .i64 (ln : Int),.int .i64 (rn : Int)] 106)) p.d) p.os:=fun d os => Calls.regrown_of (by rw [← HMV.out,← HTL.out,hkl]; exact zle base S m i ln _ _ HE.out (by omega) (by omega) (HA.out.later (below_regrown _ d os)) hwl)
 have cS : ∀ d os,Calls Tryz.prog 119 #[.int .i64 kr] (grow (redrawn ((w.alloc (.cells #[.slice S.rq.a m.rq.length S.rq.cap,.slice S.im.a m.im.length S.im.cap,.slice S.ep.a m.ep.length S.ep.cap,.slice S.st.a m.st.length S.st.cap,.slice (some ⟨g,0,none⟩) m.ex.length S.ex.cap] 36)).alloc (.cells #[.int .i64 k,.int .i64 nu,.string nm,.string fi,.int .i64 (ln : Int),.int .i64 (rn : Int)] 106)) d) os) fun e w'' => e = .returned (.bool (twoK kr)) ∧ ∃ p : Regrown,w'' = grow (redrawn ((w.alloc (.cells #[.slice S.rq.a m.rq.length S.rq.cap,.slice S.im.a m.im.length S.im.cap,.slice S.ep.a m.ep.length S.ep.cap,.slice S.st.a m.st.length S.st.cap,.slice (some ⟨g,0,none⟩) m.ex.length S.ex.cap] 36)).alloc (.cells #[.int .i64 k,.int .i64 nu,.string nm,.string fi,.int .i64 (ln : Int),.int .i64 (rn : Int)] 106)) p.d) p.os:=fun d os => Calls.regrown_of ((zta kr _).mono (by rintro e w' ⟨rfl,rfl⟩; exact ⟨rfl,Below.refl _ _⟩))
 have cR : ∀ d os,Calls Tryz.prog 155 #[.agg #[.slice S.rq.a m.rq.length S.rq.cap,.slice S.im.a m.im.length S.im.cap,.slice S.ep.a m.ep.length S.ep.cap,.slice S.st.a m.st.length S.st.cap,.slice (some ⟨g,0,none⟩) m.ex.length S.ex.cap],.int .i64 (rn : Int),.bool (twoK kr)] (grow (redrawn ((w.alloc (.cells #[.slice S.rq.a m.rq.length S.rq.cap,.slice S.im.a m.im.length S.im.cap,.slice S.ep.a m.ep.length S.ep.cap,.slice S.st.a m.st.length S.st.cap,.slice (some ⟨g,0,none⟩) m.ex.length S.ex.cap] 36)).alloc (.cells #[.int .i64 k,.int .i64 nu,.string nm,.string fi,.int .i64 (ln : Int),.int .i64 (rn : Int)] 106)) d) os) fun e w'' => e = .returned (.string tr) ∧ ∃ p : Regrown,w'' = grow (redrawn ((w.alloc (.cells #[.slice S.rq.a m.rq.length S.rq.cap,.slice S.im.a m.im.length S.im.cap,.slice S.ep.a m.ep.length S.ep.cap,.slice S.st.a m.st.length S.st.cap,.slice (some ⟨g,0,none⟩) m.ex.length S.ex.cap] 36)).alloc (.cells #[.int .i64 k,.int .i64 nu,.string nm,.string fi,.int .i64 (ln : Int),.int .i64 (rn : Int)] 106)) p.d) p.os:=fun d os => Calls.regrown_of (by rw [← HMV.out,← HTR.out,HKR.out]; exact zle base S m i rn _ _ HE.out (by omega) (by omega) (HA.out.later (below_regrown _ d os)) hwr)
 have X : Hid (Six ((w.alloc (.cells #[.slice S.rq.a m.rq.length S.rq.cap,.slice S.im.a m.im.length S.im.cap,.slice S.ep.a m.ep.length S.ep.cap,.slice S.st.a m.st.length S.st.cap,.slice (some ⟨g,0,none⟩) m.ex.length S.ex.cap] 36)).alloc (.cells #[.int .i64 k,.int .i64 nu,.string nm,.string fi,.int .i64 (ln : Int),.int .i64 (rn : Int)] 106)) (w.heap.size + 1) (.int .i64 k) (.int .i64 nu) (.string nm) (.string fi) (.int .i64 (ln : Int)) (.int .i64 (rn : Int))):=zs (new2 w _ _)
 have Y:=hidI (zi (zdq (o':=.cells #[.int .i64 k,.int .i64 nu,.string nm,.string fi,.int .i64 (ln : Int),.int .i64 (rn : Int)] 106) (heap_alloc_new w (.cells #[.slice S.rq.a m.rq.length S.rq.cap,.slice S.im.a m.im.length S.im.cap,.slice S.ep.a m.ep.length S.ep.cap,.slice S.st.a m.st.length S.st.cap,.slice (some ⟨g,0,none⟩) m.ex.length S.ex.cap] 36))))
 have D0 : Hid (((w.alloc (.cells #[.slice S.rq.a m.rq.length S.rq.cap,.slice S.im.a m.im.length S.im.cap,.slice S.ep.a m.ep.length S.ep.cap,.slice S.st.a m.st.length S.st.cap,.slice (some ⟨g,0,none⟩) m.ex.length S.ex.cap] 36)).alloc (.cells #[.int .i64 k,.int .i64 nu,.string nm,.string fi,.int .i64 (ln : Int),.int .i64 (rn : Int)] 106)).cell? ⟨g,rn * 6,none⟩ = some (.int .i64 kr)):=by show _ = _; rw [World.cell?_alloc_past _ _ _ (by rw [ze]; omega),World.cell?_alloc_past _ _ _ hlt]; exact d0
 simp only [ByteArray.size_append] at hsz
 have hp3 : tStar.size = 3:=rfl
 have hs1 : tl.size ≤ 1099511627776:=by omega
 have hs2 : tr.size ≤ 1099511627776:=by omega
 have HV : Hid ((zbj (sumK (m.ex.getD ln exNo).kind) (prX m.ex ln) ++ tStar ++ zbj (twoK (m.ex.getD rn exNo).kind) (prX m.ex rn)) = tl ++ tStar ++ tr):=by show _ = _; rw [HTL.out,HTR.out]
 unfold modD
 rw [hex]
 clear hex h HA HE HMV HTL HTR htl htr hkr HKR hg2 he hsz hp3 d0 eg hkl
 go_enter Tryz.func121,Tryz.ntmps121
 go_wp2_with fail
 have x0:=cell_regrown X.out.c0
 have x4:=cell_regrown X.out.c4
 have x5:=cell_regrown X.out.c5
 have y0:=cell_regrown Y.out.1
 have y1:=cell_regrown Y.out.2.1
 have y2:=cell_regrown Y.out.2.2.1
 have y3:=cell_regrown Y.out.2.2.2.1
 have y4:=cell_regrown Y.out.2.2.2.2.1
 have e0:=cell_regrown D0.out
 refine wp_region_quiet_below (by kernel_rfl) (by kernel_rfl) ?_
 repeat (go_big_quiet_step (first | with_reducible exact cL _ _ | with_reducible exact cS _ _ | with_reducible exact cR _ _ | with_reducible exact cK _ _))
 refine wpQuiet_nil ?_
 intro w1 hw'
 obtain ⟨⟨dq,osq⟩,hw''⟩:=hw'
 have HB1 : Hid (Below w.heap.size w w1):=by show Below _ _ _; rw [hw'']; exact (zdj w _ _).trans ((below_regrown _ _ _).mono (by rw [ze,ze]; omega))
 clear hw''
 go_wp2
 go_ret
 exact ⟨zcm HV.out.symm,HB1.out⟩
end Go.Proofs.YtgchhhmfloemlaaGreat
namespace Go.Proofs.YtgchhhmfloemlaaGreat
open Go.RowKit Go.PlainAid Go.Sort

theorem zoy (b : Bool) (t : ByteArray) : t.size ≤ (zbj b t).size:=by
 unfold zbj
 split
 ·rw [ByteArray.size_append,ByteArray.size_append]
  omega
 ·exact Nat.le_refl _
theorem zbbx (base : Nat) (S : Sv) (m : Md) (hn : Nums m.ex) (ha : zff m.ex) (n : Nat) : zlw base S m n:=by
 induction n with
 | zero => intro i w hi; omega
 | succ n ih =>
  intro i w hin hi h hw
  by_cases hlt : i < n
  ·exact ih i w hlt hi h hw
  ·have he : zlw base S m i:=by
    have : i = n:=by omega
    rw [this]
    exact ih
   obtain ⟨g,hex,hgl,c0,c1,c2,c3,c4,c5⟩:=h.expr hi
   have hnu:=hn (m.ex.getD i exNo) (by rw [ziw hi]; exact List.getElem_mem hi)
   have hah:=zme ha (i:=i)
   unfold wt at hw
   rw [zpt ha] at hw ⊢
   generalize m.ex.getD i exNo = x at *
   by_cases k1 : (x.kind == 1) = true
   ·rw [if_pos k1]
    exact zbgs g S m i _ _ _ _ _ _ w hex hi hgl c0 c1 c2 c3 c4 c5  k1 hnu
   rw [if_neg k1] at hw ⊢
   by_cases k2 : (x.kind == 2) = true
   ·rw [if_pos k2]
    exact zbgt g S m i _ _ _ _ _ _ w hex hi hgl c0 c1 c2 c3 c4 c5 (by simpa using k1) k2
   rw [if_neg k2] at hw ⊢
   by_cases k3 : (x.kind == 3) = true
   ·rw [if_pos k3] at hw ⊢
    exact zbgu g S m i _ _ _ _ _ _ w hex hi hgl c0 c1 c2 c3 c4 c5 (by simpa using k1) (by simpa using k2) k3 hw
   rw [if_neg k3] at hw ⊢
   by_cases k4 : (x.kind == 4) = true
   ·rw [if_pos k4] at hw ⊢
    exact zbgv g S m i _ _ _ _ _ _ w hex hi hgl c0 c1 c2 c3 c4 c5 (by simpa using k1) (by simpa using k2) (by simpa using k3) k4 hw
   rw [if_neg k4] at hw ⊢
   by_cases k5 : (x.kind == 5) = true
   ·rw [if_pos k5] at hw ⊢
    exact zbgw g S m i _ _ _ _ _ _ w hex hi hgl c0 c1 c2 c3 c4 c5 (by simpa using k1) (by simpa using k2) (by simpa using k3) (by simpa using k4) k5 hw
   rw [if_neg k5] at hw ⊢
   by_cases k6 : (x.kind == 6) = true
   ·rw [if_pos k6] at hw ⊢
    obtain ⟨h1,h2,h3,h4⟩:=hah (zej (.inl k6))
    have hw2:=hw
    rw [ByteArray.size_append,ByteArray.size_append] at hw2
    have s2:=zoy (sumK (m.ex.getD x.r.toNat exNo).kind) (prX m.ex x.r.toNat)
    exact zbgy base g S m i x.l.toNat x.r.toNat _ _ _ _ w hex h hi hgl c0 c1 c2 c3 (by rw [c4,Int.toNat_of_nonneg h1]) (by rw [c5,Int.toNat_of_nonneg h3]) (by simpa using k1) (by simpa using k2) (by simpa using k3) (by simpa using k4) (by simpa using k5) k6 hw he (by omega) (by omega) (by unfold wt; omega) (by unfold wt; omega)
   rw [if_neg k6] at hw ⊢
   by_cases k7 : (x.kind == 7) = true
   ·rw [if_pos k7] at hw ⊢
    obtain ⟨h1,h2,h3,h4⟩:=hah (zej (.inr (.inl k7)))
    have hw2:=hw
    rw [ByteArray.size_append,ByteArray.size_append] at hw2
    have s2:=zoy (sumK (m.ex.getD x.r.toNat exNo).kind) (prX m.ex x.r.toNat)
    exact zbgz base g S m i x.l.toNat x.r.toNat _ _ _ _ w hex h hi hgl c0 c1 c2 c3 (by rw [c4,Int.toNat_of_nonneg h1]) (by rw [c5,Int.toNat_of_nonneg h3]) (by simpa using k1) (by simpa using k2) (by simpa using k3) (by simpa using k4) (by simpa using k5) (by simpa using k6) k7 hw he (by omega) (by omega) (by unfold wt; omega) (by unfold wt; omega)
   rw [if_neg k7] at hw ⊢
   by_cases k8 : (x.kind == 8) = true
   ·rw [if_pos k8] at hw ⊢
    obtain ⟨h1,h2,h3,h4⟩:=hah (zej (.inr (.inr k8)))
    have hw2:=hw
    rw [ByteArray.size_append,ByteArray.size_append] at hw2
    have s1:=zoy (sumK (m.ex.getD x.l.toNat exNo).kind) (prX m.ex x.l.toNat)
    have s2:=zoy (twoK (m.ex.getD x.r.toNat exNo).kind) (prX m.ex x.r.toNat)
    exact zbhr base g S m i x.l.toNat x.r.toNat _ _ _ _ w hex h hi hgl c0 c1 c2 c3 (by rw [c4,Int.toNat_of_nonneg h1]) (by rw [c5,Int.toNat_of_nonneg h3]) (by simpa using k1) (by simpa using k2) (by simpa using k3) (by simpa using k4) (by simpa using k5) (by simpa using k6) (by simpa using k7) k8 hw he (by omega) (by omega) (by unfold wt; omega) (by unfold wt; omega)
   rw [if_neg k8] at hw ⊢
   exact zbgx g S m i _ _ _ _ _ _ w hex hi hgl c0 c1 c2 c3 c4 c5 (by simpa using k1) (by simpa using k2) (by simpa using k3) (by simpa using k4) (by simpa using k5) (by simpa using k6) (by simpa using k7) (by simpa using k8)
theorem zgx (base : Nat) (S : Sv) (m : Md) (i : Nat) (w : World) (hn : Nums m.ex) (ha : zff m.ex) (hi : i < m.ex.length) (h : OwnMd w base S m) (hw : wt m.ex i ≤ 1099511627776) :
  Calls Tryz.prog 121 #[modD S m,.int .i64 i] w fun e w' => e = .returned (.string (prX m.ex i)) ∧ Below w.heap.size w w':=zbbx base S m hn ha (i + 1) i w (Nat.lt_succ_self i) hi h hw
end Go.Proofs.YtgchhhmfloemlaaGreat
namespace Go.Proofs.YtgchhhmfloemlaaGreat
open Go.RowKit Go.PlainAid Go.Sort

set_option maxRecDepth 100000 in
set_option maxHeartbeats 3200000 in
theorem zqh (a b : ByteArray) (w : World) (ha : a.size ≤ 1099511627776) (hb : b.size ≤ 1099511627776) : Calls Tryz.prog 120 #[.string a,.string b] w fun e w' => e = .returned (.string (asT a b)) ∧ w' = w:=by
 cases h : (a.toList == b.toList) with
 | true =>
  have HV : Hid (asT a b = a):=by show _ = _; rw [asT,h]; rfl
  go_enter Tryz.func120,Tryz.ntmps120
  go_wp2
  go_ret
  exact ⟨zcm HV.out.symm,rfl⟩
 | false =>
  have HV : Hid (asT a b = a ++ ({ data:=#[32,97,115,32] } : ByteArray) ++ b):=by show _ = _; rw [asT,h]; rfl
  go_enter Tryz.func120,Tryz.ntmps120
  go_wp2
  go_ret
  exact ⟨zcm HV.out.symm,rfl⟩
set_option maxRecDepth 100000 in
set_option maxHeartbeats 3200000 in
theorem zjm (s : ByteArray) (w : World) (hs : s.size ≤ 1099511627776) : Calls Tryz.prog 57 #[.string s] w fun e w' => e = .returned (.string (zcd s)) ∧ w' = w:=by
 have HV : Hid (zcd s = ({ data:=#[34] } : ByteArray) ++ s ++ ({ data:=#[34] } : ByteArray)):=rfl
 go_enter Tryz.func57,Tryz.ntmps57
 go_wp2
 go_ret
 exact ⟨zcm HV.out.symm,rfl⟩
theorem zmw (s : ByteArray) : (zcd s).size = s.size + 2:=by
 rw [zcd,ByteArray.size_append,ByteArray.size_append]
 show 1 + s.size + 1 = _
 omega
theorem zbae (a b : ByteArray) : (asT a b).size ≤ a.size + b.size + 4:=by
 unfold asT
 split
 ·omega
 ·rw [ByteArray.size_append,ByteArray.size_append]
  show a.size + 4 + b.size ≤ _
  omega
set_option maxRecDepth 100000 in
set_option maxHeartbeats 3200000 in
theorem zber (x : Im) (w : World) (h1 : x.spec.size ≤ 4294967296) (h2 : x.first.size ≤ 4294967296) (h3 : x.loc.size ≤ 4294967296) : Calls Tryz.prog 58 #[imV x] w fun e w' => e = .returned (.string (impT x)) ∧ Below w.heap.size w w':=by
 obtain ⟨qt,hqt⟩ : ∃ t,zcd x.spec = t:=⟨_,rfl⟩
 obtain ⟨at',hat⟩ : ∃ t,asT x.first x.loc = t:=⟨_,rfl⟩
 have hq:=zmw x.spec
 have ha:=zbae x.first x.loc
 rw [hqt] at hq
 rw [hat] at ha
 have hq2 : qt.size ≤ 8589934592:=by omega
 have ha2 : at'.size ≤ 17179869184:=by omega
 have QT:=hidI hqt
 have AT:=hidI hat
 have cQ : ∀ d os,Calls Tryz.prog 57 #[.string x.spec] (grow (redrawn (w.alloc (.cells #[.string x.spec,.string x.first,.string x.loc] 100)) d) os) fun e w'' => e = .returned (.string qt) ∧ ∃ p : Regrown,w'' = grow (redrawn (w.alloc (.cells #[.string x.spec,.string x.first,.string x.loc] 100)) p.d) p.os:=fun d os => Calls.regrown_of (by rw [← hqt]; exact (zjm x.spec _ (by omega)).mono (by rintro e w' ⟨rfl,rfl⟩; exact ⟨rfl,Below.refl _ _⟩))
 have cA : ∀ d os,Calls Tryz.prog 120 #[.string x.first,.string x.loc] (grow (redrawn (w.alloc (.cells #[.string x.spec,.string x.first,.string x.loc] 100)) d) os) fun e w'' => e = .returned (.string at') ∧ ∃ p : Regrown,w'' = grow (redrawn (w.alloc (.cells #[.string x.spec,.string x.first,.string x.loc] 100)) p.d) p.os:=fun d os => Calls.regrown_of (by rw [← hat]; exact (zqh x.first x.loc _ (by omega) (by omega)).mono (by rintro e w' ⟨rfl,rfl⟩; exact ⟨rfl,Below.refl _ _⟩))
 have X:=hidI (zdc (heap_alloc_new w (.cells #[.string x.spec,.string x.first,.string x.loc] 100)))
 clear hqt hat hq ha
 unfold imV
 cases e1 : (x.first.toList == [42]) with
 | true =>
  have HV : Hid (impT x = ({ data:=#[105,109,112,111,114,116,32,42,32,97,115,32] } : ByteArray) ++ x.loc ++ ({ data:=#[32,102,114,111,109,32] } : ByteArray) ++ zcd x.spec ++ ({ data:=#[59,10] } : ByteArray)):=by show _ = _; rw [impT,e1]; rfl
  go_enter Tryz.func58,Tryz.ntmps58
  go_wp2_with fail
  have y0:=cell_regrown X.out.1
  have y1:=cell_regrown X.out.2.1
  have y2:=cell_regrown X.out.2.2.1
  refine wp_region_quiet_below (by kernel_rfl) (by kernel_rfl) ?_
  repeat (go_big_quiet_step (first | with_reducible exact cQ _ _ | with_reducible exact cA _ _))
  refine wpQuiet_nil ?_
  intro w1 hw'
  obtain ⟨⟨dq,osq⟩,hw''⟩:=hw'
  have HB1 : Hid (Below w.heap.size w w1):=by show Below _ _ _; rw [hw'']; exact ((Below.refl _ _).alloc (Nat.le_refl _) _).trans ((below_regrown _ _ _).mono (by rw [ze]; omega))
  clear hw''
  go_wp2
  go_ret
  exact ⟨zcm (by rw [HV.out,QT.out]),HB1.out⟩
 | false =>
  cases e2 : (x.first.toList == [100,101,102,97,117,108,116]) with
  | true =>
   have HV : Hid (impT x = ({ data:=#[105,109,112,111,114,116,32] } : ByteArray) ++ x.loc ++ ({ data:=#[32,102,114,111,109,32] } : ByteArray) ++ zcd x.spec ++ ({ data:=#[59,10] } : ByteArray)):=by show _ = _; rw [impT,e1,e2]; rfl
   go_enter Tryz.func58,Tryz.ntmps58
   go_wp2_with fail
   have y0:=cell_regrown X.out.1
   have y1:=cell_regrown X.out.2.1
   have y2:=cell_regrown X.out.2.2.1
   refine wp_region_quiet_below (by kernel_rfl) (by kernel_rfl) ?_
   repeat (go_big_quiet_step (first | with_reducible exact cQ _ _ | with_reducible exact cA _ _))
   refine wpQuiet_nil ?_
   intro w1 hw'
   obtain ⟨⟨dq,osq⟩,hw''⟩:=hw'
   have HB1 : Hid (Below w.heap.size w w1):=by show Below _ _ _; rw [hw'']; exact ((Below.refl _ _).alloc (Nat.le_refl _) _).trans ((below_regrown _ _ _).mono (by rw [ze]; omega))
   clear hw''
   go_wp2
   go_ret
   exact ⟨zcm (by rw [HV.out,QT.out]),HB1.out⟩
  | false =>
   have HV : Hid (impT x = ({ data:=#[105,109,112,111,114,116,32,123,32] } : ByteArray) ++ asT x.first x.loc ++ ({ data:=#[32,125,32,102,114,111,109,32] } : ByteArray) ++ zcd x.spec ++ ({ data:=#[59,10] } : ByteArray)):=by show _ = _; rw [impT,e1,e2]; rfl
   go_enter Tryz.func58,Tryz.ntmps58
   go_wp2_with fail
   have y0:=cell_regrown X.out.1
   have y1:=cell_regrown X.out.2.1
   have y2:=cell_regrown X.out.2.2.1
   refine wp_region_quiet_below (by kernel_rfl) (by kernel_rfl) ?_
   repeat (go_big_quiet_step (first | with_reducible exact cQ _ _ | with_reducible exact cA _ _))
   refine wpQuiet_nil ?_
   intro w1 hw'
   obtain ⟨⟨dq,osq⟩,hw''⟩:=hw'
   have HB1 : Hid (Below w.heap.size w w1):=by show Below _ _ _; rw [hw'']; exact ((Below.refl _ _).alloc (Nat.le_refl _) _).trans ((below_regrown _ _ _).mono (by rw [ze]; omega))
   clear hw''
   go_wp2
   go_ret
   exact ⟨zcm (by rw [HV.out,QT.out,AT.out]),HB1.out⟩
set_option maxRecDepth 100000 in
set_option maxHeartbeats 3200000 in
theorem zbes (x : Ep) (w : World) (h1 : x.spec.size ≤ 4294967296) (h2 : x.name.size ≤ 4294967296) (h3 : x.loc.size ≤ 4294967296) : Calls Tryz.prog 59 #[epV x] w fun e w' => e = .returned (.string (expT x)) ∧ Below w.heap.size w w':=by
 obtain ⟨qt,hqt⟩ : ∃ t,zcd x.spec = t:=⟨_,rfl⟩
 obtain ⟨at',hat⟩ : ∃ t,asT x.loc x.name = t:=⟨_,rfl⟩
 have hq:=zmw x.spec
 have ha:=zbae x.loc x.name
 rw [hqt] at hq
 rw [hat] at ha
 have hq2 : qt.size ≤ 8589934592:=by omega
 have ha2 : at'.size ≤ 17179869184:=by omega
 have QT:=hidI hqt
 have AT:=hidI hat
 have cQ : ∀ d os,Calls Tryz.prog 57 #[.string x.spec] (grow (redrawn (w.alloc (.cells #[.int .i64 x.kind,.string x.name,.string x.loc,.string x.spec] 102)) d) os) fun e w'' => e = .returned (.string qt) ∧ ∃ p : Regrown,w'' = grow (redrawn (w.alloc (.cells #[.int .i64 x.kind,.string x.name,.string x.loc,.string x.spec] 102)) p.d) p.os:=fun d os => Calls.regrown_of (by rw [← hqt]; exact (zjm x.spec _ (by omega)).mono (by rintro e w' ⟨rfl,rfl⟩; exact ⟨rfl,Below.refl _ _⟩))
 have cA : ∀ d os,Calls Tryz.prog 120 #[.string x.loc,.string x.name] (grow (redrawn (w.alloc (.cells #[.int .i64 x.kind,.string x.name,.string x.loc,.string x.spec] 102)) d) os) fun e w'' => e = .returned (.string at') ∧ ∃ p : Regrown,w'' = grow (redrawn (w.alloc (.cells #[.int .i64 x.kind,.string x.name,.string x.loc,.string x.spec] 102)) p.d) p.os:=fun d os => Calls.regrown_of (by rw [← hat]; exact (zqh x.loc x.name _ (by omega) (by omega)).mono (by rintro e w' ⟨rfl,rfl⟩; exact ⟨rfl,Below.refl _ _⟩))
 have cQ1 : ∀ w : World,Calls Tryz.prog 57 #[.string x.spec] w fun e w' => e = .returned (.string qt) ∧ w' = w:=fun w => by rw [← hqt]; exact zjm x.spec w (by omega)
 have cA1 : ∀ w : World,Calls Tryz.prog 120 #[.string x.loc,.string x.name] w fun e w' => e = .returned (.string at') ∧ w' = w:=fun w => by rw [← hat]; exact zqh x.loc x.name w (by omega) (by omega)
 have X:=hidI (zig (heap_alloc_new w (.cells #[.int .i64 x.kind,.string x.name,.string x.loc,.string x.spec] 102)))
 clear hqt hat hq ha
 unfold epV
 cases e1 : (x.kind == 3) with
 | true =>
  have HV : Hid (expT x = ({ data:=#[101,120,112,111,114,116,32,42,32,102,114,111,109,32] } : ByteArray) ++ zcd x.spec ++ ({ data:=#[59,10] } : ByteArray)):=by show _ = _; rw [expT,e1]; rfl
  go_enter Tryz.func59,Tryz.ntmps59
  go_wp2_with fail
  refine (cQ1 _).mono ?_
  rintro e w1 ⟨rfl,hw⟩
  rw [hw]
  clear hw w1
  go_wp2
  go_ret
  exact ⟨zcm (by rw [HV.out,QT.out]),(Below.refl _ _).alloc (Nat.le_refl _) _⟩
 | false =>
  cases e2 : (x.kind == 2) with
  | true =>
   have HV : Hid (expT x = ({ data:=#[101,120,112,111,114,116,32,123,32] } : ByteArray) ++ asT x.loc x.name ++ ({ data:=#[32,125,32,102,114,111,109,32] } : ByteArray) ++ zcd x.spec ++ ({ data:=#[59,10] } : ByteArray)):=by show _ = _; rw [expT,e1,e2]; rfl
   go_enter Tryz.func59,Tryz.ntmps59
   go_wp2_with fail
   have y0:=cell_regrown X.out.1
   have y1:=cell_regrown X.out.2.1
   have y2:=cell_regrown X.out.2.2.1
   have y3:=cell_regrown X.out.2.2.2.1
   refine wp_region_quiet_below (by kernel_rfl) (by kernel_rfl) ?_
   repeat (go_big_quiet_step (first | with_reducible exact cQ _ _ | with_reducible exact cA _ _))
   refine wpQuiet_nil ?_
   intro w1 hw'
   obtain ⟨⟨dq,osq⟩,hw''⟩:=hw'
   have HB1 : Hid (Below w.heap.size w w1):=by show Below _ _ _; rw [hw'']; exact ((Below.refl _ _).alloc (Nat.le_refl _) _).trans ((below_regrown _ _ _).mono (by rw [ze]; omega))
   clear hw''
   go_wp2
   go_ret
   exact ⟨zcm (by rw [HV.out,QT.out,AT.out]),HB1.out⟩
  | false =>
   have HV : Hid (expT x = ({ data:=#[101,120,112,111,114,116,32,123,32] } : ByteArray) ++ asT x.loc x.name ++ ({ data:=#[32,125,59,10] } : ByteArray)):=by show _ = _; rw [expT,e1,e2]; rfl
   go_enter Tryz.func59,Tryz.ntmps59
   go_wp2_with fail
   refine (cA1 _).mono ?_
   rintro e w1 ⟨rfl,hw⟩
   rw [hw]
   clear hw w1
   go_wp2
   go_ret
   exact ⟨zcm (by rw [HV.out,AT.out]),(Below.refl _ _).alloc (Nat.le_refl _) _⟩
set_option maxRecDepth 100000 in
set_option maxHeartbeats 3200000 in
theorem zbhs (base : Nat) (S : Sv) (m : Md) (k : Int) (n : ByteArray) (i : Nat) (w : World) (h : OwnMd w base S m) (hi : i < m.ex.length) (hn : Nums m.ex) (ha : zff m.ex) (hw : wt m.ex i ≤ 1099511627776) (_ : n.size ≤ 4294967296) (k1 : (k == 1) = true) (en : (n.toList == [42,100,101,102,97,117,108,116]) = true) :
  Calls Tryz.prog 60 #[modD S m,.agg #[.int .i64 k,.string n,.int .i64 (i : Int)]] w fun e w' => e = .returned (.string (zcv k n (prX m.ex i))) ∧ Below w.heap.size w w':=by
 have HH:=hidI h
 have HV : Hid (zcv k n (prX m.ex i) = ({ data:=#[101,120,112,111,114,116,32,100,101,102,97,117,108,116,32] } : ByteArray) ++ prX m.ex i ++ ({ data:=#[59,10] } : ByteArray)):=by show _ = _; rw [zcv,k1,en]; rfl
 have hsz:=hw
 unfold wt at hsz
 have HX:=hidI (And.intro (zdq (o':=.cells #[.int .i64 k,.string n,.int .i64 (i : Int)] 104) (heap_alloc_new w (.cells #[.slice S.rq.a m.rq.length S.rq.cap,.slice S.im.a m.im.length S.im.cap,.slice S.ep.a m.ep.length S.ep.cap,.slice S.st.a m.st.length S.st.cap,.slice S.ex.a m.ex.length S.ex.cap] 36))) (new2 w (.cells #[.slice S.rq.a m.rq.length S.rq.cap,.slice S.im.a m.im.length S.im.cap,.slice S.ep.a m.ep.length S.ep.cap,.slice S.st.a m.st.length S.st.cap,.slice S.ex.a m.ex.length S.ex.cap] 36) (.cells #[.int .i64 k,.string n,.int .i64 (i : Int)] 104)))
 clear h
 unfold modD
 go_enter Tryz.func60,Tryz.ntmps60
 go_wp2_with fail
 refine (zgx base S m i _ hn ha hi ((HH.out.alloc _).alloc _) hw).mono ?_
 rintro e w1 ⟨rfl,hb⟩
 have HB : Hid (Below w.heap.size w w1):=(zdj w _ _).trans (hb.mono (by rw [ze,ze]; omega))
 have HX1:=hidI ((hb.block _ (by rw [ze,ze]; omega)).trans HX.out.2)
 obtain ⟨c0,c1,c2,cf⟩:=zdc HX1.out
 clear hb
 obtain ⟨t,ht⟩ : ∃ t,prX m.ex i = t:=⟨_,rfl⟩
 rw [ht] at hsz ⊢
 have HT:=hidI ht
 clear ht
 go_wp2
 go_ret
 exact ⟨zcm (by rw [HV.out,HT.out]),HB.out⟩
set_option maxRecDepth 100000 in
set_option maxHeartbeats 3200000 in
theorem zbht (base : Nat) (S : Sv) (m : Md) (k : Int) (n : ByteArray) (i : Nat) (w : World) (h : OwnMd w base S m) (hi : i < m.ex.length) (hn : Nums m.ex) (ha : zff m.ex) (hw : wt m.ex i ≤ 1099511627776) (hs : n.size ≤ 4294967296) (k1 : (k == 1) = true) (en : (n.toList == [42,100,101,102,97,117,108,116]) = false) :
  Calls Tryz.prog 60 #[modD S m,.agg #[.int .i64 k,.string n,.int .i64 (i : Int)]] w fun e w' => e = .returned (.string (zcv k n (prX m.ex i))) ∧ Below w.heap.size w w':=by
 have HH:=hidI h
 have HV : Hid (zcv k n (prX m.ex i) = ({ data:=#[108,101,116,32] } : ByteArray) ++ n ++ ({ data:=#[32,61,32] } : ByteArray) ++ prX m.ex i ++ ({ data:=#[59,10] } : ByteArray)):=by show _ = _; rw [zcv,k1,en]; rfl
 have hsz:=hw
 unfold wt at hsz
 have HX:=hidI (And.intro (zdq (o':=.cells #[.int .i64 k,.string n,.int .i64 (i : Int)] 104) (heap_alloc_new w (.cells #[.slice S.rq.a m.rq.length S.rq.cap,.slice S.im.a m.im.length S.im.cap,.slice S.ep.a m.ep.length S.ep.cap,.slice S.st.a m.st.length S.st.cap,.slice S.ex.a m.ex.length S.ex.cap] 36))) (new2 w (.cells #[.slice S.rq.a m.rq.length S.rq.cap,.slice S.im.a m.im.length S.im.cap,.slice S.ep.a m.ep.length S.ep.cap,.slice S.st.a m.st.length S.st.cap,.slice S.ex.a m.ex.length S.ex.cap] 36) (.cells #[.int .i64 k,.string n,.int .i64 (i : Int)] 104)))
 clear h
 unfold modD
 go_enter Tryz.func60,Tryz.ntmps60
 go_wp2_with fail
 refine (zgx base S m i _ hn ha hi ((HH.out.alloc _).alloc _) hw).mono ?_
 rintro e w1 ⟨rfl,hb⟩
 have HB : Hid (Below w.heap.size w w1):=(zdj w _ _).trans (hb.mono (by rw [ze,ze]; omega))
 have HX1:=hidI ((hb.block _ (by rw [ze,ze]; omega)).trans HX.out.2)
 obtain ⟨c0,c1,c2,cf⟩:=zdc HX1.out
 clear hb
 obtain ⟨t,ht⟩ : ∃ t,prX m.ex i = t:=⟨_,rfl⟩
 rw [ht] at hsz ⊢
 have HT:=hidI ht
 clear ht
 go_wp2
 go_ret
 exact ⟨zcm (by rw [HV.out,HT.out]),HB.out⟩
set_option maxRecDepth 100000 in
set_option maxHeartbeats 3200000 in
theorem zbhu (base : Nat) (S : Sv) (m : Md) (k : Int) (n : ByteArray) (i : Nat) (w : World) (h : OwnMd w base S m) (hi : i < m.ex.length) (hn : Nums m.ex) (ha : zff m.ex) (hw : wt m.ex i ≤ 1099511627776) (hs : n.size ≤ 4294967296) (k1 : (k == 1) = false) (k2 : (k == 2) = true) :
  Calls Tryz.prog 60 #[modD S m,.agg #[.int .i64 k,.string n,.int .i64 (i : Int)]] w fun e w' => e = .returned (.string (zcv k n (prX m.ex i))) ∧ Below w.heap.size w w':=by
 have HH:=hidI h
 have HV : Hid (zcv k n (prX m.ex i) = ({ data:=#[102,117,110,99,116,105,111,110,32] } : ByteArray) ++ n ++ ({ data:=#[40,41,32,123,32,114,101,116,117,114,110,32] } : ByteArray) ++ prX m.ex i ++ ({ data:=#[59,32,125,10] } : ByteArray)):=by show _ = _; rw [zcv,k1,k2]; rfl
 have hsz:=hw
 unfold wt at hsz
 have HX:=hidI (And.intro (zdq (o':=.cells #[.int .i64 k,.string n,.int .i64 (i : Int)] 104) (heap_alloc_new w (.cells #[.slice S.rq.a m.rq.length S.rq.cap,.slice S.im.a m.im.length S.im.cap,.slice S.ep.a m.ep.length S.ep.cap,.slice S.st.a m.st.length S.st.cap,.slice S.ex.a m.ex.length S.ex.cap] 36))) (new2 w (.cells #[.slice S.rq.a m.rq.length S.rq.cap,.slice S.im.a m.im.length S.im.cap,.slice S.ep.a m.ep.length S.ep.cap,.slice S.st.a m.st.length S.st.cap,.slice S.ex.a m.ex.length S.ex.cap] 36) (.cells #[.int .i64 k,.string n,.int .i64 (i : Int)] 104)))
 clear h
 unfold modD
 go_enter Tryz.func60,Tryz.ntmps60
 go_wp2_with fail
 refine (zgx base S m i _ hn ha hi ((HH.out.alloc _).alloc _) hw).mono ?_
 rintro e w1 ⟨rfl,hb⟩
 have HB : Hid (Below w.heap.size w w1):=(zdj w _ _).trans (hb.mono (by rw [ze,ze]; omega))
 have HX1:=hidI ((hb.block _ (by rw [ze,ze]; omega)).trans HX.out.2)
 obtain ⟨c0,c1,c2,cf⟩:=zdc HX1.out
 clear hb
 obtain ⟨t,ht⟩ : ∃ t,prX m.ex i = t:=⟨_,rfl⟩
 rw [ht] at hsz ⊢
 have HT:=hidI ht
 clear ht
 go_wp2
 go_ret
 exact ⟨zcm (by rw [HV.out,HT.out]),HB.out⟩
set_option maxRecDepth 100000 in
set_option maxHeartbeats 3200000 in
theorem zbhv (base : Nat) (S : Sv) (m : Md) (k : Int) (n : ByteArray) (i : Nat) (w : World) (h : OwnMd w base S m) (hi : i < m.ex.length) (hn : Nums m.ex) (ha : zff m.ex) (hw : wt m.ex i ≤ 1099511627776) (hs : n.size ≤ 4294967296) (k1 : (k == 1) = false) (k2 : (k == 2) = false) (k3 : (k == 3) = true) :
  Calls Tryz.prog 60 #[modD S m,.agg #[.int .i64 k,.string n,.int .i64 (i : Int)]] w fun e w' => e = .returned (.string (zcv k n (prX m.ex i))) ∧ Below w.heap.size w w':=by
 have HH:=hidI h
 have HV : Hid (zcv k n (prX m.ex i) = n ++ ({ data:=#[32,61,32] } : ByteArray) ++ prX m.ex i ++ ({ data:=#[59,10] } : ByteArray)):=by show _ = _; rw [zcv,k1,k2,k3]; rfl
 have hsz:=hw
 unfold wt at hsz
 have HX:=hidI (And.intro (zdq (o':=.cells #[.int .i64 k,.string n,.int .i64 (i : Int)] 104) (heap_alloc_new w (.cells #[.slice S.rq.a m.rq.length S.rq.cap,.slice S.im.a m.im.length S.im.cap,.slice S.ep.a m.ep.length S.ep.cap,.slice S.st.a m.st.length S.st.cap,.slice S.ex.a m.ex.length S.ex.cap] 36))) (new2 w (.cells #[.slice S.rq.a m.rq.length S.rq.cap,.slice S.im.a m.im.length S.im.cap,.slice S.ep.a m.ep.length S.ep.cap,.slice S.st.a m.st.length S.st.cap,.slice S.ex.a m.ex.length S.ex.cap] 36) (.cells #[.int .i64 k,.string n,.int .i64 (i : Int)] 104)))
 clear h
 unfold modD
 go_enter Tryz.func60,Tryz.ntmps60
 go_wp2_with fail
 refine (zgx base S m i _ hn ha hi ((HH.out.alloc _).alloc _) hw).mono ?_
 rintro e w1 ⟨rfl,hb⟩
 have HB : Hid (Below w.heap.size w w1):=(zdj w _ _).trans (hb.mono (by rw [ze,ze]; omega))
 have HX1:=hidI ((hb.block _ (by rw [ze,ze]; omega)).trans HX.out.2)
 obtain ⟨c0,c1,c2,cf⟩:=zdc HX1.out
 clear hb
 obtain ⟨t,ht⟩ : ∃ t,prX m.ex i = t:=⟨_,rfl⟩
 rw [ht] at hsz ⊢
 have HT:=hidI ht
 clear ht
 go_wp2
 go_ret
 exact ⟨zcm (by rw [HV.out,HT.out]),HB.out⟩
set_option maxRecDepth 100000 in
set_option maxHeartbeats 3200000 in
theorem zbhw (base : Nat) (S : Sv) (m : Md) (k : Int) (n : ByteArray) (i : Nat) (w : World) (h : OwnMd w base S m) (hi : i < m.ex.length) (hn : Nums m.ex) (ha : zff m.ex) (hw : wt m.ex i ≤ 1099511627776) (_ : n.size ≤ 4294967296) (k1 : (k == 1) = false) (k2 : (k == 2) = false) (k3 : (k == 3) = false) (k4 : (k == 4) = true) :
  Calls Tryz.prog 60 #[modD S m,.agg #[.int .i64 k,.string n,.int .i64 (i : Int)]] w fun e w' => e = .returned (.string (zcv k n (prX m.ex i))) ∧ Below w.heap.size w w':=by
 have HH:=hidI h
 have HV : Hid (zcv k n (prX m.ex i) = ({ data:=#[112,114,105,110,116,40] } : ByteArray) ++ prX m.ex i ++ ({ data:=#[41,59,10] } : ByteArray)):=by show _ = _; rw [zcv,k1,k2,k3,k4]; rfl
 have hsz:=hw
 unfold wt at hsz
 have HX:=hidI (And.intro (zdq (o':=.cells #[.int .i64 k,.string n,.int .i64 (i : Int)] 104) (heap_alloc_new w (.cells #[.slice S.rq.a m.rq.length S.rq.cap,.slice S.im.a m.im.length S.im.cap,.slice S.ep.a m.ep.length S.ep.cap,.slice S.st.a m.st.length S.st.cap,.slice S.ex.a m.ex.length S.ex.cap] 36))) (new2 w (.cells #[.slice S.rq.a m.rq.length S.rq.cap,.slice S.im.a m.im.length S.im.cap,.slice S.ep.a m.ep.length S.ep.cap,.slice S.st.a m.st.length S.st.cap,.slice S.ex.a m.ex.length S.ex.cap] 36) (.cells #[.int .i64 k,.string n,.int .i64 (i : Int)] 104)))
 clear h
 unfold modD
 go_enter Tryz.func60,Tryz.ntmps60
 go_wp2_with fail
 refine (zgx base S m i _ hn ha hi ((HH.out.alloc _).alloc _) hw).mono ?_
 rintro e w1 ⟨rfl,hb⟩
 have HB : Hid (Below w.heap.size w w1):=(zdj w _ _).trans (hb.mono (by rw [ze,ze]; omega))
 have HX1:=hidI ((hb.block _ (by rw [ze,ze]; omega)).trans HX.out.2)
 obtain ⟨c0,c1,c2,cf⟩:=zdc HX1.out
 clear hb
 obtain ⟨t,ht⟩ : ∃ t,prX m.ex i = t:=⟨_,rfl⟩
 rw [ht] at hsz ⊢
 have HT:=hidI ht
 clear ht
 go_wp2
 go_ret
 exact ⟨zcm (by rw [HV.out,HT.out]),HB.out⟩
set_option maxRecDepth 100000 in
set_option maxHeartbeats 3200000 in
theorem zbhx (base : Nat) (S : Sv) (m : Md) (k : Int) (n : ByteArray) (i : Nat) (w : World) (h : OwnMd w base S m) (hi : i < m.ex.length) (hn : Nums m.ex) (ha : zff m.ex) (hw : wt m.ex i ≤ 1099511627776) (_ : n.size ≤ 4294967296) (k1 : (k == 1) = false) (k2 : (k == 2) = false) (k3 : (k == 3) = false) (k4 : (k == 4) = false) (k5 : (k == 5) = true) :
  Calls Tryz.prog 60 #[modD S m,.agg #[.int .i64 k,.string n,.int .i64 (i : Int)]] w fun e w' => e = .returned (.string (zcv k n (prX m.ex i))) ∧ Below w.heap.size w w':=by
 have HH:=hidI h
 have HV : Hid (zcv k n (prX m.ex i) = ({ data:=#[116,104,114,111,119,32] } : ByteArray) ++ prX m.ex i ++ ({ data:=#[59,10] } : ByteArray)):=by show _ = _; rw [zcv,k1,k2,k3,k4,k5]; rfl
 have hsz:=hw
 unfold wt at hsz
 have HX:=hidI (And.intro (zdq (o':=.cells #[.int .i64 k,.string n,.int .i64 (i : Int)] 104) (heap_alloc_new w (.cells #[.slice S.rq.a m.rq.length S.rq.cap,.slice S.im.a m.im.length S.im.cap,.slice S.ep.a m.ep.length S.ep.cap,.slice S.st.a m.st.length S.st.cap,.slice S.ex.a m.ex.length S.ex.cap] 36))) (new2 w (.cells #[.slice S.rq.a m.rq.length S.rq.cap,.slice S.im.a m.im.length S.im.cap,.slice S.ep.a m.ep.length S.ep.cap,.slice S.st.a m.st.length S.st.cap,.slice S.ex.a m.ex.length S.ex.cap] 36) (.cells #[.int .i64 k,.string n,.int .i64 (i : Int)] 104)))
 clear h
 unfold modD
 go_enter Tryz.func60,Tryz.ntmps60
 go_wp2_with fail
 refine (zgx base S m i _ hn ha hi ((HH.out.alloc _).alloc _) hw).mono ?_
 rintro e w1 ⟨rfl,hb⟩
 have HB : Hid (Below w.heap.size w w1):=(zdj w _ _).trans (hb.mono (by rw [ze,ze]; omega))
 have HX1:=hidI ((hb.block _ (by rw [ze,ze]; omega)).trans HX.out.2)
 obtain ⟨c0,c1,c2,cf⟩:=zdc HX1.out
 clear hb
 obtain ⟨t,ht⟩ : ∃ t,prX m.ex i = t:=⟨_,rfl⟩
 rw [ht] at hsz ⊢
 have HT:=hidI ht
 clear ht
 go_wp2
 go_ret
 exact ⟨zcm (by rw [HV.out,HT.out]),HB.out⟩
set_option maxRecDepth 100000 in
set_option maxHeartbeats 3200000 in
theorem zbhy (base : Nat) (S : Sv) (m : Md) (k : Int) (n : ByteArray) (i : Nat) (w : World) (h : OwnMd w base S m) (hi : i < m.ex.length) (hn : Nums m.ex) (ha : zff m.ex) (hw : wt m.ex i ≤ 1099511627776) (_ : n.size ≤ 4294967296) (k1 : (k == 1) = false) (k2 : (k == 2) = false) (k3 : (k == 3) = false) (k4 : (k == 4) = false) (k5 : (k == 5) = false) :
  Calls Tryz.prog 60 #[modD S m,.agg #[.int .i64 k,.string n,.int .i64 (i : Int)]] w fun e w' => e = .returned (.string (zcv k n (prX m.ex i))) ∧ Below w.heap.size w w':=by
 have HH:=hidI h
 have HV : Hid (zcv k n (prX m.ex i) = ({ data:=#[102,97,105,108,32] } : ByteArray) ++ prX m.ex i ++ ({ data:=#[59,10] } : ByteArray)):=by show _ = _; rw [zcv,k1,k2,k3,k4,k5]; rfl
 have hsz:=hw
 unfold wt at hsz
 have HX:=hidI (And.intro (zdq (o':=.cells #[.int .i64 k,.string n,.int .i64 (i : Int)] 104) (heap_alloc_new w (.cells #[.slice S.rq.a m.rq.length S.rq.cap,.slice S.im.a m.im.length S.im.cap,.slice S.ep.a m.ep.length S.ep.cap,.slice S.st.a m.st.length S.st.cap,.slice S.ex.a m.ex.length S.ex.cap] 36))) (new2 w (.cells #[.slice S.rq.a m.rq.length S.rq.cap,.slice S.im.a m.im.length S.im.cap,.slice S.ep.a m.ep.length S.ep.cap,.slice S.st.a m.st.length S.st.cap,.slice S.ex.a m.ex.length S.ex.cap] 36) (.cells #[.int .i64 k,.string n,.int .i64 (i : Int)] 104)))
 clear h
 unfold modD
 go_enter Tryz.func60,Tryz.ntmps60
 go_wp2_with fail
 refine (zgx base S m i _ hn ha hi ((HH.out.alloc _).alloc _) hw).mono ?_
 rintro e w1 ⟨rfl,hb⟩
 have HB : Hid (Below w.heap.size w w1):=(zdj w _ _).trans (hb.mono (by rw [ze,ze]; omega))
 have HX1:=hidI ((hb.block _ (by rw [ze,ze]; omega)).trans HX.out.2)
 obtain ⟨c0,c1,c2,cf⟩:=zdc HX1.out
 clear hb
 obtain ⟨t,ht⟩ : ∃ t,prX m.ex i = t:=⟨_,rfl⟩
 rw [ht] at hsz ⊢
 have HT:=hidI ht
 clear ht
 go_wp2
 go_ret
 exact ⟨zcm (by rw [HV.out,HT.out]),HB.out⟩
theorem zbby (base : Nat) (S : Sv) (m : Md) (k : Int) (n : ByteArray) (i : Nat) (w : World) (h : OwnMd w base S m) (hi : i < m.ex.length) (hn : Nums m.ex) (ha : zff m.ex) (hw : wt m.ex i ≤ 1099511627776) (hs : n.size ≤ 4294967296) :
  Calls Tryz.prog 60 #[modD S m,.agg #[.int .i64 k,.string n,.int .i64 (i : Int)]] w fun e w' => e = .returned (.string (zcv k n (prX m.ex i))) ∧ Below w.heap.size w w':=by
 cases k1 : (k == 1) with
 | true =>
  cases en : (n.toList == [42,100,101,102,97,117,108,116]) with
  | true => exact zbhs base S m k n i w h hi hn ha hw hs k1 en
  | false => exact zbht base S m k n i w h hi hn ha hw hs k1 en
 | false =>
  cases k2 : (k == 2) with
  | true => exact zbhu base S m k n i w h hi hn ha hw hs k1 k2
  | false =>
   cases k3 : (k == 3) with
   | true => exact zbhv base S m k n i w h hi hn ha hw hs k1 k2 k3
   | false =>
    cases k4 : (k == 4) with
    | true => exact zbhw base S m k n i w h hi hn ha hw hs k1 k2 k3 k4
    | false =>
     cases k5 : (k == 5) with
     | true => exact zbhx base S m k n i w h hi hn ha hw hs k1 k2 k3 k4 k5
     | false => exact zbhy base S m k n i w h hi hn ha hw hs k1 k2 k3 k4 k5
end Go.Proofs.YtgchhhmfloemlaaGreat
namespace Go.Proofs.YtgchhhmfloemlaaGreat
open Go.RowKit Go.PlainAid Go.Sort

theorem zmx {α : Type} {l : List α} {j : Nat} (h : j < l.length) : ∃ x,l[j]? = some x:=⟨_,List.getElem?_eq_getElem h⟩
theorem zbhz (t : ByteArray) : t ++ sNone = t:=by
 cases t with
 | mk d =>
  show ByteArray.append _ _ = _
  simp [ByteArray.append]
theorem zbnc (m : Md) : (acc (stF m.ex) m.st (zgu m)).size ≤ (zhl m).size:=Nat.le_refl _
theorem zbjf (m : Md) : (acc epF m.ep (acc impT m.im (acc rqT m.rq sNone))).size ≤ (zhl m).size:=zic _ _ _
theorem zbjg (m : Md) : (acc impT m.im (acc rqT m.rq sNone)).size ≤ (zhl m).size:=Nat.le_trans (zic _ _ _) (zbjf m)
theorem zbnd (m : Md) : (acc rqT m.rq sNone).size ≤ (zhl m).size:=Nat.le_trans (zic _ _ _) (zbjg m)
theorem zblr (k : Int) (n e : ByteArray) : e.size ≤ (zcv k n e).size:=by
 unfold zcv
 repeat (first | split | (simp only [ByteArray.size_append]; omega))
set_option maxRecDepth 100000 in
set_option maxHeartbeats 12800000 in
theorem zbbz (base : Nat) (S : Sv) (m : Md) (scr : Bool) (w : World) (h : OwnMd w base S m) (hm : Small m) (hsz : Tree m → (zhl m).size ≤ 1099511627776) :
  Calls Tryz.prog 21 #[modD S m,.bool scr] w fun e w' => PrintOut (zhl m) m e ∧ Below w.heap.size w w':=by
 have HH:=hidI h
 have SM:=hidI hm
 have HU:=hidI hsz
 obtain ⟨f1,f2,f3,f4,f5⟩:=hm.few
 clear h hm hsz
 unfold modD
 go_enter Tryz.func21,Tryz.ntmps21
 go_wp2_with fail
 refine (zbbb base S m _ (HH.out.alloc _) f5 f4).mono ?_
 rintro e w1 ⟨⟨b,rfl,hb⟩,bel⟩
 have HT:=hidI hb
 have HB1 : Hid (Below w.heap.size w w1):=((Below.refl _ _).alloc (Nat.le_refl _) _).trans (bel.mono (by rw [ze]; omega))
 have HX1 : Hid (w1.heap[w.heap.size]? = some (.cells #[.slice S.rq.a m.rq.length S.rq.cap,.slice S.im.a m.im.length S.im.cap,.slice S.ep.a m.ep.length S.ep.cap,.slice S.st.a m.st.length S.st.cap,.slice S.ex.a m.ex.length S.ex.cap] 36 (0,0))):=(bel.block _ (by rw [ze]; omega)).trans (heap_alloc_new w _)
 have HO1:=hidI (HH.out.later HB1.out)
 clear hb bel
 obtain ⟨c0,c1,c2,c3,c4,cf⟩:=zi HX1.out
 cases b with
 | false =>
  go_wp2
  go_ret
  exact ⟨.inr ⟨(fun t => by have:=HT.out.2 t; cases this),rfl⟩,HB1.out⟩
 | true =>
  have TR:=hidI (HT.out.1 rfl)
  have HZ:=hidI (HU.out TR.out)
  go_wp2
  go_loopg [5,6] m.rq.length (fun k t i wr => ∃ (j : Nat) (tx : ByteArray),i = .int .i64 j ∧ t = .string tx ∧ j + k = m.rq.length ∧ tx = acc rqT (m.rq.take j) sNone ∧ OwnMd wr base S m ∧ wr.heap[w.heap.size]? = some (.cells #[.slice S.rq.a m.rq.length S.rq.cap,.slice S.im.a m.im.length S.im.cap,.slice S.ep.a m.ep.length S.ep.cap,.slice S.st.a m.st.length S.st.cap,.slice S.ex.a m.ex.length S.ex.cap] 36 (0,0)) ∧ Below w.heap.size w wr)
  case atStart => exact ⟨0,_,rfl,rfl,by omega,rfl,HO1.out,HX1.out,HB1.out⟩
  case round =>
   obtain ⟨j,tx,rfl,rfl,hj,htx,ho,hx,hb⟩:=hrel
   have HTX0:=hidI htx
   have HO:=hidI ho
   have HX:=hidI hx
   have HB:=hidI hb
   clear htx ho hx hb c0 c1 c2 c3 c4 cf
   obtain ⟨c0,c1,c2,c3,c4,cf⟩:=zi HX.out
   have hwl:=(Array.getElem?_eq_some_iff.1 HX.out).1
   by_cases hlt : j < m.rq.length
   ·have hlti : (j : Int) < (m.rq.length : Int):=by omega
    obtain ⟨x,hxj⟩:=zmx hlt
    have hmem:=List.mem_of_getElem? hxj
    have HS:=hidI (zel rqT hxj sNone)
    have hpart:=zhc rqT m.rq (j + 1) sNone
    rw [HS.out,← HTX0.out,ByteArray.size_append] at hpart
    have htot : (acc rqT m.rq sNone).size ≤ 1099511627776:=Nat.le_trans (zbnd m) HZ.out
    obtain ⟨j1,hj1⟩ : ∃ j1,j1 = j + 1:=⟨_,rfl⟩
    have ej : (j : Int) + 1 = (j1 : Int):=by omega
    have HJ:=hidI hj1
    clear hj1
    have hs1 : tx.size ≤ 1099511627776:=by omega
    obtain ⟨g,hg,hc⟩:=HO.out.rq.text hlt
    rw [hg] at c0
    have hxg : m.rq.getD j sNone = x:=by rw [List.getD,hxj]; rfl
    rw [hxg] at hc
    clear hg hxg
    have hxs:=SM.out.rq x hmem
    obtain ⟨qt,hqt⟩ : ∃ t,zcd x = t:=⟨_,rfl⟩
    have hqs:=zmw x
    rw [hqt] at hqs
    have hq2 : qt.size ≤ 8589934592:=by omega
    have QT:=hidI hqt
    clear hqt hqs hpart htot hxj hmem
    go_wp2_with fail
    refine (zjm x _ (by omega)).mono ?_
    rintro e w2 ⟨rfl,hw⟩
    rw [hw,QT.out]
    clear hw w2
    go_wp2
    go_roundg (gk - 1)
    case rel => exact ⟨j1,_,rfl,rfl,by have:=HJ.out; omega,by rw [HJ.out,HS.out,← HTX0.out,rqT,QT.out,ByteArray.append_assoc,ByteArray.append_assoc,ByteArray.append_assoc],HO.out,HX.out,HB.out⟩
    case measure => omega
   ·have hlti : ¬ (j : Int) < (m.rq.length : Int):=by omega
    have HTX : Hid (tx = acc rqT m.rq sNone):=by show tx = _; rw [HTX0.out,List.take_of_length_le (by omega)]
    clear HTX0
    go_wp2
    go_loopg [5,7] m.im.length (fun k t i wr => ∃ (j : Nat) (tx : ByteArray),i = .int .i64 j ∧ t = .string tx ∧ j + k = m.im.length ∧ tx = acc impT (m.im.take j) (acc rqT m.rq sNone) ∧ OwnMd wr base S m ∧ wr.heap[w.heap.size]? = some (.cells #[.slice S.rq.a m.rq.length S.rq.cap,.slice S.im.a m.im.length S.im.cap,.slice S.ep.a m.ep.length S.ep.cap,.slice S.st.a m.st.length S.st.cap,.slice S.ex.a m.ex.length S.ex.cap] 36 (0,0)) ∧ Below w.heap.size w wr)
    case atStart => exact ⟨0,_,rfl,rfl,by omega,HTX.out,HO.out,HX.out,HB.out⟩
    case round =>
     obtain ⟨j,tx,rfl,rfl,hj,htx,ho,hx,hb⟩:=hrel
     have HTX0:=hidI htx
     have HO:=hidI ho
     have HX:=hidI hx
     have HB:=hidI hb
     clear htx ho hx hb c0 c1 c2 c3 c4 cf
     obtain ⟨c0,c1,c2,c3,c4,cf⟩:=zi HX.out
     have hwl:=(Array.getElem?_eq_some_iff.1 HX.out).1
     by_cases hlt : j < m.im.length
     ·have hlti : (j : Int) < (m.im.length : Int):=by omega
      obtain ⟨x,hxj⟩:=zmx hlt
      have hmem:=List.mem_of_getElem? hxj
      have HS:=hidI (zel impT hxj (acc rqT m.rq sNone))
      have hpart:=zhc impT m.im (j + 1) (acc rqT m.rq sNone)
      rw [HS.out,← HTX0.out,ByteArray.size_append] at hpart
      have htot : (acc impT m.im (acc rqT m.rq sNone)).size ≤ 1099511627776:=Nat.le_trans (zbjg m) HZ.out
      obtain ⟨j1,hj1⟩ : ∃ j1,j1 = j + 1:=⟨_,rfl⟩
      have ej : (j : Int) + 1 = (j1 : Int):=by omega
      have HJ:=hidI hj1
      clear hj1
      have hs1 : tx.size ≤ 1099511627776:=by omega
      obtain ⟨g,hg,hcl⟩:=OwnR.elem (f:=imL) (m:=3) (fun _ => rfl) HO.out.im hxj
      rw [hg] at c1
      have k0:=hcl 0 (by omega)
      have k1:=hcl 1 (by omega)
      have k2:=hcl 2 (by omega)
      simp only [imL,Nat.add_zero,List.getElem?_cons_zero,List.getElem?_cons_succ] at k0 k1 k2
      obtain ⟨z1,z2,z3⟩:=SM.out.im x hmem
      clear hg hcl hxj hmem
      obtain ⟨pt,hpt⟩ : ∃ t,impT x = t:=⟨_,rfl⟩
      have hp2 : pt.size ≤ 1099511627776:=by rw [← hpt]; omega
      have PT:=hidI hpt
      clear hpt hpart htot
      go_wp2_with fail
      refine (zber x _ z1 z2 z3).mono ?_
      rintro e w2 ⟨rfl,hb⟩
      rw [PT.out]
      have HO2:=hidI (HO.out.later hb)
      have HX2:=hidI ((hb.block _ hwl).trans HX.out)
      have HB2:=hidI (HB.out.trans (hb.mono HB.out.size))
      clear hb
      go_wp2
      go_roundg (gk - 1)
      case rel => exact ⟨j1,_,rfl,rfl,by have:=HJ.out; omega,by rw [HJ.out,HS.out,← HTX0.out,PT.out],HO2.out,HX2.out,HB2.out⟩
      case measure => omega
     ·have hlti : ¬ (j : Int) < (m.im.length : Int):=by omega
      have HTX : Hid (tx = acc impT m.im (acc rqT m.rq sNone)):=by show tx = _; rw [HTX0.out,List.take_of_length_le (by omega)]
      clear HTX0
      go_wp2
      go_loopg [5,8] m.ep.length (fun k t i wr => ∃ (j : Nat) (tx : ByteArray),i = .int .i64 j ∧ t = .string tx ∧ j + k = m.ep.length ∧ tx = acc epF (m.ep.take j) (acc impT m.im (acc rqT m.rq sNone)) ∧ OwnMd wr base S m ∧ wr.heap[w.heap.size]? = some (.cells #[.slice S.rq.a m.rq.length S.rq.cap,.slice S.im.a m.im.length S.im.cap,.slice S.ep.a m.ep.length S.ep.cap,.slice S.st.a m.st.length S.st.cap,.slice S.ex.a m.ex.length S.ex.cap] 36 (0,0)) ∧ Below w.heap.size w wr)
      case atStart => exact ⟨0,_,rfl,rfl,by omega,HTX.out,HO.out,HX.out,HB.out⟩
      case round =>
       obtain ⟨j,tx,rfl,rfl,hj,htx,ho,hx,hb⟩:=hrel
       have HTX0:=hidI htx
       have HO:=hidI ho
       have HX:=hidI hx
       have HB:=hidI hb
       clear htx ho hx hb c0 c1 c2 c3 c4 cf
       obtain ⟨c0,c1,c2,c3,c4,cf⟩:=zi HX.out
       have hwl:=(Array.getElem?_eq_some_iff.1 HX.out).1
       by_cases hlt : j < m.ep.length
       ·have hlti : (j : Int) < (m.ep.length : Int):=by omega
        obtain ⟨x,hxj⟩:=zmx hlt
        have hmem:=List.mem_of_getElem? hxj
        have HS:=hidI (zel epF hxj (acc impT m.im (acc rqT m.rq sNone)))
        have hpart:=zhc epF m.ep (j + 1) (acc impT m.im (acc rqT m.rq sNone))
        rw [HS.out,← HTX0.out,ByteArray.size_append] at hpart
        have htot : (acc epF m.ep (acc impT m.im (acc rqT m.rq sNone))).size ≤ 1099511627776:=Nat.le_trans (zbjf m) HZ.out
        obtain ⟨j1,hj1⟩ : ∃ j1,j1 = j + 1:=⟨_,rfl⟩
        have ej : (j : Int) + 1 = (j1 : Int):=by omega
        have HJ:=hidI hj1
        clear hj1
        have hs1 : tx.size ≤ 1099511627776:=by omega
        obtain ⟨g,hg,hcl⟩:=OwnR.elem (f:=epL) (m:=4) (fun _ => rfl) HO.out.ep hxj
        rw [hg] at c2
        have k0:=hcl 0 (by omega)
        have k1:=hcl 1 (by omega)
        have k2:=hcl 2 (by omega)
        have k3:=hcl 3 (by omega)
        simp only [epL,Nat.add_zero,List.getElem?_cons_zero,List.getElem?_cons_succ] at k0 k1 k2 k3
        obtain ⟨z1,z2,z3⟩:=SM.out.ep x hmem
        clear hg hcl hxj hmem
        cases hd : (x.loc.toList == [42,100,101,102,97,117,108,116]) with
        | true =>
         clear hpart htot
         go_wp2
         go_roundg (gk - 1)
         case rel => exact ⟨j1,_,rfl,rfl,by have:=HJ.out; omega,by rw [HJ.out,HS.out,← HTX0.out,epF,hd]; show tx = tx ++ sNone; rw [zbhz],HO.out,HX.out,HB.out⟩
         case measure => omega
        | false =>
         obtain ⟨pt,hpt⟩ : ∃ t,expT x = t:=⟨_,rfl⟩
         have hp2 : pt.size ≤ 1099511627776:=by rw [← hpt,← show epF x = expT x from (by rw [epF,hd]; rfl)]; omega
         have PT:=hidI hpt
         clear hpt hpart htot
         go_wp2_with fail
         refine (zbes x _ z1 z2 z3).mono ?_
         rintro e w2 ⟨rfl,hb⟩
         rw [PT.out]
         have HO2:=hidI (HO.out.later hb)
         have HX2:=hidI ((hb.block _ hwl).trans HX.out)
         have HB2:=hidI (HB.out.trans (hb.mono HB.out.size))
         clear hb
         go_wp2
         go_roundg (gk - 1)
         case rel => exact ⟨j1,_,rfl,rfl,by have:=HJ.out; omega,by rw [HJ.out,HS.out,← HTX0.out,epF,hd]; show _ = tx ++ expT x; rw [PT.out],HO2.out,HX2.out,HB2.out⟩
         case measure => omega
       ·have hlti : ¬ (j : Int) < (m.ep.length : Int):=by omega
        have HTX : Hid (tx = acc epF m.ep (acc impT m.im (acc rqT m.rq sNone))):=by show tx = _; rw [HTX0.out,List.take_of_length_le (by omega)]
        clear HTX0
        go_wp2
        go_loopg [5,9] m.st.length (fun k t i wr => ∃ (j : Nat) (tx : ByteArray),i = .int .i64 j ∧ t = .string tx ∧ j + k = m.st.length ∧ tx = acc (stF m.ex) (m.st.take j) (zgu m) ∧ OwnMd wr base S m ∧ wr.heap[w.heap.size]? = some (.cells #[.slice S.rq.a m.rq.length S.rq.cap,.slice S.im.a m.im.length S.im.cap,.slice S.ep.a m.ep.length S.ep.cap,.slice S.st.a m.st.length S.st.cap,.slice S.ex.a m.ex.length S.ex.cap] 36 (0,0)) ∧ Below w.heap.size w wr)
        case atStart => exact ⟨0,_,rfl,rfl,by omega,HTX.out,HO.out,HX.out,HB.out⟩
        case round =>
         obtain ⟨j,tx,rfl,rfl,hj,htx,ho,hx,hb⟩:=hrel
         have HTX0:=hidI htx
         have HO:=hidI ho
         have HX:=hidI hx
         have HB:=hidI hb
         clear htx ho hx hb c0 c1 c2 c3 c4 cf
         obtain ⟨c0,c1,c2,c3,c4,cf⟩:=zi HX.out
         have hwl:=(Array.getElem?_eq_some_iff.1 HX.out).1
         by_cases hlt : j < m.st.length
         ·have hlti : (j : Int) < (m.st.length : Int):=by omega
          obtain ⟨x,hxj⟩:=zmx hlt
          have hmem:=List.mem_of_getElem? hxj
          have HS:=hidI (zel (stF m.ex) hxj (zgu m))
          have hpart:=zhc (stF m.ex) m.st (j + 1) (zgu m)
          rw [HS.out,← HTX0.out,ByteArray.size_append] at hpart
          have htot : (acc (stF m.ex) m.st (zgu m)).size ≤ 1099511627776:=Nat.le_trans (zbnc m) HZ.out
          obtain ⟨j1,hj1⟩ : ∃ j1,j1 = j + 1:=⟨_,rfl⟩
          have ej : (j : Int) + 1 = (j1 : Int):=by omega
          have HJ:=hidI hj1
          clear hj1
          have hs1 : tx.size ≤ 1099511627776:=by omega
          obtain ⟨g,hg,hcl⟩:=OwnR.elem (f:=smL) (m:=3) (fun _ => rfl) HO.out.st hxj
          rw [hg] at c3
          have k0:=hcl 0 (by omega)
          have k1:=hcl 1 (by omega)
          have k2:=hcl 2 (by omega)
          simp only [smL,Nat.add_zero,List.getElem?_cons_zero,List.getElem?_cons_succ] at k0 k1 k2
          have z1:=SM.out.st x hmem
          obtain ⟨t1,t2⟩:=TR.out.stm x hmem
          obtain ⟨en,hen⟩ : ∃ en : Nat,x.expr = (en : Int):=⟨x.expr.toNat,by omega⟩
          obtain ⟨pt,hpt⟩ : ∃ t,zcv x.kind x.name (prX m.ex en) = t:=⟨_,rfl⟩
          have hsf : stF m.ex x = pt:=by rw [stF,hen,Int.toNat_natCast,hpt]
          rw [hsf] at HS hpart
          have hp2 : pt.size ≤ 1099511627776:=by omega
          have hwt : wt m.ex en ≤ 1099511627776:=by have:=zblr x.kind x.name (prX m.ex en); rw [hpt] at this; unfold wt; omega
          rw [hen] at k2
          have HG:=hidI hg
          have cS : ∀ d os,Calls Tryz.prog 60 #[.agg #[.slice S.rq.a m.rq.length S.rq.cap,.slice S.im.a m.im.length S.im.cap,.slice S.ep.a m.ep.length S.ep.cap,.slice (some ⟨g,0,none⟩) m.st.length S.st.cap,.slice S.ex.a m.ex.length S.ex.cap],.agg #[.int .i64 x.kind,.string x.name,.int .i64 (en : Int)]] (grow (redrawn wr d) os) fun e w'' => e = .returned (.string pt) ∧ ∃ p : Regrown,w'' = grow (redrawn wr p.d) p.os:=fun d os => Calls.regrown_of (by rw [← hpt,← hg]; exact zbby base S m x.kind x.name en _ (HO.out.later (below_regrown _ d os)) (by omega) SM.out.nums TR.out.ahead hwt z1)
          have C0:=hidI c0
          have C1:=hidI c1
          have C2:=hidI c2
          have C3:=hidI c3
          have C4:=hidI c4
          have K0:=hidI k0
          have K1:=hidI k1
          have K2:=hidI k2
          clear hg hcl hxj hmem hpt hsf hpart htot hen HG
          go_wp2_with fail
          have y0:=cell_regrown C0.out
          have y1:=cell_regrown C1.out
          have y2:=cell_regrown C2.out
          have y3:=cell_regrown C3.out
          have y4:=cell_regrown C4.out
          have w0':=cell_regrown K0.out
          have w1':=cell_regrown K1.out
          have w2':=cell_regrown K2.out
          refine wp_region_quiet_below (by kernel_rfl) (by kernel_rfl) ?_
          repeat (go_big_quiet_step (with_reducible exact cS _ _))
          refine wpQuiet_nil ?_
          intro w2 hw'
          obtain ⟨⟨dq,osq⟩,hw''⟩:=hw'
          have hb : Below wr.heap.size wr w2:=by rw [hw'']; exact below_regrown _ _ _
          have HO2:=hidI (HO.out.later hb)
          have HX2:=hidI ((hb.block _ hwl).trans HX.out)
          have HB2:=hidI (HB.out.trans (hb.mono HB.out.size))
          clear hb hw'' y0 y1 y2 y3 y4 w0' w1' w2' cS
          go_wp2
          go_roundg (gk - 1)
          case rel => exact ⟨j1,_,rfl,rfl,by have:=HJ.out; omega,by rw [HJ.out,HS.out,← HTX0.out],HO2.out,HX2.out,HB2.out⟩
          case measure => omega
         ·have hlti : ¬ (j : Int) < (m.st.length : Int):=by omega
          have HTX : Hid (tx = acc (stF m.ex) m.st (zgu m)):=by show tx = _; rw [HTX0.out,List.take_of_length_le (by omega)]
          clear HTX0
          go_wp2
          go_ret
          exact ⟨.inl ⟨TR.out,zcm HTX.out⟩,HB.out⟩
end Go.Proofs.YtgchhhmfloemlaaGreat
namespace Go.Proofs.YtgchhhmfloemlaaGreat
open Go.RowKit Go.PlainAid

theorem Tryz.infoString : (Tryz.prog.info? 9).map (fun i => (i.zero,i.size,i.bytes)) = some (some (.string { data:=#[] }),1,16):=by kernel_rfl
theorem OwnR.addr {w : World} {base size n : Nat} {e : TypeId} {r : Rw} {xs : List Value} (h : OwnR w base e size r n xs) : n = 0 ∨ ∃ g,r.a = some ⟨g,0,none⟩:=by
 rcases h.2 with ⟨_,hn⟩ | ⟨g,cap,cur,hv,_⟩
 ·exact .inl hn
 ·simp only [Value.slice.injEq] at hv
  exact .inr ⟨g,hv.1⟩
theorem OwnR.str {w : World} {base : Nat} {e : TypeId} {r : Rw} {l : List ByteArray} {g : Nat} (h : OwnR w base e 1 r l.length (l.map .string)) (hg : r.a = some ⟨g,0,none⟩) {j : Nat} (hj : j < l.length) : w.cell? ⟨g,j,none⟩ = some (.string (l.getD j sNone)):=by
 unfold OwnR at h
 rw [hg] at h
 rw [h.cellAt j (by omega)]
 simp [List.getD,hj]
theorem OwnR.lt {w : World} {base size n : Nat} {e : TypeId} {r : Rw} {xs : List Value} {g : Nat} (h : OwnR w base e size r n xs) (hg : r.a = some ⟨g,0,none⟩) : g < w.heap.size:=(h.typed (k:=g) (by simp [Rw.blk,hg,Value.ownBlock])).2.1
theorem zbia {l : List ByteArray} {x : ByteArray} {j : Nat} (hj : j < l.length) (h : ((l.getD j sNone).toList == x.toList) = true) : hasS l x = true:=by
 rw [hasS,List.any_eq_true]
 exact ⟨l[j],List.getElem_mem hj,by simpa [List.getD,hj] using h⟩
theorem zbls {l : List ByteArray} {x : ByteArray} (h : ∀ j,j < l.length → ((l.getD j sNone).toList == x.toList) = false) : hasS l x = false:=by
 rw [Bool.eq_false_iff,hasS]
 intro k
 rw [List.any_eq_true] at k
 obtain ⟨y,hy,hk⟩:=k
 obtain ⟨j,hj,rfl⟩:=List.getElem_of_mem hy
 have:=h j hj
 simp only [List.getD,List.getElem?_eq_getElem hj,Option.getD_some] at this
 rw [this] at hk
 cases hk
theorem zbet {C : Cx} {x : PR} {q : PS} {z : Int} (hx : Is x q z) (hi : (decide (z < 0) && ((zd C q.pos).kind == 3)) = false) : Is2 (bd x (zbo C)) q (zfg C q.pos z) sNone:=by
 unfold zfg
 by_cases hz : z < 0
 ·obtain ⟨h1,h2⟩:=zcp hx hz
  simp only [hz,decide_true,Bool.true_and] at hi
  rw [h1,zbe,zbo,hi,if_pos hz]
  rfl
 ·obtain ⟨e,h1,h2⟩:=zin hx hz
  rw [h1,ziu,if_neg hz]
  exact h2

set_option maxRecDepth 100000 in
set_option maxHeartbeats 3200000 in
theorem zbeu (C : Cx) (gt cap base : Nat) (x : PR) (S : Sv) (q : PS) (z : Int) (d : Nat) (w : World) (hx : Is x q z) (hm : Mem C gt cap base S q w) (hi : (decide (z < 0) && ((zd C q.pos).kind == 3)) = false) :
  Calls Tryz.prog 142 #[pv C gt cap S q z d] w (Out2 C gt cap base (bd x (zbo C)) d S w):=by
 have HM : Hid (Mem C gt cap base S q w):=hm
 have htok:=hm.tok
 have hfew:=hm.few
 have HY : Hid (Is2 (bd x (zbo C)) q (zfg C q.pos z) sNone):=zbet hx hi
 clear hx hm
 by_cases hz : z < 0
 ·have dz2 : decide (0 ≤ z) = false:=decide_eq_false (by omega)
  simp only [hz,decide_true,Bool.true_and] at hi
  by_cases hp : q.pos < C.ts.length
  ·obtain ⟨c0,_,_,_⟩:=htok.cells hp (d:=⟨0,sNone,0,C.fin⟩)
   have hglt:=(zbr htok).1
   change _ = some (Value.int .i64 (zd C q.pos).kind) at c0
   generalize htk : zd C q.pos = t at c0 hi
   have e1' : (t.kind != 3) = true:=by rw [bne,hi]; rfl
   clear htk
   unfold pv
   go_enter Tryz.func142,Tryz.ntmps142
   go_wp2_with fail
   refine (zfz C gt cap base S q z d _ (zg (zg htok _) _) hfew).mono ?_
   rintro e w2 ⟨rfl,hb2⟩
   have G3 : Hid (_ = _):=(zgk hb2).2
   obtain ⟨c0,c1,c2,c3,c4,c5,c6,c7,c8,c9,c10,c11,cf⟩:=zbw G3.out
   unfold pv
   go_wp2
   refine bodyPost_ret (zj rfl _ _ (w.heap.size + 1) 81 _ (0,0) _ rfl (zeh G3.out) Tryz.underlying81 rfl (by kernel_rfl)) rfl ?_
   exact zgs rfl HY.out HM.out (zee (zce hb2) (Nat.le_succ _) _ _ _ _ _ _ _ _ _ _ _ _)
  ·unfold pv
   go_enter Tryz.func142,Tryz.ntmps142
   go_wp2_with fail
   refine (zfz C gt cap base S q z d _ (zg (zg htok _) _) hfew).mono ?_
   rintro e w2 ⟨rfl,hb2⟩
   have G3 : Hid (_ = _):=(zgk hb2).2
   obtain ⟨c0,c1,c2,c3,c4,c5,c6,c7,c8,c9,c10,c11,cf⟩:=zbw G3.out
   unfold pv
   go_wp2
   refine bodyPost_ret (zj rfl _ _ (w.heap.size + 1) 81 _ (0,0) _ rfl (zeh G3.out) Tryz.underlying81 rfl (by kernel_rfl)) rfl ?_
   exact zgs rfl HY.out HM.out (zee (zce hb2) (Nat.le_succ _) _ _ _ _ _ _ _ _ _ _ _ _)
 ·have dz2 : decide (0 ≤ z) = true:=decide_eq_true (by omega)
  unfold pv
  go_enter Tryz.func142,Tryz.ntmps142
  go_wp2_with fail
  refine (zfz C gt cap base S q z d _ (zg (zg htok _) _) hfew).mono ?_
  rintro e w2 ⟨rfl,hb2⟩
  have G3 : Hid (_ = _):=(zgk hb2).2
  obtain ⟨c0,c1,c2,c3,c4,c5,c6,c7,c8,c9,c10,c11,cf⟩:=zbw G3.out
  unfold pv
  go_wp2
  refine bodyPost_ret (zj rfl _ _ (w.heap.size + 1) 81 _ (0,0) _ rfl (zeh G3.out) Tryz.underlying81 rfl (by kernel_rfl)) rfl ?_
  exact zgs rfl HY.out HM.out (zee (zce hb2) (Nat.le_succ _) _ _ _ _ _ _ _ _ _ _ _ _)

def txt (C : Cx) (q : PS) : ByteArray:=(zd C q.pos).text
theorem zbca {C : Cx} {q : PS} (h3 : ((zd C q.pos).kind == 3) = true) (hh : hasS q.rq (txt C q) = true) : zbo C q = .ok (adv q,txt C q):=by
 unfold txt at hh
 rw [zbo,if_pos h3,if_pos hh]; rfl
theorem zbev {C : Cx} {q : PS} (h3 : ((zd C q.pos).kind == 3) = true) (hh : hasS q.rq (txt C q) = false) (hn : 40 ≤ q.rq.length) : zbo C q = .error (here C q.pos):=by
 unfold txt at hh
 rw [zbo,if_pos h3,hh,if_pos hn]; rfl
theorem zbib {C : Cx} {q : PS} (h3 : ((zd C q.pos).kind == 3) = true) (hh : hasS q.rq (txt C q) = false) (hn : ¬ 40 ≤ q.rq.length) : zbo C q = .ok ({ adv q with rq:=q.rq ++ [txt C q] },txt C q):=by
 unfold txt at hh
 rw [zbo,if_pos h3,hh,if_neg hn]; rfl
set_option maxRecDepth 100000 in
set_option maxHeartbeats 3200000 in
theorem zrk (C : Cx) (gt cap base : Nat) (S : Sv) (q : PS) (d : Nat) (w : World) (hm : Mem C gt cap base S q w) (h3 : ((zd C q.pos).kind == 3) = true) (g : Nat) (hga : q.rq.length = 0 ∨ S.rq.a = some ⟨g,0,none⟩) :
  Calls Tryz.prog 142 #[pv C gt cap S q (-1) d] w (Out2 C gt cap base (zbo C q) d S w):=by
 obtain ⟨i0,hi,hz0,hz1,hz2⟩:=info_parts Tryz.infoString
 have HM : Hid (Mem C gt cap base S q w):=hm
 have H3 : Hid (((zd C q.pos).kind == 3) = true):=h3
 have hp : q.pos < C.ts.length:=zon h3 (by decide)
 have hfew:=hm.few
 have hrq:=hm.inv.rq
 have hglt:=(zbr hm.tok).1
 obtain ⟨c0,c1,_,_⟩:=hm.tok.cells hp (d:=⟨0,sNone,0,C.fin⟩)
 change _ = some (Value.int .i64 (zd C q.pos).kind) at c0
 change _ = some (Value.string (txt C q)) at c1
 generalize (zd C q.pos).kind = kd at c0 h3
 have e1' : (kd != 3) = false:=by rw [bne,h3]; rfl
 have HGA : Hid (q.rq.length = 0 ∨ S.rq.a = some ⟨g,0,none⟩):=hga
 obtain ⟨R,hR⟩ : ∃ R : Nat → ByteArray,∀ j,R j = q.rq.getD j sNone:=⟨fun j => q.rq.getD j sNone,fun _ => rfl⟩
 have HR : Hid (∀ j,R j = q.rq.getD j sNone):=hR
 have HC : Hid (∀ j,j < q.rq.length → w.cell? ⟨g,j,none⟩ = some (.string (R j))):=fun j hj => by
  rcases hga with e | e
  ·omega
  ·rw [hR]; exact HM.out.own.rq.str e hj
 clear hR
 generalize htx : txt C q = tx at c1
 have HTX : Hid (txt C q = tx):=htx
 have hown:=fun o1 o2 o3 => ((HM.out.own.rq.alloc o1).alloc o2).alloc o3
 clear htx hm hga
 unfold pv
 go_enter Tryz.func142,Tryz.ntmps142
 go_wp2
 go_loop [5] (fun i => ∃ k : Nat,k ≤ q.rq.length ∧ i = .int .i64 k ∧ ∀ j,j < k → ¬ (R j).toList = tx.toList) (fun i => (q.rq.length - intOf i).toNat)
 case atStart => exact ⟨0,Nat.zero_le _,rfl,fun j hj => absurd hj (Nat.not_lt_zero j)⟩
 case round =>
  obtain ⟨k,hk,rfl,hno⟩:=hrel
  have HNO : Hid (∀ j,j < k → ¬ (R j).toList = tx.toList):=hno
  clear hno
  by_cases hlt : k < q.rq.length
  ·have ha : S.rq.a = some ⟨g,0,none⟩:=HGA.out.elim (fun e => by omega) id
   have hck:=HC.out k hlt
   have hg1:=HM.out.own.rq.lt ha
   cases he : ((R k).toList == tx.toList) with
   | true =>
    have HS : Hid (zbo C q = .ok (adv q,tx)):=by
     show zbo C q = .ok (adv q,tx)
     rw [← HTX.out]
     exact zbca H3.out (zbia hlt (by rw [← HR.out,HTX.out]; exact he))
    have HA : Hid (S.rq.a = some ⟨g,0,none⟩):=ha
    go_wp2
    refine bodyPost_ret (zj rfl _ _ (w.heap.size + 1) 81 _ (0,0) _ rfl (new2 w _ _) Tryz.underlying81 rfl (by kernel_rfl)) rfl ?_
    rw [HS.out]
    exact zgs (q':=adv q) (z':=-1) (by rw [pv,HA.out]; rfl) ⟨rfl,rfl,rfl⟩ (HM.out.adv hp) (zdj w _ _)
   | false =>
    have HX : Hid (∀ j,j < k + 1 → ¬ (R j).toList = tx.toList):=fun j hj => by
     by_cases e : j = k
     ·rw [e]; exact beq_eq_false_iff_ne.1 he
     ·exact HNO.out j (by omega)
    go_wp2
    go_round
    case rel => exact ⟨k + 1,by omega,by go_num,HX.out⟩
    case measure => simp [intOf]; omega
  ·have HN : Hid (hasS q.rq (txt C q) = false):=zbls fun j hj => by rw [HTX.out,← HR.out]; exact beq_eq_false_iff_ne.2 (HNO.out j (by omega))
   by_cases hn : 40 ≤ q.rq.length
   ·have qn : decide ((40 : Int) ≤ (q.rq.length : Int)) = true:=decide_eq_true (by omega)
    have HS : Hid (zbo C q = .error (here C q.pos)):=zbev H3.out HN.out hn
    go_wp2_with fail
    refine (zhr C gt cap base S (adv q) (-1) d _ (((HM.out.adv hp).alloc _).alloc _) (by decide) (by simp [adv])).mono ?_
    rintro e w2 ⟨rfl,hb2⟩
    have G3 : Hid (_ = _):=(zgk hb2).2
    obtain ⟨b0,b1,b2,b3,b4,b5,b6,b7,b8,b9,b10,b11,bf⟩:=zbw G3.out
    have HB : Hid (Below w.heap.size w w2):=zce hb2
    clear hb2
    unfold pv
    go_wp2
    refine bodyPost_ret (zj rfl _ _ (w.heap.size + 1) 81 _ (0,0) _ rfl (zeh G3.out) Tryz.underlying81 rfl (by kernel_rfl)) rfl ?_
    rw [HS.out]
    exact zgs (q':=adv q) (z':=(here C q.pos : Int)) rfl rfl (HM.out.adv hp) (zee HB.out (Nat.le_succ _) _ _ _ _ _ _ _ _ _ _ _ _)
   ·have qn : decide ((40 : Int) ≤ (q.rq.length : Int)) = false:=decide_eq_false (by omega)
    have HS : Hid (zbo C q = .ok ({ adv q with rq:=q.rq ++ [tx] },tx)):=by
     show zbo C q = .ok ({ adv q with rq:=q.rq ++ [tx] },tx)
     rw [← HTX.out]
     exact zbib H3.out HN.out hn
    go_wp2_with (at_builtin; refine zgj _ rfl _ _ 22 rfl base 9 i0 _ 1 16 Tryz.underlying22 hi hz0 hz1 hz2 rfl (by decide) (by decide) S.rq q.rq.length _ (by rfl) (hown _ _ _) (w.heap.size + 1 + 1) [.string tx] (by rfl) (by exact (new3 w _ _ _).2.2) rfl (by intro u hu; simp at hu; subst hu; rfl) (by omega) (by have:=HM.out.base; rw [zca]; omega) ?_)
    intro r' w2 hr hg hat
    have HRR : Hid (OwnR w2 base 9 1 r' (q.rq.length + 1) _):=hr
    have HG : Hid (World.grownBy _ w2 _):=hg
    have HAT : Hid (_ ∨ _):=hat
    have hne:=fun b hb => wpos (W:=w) HM.out.own (Nat.le_refl _) (r:=S.rq.blk) (fun k e => .inl e) b hb
    have g1:=(hg.block w.heap.size (by rw [zca]; omega) (hne _ (Nat.le_refl _))).trans (new3 w _ _ _).1
    have g2:=(hg.block (w.heap.size + 1) (by rw [zca]; omega) (hne _ (by omega))).trans (new3 w _ _ _).2.1
    obtain ⟨a0,a1,a2,a3,a4,a5,a6,a7,a8,a9,a10,a11,af⟩:=zbw g1
    obtain ⟨b0,b1,b2,b3,b4,b5,b6,b7,b8,b9,b10,b11,bf⟩:=zbw g2
    have G2 : Hid (_ = _):=g2
    clear g1 g2 hg hr hat hne hown
    go_wp2
    refine bodyPost_ret (zj rfl _ _ (w.heap.size + 1) 81 _ (0,0) _ rfl (zeh ((zo (by omega)).trans G2.out)) Tryz.underlying81 rfl (by kernel_rfl)) rfl ?_
    obtain ⟨m',s'⟩:=(HM.out.adv hp).grow_rq (x:=tx) (zhs w _ _ _) HG.out HRR.out (by rw [zca]; exact HAT.out) (((Off.refl _ _ _).set (b:=w.heap.size) (Nat.le_refl _) (by rw [zca]; omega) _ _).set12 (b:=w.heap.size + 1) (by omega) (by rw [zca]; omega) _ _ _ _ _ _ _ _ _ _ _ _) (by show q.rq.length < 40; omega)
    rw [HS.out]
    exact ⟨_,{ adv q with rq:=q.rq ++ [tx] },-1,tx,by simp [pv,adv],⟨rfl,rfl,rfl⟩,m',s'⟩
theorem zgd (C : Cx) (gt cap base : Nat) (x : PR) (S : Sv) (q : PS) (z : Int) (d : Nat) (w : World) (hx : Is x q z) (hm : Mem C gt cap base S q w) :
  Calls Tryz.prog 142 #[pv C gt cap S q z d] w (Out2 C gt cap base (bd x (zbo C)) d S w):=by
 cases hi : (decide (z < 0) && ((zd C q.pos).kind == 3)) with
 | false => exact zbeu C gt cap base x S q z d w hx hm hi
 | true =>
  rw [Bool.and_eq_true,decide_eq_true_eq] at hi
  obtain ⟨rfl,rfl⟩:=zcp hx hi.1
  rw [zbe]
  rcases hm.own.rq.addr with e | ⟨g,e⟩
  ·exact zrk C gt cap base S q d w hm hi.2 0 (.inl e)
  ·exact zrk C gt cap base S q d w hm hi.2 g (.inr e)
end Go.Proofs.YtgchhhmfloemlaaGreat
namespace Go.Proofs.YtgchhhmfloemlaaGreat
open Go.RowKit Go.PlainAid

abbrev set12 (w : World) (b : Nat) (x0 x1 x2 x3 x4 x5 x6 x7 x8 x9 x10 x11 : Value) : World :=
 ((((((((((((w.setCell ⟨b,0,none⟩ x0).setCell ⟨b,1,none⟩ x1).setCell ⟨b,2,none⟩ x2).setCell ⟨b,3,none⟩ x3).setCell ⟨b,4,none⟩ x4).setCell ⟨b,5,none⟩ x5).setCell ⟨b,6,none⟩ x6).setCell ⟨b,7,none⟩ x7).setCell ⟨b,8,none⟩ x8).setCell ⟨b,9,none⟩ x9).setCell ⟨b,10,none⟩ x10).setCell ⟨b,11,none⟩ x11)
theorem zkw (w : World) (a : Addr) (u : Value) : (w.setCell a u).heap.size = w.heap.size:=by show (w.heap.modify _ _).size = _; simp
theorem zbcb (w : World) (b : Nat) (x0 x1 x2 x3 x4 x5 x6 x7 x8 x9 x10 x11 : Value) : (set12 w b x0 x1 x2 x3 x4 x5 x6 x7 x8 x9 x10 x11).heap.size = w.heap.size:=by
 unfold set12
 simp only [zkw]
theorem zhu {w : World} {b k : Nat} (h : k ≠ b) (x0 x1 x2 x3 x4 x5 x6 x7 x8 x9 x10 x11 : Value) : (set12 w b x0 x1 x2 x3 x4 x5 x6 x7 x8 x9 x10 x11).heap[k]? = w.heap[k]?:=by
 unfold set12
 rw [zo h,zo h,zo h,zo h,zo h,zo h,zo h,zo h,zo h,zo h,zo h,zo h]
structure Bx (gt : Nat) (S : Sv) (w : World) (b : Nat) (cs : Array Value) : Prop where
 heap : w.heap[b]? = some (.cells cs 81 (0,0))
 free : ¬ S.has b
 ne : b ≠ gt
theorem Bx.lt {gt b : Nat} {S : Sv} {w : World} {cs : Array Value} (h : Bx gt S w b cs) : b < w.heap.size:=(Array.getElem?_eq_some_iff.1 h.heap).1
theorem Bx.stp {gt b : Nat} {S S' : Sv} {w w' : World} {cs : Array Value} (h : Bx gt S w b cs) (k : Stp S w S' w') : Bx gt S' w' b cs :=
 ⟨(k.block b h.lt h.free).trans h.heap,fun g => (k.sub b g).elim h.free fun g' => by have:=h.lt; omega,h.ne⟩
theorem Bx.below {gt b : Nat} {S : Sv} {w w' : World} {cs : Array Value} (h : Bx gt S w b cs) (k : Below w.heap.size w w') : Bx gt S w' b cs:=⟨(k.block b h.lt).trans h.heap,h.free,h.ne⟩
theorem Bx.alloc {gt b : Nat} {S : Sv} {w : World} {cs : Array Value} (h : Bx gt S w b cs) (o : Obj) : Bx gt S (w.alloc o) b cs:=h.below ((Below.refl _ _).alloc (Nat.le_refl _) _)
theorem Bx.new {C : Cx} {gt cap base : Nat} {S : Sv} {q : PS} {w : World} (h : Mem C gt cap base S q w) (cs : Array Value) : Bx gt S (w.alloc (.cells cs 81 (0,0))) w.heap.size cs :=
 ⟨heap_alloc_new w _,fun g => by have:=(h.own.has g).2; omega,by have:=(zbr h.tok).1; omega⟩
theorem Bx.set {gt b : Nat} {S : Sv} {w : World} {cs : Array Value} (h : Bx gt S w b cs) (i : Nat) (u : Value) : Bx gt S (w.setCell ⟨b,i,none⟩ u) b (cs.setIfInBounds i u):=⟨zhi h.heap,h.free,h.ne⟩
theorem Bx.set_other {gt b c : Nat} {S : Sv} {w : World} {cs : Array Value} (h : Bx gt S w b cs) (hc : b ≠ c) (i : Nat) (u : Value) : Bx gt S (w.setCell ⟨c,i,none⟩ u) b cs:=⟨(zo hc).trans h.heap,h.free,h.ne⟩
theorem Bx.put {gt b : Nat} {S : Sv} {w : World} {v0 v1 v2 v3 v4 v5 v6 v7 v8 v9 v10 v11 : Value} (h : Bx gt S w b #[v0,v1,v2,v3,v4,v5,v6,v7,v8,v9,v10,v11]) (x0 x1 x2 x3 x4 x5 x6 x7 x8 x9 x10 x11 : Value) :
  Bx gt S (set12 w b x0 x1 x2 x3 x4 x5 x6 x7 x8 x9 x10 x11) b #[x0,x1,x2,x3,x4,x5,x6,x7,x8,x9,x10,x11]:=⟨zeh h.heap,h.free,h.ne⟩
theorem Bx.other {gt b c : Nat} {S : Sv} {w : World} {cs : Array Value} (h : Bx gt S w b cs) (hc : b ≠ c) (x0 x1 x2 x3 x4 x5 x6 x7 x8 x9 x10 x11 : Value) : Bx gt S (set12 w c x0 x1 x2 x3 x4 x5 x6 x7 x8 x9 x10 x11) b cs:=⟨(zhu hc _ _ _ _ _ _ _ _ _ _ _ _).trans h.heap,h.free,h.ne⟩
theorem Bx.at1 {gt b : Nat} {S : Sv} {w : World} {v0 v1 v2 v3 v4 v5 v6 v7 v8 v9 v10 v11 : Value} (h : Bx gt S w b #[v0,v1,v2,v3,v4,v5,v6,v7,v8,v9,v10,v11]) (u : Value) : Bx gt S (w.setCell ⟨b,1,none⟩ u) b #[v0,u,v2,v3,v4,v5,v6,v7,v8,v9,v10,v11]:=by simpa using h.set 1 u
theorem Bx.at11 {gt b : Nat} {S : Sv} {w : World} {v0 v1 v2 v3 v4 v5 v6 v7 v8 v9 v10 v11 : Value} (h : Bx gt S w b #[v0,v1,v2,v3,v4,v5,v6,v7,v8,v9,v10,v11]) (u : Value) : Bx gt S (w.setCell ⟨b,11,none⟩ u) b #[v0,v1,v2,v3,v4,v5,v6,v7,v8,v9,v10,u]:=by simpa using h.set 11 u
theorem Bx.box {gt b : Nat} {S : Sv} {w : World} {v0 v1 v2 v3 v4 v5 v6 v7 v8 v9 v10 v11 : Value} (h : Bx gt S w b #[v0,v1,v2,v3,v4,v5,v6,v7,v8,v9,v10,v11]) : Box w b v0 v1 v2 v3 v4 v5 v6 v7 v8 v9 v10 v11:=zbw h.heap
theorem Mem.set {C : Cx} {gt cap base b : Nat} {S : Sv} {q : PS} {w : World} (h : Mem C gt cap base S q w) {cs : Array Value} (hb : Bx gt S w b cs) (i : Nat) (u : Value) : Mem C gt cap base S q (w.setCell ⟨b,i,none⟩ u) :=
 ⟨h.own.keep fun k g => zo (b:=k) fun e => hb.free (by rw [← e]; exact g),h.inv,zcq h.tok (zo hb.ne.symm),h.few,by rw [zkw]; exact h.base⟩
theorem Mem.put {C : Cx} {gt cap base b : Nat} {S : Sv} {q : PS} {w : World} (h : Mem C gt cap base S q w) {cs : Array Value} (hb : Bx gt S w b cs) (x0 x1 x2 x3 x4 x5 x6 x7 x8 x9 x10 x11 : Value) : Mem C gt cap base S q (set12 w b x0 x1 x2 x3 x4 x5 x6 x7 x8 x9 x10 x11) :=
 ⟨h.own.keep fun k g => zhu (k:=k) (fun e => hb.free (by rw [← e]; exact g)) _ _ _ _ _ _ _ _ _ _ _ _,h.inv,zcq h.tok (zhu hb.ne.symm _ _ _ _ _ _ _ _ _ _ _ _),h.few,by rw [zbcb]; exact h.base⟩

/-- A way from w on: blocks below B but the six rows' are as they were. -/
structure SB (B : Nat) (S : Sv) (w : World) (S' : Sv) (w' : World) : Prop where
 os : w'.os = w.os
 tape : w'.tape = w.tape
 output : w'.output = w.output
 size : w.heap.size ≤ w'.heap.size
 low : B ≤ w.heap.size
 block : ∀ k,k < B → ¬ S.has k → w'.heap[k]? = w.heap[k]?
 sub : ∀ k,S'.has k → S.has k ∨ B ≤ k
theorem SB.start {S : Sv} {w w' : World} (h : Below w.heap.size w w') : SB w.heap.size S w S w':=⟨h.os,h.tape,h.output,h.size,Nat.le_refl _,fun k hk _ => h.block k hk,fun _ g => .inl g⟩
theorem SB.step {B : Nat} {S S1 S2 : Sv} {w w1 w2 : World} (h : SB B S w S1 w1) (k : Stp S1 w1 S2 w2) : SB B S w S2 w2 :=
 ⟨k.os.trans h.os,k.tape.trans h.tape,k.output.trans h.output,Nat.le_trans h.size k.size,h.low,
  fun i hi hn => (k.block i (by have:=h.size; have:=h.low; omega) fun g => (h.sub i g).elim hn fun g' => by omega).trans (h.block i hi hn),
  fun i hi => (k.sub i hi).elim (h.sub i) fun g => .inr (by have:=h.size; have:=h.low; omega)⟩
theorem SB.below {B : Nat} {S S1 : Sv} {w w1 w2 : World} (h : SB B S w S1 w1) (k : Below w1.heap.size w1 w2) : SB B S w S1 w2:=h.step (Stp.below k)
theorem SB.alloc {B : Nat} {S S1 : Sv} {w w1 : World} (h : SB B S w S1 w1) (o : Obj) : SB B S w S1 (w1.alloc o):=h.below ((Below.refl _ _).alloc (Nat.le_refl _) _)
theorem SB.set {B : Nat} {S S1 : Sv} {w w1 : World} (h : SB B S w S1 w1) {b : Nat} (hb : B ≤ b) (i : Nat) (u : Value) : SB B S w S1 (w1.setCell ⟨b,i,none⟩ u) :=
 ⟨h.os,h.tape,h.output,by rw [zkw]; exact h.size,h.low,fun k hk hn => (zo (by omega)).trans (h.block k hk hn),h.sub⟩
theorem SB.put {B : Nat} {S S1 : Sv} {w w1 : World} (h : SB B S w S1 w1) {b : Nat} (hb : B ≤ b) (x0 x1 x2 x3 x4 x5 x6 x7 x8 x9 x10 x11 : Value) : SB B S w S1 (set12 w1 b x0 x1 x2 x3 x4 x5 x6 x7 x8 x9 x10 x11) :=
 (((((((((((h.set hb 0 x0).set hb 1 x1).set hb 2 x2).set hb 3 x3).set hb 4 x4).set hb 5 x5).set hb 6 x6).set hb 7 x7).set hb 8 x8).set hb 9 x9).set hb 10 x10).set hb 11 x11
theorem SB.done {S S1 : Sv} {w w1 : World} (h : SB w.heap.size S w S1 w1) : Stp S w S1 w1:=⟨h.os,h.tape,h.output,h.size,h.block,h.sub⟩
theorem zm {P : Program} {code : Code} {Q : Exit → Act → World → Prop} {a : Act} {w0 : World} {R : World → Prop} (h0 : R w0) (h : ∀ W,R W → Code.wp P code Q a W) : Code.wp P code Q a w0:=h w0 h0
/-- The box of what came in, and the one of what is handed back. -/
theorem Mem.two {C : Cx} {gt cap base : Nat} {S : Sv} {q : PS} {w w1 : World} {ca cb : Array Value} (h : Mem C gt cap base S q w) (hb : Below ((w.alloc (.cells ca 81 (0,0))).alloc (.cells cb 81 (0,0))).heap.size ((w.alloc (.cells ca 81 (0,0))).alloc (.cells cb 81 (0,0))) w1) :
  Bx gt S w1 w.heap.size ca ∧ Bx gt S w1 (w.heap.size + 1) cb ∧ Mem C gt cap base S q w1 ∧ SB w.heap.size S w S w1 :=
 ⟨((Bx.new h _).alloc _).below hb,by have:=(Bx.new (h.alloc (.cells ca 81 (0,0))) cb).below hb; rw [ze] at this; exact this,h.later (zce hb),SB.start (zce hb)⟩
theorem Mem.two2 {C : Cx} {gt cap base : Nat} {S S1 : Sv} {q : PS} {w w1 : World} {ca cb : Array Value} (h : Mem C gt cap base S q w) (s : Stp S ((w.alloc (.cells ca 81 (0,0))).alloc (.cells cb 81 (0,0))) S1 w1) :
  Bx gt S1 w1 w.heap.size ca ∧ Bx gt S1 w1 (w.heap.size + 1) cb ∧ SB w.heap.size S w S1 w1 :=
 ⟨((Bx.new h _).alloc _).stp s,by have:=(Bx.new (h.alloc (.cells ca 81 (0,0))) cb).stp s; rw [ze] at this; exact this,(SB.start (zdj w _ _)).step s⟩
theorem zw {C : Cx} {gt cap base : Nat} {y : PR} {d : Nat} {S S' : Sv} {w w' : World} {q' : PS} {z' : Int} {v : Value} (hv : v = pv C gt cap S' q' z' d) (hi : Is y q' z') (hm : Mem C gt cap base S' q' w') (hs : SB w.heap.size S w S' w') : Out C gt cap base y d S w (.returned v) w' :=
 ⟨S',q',z',by rw [hv],hi,hm,hs.done⟩
end Go.Proofs.YtgchhhmfloemlaaGreat
