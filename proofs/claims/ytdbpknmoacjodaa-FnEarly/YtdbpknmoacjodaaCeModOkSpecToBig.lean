/-
  What spec.ModOk answers: the walk.
  What laws.big answers: the walk.
-/
import Derived.Test.YtdbpknmoacjodaaCeSpecTreeToSpecPrintE
namespace Go.Proofs.Ytdbpknmoacjodaa
open Go.RowKit Go.PlainAid Go.Sort

set_option maxRecDepth 100000 in
set_option maxHeartbeats 6400000 in
theorem modOk_spec (base : Nat) (S : Sv) (m : Md) (scr : Bool) (w : World) (h : OwnMd w base S m) (hm : Small m) (hsz : Tree m → (textS m).size ≤ 4294967296) :
    Calls Try.prog 44 #[modD S m, .bool scr] w fun e w' => OkOut (textS m) m scr e ∧ Below w.heap.size w w' := by
  have HH := hidI h
  have SM := hidI hm
  have HU := hidI hsz
  have SF : Hid (MdFew m) := hm.few
  clear h hm hsz
  unfold modD
  go_enter Try.func44, Try.ntmps44
  go_upto_region 1 with fail
  have HW : Hid (Below w.heap.size w (w.alloc (.cells #[.slice S.rq.a m.rq.length S.rq.cap, .slice S.im.a m.im.length S.im.cap, .slice S.ep.a m.ep.length S.ep.cap, .slice S.st.a m.st.length S.st.cap, .slice S.ex.a m.ex.length S.ex.cap] 37))) := (Below.refl _ _).alloc (Nat.le_refl _) _
  refine world_anyI (R := fun W => W.heap[w.heap.size]? = some (.cells #[.slice S.rq.a m.rq.length S.rq.cap, .slice S.im.a m.im.length S.im.cap, .slice S.ep.a m.ep.length S.ep.cap, .slice S.st.a m.st.length S.st.cap, .slice S.ex.a m.ex.length S.ex.cap] 37 (0, 0)) ∧ OwnMd W base S m ∧ Below w.heap.size w W) ⟨heap_alloc_new w _, HH.out.later HW.out, HW.out⟩ ?_
  obtain ⟨gx, hgx⟩ : ∃ gx, gx = w.heap.size := ⟨_, rfl⟩
  rw [← hgx]
  rintro w1 ⟨hx, ho, hb⟩
  rw [hgx] at hb
  clear hgx HW HH
  have X1 := hidI hx
  have O1 := hidI ho
  have HB1 := hidI hb
  clear hx ho hb
  obtain ⟨c0, c1, c2, c3, c4, cf⟩ := five_of X1.out
  go_wp2_with fail
  refine (print_spec base S m scr w1 O1.out SM.out (fun t => Nat.le_trans (HU.out t) (by omega))).mono ?_
  rintro e w2 ⟨hpo, hb⟩
  obtain ⟨t, hpr, rfl⟩ := hpo.form
  have PR := hidI hpr
  have ht := hpr.size HU.out
  have X2 := hidI ((hb.block _ (Array.getElem?_eq_some_iff.1 X1.out).1).trans X1.out)
  have O2 := hidI (O1.out.later hb)
  have HB2 := hidI (HB1.out.trans (hb.mono HB1.out.size))
  clear hpo hpr hb c0 c1 c2 c3 c4 cf
  go_wp2_with fail
  refine (parse_spec t scr w2 ht).mono ?_
  rintro e w3 ⟨hpo, hb⟩
  have X3 := hidI ((hb.block _ (Array.getElem?_eq_some_iff.1 X2.out).1).trans X2.out)
  have O3 := hidI (O2.out.later hb)
  have HB3 := hidI (HB2.out.trans (hb.mono HB2.out.size))
  clear hb
  rcases hpo.md with ⟨q, S3, n, hy, hn, rfl, hown, hfew⟩ | ⟨p, hy, rfl⟩
  · have OK := hidI (ok_iff (m := m) hy hn)
    have O4 := hidI hown
    have NF := hidI hfew
    clear hpo hy hn hown hfew
    unfold modD
    go_upto_region 2 with fail
    have HW : Hid (Below w3.heap.size w3 (w3.alloc (.cells #[.slice S3.rq.a n.rq.length S3.rq.cap, .slice S3.im.a n.im.length S3.im.cap, .slice S3.ep.a n.ep.length S3.ep.cap, .slice S3.st.a n.st.length S3.st.cap, .slice S3.ex.a n.ex.length S3.ex.cap] 37))) := (Below.refl _ _).alloc (Nat.le_refl _) _
    refine world_anyI (R := fun W => W.heap[gx]? = some (.cells #[.slice S.rq.a m.rq.length S.rq.cap, .slice S.im.a m.im.length S.im.cap, .slice S.ep.a m.ep.length S.ep.cap, .slice S.st.a m.st.length S.st.cap, .slice S.ex.a m.ex.length S.ex.cap] 37 (0, 0)) ∧ W.heap[w3.heap.size]? = some (.cells #[.slice S3.rq.a n.rq.length S3.rq.cap, .slice S3.im.a n.im.length S3.im.cap, .slice S3.ep.a n.ep.length S3.ep.cap, .slice S3.st.a n.st.length S3.st.cap, .slice S3.ex.a n.ex.length S3.ex.cap] 37 (0, 0)) ∧ OwnMd W base S m ∧ OwnMd W w2.heap.size S3 n ∧ Below w.heap.size w W) ⟨(HW.out.block _ (Array.getElem?_eq_some_iff.1 X3.out).1).trans X3.out, heap_alloc_new w3 _, O3.out.later HW.out, O4.out.later HW.out, HB3.out.trans (HW.out.mono HB3.out.size)⟩ ?_
    obtain ⟨gy, hgy⟩ : ∃ gy, gy = w3.heap.size := ⟨_, rfl⟩
    rw [← hgy]
    intro w4 h4
    have T4 := hidI h4
    clear h4 hgy HW X3 O3 O4 HB3
    obtain ⟨c0, c1, c2, c3, c4, cf⟩ := five_of T4.out.1
    obtain ⟨d0, d1, d2, d3, d4, df⟩ := five_of T4.out.2.1
    go_wp2_with fail
    refine ((l4Same_with neqIm grdIm neqEp grdEp neqSm grdSm neqEx grdEx w2.heap.size base S3 S n m _ T4.out.2.2.2.1 T4.out.2.2.1 NF.out)).mono ?_
    rintro e w5 ⟨⟨r, rfl, hr⟩, hb⟩
    have HR := hidI hr
    have HB5 := hidI (T4.out.2.2.2.2.trans (hb.mono T4.out.2.2.2.2.size))
    clear hr hb c0 c1 c2 c3 c4 cf d0 d1 d2 d3 d4 df
    go_wp2
    go_ret
    exact ⟨⟨t, PR.out, r, rfl, HR.out.trans OK.out.symm⟩, HB5.out⟩
  · have NO := hidI (ok_bad (m := m) hy)
    clear hpo hy
    go_wp2
    go_ret
    exact ⟨⟨t, PR.out, false, rfl, ⟨fun k => (by cases k), fun k => absurd k NO.out⟩⟩, (HB3.out.alloc HB3.out.size _)⟩
end Go.Proofs.Ytdbpknmoacjodaa
namespace Go.Proofs.Ytdbpknmoacjodaa
open Go.RowKit Go.PlainAid

theorem big_any (a : Option Addr) (len cap : Nat) (w : World) (_ : len ≤ 9223372036854775807) :
    Calls Try.prog 27 #[.slice a len cap] w fun e w' => e = .returned (.bool (decide ((1048576 : Int) < len))) ∧ w' = w := by
  go_enter Try.func27, Try.ntmps27
  go_wp2
  go_ret
  exact ⟨rfl, rfl⟩
end Go.Proofs.Ytdbpknmoacjodaa
