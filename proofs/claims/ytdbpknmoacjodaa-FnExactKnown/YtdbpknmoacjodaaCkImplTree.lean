/-
  What areExprsUsedOnce answers: the walk.
-/
import Derived.Test.YtdbpknmoacjodaaCkImplPrintA
namespace Go.Proofs.Ytdbpknmoacjodaa
open Go.RowKit Go.PlainAid Go.Sort

def UM (w0 : World) (base : Nat) (S : Sv) (m : Md) (gu : Nat) (f : Nat → Nat) (w : World) : Prop :=
  (w.heap[gu]? = some (.cells #[.slice (some ⟨w0.heap.size + 1, 0, none⟩) m.ex.length m.ex.length] 86 (0, 0)) ∧ w0.heap.size + 1 < gu) ∧
  w.ownsRow (w0.heap.size + 1) 3 1 (.slice (some ⟨w0.heap.size + 1, 0, none⟩) m.ex.length m.ex.length) m.ex.length (rowN m.ex.length f) ∧ OwnMd w base S m ∧
  w.heap[w0.heap.size]? = some (.cells #[.slice S.rq.a m.rq.length S.rq.cap, .slice S.im.a m.im.length S.im.cap, .slice S.ep.a m.ep.length S.ep.cap, .slice S.st.a m.st.length S.st.cap, .slice S.ex.a m.ex.length S.ex.cap] 37 (0, 0)) ∧ Below w0.heap.size w0 w
theorem UM.later {w0 w w' : World} {base : Nat} {S : Sv} {m : Md} {gu : Nat} {f : Nat → Nat} (h : UM w0 base S m gu f w) (hb : Below w.heap.size w w') : UM w0 base S m gu f w' := by
  obtain ⟨⟨h1, h2⟩, h3, h4, h5, h6⟩ := h
  exact ⟨⟨(hb.block _ (Array.getElem?_eq_some_iff.1 h1).1).trans h1, h2⟩, cnt_later h3 hb, h4.later hb, (hb.block _ (Array.getElem?_eq_some_iff.1 h5).1).trans h5, h6.trans (hb.mono h6.size)⟩
theorem UM.used {w0 w : World} {base : Nat} {S : Sv} {m : Md} {gu : Nat} {f : Nat → Nat} (h : UM w0 base S m gu f w) (i : Nat) : UM w0 base S m gu (plus f i) (w.setCell ⟨w0.heap.size + 1, i, none⟩ (.int .i64 (f i + 1 : Nat))) := by
  obtain ⟨⟨h1, h2⟩, h3, h4, h5, h6⟩ := h
  exact ⟨⟨(pother (by omega)).trans h1, h2⟩, cnt_put h3 i _ rfl, row_set h4 (cnt_typed h3), (pother (by omega)).trans h5, h6.setCell (Nat.le_succ _) _⟩
theorem UM.congr {w0 w : World} {base : Nat} {S : Sv} {m : Md} {gu : Nat} {f g : Nat → Nat} (h : UM w0 base S m gu f w) (e : ∀ k, k < m.ex.length → f k = g k) : UM w0 base S m gu g w := by
  obtain ⟨h1, h3, h4, h5, h6⟩ := h
  exact ⟨h1, by rw [← rowN_congr e]; exact h3, h4, h5, h6⟩
theorem use_any {w0 : World} {b0 : Nat} {S : Sv} {m : Md} {gu : Nat} {f : Nat → Nat} (i : Nat) (n : Int) (w : World) (h : UM w0 b0 S m gu f w) (hf : f i ≤ 17179869184) (hi : i < m.ex.length) (hn : (i : Int) < n) :
    Calls Try.prog 125 #[.int .i64 (i : Int), .int .i64 n, .pointer (some ⟨gu, 0, none⟩)] w fun e w' => e = .returned (.bool true) ∧ UM w0 b0 S m gu (plus f i) w' ∧ ∀ k, k ≠ w0.heap.size + 1 → w'.heap[k]? = w.heap[k]? := by
  refine (useI_yes i m.ex.length (w0.heap.size + 1) (w0.heap.size + 1) gu n f w h.1.1 h.2.1 hf hi hn).mono ?_
  rintro e w' ⟨rfl, rfl⟩
  exact ⟨rfl, h.used i, fun k hk => pother hk⟩
theorem odd_not {n : Nat} {f : Nat → Nat} : odd n f 0 = false ↔ ∀ k, k < n → f k = 1 := by
  rw [Bool.eq_false_iff]
  constructor
  · intro h k hk
    by_cases e : f k = 1
    · exact e
    · exact absurd (by
        simp only [odd, List.any_eq_true, List.mem_range, Bool.and_eq_true, decide_eq_true_eq]
        exact ⟨k, hk, Nat.zero_le _, by rw [bne_iff_ne]; omega⟩) h
  · intro h e
    simp only [odd, List.any_eq_true, List.mem_range, Bool.and_eq_true, decide_eq_true_eq] at e
    obtain ⟨k, hk, _, hx⟩ := e
    rw [bne_iff_ne] at hx
    have := h k hk
    omega
set_option maxRecDepth 100000 in
set_option maxHeartbeats 6400000 in
theorem usedOnce_any (base : Nat) (S : Sv) (m : Md) (w : World) (h : OwnMd w base S m) (hl : m.ex.length ≤ 4294967296) (hs : m.st.length ≤ 4294967296) :
    Calls Try.prog 57 #[modD S m] w fun e w' => TreeOut m e ∧ Below w.heap.size w w' := by
  obtain ⟨i0, hi, hz0, hz1, hz2⟩ := info_parts Try.infoInt
  have HH := hidI h
  clear h
  unfold modD
  go_enter Try.func57, Try.ntmps57
  go_wp2_with (first | (at_make; refine wpList_make_full _ rfl _ _ 86 rfl (w.heap.size + 1) 3 i0 (.int .i64 0) 1 Try.underlying86 hi hz0 hz1 .i64 .i64 _ _ m.ex.length (by rfl) (by rfl) rfl rfl (by rw [hz2]; omega) (by unfold maxLen; omega) (by rw [alloc_size]; omega) ?_))
  intro w1 hown hgr
  rw [made_row] at hown
  have bb : Below (w.heap.size + 1) (w.alloc _) w1 := ⟨hgr.os, hgr.tape, hgr.output, hgr.size, fun k hk => hgr.block k (by rw [alloc_size]; exact hk) (by simp)⟩
  have HB1 : Hid (Below w.heap.size w w1) := ((Below.refl _ _).alloc (Nat.le_refl _) _).trans (bb.mono (by omega))
  have HX1 : Hid (w1.heap[w.heap.size]? = some (.cells #[.slice S.rq.a m.rq.length S.rq.cap, .slice S.im.a m.im.length S.im.cap, .slice S.ep.a m.ep.length S.ep.cap, .slice S.st.a m.st.length S.st.cap, .slice S.ex.a m.ex.length S.ex.cap] 37 (0, 0))) := (bb.block _ (by omega)).trans (heap_alloc_new w _)
  have HO1 := hidI (HH.out.later HB1.out)
  have HN1 : Hid (w1.ownsRow (w.heap.size + 1) 3 1 (.slice (some ⟨w.heap.size + 1, 0, none⟩) m.ex.length m.ex.length) m.ex.length (rowN m.ex.length (cE m.ex 0))) := by show World.ownsRow _ _ _ _ _ _ _; rw [show rowN m.ex.length (cE m.ex 0) = rowN m.ex.length (fun _ => 0) from rowN_congr fun k _ => by simp [cE, usesE]]; exact hown
  clear hown hgr bb
  have hgw := (cnt_lt HN1.out).2
  go_upto_region 3 with fail
  have HA : Hid (Below w1.heap.size w1 (w1.alloc (.cells #[.slice (some ⟨w.heap.size + 1, 0, none⟩) m.ex.length m.ex.length] 86))) := (Below.refl _ _).alloc (Nat.le_refl _) _
  have hz := (Array.getElem?_eq_some_iff.1 HX1.out).1
  refine world_anyI (R := UM w base S m w1.heap.size (cE m.ex 0)) ⟨⟨heap_alloc_new w1 _, hgw⟩, cnt_later HN1.out HA.out, HO1.out.later HA.out, (HA.out.block _ hz).trans HX1.out, HB1.out.trans (HA.out.mono HB1.out.size)⟩ ?_
  obtain ⟨gu, hgu⟩ : ∃ gu, gu = w1.heap.size := ⟨_, rfl⟩
  rw [← hgu]
  rw [← hgu] at hgw
  clear HA HX1 HB1 HO1 HN1 hz hgu w1
  intro W hum
  have HM := hidI hum
  clear hum
  obtain ⟨c0, c1, c2, c3, c4, cf⟩ := five_of HM.out.2.2.2.1
  go_wp2
  go_loopg [17] m.ex.length (fun k i wr => ∃ j : Nat, i = .int .i64 j ∧ j + k = m.ex.length ∧ AheadTo m.ex j ∧ UM w base S m gu (cE m.ex j) wr)
  case atStart => exact ⟨0, rfl, by omega, fun i x hi => absurd hi (Nat.not_lt_zero i), HM.out⟩
  case round =>
    obtain ⟨j, rfl, hj, ah, hum⟩ := hrel
    have AH := hidI ah
    have HU := hidI hum
    clear ah hum
    clear c0 c1 c2 c3 c4 cf
    obtain ⟨c0, c1, c2, c3, c4, cf⟩ := five_of HU.out.2.2.2.1
    by_cases hlt : j < m.ex.length
    · have hlti : (j : Int) < (m.ex.length : Int) := by omega
      obtain ⟨g, hg, hgl, x0, x1, x2, x3, x4, x5⟩ := HU.out.2.2.1.expr hlt
      have HG : Hid (Value.slice S.ex.a m.ex.length S.ex.cap = Value.slice (some ⟨g, 0, none⟩) m.ex.length S.ex.cap) := by show _ = _; rw [hg]
      clear hg c0 c1 c2 c3 c4 cf
      rw [HG.out]
      have HGE := hidI (getD_at hlt)
      obtain ⟨x, hxx⟩ : ∃ x, m.ex.getD j exNo = x := ⟨_, rfl⟩
      rw [hxx] at x0 x1 x2 x3 x4 x5
      have HE : Hid (m.ex[j] = x) := HGE.out.symm.trans hxx
      clear hxx HGE
      obtain ⟨j1, hj1⟩ : ∃ j1, j1 = j + 1 := ⟨_, rfl⟩
      have ej : (j : Int) + 1 = (j1 : Int) := by omega
      have HJ := hidI hj1
      clear hj1
      go_upto_region 6 with fail
      have HW : Hid (Below wr.heap.size wr (wr.alloc (.cells #[.int .i64 x.kind, .int .i64 x.num, .string x.name, .string x.field, .int .i64 x.l, .int .i64 x.r] 96))) := (Below.refl _ _).alloc (Nat.le_refl _) _
      refine world_anyI (R := fun W => W.heap[wr.heap.size]? = some (.cells #[.int .i64 x.kind, .int .i64 x.num, .string x.name, .string x.field, .int .i64 x.l, .int .i64 x.r] 96 (0, 0)) ∧ UM w base S m gu (cE m.ex j) W) ⟨heap_alloc_new wr _, HU.out.later HW.out⟩ ?_
      have hne : wr.heap.size ≠ w.heap.size + 1 := by have := (cnt_lt HU.out.2.1).2; omega
      obtain ⟨gx, hgx⟩ : ∃ gx, gx = wr.heap.size := ⟨_, rfl⟩
      rw [← hgx]
      rw [← hgx] at hne
      clear x0 x1 x2 x3 x4 x5 HW
      rintro W ⟨xb, hum⟩
      clear hgx HU
      have XB := hidI xb
      have HU := hidI hum
      clear xb hum
      obtain ⟨x0, x1, x2, x3, x4, x5, xf⟩ := six_of XB.out
      go_wp2_with fail
      refine (hasSides_any x.kind _).mono ?_
      rintro e w2 ⟨rfl, hw⟩
      rw [hw]
      clear hw w2
      cases ht : twoK x.kind with
      | false =>
        go_wp2
        rw [← HG.out]
        go_roundg (gk - 1)
        case rel => exact ⟨j1, rfl, by have := HJ.out; omega, by rw [HJ.out]; exact AH.out.next hlt (fun k => by rw [HE.out, ht] at k; cases k), by rw [HJ.out]; exact HU.out.congr fun k _ => not_uses hlt (by rw [HE.out]; exact ht) k⟩
        case measure => omega
      | true =>
        go_wp2_with fail
        by_cases a1 : 0 ≤ x.l ∧ x.l < (j : Int)
        · obtain ⟨ln, hln⟩ : ∃ ln : Nat, x.l = (ln : Int) := ⟨x.l.toNat, by omega⟩
          have hul := usesE_le (m.ex.take j)
          have hlen : (m.ex.take j).length ≤ 4294967296 := by rw [List.length_take]; omega
          rw [hln]
          refine (use_any (w0 := w) (b0 := base) (S := S) (m := m) (f := cE m.ex j) ln (j : Int) W HU.out (by have := hul (ln : Int); unfold cE; omega) (by omega) (by omega)).mono ?_
          rintro e W2 ⟨rfl, hum2, hk⟩
          have HU2 := hidI hum2
          have XB2 := hidI ((hk gx hne).trans XB.out)
          clear hum2 hk x0 x1 x2 x3 x4 x5 xf
          obtain ⟨x0, x1, x2, x3, x4, x5, xf⟩ := six_of XB2.out
          go_wp2_with fail
          by_cases a2 : 0 ≤ x.r ∧ x.r < (j : Int)
          · obtain ⟨rn, hrn⟩ : ∃ rn : Nat, x.r = (rn : Int) := ⟨x.r.toNat, by omega⟩
            rw [hrn]
            refine (use_any (w0 := w) (b0 := base) (S := S) (m := m) (f := plus (cE m.ex j) ln) rn (j : Int) W2 HU2.out (by have := hul (rn : Int); unfold plus cE; split <;> omega) (by omega) (by omega)).mono ?_
            rintro e W3 ⟨rfl, hum3, hk⟩
            have HU3 := hidI hum3
            have HUU : Hid (∀ k : Nat, plus (plus (cE m.ex j) ln) rn k = cE m.ex (j + 1) k) := fun k => by have := two_uses hlt (by rw [HE.out]; exact ht) (by rw [HE.out]; omega) (by rw [HE.out]; omega) k; rw [HE.out, hln, hrn] at this; exact this
            have HAH : Hid (AheadTo m.ex (j + 1)) := AH.out.next hlt (fun _ => by rw [HE.out]; omega)
            clear hum3 hk x0 x1 x2 x3 x4 x5 xf hln hrn a1 a2 hul hlen
            go_wp2
            rw [← HG.out]
            go_roundg (gk - 1)
            case rel => exact ⟨j1, rfl, by have := HJ.out; omega, by rw [HJ.out]; exact HAH.out, by rw [HJ.out]; exact HU3.out.congr fun k _ => HUU.out k⟩
            case measure => omega
          · refine (useI_no x.r (j : Int) _ W2 a2).mono ?_
            rintro e w3 ⟨rfl, hw⟩
            rw [hw]
            clear hw w3
            go_wp2
            go_ret
            exact ⟨tree_no (fun (t : Tree m) => absurd t.ahead (AheadTo.not hlt (by rw [HE.out]; exact ht) (by rw [HE.out]; omega))), HU2.out.2.2.2.2⟩
        · refine (useI_no x.l (j : Int) _ W a1).mono ?_
          rintro e w2 ⟨rfl, hw⟩
          rw [hw]
          clear hw w2
          go_wp2
          go_ret
          exact ⟨tree_no (fun (t : Tree m) => absurd t.ahead (AheadTo.not hlt (by rw [HE.out]; exact ht) (by rw [HE.out]; omega))), HU.out.2.2.2.2⟩
    · have hlti : ¬ (j : Int) < (m.ex.length : Int) := by omega
      obtain rfl : j = m.ex.length := by omega
      have HA := hidI AH.out.all
      have HC : Hid (UM w base S m gu (cS m 0) wr) := HU.out.congr fun k _ => by simp [cE, cS, usesS]
      go_wp2
      go_loopg [44] m.st.length (fun k i wr => ∃ j : Nat, i = .int .i64 j ∧ j + k = m.st.length ∧ (∀ s ∈ m.st.take j, 0 ≤ s.expr ∧ s.expr < (m.ex.length : Int)) ∧ UM w base S m gu (cS m j) wr)
      case atStart => exact ⟨0, rfl, by omega, (fun s hs => by simp at hs), HC.out⟩
      case round =>
        obtain ⟨j, rfl, hj2, ah, hum⟩ := hrel
        have AS := hidI ah
        have HU2 := hidI hum
        clear ah hum c0 c1 c2 c3 c4 cf
        obtain ⟨c0, c1, c2, c3, c4, cf⟩ := five_of HU2.out.2.2.2.1
        by_cases hlt2 : j < m.st.length
        · have hlti2 : (j : Int) < (m.st.length : Int) := by omega
          obtain ⟨s, hsj⟩ : ∃ s, m.st[j]? = some s := ⟨_, List.getElem?_eq_getElem hlt2⟩
          obtain ⟨g, hg, hcl⟩ := OwnR.elem (f := smL) (m := 3) (fun _ => rfl) HU2.out.2.2.1.st hsj
          have k0 := hcl 0 (by omega)
          have k1 := hcl 1 (by omega)
          have k2 := hcl 2 (by omega)
          simp only [smL, Nat.add_zero, List.getElem?_cons_zero, List.getElem?_cons_succ] at k0 k1 k2
          have HG : Hid (Value.slice S.st.a m.st.length S.st.cap = Value.slice (some ⟨g, 0, none⟩) m.st.length S.st.cap) := by show _ = _; rw [hg]
          obtain ⟨_, hsj2⟩ := List.getElem?_eq_some_iff.1 hsj
          have HS : Hid (m.st[j] = s) := hsj2
          clear hg hcl hsj hsj2
          rw [HG.out]
          obtain ⟨j1, hj1⟩ : ∃ j1, j1 = j + 1 := ⟨_, rfl⟩
          have ej : (j : Int) + 1 = (j1 : Int) := by omega
          have HJ := hidI hj1
          clear hj1
          go_upto_region 12 with fail
          have HW : Hid (Below wr.heap.size wr (wr.alloc (.cells #[.int .i64 s.kind, .string s.name, .int .i64 s.expr] 159))) := (Below.refl _ _).alloc (Nat.le_refl _) _
          refine world_anyI (R := fun W => W.heap[wr.heap.size]? = some (.cells #[.int .i64 s.kind, .string s.name, .int .i64 s.expr] 159 (0, 0)) ∧ UM w base S m gu (cS m j) W) ⟨heap_alloc_new wr _, HU2.out.later HW.out⟩ ?_
          clear k0 k1 k2 HW c0 c1 c2 c3 c4 cf
          rintro W ⟨xb, hum⟩
          have HU := hidI hum
          obtain ⟨k0, k1, k2, kf⟩ := three_of xb
          clear hum xb
          obtain ⟨c0, c1, c2, c3, c4, cf⟩ := five_of HU.out.2.2.2.1
          go_wp2_with fail
          by_cases a1 : 0 ≤ s.expr ∧ s.expr < (m.ex.length : Int)
          · obtain ⟨en, hen⟩ : ∃ en : Nat, s.expr = (en : Int) := ⟨s.expr.toNat, by omega⟩
            have HST : Hid (∀ s ∈ m.st.take (j + 1), 0 ≤ s.expr ∧ s.expr < (m.ex.length : Int)) := by
              intro y hy
              rw [List.take_succ_eq_append_getElem hlt2, List.mem_append] at hy
              rcases hy with hy | hy
              · exact AS.out y hy
              · simp only [List.mem_singleton] at hy
                rw [hy, HS.out]
                omega
            have HUU : Hid (∀ k : Nat, plus (cS m j) en k = cS m (j + 1) k) := fun k => by have := stm_uses (ex := m.ex) hlt2 (by rw [HS.out]; omega) k; rw [HS.out, hen] at this; exact this
            rw [hen]
            refine (use_any (w0 := w) (b0 := base) (S := S) (m := m) (f := cS m j) en _ W HU.out (by unfold cS; have := usesE_le m.ex (en : Int); have := usesS_le (m.st.take j) (en : Int); rw [List.length_take] at this; omega) (by omega) (by omega)).mono ?_
            rintro e W2 ⟨rfl, hum3, hk⟩
            have HU3 := hidI hum3
            clear hum3 hk k0 k1 k2 kf c0 c1 c2 c3 c4 cf hen a1
            go_wp2
            rw [← HG.out]
            go_roundg (gk - 1)
            case rel => exact ⟨j1, rfl, by have := HJ.out; omega, by rw [HJ.out]; exact HST.out, by rw [HJ.out]; exact HU3.out.congr fun k _ => HUU.out k⟩
            case measure => omega
          · refine (useI_no s.expr _ _ W a1).mono ?_
            rintro e w3 ⟨rfl, hw⟩
            rw [hw]
            clear hw w3
            go_wp2
            go_ret
            exact ⟨tree_no (fun (t : Tree m) => by have := t.stm _ (List.getElem_mem hlt2); rw [HS.out] at this; omega), HU.out.2.2.2.2⟩
        · have hlti2 : ¬ (j : Int) < (m.st.length : Int) := by omega
          obtain rfl : j = m.st.length := by omega
          have HST : Hid (∀ s ∈ m.st, 0 ≤ s.expr ∧ s.expr < (m.ex.length : Int)) := by have := AS.out; rw [List.take_length] at this; exact this
          obtain ⟨t0, tf⟩ := one_of HU2.out.1.1
          go_wp2_with fail
          refine (containsInt_any (w.heap.size + 1) (w.heap.size + 1) m.ex.length (cS m m.st.length) _ HU2.out.2.1 hl).mono ?_
          rintro e w3 ⟨rfl, hb⟩
          have HB3 : Hid (Below w.heap.size w w3) := HU2.out.2.2.2.2.trans (hb.mono HU2.out.2.2.2.2.size)
          clear hb
          cases ho : odd m.ex.length (cS m m.st.length) 0 with
          | true =>
            go_wp2
            go_ret
            exact ⟨tree_no (fun (t : Tree m) => by
              have := odd_not.2 (fun k hk => by have := t.once k hk; show cS m m.st.length k = 1; unfold cS; rw [List.take_length]; omega)
              rw [ho] at this
              cases this), HB3.out⟩
          | false =>
            go_wp2
            go_ret
            exact ⟨tree_yes ⟨HA.out, HST.out, fun k hk => by have := odd_not.1 ho k hk; unfold cS at this; rw [List.take_length] at this; exact this⟩, HB3.out⟩
end Go.Proofs.Ytdbpknmoacjodaa
