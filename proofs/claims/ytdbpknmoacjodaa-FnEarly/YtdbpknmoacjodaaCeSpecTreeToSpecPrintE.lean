/-
  What l5Tree of the specification answers: the walk.
  What spec.Print answers: the walk.
-/
import Derived.Test.YtdbpknmoacjodaaCeEqModToCountMath
namespace Go.Proofs.Ytdbpknmoacjodaa
open Go.RowKit Go.PlainAid Go.Sort

theorem Try.infoInt : (Try.prog.info? 3).map (fun i => (i.zero, i.size, i.bytes)) = some (some (.int .i64 0), 1, 8) := by kernel_rfl
theorem made_row (n : Nat) : (madeCells #[.int .i64 0] n).toList = rowN n (fun _ => 0) := by
  rw [toList_madeCells_one]
  unfold rowN
  rw [List.map_const', List.length_range]
  rfl
theorem cnt_cell {w : World} {base g n cap : Nat} {f : Nat → Nat} (h : w.ownsRow base 3 1 (.slice (some ⟨g, 0, none⟩) n cap) n (rowN n f)) {k : Nat} (hk : k < n) : w.cell? ⟨g, k, none⟩ = some (.int .i64 (f k : Int)) := by
  rw [h.cellAt k (by omega)]
  exact rowN_at f hk
theorem cnt_put {w : World} {base g n cap : Nat} {f : Nat → Nat} (h : w.ownsRow base 3 1 (.slice (some ⟨g, 0, none⟩) n cap) n (rowN n f)) (k v : Nat) (hv : v = f k + 1) : (w.setCell ⟨g, k, none⟩ (.int .i64 (v : Int))).ownsRow base 3 1 (.slice (some ⟨g, 0, none⟩) n cap) n (rowN n (plus f k)) := by
  have := (h.stored k (.int .i64 (v : Int))).1
  rw [rowN_set f (plus f k) v (by rw [plus_at, hv]) (fun j hj => plus_ne f hj)] at this
  exact this
theorem cnt_later {w w' : World} {base g n cap : Nat} {xs : List Value} (h : w.ownsRow base 3 1 (.slice (some ⟨g, 0, none⟩) n cap) n xs) (hb : Below w.heap.size w w') : w'.ownsRow base 3 1 (.slice (some ⟨g, 0, none⟩) n cap) n xs := by
  have h1 : OwnR w base 3 1 ⟨some ⟨g, 0, none⟩, cap⟩ n xs := h
  exact h1.keep fun k e => hb.block k (h1.typed e).2.1
theorem cnt_lt {w : World} {base g n cap : Nat} {xs : List Value} (h : w.ownsRow base 3 1 (.slice (some ⟨g, 0, none⟩) n cap) n xs) : base ≤ g ∧ g < w.heap.size := by
  have h1 : OwnR w base 3 1 ⟨some ⟨g, 0, none⟩, cap⟩ n xs := h
  exact ⟨(h1.typed rfl).1, (h1.typed rfl).2.1⟩
theorem row_set {w : World} {base g k : Nat} {S : Sv} {m : Md} {u : Value} (h : OwnMd w base S m) (hg : ∀ b, w.heap[g]? = some b → ∃ cur, b = .cells cur 3 (0, 0)) : OwnMd (w.setCell ⟨g, k, none⟩ u) base S m := by
  have hk : ∀ (e : TypeId) (size n : Nat) (r : Rw) (xs : List Value), OwnR w base e size r n xs → e ≠ 3 → OwnR (w.setCell ⟨g, k, none⟩ u) base e size r n xs := fun e size n r xs h he => h.keep fun b hb => Below.heap_setCell w ⟨g, k, none⟩ u b (fun eq => by
    obtain ⟨_, _, c, hc⟩ := h.typed hb
    obtain ⟨cur, hcur⟩ := hg _ (by rw [← show b = g from eq]; exact hc)
    simp only [Obj.cells.injEq] at hcur
    exact he hcur.2.1)
  exact ⟨hk _ _ _ _ _ h.rq (by decide), hk _ _ _ _ _ h.im (by decide), hk _ _ _ _ _ h.ep (by decide), hk _ _ _ _ _ h.st (by decide), hk _ _ _ _ _ h.ex (by decide)⟩
def cE (ex : List Ex) (j : Nat) : Nat → Nat := fun k => usesE (ex.take j) (k : Int)
theorem OwnMd.drewI {w : World} {base : Nat} {S : Sv} {m : Md} (h : OwnMd w base S m) : OwnMd w.drew base S m := ⟨h.rq, h.im, h.ep, h.st, h.ex⟩
def cS (m : Md) (j : Nat) : Nat → Nat := fun k => usesE m.ex (k : Int) + usesS (m.st.take j) (k : Int)
def TreeOut (m : Md) (e : Ending) : Prop := ∃ b, e = .returned (.bool b) ∧ (b = true ↔ Tree m)
theorem tree_no {m : Md} (h : ¬ Tree m) : TreeOut m (.returned (.bool false)) := ⟨false, rfl, ⟨(fun k => by cases k), fun t => absurd t h⟩⟩
theorem tree_yes {m : Md} (h : Tree m) : TreeOut m (.returned (.bool true)) := ⟨true, rfl, ⟨fun _ => h, fun _ => rfl⟩⟩
theorem cnt_typed {w : World} {base g n cap : Nat} {xs : List Value} (h : w.ownsRow base 3 1 (.slice (some ⟨g, 0, none⟩) n cap) n xs) : ∀ b, w.heap[g]? = some b → ∃ cur, b = .cells cur 3 (0, 0) := by
  have h1 : OwnR w base 3 1 ⟨some ⟨g, 0, none⟩, cap⟩ n xs := h
  obtain ⟨_, _, c, hc⟩ := h1.typed rfl
  intro b hb
  rw [hc] at hb
  exact ⟨c, (Option.some.inj hb).symm⟩
set_option maxRecDepth 100000 in
set_option maxHeartbeats 6400000 in
theorem l5Tree_any (base : Nat) (S : Sv) (m : Md) (w : World) (h : OwnMd w base S m) (hl : m.ex.length ≤ 4294967296) (hs : m.st.length ≤ 4294967296) :
    Calls Try.prog 50 #[modD S m] w fun e w' => TreeOut m e ∧ Below w.heap.size w w' := by
  obtain ⟨i0, hi, hz0, hz1, hz2⟩ := info_parts Try.infoInt
  have HH := hidI h
  clear h
  unfold modD
  go_enter Try.func50, Try.ntmps50
  go_wp2_with (first | (at_make; refine wpList_make_full _ rfl _ _ 86 rfl (w.heap.size + 1) 3 i0 (.int .i64 0) 1 Try.underlying86 hi hz0 hz1 .i64 .i64 _ _ m.ex.length (by rfl) (by rfl) rfl rfl (by rw [hz2]; omega) (by unfold maxLen; omega) (by rw [alloc_size]; omega) ?_))
  intro w1 hown hgr
  rw [made_row] at hown
  have bb : Below (w.heap.size + 1) (w.alloc _) w1 := ⟨hgr.os, hgr.tape, hgr.output, hgr.size, fun k hk => hgr.block k (by rw [alloc_size]; exact hk) (by simp)⟩
  have HB1 : Hid (Below w.heap.size w w1) := ((Below.refl _ _).alloc (Nat.le_refl _) _).trans (bb.mono (by omega))
  have HX1 : Hid (w1.heap[w.heap.size]? = some (.cells #[.slice S.rq.a m.rq.length S.rq.cap, .slice S.im.a m.im.length S.im.cap, .slice S.ep.a m.ep.length S.ep.cap, .slice S.st.a m.st.length S.st.cap, .slice S.ex.a m.ex.length S.ex.cap] 37 (0, 0))) := (bb.block _ (by omega)).trans (heap_alloc_new w _)
  have HO1 := hidI (HH.out.later HB1.out)
  have HN1 : Hid (w1.ownsRow (w.heap.size + 1) 3 1 (.slice (some ⟨w.heap.size + 1, 0, none⟩) m.ex.length m.ex.length) m.ex.length (rowN m.ex.length (cE m.ex 0))) := by show World.ownsRow _ _ _ _ _ _ _; rw [show rowN m.ex.length (cE m.ex 0) = rowN m.ex.length (fun _ => 0) from rowN_congr fun k _ => by simp [cE, usesE]]; exact hown
  clear hown hgr bb
  obtain ⟨c0, c1, c2, c3, c4, cf⟩ := five_of HX1.out
  go_wp2
  go_loopg [4] m.ex.length (fun k i wr => ∃ j : Nat, i = .int .i64 j ∧ j + k = m.ex.length ∧ AheadTo m.ex j ∧ wr.ownsRow (w.heap.size + 1) 3 1 (.slice (some ⟨w.heap.size + 1, 0, none⟩) m.ex.length m.ex.length) m.ex.length (rowN m.ex.length (cE m.ex j)) ∧ OwnMd wr base S m ∧ wr.heap[w.heap.size]? = some (.cells #[.slice S.rq.a m.rq.length S.rq.cap, .slice S.im.a m.im.length S.im.cap, .slice S.ep.a m.ep.length S.ep.cap, .slice S.st.a m.st.length S.st.cap, .slice S.ex.a m.ex.length S.ex.cap] 37 (0, 0)) ∧ Below w.heap.size w wr)
  case atStart => exact ⟨0, rfl, by omega, fun i x hi => absurd hi (Nat.not_lt_zero i), HN1.out, HO1.out, HX1.out, HB1.out⟩
  case round =>
    obtain ⟨j, rfl, hj, ah, hn, ho, hx, hb⟩ := hrel
    have AH := hidI ah
    have HN := hidI hn
    have HO := hidI ho
    have HX := hidI hx
    have HB := hidI hb
    clear ah hn ho hx hb
    clear c0 c1 c2 c3 c4 cf
    obtain ⟨c0, c1, c2, c3, c4, cf⟩ := five_of HX.out
    have hwlt := (Array.getElem?_eq_some_iff.1 HX.out).1
    by_cases hlt : j < m.ex.length
    · have hlti : (j : Int) < (m.ex.length : Int) := by omega
      obtain ⟨g, hg, hgl, x0, x1, x2, x3, x4, x5⟩ := HO.out.expr hlt
      rw [hg] at c4
      clear hg
      have HGE := hidI (getD_at hlt)
      obtain ⟨x, hxx⟩ : ∃ x, m.ex.getD j exNo = x := ⟨_, rfl⟩
      rw [hxx] at x0 x1 x2 x3 x4 x5
      have HE : Hid (m.ex[j] = x) := HGE.out.symm.trans hxx
      clear hxx HGE
      obtain ⟨j1, hj1⟩ : ∃ j1, j1 = j + 1 := ⟨_, rfl⟩
      have ej : (j : Int) + 1 = (j1 : Int) := by omega
      have HJ := hidI hj1
      clear hj1
      have HW : Hid (Below wr.heap.size wr (wr.alloc (.cells #[.int .i64 x.kind, .int .i64 x.num, .string x.name, .string x.field, .int .i64 x.l, .int .i64 x.r] 96))) := (Below.refl _ _).alloc (Nat.le_refl _) _
      go_wp2_with fail
      refine (l5Two_any x.kind _).mono ?_
      rintro e w2 ⟨rfl, hw⟩
      rw [hw]
      clear hw w2
      cases ht : twoK x.kind with
      | false =>
        go_wp2
        go_roundg (gk - 1)
        case rel => exact ⟨j1, rfl, by have := HJ.out; omega, by rw [HJ.out]; exact AH.out.next hlt (fun k => by rw [HE.out, ht] at k; cases k), by rw [HJ.out, show rowN m.ex.length (cE m.ex (j + 1)) = rowN m.ex.length (cE m.ex j) from rowN_congr fun k _ => (not_uses hlt (by rw [HE.out]; exact ht) k).symm]; exact cnt_later HN.out HW.out, HO.out.later HW.out, (HW.out.block _ hwlt).trans HX.out, HB.out.trans (HW.out.mono HB.out.size)⟩
        case measure => omega
      | true =>
        by_cases a1 : x.l < 0
        · have da1 : decide (x.l < 0) = true := decide_eq_true a1
          go_wp2
          go_ret
          exact ⟨tree_no (fun (t : Tree m) => absurd t.ahead (AheadTo.not hlt (by rw [HE.out]; exact ht) (by rw [HE.out]; omega))), HB.out.trans (HW.out.mono HB.out.size)⟩
        have da1 : decide (x.l < 0) = false := decide_eq_false a1
        by_cases a2 : (j : Int) ≤ x.l
        · have da2 : decide ((j : Int) ≤ x.l) = true := decide_eq_true a2
          go_wp2
          go_ret
          exact ⟨tree_no (fun (t : Tree m) => absurd t.ahead (AheadTo.not hlt (by rw [HE.out]; exact ht) (by rw [HE.out]; omega))), HB.out.trans (HW.out.mono HB.out.size)⟩
        have da2 : decide ((j : Int) ≤ x.l) = false := decide_eq_false a2
        by_cases a3 : x.r < 0
        · have da3 : decide (x.r < 0) = true := decide_eq_true a3
          go_wp2
          go_ret
          exact ⟨tree_no (fun (t : Tree m) => absurd t.ahead (AheadTo.not hlt (by rw [HE.out]; exact ht) (by rw [HE.out]; omega))), HB.out.trans (HW.out.mono HB.out.size)⟩
        have da3 : decide (x.r < 0) = false := decide_eq_false a3
        by_cases a4 : (j : Int) ≤ x.r
        · have da4 : decide ((j : Int) ≤ x.r) = true := decide_eq_true a4
          go_wp2
          go_ret
          exact ⟨tree_no (fun (t : Tree m) => absurd t.ahead (AheadTo.not hlt (by rw [HE.out]; exact ht) (by rw [HE.out]; omega))), HB.out.trans (HW.out.mono HB.out.size)⟩
        have da4 : decide ((j : Int) ≤ x.r) = false := decide_eq_false a4
        go_wp2_with fail
        obtain ⟨ln, hln⟩ : ∃ ln : Nat, x.l = (ln : Int) := ⟨x.l.toNat, by omega⟩
        obtain ⟨rn, hrn⟩ : ∃ rn : Nat, x.r = (rn : Int) := ⟨x.r.toNat, by omega⟩
        have hll : ln < m.ex.length := by omega
        have hrl : rn < m.ex.length := by omega
        have hlli : (ln : Int) < (m.ex.length : Int) := by omega
        have hrli : (rn : Int) < (m.ex.length : Int) := by omega
        have HAH : Hid (AheadTo m.ex (j + 1)) := AH.out.next hlt (fun _ => by rw [HE.out]; omega)
        have HU : Hid (∀ k : Nat, plus (plus (cE m.ex j) ln) rn k = cE m.ex (j + 1) k) := fun k => by have := two_uses hlt (by rw [HE.out]; exact ht) (by rw [HE.out]; omega) (by rw [HE.out]; omega) k; rw [HE.out, hln, hrn] at this; exact this
        have hul := usesE_le (m.ex.take j)
        have hlen : (m.ex.take j).length ≤ 4294967296 := by rw [List.length_take]; omega
        have hgw := (cnt_lt HN.out).2
        refine world_anyI (R := fun W => W.heap[wr.heap.size]? = some (.cells #[.int .i64 x.kind, .int .i64 x.num, .string x.name, .string x.field, .int .i64 (ln : Int), .int .i64 (rn : Int)] 96 (0, 0)) ∧ W.ownsRow (w.heap.size + 1) 3 1 (.slice (some ⟨w.heap.size + 1, 0, none⟩) m.ex.length m.ex.length) m.ex.length (rowN m.ex.length (cE m.ex j)) ∧ OwnMd W base S m ∧ W.heap[w.heap.size]? = some (.cells #[.slice S.rq.a m.rq.length S.rq.cap, .slice S.im.a m.im.length S.im.cap, .slice S.ep.a m.ep.length S.ep.cap, .slice S.st.a m.st.length S.st.cap, .slice S.ex.a m.ex.length S.ex.cap] 37 (0, 0)) ∧ Below w.heap.size w W) ⟨by have := heap_alloc_new wr (.cells #[.int .i64 x.kind, .int .i64 x.num, .string x.name, .string x.field, .int .i64 x.l, .int .i64 x.r] 96); rw [hln, hrn] at this; rw [hln, hrn]; exact this, cnt_later HN.out HW.out, HO.out.later HW.out, (HW.out.block _ hwlt).trans HX.out, HB.out.trans (HW.out.mono HB.out.size)⟩ ?_
        have HLN := hidI hln
        have HRN := hidI hrn
        clear hln hrn da1 da2 da3 da4 a1 a2 a3 a4
        rintro W ⟨xb, hn, ho, hx, hb⟩
        have XBa := hidI xb
        have HNa := hidI hn
        have HOa := hidI ho
        have HXa := hidI hx
        have HBa := hidI hb
        obtain ⟨s0, s1, s2, s3, s4, s5, sf⟩ := six_of xb
        obtain ⟨va, hva⟩ : ∃ v, (cE m.ex j) ln = v := ⟨_, rfl⟩
        have ea := cnt_cell hn (k := ln) (by omega)
        have ef := hn.frozenAt
        rw [hva] at ea
        have hvba : va ≤ 17179869184 := by rw [← hva]; have := hul (ln : Int); unfold cE; omega
        obtain ⟨ua, hua⟩ : ∃ u, u = va + 1 := ⟨_, rfl⟩
        have eva : (va : Int) + 1 = (ua : Int) := by omega
        have hwva : IntKind.i64.wrap (ua : Int) = (ua : Int) := IntWalk.i64_in _ ⟨by omega, by omega⟩
        have NNa : Hid ((W.setCell ⟨w.heap.size + 1, ln, none⟩ (.int .i64 (ua : Int))).ownsRow (w.heap.size + 1) 3 1 (.slice (some ⟨w.heap.size + 1, 0, none⟩) m.ex.length m.ex.length) m.ex.length (rowN m.ex.length (plus (cE m.ex j) ln))) := cnt_put hn ln ua (by rw [hua, hva])
        have NOa : Hid (OwnMd (W.setCell ⟨w.heap.size + 1, ln, none⟩ (.int .i64 (ua : Int))) base S m) := row_set ho (cnt_typed hn)
        have NXa : Hid ((W.setCell ⟨w.heap.size + 1, ln, none⟩ (.int .i64 (ua : Int))).heap[w.heap.size]? = some (.cells #[.slice S.rq.a m.rq.length S.rq.cap, .slice S.im.a m.im.length S.im.cap, .slice S.ep.a m.ep.length S.ep.cap, .slice S.st.a m.st.length S.st.cap, .slice S.ex.a m.ex.length S.ex.cap] 37 (0, 0))) := (pother (by omega)).trans hx
        have NBa : Hid (Below w.heap.size w (W.setCell ⟨w.heap.size + 1, ln, none⟩ (.int .i64 (ua : Int)))) := hb.setCell (Nat.le_succ _) _
        have NZa : Hid ((W.setCell ⟨w.heap.size + 1, ln, none⟩ (.int .i64 (ua : Int))).heap[wr.heap.size]? = some (.cells #[.int .i64 x.kind, .int .i64 x.num, .string x.name, .string x.field, .int .i64 (ln : Int), .int .i64 (rn : Int)] 96 (0, 0))) := (pother (by omega)).trans xb
        clear xb hn ho hx hb hva hua
        go_region
        clear s0 s1 s2 s3 s4 s5 sf ef ea
        go_wp2_with fail
        refine world_anyI (R := fun W => W.heap[wr.heap.size]? = some (.cells #[.int .i64 x.kind, .int .i64 x.num, .string x.name, .string x.field, .int .i64 (ln : Int), .int .i64 (rn : Int)] 96 (0, 0)) ∧ W.ownsRow (w.heap.size + 1) 3 1 (.slice (some ⟨w.heap.size + 1, 0, none⟩) m.ex.length m.ex.length) m.ex.length (rowN m.ex.length (plus (cE m.ex j) ln)) ∧ OwnMd W base S m ∧ W.heap[w.heap.size]? = some (.cells #[.slice S.rq.a m.rq.length S.rq.cap, .slice S.im.a m.im.length S.im.cap, .slice S.ep.a m.ep.length S.ep.cap, .slice S.st.a m.st.length S.st.cap, .slice S.ex.a m.ex.length S.ex.cap] 37 (0, 0)) ∧ Below w.heap.size w W) ⟨NZa.out, NNa.out, NOa.out.drewI, NXa.out, NBa.out.drew⟩ ?_
        rintro V ⟨xb, hn, ho, hx, hb⟩
        have XBb := hidI xb
        have HNb := hidI hn
        have HOb := hidI ho
        have HXb := hidI hx
        have HBb := hidI hb
        obtain ⟨s0, s1, s2, s3, s4, s5, sf⟩ := six_of xb
        obtain ⟨vb, hvb⟩ : ∃ v, (plus (cE m.ex j) ln) rn = v := ⟨_, rfl⟩
        have eb := cnt_cell hn (k := rn) (by omega)
        have ef := hn.frozenAt
        rw [hvb] at eb
        have hvbb : vb ≤ 17179869184 := by rw [← hvb]; have := hul (rn : Int); unfold plus cE; split <;> omega
        obtain ⟨ub, hub⟩ : ∃ u, u = vb + 1 := ⟨_, rfl⟩
        have evb : (vb : Int) + 1 = (ub : Int) := by omega
        have hwvb : IntKind.i64.wrap (ub : Int) = (ub : Int) := IntWalk.i64_in _ ⟨by omega, by omega⟩
        have NNb : Hid ((V.setCell ⟨w.heap.size + 1, rn, none⟩ (.int .i64 (ub : Int))).ownsRow (w.heap.size + 1) 3 1 (.slice (some ⟨w.heap.size + 1, 0, none⟩) m.ex.length m.ex.length) m.ex.length (rowN m.ex.length (plus (plus (cE m.ex j) ln) rn))) := cnt_put hn rn ub (by rw [hub, hvb])
        have NOb : Hid (OwnMd (V.setCell ⟨w.heap.size + 1, rn, none⟩ (.int .i64 (ub : Int))) base S m) := row_set ho (cnt_typed hn)
        have NXb : Hid ((V.setCell ⟨w.heap.size + 1, rn, none⟩ (.int .i64 (ub : Int))).heap[w.heap.size]? = some (.cells #[.slice S.rq.a m.rq.length S.rq.cap, .slice S.im.a m.im.length S.im.cap, .slice S.ep.a m.ep.length S.ep.cap, .slice S.st.a m.st.length S.st.cap, .slice S.ex.a m.ex.length S.ex.cap] 37 (0, 0))) := (pother (by omega)).trans hx
        have NBb : Hid (Below w.heap.size w (V.setCell ⟨w.heap.size + 1, rn, none⟩ (.int .i64 (ub : Int)))) := hb.setCell (Nat.le_succ _) _
        have NZb : Hid ((V.setCell ⟨w.heap.size + 1, rn, none⟩ (.int .i64 (ub : Int))).heap[wr.heap.size]? = some (.cells #[.int .i64 x.kind, .int .i64 x.num, .string x.name, .string x.field, .int .i64 (ln : Int), .int .i64 (rn : Int)] 96 (0, 0))) := (pother (by omega)).trans xb
        clear xb hn ho hx hb hvb hub
        go_region
        clear s0 s1 s2 s3 s4 s5 sf ef eb
        go_wp2
        go_roundg (gk - 1)
        case rel => exact ⟨j1, rfl, by have := HJ.out; omega, by rw [HJ.out]; exact HAH.out, by rw [HJ.out, ← rowN_congr fun k _ => HU.out k]; exact NNb.out, NOb.out.drewI, NXb.out, NBb.out.drew⟩
        case measure => omega
    · have hlti : ¬ (j : Int) < (m.ex.length : Int) := by omega
      obtain rfl : j = m.ex.length := by omega
      have HA := hidI AH.out.all
      have HC : Hid (wr.ownsRow (w.heap.size + 1) 3 1 (.slice (some ⟨w.heap.size + 1, 0, none⟩) m.ex.length m.ex.length) m.ex.length (rowN m.ex.length (cS m 0))) := by show World.ownsRow _ _ _ _ _ _ _; rw [show rowN m.ex.length (cS m 0) = rowN m.ex.length (cE m.ex m.ex.length) from rowN_congr fun k _ => by simp [cE, cS, usesS]]; exact HN.out
      go_wp2
      go_loopg [6] m.st.length (fun k i wr => ∃ j : Nat, i = .int .i64 j ∧ j + k = m.st.length ∧ (∀ s ∈ m.st.take j, 0 ≤ s.expr ∧ s.expr < (m.ex.length : Int)) ∧ wr.ownsRow (w.heap.size + 1) 3 1 (.slice (some ⟨w.heap.size + 1, 0, none⟩) m.ex.length m.ex.length) m.ex.length (rowN m.ex.length (cS m j)) ∧ OwnMd wr base S m ∧ wr.heap[w.heap.size]? = some (.cells #[.slice S.rq.a m.rq.length S.rq.cap, .slice S.im.a m.im.length S.im.cap, .slice S.ep.a m.ep.length S.ep.cap, .slice S.st.a m.st.length S.st.cap, .slice S.ex.a m.ex.length S.ex.cap] 37 (0, 0)) ∧ Below w.heap.size w wr)
      case atStart => exact ⟨0, rfl, by omega, (fun s hs => by simp at hs), HC.out, HO.out, HX.out, HB.out⟩
      case round =>
        obtain ⟨j, rfl, hj2, ah, hn, ho, hx, hb⟩ := hrel
        have AS := hidI ah
        have HN2 := hidI hn
        have HO2 := hidI ho
        have HX2 := hidI hx
        have HB2 := hidI hb
        clear ah hn ho hx hb c0 c1 c2 c3 c4 cf
        obtain ⟨c0, c1, c2, c3, c4, cf⟩ := five_of HX2.out
        by_cases hlt2 : j < m.st.length
        · have hlti2 : (j : Int) < (m.st.length : Int) := by omega
          obtain ⟨s, hsj⟩ : ∃ s, m.st[j]? = some s := ⟨_, List.getElem?_eq_getElem hlt2⟩
          obtain ⟨g, hg, hcl⟩ := OwnR.elem (f := smL) (m := 3) (fun _ => rfl) HO2.out.st hsj
          have k2 := hcl 2 (by omega)
          simp only [smL, List.getElem?_cons_zero, List.getElem?_cons_succ] at k2
          rw [hg] at c3
          obtain ⟨_, hsj2⟩ := List.getElem?_eq_some_iff.1 hsj
          have HS : Hid (m.st[j] = s) := hsj2
          clear hg hcl hsj hsj2
          obtain ⟨j1, hj1⟩ : ∃ j1, j1 = j + 1 := ⟨_, rfl⟩
          have ej : (j : Int) + 1 = (j1 : Int) := by omega
          have HJ := hidI hj1
          clear hj1
          by_cases a1 : s.expr < 0
          · have da1 : decide (s.expr < 0) = true := decide_eq_true a1
            go_wp2
            go_ret
            exact ⟨tree_no (fun (t : Tree m) => by have := t.stm _ (List.getElem_mem hlt2); rw [HS.out] at this; omega), HB2.out⟩
          have da1 : decide (s.expr < 0) = false := decide_eq_false a1
          by_cases a2 : (m.ex.length : Int) ≤ s.expr
          · have da2 : decide ((m.ex.length : Int) ≤ s.expr) = true := decide_eq_true a2
            go_wp2
            go_ret
            exact ⟨tree_no (fun (t : Tree m) => by have := t.stm _ (List.getElem_mem hlt2); rw [HS.out] at this; omega), HB2.out⟩
          have da2 : decide ((m.ex.length : Int) ≤ s.expr) = false := decide_eq_false a2
          obtain ⟨en, hen⟩ : ∃ en : Nat, s.expr = (en : Int) := ⟨s.expr.toNat, by omega⟩
          have hel : en < m.ex.length := by omega
          have heli : (en : Int) < (m.ex.length : Int) := by omega
          have HST : Hid (∀ s ∈ m.st.take (j + 1), 0 ≤ s.expr ∧ s.expr < (m.ex.length : Int)) := by
            intro y hy
            rw [List.take_succ_eq_append_getElem hlt2, List.mem_append] at hy
            rcases hy with hy | hy
            · exact AS.out y hy
            · simp only [List.mem_singleton] at hy
              rw [hy, HS.out]
              omega
          have HU : Hid (∀ k : Nat, plus (cS m j) en k = cS m (j + 1) k) := fun k => by have := stm_uses (ex := m.ex) hlt2 (by rw [HS.out]; omega) k; rw [HS.out, hen] at this; exact this
          rw [hen] at k2 a1 a2 da1 da2
          obtain ⟨v, hv⟩ : ∃ v, cS m j en = v := ⟨_, rfl⟩
          have ea := cnt_cell HN2.out hel
          have ef := HN2.out.frozenAt
          rw [hv] at ea
          have hvb : v ≤ 17179869184 := by rw [← hv]; unfold cS; have := usesE_le m.ex (en : Int); have := usesS_le (m.st.take j) (en : Int); rw [List.length_take] at this; omega
          obtain ⟨u, hu⟩ : ∃ u, u = v + 1 := ⟨_, rfl⟩
          have ev : (v : Int) + 1 = (u : Int) := by omega
          have hub : u ≤ 17179869185 := by omega
          have NN : Hid ((wr.setCell ⟨w.heap.size + 1, en, none⟩ (.int .i64 (u : Int))).ownsRow (w.heap.size + 1) 3 1 (.slice (some ⟨w.heap.size + 1, 0, none⟩) m.ex.length m.ex.length) m.ex.length (rowN m.ex.length (plus (cS m j) en))) := cnt_put HN2.out en u (by rw [hu, hv])
          have NO : Hid (OwnMd (wr.setCell ⟨w.heap.size + 1, en, none⟩ (.int .i64 (u : Int))) base S m) := row_set HO2.out (cnt_typed HN2.out)
          have NX : Hid ((wr.setCell ⟨w.heap.size + 1, en, none⟩ (.int .i64 (u : Int))).heap[w.heap.size]? = some (.cells #[.slice S.rq.a m.rq.length S.rq.cap, .slice S.im.a m.im.length S.im.cap, .slice S.ep.a m.ep.length S.ep.cap, .slice S.st.a m.st.length S.st.cap, .slice S.ex.a m.ex.length S.ex.cap] 37 (0, 0))) := (pother (by omega)).trans HX2.out
          have NB : Hid (Below w.heap.size w (wr.setCell ⟨w.heap.size + 1, en, none⟩ (.int .i64 (u : Int)))) := HB2.out.setCell (Nat.le_succ _) _
          clear hen hv hu
          go_wp2
          go_roundg (gk - 1)
          case rel => exact ⟨j1, rfl, by have := HJ.out; omega, by rw [HJ.out]; exact HST.out, by rw [HJ.out, ← rowN_congr fun k _ => HU.out k]; exact NN.out, NO.out, NX.out, NB.out⟩
          case measure => omega
        · have hlti2 : ¬ (j : Int) < (m.st.length : Int) := by omega
          obtain rfl : j = m.st.length := by omega
          have HST : Hid (∀ s ∈ m.st, 0 ≤ s.expr ∧ s.expr < (m.ex.length : Int)) := by have := AS.out; rw [List.take_length] at this; exact this
          go_wp2
          go_loopg [8] m.ex.length (fun k i wr => ∃ j : Nat, i = .int .i64 j ∧ j + k = m.ex.length ∧ (∀ k, k < j → cS m m.st.length k = 1) ∧ wr.ownsRow (w.heap.size + 1) 3 1 (.slice (some ⟨w.heap.size + 1, 0, none⟩) m.ex.length m.ex.length) m.ex.length (rowN m.ex.length (cS m m.st.length)) ∧ Below w.heap.size w wr)
          case atStart => exact ⟨0, rfl, by omega, fun k hk => absurd hk (Nat.not_lt_zero k), HN2.out, HB2.out⟩
          case round =>
            obtain ⟨j, rfl, hj3, ah, hn, hb⟩ := hrel
            have AC := hidI ah
            have HN3 := hidI hn
            have HB3 := hidI hb
            clear ah hn hb c0 c1 c2 c3 c4 cf
            by_cases hlt3 : j < m.ex.length
            · have hlti3 : (j : Int) < (m.ex.length : Int) := by omega
              obtain ⟨v, hv⟩ : ∃ v, cS m m.st.length j = v := ⟨_, rfl⟩
              have ea := cnt_cell HN3.out hlt3
              rw [hv] at ea
              have HV := hidI hv
              clear hv
              obtain ⟨j1, hj1⟩ : ∃ j1, j1 = j + 1 := ⟨_, rfl⟩
              have ej : (j : Int) + 1 = (j1 : Int) := by omega
              have HJ := hidI hj1
              clear hj1
              by_cases hv1 : v = 1
              · subst hv1
                go_wp2
                go_roundg (gk - 1)
                case rel => exact ⟨j1, rfl, by have := HJ.out; omega, (fun k hk => (Nat.lt_or_eq_of_le (show k ≤ j by have := HJ.out; omega)).elim (AC.out k) (fun e => by rw [e]; exact HV.out)), HN3.out, HB3.out⟩
                case measure => omega
              · have dv : ((v : Int) != 1) = true := by rw [bne_iff_ne]; omega
                go_wp2
                go_ret
                exact ⟨tree_no (fun (t : Tree m) => absurd (by have := t.once j hlt3; have h2 := HV.out; unfold cS at h2; rw [List.take_length] at h2; omega) hv1), HB3.out⟩
            · have hlti3 : ¬ (j : Int) < (m.ex.length : Int) := by omega
              go_wp2
              go_ret
              exact ⟨tree_yes ⟨HA.out, HST.out, fun k hk => by have := AC.out k (by omega); unfold cS at this; rw [List.take_length] at this; exact this⟩, HB3.out⟩
end Go.Proofs.Ytdbpknmoacjodaa
namespace Go.Proofs.Ytdbpknmoacjodaa
open Go.RowKit Go.PlainAid Go.Sort

theorem rowsomeP {α : Type} {l : List α} {j : Nat} (h : j < l.length) : ∃ x, l[j]? = some x := ⟨_, List.getElem?_eq_getElem h⟩
theorem app_none (t : ByteArray) : t ++ sNone = t := by
  cases t with
  | mk d =>
    show ByteArray.append _ _ = _
    simp [ByteArray.append]
theorem le_st (m : Md) : (acc (stF m.ex) m.st (text3 m)).size ≤ (textS m).size := Nat.le_refl _
theorem le_ep (m : Md) : (acc epF m.ep (acc impT m.im (acc rqT m.rq sNone))).size ≤ (textS m).size := acc_grow _ _ _
theorem le_im (m : Md) : (acc impT m.im (acc rqT m.rq sNone)).size ≤ (textS m).size := Nat.le_trans (acc_grow _ _ _) (le_ep m)
theorem le_rq (m : Md) : (acc rqT m.rq sNone).size ≤ (textS m).size := Nat.le_trans (acc_grow _ _ _) (le_im m)
theorem stmt_ge (k : Int) (n e : ByteArray) : e.size ≤ (stmtT k n e).size := by
  unfold stmtT
  repeat (first | split | (simp only [ByteArray.size_append]; omega))
set_option maxRecDepth 100000 in
set_option maxHeartbeats 12800000 in
theorem print_spec (base : Nat) (S : Sv) (m : Md) (scr : Bool) (w : World) (h : OwnMd w base S m) (hm : Small m) (hsz : Tree m → (textS m).size ≤ 1099511627776) :
    Calls Try.prog 43 #[modD S m, .bool scr] w fun e w' => PrintOut (textS m) m e ∧ Below w.heap.size w w' := by
  have HH := hidI h
  have SM := hidI hm
  have HU := hidI hsz
  obtain ⟨f1, f2, f3, f4, f5⟩ := hm.few
  clear h hm hsz
  unfold modD
  go_enter Try.func43, Try.ntmps43
  go_wp2_with fail
  refine (l5Tree_any base S m _ (HH.out.alloc _) f5 f4).mono ?_
  rintro e w1 ⟨⟨b, rfl, hb⟩, bel⟩
  have HT := hidI hb
  have HB1 : Hid (Below w.heap.size w w1) := ((Below.refl _ _).alloc (Nat.le_refl _) _).trans (bel.mono (by rw [alloc_size]; omega))
  have HX1 : Hid (w1.heap[w.heap.size]? = some (.cells #[.slice S.rq.a m.rq.length S.rq.cap, .slice S.im.a m.im.length S.im.cap, .slice S.ep.a m.ep.length S.ep.cap, .slice S.st.a m.st.length S.st.cap, .slice S.ex.a m.ex.length S.ex.cap] 37 (0, 0))) := (bel.block _ (by rw [alloc_size]; omega)).trans (heap_alloc_new w _)
  have HO1 := hidI (HH.out.later HB1.out)
  clear hb bel
  obtain ⟨c0, c1, c2, c3, c4, cf⟩ := five_of HX1.out
  cases b with
  | false =>
    go_wp2
    go_ret
    exact ⟨.inr ⟨(fun t => by have := HT.out.2 t; cases this), rfl⟩, HB1.out⟩
  | true =>
    have TR := hidI (HT.out.1 rfl)
    have HZ := hidI (HU.out TR.out)
    go_wp2
    go_loopg [5, 6] m.rq.length (fun k t i wr => ∃ (j : Nat) (tx : ByteArray), i = .int .i64 j ∧ t = .string tx ∧ j + k = m.rq.length ∧ tx = acc rqT (m.rq.take j) sNone ∧ OwnMd wr base S m ∧ wr.heap[w.heap.size]? = some (.cells #[.slice S.rq.a m.rq.length S.rq.cap, .slice S.im.a m.im.length S.im.cap, .slice S.ep.a m.ep.length S.ep.cap, .slice S.st.a m.st.length S.st.cap, .slice S.ex.a m.ex.length S.ex.cap] 37 (0, 0)) ∧ Below w.heap.size w wr)
    case atStart => exact ⟨0, _, rfl, rfl, by omega, rfl, HO1.out, HX1.out, HB1.out⟩
    case round =>
      obtain ⟨j, tx, rfl, rfl, hj, htx, ho, hx, hb⟩ := hrel
      have HTX0 := hidI htx
      have HO := hidI ho
      have HX := hidI hx
      have HB := hidI hb
      clear htx ho hx hb c0 c1 c2 c3 c4 cf
      obtain ⟨c0, c1, c2, c3, c4, cf⟩ := five_of HX.out
      have hwl := (Array.getElem?_eq_some_iff.1 HX.out).1
      by_cases hlt : j < m.rq.length
      · have hlti : (j : Int) < (m.rq.length : Int) := by omega
        obtain ⟨x, hxj⟩ := rowsomeP hlt
        have hmem := List.mem_of_getElem? hxj
        have HS := hidI (acc_succ rqT hxj sNone)
        have hpart := acc_part rqT m.rq (j + 1) sNone
        rw [HS.out, ← HTX0.out, ByteArray.size_append] at hpart
        have htot : (acc rqT m.rq sNone).size ≤ 1099511627776 := Nat.le_trans (le_rq m) HZ.out
        obtain ⟨j1, hj1⟩ : ∃ j1, j1 = j + 1 := ⟨_, rfl⟩
        have ej : (j : Int) + 1 = (j1 : Int) := by omega
        have HJ := hidI hj1
        clear hj1
        have hs1 : tx.size ≤ 1099511627776 := by omega
        obtain ⟨g, hg, hc⟩ := HO.out.rq.text hlt
        rw [hg] at c0
        have hxg : m.rq.getD j sNone = x := by rw [List.getD, hxj]; rfl
        rw [hxg] at hc
        clear hg hxg
        have hxs := SM.out.rq x hmem
        obtain ⟨qt, hqt⟩ : ∃ t, quoteT x = t := ⟨_, rfl⟩
        have hqs := quote_size x
        rw [hqt] at hqs
        have hq2 : qt.size ≤ 8589934592 := by omega
        have QT := hidI hqt
        clear hqt hqs hpart htot hxj hmem
        go_wp2_with fail
        refine (l5Quote_any x _ (by omega)).mono ?_
        rintro e w2 ⟨rfl, hw⟩
        rw [hw, QT.out]
        clear hw w2
        go_wp2
        go_roundg (gk - 1)
        case rel => exact ⟨j1, _, rfl, rfl, by have := HJ.out; omega, by rw [HJ.out, HS.out, ← HTX0.out, rqT, QT.out, ByteArray.append_assoc, ByteArray.append_assoc, ByteArray.append_assoc], HO.out, HX.out, HB.out⟩
        case measure => omega
      · have hlti : ¬ (j : Int) < (m.rq.length : Int) := by omega
        have HTX : Hid (tx = acc rqT m.rq sNone) := by show tx = _; rw [HTX0.out, List.take_of_length_le (by omega)]
        clear HTX0
        go_wp2
        go_loopg [5, 7] m.im.length (fun k t i wr => ∃ (j : Nat) (tx : ByteArray), i = .int .i64 j ∧ t = .string tx ∧ j + k = m.im.length ∧ tx = acc impT (m.im.take j) (acc rqT m.rq sNone) ∧ OwnMd wr base S m ∧ wr.heap[w.heap.size]? = some (.cells #[.slice S.rq.a m.rq.length S.rq.cap, .slice S.im.a m.im.length S.im.cap, .slice S.ep.a m.ep.length S.ep.cap, .slice S.st.a m.st.length S.st.cap, .slice S.ex.a m.ex.length S.ex.cap] 37 (0, 0)) ∧ Below w.heap.size w wr)
        case atStart => exact ⟨0, _, rfl, rfl, by omega, HTX.out, HO.out, HX.out, HB.out⟩
        case round =>
          obtain ⟨j, tx, rfl, rfl, hj, htx, ho, hx, hb⟩ := hrel
          have HTX0 := hidI htx
          have HO := hidI ho
          have HX := hidI hx
          have HB := hidI hb
          clear htx ho hx hb c0 c1 c2 c3 c4 cf
          obtain ⟨c0, c1, c2, c3, c4, cf⟩ := five_of HX.out
          have hwl := (Array.getElem?_eq_some_iff.1 HX.out).1
          by_cases hlt : j < m.im.length
          · have hlti : (j : Int) < (m.im.length : Int) := by omega
            obtain ⟨x, hxj⟩ := rowsomeP hlt
            have hmem := List.mem_of_getElem? hxj
            have HS := hidI (acc_succ impT hxj (acc rqT m.rq sNone))
            have hpart := acc_part impT m.im (j + 1) (acc rqT m.rq sNone)
            rw [HS.out, ← HTX0.out, ByteArray.size_append] at hpart
            have htot : (acc impT m.im (acc rqT m.rq sNone)).size ≤ 1099511627776 := Nat.le_trans (le_im m) HZ.out
            obtain ⟨j1, hj1⟩ : ∃ j1, j1 = j + 1 := ⟨_, rfl⟩
            have ej : (j : Int) + 1 = (j1 : Int) := by omega
            have HJ := hidI hj1
            clear hj1
            have hs1 : tx.size ≤ 1099511627776 := by omega
            obtain ⟨g, hg, hcl⟩ := OwnR.elem (f := imL) (m := 3) (fun _ => rfl) HO.out.im hxj
            rw [hg] at c1
            have k0 := hcl 0 (by omega)
            have k1 := hcl 1 (by omega)
            have k2 := hcl 2 (by omega)
            simp only [imL, Nat.add_zero, List.getElem?_cons_zero, List.getElem?_cons_succ] at k0 k1 k2
            obtain ⟨z1, z2, z3⟩ := SM.out.im x hmem
            clear hg hcl hxj hmem
            obtain ⟨pt, hpt⟩ : ∃ t, impT x = t := ⟨_, rfl⟩
            have hp2 : pt.size ≤ 1099511627776 := by rw [← hpt]; omega
            have PT := hidI hpt
            clear hpt hpart htot
            go_wp2_with fail
            refine (l5Imp_any x _ z1 z2 z3).mono ?_
            rintro e w2 ⟨rfl, hb⟩
            rw [PT.out]
            have HO2 := hidI (HO.out.later hb)
            have HX2 := hidI ((hb.block _ hwl).trans HX.out)
            have HB2 := hidI (HB.out.trans (hb.mono HB.out.size))
            clear hb
            go_wp2
            go_roundg (gk - 1)
            case rel => exact ⟨j1, _, rfl, rfl, by have := HJ.out; omega, by rw [HJ.out, HS.out, ← HTX0.out, PT.out], HO2.out, HX2.out, HB2.out⟩
            case measure => omega
          · have hlti : ¬ (j : Int) < (m.im.length : Int) := by omega
            have HTX : Hid (tx = acc impT m.im (acc rqT m.rq sNone)) := by show tx = _; rw [HTX0.out, List.take_of_length_le (by omega)]
            clear HTX0
            go_wp2
            go_loopg [5, 8] m.ep.length (fun k t i wr => ∃ (j : Nat) (tx : ByteArray), i = .int .i64 j ∧ t = .string tx ∧ j + k = m.ep.length ∧ tx = acc epF (m.ep.take j) (acc impT m.im (acc rqT m.rq sNone)) ∧ OwnMd wr base S m ∧ wr.heap[w.heap.size]? = some (.cells #[.slice S.rq.a m.rq.length S.rq.cap, .slice S.im.a m.im.length S.im.cap, .slice S.ep.a m.ep.length S.ep.cap, .slice S.st.a m.st.length S.st.cap, .slice S.ex.a m.ex.length S.ex.cap] 37 (0, 0)) ∧ Below w.heap.size w wr)
            case atStart => exact ⟨0, _, rfl, rfl, by omega, HTX.out, HO.out, HX.out, HB.out⟩
            case round =>
              obtain ⟨j, tx, rfl, rfl, hj, htx, ho, hx, hb⟩ := hrel
              have HTX0 := hidI htx
              have HO := hidI ho
              have HX := hidI hx
              have HB := hidI hb
              clear htx ho hx hb c0 c1 c2 c3 c4 cf
              obtain ⟨c0, c1, c2, c3, c4, cf⟩ := five_of HX.out
              have hwl := (Array.getElem?_eq_some_iff.1 HX.out).1
              by_cases hlt : j < m.ep.length
              · have hlti : (j : Int) < (m.ep.length : Int) := by omega
                obtain ⟨x, hxj⟩ := rowsomeP hlt
                have hmem := List.mem_of_getElem? hxj
                have HS := hidI (acc_succ epF hxj (acc impT m.im (acc rqT m.rq sNone)))
                have hpart := acc_part epF m.ep (j + 1) (acc impT m.im (acc rqT m.rq sNone))
                rw [HS.out, ← HTX0.out, ByteArray.size_append] at hpart
                have htot : (acc epF m.ep (acc impT m.im (acc rqT m.rq sNone))).size ≤ 1099511627776 := Nat.le_trans (le_ep m) HZ.out
                obtain ⟨j1, hj1⟩ : ∃ j1, j1 = j + 1 := ⟨_, rfl⟩
                have ej : (j : Int) + 1 = (j1 : Int) := by omega
                have HJ := hidI hj1
                clear hj1
                have hs1 : tx.size ≤ 1099511627776 := by omega
                obtain ⟨g, hg, hcl⟩ := OwnR.elem (f := epL) (m := 4) (fun _ => rfl) HO.out.ep hxj
                rw [hg] at c2
                have k0 := hcl 0 (by omega)
                have k1 := hcl 1 (by omega)
                have k2 := hcl 2 (by omega)
                have k3 := hcl 3 (by omega)
                simp only [epL, Nat.add_zero, List.getElem?_cons_zero, List.getElem?_cons_succ] at k0 k1 k2 k3
                obtain ⟨z1, z2, z3⟩ := SM.out.ep x hmem
                clear hg hcl hxj hmem
                cases hd : (x.loc.toList == [42, 100, 101, 102, 97, 117, 108, 116]) with
                | true =>
                  clear hpart htot
                  go_wp2
                  go_roundg (gk - 1)
                  case rel => exact ⟨j1, _, rfl, rfl, by have := HJ.out; omega, by rw [HJ.out, HS.out, ← HTX0.out, epF, hd]; show tx = tx ++ sNone; rw [app_none], HO.out, HX.out, HB.out⟩
                  case measure => omega
                | false =>
                  obtain ⟨pt, hpt⟩ : ∃ t, expT x = t := ⟨_, rfl⟩
                  have hp2 : pt.size ≤ 1099511627776 := by rw [← hpt, ← show epF x = expT x from (by rw [epF, hd]; rfl)]; omega
                  have PT := hidI hpt
                  clear hpt hpart htot
                  go_wp2_with fail
                  refine (l5Exp_any x _ z1 z2 z3).mono ?_
                  rintro e w2 ⟨rfl, hb⟩
                  rw [PT.out]
                  have HO2 := hidI (HO.out.later hb)
                  have HX2 := hidI ((hb.block _ hwl).trans HX.out)
                  have HB2 := hidI (HB.out.trans (hb.mono HB.out.size))
                  clear hb
                  go_wp2
                  go_roundg (gk - 1)
                  case rel => exact ⟨j1, _, rfl, rfl, by have := HJ.out; omega, by rw [HJ.out, HS.out, ← HTX0.out, epF, hd]; show _ = tx ++ expT x; rw [PT.out], HO2.out, HX2.out, HB2.out⟩
                  case measure => omega
              · have hlti : ¬ (j : Int) < (m.ep.length : Int) := by omega
                have HTX : Hid (tx = acc epF m.ep (acc impT m.im (acc rqT m.rq sNone))) := by show tx = _; rw [HTX0.out, List.take_of_length_le (by omega)]
                clear HTX0
                go_wp2
                go_loopg [5, 9] m.st.length (fun k t i wr => ∃ (j : Nat) (tx : ByteArray), i = .int .i64 j ∧ t = .string tx ∧ j + k = m.st.length ∧ tx = acc (stF m.ex) (m.st.take j) (text3 m) ∧ OwnMd wr base S m ∧ wr.heap[w.heap.size]? = some (.cells #[.slice S.rq.a m.rq.length S.rq.cap, .slice S.im.a m.im.length S.im.cap, .slice S.ep.a m.ep.length S.ep.cap, .slice S.st.a m.st.length S.st.cap, .slice S.ex.a m.ex.length S.ex.cap] 37 (0, 0)) ∧ Below w.heap.size w wr)
                case atStart => exact ⟨0, _, rfl, rfl, by omega, HTX.out, HO.out, HX.out, HB.out⟩
                case round =>
                  obtain ⟨j, tx, rfl, rfl, hj, htx, ho, hx, hb⟩ := hrel
                  have HTX0 := hidI htx
                  have HO := hidI ho
                  have HX := hidI hx
                  have HB := hidI hb
                  clear htx ho hx hb c0 c1 c2 c3 c4 cf
                  obtain ⟨c0, c1, c2, c3, c4, cf⟩ := five_of HX.out
                  have hwl := (Array.getElem?_eq_some_iff.1 HX.out).1
                  by_cases hlt : j < m.st.length
                  · have hlti : (j : Int) < (m.st.length : Int) := by omega
                    obtain ⟨x, hxj⟩ := rowsomeP hlt
                    have hmem := List.mem_of_getElem? hxj
                    have HS := hidI (acc_succ (stF m.ex) hxj (text3 m))
                    have hpart := acc_part (stF m.ex) m.st (j + 1) (text3 m)
                    rw [HS.out, ← HTX0.out, ByteArray.size_append] at hpart
                    have htot : (acc (stF m.ex) m.st (text3 m)).size ≤ 1099511627776 := Nat.le_trans (le_st m) HZ.out
                    obtain ⟨j1, hj1⟩ : ∃ j1, j1 = j + 1 := ⟨_, rfl⟩
                    have ej : (j : Int) + 1 = (j1 : Int) := by omega
                    have HJ := hidI hj1
                    clear hj1
                    have hs1 : tx.size ≤ 1099511627776 := by omega
                    obtain ⟨g, hg, hcl⟩ := OwnR.elem (f := smL) (m := 3) (fun _ => rfl) HO.out.st hxj
                    rw [hg] at c3
                    have k0 := hcl 0 (by omega)
                    have k1 := hcl 1 (by omega)
                    have k2 := hcl 2 (by omega)
                    simp only [smL, Nat.add_zero, List.getElem?_cons_zero, List.getElem?_cons_succ] at k0 k1 k2
                    have z1 := SM.out.st x hmem
                    obtain ⟨t1, t2⟩ := TR.out.stm x hmem
                    obtain ⟨en, hen⟩ : ∃ en : Nat, x.expr = (en : Int) := ⟨x.expr.toNat, by omega⟩
                    obtain ⟨pt, hpt⟩ : ∃ t, stmtT x.kind x.name (prX m.ex en) = t := ⟨_, rfl⟩
                    have hsf : stF m.ex x = pt := by rw [stF, hen, Int.toNat_natCast, hpt]
                    rw [hsf] at HS hpart
                    have hp2 : pt.size ≤ 1099511627776 := by omega
                    have hwt : wt m.ex en ≤ 1099511627776 := by have := stmt_ge x.kind x.name (prX m.ex en); rw [hpt] at this; unfold wt; omega
                    rw [hen] at k2
                    have HG := hidI hg
                    have cS : ∀ d os, Calls Try.prog 113 #[.agg #[.slice S.rq.a m.rq.length S.rq.cap, .slice S.im.a m.im.length S.im.cap, .slice S.ep.a m.ep.length S.ep.cap, .slice (some ⟨g, 0, none⟩) m.st.length S.st.cap, .slice S.ex.a m.ex.length S.ex.cap], .agg #[.int .i64 x.kind, .string x.name, .int .i64 (en : Int)]] (grow (redrawn wr d) os) fun e w'' => e = .returned (.string pt) ∧ ∃ p : Regrown, w'' = grow (redrawn wr p.d) p.os := fun d os => Calls.regrown_of (by rw [← hpt, ← hg]; exact l5Stmt_any base S m x.kind x.name en _ (HO.out.later (below_regrown _ d os)) (by omega) SM.out.nums TR.out.ahead hwt z1)
                    have C0 := hidI c0
                    have C1 := hidI c1
                    have C2 := hidI c2
                    have C3 := hidI c3
                    have C4 := hidI c4
                    have K0 := hidI k0
                    have K1 := hidI k1
                    have K2 := hidI k2
                    clear hg hcl hxj hmem hpt hsf hpart htot hen HG
                    go_wp2_with fail
                    have y0 := cell_regrown C0.out
                    have y1 := cell_regrown C1.out
                    have y2 := cell_regrown C2.out
                    have y3 := cell_regrown C3.out
                    have y4 := cell_regrown C4.out
                    have w0' := cell_regrown K0.out
                    have w1' := cell_regrown K1.out
                    have w2' := cell_regrown K2.out
                    refine wp_region_quiet_below (by kernel_rfl) (by kernel_rfl) ?_
                    repeat (go_big_quiet_step (with_reducible exact cS _ _))
                    refine wpQuiet_nil ?_
                    intro w2 hw'
                    obtain ⟨⟨dq, osq⟩, hw''⟩ := hw'
                    have hb : Below wr.heap.size wr w2 := by rw [hw'']; exact below_regrown _ _ _
                    have HO2 := hidI (HO.out.later hb)
                    have HX2 := hidI ((hb.block _ hwl).trans HX.out)
                    have HB2 := hidI (HB.out.trans (hb.mono HB.out.size))
                    clear hb hw'' y0 y1 y2 y3 y4 w0' w1' w2' cS
                    go_wp2
                    go_roundg (gk - 1)
                    case rel => exact ⟨j1, _, rfl, rfl, by have := HJ.out; omega, by rw [HJ.out, HS.out, ← HTX0.out], HO2.out, HX2.out, HB2.out⟩
                    case measure => omega
                  · have hlti : ¬ (j : Int) < (m.st.length : Int) := by omega
                    have HTX : Hid (tx = acc (stF m.ex) m.st (text3 m)) := by show tx = _; rw [HTX0.out, List.take_of_length_le (by omega)]
                    clear HTX0
                    go_wp2
                    go_ret
                    exact ⟨.inl ⟨TR.out, ret_str HTX.out⟩, HB.out⟩
end Go.Proofs.Ytdbpknmoacjodaa
