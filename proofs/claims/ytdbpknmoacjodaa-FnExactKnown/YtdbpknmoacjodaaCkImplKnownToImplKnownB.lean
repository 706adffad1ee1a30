/-
  What impl.knownIn answers: the walk.
  What impl.Known answers: the walk.
-/
import Derived.Test.YtdbpknmoacjodaaCkImplKnowB
import Derived.Test.YtdbpknmoacjodaaCkSpecKnown
import Derived.Test.YtdbpknmoacjodaaCkImplTree
namespace Go.Proofs.Ytdbpknmoacjodaa
open Go.RowKit Go.PlainAid Go.Sort

theorem Try.infoCplx : (Try.prog.info? 98).map (fun i => (i.zero, i.size, i.bytes)) = some (some (.complex .f64 0 0), 1, 16) := by kernel_rfl
theorem kval_is (p : Int × Bool) : kval p = .complex .f64 (floatOfInt .f64 p.1) (oneB p.2) := rfl
theorem run_store_cplx (P : Program) (w : World) (a : Addr) (k : FloatKind) (x y : Nat) (m : Mode) : (store a (.complex k x y) m).run P w = stored P w a (.complex k x y) m := run_store P w a _ m rfl
attribute [local go_sem] run_store_cplx
structure KX (w : World) (bx : Obj) (g n : Nat) (l : List (Int × Bool)) (W : World) : Prop where
  box : W.heap[w.heap.size]? = some bx
  bel : Below w.heap.size w W
  kk : OwnV W (w.heap.size + 1) g n 98 (l.map kval)
theorem KX.later {w W W' : World} {bx : Obj} {g n : Nat} {l : List (Int × Bool)} (h : KX w bx g n l W) (hb : Below W.heap.size W W') : KX w bx g n l W' := ⟨blk_later h.box hb, h.bel.trans (hb.mono h.bel.size), h.kk.later hb⟩
theorem KX.at {w W : World} {bx : Obj} {g n : Nat} {l : List (Int × Bool)} (h : KX w bx g n l W) {j : Nat} {p : Int × Bool} (hj : l[j]? = some p) : W.cell? ⟨g, j, none⟩ = some (kval p) := h.kk.cell (by rw [List.getElem?_map, hj]; rfl)
theorem KX.put {w W : World} {bx : Obj} {g n : Nat} {l : List (Int × Bool)} (h : KX w bx g n l W) (j : Nat) (p : Int × Bool) : KX w bx g n (l.set j p) (W.setCell ⟨g, j, none⟩ (kval p)) := by
  have h1 := h.kk.at
  refine ⟨?_, h.bel.setCell (by show _ ≤ g; omega) _, ?_⟩
  · rw [heap_setCell_other _ ⟨g, j, none⟩ _ _ (by show _ ≠ g; omega)]
    exact h.box
  · rw [List.map_set]
    exact h.kk.set j (kval p)
def KiOut (w : World) (n : Nat) (l : List (Int × Bool)) (e : Ending) (w' : World) : Prop := ∃ g, e = .returned (.slice (some ⟨g, 0, none⟩) n n) ∧ OwnV w' w.heap.size g n 98 (l.map kval) ∧ Below w.heap.size w w'
theorem kind_of {k : Int} (h : twoK k = true) : k = 6 ∨ k = 7 ∨ k = 8 := by
  simp only [twoK, Bool.or_eq_true, beq_iff_eq] at h
  omega
set_option maxRecDepth 100000 in
set_option maxHeartbeats 6400000 in
theorem knownIn_any (base : Nat) (S : Sv) (m : Md) (w : World) (h : OwnMd w base S m) (hl : m.ex.length ≤ 1048576) (ht : Tree m) (hn : Nums m.ex) :
    Calls Try.prog 58 #[modD S m] w (KiOut w m.ex.length (kAll m.ex)) := by
  obtain ⟨i0, hi, hz0, hz1, hz2⟩ := info_parts Try.infoCplx
  have HH := hidI h
  have HT := hidI ht.ahead
  have HA := hidI (fun j hj => kTo_abs hn j hj)
  clear h ht hn
  unfold modD
  go_enter Try.func58, Try.ntmps58
  go_upto_region 1 with fail
  refine world_anyI (R := fun W => W.heap[w.heap.size]? = some (boxD S m) ∧ Below w.heap.size w W ∧ w.heap.size + 1 ≤ W.heap.size) ⟨heap_alloc_new w _, (Below.refl _ _).alloc (Nat.le_refl _) _, by rw [alloc_size]; exact Nat.le_refl _⟩ ?_
  rintro w1 ⟨hx, hb, hs⟩
  have X1 := hidI hx
  have B1 := hidI hb
  obtain ⟨c0, c1, c2, c3, c4, cf⟩ := five_of X1.out
  clear hx hb
  go_wp2_with (first | (at_make; refine wpList_make_full w1 rfl _ _ 99 rfl (w.heap.size + 1) 98 i0 _ 1 Try.underlying99 hi hz0 hz1 .i64 .i64 _ _ m.ex.length (by rfl) (by rfl) rfl rfl (by rw [hz2]; omega) (by unfold maxLen; omega) hs ?_))
  intro w3 hown3 hgr3
  have hb3 : Below w1.heap.size w1 w3 := (Below.refl _ _).grown hgr3 (Nat.le_refl _) (fun k h => by cases h)
  obtain ⟨g, hg⟩ : ∃ g, g = w1.heap.size := ⟨_, rfl⟩
  have K3 : Hid (KX w (boxD S m) g m.ex.length (kTo m.ex 0) w3) := by
    refine hidI ⟨blk_later X1.out hb3, B1.out.trans (hb3.mono B1.out.size), ?_⟩
    rw [toList_madeCells_one] at hown3
    show OwnV _ _ _ _ _ ((List.replicate m.ex.length ((0 : Int), false)).map _)
    rw [hg, List.map_replicate]
    exact hown3
  rw [← hg]
  clear hown3 hgr3 hb3 hg hs X1 B1 c0 c1 c2 c3 c4 cf
  obtain ⟨c0, c1, c2, c3, c4, cf⟩ := five_of K3.out.box
  obtain ⟨ax, hax⟩ : ∃ ax, ax = S.ex.a := ⟨_, rfl⟩
  rw [← hax] at c4
  have HAX := hidI hax
  clear hax
  go_wp2
  go_loopw [13] (fun i wr => ∃ j : Nat, j ≤ m.ex.length ∧ i = .int .i64 j ∧ Hid (KX w (boxD S m) g m.ex.length (kTo m.ex j) wr)) (fun i _ => (m.ex.length - intOf i).toNat)
  case atStart => exact ⟨0, Nat.zero_le _, rfl, K3⟩
  case round =>
    obtain ⟨j, hj, rfl, HK⟩ := hrel
    clear K3 c0 c1 c2 c3 c4 cf
    by_cases hlt : j < m.ex.length
    · obtain ⟨x, hx⟩ : ∃ x, m.ex[j]? = some x := ⟨_, List.getElem?_eq_getElem hlt⟩
      obtain ⟨gr, hgr, hc⟩ := OwnR.elem (f := exL) (m := 6) (fun _ => rfl) (HH.out.later HK.out.bel).ex hx
      have hgl : gr < wr.heap.size := ((HH.out.later HK.out.bel).ex.typed (by rw [Rw.blk, hgr]; rfl)).2.1
      have d0 := hc 0 (by decide)
      have d1 := hc 1 (by decide)
      have d2 := hc 2 (by decide)
      have d3 := hc 3 (by decide)
      have d4 := hc 4 (by decide)
      have d5 := hc 5 (by decide)
      simp only [exL, List.getElem?_cons_zero, List.getElem?_cons_succ, Nat.add_zero] at d0 d1 d2 d3 d4 d5
      rw [← HAX.out] at hgr
      subst hgr
      have NX := hidI (kTo_next hx)
      have NN := hidI (kTo_not hx)
      have AH : Hid (twoK x.kind = true → 0 ≤ x.l ∧ x.l < (j : Int) ∧ 0 ≤ x.r ∧ x.r < (j : Int)) := hidI (fun t => HT.out j x hx t)
      have AB := hidI (HA.out j hj)
      obtain ⟨l, hL⟩ : ∃ l, l = kTo m.ex j := ⟨_, rfl⟩
      have HLN : Hid (l.length = m.ex.length) := by rw [hL]; exact hidI (kTo_len _ _)
      rw [← hL] at HK NX NN AB
      clear hL hc hx
      go_upto_region 5 with fail
      refine world_anyI (R := fun W => KX w (boxD S m) g m.ex.length l W ∧ W.heap[wr.heap.size]? = some (.cells (exL x).toArray 96 (0, 0))) ⟨HK.out.later ((Below.refl _ _).alloc (Nat.le_refl _) _), heap_alloc_new wr _⟩ ?_
      obtain ⟨bs, hbs⟩ : ∃ bs, bs = wr.heap.size := ⟨_, rfl⟩
      rw [← hbs]
      rintro W2 ⟨hk2, hx2⟩
      have K2 := hidI hk2
      have E2 := hidI hx2
      obtain ⟨e0, e1, e2, e3, e4, e5, ef⟩ := six_of hx2
      have hlt2 := (Array.getElem?_eq_some_iff.1 hx2).1
      have hjl : j < l.length := by have := HLN.out; omega
      have fn := K2.out.kk.free
      have ca := K2.out.at (List.getElem?_eq_getElem hjl)
      clear hk2 hx2 hbs HK d0 d1 d2 d3 d4 d5 hgl
      cases k1 : (x.kind == 1) with
      | true =>
        have KP : Hid (KX w (boxD S m) g m.ex.length (kTo m.ex (j + 1)) (W2.setCell ⟨g, j, none⟩ (kval (x.num, true)))) := by rw [NX.out, one_num k1]; exact hidI (K2.out.put j (x.num, true))
        go_wp2_with fail
        refine (knowing_any x.num _).mono ?_
        rintro e w5 ⟨rfl, hw⟩
        rw [hw, kval_is]
        clear hw w5
        go_wp2
        go_roundw
        case rel => exact ⟨j + 1, by omega, by go_num, KP⟩
        case measure => simp [intOf]; omega
      | false =>
        cases t2 : twoK x.kind with
        | false =>
          have KP : Hid (KX w (boxD S m) g m.ex.length (kTo m.ex (j + 1)) W2) := by rw [NN.out (one_other k1 t2)]; exact K2
          go_wp2_with fail
          refine (hasSides_any x.kind _).mono ?_
          rintro e w5 ⟨rfl, hw⟩
          rw [hw, t2]
          clear hw w5
          go_wp2
          go_roundw
          case rel => exact ⟨j + 1, by omega, by go_num, KP⟩
          case measure => simp [intOf]; omega
        | true =>
          obtain ⟨a1, a2, a3, a4⟩ := AH.out t2
          obtain ⟨ln, hln⟩ : ∃ ln : Nat, x.l = (ln : Int) := ⟨x.l.toNat, by omega⟩
          obtain ⟨rn, hrn⟩ : ∃ rn : Nat, x.r = (rn : Int) := ⟨x.r.toNat, by omega⟩
          have hll : ln < m.ex.length := by omega
          have hrl : rn < m.ex.length := by omega
          have hlli : (ln : Int) < (m.ex.length : Int) := by omega
          have hrli : (rn : Int) < (m.ex.length : Int) := by omega
          have hl0 : (0 : Int) ≤ (ln : Int) := by omega
          have hr0 : (0 : Int) ≤ (rn : Int) := by omega
          obtain ⟨p, hp⟩ : ∃ p, l[ln]? = some p := ⟨_, List.getElem?_eq_getElem (by have := HLN.out; omega)⟩
          obtain ⟨q, hq⟩ : ∃ q, l[rn]? = some q := ⟨_, List.getElem?_eq_getElem (by have := HLN.out; omega)⟩
          have PA : Hid (kAt l x.l = p) := by rw [kAt, hln, List.getD, Int.toNat_natCast, hp]; exact hidI rfl
          have QA : Hid (kAt l x.r = q) := by rw [kAt, hrn, List.getD, Int.toNat_natCast, hq]; exact hidI rfl
          have BP : Hid (p.1.natAbs < 2 ^ 64) := by have := AB.out p (List.mem_of_getElem? hp); show _ < _; omega
          have BQ : Hid (q.1.natAbs < 2 ^ 64) := by have := AB.out q (List.mem_of_getElem? hq); show _ < _; omega
          have pn := K2.out.at hp
          have qn := K2.out.at hq
          rw [kval_is] at pn qn
          have HK2 := hidI (kind_of t2)
          rw [hln] at e4
          rw [hrn] at e5
          obtain ⟨z, hz⟩ : ∃ z, z = ofS x.kind p q := ⟨_, rfl⟩
          have HN : Hid (kTo m.ex (j + 1) = l.set j z) := by rw [hz, NX.out, one_sides k1 t2, PA.out, QA.out]; exact hidI rfl
          have HZ := hidI hz
          clear hz hp hq a1 a2 a3 a4 hln hrn AB NN NX AH PA QA
          go_wp2_with fail
          refine (hasSides_any x.kind _).mono ?_
          rintro e w5 ⟨rfl, hw⟩
          rw [hw, t2]
          clear hw w5
          go_wp2_with fail
          go_region_with (first | (go_at_call 130; refine (ofSides_any x.kind p q _ HK2.out BP.out BQ.out).mono ?_; rintro e w6 ⟨rfl, hb⟩; rw [← HZ.out, kval_is z]; have K3 := hidI ((K2.out.later (Below.refl W2.heap.size W2).drew).later hb); clear hb; have fn := K3.out.kk.free; have ca := K3.out.at (List.getElem?_eq_getElem hjl)))
          all_goals
            have KP : Hid (KX w (boxD S m) g m.ex.length (kTo m.ex (j + 1)) (w6.setCell ⟨g, j, none⟩ (kval z))) := by rw [HN.out]; exact hidI (K3.out.put j z)
            go_wp2
            go_roundw
            case rel => exact ⟨j + 1, by omega, by go_num, KP⟩
            case measure => simp [intOf]; omega
    · obtain rfl : j = m.ex.length := by omega
      go_wp2
      go_ret
      exact ⟨g, rfl, HK.out.kk.low (Nat.le_succ _), HK.out.bel⟩
end Go.Proofs.Ytdbpknmoacjodaa
namespace Go.Proofs.Ytdbpknmoacjodaa
open Go.RowKit Go.PlainAid Go.Sort

theorem kTo_at {ex : List Ex} {k : Nat} {x : Ex} (h : ex[k]? = some x) : ∀ j, k < j → j ≤ ex.length → (kTo ex j).getD k (0, false) = kOne (kTo ex k) x
  | 0, hj, _ => by omega
  | j + 1, hj, hl => by
    obtain ⟨y, hy⟩ : ∃ y, ex[j]? = some y := ⟨_, List.getElem?_eq_getElem (by omega)⟩
    rw [kTo_next hy, List.getD]
    by_cases e : k = j
    · subst e
      obtain rfl : x = y := Option.some.inj (h.symm.trans hy)
      rw [List.getElem?_set_self (by rw [kTo_len]; omega)]
      rfl
    · rw [List.getElem?_set_ne (by omega)]
      exact kTo_at h j (by omega) (by omega)
theorem kAll_num {ex : List Ex} {k : Nat} {x : Ex} (h : ex[k]? = some x) (h1 : (x.kind == 1) = true) : kAt (kAll ex) (k : Int) = (x.num, true) := by
  rw [kAt, Int.toNat_natCast, kAll, kTo_at h ex.length (List.getElem?_eq_some_iff.1 h).1 (Nat.le_refl _), one_num h1]
theorem one_near {l : List (Int × Bool)} {x : Ex} (h : (x.kind == 1) = false) : (kOne l x).1.natAbs ≤ 1000000 := by
  rw [kOne, h, if_neg (by decide)]
  split
  · rename_i h1
    rw [Bool.and_eq_true, Bool.and_eq_true] at h1
    exact near_abs h1.2.2
  · exact Nat.zero_le _
theorem kAll_near {ex : List Ex} {k : Nat} {x : Ex} (h : ex[k]? = some x) (h1 : (x.kind == 1) = false) : (kAt (kAll ex) (k : Int)).1.natAbs ≤ 1000000 := by
  rw [kAt, Int.toNat_natCast, kAll, kTo_at h ex.length (List.getElem?_eq_some_iff.1 h).1 (Nat.le_refl _)]
  exact one_near h1
theorem one_zero {l : List (Int × Bool)} {x : Ex} (h : (kOne l x).2 = false) : (kOne l x).1 = 0 := by
  rw [kOne] at h ⊢
  split at h
  · cases h
  · rename_i h0
    rw [if_neg h0]
    split at h
    · cases h
    · rename_i h1
      rw [if_neg h1]
theorem kAll_zero {ex : List Ex} {k : Nat} {x : Ex} (h : ex[k]? = some x) (h1 : (kAt (kAll ex) (k : Int)).2 = false) : (kAt (kAll ex) (k : Int)).1 = 0 := by
  rw [kAt, Int.toNat_natCast, kAll, kTo_at h ex.length (List.getElem?_eq_some_iff.1 h).1 (Nat.le_refl _)] at h1 ⊢
  exact one_zero h1
set_option maxRecDepth 100000 in
set_option maxHeartbeats 3200000 in
theorem known_impl (base : Nat) (S : Sv) (m : Md) (i : Int) (w : World) (h : OwnMd w base S m) (hl : m.ex.length ≤ 1048576) (hs : m.st.length ≤ 1048576) (hn : Nums m.ex) :
    Calls Try.prog 12 #[modD S m, .int .i64 i] w (KnownOut m i w) := by
  have HH := hidI h
  have HN := hidI hn
  clear h hn
  unfold modD
  go_enter Try.func12, Try.ntmps12
  go_upto_region 1 with fail
  refine world_anyI (R := fun W => W.heap[w.heap.size]? = some (boxD S m) ∧ Below w.heap.size w W) ⟨heap_alloc_new w _, (Below.refl _ _).alloc (Nat.le_refl _) _⟩ ?_
  rintro w1 ⟨hx, hb⟩
  have X1 := hidI hx
  have B1 := hidI hb
  clear hx hb
  obtain ⟨c0, c1, c2, c3, c4, cf⟩ := five_of X1.out
  by_cases h0 : i < 0
  · have d0 : decide (i < 0) = true := decide_eq_true h0
    go_wp2
    go_ret2
    exact ⟨0, false, rfl, .inr ⟨fun k => by have := k.2.1; omega, rfl, rfl⟩, B1.out⟩
  · have d0 : decide (i < 0) = false := decide_eq_false h0
    by_cases h1 : (m.ex.length : Int) ≤ i
    · have d1 : decide (i ≥ (m.ex.length : Int)) = true := decide_eq_true h1
      go_wp2
      go_ret2
      exact ⟨0, false, rfl, .inr ⟨fun k => by have := k.2.2.1; omega, rfl, rfl⟩, B1.out⟩
    · have d1 : decide (i ≥ (m.ex.length : Int)) = false := decide_eq_false h1
      go_wp2_with fail
      refine (usedOnce_any base S m w1 (HH.out.later B1.out) (by omega) (by omega)).mono ?_
      rintro e w2 ⟨⟨t, rfl, ht⟩, hb⟩
      have X2 := hidI (blk_later X1.out hb)
      have B2 := hidI (B1.out.trans (hb.mono B1.out.size))
      have T2 := hidI ht
      clear ht hb X1 B1 c0 c1 c2 c3 c4 cf
      obtain ⟨c0, c1, c2, c3, c4, cf⟩ := five_of X2.out
      cases t with
      | false =>
        go_wp2
        go_ret2
        exact ⟨0, false, rfl, .inr ⟨fun k => Bool.false_ne_true (T2.out.2 k.1), rfl, rfl⟩, B2.out⟩
      | true =>
        obtain ⟨k, hk⟩ : ∃ k : Nat, i = (k : Int) := ⟨i.toNat, by omega⟩
        subst hk
        have hkl : k < m.ex.length := by omega
        have hki : (k : Int) < (m.ex.length : Int) := by omega
        have hk0 : (0 : Int) ≤ (k : Int) := by omega
        obtain ⟨x, hx⟩ : ∃ x, m.ex[k]? = some x := ⟨_, List.getElem?_eq_getElem hkl⟩
        obtain ⟨gr, hgr, hc⟩ := OwnR.elem (f := exL) (m := 6) (fun _ => rfl) (HH.out.later B2.out).ex hx
        have hgl : gr < w2.heap.size := ((HH.out.later B2.out).ex.typed (by rw [Rw.blk, hgr]; rfl)).2.1
        have d0 := hc 0 (by decide)
        have d1 := hc 1 (by decide)
        have d2 := hc 2 (by decide)
        have d3 := hc 3 (by decide)
        have d4 := hc 4 (by decide)
        have d5 := hc 5 (by decide)
        simp only [exL, List.getElem?_cons_zero, List.getElem?_cons_succ, Nat.add_zero] at d0 d1 d2 d3 d4 d5
        rw [hgr] at c4
        have HX := hidI hx
        clear hc hgr hx
        go_upto_region 4 with fail
        refine world_anyI (R := fun W => W.heap[w2.heap.size]? = some (.cells (exL x).toArray 96 (0, 0)) ∧ Below w2.heap.size w2 W) ⟨heap_alloc_new w2 _, (Below.refl _ _).alloc (Nat.le_refl _) _⟩ ?_
        rintro w3 ⟨hx3, hb⟩
        have X3 := hidI (blk_later X2.out hb)
        have B3 := hidI (B2.out.trans (hb.mono B2.out.size))
        obtain ⟨e0, e1, e2, e3, e4, e5, ef⟩ := six_of hx3
        have hlt3 := (Array.getElem?_eq_some_iff.1 hx3).1
        clear hx3 hb X2 B2 c0 c1 c2 c3 c4 cf d0 d1 d2 d3 d4 d5 hgl
        obtain ⟨c0, c1, c2, c3, c4, cf⟩ := five_of X3.out
        cases k1 : (x.kind == 1) with
        | true =>
          have HV := hidI (kAll_num HX.out k1)
          go_wp2
          go_ret2
          exact ⟨x.num, true, rfl, .inl ⟨⟨T2.out.1 (by simp), hk0, hki, by rw [HV.out]⟩, by rw [HV.out], rfl⟩, B3.out⟩
        | false =>
          have HV := hidI (kAll_near HX.out k1)
          have HZ := hidI (kAll_zero HX.out)
          go_wp2_with fail
          refine (knownIn_any base S m w3 (HH.out.later B3.out) hl (T2.out.1 (by simp)) HN.out).mono ?_
          rintro e w4 ⟨g, rfl, hn, hb⟩
          have B4 := hidI (B3.out.trans (hb.mono B3.out.size))
          obtain ⟨p, hp⟩ : ∃ p, (kAll m.ex)[k]? = some p := ⟨_, List.getElem?_eq_getElem (by rw [kAll, kTo_len]; exact hkl)⟩
          have PA : Hid (kAt (kAll m.ex) (k : Int) = p) := by rw [kAt, List.getD, Int.toNat_natCast, hp]; exact hidI rfl
          have n0 := hn.cell (j := k) (by rw [List.getElem?_map, hp]; rfl)
          have hnp : p.1.natAbs ≤ 1000000 := by rw [← PA.out]; exact HV.out
          clear hn hb hp X3 B3 c0 c1 c2 c3 c4 cf e0 e1 e2 e3 e4 e5 ef hlt3
          go_wp2_with fail
          refine (number_any p _ hnp).mono ?_
          rintro e w5 ⟨rfl, hw⟩
          rw [hw]
          clear hw w5
          go_wp2_with fail
          refine (isKnown_any p _).mono ?_
          rintro e w5 ⟨rfl, hw⟩
          rw [hw]
          clear hw w5
          have KI : Hid (KnownIs m (k : Int) p.1 p.2) := by
            rw [← PA.out]
            cases h2 : (kAt (kAll m.ex) (k : Int)).2 with
            | true => exact hidI (.inl ⟨⟨T2.out.1 (by simp), hk0, hki, h2⟩, rfl, rfl⟩)
            | false => exact hidI (.inr ⟨fun q => (by have := q.2.2.2; rw [h2] at this; cases this), HZ.out h2, rfl⟩)
          go_wp2
          go_ret2
          exact ⟨p.1, p.2, rfl, KI.out, B4.out⟩
end Go.Proofs.Ytdbpknmoacjodaa
