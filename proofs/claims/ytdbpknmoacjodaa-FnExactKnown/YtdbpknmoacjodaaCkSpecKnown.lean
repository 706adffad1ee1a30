/-
  What spec.l17Known, spec.Known and spec.Size answer: the walks.
-/
import Derived.Test.YtdbpknmoacjodaaCkSpecTree
namespace Go.Proofs.Ytdbpknmoacjodaa
open Go.RowKit Go.PlainAid Go.Sort

theorem Try.infoIntK : (Try.prog.info? 3).map (fun i => (i.zero, i.size, i.bytes)) = some (some (.int .i64 0), 1, 8) := by kernel_rfl
theorem Try.infoBoolK : (Try.prog.info? 4).map (fun i => (i.zero, i.size, i.bytes)) = some (some (.bool false), 1, 1) := by kernel_rfl
def OwnV (w : World) (base g n : Nat) (e : TypeId) (vs : List Value) : Prop := OwnR w base e 1 ⟨some ⟨g, 0, none⟩, n⟩ n vs
theorem OwnV.cell {w : World} {base g n : Nat} {e : TypeId} {vs : List Value} (h : OwnV w base g n e vs) {j : Nat} {v : Value} (hj : vs[j]? = some v) : w.cell? ⟨g, j, none⟩ = some v := by
  have hlt := (List.getElem?_eq_some_iff.1 hj).1
  have h1 : w.ownsRow base e 1 (.slice (some ⟨g, 0, none⟩) n n) n vs := h
  rw [h1.cellAt j (by have := h1.1; omega), hj]
theorem OwnV.free {w : World} {base g n : Nat} {e : TypeId} {vs : List Value} (h : OwnV w base g n e vs) (j : Nat) : w.frozen? ⟨g, j, none⟩ = false := by
  have h1 : w.ownsRow base e 1 (.slice (some ⟨g, 0, none⟩) n n) n vs := h
  exact h1.frozenAt j
theorem OwnV.set {w : World} {base g n : Nat} {e : TypeId} {vs : List Value} (h : OwnV w base g n e vs) (j : Nat) (v : Value) : OwnV (w.setCell ⟨g, j, none⟩ v) base g n e (vs.set j v) := by
  have h1 : w.ownsRow base e 1 (.slice (some ⟨g, 0, none⟩) n n) n vs := h
  exact (h1.stored j v).1
theorem OwnV.later {w w' : World} {base g n : Nat} {e : TypeId} {vs : List Value} (h : OwnV w base g n e vs) (hb : Below w.heap.size w w') : OwnV w' base g n e vs := OwnR.keep h fun k e => hb.block k (h.typed e).2.1
theorem OwnV.at {w : World} {base g n : Nat} {e : TypeId} {vs : List Value} (h : OwnV w base g n e vs) : base ≤ g ∧ g < w.heap.size := ⟨(h.typed rfl).1, (h.typed rfl).2.1⟩
theorem OwnV.other {w : World} {base g n gx j : Nat} {e : TypeId} {vs : List Value} {v : Value} (h : OwnV w base g n e vs) (hne : g ≠ gx) : OwnV (w.setCell ⟨gx, j, none⟩ v) base g n e vs :=
  OwnR.keep h fun k hk => heap_setCell_other w ⟨gx, j, none⟩ k v (by
    have : k = g := by have := Option.some.inj hk; exact this.symm
    rw [this]
    exact hne)
structure KW (w : World) (bx : Obj) (gn gb n : Nat) (l : List (Int × Bool)) (W : World) : Prop where
  box : W.heap[w.heap.size]? = some bx
  bel : Below w.heap.size w W
  nn : OwnV W (w.heap.size + 1) gn n 3 (l.map fun p => .int .i64 p.1)
  bb : OwnV W (w.heap.size + 1) gb n 4 (l.map fun p => .bool p.2)
  ne : gn ≠ gb
theorem KW.later {w W W' : World} {bx : Obj} {gn gb n : Nat} {l : List (Int × Bool)} (h : KW w bx gn gb n l W) (hb : Below W.heap.size W W') : KW w bx gn gb n l W' := ⟨blk_later h.box hb, h.bel.trans (hb.mono h.bel.size), h.nn.later hb, h.bb.later hb, h.ne⟩
theorem KW.at {w W : World} {bx : Obj} {gn gb n : Nat} {l : List (Int × Bool)} (h : KW w bx gn gb n l W) {j : Nat} {p : Int × Bool} (hj : l[j]? = some p) : W.cell? ⟨gn, j, none⟩ = some (.int .i64 p.1) ∧ W.cell? ⟨gb, j, none⟩ = some (.bool p.2) :=
  ⟨h.nn.cell (by rw [List.getElem?_map, hj]; rfl), h.bb.cell (by rw [List.getElem?_map, hj]; rfl)⟩
theorem KW.put {w W : World} {bx : Obj} {gn gb n : Nat} {l : List (Int × Bool)} (h : KW w bx gn gb n l W) (j : Nat) (v : Int) (b : Bool) : KW w bx gn gb n (l.set j (v, b)) ((W.setCell ⟨gn, j, none⟩ (.int .i64 v)).setCell ⟨gb, j, none⟩ (.bool b)) := by
  have h1 := h.nn.at
  have h2 := h.bb.at
  refine ⟨?_, (h.bel.setCell (by show _ ≤ gn; omega) _).setCell (by show _ ≤ gb; omega) _, ?_, ?_, h.ne⟩
  · rw [heap_setCell_other _ ⟨gb, j, none⟩ _ _ (by show _ ≠ gb; omega), heap_setCell_other _ ⟨gn, j, none⟩ _ _ (by show _ ≠ gn; omega)]
    exact h.box
  · have := (h.nn.set j (.int .i64 v)).other (gx := gb) (j := j) (v := .bool b) h.ne
    rw [List.map_set]
    exact this
  · have := (h.bb.other (gx := gn) (j := j) (v := .int .i64 v) (fun e => h.ne e.symm)).set j (.bool b)
    rw [List.map_set]
    exact this
theorem KW.mid {w W : World} {bx : Obj} {gn gb n : Nat} {l : List (Int × Bool)} (h : KW w bx gn gb n l W) (j : Nat) (v : Value) : OwnV (W.setCell ⟨gn, j, none⟩ v) (w.heap.size + 1) gb n 4 (l.map fun p => .bool p.2) := h.bb.other (fun e => h.ne e.symm)
def KnOut (w : World) (n : Nat) (l : List (Int × Bool)) (e : Ending) (w' : World) : Prop := ∃ gn gb, e = .returned (.tuple #[.slice (some ⟨gn, 0, none⟩) n n, .slice (some ⟨gb, 0, none⟩) n n]) ∧ OwnV w' w.heap.size gn n 3 (l.map fun p => .int .i64 p.1) ∧ OwnV w' w.heap.size gb n 4 (l.map fun p => .bool p.2) ∧ Below w.heap.size w w'
theorem OwnV.low {w : World} {base b g n : Nat} {e : TypeId} {vs : List Value} (h : OwnV w base g n e vs) (hb : b ≤ base) : OwnV w b g n e vs := OwnR.low h hb
set_option maxRecDepth 100000 in
set_option maxHeartbeats 6400000 in
theorem l17Known_spec (base : Nat) (S : Sv) (m : Md) (w : World) (h : OwnMd w base S m) (hl : m.ex.length ≤ 1048576) (ht : Tree m) :
    Calls Try.prog 51 #[modD S m] w (KnOut w m.ex.length (kAll m.ex)) := by
  obtain ⟨i0, hi, hz0, hz1, hz2⟩ := info_parts Try.infoIntK
  obtain ⟨i1, hi1, hy0, hy1, hy2⟩ := info_parts Try.infoBoolK
  have HH := hidI h
  have HT := hidI ht.ahead
  clear h ht
  unfold modD
  go_enter Try.func51, Try.ntmps51
  go_upto_region 1 with fail
  refine world_anyI (R := fun W => W.heap[w.heap.size]? = some (boxD S m) ∧ Below w.heap.size w W ∧ w.heap.size + 1 ≤ W.heap.size) ⟨heap_alloc_new w _, (Below.refl _ _).alloc (Nat.le_refl _) _, by rw [alloc_size]; exact Nat.le_refl _⟩ ?_
  rintro w1 ⟨hx, hb, hs⟩
  have X1 := hidI hx
  have B1 := hidI hb
  obtain ⟨c0, c1, c2, c3, c4, cf⟩ := five_of X1.out
  clear hx hb
  go_wp2_with (first | (at_make; refine wpList_make_full w1 rfl _ _ 86 rfl (w.heap.size + 1) 3 i0 _ 1 Try.underlying86 hi hz0 hz1 .i64 .i64 _ _ m.ex.length (by rfl) (by rfl) rfl rfl (by rw [hz2]; omega) (by unfold maxLen; omega) hs ?_))
  intro w2 hown2 hgr2
  have hb2 : Below w1.heap.size w1 w2 := (Below.refl _ _).grown hgr2 (Nat.le_refl _) (fun k h => by cases h)
  obtain ⟨gn, hgn⟩ : ∃ gn, gn = w1.heap.size := ⟨_, rfl⟩
  have N2 : Hid (OwnV w2 (w.heap.size + 1) gn m.ex.length 3 ((List.replicate m.ex.length ((0 : Int), false)).map fun p => .int .i64 p.1)) := by
    rw [toList_madeCells_one] at hown2
    rw [hgn, List.map_replicate]
    exact hidI hown2
  have X2 := hidI (blk_later X1.out hb2)
  have B2 := hidI (B1.out.trans (hb2.mono B1.out.size))
  have hs2 : w.heap.size + 1 ≤ w2.heap.size := Nat.le_trans hs hb2.size
  rw [← hgn]
  clear hown2 hgr2 hb2 hgn c0 c1 c2 c3 c4 cf hs X1 B1
  obtain ⟨c0, c1, c2, c3, c4, cf⟩ := five_of X2.out
  go_wp2_with (first | (at_make; refine wpList_make_full w2 rfl _ _ 87 rfl (w.heap.size + 1) 4 i1 _ 1 Try.underlying87 hi1 hy0 hy1 .i64 .i64 _ _ m.ex.length (by rfl) (by rfl) rfl rfl (by rw [hy2]; omega) (by unfold maxLen; omega) hs2 ?_))
  intro w3 hown3 hgr3
  have hb3 : Below w2.heap.size w2 w3 := (Below.refl _ _).grown hgr3 (Nat.le_refl _) (fun k h => by cases h)
  obtain ⟨gb, hgb⟩ : ∃ gb, gb = w2.heap.size := ⟨_, rfl⟩
  have K3 : Hid (KW w (boxD S m) gn gb m.ex.length (kTo m.ex 0) w3) := by
    refine hidI ⟨blk_later X2.out hb3, B2.out.trans (hb3.mono B2.out.size), N2.out.later hb3, ?_, by have := N2.out.at.2; omega⟩
    rw [toList_madeCells_one] at hown3
    show OwnV _ _ _ _ _ ((List.replicate m.ex.length ((0 : Int), false)).map _)
    rw [hgb, List.map_replicate]
    exact hown3
  rw [← hgb]
  clear hown3 hgr3 hb3 hgb hs2 X2 B2 N2 c0 c1 c2 c3 c4 cf
  obtain ⟨c0, c1, c2, c3, c4, cf⟩ := five_of K3.out.box
  go_wp2
  go_loopw [6] (fun i wr => ∃ j : Nat, j ≤ m.ex.length ∧ i = .int .i64 j ∧ Hid (KW w (boxD S m) gn gb m.ex.length (kTo m.ex j) wr)) (fun i _ => (m.ex.length - intOf i).toNat)
  case atStart => exact ⟨0, Nat.zero_le _, rfl, K3⟩
  case round =>
    obtain ⟨j, hj, rfl, HK⟩ := hrel
    clear K3 c0 c1 c2 c3 c4 cf
    obtain ⟨c0, c1, c2, c3, c4, cf⟩ := five_of HK.out.box
    by_cases hlt : j < m.ex.length
    · obtain ⟨x, hx⟩ : ∃ x, m.ex[j]? = some x := ⟨_, List.getElem?_eq_getElem hlt⟩
      obtain ⟨g, hg, hc⟩ := OwnR.elem (f := exL) (m := 6) (fun _ => rfl) (HH.out.later HK.out.bel).ex hx
      have hgl : g < wr.heap.size := ((HH.out.later HK.out.bel).ex.typed (by rw [Rw.blk, hg]; rfl)).2.1
      have d0 := hc 0 (by decide)
      have d1 := hc 1 (by decide)
      have d2 := hc 2 (by decide)
      have d3 := hc 3 (by decide)
      have d4 := hc 4 (by decide)
      have d5 := hc 5 (by decide)
      simp only [exL, List.getElem?_cons_zero, List.getElem?_cons_succ, Nat.add_zero] at d0 d1 d2 d3 d4 d5
      rw [hg] at c4
      have NX := hidI (kTo_next hx)
      have NN := hidI (kTo_not hx)
      have AH : Hid (twoK x.kind = true → 0 ≤ x.l ∧ x.l < (j : Int) ∧ 0 ≤ x.r ∧ x.r < (j : Int)) := hidI (fun t => HT.out j x hx t)
      obtain ⟨l, hL⟩ : ∃ l, l = kTo m.ex j := ⟨_, rfl⟩
      have HLN : Hid (l.length = m.ex.length) := by rw [hL]; exact hidI (kTo_len _ _)
      rw [← hL] at HK NX NN
      clear hL hc hg hx
      go_upto_region 7 with fail
      refine world_anyI (R := fun W => KW w (boxD S m) gn gb m.ex.length l W ∧ W.heap[wr.heap.size]? = some (.cells (exL x).toArray 96 (0, 0))) ⟨HK.out.later ((Below.refl _ _).alloc (Nat.le_refl _) _), heap_alloc_new wr _⟩ ?_
      obtain ⟨bs, hbs⟩ : ∃ bs, bs = wr.heap.size := ⟨_, rfl⟩
      rw [← hbs]
      rintro W2 ⟨hk2, hx2⟩
      have K2 := hidI hk2
      have E2 := hidI hx2
      have BS : Hid (gn ≠ bs ∧ gb ≠ bs) := by
        have h1 := HK.out.nn.at.2
        have h2 := HK.out.bb.at.2
        exact hidI ⟨by omega, by omega⟩
      obtain ⟨e0, e1, e2, e3, e4, e5, ef⟩ := six_of hx2
      have hlt2 := (Array.getElem?_eq_some_iff.1 hx2).1
      have hjl : j < l.length := by have := HLN.out; omega
      have fn := K2.out.nn.free
      have fb := K2.out.bb.free
      have ca := K2.out.at (List.getElem?_eq_getElem hjl)
      obtain ⟨ca0, ca1⟩ := ca
      clear hk2 hx2 hbs HK c0 c1 c2 c3 c4 cf d0 d1 d2 d3 d4 d5 hgl
      cases k1 : (x.kind == 1) with
      | true =>
        have t2 := two_not k1
        have KP : Hid (KW w (boxD S m) gn gb m.ex.length (kTo m.ex (j + 1)) ((W2.setCell ⟨gn, j, none⟩ (.int .i64 x.num)).setCell ⟨gb, j, none⟩ (.bool true))) := by rw [NX.out, one_num k1]; exact hidI (K2.out.put j x.num true)
        have E3 : ((W2.setCell ⟨gn, j, none⟩ (.int .i64 x.num)).setCell ⟨gb, j, none⟩ (.bool true)).heap[bs]? = some (.cells (exL x).toArray 96 (0, 0)) := by
          rw [heap_setCell_other _ ⟨gb, j, none⟩ _ _ (fun e => BS.out.2 e.symm), heap_setCell_other _ ⟨gn, j, none⟩ _ _ (fun e => BS.out.1 e.symm)]
          exact E2.out
        obtain ⟨q0, q1, q2, q3, q4, q5, qf⟩ := six_of E3
        have mf := (K2.out.mid j (.int .i64 x.num)).free j
        have mc := (K2.out.mid j (.int .i64 x.num)).cell (j := j) (by rw [List.getElem?_map, List.getElem?_eq_getElem hjl]; rfl)
        clear E3
        go_wp2_with fail
        refine (l5Two_any x.kind _).mono ?_
        rintro e w5 ⟨rfl, hw⟩
        rw [hw, t2]
        clear hw w5
        go_wp2
        go_roundw
        case rel => exact ⟨j + 1, by omega, by go_num, KP⟩
        case measure => simp [intOf]; omega
      | false =>
        cases t2 : twoK x.kind with
        | false =>
          have KP : Hid (KW w (boxD S m) gn gb m.ex.length (kTo m.ex (j + 1)) W2) := by rw [NN.out (one_other k1 t2)]; exact K2
          go_wp2_with fail
          refine (l5Two_any x.kind _).mono ?_
          rintro e w5 ⟨rfl, hw⟩
          rw [hw, t2]
          clear hw w5
          go_wp2
          go_roundw
          case rel => exact ⟨j + 1, by omega, by go_num, KP⟩
          case measure => simp [intOf]; omega
        | true =>
          obtain ⟨a1, a2, a3, a4⟩ := AH.out t2
          obtain ⟨ln, hln⟩ : ∃ ln : Nat, x.l = (ln : Int) := ⟨x.l.toNat, by omega⟩
          obtain ⟨rn, hrn⟩ : ∃ rn : Nat, x.r = (rn : Int) := ⟨x.r.toNat, by omega⟩
          have hll : ln < m.ex.length := by omega
          have hrl : rn < m.ex.length := by omega
          have hlli : (ln : Int) < (m.ex.length : Int) := by omega
          have hrli : (rn : Int) < (m.ex.length : Int) := by omega
          have hl0 : (0 : Int) ≤ (ln : Int) := by omega
          have hr0 : (0 : Int) ≤ (rn : Int) := by omega
          obtain ⟨p, hp⟩ : ∃ p, l[ln]? = some p := ⟨_, List.getElem?_eq_getElem (by have := HLN.out; omega)⟩
          obtain ⟨q, hq⟩ : ∃ q, l[rn]? = some q := ⟨_, List.getElem?_eq_getElem (by have := HLN.out; omega)⟩
          have PA : Hid (kAt l x.l = p) := by rw [kAt, hln, List.getD, Int.toNat_natCast, hp]; exact hidI rfl
          have QA : Hid (kAt l x.r = q) := by rw [kAt, hrn, List.getD, Int.toNat_natCast, hq]; exact hidI rfl
          obtain ⟨pn, pb⟩ := K2.out.at hp
          obtain ⟨qn, qb⟩ := K2.out.at hq
          rw [hln] at e4
          rw [hrn] at e5
          obtain ⟨pv, pk⟩ := p
          obtain ⟨qv, qk⟩ := q
          simp only at pn pb qn qb
          clear hp hq a1 a2 a3 a4 ca0 ca1 hln hrn
          have no : bothB l x = false → Hid (KW w (boxD S m) gn gb m.ex.length (kTo m.ex (j + 1)) W2) := fun h => by rw [NN.out (one_far k1 h)]; exact K2
          go_wp2_with fail
          refine (l5Two_any x.kind _).mono ?_
          rintro e w5 ⟨rfl, hw⟩
          rw [hw, t2]
          clear hw w5
          cases pk with
          | false =>
            have KP := no (by rw [bothB, PA.out]; rfl)
            go_wp2
            go_roundw
            case rel => exact ⟨j + 1, by omega, by go_num, KP⟩
            case measure => simp [intOf]; omega
          | true =>
            cases qk with
            | false =>
              have KP := no (by rw [bothB, QA.out, PA.out]; rfl)
              go_wp2
              go_roundw
              case rel => exact ⟨j + 1, by omega, by go_num, KP⟩
              case measure => simp [intOf]; omega
            | true =>
              go_wp2_with fail
              refine (l1In_any pv (-1000000) 1000000 _).mono ?_
              rintro e w6 ⟨rfl, hw⟩
              rw [hw]
              clear hw w6
              cases h1 : inB pv (-1000000) 1000000 with
              | false =>
                have KP := no (by rw [bothB, PA.out, QA.out]; show (true && (true && (inB pv (-1000000) 1000000 && _))) = false; rw [h1]; rfl)
                go_wp2
                go_roundw
                case rel => exact ⟨j + 1, by omega, by go_num, KP⟩
                case measure => simp [intOf]; omega
              | true =>
                go_wp2_with fail
                refine (l1In_any qv (-1000000) 1000000 _).mono ?_
                rintro e w7 ⟨rfl, hw⟩
                rw [hw]
                clear hw w7
                cases h2 : inB qv (-1000000) 1000000 with
                | false =>
                  have KP := no (by rw [bothB, PA.out, QA.out]; show (true && (true && (inB pv (-1000000) 1000000 && inB qv (-1000000) 1000000))) = false; rw [h1, h2]; rfl)
                  go_wp2
                  go_roundw
                  case rel => exact ⟨j + 1, by omega, by go_num, KP⟩
                  case measure => simp [intOf]; omega
                | true =>
                  have BB : Hid (bothB l x = true) := by rw [bothB, PA.out, QA.out]; show Hid ((true && (true && (inB pv (-1000000) 1000000 && inB qv (-1000000) 1000000))) = true); rw [h1, h2]; exact hidI rfl
                  have np := near_of h1
                  have nq := near_of h2
                  have hadd : IntKind.i64.wrap (pv + qv) = pv + qv := IntWalk.i64_in _ ⟨by omega, by omega⟩
                  have hsub : IntKind.i64.wrap (pv - qv) = pv - qv := IntWalk.i64_in _ ⟨by omega, by omega⟩
                  have hmul : IntKind.i64.wrap (pv * qv) = pv * qv := by have := mul_near np nq; exact IntWalk.i64_in _ ⟨by omega, by omega⟩
                  clear np nq h1 h2
                  cases k8 : (x.kind == 8) with
                  | true =>
                    have k7 : (x.kind == 7) = false := by rw [beq_iff_eq] at k8; rw [k8]; rfl
                    go_wp2_with fail
                    go_region
                    go_wp2_with fail
                    go_region
                    have V3 : Hid (opV x.kind pv qv = pv * qv) := by rw [opV, k8]; exact hidI rfl
                    have K3 := hidI (K2.out.later (Below.refl W2.heap.size W2).drew.drew)
                    have E3 := blk_later E2.out (Below.refl W2.heap.size W2).drew.drew
                    obtain ⟨W3, hW3⟩ : ∃ W3, W3 = W2.drew.drew := ⟨_, rfl⟩
                    rw [← hW3] at K3 E3 ⊢
                    obtain ⟨vv, hvv⟩ : ∃ vv, vv = pv * qv := ⟨_, rfl⟩
                    rw [← hvv] at V3 ⊢
                    have fn := K3.out.nn.free
                    have fb := K3.out.bb.free
                    obtain ⟨ca0, ca1⟩ := K3.out.at (List.getElem?_eq_getElem hjl)
                    have mf := (K3.out.mid j (.int .i64 vv)).free j
                    have mc := (K3.out.mid j (.int .i64 vv)).cell (j := j) (by rw [List.getElem?_map, List.getElem?_eq_getElem hjl]; rfl)
                    clear hW3 hvv e0 e1 e2 e3 e4 e5 ef pn pb qn qb hlt2 E2 K2 no
                    obtain ⟨e0, e1, e2, e3, e4, e5, ef⟩ := six_of E3
                    clear E3
                    go_wp2_with fail
                    refine (l1In_any vv (-1000000) 1000000 _).mono ?_
                    rintro e w9 ⟨rfl, hw⟩
                    rw [hw]
                    clear hw w9
                    cases h3 : inB vv (-1000000) 1000000 with
                    | false =>
                      have KP : Hid (KW w (boxD S m) gn gb m.ex.length (kTo m.ex (j + 1)) W3) := by rw [NN.out (one_out k1 (by rw [PA.out, QA.out, V3.out]; exact h3))]; exact K3
                      go_wp2
                      go_roundw
                      case rel => exact ⟨j + 1, by omega, by go_num, KP⟩
                      case measure => simp [intOf]; omega
                    | true =>
                      have KP : Hid (KW w (boxD S m) gn gb m.ex.length (kTo m.ex (j + 1)) ((W3.setCell ⟨gn, j, none⟩ (.int .i64 vv)).setCell ⟨gb, j, none⟩ (.bool true))) := by
                        have h4 := one_yes t2 BB.out (by rw [PA.out, QA.out, V3.out]; exact h3)
                        rw [PA.out, QA.out, V3.out] at h4
                        rw [NX.out, h4]
                        exact hidI (K3.out.put j vv true)
                      go_wp2
                      go_roundw
                      case rel => exact ⟨j + 1, by omega, by go_num, KP⟩
                      case measure => simp [intOf]; omega
                  | false =>
                    cases k7 : (x.kind == 7) with
                    | true =>
                      go_wp2_with fail
                      go_region
                      go_wp2_with fail
                      go_region
                      have V3 : Hid (opV x.kind pv qv = pv - qv) := by rw [opV, k8, k7]; exact hidI rfl
                      have K3 := hidI (K2.out.later (Below.refl W2.heap.size W2).drew.drew)
                      have E3 := blk_later E2.out (Below.refl W2.heap.size W2).drew.drew
                      obtain ⟨W3, hW3⟩ : ∃ W3, W3 = W2.drew.drew := ⟨_, rfl⟩
                      rw [← hW3] at K3 E3 ⊢
                      obtain ⟨vv, hvv⟩ : ∃ vv, vv = pv - qv := ⟨_, rfl⟩
                      rw [← hvv] at V3 ⊢
                      have fn := K3.out.nn.free
                      have fb := K3.out.bb.free
                      obtain ⟨ca0, ca1⟩ := K3.out.at (List.getElem?_eq_getElem hjl)
                      have mf := (K3.out.mid j (.int .i64 vv)).free j
                      have mc := (K3.out.mid j (.int .i64 vv)).cell (j := j) (by rw [List.getElem?_map, List.getElem?_eq_getElem hjl]; rfl)
                      clear hW3 hvv e0 e1 e2 e3 e4 e5 ef pn pb qn qb hlt2 E2 K2 no
                      obtain ⟨e0, e1, e2, e3, e4, e5, ef⟩ := six_of E3
                      clear E3
                      go_wp2_with fail
                      refine (l1In_any vv (-1000000) 1000000 _).mono ?_
                      rintro e w9 ⟨rfl, hw⟩
                      rw [hw]
                      clear hw w9
                      cases h3 : inB vv (-1000000) 1000000 with
                      | false =>
                        have KP : Hid (KW w (boxD S m) gn gb m.ex.length (kTo m.ex (j + 1)) W3) := by rw [NN.out (one_out k1 (by rw [PA.out, QA.out, V3.out]; exact h3))]; exact K3
                        go_wp2
                        go_roundw
                        case rel => exact ⟨j + 1, by omega, by go_num, KP⟩
                        case measure => simp [intOf]; omega
                      | true =>
                        have KP : Hid (KW w (boxD S m) gn gb m.ex.length (kTo m.ex (j + 1)) ((W3.setCell ⟨gn, j, none⟩ (.int .i64 vv)).setCell ⟨gb, j, none⟩ (.bool true))) := by
                          have h4 := one_yes t2 BB.out (by rw [PA.out, QA.out, V3.out]; exact h3)
                          rw [PA.out, QA.out, V3.out] at h4
                          rw [NX.out, h4]
                          exact hidI (K3.out.put j vv true)
                        go_wp2
                        go_roundw
                        case rel => exact ⟨j + 1, by omega, by go_num, KP⟩
                        case measure => simp [intOf]; omega
                    | false =>
                      go_wp2_with fail
                      go_region
                      have V3 : Hid (opV x.kind pv qv = pv + qv) := by rw [opV, k8, k7]; exact hidI rfl
                      have K3 := hidI (K2.out.later (Below.refl W2.heap.size W2).drew)
                      have E3 := blk_later E2.out (Below.refl W2.heap.size W2).drew
                      obtain ⟨W3, hW3⟩ : ∃ W3, W3 = W2.drew := ⟨_, rfl⟩
                      rw [← hW3] at K3 E3 ⊢
                      obtain ⟨vv, hvv⟩ : ∃ vv, vv = pv + qv := ⟨_, rfl⟩
                      rw [← hvv] at V3 ⊢
                      have fn := K3.out.nn.free
                      have fb := K3.out.bb.free
                      obtain ⟨ca0, ca1⟩ := K3.out.at (List.getElem?_eq_getElem hjl)
                      have mf := (K3.out.mid j (.int .i64 vv)).free j
                      have mc := (K3.out.mid j (.int .i64 vv)).cell (j := j) (by rw [List.getElem?_map, List.getElem?_eq_getElem hjl]; rfl)
                      clear hW3 hvv e0 e1 e2 e3 e4 e5 ef pn pb qn qb hlt2 E2 K2 no
                      obtain ⟨e0, e1, e2, e3, e4, e5, ef⟩ := six_of E3
                      clear E3
                      go_wp2_with fail
                      refine (l1In_any vv (-1000000) 1000000 _).mono ?_
                      rintro e w9 ⟨rfl, hw⟩
                      rw [hw]
                      clear hw w9
                      cases h3 : inB vv (-1000000) 1000000 with
                      | false =>
                        have KP : Hid (KW w (boxD S m) gn gb m.ex.length (kTo m.ex (j + 1)) W3) := by rw [NN.out (one_out k1 (by rw [PA.out, QA.out, V3.out]; exact h3))]; exact K3
                        go_wp2
                        go_roundw
                        case rel => exact ⟨j + 1, by omega, by go_num, KP⟩
                        case measure => simp [intOf]; omega
                      | true =>
                        have KP : Hid (KW w (boxD S m) gn gb m.ex.length (kTo m.ex (j + 1)) ((W3.setCell ⟨gn, j, none⟩ (.int .i64 vv)).setCell ⟨gb, j, none⟩ (.bool true))) := by
                          have h4 := one_yes t2 BB.out (by rw [PA.out, QA.out, V3.out]; exact h3)
                          rw [PA.out, QA.out, V3.out] at h4
                          rw [NX.out, h4]
                          exact hidI (K3.out.put j vv true)
                        go_wp2
                        go_roundw
                        case rel => exact ⟨j + 1, by omega, by go_num, KP⟩
                        case measure => simp [intOf]; omega
    · obtain rfl : j = m.ex.length := by omega
      go_wp2
      go_ret2
      exact ⟨gn, gb, rfl, HK.out.nn.low (Nat.le_succ _), HK.out.bb.low (Nat.le_succ _), HK.out.bel⟩
def KnownOut (m : Md) (i : Int) (w : World) (e : Ending) (w' : World) : Prop := ∃ v b, e = .returned (.tuple #[.int .i64 v, .bool b]) ∧ KnownIs m i v b ∧ Below w.heap.size w w'
set_option maxRecDepth 100000 in
set_option maxHeartbeats 3200000 in
theorem known_spec (base : Nat) (S : Sv) (m : Md) (i : Int) (w : World) (h : OwnMd w base S m) (hl : m.ex.length ≤ 1048576) (hs : m.st.length ≤ 1048576) :
    Calls Try.prog 10 #[modD S m, .int .i64 i] w (KnownOut m i w) := by
  have HH := hidI h
  clear h
  unfold modD
  go_enter Try.func10, Try.ntmps10
  go_upto_region 1 with fail
  refine world_anyI (R := fun W => W.heap[w.heap.size]? = some (boxD S m) ∧ Below w.heap.size w W) ⟨heap_alloc_new w _, (Below.refl _ _).alloc (Nat.le_refl _) _⟩ ?_
  rintro w1 ⟨hx, hb⟩
  have X1 := hidI hx
  have B1 := hidI hb
  clear hx hb
  obtain ⟨c0, c1, c2, c3, c4, cf⟩ := five_of X1.out
  go_wp2_with fail
  refine (l5Tree_any base S m w1 (HH.out.later B1.out) (by omega) (by omega)).mono ?_
  rintro e w2 ⟨⟨t, rfl, ht⟩, hb⟩
  have X2 := hidI (blk_later X1.out hb)
  have B2 := hidI (B1.out.trans (hb.mono B1.out.size))
  have T2 := hidI ht
  clear ht hb X1 B1 c0 c1 c2 c3 c4 cf
  obtain ⟨c0, c1, c2, c3, c4, cf⟩ := five_of X2.out
  cases t with
  | false =>
    go_wp2
    go_ret2
    exact ⟨0, false, rfl, .inr ⟨fun k => Bool.false_ne_true (T2.out.2 k.1), rfl, rfl⟩, B2.out⟩
  | true =>
    by_cases h0 : i < 0
    · have d0 : decide (i < 0) = true := decide_eq_true h0
      go_wp2
      go_ret2
      exact ⟨0, false, rfl, .inr ⟨fun k => by have := k.2.1; omega, rfl, rfl⟩, B2.out⟩
    · have d0 : decide (i < 0) = false := decide_eq_false h0
      by_cases h1 : (m.ex.length : Int) ≤ i
      · have d1 : decide ((m.ex.length : Int) ≤ i) = true := decide_eq_true h1
        go_wp2
        go_ret2
        exact ⟨0, false, rfl, .inr ⟨fun k => by have := k.2.2.1; omega, rfl, rfl⟩, B2.out⟩
      · have d1 : decide ((m.ex.length : Int) ≤ i) = false := decide_eq_false h1
        obtain ⟨k, hk⟩ : ∃ k : Nat, i = (k : Int) := ⟨i.toNat, by omega⟩
        subst hk
        have hkl : k < m.ex.length := by omega
        have hki : (k : Int) < (m.ex.length : Int) := by omega
        have hk0 : (0 : Int) ≤ (k : Int) := by omega
        go_wp2_with fail
        refine (l17Known_spec base S m w2 (HH.out.later B2.out) hl (T2.out.1 (by simp))).mono ?_
        rintro e w3 ⟨gn, gb, rfl, hn, hb', hb⟩
        have B3 := hidI (B2.out.trans (hb.mono B2.out.size))
        obtain ⟨p, hp⟩ : ∃ p, (kAll m.ex)[k]? = some p := ⟨_, List.getElem?_eq_getElem (by rw [kAll, kTo_len]; exact hkl)⟩
        have PA : Hid (kAt (kAll m.ex) (k : Int) = p) := by rw [kAt, List.getD, Int.toNat_natCast, hp]; exact hidI rfl
        have n0 := hn.cell (j := k) (by rw [List.getElem?_map, hp]; rfl)
        have b0 := hb'.cell (j := k) (by rw [List.getElem?_map, hp]; rfl)
        obtain ⟨pv, pk⟩ := p
        simp only at n0 b0
        clear hn hb' hb hp X2 c0 c1 c2 c3 c4 cf
        cases pk with
        | false =>
          go_wp2
          go_ret2
          exact ⟨0, false, rfl, .inr ⟨fun q => (by have := q.2.2.2; rw [PA.out] at this; cases this), rfl, rfl⟩, B3.out⟩
        | true =>
          go_wp2
          go_ret2
          exact ⟨pv, true, rfl, .inl ⟨⟨T2.out.1 (by simp), hk0, hki, by rw [PA.out]⟩, by rw [PA.out], rfl⟩, B3.out⟩
def SizeOut (m : Md) (w : World) (e : Ending) (w' : World) : Prop := ∃ z : Nat, e = .returned (.int .i64 (z : Int)) ∧ z = m.ex.length + m.st.length ∧ Below w.heap.size w w'
theorem size_spec (S : Sv) (m : Md) (w : World) (hl : m.ex.length ≤ 1048576 ∧ m.st.length ≤ 1048576) :
    Calls Try.prog 14 #[modD S m] w (SizeOut m w) := by
  obtain ⟨z, hz⟩ : ∃ z, z = m.ex.length + m.st.length := ⟨_, rfl⟩
  have ez : (m.ex.length : Int) + (m.st.length : Int) = (z : Int) := by omega
  have hw : IntKind.i64.wrap ((m.ex.length : Int) + (m.st.length : Int)) = (z : Int) := by rw [ez]; exact IntWalk.i64_in _ ⟨by omega, by omega⟩
  have HZ := hidI hz
  clear hz
  unfold modD
  go_enter Try.func14, Try.ntmps14
  go_upto_region 1 with fail
  refine world_anyI (R := fun W => W.heap[w.heap.size]? = some (boxD S m) ∧ Below w.heap.size w W) ⟨heap_alloc_new w _, (Below.refl _ _).alloc (Nat.le_refl _) _⟩ ?_
  rintro w1 ⟨hx, hb⟩
  have B1 := hidI hb
  obtain ⟨c0, c1, c2, c3, c4, cf⟩ := five_of hx
  clear hx hb
  go_wp2
  go_ret
  exact ⟨z, rfl, HZ.out, B1.out⟩
end Go.Proofs.Ytdbpknmoacjodaa
