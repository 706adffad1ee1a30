/-
  What l4Same of the specification answers, the model's != handed in: the walk.
-/
import Derived.Test.YtcmpakdfebeklaaClImplEarlyCToOkMath
namespace Go.Proofs.Ytcmpakdfebeklaa
open Go.RowKit Go.PlainAid Go.Sort

set_option maxRecDepth 100000 in
set_option maxHeartbeats 12800000 in
theorem l4Same_with (hneIm : ∀ (x y : Im) (W : World), Sem.run Try.prog (binOp .neq 78 (.agg #[.string x.spec, .string x.first, .string x.loc]) (.agg #[.string y.spec, .string y.first, .string y.loc])) W = .ok (.bool (!eqIm x y)) W) (hgdIm : ∀ (op : BinOp) (a b : Operand) (x y : Im) (W : World), Sem.run Try.prog (eqGuard op 78 a b (.agg #[.string x.spec, .string x.first, .string x.loc]) (.agg #[.string y.spec, .string y.first, .string y.loc])) W = .ok () W) (hneEp : ∀ (x y : Ep) (W : World), Sem.run Try.prog (binOp .neq 50 (.agg #[.int .i64 x.kind, .string x.name, .string x.loc, .string x.spec]) (.agg #[.int .i64 y.kind, .string y.name, .string y.loc, .string y.spec])) W = .ok (.bool (!eqEp x y)) W) (hgdEp : ∀ (op : BinOp) (a b : Operand) (x y : Ep) (W : World), Sem.run Try.prog (eqGuard op 50 a b (.agg #[.int .i64 x.kind, .string x.name, .string x.loc, .string x.spec]) (.agg #[.int .i64 y.kind, .string y.name, .string y.loc, .string y.spec])) W = .ok () W) (hneSm : ∀ (x y : Sm) (W : World), Sem.run Try.prog (binOp .neq 85 (.agg #[.int .i64 x.kind, .string x.name, .int .i64 x.expr]) (.agg #[.int .i64 y.kind, .string y.name, .int .i64 y.expr])) W = .ok (.bool (!eqSm x y)) W) (hgdSm : ∀ (op : BinOp) (a b : Operand) (x y : Sm) (W : World), Sem.run Try.prog (eqGuard op 85 a b (.agg #[.int .i64 x.kind, .string x.name, .int .i64 x.expr]) (.agg #[.int .i64 y.kind, .string y.name, .int .i64 y.expr])) W = .ok () W) (hneEx : ∀ (x y : Ex) (W : World), Sem.run Try.prog (binOp .neq 83 (.agg #[.int .i64 x.kind, .int .i64 x.num, .string x.name, .string x.field, .int .i64 x.l, .int .i64 x.r]) (.agg #[.int .i64 y.kind, .int .i64 y.num, .string y.name, .string y.field, .int .i64 y.l, .int .i64 y.r])) W = .ok (.bool (!eqEx x y)) W) (hgdEx : ∀ (op : BinOp) (a b : Operand) (x y : Ex) (W : World), Sem.run Try.prog (eqGuard op 83 a b (.agg #[.int .i64 x.kind, .int .i64 x.num, .string x.name, .string x.field, .int .i64 x.l, .int .i64 x.r]) (.agg #[.int .i64 y.kind, .int .i64 y.num, .string y.name, .string y.field, .int .i64 y.l, .int .i64 y.r])) W = .ok () W) (b1 b2 : Nat) (S1 S2 : Sv) (m1 m2 : Md) (w : World) (h1 : OwnMd w b1 S1 m1) (h2 : OwnMd w b2 S2 m2) (hf : MdFew m1) :
    Calls Try.prog 54 #[modD S1 m1, modD S2 m2] w fun e w' => SameOut (m1 = m2) e ∧ Below w.heap.size w w' := by
  have H1 := hidI h1
  have H2 := hidI h2
  obtain ⟨f1, f2, f3, f4, f5⟩ := hf
  clear h1 h2
  unfold modD
  go_enter Try.func54, Try.ntmps54
  go_upto_region 1 with fail
  refine world_anyI (R := TwoM w b1 b2 S1 S2 m1 m2) (two_start w b1 b2 S1 S2 m1 m2 H1.out H2.out) ?_
  clear H1 H2
  intro w0 h
  have T := hidI h
  clear h
  obtain ⟨c0, c1, c2, c3, c4, cf⟩ := five_of T.out.1
  obtain ⟨d0, d1, d2, d3, d4, df⟩ := five_of T.out.2.1
  by_cases q0 : (m1.rq.length : Int) = (m2.rq.length : Int)
  case neg =>
    go_wp2
    go_ret
    exact ⟨⟨false, rfl, ⟨fun k => (by cases k), fun k => absurd (by rw [k]) q0⟩⟩, T.out.2.2.2.2⟩
  by_cases q1 : (m1.im.length : Int) = (m2.im.length : Int)
  case neg =>
    go_wp2
    go_ret
    exact ⟨⟨false, rfl, ⟨fun k => (by cases k), fun k => absurd (by rw [k]) q1⟩⟩, T.out.2.2.2.2⟩
  by_cases q2 : (m1.ep.length : Int) = (m2.ep.length : Int)
  case neg =>
    go_wp2
    go_ret
    exact ⟨⟨false, rfl, ⟨fun k => (by cases k), fun k => absurd (by rw [k]) q2⟩⟩, T.out.2.2.2.2⟩
  by_cases q3 : (m1.st.length : Int) = (m2.st.length : Int)
  case neg =>
    go_wp2
    go_ret
    exact ⟨⟨false, rfl, ⟨fun k => (by cases k), fun k => absurd (by rw [k]) q3⟩⟩, T.out.2.2.2.2⟩
  by_cases q4 : (m1.ex.length : Int) = (m2.ex.length : Int)
  case neg =>
    go_wp2
    go_ret
    exact ⟨⟨false, rfl, ⟨fun k => (by cases k), fun k => absurd (by rw [k]) q4⟩⟩, T.out.2.2.2.2⟩
  go_wp2
  go_loopg [5] m1.rq.length (fun k i wr => ∃ j : Nat, i = .int .i64 j ∧ j + k = m1.rq.length ∧ m1.rq.take j = m2.rq.take j ∧ TwoM w b1 b2 S1 S2 m1 m2 wr)
  case atStart => exact ⟨0, rfl, by omega, rfl, T.out⟩
  case round =>
    obtain ⟨j, rfl, hj, ht, hT⟩ := hrel
    clear T c0 c1 c2 c3 c4 cf d0 d1 d2 d3 d4 df
    have T := hidI hT
    have HT := hidI ht
    clear hT ht
    obtain ⟨c0, c1, c2, c3, c4, cf⟩ := five_of T.out.1
    obtain ⟨d0, d1, d2, d3, d4, df⟩ := five_of T.out.2.1
    by_cases hlt : j < m1.rq.length
    · have hlti : (j : Int) < (m1.rq.length : Int) := by omega
      have hlt2 : (j : Int) < (m2.rq.length : Int) := by omega
      obtain ⟨x, hx⟩ := rowsomeE hlt
      obtain ⟨y, hy⟩ := rowsomeE (show j < m2.rq.length by omega)
      obtain ⟨g1, ga, h1⟩ := OwnR.elem (f := (fun x => [Value.string x])) (m := 1) (fun _ => rfl) (show OwnR wr b1 9 1 S1.rq m1.rq.length (m1.rq.flatMap (fun x => [Value.string x])) by rw [← map_flat]; exact T.out.2.2.1.rq) hx
      obtain ⟨g2, gb, h2⟩ := OwnR.elem (f := (fun x => [Value.string x])) (m := 1) (fun _ => rfl) (show OwnR wr b2 9 1 S2.rq m2.rq.length (m2.rq.flatMap (fun x => [Value.string x])) by rw [← map_flat]; exact T.out.2.2.2.1.rq) hy
      rw [ga] at c0
      rw [gb] at d0
      have C0 := hidI (h1 0 (by omega))
      have D0 := hidI (h2 0 (by omega))
      have HX := hidI hx
      have HY := hidI hy
      clear h1 h2 ga gb hx hy
      obtain ⟨j1, hj1⟩ : ∃ j1, j1 = j + 1 := ⟨_, rfl⟩
      have ej : (j : Int) + 1 = (j1 : Int) := by omega
      have HJ := hidI hj1
      clear hj1
      obtain ⟨b, hxy⟩ : ∃ b, eqStr x y = b := ⟨_, rfl⟩
      have hxz : (x.toList == y.toList) = b := hxy
      go_wp2
      have kc := cell_regrown c0
      have kd := cell_regrown d0
      have k0 := cell_regrown C0.out
      have v0 := cell_regrown D0.out
      simp only [Nat.add_zero, Nat.mul_one] at k0 v0
      refine wp_region_quiet_below (by kernel_rfl) (by kernel_rfl) ?_
      repeat (go_big_quiet_step (fail))
      refine wpQuiet_nil ?_
      intro w2 hw'
      obtain ⟨⟨dq, osq⟩, hw''⟩ := hw'
      have T2 : Hid (TwoM w b1 b2 S1 S2 m1 m2 w2) := by show TwoM _ _ _ _ _ _ _ _; rw [hw'']; exact T.out.later (below_regrown wr dq osq)
      clear hw'' kc kd c0 c1 c2 c3 c4 cf d0 d1 d2 d3 d4 df k0 v0 C0 D0
      cases b with
      | true =>
        go_wp2
        go_roundg (gk - 1)
        case rel => exact ⟨j1, rfl, by have := HJ.out; omega, by rw [HJ.out]; have e := eqStr_iff.1 hxy; exact take_more HT.out HX.out (by rw [e]; exact HY.out), T2.out⟩
        case measure => omega
      | false =>
        go_wp2
        go_ret
        exact ⟨⟨false, rfl, ⟨fun k => (by cases k), fun k => (by have e := HX.out; rw [k, HY.out] at e; cases e; rw [eqStr_iff.2 rfl] at hxy; cases hxy)⟩⟩, T2.out.2.2.2.2⟩
    · have hlti : ¬ (j : Int) < (m1.rq.length : Int) := by omega
      obtain rfl : j = m1.rq.length := by omega
      have A0 := hidI (take_all (by omega) HT.out)
      clear HT hlti hlt hj
      go_wp2
      go_loopg [6] m1.im.length (fun k i wr => ∃ j : Nat, i = .int .i64 j ∧ j + k = m1.im.length ∧ m1.im.take j = m2.im.take j ∧ TwoM w b1 b2 S1 S2 m1 m2 wr)
      case atStart => exact ⟨0, rfl, by omega, rfl, T.out⟩
      case round =>
        obtain ⟨j, rfl, hj, ht, hT⟩ := hrel
        clear T c0 c1 c2 c3 c4 cf d0 d1 d2 d3 d4 df
        have T := hidI hT
        have HT := hidI ht
        clear hT ht
        obtain ⟨c0, c1, c2, c3, c4, cf⟩ := five_of T.out.1
        obtain ⟨d0, d1, d2, d3, d4, df⟩ := five_of T.out.2.1
        by_cases hlt : j < m1.im.length
        · have hlti : (j : Int) < (m1.im.length : Int) := by omega
          have hlt2 : (j : Int) < (m2.im.length : Int) := by omega
          obtain ⟨x, hx⟩ := rowsomeE hlt
          obtain ⟨y, hy⟩ := rowsomeE (show j < m2.im.length by omega)
          obtain ⟨g1, ga, h1⟩ := OwnR.elem (f := imL) (m := 3) (fun _ => rfl) T.out.2.2.1.im hx
          obtain ⟨g2, gb, h2⟩ := OwnR.elem (f := imL) (m := 3) (fun _ => rfl) T.out.2.2.2.1.im hy
          rw [ga] at c1
          rw [gb] at d1
          have C0 := hidI (h1 0 (by omega))
          have D0 := hidI (h2 0 (by omega))
          have C1 := hidI (h1 1 (by omega))
          have D1 := hidI (h2 1 (by omega))
          have C2 := hidI (h1 2 (by omega))
          have D2 := hidI (h2 2 (by omega))
          have HX := hidI hx
          have HY := hidI hy
          clear h1 h2 ga gb hx hy
          obtain ⟨j1, hj1⟩ : ∃ j1, j1 = j + 1 := ⟨_, rfl⟩
          have ej : (j : Int) + 1 = (j1 : Int) := by omega
          have HJ := hidI hj1
          clear hj1
          obtain ⟨b, hxy⟩ : ∃ b, eqIm x y = b := ⟨_, rfl⟩
          have hn1 : ∀ W : World, Sem.run Try.prog (binOp .neq 78 (.agg #[.string x.spec, .string x.first, .string x.loc]) (.agg #[.string y.spec, .string y.first, .string y.loc])) W = .ok (.bool !b) W := fun W => by rw [hneIm, hxy]
          have hg1 : ∀ (op : BinOp) (a b : Operand) (W : World), Sem.run Try.prog (eqGuard op 78 a b (.agg #[.string x.spec, .string x.first, .string x.loc]) (.agg #[.string y.spec, .string y.first, .string y.loc])) W = .ok () W := fun op a b W => hgdIm op a b x y W
          go_wp2
          have kc := cell_regrown c1
          have kd := cell_regrown d1
          have k0 := cell_regrown C0.out
          have v0 := cell_regrown D0.out
          have k1 := cell_regrown C1.out
          have v1 := cell_regrown D1.out
          have k2 := cell_regrown C2.out
          have v2 := cell_regrown D2.out
          simp only [Nat.add_zero] at k0 v0
          refine wp_region_quiet_below (by kernel_rfl) (by kernel_rfl) ?_
          repeat (go_big_quiet_step (fail))
          refine wpQuiet_nil ?_
          intro w2 hw'
          obtain ⟨⟨dq, osq⟩, hw''⟩ := hw'
          have T2 : Hid (TwoM w b1 b2 S1 S2 m1 m2 w2) := by show TwoM _ _ _ _ _ _ _ _; rw [hw'']; exact T.out.later (below_regrown wr dq osq)
          clear hw'' kc kd c0 c1 c2 c3 c4 cf d0 d1 d2 d3 d4 df k0 v0 C0 D0 k1 v1 C1 D1 k2 v2 C2 D2
          cases b with
          | true =>
            go_wp2
            go_roundg (gk - 1)
            case rel => exact ⟨j1, rfl, by have := HJ.out; omega, by rw [HJ.out]; have e := eqIm_iff.1 hxy; exact take_more HT.out HX.out (by rw [e]; exact HY.out), T2.out⟩
            case measure => omega
          | false =>
            go_wp2
            go_ret
            exact ⟨⟨false, rfl, ⟨fun k => (by cases k), fun k => (by have e := HX.out; rw [k, HY.out] at e; cases e; rw [eqIm_iff.2 rfl] at hxy; cases hxy)⟩⟩, T2.out.2.2.2.2⟩
        · have hlti : ¬ (j : Int) < (m1.im.length : Int) := by omega
          obtain rfl : j = m1.im.length := by omega
          have A1 := hidI (take_all (by omega) HT.out)
          clear HT hlti hlt hj
          go_wp2
          go_loopg [7] m1.ep.length (fun k i wr => ∃ j : Nat, i = .int .i64 j ∧ j + k = m1.ep.length ∧ m1.ep.take j = m2.ep.take j ∧ TwoM w b1 b2 S1 S2 m1 m2 wr)
          case atStart => exact ⟨0, rfl, by omega, rfl, T.out⟩
          case round =>
            obtain ⟨j, rfl, hj, ht, hT⟩ := hrel
            clear T c0 c1 c2 c3 c4 cf d0 d1 d2 d3 d4 df
            have T := hidI hT
            have HT := hidI ht
            clear hT ht
            obtain ⟨c0, c1, c2, c3, c4, cf⟩ := five_of T.out.1
            obtain ⟨d0, d1, d2, d3, d4, df⟩ := five_of T.out.2.1
            by_cases hlt : j < m1.ep.length
            · have hlti : (j : Int) < (m1.ep.length : Int) := by omega
              have hlt2 : (j : Int) < (m2.ep.length : Int) := by omega
              obtain ⟨x, hx⟩ := rowsomeE hlt
              obtain ⟨y, hy⟩ := rowsomeE (show j < m2.ep.length by omega)
              obtain ⟨g1, ga, h1⟩ := OwnR.elem (f := epL) (m := 4) (fun _ => rfl) T.out.2.2.1.ep hx
              obtain ⟨g2, gb, h2⟩ := OwnR.elem (f := epL) (m := 4) (fun _ => rfl) T.out.2.2.2.1.ep hy
              rw [ga] at c2
              rw [gb] at d2
              have C0 := hidI (h1 0 (by omega))
              have D0 := hidI (h2 0 (by omega))
              have C1 := hidI (h1 1 (by omega))
              have D1 := hidI (h2 1 (by omega))
              have C2 := hidI (h1 2 (by omega))
              have D2 := hidI (h2 2 (by omega))
              have C3 := hidI (h1 3 (by omega))
              have D3 := hidI (h2 3 (by omega))
              have HX := hidI hx
              have HY := hidI hy
              clear h1 h2 ga gb hx hy
              obtain ⟨j1, hj1⟩ : ∃ j1, j1 = j + 1 := ⟨_, rfl⟩
              have ej : (j : Int) + 1 = (j1 : Int) := by omega
              have HJ := hidI hj1
              clear hj1
              obtain ⟨b, hxy⟩ : ∃ b, eqEp x y = b := ⟨_, rfl⟩
              have hn1 : ∀ W : World, Sem.run Try.prog (binOp .neq 50 (.agg #[.int .i64 x.kind, .string x.name, .string x.loc, .string x.spec]) (.agg #[.int .i64 y.kind, .string y.name, .string y.loc, .string y.spec])) W = .ok (.bool !b) W := fun W => by rw [hneEp, hxy]
              have hg1 : ∀ (op : BinOp) (a b : Operand) (W : World), Sem.run Try.prog (eqGuard op 50 a b (.agg #[.int .i64 x.kind, .string x.name, .string x.loc, .string x.spec]) (.agg #[.int .i64 y.kind, .string y.name, .string y.loc, .string y.spec])) W = .ok () W := fun op a b W => hgdEp op a b x y W
              go_wp2
              have kc := cell_regrown c2
              have kd := cell_regrown d2
              have k0 := cell_regrown C0.out
              have v0 := cell_regrown D0.out
              have k1 := cell_regrown C1.out
              have v1 := cell_regrown D1.out
              have k2 := cell_regrown C2.out
              have v2 := cell_regrown D2.out
              have k3 := cell_regrown C3.out
              have v3 := cell_regrown D3.out
              simp only [Nat.add_zero] at k0 v0
              refine wp_region_quiet_below (by kernel_rfl) (by kernel_rfl) ?_
              repeat (go_big_quiet_step (fail))
              refine wpQuiet_nil ?_
              intro w2 hw'
              obtain ⟨⟨dq, osq⟩, hw''⟩ := hw'
              have T2 : Hid (TwoM w b1 b2 S1 S2 m1 m2 w2) := by show TwoM _ _ _ _ _ _ _ _; rw [hw'']; exact T.out.later (below_regrown wr dq osq)
              clear hw'' kc kd c0 c1 c2 c3 c4 cf d0 d1 d2 d3 d4 df k0 v0 C0 D0 k1 v1 C1 D1 k2 v2 C2 D2 k3 v3 C3 D3
              cases b with
              | true =>
                go_wp2
                go_roundg (gk - 1)
                case rel => exact ⟨j1, rfl, by have := HJ.out; omega, by rw [HJ.out]; have e := eqEp_iff.1 hxy; exact take_more HT.out HX.out (by rw [e]; exact HY.out), T2.out⟩
                case measure => omega
              | false =>
                go_wp2
                go_ret
                exact ⟨⟨false, rfl, ⟨fun k => (by cases k), fun k => (by have e := HX.out; rw [k, HY.out] at e; cases e; rw [eqEp_iff.2 rfl] at hxy; cases hxy)⟩⟩, T2.out.2.2.2.2⟩
            · have hlti : ¬ (j : Int) < (m1.ep.length : Int) := by omega
              obtain rfl : j = m1.ep.length := by omega
              have A2 := hidI (take_all (by omega) HT.out)
              clear HT hlti hlt hj
              go_wp2
              go_loopg [8] m1.st.length (fun k i wr => ∃ j : Nat, i = .int .i64 j ∧ j + k = m1.st.length ∧ m1.st.take j = m2.st.take j ∧ TwoM w b1 b2 S1 S2 m1 m2 wr)
              case atStart => exact ⟨0, rfl, by omega, rfl, T.out⟩
              case round =>
                obtain ⟨j, rfl, hj, ht, hT⟩ := hrel
                clear T c0 c1 c2 c3 c4 cf d0 d1 d2 d3 d4 df
                have T := hidI hT
                have HT := hidI ht
                clear hT ht
                obtain ⟨c0, c1, c2, c3, c4, cf⟩ := five_of T.out.1
                obtain ⟨d0, d1, d2, d3, d4, df⟩ := five_of T.out.2.1
                by_cases hlt : j < m1.st.length
                · have hlti : (j : Int) < (m1.st.length : Int) := by omega
                  have hlt2 : (j : Int) < (m2.st.length : Int) := by omega
                  obtain ⟨x, hx⟩ := rowsomeE hlt
                  obtain ⟨y, hy⟩ := rowsomeE (show j < m2.st.length by omega)
                  obtain ⟨g1, ga, h1⟩ := OwnR.elem (f := smL) (m := 3) (fun _ => rfl) T.out.2.2.1.st hx
                  obtain ⟨g2, gb, h2⟩ := OwnR.elem (f := smL) (m := 3) (fun _ => rfl) T.out.2.2.2.1.st hy
                  rw [ga] at c3
                  rw [gb] at d3
                  have C0 := hidI (h1 0 (by omega))
                  have D0 := hidI (h2 0 (by omega))
                  have C1 := hidI (h1 1 (by omega))
                  have D1 := hidI (h2 1 (by omega))
                  have C2 := hidI (h1 2 (by omega))
                  have D2 := hidI (h2 2 (by omega))
                  have HX := hidI hx
                  have HY := hidI hy
                  clear h1 h2 ga gb hx hy
                  obtain ⟨j1, hj1⟩ : ∃ j1, j1 = j + 1 := ⟨_, rfl⟩
                  have ej : (j : Int) + 1 = (j1 : Int) := by omega
                  have HJ := hidI hj1
                  clear hj1
                  obtain ⟨b, hxy⟩ : ∃ b, eqSm x y = b := ⟨_, rfl⟩
                  have hn1 : ∀ W : World, Sem.run Try.prog (binOp .neq 85 (.agg #[.int .i64 x.kind, .string x.name, .int .i64 x.expr]) (.agg #[.int .i64 y.kind, .string y.name, .int .i64 y.expr])) W = .ok (.bool !b) W := fun W => by rw [hneSm, hxy]
                  have hg1 : ∀ (op : BinOp) (a b : Operand) (W : World), Sem.run Try.prog (eqGuard op 85 a b (.agg #[.int .i64 x.kind, .string x.name, .int .i64 x.expr]) (.agg #[.int .i64 y.kind, .string y.name, .int .i64 y.expr])) W = .ok () W := fun op a b W => hgdSm op a b x y W
                  go_wp2
                  have kc := cell_regrown c3
                  have kd := cell_regrown d3
                  have k0 := cell_regrown C0.out
                  have v0 := cell_regrown D0.out
                  have k1 := cell_regrown C1.out
                  have v1 := cell_regrown D1.out
                  have k2 := cell_regrown C2.out
                  have v2 := cell_regrown D2.out
                  simp only [Nat.add_zero] at k0 v0
                  refine wp_region_quiet_below (by kernel_rfl) (by kernel_rfl) ?_
                  repeat (go_big_quiet_step (fail))
                  refine wpQuiet_nil ?_
                  intro w2 hw'
                  obtain ⟨⟨dq, osq⟩, hw''⟩ := hw'
                  have T2 : Hid (TwoM w b1 b2 S1 S2 m1 m2 w2) := by show TwoM _ _ _ _ _ _ _ _; rw [hw'']; exact T.out.later (below_regrown wr dq osq)
                  clear hw'' kc kd c0 c1 c2 c3 c4 cf d0 d1 d2 d3 d4 df k0 v0 C0 D0 k1 v1 C1 D1 k2 v2 C2 D2
                  cases b with
                  | true =>
                    go_wp2
                    go_roundg (gk - 1)
                    case rel => exact ⟨j1, rfl, by have := HJ.out; omega, by rw [HJ.out]; have e := eqSm_iff.1 hxy; exact take_more HT.out HX.out (by rw [e]; exact HY.out), T2.out⟩
                    case measure => omega
                  | false =>
                    go_wp2
                    go_ret
                    exact ⟨⟨false, rfl, ⟨fun k => (by cases k), fun k => (by have e := HX.out; rw [k, HY.out] at e; cases e; rw [eqSm_iff.2 rfl] at hxy; cases hxy)⟩⟩, T2.out.2.2.2.2⟩
                · have hlti : ¬ (j : Int) < (m1.st.length : Int) := by omega
                  obtain rfl : j = m1.st.length := by omega
                  have A3 := hidI (take_all (by omega) HT.out)
                  clear HT hlti hlt hj
                  go_wp2
                  go_loopg [9] m1.ex.length (fun k i wr => ∃ j : Nat, i = .int .i64 j ∧ j + k = m1.ex.length ∧ m1.ex.take j = m2.ex.take j ∧ TwoM w b1 b2 S1 S2 m1 m2 wr)
                  case atStart => exact ⟨0, rfl, by omega, rfl, T.out⟩
                  case round =>
                    obtain ⟨j, rfl, hj, ht, hT⟩ := hrel
                    clear T c0 c1 c2 c3 c4 cf d0 d1 d2 d3 d4 df
                    have T := hidI hT
                    have HT := hidI ht
                    clear hT ht
                    obtain ⟨c0, c1, c2, c3, c4, cf⟩ := five_of T.out.1
                    obtain ⟨d0, d1, d2, d3, d4, df⟩ := five_of T.out.2.1
                    by_cases hlt : j < m1.ex.length
                    · have hlti : (j : Int) < (m1.ex.length : Int) := by omega
                      have hlt2 : (j : Int) < (m2.ex.length : Int) := by omega
                      obtain ⟨x, hx⟩ := rowsomeE hlt
                      obtain ⟨y, hy⟩ := rowsomeE (show j < m2.ex.length by omega)
                      obtain ⟨g1, ga, h1⟩ := OwnR.elem (f := exL) (m := 6) (fun _ => rfl) T.out.2.2.1.ex hx
                      obtain ⟨g2, gb, h2⟩ := OwnR.elem (f := exL) (m := 6) (fun _ => rfl) T.out.2.2.2.1.ex hy
                      rw [ga] at c4
                      rw [gb] at d4
                      have C0 := hidI (h1 0 (by omega))
                      have D0 := hidI (h2 0 (by omega))
                      have C1 := hidI (h1 1 (by omega))
                      have D1 := hidI (h2 1 (by omega))
                      have C2 := hidI (h1 2 (by omega))
                      have D2 := hidI (h2 2 (by omega))
                      have C3 := hidI (h1 3 (by omega))
                      have D3 := hidI (h2 3 (by omega))
                      have C4 := hidI (h1 4 (by omega))
                      have D4 := hidI (h2 4 (by omega))
                      have C5 := hidI (h1 5 (by omega))
                      have D5 := hidI (h2 5 (by omega))
                      have HX := hidI hx
                      have HY := hidI hy
                      clear h1 h2 ga gb hx hy
                      obtain ⟨j1, hj1⟩ : ∃ j1, j1 = j + 1 := ⟨_, rfl⟩
                      have ej : (j : Int) + 1 = (j1 : Int) := by omega
                      have HJ := hidI hj1
                      clear hj1
                      obtain ⟨b, hxy⟩ : ∃ b, eqEx x y = b := ⟨_, rfl⟩
                      have hn1 : ∀ W : World, Sem.run Try.prog (binOp .neq 83 (.agg #[.int .i64 x.kind, .int .i64 x.num, .string x.name, .string x.field, .int .i64 x.l, .int .i64 x.r]) (.agg #[.int .i64 y.kind, .int .i64 y.num, .string y.name, .string y.field, .int .i64 y.l, .int .i64 y.r])) W = .ok (.bool !b) W := fun W => by rw [hneEx, hxy]
                      have hg1 : ∀ (op : BinOp) (a b : Operand) (W : World), Sem.run Try.prog (eqGuard op 83 a b (.agg #[.int .i64 x.kind, .int .i64 x.num, .string x.name, .string x.field, .int .i64 x.l, .int .i64 x.r]) (.agg #[.int .i64 y.kind, .int .i64 y.num, .string y.name, .string y.field, .int .i64 y.l, .int .i64 y.r])) W = .ok () W := fun op a b W => hgdEx op a b x y W
                      go_wp2
                      have kc := cell_regrown c4
                      have kd := cell_regrown d4
                      have k0 := cell_regrown C0.out
                      have v0 := cell_regrown D0.out
                      have k1 := cell_regrown C1.out
                      have v1 := cell_regrown D1.out
                      have k2 := cell_regrown C2.out
                      have v2 := cell_regrown D2.out
                      have k3 := cell_regrown C3.out
                      have v3 := cell_regrown D3.out
                      have k4 := cell_regrown C4.out
                      have v4 := cell_regrown D4.out
                      have k5 := cell_regrown C5.out
                      have v5 := cell_regrown D5.out
                      simp only [Nat.add_zero] at k0 v0
                      refine wp_region_quiet_below (by kernel_rfl) (by kernel_rfl) ?_
                      repeat (go_big_quiet_step (fail))
                      refine wpQuiet_nil ?_
                      intro w2 hw'
                      obtain ⟨⟨dq, osq⟩, hw''⟩ := hw'
                      have T2 : Hid (TwoM w b1 b2 S1 S2 m1 m2 w2) := by show TwoM _ _ _ _ _ _ _ _; rw [hw'']; exact T.out.later (below_regrown wr dq osq)
                      clear hw'' kc kd c0 c1 c2 c3 c4 cf d0 d1 d2 d3 d4 df k0 v0 C0 D0 k1 v1 C1 D1 k2 v2 C2 D2 k3 v3 C3 D3 k4 v4 C4 D4 k5 v5 C5 D5
                      cases b with
                      | true =>
                        go_wp2
                        go_roundg (gk - 1)
                        case rel => exact ⟨j1, rfl, by have := HJ.out; omega, by rw [HJ.out]; have e := eqEx_iff.1 hxy; exact take_more HT.out HX.out (by rw [e]; exact HY.out), T2.out⟩
                        case measure => omega
                      | false =>
                        go_wp2
                        go_ret
                        exact ⟨⟨false, rfl, ⟨fun k => (by cases k), fun k => (by have e := HX.out; rw [k, HY.out] at e; cases e; rw [eqEx_iff.2 rfl] at hxy; cases hxy)⟩⟩, T2.out.2.2.2.2⟩
                    · have hlti : ¬ (j : Int) < (m1.ex.length : Int) := by omega
                      obtain rfl : j = m1.ex.length := by omega
                      have A4 := hidI (take_all (by omega) HT.out)
                      clear HT hlti hlt hj
                      go_wp2
                      go_ret
                      exact ⟨⟨true, rfl, ⟨fun _ => md_eq A0.out A1.out A2.out A3.out A4.out, fun _ => rfl⟩⟩, T.out.2.2.2.2⟩
end Go.Proofs.Ytcmpakdfebeklaa
