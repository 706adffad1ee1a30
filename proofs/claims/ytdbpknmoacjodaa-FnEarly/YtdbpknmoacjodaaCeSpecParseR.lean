/-
  What spec.Parse answers: the walk.
-/
import Derived.Test.YtdbpknmoacjodaaCeSpecParseMToSpecParseQ
namespace Go.Proofs.Ytdbpknmoacjodaa
open Go.RowKit Go.PlainAid

set_option maxRecDepth 100000 in
set_option maxHeartbeats 6400000 in
theorem parse_spec (s : ByteArray) (scr : Bool) (w : World) (hs : s.size ≤ 4294967296) :
    Calls Try.prog 42 #[.string s, .bool scr] w fun e w' => ParseOut s scr w e w' ∧ Below w.heap.size w w' := by
  obtain ⟨i0, hi, hz0, hz1, hz2⟩ := info_parts Try.infoExp
  go_enter Try.func42, Try.ntmps42
  go_wp2_with fail
  refine (lex_spec s scr _ hs).mono ?_
  rintro e w1 ⟨⟨r1, hr1, hout1⟩, b1⟩
  have HB1 : Hid (Below w.heap.size w w1) := ((Below.refl _ _).alloc (Nat.le_refl _) _).trans (b1.mono (by rw [alloc_size]; omega))
  have hG : w1.heap[w.heap.size]? = some (.cells #[.slice none 0 0, .slice none 0 0, .slice none 0 0, .slice none 0 0, .slice none 0 0] 37 (0, 0)) := (b1.block _ (by rw [alloc_size]; omega)).trans (heap_alloc_new w _)
  rw [alloc_size] at b1
  cases r1 with
  | error p =>
    obtain ⟨g, cap, rfl, own0⟩ := hout1
    have HY : Hid (ParseR s scr (.error p)) := ⟨_, hr1, rfl⟩
    have HG := hidI hG
    obtain ⟨c0, c1, c2, c3, c4, cf⟩ := five_of hG
    have dz : decide ((0 : Int) ≤ (p : Int)) = true := decide_eq_true (by omega)
    clear own0 hr1 b1 hG
    go_wp2
    refine bodyPost_ret (results_cell_row_tmp rfl _ _ w.heap.size 37 _ (0, 0) _ rfl (put5 HG.out) Try.underlying37 rfl (by kernel_rfl)) rfl ?_
    exact ⟨⟨_, HY.out, rfl⟩, below5 HB1.out (Nat.le_refl _) _ _ _ _ _⟩
  | ok ts =>
    obtain ⟨g, n, cap, rfl, own0⟩ := hout1
    obtain rfl : n = ts.length := own0.2
    rw [alloc_size] at own0
    have hlt1 : w.heap.size + 1 ≤ w1.heap.size := by have := b1.size; rw [alloc_size] at this; exact this
    have hlen := lexR_len hr1
    have HR := hidI hr1
    have hM0 : Mem ⟨ts, s.size, scr⟩ g cap (w.heap.size + 1) S0 startP w1 := mem_start own0 hlen hlt1
    have HM0 := hidI hM0
    have HG := hidI hG
    clear own0 hr1 hM0 hG
    go_wp2
    go_loopg [] (ts.length + 1) (fun k wr => ∃ (x' : PR) (S' : Sv) (q' : PS) (z' : Int), Is x' q' z' ∧ bd x' (itemsP ⟨ts, s.size, scr⟩) = itemsP ⟨ts, s.size, scr⟩ startP ∧ (z' < 0 → ts.length - q'.pos < k) ∧ Mem ⟨ts, s.size, scr⟩ g cap (w.heap.size + 1) S' q' wr ∧ Below w.heap.size w wr ∧ Bx g S' wr w1.heap.size #[.slice (some ⟨g, 0, none⟩) ts.length cap, .int .i64 q'.pos, .int .i64 s.size, .bool scr, .slice S'.rq.a q'.rq.length S'.rq.cap, .slice S'.im.a q'.im.length S'.im.cap, .slice S'.ep.a q'.ep.length S'.ep.cap, .slice S'.st.a q'.st.length S'.st.cap, .slice S'.ex.a q'.ex.length S'.ex.cap, .slice S'.la.a q'.la.length S'.la.cap, .int .i64 z', .int .i64 0] ∧ wr.heap[w.heap.size]? = some (.cells #[.slice none 0 0, .slice none 0 0, .slice none 0 0, .slice none 0 0, .slice none 0 0] 37 (0, 0)))
    case atStart => exact ⟨.ok startP, S0, startP, -1, is_ok _, rfl, fun _ => by show ts.length - 0 < ts.length + 1; omega, HM0.out.alloc _, HB1.out.alloc HB1.out.size _, Bx.new HM0.out _, (Below.heap_alloc _ _ _ (by omega)).trans HG.out⟩
    case round =>
      obtain ⟨x2, S2, q2, z2, i2, e2, l2, m2, t2, X0, G2⟩ := hrel
      have hi2 := hidI i2
      have he2 := hidI e2
      have hl2 := hidI l2
      have hm2 := hidI m2
      have ht2 := hidI t2
      have hX0 := hidI X0
      have HG2 := hidI G2
      have hpl : q2.pos ≤ ts.length := m2.inv.pos
      obtain ⟨a0, a1, a2, a3, a4, a5, a6, a7, a8, a9, a10, a11, af⟩ := X0.box
      clear i2 e2 l2 m2 t2 X0 G2
      by_cases hz : z2 < 0
      · have dz : decide (z2 < 0) = true := decide_eq_true hz
        obtain ⟨rfl, rfl⟩ := is_neg hi2.out hz
        by_cases hp : q2.pos < ts.length
        · have hlk := hl2.out hz
          go_wp2_with fail
          refine (l4Item_spec ⟨ts, s.size, scr⟩ g cap (w.heap.size + 1) S2 q2 _ hm2.out).mono ?_
          rintro e w3 ⟨S3, q3, z3, rfl, i3, m3, s3⟩
          have hm3 := hidI m3
          have hi3 := hidI i3
          have hbs : Hid (Below (w.heap.size + 1) wr w3) := s3.under hm2.out.base hm2.out.own
          have hX3 : Hid (Bx g S3 w3 w1.heap.size _) := hX0.out.stp s3
          have ht3 : Hid (Below w.heap.size w w3) := ht2.out.trans (hbs.out.mono (by omega))
          have HG3 : Hid (w3.heap[w.heap.size]? = some (.cells #[.slice none 0 0, .slice none 0 0, .slice none 0 0, .slice none 0 0, .slice none 0 0] 37 (0, 0))) := (hbs.out.block _ (by omega)).trans HG2.out
          have HE : Hid (bd (itemP ⟨ts, s.size, scr⟩ q2) (itemsP ⟨ts, s.size, scr⟩) = itemsP ⟨ts, s.size, scr⟩ startP) := by
            show _ = _
            rw [← he2.out, bd_ok, itemsP_step, if_pos hp]
          have HP : Hid (z3 < 0 → q2.pos < q3.pos) := fun h => itemP_pos (is_neg hi3.out h).1
          clear i3 m3 s3 a0 a1 a2 a3 a4 a5 a6 a7 a8 a9 a10 a11 af
          obtain ⟨a0, a1, a2, a3, a4, a5, a6, a7, a8, a9, a10, a11, af⟩ := hX3.out.box
          unfold pv
          go_wp2
          go_roundg (gk - 1)
          case rel => exact ⟨_, S3, q3, z3, hi3.out, HE.out, fun h => by have := HP.out h; omega, hm3.out.put hX3.out _ _ _ _ _ _ _ _ _ _ _ _, below12 ht3.out (by omega) _ _ _ _ _ _ _ _ _ _ _ _, hX3.out.put _ _ _ _ _ _ _ _ _ _ _ _, (set12_other (by omega) _ _ _ _ _ _ _ _ _ _ _ _).trans HG3.out⟩
          case measure => omega
        · have HD : Hid (itemsP ⟨ts, s.size, scr⟩ startP = .ok q2) := by
            show _ = _
            rw [← he2.out, bd_ok, itemsP_step, if_neg hp]
          have HY : Hid (ParseR s scr (.ok q2)) := ⟨_, HR.out, HD.out.symm⟩
          have hbw : w1.heap.size < wr.heap.size := hX0.out.lt
          have hlep := hm2.out.inv.ep
          have hown := hm2.out.own.ep
          have hbs := hm2.out.base
          rcases hm2.out.own.la.nil_or with ⟨ha, hc, hn⟩ | ⟨gl, ha⟩
          · have HN : Hid (q2.la = []) := List.eq_nil_of_length_eq_zero hn
            rw [ha, hc, hn] at a9
            obtain ⟨c0, c1, c2, c3, c4, cf⟩ := five_of HG2.out
            clear ha hc hn
            go_wp2_with (at_builtin; refine app_nil _ rfl _ _ 33 rfl 79 i0 Try.underlying33 hi (w.heap.size + 1) 4 q2.ep.length S2.ep _ (by rfl) hown (by rfl) ?_)
            clear hown
            go_wp2
            refine bodyPost_ret (results_cell_row_tmp rfl _ _ w.heap.size 37 _ (0, 0) _ rfl (put5 ((pother (by omega)).trans HG2.out)) Try.underlying37 rfl (by kernel_rfl)) rfl ?_
            refine ⟨⟨_, HY.out, S2, by simp [modV, HN.out], hm2.out.whole0 HN.out (Nat.lt_succ_self _) hX0.out.free fun k h1 h2 => ?_⟩, below5 (ht2.out.setCell (by show _ ≤ w1.heap.size; omega) _) (Nat.le_refl _) _ _ _ _ _⟩
            rw [pother h1, pother h1, pother h1, pother h1, pother h1, pother h2]
          · have hla : OwnR wr (w.heap.size + 1) 79 4 ⟨some ⟨gl, 0, none⟩, S2.la.cap⟩ q2.la.length (q2.la.flatMap epL) := by have := hm2.out.own.la; unfold OwnR at this ⊢; rw [ha] at this; exact this
            rw [ha] at a9
            go_wp2_with (at_builtin; refine app_rows _ rfl _ _ 33 rfl (w.heap.size + 1) 79 i0 _ 4 56 Try.underlying33 hi hz0 hz1 hz2 rfl (by decide) (by decide) S2.ep q2.ep.length _ (by rfl) hown gl q2.la.length S2.la.cap (w.heap.size + 1) _ (by rfl) hla (eps_one _) (by omega) hbs ?_)
            intro r' w3 hr hg hat
            have HRR := hidI hr
            have HGR := hidI hg
            have HAT := hidI hat
            have hne := fun b hb => wpos (W := wr) hm2.out.own (Nat.le_refl _) (r := S2.ep.blk) (fun k e => .inr (.inr (.inl e))) b hb
            have hX3 : Hid (w3.heap[w1.heap.size]? = _) := (hg.block _ hbw (fun e => hX0.out.free (.inr (.inr (.inl e.symm))))).trans hX0.out.heap
            have HG3 : Hid (w3.heap[w.heap.size]? = _) := (hg.block _ (by omega) (fun e => by have := (hown.typed e.symm).1; omega)).trans HG2.out
            clear a0 a1 a2 a3 a4 a5 a6 a7 a8 a9 a10 a11 af hr hg hat hne hown hla
            obtain ⟨a0, a1, a2, a3, a4, a5, a6, a7, a8, a9, a10, a11, af⟩ := box_of hX3.out
            obtain ⟨c0, c1, c2, c3, c4, cf⟩ := five_of HG3.out
            go_wp2
            refine bodyPost_ret (results_cell_row_tmp rfl _ _ w.heap.size 37 _ (0, 0) _ rfl (put5 ((pother (by omega)).trans HG3.out)) Try.underlying37 rfl (by kernel_rfl)) rfl ?_
            refine ⟨⟨_, HY.out, { S2 with ep := r' }, by simp [modV], hm2.out.whole HGR.out HRR.out HAT.out (Nat.lt_succ_self _) hbw hX0.out.free fun k h1 h2 => ?_⟩, below5 ((ht2.out.trans (Below.mono (B := w.heap.size + 1) ⟨HGR.out.os, HGR.out.tape, HGR.out.output, HGR.out.size, fun k hk => HGR.out.block k (by omega) fun e => by have := (hm2.out.own.ep.typed e.symm).1; omega⟩ (by omega))).setCell (by show _ ≤ w1.heap.size; omega) _) (Nat.le_refl _) _ _ _ _ _⟩
            rw [pother h1, pother h1, pother h1, pother h1, pother h1, pother h2]
      · have dz : decide (z2 < 0) = false := decide_eq_false hz
        obtain ⟨e0, rfl, rfl⟩ := is_bad hi2.out hz
        have dz2 : decide ((0 : Int) ≤ (e0 : Int)) = true := decide_eq_true (by omega)
        have HY : Hid (ParseR s scr (.error e0)) := ⟨_, HR.out, (show (.error e0 : PR) = itemsP ⟨ts, s.size, scr⟩ startP from he2.out)⟩
        obtain ⟨c0, c1, c2, c3, c4, cf⟩ := five_of HG2.out
        go_wp2
        go_region
        all_goals
          go_wp2
          refine bodyPost_ret (results_cell_row_tmp rfl _ _ w.heap.size 37 _ (0, 0) _ rfl (put5 HG2.out) Try.underlying37 rfl (by kernel_rfl)) rfl ?_
          exact ⟨⟨_, HY.out, rfl⟩, (below5 ht2.out (Nat.le_refl _) _ _ _ _ _).drew⟩
end Go.Proofs.Ytdbpknmoacjodaa
