/-
  What room of impl's parser answers where there is none; addExpr, addImp whole: the walks.
  What addExp of impl's parser answers: the walks.
-/
import Derived.RegionDies
import Derived.Test.YticdggnnpjachaaGreatCaImplParseEToImplParseG
namespace Go.Proofs.YticdggnnpjachaaGreat
open Go.RowKit Go.PlainAid Go.Sort

set_option maxRecDepth 100000 in
set_option maxHeartbeats 1600000 in
theorem room_no (C : Cx) (gt cap base gp : Nat) (S : Sv) (q : PS) (c m : Int) (w : World) (h : IM C gt cap base gp S q w) (hc : m ≤ c) (hp : 0 < q.pos) :
    Calls Tryz.prog 184 #[.pointer (some ⟨gp, 0, none⟩), .int .i64 c, .int .i64 m] w fun e w' => e = Pan (here C (q.pos - 1)) ∧ Below w.heap.size w w' := by
  obtain ⟨c0, c1, c2, c3, _, _, _, _, _, _, cf⟩ := box10_of h.cells
  have hd : decide (m ≤ c) = true := decide_eq_true hc
  have hglt := (ownT_lt h.mem.tok).1
  have hfew := h.mem.few
  have hpos := h.mem.inv.pos
  obtain ⟨k, hk⟩ : ∃ k, q.pos = k + 1 := ⟨q.pos - 1, by omega⟩
  have hk1 : (q.pos : Int) - 1 = (k : Int) := by omega
  have HK : Hid (q.pos - 1 = k) := by show q.pos - 1 = k; omega
  have hkl : k < C.ts.length := by omega
  have hki : (k : Int) < (C.ts.length : Int) := by omega
  have hwr : IntKind.i64.wrap (k : Int) = (k : Int) := IntWalk.i64_in _ ⟨by omega, by omega⟩
  obtain ⟨t0, t1, t2, t3⟩ := h.mem.tok.cells hkl (d := ⟨0, sNone, 0, C.fin⟩)
  change _ = some (Value.int .i64 (tokAt C k).kind) at t0
  change _ = some (Value.string (tokAt C k).text) at t1
  change _ = some (Value.int .i64 (tokAt C k).num) at t2
  change _ = some (Value.int .i64 (tokAt C k).pos) at t3
  have HP : Hid (here C k = (tokAt C k).pos) := rfl
  generalize tokAt C k = t at t0 t1 t2 t3 HP
  clear h hk hpos hp
  go_enter Tryz.func184, Tryz.ntmps184
  go_wp2
  go_region_dies
  all_goals
    refine ⟨rfl, ?_⟩
    rw [HK.out, HP.out]
    exact ⟨rfl, (Below.refl _ _).drew⟩

set_option maxRecDepth 100000 in
set_option maxHeartbeats 1600000 in
theorem addExpr_any (C : Cx) (gt cap base gp : Nat) (S : Sv) (q : PS) (x : Ex) (w : World) (h : IM C gt cap base gp S q w) (hp : 0 < q.pos) :
    Calls Tryz.prog 202 #[.pointer (some ⟨gp, 0, none⟩), exV x] w (IOut C gt cap base gp (addEx C x q) id (fun q' => .int .i64 ((q'.ex.length : Int) - 1)) S w) := by
  by_cases hn : q.ex.length < 300
  · refine (addExpr_yes C gt cap base gp S q x w h hn).mono ?_
    rintro e w1 ⟨rfl, S1, m1, s1⟩
    rw [addEx, if_neg (by omega)]
    exact ⟨by simp, S1, m1, s1⟩
  · have HH : Hid (IM C gt cap base gp S q w) := h
    have HV : Hid (addEx C x q = .error (here C (q.pos - 1))) := by show _ = _; rw [addEx, if_pos (by omega)]
    obtain ⟨c0, c1, c2, c3, c4, c5, c6, c7, c8, c9, cf⟩ := box10_of h.cells
    have hlt := h.lt
    clear h
    unfold exV
    go_enter Tryz.func202, Tryz.ntmps202
    go_wp2_with fail
    refine (room_no C gt cap base gp S q q.ex.length 300 _ (HH.out.alloc _) (by omega) hp).mono ?_
    rintro e w1 ⟨rfl, hb⟩
    have HB : Hid (Below base w w1) := (((Below.refl _ _).alloc (Nat.le_refl _) _).mono HH.out.mem.base).trans (hb.mono (HH.out.alloc _).mem.base)
    unfold Pan
    go_wp2
    refine ⟨rfl, ?_⟩
    rw [HV.out]
    exact ⟨rfl, HB.out⟩

set_option maxRecDepth 100000 in
set_option maxHeartbeats 1600000 in
theorem addImp_any (C : Cx) (gt cap base gp : Nat) (S : Sv) (q : PS) (x : Im) (w : World) (h : IM C gt cap base gp S q w) (hp : 0 < q.pos) :
    Calls Tryz.prog 196 #[.pointer (some ⟨gp, 0, none⟩), imV x] w (IOut C gt cap base gp (addIm C x q) id (fun _ => .tuple #[]) S w) := by
  by_cases hn : q.im.length < 40
  · refine (addImp_yes C gt cap base gp S q x w h hn).mono ?_
    rintro e w1 ⟨rfl, S1, m1, s1⟩
    rw [addIm, if_neg (by omega)]
    exact ⟨rfl, S1, m1, s1⟩
  · have HH : Hid (IM C gt cap base gp S q w) := h
    have HV : Hid (addIm C x q = .error (here C (q.pos - 1))) := by show _ = _; rw [addIm, if_pos (by omega)]
    obtain ⟨c0, c1, c2, c3, c4, c5, c6, c7, c8, c9, cf⟩ := box10_of h.cells
    have hlt := h.lt
    clear h
    unfold imV
    go_enter Tryz.func196, Tryz.ntmps196
    go_wp2_with fail
    refine (room_no C gt cap base gp S q q.im.length 40 _ (HH.out.alloc _) (by omega) hp).mono ?_
    rintro e w1 ⟨rfl, hb⟩
    have HB : Hid (Below base w w1) := (((Below.refl _ _).alloc (Nat.le_refl _) _).mono HH.out.mem.base).trans (hb.mono (HH.out.alloc _).mem.base)
    unfold Pan
    go_wp2
    refine ⟨rfl, ?_⟩
    rw [HV.out]
    exact ⟨rfl, HB.out⟩
end Go.Proofs.YticdggnnpjachaaGreat
namespace Go.Proofs.YticdggnnpjachaaGreat
open Go.RowKit Go.PlainAid Go.Sort

theorem world_anyI {P : Program} {code : Code} {Q : Exit → Act → World → Prop} {a : Act} {w0 : World} {R : World → Prop} (h0 : R w0) (h : ∀ W, R W → Code.wp P code Q a W) : Code.wp P code Q a w0 := h w0 h0
theorem ep_ones (x : Ep) : ∀ u ∈ epL x, u.oneCell' = true := by
  intro u hu
  simp [epL] at hu
  rcases hu with rfl | rfl | rfl | rfl <;> rfl
theorem IM.back {C : Cx} {gt cap base gp : Nat} {S S' : Sv} {q : PS} {w w' : World} (h : IM C gt cap base gp S q w) (s : IS gp S w S' w') : Below base w w' := s.under h.mem.base h.mem.own h.ge
theorem IS.grownI {gp : Nat} {S S' : Sv} {w w1 w' : World} (h : Below w.heap.size w w1) (k : IS gp S w1 S' w') : IS gp S w S' w' := (IS.below h).trans k

set_option maxRecDepth 100000 in
set_option maxHeartbeats 3200000 in
theorem addExp_yes (C : Cx) (gt cap base gp : Nat) (S : Sv) (q : PS) (x : Ep) (w : World) (h : IM C gt cap base gp S q w) (hn : q.ep.length + q.la.length < 40) (he : (x.loc.toList == [42, 100, 101, 102, 97, 117, 108, 116]) = false) :
    Calls Tryz.prog 178 #[.pointer (some ⟨gp, 0, none⟩), epV x] w fun e w' => e = .returned (.tuple #[]) ∧ ∃ S', IM C gt cap base gp S' { q with ep := q.ep ++ [x] } w' ∧ IS gp S w S' w' := by
  obtain ⟨i0, hi, hz0, hz1, hz2⟩ := info_parts Tryz.infoExp
  have HH := hidI h
  have hlt := h.lt
  have HA : Hid (IM C gt cap base gp S q (w.alloc (.cells #[.int .i64 x.kind, .string x.name, .string x.loc, .string x.spec] 102))) := h.alloc _
  have cR : ∀ d os, Calls Tryz.prog 184 #[.pointer (some ⟨gp, 0, none⟩), .int .i64 ((q.ep.length : Int) + q.la.length), .int .i64 40] (grow (redrawn (w.alloc (.cells #[.int .i64 x.kind, .string x.name, .string x.loc, .string x.spec] 102)) d) os) fun e w'' => e = .returned (.tuple #[]) ∧ ∃ p : Regrown, w'' = grow (redrawn (w.alloc (.cells #[.int .i64 x.kind, .string x.name, .string x.loc, .string x.spec] 102)) p.d) p.os :=
    fun d os => Calls.regrown_of ((room_yes gp _ 40 _ (by omega)).mono (by rintro e w' ⟨rfl, rfl⟩; exact ⟨rfl, Below.refl _ _⟩))
  obtain ⟨_, _, _, _, _, _, c6, _, _, c9, _⟩ := box10_of HA.out.cells
  have C6 := hidI c6
  have C9 := hidI c9
  have hwr : IntKind.i64.wrap ((q.ep.length : Int) + (q.la.length : Int)) = (q.ep.length : Int) + (q.la.length : Int) := IntWalk.i64_in _ ⟨by omega, by omega⟩
  clear h c6 c9
  unfold epV
  go_enter Tryz.func178, Tryz.ntmps178
  go_wp2_with fail
  have k6 := cell_regrown C6.out
  have k9 := cell_regrown C9.out
  refine wp_region_quiet_below (by kernel_rfl) (by kernel_rfl) ?_
  repeat (go_big_quiet_step (exact cR _ _))
  refine wpQuiet_nil ?_
  intro w1 hw'
  obtain ⟨⟨dq, osq⟩, hw''⟩ := hw'
  have HB1 : Hid (Below (w.alloc (.cells #[.int .i64 x.kind, .string x.name, .string x.loc, .string x.spec] 102)).heap.size (w.alloc (.cells #[.int .i64 x.kind, .string x.name, .string x.loc, .string x.spec] 102)) w1) := by show Below _ _ _; rw [hw'']; exact below_regrown _ _ _
  clear hw'' k6 k9 cR C6 C9
  have H1 : Hid (IM C gt cap base gp S q w1) := HA.out.later HB1.out
  have HG : Hid (w1.heap[w.heap.size]? = some (.cells #[.int .i64 x.kind, .string x.name, .string x.loc, .string x.spec] 102 (0, 0))) := (HB1.out.block _ (by rw [alloc_size]; omega)).trans (heap_alloc_new w _)
  have HW : Hid (Below w.heap.size w w1) := ((Below.refl _ _).alloc (Nat.le_refl _) _).trans (HB1.out.mono (by rw [alloc_size]; omega))
  obtain ⟨b0, b1, b2, b3, bf⟩ := four_of HG.out
  obtain ⟨c0, c1, c2, c3, c4, c5, c6, c7, c8, c9, cf⟩ := box10_of H1.out.cells
  have hown := fun o1 => (H1.out.mem.own.ep.drew.alloc o1)
  have hbs := H1.out.mem.base
  have hlt1 := H1.out.lt
  have HN : Hid (some gp ≠ S.ep.blk) := fun e => H1.out.free (.inr (.inr (.inl e.symm)))
  have hsz : ∀ o1, base ≤ (w1.alloc o1).heap.size := fun o1 => by rw [alloc_size]; omega
  have hgl : ∀ o1, gp < (w1.alloc o1).heap.size := fun o1 => by rw [alloc_size]; omega
  go_wp2_with fail
  go_region_law (first | (refine step_row rfl (.tmp 36) (.tmp 38) 24 rfl base 102 i0 _ 4 56 Tryz.underlying24 hi hz0 hz1 hz2 rfl (by decide) (by decide) S.ep q.ep.length (q.ep.flatMap epL) (by rfl) (by exact hown _) w1.heap.size (epL x) (by rfl) (by exact heap_alloc_new w1 _) rfl (ep_ones x) (by omega) (by exact hsz _) ?_; intro r' w2 hr hgr hat; have g2 := (hgr.block gp (by exact hgl _) HN.out).trans (by exact (H1.out.alloc _).cells); obtain ⟨d0, d1, d2, d3, d4, d5, d6, d7, d8, d9, df⟩ := box10_of g2))
  all_goals
    have HR := hidI hr
    have HGR := hidI hgr
    have HAT := hidI hat
    clear hr hgr hat g2 c0 c1 c2 c3 c4 c5 c6 c7 c8 c9 cf b0 b1 b2 b3 bf
    go_wp2
    go_end0
    obtain ⟨m', s'⟩ := H1.out.grow_ep ((Below.refl _ _).alloc (Nat.le_refl _) _).drew HGR.out HR.out HAT.out hn
    exact ⟨rfl, _, m', s'.grownI HW.out⟩

set_option maxRecDepth 100000 in
set_option maxHeartbeats 3200000 in
theorem addExp_last (C : Cx) (gt cap base gp : Nat) (S : Sv) (q : PS) (x : Ep) (w : World) (h : IM C gt cap base gp S q w) (hn : q.ep.length + q.la.length < 40) (he : (x.loc.toList == [42, 100, 101, 102, 97, 117, 108, 116]) = true) :
    Calls Tryz.prog 178 #[.pointer (some ⟨gp, 0, none⟩), epV x] w fun e w' => e = .returned (.tuple #[]) ∧ ∃ S', IM C gt cap base gp S' { q with la := q.la ++ [x] } w' ∧ IS gp S w S' w' := by
  obtain ⟨i0, hi, hz0, hz1, hz2⟩ := info_parts Tryz.infoExp
  have HH := hidI h
  have hlt := h.lt
  have HA : Hid (IM C gt cap base gp S q (w.alloc (.cells #[.int .i64 x.kind, .string x.name, .string x.loc, .string x.spec] 102))) := h.alloc _
  have cR : ∀ d os, Calls Tryz.prog 184 #[.pointer (some ⟨gp, 0, none⟩), .int .i64 ((q.ep.length : Int) + q.la.length), .int .i64 40] (grow (redrawn (w.alloc (.cells #[.int .i64 x.kind, .string x.name, .string x.loc, .string x.spec] 102)) d) os) fun e w'' => e = .returned (.tuple #[]) ∧ ∃ p : Regrown, w'' = grow (redrawn (w.alloc (.cells #[.int .i64 x.kind, .string x.name, .string x.loc, .string x.spec] 102)) p.d) p.os :=
    fun d os => Calls.regrown_of ((room_yes gp _ 40 _ (by omega)).mono (by rintro e w' ⟨rfl, rfl⟩; exact ⟨rfl, Below.refl _ _⟩))
  obtain ⟨_, _, _, _, _, _, c6, _, _, c9, _⟩ := box10_of HA.out.cells
  have C6 := hidI c6
  have C9 := hidI c9
  have hwr : IntKind.i64.wrap ((q.ep.length : Int) + (q.la.length : Int)) = (q.ep.length : Int) + (q.la.length : Int) := IntWalk.i64_in _ ⟨by omega, by omega⟩
  clear h c6 c9
  unfold epV
  go_enter Tryz.func178, Tryz.ntmps178
  go_wp2_with fail
  have k6 := cell_regrown C6.out
  have k9 := cell_regrown C9.out
  refine wp_region_quiet_below (by kernel_rfl) (by kernel_rfl) ?_
  repeat (go_big_quiet_step (exact cR _ _))
  refine wpQuiet_nil ?_
  intro w1 hw'
  obtain ⟨⟨dq, osq⟩, hw''⟩ := hw'
  have HB1 : Hid (Below (w.alloc (.cells #[.int .i64 x.kind, .string x.name, .string x.loc, .string x.spec] 102)).heap.size (w.alloc (.cells #[.int .i64 x.kind, .string x.name, .string x.loc, .string x.spec] 102)) w1) := by show Below _ _ _; rw [hw'']; exact below_regrown _ _ _
  clear hw'' k6 k9 cR C6 C9
  have H1 : Hid (IM C gt cap base gp S q w1) := HA.out.later HB1.out
  have HG : Hid (w1.heap[w.heap.size]? = some (.cells #[.int .i64 x.kind, .string x.name, .string x.loc, .string x.spec] 102 (0, 0))) := (HB1.out.block _ (by rw [alloc_size]; omega)).trans (heap_alloc_new w _)
  have HW : Hid (Below w.heap.size w w1) := ((Below.refl _ _).alloc (Nat.le_refl _) _).trans (HB1.out.mono (by rw [alloc_size]; omega))
  obtain ⟨b0, b1, b2, b3, bf⟩ := four_of HG.out
  obtain ⟨c0, c1, c2, c3, c4, c5, c6, c7, c8, c9, cf⟩ := box10_of H1.out.cells
  have hown := fun o1 => (H1.out.mem.own.la.drew.alloc o1)
  have hbs := H1.out.mem.base
  have hlt1 := H1.out.lt
  have HN : Hid (some gp ≠ S.la.blk) := fun e => H1.out.free (.inr (.inr (.inr (.inr (.inr e.symm)))))
  have hsz : ∀ o1, base ≤ (w1.alloc o1).heap.size := fun o1 => by rw [alloc_size]; omega
  have hgl : ∀ o1, gp < (w1.alloc o1).heap.size := fun o1 => by rw [alloc_size]; omega
  go_wp2_with fail
  go_region_law (first | (refine step_row rfl (.tmp 25) (.tmp 27) 24 rfl base 102 i0 _ 4 56 Tryz.underlying24 hi hz0 hz1 hz2 rfl (by decide) (by decide) S.la q.la.length (q.la.flatMap epL) (by rfl) (by exact hown _) w1.heap.size (epL x) (by rfl) (by exact heap_alloc_new w1 _) rfl (ep_ones x) (by omega) (by exact hsz _) ?_; intro r' w2 hr hgr hat; have g2 := (hgr.block gp (by exact hgl _) HN.out).trans (by exact (H1.out.alloc _).cells); obtain ⟨d0, d1, d2, d3, d4, d5, d6, d7, d8, d9, df⟩ := box10_of g2))
  all_goals
    have HR := hidI hr
    have HGR := hidI hgr
    have HAT := hidI hat
    clear hr hgr hat g2 c0 c1 c2 c3 c4 c5 c6 c7 c8 c9 cf b0 b1 b2 b3 bf
    go_wp2
    go_end0
    obtain ⟨m', s'⟩ := H1.out.grow_la ((Below.refl _ _).alloc (Nat.le_refl _) _).drew HGR.out HR.out HAT.out hn
    exact ⟨rfl, _, m', s'.grownI HW.out⟩

set_option maxRecDepth 100000 in
set_option maxHeartbeats 3200000 in
theorem addExp_no (C : Cx) (gt cap base gp : Nat) (S : Sv) (q : PS) (x : Ep) (w : World) (h : IM C gt cap base gp S q w) (hn : ¬ q.ep.length + q.la.length < 40) (hp : 0 < q.pos) :
    Calls Tryz.prog 178 #[.pointer (some ⟨gp, 0, none⟩), epV x] w fun e w' => e = Pan (here C (q.pos - 1)) ∧ Below base w w' := by
  have HH := hidI h
  have hlt := h.lt
  have hin := h.mem.inv.ep
  have HA : Hid (IM C gt cap base gp S q (w.alloc (.cells #[.int .i64 x.kind, .string x.name, .string x.loc, .string x.spec] 102))) := h.alloc _
  obtain ⟨c0, c1, c2, c3, c4, c5, c6, c7, c8, c9, cf⟩ := box10_of HA.out.cells
  have hwr : IntKind.i64.wrap ((q.ep.length : Int) + (q.la.length : Int)) = (q.ep.length : Int) + (q.la.length : Int) := IntWalk.i64_in _ ⟨by omega, by omega⟩
  clear h
  unfold epV
  go_enter Tryz.func178, Tryz.ntmps178
  go_wp2_with fail
  go_region_dies
  all_goals
    refine (room_no C gt cap base gp S q _ 40 _ HA.out.drew (by omega) hp).mono ?_
    rintro e w1 ⟨rfl, hb⟩
    have HB : Hid (Below base w w1) := (((Below.refl _ _).alloc (Nat.le_refl _) _).drew.mono HH.out.mem.base).trans (hb.mono HA.out.drew.mem.base)
    exact ⟨rfl, rfl, HB.out⟩

theorem addExp_any (C : Cx) (gt cap base gp : Nat) (S : Sv) (q : PS) (x : Ep) (w : World) (h : IM C gt cap base gp S q w) (hp : 0 < q.pos) :
    Calls Tryz.prog 178 #[.pointer (some ⟨gp, 0, none⟩), epV x] w (IOut C gt cap base gp (addEp C x q) id (fun _ => .tuple #[]) S w) := by
  by_cases hn : q.ep.length + q.la.length < 40
  · cases he : (x.loc.toList == [42, 100, 101, 102, 97, 117, 108, 116]) with
    | true =>
      refine (addExp_last C gt cap base gp S q x w h hn he).mono ?_
      rintro e w1 ⟨rfl, S1, m1, s1⟩
      rw [addEp, if_neg (by omega), if_pos he]
      exact ⟨rfl, S1, m1, s1⟩
    | false =>
      refine (addExp_yes C gt cap base gp S q x w h hn he).mono ?_
      rintro e w1 ⟨rfl, S1, m1, s1⟩
      rw [addEp, if_neg (by omega), if_neg (by rw [he]; decide)]
      exact ⟨rfl, S1, m1, s1⟩
  · refine (addExp_no C gt cap base gp S q x w h hn hp).mono ?_
    rintro e w1 ⟨rfl, hb⟩
    rw [addEp, if_pos (by omega)]
    exact ⟨rfl, hb⟩
end Go.Proofs.YticdggnnpjachaaGreat
