/-
  What passSigns of impl's parser answers: the walk.
  'append' of one element onto a row of the call's own, as one step of a region that draws its order. No program is spoken of.
  What addExpr of impl's parser answers where there is room: the walk.
  A row of impl's parser grows by one element; what addImp answers where there is room: the walk.
-/
import Derived.Test.YticdggnnpjachaaGreatCaImplParseCToImplParseD
namespace Go.Proofs.YticdggnnpjachaaGreat
open Go.RowKit Go.PlainAid Go.Sort

def signsP (C : Cx) (s : ByteArray) : Nat → Nat → PS → PR
  | 0, _, q => .ok q
  | n + 1, k, q => bd (tokP C 4 (s.extract k (k + 1)) q) (signsP C s n (k + 1))
theorem tok_fail {C : Cx} {k : Int} {x : ByteArray} {q : PS} (h : isT C q.pos k x = false) : tokP C k x q = .error (here C q.pos) := by rw [tokP, h]; rfl
theorem tok_pass {C : Cx} {k : Int} {x : ByteArray} {q : PS} (h : isT C q.pos k x = true) : tokP C k x q = .ok (adv q) := if_pos h
set_option maxRecDepth 100000 in
set_option maxHeartbeats 1600000 in
theorem passSigns_any (C : Cx) (gt cap base gp : Nat) (S : Sv) (q : PS) (s : ByteArray) (w : World) (h : IM C gt cap base gp S q w) (hs : s.size ≤ 100) :
    Calls Tryz.prog 153 #[.pointer (some ⟨gp, 0, none⟩), .string s] w (IOut C gt cap base gp (signsP C s s.size 0 q) id (fun _ => .tuple #[]) S w) := by
  have HH := hidI h
  clear h
  go_enter Tryz.func153, Tryz.ntmps153
  go_wp2
  go_loopg [7] s.size (fun k i wr => ∃ (j : Nat) (q' : PS), i = .int .i64 j ∧ j + k = s.size ∧ signsP C s k j q' = signsP C s s.size 0 q ∧ IM C gt cap base gp S q' wr ∧ IS gp S w S wr)
  case atStart => exact ⟨0, q, rfl, by omega, rfl, HH.out, IS.refl _ _ _⟩
  case round =>
    obtain ⟨j, q', rfl, hj, he, m, t⟩ := hrel
    have HE := hidI he
    have HM := hidI m
    have HS := hidI t
    clear he m t
    match gk, hj, HE with
    | 0, hj, HE =>
      have hlt : ¬ j < s.size := by omega
      go_wp2
      go_end0
      rw [← HE.out]
      exact ⟨rfl, S, HM.out, HS.out⟩
    | k + 1, hj, HE =>
      have hlt : j < s.size := by omega
      obtain ⟨j1, hj1⟩ : ∃ j1, j1 = j + 1 := ⟨_, rfl⟩
      have ej : (j : Int) + 1 = (j1 : Int) := by omega
      have hjs : j1 ≤ s.size := by omega
      have hjj : j ≤ j1 := by omega
      have HJ := hidI hj1
      clear hj1
      cases hi : isT C q'.pos 4 (s.extract j j1) with
      | true =>
        have HX : Hid (signsP C s k j1 (adv q') = signsP C s s.size 0 q) := by
          show _ = _
          rw [← HE.out, signsP, ← HJ.out, tok_pass hi]
          rfl
        go_wp2_with fail
        refine (passes_any C gt cap base gp S q' 4 (s.extract j j1) _ HM.out (by decide)).mono ?_
        rintro e w1 ⟨rfl, m1, s1⟩
        rw [hi] at m1 ⊢
        have HM1 := hidI m1
        have HS1 : Hid (IS gp S w S w1) := HS.out.trans s1
        clear m1 s1
        go_wp2
        go_roundg k
        case rel => exact ⟨j1, adv q', rfl, by have := HJ.out; omega, HX.out, HM1.out, HS1.out⟩
        case measure => omega
      | false =>
        have HX : Hid (signsP C s s.size 0 q = .error (here C q'.pos)) := by
          show _ = _
          rw [← HE.out, signsP, ← HJ.out, tok_fail hi]
          rfl
        go_wp2_with fail
        refine (passes_any C gt cap base gp S q' 4 (s.extract j j1) _ HM.out (by decide)).mono ?_
        rintro e w1 ⟨rfl, m1, s1⟩
        rw [hi] at m1 ⊢
        have HM1 := hidI m1
        have HB : Hid (Below base w w1) := (HS.out.trans s1).under HH.out.mem.base HH.out.mem.own HH.out.ge
        clear m1 s1
        go_wp2_with fail
        refine (refuse_any C gt cap base gp S q' _ HM1.out).mono ?_
        rintro e w2 ⟨rfl, hb2⟩
        have HB2 : Hid (Below base w w2) := HB.out.trans (hb2.mono HM1.out.mem.base)
        unfold Pan
        go_wp2
        refine ⟨rfl, ?_⟩
        rw [HX.out]
        exact ⟨rfl, HB2.out⟩
end Go.Proofs.YticdggnnpjachaaGreat
namespace Go.Proofs.YticdggnnpjachaaGreat
open Go.RowKit Go.PlainAid

theorem step_row {P : Program} {ops : Array Oper} {o : Oper} {a : Act} {W : World} {K : Act → World → Prop} {Q : Exit → Act → World → Prop} {E : Prop} (hgd : o.guard = none) (s x : Operand) (t : TypeId)
    (ho : o.op = .call { callee := .builtin .append, args := #[s, x], argTypes := #[t, t] })
    (base : Nat) (e : TypeId) (i : TypeInfo) (z : Value) (size bytes : Nat) (ht : P.underlying t = some (.slice e)) (hi : P.info? e = some i) (hz : i.zero = some z) (hsize : i.size = size) (hby : i.bytes = bytes) (hzs : z.cells.size = size) (hsz : 0 < size) (h100 : bytes ≤ 100)
    (r : Rw) (n : Nat) (xs : List Value) (hs : a.eval s = .slice r.a n r.cap) (hown : OwnR W base e size r n xs)
    (gx : Nat) (news : List Value) (hx : a.eval x = .slice (some ⟨gx, 0, none⟩) 1 1) (hg : W.heap[gx]? = some (.cells news.toArray e (0, 0))) (hl : news.length = size) (h1 : ∀ u ∈ news, u.oneCell' = true) (hn : n + 1 ≤ 1000000) (hbase : base ≤ W.heap.size)
    (h : ∀ r' w', OwnR w' base e size r' (n + 1) (xs ++ news) → W.grownBy w' r.blk → (r'.blk = r.blk ∨ r'.blk = some W.heap.size) → K (a.put o.dst (.slice r'.a (n + 1) r'.cap)) w') :
    if Region.wanted o (yielded ops a.tmps) = true then Oper.wp P o a W K Q else E := by
  have hw : Region.wanted o (yielded ops a.tmps) = true := by simp [Region.wanted, hgd]
  rw [if_pos hw]
  obtain ⟨v', w', hr, h2, h3, _, h5⟩ := run_append_own_at (P := P) W base t o.type e i z size bytes ht hi hz hsize hby hzs hsz _ n xs hown ⟨gx, 0, none⟩ 1 1 news (by omega) (by
    intro j u hj
    have e1 : (⟨gx, 0, none⟩ : Addr).add j = ⟨gx, j, none⟩ := by simp [Addr.add]; exact fun h => h.symm
    rw [e1]
    simp [World.cell?, hg, hj]) h1 (by unfold maxLen; omega) (by have : (n + 1) * bytes ≤ 1000000 * 100 := Nat.mul_le_mul hn h100; omega) hbase
  unfold Oper.wp execOp
  simp only [ho, resolve, invoke, builtin, Sem.run_bind, Sem.run_pure, Result.andThen_ok, List.map_toArray, List.map_cons, List.map_nil, hs, hx, hr]
  rcases h2.2 with ⟨hv, hn0⟩ | ⟨g', cap', cur, rfl, hrest⟩
  · omega
  · refine h ⟨some ⟨g', 0, none⟩, cap'⟩ w' h2 ?_ ?_
    · rw [← blk_any r n]; exact h3
    · rw [← blk_any r n, ← blk_any ⟨some ⟨g', 0, none⟩, cap'⟩ (n + 1)]; exact h5
end Go.Proofs.YticdggnnpjachaaGreat
namespace Go.Proofs.YticdggnnpjachaaGreat
open Go.RowKit Go.PlainAid Go.Sort

theorem OwnR.drew {w : World} {base size n : Nat} {e : TypeId} {r : Rw} {xs : List Value} (h : OwnR w base e size r n xs) : OwnR w.drew base e size r n xs := h
theorem ex_ones (x : Ex) : ∀ u ∈ exL x, u.oneCell' = true := by
  intro u hu
  simp [exL] at hu
  rcases hu with rfl | rfl | rfl | rfl | rfl | rfl <;> rfl
theorem IM.grow_ex {C : Cx} {gt cap base gp : Nat} {S : Sv} {q : PS} {w W w2 : World} {r' : Rw} {x : Ex} (h : IM C gt cap base gp S q w) (hW : Below w.heap.size w W) (hg : W.grownBy w2 S.ex.blk) (hr : OwnR w2 base 108 6 r' (q.ex.length + 1) (q.ex.flatMap exL ++ exL x)) (hat : r'.blk = S.ex.blk ∨ r'.blk = some W.heap.size) (hn : q.ex.length < 300) :
    IM C gt cap base gp { S with ex := r' } { q with ex := q.ex ++ [x] } (w2.setCell ⟨gp, 8, none⟩ (.slice r'.a (q.ex.length + 1) r'.cap)) ∧ IS gp S w { S with ex := r' } (w2.setCell ⟨gp, 8, none⟩ (.slice r'.a (q.ex.length + 1) r'.cap)) := by
  obtain ⟨m', s'⟩ := h.mem.grow_ex (x := x) hW hg hr hat (Off.refl _ _ _) hn
  have hfree := h.free
  have hlt := h.lt
  have hfree' : ¬ Sv.has { S with ex := r' } gp := fun g => (s'.sub gp g).elim hfree fun g' => by omega
  have hk : ∀ k, k ≠ gp → (w2.setCell ⟨gp, 8, none⟩ (.slice r'.a (q.ex.length + 1) r'.cap)).heap[k]? = w2.heap[k]? := fun k hk => Below.heap_setCell w2 ⟨gp, 8, none⟩ _ k hk
  have hsz : (w2.setCell ⟨gp, 8, none⟩ (.slice r'.a (q.ex.length + 1) r'.cap)).heap.size = w2.heap.size := by show (w2.heap.modify _ _).size = _; simp
  have hc := (s'.block gp hlt hfree).trans h.cells
  refine ⟨⟨⟨m'.own.keep fun k g => hk k fun e => hfree' (by rw [← e]; exact g), m'.inv, ownT_keep m'.tok (hk gt h.ne.symm), m'.few, by rw [hsz]; exact m'.base⟩, ?_, h.ge⟩, ?_⟩
  · rw [qcell hc]
    simp
  · exact (show IS gp S w { S with ex := r' } w2 from ⟨s'.os, s'.tape, s'.output, s'.size, fun k h1 h2 _ => s'.block k h1 h2, s'.sub⟩).set _ _
set_option maxRecDepth 100000 in
set_option maxHeartbeats 3200000 in
theorem addExpr_yes (C : Cx) (gt cap base gp : Nat) (S : Sv) (q : PS) (x : Ex) (w : World) (h : IM C gt cap base gp S q w) (hn : q.ex.length < 300) :
    Calls Tryz.prog 202 #[.pointer (some ⟨gp, 0, none⟩), exV x] w fun e w' => e = .returned (.int .i64 q.ex.length) ∧ ∃ S', IM C gt cap base gp S' { q with ex := q.ex ++ [x] } w' ∧ IS gp S w S' w' := by
  obtain ⟨i0, hi, hz0, hz1, hz2⟩ := info_parts Tryz.infoExpr
  have HH := hidI h
  have hlt := h.lt
  obtain ⟨c0, c1, c2, c3, c4, c5, c6, c7, c8, c9, cf⟩ := box10_of h.cells
  have hown := fun o1 o2 => ((HH.out.mem.own.ex.alloc o1).drew.alloc o2)
  have hbs := h.mem.base
  have hne : some gp ≠ S.ex.blk := fun e => HH.out.free (.inr (.inr (.inr (.inr (.inl e.symm)))))
  have HN := hidI hne
  have hsz : ∀ o1 o2, base ≤ ((w.alloc o1).alloc o2).heap.size := fun o1 o2 => by rw [size2]; omega
  have hgl : ∀ o1 o2, gp < ((w.alloc o1).alloc o2).heap.size := fun o1 o2 => by rw [size2]; omega
  clear h hne
  unfold exV
  go_enter Tryz.func202, Tryz.ntmps202
  go_wp2_with fail
  refine (room_yes gp q.ex.length 300 _ (by omega)).mono ?_
  rintro e w1 ⟨rfl, rfl⟩
  go_wp2_with fail
  go_region_law (first | (refine step_row rfl (.tmp 18) (.tmp 20) 26 rfl base 108 i0 _ 6 64 Tryz.underlying26 hi hz0 hz1 hz2 rfl (by decide) (by decide) S.ex q.ex.length (q.ex.flatMap exL) (by rfl) (by exact hown _ _) (w.heap.size + 1) (exL x) (by rfl) (by exact new2 w _ _) rfl (ex_ones x) (by omega) (by exact hsz _ _) ?_; intro r' w2 hr hgr hat; have g2 := (hgr.block gp (by exact hgl _ _) HN.out).trans (by exact ((HH.out.alloc _).alloc _).cells); obtain ⟨d0, d1, d2, d3, d4, d5, d6, d7, d8, d9, df⟩ := box10_of g2))
  all_goals
    have HR := hidI hr
    have HG := hidI hgr
    have HAT := hidI hat
    clear hr hgr hat g2 c0 c1 c2 c3 c4 c5 c6 c7 c8 c9 cf
    go_wp2
    go_ret
    obtain ⟨m', s'⟩ := HH.out.grow_ex (below2 w _ _).drew HG.out HR.out HAT.out hn
    exact ⟨ret_int (by omega), _, m', s'⟩
end Go.Proofs.YticdggnnpjachaaGreat
namespace Go.Proofs.YticdggnnpjachaaGreat
open Go.RowKit Go.PlainAid Go.Sort

theorem im_ones (x : Im) : ∀ u ∈ imL x, u.oneCell' = true := by
  intro u hu
  simp [imL] at hu
  rcases hu with rfl | rfl | rfl <;> rfl
theorem IM.grow_rq {C : Cx} {gt cap base gp : Nat} {S : Sv} {q : PS} {w W w2 : World} {r' : Rw} {x : ByteArray} (h : IM C gt cap base gp S q w) (hW : Below w.heap.size w W) (hg : W.grownBy w2 S.rq.blk) (hr : OwnR w2 base 9 1 r' (q.rq.length + 1) (q.rq.map .string ++ [.string x])) (hat : r'.blk = S.rq.blk ∨ r'.blk = some W.heap.size) (hn : q.rq.length < 40) :
    IM C gt cap base gp { S with rq := r' } { q with rq := q.rq ++ [x] } (w2.setCell ⟨gp, 4, none⟩ (.slice r'.a (q.rq.length + 1) r'.cap)) ∧ IS gp S w { S with rq := r' } (w2.setCell ⟨gp, 4, none⟩ (.slice r'.a (q.rq.length + 1) r'.cap)) := by
  obtain ⟨m', s'⟩ := h.mem.grow_rq (x := x) hW hg hr hat (Off.refl _ _ _) hn
  have hfree := h.free
  have hlt := h.lt
  have hfree' : ¬ Sv.has { S with rq := r' } gp := fun g => (s'.sub gp g).elim hfree fun g' => by omega
  have hk : ∀ k, k ≠ gp → (w2.setCell ⟨gp, 4, none⟩ (.slice r'.a (q.rq.length + 1) r'.cap)).heap[k]? = w2.heap[k]? := fun k hk => Below.heap_setCell w2 ⟨gp, 4, none⟩ _ k hk
  have hsz : (w2.setCell ⟨gp, 4, none⟩ (.slice r'.a (q.rq.length + 1) r'.cap)).heap.size = w2.heap.size := by show (w2.heap.modify _ _).size = _; simp
  have hc := (s'.block gp hlt hfree).trans h.cells
  refine ⟨⟨⟨m'.own.keep fun k g => hk k fun e => hfree' (by rw [← e]; exact g), m'.inv, ownT_keep m'.tok (hk gt h.ne.symm), m'.few, by rw [hsz]; exact m'.base⟩, ?_, h.ge⟩, ?_⟩
  · rw [qcell hc]
    simp
  · exact (show IS gp S w { S with rq := r' } w2 from ⟨s'.os, s'.tape, s'.output, s'.size, fun k h1 h2 _ => s'.block k h1 h2, s'.sub⟩).set _ _
theorem IM.grow_im {C : Cx} {gt cap base gp : Nat} {S : Sv} {q : PS} {w W w2 : World} {r' : Rw} {x : Im} (h : IM C gt cap base gp S q w) (hW : Below w.heap.size w W) (hg : W.grownBy w2 S.im.blk) (hr : OwnR w2 base 100 3 r' (q.im.length + 1) (q.im.flatMap imL ++ imL x)) (hat : r'.blk = S.im.blk ∨ r'.blk = some W.heap.size) (hn : q.im.length < 40) :
    IM C gt cap base gp { S with im := r' } { q with im := q.im ++ [x] } (w2.setCell ⟨gp, 5, none⟩ (.slice r'.a (q.im.length + 1) r'.cap)) ∧ IS gp S w { S with im := r' } (w2.setCell ⟨gp, 5, none⟩ (.slice r'.a (q.im.length + 1) r'.cap)) := by
  obtain ⟨m', s'⟩ := h.mem.grow_im (x := x) hW hg hr hat (Off.refl _ _ _) hn
  have hfree := h.free
  have hlt := h.lt
  have hfree' : ¬ Sv.has { S with im := r' } gp := fun g => (s'.sub gp g).elim hfree fun g' => by omega
  have hk : ∀ k, k ≠ gp → (w2.setCell ⟨gp, 5, none⟩ (.slice r'.a (q.im.length + 1) r'.cap)).heap[k]? = w2.heap[k]? := fun k hk => Below.heap_setCell w2 ⟨gp, 5, none⟩ _ k hk
  have hsz : (w2.setCell ⟨gp, 5, none⟩ (.slice r'.a (q.im.length + 1) r'.cap)).heap.size = w2.heap.size := by show (w2.heap.modify _ _).size = _; simp
  have hc := (s'.block gp hlt hfree).trans h.cells
  refine ⟨⟨⟨m'.own.keep fun k g => hk k fun e => hfree' (by rw [← e]; exact g), m'.inv, ownT_keep m'.tok (hk gt h.ne.symm), m'.few, by rw [hsz]; exact m'.base⟩, ?_, h.ge⟩, ?_⟩
  · rw [qcell hc]
    simp
  · exact (show IS gp S w { S with im := r' } w2 from ⟨s'.os, s'.tape, s'.output, s'.size, fun k h1 h2 _ => s'.block k h1 h2, s'.sub⟩).set _ _
theorem IM.grow_ep {C : Cx} {gt cap base gp : Nat} {S : Sv} {q : PS} {w W w2 : World} {r' : Rw} {x : Ep} (h : IM C gt cap base gp S q w) (hW : Below w.heap.size w W) (hg : W.grownBy w2 S.ep.blk) (hr : OwnR w2 base 102 4 r' (q.ep.length + 1) (q.ep.flatMap epL ++ epL x)) (hat : r'.blk = S.ep.blk ∨ r'.blk = some W.heap.size) (hn : q.ep.length + q.la.length < 40) :
    IM C gt cap base gp { S with ep := r' } { q with ep := q.ep ++ [x] } (w2.setCell ⟨gp, 6, none⟩ (.slice r'.a (q.ep.length + 1) r'.cap)) ∧ IS gp S w { S with ep := r' } (w2.setCell ⟨gp, 6, none⟩ (.slice r'.a (q.ep.length + 1) r'.cap)) := by
  obtain ⟨m', s'⟩ := h.mem.grow_ep (x := x) hW hg hr hat (Off.refl _ _ _) hn
  have hfree := h.free
  have hlt := h.lt
  have hfree' : ¬ Sv.has { S with ep := r' } gp := fun g => (s'.sub gp g).elim hfree fun g' => by omega
  have hk : ∀ k, k ≠ gp → (w2.setCell ⟨gp, 6, none⟩ (.slice r'.a (q.ep.length + 1) r'.cap)).heap[k]? = w2.heap[k]? := fun k hk => Below.heap_setCell w2 ⟨gp, 6, none⟩ _ k hk
  have hsz : (w2.setCell ⟨gp, 6, none⟩ (.slice r'.a (q.ep.length + 1) r'.cap)).heap.size = w2.heap.size := by show (w2.heap.modify _ _).size = _; simp
  have hc := (s'.block gp hlt hfree).trans h.cells
  refine ⟨⟨⟨m'.own.keep fun k g => hk k fun e => hfree' (by rw [← e]; exact g), m'.inv, ownT_keep m'.tok (hk gt h.ne.symm), m'.few, by rw [hsz]; exact m'.base⟩, ?_, h.ge⟩, ?_⟩
  · rw [qcell hc]
    simp
  · exact (show IS gp S w { S with ep := r' } w2 from ⟨s'.os, s'.tape, s'.output, s'.size, fun k h1 h2 _ => s'.block k h1 h2, s'.sub⟩).set _ _
theorem IM.grow_st {C : Cx} {gt cap base gp : Nat} {S : Sv} {q : PS} {w W w2 : World} {r' : Rw} {x : Sm} (h : IM C gt cap base gp S q w) (hW : Below w.heap.size w W) (hg : W.grownBy w2 S.st.blk) (hr : OwnR w2 base 106 3 r' (q.st.length + 1) (q.st.flatMap smL ++ smL x)) (hat : r'.blk = S.st.blk ∨ r'.blk = some W.heap.size) (hn : q.st.length < 80) :
    IM C gt cap base gp { S with st := r' } { q with st := q.st ++ [x] } (w2.setCell ⟨gp, 7, none⟩ (.slice r'.a (q.st.length + 1) r'.cap)) ∧ IS gp S w { S with st := r' } (w2.setCell ⟨gp, 7, none⟩ (.slice r'.a (q.st.length + 1) r'.cap)) := by
  obtain ⟨m', s'⟩ := h.mem.grow_st (x := x) hW hg hr hat (Off.refl _ _ _) hn
  have hfree := h.free
  have hlt := h.lt
  have hfree' : ¬ Sv.has { S with st := r' } gp := fun g => (s'.sub gp g).elim hfree fun g' => by omega
  have hk : ∀ k, k ≠ gp → (w2.setCell ⟨gp, 7, none⟩ (.slice r'.a (q.st.length + 1) r'.cap)).heap[k]? = w2.heap[k]? := fun k hk => Below.heap_setCell w2 ⟨gp, 7, none⟩ _ k hk
  have hsz : (w2.setCell ⟨gp, 7, none⟩ (.slice r'.a (q.st.length + 1) r'.cap)).heap.size = w2.heap.size := by show (w2.heap.modify _ _).size = _; simp
  have hc := (s'.block gp hlt hfree).trans h.cells
  refine ⟨⟨⟨m'.own.keep fun k g => hk k fun e => hfree' (by rw [← e]; exact g), m'.inv, ownT_keep m'.tok (hk gt h.ne.symm), m'.few, by rw [hsz]; exact m'.base⟩, ?_, h.ge⟩, ?_⟩
  · rw [qcell hc]
    simp
  · exact (show IS gp S w { S with st := r' } w2 from ⟨s'.os, s'.tape, s'.output, s'.size, fun k h1 h2 _ => s'.block k h1 h2, s'.sub⟩).set _ _
theorem IM.grow_la {C : Cx} {gt cap base gp : Nat} {S : Sv} {q : PS} {w W w2 : World} {r' : Rw} {x : Ep} (h : IM C gt cap base gp S q w) (hW : Below w.heap.size w W) (hg : W.grownBy w2 S.la.blk) (hr : OwnR w2 base 102 4 r' (q.la.length + 1) (q.la.flatMap epL ++ epL x)) (hat : r'.blk = S.la.blk ∨ r'.blk = some W.heap.size) (hn : q.ep.length + q.la.length < 40) :
    IM C gt cap base gp { S with la := r' } { q with la := q.la ++ [x] } (w2.setCell ⟨gp, 9, none⟩ (.slice r'.a (q.la.length + 1) r'.cap)) ∧ IS gp S w { S with la := r' } (w2.setCell ⟨gp, 9, none⟩ (.slice r'.a (q.la.length + 1) r'.cap)) := by
  obtain ⟨m', s'⟩ := h.mem.grow_la (x := x) hW hg hr hat (Off.refl _ _ _) hn
  have hfree := h.free
  have hlt := h.lt
  have hfree' : ¬ Sv.has { S with la := r' } gp := fun g => (s'.sub gp g).elim hfree fun g' => by omega
  have hk : ∀ k, k ≠ gp → (w2.setCell ⟨gp, 9, none⟩ (.slice r'.a (q.la.length + 1) r'.cap)).heap[k]? = w2.heap[k]? := fun k hk => Below.heap_setCell w2 ⟨gp, 9, none⟩ _ k hk
  have hsz : (w2.setCell ⟨gp, 9, none⟩ (.slice r'.a (q.la.length + 1) r'.cap)).heap.size = w2.heap.size := by show (w2.heap.modify _ _).size = _; simp
  have hc := (s'.block gp hlt hfree).trans h.cells
  refine ⟨⟨⟨m'.own.keep fun k g => hk k fun e => hfree' (by rw [← e]; exact g), m'.inv, ownT_keep m'.tok (hk gt h.ne.symm), m'.few, by rw [hsz]; exact m'.base⟩, ?_, h.ge⟩, ?_⟩
  · rw [qcell hc]
    simp
  · exact (show IS gp S w { S with la := r' } w2 from ⟨s'.os, s'.tape, s'.output, s'.size, fun k h1 h2 _ => s'.block k h1 h2, s'.sub⟩).set _ _
set_option maxRecDepth 100000 in
set_option maxHeartbeats 3200000 in
theorem addImp_yes (C : Cx) (gt cap base gp : Nat) (S : Sv) (q : PS) (x : Im) (w : World) (h : IM C gt cap base gp S q w) (hn : q.im.length < 40) :
    Calls Tryz.prog 196 #[.pointer (some ⟨gp, 0, none⟩), imV x] w fun e w' => e = .returned (.tuple #[]) ∧ ∃ S', IM C gt cap base gp S' { q with im := q.im ++ [x] } w' ∧ IS gp S w S' w' := by
  obtain ⟨i0, hi, hz0, hz1, hz2⟩ := info_parts Tryz.infoImp
  have HH := hidI h
  have hlt := h.lt
  obtain ⟨c0, c1, c2, c3, c4, c5, c6, c7, c8, c9, cf⟩ := box10_of h.cells
  have hown := fun o1 o2 => ((HH.out.mem.own.im.alloc o1).drew.alloc o2)
  have hbs := h.mem.base
  have hne : some gp ≠ S.im.blk := fun e => HH.out.free (.inr (.inl e.symm))
  have HN := hidI hne
  have hsz : ∀ o1 o2, base ≤ ((w.alloc o1).alloc o2).heap.size := fun o1 o2 => by rw [size2]; omega
  have hgl : ∀ o1 o2, gp < ((w.alloc o1).alloc o2).heap.size := fun o1 o2 => by rw [size2]; omega
  clear h hne
  unfold imV
  go_enter Tryz.func196, Tryz.ntmps196
  go_wp2_with fail
  refine (room_yes gp q.im.length 40 _ (by omega)).mono ?_
  rintro e w1 ⟨rfl, rfl⟩
  go_wp2_with fail
  go_region_law (first | (refine step_row rfl (.tmp 17) (.tmp 19) 23 rfl base 100 i0 _ 3 48 Tryz.underlying23 hi hz0 hz1 hz2 rfl (by decide) (by decide) S.im q.im.length (q.im.flatMap imL) (by rfl) (by exact hown _ _) (w.heap.size + 1) (imL x) (by rfl) (by exact new2 w _ _) rfl (im_ones x) (by omega) (by exact hsz _ _) ?_; intro r' w2 hr hgr hat; have g2 := (hgr.block gp (by exact hgl _ _) HN.out).trans (by exact ((HH.out.alloc _).alloc _).cells); obtain ⟨d0, d1, d2, d3, d4, d5, d6, d7, d8, d9, df⟩ := box10_of g2))
  all_goals
    have HR := hidI hr
    have HG := hidI hgr
    have HAT := hidI hat
    clear hr hgr hat g2 c0 c1 c2 c3 c4 c5 c6 c7 c8 c9 cf
    go_wp2
    go_end0
    obtain ⟨m', s'⟩ := HH.out.grow_im (below2 w _ _).drew HG.out HR.out HAT.out hn
    exact ⟨rfl, _, m', s'⟩
end Go.Proofs.YticdggnnpjachaaGreat
