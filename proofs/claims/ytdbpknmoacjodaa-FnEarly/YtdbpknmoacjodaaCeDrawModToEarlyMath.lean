/-
  What the specification's draw of a program tells: some program, nothing of it long: the walk.
  What the specification's draw for Early tells: some program, nothing of it long, and some flag: the walk.
  What the laws count of a program, as plain functions. No program is spoken of.
  Lines of a program's text, as plain functions. No program is spoken of.
  A program's text: its lines, one behind the other. No program is spoken of.
  A program that is small has a text that is small. No program is spoken of.
  A program that was drawn is small, and so is its text. No program is spoken of.
  Texts that stand twice in a list, as plain functions. No program is spoken of.
  Early errors as plain functions: what is declared, what is exported, what stands twice. No program is spoken of.
-/
import Derived.Deep.RegionWith
import Derived.Deep.RegionHeld3
import Derived.Test.YtdbpknmoacjodaaCeSpecParseR
namespace Go.Proofs.Ytdbpknmoacjodaa
open Go.RowKit Go.PlainAid Go.Sort

def MMD (S : Src) (g : Nat) (w0 : World) (b6 b7 : Nat) (W : World) : Prop := ∃ (V : Sv) (m : Md) (q : Nat × Int), MM S g w0 b6 b7 V m q W ∧ Drawn 1 m
def ModOut (S : Src) (g : Nat) (w : World) (e : Ending) (w' : World) : Prop := ∃ (V : Sv) (m : Md) (q' : Nat × Int), e = .returned (modD V m) ∧ OwnMd w' w.heap.size V m ∧ Drawn 1 m ∧ CurW 201 S w' g q' ∧ w.grownBy w' (some g)
theorem ParseOut.drawn {s : ByteArray} {scr : Bool} {w w' : World} {e : Ending} (h : ParseOut s scr w e w') (hs : s.size ≤ 20000) : ∃ (V : Sv) (m : Md) (z : Int), e = .returned (.tuple #[modD V m, .int .i64 z]) ∧ OwnMd w' w.heap.size V m ∧ Drawn 0 m := by
  obtain ⟨y, hy, hm⟩ := h
  cases y with
  | ok q =>
    obtain ⟨V, he, ho⟩ := hm
    have hb := parse_bs hy hs (by omega)
    have hi := ho.inv
    have hl : (q.ep ++ q.la).length = q.ep.length + q.la.length := List.length_append
    refine ⟨V, mdOf q, -1, he, ho.md, ⟨by show q.rq.length ≤ _; omega, hb.rq⟩, ⟨by show q.im.length ≤ _; omega, hb.im⟩, ⟨by show (q.ep ++ q.la).length ≤ _; omega, fun x hx => ?_⟩, ⟨by show q.st.length ≤ _; omega, hb.st⟩, ⟨by show q.ex.length ≤ _; omega, hb.ex⟩, parse_fair hy⟩
    rcases List.mem_append.1 (show x ∈ q.ep ++ q.la from hx) with hx | hx
    · exact hb.ep x hx
    · exact hb.la x hx
  | error p =>
    refine ⟨⟨R0, R0, R0, R0, R0, R0⟩, ⟨[], [], [], [], []⟩, p, hm, ⟨own_nil _ _ _ _, own_nil _ _ _ _, own_nil _ _ _ _, own_nil _ _ _ _, own_nil _ _ _ _⟩, ⟨Nat.zero_le _, ?_⟩, ⟨Nat.zero_le _, ?_⟩, ⟨Nat.zero_le _, ?_⟩, ⟨Nat.zero_le _, ?_⟩, ⟨Nat.zero_le _, ?_⟩, ?_⟩
    all_goals (intro x hx; cases hx)
theorem Drawn.more {k j : Nat} {m : Md} (h : Drawn k m) (hj : k ≤ j) : Drawn j m := ⟨⟨by have := h.rq.1; omega, h.rq.2⟩, ⟨by have := h.im.1; omega, h.im.2⟩, ⟨by have := h.ep.1; omega, h.ep.2⟩, ⟨by have := h.st.1; omega, h.st.2⟩, ⟨by have := h.ex.1; omega, h.ex.2⟩, h.fair⟩
theorem Try.infoS : (Try.prog.info? 9).map (fun i => (i.zero, i.size, i.bytes)) = some (some (.string { data := #[] }), 1, 16) := by kernel_rfl
theorem strD_ones (x : ByteArray) : ∀ u ∈ [Value.string x], u.oneCell' = true := fun u hu => by
  rw [List.mem_singleton] at hu
  rw [hu]
  rfl
abbrev set5m (w : World) (b : Nat) (x0 x1 x2 x3 x4 : Value) : World := ((((w.setCell ⟨b, 0, none⟩ x0).setCell ⟨b, 1, none⟩ x1).setCell ⟨b, 2, none⟩ x2).setCell ⟨b, 3, none⟩ x3).setCell ⟨b, 4, none⟩ x4
theorem set5m_other {w : World} {b k : Nat} (h : k ≠ b) (x0 x1 x2 x3 x4 : Value) : (set5m w b x0 x1 x2 x3 x4).heap[k]? = w.heap[k]? := by
  unfold set5m
  rw [pother h, pother h, pother h, pother h, pother h]
theorem set5m_size (w : World) (b : Nat) (x0 x1 x2 x3 x4 : Value) : (set5m w b x0 x1 x2 x3 x4).heap.size = w.heap.size := by
  unfold set5m
  simp only [World.size_setCell]
theorem mm_outG {S : Src} {g : Nat} {w0 W : World} {b6 b7 : Nat} {V : Sv} {m : Md} {q : Nat × Int} (h : MM S g w0 b6 b7 V m q W) (hd : Drawn 1 m) (x0 x1 x2 x3 x4 : Value) : ModOut S g w0 (.returned (modD V m)) (set5m W b6 x0 x1 x2 x3 x4) := by
  have hge := h.ge
  have hgl := h.gl
  have bl : Below 0 W (set5m W b6 x0 x1 x2 x3 x4) := (((((Below.refl 0 W).setCell (Nat.zero_le _) _).setCell (Nat.zero_le _) _).setCell (Nat.zero_le _) _).setCell (Nat.zero_le _) _).setCell (Nat.zero_le _) _
  have one : ∀ {e : TypeId} {size n : Nat} {r : Rw} {xs : List Value}, OwnR W w0.heap.size e size r n xs → e ≠ 37 → OwnR (set5m W b6 x0 x1 x2 x3 x4) w0.heap.size e size r n xs := fun hx he => hx.keep fun k hk' => set5m_other (fun e => by
    obtain ⟨_, _, cur, hc⟩ := hx.typed hk'
    rw [e, h.r6] at hc
    simp only [Option.some.injEq, Obj.cells.injEq] at hc
    exact he hc.2.1.symm) _ _ _ _ _
  refine ⟨V, m, q, rfl, ⟨one h.own.rq (by decide), one h.own.im (by decide), one h.own.ep (by decide), one h.own.st (by decide), one h.own.ex (by decide)⟩, hd, curW_kept h.cur fun k hk' => set5m_other (by omega) _ _ _ _ _, ⟨?_, ?_, ?_, ?_, fun k hk' hne => (set5m_other (by omega) _ _ _ _ _).trans (h.gr.block k hk' hne)⟩⟩
  · exact bl.os.trans h.gr.os
  · exact bl.tape.trans h.gr.tape
  · exact bl.output.trans h.gr.output
  · rw [set5m_size]
    exact h.gr.size
theorem mm_out {S : Src} {g : Nat} {w0 W : World} {b6 b7 : Nat} {V : Sv} {m : Md} {q : Nat × Int} (h : MM S g w0 b6 b7 V m q W) (hd : Drawn 1 m) : ModOut S g w0 (.returned (.agg #[.slice V.rq.a m.rq.length V.rq.cap, .slice V.im.a m.im.length V.im.cap, .slice V.ep.a m.ep.length V.ep.cap, .slice V.st.a m.st.length V.st.cap, .slice V.ex.a m.ex.length V.ex.cap])) (set5m W b6 (.slice V.rq.a m.rq.length V.rq.cap) (.slice V.im.a m.im.length V.im.cap) (.slice V.ep.a m.ep.length V.ep.cap) (.slice V.st.a m.st.length V.st.cap) (.slice V.ex.a m.ex.length V.ex.cap)) := mm_outG h hd _ _ _ _ _
set_option maxRecDepth 100000 in
set_option maxHeartbeats 12800000 in
theorem l4Mod_some (S : Src) (hS : S.ok) (g : Nat) (most : Nat) (hm : most ≤ 10) (scr : Bool) (q0 : Nat × Int) (w0 : World) (hc : CurW 201 S w0 g q0) :
    Calls Try.prog 97 #[.pointer (some ⟨g, 0, none⟩), .int .i64 (most : Int), .bool scr] w0 (ModOut S g w0) := by
  have HC0 := hidI hc
  have hgl := curW_lt hc
  clear hc
  go_enter Try.func97, Try.ntmps97
  go_wp2_with fail
  refine (l4Text_some S hS g most hm scr q0 _ (cur_alloc HC0.out _)).mono ?_
  rintro e w1 ⟨t, q1, rfl, ht, hc, hg⟩
  have HC1 := hidI hc
  have HG1 := hidI (grown_trans (grown_alloc w0 (.cells #[.slice none 0 0, .slice none 0 0, .slice none 0 0, .slice none 0 0, .slice none 0 0] 37) (some g)) hg)
  have X1 : Hid (w1.heap[w0.heap.size]? = some (.cells #[.slice none 0 0, .slice none 0 0, .slice none 0 0, .slice none 0 0, .slice none 0 0] 37 (0, 0))) := (hg.block _ (by rw [alloc_size]; omega) (by simp; omega)).trans (heap_alloc_new w0 _)
  clear hc hg
  go_wp2_with fail
  refine (parse_spec t scr w1 (by omega)).mono ?_
  rintro e w2 ⟨hpo, hb⟩
  obtain ⟨V, m, z, rfl, ho, hd⟩ := hpo.drawn ht
  have O2 := hidI ho
  have DR := hidI hd
  have HC2 := hidI (curW_below HC1.out hb (curW_lt HC1.out))
  have HG2 := hidI (grown_below HG1.out hb HG1.out.size)
  have X2 := hidI ((hb.block _ (Array.getElem?_eq_some_iff.1 X1.out).1).trans X1.out)
  have hsz := hb.size
  clear hpo ho hd hb
  unfold modD
  go_upto_region 2 with fail
  refine world_anyI (R := MM S g w0 w0.heap.size w2.heap.size V m q1) ?_ ?_
  · refine ⟨?_, heap_alloc_new w2 _, ?_, cur_alloc HC2.out _, grown_trans HG2.out (grown_alloc _ _ _), Nat.le_refl _, (Array.getElem?_eq_some_iff.1 X2.out).1, hgl⟩
    · rw [heap_alloc_old _ _ (Array.getElem?_eq_some_iff.1 X2.out).1]
      exact X2.out
    · have h1 := HG1.out.size
      have low : OwnMd w2 w0.heap.size V m := ⟨O2.out.rq.low h1, O2.out.im.low h1, O2.out.ep.low h1, O2.out.st.low h1, O2.out.ex.low h1⟩
      exact low.alloc _
  obtain ⟨b6, hb6⟩ : ∃ b, b = w0.heap.size := ⟨_, rfl⟩
  obtain ⟨b7, hb7⟩ : ∃ b, b = w2.heap.size := ⟨_, rfl⟩
  rw [← hb6, ← hb7]
  clear hb6 hb7 HC1 HG1 X1 O2 HC2 HG2 X2 hsz
  intro W1 hM
  have M1 := hidI hM
  clear hM
  go_wp2_with fail
  refine (l1Once_any S hS g _ 6 _ M1.out.cur (by omega)).mono ?_
  rintro e W2 ⟨rfl, hc, hg⟩
  obtain ⟨q2, hq⟩ : ∃ q', (bw S q1 6).2 = q' := ⟨_, rfl⟩
  rw [hq] at hc
  have M2 := hidI (M1.out.step hc hg)
  clear hc hg hq M1
  generalize ((bw S q1 6).1 == 0) = b
  go_upto_if 19 with fail
  go_cut [] from 20 to 97 (fun wx => MMD S g w0 b6 b7 wx)
  case rest =>
    obtain ⟨V', m', q', hM', hD'⟩ := hcut
    have A9 := hidI hM'
    have D9 := hidI hD'
    clear hM' hD'
    obtain ⟨c0, c1, c2, c3, c4, cf⟩ := five_of A9.out.r7
    obtain ⟨d0, d1, d2, d3, d4, df⟩ := five_of A9.out.r6
    go_wp2
    refine bodyPost_ret (results_cell_row rfl _ _ b6 37 _ (0, 0) _ rfl (put5 A9.out.r6) Try.underlying37 rfl (by kernel_rfl)) rfl ?_
    exact mm_out A9.out D9.out
  cases b with
  | false =>
    go_wp2_with fail
    go_meet
    exact ⟨_, _, _, M2.out, DR.out.more (by omega)⟩
  | true =>
    go_wp2_with fail
    refine (l1Below_any S hS g _ 6 _ M2.out.cur (by omega)).mono ?_
    rintro e W3 ⟨rfl, hc, hg⟩
    have hbd := bw_bd S q2 6 (by omega)
    obtain ⟨k3, hk⟩ : ∃ k : Nat, (bw S q2 6).1 = k := ⟨(bw S q2 6).1.toNat, by omega⟩
    obtain ⟨q3, hq⟩ : ∃ q', (bw S q2 6).2 = q' := ⟨_, rfl⟩
    rw [hk] at hbd ⊢
    rw [hq] at hc
    have M3 := hidI (M2.out.step hc hg)
    have kb : k3 < 6 := by omega
    clear hc hg hbd hk hq M2
    obtain ⟨c0, c1, c2, c3, c4, cf⟩ := five_of M3.out.r7
    have hl7 := (Array.getElem?_eq_some_iff.1 M3.out.r7).1
    rcases (show k3 = 0 ∨ k3 = 1 ∨ k3 = 2 ∨ k3 = 3 ∨ k3 = 4 ∨ k3 = 5 by omega) with rfl | rfl | rfl | rfl | rfl | rfl
    · obtain ⟨i0, hi, hz0, hz1, hz2⟩ := info_parts Try.infoS
      go_wp2_with fail
      go_region_law (first | (refine step_row rfl (.tmp 40) (.tmp 44) 22 rfl w0.heap.size 9 i0 _ 1 16 Try.underlying22 hi hz0 hz1 hz2 rfl (by decide) (by decide) V.rq m.rq.length (m.rq.map Value.string) (by rfl) (by exact (M4.out.alloc _).own.rq) _ ([Value.string x4]) (by rfl) (by exact heap_alloc_new _ _) rfl (strD_ones x4) (by have := DR.out.rq.1; omega) (by exact (M4.out.alloc _).gr.size) ?_; intro r' W9 hr9 hg9 hat9; have A9 := hidI ((M4.out.alloc _).app_rq (x := x4) hr9 hg9); have F9 := hidI ((M4.out.alloc _).far_rq hg9); clear hr9 hg9 hat9; obtain ⟨u0, u1, u2, u3, u4, uf⟩ := five_of F9.out; have hl9 := (Array.getElem?_eq_some_iff.1 F9.out).1) | ((try go_simp); go_wp2_with (first | (go_at_call 151; refine (pick_drew S hS g _ 100 [{ data := #[120] }, { data := #[34] }, { data := #[122, 122] }] _ M3.out.cur (by simp) (by simp) (by intro x hx; simp only [List.mem_cons, List.not_mem_nil, or_false] at hx; rcases hx with rfl | rfl | rfl <;> decide)).mono ?_; rintro e W4 ⟨x4, q4, rfl, z4, hc4, hg4⟩; have M4 := hidI (M3.out.step hc4 hg4); clear hc4 hg4; obtain ⟨y0, y1, y2, y3, y4, yf⟩ := five_of M4.out.r7; have hl4 := (Array.getElem?_eq_some_iff.1 M4.out.r7).1))))
      all_goals
        have D9 : Hid (Drawn 1 { m with rq := m.rq ++ [x4] }) := ⟨⟨by have := DR.out.rq.1; simp; omega, mem_more DR.out.rq.2 (by omega)⟩, (DR.out.more (Nat.zero_le 1)).im, (DR.out.more (Nat.zero_le 1)).ep, (DR.out.more (Nat.zero_le 1)).st, (DR.out.more (Nat.zero_le 1)).ex, DR.out.fair⟩
        clear c0 c1 c2 c3 c4 cf y0 y1 y2 y3 y4 yf u0 u1 u2 u3 u4 uf F9
        go_wp2_with fail
        go_meet
        exact ⟨_, _, _, A9.out, D9.out⟩
    · obtain ⟨i0, hi, hz0, hz1, hz2⟩ := info_parts Try.infoImp
      go_wp2_with fail
      go_region_law (first | (refine step_row rfl (.tmp 50) (.tmp 55) 32 rfl w0.heap.size 154 i0 _ 3 48 Try.underlying32 hi hz0 hz1 hz2 rfl (by decide) (by decide) V.im m.im.length (m.im.flatMap imL) (by rfl) (by exact (M4.out.alloc _).own.im) _ (imL (⟨({ data := #[120] } : ByteArray), ({ data := #[97] } : ByteArray), x4⟩ : Im)) (by rfl) (by exact heap_alloc_new _ _) rfl (im_ones _) (by have := DR.out.im.1; omega) (by exact (M4.out.alloc _).gr.size) ?_; intro r' W9 hr9 hg9 hat9; have A9 := hidI ((M4.out.alloc _).app_im (x := (⟨({ data := #[120] } : ByteArray), ({ data := #[97] } : ByteArray), x4⟩ : Im)) hr9 hg9); have F9 := hidI ((M4.out.alloc _).far_im hg9); clear hr9 hg9 hat9; obtain ⟨u0, u1, u2, u3, u4, uf⟩ := five_of F9.out; have hl9 := (Array.getElem?_eq_some_iff.1 F9.out).1) | ((try go_simp); go_wp2_with (first | (go_at_call 151; refine (pick_drew S hS g _ 100 [{ data := #[113] }, { data := #[108, 101, 116] }, { data := #[] }] _ M3.out.cur (by simp) (by simp) (by intro x hx; simp only [List.mem_cons, List.not_mem_nil, or_false] at hx; rcases hx with rfl | rfl | rfl <;> decide)).mono ?_; rintro e W4 ⟨x4, q4, rfl, z4, hc4, hg4⟩; have M4 := hidI (M3.out.step hc4 hg4); clear hc4 hg4; obtain ⟨y0, y1, y2, y3, y4, yf⟩ := five_of M4.out.r7; have hl4 := (Array.getElem?_eq_some_iff.1 M4.out.r7).1))))
      all_goals
        have D9 : Hid (Drawn 1 { m with im := m.im ++ [(⟨({ data := #[120] } : ByteArray), ({ data := #[97] } : ByteArray), x4⟩ : Im)] }) := ⟨(DR.out.more (Nat.zero_le 1)).rq, ⟨by have := DR.out.im.1; simp; omega, mem_more DR.out.im.2 ⟨by show 1 ≤ _; omega, by show 1 ≤ _; omega, by show x4.size ≤ _; omega⟩⟩, (DR.out.more (Nat.zero_le 1)).ep, (DR.out.more (Nat.zero_le 1)).st, (DR.out.more (Nat.zero_le 1)).ex, DR.out.fair⟩
        clear c0 c1 c2 c3 c4 cf y0 y1 y2 y3 y4 yf u0 u1 u2 u3 u4 uf F9
        go_wp2_with fail
        go_meet
        exact ⟨_, _, _, A9.out, D9.out⟩
    · obtain ⟨i0, hi, hz0, hz1, hz2⟩ := info_parts Try.infoExp
      go_wp2_with fail
      go_region_law (first | (refine step_row rfl (.tmp 61) (.tmp 68) 33 rfl w0.heap.size 79 i0 _ 4 56 Try.underlying33 hi hz0 hz1 hz2 rfl (by decide) (by decide) V.ep m.ep.length (m.ep.flatMap epL) (by rfl) (by exact (M5.out.alloc _).own.ep) _ (epL (⟨(k4 : Int), ({ data := #[113] } : ByteArray), ({ data := #[113] } : ByteArray), x5⟩ : Ep)) (by rfl) (by exact heap_alloc_new _ _) rfl (ep_ones _) (by have := DR.out.ep.1; omega) (by exact (M5.out.alloc _).gr.size) ?_; intro r' W9 hr9 hg9 hat9; have A9 := hidI ((M5.out.alloc _).app_ep (x := (⟨(k4 : Int), ({ data := #[113] } : ByteArray), ({ data := #[113] } : ByteArray), x5⟩ : Ep)) hr9 hg9); have F9 := hidI ((M5.out.alloc _).far_ep hg9); clear hr9 hg9 hat9; obtain ⟨u0, u1, u2, u3, u4, uf⟩ := five_of F9.out; have hl9 := (Array.getElem?_eq_some_iff.1 F9.out).1) | ((try go_simp); go_wp2_with (first | (go_at_call 151; refine (pick_old S hS g W3.heap.size _ 100 [{ data := #[] }, { data := #[120] }] _ M4.out.cur K4.out (by have := M3.out.gl; have := M3.out.gr.size; omega) (by simp) (by simp) (by intro x hx; simp only [List.mem_cons, List.not_mem_nil, or_false] at hx; rcases hx with rfl | rfl <;> decide)).mono ?_; rintro e W5 ⟨x5, q5, rfl, z5, hc5, hg5⟩; have M5 := hidI (M4.out.step hc5 hg5); clear hc5 hg5; obtain ⟨y0, y1, y2, y3, y4, yf⟩ := five_of M5.out.r7; have hl5 := (Array.getElem?_eq_some_iff.1 M5.out.r7).1) | (go_at_call 151; refine (pick_new S hS g _ 100 [{ data := #[] }, { data := #[120] }] _ M4.out.cur (by simp) (by simp) (by intro x hx; simp only [List.mem_cons, List.not_mem_nil, or_false] at hx; rcases hx with rfl | rfl <;> decide)).mono ?_; rintro e W5 ⟨x5, q5, rfl, z5, hc5, hg5⟩; have M5 := hidI (M4.out.step hc5 hg5); clear hc5 hg5; obtain ⟨y0, y1, y2, y3, y4, yf⟩ := five_of M5.out.r7; have hl5 := (Array.getElem?_eq_some_iff.1 M5.out.r7).1) | (go_at_call 146; refine (l1Below_any S hS g _ 5 _ M3.out.drew.cur (by omega)).mono ?_; rintro e W4 ⟨rfl, hc4, hg4⟩; have hbd4 := bw_bd S q3 5 (by omega); obtain ⟨k4, hk4⟩ : ∃ k : Nat, (bw S q3 5).1 = k := ⟨(bw S q3 5).1.toNat, by omega⟩; obtain ⟨q4, hq4⟩ : ∃ q', (bw S q3 5).2 = q' := ⟨_, rfl⟩; rw [hk4] at hbd4 ⊢; rw [hq4] at hc4; have M4 := hidI (M3.out.drew.step hc4 hg4); clear hc4 hg4 hk4 hq4; obtain ⟨y0, y1, y2, y3, y4, yf⟩ := five_of M4.out.r7; have hl4 := (Array.getElem?_eq_some_iff.1 M4.out.r7).1) | (go_at_call 146; refine (l1Below_any S hS g _ 5 _ (M3.out.alloc _).drew.cur (by omega)).mono ?_; rintro e W4 ⟨rfl, hc4, hg4⟩; have hbd4 := bw_bd S q3 5 (by omega); obtain ⟨k4, hk4⟩ : ∃ k : Nat, (bw S q3 5).1 = k := ⟨(bw S q3 5).1.toNat, by omega⟩; obtain ⟨q4, hq4⟩ : ∃ q', (bw S q3 5).2 = q' := ⟨_, rfl⟩; rw [hk4] at hbd4 ⊢; rw [hq4] at hc4; have M4 := hidI ((M3.out.alloc _).drew.step hc4 hg4); have K4 := hidI ((hg4.block W3.heap.size (by show W3.heap.size < (W3.alloc _).heap.size; rw [alloc_size]; omega) (by have := M3.out.gl; have := M3.out.gr.size; simp; omega)).trans (heap_alloc_new W3 _)); clear hc4 hg4 hk4 hq4; obtain ⟨y0, y1, y2, y3, y4, yf⟩ := five_of M4.out.r7; have hl4 := (Array.getElem?_eq_some_iff.1 M4.out.r7).1))))
      all_goals
        have D9 : Hid (Drawn 1 { m with ep := m.ep ++ [(⟨(k4 : Int), ({ data := #[113] } : ByteArray), ({ data := #[113] } : ByteArray), x5⟩ : Ep)] }) := ⟨(DR.out.more (Nat.zero_le 1)).rq, (DR.out.more (Nat.zero_le 1)).im, ⟨by have := DR.out.ep.1; simp; omega, mem_more DR.out.ep.2 ⟨by show 1 ≤ _; omega, by show 1 ≤ _; omega, by show x5.size ≤ _; omega⟩⟩, (DR.out.more (Nat.zero_le 1)).st, (DR.out.more (Nat.zero_le 1)).ex, DR.out.fair⟩
        clear c0 c1 c2 c3 c4 cf y0 y1 y2 y3 y4 yf u0 u1 u2 u3 u4 uf F9
        go_wp2_with fail
        go_meet
        exact ⟨_, _, _, A9.out, D9.out⟩
    · obtain ⟨i0, hi, hz0, hz1, hz2⟩ := info_parts Try.infoStmt
      go_wp2_with fail
      go_region_law (first | (refine step_row rfl (.tmp 74) (.tmp 81) 34 rfl w0.heap.size 159 i0 _ 3 32 Try.underlying34 hi hz0 hz1 hz2 rfl (by decide) (by decide) V.st m.st.length (m.st.flatMap smL) (by rfl) (by exact (M5.out.alloc _).own.st) _ (smL (⟨(k4 : Int), ({ data := #[113] } : ByteArray), IntKind.i64.wrap ((k5 : Int) - 1)⟩ : Sm)) (by rfl) (by exact heap_alloc_new _ _) rfl (sm_ones _) (by have := DR.out.st.1; omega) (by exact (M5.out.alloc _).gr.size) ?_; intro r' W9 hr9 hg9 hat9; have A9 := hidI ((M5.out.alloc _).app_st (x := (⟨(k4 : Int), ({ data := #[113] } : ByteArray), IntKind.i64.wrap ((k5 : Int) - 1)⟩ : Sm)) hr9 hg9); have F9 := hidI ((M5.out.alloc _).far_st hg9); clear hr9 hg9 hat9; obtain ⟨u0, u1, u2, u3, u4, uf⟩ := five_of F9.out; have hl9 := (Array.getElem?_eq_some_iff.1 F9.out).1) | ((try go_simp); go_wp2_with (first | (go_at_call 146; refine (l1Below_any S hS g _ 5 _ M4.out.cur (by omega)).mono ?_; rintro e W5 ⟨rfl, hc5, hg5⟩; have hbd5 := bw_bd S q4 5 (by omega); obtain ⟨k5, hk5⟩ : ∃ k : Nat, (bw S q4 5).1 = k := ⟨(bw S q4 5).1.toNat, by omega⟩; obtain ⟨q5, hq5⟩ : ∃ q', (bw S q4 5).2 = q' := ⟨_, rfl⟩; rw [hk5] at hbd5 ⊢; rw [hq5] at hc5; have M5 := hidI (M4.out.step hc5 hg5); clear hc5 hg5 hk5 hq5; obtain ⟨y0, y1, y2, y3, y4, yf⟩ := five_of M5.out.r7; have hl5 := (Array.getElem?_eq_some_iff.1 M5.out.r7).1) | (go_at_call 146; refine (l1Below_any S hS g _ 8 _ M3.out.drew.cur (by omega)).mono ?_; rintro e W4 ⟨rfl, hc4, hg4⟩; have hbd4 := bw_bd S q3 8 (by omega); obtain ⟨k4, hk4⟩ : ∃ k : Nat, (bw S q3 8).1 = k := ⟨(bw S q3 8).1.toNat, by omega⟩; obtain ⟨q4, hq4⟩ : ∃ q', (bw S q3 8).2 = q' := ⟨_, rfl⟩; rw [hk4] at hbd4 ⊢; rw [hq4] at hc4; have M4 := hidI (M3.out.drew.step hc4 hg4); clear hc4 hg4 hk4 hq4; obtain ⟨y0, y1, y2, y3, y4, yf⟩ := five_of M4.out.r7; have hl4 := (Array.getElem?_eq_some_iff.1 M4.out.r7).1))))
      all_goals
        have D9 : Hid (Drawn 1 { m with st := m.st ++ [(⟨(k4 : Int), ({ data := #[113] } : ByteArray), IntKind.i64.wrap ((k5 : Int) - 1)⟩ : Sm)] }) := ⟨(DR.out.more (Nat.zero_le 1)).rq, (DR.out.more (Nat.zero_le 1)).im, (DR.out.more (Nat.zero_le 1)).ep, ⟨by have := DR.out.st.1; simp; omega, mem_more DR.out.st.2 (by show 1 ≤ _; omega)⟩, (DR.out.more (Nat.zero_le 1)).ex, fair_more DR.out.fair q_not⟩
        clear c0 c1 c2 c3 c4 cf y0 y1 y2 y3 y4 yf u0 u1 u2 u3 u4 uf F9
        go_wp2_with fail
        go_meet
        exact ⟨_, _, _, A9.out, D9.out⟩
    · obtain ⟨i0, hi, hz0, hz1, hz2⟩ := info_parts Try.infoExpr
      go_wp2_with fail
      go_region_law (first | (refine step_row rfl (.tmp 87) (.tmp 95) 35 rfl w0.heap.size 96 i0 _ 6 64 Try.underlying35 hi hz0 hz1 hz2 rfl (by decide) (by decide) V.ex m.ex.length (m.ex.flatMap exL) (by rfl) (by exact (M6.out.alloc _).own.ex) _ (exL (⟨(k4 : Int), 0, sNone, sNone, (k5 : Int), (k6 : Int)⟩ : Ex)) (by rfl) (by exact heap_alloc_new _ _) rfl (ex_ones _) (by have := DR.out.ex.1; omega) (by exact (M6.out.alloc _).gr.size) ?_; intro r' W9 hr9 hg9 hat9; have A9 := hidI ((M6.out.alloc _).app_ex (x := (⟨(k4 : Int), 0, sNone, sNone, (k5 : Int), (k6 : Int)⟩ : Ex)) hr9 hg9); have F9 := hidI ((M6.out.alloc _).far_ex hg9); clear hr9 hg9 hat9; obtain ⟨u0, u1, u2, u3, u4, uf⟩ := five_of F9.out; have hl9 := (Array.getElem?_eq_some_iff.1 F9.out).1) | ((try go_simp); go_wp2_with (first | (go_at_call 146; refine (l1Below_any S hS g _ 3 _ M5.out.cur (by omega)).mono ?_; rintro e W6 ⟨rfl, hc6, hg6⟩; have hbd6 := bw_bd S q5 3 (by omega); obtain ⟨k6, hk6⟩ : ∃ k : Nat, (bw S q5 3).1 = k := ⟨(bw S q5 3).1.toNat, by omega⟩; obtain ⟨q6, hq6⟩ : ∃ q', (bw S q5 3).2 = q' := ⟨_, rfl⟩; rw [hk6] at hbd6 ⊢; rw [hq6] at hc6; have M6 := hidI (M5.out.step hc6 hg6); clear hc6 hg6 hk6 hq6; obtain ⟨y0, y1, y2, y3, y4, yf⟩ := five_of M6.out.r7; have hl6 := (Array.getElem?_eq_some_iff.1 M6.out.r7).1) | (go_at_call 146; refine (l1Below_any S hS g _ 3 _ M4.out.cur (by omega)).mono ?_; rintro e W5 ⟨rfl, hc5, hg5⟩; have hbd5 := bw_bd S q4 3 (by omega); obtain ⟨k5, hk5⟩ : ∃ k : Nat, (bw S q4 3).1 = k := ⟨(bw S q4 3).1.toNat, by omega⟩; obtain ⟨q5, hq5⟩ : ∃ q', (bw S q4 3).2 = q' := ⟨_, rfl⟩; rw [hk5] at hbd5 ⊢; rw [hq5] at hc5; have M5 := hidI (M4.out.step hc5 hg5); clear hc5 hg5 hk5 hq5; obtain ⟨y0, y1, y2, y3, y4, yf⟩ := five_of M5.out.r7; have hl5 := (Array.getElem?_eq_some_iff.1 M5.out.r7).1) | (go_at_call 146; refine (l1Below_any S hS g _ 9 _ M3.out.drew.cur (by omega)).mono ?_; rintro e W4 ⟨rfl, hc4, hg4⟩; have hbd4 := bw_bd S q3 9 (by omega); obtain ⟨k4, hk4⟩ : ∃ k : Nat, (bw S q3 9).1 = k := ⟨(bw S q3 9).1.toNat, by omega⟩; obtain ⟨q4, hq4⟩ : ∃ q', (bw S q3 9).2 = q' := ⟨_, rfl⟩; rw [hk4] at hbd4 ⊢; rw [hq4] at hc4; have M4 := hidI (M3.out.drew.step hc4 hg4); clear hc4 hg4 hk4 hq4; obtain ⟨y0, y1, y2, y3, y4, yf⟩ := five_of M4.out.r7; have hl4 := (Array.getElem?_eq_some_iff.1 M4.out.r7).1))))
      all_goals
        have D9 : Hid (Drawn 1 { m with ex := m.ex ++ [(⟨(k4 : Int), 0, sNone, sNone, (k5 : Int), (k6 : Int)⟩ : Ex)] }) := ⟨(DR.out.more (Nat.zero_le 1)).rq, (DR.out.more (Nat.zero_le 1)).im, (DR.out.more (Nat.zero_le 1)).ep, (DR.out.more (Nat.zero_le 1)).st, ⟨by have := DR.out.ex.1; simp; omega, mem_more DR.out.ex.2 ⟨Nat.zero_le _, Nat.zero_le _, by simp, by simp⟩⟩, DR.out.fair⟩
        clear c0 c1 c2 c3 c4 cf y0 y1 y2 y3 y4 yf u0 u1 u2 u3 u4 uf F9
        go_wp2_with fail
        go_meet
        exact ⟨_, _, _, A9.out, D9.out⟩
    · by_cases hlen : 0 < m.ex.length
      case neg =>
        have hli : ¬ 0 < (m.ex.length : Int) := by omega
        go_wp2_with fail
        go_meet
        exact ⟨_, _, _, M3.out, DR.out.more (by omega)⟩
      have hli : 0 < (m.ex.length : Int) := by omega
      have hle := DR.out.ex.1
      obtain ⟨ge, hga, _⟩ := M3.out.own.expr hlen
      have GA := hidI hga
      rw [hga] at c4
      clear hga
      go_wp2_with fail
      go_region_held3 (fun W => W.cell? ⟨b7, 4, none⟩ = some (.slice (some ⟨ge, 0, none⟩) m.ex.length V.ex.cap)) (first | exact c4 | exact y4 | exact z4 | go_keep) (first | (go_at_call 146; refine (l1Below_any S hS g _ 4 _ M4.out.cur (by omega)).mono ?_; rintro e W5 ⟨rfl, hc5, hg5⟩; have hbd5 := bw_bd S q4 4 (by omega); obtain ⟨k5, hk5⟩ : ∃ k : Nat, (bw S q4 4).1 = k := ⟨(bw S q4 4).1.toNat, by omega⟩; obtain ⟨q5, hq5⟩ : ∃ q', (bw S q4 4).2 = q' := ⟨_, rfl⟩; rw [hk5] at hbd5 ⊢; rw [hq5] at hc5; have M5 := hidI (M4.out.step hc5 hg5); clear hc5 hg5 hk5 hq5; clear y0 y1 y2 y3 y4 yf; obtain ⟨y0, y1, y2, y3, y4, yf⟩ := five_of M5.out.r7; rw [GA.out] at y4; have kl : k4 < m.ex.length := Int.ofNat_lt.1 hbd4.2; have kli : (k4 : Int) < (m.ex.length : Int) := hbd4.2; obtain ⟨s0, sf⟩ := M5.out.spot kl GA.out; have hl5 := (Array.getElem?_eq_some_iff.1 M5.out.r7).1; obtain ⟨x, hx⟩ : ∃ x, m.ex[k4]? = some x := ⟨_, List.getElem?_eq_getElem kl⟩; have A9 := hidI (M5.out.num hx GA.out (k5 : Int)); obtain ⟨_, _, _, _, z4, _⟩ := five_of A9.out.r7; rw [GA.out, List.length_set] at z4) | (go_at_call 146; refine (l1Below_any S hS g _ (m.ex.length : Int) _ M3.out.drew.cur (by omega)).mono ?_; rintro e W4 ⟨rfl, hc4, hg4⟩; have hbd4 := bw_bd S q3 (m.ex.length : Int) (by omega); obtain ⟨k4, hk4⟩ : ∃ k : Nat, (bw S q3 (m.ex.length : Int)).1 = k := ⟨(bw S q3 (m.ex.length : Int)).1.toNat, by omega⟩; obtain ⟨q4, hq4⟩ : ∃ q', (bw S q3 (m.ex.length : Int)).2 = q' := ⟨_, rfl⟩; rw [hk4] at hbd4 ⊢; rw [hq4] at hc4; have M4 := hidI (M3.out.drew.step hc4 hg4); clear hc4 hg4 hk4 hq4; obtain ⟨y0, y1, y2, y3, y4, yf⟩ := five_of M4.out.r7; rw [GA.out] at y4; have hl4 := (Array.getElem?_eq_some_iff.1 M4.out.r7).1))
      all_goals
        have D9 : Hid (Drawn 1 { m with ex := m.ex.set k4 { x with num := (k5 : Int) } }) := ⟨(DR.out.more (Nat.zero_le 1)).rq, (DR.out.more (Nat.zero_le 1)).im, (DR.out.more (Nat.zero_le 1)).ep, (DR.out.more (Nat.zero_le 1)).st, ⟨by show (m.ex.set k4 _).length ≤ _; rw [List.length_set]; omega, set_more DR.out.ex.2 (by have := DR.out.ex.2 x (List.mem_of_getElem? hx); exact ⟨this.1, this.2.1, by show 0 ≤ (k5 : Int); omega, by show (k5 : Int) ≤ _; omega⟩)⟩, DR.out.fair⟩
        clear c0 c1 c2 c3 c4 cf y0 y1 y2 y3 y4 yf s0 sf
        go_wp2_with fail
        go_meet
        exact ⟨_, _, _, A9.out, D9.out⟩
end Go.Proofs.Ytdbpknmoacjodaa
namespace Go.Proofs.Ytdbpknmoacjodaa
open Go.RowKit Go.PlainAid Go.Sort

def DrawnOut (w : World) (e : Ending) (w' : World) : Prop := ∃ (V : Sv) (m : Md) (scr : Bool), e = .returned (.tuple #[modD V m, .bool scr]) ∧ OwnMd w' w.heap.size V m ∧ Drawn 1 m ∧ Below w.heap.size w w'
theorem below_of_grown {w W W' : World} {g : Nat} (h : Below w.heap.size w W) (k : W.grownBy W' (some g)) (hg : w.heap.size ≤ g) : Below w.heap.size w W' := below_grown h k hg h.size
set_option maxRecDepth 100000 in
set_option maxHeartbeats 6400000 in
theorem drawEarly_some (S : Src) (hS : S.ok) (w : World) (hc : CodeW S w) (hl : S.lim ≤ w.heap.size) (hlen : S.len ≤ 1048576) :
    Calls Try.prog 39 #[.slice S.a S.len S.cap] w (DrawnOut w) := by
  have HA : Hid (Below w.heap.size w (w.alloc (.cells #[.slice none 0 0, .slice none 0 0, .slice none 0 0, .slice none 0 0, .slice none 0 0] 37))) := (Below.refl _ _).alloc (Nat.le_refl _) _
  have HC : Hid (CodeW S (w.alloc (.cells #[.slice none 0 0, .slice none 0 0, .slice none 0 0, .slice none 0 0, .slice none 0 0] 37))) := codeW_below hc HA.out hl
  clear hc
  go_enter Try.func39, Try.ntmps39
  go_upto_region 1 with fail
  refine world_anyI (R := fun W => W.heap[w.heap.size]? = some (.cells #[.slice none 0 0, .slice none 0 0, .slice none 0 0, .slice none 0 0, .slice none 0 0] 37 (0, 0)) ∧ CodeW S W ∧ Below w.heap.size w W ∧ w.heap.size < W.heap.size) ⟨heap_alloc_new w _, HC.out, HA.out, by rw [alloc_size]; omega⟩ ?_
  obtain ⟨b, hb⟩ : ∃ b, b = w.heap.size := ⟨_, rfl⟩
  rw [← hb]
  rintro w1 ⟨hx, hcw, hbe, hlt⟩
  clear HA HC
  have X1 := hidI hx
  have C1 := hidI hcw
  rw [hb] at hbe hlt
  have B1 := hidI hbe
  clear hx hcw hbe
  go_wp2_with fail
  refine (l1New_any S hS w1 C1.out (by omega)).mono ?_
  rintro e w2 ⟨rfl, hc, hbe⟩
  obtain ⟨g, hg⟩ : ∃ g, g = w1.heap.size := ⟨_, rfl⟩
  rw [← hg] at hc ⊢
  have HC2 := hidI hc
  have B2 := hidI (B1.out.trans (hbe.mono (Nat.le_of_lt hlt)))
  have X2 := hidI ((hbe.block _ (Array.getElem?_eq_some_iff.1 X1.out).1).trans X1.out)
  have hgw : w.heap.size ≤ g := by omega
  have hbg : b < g := by omega
  have HBB := hidI hb
  clear hc hbe C1 X1 B1 hg hb
  go_wp2_with fail
  refine (l1Once_any S hS g _ 4 _ HC2.out (by omega)).mono ?_
  rintro e w3 ⟨rfl, hc, hgr⟩
  obtain ⟨q3, hq⟩ : ∃ q', (bw S (start S) 4).2 = q' := ⟨_, rfl⟩
  rw [hq] at hc
  have HC3 := hidI hc
  have B3 := hidI (below_of_grown B2.out hgr hgw)
  have X3 := hidI ((hgr.block _ (Array.getElem?_eq_some_iff.1 X2.out).1 (by simp; omega)).trans X2.out)
  clear hc hgr hq HC2 B2 X2
  generalize ((bw S (start S) 4).1 == 0) = scr
  go_wp2_with fail
  refine (l1Size_some S (by omega) 8 (by omega) (by omega) _).mono ?_
  rintro e w4 ⟨⟨r, rfl, hr⟩, hw⟩
  rw [hw]
  clear hw
  go_wp2_with fail
  refine (l4Mod_some S hS g r (by omega) scr q3 _ HC3.out).mono ?_
  rintro e w5 ⟨V, m, q5, rfl, ho, hd, hc, hgr⟩
  have h3 := B3.out.size
  have O5 : Hid (OwnMd w5 w.heap.size V m) := ⟨ho.rq.low h3, ho.im.low h3, ho.ep.low h3, ho.st.low h3, ho.ex.low h3⟩
  have D5 := hidI hd
  have B5 := hidI (below_of_grown B3.out hgr hgw)
  have X5 := hidI ((hgr.block _ (Array.getElem?_eq_some_iff.1 X3.out).1 (by simp; omega)).trans X3.out)
  clear ho hd hc hgr
  unfold modD
  obtain ⟨d0, d1, d2, d3, d4, df⟩ := five_of X5.out
  go_wp2
  refine bodyPost_ret (results_cell_row_tmp rfl _ _ b 37 _ (0, 0) _ rfl (put5 X5.out) Try.underlying37 rfl (by kernel_rfl)) rfl ?_
  have one : ∀ {e : TypeId} {size n : Nat} {r : Rw} {xs : List Value} (x0 x1 x2 x3 x4 : Value), OwnR w5 w.heap.size e size r n xs → e ≠ 37 → OwnR (set5m w5 b x0 x1 x2 x3 x4) w.heap.size e size r n xs := fun x0 x1 x2 x3 x4 hx he => hx.keep fun k hk' => set5m_other (fun e => by
    obtain ⟨_, _, cur, hc⟩ := hx.typed hk'
    rw [e, X5.out] at hc
    simp only [Option.some.injEq, Obj.cells.injEq] at hc
    exact he hc.2.1.symm) _ _ _ _ _
  exact ⟨V, m, scr, rfl, ⟨one _ _ _ _ _ O5.out.rq (by decide), one _ _ _ _ _ O5.out.im (by decide), one _ _ _ _ _ O5.out.ep (by decide), one _ _ _ _ _ O5.out.st (by decide), one _ _ _ _ _ O5.out.ex (by decide)⟩, D5.out, ((((B5.out.setCell (Nat.le_of_eq HBB.out.symm) _).setCell (Nat.le_of_eq HBB.out.symm) _).setCell (Nat.le_of_eq HBB.out.symm) _).setCell (Nat.le_of_eq HBB.out.symm) _).setCell (Nat.le_of_eq HBB.out.symm) _⟩
end Go.Proofs.Ytdbpknmoacjodaa
namespace Go.Proofs.Ytdbpknmoacjodaa
open Go.RowKit Go.PlainAid

def rowCost {α : Type} (c : α → Nat) (l : List α) : Nat := (l.map c).sum
theorem rowCost_succ {α : Type} (c : α → Nat) {l : List α} {j : Nat} {x : α} (h : l[j]? = some x) : rowCost c (l.take (j + 1)) = rowCost c (l.take j) + c x := by
  obtain ⟨hj, rfl⟩ := List.getElem?_eq_some_iff.1 h
  rw [List.take_succ_eq_append_getElem hj, rowCost, List.map_append, List.sum_append]
  simp [rowCost]
def costStr (x : ByteArray) : Nat := x.size
def costIm (x : Im) : Nat := x.spec.size + x.first.size + x.loc.size
def costEp (x : Ep) : Nat := x.name.size + x.loc.size + x.spec.size
def costSm (x : Sm) : Nat := x.name.size
def costEx (x : Ex) : Nat := x.name.size + x.field.size
def costM (m : Md) : Nat := (m.rq.length + rowCost costStr m.rq) + (m.im.length + rowCost costIm m.im) + (m.ep.length + rowCost costEp m.ep) + (m.st.length + rowCost costSm m.st) + (m.ex.length + rowCost costEx m.ex)
end Go.Proofs.Ytdbpknmoacjodaa
namespace Go.Proofs.Ytdbpknmoacjodaa
open Go.RowKit Go.PlainAid

def quoteT (s : ByteArray) : ByteArray := ({ data := #[34] } : ByteArray) ++ s ++ ({ data := #[34] } : ByteArray)
def asT (a b : ByteArray) : ByteArray := if a.toList == b.toList then a else a ++ ({ data := #[32, 97, 115, 32] } : ByteArray) ++ b
def impT (x : Im) : ByteArray :=
  if x.first.toList == [42] then ({ data := #[105, 109, 112, 111, 114, 116, 32, 42, 32, 97, 115, 32] } : ByteArray) ++ x.loc ++ ({ data := #[32, 102, 114, 111, 109, 32] } : ByteArray) ++ quoteT x.spec ++ ({ data := #[59, 10] } : ByteArray)
  else if x.first.toList == [100, 101, 102, 97, 117, 108, 116] then ({ data := #[105, 109, 112, 111, 114, 116, 32] } : ByteArray) ++ x.loc ++ ({ data := #[32, 102, 114, 111, 109, 32] } : ByteArray) ++ quoteT x.spec ++ ({ data := #[59, 10] } : ByteArray)
  else ({ data := #[105, 109, 112, 111, 114, 116, 32, 123, 32] } : ByteArray) ++ asT x.first x.loc ++ ({ data := #[32, 125, 32, 102, 114, 111, 109, 32] } : ByteArray) ++ quoteT x.spec ++ ({ data := #[59, 10] } : ByteArray)
def expT (x : Ep) : ByteArray :=
  if x.kind == 3 then ({ data := #[101, 120, 112, 111, 114, 116, 32, 42, 32, 102, 114, 111, 109, 32] } : ByteArray) ++ quoteT x.spec ++ ({ data := #[59, 10] } : ByteArray)
  else if x.kind == 2 then ({ data := #[101, 120, 112, 111, 114, 116, 32, 123, 32] } : ByteArray) ++ asT x.loc x.name ++ ({ data := #[32, 125, 32, 102, 114, 111, 109, 32] } : ByteArray) ++ quoteT x.spec ++ ({ data := #[59, 10] } : ByteArray)
  else ({ data := #[101, 120, 112, 111, 114, 116, 32, 123, 32] } : ByteArray) ++ asT x.loc x.name ++ ({ data := #[32, 125, 59, 10] } : ByteArray)
def stmtT (k : Int) (n e : ByteArray) : ByteArray :=
  if k == 1 then (if n.toList == [42, 100, 101, 102, 97, 117, 108, 116] then ({ data := #[101, 120, 112, 111, 114, 116, 32, 100, 101, 102, 97, 117, 108, 116, 32] } : ByteArray) ++ e ++ ({ data := #[59, 10] } : ByteArray) else ({ data := #[108, 101, 116, 32] } : ByteArray) ++ n ++ ({ data := #[32, 61, 32] } : ByteArray) ++ e ++ ({ data := #[59, 10] } : ByteArray))
  else if k == 2 then ({ data := #[102, 117, 110, 99, 116, 105, 111, 110, 32] } : ByteArray) ++ n ++ ({ data := #[40, 41, 32, 123, 32, 114, 101, 116, 117, 114, 110, 32] } : ByteArray) ++ e ++ ({ data := #[59, 32, 125, 10] } : ByteArray)
  else if k == 3 then n ++ ({ data := #[32, 61, 32] } : ByteArray) ++ e ++ ({ data := #[59, 10] } : ByteArray)
  else if k == 4 then ({ data := #[112, 114, 105, 110, 116, 40] } : ByteArray) ++ e ++ ({ data := #[41, 59, 10] } : ByteArray)
  else if k == 5 then ({ data := #[116, 104, 114, 111, 119, 32] } : ByteArray) ++ e ++ ({ data := #[59, 10] } : ByteArray)
  else ({ data := #[102, 97, 105, 108, 32] } : ByteArray) ++ e ++ ({ data := #[59, 10] } : ByteArray)
def stmtTI (k : Int) (n e : ByteArray) : ByteArray := if n.toList == [42, 100, 101, 102, 97, 117, 108, 116] then ({ data := #[101, 120, 112, 111, 114, 116, 32, 100, 101, 102, 97, 117, 108, 116, 32] } : ByteArray) ++ e ++ ({ data := #[59, 10] } : ByteArray) else stmtT k n e
def rqT (s : ByteArray) : ByteArray := ({ data := #[105, 109, 112, 111, 114, 116, 32] } : ByteArray) ++ quoteT s ++ ({ data := #[59, 10] } : ByteArray)
end Go.Proofs.Ytdbpknmoacjodaa
namespace Go.Proofs.Ytdbpknmoacjodaa
open Go.RowKit Go.PlainAid

def acc {α : Type} (f : α → ByteArray) (l : List α) (t : ByteArray) : ByteArray := l.foldl (fun t x => t ++ f x) t
theorem acc_succ {α : Type} (f : α → ByteArray) {l : List α} {j : Nat} {x : α} (h : l[j]? = some x) (t : ByteArray) : acc f (l.take (j + 1)) t = acc f (l.take j) t ++ f x := by
  obtain ⟨hj, rfl⟩ := List.getElem?_eq_some_iff.1 h
  rw [List.take_succ_eq_append_getElem hj, acc, List.foldl_append]
  rfl
theorem acc_grow {α : Type} (f : α → ByteArray) (l : List α) : ∀ t : ByteArray, t.size ≤ (acc f l t).size := by
  induction l with
  | nil => intro t; exact Nat.le_refl _
  | cons x l ih =>
    intro t
    refine Nat.le_trans ?_ (ih (t ++ f x))
    rw [ByteArray.size_append]
    omega
theorem acc_app {α : Type} (f : α → ByteArray) (a b : List α) (t : ByteArray) : acc f (a ++ b) t = acc f b (acc f a t) := by rw [acc, List.foldl_append]; rfl
theorem acc_part {α : Type} (f : α → ByteArray) (l : List α) (j : Nat) (t : ByteArray) : (acc f (l.take j) t).size ≤ (acc f l t).size := by
  have : acc f l t = acc f (l.drop j) (acc f (l.take j) t) := by rw [← acc_app, List.take_append_drop]
  rw [this]
  exact acc_grow f _ _
def epF (x : Ep) : ByteArray := if x.loc.toList == [42, 100, 101, 102, 97, 117, 108, 116] then sNone else expT x
def stF (ex : List Ex) (s : Sm) : ByteArray := stmtT s.kind s.name (prX ex s.expr.toNat)
def stFI (ex : List Ex) (s : Sm) : ByteArray := stmtTI s.kind s.name (prX ex s.expr.toNat)
def text3 (m : Md) : ByteArray := acc epF m.ep (acc impT m.im (acc rqT m.rq sNone))
def textS (m : Md) : ByteArray := acc (stF m.ex) m.st (text3 m)
def textI (m : Md) : ByteArray := acc (stFI m.ex) m.st (text3 m)
def PrintOut (T : ByteArray) (m : Md) (e : Ending) : Prop := (Tree m ∧ e = .returned (.string T)) ∨ (¬ Tree m ∧ e = .returned (.string sNone))
structure Small (m : Md) : Prop where
  rq : ∀ x ∈ m.rq, x.size ≤ 4294967296
  im : ∀ x ∈ m.im, x.spec.size ≤ 4294967296 ∧ x.first.size ≤ 4294967296 ∧ x.loc.size ≤ 4294967296
  ep : ∀ x ∈ m.ep, x.spec.size ≤ 4294967296 ∧ x.name.size ≤ 4294967296 ∧ x.loc.size ≤ 4294967296
  st : ∀ x ∈ m.st, x.name.size ≤ 4294967296
  nums : Nums m.ex
  few : m.rq.length ≤ 4294967296 ∧ m.im.length ≤ 4294967296 ∧ m.ep.length ≤ 4294967296 ∧ m.st.length ≤ 4294967296 ∧ m.ex.length ≤ 4294967296
end Go.Proofs.Ytdbpknmoacjodaa
namespace Go.Proofs.Ytdbpknmoacjodaa
open Go.RowKit Go.PlainAid

theorem acc_sizeZ {α : Type} (f : α → ByteArray) (l : List α) : ∀ t : ByteArray, (acc f l t).size = t.size + (l.map fun x => (f x).size).sum := by
  induction l with
  | nil => intro t; rfl
  | cons x l ih =>
    intro t
    show (acc f l (t ++ f x)).size = _
    rw [ih, ByteArray.size_append, List.map_cons, List.sum_cons, Nat.add_assoc]
theorem sum_leZ {α : Type} {f c : α → Nat} (l : List α) (h : ∀ x ∈ l, f x ≤ 40 + c x) : (l.map f).sum ≤ 40 * l.length + rowCost c l := by
  induction l with
  | nil => exact Nat.le_refl _
  | cons x l ih =>
    have h1 := h x (List.mem_cons_self ..)
    have h2 := ih fun y hy => h y (List.mem_cons_of_mem _ hy)
    unfold rowCost at *
    rw [List.map_cons, List.sum_cons, List.map_cons, List.sum_cons, List.length_cons]
    omega
theorem sum_twoZ {α : Type} {f c g : α → Nat} (l : List α) (h : ∀ x ∈ l, f x ≤ 40 + c x + g x) : (l.map f).sum ≤ 40 * l.length + rowCost c l + (l.map g).sum := by
  induction l with
  | nil => exact Nat.le_refl _
  | cons x l ih =>
    have h1 := h x (List.mem_cons_self ..)
    have h2 := ih fun y hy => h y (List.mem_cons_of_mem _ hy)
    unfold rowCost at *
    rw [List.map_cons, List.sum_cons, List.map_cons, List.sum_cons, List.map_cons, List.sum_cons, List.length_cons]
    omega
theorem mem_costZ {α : Type} {c : α → Nat} {l : List α} {x : α} (h : x ∈ l) : c x ≤ rowCost c l := by
  induction l with
  | nil => cases h
  | cons y l ih =>
    unfold rowCost at *
    rw [List.map_cons, List.sum_cons]
    rcases List.mem_cons.1 h with rfl | h
    · omega
    · have := ih h
      omega
theorem lit_sizeZ (a : Array UInt8) : (⟨a⟩ : ByteArray).size = a.size := rfl
theorem quote_sizeZ (s : ByteArray) : (quoteT s).size = s.size + 2 := by
  rw [quoteT, ByteArray.size_append, ByteArray.size_append, lit_sizeZ]
  show 1 + s.size + 1 = _
  omega
theorem as_sizeZ (a b : ByteArray) : (asT a b).size ≤ a.size + b.size + 4 := by
  unfold asT
  split
  · omega
  · have z : (({ data := #[32, 97, 115, 32] } : ByteArray)).size = 4 := rfl
    rw [ByteArray.size_append, ByteArray.size_append, z]
    omega
theorem rq_sizeZ (s : ByteArray) : (rqT s).size ≤ 40 + costStr s := by
  rw [rqT, ByteArray.size_append, ByteArray.size_append, quote_sizeZ, lit_sizeZ, lit_sizeZ]
  show 7 + (s.size + 2) + 2 ≤ 40 + s.size
  omega
theorem im_sizeZ (x : Im) : (impT x).size ≤ 40 + costIm x := by
  have ha := as_sizeZ x.first x.loc
  unfold impT costIm
  split
  · simp only [ByteArray.size_append, quote_sizeZ, lit_sizeZ]
    simp only [List.size_toArray, List.length_cons, List.length_nil]
    omega
  · split
    · simp only [ByteArray.size_append, quote_sizeZ, lit_sizeZ]
      simp only [List.size_toArray, List.length_cons, List.length_nil]
      omega
    · simp only [ByteArray.size_append, quote_sizeZ, lit_sizeZ]
      simp only [List.size_toArray, List.length_cons, List.length_nil]
      omega
theorem ep_sizeZ (x : Ep) : (epF x).size ≤ 40 + costEp x := by
  have ha := as_sizeZ x.loc x.name
  unfold epF
  split
  · exact Nat.zero_le _
  · unfold expT costEp
    split
    · simp only [ByteArray.size_append, quote_sizeZ, lit_sizeZ]
      simp only [List.size_toArray, List.length_cons, List.length_nil]
      omega
    · split
      · simp only [ByteArray.size_append, quote_sizeZ, lit_sizeZ]
        simp only [List.size_toArray, List.length_cons, List.length_nil]
        omega
      · simp only [ByteArray.size_append, lit_sizeZ]
        simp only [List.size_toArray, List.length_cons, List.length_nil]
        omega
theorem stmt_sizeZ (k : Int) (n e : ByteArray) : (stmtT k n e).size ≤ 40 + n.size + e.size := by
  unfold stmtT
  repeat' split
  all_goals
    simp only [ByteArray.size_append, lit_sizeZ]
    simp only [List.size_toArray, List.length_cons, List.length_nil]
    omega
theorem stmtI_sizeZ (k : Int) (n e : ByteArray) : (stmtTI k n e).size ≤ 40 + n.size + e.size := by
  unfold stmtTI
  split
  · simp only [ByteArray.size_append, lit_sizeZ]
    simp only [List.size_toArray, List.length_cons, List.length_nil]
    omega
  · exact stmt_sizeZ k n e
theorem ex_costZ (l : List Ex) : (l.map cost).sum ≤ 40 * l.length + rowCost costEx l := sum_leZ l fun x _ => by unfold cost costEx; omega
theorem text3_sizeZ (m : Md) : (text3 m).size ≤ 40 * m.rq.length + rowCost costStr m.rq + (40 * m.im.length + rowCost costIm m.im) + (40 * m.ep.length + rowCost costEp m.ep) := by
  have h1 := sum_leZ (c := costStr) m.rq fun x _ => rq_sizeZ x
  have h2 := sum_leZ (c := costIm) m.im fun x _ => im_sizeZ x
  have h3 := sum_leZ (c := costEp) m.ep fun x _ => ep_sizeZ x
  rw [text3, acc_sizeZ, acc_sizeZ, acc_sizeZ]
  have : sNone.size = 0 := rfl
  omega
theorem text_small {m : Md} (t : Tree m) (hn : Nums m.ex) : (textS m).size ≤ 40 * costM m ∧ (textI m).size ≤ 40 * costM m := by
  have h3 := text3_sizeZ m
  have ht := tree_total t hn
  have hx := ex_costZ m.ex
  have hS := sum_twoZ (c := costSm) (g := fun s => wt m.ex s.expr.toNat) (f := fun s => (stF m.ex s).size) m.st fun s _ => stmt_sizeZ s.kind s.name _
  have hI := sum_twoZ (c := costSm) (g := fun s => wt m.ex s.expr.toNat) (f := fun s => (stFI m.ex s).size) m.st fun s _ => stmtI_sizeZ s.kind s.name _
  have hc : costM m = (m.rq.length + rowCost costStr m.rq) + (m.im.length + rowCost costIm m.im) + (m.ep.length + rowCost costEp m.ep) + (m.st.length + rowCost costSm m.st) + (m.ex.length + rowCost costEx m.ex) := rfl
  constructor
  · rw [textS, acc_sizeZ]
    omega
  · rw [textI, acc_sizeZ]
    omega
theorem small_ofB {m : Md} (h : costM m ≤ 67108864) (hn : Nums m.ex) : Small m := by
  have hc : costM m = (m.rq.length + rowCost costStr m.rq) + (m.im.length + rowCost costIm m.im) + (m.ep.length + rowCost costEp m.ep) + (m.st.length + rowCost costSm m.st) + (m.ex.length + rowCost costEx m.ex) := rfl
  refine ⟨fun x hx => ?_, fun x hx => ?_, fun x hx => ?_, fun x hx => ?_, hn, ?_, ?_, ?_, ?_, ?_⟩
  · have e : costStr x = x.size := rfl
    have := mem_costZ (c := costStr) hx
    omega
  · have := mem_costZ (c := costIm) hx
    have e : costIm x = x.spec.size + x.first.size + x.loc.size := rfl
    omega
  · have := mem_costZ (c := costEp) hx
    have e : costEp x = x.name.size + x.loc.size + x.spec.size := rfl
    omega
  · have := mem_costZ (c := costSm) hx
    have e : costSm x = x.name.size := rfl
    omega
  all_goals omega
theorem small_of {m : Md} (h : costM m ≤ 1048576) (hn : Nums m.ex) : Small m := small_ofB (Nat.le_trans h (by decide)) hn
end Go.Proofs.Ytdbpknmoacjodaa
namespace Go.Proofs.Ytdbpknmoacjodaa
open Go.RowKit Go.PlainAid

theorem cost_le {α : Type} {c : α → Nat} {B : Nat} (l : List α) (h : ∀ x ∈ l, c x ≤ B) : rowCost c l ≤ l.length * B := by
  induction l with
  | nil => exact Nat.zero_le _
  | cons x l ih =>
    have h1 := h x (List.mem_cons_self ..)
    have h2 := ih fun y hy => h y (List.mem_cons_of_mem _ hy)
    unfold rowCost at *
    rw [List.map_cons, List.sum_cons, List.length_cons, Nat.succ_mul]
    omega
theorem Drawn.nums {k : Nat} {m : Md} (h : Drawn k m) : Nums m.ex := fun x hx => by
  have := (h.ex.2 x hx).2.2
  omega
theorem Drawn.cost {m : Md} (h : Drawn 1 m) : costM m ≤ 61000000 := by
  have h1 := cost_le (c := costStr) (B := 20000) m.rq fun x hx => h.rq.2 x hx
  have h2 := cost_le (c := costIm) (B := 60000) m.im fun x hx => by have := h.im.2 x hx; unfold costIm; omega
  have h3 := cost_le (c := costEp) (B := 60000) m.ep fun x hx => by have := h.ep.2 x hx; unfold OkEp at this; unfold costEp; omega
  have h4 := cost_le (c := costSm) (B := 20000) m.st fun x hx => h.st.2 x hx
  have h5 := cost_le (c := costEx) (B := 40000) m.ex fun x hx => by have := h.ex.2 x hx; unfold OkEx at this; unfold costEx; omega
  have l1 := h.rq.1
  have l2 := h.im.1
  have l3 := h.ep.1
  have l4 := h.st.1
  have l5 := h.ex.1
  have e : costM m = (m.rq.length + rowCost costStr m.rq) + (m.im.length + rowCost costIm m.im) + (m.ep.length + rowCost costEp m.ep) + (m.st.length + rowCost costSm m.st) + (m.ex.length + rowCost costEx m.ex) := rfl
  omega
theorem Drawn.small {m : Md} (h : Drawn 1 m) : Small m := by
  have l1 := h.rq.1
  have l2 := h.im.1
  have l3 := h.ep.1
  have l4 := h.st.1
  have l5 := h.ex.1
  refine ⟨fun x hx => ?_, fun x hx => ?_, fun x hx => ?_, fun x hx => ?_, h.nums, ?_, ?_, ?_, ?_, ?_⟩
  · have := h.rq.2 x hx
    omega
  · have := h.im.2 x hx
    omega
  · have := h.ep.2 x hx
    unfold OkEp at this
    omega
  · have := h.st.2 x hx
    omega
  all_goals omega
theorem Drawn.text {m : Md} (h : Drawn 1 m) (t : Tree m) : (textS m).size ≤ 4294967296 ∧ (textI m).size ≤ 4294967296 := by
  have := text_small t h.nums
  have := h.cost
  omega
end Go.Proofs.Ytdbpknmoacjodaa
namespace Go.Proofs.Ytdbpknmoacjodaa
open Go.RowKit Go.PlainAid

def inL (l : List ByteArray) (s : ByteArray) : Bool := l.any fun x => x.toList == s.toList
def twB (l : List ByteArray) : Bool := (List.range l.length).any fun i => inL (l.take i) (l.getD i sNone)
theorem inL_iff {l : List ByteArray} {s : ByteArray} : inL l s = true ↔ s ∈ l := by
  simp only [inL, List.any_eq_true]
  constructor
  · rintro ⟨x, hx, h⟩
    rw [(toList_eq_iff _ _).1 h] at hx
    exact hx
  · intro h
    exact ⟨s, h, (toList_eq_iff _ _).2 rfl⟩
theorem inL_at {l : List ByteArray} {s : ByteArray} {k : Nat} (hk : k < l.length) (h : ((l.getD k sNone).toList == s.toList) = true) : inL l s = true := by
  rw [inL, List.any_eq_true]
  exact ⟨l[k], List.getElem_mem hk, by simpa [List.getD, List.getElem?_eq_getElem hk] using h⟩
theorem inL_none {l : List ByteArray} {s : ByteArray} (h : ∀ j, j < l.length → ((l.getD j sNone).toList == s.toList) = false) : inL l s = false := by
  rw [inL, List.any_eq_false]
  intro x hx
  obtain ⟨j, hj, rfl⟩ := List.mem_iff_getElem.1 hx
  have := h j hj
  simpa [List.getD, List.getElem?_eq_getElem hj] using this
theorem twB_at {l : List ByteArray} {k : Nat} (hk : k < l.length) (h : inL (l.take k) (l.getD k sNone) = true) : twB l = true := by
  rw [twB, List.any_eq_true]
  exact ⟨k, List.mem_range.2 hk, h⟩
theorem twB_none {l : List ByteArray} (h : ∀ j, j < l.length → inL (l.take j) (l.getD j sNone) = false) : twB l = false := by
  rw [twB, List.any_eq_false]
  intro k hk
  rw [h k (List.mem_range.1 hk)]
  exact Bool.false_ne_true
end Go.Proofs.Ytdbpknmoacjodaa
namespace Go.Proofs.Ytdbpknmoacjodaa
open Go.RowKit Go.PlainAid

def epN (l : List Ep) : List ByteArray := (l.filter fun x => !(x.kind == 3)).map (·.name)
def spB (l : List Im) (n : ByteArray) : Bool := match l.find? (fun x => x.loc.toList == n.toList) with | some x => x.first.toList == [42] | none => false
def unB (ns : List ByteArray) (l : List Ep) : Bool := l.any fun x => x.kind == 1 && (!(x.loc.toList == dN) && !inL ns x.loc)
def seB (im : List Im) (l : List Ep) : Bool := l.any fun x => x.kind == 1 && spB im x.loc
def sxB (im : List Im) (l : List Ex) : Bool := l.any fun x => (x.kind == 2 || x.kind == 3) && spB im x.name
def mxB (im : List Im) (l : List Ex) : Bool := l.any fun x => (x.kind == 4 || x.kind == 5) && !spB im x.name
def ssB (im : List Im) (l : List Sm) : Bool := l.any fun x => x.kind == 3 && spB im x.name
def earlyS (m : Md) : Int :=
  if twB (declS m) then 1 else if twB (epN m.ep) then 2 else if unB (declS m) m.ep then 3
  else if seB m.im m.ep || sxB m.im m.ex || ssB m.im m.st then 4 else if mxB m.im m.ex then 5 else 0
theorem spB_at {l : List Im} {n : ByteArray} {k : Nat} {x : Im} (hk : l[k]? = some x) (hx : (x.loc.toList == n.toList) = true) (hno : ∀ (j : Nat) (y : Im), j < k → l[j]? = some y → (y.loc.toList == n.toList) = false) : spB l n = (x.first.toList == [42]) := by
  have : l.find? (fun x => x.loc.toList == n.toList) = some x := by
    rw [List.find?_eq_some_iff_getElem]
    obtain ⟨hl, rfl⟩ := List.getElem?_eq_some_iff.1 hk
    exact ⟨hx, k, hl, rfl, fun j hj => by rw [hno j l[j] hj (List.getElem?_eq_getElem _)]; rfl⟩
  rw [spB, this]
theorem spB_none {l : List Im} {n : ByteArray} (hno : ∀ (j : Nat) (y : Im), l[j]? = some y → (y.loc.toList == n.toList) = false) : spB l n = false := by
  have : l.find? (fun x => x.loc.toList == n.toList) = none := by
    rw [List.find?_eq_none]
    intro x hx
    obtain ⟨j, hj, rfl⟩ := List.mem_iff_getElem.1 hx
    rw [hno j _ (List.getElem?_eq_getElem hj)]
    exact Bool.false_ne_true
  rw [spB, this]
end Go.Proofs.Ytdbpknmoacjodaa
