/-
  What slices.Index and slices.Contains answer over a row of texts, and strings.Clone: the walks.
  What request of impl's parser answers: the walks.
  What nameOrCall of impl's parser answers: the walk.
  What part of impl's parser answers: the walk.
  What product and sum of impl's parser answer: the walks.
  What statement of impl's parser answers: the walk.
  What the small items of impl's parser, itemWord and exportLast answer: the walks.
  Rows beside impl's parser: lists of names under way. No program is spoken of but for the numbers of its types.
  What importedName and importList of impl's parser answer: the walks.
  What importList of impl's parser answers: the walk.
-/
import Derived.Test.YticdggnnpjachaaGreatCaImplParseHToImplParseI
import Derived.Test.YticdggnnpjachaaGreatCaShelf
namespace Go.Proofs.YticdggnnpjachaaGreat
open Go.RowKit Go.PlainAid Go.Sort

set_option maxRecDepth 100000 in
theorem cloneP_any (s : ByteArray) (w : World) (h : s.size ≤ 281474976710656) :
    Calls Tryz.prog 85 #[.string s] w fun e w' => e = .returned (.string s) ∧ Below w.heap.size w w' := by
  go_enter Tryz.func85, Tryz.ntmps85
  go_wp2_with fail
  refine (Tryz.stringslite_Clone _ _ h).mono ?_
  rintro e w1 ⟨rfl, hb⟩
  go_wp2
  go_ret
  exact ⟨rfl, hb⟩
theorem OwnR.text {w : World} {base n : Nat} {r : Rw} {l : List ByteArray} (h : OwnR w base 9 1 r n (l.map .string)) {j : Nat} (hj : j < n) : ∃ g, r.a = some ⟨g, 0, none⟩ ∧ w.cell? ⟨g, j, none⟩ = some (.string (l.getD j sNone)) := by
  rcases h.2 with ⟨_, hn⟩ | ⟨g, cap, cur, hv, _⟩
  · omega
  · simp only [Value.slice.injEq] at hv
    have h' := h
    unfold OwnR at h'
    rw [hv.1, hv.2.2] at h'
    have hl : l.length = n := by have := h.1; simpa using this
    refine ⟨g, hv.1, ?_⟩
    rw [World.ownsRow.cellAt h' j (by omega)]
    simp only [List.getElem?_map, List.getD]
    rw [List.getElem?_eq_getElem (by omega)]
    rfl
theorem hasS_drop {l : List ByteArray} {x : ByteArray} {j : Nat} (hj : j < l.length) : hasS (l.drop j) x = ((l.getD j sNone).toList == x.toList || hasS (l.drop (j + 1)) x) := by
  rw [List.drop_eq_getElem_cons hj]
  simp only [hasS, List.any_cons, List.getD, List.getElem?_eq_getElem hj, Option.getD_some]
set_option maxRecDepth 100000 in
set_option maxHeartbeats 1600000 in
theorem index_row (base g : Nat) (r : Rw) (l : List ByteArray) (x : ByteArray) (w : World) (h : OwnR w base 9 1 r l.length (l.map .string)) (hl : l.length ≤ 1000000) (hg : r.a = some ⟨g, 0, none⟩) :
    Calls Tryz.prog 204 #[.slice (some ⟨g, 0, none⟩) l.length r.cap, .string x] w fun e w' => (∃ v : Int, e = .returned (.int .i64 v) ∧ decide (0 ≤ v) = hasS l x) ∧ w' = w := by
  have HO := hidI h
  have HGG := hidI hg
  clear h hg
  go_enter Tryz.func204, Tryz.ntmps204
  go_wp2
  go_loopg [8] (l.length + 1) (fun k i wr => ∃ j : Nat, i = .int .i64 j ∧ j + k = l.length + 1 ∧ hasS (l.drop j) x = hasS l x ∧ wr = w)
  case atStart => exact ⟨0, rfl, by omega, by simp, rfl⟩
  case round =>
    obtain ⟨j, rfl, hj, he, rfl⟩ := hrel
    have HE := hidI he
    clear he
    by_cases hlt : j < l.length
    · have hlti : (j : Int) < (l.length : Int) := by omega
      obtain ⟨g', hg', hc⟩ := HO.out.text hlt
      have eg : g' = g := by have := hg'.symm.trans HGG.out; simpa using this
      subst eg
      clear hg'
      obtain ⟨j1, hj1⟩ : ∃ j1, j1 = j + 1 := ⟨_, rfl⟩
      have ej : (j : Int) + 1 = (j1 : Int) := by omega
      have HJ := hidI hj1
      clear hj1
      have HS : Hid (hasS (l.drop j) x = ((l.getD j sNone).toList == x.toList || hasS (l.drop (j + 1)) x)) := hasS_drop hlt
      generalize l.getD j sNone = y at hc HS
      cases ey : (x.toList == y.toList) with
      | true =>
        go_wp2
        go_ret
        refine ⟨⟨_, rfl, ?_⟩, rfl⟩
        have e2 : (y.toList == x.toList) = true := by rw [beq_iff_eq] at ey ⊢; exact ey.symm
        rw [← HE.out, HS.out, e2]
        simp
      | false =>
        go_wp2
        go_roundg (gk - 1)
        case rel =>
          have e2 : (y.toList == x.toList) = false := by
            rw [beq_eq_false_iff_ne] at ey ⊢; exact fun e => ey e.symm
          refine ⟨j1, rfl, by have := HJ.out; omega, ?_, rfl⟩
          rw [← HE.out, HS.out, e2, HJ.out]
          simp
        case measure => omega
    · have hlti : ¬ (j : Int) < (l.length : Int) := by omega
      go_wp2
      go_ret
      refine ⟨⟨_, rfl, ?_⟩, rfl⟩
      rw [← HE.out, List.drop_eq_nil_of_le (by omega)]
      rfl
set_option maxRecDepth 100000 in
theorem index_nil (x : ByteArray) (w : World) :
    Calls Tryz.prog 204 #[.slice none 0 0, .string x] w fun e w' => e = .returned (.int .i64 (-1)) ∧ w' = w := by
  go_enter Tryz.func204, Tryz.ntmps204
  go_wp2
  go_loopg [8] 1 (fun k i wr => k = 1 ∧ i = .int .i64 0 ∧ wr = w)
  case atStart => exact ⟨rfl, rfl, rfl⟩
  case round =>
    obtain ⟨rfl, rfl, rfl⟩ := hrel
    go_wp2
    go_ret
    exact ⟨rfl, rfl⟩
theorem index_any (base : Nat) (r : Rw) (l : List ByteArray) (x : ByteArray) (w : World) (h : OwnR w base 9 1 r l.length (l.map .string)) (hl : l.length ≤ 1000000) :
    Calls Tryz.prog 204 #[.slice r.a l.length r.cap, .string x] w fun e w' => (∃ v : Int, e = .returned (.int .i64 v) ∧ decide (0 ≤ v) = hasS l x) ∧ w' = w := by
  rcases h.nil_or with ⟨e1, e2, e3⟩ | ⟨g, hg⟩
  · rw [e1, e2, e3]
    refine (index_nil x w).mono ?_
    rintro e w1 ⟨rfl, rfl⟩
    have : l = [] := List.length_eq_zero_iff.1 e3
    subst this
    exact ⟨⟨_, rfl, rfl⟩, rfl⟩
  · rw [hg]
    exact index_row base g r l x w h hl hg
set_option maxRecDepth 100000 in
theorem contains_any (base : Nat) (r : Rw) (l : List ByteArray) (x : ByteArray) (w : World) (h : OwnR w base 9 1 r l.length (l.map .string)) (hl : l.length ≤ 1000000) :
    Calls Tryz.prog 194 #[.slice r.a l.length r.cap, .string x] w fun e w' => e = .returned (.bool (hasS l x)) ∧ w' = w := by
  have HO := hidI h
  clear h
  go_enter Tryz.func194, Tryz.ntmps194
  go_wp2_with fail
  refine (index_any base r l x _ HO.out hl).mono ?_
  rintro e w1 ⟨⟨v, rfl, hv⟩, rfl⟩
  have HV := hidI hv
  clear hv
  go_wp2
  go_ret
  exact ⟨ret_bool HV.out, rfl⟩
end Go.Proofs.YticdggnnpjachaaGreat
namespace Go.Proofs.YticdggnnpjachaaGreat
open Go.RowKit Go.PlainAid Go.Sort

theorem Tryz.infoText : (Tryz.prog.info? 9).map (fun i => (i.zero, i.size, i.bytes)) = some (some (.string { data := #[] }), 1, 16) := by kernel_rfl
def Sized (C : Cx) : Prop := ∀ i, (tokAt C i).text.size ≤ 281474976710656
theorem str_ones (x : ByteArray) : ∀ u ∈ [Value.string x], u.oneCell' = true := by
  intro u hu
  simp at hu
  rw [hu]
  rfl
set_option maxRecDepth 100000 in
set_option maxHeartbeats 3200000 in
theorem request_yes (C : Cx) (gt cap base gp : Nat) (S : Sv) (q : PS) (w : World) (h : IM C gt cap base gp S q w) (hC : Sized C) (hk : ((tokAt C q.pos).kind == 3) = true) (hs : hasS q.rq (tokAt C q.pos).text = false) (hn : q.rq.length < 40) :
    Calls Tryz.prog 172 #[.pointer (some ⟨gp, 0, none⟩)] w fun e w' => e = .returned (.string (tokAt C q.pos).text) ∧ ∃ S', IM C gt cap base gp S' { adv q with rq := q.rq ++ [(tokAt C q.pos).text] } w' ∧ IS gp S w S' w' := by
  obtain ⟨i0, hi, hz0, hz1, hz2⟩ := info_parts Tryz.infoText
  have HH := hidI h
  have hf1 := run_field1
  have hsz := hC q.pos
  clear h
  go_enter Tryz.func172, Tryz.ntmps172
  go_wp2_with fail
  refine (take_yes C gt cap base gp S q 3 _ HH.out hk (by decide)).mono ?_
  rintro e w1 ⟨rfl, m1, s1⟩
  have H1 := hidI m1
  have HS1 := hidI s1
  clear m1 s1
  unfold tkV
  obtain ⟨c0, c1, c2, c3, c4, c5, c6, c7, c8, c9, cf⟩ := box10_of H1.out.cells
  rw [show (adv q).rq = q.rq from rfl] at c4
  generalize htx : (tokAt C q.pos).text = tx at hs hsz ⊢
  have HTX := hidI htx
  clear htx
  go_wp2_with fail
  refine (contains_any base S.rq q.rq tx _ H1.out.mem.own.rq (by omega)).mono ?_
  rintro e w1' ⟨rfl, hw⟩
  rw [hs, hw]
  clear hw w1'
  go_wp2_with fail
  refine (room_yes gp q.rq.length 40 _ (by omega)).mono ?_
  rintro e w1' ⟨rfl, hw⟩
  rw [hw]
  clear hw w1'
  have HN : Hid (some gp ≠ S.rq.blk) := fun e => H1.out.free (.inl e.symm)
  go_wp2_with fail
  go_region_law (first | (refine step_row rfl (.tmp 28) (.tmp 31) 22 rfl base 9 i0 _ 1 16 Tryz.underlying22 hi hz0 hz1 hz2 rfl (by decide) (by decide) S.rq q.rq.length (q.rq.map .string) (by rfl) (by exact H3.out.mem.own.rq.alloc _) w3.heap.size [.string tx] (by rfl) (by exact heap_alloc_new w3 _) rfl (str_ones tx) (by omega) (by exact (H3.out.alloc _).mem.base) ?_; intro r' w2 hr hgr hat; have g2 := (hgr.block gp (by exact (H3.out.alloc _).lt) HN.out).trans (by exact (H3.out.alloc _).cells); obtain ⟨d0, d1, d2, d3, d4, d5, d6, d7, d8, d9, df⟩ := box10_of g2) | (go_simp; go_wp2_with (go_at_call 85; refine (cloneP_any _ _ hsz).mono ?_; rintro e w3 ⟨rfl, hb3⟩; have H3 : Hid (IM C gt cap base gp S (adv q) w3) := H1.out.drew.later hb3; have HB3 : Hid (Below w1.heap.size w1 w3) := (Below.refl w1.heap.size w1).drew.trans hb3; obtain ⟨e0, e1, e2, e3, e4, e5, e6, e7, e8, e9, ef⟩ := box10_of H3.out.cells; rw [show (adv q).rq = q.rq from rfl] at e4; have hlt3 := H3.out.lt; clear hb3)))
  all_goals
    have HR := hidI hr
    have HGR := hidI hgr
    have HAT := hidI hat
    clear hr hgr hat g2 c0 c1 c2 c3 c4 c5 c6 c7 c8 c9 cf e0 e1 e2 e3 e4 e5 e6 e7 e8 e9 ef
    go_wp2
    go_ret
    obtain ⟨m', s'⟩ := H3.out.grow_rq (x := tx) ((Below.refl _ _).alloc (Nat.le_refl _) _) HGR.out HR.out HAT.out hn
    rw [HTX.out]
    exact ⟨rfl, _, m', HS1.out.trans (s'.grownI HB3.out)⟩

set_option maxRecDepth 100000 in
set_option maxHeartbeats 1600000 in
theorem request_any (C : Cx) (gt cap base gp : Nat) (S : Sv) (q : PS) (w : World) (h : IM C gt cap base gp S q w) (hC : Sized C) :
    Calls Tryz.prog 172 #[.pointer (some ⟨gp, 0, none⟩)] w (IOut C gt cap base gp (specP C q) (·.1) (fun a => .string a.2) S w) := by
  cases hk : ((tokAt C q.pos).kind == 3) with
  | false =>
    have HH := hidI h
    have HV : Hid (specP C q = .error (here C q.pos)) := by show _ = _; rw [specP, hk]; rfl
    clear h
    go_enter Tryz.func172, Tryz.ntmps172
    go_wp2_with fail
    refine (take_no C gt cap base gp S q 3 _ HH.out hk).mono ?_
    rintro e w1 ⟨rfl, hb⟩
    have HB : Hid (Below base w w1) := hb.mono HH.out.mem.base
    clear hb
    unfold Pan
    go_wp2
    refine ⟨rfl, ?_⟩
    rw [HV.out]
    exact ⟨rfl, HB.out⟩
  | true =>
    cases hs : hasS q.rq (tokAt C q.pos).text with
    | true =>
      have HH := hidI h
      have HV : Hid (specP C q = .ok (adv q, (tokAt C q.pos).text)) := by show _ = _; rw [specP, hk, hs]; rfl
      have hf1 := run_field1
      have hin := h.mem.inv.rq
      clear h
      go_enter Tryz.func172, Tryz.ntmps172
      go_wp2_with fail
      refine (take_yes C gt cap base gp S q 3 _ HH.out hk (by decide)).mono ?_
      rintro e w1 ⟨rfl, m1, s1⟩
      have H1 := hidI m1
      have HS1 := hidI s1
      clear m1 s1
      unfold tkV
      obtain ⟨c0, c1, c2, c3, c4, c5, c6, c7, c8, c9, cf⟩ := box10_of H1.out.cells
      rw [show (adv q).rq = q.rq from rfl] at c4
      go_wp2_with fail
      refine (contains_any base S.rq q.rq (tokAt C q.pos).text _ H1.out.mem.own.rq (by omega)).mono ?_
      rintro e w1' ⟨rfl, hw⟩
      rw [hs, hw]
      clear hw w1'
      go_wp2
      go_ret
      rw [HV.out]
      exact ⟨rfl, S, H1.out, HS1.out⟩
    | false =>
      by_cases hn : q.rq.length < 40
      · refine (request_yes C gt cap base gp S q w h hC hk hs hn).mono ?_
        rintro e w1 ⟨rfl, S1, m1, s1⟩
        rw [specP, hk, hs, if_pos rfl, if_neg (by decide), if_neg (by omega)]
        exact ⟨rfl, S1, m1, s1⟩
      · have HH : Hid (IM C gt cap base gp S q w) := h
        have HV : Hid (specP C q = .error (here C q.pos)) := by show _ = _; rw [specP, hk, hs, if_pos rfl, if_neg (by decide), if_pos (by omega)]
        have hf1 := run_field1
        have hin := h.mem.inv.rq
        clear h
        go_enter Tryz.func172, Tryz.ntmps172
        go_wp2_with fail
        refine (take_yes C gt cap base gp S q 3 _ HH.out hk (by decide)).mono ?_
        rintro e w1 ⟨rfl, m1, s1⟩
        have H1 := hidI m1
        have HS1 := hidI s1
        clear m1 s1
        unfold tkV
        obtain ⟨c0, c1, c2, c3, c4, c5, c6, c7, c8, c9, cf⟩ := box10_of H1.out.cells
        rw [show (adv q).rq = q.rq from rfl] at c4
        go_wp2_with fail
        refine (contains_any base S.rq q.rq (tokAt C q.pos).text _ H1.out.mem.own.rq (by omega)).mono ?_
        rintro e w1' ⟨rfl, hw⟩
        rw [hs, hw]
        clear hw w1'
        go_wp2_with fail
        refine (room_no C gt cap base gp S (adv q) q.rq.length 40 _ H1.out (by omega) (by rw [adv_pos]; omega)).mono ?_
        rintro e w2 ⟨rfl, hb⟩
        have HB : Hid (Below base w w2) := (HH.out.back HS1.out).trans (hb.mono H1.out.mem.base)
        clear hb
        unfold Pan
        go_wp2
        refine ⟨rfl, ?_⟩
        rw [HV.out]
        exact ⟨rfl, HB.out⟩
end Go.Proofs.YticdggnnpjachaaGreat
namespace Go.Proofs.YticdggnnpjachaaGreat
open Go.RowKit Go.PlainAid Go.Sort

theorem bdO {α β : Type} {Y : Except Nat β} {x : Except Nat α} {f : α → Except Nat β} {a : α} (h : Y = bd x f) (hx : x = .ok a) : Y = f a := by rw [h, hx]; rfl
theorem bdE {α β : Type} {Y : Except Nat β} {x : Except Nat α} {f : α → Except Nat β} {p : Nat} (h : Y = bd x f) (hx : x = .error p) : Y = .error p := by rw [h, hx]; rfl
theorem bd_pure {α : Type} (x : Except Nat α) : bd x .ok = x := by cases x <;> rfl
abbrev cCall : ByteArray := { data := #[40, 41, 123] }
abbrev cShutSemi : ByteArray := { data := #[41, 59] }
abbrev cSemiRight : ByteArray := { data := #[59, 125] }
theorem signs_one (C : Cx) (b : UInt8) (q : PS) : signsP C { data := #[b] } 1 0 q = tokP C 4 { data := #[b] } q := by
  have e : ({ data := #[b] } : ByteArray).extract 0 (0 + 1) = { data := #[b] } := by simp [ByteArray.extract, ByteArray.copySlice]
  rw [signsP, e]
  exact bd_pure _
theorem signs_two (C : Cx) (b c : UInt8) (q : PS) : signsP C { data := #[b, c] } 2 0 q = bd (tokP C 4 { data := #[b] } q) (tokP C 4 { data := #[c] }) := by
  have e : ({ data := #[b, c] } : ByteArray).extract 0 (0 + 1) = { data := #[b] } := by simp [ByteArray.extract, ByteArray.copySlice]
  have e2 : ({ data := #[b, c] } : ByteArray).extract (0 + 1) (0 + 1 + 1) = { data := #[c] } := by simp [ByteArray.extract, ByteArray.copySlice]
  rw [signsP, e]
  refine bd_congr fun a _ => ?_
  rw [signsP, e2]
  exact bd_pure _
theorem signs_three (C : Cx) (b c d : UInt8) (q : PS) : signsP C { data := #[b, c, d] } 3 0 q = bd (tokP C 4 { data := #[b] } q) fun a => bd (tokP C 4 { data := #[c] } a) (tokP C 4 { data := #[d] }) := by
  have e : ({ data := #[b, c, d] } : ByteArray).extract 0 (0 + 1) = { data := #[b] } := by simp [ByteArray.extract, ByteArray.copySlice]
  have e2 : ({ data := #[b, c, d] } : ByteArray).extract (0 + 1) (0 + 1 + 1) = { data := #[c] } := by simp [ByteArray.extract, ByteArray.copySlice]
  have e3 : ({ data := #[b, c, d] } : ByteArray).extract (0 + 1 + 1) (0 + 1 + 1 + 1) = { data := #[d] } := by simp [ByteArray.extract, ByteArray.copySlice]
  rw [signsP, e]
  refine bd_congr fun a _ => ?_
  rw [signsP, e2]
  refine bd_congr fun a _ => ?_
  rw [signsP, e3]
  exact bd_pure _
theorem passSigns_as (C : Cx) (gt cap base gp : Nat) (S : Sv) (q : PS) (s : ByteArray) (f : PS → PR) (w : World) (h : IM C gt cap base gp S q w) (hf : signsP C s s.size 0 q = f q) (hs : s.size ≤ 100) :
    Calls Tryz.prog 153 #[.pointer (some ⟨gp, 0, none⟩), .string s] w (IOut C gt cap base gp (f q) id (fun _ => .tuple #[]) S w) := by
  rw [← hf]
  exact passSigns_any C gt cap base gp S q s w h hs
theorem passSign (C : Cx) (gt cap base gp : Nat) (S : Sv) (q : PS) (b : UInt8) (w : World) (h : IM C gt cap base gp S q w) :
    Calls Tryz.prog 153 #[.pointer (some ⟨gp, 0, none⟩), .string { data := #[b] }] w (IOut C gt cap base gp (tokP C 4 { data := #[b] } q) id (fun _ => .tuple #[]) S w) :=
  passSigns_as C gt cap base gp S q { data := #[b] } (tokP C 4 { data := #[b] }) w h (signs_one C b q) (by show 1 ≤ 100; omega)
structure Six (w : World) (b : Nat) (v0 v1 v2 v3 v4 v5 : Value) : Prop where
  c0 : w.cell? ⟨b, 0, none⟩ = some v0
  c1 : w.cell? ⟨b, 1, none⟩ = some v1
  c2 : w.cell? ⟨b, 2, none⟩ = some v2
  c3 : w.cell? ⟨b, 3, none⟩ = some v3
  c4 : w.cell? ⟨b, 4, none⟩ = some v4
  c5 : w.cell? ⟨b, 5, none⟩ = some v5
  fz : ∀ i, w.frozen? ⟨b, i, none⟩ = false
theorem six_of {w : World} {b : Nat} {t : TypeId} {v0 v1 v2 v3 v4 v5 : Value} (h : w.heap[b]? = some (.cells #[v0, v1, v2, v3, v4, v5] t (0, 0))) : Six w b v0 v1 v2 v3 v4 v5 := by
  constructor <;> simp [World.cell?, World.frozen?, h]
theorem IS.kept {C : Cx} {gt cap base gp b : Nat} {S S' : Sv} {q : PS} {w w' : World} {o : Obj} (h : IM C gt cap base gp S q w) (s : IS gp S (w.alloc o) S' w') (hb : b = w.heap.size) : w'.heap[b]? = some o := by
  subst hb
  refine (s.block _ (by rw [alloc_size]; omega) (fun g => ?_) (by have := h.lt; omega)).trans (heap_alloc_new w _)
  have := (h.mem.own.has g).2
  omega
theorem IS.from {gp : Nat} {S S' : Sv} {w w' : World} {o : Obj} (s : IS gp S (w.alloc o) S' w') : IS gp S w S' w' := (IS.below ((Below.refl _ _).alloc (Nat.le_refl _) _)).trans s
theorem IS.free {C : Cx} {gt cap base gp : Nat} {S S' : Sv} {q : PS} {w w' : World} {o : Obj} (h : IM C gt cap base gp S q w) (s : IS gp S (w.alloc o) S' w') : ¬ S'.has w.heap.size := by
  intro g
  rcases s.sub _ g with k | k
  · have := (h.mem.own.has k).2
    omega
  · rw [alloc_size] at k
    omega

def nameI (C : Cx) (x : Ex) (call : Int) (q : PS) : PR := if isT C q.pos 4 cOpen then bd (tokP C 4 cShut (adv q)) (addEx C ⟨call, x.num, x.name, x.field, x.l, x.r⟩) else addEx C x q

set_option maxRecDepth 100000 in
set_option maxHeartbeats 1600000 in
theorem nameOrCall_any (C : Cx) (gt cap base gp : Nat) (S : Sv) (q : PS) (x : Ex) (call : Int) (w : World) (h : IM C gt cap base gp S q w) (hp : 0 < q.pos) :
    Calls Tryz.prog 207 #[.pointer (some ⟨gp, 0, none⟩), exV x, .int .i64 call] w (IOut C gt cap base gp (nameI C x call q) id (fun q' => .int .i64 ((q'.ex.length : Int) - 1)) S w) := by
  have HH := hidI h
  clear h
  cases hi : isT C q.pos 4 cOpen with
  | false =>
    have HY : Hid (nameI C x call q = addEx C x q) := by show _ = _; rw [nameI, hi]; rfl
    unfold exV
    go_enter Tryz.func207, Tryz.ntmps207
    go_wp2_with fail
    refine (passes_any C gt cap base gp S q 4 cOpen _ (HH.out.alloc _) (by decide)).mono ?_
    rintro e w1 ⟨rfl, m, s⟩
    rw [hi] at m ⊢
    have HM1 := hidI m
    have HS1 : Hid (IS gp S w S w1) := s.from
    have HG1 : Hid (w1.heap[w.heap.size]? = some (.cells #[.int .i64 x.kind, .int .i64 x.num, .string x.name, .string x.field, .int .i64 x.l, .int .i64 x.r] 108 (0, 0))) := IS.kept HH.out s rfl
    obtain ⟨b0, b1, b2, b3, b4, b5, bf⟩ := six_of HG1.out
    clear m s
    go_wp2_with fail
    refine (addExpr_any C gt cap base gp S q x _ HM1.out hp).mono ?_
    cases hn2 : addEx C x q with
    | error p =>
      rintro e w2 ⟨rfl, hb⟩
      have HB : Hid (Below base w w2) := (HH.out.back HS1.out).trans hb
      have HX : Hid (nameI C x call q = .error p) := HY.out.trans hn2
      unfold Pan
      go_wp2
      refine ⟨rfl, ?_⟩
      rw [HX.out]
      exact ⟨rfl, HB.out⟩
    | ok a2 =>
      rintro e w2 ⟨rfl, S2, m, s⟩
      have HM2 := hidI m
      have HS2 : Hid (IS gp S w S2 w2) := HS1.out.trans s
      clear m s
      have HX := hidI (HY.out.trans hn2)
      go_wp2
      go_ret
      rw [HX.out]
      exact ⟨rfl, S2, HM2.out, HS2.out⟩
  | true =>
    have HY : Hid (nameI C x call q = bd (tokP C 4 cShut (adv q)) (addEx C ⟨call, x.num, x.name, x.field, x.l, x.r⟩)) := by show _ = _; rw [nameI, hi]; rfl
    unfold exV
    go_enter Tryz.func207, Tryz.ntmps207
    go_wp2_with fail
    refine (passes_any C gt cap base gp S q 4 cOpen _ (HH.out.alloc _) (by decide)).mono ?_
    rintro e w1 ⟨rfl, m, s⟩
    rw [hi] at m ⊢
    have HM1 := hidI m
    have HT1 := hidI s
    clear m s
    go_wp2_with fail
    refine (passSign C gt cap base gp S (adv q) 41 _ HM1.out).mono ?_
    cases hn2 : tokP C 4 cShut (adv q) with
    | error p =>
      rintro e w2 ⟨rfl, hb⟩
      have HB : Hid (Below base w w2) := (HH.out.back HT1.out.from).trans hb
      have HX : Hid (nameI C x call q = .error p) := bdE HY.out hn2
      unfold Pan
      go_wp2
      refine ⟨rfl, ?_⟩
      rw [HX.out]
      exact ⟨rfl, HB.out⟩
    | ok a2 =>
      rintro e w2 ⟨rfl, S2, m, s⟩
      have HM2 := hidI m
      have HT2 : Hid (IS gp S (w.alloc (.cells #[.int .i64 x.kind, .int .i64 x.num, .string x.name, .string x.field, .int .i64 x.l, .int .i64 x.r] 108)) S2 w2) := HT1.out.trans s
      have HG2 : Hid (w2.heap[w.heap.size]? = some (.cells #[.int .i64 x.kind, .int .i64 x.num, .string x.name, .string x.field, .int .i64 x.l, .int .i64 x.r] 108 (0, 0))) := IS.kept HH.out HT2.out rfl
      have HP2 : Hid (a2 = adv (adv q)) := (tokP_ok hn2).1
      have HF2 : Hid (¬ S2.has w.heap.size) := IS.free HH.out HT2.out
      have hgp : gp < w.heap.size := HH.out.lt
      have hgt : gt < w.heap.size := (ownT_lt HH.out.mem.tok).1
      clear m s
      have HY2 := hidI (bdO HY.out hn2)
      obtain ⟨b0, b1, b2, b3, b4, b5, bf⟩ := six_of HG2.out
      go_wp2_with fail
      refine (addExpr_any C gt cap base gp S2 a2 ⟨call, x.num, x.name, x.field, x.l, x.r⟩ _ (HM2.out.set (by omega) (by omega) HF2.out _ _) (by rw [HP2.out]; show 0 < q.pos + 1 + 1; omega)).mono ?_
      cases hn3 : addEx C ⟨call, x.num, x.name, x.field, x.l, x.r⟩ a2 with
      | error p =>
        rintro e w3 ⟨rfl, hb⟩
        have HB : Hid (Below base w w3) := (HH.out.back (HT2.out.from.new (Nat.le_refl _) _ _)).trans hb
        have HX : Hid (nameI C x call q = .error p) := HY2.out.trans hn3
        unfold Pan
        go_wp2
        refine ⟨rfl, ?_⟩
        rw [HX.out]
        exact ⟨rfl, HB.out⟩
      | ok a3 =>
        rintro e w3 ⟨rfl, S3, m, s⟩
        have HM3 := hidI m
        have HS3 : Hid (IS gp S w S3 w3) := (HT2.out.from.new (Nat.le_refl _) _ _).trans s
        clear m s
        have HX := hidI (HY2.out.trans hn3)
        go_wp2
        go_ret
        rw [HX.out]
        exact ⟨rfl, S3, HM3.out, HS3.out⟩
end Go.Proofs.YticdggnnpjachaaGreat
namespace Go.Proofs.YticdggnnpjachaaGreat
open Go.RowKit Go.PlainAid Go.Sort

def exI (q : PS) : Value := .int .i64 ((q.ex.length : Int) - 1)
def SumI (C : Cx) (gt cap base gp m : Nat) : Prop := ∀ (d : Nat) (S : Sv) (q : PS) (w : World), C.ts.length - q.pos < m → d ≤ 20 → IM C gt cap base gp S q w →
  Calls Tryz.prog 183 #[.pointer (some ⟨gp, 0, none⟩), .int .i64 d] w (IOut C gt cap base gp (pE C .sum d q) id exI S w)
theorem tail_is (C : Cx) (n : ByteArray) (q : PS) : tailP C n q = nameI C ⟨2, 0, n, sNone, 0, 0⟩ 3 q := by
  unfold tailP nameI
  cases hi : isT C q.pos 4 cOpen with
  | true => rw [tok_pass hi]; rfl
  | false => rfl
theorem mem_is (C : Cx) (n f : ByteArray) (q : PS) : memP C n f q = nameI C ⟨4, 0, n, f, 0, 0⟩ 5 q := by
  unfold memP nameI
  cases hi : isT C q.pos 4 cOpen with
  | true => rw [tok_pass hi]; rfl
  | false => rfl
theorem text_is {x y : ByteArray} (h : (x.toList == y.toList) = true) : x = y := by
  rw [beq_iff_eq, Lib.toList_data, Lib.toList_data] at h
  cases x
  cases y
  simp only at h
  rw [Array.toList_inj.1 h]
theorem isT_text {C : Cx} {i : Nat} {k : Int} {x : ByteArray} (h : isT C i k x = true) : (tokAt C i).text = x := by
  simp only [isT, Bool.and_eq_true] at h
  exact text_is h.2
theorem isT_kindT {C : Cx} {i : Nat} {k : Int} {x : ByteArray} (h : isT C i k x = true) : ((tokAt C i).kind == k) = true := by
  simp only [isT, Bool.and_eq_true] at h
  exact h.1
theorem part_num {C : Cx} {d : Nat} {q : PS} (h : ((tokAt C q.pos).kind == 2) = true) : pE C .part d q = addEx C ⟨1, (tokAt C q.pos).num, sNone, sNone, 0, 0⟩ (adv q) := by rw [pE_part, h]; rfl
theorem part_deep {C : Cx} {d : Nat} {q : PS} (h : ((tokAt C q.pos).kind == 2) = false) (h1 : isT C q.pos 4 cOpen = true) (hd : 20 ≤ d) : pE C .part d q = .error (here C q.pos) := by rw [pE_part, h, h1, if_neg (by decide), if_pos rfl, if_pos hd]
theorem part_open {C : Cx} {d : Nat} {q : PS} (h : ((tokAt C q.pos).kind == 2) = false) (h1 : isT C q.pos 4 cOpen = true) (hd : ¬ 20 ≤ d) : pE C .part d q = bd (pE C .sum (d + 1) (adv q)) (tokP C 4 cShut) := by rw [pE_part, h, h1, if_neg (by decide), if_pos rfl, if_neg hd]
theorem part_undef {C : Cx} {d : Nat} {q : PS} (h : ((tokAt C q.pos).kind == 2) = false) (h1 : isT C q.pos 4 cOpen = false) (h2 : C.scr = true) (h3 : isT C q.pos 1 sUndef = true) : pE C .part d q = nameI C ⟨2, 0, sUndef, sNone, 0, 0⟩ 3 (adv q) := by
  rw [pE_part, h, h1, h2, h3, if_neg (by decide), if_neg (by decide), if_pos (by decide), tail_is]
theorem part_name {C : Cx} {d : Nat} {q : PS} (h : ((tokAt C q.pos).kind == 2) = false) (h1 : isT C q.pos 4 cOpen = false) (h2 : (C.scr && isT C q.pos 1 sUndef) = false) :
    pE C .part d q = bd (nameP C false q) fun x => if isT C x.1.pos 4 cPoint then bd (nameP C true (adv x.1)) fun y => nameI C ⟨4, 0, x.2, y.2, 0, 0⟩ 5 y.1 else nameI C ⟨2, 0, x.2, sNone, 0, 0⟩ 3 x.1 := by
  rw [pE_part, h, h1, h2, if_neg (by decide), if_neg (by decide), if_neg (by decide)]
  simp only [tail_is, mem_is]

set_option maxRecDepth 100000 in
set_option maxHeartbeats 1600000 in
theorem part_1 (C : Cx) (gt cap base gp d : Nat) (S : Sv) (q : PS) (w : World) (h : IM C gt cap base gp S q w) (hk : ((tokAt C q.pos).kind == 2) = true) :
    Calls Tryz.prog 206 #[.pointer (some ⟨gp, 0, none⟩), .int .i64 d] w (IOut C gt cap base gp (pE C .part d q) id exI S w) := by
  have HH := hidI h
  have hf0 := run_field0
  have hf1 := run_field1
  have hf2 := run_field2
  clear h
  have HY := hidI (part_num (d := d) hk)
  go_enter Tryz.func206, Tryz.ntmps206
  go_wp2_with fail
  refine (peek_any C gt cap base gp S q _ HH.out).mono ?_
  rintro e w1 ⟨rfl, hb⟩
  unfold tkV
  have HM1 : Hid (IM C gt cap base gp S q w1) := HH.out.later hb
  have HS1 : Hid (IS gp S w S w1) := IS.below hb
  clear hb
  go_wp2_with fail
  refine (take_yes C gt cap base gp S q 2 _ HM1.out hk (by decide)).mono ?_
  rintro e w2 ⟨rfl, m, s⟩
  have HM2 := hidI m
  have HS2 : Hid (IS gp S w S w2) := HS1.out.trans s
  clear m s
  unfold tkV
  go_wp2_with fail
  refine (addExpr_any C gt cap base gp S (adv q) ⟨1, (tokAt C q.pos).num, sNone, sNone, 0, 0⟩ _ HM2.out (by rw [adv_pos]; omega)).mono ?_
  cases hn3 : addEx C ⟨1, (tokAt C q.pos).num, sNone, sNone, 0, 0⟩ (adv q) with
  | error p =>
    rintro e w3 ⟨rfl, hb⟩
    have HB : Hid (Below base w w3) := (HH.out.back HS2.out).trans hb
    have HX : Hid (pE C .part d q = .error p) := HY.out.trans hn3
    unfold Pan
    go_wp2
    refine ⟨rfl, ?_⟩
    rw [HX.out]
    exact ⟨rfl, HB.out⟩
  | ok a3 =>
    rintro e w3 ⟨rfl, S3, m, s⟩
    have HM3 := hidI m
    have HS3 : Hid (IS gp S w S3 w3) := HS2.out.trans s
    clear m s
    have HY3 := hidI (HY.out.trans hn3)
    go_wp2
    go_ret
    rw [HY3.out]
    exact ⟨rfl, S3, HM3.out, HS3.out⟩

set_option maxRecDepth 100000 in
set_option maxHeartbeats 1600000 in
theorem part_2 (C : Cx) (gt cap base gp d : Nat) (S : Sv) (q : PS) (w : World) (h : IM C gt cap base gp S q w) (hk : ((tokAt C q.pos).kind == 2) = false) (h1 : isT C q.pos 4 cOpen = true) (hd : 20 ≤ d) :
    Calls Tryz.prog 206 #[.pointer (some ⟨gp, 0, none⟩), .int .i64 d] w (IOut C gt cap base gp (pE C .part d q) id exI S w) := by
  have HH := hidI h
  have hf0 := run_field0
  have hf1 := run_field1
  have hf2 := run_field2
  clear h
  have HY := hidI (part_deep (d := d) hk h1 hd)
  have hdi : (20 : Int) ≤ (d : Int) := by omega
  go_enter Tryz.func206, Tryz.ntmps206
  go_wp2_with fail
  refine (peek_any C gt cap base gp S q _ HH.out).mono ?_
  rintro e w1 ⟨rfl, hb⟩
  unfold tkV
  have HM1 : Hid (IM C gt cap base gp S q w1) := HH.out.later hb
  have HS1 : Hid (IS gp S w S w1) := IS.below hb
  clear hb
  go_wp2_with fail
  refine (passes_any C gt cap base gp S q 4 cOpen _ HM1.out (by decide)).mono ?_
  rintro e w2 ⟨rfl, m, s⟩
  rw [h1] at m ⊢
  have HM2 := hidI m
  have HS2 : Hid (IS gp S w S w2) := HS1.out.trans s
  clear m s
  go_wp2_with fail
  refine (room_no C gt cap base gp S (adv q) d 20 _ HM2.out (by omega) (by rw [adv_pos]; omega)).mono ?_
  rintro e w3 ⟨rfl, hb⟩
  have HB : Hid (Below base w w3) := (HH.out.back HS2.out).trans (hb.mono HM2.out.mem.base)
  have HX : Hid (pE C .part d q = .error (here C q.pos)) := HY.out
  unfold Pan
  go_wp2
  refine ⟨rfl, ?_⟩
  rw [HX.out]
  exact ⟨rfl, HB.out⟩

set_option maxRecDepth 100000 in
set_option maxHeartbeats 1600000 in
theorem part_3 (C : Cx) (gt cap base gp m d : Nat) (S : Sv) (q : PS) (w : World) (h : IM C gt cap base gp S q w) (hk : ((tokAt C q.pos).kind == 2) = false) (h1 : isT C q.pos 4 cOpen = true) (hd : d < 20) (hS : SumI C gt cap base gp m) (hm : C.ts.length - q.pos ≤ m) :
    Calls Tryz.prog 206 #[.pointer (some ⟨gp, 0, none⟩), .int .i64 d] w (IOut C gt cap base gp (pE C .part d q) id exI S w) := by
  have HH := hidI h
  have hf0 := run_field0
  have hf1 := run_field1
  have hf2 := run_field2
  clear h
  have HY := hidI (part_open (d := d) hk h1 (by omega))
  have hdi : ¬ (20 : Int) ≤ (d : Int) := by omega
  have hlt := isT_lt h1 (by decide)
  obtain ⟨d1, hd1⟩ : ∃ d1 : Nat, d1 = d + 1 := ⟨_, rfl⟩
  have ed : (d : Int) + 1 = (d1 : Int) := by omega
  rw [← hd1] at HY
  have hd2 : d1 ≤ 20 := by omega
  clear hd1
  go_enter Tryz.func206, Tryz.ntmps206
  go_wp2_with fail
  refine (peek_any C gt cap base gp S q _ HH.out).mono ?_
  rintro e w1 ⟨rfl, hb⟩
  unfold tkV
  have HM1 : Hid (IM C gt cap base gp S q w1) := HH.out.later hb
  have HS1 : Hid (IS gp S w S w1) := IS.below hb
  clear hb
  go_wp2_with fail
  refine (passes_any C gt cap base gp S q 4 cOpen _ HM1.out (by decide)).mono ?_
  rintro e w2 ⟨rfl, m, s⟩
  rw [h1] at m ⊢
  have HM2 := hidI m
  have HS2 : Hid (IS gp S w S w2) := HS1.out.trans s
  clear m s
  go_wp2_with fail
  refine (room_yes gp d 20 _ (by omega)).mono ?_
  rintro e w' ⟨rfl, hw⟩
  rw [hw]
  clear hw w'
  go_wp2_with fail
  refine (hS d1 S (adv q) _ (by rw [adv_pos]; omega) hd2 HM2.out).mono ?_
  cases hn3 : pE C .sum d1 (adv q) with
  | error p =>
    rintro e w3 ⟨rfl, hb⟩
    have HB : Hid (Below base w w3) := (HH.out.back HS2.out).trans hb
    have HX : Hid (pE C .part d q = .error p) := bdE HY.out hn3
    unfold Pan
    go_wp2
    refine ⟨rfl, ?_⟩
    rw [HX.out]
    exact ⟨rfl, HB.out⟩
  | ok a3 =>
    rintro e w3 ⟨rfl, S3, m, s⟩
    have HM3 := hidI m
    have HS3 : Hid (IS gp S w S3 w3) := HS2.out.trans s
    clear m s
    have HY3 := hidI (bdO HY.out hn3)
    unfold exI
    go_wp2_with fail
    refine (passSign C gt cap base gp S3 a3 41 _ HM3.out).mono ?_
    cases hn4 : tokP C 4 cShut a3 with
    | error p =>
      rintro e w4 ⟨rfl, hb⟩
      have HB : Hid (Below base w w4) := (HH.out.back HS3.out).trans hb
      have HX : Hid (pE C .part d q = .error p) := HY3.out.trans hn4
      unfold Pan
      go_wp2
      refine ⟨rfl, ?_⟩
      rw [HX.out]
      exact ⟨rfl, HB.out⟩
    | ok a4 =>
      rintro e w4 ⟨rfl, S4, m, s⟩
      have HM4 := hidI m
      have HS4 : Hid (IS gp S w S4 w4) := HS3.out.trans s
      clear m s
      have HY4 := hidI (HY3.out.trans hn4)
      have HP : Hid (a4 = adv a3) := (tokP_ok hn4).1
      go_wp2
      go_ret
      rw [HY4.out]
      exact ⟨by rw [HP.out]; rfl, S4, HM4.out, HS4.out⟩

set_option maxRecDepth 100000 in
set_option maxHeartbeats 1600000 in
theorem part_4 (C : Cx) (gt cap base gp d : Nat) (S : Sv) (q : PS) (w : World) (h : IM C gt cap base gp S q w) (hk : ((tokAt C q.pos).kind == 2) = false) (h1 : isT C q.pos 4 cOpen = false) (h2 : C.scr = true) (h3 : isT C q.pos 1 sUndef = true) :
    Calls Tryz.prog 206 #[.pointer (some ⟨gp, 0, none⟩), .int .i64 d] w (IOut C gt cap base gp (pE C .part d q) id exI S w) := by
  have HH := hidI h
  have hf0 := run_field0
  have hf1 := run_field1
  have hf2 := run_field2
  clear h
  have HY := hidI (part_undef (d := d) hk h1 h2 h3)
  go_enter Tryz.func206, Tryz.ntmps206
  go_wp2_with fail
  refine (peek_any C gt cap base gp S q _ HH.out).mono ?_
  rintro e w1 ⟨rfl, hb⟩
  unfold tkV
  have HM1 : Hid (IM C gt cap base gp S q w1) := HH.out.later hb
  have HS1 : Hid (IS gp S w S w1) := IS.below hb
  clear hb
  go_wp2_with fail
  refine (passes_any C gt cap base gp S q 4 cOpen _ HM1.out (by decide)).mono ?_
  rintro e w2 ⟨rfl, m, s⟩
  rw [h1] at m ⊢
  have HM2 := hidI m
  have HS2 : Hid (IS gp S w S w2) := HS1.out.trans s
  clear m s
  obtain ⟨_, _, _, c3, _, _, _, _, _, _, cf⟩ := box10_of HM2.out.cells
  rw [h2] at c3
  go_wp2_with fail
  refine (comes_any C gt cap base gp S q 1 sUndef _ HM2.out).mono ?_
  rintro e w3 ⟨rfl, hb⟩
  rw [h3]
  have HM3 : Hid (IM C gt cap base gp S q w3) := HM2.out.later hb
  have HS3 : Hid (IS gp S w S w3) := (HS2.out.trans (IS.below hb))
  clear hb
  go_wp2_with fail
  refine (take_yes C gt cap base gp S q 1 _ HM3.out (isT_kindT h3) (by decide)).mono ?_
  rintro e w4 ⟨rfl, m, s⟩
  have HM4 := hidI m
  have HS4 : Hid (IS gp S w S w4) := HS3.out.trans s
  clear m s
  unfold tkV
  rw [isT_text h3]
  go_wp2_with fail
  refine (nameOrCall_any C gt cap base gp S (adv q) ⟨2, 0, sUndef, sNone, 0, 0⟩ 3 _ HM4.out (by rw [adv_pos]; omega)).mono ?_
  cases hn5 : nameI C ⟨2, 0, sUndef, sNone, 0, 0⟩ 3 (adv q) with
  | error p =>
    rintro e w5 ⟨rfl, hb⟩
    have HB : Hid (Below base w w5) := (HH.out.back HS4.out).trans hb
    have HX : Hid (pE C .part d q = .error p) := HY.out.trans hn5
    unfold Pan
    go_wp2
    refine ⟨rfl, ?_⟩
    rw [HX.out]
    exact ⟨rfl, HB.out⟩
  | ok a5 =>
    rintro e w5 ⟨rfl, S5, m, s⟩
    have HM5 := hidI m
    have HS5 : Hid (IS gp S w S5 w5) := HS4.out.trans s
    clear m s
    have HY5 := hidI (HY.out.trans hn5)
    go_wp2
    go_ret
    rw [HY5.out]
    exact ⟨rfl, S5, HM5.out, HS5.out⟩

set_option maxRecDepth 100000 in
set_option maxHeartbeats 1600000 in
theorem part_5 (C : Cx) (gt cap base gp d : Nat) (S : Sv) (q : PS) (w : World) (h : IM C gt cap base gp S q w) (hk : ((tokAt C q.pos).kind == 2) = false) (h1 : isT C q.pos 4 cOpen = false) (h2 : C.scr = true) (h3 : isT C q.pos 1 sUndef = false) :
    Calls Tryz.prog 206 #[.pointer (some ⟨gp, 0, none⟩), .int .i64 d] w (IOut C gt cap base gp (pE C .part d q) id exI S w) := by
  have HH := hidI h
  have hf0 := run_field0
  have hf1 := run_field1
  have hf2 := run_field2
  clear h
  have HY := hidI (part_name (d := d) hk h1 (by rw [h2, h3]; rfl))
  go_enter Tryz.func206, Tryz.ntmps206
  go_wp2_with fail
  refine (peek_any C gt cap base gp S q _ HH.out).mono ?_
  rintro e w1 ⟨rfl, hb⟩
  unfold tkV
  have HM1 : Hid (IM C gt cap base gp S q w1) := HH.out.later hb
  have HS1 : Hid (IS gp S w S w1) := IS.below hb
  clear hb
  go_wp2_with fail
  refine (passes_any C gt cap base gp S q 4 cOpen _ HM1.out (by decide)).mono ?_
  rintro e w2 ⟨rfl, m, s⟩
  rw [h1] at m ⊢
  have HM2 := hidI m
  have HS2 : Hid (IS gp S w S w2) := HS1.out.trans s
  clear m s
  obtain ⟨_, _, _, c3, _, _, _, _, _, _, cf⟩ := box10_of HM2.out.cells
  rw [h2] at c3
  go_wp2_with fail
  refine (comes_any C gt cap base gp S q 1 sUndef _ HM2.out).mono ?_
  rintro e w3 ⟨rfl, hb⟩
  rw [h3]
  have HM3 : Hid (IM C gt cap base gp S q w3) := HM2.out.later hb
  have HS3 : Hid (IS gp S w S w3) := (HS2.out.trans (IS.below hb))
  clear hb
  go_wp2_with fail
  refine (plainName_any C gt cap base gp S q _ HM3.out).mono ?_
  cases hn4 : nameP C false q with
  | error p =>
    rintro e w4 ⟨rfl, hb⟩
    have HB : Hid (Below base w w4) := (HH.out.back HS3.out).trans hb
    have HX : Hid (pE C .part d q = .error p) := bdE HY.out hn4
    unfold Pan
    go_wp2
    refine ⟨rfl, ?_⟩
    rw [HX.out]
    exact ⟨rfl, HB.out⟩
  | ok a4 =>
    rintro e w4 ⟨rfl, S4, m, s⟩
    have HM4 := hidI m
    have HS4 : Hid (IS gp S w S4 w4) := HS3.out.trans s
    clear m s
    have HY4 := hidI (bdO HY.out hn4)
    have hpos : 0 < a4.1.pos := by rw [(nameP_ok hn4).1]; exact Nat.succ_pos _
    cases hd : isT C a4.1.pos 4 cPoint with
    | true =>
      have HZ := hidI (HY4.out.trans (if_pos hd))
      go_wp2_with fail
      refine (passes_any C gt cap base gp S4 (a4.1) 4 cPoint _ HM4.out (by decide)).mono ?_
      rintro e w5 ⟨rfl, m, s⟩
      rw [hd] at m ⊢
      have HM5 := hidI m
      have HS5 : Hid (IS gp S w S4 w5) := HS4.out.trans s
      clear m s
      go_wp2_with fail
      refine (plainOrDefault_any C gt cap base gp S4 (adv (a4.1)) _ HM5.out).mono ?_
      cases hn6 : nameP C true (adv (a4.1)) with
      | error p =>
        rintro e w6 ⟨rfl, hb⟩
        have HB : Hid (Below base w w6) := (HH.out.back HS5.out).trans hb
        have HX : Hid (pE C .part d q = .error p) := bdE HZ.out hn6
        unfold Pan
        go_wp2
        refine ⟨rfl, ?_⟩
        rw [HX.out]
        exact ⟨rfl, HB.out⟩
      | ok a6 =>
        rintro e w6 ⟨rfl, S6, m, s⟩
        have HM6 := hidI m
        have HS6 : Hid (IS gp S w S6 w6) := HS5.out.trans s
        clear m s
        have HY6 := hidI (bdO HZ.out hn6)
        go_wp2_with fail
        refine (nameOrCall_any C gt cap base gp S6 (a6.1) ⟨4, 0, a4.2, a6.2, 0, 0⟩ 5 _ HM6.out (by rw [(nameP_ok hn6).1]; exact Nat.succ_pos _)).mono ?_
        cases hn7 : nameI C ⟨4, 0, a4.2, a6.2, 0, 0⟩ 5 (a6.1) with
        | error p =>
          rintro e w7 ⟨rfl, hb⟩
          have HB : Hid (Below base w w7) := (HH.out.back HS6.out).trans hb
          have HX : Hid (pE C .part d q = .error p) := HY6.out.trans hn7
          unfold Pan
          go_wp2
          refine ⟨rfl, ?_⟩
          rw [HX.out]
          exact ⟨rfl, HB.out⟩
        | ok a7 =>
          rintro e w7 ⟨rfl, S7, m, s⟩
          have HM7 := hidI m
          have HS7 : Hid (IS gp S w S7 w7) := HS6.out.trans s
          clear m s
          have HY7 := hidI (HY6.out.trans hn7)
          go_wp2
          go_ret
          rw [HY7.out]
          exact ⟨rfl, S7, HM7.out, HS7.out⟩
    | false =>
      have HZ := hidI (HY4.out.trans (if_neg (by rw [hd]; decide)))
      go_wp2_with fail
      refine (passes_any C gt cap base gp S4 (a4.1) 4 cPoint _ HM4.out (by decide)).mono ?_
      rintro e w5 ⟨rfl, m, s⟩
      rw [hd] at m ⊢
      have HM5 := hidI m
      have HS5 : Hid (IS gp S w S4 w5) := HS4.out.trans s
      clear m s
      go_wp2_with fail
      refine (nameOrCall_any C gt cap base gp S4 (a4.1) ⟨2, 0, a4.2, sNone, 0, 0⟩ 3 _ HM5.out hpos).mono ?_
      cases hn6 : nameI C ⟨2, 0, a4.2, sNone, 0, 0⟩ 3 (a4.1) with
      | error p =>
        rintro e w6 ⟨rfl, hb⟩
        have HB : Hid (Below base w w6) := (HH.out.back HS5.out).trans hb
        have HX : Hid (pE C .part d q = .error p) := HZ.out.trans hn6
        unfold Pan
        go_wp2
        refine ⟨rfl, ?_⟩
        rw [HX.out]
        exact ⟨rfl, HB.out⟩
      | ok a6 =>
        rintro e w6 ⟨rfl, S6, m, s⟩
        have HM6 := hidI m
        have HS6 : Hid (IS gp S w S6 w6) := HS5.out.trans s
        clear m s
        have HY6 := hidI (HZ.out.trans hn6)
        go_wp2
        go_ret
        rw [HY6.out]
        exact ⟨rfl, S6, HM6.out, HS6.out⟩

set_option maxRecDepth 100000 in
set_option maxHeartbeats 1600000 in
theorem part_6 (C : Cx) (gt cap base gp d : Nat) (S : Sv) (q : PS) (w : World) (h : IM C gt cap base gp S q w) (hk : ((tokAt C q.pos).kind == 2) = false) (h1 : isT C q.pos 4 cOpen = false) (h2 : C.scr = false) :
    Calls Tryz.prog 206 #[.pointer (some ⟨gp, 0, none⟩), .int .i64 d] w (IOut C gt cap base gp (pE C .part d q) id exI S w) := by
  have HH := hidI h
  have hf0 := run_field0
  have hf1 := run_field1
  have hf2 := run_field2
  clear h
  have HY := hidI (part_name (d := d) hk h1 (by rw [h2]; rfl))
  go_enter Tryz.func206, Tryz.ntmps206
  go_wp2_with fail
  refine (peek_any C gt cap base gp S q _ HH.out).mono ?_
  rintro e w1 ⟨rfl, hb⟩
  unfold tkV
  have HM1 : Hid (IM C gt cap base gp S q w1) := HH.out.later hb
  have HS1 : Hid (IS gp S w S w1) := IS.below hb
  clear hb
  go_wp2_with fail
  refine (passes_any C gt cap base gp S q 4 cOpen _ HM1.out (by decide)).mono ?_
  rintro e w2 ⟨rfl, m, s⟩
  rw [h1] at m ⊢
  have HM2 := hidI m
  have HS2 : Hid (IS gp S w S w2) := HS1.out.trans s
  clear m s
  obtain ⟨_, _, _, c3, _, _, _, _, _, _, cf⟩ := box10_of HM2.out.cells
  rw [h2] at c3
  go_wp2_with fail
  refine (plainName_any C gt cap base gp S q _ HM2.out).mono ?_
  cases hn3 : nameP C false q with
  | error p =>
    rintro e w3 ⟨rfl, hb⟩
    have HB : Hid (Below base w w3) := (HH.out.back HS2.out).trans hb
    have HX : Hid (pE C .part d q = .error p) := bdE HY.out hn3
    unfold Pan
    go_wp2
    refine ⟨rfl, ?_⟩
    rw [HX.out]
    exact ⟨rfl, HB.out⟩
  | ok a3 =>
    rintro e w3 ⟨rfl, S3, m, s⟩
    have HM3 := hidI m
    have HS3 : Hid (IS gp S w S3 w3) := HS2.out.trans s
    clear m s
    have HY3 := hidI (bdO HY.out hn3)
    have hpos : 0 < a3.1.pos := by rw [(nameP_ok hn3).1]; exact Nat.succ_pos _
    cases hd : isT C a3.1.pos 4 cPoint with
    | true =>
      have HZ := hidI (HY3.out.trans (if_pos hd))
      go_wp2_with fail
      refine (passes_any C gt cap base gp S3 (a3.1) 4 cPoint _ HM3.out (by decide)).mono ?_
      rintro e w4 ⟨rfl, m, s⟩
      rw [hd] at m ⊢
      have HM4 := hidI m
      have HS4 : Hid (IS gp S w S3 w4) := HS3.out.trans s
      clear m s
      go_wp2_with fail
      refine (plainOrDefault_any C gt cap base gp S3 (adv (a3.1)) _ HM4.out).mono ?_
      cases hn5 : nameP C true (adv (a3.1)) with
      | error p =>
        rintro e w5 ⟨rfl, hb⟩
        have HB : Hid (Below base w w5) := (HH.out.back HS4.out).trans hb
        have HX : Hid (pE C .part d q = .error p) := bdE HZ.out hn5
        unfold Pan
        go_wp2
        refine ⟨rfl, ?_⟩
        rw [HX.out]
        exact ⟨rfl, HB.out⟩
      | ok a5 =>
        rintro e w5 ⟨rfl, S5, m, s⟩
        have HM5 := hidI m
        have HS5 : Hid (IS gp S w S5 w5) := HS4.out.trans s
        clear m s
        have HY5 := hidI (bdO HZ.out hn5)
        go_wp2_with fail
        refine (nameOrCall_any C gt cap base gp S5 (a5.1) ⟨4, 0, a3.2, a5.2, 0, 0⟩ 5 _ HM5.out (by rw [(nameP_ok hn5).1]; exact Nat.succ_pos _)).mono ?_
        cases hn6 : nameI C ⟨4, 0, a3.2, a5.2, 0, 0⟩ 5 (a5.1) with
        | error p =>
          rintro e w6 ⟨rfl, hb⟩
          have HB : Hid (Below base w w6) := (HH.out.back HS5.out).trans hb
          have HX : Hid (pE C .part d q = .error p) := HY5.out.trans hn6
          unfold Pan
          go_wp2
          refine ⟨rfl, ?_⟩
          rw [HX.out]
          exact ⟨rfl, HB.out⟩
        | ok a6 =>
          rintro e w6 ⟨rfl, S6, m, s⟩
          have HM6 := hidI m
          have HS6 : Hid (IS gp S w S6 w6) := HS5.out.trans s
          clear m s
          have HY6 := hidI (HY5.out.trans hn6)
          go_wp2
          go_ret
          rw [HY6.out]
          exact ⟨rfl, S6, HM6.out, HS6.out⟩
    | false =>
      have HZ := hidI (HY3.out.trans (if_neg (by rw [hd]; decide)))
      go_wp2_with fail
      refine (passes_any C gt cap base gp S3 (a3.1) 4 cPoint _ HM3.out (by decide)).mono ?_
      rintro e w4 ⟨rfl, m, s⟩
      rw [hd] at m ⊢
      have HM4 := hidI m
      have HS4 : Hid (IS gp S w S3 w4) := HS3.out.trans s
      clear m s
      go_wp2_with fail
      refine (nameOrCall_any C gt cap base gp S3 (a3.1) ⟨2, 0, a3.2, sNone, 0, 0⟩ 3 _ HM4.out hpos).mono ?_
      cases hn5 : nameI C ⟨2, 0, a3.2, sNone, 0, 0⟩ 3 (a3.1) with
      | error p =>
        rintro e w5 ⟨rfl, hb⟩
        have HB : Hid (Below base w w5) := (HH.out.back HS4.out).trans hb
        have HX : Hid (pE C .part d q = .error p) := HZ.out.trans hn5
        unfold Pan
        go_wp2
        refine ⟨rfl, ?_⟩
        rw [HX.out]
        exact ⟨rfl, HB.out⟩
      | ok a5 =>
        rintro e w5 ⟨rfl, S5, m, s⟩
        have HM5 := hidI m
        have HS5 : Hid (IS gp S w S5 w5) := HS4.out.trans s
        clear m s
        have HY5 := hidI (HZ.out.trans hn5)
        go_wp2
        go_ret
        rw [HY5.out]
        exact ⟨rfl, S5, HM5.out, HS5.out⟩

theorem partI_of (C : Cx) (gt cap base gp m d : Nat) (S : Sv) (q : PS) (w : World) (h : IM C gt cap base gp S q w) (hd : d ≤ 20) (hS : SumI C gt cap base gp m) (hm : C.ts.length - q.pos ≤ m) :
    Calls Tryz.prog 206 #[.pointer (some ⟨gp, 0, none⟩), .int .i64 d] w (IOut C gt cap base gp (pE C .part d q) id exI S w) := by
  cases hk : ((tokAt C q.pos).kind == 2) with
  | true => exact part_1 C gt cap base gp d S q w h hk
  | false =>
    cases h1 : isT C q.pos 4 cOpen with
    | true =>
      by_cases hdd : 20 ≤ d
      · exact part_2 C gt cap base gp d S q w h hk h1 hdd
      · exact part_3 C gt cap base gp m d S q w h hk h1 (by omega) hS hm
    | false =>
      cases h2 : C.scr with
      | true =>
        cases h3 : isT C q.pos 1 sUndef with
        | true => exact part_4 C gt cap base gp d S q w h hk h1 h2 h3
        | false => exact part_5 C gt cap base gp d S q w h hk h1 h2 h3
      | false => exact part_6 C gt cap base gp d S q w h hk h1 h2
end Go.Proofs.YticdggnnpjachaaGreat
namespace Go.Proofs.YticdggnnpjachaaGreat
open Go.RowKit Go.PlainAid Go.Sort

theorem prodT_no {C : Cx} {d : Nat} {q : PS} (h : isT C q.pos 4 cStar = false) : pE C .prodT d q = .ok q := by rw [pE_prodT, if_neg (by rw [h]; decide)]
theorem prodT_yes {C : Cx} {d : Nat} {q : PS} (h : isT C q.pos 4 cStar = true) : pE C .prodT d q = bd (pE C .part d (adv q)) fun a => bd (addEx C ⟨8, 0, sNone, sNone, (q.ex.length : Int) - 1, (a.ex.length : Int) - 1⟩ a) (pE C .prodT d) := by rw [pE_prodT, if_pos h, bd_bd]
theorem sumT_no {C : Cx} {d : Nat} {q : PS} (h : isT C q.pos 4 cMinus = false) (h2 : isT C q.pos 4 cPlus = false) : pE C .sumT d q = .ok q := by rw [pE_sumT, if_neg (by rw [h, h2]; decide)]
theorem sumT_minus {C : Cx} {d : Nat} {q : PS} (h : isT C q.pos 4 cMinus = true) : pE C .sumT d q = bd (pE C .prod d (adv q)) fun a => bd (addEx C ⟨7, 0, sNone, sNone, (q.ex.length : Int) - 1, (a.ex.length : Int) - 1⟩ a) (pE C .sumT d) := by
  rw [pE_sumT, if_pos (by rw [h]; exact Bool.or_true _), bd_bd, kindPM, if_pos h]
theorem sumT_plus {C : Cx} {d : Nat} {q : PS} (h : isT C q.pos 4 cMinus = false) (h2 : isT C q.pos 4 cPlus = true) : pE C .sumT d q = bd (pE C .prod d (adv q)) fun a => bd (addEx C ⟨6, 0, sNone, sNone, (q.ex.length : Int) - 1, (a.ex.length : Int) - 1⟩ a) (pE C .sumT d) := by
  rw [pE_sumT, if_pos (by rw [h2]; rfl), bd_bd, kindPM, if_neg (by rw [h]; decide)]

set_option maxRecDepth 100000 in
set_option maxHeartbeats 3200000 in
theorem productI_of (C : Cx) (gt cap base gp m d : Nat) (S : Sv) (q : PS) (w : World) (h : IM C gt cap base gp S q w) (hd : d ≤ 20) (hS : SumI C gt cap base gp m) (hm : C.ts.length - q.pos ≤ m) :
    Calls Tryz.prog 201 #[.pointer (some ⟨gp, 0, none⟩), .int .i64 d] w (IOut C gt cap base gp (pE C .prod d q) id exI S w) := by
  have HH := hidI h
  have HY := hidI (pE_prod C d q)
  clear h
  go_enter Tryz.func201, Tryz.ntmps201
  go_wp2_with fail
  refine (partI_of C gt cap base gp m d S q _ HH.out hd hS hm).mono ?_
  cases hn1 : pE C .part d q with
  | error p =>
    rintro e w1 ⟨rfl, hb⟩
    have HB : Hid (Below base w w1) := (HH.out.back (IS.refl _ _ _)).trans hb
    have HX : Hid (pE C .prod d q = .error p) := bdE HY.out hn1
    unfold Pan
    go_wp2
    refine ⟨rfl, ?_⟩
    rw [HX.out]
    exact ⟨rfl, HB.out⟩
  | ok a1 =>
    rintro e w1 ⟨rfl, S1, m, s⟩
    have HM1 := hidI m
    have HS1 := hidI s
    clear m s
    have HY1 := hidI (bdO HY.out hn1)
    unfold exI
    have hle := pE_pos hn1
    go_wp2
    go_loopg [5] (C.ts.length + 1) (fun k l wr => ∃ (S' : Sv) (q' : PS), l = exI q' ∧ pE C .prod d q = pE C .prodT d q' ∧ C.ts.length - q'.pos < k ∧ C.ts.length - q'.pos ≤ m ∧ IM C gt cap base gp S' q' wr ∧ IS gp S w S' wr)
    case atStart => exact ⟨S1, a1, rfl, HY1.out, by omega, by omega, HM1.out, HS1.out⟩
    case round =>
      obtain ⟨S', q', rfl, hy, hk, hm', m', s'⟩ := hrel
      have HYr := hidI hy
      have HMr : Hid (IM C gt cap base gp S' q' wr) := m'
      have HSr : Hid (IS gp S w S' wr) := s'
      clear hy m' s'
      unfold exI
      cases hi : isT C q'.pos 4 cStar with
      | false =>
        have HZ := hidI (HYr.out.trans (prodT_no hi))
        go_wp2_with fail
        refine (passes_any C gt cap base gp S' q' 4 cStar _ HMr.out (by decide)).mono ?_
        rintro e w2 ⟨rfl, m, s⟩
        rw [hi] at m ⊢
        have HM2 := hidI m
        have HS2 : Hid (IS gp S w S' w2) := HSr.out.trans s
        clear m s
        go_wp2
        go_ret
        rw [HZ.out]
        exact ⟨rfl, S', HM2.out, HS2.out⟩
      | true =>
        have hlt := isT_lt hi (by decide)
        have HZ := hidI (HYr.out.trans (prodT_yes hi))
        go_wp2_with fail
        refine (passes_any C gt cap base gp S' q' 4 cStar _ HMr.out (by decide)).mono ?_
        rintro e w2 ⟨rfl, m, s⟩
        rw [hi] at m ⊢
        have HM2 := hidI m
        have HS2 : Hid (IS gp S w S' w2) := HSr.out.trans s
        clear m s
        go_wp2_with fail
        refine (partI_of C gt cap base gp m d S' (adv q') _ HM2.out hd hS (by rw [adv_pos]; omega)).mono ?_
        cases hn3 : pE C .part d (adv q') with
        | error p =>
          rintro e w3 ⟨rfl, hb⟩
          have HB : Hid (Below base w w3) := (HH.out.back HS2.out).trans hb
          have HX : Hid (pE C .prod d q = .error p) := bdE HZ.out hn3
          unfold Pan
          go_wp2
          refine ⟨rfl, ?_⟩
          rw [HX.out]
          exact ⟨rfl, HB.out⟩
        | ok a3 =>
          rintro e w3 ⟨rfl, S3, m, s⟩
          have HM3 := hidI m
          have HS3 : Hid (IS gp S w S3 w3) := HS2.out.trans s
          clear m s
          have HY3 := hidI (bdO HZ.out hn3)
          unfold exI
          have hle2 := pE_pos hn3
          rw [adv_pos] at hle2
          have hp2 : 0 < a3.pos := by omega
          go_wp2_with fail
          refine (addExpr_any C gt cap base gp S3 a3 ⟨8, 0, sNone, sNone, (q'.ex.length : Int) - 1, (a3.ex.length : Int) - 1⟩ _ HM3.out hp2).mono ?_
          cases hn4 : addEx C ⟨8, 0, sNone, sNone, (q'.ex.length : Int) - 1, (a3.ex.length : Int) - 1⟩ a3 with
          | error p =>
            rintro e w4 ⟨rfl, hb⟩
            have HB : Hid (Below base w w4) := (HH.out.back HS3.out).trans hb
            have HX : Hid (pE C .prod d q = .error p) := bdE HY3.out hn4
            unfold Pan
            go_wp2
            refine ⟨rfl, ?_⟩
            rw [HX.out]
            exact ⟨rfl, HB.out⟩
          | ok a4 =>
            rintro e w4 ⟨rfl, S4, m, s⟩
            have HM4 := hidI m
            have HS4 : Hid (IS gp S w S4 w4) := HS3.out.trans s
            clear m s
            have HY4 := hidI (bdO HY3.out hn4)
            have HP : Hid (a4.pos = a3.pos) := by show _ = _; rw [(addEx_ok hn4).1]
            go_wp2
            go_roundg (gk - 1)
            case rel => exact ⟨S4, a4, rfl, HY4.out, by have := HP.out; omega, by have := HP.out; omega, HM4.out, HS4.out⟩
            case measure => omega

set_option maxRecDepth 100000 in
set_option maxHeartbeats 3200000 in
theorem sumI_of (C : Cx) (gt cap base gp m d : Nat) (S : Sv) (q : PS) (w : World) (h : IM C gt cap base gp S q w) (hd : d ≤ 20) (hS : SumI C gt cap base gp m) (hm : C.ts.length - q.pos ≤ m) :
    Calls Tryz.prog 183 #[.pointer (some ⟨gp, 0, none⟩), .int .i64 d] w (IOut C gt cap base gp (pE C .sum d q) id exI S w) := by
  have HH := hidI h
  have HY := hidI (pE_sum C d q)
  clear h
  go_enter Tryz.func183, Tryz.ntmps183
  go_wp2_with fail
  refine (productI_of C gt cap base gp m d S q _ HH.out hd hS hm).mono ?_
  cases hn1 : pE C .prod d q with
  | error p =>
    rintro e w1 ⟨rfl, hb⟩
    have HB : Hid (Below base w w1) := (HH.out.back (IS.refl _ _ _)).trans hb
    have HX : Hid (pE C .sum d q = .error p) := bdE HY.out hn1
    unfold Pan
    go_wp2
    refine ⟨rfl, ?_⟩
    rw [HX.out]
    exact ⟨rfl, HB.out⟩
  | ok a1 =>
    rintro e w1 ⟨rfl, S1, m, s⟩
    have HM1 := hidI m
    have HS1 := hidI s
    clear m s
    have HY1 := hidI (bdO HY.out hn1)
    unfold exI
    have hle := pE_pos hn1
    go_wp2
    go_loopg [5] (C.ts.length + 1) (fun k l wr => ∃ (S' : Sv) (q' : PS), l = exI q' ∧ pE C .sum d q = pE C .sumT d q' ∧ C.ts.length - q'.pos < k ∧ C.ts.length - q'.pos ≤ m ∧ IM C gt cap base gp S' q' wr ∧ IS gp S w S' wr)
    case atStart => exact ⟨S1, a1, rfl, HY1.out, by omega, by omega, HM1.out, HS1.out⟩
    case round =>
      obtain ⟨S', q', rfl, hy, hk, hm', m', s'⟩ := hrel
      have HYr := hidI hy
      have HMr : Hid (IM C gt cap base gp S' q' wr) := m'
      have HSr : Hid (IS gp S w S' wr) := s'
      clear hy m' s'
      unfold exI
      have hfew := HMr.out.mem.few
      cases hi : isT C q'.pos 4 cMinus with
      | true =>
        have hlt := isT_lt hi (by decide)
        have HZ := hidI (HYr.out.trans (sumT_minus hi))
        go_wp2_with fail
        refine (comes_any C gt cap base gp S' q' 4 cMinus _ HMr.out).mono ?_
        rintro e w2 ⟨rfl, hb⟩
        rw [hi]
        have HM2 : Hid (IM C gt cap base gp S' q' w2) := HMr.out.later hb
        have HS2 : Hid (IS gp S w S' w2) := (HSr.out.trans (IS.below hb))
        clear hb
        obtain ⟨c0, c1, c2, c3, c4, c5, c6, c7, c8, c9, cf⟩ := box10_of HM2.out.cells
        go_wp2_with fail
        have HM3 : Hid (IM C gt cap base gp S' (adv q') (w2.setCell ⟨gp, 1, none⟩ (.int .i64 ((q'.pos : Int) + 1)))) := HM2.out.adv hlt
        have HS3 : Hid (IS gp S w S' (w2.setCell ⟨gp, 1, none⟩ (.int .i64 ((q'.pos : Int) + 1)))) := HS2.out.set _ _
        refine (productI_of C gt cap base gp m d S' (adv q') _ HM3.out hd hS (by rw [adv_pos]; omega)).mono ?_
        cases hn4 : pE C .prod d (adv q') with
        | error p =>
          rintro e w4 ⟨rfl, hb⟩
          have HB : Hid (Below base w w4) := (HH.out.back HS3.out).trans hb
          have HX : Hid (pE C .sum d q = .error p) := bdE HZ.out hn4
          unfold Pan
          go_wp2
          refine ⟨rfl, ?_⟩
          rw [HX.out]
          exact ⟨rfl, HB.out⟩
        | ok a4 =>
          rintro e w4 ⟨rfl, S4, m, s⟩
          have HM4 := hidI m
          have HS4 : Hid (IS gp S w S4 w4) := HS3.out.trans s
          clear m s
          have HY4 := hidI (bdO HZ.out hn4)
          unfold exI
          have hle2 := pE_pos hn4
          rw [adv_pos] at hle2
          have hp2 : 0 < a4.pos := by omega
          go_wp2_with fail
          refine (addExpr_any C gt cap base gp S4 a4 ⟨7, 0, sNone, sNone, (q'.ex.length : Int) - 1, (a4.ex.length : Int) - 1⟩ _ HM4.out hp2).mono ?_
          cases hn5 : addEx C ⟨7, 0, sNone, sNone, (q'.ex.length : Int) - 1, (a4.ex.length : Int) - 1⟩ a4 with
          | error p =>
            rintro e w5 ⟨rfl, hb⟩
            have HB : Hid (Below base w w5) := (HH.out.back HS4.out).trans hb
            have HX : Hid (pE C .sum d q = .error p) := bdE HY4.out hn5
            unfold Pan
            go_wp2
            refine ⟨rfl, ?_⟩
            rw [HX.out]
            exact ⟨rfl, HB.out⟩
          | ok a5 =>
            rintro e w5 ⟨rfl, S5, m, s⟩
            have HM5 := hidI m
            have HS5 : Hid (IS gp S w S5 w5) := HS4.out.trans s
            clear m s
            have HY5 := hidI (bdO HY4.out hn5)
            have HP : Hid (a5.pos = a4.pos) := by show _ = _; rw [(addEx_ok hn5).1]
            go_wp2
            go_roundg (gk - 1)
            case rel => exact ⟨S5, a5, rfl, HY5.out, by have := HP.out; omega, by have := HP.out; omega, HM5.out, HS5.out⟩
            case measure => omega
      | false =>
        cases hj : isT C q'.pos 4 cPlus with
        | true =>
          have hlt := isT_lt hj (by decide)
          have HZ := hidI (HYr.out.trans (sumT_plus hi hj))
          go_wp2_with fail
          refine (comes_any C gt cap base gp S' q' 4 cMinus _ HMr.out).mono ?_
          rintro e w2 ⟨rfl, hb⟩
          rw [hi]
          have HM2 : Hid (IM C gt cap base gp S' q' w2) := HMr.out.later hb
          have HS2 : Hid (IS gp S w S' w2) := (HSr.out.trans (IS.below hb))
          clear hb
          go_wp2_with fail
          refine (comes_any C gt cap base gp S' q' 4 cPlus _ HM2.out).mono ?_
          rintro e w3 ⟨rfl, hb⟩
          rw [hj]
          have HM3 : Hid (IM C gt cap base gp S' q' w3) := HM2.out.later hb
          have HS3 : Hid (IS gp S w S' w3) := (HS2.out.trans (IS.below hb))
          clear hb
          obtain ⟨c0, c1, c2, c3, c4, c5, c6, c7, c8, c9, cf⟩ := box10_of HM3.out.cells
          go_wp2_with fail
          have HM4 : Hid (IM C gt cap base gp S' (adv q') (w3.setCell ⟨gp, 1, none⟩ (.int .i64 ((q'.pos : Int) + 1)))) := HM3.out.adv hlt
          have HS4 : Hid (IS gp S w S' (w3.setCell ⟨gp, 1, none⟩ (.int .i64 ((q'.pos : Int) + 1)))) := HS3.out.set _ _
          refine (productI_of C gt cap base gp m d S' (adv q') _ HM4.out hd hS (by rw [adv_pos]; omega)).mono ?_
          cases hn5 : pE C .prod d (adv q') with
          | error p =>
            rintro e w5 ⟨rfl, hb⟩
            have HB : Hid (Below base w w5) := (HH.out.back HS4.out).trans hb
            have HX : Hid (pE C .sum d q = .error p) := bdE HZ.out hn5
            unfold Pan
            go_wp2
            refine ⟨rfl, ?_⟩
            rw [HX.out]
            exact ⟨rfl, HB.out⟩
          | ok a5 =>
            rintro e w5 ⟨rfl, S5, m, s⟩
            have HM5 := hidI m
            have HS5 : Hid (IS gp S w S5 w5) := HS4.out.trans s
            clear m s
            have HY5 := hidI (bdO HZ.out hn5)
            unfold exI
            have hle2 := pE_pos hn5
            rw [adv_pos] at hle2
            have hp2 : 0 < a5.pos := by omega
            go_wp2_with fail
            refine (addExpr_any C gt cap base gp S5 a5 ⟨6, 0, sNone, sNone, (q'.ex.length : Int) - 1, (a5.ex.length : Int) - 1⟩ _ HM5.out hp2).mono ?_
            cases hn6 : addEx C ⟨6, 0, sNone, sNone, (q'.ex.length : Int) - 1, (a5.ex.length : Int) - 1⟩ a5 with
            | error p =>
              rintro e w6 ⟨rfl, hb⟩
              have HB : Hid (Below base w w6) := (HH.out.back HS5.out).trans hb
              have HX : Hid (pE C .sum d q = .error p) := bdE HY5.out hn6
              unfold Pan
              go_wp2
              refine ⟨rfl, ?_⟩
              rw [HX.out]
              exact ⟨rfl, HB.out⟩
            | ok a6 =>
              rintro e w6 ⟨rfl, S6, m, s⟩
              have HM6 := hidI m
              have HS6 : Hid (IS gp S w S6 w6) := HS5.out.trans s
              clear m s
              have HY6 := hidI (bdO HY5.out hn6)
              have HP : Hid (a6.pos = a5.pos) := by show _ = _; rw [(addEx_ok hn6).1]
              go_wp2
              go_roundg (gk - 1)
              case rel => exact ⟨S6, a6, rfl, HY6.out, by have := HP.out; omega, by have := HP.out; omega, HM6.out, HS6.out⟩
              case measure => omega
        | false =>
          have HZ := hidI (HYr.out.trans (sumT_no hi hj))
          go_wp2_with fail
          refine (comes_any C gt cap base gp S' q' 4 cMinus _ HMr.out).mono ?_
          rintro e w2 ⟨rfl, hb⟩
          rw [hi]
          have HM2 : Hid (IM C gt cap base gp S' q' w2) := HMr.out.later hb
          have HS2 : Hid (IS gp S w S' w2) := (HSr.out.trans (IS.below hb))
          clear hb
          go_wp2_with fail
          refine (comes_any C gt cap base gp S' q' 4 cPlus _ HM2.out).mono ?_
          rintro e w3 ⟨rfl, hb⟩
          rw [hj]
          have HM3 : Hid (IM C gt cap base gp S' q' w3) := HM2.out.later hb
          have HS3 : Hid (IS gp S w S' w3) := (HS2.out.trans (IS.below hb))
          clear hb
          go_wp2
          go_ret
          rw [HZ.out]
          exact ⟨rfl, S', HM3.out, HS3.out⟩

theorem sumI_all (C : Cx) (gt cap base gp m : Nat) : SumI C gt cap base gp m := by
  induction m with
  | zero => intro d S q w hlt; omega
  | succ m ih => intro d S q w hlt hd h; exact sumI_of C gt cap base gp m d S q w h hd ih (by omega)
theorem sum_any (C : Cx) (gt cap base gp d : Nat) (S : Sv) (q : PS) (w : World) (h : IM C gt cap base gp S q w) (hd : d ≤ 20) :
    Calls Tryz.prog 183 #[.pointer (some ⟨gp, 0, none⟩), .int .i64 d] w (IOut C gt cap base gp (pE C .sum d q) id exI S w) := sumI_all C gt cap base gp _ d S q w (Nat.lt_succ_self _) hd h
end Go.Proofs.YticdggnnpjachaaGreat
namespace Go.Proofs.YticdggnnpjachaaGreat
open Go.RowKit Go.PlainAid Go.Sort

theorem signsP_ok {C : Cx} {s : ByteArray} (n : Nat) : ∀ {k : Nat} {q b : PS}, signsP C s n k q = .ok b → b = { q with pos := q.pos + n } := by
  induction n with
  | zero => intro k q b h; cases h; rfl
  | succ n ih =>
    intro k q b h
    rw [signsP] at h
    obtain ⟨a, h1, h2⟩ := bd_eq_ok h
    rw [ih h2, (tokP_ok h1).1]
    show ({ q with pos := q.pos + 1 + n } : PS) = _
    congr 1
    omega
theorem sm_ones (x : Sm) : ∀ u ∈ smL x, u.oneCell' = true := by
  intro u hu
  simp [smL] at hu
  rcases hu with rfl | rfl | rfl <;> rfl
def stmtI (C : Cx) (k : Int) (n s : ByteArray) (q : PS) : PR := bd (pE C .sum 0 q) fun a => bd (signsP C s s.size 0 a) fun b => addSt C k n b
set_option maxRecDepth 100000 in
set_option maxHeartbeats 3200000 in
theorem statement_any (C : Cx) (gt cap base gp : Nat) (S : Sv) (q : PS) (kd : Int) (n s : ByteArray) (w : World) (h : IM C gt cap base gp S q w) (hs : s.size ≤ 100) (h0 : 0 < s.size) :
    Calls Tryz.prog 154 #[.pointer (some ⟨gp, 0, none⟩), .int .i64 kd, .string n, .string s] w (IOut C gt cap base gp (stmtI C kd n s q) id (fun _ => .tuple #[]) S w) := by
  obtain ⟨i0, hi, hz0, hz1, hz2⟩ := info_parts Tryz.infoStmt
  have HH := hidI h
  have HY := hidI (stmtI.eq_1 C kd n s q)
  clear h
  go_enter Tryz.func154, Tryz.ntmps154
  go_wp2_with fail
  refine (sum_any C gt cap base gp 0 S q _ HH.out (by omega)).mono ?_
  cases hn1 : pE C .sum 0 q with
  | error p =>
    rintro e w1 ⟨rfl, hb⟩
    have HB : Hid (Below base w w1) := (HH.out.back (IS.refl _ _ _)).trans hb
    have HX : Hid (stmtI C kd n s q = .error p) := bdE HY.out hn1
    unfold Pan
    go_wp2
    refine ⟨rfl, ?_⟩
    rw [HX.out]
    exact ⟨rfl, HB.out⟩
  | ok a1 =>
    rintro e w1 ⟨rfl, S1, m, s⟩
    have HM1 := hidI m
    have HS1 := hidI s
    clear m s
    have HY1 := hidI (bdO HY.out hn1)
    unfold exI
    go_wp2_with fail
    refine (passSigns_any C gt cap base gp S1 a1 s _ HM1.out hs).mono ?_
    cases hn2 : signsP C s s.size 0 a1 with
    | error p =>
      rintro e w2 ⟨rfl, hb⟩
      have HB : Hid (Below base w w2) := (HH.out.back HS1.out).trans hb
      have HX : Hid (stmtI C kd n s q = .error p) := bdE HY1.out hn2
      unfold Pan
      go_wp2
      refine ⟨rfl, ?_⟩
      rw [HX.out]
      exact ⟨rfl, HB.out⟩
    | ok a2 =>
      rintro e w2 ⟨rfl, S2, m, s⟩
      have HM2 := hidI m
      have HS2 : Hid (IS gp S w S2 w2) := HS1.out.trans s
      clear m s
      have HY2 := hidI (bdO HY1.out hn2)
      have hb2 := signsP_ok _ hn2
      have hpos : 0 < a2.pos := by rw [hb2]; show 0 < a1.pos + s.size; omega
      have HE : Hid (a2.ex = a1.ex) := by show _ = _; rw [hb2]
      clear hb2
      have hin := HM2.out.mem.inv.st
      obtain ⟨c0, c1, c2, c3, c4, c5, c6, c7, c8, c9, cf⟩ := box10_of HM2.out.cells
      go_wp2_with fail
      by_cases hn : a2.st.length < 80
      · have HZ := hidI (HY2.out.trans (show addSt C kd n a2 = _ from if_neg (by omega)))
        refine (room_yes gp a2.st.length 80 _ (by omega)).mono ?_
        rintro e w' ⟨rfl, hw⟩
        rw [hw]
        clear hw w'
        have HN : Hid (some gp ≠ S2.st.blk) := fun e => HM2.out.free (.inr (.inr (.inr (.inl e.symm))))
        have hlt := HM2.out.lt
        have hown := fun o1 => (HM2.out.mem.own.st.alloc o1)
        have hsz := fun o1 => (HM2.out.alloc o1).mem.base
        have hgl := fun o1 => (HM2.out.alloc o1).lt
        have hcl := fun o1 => (HM2.out.alloc o1).cells
        go_wp2_with (at_builtin; refine app_row _ rfl _ _ 25 rfl base 106 i0 _ 3 32 Tryz.underlying25 hi hz0 hz1 hz2 rfl (by decide) (by decide) S2.st a2.st.length _ (by rfl) (hown _) w2.heap.size (smL ⟨kd, n, (a1.ex.length : Int) - 1⟩) (by rfl) (by exact heap_alloc_new w2 _) rfl (sm_ones _) (by omega) (hsz _) ?_; intro r' wz hr hgr hat; have g2 := (hgr.block gp (hgl _) HN.out).trans (hcl _); obtain ⟨d0, d1, d2, d3, d4, d5, d6, d7, d8, d9, df⟩ := box10_of g2; have HR : Hid (OwnR wz base 106 3 r' (a2.st.length + 1) _) := hr; have HGR : Hid (World.grownBy _ wz _) := hgr; have HAT : Hid (_ ∨ _) := hat; clear hr hgr hat g2 c0 c1 c2 c3 c4 c5 c6 c7 c8 c9 cf hown hsz hgl hcl)
        go_wp2
        go_end0
        obtain ⟨m', s'⟩ := HM2.out.grow_st ((Below.refl _ _).alloc (Nat.le_refl _) _) HGR.out HR.out HAT.out hn
        rw [HZ.out]
        rw [← HE.out] at m'
        exact ⟨rfl, _, m', HS2.out.trans s'⟩
      · have HZ : Hid (stmtI C kd n s q = .error (here C (a2.pos - 1))) := HY2.out.trans (if_pos (by omega))
        refine (room_no C gt cap base gp S2 a2 a2.st.length 80 _ HM2.out (by omega) hpos).mono ?_
        rintro e wz ⟨rfl, hb⟩
        have HB : Hid (Below base w wz) := (HH.out.back HS2.out).trans (hb.mono HM2.out.mem.base)
        have HX : Hid (stmtI C kd n s q = .error (here C (a2.pos - 1))) := HZ.out
        unfold Pan
        go_wp2
        refine ⟨rfl, ?_⟩
        rw [HX.out]
        exact ⟨rfl, HB.out⟩
end Go.Proofs.YticdggnnpjachaaGreat
namespace Go.Proofs.YticdggnnpjachaaGreat
open Go.RowKit Go.PlainAid Go.Sort

def letJ (C : Cx) (k : Int) (q : PS) : PR := bd (nameP C false q) fun a => bd (tokP C 4 cEq a.1) fun b => stmtI C k a.2 cSemi b
def fnI (C : Cx) (q : PS) : PR := bd (nameP C false q) fun a => bd (signsP C cCall cCall.size 0 a.1) fun b => bd (tokP C 1 sReturn b) fun c => stmtI C 2 a.2 cSemiRight c
def printI (C : Cx) (q : PS) : PR := bd (tokP C 4 cOpen q) fun a => stmtI C 4 sNone cShutSemi a

set_option maxRecDepth 100000 in
set_option maxHeartbeats 1600000 in
theorem letItem_any (C : Cx) (gt cap base gp : Nat) (S : Sv) (q : PS) (w : World) (h : IM C gt cap base gp S q w) :
    Calls Tryz.prog 144 #[.pointer (some ⟨gp, 0, none⟩)] w (IOut C gt cap base gp (letJ C 1 q) id (fun _ => .tuple #[]) S w) := by
  have HH := hidI h
  have HY := hidI (letJ.eq_1 C 1 q)
  clear h
  go_enter Tryz.func144, Tryz.ntmps144
  go_wp2_with fail
  refine (plainName_any C gt cap base gp S q _ HH.out).mono ?_
  cases hn1 : nameP C false q with
  | error p =>
    rintro e w1 ⟨rfl, hb⟩
    have HB : Hid (Below base w w1) := (HH.out.back (IS.refl _ _ _)).trans hb
    have HX : Hid (letJ C 1 q = .error p) := bdE HY.out hn1
    unfold Pan
    go_wp2
    refine ⟨rfl, ?_⟩
    rw [HX.out]
    exact ⟨rfl, HB.out⟩
  | ok a1 =>
    rintro e w1 ⟨rfl, S1, m, s⟩
    have HM1 := hidI m
    have HS1 := hidI s
    clear m s
    have HY1 := hidI (bdO HY.out hn1)
    go_wp2_with fail
    refine (passSign C gt cap base gp S1 (a1.1) 61 _ HM1.out).mono ?_
    cases hn2 : tokP C 4 cEq (a1.1) with
    | error p =>
      rintro e w2 ⟨rfl, hb⟩
      have HB : Hid (Below base w w2) := (HH.out.back HS1.out).trans hb
      have HX : Hid (letJ C 1 q = .error p) := bdE HY1.out hn2
      unfold Pan
      go_wp2
      refine ⟨rfl, ?_⟩
      rw [HX.out]
      exact ⟨rfl, HB.out⟩
    | ok a2 =>
      rintro e w2 ⟨rfl, S2, m, s⟩
      have HM2 := hidI m
      have HS2 : Hid (IS gp S w S2 w2) := HS1.out.trans s
      clear m s
      have HY2 := hidI (bdO HY1.out hn2)
      go_wp2_with fail
      refine (statement_any C gt cap base gp S2 a2 1 a1.2 cSemi _ HM2.out (by decide) (by decide)).mono ?_
      cases hn3 : stmtI C 1 a1.2 cSemi a2 with
      | error p =>
        rintro e w3 ⟨rfl, hb⟩
        have HB : Hid (Below base w w3) := (HH.out.back HS2.out).trans hb
        have HX : Hid (letJ C 1 q = .error p) := HY2.out.trans hn3
        unfold Pan
        go_wp2
        refine ⟨rfl, ?_⟩
        rw [HX.out]
        exact ⟨rfl, HB.out⟩
      | ok a3 =>
        rintro e w3 ⟨rfl, S3, m, s⟩
        have HM3 := hidI m
        have HS3 : Hid (IS gp S w S3 w3) := HS2.out.trans s
        clear m s
        have HY3 := hidI (HY2.out.trans hn3)
        go_wp2
        go_end0
        rw [HY3.out]
        exact ⟨rfl, S3, HM3.out, HS3.out⟩

set_option maxRecDepth 100000 in
set_option maxHeartbeats 1600000 in
theorem setItem_any (C : Cx) (gt cap base gp : Nat) (S : Sv) (q : PS) (w : World) (h : IM C gt cap base gp S q w) :
    Calls Tryz.prog 90 #[.pointer (some ⟨gp, 0, none⟩)] w (IOut C gt cap base gp (letJ C 3 q) id (fun _ => .tuple #[]) S w) := by
  have HH := hidI h
  have HY := hidI (letJ.eq_1 C 3 q)
  clear h
  go_enter Tryz.func90, Tryz.ntmps90
  go_wp2_with fail
  refine (plainName_any C gt cap base gp S q _ HH.out).mono ?_
  cases hn1 : nameP C false q with
  | error p =>
    rintro e w1 ⟨rfl, hb⟩
    have HB : Hid (Below base w w1) := (HH.out.back (IS.refl _ _ _)).trans hb
    have HX : Hid (letJ C 3 q = .error p) := bdE HY.out hn1
    unfold Pan
    go_wp2
    refine ⟨rfl, ?_⟩
    rw [HX.out]
    exact ⟨rfl, HB.out⟩
  | ok a1 =>
    rintro e w1 ⟨rfl, S1, m, s⟩
    have HM1 := hidI m
    have HS1 := hidI s
    clear m s
    have HY1 := hidI (bdO HY.out hn1)
    go_wp2_with fail
    refine (passSign C gt cap base gp S1 (a1.1) 61 _ HM1.out).mono ?_
    cases hn2 : tokP C 4 cEq (a1.1) with
    | error p =>
      rintro e w2 ⟨rfl, hb⟩
      have HB : Hid (Below base w w2) := (HH.out.back HS1.out).trans hb
      have HX : Hid (letJ C 3 q = .error p) := bdE HY1.out hn2
      unfold Pan
      go_wp2
      refine ⟨rfl, ?_⟩
      rw [HX.out]
      exact ⟨rfl, HB.out⟩
    | ok a2 =>
      rintro e w2 ⟨rfl, S2, m, s⟩
      have HM2 := hidI m
      have HS2 : Hid (IS gp S w S2 w2) := HS1.out.trans s
      clear m s
      have HY2 := hidI (bdO HY1.out hn2)
      go_wp2_with fail
      refine (statement_any C gt cap base gp S2 a2 3 a1.2 cSemi _ HM2.out (by decide) (by decide)).mono ?_
      cases hn3 : stmtI C 3 a1.2 cSemi a2 with
      | error p =>
        rintro e w3 ⟨rfl, hb⟩
        have HB : Hid (Below base w w3) := (HH.out.back HS2.out).trans hb
        have HX : Hid (letJ C 3 q = .error p) := HY2.out.trans hn3
        unfold Pan
        go_wp2
        refine ⟨rfl, ?_⟩
        rw [HX.out]
        exact ⟨rfl, HB.out⟩
      | ok a3 =>
        rintro e w3 ⟨rfl, S3, m, s⟩
        have HM3 := hidI m
        have HS3 : Hid (IS gp S w S3 w3) := HS2.out.trans s
        clear m s
        have HY3 := hidI (HY2.out.trans hn3)
        go_wp2
        go_end0
        rw [HY3.out]
        exact ⟨rfl, S3, HM3.out, HS3.out⟩

set_option maxRecDepth 100000 in
set_option maxHeartbeats 1600000 in
theorem functionItem_any (C : Cx) (gt cap base gp : Nat) (S : Sv) (q : PS) (w : World) (h : IM C gt cap base gp S q w) :
    Calls Tryz.prog 145 #[.pointer (some ⟨gp, 0, none⟩)] w (IOut C gt cap base gp (fnI C q) id (fun _ => .tuple #[]) S w) := by
  have HH := hidI h
  have HY := hidI (fnI.eq_1 C q)
  clear h
  go_enter Tryz.func145, Tryz.ntmps145
  go_wp2_with fail
  refine (plainName_any C gt cap base gp S q _ HH.out).mono ?_
  cases hn1 : nameP C false q with
  | error p =>
    rintro e w1 ⟨rfl, hb⟩
    have HB : Hid (Below base w w1) := (HH.out.back (IS.refl _ _ _)).trans hb
    have HX : Hid (fnI C q = .error p) := bdE HY.out hn1
    unfold Pan
    go_wp2
    refine ⟨rfl, ?_⟩
    rw [HX.out]
    exact ⟨rfl, HB.out⟩
  | ok a1 =>
    rintro e w1 ⟨rfl, S1, m, s⟩
    have HM1 := hidI m
    have HS1 := hidI s
    clear m s
    have HY1 := hidI (bdO HY.out hn1)
    go_wp2_with fail
    refine (passSigns_any C gt cap base gp S1 (a1.1) cCall _ HM1.out (by decide)).mono ?_
    cases hn2 : signsP C cCall cCall.size 0 (a1.1) with
    | error p =>
      rintro e w2 ⟨rfl, hb⟩
      have HB : Hid (Below base w w2) := (HH.out.back HS1.out).trans hb
      have HX : Hid (fnI C q = .error p) := bdE HY1.out hn2
      unfold Pan
      go_wp2
      refine ⟨rfl, ?_⟩
      rw [HX.out]
      exact ⟨rfl, HB.out⟩
    | ok a2 =>
      rintro e w2 ⟨rfl, S2, m, s⟩
      have HM2 := hidI m
      have HS2 : Hid (IS gp S w S2 w2) := HS1.out.trans s
      clear m s
      have HY2 := hidI (bdO HY1.out hn2)
      go_wp2_with fail
      refine (passName_any C gt cap base gp S2 a2 sReturn _ HM2.out).mono ?_
      cases hn3 : tokP C 1 sReturn a2 with
      | error p =>
        rintro e w3 ⟨rfl, hb⟩
        have HB : Hid (Below base w w3) := (HH.out.back HS2.out).trans hb
        have HX : Hid (fnI C q = .error p) := bdE HY2.out hn3
        unfold Pan
        go_wp2
        refine ⟨rfl, ?_⟩
        rw [HX.out]
        exact ⟨rfl, HB.out⟩
      | ok a3 =>
        rintro e w3 ⟨rfl, S3, m, s⟩
        have HM3 := hidI m
        have HS3 : Hid (IS gp S w S3 w3) := HS2.out.trans s
        clear m s
        have HY3 := hidI (bdO HY2.out hn3)
        go_wp2_with fail
        refine (statement_any C gt cap base gp S3 a3 2 a1.2 cSemiRight _ HM3.out (by decide) (by decide)).mono ?_
        cases hn4 : stmtI C 2 a1.2 cSemiRight a3 with
        | error p =>
          rintro e w4 ⟨rfl, hb⟩
          have HB : Hid (Below base w w4) := (HH.out.back HS3.out).trans hb
          have HX : Hid (fnI C q = .error p) := HY3.out.trans hn4
          unfold Pan
          go_wp2
          refine ⟨rfl, ?_⟩
          rw [HX.out]
          exact ⟨rfl, HB.out⟩
        | ok a4 =>
          rintro e w4 ⟨rfl, S4, m, s⟩
          have HM4 := hidI m
          have HS4 : Hid (IS gp S w S4 w4) := HS3.out.trans s
          clear m s
          have HY4 := hidI (HY3.out.trans hn4)
          go_wp2
          go_end0
          rw [HY4.out]
          exact ⟨rfl, S4, HM4.out, HS4.out⟩

set_option maxRecDepth 100000 in
set_option maxHeartbeats 1600000 in
theorem printItem_any (C : Cx) (gt cap base gp : Nat) (S : Sv) (q : PS) (w : World) (h : IM C gt cap base gp S q w) :
    Calls Tryz.prog 146 #[.pointer (some ⟨gp, 0, none⟩)] w (IOut C gt cap base gp (printI C q) id (fun _ => .tuple #[]) S w) := by
  have HH := hidI h
  have HY := hidI (printI.eq_1 C q)
  clear h
  go_enter Tryz.func146, Tryz.ntmps146
  go_wp2_with fail
  refine (passSign C gt cap base gp S q 40 _ HH.out).mono ?_
  cases hn1 : tokP C 4 cOpen q with
  | error p =>
    rintro e w1 ⟨rfl, hb⟩
    have HB : Hid (Below base w w1) := (HH.out.back (IS.refl _ _ _)).trans hb
    have HX : Hid (printI C q = .error p) := bdE HY.out hn1
    unfold Pan
    go_wp2
    refine ⟨rfl, ?_⟩
    rw [HX.out]
    exact ⟨rfl, HB.out⟩
  | ok a1 =>
    rintro e w1 ⟨rfl, S1, m, s⟩
    have HM1 := hidI m
    have HS1 := hidI s
    clear m s
    have HY1 := hidI (bdO HY.out hn1)
    go_wp2_with fail
    refine (statement_any C gt cap base gp S1 a1 4 sNone cShutSemi _ HM1.out (by decide) (by decide)).mono ?_
    cases hn2 : stmtI C 4 sNone cShutSemi a1 with
    | error p =>
      rintro e w2 ⟨rfl, hb⟩
      have HB : Hid (Below base w w2) := (HH.out.back HS1.out).trans hb
      have HX : Hid (printI C q = .error p) := HY1.out.trans hn2
      unfold Pan
      go_wp2
      refine ⟨rfl, ?_⟩
      rw [HX.out]
      exact ⟨rfl, HB.out⟩
    | ok a2 =>
      rintro e w2 ⟨rfl, S2, m, s⟩
      have HM2 := hidI m
      have HS2 : Hid (IS gp S w S2 w2) := HS1.out.trans s
      clear m s
      have HY2 := hidI (HY1.out.trans hn2)
      go_wp2
      go_end0
      rw [HY2.out]
      exact ⟨rfl, S2, HM2.out, HS2.out⟩

set_option maxRecDepth 100000 in
theorem throwItem_any (C : Cx) (gt cap base gp : Nat) (S : Sv) (q : PS) (w : World) (h : IM C gt cap base gp S q w) :
    Calls Tryz.prog 147 #[.pointer (some ⟨gp, 0, none⟩)] w (IOut C gt cap base gp (stmtI C 5 sNone cSemi q) id (fun _ => .tuple #[]) S w) := by
  have HH := hidI h
  clear h
  go_enter Tryz.func147, Tryz.ntmps147
  go_wp2_with fail
  refine (statement_any C gt cap base gp S q 5 sNone cSemi _ HH.out (by decide) (by decide)).mono ?_
  cases hn : stmtI C 5 sNone cSemi q with
  | error p =>
    rintro e w1 ⟨rfl, hb⟩
    unfold Pan
    go_wp2
    refine ⟨rfl, ?_⟩
    rw [hn]
    exact ⟨rfl, hb⟩
  | ok a =>
    rintro e w1 ⟨rfl, S1, m, s⟩
    have HM := hidI m
    have HS := hidI s
    clear m s
    go_wp2
    go_end0
    rw [hn]
    exact ⟨rfl, S1, HM.out, HS.out⟩

set_option maxRecDepth 100000 in
theorem failItem_any (C : Cx) (gt cap base gp : Nat) (S : Sv) (q : PS) (w : World) (h : IM C gt cap base gp S q w) :
    Calls Tryz.prog 148 #[.pointer (some ⟨gp, 0, none⟩)] w (IOut C gt cap base gp (stmtI C 6 sNone cSemi q) id (fun _ => .tuple #[]) S w) := by
  have HH := hidI h
  clear h
  go_enter Tryz.func148, Tryz.ntmps148
  go_wp2_with fail
  refine (statement_any C gt cap base gp S q 6 sNone cSemi _ HH.out (by decide) (by decide)).mono ?_
  cases hn : stmtI C 6 sNone cSemi q with
  | error p =>
    rintro e w1 ⟨rfl, hb⟩
    unfold Pan
    go_wp2
    refine ⟨rfl, ?_⟩
    rw [hn]
    exact ⟨rfl, hb⟩
  | ok a =>
    rintro e w1 ⟨rfl, S1, m, s⟩
    have HM := hidI m
    have HS := hidI s
    clear m s
    go_wp2
    go_end0
    rw [hn]
    exact ⟨rfl, S1, HM.out, HS.out⟩

def itemWordI (C : Cx) (i : Nat) : ByteArray := if (tokAt C i).kind == 1 then (tokAt C i).text else sNone
set_option maxRecDepth 100000 in
set_option maxHeartbeats 1600000 in
theorem itemWord_any (C : Cx) (gt cap base gp : Nat) (S : Sv) (q : PS) (w : World) (h : IM C gt cap base gp S q w) :
    Calls Tryz.prog 89 #[.pointer (some ⟨gp, 0, none⟩)] w fun e w' => e = .returned (.string (itemWordI C q.pos)) ∧ Below w.heap.size w w' := by
  have HH := hidI h
  clear h
  cases hk : ((tokAt C q.pos).kind == 1) with
  | true =>
    have HV : Hid (itemWordI C q.pos = (tokAt C q.pos).text) := by show _ = _; rw [itemWordI, hk]; rfl
    go_enter Tryz.func89, Tryz.ntmps89
    go_wp2_with fail
    refine (peek_any C gt cap base gp S q _ HH.out).mono ?_
    rintro e w1 ⟨rfl, hb⟩
    unfold tkV
    go_wp2
    go_ret
    rw [HV.out]
    exact ⟨rfl, hb.alloc hb.size _⟩
  | false =>
    have HV : Hid (itemWordI C q.pos = sNone) := by show _ = _; rw [itemWordI, hk]; rfl
    go_enter Tryz.func89, Tryz.ntmps89
    go_wp2_with fail
    refine (peek_any C gt cap base gp S q _ HH.out).mono ?_
    rintro e w1 ⟨rfl, hb⟩
    unfold tkV
    go_wp2
    go_ret
    rw [HV.out]
    exact ⟨rfl, hb.alloc hb.size _⟩
theorem OwnR.stmtName {w : World} {base : Nat} {r : Rw} {l : List Sm} {x : Sm} (h : OwnR w base 106 3 r (l ++ [x]).length ((l ++ [x]).flatMap smL)) : ∃ g, r.a = some ⟨g, 0, none⟩ ∧ w.cell? ⟨g, l.length * 3 + 1, none⟩ = some (.string x.name) := by
  rcases h.2 with ⟨_, hn⟩ | ⟨g, cap, cur, hv, _⟩
  · simp at hn
  · simp only [Value.slice.injEq] at hv
    have h' := h
    unfold OwnR at h'
    rw [hv.1, hv.2.2] at h'
    refine ⟨g, hv.1, ?_⟩
    rw [World.ownsRow.cellAt h' _ (by simp; omega)]
    have hl : ∀ l : List Sm, (l.flatMap smL).length = l.length * 3 := by
      intro l
      induction l with
      | nil => rfl
      | cons y l ih => simp [List.flatMap_cons, smL, ih] at ih ⊢; omega
    rw [List.flatMap_append, List.getElem?_append_right (by rw [hl]; omega), hl]
    simp [smL]
set_option maxRecDepth 100000 in
set_option maxHeartbeats 1600000 in
theorem exportLast_any (C : Cx) (gt cap base gp : Nat) (S : Sv) (q : PS) (l : List Sm) (x : Sm) (w : World) (h : IM C gt cap base gp S q w) (hx : q.st = l ++ [x]) (hsz : x.name.size ≤ 281474976710656) (hp : 0 < q.pos) :
    Calls Tryz.prog 179 #[.pointer (some ⟨gp, 0, none⟩)] w (IOut C gt cap base gp (addEp C ⟨1, x.name, x.name, sNone⟩ q) id (fun _ => .tuple #[]) S w) := by
  have HH := hidI h
  obtain ⟨_, _, _, _, _, _, _, c7, _, _, _⟩ := box10_of h.cells
  have ho := h.mem.own.st
  rw [hx] at ho c7
  obtain ⟨g, hg, hc⟩ := ho.stmtName
  have hin := h.mem.inv.st
  rw [hx] at hin
  have hlen : (l ++ [x]).length = l.length + 1 := by simp
  rw [hlen] at c7 hin
  rw [hg] at c7
  have C7 := hidI c7
  have CN := hidI hc
  have e1 : ((l.length + 1 : Nat) : Int) - 1 = (l.length : Int) := by omega
  have e2 : (l.length : Int) + 1 - 1 = (l.length : Int) := by omega
  have hwr : IntKind.i64.wrap (l.length : Int) = (l.length : Int) := IntWalk.i64_in _ ⟨by omega, by omega⟩
  have hlt1 : (l.length : Int) < ((l.length + 1 : Nat) : Int) := by omega
  have hlt2 : (l.length : Int) < (l.length : Int) + 1 := by omega
  have cC : ∀ d os, Calls Tryz.prog 85 #[.string x.name] (grow (redrawn w d) os) fun e w'' => e = .returned (.string x.name) ∧ ∃ p : Regrown, w'' = grow (redrawn w p.d) p.os := fun d os => Calls.regrown_of (cloneP_any _ _ hsz)
  clear h c7 hc ho hg hx
  go_enter Tryz.func179, Tryz.ntmps179
  go_wp2_with fail
  have k7 := cell_regrown C7.out
  have kN := cell_regrown CN.out
  refine wp_region_quiet_below (by kernel_rfl) (by kernel_rfl) ?_
  repeat (go_big_quiet_step (exact cC _ _))
  refine wpQuiet_nil ?_
  intro w1 hw'
  obtain ⟨⟨dq, osq⟩, hw''⟩ := hw'
  have HB1 : Hid (Below w.heap.size w w1) := by show Below _ _ _; rw [hw'']; exact below_regrown _ _ _
  clear hw'' k7 kN cC C7 CN
  have HM1 : Hid (IM C gt cap base gp S q w1) := HH.out.later HB1.out
  go_wp2_with fail
  refine (addExp_any C gt cap base gp S q ⟨1, x.name, x.name, sNone⟩ _ HM1.out hp).mono ?_
  cases hn : addEp C ⟨1, x.name, x.name, sNone⟩ q with
  | error p =>
    rintro e w2 ⟨rfl, hb⟩
    have HB : Hid (Below base w w2) := (HB1.out.mono HH.out.mem.base).trans hb
    unfold Pan
    go_wp2
    refine ⟨rfl, ?_⟩
    rw [hn]
    exact ⟨rfl, HB.out⟩
  | ok a =>
    rintro e w2 ⟨rfl, S1, m, s⟩
    have HM := hidI m
    have HS : Hid (IS gp S w S1 w2) := (IS.below HB1.out).trans s
    clear m s
    go_wp2
    go_end0
    rw [hn]
    exact ⟨rfl, S1, HM.out, HS.out⟩
end Go.Proofs.YticdggnnpjachaaGreat
namespace Go.Proofs.YticdggnnpjachaaGreat
open Go.RowKit Go.PlainAid Go.Sort

def Fr (e : TypeId) (size : Nat) (w : World) (b : Nat) (r : Rw) (n : Nat) (xs : List Value) (S : Sv) : Prop := OwnR w b e size r n xs ∧ ∀ k, r.blk = some k → ¬ S.has k
theorem Fr.ngp {C : Cx} {gt cap base gp size b n : Nat} {S : Sv} {q : PS} {w : World} {e : TypeId} {r : Rw} {xs : List Value} (f : Fr e size w b r n xs S) (h : IM C gt cap base gp S q w) (he : e ≠ 59) {k : Nat} (hk : r.blk = some k) : k ≠ gp := by
  rintro rfl
  obtain ⟨_, _, c, g⟩ := f.1.typed hk
  rw [h.cells] at g
  simp only [Option.some.injEq, Obj.cells.injEq] at g
  exact he g.2.1.symm
theorem Fr.ngt {C : Cx} {gt cap base gp size b n : Nat} {S : Sv} {q : PS} {w : World} {e : TypeId} {r : Rw} {xs : List Value} (f : Fr e size w b r n xs S) (h : IM C gt cap base gp S q w) (he : e ≠ 111) {k : Nat} (hk : r.blk = some k) : k ≠ gt := by
  rintro rfl
  obtain ⟨_, _, c, g⟩ := f.1.typed hk
  obtain ⟨c', g'⟩ := ownT_block h.mem.tok
  rw [g'] at g
  simp only [Option.some.injEq, Obj.cells.injEq] at g
  exact he g.2.1.symm
theorem Fr.step {C : Cx} {gt cap base gp size b n : Nat} {S S' : Sv} {q : PS} {w w' : World} {e : TypeId} {r : Rw} {xs : List Value} (f : Fr e size w b r n xs S) (h : IM C gt cap base gp S q w) (he : e ≠ 59) (s : IS gp S w S' w') : Fr e size w' b r n xs S' := by
  refine ⟨f.1.keep fun k g => s.block k (f.1.typed g).2.1 (f.2 k g) (f.ngp h he g), fun k g hs => ?_⟩
  rcases s.sub k hs with g' | g'
  · exact f.2 k g g'
  · have := (f.1.typed g).2.1
    omega
theorem Fr.low {size b b' n : Nat} {S : Sv} {w : World} {e : TypeId} {r : Rw} {xs : List Value} (f : Fr e size w b r n xs S) (hb : b' ≤ b) : Fr e size w b' r n xs S := ⟨f.1.low hb, f.2⟩
theorem Fr.later {size b n : Nat} {S : Sv} {w w' : World} {e : TypeId} {r : Rw} {xs : List Value} (f : Fr e size w b r n xs S) (hb : Below w.heap.size w w') : Fr e size w' b r n xs S := ⟨f.1.keep fun k g => hb.block k (f.1.typed g).2.1, f.2⟩
theorem IM.aside {C : Cx} {gt cap base gp : Nat} {S : Sv} {q : PS} {W w2 : World} {b : Option Nat} (h : IM C gt cap base gp S q W) (hg : W.grownBy w2 b) (hb : ∀ k, b = some k → ¬ S.has k ∧ k ≠ gp ∧ k ≠ gt) : IM C gt cap base gp S q w2 := by
  refine ⟨⟨h.mem.own.keep fun k g => hg.block k (h.mem.own.has g).2 fun e => (hb k e.symm).1 g, h.mem.inv, ownT_keep h.mem.tok (hg.block gt (ownT_lt h.mem.tok).1 fun e => (hb gt e.symm).2.2 rfl), h.mem.few, Nat.le_trans h.mem.base hg.size⟩, (hg.block gp h.lt fun e => (hb gp e.symm).2.1 rfl).trans h.cells, h.ge⟩
theorem IS.aside {gp : Nat} {S S1 : Sv} {w W w2 : World} {b : Option Nat} (s : IS gp S w S1 W) (hg : W.grownBy w2 b) (hb : ∀ k, b = some k → w.heap.size ≤ k) : IS gp S w S1 w2 :=
  ⟨hg.os.trans s.os, hg.tape.trans s.tape, hg.output.trans s.output, Nat.le_trans s.size hg.size, fun k hk hn hg' => (hg.block k (Nat.lt_of_lt_of_le hk s.size) fun e => by have := hb k e.symm; omega).trans (s.block k hk hn hg'), s.sub⟩
theorem Fr.grown {size b n : Nat} {S : Sv} {W w2 : World} {e : TypeId} {r r' : Rw} {xs ys : List Value} {C : Cx} {gt cap base gp : Nat} {q : PS} (f : Fr e size W b r n xs S) (h : IM C gt cap base gp S q W) (hr : OwnR w2 b e size r' (n + 1) ys) (hat : r'.blk = r.blk ∨ r'.blk = some W.heap.size) : Fr e size w2 b r' (n + 1) ys S := by
  refine ⟨hr, fun k g hs => ?_⟩
  rcases hat with e' | e'
  · exact f.2 k (e'.symm.trans g) hs
  · have h1 : W.heap.size = k := Option.some.inj (e'.symm.trans g)
    have := (h.mem.own.has hs).2
    omega
theorem flat_len {α : Type} (f : α → List Value) (m : Nat) (hf : ∀ x, (f x).length = m) (l : List α) : (l.flatMap f).length = l.length * m := by
  induction l with
  | nil => simp
  | cons y l ih => rw [List.flatMap_cons, List.length_append, hf, ih, List.length_cons, Nat.succ_mul]; omega
theorem flat_get {α : Type} (f : α → List Value) (m : Nat) (hf : ∀ x, (f x).length = m) : ∀ (l : List α) (j i : Nat) (x : α), l[j]? = some x → i < m → (l.flatMap f)[j * m + i]? = (f x)[i]? := by
  intro l
  induction l with
  | nil => intro j i x h; simp at h
  | cons y l ih =>
    intro j i x h hi
    rw [List.flatMap_cons]
    match j with
    | 0 =>
      simp only [List.getElem?_cons_zero, Option.some.injEq] at h
      subst h
      rw [Nat.zero_mul, Nat.zero_add, List.getElem?_append_left (by rw [hf]; exact hi)]
    | j + 1 =>
      simp only [List.getElem?_cons_succ] at h
      rw [List.getElem?_append_right (by rw [hf, Nat.succ_mul]; omega), hf, ← ih j i x h hi]
      congr 1
      rw [Nat.succ_mul]
      omega
theorem OwnR.elem {α : Type} {f : α → List Value} {m : Nat} (hf : ∀ x, (f x).length = m) {w : World} {base : Nat} {e : TypeId} {r : Rw} {l : List α} (h : OwnR w base e m r l.length (l.flatMap f)) {j : Nat} {x : α} (hj : l[j]? = some x) : ∃ g, r.a = some ⟨g, 0, none⟩ ∧ ∀ i, i < m → w.cell? ⟨g, j * m + i, none⟩ = (f x)[i]? := by
  have hlt : j < l.length := (List.getElem?_eq_some_iff.1 hj).1
  rcases h.2 with ⟨_, hn⟩ | ⟨g, cap, cur, hv, _⟩
  · omega
  · simp only [Value.slice.injEq] at hv
    have h' := h
    unfold OwnR at h'
    rw [hv.1, hv.2.2] at h'
    refine ⟨g, hv.1, fun i hi => ?_⟩
    have hb : j * m + i < l.length * m := by
      have := Nat.mul_le_mul_right m hlt
      rw [Nat.succ_mul] at this
      omega
    rw [World.ownsRow.cellAt h' _ hb]
    exact flat_get f m hf l j i x hj hi
end Go.Proofs.YticdggnnpjachaaGreat
namespace Go.Proofs.YticdggnnpjachaaGreat
open Go.RowKit Go.PlainAid Go.Sort

def toIm (e : Ep) : Im := ⟨sNone, e.loc, e.name⟩
def pairI (C : Cx) (exp : Bool) (q : PS) : Except Nat (PS × Ep) := bd (nameP C true q) fun a => bd (asP C exp a) fun b => .ok (b.1, ⟨0, b.2, a.2, sNone⟩)
theorem listL_pair (C : Cx) (exp : Bool) (q : PS) (acc : List Ep) : listL C exp q acc = bd (pairI C exp q) fun x =>
    if isT C x.1.pos 4 cComma then listL C exp (adv x.1) (acc ++ [x.2]) else bd (tokP C 4 cRight x.1) fun q' => .ok (q', acc ++ [x.2]) := by
  rw [listL_step, pairI, bd_bd]
  refine bd_congr fun a _ => ?_
  rw [bd_bd]
  rfl
theorem pair_as {C : Cx} {q : PS} {a : PS × ByteArray} (hn : nameP C true q = .ok a) (h : isT C a.1.pos 1 sAs = true) : pairI C false q = bd (nameP C false (adv a.1)) fun b => .ok (b.1, ⟨0, b.2, a.2, sNone⟩) := by
  rw [pairI, hn, bd_ok, asP, if_pos h]
theorem pair_word {C : Cx} {q : PS} {a : PS × ByteArray} (hn : nameP C true q = .ok a) (h : isT C a.1.pos 1 sAs = false) (hd : (a.2.toList == [100, 101, 102, 97, 117, 108, 116]) = true) : pairI C false q = .error (here C a.1.pos) := by
  rw [pairI, hn, bd_ok, asP, if_neg (by rw [h]; decide), if_pos (by rw [hd]; rfl)]
  rfl
theorem pair_alone {C : Cx} {q : PS} {a : PS × ByteArray} (hn : nameP C true q = .ok a) (h : isT C a.1.pos 1 sAs = false) (hd : (a.2.toList == [100, 101, 102, 97, 117, 108, 116]) = false) : pairI C false q = .ok (a.1, ⟨0, a.2, a.2, sNone⟩) := by
  rw [pairI, hn, bd_ok, asP, if_neg (by rw [h]; decide), if_neg (by rw [hd]; decide)]
  rfl
theorem three_of {w : World} {b : Nat} {t : TypeId} {v0 v1 v2 : Value} (h : w.heap[b]? = some (.cells #[v0, v1, v2] t (0, 0))) :
    w.cell? ⟨b, 0, none⟩ = some v0 ∧ w.cell? ⟨b, 1, none⟩ = some v1 ∧ w.cell? ⟨b, 2, none⟩ = some v2 ∧ ∀ i, w.frozen? ⟨b, i, none⟩ = false := by
  refine ⟨?_, ?_, ?_, fun i => ?_⟩ <;> simp [World.cell?, World.frozen?, h]
theorem put3 {w : World} {b : Nat} {v0 v1 v2 x0 x1 x2 : Value} {t : TypeId} (h : w.heap[b]? = some (.cells #[v0, v1, v2] t (0, 0))) :
    (((w.setCell ⟨b, 0, none⟩ x0).setCell ⟨b, 1, none⟩ x1).setCell ⟨b, 2, none⟩ x2).heap[b]? = some (.cells #[x0, x1, x2] t (0, 0)) := by
  have e := qcell (i := 2) (u := x2) (qcell (i := 1) (u := x1) (qcell (i := 0) (u := x0) h))
  rw [e]
  simp

set_option maxRecDepth 100000 in
set_option maxHeartbeats 1600000 in
theorem importedName_any (C : Cx) (gt cap base gp : Nat) (S : Sv) (q : PS) (w : World) (h : IM C gt cap base gp S q w) :
    Calls Tryz.prog 197 #[.pointer (some ⟨gp, 0, none⟩)] w (IOut C gt cap base gp (pairI C false q) (·.1) (fun a => imV (toIm a.2)) S w) := by
  have HH := hidI h
  have hgp : w.heap.size ≠ gp := by have := h.lt; omega
  have hgt : w.heap.size ≠ gt := by have := (ownT_lt h.mem.tok).1; omega
  clear h
  go_enter Tryz.func197, Tryz.ntmps197
  go_wp2_with fail
  refine (plainOrDefault_any C gt cap base gp S q _ (HH.out.alloc _)).mono ?_
  cases hn1 : nameP C true q with
  | error p =>
    rintro e w1 ⟨rfl, hb⟩
    have HB : Hid (Below base w w1) := (HH.out.back ((IS.refl _ _ _).alloc _)).trans hb
    have HX : Hid (pairI C false q = .error p) := by show _ = _; rw [pairI, hn1]; rfl
    unfold Pan
    go_wp2
    refine ⟨rfl, ?_⟩
    rw [HX.out]
    exact ⟨rfl, HB.out⟩
  | ok a =>
    rintro e w1 ⟨rfl, S1, m, s⟩
    have HM1 := hidI m
    have HT1 := hidI s
    clear m s
    cases hi : isT C a.1.pos 1 sAs with
    | true =>
      have HY := hidI (pair_as hn1 hi)
      go_wp2_with fail
      refine (passes_any C gt cap base gp S1 a.1 1 sAs _ HM1.out (by decide)).mono ?_
      rintro e w2 ⟨rfl, m, s⟩
      rw [hi] at m ⊢
      have HM2 := hidI m
      have HT2 : Hid (IS gp S (w.alloc (.cells #[.string sNone, .string sNone, .string sNone] 100)) S1 w2) := HT1.out.trans s
      clear m s
      go_wp2_with fail
      refine (plainName_any C gt cap base gp S1 (adv a.1) _ HM2.out).mono ?_
      cases hn3 : nameP C false (adv a.1) with
      | error p =>
        rintro e w3 ⟨rfl, hb⟩
        have HB : Hid (Below base w w3) := (HH.out.back HT2.out.from).trans hb
        have HX : Hid (pairI C false q = .error p) := bdE HY.out hn3
        unfold Pan
        go_wp2
        refine ⟨rfl, ?_⟩
        rw [HX.out]
        exact ⟨rfl, HB.out⟩
      | ok c =>
        rintro e w3 ⟨rfl, S3, m, s⟩
        have HM3 := hidI m
        have HT3 : Hid (IS gp S (w.alloc (.cells #[.string sNone, .string sNone, .string sNone] 100)) S3 w3) := HT2.out.trans s
        clear m s
        have HX := hidI (bdO HY.out hn3)
        have HG : Hid (w3.heap[w.heap.size]? = some (.cells #[.string sNone, .string sNone, .string sNone] 100 (0, 0))) := IS.kept HH.out HT3.out rfl
        have HF : Hid (¬ S3.has w.heap.size) := IS.free HH.out HT3.out
        obtain ⟨b0, b1, b2, bf⟩ := three_of HG.out
        go_wp2
        refine bodyPost_ret (results_cell_row rfl _ _ w.heap.size 100 _ (0, 0) _ rfl (put3 HG.out) Tryz.underlying100 rfl (by kernel_rfl)) rfl ?_
        rw [HX.out]
        exact ⟨rfl, S3, ((HM3.out.set hgp hgt HF.out _ _).set hgp hgt HF.out _ _).set hgp hgt HF.out _ _, ((HT3.out.from.new (Nat.le_refl _) _ _).new (Nat.le_refl _) _ _).new (Nat.le_refl _) _ _⟩
    | false =>
      cases hd : (a.2.toList == [100, 101, 102, 97, 117, 108, 116]) with
      | true =>
        have HY := hidI (pair_word hn1 hi hd)
        go_wp2_with fail
        refine (passes_any C gt cap base gp S1 a.1 1 sAs _ HM1.out (by decide)).mono ?_
        rintro e w2 ⟨rfl, m, s⟩
        rw [hi] at m ⊢
        have HM2 := hidI m
        have HT2 : Hid (IS gp S (w.alloc (.cells #[.string sNone, .string sNone, .string sNone] 100)) S1 w2) := HT1.out.trans s
        clear m s
        go_wp2_with fail
        refine (refuse_any C gt cap base gp S1 a.1 _ HM2.out).mono ?_
        rintro e w3 ⟨rfl, hb⟩
        have HB : Hid (Below base w w3) := (HH.out.back HT2.out.from).trans (hb.mono HM2.out.mem.base)
        unfold Pan
        go_wp2
        refine ⟨rfl, ?_⟩
        rw [HY.out]
        exact ⟨rfl, HB.out⟩
      | false =>
        have HX := hidI (pair_alone hn1 hi hd)
        go_wp2_with fail
        refine (passes_any C gt cap base gp S1 a.1 1 sAs _ HM1.out (by decide)).mono ?_
        rintro e w2 ⟨rfl, m, s⟩
        rw [hi] at m ⊢
        have HM2 := hidI m
        have HT2 : Hid (IS gp S (w.alloc (.cells #[.string sNone, .string sNone, .string sNone] 100)) S1 w2) := HT1.out.trans s
        clear m s
        have HG : Hid (w2.heap[w.heap.size]? = some (.cells #[.string sNone, .string sNone, .string sNone] 100 (0, 0))) := IS.kept HH.out HT2.out rfl
        have HF : Hid (¬ S1.has w.heap.size) := IS.free HH.out HT2.out
        obtain ⟨b0, b1, b2, bf⟩ := three_of HG.out
        go_wp2
        refine bodyPost_ret (results_cell_row rfl _ _ w.heap.size 100 _ (0, 0) _ rfl (put3 HG.out) Tryz.underlying100 rfl (by kernel_rfl)) rfl ?_
        rw [HX.out]
        exact ⟨rfl, S1, ((HM2.out.set hgp hgt HF.out _ _).set hgp hgt HF.out _ _).set hgp hgt HF.out _ _, ((HT2.out.from.new (Nat.le_refl _) _ _).new (Nat.le_refl _) _ _).new (Nat.le_refl _) _ _⟩
end Go.Proofs.YticdggnnpjachaaGreat
namespace Go.Proofs.YticdggnnpjachaaGreat
open Go.RowKit Go.PlainAid Go.Sort

theorem pair_pos {C : Cx} {exp : Bool} {q : PS} {x : PS × Ep} (h : pairI C exp q = .ok x) : q.pos < x.1.pos := by
  obtain ⟨a, h1, h2⟩ := bd_eq_ok h
  obtain ⟨b, h3, h4⟩ := bd_eq_ok h2
  have h5 := asP_ok h3
  rw [(nameP_ok h1).1] at h5
  cases h4
  exact h5
def LOut (C : Cx) (gt cap base gp : Nat) (t : TypeId) (size : Nat) (f : Ep → List Value) (y : PRL) (S : Sv) (w : World) (e : Ending) (w' : World) : Prop :=
  match y with
  | .ok a => ∃ r S', e = .returned (.slice r.a a.2.length r.cap) ∧ IM C gt cap base gp S' a.1 w' ∧ IS gp S w S' w' ∧ Fr t size w' w.heap.size r a.2.length (a.2.flatMap f) S' ∧ 0 < a.2.length ∧ a.2.length ≤ 4000
  | .error p => e = Pan p ∧ Below base w w'
theorem fr_start {C : Cx} {gt cap base gp : Nat} {S : Sv} {q : PS} {w : World} (h : IM C gt cap base gp S q w) (t : TypeId) (size : Nat) : Fr t size (w.alloc (.cells #[] t)) w.heap.size ⟨some ⟨w.heap.size, 0, none⟩, 0⟩ 0 [] S := by
  refine ⟨World.ownsRow_lit w #[] 0 (Nat.le_refl _) (by unfold maxLen; omega) (Nat.zero_mul _).symm, fun k g hs => ?_⟩
  have h1 : w.heap.size = k := by simpa [Rw.blk, Value.ownBlock] using g
  have := (h.mem.own.has hs).2
  omega

set_option maxRecDepth 100000 in
set_option maxHeartbeats 1600000 in
theorem importList_any (C : Cx) (gt cap base gp : Nat) (S : Sv) (q : PS) (w : World) (h : IM C gt cap base gp S q w) :
    Calls Tryz.prog 175 #[.pointer (some ⟨gp, 0, none⟩)] w (LOut C gt cap base gp 100 3 (fun e => imL (toIm e)) (listL C false q []) S w) := by
  obtain ⟨i0, hi, hz0, hz1, hz2⟩ := info_parts Tryz.infoImp
  have HH := hidI h
  clear h
  go_enter Tryz.func175, Tryz.ntmps175
  go_wp2
  go_loopg [3] (C.ts.length + 1) (fun k v wr => ∃ (S' : Sv) (q' : PS) (r : Rw) (l : List Ep), v = .slice r.a l.length r.cap ∧ listL C false q [] = listL C false q' l ∧ C.ts.length - q'.pos < k ∧ l.length + (C.ts.length - q'.pos) ≤ C.ts.length ∧ IM C gt cap base gp S' q' wr ∧ IS gp S w S' wr ∧ Fr 100 3 wr w.heap.size r l.length (l.flatMap (fun e => imL (toIm e))) S')
  case atStart => exact ⟨S, q, ⟨some ⟨w.heap.size, 0, none⟩, 0⟩, [], rfl, rfl, by omega, by simp, HH.out.alloc _, (IS.refl _ _ _).alloc _, fr_start HH.out _ _⟩
  case round =>
    obtain ⟨S', q', r, l, rfl, hy, hk, hl, m', s', f'⟩ := hrel
    have HY := hidI hy
    have HZ := hidI (HY.out.trans (listL_pair C false q' l))
    have HMr : Hid (IM C gt cap base gp S' q' wr) := m'
    have HSr : Hid (IS gp S w S' wr) := s'
    have HFr : Hid (Fr 100 3 wr w.heap.size r l.length (l.flatMap (fun e => imL (toIm e))) S') := f'
    have hfew := m'.mem.few
    clear hy m' s' f'
    go_wp2_with fail
    refine (importedName_any C gt cap base gp S' q' _ HMr.out).mono ?_
    cases hn1 : pairI C false q' with
    | error p =>
      rintro e w1 ⟨rfl, hb⟩
      have HB : Hid (Below base w w1) := (HH.out.back HSr.out).trans hb
      have HX : Hid (listL C false q [] = .error p) := bdE HZ.out hn1
      unfold Pan
      go_wp2
      refine ⟨rfl, ?_⟩
      rw [HX.out]
      exact ⟨rfl, HB.out⟩
    | ok a1 =>
      rintro e w1 ⟨rfl, S1, m, s⟩
      have HF1 : Hid (Fr 100 3 w1 w.heap.size r l.length (l.flatMap (fun e => imL (toIm e))) S1) := HFr.out.step HMr.out (by decide) s
      have HM1 := hidI m
      have HS1 : Hid (IS gp S w S1 w1) := HSr.out.trans s
      clear m s
      have HY1 := hidI (bdO HZ.out hn1)
      have hpp := pair_pos hn1
      have hip := HM1.out.mem.inv.pos
      unfold imV
      have hown := fun o1 => (HF1.out.later ((Below.refl w1.heap.size w1).alloc (Nat.le_refl _) o1)).1
      have hsz := fun o1 => (HS1.out.alloc o1).size
      go_wp2_with (at_builtin; refine app_row _ rfl _ _ 23 rfl w.heap.size 100 i0 _ 3 48 Tryz.underlying23 hi hz0 hz1 hz2 rfl (by decide) (by decide) r l.length _ (by rfl) (hown _) w1.heap.size (imL (toIm a1.2)) (by rfl) (by exact heap_alloc_new w1 _) rfl (im_ones _) (by omega) (hsz _) ?_; intro r' w2 hr hgr hat; have HR : Hid (OwnR w2 w.heap.size 100 3 r' (l.length + 1) _) := hr; have HM2 : Hid (IM C gt cap base gp S1 a1.1 w2) := (HM1.out.alloc _).aside hgr (fun k g => ⟨HF1.out.2 k g, HF1.out.ngp HM1.out (by decide) g, HF1.out.ngt HM1.out (by decide) g⟩); have HS2 : Hid (IS gp S w S1 w2) := (HS1.out.alloc _).aside hgr (fun k g => (HF1.out.1.typed g).1); have HF2 : Hid (Fr 100 3 w2 w.heap.size r' (l.length + 1) _ S1) := (HF1.out.later ((Below.refl _ _).alloc (Nat.le_refl _) _)).grown (HM1.out.alloc _) hr hat; clear hr hgr hat hown hsz)
      have el : (l ++ [a1.2]).length = l.length + 1 := by simp
      have HF3 : Hid (Fr 100 3 w2 w.heap.size r' (l ++ [a1.2]).length ((l ++ [a1.2]).flatMap (fun e => imL (toIm e))) S1) := by
        show Fr _ _ _ _ _ _ _ _
        rw [el, List.flatMap_append]
        simpa using HF2.out
      have HEL := hidI el
      clear el HF2 HR
      go_wp2_with fail
      cases hc : isT C a1.1.pos 4 cComma with
      | true =>
        have hlt := isT_lt hc (by decide)
        have HC := hidI (HY1.out.trans (if_pos hc))
        refine (passes_any C gt cap base gp S1 (a1.1) 4 cComma _ HM2.out (by decide)).mono ?_
        rintro e w3 ⟨rfl, m, s⟩
        rw [hc] at m ⊢
        have HM3 := hidI m
        have HS3 : Hid (IS gp S w S1 w3) := HS2.out.trans s
        have hs3 := s
        clear m s
        have HF4 : Hid (Fr 100 3 w3 w.heap.size r' (l ++ [a1.2]).length ((l ++ [a1.2]).flatMap (fun e => imL (toIm e))) S1) := HF3.out.step HM2.out (by decide) hs3
        clear hs3
        go_wp2
        go_roundg (gk - 1)
        case rel => exact ⟨S1, adv a1.1, r', l ++ [a1.2], by rw [HEL.out], HC.out, by rw [adv_pos]; omega, by rw [adv_pos, HEL.out]; omega, HM3.out, HS3.out, HF4.out⟩
        case measure => omega
      | false =>
        have HC := hidI (HY1.out.trans (if_neg (by rw [hc]; decide)))
        refine (passes_any C gt cap base gp S1 (a1.1) 4 cComma _ HM2.out (by decide)).mono ?_
        rintro e w3 ⟨rfl, m, s⟩
        rw [hc] at m ⊢
        have HM3 := hidI m
        have HS3 : Hid (IS gp S w S1 w3) := HS2.out.trans s
        have HF4 : Hid (Fr 100 3 w3 w.heap.size r' (l ++ [a1.2]).length ((l ++ [a1.2]).flatMap (fun e => imL (toIm e))) S1) := HF3.out.step HM2.out (by decide) s
        clear m s
        go_wp2_with fail
        refine (passSign C gt cap base gp S1 a1.1 125 _ HM3.out).mono ?_
        cases hn4 : tokP C 4 cRight a1.1 with
        | error p =>
          rintro e w4 ⟨rfl, hb⟩
          have HB : Hid (Below base w w4) := (HH.out.back HS3.out).trans hb
          have HX : Hid (listL C false q [] = .error p) := bdE HC.out hn4
          unfold Pan
          go_wp2
          refine ⟨rfl, ?_⟩
          rw [HX.out]
          exact ⟨rfl, HB.out⟩
        | ok a4 =>
          rintro e w4 ⟨rfl, S4, m, s⟩
          have HF5 : Hid (Fr 100 3 w4 w.heap.size r' (l ++ [a1.2]).length ((l ++ [a1.2]).flatMap (fun e => imL (toIm e))) S4) := HF4.out.step HM3.out (by decide) s
          have HM4 := hidI m
          have HS4 : Hid (IS gp S w S4 w4) := HS3.out.trans s
          clear m s
          have HY4 := hidI (bdO HC.out hn4)
          go_wp2
          go_ret
          rw [HY4.out]
          exact ⟨r', S4, by rw [HEL.out]; rfl, HM4.out, HS4.out, HF5.out, by show 0 < (l ++ [a1.2]).length; rw [HEL.out]; omega, by show (l ++ [a1.2]).length ≤ 4000; rw [HEL.out]; omega⟩
end Go.Proofs.YticdggnnpjachaaGreat
