/-
  What importFrom of impl's parser answers: the walk.
  What importItem of impl's parser answers: the walks.
  What exportList of impl's parser answers: the walk.
-/
import Derived.Test.YticdggnnpjachaaGreatCaImplParseJToImplParseR
namespace Go.Proofs.YticdggnnpjachaaGreat
open Go.RowKit Go.PlainAid Go.Sort

def impFromI (C : Cx) (l : List Ep) (q : PS) : PR := bd (tokP C 1 sFrom q) fun a => bd (specP C a) fun b => bd (tokP C 4 cSemi b.1) fun c => addAll (fun e => addIm C (impOf b.2 e)) l (.ok c)
theorem addAll_errorI {α : Type} (f : α → PS → PR) (p : Nat) : ∀ l : List α, addAll f l (.error p) = .error p
  | [] => rfl
  | _ :: l => addAll_errorI f p l
theorem addAll_dropI {α : Type} (f : α → PS → PR) {l : List α} {j : Nat} {x : α} (h : l[j]? = some x) (q : PS) : addAll f (l.drop j) (.ok q) = addAll f (l.drop (j + 1)) (f x q) := by
  obtain ⟨hj, rfl⟩ := List.getElem?_eq_some_iff.1 h
  rw [List.drop_eq_getElem_cons hj]
  rfl
theorem addIm_posI {C : Cx} {x : Im} {q a : PS} (h : addIm C x q = .ok a) : a.pos = q.pos := by
  unfold addIm at h
  split at h
  · cases h
  · cases h
    rfl
theorem addEp_posI {C : Cx} {x : Ep} {q a : PS} (h : addEp C x q = .ok a) : a.pos = q.pos := by
  unfold addEp at h
  split at h
  · cases h
  · split at h
    · cases h
      rfl
    · cases h
      rfl
theorem getsome {α : Type} {l : List α} {j : Nat} (h : j < l.length) : ∃ x, l[j]? = some x := ⟨_, List.getElem?_eq_getElem h⟩

set_option maxRecDepth 100000 in
set_option maxHeartbeats 1600000 in
theorem importFrom_row (C : Cx) (gt cap base gp b0 g : Nat) (r : Rw) (S : Sv) (q : PS) (l : List Ep) (w : World) (h : IM C gt cap base gp S q w) (hC : Sized C) (hl : l.length ≤ 4000) (hf : Fr 100 3 w b0 r l.length (l.flatMap (fun e => imL (toIm e))) S) (hg : r.a = some ⟨g, 0, none⟩) :
    Calls Tryz.prog 174 #[.pointer (some ⟨gp, 0, none⟩), .slice (some ⟨g, 0, none⟩) l.length r.cap] w (IOut C gt cap base gp (impFromI C l q) id (fun _ => .tuple #[]) S w) := by
  have HH := hidI h
  have HF := hidI hf
  have HG := hidI hg
  have HY := hidI (impFromI.eq_1 C l q)
  clear h hf hg
  go_enter Tryz.func174, Tryz.ntmps174
  go_wp2_with fail
  refine (passName_any C gt cap base gp S q sFrom _ HH.out).mono ?_
  cases hn1 : tokP C 1 sFrom q with
  | error p =>
    rintro e w1 ⟨rfl, hb⟩
    have HB : Hid (Below base w w1) := (HH.out.back (IS.refl _ _ _)).trans hb
    have HX : Hid (impFromI C l q = .error p) := bdE HY.out hn1
    unfold Pan
    go_wp2
    refine ⟨rfl, ?_⟩
    rw [HX.out]
    exact ⟨rfl, HB.out⟩
  | ok a1 =>
    rintro e w1 ⟨rfl, S1, m, s⟩
    have HF1 : Hid (Fr 100 3 w1 b0 r l.length (l.flatMap (fun e => imL (toIm e))) S1) := HF.out.step HH.out (by decide) s
    have HM1 := hidI m
    have HS1 := hidI s
    clear m s
    have HY1 := hidI (bdO HY.out hn1)
    go_wp2_with fail
    refine (request_any C gt cap base gp S1 a1 _ HM1.out hC).mono ?_
    cases hn2 : specP C a1 with
    | error p =>
      rintro e w2 ⟨rfl, hb⟩
      have HB : Hid (Below base w w2) := (HH.out.back HS1.out).trans hb
      have HX : Hid (impFromI C l q = .error p) := bdE HY1.out hn2
      unfold Pan
      go_wp2
      refine ⟨rfl, ?_⟩
      rw [HX.out]
      exact ⟨rfl, HB.out⟩
    | ok a2 =>
      rintro e w2 ⟨rfl, S2, m, s⟩
      have HF2 : Hid (Fr 100 3 w2 b0 r l.length (l.flatMap (fun e => imL (toIm e))) S2) := HF1.out.step HM1.out (by decide) s
      have HM2 := hidI m
      have HS2 : Hid (IS gp S w S2 w2) := HS1.out.trans s
      clear m s
      have HY2 := hidI (bdO HY1.out hn2)
      go_wp2_with fail
      refine (passSign C gt cap base gp S2 a2.1 59 _ HM2.out).mono ?_
      cases hn3 : tokP C 4 cSemi (a2.1) with
      | error p =>
        rintro e w3 ⟨rfl, hb⟩
        have HB : Hid (Below base w w3) := (HH.out.back HS2.out).trans hb
        have HX : Hid (impFromI C l q = .error p) := bdE HY2.out hn3
        unfold Pan
        go_wp2
        refine ⟨rfl, ?_⟩
        rw [HX.out]
        exact ⟨rfl, HB.out⟩
      | ok a3 =>
        rintro e w3 ⟨rfl, S3, m, s⟩
        have HF3 : Hid (Fr 100 3 w3 b0 r l.length (l.flatMap (fun e => imL (toIm e))) S3) := HF2.out.step HM2.out (by decide) s
        have HM3 := hidI m
        have HS3 : Hid (IS gp S w S3 w3) := HS2.out.trans s
        clear m s
        have HY3 := hidI (bdO HY2.out hn3)
        have hpos : 0 < a3.pos := by rw [(tokP_ok hn3).1]; exact Nat.succ_pos _
        generalize ha2 : a2.2 = sp at *
        clear ha2
        go_wp2
        go_loopg [15] l.length (fun k i wr => ∃ (j : Nat) (S' : Sv) (q' : PS), i = .int .i64 j ∧ j + k = l.length ∧ impFromI C l q = addAll (fun e => addIm C (impOf sp e)) (l.drop j) (.ok q') ∧ 0 < q'.pos ∧ IM C gt cap base gp S' q' wr ∧ IS gp S w S' wr ∧ Fr 100 3 wr b0 r l.length (l.flatMap (fun e => imL (toIm e))) S')
        case atStart => exact ⟨0, S3, a3, rfl, by omega, HY3.out, hpos, HM3.out, HS3.out, HF3.out⟩
        case round =>
          obtain ⟨j, S', q', rfl, hj, hy, hp', m', s', f'⟩ := hrel
          have HYr := hidI hy
          have HMr : Hid (IM C gt cap base gp S' q' wr) := m'
          have HSr : Hid (IS gp S w S' wr) := s'
          have HFr : Hid (Fr 100 3 wr b0 r l.length (l.flatMap (fun e => imL (toIm e))) S') := f'
          clear hy m' s' f'
          by_cases hlt : j < l.length
          · have hlti : (j : Int) < (l.length : Int) := by omega
            obtain ⟨x, hx⟩ := getsome hlt
            obtain ⟨g', hg', hcl⟩ := OwnR.elem (f := fun e => imL (toIm e)) (m := 3) (fun _ => rfl) HFr.out.1 hx
            have eg : g' = g := by have := hg'.symm.trans HG.out; simpa using this
            subst eg
            have k0 := hcl 0 (by omega)
            have k1 := hcl 1 (by omega)
            have k2 := hcl 2 (by omega)
            simp only [imL, toIm, Nat.add_zero, List.getElem?_cons_zero, List.getElem?_cons_succ] at k0 k1 k2
            have HZ := hidI (HYr.out.trans (addAll_dropI (fun e => addIm C (impOf sp e)) hx q'))
            clear hcl hg' hx
            obtain ⟨j1, hj1⟩ : ∃ j1, j1 = j + 1 := ⟨_, rfl⟩
            have ej : (j : Int) + 1 = (j1 : Int) := by omega
            rw [← hj1] at HZ
            have hgl := (Array.getElem?_eq_some_iff.1 (HFr.out.1.typed (by rw [Rw.blk, HG.out]; rfl)).2.2.choose_spec).1
            have hgp := HMr.out.lt
            have HJ := hidI hj1
            clear hj1
            go_wp2_with fail
            refine (addImp_any C gt cap base gp S' q' (impOf sp x) _ (HMr.out.alloc _) hp').mono ?_
            cases hn : addIm C (impOf sp x) q' with
            | error p =>
              rintro e w5 ⟨rfl, hb⟩
              have HB : Hid (Below base w w5) := (HH.out.back (HSr.out.alloc _)).trans hb
              have HX : Hid (impFromI C l q = .error p) := by show _ = _; rw [HZ.out, hn]; exact addAll_errorI _ _ _
              unfold Pan
              go_wp2
              refine ⟨rfl, ?_⟩
              rw [HX.out]
              exact ⟨rfl, HB.out⟩
            | ok a5 =>
              rintro e w5 ⟨rfl, S5, m, s⟩
              have HM5 := hidI m
              have HS5 : Hid (IS gp S w S5 w5) := (HSr.out.alloc _).trans s
              have HF5 : Hid (Fr 100 3 w5 b0 r l.length (l.flatMap (fun e => imL (toIm e))) S5) := (HFr.out.later ((Below.refl _ _).alloc (Nat.le_refl _) _)).step (HMr.out.alloc _) (by decide) s
              have HY5 : Hid (impFromI C l q = addAll (fun e => addIm C (impOf sp e)) (l.drop j1) (.ok a5)) := by show _ = _; rw [HZ.out, hn]
              have HP5 : Hid (0 < a5.pos) := by show 0 < a5.pos; rw [addIm_posI hn]; exact hp'
              clear m s
              go_wp2
              go_roundg (gk - 1)
              case rel => exact ⟨j1, S5, a5, rfl, by have := HJ.out; omega, HY5.out, HP5.out, HM5.out, HS5.out, HF5.out⟩
              case measure => omega
          · have hlti : ¬ (j : Int) < (l.length : Int) := by omega
            have HZ : Hid (impFromI C l q = .ok q') := by show _ = _; rw [HYr.out, List.drop_eq_nil_of_le (by omega)]; rfl
            go_wp2
            go_end0
            rw [HZ.out]
            exact ⟨rfl, S', HMr.out, HSr.out⟩

theorem importFrom_any (C : Cx) (gt cap base gp b0 : Nat) (r : Rw) (S : Sv) (q : PS) (l : List Ep) (w : World) (h : IM C gt cap base gp S q w) (hC : Sized C) (hl : l.length ≤ 4000) (h0 : l.length ≠ 0) (hf : Fr 100 3 w b0 r l.length (l.flatMap (fun e => imL (toIm e))) S) :
    Calls Tryz.prog 174 #[.pointer (some ⟨gp, 0, none⟩), .slice r.a l.length r.cap] w (IOut C gt cap base gp (impFromI C l q) id (fun _ => .tuple #[]) S w) := by
  rcases hf.1.nil_or with ⟨_, _, e⟩ | ⟨g, hg⟩
  · exact absurd e h0
  · rw [hg]
    exact importFrom_row C gt cap base gp b0 g r S q l w h hC hl hf hg
end Go.Proofs.YticdggnnpjachaaGreat
namespace Go.Proofs.YticdggnnpjachaaGreat
open Go.RowKit Go.PlainAid Go.Sort

theorem fr_one {C : Cx} {gt cap base gp : Nat} {S : Sv} {q : PS} {w : World} (h : IM C gt cap base gp S q w) (t : TypeId) (xs : List Value) : Fr t xs.length (w.alloc (.cells xs.toArray t)) w.heap.size ⟨some ⟨w.heap.size, 0, none⟩, 1⟩ 1 xs S := by
  refine ⟨?_, fun k g hs => ?_⟩
  · have := World.ownsRow_lit (e := t) (size := xs.length) w xs.toArray 1 (Nat.le_refl _) (by unfold maxLen; omega) (by simp)
    simpa [OwnR] using this
  · have h1 : w.heap.size = k := by simpa [Rw.blk, Value.ownBlock] using g
    have := (h.mem.own.has hs).2
    omega
def impItemI (C : Cx) (q : PS) : PR :=
  if (tokAt C q.pos).kind == 3 then bd (specP C q) fun a => tokP C 4 cSemi a.1
  else if isT C q.pos 4 cLeft then bd (listL C false (adv q) []) fun a => impFromI C a.2 a.1
  else if isT C q.pos 4 cStar then bd (tokP C 1 sAs (adv q)) fun a => bd (nameP C false a) fun b => impFromI C [⟨0, b.2, cStar, sNone⟩] b.1
  else bd (nameP C false q) fun b => impFromI C [⟨0, b.2, sDefault, sNone⟩] b.1

set_option maxRecDepth 100000 in
set_option maxHeartbeats 1600000 in
theorem importItem_1 (C : Cx) (gt cap base gp : Nat) (S : Sv) (q : PS) (w : World) (h : IM C gt cap base gp S q w) (hC : Sized C) (hk : ((tokAt C q.pos).kind == 3) = true) :
    Calls Tryz.prog 149 #[.pointer (some ⟨gp, 0, none⟩)] w (IOut C gt cap base gp (impItemI C q) id (fun _ => .tuple #[]) S w) := by
  have HH := hidI h
  have hf0 := run_field0
  have HY : Hid (impItemI C q = bd (specP C q) fun a => tokP C 4 cSemi a.1) := if_pos hk
  clear h
  go_enter Tryz.func149, Tryz.ntmps149
  go_wp2_with fail
  refine (peek_any C gt cap base gp S q _ HH.out).mono ?_
  rintro e w1 ⟨rfl, hb⟩
  unfold tkV
  have HM1 : Hid (IM C gt cap base gp S q w1) := HH.out.later hb
  have HS1 : Hid (IS gp S w S w1) := IS.below hb
  clear hb
  go_wp2_with fail
  refine (request_any C gt cap base gp S q _ HM1.out hC).mono ?_
  cases hn2 : specP C q with
  | error p =>
    rintro e w2 ⟨rfl, hb⟩
    have HB : Hid (Below base w w2) := (HH.out.back HS1.out).trans hb
    have HX : Hid (impItemI C q = .error p) := bdE HY.out hn2
    unfold Pan
    go_wp2
    refine ⟨rfl, ?_⟩
    rw [HX.out]
    exact ⟨rfl, HB.out⟩
  | ok a2 =>
    rintro e w2 ⟨rfl, S2, m, s⟩
    have HM2 := hidI m
    have HS2 : Hid (IS gp S w S2 w2) := HS1.out.trans s
    clear m s
    have HY2 := hidI (bdO HY.out hn2)
    go_wp2_with fail
    refine (passSign C gt cap base gp S2 a2.1 59 _ HM2.out).mono ?_
    cases hn3 : tokP C 4 cSemi a2.1 with
    | error p =>
      rintro e w3 ⟨rfl, hb⟩
      have HB : Hid (Below base w w3) := (HH.out.back HS2.out).trans hb
      have HX : Hid (impItemI C q = .error p) := HY2.out.trans hn3
      unfold Pan
      go_wp2
      refine ⟨rfl, ?_⟩
      rw [HX.out]
      exact ⟨rfl, HB.out⟩
    | ok a3 =>
      rintro e w3 ⟨rfl, S3, m, s⟩
      have HM3 := hidI m
      have HS3 : Hid (IS gp S w S3 w3) := HS2.out.trans s
      clear m s
      have HY3 := hidI (HY2.out.trans hn3)
      go_wp2
      go_end0
      rw [HY3.out]
      exact ⟨rfl, S3, HM3.out, HS3.out⟩

set_option maxRecDepth 100000 in
set_option maxHeartbeats 1600000 in
theorem importItem_2 (C : Cx) (gt cap base gp : Nat) (S : Sv) (q : PS) (w : World) (h : IM C gt cap base gp S q w) (hC : Sized C) (hk : ((tokAt C q.pos).kind == 3) = false) (h1 : isT C q.pos 4 cLeft = true) :
    Calls Tryz.prog 149 #[.pointer (some ⟨gp, 0, none⟩)] w (IOut C gt cap base gp (impItemI C q) id (fun _ => .tuple #[]) S w) := by
  have HH := hidI h
  have hf0 := run_field0
  have HY : Hid (impItemI C q = bd (listL C false (adv q) []) fun a => impFromI C a.2 a.1) := by show _ = _; rw [impItemI, hk, h1]; rfl
  clear h
  go_enter Tryz.func149, Tryz.ntmps149
  go_wp2_with fail
  refine (peek_any C gt cap base gp S q _ HH.out).mono ?_
  rintro e w1 ⟨rfl, hb⟩
  unfold tkV
  have HM1 : Hid (IM C gt cap base gp S q w1) := HH.out.later hb
  have HS1 : Hid (IS gp S w S w1) := IS.below hb
  clear hb
  go_wp2_with fail
  refine (passes_any C gt cap base gp S q 4 cLeft _ HM1.out (by decide)).mono ?_
  rintro e w2 ⟨rfl, m, s⟩
  rw [h1] at m ⊢
  have HM2 := hidI m
  have HS2 : Hid (IS gp S w S w2) := HS1.out.trans s
  clear m s
  go_wp2_with fail
  refine (importList_any C gt cap base gp S (adv q) _ HM2.out).mono ?_
  cases hn3 : listL C false (adv q) [] with
  | error p =>
    rintro e w3 ⟨rfl, hb⟩
    have HB : Hid (Below base w w3) := (HH.out.back HS2.out).trans hb
    have HX : Hid (impItemI C q = .error p) := bdE HY.out hn3
    unfold Pan
    go_wp2
    refine ⟨rfl, ?_⟩
    rw [HX.out]
    exact ⟨rfl, HB.out⟩
  | ok a3 =>
    rintro e w3 ⟨r, S3, rfl, m, s, f, l0, l1⟩
    have HM3 := hidI m
    have HS3 : Hid (IS gp S w S3 w3) := HS2.out.trans s
    have HF3 := hidI f
    clear m s f
    have HY3 := hidI (bdO HY.out hn3)
    go_wp2_with fail
    refine (importFrom_any C gt cap base gp _ r S3 a3.1 a3.2 _ HM3.out hC l1 (by omega) HF3.out).mono ?_
    cases hn4 : impFromI C a3.2 a3.1 with
    | error p =>
      rintro e w4 ⟨rfl, hb⟩
      have HB : Hid (Below base w w4) := (HH.out.back HS3.out).trans hb
      have HX : Hid (impItemI C q = .error p) := HY3.out.trans hn4
      unfold Pan
      go_wp2
      refine ⟨rfl, ?_⟩
      rw [HX.out]
      exact ⟨rfl, HB.out⟩
    | ok a4 =>
      rintro e w4 ⟨rfl, S4, m, s⟩
      have HM4 := hidI m
      have HS4 : Hid (IS gp S w S4 w4) := HS3.out.trans s
      clear m s
      have HY4 := hidI (HY3.out.trans hn4)
      go_wp2
      go_end0
      rw [HY4.out]
      exact ⟨rfl, S4, HM4.out, HS4.out⟩

set_option maxRecDepth 100000 in
set_option maxHeartbeats 1600000 in
theorem importItem_3 (C : Cx) (gt cap base gp : Nat) (S : Sv) (q : PS) (w : World) (h : IM C gt cap base gp S q w) (hC : Sized C) (hk : ((tokAt C q.pos).kind == 3) = false) (h1 : isT C q.pos 4 cLeft = false) (h2 : isT C q.pos 4 cStar = true) :
    Calls Tryz.prog 149 #[.pointer (some ⟨gp, 0, none⟩)] w (IOut C gt cap base gp (impItemI C q) id (fun _ => .tuple #[]) S w) := by
  have HH := hidI h
  have hf0 := run_field0
  have HY : Hid (impItemI C q = bd (tokP C 1 sAs (adv q)) fun a => bd (nameP C false a) fun b => impFromI C [⟨0, b.2, cStar, sNone⟩] b.1) := by show _ = _; rw [impItemI, hk, h1, h2]; rfl
  clear h
  go_enter Tryz.func149, Tryz.ntmps149
  go_wp2_with fail
  refine (peek_any C gt cap base gp S q _ HH.out).mono ?_
  rintro e w1 ⟨rfl, hb⟩
  unfold tkV
  have HM1 : Hid (IM C gt cap base gp S q w1) := HH.out.later hb
  have HS1 : Hid (IS gp S w S w1) := IS.below hb
  clear hb
  go_wp2_with fail
  refine (passes_any C gt cap base gp S q 4 cLeft _ HM1.out (by decide)).mono ?_
  rintro e w2 ⟨rfl, m, s⟩
  rw [h1] at m ⊢
  have HM2 := hidI m
  have HS2 : Hid (IS gp S w S w2) := HS1.out.trans s
  clear m s
  go_wp2_with fail
  refine (passes_any C gt cap base gp S q 4 cStar _ HM2.out (by decide)).mono ?_
  rintro e w3 ⟨rfl, m, s⟩
  rw [h2] at m ⊢
  have HM3 := hidI m
  have HS3 : Hid (IS gp S w S w3) := HS2.out.trans s
  clear m s
  go_wp2_with fail
  refine (passName_any C gt cap base gp S (adv q) sAs _ HM3.out).mono ?_
  cases hn4 : tokP C 1 sAs (adv q) with
  | error p =>
    rintro e w4 ⟨rfl, hb⟩
    have HB : Hid (Below base w w4) := (HH.out.back HS3.out).trans hb
    have HX : Hid (impItemI C q = .error p) := bdE HY.out hn4
    unfold Pan
    go_wp2
    refine ⟨rfl, ?_⟩
    rw [HX.out]
    exact ⟨rfl, HB.out⟩
  | ok a4 =>
    rintro e w4 ⟨rfl, S4, m, s⟩
    have HM4 := hidI m
    have HS4 : Hid (IS gp S w S4 w4) := HS3.out.trans s
    clear m s
    have HY4 := hidI (bdO HY.out hn4)
    go_wp2_with fail
    refine (plainName_any C gt cap base gp S4 a4 _ HM4.out).mono ?_
    cases hn5 : nameP C false a4 with
    | error p =>
      rintro e w5 ⟨rfl, hb⟩
      have HB : Hid (Below base w w5) := (HH.out.back HS4.out).trans hb
      have HX : Hid (impItemI C q = .error p) := bdE HY4.out hn5
      unfold Pan
      go_wp2
      refine ⟨rfl, ?_⟩
      rw [HX.out]
      exact ⟨rfl, HB.out⟩
    | ok a5 =>
      rintro e w5 ⟨rfl, S5, m, s⟩
      have HM5 := hidI m
      have HS5 : Hid (IS gp S w S5 w5) := HS4.out.trans s
      clear m s
      have HY5 := hidI (bdO HY4.out hn5)
      go_wp2_with fail
      refine (importFrom_any C gt cap base gp _ ⟨some ⟨w5.heap.size, 0, none⟩, 1⟩ S5 a5.1 [⟨0, a5.2, cStar, sNone⟩] _ (HM5.out.alloc _) hC (by simp) (by simp) (fr_one HM5.out 100 (imL (toIm ⟨0, a5.2, cStar, sNone⟩)))).mono ?_
      cases hn6 : impFromI C [⟨0, a5.2, cStar, sNone⟩] a5.1 with
      | error p =>
        rintro e w6 ⟨rfl, hb⟩
        have HB : Hid (Below base w w6) := (HH.out.back (HS5.out.alloc _)).trans hb
        have HX : Hid (impItemI C q = .error p) := HY5.out.trans hn6
        unfold Pan
        go_wp2
        refine ⟨rfl, ?_⟩
        rw [HX.out]
        exact ⟨rfl, HB.out⟩
      | ok a6 =>
        rintro e w6 ⟨rfl, S6, m, s⟩
        have HM6 := hidI m
        have HS6 : Hid (IS gp S w S6 w6) := (HS5.out.alloc _).trans s
        clear m s
        have HY6 := hidI (HY5.out.trans hn6)
        go_wp2
        go_end0
        rw [HY6.out]
        exact ⟨rfl, S6, HM6.out, HS6.out⟩

set_option maxRecDepth 100000 in
set_option maxHeartbeats 1600000 in
theorem importItem_4 (C : Cx) (gt cap base gp : Nat) (S : Sv) (q : PS) (w : World) (h : IM C gt cap base gp S q w) (hC : Sized C) (hk : ((tokAt C q.pos).kind == 3) = false) (h1 : isT C q.pos 4 cLeft = false) (h2 : isT C q.pos 4 cStar = false) :
    Calls Tryz.prog 149 #[.pointer (some ⟨gp, 0, none⟩)] w (IOut C gt cap base gp (impItemI C q) id (fun _ => .tuple #[]) S w) := by
  have HH := hidI h
  have hf0 := run_field0
  have HY : Hid (impItemI C q = bd (nameP C false q) fun b => impFromI C [⟨0, b.2, sDefault, sNone⟩] b.1) := by show _ = _; rw [impItemI, hk, h1, h2]; rfl
  clear h
  go_enter Tryz.func149, Tryz.ntmps149
  go_wp2_with fail
  refine (peek_any C gt cap base gp S q _ HH.out).mono ?_
  rintro e w1 ⟨rfl, hb⟩
  unfold tkV
  have HM1 : Hid (IM C gt cap base gp S q w1) := HH.out.later hb
  have HS1 : Hid (IS gp S w S w1) := IS.below hb
  clear hb
  go_wp2_with fail
  refine (passes_any C gt cap base gp S q 4 cLeft _ HM1.out (by decide)).mono ?_
  rintro e w2 ⟨rfl, m, s⟩
  rw [h1] at m ⊢
  have HM2 := hidI m
  have HS2 : Hid (IS gp S w S w2) := HS1.out.trans s
  clear m s
  go_wp2_with fail
  refine (passes_any C gt cap base gp S q 4 cStar _ HM2.out (by decide)).mono ?_
  rintro e w3 ⟨rfl, m, s⟩
  rw [h2] at m ⊢
  have HM3 := hidI m
  have HS3 : Hid (IS gp S w S w3) := HS2.out.trans s
  clear m s
  go_wp2_with fail
  refine (plainName_any C gt cap base gp S q _ HM3.out).mono ?_
  cases hn4 : nameP C false q with
  | error p =>
    rintro e w4 ⟨rfl, hb⟩
    have HB : Hid (Below base w w4) := (HH.out.back HS3.out).trans hb
    have HX : Hid (impItemI C q = .error p) := bdE HY.out hn4
    unfold Pan
    go_wp2
    refine ⟨rfl, ?_⟩
    rw [HX.out]
    exact ⟨rfl, HB.out⟩
  | ok a4 =>
    rintro e w4 ⟨rfl, S4, m, s⟩
    have HM4 := hidI m
    have HS4 : Hid (IS gp S w S4 w4) := HS3.out.trans s
    clear m s
    have HY4 := hidI (bdO HY.out hn4)
    go_wp2_with fail
    refine (importFrom_any C gt cap base gp _ ⟨some ⟨w4.heap.size, 0, none⟩, 1⟩ S4 a4.1 [⟨0, a4.2, sDefault, sNone⟩] _ (HM4.out.alloc _) hC (by simp) (by simp) (fr_one HM4.out 100 (imL (toIm ⟨0, a4.2, sDefault, sNone⟩)))).mono ?_
    cases hn5 : impFromI C [⟨0, a4.2, sDefault, sNone⟩] a4.1 with
    | error p =>
      rintro e w5 ⟨rfl, hb⟩
      have HB : Hid (Below base w w5) := (HH.out.back (HS4.out.alloc _)).trans hb
      have HX : Hid (impItemI C q = .error p) := HY4.out.trans hn5
      unfold Pan
      go_wp2
      refine ⟨rfl, ?_⟩
      rw [HX.out]
      exact ⟨rfl, HB.out⟩
    | ok a5 =>
      rintro e w5 ⟨rfl, S5, m, s⟩
      have HM5 := hidI m
      have HS5 : Hid (IS gp S w S5 w5) := (HS4.out.alloc _).trans s
      clear m s
      have HY5 := hidI (HY4.out.trans hn5)
      go_wp2
      go_end0
      rw [HY5.out]
      exact ⟨rfl, S5, HM5.out, HS5.out⟩

theorem importItem_any (C : Cx) (gt cap base gp : Nat) (S : Sv) (q : PS) (w : World) (h : IM C gt cap base gp S q w) (hC : Sized C) :
    Calls Tryz.prog 149 #[.pointer (some ⟨gp, 0, none⟩)] w (IOut C gt cap base gp (impItemI C q) id (fun _ => .tuple #[]) S w) := by
  cases hk : ((tokAt C q.pos).kind == 3) with
  | true => exact importItem_1 C gt cap base gp S q w h hC hk
  | false =>
    cases h1 : isT C q.pos 4 cLeft with
    | true => exact importItem_2 C gt cap base gp S q w h hC hk h1
    | false =>
      cases h2 : isT C q.pos 4 cStar with
      | true => exact importItem_3 C gt cap base gp S q w h hC hk h1 h2
      | false => exact importItem_4 C gt cap base gp S q w h hC hk h1 h2
end Go.Proofs.YticdggnnpjachaaGreat
namespace Go.Proofs.YticdggnnpjachaaGreat
open Go.RowKit Go.PlainAid Go.Sort

theorem pairT_as {C : Cx} {q : PS} {a : PS × ByteArray} (hn : nameP C true q = .ok a) (h : isT C a.1.pos 1 sAs = true) : pairI C true q = bd (nameP C true (adv a.1)) fun b => .ok (b.1, ⟨0, b.2, a.2, sNone⟩) := by
  rw [pairI, hn, bd_ok, asP, if_pos h]
theorem pairT_alone {C : Cx} {q : PS} {a : PS × ByteArray} (hn : nameP C true q = .ok a) (h : isT C a.1.pos 1 sAs = false) : pairI C true q = .ok (a.1, ⟨0, a.2, a.2, sNone⟩) := by
  rw [pairI, hn, bd_ok, asP, if_neg (by rw [h]; decide), if_neg (by simp)]
  rfl

set_option maxRecDepth 100000 in
set_option maxHeartbeats 3200000 in
theorem exportList_any (C : Cx) (gt cap base gp : Nat) (S : Sv) (q : PS) (w : World) (h : IM C gt cap base gp S q w) :
    Calls Tryz.prog 177 #[.pointer (some ⟨gp, 0, none⟩)] w (LOut C gt cap base gp 102 4 (fun e => epL (expLoc e)) (listL C true q []) S w) := by
  obtain ⟨i0, hi, hz0, hz1, hz2⟩ := info_parts Tryz.infoExp
  have HH : Hid (IM C gt cap base gp S q w) := h
  clear h
  go_enter Tryz.func177, Tryz.ntmps177
  go_wp2
  go_loopg [3] (C.ts.length + 1) (fun k v wr => ∃ (S' : Sv) (q' : PS) (r : Rw) (l : List Ep), v = .slice r.a l.length r.cap ∧ listL C true q [] = listL C true q' l ∧ C.ts.length - q'.pos < k ∧ l.length + (C.ts.length - q'.pos) ≤ C.ts.length ∧ IM C gt cap base gp S' q' wr ∧ IS gp S w S' wr ∧ Fr 102 4 wr w.heap.size r l.length (l.flatMap (fun e => epL (expLoc e))) S')
  case atStart => exact ⟨S, q, ⟨some ⟨w.heap.size, 0, none⟩, 0⟩, [], rfl, rfl, by omega, by simp, HH.out.alloc _, (IS.refl _ _ _).alloc _, fr_start HH.out _ _⟩
  case round =>
    obtain ⟨S', q', r, l, rfl, hy, hk, hl, m', s', f'⟩ := hrel
    have HY0 : Hid (listL C true q [] = listL C true q' l) := hy
    have HY := hidI (HY0.out.trans (listL_pair C true q' l))
    have HMr : Hid (IM C gt cap base gp S' q' wr) := m'
    have HSr : Hid (IS gp S w S' wr) := s'
    have HFr : Hid (Fr 102 4 wr w.heap.size r l.length (l.flatMap (fun e => epL (expLoc e))) S') := f'
    have hfew := m'.mem.few
    clear hy m' s' f'
    go_wp2_with fail
    refine (plainOrDefault_any C gt cap base gp S' q' _ HMr.out).mono ?_
    cases hn1 : nameP C true q' with
    | error p =>
      rintro e w1 ⟨rfl, hb⟩
      have HB : Hid (Below base w w1) := (HH.out.back HSr.out).trans hb
      have HX : Hid (listL C true q [] = .error p) := by show _ = _; rw [HY.out, pairI, hn1]; rfl
      unfold Pan
      go_wp2
      refine ⟨rfl, ?_⟩
      rw [HX.out]
      exact ⟨rfl, HB.out⟩
    | ok a =>
      rintro e w1 ⟨rfl, S1, m, s⟩
      have HM1 : Hid (IM C gt cap base gp S1 a.1 w1) := m
      have HS1 : Hid (IS gp S w S1 w1) := HSr.out.trans s
      have HF1 : Hid (Fr 102 4 w1 w.heap.size r l.length (l.flatMap (fun e => epL (expLoc e))) S1) := HFr.out.step HMr.out (by decide) s
      clear m s
      cases hi2 : isT C a.1.pos 1 sAs with
      | true =>
        have HW := hidI (pairT_as hn1 hi2)
        go_wp2_with fail
        refine (passes_any C gt cap base gp S1 a.1 1 sAs _ HM1.out (by decide)).mono ?_
        rintro e w2 ⟨rfl, m, s⟩
        rw [hi2] at m ⊢
        have HM2 : Hid (IM C gt cap base gp S1 (adv a.1) w2) := m
        have HS2 : Hid (IS gp S w S1 w2) := HS1.out.trans s
        have HF2 : Hid (Fr 102 4 w2 w.heap.size r l.length (l.flatMap (fun e => epL (expLoc e))) S1) := HF1.out.step HM1.out (by decide) s
        clear m s
        go_wp2_with fail
        refine (plainOrDefault_any C gt cap base gp S1 (adv a.1) _ HM2.out).mono ?_
        cases hn3 : nameP C true (adv a.1) with
        | error p =>
          rintro e w3 ⟨rfl, hb⟩
          have HB : Hid (Below base w w3) := (HH.out.back HS2.out).trans hb
          have HX : Hid (listL C true q [] = .error p) := by show _ = _; rw [HY.out, HW.out, hn3]; rfl
          unfold Pan
          go_wp2
          refine ⟨rfl, ?_⟩
          rw [HX.out]
          exact ⟨rfl, HB.out⟩
        | ok c =>
          rintro e w3 ⟨rfl, S3, m, s⟩
          have HM3 : Hid (IM C gt cap base gp S3 c.1 w3) := m
          have HS3 : Hid (IS gp S w S3 w3) := HS2.out.trans s
          have HF3 : Hid (Fr 102 4 w3 w.heap.size r l.length (l.flatMap (fun e => epL (expLoc e))) S3) := HF2.out.step HM2.out (by decide) s
          clear m s
          have HPAIR := hidI (bdO HW.out hn3)
          have HE := hidI (bdO HY.out HPAIR.out)
          have hpp := pair_pos HPAIR.out
          have hip := HM3.out.mem.inv.pos
          have hown := fun o1 => (HF3.out.later ((Below.refl w3.heap.size w3).alloc (Nat.le_refl _) o1)).1
          have hsz := fun o1 => (HS3.out.alloc o1).size
          go_wp2_with (at_builtin; refine app_row _ rfl _ _ 24 rfl w.heap.size 102 i0 _ 4 56 Tryz.underlying24 hi hz0 hz1 hz2 rfl (by decide) (by decide) r l.length _ (by rfl) (hown _) w3.heap.size (epL (expLoc (⟨0, c.2, a.2, sNone⟩ : Ep))) (by rfl) (by exact heap_alloc_new w3 _) rfl (ep_ones _) (by omega) (hsz _) ?_; intro r' w4 hr hgr hat; have HM4 : Hid (IM C gt cap base gp S3 c.1 w4) := (HM3.out.alloc _).aside hgr (fun k g => ⟨HF3.out.2 k g, HF3.out.ngp HM3.out (by decide) g, HF3.out.ngt HM3.out (by decide) g⟩); have HS4 : Hid (IS gp S w S3 w4) := (HS3.out.alloc _).aside hgr (fun k g => (HF3.out.1.typed g).1); have HFx : Hid (Fr 102 4 w4 w.heap.size r' (l.length + 1) _ S3) := (HF3.out.later ((Below.refl _ _).alloc (Nat.le_refl _) _)).grown (HM3.out.alloc _) hr hat; clear hr hgr hat hown hsz)
          have el : (l ++ [(⟨0, c.2, a.2, sNone⟩ : Ep)]).length = l.length + 1 := by simp
          have HF4 : Hid (Fr 102 4 w4 w.heap.size r' (l ++ [(⟨0, c.2, a.2, sNone⟩ : Ep)]).length ((l ++ [(⟨0, c.2, a.2, sNone⟩ : Ep)]).flatMap (fun e => epL (expLoc e))) S3) := by
            show Fr _ _ _ _ _ _ _ _
            rw [el, List.flatMap_append]
            simpa using HFx.out
          have HEL : Hid ((l ++ [(⟨0, c.2, a.2, sNone⟩ : Ep)]).length = l.length + 1) := el
          clear el HFx
          go_wp2_with fail
          cases hc : isT C c.1.pos 4 cComma with
          | true =>
            have hlt := isT_lt hc (by decide)
            have HC := hidI (HE.out.trans (if_pos hc))
            refine (passes_any C gt cap base gp S3 (c.1) 4 cComma _ HM4.out (by decide)).mono ?_
            rintro e w5 ⟨rfl, m, s⟩
            rw [hc] at m ⊢
            have HM5 : Hid (IM C gt cap base gp S3 (adv (c.1)) w5) := m
            have HS5 : Hid (IS gp S w S3 w5) := HS4.out.trans s
            have HF5 : Hid (Fr 102 4 w5 w.heap.size r' (l ++ [(⟨0, c.2, a.2, sNone⟩ : Ep)]).length ((l ++ [(⟨0, c.2, a.2, sNone⟩ : Ep)]).flatMap (fun e => epL (expLoc e))) S3) := HF4.out.step HM4.out (by decide) s
            clear m s
            go_wp2
            go_roundg (gk - 1)
            case rel => exact ⟨S3, adv c.1, r', (l ++ [(⟨0, c.2, a.2, sNone⟩ : Ep)]), by rw [HEL.out], HC.out, by rw [adv_pos]; omega, by rw [adv_pos, HEL.out]; omega, HM5.out, HS5.out, HF5.out⟩
            case measure => omega
          | false =>
            have HC := hidI (HE.out.trans (if_neg (by rw [hc]; decide)))
            refine (passes_any C gt cap base gp S3 (c.1) 4 cComma _ HM4.out (by decide)).mono ?_
            rintro e w5 ⟨rfl, m, s⟩
            rw [hc] at m ⊢
            have HM5 : Hid (IM C gt cap base gp S3 (c.1) w5) := m
            have HS5 : Hid (IS gp S w S3 w5) := HS4.out.trans s
            have HF5 : Hid (Fr 102 4 w5 w.heap.size r' (l ++ [(⟨0, c.2, a.2, sNone⟩ : Ep)]).length ((l ++ [(⟨0, c.2, a.2, sNone⟩ : Ep)]).flatMap (fun e => epL (expLoc e))) S3) := HF4.out.step HM4.out (by decide) s
            clear m s
            go_wp2_with fail
            refine (passSign C gt cap base gp S3 c.1 125 _ HM5.out).mono ?_
            cases hn6 : tokP C 4 cRight c.1 with
            | error p =>
              rintro e w6 ⟨rfl, hb⟩
              have HB : Hid (Below base w w6) := (HH.out.back HS5.out).trans hb
              have HX : Hid (listL C true q [] = .error p) := bdE HC.out hn6
              unfold Pan
              go_wp2
              refine ⟨rfl, ?_⟩
              rw [HX.out]
              exact ⟨rfl, HB.out⟩
            | ok a6 =>
              rintro e w6 ⟨rfl, S6, m, s⟩
              have HF6 : Hid (Fr 102 4 w6 w.heap.size r' (l ++ [(⟨0, c.2, a.2, sNone⟩ : Ep)]).length ((l ++ [(⟨0, c.2, a.2, sNone⟩ : Ep)]).flatMap (fun e => epL (expLoc e))) S6) := HF5.out.step HM5.out (by decide) s
              have HM6 : Hid (IM C gt cap base gp S6 a6 w6) := m
              have HS6 : Hid (IS gp S w S6 w6) := HS5.out.trans s
              clear m s
              have HY6 := hidI (bdO HC.out hn6)
              go_wp2
              go_ret
              rw [HY6.out]
              exact ⟨r', S6, by rw [HEL.out]; rfl, HM6.out, HS6.out, HF6.out, by show 0 < (l ++ [(⟨0, c.2, a.2, sNone⟩ : Ep)]).length; rw [HEL.out]; omega, by show (l ++ [(⟨0, c.2, a.2, sNone⟩ : Ep)]).length ≤ 4000; rw [HEL.out]; omega⟩
      | false =>
        have HPAIR := hidI (pairT_alone hn1 hi2)
        have HE := hidI (bdO HY.out HPAIR.out)
        go_wp2_with fail
        refine (passes_any C gt cap base gp S1 a.1 1 sAs _ HM1.out (by decide)).mono ?_
        rintro e w2 ⟨rfl, m, s⟩
        rw [hi2] at m ⊢
        have HM2 : Hid (IM C gt cap base gp S1 a.1 w2) := m
        have HS2 : Hid (IS gp S w S1 w2) := HS1.out.trans s
        have HF2 : Hid (Fr 102 4 w2 w.heap.size r l.length (l.flatMap (fun e => epL (expLoc e))) S1) := HF1.out.step HM1.out (by decide) s
        clear m s
        have hpp := pair_pos HPAIR.out
        have hip := HM2.out.mem.inv.pos
        have hown := fun o1 => (HF2.out.later ((Below.refl w2.heap.size w2).alloc (Nat.le_refl _) o1)).1
        have hsz := fun o1 => (HS2.out.alloc o1).size
        go_wp2_with (at_builtin; refine app_row _ rfl _ _ 24 rfl w.heap.size 102 i0 _ 4 56 Tryz.underlying24 hi hz0 hz1 hz2 rfl (by decide) (by decide) r l.length _ (by rfl) (hown _) w2.heap.size (epL (expLoc (⟨0, a.2, a.2, sNone⟩ : Ep))) (by rfl) (by exact heap_alloc_new w2 _) rfl (ep_ones _) (by omega) (hsz _) ?_; intro r' w3 hr hgr hat; have HM3 : Hid (IM C gt cap base gp S1 a.1 w3) := (HM2.out.alloc _).aside hgr (fun k g => ⟨HF2.out.2 k g, HF2.out.ngp HM2.out (by decide) g, HF2.out.ngt HM2.out (by decide) g⟩); have HS3 : Hid (IS gp S w S1 w3) := (HS2.out.alloc _).aside hgr (fun k g => (HF2.out.1.typed g).1); have HFx : Hid (Fr 102 4 w3 w.heap.size r' (l.length + 1) _ S1) := (HF2.out.later ((Below.refl _ _).alloc (Nat.le_refl _) _)).grown (HM2.out.alloc _) hr hat; clear hr hgr hat hown hsz)
        have el : (l ++ [(⟨0, a.2, a.2, sNone⟩ : Ep)]).length = l.length + 1 := by simp
        have HF3 : Hid (Fr 102 4 w3 w.heap.size r' (l ++ [(⟨0, a.2, a.2, sNone⟩ : Ep)]).length ((l ++ [(⟨0, a.2, a.2, sNone⟩ : Ep)]).flatMap (fun e => epL (expLoc e))) S1) := by
          show Fr _ _ _ _ _ _ _ _
          rw [el, List.flatMap_append]
          simpa using HFx.out
        have HEL : Hid ((l ++ [(⟨0, a.2, a.2, sNone⟩ : Ep)]).length = l.length + 1) := el
        clear el HFx
        go_wp2_with fail
        cases hc : isT C a.1.pos 4 cComma with
        | true =>
          have hlt := isT_lt hc (by decide)
          have HC := hidI (HE.out.trans (if_pos hc))
          refine (passes_any C gt cap base gp S1 (a.1) 4 cComma _ HM3.out (by decide)).mono ?_
          rintro e w4 ⟨rfl, m, s⟩
          rw [hc] at m ⊢
          have HM4 : Hid (IM C gt cap base gp S1 (adv (a.1)) w4) := m
          have HS4 : Hid (IS gp S w S1 w4) := HS3.out.trans s
          have HF4 : Hid (Fr 102 4 w4 w.heap.size r' (l ++ [(⟨0, a.2, a.2, sNone⟩ : Ep)]).length ((l ++ [(⟨0, a.2, a.2, sNone⟩ : Ep)]).flatMap (fun e => epL (expLoc e))) S1) := HF3.out.step HM3.out (by decide) s
          clear m s
          go_wp2
          go_roundg (gk - 1)
          case rel => exact ⟨S1, adv a.1, r', (l ++ [(⟨0, a.2, a.2, sNone⟩ : Ep)]), by rw [HEL.out], HC.out, by rw [adv_pos]; omega, by rw [adv_pos, HEL.out]; omega, HM4.out, HS4.out, HF4.out⟩
          case measure => omega
        | false =>
          have HC := hidI (HE.out.trans (if_neg (by rw [hc]; decide)))
          refine (passes_any C gt cap base gp S1 (a.1) 4 cComma _ HM3.out (by decide)).mono ?_
          rintro e w4 ⟨rfl, m, s⟩
          rw [hc] at m ⊢
          have HM4 : Hid (IM C gt cap base gp S1 (a.1) w4) := m
          have HS4 : Hid (IS gp S w S1 w4) := HS3.out.trans s
          have HF4 : Hid (Fr 102 4 w4 w.heap.size r' (l ++ [(⟨0, a.2, a.2, sNone⟩ : Ep)]).length ((l ++ [(⟨0, a.2, a.2, sNone⟩ : Ep)]).flatMap (fun e => epL (expLoc e))) S1) := HF3.out.step HM3.out (by decide) s
          clear m s
          go_wp2_with fail
          refine (passSign C gt cap base gp S1 a.1 125 _ HM4.out).mono ?_
          cases hn5 : tokP C 4 cRight a.1 with
          | error p =>
            rintro e w5 ⟨rfl, hb⟩
            have HB : Hid (Below base w w5) := (HH.out.back HS4.out).trans hb
            have HX : Hid (listL C true q [] = .error p) := bdE HC.out hn5
            unfold Pan
            go_wp2
            refine ⟨rfl, ?_⟩
            rw [HX.out]
            exact ⟨rfl, HB.out⟩
          | ok a5 =>
            rintro e w5 ⟨rfl, S5, m, s⟩
            have HF5 : Hid (Fr 102 4 w5 w.heap.size r' (l ++ [(⟨0, a.2, a.2, sNone⟩ : Ep)]).length ((l ++ [(⟨0, a.2, a.2, sNone⟩ : Ep)]).flatMap (fun e => epL (expLoc e))) S5) := HF4.out.step HM4.out (by decide) s
            have HM5 : Hid (IM C gt cap base gp S5 a5 w5) := m
            have HS5 : Hid (IS gp S w S5 w5) := HS4.out.trans s
            clear m s
            have HY5 := hidI (bdO HC.out hn5)
            go_wp2
            go_ret
            rw [HY5.out]
            exact ⟨r', S5, by rw [HEL.out]; rfl, HM5.out, HS5.out, HF5.out, by show 0 < (l ++ [(⟨0, a.2, a.2, sNone⟩ : Ep)]).length; rw [HEL.out]; omega, by show (l ++ [(⟨0, a.2, a.2, sNone⟩ : Ep)]).length ≤ 4000; rw [HEL.out]; omega⟩
end Go.Proofs.YticdggnnpjachaaGreat
