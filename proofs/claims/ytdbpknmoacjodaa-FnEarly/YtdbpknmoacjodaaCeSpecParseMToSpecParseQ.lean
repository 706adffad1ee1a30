/-
  What spec's l4Import answers: the walks.
  What spec's l4Export answers: the walks.
  What spec's l4Export answers to a list of names: the walks.
  What spec's l4Item answers: the walks.
  What spec's l4Item answers outside of a script: the walks.
-/
import Derived.Test.YtdbpknmoacjodaaCeSpecParseJToSpecParseK
namespace Go.Proofs.Ytdbpknmoacjodaa
open Go.RowKit Go.PlainAid

theorem word_yes {C : Cx} {k : Int} {s : ByteArray} {q q1 : PS} {z1 : Int} (h : Is (bd (.ok q) (tokP C k s)) q1 z1) (hw : isT C q.pos k s = true) : q1 = adv q ∧ z1 = -1 := by
  rw [bd_ok, tokP, if_pos hw] at h
  exact h
theorem addAll_error {α : Type} (f : α → PS → PR) (l : List α) (e : Nat) : addAll f l (.error e) = .error e := by
  induction l with
  | nil => rfl
  | cons a l ih => exact ih
theorem addAll_drop {α : Type} (f : α → PS → PR) (l : List α) (x : PR) {k : Nat} (hk : k < l.length) : addAll f (l.drop k) x = addAll f (l.drop (k + 1)) (bd x (f (l[k]))) := by
  rw [List.drop_eq_getElem_cons hk]
  rfl
theorem imp_bind {C : Cx} {ya : PRN} {qa qb : PS} {za zb : Int} {na nb : ByteArray} {G : ByteArray → ByteArray → PS → PR} (ha : Is2 ya qa za na) (hb : Is2 (bd (bd (fstP ya) (tokP C 1 sFrom)) (specP C)) qb zb nb) :
    bd (bd (fstP (bd (bd (fstP ya) (tokP C 1 sFrom)) (specP C))) (tokP C 4 cSemi)) (G nb na) = bd ya fun a => bd (semiN C (tailS C (.ok a.1))) fun b => G b.2 a.2 b.1 := by
  cases ya with
  | error e => rfl
  | ok a =>
    obtain ⟨_, _, rfl⟩ := ha
    have e1 : bd (bd (fstP (.ok a)) (tokP C 1 sFrom)) (specP C) = tailS C (.ok a.1) := rfl
    rw [e1] at hb ⊢
    rw [bd_ok]
    cases hY : tailS C (.ok a.1) with
    | error e => rfl
    | ok b =>
      rw [hY] at hb
      obtain ⟨_, _, rfl⟩ := hb
      show bd (tokP C 4 cSemi b.1) (G b.2 a.2) = bd (bd (tokP C 4 cSemi b.1) fun q => .ok (q, b.2)) fun b => G b.2 a.2 b.1
      rw [bd_bd]
      rfl
def fstL (y : PRL) : PR := bd y fun a => .ok a.1
theorem Is3.fst {y : PRL} {q : PS} {z : Int} {l : List Ep} (h : Is3 y q z l) : Is (fstL y) q z := by
  cases y with
  | ok a => exact ⟨h.1, h.2.1⟩
  | error e => exact h
theorem list_bind {C : Cx} {y : PRL} {qa qb : PS} {za zb : Int} {l : List Ep} {nb : ByteArray} {G : ByteArray → Ep → PS → PR} (ha : Is3 y qa za l) (hb : Is2 (bd (bd (fstL y) (tokP C 1 sFrom)) (specP C)) qb zb nb) :
    addAll (G nb) l (bd (fstP (bd (bd (fstL y) (tokP C 1 sFrom)) (specP C))) (tokP C 4 cSemi)) = bd y fun a => bd (semiN C (tailS C (.ok a.1))) fun b => addAll (G b.2) a.2 (.ok b.1) := by
  cases y with
  | error e => exact addAll_error _ _ _
  | ok a =>
    obtain ⟨_, _, rfl⟩ := ha
    have e1 : bd (bd (fstL (.ok a)) (tokP C 1 sFrom)) (specP C) = tailS C (.ok a.1) := rfl
    rw [e1] at hb ⊢
    rw [bd_ok]
    cases hY : tailS C (.ok a.1) with
    | error e => exact addAll_error _ _ _
    | ok b =>
      rw [hY] at hb
      obtain ⟨_, _, rfl⟩ := hb
      show addAll (G b.2) a.2 (bd (fstP (.ok b)) (tokP C 4 cSemi)) = bd (bd (tokP C 4 cSemi b.1) fun q => .ok (q, b.2)) fun b => addAll (G b.2) a.2 (.ok b.1)
      have e2 : bd (fstP (.ok b)) (tokP C 4 cSemi) = tokP C 4 cSemi b.1 := rfl
      rw [e2, bd_bd]
      cases tokP C 4 cSemi b.1 with
      | error e => exact addAll_error _ _ _
      | ok c => rfl
theorem Mem.drew {C : Cx} {gt cap base : Nat} {S : Sv} {q : PS} {w : World} (h : Mem C gt cap base S q w) : Mem C gt cap base S q w.drew := ⟨⟨h.own.rq, h.own.im, h.own.ep, h.own.st, h.own.ex, h.own.la, h.own.apart⟩, h.inv, h.tok, h.few, h.base⟩
theorem Stp.undrew {S S' : Sv} {w w' : World} (h : Stp S w.drew S' w') : Stp S w S' w' := ⟨h.os, h.tape, h.output, h.size, h.block, h.sub⟩
theorem Row.cells {S : Sv} {w : World} {base B g : Nat} {r : Rw} {l : List Ep} (h : Row S w base B r l) (hg : r.a = some ⟨g, 0, none⟩) {j : Nat} (hj : j < l.length) :
    w.cell? ⟨g, j * 4 + 1, none⟩ = some (.string (l[j]).name) ∧ w.cell? ⟨g, j * 4 + 2, none⟩ = some (.string (l[j]).loc) := by
  have ho := h.own
  unfold OwnR at ho
  rw [hg] at ho
  have key : ∀ (l : List Ep) (i c : Nat) (hc : c < 4) (hi : i < l.length), (l.flatMap epL)[i * 4 + c]? = (epL l[i])[c]? := by
    intro l
    induction l with
    | nil => intro i c _ hi; simp at hi
    | cons x l ih =>
      intro i c hc hi
      match i with
      | 0 =>
        simp only [List.flatMap_cons, Nat.zero_mul, Nat.zero_add, List.getElem_cons_zero]
        rw [List.getElem?_append_left (by simp [epL]; omega)]
      | i + 1 =>
        simp only [List.flatMap_cons, List.getElem_cons_succ]
        rw [List.getElem?_append_right (by simp [epL]; omega)]
        have e : (i + 1) * 4 + c - (epL x).length = i * 4 + c := by simp [epL]; omega
        rw [e]
        exact ih i c hc (by simpa using hi)
  rw [ho.cellAt _ (by omega), ho.cellAt _ (by omega)]
  exact ⟨key l j 1 (by omega) hj, key l j 2 (by omega) hj⟩
theorem addIm_pos {C : Cx} {y : Im} {x : PR} {q q' : PS} {z z' : Int} (hp : z < 0 → 1 ≤ q.pos) (hi : Is x q z) (h : Is (bd x (addIm C y)) q' z') : z' < 0 → 1 ≤ q'.pos := by
  intro hz
  obtain ⟨e, _⟩ := is_neg h hz
  obtain ⟨a, e1, e2⟩ := bd_eq_ok e
  subst e1
  obtain ⟨rfl, rfl⟩ := hi
  unfold addIm at e2
  split at e2
  · cases e2
  · cases e2
    exact hp (by decide)
theorem addEp_pos {C : Cx} {y : Ep} {x : PR} {q q' : PS} {z z' : Int} (hp : z < 0 → 1 ≤ q.pos) (hi : Is x q z) (h : Is (bd x (addEp C y)) q' z') : z' < 0 → 1 ≤ q'.pos := by
  intro hz
  obtain ⟨e, _⟩ := is_neg h hz
  obtain ⟨a, e1, e2⟩ := bd_eq_ok e
  subst e1
  obtain ⟨rfl, rfl⟩ := hi
  unfold addEp at e2
  split at e2
  · cases e2
  · split at e2
    · cases e2
      exact hp (by decide)
    · cases e2
      exact hp (by decide)

set_option maxRecDepth 100000 in
set_option maxHeartbeats 6400000 in
theorem l4Import_star (C : Cx) (gt cap base : Nat) (S : Sv) (q : PS) (w : World) (hm : Mem C gt cap base S q w) (hw : isT C q.pos 1 sImport = true) (h1 : isT C (q.pos + 1) 4 cLeft = false) (h2 : isT C (q.pos + 1) 4 cStar = true) :
    Calls Try.prog 167 #[pv C gt cap S q (-1) 0] w (Out C gt cap base (importP C q) 0 S w) := by
  have HM := hidI hm
  have hfew := hm.few
  clear hm
  have HV : Hid (importP C q = bd (bd (bd (bd (.ok (adv q)) (tokP C 4 cStar)) (tokP C 1 sAs)) (nameP C false)) fun a => bd (semiN C (tailS C (.ok a.1))) fun b => addIm C ⟨b.2, cStar, a.2⟩ b.1) := by
    show _ = _
    rw [importP, tokP, if_pos hw, bd_ok]
    rw [adv_pos, h1, h2]
    rfl
  unfold pv
  go_enter Try.func167, Try.ntmps167
  go_wp2_with fail
  refine (l4Word_spec C gt cap base (.ok q) S q (-1) 0 sImport _ (is_ok q) ((HM.out.alloc _).alloc _)).mono ?_
  rintro e w1 ⟨S1, q1, z1, rfl, hi1, m1, s1⟩
  have F := HM.out.fm2 m1 s1
  obtain ⟨hq1, rfl⟩ := word_yes hi1.out hw
  have HQ := hidI hq1
  have HQP : Hid (q1.pos = q.pos + 1) := by show q1.pos = q.pos + 1; rw [hq1]; rfl
  clear hq1 hi1
  have ab := F.x0.boxC
  unfold pv
  go_upto_region 2 with fail
  refine (F.put0 _ _ _ _ _ _ _ _ _ _ _ _).cut ?_
  clear ab
  intro w2 F
  have ab := F.x0.boxC
  go_wp2_with fail
  refine (is_spec C gt cap base S1 q1 (-1) 0 4 cLeft _ F.m.tok hfew (by decide)).mono ?_
  rintro e w3 ⟨rfl, hb3⟩
  rw [HQP.out, h1]
  replace F := F.below hb3
  clear ab
  have ab := F.x0.boxC
  go_wp2_with fail
  refine (is_spec C gt cap base S1 q1 (-1) 0 4 cStar _ F.m.tok hfew (by decide)).mono ?_
  rintro e w4 ⟨rfl, hb4⟩
  rw [HQP.out, h2]
  replace F := F.below hb4
  clear ab
  have ab := F.x0.boxC
  clear HQP
  go_wp2_with fail
  refine (l4Sign_spec C gt cap base (.ok q1) S1 q1 (-1) 0 cStar _ (is_ok q1) F.m).mono ?_
  rintro e w5 ⟨S5, q5, z5, rfl, hi5, m5, s5⟩
  replace F := F.stp m5 s5
  clear ab
  go_wp2_with fail
  refine (l4Word_spec C gt cap base _ S5 q5 z5 0 sAs _ hi5.out F.m).mono ?_
  rintro e w6 ⟨S6, q6, z6, rfl, hi6, m6, s6⟩
  replace F := F.stp m6 s6
  go_wp2_with fail
  refine (l4Name_spec C gt cap base _ S6 q6 z6 0 false _ hi6.out F.m).mono ?_
  rintro e w7 ⟨S7, q7, z7, n7, rfl, hi7, m7, s7⟩
  replace F := F.stp m7 s7
  have hlt2 : w.heap.size + 1 < w7.heap.size := F.x1.lt
  unfold pv
  go_upto_region 13 with fail
  refine (F.new2 _).cut ?_
  intro w8 F
  have cb := F.x2.boxC
  go_wp2_with fail
  refine (l4Word_spec C gt cap base _ S7 q7 z7 0 sFrom _ hi7.out.fst F.m).mono ?_
  rintro e w9 ⟨S9, q9, z9, rfl, hi9, m9, s9⟩
  replace F := F.stp m9 s9
  clear cb
  go_wp2_with fail
  refine (l4Spec_spec C gt cap base _ S9 q9 z9 0 _ hi9.out F.m).mono ?_
  rintro e w10 ⟨S10, q10, z10, n10, rfl, hi10, m10, s10⟩
  replace F := F.stp m10 s10
  have hlt3 : w.heap.size + 1 < w10.heap.size := F.x1.lt
  have hlt3_2 : w7.heap.size < w10.heap.size := F.x2.lt
  unfold pv
  go_upto_region 14 with fail
  refine (F.new3 _).cut ?_
  intro w11 F
  have db := F.x3.boxC
  go_wp2_with fail
  refine (l4Sign_spec C gt cap base _ S10 q10 z10 0 cSemi _ hi10.out.fst F.m).mono ?_
  rintro e w12 ⟨S12, q12, z12, rfl, hi12, m12, s12⟩
  replace F := F.stp m12 s12
  clear db
  go_wp2_with fail
  refine (l4Imp_spec C gt cap base _ S12 q12 z12 0 ⟨n10, cStar, n7⟩ _ hi12.out F.m (pos_tok hi12.out)).mono ?_
  rintro e w13 ⟨S13, q13, z13, rfl, hi13, m13, s13⟩
  replace F := F.stp m13 s13
  have bb := F.x1.boxC
  unfold pv
  go_wp2
  refine (F.x1.put _ _ _ _ _ _ _ _ _ _ _ _).ret rfl rfl ?_
  rw [HV.out, ← HQ.out, ← imp_bind (G := fun b a => addIm C ⟨b, cStar, a⟩) hi7.out hi10.out]
  exact (F.put1 _ _ _ _ _ _ _ _ _ _ _ _).done rfl hi13.out
set_option maxRecDepth 100000 in
set_option maxHeartbeats 6400000 in
theorem l4Import_plain (C : Cx) (gt cap base : Nat) (S : Sv) (q : PS) (w : World) (hm : Mem C gt cap base S q w) (hw : isT C q.pos 1 sImport = true) (h1 : isT C (q.pos + 1) 4 cLeft = false) (h2 : isT C (q.pos + 1) 4 cStar = false) (h3 : plainB C (q.pos + 1) false = true) :
    Calls Try.prog 167 #[pv C gt cap S q (-1) 0] w (Out C gt cap base (importP C q) 0 S w) := by
  have HM := hidI hm
  have hfew := hm.few
  clear hm
  have HV : Hid (importP C q = bd (bd (.ok (adv q)) (nameP C false)) fun a => bd (semiN C (tailS C (.ok a.1))) fun b => addIm C ⟨b.2, sDefault, a.2⟩ b.1) := by
    show _ = _
    rw [importP, tokP, if_pos hw, bd_ok]
    rw [adv_pos, h1, h2, h3]
    rfl
  unfold pv
  go_enter Try.func167, Try.ntmps167
  go_wp2_with fail
  refine (l4Word_spec C gt cap base (.ok q) S q (-1) 0 sImport _ (is_ok q) ((HM.out.alloc _).alloc _)).mono ?_
  rintro e w1 ⟨S1, q1, z1, rfl, hi1, m1, s1⟩
  have F := HM.out.fm2 m1 s1
  obtain ⟨hq1, rfl⟩ := word_yes hi1.out hw
  have HQ := hidI hq1
  have HQP : Hid (q1.pos = q.pos + 1) := by show q1.pos = q.pos + 1; rw [hq1]; rfl
  clear hq1 hi1
  have ab := F.x0.boxC
  unfold pv
  go_upto_region 2 with fail
  refine (F.put0 _ _ _ _ _ _ _ _ _ _ _ _).cut ?_
  clear ab
  intro w2 F
  have ab := F.x0.boxC
  go_wp2_with fail
  refine (is_spec C gt cap base S1 q1 (-1) 0 4 cLeft _ F.m.tok hfew (by decide)).mono ?_
  rintro e w3 ⟨rfl, hb3⟩
  rw [HQP.out, h1]
  replace F := F.below hb3
  clear ab
  have ab := F.x0.boxC
  go_wp2_with fail
  refine (is_spec C gt cap base S1 q1 (-1) 0 4 cStar _ F.m.tok hfew (by decide)).mono ?_
  rintro e w4 ⟨rfl, hb4⟩
  rw [HQP.out, h2]
  replace F := F.below hb4
  clear ab
  have ab := F.x0.boxC
  go_wp2_with fail
  refine (l4Plain_spec C gt cap base S1 q1 (-1) 0 false _ F.m.tok hfew).mono ?_
  rintro e w5 ⟨rfl, hb5⟩
  rw [HQP.out, h3]
  replace F := F.below hb5
  clear ab
  have ab := F.x0.boxC
  clear HQP
  go_wp2_with fail
  refine (l4Name_spec C gt cap base (.ok q1) S1 q1 (-1) 0 false _ (is_ok q1) F.m).mono ?_
  rintro e w6 ⟨S6, q6, z6, n6, rfl, hi6, m6, s6⟩
  replace F := F.stp m6 s6
  clear ab
  have hlt2 : w.heap.size + 1 < w6.heap.size := F.x1.lt
  unfold pv
  go_upto_region 17 with fail
  refine (F.new2 _).cut ?_
  intro w7 F
  have cb := F.x2.boxC
  go_wp2_with fail
  refine (l4Word_spec C gt cap base _ S6 q6 z6 0 sFrom _ hi6.out.fst F.m).mono ?_
  rintro e w8 ⟨S8, q8, z8, rfl, hi8, m8, s8⟩
  replace F := F.stp m8 s8
  clear cb
  go_wp2_with fail
  refine (l4Spec_spec C gt cap base _ S8 q8 z8 0 _ hi8.out F.m).mono ?_
  rintro e w9 ⟨S9, q9, z9, n9, rfl, hi9, m9, s9⟩
  replace F := F.stp m9 s9
  have hlt3 : w.heap.size + 1 < w9.heap.size := F.x1.lt
  have hlt3_2 : w6.heap.size < w9.heap.size := F.x2.lt
  unfold pv
  go_upto_region 18 with fail
  refine (F.new3 _).cut ?_
  intro w10 F
  have db := F.x3.boxC
  go_wp2_with fail
  refine (l4Sign_spec C gt cap base _ S9 q9 z9 0 cSemi _ hi9.out.fst F.m).mono ?_
  rintro e w11 ⟨S11, q11, z11, rfl, hi11, m11, s11⟩
  replace F := F.stp m11 s11
  clear db
  go_wp2_with fail
  refine (l4Imp_spec C gt cap base _ S11 q11 z11 0 ⟨n9, sDefault, n6⟩ _ hi11.out F.m (pos_tok hi11.out)).mono ?_
  rintro e w12 ⟨S12, q12, z12, rfl, hi12, m12, s12⟩
  replace F := F.stp m12 s12
  have bb := F.x1.boxC
  unfold pv
  go_wp2
  refine (F.x1.put _ _ _ _ _ _ _ _ _ _ _ _).ret rfl rfl ?_
  rw [HV.out, ← HQ.out, ← imp_bind (G := fun b a => addIm C ⟨b, sDefault, a⟩) hi6.out hi9.out]
  exact (F.put1 _ _ _ _ _ _ _ _ _ _ _ _).done rfl hi12.out
set_option maxRecDepth 100000 in
set_option maxHeartbeats 6400000 in
theorem l4Import_bare (C : Cx) (gt cap base : Nat) (S : Sv) (q : PS) (w : World) (hm : Mem C gt cap base S q w) (hw : isT C q.pos 1 sImport = true) (h1 : isT C (q.pos + 1) 4 cLeft = false) (h2 : isT C (q.pos + 1) 4 cStar = false) (h3 : plainB C (q.pos + 1) false = false) :
    Calls Try.prog 167 #[pv C gt cap S q (-1) 0] w (Out C gt cap base (importP C q) 0 S w) := by
  have HM := hidI hm
  have hfew := hm.few
  clear hm
  have HV : Hid (importP C q = bd (bd (.ok (adv q)) (specP C)) fun a => tokP C 4 cSemi a.1) := by
    show _ = _
    rw [importP, tokP, if_pos hw, bd_ok]
    rw [adv_pos, h1, h2, h3]
    rfl
  unfold pv
  go_enter Try.func167, Try.ntmps167
  go_wp2_with fail
  refine (l4Word_spec C gt cap base (.ok q) S q (-1) 0 sImport _ (is_ok q) ((HM.out.alloc _).alloc _)).mono ?_
  rintro e w1 ⟨S1, q1, z1, rfl, hi1, m1, s1⟩
  have F := HM.out.fm2 m1 s1
  obtain ⟨hq1, rfl⟩ := word_yes hi1.out hw
  have HQ := hidI hq1
  have HQP : Hid (q1.pos = q.pos + 1) := by show q1.pos = q.pos + 1; rw [hq1]; rfl
  clear hq1 hi1
  have ab := F.x0.boxC
  unfold pv
  go_upto_region 2 with fail
  refine (F.put0 _ _ _ _ _ _ _ _ _ _ _ _).cut ?_
  clear ab
  intro w2 F
  have ab := F.x0.boxC
  go_wp2_with fail
  refine (is_spec C gt cap base S1 q1 (-1) 0 4 cLeft _ F.m.tok hfew (by decide)).mono ?_
  rintro e w3 ⟨rfl, hb3⟩
  rw [HQP.out, h1]
  replace F := F.below hb3
  clear ab
  have ab := F.x0.boxC
  go_wp2_with fail
  refine (is_spec C gt cap base S1 q1 (-1) 0 4 cStar _ F.m.tok hfew (by decide)).mono ?_
  rintro e w4 ⟨rfl, hb4⟩
  rw [HQP.out, h2]
  replace F := F.below hb4
  clear ab
  have ab := F.x0.boxC
  go_wp2_with fail
  refine (l4Plain_spec C gt cap base S1 q1 (-1) 0 false _ F.m.tok hfew).mono ?_
  rintro e w5 ⟨rfl, hb5⟩
  rw [HQP.out, h3]
  replace F := F.below hb5
  clear ab
  have ab := F.x0.boxC
  clear HQP
  go_wp2_with fail
  refine (l4Spec_spec C gt cap base (.ok q1) S1 q1 (-1) 0 _ (is_ok q1) F.m).mono ?_
  rintro e w6 ⟨S6, q6, z6, n6, rfl, hi6, m6, s6⟩
  replace F := F.stp m6 s6
  clear ab
  have hlt2 : w.heap.size + 1 < w6.heap.size := F.x1.lt
  unfold pv
  go_upto_region 20 with fail
  refine (F.new2 _).cut ?_
  intro w7 F
  have cb := F.x2.boxC
  go_wp2_with fail
  refine (l4Sign_spec C gt cap base _ S6 q6 z6 0 cSemi _ hi6.out.fst F.m).mono ?_
  rintro e w8 ⟨S8, q8, z8, rfl, hi8, m8, s8⟩
  replace F := F.stp m8 s8
  clear cb
  have bb := F.x1.boxC
  unfold pv
  go_wp2
  refine (F.x1.put _ _ _ _ _ _ _ _ _ _ _ _).ret rfl rfl ?_
  rw [HV.out, ← HQ.out, ← hi6.out.bind (fun q _ => tokP C 4 cSemi q)]
  exact (F.put1 _ _ _ _ _ _ _ _ _ _ _ _).done rfl hi8.out
set_option maxRecDepth 100000 in
set_option maxHeartbeats 6400000 in
theorem l4Import_list (C : Cx) (gt cap base : Nat) (S : Sv) (q : PS) (w : World) (hm : Mem C gt cap base S q w) (hw : isT C q.pos 1 sImport = true) (h1 : isT C (q.pos + 1) 4 cLeft = true) :
    Calls Try.prog 167 #[pv C gt cap S q (-1) 0] w (Out C gt cap base (importP C q) 0 S w) := by
  have HM := hidI hm
  have hfew := hm.few
  clear hm
  have HV : Hid (importP C q = bd (listP C false (adv q)) fun a => bd (semiN C (tailS C (.ok a.1))) fun b => addAll (fun e => addIm C (impOf b.2 e)) a.2 (.ok b.1)) := by
    show _ = _
    rw [importP, tokP, if_pos hw, bd_ok]
    rw [adv_pos, h1]
    rfl
  unfold pv
  go_enter Try.func167, Try.ntmps167
  go_wp2_with fail
  refine (l4Word_spec C gt cap base (.ok q) S q (-1) 0 sImport _ (is_ok q) ((HM.out.alloc _).alloc _)).mono ?_
  rintro e w1 ⟨S1, q1, z1, rfl, hi1, m1, s1⟩
  have F := HM.out.fm2 m1 s1
  obtain ⟨hq1, rfl⟩ := word_yes hi1.out hw
  have HQ := hidI hq1
  have HQP : Hid (q1.pos = q.pos + 1) := by show q1.pos = q.pos + 1; rw [hq1]; rfl
  clear hq1 hi1
  have ab := F.x0.boxC
  unfold pv
  go_upto_region 2 with fail
  refine (F.put0 _ _ _ _ _ _ _ _ _ _ _ _).cut ?_
  clear ab
  intro w2 F
  have ab := F.x0.boxC
  go_wp2_with fail
  refine (is_spec C gt cap base S1 q1 (-1) 0 4 cLeft _ F.m.tok hfew (by decide)).mono ?_
  rintro e w3 ⟨rfl, hb3⟩
  rw [HQP.out, h1]
  replace F := F.below hb3
  clear ab
  have ab := F.x0.boxC
  clear HQP
  have hsz := F.t.size
  go_wp2_with fail
  refine (l4List_spec C gt cap base S1 q1 0 false _ F.m).mono ?_
  rintro e w4 ⟨S4, q4, z4, ⟨ra, rc⟩, l, rfl, i4, m4, s4, R0, hl⟩
  obtain ⟨g, rfl⟩ : ∃ g, ra = some ⟨g, 0, none⟩ := R0.addr
  replace F := F.stp m4 s4
  have hi4 := hidI i4
  clear ab
  have hR : Hid (Row S4 w4 base w.heap.size ⟨some ⟨g, 0, none⟩, rc⟩ l) := ⟨R0.own, R0.free, fun k hk => Nat.le_trans hsz (R0.new k hk), R0.addr⟩
  clear R0
  have hlt2 : w.heap.size + 1 < w4.heap.size := F.x1.lt
  unfold pv
  go_upto_region 4 with fail
  refine (F.new2 _).cutR (RW := fun W => Row S4 W base w.heap.size ⟨some ⟨g, 0, none⟩, rc⟩ l) (hR.out.alloc _) ?_
  clear hR
  intro w5 F R0
  have hR := hidI R0
  clear R0
  obtain ⟨c0, c1, c2, c3, c4, c5, c6, c7, c8, c9, c10, c11, cf⟩ := F.x2.box
  go_wp2_with fail
  refine (l4Word_spec C gt cap base _ S4 q4 z4 0 sFrom _ hi4.out.fst F.m).mono ?_
  rintro e w6 ⟨S6, q6, z6, rfl, hi6, m6, s6⟩
  replace hR := hidI (hR.out.stp s6)
  replace F := F.stp m6 s6
  clear c0 c1 c2 c3 c4 c5 c6 c7 c8 c9 c10 c11 cf
  go_wp2_with fail
  refine (l4Spec_spec C gt cap base _ S6 q6 z6 0 _ hi6.out F.m).mono ?_
  rintro e w7 ⟨S7, q7, z7, n7, rfl, hi7, m7, s7⟩
  replace hR := hidI (hR.out.stp s7)
  replace F := F.stp m7 s7
  have hlt3 : w.heap.size + 1 < w7.heap.size := F.x1.lt
  have hlt3_2 : w4.heap.size < w7.heap.size := F.x2.lt
  unfold pv
  go_upto_region 5 with fail
  refine (F.new3 _).cutR (RW := fun W => Row S7 W base w.heap.size ⟨some ⟨g, 0, none⟩, rc⟩ l) (hR.out.alloc _) ?_
  clear hR
  intro w8 F R0
  have hR := hidI R0
  clear R0
  obtain ⟨d0, d1, d2, d3, d4, d5, d6, d7, d8, d9, d10, d11, df⟩ := F.x3.box
  go_wp2_with fail
  refine (l4Sign_spec C gt cap base _ S7 q7 z7 0 cSemi _ hi7.out.fst F.m).mono ?_
  rintro e w9 ⟨S9, q9, z9, rfl, hi9, m9, s9⟩
  replace hR := hidI (hR.out.stp s9)
  replace F := F.stp m9 s9
  clear d0 d1 d2 d3 d4 d5 d6 d7 d8 d9 d10 d11 df
  have ab := F.x0.boxC
  unfold pv
  go_upto_region 6 with fail
  refine (F.put0 _ _ _ _ _ _ _ _ _ _ _ _).cutR (RW := fun W => Row S9 W base w.heap.size ⟨some ⟨g, 0, none⟩, rc⟩ l) (hR.out.put F.x0 _ _ _ _ _ _ _ _ _ _ _ _) ?_
  clear ab
  clear hR
  intro w10 F R0
  have hR := hidI R0
  clear R0
  have HEQ : Hid (_ = _) := list_bind (G := fun b e => addIm C (impOf b e)) hi4.out hi7.out
  go_wp2
  go_loopg [8] l.length (fun k i wr => ∃ (j : Nat) (x' : PR) (S' : Sv) (q' : PS) (z' : Int), j ≤ l.length ∧ i = .int .i64 j ∧ Is x' q' z' ∧ (z' < 0 → 1 ≤ q'.pos) ∧ addAll (fun e => addIm C (impOf n7 e)) (l.drop j) x' = importP C q ∧ l.length - j = k ∧ Mem C gt cap base S' q' wr ∧ SB w.heap.size S w S' wr ∧ Bx gt S' wr w.heap.size #[.slice (some ⟨gt, 0, none⟩) C.ts.length cap, .int .i64 q'.pos, .int .i64 C.fin, .bool C.scr, .slice S'.rq.a q'.rq.length S'.rq.cap, .slice S'.im.a q'.im.length S'.im.cap, .slice S'.ep.a q'.ep.length S'.ep.cap, .slice S'.st.a q'.st.length S'.st.cap, .slice S'.ex.a q'.ex.length S'.ex.cap, .slice S'.la.a q'.la.length S'.la.cap, .int .i64 z', .int .i64 0] ∧ Bx gt S' wr (w.heap.size + 1) #[.slice none 0 0, .int .i64 0, .int .i64 0, .bool false, .slice none 0 0, .slice none 0 0, .slice none 0 0, .slice none 0 0, .slice none 0 0, .slice none 0 0, .int .i64 0, .int .i64 0] ∧ Row S' wr base w.heap.size ⟨some ⟨g, 0, none⟩, rc⟩ l)
  case atStart => exact ⟨0, _, S9, q9, z9, Nat.zero_le _, rfl, hi9.out, pos_tok hi9.out, by rw [HV.out, ← HQ.out]; exact HEQ.out, rfl, F.m, F.t, F.x0, F.x1, hR.out⟩
  case round =>
    obtain ⟨j, x9, S9, q9, z9, hj, rfl, i9, p9, e9, g9, m9, t9, X0, X1, R0⟩ := hrel
    clear hR
    have F := Fm.of2 X0 X1 m9 t9 (by omega) (by omega) (by omega)
    have hi9 := hidI i9
    have hp9 := hidI p9
    have he9 := hidI e9
    have hg9 := hidI g9
    have hR := hidI R0
    clear X0 X1 i9 m9 t9 e9 g9 R0 p9
    by_cases hlt : j < l.length
    · skip
      obtain ⟨c1, c2⟩ := hR.out.cells (g := g) rfl hlt
      have hgl := hR.out.own.lt (g := g) rfl
      have HX : Hid (∀ e, e = l[j] → addAll (fun e => addIm C (impOf n7 e)) (l.drop (j + 1)) (bd x9 (addIm C (impOf n7 e))) = importP C q) := fun e he => by rw [he, ← he9.out]; exact (addAll_drop (fun e => addIm C (impOf n7 e)) l x9 hlt).symm
      generalize hel : l[j] = el at c1 c2
      have HEL : Hid (el = l[j]) := hel.symm
      clear hel
      have ab := F.x0.boxC
      go_upto_region 9 with fail
      go_region_law (first | (go_simp; go_wp2_with (go_at_call 198; refine (l4Imp_spec C gt cap base x9 S9 q9 z9 0 (impOf n7 el) _ hi9.out F.m.drew hp9.out).mono ?_; rintro e w10 ⟨S10, q10, z10, rfl, i10, m10, s10⟩; obtain ⟨d0, d1, d2, d3, d4, d5, d6, d7, d8, d9, d10, d11, df⟩ := (F.x0.stp s10.undrew).box; unfold pv)))
      all_goals
        clear ab d0 d1 d2 d3 d4 d5 d6 d7 d8 d9 d10 d11 df
        have hi10 := hidI i10
        have hs10 : Hid (Stp S9 wr S10 w10) := s10.undrew
        replace F := F.stp m10 hs10.out
        clear i10 m10 s10
        go_wp2
        go_roundg (gk - 1)
        case rel => exact ⟨j + 1, _, S10, q10, z10, by omega, by go_num, hi10.out, addIm_pos hp9.out hi9.out hi10.out, HX.out el HEL.out, by have := hg9.out; omega, F.m.put F.x0 _ _ _ _ _ _ _ _ _ _ _ _, F.t.put (by omega) _ _ _ _ _ _ _ _ _ _ _ _, F.x0.put _ _ _ _ _ _ _ _ _ _ _ _, F.x1.other (by omega) _ _ _ _ _ _ _ _ _ _ _ _, (hR.out.stp hs10.out).put F.x0 _ _ _ _ _ _ _ _ _ _ _ _⟩
        case measure => have := hg9.out; omega
    · skip
      have ab := F.x0.boxC
      have bb := F.x1.boxC
      go_wp2
      refine (F.x1.put _ _ _ _ _ _ _ _ _ _ _ _).ret rfl rfl ?_
      exact (F.put1 _ _ _ _ _ _ _ _ _ _ _ _).done rfl (show Is (importP C q) q9 z9 from by rw [← he9.out, List.drop_eq_nil_of_le (by omega)]; exact hi9.out)
end Go.Proofs.Ytdbpknmoacjodaa
namespace Go.Proofs.Ytdbpknmoacjodaa
open Go.RowKit Go.PlainAid

theorem addSt_ok {C : Cx} {k : Int} {n : ByteArray} {q q' : PS} (h : addSt C k n q = .ok q') : q' = { q with st := q.st ++ [⟨k, n, (q.ex.length : Int) - 1⟩] } ∧ q.st.length < 80 := by
  unfold addSt at h
  split at h
  · cases h
  · cases h
    exact ⟨rfl, by omega⟩
theorem pos_st {C : Cx} {x : PR} {k : Int} {s : ByteArray} {j : Int} {n : ByteArray} {q : PS} {z : Int} (h : Is (bd (bd x (tokP C k s)) (addSt C j n)) q z) : z < 0 → 1 ≤ q.pos := by
  intro hz
  obtain ⟨e, _⟩ := is_neg h hz
  obtain ⟨a, h1, h2⟩ := bd_eq_ok e
  obtain ⟨b, _, h4⟩ := bd_eq_ok h1
  obtain ⟨rfl, _⟩ := tokP_ok h4
  obtain ⟨rfl, _⟩ := addSt_ok h2
  simp [adv]
theorem pos_withN {C : Cx} {y : PRN} {G : PR → PR} {k : Int} {s : ByteArray} {j : Int} {q : PS} {z : Int} {n : ByteArray} (h : Is2 (withN y fun x n => bd (bd (G x) (tokP C k s)) (addSt C j n)) q z n) : z < 0 → 1 ≤ q.pos := by
  intro hz
  cases y with
  | error e => have : z = (e : Int) := h; omega
  | ok a =>
    have h' : Is2 (bd (bd (bd (G (.ok a.1)) (tokP C k s)) (addSt C j a.2)) fun q => .ok (q, a.2)) q z n := h
    cases hr : bd (bd (G (.ok a.1)) (tokP C k s)) (addSt C j a.2) with
    | error e => rw [hr] at h'; have : z = (e : Int) := h'; omega
    | ok b =>
      rw [hr] at h'
      obtain ⟨rfl, rfl, _⟩ := h'
      exact pos_st (show Is (bd (bd (G (.ok a.1)) (tokP C k s)) (addSt C j a.2)) q (-1) by rw [hr]; exact ⟨rfl, rfl⟩) (by decide)
theorem pos_let {C : Cx} {q0 q : PS} {z : Int} {n : ByteArray} (h : Is2 (letP C q0) q z n) : z < 0 → 1 ≤ q.pos := pos_withN (G := fun x => bd (bd x (tokP C 4 cEq)) (pE C .sum 0)) h
theorem pos_fn {C : Cx} {q0 q : PS} {z : Int} {n : ByteArray} (h : Is2 (fnP C q0) q z n) : z < 0 → 1 ≤ q.pos := pos_withN (G := fun x => bd (bd (bd (bd (bd (bd x (tokP C 4 cOpen)) (tokP C 4 cShut)) (tokP C 4 cLeft)) (tokP C 1 sReturn)) (pE C .sum 0)) (tokP C 4 cSemi)) h
theorem star_bind {C : Cx} {x : PR} {qb : PS} {zb : Int} {nb : ByteArray} {G : ByteArray → PS → PR} (hb : Is2 (bd (bd x (tokP C 1 sFrom)) (specP C)) qb zb nb) :
    bd (bd (fstP (bd (bd x (tokP C 1 sFrom)) (specP C))) (tokP C 4 cSemi)) (G nb) = bd (semiN C (tailS C x)) fun b => G b.2 b.1 := by
  have e1 : bd (bd x (tokP C 1 sFrom)) (specP C) = tailS C x := rfl
  rw [e1] at hb ⊢
  cases hY : tailS C x with
  | error e => rfl
  | ok b =>
    rw [hY] at hb
    obtain ⟨_, _, rfl⟩ := hb
    show bd (tokP C 4 cSemi b.1) (G b.2) = bd (bd (tokP C 4 cSemi b.1) fun q => .ok (q, b.2)) fun b => G b.2 b.1
    rw [bd_bd]
    rfl
theorem local_bind {C : Cx} {y : PRL} {qa : PS} {za : Int} {l : List Ep} {f : Ep → PS → PR} {D : PS × List Ep → PR} (ha : Is3 y qa za l) (hA : anyB l = false) (hF : (decide (za < 0) && isT C qa.pos 1 sFrom) = false) :
    addAll f l (bd (fstL y) (tokP C 4 cSemi)) = bd y fun a => if !anyB a.2 && !isT C a.1.pos 1 sFrom then bd (tokP C 4 cSemi a.1) fun q => addAll f a.2 (.ok q) else D a := by
  cases y with
  | error e => exact addAll_error _ _ _
  | ok a =>
    obtain ⟨rfl, rfl, rfl⟩ := ha
    rw [Bool.and_eq_false_iff] at hF
    rw [bd_ok, hA, hF.resolve_left (by decide)]
    show addAll f a.2 (tokP C 4 cSemi a.1) = bd (tokP C 4 cSemi a.1) fun q => addAll f a.2 (.ok q)
    cases tokP C 4 cSemi a.1 with
    | error e => exact addAll_error _ _ _
    | ok c => rfl
theorem from_bind {C : Cx} {y : PRL} {qa : PS} {za : Int} {l : List Ep} {D E : PS × List Ep → PR} (ha : Is3 y qa za l) (hAF : anyB l = true ∨ (decide (za < 0) && isT C qa.pos 1 sFrom) = true) :
    bd y D = bd y fun a => if !anyB a.2 && !isT C a.1.pos 1 sFrom then E a else D a := by
  cases y with
  | error e => rfl
  | ok a =>
    obtain ⟨rfl, rfl, rfl⟩ := ha
    rw [bd_ok, bd_ok]
    rcases hAF with h | h
    · rw [h]; rfl
    · rw [Bool.and_eq_true] at h
      rw [h.2, Bool.not_true, Bool.and_false]
      rfl

set_option maxRecDepth 100000 in
set_option maxHeartbeats 6400000 in
theorem l4Export_star (C : Cx) (gt cap base : Nat) (S : Sv) (q : PS) (w : World) (hm : Mem C gt cap base S q w) (hw : isT C q.pos 1 sExport = true) (h1 : isT C (q.pos + 1) 4 cLeft = false) (h2 : isT C (q.pos + 1) 4 cStar = true) :
    Calls Try.prog 168 #[pv C gt cap S q (-1) 0] w (Out C gt cap base (exportP C q) 0 S w) := by
  have HM := hidI hm
  have hfew := hm.few
  clear hm
  have HV : Hid (exportP C q = bd (semiN C (tailS C (bd (.ok (adv q)) (tokP C 4 cStar)))) fun b => addEp C ⟨3, sNone, sNone, b.2⟩ b.1) := by
    show _ = _
    rw [exportP, tokP, if_pos hw, bd_ok]
    rw [adv_pos, h1, h2]
    rfl
  unfold pv
  go_enter Try.func168, Try.ntmps168
  go_wp2_with fail
  refine (l4Word_spec C gt cap base (.ok q) S q (-1) 0 sExport _ (is_ok q) ((HM.out.alloc _).alloc _)).mono ?_
  rintro e w1 ⟨S1, q1, z1, rfl, hi1, m1, s1⟩
  have F := HM.out.fm2 m1 s1
  obtain ⟨hq1, rfl⟩ := word_yes hi1.out hw
  have HQ := hidI hq1
  have HQP : Hid (q1.pos = q.pos + 1) := by show q1.pos = q.pos + 1; rw [hq1]; rfl
  clear hq1 hi1
  have ab := F.x0.boxC
  unfold pv
  go_upto_region 2 with fail
  refine (F.put0 _ _ _ _ _ _ _ _ _ _ _ _).cut ?_
  clear ab
  intro w2 F
  have ab := F.x0.boxC
  go_wp2_with fail
  refine (is_spec C gt cap base S1 q1 (-1) 0 4 cLeft _ F.m.tok hfew (by decide)).mono ?_
  rintro e w3 ⟨rfl, hb3⟩
  rw [HQP.out, h1]
  replace F := F.below hb3
  clear ab
  have ab := F.x0.boxC
  go_wp2_with fail
  refine (is_spec C gt cap base S1 q1 (-1) 0 4 cStar _ F.m.tok hfew (by decide)).mono ?_
  rintro e w4 ⟨rfl, hb4⟩
  rw [HQP.out, h2]
  replace F := F.below hb4
  clear ab
  have ab := F.x0.boxC
  clear HQP
  go_wp2_with fail
  refine (l4Sign_spec C gt cap base (.ok q1) S1 q1 (-1) 0 cStar _ (is_ok q1) F.m).mono ?_
  rintro e w5 ⟨S5, q5, z5, rfl, hi5, m5, s5⟩
  replace F := F.stp m5 s5
  clear ab
  go_wp2_with fail
  refine (l4Word_spec C gt cap base _ S5 q5 z5 0 sFrom _ hi5.out F.m).mono ?_
  rintro e w6 ⟨S6, q6, z6, rfl, hi6, m6, s6⟩
  replace F := F.stp m6 s6
  go_wp2_with fail
  refine (l4Spec_spec C gt cap base _ S6 q6 z6 0 _ hi6.out F.m).mono ?_
  rintro e w7 ⟨S7, q7, z7, n7, rfl, hi7, m7, s7⟩
  replace F := F.stp m7 s7
  have hlt2 : w.heap.size + 1 < w7.heap.size := F.x1.lt
  unfold pv
  go_upto_region 20 with fail
  refine (F.new2 _).cut ?_
  intro w8 F
  have cb := F.x2.boxC
  go_wp2_with fail
  refine (l4Sign_spec C gt cap base _ S7 q7 z7 0 cSemi _ hi7.out.fst F.m).mono ?_
  rintro e w9 ⟨S9, q9, z9, rfl, hi9, m9, s9⟩
  replace F := F.stp m9 s9
  clear cb
  go_wp2_with fail
  refine (l4Exp_spec C gt cap base _ S9 q9 z9 0 ⟨3, sNone, sNone, n7⟩ _ hi9.out F.m (pos_tok hi9.out)).mono ?_
  rintro e w10 ⟨S10, q10, z10, rfl, hi10, m10, s10⟩
  replace F := F.stp m10 s10
  have bb := F.x1.boxC
  unfold pv
  go_wp2
  refine (F.x1.put _ _ _ _ _ _ _ _ _ _ _ _).ret rfl rfl ?_
  rw [HV.out, ← HQ.out, ← star_bind (G := fun b => addEp C ⟨3, sNone, sNone, b⟩) hi7.out]
  exact (F.put1 _ _ _ _ _ _ _ _ _ _ _ _).done rfl hi10.out
set_option maxRecDepth 100000 in
set_option maxHeartbeats 6400000 in
theorem l4Export_default (C : Cx) (gt cap base : Nat) (S : Sv) (q : PS) (w : World) (hm : Mem C gt cap base S q w) (hw : isT C q.pos 1 sExport = true) (h1 : isT C (q.pos + 1) 4 cLeft = false) (h2 : isT C (q.pos + 1) 4 cStar = false) (h3 : isT C (q.pos + 1) 1 sDefault = true) :
    Calls Try.prog 168 #[pv C gt cap S q (-1) 0] w (Out C gt cap base (exportP C q) 0 S w) := by
  have HM := hidI hm
  have hfew := hm.few
  clear hm
  have HV : Hid (exportP C q = bd (bd (bd (bd (bd (.ok (adv q)) (tokP C 1 sDefault)) (pE C .sum 0)) (tokP C 4 cSemi)) (addSt C 1 sDefName)) (addEp C ⟨1, sDefault, sDefName, sNone⟩)) := by
    show _ = _
    rw [exportP, tokP, if_pos hw, bd_ok]
    rw [adv_pos, h1, h2, h3]
    rfl
  unfold pv
  go_enter Try.func168, Try.ntmps168
  go_wp2_with fail
  refine (l4Word_spec C gt cap base (.ok q) S q (-1) 0 sExport _ (is_ok q) ((HM.out.alloc _).alloc _)).mono ?_
  rintro e w1 ⟨S1, q1, z1, rfl, hi1, m1, s1⟩
  have F := HM.out.fm2 m1 s1
  obtain ⟨hq1, rfl⟩ := word_yes hi1.out hw
  have HQ := hidI hq1
  have HQP : Hid (q1.pos = q.pos + 1) := by show q1.pos = q.pos + 1; rw [hq1]; rfl
  clear hq1 hi1
  have ab := F.x0.boxC
  unfold pv
  go_upto_region 2 with fail
  refine (F.put0 _ _ _ _ _ _ _ _ _ _ _ _).cut ?_
  clear ab
  intro w2 F
  have ab := F.x0.boxC
  go_wp2_with fail
  refine (is_spec C gt cap base S1 q1 (-1) 0 4 cLeft _ F.m.tok hfew (by decide)).mono ?_
  rintro e w3 ⟨rfl, hb3⟩
  rw [HQP.out, h1]
  replace F := F.below hb3
  clear ab
  have ab := F.x0.boxC
  go_wp2_with fail
  refine (is_spec C gt cap base S1 q1 (-1) 0 4 cStar _ F.m.tok hfew (by decide)).mono ?_
  rintro e w4 ⟨rfl, hb4⟩
  rw [HQP.out, h2]
  replace F := F.below hb4
  clear ab
  have ab := F.x0.boxC
  go_wp2_with fail
  refine (is_spec C gt cap base S1 q1 (-1) 0 1 sDefault _ F.m.tok hfew (by decide)).mono ?_
  rintro e w5 ⟨rfl, hb5⟩
  rw [HQP.out, h3]
  replace F := F.below hb5
  clear ab
  have ab := F.x0.boxC
  clear HQP
  go_wp2_with fail
  refine (l4Word_spec C gt cap base (.ok q1) S1 q1 (-1) 0 sDefault _ (is_ok q1) F.m).mono ?_
  rintro e w6 ⟨S6, q6, z6, rfl, hi6, m6, s6⟩
  replace F := F.stp m6 s6
  clear ab
  go_wp2_with fail
  refine (l4Sum_spec C gt cap base _ S6 q6 z6 _ hi6.out F.m).mono ?_
  rintro e w7 ⟨S7, q7, z7, rfl, hi7, m7, s7⟩
  replace F := F.stp m7 s7
  go_wp2_with fail
  refine (l4Sign_spec C gt cap base _ S7 q7 z7 0 cSemi _ hi7.out F.m).mono ?_
  rintro e w8 ⟨S8, q8, z8, rfl, hi8, m8, s8⟩
  replace F := F.stp m8 s8
  have hlt2 : w.heap.size + 1 < w8.heap.size := F.x1.lt
  unfold pv
  go_upto_region 23 with fail
  refine (F.new2 _).cut ?_
  intro w9 F
  have cb := F.x2.boxC
  go_wp2_with fail
  refine (l4Stmt_spec C gt cap base _ S8 q8 z8 0 1 sDefName _ hi8.out F.m (pos_tok hi8.out)).mono ?_
  rintro e w10 ⟨S10, q10, z10, rfl, hi10, m10, s10⟩
  replace F := F.stp m10 s10
  clear cb
  go_wp2_with fail
  refine (l4Exp_spec C gt cap base _ S10 q10 z10 0 ⟨1, sDefault, sDefName, sNone⟩ _ hi10.out F.m (pos_st hi10.out)).mono ?_
  rintro e w11 ⟨S11, q11, z11, rfl, hi11, m11, s11⟩
  replace F := F.stp m11 s11
  have bb := F.x1.boxC
  unfold pv
  go_wp2
  refine (F.x1.put _ _ _ _ _ _ _ _ _ _ _ _).ret rfl rfl ?_
  rw [HV.out, ← HQ.out]
  exact (F.put1 _ _ _ _ _ _ _ _ _ _ _ _).done rfl hi11.out
set_option maxRecDepth 100000 in
set_option maxHeartbeats 6400000 in
theorem l4Export_let (C : Cx) (gt cap base : Nat) (S : Sv) (q : PS) (w : World) (hm : Mem C gt cap base S q w) (hw : isT C q.pos 1 sExport = true) (h1 : isT C (q.pos + 1) 4 cLeft = false) (h2 : isT C (q.pos + 1) 4 cStar = false) (h3 : isT C (q.pos + 1) 1 sDefault = false) (h4 : isT C (q.pos + 1) 1 sLet = true) :
    Calls Try.prog 168 #[pv C gt cap S q (-1) 0] w (Out C gt cap base (exportP C q) 0 S w) := by
  have HM := hidI hm
  have hfew := hm.few
  clear hm
  have HV : Hid (exportP C q = bd (letP C (adv q)) fun a => addEp C ⟨1, a.2, a.2, sNone⟩ a.1) := by
    show _ = _
    rw [exportP, tokP, if_pos hw, bd_ok]
    rw [adv_pos, h1, h2, h3, h4]
    rfl
  unfold pv
  go_enter Try.func168, Try.ntmps168
  go_wp2_with fail
  refine (l4Word_spec C gt cap base (.ok q) S q (-1) 0 sExport _ (is_ok q) ((HM.out.alloc _).alloc _)).mono ?_
  rintro e w1 ⟨S1, q1, z1, rfl, hi1, m1, s1⟩
  have F := HM.out.fm2 m1 s1
  obtain ⟨hq1, rfl⟩ := word_yes hi1.out hw
  have HQ := hidI hq1
  have HQP : Hid (q1.pos = q.pos + 1) := by show q1.pos = q.pos + 1; rw [hq1]; rfl
  clear hq1 hi1
  have ab := F.x0.boxC
  unfold pv
  go_upto_region 2 with fail
  refine (F.put0 _ _ _ _ _ _ _ _ _ _ _ _).cut ?_
  clear ab
  intro w2 F
  have ab := F.x0.boxC
  go_wp2_with fail
  refine (is_spec C gt cap base S1 q1 (-1) 0 4 cLeft _ F.m.tok hfew (by decide)).mono ?_
  rintro e w3 ⟨rfl, hb3⟩
  rw [HQP.out, h1]
  replace F := F.below hb3
  clear ab
  have ab := F.x0.boxC
  go_wp2_with fail
  refine (is_spec C gt cap base S1 q1 (-1) 0 4 cStar _ F.m.tok hfew (by decide)).mono ?_
  rintro e w4 ⟨rfl, hb4⟩
  rw [HQP.out, h2]
  replace F := F.below hb4
  clear ab
  have ab := F.x0.boxC
  go_wp2_with fail
  refine (is_spec C gt cap base S1 q1 (-1) 0 1 sDefault _ F.m.tok hfew (by decide)).mono ?_
  rintro e w5 ⟨rfl, hb5⟩
  rw [HQP.out, h3]
  replace F := F.below hb5
  clear ab
  have ab := F.x0.boxC
  go_wp2_with fail
  refine (is_spec C gt cap base S1 q1 (-1) 0 1 sLet _ F.m.tok hfew (by decide)).mono ?_
  rintro e w6 ⟨rfl, hb6⟩
  rw [HQP.out, h4]
  replace F := F.below hb6
  clear ab
  have ab := F.x0.boxC
  clear HQP
  go_wp2_with fail
  refine (l4Let_spec C gt cap base S1 q1 _ F.m).mono ?_
  rintro e w7 ⟨S7, q7, z7, n7, rfl, hi7, m7, s7⟩
  replace F := F.stp m7 s7
  clear ab
  have hlt2 : w.heap.size + 1 < w7.heap.size := F.x1.lt
  unfold pv
  go_upto_region 26 with fail
  refine (F.new2 _).cut ?_
  intro w8 F
  have cb := F.x2.boxC
  go_wp2_with fail
  refine (l4Exp_spec C gt cap base _ S7 q7 z7 0 ⟨1, n7, n7, sNone⟩ _ hi7.out.fst F.m (pos_let hi7.out)).mono ?_
  rintro e w9 ⟨S9, q9, z9, rfl, hi9, m9, s9⟩
  replace F := F.stp m9 s9
  clear cb
  have bb := F.x1.boxC
  unfold pv
  go_wp2
  refine (F.x1.put _ _ _ _ _ _ _ _ _ _ _ _).ret rfl rfl ?_
  rw [HV.out, ← HQ.out, ← hi7.out.bind (fun q n => addEp C ⟨1, n, n, sNone⟩ q)]
  exact (F.put1 _ _ _ _ _ _ _ _ _ _ _ _).done rfl hi9.out
set_option maxRecDepth 100000 in
set_option maxHeartbeats 6400000 in
theorem l4Export_fn (C : Cx) (gt cap base : Nat) (S : Sv) (q : PS) (w : World) (hm : Mem C gt cap base S q w) (hw : isT C q.pos 1 sExport = true) (h1 : isT C (q.pos + 1) 4 cLeft = false) (h2 : isT C (q.pos + 1) 4 cStar = false) (h3 : isT C (q.pos + 1) 1 sDefault = false) (h4 : isT C (q.pos + 1) 1 sLet = false) (h5 : isT C (q.pos + 1) 1 sFunction = true) :
    Calls Try.prog 168 #[pv C gt cap S q (-1) 0] w (Out C gt cap base (exportP C q) 0 S w) := by
  have HM := hidI hm
  have hfew := hm.few
  clear hm
  have HV : Hid (exportP C q = bd (fnP C (adv q)) fun a => addEp C ⟨1, a.2, a.2, sNone⟩ a.1) := by
    show _ = _
    rw [exportP, tokP, if_pos hw, bd_ok]
    rw [adv_pos, h1, h2, h3, h4, h5]
    rfl
  unfold pv
  go_enter Try.func168, Try.ntmps168
  go_wp2_with fail
  refine (l4Word_spec C gt cap base (.ok q) S q (-1) 0 sExport _ (is_ok q) ((HM.out.alloc _).alloc _)).mono ?_
  rintro e w1 ⟨S1, q1, z1, rfl, hi1, m1, s1⟩
  have F := HM.out.fm2 m1 s1
  obtain ⟨hq1, rfl⟩ := word_yes hi1.out hw
  have HQ := hidI hq1
  have HQP : Hid (q1.pos = q.pos + 1) := by show q1.pos = q.pos + 1; rw [hq1]; rfl
  clear hq1 hi1
  have ab := F.x0.boxC
  unfold pv
  go_upto_region 2 with fail
  refine (F.put0 _ _ _ _ _ _ _ _ _ _ _ _).cut ?_
  clear ab
  intro w2 F
  have ab := F.x0.boxC
  go_wp2_with fail
  refine (is_spec C gt cap base S1 q1 (-1) 0 4 cLeft _ F.m.tok hfew (by decide)).mono ?_
  rintro e w3 ⟨rfl, hb3⟩
  rw [HQP.out, h1]
  replace F := F.below hb3
  clear ab
  have ab := F.x0.boxC
  go_wp2_with fail
  refine (is_spec C gt cap base S1 q1 (-1) 0 4 cStar _ F.m.tok hfew (by decide)).mono ?_
  rintro e w4 ⟨rfl, hb4⟩
  rw [HQP.out, h2]
  replace F := F.below hb4
  clear ab
  have ab := F.x0.boxC
  go_wp2_with fail
  refine (is_spec C gt cap base S1 q1 (-1) 0 1 sDefault _ F.m.tok hfew (by decide)).mono ?_
  rintro e w5 ⟨rfl, hb5⟩
  rw [HQP.out, h3]
  replace F := F.below hb5
  clear ab
  have ab := F.x0.boxC
  go_wp2_with fail
  refine (is_spec C gt cap base S1 q1 (-1) 0 1 sLet _ F.m.tok hfew (by decide)).mono ?_
  rintro e w6 ⟨rfl, hb6⟩
  rw [HQP.out, h4]
  replace F := F.below hb6
  clear ab
  have ab := F.x0.boxC
  go_wp2_with fail
  refine (is_spec C gt cap base S1 q1 (-1) 0 1 sFunction _ F.m.tok hfew (by decide)).mono ?_
  rintro e w7 ⟨rfl, hb7⟩
  rw [HQP.out, h5]
  replace F := F.below hb7
  clear ab
  have ab := F.x0.boxC
  clear HQP
  go_wp2_with fail
  refine (l4Fn_spec C gt cap base S1 q1 _ F.m).mono ?_
  rintro e w8 ⟨S8, q8, z8, n8, rfl, hi8, m8, s8⟩
  replace F := F.stp m8 s8
  clear ab
  have hlt2 : w.heap.size + 1 < w8.heap.size := F.x1.lt
  unfold pv
  go_upto_region 29 with fail
  refine (F.new2 _).cut ?_
  intro w9 F
  have cb := F.x2.boxC
  go_wp2_with fail
  refine (l4Exp_spec C gt cap base _ S8 q8 z8 0 ⟨1, n8, n8, sNone⟩ _ hi8.out.fst F.m (pos_fn hi8.out)).mono ?_
  rintro e w10 ⟨S10, q10, z10, rfl, hi10, m10, s10⟩
  replace F := F.stp m10 s10
  clear cb
  have bb := F.x1.boxC
  unfold pv
  go_wp2
  refine (F.x1.put _ _ _ _ _ _ _ _ _ _ _ _).ret rfl rfl ?_
  rw [HV.out, ← HQ.out, ← hi8.out.bind (fun q n => addEp C ⟨1, n, n, sNone⟩ q)]
  exact (F.put1 _ _ _ _ _ _ _ _ _ _ _ _).done rfl hi10.out
set_option maxRecDepth 100000 in
set_option maxHeartbeats 6400000 in
theorem l4Export_none (C : Cx) (gt cap base : Nat) (S : Sv) (q : PS) (w : World) (hm : Mem C gt cap base S q w) (hw : isT C q.pos 1 sExport = true) (h1 : isT C (q.pos + 1) 4 cLeft = false) (h2 : isT C (q.pos + 1) 4 cStar = false) (h3 : isT C (q.pos + 1) 1 sDefault = false) (h4 : isT C (q.pos + 1) 1 sLet = false) (h5 : isT C (q.pos + 1) 1 sFunction = false) :
    Calls Try.prog 168 #[pv C gt cap S q (-1) 0] w (Out C gt cap base (exportP C q) 0 S w) := by
  have HM := hidI hm
  have hfew := hm.few
  clear hm
  have HV : Hid (exportP C q = .error (here C (adv q).pos)) := by
    show _ = _
    rw [exportP, tokP, if_pos hw, bd_ok]
    rw [adv_pos, h1, h2, h3, h4, h5]
    rfl
  unfold pv
  go_enter Try.func168, Try.ntmps168
  go_wp2_with fail
  refine (l4Word_spec C gt cap base (.ok q) S q (-1) 0 sExport _ (is_ok q) ((HM.out.alloc _).alloc _)).mono ?_
  rintro e w1 ⟨S1, q1, z1, rfl, hi1, m1, s1⟩
  have F := HM.out.fm2 m1 s1
  obtain ⟨hq1, rfl⟩ := word_yes hi1.out hw
  have HQ := hidI hq1
  have HQP : Hid (q1.pos = q.pos + 1) := by show q1.pos = q.pos + 1; rw [hq1]; rfl
  clear hq1 hi1
  have ab := F.x0.boxC
  unfold pv
  go_upto_region 2 with fail
  refine (F.put0 _ _ _ _ _ _ _ _ _ _ _ _).cut ?_
  clear ab
  intro w2 F
  have ab := F.x0.boxC
  go_wp2_with fail
  refine (is_spec C gt cap base S1 q1 (-1) 0 4 cLeft _ F.m.tok hfew (by decide)).mono ?_
  rintro e w3 ⟨rfl, hb3⟩
  rw [HQP.out, h1]
  replace F := F.below hb3
  clear ab
  have ab := F.x0.boxC
  go_wp2_with fail
  refine (is_spec C gt cap base S1 q1 (-1) 0 4 cStar _ F.m.tok hfew (by decide)).mono ?_
  rintro e w4 ⟨rfl, hb4⟩
  rw [HQP.out, h2]
  replace F := F.below hb4
  clear ab
  have ab := F.x0.boxC
  go_wp2_with fail
  refine (is_spec C gt cap base S1 q1 (-1) 0 1 sDefault _ F.m.tok hfew (by decide)).mono ?_
  rintro e w5 ⟨rfl, hb5⟩
  rw [HQP.out, h3]
  replace F := F.below hb5
  clear ab
  have ab := F.x0.boxC
  go_wp2_with fail
  refine (is_spec C gt cap base S1 q1 (-1) 0 1 sLet _ F.m.tok hfew (by decide)).mono ?_
  rintro e w6 ⟨rfl, hb6⟩
  rw [HQP.out, h4]
  replace F := F.below hb6
  clear ab
  have ab := F.x0.boxC
  go_wp2_with fail
  refine (is_spec C gt cap base S1 q1 (-1) 0 1 sFunction _ F.m.tok hfew (by decide)).mono ?_
  rintro e w7 ⟨rfl, hb7⟩
  rw [HQP.out, h5]
  replace F := F.below hb7
  clear ab
  have ab := F.x0.boxC
  clear HQP
  go_wp2_with fail
  refine (fail_spec C gt cap base S1 q1 (-1) 0 _ F.m.tok hfew).mono ?_
  rintro e w8 ⟨rfl, hb8⟩
  replace F := F.below hb8
  clear ab
  have bb := F.x1.boxC
  unfold pv
  go_wp2
  refine (F.x1.put _ _ _ _ _ _ _ _ _ _ _ _).ret rfl rfl ?_
  rw [HV.out, ← HQ.out]
  exact (F.put1 _ _ _ _ _ _ _ _ _ _ _ _).done rfl (show Is (.error (here C q1.pos)) q1 _ from rfl)
end Go.Proofs.Ytdbpknmoacjodaa
namespace Go.Proofs.Ytdbpknmoacjodaa
open Go.RowKit Go.PlainAid

set_option maxRecDepth 100000 in
set_option maxHeartbeats 6400000 in
theorem l4Export_list (C : Cx) (gt cap base : Nat) (S : Sv) (q : PS) (w : World) (hm : Mem C gt cap base S q w) (hw : isT C q.pos 1 sExport = true) (h1 : isT C (q.pos + 1) 4 cLeft = true) :
    Calls Try.prog 168 #[pv C gt cap S q (-1) 0] w (Out C gt cap base (exportP C q) 0 S w) := by
  have HM := hidI hm
  have hfew := hm.few
  clear hm
  have HV : Hid (exportP C q = bd (listP C true (adv q)) fun a => if !anyB a.2 && !isT C a.1.pos 1 sFrom then bd (tokP C 4 cSemi a.1) fun q => addAll (fun e => addEp C (expLoc e)) a.2 (.ok q) else bd (semiN C (tailS C (.ok a.1))) fun b => addAll (fun e => addEp C (expFrom b.2 e)) a.2 (.ok b.1)) := by
    show _ = _
    rw [exportP, tokP, if_pos hw, bd_ok]
    rw [adv_pos, h1]
    rfl
  unfold pv
  go_enter Try.func168, Try.ntmps168
  go_wp2_with fail
  refine (l4Word_spec C gt cap base (.ok q) S q (-1) 0 sExport _ (is_ok q) ((HM.out.alloc _).alloc _)).mono ?_
  rintro e w1 ⟨S1, q1, z1, rfl, hi1, m1, s1⟩
  have F := HM.out.fm2 m1 s1
  obtain ⟨hq1, rfl⟩ := word_yes hi1.out hw
  have HQ := hidI hq1
  have HQP : Hid (q1.pos = q.pos + 1) := by show q1.pos = q.pos + 1; rw [hq1]; rfl
  clear hq1 hi1
  have ab := F.x0.boxC
  unfold pv
  go_upto_region 2 with fail
  refine (F.put0 _ _ _ _ _ _ _ _ _ _ _ _).cut ?_
  clear ab
  intro w2 F
  have HV1 : Hid (exportP C q = bd (listP C true q1) fun a => if !anyB a.2 && !isT C a.1.pos 1 sFrom then bd (tokP C 4 cSemi a.1) fun q => addAll (fun e => addEp C (expLoc e)) a.2 (.ok q) else bd (semiN C (tailS C (.ok a.1))) fun b => addAll (fun e => addEp C (expFrom b.2 e)) a.2 (.ok b.1)) := by show _ = _; rw [HQ.out]; exact HV.out
  have ab := F.x0.boxC
  go_wp2_with fail
  refine (is_spec C gt cap base S1 q1 (-1) 0 4 cLeft _ F.m.tok hfew (by decide)).mono ?_
  rintro e w3 ⟨rfl, hb3⟩
  rw [HQP.out, h1]
  replace F := F.below hb3
  clear ab
  have ab := F.x0.boxC
  clear HQP
  have hsz := F.t.size
  go_wp2_with fail
  refine (l4List_spec C gt cap base S1 q1 0 true _ F.m).mono ?_
  rintro e w4 ⟨S4, q4, z4, ⟨ra, rc⟩, l, rfl, i4, m4, s4, R0, hl⟩
  obtain ⟨g, rfl⟩ : ∃ g, ra = some ⟨g, 0, none⟩ := R0.addr
  replace F := F.stp m4 s4
  have hi4 := hidI i4
  clear ab
  have hR : Hid (Row S4 w4 base w.heap.size ⟨some ⟨g, 0, none⟩, rc⟩ l) := ⟨R0.own, R0.free, fun k hk => Nat.le_trans hsz (R0.new k hk), R0.addr⟩
  clear R0
  have hlt2 : w.heap.size + 1 < w4.heap.size := F.x1.lt
  unfold pv
  go_upto_region 4 with fail
  refine (F.new2 _).cutR (RW := fun W => Row S4 W base w.heap.size ⟨some ⟨g, 0, none⟩, rc⟩ l) (hR.out.alloc _) ?_
  clear hR
  intro w5 F R0
  have hR := hidI R0
  clear R0
  cases hA : anyB l with
  | true =>
    skip
    obtain ⟨c0, c1, c2, c3, c4, c5, c6, c7, c8, c9, c10, c11, cf⟩ := F.x2.box
    go_wp2_with fail
    refine (l4Word_spec C gt cap base _ S4 q4 z4 0 sFrom _ hi4.out.fst F.m).mono ?_
    rintro e w6 ⟨S6, q6, z6, rfl, hi6, m6, s6⟩
    replace hR := hidI (hR.out.stp s6)
    replace F := F.stp m6 s6
    clear c0 c1 c2 c3 c4 c5 c6 c7 c8 c9 c10 c11 cf
    go_wp2_with fail
    refine (l4Spec_spec C gt cap base _ S6 q6 z6 0 _ hi6.out F.m).mono ?_
    rintro e w7 ⟨S7, q7, z7, n7, rfl, hi7, m7, s7⟩
    replace hR := hidI (hR.out.stp s7)
    replace F := F.stp m7 s7
    have hlt3 : w.heap.size + 1 < w7.heap.size := F.x1.lt
    have hlt3_2 : w4.heap.size < w7.heap.size := F.x2.lt
    unfold pv
    go_upto_region 12 with fail
    refine (F.new3 _).cutR (RW := fun W => Row S7 W base w.heap.size ⟨some ⟨g, 0, none⟩, rc⟩ l) (hR.out.alloc _) ?_
    clear hR
    intro w8 F R0
    have hR := hidI R0
    clear R0
    obtain ⟨d0, d1, d2, d3, d4, d5, d6, d7, d8, d9, d10, d11, df⟩ := F.x3.box
    go_wp2_with fail
    refine (l4Sign_spec C gt cap base _ S7 q7 z7 0 cSemi _ hi7.out.fst F.m).mono ?_
    rintro e w9 ⟨S9, q9, z9, rfl, hi9, m9, s9⟩
    replace hR := hidI (hR.out.stp s9)
    replace F := F.stp m9 s9
    clear d0 d1 d2 d3 d4 d5 d6 d7 d8 d9 d10 d11 df
    have ab := F.x0.boxC
    unfold pv
    go_upto_region 13 with fail
    refine (F.put0 _ _ _ _ _ _ _ _ _ _ _ _).cutR (RW := fun W => Row S9 W base w.heap.size ⟨some ⟨g, 0, none⟩, rc⟩ l) (hR.out.put F.x0 _ _ _ _ _ _ _ _ _ _ _ _) ?_
    clear ab
    clear hR
    intro w10 F R0
    have hR := hidI R0
    clear R0
    have HEQ : Hid (_ = exportP C q) := (list_bind (G := fun b e => addEp C (expFrom b e)) hi4.out hi7.out).trans ((from_bind hi4.out (.inl hA)).trans HV1.out.symm)
    go_wp2
    go_loopg [9] l.length (fun k i wr => ∃ (j : Nat) (x' : PR) (S' : Sv) (q' : PS) (z' : Int), j ≤ l.length ∧ i = .int .i64 j ∧ Is x' q' z' ∧ (z' < 0 → 1 ≤ q'.pos) ∧ addAll (fun e => addEp C (expFrom n7 e)) (l.drop j) x' = exportP C q ∧ l.length - j = k ∧ Mem C gt cap base S' q' wr ∧ SB w.heap.size S w S' wr ∧ Bx gt S' wr w.heap.size #[.slice (some ⟨gt, 0, none⟩) C.ts.length cap, .int .i64 q'.pos, .int .i64 C.fin, .bool C.scr, .slice S'.rq.a q'.rq.length S'.rq.cap, .slice S'.im.a q'.im.length S'.im.cap, .slice S'.ep.a q'.ep.length S'.ep.cap, .slice S'.st.a q'.st.length S'.st.cap, .slice S'.ex.a q'.ex.length S'.ex.cap, .slice S'.la.a q'.la.length S'.la.cap, .int .i64 z', .int .i64 0] ∧ Bx gt S' wr (w.heap.size + 1) #[.slice none 0 0, .int .i64 0, .int .i64 0, .bool false, .slice none 0 0, .slice none 0 0, .slice none 0 0, .slice none 0 0, .slice none 0 0, .slice none 0 0, .int .i64 0, .int .i64 0] ∧ Row S' wr base w.heap.size ⟨some ⟨g, 0, none⟩, rc⟩ l)
    case atStart => exact ⟨0, _, S9, q9, z9, Nat.zero_le _, rfl, hi9.out, pos_tok hi9.out, HEQ.out, rfl, F.m, F.t, F.x0, F.x1, hR.out⟩
    case round =>
      obtain ⟨j, x9, S9, q9, z9, hj, rfl, i9, p9, e9, g9, m9, t9, X0, X1, R0⟩ := hrel
      clear hR
      have F := Fm.of2 X0 X1 m9 t9 (by omega) (by omega) (by omega)
      have hi9 := hidI i9
      have hp9 := hidI p9
      have he9 := hidI e9
      have hg9 := hidI g9
      have hR := hidI R0
      clear X0 X1 i9 m9 t9 e9 g9 R0 p9
      by_cases hlt : j < l.length
      · skip
        obtain ⟨c1, c2⟩ := hR.out.cells (g := g) rfl hlt
        have hgl := hR.out.own.lt (g := g) rfl
        have HX : Hid (∀ e, e = l[j] → addAll (fun e => addEp C (expFrom n7 e)) (l.drop (j + 1)) (bd x9 (addEp C (expFrom n7 e))) = exportP C q) := fun e he => by rw [he, ← he9.out]; exact (addAll_drop (fun e => addEp C (expFrom n7 e)) l x9 hlt).symm
        generalize hel : l[j] = el at c1 c2
        have HEL : Hid (el = l[j]) := hel.symm
        clear hel
        have ab := F.x0.boxC
        go_upto_region 16 with fail
        go_region_law (first | (go_simp; go_wp2_with (go_at_call 200; refine (l4Exp_spec C gt cap base x9 S9 q9 z9 0 (expFrom n7 el) _ hi9.out F.m.drew hp9.out).mono ?_; rintro e w10 ⟨S10, q10, z10, rfl, i10, m10, s10⟩; obtain ⟨d0, d1, d2, d3, d4, d5, d6, d7, d8, d9, d10, d11, df⟩ := (F.x0.stp s10.undrew).box; unfold pv)))
        all_goals
          clear ab d0 d1 d2 d3 d4 d5 d6 d7 d8 d9 d10 d11 df
          have hi10 := hidI i10
          have hs10 : Hid (Stp S9 wr S10 w10) := s10.undrew
          replace F := F.stp m10 hs10.out
          clear i10 m10 s10
          go_wp2
          go_roundg (gk - 1)
          case rel => exact ⟨j + 1, _, S10, q10, z10, by omega, by go_num, hi10.out, addEp_pos hp9.out hi9.out hi10.out, HX.out el HEL.out, by have := hg9.out; omega, F.m.put F.x0 _ _ _ _ _ _ _ _ _ _ _ _, F.t.put (by omega) _ _ _ _ _ _ _ _ _ _ _ _, F.x0.put _ _ _ _ _ _ _ _ _ _ _ _, F.x1.other (by omega) _ _ _ _ _ _ _ _ _ _ _ _, (hR.out.stp hs10.out).put F.x0 _ _ _ _ _ _ _ _ _ _ _ _⟩
          case measure => have := hg9.out; omega
      · skip
        have ab := F.x0.boxC
        have bb := F.x1.boxC
        go_wp2
        refine (F.x1.put _ _ _ _ _ _ _ _ _ _ _ _).ret rfl rfl ?_
        exact (F.put1 _ _ _ _ _ _ _ _ _ _ _ _).done rfl (show Is (exportP C q) q9 z9 from by rw [← he9.out, List.drop_eq_nil_of_le (by omega)]; exact hi9.out)
  | false =>
    cases hF : (decide (z4 < 0) && isT C q4.pos 1 sFrom) with
    | true =>
      obtain ⟨c0, c1, c2, c3, c4, c5, c6, c7, c8, c9, c10, c11, cf⟩ := F.x2.box
      go_wp2_with fail
      refine (is_spec C gt cap base S4 q4 z4 0 1 sFrom _ F.m.tok hfew (by decide)).mono ?_
      rintro e w6 ⟨rfl, hb6⟩
      rw [hF]
      replace hR := hidI (hR.out.below hb6)
      replace F := F.below hb6
      clear c0 c1 c2 c3 c4 c5 c6 c7 c8 c9 c10 c11 cf
      obtain ⟨c0, c1, c2, c3, c4, c5, c6, c7, c8, c9, c10, c11, cf⟩ := F.x2.box
      go_wp2_with fail
      refine (l4Word_spec C gt cap base _ S4 q4 z4 0 sFrom _ hi4.out.fst F.m).mono ?_
      rintro e w7 ⟨S7, q7, z7, rfl, hi7, m7, s7⟩
      replace hR := hidI (hR.out.stp s7)
      replace F := F.stp m7 s7
      clear c0 c1 c2 c3 c4 c5 c6 c7 c8 c9 c10 c11 cf
      go_wp2_with fail
      refine (l4Spec_spec C gt cap base _ S7 q7 z7 0 _ hi7.out F.m).mono ?_
      rintro e w8 ⟨S8, q8, z8, n8, rfl, hi8, m8, s8⟩
      replace hR := hidI (hR.out.stp s8)
      replace F := F.stp m8 s8
      have hlt3 : w.heap.size + 1 < w8.heap.size := F.x1.lt
      have hlt3_2 : w4.heap.size < w8.heap.size := F.x2.lt
      unfold pv
      go_upto_region 12 with fail
      refine (F.new3 _).cutR (RW := fun W => Row S8 W base w.heap.size ⟨some ⟨g, 0, none⟩, rc⟩ l) (hR.out.alloc _) ?_
      clear hR
      intro w9 F R0
      have hR := hidI R0
      clear R0
      obtain ⟨d0, d1, d2, d3, d4, d5, d6, d7, d8, d9, d10, d11, df⟩ := F.x3.box
      go_wp2_with fail
      refine (l4Sign_spec C gt cap base _ S8 q8 z8 0 cSemi _ hi8.out.fst F.m).mono ?_
      rintro e w10 ⟨S10, q10, z10, rfl, hi10, m10, s10⟩
      replace hR := hidI (hR.out.stp s10)
      replace F := F.stp m10 s10
      clear d0 d1 d2 d3 d4 d5 d6 d7 d8 d9 d10 d11 df
      have ab := F.x0.boxC
      unfold pv
      go_upto_region 13 with fail
      refine (F.put0 _ _ _ _ _ _ _ _ _ _ _ _).cutR (RW := fun W => Row S10 W base w.heap.size ⟨some ⟨g, 0, none⟩, rc⟩ l) (hR.out.put F.x0 _ _ _ _ _ _ _ _ _ _ _ _) ?_
      clear ab
      clear hR
      intro w11 F R0
      have hR := hidI R0
      clear R0
      have HEQ : Hid (_ = exportP C q) := (list_bind (G := fun b e => addEp C (expFrom b e)) hi4.out hi8.out).trans ((from_bind hi4.out (.inr hF)).trans HV1.out.symm)
      go_wp2
      go_loopg [9] l.length (fun k i wr => ∃ (j : Nat) (x' : PR) (S' : Sv) (q' : PS) (z' : Int), j ≤ l.length ∧ i = .int .i64 j ∧ Is x' q' z' ∧ (z' < 0 → 1 ≤ q'.pos) ∧ addAll (fun e => addEp C (expFrom n8 e)) (l.drop j) x' = exportP C q ∧ l.length - j = k ∧ Mem C gt cap base S' q' wr ∧ SB w.heap.size S w S' wr ∧ Bx gt S' wr w.heap.size #[.slice (some ⟨gt, 0, none⟩) C.ts.length cap, .int .i64 q'.pos, .int .i64 C.fin, .bool C.scr, .slice S'.rq.a q'.rq.length S'.rq.cap, .slice S'.im.a q'.im.length S'.im.cap, .slice S'.ep.a q'.ep.length S'.ep.cap, .slice S'.st.a q'.st.length S'.st.cap, .slice S'.ex.a q'.ex.length S'.ex.cap, .slice S'.la.a q'.la.length S'.la.cap, .int .i64 z', .int .i64 0] ∧ Bx gt S' wr (w.heap.size + 1) #[.slice none 0 0, .int .i64 0, .int .i64 0, .bool false, .slice none 0 0, .slice none 0 0, .slice none 0 0, .slice none 0 0, .slice none 0 0, .slice none 0 0, .int .i64 0, .int .i64 0] ∧ Row S' wr base w.heap.size ⟨some ⟨g, 0, none⟩, rc⟩ l)
      case atStart => exact ⟨0, _, S10, q10, z10, Nat.zero_le _, rfl, hi10.out, pos_tok hi10.out, HEQ.out, rfl, F.m, F.t, F.x0, F.x1, hR.out⟩
      case round =>
        obtain ⟨j, x9, S9, q9, z9, hj, rfl, i9, p9, e9, g9, m9, t9, X0, X1, R0⟩ := hrel
        clear hR
        have F := Fm.of2 X0 X1 m9 t9 (by omega) (by omega) (by omega)
        have hi9 := hidI i9
        have hp9 := hidI p9
        have he9 := hidI e9
        have hg9 := hidI g9
        have hR := hidI R0
        clear X0 X1 i9 m9 t9 e9 g9 R0 p9
        by_cases hlt : j < l.length
        · skip
          obtain ⟨c1, c2⟩ := hR.out.cells (g := g) rfl hlt
          have hgl := hR.out.own.lt (g := g) rfl
          have HX : Hid (∀ e, e = l[j] → addAll (fun e => addEp C (expFrom n8 e)) (l.drop (j + 1)) (bd x9 (addEp C (expFrom n8 e))) = exportP C q) := fun e he => by rw [he, ← he9.out]; exact (addAll_drop (fun e => addEp C (expFrom n8 e)) l x9 hlt).symm
          generalize hel : l[j] = el at c1 c2
          have HEL : Hid (el = l[j]) := hel.symm
          clear hel
          have ab := F.x0.boxC
          go_upto_region 16 with fail
          go_region_law (first | (go_simp; go_wp2_with (go_at_call 200; refine (l4Exp_spec C gt cap base x9 S9 q9 z9 0 (expFrom n8 el) _ hi9.out F.m.drew hp9.out).mono ?_; rintro e w10 ⟨S10, q10, z10, rfl, i10, m10, s10⟩; obtain ⟨d0, d1, d2, d3, d4, d5, d6, d7, d8, d9, d10, d11, df⟩ := (F.x0.stp s10.undrew).box; unfold pv)))
          all_goals
            clear ab d0 d1 d2 d3 d4 d5 d6 d7 d8 d9 d10 d11 df
            have hi10 := hidI i10
            have hs10 : Hid (Stp S9 wr S10 w10) := s10.undrew
            replace F := F.stp m10 hs10.out
            clear i10 m10 s10
            go_wp2
            go_roundg (gk - 1)
            case rel => exact ⟨j + 1, _, S10, q10, z10, by omega, by go_num, hi10.out, addEp_pos hp9.out hi9.out hi10.out, HX.out el HEL.out, by have := hg9.out; omega, F.m.put F.x0 _ _ _ _ _ _ _ _ _ _ _ _, F.t.put (by omega) _ _ _ _ _ _ _ _ _ _ _ _, F.x0.put _ _ _ _ _ _ _ _ _ _ _ _, F.x1.other (by omega) _ _ _ _ _ _ _ _ _ _ _ _, (hR.out.stp hs10.out).put F.x0 _ _ _ _ _ _ _ _ _ _ _ _⟩
            case measure => have := hg9.out; omega
        · skip
          have ab := F.x0.boxC
          have bb := F.x1.boxC
          go_wp2
          refine (F.x1.put _ _ _ _ _ _ _ _ _ _ _ _).ret rfl rfl ?_
          exact (F.put1 _ _ _ _ _ _ _ _ _ _ _ _).done rfl (show Is (exportP C q) q9 z9 from by rw [← he9.out, List.drop_eq_nil_of_le (by omega)]; exact hi9.out)
    | false =>
      obtain ⟨c0, c1, c2, c3, c4, c5, c6, c7, c8, c9, c10, c11, cf⟩ := F.x2.box
      go_wp2_with fail
      refine (is_spec C gt cap base S4 q4 z4 0 1 sFrom _ F.m.tok hfew (by decide)).mono ?_
      rintro e w6 ⟨rfl, hb6⟩
      rw [hF]
      replace hR := hidI (hR.out.below hb6)
      replace F := F.below hb6
      clear c0 c1 c2 c3 c4 c5 c6 c7 c8 c9 c10 c11 cf
      obtain ⟨c0, c1, c2, c3, c4, c5, c6, c7, c8, c9, c10, c11, cf⟩ := F.x2.box
      go_wp2_with fail
      refine (l4Sign_spec C gt cap base _ S4 q4 z4 0 cSemi _ hi4.out.fst F.m).mono ?_
      rintro e w7 ⟨S7, q7, z7, rfl, hi7, m7, s7⟩
      replace hR := hidI (hR.out.stp s7)
      replace F := F.stp m7 s7
      clear c0 c1 c2 c3 c4 c5 c6 c7 c8 c9 c10 c11 cf
      have ab := F.x0.boxC
      unfold pv
      go_upto_region 6 with fail
      refine (F.put0 _ _ _ _ _ _ _ _ _ _ _ _).cutR (RW := fun W => Row S7 W base w.heap.size ⟨some ⟨g, 0, none⟩, rc⟩ l) (hR.out.put F.x0 _ _ _ _ _ _ _ _ _ _ _ _) ?_
      clear ab
      clear hR
      intro w8 F R0
      have hR := hidI R0
      clear R0
      have HEQ : Hid (_ = exportP C q) := (local_bind hi4.out hA hF).trans HV1.out.symm
      go_wp2
      go_loopg [6] l.length (fun k i wr => ∃ (j : Nat) (x' : PR) (S' : Sv) (q' : PS) (z' : Int), j ≤ l.length ∧ i = .int .i64 j ∧ Is x' q' z' ∧ (z' < 0 → 1 ≤ q'.pos) ∧ addAll (fun e => addEp C (expLoc e)) (l.drop j) x' = exportP C q ∧ l.length - j = k ∧ Mem C gt cap base S' q' wr ∧ SB w.heap.size S w S' wr ∧ Bx gt S' wr w.heap.size #[.slice (some ⟨gt, 0, none⟩) C.ts.length cap, .int .i64 q'.pos, .int .i64 C.fin, .bool C.scr, .slice S'.rq.a q'.rq.length S'.rq.cap, .slice S'.im.a q'.im.length S'.im.cap, .slice S'.ep.a q'.ep.length S'.ep.cap, .slice S'.st.a q'.st.length S'.st.cap, .slice S'.ex.a q'.ex.length S'.ex.cap, .slice S'.la.a q'.la.length S'.la.cap, .int .i64 z', .int .i64 0] ∧ Bx gt S' wr (w.heap.size + 1) #[.slice none 0 0, .int .i64 0, .int .i64 0, .bool false, .slice none 0 0, .slice none 0 0, .slice none 0 0, .slice none 0 0, .slice none 0 0, .slice none 0 0, .int .i64 0, .int .i64 0] ∧ Row S' wr base w.heap.size ⟨some ⟨g, 0, none⟩, rc⟩ l)
      case atStart => exact ⟨0, _, S7, q7, z7, Nat.zero_le _, rfl, hi7.out, pos_tok hi7.out, HEQ.out, rfl, F.m, F.t, F.x0, F.x1, hR.out⟩
      case round =>
        obtain ⟨j, x9, S9, q9, z9, hj, rfl, i9, p9, e9, g9, m9, t9, X0, X1, R0⟩ := hrel
        clear hR
        have F := Fm.of2 X0 X1 m9 t9 (by omega) (by omega) (by omega)
        have hi9 := hidI i9
        have hp9 := hidI p9
        have he9 := hidI e9
        have hg9 := hidI g9
        have hR := hidI R0
        clear X0 X1 i9 m9 t9 e9 g9 R0 p9
        by_cases hlt : j < l.length
        · skip
          obtain ⟨c1, c2⟩ := hR.out.cells (g := g) rfl hlt
          have hgl := hR.out.own.lt (g := g) rfl
          have HX : Hid (∀ e, e = l[j] → addAll (fun e => addEp C (expLoc e)) (l.drop (j + 1)) (bd x9 (addEp C (expLoc e))) = exportP C q) := fun e he => by rw [he, ← he9.out]; exact (addAll_drop (fun e => addEp C (expLoc e)) l x9 hlt).symm
          generalize hel : l[j] = el at c1 c2
          have HEL : Hid (el = l[j]) := hel.symm
          clear hel
          have ab := F.x0.boxC
          go_upto_region 9 with fail
          go_region_law (first | (go_simp; go_wp2_with (go_at_call 200; refine (l4Exp_spec C gt cap base x9 S9 q9 z9 0 (expLoc el) _ hi9.out F.m.drew hp9.out).mono ?_; rintro e w10 ⟨S10, q10, z10, rfl, i10, m10, s10⟩; obtain ⟨d0, d1, d2, d3, d4, d5, d6, d7, d8, d9, d10, d11, df⟩ := (F.x0.stp s10.undrew).box; unfold pv)))
          all_goals
            clear ab d0 d1 d2 d3 d4 d5 d6 d7 d8 d9 d10 d11 df
            have hi10 := hidI i10
            have hs10 : Hid (Stp S9 wr S10 w10) := s10.undrew
            replace F := F.stp m10 hs10.out
            clear i10 m10 s10
            go_wp2
            go_roundg (gk - 1)
            case rel => exact ⟨j + 1, _, S10, q10, z10, by omega, by go_num, hi10.out, addEp_pos hp9.out hi9.out hi10.out, HX.out el HEL.out, by have := hg9.out; omega, F.m.put F.x0 _ _ _ _ _ _ _ _ _ _ _ _, F.t.put (by omega) _ _ _ _ _ _ _ _ _ _ _ _, F.x0.put _ _ _ _ _ _ _ _ _ _ _ _, F.x1.other (by omega) _ _ _ _ _ _ _ _ _ _ _ _, (hR.out.stp hs10.out).put F.x0 _ _ _ _ _ _ _ _ _ _ _ _⟩
            case measure => have := hg9.out; omega
        · skip
          have ab := F.x0.boxC
          have bb := F.x1.boxC
          go_wp2
          refine (F.x1.put _ _ _ _ _ _ _ _ _ _ _ _).ret rfl rfl ?_
          exact (F.put1 _ _ _ _ _ _ _ _ _ _ _ _).done rfl (show Is (exportP C q) q9 z9 from by rw [← he9.out, List.drop_eq_nil_of_le (by omega)]; exact hi9.out)
end Go.Proofs.Ytdbpknmoacjodaa
namespace Go.Proofs.Ytdbpknmoacjodaa
open Go.RowKit Go.PlainAid

theorem l4Import_spec (C : Cx) (gt cap base : Nat) (S : Sv) (q : PS) (w : World) (hm : Mem C gt cap base S q w) (hw : isT C q.pos 1 sImport = true) :
    Calls Try.prog 167 #[pv C gt cap S q (-1) 0] w (Out C gt cap base (importP C q) 0 S w) := by
  cases h1 : isT C (q.pos + 1) 4 cLeft with
  | true => exact l4Import_list C gt cap base S q w hm hw h1
  | false =>
    cases h2 : isT C (q.pos + 1) 4 cStar with
    | true => exact l4Import_star C gt cap base S q w hm hw h1 h2
    | false =>
      cases h3 : plainB C (q.pos + 1) false with
      | true => exact l4Import_plain C gt cap base S q w hm hw h1 h2 h3
      | false => exact l4Import_bare C gt cap base S q w hm hw h1 h2 h3
theorem l4Export_spec (C : Cx) (gt cap base : Nat) (S : Sv) (q : PS) (w : World) (hm : Mem C gt cap base S q w) (hw : isT C q.pos 1 sExport = true) :
    Calls Try.prog 168 #[pv C gt cap S q (-1) 0] w (Out C gt cap base (exportP C q) 0 S w) := by
  cases h1 : isT C (q.pos + 1) 4 cLeft with
  | true => exact l4Export_list C gt cap base S q w hm hw h1
  | false =>
    cases h2 : isT C (q.pos + 1) 4 cStar with
    | true => exact l4Export_star C gt cap base S q w hm hw h1 h2
    | false =>
      cases h3 : isT C (q.pos + 1) 1 sDefault with
      | true => exact l4Export_default C gt cap base S q w hm hw h1 h2 h3
      | false =>
        cases h4 : isT C (q.pos + 1) 1 sLet with
        | true => exact l4Export_let C gt cap base S q w hm hw h1 h2 h3 h4
        | false =>
          cases h5 : isT C (q.pos + 1) 1 sFunction with
          | true => exact l4Export_fn C gt cap base S q w hm hw h1 h2 h3 h4 h5
          | false => exact l4Export_none C gt cap base S q w hm hw h1 h2 h3 h4 h5
theorem set_bind {C : Cx} {x : PR} {n : ByteArray} : bd (bd (bd (bd x (tokP C 4 cEq)) (pE C .sum 0)) (tokP C 4 cSemi)) (addSt C 3 n) = bd x fun q => bd (bd (bd (bd (.ok q) (tokP C 4 cEq)) (pE C .sum 0)) (tokP C 4 cSemi)) (addSt C 3 n) := by cases x <;> rfl

set_option maxRecDepth 100000 in
set_option maxHeartbeats 6400000 in
theorem l4Item_slet_true (ts : List Tk) (fin : Nat) (gt cap base : Nat) (S : Sv) (q : PS) (w : World) (hm : Mem (Cx.mk ts fin true) gt cap base S q w) (h0 : isT (Cx.mk ts fin true) q.pos 1 sLet = true) :
    Calls Try.prog 109 #[pv (Cx.mk ts fin true) gt cap S q (-1) 0] w (Out (Cx.mk ts fin true) gt cap base (itemP (Cx.mk ts fin true) q) 0 S w) := by
  have HM := hidI hm
  have htok := hm.tok
  have hfew : (Cx.mk ts fin true).ts.length ≤ 4000 := hm.few
  clear hm
  have HV : Hid (itemP (Cx.mk ts fin true) q = fstP (letP (Cx.mk ts fin true) q)) := by show itemP (Cx.mk ts fin true) q = _; rw [itemP, h0]; rfl
  unfold pv
  go_enter Try.func109, Try.ntmps109
  go_wp2_with fail
  refine (is_spec (Cx.mk ts fin true) gt cap base S q (-1) 0 1 sLet _ (ownT_alloc (ownT_alloc htok _) _) hfew (by decide)).mono ?_
  rintro e w1 ⟨rfl, hb1⟩
  rw [h0]
  have F := HM.out.fm hb1
  clear htok
  have ab := F.x0.boxC
  go_wp2_with fail
  refine (l4Let_spec (Cx.mk ts fin true) gt cap base S q _ F.m).mono ?_
  rintro e w2 ⟨S2, q2, z2, n2, rfl, hi2, m2, s2⟩
  replace F := F.stp m2 s2
  clear ab
  have hlt2 : w.heap.size + 1 < w2.heap.size := F.x1.lt
  unfold pv
  go_upto_region 7 with fail
  refine (F.new2 _).cut ?_
  intro w3 F
  have bb := F.x1.boxC
  have cb := F.x2.boxC
  go_wp2
  refine (F.x1.put _ _ _ _ _ _ _ _ _ _ _ _).ret rfl rfl ?_
  rw [HV.out]
  exact (F.put1 _ _ _ _ _ _ _ _ _ _ _ _).done rfl hi2.out.fst
set_option maxRecDepth 100000 in
set_option maxHeartbeats 6400000 in
theorem l4Item_sfunction_true (ts : List Tk) (fin : Nat) (gt cap base : Nat) (S : Sv) (q : PS) (w : World) (hm : Mem (Cx.mk ts fin true) gt cap base S q w) (h0 : isT (Cx.mk ts fin true) q.pos 1 sLet = false) (h1 : isT (Cx.mk ts fin true) q.pos 1 sFunction = true) :
    Calls Try.prog 109 #[pv (Cx.mk ts fin true) gt cap S q (-1) 0] w (Out (Cx.mk ts fin true) gt cap base (itemP (Cx.mk ts fin true) q) 0 S w) := by
  have HM := hidI hm
  have htok := hm.tok
  have hfew : (Cx.mk ts fin true).ts.length ≤ 4000 := hm.few
  clear hm
  have HV : Hid (itemP (Cx.mk ts fin true) q = fstP (fnP (Cx.mk ts fin true) q)) := by show itemP (Cx.mk ts fin true) q = _; rw [itemP, h0, h1]; rfl
  unfold pv
  go_enter Try.func109, Try.ntmps109
  go_wp2_with fail
  refine (is_spec (Cx.mk ts fin true) gt cap base S q (-1) 0 1 sLet _ (ownT_alloc (ownT_alloc htok _) _) hfew (by decide)).mono ?_
  rintro e w1 ⟨rfl, hb1⟩
  rw [h0]
  have F := HM.out.fm hb1
  clear htok
  have ab := F.x0.boxC
  go_wp2_with fail
  refine (is_spec (Cx.mk ts fin true) gt cap base S q (-1) 0 1 sFunction _ F.m.tok hfew (by decide)).mono ?_
  rintro e w2 ⟨rfl, hb2⟩
  rw [h1]
  replace F := F.below hb2
  clear ab
  have ab := F.x0.boxC
  go_wp2_with fail
  refine (l4Fn_spec (Cx.mk ts fin true) gt cap base S q _ F.m).mono ?_
  rintro e w3 ⟨S3, q3, z3, n3, rfl, hi3, m3, s3⟩
  replace F := F.stp m3 s3
  clear ab
  have hlt2 : w.heap.size + 1 < w3.heap.size := F.x1.lt
  unfold pv
  go_upto_region 10 with fail
  refine (F.new2 _).cut ?_
  intro w4 F
  have bb := F.x1.boxC
  have cb := F.x2.boxC
  go_wp2
  refine (F.x1.put _ _ _ _ _ _ _ _ _ _ _ _).ret rfl rfl ?_
  rw [HV.out]
  exact (F.put1 _ _ _ _ _ _ _ _ _ _ _ _).done rfl hi3.out.fst
set_option maxRecDepth 100000 in
set_option maxHeartbeats 6400000 in
theorem l4Item_sprint_true (ts : List Tk) (fin : Nat) (gt cap base : Nat) (S : Sv) (q : PS) (w : World) (hm : Mem (Cx.mk ts fin true) gt cap base S q w) (h0 : isT (Cx.mk ts fin true) q.pos 1 sLet = false) (h1 : isT (Cx.mk ts fin true) q.pos 1 sFunction = false) (h2 : isT (Cx.mk ts fin true) q.pos 1 sPrint = true) :
    Calls Try.prog 109 #[pv (Cx.mk ts fin true) gt cap S q (-1) 0] w (Out (Cx.mk ts fin true) gt cap base (itemP (Cx.mk ts fin true) q) 0 S w) := by
  have HM := hidI hm
  have htok := hm.tok
  have hfew : (Cx.mk ts fin true).ts.length ≤ 4000 := hm.few
  clear hm
  have HV : Hid (itemP (Cx.mk ts fin true) q = bd (bd (bd (bd (bd (bd (.ok q) (tokP (Cx.mk ts fin true) 1 sPrint)) (tokP (Cx.mk ts fin true) 4 cOpen)) (pE (Cx.mk ts fin true) .sum 0)) (tokP (Cx.mk ts fin true) 4 cShut)) (tokP (Cx.mk ts fin true) 4 cSemi)) (addSt (Cx.mk ts fin true) 4 sNone)) := by show itemP (Cx.mk ts fin true) q = _; rw [itemP, h0, h1, h2]; rfl
  unfold pv
  go_enter Try.func109, Try.ntmps109
  go_wp2_with fail
  refine (is_spec (Cx.mk ts fin true) gt cap base S q (-1) 0 1 sLet _ (ownT_alloc (ownT_alloc htok _) _) hfew (by decide)).mono ?_
  rintro e w1 ⟨rfl, hb1⟩
  rw [h0]
  have F := HM.out.fm hb1
  clear htok
  have ab := F.x0.boxC
  go_wp2_with fail
  refine (is_spec (Cx.mk ts fin true) gt cap base S q (-1) 0 1 sFunction _ F.m.tok hfew (by decide)).mono ?_
  rintro e w2 ⟨rfl, hb2⟩
  rw [h1]
  replace F := F.below hb2
  clear ab
  have ab := F.x0.boxC
  go_wp2_with fail
  refine (is_spec (Cx.mk ts fin true) gt cap base S q (-1) 0 1 sPrint _ F.m.tok hfew (by decide)).mono ?_
  rintro e w3 ⟨rfl, hb3⟩
  rw [h2]
  replace F := F.below hb3
  clear ab
  have ab := F.x0.boxC
  go_wp2_with fail
  refine (l4Word_spec (Cx.mk ts fin true) gt cap base (.ok q) S q (-1) 0 sPrint _ (is_ok q) F.m).mono ?_
  rintro e w4 ⟨S4, q4, z4, rfl, hi4, m4, s4⟩
  replace F := F.stp m4 s4
  clear ab
  go_wp2_with fail
  refine (l4Sign_spec (Cx.mk ts fin true) gt cap base _ S4 q4 z4 0 cOpen _ hi4.out F.m).mono ?_
  rintro e w5 ⟨S5, q5, z5, rfl, hi5, m5, s5⟩
  replace F := F.stp m5 s5
  go_wp2_with fail
  refine (l4Sum_spec (Cx.mk ts fin true) gt cap base _ S5 q5 z5 _ hi5.out F.m).mono ?_
  rintro e w6 ⟨S6, q6, z6, rfl, hi6, m6, s6⟩
  replace F := F.stp m6 s6
  go_wp2_with fail
  refine (l4Sign_spec (Cx.mk ts fin true) gt cap base _ S6 q6 z6 0 cShut _ hi6.out F.m).mono ?_
  rintro e w7 ⟨S7, q7, z7, rfl, hi7, m7, s7⟩
  replace F := F.stp m7 s7
  have hlt2 : w.heap.size + 1 < w7.heap.size := F.x1.lt
  unfold pv
  go_upto_region 13 with fail
  refine (F.new2 _).cut ?_
  intro w8 F
  have cb := F.x2.boxC
  go_wp2_with fail
  refine (l4Sign_spec (Cx.mk ts fin true) gt cap base _ S7 q7 z7 0 cSemi _ hi7.out F.m).mono ?_
  rintro e w9 ⟨S9, q9, z9, rfl, hi9, m9, s9⟩
  replace F := F.stp m9 s9
  clear cb
  go_wp2_with fail
  refine (l4Stmt_spec (Cx.mk ts fin true) gt cap base _ S9 q9 z9 0 4 sNone _ hi9.out F.m (pos_tok hi9.out)).mono ?_
  rintro e w10 ⟨S10, q10, z10, rfl, hi10, m10, s10⟩
  replace F := F.stp m10 s10
  have bb := F.x1.boxC
  unfold pv
  go_wp2
  refine (F.x1.put _ _ _ _ _ _ _ _ _ _ _ _).ret rfl rfl ?_
  rw [HV.out]
  exact (F.put1 _ _ _ _ _ _ _ _ _ _ _ _).done rfl hi10.out
set_option maxRecDepth 100000 in
set_option maxHeartbeats 6400000 in
theorem l4Item_sthrow_true (ts : List Tk) (fin : Nat) (gt cap base : Nat) (S : Sv) (q : PS) (w : World) (hm : Mem (Cx.mk ts fin true) gt cap base S q w) (h0 : isT (Cx.mk ts fin true) q.pos 1 sLet = false) (h1 : isT (Cx.mk ts fin true) q.pos 1 sFunction = false) (h2 : isT (Cx.mk ts fin true) q.pos 1 sPrint = false) (h3 : isT (Cx.mk ts fin true) q.pos 1 sThrow = true) :
    Calls Try.prog 109 #[pv (Cx.mk ts fin true) gt cap S q (-1) 0] w (Out (Cx.mk ts fin true) gt cap base (itemP (Cx.mk ts fin true) q) 0 S w) := by
  have HM := hidI hm
  have htok := hm.tok
  have hfew : (Cx.mk ts fin true).ts.length ≤ 4000 := hm.few
  clear hm
  have HV : Hid (itemP (Cx.mk ts fin true) q = bd (bd (bd (bd (.ok q) (tokP (Cx.mk ts fin true) 1 sThrow)) (pE (Cx.mk ts fin true) .sum 0)) (tokP (Cx.mk ts fin true) 4 cSemi)) (addSt (Cx.mk ts fin true) 5 sNone)) := by show itemP (Cx.mk ts fin true) q = _; rw [itemP, h0, h1, h2, h3]; rfl
  unfold pv
  go_enter Try.func109, Try.ntmps109
  go_wp2_with fail
  refine (is_spec (Cx.mk ts fin true) gt cap base S q (-1) 0 1 sLet _ (ownT_alloc (ownT_alloc htok _) _) hfew (by decide)).mono ?_
  rintro e w1 ⟨rfl, hb1⟩
  rw [h0]
  have F := HM.out.fm hb1
  clear htok
  have ab := F.x0.boxC
  go_wp2_with fail
  refine (is_spec (Cx.mk ts fin true) gt cap base S q (-1) 0 1 sFunction _ F.m.tok hfew (by decide)).mono ?_
  rintro e w2 ⟨rfl, hb2⟩
  rw [h1]
  replace F := F.below hb2
  clear ab
  have ab := F.x0.boxC
  go_wp2_with fail
  refine (is_spec (Cx.mk ts fin true) gt cap base S q (-1) 0 1 sPrint _ F.m.tok hfew (by decide)).mono ?_
  rintro e w3 ⟨rfl, hb3⟩
  rw [h2]
  replace F := F.below hb3
  clear ab
  have ab := F.x0.boxC
  go_wp2_with fail
  refine (is_spec (Cx.mk ts fin true) gt cap base S q (-1) 0 1 sThrow _ F.m.tok hfew (by decide)).mono ?_
  rintro e w4 ⟨rfl, hb4⟩
  rw [h3]
  replace F := F.below hb4
  clear ab
  have ab := F.x0.boxC
  go_wp2_with fail
  refine (l4Word_spec (Cx.mk ts fin true) gt cap base (.ok q) S q (-1) 0 sThrow _ (is_ok q) F.m).mono ?_
  rintro e w5 ⟨S5, q5, z5, rfl, hi5, m5, s5⟩
  replace F := F.stp m5 s5
  clear ab
  go_wp2_with fail
  refine (l4Sum_spec (Cx.mk ts fin true) gt cap base _ S5 q5 z5 _ hi5.out F.m).mono ?_
  rintro e w6 ⟨S6, q6, z6, rfl, hi6, m6, s6⟩
  replace F := F.stp m6 s6
  go_wp2_with fail
  refine (l4Sign_spec (Cx.mk ts fin true) gt cap base _ S6 q6 z6 0 cSemi _ hi6.out F.m).mono ?_
  rintro e w7 ⟨S7, q7, z7, rfl, hi7, m7, s7⟩
  replace F := F.stp m7 s7
  go_wp2_with fail
  refine (l4Stmt_spec (Cx.mk ts fin true) gt cap base _ S7 q7 z7 0 5 sNone _ hi7.out F.m (pos_tok hi7.out)).mono ?_
  rintro e w8 ⟨S8, q8, z8, rfl, hi8, m8, s8⟩
  replace F := F.stp m8 s8
  have bb := F.x1.boxC
  unfold pv
  go_wp2
  refine (F.x1.put _ _ _ _ _ _ _ _ _ _ _ _).ret rfl rfl ?_
  rw [HV.out]
  exact (F.put1 _ _ _ _ _ _ _ _ _ _ _ _).done rfl hi8.out
set_option maxRecDepth 100000 in
set_option maxHeartbeats 6400000 in
theorem l4Item_sfail_true (ts : List Tk) (fin : Nat) (gt cap base : Nat) (S : Sv) (q : PS) (w : World) (hm : Mem (Cx.mk ts fin true) gt cap base S q w) (h0 : isT (Cx.mk ts fin true) q.pos 1 sLet = false) (h1 : isT (Cx.mk ts fin true) q.pos 1 sFunction = false) (h2 : isT (Cx.mk ts fin true) q.pos 1 sPrint = false) (h3 : isT (Cx.mk ts fin true) q.pos 1 sThrow = false) (h4 : isT (Cx.mk ts fin true) q.pos 1 sFail = true) :
    Calls Try.prog 109 #[pv (Cx.mk ts fin true) gt cap S q (-1) 0] w (Out (Cx.mk ts fin true) gt cap base (itemP (Cx.mk ts fin true) q) 0 S w) := by
  have HM := hidI hm
  have htok := hm.tok
  have hfew : (Cx.mk ts fin true).ts.length ≤ 4000 := hm.few
  clear hm
  have HV : Hid (itemP (Cx.mk ts fin true) q = bd (bd (bd (bd (.ok q) (tokP (Cx.mk ts fin true) 1 sFail)) (pE (Cx.mk ts fin true) .sum 0)) (tokP (Cx.mk ts fin true) 4 cSemi)) (addSt (Cx.mk ts fin true) 6 sNone)) := by show itemP (Cx.mk ts fin true) q = _; rw [itemP, h0, h1, h2, h3, h4]; rfl
  unfold pv
  go_enter Try.func109, Try.ntmps109
  go_wp2_with fail
  refine (is_spec (Cx.mk ts fin true) gt cap base S q (-1) 0 1 sLet _ (ownT_alloc (ownT_alloc htok _) _) hfew (by decide)).mono ?_
  rintro e w1 ⟨rfl, hb1⟩
  rw [h0]
  have F := HM.out.fm hb1
  clear htok
  have ab := F.x0.boxC
  go_wp2_with fail
  refine (is_spec (Cx.mk ts fin true) gt cap base S q (-1) 0 1 sFunction _ F.m.tok hfew (by decide)).mono ?_
  rintro e w2 ⟨rfl, hb2⟩
  rw [h1]
  replace F := F.below hb2
  clear ab
  have ab := F.x0.boxC
  go_wp2_with fail
  refine (is_spec (Cx.mk ts fin true) gt cap base S q (-1) 0 1 sPrint _ F.m.tok hfew (by decide)).mono ?_
  rintro e w3 ⟨rfl, hb3⟩
  rw [h2]
  replace F := F.below hb3
  clear ab
  have ab := F.x0.boxC
  go_wp2_with fail
  refine (is_spec (Cx.mk ts fin true) gt cap base S q (-1) 0 1 sThrow _ F.m.tok hfew (by decide)).mono ?_
  rintro e w4 ⟨rfl, hb4⟩
  rw [h3]
  replace F := F.below hb4
  clear ab
  have ab := F.x0.boxC
  go_wp2_with fail
  refine (is_spec (Cx.mk ts fin true) gt cap base S q (-1) 0 1 sFail _ F.m.tok hfew (by decide)).mono ?_
  rintro e w5 ⟨rfl, hb5⟩
  rw [h4]
  replace F := F.below hb5
  clear ab
  have ab := F.x0.boxC
  go_wp2_with fail
  refine (l4Word_spec (Cx.mk ts fin true) gt cap base (.ok q) S q (-1) 0 sFail _ (is_ok q) F.m).mono ?_
  rintro e w6 ⟨S6, q6, z6, rfl, hi6, m6, s6⟩
  replace F := F.stp m6 s6
  clear ab
  go_wp2_with fail
  refine (l4Sum_spec (Cx.mk ts fin true) gt cap base _ S6 q6 z6 _ hi6.out F.m).mono ?_
  rintro e w7 ⟨S7, q7, z7, rfl, hi7, m7, s7⟩
  replace F := F.stp m7 s7
  go_wp2_with fail
  refine (l4Sign_spec (Cx.mk ts fin true) gt cap base _ S7 q7 z7 0 cSemi _ hi7.out F.m).mono ?_
  rintro e w8 ⟨S8, q8, z8, rfl, hi8, m8, s8⟩
  replace F := F.stp m8 s8
  go_wp2_with fail
  refine (l4Stmt_spec (Cx.mk ts fin true) gt cap base _ S8 q8 z8 0 6 sNone _ hi8.out F.m (pos_tok hi8.out)).mono ?_
  rintro e w9 ⟨S9, q9, z9, rfl, hi9, m9, s9⟩
  replace F := F.stp m9 s9
  have bb := F.x1.boxC
  unfold pv
  go_wp2
  refine (F.x1.put _ _ _ _ _ _ _ _ _ _ _ _).ret rfl rfl ?_
  rw [HV.out]
  exact (F.put1 _ _ _ _ _ _ _ _ _ _ _ _).done rfl hi9.out
set_option maxRecDepth 100000 in
set_option maxHeartbeats 6400000 in
theorem l4Item_set_true (ts : List Tk) (fin : Nat) (gt cap base : Nat) (S : Sv) (q : PS) (w : World) (hm : Mem (Cx.mk ts fin true) gt cap base S q w) (h0 : isT (Cx.mk ts fin true) q.pos 1 sLet = false) (h1 : isT (Cx.mk ts fin true) q.pos 1 sFunction = false) (h2 : isT (Cx.mk ts fin true) q.pos 1 sPrint = false) (h3 : isT (Cx.mk ts fin true) q.pos 1 sThrow = false) (h4 : isT (Cx.mk ts fin true) q.pos 1 sFail = false) :
    Calls Try.prog 109 #[pv (Cx.mk ts fin true) gt cap S q (-1) 0] w (Out (Cx.mk ts fin true) gt cap base (itemP (Cx.mk ts fin true) q) 0 S w) := by
  have HM := hidI hm
  have htok := hm.tok
  have hfew : (Cx.mk ts fin true).ts.length ≤ 4000 := hm.few
  clear hm
  have HV : Hid (itemP (Cx.mk ts fin true) q = bd (bd (.ok q) (nameP (Cx.mk ts fin true) false)) fun a => bd (bd (bd (bd (.ok a.1) (tokP (Cx.mk ts fin true) 4 cEq)) (pE (Cx.mk ts fin true) .sum 0)) (tokP (Cx.mk ts fin true) 4 cSemi)) (addSt (Cx.mk ts fin true) 3 a.2)) := by show itemP (Cx.mk ts fin true) q = _; rw [itemP, h0, h1, h2, h3, h4]; rfl
  unfold pv
  go_enter Try.func109, Try.ntmps109
  go_wp2_with fail
  refine (is_spec (Cx.mk ts fin true) gt cap base S q (-1) 0 1 sLet _ (ownT_alloc (ownT_alloc htok _) _) hfew (by decide)).mono ?_
  rintro e w1 ⟨rfl, hb1⟩
  rw [h0]
  have F := HM.out.fm hb1
  clear htok
  have ab := F.x0.boxC
  go_wp2_with fail
  refine (is_spec (Cx.mk ts fin true) gt cap base S q (-1) 0 1 sFunction _ F.m.tok hfew (by decide)).mono ?_
  rintro e w2 ⟨rfl, hb2⟩
  rw [h1]
  replace F := F.below hb2
  clear ab
  have ab := F.x0.boxC
  go_wp2_with fail
  refine (is_spec (Cx.mk ts fin true) gt cap base S q (-1) 0 1 sPrint _ F.m.tok hfew (by decide)).mono ?_
  rintro e w3 ⟨rfl, hb3⟩
  rw [h2]
  replace F := F.below hb3
  clear ab
  have ab := F.x0.boxC
  go_wp2_with fail
  refine (is_spec (Cx.mk ts fin true) gt cap base S q (-1) 0 1 sThrow _ F.m.tok hfew (by decide)).mono ?_
  rintro e w4 ⟨rfl, hb4⟩
  rw [h3]
  replace F := F.below hb4
  clear ab
  have ab := F.x0.boxC
  go_wp2_with fail
  refine (is_spec (Cx.mk ts fin true) gt cap base S q (-1) 0 1 sFail _ F.m.tok hfew (by decide)).mono ?_
  rintro e w5 ⟨rfl, hb5⟩
  rw [h4]
  replace F := F.below hb5
  clear ab
  have ab := F.x0.boxC
  go_wp2_with fail
  refine (l4Name_spec (Cx.mk ts fin true) gt cap base (.ok q) S q (-1) 0 false _ (is_ok q) F.m).mono ?_
  rintro e w6 ⟨S6, q6, z6, n6, rfl, hi6, m6, s6⟩
  replace F := F.stp m6 s6
  clear ab
  have hlt2 : w.heap.size + 1 < w6.heap.size := F.x1.lt
  unfold pv
  go_upto_region 19 with fail
  refine (F.new2 _).cut ?_
  intro w7 F
  have cb := F.x2.boxC
  go_wp2_with fail
  refine (l4Sign_spec (Cx.mk ts fin true) gt cap base _ S6 q6 z6 0 cEq _ hi6.out.fst F.m).mono ?_
  rintro e w8 ⟨S8, q8, z8, rfl, hi8, m8, s8⟩
  replace F := F.stp m8 s8
  clear cb
  go_wp2_with fail
  refine (l4Sum_spec (Cx.mk ts fin true) gt cap base _ S8 q8 z8 _ hi8.out F.m).mono ?_
  rintro e w9 ⟨S9, q9, z9, rfl, hi9, m9, s9⟩
  replace F := F.stp m9 s9
  go_wp2_with fail
  refine (l4Sign_spec (Cx.mk ts fin true) gt cap base _ S9 q9 z9 0 cSemi _ hi9.out F.m).mono ?_
  rintro e w10 ⟨S10, q10, z10, rfl, hi10, m10, s10⟩
  replace F := F.stp m10 s10
  go_wp2_with fail
  refine (l4Stmt_spec (Cx.mk ts fin true) gt cap base _ S10 q10 z10 0 3 n6 _ hi10.out F.m (pos_tok hi10.out)).mono ?_
  rintro e w11 ⟨S11, q11, z11, rfl, hi11, m11, s11⟩
  replace F := F.stp m11 s11
  have bb := F.x1.boxC
  unfold pv
  go_wp2
  refine (F.x1.put _ _ _ _ _ _ _ _ _ _ _ _).ret rfl rfl ?_
  rw [HV.out, ← hi6.out.bind (fun q n => bd (bd (bd (bd (.ok q) (tokP (Cx.mk ts fin true) 4 cEq)) (pE (Cx.mk ts fin true) .sum 0)) (tokP (Cx.mk ts fin true) 4 cSemi)) (addSt (Cx.mk ts fin true) 3 n)), ← set_bind]
  exact (F.put1 _ _ _ _ _ _ _ _ _ _ _ _).done rfl hi11.out
theorem l4Item_true (ts : List Tk) (fin : Nat) (gt cap base : Nat) (S : Sv) (q : PS) (w : World) (hm : Mem (Cx.mk ts fin true) gt cap base S q w) :
    Calls Try.prog 109 #[pv (Cx.mk ts fin true) gt cap S q (-1) 0] w (Out (Cx.mk ts fin true) gt cap base (itemP (Cx.mk ts fin true) q) 0 S w) := by
  cases h0 : isT (Cx.mk ts fin true) q.pos 1 sLet with
  | true => exact l4Item_slet_true ts fin gt cap base S q w hm h0
  | false =>
    cases h1 : isT (Cx.mk ts fin true) q.pos 1 sFunction with
    | true => exact l4Item_sfunction_true ts fin gt cap base S q w hm h0 h1
    | false =>
      cases h2 : isT (Cx.mk ts fin true) q.pos 1 sPrint with
      | true => exact l4Item_sprint_true ts fin gt cap base S q w hm h0 h1 h2
      | false =>
        cases h3 : isT (Cx.mk ts fin true) q.pos 1 sThrow with
        | true => exact l4Item_sthrow_true ts fin gt cap base S q w hm h0 h1 h2 h3
        | false =>
          cases h4 : isT (Cx.mk ts fin true) q.pos 1 sFail with
          | true => exact l4Item_sfail_true ts fin gt cap base S q w hm h0 h1 h2 h3 h4
          | false =>
            exact l4Item_set_true ts fin gt cap base S q w hm h0 h1 h2 h3 h4
end Go.Proofs.Ytdbpknmoacjodaa
namespace Go.Proofs.Ytdbpknmoacjodaa
open Go.RowKit Go.PlainAid

set_option maxRecDepth 100000 in
set_option maxHeartbeats 6400000 in
theorem l4Item_simport_false (ts : List Tk) (fin : Nat) (gt cap base : Nat) (S : Sv) (q : PS) (w : World) (hm : Mem (Cx.mk ts fin false) gt cap base S q w) (h0 : isT (Cx.mk ts fin false) q.pos 1 sImport = true) :
    Calls Try.prog 109 #[pv (Cx.mk ts fin false) gt cap S q (-1) 0] w (Out (Cx.mk ts fin false) gt cap base (itemP (Cx.mk ts fin false) q) 0 S w) := by
  have HM := hidI hm
  have htok := hm.tok
  have hfew : (Cx.mk ts fin false).ts.length ≤ 4000 := hm.few
  clear hm
  have HV : Hid (itemP (Cx.mk ts fin false) q = importP (Cx.mk ts fin false) q) := by show itemP (Cx.mk ts fin false) q = _; rw [itemP, h0]; rfl
  unfold pv
  go_enter Try.func109, Try.ntmps109
  go_wp2_with fail
  refine (is_spec (Cx.mk ts fin false) gt cap base S q (-1) 0 1 sImport _ (ownT_alloc (ownT_alloc htok _) _) hfew (by decide)).mono ?_
  rintro e w1 ⟨rfl, hb1⟩
  rw [h0]
  have F := HM.out.fm hb1
  clear htok
  have ab := F.x0.boxC
  go_wp2_with fail
  refine (l4Import_spec (Cx.mk ts fin false) gt cap base S q _ F.m h0).mono ?_
  rintro e w2 ⟨S2, q2, z2, rfl, hi2, m2, s2⟩
  replace F := F.stp m2 s2
  clear ab
  have bb := F.x1.boxC
  unfold pv
  go_wp2
  refine (F.x1.put _ _ _ _ _ _ _ _ _ _ _ _).ret rfl rfl ?_
  rw [HV.out]
  exact (F.put1 _ _ _ _ _ _ _ _ _ _ _ _).done rfl hi2.out
set_option maxRecDepth 100000 in
set_option maxHeartbeats 6400000 in
theorem l4Item_sexport_false (ts : List Tk) (fin : Nat) (gt cap base : Nat) (S : Sv) (q : PS) (w : World) (hm : Mem (Cx.mk ts fin false) gt cap base S q w) (h0 : isT (Cx.mk ts fin false) q.pos 1 sImport = false) (h1 : isT (Cx.mk ts fin false) q.pos 1 sExport = true) :
    Calls Try.prog 109 #[pv (Cx.mk ts fin false) gt cap S q (-1) 0] w (Out (Cx.mk ts fin false) gt cap base (itemP (Cx.mk ts fin false) q) 0 S w) := by
  have HM := hidI hm
  have htok := hm.tok
  have hfew : (Cx.mk ts fin false).ts.length ≤ 4000 := hm.few
  clear hm
  have HV : Hid (itemP (Cx.mk ts fin false) q = exportP (Cx.mk ts fin false) q) := by show itemP (Cx.mk ts fin false) q = _; rw [itemP, h0, h1]; rfl
  unfold pv
  go_enter Try.func109, Try.ntmps109
  go_wp2_with fail
  refine (is_spec (Cx.mk ts fin false) gt cap base S q (-1) 0 1 sImport _ (ownT_alloc (ownT_alloc htok _) _) hfew (by decide)).mono ?_
  rintro e w1 ⟨rfl, hb1⟩
  rw [h0]
  have F := HM.out.fm hb1
  clear htok
  have ab := F.x0.boxC
  go_wp2_with fail
  refine (is_spec (Cx.mk ts fin false) gt cap base S q (-1) 0 1 sExport _ F.m.tok hfew (by decide)).mono ?_
  rintro e w2 ⟨rfl, hb2⟩
  rw [h1]
  replace F := F.below hb2
  clear ab
  have ab := F.x0.boxC
  go_wp2_with fail
  refine (l4Export_spec (Cx.mk ts fin false) gt cap base S q _ F.m h1).mono ?_
  rintro e w3 ⟨S3, q3, z3, rfl, hi3, m3, s3⟩
  replace F := F.stp m3 s3
  clear ab
  have bb := F.x1.boxC
  unfold pv
  go_wp2
  refine (F.x1.put _ _ _ _ _ _ _ _ _ _ _ _).ret rfl rfl ?_
  rw [HV.out]
  exact (F.put1 _ _ _ _ _ _ _ _ _ _ _ _).done rfl hi3.out
set_option maxRecDepth 100000 in
set_option maxHeartbeats 6400000 in
theorem l4Item_slet_false (ts : List Tk) (fin : Nat) (gt cap base : Nat) (S : Sv) (q : PS) (w : World) (hm : Mem (Cx.mk ts fin false) gt cap base S q w) (h0 : isT (Cx.mk ts fin false) q.pos 1 sImport = false) (h1 : isT (Cx.mk ts fin false) q.pos 1 sExport = false) (h2 : isT (Cx.mk ts fin false) q.pos 1 sLet = true) :
    Calls Try.prog 109 #[pv (Cx.mk ts fin false) gt cap S q (-1) 0] w (Out (Cx.mk ts fin false) gt cap base (itemP (Cx.mk ts fin false) q) 0 S w) := by
  have HM := hidI hm
  have htok := hm.tok
  have hfew : (Cx.mk ts fin false).ts.length ≤ 4000 := hm.few
  clear hm
  have HV : Hid (itemP (Cx.mk ts fin false) q = fstP (letP (Cx.mk ts fin false) q)) := by show itemP (Cx.mk ts fin false) q = _; rw [itemP, h0, h1, h2]; rfl
  unfold pv
  go_enter Try.func109, Try.ntmps109
  go_wp2_with fail
  refine (is_spec (Cx.mk ts fin false) gt cap base S q (-1) 0 1 sImport _ (ownT_alloc (ownT_alloc htok _) _) hfew (by decide)).mono ?_
  rintro e w1 ⟨rfl, hb1⟩
  rw [h0]
  have F := HM.out.fm hb1
  clear htok
  have ab := F.x0.boxC
  go_wp2_with fail
  refine (is_spec (Cx.mk ts fin false) gt cap base S q (-1) 0 1 sExport _ F.m.tok hfew (by decide)).mono ?_
  rintro e w2 ⟨rfl, hb2⟩
  rw [h1]
  replace F := F.below hb2
  clear ab
  have ab := F.x0.boxC
  go_wp2_with fail
  refine (is_spec (Cx.mk ts fin false) gt cap base S q (-1) 0 1 sLet _ F.m.tok hfew (by decide)).mono ?_
  rintro e w3 ⟨rfl, hb3⟩
  rw [h2]
  replace F := F.below hb3
  clear ab
  have ab := F.x0.boxC
  go_wp2_with fail
  refine (l4Let_spec (Cx.mk ts fin false) gt cap base S q _ F.m).mono ?_
  rintro e w4 ⟨S4, q4, z4, n4, rfl, hi4, m4, s4⟩
  replace F := F.stp m4 s4
  clear ab
  have hlt2 : w.heap.size + 1 < w4.heap.size := F.x1.lt
  unfold pv
  go_upto_region 7 with fail
  refine (F.new2 _).cut ?_
  intro w5 F
  have bb := F.x1.boxC
  have cb := F.x2.boxC
  go_wp2
  refine (F.x1.put _ _ _ _ _ _ _ _ _ _ _ _).ret rfl rfl ?_
  rw [HV.out]
  exact (F.put1 _ _ _ _ _ _ _ _ _ _ _ _).done rfl hi4.out.fst
set_option maxRecDepth 100000 in
set_option maxHeartbeats 6400000 in
theorem l4Item_sfunction_false (ts : List Tk) (fin : Nat) (gt cap base : Nat) (S : Sv) (q : PS) (w : World) (hm : Mem (Cx.mk ts fin false) gt cap base S q w) (h0 : isT (Cx.mk ts fin false) q.pos 1 sImport = false) (h1 : isT (Cx.mk ts fin false) q.pos 1 sExport = false) (h2 : isT (Cx.mk ts fin false) q.pos 1 sLet = false) (h3 : isT (Cx.mk ts fin false) q.pos 1 sFunction = true) :
    Calls Try.prog 109 #[pv (Cx.mk ts fin false) gt cap S q (-1) 0] w (Out (Cx.mk ts fin false) gt cap base (itemP (Cx.mk ts fin false) q) 0 S w) := by
  have HM := hidI hm
  have htok := hm.tok
  have hfew : (Cx.mk ts fin false).ts.length ≤ 4000 := hm.few
  clear hm
  have HV : Hid (itemP (Cx.mk ts fin false) q = fstP (fnP (Cx.mk ts fin false) q)) := by show itemP (Cx.mk ts fin false) q = _; rw [itemP, h0, h1, h2, h3]; rfl
  unfold pv
  go_enter Try.func109, Try.ntmps109
  go_wp2_with fail
  refine (is_spec (Cx.mk ts fin false) gt cap base S q (-1) 0 1 sImport _ (ownT_alloc (ownT_alloc htok _) _) hfew (by decide)).mono ?_
  rintro e w1 ⟨rfl, hb1⟩
  rw [h0]
  have F := HM.out.fm hb1
  clear htok
  have ab := F.x0.boxC
  go_wp2_with fail
  refine (is_spec (Cx.mk ts fin false) gt cap base S q (-1) 0 1 sExport _ F.m.tok hfew (by decide)).mono ?_
  rintro e w2 ⟨rfl, hb2⟩
  rw [h1]
  replace F := F.below hb2
  clear ab
  have ab := F.x0.boxC
  go_wp2_with fail
  refine (is_spec (Cx.mk ts fin false) gt cap base S q (-1) 0 1 sLet _ F.m.tok hfew (by decide)).mono ?_
  rintro e w3 ⟨rfl, hb3⟩
  rw [h2]
  replace F := F.below hb3
  clear ab
  have ab := F.x0.boxC
  go_wp2_with fail
  refine (is_spec (Cx.mk ts fin false) gt cap base S q (-1) 0 1 sFunction _ F.m.tok hfew (by decide)).mono ?_
  rintro e w4 ⟨rfl, hb4⟩
  rw [h3]
  replace F := F.below hb4
  clear ab
  have ab := F.x0.boxC
  go_wp2_with fail
  refine (l4Fn_spec (Cx.mk ts fin false) gt cap base S q _ F.m).mono ?_
  rintro e w5 ⟨S5, q5, z5, n5, rfl, hi5, m5, s5⟩
  replace F := F.stp m5 s5
  clear ab
  have hlt2 : w.heap.size + 1 < w5.heap.size := F.x1.lt
  unfold pv
  go_upto_region 10 with fail
  refine (F.new2 _).cut ?_
  intro w6 F
  have bb := F.x1.boxC
  have cb := F.x2.boxC
  go_wp2
  refine (F.x1.put _ _ _ _ _ _ _ _ _ _ _ _).ret rfl rfl ?_
  rw [HV.out]
  exact (F.put1 _ _ _ _ _ _ _ _ _ _ _ _).done rfl hi5.out.fst
set_option maxRecDepth 100000 in
set_option maxHeartbeats 6400000 in
theorem l4Item_sprint_false (ts : List Tk) (fin : Nat) (gt cap base : Nat) (S : Sv) (q : PS) (w : World) (hm : Mem (Cx.mk ts fin false) gt cap base S q w) (h0 : isT (Cx.mk ts fin false) q.pos 1 sImport = false) (h1 : isT (Cx.mk ts fin false) q.pos 1 sExport = false) (h2 : isT (Cx.mk ts fin false) q.pos 1 sLet = false) (h3 : isT (Cx.mk ts fin false) q.pos 1 sFunction = false) (h4 : isT (Cx.mk ts fin false) q.pos 1 sPrint = true) :
    Calls Try.prog 109 #[pv (Cx.mk ts fin false) gt cap S q (-1) 0] w (Out (Cx.mk ts fin false) gt cap base (itemP (Cx.mk ts fin false) q) 0 S w) := by
  have HM := hidI hm
  have htok := hm.tok
  have hfew : (Cx.mk ts fin false).ts.length ≤ 4000 := hm.few
  clear hm
  have HV : Hid (itemP (Cx.mk ts fin false) q = bd (bd (bd (bd (bd (bd (.ok q) (tokP (Cx.mk ts fin false) 1 sPrint)) (tokP (Cx.mk ts fin false) 4 cOpen)) (pE (Cx.mk ts fin false) .sum 0)) (tokP (Cx.mk ts fin false) 4 cShut)) (tokP (Cx.mk ts fin false) 4 cSemi)) (addSt (Cx.mk ts fin false) 4 sNone)) := by show itemP (Cx.mk ts fin false) q = _; rw [itemP, h0, h1, h2, h3, h4]; rfl
  unfold pv
  go_enter Try.func109, Try.ntmps109
  go_wp2_with fail
  refine (is_spec (Cx.mk ts fin false) gt cap base S q (-1) 0 1 sImport _ (ownT_alloc (ownT_alloc htok _) _) hfew (by decide)).mono ?_
  rintro e w1 ⟨rfl, hb1⟩
  rw [h0]
  have F := HM.out.fm hb1
  clear htok
  have ab := F.x0.boxC
  go_wp2_with fail
  refine (is_spec (Cx.mk ts fin false) gt cap base S q (-1) 0 1 sExport _ F.m.tok hfew (by decide)).mono ?_
  rintro e w2 ⟨rfl, hb2⟩
  rw [h1]
  replace F := F.below hb2
  clear ab
  have ab := F.x0.boxC
  go_wp2_with fail
  refine (is_spec (Cx.mk ts fin false) gt cap base S q (-1) 0 1 sLet _ F.m.tok hfew (by decide)).mono ?_
  rintro e w3 ⟨rfl, hb3⟩
  rw [h2]
  replace F := F.below hb3
  clear ab
  have ab := F.x0.boxC
  go_wp2_with fail
  refine (is_spec (Cx.mk ts fin false) gt cap base S q (-1) 0 1 sFunction _ F.m.tok hfew (by decide)).mono ?_
  rintro e w4 ⟨rfl, hb4⟩
  rw [h3]
  replace F := F.below hb4
  clear ab
  have ab := F.x0.boxC
  go_wp2_with fail
  refine (is_spec (Cx.mk ts fin false) gt cap base S q (-1) 0 1 sPrint _ F.m.tok hfew (by decide)).mono ?_
  rintro e w5 ⟨rfl, hb5⟩
  rw [h4]
  replace F := F.below hb5
  clear ab
  have ab := F.x0.boxC
  go_wp2_with fail
  refine (l4Word_spec (Cx.mk ts fin false) gt cap base (.ok q) S q (-1) 0 sPrint _ (is_ok q) F.m).mono ?_
  rintro e w6 ⟨S6, q6, z6, rfl, hi6, m6, s6⟩
  replace F := F.stp m6 s6
  clear ab
  go_wp2_with fail
  refine (l4Sign_spec (Cx.mk ts fin false) gt cap base _ S6 q6 z6 0 cOpen _ hi6.out F.m).mono ?_
  rintro e w7 ⟨S7, q7, z7, rfl, hi7, m7, s7⟩
  replace F := F.stp m7 s7
  go_wp2_with fail
  refine (l4Sum_spec (Cx.mk ts fin false) gt cap base _ S7 q7 z7 _ hi7.out F.m).mono ?_
  rintro e w8 ⟨S8, q8, z8, rfl, hi8, m8, s8⟩
  replace F := F.stp m8 s8
  go_wp2_with fail
  refine (l4Sign_spec (Cx.mk ts fin false) gt cap base _ S8 q8 z8 0 cShut _ hi8.out F.m).mono ?_
  rintro e w9 ⟨S9, q9, z9, rfl, hi9, m9, s9⟩
  replace F := F.stp m9 s9
  have hlt2 : w.heap.size + 1 < w9.heap.size := F.x1.lt
  unfold pv
  go_upto_region 13 with fail
  refine (F.new2 _).cut ?_
  intro w10 F
  have cb := F.x2.boxC
  go_wp2_with fail
  refine (l4Sign_spec (Cx.mk ts fin false) gt cap base _ S9 q9 z9 0 cSemi _ hi9.out F.m).mono ?_
  rintro e w11 ⟨S11, q11, z11, rfl, hi11, m11, s11⟩
  replace F := F.stp m11 s11
  clear cb
  go_wp2_with fail
  refine (l4Stmt_spec (Cx.mk ts fin false) gt cap base _ S11 q11 z11 0 4 sNone _ hi11.out F.m (pos_tok hi11.out)).mono ?_
  rintro e w12 ⟨S12, q12, z12, rfl, hi12, m12, s12⟩
  replace F := F.stp m12 s12
  have bb := F.x1.boxC
  unfold pv
  go_wp2
  refine (F.x1.put _ _ _ _ _ _ _ _ _ _ _ _).ret rfl rfl ?_
  rw [HV.out]
  exact (F.put1 _ _ _ _ _ _ _ _ _ _ _ _).done rfl hi12.out
set_option maxRecDepth 100000 in
set_option maxHeartbeats 6400000 in
theorem l4Item_sthrow_false (ts : List Tk) (fin : Nat) (gt cap base : Nat) (S : Sv) (q : PS) (w : World) (hm : Mem (Cx.mk ts fin false) gt cap base S q w) (h0 : isT (Cx.mk ts fin false) q.pos 1 sImport = false) (h1 : isT (Cx.mk ts fin false) q.pos 1 sExport = false) (h2 : isT (Cx.mk ts fin false) q.pos 1 sLet = false) (h3 : isT (Cx.mk ts fin false) q.pos 1 sFunction = false) (h4 : isT (Cx.mk ts fin false) q.pos 1 sPrint = false) (h5 : isT (Cx.mk ts fin false) q.pos 1 sThrow = true) :
    Calls Try.prog 109 #[pv (Cx.mk ts fin false) gt cap S q (-1) 0] w (Out (Cx.mk ts fin false) gt cap base (itemP (Cx.mk ts fin false) q) 0 S w) := by
  have HM := hidI hm
  have htok := hm.tok
  have hfew : (Cx.mk ts fin false).ts.length ≤ 4000 := hm.few
  clear hm
  have HV : Hid (itemP (Cx.mk ts fin false) q = bd (bd (bd (bd (.ok q) (tokP (Cx.mk ts fin false) 1 sThrow)) (pE (Cx.mk ts fin false) .sum 0)) (tokP (Cx.mk ts fin false) 4 cSemi)) (addSt (Cx.mk ts fin false) 5 sNone)) := by show itemP (Cx.mk ts fin false) q = _; rw [itemP, h0, h1, h2, h3, h4, h5]; rfl
  unfold pv
  go_enter Try.func109, Try.ntmps109
  go_wp2_with fail
  refine (is_spec (Cx.mk ts fin false) gt cap base S q (-1) 0 1 sImport _ (ownT_alloc (ownT_alloc htok _) _) hfew (by decide)).mono ?_
  rintro e w1 ⟨rfl, hb1⟩
  rw [h0]
  have F := HM.out.fm hb1
  clear htok
  have ab := F.x0.boxC
  go_wp2_with fail
  refine (is_spec (Cx.mk ts fin false) gt cap base S q (-1) 0 1 sExport _ F.m.tok hfew (by decide)).mono ?_
  rintro e w2 ⟨rfl, hb2⟩
  rw [h1]
  replace F := F.below hb2
  clear ab
  have ab := F.x0.boxC
  go_wp2_with fail
  refine (is_spec (Cx.mk ts fin false) gt cap base S q (-1) 0 1 sLet _ F.m.tok hfew (by decide)).mono ?_
  rintro e w3 ⟨rfl, hb3⟩
  rw [h2]
  replace F := F.below hb3
  clear ab
  have ab := F.x0.boxC
  go_wp2_with fail
  refine (is_spec (Cx.mk ts fin false) gt cap base S q (-1) 0 1 sFunction _ F.m.tok hfew (by decide)).mono ?_
  rintro e w4 ⟨rfl, hb4⟩
  rw [h3]
  replace F := F.below hb4
  clear ab
  have ab := F.x0.boxC
  go_wp2_with fail
  refine (is_spec (Cx.mk ts fin false) gt cap base S q (-1) 0 1 sPrint _ F.m.tok hfew (by decide)).mono ?_
  rintro e w5 ⟨rfl, hb5⟩
  rw [h4]
  replace F := F.below hb5
  clear ab
  have ab := F.x0.boxC
  go_wp2_with fail
  refine (is_spec (Cx.mk ts fin false) gt cap base S q (-1) 0 1 sThrow _ F.m.tok hfew (by decide)).mono ?_
  rintro e w6 ⟨rfl, hb6⟩
  rw [h5]
  replace F := F.below hb6
  clear ab
  have ab := F.x0.boxC
  go_wp2_with fail
  refine (l4Word_spec (Cx.mk ts fin false) gt cap base (.ok q) S q (-1) 0 sThrow _ (is_ok q) F.m).mono ?_
  rintro e w7 ⟨S7, q7, z7, rfl, hi7, m7, s7⟩
  replace F := F.stp m7 s7
  clear ab
  go_wp2_with fail
  refine (l4Sum_spec (Cx.mk ts fin false) gt cap base _ S7 q7 z7 _ hi7.out F.m).mono ?_
  rintro e w8 ⟨S8, q8, z8, rfl, hi8, m8, s8⟩
  replace F := F.stp m8 s8
  go_wp2_with fail
  refine (l4Sign_spec (Cx.mk ts fin false) gt cap base _ S8 q8 z8 0 cSemi _ hi8.out F.m).mono ?_
  rintro e w9 ⟨S9, q9, z9, rfl, hi9, m9, s9⟩
  replace F := F.stp m9 s9
  go_wp2_with fail
  refine (l4Stmt_spec (Cx.mk ts fin false) gt cap base _ S9 q9 z9 0 5 sNone _ hi9.out F.m (pos_tok hi9.out)).mono ?_
  rintro e w10 ⟨S10, q10, z10, rfl, hi10, m10, s10⟩
  replace F := F.stp m10 s10
  have bb := F.x1.boxC
  unfold pv
  go_wp2
  refine (F.x1.put _ _ _ _ _ _ _ _ _ _ _ _).ret rfl rfl ?_
  rw [HV.out]
  exact (F.put1 _ _ _ _ _ _ _ _ _ _ _ _).done rfl hi10.out
set_option maxRecDepth 100000 in
set_option maxHeartbeats 6400000 in
theorem l4Item_set_false (ts : List Tk) (fin : Nat) (gt cap base : Nat) (S : Sv) (q : PS) (w : World) (hm : Mem (Cx.mk ts fin false) gt cap base S q w) (h0 : isT (Cx.mk ts fin false) q.pos 1 sImport = false) (h1 : isT (Cx.mk ts fin false) q.pos 1 sExport = false) (h2 : isT (Cx.mk ts fin false) q.pos 1 sLet = false) (h3 : isT (Cx.mk ts fin false) q.pos 1 sFunction = false) (h4 : isT (Cx.mk ts fin false) q.pos 1 sPrint = false) (h5 : isT (Cx.mk ts fin false) q.pos 1 sThrow = false) :
    Calls Try.prog 109 #[pv (Cx.mk ts fin false) gt cap S q (-1) 0] w (Out (Cx.mk ts fin false) gt cap base (itemP (Cx.mk ts fin false) q) 0 S w) := by
  have HM := hidI hm
  have htok := hm.tok
  have hfew : (Cx.mk ts fin false).ts.length ≤ 4000 := hm.few
  clear hm
  have HV : Hid (itemP (Cx.mk ts fin false) q = bd (bd (.ok q) (nameP (Cx.mk ts fin false) false)) fun a => bd (bd (bd (bd (.ok a.1) (tokP (Cx.mk ts fin false) 4 cEq)) (pE (Cx.mk ts fin false) .sum 0)) (tokP (Cx.mk ts fin false) 4 cSemi)) (addSt (Cx.mk ts fin false) 3 a.2)) := by show itemP (Cx.mk ts fin false) q = _; rw [itemP, h0, h1, h2, h3, h4, h5]; rfl
  unfold pv
  go_enter Try.func109, Try.ntmps109
  go_wp2_with fail
  refine (is_spec (Cx.mk ts fin false) gt cap base S q (-1) 0 1 sImport _ (ownT_alloc (ownT_alloc htok _) _) hfew (by decide)).mono ?_
  rintro e w1 ⟨rfl, hb1⟩
  rw [h0]
  have F := HM.out.fm hb1
  clear htok
  have ab := F.x0.boxC
  go_wp2_with fail
  refine (is_spec (Cx.mk ts fin false) gt cap base S q (-1) 0 1 sExport _ F.m.tok hfew (by decide)).mono ?_
  rintro e w2 ⟨rfl, hb2⟩
  rw [h1]
  replace F := F.below hb2
  clear ab
  have ab := F.x0.boxC
  go_wp2_with fail
  refine (is_spec (Cx.mk ts fin false) gt cap base S q (-1) 0 1 sLet _ F.m.tok hfew (by decide)).mono ?_
  rintro e w3 ⟨rfl, hb3⟩
  rw [h2]
  replace F := F.below hb3
  clear ab
  have ab := F.x0.boxC
  go_wp2_with fail
  refine (is_spec (Cx.mk ts fin false) gt cap base S q (-1) 0 1 sFunction _ F.m.tok hfew (by decide)).mono ?_
  rintro e w4 ⟨rfl, hb4⟩
  rw [h3]
  replace F := F.below hb4
  clear ab
  have ab := F.x0.boxC
  go_wp2_with fail
  refine (is_spec (Cx.mk ts fin false) gt cap base S q (-1) 0 1 sPrint _ F.m.tok hfew (by decide)).mono ?_
  rintro e w5 ⟨rfl, hb5⟩
  rw [h4]
  replace F := F.below hb5
  clear ab
  have ab := F.x0.boxC
  go_wp2_with fail
  refine (is_spec (Cx.mk ts fin false) gt cap base S q (-1) 0 1 sThrow _ F.m.tok hfew (by decide)).mono ?_
  rintro e w6 ⟨rfl, hb6⟩
  rw [h5]
  replace F := F.below hb6
  clear ab
  have ab := F.x0.boxC
  go_wp2_with fail
  refine (l4Name_spec (Cx.mk ts fin false) gt cap base (.ok q) S q (-1) 0 false _ (is_ok q) F.m).mono ?_
  rintro e w7 ⟨S7, q7, z7, n7, rfl, hi7, m7, s7⟩
  replace F := F.stp m7 s7
  clear ab
  have hlt2 : w.heap.size + 1 < w7.heap.size := F.x1.lt
  unfold pv
  go_upto_region 19 with fail
  refine (F.new2 _).cut ?_
  intro w8 F
  have cb := F.x2.boxC
  go_wp2_with fail
  refine (l4Sign_spec (Cx.mk ts fin false) gt cap base _ S7 q7 z7 0 cEq _ hi7.out.fst F.m).mono ?_
  rintro e w9 ⟨S9, q9, z9, rfl, hi9, m9, s9⟩
  replace F := F.stp m9 s9
  clear cb
  go_wp2_with fail
  refine (l4Sum_spec (Cx.mk ts fin false) gt cap base _ S9 q9 z9 _ hi9.out F.m).mono ?_
  rintro e w10 ⟨S10, q10, z10, rfl, hi10, m10, s10⟩
  replace F := F.stp m10 s10
  go_wp2_with fail
  refine (l4Sign_spec (Cx.mk ts fin false) gt cap base _ S10 q10 z10 0 cSemi _ hi10.out F.m).mono ?_
  rintro e w11 ⟨S11, q11, z11, rfl, hi11, m11, s11⟩
  replace F := F.stp m11 s11
  go_wp2_with fail
  refine (l4Stmt_spec (Cx.mk ts fin false) gt cap base _ S11 q11 z11 0 3 n7 _ hi11.out F.m (pos_tok hi11.out)).mono ?_
  rintro e w12 ⟨S12, q12, z12, rfl, hi12, m12, s12⟩
  replace F := F.stp m12 s12
  have bb := F.x1.boxC
  unfold pv
  go_wp2
  refine (F.x1.put _ _ _ _ _ _ _ _ _ _ _ _).ret rfl rfl ?_
  rw [HV.out, ← hi7.out.bind (fun q n => bd (bd (bd (bd (.ok q) (tokP (Cx.mk ts fin false) 4 cEq)) (pE (Cx.mk ts fin false) .sum 0)) (tokP (Cx.mk ts fin false) 4 cSemi)) (addSt (Cx.mk ts fin false) 3 n)), ← set_bind]
  exact (F.put1 _ _ _ _ _ _ _ _ _ _ _ _).done rfl hi12.out
theorem l4Item_false (ts : List Tk) (fin : Nat) (gt cap base : Nat) (S : Sv) (q : PS) (w : World) (hm : Mem (Cx.mk ts fin false) gt cap base S q w) :
    Calls Try.prog 109 #[pv (Cx.mk ts fin false) gt cap S q (-1) 0] w (Out (Cx.mk ts fin false) gt cap base (itemP (Cx.mk ts fin false) q) 0 S w) := by
  cases h0 : isT (Cx.mk ts fin false) q.pos 1 sImport with
  | true => exact l4Item_simport_false ts fin gt cap base S q w hm h0
  | false =>
    cases h1 : isT (Cx.mk ts fin false) q.pos 1 sExport with
    | true => exact l4Item_sexport_false ts fin gt cap base S q w hm h0 h1
    | false =>
      cases h2 : isT (Cx.mk ts fin false) q.pos 1 sLet with
      | true => exact l4Item_slet_false ts fin gt cap base S q w hm h0 h1 h2
      | false =>
        cases h3 : isT (Cx.mk ts fin false) q.pos 1 sFunction with
        | true => exact l4Item_sfunction_false ts fin gt cap base S q w hm h0 h1 h2 h3
        | false =>
          cases h4 : isT (Cx.mk ts fin false) q.pos 1 sPrint with
          | true => exact l4Item_sprint_false ts fin gt cap base S q w hm h0 h1 h2 h3 h4
          | false =>
            cases h5 : isT (Cx.mk ts fin false) q.pos 1 sThrow with
            | true => exact l4Item_sthrow_false ts fin gt cap base S q w hm h0 h1 h2 h3 h4 h5
            | false =>
              exact l4Item_set_false ts fin gt cap base S q w hm h0 h1 h2 h3 h4 h5
theorem l4Item_spec (C : Cx) (gt cap base : Nat) (S : Sv) (q : PS) (w : World) (hm : Mem C gt cap base S q w) :
    Calls Try.prog 109 #[pv C gt cap S q (-1) 0] w (Out C gt cap base (itemP C q) 0 S w) := by
  obtain ⟨ts, fin, scr⟩ := C
  cases scr with
  | true => exact l4Item_true ts fin gt cap base S q w hm
  | false => exact l4Item_false ts fin gt cap base S q w hm
end Go.Proofs.Ytdbpknmoacjodaa
