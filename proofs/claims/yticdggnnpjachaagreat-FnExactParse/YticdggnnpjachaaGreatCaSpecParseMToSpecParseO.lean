/-
  What spec's l4Import answers: the walks.
  What spec's l4Export answers: the walks.
  What spec's l4Export answers to a list of names: the walks.
-/
import Derived.Test.YticdggnnpjachaaGreatCaSpecParseJToSpecParseK
namespace Go.Proofs.YticdggnnpjachaaGreat
open Go.RowKit Go.PlainAid

theorem word_yes {C : Cx} {k : Int} {s : ByteArray} {q q1 : PS} {z1 : Int} (h : Is (bd (.ok q) (tokP C k s)) q1 z1) (hw : isT C q.pos k s = true) : q1 = adv q ∧ z1 = -1 := by
  rw [bd_ok, tokP, if_pos hw] at h
  exact h
theorem addAll_error {α : Type} (f : α → PS → PR) (l : List α) (e : Nat) : addAll f l (.error e) = .error e := by
  induction l with
  | nil => rfl
  | cons a l ih => exact ih
theorem addAll_drop {α : Type} (f : α → PS → PR) (l : List α) (x : PR) {k : Nat} (hk : k < l.length) : addAll f (l.drop k) x = addAll f (l.drop (k + 1)) (bd x (f (l[k]))) := by
  rw [List.drop_eq_getElem_cons hk]
  rfl
theorem imp_bind {C : Cx} {ya : PRN} {qa qb : PS} {za zb : Int} {na nb : ByteArray} {G : ByteArray → ByteArray → PS → PR} (ha : Is2 ya qa za na) (hb : Is2 (bd (bd (fstP ya) (tokP C 1 sFrom)) (specP C)) qb zb nb) :
    bd (bd (fstP (bd (bd (fstP ya) (tokP C 1 sFrom)) (specP C))) (tokP C 4 cSemi)) (G nb na) = bd ya fun a => bd (semiN C (tailS C (.ok a.1))) fun b => G b.2 a.2 b.1 := by
  cases ya with
  | error e => rfl
  | ok a =>
    obtain ⟨_, _, rfl⟩ := ha
    have e1 : bd (bd (fstP (.ok a)) (tokP C 1 sFrom)) (specP C) = tailS C (.ok a.1) := rfl
    rw [e1] at hb ⊢
    rw [bd_ok]
    cases hY : tailS C (.ok a.1) with
    | error e => rfl
    | ok b =>
      rw [hY] at hb
      obtain ⟨_, _, rfl⟩ := hb
      show bd (tokP C 4 cSemi b.1) (G b.2 a.2) = bd (bd (tokP C 4 cSemi b.1) fun q => .ok (q, b.2)) fun b => G b.2 a.2 b.1
      rw [bd_bd]
      rfl
def fstL (y : PRL) : PR := bd y fun a => .ok a.1
theorem Is3.fst {y : PRL} {q : PS} {z : Int} {l : List Ep} (h : Is3 y q z l) : Is (fstL y) q z := by
  cases y with
  | ok a => exact ⟨h.1, h.2.1⟩
  | error e => exact h
theorem list_bind {C : Cx} {y : PRL} {qa qb : PS} {za zb : Int} {l : List Ep} {nb : ByteArray} {G : ByteArray → Ep → PS → PR} (ha : Is3 y qa za l) (hb : Is2 (bd (bd (fstL y) (tokP C 1 sFrom)) (specP C)) qb zb nb) :
    addAll (G nb) l (bd (fstP (bd (bd (fstL y) (tokP C 1 sFrom)) (specP C))) (tokP C 4 cSemi)) = bd y fun a => bd (semiN C (tailS C (.ok a.1))) fun b => addAll (G b.2) a.2 (.ok b.1) := by
  cases y with
  | error e => exact addAll_error _ _ _
  | ok a =>
    obtain ⟨_, _, rfl⟩ := ha
    have e1 : bd (bd (fstL (.ok a)) (tokP C 1 sFrom)) (specP C) = tailS C (.ok a.1) := rfl
    rw [e1] at hb ⊢
    rw [bd_ok]
    cases hY : tailS C (.ok a.1) with
    | error e => exact addAll_error _ _ _
    | ok b =>
      rw [hY] at hb
      obtain ⟨_, _, rfl⟩ := hb
      show addAll (G b.2) a.2 (bd (fstP (.ok b)) (tokP C 4 cSemi)) = bd (bd (tokP C 4 cSemi b.1) fun q => .ok (q, b.2)) fun b => addAll (G b.2) a.2 (.ok b.1)
      have e2 : bd (fstP (.ok b)) (tokP C 4 cSemi) = tokP C 4 cSemi b.1 := rfl
      rw [e2, bd_bd]
      cases tokP C 4 cSemi b.1 with
      | error e => exact addAll_error _ _ _
      | ok c => rfl
theorem Mem.drew {C : Cx} {gt cap base : Nat} {S : Sv} {q : PS} {w : World} (h : Mem C gt cap base S q w) : Mem C gt cap base S q w.drew := ⟨⟨h.own.rq, h.own.im, h.own.ep, h.own.st, h.own.ex, h.own.la, h.own.apart⟩, h.inv, h.tok, h.few, h.base⟩
theorem Stp.undrew {S S' : Sv} {w w' : World} (h : Stp S w.drew S' w') : Stp S w S' w' := ⟨h.os, h.tape, h.output, h.size, h.block, h.sub⟩
theorem Row.cells {S : Sv} {w : World} {base B g : Nat} {r : Rw} {l : List Ep} (h : Row S w base B r l) (hg : r.a = some ⟨g, 0, none⟩) {j : Nat} (hj : j < l.length) :
    w.cell? ⟨g, j * 4 + 1, none⟩ = some (.string (l[j]).name) ∧ w.cell? ⟨g, j * 4 + 2, none⟩ = some (.string (l[j]).loc) := by
  have ho := h.own
  unfold OwnR at ho
  rw [hg] at ho
  have key : ∀ (l : List Ep) (i c : Nat) (hc : c < 4) (hi : i < l.length), (l.flatMap epL)[i * 4 + c]? = (epL l[i])[c]? := by
    intro l
    induction l with
    | nil => intro i c _ hi; simp at hi
    | cons x l ih =>
      intro i c hc hi
      match i with
      | 0 =>
        simp only [List.flatMap_cons, Nat.zero_mul, Nat.zero_add, List.getElem_cons_zero]
        rw [List.getElem?_append_left (by simp [epL]; omega)]
      | i + 1 =>
        simp only [List.flatMap_cons, List.getElem_cons_succ]
        rw [List.getElem?_append_right (by simp [epL]; omega)]
        have e : (i + 1) * 4 + c - (epL x).length = i * 4 + c := by simp [epL]; omega
        rw [e]
        exact ih i c hc (by simpa using hi)
  rw [ho.cellAt _ (by omega), ho.cellAt _ (by omega)]
  exact ⟨key l j 1 (by omega) hj, key l j 2 (by omega) hj⟩
theorem addIm_pos {C : Cx} {y : Im} {x : PR} {q q' : PS} {z z' : Int} (hp : z < 0 → 1 ≤ q.pos) (hi : Is x q z) (h : Is (bd x (addIm C y)) q' z') : z' < 0 → 1 ≤ q'.pos := by
  intro hz
  obtain ⟨e, _⟩ := is_neg h hz
  obtain ⟨a, e1, e2⟩ := bd_eq_ok e
  subst e1
  obtain ⟨rfl, rfl⟩ := hi
  unfold addIm at e2
  split at e2
  · cases e2
  · cases e2
    exact hp (by decide)
theorem addEp_pos {C : Cx} {y : Ep} {x : PR} {q q' : PS} {z z' : Int} (hp : z < 0 → 1 ≤ q.pos) (hi : Is x q z) (h : Is (bd x (addEp C y)) q' z') : z' < 0 → 1 ≤ q'.pos := by
  intro hz
  obtain ⟨e, _⟩ := is_neg h hz
  obtain ⟨a, e1, e2⟩ := bd_eq_ok e
  subst e1
  obtain ⟨rfl, rfl⟩ := hi
  unfold addEp at e2
  split at e2
  · cases e2
  · split at e2
    · cases e2
      exact hp (by decide)
    · cases e2
      exact hp (by decide)

set_option maxRecDepth 100000 in
set_option maxHeartbeats 6400000 in
theorem l4Import_star (C : Cx) (gt cap base : Nat) (S : Sv) (q : PS) (w : World) (hm : Mem C gt cap base S q w) (hw : isT C q.pos 1 sImport = true) (h1 : isT C (q.pos + 1) 4 cLeft = false) (h2 : isT C (q.pos + 1) 4 cStar = true) :
    Calls Tryz.prog 70 #[pv C gt cap S q (-1) 0] w (Out C gt cap base (importP C q) 0 S w) := by
  have HM := hidI hm
  have hfew := hm.few
  clear hm
  have HV : Hid (importP C q = bd (bd (bd (bd (.ok (adv q)) (tokP C 4 cStar)) (tokP C 1 sAs)) (nameP C false)) fun a => bd (semiN C (tailS C (.ok a.1))) fun b => addIm C ⟨b.2, cStar, a.2⟩ b.1) := by
    show _ = _
    rw [importP, tokP, if_pos hw, bd_ok]
    rw [adv_pos, h1, h2]
    rfl
  unfold pv
  go_enter Tryz.func70, Tryz.ntmps70
  go_wp2_with fail
  refine (l4Word_spec C gt cap base (.ok q) S q (-1) 0 sImport _ (is_ok q) ((HM.out.alloc _).alloc _)).mono ?_
  rintro e w1 ⟨S1, q1, z1, rfl, i1, m1, s1⟩
  obtain ⟨X0, X1, t1⟩ := HM.out.two2 s1
  have hX0 := hidI X0
  have hX1 := hidI X1
  have hm1 := hidI m1
  have ht1 := hidI t1
  have hi1 := hidI i1
  clear X0 X1 i1 m1 t1 s1
  obtain ⟨hq1, rfl⟩ := word_yes hi1.out hw
  have HQ := hidI hq1
  have HQP : Hid (q1.pos = q.pos + 1) := by show q1.pos = q.pos + 1; rw [hq1]; rfl
  clear hq1 hi1
  obtain ⟨a0, a1, a2, a3, a4, a5, a6, a7, a8, a9, a10, a11, af⟩ := hX0.out.box
  unfold pv
  go_upto_region 2 with fail
  refine world_any (R := fun W => Bx gt S1 W (w.heap.size) _ ∧ Bx gt S1 W (w.heap.size + 1) _ ∧ Mem C gt cap base S1 q1 W ∧ SB w.heap.size S w S1 W) ⟨(hX0.out.put _ _ _ _ _ _ _ _ _ _ _ _), (hX1.out.other (by omega) _ _ _ _ _ _ _ _ _ _ _ _), (hm1.out.put hX0.out _ _ _ _ _ _ _ _ _ _ _ _), (ht1.out.put (by omega) _ _ _ _ _ _ _ _ _ _ _ _)⟩ ?_
  clear a0 a1 a2 a3 a4 a5 a6 a7 a8 a9 a10 a11 af
  clear hX0 hX1 ht1 hm1
  rintro w2 ⟨X0, X1, m2, t2⟩
  have hX0 := hidI X0
  have hX1 := hidI X1
  have hm2 := hidI m2
  have ht2 := hidI t2
  clear m2 t2 X0 X1
  obtain ⟨a0, a1, a2, a3, a4, a5, a6, a7, a8, a9, a10, a11, af⟩ := hX0.out.box
  go_wp2_with fail
  refine (is_spec C gt cap base S1 q1 (-1) 0 4 cLeft _ hm2.out.tok hfew (by decide)).mono ?_
  rintro e w3 ⟨rfl, hb3⟩
  rw [HQP.out, h1]
  replace hX0 := hidI (hX0.out.below hb3)
  replace hX1 := hidI (hX1.out.below hb3)
  have ht3 := hidI (ht2.out.below hb3)
  have hm3 := hidI (hm2.out.later hb3)
  clear hb3 ht2 hm2
  clear a0 a1 a2 a3 a4 a5 a6 a7 a8 a9 a10 a11 af
  obtain ⟨a0, a1, a2, a3, a4, a5, a6, a7, a8, a9, a10, a11, af⟩ := hX0.out.box
  go_wp2_with fail
  refine (is_spec C gt cap base S1 q1 (-1) 0 4 cStar _ hm3.out.tok hfew (by decide)).mono ?_
  rintro e w4 ⟨rfl, hb4⟩
  rw [HQP.out, h2]
  replace hX0 := hidI (hX0.out.below hb4)
  replace hX1 := hidI (hX1.out.below hb4)
  have ht4 := hidI (ht3.out.below hb4)
  have hm4 := hidI (hm3.out.later hb4)
  clear hb4 ht3 hm3
  clear a0 a1 a2 a3 a4 a5 a6 a7 a8 a9 a10 a11 af
  obtain ⟨a0, a1, a2, a3, a4, a5, a6, a7, a8, a9, a10, a11, af⟩ := hX0.out.box
  clear HQP
  go_wp2_with fail
  refine (l4Sign_spec C gt cap base (.ok q1) S1 q1 (-1) 0 cStar _ (is_ok q1) hm4.out).mono ?_
  rintro e w5 ⟨S5, q5, z5, rfl, i5, m5, s5⟩
  replace hX0 := hidI (hX0.out.stp s5)
  replace hX1 := hidI (hX1.out.stp s5)
  have ht5 := hidI (ht4.out.step s5)
  clear ht4
  have hm5 := hidI m5
  have hi5 := hidI i5
  clear i5 m5 s5 hm4
  clear a0 a1 a2 a3 a4 a5 a6 a7 a8 a9 a10 a11 af
  go_wp2_with fail
  refine (l4Word_spec C gt cap base _ S5 q5 z5 0 sAs _ hi5.out hm5.out).mono ?_
  rintro e w6 ⟨S6, q6, z6, rfl, i6, m6, s6⟩
  replace hX0 := hidI (hX0.out.stp s6)
  replace hX1 := hidI (hX1.out.stp s6)
  have ht6 := hidI (ht5.out.step s6)
  clear ht5
  have hm6 := hidI m6
  have hi6 := hidI i6
  clear i6 m6 s6 hm5
  go_wp2_with fail
  refine (l4Name_spec C gt cap base _ S6 q6 z6 0 false _ hi6.out hm6.out).mono ?_
  rintro e w7 ⟨S7, q7, z7, n7, rfl, i7, m7, s7⟩
  replace hX0 := hidI (hX0.out.stp s7)
  replace hX1 := hidI (hX1.out.stp s7)
  have ht7 := hidI (ht6.out.step s7)
  clear ht6
  have hm7 := hidI m7
  have hi7 := hidI i7
  clear i7 m7 s7 hm6
  have hlt2 : w.heap.size + 1 < w7.heap.size := hX1.out.lt
  unfold pv
  go_upto_region 13 with fail
  refine world_any (R := fun W => Bx gt S7 W (w.heap.size) _ ∧ Bx gt S7 W (w.heap.size + 1) _ ∧ Bx gt S7 W (w7.heap.size) _ ∧ Mem C gt cap base S7 q7 W ∧ SB w.heap.size S w S7 W) ⟨(hX0.out.alloc _), (hX1.out.alloc _), (Bx.new hm7.out _), (hm7.out.alloc _), (ht7.out.alloc _)⟩ ?_
  clear hX0 hX1 ht7 hm7
  rintro w8 ⟨X0, X1, X2, m8, t8⟩
  have hX0 := hidI X0
  have hX1 := hidI X1
  have hX2 := hidI X2
  have hm8 := hidI m8
  have ht8 := hidI t8
  clear m8 t8 X0 X1 X2
  obtain ⟨c0, c1, c2, c3, c4, c5, c6, c7, c8, c9, c10, c11, cf⟩ := hX2.out.box
  go_wp2_with fail
  refine (l4Word_spec C gt cap base _ S7 q7 z7 0 sFrom _ hi7.out.fst hm8.out).mono ?_
  rintro e w9 ⟨S9, q9, z9, rfl, i9, m9, s9⟩
  replace hX0 := hidI (hX0.out.stp s9)
  replace hX1 := hidI (hX1.out.stp s9)
  replace hX2 := hidI (hX2.out.stp s9)
  have ht9 := hidI (ht8.out.step s9)
  clear ht8
  have hm9 := hidI m9
  have hi9 := hidI i9
  clear i9 m9 s9 hm8
  clear c0 c1 c2 c3 c4 c5 c6 c7 c8 c9 c10 c11 cf
  go_wp2_with fail
  refine (l4Spec_spec C gt cap base _ S9 q9 z9 0 _ hi9.out hm9.out).mono ?_
  rintro e w10 ⟨S10, q10, z10, n10, rfl, i10, m10, s10⟩
  replace hX0 := hidI (hX0.out.stp s10)
  replace hX1 := hidI (hX1.out.stp s10)
  replace hX2 := hidI (hX2.out.stp s10)
  have ht10 := hidI (ht9.out.step s10)
  clear ht9
  have hm10 := hidI m10
  have hi10 := hidI i10
  clear i10 m10 s10 hm9
  have hlt3 : w.heap.size + 1 < w10.heap.size := hX1.out.lt
  have hlt3_2 : w7.heap.size < w10.heap.size := hX2.out.lt
  unfold pv
  go_upto_region 14 with fail
  refine world_any (R := fun W => Bx gt S10 W (w.heap.size) _ ∧ Bx gt S10 W (w.heap.size + 1) _ ∧ Bx gt S10 W (w7.heap.size) _ ∧ Bx gt S10 W (w10.heap.size) _ ∧ Mem C gt cap base S10 q10 W ∧ SB w.heap.size S w S10 W) ⟨(hX0.out.alloc _), (hX1.out.alloc _), (hX2.out.alloc _), (Bx.new hm10.out _), (hm10.out.alloc _), (ht10.out.alloc _)⟩ ?_
  clear hX0 hX1 hX2 ht10 hm10
  rintro w11 ⟨X0, X1, X2, X3, m11, t11⟩
  have hX0 := hidI X0
  have hX1 := hidI X1
  have hX2 := hidI X2
  have hX3 := hidI X3
  have hm11 := hidI m11
  have ht11 := hidI t11
  clear m11 t11 X0 X1 X2 X3
  obtain ⟨d0, d1, d2, d3, d4, d5, d6, d7, d8, d9, d10, d11, df⟩ := hX3.out.box
  go_wp2_with fail
  refine (l4Sign_spec C gt cap base _ S10 q10 z10 0 cSemi _ hi10.out.fst hm11.out).mono ?_
  rintro e w12 ⟨S12, q12, z12, rfl, i12, m12, s12⟩
  replace hX0 := hidI (hX0.out.stp s12)
  replace hX1 := hidI (hX1.out.stp s12)
  replace hX2 := hidI (hX2.out.stp s12)
  replace hX3 := hidI (hX3.out.stp s12)
  have ht12 := hidI (ht11.out.step s12)
  clear ht11
  have hm12 := hidI m12
  have hi12 := hidI i12
  clear i12 m12 s12 hm11
  clear d0 d1 d2 d3 d4 d5 d6 d7 d8 d9 d10 d11 df
  go_wp2_with fail
  refine (l4Imp_spec C gt cap base _ S12 q12 z12 0 ⟨n10, cStar, n7⟩ _ hi12.out hm12.out (pos_tok hi12.out)).mono ?_
  rintro e w13 ⟨S13, q13, z13, rfl, i13, m13, s13⟩
  replace hX0 := hidI (hX0.out.stp s13)
  replace hX1 := hidI (hX1.out.stp s13)
  replace hX2 := hidI (hX2.out.stp s13)
  replace hX3 := hidI (hX3.out.stp s13)
  have ht13 := hidI (ht12.out.step s13)
  clear ht12
  have hm13 := hidI m13
  have hi13 := hidI i13
  clear i13 m13 s13 hm12
  obtain ⟨b0, b1, b2, b3, b4, b5, b6, b7, b8, b9, b10, b11, bf⟩ := hX1.out.box
  unfold pv
  go_wp2
  refine bodyPost_ret (results_cell_row rfl _ _ (w.heap.size + 1) 53 _ (0, 0) _ rfl ((hX1.out.put _ _ _ _ _ _ _ _ _ _ _ _)).heap Tryz.underlying53 rfl (by kernel_rfl)) rfl ?_
  rw [HV.out, ← HQ.out, ← imp_bind (G := fun b a => addIm C ⟨b, cStar, a⟩) hi7.out hi10.out]
  exact out_done rfl hi13.out (hm13.out.put hX1.out _ _ _ _ _ _ _ _ _ _ _ _) (ht13.out.put (by omega) _ _ _ _ _ _ _ _ _ _ _ _)
set_option maxRecDepth 100000 in
set_option maxHeartbeats 6400000 in
theorem l4Import_plain (C : Cx) (gt cap base : Nat) (S : Sv) (q : PS) (w : World) (hm : Mem C gt cap base S q w) (hw : isT C q.pos 1 sImport = true) (h1 : isT C (q.pos + 1) 4 cLeft = false) (h2 : isT C (q.pos + 1) 4 cStar = false) (h3 : plainB C (q.pos + 1) false = true) :
    Calls Tryz.prog 70 #[pv C gt cap S q (-1) 0] w (Out C gt cap base (importP C q) 0 S w) := by
  have HM := hidI hm
  have hfew := hm.few
  clear hm
  have HV : Hid (importP C q = bd (bd (.ok (adv q)) (nameP C false)) fun a => bd (semiN C (tailS C (.ok a.1))) fun b => addIm C ⟨b.2, sDefault, a.2⟩ b.1) := by
    show _ = _
    rw [importP, tokP, if_pos hw, bd_ok]
    rw [adv_pos, h1, h2, h3]
    rfl
  unfold pv
  go_enter Tryz.func70, Tryz.ntmps70
  go_wp2_with fail
  refine (l4Word_spec C gt cap base (.ok q) S q (-1) 0 sImport _ (is_ok q) ((HM.out.alloc _).alloc _)).mono ?_
  rintro e w1 ⟨S1, q1, z1, rfl, i1, m1, s1⟩
  obtain ⟨X0, X1, t1⟩ := HM.out.two2 s1
  have hX0 := hidI X0
  have hX1 := hidI X1
  have hm1 := hidI m1
  have ht1 := hidI t1
  have hi1 := hidI i1
  clear X0 X1 i1 m1 t1 s1
  obtain ⟨hq1, rfl⟩ := word_yes hi1.out hw
  have HQ := hidI hq1
  have HQP : Hid (q1.pos = q.pos + 1) := by show q1.pos = q.pos + 1; rw [hq1]; rfl
  clear hq1 hi1
  obtain ⟨a0, a1, a2, a3, a4, a5, a6, a7, a8, a9, a10, a11, af⟩ := hX0.out.box
  unfold pv
  go_upto_region 2 with fail
  refine world_any (R := fun W => Bx gt S1 W (w.heap.size) _ ∧ Bx gt S1 W (w.heap.size + 1) _ ∧ Mem C gt cap base S1 q1 W ∧ SB w.heap.size S w S1 W) ⟨(hX0.out.put _ _ _ _ _ _ _ _ _ _ _ _), (hX1.out.other (by omega) _ _ _ _ _ _ _ _ _ _ _ _), (hm1.out.put hX0.out _ _ _ _ _ _ _ _ _ _ _ _), (ht1.out.put (by omega) _ _ _ _ _ _ _ _ _ _ _ _)⟩ ?_
  clear a0 a1 a2 a3 a4 a5 a6 a7 a8 a9 a10 a11 af
  clear hX0 hX1 ht1 hm1
  rintro w2 ⟨X0, X1, m2, t2⟩
  have hX0 := hidI X0
  have hX1 := hidI X1
  have hm2 := hidI m2
  have ht2 := hidI t2
  clear m2 t2 X0 X1
  obtain ⟨a0, a1, a2, a3, a4, a5, a6, a7, a8, a9, a10, a11, af⟩ := hX0.out.box
  go_wp2_with fail
  refine (is_spec C gt cap base S1 q1 (-1) 0 4 cLeft _ hm2.out.tok hfew (by decide)).mono ?_
  rintro e w3 ⟨rfl, hb3⟩
  rw [HQP.out, h1]
  replace hX0 := hidI (hX0.out.below hb3)
  replace hX1 := hidI (hX1.out.below hb3)
  have ht3 := hidI (ht2.out.below hb3)
  have hm3 := hidI (hm2.out.later hb3)
  clear hb3 ht2 hm2
  clear a0 a1 a2 a3 a4 a5 a6 a7 a8 a9 a10 a11 af
  obtain ⟨a0, a1, a2, a3, a4, a5, a6, a7, a8, a9, a10, a11, af⟩ := hX0.out.box
  go_wp2_with fail
  refine (is_spec C gt cap base S1 q1 (-1) 0 4 cStar _ hm3.out.tok hfew (by decide)).mono ?_
  rintro e w4 ⟨rfl, hb4⟩
  rw [HQP.out, h2]
  replace hX0 := hidI (hX0.out.below hb4)
  replace hX1 := hidI (hX1.out.below hb4)
  have ht4 := hidI (ht3.out.below hb4)
  have hm4 := hidI (hm3.out.later hb4)
  clear hb4 ht3 hm3
  clear a0 a1 a2 a3 a4 a5 a6 a7 a8 a9 a10 a11 af
  obtain ⟨a0, a1, a2, a3, a4, a5, a6, a7, a8, a9, a10, a11, af⟩ := hX0.out.box
  go_wp2_with fail
  refine (l4Plain_spec C gt cap base S1 q1 (-1) 0 false _ hm4.out.tok hfew).mono ?_
  rintro e w5 ⟨rfl, hb5⟩
  rw [HQP.out, h3]
  replace hX0 := hidI (hX0.out.below hb5)
  replace hX1 := hidI (hX1.out.below hb5)
  have ht5 := hidI (ht4.out.below hb5)
  have hm5 := hidI (hm4.out.later hb5)
  clear hb5 ht4 hm4
  clear a0 a1 a2 a3 a4 a5 a6 a7 a8 a9 a10 a11 af
  obtain ⟨a0, a1, a2, a3, a4, a5, a6, a7, a8, a9, a10, a11, af⟩ := hX0.out.box
  clear HQP
  go_wp2_with fail
  refine (l4Name_spec C gt cap base (.ok q1) S1 q1 (-1) 0 false _ (is_ok q1) hm5.out).mono ?_
  rintro e w6 ⟨S6, q6, z6, n6, rfl, i6, m6, s6⟩
  replace hX0 := hidI (hX0.out.stp s6)
  replace hX1 := hidI (hX1.out.stp s6)
  have ht6 := hidI (ht5.out.step s6)
  clear ht5
  have hm6 := hidI m6
  have hi6 := hidI i6
  clear i6 m6 s6 hm5
  clear a0 a1 a2 a3 a4 a5 a6 a7 a8 a9 a10 a11 af
  have hlt2 : w.heap.size + 1 < w6.heap.size := hX1.out.lt
  unfold pv
  go_upto_region 17 with fail
  refine world_any (R := fun W => Bx gt S6 W (w.heap.size) _ ∧ Bx gt S6 W (w.heap.size + 1) _ ∧ Bx gt S6 W (w6.heap.size) _ ∧ Mem C gt cap base S6 q6 W ∧ SB w.heap.size S w S6 W) ⟨(hX0.out.alloc _), (hX1.out.alloc _), (Bx.new hm6.out _), (hm6.out.alloc _), (ht6.out.alloc _)⟩ ?_
  clear hX0 hX1 ht6 hm6
  rintro w7 ⟨X0, X1, X2, m7, t7⟩
  have hX0 := hidI X0
  have hX1 := hidI X1
  have hX2 := hidI X2
  have hm7 := hidI m7
  have ht7 := hidI t7
  clear m7 t7 X0 X1 X2
  obtain ⟨c0, c1, c2, c3, c4, c5, c6, c7, c8, c9, c10, c11, cf⟩ := hX2.out.box
  go_wp2_with fail
  refine (l4Word_spec C gt cap base _ S6 q6 z6 0 sFrom _ hi6.out.fst hm7.out).mono ?_
  rintro e w8 ⟨S8, q8, z8, rfl, i8, m8, s8⟩
  replace hX0 := hidI (hX0.out.stp s8)
  replace hX1 := hidI (hX1.out.stp s8)
  replace hX2 := hidI (hX2.out.stp s8)
  have ht8 := hidI (ht7.out.step s8)
  clear ht7
  have hm8 := hidI m8
  have hi8 := hidI i8
  clear i8 m8 s8 hm7
  clear c0 c1 c2 c3 c4 c5 c6 c7 c8 c9 c10 c11 cf
  go_wp2_with fail
  refine (l4Spec_spec C gt cap base _ S8 q8 z8 0 _ hi8.out hm8.out).mono ?_
  rintro e w9 ⟨S9, q9, z9, n9, rfl, i9, m9, s9⟩
  replace hX0 := hidI (hX0.out.stp s9)
  replace hX1 := hidI (hX1.out.stp s9)
  replace hX2 := hidI (hX2.out.stp s9)
  have ht9 := hidI (ht8.out.step s9)
  clear ht8
  have hm9 := hidI m9
  have hi9 := hidI i9
  clear i9 m9 s9 hm8
  have hlt3 : w.heap.size + 1 < w9.heap.size := hX1.out.lt
  have hlt3_2 : w6.heap.size < w9.heap.size := hX2.out.lt
  unfold pv
  go_upto_region 18 with fail
  refine world_any (R := fun W => Bx gt S9 W (w.heap.size) _ ∧ Bx gt S9 W (w.heap.size + 1) _ ∧ Bx gt S9 W (w6.heap.size) _ ∧ Bx gt S9 W (w9.heap.size) _ ∧ Mem C gt cap base S9 q9 W ∧ SB w.heap.size S w S9 W) ⟨(hX0.out.alloc _), (hX1.out.alloc _), (hX2.out.alloc _), (Bx.new hm9.out _), (hm9.out.alloc _), (ht9.out.alloc _)⟩ ?_
  clear hX0 hX1 hX2 ht9 hm9
  rintro w10 ⟨X0, X1, X2, X3, m10, t10⟩
  have hX0 := hidI X0
  have hX1 := hidI X1
  have hX2 := hidI X2
  have hX3 := hidI X3
  have hm10 := hidI m10
  have ht10 := hidI t10
  clear m10 t10 X0 X1 X2 X3
  obtain ⟨d0, d1, d2, d3, d4, d5, d6, d7, d8, d9, d10, d11, df⟩ := hX3.out.box
  go_wp2_with fail
  refine (l4Sign_spec C gt cap base _ S9 q9 z9 0 cSemi _ hi9.out.fst hm10.out).mono ?_
  rintro e w11 ⟨S11, q11, z11, rfl, i11, m11, s11⟩
  replace hX0 := hidI (hX0.out.stp s11)
  replace hX1 := hidI (hX1.out.stp s11)
  replace hX2 := hidI (hX2.out.stp s11)
  replace hX3 := hidI (hX3.out.stp s11)
  have ht11 := hidI (ht10.out.step s11)
  clear ht10
  have hm11 := hidI m11
  have hi11 := hidI i11
  clear i11 m11 s11 hm10
  clear d0 d1 d2 d3 d4 d5 d6 d7 d8 d9 d10 d11 df
  go_wp2_with fail
  refine (l4Imp_spec C gt cap base _ S11 q11 z11 0 ⟨n9, sDefault, n6⟩ _ hi11.out hm11.out (pos_tok hi11.out)).mono ?_
  rintro e w12 ⟨S12, q12, z12, rfl, i12, m12, s12⟩
  replace hX0 := hidI (hX0.out.stp s12)
  replace hX1 := hidI (hX1.out.stp s12)
  replace hX2 := hidI (hX2.out.stp s12)
  replace hX3 := hidI (hX3.out.stp s12)
  have ht12 := hidI (ht11.out.step s12)
  clear ht11
  have hm12 := hidI m12
  have hi12 := hidI i12
  clear i12 m12 s12 hm11
  obtain ⟨b0, b1, b2, b3, b4, b5, b6, b7, b8, b9, b10, b11, bf⟩ := hX1.out.box
  unfold pv
  go_wp2
  refine bodyPost_ret (results_cell_row rfl _ _ (w.heap.size + 1) 53 _ (0, 0) _ rfl ((hX1.out.put _ _ _ _ _ _ _ _ _ _ _ _)).heap Tryz.underlying53 rfl (by kernel_rfl)) rfl ?_
  rw [HV.out, ← HQ.out, ← imp_bind (G := fun b a => addIm C ⟨b, sDefault, a⟩) hi6.out hi9.out]
  exact out_done rfl hi12.out (hm12.out.put hX1.out _ _ _ _ _ _ _ _ _ _ _ _) (ht12.out.put (by omega) _ _ _ _ _ _ _ _ _ _ _ _)
set_option maxRecDepth 100000 in
set_option maxHeartbeats 6400000 in
theorem l4Import_bare (C : Cx) (gt cap base : Nat) (S : Sv) (q : PS) (w : World) (hm : Mem C gt cap base S q w) (hw : isT C q.pos 1 sImport = true) (h1 : isT C (q.pos + 1) 4 cLeft = false) (h2 : isT C (q.pos + 1) 4 cStar = false) (h3 : plainB C (q.pos + 1) false = false) :
    Calls Tryz.prog 70 #[pv C gt cap S q (-1) 0] w (Out C gt cap base (importP C q) 0 S w) := by
  have HM := hidI hm
  have hfew := hm.few
  clear hm
  have HV : Hid (importP C q = bd (bd (.ok (adv q)) (specP C)) fun a => tokP C 4 cSemi a.1) := by
    show _ = _
    rw [importP, tokP, if_pos hw, bd_ok]
    rw [adv_pos, h1, h2, h3]
    rfl
  unfold pv
  go_enter Tryz.func70, Tryz.ntmps70
  go_wp2_with fail
  refine (l4Word_spec C gt cap base (.ok q) S q (-1) 0 sImport _ (is_ok q) ((HM.out.alloc _).alloc _)).mono ?_
  rintro e w1 ⟨S1, q1, z1, rfl, i1, m1, s1⟩
  obtain ⟨X0, X1, t1⟩ := HM.out.two2 s1
  have hX0 := hidI X0
  have hX1 := hidI X1
  have hm1 := hidI m1
  have ht1 := hidI t1
  have hi1 := hidI i1
  clear X0 X1 i1 m1 t1 s1
  obtain ⟨hq1, rfl⟩ := word_yes hi1.out hw
  have HQ := hidI hq1
  have HQP : Hid (q1.pos = q.pos + 1) := by show q1.pos = q.pos + 1; rw [hq1]; rfl
  clear hq1 hi1
  obtain ⟨a0, a1, a2, a3, a4, a5, a6, a7, a8, a9, a10, a11, af⟩ := hX0.out.box
  unfold pv
  go_upto_region 2 with fail
  refine world_any (R := fun W => Bx gt S1 W (w.heap.size) _ ∧ Bx gt S1 W (w.heap.size + 1) _ ∧ Mem C gt cap base S1 q1 W ∧ SB w.heap.size S w S1 W) ⟨(hX0.out.put _ _ _ _ _ _ _ _ _ _ _ _), (hX1.out.other (by omega) _ _ _ _ _ _ _ _ _ _ _ _), (hm1.out.put hX0.out _ _ _ _ _ _ _ _ _ _ _ _), (ht1.out.put (by omega) _ _ _ _ _ _ _ _ _ _ _ _)⟩ ?_
  clear a0 a1 a2 a3 a4 a5 a6 a7 a8 a9 a10 a11 af
  clear hX0 hX1 ht1 hm1
  rintro w2 ⟨X0, X1, m2, t2⟩
  have hX0 := hidI X0
  have hX1 := hidI X1
  have hm2 := hidI m2
  have ht2 := hidI t2
  clear m2 t2 X0 X1
  obtain ⟨a0, a1, a2, a3, a4, a5, a6, a7, a8, a9, a10, a11, af⟩ := hX0.out.box
  go_wp2_with fail
  refine (is_spec C gt cap base S1 q1 (-1) 0 4 cLeft _ hm2.out.tok hfew (by decide)).mono ?_
  rintro e w3 ⟨rfl, hb3⟩
  rw [HQP.out, h1]
  replace hX0 := hidI (hX0.out.below hb3)
  replace hX1 := hidI (hX1.out.below hb3)
  have ht3 := hidI (ht2.out.below hb3)
  have hm3 := hidI (hm2.out.later hb3)
  clear hb3 ht2 hm2
  clear a0 a1 a2 a3 a4 a5 a6 a7 a8 a9 a10 a11 af
  obtain ⟨a0, a1, a2, a3, a4, a5, a6, a7, a8, a9, a10, a11, af⟩ := hX0.out.box
  go_wp2_with fail
  refine (is_spec C gt cap base S1 q1 (-1) 0 4 cStar _ hm3.out.tok hfew (by decide)).mono ?_
  rintro e w4 ⟨rfl, hb4⟩
  rw [HQP.out, h2]
  replace hX0 := hidI (hX0.out.below hb4)
  replace hX1 := hidI (hX1.out.below hb4)
  have ht4 := hidI (ht3.out.below hb4)
  have hm4 := hidI (hm3.out.later hb4)
  clear hb4 ht3 hm3
  clear a0 a1 a2 a3 a4 a5 a6 a7 a8 a9 a10 a11 af
  obtain ⟨a0, a1, a2, a3, a4, a5, a6, a7, a8, a9, a10, a11, af⟩ := hX0.out.box
  go_wp2_with fail
  refine (l4Plain_spec C gt cap base S1 q1 (-1) 0 false _ hm4.out.tok hfew).mono ?_
  rintro e w5 ⟨rfl, hb5⟩
  rw [HQP.out, h3]
  replace hX0 := hidI (hX0.out.below hb5)
  replace hX1 := hidI (hX1.out.below hb5)
  have ht5 := hidI (ht4.out.below hb5)
  have hm5 := hidI (hm4.out.later hb5)
  clear hb5 ht4 hm4
  clear a0 a1 a2 a3 a4 a5 a6 a7 a8 a9 a10 a11 af
  obtain ⟨a0, a1, a2, a3, a4, a5, a6, a7, a8, a9, a10, a11, af⟩ := hX0.out.box
  clear HQP
  go_wp2_with fail
  refine (l4Spec_spec C gt cap base (.ok q1) S1 q1 (-1) 0 _ (is_ok q1) hm5.out).mono ?_
  rintro e w6 ⟨S6, q6, z6, n6, rfl, i6, m6, s6⟩
  replace hX0 := hidI (hX0.out.stp s6)
  replace hX1 := hidI (hX1.out.stp s6)
  have ht6 := hidI (ht5.out.step s6)
  clear ht5
  have hm6 := hidI m6
  have hi6 := hidI i6
  clear i6 m6 s6 hm5
  clear a0 a1 a2 a3 a4 a5 a6 a7 a8 a9 a10 a11 af
  have hlt2 : w.heap.size + 1 < w6.heap.size := hX1.out.lt
  unfold pv
  go_upto_region 20 with fail
  refine world_any (R := fun W => Bx gt S6 W (w.heap.size) _ ∧ Bx gt S6 W (w.heap.size + 1) _ ∧ Bx gt S6 W (w6.heap.size) _ ∧ Mem C gt cap base S6 q6 W ∧ SB w.heap.size S w S6 W) ⟨(hX0.out.alloc _), (hX1.out.alloc _), (Bx.new hm6.out _), (hm6.out.alloc _), (ht6.out.alloc _)⟩ ?_
  clear hX0 hX1 ht6 hm6
  rintro w7 ⟨X0, X1, X2, m7, t7⟩
  have hX0 := hidI X0
  have hX1 := hidI X1
  have hX2 := hidI X2
  have hm7 := hidI m7
  have ht7 := hidI t7
  clear m7 t7 X0 X1 X2
  obtain ⟨c0, c1, c2, c3, c4, c5, c6, c7, c8, c9, c10, c11, cf⟩ := hX2.out.box
  go_wp2_with fail
  refine (l4Sign_spec C gt cap base _ S6 q6 z6 0 cSemi _ hi6.out.fst hm7.out).mono ?_
  rintro e w8 ⟨S8, q8, z8, rfl, i8, m8, s8⟩
  replace hX0 := hidI (hX0.out.stp s8)
  replace hX1 := hidI (hX1.out.stp s8)
  replace hX2 := hidI (hX2.out.stp s8)
  have ht8 := hidI (ht7.out.step s8)
  clear ht7
  have hm8 := hidI m8
  have hi8 := hidI i8
  clear i8 m8 s8 hm7
  clear c0 c1 c2 c3 c4 c5 c6 c7 c8 c9 c10 c11 cf
  obtain ⟨b0, b1, b2, b3, b4, b5, b6, b7, b8, b9, b10, b11, bf⟩ := hX1.out.box
  unfold pv
  go_wp2
  refine bodyPost_ret (results_cell_row rfl _ _ (w.heap.size + 1) 53 _ (0, 0) _ rfl ((hX1.out.put _ _ _ _ _ _ _ _ _ _ _ _)).heap Tryz.underlying53 rfl (by kernel_rfl)) rfl ?_
  rw [HV.out, ← HQ.out, ← hi6.out.bind (fun q _ => tokP C 4 cSemi q)]
  exact out_done rfl hi8.out (hm8.out.put hX1.out _ _ _ _ _ _ _ _ _ _ _ _) (ht8.out.put (by omega) _ _ _ _ _ _ _ _ _ _ _ _)
set_option maxRecDepth 100000 in
set_option maxHeartbeats 6400000 in
theorem l4Import_list (C : Cx) (gt cap base : Nat) (S : Sv) (q : PS) (w : World) (hm : Mem C gt cap base S q w) (hw : isT C q.pos 1 sImport = true) (h1 : isT C (q.pos + 1) 4 cLeft = true) :
    Calls Tryz.prog 70 #[pv C gt cap S q (-1) 0] w (Out C gt cap base (importP C q) 0 S w) := by
  have HM := hidI hm
  have hfew := hm.few
  clear hm
  have HV : Hid (importP C q = bd (listP C false (adv q)) fun a => bd (semiN C (tailS C (.ok a.1))) fun b => addAll (fun e => addIm C (impOf b.2 e)) a.2 (.ok b.1)) := by
    show _ = _
    rw [importP, tokP, if_pos hw, bd_ok]
    rw [adv_pos, h1]
    rfl
  unfold pv
  go_enter Tryz.func70, Tryz.ntmps70
  go_wp2_with fail
  refine (l4Word_spec C gt cap base (.ok q) S q (-1) 0 sImport _ (is_ok q) ((HM.out.alloc _).alloc _)).mono ?_
  rintro e w1 ⟨S1, q1, z1, rfl, i1, m1, s1⟩
  obtain ⟨X0, X1, t1⟩ := HM.out.two2 s1
  have hX0 := hidI X0
  have hX1 := hidI X1
  have hm1 := hidI m1
  have ht1 := hidI t1
  have hi1 := hidI i1
  clear X0 X1 i1 m1 t1 s1
  obtain ⟨hq1, rfl⟩ := word_yes hi1.out hw
  have HQ := hidI hq1
  have HQP : Hid (q1.pos = q.pos + 1) := by show q1.pos = q.pos + 1; rw [hq1]; rfl
  clear hq1 hi1
  obtain ⟨a0, a1, a2, a3, a4, a5, a6, a7, a8, a9, a10, a11, af⟩ := hX0.out.box
  unfold pv
  go_upto_region 2 with fail
  refine world_any (R := fun W => Bx gt S1 W (w.heap.size) _ ∧ Bx gt S1 W (w.heap.size + 1) _ ∧ Mem C gt cap base S1 q1 W ∧ SB w.heap.size S w S1 W) ⟨(hX0.out.put _ _ _ _ _ _ _ _ _ _ _ _), (hX1.out.other (by omega) _ _ _ _ _ _ _ _ _ _ _ _), (hm1.out.put hX0.out _ _ _ _ _ _ _ _ _ _ _ _), (ht1.out.put (by omega) _ _ _ _ _ _ _ _ _ _ _ _)⟩ ?_
  clear a0 a1 a2 a3 a4 a5 a6 a7 a8 a9 a10 a11 af
  clear hX0 hX1 ht1 hm1
  rintro w2 ⟨X0, X1, m2, t2⟩
  have hX0 := hidI X0
  have hX1 := hidI X1
  have hm2 := hidI m2
  have ht2 := hidI t2
  clear m2 t2 X0 X1
  obtain ⟨a0, a1, a2, a3, a4, a5, a6, a7, a8, a9, a10, a11, af⟩ := hX0.out.box
  go_wp2_with fail
  refine (is_spec C gt cap base S1 q1 (-1) 0 4 cLeft _ hm2.out.tok hfew (by decide)).mono ?_
  rintro e w3 ⟨rfl, hb3⟩
  rw [HQP.out, h1]
  replace hX0 := hidI (hX0.out.below hb3)
  replace hX1 := hidI (hX1.out.below hb3)
  have ht3 := hidI (ht2.out.below hb3)
  have hm3 := hidI (hm2.out.later hb3)
  clear hb3 ht2 hm2
  clear a0 a1 a2 a3 a4 a5 a6 a7 a8 a9 a10 a11 af
  obtain ⟨a0, a1, a2, a3, a4, a5, a6, a7, a8, a9, a10, a11, af⟩ := hX0.out.box
  clear HQP
  have hsz := ht3.out.size
  go_wp2_with fail
  refine (l4List_spec C gt cap base S1 q1 0 false _ hm3.out).mono ?_
  rintro e w4 ⟨S4, q4, z4, ⟨ra, rc⟩, l, rfl, i4, m4, s4, R0, hl⟩
  obtain ⟨g, rfl⟩ : ∃ g, ra = some ⟨g, 0, none⟩ := R0.addr
  replace hX0 := hidI (hX0.out.stp s4)
  replace hX1 := hidI (hX1.out.stp s4)
  have ht4 := hidI (ht3.out.step s4)
  clear ht3
  have hm4 := hidI m4
  have hi4 := hidI i4
  clear i4 m4 s4 hm3
  clear a0 a1 a2 a3 a4 a5 a6 a7 a8 a9 a10 a11 af
  have hR : Hid (Row S4 w4 base w.heap.size ⟨some ⟨g, 0, none⟩, rc⟩ l) := ⟨R0.own, R0.free, fun k hk => Nat.le_trans hsz (R0.new k hk), R0.addr⟩
  clear R0
  have hlt2 : w.heap.size + 1 < w4.heap.size := hX1.out.lt
  unfold pv
  go_upto_region 4 with fail
  refine world_any (R := fun W => Bx gt S4 W (w.heap.size) _ ∧ Bx gt S4 W (w.heap.size + 1) _ ∧ Bx gt S4 W (w4.heap.size) _ ∧ Row S4 W base w.heap.size ⟨some ⟨g, 0, none⟩, rc⟩ l ∧ Mem C gt cap base S4 q4 W ∧ SB w.heap.size S w S4 W) ⟨(hX0.out.alloc _), (hX1.out.alloc _), (Bx.new hm4.out _), (hR.out.alloc _), (hm4.out.alloc _), (ht4.out.alloc _)⟩ ?_
  clear hX0 hX1 ht4 hm4
  clear hR
  rintro w5 ⟨X0, X1, X2, R0, m5, t5⟩
  have hR := hidI R0
  clear R0
  have hX0 := hidI X0
  have hX1 := hidI X1
  have hX2 := hidI X2
  have hm5 := hidI m5
  have ht5 := hidI t5
  clear m5 t5 X0 X1 X2
  obtain ⟨c0, c1, c2, c3, c4, c5, c6, c7, c8, c9, c10, c11, cf⟩ := hX2.out.box
  go_wp2_with fail
  refine (l4Word_spec C gt cap base _ S4 q4 z4 0 sFrom _ hi4.out.fst hm5.out).mono ?_
  rintro e w6 ⟨S6, q6, z6, rfl, i6, m6, s6⟩
  replace hX0 := hidI (hX0.out.stp s6)
  replace hX1 := hidI (hX1.out.stp s6)
  replace hX2 := hidI (hX2.out.stp s6)
  have ht6 := hidI (ht5.out.step s6)
  have hRn : Hid (Row S6 w6 base w.heap.size ⟨some ⟨g, 0, none⟩, rc⟩ l) := hR.out.stp s6
  clear hR
  have hR := hidI hRn
  clear hRn
  clear ht5
  have hm6 := hidI m6
  have hi6 := hidI i6
  clear i6 m6 s6 hm5
  clear c0 c1 c2 c3 c4 c5 c6 c7 c8 c9 c10 c11 cf
  go_wp2_with fail
  refine (l4Spec_spec C gt cap base _ S6 q6 z6 0 _ hi6.out hm6.out).mono ?_
  rintro e w7 ⟨S7, q7, z7, n7, rfl, i7, m7, s7⟩
  replace hX0 := hidI (hX0.out.stp s7)
  replace hX1 := hidI (hX1.out.stp s7)
  replace hX2 := hidI (hX2.out.stp s7)
  have ht7 := hidI (ht6.out.step s7)
  have hRn : Hid (Row S7 w7 base w.heap.size ⟨some ⟨g, 0, none⟩, rc⟩ l) := hR.out.stp s7
  clear hR
  have hR := hidI hRn
  clear hRn
  clear ht6
  have hm7 := hidI m7
  have hi7 := hidI i7
  clear i7 m7 s7 hm6
  have hlt3 : w.heap.size + 1 < w7.heap.size := hX1.out.lt
  have hlt3_2 : w4.heap.size < w7.heap.size := hX2.out.lt
  unfold pv
  go_upto_region 5 with fail
  refine world_any (R := fun W => Bx gt S7 W (w.heap.size) _ ∧ Bx gt S7 W (w.heap.size + 1) _ ∧ Bx gt S7 W (w4.heap.size) _ ∧ Bx gt S7 W (w7.heap.size) _ ∧ Row S7 W base w.heap.size ⟨some ⟨g, 0, none⟩, rc⟩ l ∧ Mem C gt cap base S7 q7 W ∧ SB w.heap.size S w S7 W) ⟨(hX0.out.alloc _), (hX1.out.alloc _), (hX2.out.alloc _), (Bx.new hm7.out _), (hR.out.alloc _), (hm7.out.alloc _), (ht7.out.alloc _)⟩ ?_
  clear hX0 hX1 hX2 ht7 hm7
  clear hR
  rintro w8 ⟨X0, X1, X2, X3, R0, m8, t8⟩
  have hR := hidI R0
  clear R0
  have hX0 := hidI X0
  have hX1 := hidI X1
  have hX2 := hidI X2
  have hX3 := hidI X3
  have hm8 := hidI m8
  have ht8 := hidI t8
  clear m8 t8 X0 X1 X2 X3
  obtain ⟨d0, d1, d2, d3, d4, d5, d6, d7, d8, d9, d10, d11, df⟩ := hX3.out.box
  go_wp2_with fail
  refine (l4Sign_spec C gt cap base _ S7 q7 z7 0 cSemi _ hi7.out.fst hm8.out).mono ?_
  rintro e w9 ⟨S9, q9, z9, rfl, i9, m9, s9⟩
  replace hX0 := hidI (hX0.out.stp s9)
  replace hX1 := hidI (hX1.out.stp s9)
  replace hX2 := hidI (hX2.out.stp s9)
  replace hX3 := hidI (hX3.out.stp s9)
  have ht9 := hidI (ht8.out.step s9)
  have hRn : Hid (Row S9 w9 base w.heap.size ⟨some ⟨g, 0, none⟩, rc⟩ l) := hR.out.stp s9
  clear hR
  have hR := hidI hRn
  clear hRn
  clear ht8
  have hm9 := hidI m9
  have hi9 := hidI i9
  clear i9 m9 s9 hm8
  clear d0 d1 d2 d3 d4 d5 d6 d7 d8 d9 d10 d11 df
  obtain ⟨a0, a1, a2, a3, a4, a5, a6, a7, a8, a9, a10, a11, af⟩ := hX0.out.box
  unfold pv
  go_upto_region 6 with fail
  refine world_any (R := fun W => Bx gt S9 W (w.heap.size) _ ∧ Bx gt S9 W (w.heap.size + 1) _ ∧ Bx gt S9 W (w4.heap.size) _ ∧ Bx gt S9 W (w7.heap.size) _ ∧ Row S9 W base w.heap.size ⟨some ⟨g, 0, none⟩, rc⟩ l ∧ Mem C gt cap base S9 q9 W ∧ SB w.heap.size S w S9 W) ⟨(hX0.out.put _ _ _ _ _ _ _ _ _ _ _ _), (hX1.out.other (by omega) _ _ _ _ _ _ _ _ _ _ _ _), (hX2.out.other (by omega) _ _ _ _ _ _ _ _ _ _ _ _), (hX3.out.other (by omega) _ _ _ _ _ _ _ _ _ _ _ _), (hR.out.put hX0.out _ _ _ _ _ _ _ _ _ _ _ _), (hm9.out.put hX0.out _ _ _ _ _ _ _ _ _ _ _ _), (ht9.out.put (by omega) _ _ _ _ _ _ _ _ _ _ _ _)⟩ ?_
  clear a0 a1 a2 a3 a4 a5 a6 a7 a8 a9 a10 a11 af
  clear hX0 hX1 hX2 hX3 ht9 hm9
  clear hR
  rintro w10 ⟨X0, X1, X2, X3, R0, m10, t10⟩
  have hR := hidI R0
  clear R0
  have hX0 := hidI X0
  have hX1 := hidI X1
  have hX2 := hidI X2
  have hX3 := hidI X3
  have hm10 := hidI m10
  have ht10 := hidI t10
  clear m10 t10 X0 X1 X2 X3
  have HEQ : Hid (_ = _) := list_bind (G := fun b e => addIm C (impOf b e)) hi4.out hi7.out
  go_wp2
  go_loopg [8] l.length (fun k i wr => ∃ (j : Nat) (x' : PR) (S' : Sv) (q' : PS) (z' : Int), j ≤ l.length ∧ i = .int .i64 j ∧ Is x' q' z' ∧ (z' < 0 → 1 ≤ q'.pos) ∧ addAll (fun e => addIm C (impOf n7 e)) (l.drop j) x' = importP C q ∧ l.length - j = k ∧ Mem C gt cap base S' q' wr ∧ SB w.heap.size S w S' wr ∧ Bx gt S' wr w.heap.size #[.slice (some ⟨gt, 0, none⟩) C.ts.length cap, .int .i64 q'.pos, .int .i64 C.fin, .bool C.scr, .slice S'.rq.a q'.rq.length S'.rq.cap, .slice S'.im.a q'.im.length S'.im.cap, .slice S'.ep.a q'.ep.length S'.ep.cap, .slice S'.st.a q'.st.length S'.st.cap, .slice S'.ex.a q'.ex.length S'.ex.cap, .slice S'.la.a q'.la.length S'.la.cap, .int .i64 z', .int .i64 0] ∧ Bx gt S' wr (w.heap.size + 1) #[.slice none 0 0, .int .i64 0, .int .i64 0, .bool false, .slice none 0 0, .slice none 0 0, .slice none 0 0, .slice none 0 0, .slice none 0 0, .slice none 0 0, .int .i64 0, .int .i64 0] ∧ Row S' wr base w.heap.size ⟨some ⟨g, 0, none⟩, rc⟩ l)
  case atStart => exact ⟨0, _, S9, q9, z9, Nat.zero_le _, rfl, hi9.out, pos_tok hi9.out, by rw [HV.out, ← HQ.out]; exact HEQ.out, rfl, hm10.out, ht10.out, hX0.out, hX1.out, hR.out⟩
  case round =>
    obtain ⟨j, x9, S9, q9, z9, hj, rfl, i9, p9, e9, g9, m9, t9, X0, X1, R0⟩ := hrel
    clear hX0 hX1 hX2 hX3 hR hm10 ht10
    have hX0 := hidI X0
    have hX1 := hidI X1
    have hm9 := hidI m9
    have ht9 := hidI t9
    have hi9 := hidI i9
    have hp9 := hidI p9
    have he9 := hidI e9
    have hg9 := hidI g9
    have hR := hidI R0
    clear X0 X1 i9 m9 t9 e9 g9 R0 p9
    by_cases hlt : j < l.length
    · skip
      obtain ⟨c1, c2⟩ := hR.out.cells (g := g) rfl hlt
      have hgl := hR.out.own.lt (g := g) rfl
      have HX : Hid (∀ e, e = l[j] → addAll (fun e => addIm C (impOf n7 e)) (l.drop (j + 1)) (bd x9 (addIm C (impOf n7 e))) = importP C q) := fun e he => by rw [he, ← he9.out]; exact (addAll_drop (fun e => addIm C (impOf n7 e)) l x9 hlt).symm
      generalize hel : l[j] = el at c1 c2
      have HEL : Hid (el = l[j]) := hel.symm
      clear hel
      obtain ⟨a0, a1, a2, a3, a4, a5, a6, a7, a8, a9, a10, a11, af⟩ := hX0.out.box
      go_upto_region 9 with fail
      go_region_law (first | (go_simp; go_wp2_with (go_at_call 132; refine (l4Imp_spec C gt cap base x9 S9 q9 z9 0 (impOf n7 el) _ hi9.out hm9.out.drew hp9.out).mono ?_; rintro e w10 ⟨S10, q10, z10, rfl, i10, m10, s10⟩; obtain ⟨d0, d1, d2, d3, d4, d5, d6, d7, d8, d9, d10, d11, df⟩ := (hX0.out.stp s10.undrew).box; unfold pv)))
      all_goals
        clear a0 a1 a2 a3 a4 a5 a6 a7 a8 a9 a10 a11 af d0 d1 d2 d3 d4 d5 d6 d7 d8 d9 d10 d11 df
        have hi10 := hidI i10
        have hm10 := hidI m10
        have hs10 : Hid (Stp S9 wr S10 w10) := s10.undrew
        clear i10 m10 s10
        go_wp2
        go_roundg (gk - 1)
        case rel => exact ⟨j + 1, _, S10, q10, z10, by omega, by go_num, hi10.out, addIm_pos hp9.out hi9.out hi10.out, HX.out el HEL.out, by have := hg9.out; omega, hm10.out.put (hX0.out.stp hs10.out) _ _ _ _ _ _ _ _ _ _ _ _, (ht9.out.step hs10.out).put (by omega) _ _ _ _ _ _ _ _ _ _ _ _, (hX0.out.stp hs10.out).put _ _ _ _ _ _ _ _ _ _ _ _, (hX1.out.stp hs10.out).other (by omega) _ _ _ _ _ _ _ _ _ _ _ _, (hR.out.stp hs10.out).put (hX0.out.stp hs10.out) _ _ _ _ _ _ _ _ _ _ _ _⟩
        case measure => have := hg9.out; omega
    · skip
      obtain ⟨a0, a1, a2, a3, a4, a5, a6, a7, a8, a9, a10, a11, af⟩ := hX0.out.box
      obtain ⟨b0, b1, b2, b3, b4, b5, b6, b7, b8, b9, b10, b11, bf⟩ := hX1.out.box
      go_wp2
      refine bodyPost_ret (results_cell_row rfl _ _ (w.heap.size + 1) 53 _ (0, 0) _ rfl ((hX1.out.put _ _ _ _ _ _ _ _ _ _ _ _)).heap Tryz.underlying53 rfl (by kernel_rfl)) rfl ?_
      exact out_done rfl (show Is (importP C q) q9 z9 from by rw [← he9.out, List.drop_eq_nil_of_le (by omega)]; exact hi9.out) (hm9.out.put hX1.out _ _ _ _ _ _ _ _ _ _ _ _) (ht9.out.put (by omega) _ _ _ _ _ _ _ _ _ _ _ _)
end Go.Proofs.YticdggnnpjachaaGreat
namespace Go.Proofs.YticdggnnpjachaaGreat
open Go.RowKit Go.PlainAid

theorem addSt_ok {C : Cx} {k : Int} {n : ByteArray} {q q' : PS} (h : addSt C k n q = .ok q') : q' = { q with st := q.st ++ [⟨k, n, (q.ex.length : Int) - 1⟩] } ∧ q.st.length < 80 := by
  unfold addSt at h
  split at h
  · cases h
  · cases h
    exact ⟨rfl, by omega⟩
theorem pos_st {C : Cx} {x : PR} {k : Int} {s : ByteArray} {j : Int} {n : ByteArray} {q : PS} {z : Int} (h : Is (bd (bd x (tokP C k s)) (addSt C j n)) q z) : z < 0 → 1 ≤ q.pos := by
  intro hz
  obtain ⟨e, _⟩ := is_neg h hz
  obtain ⟨a, h1, h2⟩ := bd_eq_ok e
  obtain ⟨b, _, h4⟩ := bd_eq_ok h1
  obtain ⟨rfl, _⟩ := tokP_ok h4
  obtain ⟨rfl, _⟩ := addSt_ok h2
  simp [adv]
theorem pos_withN {C : Cx} {y : PRN} {G : PR → PR} {k : Int} {s : ByteArray} {j : Int} {q : PS} {z : Int} {n : ByteArray} (h : Is2 (withN y fun x n => bd (bd (G x) (tokP C k s)) (addSt C j n)) q z n) : z < 0 → 1 ≤ q.pos := by
  intro hz
  cases y with
  | error e => have : z = (e : Int) := h; omega
  | ok a =>
    have h' : Is2 (bd (bd (bd (G (.ok a.1)) (tokP C k s)) (addSt C j a.2)) fun q => .ok (q, a.2)) q z n := h
    cases hr : bd (bd (G (.ok a.1)) (tokP C k s)) (addSt C j a.2) with
    | error e => rw [hr] at h'; have : z = (e : Int) := h'; omega
    | ok b =>
      rw [hr] at h'
      obtain ⟨rfl, rfl, _⟩ := h'
      exact pos_st (show Is (bd (bd (G (.ok a.1)) (tokP C k s)) (addSt C j a.2)) q (-1) by rw [hr]; exact ⟨rfl, rfl⟩) (by decide)
theorem pos_let {C : Cx} {q0 q : PS} {z : Int} {n : ByteArray} (h : Is2 (letP C q0) q z n) : z < 0 → 1 ≤ q.pos := pos_withN (G := fun x => bd (bd x (tokP C 4 cEq)) (pE C .sum 0)) h
theorem pos_fn {C : Cx} {q0 q : PS} {z : Int} {n : ByteArray} (h : Is2 (fnP C q0) q z n) : z < 0 → 1 ≤ q.pos := pos_withN (G := fun x => bd (bd (bd (bd (bd (bd x (tokP C 4 cOpen)) (tokP C 4 cShut)) (tokP C 4 cLeft)) (tokP C 1 sReturn)) (pE C .sum 0)) (tokP C 4 cSemi)) h
theorem star_bind {C : Cx} {x : PR} {qb : PS} {zb : Int} {nb : ByteArray} {G : ByteArray → PS → PR} (hb : Is2 (bd (bd x (tokP C 1 sFrom)) (specP C)) qb zb nb) :
    bd (bd (fstP (bd (bd x (tokP C 1 sFrom)) (specP C))) (tokP C 4 cSemi)) (G nb) = bd (semiN C (tailS C x)) fun b => G b.2 b.1 := by
  have e1 : bd (bd x (tokP C 1 sFrom)) (specP C) = tailS C x := rfl
  rw [e1] at hb ⊢
  cases hY : tailS C x with
  | error e => rfl
  | ok b =>
    rw [hY] at hb
    obtain ⟨_, _, rfl⟩ := hb
    show bd (tokP C 4 cSemi b.1) (G b.2) = bd (bd (tokP C 4 cSemi b.1) fun q => .ok (q, b.2)) fun b => G b.2 b.1
    rw [bd_bd]
    rfl
theorem local_bind {C : Cx} {y : PRL} {qa : PS} {za : Int} {l : List Ep} {f : Ep → PS → PR} {D : PS × List Ep → PR} (ha : Is3 y qa za l) (hA : anyB l = false) (hF : (decide (za < 0) && isT C qa.pos 1 sFrom) = false) :
    addAll f l (bd (fstL y) (tokP C 4 cSemi)) = bd y fun a => if !anyB a.2 && !isT C a.1.pos 1 sFrom then bd (tokP C 4 cSemi a.1) fun q => addAll f a.2 (.ok q) else D a := by
  cases y with
  | error e => exact addAll_error _ _ _
  | ok a =>
    obtain ⟨rfl, rfl, rfl⟩ := ha
    rw [Bool.and_eq_false_iff] at hF
    rw [bd_ok, hA, hF.resolve_left (by decide)]
    show addAll f a.2 (tokP C 4 cSemi a.1) = bd (tokP C 4 cSemi a.1) fun q => addAll f a.2 (.ok q)
    cases tokP C 4 cSemi a.1 with
    | error e => exact addAll_error _ _ _
    | ok c => rfl
theorem from_bind {C : Cx} {y : PRL} {qa : PS} {za : Int} {l : List Ep} {D E : PS × List Ep → PR} (ha : Is3 y qa za l) (hAF : anyB l = true ∨ (decide (za < 0) && isT C qa.pos 1 sFrom) = true) :
    bd y D = bd y fun a => if !anyB a.2 && !isT C a.1.pos 1 sFrom then E a else D a := by
  cases y with
  | error e => rfl
  | ok a =>
    obtain ⟨rfl, rfl, rfl⟩ := ha
    rw [bd_ok, bd_ok]
    rcases hAF with h | h
    · rw [h]; rfl
    · rw [Bool.and_eq_true] at h
      rw [h.2, Bool.not_true, Bool.and_false]
      rfl

set_option maxRecDepth 100000 in
set_option maxHeartbeats 6400000 in
theorem l4Export_star (C : Cx) (gt cap base : Nat) (S : Sv) (q : PS) (w : World) (hm : Mem C gt cap base S q w) (hw : isT C q.pos 1 sExport = true) (h1 : isT C (q.pos + 1) 4 cLeft = false) (h2 : isT C (q.pos + 1) 4 cStar = true) :
    Calls Tryz.prog 71 #[pv C gt cap S q (-1) 0] w (Out C gt cap base (exportP C q) 0 S w) := by
  have HM := hidI hm
  have hfew := hm.few
  clear hm
  have HV : Hid (exportP C q = bd (semiN C (tailS C (bd (.ok (adv q)) (tokP C 4 cStar)))) fun b => addEp C ⟨3, sNone, sNone, b.2⟩ b.1) := by
    show _ = _
    rw [exportP, tokP, if_pos hw, bd_ok]
    rw [adv_pos, h1, h2]
    rfl
  unfold pv
  go_enter Tryz.func71, Tryz.ntmps71
  go_wp2_with fail
  refine (l4Word_spec C gt cap base (.ok q) S q (-1) 0 sExport _ (is_ok q) ((HM.out.alloc _).alloc _)).mono ?_
  rintro e w1 ⟨S1, q1, z1, rfl, i1, m1, s1⟩
  obtain ⟨X0, X1, t1⟩ := HM.out.two2 s1
  have hX0 := hidI X0
  have hX1 := hidI X1
  have hm1 := hidI m1
  have ht1 := hidI t1
  have hi1 := hidI i1
  clear X0 X1 i1 m1 t1 s1
  obtain ⟨hq1, rfl⟩ := word_yes hi1.out hw
  have HQ := hidI hq1
  have HQP : Hid (q1.pos = q.pos + 1) := by show q1.pos = q.pos + 1; rw [hq1]; rfl
  clear hq1 hi1
  obtain ⟨a0, a1, a2, a3, a4, a5, a6, a7, a8, a9, a10, a11, af⟩ := hX0.out.box
  unfold pv
  go_upto_region 2 with fail
  refine world_any (R := fun W => Bx gt S1 W (w.heap.size) _ ∧ Bx gt S1 W (w.heap.size + 1) _ ∧ Mem C gt cap base S1 q1 W ∧ SB w.heap.size S w S1 W) ⟨(hX0.out.put _ _ _ _ _ _ _ _ _ _ _ _), (hX1.out.other (by omega) _ _ _ _ _ _ _ _ _ _ _ _), (hm1.out.put hX0.out _ _ _ _ _ _ _ _ _ _ _ _), (ht1.out.put (by omega) _ _ _ _ _ _ _ _ _ _ _ _)⟩ ?_
  clear a0 a1 a2 a3 a4 a5 a6 a7 a8 a9 a10 a11 af
  clear hX0 hX1 ht1 hm1
  rintro w2 ⟨X0, X1, m2, t2⟩
  have hX0 := hidI X0
  have hX1 := hidI X1
  have hm2 := hidI m2
  have ht2 := hidI t2
  clear m2 t2 X0 X1
  obtain ⟨a0, a1, a2, a3, a4, a5, a6, a7, a8, a9, a10, a11, af⟩ := hX0.out.box
  go_wp2_with fail
  refine (is_spec C gt cap base S1 q1 (-1) 0 4 cLeft _ hm2.out.tok hfew (by decide)).mono ?_
  rintro e w3 ⟨rfl, hb3⟩
  rw [HQP.out, h1]
  replace hX0 := hidI (hX0.out.below hb3)
  replace hX1 := hidI (hX1.out.below hb3)
  have ht3 := hidI (ht2.out.below hb3)
  have hm3 := hidI (hm2.out.later hb3)
  clear hb3 ht2 hm2
  clear a0 a1 a2 a3 a4 a5 a6 a7 a8 a9 a10 a11 af
  obtain ⟨a0, a1, a2, a3, a4, a5, a6, a7, a8, a9, a10, a11, af⟩ := hX0.out.box
  go_wp2_with fail
  refine (is_spec C gt cap base S1 q1 (-1) 0 4 cStar _ hm3.out.tok hfew (by decide)).mono ?_
  rintro e w4 ⟨rfl, hb4⟩
  rw [HQP.out, h2]
  replace hX0 := hidI (hX0.out.below hb4)
  replace hX1 := hidI (hX1.out.below hb4)
  have ht4 := hidI (ht3.out.below hb4)
  have hm4 := hidI (hm3.out.later hb4)
  clear hb4 ht3 hm3
  clear a0 a1 a2 a3 a4 a5 a6 a7 a8 a9 a10 a11 af
  obtain ⟨a0, a1, a2, a3, a4, a5, a6, a7, a8, a9, a10, a11, af⟩ := hX0.out.box
  clear HQP
  go_wp2_with fail
  refine (l4Sign_spec C gt cap base (.ok q1) S1 q1 (-1) 0 cStar _ (is_ok q1) hm4.out).mono ?_
  rintro e w5 ⟨S5, q5, z5, rfl, i5, m5, s5⟩
  replace hX0 := hidI (hX0.out.stp s5)
  replace hX1 := hidI (hX1.out.stp s5)
  have ht5 := hidI (ht4.out.step s5)
  clear ht4
  have hm5 := hidI m5
  have hi5 := hidI i5
  clear i5 m5 s5 hm4
  clear a0 a1 a2 a3 a4 a5 a6 a7 a8 a9 a10 a11 af
  go_wp2_with fail
  refine (l4Word_spec C gt cap base _ S5 q5 z5 0 sFrom _ hi5.out hm5.out).mono ?_
  rintro e w6 ⟨S6, q6, z6, rfl, i6, m6, s6⟩
  replace hX0 := hidI (hX0.out.stp s6)
  replace hX1 := hidI (hX1.out.stp s6)
  have ht6 := hidI (ht5.out.step s6)
  clear ht5
  have hm6 := hidI m6
  have hi6 := hidI i6
  clear i6 m6 s6 hm5
  go_wp2_with fail
  refine (l4Spec_spec C gt cap base _ S6 q6 z6 0 _ hi6.out hm6.out).mono ?_
  rintro e w7 ⟨S7, q7, z7, n7, rfl, i7, m7, s7⟩
  replace hX0 := hidI (hX0.out.stp s7)
  replace hX1 := hidI (hX1.out.stp s7)
  have ht7 := hidI (ht6.out.step s7)
  clear ht6
  have hm7 := hidI m7
  have hi7 := hidI i7
  clear i7 m7 s7 hm6
  have hlt2 : w.heap.size + 1 < w7.heap.size := hX1.out.lt
  unfold pv
  go_upto_region 20 with fail
  refine world_any (R := fun W => Bx gt S7 W (w.heap.size) _ ∧ Bx gt S7 W (w.heap.size + 1) _ ∧ Bx gt S7 W (w7.heap.size) _ ∧ Mem C gt cap base S7 q7 W ∧ SB w.heap.size S w S7 W) ⟨(hX0.out.alloc _), (hX1.out.alloc _), (Bx.new hm7.out _), (hm7.out.alloc _), (ht7.out.alloc _)⟩ ?_
  clear hX0 hX1 ht7 hm7
  rintro w8 ⟨X0, X1, X2, m8, t8⟩
  have hX0 := hidI X0
  have hX1 := hidI X1
  have hX2 := hidI X2
  have hm8 := hidI m8
  have ht8 := hidI t8
  clear m8 t8 X0 X1 X2
  obtain ⟨c0, c1, c2, c3, c4, c5, c6, c7, c8, c9, c10, c11, cf⟩ := hX2.out.box
  go_wp2_with fail
  refine (l4Sign_spec C gt cap base _ S7 q7 z7 0 cSemi _ hi7.out.fst hm8.out).mono ?_
  rintro e w9 ⟨S9, q9, z9, rfl, i9, m9, s9⟩
  replace hX0 := hidI (hX0.out.stp s9)
  replace hX1 := hidI (hX1.out.stp s9)
  replace hX2 := hidI (hX2.out.stp s9)
  have ht9 := hidI (ht8.out.step s9)
  clear ht8
  have hm9 := hidI m9
  have hi9 := hidI i9
  clear i9 m9 s9 hm8
  clear c0 c1 c2 c3 c4 c5 c6 c7 c8 c9 c10 c11 cf
  go_wp2_with fail
  refine (l4Exp_spec C gt cap base _ S9 q9 z9 0 ⟨3, sNone, sNone, n7⟩ _ hi9.out hm9.out (pos_tok hi9.out)).mono ?_
  rintro e w10 ⟨S10, q10, z10, rfl, i10, m10, s10⟩
  replace hX0 := hidI (hX0.out.stp s10)
  replace hX1 := hidI (hX1.out.stp s10)
  replace hX2 := hidI (hX2.out.stp s10)
  have ht10 := hidI (ht9.out.step s10)
  clear ht9
  have hm10 := hidI m10
  have hi10 := hidI i10
  clear i10 m10 s10 hm9
  obtain ⟨b0, b1, b2, b3, b4, b5, b6, b7, b8, b9, b10, b11, bf⟩ := hX1.out.box
  unfold pv
  go_wp2
  refine bodyPost_ret (results_cell_row rfl _ _ (w.heap.size + 1) 53 _ (0, 0) _ rfl ((hX1.out.put _ _ _ _ _ _ _ _ _ _ _ _)).heap Tryz.underlying53 rfl (by kernel_rfl)) rfl ?_
  rw [HV.out, ← HQ.out, ← star_bind (G := fun b => addEp C ⟨3, sNone, sNone, b⟩) hi7.out]
  exact out_done rfl hi10.out (hm10.out.put hX1.out _ _ _ _ _ _ _ _ _ _ _ _) (ht10.out.put (by omega) _ _ _ _ _ _ _ _ _ _ _ _)
set_option maxRecDepth 100000 in
set_option maxHeartbeats 6400000 in
theorem l4Export_default (C : Cx) (gt cap base : Nat) (S : Sv) (q : PS) (w : World) (hm : Mem C gt cap base S q w) (hw : isT C q.pos 1 sExport = true) (h1 : isT C (q.pos + 1) 4 cLeft = false) (h2 : isT C (q.pos + 1) 4 cStar = false) (h3 : isT C (q.pos + 1) 1 sDefault = true) :
    Calls Tryz.prog 71 #[pv C gt cap S q (-1) 0] w (Out C gt cap base (exportP C q) 0 S w) := by
  have HM := hidI hm
  have hfew := hm.few
  clear hm
  have HV : Hid (exportP C q = bd (bd (bd (bd (bd (.ok (adv q)) (tokP C 1 sDefault)) (pE C .sum 0)) (tokP C 4 cSemi)) (addSt C 1 sDefName)) (addEp C ⟨1, sDefault, sDefName, sNone⟩)) := by
    show _ = _
    rw [exportP, tokP, if_pos hw, bd_ok]
    rw [adv_pos, h1, h2, h3]
    rfl
  unfold pv
  go_enter Tryz.func71, Tryz.ntmps71
  go_wp2_with fail
  refine (l4Word_spec C gt cap base (.ok q) S q (-1) 0 sExport _ (is_ok q) ((HM.out.alloc _).alloc _)).mono ?_
  rintro e w1 ⟨S1, q1, z1, rfl, i1, m1, s1⟩
  obtain ⟨X0, X1, t1⟩ := HM.out.two2 s1
  have hX0 := hidI X0
  have hX1 := hidI X1
  have hm1 := hidI m1
  have ht1 := hidI t1
  have hi1 := hidI i1
  clear X0 X1 i1 m1 t1 s1
  obtain ⟨hq1, rfl⟩ := word_yes hi1.out hw
  have HQ := hidI hq1
  have HQP : Hid (q1.pos = q.pos + 1) := by show q1.pos = q.pos + 1; rw [hq1]; rfl
  clear hq1 hi1
  obtain ⟨a0, a1, a2, a3, a4, a5, a6, a7, a8, a9, a10, a11, af⟩ := hX0.out.box
  unfold pv
  go_upto_region 2 with fail
  refine world_any (R := fun W => Bx gt S1 W (w.heap.size) _ ∧ Bx gt S1 W (w.heap.size + 1) _ ∧ Mem C gt cap base S1 q1 W ∧ SB w.heap.size S w S1 W) ⟨(hX0.out.put _ _ _ _ _ _ _ _ _ _ _ _), (hX1.out.other (by omega) _ _ _ _ _ _ _ _ _ _ _ _), (hm1.out.put hX0.out _ _ _ _ _ _ _ _ _ _ _ _), (ht1.out.put (by omega) _ _ _ _ _ _ _ _ _ _ _ _)⟩ ?_
  clear a0 a1 a2 a3 a4 a5 a6 a7 a8 a9 a10 a11 af
  clear hX0 hX1 ht1 hm1
  rintro w2 ⟨X0, X1, m2, t2⟩
  have hX0 := hidI X0
  have hX1 := hidI X1
  have hm2 := hidI m2
  have ht2 := hidI t2
  clear m2 t2 X0 X1
  obtain ⟨a0, a1, a2, a3, a4, a5, a6, a7, a8, a9, a10, a11, af⟩ := hX0.out.box
  go_wp2_with fail
  refine (is_spec C gt cap base S1 q1 (-1) 0 4 cLeft _ hm2.out.tok hfew (by decide)).mono ?_
  rintro e w3 ⟨rfl, hb3⟩
  rw [HQP.out, h1]
  replace hX0 := hidI (hX0.out.below hb3)
  replace hX1 := hidI (hX1.out.below hb3)
  have ht3 := hidI (ht2.out.below hb3)
  have hm3 := hidI (hm2.out.later hb3)
  clear hb3 ht2 hm2
  clear a0 a1 a2 a3 a4 a5 a6 a7 a8 a9 a10 a11 af
  obtain ⟨a0, a1, a2, a3, a4, a5, a6, a7, a8, a9, a10, a11, af⟩ := hX0.out.box
  go_wp2_with fail
  refine (is_spec C gt cap base S1 q1 (-1) 0 4 cStar _ hm3.out.tok hfew (by decide)).mono ?_
  rintro e w4 ⟨rfl, hb4⟩
  rw [HQP.out, h2]
  replace hX0 := hidI (hX0.out.below hb4)
  replace hX1 := hidI (hX1.out.below hb4)
  have ht4 := hidI (ht3.out.below hb4)
  have hm4 := hidI (hm3.out.later hb4)
  clear hb4 ht3 hm3
  clear a0 a1 a2 a3 a4 a5 a6 a7 a8 a9 a10 a11 af
  obtain ⟨a0, a1, a2, a3, a4, a5, a6, a7, a8, a9, a10, a11, af⟩ := hX0.out.box
  go_wp2_with fail
  refine (is_spec C gt cap base S1 q1 (-1) 0 1 sDefault _ hm4.out.tok hfew (by decide)).mono ?_
  rintro e w5 ⟨rfl, hb5⟩
  rw [HQP.out, h3]
  replace hX0 := hidI (hX0.out.below hb5)
  replace hX1 := hidI (hX1.out.below hb5)
  have ht5 := hidI (ht4.out.below hb5)
  have hm5 := hidI (hm4.out.later hb5)
  clear hb5 ht4 hm4
  clear a0 a1 a2 a3 a4 a5 a6 a7 a8 a9 a10 a11 af
  obtain ⟨a0, a1, a2, a3, a4, a5, a6, a7, a8, a9, a10, a11, af⟩ := hX0.out.box
  clear HQP
  go_wp2_with fail
  refine (l4Word_spec C gt cap base (.ok q1) S1 q1 (-1) 0 sDefault _ (is_ok q1) hm5.out).mono ?_
  rintro e w6 ⟨S6, q6, z6, rfl, i6, m6, s6⟩
  replace hX0 := hidI (hX0.out.stp s6)
  replace hX1 := hidI (hX1.out.stp s6)
  have ht6 := hidI (ht5.out.step s6)
  clear ht5
  have hm6 := hidI m6
  have hi6 := hidI i6
  clear i6 m6 s6 hm5
  clear a0 a1 a2 a3 a4 a5 a6 a7 a8 a9 a10 a11 af
  go_wp2_with fail
  refine (l4Sum_spec C gt cap base _ S6 q6 z6 _ hi6.out hm6.out).mono ?_
  rintro e w7 ⟨S7, q7, z7, rfl, i7, m7, s7⟩
  replace hX0 := hidI (hX0.out.stp s7)
  replace hX1 := hidI (hX1.out.stp s7)
  have ht7 := hidI (ht6.out.step s7)
  clear ht6
  have hm7 := hidI m7
  have hi7 := hidI i7
  clear i7 m7 s7 hm6
  go_wp2_with fail
  refine (l4Sign_spec C gt cap base _ S7 q7 z7 0 cSemi _ hi7.out hm7.out).mono ?_
  rintro e w8 ⟨S8, q8, z8, rfl, i8, m8, s8⟩
  replace hX0 := hidI (hX0.out.stp s8)
  replace hX1 := hidI (hX1.out.stp s8)
  have ht8 := hidI (ht7.out.step s8)
  clear ht7
  have hm8 := hidI m8
  have hi8 := hidI i8
  clear i8 m8 s8 hm7
  have hlt2 : w.heap.size + 1 < w8.heap.size := hX1.out.lt
  unfold pv
  go_upto_region 23 with fail
  refine world_any (R := fun W => Bx gt S8 W (w.heap.size) _ ∧ Bx gt S8 W (w.heap.size + 1) _ ∧ Bx gt S8 W (w8.heap.size) _ ∧ Mem C gt cap base S8 q8 W ∧ SB w.heap.size S w S8 W) ⟨(hX0.out.alloc _), (hX1.out.alloc _), (Bx.new hm8.out _), (hm8.out.alloc _), (ht8.out.alloc _)⟩ ?_
  clear hX0 hX1 ht8 hm8
  rintro w9 ⟨X0, X1, X2, m9, t9⟩
  have hX0 := hidI X0
  have hX1 := hidI X1
  have hX2 := hidI X2
  have hm9 := hidI m9
  have ht9 := hidI t9
  clear m9 t9 X0 X1 X2
  obtain ⟨c0, c1, c2, c3, c4, c5, c6, c7, c8, c9, c10, c11, cf⟩ := hX2.out.box
  go_wp2_with fail
  refine (l4Stmt_spec C gt cap base _ S8 q8 z8 0 1 sDefName _ hi8.out hm9.out (pos_tok hi8.out)).mono ?_
  rintro e w10 ⟨S10, q10, z10, rfl, i10, m10, s10⟩
  replace hX0 := hidI (hX0.out.stp s10)
  replace hX1 := hidI (hX1.out.stp s10)
  replace hX2 := hidI (hX2.out.stp s10)
  have ht10 := hidI (ht9.out.step s10)
  clear ht9
  have hm10 := hidI m10
  have hi10 := hidI i10
  clear i10 m10 s10 hm9
  clear c0 c1 c2 c3 c4 c5 c6 c7 c8 c9 c10 c11 cf
  go_wp2_with fail
  refine (l4Exp_spec C gt cap base _ S10 q10 z10 0 ⟨1, sDefault, sDefName, sNone⟩ _ hi10.out hm10.out (pos_st hi10.out)).mono ?_
  rintro e w11 ⟨S11, q11, z11, rfl, i11, m11, s11⟩
  replace hX0 := hidI (hX0.out.stp s11)
  replace hX1 := hidI (hX1.out.stp s11)
  replace hX2 := hidI (hX2.out.stp s11)
  have ht11 := hidI (ht10.out.step s11)
  clear ht10
  have hm11 := hidI m11
  have hi11 := hidI i11
  clear i11 m11 s11 hm10
  obtain ⟨b0, b1, b2, b3, b4, b5, b6, b7, b8, b9, b10, b11, bf⟩ := hX1.out.box
  unfold pv
  go_wp2
  refine bodyPost_ret (results_cell_row rfl _ _ (w.heap.size + 1) 53 _ (0, 0) _ rfl ((hX1.out.put _ _ _ _ _ _ _ _ _ _ _ _)).heap Tryz.underlying53 rfl (by kernel_rfl)) rfl ?_
  rw [HV.out, ← HQ.out]
  exact out_done rfl hi11.out (hm11.out.put hX1.out _ _ _ _ _ _ _ _ _ _ _ _) (ht11.out.put (by omega) _ _ _ _ _ _ _ _ _ _ _ _)
set_option maxRecDepth 100000 in
set_option maxHeartbeats 6400000 in
theorem l4Export_let (C : Cx) (gt cap base : Nat) (S : Sv) (q : PS) (w : World) (hm : Mem C gt cap base S q w) (hw : isT C q.pos 1 sExport = true) (h1 : isT C (q.pos + 1) 4 cLeft = false) (h2 : isT C (q.pos + 1) 4 cStar = false) (h3 : isT C (q.pos + 1) 1 sDefault = false) (h4 : isT C (q.pos + 1) 1 sLet = true) :
    Calls Tryz.prog 71 #[pv C gt cap S q (-1) 0] w (Out C gt cap base (exportP C q) 0 S w) := by
  have HM := hidI hm
  have hfew := hm.few
  clear hm
  have HV : Hid (exportP C q = bd (letP C (adv q)) fun a => addEp C ⟨1, a.2, a.2, sNone⟩ a.1) := by
    show _ = _
    rw [exportP, tokP, if_pos hw, bd_ok]
    rw [adv_pos, h1, h2, h3, h4]
    rfl
  unfold pv
  go_enter Tryz.func71, Tryz.ntmps71
  go_wp2_with fail
  refine (l4Word_spec C gt cap base (.ok q) S q (-1) 0 sExport _ (is_ok q) ((HM.out.alloc _).alloc _)).mono ?_
  rintro e w1 ⟨S1, q1, z1, rfl, i1, m1, s1⟩
  obtain ⟨X0, X1, t1⟩ := HM.out.two2 s1
  have hX0 := hidI X0
  have hX1 := hidI X1
  have hm1 := hidI m1
  have ht1 := hidI t1
  have hi1 := hidI i1
  clear X0 X1 i1 m1 t1 s1
  obtain ⟨hq1, rfl⟩ := word_yes hi1.out hw
  have HQ := hidI hq1
  have HQP : Hid (q1.pos = q.pos + 1) := by show q1.pos = q.pos + 1; rw [hq1]; rfl
  clear hq1 hi1
  obtain ⟨a0, a1, a2, a3, a4, a5, a6, a7, a8, a9, a10, a11, af⟩ := hX0.out.box
  unfold pv
  go_upto_region 2 with fail
  refine world_any (R := fun W => Bx gt S1 W (w.heap.size) _ ∧ Bx gt S1 W (w.heap.size + 1) _ ∧ Mem C gt cap base S1 q1 W ∧ SB w.heap.size S w S1 W) ⟨(hX0.out.put _ _ _ _ _ _ _ _ _ _ _ _), (hX1.out.other (by omega) _ _ _ _ _ _ _ _ _ _ _ _), (hm1.out.put hX0.out _ _ _ _ _ _ _ _ _ _ _ _), (ht1.out.put (by omega) _ _ _ _ _ _ _ _ _ _ _ _)⟩ ?_
  clear a0 a1 a2 a3 a4 a5 a6 a7 a8 a9 a10 a11 af
  clear hX0 hX1 ht1 hm1
  rintro w2 ⟨X0, X1, m2, t2⟩
  have hX0 := hidI X0
  have hX1 := hidI X1
  have hm2 := hidI m2
  have ht2 := hidI t2
  clear m2 t2 X0 X1
  obtain ⟨a0, a1, a2, a3, a4, a5, a6, a7, a8, a9, a10, a11, af⟩ := hX0.out.box
  go_wp2_with fail
  refine (is_spec C gt cap base S1 q1 (-1) 0 4 cLeft _ hm2.out.tok hfew (by decide)).mono ?_
  rintro e w3 ⟨rfl, hb3⟩
  rw [HQP.out, h1]
  replace hX0 := hidI (hX0.out.below hb3)
  replace hX1 := hidI (hX1.out.below hb3)
  have ht3 := hidI (ht2.out.below hb3)
  have hm3 := hidI (hm2.out.later hb3)
  clear hb3 ht2 hm2
  clear a0 a1 a2 a3 a4 a5 a6 a7 a8 a9 a10 a11 af
  obtain ⟨a0, a1, a2, a3, a4, a5, a6, a7, a8, a9, a10, a11, af⟩ := hX0.out.box
  go_wp2_with fail
  refine (is_spec C gt cap base S1 q1 (-1) 0 4 cStar _ hm3.out.tok hfew (by decide)).mono ?_
  rintro e w4 ⟨rfl, hb4⟩
  rw [HQP.out, h2]
  replace hX0 := hidI (hX0.out.below hb4)
  replace hX1 := hidI (hX1.out.below hb4)
  have ht4 := hidI (ht3.out.below hb4)
  have hm4 := hidI (hm3.out.later hb4)
  clear hb4 ht3 hm3
  clear a0 a1 a2 a3 a4 a5 a6 a7 a8 a9 a10 a11 af
  obtain ⟨a0, a1, a2, a3, a4, a5, a6, a7, a8, a9, a10, a11, af⟩ := hX0.out.box
  go_wp2_with fail
  refine (is_spec C gt cap base S1 q1 (-1) 0 1 sDefault _ hm4.out.tok hfew (by decide)).mono ?_
  rintro e w5 ⟨rfl, hb5⟩
  rw [HQP.out, h3]
  replace hX0 := hidI (hX0.out.below hb5)
  replace hX1 := hidI (hX1.out.below hb5)
  have ht5 := hidI (ht4.out.below hb5)
  have hm5 := hidI (hm4.out.later hb5)
  clear hb5 ht4 hm4
  clear a0 a1 a2 a3 a4 a5 a6 a7 a8 a9 a10 a11 af
  obtain ⟨a0, a1, a2, a3, a4, a5, a6, a7, a8, a9, a10, a11, af⟩ := hX0.out.box
  go_wp2_with fail
  refine (is_spec C gt cap base S1 q1 (-1) 0 1 sLet _ hm5.out.tok hfew (by decide)).mono ?_
  rintro e w6 ⟨rfl, hb6⟩
  rw [HQP.out, h4]
  replace hX0 := hidI (hX0.out.below hb6)
  replace hX1 := hidI (hX1.out.below hb6)
  have ht6 := hidI (ht5.out.below hb6)
  have hm6 := hidI (hm5.out.later hb6)
  clear hb6 ht5 hm5
  clear a0 a1 a2 a3 a4 a5 a6 a7 a8 a9 a10 a11 af
  obtain ⟨a0, a1, a2, a3, a4, a5, a6, a7, a8, a9, a10, a11, af⟩ := hX0.out.box
  clear HQP
  go_wp2_with fail
  refine (l4Let_spec C gt cap base S1 q1 _ hm6.out).mono ?_
  rintro e w7 ⟨S7, q7, z7, n7, rfl, i7, m7, s7⟩
  replace hX0 := hidI (hX0.out.stp s7)
  replace hX1 := hidI (hX1.out.stp s7)
  have ht7 := hidI (ht6.out.step s7)
  clear ht6
  have hm7 := hidI m7
  have hi7 := hidI i7
  clear i7 m7 s7 hm6
  clear a0 a1 a2 a3 a4 a5 a6 a7 a8 a9 a10 a11 af
  have hlt2 : w.heap.size + 1 < w7.heap.size := hX1.out.lt
  unfold pv
  go_upto_region 26 with fail
  refine world_any (R := fun W => Bx gt S7 W (w.heap.size) _ ∧ Bx gt S7 W (w.heap.size + 1) _ ∧ Bx gt S7 W (w7.heap.size) _ ∧ Mem C gt cap base S7 q7 W ∧ SB w.heap.size S w S7 W) ⟨(hX0.out.alloc _), (hX1.out.alloc _), (Bx.new hm7.out _), (hm7.out.alloc _), (ht7.out.alloc _)⟩ ?_
  clear hX0 hX1 ht7 hm7
  rintro w8 ⟨X0, X1, X2, m8, t8⟩
  have hX0 := hidI X0
  have hX1 := hidI X1
  have hX2 := hidI X2
  have hm8 := hidI m8
  have ht8 := hidI t8
  clear m8 t8 X0 X1 X2
  obtain ⟨c0, c1, c2, c3, c4, c5, c6, c7, c8, c9, c10, c11, cf⟩ := hX2.out.box
  go_wp2_with fail
  refine (l4Exp_spec C gt cap base _ S7 q7 z7 0 ⟨1, n7, n7, sNone⟩ _ hi7.out.fst hm8.out (pos_let hi7.out)).mono ?_
  rintro e w9 ⟨S9, q9, z9, rfl, i9, m9, s9⟩
  replace hX0 := hidI (hX0.out.stp s9)
  replace hX1 := hidI (hX1.out.stp s9)
  replace hX2 := hidI (hX2.out.stp s9)
  have ht9 := hidI (ht8.out.step s9)
  clear ht8
  have hm9 := hidI m9
  have hi9 := hidI i9
  clear i9 m9 s9 hm8
  clear c0 c1 c2 c3 c4 c5 c6 c7 c8 c9 c10 c11 cf
  obtain ⟨b0, b1, b2, b3, b4, b5, b6, b7, b8, b9, b10, b11, bf⟩ := hX1.out.box
  unfold pv
  go_wp2
  refine bodyPost_ret (results_cell_row rfl _ _ (w.heap.size + 1) 53 _ (0, 0) _ rfl ((hX1.out.put _ _ _ _ _ _ _ _ _ _ _ _)).heap Tryz.underlying53 rfl (by kernel_rfl)) rfl ?_
  rw [HV.out, ← HQ.out, ← hi7.out.bind (fun q n => addEp C ⟨1, n, n, sNone⟩ q)]
  exact out_done rfl hi9.out (hm9.out.put hX1.out _ _ _ _ _ _ _ _ _ _ _ _) (ht9.out.put (by omega) _ _ _ _ _ _ _ _ _ _ _ _)
set_option maxRecDepth 100000 in
set_option maxHeartbeats 6400000 in
theorem l4Export_fn (C : Cx) (gt cap base : Nat) (S : Sv) (q : PS) (w : World) (hm : Mem C gt cap base S q w) (hw : isT C q.pos 1 sExport = true) (h1 : isT C (q.pos + 1) 4 cLeft = false) (h2 : isT C (q.pos + 1) 4 cStar = false) (h3 : isT C (q.pos + 1) 1 sDefault = false) (h4 : isT C (q.pos + 1) 1 sLet = false) (h5 : isT C (q.pos + 1) 1 sFunction = true) :
    Calls Tryz.prog 71 #[pv C gt cap S q (-1) 0] w (Out C gt cap base (exportP C q) 0 S w) := by
  have HM := hidI hm
  have hfew := hm.few
  clear hm
  have HV : Hid (exportP C q = bd (fnP C (adv q)) fun a => addEp C ⟨1, a.2, a.2, sNone⟩ a.1) := by
    show _ = _
    rw [exportP, tokP, if_pos hw, bd_ok]
    rw [adv_pos, h1, h2, h3, h4, h5]
    rfl
  unfold pv
  go_enter Tryz.func71, Tryz.ntmps71
  go_wp2_with fail
  refine (l4Word_spec C gt cap base (.ok q) S q (-1) 0 sExport _ (is_ok q) ((HM.out.alloc _).alloc _)).mono ?_
  rintro e w1 ⟨S1, q1, z1, rfl, i1, m1, s1⟩
  obtain ⟨X0, X1, t1⟩ := HM.out.two2 s1
  have hX0 := hidI X0
  have hX1 := hidI X1
  have hm1 := hidI m1
  have ht1 := hidI t1
  have hi1 := hidI i1
  clear X0 X1 i1 m1 t1 s1
  obtain ⟨hq1, rfl⟩ := word_yes hi1.out hw
  have HQ := hidI hq1
  have HQP : Hid (q1.pos = q.pos + 1) := by show q1.pos = q.pos + 1; rw [hq1]; rfl
  clear hq1 hi1
  obtain ⟨a0, a1, a2, a3, a4, a5, a6, a7, a8, a9, a10, a11, af⟩ := hX0.out.box
  unfold pv
  go_upto_region 2 with fail
  refine world_any (R := fun W => Bx gt S1 W (w.heap.size) _ ∧ Bx gt S1 W (w.heap.size + 1) _ ∧ Mem C gt cap base S1 q1 W ∧ SB w.heap.size S w S1 W) ⟨(hX0.out.put _ _ _ _ _ _ _ _ _ _ _ _), (hX1.out.other (by omega) _ _ _ _ _ _ _ _ _ _ _ _), (hm1.out.put hX0.out _ _ _ _ _ _ _ _ _ _ _ _), (ht1.out.put (by omega) _ _ _ _ _ _ _ _ _ _ _ _)⟩ ?_
  clear a0 a1 a2 a3 a4 a5 a6 a7 a8 a9 a10 a11 af
  clear hX0 hX1 ht1 hm1
  rintro w2 ⟨X0, X1, m2, t2⟩
  have hX0 := hidI X0
  have hX1 := hidI X1
  have hm2 := hidI m2
  have ht2 := hidI t2
  clear m2 t2 X0 X1
  obtain ⟨a0, a1, a2, a3, a4, a5, a6, a7, a8, a9, a10, a11, af⟩ := hX0.out.box
  go_wp2_with fail
  refine (is_spec C gt cap base S1 q1 (-1) 0 4 cLeft _ hm2.out.tok hfew (by decide)).mono ?_
  rintro e w3 ⟨rfl, hb3⟩
  rw [HQP.out, h1]
  replace hX0 := hidI (hX0.out.below hb3)
  replace hX1 := hidI (hX1.out.below hb3)
  have ht3 := hidI (ht2.out.below hb3)
  have hm3 := hidI (hm2.out.later hb3)
  clear hb3 ht2 hm2
  clear a0 a1 a2 a3 a4 a5 a6 a7 a8 a9 a10 a11 af
  obtain ⟨a0, a1, a2, a3, a4, a5, a6, a7, a8, a9, a10, a11, af⟩ := hX0.out.box
  go_wp2_with fail
  refine (is_spec C gt cap base S1 q1 (-1) 0 4 cStar _ hm3.out.tok hfew (by decide)).mono ?_
  rintro e w4 ⟨rfl, hb4⟩
  rw [HQP.out, h2]
  replace hX0 := hidI (hX0.out.below hb4)
  replace hX1 := hidI (hX1.out.below hb4)
  have ht4 := hidI (ht3.out.below hb4)
  have hm4 := hidI (hm3.out.later hb4)
  clear hb4 ht3 hm3
  clear a0 a1 a2 a3 a4 a5 a6 a7 a8 a9 a10 a11 af
  obtain ⟨a0, a1, a2, a3, a4, a5, a6, a7, a8, a9, a10, a11, af⟩ := hX0.out.box
  go_wp2_with fail
  refine (is_spec C gt cap base S1 q1 (-1) 0 1 sDefault _ hm4.out.tok hfew (by decide)).mono ?_
  rintro e w5 ⟨rfl, hb5⟩
  rw [HQP.out, h3]
  replace hX0 := hidI (hX0.out.below hb5)
  replace hX1 := hidI (hX1.out.below hb5)
  have ht5 := hidI (ht4.out.below hb5)
  have hm5 := hidI (hm4.out.later hb5)
  clear hb5 ht4 hm4
  clear a0 a1 a2 a3 a4 a5 a6 a7 a8 a9 a10 a11 af
  obtain ⟨a0, a1, a2, a3, a4, a5, a6, a7, a8, a9, a10, a11, af⟩ := hX0.out.box
  go_wp2_with fail
  refine (is_spec C gt cap base S1 q1 (-1) 0 1 sLet _ hm5.out.tok hfew (by decide)).mono ?_
  rintro e w6 ⟨rfl, hb6⟩
  rw [HQP.out, h4]
  replace hX0 := hidI (hX0.out.below hb6)
  replace hX1 := hidI (hX1.out.below hb6)
  have ht6 := hidI (ht5.out.below hb6)
  have hm6 := hidI (hm5.out.later hb6)
  clear hb6 ht5 hm5
  clear a0 a1 a2 a3 a4 a5 a6 a7 a8 a9 a10 a11 af
  obtain ⟨a0, a1, a2, a3, a4, a5, a6, a7, a8, a9, a10, a11, af⟩ := hX0.out.box
  go_wp2_with fail
  refine (is_spec C gt cap base S1 q1 (-1) 0 1 sFunction _ hm6.out.tok hfew (by decide)).mono ?_
  rintro e w7 ⟨rfl, hb7⟩
  rw [HQP.out, h5]
  replace hX0 := hidI (hX0.out.below hb7)
  replace hX1 := hidI (hX1.out.below hb7)
  have ht7 := hidI (ht6.out.below hb7)
  have hm7 := hidI (hm6.out.later hb7)
  clear hb7 ht6 hm6
  clear a0 a1 a2 a3 a4 a5 a6 a7 a8 a9 a10 a11 af
  obtain ⟨a0, a1, a2, a3, a4, a5, a6, a7, a8, a9, a10, a11, af⟩ := hX0.out.box
  clear HQP
  go_wp2_with fail
  refine (l4Fn_spec C gt cap base S1 q1 _ hm7.out).mono ?_
  rintro e w8 ⟨S8, q8, z8, n8, rfl, i8, m8, s8⟩
  replace hX0 := hidI (hX0.out.stp s8)
  replace hX1 := hidI (hX1.out.stp s8)
  have ht8 := hidI (ht7.out.step s8)
  clear ht7
  have hm8 := hidI m8
  have hi8 := hidI i8
  clear i8 m8 s8 hm7
  clear a0 a1 a2 a3 a4 a5 a6 a7 a8 a9 a10 a11 af
  have hlt2 : w.heap.size + 1 < w8.heap.size := hX1.out.lt
  unfold pv
  go_upto_region 29 with fail
  refine world_any (R := fun W => Bx gt S8 W (w.heap.size) _ ∧ Bx gt S8 W (w.heap.size + 1) _ ∧ Bx gt S8 W (w8.heap.size) _ ∧ Mem C gt cap base S8 q8 W ∧ SB w.heap.size S w S8 W) ⟨(hX0.out.alloc _), (hX1.out.alloc _), (Bx.new hm8.out _), (hm8.out.alloc _), (ht8.out.alloc _)⟩ ?_
  clear hX0 hX1 ht8 hm8
  rintro w9 ⟨X0, X1, X2, m9, t9⟩
  have hX0 := hidI X0
  have hX1 := hidI X1
  have hX2 := hidI X2
  have hm9 := hidI m9
  have ht9 := hidI t9
  clear m9 t9 X0 X1 X2
  obtain ⟨c0, c1, c2, c3, c4, c5, c6, c7, c8, c9, c10, c11, cf⟩ := hX2.out.box
  go_wp2_with fail
  refine (l4Exp_spec C gt cap base _ S8 q8 z8 0 ⟨1, n8, n8, sNone⟩ _ hi8.out.fst hm9.out (pos_fn hi8.out)).mono ?_
  rintro e w10 ⟨S10, q10, z10, rfl, i10, m10, s10⟩
  replace hX0 := hidI (hX0.out.stp s10)
  replace hX1 := hidI (hX1.out.stp s10)
  replace hX2 := hidI (hX2.out.stp s10)
  have ht10 := hidI (ht9.out.step s10)
  clear ht9
  have hm10 := hidI m10
  have hi10 := hidI i10
  clear i10 m10 s10 hm9
  clear c0 c1 c2 c3 c4 c5 c6 c7 c8 c9 c10 c11 cf
  obtain ⟨b0, b1, b2, b3, b4, b5, b6, b7, b8, b9, b10, b11, bf⟩ := hX1.out.box
  unfold pv
  go_wp2
  refine bodyPost_ret (results_cell_row rfl _ _ (w.heap.size + 1) 53 _ (0, 0) _ rfl ((hX1.out.put _ _ _ _ _ _ _ _ _ _ _ _)).heap Tryz.underlying53 rfl (by kernel_rfl)) rfl ?_
  rw [HV.out, ← HQ.out, ← hi8.out.bind (fun q n => addEp C ⟨1, n, n, sNone⟩ q)]
  exact out_done rfl hi10.out (hm10.out.put hX1.out _ _ _ _ _ _ _ _ _ _ _ _) (ht10.out.put (by omega) _ _ _ _ _ _ _ _ _ _ _ _)
set_option maxRecDepth 100000 in
set_option maxHeartbeats 6400000 in
theorem l4Export_none (C : Cx) (gt cap base : Nat) (S : Sv) (q : PS) (w : World) (hm : Mem C gt cap base S q w) (hw : isT C q.pos 1 sExport = true) (h1 : isT C (q.pos + 1) 4 cLeft = false) (h2 : isT C (q.pos + 1) 4 cStar = false) (h3 : isT C (q.pos + 1) 1 sDefault = false) (h4 : isT C (q.pos + 1) 1 sLet = false) (h5 : isT C (q.pos + 1) 1 sFunction = false) :
    Calls Tryz.prog 71 #[pv C gt cap S q (-1) 0] w (Out C gt cap base (exportP C q) 0 S w) := by
  have HM := hidI hm
  have hfew := hm.few
  clear hm
  have HV : Hid (exportP C q = .error (here C (adv q).pos)) := by
    show _ = _
    rw [exportP, tokP, if_pos hw, bd_ok]
    rw [adv_pos, h1, h2, h3, h4, h5]
    rfl
  unfold pv
  go_enter Tryz.func71, Tryz.ntmps71
  go_wp2_with fail
  refine (l4Word_spec C gt cap base (.ok q) S q (-1) 0 sExport _ (is_ok q) ((HM.out.alloc _).alloc _)).mono ?_
  rintro e w1 ⟨S1, q1, z1, rfl, i1, m1, s1⟩
  obtain ⟨X0, X1, t1⟩ := HM.out.two2 s1
  have hX0 := hidI X0
  have hX1 := hidI X1
  have hm1 := hidI m1
  have ht1 := hidI t1
  have hi1 := hidI i1
  clear X0 X1 i1 m1 t1 s1
  obtain ⟨hq1, rfl⟩ := word_yes hi1.out hw
  have HQ := hidI hq1
  have HQP : Hid (q1.pos = q.pos + 1) := by show q1.pos = q.pos + 1; rw [hq1]; rfl
  clear hq1 hi1
  obtain ⟨a0, a1, a2, a3, a4, a5, a6, a7, a8, a9, a10, a11, af⟩ := hX0.out.box
  unfold pv
  go_upto_region 2 with fail
  refine world_any (R := fun W => Bx gt S1 W (w.heap.size) _ ∧ Bx gt S1 W (w.heap.size + 1) _ ∧ Mem C gt cap base S1 q1 W ∧ SB w.heap.size S w S1 W) ⟨(hX0.out.put _ _ _ _ _ _ _ _ _ _ _ _), (hX1.out.other (by omega) _ _ _ _ _ _ _ _ _ _ _ _), (hm1.out.put hX0.out _ _ _ _ _ _ _ _ _ _ _ _), (ht1.out.put (by omega) _ _ _ _ _ _ _ _ _ _ _ _)⟩ ?_
  clear a0 a1 a2 a3 a4 a5 a6 a7 a8 a9 a10 a11 af
  clear hX0 hX1 ht1 hm1
  rintro w2 ⟨X0, X1, m2, t2⟩
  have hX0 := hidI X0
  have hX1 := hidI X1
  have hm2 := hidI m2
  have ht2 := hidI t2
  clear m2 t2 X0 X1
  obtain ⟨a0, a1, a2, a3, a4, a5, a6, a7, a8, a9, a10, a11, af⟩ := hX0.out.box
  go_wp2_with fail
  refine (is_spec C gt cap base S1 q1 (-1) 0 4 cLeft _ hm2.out.tok hfew (by decide)).mono ?_
  rintro e w3 ⟨rfl, hb3⟩
  rw [HQP.out, h1]
  replace hX0 := hidI (hX0.out.below hb3)
  replace hX1 := hidI (hX1.out.below hb3)
  have ht3 := hidI (ht2.out.below hb3)
  have hm3 := hidI (hm2.out.later hb3)
  clear hb3 ht2 hm2
  clear a0 a1 a2 a3 a4 a5 a6 a7 a8 a9 a10 a11 af
  obtain ⟨a0, a1, a2, a3, a4, a5, a6, a7, a8, a9, a10, a11, af⟩ := hX0.out.box
  go_wp2_with fail
  refine (is_spec C gt cap base S1 q1 (-1) 0 4 cStar _ hm3.out.tok hfew (by decide)).mono ?_
  rintro e w4 ⟨rfl, hb4⟩
  rw [HQP.out, h2]
  replace hX0 := hidI (hX0.out.below hb4)
  replace hX1 := hidI (hX1.out.below hb4)
  have ht4 := hidI (ht3.out.below hb4)
  have hm4 := hidI (hm3.out.later hb4)
  clear hb4 ht3 hm3
  clear a0 a1 a2 a3 a4 a5 a6 a7 a8 a9 a10 a11 af
  obtain ⟨a0, a1, a2, a3, a4, a5, a6, a7, a8, a9, a10, a11, af⟩ := hX0.out.box
  go_wp2_with fail
  refine (is_spec C gt cap base S1 q1 (-1) 0 1 sDefault _ hm4.out.tok hfew (by decide)).mono ?_
  rintro e w5 ⟨rfl, hb5⟩
  rw [HQP.out, h3]
  replace hX0 := hidI (hX0.out.below hb5)
  replace hX1 := hidI (hX1.out.below hb5)
  have ht5 := hidI (ht4.out.below hb5)
  have hm5 := hidI (hm4.out.later hb5)
  clear hb5 ht4 hm4
  clear a0 a1 a2 a3 a4 a5 a6 a7 a8 a9 a10 a11 af
  obtain ⟨a0, a1, a2, a3, a4, a5, a6, a7, a8, a9, a10, a11, af⟩ := hX0.out.box
  go_wp2_with fail
  refine (is_spec C gt cap base S1 q1 (-1) 0 1 sLet _ hm5.out.tok hfew (by decide)).mono ?_
  rintro e w6 ⟨rfl, hb6⟩
  rw [HQP.out, h4]
  replace hX0 := hidI (hX0.out.below hb6)
  replace hX1 := hidI (hX1.out.below hb6)
  have ht6 := hidI (ht5.out.below hb6)
  have hm6 := hidI (hm5.out.later hb6)
  clear hb6 ht5 hm5
  clear a0 a1 a2 a3 a4 a5 a6 a7 a8 a9 a10 a11 af
  obtain ⟨a0, a1, a2, a3, a4, a5, a6, a7, a8, a9, a10, a11, af⟩ := hX0.out.box
  go_wp2_with fail
  refine (is_spec C gt cap base S1 q1 (-1) 0 1 sFunction _ hm6.out.tok hfew (by decide)).mono ?_
  rintro e w7 ⟨rfl, hb7⟩
  rw [HQP.out, h5]
  replace hX0 := hidI (hX0.out.below hb7)
  replace hX1 := hidI (hX1.out.below hb7)
  have ht7 := hidI (ht6.out.below hb7)
  have hm7 := hidI (hm6.out.later hb7)
  clear hb7 ht6 hm6
  clear a0 a1 a2 a3 a4 a5 a6 a7 a8 a9 a10 a11 af
  obtain ⟨a0, a1, a2, a3, a4, a5, a6, a7, a8, a9, a10, a11, af⟩ := hX0.out.box
  clear HQP
  go_wp2_with fail
  refine (fail_spec C gt cap base S1 q1 (-1) 0 _ hm7.out.tok hfew).mono ?_
  rintro e w8 ⟨rfl, hb8⟩
  replace hX0 := hidI (hX0.out.below hb8)
  replace hX1 := hidI (hX1.out.below hb8)
  have ht8 := hidI (ht7.out.below hb8)
  have hm8 := hidI (hm7.out.later hb8)
  clear hb8 ht7 hm7
  clear a0 a1 a2 a3 a4 a5 a6 a7 a8 a9 a10 a11 af
  obtain ⟨b0, b1, b2, b3, b4, b5, b6, b7, b8, b9, b10, b11, bf⟩ := hX1.out.box
  unfold pv
  go_wp2
  refine bodyPost_ret (results_cell_row rfl _ _ (w.heap.size + 1) 53 _ (0, 0) _ rfl ((hX1.out.put _ _ _ _ _ _ _ _ _ _ _ _)).heap Tryz.underlying53 rfl (by kernel_rfl)) rfl ?_
  rw [HV.out, ← HQ.out]
  exact out_done rfl (show Is (.error (here C q1.pos)) q1 _ from rfl) (hm8.out.put hX1.out _ _ _ _ _ _ _ _ _ _ _ _) (ht8.out.put (by omega) _ _ _ _ _ _ _ _ _ _ _ _)
end Go.Proofs.YticdggnnpjachaaGreat
namespace Go.Proofs.YticdggnnpjachaaGreat
open Go.RowKit Go.PlainAid

set_option maxRecDepth 100000 in
set_option maxHeartbeats 6400000 in
theorem l4Export_list (C : Cx) (gt cap base : Nat) (S : Sv) (q : PS) (w : World) (hm : Mem C gt cap base S q w) (hw : isT C q.pos 1 sExport = true) (h1 : isT C (q.pos + 1) 4 cLeft = true) :
    Calls Tryz.prog 71 #[pv C gt cap S q (-1) 0] w (Out C gt cap base (exportP C q) 0 S w) := by
  have HM := hidI hm
  have hfew := hm.few
  clear hm
  have HV : Hid (exportP C q = bd (listP C true (adv q)) fun a => if !anyB a.2 && !isT C a.1.pos 1 sFrom then bd (tokP C 4 cSemi a.1) fun q => addAll (fun e => addEp C (expLoc e)) a.2 (.ok q) else bd (semiN C (tailS C (.ok a.1))) fun b => addAll (fun e => addEp C (expFrom b.2 e)) a.2 (.ok b.1)) := by
    show _ = _
    rw [exportP, tokP, if_pos hw, bd_ok]
    rw [adv_pos, h1]
    rfl
  unfold pv
  go_enter Tryz.func71, Tryz.ntmps71
  go_wp2_with fail
  refine (l4Word_spec C gt cap base (.ok q) S q (-1) 0 sExport _ (is_ok q) ((HM.out.alloc _).alloc _)).mono ?_
  rintro e w1 ⟨S1, q1, z1, rfl, i1, m1, s1⟩
  obtain ⟨X0, X1, t1⟩ := HM.out.two2 s1
  have hX0 := hidI X0
  have hX1 := hidI X1
  have hm1 := hidI m1
  have ht1 := hidI t1
  have hi1 := hidI i1
  clear X0 X1 i1 m1 t1 s1
  obtain ⟨hq1, rfl⟩ := word_yes hi1.out hw
  have HQ := hidI hq1
  have HQP : Hid (q1.pos = q.pos + 1) := by show q1.pos = q.pos + 1; rw [hq1]; rfl
  clear hq1 hi1
  obtain ⟨a0, a1, a2, a3, a4, a5, a6, a7, a8, a9, a10, a11, af⟩ := hX0.out.box
  unfold pv
  go_upto_region 2 with fail
  refine world_any (R := fun W => Bx gt S1 W (w.heap.size) _ ∧ Bx gt S1 W (w.heap.size + 1) _ ∧ Mem C gt cap base S1 q1 W ∧ SB w.heap.size S w S1 W) ⟨(hX0.out.put _ _ _ _ _ _ _ _ _ _ _ _), (hX1.out.other (by omega) _ _ _ _ _ _ _ _ _ _ _ _), (hm1.out.put hX0.out _ _ _ _ _ _ _ _ _ _ _ _), (ht1.out.put (by omega) _ _ _ _ _ _ _ _ _ _ _ _)⟩ ?_
  clear a0 a1 a2 a3 a4 a5 a6 a7 a8 a9 a10 a11 af
  clear hX0 hX1 ht1 hm1
  rintro w2 ⟨X0, X1, m2, t2⟩
  have hX0 := hidI X0
  have hX1 := hidI X1
  have hm2 := hidI m2
  have ht2 := hidI t2
  clear m2 t2 X0 X1
  have HV1 : Hid (exportP C q = bd (listP C true q1) fun a => if !anyB a.2 && !isT C a.1.pos 1 sFrom then bd (tokP C 4 cSemi a.1) fun q => addAll (fun e => addEp C (expLoc e)) a.2 (.ok q) else bd (semiN C (tailS C (.ok a.1))) fun b => addAll (fun e => addEp C (expFrom b.2 e)) a.2 (.ok b.1)) := by show _ = _; rw [HQ.out]; exact HV.out
  obtain ⟨a0, a1, a2, a3, a4, a5, a6, a7, a8, a9, a10, a11, af⟩ := hX0.out.box
  go_wp2_with fail
  refine (is_spec C gt cap base S1 q1 (-1) 0 4 cLeft _ hm2.out.tok hfew (by decide)).mono ?_
  rintro e w3 ⟨rfl, hb3⟩
  rw [HQP.out, h1]
  replace hX0 := hidI (hX0.out.below hb3)
  replace hX1 := hidI (hX1.out.below hb3)
  have ht3 := hidI (ht2.out.below hb3)
  have hm3 := hidI (hm2.out.later hb3)
  clear hb3 ht2 hm2
  clear a0 a1 a2 a3 a4 a5 a6 a7 a8 a9 a10 a11 af
  obtain ⟨a0, a1, a2, a3, a4, a5, a6, a7, a8, a9, a10, a11, af⟩ := hX0.out.box
  clear HQP
  have hsz := ht3.out.size
  go_wp2_with fail
  refine (l4List_spec C gt cap base S1 q1 0 true _ hm3.out).mono ?_
  rintro e w4 ⟨S4, q4, z4, ⟨ra, rc⟩, l, rfl, i4, m4, s4, R0, hl⟩
  obtain ⟨g, rfl⟩ : ∃ g, ra = some ⟨g, 0, none⟩ := R0.addr
  replace hX0 := hidI (hX0.out.stp s4)
  replace hX1 := hidI (hX1.out.stp s4)
  have ht4 := hidI (ht3.out.step s4)
  clear ht3
  have hm4 := hidI m4
  have hi4 := hidI i4
  clear i4 m4 s4 hm3
  clear a0 a1 a2 a3 a4 a5 a6 a7 a8 a9 a10 a11 af
  have hR : Hid (Row S4 w4 base w.heap.size ⟨some ⟨g, 0, none⟩, rc⟩ l) := ⟨R0.own, R0.free, fun k hk => Nat.le_trans hsz (R0.new k hk), R0.addr⟩
  clear R0
  have hlt2 : w.heap.size + 1 < w4.heap.size := hX1.out.lt
  unfold pv
  go_upto_region 4 with fail
  refine world_any (R := fun W => Bx gt S4 W (w.heap.size) _ ∧ Bx gt S4 W (w.heap.size + 1) _ ∧ Bx gt S4 W (w4.heap.size) _ ∧ Row S4 W base w.heap.size ⟨some ⟨g, 0, none⟩, rc⟩ l ∧ Mem C gt cap base S4 q4 W ∧ SB w.heap.size S w S4 W) ⟨(hX0.out.alloc _), (hX1.out.alloc _), (Bx.new hm4.out _), (hR.out.alloc _), (hm4.out.alloc _), (ht4.out.alloc _)⟩ ?_
  clear hX0 hX1 ht4 hm4
  clear hR
  rintro w5 ⟨X0, X1, X2, R0, m5, t5⟩
  have hR := hidI R0
  clear R0
  have hX0 := hidI X0
  have hX1 := hidI X1
  have hX2 := hidI X2
  have hm5 := hidI m5
  have ht5 := hidI t5
  clear m5 t5 X0 X1 X2
  cases hA : anyB l with
  | true =>
    skip
    obtain ⟨c0, c1, c2, c3, c4, c5, c6, c7, c8, c9, c10, c11, cf⟩ := hX2.out.box
    go_wp2_with fail
    refine (l4Word_spec C gt cap base _ S4 q4 z4 0 sFrom _ hi4.out.fst hm5.out).mono ?_
    rintro e w6 ⟨S6, q6, z6, rfl, i6, m6, s6⟩
    replace hX0 := hidI (hX0.out.stp s6)
    replace hX1 := hidI (hX1.out.stp s6)
    replace hX2 := hidI (hX2.out.stp s6)
    have ht6 := hidI (ht5.out.step s6)
    have hRn : Hid (Row S6 w6 base w.heap.size ⟨some ⟨g, 0, none⟩, rc⟩ l) := hR.out.stp s6
    clear hR
    have hR := hidI hRn
    clear hRn
    clear ht5
    have hm6 := hidI m6
    have hi6 := hidI i6
    clear i6 m6 s6 hm5
    clear c0 c1 c2 c3 c4 c5 c6 c7 c8 c9 c10 c11 cf
    go_wp2_with fail
    refine (l4Spec_spec C gt cap base _ S6 q6 z6 0 _ hi6.out hm6.out).mono ?_
    rintro e w7 ⟨S7, q7, z7, n7, rfl, i7, m7, s7⟩
    replace hX0 := hidI (hX0.out.stp s7)
    replace hX1 := hidI (hX1.out.stp s7)
    replace hX2 := hidI (hX2.out.stp s7)
    have ht7 := hidI (ht6.out.step s7)
    have hRn : Hid (Row S7 w7 base w.heap.size ⟨some ⟨g, 0, none⟩, rc⟩ l) := hR.out.stp s7
    clear hR
    have hR := hidI hRn
    clear hRn
    clear ht6
    have hm7 := hidI m7
    have hi7 := hidI i7
    clear i7 m7 s7 hm6
    have hlt3 : w.heap.size + 1 < w7.heap.size := hX1.out.lt
    have hlt3_2 : w4.heap.size < w7.heap.size := hX2.out.lt
    unfold pv
    go_upto_region 12 with fail
    refine world_any (R := fun W => Bx gt S7 W (w.heap.size) _ ∧ Bx gt S7 W (w.heap.size + 1) _ ∧ Bx gt S7 W (w4.heap.size) _ ∧ Bx gt S7 W (w7.heap.size) _ ∧ Row S7 W base w.heap.size ⟨some ⟨g, 0, none⟩, rc⟩ l ∧ Mem C gt cap base S7 q7 W ∧ SB w.heap.size S w S7 W) ⟨(hX0.out.alloc _), (hX1.out.alloc _), (hX2.out.alloc _), (Bx.new hm7.out _), (hR.out.alloc _), (hm7.out.alloc _), (ht7.out.alloc _)⟩ ?_
    clear hX0 hX1 hX2 ht7 hm7
    clear hR
    rintro w8 ⟨X0, X1, X2, X3, R0, m8, t8⟩
    have hR := hidI R0
    clear R0
    have hX0 := hidI X0
    have hX1 := hidI X1
    have hX2 := hidI X2
    have hX3 := hidI X3
    have hm8 := hidI m8
    have ht8 := hidI t8
    clear m8 t8 X0 X1 X2 X3
    obtain ⟨d0, d1, d2, d3, d4, d5, d6, d7, d8, d9, d10, d11, df⟩ := hX3.out.box
    go_wp2_with fail
    refine (l4Sign_spec C gt cap base _ S7 q7 z7 0 cSemi _ hi7.out.fst hm8.out).mono ?_
    rintro e w9 ⟨S9, q9, z9, rfl, i9, m9, s9⟩
    replace hX0 := hidI (hX0.out.stp s9)
    replace hX1 := hidI (hX1.out.stp s9)
    replace hX2 := hidI (hX2.out.stp s9)
    replace hX3 := hidI (hX3.out.stp s9)
    have ht9 := hidI (ht8.out.step s9)
    have hRn : Hid (Row S9 w9 base w.heap.size ⟨some ⟨g, 0, none⟩, rc⟩ l) := hR.out.stp s9
    clear hR
    have hR := hidI hRn
    clear hRn
    clear ht8
    have hm9 := hidI m9
    have hi9 := hidI i9
    clear i9 m9 s9 hm8
    clear d0 d1 d2 d3 d4 d5 d6 d7 d8 d9 d10 d11 df
    obtain ⟨a0, a1, a2, a3, a4, a5, a6, a7, a8, a9, a10, a11, af⟩ := hX0.out.box
    unfold pv
    go_upto_region 13 with fail
    refine world_any (R := fun W => Bx gt S9 W (w.heap.size) _ ∧ Bx gt S9 W (w.heap.size + 1) _ ∧ Bx gt S9 W (w4.heap.size) _ ∧ Bx gt S9 W (w7.heap.size) _ ∧ Row S9 W base w.heap.size ⟨some ⟨g, 0, none⟩, rc⟩ l ∧ Mem C gt cap base S9 q9 W ∧ SB w.heap.size S w S9 W) ⟨(hX0.out.put _ _ _ _ _ _ _ _ _ _ _ _), (hX1.out.other (by omega) _ _ _ _ _ _ _ _ _ _ _ _), (hX2.out.other (by omega) _ _ _ _ _ _ _ _ _ _ _ _), (hX3.out.other (by omega) _ _ _ _ _ _ _ _ _ _ _ _), (hR.out.put hX0.out _ _ _ _ _ _ _ _ _ _ _ _), (hm9.out.put hX0.out _ _ _ _ _ _ _ _ _ _ _ _), (ht9.out.put (by omega) _ _ _ _ _ _ _ _ _ _ _ _)⟩ ?_
    clear a0 a1 a2 a3 a4 a5 a6 a7 a8 a9 a10 a11 af
    clear hX0 hX1 hX2 hX3 ht9 hm9
    clear hR
    rintro w10 ⟨X0, X1, X2, X3, R0, m10, t10⟩
    have hR := hidI R0
    clear R0
    have hX0 := hidI X0
    have hX1 := hidI X1
    have hX2 := hidI X2
    have hX3 := hidI X3
    have hm10 := hidI m10
    have ht10 := hidI t10
    clear m10 t10 X0 X1 X2 X3
    have HEQ : Hid (_ = exportP C q) := (list_bind (G := fun b e => addEp C (expFrom b e)) hi4.out hi7.out).trans ((from_bind hi4.out (.inl hA)).trans HV1.out.symm)
    go_wp2
    go_loopg [9] l.length (fun k i wr => ∃ (j : Nat) (x' : PR) (S' : Sv) (q' : PS) (z' : Int), j ≤ l.length ∧ i = .int .i64 j ∧ Is x' q' z' ∧ (z' < 0 → 1 ≤ q'.pos) ∧ addAll (fun e => addEp C (expFrom n7 e)) (l.drop j) x' = exportP C q ∧ l.length - j = k ∧ Mem C gt cap base S' q' wr ∧ SB w.heap.size S w S' wr ∧ Bx gt S' wr w.heap.size #[.slice (some ⟨gt, 0, none⟩) C.ts.length cap, .int .i64 q'.pos, .int .i64 C.fin, .bool C.scr, .slice S'.rq.a q'.rq.length S'.rq.cap, .slice S'.im.a q'.im.length S'.im.cap, .slice S'.ep.a q'.ep.length S'.ep.cap, .slice S'.st.a q'.st.length S'.st.cap, .slice S'.ex.a q'.ex.length S'.ex.cap, .slice S'.la.a q'.la.length S'.la.cap, .int .i64 z', .int .i64 0] ∧ Bx gt S' wr (w.heap.size + 1) #[.slice none 0 0, .int .i64 0, .int .i64 0, .bool false, .slice none 0 0, .slice none 0 0, .slice none 0 0, .slice none 0 0, .slice none 0 0, .slice none 0 0, .int .i64 0, .int .i64 0] ∧ Row S' wr base w.heap.size ⟨some ⟨g, 0, none⟩, rc⟩ l)
    case atStart => exact ⟨0, _, S9, q9, z9, Nat.zero_le _, rfl, hi9.out, pos_tok hi9.out, HEQ.out, rfl, hm10.out, ht10.out, hX0.out, hX1.out, hR.out⟩
    case round =>
      obtain ⟨j, x9, S9, q9, z9, hj, rfl, i9, p9, e9, g9, m9, t9, X0, X1, R0⟩ := hrel
      clear hX0 hX1 hX2 hX3 hR hm10 ht10
      have hX0 := hidI X0
      have hX1 := hidI X1
      have hm9 := hidI m9
      have ht9 := hidI t9
      have hi9 := hidI i9
      have hp9 := hidI p9
      have he9 := hidI e9
      have hg9 := hidI g9
      have hR := hidI R0
      clear X0 X1 i9 m9 t9 e9 g9 R0 p9
      by_cases hlt : j < l.length
      · skip
        obtain ⟨c1, c2⟩ := hR.out.cells (g := g) rfl hlt
        have hgl := hR.out.own.lt (g := g) rfl
        have HX : Hid (∀ e, e = l[j] → addAll (fun e => addEp C (expFrom n7 e)) (l.drop (j + 1)) (bd x9 (addEp C (expFrom n7 e))) = exportP C q) := fun e he => by rw [he, ← he9.out]; exact (addAll_drop (fun e => addEp C (expFrom n7 e)) l x9 hlt).symm
        generalize hel : l[j] = el at c1 c2
        have HEL : Hid (el = l[j]) := hel.symm
        clear hel
        obtain ⟨a0, a1, a2, a3, a4, a5, a6, a7, a8, a9, a10, a11, af⟩ := hX0.out.box
        go_upto_region 16 with fail
        go_region_law (first | (go_simp; go_wp2_with (go_at_call 134; refine (l4Exp_spec C gt cap base x9 S9 q9 z9 0 (expFrom n7 el) _ hi9.out hm9.out.drew hp9.out).mono ?_; rintro e w10 ⟨S10, q10, z10, rfl, i10, m10, s10⟩; obtain ⟨d0, d1, d2, d3, d4, d5, d6, d7, d8, d9, d10, d11, df⟩ := (hX0.out.stp s10.undrew).box; unfold pv)))
        all_goals
          clear a0 a1 a2 a3 a4 a5 a6 a7 a8 a9 a10 a11 af d0 d1 d2 d3 d4 d5 d6 d7 d8 d9 d10 d11 df
          have hi10 := hidI i10
          have hm10 := hidI m10
          have hs10 : Hid (Stp S9 wr S10 w10) := s10.undrew
          clear i10 m10 s10
          go_wp2
          go_roundg (gk - 1)
          case rel => exact ⟨j + 1, _, S10, q10, z10, by omega, by go_num, hi10.out, addEp_pos hp9.out hi9.out hi10.out, HX.out el HEL.out, by have := hg9.out; omega, hm10.out.put (hX0.out.stp hs10.out) _ _ _ _ _ _ _ _ _ _ _ _, (ht9.out.step hs10.out).put (by omega) _ _ _ _ _ _ _ _ _ _ _ _, (hX0.out.stp hs10.out).put _ _ _ _ _ _ _ _ _ _ _ _, (hX1.out.stp hs10.out).other (by omega) _ _ _ _ _ _ _ _ _ _ _ _, (hR.out.stp hs10.out).put (hX0.out.stp hs10.out) _ _ _ _ _ _ _ _ _ _ _ _⟩
          case measure => have := hg9.out; omega
      · skip
        obtain ⟨a0, a1, a2, a3, a4, a5, a6, a7, a8, a9, a10, a11, af⟩ := hX0.out.box
        obtain ⟨b0, b1, b2, b3, b4, b5, b6, b7, b8, b9, b10, b11, bf⟩ := hX1.out.box
        go_wp2
        refine bodyPost_ret (results_cell_row rfl _ _ (w.heap.size + 1) 53 _ (0, 0) _ rfl ((hX1.out.put _ _ _ _ _ _ _ _ _ _ _ _)).heap Tryz.underlying53 rfl (by kernel_rfl)) rfl ?_
        exact out_done rfl (show Is (exportP C q) q9 z9 from by rw [← he9.out, List.drop_eq_nil_of_le (by omega)]; exact hi9.out) (hm9.out.put hX1.out _ _ _ _ _ _ _ _ _ _ _ _) (ht9.out.put (by omega) _ _ _ _ _ _ _ _ _ _ _ _)
  | false =>
    cases hF : (decide (z4 < 0) && isT C q4.pos 1 sFrom) with
    | true =>
      obtain ⟨c0, c1, c2, c3, c4, c5, c6, c7, c8, c9, c10, c11, cf⟩ := hX2.out.box
      go_wp2_with fail
      refine (is_spec C gt cap base S4 q4 z4 0 1 sFrom _ hm5.out.tok hfew (by decide)).mono ?_
      rintro e w6 ⟨rfl, hb6⟩
      rw [hF]
      replace hX0 := hidI (hX0.out.below hb6)
      replace hX1 := hidI (hX1.out.below hb6)
      replace hX2 := hidI (hX2.out.below hb6)
      have ht6 := hidI (ht5.out.below hb6)
      have hm6 := hidI (hm5.out.later hb6)
      have hRn : Hid (Row S4 w6 base w.heap.size ⟨some ⟨g, 0, none⟩, rc⟩ l) := hR.out.below hb6
      clear hR
      have hR := hidI hRn
      clear hRn
      clear hb6 ht5 hm5
      clear c0 c1 c2 c3 c4 c5 c6 c7 c8 c9 c10 c11 cf
      obtain ⟨c0, c1, c2, c3, c4, c5, c6, c7, c8, c9, c10, c11, cf⟩ := hX2.out.box
      go_wp2_with fail
      refine (l4Word_spec C gt cap base _ S4 q4 z4 0 sFrom _ hi4.out.fst hm6.out).mono ?_
      rintro e w7 ⟨S7, q7, z7, rfl, i7, m7, s7⟩
      replace hX0 := hidI (hX0.out.stp s7)
      replace hX1 := hidI (hX1.out.stp s7)
      replace hX2 := hidI (hX2.out.stp s7)
      have ht7 := hidI (ht6.out.step s7)
      have hRn : Hid (Row S7 w7 base w.heap.size ⟨some ⟨g, 0, none⟩, rc⟩ l) := hR.out.stp s7
      clear hR
      have hR := hidI hRn
      clear hRn
      clear ht6
      have hm7 := hidI m7
      have hi7 := hidI i7
      clear i7 m7 s7 hm6
      clear c0 c1 c2 c3 c4 c5 c6 c7 c8 c9 c10 c11 cf
      go_wp2_with fail
      refine (l4Spec_spec C gt cap base _ S7 q7 z7 0 _ hi7.out hm7.out).mono ?_
      rintro e w8 ⟨S8, q8, z8, n8, rfl, i8, m8, s8⟩
      replace hX0 := hidI (hX0.out.stp s8)
      replace hX1 := hidI (hX1.out.stp s8)
      replace hX2 := hidI (hX2.out.stp s8)
      have ht8 := hidI (ht7.out.step s8)
      have hRn : Hid (Row S8 w8 base w.heap.size ⟨some ⟨g, 0, none⟩, rc⟩ l) := hR.out.stp s8
      clear hR
      have hR := hidI hRn
      clear hRn
      clear ht7
      have hm8 := hidI m8
      have hi8 := hidI i8
      clear i8 m8 s8 hm7
      have hlt3 : w.heap.size + 1 < w8.heap.size := hX1.out.lt
      have hlt3_2 : w4.heap.size < w8.heap.size := hX2.out.lt
      unfold pv
      go_upto_region 12 with fail
      refine world_any (R := fun W => Bx gt S8 W (w.heap.size) _ ∧ Bx gt S8 W (w.heap.size + 1) _ ∧ Bx gt S8 W (w4.heap.size) _ ∧ Bx gt S8 W (w8.heap.size) _ ∧ Row S8 W base w.heap.size ⟨some ⟨g, 0, none⟩, rc⟩ l ∧ Mem C gt cap base S8 q8 W ∧ SB w.heap.size S w S8 W) ⟨(hX0.out.alloc _), (hX1.out.alloc _), (hX2.out.alloc _), (Bx.new hm8.out _), (hR.out.alloc _), (hm8.out.alloc _), (ht8.out.alloc _)⟩ ?_
      clear hX0 hX1 hX2 ht8 hm8
      clear hR
      rintro w9 ⟨X0, X1, X2, X3, R0, m9, t9⟩
      have hR := hidI R0
      clear R0
      have hX0 := hidI X0
      have hX1 := hidI X1
      have hX2 := hidI X2
      have hX3 := hidI X3
      have hm9 := hidI m9
      have ht9 := hidI t9
      clear m9 t9 X0 X1 X2 X3
      obtain ⟨d0, d1, d2, d3, d4, d5, d6, d7, d8, d9, d10, d11, df⟩ := hX3.out.box
      go_wp2_with fail
      refine (l4Sign_spec C gt cap base _ S8 q8 z8 0 cSemi _ hi8.out.fst hm9.out).mono ?_
      rintro e w10 ⟨S10, q10, z10, rfl, i10, m10, s10⟩
      replace hX0 := hidI (hX0.out.stp s10)
      replace hX1 := hidI (hX1.out.stp s10)
      replace hX2 := hidI (hX2.out.stp s10)
      replace hX3 := hidI (hX3.out.stp s10)
      have ht10 := hidI (ht9.out.step s10)
      have hRn : Hid (Row S10 w10 base w.heap.size ⟨some ⟨g, 0, none⟩, rc⟩ l) := hR.out.stp s10
      clear hR
      have hR := hidI hRn
      clear hRn
      clear ht9
      have hm10 := hidI m10
      have hi10 := hidI i10
      clear i10 m10 s10 hm9
      clear d0 d1 d2 d3 d4 d5 d6 d7 d8 d9 d10 d11 df
      obtain ⟨a0, a1, a2, a3, a4, a5, a6, a7, a8, a9, a10, a11, af⟩ := hX0.out.box
      unfold pv
      go_upto_region 13 with fail
      refine world_any (R := fun W => Bx gt S10 W (w.heap.size) _ ∧ Bx gt S10 W (w.heap.size + 1) _ ∧ Bx gt S10 W (w4.heap.size) _ ∧ Bx gt S10 W (w8.heap.size) _ ∧ Row S10 W base w.heap.size ⟨some ⟨g, 0, none⟩, rc⟩ l ∧ Mem C gt cap base S10 q10 W ∧ SB w.heap.size S w S10 W) ⟨(hX0.out.put _ _ _ _ _ _ _ _ _ _ _ _), (hX1.out.other (by omega) _ _ _ _ _ _ _ _ _ _ _ _), (hX2.out.other (by omega) _ _ _ _ _ _ _ _ _ _ _ _), (hX3.out.other (by omega) _ _ _ _ _ _ _ _ _ _ _ _), (hR.out.put hX0.out _ _ _ _ _ _ _ _ _ _ _ _), (hm10.out.put hX0.out _ _ _ _ _ _ _ _ _ _ _ _), (ht10.out.put (by omega) _ _ _ _ _ _ _ _ _ _ _ _)⟩ ?_
      clear a0 a1 a2 a3 a4 a5 a6 a7 a8 a9 a10 a11 af
      clear hX0 hX1 hX2 hX3 ht10 hm10
      clear hR
      rintro w11 ⟨X0, X1, X2, X3, R0, m11, t11⟩
      have hR := hidI R0
      clear R0
      have hX0 := hidI X0
      have hX1 := hidI X1
      have hX2 := hidI X2
      have hX3 := hidI X3
      have hm11 := hidI m11
      have ht11 := hidI t11
      clear m11 t11 X0 X1 X2 X3
      have HEQ : Hid (_ = exportP C q) := (list_bind (G := fun b e => addEp C (expFrom b e)) hi4.out hi8.out).trans ((from_bind hi4.out (.inr hF)).trans HV1.out.symm)
      go_wp2
      go_loopg [9] l.length (fun k i wr => ∃ (j : Nat) (x' : PR) (S' : Sv) (q' : PS) (z' : Int), j ≤ l.length ∧ i = .int .i64 j ∧ Is x' q' z' ∧ (z' < 0 → 1 ≤ q'.pos) ∧ addAll (fun e => addEp C (expFrom n8 e)) (l.drop j) x' = exportP C q ∧ l.length - j = k ∧ Mem C gt cap base S' q' wr ∧ SB w.heap.size S w S' wr ∧ Bx gt S' wr w.heap.size #[.slice (some ⟨gt, 0, none⟩) C.ts.length cap, .int .i64 q'.pos, .int .i64 C.fin, .bool C.scr, .slice S'.rq.a q'.rq.length S'.rq.cap, .slice S'.im.a q'.im.length S'.im.cap, .slice S'.ep.a q'.ep.length S'.ep.cap, .slice S'.st.a q'.st.length S'.st.cap, .slice S'.ex.a q'.ex.length S'.ex.cap, .slice S'.la.a q'.la.length S'.la.cap, .int .i64 z', .int .i64 0] ∧ Bx gt S' wr (w.heap.size + 1) #[.slice none 0 0, .int .i64 0, .int .i64 0, .bool false, .slice none 0 0, .slice none 0 0, .slice none 0 0, .slice none 0 0, .slice none 0 0, .slice none 0 0, .int .i64 0, .int .i64 0] ∧ Row S' wr base w.heap.size ⟨some ⟨g, 0, none⟩, rc⟩ l)
      case atStart => exact ⟨0, _, S10, q10, z10, Nat.zero_le _, rfl, hi10.out, pos_tok hi10.out, HEQ.out, rfl, hm11.out, ht11.out, hX0.out, hX1.out, hR.out⟩
      case round =>
        obtain ⟨j, x9, S9, q9, z9, hj, rfl, i9, p9, e9, g9, m9, t9, X0, X1, R0⟩ := hrel
        clear hX0 hX1 hX2 hX3 hR hm11 ht11
        have hX0 := hidI X0
        have hX1 := hidI X1
        have hm9 := hidI m9
        have ht9 := hidI t9
        have hi9 := hidI i9
        have hp9 := hidI p9
        have he9 := hidI e9
        have hg9 := hidI g9
        have hR := hidI R0
        clear X0 X1 i9 m9 t9 e9 g9 R0 p9
        by_cases hlt : j < l.length
        · skip
          obtain ⟨c1, c2⟩ := hR.out.cells (g := g) rfl hlt
          have hgl := hR.out.own.lt (g := g) rfl
          have HX : Hid (∀ e, e = l[j] → addAll (fun e => addEp C (expFrom n8 e)) (l.drop (j + 1)) (bd x9 (addEp C (expFrom n8 e))) = exportP C q) := fun e he => by rw [he, ← he9.out]; exact (addAll_drop (fun e => addEp C (expFrom n8 e)) l x9 hlt).symm
          generalize hel : l[j] = el at c1 c2
          have HEL : Hid (el = l[j]) := hel.symm
          clear hel
          obtain ⟨a0, a1, a2, a3, a4, a5, a6, a7, a8, a9, a10, a11, af⟩ := hX0.out.box
          go_upto_region 16 with fail
          go_region_law (first | (go_simp; go_wp2_with (go_at_call 134; refine (l4Exp_spec C gt cap base x9 S9 q9 z9 0 (expFrom n8 el) _ hi9.out hm9.out.drew hp9.out).mono ?_; rintro e w10 ⟨S10, q10, z10, rfl, i10, m10, s10⟩; obtain ⟨d0, d1, d2, d3, d4, d5, d6, d7, d8, d9, d10, d11, df⟩ := (hX0.out.stp s10.undrew).box; unfold pv)))
          all_goals
            clear a0 a1 a2 a3 a4 a5 a6 a7 a8 a9 a10 a11 af d0 d1 d2 d3 d4 d5 d6 d7 d8 d9 d10 d11 df
            have hi10 := hidI i10
            have hm10 := hidI m10
            have hs10 : Hid (Stp S9 wr S10 w10) := s10.undrew
            clear i10 m10 s10
            go_wp2
            go_roundg (gk - 1)
            case rel => exact ⟨j + 1, _, S10, q10, z10, by omega, by go_num, hi10.out, addEp_pos hp9.out hi9.out hi10.out, HX.out el HEL.out, by have := hg9.out; omega, hm10.out.put (hX0.out.stp hs10.out) _ _ _ _ _ _ _ _ _ _ _ _, (ht9.out.step hs10.out).put (by omega) _ _ _ _ _ _ _ _ _ _ _ _, (hX0.out.stp hs10.out).put _ _ _ _ _ _ _ _ _ _ _ _, (hX1.out.stp hs10.out).other (by omega) _ _ _ _ _ _ _ _ _ _ _ _, (hR.out.stp hs10.out).put (hX0.out.stp hs10.out) _ _ _ _ _ _ _ _ _ _ _ _⟩
            case measure => have := hg9.out; omega
        · skip
          obtain ⟨a0, a1, a2, a3, a4, a5, a6, a7, a8, a9, a10, a11, af⟩ := hX0.out.box
          obtain ⟨b0, b1, b2, b3, b4, b5, b6, b7, b8, b9, b10, b11, bf⟩ := hX1.out.box
          go_wp2
          refine bodyPost_ret (results_cell_row rfl _ _ (w.heap.size + 1) 53 _ (0, 0) _ rfl ((hX1.out.put _ _ _ _ _ _ _ _ _ _ _ _)).heap Tryz.underlying53 rfl (by kernel_rfl)) rfl ?_
          exact out_done rfl (show Is (exportP C q) q9 z9 from by rw [← he9.out, List.drop_eq_nil_of_le (by omega)]; exact hi9.out) (hm9.out.put hX1.out _ _ _ _ _ _ _ _ _ _ _ _) (ht9.out.put (by omega) _ _ _ _ _ _ _ _ _ _ _ _)
    | false =>
      obtain ⟨c0, c1, c2, c3, c4, c5, c6, c7, c8, c9, c10, c11, cf⟩ := hX2.out.box
      go_wp2_with fail
      refine (is_spec C gt cap base S4 q4 z4 0 1 sFrom _ hm5.out.tok hfew (by decide)).mono ?_
      rintro e w6 ⟨rfl, hb6⟩
      rw [hF]
      replace hX0 := hidI (hX0.out.below hb6)
      replace hX1 := hidI (hX1.out.below hb6)
      replace hX2 := hidI (hX2.out.below hb6)
      have ht6 := hidI (ht5.out.below hb6)
      have hm6 := hidI (hm5.out.later hb6)
      have hRn : Hid (Row S4 w6 base w.heap.size ⟨some ⟨g, 0, none⟩, rc⟩ l) := hR.out.below hb6
      clear hR
      have hR := hidI hRn
      clear hRn
      clear hb6 ht5 hm5
      clear c0 c1 c2 c3 c4 c5 c6 c7 c8 c9 c10 c11 cf
      obtain ⟨c0, c1, c2, c3, c4, c5, c6, c7, c8, c9, c10, c11, cf⟩ := hX2.out.box
      go_wp2_with fail
      refine (l4Sign_spec C gt cap base _ S4 q4 z4 0 cSemi _ hi4.out.fst hm6.out).mono ?_
      rintro e w7 ⟨S7, q7, z7, rfl, i7, m7, s7⟩
      replace hX0 := hidI (hX0.out.stp s7)
      replace hX1 := hidI (hX1.out.stp s7)
      replace hX2 := hidI (hX2.out.stp s7)
      have ht7 := hidI (ht6.out.step s7)
      have hRn : Hid (Row S7 w7 base w.heap.size ⟨some ⟨g, 0, none⟩, rc⟩ l) := hR.out.stp s7
      clear hR
      have hR := hidI hRn
      clear hRn
      clear ht6
      have hm7 := hidI m7
      have hi7 := hidI i7
      clear i7 m7 s7 hm6
      clear c0 c1 c2 c3 c4 c5 c6 c7 c8 c9 c10 c11 cf
      obtain ⟨a0, a1, a2, a3, a4, a5, a6, a7, a8, a9, a10, a11, af⟩ := hX0.out.box
      unfold pv
      go_upto_region 6 with fail
      refine world_any (R := fun W => Bx gt S7 W (w.heap.size) _ ∧ Bx gt S7 W (w.heap.size + 1) _ ∧ Bx gt S7 W (w4.heap.size) _ ∧ Row S7 W base w.heap.size ⟨some ⟨g, 0, none⟩, rc⟩ l ∧ Mem C gt cap base S7 q7 W ∧ SB w.heap.size S w S7 W) ⟨(hX0.out.put _ _ _ _ _ _ _ _ _ _ _ _), (hX1.out.other (by omega) _ _ _ _ _ _ _ _ _ _ _ _), (hX2.out.other (by omega) _ _ _ _ _ _ _ _ _ _ _ _), (hR.out.put hX0.out _ _ _ _ _ _ _ _ _ _ _ _), (hm7.out.put hX0.out _ _ _ _ _ _ _ _ _ _ _ _), (ht7.out.put (by omega) _ _ _ _ _ _ _ _ _ _ _ _)⟩ ?_
      clear a0 a1 a2 a3 a4 a5 a6 a7 a8 a9 a10 a11 af
      clear hX0 hX1 hX2 ht7 hm7
      clear hR
      rintro w8 ⟨X0, X1, X2, R0, m8, t8⟩
      have hR := hidI R0
      clear R0
      have hX0 := hidI X0
      have hX1 := hidI X1
      have hX2 := hidI X2
      have hm8 := hidI m8
      have ht8 := hidI t8
      clear m8 t8 X0 X1 X2
      have HEQ : Hid (_ = exportP C q) := (local_bind hi4.out hA hF).trans HV1.out.symm
      go_wp2
      go_loopg [6] l.length (fun k i wr => ∃ (j : Nat) (x' : PR) (S' : Sv) (q' : PS) (z' : Int), j ≤ l.length ∧ i = .int .i64 j ∧ Is x' q' z' ∧ (z' < 0 → 1 ≤ q'.pos) ∧ addAll (fun e => addEp C (expLoc e)) (l.drop j) x' = exportP C q ∧ l.length - j = k ∧ Mem C gt cap base S' q' wr ∧ SB w.heap.size S w S' wr ∧ Bx gt S' wr w.heap.size #[.slice (some ⟨gt, 0, none⟩) C.ts.length cap, .int .i64 q'.pos, .int .i64 C.fin, .bool C.scr, .slice S'.rq.a q'.rq.length S'.rq.cap, .slice S'.im.a q'.im.length S'.im.cap, .slice S'.ep.a q'.ep.length S'.ep.cap, .slice S'.st.a q'.st.length S'.st.cap, .slice S'.ex.a q'.ex.length S'.ex.cap, .slice S'.la.a q'.la.length S'.la.cap, .int .i64 z', .int .i64 0] ∧ Bx gt S' wr (w.heap.size + 1) #[.slice none 0 0, .int .i64 0, .int .i64 0, .bool false, .slice none 0 0, .slice none 0 0, .slice none 0 0, .slice none 0 0, .slice none 0 0, .slice none 0 0, .int .i64 0, .int .i64 0] ∧ Row S' wr base w.heap.size ⟨some ⟨g, 0, none⟩, rc⟩ l)
      case atStart => exact ⟨0, _, S7, q7, z7, Nat.zero_le _, rfl, hi7.out, pos_tok hi7.out, HEQ.out, rfl, hm8.out, ht8.out, hX0.out, hX1.out, hR.out⟩
      case round =>
        obtain ⟨j, x9, S9, q9, z9, hj, rfl, i9, p9, e9, g9, m9, t9, X0, X1, R0⟩ := hrel
        clear hX0 hX1 hX2 hR hm8 ht8
        have hX0 := hidI X0
        have hX1 := hidI X1
        have hm9 := hidI m9
        have ht9 := hidI t9
        have hi9 := hidI i9
        have hp9 := hidI p9
        have he9 := hidI e9
        have hg9 := hidI g9
        have hR := hidI R0
        clear X0 X1 i9 m9 t9 e9 g9 R0 p9
        by_cases hlt : j < l.length
        · skip
          obtain ⟨c1, c2⟩ := hR.out.cells (g := g) rfl hlt
          have hgl := hR.out.own.lt (g := g) rfl
          have HX : Hid (∀ e, e = l[j] → addAll (fun e => addEp C (expLoc e)) (l.drop (j + 1)) (bd x9 (addEp C (expLoc e))) = exportP C q) := fun e he => by rw [he, ← he9.out]; exact (addAll_drop (fun e => addEp C (expLoc e)) l x9 hlt).symm
          generalize hel : l[j] = el at c1 c2
          have HEL : Hid (el = l[j]) := hel.symm
          clear hel
          obtain ⟨a0, a1, a2, a3, a4, a5, a6, a7, a8, a9, a10, a11, af⟩ := hX0.out.box
          go_upto_region 9 with fail
          go_region_law (first | (go_simp; go_wp2_with (go_at_call 134; refine (l4Exp_spec C gt cap base x9 S9 q9 z9 0 (expLoc el) _ hi9.out hm9.out.drew hp9.out).mono ?_; rintro e w10 ⟨S10, q10, z10, rfl, i10, m10, s10⟩; obtain ⟨d0, d1, d2, d3, d4, d5, d6, d7, d8, d9, d10, d11, df⟩ := (hX0.out.stp s10.undrew).box; unfold pv)))
          all_goals
            clear a0 a1 a2 a3 a4 a5 a6 a7 a8 a9 a10 a11 af d0 d1 d2 d3 d4 d5 d6 d7 d8 d9 d10 d11 df
            have hi10 := hidI i10
            have hm10 := hidI m10
            have hs10 : Hid (Stp S9 wr S10 w10) := s10.undrew
            clear i10 m10 s10
            go_wp2
            go_roundg (gk - 1)
            case rel => exact ⟨j + 1, _, S10, q10, z10, by omega, by go_num, hi10.out, addEp_pos hp9.out hi9.out hi10.out, HX.out el HEL.out, by have := hg9.out; omega, hm10.out.put (hX0.out.stp hs10.out) _ _ _ _ _ _ _ _ _ _ _ _, (ht9.out.step hs10.out).put (by omega) _ _ _ _ _ _ _ _ _ _ _ _, (hX0.out.stp hs10.out).put _ _ _ _ _ _ _ _ _ _ _ _, (hX1.out.stp hs10.out).other (by omega) _ _ _ _ _ _ _ _ _ _ _ _, (hR.out.stp hs10.out).put (hX0.out.stp hs10.out) _ _ _ _ _ _ _ _ _ _ _ _⟩
            case measure => have := hg9.out; omega
        · skip
          obtain ⟨a0, a1, a2, a3, a4, a5, a6, a7, a8, a9, a10, a11, af⟩ := hX0.out.box
          obtain ⟨b0, b1, b2, b3, b4, b5, b6, b7, b8, b9, b10, b11, bf⟩ := hX1.out.box
          go_wp2
          refine bodyPost_ret (results_cell_row rfl _ _ (w.heap.size + 1) 53 _ (0, 0) _ rfl ((hX1.out.put _ _ _ _ _ _ _ _ _ _ _ _)).heap Tryz.underlying53 rfl (by kernel_rfl)) rfl ?_
          exact out_done rfl (show Is (exportP C q) q9 z9 from by rw [← he9.out, List.drop_eq_nil_of_le (by omega)]; exact hi9.out) (hm9.out.put hX1.out _ _ _ _ _ _ _ _ _ _ _ _) (ht9.out.put (by omega) _ _ _ _ _ _ _ _ _ _ _ _)
end Go.Proofs.YticdggnnpjachaaGreat
