/-
  What the laws' helpers over rows lean on. No program is spoken of.
  Rows of the call's own that are marked cell by cell. No program is spoken of.
  What the laws' markers of lists answer: the walks.
  What the laws' askers of marked lists answer: the walks.
  Rows beside a row that is marked. No program is spoken of but for the numbers of its types.
  What the laws' marker and asker of programs answer, from any mark on: the walks.
  Paths, and what Clean makes of them, as plain functions; a row of texts in memory. No program is spoken of.
  The directories that a path is in, as a plain function. No program is spoken of.
  Rows of texts of the call's own, one beside another; whether a text is in a row. No program is spoken of.
-/
import Derived.Laws.OwnMore
import Derived.Test.YtaakfnclelcopaaCTrimSrcModToLawMark
namespace Go.Proofs.Ytaakfnclelcopaa
open Go.RowKit Go.PlainAid Go.Sort

theorem rowsome {α : Type} {l : List α} {j : Nat} (h : j < l.length) : ∃ x, l[j]? = some x := ⟨_, List.getElem?_eq_getElem h⟩
end Go.Proofs.Ytaakfnclelcopaa
namespace Go.Proofs.Ytaakfnclelcopaa
open Go.RowKit Go.PlainAid Go.Sort

def FK (kd : Nat → Bool) (m k i : Nat) : Value := if kd (i % m) then .string (mtS (k + i)) else .int .i64 ((k + i : Nat) : Int)
theorem fk_s {kd : Nat → Bool} {m k i c q : Nat} (hc : i % m = c) (hk : kd c = true) (hq : q = k + i) : FK kd m k i = .string (mtS q) := by rw [FK, hc, hk, hq]; rfl
theorem fk_i {kd : Nat → Bool} {m k i c q : Nat} (hc : i % m = c) (hk : kd c = false) (hq : q = k + i) : FK kd m k i = .int .i64 (q : Int) := by rw [FK, hc, hk, hq]; rfl
def OwnG (w : World) (base : Nat) (e : TypeId) (size : Nat) (r : Rw) (n : Nat) (F : Nat → Value) (c : Nat) : Prop := ∃ xs, OwnR w base e size r n xs ∧ ∀ i, i < c → xs[i]? = some (F i)
theorem OwnG.start {w : World} {base size n : Nat} {e : TypeId} {r : Rw} {xs : List Value} (h : OwnR w base e size r n xs) (F : Nat → Value) : OwnG w base e size r n F 0 := ⟨xs, h, fun i hi => absurd hi (Nat.not_lt_zero i)⟩
theorem OwnG.keep {w w' : World} {base size n c : Nat} {e : TypeId} {r : Rw} {F : Nat → Value} (h : OwnG w base e size r n F c) (hk : ∀ k, r.blk = some k → w'.heap[k]? = w.heap[k]?) : OwnG w' base e size r n F c := by
  obtain ⟨xs, h1, h2⟩ := h
  exact ⟨xs, h1.keep hk, h2⟩
theorem OwnG.typed {w : World} {base size n c : Nat} {e : TypeId} {r : Rw} {F : Nat → Value} (h : OwnG w base e size r n F c) {k : Nat} (hk : r.blk = some k) : base ≤ k ∧ k < w.heap.size ∧ ∃ cur, w.heap[k]? = some (.cells cur e (0, 0)) := by
  obtain ⟨xs, h1, _⟩ := h
  exact h1.typed hk
theorem OwnG.later {w w' : World} {base size n c : Nat} {e : TypeId} {r : Rw} {F : Nat → Value} (h : OwnG w base e size r n F c) (hb : Below w.heap.size w w') : OwnG w' base e size r n F c := h.keep fun k g => hb.block k (h.typed g).2.1
theorem OwnR.at {w : World} {base size n g : Nat} {e : TypeId} {r : Rw} {xs : List Value} (h : OwnR w base e size r n xs) (hg : r.a = some ⟨g, 0, none⟩) : w.ownsRow base e size (.slice (some ⟨g, 0, none⟩) n r.cap) n xs := by
  unfold OwnR at h
  rw [hg] at h
  exact h
theorem OwnG.has {w : World} {base size n c g : Nat} {e : TypeId} {r : Rw} {F : Nat → Value} (h : OwnG w base e size r n F c) (hg : r.a = some ⟨g, 0, none⟩) (i : Nat) (hi : i < n * size) : ∃ v, w.cell? ⟨g, i, none⟩ = some v := by
  obtain ⟨xs, h1, _⟩ := h
  rw [(h1.at hg).cellAt i hi]
  exact ⟨_, List.getElem?_eq_getElem (by rw [h1.1]; exact hi)⟩
theorem OwnG.cell {w : World} {base size n c g : Nat} {e : TypeId} {r : Rw} {F : Nat → Value} (h : OwnG w base e size r n F c) (hg : r.a = some ⟨g, 0, none⟩) (i : Nat) (hi : i < n * size) (hc : i < c) : w.cell? ⟨g, i, none⟩ = some (F i) := by
  obtain ⟨xs, h1, h2⟩ := h
  rw [(h1.at hg).cellAt i hi]
  exact h2 i hc
theorem OwnG.free {w : World} {base size n c g : Nat} {e : TypeId} {r : Rw} {F : Nat → Value} (h : OwnG w base e size r n F c) (hg : r.a = some ⟨g, 0, none⟩) (i : Nat) : w.frozen? ⟨g, i, none⟩ = false := by
  obtain ⟨xs, h1, _⟩ := h
  exact (h1.at hg).frozenAt i
theorem blk_of {r : Rw} {g : Nat} (hg : r.a = some ⟨g, 0, none⟩) : r.blk = some g := by rw [Rw.blk, hg]; rfl
theorem OwnG.put {w : World} {base size n c g : Nat} {e : TypeId} {r : Rw} {F : Nat → Value} (h : OwnG w base e size r n F c) (hg : r.a = some ⟨g, 0, none⟩) (hc : c < n * size) {v : Value} (hv : F c = v) : OwnG (w.setCell ⟨g, c, none⟩ v) base e size r n F (c + 1) := by
  subst hv
  obtain ⟨xs, h1, h2⟩ := h
  have hl := h1.1
  refine ⟨xs.set c (F c), ?_, fun i hi => ?_⟩
  · unfold OwnR
    rw [hg]
    exact ((h1.at hg).stored c (F c)).1
  · by_cases e : i = c
    · subst e
      exact List.getElem?_set_self (by omega)
    · rw [List.getElem?_set_ne (by omega)]
      exact h2 i (by omega)
theorem gb_refl (w : World) (b : Option Nat) : w.grownBy w b := ⟨rfl, rfl, rfl, Nat.le_refl _, fun _ _ _ => rfl⟩
theorem gb_trans {w w1 w2 : World} {b : Option Nat} (h : w.grownBy w1 b) (k : w1.grownBy w2 b) : w.grownBy w2 b :=
  ⟨k.os.trans h.os, k.tape.trans h.tape, k.output.trans h.output, Nat.le_trans h.size k.size, fun i hi hn => (k.block i (Nat.lt_of_lt_of_le hi h.size) hn).trans (h.block i hi hn)⟩
theorem gb_below {w w1 w2 : World} {b : Option Nat} (h : w.grownBy w1 b) (k : Below w1.heap.size w1 w2) : w.grownBy w2 b :=
  gb_trans h ⟨k.os, k.tape, k.output, k.size, fun i hi _ => k.block i hi⟩
theorem gb_set {w w1 : World} {g i : Nat} {u : Value} {b : Option Nat} (h : w.grownBy w1 b) (hb : b = some g) : w.grownBy (w1.setCell ⟨g, i, none⟩ u) b :=
  gb_trans h ⟨rfl, rfl, rfl, by show _ ≤ (w1.heap.modify _ _).size; simp, fun k _ hn => Below.heap_setCell w1 ⟨g, i, none⟩ u k (fun e => hn (by rw [hb, e]))⟩
end Go.Proofs.Ytaakfnclelcopaa
namespace Go.Proofs.Ytaakfnclelcopaa
open Go.RowKit Go.PlainAid Go.Sort

set_option maxRecDepth 100000 in
set_option maxHeartbeats 3200000 in
theorem markStringS_zero (a1 : Option Addr) (c1 k0 : Nat) (w : World) : Calls Try.prog 14 #[.slice a1 0 c1, .int .i64 k0] w fun e w' => e = .returned (.int .i64 k0) ∧ w' = w := by
  go_enter Try.func14, Try.ntmps14
  go_wp2
  go_loopg [1, 5] 1 (fun k q i wr => k = 1 ∧ q = .int .i64 k0 ∧ i = .int .i64 0 ∧ wr = w)
  case atStart => exact ⟨rfl, rfl, rfl, rfl⟩
  case round =>
    obtain ⟨rfl, rfl, rfl, rfl⟩ := hrel
    go_wp2
    go_ret
    exact ⟨rfl, rfl⟩
set_option maxRecDepth 100000 in
set_option maxHeartbeats 3200000 in
theorem markStringS_row (base g n k0 : Nat) (r : Rw) (w : World) (h1 : OwnG w base 9 1 r n (FK (fun _ => true) 1 k0) 0) (e1 : r.a = some ⟨g, 0, none⟩) (hn : n ≤ 1048576) (hk0 : 0 < k0) (hk : k0 + n * 1 ≤ 7900000) :
    Calls Try.prog 14 #[.slice (some ⟨g, 0, none⟩) n r.cap, .int .i64 k0] w fun e w' => e = .returned (.int .i64 ((k0 + n : Nat) : Int)) ∧ OwnG w' base 9 1 r n (FK (fun _ => true) 1 k0) (n) ∧ w.grownBy w' r.blk := by
  have H1 := hidI h1
  have E1 := hidI e1
  clear h1 e1
  go_enter Try.func14, Try.ntmps14
  go_wp2
  go_loopg [1, 5] n (fun k q i wr => ∃ j : Nat, i = .int .i64 j ∧ j + k = n ∧ q = .int .i64 ((k0 + j : Nat) : Int) ∧ OwnG wr base 9 1 r n (FK (fun _ => true) 1 k0) (j) ∧ w.grownBy wr r.blk)
  case atStart => exact ⟨0, rfl, by omega, by simp, by exact H1.out, gb_refl _ _⟩
  case round =>
    obtain ⟨j, rfl, hj, hq, ho, hg⟩ := hrel
    have HOr := hidI ho
    have HGr := hidI hg
    clear ho hg
    by_cases hlt : j < n
    · have hlti : (j : Int) < (n : Int) := by omega
      obtain ⟨q0, hq0⟩ : ∃ q0 : Nat, q0 = k0 + (j) := ⟨_, rfl⟩
      rw [← hq0] at hq
      subst hq
      obtain ⟨q1, hq1⟩ : ∃ q1 : Nat, q1 = q0 + 1 := ⟨_, rfl⟩
      have eq1 : (q0 : Int) + 1 = (q1 : Int) := by omega
      have HF0 : Hid (FK (fun _ => true) 1 k0 (j) = .string (mtS q0)) := fk_s (c := 0) (by omega) (by decide) (by omega)
      have HQ : Hid (q1 = k0 + (j + 1)) := by show q1 = _; omega
      have hqb : q1 ≤ 7950000 := by omega
      have hq0p : 0 < q0 := by omega
      have HQB0 : Hid (0 < q0 ∧ q0 ≤ 8000000) := ⟨by omega, by omega⟩
      obtain ⟨j1, hj1⟩ : ∃ j1, j1 = j + 1 := ⟨_, rfl⟩
      have ej : (j : Int) + 1 = (j1 : Int) := by omega
      have HJ := hidI hj1
      clear hj1 hq0 hq1
      obtain ⟨vr0, hvr0⟩ := HOr.out.has E1.out (j) (by omega)
      have hfr0 := HOr.out.free E1.out (j)
      go_wp2_with fail
      refine (markText_far q0 _ HQB0.out.1 HQB0.out.2).mono ?_
      rintro e w0 ⟨rfl, hb0⟩
      have HO0 := hidI (HOr.out.later hb0)
      have HG0 := hidI (gb_below HGr.out hb0)
      clear hb0
      obtain ⟨vt0_0, hvt0_0⟩ := HO0.out.has E1.out (j) (by omega)
      have hft0_0 := HO0.out.free E1.out (j)
      have HO0x : Hid (OwnG (w0.setCell ⟨g, j, none⟩ (.string (mtS q0))) base 9 1 r n (FK (fun _ => true) 1 k0) (j + 1)) := HO0.out.put E1.out (by omega) HF0.out
      have HG0x : Hid (w.grownBy (w0.setCell ⟨g, j, none⟩ (.string (mtS q0))) r.blk) := gb_set HG0.out (blk_of E1.out)
      go_wp2
      go_roundg (gk - 1)
      case rel => exact ⟨j1, rfl, by have := HJ.out; omega, by have := HJ.out; have := HQ.out; rw [show q1 = k0 + j1 from by omega], by have := HO0x.out; rw [show j1 = j + 1 from by have := HJ.out; omega]; exact this, HG0x.out⟩
      case measure => omega
    · have hlti : ¬ (j : Int) < (n : Int) := by omega
      obtain rfl : j = n := by omega
      subst hq
      go_wp2
      go_ret
      exact ⟨rfl, HOr.out, HGr.out⟩
theorem markStringS_any (base n k0 : Nat) (r : Rw) (w : World) (h1 : OwnG w base 9 1 r n (FK (fun _ => true) 1 k0) 0) (hn : n ≤ 1048576) (hk0 : 0 < k0) (hk : k0 + n * 1 ≤ 7900000) :
    Calls Try.prog 14 #[.slice r.a n r.cap, .int .i64 k0] w fun e w' => e = .returned (.int .i64 ((k0 + n : Nat) : Int)) ∧ OwnG w' base 9 1 r n (FK (fun _ => true) 1 k0) (n) ∧ w.grownBy w' r.blk := by
  by_cases h0 : n = 0
  · subst h0
    refine (markStringS_zero _ _ k0 w).mono ?_
    rintro e w1 ⟨rfl, rfl⟩
    exact ⟨by simp, by exact h1, gb_refl _ _⟩
  · obtain ⟨xs, h2, h3⟩ := h1
    rcases h2.nil_or with ⟨_, _, e⟩ | ⟨g, e1⟩
    · exact absurd e h0
    · rw [e1]
      exact markStringS_row base g n k0 r w ⟨xs, h2, h3⟩ e1 hn hk0 hk
set_option maxRecDepth 100000 in
set_option maxHeartbeats 3200000 in
theorem markImpS_zero (a1 : Option Addr) (c1 k0 : Nat) (w : World) : Calls Try.prog 41 #[.slice a1 0 c1, .int .i64 k0] w fun e w' => e = .returned (.int .i64 k0) ∧ w' = w := by
  go_enter Try.func41, Try.ntmps41
  go_wp2
  go_loopg [1, 5] 1 (fun k q i wr => k = 1 ∧ q = .int .i64 k0 ∧ i = .int .i64 0 ∧ wr = w)
  case atStart => exact ⟨rfl, rfl, rfl, rfl⟩
  case round =>
    obtain ⟨rfl, rfl, rfl, rfl⟩ := hrel
    go_wp2
    go_ret
    exact ⟨rfl, rfl⟩
set_option maxRecDepth 100000 in
set_option maxHeartbeats 3200000 in
theorem markImpS_row (base g n k0 : Nat) (r : Rw) (w : World) (h1 : OwnG w base 78 3 r n (FK (fun _ => true) 3 k0) 0) (e1 : r.a = some ⟨g, 0, none⟩) (hn : n ≤ 1048576) (hk0 : 0 < k0) (hk : k0 + n * 3 ≤ 7900000) :
    Calls Try.prog 41 #[.slice (some ⟨g, 0, none⟩) n r.cap, .int .i64 k0] w fun e w' => e = .returned (.int .i64 ((k0 + n * 3 : Nat) : Int)) ∧ OwnG w' base 78 3 r n (FK (fun _ => true) 3 k0) (n * 3) ∧ w.grownBy w' r.blk := by
  have H1 := hidI h1
  have E1 := hidI e1
  clear h1 e1
  go_enter Try.func41, Try.ntmps41
  go_wp2
  go_loopg [1, 5] n (fun k q i wr => ∃ j : Nat, i = .int .i64 j ∧ j + k = n ∧ q = .int .i64 ((k0 + j * 3 : Nat) : Int) ∧ OwnG wr base 78 3 r n (FK (fun _ => true) 3 k0) (j * 3) ∧ w.grownBy wr r.blk)
  case atStart => exact ⟨0, rfl, by omega, by simp, by rw [Nat.zero_mul]; exact H1.out, gb_refl _ _⟩
  case round =>
    obtain ⟨j, rfl, hj, hq, ho, hg⟩ := hrel
    have HOr := hidI ho
    have HGr := hidI hg
    clear ho hg
    by_cases hlt : j < n
    · have hlti : (j : Int) < (n : Int) := by omega
      obtain ⟨q0, hq0⟩ : ∃ q0 : Nat, q0 = k0 + (j * 3) := ⟨_, rfl⟩
      rw [← hq0] at hq
      subst hq
      obtain ⟨q1, hq1⟩ : ∃ q1 : Nat, q1 = q0 + 1 := ⟨_, rfl⟩
      have eq1 : (q0 : Int) + 1 = (q1 : Int) := by omega
      obtain ⟨q2, hq2⟩ : ∃ q2 : Nat, q2 = q1 + 1 := ⟨_, rfl⟩
      have eq2 : (q1 : Int) + 1 = (q2 : Int) := by omega
      obtain ⟨q3, hq3⟩ : ∃ q3 : Nat, q3 = q2 + 1 := ⟨_, rfl⟩
      have eq3 : (q2 : Int) + 1 = (q3 : Int) := by omega
      have HF0 : Hid (FK (fun _ => true) 3 k0 (j * 3) = .string (mtS q0)) := fk_s (c := 0) (by omega) (by decide) (by omega)
      have HF1 : Hid (FK (fun _ => true) 3 k0 (j * 3 + 1) = .string (mtS q1)) := fk_s (c := 1) (by omega) (by decide) (by omega)
      have HF2 : Hid (FK (fun _ => true) 3 k0 (j * 3 + 2) = .string (mtS q2)) := fk_s (c := 2) (by omega) (by decide) (by omega)
      have HQ : Hid (q3 = k0 + (j * 3 + 3)) := by show q3 = _; omega
      have hqb : q3 ≤ 7950000 := by omega
      have hq0p : 0 < q0 := by omega
      have HQB0 : Hid (0 < q0 ∧ q0 ≤ 8000000) := ⟨by omega, by omega⟩
      have HQB1 : Hid (0 < q1 ∧ q1 ≤ 8000000) := ⟨by omega, by omega⟩
      have HQB2 : Hid (0 < q2 ∧ q2 ≤ 8000000) := ⟨by omega, by omega⟩
      obtain ⟨j1, hj1⟩ : ∃ j1, j1 = j + 1 := ⟨_, rfl⟩
      have ej : (j : Int) + 1 = (j1 : Int) := by omega
      have HJ := hidI hj1
      clear hj1 hq0 hq1 hq2 hq3
      obtain ⟨vr0, hvr0⟩ := HOr.out.has E1.out (j * 3) (by omega)
      have hfr0 := HOr.out.free E1.out (j * 3)
      obtain ⟨vr1, hvr1⟩ := HOr.out.has E1.out (j * 3 + 1) (by omega)
      have hfr1 := HOr.out.free E1.out (j * 3 + 1)
      obtain ⟨vr2, hvr2⟩ := HOr.out.has E1.out (j * 3 + 2) (by omega)
      have hfr2 := HOr.out.free E1.out (j * 3 + 2)
      go_wp2_with fail
      refine (markText_far q0 _ HQB0.out.1 HQB0.out.2).mono ?_
      rintro e w0 ⟨rfl, hb0⟩
      have HO0 := hidI (HOr.out.later hb0)
      have HG0 := hidI (gb_below HGr.out hb0)
      clear hb0
      obtain ⟨vt0_0, hvt0_0⟩ := HO0.out.has E1.out (j * 3) (by omega)
      have hft0_0 := HO0.out.free E1.out (j * 3)
      obtain ⟨vt0_1, hvt0_1⟩ := HO0.out.has E1.out (j * 3 + 1) (by omega)
      have hft0_1 := HO0.out.free E1.out (j * 3 + 1)
      obtain ⟨vt0_2, hvt0_2⟩ := HO0.out.has E1.out (j * 3 + 2) (by omega)
      have hft0_2 := HO0.out.free E1.out (j * 3 + 2)
      have HO0x : Hid (OwnG (w0.setCell ⟨g, j * 3, none⟩ (.string (mtS q0))) base 78 3 r n (FK (fun _ => true) 3 k0) (j * 3 + 1)) := HO0.out.put E1.out (by omega) HF0.out
      have HG0x : Hid (w.grownBy (w0.setCell ⟨g, j * 3, none⟩ (.string (mtS q0))) r.blk) := gb_set HG0.out (blk_of E1.out)
      go_wp2_with fail
      refine (markText_far q1 _ HQB1.out.1 HQB1.out.2).mono ?_
      rintro e w1 ⟨rfl, hb1⟩
      have HO1 := hidI (HO0x.out.later hb1)
      have HG1 := hidI (gb_below HG0x.out hb1)
      clear hb1
      obtain ⟨vt1_1, hvt1_1⟩ := HO1.out.has E1.out (j * 3 + 1) (by omega)
      have hft1_1 := HO1.out.free E1.out (j * 3 + 1)
      obtain ⟨vt1_2, hvt1_2⟩ := HO1.out.has E1.out (j * 3 + 2) (by omega)
      have hft1_2 := HO1.out.free E1.out (j * 3 + 2)
      have HO1x : Hid (OwnG (w1.setCell ⟨g, j * 3 + 1, none⟩ (.string (mtS q1))) base 78 3 r n (FK (fun _ => true) 3 k0) (j * 3 + 1 + 1)) := HO1.out.put E1.out (by omega) HF1.out
      have HG1x : Hid (w.grownBy (w1.setCell ⟨g, j * 3 + 1, none⟩ (.string (mtS q1))) r.blk) := gb_set HG1.out (blk_of E1.out)
      go_wp2_with fail
      refine (markText_far q2 _ HQB2.out.1 HQB2.out.2).mono ?_
      rintro e w2 ⟨rfl, hb2⟩
      have HO2 := hidI (HO1x.out.later hb2)
      have HG2 := hidI (gb_below HG1x.out hb2)
      clear hb2
      obtain ⟨vt2_2, hvt2_2⟩ := HO2.out.has E1.out (j * 3 + 2) (by omega)
      have hft2_2 := HO2.out.free E1.out (j * 3 + 2)
      have HO2x : Hid (OwnG (w2.setCell ⟨g, j * 3 + 2, none⟩ (.string (mtS q2))) base 78 3 r n (FK (fun _ => true) 3 k0) (j * 3 + 2 + 1)) := HO2.out.put E1.out (by omega) HF2.out
      have HG2x : Hid (w.grownBy (w2.setCell ⟨g, j * 3 + 2, none⟩ (.string (mtS q2))) r.blk) := gb_set HG2.out (blk_of E1.out)
      go_wp2
      go_roundg (gk - 1)
      case rel => exact ⟨j1, rfl, by have := HJ.out; omega, by have := HJ.out; have := HQ.out; rw [show q3 = k0 + j1 * 3 from by omega], by have := HO2x.out; rw [show j1 * 3 = j * 3 + 2 + 1 from by have := HJ.out; omega]; exact this, HG2x.out⟩
      case measure => omega
    · have hlti : ¬ (j : Int) < (n : Int) := by omega
      obtain rfl : j = n := by omega
      subst hq
      go_wp2
      go_ret
      exact ⟨rfl, HOr.out, HGr.out⟩
theorem markImpS_any (base n k0 : Nat) (r : Rw) (w : World) (h1 : OwnG w base 78 3 r n (FK (fun _ => true) 3 k0) 0) (hn : n ≤ 1048576) (hk0 : 0 < k0) (hk : k0 + n * 3 ≤ 7900000) :
    Calls Try.prog 41 #[.slice r.a n r.cap, .int .i64 k0] w fun e w' => e = .returned (.int .i64 ((k0 + n * 3 : Nat) : Int)) ∧ OwnG w' base 78 3 r n (FK (fun _ => true) 3 k0) (n * 3) ∧ w.grownBy w' r.blk := by
  by_cases h0 : n = 0
  · subst h0
    refine (markImpS_zero _ _ k0 w).mono ?_
    rintro e w1 ⟨rfl, rfl⟩
    exact ⟨by simp, by rw [Nat.zero_mul]; exact h1, gb_refl _ _⟩
  · obtain ⟨xs, h2, h3⟩ := h1
    rcases h2.nil_or with ⟨_, _, e⟩ | ⟨g, e1⟩
    · exact absurd e h0
    · rw [e1]
      exact markImpS_row base g n k0 r w ⟨xs, h2, h3⟩ e1 hn hk0 hk
set_option maxRecDepth 100000 in
set_option maxHeartbeats 3200000 in
theorem markExpS_zero (a1 : Option Addr) (c1 k0 : Nat) (w : World) : Calls Try.prog 42 #[.slice a1 0 c1, .int .i64 k0] w fun e w' => e = .returned (.int .i64 k0) ∧ w' = w := by
  go_enter Try.func42, Try.ntmps42
  go_wp2
  go_loopg [1, 5] 1 (fun k q i wr => k = 1 ∧ q = .int .i64 k0 ∧ i = .int .i64 0 ∧ wr = w)
  case atStart => exact ⟨rfl, rfl, rfl, rfl⟩
  case round =>
    obtain ⟨rfl, rfl, rfl, rfl⟩ := hrel
    go_wp2
    go_ret
    exact ⟨rfl, rfl⟩
set_option maxRecDepth 100000 in
set_option maxHeartbeats 3200000 in
theorem markExpS_row (base g n k0 : Nat) (r : Rw) (w : World) (h1 : OwnG w base 55 4 r n (FK (fun i => !decide (i = 0)) 4 k0) 0) (e1 : r.a = some ⟨g, 0, none⟩) (hn : n ≤ 1048576) (hk0 : 0 < k0) (hk : k0 + n * 4 ≤ 7900000) :
    Calls Try.prog 42 #[.slice (some ⟨g, 0, none⟩) n r.cap, .int .i64 k0] w fun e w' => e = .returned (.int .i64 ((k0 + n * 4 : Nat) : Int)) ∧ OwnG w' base 55 4 r n (FK (fun i => !decide (i = 0)) 4 k0) (n * 4) ∧ w.grownBy w' r.blk := by
  have H1 := hidI h1
  have E1 := hidI e1
  clear h1 e1
  go_enter Try.func42, Try.ntmps42
  go_wp2
  go_loopg [1, 5] n (fun k q i wr => ∃ j : Nat, i = .int .i64 j ∧ j + k = n ∧ q = .int .i64 ((k0 + j * 4 : Nat) : Int) ∧ OwnG wr base 55 4 r n (FK (fun i => !decide (i = 0)) 4 k0) (j * 4) ∧ w.grownBy wr r.blk)
  case atStart => exact ⟨0, rfl, by omega, by simp, by rw [Nat.zero_mul]; exact H1.out, gb_refl _ _⟩
  case round =>
    obtain ⟨j, rfl, hj, hq, ho, hg⟩ := hrel
    have HOr := hidI ho
    have HGr := hidI hg
    clear ho hg
    by_cases hlt : j < n
    · have hlti : (j : Int) < (n : Int) := by omega
      obtain ⟨q0, hq0⟩ : ∃ q0 : Nat, q0 = k0 + (j * 4) := ⟨_, rfl⟩
      rw [← hq0] at hq
      subst hq
      obtain ⟨q1, hq1⟩ : ∃ q1 : Nat, q1 = q0 + 1 := ⟨_, rfl⟩
      have eq1 : (q0 : Int) + 1 = (q1 : Int) := by omega
      obtain ⟨q2, hq2⟩ : ∃ q2 : Nat, q2 = q1 + 1 := ⟨_, rfl⟩
      have eq2 : (q1 : Int) + 1 = (q2 : Int) := by omega
      obtain ⟨q3, hq3⟩ : ∃ q3 : Nat, q3 = q2 + 1 := ⟨_, rfl⟩
      have eq3 : (q2 : Int) + 1 = (q3 : Int) := by omega
      obtain ⟨q4, hq4⟩ : ∃ q4 : Nat, q4 = q3 + 1 := ⟨_, rfl⟩
      have eq4 : (q3 : Int) + 1 = (q4 : Int) := by omega
      have HF0 : Hid (FK (fun i => !decide (i = 0)) 4 k0 (j * 4) = .int .i64 (q0 : Int)) := fk_i (c := 0) (by omega) (by decide) (by omega)
      have HF1 : Hid (FK (fun i => !decide (i = 0)) 4 k0 (j * 4 + 1) = .string (mtS q1)) := fk_s (c := 1) (by omega) (by decide) (by omega)
      have HF2 : Hid (FK (fun i => !decide (i = 0)) 4 k0 (j * 4 + 2) = .string (mtS q2)) := fk_s (c := 2) (by omega) (by decide) (by omega)
      have HF3 : Hid (FK (fun i => !decide (i = 0)) 4 k0 (j * 4 + 3) = .string (mtS q3)) := fk_s (c := 3) (by omega) (by decide) (by omega)
      have HQ : Hid (q4 = k0 + (j * 4 + 4)) := by show q4 = _; omega
      have hqb : q4 ≤ 7950000 := by omega
      have hq0p : 0 < q0 := by omega
      have HQB1 : Hid (0 < q1 ∧ q1 ≤ 8000000) := ⟨by omega, by omega⟩
      have HQB2 : Hid (0 < q2 ∧ q2 ≤ 8000000) := ⟨by omega, by omega⟩
      have HQB3 : Hid (0 < q3 ∧ q3 ≤ 8000000) := ⟨by omega, by omega⟩
      obtain ⟨j1, hj1⟩ : ∃ j1, j1 = j + 1 := ⟨_, rfl⟩
      have ej : (j : Int) + 1 = (j1 : Int) := by omega
      have HJ := hidI hj1
      clear hj1 hq0 hq1 hq2 hq3 hq4
      obtain ⟨vr0, hvr0⟩ := HOr.out.has E1.out (j * 4) (by omega)
      have hfr0 := HOr.out.free E1.out (j * 4)
      obtain ⟨vr1, hvr1⟩ := HOr.out.has E1.out (j * 4 + 1) (by omega)
      have hfr1 := HOr.out.free E1.out (j * 4 + 1)
      obtain ⟨vr2, hvr2⟩ := HOr.out.has E1.out (j * 4 + 2) (by omega)
      have hfr2 := HOr.out.free E1.out (j * 4 + 2)
      obtain ⟨vr3, hvr3⟩ := HOr.out.has E1.out (j * 4 + 3) (by omega)
      have hfr3 := HOr.out.free E1.out (j * 4 + 3)
      have HO0x : Hid (OwnG (wr.setCell ⟨g, j * 4, none⟩ (.int .i64 (q0 : Int))) base 55 4 r n (FK (fun i => !decide (i = 0)) 4 k0) (j * 4 + 1)) := HOr.out.put E1.out (by omega) HF0.out
      have HG0x : Hid (w.grownBy (wr.setCell ⟨g, j * 4, none⟩ (.int .i64 (q0 : Int))) r.blk) := gb_set HGr.out (blk_of E1.out)
      go_wp2_with fail
      refine (markText_far q1 _ HQB1.out.1 HQB1.out.2).mono ?_
      rintro e w1 ⟨rfl, hb1⟩
      have HO1 := hidI (HO0x.out.later hb1)
      have HG1 := hidI (gb_below HG0x.out hb1)
      clear hb1
      obtain ⟨vt1_1, hvt1_1⟩ := HO1.out.has E1.out (j * 4 + 1) (by omega)
      have hft1_1 := HO1.out.free E1.out (j * 4 + 1)
      obtain ⟨vt1_2, hvt1_2⟩ := HO1.out.has E1.out (j * 4 + 2) (by omega)
      have hft1_2 := HO1.out.free E1.out (j * 4 + 2)
      obtain ⟨vt1_3, hvt1_3⟩ := HO1.out.has E1.out (j * 4 + 3) (by omega)
      have hft1_3 := HO1.out.free E1.out (j * 4 + 3)
      have HO1x : Hid (OwnG (w1.setCell ⟨g, j * 4 + 1, none⟩ (.string (mtS q1))) base 55 4 r n (FK (fun i => !decide (i = 0)) 4 k0) (j * 4 + 1 + 1)) := HO1.out.put E1.out (by omega) HF1.out
      have HG1x : Hid (w.grownBy (w1.setCell ⟨g, j * 4 + 1, none⟩ (.string (mtS q1))) r.blk) := gb_set HG1.out (blk_of E1.out)
      go_wp2_with fail
      refine (markText_far q2 _ HQB2.out.1 HQB2.out.2).mono ?_
      rintro e w2 ⟨rfl, hb2⟩
      have HO2 := hidI (HO1x.out.later hb2)
      have HG2 := hidI (gb_below HG1x.out hb2)
      clear hb2
      obtain ⟨vt2_2, hvt2_2⟩ := HO2.out.has E1.out (j * 4 + 2) (by omega)
      have hft2_2 := HO2.out.free E1.out (j * 4 + 2)
      obtain ⟨vt2_3, hvt2_3⟩ := HO2.out.has E1.out (j * 4 + 3) (by omega)
      have hft2_3 := HO2.out.free E1.out (j * 4 + 3)
      have HO2x : Hid (OwnG (w2.setCell ⟨g, j * 4 + 2, none⟩ (.string (mtS q2))) base 55 4 r n (FK (fun i => !decide (i = 0)) 4 k0) (j * 4 + 2 + 1)) := HO2.out.put E1.out (by omega) HF2.out
      have HG2x : Hid (w.grownBy (w2.setCell ⟨g, j * 4 + 2, none⟩ (.string (mtS q2))) r.blk) := gb_set HG2.out (blk_of E1.out)
      go_wp2_with fail
      refine (markText_far q3 _ HQB3.out.1 HQB3.out.2).mono ?_
      rintro e w3 ⟨rfl, hb3⟩
      have HO3 := hidI (HO2x.out.later hb3)
      have HG3 := hidI (gb_below HG2x.out hb3)
      clear hb3
      obtain ⟨vt3_3, hvt3_3⟩ := HO3.out.has E1.out (j * 4 + 3) (by omega)
      have hft3_3 := HO3.out.free E1.out (j * 4 + 3)
      have HO3x : Hid (OwnG (w3.setCell ⟨g, j * 4 + 3, none⟩ (.string (mtS q3))) base 55 4 r n (FK (fun i => !decide (i = 0)) 4 k0) (j * 4 + 3 + 1)) := HO3.out.put E1.out (by omega) HF3.out
      have HG3x : Hid (w.grownBy (w3.setCell ⟨g, j * 4 + 3, none⟩ (.string (mtS q3))) r.blk) := gb_set HG3.out (blk_of E1.out)
      go_wp2
      go_roundg (gk - 1)
      case rel => exact ⟨j1, rfl, by have := HJ.out; omega, by have := HJ.out; have := HQ.out; rw [show q4 = k0 + j1 * 4 from by omega], by have := HO3x.out; rw [show j1 * 4 = j * 4 + 3 + 1 from by have := HJ.out; omega]; exact this, HG3x.out⟩
      case measure => omega
    · have hlti : ¬ (j : Int) < (n : Int) := by omega
      obtain rfl : j = n := by omega
      subst hq
      go_wp2
      go_ret
      exact ⟨rfl, HOr.out, HGr.out⟩
theorem markExpS_any (base n k0 : Nat) (r : Rw) (w : World) (h1 : OwnG w base 55 4 r n (FK (fun i => !decide (i = 0)) 4 k0) 0) (hn : n ≤ 1048576) (hk0 : 0 < k0) (hk : k0 + n * 4 ≤ 7900000) :
    Calls Try.prog 42 #[.slice r.a n r.cap, .int .i64 k0] w fun e w' => e = .returned (.int .i64 ((k0 + n * 4 : Nat) : Int)) ∧ OwnG w' base 55 4 r n (FK (fun i => !decide (i = 0)) 4 k0) (n * 4) ∧ w.grownBy w' r.blk := by
  by_cases h0 : n = 0
  · subst h0
    refine (markExpS_zero _ _ k0 w).mono ?_
    rintro e w1 ⟨rfl, rfl⟩
    exact ⟨by simp, by rw [Nat.zero_mul]; exact h1, gb_refl _ _⟩
  · obtain ⟨xs, h2, h3⟩ := h1
    rcases h2.nil_or with ⟨_, _, e⟩ | ⟨g, e1⟩
    · exact absurd e h0
    · rw [e1]
      exact markExpS_row base g n k0 r w ⟨xs, h2, h3⟩ e1 hn hk0 hk
set_option maxRecDepth 100000 in
set_option maxHeartbeats 3200000 in
theorem markStmtS_zero (a1 : Option Addr) (c1 k0 : Nat) (w : World) : Calls Try.prog 43 #[.slice a1 0 c1, .int .i64 k0] w fun e w' => e = .returned (.int .i64 k0) ∧ w' = w := by
  go_enter Try.func43, Try.ntmps43
  go_wp2
  go_loopg [1, 5] 1 (fun k q i wr => k = 1 ∧ q = .int .i64 k0 ∧ i = .int .i64 0 ∧ wr = w)
  case atStart => exact ⟨rfl, rfl, rfl, rfl⟩
  case round =>
    obtain ⟨rfl, rfl, rfl, rfl⟩ := hrel
    go_wp2
    go_ret
    exact ⟨rfl, rfl⟩
set_option maxRecDepth 100000 in
set_option maxHeartbeats 3200000 in
theorem markStmtS_row (base g n k0 : Nat) (r : Rw) (w : World) (h1 : OwnG w base 53 3 r n (FK (fun i => decide (i = 1)) 3 k0) 0) (e1 : r.a = some ⟨g, 0, none⟩) (hn : n ≤ 1048576) (hk0 : 0 < k0) (hk : k0 + n * 3 ≤ 7900000) :
    Calls Try.prog 43 #[.slice (some ⟨g, 0, none⟩) n r.cap, .int .i64 k0] w fun e w' => e = .returned (.int .i64 ((k0 + n * 3 : Nat) : Int)) ∧ OwnG w' base 53 3 r n (FK (fun i => decide (i = 1)) 3 k0) (n * 3) ∧ w.grownBy w' r.blk := by
  have H1 := hidI h1
  have E1 := hidI e1
  clear h1 e1
  go_enter Try.func43, Try.ntmps43
  go_wp2
  go_loopg [1, 5] n (fun k q i wr => ∃ j : Nat, i = .int .i64 j ∧ j + k = n ∧ q = .int .i64 ((k0 + j * 3 : Nat) : Int) ∧ OwnG wr base 53 3 r n (FK (fun i => decide (i = 1)) 3 k0) (j * 3) ∧ w.grownBy wr r.blk)
  case atStart => exact ⟨0, rfl, by omega, by simp, by rw [Nat.zero_mul]; exact H1.out, gb_refl _ _⟩
  case round =>
    obtain ⟨j, rfl, hj, hq, ho, hg⟩ := hrel
    have HOr := hidI ho
    have HGr := hidI hg
    clear ho hg
    by_cases hlt : j < n
    · have hlti : (j : Int) < (n : Int) := by omega
      obtain ⟨q0, hq0⟩ : ∃ q0 : Nat, q0 = k0 + (j * 3) := ⟨_, rfl⟩
      rw [← hq0] at hq
      subst hq
      obtain ⟨q1, hq1⟩ : ∃ q1 : Nat, q1 = q0 + 1 := ⟨_, rfl⟩
      have eq1 : (q0 : Int) + 1 = (q1 : Int) := by omega
      obtain ⟨q2, hq2⟩ : ∃ q2 : Nat, q2 = q1 + 1 := ⟨_, rfl⟩
      have eq2 : (q1 : Int) + 1 = (q2 : Int) := by omega
      obtain ⟨q3, hq3⟩ : ∃ q3 : Nat, q3 = q2 + 1 := ⟨_, rfl⟩
      have eq3 : (q2 : Int) + 1 = (q3 : Int) := by omega
      have HF0 : Hid (FK (fun i => decide (i = 1)) 3 k0 (j * 3) = .int .i64 (q0 : Int)) := fk_i (c := 0) (by omega) (by decide) (by omega)
      have HF1 : Hid (FK (fun i => decide (i = 1)) 3 k0 (j * 3 + 1) = .string (mtS q1)) := fk_s (c := 1) (by omega) (by decide) (by omega)
      have HF2 : Hid (FK (fun i => decide (i = 1)) 3 k0 (j * 3 + 2) = .int .i64 (q2 : Int)) := fk_i (c := 2) (by omega) (by decide) (by omega)
      have HQ : Hid (q3 = k0 + (j * 3 + 3)) := by show q3 = _; omega
      have hqb : q3 ≤ 7950000 := by omega
      have hq0p : 0 < q0 := by omega
      have HQB1 : Hid (0 < q1 ∧ q1 ≤ 8000000) := ⟨by omega, by omega⟩
      obtain ⟨j1, hj1⟩ : ∃ j1, j1 = j + 1 := ⟨_, rfl⟩
      have ej : (j : Int) + 1 = (j1 : Int) := by omega
      have HJ := hidI hj1
      clear hj1 hq0 hq1 hq2 hq3
      obtain ⟨vr0, hvr0⟩ := HOr.out.has E1.out (j * 3) (by omega)
      have hfr0 := HOr.out.free E1.out (j * 3)
      obtain ⟨vr1, hvr1⟩ := HOr.out.has E1.out (j * 3 + 1) (by omega)
      have hfr1 := HOr.out.free E1.out (j * 3 + 1)
      obtain ⟨vr2, hvr2⟩ := HOr.out.has E1.out (j * 3 + 2) (by omega)
      have hfr2 := HOr.out.free E1.out (j * 3 + 2)
      have HO0x : Hid (OwnG (wr.setCell ⟨g, j * 3, none⟩ (.int .i64 (q0 : Int))) base 53 3 r n (FK (fun i => decide (i = 1)) 3 k0) (j * 3 + 1)) := HOr.out.put E1.out (by omega) HF0.out
      have HG0x : Hid (w.grownBy (wr.setCell ⟨g, j * 3, none⟩ (.int .i64 (q0 : Int))) r.blk) := gb_set HGr.out (blk_of E1.out)
      go_wp2_with fail
      refine (markText_far q1 _ HQB1.out.1 HQB1.out.2).mono ?_
      rintro e w1 ⟨rfl, hb1⟩
      have HO1 := hidI (HO0x.out.later hb1)
      have HG1 := hidI (gb_below HG0x.out hb1)
      clear hb1
      obtain ⟨vt1_1, hvt1_1⟩ := HO1.out.has E1.out (j * 3 + 1) (by omega)
      have hft1_1 := HO1.out.free E1.out (j * 3 + 1)
      obtain ⟨vt1_2, hvt1_2⟩ := HO1.out.has E1.out (j * 3 + 2) (by omega)
      have hft1_2 := HO1.out.free E1.out (j * 3 + 2)
      have HO1x : Hid (OwnG (w1.setCell ⟨g, j * 3 + 1, none⟩ (.string (mtS q1))) base 53 3 r n (FK (fun i => decide (i = 1)) 3 k0) (j * 3 + 1 + 1)) := HO1.out.put E1.out (by omega) HF1.out
      have HG1x : Hid (w.grownBy (w1.setCell ⟨g, j * 3 + 1, none⟩ (.string (mtS q1))) r.blk) := gb_set HG1.out (blk_of E1.out)
      have HO2x : Hid (OwnG ((w1.setCell ⟨g, j * 3 + 1, none⟩ (.string (mtS q1))).setCell ⟨g, j * 3 + 2, none⟩ (.int .i64 (q2 : Int))) base 53 3 r n (FK (fun i => decide (i = 1)) 3 k0) (j * 3 + 2 + 1)) := HO1x.out.put E1.out (by omega) HF2.out
      have HG2x : Hid (w.grownBy ((w1.setCell ⟨g, j * 3 + 1, none⟩ (.string (mtS q1))).setCell ⟨g, j * 3 + 2, none⟩ (.int .i64 (q2 : Int))) r.blk) := gb_set HG1x.out (blk_of E1.out)
      go_wp2
      go_roundg (gk - 1)
      case rel => exact ⟨j1, rfl, by have := HJ.out; omega, by have := HJ.out; have := HQ.out; rw [show q3 = k0 + j1 * 3 from by omega], by have := HO2x.out; rw [show j1 * 3 = j * 3 + 2 + 1 from by have := HJ.out; omega]; exact this, HG2x.out⟩
      case measure => omega
    · have hlti : ¬ (j : Int) < (n : Int) := by omega
      obtain rfl : j = n := by omega
      subst hq
      go_wp2
      go_ret
      exact ⟨rfl, HOr.out, HGr.out⟩
theorem markStmtS_any (base n k0 : Nat) (r : Rw) (w : World) (h1 : OwnG w base 53 3 r n (FK (fun i => decide (i = 1)) 3 k0) 0) (hn : n ≤ 1048576) (hk0 : 0 < k0) (hk : k0 + n * 3 ≤ 7900000) :
    Calls Try.prog 43 #[.slice r.a n r.cap, .int .i64 k0] w fun e w' => e = .returned (.int .i64 ((k0 + n * 3 : Nat) : Int)) ∧ OwnG w' base 53 3 r n (FK (fun i => decide (i = 1)) 3 k0) (n * 3) ∧ w.grownBy w' r.blk := by
  by_cases h0 : n = 0
  · subst h0
    refine (markStmtS_zero _ _ k0 w).mono ?_
    rintro e w1 ⟨rfl, rfl⟩
    exact ⟨by simp, by rw [Nat.zero_mul]; exact h1, gb_refl _ _⟩
  · obtain ⟨xs, h2, h3⟩ := h1
    rcases h2.nil_or with ⟨_, _, e⟩ | ⟨g, e1⟩
    · exact absurd e h0
    · rw [e1]
      exact markStmtS_row base g n k0 r w ⟨xs, h2, h3⟩ e1 hn hk0 hk
set_option maxRecDepth 100000 in
set_option maxHeartbeats 3200000 in
theorem markExprS_zero (a1 : Option Addr) (c1 k0 : Nat) (w : World) : Calls Try.prog 44 #[.slice a1 0 c1, .int .i64 k0] w fun e w' => e = .returned (.int .i64 k0) ∧ w' = w := by
  go_enter Try.func44, Try.ntmps44
  go_wp2
  go_loopg [1, 5] 1 (fun k q i wr => k = 1 ∧ q = .int .i64 k0 ∧ i = .int .i64 0 ∧ wr = w)
  case atStart => exact ⟨rfl, rfl, rfl, rfl⟩
  case round =>
    obtain ⟨rfl, rfl, rfl, rfl⟩ := hrel
    go_wp2
    go_ret
    exact ⟨rfl, rfl⟩
set_option maxRecDepth 100000 in
set_option maxHeartbeats 3200000 in
theorem markExprS_row (base g n k0 : Nat) (r : Rw) (w : World) (h1 : OwnG w base 50 6 r n (FK (fun i => decide (i = 2) || decide (i = 3)) 6 k0) 0) (e1 : r.a = some ⟨g, 0, none⟩) (hn : n ≤ 1048576) (hk0 : 0 < k0) (hk : k0 + n * 6 ≤ 7900000) :
    Calls Try.prog 44 #[.slice (some ⟨g, 0, none⟩) n r.cap, .int .i64 k0] w fun e w' => e = .returned (.int .i64 ((k0 + n * 6 : Nat) : Int)) ∧ OwnG w' base 50 6 r n (FK (fun i => decide (i = 2) || decide (i = 3)) 6 k0) (n * 6) ∧ w.grownBy w' r.blk := by
  have H1 := hidI h1
  have E1 := hidI e1
  clear h1 e1
  go_enter Try.func44, Try.ntmps44
  go_wp2
  go_loopg [1, 5] n (fun k q i wr => ∃ j : Nat, i = .int .i64 j ∧ j + k = n ∧ q = .int .i64 ((k0 + j * 6 : Nat) : Int) ∧ OwnG wr base 50 6 r n (FK (fun i => decide (i = 2) || decide (i = 3)) 6 k0) (j * 6) ∧ w.grownBy wr r.blk)
  case atStart => exact ⟨0, rfl, by omega, by simp, by rw [Nat.zero_mul]; exact H1.out, gb_refl _ _⟩
  case round =>
    obtain ⟨j, rfl, hj, hq, ho, hg⟩ := hrel
    have HOr := hidI ho
    have HGr := hidI hg
    clear ho hg
    by_cases hlt : j < n
    · have hlti : (j : Int) < (n : Int) := by omega
      obtain ⟨q0, hq0⟩ : ∃ q0 : Nat, q0 = k0 + (j * 6) := ⟨_, rfl⟩
      rw [← hq0] at hq
      subst hq
      obtain ⟨q1, hq1⟩ : ∃ q1 : Nat, q1 = q0 + 1 := ⟨_, rfl⟩
      have eq1 : (q0 : Int) + 1 = (q1 : Int) := by omega
      obtain ⟨q2, hq2⟩ : ∃ q2 : Nat, q2 = q1 + 1 := ⟨_, rfl⟩
      have eq2 : (q1 : Int) + 1 = (q2 : Int) := by omega
      obtain ⟨q3, hq3⟩ : ∃ q3 : Nat, q3 = q2 + 1 := ⟨_, rfl⟩
      have eq3 : (q2 : Int) + 1 = (q3 : Int) := by omega
      obtain ⟨q4, hq4⟩ : ∃ q4 : Nat, q4 = q3 + 1 := ⟨_, rfl⟩
      have eq4 : (q3 : Int) + 1 = (q4 : Int) := by omega
      obtain ⟨q5, hq5⟩ : ∃ q5 : Nat, q5 = q4 + 1 := ⟨_, rfl⟩
      have eq5 : (q4 : Int) + 1 = (q5 : Int) := by omega
      obtain ⟨q6, hq6⟩ : ∃ q6 : Nat, q6 = q5 + 1 := ⟨_, rfl⟩
      have eq6 : (q5 : Int) + 1 = (q6 : Int) := by omega
      have HF0 : Hid (FK (fun i => decide (i = 2) || decide (i = 3)) 6 k0 (j * 6) = .int .i64 (q0 : Int)) := fk_i (c := 0) (by omega) (by decide) (by omega)
      have HF1 : Hid (FK (fun i => decide (i = 2) || decide (i = 3)) 6 k0 (j * 6 + 1) = .int .i64 (q1 : Int)) := fk_i (c := 1) (by omega) (by decide) (by omega)
      have HF2 : Hid (FK (fun i => decide (i = 2) || decide (i = 3)) 6 k0 (j * 6 + 2) = .string (mtS q2)) := fk_s (c := 2) (by omega) (by decide) (by omega)
      have HF3 : Hid (FK (fun i => decide (i = 2) || decide (i = 3)) 6 k0 (j * 6 + 3) = .string (mtS q3)) := fk_s (c := 3) (by omega) (by decide) (by omega)
      have HF4 : Hid (FK (fun i => decide (i = 2) || decide (i = 3)) 6 k0 (j * 6 + 4) = .int .i64 (q4 : Int)) := fk_i (c := 4) (by omega) (by decide) (by omega)
      have HF5 : Hid (FK (fun i => decide (i = 2) || decide (i = 3)) 6 k0 (j * 6 + 5) = .int .i64 (q5 : Int)) := fk_i (c := 5) (by omega) (by decide) (by omega)
      have HQ : Hid (q6 = k0 + (j * 6 + 6)) := by show q6 = _; omega
      have hqb : q6 ≤ 7950000 := by omega
      have hq0p : 0 < q0 := by omega
      have HQB2 : Hid (0 < q2 ∧ q2 ≤ 8000000) := ⟨by omega, by omega⟩
      have HQB3 : Hid (0 < q3 ∧ q3 ≤ 8000000) := ⟨by omega, by omega⟩
      obtain ⟨j1, hj1⟩ : ∃ j1, j1 = j + 1 := ⟨_, rfl⟩
      have ej : (j : Int) + 1 = (j1 : Int) := by omega
      have HJ := hidI hj1
      clear hj1 hq0 hq1 hq2 hq3 hq4 hq5 hq6
      obtain ⟨vr0, hvr0⟩ := HOr.out.has E1.out (j * 6) (by omega)
      have hfr0 := HOr.out.free E1.out (j * 6)
      obtain ⟨vr1, hvr1⟩ := HOr.out.has E1.out (j * 6 + 1) (by omega)
      have hfr1 := HOr.out.free E1.out (j * 6 + 1)
      obtain ⟨vr2, hvr2⟩ := HOr.out.has E1.out (j * 6 + 2) (by omega)
      have hfr2 := HOr.out.free E1.out (j * 6 + 2)
      obtain ⟨vr3, hvr3⟩ := HOr.out.has E1.out (j * 6 + 3) (by omega)
      have hfr3 := HOr.out.free E1.out (j * 6 + 3)
      obtain ⟨vr4, hvr4⟩ := HOr.out.has E1.out (j * 6 + 4) (by omega)
      have hfr4 := HOr.out.free E1.out (j * 6 + 4)
      obtain ⟨vr5, hvr5⟩ := HOr.out.has E1.out (j * 6 + 5) (by omega)
      have hfr5 := HOr.out.free E1.out (j * 6 + 5)
      have HO0x : Hid (OwnG (wr.setCell ⟨g, j * 6, none⟩ (.int .i64 (q0 : Int))) base 50 6 r n (FK (fun i => decide (i = 2) || decide (i = 3)) 6 k0) (j * 6 + 1)) := HOr.out.put E1.out (by omega) HF0.out
      have HG0x : Hid (w.grownBy (wr.setCell ⟨g, j * 6, none⟩ (.int .i64 (q0 : Int))) r.blk) := gb_set HGr.out (blk_of E1.out)
      have HO1x : Hid (OwnG ((wr.setCell ⟨g, j * 6, none⟩ (.int .i64 (q0 : Int))).setCell ⟨g, j * 6 + 1, none⟩ (.int .i64 (q1 : Int))) base 50 6 r n (FK (fun i => decide (i = 2) || decide (i = 3)) 6 k0) (j * 6 + 1 + 1)) := HO0x.out.put E1.out (by omega) HF1.out
      have HG1x : Hid (w.grownBy ((wr.setCell ⟨g, j * 6, none⟩ (.int .i64 (q0 : Int))).setCell ⟨g, j * 6 + 1, none⟩ (.int .i64 (q1 : Int))) r.blk) := gb_set HG0x.out (blk_of E1.out)
      go_wp2_with fail
      refine (markText_far q2 _ HQB2.out.1 HQB2.out.2).mono ?_
      rintro e w2 ⟨rfl, hb2⟩
      have HO2 := hidI (HO1x.out.later hb2)
      have HG2 := hidI (gb_below HG1x.out hb2)
      clear hb2
      obtain ⟨vt2_2, hvt2_2⟩ := HO2.out.has E1.out (j * 6 + 2) (by omega)
      have hft2_2 := HO2.out.free E1.out (j * 6 + 2)
      obtain ⟨vt2_3, hvt2_3⟩ := HO2.out.has E1.out (j * 6 + 3) (by omega)
      have hft2_3 := HO2.out.free E1.out (j * 6 + 3)
      obtain ⟨vt2_4, hvt2_4⟩ := HO2.out.has E1.out (j * 6 + 4) (by omega)
      have hft2_4 := HO2.out.free E1.out (j * 6 + 4)
      obtain ⟨vt2_5, hvt2_5⟩ := HO2.out.has E1.out (j * 6 + 5) (by omega)
      have hft2_5 := HO2.out.free E1.out (j * 6 + 5)
      have HO2x : Hid (OwnG (w2.setCell ⟨g, j * 6 + 2, none⟩ (.string (mtS q2))) base 50 6 r n (FK (fun i => decide (i = 2) || decide (i = 3)) 6 k0) (j * 6 + 2 + 1)) := HO2.out.put E1.out (by omega) HF2.out
      have HG2x : Hid (w.grownBy (w2.setCell ⟨g, j * 6 + 2, none⟩ (.string (mtS q2))) r.blk) := gb_set HG2.out (blk_of E1.out)
      go_wp2_with fail
      refine (markText_far q3 _ HQB3.out.1 HQB3.out.2).mono ?_
      rintro e w3 ⟨rfl, hb3⟩
      have HO3 := hidI (HO2x.out.later hb3)
      have HG3 := hidI (gb_below HG2x.out hb3)
      clear hb3
      obtain ⟨vt3_3, hvt3_3⟩ := HO3.out.has E1.out (j * 6 + 3) (by omega)
      have hft3_3 := HO3.out.free E1.out (j * 6 + 3)
      obtain ⟨vt3_4, hvt3_4⟩ := HO3.out.has E1.out (j * 6 + 4) (by omega)
      have hft3_4 := HO3.out.free E1.out (j * 6 + 4)
      obtain ⟨vt3_5, hvt3_5⟩ := HO3.out.has E1.out (j * 6 + 5) (by omega)
      have hft3_5 := HO3.out.free E1.out (j * 6 + 5)
      have HO3x : Hid (OwnG (w3.setCell ⟨g, j * 6 + 3, none⟩ (.string (mtS q3))) base 50 6 r n (FK (fun i => decide (i = 2) || decide (i = 3)) 6 k0) (j * 6 + 3 + 1)) := HO3.out.put E1.out (by omega) HF3.out
      have HG3x : Hid (w.grownBy (w3.setCell ⟨g, j * 6 + 3, none⟩ (.string (mtS q3))) r.blk) := gb_set HG3.out (blk_of E1.out)
      have HO4x : Hid (OwnG ((w3.setCell ⟨g, j * 6 + 3, none⟩ (.string (mtS q3))).setCell ⟨g, j * 6 + 4, none⟩ (.int .i64 (q4 : Int))) base 50 6 r n (FK (fun i => decide (i = 2) || decide (i = 3)) 6 k0) (j * 6 + 4 + 1)) := HO3x.out.put E1.out (by omega) HF4.out
      have HG4x : Hid (w.grownBy ((w3.setCell ⟨g, j * 6 + 3, none⟩ (.string (mtS q3))).setCell ⟨g, j * 6 + 4, none⟩ (.int .i64 (q4 : Int))) r.blk) := gb_set HG3x.out (blk_of E1.out)
      have HO5x : Hid (OwnG (((w3.setCell ⟨g, j * 6 + 3, none⟩ (.string (mtS q3))).setCell ⟨g, j * 6 + 4, none⟩ (.int .i64 (q4 : Int))).setCell ⟨g, j * 6 + 5, none⟩ (.int .i64 (q5 : Int))) base 50 6 r n (FK (fun i => decide (i = 2) || decide (i = 3)) 6 k0) (j * 6 + 5 + 1)) := HO4x.out.put E1.out (by omega) HF5.out
      have HG5x : Hid (w.grownBy (((w3.setCell ⟨g, j * 6 + 3, none⟩ (.string (mtS q3))).setCell ⟨g, j * 6 + 4, none⟩ (.int .i64 (q4 : Int))).setCell ⟨g, j * 6 + 5, none⟩ (.int .i64 (q5 : Int))) r.blk) := gb_set HG4x.out (blk_of E1.out)
      go_wp2
      go_roundg (gk - 1)
      case rel => exact ⟨j1, rfl, by have := HJ.out; omega, by have := HJ.out; have := HQ.out; rw [show q6 = k0 + j1 * 6 from by omega], by have := HO5x.out; rw [show j1 * 6 = j * 6 + 5 + 1 from by have := HJ.out; omega]; exact this, HG5x.out⟩
      case measure => omega
    · have hlti : ¬ (j : Int) < (n : Int) := by omega
      obtain rfl : j = n := by omega
      subst hq
      go_wp2
      go_ret
      exact ⟨rfl, HOr.out, HGr.out⟩
theorem markExprS_any (base n k0 : Nat) (r : Rw) (w : World) (h1 : OwnG w base 50 6 r n (FK (fun i => decide (i = 2) || decide (i = 3)) 6 k0) 0) (hn : n ≤ 1048576) (hk0 : 0 < k0) (hk : k0 + n * 6 ≤ 7900000) :
    Calls Try.prog 44 #[.slice r.a n r.cap, .int .i64 k0] w fun e w' => e = .returned (.int .i64 ((k0 + n * 6 : Nat) : Int)) ∧ OwnG w' base 50 6 r n (FK (fun i => decide (i = 2) || decide (i = 3)) 6 k0) (n * 6) ∧ w.grownBy w' r.blk := by
  by_cases h0 : n = 0
  · subst h0
    refine (markExprS_zero _ _ k0 w).mono ?_
    rintro e w1 ⟨rfl, rfl⟩
    exact ⟨by simp, by rw [Nat.zero_mul]; exact h1, gb_refl _ _⟩
  · obtain ⟨xs, h2, h3⟩ := h1
    rcases h2.nil_or with ⟨_, _, e⟩ | ⟨g, e1⟩
    · exact absurd e h0
    · rw [e1]
      exact markExprS_row base g n k0 r w ⟨xs, h2, h3⟩ e1 hn hk0 hk
end Go.Proofs.Ytaakfnclelcopaa
namespace Go.Proofs.Ytaakfnclelcopaa
open Go.RowKit Go.PlainAid Go.Sort

set_option maxRecDepth 100000 in
set_option maxHeartbeats 3200000 in
theorem heldStringS_zero (a1 : Option Addr) (c1 k0 : Nat) (w : World) : Calls Try.prog 15 #[.slice a1 0 c1, .int .i64 k0] w fun e w' => e = .returned (.int .i64 k0) ∧ w' = w := by
  go_enter Try.func15, Try.ntmps15
  go_wp2
  go_loopg [1, 5] 1 (fun k q i wr => k = 1 ∧ q = .int .i64 k0 ∧ i = .int .i64 0 ∧ wr = w)
  case atStart => exact ⟨rfl, rfl, rfl, rfl⟩
  case round =>
    obtain ⟨rfl, rfl, rfl, rfl⟩ := hrel
    go_wp2
    go_ret
    exact ⟨rfl, rfl⟩
set_option maxRecDepth 100000 in
set_option maxHeartbeats 3200000 in
theorem heldStringS_row (base g n k0 : Nat) (r : Rw) (w : World) (h1 : OwnG w base 9 1 r n (FK (fun _ => true) 1 k0) (n)) (e1 : r.a = some ⟨g, 0, none⟩) (hn : n ≤ 1048576) (hk0 : 0 < k0) (hk : k0 + n ≤ 7900000) :
    Calls Try.prog 15 #[.slice (some ⟨g, 0, none⟩) n r.cap, .int .i64 k0] w fun e w' => e = .returned (.int .i64 ((k0 + n : Nat) : Int)) ∧ Below w.heap.size w w' := by
  have H1 := hidI h1
  have E1 := hidI e1
  clear h1 e1
  go_enter Try.func15, Try.ntmps15
  go_wp2
  go_loopg [1, 5] n (fun k q i wr => ∃ j : Nat, i = .int .i64 j ∧ j + k = n ∧ q = .int .i64 ((k0 + j : Nat) : Int) ∧ Below w.heap.size w wr)
  case atStart => exact ⟨0, rfl, by omega, by simp, Below.refl _ _⟩
  case round =>
    obtain ⟨j, rfl, hj, hq, hb⟩ := hrel
    have HB := hidI hb
    clear hb
    by_cases hlt : j < n
    · have hlti : (j : Int) < (n : Int) := by omega
      obtain ⟨q0, hq0⟩ : ∃ q0 : Nat, q0 = k0 + (j) := ⟨_, rfl⟩
      rw [← hq0] at hq
      subst hq
      obtain ⟨q1, hq1⟩ : ∃ q1 : Nat, q1 = q0 + 1 := ⟨_, rfl⟩
      have eq1 : (q0 : Int) + 1 = (q1 : Int) := by omega
      have HC0 : Hid (wr.cell? ⟨g, j, none⟩ = some (.string (mtS q0))) := by have := (H1.out.later HB.out).cell E1.out (j) (by omega) (by omega); rw [fk_s (c := 0) (q := q0) (by omega) (by decide) (by omega)] at this; exact this
      have HQ : Hid (q1 = k0 + (j + 1)) := by show q1 = _; omega
      have hglt := ((H1.out.later HB.out).typed (blk_of E1.out)).2.1
      have hqb : q1 ≤ 7950000 := by omega
      have HQB0 : Hid (0 < q0 ∧ q0 ≤ 8000000) := ⟨by omega, by omega⟩
      obtain ⟨j1, hj1⟩ : ∃ j1, j1 = j + 1 := ⟨_, rfl⟩
      have ej : (j : Int) + 1 = (j1 : Int) := by omega
      have HJ := hidI hj1
      clear hj1 hq0 hq1
      have cQ0 : ∀ d os, Calls Try.prog 45 #[.int .i64 (q0 : Int)] (grow (redrawn wr d) os) fun e w'' => e = .returned (.string (mtS q0)) ∧ ∃ p : Regrown, w'' = grow (redrawn wr p.d) p.os := fun d os => Calls.regrown_of (markText_far q0 _ HQB0.out.1 HQB0.out.2)
      go_wp2_with fail
      have k0 := cell_regrown HC0.out
      refine wp_region_quiet_below (by kernel_rfl) (by kernel_rfl) ?_
      repeat (go_big_quiet_step (exact cQ0 _ _))
      refine wpQuiet_nil ?_
      intro w0 hw'
      obtain ⟨⟨dq, osq⟩, hw''⟩ := hw'
      have hb0 : Below wr.heap.size wr w0 := by rw [hw'']; exact below_regrown _ _ _
      have HB0 := hidI (HB.out.trans (hb0.mono HB.out.size))
      have hglt0 := Nat.lt_of_lt_of_le hglt hb0.size
      clear hw'' k0 cQ0 hb0 hglt
      have hglt := hglt0
      clear hglt0
      go_wp2
      go_roundg (gk - 1)
      case rel => exact ⟨j1, rfl, by have := HJ.out; omega, by have := HJ.out; have := HQ.out; rw [show q1 = k0 + j1 from by omega], HB0.out⟩
      case measure => omega
    · have hlti : ¬ (j : Int) < (n : Int) := by omega
      obtain rfl : j = n := by omega
      subst hq
      go_wp2
      go_ret
      exact ⟨rfl, HB.out⟩
theorem heldStringS_any (base n k0 : Nat) (r : Rw) (w : World) (h1 : OwnG w base 9 1 r n (FK (fun _ => true) 1 k0) (n)) (hn : n ≤ 1048576) (hk0 : 0 < k0) (hk : k0 + n ≤ 7900000) :
    Calls Try.prog 15 #[.slice r.a n r.cap, .int .i64 k0] w fun e w' => e = .returned (.int .i64 ((k0 + n : Nat) : Int)) ∧ Below w.heap.size w w' := by
  by_cases h0 : n = 0
  · subst h0
    refine (heldStringS_zero _ _ k0 w).mono ?_
    rintro e w1 ⟨rfl, rfl⟩
    exact ⟨by simp, Below.refl _ _⟩
  · obtain ⟨xs, h2, h3⟩ := h1
    rcases h2.nil_or with ⟨_, _, e⟩ | ⟨g, e1⟩
    · exact absurd e h0
    · rw [e1]
      exact heldStringS_row base g n k0 r w ⟨xs, h2, h3⟩ e1 hn hk0 hk
set_option maxRecDepth 100000 in
set_option maxHeartbeats 3200000 in
theorem heldImpS_zero (a1 : Option Addr) (c1 k0 : Nat) (w : World) : Calls Try.prog 59 #[.slice a1 0 c1, .int .i64 k0] w fun e w' => e = .returned (.int .i64 k0) ∧ w' = w := by
  go_enter Try.func59, Try.ntmps59
  go_wp2
  go_loopg [1, 5] 1 (fun k q i wr => k = 1 ∧ q = .int .i64 k0 ∧ i = .int .i64 0 ∧ wr = w)
  case atStart => exact ⟨rfl, rfl, rfl, rfl⟩
  case round =>
    obtain ⟨rfl, rfl, rfl, rfl⟩ := hrel
    go_wp2
    go_ret
    exact ⟨rfl, rfl⟩
set_option maxRecDepth 100000 in
set_option maxHeartbeats 3200000 in
theorem heldImpS_row (base g n k0 : Nat) (r : Rw) (w : World) (h1 : OwnG w base 78 3 r n (FK (fun _ => true) 3 k0) (n * 3)) (e1 : r.a = some ⟨g, 0, none⟩) (hn : n ≤ 1048576) (hk0 : 0 < k0) (hk : k0 + n * 3 ≤ 7900000) :
    Calls Try.prog 59 #[.slice (some ⟨g, 0, none⟩) n r.cap, .int .i64 k0] w fun e w' => e = .returned (.int .i64 ((k0 + n * 3 : Nat) : Int)) ∧ Below w.heap.size w w' := by
  have H1 := hidI h1
  have E1 := hidI e1
  clear h1 e1
  go_enter Try.func59, Try.ntmps59
  go_wp2
  go_loopg [1, 5] n (fun k q i wr => ∃ j : Nat, i = .int .i64 j ∧ j + k = n ∧ q = .int .i64 ((k0 + j * 3 : Nat) : Int) ∧ Below w.heap.size w wr)
  case atStart => exact ⟨0, rfl, by omega, by simp, Below.refl _ _⟩
  case round =>
    obtain ⟨j, rfl, hj, hq, hb⟩ := hrel
    have HB := hidI hb
    clear hb
    by_cases hlt : j < n
    · have hlti : (j : Int) < (n : Int) := by omega
      obtain ⟨q0, hq0⟩ : ∃ q0 : Nat, q0 = k0 + (j * 3) := ⟨_, rfl⟩
      rw [← hq0] at hq
      subst hq
      obtain ⟨q1, hq1⟩ : ∃ q1 : Nat, q1 = q0 + 1 := ⟨_, rfl⟩
      have eq1 : (q0 : Int) + 1 = (q1 : Int) := by omega
      obtain ⟨q2, hq2⟩ : ∃ q2 : Nat, q2 = q1 + 1 := ⟨_, rfl⟩
      have eq2 : (q1 : Int) + 1 = (q2 : Int) := by omega
      obtain ⟨q3, hq3⟩ : ∃ q3 : Nat, q3 = q2 + 1 := ⟨_, rfl⟩
      have eq3 : (q2 : Int) + 1 = (q3 : Int) := by omega
      have HC0 : Hid (wr.cell? ⟨g, j * 3, none⟩ = some (.string (mtS q0))) := by have := (H1.out.later HB.out).cell E1.out (j * 3) (by omega) (by omega); rw [fk_s (c := 0) (q := q0) (by omega) (by decide) (by omega)] at this; exact this
      have HC1 : Hid (wr.cell? ⟨g, j * 3 + 1, none⟩ = some (.string (mtS q1))) := by have := (H1.out.later HB.out).cell E1.out (j * 3 + 1) (by omega) (by omega); rw [fk_s (c := 1) (q := q1) (by omega) (by decide) (by omega)] at this; exact this
      have HC2 : Hid (wr.cell? ⟨g, j * 3 + 2, none⟩ = some (.string (mtS q2))) := by have := (H1.out.later HB.out).cell E1.out (j * 3 + 2) (by omega) (by omega); rw [fk_s (c := 2) (q := q2) (by omega) (by decide) (by omega)] at this; exact this
      have HQ : Hid (q3 = k0 + (j * 3 + 3)) := by show q3 = _; omega
      have hglt := ((H1.out.later HB.out).typed (blk_of E1.out)).2.1
      have hqb : q3 ≤ 7950000 := by omega
      have HQB0 : Hid (0 < q0 ∧ q0 ≤ 8000000) := ⟨by omega, by omega⟩
      have HQB1 : Hid (0 < q1 ∧ q1 ≤ 8000000) := ⟨by omega, by omega⟩
      have HQB2 : Hid (0 < q2 ∧ q2 ≤ 8000000) := ⟨by omega, by omega⟩
      obtain ⟨j1, hj1⟩ : ∃ j1, j1 = j + 1 := ⟨_, rfl⟩
      have ej : (j : Int) + 1 = (j1 : Int) := by omega
      have HJ := hidI hj1
      clear hj1 hq0 hq1 hq2 hq3
      have cQ0 : ∀ d os, Calls Try.prog 45 #[.int .i64 (q0 : Int)] (grow (redrawn wr d) os) fun e w'' => e = .returned (.string (mtS q0)) ∧ ∃ p : Regrown, w'' = grow (redrawn wr p.d) p.os := fun d os => Calls.regrown_of (markText_far q0 _ HQB0.out.1 HQB0.out.2)
      go_wp2_with fail
      have k0 := cell_regrown HC0.out
      refine wp_region_quiet_below (by kernel_rfl) (by kernel_rfl) ?_
      repeat (go_big_quiet_step (exact cQ0 _ _))
      refine wpQuiet_nil ?_
      intro w0 hw'
      obtain ⟨⟨dq, osq⟩, hw''⟩ := hw'
      have hb0 : Below wr.heap.size wr w0 := by rw [hw'']; exact below_regrown _ _ _
      have HB0 := hidI (HB.out.trans (hb0.mono HB.out.size))
      have HC0_1 := hidI ((hb0.cell hglt).trans HC1.out)
      have HC0_2 := hidI ((hb0.cell hglt).trans HC2.out)
      have hglt0 := Nat.lt_of_lt_of_le hglt hb0.size
      clear hw'' k0 cQ0 hb0 hglt
      have hglt := hglt0
      clear hglt0
      have cQ1 : ∀ d os, Calls Try.prog 45 #[.int .i64 (q1 : Int)] (grow (redrawn w0 d) os) fun e w'' => e = .returned (.string (mtS q1)) ∧ ∃ p : Regrown, w'' = grow (redrawn w0 p.d) p.os := fun d os => Calls.regrown_of (markText_far q1 _ HQB1.out.1 HQB1.out.2)
      go_wp2_with fail
      have k1 := cell_regrown HC0_1.out
      refine wp_region_quiet_below (by kernel_rfl) (by kernel_rfl) ?_
      repeat (go_big_quiet_step (exact cQ1 _ _))
      refine wpQuiet_nil ?_
      intro w1 hw'
      obtain ⟨⟨dq, osq⟩, hw''⟩ := hw'
      have hb1 : Below w0.heap.size w0 w1 := by rw [hw'']; exact below_regrown _ _ _
      have HB1 := hidI (HB0.out.trans (hb1.mono HB0.out.size))
      have HC1_2 := hidI ((hb1.cell hglt).trans HC0_2.out)
      have hglt1 := Nat.lt_of_lt_of_le hglt hb1.size
      clear hw'' k1 cQ1 hb1 hglt
      have hglt := hglt1
      clear hglt1
      have cQ2 : ∀ d os, Calls Try.prog 45 #[.int .i64 (q2 : Int)] (grow (redrawn w1 d) os) fun e w'' => e = .returned (.string (mtS q2)) ∧ ∃ p : Regrown, w'' = grow (redrawn w1 p.d) p.os := fun d os => Calls.regrown_of (markText_far q2 _ HQB2.out.1 HQB2.out.2)
      go_wp2_with fail
      have k2 := cell_regrown HC1_2.out
      refine wp_region_quiet_below (by kernel_rfl) (by kernel_rfl) ?_
      repeat (go_big_quiet_step (exact cQ2 _ _))
      refine wpQuiet_nil ?_
      intro w2 hw'
      obtain ⟨⟨dq, osq⟩, hw''⟩ := hw'
      have hb2 : Below w1.heap.size w1 w2 := by rw [hw'']; exact below_regrown _ _ _
      have HB2 := hidI (HB1.out.trans (hb2.mono HB1.out.size))
      have hglt2 := Nat.lt_of_lt_of_le hglt hb2.size
      clear hw'' k2 cQ2 hb2 hglt
      have hglt := hglt2
      clear hglt2
      go_wp2
      go_roundg (gk - 1)
      case rel => exact ⟨j1, rfl, by have := HJ.out; omega, by have := HJ.out; have := HQ.out; rw [show q3 = k0 + j1 * 3 from by omega], HB2.out⟩
      case measure => omega
    · have hlti : ¬ (j : Int) < (n : Int) := by omega
      obtain rfl : j = n := by omega
      subst hq
      go_wp2
      go_ret
      exact ⟨rfl, HB.out⟩
theorem heldImpS_any (base n k0 : Nat) (r : Rw) (w : World) (h1 : OwnG w base 78 3 r n (FK (fun _ => true) 3 k0) (n * 3)) (hn : n ≤ 1048576) (hk0 : 0 < k0) (hk : k0 + n * 3 ≤ 7900000) :
    Calls Try.prog 59 #[.slice r.a n r.cap, .int .i64 k0] w fun e w' => e = .returned (.int .i64 ((k0 + n * 3 : Nat) : Int)) ∧ Below w.heap.size w w' := by
  by_cases h0 : n = 0
  · subst h0
    refine (heldImpS_zero _ _ k0 w).mono ?_
    rintro e w1 ⟨rfl, rfl⟩
    exact ⟨by simp, Below.refl _ _⟩
  · obtain ⟨xs, h2, h3⟩ := h1
    rcases h2.nil_or with ⟨_, _, e⟩ | ⟨g, e1⟩
    · exact absurd e h0
    · rw [e1]
      exact heldImpS_row base g n k0 r w ⟨xs, h2, h3⟩ e1 hn hk0 hk
set_option maxRecDepth 100000 in
set_option maxHeartbeats 3200000 in
theorem heldExpS_zero (a1 : Option Addr) (c1 k0 : Nat) (w : World) : Calls Try.prog 60 #[.slice a1 0 c1, .int .i64 k0] w fun e w' => e = .returned (.int .i64 k0) ∧ w' = w := by
  go_enter Try.func60, Try.ntmps60
  go_wp2
  go_loopg [1, 5] 1 (fun k q i wr => k = 1 ∧ q = .int .i64 k0 ∧ i = .int .i64 0 ∧ wr = w)
  case atStart => exact ⟨rfl, rfl, rfl, rfl⟩
  case round =>
    obtain ⟨rfl, rfl, rfl, rfl⟩ := hrel
    go_wp2
    go_ret
    exact ⟨rfl, rfl⟩
set_option maxRecDepth 100000 in
set_option maxHeartbeats 3200000 in
theorem heldExpS_row (base g n k0 : Nat) (r : Rw) (w : World) (h1 : OwnG w base 55 4 r n (FK (fun i => !decide (i = 0)) 4 k0) (n * 4)) (e1 : r.a = some ⟨g, 0, none⟩) (hn : n ≤ 1048576) (_ : 0 < k0) (hk : k0 + n * 4 ≤ 7900000) :
    Calls Try.prog 60 #[.slice (some ⟨g, 0, none⟩) n r.cap, .int .i64 k0] w fun e w' => e = .returned (.int .i64 ((k0 + n * 4 : Nat) : Int)) ∧ Below w.heap.size w w' := by
  have H1 := hidI h1
  have E1 := hidI e1
  clear h1 e1
  go_enter Try.func60, Try.ntmps60
  go_wp2
  go_loopg [1, 5] n (fun k q i wr => ∃ j : Nat, i = .int .i64 j ∧ j + k = n ∧ q = .int .i64 ((k0 + j * 4 : Nat) : Int) ∧ Below w.heap.size w wr)
  case atStart => exact ⟨0, rfl, by omega, by simp, Below.refl _ _⟩
  case round =>
    obtain ⟨j, rfl, hj, hq, hb⟩ := hrel
    have HB := hidI hb
    clear hb
    by_cases hlt : j < n
    · have hlti : (j : Int) < (n : Int) := by omega
      obtain ⟨q0, hq0⟩ : ∃ q0 : Nat, q0 = k0 + (j * 4) := ⟨_, rfl⟩
      rw [← hq0] at hq
      subst hq
      obtain ⟨q1, hq1⟩ : ∃ q1 : Nat, q1 = q0 + 1 := ⟨_, rfl⟩
      have eq1 : (q0 : Int) + 1 = (q1 : Int) := by omega
      obtain ⟨q2, hq2⟩ : ∃ q2 : Nat, q2 = q1 + 1 := ⟨_, rfl⟩
      have eq2 : (q1 : Int) + 1 = (q2 : Int) := by omega
      obtain ⟨q3, hq3⟩ : ∃ q3 : Nat, q3 = q2 + 1 := ⟨_, rfl⟩
      have eq3 : (q2 : Int) + 1 = (q3 : Int) := by omega
      obtain ⟨q4, hq4⟩ : ∃ q4 : Nat, q4 = q3 + 1 := ⟨_, rfl⟩
      have eq4 : (q3 : Int) + 1 = (q4 : Int) := by omega
      have HC0 : Hid (wr.cell? ⟨g, j * 4, none⟩ = some (.int .i64 (q0 : Int))) := by have := (H1.out.later HB.out).cell E1.out (j * 4) (by omega) (by omega); rw [fk_i (c := 0) (q := q0) (by omega) (by decide) (by omega)] at this; exact this
      have HC1 : Hid (wr.cell? ⟨g, j * 4 + 1, none⟩ = some (.string (mtS q1))) := by have := (H1.out.later HB.out).cell E1.out (j * 4 + 1) (by omega) (by omega); rw [fk_s (c := 1) (q := q1) (by omega) (by decide) (by omega)] at this; exact this
      have HC2 : Hid (wr.cell? ⟨g, j * 4 + 2, none⟩ = some (.string (mtS q2))) := by have := (H1.out.later HB.out).cell E1.out (j * 4 + 2) (by omega) (by omega); rw [fk_s (c := 2) (q := q2) (by omega) (by decide) (by omega)] at this; exact this
      have HC3 : Hid (wr.cell? ⟨g, j * 4 + 3, none⟩ = some (.string (mtS q3))) := by have := (H1.out.later HB.out).cell E1.out (j * 4 + 3) (by omega) (by omega); rw [fk_s (c := 3) (q := q3) (by omega) (by decide) (by omega)] at this; exact this
      have HQ : Hid (q4 = k0 + (j * 4 + 4)) := by show q4 = _; omega
      have hglt := ((H1.out.later HB.out).typed (blk_of E1.out)).2.1
      have hqb : q4 ≤ 7950000 := by omega
      have HQB1 : Hid (0 < q1 ∧ q1 ≤ 8000000) := ⟨by omega, by omega⟩
      have HQB2 : Hid (0 < q2 ∧ q2 ≤ 8000000) := ⟨by omega, by omega⟩
      have HQB3 : Hid (0 < q3 ∧ q3 ≤ 8000000) := ⟨by omega, by omega⟩
      obtain ⟨j1, hj1⟩ : ∃ j1, j1 = j + 1 := ⟨_, rfl⟩
      have ej : (j : Int) + 1 = (j1 : Int) := by omega
      have HJ := hidI hj1
      clear hj1 hq0 hq1 hq2 hq3 hq4
      have c0 := HC0.out
      have cQ1 : ∀ d os, Calls Try.prog 45 #[.int .i64 (q1 : Int)] (grow (redrawn wr d) os) fun e w'' => e = .returned (.string (mtS q1)) ∧ ∃ p : Regrown, w'' = grow (redrawn wr p.d) p.os := fun d os => Calls.regrown_of (markText_far q1 _ HQB1.out.1 HQB1.out.2)
      go_wp2_with fail
      have k1 := cell_regrown HC1.out
      refine wp_region_quiet_below (by kernel_rfl) (by kernel_rfl) ?_
      repeat (go_big_quiet_step (exact cQ1 _ _))
      refine wpQuiet_nil ?_
      intro w1 hw'
      obtain ⟨⟨dq, osq⟩, hw''⟩ := hw'
      have hb1 : Below wr.heap.size wr w1 := by rw [hw'']; exact below_regrown _ _ _
      have HB1 := hidI (HB.out.trans (hb1.mono HB.out.size))
      have HC1_2 := hidI ((hb1.cell hglt).trans HC2.out)
      have HC1_3 := hidI ((hb1.cell hglt).trans HC3.out)
      have hglt1 := Nat.lt_of_lt_of_le hglt hb1.size
      clear hw'' k1 cQ1 hb1 hglt c0
      have hglt := hglt1
      clear hglt1
      have cQ2 : ∀ d os, Calls Try.prog 45 #[.int .i64 (q2 : Int)] (grow (redrawn w1 d) os) fun e w'' => e = .returned (.string (mtS q2)) ∧ ∃ p : Regrown, w'' = grow (redrawn w1 p.d) p.os := fun d os => Calls.regrown_of (markText_far q2 _ HQB2.out.1 HQB2.out.2)
      go_wp2_with fail
      have k2 := cell_regrown HC1_2.out
      refine wp_region_quiet_below (by kernel_rfl) (by kernel_rfl) ?_
      repeat (go_big_quiet_step (exact cQ2 _ _))
      refine wpQuiet_nil ?_
      intro w2 hw'
      obtain ⟨⟨dq, osq⟩, hw''⟩ := hw'
      have hb2 : Below w1.heap.size w1 w2 := by rw [hw'']; exact below_regrown _ _ _
      have HB2 := hidI (HB1.out.trans (hb2.mono HB1.out.size))
      have HC2_3 := hidI ((hb2.cell hglt).trans HC1_3.out)
      have hglt2 := Nat.lt_of_lt_of_le hglt hb2.size
      clear hw'' k2 cQ2 hb2 hglt
      have hglt := hglt2
      clear hglt2
      have cQ3 : ∀ d os, Calls Try.prog 45 #[.int .i64 (q3 : Int)] (grow (redrawn w2 d) os) fun e w'' => e = .returned (.string (mtS q3)) ∧ ∃ p : Regrown, w'' = grow (redrawn w2 p.d) p.os := fun d os => Calls.regrown_of (markText_far q3 _ HQB3.out.1 HQB3.out.2)
      go_wp2_with fail
      have k3 := cell_regrown HC2_3.out
      refine wp_region_quiet_below (by kernel_rfl) (by kernel_rfl) ?_
      repeat (go_big_quiet_step (exact cQ3 _ _))
      refine wpQuiet_nil ?_
      intro w3 hw'
      obtain ⟨⟨dq, osq⟩, hw''⟩ := hw'
      have hb3 : Below w2.heap.size w2 w3 := by rw [hw'']; exact below_regrown _ _ _
      have HB3 := hidI (HB2.out.trans (hb3.mono HB2.out.size))
      have hglt3 := Nat.lt_of_lt_of_le hglt hb3.size
      clear hw'' k3 cQ3 hb3 hglt
      have hglt := hglt3
      clear hglt3
      go_wp2
      go_roundg (gk - 1)
      case rel => exact ⟨j1, rfl, by have := HJ.out; omega, by have := HJ.out; have := HQ.out; rw [show q4 = k0 + j1 * 4 from by omega], HB3.out⟩
      case measure => omega
    · have hlti : ¬ (j : Int) < (n : Int) := by omega
      obtain rfl : j = n := by omega
      subst hq
      go_wp2
      go_ret
      exact ⟨rfl, HB.out⟩
theorem heldExpS_any (base n k0 : Nat) (r : Rw) (w : World) (h1 : OwnG w base 55 4 r n (FK (fun i => !decide (i = 0)) 4 k0) (n * 4)) (hn : n ≤ 1048576) (hk0 : 0 < k0) (hk : k0 + n * 4 ≤ 7900000) :
    Calls Try.prog 60 #[.slice r.a n r.cap, .int .i64 k0] w fun e w' => e = .returned (.int .i64 ((k0 + n * 4 : Nat) : Int)) ∧ Below w.heap.size w w' := by
  by_cases h0 : n = 0
  · subst h0
    refine (heldExpS_zero _ _ k0 w).mono ?_
    rintro e w1 ⟨rfl, rfl⟩
    exact ⟨by simp, Below.refl _ _⟩
  · obtain ⟨xs, h2, h3⟩ := h1
    rcases h2.nil_or with ⟨_, _, e⟩ | ⟨g, e1⟩
    · exact absurd e h0
    · rw [e1]
      exact heldExpS_row base g n k0 r w ⟨xs, h2, h3⟩ e1 hn hk0 hk
set_option maxRecDepth 100000 in
set_option maxHeartbeats 3200000 in
theorem heldStmtS_zero (a1 : Option Addr) (c1 k0 : Nat) (w : World) : Calls Try.prog 61 #[.slice a1 0 c1, .int .i64 k0] w fun e w' => e = .returned (.int .i64 k0) ∧ w' = w := by
  go_enter Try.func61, Try.ntmps61
  go_wp2
  go_loopg [1, 5] 1 (fun k q i wr => k = 1 ∧ q = .int .i64 k0 ∧ i = .int .i64 0 ∧ wr = w)
  case atStart => exact ⟨rfl, rfl, rfl, rfl⟩
  case round =>
    obtain ⟨rfl, rfl, rfl, rfl⟩ := hrel
    go_wp2
    go_ret
    exact ⟨rfl, rfl⟩
set_option maxRecDepth 100000 in
set_option maxHeartbeats 3200000 in
theorem heldStmtS_row (base g n k0 : Nat) (r : Rw) (w : World) (h1 : OwnG w base 53 3 r n (FK (fun i => decide (i = 1)) 3 k0) (n * 3)) (e1 : r.a = some ⟨g, 0, none⟩) (hn : n ≤ 1048576) (_ : 0 < k0) (hk : k0 + n * 3 ≤ 7900000) :
    Calls Try.prog 61 #[.slice (some ⟨g, 0, none⟩) n r.cap, .int .i64 k0] w fun e w' => e = .returned (.int .i64 ((k0 + n * 3 : Nat) : Int)) ∧ Below w.heap.size w w' := by
  have H1 := hidI h1
  have E1 := hidI e1
  clear h1 e1
  go_enter Try.func61, Try.ntmps61
  go_wp2
  go_loopg [1, 5] n (fun k q i wr => ∃ j : Nat, i = .int .i64 j ∧ j + k = n ∧ q = .int .i64 ((k0 + j * 3 : Nat) : Int) ∧ Below w.heap.size w wr)
  case atStart => exact ⟨0, rfl, by omega, by simp, Below.refl _ _⟩
  case round =>
    obtain ⟨j, rfl, hj, hq, hb⟩ := hrel
    have HB := hidI hb
    clear hb
    by_cases hlt : j < n
    · have hlti : (j : Int) < (n : Int) := by omega
      obtain ⟨q0, hq0⟩ : ∃ q0 : Nat, q0 = k0 + (j * 3) := ⟨_, rfl⟩
      rw [← hq0] at hq
      subst hq
      obtain ⟨q1, hq1⟩ : ∃ q1 : Nat, q1 = q0 + 1 := ⟨_, rfl⟩
      have eq1 : (q0 : Int) + 1 = (q1 : Int) := by omega
      obtain ⟨q2, hq2⟩ : ∃ q2 : Nat, q2 = q1 + 1 := ⟨_, rfl⟩
      have eq2 : (q1 : Int) + 1 = (q2 : Int) := by omega
      obtain ⟨q3, hq3⟩ : ∃ q3 : Nat, q3 = q2 + 1 := ⟨_, rfl⟩
      have eq3 : (q2 : Int) + 1 = (q3 : Int) := by omega
      have HC0 : Hid (wr.cell? ⟨g, j * 3, none⟩ = some (.int .i64 (q0 : Int))) := by have := (H1.out.later HB.out).cell E1.out (j * 3) (by omega) (by omega); rw [fk_i (c := 0) (q := q0) (by omega) (by decide) (by omega)] at this; exact this
      have HC1 : Hid (wr.cell? ⟨g, j * 3 + 1, none⟩ = some (.string (mtS q1))) := by have := (H1.out.later HB.out).cell E1.out (j * 3 + 1) (by omega) (by omega); rw [fk_s (c := 1) (q := q1) (by omega) (by decide) (by omega)] at this; exact this
      have HC2 : Hid (wr.cell? ⟨g, j * 3 + 2, none⟩ = some (.int .i64 (q2 : Int))) := by have := (H1.out.later HB.out).cell E1.out (j * 3 + 2) (by omega) (by omega); rw [fk_i (c := 2) (q := q2) (by omega) (by decide) (by omega)] at this; exact this
      have HQ : Hid (q3 = k0 + (j * 3 + 3)) := by show q3 = _; omega
      have hglt := ((H1.out.later HB.out).typed (blk_of E1.out)).2.1
      have hqb : q3 ≤ 7950000 := by omega
      have HQB1 : Hid (0 < q1 ∧ q1 ≤ 8000000) := ⟨by omega, by omega⟩
      obtain ⟨j1, hj1⟩ : ∃ j1, j1 = j + 1 := ⟨_, rfl⟩
      have ej : (j : Int) + 1 = (j1 : Int) := by omega
      have HJ := hidI hj1
      clear hj1 hq0 hq1 hq2 hq3
      have c0 := HC0.out
      have cQ1 : ∀ d os, Calls Try.prog 45 #[.int .i64 (q1 : Int)] (grow (redrawn wr d) os) fun e w'' => e = .returned (.string (mtS q1)) ∧ ∃ p : Regrown, w'' = grow (redrawn wr p.d) p.os := fun d os => Calls.regrown_of (markText_far q1 _ HQB1.out.1 HQB1.out.2)
      go_wp2_with fail
      have k1 := cell_regrown HC1.out
      refine wp_region_quiet_below (by kernel_rfl) (by kernel_rfl) ?_
      repeat (go_big_quiet_step (exact cQ1 _ _))
      refine wpQuiet_nil ?_
      intro w1 hw'
      obtain ⟨⟨dq, osq⟩, hw''⟩ := hw'
      have hb1 : Below wr.heap.size wr w1 := by rw [hw'']; exact below_regrown _ _ _
      have HB1 := hidI (HB.out.trans (hb1.mono HB.out.size))
      have HC1_2 := hidI ((hb1.cell hglt).trans HC2.out)
      have hglt1 := Nat.lt_of_lt_of_le hglt hb1.size
      clear hw'' k1 cQ1 hb1 hglt c0
      have hglt := hglt1
      clear hglt1
      have c2 := HC1_2.out
      go_wp2
      go_roundg (gk - 1)
      case rel => exact ⟨j1, rfl, by have := HJ.out; omega, by have := HJ.out; have := HQ.out; rw [show q3 = k0 + j1 * 3 from by omega], HB1.out⟩
      case measure => omega
    · have hlti : ¬ (j : Int) < (n : Int) := by omega
      obtain rfl : j = n := by omega
      subst hq
      go_wp2
      go_ret
      exact ⟨rfl, HB.out⟩
theorem heldStmtS_any (base n k0 : Nat) (r : Rw) (w : World) (h1 : OwnG w base 53 3 r n (FK (fun i => decide (i = 1)) 3 k0) (n * 3)) (hn : n ≤ 1048576) (hk0 : 0 < k0) (hk : k0 + n * 3 ≤ 7900000) :
    Calls Try.prog 61 #[.slice r.a n r.cap, .int .i64 k0] w fun e w' => e = .returned (.int .i64 ((k0 + n * 3 : Nat) : Int)) ∧ Below w.heap.size w w' := by
  by_cases h0 : n = 0
  · subst h0
    refine (heldStmtS_zero _ _ k0 w).mono ?_
    rintro e w1 ⟨rfl, rfl⟩
    exact ⟨by simp, Below.refl _ _⟩
  · obtain ⟨xs, h2, h3⟩ := h1
    rcases h2.nil_or with ⟨_, _, e⟩ | ⟨g, e1⟩
    · exact absurd e h0
    · rw [e1]
      exact heldStmtS_row base g n k0 r w ⟨xs, h2, h3⟩ e1 hn hk0 hk
set_option maxRecDepth 100000 in
set_option maxHeartbeats 3200000 in
theorem heldExprS_zero (a1 : Option Addr) (c1 k0 : Nat) (w : World) : Calls Try.prog 62 #[.slice a1 0 c1, .int .i64 k0] w fun e w' => e = .returned (.int .i64 k0) ∧ w' = w := by
  go_enter Try.func62, Try.ntmps62
  go_wp2
  go_loopg [1, 5] 1 (fun k q i wr => k = 1 ∧ q = .int .i64 k0 ∧ i = .int .i64 0 ∧ wr = w)
  case atStart => exact ⟨rfl, rfl, rfl, rfl⟩
  case round =>
    obtain ⟨rfl, rfl, rfl, rfl⟩ := hrel
    go_wp2
    go_ret
    exact ⟨rfl, rfl⟩
set_option maxRecDepth 100000 in
set_option maxHeartbeats 3200000 in
theorem heldExprS_row (base g n k0 : Nat) (r : Rw) (w : World) (h1 : OwnG w base 50 6 r n (FK (fun i => decide (i = 2) || decide (i = 3)) 6 k0) (n * 6)) (e1 : r.a = some ⟨g, 0, none⟩) (hn : n ≤ 1048576) (_ : 0 < k0) (hk : k0 + n * 6 ≤ 7900000) :
    Calls Try.prog 62 #[.slice (some ⟨g, 0, none⟩) n r.cap, .int .i64 k0] w fun e w' => e = .returned (.int .i64 ((k0 + n * 6 : Nat) : Int)) ∧ Below w.heap.size w w' := by
  have H1 := hidI h1
  have E1 := hidI e1
  clear h1 e1
  go_enter Try.func62, Try.ntmps62
  go_wp2
  go_loopg [1, 5] n (fun k q i wr => ∃ j : Nat, i = .int .i64 j ∧ j + k = n ∧ q = .int .i64 ((k0 + j * 6 : Nat) : Int) ∧ Below w.heap.size w wr)
  case atStart => exact ⟨0, rfl, by omega, by simp, Below.refl _ _⟩
  case round =>
    obtain ⟨j, rfl, hj, hq, hb⟩ := hrel
    have HB := hidI hb
    clear hb
    by_cases hlt : j < n
    · have hlti : (j : Int) < (n : Int) := by omega
      obtain ⟨q0, hq0⟩ : ∃ q0 : Nat, q0 = k0 + (j * 6) := ⟨_, rfl⟩
      rw [← hq0] at hq
      subst hq
      obtain ⟨q1, hq1⟩ : ∃ q1 : Nat, q1 = q0 + 1 := ⟨_, rfl⟩
      have eq1 : (q0 : Int) + 1 = (q1 : Int) := by omega
      obtain ⟨q2, hq2⟩ : ∃ q2 : Nat, q2 = q1 + 1 := ⟨_, rfl⟩
      have eq2 : (q1 : Int) + 1 = (q2 : Int) := by omega
      obtain ⟨q3, hq3⟩ : ∃ q3 : Nat, q3 = q2 + 1 := ⟨_, rfl⟩
      have eq3 : (q2 : Int) + 1 = (q3 : Int) := by omega
      obtain ⟨q4, hq4⟩ : ∃ q4 : Nat, q4 = q3 + 1 := ⟨_, rfl⟩
      have eq4 : (q3 : Int) + 1 = (q4 : Int) := by omega
      obtain ⟨q5, hq5⟩ : ∃ q5 : Nat, q5 = q4 + 1 := ⟨_, rfl⟩
      have eq5 : (q4 : Int) + 1 = (q5 : Int) := by omega
      obtain ⟨q6, hq6⟩ : ∃ q6 : Nat, q6 = q5 + 1 := ⟨_, rfl⟩
      have eq6 : (q5 : Int) + 1 = (q6 : Int) := by omega
      have HC0 : Hid (wr.cell? ⟨g, j * 6, none⟩ = some (.int .i64 (q0 : Int))) := by have := (H1.out.later HB.out).cell E1.out (j * 6) (by omega) (by omega); rw [fk_i (c := 0) (q := q0) (by omega) (by decide) (by omega)] at this; exact this
      have HC1 : Hid (wr.cell? ⟨g, j * 6 + 1, none⟩ = some (.int .i64 (q1 : Int))) := by have := (H1.out.later HB.out).cell E1.out (j * 6 + 1) (by omega) (by omega); rw [fk_i (c := 1) (q := q1) (by omega) (by decide) (by omega)] at this; exact this
      have HC2 : Hid (wr.cell? ⟨g, j * 6 + 2, none⟩ = some (.string (mtS q2))) := by have := (H1.out.later HB.out).cell E1.out (j * 6 + 2) (by omega) (by omega); rw [fk_s (c := 2) (q := q2) (by omega) (by decide) (by omega)] at this; exact this
      have HC3 : Hid (wr.cell? ⟨g, j * 6 + 3, none⟩ = some (.string (mtS q3))) := by have := (H1.out.later HB.out).cell E1.out (j * 6 + 3) (by omega) (by omega); rw [fk_s (c := 3) (q := q3) (by omega) (by decide) (by omega)] at this; exact this
      have HC4 : Hid (wr.cell? ⟨g, j * 6 + 4, none⟩ = some (.int .i64 (q4 : Int))) := by have := (H1.out.later HB.out).cell E1.out (j * 6 + 4) (by omega) (by omega); rw [fk_i (c := 4) (q := q4) (by omega) (by decide) (by omega)] at this; exact this
      have HC5 : Hid (wr.cell? ⟨g, j * 6 + 5, none⟩ = some (.int .i64 (q5 : Int))) := by have := (H1.out.later HB.out).cell E1.out (j * 6 + 5) (by omega) (by omega); rw [fk_i (c := 5) (q := q5) (by omega) (by decide) (by omega)] at this; exact this
      have HQ : Hid (q6 = k0 + (j * 6 + 6)) := by show q6 = _; omega
      have hglt := ((H1.out.later HB.out).typed (blk_of E1.out)).2.1
      have hqb : q6 ≤ 7950000 := by omega
      have HQB2 : Hid (0 < q2 ∧ q2 ≤ 8000000) := ⟨by omega, by omega⟩
      have HQB3 : Hid (0 < q3 ∧ q3 ≤ 8000000) := ⟨by omega, by omega⟩
      obtain ⟨j1, hj1⟩ : ∃ j1, j1 = j + 1 := ⟨_, rfl⟩
      have ej : (j : Int) + 1 = (j1 : Int) := by omega
      have HJ := hidI hj1
      clear hj1 hq0 hq1 hq2 hq3 hq4 hq5 hq6
      have c0 := HC0.out
      have c1 := HC1.out
      have cQ2 : ∀ d os, Calls Try.prog 45 #[.int .i64 (q2 : Int)] (grow (redrawn wr d) os) fun e w'' => e = .returned (.string (mtS q2)) ∧ ∃ p : Regrown, w'' = grow (redrawn wr p.d) p.os := fun d os => Calls.regrown_of (markText_far q2 _ HQB2.out.1 HQB2.out.2)
      go_wp2_with fail
      have k2 := cell_regrown HC2.out
      refine wp_region_quiet_below (by kernel_rfl) (by kernel_rfl) ?_
      repeat (go_big_quiet_step (exact cQ2 _ _))
      refine wpQuiet_nil ?_
      intro w2 hw'
      obtain ⟨⟨dq, osq⟩, hw''⟩ := hw'
      have hb2 : Below wr.heap.size wr w2 := by rw [hw'']; exact below_regrown _ _ _
      have HB2 := hidI (HB.out.trans (hb2.mono HB.out.size))
      have HC2_3 := hidI ((hb2.cell hglt).trans HC3.out)
      have HC2_4 := hidI ((hb2.cell hglt).trans HC4.out)
      have HC2_5 := hidI ((hb2.cell hglt).trans HC5.out)
      have hglt2 := Nat.lt_of_lt_of_le hglt hb2.size
      clear hw'' k2 cQ2 hb2 hglt c0 c1
      have hglt := hglt2
      clear hglt2
      have cQ3 : ∀ d os, Calls Try.prog 45 #[.int .i64 (q3 : Int)] (grow (redrawn w2 d) os) fun e w'' => e = .returned (.string (mtS q3)) ∧ ∃ p : Regrown, w'' = grow (redrawn w2 p.d) p.os := fun d os => Calls.regrown_of (markText_far q3 _ HQB3.out.1 HQB3.out.2)
      go_wp2_with fail
      have k3 := cell_regrown HC2_3.out
      refine wp_region_quiet_below (by kernel_rfl) (by kernel_rfl) ?_
      repeat (go_big_quiet_step (exact cQ3 _ _))
      refine wpQuiet_nil ?_
      intro w3 hw'
      obtain ⟨⟨dq, osq⟩, hw''⟩ := hw'
      have hb3 : Below w2.heap.size w2 w3 := by rw [hw'']; exact below_regrown _ _ _
      have HB3 := hidI (HB2.out.trans (hb3.mono HB2.out.size))
      have HC3_4 := hidI ((hb3.cell hglt).trans HC2_4.out)
      have HC3_5 := hidI ((hb3.cell hglt).trans HC2_5.out)
      have hglt3 := Nat.lt_of_lt_of_le hglt hb3.size
      clear hw'' k3 cQ3 hb3 hglt
      have hglt := hglt3
      clear hglt3
      have c4 := HC3_4.out
      have c5 := HC3_5.out
      go_wp2
      go_roundg (gk - 1)
      case rel => exact ⟨j1, rfl, by have := HJ.out; omega, by have := HJ.out; have := HQ.out; rw [show q6 = k0 + j1 * 6 from by omega], HB3.out⟩
      case measure => omega
    · have hlti : ¬ (j : Int) < (n : Int) := by omega
      obtain rfl : j = n := by omega
      subst hq
      go_wp2
      go_ret
      exact ⟨rfl, HB.out⟩
theorem heldExprS_any (base n k0 : Nat) (r : Rw) (w : World) (h1 : OwnG w base 50 6 r n (FK (fun i => decide (i = 2) || decide (i = 3)) 6 k0) (n * 6)) (hn : n ≤ 1048576) (hk0 : 0 < k0) (hk : k0 + n * 6 ≤ 7900000) :
    Calls Try.prog 62 #[.slice r.a n r.cap, .int .i64 k0] w fun e w' => e = .returned (.int .i64 ((k0 + n * 6 : Nat) : Int)) ∧ Below w.heap.size w w' := by
  by_cases h0 : n = 0
  · subst h0
    refine (heldExprS_zero _ _ k0 w).mono ?_
    rintro e w1 ⟨rfl, rfl⟩
    exact ⟨by simp, Below.refl _ _⟩
  · obtain ⟨xs, h2, h3⟩ := h1
    rcases h2.nil_or with ⟨_, _, e⟩ | ⟨g, e1⟩
    · exact absurd e h0
    · rw [e1]
      exact heldExprS_row base g n k0 r w ⟨xs, h2, h3⟩ e1 hn hk0 hk
end Go.Proofs.Ytaakfnclelcopaa
namespace Go.Proofs.Ytaakfnclelcopaa
open Go.RowKit Go.PlainAid Go.Sort

theorem str_flat (l : List ByteArray) : (l.flatMap fun x => [Value.string x]) = l.map .string := by
  induction l with
  | nil => rfl
  | cons x l ih => rw [List.flatMap_cons, ih]; rfl
theorem alloc_keepL {w : World} {b : Nat} {o o' : Obj} (h : w.heap[b]? = some o) : (w.alloc o').heap[b]? = some o := (Below.heap_alloc w o' b (Array.getElem?_eq_some_iff.1 h).1).trans h
theorem box2 (w : World) (a b : Obj) : ((w.alloc a).alloc b).heap[w.heap.size]? = some a ∧ ((w.alloc a).alloc b).heap[w.heap.size + 1]? = some b := by
  refine ⟨(Below.heap_alloc (w.alloc a) b _ (by rw [alloc_size]; omega)).trans (heap_alloc_new w _), ?_⟩
  have := heap_alloc_new (w.alloc a) b
  rw [alloc_size] at this
  exact this
theorem OwnR.asideL {w w' : World} {b s n b2 s2 n2 : Nat} {e e2 : TypeId} {r r2 : Rw} {xs ys : List Value} (h : OwnR w b e s r n xs) (h2 : OwnR w b2 e2 s2 r2 n2 ys) (he : e ≠ e2) (g : w.grownBy w' r2.blk) : OwnR w' b e s r n xs :=
  h.keep fun k hk => g.block k (h.typed hk).2.1 fun e' => h.ne h2 he hk e'.symm
theorem OwnG.aside {w w' : World} {b s n c b2 s2 n2 : Nat} {e e2 : TypeId} {r r2 : Rw} {F : Nat → Value} {ys : List Value} (h : OwnG w b e s r n F c) (h2 : OwnR w b2 e2 s2 r2 n2 ys) (he : e ≠ e2) (g : w.grownBy w' r2.blk) : OwnG w' b e s r n F c := by
  obtain ⟨xs, h1, h3⟩ := h
  exact ⟨xs, h1.asideL h2 he g, h3⟩
theorem gb_box {w w' : World} {b s n k : Nat} {e : TypeId} {r : Rw} {ys : List Value} {o : Obj} (h2 : OwnR w b e s r n ys) (hk : w.heap[k]? = some o) (hn : ∀ cur, o ≠ .cells cur e (0, 0)) (g : w.grownBy w' r.blk) : w'.heap[k]? = some o :=
  (g.block k (Array.getElem?_eq_some_iff.1 hk).1 fun e' => by
    obtain ⟨_, _, cur, h3⟩ := h2.typed e'.symm
    rw [hk] at h3
    exact hn cur (Option.some.inj h3)).trans hk
theorem gb_under {w w' : World} {b s n : Nat} {e : TypeId} {r : Rw} {ys : List Value} (h2 : OwnR w b e s r n ys) (hb : b ≤ w.heap.size) (g : w.grownBy w' r.blk) : Below b w w' :=
  ⟨g.os, g.tape, g.output, g.size, fun k hk => g.block k (by omega) fun e' => by have := (h2.typed e'.symm).1; omega⟩
end Go.Proofs.Ytaakfnclelcopaa
namespace Go.Proofs.Ytaakfnclelcopaa
open Go.RowKit Go.PlainAid Go.Sort

def kM (m : Md) (k : Nat) : Nat → Nat
  | 0 => k
  | 1 => k + m.rq.length
  | 2 => k + m.rq.length + m.im.length * 3
  | 3 => k + m.rq.length + m.im.length * 3 + m.ep.length * 4
  | 4 => k + m.rq.length + m.im.length * 3 + m.ep.length * 4 + m.st.length * 3
  | _ => k + m.rq.length + m.im.length * 3 + m.ep.length * 4 + m.st.length * 3 + m.ex.length * 6
structure MdMk (w : World) (base : Nat) (S : Sv) (m : Md) (k : Nat) : Prop where
  rq : OwnG w base 9 1 S.rq m.rq.length (FK (fun _ => true) 1 (kM m k 0)) (m.rq.length)
  im : OwnG w base 78 3 S.im m.im.length (FK (fun _ => true) 3 (kM m k 1)) (m.im.length * 3)
  ep : OwnG w base 55 4 S.ep m.ep.length (FK (fun i => !decide (i = 0)) 4 (kM m k 2)) (m.ep.length * 4)
  st : OwnG w base 53 3 S.st m.st.length (FK (fun i => decide (i = 1)) 3 (kM m k 3)) (m.st.length * 3)
  ex : OwnG w base 50 6 S.ex m.ex.length (FK (fun i => decide (i = 2) || decide (i = 3)) 6 (kM m k 4)) (m.ex.length * 6)
theorem MdMk.later {w w' : World} {base k : Nat} {S : Sv} {m : Md} (h : MdMk w base S m k) (hb : Below w.heap.size w w') : MdMk w' base S m k := ⟨h.rq.later hb, h.im.later hb, h.ep.later hb, h.st.later hb, h.ex.later hb⟩
def MdHas (S : Sv) (k : Nat) : Prop := S.rq.blk = some k ∨ S.im.blk = some k ∨ S.ep.blk = some k ∨ S.st.blk = some k ∨ S.ex.blk = some k
theorem OwnMd.in {w : World} {b k : Nat} {S : Sv} {m : Md} (h : OwnMd w b S m) (hk : MdHas S k) : b ≤ k ∧ k < w.heap.size ∧ ∃ cs t, w.heap[k]? = some (.cells cs t (0, 0)) ∧ (t = 9 ∨ t = 78 ∨ t = 55 ∨ t = 53 ∨ t = 50) := by
  rcases hk with e | e | e | e | e
  · obtain ⟨a, b, c, d⟩ := h.rq.typed e; exact ⟨a, b, c, _, d, .inl rfl⟩
  · obtain ⟨a, b, c, d⟩ := h.im.typed e; exact ⟨a, b, c, _, d, .inr (.inl rfl)⟩
  · obtain ⟨a, b, c, d⟩ := h.ep.typed e; exact ⟨a, b, c, _, d, .inr (.inr (.inl rfl))⟩
  · obtain ⟨a, b, c, d⟩ := h.st.typed e; exact ⟨a, b, c, _, d, .inr (.inr (.inr (.inl rfl)))⟩
  · obtain ⟨a, b, c, d⟩ := h.ex.typed e; exact ⟨a, b, c, _, d, .inr (.inr (.inr (.inr rfl)))⟩
theorem OwnMd.keepB {w w' : World} {b : Nat} {S : Sv} {m : Md} (h : OwnMd w b S m) (hk : ∀ k, b ≤ k → k < w.heap.size → MdHas S k → w'.heap[k]? = w.heap[k]?) : OwnMd w' b S m :=
  ⟨h.rq.keep fun k e => hk k (h.rq.typed e).1 (h.rq.typed e).2.1 (.inl e), h.im.keep fun k e => hk k (h.im.typed e).1 (h.im.typed e).2.1 (.inr (.inl e)), h.ep.keep fun k e => hk k (h.ep.typed e).1 (h.ep.typed e).2.1 (.inr (.inr (.inl e))), h.st.keep fun k e => hk k (h.st.typed e).1 (h.st.typed e).2.1 (.inr (.inr (.inr (.inl e)))), h.ex.keep fun k e => hk k (h.ex.typed e).1 (h.ex.typed e).2.1 (.inr (.inr (.inr (.inr e))))⟩
theorem OwnMd.not {w : World} {b k : Nat} {S : Sv} {m : Md} {cs : Array Value} {t : TypeId} (h : OwnMd w b S m) (hk : w.heap[k]? = some (.cells cs t (0, 0))) (ht : ¬ (t = 9 ∨ t = 78 ∨ t = 55 ∨ t = 53 ∨ t = 50)) : ¬ MdHas S k := fun e => by
  obtain ⟨_, _, cs', t', h1, h2⟩ := h.in e
  rw [hk] at h1
  simp only [Option.some.injEq, Obj.cells.injEq] at h1
  exact ht (h1.2.1 ▸ h2)
structure KM (m : Md) (k : Nat) : Prop where
  pos : 0 < k
  rq : m.rq.length ≤ 1048576
  im : m.im.length ≤ 1048576
  ep : m.ep.length ≤ 1048576
  st : m.st.length ≤ 1048576
  ex : m.ex.length ≤ 1048576
  all : kM m k 5 ≤ 7900000
theorem KM.at {m : Md} {k : Nat} (h : KM m k) : kM m k 0 = k ∧ kM m k 0 + m.rq.length = kM m k 1 ∧ kM m k 1 + m.im.length * 3 = kM m k 2 ∧ kM m k 2 + m.ep.length * 4 = kM m k 3 ∧ kM m k 3 + m.st.length * 3 = kM m k 4 ∧ kM m k 4 + m.ex.length * 6 = kM m k 5 ∧ 0 < kM m k 0 ∧ 0 < kM m k 1 ∧ 0 < kM m k 2 ∧ 0 < kM m k 3 ∧ 0 < kM m k 4 ∧ kM m k 5 ≤ 7900000 := by
  have h1 := h.pos
  refine ⟨rfl, rfl, rfl, rfl, rfl, rfl, ?_, ?_, ?_, ?_, ?_, h.all⟩ <;> simp only [kM] <;> omega
set_option maxRecDepth 100000 in
set_option maxHeartbeats 3200000 in
theorem markMd_any (base : Nat) (S : Sv) (m : Md) (k : Nat) (w : World) (h : OwnMd w base S m) (hb : base ≤ w.heap.size) (hk : KM m k) :
    Calls Try.prog 13 #[modD S m, .int .i64 k] w fun e w' => e = .returned (.int .i64 (kM m k 5)) ∧ MdMk w' base S m k ∧ Below base w w' ∧ ∀ j, j < w.heap.size → ¬ MdHas S j → w'.heap[j]? = w.heap[j]? := by
  have KA := hidI hk.at
  obtain ⟨_, l1, l2, l3, l4, l5, _⟩ := hk
  have HM := hidI (h.later ((Below.refl w.heap.size w).alloc (Nat.le_refl _) (.cells #[.slice S.rq.a m.rq.length S.rq.cap, .slice S.im.a m.im.length S.im.cap, .slice S.ep.a m.ep.length S.ep.cap, .slice S.st.a m.st.length S.st.cap, .slice S.ex.a m.ex.length S.ex.cap] 36)))
  have HX : Hid ((w.alloc (.cells #[.slice S.rq.a m.rq.length S.rq.cap, .slice S.im.a m.im.length S.im.cap, .slice S.ep.a m.ep.length S.ep.cap, .slice S.st.a m.st.length S.st.cap, .slice S.ex.a m.ex.length S.ex.cap] 36)).heap[w.heap.size]? = some (.cells #[.slice S.rq.a m.rq.length S.rq.cap, .slice S.im.a m.im.length S.im.cap, .slice S.ep.a m.ep.length S.ep.cap, .slice S.st.a m.st.length S.st.cap, .slice S.ex.a m.ex.length S.ex.cap] 36 (0, 0))) := heap_alloc_new w _
  have HU : Hid (Below base w (w.alloc (.cells #[.slice S.rq.a m.rq.length S.rq.cap, .slice S.im.a m.im.length S.im.cap, .slice S.ep.a m.ep.length S.ep.cap, .slice S.st.a m.st.length S.st.cap, .slice S.ex.a m.ex.length S.ex.cap] 36))) := ((Below.refl w.heap.size w).alloc (Nat.le_refl _) _).mono hb
  have HBS := hidI hb
  clear h hb
  unfold modD
  rw [show Value.int .i64 (k : Int) = .int .i64 ((kM m k 0 : Nat) : Int) from rfl]
  go_enter Try.func13, Try.ntmps13
  go_wp2_with fail
  refine (markStringS_any base m.rq.length (kM m k 0) S.rq _ (OwnG.start (HM.out.rq) _) l1 (by have hka := KA.out; omega) (by have hka := KA.out; omega)).mono ?_
  rintro e w0 ⟨rfl, o0, g0⟩
  have R0im := hidI ((HM.out.im).asideL (HM.out.rq) (by decide) g0)
  have R0ep := hidI ((HM.out.ep).asideL (HM.out.rq) (by decide) g0)
  have R0st := hidI ((HM.out.st).asideL (HM.out.rq) (by decide) g0)
  have R0ex := hidI ((HM.out.ex).asideL (HM.out.rq) (by decide) g0)
  have D0rq := hidI o0
  have HX0 := hidI (gb_box (HM.out.rq) HX.out (by intro cur e; cases e) g0)
  have HU0 := hidI (HU.out.trans (gb_under (HM.out.rq) (Nat.le_trans HBS.out (by have := HU.out.size; exact this)) g0))
  have HN0 := hidI (fun (k : Nat) hk (hne : S.rq.blk ≠ some k) => g0.block k hk fun e => hne e.symm)
  have HS0 := hidI g0.size
  clear o0 g0
  obtain ⟨c0, c1, c2, c3, c4, cf⟩ := five_of HX0.out
  have e0 : kM m k 0 + m.rq.length = kM m k 1 := rfl
  rw [e0]
  clear e0
  go_wp2_with fail
  refine (markImpS_any base m.im.length (kM m k 1) S.im _ (OwnG.start (R0im.out) _) l2 (by have hka := KA.out; omega) (by have hka := KA.out; omega)).mono ?_
  rintro e w1 ⟨rfl, o1, g1⟩
  have R1ep := hidI ((R0ep.out).asideL (R0im.out) (by decide) g1)
  have R1st := hidI ((R0st.out).asideL (R0im.out) (by decide) g1)
  have R1ex := hidI ((R0ex.out).asideL (R0im.out) (by decide) g1)
  have D1rq := hidI ((D0rq.out).aside (R0im.out) (by decide) g1)
  have D1im := hidI o1
  have HX1 := hidI (gb_box (R0im.out) HX0.out (by intro cur e; cases e) g1)
  have HU1 := hidI (HU0.out.trans (gb_under (R0im.out) (Nat.le_trans HBS.out (by have := HU0.out.size; exact this)) g1))
  have HN1 := hidI (fun (k : Nat) hk (hne : S.im.blk ≠ some k) => g1.block k hk fun e => hne e.symm)
  have HS1 := hidI g1.size
  clear o1 g1 c0 c1 c2 c3 c4 cf
  obtain ⟨c0, c1, c2, c3, c4, cf⟩ := five_of HX1.out
  have e1 : kM m k 1 + m.im.length * 3 = kM m k 2 := rfl
  rw [e1]
  clear e1
  go_wp2_with fail
  refine (markExpS_any base m.ep.length (kM m k 2) S.ep _ (OwnG.start (R1ep.out) _) l3 (by have hka := KA.out; omega) (by have hka := KA.out; omega)).mono ?_
  rintro e w2 ⟨rfl, o2, g2⟩
  have R2st := hidI ((R1st.out).asideL (R1ep.out) (by decide) g2)
  have R2ex := hidI ((R1ex.out).asideL (R1ep.out) (by decide) g2)
  have D2rq := hidI ((D1rq.out).aside (R1ep.out) (by decide) g2)
  have D2im := hidI ((D1im.out).aside (R1ep.out) (by decide) g2)
  have D2ep := hidI o2
  have HX2 := hidI (gb_box (R1ep.out) HX1.out (by intro cur e; cases e) g2)
  have HU2 := hidI (HU1.out.trans (gb_under (R1ep.out) (Nat.le_trans HBS.out (by have := HU1.out.size; exact this)) g2))
  have HN2 := hidI (fun (k : Nat) hk (hne : S.ep.blk ≠ some k) => g2.block k hk fun e => hne e.symm)
  have HS2 := hidI g2.size
  clear o2 g2 c0 c1 c2 c3 c4 cf
  obtain ⟨c0, c1, c2, c3, c4, cf⟩ := five_of HX2.out
  have e2 : kM m k 2 + m.ep.length * 4 = kM m k 3 := rfl
  rw [e2]
  clear e2
  go_wp2_with fail
  refine (markStmtS_any base m.st.length (kM m k 3) S.st _ (OwnG.start (R2st.out) _) l4 (by have hka := KA.out; omega) (by have hka := KA.out; omega)).mono ?_
  rintro e w3 ⟨rfl, o3, g3⟩
  have R3ex := hidI ((R2ex.out).asideL (R2st.out) (by decide) g3)
  have D3rq := hidI ((D2rq.out).aside (R2st.out) (by decide) g3)
  have D3im := hidI ((D2im.out).aside (R2st.out) (by decide) g3)
  have D3ep := hidI ((D2ep.out).aside (R2st.out) (by decide) g3)
  have D3st := hidI o3
  have HX3 := hidI (gb_box (R2st.out) HX2.out (by intro cur e; cases e) g3)
  have HU3 := hidI (HU2.out.trans (gb_under (R2st.out) (Nat.le_trans HBS.out (by have := HU2.out.size; exact this)) g3))
  have HN3 := hidI (fun (k : Nat) hk (hne : S.st.blk ≠ some k) => g3.block k hk fun e => hne e.symm)
  have HS3 := hidI g3.size
  clear o3 g3 c0 c1 c2 c3 c4 cf
  obtain ⟨c0, c1, c2, c3, c4, cf⟩ := five_of HX3.out
  have e3 : kM m k 3 + m.st.length * 3 = kM m k 4 := rfl
  rw [e3]
  clear e3
  go_wp2_with fail
  refine (markExprS_any base m.ex.length (kM m k 4) S.ex _ (OwnG.start (R3ex.out) _) l5 (by have hka := KA.out; omega) (by have hka := KA.out; omega)).mono ?_
  rintro e w4 ⟨rfl, o4, g4⟩
  have D4rq := hidI ((D3rq.out).aside (R3ex.out) (by decide) g4)
  have D4im := hidI ((D3im.out).aside (R3ex.out) (by decide) g4)
  have D4ep := hidI ((D3ep.out).aside (R3ex.out) (by decide) g4)
  have D4st := hidI ((D3st.out).aside (R3ex.out) (by decide) g4)
  have D4ex := hidI o4
  have HX4 := hidI (gb_box (R3ex.out) HX3.out (by intro cur e; cases e) g4)
  have HU4 := hidI (HU3.out.trans (gb_under (R3ex.out) (Nat.le_trans HBS.out (by have := HU3.out.size; exact this)) g4))
  have HN4 := hidI (fun (k : Nat) hk (hne : S.ex.blk ≠ some k) => g4.block k hk fun e => hne e.symm)
  have HS4 := hidI g4.size
  clear o4 g4 c0 c1 c2 c3 c4 cf
  obtain ⟨c0, c1, c2, c3, c4, cf⟩ := five_of HX4.out
  have e4 : kM m k 4 + m.ex.length * 6 = kM m k 5 := rfl
  rw [e4]
  clear e4
  go_wp2
  go_ret
  refine ⟨rfl, ⟨D4rq.out, D4im.out, D4ep.out, D4st.out, D4ex.out⟩, HU4.out, fun k hk hn => ?_⟩
  have s0 : k < (w.alloc (.cells #[.slice S.rq.a m.rq.length S.rq.cap, .slice S.im.a m.im.length S.im.cap, .slice S.ep.a m.ep.length S.ep.cap, .slice S.st.a m.st.length S.st.cap, .slice S.ex.a m.ex.length S.ex.cap] 36)).heap.size := by rw [alloc_size]; omega
  have s1 := Nat.lt_of_lt_of_le s0 HS0.out
  have s2 := Nat.lt_of_lt_of_le s1 HS1.out
  have s3 := Nat.lt_of_lt_of_le s2 HS2.out
  have s4 := Nat.lt_of_lt_of_le s3 HS3.out
  exact (HN4.out k s4 fun e => hn (.inr (.inr (.inr (.inr e))))).trans ((HN3.out k s3 fun e => hn (.inr (.inr (.inr (.inl e))))).trans ((HN2.out k s2 fun e => hn (.inr (.inr (.inl e)))).trans ((HN1.out k s1 fun e => hn (.inr (.inl e))).trans ((HN0.out k s0 fun e => hn (.inl e)).trans (heap_alloc_old w _ hk)))))
set_option maxRecDepth 100000 in
set_option maxHeartbeats 3200000 in
theorem heldMd_any (base : Nat) (S : Sv) (m : Md) (k : Nat) (w : World) (h : MdMk w base S m k) (hk : KM m k) (hf : m.rq.length ≤ 1048576 ∧ m.im.length ≤ 1048576 ∧ m.ep.length ≤ 1048576 ∧ m.st.length ≤ 1048576 ∧ m.ex.length ≤ 1048576 ∧ kM m k 5 ≤ 7900000) :
    Calls Try.prog 22 #[modD S m, .int .i64 k] w fun e w' => e = .returned (.int .i64 (kM m k 5)) ∧ Below w.heap.size w w' := by
  have HM := hidI (h.later ((Below.refl w.heap.size w).alloc (Nat.le_refl _) (.cells #[.slice S.rq.a m.rq.length S.rq.cap, .slice S.im.a m.im.length S.im.cap, .slice S.ep.a m.ep.length S.ep.cap, .slice S.st.a m.st.length S.st.cap, .slice S.ex.a m.ex.length S.ex.cap] 36)))
  have HX : Hid ((w.alloc (.cells #[.slice S.rq.a m.rq.length S.rq.cap, .slice S.im.a m.im.length S.im.cap, .slice S.ep.a m.ep.length S.ep.cap, .slice S.st.a m.st.length S.st.cap, .slice S.ex.a m.ex.length S.ex.cap] 36)).heap[w.heap.size]? = some (.cells #[.slice S.rq.a m.rq.length S.rq.cap, .slice S.im.a m.im.length S.im.cap, .slice S.ep.a m.ep.length S.ep.cap, .slice S.st.a m.st.length S.st.cap, .slice S.ex.a m.ex.length S.ex.cap] 36 (0, 0))) := heap_alloc_new w _
  have HU : Hid (Below w.heap.size w (w.alloc (.cells #[.slice S.rq.a m.rq.length S.rq.cap, .slice S.im.a m.im.length S.im.cap, .slice S.ep.a m.ep.length S.ep.cap, .slice S.st.a m.st.length S.st.cap, .slice S.ex.a m.ex.length S.ex.cap] 36))) := (Below.refl w.heap.size w).alloc (Nat.le_refl _) _
  have KA := hidI hk.at
  have KF := hidI hf
  clear h hk hf
  unfold modD
  rw [show Value.int .i64 (k : Int) = .int .i64 ((kM m k 0 : Nat) : Int) from rfl]
  go_enter Try.func22, Try.ntmps22
  go_wp2_with fail
  refine (heldStringS_any base m.rq.length (kM m k 0) S.rq _ HM.out.rq (by have hka := KA.out; have hkf := KF.out; omega) (by have hka := KA.out; have hkf := KF.out; omega) (by have hka := KA.out; have hkf := KF.out; omega)).mono ?_
  rintro e w0 ⟨rfl, hb⟩
  have HM0 := hidI (HM.out.later hb)
  have HX0 := hidI ((hb.block _ (Array.getElem?_eq_some_iff.1 HX.out).1).trans HX.out)
  have HU0 := hidI (HU.out.trans (hb.mono HU.out.size))
  clear hb
  obtain ⟨c0, c1, c2, c3, c4, cf⟩ := five_of HX0.out
  have e0 : kM m k 0 + m.rq.length = kM m k 1 := rfl
  rw [e0]
  clear e0
  have dz0 : decide ((kM m k 1 : Int) < 0) = false := decide_eq_false (by omega)
  go_wp2_with fail
  refine (heldImpS_any base m.im.length (kM m k 1) S.im _ HM0.out.im (by have hka := KA.out; have hkf := KF.out; omega) (by have hka := KA.out; have hkf := KF.out; omega) (by have hka := KA.out; have hkf := KF.out; omega)).mono ?_
  rintro e w1 ⟨rfl, hb⟩
  have HM1 := hidI (HM0.out.later hb)
  have HX1 := hidI ((hb.block _ (Array.getElem?_eq_some_iff.1 HX0.out).1).trans HX0.out)
  have HU1 := hidI (HU0.out.trans (hb.mono HU0.out.size))
  clear hb c0 c1 c2 c3 c4 cf
  obtain ⟨c0, c1, c2, c3, c4, cf⟩ := five_of HX1.out
  have e1 : kM m k 1 + m.im.length * 3 = kM m k 2 := rfl
  rw [e1]
  clear e1
  have dz1 : decide ((kM m k 2 : Int) < 0) = false := decide_eq_false (by omega)
  go_wp2_with fail
  refine (heldExpS_any base m.ep.length (kM m k 2) S.ep _ HM1.out.ep (by have hka := KA.out; have hkf := KF.out; omega) (by have hka := KA.out; have hkf := KF.out; omega) (by have hka := KA.out; have hkf := KF.out; omega)).mono ?_
  rintro e w2 ⟨rfl, hb⟩
  have HM2 := hidI (HM1.out.later hb)
  have HX2 := hidI ((hb.block _ (Array.getElem?_eq_some_iff.1 HX1.out).1).trans HX1.out)
  have HU2 := hidI (HU1.out.trans (hb.mono HU1.out.size))
  clear hb c0 c1 c2 c3 c4 cf
  obtain ⟨c0, c1, c2, c3, c4, cf⟩ := five_of HX2.out
  have e2 : kM m k 2 + m.ep.length * 4 = kM m k 3 := rfl
  rw [e2]
  clear e2
  have dz2 : decide ((kM m k 3 : Int) < 0) = false := decide_eq_false (by omega)
  go_wp2_with fail
  refine (heldStmtS_any base m.st.length (kM m k 3) S.st _ HM2.out.st (by have hka := KA.out; have hkf := KF.out; omega) (by have hka := KA.out; have hkf := KF.out; omega) (by have hka := KA.out; have hkf := KF.out; omega)).mono ?_
  rintro e w3 ⟨rfl, hb⟩
  have HM3 := hidI (HM2.out.later hb)
  have HX3 := hidI ((hb.block _ (Array.getElem?_eq_some_iff.1 HX2.out).1).trans HX2.out)
  have HU3 := hidI (HU2.out.trans (hb.mono HU2.out.size))
  clear hb c0 c1 c2 c3 c4 cf
  obtain ⟨c0, c1, c2, c3, c4, cf⟩ := five_of HX3.out
  have e3 : kM m k 3 + m.st.length * 3 = kM m k 4 := rfl
  rw [e3]
  clear e3
  have dz3 : decide ((kM m k 4 : Int) < 0) = false := decide_eq_false (by omega)
  go_wp2_with fail
  refine (heldExprS_any base m.ex.length (kM m k 4) S.ex _ HM3.out.ex (by have hka := KA.out; have hkf := KF.out; omega) (by have hka := KA.out; have hkf := KF.out; omega) (by have hka := KA.out; have hkf := KF.out; omega)).mono ?_
  rintro e w4 ⟨rfl, hb⟩
  have HM4 := hidI (HM3.out.later hb)
  have HX4 := hidI ((hb.block _ (Array.getElem?_eq_some_iff.1 HX3.out).1).trans HX3.out)
  have HU4 := hidI (HU3.out.trans (hb.mono HU3.out.size))
  clear hb c0 c1 c2 c3 c4 cf
  obtain ⟨c0, c1, c2, c3, c4, cf⟩ := five_of HX4.out
  have e4 : kM m k 4 + m.ex.length * 6 = kM m k 5 := rfl
  rw [e4]
  clear e4
  have dz4 : decide ((kM m k 5 : Int) < 0) = false := decide_eq_false (by omega)
  go_wp2
  go_ret
  exact ⟨rfl, HU4.out⟩
end Go.Proofs.Ytaakfnclelcopaa
namespace Go.Proofs.Ytaakfnclelcopaa
open Go.RowKit Go.PlainAid

abbrev okc (c : Int) : Prop := (97 ≤ c ∧ c ≤ 122) ∨ (48 ≤ c ∧ c ≤ 57) ∨ c = 46 ∨ c = 95 ∨ c = 45 ∨ c = 47
abbrev PathP (s : ByteArray) : Prop := 1 ≤ s.size ∧ s.size ≤ 40 ∧ bt s 0 = 47 ∧ ∀ j, j < s.size → okc (bt s j)
def pathB (s : ByteArray) : Bool := decide (PathP s)
theorem pathB_yes {s : ByteArray} (h : PathP s) : pathB s = true := decide_eq_true h
theorem pathB_no {s : ByteArray} (h : ¬ PathP s) : pathB s = false := decide_eq_false h
theorem pathB_iff {s : ByteArray} : pathB s = true ↔ PathP s := decide_eq_true_iff

def upd (p : ByteArray) (l : List ByteArray) : List ByteArray :=
  if p.toList.isEmpty = true ∨ (p.toList == [46]) = true then l else if (p.toList == [46, 46]) = false then l ++ [p] else l.dropLast
def clStep (s : ByteArray) (i : Nat) (st : Nat × List ByteArray) : Nat × List ByteArray :=
  if i < s.size ∧ bt s i ≠ 47 then st else (i + 1, upd (s.extract st.1 i) st.2)
def clTo (s : ByteArray) : Nat → Nat × List ByteArray
  | 0 => (0, [])
  | k + 1 => clStep s k (clTo s k)
theorem upd_len (p : ByteArray) (l : List ByteArray) : (upd p l).length ≤ l.length + 1 := by
  unfold upd
  split
  · omega
  · split
    · simp
    · simp; omega
theorem clTo_bd (s : ByteArray) (k : Nat) : (clTo s k).1 ≤ k ∧ (clTo s k).2.length ≤ k := by
  induction k with
  | zero => simp [clTo]
  | succ k ih =>
    have h := upd_len (s.extract (clTo s k).1 k) (clTo s k).2
    unfold clTo clStep
    split
    · omega
    · simp only; omega
theorem clTo_on {s : ByteArray} {k : Nat} (h1 : k < s.size) (h2 : bt s k ≠ 47) : clTo s (k + 1) = clTo s k := by rw [clTo, clStep, if_pos ⟨h1, h2⟩]
theorem clTo_part {s : ByteArray} {k : Nat} (h : ¬ (k < s.size ∧ bt s k ≠ 47)) : clTo s (k + 1) = (k + 1, upd (s.extract (clTo s k).1 k) (clTo s k).2) := by rw [clTo, clStep, if_neg h]
theorem upd_empty {p : ByteArray} {l : List ByteArray} (h : p.toList.isEmpty = true) : upd p l = l := by rw [upd, if_pos (.inl h)]
theorem upd_point {p : ByteArray} {l : List ByteArray} (h : (p.toList == [46]) = true) : upd p l = l := by rw [upd, if_pos (.inr h)]
theorem upd_name {p : ByteArray} {l : List ByteArray} (h0 : p.toList.isEmpty = false) (h1 : (p.toList == [46]) = false) (h2 : (p.toList == [46, 46]) = false) : upd p l = l ++ [p] := by
  rw [upd, if_neg (by rw [h0, h1]; simp), if_pos h2]
theorem upd_up {p : ByteArray} {l : List ByteArray} (h0 : p.toList.isEmpty = false) (h1 : (p.toList == [46]) = false) (h2 : (p.toList == [46, 46]) = true) : upd p l = l.dropLast := by
  rw [upd, if_neg (by rw [h0, h1]; simp), if_neg (by rw [h2]; simp)]
def parts (s : ByteArray) : List ByteArray := (clTo s (s.size + 1)).2
def joinTo (l : List ByteArray) : Nat → ByteArray
  | 0 => { data := #[] }
  | k + 1 => joinTo l k ++ { data := #[47] } ++ l.getD k { data := #[] }
def cleanS (s : ByteArray) : ByteArray := if pathB s then (if (parts s).length = 0 then { data := #[47] } else joinTo (parts s) (parts s).length) else { data := #[] }
theorem cleanS_no {s : ByteArray} (h : pathB s = false) : cleanS s = { data := #[] } := by rw [cleanS, h]; rfl
theorem cleanS_root {s : ByteArray} (h : pathB s = true) (hp : (parts s).length = 0) : cleanS s = { data := #[47] } := by rw [cleanS, h, if_pos rfl, if_pos hp]
theorem cleanS_yes {s : ByteArray} (h : pathB s = true) (hp : ¬ (parts s).length = 0) : cleanS s = joinTo (parts s) (parts s).length := by rw [cleanS, h, if_pos rfl, if_neg hp]
theorem upd_sizes (p : ByteArray) (l : List ByteArray) (B : Nat) (hp : p.size ≤ B) (hl : ∀ x ∈ l, x.size ≤ B) : ∀ x ∈ upd p l, x.size ≤ B := by
  intro x hx
  unfold upd at hx
  split at hx
  · exact hl x hx
  · split at hx
    · simp only [List.mem_append, List.mem_singleton] at hx
      rcases hx with hx | rfl
      · exact hl x hx
      · exact hp
    · exact hl x ((List.dropLast_sublist l).subset hx)
theorem clTo_sizes (s : ByteArray) (k : Nat) : ∀ x ∈ (clTo s k).2, x.size ≤ s.size := by
  induction k with
  | zero => simp [clTo]
  | succ k ih =>
    unfold clTo clStep
    split
    · exact ih
    · exact upd_sizes _ _ _ (by rw [ByteArray.size_extract]; omega) ih
theorem getD_size (s : ByteArray) (l : List ByteArray) (h : ∀ x ∈ l, x.size ≤ s.size) (k : Nat) : (l.getD k { data := #[] }).size ≤ s.size := by
  by_cases hk : k < l.length
  · have e : l.getD k { data := #[] } = l[k] := by simp [List.getD, List.getElem?_eq_getElem hk]
    rw [e]
    exact h _ (List.getElem_mem hk)
  · have e : l.getD k { data := #[] } = { data := #[] } := by simp [List.getD, List.getElem?_eq_none (Nat.le_of_not_lt hk)]
    rw [e]
    exact Nat.zero_le _
theorem joinTo_size (s : ByteArray) (l : List ByteArray) (h : ∀ x ∈ l, x.size ≤ s.size) (k : Nat) : (joinTo l k).size ≤ k * (s.size + 1) := by
  induction k with
  | zero => exact Nat.zero_le _
  | succ k ih =>
    have := getD_size s l h k
    rw [joinTo, ByteArray.size_append, ByteArray.size_append, Nat.succ_mul]
    have e : ({ data := #[47] } : ByteArray).size = 1 := rfl
    omega

def OwnS (w : World) (base : Nat) (e : TypeId) (g n cap : Nat) (xs : List ByteArray) : Prop := w.ownsRow base e 1 (.slice (some ⟨g, 0, none⟩) n cap) n (xs.map Value.string) ∧ n = xs.length
theorem ownS_len {w : World} {base g n cap : Nat} {e : TypeId} {xs : List ByteArray} (h : OwnS w base e g n cap xs) : n = xs.length := h.2
theorem ownS_cap {w : World} {base g n cap : Nat} {e : TypeId} {xs : List ByteArray} (h : OwnS w base e g n cap xs) : n ≤ cap ∧ cap ≤ 9223372036854775807 ∧ base ≤ g := by
  rcases h.1.2 with ⟨h', _⟩ | ⟨g', cap', cur, h', hb, _, hn, hm, _⟩
  · simp at h'
  · simp only [Value.slice.injEq, Option.some.injEq, Addr.mk.injEq, and_true, true_and] at h'
    obtain ⟨rfl, rfl⟩ := h'
    unfold maxLen at hm
    exact ⟨hn, by omega, hb⟩
theorem ownS_cell {w : World} {base g n cap : Nat} {e : TypeId} {xs : List ByteArray} (h : OwnS w base e g n cap xs) (j : Nat) (hj : j < n) : w.cell? ⟨g, j, none⟩ = some (.string (xs.getD j { data := #[] })) := by
  have hl := h.2
  rw [h.1.cellAt j (by omega)]
  simp [List.getD, List.getElem?_eq_getElem (show j < xs.length by omega)]
theorem ownS_pop {w : World} {base g n cap : Nat} {e : TypeId} {xs : List ByteArray} (h : OwnS w base e g (n + 1) cap xs) : OwnS w base e g n cap xs.dropLast := by
  obtain ⟨⟨hl, hc⟩, hn⟩ := h
  rw [List.length_map] at hl
  refine ⟨⟨by rw [List.length_map, List.length_dropLast]; omega, ?_⟩, by rw [List.length_dropLast]; omega⟩
  rcases hc with ⟨h', _⟩ | ⟨g', cap', cur, h', hb, hg, hnc, hm, hcs, ht⟩
  · simp at h'
  · simp only [Value.slice.injEq, Option.some.injEq, Addr.mk.injEq, and_true, true_and] at h'
    obtain ⟨rfl, rfl⟩ := h'
    refine .inr ⟨g, cap, cur, rfl, hb, hg, by omega, hm, hcs, ?_⟩
    rw [List.map_dropLast, ← ht, List.dropLast_eq_take, List.length_take, List.take_take]
    congr 1
    have : cur.toList.length = cap := by rw [Array.length_toList, hcs, Nat.mul_one]
    omega
theorem app_str {P : Program} (w : World) {ops : Array Oper} {rest : List Oper} {o : Oper} {a : Act} {Q : Exit → Act → World → Prop} (hgd : o.guard = none) (s x : Operand) (t : TypeId)
    (ho : o.op = .call { callee := .builtin .append, args := #[s, x], argTypes := #[t, t] })
    (base : Nat) (e : TypeId) (i : TypeInfo) (z : Value) (ht : P.underlying t = some (.slice e)) (hi : P.info? e = some i) (hz : i.zero = some z) (hsize : i.size = 1) (hby : i.bytes = 16) (hzs : z.cells.size = 1)
    (g n cap : Nat) (xs : List ByteArray) (hs : a.eval s = .slice (some ⟨g, 0, none⟩) n cap) (hown : OwnS w base e g n cap xs)
    (b : ByteArray) (hx : a.eval x = .slice (some ⟨w.heap.size, 0, none⟩) 1 1) (hn : n + 1 ≤ 100000000) (hbase : base ≤ w.heap.size)
    (h : ∀ g' cap' w', OwnS w' base e g' (n + 1) cap' (xs ++ [b]) → Below base w w' → wpList P ops Q rest (a.put o.dst (.slice (some ⟨g', 0, none⟩) (n + 1) cap')) w') :
    wpList P ops Q (o :: rest) a (w.alloc (.cells #[.string b] e)) := by
  refine wpList_append_own _ hgd s x t ho base e i z 1 16 ht hi hz hsize hby hzs (by decide) _ n _ hs (hown.1.alloc _) ⟨w.heap.size, 0, none⟩ 1 1 [.string b] hx rfl ?_ ?_ ?_ ?_ ?_ ?_
  · intro j u hj
    match j, hj with
    | 0, hj =>
      simp at hj
      subst hj
      simp [Addr.add]
  · intro u hu
    simp at hu
    subst hu
    rfl
  · unfold maxLen; omega
  · omega
  · simp; omega
  · intro v' w' h1 h2 h3
    have hb : Below base w w' := ((Below.refl base w).alloc hbase _).grown h2 (by simp; omega) (own_block_ge hown.1)
    rcases h1.2 with ⟨hv, _⟩ | ⟨g', cap', cur, rfl, hrest⟩
    · have := (h3.1 hv).1
      simp at this
    · refine h g' cap' w' ⟨?_, by rw [List.length_append]; have := hown.2; simp; omega⟩ hb
      rw [List.map_append]
      exact h1
theorem ownS_later {w W : World} {base g n cap : Nat} {e : TypeId} {xs : List ByteArray} (h : OwnS w base e g n cap xs) (hb : Below w.heap.size w W) : OwnS W base e g n cap xs := by
  refine ⟨⟨h.1.1, ?_⟩, h.2⟩
  rcases h.1.2 with k | ⟨g', cap', cur, hv, hbase, hg, hn, hm, hcs, ht⟩
  · exact .inl k
  · have hlt : g' < w.heap.size := by
      rcases Nat.lt_or_ge g' w.heap.size with k | k
      · exact k
      · rw [Array.getElem?_eq_none k] at hg
        cases hg
    exact .inr ⟨g', cap', cur, hv, hbase, (hb.block g' hlt).trans hg, hn, hm, hcs, ht⟩
def begB (a s : ByteArray) : Bool := decide (a.size ≤ s.size) && ((s.extract 0 a.size).toList == a.toList)
end Go.Proofs.Ytaakfnclelcopaa
namespace Go.Proofs.Ytaakfnclelcopaa
open Go.RowKit Go.PlainAid

def upTo (c : ByteArray) : Nat → List ByteArray
  | 0 => []
  | k + 1 => (if bt c (k + 1) = 47 then [c.extract 0 (k + 1)] else []) ++ upTo c k
def upC (c : ByteArray) : List ByteArray := upTo c (c.size - 1) ++ if 1 < c.size then [{ data := #[47] }] else []
def upL (p : ByteArray) : List ByteArray := upC (cleanS p)
theorem upTo_yes {c : ByteArray} {k : Nat} (h : bt c (k + 1) = 47) : upTo c (k + 1) = c.extract 0 (k + 1) :: upTo c k := by rw [upTo, if_pos h]; rfl
theorem upTo_no {c : ByteArray} {k : Nat} (h : bt c (k + 1) ≠ 47) : upTo c (k + 1) = upTo c k := by rw [upTo, if_neg h]; rfl
theorem upTo_len (c : ByteArray) (k : Nat) : (upTo c k).length ≤ k := by
  induction k with
  | zero => exact Nat.le_refl _
  | succ k ih =>
    rw [upTo, List.length_append]
    split
    · simp; omega
    · simp; omega
theorem world_anyU {P : Program} {code : Code} {Q : Exit → Act → World → Prop} {a : Act} {w0 : World} {R : World → Prop} (h0 : R w0) (h : ∀ W, R W → Code.wp P code Q a W) : Code.wp P code Q a w0 := h w0 h0
theorem hidU {p : Prop} (h : p) : Hid p := h
end Go.Proofs.Ytaakfnclelcopaa
namespace Go.Proofs.Ytaakfnclelcopaa
open Go.RowKit Go.PlainAid

theorem ownS_blk {w : World} {base g n cap : Nat} {e : TypeId} {xs : List ByteArray} (h : OwnS w base e g n cap xs) : base ≤ g ∧ g < w.heap.size := by
  rcases h.1.2 with ⟨h', _⟩ | ⟨g', cap', cur, h', hb, hg, _⟩
  · simp at h'
  · simp only [Value.slice.injEq, Option.some.injEq, Addr.mk.injEq, and_true, true_and] at h'
    obtain ⟨rfl, rfl⟩ := h'
    exact ⟨hb, (Array.getElem?_eq_some_iff.1 hg).1⟩
theorem ownS_keep {w W : World} {base g n cap : Nat} {e : TypeId} {xs : List ByteArray} (h : OwnS w base e g n cap xs) (hk : W.heap[g]? = w.heap[g]?) : OwnS W base e g n cap xs := by
  refine ⟨⟨h.1.1, ?_⟩, h.2⟩
  rcases h.1.2 with ⟨h', _⟩ | ⟨g', cap', cur, h', hbs, hg, hr⟩
  · simp at h'
  · simp only [Value.slice.injEq, Option.some.injEq, Addr.mk.injEq, and_true, true_and] at h'
    obtain ⟨rfl, rfl⟩ := h'
    exact .inr ⟨g, cap, cur, rfl, hbs, hk.trans hg, hr⟩
theorem ownS_low {w : World} {base b g n cap : Nat} {e : TypeId} {xs : List ByteArray} (h : OwnS w base e g n cap xs) (hb : b ≤ base) : OwnS w b e g n cap xs := by
  refine ⟨⟨h.1.1, ?_⟩, h.2⟩
  rcases h.1.2 with ⟨h', _⟩ | ⟨g', cap', cur, h', hbs, hg, hr⟩
  · simp at h'
  · exact .inr ⟨g', cap', cur, h', Nat.le_trans hb hbs, hg, hr⟩
theorem app_strG {P : Program} (w : World) {ops : Array Oper} {rest : List Oper} {o : Oper} {a : Act} {Q : Exit → Act → World → Prop} (hgd : o.guard = none) (s x : Operand) (t : TypeId)
    (ho : o.op = .call { callee := .builtin .append, args := #[s, x], argTypes := #[t, t] })
    (base : Nat) (e : TypeId) (i : TypeInfo) (z : Value) (ht : P.underlying t = some (.slice e)) (hi : P.info? e = some i) (hz : i.zero = some z) (hsize : i.size = 1) (hby : i.bytes = 16) (hzs : z.cells.size = 1)
    (g n cap : Nat) (xs : List ByteArray) (hs : a.eval s = .slice (some ⟨g, 0, none⟩) n cap) (hown : OwnS w base e g n cap xs)
    (b : ByteArray) (hx : a.eval x = .slice (some ⟨w.heap.size, 0, none⟩) 1 1) (hn : n + 1 ≤ 100000000)
    (h : ∀ g' cap' w', OwnS w' base e g' (n + 1) cap' (xs ++ [b]) → w.grownBy w' (some g) → (g' = g ∨ w.heap.size < g') → wpList P ops Q rest (a.put o.dst (.slice (some ⟨g', 0, none⟩) (n + 1) cap')) w') :
    wpList P ops Q (o :: rest) a (w.alloc (.cells #[.string b] e)) := by
  obtain ⟨hb0, hb1⟩ := ownS_blk hown
  refine wpList_append_own_at _ hgd s x t ho base e i z 1 16 ht hi hz hsize hby hzs (by decide) _ n _ hs (hown.1.alloc _) ⟨w.heap.size, 0, none⟩ 1 1 [.string b] hx rfl ?_ ?_ ?_ ?_ ?_ ?_
  · intro j u hj
    match j, hj with
    | 0, hj =>
      simp at hj
      subst hj
      simp [Addr.add]
  · intro u hu
    simp at hu
    subst hu
    rfl
  · unfold maxLen; omega
  · omega
  · simp; omega
  · intro v' w' k1 k2 k3 k4
    rcases k1.2 with ⟨hv, hn0⟩ | ⟨g', cap', cur, rfl, hrest⟩
    · omega
    · refine h g' cap' w' ⟨by rw [List.map_append]; exact k1, by rw [List.length_append]; have := hown.2; simp; omega⟩ ?_ ?_
      · have k2' : (w.alloc (.cells #[.string b] e)).grownBy w' (some g) := k2
        have hsz : (w.alloc (.cells #[.string b] e)).heap.size = w.heap.size + 1 := by show (w.heap.push _).size = _; simp
        exact ⟨k2'.os, k2'.tape, k2'.output, by have := k2'.size; omega, fun k hk hne => (k2'.block k (by omega) hne).trans (heap_alloc_old w _ hk)⟩
      · have k4' : some g' = some g ∨ some g' = some (w.alloc (.cells #[.string b] e)).heap.size := k4
        rcases k4' with k | k
        · exact .inl (Option.some.inj k)
        · right
          have := Option.some.inj k
          rw [this]
          show w.heap.size < (w.heap.push _).size
          simp
def inT (l : List ByteArray) (s : ByteArray) : Bool := l.any fun y => y.toList == s.toList
theorem inT_yes {l : List ByteArray} {s : ByteArray} {j : Nat} {x : ByteArray} (hx : l[j]? = some x) (h : (x.toList == s.toList) = true) : inT l s = true := List.any_eq_true.2 ⟨x, List.mem_of_getElem? hx, h⟩
theorem inT_no {l : List ByteArray} {s : ByteArray} (h : ∀ (j : Nat) (x : ByteArray), l[j]? = some x → (x.toList == s.toList) = false) : inT l s = false := by
  unfold inT
  rw [List.any_eq_false]
  intro x hx
  obtain ⟨j, hj, rfl⟩ := List.getElem_of_mem hx
  rw [h j _ (List.getElem?_eq_getElem hj)]
  decide
end Go.Proofs.Ytaakfnclelcopaa
