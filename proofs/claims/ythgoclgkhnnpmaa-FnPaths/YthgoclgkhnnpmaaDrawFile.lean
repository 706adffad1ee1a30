/-
  What spec.l1Pick, spec.l2Some and spec.DrawResolve tell: some texts, none of them long: the walks.
-/
import Derived.Test.YthgoclgkhnnpmaaDrawBase
namespace Go.Proofs.Ythgoclgkhnnpmaa
open Go.RowKit Go.PlainAid

set_option maxHeartbeats 800000 in
theorem l1Pick_some (S : Src) (hS : S.ok) (g : Nat) (q : Nat × Int) (b m : Nat) (w : World) (hc : CurW 55 S w g q) (hm : 1 ≤ m) (hm2 : m ≤ 1000)
    (hbw : b < w.heap.size) (hbg : b ≠ g) (hcell : ∀ j, j < m → ∃ x, w.cell? ⟨b, j, none⟩ = some (.string x) ∧ x.size ≤ 100) :
    Calls Try.prog 23 #[.pointer (some ⟨g, 0, none⟩), .slice (some ⟨b, 0, none⟩) m m] w fun e w' => ∃ x q', e = .returned (.string x) ∧ x.size ≤ 100 ∧ CurW 55 S w' g q' ∧ w.grownBy w' (some g) := by
  have hbd := bw_bd S q m (by omega)
  go_enter Try.func23, Try.ntmps23
  go_wp2_with fail
  refine (l1Below_any S hS g q m _ hc (by omega)).mono ?_
  rintro e w1 ⟨rfl, hc1, hg1⟩
  obtain ⟨x, hx, hxs⟩ := hcell (bw S q m).1.toNat (by omega)
  have hcl : w1.cell? ⟨b, (bw S q m).1.toNat, none⟩ = some (.string x) := by
    rw [← hx]
    exact World.cell?_of_block (w := w) (a := ⟨b, _, none⟩) (hg1.block b hbw (by simpa using hbg))
  have HC : Hid (CurW 55 S w1 g (bw S q m).2) := hc1
  clear hcell hc hc1
  go_wp2
  go_ret
  exact ⟨x, _, rfl, hxs, HC.out, hg1⟩

set_option maxHeartbeats 1600000 in
theorem l2Some_some (S : Src) (hS : S.ok) (g : Nat) (q : Nat × Int) (w : World) (hc : CurW 55 S w g q) :
    Calls Try.prog 22 #[.pointer (some ⟨g, 0, none⟩)] w fun e w' => ∃ x q', e = .returned (.string x) ∧ x.size ≤ 100 ∧ CurW 55 S w' g q' ∧ w.grownBy w' (some g) := by
  go_enter Try.func22, Try.ntmps22
  go_wp2_with fail
  refine (l1Pick_some S hS g q w.heap.size 10 _ (curW_below hc ((Below.refl w.heap.size w).alloc (Nat.le_refl _) _) (curW_lt hc)) (by omega) (by omega) (by simp) (by have := curW_lt hc; omega) ?_).mono ?_
  · intro j hj
    rw [World.cell?_alloc_new]
    match j, hj with
    | 0, _ | 1, _ | 2, _ | 3, _ | 4, _ | 5, _ | 6, _ | 7, _ | 8, _ | 9, _ => exact ⟨_, rfl, by decide⟩
    | j + 10, hj => omega
  rintro e w1 ⟨x, q1, rfl, hxs, hc1, hg1⟩
  have hg1' : w.grownBy w1 (some g) := grown_trans (grown_below (World.grownBy.refl w _) ((Below.refl w.heap.size w).alloc (Nat.le_refl _) _) (Nat.le_refl _)) hg1
  clear hg1
  by_cases ho : ((bw S q1 8).1 == 0) = true
  · go_wp2_with fail
    refine (l1Once_any S hS g q1 8 _ hc1 (by omega)).mono ?_
    rintro e w2 ⟨rfl, hc2, hg2⟩
    go_wp2_with fail
    refine (l1Pick_some S hS g _ w2.heap.size 8 _ (curW_below hc2 ((Below.refl w2.heap.size w2).alloc (Nat.le_refl _) _) (curW_lt hc2)) (by omega) (by omega) (by simp) (by have := curW_lt hc2; omega) ?_).mono ?_
    · intro j hj
      rw [World.cell?_alloc_new]
      match j, hj with
      | 0, _ | 1, _ | 2, _ | 3, _ | 4, _ | 5, _ | 6, _ | 7, _ => exact ⟨_, rfl, by decide⟩
      | j + 8, hj => omega
    rintro e w3 ⟨y, q3, rfl, hys, hc3, hg3⟩
    have hgr := grown_trans (grown_below (grown_trans hg1' hg2) ((Below.refl w2.heap.size w2).alloc (Nat.le_refl _) _) (Nat.le_trans hg1'.size hg2.size)) hg3
    clear hg3
    go_wp2
    go_ret
    exact ⟨y, q3, rfl, hys, hc3, hgr⟩
  · have ho' : ((bw S q1 8).1 == 0) = false := by simpa using ho
    clear ho
    go_wp2_with fail
    refine (l1Once_any S hS g q1 8 _ hc1 (by omega)).mono ?_
    rintro e w2 ⟨rfl, hc2, hg2⟩
    go_wp2
    go_ret
    exact ⟨x, _, rfl, hxs, hc2, grown_trans hg1' hg2⟩

set_option maxHeartbeats 800000 in
theorem drawResolve_some (S : Src) (hS : S.ok) (w : World) (hc : CodeW S w) (hl : S.lim ≤ w.heap.size) :
    Calls Try.prog 9 #[.slice S.a S.len S.cap] w fun e w' => ∃ f x, e = .returned (.tuple #[.string f, .string x]) ∧ f.size ≤ 100 ∧ x.size ≤ 100 ∧ Below w.heap.size w w' := by
  go_enter Try.func9, Try.ntmps9
  go_wp2_with fail
  refine (l1New_any S hS _ hc hl).mono ?_
  rintro e w1 ⟨rfl, hc1, hb1⟩
  go_wp2_with fail
  refine (l2Some_some S hS _ _ _ hc1).mono ?_
  rintro e w2 ⟨f, q2, rfl, hfs, hc2, hg2⟩
  have b2 := below_grown hb1 hg2 (Nat.le_refl _) hb1.size
  clear hg2
  go_wp2_with fail
  refine (l1Pick_some S hS _ q2 w2.heap.size 12 _ (curW_below hc2 ((Below.refl w2.heap.size w2).alloc (Nat.le_refl _) _) (curW_lt hc2)) (by omega) (by omega) (by simp) (by have := curW_lt hc2; omega) ?_).mono ?_
  · intro j hj
    rw [World.cell?_alloc_new]
    match j, hj with
    | 0, _ | 1, _ | 2, _ | 3, _ | 4, _ | 5, _ | 6, _ | 7, _ | 8, _ | 9, _ | 10, _ | 11, _ => exact ⟨_, rfl, by decide⟩
    | j + 12, hj => omega
  rintro e w3 ⟨x, q3, rfl, hxs, hc3, hg3⟩
  have b3 := below_grown (b2.alloc b2.size _) hg3 (Nat.le_refl _) (by simp; have := b2.size; omega)
  clear hg3
  go_wp2
  go_ret2
  exact ⟨f, x, rfl, hfs, hxs, b3⟩
end Go.Proofs.Ythgoclgkhnnpmaa
