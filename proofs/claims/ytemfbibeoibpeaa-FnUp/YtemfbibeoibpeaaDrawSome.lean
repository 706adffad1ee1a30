/-
  What spec.l2Some tells: some texts, none of them long: the walk.
-/
import Derived.Test.YtemfbibeoibpeaaDrawPick
namespace Go.Proofs.Ytemfbibeoibpeaa
open Go.RowKit Go.PlainAid

set_option maxHeartbeats 1600000 in
theorem l2Some_some (S : Src) (hS : S.ok) (g : Nat) (q : Nat × Int) (w : World) (hc : CurW 65 S w g q) :
    Calls Try.prog 31 #[.pointer (some ⟨g, 0, none⟩)] w fun e w' => ∃ x q', e = .returned (.string x) ∧ x.size ≤ 100 ∧ CurW 65 S w' g q' ∧ w.grownBy w' (some g) := by
  go_enter Try.func31, Try.ntmps31
  go_wp2_with fail
  refine (l1Pick_some S hS g q w.heap.size 10 _ (curW_below hc ((Below.refl w.heap.size w).alloc (Nat.le_refl _) _) (curW_lt hc)) (by omega) (by omega) (by simp) (by have := curW_lt hc; omega) ?_).mono ?_
  · intro j hj
    rw [World.cell?_alloc_new]
    match j, hj with
    | 0, _ | 1, _ | 2, _ | 3, _ | 4, _ | 5, _ | 6, _ | 7, _ | 8, _ | 9, _ => exact ⟨_, rfl, by decide⟩
    | j + 10, hj => omega
  rintro e w1 ⟨x, q1, rfl, hxs, hc1, hg1⟩
  have hg1' : w.grownBy w1 (some g) := grown_trans (grown_below (World.grownBy.refl w _) ((Below.refl w.heap.size w).alloc (Nat.le_refl _) _) (Nat.le_refl _)) hg1
  clear hg1
  by_cases ho : ((bw S q1 8).1 == 0) = true
  · go_wp2_with fail
    refine (l1Once_any S hS g q1 8 _ hc1 (by omega)).mono ?_
    rintro e w2 ⟨rfl, hc2, hg2⟩
    go_wp2_with fail
    refine (l1Pick_some S hS g _ w2.heap.size 8 _ (curW_below hc2 ((Below.refl w2.heap.size w2).alloc (Nat.le_refl _) _) (curW_lt hc2)) (by omega) (by omega) (by simp) (by have := curW_lt hc2; omega) ?_).mono ?_
    · intro j hj
      rw [World.cell?_alloc_new]
      match j, hj with
      | 0, _ | 1, _ | 2, _ | 3, _ | 4, _ | 5, _ | 6, _ | 7, _ => exact ⟨_, rfl, by decide⟩
      | j + 8, hj => omega
    rintro e w3 ⟨y, q3, rfl, hys, hc3, hg3⟩
    have hgr := grown_trans (grown_below (grown_trans hg1' hg2) ((Below.refl w2.heap.size w2).alloc (Nat.le_refl _) _) (Nat.le_trans hg1'.size hg2.size)) hg3
    clear hg3
    go_wp2
    go_ret
    exact ⟨y, q3, rfl, hys, hc3, hgr⟩
  · have ho' : ((bw S q1 8).1 == 0) = false := by simpa using ho
    clear ho
    go_wp2_with fail
    refine (l1Once_any S hS g q1 8 _ hc1 (by omega)).mono ?_
    rintro e w2 ⟨rfl, hc2, hg2⟩
    go_wp2
    go_ret
    exact ⟨x, _, rfl, hxs, hc2, grown_trans hg1' hg2⟩
end Go.Proofs.Ytemfbibeoibpeaa
