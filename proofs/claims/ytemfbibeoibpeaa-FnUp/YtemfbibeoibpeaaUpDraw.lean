/-
  What spec.DrawUp tells: some text that is not long: the walk.
-/
import Derived.Test.YtemfbibeoibpeaaDrawSome
namespace Go.Proofs.Ytemfbibeoibpeaa
open Go.RowKit Go.PlainAid

set_option maxHeartbeats 1600000 in
theorem drawUp_some (S : Src) (hS : S.ok) (w : World) (hc : CodeW S w) (hl : S.lim ≤ w.heap.size) :
    Calls Try.prog 9 #[.slice S.a S.len S.cap] w fun e w' => ∃ x, e = .returned (.string x) ∧ x.size ≤ 100 ∧ Below w.heap.size w w' := by
  go_enter Try.func9, Try.ntmps9
  go_wp2_with fail
  refine (l1New_any S hS _ hc hl).mono ?_
  rintro e w1 ⟨rfl, hc1, hb1⟩
  go_wp2_with fail
  refine (l1Once_any S hS _ _ 2 _ hc1 (by omega)).mono ?_
  rintro e w2 ⟨rfl, hc2, hg2⟩
  have b2 := below_grown hb1 hg2 (Nat.le_refl _) hb1.size
  clear hg2 hc1
  by_cases ho : ((bw S (start S) 2).1 == 0) = true
  · go_wp2_with fail
    refine (l1Pick_some S hS _ _ w2.heap.size 5 _ (curW_below hc2 ((Below.refl w2.heap.size w2).alloc (Nat.le_refl _) _) (curW_lt hc2)) (by omega) (by omega) (by simp) (by have := curW_lt hc2; omega) ?_).mono ?_
    · intro j hj
      rw [World.cell?_alloc_new]
      match j, hj with
      | 0, _ | 1, _ | 2, _ | 3, _ | 4, _ => exact ⟨_, rfl, by decide⟩
      | j + 5, hj => omega
    rintro e w3 ⟨x, q3, rfl, hxs, hc3, hg3⟩
    have b3 := below_grown (b2.trans (((Below.refl w2.heap.size w2).alloc (Nat.le_refl _) _).mono b2.size)) hg3 (Nat.le_refl _) (Nat.le_trans b2.size (by simp))
    go_wp2
    go_ret
    exact ⟨x, rfl, hxs, b3⟩
  · have ho' : ((bw S (start S) 2).1 == 0) = false := by simpa using ho
    clear ho
    go_wp2_with fail
    refine (l2Some_some S hS _ _ _ hc2).mono ?_
    rintro e w3 ⟨x, q3, rfl, hxs, hc3, hg3⟩
    have b3 := below_grown b2 hg3 (Nat.le_refl _) b2.size
    go_wp2
    go_ret
    exact ⟨x, rfl, hxs, b3⟩
end Go.Proofs.Ytemfbibeoibpeaa
