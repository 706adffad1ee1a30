/-
  What spec.l1Pick tells: one of the texts, none of them long: the walk.
-/
import Derived.Test.YtemfbibeoibpeaaDrawBase
namespace Go.Proofs.Ytemfbibeoibpeaa
open Go.RowKit Go.PlainAid

set_option maxHeartbeats 800000 in
theorem l1Pick_le (S : Src) (hS : S.ok) (g : Nat) (q : Nat × Int) (b m N : Nat) (w : World) (hc : CurW 65 S w g q) (hm : 1 ≤ m) (hm2 : m ≤ 1000)
    (hbw : b < w.heap.size) (hbg : b ≠ g) (hcell : ∀ j, j < m → ∃ x, w.cell? ⟨b, j, none⟩ = some (.string x) ∧ x.size ≤ N) :
    Calls Try.prog 30 #[.pointer (some ⟨g, 0, none⟩), .slice (some ⟨b, 0, none⟩) m m] w fun e w' => ∃ x q', e = .returned (.string x) ∧ x.size ≤ N ∧ CurW 65 S w' g q' ∧ w.grownBy w' (some g) := by
  have hbd := bw_bd S q m (by omega)
  go_enter Try.func30, Try.ntmps30
  go_wp2_with fail
  refine (l1Below_any S hS g q m _ hc (by omega)).mono ?_
  rintro e w1 ⟨rfl, hc1, hg1⟩
  obtain ⟨x, hx, hxs⟩ := hcell (bw S q m).1.toNat (by omega)
  have hcl : w1.cell? ⟨b, (bw S q m).1.toNat, none⟩ = some (.string x) := by
    rw [← hx]
    exact World.cell?_of_block (w := w) (a := ⟨b, _, none⟩) (hg1.block b hbw (by simpa using hbg))
  have HC : Hid (CurW 65 S w1 g (bw S q m).2) := hc1
  clear hcell hc hc1
  go_wp2
  go_ret
  exact ⟨x, _, rfl, hxs, HC.out, hg1⟩
theorem l1Pick_some (S : Src) (hS : S.ok) (g : Nat) (q : Nat × Int) (b m : Nat) (w : World) (hc : CurW 65 S w g q) (hm : 1 ≤ m) (hm2 : m ≤ 1000)
    (hbw : b < w.heap.size) (hbg : b ≠ g) (hcell : ∀ j, j < m → ∃ x, w.cell? ⟨b, j, none⟩ = some (.string x) ∧ x.size ≤ 100) :
    Calls Try.prog 30 #[.pointer (some ⟨g, 0, none⟩), .slice (some ⟨b, 0, none⟩) m m] w fun e w' => ∃ x q', e = .returned (.string x) ∧ x.size ≤ 100 ∧ CurW 65 S w' g q' ∧ w.grownBy w' (some g) := l1Pick_le S hS g q b m 100 w hc hm hm2 hbw hbg hcell
end Go.Proofs.Ytemfbibeoibpeaa
