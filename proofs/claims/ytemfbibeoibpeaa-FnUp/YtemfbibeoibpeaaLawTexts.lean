/-
  What laws.sameTexts answers of two lists of the same texts: the walk.
-/
import Derived.Test.YtemfbibeoibpeaaLawStrP
namespace Go.Proofs.Ytemfbibeoibpeaa
open Go.RowKit Go.PlainAid Go.Sort

set_option maxRecDepth 100000 in
set_option maxHeartbeats 3200000 in
theorem sameTexts_plain (a1 a2 : Option Addr) (g1 g2 n c1 c2 : Nat) (X : Nat → ByteArray) (w : World) (h1 : TextsAt w a1 g1 n X) (h2 : TextsAt w a2 g2 n X) (hl : n ≤ 4294967296) :
    Calls Try.prog 12 #[.slice a1 n c1, .slice a2 n c2] w fun e w' => e = .returned (.bool true) ∧ Below w.heap.size w w' := by
  have H1 := hidU h1
  have H2 := hidU h2
  clear h1 h2
  go_enter Try.func12, Try.ntmps12
  go_wp2
  go_loopg [5] n (fun k i wr => ∃ j : Nat, i = .int .i64 j ∧ j + k = n ∧ Below w.heap.size w wr)
  case atStart => exact ⟨0, rfl, by omega, Below.refl _ _⟩
  case round =>
    obtain ⟨j, rfl, hj, hb⟩ := hrel
    have HB := hidU hb
    clear hb
    by_cases hlt : j < n
    · have hlti : (j : Int) < (n : Int) := by omega
      obtain rfl := H1.out.addr (by omega)
      obtain rfl := H2.out.addr (by omega)
      have C0 := hidU ((H1.out.later HB.out).cell j hlt)
      have D0 := hidU ((H2.out.later HB.out).cell j hlt)
      obtain ⟨j1, hj1⟩ : ∃ j1, j1 = j + 1 := ⟨_, rfl⟩
      have ej : (j : Int) + 1 = (j1 : Int) := by omega
      have HJ := hidU hj1
      clear hj1
      go_wp2
      have k0 := cell_regrown C0.out
      have l0 := cell_regrown D0.out
      refine wp_region_quiet_below (by kernel_rfl) (by kernel_rfl) ?_
      repeat (go_big_quiet_step (fail))
      refine wpQuiet_nil ?_
      intro w2 hw'
      obtain ⟨⟨dq, osq⟩, hw''⟩ := hw'
      have HB2 : Hid (Below w.heap.size w w2) := by show Below _ _ _; rw [hw'']; exact HB.out.trans ((below_regrown wr dq osq).mono HB.out.size)
      clear hw'' k0 l0 C0 D0
      go_wp2
      go_roundg (gk - 1)
      case rel => exact ⟨j1, rfl, by have := HJ.out; omega, HB2.out⟩
      case measure => omega
    · have hlti : ¬ (j : Int) < (n : Int) := by omega
      go_wp2
      go_ret
      exact ⟨rfl, HB.out⟩
end Go.Proofs.Ytemfbibeoibpeaa
