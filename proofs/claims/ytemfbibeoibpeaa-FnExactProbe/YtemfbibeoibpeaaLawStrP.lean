/-
  What the laws' comparer of lists of texts answers, without a program's rows: the walk.
-/
import Derived.Test.YtemfbibeoibpeaaRowStr
import Derived.Test.YtemfbibeoibpeaaProg
import Derived.WalkLawsBesides
import Derived.Deep.LoopGhost
import Derived.Lib.QuietBelow
import Derived.BigQuiet
namespace Go.Proofs.Ytemfbibeoibpeaa
open Go.RowKit Go.PlainAid Go.Sort

structure TextsAt (w : World) (a : Option Addr) (g n : Nat) (X : Nat → ByteArray) : Prop where
  addr : 0 < n → a = some ⟨g, 0, none⟩
  lt : 0 < n → g < w.heap.size
  cell : ∀ j, j < n → w.cell? ⟨g, j, none⟩ = some (.string (X j))
theorem TextsAt.later {w w' : World} {a : Option Addr} {g n : Nat} {X : Nat → ByteArray} (h : TextsAt w a g n X) (hb : Below w.heap.size w w') : TextsAt w' a g n X :=
  ⟨h.addr, fun k => Nat.lt_of_lt_of_le (h.lt k) hb.size, fun j hj => by rw [hb.cell (h.lt (by omega))]; exact h.cell j hj⟩
theorem TextsAt.nil (w : World) (a : Option Addr) (g : Nat) (X : Nat → ByteArray) : TextsAt w a g 0 X := ⟨fun h => absurd h (Nat.lt_irrefl _), fun h => absurd h (Nat.lt_irrefl _), fun j hj => absurd hj (Nat.not_lt_zero j)⟩
theorem ownS_texts {w : World} {base g n cap : Nat} {e : TypeId} {xs : List ByteArray} (h : OwnS w base e g n cap xs) : TextsAt w (some ⟨g, 0, none⟩) g n (fun j => xs.getD j { data := #[] }) :=
  ⟨fun _ => rfl, fun _ => (ownS_blk h).2, fun j hj => ownS_cell h j hj⟩
set_option maxRecDepth 100000 in
set_option maxHeartbeats 3200000 in
theorem eqStringS_plain (a1 a2 : Option Addr) (g1 g2 n c1 c2 : Nat) (X : Nat → ByteArray) (w : World) (h1 : TextsAt w a1 g1 n X) (h2 : TextsAt w a2 g2 n X) (hl : n ≤ 4294967296) :
    Calls Try.prog 21 #[.slice a1 n c1, .slice a2 n c2] w fun e w' => e = .returned (.bool true) ∧ Below w.heap.size w w' := by
  have H1 := hidU h1
  have H2 := hidU h2
  clear h1 h2
  go_enter Try.func21, Try.ntmps21
  go_wp2
  go_loopg [5] n (fun k i wr => ∃ j : Nat, i = .int .i64 j ∧ j + k = n ∧ Below w.heap.size w wr)
  case atStart => exact ⟨0, rfl, by omega, Below.refl _ _⟩
  case round =>
    obtain ⟨j, rfl, hj, hb⟩ := hrel
    have HB := hidU hb
    clear hb
    by_cases hlt : j < n
    · have hlti : (j : Int) < (n : Int) := by omega
      obtain rfl := H1.out.addr (by omega)
      obtain rfl := H2.out.addr (by omega)
      have C0 := hidU ((H1.out.later HB.out).cell j hlt)
      have D0 := hidU ((H2.out.later HB.out).cell j hlt)
      obtain ⟨j1, hj1⟩ : ∃ j1, j1 = j + 1 := ⟨_, rfl⟩
      have ej : (j : Int) + 1 = (j1 : Int) := by omega
      have HJ := hidU hj1
      clear hj1
      go_wp2
      have k0 := cell_regrown C0.out
      have l0 := cell_regrown D0.out
      refine wp_region_quiet_below (by kernel_rfl) (by kernel_rfl) ?_
      repeat (go_big_quiet_step (fail))
      refine wpQuiet_nil ?_
      intro w2 hw'
      obtain ⟨⟨dq, osq⟩, hw''⟩ := hw'
      have HB2 : Hid (Below w.heap.size w w2) := by show Below _ _ _; rw [hw'']; exact HB.out.trans ((below_regrown wr dq osq).mono HB.out.size)
      clear hw'' k0 l0 C0 D0
      go_wp2
      go_roundg (gk - 1)
      case rel => exact ⟨j1, rfl, by have := HJ.out; omega, HB2.out⟩
      case measure => omega
    · have hlti : ¬ (j : Int) < (n : Int) := by omega
      go_wp2
      go_ret
      exact ⟨rfl, HB.out⟩
end Go.Proofs.Ytemfbibeoibpeaa
