/-
  What the helpers of the laws over files answer, at any rest and any capacity: the walks.
-/
import Derived.Test.YtdbpknmoacjodaaCfLawFiles
namespace Go.Proofs.Ytdbpknmoacjodaa
open Go.RowKit Go.PlainAid

set_option maxRecDepth 100000 in
set_option maxHeartbeats 1600000 in
theorem szFileS_at (left : Int) (hl0 : 0 ≤ left) (hl1 : left ≤ 1048576) (a : Option Addr) (b off len cap : Nat) (Pt Tx : Nat → ByteArray) (w : World) (hf : FilesAt w a b off len Pt Tx) (_ : len ≤ 9223372036854775807)
    (hp : ∀ j, j < len → (Pt j).size ≤ 9223372036854775807) (ht : ∀ j, j < len → (Tx j).size ≤ 9223372036854775807) :
    Calls Try.prog 16 #[.slice a len cap, .int .i64 left] w fun e w' => ∃ z : Int, e = .returned (.int .i64 z) ∧ z ≤ left ∧ -1 ≤ z ∧ (0 ≤ z → len ≤ 1048576 ∧ ∀ j, j < len → (Pt j).size ≤ 1048576 ∧ (Tx j).size ≤ 1048576) ∧ Below w.heap.size w w' := by
  by_cases hl : (len : Int) ≤ left
  · go_enter Try.func16, Try.ntmps16
    go_wp2
    go_loopw [1, 5] (fun l i wr => ∃ (k : Nat) (z : Int), k ≤ len ∧ i = .int .i64 k ∧ l = .int .i64 z ∧ 0 ≤ z ∧ z ≤ left ∧ (∀ j, j < k → (Pt j).size ≤ 1048576 ∧ (Tx j).size ≤ 1048576) ∧ Below w.heap.size w wr) (fun _ i _ => (len - intOf i).toNat)
    case atStart => exact ⟨0, _, by omega, rfl, rfl, by omega, by omega, fun j hj => by omega, Below.refl _ _⟩
    case round =>
      obtain ⟨k, z, hk, rfl, rfl, hz0, hz1, hok, hb⟩ := hrel
      have HOK : Hid (∀ j, j < k → (Pt j).size ≤ 1048576 ∧ (Tx j).size ≤ 1048576) := hok
      clear hok
      by_cases hlt : k < len
      · obtain rfl := hf.addr (by omega)
        have hf' := hf.later hb
        have c0 := hf'.path k hlt
        have c1 := hf'.text k hlt
        go_wp2_with fail
        refine (szFile_any _ _ _ _ (hp k hlt) (ht k hlt) hz0 (by omega)).mono ?_
        rintro e w1 ⟨z1, rfl, hz2, hz3, hz4, hb1⟩
        have hb2 := hb.trans (hb1.mono hb.size)
        by_cases hz5 : 0 ≤ z1
        · have HN : Hid (∀ j, j < k + 1 → (Pt j).size ≤ 1048576 ∧ (Tx j).size ≤ 1048576) := fun j hj => by
            by_cases e : j = k
            · rw [e]; exact hz4 hz5
            · exact HOK.out j (by omega)
          clear hz4
          go_wp2
          go_roundw
          case rel => exact ⟨k + 1, z1, by omega, by go_num, rfl, hz5, by omega, HN.out, hb2⟩
          case measure => simp [intOf]; omega
        · clear hz4
          go_wp2
          go_ret
          exact ⟨-1, rfl, by omega, by omega, fun h => by omega, hb2⟩
      · go_wp2
        go_ret
        exact ⟨z, rfl, hz1, by omega, fun _ => ⟨by omega, fun j hj => HOK.out j (by omega)⟩, hb⟩
  · go_enter Try.func16, Try.ntmps16
    go_wp2
    go_ret
    exact ⟨-1, rfl, by omega, by omega, fun h => by omega, Below.refl _ _⟩

set_option maxRecDepth 100000 in
set_option maxHeartbeats 1600000 in
theorem eqFileS_anyC (a1 a2 : Option Addr) (g1 g2 len c1 c2 : Nat) (Pt Tx : Nat → ByteArray) (w : World) (hf : FilesAt w a1 g1 0 len Pt Tx) (hg : FilesAt w a2 g2 0 len Pt Tx) (hl : len ≤ 1048576) :
    Calls Try.prog 22 #[.slice a1 len c1, .slice a2 len c2] w fun e w' => e = .returned (.bool true) ∧ Below w.heap.size w w' := by
  go_enter Try.func22, Try.ntmps22
  go_wp2
  go_loopw [5] (fun i wr => ∃ k : Nat, k ≤ len ∧ i = .int .i64 k ∧ Below w.heap.size w wr) (fun i _ => (len - intOf i).toNat)
  case atStart => exact ⟨0, by omega, rfl, Below.refl _ _⟩
  case round =>
    obtain ⟨k, hk, rfl, hb⟩ := hrel
    by_cases hlt : k < len
    · obtain rfl := hf.addr (by omega)
      obtain rfl := hg.addr (by omega)
      have hf' := hf.later hb
      have hg' := hg.later hb
      have c0 := hf'.path k hlt
      have c1 := hf'.text k hlt
      have d0 := hg'.path k hlt
      have d1 := hg'.text k hlt
      rw [Nat.zero_add] at c0 c1 d0 d1
      clear hf' hg'
      go_wp2
      go_region_law (first | (go_simp; go_wp2_with (go_at_call 70; refine (eqFile_any _ _ _).mono ?_; rintro e w2 ⟨rfl, hb2⟩)))
      all_goals
        have hb3 : Below w.heap.size w w2 := hb.drew.trans (hb2.mono hb.drew.size)
        go_wp2
        go_roundw
        case rel => exact ⟨k + 1, by omega, by go_num, hb3⟩
        case measure => simp [intOf]; omega
    · go_wp2
      go_ret
      exact ⟨rfl, hb⟩
end Go.Proofs.Ytdbpknmoacjodaa
