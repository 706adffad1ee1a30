/-
  What the helpers of the laws over files answer: the walks.
-/
import Derived.Test.YtdbpknmoacjodaaCfDrawLineToSpecClean
import Derived.Laws.Rows
namespace Go.Proofs.Ytdbpknmoacjodaa
open Go.RowKit Go.PlainAid

theorem szFile_any (p t : ByteArray) (left : Int) (w : World) (_ : p.size ≤ 9223372036854775807) (_ : t.size ≤ 9223372036854775807) (_ : 0 ≤ left) (_ : left ≤ 1048576) :
    Calls Try.prog 17 #[.agg #[.string p, .string t], .int .i64 left] w fun e w' => ∃ z : Int, e = .returned (.int .i64 z) ∧ z ≤ left ∧ -1 ≤ z ∧ (0 ≤ z → p.size ≤ 1048576 ∧ t.size ≤ 1048576) ∧ Below w.heap.size w w' := by
  go_enter Try.func17, Try.ntmps17
  go_wp2
  · go_ret
    exact ⟨-1, rfl, by omega, by omega, fun h => by omega, (Below.refl _ _).alloc (Nat.le_refl _) _⟩
  · go_ret
    exact ⟨-1, rfl, by omega, by omega, fun h => by omega, (Below.refl _ _).alloc (Nat.le_refl _) _⟩
  · go_ret
    exact ⟨_, rfl, by omega, by omega, fun h => by omega, (Below.refl _ _).alloc (Nat.le_refl _) _⟩
theorem toFile_any (p t : ByteArray) (w : World) :
    Calls Try.prog 20 #[.agg #[.string p, .string t]] w fun e w' => e = .returned (.agg #[.string p, .string t]) ∧ Below w.heap.size w w' := by
  go_enter Try.func20, Try.ntmps20
  go_wp2
  refine bodyPost_ret (results_cell_row rfl _ _ (w.heap.size + 1) 52 #[.string p, .string t] (0, 0) _ rfl ?_ Try.underlying52 rfl (by kernel_rfl)) rfl ?_
  · rw [heap_alloc_old _ _ (by show _ < ((w.heap.push _).push _).size; simp)]
    exact heap_alloc2_new w _ _
  · exact ⟨rfl, (((Below.refl _ _).alloc (Nat.le_refl _) _).alloc (by show _ ≤ (w.heap.push _).size; simp) _).alloc (by show _ ≤ ((w.heap.push _).push _).size; simp; omega) _⟩
theorem eqFile_any (p t : ByteArray) (w : World) :
    Calls Try.prog 70 #[.agg #[.string p, .string t], .agg #[.string p, .string t]] w fun e w' => e = .returned (.bool true) ∧ Below w.heap.size w w' := by
  go_enter Try.func70, Try.ntmps70
  go_wp2
  go_ret
  exact ⟨rfl, ((Below.refl _ _).alloc (Nat.le_refl _) _).alloc (by show _ ≤ (w.heap.push _).size; simp) _⟩

set_option maxRecDepth 100000 in
set_option maxHeartbeats 1600000 in
theorem szFileS_any (a : Option Addr) (b off len cap : Nat) (Pt Tx : Nat → ByteArray) (w : World) (hf : FilesAt w a b off len Pt Tx) (_ : len ≤ 9223372036854775807)
    (hp : ∀ j, j < len → (Pt j).size ≤ 9223372036854775807) (ht : ∀ j, j < len → (Tx j).size ≤ 9223372036854775807) :
    Calls Try.prog 16 #[.slice a len cap, .int .i64 1048576] w fun e w' => ∃ z : Int, e = .returned (.int .i64 z) ∧ (0 ≤ z → len ≤ 1048576 ∧ ∀ j, j < len → (Pt j).size ≤ 1048576 ∧ (Tx j).size ≤ 1048576) ∧ Below w.heap.size w w' := by
  by_cases hl : len ≤ 1048576
  · go_enter Try.func16, Try.ntmps16
    go_wp2
    go_loopw [1, 5] (fun l i wr => ∃ (k : Nat) (z : Int), k ≤ len ∧ i = .int .i64 k ∧ l = .int .i64 z ∧ 0 ≤ z ∧ z ≤ 1048576 ∧ (∀ j, j < k → (Pt j).size ≤ 1048576 ∧ (Tx j).size ≤ 1048576) ∧ Below w.heap.size w wr) (fun _ i _ => (len - intOf i).toNat)
    case atStart => exact ⟨0, _, by omega, rfl, rfl, by omega, by omega, fun j hj => by omega, Below.refl _ _⟩
    case round =>
      obtain ⟨k, z, hk, rfl, rfl, hz0, hz1, hok, hb⟩ := hrel
      have HOK : Hid (∀ j, j < k → (Pt j).size ≤ 1048576 ∧ (Tx j).size ≤ 1048576) := hok
      clear hok
      by_cases hlt : k < len
      · obtain rfl := hf.addr (by omega)
        have hf' := hf.later hb
        have c0 := hf'.path k hlt
        have c1 := hf'.text k hlt
        go_wp2_with fail
        refine (szFile_any _ _ _ _ (hp k hlt) (ht k hlt) hz0 hz1).mono ?_
        rintro e w1 ⟨z1, rfl, hz2, hz3, hz4, hb1⟩
        have hb2 := hb.trans (hb1.mono hb.size)
        by_cases hz5 : 0 ≤ z1
        · have HN : Hid (∀ j, j < k + 1 → (Pt j).size ≤ 1048576 ∧ (Tx j).size ≤ 1048576) := fun j hj => by
            by_cases e : j = k
            · rw [e]; exact hz4 hz5
            · exact HOK.out j (by omega)
          clear hz4
          go_wp2
          go_roundw
          case rel => exact ⟨k + 1, z1, by omega, by go_num, rfl, hz5, by omega, HN.out, hb2⟩
          case measure => simp [intOf]; omega
        · clear hz4
          go_wp2
          go_ret
          exact ⟨-1, rfl, fun h => by omega, hb2⟩
      · go_wp2
        go_ret
        exact ⟨z, rfl, fun _ => ⟨hl, fun j hj => HOK.out j (by omega)⟩, hb⟩
  · go_enter Try.func16, Try.ntmps16
    go_wp2
    go_ret
    exact ⟨-1, rfl, fun h => by omega, Below.refl _ _⟩

theorem Try.infoFile : (Try.prog.info? 52).map (fun i => (i.zero, i.size, i.bytes)) = some (some (.agg #[.string { data := #[] }, .string { data := #[] }]), 2, 32) := by kernel_rfl
set_option maxRecDepth 100000 in
set_option maxHeartbeats 1600000 in
theorem toFileS_any (a : Option Addr) (b off len cap : Nat) (Pt Tx : Nat → ByteArray) (w : World) (hf : FilesAt w a b off len Pt Tx) (hl : len ≤ 1048576) :
    Calls Try.prog 19 #[.slice a len cap] w fun e w' => ∃ g, e = .returned (.slice (some ⟨g, 0, none⟩) len len) ∧ OwnF w' w.heap.size 52 g len len Pt Tx ∧ Below w.heap.size w w' := by
  obtain ⟨i0, hi, hz0, hz1, hz2⟩ := info_parts Try.infoFile
  go_enter Try.func19, Try.ntmps19
  go_wp2_with (first | (at_make; refine wpList_make_full w rfl _ _ 48 rfl w.heap.size 52 i0 _ 2 Try.underlying48 hi hz0 hz1 .i64 .i64 _ _ len (by rfl) (by rfl) rfl rfl (by rw [hz2]; omega) (by unfold maxLen; omega) (Nat.le_refl _) ?_))
  intro w1 hown1 hgr1
  have hb1 : Below w.heap.size w w1 := (Below.refl _ _).grown hgr1 (Nat.le_refl _) (fun k h => by cases h)
  have hown : OwnF w1 w.heap.size 52 w.heap.size len 0 Pt Tx := ⟨_, hown1, fun j hj => absurd hj (Nat.not_lt_zero j)⟩
  clear hown1 hgr1
  go_wp2
  go_loopw [4] (fun i wr => ∃ k : Nat, k ≤ len ∧ i = .int .i64 k ∧ OwnF wr w.heap.size 52 w.heap.size len k Pt Tx ∧ Below w.heap.size w wr) (fun i _ => (len - intOf i).toNat)
  case atStart => exact ⟨0, by omega, rfl, hown, hb1⟩
  case round =>
    obtain ⟨k, hk, rfl, hown, hb⟩ := hrel
    by_cases hlt : k < len
    · obtain rfl := hf.addr (by omega)
      have hf' := hf.later hb
      have c0 := hf'.path k hlt
      have c1 := hf'.text k hlt
      go_wp2_with fail
      refine (toFile_any _ _ _).mono ?_
      rintro e w2 ⟨rfl, hb2⟩
      have hown2 := hown.later hb2
      obtain ⟨v0, g0⟩ := hown2.has (k * 2) (by omega)
      obtain ⟨v1, g1⟩ := hown2.has (k * 2 + 1) (by omega)
      have f0 := hown2.free (k * 2)
      have f1 := hown2.free (k * 2 + 1)
      have HF := hown2.fill hlt
      have hb3 := hb.trans (hb2.mono hb.size)
      clear c0 c1
      go_wp2
      go_roundw
      case rel => exact ⟨k + 1, by omega, by go_num, HF, (hb3.setCell (Nat.le_refl _) _).setCell (Nat.le_refl _) _⟩
      case measure => simp [intOf]; omega
    · obtain rfl : k = len := by omega
      go_wp2
      go_ret
      exact ⟨_, rfl, hown, hb⟩

set_option maxRecDepth 100000 in
set_option maxHeartbeats 1600000 in
theorem eqFileS_any (g1 g2 len : Nat) (Pt Tx : Nat → ByteArray) (w : World) (hf : FilesAt w (some ⟨g1, 0, none⟩) g1 0 len Pt Tx) (hg : FilesAt w (some ⟨g2, 0, none⟩) g2 0 len Pt Tx) (hl : len ≤ 1048576) :
    Calls Try.prog 22 #[.slice (some ⟨g1, 0, none⟩) len len, .slice (some ⟨g2, 0, none⟩) len len] w fun e w' => e = .returned (.bool true) ∧ Below w.heap.size w w' := by
  go_enter Try.func22, Try.ntmps22
  go_wp2
  go_loopw [5] (fun i wr => ∃ k : Nat, k ≤ len ∧ i = .int .i64 k ∧ Below w.heap.size w wr) (fun i _ => (len - intOf i).toNat)
  case atStart => exact ⟨0, by omega, rfl, Below.refl _ _⟩
  case round =>
    obtain ⟨k, hk, rfl, hb⟩ := hrel
    by_cases hlt : k < len
    · have hf' := hf.later hb
      have hg' := hg.later hb
      have c0 := hf'.path k hlt
      have c1 := hf'.text k hlt
      have d0 := hg'.path k hlt
      have d1 := hg'.text k hlt
      rw [Nat.zero_add] at c0 c1 d0 d1
      clear hf' hg'
      go_wp2
      go_region_law (first | (go_simp; go_wp2_with (go_at_call 70; refine (eqFile_any _ _ _).mono ?_; rintro e w2 ⟨rfl, hb2⟩)))
      all_goals
        have hb3 : Below w.heap.size w w2 := hb.drew.trans (hb2.mono hb.drew.size)
        go_wp2
        go_roundw
        case rel => exact ⟨k + 1, by omega, by go_num, hb3⟩
        case measure => simp [intOf]; omega
    · go_wp2
      go_ret
      exact ⟨rfl, hb⟩
end Go.Proofs.Ytdbpknmoacjodaa
namespace Go.Proofs.Ytdbpknmoacjodaa
open Go.RowKit Go.PlainAid

set_option maxRecDepth 100000 in
set_option maxHeartbeats 1600000 in
theorem szFileS_at (left : Int) (hl0 : 0 ≤ left) (hl1 : left ≤ 1048576) (a : Option Addr) (b off len cap : Nat) (Pt Tx : Nat → ByteArray) (w : World) (hf : FilesAt w a b off len Pt Tx) (_ : len ≤ 9223372036854775807)
    (hp : ∀ j, j < len → (Pt j).size ≤ 9223372036854775807) (ht : ∀ j, j < len → (Tx j).size ≤ 9223372036854775807) :
    Calls Try.prog 16 #[.slice a len cap, .int .i64 left] w fun e w' => ∃ z : Int, e = .returned (.int .i64 z) ∧ z ≤ left ∧ -1 ≤ z ∧ (0 ≤ z → len ≤ 1048576 ∧ ∀ j, j < len → (Pt j).size ≤ 1048576 ∧ (Tx j).size ≤ 1048576) ∧ Below w.heap.size w w' := by
  by_cases hl : (len : Int) ≤ left
  · go_enter Try.func16, Try.ntmps16
    go_wp2
    go_loopw [1, 5] (fun l i wr => ∃ (k : Nat) (z : Int), k ≤ len ∧ i = .int .i64 k ∧ l = .int .i64 z ∧ 0 ≤ z ∧ z ≤ left ∧ (∀ j, j < k → (Pt j).size ≤ 1048576 ∧ (Tx j).size ≤ 1048576) ∧ Below w.heap.size w wr) (fun _ i _ => (len - intOf i).toNat)
    case atStart => exact ⟨0, _, by omega, rfl, rfl, by omega, by omega, fun j hj => by omega, Below.refl _ _⟩
    case round =>
      obtain ⟨k, z, hk, rfl, rfl, hz0, hz1, hok, hb⟩ := hrel
      have HOK : Hid (∀ j, j < k → (Pt j).size ≤ 1048576 ∧ (Tx j).size ≤ 1048576) := hok
      clear hok
      by_cases hlt : k < len
      · obtain rfl := hf.addr (by omega)
        have hf' := hf.later hb
        have c0 := hf'.path k hlt
        have c1 := hf'.text k hlt
        go_wp2_with fail
        refine (szFile_any _ _ _ _ (hp k hlt) (ht k hlt) hz0 (by omega)).mono ?_
        rintro e w1 ⟨z1, rfl, hz2, hz3, hz4, hb1⟩
        have hb2 := hb.trans (hb1.mono hb.size)
        by_cases hz5 : 0 ≤ z1
        · have HN : Hid (∀ j, j < k + 1 → (Pt j).size ≤ 1048576 ∧ (Tx j).size ≤ 1048576) := fun j hj => by
            by_cases e : j = k
            · rw [e]; exact hz4 hz5
            · exact HOK.out j (by omega)
          clear hz4
          go_wp2
          go_roundw
          case rel => exact ⟨k + 1, z1, by omega, by go_num, rfl, hz5, by omega, HN.out, hb2⟩
          case measure => simp [intOf]; omega
        · clear hz4
          go_wp2
          go_ret
          exact ⟨-1, rfl, by omega, by omega, fun h => by omega, hb2⟩
      · go_wp2
        go_ret
        exact ⟨z, rfl, hz1, by omega, fun _ => ⟨by omega, fun j hj => HOK.out j (by omega)⟩, hb⟩
  · go_enter Try.func16, Try.ntmps16
    go_wp2
    go_ret
    exact ⟨-1, rfl, by omega, by omega, fun h => by omega, Below.refl _ _⟩

set_option maxRecDepth 100000 in
set_option maxHeartbeats 1600000 in
theorem eqFileS_anyC (a1 a2 : Option Addr) (g1 g2 len c1 c2 : Nat) (Pt Tx : Nat → ByteArray) (w : World) (hf : FilesAt w a1 g1 0 len Pt Tx) (hg : FilesAt w a2 g2 0 len Pt Tx) (hl : len ≤ 1048576) :
    Calls Try.prog 22 #[.slice a1 len c1, .slice a2 len c2] w fun e w' => e = .returned (.bool true) ∧ Below w.heap.size w w' := by
  go_enter Try.func22, Try.ntmps22
  go_wp2
  go_loopw [5] (fun i wr => ∃ k : Nat, k ≤ len ∧ i = .int .i64 k ∧ Below w.heap.size w wr) (fun i _ => (len - intOf i).toNat)
  case atStart => exact ⟨0, by omega, rfl, Below.refl _ _⟩
  case round =>
    obtain ⟨k, hk, rfl, hb⟩ := hrel
    by_cases hlt : k < len
    · obtain rfl := hf.addr (by omega)
      obtain rfl := hg.addr (by omega)
      have hf' := hf.later hb
      have hg' := hg.later hb
      have c0 := hf'.path k hlt
      have c1 := hf'.text k hlt
      have d0 := hg'.path k hlt
      have d1 := hg'.text k hlt
      rw [Nat.zero_add] at c0 c1 d0 d1
      clear hf' hg'
      go_wp2
      go_region_law (first | (go_simp; go_wp2_with (go_at_call 70; refine (eqFile_any _ _ _).mono ?_; rintro e w2 ⟨rfl, hb2⟩)))
      all_goals
        have hb3 : Below w.heap.size w w2 := hb.drew.trans (hb2.mono hb.drew.size)
        go_wp2
        go_roundw
        case rel => exact ⟨k + 1, by omega, by go_num, hb3⟩
        case measure => simp [intOf]; omega
    · go_wp2
      go_ret
      exact ⟨rfl, hb⟩
end Go.Proofs.Ytdbpknmoacjodaa
