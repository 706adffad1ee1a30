/-
  What the laws' comparer of lists of texts answers, without a program's rows: the walk.
  What laws.sameTexts answers of two lists of the same texts: the walk.
  What spec.Up answers, at every text: the walk.
  What spec.l6In answers of a row of texts of the call's own: the walk.
-/
import Derived.Deep.LoopGhost
import Derived.Lib.QuietBelow
import Derived.Test.YtemfbibeoibpeaaClProbeDrawToCandLaw
namespace Go.Proofs.Ytemfbibeoibpeaa
open Go.RowKit Go.PlainAid Go.Sort

structure TextsAt (w : World) (a : Option Addr) (g n : Nat) (X : Nat → ByteArray) : Prop where
  addr : 0 < n → a = some ⟨g, 0, none⟩
  lt : 0 < n → g < w.heap.size
  cell : ∀ j, j < n → w.cell? ⟨g, j, none⟩ = some (.string (X j))
theorem TextsAt.later {w w' : World} {a : Option Addr} {g n : Nat} {X : Nat → ByteArray} (h : TextsAt w a g n X) (hb : Below w.heap.size w w') : TextsAt w' a g n X :=
  ⟨h.addr, fun k => Nat.lt_of_lt_of_le (h.lt k) hb.size, fun j hj => by rw [hb.cell (h.lt (by omega))]; exact h.cell j hj⟩
theorem TextsAt.nil (w : World) (a : Option Addr) (g : Nat) (X : Nat → ByteArray) : TextsAt w a g 0 X := ⟨fun h => absurd h (Nat.lt_irrefl _), fun h => absurd h (Nat.lt_irrefl _), fun j hj => absurd hj (Nat.not_lt_zero j)⟩
theorem ownS_texts {w : World} {base g n cap : Nat} {e : TypeId} {xs : List ByteArray} (h : OwnS w base e g n cap xs) : TextsAt w (some ⟨g, 0, none⟩) g n (fun j => xs.getD j { data := #[] }) :=
  ⟨fun _ => rfl, fun _ => (ownS_blk h).2, fun j hj => ownS_cell h j hj⟩
set_option maxRecDepth 100000 in
set_option maxHeartbeats 3200000 in
theorem eqStringS_plain (a1 a2 : Option Addr) (g1 g2 n c1 c2 : Nat) (X : Nat → ByteArray) (w : World) (h1 : TextsAt w a1 g1 n X) (h2 : TextsAt w a2 g2 n X) (hl : n ≤ 4294967296) :
    Calls Try.prog 21 #[.slice a1 n c1, .slice a2 n c2] w fun e w' => e = .returned (.bool true) ∧ Below w.heap.size w w' := by
  have H1 := hidU h1
  have H2 := hidU h2
  clear h1 h2
  go_enter Try.func21, Try.ntmps21
  go_wp2
  go_loopg [5] n (fun k i wr => ∃ j : Nat, i = .int .i64 j ∧ j + k = n ∧ Below w.heap.size w wr)
  case atStart => exact ⟨0, rfl, by omega, Below.refl _ _⟩
  case round =>
    obtain ⟨j, rfl, hj, hb⟩ := hrel
    have HB := hidU hb
    clear hb
    by_cases hlt : j < n
    · have hlti : (j : Int) < (n : Int) := by omega
      obtain rfl := H1.out.addr (by omega)
      obtain rfl := H2.out.addr (by omega)
      have C0 := hidU ((H1.out.later HB.out).cell j hlt)
      have D0 := hidU ((H2.out.later HB.out).cell j hlt)
      obtain ⟨j1, hj1⟩ : ∃ j1, j1 = j + 1 := ⟨_, rfl⟩
      have ej : (j : Int) + 1 = (j1 : Int) := by omega
      have HJ := hidU hj1
      clear hj1
      go_wp2
      have k0 := cell_regrown C0.out
      have l0 := cell_regrown D0.out
      refine wp_region_quiet_below (by kernel_rfl) (by kernel_rfl) ?_
      repeat (go_big_quiet_step (fail))
      refine wpQuiet_nil ?_
      intro w2 hw'
      obtain ⟨⟨dq, osq⟩, hw''⟩ := hw'
      have HB2 : Hid (Below w.heap.size w w2) := by show Below _ _ _; rw [hw'']; exact HB.out.trans ((below_regrown wr dq osq).mono HB.out.size)
      clear hw'' k0 l0 C0 D0
      go_wp2
      go_roundg (gk - 1)
      case rel => exact ⟨j1, rfl, by have := HJ.out; omega, HB2.out⟩
      case measure => omega
    · have hlti : ¬ (j : Int) < (n : Int) := by omega
      go_wp2
      go_ret
      exact ⟨rfl, HB.out⟩
end Go.Proofs.Ytemfbibeoibpeaa
namespace Go.Proofs.Ytemfbibeoibpeaa
open Go.RowKit Go.PlainAid Go.Sort

set_option maxRecDepth 100000 in
set_option maxHeartbeats 3200000 in
theorem sameTexts_plain (a1 a2 : Option Addr) (g1 g2 n c1 c2 : Nat) (X : Nat → ByteArray) (w : World) (h1 : TextsAt w a1 g1 n X) (h2 : TextsAt w a2 g2 n X) (hl : n ≤ 4294967296) :
    Calls Try.prog 12 #[.slice a1 n c1, .slice a2 n c2] w fun e w' => e = .returned (.bool true) ∧ Below w.heap.size w w' := by
  have H1 := hidU h1
  have H2 := hidU h2
  clear h1 h2
  go_enter Try.func12, Try.ntmps12
  go_wp2
  go_loopg [5] n (fun k i wr => ∃ j : Nat, i = .int .i64 j ∧ j + k = n ∧ Below w.heap.size w wr)
  case atStart => exact ⟨0, rfl, by omega, Below.refl _ _⟩
  case round =>
    obtain ⟨j, rfl, hj, hb⟩ := hrel
    have HB := hidU hb
    clear hb
    by_cases hlt : j < n
    · have hlti : (j : Int) < (n : Int) := by omega
      obtain rfl := H1.out.addr (by omega)
      obtain rfl := H2.out.addr (by omega)
      have C0 := hidU ((H1.out.later HB.out).cell j hlt)
      have D0 := hidU ((H2.out.later HB.out).cell j hlt)
      obtain ⟨j1, hj1⟩ : ∃ j1, j1 = j + 1 := ⟨_, rfl⟩
      have ej : (j : Int) + 1 = (j1 : Int) := by omega
      have HJ := hidU hj1
      clear hj1
      go_wp2
      have k0 := cell_regrown C0.out
      have l0 := cell_regrown D0.out
      refine wp_region_quiet_below (by kernel_rfl) (by kernel_rfl) ?_
      repeat (go_big_quiet_step (fail))
      refine wpQuiet_nil ?_
      intro w2 hw'
      obtain ⟨⟨dq, osq⟩, hw''⟩ := hw'
      have HB2 : Hid (Below w.heap.size w w2) := by show Below _ _ _; rw [hw'']; exact HB.out.trans ((below_regrown wr dq osq).mono HB.out.size)
      clear hw'' k0 l0 C0 D0
      go_wp2
      go_roundg (gk - 1)
      case rel => exact ⟨j1, rfl, by have := HJ.out; omega, HB2.out⟩
      case measure => omega
    · have hlti : ¬ (j : Int) < (n : Int) := by omega
      go_wp2
      go_ret
      exact ⟨rfl, HB.out⟩
end Go.Proofs.Ytemfbibeoibpeaa
namespace Go.Proofs.Ytemfbibeoibpeaa
open Go.RowKit Go.PlainAid

set_option maxRecDepth 100000 in
set_option maxHeartbeats 3200000 in
theorem up_spec (p : ByteArray) (w : World) (hp : p.size ≤ 9223372036854775807) (hcz : (cleanS p).size ≤ 2000) :
    Calls Try.prog 13 #[.string p] w fun e w' => ∃ g n cap, e = .returned (.slice (some ⟨g, 0, none⟩) n cap) ∧ OwnS w' w.heap.size 9 g n cap (upL p) ∧ Below w.heap.size w w' := by
  obtain ⟨i0, hi, hz0, hz1, hz2⟩ := info_parts Try.infoStr
  go_enter Try.func13, Try.ntmps13
  have O0 : Hid (OwnS (w.alloc (.cells #[] 9)) w.heap.size 9 w.heap.size 0 0 []) := ⟨World.ownsRow_lit w #[] 0 (Nat.le_refl _) (by unfold maxLen; omega) rfl, rfl⟩
  have B0 : Hid (Below w.heap.size w (w.alloc (.cells #[] 9))) := (Below.refl _ _).alloc (Nat.le_refl _) _
  go_wp2_with fail
  refine (clean_spec p _ hp).mono ?_
  rintro e w1 ⟨rfl, hb1⟩
  have O1 := hidU (ownS_later O0.out hb1)
  have B1 := hidU (B0.out.trans (hb1.mono B0.out.size))
  have HU : Hid (upL p = upC (cleanS p)) := rfl
  clear hb1 O0 B0
  generalize cleanS p = c at hcz HU
  have hb := get_bt c
  go_wp2
  go_loopw [3, 5] (fun l i wr => ∃ (k : Int) (n g cap : Nat) (xs : List ByteArray), -1 ≤ k ∧ k ≤ 2000 ∧ k < c.size ∧ i = .int .i64 k ∧ l = .slice (some ⟨g, 0, none⟩) n cap ∧ xs ++ upTo c k.toNat = upTo c (c.size - 1) ∧ OwnS wr w.heap.size 9 g n cap xs ∧ Below w.heap.size w wr) (fun _ i _ => (intOf i + 1).toNat)
  case atStart => exact ⟨(c.size : Int) - 1, 0, w.heap.size, 0, [], by omega, by omega, by omega, rfl, rfl, by rw [List.nil_append]; congr 1; omega, O1.out, B1.out⟩
  case round =>
    obtain ⟨k, n, g, cap, xs, hk0, hk1, hk2, rfl, rfl, hx, hown, hbel⟩ := hrel
    have HX := hidU hx
    have hn := ownS_len hown
    have hnl : n ≤ 2000 := by
      have h1 := congrArg List.length hx
      have h2 := upTo_len c (c.size - 1)
      rw [List.length_append] at h1
      omega
    have hsz := hbel.size
    clear hx hn
    by_cases hpos : 0 < k
    · obtain ⟨m, rfl⟩ : ∃ m : Nat, k = ((m + 1 : Nat) : Int) := ⟨k.toNat - 1, by omega⟩
      have ez : ((m + 1 : Nat) : Int) = (m : Int) + 1 := by omega
      have HX1 : Hid (xs ++ upTo c (m + 1) = upTo c (c.size - 1)) := HX.out
      by_cases h47 : bt c (m + 1) = 47
      · have hq : (bt c (m + 1) == 47) = true := by rw [h47]; rfl
        have HY : Hid (xs ++ [c.extract 0 (m + 1)] ++ upTo c m = upTo c (c.size - 1)) := by
          show _ = _
          rw [← HX1.out, upTo_yes h47, List.append_assoc]
          rfl
        clear h47 HX HX1
        go_wp2_with (first | (at_builtin; refine app_str wr rfl _ _ 25 rfl w.heap.size 9 i0 _ Try.underlying25 hi hz0 hz1 hz2 rfl g n cap xs (by rfl) hown (c.extract 0 (m + 1)) (by rfl) (by omega) hsz ?_))
        intro g' cap' w2 hown2 hb2
        go_wp2
        go_roundw
        case rel => exact ⟨(m : Int), n + 1, g', cap', _, by omega, by omega, by omega, by go_num, rfl, HY.out, hown2, hbel.trans hb2⟩
        case measure => simp [intOf]; omega
      · have hq : (bt c (m + 1) == 47) = false := beq_eq_false_iff_ne.2 h47
        have HY : Hid (xs ++ upTo c m = upTo c (c.size - 1)) := by
          show _ = _
          rw [← HX1.out, upTo_no h47]
        clear h47 HX HX1
        go_wp2
        go_roundw
        case rel => exact ⟨(m : Int), n, g, cap, xs, by omega, by omega, by omega, by go_num, rfl, HY.out, hown, hbel⟩
        case measure => simp [intOf]; omega
    · have HE : Hid (xs = upTo c (c.size - 1)) := by
        show _ = _
        rw [← HX.out, show k.toNat = 0 from by omega, upTo, List.append_nil]
      clear HX
      by_cases h1 : 1 < c.size
      · have HR : Hid (upL p = xs ++ [({ data := #[47] } : ByteArray)]) := by
          show _ = _
          rw [HU.out, upC, if_pos h1, ← HE.out]
        go_wp2_with (first | (at_builtin; refine app_str wr rfl _ _ 25 rfl w.heap.size 9 i0 _ Try.underlying25 hi hz0 hz1 hz2 rfl g n cap xs (by rfl) hown ({ data := #[47] } : ByteArray) (by rfl) (by omega) hsz ?_))
        intro g' cap' w2 hown2 hb2
        go_wp2
        go_ret
        exact ⟨g', n + 1, cap', rfl, by rw [HR.out]; exact hown2, hbel.trans hb2⟩
      · have HR : Hid (upL p = xs) := by
          show _ = _
          rw [HU.out, upC, if_neg h1, ← HE.out, List.append_nil]
        go_wp2
        go_ret
        exact ⟨g, n, cap, rfl, by rw [HR.out]; exact hown, hbel⟩
end Go.Proofs.Ytemfbibeoibpeaa
namespace Go.Proofs.Ytemfbibeoibpeaa
open Go.RowKit Go.PlainAid

set_option maxRecDepth 100000 in
theorem l6In_own (g n cap base : Nat) (xs : List ByteArray) (s : ByteArray) (w : World) (ho : OwnS w base 9 g n cap xs) (hn : n ≤ 1048576) :
    Calls Try.prog 39 #[.slice (some ⟨g, 0, none⟩) n cap, .string s] w fun e w' => e = .returned (.bool (inT xs s)) ∧ w' = w := by
  have hl := ownS_len ho
  have hg := (ownS_blk ho).2
  go_enter Try.func39, Try.ntmps39
  go_wp2
  go_loop [5] (fun i => ∃ k : Nat, k ≤ n ∧ i = .int .i64 k ∧ ∀ (j : Nat) (x : ByteArray), j < k → xs[j]? = some x → (x.toList == s.toList) = false) (fun i => (n - intOf i).toNat)
  case atStart => exact ⟨0, by omega, rfl, fun j x hj => by omega⟩
  case round =>
    obtain ⟨k, hk, rfl, hno⟩ := hrel
    have HNO := hidU hno
    clear hno
    by_cases hlt : k < n
    · obtain ⟨x, hx⟩ : ∃ x, xs[k]? = some x := ⟨_, List.getElem?_eq_getElem (by omega)⟩
      have c0 := ownS_cell ho k hlt
      rw [List.getD, hx] at c0
      simp only [Option.getD_some] at c0
      cases hq : x.toList == s.toList with
      | true =>
        have HV : Hid (inT xs s = true) := inT_yes hx hq
        clear hx
        go_wp2
        go_ret
        exact ⟨ret_bool HV.out.symm, rfl⟩
      | false =>
        have HX : Hid (∀ (j : Nat) (y : ByteArray), j < k + 1 → xs[j]? = some y → (y.toList == s.toList) = false) := fun j y hj hy => by
          by_cases e : j = k
          · subst e
            rw [hx] at hy
            cases hy
            exact hq
          · exact HNO.out j y (by omega) hy
        clear hx
        go_wp2
        go_round
        case rel => exact ⟨k + 1, by omega, by go_num, HX.out⟩
        case measure => simp [intOf]; omega
    · have HV : Hid (inT xs s = false) := inT_no fun j x hx => HNO.out j x (by have := (List.getElem?_eq_some_iff.1 hx).1; omega) hx
      go_wp2
      go_ret
      exact ⟨ret_bool HV.out.symm, rfl⟩
end Go.Proofs.Ytemfbibeoibpeaa
