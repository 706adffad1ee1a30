/-
  What spec.Up answers, at every text: the walk.
-/
import Derived.Test.YtemfbibeoibpeaaSpecClean
import Derived.Test.YtemfbibeoibpeaaUpMath
namespace Go.Proofs.Ytemfbibeoibpeaa
open Go.RowKit Go.PlainAid

set_option maxRecDepth 100000 in
set_option maxHeartbeats 3200000 in
theorem up_spec (p : ByteArray) (w : World) (hp : p.size ≤ 9223372036854775807) (hcz : (cleanS p).size ≤ 2000) :
    Calls Try.prog 13 #[.string p] w fun e w' => ∃ g n cap, e = .returned (.slice (some ⟨g, 0, none⟩) n cap) ∧ OwnS w' w.heap.size 9 g n cap (upL p) ∧ Below w.heap.size w w' := by
  obtain ⟨i0, hi, hz0, hz1, hz2⟩ := info_parts Try.infoStr
  go_enter Try.func13, Try.ntmps13
  have O0 : Hid (OwnS (w.alloc (.cells #[] 9)) w.heap.size 9 w.heap.size 0 0 []) := ⟨World.ownsRow_lit w #[] 0 (Nat.le_refl _) (by unfold maxLen; omega) rfl, rfl⟩
  have B0 : Hid (Below w.heap.size w (w.alloc (.cells #[] 9))) := (Below.refl _ _).alloc (Nat.le_refl _) _
  go_wp2_with fail
  refine (clean_spec p _ hp).mono ?_
  rintro e w1 ⟨rfl, hb1⟩
  have O1 := hidU (ownS_later O0.out hb1)
  have B1 := hidU (B0.out.trans (hb1.mono B0.out.size))
  have HU : Hid (upL p = upC (cleanS p)) := rfl
  clear hb1 O0 B0
  generalize cleanS p = c at hcz HU
  have hb := get_bt c
  go_wp2
  go_loopw [3, 5] (fun l i wr => ∃ (k : Int) (n g cap : Nat) (xs : List ByteArray), -1 ≤ k ∧ k ≤ 2000 ∧ k < c.size ∧ i = .int .i64 k ∧ l = .slice (some ⟨g, 0, none⟩) n cap ∧ xs ++ upTo c k.toNat = upTo c (c.size - 1) ∧ OwnS wr w.heap.size 9 g n cap xs ∧ Below w.heap.size w wr) (fun _ i _ => (intOf i + 1).toNat)
  case atStart => exact ⟨(c.size : Int) - 1, 0, w.heap.size, 0, [], by omega, by omega, by omega, rfl, rfl, by rw [List.nil_append]; congr 1; omega, O1.out, B1.out⟩
  case round =>
    obtain ⟨k, n, g, cap, xs, hk0, hk1, hk2, rfl, rfl, hx, hown, hbel⟩ := hrel
    have HX := hidU hx
    have hn := ownS_len hown
    have hnl : n ≤ 2000 := by
      have h1 := congrArg List.length hx
      have h2 := upTo_len c (c.size - 1)
      rw [List.length_append] at h1
      omega
    have hsz := hbel.size
    clear hx hn
    by_cases hpos : 0 < k
    · obtain ⟨m, rfl⟩ : ∃ m : Nat, k = ((m + 1 : Nat) : Int) := ⟨k.toNat - 1, by omega⟩
      have ez : ((m + 1 : Nat) : Int) = (m : Int) + 1 := by omega
      have HX1 : Hid (xs ++ upTo c (m + 1) = upTo c (c.size - 1)) := HX.out
      by_cases h47 : bt c (m + 1) = 47
      · have hq : (bt c (m + 1) == 47) = true := by rw [h47]; rfl
        have HY : Hid (xs ++ [c.extract 0 (m + 1)] ++ upTo c m = upTo c (c.size - 1)) := by
          show _ = _
          rw [← HX1.out, upTo_yes h47, List.append_assoc]
          rfl
        clear h47 HX HX1
        go_wp2_with (first | (at_builtin; refine app_str wr rfl _ _ 25 rfl w.heap.size 9 i0 _ Try.underlying25 hi hz0 hz1 hz2 rfl g n cap xs (by rfl) hown (c.extract 0 (m + 1)) (by rfl) (by omega) hsz ?_))
        intro g' cap' w2 hown2 hb2
        go_wp2
        go_roundw
        case rel => exact ⟨(m : Int), n + 1, g', cap', _, by omega, by omega, by omega, by go_num, rfl, HY.out, hown2, hbel.trans hb2⟩
        case measure => simp [intOf]; omega
      · have hq : (bt c (m + 1) == 47) = false := beq_eq_false_iff_ne.2 h47
        have HY : Hid (xs ++ upTo c m = upTo c (c.size - 1)) := by
          show _ = _
          rw [← HX1.out, upTo_no h47]
        clear h47 HX HX1
        go_wp2
        go_roundw
        case rel => exact ⟨(m : Int), n, g, cap, xs, by omega, by omega, by omega, by go_num, rfl, HY.out, hown, hbel⟩
        case measure => simp [intOf]; omega
    · have HE : Hid (xs = upTo c (c.size - 1)) := by
        show _ = _
        rw [← HX.out, show k.toNat = 0 from by omega, upTo, List.append_nil]
      clear HX
      by_cases h1 : 1 < c.size
      · have HR : Hid (upL p = xs ++ [({ data := #[47] } : ByteArray)]) := by
          show _ = _
          rw [HU.out, upC, if_pos h1, ← HE.out]
        go_wp2_with (first | (at_builtin; refine app_str wr rfl _ _ 25 rfl w.heap.size 9 i0 _ Try.underlying25 hi hz0 hz1 hz2 rfl g n cap xs (by rfl) hown ({ data := #[47] } : ByteArray) (by rfl) (by omega) hsz ?_))
        intro g' cap' w2 hown2 hb2
        go_wp2
        go_ret
        exact ⟨g', n + 1, cap', rfl, by rw [HR.out]; exact hown2, hbel.trans hb2⟩
      · have HR : Hid (upL p = xs) := by
          show _ = _
          rw [HU.out, upC, if_neg h1, ← HE.out, List.append_nil]
        go_wp2
        go_ret
        exact ⟨g, n, cap, rfl, by rw [HR.out]; exact hown, hbel⟩
end Go.Proofs.Ytemfbibeoibpeaa
