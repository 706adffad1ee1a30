/-
  What spec.ShortName answers: the walk.
-/
import Derived.Test.YtkplighmefigcaaShortMath
import Derived.Test.YtkplighmefigcaaApp
import Derived.Test.YtkplighmefigcaaBase0
import Derived.Test.YtkplighmefigcaaProg
import Derived.WalkLawsBesides
import Derived.Deep.LoopGhost
namespace Go.Proofs.Ytkplighmefigcaa
open Go.RowKit Go.PlainAid

theorem short_top {m : Nat} (h : (m : Int) ≤ 9223372036854775807) : m < 26 ^ 14 := by
  have : (26 : Nat) ^ 14 = 64509974703297150976 := by decide
  omega
set_option maxRecDepth 100000 in
set_option maxHeartbeats 800000 in
theorem short_spec (n : Int) (w : World) (hb : -9223372036854775808 ≤ n ∧ n ≤ 9223372036854775807) :
    Calls Try.prog 5 #[.int .i64 n] w fun e w' => e = .returned (.string (shortS n)) ∧ Below w.heap.size w w' := by
  by_cases hneg : n < 0
  · have HV : Hid (shortS n = { data := #[] }) := by show shortS n = _; rw [shortS, if_pos hneg]
    go_enter Try.func5, Try.ntmps5
    go_wp2
    go_ret
    exact ⟨ret_str (by rw [HV.out]), Below.refl _ _⟩
  · obtain ⟨m, rfl⟩ : ∃ m : Nat, n = (m : Int) := ⟨n.toNat, by omega⟩
    have HV : Hid (shortS (m : Int) = strOfNums (36 :: sn 14 m)) := by show shortS _ = _; rw [shortS, if_neg hneg, Int.toNat_natCast]
    have HT := hidI (short_top hb.2)
    have hst := fun (w : World) (x : Int) => run_string_one (P := Try.prog) (src := 24) (dst := 9) Try.underlying24 Try.underlying5 Try.underlying9 w x
    have hone := fun x => strOfNums_size [x]
    go_enter Try.func5, Try.ntmps5
    go_wp2
    go_loopg [0, 3] 13 (fun f a o wr => ∃ (k : Nat) (acc : List Int), a = .int .i64 (k : Int) ∧ o = .string (strOfNums acc) ∧ sn 14 m = sn0 f k ++ acc ∧ k < 26 ^ f ∧ acc.length ≤ 20 ∧ f ≤ 13 ∧ Below w.heap.size w wr)
    case atStart => exact ⟨m / 26, [97 + ((m % 26 : Nat) : Int)], by simp, by simp, sn_step 13 m, pow_div HT.out, by simp, Nat.le_refl _, (Below.refl _ _).alloc (Nat.le_refl _) _⟩
    case round =>
      obtain ⟨k, acc, rfl, rfl, h1, h2, h3, h4, h5⟩ := hrel
      have H1 := hidI h1
      have H2 := hidI h2
      have H5 := hidI h5
      clear h1 h2 h5
      have hk := H2.out
      have hp : 26 ^ gk ≤ 26 ^ 13 := Nat.pow_le_pow_right (by omega) h4
      have h13 : (26 : Nat) ^ 13 = 2481152873203736576 := by decide
      have hkb : k ≤ 9223372036854775807 := by omega
      clear hk hp h13
      have hsz : (strOfNums acc).size ≤ 20 := by rw [strOfNums_size]; exact h3
      by_cases hz : k = 0
      · subst hz
        have HX : Hid (sn 14 m = acc) := by have := H1.out; rw [sn0, if_pos rfl, List.nil_append] at this; exact this
        go_wp2
        go_ret
        exact ⟨ret_str (by rw [HV.out, HX.out]; exact strOfNums_cons 36 acc), H5.out⟩
      · have hpos : 0 < (k : Int) := by omega
        have hf : gk ≠ 0 := fun e => by have := H2.out; rw [e, Nat.pow_zero] at this; omega
        obtain ⟨f, hf'⟩ : ∃ f, gk = f + 1 := ⟨gk - 1, by omega⟩
        have HX : Hid (sn 14 m = sn0 f (k / 26) ++ ((97 + ((k % 26 : Nat) : Int)) :: acc)) := by
          have := H1.out
          rw [hf', sn0, if_neg hz, sn_step f k, List.append_assoc] at this
          exact this
        have HL : Hid (acc.length + 1 ≤ 15) := by
          have h := congrArg List.length HX.out
          have h14 := sn_len 14 m
          rw [List.length_append, List.length_cons] at h
          show acc.length + 1 ≤ 15
          omega
        have HD : Hid (k / 26 < 26 ^ f) := by have := H2.out; rw [hf'] at this; exact pow_div this
        have HF := hidI hf'
        clear hf hf' hz
        go_wp2
        go_roundg (gk - 1)
        case rel => exact ⟨k / 26, _, by simp, by rw [strOfNums_cons], by have := HF.out; rw [show gk - 1 = f from by omega]; exact HX.out, by have := HF.out; rw [show gk - 1 = f from by omega]; exact HD.out, by have := HL.out; simp; omega, by omega, H5.out.alloc H5.out.size _⟩
        case measure => have := HF.out; omega
end Go.Proofs.Ytkplighmefigcaa
