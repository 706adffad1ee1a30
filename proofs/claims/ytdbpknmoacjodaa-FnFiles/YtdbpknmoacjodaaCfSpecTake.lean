/-
  What spec.l12Take answers: the walk.
-/
import Derived.Test.YtdbpknmoacjodaaCfSpecRead
namespace Go.Proofs.Ytdbpknmoacjodaa
open Go.RowKit Go.PlainAid Go.Sort

set_option maxRecDepth 100000 in
set_option maxHeartbeats 3200000 in
theorem l12Take_spec (s : ByteArray) (a : Int) (w : World) (hs : s.size ≤ 1048576) (ha0 : -1 ≤ a) (ha1 : a ≤ 2000000) :
    Calls Try.prog 89 #[.string s, .int .i64 a] w fun e w' => e = .returned (.tuple #[.string (takeS s a).1, .int .i64 (takeS s a).2]) ∧ Below w.heap.size w w' := by
  cases hv : varAt1 s a with
  | none =>
    have HV : Hid (takeS s a = ({ data := #[] }, -1)) := by show takeS s a = _; rw [takeS, hv]
    go_enter Try.func89, Try.ntmps89
    go_wp2_with fail
    refine (l12Vars_one s a w hs ha0 ha1).mono ?_
    rintro e w1 ⟨hb1, g, n, cap, hm⟩
    rw [hv] at hm
    obtain rfl := hm
    clear hv
    go_wp2
    go_ret2
    exact ⟨by show Ending.returned (.tuple #[.string { data := #[] }, .int .i64 (-1)]) = _; rw [HV.out], hb1⟩
  | some r =>
    obtain ⟨x, k⟩ := r
    obtain ⟨hx0, hx1, hk0, hk1⟩ := varAt1_bd hv
    obtain ⟨m, rfl⟩ : ∃ m : Nat, k = (m : Int) := ⟨k.toNat, by omega⟩
    obtain ⟨y, rfl⟩ : ∃ y : Nat, x = (y : Int) := ⟨x.toNat, by omega⟩
    by_cases hgt : (s.size : Int) - m < y
    · have HV : Hid (takeS s a = ({ data := #[] }, -1)) := by show takeS s a = _; rw [takeS, hv]; simp only; rw [if_pos hgt]
      have q2 : decide ((s.size : Int) - (m : Int) < (y : Int)) = true := decide_eq_true hgt
      go_enter Try.func89, Try.ntmps89
      go_wp2_with fail
      refine (l12Vars_one s a w hs ha0 ha1).mono ?_
      rintro e w1 ⟨hb1, g, n, cap, hm⟩
      rw [hv] at hm
      obtain ⟨rfl, hc, hg⟩ := hm
      simp only at hc
      clear hv
      go_wp2
      go_ret2
      exact ⟨by show Ending.returned (.tuple #[.string { data := #[] }, .int .i64 (-1)]) = _; rw [HV.out], hb1⟩
    · have HV : Hid (takeS s a = (s.extract m (m + y), ((m + y : Nat) : Int))) := by
        show takeS s a = _
        rw [takeS, hv]
        simp only
        rw [if_neg hgt, Int.toNat_natCast, show ((m : Int) + (y : Int)).toNat = m + y from by omega]
        rfl
      have q2 : decide ((s.size : Int) - (m : Int) < (y : Int)) = false := decide_eq_false hgt
      have hmy : m + y ≤ s.size := by omega
      go_enter Try.func89, Try.ntmps89
      go_wp2_with fail
      refine (l12Vars_one s a w hs ha0 ha1).mono ?_
      rintro e w1 ⟨hb1, g, n, cap, hm⟩
      rw [hv] at hm
      obtain ⟨rfl, hc, hg⟩ := hm
      simp only at hc
      have C0 := hidU hc
      clear hv
      obtain ⟨z, hz⟩ : ∃ z : Nat, z = m + y := ⟨_, rfl⟩
      have ez : (m : Int) + (y : Int) = (z : Int) := by omega
      have HZ := hidU hz
      have hzs : z ≤ s.size := by omega
      have hmz : m ≤ z := by omega
      rw [← hz] at HV
      clear hz hmy hgt
      go_wp2
      have k0 := cell_regrown C0.out
      refine wp_region_quiet_below (by kernel_rfl) (by kernel_rfl) ?_
      repeat (go_big_quiet_step (fail))
      refine wpQuiet_nil ?_
      intro _ hw'
      obtain ⟨⟨dq, osq⟩, hw''⟩ := hw'
      subst hw''
      have hbE := hb1.trans ((below_regrown w1 dq osq).mono hb1.size)
      go_wp2
      go_ret2
      exact ⟨by show Ending.returned (.tuple #[.string (s.extract m z), .int .i64 (z : Int)]) = _; rw [HV.out], hbE⟩
end Go.Proofs.Ytdbpknmoacjodaa
