/-
  What impl's small functions on what is known answer: the walks.
-/
import Derived.Test.YtdbpknmoacjodaaCkFloatMath
import Derived.Test.YtdbpknmoacjodaaCkImplPrintA
import Derived.Laws.Cover2
namespace Go.Proofs.Ytdbpknmoacjodaa
open Go.RowKit Go.PlainAid

def oneB (b : Bool) : Nat := if b then 4607182418800017408 else 0
def kval (p : Int × Bool) : Value := .complex .f64 (floatOfInt .f64 p.1) (oneB p.2)
theorem kval_none : kval (0, false) = .complex .f64 0 0 := rfl
theorem one_eq (b : Bool) : (FloatKind.f64.format.order (oneB b) 4607182418800017408 == some .eq) = b := by
  cases b
  · show _ = _
    kernel_rfl
  · show _ = _
    kernel_rfl
theorem run_kconv {P : Program} (w : World) (src dst : TypeId) (a b : Nat) (hs : (P.underlying src).isSome = true) (hd : P.underlying dst = some (.complex .f64)) :
    (convert src dst (.complex .f64 a b)).run P w = .ok (.complex .f64 a b) w := run_convert_complex w src dst .f64 .f64 a b a b hs hd rfl
theorem run_kint {P : Program} (w : World) (src dst : TypeId) (n : Int) (hs : (P.underlying src).isSome = true) (hd : P.underlying dst = some (.int .i64)) (hn : n.natAbs ≤ 1000000) :
    (convert src dst (.float .f64 (floatOfInt .f64 n))).run P w = .ok (.int .i64 n) w := run_convert_float_int w src dst .f64 .i64 _ n hs hd (dbl_int hn)
attribute [local go_sem] run_kconv run_kint
theorem knowing_any (v : Int) (w : World) : Calls Try.prog 129 #[.int .i64 v] w fun e w' => e = .returned (kval (v, true)) ∧ w' = w := by
  go_enter Try.func129, Try.ntmps129
  go_wp2
  go_ret
  exact ⟨rfl, rfl⟩
theorem isKnown_any (p : Int × Bool) (w : World) : Calls Try.prog 60 #[kval p] w fun e w' => e = .returned (.bool p.2) ∧ w' = w := by
  have h1 := one_eq p.2
  unfold kval
  go_enter Try.func60, Try.ntmps60
  go_wp2
  go_ret
  exact ⟨rfl, rfl⟩
theorem number_any (p : Int × Bool) (w : World) (hn : p.1.natAbs ≤ 1000000) : Calls Try.prog 59 #[kval p] w fun e w' => e = .returned (.int .i64 p.1) ∧ w' = w := by
  unfold kval
  go_enter Try.func59, Try.ntmps59
  go_wp2
  go_ret
  exact ⟨rfl, rfl⟩
theorem isValue_any (p : Int × Bool) (w : World) (hn : p.1.natAbs < 2 ^ 64) : Calls Try.prog 180 #[kval p] w fun e w' => e = .returned (.bool (p.2 && inNB p.1)) ∧ w' = w := by
  have hlo := dbl_geq (n := p.1) (m := -1000000) hn (by decide) dbl_low
  have hhi := dbl_leq (n := p.1) (m := 1000000) hn (by decide) dbl_high
  have HV : Hid (inNB p.1 = (decide (-1000000 ≤ p.1) && decide (p.1 ≤ 1000000))) := by rw [inNB, inB]; exact hidI rfl
  have KA := isKnown_any p
  unfold kval at KA ⊢
  go_enter Try.func180, Try.ntmps180
  go_wp2_with fail
  refine (KA _).mono ?_
  rintro e w' ⟨rfl, rfl⟩
  clear KA
  cases hp : p.2 with
  | false =>
    go_wp2
    go_ret
    exact ⟨by rw [hp]; rfl, rfl⟩
  | true =>
    cases h1 : decide (-1000000 ≤ p.1) with
    | false =>
      rw [h1] at hlo
      go_wp2
      go_ret
      exact ⟨by rw [HV.out, hp, h1]; rfl, rfl⟩
    | true =>
      rw [h1] at hlo
      cases h2 : decide (p.1 ≤ 1000000) with
      | false =>
        rw [h2] at hhi
        go_wp2
        go_ret
        exact ⟨by rw [HV.out, hp, h1, h2]; rfl, rfl⟩
      | true =>
        rw [h2] at hhi
        go_wp2
        go_ret
        exact ⟨by rw [HV.out, hp, h1, h2]; rfl, rfl⟩
set_option maxHeartbeats 1600000 in
theorem reckon_any (k a b : Int) (w : World) (hk : k = 6 ∨ k = 7 ∨ k = 8) (ha : -1000000 ≤ a ∧ a ≤ 1000000) (hb : -1000000 ≤ b ∧ b ≤ 1000000) :
    Calls Try.prog 181 #[.int .i64 k, .int .i64 a, .int .i64 b] w fun e w' => e = .returned (.tuple #[.int .i64 (opV k a b), .bool (inNB (opV k a b))]) ∧ w' = w := by
  have hadd : IntKind.i64.wrap (a + b) = a + b := IntWalk.i64_in _ ⟨by omega, by omega⟩
  have hsub : IntKind.i64.wrap (a - b) = a - b := IntWalk.i64_in _ ⟨by omega, by omega⟩
  have hmul : IntKind.i64.wrap (a * b) = a * b := by have := mul_near ha hb; exact IntWalk.i64_in _ ⟨by omega, by omega⟩
  clear ha hb
  rcases hk with rfl | rfl | rfl
  · have o : ∀ e : Ending, e = .returned (.tuple #[.int .i64 (a + b), .bool (decide (-1000000 ≤ a + b) && decide (a + b ≤ 1000000))]) → e = .returned (.tuple #[.int .i64 (opV 6 a b), .bool (inNB (opV 6 a b))]) := fun e h => h
    have O := hidI o
    clear o
    go_enter Try.func181, Try.ntmps181
    cases h1 : decide (-1000000 ≤ a + b) with
    | false => go_wp2; go_ret2; exact ⟨O.out _ (by rw [h1]; rfl), rfl⟩
    | true => go_wp2; go_ret2; exact ⟨O.out _ (by rw [h1]; rfl), rfl⟩
  · have o : ∀ e : Ending, e = .returned (.tuple #[.int .i64 (a - b), .bool (decide (-1000000 ≤ a - b) && decide (a - b ≤ 1000000))]) → e = .returned (.tuple #[.int .i64 (opV 7 a b), .bool (inNB (opV 7 a b))]) := fun e h => h
    have O := hidI o
    clear o
    go_enter Try.func181, Try.ntmps181
    cases h1 : decide (-1000000 ≤ a - b) with
    | false => go_wp2; go_ret2; exact ⟨O.out _ (by rw [h1]; rfl), rfl⟩
    | true => go_wp2; go_ret2; exact ⟨O.out _ (by rw [h1]; rfl), rfl⟩
  · have o : ∀ e : Ending, e = .returned (.tuple #[.int .i64 (a * b), .bool (decide (-1000000 ≤ a * b) && decide (a * b ≤ 1000000))]) → e = .returned (.tuple #[.int .i64 (opV 8 a b), .bool (inNB (opV 8 a b))]) := fun e h => h
    have O := hidI o
    clear o
    go_enter Try.func181, Try.ntmps181
    cases h1 : decide (-1000000 ≤ a * b) with
    | false => go_wp2; go_ret2; exact ⟨O.out _ (by rw [h1]; rfl), rfl⟩
    | true => go_wp2; go_ret2; exact ⟨O.out _ (by rw [h1]; rfl), rfl⟩
end Go.Proofs.Ytdbpknmoacjodaa
