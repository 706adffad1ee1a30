/-
  What impl's isSum, hasSides and the closure that counts a use answer: the walks.
-/
import Derived.Test.YtdbpknmoacjodaaCkSpecTree
namespace Go.Proofs.Ytdbpknmoacjodaa
open Go.RowKit Go.PlainAid Go.Sort

theorem isSumI_any (k : Int) (w : World) : Calls Try.prog 178 #[.int .i64 k] w fun e w' => e = .returned (.bool (k == 6 || k == 7)) ∧ w' = w := by
  cases h6 : (k == 6) with
  | true =>
    go_enter Try.func178, Try.ntmps178
    go_wp2
    go_ret
    exact ⟨rfl, rfl⟩
  | false =>
    cases h7 : (k == 7) with
    | true =>
      go_enter Try.func178, Try.ntmps178
      go_wp2
      go_ret
      exact ⟨rfl, rfl⟩
    | false =>
      go_enter Try.func178, Try.ntmps178
      go_wp2
      go_ret
      exact ⟨rfl, rfl⟩
theorem hasSides_any (k : Int) (w : World) : Calls Try.prog 126 #[.int .i64 k] w fun e w' => e = .returned (.bool (twoK k)) ∧ w' = w := by
  cases hs : (k == 6 || k == 7) with
  | true =>
    have HV : Hid (twoK k = true) := by show _ = _; rw [twoK, hs]; rfl
    go_enter Try.func126, Try.ntmps126
    go_wp2_with fail
    refine (isSumI_any k _).mono ?_
    rintro e w2 ⟨rfl, rfl⟩
    rw [hs]
    go_wp2
    go_ret
    exact ⟨ret_bool HV.out.symm, rfl⟩
  | false =>
    cases h8 : (k == 8) with
    | true =>
      have HV : Hid (twoK k = true) := by show _ = _; rw [twoK, hs, h8]; rfl
      go_enter Try.func126, Try.ntmps126
      go_wp2_with fail
      refine (isSumI_any k _).mono ?_
      rintro e w2 ⟨rfl, rfl⟩
      rw [hs]
      go_wp2
      go_ret
      exact ⟨ret_bool HV.out.symm, rfl⟩
    | false =>
      have HV : Hid (twoK k = false) := by show _ = _; rw [twoK, hs, h8]; rfl
      go_enter Try.func126, Try.ntmps126
      go_wp2_with fail
      refine (isSumI_any k _).mono ?_
      rintro e w2 ⟨rfl, rfl⟩
      rw [hs]
      go_wp2
      go_ret
      exact ⟨ret_bool HV.out.symm, rfl⟩
theorem notOne_any (k : Int) (w : World) : Calls Try.prog 128 #[.int .i64 k] w fun e w' => e = .returned (.bool (k != 1)) ∧ w' = w := by
  go_enter Try.func128, Try.ntmps128
  go_wp2
  go_ret
  exact ⟨rfl, rfl⟩
theorem one_of {w : World} {b : Nat} {t : TypeId} {v0 : Value} (h : w.heap[b]? = some (.cells #[v0] t (0, 0))) : w.cell? ⟨b, 0, none⟩ = some v0 ∧ ∀ i, w.frozen? ⟨b, i, none⟩ = false := by
  refine ⟨?_, fun i => ?_⟩ <;> simp [World.cell?, World.frozen?, h]
theorem useI_no (i n : Int) (u : Value) (w : World) (h : ¬ (0 ≤ i ∧ i < n)) :
    Calls Try.prog 125 #[.int .i64 i, .int .i64 n, u] w fun e w' => e = .returned (.bool false) ∧ w' = w := by
  by_cases h0 : i < 0
  · go_enter Try.func125, Try.ntmps125
    go_wp2
    go_ret
    exact ⟨rfl, rfl⟩
  · have h1 : n ≤ i := by omega
    clear h
    go_enter Try.func125, Try.ntmps125
    go_wp2
    go_ret
    exact ⟨rfl, rfl⟩
theorem useI_yes (i len base g gu : Nat) (n : Int) (f : Nat → Nat) (w : World) (hu : w.heap[gu]? = some (.cells #[.slice (some ⟨g, 0, none⟩) len len] 86 (0, 0))) (h : w.ownsRow base 3 1 (.slice (some ⟨g, 0, none⟩) len len) len (rowN len f)) (hf : f i ≤ 17179869184) (hi : i < len) (hn : (i : Int) < n) :
    Calls Try.prog 125 #[.int .i64 (i : Int), .int .i64 n, .pointer (some ⟨gu, 0, none⟩)] w fun e w' => e = .returned (.bool true) ∧ w' = w.setCell ⟨g, i, none⟩ (.int .i64 (f i + 1 : Nat)) := by
  have h0 : ¬ (i : Int) < 0 := by omega
  have h1 : ¬ n ≤ (i : Int) := by omega
  have hii : (i : Int) < (len : Int) := by omega
  obtain ⟨s0, sf⟩ := one_of hu
  obtain ⟨va, hva⟩ : ∃ v, f i = v := ⟨_, rfl⟩
  have ea := cnt_cell h (k := i) (by omega)
  have ef := h.frozenAt
  rw [hva] at ea hf
  rw [hva]
  obtain ⟨ua, hua⟩ : ∃ u, u = va + 1 := ⟨_, rfl⟩
  have eva : (va : Int) + 1 = (ua : Int) := by omega
  have hwva : IntKind.i64.wrap (ua : Int) = (ua : Int) := IntWalk.i64_in _ ⟨by omega, by omega⟩
  rw [← hua]
  clear hu h hva hua
  go_enter Try.func125, Try.ntmps125
  go_wp2
  go_ret
  exact ⟨rfl, rfl⟩
def odd (n : Nat) (f : Nat → Nat) (j : Nat) : Bool := (List.range n).any fun k => decide (j ≤ k) && ((f k : Int) != 1)
theorem odd_step {n : Nat} {f : Nat → Nat} {j : Nat} (hj : j < n) : odd n f j = (((f j : Int) != 1) || odd n f (j + 1)) := by
  rw [Bool.eq_iff_iff, Bool.or_eq_true]
  simp only [odd, List.any_eq_true, List.mem_range, Bool.and_eq_true, decide_eq_true_eq]
  constructor
  · rintro ⟨k, hk, hjk, h⟩
    by_cases e : k = j
    · exact .inl (e ▸ h)
    · exact .inr ⟨k, hk, by omega, h⟩
  · rintro (h | ⟨k, hk, hjk, h⟩)
    · exact ⟨j, hj, Nat.le_refl _, h⟩
    · exact ⟨k, hk, by omega, h⟩
theorem odd_end {n : Nat} (f : Nat → Nat) {j : Nat} (hj : n ≤ j) : odd n f j = false := by
  rw [Bool.eq_false_iff]
  intro h
  simp only [odd, List.any_eq_true, List.mem_range, Bool.and_eq_true, decide_eq_true_eq] at h
  obtain ⟨k, hk, hjk, _⟩ := h
  omega
set_option maxRecDepth 100000 in
set_option maxHeartbeats 1600000 in
theorem indexInt_any (base g len : Nat) (f : Nat → Nat) (w : World) (h : w.ownsRow base 3 1 (.slice (some ⟨g, 0, none⟩) len len) len (rowN len f)) (hl : len ≤ 4294967296) :
    Calls Try.prog 179 #[.slice (some ⟨g, 0, none⟩) len len, .func (.func 128) #[] #[]] w fun e w' => (∃ v : Int, e = .returned (.int .i64 v) ∧ decide (0 ≤ v) = odd len f 0) ∧ Below w.heap.size w w' := by
  have HO := hidI h
  clear h
  go_enter Try.func179, Try.ntmps179
  go_wp2
  go_loopg [8] (len + 1) (fun k i wr => ∃ j : Nat, i = .int .i64 j ∧ j + k = len + 1 ∧ odd len f j = odd len f 0 ∧ Below w.heap.size w wr)
  case atStart => exact ⟨0, rfl, by omega, rfl, Below.refl _ _⟩
  case round =>
    obtain ⟨j, rfl, hj, he, hb⟩ := hrel
    have HE := hidI he
    have HB := hidI hb
    clear he hb
    by_cases hlt : j < len
    · have hlti : (j : Int) < (len : Int) := by omega
      have k0 := cnt_cell (cnt_later HO.out HB.out) hlt
      have HS := hidI (odd_step (f := f) hlt)
      obtain ⟨v, hv⟩ : ∃ v, f j = v := ⟨_, rfl⟩
      rw [hv] at k0
      have HV := hidI hv
      clear hv
      obtain ⟨j1, hj1⟩ : ∃ j1, j1 = j + 1 := ⟨_, rfl⟩
      have ej : (j : Int) + 1 = (j1 : Int) := by omega
      have HJ := hidI hj1
      clear hj1
      go_wp2_with fail
      refine (notOne_any (v : Int) _).mono ?_
      rintro e w1 ⟨rfl, hw⟩
      rw [hw]
      clear hw w1
      cases ex : ((v : Int) != 1) with
      | true =>
        go_wp2
        go_ret
        refine ⟨⟨_, rfl, ?_⟩, HB.out⟩
        rw [← HE.out, HS.out, HV.out, ex]
        simp
      | false =>
        go_wp2
        go_roundg (gk - 1)
        case rel =>
          refine ⟨j1, rfl, by have := HJ.out; omega, ?_, HB.out⟩
          rw [← HE.out, HS.out, HV.out, ex, HJ.out]
          simp
        case measure => omega
    · have hlti : ¬ (j : Int) < (len : Int) := by omega
      go_wp2
      go_ret
      refine ⟨⟨_, rfl, ?_⟩, HB.out⟩
      rw [← HE.out, odd_end f (by omega)]
      rfl
set_option maxRecDepth 100000 in
theorem containsInt_any (base g len : Nat) (f : Nat → Nat) (w : World) (h : w.ownsRow base 3 1 (.slice (some ⟨g, 0, none⟩) len len) len (rowN len f)) (hl : len ≤ 4294967296) :
    Calls Try.prog 127 #[.slice (some ⟨g, 0, none⟩) len len, .func (.func 128) #[] #[]] w fun e w' => e = .returned (.bool (odd len f 0)) ∧ Below w.heap.size w w' := by
  have HO := hidI h
  clear h
  go_enter Try.func127, Try.ntmps127
  go_wp2_with fail
  refine (indexInt_any base g len f _ HO.out hl).mono ?_
  rintro e w1 ⟨⟨v, rfl, hv⟩, hb⟩
  have HV := hidI hv
  have HB := hidI hb
  clear hv hb
  go_wp2
  go_ret
  exact ⟨ret_bool HV.out, HB.out⟩
end Go.Proofs.Ytdbpknmoacjodaa
