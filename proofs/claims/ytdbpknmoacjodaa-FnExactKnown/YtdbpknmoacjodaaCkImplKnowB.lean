/-
  What impl.knownOfSides answers: the walk; what is known is near 0 or a Num.
-/
import Derived.Test.YtdbpknmoacjodaaCkImplKnowA
namespace Go.Proofs.Ytdbpknmoacjodaa
open Go.RowKit Go.PlainAid

def ofS (k : Int) (p q : Int × Bool) : Int × Bool :=
  if (p.2 && inNB p.1) && ((q.2 && inNB q.1) && inNB (opV k p.1 q.1)) then (opV k p.1 q.1, true) else (0, false)
theorem one_sides {l : List (Int × Bool)} {x : Ex} (h : (x.kind == 1) = false) (h2 : twoK x.kind = true) : kOne l x = ofS x.kind (kAt l x.l) (kAt l x.r) := by
  rw [kOne, h, h2, ofS, bothB, Bool.true_and, if_neg (by decide)]
  generalize kAt l x.l = p
  generalize kAt l x.r = q
  cases p.2 <;> cases q.2 <;> cases inNB p.1 <;> cases inNB q.1 <;> rfl
theorem near_abs {v : Int} (h : inNB v = true) : v.natAbs ≤ 1000000 := by
  have := near_of h
  omega
theorem one_abs {l : List (Int × Bool)} {x : Ex} (hx : -9223372036854775808 ≤ x.num ∧ x.num ≤ 9223372036854775807) : (kOne l x).1.natAbs ≤ 9223372036854775808 := by
  rw [kOne]
  split
  · show x.num.natAbs ≤ _
    omega
  · split
    · rename_i h
      rw [Bool.and_eq_true, Bool.and_eq_true] at h
      have := near_abs h.2.2
      show (opV x.kind (kAt l x.l).1 (kAt l x.r).1).natAbs ≤ _
      omega
    · exact Nat.zero_le _
theorem kTo_abs {ex : List Ex} (hx : Nums ex) (j : Nat) (hj : j ≤ ex.length) : ∀ p ∈ kTo ex j, p.1.natAbs ≤ 9223372036854775808 := by
  induction j with
  | zero =>
    intro p hp
    rw [kTo] at hp
    rw [List.eq_of_mem_replicate hp]
    exact Nat.zero_le _
  | succ j ih =>
    obtain ⟨x, hxj⟩ : ∃ x, ex[j]? = some x := ⟨_, List.getElem?_eq_getElem (by omega)⟩
    intro p hp
    rw [kTo_next hxj] at hp
    rcases List.mem_or_eq_of_mem_set hp with h | rfl
    · exact ih (by omega) p h
    · exact one_abs (hx x (List.mem_of_getElem? hxj))
theorem run_index_two (p q : Int × Bool) (k : Nat) (hk : k < 2) (w : World) : (Instr.index 186 (.agg #[kval p, kval q]) (.int .i64 (k : Int))).run Try.prog w = .ok (kval ([p, q].getD k (0, false))) w := by
  match k, hk with
  | 0, _ =>
    show _ = _
    kernel_rfl
  | 1, _ =>
    show _ = _
    kernel_rfl
def okS (p : Int × Bool) : Bool := p.2 && inNB p.1
theorem ofS_eq (k : Int) (p q : Int × Bool) : ofS k p q = if okS p && (okS q && inNB (opV k p.1 q.1)) then (opV k p.1 q.1, true) else (0, false) := rfl
theorem two_box {w : World} {b : Nat} {t : TypeId} {u v : Value} (h : w.heap[b]? = some (.cells #[u, v] t (0, 0))) : w.cell? ⟨b, 0, none⟩ = some u ∧ w.cell? ⟨b, 1, none⟩ = some v ∧ ∀ i, w.frozen? ⟨b, i, none⟩ = false := by
  refine ⟨?_, ?_, fun i => ?_⟩ <;> simp [World.cell?, World.frozen?, h]
set_option maxRecDepth 100000 in
set_option maxHeartbeats 3200000 in
theorem ofSides_any (k : Int) (p q : Int × Bool) (w : World) (hk : k = 6 ∨ k = 7 ∨ k = 8) (hp : p.1.natAbs < 2 ^ 64) (hq : q.1.natAbs < 2 ^ 64) :
    Calls Try.prog 130 #[.int .i64 k, .agg #[kval p, kval q]] w fun e w' => e = .returned (kval (ofS k p q)) ∧ Below w.heap.size w w' := by
  have HP := hidI hp
  have HQ := hidI hq
  have HK := hidI hk
  clear hp hq hk
  go_enter Try.func130, Try.ntmps130
  go_upto_region 1 with fail
  refine world_anyI (R := fun W => W.heap[w.heap.size]? = some (.cells #[kval p, kval q] 186 (0, 0)) ∧ Below w.heap.size w W) ⟨heap_alloc_new w _, (Below.refl _ _).alloc (Nat.le_refl _) _⟩ ?_
  rintro w1 ⟨hx, hb⟩
  have X1 := hidI hx
  have B1 := hidI hb
  clear hx hb
  obtain ⟨c0, c1, cf⟩ := two_box X1.out
  have hlt1 := (Array.getElem?_eq_some_iff.1 X1.out).1
  go_wp2
  go_loopw [10] (fun i wr => ∃ j : Nat, j ≤ 2 ∧ i = .int .i64 j ∧ Hid (∀ k, k < j → okS ([p, q].getD k (0, false)) = true) ∧ wr = w1) (fun i _ => (2 - intOf i).toNat)
  case atStart => exact ⟨0, by omega, rfl, hidI fun k h => by omega, rfl⟩
  case round =>
    obtain ⟨j, hj, rfl, HO, rfl⟩ := hrel
    by_cases hlt : j < 2
    · have hlti : (j : Int) < 2 := by omega
      have hri := run_index_two p q j hlt wr
      obtain ⟨z, hz⟩ : ∃ z, z = [p, q].getD j (0, false) := ⟨_, rfl⟩
      rw [← hz] at hri
      have hzb : z.1.natAbs < 2 ^ 64 := by
        rw [hz]
        match j, hlt with
        | 0, _ => exact HP.out
        | 1, _ => exact HQ.out
      have HZ := hidI hz
      clear hz
      go_wp2_with fail
      refine (isValue_any z _ hzb).mono ?_
      rintro e w' ⟨rfl, hw⟩
      rw [hw]
      clear hw w'
      cases hv : (z.2 && inNB z.1) with
      | false =>
        have HV : Hid (ofS k p q = (0, false)) := by
          show _ = _
          have h1 : okS z = false := hv
          rw [HZ.out] at h1
          rw [ofS_eq]
          match j, hlt with
          | 0, _ => rw [show okS p = false from h1]; rfl
          | 1, _ => rw [show okS q = false from h1, Bool.false_and, Bool.and_false]; rfl
        go_wp2
        go_ret
        exact ⟨by rw [HV.out]; rfl, B1.out⟩
      | true =>
        go_wp2
        go_roundw
        case rel =>
          refine ⟨j + 1, by omega, by go_num, hidI fun i hi => ?_, by first | rfl | trivial⟩
          by_cases h1 : i < j
          · exact HO.out i h1
          · obtain rfl : i = j := by omega
            rw [← HZ.out]
            exact hv
        case measure => simp [intOf]; omega
    · have hlti : ¬ (j : Int) < 2 := by omega
      have O1 : Hid (okS p = true) := HO.out 0 (by omega)
      have O2 : Hid (okS q = true) := HO.out 1 (by omega)
      have hnp : p.1.natAbs ≤ 1000000 := near_abs (Bool.and_eq_true_iff.1 O1.out).2
      have hnq : q.1.natAbs ≤ 1000000 := near_abs (Bool.and_eq_true_iff.1 O2.out).2
      have HR := hidI (fun W => reckon_any k p.1 q.1 W HK.out (by omega) (by omega))
      have HF : Hid (ofS k p q = if inNB (opV k p.1 q.1) = true then (opV k p.1 q.1, true) else (0, false)) := by show _ = _; rw [ofS_eq, O1.out, O2.out]; rfl
      obtain ⟨v, hv⟩ : ∃ v, v = opV k p.1 q.1 := ⟨_, rfl⟩
      obtain ⟨bv, hbv⟩ : ∃ bv, bv = inNB v := ⟨_, rfl⟩
      rw [← hv, ← hbv] at HF HR
      clear hv hbv O1 O2 HO
      go_wp2_with fail
      go_region_with (first | (go_at_call 59; (first | refine (number_any p _ hnp).mono ?_ | refine (number_any q _ hnq).mono ?_); rintro e wa ⟨rfl, hwa⟩; rw [hwa]; clear hwa wa) | (go_at_call 181; refine (HR.out _).mono ?_; rintro e wa ⟨rfl, hwa⟩; rw [hwa]; clear hwa wa))
      all_goals
        cases bv with
        | false =>
          go_wp2
          go_ret
          exact ⟨by rw [HF.out]; rfl, B1.out.drew⟩
        | true =>
          go_wp2_with fail
          refine (knowing_any v _).mono ?_
          rintro e w' ⟨rfl, hw⟩
          rw [hw]
          clear hw w'
          go_wp2
          go_ret
          exact ⟨by rw [HF.out]; rfl, B1.out.drew⟩
end Go.Proofs.Ytdbpknmoacjodaa
