/-
  What spec's l6In and l6Twice answer: the walks.
-/
import Derived.Test.YtdbpknmoacjodaaCeDrawModToEarlyMath
import Derived.Test.YtdbpknmoacjodaaCeRowBase
namespace Go.Proofs.Ytdbpknmoacjodaa
open Go.RowKit Go.PlainAid Go.Sort

abbrev RowS (w : World) (a : Option Addr) (l : List ByteArray) : Prop := RowAt w a (fun x => [Value.string x]) 1 l
theorem RowAt.take {α : Type} {f : α → List Value} {m : Nat} {w : World} {a : Option Addr} {l : List α} (h : RowAt w a f m l) (k : Nat) : RowAt w a f m (l.take k) := by
  rcases h with rfl | ⟨b, off, ha, hlt, hc⟩
  · exact .inl (List.take_nil)
  · refine .inr ⟨b, off, ha, hlt, fun j x hj => ?_⟩
    rw [List.getElem?_take] at hj
    split at hj
    · exact hc j x hj
    · cases hj
set_option maxHeartbeats 1600000 in
theorem l6In_spec (a : Option Addr) (cap n : Nat) (l : List ByteArray) (s : ByteArray) (w : World) (hn : n = l.length) (hr : RowS w a l) (hl : n ≤ 1048576) :
    Calls Try.prog 106 #[.slice a n cap, .string s] w fun e w' => e = .returned (.bool (inL l s)) ∧ w' = w := by
  have HR := hidI hr
  have HN := hidI hn
  clear hr hn
  go_enter Try.func106, Try.ntmps106
  go_wp2
  go_loop [5] (fun i => ∃ k : Nat, k ≤ n ∧ i = .int .i64 k ∧ (∀ j, j < k → ((l.getD j sNone).toList == s.toList) = false)) (fun i => (n - intOf i).toNat)
  case atStart => exact ⟨0, by omega, rfl, fun j hj => absurd hj (Nat.not_lt_zero j)⟩
  case round =>
    obtain ⟨k, hk, rfl, hno⟩ := hrel
    have HNO := hidI hno
    clear hno
    by_cases hlt : k < n
    · have hkl : k < l.length := by have := HN.out; omega
      obtain ⟨x, hx⟩ : ∃ x, l[k]? = some x := ⟨_, List.getElem?_eq_getElem hkl⟩
      obtain ⟨b, off, rfl, hc⟩ := HR.out.get hx
      have hxd : l.getD k sNone = x := by simp [List.getD, hx]
      have c0 := hc 0 _ rfl
      simp only [Nat.add_zero, Nat.mul_one] at c0
      clear hc hx
      cases hq : (x.toList == s.toList) with
      | true =>
        have HV : Hid (inL l s = true) := inL_at (k := k) hkl (by rw [hxd]; exact hq)
        clear hxd hkl
        go_wp2
        go_ret
        exact ⟨ret_bool HV.out.symm, rfl⟩
      | false =>
        have HX : Hid (∀ j, j < k + 1 → ((l.getD j sNone).toList == s.toList) = false) := fun j hj => by
          by_cases e : j = k
          · rw [e, hxd]; exact hq
          · exact HNO.out j (by omega)
        clear hxd hkl
        go_wp2
        go_round
        case rel => exact ⟨k + 1, by omega, by go_num, HX.out⟩
        case measure => simp [intOf]; omega
    · have HV : Hid (inL l s = false) := inL_none fun j hj => HNO.out j (by have := HN.out; omega)
      go_wp2
      go_ret
      exact ⟨ret_bool HV.out.symm, rfl⟩
set_option maxRecDepth 100000 in
set_option maxHeartbeats 1600000 in
theorem l6Twice_spec (a : Option Addr) (cap n : Nat) (l : List ByteArray) (w : World) (hn : n = l.length) (hr : RowS w a l) (hl : n ≤ 1048576) (hcap : n ≤ cap) :
    Calls Try.prog 105 #[.slice a n cap] w fun e w' => e = .returned (.bool (twB l)) ∧ Below w.heap.size w w' := by
  have HR := hidI hr
  have HN := hidI hn
  clear hr hn
  go_enter Try.func105, Try.ntmps105
  go_wp2
  go_loopg [3] n (fun k i wr => ∃ j : Nat, i = .int .i64 j ∧ j + k = n ∧ (∀ i, i < j → inL (l.take i) (l.getD i sNone) = false) ∧ Below w.heap.size w wr)
  case atStart => exact ⟨0, rfl, by omega, fun j hj => absurd hj (Nat.not_lt_zero j), Below.refl _ _⟩
  case round =>
    obtain ⟨j, rfl, hj, hno, hb⟩ := hrel
    have HNO := hidI hno
    have HB := hidI hb
    clear hno hb
    by_cases hlt : j < n
    · have hlti : (j : Int) < (n : Int) := by omega
      have hkl : j < l.length := by have := HN.out; omega
      have hjc : (j : Int) ≤ (cap : Int) := by omega
      obtain ⟨x, hx⟩ : ∃ x, l[j]? = some x := ⟨_, List.getElem?_eq_getElem hkl⟩
      obtain ⟨b, off, rfl, hc⟩ := (HR.out.later HB.out).get hx
      have hxd : l.getD j sNone = x := by simp [List.getD, hx]
      have c0 := hc 0 _ rfl
      simp only [Nat.add_zero, Nat.mul_one] at c0
      clear hc hx
      have HT := hidI ((HR.out.later HB.out).take j)
      have HL : Hid (j = (l.take j).length) := by show j = _; rw [List.length_take]; omega
      obtain ⟨v, hv⟩ : ∃ v, inL (l.take j) x = v := ⟨_, rfl⟩
      have HVV := hidI hv
      have HXD := hidI hxd
      clear hv hxd
      go_wp2_with fail
      go_region_with (first | (go_at_call 106; refine (l6In_spec _ cap j (l.take j) x _ HL.out (by exact HT.out) (by omega)).mono ?_; rintro e w' ⟨rfl, rfl⟩; rw [HVV.out]))
      all_goals
        cases v with
        | true =>
          have HV : Hid (twB l = true) := twB_at hkl (by rw [HXD.out]; exact HVV.out)
          go_wp2
          go_ret
          exact ⟨ret_bool HV.out.symm, HB.out.drew⟩
        | false =>
          have HX : Hid (∀ i, i < j + 1 → inL (l.take i) (l.getD i sNone) = false) := fun i hi => by
            by_cases e : i = j
            · rw [e, HXD.out]; exact HVV.out
            · exact HNO.out i (by omega)
          go_wp2
          go_roundg (gk - 1)
          case rel => exact ⟨j + 1, by go_num, by omega, HX.out, HB.out.drew⟩
          case measure => omega
    · have hlti : ¬ (j : Int) < (n : Int) := by omega
      have HV : Hid (twB l = false) := twB_none fun i hi => HNO.out i (by have := HN.out; omega)
      go_wp2
      go_ret
      exact ⟨ret_bool HV.out.symm, HB.out⟩
end Go.Proofs.Ytdbpknmoacjodaa
