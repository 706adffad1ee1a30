/-
  What spec.l6In answers of a row of texts of the call's own: the walk.
  What spec.l8Put answers: the walk.
-/
import Derived.Test.YtaakfnclelcopaaCTrimSpecClean
import Derived.Test.YtaakfnclelcopaaCTrimPutMathToUseMath
namespace Go.Proofs.Ytaakfnclelcopaa
open Go.RowKit Go.PlainAid

set_option maxRecDepth 100000 in
theorem l6In_own (g n cap base : Nat) (xs : List ByteArray) (s : ByteArray) (w : World) (ho : OwnS w base 9 g n cap xs) (hn : n ≤ 10000000) :
    Calls Try.prog 46 #[.slice (some ⟨g, 0, none⟩) n cap, .string s] w fun e w' => e = .returned (.bool (inT xs s)) ∧ w' = w := by
  have hl := ownS_len ho
  have hg := (ownS_blk ho).2
  go_enter Try.func46, Try.ntmps46
  go_wp2
  go_loop [5] (fun i => ∃ k : Nat, k ≤ n ∧ i = .int .i64 k ∧ ∀ (j : Nat) (x : ByteArray), j < k → xs[j]? = some x → (x.toList == s.toList) = false) (fun i => (n - intOf i).toNat)
  case atStart => exact ⟨0, by omega, rfl, fun j x hj => by omega⟩
  case round =>
    obtain ⟨k, hk, rfl, hno⟩ := hrel
    have HNO := hidU hno
    clear hno
    by_cases hlt : k < n
    · obtain ⟨x, hx⟩ : ∃ x, xs[k]? = some x := ⟨_, List.getElem?_eq_getElem (by omega)⟩
      have c0 := ownS_cell ho k hlt
      rw [List.getD, hx] at c0
      simp only [Option.getD_some] at c0
      cases hq : x.toList == s.toList with
      | true =>
        have HV : Hid (inT xs s = true) := inT_yes hx hq
        clear hx
        go_wp2
        go_ret
        exact ⟨ret_bool HV.out.symm, rfl⟩
      | false =>
        have HX : Hid (∀ (j : Nat) (y : ByteArray), j < k + 1 → xs[j]? = some y → (y.toList == s.toList) = false) := fun j y hj hy => by
          by_cases e : j = k
          · subst e
            rw [hx] at hy
            cases hy
            exact hq
          · exact HNO.out j y (by omega) hy
        clear hx
        go_wp2
        go_round
        case rel => exact ⟨k + 1, by omega, by go_num, HX.out⟩
        case measure => simp [intOf]; omega
    · have HV : Hid (inT xs s = false) := inT_no fun j x hx => HNO.out j x (by have := (List.getElem?_eq_some_iff.1 hx).1; omega) hx
      go_wp2
      go_ret
      exact ⟨ret_bool HV.out.symm, rfl⟩
end Go.Proofs.Ytaakfnclelcopaa
namespace Go.Proofs.Ytaakfnclelcopaa
open Go.RowKit Go.PlainAid

set_option maxRecDepth 100000 in
set_option maxHeartbeats 3200000 in
theorem l8Put_spec (g n cap base : Nat) (xs : List ByteArray) (s : ByteArray) (w : World) (ho : OwnS w base 9 g n cap xs) (hn : n ≤ 9000000) (hbase : base ≤ w.heap.size) :
    Calls Try.prog 29 #[.slice (some ⟨g, 0, none⟩) n cap, .string s] w fun e w' => ∃ g' n' cap', e = .returned (.slice (some ⟨g', 0, none⟩) n' cap') ∧ OwnS w' base 9 g' n' cap' (putT xs s) ∧ Below w.heap.size w w' := by
  obtain ⟨i0, hi, hz0, hz1, hz2⟩ := info_parts Try.infoStr
  cases hin : inT xs s with
  | true =>
    have HV : Hid (putT xs s = xs) := by show putT xs s = xs; rw [putT, hin]; rfl
    go_enter Try.func29, Try.ntmps29
    go_wp2_with (go_at_call 46; refine (l6In_own g n cap base xs s _ ho (by omega)).mono ?_; rintro e w' ⟨rfl, hw'⟩; rw [hw', hin]; clear hw')
    go_ret
    exact ⟨g, n, cap, rfl, by rw [HV.out]; exact ho, Below.refl _ _⟩
  | false =>
    have HV : Hid (putT xs s = insT s xs) := by show putT xs s = _; rw [putT, hin]; rfl
    have O0 : Hid (OwnS (w.alloc (.cells #[] 9)) w.heap.size 9 w.heap.size 0 0 []) := ⟨World.ownsRow_lit w #[] 0 (Nat.le_refl _) (by unfold maxLen; omega) rfl, rfl⟩
    have hgb := ownS_blk ho
    have HO := hidU ho
    have HL := hidU (ownS_len ho)
    clear ho
    go_enter Try.func29, Try.ntmps29
    go_wp2_with (go_at_call 46; refine (l6In_own g n cap base xs s _ HO.out (by omega)).mono ?_; rintro e w' ⟨rfl, hw'⟩; rw [hw', hin]; clear hw')
    go_loopw [5, 6, 7] (fun o p i wr => ∃ (k go no capo : Nat) (b : Bool), k ≤ n ∧ i = .int .i64 k ∧ p = .bool b ∧ o = .slice (some ⟨go, 0, none⟩) no capo ∧ OwnS wr w.heap.size 9 go no capo (underT s b (xs.take k)) ∧ PutAt s b (xs.take k) ∧ (no ≤ k + 1 ∧ (b = false → no ≤ k)) ∧ Below w.heap.size w wr) (fun _ _ i _ => (n - intOf i).toNat)
    case atStart => exact ⟨0, w.heap.size, 0, 0, false, Nat.zero_le _, rfl, rfl, rfl, O0.out, (fun x hx => by cases hx), ⟨by omega, fun _ => by omega⟩, (Below.refl _ _).alloc (Nat.le_refl _) _⟩
    case round =>
      obtain ⟨k, go, no, capo, b, hk, rfl, rfl, rfl, hown, hput, ⟨hno, hno0⟩, hb⟩ := hrel
      have HN0 := hidU hno0
      clear hno0
      have HP := hidU hput
      have hsz := hb.size
      clear hput
      by_cases hlt : k < n
      · obtain ⟨x, hx⟩ : ∃ x, xs[k]? = some x := ⟨_, List.getElem?_eq_getElem (by rw [← HL.out]; exact hlt)⟩
        have hoo := ownS_later HO.out hb
        have c0 := ownS_cell hoo k hlt
        rw [List.getD, hx] at c0
        simp only [Option.getD_some] at c0
        have hgw := (ownS_blk hoo).2
        have HT := hidU (take_snoc hx)
        clear hoo hx
        cases b with
        | true =>
          have HE := hidU (put_was (y := x) HP.out)
          go_wp2_with (at_builtin; refine app_str wr rfl _ _ 22 rfl w.heap.size 9 i0 _ Try.underlying22 hi hz0 hz1 hz2 rfl go no capo _ (by rfl) hown x (by rfl) (by omega) hsz ?_; intro g' cap' w2 hown2 hb2)
          go_roundw
          case rel => exact ⟨k + 1, g', no + 1, cap', true, hlt, by go_num, rfl, rfl, by rw [HT.out, HE.out.1]; exact hown2, by rw [HT.out]; exact HE.out.2, ⟨by omega, fun e => by cases e⟩, hb.trans hb2⟩
          case measure => simp [intOf]; omega
        | false =>
          have hnk := HN0.out rfl
          cases hls : Op.bytesLess s.toList x.toList with
          | true =>
            have HE := hidU (put_now (y := x) HP.out hls)
            go_wp2_with (first | (at_builtin; refine app_str wr rfl _ _ 22 rfl w.heap.size 9 i0 _ Try.underlying22 hi hz0 hz1 hz2 rfl go no capo _ (by rfl) hown s (by rfl) (by omega) hsz ?_; intro g2 cap2 w2 hown2 hb2; have hsz2 := (hb.trans hb2).size; have c2 := (hb2.mono (B := w.heap.size) (Nat.le_refl _)).cell (p := ⟨g, k, none⟩) hgb.2; rw [c0] at c2; have hgw2 : g < w2.heap.size := Nat.lt_of_lt_of_le hgb.2 hsz2) | (at_builtin; refine app_str w2 rfl _ _ 22 rfl w.heap.size 9 i0 _ Try.underlying22 hi hz0 hz1 hz2 rfl g2 (no + 1) cap2 _ (by rfl) hown2 x (by rfl) (by omega) hsz2 ?_; intro g' cap' w3 hown3 hb3))
            go_roundw
            case rel => exact ⟨k + 1, g', no + 1 + 1, cap', true, hlt, by go_num, rfl, rfl, by rw [HT.out, HE.out.1]; exact hown3, by rw [HT.out]; exact HE.out.2, ⟨by omega, fun e => by cases e⟩, (hb.trans hb2).trans hb3⟩
            case measure => simp [intOf]; omega
          | false =>
            have HE := hidU (put_not (y := x) HP.out hls)
            go_wp2_with (at_builtin; refine app_str wr rfl _ _ 22 rfl w.heap.size 9 i0 _ Try.underlying22 hi hz0 hz1 hz2 rfl go no capo _ (by rfl) hown x (by rfl) (by omega) hsz ?_; intro g' cap' w2 hown2 hb2)
            go_roundw
            case rel => exact ⟨k + 1, g', no + 1, cap', false, hlt, by go_num, rfl, rfl, by rw [HT.out, HE.out.1]; exact hown2, by rw [HT.out]; exact HE.out.2, ⟨by omega, fun _ => by omega⟩, hb.trans hb2⟩
            case measure => simp [intOf]; omega
      · have HA : Hid (xs.take k = xs) := List.take_of_length_le (by rw [← HL.out]; omega)
        cases b with
        | true =>
          have HE : Hid (underT s true (xs.take k) = putT xs s) := by show _ = _; rw [HA.out, HV.out]; rfl
          go_wp2
          go_ret
          exact ⟨go, no, capo, rfl, by rw [← HE.out]; exact ownS_low hown hbase, hb⟩
        | false =>
          have HE : Hid (putT xs s = underT s false (xs.take k) ++ [s]) := by
            show _ = _
            have := put_end HP.out
            rw [HA.out] at this ⊢
            rw [HV.out, this]
          go_wp2_with (at_builtin; refine app_str wr rfl _ _ 22 rfl w.heap.size 9 i0 _ Try.underlying22 hi hz0 hz1 hz2 rfl go no capo _ (by rfl) hown s (by rfl) (by omega) hsz ?_; intro g' cap' w2 hown2 hb2)
          go_ret
          exact ⟨g', no + 1, cap', rfl, by rw [HE.out]; exact ownS_low hown2 hbase, hb.trans hb2⟩
end Go.Proofs.Ytaakfnclelcopaa
