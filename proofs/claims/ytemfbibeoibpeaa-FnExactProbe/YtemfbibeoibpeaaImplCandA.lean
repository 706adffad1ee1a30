/-
  What slices.Contains over a row of texts, impl's saysWhere and pathsFor answer: the walks.
-/
import Derived.Test.YtemfbibeoibpeaaImplUp
import Derived.Test.YtemfbibeoibpeaaCandSeq
namespace Go.Proofs.Ytemfbibeoibpeaa
open Go.RowKit Go.PlainAid

theorem inT_drop {l : List ByteArray} {x : ByteArray} {j : Nat} (hj : j < l.length) : inT (l.drop j) x = ((l.getD j { data := #[] }).toList == x.toList || inT (l.drop (j + 1)) x) := by
  rw [List.drop_eq_getElem_cons hj]
  simp only [inT, List.any_cons, List.getD, List.getElem?_eq_getElem hj, Option.getD_some]
set_option maxRecDepth 100000 in
set_option maxHeartbeats 1600000 in
theorem indexS_any (base g n cap : Nat) (l : List ByteArray) (x : ByteArray) (w : World) (h : OwnS w base 9 g n cap l) (hl : n ≤ 1000000) :
    Calls Try.prog 65 #[.slice (some ⟨g, 0, none⟩) n cap, .string x] w fun e w' => (∃ v : Int, e = .returned (.int .i64 v) ∧ decide (0 ≤ v) = inT l x) ∧ w' = w := by
  have HO := hidU h
  have HN := hidU h.2
  clear h
  go_enter Try.func65, Try.ntmps65
  go_wp2
  go_loopg [8] (n + 1) (fun k i wr => ∃ j : Nat, i = .int .i64 j ∧ j + k = n + 1 ∧ inT (l.drop j) x = inT l x ∧ wr = w)
  case atStart => exact ⟨0, rfl, by omega, by simp, rfl⟩
  case round =>
    obtain ⟨j, rfl, hj, he, rfl⟩ := hrel
    have HE := hidU he
    clear he
    by_cases hlt : j < n
    · have hlti : (j : Int) < (n : Int) := by omega
      have hc := ownS_cell HO.out j hlt
      obtain ⟨j1, hj1⟩ : ∃ j1, j1 = j + 1 := ⟨_, rfl⟩
      have ej : (j : Int) + 1 = (j1 : Int) := by omega
      have HJ := hidU hj1
      clear hj1
      have HS : Hid (inT (l.drop j) x = ((l.getD j { data := #[] }).toList == x.toList || inT (l.drop (j + 1)) x)) := inT_drop (by rw [← HN.out]; exact hlt)
      generalize l.getD j { data := #[] } = y at hc HS
      cases ey : (x.toList == y.toList) with
      | true =>
        go_wp2
        go_ret
        refine ⟨⟨_, rfl, ?_⟩, rfl⟩
        have e2 : (y.toList == x.toList) = true := by rw [beq_iff_eq] at ey ⊢; exact ey.symm
        rw [← HE.out, HS.out, e2]
        simp
      | false =>
        go_wp2
        go_roundg (gk - 1)
        case rel =>
          have e2 : (y.toList == x.toList) = false := by
            rw [beq_eq_false_iff_ne] at ey ⊢; exact fun e => ey e.symm
          refine ⟨j1, rfl, by have := HJ.out; omega, ?_, rfl⟩
          rw [← HE.out, HS.out, e2, HJ.out]
          simp
        case measure => omega
    · have hlti : ¬ (j : Int) < (n : Int) := by omega
      go_wp2
      go_ret
      refine ⟨⟨_, rfl, ?_⟩, rfl⟩
      rw [← HE.out, List.drop_eq_nil_of_le (by rw [← HN.out]; omega)]
      rfl
set_option maxHeartbeats 1600000 in
theorem containsS_any (base g n cap : Nat) (l : List ByteArray) (x : ByteArray) (w : World) (h : OwnS w base 9 g n cap l) (hl : n ≤ 1000000) :
    Calls Try.prog 54 #[.slice (some ⟨g, 0, none⟩) n cap, .string x] w fun e w' => e = .returned (.bool (inT l x)) ∧ w' = w := by
  go_enter Try.func54, Try.ntmps54
  go_wp2_with fail
  refine (indexS_any base g n cap l x _ h hl).mono ?_
  rintro e w' ⟨⟨v, rfl, hv⟩, rfl⟩
  go_wp2
  go_ret
  exact ⟨by rw [← hv]; rfl, rfl⟩
set_option maxHeartbeats 1600000 in
theorem saysWhere_any (sp : ByteArray) (w : World) :
    Calls Try.prog 63 #[.string sp] w fun e w' => e = .returned (.bool (relB sp)) ∧ w' = w := by
  have HR : Hid (relB sp = (begB { data := #[47] } sp || begB { data := #[46, 47] } sp || begB { data := #[46, 46, 47] } sp)) := rfl
  have H1 : Hid (Lib.hasPrefix sp.data.toList [47] = begB { data := #[47] } sp) := prefix_beg sp { data := #[47] }
  have H2 : Hid (Lib.hasPrefix sp.data.toList [46, 47] = begB { data := #[46, 47] } sp) := prefix_beg sp { data := #[46, 47] }
  have H3 : Hid (Lib.hasPrefix sp.data.toList [46, 46, 47] = begB { data := #[46, 46, 47] } sp) := prefix_beg sp { data := #[46, 46, 47] }
  generalize begB { data := #[47] } sp = b1 at H1 HR
  generalize begB { data := #[46, 47] } sp = b2 at H2 HR
  generalize begB { data := #[46, 46, 47] } sp = b3 at H3 HR
  generalize relB sp = r at HR
  go_enter Try.func63, Try.ntmps63
  go_wp2_with fail
  refine (Try.strings_HasPrefix _ _ _).mono ?_
  rintro e w' ⟨rfl, rfl⟩
  rw [H1.out]
  cases b1 with
  | true =>
    go_wp2
    go_ret
    exact ⟨by rw [HR.out]; rfl, rfl⟩
  | false =>
    go_wp2_with fail
    refine (Try.strings_HasPrefix _ _ _).mono ?_
    rintro e w' ⟨rfl, rfl⟩
    rw [H2.out]
    cases b2 with
    | true =>
      go_wp2
      go_ret
      exact ⟨by rw [HR.out]; rfl, rfl⟩
    | false =>
      go_wp2_with fail
      refine (Try.strings_HasPrefix _ _ _).mono ?_
      rintro e w' ⟨rfl, rfl⟩
      rw [H3.out]
      go_wp2
      go_ret
      exact ⟨by rw [HR.out]; cases b3 <;> rfl, rfl⟩
def endC (k : Nat) : ByteArray := [{ data := #[] }, tJs, tIndex].getD k { data := #[] }
theorem run_index_three (k : Nat) (hk : k < 3) (w : World) : (Instr.index 72 (.agg #[.string { data := #[] }, .string tJs, .string tIndex]) (.int .i64 (k : Int))).run Try.prog w = .ok (.string (endC k)) w := by
  match k, hk with
  | 0, _ =>
    show _ = _
    kernel_rfl
  | 1, _ =>
    show _ = _
    kernel_rfl
  | 2, _ =>
    show _ = _
    kernel_rfl
theorem trio_end (b : ByteArray) {k : Nat} (hk : k < 3) : (trio b)[k]? = some (b ++ endC k) := by
  match k, hk with
  | 0, _ =>
    show some b = some (b ++ { data := #[] })
    congr 1
    apply ByteArray.ext
    simp
  | 1, _ => rfl
  | 2, _ => rfl
set_option maxRecDepth 100000 in
set_option maxHeartbeats 1600000 in
theorem pathsFor_any (b : ByteArray) (w : World) (hb : b.size ≤ 1048576) :
    Calls Try.prog 53 #[.string b] w fun e w' => ∃ a n cap, e = .returned (.slice a n cap) ∧ OutS w' w.heap.size a n cap (pathsC b) ∧ Below w.heap.size w w' := by
  obtain ⟨i0, hi, hz0, hz1, hz2⟩ := info_parts Try.infoStr
  cases h0 : b.toList.isEmpty with
  | true =>
    go_enter Try.func53, Try.ntmps53
    go_wp2
    go_ret
    exact ⟨_, _, _, rfl, by rw [pathsC, if_pos h0]; exact OutS.nil _ _ _ _, Below.refl _ _⟩
  | false =>
    have HP : Hid (pathsC b = (trio b).filter pathB) := by show pathsC b = _; rw [pathsC, h0]; rfl
    have O0 : Hid (OwnS (w.alloc (.cells #[] 9)) w.heap.size 9 w.heap.size 0 0 []) := ⟨World.ownsRow_lit w #[] 0 (Nat.le_refl _) (by unfold maxLen; omega) rfl, rfl⟩
    have B0 : Hid (Below w.heap.size w (w.alloc (.cells #[] 9))) := (Below.refl _ _).alloc (Nat.le_refl _) _
    go_enter Try.func53, Try.ntmps53
    go_wp2
    go_loopw [3, 11] (fun v i wr => ∃ (k g n cap : Nat), k ≤ 3 ∧ i = .int .i64 k ∧ v = .slice (some ⟨g, 0, none⟩) n cap ∧ OwnS wr w.heap.size 9 g n cap (((trio b).take k).filter pathB) ∧ Below w.heap.size w wr) (fun _ i _ => (3 - intOf i).toNat)
    case atStart => exact ⟨0, w.heap.size, 0, 0, by omega, rfl, rfl, O0.out, B0.out⟩
    case round =>
      obtain ⟨k, g, n, cap, hk, rfl, rfl, hown, hbel⟩ := hrel
      clear O0 B0
      have HO := hidU hown
      have HB := hidU hbel
      have hsz := hbel.size
      have hn3 : n ≤ 3 := by rw [ownS_len hown]; exact Nat.le_trans (List.length_filter_le _ _) (by simp; omega)
      clear hown hbel
      by_cases hlt : k < 3
      · have hlti : (k : Int) < 3 := by omega
        have hx := trio_end b hlt
        obtain ⟨x, hxs⟩ : ∃ x, b ++ endC k = x := ⟨_, rfl⟩
        rw [hxs] at hx
        have hxz : x.size ≤ 9223372036854775807 := by
          obtain ⟨y, hy, hyz⟩ := trio_at b hlt
          rw [hx] at hy
          obtain rfl := Option.some.inj hy
          omega
        have HF := hidU (filter_take hx pathB)
        have hri := run_index_three k hlt wr
        have HK : Hid (k < 3) := hlt
        have henz : (endC k).size ≤ 9 := by
          match k, hlt with
          | 0, _ => decide
          | 1, _ => decide
          | 2, _ => decide
        generalize endC k = en at hxs hri henz
        clear hx
        obtain ⟨k1, hk1⟩ : ∃ k1, k1 = k + 1 := ⟨_, rfl⟩
        have ek : (k : Int) + 1 = (k1 : Int) := by omega
        have HK1 := hidU hk1
        clear hk1
        go_wp2_with fail
        refine (isPath_any x _ hxz).mono ?_
        rintro e w' ⟨rfl, rfl⟩
        cases hp : pathB x with
        | true =>
          have hown := HO.out
          go_wp2_with (first | (at_builtin; refine app_str w' rfl _ _ 25 rfl w.heap.size 9 i0 _ Try.underlying25 hi hz0 hz1 hz2 rfl g n cap _ (by rfl) hown x (by rfl) (by omega) hsz ?_))
          intro g2 cap2 w2 o2 b2
          go_wp2
          go_roundw
          case rel =>
            refine ⟨k1, g2, n + 1, cap2, ?_, rfl, rfl, ?_, HB.out.trans b2⟩
            · have := HK.out; have := HK1.out; omega
            · rw [HK1.out, HF.out, hp]; exact o2
          case measure =>
            have := HK.out; have := HK1.out
            simp only [intOf]
            omega
        | false =>
          go_wp2
          go_roundw
          case rel =>
            refine ⟨k1, g, n, cap, ?_, rfl, rfl, ?_, HB.out⟩
            · have := HK.out; have := HK1.out; omega
            · rw [HK1.out, HF.out, hp]; simpa using HO.out
          case measure =>
            have := HK.out; have := HK1.out
            simp only [intOf]
            omega
      · obtain rfl : k = 3 := by omega
        go_wp2
        go_ret
        exact ⟨_, _, _, rfl, OutS.own (by rw [HP.out]; exact HO.out), HB.out⟩
end Go.Proofs.Ytemfbibeoibpeaa
