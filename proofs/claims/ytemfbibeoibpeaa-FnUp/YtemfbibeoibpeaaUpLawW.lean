/-
  laws.FnUp returns true where what impl.Up answers is what it should: the walk.
-/
import Derived.Test.YtemfbibeoibpeaaUpDraw
import Derived.Test.YtemfbibeoibpeaaUpLaw
import Derived.Test.YtemfbibeoibpeaaLawTexts
import Derived.Test.YtemfbibeoibpeaaSpecUp
import Derived.Test.YtemfbibeoibpeaaOutRow
import Derived.Test.YtemfbibeoibpeaaBig
import Derived.Test.YtemfbibeoibpeaaCandMath
namespace Go.Proofs.Ytemfbibeoibpeaa
open Go.RowKit Go.PlainAid Go.Sort

theorem begins_yes (a s : ByteArray) (w : World) (h : a.size ≤ s.size) (e : (s.extract 0 a.size).toList = a.toList) (_ : s.size ≤ 1048576) :
    Calls Try.prog 14 #[.string a, .string s] w fun e w' => e = .returned (.bool true) ∧ Below w.heap.size w w' := by
  have e2 : ((s.extract 0 a.size).toList == a.toList) = true := by rw [e]; simp
  have h1 : (a.size : Int) ≤ (s.size : Int) := by omega
  clear e
  go_enter Try.func14, Try.ntmps14
  go_wp2
  go_ret
  exact ⟨rfl, Below.refl _ _⟩
theorem ends_nil {c : ByteArray} : (c.toList.isEmpty = true ∨ (c.toList == [47]) = true) → c.size ≤ 1 := by
  obtain ⟨⟨l⟩⟩ := c
  rw [Lib.toList_data]
  rintro (h | h)
  · simp [ByteArray.size] at h ⊢; simp [h]
  · simp [ByteArray.size] at h ⊢; simp [h]
theorem clean_small {p : ByteArray} (h : (cleanS p).size ≤ 1) : ((cleanS p).toList.isEmpty || (cleanS p).toList == [47]) = true := by
  by_cases hp : pathB p = true
  · by_cases h0 : (parts p).length = 0
    · rw [cleanS_root hp h0, Lib.toList_data]; decide
    · obtain ⟨k1, k2⟩ := cleanS_path p hp h0
      have := join_first (parts p) k2 (parts p).length (by omega) (Nat.le_refl _)
      rw [cleanS_yes hp h0] at h
      omega
  · have h' : pathB p = false := by simpa using hp
    rw [cleanS_no h', Lib.toList_data]; decide
set_option maxRecDepth 100000 in
set_option maxHeartbeats 3200000 in
theorem fnUp_any (S : Src) (hS : S.ok) (w : World) (hc : CodeW S w) (hl : S.lim ≤ w.heap.size)
    (hi : ∀ (p : ByteArray) (w : World), p.size ≤ 1048576 → Calls Try.prog 10 #[.string p] w fun e w' => ∃ a n cap, e = .returned (.slice a n cap) ∧ OutS w' w.heap.size a n cap (upL p) ∧ Below w.heap.size w w') :
    Calls Try.prog 3 #[.slice S.a S.len S.cap] w fun e w' => e = .returned (.bool true) ∧ Below w.heap.size w w' := by
  have hlen : S.len ≤ 1048576 := hS.1
  have hbig : decide ((1048576 : Int) < S.len) = false := by simp; omega
  have HI := hidU hi
  clear hi
  go_enter Try.func3, Try.ntmps3
  go_wp2_with fail
  refine (big_any _ _ _ _ (by omega)).mono ?_
  rintro e w' ⟨rfl, rfl⟩
  go_wp2_with fail
  refine (drawUp_some S hS _ hc hl).mono ?_
  rintro e w1 ⟨p, rfl, hp, b1⟩
  have B1 := hidU b1
  clear b1
  go_wp2_with fail
  refine (HI.out p _ (by omega)).mono ?_
  rintro e w2 ⟨a2, n, cap, rfl, own2, b2⟩
  have O2 := hidU own2
  have B2 := hidU (B1.out.trans (b2.mono B1.out.size))
  clear own2 b2 B1
  have hcz := clean_2000 p
  go_wp2_with fail
  refine (clean_spec _ _ (by omega)).mono ?_
  rintro e w3 ⟨rfl, b3⟩
  have O3 := hidU (O2.out.later b3)
  have B3 := hidU (B2.out.trans (b3.mono B2.out.size))
  clear b3 O2 B2
  go_wp2_with fail
  refine (up_spec p _ (by omega) hcz).mono ?_
  rintro e w4 ⟨g4, n4, cap4, rfl, own4, b4⟩
  have SH4 := hidU (ownS_texts own4)
  obtain rfl : n4 = n := by rw [own4.2, O3.out.1]
  have O4 := hidU (O3.out.later b4)
  have B4 := hidU (B3.out.trans (b4.mono B3.out.size))
  have hn : n4 ≤ 10000 := by rw [own4.2]; exact Nat.le_trans (upL_len p hcz) (by omega)
  clear own4 b4 O3 B3
  obtain ⟨x4, t4⟩ := O4.out.texts
  have T4 := hidU t4
  clear t4
  have HN := hidU O4.out.1
  obtain ⟨c, hcc⟩ : ∃ c, c = cleanS p := ⟨_, rfl⟩
  have HC := hidU hcc
  rw [← hcc] at hcz ⊢
  clear hcc
  go_wp2_with fail
  refine (sameTexts_plain _ _ _ _ _ _ _ _ _ T4.out SH4.out (by omega)).mono ?_
  rintro e w5 ⟨rfl, b5⟩
  have T5 := hidU (T4.out.later b5)
  have B5 := hidU (B4.out.trans (b5.mono B4.out.size))
  clear b5 T4 B4 O4 SH4
  by_cases hs : c.size ≤ 1
  · have hz : n4 = 0 := by rw [HN.out, up_none p (by rw [← HC.out]; exact hs)]; rfl
    subst hz
    have hs' := clean_small (p := p) (by rw [← HC.out]; exact hs)
    rw [← HC.out] at hs'
    cases h1 : c.toList.isEmpty with
    | true =>
      go_wp2
      go_loopg [6] 0 (fun k i wr => i = .int .i64 0 ∧ wr = w5)
      case atStart => exact ⟨rfl, rfl⟩
      case round =>
        obtain ⟨rfl, rfl⟩ := hrel
        go_wp2
        go_ret
        exact ⟨rfl, B5.out⟩
    | false =>
      have h2 : (c.toList == [47]) = true := by simpa [h1] using hs'
      go_wp2
      go_loopg [6] 0 (fun k i wr => i = .int .i64 0 ∧ wr = w5)
      case atStart => exact ⟨rfl, rfl⟩
      case round =>
        obtain ⟨rfl, rfl⟩ := hrel
        go_wp2
        go_ret
        exact ⟨rfl, B5.out⟩
  · obtain ⟨xs, hx, hall, hpw⟩ := up_some p (by rw [← HC.out]; omega)
    have h1 : c.toList.isEmpty = false := by
      cases g : c.toList.isEmpty with
      | false => rfl
      | true => exact absurd (ends_nil (.inl g)) hs
    have h2 : (c.toList == [47]) = false := by
      cases g : c.toList == [47] with
      | false => rfl
      | true => exact absurd (ends_nil (.inr g)) hs
    have hn0 : 0 < n4 := by rw [HN.out, hx]; simp
    have q0 : ((n4 : Int) == 0) = false := by simp; omega
    have q0' : decide ((n4 : Int) = 0) = false := by simp; omega
    rw [← HC.out] at hall
    have HALL := hidU hall
    have HPW := hidU hpw
    have HX := hidU hx
    clear hx hall hpw
    obtain rfl := T5.out.addr hn0
    go_wp2
    go_loopg [6] n4 (fun k i wr => ∃ j : Nat, i = .int .i64 j ∧ j + k = n4 ∧ Below w5.heap.size w5 wr)
    case atStart => exact ⟨0, rfl, by omega, Below.refl _ _⟩
    case round =>
      obtain ⟨j, rfl, hj, hb⟩ := hrel
      have HB := hidU hb
      clear hb
      by_cases hlt : j < n4
      · have hlti : (j : Int) < (n4 : Int) := by omega
        obtain ⟨j1, hj1⟩ : ∃ j1, j1 = j + 1 := ⟨_, rfl⟩
        have ej : (j : Int) + 1 = (j1 : Int) := by omega
        have HJ := hidU hj1
        clear hj1
        have hjl : j < (upL p).length := by rw [← HN.out]; exact hlt
        obtain ⟨x, hxx⟩ : ∃ x, x = (upL p)[j] := ⟨_, rfl⟩
        have C0 : Hid (wr.cell? ⟨x4, j, none⟩ = some (.string x)) := by
          show _ = _
          have e := (T5.out.later HB.out).cell j hlt
          rw [List.getD_eq_getElem?_getD, List.getElem?_eq_getElem hjl] at e
          rw [e, hxx]
          rfl
        obtain ⟨hs1, hs2, hs3⟩ : UpOk c x := HALL.out x (by rw [hxx]; exact List.getElem_mem _)
        have cB : ∀ d os, Calls Try.prog 14 #[.string x, .string c] (grow (redrawn wr d) os) fun e w'' => e = .returned (.bool true) ∧ ∃ p : Regrown, w'' = grow (redrawn wr p.d) p.os :=
          fun d os => Calls.regrown_of (begins_yes x c _ (by omega) hs2 (by omega))
        have cQ : ∀ d os, Calls Try.prog 11 #[.string x] (grow (redrawn wr d) os) fun e w'' => e = .returned (.string x) ∧ ∃ p : Regrown, w'' = grow (redrawn wr p.d) p.os :=
          fun d os => Calls.regrown_of ((clean_spec x _ (by omega)).mono fun e w h => by rw [hs3] at h; exact h)
        have q1 : decide ((c.size : Int) ≤ (x.size : Int)) = false := decide_eq_false (by omega)
        have q1n : decide (c.size ≤ x.size) = false := decide_eq_false (by omega)
        have q2 : (x.toList == x.toList) = true := by simp
        have q3 : (x.toList != x.toList) = false := by simp
        by_cases hj0 : j = 0
        · subst hj0
          clear hs2 hs3 hxx
          go_wp2
          have k0 := cell_regrown C0.out
          refine wp_region_quiet_below (by kernel_rfl) (by kernel_rfl) ?_
          repeat (go_big_quiet_step (first | with_reducible exact cB _ _ | with_reducible exact cQ _ _))
          refine wpQuiet_nil ?_
          intro w6 hw'
          obtain ⟨⟨dq, osq⟩, hw''⟩ := hw'
          have HB2 : Hid (Below w5.heap.size w5 w6) := by show Below _ _ _; rw [hw'']; exact HB.out.trans ((below_regrown wr dq osq).mono HB.out.size)
          clear hw'' k0 cB cQ
          go_wp2
          go_roundg (gk - 1)
          case rel => exact ⟨1, rfl, by omega, HB2.out⟩
          case measure => omega
        · obtain ⟨i, hi⟩ : ∃ i, j = i + 1 := ⟨j - 1, by omega⟩
          have hil : i < (upL p).length := by omega
          obtain ⟨y, hyy⟩ : ∃ y, y = (upL p)[i] := ⟨_, rfl⟩
          have D0 : Hid (wr.cell? ⟨x4, i, none⟩ = some (.string y)) := by
            show _ = _
            have e := (T5.out.later HB.out).cell i (by omega)
            rw [List.getD_eq_getElem?_getD, List.getElem?_eq_getElem hil] at e
            rw [e, hyy]
            rfl
          have hlt2 : x.size < y.size := by
            rw [hxx, hyy]
            exact List.pairwise_iff_getElem.1 HPW.out i j hil hjl (by omega)
          have q4 : decide ((y.size : Int) ≤ (x.size : Int)) = false := decide_eq_false (by omega)
          have q4n : decide (y.size ≤ x.size) = false := decide_eq_false (by omega)
          have q5 : decide ((0 : Int) < (j : Int)) = true := decide_eq_true (by omega)
          have q5n : decide (0 < j) = true := decide_eq_true (by omega)
          have ei : (j : Int) - 1 = (i : Int) := by omega
          have hin : (i : Int) < (n4 : Int) := by omega
          clear hs2 hs3 hxx hyy hi
          go_wp2
          have k0 := cell_regrown C0.out
          have l0 := cell_regrown D0.out
          refine wp_region_quiet_below (by kernel_rfl) (by kernel_rfl) ?_
          repeat (go_big_quiet_step (first | with_reducible exact cB _ _ | with_reducible exact cQ _ _))
          refine wpQuiet_nil ?_
          intro w6 hw'
          obtain ⟨⟨dq, osq⟩, hw''⟩ := hw'
          have HB2 : Hid (Below w5.heap.size w5 w6) := by show Below _ _ _; rw [hw'']; exact HB.out.trans ((below_regrown wr dq osq).mono HB.out.size)
          clear hw'' k0 l0 cB cQ
          go_wp2
          go_roundg (gk - 1)
          case rel => exact ⟨j1, rfl, by have := HJ.out; omega, HB2.out⟩
          case measure => omega
      · have hlti : ¬ (j : Int) < (n4 : Int) := by omega
        obtain ⟨m, hm⟩ : ∃ m, n4 = m + 1 := ⟨n4 - 1, by omega⟩
        have D0 : wr.cell? ⟨x4, m, none⟩ = some (.string { data := #[47] }) := by
          have e := (T5.out.later HB.out).cell m (by omega)
          have hmx : m = xs.length := by
            have := HN.out
            rw [HX.out, List.length_append, List.length_singleton] at this
            omega
          rw [HX.out, List.getD_eq_getElem?_getD, hmx, List.getElem?_concat_length, ← hmx] at e
          exact e
        have em : (n4 : Int) - 1 = (m : Int) := by omega
        have hmn : (m : Int) < (n4 : Int) := by omega
        clear hm
        go_wp2
        go_ret
        exact ⟨rfl, B5.out.trans (HB.out.mono B5.out.size)⟩
end Go.Proofs.Ytemfbibeoibpeaa
