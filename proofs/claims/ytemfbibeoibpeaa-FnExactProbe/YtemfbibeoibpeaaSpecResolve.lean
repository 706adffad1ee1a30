/-
  What spec.l2Begins and spec.Resolve answer: the walks.
-/
import Derived.Test.YtemfbibeoibpeaaSpecClean
namespace Go.Proofs.Ytemfbibeoibpeaa
open Go.RowKit Go.PlainAid

def begB (a s : ByteArray) : Bool := decide (a.size ≤ s.size) && ((s.extract 0 a.size).toList == a.toList)
theorem begins_spec (a s : ByteArray) (w : World) (_ : s.size ≤ 9223372036854775807) (_ : a.size ≤ 9223372036854775807) :
    Calls Try.prog 37 #[.string a, .string s] w fun e w' => e = .returned (.bool (begB a s)) ∧ w' = w := by
  by_cases h : a.size ≤ s.size
  · have HB : Hid (begB a s = ((s.extract 0 a.size).toList == a.toList)) := by show begB a s = _; rw [begB, decide_eq_true h, Bool.true_and]
    go_enter Try.func37, Try.ntmps37
    go_wp2
    go_ret
    exact ⟨ret_bool HB.out.symm, rfl⟩
  · have HB : Hid (begB a s = false) := by show begB a s = _; rw [begB, decide_eq_false h, Bool.false_and]
    go_enter Try.func37, Try.ntmps37
    go_wp2
    go_ret
    exact ⟨ret_bool HB.out.symm, rfl⟩

def dirTo (s : ByteArray) : Nat → Nat
  | 0 => 0
  | k + 1 => if bt s k = 47 then k + 1 else dirTo s k
theorem dirTo_bd (s : ByteArray) (h : bt s 0 = 47) (k : Nat) (hk : 1 ≤ k) : 1 ≤ dirTo s k ∧ dirTo s k ≤ k := by
  induction k with
  | zero => omega
  | succ k ih =>
    unfold dirTo
    split
    · omega
    · rename_i hne
      by_cases e : k = 0
      · subst e; exact absurd h hne
      · have := ih (by omega)
        omega
theorem dirTo_yes {s : ByteArray} {k : Nat} (h : bt s k = 47) : dirTo s (k + 1) = k + 1 := by rw [dirTo, if_pos h]
theorem dirTo_no {s : ByteArray} {k : Nat} (h : ¬ bt s k = 47) : dirTo s (k + 1) = dirTo s k := by rw [dirTo, if_neg h]
def resolveS (f sp : ByteArray) : ByteArray :=
  if pathB f = false then { data := #[] } else if begB { data := #[47] } sp = true then cleanS sp
  else if begB { data := #[46, 47] } sp = false ∧ begB { data := #[46, 46, 47] } sp = false then cleanS ({ data := #[47, 108, 105, 98, 47] } ++ sp)
  else cleanS (f.extract 0 (dirTo f f.size) ++ sp)

set_option maxRecDepth 100000 in
set_option maxHeartbeats 1600000 in
theorem resolve_spec (f sp : ByteArray) (w : World) (hf : f.size ≤ 9223372036854775807) (hsp : sp.size ≤ 1048576) :
    Calls Try.prog 38 #[.string f, .string sp] w fun e w' => e = .returned (.string (resolveS f sp)) ∧ Below w.heap.size w w' := by
  have l1 : ({ data := #[47] } : ByteArray).size = 1 := rfl
  have l2 : ({ data := #[46, 47] } : ByteArray).size = 2 := rfl
  have l3 : ({ data := #[46, 46, 47] } : ByteArray).size = 3 := rfl
  by_cases hp : pathB f = true
  · have hp1 : 1 ≤ f.size := (pathB_iff.1 hp).1
    have hp2 : f.size ≤ 40 := (pathB_iff.1 hp).2.1
    have E0 : Hid (bt f 0 = 47) := (pathB_iff.1 hp).2.2.1
    by_cases h1 : begB { data := #[47] } sp = true
    · have HR : Hid (resolveS f sp = cleanS sp) := by show resolveS f sp = _; rw [resolveS, if_neg (by rw [hp]; simp), if_pos h1]
      clear l1 l2 l3
      go_enter Try.func38, Try.ntmps38
      go_wp2_with fail
      refine (l2Path_any _ _ hf).mono ?_
      rintro e w' ⟨rfl, rfl⟩
      go_wp2_with fail
      refine (begins_spec _ _ _ (by omega) (by decide)).mono ?_
      rintro e w' ⟨rfl, rfl⟩
      go_wp2_with fail
      refine (clean_spec _ _ (by omega)).mono ?_
      rintro e w1 ⟨rfl, hb1⟩
      go_wp2
      go_ret
      exact ⟨ret_str HR.out.symm, hb1⟩
    · have h1' : begB { data := #[47] } sp = false := by simpa using h1
      by_cases h2 : begB { data := #[46, 47] } sp = false ∧ begB { data := #[46, 46, 47] } sp = false
      · obtain ⟨h2a, h2b⟩ := h2
        have HR : Hid (resolveS f sp = cleanS ({ data := #[47, 108, 105, 98, 47] } ++ sp)) := by show resolveS f sp = _; rw [resolveS, if_neg (by rw [hp]; simp), if_neg h1, if_pos ⟨h2a, h2b⟩]
        have hz : ({ data := #[47, 108, 105, 98, 47] } : ByteArray).size = 5 := rfl
        clear l1 l2 l3 h1
        go_enter Try.func38, Try.ntmps38
        go_wp2_with fail
        refine (l2Path_any _ _ hf).mono ?_
        rintro e w' ⟨rfl, rfl⟩
        go_wp2_with fail
        refine (begins_spec _ _ _ (by omega) (by decide)).mono ?_
        rintro e w' ⟨rfl, rfl⟩
        go_wp2_with fail
        refine (begins_spec _ _ _ (by omega) (by decide)).mono ?_
        rintro e w' ⟨rfl, rfl⟩
        go_wp2_with fail
        refine (begins_spec _ _ _ (by omega) (by decide)).mono ?_
        rintro e w' ⟨rfl, rfl⟩
        go_wp2_with fail
        refine (clean_spec _ _ (by rw [ByteArray.size_append, hz]; omega)).mono ?_
        rintro e w1 ⟨rfl, hb1⟩
        go_wp2
        go_ret
        exact ⟨ret_str HR.out.symm, hb1⟩
      · have HR : Hid (resolveS f sp = cleanS (f.extract 0 (dirTo f f.size) ++ sp)) := by show resolveS f sp = _; rw [resolveS, if_neg (by rw [hp]; simp), if_neg h1, if_neg h2]
        have hb := get_bt f
        clear l1 l2 l3 h1
        by_cases h2a : begB { data := #[46, 47] } sp = true
        · clear h2
          go_enter Try.func38, Try.ntmps38
          go_wp2_with fail
          refine (l2Path_any _ _ hf).mono ?_
          rintro e w' ⟨rfl, rfl⟩
          go_wp2_with fail
          refine (begins_spec _ _ _ (by omega) (by decide)).mono ?_
          rintro e w' ⟨rfl, rfl⟩
          go_wp2_with fail
          refine (begins_spec _ _ _ (by omega) (by decide)).mono ?_
          rintro e w' ⟨rfl, rfl⟩
          go_wp2
          go_loop [5] (fun v => ∃ k : Nat, 1 ≤ k ∧ k ≤ f.size ∧ v = .int .i64 k ∧ dirTo f k = dirTo f f.size) (fun v => (intOf v).toNat)
          case atStart => exact ⟨f.size, hp1, Nat.le_refl _, rfl, rfl⟩
          case round =>
            obtain ⟨k0, hk1, hk2, rfl, hd⟩ := hrel
            have HD : Hid (dirTo f k0 = dirTo f f.size) := hd
            clear hd
            match k0, hk1, hk2, HD with
            | k + 1, _, hk2, HD =>
              have ez : ((k + 1 : Nat) : Int) = (k : Int) + 1 := by omega
              have hks : k < f.size := by omega
              have hb0 := bt_nonneg f k
              have hb1 := bt_le f k
              by_cases hq : bt f k = 47
              · have HE : Hid (resolveS f sp = cleanS (f.extract 0 (k + 1) ++ sp)) := by
                  show resolveS f sp = _
                  rw [HR.out, ← HD.out, dirTo_yes hq]
                have hq' : (bt f k != 47) = false := by simp [hq]
                have hsz : (f.extract 0 (k + 1)).size ≤ 40 := by rw [ByteArray.size_extract]; omega
                clear hq
                go_wp2_with fail
                refine (clean_spec _ _ (by rw [ByteArray.size_append]; omega)).mono ?_
                rintro e w1 ⟨rfl, hb1⟩
                go_wp2
                go_ret
                exact ⟨ret_str HE.out.symm, hb1⟩
              · have HN : Hid (dirTo f k = dirTo f f.size) := by show dirTo f k = _; rw [← HD.out, dirTo_no hq]
                have hk0 : 1 ≤ k := by
                  rcases Nat.eq_zero_or_pos k with e | e
                  · subst e; exact absurd E0.out hq
                  · exact e
                have hq' : (bt f k != 47) = true := by simpa using hq
                clear hq
                go_wp2
                go_round
                case rel => exact ⟨k, hk0, by omega, by go_num, HN.out⟩
                case measure => simp [intOf]
        · have h2a' : begB { data := #[46, 47] } sp = false := by simpa using h2a
          have h2b : begB { data := #[46, 46, 47] } sp = true := by
            rcases hx : begB { data := #[46, 46, 47] } sp with _ | _
            · exact absurd ⟨h2a', hx⟩ h2
            · rfl
          clear h2 h2a
          go_enter Try.func38, Try.ntmps38
          go_wp2_with fail
          refine (l2Path_any _ _ hf).mono ?_
          rintro e w' ⟨rfl, rfl⟩
          go_wp2_with fail
          refine (begins_spec _ _ _ (by omega) (by decide)).mono ?_
          rintro e w' ⟨rfl, rfl⟩
          go_wp2_with fail
          refine (begins_spec _ _ _ (by omega) (by decide)).mono ?_
          rintro e w' ⟨rfl, rfl⟩
          go_wp2_with fail
          refine (begins_spec _ _ _ (by omega) (by decide)).mono ?_
          rintro e w' ⟨rfl, rfl⟩
          go_wp2
          go_loop [5] (fun v => ∃ k : Nat, 1 ≤ k ∧ k ≤ f.size ∧ v = .int .i64 k ∧ dirTo f k = dirTo f f.size) (fun v => (intOf v).toNat)
          case atStart => exact ⟨f.size, hp1, Nat.le_refl _, rfl, rfl⟩
          case round =>
            obtain ⟨k0, hk1, hk2, rfl, hd⟩ := hrel
            have HD : Hid (dirTo f k0 = dirTo f f.size) := hd
            clear hd
            match k0, hk1, hk2, HD with
            | k + 1, _, hk2, HD =>
              have ez : ((k + 1 : Nat) : Int) = (k : Int) + 1 := by omega
              have hks : k < f.size := by omega
              have hb0 := bt_nonneg f k
              have hb1 := bt_le f k
              by_cases hq : bt f k = 47
              · have HE : Hid (resolveS f sp = cleanS (f.extract 0 (k + 1) ++ sp)) := by
                  show resolveS f sp = _
                  rw [HR.out, ← HD.out, dirTo_yes hq]
                have hq' : (bt f k != 47) = false := by simp [hq]
                have hsz : (f.extract 0 (k + 1)).size ≤ 40 := by rw [ByteArray.size_extract]; omega
                clear hq
                go_wp2_with fail
                refine (clean_spec _ _ (by rw [ByteArray.size_append]; omega)).mono ?_
                rintro e w1 ⟨rfl, hb1⟩
                go_wp2
                go_ret
                exact ⟨ret_str HE.out.symm, hb1⟩
              · have HN : Hid (dirTo f k = dirTo f f.size) := by show dirTo f k = _; rw [← HD.out, dirTo_no hq]
                have hk0 : 1 ≤ k := by
                  rcases Nat.eq_zero_or_pos k with e | e
                  · subst e; exact absurd E0.out hq
                  · exact e
                have hq' : (bt f k != 47) = true := by simpa using hq
                clear hq
                go_wp2
                go_round
                case rel => exact ⟨k, hk0, by omega, by go_num, HN.out⟩
                case measure => simp [intOf]
  · have hp' : pathB f = false := by simpa using hp
    have HR : Hid (resolveS f sp = { data := #[] }) := by show resolveS f sp = _; rw [resolveS, if_pos hp']
    clear hp
    go_enter Try.func38, Try.ntmps38
    go_wp2_with fail
    refine (l2Path_any _ _ hf).mono ?_
    rintro e w' ⟨rfl, rfl⟩
    go_wp2
    go_ret
    exact ⟨ret_str HR.out.symm, Below.refl _ _⟩
end Go.Proofs.Ytemfbibeoibpeaa
