/-
  laws.FnShortName returns true where impl.ShortName answers as it should: the walk.
-/
import Derived.Test.YtkplighmefigcaaShortMath
import Derived.Test.YtkplighmefigcaaLexText
import Derived.Test.YtkplighmefigcaaSpecLexAll
import Derived.Test.YtkplighmefigcaaTokCells
import Derived.Test.YtkplighmefigcaaLawAt
import Derived.Test.YtkplighmefigcaaBig
namespace Go.Proofs.Ytkplighmefigcaa
open Go.RowKit Go.PlainAid

theorem short_lex (n : Nat) : ∃ t, LexR (shortS n) true (.ok [t]) ∧ t.kind = 1 ∧ t.text = shortS n := by
  have hs : shortS n = strOfNums (36 :: sn 14 n) := by unfold shortS; rw [if_neg (by omega), Int.toNat_natCast]
  have hback := strOfNums_back (36 :: sn 14 n) (short_bd n)
  rw [← hs] at hback
  have hg : GoodT true ⟨1, shortS n, 0⟩ := by
    cases hd : (shortS n).data.toList with
    | nil => rw [hd] at hback; cases hback
    | cons c cs =>
      rw [hd, List.map_cons] at hback
      obtain ⟨h1, h2⟩ := List.cons.inj hback
      refine .name hd ?_ fun b hb => ?_
      · have : ib c = 36 := h1
        rw [this]
        decide
      · have hm : ib b ∈ sn 14 n := by rw [← h2]; exact List.mem_map.2 ⟨b, hb, rfl⟩
        have := sn_bd 14 n _ hm
        simp only [worB, letB, Bool.or_eq_true, decide_eq_true_eq]
        omega
  obtain ⟨ts, h1, h2⟩ := lex_text (scr := true) (s := shortS n) (P := [.inl ⟨1, shortS n, 0⟩]) (by simp [txtP, renT]) (fun p hp => by rw [List.mem_singleton.1 hp]; exact hg) ⟨(fun h => by cases h), trivial⟩ (by simp [tksP])
  have h3 : ts.map stpT = [⟨1, shortS n, 0⟩] := h2
  cases ts with
  | nil => cases h3
  | cons t l =>
    cases l with
    | cons u l => simp at h3
    | nil =>
      have h4 := (List.cons.inj h3).1
      exact ⟨t, h1, by have := congrArg Tn.kind h4; exact this, by have := congrArg Tn.text h4; exact this⟩
theorem short_ne {a b : Nat} (ha : a < 26 ^ 14) (hb : b < 26 ^ 14) (h : a ≠ b) : ((shortS a).toList == (shortS b).toList) = false := by
  cases e : (shortS a).toList == (shortS b).toList with
  | false => rfl
  | true => exact absurd (short_inj ha hb ((toList_eq_iff _ _).1 e)) h
set_option maxRecDepth 100000 in
set_option maxHeartbeats 400000 in
theorem fnShortName_any (S : Src) (hS : S.ok) (w : World) (hc : CodeW S w)
    (hi : ∀ (n : Int) (w : World), -9223372036854775808 ≤ n ∧ n ≤ 9223372036854775807 → Calls Try.prog 6 #[.int .i64 n] w fun e w' => e = .returned (.string (shortS n)) ∧ Below w.heap.size w w') :
    Calls Try.prog 4 #[.slice S.a S.len S.cap] w fun e w' => e = .returned (.bool true) ∧ Below w.heap.size w w' := by
  have hlen : S.len ≤ 1048576 := hS.1
  have hbig : decide ((1048576 : Int) < S.len) = false := by simp; omega
  have HI := hidI hi
  have HC := hidI hc
  clear hi hc
  go_enter Try.func4, Try.ntmps4
  go_wp2_with fail
  refine (big_any _ _ _ _ (by omega)).mono ?_
  rintro e wx ⟨rfl, hwx⟩
  rw [hwx]
  clear hwx wx
  have A0 := hidI (at_any S hS 0 w HC.out (by omega))
  have A1 := hidI (at_any S hS 1 w HC.out (by omega))
  have A2 := hidI (at_any S hS 2 w HC.out (by omega))
  have A3 := hidI (at_any S hS 3 w HC.out (by omega))
  go_wp2_with fail
  refine A0.out.mono ?_
  rintro e wx ⟨⟨z0, rfl, y0, y1⟩, hwx⟩
  rw [hwx]
  clear hwx wx
  go_wp2_with fail
  refine A1.out.mono ?_
  rintro e wx ⟨⟨z1, rfl, y2, y3⟩, hwx⟩
  rw [hwx]
  clear hwx wx
  go_wp2_with fail
  refine A2.out.mono ?_
  rintro e wx ⟨⟨z2, rfl, y4, y5⟩, hwx⟩
  rw [hwx]
  clear hwx wx
  go_wp2_with fail
  refine A3.out.mono ?_
  rintro e wx ⟨⟨z3, rfl, y6, y7⟩, hwx⟩
  rw [hwx]
  clear hwx wx
  obtain ⟨a, ha⟩ : ∃ a : Nat, z0 * 256 + z1 = (a : Int) := ⟨(z0 * 256 + z1).toNat, by omega⟩
  obtain ⟨b, hb⟩ : ∃ b : Nat, z2 * 256 + z3 = (b : Int) := ⟨(z2 * 256 + z3).toNat, by omega⟩
  have ha2 : a < 65536 := by omega
  have hb2 : b < 65536 := by omega
  clear A0 A1 A2 A3
  have htop : (26 : Nat) ^ 14 = 64509974703297150976 := by decide
  have HA : Hid (a < 26 ^ 14) := by show a < _; omega
  have HB : Hid (b < 26 ^ 14) := by show b < _; omega
  have hne : (a ≠ b → ((shortS (a : Int)).toList == (shortS (b : Int)).toList) = false) := fun h => short_ne HA.out HB.out h
  have hmo : a ≤ b → (shortS (a : Int)).size ≤ (shortS (b : Int)).size := fun h => short_mono h HB.out
  have hsa := shortS_size (a : Int)
  have hsb := shortS_size (b : Int)
  have SL := hidI (short_lex a)
  have HM : Hid (shortS (-1) = { data := #[] }) := rfl
  clear htop
  go_wp2_with fail
  refine (HI.out (a : Int) _ ⟨by omega, by omega⟩).mono ?_
  rintro e w1 ⟨rfl, b1⟩
  have B1 := hidI b1
  clear b1
  go_wp2_with fail
  refine (HI.out (b : Int) _ ⟨by omega, by omega⟩).mono ?_
  rintro e w2 ⟨rfl, b2⟩
  have B2 := hidI (B1.out.trans (b2.mono B1.out.size))
  clear b2 B1
  go_wp2_with fail
  refine (lex_spec (shortS (a : Int)) true _ (by omega)).mono ?_
  rintro e w3 ⟨⟨r, hr, hm⟩, b3⟩
  obtain ⟨t, h1, h2, h3⟩ := SL.out
  obtain rfl := lexR_one hr h1
  obtain ⟨g, n, cap, rfl, own⟩ := hm
  have hn1 : n = 1 := own.2
  subst hn1
  have hc := own.cells (j := 0) (by omega) (d := t)
  have hgl := (ownT_lt own).1
  have c0 : w3.cell? ⟨g, 0, none⟩ = some (.int .i64 1) := by have := hc.1; simp only [List.getD_cons_zero, h2] at this; exact this
  have c1 : w3.cell? ⟨g, 1, none⟩ = some (.string (shortS (a : Int))) := by have := hc.2.1; simp only [List.getD_cons_zero, h3] at this; exact this
  have B3 := hidI (B2.out.trans (b3.mono B2.out.size))
  clear b3 B2 hc own hr h1 h2 h3 SL
  by_cases hab : a = b
  · subst hab
    have hgi : (a : Int) ≤ (a : Int) := by omega
    clear hne hmo
    go_wp2_with fail
    refine (HI.out (-1) _ ⟨by omega, by omega⟩).mono ?_
    rintro e w4 ⟨rfl, b4⟩
    rw [HM.out]
    have B4 := hidI (B3.out.trans (b4.mono B3.out.size))
    clear b4
    go_wp2
    go_ret
    exact ⟨rfl, B4.out⟩
  · have hxy := hne hab
    have habi : ((a : Int) == (b : Int)) = false := beq_eq_false_iff_ne.2 (by omega)
    by_cases hge : b ≤ a
    · have hgi : (b : Int) ≤ (a : Int) := by omega
      go_wp2_with fail
      refine (HI.out (-1) _ ⟨by omega, by omega⟩).mono ?_
      rintro e w4 ⟨rfl, b4⟩
      rw [HM.out]
      have B4 := hidI (B3.out.trans (b4.mono B3.out.size))
      clear b4
      go_wp2
      go_ret
      exact ⟨rfl, B4.out⟩
    · have hgi : ¬ (b : Int) ≤ (a : Int) := by omega
      have hxs := hmo (by omega)
      have hxi : ((shortS (a : Int)).size : Int) ≤ ((shortS (b : Int)).size : Int) := by omega
      go_wp2_with fail
      refine (HI.out (-1) _ ⟨by omega, by omega⟩).mono ?_
      rintro e w4 ⟨rfl, b4⟩
      rw [HM.out]
      have B4 := hidI (B3.out.trans (b4.mono B3.out.size))
      clear b4
      go_wp2
      go_ret
      exact ⟨rfl, B4.out⟩
end Go.Proofs.Ytkplighmefigcaa
