/-
  What impl.isFilePath, impl.isFile, impl.FilesOk and impl.Find answer: the walks.
-/
import Derived.Test.YtdbpknmoacjodaaCfImplPartsToImplClean
import Derived.Lib.QuietBelow
namespace Go.Proofs.Ytdbpknmoacjodaa
open Go.RowKit Go.PlainAid Go.Sort

theorem undef_yields : yielded.match_1 (motive := fun _ => Option Bool) (some undef) (fun b => some b) (fun _ => none) = none := rfl

theorem isFilePath_any (p : ByteArray) (w : World) (hs : p.size ≤ 9223372036854775807) :
    Calls Try.prog 182 #[.string p] w fun e w' => e = .returned (.bool (fpB p)) ∧ Below w.heap.size w w' := by
  by_cases hp : pathB p = true
  · by_cases h1 : (p.toList == [47]) = true
    · have HV : Hid (fpB p = false) := fpB_root h1
      go_enter Try.func182, Try.ntmps182
      go_wp2_with fail
      refine (isPath_any _ _ hs).mono ?_
      rintro e w' ⟨rfl, rfl⟩
      go_wp2
      go_ret
      exact ⟨ret_bool HV.out.symm, Below.refl _ _⟩
    · have h1' : (p.toList == [47]) = false := by simpa using h1
      have HV : Hid (fpB p = ((cleanS p).toList == p.toList)) := by show fpB p = _; rw [fpB, hp, h1']; rfl
      clear h1
      go_enter Try.func182, Try.ntmps182
      go_wp2_with fail
      refine (isPath_any _ _ hs).mono ?_
      rintro e w' ⟨rfl, rfl⟩
      go_wp2_with fail
      refine (clean_impl _ _ hs).mono ?_
      rintro e w1 ⟨rfl, hb1⟩
      go_wp2
      go_ret
      exact ⟨ret_bool HV.out.symm, hb1⟩
  · have hp' : pathB p = false := by simpa using hp
    have HV : Hid (fpB p = false) := fpB_no_path hp'
    clear hp
    go_enter Try.func182, Try.ntmps182
    go_wp2_with fail
    refine (isPath_any _ _ hs).mono ?_
    rintro e w' ⟨rfl, rfl⟩
    go_wp2
    go_ret
    exact ⟨ret_bool HV.out.symm, Below.refl _ _⟩

theorem isFile_any (p t : ByteArray) (w : World) (hs : p.size ≤ 9223372036854775807) (_ : t.size ≤ 9223372036854775807) :
    Calls Try.prog 135 #[.agg #[.string p, .string t]] w fun e w' => e = .returned (.bool (fileB p t)) ∧ Below w.heap.size w w' := by
  cases hp : fpB p with
  | true =>
    have HV : Hid (fileB p t = decide ((t.size : Int) ≤ 1500)) := by show fileB p t = _; rw [fileB, hp]; rfl
    go_enter Try.func135, Try.ntmps135
    go_wp2_with fail
    refine (isFilePath_any _ _ hs).mono ?_
    rintro e w1 ⟨rfl, hb1⟩
    obtain ⟨_, c1, hb2⟩ := box_cells hb1
    clear hb1
    go_wp2
    go_ret
    exact ⟨ret_bool HV.out.symm, hb2⟩
  | false =>
    have HV : Hid (fileB p t = false) := fileB_path hp
    go_enter Try.func135, Try.ntmps135
    go_wp2_with fail
    refine (isFilePath_any _ _ hs).mono ?_
    rintro e w1 ⟨rfl, hb1⟩
    obtain ⟨_, c1, hb2⟩ := box_cells hb1
    clear hb1
    go_wp2
    go_ret
    exact ⟨ret_bool HV.out.symm, hb2⟩

theorem box_new {w0 wr W : World} {p t : ByteArray} {e : TypeId} (hb : Below w0.heap.size w0 wr) (hW : W = wr.alloc (.cells #[.string p, .string t] e)) :
    W.cell? ⟨wr.heap.size, 0, none⟩ = some (.string p) ∧ W.cell? ⟨wr.heap.size, 1, none⟩ = some (.string t) ∧ Below w0.heap.size w0 W := by
  subst hW
  refine ⟨?_, ?_, hb.alloc hb.size _⟩
  · rw [World.cell?_alloc_new]; rfl
  · rw [World.cell?_alloc_new]; rfl

set_option maxRecDepth 100000 in
set_option maxHeartbeats 1600000 in
theorem filesOk_implA (a : Option Addr) (g len cap : Nat) (Pt Tx : Nat → ByteArray) (w : World) (hf : FilesAt w a g 0 len Pt Tx) (hl : len ≤ 1048576) (hp : ∀ j, j < len → (Pt j).size ≤ 1048576) (ht : ∀ j, j < len → (Tx j).size ≤ 1048576) :
    Calls Try.prog 66 #[.slice a len cap] w fun e w' => e = .returned (.bool (filesB len Pt Tx)) ∧ Below w.heap.size w w' := by
  by_cases hl8 : len ≤ 8
  · go_enter Try.func66, Try.ntmps66
    go_wp2
    go_loopw [10, 3, 4] (fun i _ _ wr => ∃ k : Nat, k ≤ len ∧ i = .int .i64 k ∧ FilesTo k Pt Tx ∧ Below w.heap.size w wr) (fun i _ _ _ => (len - intOf i).toNat)
    case atStart => exact ⟨0, by omega, rfl, fun j hj => absurd hj (Nat.not_lt_zero j), Below.refl _ _⟩
    case round =>
      obtain ⟨k, hk, rfl, hok, hb⟩ := hrel
      have HOK : Hid (FilesTo k Pt Tx) := hok
      clear hok
      by_cases hlt : k < len
      · obtain rfl := hf.addr (by omega)
        have hf' := hf.later hb
        have c0 := hf'.path k hlt
        have c1 := hf'.text k hlt
        rw [Nat.zero_add] at c0 c1
        have hp1 := hp k hlt
        have ht1 := ht k hlt
        obtain ⟨W, hW⟩ : ∃ W, W = wr.alloc (.cells #[.string (Pt k), .string (Tx k)] 52) := ⟨_, rfl⟩
        have HW : Hid (W = wr.alloc (.cells #[.string (Pt k), .string (Tx k)] 52)) := hW
        obtain ⟨b0, b1, hbW⟩ := box_new hb hW
        have B0 : Hid (W.cell? ⟨wr.heap.size, 0, none⟩ = some (.string (Pt k))) := b0
        have B1 : Hid (W.cell? ⟨wr.heap.size, 1, none⟩ = some (.string (Tx k))) := b1
        have hfW := hf.later hbW
        have cQ : ∀ d os, Calls Try.prog 135 #[.agg #[.string (Pt k), .string (Tx k)]] (grow (redrawn W d) os) fun e w'' => e = .returned (.bool (fileB (Pt k) (Tx k))) ∧ ∃ p : Regrown, w'' = grow (redrawn W p.d) p.os :=
          fun d os => Calls.regrown_of (isFile_any _ _ _ (by omega) (by omega))
        clear hW b0 b1
        cases hfl : fileB (Pt k) (Tx k) with
        | false =>
          have HN : Hid (¬ FilesP len Pt Tx) := fun h => by have := (h.2 k hlt).1; rw [hfl] at this; cases this
          rw [hfl] at cQ
          go_wp2
          rw [← HW.out]
          have k0 := cell_regrown B0.out
          have k1 := cell_regrown B1.out
          refine wp_region_quiet_below (by kernel_rfl) (by kernel_rfl) ?_
          repeat (go_big_quiet_step (exact cQ _ _))
          refine wpQuiet_nil ?_
          intro _ hw'
          obtain ⟨⟨dq, osq⟩, hw''⟩ := hw'
          subst hw''
          go_wp2
          go_ret
          exact ⟨ret_bool (filesB_no HN.out).symm, hbW.trans ((below_regrown W dq osq).mono hbW.size)⟩
        | true =>
          rw [hfl] at cQ
          by_cases hk0 : k = 0
          · subst hk0
            have HX : Hid (FilesTo (0 + 1) Pt Tx) := filesTo_next HOK.out hfl (fun h => absurd h (Nat.lt_irrefl _))
            go_wp2
            rw [← HW.out]
            have k0 := cell_regrown B0.out
            have k1 := cell_regrown B1.out
            refine wp_region_quiet_below (by kernel_rfl) (by kernel_rfl) ?_
            repeat (go_big_quiet_step (exact cQ _ _))
            refine wpQuiet_nil ?_
            intro _ hw'
            obtain ⟨⟨dq, osq⟩, hw''⟩ := hw'
            subst hw''
            have hbE := hbW.trans ((below_regrown W dq osq).mono hbW.size)
            go_wp2
            go_roundw
            case rel => exact ⟨0 + 1, by omega, by go_num, HX.out, hbE⟩
            case measure => simp [intOf]; omega
          · obtain ⟨m, rfl⟩ : ∃ m, k = m + 1 := ⟨k - 1, by omega⟩
            have ez : ((m + 1 : Nat) : Int) = (m : Int) + 1 := by omega
            have eq1 : decide ((0 : Int) < ((m + 1 : Nat) : Int)) = true := decide_eq_true (by omega)
            have p0 := hfW.path m (by omega)
            rw [Nat.zero_add] at p0
            have P0 : Hid (W.cell? ⟨g, m * 2, none⟩ = some (.string (Pt m))) := p0
            clear p0
            cases hls : Op.bytesLess (Pt m).toList (Pt (m + 1)).toList with
            | true =>
              have HX : Hid (FilesTo (m + 1 + 1) Pt Tx) := filesTo_next HOK.out hfl (fun _ => hls)
              go_wp2
              rw [← HW.out]
              have k0 := cell_regrown B0.out
              have k1 := cell_regrown B1.out
              have k2 := cell_regrown P0.out
              refine wp_region_quiet_below (by kernel_rfl) (by kernel_rfl) ?_
              repeat (go_big_quiet_step (exact cQ _ _))
              refine wpQuiet_nil ?_
              intro _ hw'
              obtain ⟨⟨dq, osq⟩, hw''⟩ := hw'
              subst hw''
              have hbE := hbW.trans ((below_regrown W dq osq).mono hbW.size)
              go_wp2
              go_roundw
              case rel => exact ⟨m + 1 + 1, by omega, by go_num, HX.out, hbE⟩
              case measure => simp [intOf]; omega
            | false =>
              have HN : Hid (¬ FilesP len Pt Tx) := fun h => by have := (h.2 (m + 1) hlt).2 (by omega); rw [Nat.add_sub_cancel, hls] at this; cases this
              go_wp2
              rw [← HW.out]
              have k0 := cell_regrown B0.out
              have k1 := cell_regrown B1.out
              have k2 := cell_regrown P0.out
              refine wp_region_quiet_below (by kernel_rfl) (by kernel_rfl) ?_
              repeat (go_big_quiet_step (exact cQ _ _))
              refine wpQuiet_nil ?_
              intro _ hw'
              obtain ⟨⟨dq, osq⟩, hw''⟩ := hw'
              subst hw''
              have hbE := hbW.trans ((below_regrown W dq osq).mono hbW.size)
              go_wp2
              go_ret
              exact ⟨ret_bool (filesB_no HN.out).symm, hbE⟩
      · have HY : Hid (FilesP len Pt Tx) := ⟨hl8, fun j hj => HOK.out j (by omega)⟩
        go_wp2
        go_ret
        exact ⟨ret_bool (filesB_yes HY.out).symm, hb⟩
  · have HN : Hid (¬ FilesP len Pt Tx) := fun h => hl8 h.1
    go_enter Try.func66, Try.ntmps66
    go_wp2
    go_ret
    exact ⟨ret_bool (filesB_no HN.out).symm, Below.refl _ _⟩

theorem filesOk_impl (g len : Nat) (Pt Tx : Nat → ByteArray) (w : World) (hf : FilesAt w (some ⟨g, 0, none⟩) g 0 len Pt Tx) (hl : len ≤ 1048576) (hp : ∀ j, j < len → (Pt j).size ≤ 1048576) (ht : ∀ j, j < len → (Tx j).size ≤ 1048576) :
    Calls Try.prog 66 #[.slice (some ⟨g, 0, none⟩) len len] w fun e w' => e = .returned (.bool (filesB len Pt Tx)) ∧ Below w.heap.size w w' := filesOk_implA _ g len len Pt Tx w hf hl hp ht
theorem clone_any (s : ByteArray) (w : World) (h : s.size ≤ 281474976710656) :
    Calls Try.prog 92 #[.string s] w fun e w' => e = .returned (.string s) ∧ Below w.heap.size w w' := by
  go_enter Try.func92, Try.ntmps92
  go_wp2_with fail
  refine (Try.stringslite_Clone _ _ h).mono ?_
  rintro e w1 ⟨rfl, hb1⟩
  go_wp2
  go_ret
  exact ⟨rfl, hb1⟩

set_option maxRecDepth 100000 in
set_option maxHeartbeats 1600000 in
theorem find_implC (g len cap : Nat) (Pt Tx : Nat → ByteArray) (q : ByteArray) (w : World) (hf : FilesAt w (some ⟨g, 0, none⟩) g 0 len Pt Tx) (hl : len ≤ 1048576) (hp : ∀ j, j < len → (Pt j).size ≤ 1048576) (ht : ∀ j, j < len → (Tx j).size ≤ 1048576) :
    Calls Try.prog 36 #[.slice (some ⟨g, 0, none⟩) len cap, .string q] w fun e w' => e = .returned (.tuple #[.string (findS len Pt Tx q).1, .bool (findS len Pt Tx q).2]) ∧ Below w.heap.size w w' := by
  cases hfb : filesB len Pt Tx with
  | false =>
    have HV : Hid (findS len Pt Tx q = ({ data := #[] }, false)) := findS_bad hfb
    go_enter Try.func36, Try.ntmps36
    go_wp2_with fail
    refine (filesOk_implA _ g len cap Pt Tx _ hf hl hp ht).mono ?_
    rintro e w1 ⟨rfl, hb1⟩
    go_wp2
    go_ret2
    exact ⟨ret_str_bool (by rw [HV.out]) (by rw [HV.out]), hb1⟩
  | true =>
    go_enter Try.func36, Try.ntmps36
    go_wp2_with fail
    refine (filesOk_implA _ g len cap Pt Tx _ hf hl hp ht).mono ?_
    rintro e w1 ⟨rfl, hb1⟩
    go_wp2
    go_loopw [13, 7] (fun i _ wr => ∃ k : Nat, k ≤ len ∧ i = .int .i64 k ∧ (∀ j, j < k → Pt j ≠ q) ∧ Below w.heap.size w wr) (fun i _ _ => (len - intOf i).toNat)
    case atStart => exact ⟨0, by omega, rfl, fun j hj => absurd hj (Nat.not_lt_zero j), hb1⟩
    case round =>
      obtain ⟨k, hk, rfl, hno, hb⟩ := hrel
      have HNO : Hid (∀ j, j < k → Pt j ≠ q) := hno
      clear hno
      by_cases hlt : k < len
      · have hf' := hf.later hb
        have c0 := hf'.path k hlt
        have c1 := hf'.text k hlt
        rw [Nat.zero_add] at c0 c1
        have ht1 := ht k hlt
        by_cases hpq : Pt k = q
        · have hq : ((Pt k).toList == q.toList) = true := (toList_eq_iff _ _).2 hpq
          have HV : Hid (findS len Pt Tx q = (Tx k, true)) := findS_at hfb hlt hpq HNO.out
          clear hpq
          go_wp2_with fail
          refine (clone_any _ _ (by omega)).mono ?_
          rintro e w2 ⟨rfl, hb2⟩
          obtain ⟨_, _, hb3⟩ := box_cells hb2
          go_wp2
          go_ret2
          exact ⟨ret_str_bool (by rw [HV.out]) (by rw [HV.out]), hb.trans (hb3.mono hb.size)⟩
        · have hq : ((Pt k).toList == q.toList) = false := toList_ne hpq
          have HX : Hid (∀ j, j < k + 1 → Pt j ≠ q) := fun j hj => by
            by_cases e : j = k
            · rw [e]; exact hpq
            · exact HNO.out j (by omega)
          clear hpq
          go_wp2
          go_roundw
          case rel => exact ⟨k + 1, by omega, by go_num, HX.out, hb.alloc hb.size _⟩
          case measure => simp [intOf]; omega
      · have HV : Hid (findS len Pt Tx q = ({ data := #[] }, false)) := findS_none (fun j hj => HNO.out j (by omega))
        go_wp2
        go_ret2
        exact ⟨ret_str_bool (by rw [HV.out]) (by rw [HV.out]), hb⟩
theorem find_impl (g len : Nat) (Pt Tx : Nat → ByteArray) (q : ByteArray) (w : World) (hf : FilesAt w (some ⟨g, 0, none⟩) g 0 len Pt Tx) (hl : len ≤ 1048576) (hp : ∀ j, j < len → (Pt j).size ≤ 1048576) (ht : ∀ j, j < len → (Tx j).size ≤ 1048576) :
    Calls Try.prog 36 #[.slice (some ⟨g, 0, none⟩) len len, .string q] w fun e w' => e = .returned (.tuple #[.string (findS len Pt Tx q).1, .bool (findS len Pt Tx q).2]) ∧ Below w.heap.size w w' := find_implC g len len Pt Tx q w hf hl hp ht
end Go.Proofs.Ytdbpknmoacjodaa
