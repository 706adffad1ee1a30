/-
  What spec.FilesOk and spec.Find answer: the walks.
-/
import Derived.Test.YtdbpknmoacjodaaCpSpecClean
import Derived.Lib.QuietBelow
import Derived.BigQuiet
namespace Go.Proofs.Ytdbpknmoacjodaa
open Go.RowKit Go.PlainAid Go.Sort

set_option maxRecDepth 100000 in
set_option maxHeartbeats 3200000 in
theorem filesOk_specC (g len cap : Nat) (Pt Tx : Nat → ByteArray) (w : World) (hf : FilesAt w (some ⟨g, 0, none⟩) g 0 len Pt Tx) (hl : len ≤ 1048576) (hp : ∀ j, j < len → (Pt j).size ≤ 1048576) (ht : ∀ j, j < len → (Tx j).size ≤ 1048576) :
    Calls Try.prog 31 #[.slice (some ⟨g, 0, none⟩) len cap] w fun e w' => e = .returned (.bool (filesB len Pt Tx)) ∧ Below w.heap.size w w' := by
  by_cases hl8 : len ≤ 8
  · go_enter Try.func31, Try.ntmps31
    go_wp2
    go_loopw [3] (fun i wr => ∃ k : Nat, k ≤ len ∧ i = .int .i64 k ∧ FilesTo k Pt Tx ∧ Below w.heap.size w wr) (fun i _ => (len - intOf i).toNat)
    case atStart => exact ⟨0, by omega, rfl, fun j hj => absurd hj (Nat.not_lt_zero j), Below.refl _ _⟩
    case round =>
      obtain ⟨k, hk, rfl, hok, hb⟩ := hrel
      have HOK : Hid (FilesTo k Pt Tx) := hok
      clear hok
      by_cases hlt : k < len
      · have hf' := hf.later hb
        have c0 := hf'.path k hlt
        have c1 := hf'.text k hlt
        rw [Nat.zero_add] at c0 c1
        have hp1 := hp k hlt
        have ht1 := ht k hlt
        have C0 : Hid (wr.cell? ⟨g, k * 2, none⟩ = some (.string (Pt k))) := c0
        have C1 : Hid (wr.cell? ⟨g, k * 2 + 1, none⟩ = some (.string (Tx k))) := c1
        have cQ : ∀ d os, Calls Try.prog 82 #[.string (Pt k)] (grow (redrawn wr d) os) fun e w'' => e = .returned (.string (cleanS (Pt k))) ∧ ∃ p : Regrown, w'' = grow (redrawn wr p.d) p.os :=
          fun d os => Calls.regrown_of (clean_spec _ _ (by omega))
        clear c0 c1
        by_cases h1 : ((Pt k).toList == [47]) = true
        · have HN : Hid (¬ FilesP len Pt Tx) := fun h => by have := (h.2 k hlt).1; rw [fileB_path (fpB_root h1)] at this; cases this
          go_wp2
          have k0 := cell_regrown C0.out
          have k1 := cell_regrown C1.out
          refine wp_region_quiet_below (by kernel_rfl) (by kernel_rfl) ?_
          repeat (go_big_quiet_step (exact cQ _ _))
          refine wpQuiet_nil ?_
          intro _ hw'
          obtain ⟨⟨dq, osq⟩, hw''⟩ := hw'
          subst hw''
          go_wp2
          go_ret
          exact ⟨ret_bool (filesB_no HN.out).symm, hb.trans ((below_regrown wr dq osq).mono hb.size)⟩
        · have h1' : ((Pt k).toList == [47]) = false := by simpa using h1
          clear h1
          by_cases h2 : ((cleanS (Pt k)).toList == (Pt k).toList) = true
          · by_cases h3 : (Pt k).toList.isEmpty = true
            · skip
              have HN : Hid (¬ FilesP len Pt Tx) := fun h => by have := (h.2 (k) hlt).1; rw [fileB_path (fpB_empty h3)] at this; cases this
              go_wp2
              have k0 := cell_regrown C0.out
              have k1 := cell_regrown C1.out
              refine wp_region_quiet_below (by kernel_rfl) (by kernel_rfl) ?_
              repeat (go_big_quiet_step (exact cQ _ _))
              refine wpQuiet_nil ?_
              intro _ hw'
              obtain ⟨⟨dq, osq⟩, hw''⟩ := hw'
              subst hw''
              have hbE := hb.trans ((below_regrown wr dq osq).mono hb.size)
              go_wp2
              go_ret
              exact ⟨ret_bool (filesB_no HN.out).symm, hbE⟩
            · have h3' : (Pt k).toList.isEmpty = false := by simpa using h3
              clear h3
              have hfp : fpB (Pt k) = true := fpB_yes (path_of_clean h3' h2) h1' h2
              by_cases hk0 : k = 0
              · subst hk0
                by_cases h5 : ((Tx 0).size : Int) ≤ 1500
                · have q5 : decide ((1500 : Int) < ((Tx 0).size : Int)) = false := decide_eq_false (by omega)
                  have HX : Hid (FilesTo (0 + 1) Pt Tx) := filesTo_next HOK.out (fileB_yes hfp (by omega)) (fun h => absurd h (Nat.lt_irrefl _))
                  go_wp2
                  have k0 := cell_regrown C0.out
                  have k1 := cell_regrown C1.out
                  refine wp_region_quiet_below (by kernel_rfl) (by kernel_rfl) ?_
                  repeat (go_big_quiet_step (exact cQ _ _))
                  refine wpQuiet_nil ?_
                  intro _ hw'
                  obtain ⟨⟨dq, osq⟩, hw''⟩ := hw'
                  subst hw''
                  have hbE := hb.trans ((below_regrown wr dq osq).mono hb.size)
                  go_wp2
                  go_roundw
                  case rel => exact ⟨0 + 1, by omega, by go_num, HX.out, hbE⟩
                  case measure => simp [intOf]; omega
                · have q5 : decide ((1500 : Int) < ((Tx 0).size : Int)) = true := decide_eq_true (by omega)
                  have HN : Hid (¬ FilesP len Pt Tx) := fun h => by have := (h.2 (0) hlt).1; rw [fileB_text h5] at this; cases this
                  go_wp2
                  have k0 := cell_regrown C0.out
                  have k1 := cell_regrown C1.out
                  refine wp_region_quiet_below (by kernel_rfl) (by kernel_rfl) ?_
                  repeat (go_big_quiet_step (exact cQ _ _))
                  refine wpQuiet_nil ?_
                  intro _ hw'
                  obtain ⟨⟨dq, osq⟩, hw''⟩ := hw'
                  subst hw''
                  have hbE := hb.trans ((below_regrown wr dq osq).mono hb.size)
                  go_wp2
                  go_ret
                  exact ⟨ret_bool (filesB_no HN.out).symm, hbE⟩
              · obtain ⟨m, rfl⟩ : ∃ m, k = m + 1 := ⟨k - 1, by omega⟩
                have ez : ((m + 1 : Nat) : Int) = (m : Int) + 1 := by omega
                have eq1 : decide ((0 : Int) < ((m + 1 : Nat) : Int)) = true := decide_eq_true (by omega)
                have p0 := hf'.path m (by omega)
                rw [Nat.zero_add] at p0
                have P0 : Hid (wr.cell? ⟨g, m * 2, none⟩ = some (.string (Pt m))) := p0
                clear p0
                cases hls : Op.bytesLess (Pt m).toList (Pt (m + 1)).toList with
                | true =>
                  by_cases h5 : ((Tx (m + 1)).size : Int) ≤ 1500
                  · have q5 : decide ((1500 : Int) < ((Tx (m + 1)).size : Int)) = false := decide_eq_false (by omega)
                    have HX : Hid (FilesTo (m + 1 + 1) Pt Tx) := filesTo_next HOK.out (fileB_yes hfp (by omega)) (fun _ => hls)
                    go_wp2
                    have k0 := cell_regrown C0.out
                    have k1 := cell_regrown C1.out
                    have k2 := cell_regrown P0.out
                    refine wp_region_quiet_below (by kernel_rfl) (by kernel_rfl) ?_
                    repeat (go_big_quiet_step (exact cQ _ _))
                    refine wpQuiet_nil ?_
                    intro _ hw'
                    obtain ⟨⟨dq, osq⟩, hw''⟩ := hw'
                    subst hw''
                    have hbE := hb.trans ((below_regrown wr dq osq).mono hb.size)
                    go_wp2
                    go_roundw
                    case rel => exact ⟨m + 1 + 1, by omega, by go_num, HX.out, hbE⟩
                    case measure => simp [intOf]; omega
                  · have q5 : decide ((1500 : Int) < ((Tx (m + 1)).size : Int)) = true := decide_eq_true (by omega)
                    have HN : Hid (¬ FilesP len Pt Tx) := fun h => by have := (h.2 (m + 1) hlt).1; rw [fileB_text h5] at this; cases this
                    go_wp2
                    have k0 := cell_regrown C0.out
                    have k1 := cell_regrown C1.out
                    have k2 := cell_regrown P0.out
                    refine wp_region_quiet_below (by kernel_rfl) (by kernel_rfl) ?_
                    repeat (go_big_quiet_step (exact cQ _ _))
                    refine wpQuiet_nil ?_
                    intro _ hw'
                    obtain ⟨⟨dq, osq⟩, hw''⟩ := hw'
                    subst hw''
                    have hbE := hb.trans ((below_regrown wr dq osq).mono hb.size)
                    go_wp2
                    go_ret
                    exact ⟨ret_bool (filesB_no HN.out).symm, hbE⟩
                | false =>
                  have HN : Hid (¬ FilesP len Pt Tx) := fun h => by have := (h.2 (m + 1) hlt).2 (by omega); rw [Nat.add_sub_cancel, hls] at this; cases this
                  go_wp2
                  have k0 := cell_regrown C0.out
                  have k1 := cell_regrown C1.out
                  have k2 := cell_regrown P0.out
                  refine wp_region_quiet_below (by kernel_rfl) (by kernel_rfl) ?_
                  repeat (go_big_quiet_step (exact cQ _ _))
                  refine wpQuiet_nil ?_
                  intro _ hw'
                  obtain ⟨⟨dq, osq⟩, hw''⟩ := hw'
                  subst hw''
                  have hbE := hb.trans ((below_regrown wr dq osq).mono hb.size)
                  go_wp2
                  go_ret
                  exact ⟨ret_bool (filesB_no HN.out).symm, hbE⟩
          · have h2' : ((cleanS (Pt k)).toList == (Pt k).toList) = false := by simpa using h2
            clear h2
            have HN : Hid (¬ FilesP len Pt Tx) := fun h => by have := (h.2 (k) hlt).1; rw [fileB_path (fpB_clean h2')] at this; cases this
            go_wp2
            have k0 := cell_regrown C0.out
            have k1 := cell_regrown C1.out
            refine wp_region_quiet_below (by kernel_rfl) (by kernel_rfl) ?_
            repeat (go_big_quiet_step (exact cQ _ _))
            refine wpQuiet_nil ?_
            intro _ hw'
            obtain ⟨⟨dq, osq⟩, hw''⟩ := hw'
            subst hw''
            have hbE := hb.trans ((below_regrown wr dq osq).mono hb.size)
            go_wp2
            go_ret
            exact ⟨ret_bool (filesB_no HN.out).symm, hbE⟩
      · have HY : Hid (FilesP len Pt Tx) := ⟨hl8, fun j hj => HOK.out j (by omega)⟩
        go_wp2
        go_ret
        exact ⟨ret_bool (filesB_yes HY.out).symm, hb⟩
  · have HN : Hid (¬ FilesP len Pt Tx) := fun h => hl8 h.1
    go_enter Try.func31, Try.ntmps31
    go_wp2
    go_ret
    exact ⟨ret_bool (filesB_no HN.out).symm, Below.refl _ _⟩
theorem filesOk_spec (g len : Nat) (Pt Tx : Nat → ByteArray) (w : World) (hf : FilesAt w (some ⟨g, 0, none⟩) g 0 len Pt Tx) (hl : len ≤ 1048576) (hp : ∀ j, j < len → (Pt j).size ≤ 1048576) (ht : ∀ j, j < len → (Tx j).size ≤ 1048576) :
    Calls Try.prog 31 #[.slice (some ⟨g, 0, none⟩) len len] w fun e w' => e = .returned (.bool (filesB len Pt Tx)) ∧ Below w.heap.size w w' := filesOk_specC g len len Pt Tx w hf hl hp ht
end Go.Proofs.Ytdbpknmoacjodaa
