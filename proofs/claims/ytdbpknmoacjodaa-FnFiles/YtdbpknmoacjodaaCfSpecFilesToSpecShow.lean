/-
  What spec.FilesOk and spec.Find answer: the walks.
  What impl.Var and spec.Var answer, at every number: the walks.
  What spec.l12Piece and spec.ShowFiles answer: the walks.
-/
import Derived.Lib.QuietBelow
import Derived.Test.YtdbpknmoacjodaaCfDrawLineToSpecClean
namespace Go.Proofs.Ytdbpknmoacjodaa
open Go.RowKit Go.PlainAid Go.Sort

set_option maxRecDepth 100000 in
set_option maxHeartbeats 3200000 in
theorem filesOk_specC (g len cap : Nat) (Pt Tx : Nat → ByteArray) (w : World) (hf : FilesAt w (some ⟨g, 0, none⟩) g 0 len Pt Tx) (hl : len ≤ 1048576) (hp : ∀ j, j < len → (Pt j).size ≤ 1048576) (ht : ∀ j, j < len → (Tx j).size ≤ 1048576) :
    Calls Try.prog 31 #[.slice (some ⟨g, 0, none⟩) len cap] w fun e w' => e = .returned (.bool (filesB len Pt Tx)) ∧ Below w.heap.size w w' := by
  by_cases hl8 : len ≤ 8
  · go_enter Try.func31, Try.ntmps31
    go_wp2
    go_loopw [3] (fun i wr => ∃ k : Nat, k ≤ len ∧ i = .int .i64 k ∧ FilesTo k Pt Tx ∧ Below w.heap.size w wr) (fun i _ => (len - intOf i).toNat)
    case atStart => exact ⟨0, by omega, rfl, fun j hj => absurd hj (Nat.not_lt_zero j), Below.refl _ _⟩
    case round =>
      obtain ⟨k, hk, rfl, hok, hb⟩ := hrel
      have HOK : Hid (FilesTo k Pt Tx) := hok
      clear hok
      by_cases hlt : k < len
      · have hf' := hf.later hb
        have c0 := hf'.path k hlt
        have c1 := hf'.text k hlt
        rw [Nat.zero_add] at c0 c1
        have hp1 := hp k hlt
        have ht1 := ht k hlt
        have C0 : Hid (wr.cell? ⟨g, k * 2, none⟩ = some (.string (Pt k))) := c0
        have C1 : Hid (wr.cell? ⟨g, k * 2 + 1, none⟩ = some (.string (Tx k))) := c1
        have cQ : ∀ d os, Calls Try.prog 82 #[.string (Pt k)] (grow (redrawn wr d) os) fun e w'' => e = .returned (.string (cleanS (Pt k))) ∧ ∃ p : Regrown, w'' = grow (redrawn wr p.d) p.os :=
          fun d os => Calls.regrown_of (clean_spec _ _ (by omega))
        clear c0 c1
        by_cases h1 : ((Pt k).toList == [47]) = true
        · have HN : Hid (¬ FilesP len Pt Tx) := fun h => by have := (h.2 k hlt).1; rw [fileB_path (fpB_root h1)] at this; cases this
          go_wp2
          have k0 := cell_regrown C0.out
          have k1 := cell_regrown C1.out
          refine wp_region_quiet_below (by kernel_rfl) (by kernel_rfl) ?_
          repeat (go_big_quiet_step (exact cQ _ _))
          refine wpQuiet_nil ?_
          intro _ hw'
          obtain ⟨⟨dq, osq⟩, hw''⟩ := hw'
          subst hw''
          go_wp2
          go_ret
          exact ⟨ret_bool (filesB_no HN.out).symm, hb.trans ((below_regrown wr dq osq).mono hb.size)⟩
        · have h1' : ((Pt k).toList == [47]) = false := by simpa using h1
          clear h1
          by_cases h2 : ((cleanS (Pt k)).toList == (Pt k).toList) = true
          · by_cases h3 : (Pt k).toList.isEmpty = true
            · skip
              have HN : Hid (¬ FilesP len Pt Tx) := fun h => by have := (h.2 (k) hlt).1; rw [fileB_path (fpB_empty h3)] at this; cases this
              go_wp2
              have k0 := cell_regrown C0.out
              have k1 := cell_regrown C1.out
              refine wp_region_quiet_below (by kernel_rfl) (by kernel_rfl) ?_
              repeat (go_big_quiet_step (exact cQ _ _))
              refine wpQuiet_nil ?_
              intro _ hw'
              obtain ⟨⟨dq, osq⟩, hw''⟩ := hw'
              subst hw''
              have hbE := hb.trans ((below_regrown wr dq osq).mono hb.size)
              go_wp2
              go_ret
              exact ⟨ret_bool (filesB_no HN.out).symm, hbE⟩
            · have h3' : (Pt k).toList.isEmpty = false := by simpa using h3
              clear h3
              have hfp : fpB (Pt k) = true := fpB_yes (path_of_clean h3' h2) h1' h2
              by_cases hk0 : k = 0
              · subst hk0
                by_cases h5 : ((Tx 0).size : Int) ≤ 1500
                · have q5 : decide ((1500 : Int) < ((Tx 0).size : Int)) = false := decide_eq_false (by omega)
                  have HX : Hid (FilesTo (0 + 1) Pt Tx) := filesTo_next HOK.out (fileB_yes hfp (by omega)) (fun h => absurd h (Nat.lt_irrefl _))
                  go_wp2
                  have k0 := cell_regrown C0.out
                  have k1 := cell_regrown C1.out
                  refine wp_region_quiet_below (by kernel_rfl) (by kernel_rfl) ?_
                  repeat (go_big_quiet_step (exact cQ _ _))
                  refine wpQuiet_nil ?_
                  intro _ hw'
                  obtain ⟨⟨dq, osq⟩, hw''⟩ := hw'
                  subst hw''
                  have hbE := hb.trans ((below_regrown wr dq osq).mono hb.size)
                  go_wp2
                  go_roundw
                  case rel => exact ⟨0 + 1, by omega, by go_num, HX.out, hbE⟩
                  case measure => simp [intOf]; omega
                · have q5 : decide ((1500 : Int) < ((Tx 0).size : Int)) = true := decide_eq_true (by omega)
                  have HN : Hid (¬ FilesP len Pt Tx) := fun h => by have := (h.2 (0) hlt).1; rw [fileB_text h5] at this; cases this
                  go_wp2
                  have k0 := cell_regrown C0.out
                  have k1 := cell_regrown C1.out
                  refine wp_region_quiet_below (by kernel_rfl) (by kernel_rfl) ?_
                  repeat (go_big_quiet_step (exact cQ _ _))
                  refine wpQuiet_nil ?_
                  intro _ hw'
                  obtain ⟨⟨dq, osq⟩, hw''⟩ := hw'
                  subst hw''
                  have hbE := hb.trans ((below_regrown wr dq osq).mono hb.size)
                  go_wp2
                  go_ret
                  exact ⟨ret_bool (filesB_no HN.out).symm, hbE⟩
              · obtain ⟨m, rfl⟩ : ∃ m, k = m + 1 := ⟨k - 1, by omega⟩
                have ez : ((m + 1 : Nat) : Int) = (m : Int) + 1 := by omega
                have eq1 : decide ((0 : Int) < ((m + 1 : Nat) : Int)) = true := decide_eq_true (by omega)
                have p0 := hf'.path m (by omega)
                rw [Nat.zero_add] at p0
                have P0 : Hid (wr.cell? ⟨g, m * 2, none⟩ = some (.string (Pt m))) := p0
                clear p0
                cases hls : Op.bytesLess (Pt m).toList (Pt (m + 1)).toList with
                | true =>
                  by_cases h5 : ((Tx (m + 1)).size : Int) ≤ 1500
                  · have q5 : decide ((1500 : Int) < ((Tx (m + 1)).size : Int)) = false := decide_eq_false (by omega)
                    have HX : Hid (FilesTo (m + 1 + 1) Pt Tx) := filesTo_next HOK.out (fileB_yes hfp (by omega)) (fun _ => hls)
                    go_wp2
                    have k0 := cell_regrown C0.out
                    have k1 := cell_regrown C1.out
                    have k2 := cell_regrown P0.out
                    refine wp_region_quiet_below (by kernel_rfl) (by kernel_rfl) ?_
                    repeat (go_big_quiet_step (exact cQ _ _))
                    refine wpQuiet_nil ?_
                    intro _ hw'
                    obtain ⟨⟨dq, osq⟩, hw''⟩ := hw'
                    subst hw''
                    have hbE := hb.trans ((below_regrown wr dq osq).mono hb.size)
                    go_wp2
                    go_roundw
                    case rel => exact ⟨m + 1 + 1, by omega, by go_num, HX.out, hbE⟩
                    case measure => simp [intOf]; omega
                  · have q5 : decide ((1500 : Int) < ((Tx (m + 1)).size : Int)) = true := decide_eq_true (by omega)
                    have HN : Hid (¬ FilesP len Pt Tx) := fun h => by have := (h.2 (m + 1) hlt).1; rw [fileB_text h5] at this; cases this
                    go_wp2
                    have k0 := cell_regrown C0.out
                    have k1 := cell_regrown C1.out
                    have k2 := cell_regrown P0.out
                    refine wp_region_quiet_below (by kernel_rfl) (by kernel_rfl) ?_
                    repeat (go_big_quiet_step (exact cQ _ _))
                    refine wpQuiet_nil ?_
                    intro _ hw'
                    obtain ⟨⟨dq, osq⟩, hw''⟩ := hw'
                    subst hw''
                    have hbE := hb.trans ((below_regrown wr dq osq).mono hb.size)
                    go_wp2
                    go_ret
                    exact ⟨ret_bool (filesB_no HN.out).symm, hbE⟩
                | false =>
                  have HN : Hid (¬ FilesP len Pt Tx) := fun h => by have := (h.2 (m + 1) hlt).2 (by omega); rw [Nat.add_sub_cancel, hls] at this; cases this
                  go_wp2
                  have k0 := cell_regrown C0.out
                  have k1 := cell_regrown C1.out
                  have k2 := cell_regrown P0.out
                  refine wp_region_quiet_below (by kernel_rfl) (by kernel_rfl) ?_
                  repeat (go_big_quiet_step (exact cQ _ _))
                  refine wpQuiet_nil ?_
                  intro _ hw'
                  obtain ⟨⟨dq, osq⟩, hw''⟩ := hw'
                  subst hw''
                  have hbE := hb.trans ((below_regrown wr dq osq).mono hb.size)
                  go_wp2
                  go_ret
                  exact ⟨ret_bool (filesB_no HN.out).symm, hbE⟩
          · have h2' : ((cleanS (Pt k)).toList == (Pt k).toList) = false := by simpa using h2
            clear h2
            have HN : Hid (¬ FilesP len Pt Tx) := fun h => by have := (h.2 (k) hlt).1; rw [fileB_path (fpB_clean h2')] at this; cases this
            go_wp2
            have k0 := cell_regrown C0.out
            have k1 := cell_regrown C1.out
            refine wp_region_quiet_below (by kernel_rfl) (by kernel_rfl) ?_
            repeat (go_big_quiet_step (exact cQ _ _))
            refine wpQuiet_nil ?_
            intro _ hw'
            obtain ⟨⟨dq, osq⟩, hw''⟩ := hw'
            subst hw''
            have hbE := hb.trans ((below_regrown wr dq osq).mono hb.size)
            go_wp2
            go_ret
            exact ⟨ret_bool (filesB_no HN.out).symm, hbE⟩
      · have HY : Hid (FilesP len Pt Tx) := ⟨hl8, fun j hj => HOK.out j (by omega)⟩
        go_wp2
        go_ret
        exact ⟨ret_bool (filesB_yes HY.out).symm, hb⟩
  · have HN : Hid (¬ FilesP len Pt Tx) := fun h => hl8 h.1
    go_enter Try.func31, Try.ntmps31
    go_wp2
    go_ret
    exact ⟨ret_bool (filesB_no HN.out).symm, Below.refl _ _⟩
theorem filesOk_spec (g len : Nat) (Pt Tx : Nat → ByteArray) (w : World) (hf : FilesAt w (some ⟨g, 0, none⟩) g 0 len Pt Tx) (hl : len ≤ 1048576) (hp : ∀ j, j < len → (Pt j).size ≤ 1048576) (ht : ∀ j, j < len → (Tx j).size ≤ 1048576) :
    Calls Try.prog 31 #[.slice (some ⟨g, 0, none⟩) len len] w fun e w' => e = .returned (.bool (filesB len Pt Tx)) ∧ Below w.heap.size w w' := filesOk_specC g len len Pt Tx w hf hl hp ht
end Go.Proofs.Ytdbpknmoacjodaa
namespace Go.Proofs.Ytdbpknmoacjodaa
open Go.RowKit Go.PlainAid

set_option maxRecDepth 100000 in
set_option maxHeartbeats 800000 in
theorem var_impl_yes (n : Int) (w : World) (hn0 : 0 ≤ n) (hn1 : n ≤ 562949953421311) :
    Calls Try.prog 79 #[.int .i64 n] w fun e w' => e = .returned (.string (strOfNums (vl 6 n))) ∧ Below w.heap.size w w' := by
  obtain ⟨i0, hi, hz0, hz1, hz2⟩ := info_parts Try.infoByte
  go_enter Try.func79, Try.ntmps79
  go_wp2_with (first | (at_make; refine wpList_make_own _ rfl _ _ 59 rfl w.heap.size 5 i0 (.int .u8 0) 1 Try.underlying59 hi hz0 hz1 _ _ _ 7 rfl rfl (by omega) ?b2 ?b3 ?b4 ?_))
  case b2 => rw [hz2]; omega
  case b3 => unfold maxLen; omega
  case b4 => exact Nat.le_refl _
  intro w1 hown hgrow
  have hbel := (Below.refl w.heap.size w).grown hgrow (Nat.le_refl _) (by intro k hk; cases hk)
  clear hgrow
  go_wp2
  go_loopw [0, 3] (fun a v wr => ∃ (k : Nat) (acc : List Int) (q : Int), VarAt n k acc q ∧ a = .int .i64 q ∧ OwnB wr w.heap.size 5 v k acc ∧ Below w.heap.size w wr) (fun a _ _ => (intOf a).toNat)
  case atStart => exact ⟨0, [], n, varAt_start n hn0, rfl, hown, hbel⟩
  case round =>
    obtain ⟨k, acc, q, hat, rfl, hown', hbel'⟩ := hrel
    have hq0 : 0 ≤ q := hat.2.2.1
    have hqn : q ≤ n := hat.2.2.2.1
    have hk6 : k ≤ 6 := hat.1
    have hsz := hbel'.size
    clear hown hbel
    by_cases hlt : q < 128
    · have HE : Hid (acc ++ [q] = vl 6 n) := varAt_end hat hlt
      clear hat
      go_wp2_with (first | (at_builtin; refine app_byte wr rfl _ _ 59 rfl w.heap.size 5 i0 Try.underlying59 hi hz0 hz1 hz2 _ k acc (by rfl) hown' q (by rfl) (by omega) hsz ?_))
      intro v' w2 hown2 hb2
      rw [HE.out] at hown2
      have hst := run_string_own (P := Try.prog) (src := 59) (dst := 9) Try.underlying59 Try.underlying5 Try.underlying9 hown2
      go_wp2
      go_ret
      exact ⟨rfl, hbel'.trans hb2⟩
    · have hk := varAt_lt hat hn1 hlt
      have HA : Hid (VarAt n (k + 1) (acc ++ [q % 128 + 128]) (q / 128)) := varAt_next hat hn1 hlt
      clear hat
      go_wp2_with (first | (at_builtin; refine app_byte wr rfl _ _ 59 rfl w.heap.size 5 i0 Try.underlying59 hi hz0 hz1 hz2 _ k acc (by rfl) hown' (q % 128 + 128) (by rfl) (by omega) hsz ?_))
      intro v' w2 hown2 hb2
      go_wp2
      go_roundw
      case rel => exact ⟨k + 1, acc ++ [q % 128 + 128], q / 128, HA.out, rfl, hown2, hbel'.trans hb2⟩
      case measure => simp [intOf]; omega

theorem var_impl (n : Int) (w : World) :
    Calls Try.prog 79 #[.int .i64 n] w fun e w' => e = .returned (.string (strOfNums (varL n))) ∧ Below w.heap.size w w' := by
  by_cases h : 0 ≤ n ∧ n ≤ 562949953421311
  · rw [varL_yes h.1 h.2]
    exact var_impl_yes n w h.1 h.2
  · have HV : Hid (varL n = []) := varL_no h
    by_cases h0 : 0 ≤ n
    · go_enter Try.func79, Try.ntmps79
      go_wp2
      go_ret
      exact ⟨ret_str (by rw [HV.out]; rfl), Below.refl _ _⟩
    · go_enter Try.func79, Try.ntmps79
      go_wp2
      go_ret
      exact ⟨ret_str (by rw [HV.out]; rfl), Below.refl _ _⟩

set_option maxRecDepth 100000 in
set_option maxHeartbeats 800000 in
theorem var_spec_yes (n : Int) (w : World) (hn0 : 0 ≤ n) (hn1 : n ≤ 562949953421311) :
    Calls Try.prog 144 #[.int .i64 n] w fun e w' => e = .returned (.string (strOfNums (vl 6 n))) ∧ Below w.heap.size w w' := by
  obtain ⟨i0, hi, hz0, hz1, hz2⟩ := info_parts Try.infoByte
  have hin := inB_yes hn0 hn1
  go_enter Try.func144, Try.ntmps144
  go_wp2_with (first | (go_at_call 120; refine (l1In_any _ _ _ _).mono ?_; rintro e w' ⟨rfl, rfl⟩))
  go_loopw [0, 3] (fun a v wr => ∃ (k : Nat) (acc : List Int) (q : Int), VarAt n k acc q ∧ a = .int .i64 q ∧ OwnB wr w'.heap.size 5 v k acc ∧ Below w'.heap.size w' wr) (fun a _ _ => (intOf a).toNat)
  case atStart => exact ⟨0, [], n, varAt_start n hn0, rfl, World.ownsRow_lit w' #[] 0 (Nat.le_refl _) (by unfold maxLen; omega) rfl, (Below.refl _ _).alloc (Nat.le_refl _) _⟩
  case round =>
    obtain ⟨k, acc, q, hat, rfl, hown', hbel'⟩ := hrel
    have hq0 : 0 ≤ q := hat.2.2.1
    have hqn : q ≤ n := hat.2.2.2.1
    have hk6 : k ≤ 6 := hat.1
    have hsz := hbel'.size
    by_cases hlt : q < 128
    · have HE : Hid (acc ++ [q] = vl 6 n) := varAt_end hat hlt
      clear hat
      go_wp2_with (first | (at_builtin; refine app_byte wr rfl _ _ 59 rfl w'.heap.size 5 i0 Try.underlying59 hi hz0 hz1 hz2 _ k acc (by rfl) hown' q (by rfl) (by omega) hsz ?_))
      intro v' w2 hown2 hb2
      rw [HE.out] at hown2
      have hst := run_string_own (P := Try.prog) (src := 59) (dst := 9) Try.underlying59 Try.underlying5 Try.underlying9 hown2
      go_wp2
      go_ret
      exact ⟨rfl, hbel'.trans hb2⟩
    · have hk := varAt_lt hat hn1 hlt
      have HA : Hid (VarAt n (k + 1) (acc ++ [128 + q % 128]) (q / 128)) := by rw [show 128 + q % 128 = q % 128 + 128 from by omega]; exact varAt_next hat hn1 hlt
      clear hat
      go_wp2_with (first | (at_builtin; refine app_byte wr rfl _ _ 59 rfl w'.heap.size 5 i0 Try.underlying59 hi hz0 hz1 hz2 _ k acc (by rfl) hown' (128 + q % 128) (by rfl) (by omega) hsz ?_))
      intro v' w2 hown2 hb2
      go_wp2
      go_roundw
      case rel => exact ⟨k + 1, acc ++ [128 + q % 128], q / 128, HA.out, rfl, hown2, hbel'.trans hb2⟩
      case measure => simp [intOf]; omega

theorem var_spec (n : Int) (w : World) :
    Calls Try.prog 144 #[.int .i64 n] w fun e w' => e = .returned (.string (strOfNums (varL n))) ∧ Below w.heap.size w w' := by
  by_cases h : 0 ≤ n ∧ n ≤ 562949953421311
  · rw [varL_yes h.1 h.2]
    exact var_spec_yes n w h.1 h.2
  · have HV : Hid (varL n = []) := varL_no h
    have hin := inB_no h
    go_enter Try.func144, Try.ntmps144
    go_wp2_with (first | (go_at_call 120; refine (l1In_any _ _ _ _).mono ?_; rintro e w' ⟨rfl, rfl⟩))
    go_ret
    exact ⟨ret_str (by rw [HV.out]; rfl), Below.refl _ _⟩
end Go.Proofs.Ytdbpknmoacjodaa
namespace Go.Proofs.Ytdbpknmoacjodaa
open Go.RowKit Go.PlainAid Go.Sort

theorem piece_spec (s : ByteArray) (w : World) (_ : s.size ≤ 1048576) :
    Calls Try.prog 145 #[.string s] w fun e w' => e = .returned (.string (pieceS s)) ∧ Below w.heap.size w w' := by
  have hv := var_size (s.size : Int)
  have hz : (strOfNums (varL (s.size : Int)) ++ s).size ≤ 2000000 := by rw [ByteArray.size_append]; omega
  go_enter Try.func145, Try.ntmps145
  go_wp2_with fail
  refine (var_spec _ _).mono ?_
  rintro e w1 ⟨rfl, hb⟩
  go_wp2
  go_ret
  exact ⟨rfl, hb⟩
set_option maxRecDepth 100000 in
set_option maxHeartbeats 3200000 in
theorem showFiles_specC (g len cap : Nat) (Pt Tx : Nat → ByteArray) (w : World) (hf : FilesAt w (some ⟨g, 0, none⟩) g 0 len Pt Tx) (hl : len ≤ 1048576) (hp : ∀ j, j < len → (Pt j).size ≤ 1048576) (ht : ∀ j, j < len → (Tx j).size ≤ 1048576) :
    Calls Try.prog 84 #[.slice (some ⟨g, 0, none⟩) len cap] w fun e w' => e = .returned (.string (showS len Pt Tx)) ∧ Below w.heap.size w w' := by
  cases hfb : filesB len Pt Tx with
  | false =>
    have HV : Hid (showS len Pt Tx = { data := #[] }) := by show showS len Pt Tx = _; rw [showS, hfb]; rfl
    go_enter Try.func84, Try.ntmps84
    go_wp2_with fail
    refine (filesOk_specC g len cap Pt Tx _ hf hl hp ht).mono ?_
    rintro e w1 ⟨rfl, hb1⟩
    rw [hfb]
    go_wp2
    go_ret
    exact ⟨ret_str HV.out.symm, hb1⟩
  | true =>
    have HV : Hid (showS len Pt Tx = showTo (headF len) Pt Tx len) := by show showS len Pt Tx = _; rw [showS, hfb]; rfl
    have hsm := files_small hfb
    have HSZ := hidU (showTo_size hfb (headF len))
    have hhd := head_size len
    have hv := var_size (len : Int)
    go_enter Try.func84, Try.ntmps84
    go_wp2_with fail
    refine (filesOk_specC g len cap Pt Tx _ hf hl hp ht).mono ?_
    rintro e w1 ⟨rfl, hb1⟩
    rw [hfb]
    have B1 := hidU hb1
    have F1 := hidU (hf.later hb1)
    clear hb1
    go_wp2_with fail
    refine (var_spec _ _).mono ?_
    rintro e w2 ⟨rfl, hb2⟩
    have B2 := hidU (B1.out.trans (hb2.mono B1.out.size))
    have F2 := hidU (F1.out.later hb2)
    have hz1 : (({ data := #[102] } : ByteArray) ++ strOfNums (varL (len : Int))).size ≤ 8 := hhd
    clear hb2 B1 F1
    go_wp2
    go_loopw [3, 4] (fun s i wr => ∃ (k : Nat), k ≤ len ∧ i = .int .i64 k ∧ s = .string (showTo (headF len) Pt Tx k) ∧ Below w2.heap.size w2 wr) (fun _ i _ => (len - intOf i).toNat)
    case atStart => exact ⟨0, by omega, rfl, rfl, Below.refl _ _⟩
    case round =>
      obtain ⟨k, hk, rfl, rfl, hb⟩ := hrel
      by_cases hlt : k < len
      · have hf' := F2.out.later hb
        have c0 := hf'.path k hlt
        have c1 := hf'.text k hlt
        rw [Nat.zero_add] at c0 c1
        have C0 := hidU c0
        have C1 := hidU c1
        have hz := HSZ.out k hk
        obtain ⟨hp1, ht1⟩ := hsm.2 k hlt
        have zp := piece_size (Pt k)
        have zt := piece_size (Tx k)
        have HN : Hid (showTo (headF len) Pt Tx (k + 1) = showTo (headF len) Pt Tx k ++ pieceS (Pt k) ++ pieceS (Tx k)) := rfl
        generalize showTo (headF len) Pt Tx k = T at hz HN
        have y1 : (T ++ pieceS (Pt k)).size ≤ 100000 := by rw [ByteArray.size_append]; omega
        have y2 : (T ++ pieceS (Pt k) ++ pieceS (Tx k)).size ≤ 100000 := by rw [ByteArray.size_append, ByteArray.size_append]; omega
        have cP : ∀ d os, Calls Try.prog 145 #[.string (Pt k)] (grow (redrawn wr d) os) fun e w'' => e = .returned (.string (pieceS (Pt k))) ∧ ∃ p : Regrown, w'' = grow (redrawn wr p.d) p.os := fun d os => Calls.regrown_of (piece_spec _ _ (by omega))
        have cT : ∀ d os, Calls Try.prog 145 #[.string (Tx k)] (grow (redrawn wr d) os) fun e w'' => e = .returned (.string (pieceS (Tx k))) ∧ ∃ p : Regrown, w'' = grow (redrawn wr p.d) p.os := fun d os => Calls.regrown_of (piece_spec _ _ (by omega))
        clear c0 c1
        go_wp2
        have k0 := cell_regrown C0.out
        have k1 := cell_regrown C1.out
        refine wp_region_quiet_below (by kernel_rfl) (by kernel_rfl) ?_
        repeat (go_big_quiet_step (first | with_reducible exact cP _ _ | with_reducible exact cT _ _))
        refine wpQuiet_nil ?_
        intro _ hw'
        obtain ⟨⟨dq, osq⟩, hw''⟩ := hw'
        subst hw''
        have hbE := hb.trans ((below_regrown wr dq osq).mono hb.size)
        go_wp2
        go_roundw
        case rel => exact ⟨k + 1, hlt, by go_num, by rw [HN.out], hbE⟩
        case measure => simp [intOf]; omega
      · obtain rfl : k = len := by omega
        go_wp2
        go_ret
        exact ⟨ret_str HV.out.symm, B2.out.trans (hb.mono B2.out.size)⟩
end Go.Proofs.Ytdbpknmoacjodaa
namespace Go.Proofs.Ytdbpknmoacjodaa
open Go.RowKit Go.PlainAid

set_option maxHeartbeats 1600000 in
theorem readVar_impl (s : ByteArray) (w : World) (_ : s.size ≤ 9223372036854775807) :
    Calls Try.prog 76 #[.string s] w fun e w' => e = .returned (.tuple #[.int .i64 (rvAns s).1, .int .i64 (rvAns s).2]) ∧ w' = w := by
  by_cases h7 : (7 : Int) < s.size
  · go_enter Try.func76, Try.ntmps76
    go_wp2
    go_loop [4, 5, 9] (fun t _ i => ∃ k : Nat, k ≤ 7 ∧ k ≤ s.size ∧ i = .int .i64 k ∧ t = .int .i64 (rv s k) ∧ rvGo s (7 - k) k = rvAns s) (fun _ _ i => (7 - intOf i).toNat)
    case atStart => exact ⟨0, by omega, by omega, rfl, rfl, rfl⟩
    case round =>
      obtain ⟨k, hk, hk2, rfl, rfl, hgo⟩ := hrel
      have HG : Hid (rvGo s (7 - k) k = rvAns s) := hgo
      clear hgo
      by_cases hlt : k < s.size ∧ k < 7
      · obtain ⟨hl1, hl2⟩ := hlt
        have hb0 := bt_nonneg s k
        have hb1 := bt_le s k
        have hb := get_bt s
        have ho := or_term s k hl2
        by_cases h128 : 128 ≤ bt s k
        · have HN : Hid (rvGo s (7 - (k + 1)) (k + 1) = rvAns s) := (rvGo_on s k hl2 hl1 h128).symm.trans HG.out
          go_wp2
          go_round
          case rel => exact ⟨k + 1, by omega, by omega, by go_num, rfl, HN.out⟩
          case measure => simp [intOf]; omega
        · by_cases hz : (bt s k == 0) = true
          · by_cases hk0 : 0 < k
            · have HA : Hid (rvAns s = (0, 0)) := HG.out.symm.trans (rvGo_none s k hl2 hl1 h128 ⟨by simpa using hz, hk0⟩)
              go_wp2
              go_ret2
              exact ⟨ret_int_int (by rw [HA.out]) (by rw [HA.out]), rfl⟩
            · have HA : Hid (rvAns s = (rv s (k + 1), (k : Int) + 1)) := HG.out.symm.trans (rvGo_is s k hl2 hl1 h128 (fun h => hk0 h.2))
              go_wp2
              go_ret2
              exact ⟨ret_int_int (by rw [HA.out]) (by rw [HA.out]), rfl⟩
          · have HA : Hid (rvAns s = (rv s (k + 1), (k : Int) + 1)) := HG.out.symm.trans (rvGo_is s k hl2 hl1 h128 (fun h => hz (by simpa using h.1)))
            have hz' : (bt s k == 0) = false := by simpa using hz
            clear hz
            go_wp2
            go_ret2
            exact ⟨ret_int_int (by rw [HA.out]) (by rw [HA.out]), rfl⟩
      · have HA : Hid (rvAns s = (0, 0)) := HG.out.symm.trans (rvGo_end s k hlt)
        go_wp2
        go_ret2
        exact ⟨ret_int_int (by rw [HA.out]) (by rw [HA.out]), rfl⟩
  · go_enter Try.func76, Try.ntmps76
    go_wp2
    go_loop [4, 5, 9] (fun t _ i => ∃ k : Nat, k ≤ 7 ∧ k ≤ s.size ∧ i = .int .i64 k ∧ t = .int .i64 (rv s k) ∧ rvGo s (7 - k) k = rvAns s) (fun _ _ i => (7 - intOf i).toNat)
    case atStart => exact ⟨0, by omega, by omega, rfl, rfl, rfl⟩
    case round =>
      obtain ⟨k, hk, hk2, rfl, rfl, hgo⟩ := hrel
      have HG : Hid (rvGo s (7 - k) k = rvAns s) := hgo
      clear hgo
      by_cases hlt : k < s.size ∧ k < 7
      · obtain ⟨hl1, hl2⟩ := hlt
        have hb0 := bt_nonneg s k
        have hb1 := bt_le s k
        have hb := get_bt s
        have ho := or_term s k hl2
        by_cases h128 : 128 ≤ bt s k
        · have HN : Hid (rvGo s (7 - (k + 1)) (k + 1) = rvAns s) := (rvGo_on s k hl2 hl1 h128).symm.trans HG.out
          go_wp2
          go_round
          case rel => exact ⟨k + 1, by omega, by omega, by go_num, rfl, HN.out⟩
          case measure => simp [intOf]; omega
        · by_cases hz : (bt s k == 0) = true
          · by_cases hk0 : 0 < k
            · have HA : Hid (rvAns s = (0, 0)) := HG.out.symm.trans (rvGo_none s k hl2 hl1 h128 ⟨by simpa using hz, hk0⟩)
              go_wp2
              go_ret2
              exact ⟨ret_int_int (by rw [HA.out]) (by rw [HA.out]), rfl⟩
            · have HA : Hid (rvAns s = (rv s (k + 1), (k : Int) + 1)) := HG.out.symm.trans (rvGo_is s k hl2 hl1 h128 (fun h => hk0 h.2))
              go_wp2
              go_ret2
              exact ⟨ret_int_int (by rw [HA.out]) (by rw [HA.out]), rfl⟩
          · have HA : Hid (rvAns s = (rv s (k + 1), (k : Int) + 1)) := HG.out.symm.trans (rvGo_is s k hl2 hl1 h128 (fun h => hz (by simpa using h.1)))
            have hz' : (bt s k == 0) = false := by simpa using hz
            clear hz
            go_wp2
            go_ret2
            exact ⟨ret_int_int (by rw [HA.out]) (by rw [HA.out]), rfl⟩
      · have HA : Hid (rvAns s = (0, 0)) := HG.out.symm.trans (rvGo_end s k hlt)
        go_wp2
        go_ret2
        exact ⟨ret_int_int (by rw [HA.out]) (by rw [HA.out]), rfl⟩

def RvAt (s : ByteArray) (i : Nat) : Prop := ((∀ j, j < i → 128 ≤ bt s j) ∧ rvGo s (7 - i) i = rvAns s) ∨ (rvAns s = (0, 0) ∧ ∃ j, j < i ∧ bt s j < 128)
theorem rvAt_yes {s : ByteArray} {i : Nat} (h : RvAt s i) (hi : i < 7) (hs : i < s.size) (hc : Can s 0 (i + 1)) : rvAns s = (rv s (i + 1), (i : Int) + 1) := by
  rw [can_iff] at hc
  simp only [Nat.zero_add] at hc
  obtain ⟨c1, c2, c3⟩ := hc
  rcases h with ⟨_, hg⟩ | ⟨_, j, hj, hb⟩
  · rw [← hg]
    exact rvGo_is s i hi hs (by omega) (by omega)
  · have := c1 j hj
    omega
theorem rvAt_next {s : ByteArray} {i : Nat} (h : RvAt s i) (hi : i < 7) (hs : i < s.size) (hc : ¬ Can s 0 (i + 1)) : RvAt s (i + 1) := by
  rw [can_iff] at hc
  simp only [Nat.zero_add] at hc
  rcases h with ⟨ha, hg⟩ | ⟨h0, j, hj, hb⟩
  · by_cases h128 : 128 ≤ bt s i
    · refine .inl ⟨fun j hj => ?_, (rvGo_on s i hi hs h128).symm.trans hg⟩
      by_cases e : j = i
      · rw [e]; exact h128
      · exact ha j (by omega)
    · refine .inr ⟨?_, i, by omega, by omega⟩
      rw [← hg]
      refine rvGo_none s i hi hs h128 ?_
      rcases Classical.em (i = 0 ∨ bt s i ≠ 0) with k | k
      · exact absurd ⟨ha, by omega, k⟩ hc
      · omega
  · exact .inr ⟨h0, j, by omega, hb⟩
theorem rvAt_end {s : ByteArray} {i : Nat} (h : RvAt s i) (he : ¬ (i < s.size ∧ i < 7)) : rvAns s = (0, 0) := by
  rcases h with ⟨_, hg⟩ | ⟨h0, _⟩
  · rw [← hg]; exact rvGo_end s i he
  · exact h0

set_option maxHeartbeats 1600000 in
theorem readVar_spec (s : ByteArray) (w : World) (_ : s.size ≤ 9223372036854775807) :
    Calls Try.prog 150 #[.string s] w fun e w' => e = .returned (.tuple #[.int .i64 (rvAns s).1, .int .i64 (rvAns s).2]) ∧ Below w.heap.size w w' := by
  go_enter Try.func150, Try.ntmps150
  go_wp2
  go_loopw [4, 5, 6] (fun kk _ _ wr => ∃ i : Nat, i ≤ 7 ∧ i ≤ s.size ∧ kk = .int .i64 ((i : Int) + 1) ∧ RvAt s i ∧ Below w.heap.size w wr) (fun kk _ _ _ => (8 - intOf kk).toNat)
  case atStart => exact ⟨0, by omega, by omega, rfl, .inl ⟨fun j hj => by omega, rfl⟩, Below.refl _ _⟩
  case round =>
    obtain ⟨i, hi, hi2, rfl, hat, hbel⟩ := hrel
    have HAT : Hid (RvAt s i) := hat
    clear hat
    by_cases hlt : i < s.size ∧ i < 7
    · obtain ⟨hl1, hl2⟩ := hlt
      go_wp2
      go_loopw [5, 6] (fun t z wq => wq = wr ∧ ∃ j : Nat, j ≤ i + 1 ∧ z = .int .i64 ((j : Int) - 1) ∧ t = .int .i64 (hvm s j (i + 1 - j))) (fun _ z _ => (intOf z + 1).toNat)
      case atStart => exact ⟨rfl, i + 1, by omega, by go_num, by rw [Nat.sub_self]; rfl⟩
      case round =>
        obtain ⟨rfl, j, hj, rfl, rfl⟩ := hrel
        match j, hj with
        | j + 1, hj =>
          have ez : ((j + 1 : Nat) : Int) - 1 = (j : Int) := by omega
          rw [ez]
          have hb0 := bt_nonneg s j
          have hb1 := bt_le s j
          have hb := get_bt s
          have hh := hvm_bd s (j + 1) (i - j) (by omega)
          have HS : Hid (hvm s j (i + 1 - j) = hvm s (j + 1) (i - j) * 128 + bt s j % 128) := by
            show hvm s j (i + 1 - j) = _
            rw [show i + 1 - j = (i - j) + 1 from by omega, hvm]
            omega
          go_wp2
          go_roundw
          case rel => exact ⟨trivial, j, by omega, rfl, by rw [HS.out]⟩
          case measure => simp [intOf]
        | 0, _ =>
          simp only [Nat.sub_zero]
          have hh := hvm_bd s 0 (i + 1) (by omega)
          have hl3 : (i : Int) + 1 ≤ s.size := by omega
          have hl4 : (0 : Int) ≤ (i : Int) + 1 := by omega
          by_cases hc : Can s 0 (i + 1)
          · have HA : Hid (rvAns s = (rv s (i + 1), (i : Int) + 1)) := rvAt_yes HAT.out hl2 hl1 hc
            have hq : ((strOfNums (varL (hvm s 0 (i + 1)))).toList == (s.extract 0 (i + 1)).toList) = true := (toList_eq_iff _ _).2 ((same_iff s i hl2 (by omega)).2 hc)
            clear hc
            go_wp2
            go_region_law (go_simp; go_wp2_with (go_at_call 144; refine (var_spec _ _).mono ?_; rintro e w' ⟨rfl, hb1⟩))
            all_goals
              go_wp2
              go_ret2
              exact ⟨ret_int_int (by rw [HA.out]; rfl) (by rw [HA.out]), hbel.drew.trans (hb1.mono hbel.size)⟩
          · have HN : Hid (RvAt s (i + 1)) := rvAt_next HAT.out hl2 hl1 hc
            have hq : ((strOfNums (varL (hvm s 0 (i + 1)))).toList == (s.extract 0 (i + 1)).toList) = false := toList_ne (fun h => hc ((same_iff s i hl2 (by omega)).1 h))
            clear hc
            go_wp2
            go_region_law (go_simp; go_wp2_with (go_at_call 144; refine (var_spec _ _).mono ?_; rintro e w' ⟨rfl, hb1⟩))
            all_goals
              go_wp2
              go_roundw
              case rel => exact ⟨i + 1, by omega, by omega, by go_num, HN.out, hbel.drew.trans (hb1.mono hbel.size)⟩
              case measure => simp [intOf]; omega
    · have HA : Hid (rvAns s = (0, 0)) := rvAt_end HAT.out hlt
      by_cases h7 : i < 7
      all_goals
        go_wp2
        go_ret2
        exact ⟨ret_int_int (by rw [HA.out]) (by rw [HA.out]), hbel⟩
end Go.Proofs.Ytdbpknmoacjodaa
