/-
  What spec.l12Piece and spec.ShowFiles answer: the walks.
-/
import Derived.Test.YtjofmbgacmdpeaaImgMath
import Derived.Test.YtjofmbgacmdpeaaSpecFiles
import Derived.Test.YtjofmbgacmdpeaaVarBoth
namespace Go.Proofs.Ytjofmbgacmdpeaa
open Go.RowKit Go.PlainAid Go.Sort

theorem piece_spec (s : ByteArray) (w : World) (_ : s.size ≤ 1048576) :
    Calls Try.prog 66 #[.string s] w fun e w' => e = .returned (.string (pieceS s)) ∧ Below w.heap.size w w' := by
  have hv := var_size (s.size : Int)
  have hz : (strOfNums (varL (s.size : Int)) ++ s).size ≤ 2000000 := by rw [ByteArray.size_append]; omega
  go_enter Try.func66, Try.ntmps66
  go_wp2_with fail
  refine (var_spec _ _).mono ?_
  rintro e w1 ⟨rfl, hb⟩
  go_wp2
  go_ret
  exact ⟨rfl, hb⟩
set_option maxRecDepth 100000 in
set_option maxHeartbeats 3200000 in
theorem showFiles_specC (g len cap : Nat) (Pt Tx : Nat → ByteArray) (w : World) (hf : FilesAt w (some ⟨g, 0, none⟩) g 0 len Pt Tx) (hl : len ≤ 1048576) (hp : ∀ j, j < len → (Pt j).size ≤ 1048576) (ht : ∀ j, j < len → (Tx j).size ≤ 1048576) :
    Calls Try.prog 24 #[.slice (some ⟨g, 0, none⟩) len cap] w fun e w' => e = .returned (.string (showS len Pt Tx)) ∧ Below w.heap.size w w' := by
  cases hfb : filesB len Pt Tx with
  | false =>
    have HV : Hid (showS len Pt Tx = { data := #[] }) := by show showS len Pt Tx = _; rw [showS, hfb]; rfl
    go_enter Try.func24, Try.ntmps24
    go_wp2_with fail
    refine (filesOk_specC g len cap Pt Tx _ hf hl hp ht).mono ?_
    rintro e w1 ⟨rfl, hb1⟩
    rw [hfb]
    go_wp2
    go_ret
    exact ⟨ret_str HV.out.symm, hb1⟩
  | true =>
    have HV : Hid (showS len Pt Tx = showTo (headF len) Pt Tx len) := by show showS len Pt Tx = _; rw [showS, hfb]; rfl
    have hsm := files_small hfb
    have HSZ := hidU (showTo_size hfb (headF len))
    have hhd := head_size len
    have hv := var_size (len : Int)
    go_enter Try.func24, Try.ntmps24
    go_wp2_with fail
    refine (filesOk_specC g len cap Pt Tx _ hf hl hp ht).mono ?_
    rintro e w1 ⟨rfl, hb1⟩
    rw [hfb]
    have B1 := hidU hb1
    have F1 := hidU (hf.later hb1)
    clear hb1
    go_wp2_with fail
    refine (var_spec _ _).mono ?_
    rintro e w2 ⟨rfl, hb2⟩
    have B2 := hidU (B1.out.trans (hb2.mono B1.out.size))
    have F2 := hidU (F1.out.later hb2)
    have hz1 : (({ data := #[102] } : ByteArray) ++ strOfNums (varL (len : Int))).size ≤ 8 := hhd
    clear hb2 B1 F1
    go_wp2
    go_loopw [3, 4] (fun s i wr => ∃ (k : Nat), k ≤ len ∧ i = .int .i64 k ∧ s = .string (showTo (headF len) Pt Tx k) ∧ Below w2.heap.size w2 wr) (fun _ i _ => (len - intOf i).toNat)
    case atStart => exact ⟨0, by omega, rfl, rfl, Below.refl _ _⟩
    case round =>
      obtain ⟨k, hk, rfl, rfl, hb⟩ := hrel
      by_cases hlt : k < len
      · have hf' := F2.out.later hb
        have c0 := hf'.path k hlt
        have c1 := hf'.text k hlt
        rw [Nat.zero_add] at c0 c1
        have C0 := hidU c0
        have C1 := hidU c1
        have hz := HSZ.out k hk
        obtain ⟨hp1, ht1⟩ := hsm.2 k hlt
        have zp := piece_size (Pt k)
        have zt := piece_size (Tx k)
        have HN : Hid (showTo (headF len) Pt Tx (k + 1) = showTo (headF len) Pt Tx k ++ pieceS (Pt k) ++ pieceS (Tx k)) := rfl
        generalize showTo (headF len) Pt Tx k = T at hz HN
        have y1 : (T ++ pieceS (Pt k)).size ≤ 100000 := by rw [ByteArray.size_append]; omega
        have y2 : (T ++ pieceS (Pt k) ++ pieceS (Tx k)).size ≤ 100000 := by rw [ByteArray.size_append, ByteArray.size_append]; omega
        have cP : ∀ d os, Calls Try.prog 66 #[.string (Pt k)] (grow (redrawn wr d) os) fun e w'' => e = .returned (.string (pieceS (Pt k))) ∧ ∃ p : Regrown, w'' = grow (redrawn wr p.d) p.os := fun d os => Calls.regrown_of (piece_spec _ _ (by omega))
        have cT : ∀ d os, Calls Try.prog 66 #[.string (Tx k)] (grow (redrawn wr d) os) fun e w'' => e = .returned (.string (pieceS (Tx k))) ∧ ∃ p : Regrown, w'' = grow (redrawn wr p.d) p.os := fun d os => Calls.regrown_of (piece_spec _ _ (by omega))
        clear c0 c1
        go_wp2
        have k0 := cell_regrown C0.out
        have k1 := cell_regrown C1.out
        refine wp_region_quiet_below (by kernel_rfl) (by kernel_rfl) ?_
        repeat (go_big_quiet_step (first | with_reducible exact cP _ _ | with_reducible exact cT _ _))
        refine wpQuiet_nil ?_
        intro _ hw'
        obtain ⟨⟨dq, osq⟩, hw''⟩ := hw'
        subst hw''
        have hbE := hb.trans ((below_regrown wr dq osq).mono hb.size)
        go_wp2
        go_roundw
        case rel => exact ⟨k + 1, hlt, by go_num, by rw [HN.out], hbE⟩
        case measure => simp [intOf]; omega
      · obtain rfl : k = len := by omega
        go_wp2
        go_ret
        exact ⟨ret_str HV.out.symm, B2.out.trans (hb.mono B2.out.size)⟩
end Go.Proofs.Ytjofmbgacmdpeaa
