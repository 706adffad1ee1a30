/-
  What spec.DropFile answers: the walk.
-/
import Derived.Test.YtjofmbgacmdpeaaFilesMath
import Derived.Test.YtjofmbgacmdpeaaSpecFiles
import Derived.Test.YtjofmbgacmdpeaaLawFiles
import Derived.Deep.CutBlock
namespace Go.Proofs.Ytjofmbgacmdpeaa
open Go.RowKit Go.PlainAid Go.Sort

theorem filter_take {α : Type} (p : α → Bool) {l : List α} {j : Nat} {x : α} (h : l[j]? = some x) : (l.take (j + 1)).filter p = (l.take j).filter p ++ if p x then [x] else [] := by
  obtain ⟨hj, rfl⟩ := List.getElem?_eq_some_iff.1 h
  rw [List.take_succ_eq_append_getElem hj, List.filter_append]
  congr 1
  cases hp : p l[j] <;> simp [hp]
set_option maxRecDepth 100000 in
set_option maxHeartbeats 3200000 in
theorem dropFile_spec (g len : Nat) (Pt Tx : Nat → ByteArray) (q : ByteArray) (w : World) (hf : FilesAt w (some ⟨g, 0, none⟩) g 0 len Pt Tx) (hl : len ≤ 1048576) (hp : ∀ j, j < len → (Pt j).size ≤ 1048576) (ht : ∀ j, j < len → (Tx j).size ≤ 1048576) :
    Calls Try.prog 32 #[.slice (some ⟨g, 0, none⟩) len len, .string q] w fun e w' => ∃ g' n cap, e = .returned (.tuple #[.slice (some ⟨g', 0, none⟩) n cap, .bool (dropS len Pt Tx q).2]) ∧ OwnFl w' w.heap.size 33 g' n cap (dropS len Pt Tx q).1 ∧ Below w.heap.size w w' := by
  obtain ⟨i0, hi, hz0, hz1, hz2⟩ := info_parts Try.infoFile
  have O0 := hidU (ownFl_nil w 33)
  have B0 : Hid (Below w.heap.size w (w.alloc (.cells #[] 33))) := (Below.refl _ _).alloc (Nat.le_refl _) _
  have F0 := hidU (hf.later B0.out)
  cases hfb : filesB len Pt Tx with
  | false =>
    have HV : Hid (dropS len Pt Tx q = ([], false)) := by show dropS len Pt Tx q = _; rw [dropS, hfb]; rfl
    go_enter Try.func32, Try.ntmps32
    go_wp2_with fail
    refine (filesOk_spec g len Pt Tx _ F0.out hl hp ht).mono ?_
    rintro e w1 ⟨rfl, hb1⟩
    rw [hfb]
    go_wp2
    go_ret2
    exact ⟨w.heap.size, 0, 0, by show Ending.returned (.tuple #[.slice (some ⟨w.heap.size, 0, none⟩) 0 0, .bool false]) = _; rw [HV.out], by rw [HV.out]; exact ownFl_later O0.out hb1, B0.out.trans (hb1.mono B0.out.size)⟩
  | true =>
    have hl8 : len ≤ 8 := (filesB_iff.1 hfb).1
    have HV : Hid (dropS len Pt Tx q = (dropL (flsOf len Pt Tx) q, decide ((dropL (flsOf len Pt Tx) q).length < len))) := by show dropS len Pt Tx q = _; rw [dropS, hfb]; rfl
    go_enter Try.func32, Try.ntmps32
    go_wp2_with fail
    refine (filesOk_spec g len Pt Tx _ F0.out hl hp ht).mono ?_
    rintro e w1 ⟨rfl, hb1⟩
    rw [hfb]
    have O1 := hidU (ownFl_later O0.out hb1)
    have B1 := hidU (B0.out.trans (hb1.mono B0.out.size))
    have hgw : 0 < len → g < w.heap.size := hf.lt
    have F1 := hidU hf
    clear hb1 O0 B0 F0 hf
    go_wp2
    go_loopw [6, 7] (fun o i wr => ∃ (k g' n cap : Nat), k ≤ len ∧ i = .int .i64 k ∧ o = .slice (some ⟨g', 0, none⟩) n cap ∧ OwnFl wr w.heap.size 33 g' n cap (dropL ((flsOf len Pt Tx).take k) q) ∧ Below w.heap.size w wr) (fun _ i _ => (len - intOf i).toNat)
    case atStart => exact ⟨0, w.heap.size, 0, 0, Nat.zero_le _, rfl, rfl, O1.out, B1.out⟩
    case round =>
      obtain ⟨k, g', n, cap, hk, rfl, rfl, ho, hb⟩ := hrel
      have O2 := hidU ho
      have B2 := hidU hb
      have hn : n ≤ len := by
        rw [ho.2]
        refine Nat.le_trans (List.length_filter_le ..) ?_
        rw [List.length_take, flsOf_len]
        omega
      by_cases hlt : k < len
      · have hf' := F1.out.later hb
        have c0 := hf'.path k hlt
        have c1 := hf'.text k hlt
        rw [Nat.zero_add] at c0 c1
        have HT := hidU (filter_take (keepP q) (flsOf_at (Pt := Pt) (Tx := Tx) hlt))
        have hgr : g < wr.heap.size := Nat.lt_of_lt_of_le (hgw (by omega)) hb.size
        clear hf' ho hb
        cases hq : (Pt k).toList == q.toList with
        | true =>
          have HE : Hid (dropL ((flsOf len Pt Tx).take (k + 1)) q = dropL ((flsOf len Pt Tx).take k) q) := by
            show _ = _
            rw [dropL, HT.out, keepP, hq]
            simp [dropL]
          have hq2 : (!((Pt k).toList == q.toList)) = false := by rw [hq]; rfl
          go_wp2
          go_roundw
          case rel => exact ⟨k + 1, g', n, cap, hlt, by go_num, rfl, by rw [HE.out]; exact O2.out, B2.out⟩
          case measure => simp [intOf]; omega
        | false =>
          have HE : Hid (dropL ((flsOf len Pt Tx).take (k + 1)) q = dropL ((flsOf len Pt Tx).take k) q ++ [(Pt k, Tx k)]) := by
            show _ = _
            rw [dropL, HT.out, keepP, hq]
            simp [dropL]
          have hq2 : (!((Pt k).toList == q.toList)) = true := by rw [hq]; rfl
          go_wp2_with (at_builtin; refine app_file wr rfl _ _ 24 rfl w.heap.size 33 i0 _ Try.underlying24 hi hz0 hz1 hz2 rfl g' n cap _ (by rfl) O2.out (Pt k, Tx k) (by rfl) (by omega) ?_; intro g3 cap3 w3 ho3 hg3 hat3)
          go_roundw
          case rel => exact ⟨k + 1, g3, n + 1, cap3, hlt, by go_num, rfl, by rw [HE.out]; exact ho3, B2.out.grown hg3 B2.out.size (fun j hj => by cases hj; exact (ownFl_blk O2.out).1)⟩
          case measure => simp [intOf]; omega
      · have HE : Hid (dropL ((flsOf len Pt Tx).take k) q = dropL (flsOf len Pt Tx) q) := by
          show _ = _
          rw [List.take_of_length_le (by rw [flsOf_len]; omega)]
        have HN : Hid (n = (dropL (flsOf len Pt Tx) q).length) := by
          show _ = _
          rw [← HE.out]
          exact ho.2
        clear ho hb
        go_wp2
        go_ret2
        refine ⟨g', n, cap, ?_, by rw [HV.out, ← HE.out]; exact O2.out, B2.out⟩
        rw [HV.out, ← HN.out]
        simp
theorem dropS_len (len : Nat) (Pt Tx : Nat → ByteArray) (q : ByteArray) : (dropS len Pt Tx q).1.length ≤ len := by
  unfold dropS
  split
  · exact Nat.le_trans (List.length_filter_le _ _) (by rw [flsOf_len]; exact Nat.le_refl _)
  · exact Nat.zero_le _
end Go.Proofs.Ytjofmbgacmdpeaa
