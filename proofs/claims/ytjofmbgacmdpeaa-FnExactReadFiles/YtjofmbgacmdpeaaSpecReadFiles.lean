/-
  What spec.ReadFiles answers: the walk.
-/
import Derived.Test.YtjofmbgacmdpeaaSpecTake
import Derived.Test.YtjofmbgacmdpeaaSpecShow
import Derived.Test.YtjofmbgacmdpeaaLawFiles
namespace Go.Proofs.Ytjofmbgacmdpeaa
open Go.RowKit Go.PlainAid Go.Sort

def ReadOut (s : ByteArray) (w : World) (e : Ending) (w' : World) : Prop := Below w.heap.size w w' ∧ ∃ g n cap, e = .returned (.tuple #[.slice (some ⟨g, 0, none⟩) n cap, .bool (readS s).2]) ∧ OwnFl w' w.heap.size 33 g n cap (readS s).1
theorem read_none {s : ByteArray} {w w' : World} {g : Nat} (h : readS s = ([], false)) (hb : Below w.heap.size w w') (ho : OwnFl w' w.heap.size 33 g 0 0 []) : ReadOut s w (.returned (.tuple #[.slice (some ⟨g, 0, none⟩) 0 0, .bool false])) w' := ⟨hb, g, 0, 0, by rw [h], by rw [h]; exact ho⟩
theorem ownFl_low2 {w : World} {base b g n cap : Nat} {e : TypeId} {fs : List Fl} (h : OwnFl w base e g n cap fs) (hb : b ≤ base) : OwnFl w b e g n cap fs := by
  refine ⟨⟨h.1.1, ?_⟩, h.2⟩
  rcases h.1.2 with ⟨h', _⟩ | ⟨g', cap', cur, h', hbs, hg, hr⟩
  · simp at h'
  · exact .inr ⟨g', cap', cur, h', Nat.le_trans hb hbs, hg, hr⟩
set_option maxRecDepth 100000 in
set_option maxHeartbeats 6400000 in
theorem readFiles_spec (s : ByteArray) (w : World) (hs : s.size ≤ 1048576) : Calls Try.prog 16 #[.string s] w (ReadOut s w) := by
  obtain ⟨i0, hi, hz0, hz1, hz2⟩ := info_parts Try.infoFile
  have O0 := hidU (ownFl_nil w 33)
  have B0 : Hid (Below w.heap.size w (w.alloc (.cells #[] 33))) := (Below.refl _ _).alloc (Nat.le_refl _) _
  cases hv : varAt1 s 1 with
  | none =>
    have HV : Hid (readS s = ([], false)) := by show readS s = _; rw [readS, hv]
    go_enter Try.func16, Try.ntmps16
    go_wp2_with fail
    refine (l12Vars_one s 1 _ hs (by omega) (by omega)).mono ?_
    rintro e w1 ⟨hb1, g, n, cap, hm⟩
    rw [hv] at hm
    obtain rfl := hm
    clear hv
    go_wp2
    go_ret2
    exact read_none HV.out (B0.out.trans (hb1.mono B0.out.size)) (ownFl_later O0.out hb1)
  | some r =>
    obtain ⟨x, k⟩ := r
    obtain ⟨hx0, hx1, hk0, hk1⟩ := varAt1_bd hv
    obtain ⟨N, rfl⟩ : ∃ N : Nat, x = (N : Int) := ⟨x.toNat, by omega⟩
    by_cases h8 : 8 < N
    · have HV : Hid (readS s = ([], false)) := by show readS s = _; rw [readS, hv]; simp only; rw [if_pos (by omega)]
      have q8 : decide ((8 : Int) < (N : Int)) = true := decide_eq_true (by omega)
      go_enter Try.func16, Try.ntmps16
      go_wp2_with fail
      refine (l12Vars_one s 1 _ hs (by omega) (by omega)).mono ?_
      rintro e w1 ⟨hb1, g, n, cap, hm⟩
      rw [hv] at hm
      obtain ⟨rfl, hc, hg⟩ := hm
      simp only at hc
      clear hv
      go_wp2
      go_ret2
      exact read_none HV.out (B0.out.trans (hb1.mono B0.out.size)) (ownFl_later O0.out hb1)
    · have q8 : decide ((8 : Int) < (N : Int)) = false := decide_eq_false (by omega)
      have HV : Hid (readS s = match readTo s N k [] with
          | none => ([], false)
          | some F => if (showS F.length (ptOf F) (txOf F)).toList == s.toList then (F, true) else ([], false)) := by
        show readS s = _
        rw [readS, hv]
        simp only
        rw [if_neg (by omega), Int.toNat_natCast]
        cases readTo s N k [] <;> rfl
      go_enter Try.func16, Try.ntmps16
      go_wp2_with fail
      refine (l12Vars_one s 1 _ hs (by omega) (by omega)).mono ?_
      rintro e w1 ⟨hb1, gn, n, cap, hm⟩
      rw [hv] at hm
      obtain ⟨rfl, hc, hg⟩ := hm
      simp only at hc
      have O1 := hidU (ownFl_later O0.out hb1)
      have B1 := hidU (B0.out.trans (hb1.mono B0.out.size))
      have hne : w.heap.size ≠ gn := by
        intro e
        have h1 := (hb1.cell (p := ⟨w.heap.size, 0, none⟩) (by show w.heap.size < (w.heap.push _).size; simp))
        rw [e] at h1
        rw [hc, ← e, World.cell?_alloc_new] at h1
        simp at h1
      have C1 := hidU hc
      have G1 := hidU hg
      have H8 := hidU h8
      clear hv hb1 O0 B0 h8
      go_wp2
      clear hc hg
      go_loopw [4, 6, 7, 8, 9, 10] (fun o a i _ _ _ wr => ∃ (j : Nat) (at_ : Int) (g cap : Nat) (out : List Fl), j ≤ N ∧ i = .int .i64 j ∧ a = .int .i64 at_ ∧ o = .slice (some ⟨g, 0, none⟩) j cap ∧ (-1 ≤ at_ ∧ at_ ≤ s.size) ∧ readTo s N k [] = readTo s (N - j) at_ out ∧ OwnFl wr w.heap.size 33 g j cap out ∧ (∀ y ∈ out, y.1.size ≤ 1048576 ∧ y.2.size ≤ 1048576) ∧ wr.cell? ⟨gn, 0, none⟩ = some (.int .i64 (N : Int)) ∧ gn < wr.heap.size ∧ g ≠ gn ∧ Below w.heap.size w wr) (fun _ _ i _ _ _ _ => (N - intOf i).toNat)
      case atStart => exact ⟨0, k, w.heap.size, 0, [], Nat.zero_le _, rfl, rfl, rfl, ⟨by omega, by omega⟩, rfl, O1.out, (fun y hy => by cases hy), C1.out, G1.out, hne, B1.out⟩
      case round =>
        obtain ⟨j, a, g, cap, out, hj, rfl, rfl, rfl, ⟨ha0, ha1⟩, hrd, ho, hsz, hc, hg, hgn, hb⟩ := hrel
        have HR := hidU hrd
        have O2 := hidU ho
        have S2 := hidU hsz
        have C2 := hidU hc
        have B2 := hidU hb
        clear hrd hsz
        by_cases hlt : j < N
        · have hN8 : N ≤ 8 := by have := H8.out; omega
          have t1 := takeS_bd s a
          have t2 := takeS_bd s (takeS s a).2
          have HT : Hid (readTo s (N - j) a out = if (takeS s (takeS s a).2).2 < 0 then none else readTo s (N - (j + 1)) (takeS s (takeS s a).2).2 (out ++ [((takeS s a).1, (takeS s (takeS s a).2).1)])) := by
            show _ = _
            rw [show N - j = (N - (j + 1)) + 1 from by omega]
            rfl
          clear ho hb
          go_wp2_with fail
          refine (l12Take_spec s a wr hs ha0 (by omega)).mono ?_
          rintro e w3 ⟨rfl, hb3⟩
          have O3 := hidU (ownFl_later O2.out hb3)
          have C3 := hidU ((hb3.cell hg).trans C2.out)
          have B3 := hidU (B2.out.trans (hb3.mono B2.out.size))
          have hg3 := Nat.lt_of_lt_of_le hg hb3.size
          clear hb3 hc C2 O2 B2
          generalize takeS s a = r1 at t1 t2 HT ⊢
          obtain ⟨p1, e1⟩ := r1
          simp only at t1 t2 HT ⊢
          go_wp2_with fail
          refine (l12Take_spec s e1 w3 hs (by omega) (by omega)).mono ?_
          rintro e w4 ⟨rfl, hb4⟩
          have O4 := hidU (ownFl_later O3.out hb4)
          have C4 := hidU ((hb4.cell hg3).trans C3.out)
          have B4 := hidU (B3.out.trans (hb4.mono B3.out.size))
          have hg4 := Nat.lt_of_lt_of_le hg3 hb4.size
          clear hb4 C3 O3 B3 hg hg3
          generalize takeS s e1 = r2 at t2 HT ⊢
          obtain ⟨p2, e2⟩ := r2
          simp only at t2 HT ⊢
          by_cases hneg : e2 < 0
          · have HE : Hid (readS s = ([], false)) := by
              show _ = _
              rw [HV.out, HR.out, HT.out, if_pos hneg]
            go_wp2
            go_ret2
            exact read_none HE.out (B4.out.alloc B4.out.size _) (ownFl_low2 (ownFl_nil w4 _) B4.out.size)
          · have HE : Hid (readTo s N k [] = readTo s (N - (j + 1)) e2 (out ++ [(p1, p2)])) := by
              show _ = _
              rw [HR.out, HT.out, if_neg hneg]
            go_wp2_with (at_builtin; refine app_file w4 rfl _ _ 24 rfl w.heap.size 33 i0 _ Try.underlying24 hi hz0 hz1 hz2 rfl g j cap _ (by rfl) O4.out (p1, p2) (by rfl) (by omega) ?_; intro g5 cap5 w5 ho5 hg5 hat5)
            go_roundw
            case rel =>
              refine ⟨j + 1, e2, g5, cap5, out ++ [(p1, p2)], hlt, by go_num, rfl, rfl, ⟨by omega, by omega⟩, HE.out, ho5, fun y hy => ?_, ?_, Nat.lt_of_lt_of_le hg4 hg5.size, by omega, B4.out.grown hg5 B4.out.size (fun q hq => by cases hq; exact (ownFl_blk O4.out).1)⟩
              · rcases List.mem_append.1 hy with hy | hy
                · exact S2.out y hy
                · rw [List.mem_singleton] at hy
                  rw [hy]
                  exact ⟨by simp only; omega, by simp only; omega⟩
              · have hbk := hg5.block gn hg4 (fun e => hgn (Option.some.inj e).symm)
                have h5 := C4.out
                unfold World.cell? at h5 ⊢
                rw [hbk]
                exact h5
            case measure => simp [intOf]; omega
        · have HE : Hid (readTo s N k [] = some out) := by
            show _ = _
            rw [HR.out, show N - j = 0 from by omega]
            rfl
          have HJ := hidU ho.2
          have hsz2 : ∀ i, i < j → (ptOf out i).size ≤ 1048576 ∧ (txOf out i).size ≤ 1048576 := fun i hi' => by
            have hj' : i < out.length := by rw [← HJ.out]; exact hi'
            refine S2.out (out.getD i flNo) ?_
            rw [List.getD, List.getElem?_eq_getElem hj']
            exact List.getElem_mem hj'
          clear ho hb
          go_wp2_with fail
          refine (showFiles_specC g j cap (ptOf out) (txOf out) wr (ownFl_files O2.out) (by have := H8.out; omega) (fun i hi' => (hsz2 i hi').1) (fun i hi' => (hsz2 i hi').2)).mono ?_
          rintro e w3 ⟨rfl, hb3⟩
          have O3 := hidU (ownFl_later O2.out hb3)
          have B3 := hidU (B2.out.trans (hb3.mono B2.out.size))
          clear hb3 hsz2 hc
          cases heq : (showS j (ptOf out) (txOf out)).toList == s.toList with
          | true =>
            have heq2 : (!((showS j (ptOf out) (txOf out)).toList == s.toList)) = false := by rw [heq]; rfl
            have HF : Hid (readS s = (out, true)) := by
              show _ = _
              rw [HV.out, HE.out]
              simp only
              rw [← HJ.out, heq]
              rfl
            go_wp2
            go_ret2
            exact ⟨B3.out, g, j, cap, by show Ending.returned (.tuple #[.slice (some ⟨g, 0, none⟩) j cap, .bool true]) = _; rw [HF.out], by rw [HF.out]; exact O3.out⟩
          | false =>
            have heq2 : (!((showS j (ptOf out) (txOf out)).toList == s.toList)) = true := by rw [heq]; rfl
            have HF : Hid (readS s = ([], false)) := by
              show _ = _
              rw [HV.out, HE.out]
              simp only
              rw [← HJ.out, heq]
              rfl
            go_wp2
            go_ret2
            exact read_none HF.out (B3.out.alloc B3.out.size _) (ownFl_low2 (ownFl_nil w3 _) B3.out.size)
end Go.Proofs.Ytjofmbgacmdpeaa
