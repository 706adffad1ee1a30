/-
  What spec.l7Line tells: some text, not a long one: the walk.
  The row of the type byte.
  What spec.l1In answers.
  What spec.l2Path and spec.Clean answer, at every text: the walks.
-/
import Derived.Test.YtdbpknmoacjodaaCfDrawBaseToDrawProgB
namespace Go.Proofs.Ytdbpknmoacjodaa
open Go.RowKit Go.PlainAid

abbrev fourL : Array Value := #[.string { data := #[97] }, .string { data := #[98] }, .string { data := #[99] }, .string { data := #[100] }]
def FourW (w : World) (gp : Nat) : Prop := w.heap[gp]? = some (.cells fourL 9 (0, 0))
theorem FourW.at {w : World} {gp j : Nat} (h : FourW w gp) (hj : j < 4) : ∃ x, w.cell? ⟨gp, j, none⟩ = some (.string x) ∧ x.size = 1 := by
  unfold FourW at h
  simp only [World.cell?, h]
  match j, hj with
  | 0, _ | 1, _ | 2, _ | 3, _ => exact ⟨_, rfl, rfl⟩
  | j + 4, hj => omega
theorem FourW.grown {w w' : World} {gp g : Nat} (h : FourW w gp) (k : w.grownBy w' (some g)) (hg : g ≠ gp) : FourW w' gp :=
  (k.block gp (Array.getElem?_eq_some_iff.1 h).1 (fun e => hg (Option.some.inj e).symm)).trans h
set_option maxRecDepth 100000 in
set_option maxHeartbeats 12800000 in
theorem l7Line_some (S : Src) (hS : S.ok) (g k n : Nat) (hk : k < 4) (hn0 : 1 ≤ n) (hn : n ≤ 4) (q0 : Nat × Int) (w0 : World) (hc : CurW 201 S w0 g q0) : Calls Try.prog 147 #[.pointer (some ⟨g, 0, none⟩), .int .i64 (k : Int), .int .i64 (n : Int)] w0 (StrOut S g 2000 w0) := by
  have hlt := curW_lt hc
  have HC0 := hidI (cur_alloc hc (.cells fourL 9))
  have HG0 := hidI (grown_alloc w0 (.cells fourL 9) (some g))
  have HF0 : Hid (FourW (w0.alloc (.cells fourL 9)) w0.heap.size) := heap_alloc_new w0 _
  clear hc
  go_enter Try.func147, Try.ntmps147
  go_wp2_with fail
  refine (l1Below_any S hS g q0 (n : Int) _ HC0.out (by omega)).mono ?_
  rintro e w1 ⟨rfl, hc, hg⟩
  have hbd := bw_bd S q0 (n : Int) (by omega)
  obtain ⟨k1, hk'⟩ : ∃ k : Nat, (bw S q0 (n : Int)).1 = k := ⟨(bw S q0 (n : Int)).1.toNat, by omega⟩
  obtain ⟨q1, hq⟩ : ∃ q', (bw S q0 (n : Int)).2 = q' := ⟨_, rfl⟩
  rw [hk'] at hbd ⊢
  rw [hq] at hc
  obtain ⟨xo, co, zo⟩ := (HF0.out.grown hg (Nat.ne_of_lt hlt)).at (j := k1) (by omega)
  obtain ⟨xm, cm, zm⟩ := (HF0.out.grown hg (Nat.ne_of_lt hlt)).at hk
  have HC1 := hidI hc
  have HG1 := hidI (grown_trans HG0.out hg)
  have hsz : w0.heap.size < w1.heap.size := Nat.lt_of_lt_of_le (by show _ < (w0.heap.push _).size; simp) hg.size
  clear hc hg HF0 HC0 hk' hq
  have i1 : (k1 : Int) < 4 := by omega
  have i2 : (k : Int) < 4 := by omega
  go_wp2_with fail
  refine (l1Once_any S hS g _ 25 _ HC1.out (by omega)).mono ?_
  rintro e w2 ⟨rfl, hc, hg⟩
  obtain ⟨q2, hq⟩ : ∃ q', (bw S q1 25).2 = q' := ⟨_, rfl⟩
  rw [hq] at hc
  have HC2 := hidI hc
  have HG2 := hidI (grown_trans HG1.out hg)
  clear hc hg
  clear hq
  generalize ((bw S q1 25).1 == 0) = b
  cases b with
  | false =>
    go_wp2_with fail
    refine (pick_new S hS g _ 100 [({ data := #[118] } : ByteArray) ++ xm, ({ data := #[118] } : ByteArray) ++ xm ++ ({ data := #[32, 43, 32, 49] } : ByteArray), ({ data := #[102] } : ByteArray) ++ xm ++ ({ data := #[40, 41] } : ByteArray), ({ data := #[119] } : ByteArray) ++ xm ++ ({ data := #[32, 42, 32, 50] } : ByteArray), ({ data := #[51] } : ByteArray), ({ data := #[118] } : ByteArray) ++ xm ++ ({ data := #[32, 45, 32, 102] } : ByteArray) ++ xm ++ ({ data := #[40, 41] } : ByteArray)] _ HC2.out (by simp) (by simp) (by intro x hx; simp only [List.mem_cons, List.not_mem_nil, or_false] at hx; have y0 : (({ data := #[118] } : ByteArray)).size = 1 := rfl; have y1 : (({ data := #[32, 43, 32, 49] } : ByteArray)).size = 4 := rfl; have y2 : (({ data := #[102] } : ByteArray)).size = 1 := rfl; have y3 : (({ data := #[40, 41] } : ByteArray)).size = 2 := rfl; have y4 : (({ data := #[119] } : ByteArray)).size = 1 := rfl; have y5 : (({ data := #[32, 42, 32, 50] } : ByteArray)).size = 4 := rfl; have y6 : (({ data := #[51] } : ByteArray)).size = 1 := rfl; have y7 : (({ data := #[32, 45, 32, 102] } : ByteArray)).size = 4 := rfl; rcases hx with rfl | rfl | rfl | rfl | rfl | rfl <;> simp only [ByteArray.size_append, y0, y1, y2, y3, y4, y5, y6, y7] <;> omega)).mono ?_
    rintro e w3 ⟨x3, q3, rfl, z3, hc, hg⟩
    have HC3 := hidI hc
    have HG3 := hidI (grown_trans HG2.out hg)
    clear hc hg
    go_wp2_with fail
    refine (l1Below_any S hS g _ 12 _ HC3.out (by omega)).mono ?_
    rintro e w4 ⟨rfl, hc, hg⟩
    have hbd := bw_bd S q3 12 (by omega)
    obtain ⟨k4, hk'⟩ : ∃ k : Nat, (bw S q3 12).1 = k := ⟨(bw S q3 12).1.toNat, by omega⟩
    obtain ⟨q4, hq⟩ : ∃ q', (bw S q3 12).2 = q' := ⟨_, rfl⟩
    rw [hk'] at hbd ⊢
    rw [hq] at hc
    have HC4 := hidI hc
    have HG4 := hidI (grown_trans HG3.out hg)
    clear hc hg
    have kb4 : k4 < 12 := by omega
    clear hbd hk' hq
    rcases (show k4 = 0 ∨ k4 = 1 ∨ k4 = 2 ∨ k4 = 3 ∨ k4 = 4 ∨ k4 = 5 ∨ k4 = 6 ∨ k4 = 7 ∨ k4 = 8 ∨ k4 = 9 ∨ k4 = 10 ∨ k4 = 11 by omega) with rfl | rfl | rfl | rfl | rfl | rfl | rfl | rfl | rfl | rfl | rfl | rfl
    · go_wp2
      go_ret
      exact ⟨_, q4, rfl, by have y0 : (({ data := #[112, 114, 105, 110, 116, 40] } : ByteArray)).size = 6 := rfl; have y1 : (({ data := #[41, 59, 10] } : ByteArray)).size = 3 := rfl; simp only [ByteArray.size_append, y0, y1]; omega, HC4.out, HG4.out⟩
    · go_wp2
      go_ret
      exact ⟨_, q4, rfl, by have y0 : (({ data := #[112, 114, 105, 110, 116, 40, 105] } : ByteArray)).size = 7 := rfl; have y1 : (({ data := #[41, 59, 10, 105, 109, 112, 111, 114, 116, 32, 123, 32, 118] } : ByteArray)).size = 13 := rfl; have y2 : (({ data := #[32, 97, 115, 32, 105] } : ByteArray)).size = 5 := rfl; have y3 : (({ data := #[32, 125, 32, 102, 114, 111, 109, 32, 34, 46, 47] } : ByteArray)).size = 11 := rfl; have y4 : (({ data := #[34, 59, 10] } : ByteArray)).size = 3 := rfl; simp only [ByteArray.size_append, y0, y1, y2, y3, y4]; omega, HC4.out, HG4.out⟩
    · go_wp2_with fail
      refine (pick_new S hS g _ 100 [({ data := #[118] } : ByteArray) ++ xo, ({ data := #[119] } : ByteArray) ++ xo, ({ data := #[113] } : ByteArray), ({ data := #[100, 101, 102, 97, 117, 108, 116] } : ByteArray)] _ HC4.out (by simp) (by simp) (by intro x hx; simp only [List.mem_cons, List.not_mem_nil, or_false] at hx; have y0 : (({ data := #[118] } : ByteArray)).size = 1 := rfl; have y1 : (({ data := #[119] } : ByteArray)).size = 1 := rfl; have y2 : (({ data := #[113] } : ByteArray)).size = 1 := rfl; have y3 : (({ data := #[100, 101, 102, 97, 117, 108, 116] } : ByteArray)).size = 7 := rfl; rcases hx with rfl | rfl | rfl | rfl <;> simp only [ByteArray.size_append, y0, y1, y2, y3] <;> omega)).mono ?_
      rintro e w5 ⟨x5, q5, rfl, z5, hc, hg⟩
      have HC5 := hidI hc
      have HG5 := hidI (grown_trans HG4.out hg)
      clear hc hg
      go_wp2
      go_ret
      exact ⟨_, q5, rfl, by have y0 : (({ data := #[105, 109, 112, 111, 114, 116, 32, 42, 32, 97, 115, 32, 110] } : ByteArray)).size = 13 := rfl; have y1 : (({ data := #[32, 102, 114, 111, 109, 32, 34, 46, 47] } : ByteArray)).size = 9 := rfl; have y2 : (({ data := #[34, 59, 10, 112, 114, 105, 110, 116, 40, 110] } : ByteArray)).size = 10 := rfl; have y3 : (({ data := #[46] } : ByteArray)).size = 1 := rfl; have y4 : (({ data := #[41, 59, 10] } : ByteArray)).size = 3 := rfl; simp only [ByteArray.size_append, y0, y1, y2, y3, y4]; omega, HC5.out, HG5.out⟩
    · go_wp2
      go_ret
      exact ⟨_, q4, rfl, by have y0 : (({ data := #[118] } : ByteArray)).size = 1 := rfl; have y1 : (({ data := #[32, 61, 32] } : ByteArray)).size = 3 := rfl; have y2 : (({ data := #[59, 10] } : ByteArray)).size = 2 := rfl; simp only [ByteArray.size_append, y0, y1, y2]; omega, HC4.out, HG4.out⟩
    · go_wp2
      go_ret
      exact ⟨_, q4, rfl, by have y0 : (({ data := #[105, 109, 112, 111, 114, 116, 32, 123, 32, 102] } : ByteArray)).size = 10 := rfl; have y1 : (({ data := #[32, 97, 115, 32, 103] } : ByteArray)).size = 5 := rfl; have y2 : (({ data := #[32, 125, 32, 102, 114, 111, 109, 32, 34, 46, 47] } : ByteArray)).size = 11 := rfl; have y3 : (({ data := #[34, 59, 10, 112, 114, 105, 110, 116, 40, 103] } : ByteArray)).size = 10 := rfl; have y4 : (({ data := #[40, 41, 41, 59, 10] } : ByteArray)).size = 5 := rfl; simp only [ByteArray.size_append, y0, y1, y2, y3, y4]; omega, HC4.out, HG4.out⟩
    · go_wp2
      go_ret
      exact ⟨_, q4, rfl, by have y0 : (({ data := #[101, 120, 112, 111, 114, 116, 32, 42, 32, 102, 114, 111, 109, 32, 34, 46, 47] } : ByteArray)).size = 17 := rfl; have y1 : (({ data := #[34, 59, 10] } : ByteArray)).size = 3 := rfl; simp only [ByteArray.size_append, y0, y1]; omega, HC4.out, HG4.out⟩
    · go_wp2
      go_ret
      exact ⟨_, q4, rfl, by have y0 : (({ data := #[101, 120, 112, 111, 114, 116, 32, 123, 32, 118] } : ByteArray)).size = 10 := rfl; have y1 : (({ data := #[32, 97, 115, 32, 120] } : ByteArray)).size = 5 := rfl; have y2 : (({ data := #[32, 125, 32, 102, 114, 111, 109, 32, 34, 46, 47] } : ByteArray)).size = 11 := rfl; have y3 : (({ data := #[34, 59, 10] } : ByteArray)).size = 3 := rfl; simp only [ByteArray.size_append, y0, y1, y2, y3]; omega, HC4.out, HG4.out⟩
    · go_wp2
      go_ret
      exact ⟨_, q4, rfl, by have y0 : (({ data := #[105, 109, 112, 111, 114, 116, 32, 100] } : ByteArray)).size = 8 := rfl; have y1 : (({ data := #[32, 102, 114, 111, 109, 32, 34, 46, 47] } : ByteArray)).size = 9 := rfl; have y2 : (({ data := #[34, 59, 10, 112, 114, 105, 110, 116, 40, 100] } : ByteArray)).size = 10 := rfl; have y3 : (({ data := #[41, 59, 10] } : ByteArray)).size = 3 := rfl; simp only [ByteArray.size_append, y0, y1, y2, y3]; omega, HC4.out, HG4.out⟩
    · go_wp2
      go_ret
      exact ⟨_, q4, rfl, by have y0 : (({ data := #[105, 109, 112, 111, 114, 116, 32, 34, 46, 47] } : ByteArray)).size = 10 := rfl; have y1 : (({ data := #[34, 59, 10] } : ByteArray)).size = 3 := rfl; simp only [ByteArray.size_append, y0, y1]; omega, HC4.out, HG4.out⟩
    · go_wp2_with fail
      refine (l1Once_any S hS g _ 3 _ HC4.out (by omega)).mono ?_
      rintro e w5 ⟨rfl, hc, hg⟩
      obtain ⟨q5, hq⟩ : ∃ q', (bw S q4 3).2 = q' := ⟨_, rfl⟩
      rw [hq] at hc
      have HC5 := hidI hc
      have HG5 := hidI (grown_trans HG4.out hg)
      clear hc hg
      clear hq
      generalize ((bw S q4 3).1 == 0) = b
      cases b with
      | false =>
        go_wp2
        go_ret
        exact ⟨_, q5, rfl, by have y0 : (({ data := #[112, 114, 105, 110, 116, 40, 122, 122, 41, 59, 10] } : ByteArray)).size = 11 := rfl; simp only [y0]; omega, HC5.out, HG5.out⟩
      | true =>
        go_wp2
        go_ret
        exact ⟨_, q5, rfl, by have y0 : (({ data := #[116, 104, 114, 111, 119, 32] } : ByteArray)).size = 6 := rfl; have y1 : (({ data := #[59, 10] } : ByteArray)).size = 2 := rfl; simp only [ByteArray.size_append, y0, y1]; omega, HC5.out, HG5.out⟩
    · go_wp2_with fail
      refine (pick_new S hS g _ 100 [({ data := #[121] } : ByteArray) ++ xo ++ ({ data := #[32, 61, 32, 52, 59, 10] } : ByteArray), ({ data := #[101, 120, 112, 111, 114, 116, 32, 123, 32, 121] } : ByteArray) ++ xo ++ ({ data := #[32, 125, 59, 10] } : ByteArray), ({ data := #[112, 114, 105, 110, 116, 40, 121] } : ByteArray) ++ xo ++ ({ data := #[32, 43, 32, 49, 41, 59, 10] } : ByteArray)] _ HC4.out (by simp) (by simp) (by intro x hx; simp only [List.mem_cons, List.not_mem_nil, or_false] at hx; have y0 : (({ data := #[121] } : ByteArray)).size = 1 := rfl; have y1 : (({ data := #[32, 61, 32, 52, 59, 10] } : ByteArray)).size = 6 := rfl; have y2 : (({ data := #[101, 120, 112, 111, 114, 116, 32, 123, 32, 121] } : ByteArray)).size = 10 := rfl; have y3 : (({ data := #[32, 125, 59, 10] } : ByteArray)).size = 4 := rfl; have y4 : (({ data := #[112, 114, 105, 110, 116, 40, 121] } : ByteArray)).size = 7 := rfl; have y5 : (({ data := #[32, 43, 32, 49, 41, 59, 10] } : ByteArray)).size = 7 := rfl; rcases hx with rfl | rfl | rfl <;> simp only [ByteArray.size_append, y0, y1, y2, y3, y4, y5] <;> omega)).mono ?_
      rintro e w5 ⟨x5, q5, rfl, z5, hc, hg⟩
      have HC5 := hidI hc
      have HG5 := hidI (grown_trans HG4.out hg)
      clear hc hg
      go_wp2
      go_ret
      exact ⟨_, q5, rfl, by have y0 : (({ data := #[105, 109, 112, 111, 114, 116, 32, 123, 32, 119] } : ByteArray)).size = 10 := rfl; have y1 : (({ data := #[32, 97, 115, 32, 121] } : ByteArray)).size = 5 := rfl; have y2 : (({ data := #[32, 125, 32, 102, 114, 111, 109, 32, 34, 46, 47] } : ByteArray)).size = 11 := rfl; have y3 : (({ data := #[34, 59, 10] } : ByteArray)).size = 3 := rfl; simp only [ByteArray.size_append, y0, y1, y2, y3]; omega, HC5.out, HG5.out⟩
    · go_wp2
      go_ret
      exact ⟨_, q4, rfl, by have y0 : (({ data := #[112, 114, 105, 110, 116, 40] } : ByteArray)).size = 6 := rfl; have y1 : (({ data := #[41, 59, 10] } : ByteArray)).size = 3 := rfl; simp only [ByteArray.size_append, y0, y1]; omega, HC4.out, HG4.out⟩
  | true =>
    go_wp2_with fail
    refine (l4Line_some S hS g false q2 _ HC2.out).mono ?_
    rintro e w3 ⟨x3, q3, rfl, z3, hc, hg⟩
    have HC3 := hidI hc
    have HG3 := hidI (grown_trans HG2.out hg)
    clear hc hg
    go_wp2
    go_ret
    exact ⟨_, q3, rfl, by have y0 : (({ data := #[10] } : ByteArray)).size = 1 := rfl; simp only [ByteArray.size_append, y0]; omega, HC3.out, HG3.out⟩
end Go.Proofs.Ytdbpknmoacjodaa
namespace Go.Proofs.Ytdbpknmoacjodaa
open Go.RowKit Go.PlainAid

end Go.Proofs.Ytdbpknmoacjodaa
namespace Go.Proofs.Ytdbpknmoacjodaa
open Go.RowKit Go.PlainAid

theorem l1In_any (a b c : Int) (w : World) :
    Calls Try.prog 120 #[.int .i64 a, .int .i64 b, .int .i64 c] w fun e w' => e = .returned (.bool (inB a b c)) ∧ w' = w := by
  by_cases h1 : b ≤ a
  · by_cases h2 : a ≤ c
    · go_enter Try.func120, Try.ntmps120
      go_wp2
      go_ret
      exact ⟨ret_bool (inB_yes h1 h2).symm, rfl⟩
    · go_enter Try.func120, Try.ntmps120
      go_wp2
      go_ret
      exact ⟨ret_bool (inB_no (by omega)).symm, rfl⟩
  · go_enter Try.func120, Try.ntmps120
    go_wp2
    go_ret
    exact ⟨ret_bool (inB_no (by omega)).symm, rfl⟩
end Go.Proofs.Ytdbpknmoacjodaa
namespace Go.Proofs.Ytdbpknmoacjodaa
open Go.RowKit Go.PlainAid

set_option maxRecDepth 100000 in
set_option maxHeartbeats 3200000 in
theorem l2Path_any (s : ByteArray) (w : World) (_ : s.size ≤ 9223372036854775807) :
    Calls Try.prog 143 #[.string s] w fun e w' => e = .returned (.bool (pathB s)) ∧ w' = w := by
  by_cases hl : 1 ≤ s.size ∧ s.size ≤ 40
  · obtain ⟨hl1, hl2⟩ := hl
    have hin := inB_yes (a := s.size) (b := 1) (c := 40) (by omega) (by omega)
    have hb := get_bt s
    by_cases h47 : (bt s 0 == 47) = true
    · have e47 : bt s 0 = 47 := by simpa using h47
      have E47 : Hid (bt s 0 = 47) := e47
      have hne : (bt s 0 != 47) = false := by simpa using e47
      clear e47
      go_enter Try.func143, Try.ntmps143
      go_wp2_with (go_at_call 120; refine (l1In_any _ _ _ _).mono ?_; rintro e w' ⟨rfl, rfl⟩)
      go_loop [3, 4] (fun i _ => ∃ k : Nat, k ≤ s.size ∧ i = .int .i64 k ∧ ∀ j, j < k → okc (bt s j)) (fun i _ => (s.size - intOf i).toNat)
      case atStart => exact ⟨0, by omega, rfl, fun j hj => by omega⟩
      case round =>
        obtain ⟨k, hk, rfl, hok⟩ := hrel
        have HOK : Hid (∀ j, j < k → okc (bt s j)) := hok
        clear hok
        by_cases hlt : k < s.size
        · have hb0 := bt_nonneg s k
          have hb1 := bt_le s k
          by_cases hc : okc (bt s k)
          · have HN : Hid (∀ j, j < k + 1 → okc (bt s j)) := fun j hj => by
              by_cases e : j = k
              · rw [e]; exact hc
              · exact HOK.out j (by omega)
            have hcases : (97 ≤ bt s k ∧ bt s k ≤ 122) ∨ (48 ≤ bt s k ∧ bt s k ≤ 57) ∨ bt s k = 46 ∨ bt s k = 95 ∨ bt s k = 45 ∨ bt s k = 47 := hc
            clear hc
            rcases hcases with ⟨a, b⟩ | ⟨a, b⟩ | a | a | a | a
            all_goals
              go_wp2
              go_round
              case rel => exact ⟨k + 1, by omega, by go_num, HN.out⟩
              case measure => simp [intOf]; omega
          · have HN : Hid (¬ PathP s) := fun h => hc (h.2.2.2 k hlt)
            have hcases : ¬ (97 ≤ bt s k ∧ bt s k ≤ 122) ∧ ¬ (48 ≤ bt s k ∧ bt s k ≤ 57) ∧ bt s k ≠ 46 ∧ bt s k ≠ 95 ∧ bt s k ≠ 45 ∧ bt s k ≠ 47 := by
              unfold okc at hc; omega
            obtain ⟨c1, c2, c3, c4, c5, c6⟩ := hcases
            have d3 : (bt s k == 46) = false := beq_eq_false_iff_ne.2 c3
            have d4 : (bt s k == 95) = false := beq_eq_false_iff_ne.2 c4
            have d5 : (bt s k == 45) = false := beq_eq_false_iff_ne.2 c5
            have d6 : (bt s k == 47) = false := beq_eq_false_iff_ne.2 c6
            clear hc c3 c4 c5 c6
            by_cases g1 : 97 ≤ bt s k
            · have g2 : 122 < bt s k := by omega
              have q1 : decide (bt s k ≤ 122) = false := decide_eq_false (by omega)
              have q2 : decide (bt s k ≤ 57) = false := decide_eq_false (by omega)
              clear c1 c2
              go_wp2
              go_ret
              exact ⟨ret_bool (pathB_no HN.out).symm, rfl⟩
            · by_cases g3 : 48 ≤ bt s k
              · have g4 : 57 < bt s k := by omega
                have q2 : decide (bt s k ≤ 57) = false := decide_eq_false (by omega)
                clear c1 c2
                go_wp2
                go_ret
                exact ⟨ret_bool (pathB_no HN.out).symm, rfl⟩
              · clear c1 c2
                go_wp2
                go_ret
                exact ⟨ret_bool (pathB_no HN.out).symm, rfl⟩
        · have HY : Hid (PathP s) := ⟨hl1, hl2, E47.out, fun j hj => HOK.out j (by omega)⟩
          go_wp2
          go_ret
          exact ⟨ret_bool (pathB_yes HY.out).symm, rfl⟩
    · have HN : Hid (¬ PathP s) := fun h => h47 (by rw [h.2.2.1]; rfl)
      have hne : (bt s 0 != 47) = true := by simpa using h47
      clear h47
      go_enter Try.func143, Try.ntmps143
      go_wp2_with (go_at_call 120; refine (l1In_any _ _ _ _).mono ?_; rintro e w' ⟨rfl, rfl⟩)
      go_ret
      exact ⟨ret_bool (pathB_no HN.out).symm, rfl⟩
  · have HN : Hid (¬ PathP s) := fun h => hl ⟨h.1, h.2.1⟩
    have hin := inB_no (a := s.size) (b := 1) (c := 40) (by omega)
    go_enter Try.func143, Try.ntmps143
    go_wp2_with (go_at_call 120; refine (l1In_any _ _ _ _).mono ?_; rintro e w' ⟨rfl, rfl⟩)
    go_ret
    exact ⟨ret_bool (pathB_no HN.out).symm, rfl⟩
theorem Try.infoStr : (Try.prog.info? 9).map (fun i => (i.zero, i.size, i.bytes)) = some (some (.string { data := #[] }), 1, 16) := by kernel_rfl

theorem size_lit1 (c : UInt8) : ({ data := #[c] } : ByteArray).size = 1 := rfl

set_option maxRecDepth 100000 in
set_option maxHeartbeats 3200000 in
theorem clean_spec (s : ByteArray) (w : World) (hs : s.size ≤ 9223372036854775807) :
    Calls Try.prog 82 #[.string s] w fun e w' => e = .returned (.string (cleanS s)) ∧ Below w.heap.size w w' := by
  obtain ⟨i0, hi, hz0, hz1, hz2⟩ := info_parts Try.infoStr
  by_cases hp : pathB s = true
  · have hl1 : 1 ≤ s.size := (pathB_iff.1 hp).1
    have hl2 : s.size ≤ 40 := (pathB_iff.1 hp).2.1
    have HP : Hid (pathB s = true) := hp
    have hb := get_bt s
    go_enter Try.func82, Try.ntmps82
    go_wp2_with (go_at_call 143; refine (l2Path_any _ _ hs).mono ?_; rintro e w' ⟨rfl, rfl⟩)
    go_loopw [3, 4, 5, 6] (fun l f i _ wr => ∃ (k n g cap : Nat) (xs : List ByteArray) (fr : Nat), k ≤ s.size + 1 ∧ i = .int .i64 k ∧ f = .int .i64 fr ∧ l = .slice (some ⟨g, 0, none⟩) n cap ∧ clTo s k = (fr, xs) ∧ OwnS wr w'.heap.size 9 g n cap xs ∧ Below w'.heap.size w' wr) (fun _ _ i _ _ => (s.size + 1 - intOf i).toNat)
    case atStart => exact ⟨0, 0, w'.heap.size, 0, [], 0, by omega, rfl, rfl, rfl, rfl, ⟨World.ownsRow_lit w' #[] 0 (Nat.le_refl _) (by unfold maxLen; omega) rfl, rfl⟩, (Below.refl _ _).alloc (Nat.le_refl _) _⟩
    case round =>
      obtain ⟨k, n, g, cap, xs, fr, hk, rfl, rfl, rfl, hto, hown, hbel⟩ := hrel
      have HT : Hid (clTo s k = (fr, xs)) := hto
      have hbd := clTo_bd s k
      rw [hto] at hbd
      simp only at hbd
      have hn := ownS_len hown
      have hcp := ownS_cap hown
      have hn42 : n ≤ 42 := by omega
      have HLEN : Hid (n = xs.length) := hn
      clear hto hn
      have hfr : fr ≤ k := hbd.1
      clear hbd
      have hsz := hbel.size
      by_cases hks : k ≤ s.size
      · by_cases hc : k < s.size ∧ bt s k ≠ 47
        · obtain ⟨hc1, hc2⟩ := hc
          have HN : Hid (clTo s (k + 1) = (fr, xs)) := (clTo_on hc1 hc2).trans HT.out
          have hq : (bt s k != 47) = true := by simpa using hc2
          clear hc2
          go_wp2
          go_roundw
          case rel => exact ⟨k + 1, n, g, cap, xs, fr, by omega, by go_num, rfl, rfl, HN.out, hown, hbel⟩
          case measure => simp [intOf]; omega
        · have HN : Hid (clTo s (k + 1) = (k + 1, upd (s.extract fr k) xs)) := by
            have := clTo_part hc
            rw [HT.out] at this
            exact this
          by_cases hk1 : k < s.size
          · have hq : (bt s k != 47) = false := by
              have : bt s k = 47 := by
                rcases Classical.em (bt s k = 47) with e | e
                · exact e
                · exact absurd ⟨hk1, e⟩ hc
              simp [this]
            clear hc
            by_cases p0 : (s.extract fr k).toList.isEmpty = true
            · have HU : Hid (clTo s (k + 1) = (k + 1, xs)) := by have := HN.out; rw [upd_empty p0] at this; exact this
              go_wp2
              go_roundw
              case rel => exact ⟨k + 1, n, g, cap, xs, k + 1, by omega, by go_num, by go_num, rfl, HU.out, hown, hbel⟩
              case measure => simp [intOf]; omega
            · have p0' : (s.extract fr k).toList.isEmpty = false := by simpa using p0
              clear p0
              by_cases p1 : ((s.extract fr k).toList == [46]) = true
              · have HU : Hid (clTo s (k + 1) = (k + 1, xs)) := by have := HN.out; rw [upd_point p1] at this; exact this
                go_wp2
                go_roundw
                case rel => exact ⟨k + 1, n, g, cap, xs, k + 1, by omega, by go_num, by go_num, rfl, HU.out, hown, hbel⟩
                case measure => simp [intOf]; omega
              · have p1' : ((s.extract fr k).toList == [46]) = false := by simpa using p1
                clear p1
                by_cases p2 : ((s.extract fr k).toList == [46, 46]) = true
                · have HU : Hid (clTo s (k + 1) = (k + 1, xs.dropLast)) := by have := HN.out; rw [upd_up p0' p1' p2] at this; exact this
                  match n, hown, HLEN, hn42, hcp with
                  | 0, hown, HLEN, hn42, hcp =>
                    have HD : Hid (xs.dropLast = xs) := by
                      show xs.dropLast = xs
                      have := HLEN.out
                      have e : xs = [] := List.length_eq_zero_iff.1 this.symm
                      rw [e]; rfl
                    go_wp2
                    go_roundw
                    case rel => exact ⟨k + 1, 0, g, cap, xs, k + 1, by omega, by go_num, by go_num, rfl, by rw [HU.out, HD.out], hown, hbel⟩
                    case measure => simp [intOf]; omega
                  | n + 1, hown, HLEN, hn42, hcp =>
                    have hpop := ownS_pop hown
                    have hc1 : n ≤ cap := by omega
                    go_wp2
                    go_roundw
                    case rel => exact ⟨k + 1, n, g, cap, xs.dropLast, k + 1, by omega, by go_num, by go_num, rfl, HU.out, hpop, hbel⟩
                    case measure => simp [intOf]; omega
                · have p2' : ((s.extract fr k).toList == [46, 46]) = false := by simpa using p2
                  clear p2
                  have HU : Hid (clTo s (k + 1) = (k + 1, xs ++ [s.extract fr k])) := by have := HN.out; rw [upd_name p0' p1' p2'] at this; exact this
                  go_wp2_with (first | (at_builtin; refine app_str wr rfl _ _ 22 rfl w'.heap.size 9 i0 _ Try.underlying22 hi hz0 hz1 hz2 rfl g n cap xs (by rfl) hown (s.extract fr k) (by rfl) (by omega) hsz ?_))
                  intro g' cap' w2 hown2 hb2
                  go_wp2
                  go_roundw
                  case rel => exact ⟨k + 1, n + 1, g', cap', xs ++ [s.extract fr k], k + 1, by omega, by go_num, by go_num, rfl, HU.out, hown2, hbel.trans hb2⟩
                  case measure => simp [intOf]; omega
          · clear hc
            by_cases p0 : (s.extract fr k).toList.isEmpty = true
            · have HU : Hid (clTo s (k + 1) = (k + 1, xs)) := by have := HN.out; rw [upd_empty p0] at this; exact this
              go_wp2
              go_roundw
              case rel => exact ⟨k + 1, n, g, cap, xs, k + 1, by omega, by go_num, by go_num, rfl, HU.out, hown, hbel⟩
              case measure => simp [intOf]; omega
            · have p0' : (s.extract fr k).toList.isEmpty = false := by simpa using p0
              clear p0
              by_cases p1 : ((s.extract fr k).toList == [46]) = true
              · have HU : Hid (clTo s (k + 1) = (k + 1, xs)) := by have := HN.out; rw [upd_point p1] at this; exact this
                go_wp2
                go_roundw
                case rel => exact ⟨k + 1, n, g, cap, xs, k + 1, by omega, by go_num, by go_num, rfl, HU.out, hown, hbel⟩
                case measure => simp [intOf]; omega
              · have p1' : ((s.extract fr k).toList == [46]) = false := by simpa using p1
                clear p1
                by_cases p2 : ((s.extract fr k).toList == [46, 46]) = true
                · have HU : Hid (clTo s (k + 1) = (k + 1, xs.dropLast)) := by have := HN.out; rw [upd_up p0' p1' p2] at this; exact this
                  match n, hown, HLEN, hn42, hcp with
                  | 0, hown, HLEN, hn42, hcp =>
                    have HD : Hid (xs.dropLast = xs) := by
                      show xs.dropLast = xs
                      have := HLEN.out
                      have e : xs = [] := List.length_eq_zero_iff.1 this.symm
                      rw [e]; rfl
                    go_wp2
                    go_roundw
                    case rel => exact ⟨k + 1, 0, g, cap, xs, k + 1, by omega, by go_num, by go_num, rfl, by rw [HU.out, HD.out], hown, hbel⟩
                    case measure => simp [intOf]; omega
                  | n + 1, hown, HLEN, hn42, hcp =>
                    have hpop := ownS_pop hown
                    have hc1 : n ≤ cap := by omega
                    go_wp2
                    go_roundw
                    case rel => exact ⟨k + 1, n, g, cap, xs.dropLast, k + 1, by omega, by go_num, by go_num, rfl, HU.out, hpop, hbel⟩
                    case measure => simp [intOf]; omega
                · have p2' : ((s.extract fr k).toList == [46, 46]) = false := by simpa using p2
                  clear p2
                  have HU : Hid (clTo s (k + 1) = (k + 1, xs ++ [s.extract fr k])) := by have := HN.out; rw [upd_name p0' p1' p2'] at this; exact this
                  go_wp2_with (first | (at_builtin; refine app_str wr rfl _ _ 22 rfl w'.heap.size 9 i0 _ Try.underlying22 hi hz0 hz1 hz2 rfl g n cap xs (by rfl) hown (s.extract fr k) (by rfl) (by omega) hsz ?_))
                  intro g' cap' w2 hown2 hb2
                  go_wp2
                  go_roundw
                  case rel => exact ⟨k + 1, n + 1, g', cap', xs ++ [s.extract fr k], k + 1, by omega, by go_num, by go_num, rfl, HU.out, hown2, hbel.trans hb2⟩
                  case measure => simp [intOf]; omega
      · obtain rfl : k = s.size + 1 := by omega
        have HPT : Hid (parts s = xs) := by show (clTo s (s.size + 1)).2 = xs; rw [HT.out]
        have hxs : ∀ x ∈ xs, x.size ≤ s.size := by
          have := clTo_sizes s (s.size + 1)
          rw [HT.out] at this
          exact this
        have HX : Hid (∀ x ∈ xs, x.size ≤ s.size) := hxs
        clear hxs
        by_cases hn0 : n = 0
        · have HE : Hid (cleanS s = { data := #[47] }) := cleanS_root HP.out (by rw [HPT.out, ← HLEN.out]; exact hn0)
          have hq : ((n : Int) == 0) = true := by rw [hn0]; rfl
          clear hn0
          go_wp2
          go_ret
          exact ⟨ret_str HE.out.symm, hbel⟩
        · have HE : Hid (cleanS s = joinTo xs n) := by
            have := cleanS_yes HP.out (by rw [HPT.out, ← HLEN.out]; exact hn0)
            rw [HPT.out, ← HLEN.out] at this
            exact this
          have hq : ((n : Int) == 0) = false := beq_eq_false_iff_ne.2 (by omega)
          go_wp2
          go_loop [7, 8] (fun o i => ∃ j : Nat, j ≤ n ∧ i = .int .i64 j ∧ o = .string (joinTo xs j)) (fun _ i => (n - intOf i).toNat)
          case atStart => exact ⟨0, by omega, rfl, rfl⟩
          case round =>
            obtain ⟨j, hj, rfl, rfl⟩ := hrel
            by_cases hlt : j < n
            · have hcell := ownS_cell hown j hlt
              have hjs : (joinTo xs j).size ≤ 2000 := by
                have h1 := joinTo_size s xs HX.out j
                have h2 : j * (s.size + 1) ≤ 42 * 41 := Nat.mul_le_mul (by omega) (by omega)
                omega
              have hgs : (xs[j]?.getD { data := #[] }).size ≤ 40 := by
                have := getD_size s xs HX.out j
                rw [List.getD_eq_getElem?_getD] at this
                omega
              have hjs2 : (joinTo xs j ++ { data := #[47] }).size ≤ 2001 := by rw [ByteArray.size_append, size_lit1]; omega
              have HJ : Hid (joinTo xs (j + 1) = joinTo xs j ++ { data := #[47] } ++ xs.getD j { data := #[] }) := rfl
              go_wp2
              go_round
              case rel => exact ⟨j + 1, by omega, by go_num, by rw [HJ.out, List.getD_eq_getElem?_getD]⟩
              case measure => simp [intOf]; omega
            · have hjn : j = n := by omega
              have HE2 : Hid (cleanS s = joinTo xs j) := by show cleanS s = _; rw [HE.out, hjn]
              clear hjn
              go_wp2
              go_ret
              exact ⟨ret_str HE2.out.symm, hbel⟩
  · have hp' : pathB s = false := by simpa using hp
    have HV : Hid (cleanS s = { data := #[] }) := cleanS_no hp'
    clear hp
    go_enter Try.func82, Try.ntmps82
    go_wp2_with (go_at_call 143; refine (l2Path_any _ _ hs).mono ?_; rintro e w' ⟨rfl, rfl⟩)
    go_ret
    exact ⟨ret_str HV.out.symm, Below.refl _ _⟩
end Go.Proofs.Ytdbpknmoacjodaa
namespace Go.Proofs.Ytdbpknmoacjodaa
open Go.RowKit Go.PlainAid

def okB (c : Int) : Bool := decide (okc c)
theorem okB_yes {c : Int} (h : okc c) : okB c = true := decide_eq_true h
theorem okB_no {c : Int} (h : ¬ okc c) : okB c = false := decide_eq_false h
set_option maxRecDepth 100000 in
set_option maxHeartbeats 1600000 in
theorem pathByte_any (c : Int) (w : World) (h0 : 0 ≤ c) (h1 : c ≤ 255) :
    Calls Try.prog 213 #[.int .u8 c] w fun e w' => e = .returned (.bool (okB c)) ∧ w' = w := by
  by_cases hc : okc c
  · have HV : Hid (okB c = true) := okB_yes hc
    have hcases : (c = 46 ∨ c = 95 ∨ c = 45 ∨ c = 47) ∨ (97 ≤ c ∧ c ≤ 122) ∨ (48 ≤ c ∧ c ≤ 57) := by unfold okc at hc; omega
    clear hc
    rcases hcases with a | a | a
    · rcases a with rfl | rfl | rfl | rfl
      all_goals
        go_enter Try.func213, Try.ntmps213
        go_wp2
        go_ret
        exact ⟨ret_bool HV.out.symm, rfl⟩
    · have e1 : (c == 46) = false := beq_eq_false_iff_ne.2 (by omega)
      have e2 : (c == 95) = false := beq_eq_false_iff_ne.2 (by omega)
      have e3 : (c == 45) = false := beq_eq_false_iff_ne.2 (by omega)
      have e4 : (c == 47) = false := beq_eq_false_iff_ne.2 (by omega)
      obtain ⟨a1, a2⟩ := a
      have q2 : decide (c ≤ 122) = true := decide_eq_true a2
      go_enter Try.func213, Try.ntmps213
      go_wp2
      go_ret
      exact ⟨ret_bool HV.out.symm, rfl⟩
    · have e1 : (c == 46) = false := beq_eq_false_iff_ne.2 (by omega)
      have e2 : (c == 95) = false := beq_eq_false_iff_ne.2 (by omega)
      have e3 : (c == 45) = false := beq_eq_false_iff_ne.2 (by omega)
      have e4 : (c == 47) = false := beq_eq_false_iff_ne.2 (by omega)
      obtain ⟨a1, a2⟩ := a
      have q2 : decide (c ≤ 57) = true := decide_eq_true a2
      go_enter Try.func213, Try.ntmps213
      go_wp2
      go_ret
      exact ⟨ret_bool HV.out.symm, rfl⟩
  · have HV : Hid (okB c = false) := okB_no hc
    have hcases : c ≠ 46 ∧ c ≠ 95 ∧ c ≠ 45 ∧ c ≠ 47 ∧ ¬ (97 ≤ c ∧ c ≤ 122) ∧ ¬ (48 ≤ c ∧ c ≤ 57) := by unfold okc at hc; omega
    clear hc
    obtain ⟨c1, c2, c3, c4, c5, c6⟩ := hcases
    have e1 : (c == 46) = false := beq_eq_false_iff_ne.2 c1
    have e2 : (c == 95) = false := beq_eq_false_iff_ne.2 c2
    have e3 : (c == 45) = false := beq_eq_false_iff_ne.2 c3
    have e4 : (c == 47) = false := beq_eq_false_iff_ne.2 c4
    by_cases g1 : 97 ≤ c
    · have q1 : decide (c ≤ 122) = false := decide_eq_false (by omega)
      have q2 : decide (c ≤ 57) = false := decide_eq_false (by omega)
      have g2 : 48 ≤ c := by omega
      clear c1 c2 c3 c4 c5 c6
      go_enter Try.func213, Try.ntmps213
      go_wp2
      go_ret
      exact ⟨ret_bool HV.out.symm, rfl⟩
    · by_cases g3 : 48 ≤ c
      · have q2 : decide (c ≤ 57) = false := decide_eq_false (by omega)
        clear c1 c2 c3 c4 c5 c6
        go_enter Try.func213, Try.ntmps213
        go_wp2
        go_ret
        exact ⟨ret_bool HV.out.symm, rfl⟩
      · clear c1 c2 c3 c4 c5 c6
        go_enter Try.func213, Try.ntmps213
        go_wp2
        go_ret
        exact ⟨ret_bool HV.out.symm, rfl⟩

set_option maxRecDepth 100000 in
set_option maxHeartbeats 1600000 in
theorem isPath_any (s : ByteArray) (w : World) (_ : s.size ≤ 9223372036854775807) :
    Calls Try.prog 207 #[.string s] w fun e w' => e = .returned (.bool (pathB s)) ∧ w' = w := by
  have hb := get_bt s
  by_cases hl1 : 1 ≤ s.size
  · by_cases hl2 : s.size ≤ 40
    · by_cases h47 : (bt s 0 == 47) = true
      · have e47 : bt s 0 = 47 := by simpa using h47
        have E47 : Hid (bt s 0 = 47) := e47
        have hne : (bt s 0 != 47) = false := by simpa using e47
        clear e47 h47
        go_enter Try.func207, Try.ntmps207
        go_wp2
        go_loop [19, 3] (fun i _ => ∃ k : Nat, k ≤ s.size ∧ i = .int .i64 k ∧ ∀ j, j < k → okc (bt s j)) (fun i _ => (s.size - intOf i).toNat)
        case atStart => exact ⟨0, by omega, rfl, fun j hj => by omega⟩
        case round =>
          obtain ⟨k, hk, rfl, hok⟩ := hrel
          have HOK : Hid (∀ j, j < k → okc (bt s j)) := hok
          clear hok
          by_cases hlt : k < s.size
          · have hb0 := bt_nonneg s k
            have hb1 := bt_le s k
            by_cases hc : okc (bt s k)
            · have HN : Hid (∀ j, j < k + 1 → okc (bt s j)) := fun j hj => by
                by_cases e : j = k
                · rw [e]; exact hc
                · exact HOK.out j (by omega)
              have hq := okB_yes hc
              clear hc
              go_wp2_with (go_at_call 213; refine (pathByte_any _ _ hb0 hb1).mono ?_; rintro e w' ⟨rfl, rfl⟩)
              go_round
              case rel => exact ⟨k + 1, by omega, by go_num, HN.out⟩
              case measure => simp [intOf]; omega
            · have HN : Hid (¬ PathP s) := fun h => hc (h.2.2.2 k hlt)
              have hq := okB_no hc
              clear hc
              go_wp2_with (go_at_call 213; refine (pathByte_any _ _ hb0 hb1).mono ?_; rintro e w' ⟨rfl, rfl⟩)
              go_ret
              exact ⟨ret_bool (pathB_no HN.out).symm, rfl⟩
          · have HY : Hid (PathP s) := ⟨hl1, hl2, E47.out, fun j hj => HOK.out j (by omega)⟩
            go_wp2
            go_ret
            exact ⟨ret_bool (pathB_yes HY.out).symm, rfl⟩
      · have HN : Hid (¬ PathP s) := fun h => h47 (by rw [h.2.2.1]; rfl)
        have hne : (bt s 0 != 47) = true := by simpa using h47
        clear h47
        go_enter Try.func207, Try.ntmps207
        go_wp2
        go_ret
        exact ⟨ret_bool (pathB_no HN.out).symm, rfl⟩
    · have HN : Hid (¬ PathP s) := fun h => hl2 h.2.1
      go_enter Try.func207, Try.ntmps207
      go_wp2
      go_ret
      exact ⟨ret_bool (pathB_no HN.out).symm, rfl⟩
  · have HN : Hid (¬ PathP s) := fun h => hl1 h.1
    go_enter Try.func207, Try.ntmps207
    go_wp2
    go_ret
    exact ⟨ret_bool (pathB_no HN.out).symm, rfl⟩
end Go.Proofs.Ytdbpknmoacjodaa
namespace Go.Proofs.Ytdbpknmoacjodaa
open Go.RowKit Go.PlainAid

theorem wor_let {c : Int} {scr : Bool} (h : letB c scr = true) : worB scr c = true := by simp [worB, h]
theorem wor_dig {c : Int} {scr : Bool} (h : digB c = true) : worB scr c = true := by simp [worB, h]
theorem wor_no {c : Int} {scr : Bool} (h : letB c scr = false) (k : digB c = false) : worB scr c = false := by simp [worB, h, k]
theorem run_next {p : Int → Bool} {s : ByteArray} {a k : Nat} (h : ∀ j, a ≤ j → j < k → p (bt s j) = true) (hk : p (bt s k) = true) : ∀ j, a ≤ j → j < k + 1 → p (bt s j) = true := by
  intro j h1 h2
  by_cases e : j = k
  · rw [e]; exact hk
  · exact h j h1 (by omega)

set_option maxHeartbeats 1600000 in
theorem word_spec (s : ByteArray) (a : Nat) (scr : Bool) (w : World) (ha : a ≤ s.size) (hs : s.size ≤ 4294967296) :
    Calls Try.prog 191 #[.string s, .int .i64 a, .bool scr] w fun e w' => ∃ n : Nat, e = .returned (.int .i64 n) ∧ RunEnd (worB scr) s a n ∧ w' = w := by
  have hb := get_bt s
  go_enter Try.func191, Try.ntmps191
  go_wp2
  go_loop [1] (fun i => ∃ k : Nat, a ≤ k ∧ k ≤ s.size ∧ i = .int .i64 k ∧ ∀ j, a ≤ j → j < k → worB scr (bt s j) = true) (fun i => (s.size - intOf i).toNat)
  case atStart => exact ⟨a, Nat.le_refl _, ha, rfl, fun j h1 h2 => by omega⟩
  case round =>
    obtain ⟨k, hk1, hk2, rfl, hok⟩ := hrel
    have HOK : Hid (∀ j, a ≤ j → j < k → worB scr (bt s j) = true) := hok
    clear hok
    by_cases hlt : k < s.size
    · have hb0 := bt_nonneg s k
      have hb1 := bt_le s k
      cases hl : letB (bt s k) scr with
      | true =>
        have HX : Hid (∀ j, a ≤ j → j < k + 1 → worB scr (bt s j) = true) := run_next HOK.out (wor_let hl)
        go_wp2_with (first | (go_at_call 190; refine (letter_spec _ _ _ hb0 hb1).mono ?_; rintro e w' ⟨rfl, rfl⟩) | (go_at_call 192; refine (digit_spec _ _ hb0 hb1).mono ?_; rintro e w' ⟨rfl, rfl⟩))
        go_round
        case rel => exact ⟨k + 1, by omega, by omega, by go_num, HX.out⟩
        case measure => simp [intOf]; omega
      | false =>
        cases hd : digB (bt s k) with
        | true =>
          have HX : Hid (∀ j, a ≤ j → j < k + 1 → worB scr (bt s j) = true) := run_next HOK.out (wor_dig hd)
          go_wp2_with (first | (go_at_call 190; refine (letter_spec _ _ _ hb0 hb1).mono ?_; rintro e w' ⟨rfl, rfl⟩) | (go_at_call 192; refine (digit_spec _ _ hb0 hb1).mono ?_; rintro e w' ⟨rfl, rfl⟩))
          go_round
          case rel => exact ⟨k + 1, by omega, by omega, by go_num, HX.out⟩
          case measure => simp [intOf]; omega
        | false =>
          have HE : Hid (RunEnd (worB scr) s a k) := ⟨hk1, hk2, HOK.out, fun _ => wor_no hl hd⟩
          go_wp2_with (first | (go_at_call 190; refine (letter_spec _ _ _ hb0 hb1).mono ?_; rintro e w' ⟨rfl, rfl⟩) | (go_at_call 192; refine (digit_spec _ _ hb0 hb1).mono ?_; rintro e w' ⟨rfl, rfl⟩))
          go_ret
          exact ⟨k, rfl, HE.out, rfl⟩
    · have HE : Hid (RunEnd (worB scr) s a k) := ⟨hk1, hk2, HOK.out, fun h => absurd h hlt⟩
      go_wp2
      go_ret
      exact ⟨k, rfl, HE.out, rfl⟩

theorem str_no_end {s : ByteArray} {a k : Nat} (hok : ∀ j, a < j → j < k → InStr (bt s j)) (h : s.size ≤ k ∨ a + 42 ≤ k) : ∀ e, ¬ StrAt s a e := by
  intro e ⟨h1, h2, h3, h4, _⟩
  exact absurd h4 (hok (e - 1) (by omega) (by omega)).2.2.1
theorem str_no_byte {s : ByteArray} {a k : Nat} (hk : a < k) (hok : ∀ j, a < j → j < k → InStr (bt s j)) (h34 : bt s k ≠ 34) (h : ¬ InStr (bt s k)) : ∀ e, ¬ StrAt s a e := by
  intro e ⟨h1, h2, h3, h4, h5⟩
  rcases Nat.lt_trichotomy (e - 1) k with g | g | g
  · exact absurd h4 (hok (e - 1) (by omega) g).2.2.1
  · rw [g] at h4; exact h34 h4
  · exact h (h5 k hk (by omega))

set_option maxHeartbeats 1600000 in
theorem str_spec (s : ByteArray) (a : Nat) (w : World) (ha : a < s.size) (hs : s.size ≤ 4294967296) :
    Calls Try.prog 194 #[.string s, .int .i64 a] w fun e w' => ∃ z : Int, e = .returned (.int .i64 z) ∧ ((∃ n : Nat, z = n ∧ StrAt s a n) ∨ (z = -1 ∧ ∀ n, ¬ StrAt s a n)) ∧ w' = w := by
  have hb := get_bt s
  go_enter Try.func194, Try.ntmps194
  go_wp2
  go_loop [5] (fun i => ∃ k : Nat, a < k ∧ k ≤ s.size ∧ k ≤ a + 42 ∧ i = .int .i64 k ∧ ∀ j, a < j → j < k → InStr (bt s j)) (fun i => (s.size - intOf i).toNat)
  case atStart => exact ⟨a + 1, by omega, by omega, by omega, by go_num, fun j h1 h2 => by omega⟩
  case round =>
    obtain ⟨k, hk1, hk2, hk3, rfl, hok⟩ := hrel
    have HOK : Hid (∀ j, a < j → j < k → InStr (bt s j)) := hok
    clear hok
    by_cases hlt : k < s.size
    · have hb0 := bt_nonneg s k
      have hb1 := bt_le s k
      by_cases hlim : k ≤ a + 41
      · have q0 : decide ((k : Int) ≤ (a : Int) + 1 + 40) = true := decide_eq_true (by omega)
        by_cases h34 : bt s k = 34
        · have HE : Hid (StrAt s a (k + 1)) := ⟨by omega, by omega, by omega, by rw [Nat.add_sub_cancel]; exact h34, fun j h1 h2 => HOK.out j h1 (by omega)⟩
          have hq : (bt s k == 34) = true := by simpa using h34
          clear h34
          go_wp2
          go_ret
          exact ⟨(k : Int) + 1, rfl, .inl ⟨k + 1, by omega, HE.out⟩, rfl⟩
        · have hq : (bt s k == 34) = false := by simpa using h34
          by_cases h1 : bt s k < 32
          · have HN : Hid (∀ e, ¬ StrAt s a e) := str_no_byte hk1 HOK.out h34 (fun h => by have := h.1; omega)
            have q1 : decide (bt s k < 32) = true := decide_eq_true h1
            clear h34
            go_wp2
            go_ret
            exact ⟨-1, rfl, .inr ⟨rfl, HN.out⟩, rfl⟩
          · have q1 : decide (bt s k < 32) = false := decide_eq_false h1
            by_cases h2 : 126 < bt s k
            · have HN : Hid (∀ e, ¬ StrAt s a e) := str_no_byte hk1 HOK.out h34 (fun h => by have := h.2.1; omega)
              have q2 : decide (126 < bt s k) = true := decide_eq_true h2
              clear h34
              go_wp2
              go_ret
              exact ⟨-1, rfl, .inr ⟨rfl, HN.out⟩, rfl⟩
            · have q2 : decide (126 < bt s k) = false := decide_eq_false h2
              by_cases h3 : bt s k = 92
              · have HN : Hid (∀ e, ¬ StrAt s a e) := str_no_byte hk1 HOK.out h34 (fun h => h.2.2.2 h3)
                have q3 : (bt s k == 92) = true := by simpa using h3
                clear h34 h3 hq
                have hq : (bt s k == 34) = false := beq_eq_false_iff_ne.2 (by have := beq_iff_eq.1 q3; omega)
                go_wp2
                go_ret
                exact ⟨-1, rfl, .inr ⟨rfl, HN.out⟩, rfl⟩
              · have q3 : (bt s k == 92) = false := by simpa using h3
                have HX : Hid (∀ j, a < j → j < k + 1 → InStr (bt s j)) := fun j g1 g2 => by
                  by_cases e : j = k
                  · rw [e]; exact ⟨by omega, by omega, h34, h3⟩
                  · exact HOK.out j g1 (by omega)
                clear h34 h3
                go_wp2
                go_round
                case rel => exact ⟨k + 1, by omega, by omega, by omega, by go_num, HX.out⟩
                case measure => simp [intOf]; omega
      · have HN : Hid (∀ e, ¬ StrAt s a e) := str_no_end HOK.out (.inr (by omega))
        have q0 : decide ((k : Int) ≤ (a : Int) + 1 + 40) = false := decide_eq_false (by omega)
        go_wp2
        go_ret
        exact ⟨-1, rfl, .inr ⟨rfl, HN.out⟩, rfl⟩
    · have HN : Hid (∀ e, ¬ StrAt s a e) := str_no_end HOK.out (.inl (by omega))
      go_wp2
      go_ret
      exact ⟨-1, rfl, .inr ⟨rfl, HN.out⟩, rfl⟩
end Go.Proofs.Ytdbpknmoacjodaa
namespace Go.Proofs.Ytdbpknmoacjodaa
open Go.RowKit Go.PlainAid

theorem num_run {s : ByteArray} {a k e : Nat} {scr : Bool} {n : Int} (hok : ∀ j, a ≤ j → j < k → digB (bt s j) = true) (h : NumAt s a scr n e) : k ≤ e ∨ e < k ∧ s.size ≤ e := by
  obtain ⟨⟨h1, h2, h3, h4⟩, h5, _⟩ := h
  rcases Nat.lt_or_ge e k with g | g
  · right
    refine ⟨g, ?_⟩
    rcases Nat.lt_or_ge e s.size with q | q
    · have := hok e h1 g
      rw [h4 q] at this
      cases this
    · exact q
  · exact .inl g
theorem num_no_zero {s : ByteArray} {a k : Nat} {scr : Bool} (hk : a < k) (hks : k < s.size) (hok : ∀ j, a ≤ j → j < k + 1 → digB (bt s j) = true) (h0 : bt s a = 48) : ∀ n e, ¬ NumAt s a scr n e := by
  intro n e h
  have h1 := num_run hok h
  rcases h.2.2.1 with g | g
  · omega
  · exact g h0
theorem num_no_great {s : ByteArray} {a k : Nat} {scr : Bool} (hak : a ≤ k) (hks : k < s.size) (hok : ∀ j, a ≤ j → j < k + 1 → digB (bt s j) = true) (hg : 1000000 < dval s a (k + 1 - a)) : ∀ n e, ¬ NumAt s a scr n e := by
  intro n e h
  have h1 := num_run hok h
  have h2 := dval_mono (s := s) (a := a) (k + 1 - a) (e - a) (fun j hj => (digB_iff.1 (h.1.2.2.1 (a + j) (by omega) (by omega))).1) (by omega)
  have h3 := h.2.2.2.1
  have h4 := h.2.2.2.2.1
  omega
theorem num_no_let {s : ByteArray} {a k : Nat} {scr : Bool} (hr : RunEnd digB s a k) (hk : k < s.size) (hl : letB (bt s k) scr = true) : ∀ n e, ¬ NumAt s a scr n e := by
  intro n e h
  have := runEnd_one hr h.1
  subst this
  have h6 := h.2.2.2.2.2 hk
  rw [hl] at h6
  cases h6

set_option maxHeartbeats 3200000 in
theorem num_spec (s : ByteArray) (a : Nat) (scr : Bool) (w : World) (ha : a < s.size) (hd0 : digB (bt s a) = true) (hs : s.size ≤ 4294967296) :
    Calls Try.prog 193 #[.string s, .int .i64 a, .bool scr] w fun e w' => ∃ n z : Int, e = .returned (.tuple #[.int .i64 n, .int .i64 z]) ∧ ((∃ m : Nat, z = m ∧ NumAt s a scr n m) ∨ (n = 0 ∧ z = -1 ∧ ∀ n m, ¬ NumAt s a scr n m)) ∧ w' = w := by
  have hb := get_bt s
  have HD0 : Hid (digB (bt s a) = true) := hd0
  clear hd0
  go_enter Try.func193, Try.ntmps193
  go_wp2
  go_loop [8, 9] (fun n i => ∃ (k : Nat) (v : Int), a ≤ k ∧ k ≤ s.size ∧ i = .int .i64 k ∧ n = .int .i64 v ∧ v = dval s a (k - a) ∧ 0 ≤ v ∧ v ≤ 1000000 ∧ (k ≤ a + 1 ∨ bt s a ≠ 48) ∧ ∀ j, a ≤ j → j < k → digB (bt s j) = true) (fun _ i => (s.size - intOf i).toNat)
  case atStart => exact ⟨a, 0, Nat.le_refl _, by omega, rfl, rfl, by rw [Nat.sub_self]; rfl, by omega, by omega, .inl (by omega), fun j h1 h2 => by omega⟩
  case round =>
    obtain ⟨k, v, hk1, hk2, rfl, rfl, hv, hv0, hv1, hz, hok⟩ := hrel
    have HOK : Hid (∀ j, a ≤ j → j < k → digB (bt s j) = true) := hok
    have HV : Hid (v = dval s a (k - a)) := hv
    have HZ : Hid (k ≤ a + 1 ∨ bt s a ≠ 48) := hz
    clear hok hv hz
    by_cases hlt : k < s.size
    · have hb0 := bt_nonneg s k
      have hb1 := bt_le s k
      cases hd : digB (bt s k) with
      | true =>
        have hd' := digB_iff.1 hd
        obtain ⟨hd1, hd2⟩ := hd'
        have HX : Hid (∀ j, a ≤ j → j < k + 1 → digB (bt s j) = true) := run_next HOK.out hd
        by_cases hzz : a < k ∧ bt s a = 48
        · obtain ⟨z1, z2⟩ := hzz
          have HN : Hid (∀ n e, ¬ NumAt s a scr n e) := num_no_zero z1 hlt HX.out z2
          have q1 : (bt s a == 48) = true := by simpa using z2
          clear z2
          go_wp2_with (first | (go_at_call 192; refine (digit_spec _ _ hb0 hb1).mono ?_; rintro e w' ⟨rfl, rfl⟩))
          go_ret2
          exact ⟨0, -1, rfl, .inr ⟨rfl, rfl, HN.out⟩, rfl⟩
        · have HD : Hid (dval s a (k + 1 - a) = v * 10 + (bt s k - 48)) := by
            show dval s a (k + 1 - a) = _
            rw [show k + 1 - a = (k - a) + 1 from by omega, dval, ← HV.out, show a + (k - a) = k from by omega]
          have HZ2 : Hid (k + 1 ≤ a + 1 ∨ bt s a ≠ 48) := by
            rcases Nat.lt_or_ge a k with g | g
            · exact .inr fun h => hzz ⟨g, h⟩
            · exact .inl (by omega)
          by_cases hg : 1000000 < v * 10 + (bt s k - 48)
          · have HN : Hid (∀ n e, ¬ NumAt s a scr n e) := num_no_great hk1 hlt HX.out (by rw [HD.out]; exact hg)
            by_cases hak : a < k
            · have q1 : (bt s a == 48) = false := beq_eq_false_iff_ne.2 (fun h => hzz ⟨hak, h⟩)
              clear hzz
              go_wp2_with (first | (go_at_call 192; refine (digit_spec _ _ hb0 hb1).mono ?_; rintro e w' ⟨rfl, rfl⟩))
              go_ret2
              exact ⟨0, -1, rfl, .inr ⟨rfl, rfl, HN.out⟩, rfl⟩
            · clear hzz
              go_wp2_with (first | (go_at_call 192; refine (digit_spec _ _ hb0 hb1).mono ?_; rintro e w' ⟨rfl, rfl⟩))
              go_ret2
              exact ⟨0, -1, rfl, .inr ⟨rfl, rfl, HN.out⟩, rfl⟩
          · by_cases hak : a < k
            · have q1 : (bt s a == 48) = false := beq_eq_false_iff_ne.2 (fun h => hzz ⟨hak, h⟩)
              clear hzz
              go_wp2_with (first | (go_at_call 192; refine (digit_spec _ _ hb0 hb1).mono ?_; rintro e w' ⟨rfl, rfl⟩))
              go_round
              case rel => exact ⟨k + 1, v * 10 + (bt s k - 48), by omega, by omega, by go_num, by go_num, HD.out.symm, by omega, by omega, HZ2.out, HX.out⟩
              case measure => simp [intOf]; omega
            · clear hzz
              go_wp2_with (first | (go_at_call 192; refine (digit_spec _ _ hb0 hb1).mono ?_; rintro e w' ⟨rfl, rfl⟩))
              go_round
              case rel => exact ⟨k + 1, v * 10 + (bt s k - 48), by omega, by omega, by go_num, by go_num, HD.out.symm, by omega, by omega, HZ2.out, HX.out⟩
              case measure => simp [intOf]; omega
      | false =>
        have HR : Hid (RunEnd digB s a k) := ⟨hk1, hk2, HOK.out, fun _ => hd⟩
        have hak : a < k := by
          rcases Nat.lt_or_ge a k with g | g
          · exact g
          · have e : k = a := by omega
            rw [e, HD0.out] at hd
            cases hd
        cases hl : letB (bt s k) scr with
        | true =>
          have HN : Hid (∀ n e, ¬ NumAt s a scr n e) := num_no_let HR.out hlt hl
          go_wp2_with (first | (go_at_call 190; refine (letter_spec _ _ _ hb0 hb1).mono ?_; rintro e w' ⟨rfl, rfl⟩) | (go_at_call 192; refine (digit_spec _ _ hb0 hb1).mono ?_; rintro e w' ⟨rfl, rfl⟩))
          go_ret2
          exact ⟨0, -1, rfl, .inr ⟨rfl, rfl, HN.out⟩, rfl⟩
        | false =>
          have HA : Hid (NumAt s a scr v k) := ⟨HR.out, hak, HZ.out.imp (fun g => by omega) id, HV.out, hv1, fun _ => hl⟩
          go_wp2_with (first | (go_at_call 190; refine (letter_spec _ _ _ hb0 hb1).mono ?_; rintro e w' ⟨rfl, rfl⟩) | (go_at_call 192; refine (digit_spec _ _ hb0 hb1).mono ?_; rintro e w' ⟨rfl, rfl⟩))
          go_ret2
          exact ⟨v, k, rfl, .inl ⟨k, rfl, HA.out⟩, rfl⟩
    · have hak : a < k := by omega
      have HA : Hid (NumAt s a scr v k) := ⟨⟨hk1, hk2, HOK.out, fun h => absurd h hlt⟩, hak, HZ.out.imp (fun g => by omega) id, HV.out, hv1, fun h => absurd h hlt⟩
      go_wp2
      go_ret2
      exact ⟨v, k, rfl, .inl ⟨k, rfl, HA.out⟩, rfl⟩

set_option maxHeartbeats 3200000 in
theorem skip_spec (s : ByteArray) (a : Nat) (w : World) (ha : a ≤ s.size) (hs : s.size ≤ 4294967296) :
    Calls Try.prog 164 #[.string s, .int .i64 a] w fun e w' => ∃ n : Nat, e = .returned (.int .i64 n) ∧ Skip s a n ∧ w' = w := by
  have hb := get_bt s
  go_enter Try.func164, Try.ntmps164
  go_wp2
  go_loop [1, 5] (fun i _ => ∃ k : Nat, k ≤ s.size ∧ i = .int .i64 k ∧ ∀ c, Skip s k c → Skip s a c) (fun i _ => (s.size - intOf i).toNat)
  case atStart => exact ⟨a, ha, rfl, fun c h => h⟩
  case round =>
    obtain ⟨k, hk, rfl, hsk⟩ := hrel
    have HSK : Hid (∀ c, Skip s k c → Skip s a c) := hsk
    clear hsk
    by_cases hlt : k < s.size
    · have hb0 := bt_nonneg s k
      have hb1 := bt_le s k
      by_cases hbl : Blank (bt s k)
      · have HX : Hid (∀ c, Skip s (k + 1) c → Skip s a c) := fun c h => HSK.out c (.blank hlt hbl h)
        have hcs : bt s k = 9 ∨ bt s k = 10 ∨ bt s k = 13 ∨ bt s k = 32 := hbl
        clear hbl
        rcases hcs with q | q | q | q
        all_goals
          go_wp2
          go_round
          case rel => exact ⟨k + 1, by omega, by go_num, HX.out⟩
          case measure => simp [intOf]; omega
      · have e1 : (bt s k == 9) = false := beq_eq_false_iff_ne.2 (fun h => hbl (.inl h))
        have e2 : (bt s k == 10) = false := beq_eq_false_iff_ne.2 (fun h => hbl (.inr (.inl h)))
        have e3 : (bt s k == 13) = false := beq_eq_false_iff_ne.2 (fun h => hbl (.inr (.inr (.inl h))))
        have e4 : (bt s k == 32) = false := beq_eq_false_iff_ne.2 (fun h => hbl (.inr (.inr (.inr h))))
        by_cases hsl : Slashes s k
        · obtain ⟨s1, s2, s3⟩ := hsl
          have HSL : Hid (Slashes s k) := ⟨s1, s2, s3⟩
          have q1 : (bt s k != 47) = false := by simp [s1]
          have q2 : (bt s (k + 1) != 47) = false := by simp [s3]
          have hc1 := bt_nonneg s (k + 1)
          have hc2 := bt_le s (k + 1)
          have H10 : Hid (bt s k ≠ 10) := by show bt s k ≠ 10; rw [s1]; omega
          clear s1 s3 hbl
          go_wp2
          go_loop [1] (fun i => ∃ m : Nat, k ≤ m ∧ m ≤ s.size ∧ i = .int .i64 m ∧ ∀ j, k ≤ j → j < m → notNl (bt s j) = true) (fun i => (s.size - intOf i).toNat)
          case atStart => exact ⟨k, Nat.le_refl _, hk, rfl, fun j h1 h2 => by omega⟩
          case round =>
            obtain ⟨m, hm1, hm2, rfl, hnl⟩ := hrel
            have HNL : Hid (∀ j, k ≤ j → j < m → notNl (bt s j) = true) := hnl
            clear hnl
            by_cases hml : m < s.size
            · have hm3 := bt_nonneg s m
              have hm4 := bt_le s m
              by_cases h10 : bt s m = 10
              · have hkm : k < m := by
                  rcases Nat.lt_or_ge k m with g | g
                  · exact g
                  · have e : m = k := by omega
                    rw [e] at h10
                    exact absurd h10 H10.out
                have HE : Hid (RunEnd notNl s k m) := ⟨hm1, hm2, HNL.out, fun _ => by simp [notNl, h10]⟩
                have HX : Hid (∀ c, Skip s m c → Skip s a c) := fun c h => HSK.out c (.comment hlt HSL.out HE.out h)
                have r1 : (bt s m != 10) = false := by simp [h10]
                clear h10
                go_wp2
                go_round
                case rel => exact ⟨m, hm2, rfl, HX.out⟩
                case measure => simp [intOf]; omega
              · have HX : Hid (∀ j, k ≤ j → j < m + 1 → notNl (bt s j) = true) := run_next HNL.out (by simp [notNl, h10])
                have r1 : (bt s m != 10) = true := by simpa using h10
                clear h10
                go_wp2
                go_round
                case rel => exact ⟨m + 1, by omega, by omega, by go_num, HX.out⟩
                case measure => simp [intOf]; omega
            · have HE : Hid (RunEnd notNl s k m) := ⟨hm1, hm2, HNL.out, fun h => absurd h hml⟩
              have HX : Hid (∀ c, Skip s m c → Skip s a c) := fun c h => HSK.out c (.comment hlt HSL.out HE.out h)
              go_wp2
              go_round
              case rel => exact ⟨m, hm2, rfl, HX.out⟩
              case measure => simp [intOf]; omega
        · have HE : Hid (Skip s a k) := HSK.out k (.stop hlt hbl hsl)
          clear hbl
          by_cases s1 : bt s k = 47
          · have q1 : (bt s k != 47) = false := by simp [s1]
            by_cases s2 : k + 1 < s.size
            · have q2 : (bt s (k + 1) != 47) = true := by simpa using fun h => hsl ⟨s1, s2, h⟩
              have hc1 := bt_nonneg s (k + 1)
              have hc2 := bt_le s (k + 1)
              clear s1 hsl
              go_wp2
              go_ret
              exact ⟨k, rfl, HE.out, rfl⟩
            · clear s1 hsl
              go_wp2
              go_ret
              exact ⟨k, rfl, HE.out, rfl⟩
          · have q1 : (bt s k != 47) = true := by simpa using s1
            clear s1 hsl
            go_wp2
            go_ret
            exact ⟨k, rfl, HE.out, rfl⟩
    · have HE : Hid (Skip s a k) := HSK.out k (by rw [show k = s.size from by omega]; exact .done)
      go_wp2
      go_ret
      exact ⟨k, rfl, HE.out, rfl⟩
end Go.Proofs.Ytdbpknmoacjodaa
