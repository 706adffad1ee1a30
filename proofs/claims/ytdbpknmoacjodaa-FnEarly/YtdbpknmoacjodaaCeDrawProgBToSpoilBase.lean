/-
  What the specification's draw of an item tells: some text, not a long one: the walk.
  The row of the type byte.
  What l1Text of the specification tells: the walk.
  What spec.l1Spoil tells: the walk.
-/
import Derived.Test.YtdbpknmoacjodaaCeDrawBaseToDrawProgA
namespace Go.Proofs.Ytdbpknmoacjodaa
open Go.RowKit Go.PlainAid

set_option maxRecDepth 100000 in
set_option maxHeartbeats 12800000 in
theorem l4Line_some (S : Src) (hS : S.ok) (g : Nat) (scr : Bool) (q0 : Nat × Int) (w0 : World) (hc : CurW 201 S w0 g q0) : Calls Try.prog 185 #[.pointer (some ⟨g, 0, none⟩), .bool scr] w0 (StrOut S g 1500 w0) := by
  have HC0 := hidI hc
  have HG0 : Hid (w0.grownBy w0 (some g)) := ⟨rfl, rfl, rfl, Nat.le_refl _, fun _ _ _ => rfl⟩
  clear hc
  go_enter Try.func185, Try.ntmps185
  go_wp2_with fail
  refine (pick_new S hS g _ 100 [{ data := #[97] }, { data := #[98] }, { data := #[120] }, { data := #[102] }, { data := #[103] }] _ HC0.out (by simp) (by simp) (by intro x hx; simp only [List.mem_cons, List.not_mem_nil, or_false] at hx; rcases hx with rfl | rfl | rfl | rfl | rfl <;> decide)).mono ?_
  rintro e w1 ⟨x1, q1, rfl, z1, hc, hg⟩
  have HC1 := hidI hc
  have HG1 := hidI (grown_trans HG0.out hg)
  clear hc hg
  go_wp2_with fail
  refine (l4Expr_some S hS g scr q1 _ HC1.out).mono ?_
  rintro e w2 ⟨x2, q2, rfl, z2, hc, hg⟩
  have HC2 := hidI hc
  have HG2 := hidI (grown_trans HG1.out hg)
  clear hc hg
  go_wp2_with fail
  refine (pick_new S hS g _ 100 [{ data := #[46, 47, 98] }, { data := #[46, 47, 99] }, { data := #[46, 47, 97] }, { data := #[120] }, { data := #[46, 47, 100] }] _ HC2.out (by simp) (by simp) (by intro x hx; simp only [List.mem_cons, List.not_mem_nil, or_false] at hx; rcases hx with rfl | rfl | rfl | rfl | rfl <;> decide)).mono ?_
  rintro e w3 ⟨x3, q3, rfl, z3, hc, hg⟩
  have HC3 := hidI hc
  have HG3 := hidI (grown_trans HG2.out hg)
  clear hc hg
  go_wp2_with fail
  refine (l1Below_any S hS g _ 16 _ HC3.out (by omega)).mono ?_
  rintro e w4 ⟨rfl, hc, hg⟩
  have hbd := bw_bd S q3 16 (by omega)
  obtain ⟨k4, hk⟩ : ∃ k : Nat, (bw S q3 16).1 = k := ⟨(bw S q3 16).1.toNat, by omega⟩
  obtain ⟨q4, hq⟩ : ∃ q', (bw S q3 16).2 = q' := ⟨_, rfl⟩
  rw [hk] at hbd ⊢
  rw [hq] at hc
  have HC4 := hidI hc
  have HG4 := hidI (grown_trans HG3.out hg)
  clear hc hg
  have kb4 : k4 < 16 := by omega
  clear hbd hk hq
  cases scr with
  | false =>
    rcases (show k4 = 0 ∨ k4 = 1 ∨ k4 = 2 ∨ k4 = 3 ∨ k4 = 4 ∨ k4 = 5 ∨ k4 = 6 ∨ k4 = 7 ∨ k4 = 8 ∨ k4 = 9 ∨ k4 = 10 ∨ k4 = 11 ∨ k4 = 12 ∨ k4 = 13 ∨ k4 = 14 ∨ k4 = 15 by omega) with rfl | rfl | rfl | rfl | rfl | rfl | rfl | rfl | rfl | rfl | rfl | rfl | rfl | rfl | rfl | rfl
    · go_wp2
      go_ret
      exact ⟨_, q4, rfl, by have y0 : (({ data := #[108, 101, 116, 32] } : ByteArray)).size = 4 := rfl; have y1 : (({ data := #[32, 61, 32] } : ByteArray)).size = 3 := rfl; have y2 : (({ data := #[59] } : ByteArray)).size = 1 := rfl; simp only [ByteArray.size_append, y0, y1, y2]; omega, HC4.out, HG4.out⟩
    · go_wp2
      go_ret
      exact ⟨_, q4, rfl, by have y0 : (({ data := #[108, 101, 116, 32] } : ByteArray)).size = 4 := rfl; have y1 : (({ data := #[32, 61, 32] } : ByteArray)).size = 3 := rfl; have y2 : (({ data := #[59] } : ByteArray)).size = 1 := rfl; simp only [ByteArray.size_append, y0, y1, y2]; omega, HC4.out, HG4.out⟩
    · go_wp2
      go_ret
      exact ⟨_, q4, rfl, by have y0 : (({ data := #[108, 101, 116, 32] } : ByteArray)).size = 4 := rfl; have y1 : (({ data := #[32, 61, 32] } : ByteArray)).size = 3 := rfl; have y2 : (({ data := #[59] } : ByteArray)).size = 1 := rfl; simp only [ByteArray.size_append, y0, y1, y2]; omega, HC4.out, HG4.out⟩
    · go_wp2_with fail
      refine (pick_new S hS g _ 100 [{ data := #[102] }, { data := #[103] }] _ HC4.out (by simp) (by simp) (by intro x hx; simp only [List.mem_cons, List.not_mem_nil, or_false] at hx; rcases hx with rfl | rfl <;> decide)).mono ?_
      rintro e w5 ⟨x5, q5, rfl, z5, hc, hg⟩
      have HC5 := hidI hc
      have HG5 := hidI (grown_trans HG4.out hg)
      clear hc hg
      go_wp2
      go_ret
      exact ⟨_, q5, rfl, by have y0 : (({ data := #[102, 117, 110, 99, 116, 105, 111, 110, 32] } : ByteArray)).size = 9 := rfl; have y1 : (({ data := #[40, 41, 32, 123, 32, 114, 101, 116, 117, 114, 110, 32] } : ByteArray)).size = 12 := rfl; have y2 : (({ data := #[59, 32, 125] } : ByteArray)).size = 3 := rfl; simp only [ByteArray.size_append, y0, y1, y2]; omega, HC5.out, HG5.out⟩
    · go_wp2
      go_ret
      exact ⟨_, q4, rfl, by have y0 : (({ data := #[32, 61, 32] } : ByteArray)).size = 3 := rfl; have y1 : (({ data := #[59] } : ByteArray)).size = 1 := rfl; simp only [ByteArray.size_append, y0, y1]; omega, HC4.out, HG4.out⟩
    · go_wp2
      go_ret
      exact ⟨_, q4, rfl, by have y0 : (({ data := #[112, 114, 105, 110, 116, 40] } : ByteArray)).size = 6 := rfl; have y1 : (({ data := #[41, 59] } : ByteArray)).size = 2 := rfl; simp only [ByteArray.size_append, y0, y1]; omega, HC4.out, HG4.out⟩
    · go_wp2
      go_ret
      exact ⟨_, q4, rfl, by have y0 : (({ data := #[112, 114, 105, 110, 116, 40] } : ByteArray)).size = 6 := rfl; have y1 : (({ data := #[41, 59] } : ByteArray)).size = 2 := rfl; simp only [ByteArray.size_append, y0, y1]; omega, HC4.out, HG4.out⟩
    · go_wp2
      go_ret
      exact ⟨_, q4, rfl, by have y0 : (({ data := #[116, 104, 114, 111, 119, 32] } : ByteArray)).size = 6 := rfl; have y1 : (({ data := #[59] } : ByteArray)).size = 1 := rfl; simp only [ByteArray.size_append, y0, y1]; omega, HC4.out, HG4.out⟩
    · go_wp2_with fail
      refine (pick_new S hS g _ 100 [{ data := #[] }, { data := #[32, 97, 115, 32, 120] }, { data := #[32, 97, 115, 32, 98, 44, 32, 103] }] _ HC4.out (by simp) (by simp) (by intro x hx; simp only [List.mem_cons, List.not_mem_nil, or_false] at hx; rcases hx with rfl | rfl | rfl <;> decide)).mono ?_
      rintro e w5 ⟨x5, q5, rfl, z5, hc, hg⟩
      have HC5 := hidI hc
      have HG5 := hidI (grown_trans HG4.out hg)
      clear hc hg
      go_wp2
      go_ret
      exact ⟨_, q5, rfl, by have y0 : (({ data := #[105, 109, 112, 111, 114, 116, 32, 123, 32] } : ByteArray)).size = 9 := rfl; have y1 : (({ data := #[32, 125, 32, 102, 114, 111, 109, 32, 34] } : ByteArray)).size = 9 := rfl; have y2 : (({ data := #[34, 59] } : ByteArray)).size = 2 := rfl; simp only [ByteArray.size_append, y0, y1, y2]; omega, HC5.out, HG5.out⟩
    · go_wp2
      go_ret
      exact ⟨_, q4, rfl, by have y0 : (({ data := #[105, 109, 112, 111, 114, 116, 32, 42, 32, 97, 115, 32, 110, 32, 102, 114, 111, 109, 32, 34] } : ByteArray)).size = 20 := rfl; have y1 : (({ data := #[34, 59] } : ByteArray)).size = 2 := rfl; simp only [ByteArray.size_append, y0, y1]; omega, HC4.out, HG4.out⟩
    · go_wp2
      go_ret
      exact ⟨_, q4, rfl, by have y0 : (({ data := #[105, 109, 112, 111, 114, 116, 32, 100, 32, 102, 114, 111, 109, 32, 34] } : ByteArray)).size = 15 := rfl; have y1 : (({ data := #[34, 59] } : ByteArray)).size = 2 := rfl; simp only [ByteArray.size_append, y0, y1]; omega, HC4.out, HG4.out⟩
    · go_wp2_with fail
      refine (pick_new S hS g _ 100 [{ data := #[] }, { data := #[32, 97, 115, 32, 121] }, { data := #[32, 97, 115, 32, 100, 101, 102, 97, 117, 108, 116] }] _ HC4.out (by simp) (by simp) (by intro x hx; simp only [List.mem_cons, List.not_mem_nil, or_false] at hx; rcases hx with rfl | rfl | rfl <;> decide)).mono ?_
      rintro e w5 ⟨x5, q5, rfl, z5, hc, hg⟩
      have HC5 := hidI hc
      have HG5 := hidI (grown_trans HG4.out hg)
      clear hc hg
      go_wp2
      go_ret
      exact ⟨_, q5, rfl, by have y0 : (({ data := #[101, 120, 112, 111, 114, 116, 32, 123, 32] } : ByteArray)).size = 9 := rfl; have y1 : (({ data := #[32, 125, 59] } : ByteArray)).size = 3 := rfl; simp only [ByteArray.size_append, y0, y1]; omega, HC5.out, HG5.out⟩
    · go_wp2_with fail
      refine (pick_new S hS g _ 100 [{ data := #[] }, { data := #[32, 97, 115, 32, 121] }, { data := #[44, 32, 100, 101, 102, 97, 117, 108, 116] }] _ HC4.out (by simp) (by simp) (by intro x hx; simp only [List.mem_cons, List.not_mem_nil, or_false] at hx; rcases hx with rfl | rfl | rfl <;> decide)).mono ?_
      rintro e w5 ⟨x5, q5, rfl, z5, hc, hg⟩
      have HC5 := hidI hc
      have HG5 := hidI (grown_trans HG4.out hg)
      clear hc hg
      go_wp2
      go_ret
      exact ⟨_, q5, rfl, by have y0 : (({ data := #[101, 120, 112, 111, 114, 116, 32, 123, 32] } : ByteArray)).size = 9 := rfl; have y1 : (({ data := #[32, 125, 32, 102, 114, 111, 109, 32, 34] } : ByteArray)).size = 9 := rfl; have y2 : (({ data := #[34, 59] } : ByteArray)).size = 2 := rfl; simp only [ByteArray.size_append, y0, y1, y2]; omega, HC5.out, HG5.out⟩
    · go_wp2
      go_ret
      exact ⟨_, q4, rfl, by have y0 : (({ data := #[101, 120, 112, 111, 114, 116, 32, 42, 32, 102, 114, 111, 109, 32, 34] } : ByteArray)).size = 15 := rfl; have y1 : (({ data := #[34, 59] } : ByteArray)).size = 2 := rfl; simp only [ByteArray.size_append, y0, y1]; omega, HC4.out, HG4.out⟩
    · go_wp2
      go_ret
      exact ⟨_, q4, rfl, by have y0 : (({ data := #[101, 120, 112, 111, 114, 116, 32, 100, 101, 102, 97, 117, 108, 116, 32] } : ByteArray)).size = 15 := rfl; have y1 : (({ data := #[59] } : ByteArray)).size = 1 := rfl; simp only [ByteArray.size_append, y0, y1]; omega, HC4.out, HG4.out⟩
    · go_wp2_with fail
      refine (pick_new S hS g _ 900 [({ data := #[108, 101, 116, 32] } : ByteArray) ++ x1 ++ ({ data := #[32, 61, 32] } : ByteArray) ++ x2 ++ ({ data := #[59] } : ByteArray), ({ data := #[102, 117, 110, 99, 116, 105, 111, 110, 32, 102, 40, 41, 32, 123, 32, 114, 101, 116, 117, 114, 110, 32] } : ByteArray) ++ x2 ++ ({ data := #[59, 32, 125] } : ByteArray), ({ data := #[108, 101, 116, 32, 122, 32, 61, 32, 49, 59] } : ByteArray)] _ HC4.out (by simp) (by simp) (by intro x hx; simp only [List.mem_cons, List.not_mem_nil, or_false] at hx; have y0 : (({ data := #[108, 101, 116, 32] } : ByteArray)).size = 4 := rfl; have y1 : (({ data := #[32, 61, 32] } : ByteArray)).size = 3 := rfl; have y2 : (({ data := #[59] } : ByteArray)).size = 1 := rfl; have y3 : (({ data := #[102, 117, 110, 99, 116, 105, 111, 110, 32, 102, 40, 41, 32, 123, 32, 114, 101, 116, 117, 114, 110, 32] } : ByteArray)).size = 22 := rfl; have y4 : (({ data := #[59, 32, 125] } : ByteArray)).size = 3 := rfl; have y5 : (({ data := #[108, 101, 116, 32, 122, 32, 61, 32, 49, 59] } : ByteArray)).size = 10 := rfl; rcases hx with rfl | rfl | rfl <;> simp only [ByteArray.size_append, y0, y1, y2, y3, y4, y5] <;> omega)).mono ?_
      rintro e w5 ⟨x5, q5, rfl, z5, hc, hg⟩
      have HC5 := hidI hc
      have HG5 := hidI (grown_trans HG4.out hg)
      clear hc hg
      go_wp2
      go_ret
      exact ⟨_, q5, rfl, by have y0 : (({ data := #[101, 120, 112, 111, 114, 116, 32] } : ByteArray)).size = 7 := rfl; simp only [ByteArray.size_append, y0]; omega, HC5.out, HG5.out⟩
  | true =>
    rcases (show k4 = 0 ∨ k4 = 1 ∨ k4 = 2 ∨ k4 = 3 ∨ k4 = 4 ∨ k4 = 5 ∨ k4 = 6 ∨ k4 = 7 ∨ k4 = 8 ∨ k4 = 9 ∨ k4 = 10 ∨ k4 = 11 ∨ k4 = 12 ∨ k4 = 13 ∨ k4 = 14 ∨ k4 = 15 by omega) with rfl | rfl | rfl | rfl | rfl | rfl | rfl | rfl | rfl | rfl | rfl | rfl | rfl | rfl | rfl | rfl
    · go_wp2
      go_ret
      exact ⟨_, q4, rfl, by have y0 : (({ data := #[108, 101, 116, 32] } : ByteArray)).size = 4 := rfl; have y1 : (({ data := #[32, 61, 32] } : ByteArray)).size = 3 := rfl; have y2 : (({ data := #[59] } : ByteArray)).size = 1 := rfl; simp only [ByteArray.size_append, y0, y1, y2]; omega, HC4.out, HG4.out⟩
    · go_wp2
      go_ret
      exact ⟨_, q4, rfl, by have y0 : (({ data := #[108, 101, 116, 32] } : ByteArray)).size = 4 := rfl; have y1 : (({ data := #[32, 61, 32] } : ByteArray)).size = 3 := rfl; have y2 : (({ data := #[59] } : ByteArray)).size = 1 := rfl; simp only [ByteArray.size_append, y0, y1, y2]; omega, HC4.out, HG4.out⟩
    · go_wp2
      go_ret
      exact ⟨_, q4, rfl, by have y0 : (({ data := #[108, 101, 116, 32] } : ByteArray)).size = 4 := rfl; have y1 : (({ data := #[32, 61, 32] } : ByteArray)).size = 3 := rfl; have y2 : (({ data := #[59] } : ByteArray)).size = 1 := rfl; simp only [ByteArray.size_append, y0, y1, y2]; omega, HC4.out, HG4.out⟩
    · go_wp2_with fail
      refine (pick_new S hS g _ 100 [{ data := #[102] }, { data := #[103] }] _ HC4.out (by simp) (by simp) (by intro x hx; simp only [List.mem_cons, List.not_mem_nil, or_false] at hx; rcases hx with rfl | rfl <;> decide)).mono ?_
      rintro e w5 ⟨x5, q5, rfl, z5, hc, hg⟩
      have HC5 := hidI hc
      have HG5 := hidI (grown_trans HG4.out hg)
      clear hc hg
      go_wp2
      go_ret
      exact ⟨_, q5, rfl, by have y0 : (({ data := #[102, 117, 110, 99, 116, 105, 111, 110, 32] } : ByteArray)).size = 9 := rfl; have y1 : (({ data := #[40, 41, 32, 123, 32, 114, 101, 116, 117, 114, 110, 32] } : ByteArray)).size = 12 := rfl; have y2 : (({ data := #[59, 32, 125] } : ByteArray)).size = 3 := rfl; simp only [ByteArray.size_append, y0, y1, y2]; omega, HC5.out, HG5.out⟩
    · go_wp2
      go_ret
      exact ⟨_, q4, rfl, by have y0 : (({ data := #[32, 61, 32] } : ByteArray)).size = 3 := rfl; have y1 : (({ data := #[59] } : ByteArray)).size = 1 := rfl; simp only [ByteArray.size_append, y0, y1]; omega, HC4.out, HG4.out⟩
    · go_wp2
      go_ret
      exact ⟨_, q4, rfl, by have y0 : (({ data := #[112, 114, 105, 110, 116, 40] } : ByteArray)).size = 6 := rfl; have y1 : (({ data := #[41, 59] } : ByteArray)).size = 2 := rfl; simp only [ByteArray.size_append, y0, y1]; omega, HC4.out, HG4.out⟩
    · go_wp2
      go_ret
      exact ⟨_, q4, rfl, by have y0 : (({ data := #[112, 114, 105, 110, 116, 40] } : ByteArray)).size = 6 := rfl; have y1 : (({ data := #[41, 59] } : ByteArray)).size = 2 := rfl; simp only [ByteArray.size_append, y0, y1]; omega, HC4.out, HG4.out⟩
    · go_wp2_with fail
      refine (l1Once_any S hS g _ 2 _ HC4.out (by omega)).mono ?_
      rintro e w5 ⟨rfl, hc, hg⟩
      obtain ⟨q5, hq⟩ : ∃ q', (bw S q4 2).2 = q' := ⟨_, rfl⟩
      rw [hq] at hc
      have HC5 := hidI hc
      have HG5 := hidI (grown_trans HG4.out hg)
      clear hc hg hq
      generalize ((bw S q4 2).1 == 0) = b
      cases b with
      | false =>
        go_wp2
        go_ret
        exact ⟨_, q5, rfl, by have y0 : (({ data := #[116, 104, 114, 111, 119, 32] } : ByteArray)).size = 6 := rfl; have y1 : (({ data := #[59] } : ByteArray)).size = 1 := rfl; simp only [ByteArray.size_append, y0, y1]; omega, HC5.out, HG5.out⟩
      | true =>
        go_wp2
        go_ret
        exact ⟨_, q5, rfl, by have y0 : (({ data := #[102, 97, 105, 108, 32] } : ByteArray)).size = 5 := rfl; have y1 : (({ data := #[59] } : ByteArray)).size = 1 := rfl; simp only [ByteArray.size_append, y0, y1]; omega, HC5.out, HG5.out⟩
    · go_wp2
      go_ret
      exact ⟨_, q4, rfl, by have y0 : (({ data := #[108, 101, 116, 32] } : ByteArray)).size = 4 := rfl; have y1 : (({ data := #[32, 61, 32] } : ByteArray)).size = 3 := rfl; have y2 : (({ data := #[59] } : ByteArray)).size = 1 := rfl; simp only [ByteArray.size_append, y0, y1, y2]; omega, HC4.out, HG4.out⟩
    · go_wp2
      go_ret
      exact ⟨_, q4, rfl, by have y0 : (({ data := #[108, 101, 116, 32] } : ByteArray)).size = 4 := rfl; have y1 : (({ data := #[32, 61, 32] } : ByteArray)).size = 3 := rfl; have y2 : (({ data := #[59] } : ByteArray)).size = 1 := rfl; simp only [ByteArray.size_append, y0, y1, y2]; omega, HC4.out, HG4.out⟩
    · go_wp2
      go_ret
      exact ⟨_, q4, rfl, by have y0 : (({ data := #[108, 101, 116, 32] } : ByteArray)).size = 4 := rfl; have y1 : (({ data := #[32, 61, 32] } : ByteArray)).size = 3 := rfl; have y2 : (({ data := #[59] } : ByteArray)).size = 1 := rfl; simp only [ByteArray.size_append, y0, y1, y2]; omega, HC4.out, HG4.out⟩
    · go_wp2_with fail
      refine (pick_new S hS g _ 100 [{ data := #[102] }, { data := #[103] }] _ HC4.out (by simp) (by simp) (by intro x hx; simp only [List.mem_cons, List.not_mem_nil, or_false] at hx; rcases hx with rfl | rfl <;> decide)).mono ?_
      rintro e w5 ⟨x5, q5, rfl, z5, hc, hg⟩
      have HC5 := hidI hc
      have HG5 := hidI (grown_trans HG4.out hg)
      clear hc hg
      go_wp2
      go_ret
      exact ⟨_, q5, rfl, by have y0 : (({ data := #[102, 117, 110, 99, 116, 105, 111, 110, 32] } : ByteArray)).size = 9 := rfl; have y1 : (({ data := #[40, 41, 32, 123, 32, 114, 101, 116, 117, 114, 110, 32] } : ByteArray)).size = 12 := rfl; have y2 : (({ data := #[59, 32, 125] } : ByteArray)).size = 3 := rfl; simp only [ByteArray.size_append, y0, y1, y2]; omega, HC5.out, HG5.out⟩
    · go_wp2
      go_ret
      exact ⟨_, q4, rfl, by have y0 : (({ data := #[32, 61, 32] } : ByteArray)).size = 3 := rfl; have y1 : (({ data := #[59] } : ByteArray)).size = 1 := rfl; simp only [ByteArray.size_append, y0, y1]; omega, HC4.out, HG4.out⟩
    · go_wp2
      go_ret
      exact ⟨_, q4, rfl, by have y0 : (({ data := #[112, 114, 105, 110, 116, 40] } : ByteArray)).size = 6 := rfl; have y1 : (({ data := #[41, 59] } : ByteArray)).size = 2 := rfl; simp only [ByteArray.size_append, y0, y1]; omega, HC4.out, HG4.out⟩
    · go_wp2
      go_ret
      exact ⟨_, q4, rfl, by have y0 : (({ data := #[112, 114, 105, 110, 116, 40] } : ByteArray)).size = 6 := rfl; have y1 : (({ data := #[41, 59] } : ByteArray)).size = 2 := rfl; simp only [ByteArray.size_append, y0, y1]; omega, HC4.out, HG4.out⟩
    · go_wp2_with fail
      refine (l1Once_any S hS g _ 2 _ HC4.out (by omega)).mono ?_
      rintro e w5 ⟨rfl, hc, hg⟩
      obtain ⟨q5, hq⟩ : ∃ q', (bw S q4 2).2 = q' := ⟨_, rfl⟩
      rw [hq] at hc
      have HC5 := hidI hc
      have HG5 := hidI (grown_trans HG4.out hg)
      clear hc hg hq
      generalize ((bw S q4 2).1 == 0) = b
      cases b with
      | false =>
        go_wp2
        go_ret
        exact ⟨_, q5, rfl, by have y0 : (({ data := #[116, 104, 114, 111, 119, 32] } : ByteArray)).size = 6 := rfl; have y1 : (({ data := #[59] } : ByteArray)).size = 1 := rfl; simp only [ByteArray.size_append, y0, y1]; omega, HC5.out, HG5.out⟩
      | true =>
        go_wp2
        go_ret
        exact ⟨_, q5, rfl, by have y0 : (({ data := #[102, 97, 105, 108, 32] } : ByteArray)).size = 5 := rfl; have y1 : (({ data := #[59] } : ByteArray)).size = 1 := rfl; simp only [ByteArray.size_append, y0, y1]; omega, HC5.out, HG5.out⟩
end Go.Proofs.Ytdbpknmoacjodaa
namespace Go.Proofs.Ytdbpknmoacjodaa
open Go.RowKit Go.PlainAid

end Go.Proofs.Ytdbpknmoacjodaa
namespace Go.Proofs.Ytdbpknmoacjodaa
open Go.RowKit Go.PlainAid

def TxAt (S : Src) (y : Int) (T : List Int × (Nat × Int)) (acc : List Int) (n : Nat) (q : Nat × Int) : Prop := acc ++ (txGo S y n q).1 = T.1 ∧ (txGo S y n q).2 = T.2
theorem txAt_next {S : Src} {y : Int} {T : List Int × (Nat × Int)} {acc : List Int} {n : Nat} {q : Nat × Int} (h : TxAt S y T acc (n + 1) q) : TxAt S y T (acc ++ [chr y (cb S q).1]) n (cb S q).2 := by
  obtain ⟨a, b⟩ := h
  rw [txGo] at a b
  exact ⟨by rw [List.append_assoc]; exact a, b⟩
theorem txAt_end {S : Src} {y : Int} {T : List Int × (Nat × Int)} {acc : List Int} {q : Nat × Int} (h : TxAt S y T acc 0 q) : acc = T.1 ∧ q = T.2 := by
  obtain ⟨a, b⟩ := h
  rw [txGo] at a b
  exact ⟨by simpa using a, b⟩

set_option maxHeartbeats 1600000 in
theorem l1Text_any (S : Src) (hS : S.ok) (g : Nat) (q : Nat × Int) (most : Int) (w : World) (hc : CurW 201 S w g q) (hm0 : 0 ≤ most) (hm1 : most ≤ 1000) :
    Calls Try.prog 91 #[.pointer (some ⟨g, 0, none⟩), .int .i64 most] w fun e w' => e = .returned (.string (strOfNums (tx S q most).1)) ∧ CurW 201 S w' g (tx S q most).2 ∧ w.grownBy w' (some g) := by
  obtain ⟨i0, hi, hz0, hz1, hz2⟩ := info_parts Try.infoByte
  have hgw := curW_lt hc
  have hbn := bw_bd S (bw S q 4).2 (most + 1) (by omega)
  have HT : Hid (tx S q most = txGo S (bw S q 4).1 (bw S (bw S q 4).2 (most + 1)).1.toNat (bw S (bw S q 4).2 (most + 1)).2) := rfl
  go_enter Try.func91, Try.ntmps91
  go_wp2_with fail
  refine (l1Below_any S hS g q 4 _ (curW_below hc ((Below.refl w.heap.size w).alloc (Nat.le_refl _) _) hgw) (by omega)).mono ?_
  rintro e w1 ⟨rfl, hc1, hg1⟩
  go_wp2_with fail
  refine (l1Below_any S hS g _ (most + 1) _ hc1 (by omega)).mono ?_
  rintro e w2 ⟨rfl, hc2, hg2⟩
  have hown : OwnB w2 w.heap.size 5 (.slice (some ⟨w.heap.size, 0, none⟩) 0 0) 0 [] := by
    have h0 : OwnB (w.alloc (.cells #[] 5)) w.heap.size 5 (.slice (some ⟨w.heap.size, 0, none⟩) 0 0) 0 [] := World.ownsRow_lit w #[] 0 (Nat.le_refl _) (by unfold maxLen; omega) rfl
    exact ownB_grown (ownB_grown h0 hg1 hgw) hg2 hgw
  have hgr : w.grownBy w2 (some g) := grown_trans (grown_trans (grown_below (World.grownBy.refl w _) ((Below.refl w.heap.size w).alloc (Nat.le_refl _) (.cells #[] 5)) (Nat.le_refl _)) hg1) hg2
  obtain ⟨m0, hm0e⟩ : ∃ m : Nat, (bw S (bw S q 4).2 (most + 1)).1 = m := ⟨(bw S (bw S q 4).2 (most + 1)).1.toNat, by omega⟩
  rw [hm0e]
  have HST : Hid (TxAt S (bw S q 4).1 (tx S q most) [] m0 (bw S (bw S q 4).2 (most + 1)).2) := by
    show TxAt _ _ _ _ _ _
    have e := HT.out
    rw [hm0e, Int.toNat_natCast] at e
    rw [e]
    exact ⟨rfl, rfl⟩
  have hm0b : m0 ≤ 1000 := by omega
  clear hm0e HT hbn hc hc1 hg1 hg2
  go_wp2
  go_loopw [5, 7, 8] (fun v n _ wr => ∃ (k : Nat) (acc : List Int) (m : Nat) (p : Nat × Int), n = .int .i64 m ∧ k + m ≤ 1000 ∧ TxAt S (bw S q 4).1 (tx S q most) acc m p ∧ OwnB wr w.heap.size 5 v k acc ∧ CurW 201 S wr g p ∧ w.grownBy wr (some g)) (fun _ n _ _ => (intOf n).toNat)
  case atStart => exact ⟨0, [], m0, _, rfl, by omega, HST.out, hown, hc2, hgr⟩
  case round =>
    obtain ⟨k, acc, m, p, rfl, hkm, hat, hownr, hcr, hgrr⟩ := hrel
    have HAT := hat
    clear hat hown hc2 hgr
    match m, hkm, HAT with
    | 0, hkm, HAT =>
      obtain ⟨e1, e2⟩ := txAt_end HAT
      have HE1 : Hid (acc = (tx S q most).1) := e1
      have HE2 : Hid (p = (tx S q most).2) := e2
      clear e1 e2 HAT
      rw [HE1.out] at hownr
      have hst := run_string_own (P := Try.prog) (src := 59) (dst := 9) Try.underlying59 Try.underlying5 Try.underlying9 hownr
      go_wp2
      go_ret
      exact ⟨rfl, by rw [← HE2.out]; exact hcr, hgrr⟩
    | m + 1, hkm, HAT0 =>
      have HAT : Hid (TxAt S (bw S q 4).1 (tx S q most) acc (m + 1) p) := HAT0
      clear HAT0
      have hcb := cb_bd S p
      by_cases h1 : (bw S q 4).1 = 1
      · have q1 : ((bw S q 4).1 == 1) = true := by simpa using h1
        have q2 : ((bw S q 4).1 == 2) = false := by rw [h1]; rfl
        have HCH : Hid (chr (bw S q 4).1 (cb S p).1 = (cb S p).1 % 2) := by show chr _ _ = _; rw [chr, if_pos h1]
        clear h1
        go_wp2_with (first | (go_at_call 149; refine (l1Byte_any S hS g p _ hcr).mono ?_; rintro e w3 ⟨rfl, hc3, hg3⟩; have hown3 := ownB_grown hownr hg3 hgw; have hsz3 := Nat.le_trans hgrr.size hg3.size) | (at_builtin; refine app_byte w3 rfl _ _ 59 rfl w.heap.size 5 i0 Try.underlying59 hi hz0 hz1 hz2 _ k acc (by rfl) hown3 ((cb S p).1 % 2) (by rfl) (by omega) hsz3 ?_))
        intro v' w4 hown4 hb4
        go_wp2
        go_roundw
        case rel => exact ⟨k + 1, acc ++ [(cb S p).1 % 2], m, (cb S p).2, by go_num, by omega, by rw [← HCH.out]; exact txAt_next HAT.out, hown4, curW_below hc3 hb4 hgw, grown_below (grown_trans hgrr hg3) hb4 (Nat.le_refl _)⟩
        case measure => simp [intOf]
      · have q1 : ((bw S q 4).1 == 1) = false := by simpa using h1
        by_cases h2 : (bw S q 4).1 = 2
        · have q2 : ((bw S q 4).1 == 2) = true := by simpa using h2
          have HCH : Hid (chr (bw S q 4).1 (cb S p).1 = 97 + (cb S p).1 % 4) := by show chr _ _ = _; rw [chr, if_neg h1, if_pos h2]
          clear h1 h2
          go_wp2_with (first | (go_at_call 149; refine (l1Byte_any S hS g p _ hcr).mono ?_; rintro e w3 ⟨rfl, hc3, hg3⟩; have hown3 := ownB_grown hownr hg3 hgw; have hsz3 := Nat.le_trans hgrr.size hg3.size) | (at_builtin; refine app_byte w3 rfl _ _ 59 rfl w.heap.size 5 i0 Try.underlying59 hi hz0 hz1 hz2 _ k acc (by rfl) hown3 (97 + (cb S p).1 % 4) (by rfl) (by omega) hsz3 ?_))
          intro v' w4 hown4 hb4
          go_wp2
          go_roundw
          case rel => exact ⟨k + 1, acc ++ [97 + (cb S p).1 % 4], m, (cb S p).2, by go_num, by omega, by rw [← HCH.out]; exact txAt_next HAT.out, hown4, curW_below hc3 hb4 hgw, grown_below (grown_trans hgrr hg3) hb4 (Nat.le_refl _)⟩
          case measure => simp [intOf]
        · have q2 : ((bw S q 4).1 == 2) = false := by simpa using h2
          have HCH : Hid (chr (bw S q 4).1 (cb S p).1 = (cb S p).1) := by show chr _ _ = _; rw [chr, if_neg h1, if_neg h2]
          clear h1 h2
          go_wp2_with (first | (go_at_call 149; refine (l1Byte_any S hS g p _ hcr).mono ?_; rintro e w3 ⟨rfl, hc3, hg3⟩; have hown3 := ownB_grown hownr hg3 hgw; have hsz3 := Nat.le_trans hgrr.size hg3.size) | (at_builtin; refine app_byte w3 rfl _ _ 59 rfl w.heap.size 5 i0 Try.underlying59 hi hz0 hz1 hz2 _ k acc (by rfl) hown3 ((cb S p).1) (by rfl) (by omega) hsz3 ?_))
          intro v' w4 hown4 hb4
          go_wp2
          go_roundw
          case rel => exact ⟨k + 1, acc ++ [(cb S p).1], m, (cb S p).2, by go_num, by omega, by rw [← HCH.out]; exact txAt_next HAT.out, hown4, curW_below hc3 hb4 hgw, grown_below (grown_trans hgrr hg3) hb4 (Nat.le_refl _)⟩
          case measure => simp [intOf]
end Go.Proofs.Ytdbpknmoacjodaa
namespace Go.Proofs.Ytdbpknmoacjodaa
open Go.RowKit Go.PlainAid

theorem spoil_e {S : Src} {q : Nat × Int} {s : ByteArray} (h : s.size = 0) : spoil S q s = (strOfNums (tx S q 3).1, (tx S q 3).2) := by rw [spoil, if_pos h]
theorem spoil_0 {S : Src} {q : Nat × Int} {s : ByteArray} {k : Nat} (h : s.size ≠ 0) (hk : (bw S q s.size).1 = k) (hm : (bw S (bw S q s.size).2 4).1 = 0) : spoil S q s = (s.extract 0 k ++ s.extract (k + 1) s.size, (bw S (bw S q s.size).2 4).2) := by
  rw [spoil, if_neg h, if_pos hm, hk]; rfl
theorem spoil_1 {S : Src} {q : Nat × Int} {s : ByteArray} {k : Nat} (h : s.size ≠ 0) (hk : (bw S q s.size).1 = k) (hm : (bw S (bw S q s.size).2 4).1 = 1) : spoil S q s = (s.extract 0 k ++ strOfNums [(cb S (bw S (bw S q s.size).2 4).2).1] ++ s.extract k s.size, (cb S (bw S (bw S q s.size).2 4).2).2) := by
  rw [spoil, if_neg h, if_neg (by omega), if_pos hm, hk]; rfl
theorem spoil_2 {S : Src} {q : Nat × Int} {s : ByteArray} {k : Nat} (h : s.size ≠ 0) (hk : (bw S q s.size).1 = k) (hm : (bw S (bw S q s.size).2 4).1 = 2) : spoil S q s = (s.extract 0 k, (bw S (bw S q s.size).2 4).2) := by
  rw [spoil, if_neg h, if_neg (by omega), if_neg (by omega), if_pos hm, hk]; rfl
theorem spoil_3 {S : Src} {q : Nat × Int} {s : ByteArray} {k : Nat} (h : s.size ≠ 0) (hk : (bw S q s.size).1 = k) (h0 : (bw S (bw S q s.size).2 4).1 ≠ 0) (h1 : (bw S (bw S q s.size).2 4).1 ≠ 1) (h2 : (bw S (bw S q s.size).2 4).1 ≠ 2) :
    spoil S q s = (s.extract 0 k ++ strOfNums [IntKind.u8.wrap (bits .xor .i64 (bt s k) (1 + (bw S (bw S (bw S q s.size).2 4).2 255).1))] ++ s.extract (k + 1) s.size, (bw S (bw S (bw S q s.size).2 4).2 255).2) := by
  rw [spoil, if_neg h, if_neg h0, if_neg h1, if_neg h2, hk]; rfl

set_option maxHeartbeats 3200000 in
theorem l1Spoil_any (S : Src) (hS : S.ok) (g : Nat) (q : Nat × Int) (s : ByteArray) (w : World) (hc : CurW 201 S w g q) (hs : s.size ≤ 100000) :
    Calls Try.prog 87 #[.pointer (some ⟨g, 0, none⟩), .string s] w fun e w' => e = .returned (.string (spoil S q s).1) ∧ CurW 201 S w' g (spoil S q s).2 ∧ w.grownBy w' (some g) := by
  by_cases h0 : s.size = 0
  · have HS : Hid (spoil S q s = (strOfNums (tx S q 3).1, (tx S q 3).2)) := spoil_e h0
    have hq : ((s.size : Int) == 0) = true := by rw [h0]; rfl
    clear h0
    go_enter Try.func87, Try.ntmps87
    go_wp2_with fail
    refine (l1Text_any S hS g q 3 _ hc (by omega) (by omega)).mono ?_
    rintro e w1 ⟨rfl, hc1, hg1⟩
    go_wp2
    go_ret
    exact ⟨ret_str (by rw [HS.out]), by rw [HS.out]; exact hc1, hg1⟩
  · have hq : ((s.size : Int) == 0) = false := beq_eq_false_iff_ne.2 (by omega)
    have hbk := bw_bd S q s.size (by omega)
    obtain ⟨k, hk⟩ : ∃ k : Nat, (bw S q s.size).1 = k := ⟨(bw S q s.size).1.toNat, by omega⟩
    have HK : Hid ((bw S q s.size).1 = k) := hk
    have hks : k < s.size := by omega
    have hbm := bw_bd S (bw S q s.size).2 4 (by omega)
    have hb := get_bt s
    have hb0 := bt_nonneg s k
    have hb1 := bt_le s k
    have e1 : IntKind.i64.wrap ((k : Int) + 1) = (k : Int) + 1 := IntWalk.i64_in _ ⟨by omega, by omega⟩
    have e2 : IntKind.i64.wrap (bt s k) = bt s k := IntWalk.i64_in _ ⟨by omega, by omega⟩
    have l1 : (0 : Int) ≤ (k : Int) := by omega
    have l2 : (k : Int) ≤ s.size := by omega
    have l3 : (0 : Int) ≤ (k : Int) + 1 := by omega
    have l4 : (k : Int) + 1 ≤ s.size := by omega
    have z1 : (s.extract 0 k).size ≤ 100000 := by simp; omega
    have z2 : (s.extract (k + 1) s.size).size ≤ 100000 := by simp; omega
    have z3 : (s.extract k s.size).size ≤ 100000 := by simp; omega
    have hst := fun (w : World) (x : Int) => run_string_one (P := Try.prog) (src := 59) (dst := 9) Try.underlying59 Try.underlying5 Try.underlying9 w x
    have hone := fun x => strOfNums_size [x]
    have y1 : ¬ (9223372036854775807 < min k s.size + 1) := by omega
    have y2 : ¬ (9223372036854775807 < min k s.size + 1 + (s.size - k)) := by omega
    have y3 : ¬ (9223372036854775807 < min k s.size + 1 + (s.size - (k + 1))) := by omega
    clear hbk
    by_cases m0 : (bw S (bw S q s.size).2 4).1 = 0
    · have HS : Hid (spoil S q s = (s.extract 0 k ++ s.extract (k + 1) s.size, (bw S (bw S q s.size).2 4).2)) := spoil_0 h0 hk m0
      have q0 : ((bw S (bw S q s.size).2 4).1 == 0) = true := by simpa using m0
      clear hk m0 h0
      go_enter Try.func87, Try.ntmps87
      go_wp2_with fail
      refine (l1Below_any S hS g q s.size _ hc (by omega)).mono ?_
      rintro e w1 ⟨rfl, hc1, hg1⟩
      rw [HK.out]
      go_wp2_with fail
      refine (l1Below_any S hS g _ 4 _ hc1 (by omega)).mono ?_
      rintro e w2 ⟨rfl, hc2, hg2⟩
      go_wp2
      go_quiet (fail)
      go_wp2
      go_ret
      exact ⟨ret_str (by rw [HS.out]), by rw [HS.out]; exact curW_drewN hc2 _, grown_drewN (grown_trans hg1 hg2) _⟩
    · have q0 : ((bw S (bw S q s.size).2 4).1 == 0) = false := by simpa using m0
      by_cases m1 : (bw S (bw S q s.size).2 4).1 = 1
      · have HS : Hid (spoil S q s = (s.extract 0 k ++ strOfNums [(cb S (bw S (bw S q s.size).2 4).2).1] ++ s.extract k s.size, (cb S (bw S (bw S q s.size).2 4).2).2)) := spoil_1 h0 hk m1
        have q1 : ((bw S (bw S q s.size).2 4).1 == 1) = true := by simpa using m1
        have hcb := cb_bd S (bw S (bw S q s.size).2 4).2
        have e3 : IntKind.u8.wrap (cb S (bw S (bw S q s.size).2 4).2).1 = (cb S (bw S (bw S q s.size).2 4).2).1 := IntWalk.u8_in _ hcb
        have z4 : (s.extract 0 k ++ strOfNums [(cb S (bw S (bw S q s.size).2 4).2).1]).size ≤ 100001 := by rw [ByteArray.size_append, strOfNums_size]; simp; omega
        clear hk m0 m1 h0
        go_enter Try.func87, Try.ntmps87
        go_wp2_with fail
        refine (l1Below_any S hS g q s.size _ hc (by omega)).mono ?_
        rintro e w1 ⟨rfl, hc1, hg1⟩
        rw [HK.out]
        go_wp2_with fail
        refine (l1Below_any S hS g _ 4 _ hc1 (by omega)).mono ?_
        rintro e w2 ⟨rfl, hc2, hg2⟩
        go_wp2
        have hcd : CurW 201 S w2.drew g (bw S (bw S q s.size).2 4).2 := curW_kept hc2 fun _ _ => rfl
        have hgd : w.grownBy w2.drew (some g) := grown_drewN (grown_trans hg1 hg2) 1
        have hgs := curW_lt hcd
        go_region_law (go_simp; go_wp2_with (go_at_call 149; refine (l1Byte_any S hS g _ _ hcd).mono ?_; rintro e w3 ⟨rfl, hc3, hg3⟩))
        all_goals
          go_wp2
          go_ret
          refine ⟨ret_str (by rw [HS.out]), ?_, grown_below (grown_trans hgd hg3) ((Below.refl w3.heap.size w3).alloc (Nat.le_refl _) _) (Nat.le_trans hgd.size hg3.size)⟩
          rw [HS.out]
          exact curW_below hc3 ((Below.refl w3.heap.size w3).alloc (Nat.le_refl _) _) (Nat.lt_of_lt_of_le hgs hg3.size)
      · have q1 : ((bw S (bw S q s.size).2 4).1 == 1) = false := by simpa using m1
        by_cases m2 : (bw S (bw S q s.size).2 4).1 = 2
        · have HS : Hid (spoil S q s = (s.extract 0 k, (bw S (bw S q s.size).2 4).2)) := spoil_2 h0 hk m2
          have q2 : ((bw S (bw S q s.size).2 4).1 == 2) = true := by simpa using m2
          clear hk m0 m1 m2 h0
          go_enter Try.func87, Try.ntmps87
          go_wp2_with fail
          refine (l1Below_any S hS g q s.size _ hc (by omega)).mono ?_
          rintro e w1 ⟨rfl, hc1, hg1⟩
          rw [HK.out]
          go_wp2_with fail
          refine (l1Below_any S hS g _ 4 _ hc1 (by omega)).mono ?_
          rintro e w2 ⟨rfl, hc2, hg2⟩
          go_wp2
          go_ret
          exact ⟨ret_str (by rw [HS.out]), by rw [HS.out]; exact hc2, grown_trans hg1 hg2⟩
        · have q2 : ((bw S (bw S q s.size).2 4).1 == 2) = false := by simpa using m2
          have HS : Hid (spoil S q s = (s.extract 0 k ++ strOfNums [IntKind.u8.wrap (bits .xor .i64 (bt s k) (1 + (bw S (bw S (bw S q s.size).2 4).2 255).1))] ++ s.extract (k + 1) s.size, (bw S (bw S (bw S q s.size).2 4).2 255).2)) := spoil_3 h0 hk m0 m1 m2
          have hcb := bw_bd S (bw S (bw S q s.size).2 4).2 255 (by omega)
          have e3 : IntKind.i64.wrap (1 + (bw S (bw S (bw S q s.size).2 4).2 255).1) = 1 + (bw S (bw S (bw S q s.size).2 4).2 255).1 := IntWalk.i64_in _ ⟨by omega, by omega⟩
          have z4 : (s.extract 0 k ++ strOfNums [IntKind.u8.wrap (bits .xor .i64 (bt s k) (1 + (bw S (bw S (bw S q s.size).2 4).2 255).1))]).size ≤ 100001 := by rw [ByteArray.size_append, strOfNums_size]; simp; omega
          clear hk m0 m1 m2 h0
          go_enter Try.func87, Try.ntmps87
          go_wp2_with fail
          refine (l1Below_any S hS g q s.size _ hc (by omega)).mono ?_
          rintro e w1 ⟨rfl, hc1, hg1⟩
          rw [HK.out]
          go_wp2_with fail
          refine (l1Below_any S hS g _ 4 _ hc1 (by omega)).mono ?_
          rintro e w2 ⟨rfl, hc2, hg2⟩
          go_wp2
          have hcd : CurW 201 S w2.drew g (bw S (bw S q s.size).2 4).2 := curW_kept hc2 fun _ _ => rfl
          have hgd : w.grownBy w2.drew (some g) := grown_drewN (grown_trans hg1 hg2) 1
          have hgs := curW_lt hcd
          go_region_law (go_simp; go_wp2_with (go_at_call 146; refine (l1Below_any S hS g _ 255 _ hcd (by omega)).mono ?_; rintro e w3 ⟨rfl, hc3, hg3⟩))
          all_goals
            go_wp2
            go_ret
            refine ⟨ret_str (by rw [HS.out]), ?_, grown_below (grown_trans hgd hg3) ((Below.refl w3.heap.size w3).alloc (Nat.le_refl _) _) (Nat.le_trans hgd.size hg3.size)⟩
            rw [HS.out]
            exact curW_below hc3 ((Below.refl w3.heap.size w3).alloc (Nat.le_refl _) _) (Nat.lt_of_lt_of_le hgs hg3.size)

end Go.Proofs.Ytdbpknmoacjodaa
