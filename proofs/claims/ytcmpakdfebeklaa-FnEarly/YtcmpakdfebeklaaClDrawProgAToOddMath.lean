/-
  What the specification's draws of programs tell: some text, not a long one: the walks.
  What the specification's draw of an item tells: some text, not a long one: the walk.
  The row of the type byte.
  What l1Text of the specification tells: the walk.
  What spec.l1Spoil tells: the walk.
  What the specification's draw of a program's text tells: some text, not a long one: the walk.
  A program that was read has no name longer than its text, and no number that is great. No program is spoken of.
  A program that was read has no statement of DefaultName that is no let. No program is spoken of.
-/
import Derived.Test.YtcmpakdfebeklaaClImplParseJToMdMem
namespace Go.Proofs.Ytcmpakdfebeklaa
open Go.RowKit Go.PlainAid

def StrOut (S : Src) (g N : Nat) (w : World) (e : Ending) (w' : World) : Prop := ∃ x q', e = .returned (.string x) ∧ x.size ≤ N ∧ CurW 99 S w' g q' ∧ w.grownBy w' (some g)
theorem grown_alloc (w : World) (o : Obj) (r : Option Nat) : w.grownBy (w.alloc o) r := ⟨rfl, rfl, rfl, by rw [alloc_size]; omega, fun k hk _ => heap_alloc_old w o hk⟩
theorem cur_alloc {S : Src} {w : World} {g : Nat} {q : Nat × Int} (h : CurW 99 S w g q) (o : Obj) : CurW 99 S (w.alloc o) g q := curW_below h ((Below.refl w.heap.size w).alloc (Nat.le_refl _) _) (curW_lt h)
theorem pick_new (S : Src) (hS : S.ok) (g : Nat) (q : Nat × Int) (N : Nat) (l : List ByteArray) (w : World) (hc : CurW 99 S w g q) (h1 : 1 ≤ l.length) (h2 : l.length ≤ 1000) (hl : ∀ x ∈ l, x.size ≤ N) :
    Calls Try.prog 35 #[.pointer (some ⟨g, 0, none⟩), .slice (some ⟨w.heap.size, 0, none⟩) l.length l.length] (w.alloc (.cells (l.map Value.string).toArray 9)) (StrOut S g N w) := by
  have hg := curW_lt hc
  refine (l1Pick_le S hS g q w.heap.size l.length N _ (cur_alloc hc _) h1 h2 (by rw [alloc_size]; omega) (by omega) ?_).mono ?_
  · intro j hj
    rw [World.cell?_alloc_new]
    refine ⟨l[j], ?_, hl _ (List.getElem_mem hj)⟩
    simp [List.getElem?_eq_getElem hj]
  · rintro e w' ⟨x, q', rfl, hx, hcx, hgx⟩
    exact ⟨x, q', rfl, hx, hcx, grown_trans (grown_alloc w _ _) hgx⟩
set_option maxRecDepth 100000 in
set_option maxHeartbeats 6400000 in
theorem l4Expr_step (S : Src) (hS : S.ok) (g : Nat) (scr : Bool) (d N : Nat) (hd : d ≤ 2) (hN : N ≤ 100000) (ih : 0 < d → ∀ (q : Nat × Int) (w : World), CurW 99 S w g q → Calls Try.prog 102 #[.pointer (some ⟨g, 0, none⟩), .int .i64 ((d : Int) - 1), .bool scr] w (StrOut S g N w))
    (q0 : Nat × Int) (w0 : World) (hc : CurW 99 S w0 g q0) : Calls Try.prog 102 #[.pointer (some ⟨g, 0, none⟩), .int .i64 (d : Int), .bool scr] w0 (StrOut S g (2 * N + 110) w0) := by
  have HC0 := hidI hc
  have HG0 : Hid (w0.grownBy w0 (some g)) := ⟨rfl, rfl, rfl, Nat.le_refl _, fun _ _ _ => rfl⟩
  have IH := hidI ih
  clear hc ih
  go_enter Try.func102, Try.ntmps102
  go_wp2_with fail
  refine (pick_new S hS g _ 100 [{ data := #[97] }, { data := #[98] }, { data := #[120] }, { data := #[102] }, { data := #[103] }, { data := #[110] }, { data := #[100] }] _ HC0.out (by simp) (by simp) (by intro x hx; simp only [List.mem_cons, List.not_mem_nil, or_false] at hx; rcases hx with rfl | rfl | rfl | rfl | rfl | rfl | rfl <;> decide)).mono ?_
  rintro e w1 ⟨x1, q1, rfl, z1, hc, hg⟩
  have HC1 := hidI hc
  have HG1 := hidI (grown_trans HG0.out hg)
  clear hc hg
  go_wp2_with fail
  refine (l1Below_any S hS g _ 9 _ HC1.out (by omega)).mono ?_
  rintro e w2 ⟨rfl, hc, hg⟩
  have hbd := bw_bd S q1 9 (by omega)
  obtain ⟨k2, hk⟩ : ∃ k : Nat, (bw S q1 9).1 = k := ⟨(bw S q1 9).1.toNat, by omega⟩
  obtain ⟨q2, hq⟩ : ∃ q', (bw S q1 9).2 = q' := ⟨_, rfl⟩
  rw [hk] at hbd ⊢
  rw [hq] at hc
  have HC2 := hidI hc
  have HG2 := hidI (grown_trans HG1.out hg)
  clear hc hg
  have kb2 : k2 < 9 := by omega
  clear hbd hk hq
  have TAIL : True := trivial
  clear TAIL
  rcases (show k2 = 0 ∨ k2 = 1 ∨ k2 = 2 ∨ k2 = 3 ∨ k2 = 4 ∨ k2 = 5 ∨ k2 = 6 ∨ k2 = 7 ∨ k2 = 8 by omega) with rfl | rfl | rfl | rfl | rfl | rfl | rfl | rfl | rfl
  · go_wp2_with fail
    refine (l1Below_any S hS g _ 9 _ HC2.out (by omega)).mono ?_
    rintro e w3 ⟨rfl, hc, hg⟩
    have hbd := bw_bd S q2 9 (by omega)
    obtain ⟨k3, hk⟩ : ∃ k : Nat, (bw S q2 9).1 = k := ⟨(bw S q2 9).1.toNat, by omega⟩
    obtain ⟨q3, hq⟩ : ∃ q', (bw S q2 9).2 = q' := ⟨_, rfl⟩
    rw [hk] at hbd ⊢
    rw [hq] at hc
    have HC3 := hidI hc
    have HG3 := hidI (grown_trans HG2.out hg)
    clear hc hg
    have kb3 : k3 < 9 := by omega
    clear hbd hk hq
    go_wp2_with fail
    refine (dec_spec (k3 : Int) _ (by omega)).mono ?_
    rintro e w4 ⟨rfl, hb⟩
    have HC4 := hidI (curW_below HC3.out hb (curW_lt HC3.out))
    have HG4 := hidI (grown_below HG3.out hb HG3.out.size)
    have hz := dec_size (k3 : Int) (by omega) (by omega)
    clear hb
    go_wp2
    go_ret
    exact ⟨_, q3, rfl, by omega, HC4.out, HG4.out⟩
  · go_wp2_with fail
    refine (l1Below_any S hS g _ 9 _ HC2.out (by omega)).mono ?_
    rintro e w3 ⟨rfl, hc, hg⟩
    have hbd := bw_bd S q2 9 (by omega)
    obtain ⟨k3, hk⟩ : ∃ k : Nat, (bw S q2 9).1 = k := ⟨(bw S q2 9).1.toNat, by omega⟩
    obtain ⟨q3, hq⟩ : ∃ q', (bw S q2 9).2 = q' := ⟨_, rfl⟩
    rw [hk] at hbd ⊢
    rw [hq] at hc
    have HC3 := hidI hc
    have HG3 := hidI (grown_trans HG2.out hg)
    clear hc hg
    have kb3 : k3 < 9 := by omega
    clear hbd hk hq
    go_wp2_with fail
    refine (dec_spec (k3 : Int) _ (by omega)).mono ?_
    rintro e w4 ⟨rfl, hb⟩
    have HC4 := hidI (curW_below HC3.out hb (curW_lt HC3.out))
    have HG4 := hidI (grown_below HG3.out hb HG3.out.size)
    have hz := dec_size (k3 : Int) (by omega) (by omega)
    clear hb
    go_wp2
    go_ret
    exact ⟨_, q3, rfl, by omega, HC4.out, HG4.out⟩
  · go_wp2
    go_ret
    exact ⟨_, q2, rfl, by have y0 : (({ data := #[32, 40, 32, 41] } : ByteArray)).size = 4 := rfl; simp only [ByteArray.size_append, y0]; omega, HC2.out, HG2.out⟩
  · go_wp2
    go_ret
    exact ⟨_, q2, rfl, by have y0 : (({ data := #[110, 32, 46, 32] } : ByteArray)).size = 4 := rfl; simp only [ByteArray.size_append, y0]; omega, HC2.out, HG2.out⟩
  · go_wp2
    go_ret
    exact ⟨_, q2, rfl, by have y0 : (({ data := #[110, 32, 46, 32, 102, 32, 40, 32, 41] } : ByteArray)).size = 9 := rfl; omega, HC2.out, HG2.out⟩
  · by_cases hd0 : 0 < d
    · go_wp2_with fail
      refine (IH.out hd0 q2 _ HC2.out).mono ?_
      rintro e w3 ⟨x3, q3, rfl, z3, hc, hg⟩
      have HC3 := hidI hc
      have HG3 := hidI (grown_trans HG2.out hg)
      clear hc hg
      go_wp2_with fail
      refine (pick_new S hS g _ 100 [{ data := #[43] }, { data := #[45] }, { data := #[42] }] _ HC3.out (by simp) (by simp) (by intro x hx; simp only [List.mem_cons, List.not_mem_nil, or_false] at hx; rcases hx with rfl | rfl | rfl <;> decide)).mono ?_
      rintro e w4 ⟨x4, q4, rfl, z4, hc, hg⟩
      have HC4 := hidI hc
      have HG4 := hidI (grown_trans HG3.out hg)
      clear hc hg
      go_wp2_with fail
      refine (IH.out hd0 q4 _ HC4.out).mono ?_
      rintro e w5 ⟨x5, q5, rfl, z5, hc, hg⟩
      have HC5 := hidI hc
      have HG5 := hidI (grown_trans HG4.out hg)
      clear hc hg
      go_wp2
      go_ret
      exact ⟨_, q5, rfl, by have y0 : (({ data := #[32] } : ByteArray)).size = 1 := rfl; simp only [ByteArray.size_append, y0]; omega, HC5.out, HG5.out⟩
    · have hdz : ¬ 0 < (d : Int) := by omega
      cases scr with
      | false =>
        go_wp2
        go_ret
        exact ⟨_, q2, rfl, by omega, HC2.out, HG2.out⟩
      | true =>
        go_wp2_with fail
        refine (l1Once_any S hS g _ 8 _ HC2.out (by omega)).mono ?_
        rintro e w3 ⟨rfl, hc, hg⟩
        obtain ⟨q3, hq⟩ : ∃ q', (bw S q2 8).2 = q' := ⟨_, rfl⟩
        rw [hq] at hc
        have HC3 := hidI hc
        have HG3 := hidI (grown_trans HG2.out hg)
        clear hc hg hq
        generalize ((bw S q2 8).1 == 0) = b
        cases b with
        | false =>
          go_wp2
          go_ret
          exact ⟨_, q3, rfl, by omega, HC3.out, HG3.out⟩
        | true =>
          go_wp2_with fail
          refine (pick_new S hS g _ 100 [{ data := #[117, 110, 100, 101, 102] }, { data := #[117, 110, 100, 101, 102, 32, 40, 32, 41] }, { data := #[97, 36, 49] }, { data := #[120, 36] }] _ HC3.out (by simp) (by simp) (by intro x hx; simp only [List.mem_cons, List.not_mem_nil, or_false] at hx; rcases hx with rfl | rfl | rfl | rfl <;> decide)).mono ?_
          rintro e w4 ⟨x4, q4, rfl, z4, hc, hg⟩
          have HC4 := hidI hc
          have HG4 := hidI (grown_trans HG3.out hg)
          clear hc hg
          go_wp2
          go_ret
          exact ⟨_, q4, rfl, by omega, HC4.out, HG4.out⟩
  · by_cases hd0 : 0 < d
    · go_wp2_with fail
      refine (IH.out hd0 q2 _ HC2.out).mono ?_
      rintro e w3 ⟨x3, q3, rfl, z3, hc, hg⟩
      have HC3 := hidI hc
      have HG3 := hidI (grown_trans HG2.out hg)
      clear hc hg
      go_wp2_with fail
      refine (pick_new S hS g _ 100 [{ data := #[43] }, { data := #[45] }, { data := #[42] }] _ HC3.out (by simp) (by simp) (by intro x hx; simp only [List.mem_cons, List.not_mem_nil, or_false] at hx; rcases hx with rfl | rfl | rfl <;> decide)).mono ?_
      rintro e w4 ⟨x4, q4, rfl, z4, hc, hg⟩
      have HC4 := hidI hc
      have HG4 := hidI (grown_trans HG3.out hg)
      clear hc hg
      go_wp2_with fail
      refine (IH.out hd0 q4 _ HC4.out).mono ?_
      rintro e w5 ⟨x5, q5, rfl, z5, hc, hg⟩
      have HC5 := hidI hc
      have HG5 := hidI (grown_trans HG4.out hg)
      clear hc hg
      go_wp2
      go_ret
      exact ⟨_, q5, rfl, by have y0 : (({ data := #[32] } : ByteArray)).size = 1 := rfl; simp only [ByteArray.size_append, y0]; omega, HC5.out, HG5.out⟩
    · have hdz : ¬ 0 < (d : Int) := by omega
      cases scr with
      | false =>
        go_wp2
        go_ret
        exact ⟨_, q2, rfl, by omega, HC2.out, HG2.out⟩
      | true =>
        go_wp2_with fail
        refine (l1Once_any S hS g _ 8 _ HC2.out (by omega)).mono ?_
        rintro e w3 ⟨rfl, hc, hg⟩
        obtain ⟨q3, hq⟩ : ∃ q', (bw S q2 8).2 = q' := ⟨_, rfl⟩
        rw [hq] at hc
        have HC3 := hidI hc
        have HG3 := hidI (grown_trans HG2.out hg)
        clear hc hg hq
        generalize ((bw S q2 8).1 == 0) = b
        cases b with
        | false =>
          go_wp2
          go_ret
          exact ⟨_, q3, rfl, by omega, HC3.out, HG3.out⟩
        | true =>
          go_wp2_with fail
          refine (pick_new S hS g _ 100 [{ data := #[117, 110, 100, 101, 102] }, { data := #[117, 110, 100, 101, 102, 32, 40, 32, 41] }, { data := #[97, 36, 49] }, { data := #[120, 36] }] _ HC3.out (by simp) (by simp) (by intro x hx; simp only [List.mem_cons, List.not_mem_nil, or_false] at hx; rcases hx with rfl | rfl | rfl | rfl <;> decide)).mono ?_
          rintro e w4 ⟨x4, q4, rfl, z4, hc, hg⟩
          have HC4 := hidI hc
          have HG4 := hidI (grown_trans HG3.out hg)
          clear hc hg
          go_wp2
          go_ret
          exact ⟨_, q4, rfl, by omega, HC4.out, HG4.out⟩
  · by_cases hd0 : 0 < d
    · go_wp2_with fail
      refine (IH.out hd0 q2 _ HC2.out).mono ?_
      rintro e w3 ⟨x3, q3, rfl, z3, hc, hg⟩
      have HC3 := hidI hc
      have HG3 := hidI (grown_trans HG2.out hg)
      clear hc hg
      go_wp2
      go_ret
      exact ⟨_, q3, rfl, by have y0 : (({ data := #[40, 32] } : ByteArray)).size = 2 := rfl; have y1 : (({ data := #[32, 41] } : ByteArray)).size = 2 := rfl; simp only [ByteArray.size_append, y0, y1]; omega, HC3.out, HG3.out⟩
    · have hdz : ¬ 0 < (d : Int) := by omega
      cases scr with
      | false =>
        go_wp2
        go_ret
        exact ⟨_, q2, rfl, by omega, HC2.out, HG2.out⟩
      | true =>
        go_wp2_with fail
        refine (l1Once_any S hS g _ 8 _ HC2.out (by omega)).mono ?_
        rintro e w3 ⟨rfl, hc, hg⟩
        obtain ⟨q3, hq⟩ : ∃ q', (bw S q2 8).2 = q' := ⟨_, rfl⟩
        rw [hq] at hc
        have HC3 := hidI hc
        have HG3 := hidI (grown_trans HG2.out hg)
        clear hc hg hq
        generalize ((bw S q2 8).1 == 0) = b
        cases b with
        | false =>
          go_wp2
          go_ret
          exact ⟨_, q3, rfl, by omega, HC3.out, HG3.out⟩
        | true =>
          go_wp2_with fail
          refine (pick_new S hS g _ 100 [{ data := #[117, 110, 100, 101, 102] }, { data := #[117, 110, 100, 101, 102, 32, 40, 32, 41] }, { data := #[97, 36, 49] }, { data := #[120, 36] }] _ HC3.out (by simp) (by simp) (by intro x hx; simp only [List.mem_cons, List.not_mem_nil, or_false] at hx; rcases hx with rfl | rfl | rfl | rfl <;> decide)).mono ?_
          rintro e w4 ⟨x4, q4, rfl, z4, hc, hg⟩
          have HC4 := hidI hc
          have HG4 := hidI (grown_trans HG3.out hg)
          clear hc hg
          go_wp2
          go_ret
          exact ⟨_, q4, rfl, by omega, HC4.out, HG4.out⟩
  · cases scr with
    | false =>
      go_wp2
      go_ret
      exact ⟨_, q2, rfl, by omega, HC2.out, HG2.out⟩
    | true =>
      go_wp2_with fail
      refine (l1Once_any S hS g _ 8 _ HC2.out (by omega)).mono ?_
      rintro e w3 ⟨rfl, hc, hg⟩
      obtain ⟨q3, hq⟩ : ∃ q', (bw S q2 8).2 = q' := ⟨_, rfl⟩
      rw [hq] at hc
      have HC3 := hidI hc
      have HG3 := hidI (grown_trans HG2.out hg)
      clear hc hg hq
      generalize ((bw S q2 8).1 == 0) = b
      cases b with
      | false =>
        go_wp2
        go_ret
        exact ⟨_, q3, rfl, by omega, HC3.out, HG3.out⟩
      | true =>
        go_wp2_with fail
        refine (pick_new S hS g _ 100 [{ data := #[117, 110, 100, 101, 102] }, { data := #[117, 110, 100, 101, 102, 32, 40, 32, 41] }, { data := #[97, 36, 49] }, { data := #[120, 36] }] _ HC3.out (by simp) (by simp) (by intro x hx; simp only [List.mem_cons, List.not_mem_nil, or_false] at hx; rcases hx with rfl | rfl | rfl | rfl <;> decide)).mono ?_
        rintro e w4 ⟨x4, q4, rfl, z4, hc, hg⟩
        have HC4 := hidI hc
        have HG4 := hidI (grown_trans HG3.out hg)
        clear hc hg
        go_wp2
        go_ret
        exact ⟨_, q4, rfl, by omega, HC4.out, HG4.out⟩
theorem l4Expr_some (S : Src) (hS : S.ok) (g : Nat) (scr : Bool) (q : Nat × Int) (w : World) (hc : CurW 99 S w g q) : Calls Try.prog 102 #[.pointer (some ⟨g, 0, none⟩), .int .i64 2, .bool scr] w (StrOut S g 770 w) := by
  have h0 : ∀ (q : Nat × Int) (w : World), CurW 99 S w g q → Calls Try.prog 102 #[.pointer (some ⟨g, 0, none⟩), .int .i64 0, .bool scr] w (StrOut S g 110 w) := fun q w hc => l4Expr_step S hS g scr 0 0 (by omega) (by omega) (fun h => absurd h (Nat.lt_irrefl 0)) q w hc
  have h1 : ∀ (q : Nat × Int) (w : World), CurW 99 S w g q → Calls Try.prog 102 #[.pointer (some ⟨g, 0, none⟩), .int .i64 1, .bool scr] w (StrOut S g 330 w) := fun q w hc => l4Expr_step S hS g scr 1 110 (by omega) (by omega) (fun _ => h0) q w hc
  exact l4Expr_step S hS g scr 2 330 (by omega) (by omega) (fun _ => h1) q w hc
end Go.Proofs.Ytcmpakdfebeklaa
namespace Go.Proofs.Ytcmpakdfebeklaa
open Go.RowKit Go.PlainAid

set_option maxRecDepth 100000 in
set_option maxHeartbeats 12800000 in
theorem l4Line_some (S : Src) (hS : S.ok) (g : Nat) (scr : Bool) (q0 : Nat × Int) (w0 : World) (hc : CurW 99 S w0 g q0) : Calls Try.prog 86 #[.pointer (some ⟨g, 0, none⟩), .bool scr] w0 (StrOut S g 1500 w0) := by
  have HC0 := hidI hc
  have HG0 : Hid (w0.grownBy w0 (some g)) := ⟨rfl, rfl, rfl, Nat.le_refl _, fun _ _ _ => rfl⟩
  clear hc
  go_enter Try.func86, Try.ntmps86
  go_wp2_with fail
  refine (pick_new S hS g _ 100 [{ data := #[97] }, { data := #[98] }, { data := #[120] }, { data := #[102] }, { data := #[103] }] _ HC0.out (by simp) (by simp) (by intro x hx; simp only [List.mem_cons, List.not_mem_nil, or_false] at hx; rcases hx with rfl | rfl | rfl | rfl | rfl <;> decide)).mono ?_
  rintro e w1 ⟨x1, q1, rfl, z1, hc, hg⟩
  have HC1 := hidI hc
  have HG1 := hidI (grown_trans HG0.out hg)
  clear hc hg
  go_wp2_with fail
  refine (l4Expr_some S hS g scr q1 _ HC1.out).mono ?_
  rintro e w2 ⟨x2, q2, rfl, z2, hc, hg⟩
  have HC2 := hidI hc
  have HG2 := hidI (grown_trans HG1.out hg)
  clear hc hg
  go_wp2_with fail
  refine (pick_new S hS g _ 100 [{ data := #[46, 47, 98] }, { data := #[46, 47, 99] }, { data := #[46, 47, 97] }, { data := #[120] }, { data := #[46, 47, 100] }] _ HC2.out (by simp) (by simp) (by intro x hx; simp only [List.mem_cons, List.not_mem_nil, or_false] at hx; rcases hx with rfl | rfl | rfl | rfl | rfl <;> decide)).mono ?_
  rintro e w3 ⟨x3, q3, rfl, z3, hc, hg⟩
  have HC3 := hidI hc
  have HG3 := hidI (grown_trans HG2.out hg)
  clear hc hg
  go_wp2_with fail
  refine (l1Below_any S hS g _ 16 _ HC3.out (by omega)).mono ?_
  rintro e w4 ⟨rfl, hc, hg⟩
  have hbd := bw_bd S q3 16 (by omega)
  obtain ⟨k4, hk⟩ : ∃ k : Nat, (bw S q3 16).1 = k := ⟨(bw S q3 16).1.toNat, by omega⟩
  obtain ⟨q4, hq⟩ : ∃ q', (bw S q3 16).2 = q' := ⟨_, rfl⟩
  rw [hk] at hbd ⊢
  rw [hq] at hc
  have HC4 := hidI hc
  have HG4 := hidI (grown_trans HG3.out hg)
  clear hc hg
  have kb4 : k4 < 16 := by omega
  clear hbd hk hq
  cases scr with
  | false =>
    rcases (show k4 = 0 ∨ k4 = 1 ∨ k4 = 2 ∨ k4 = 3 ∨ k4 = 4 ∨ k4 = 5 ∨ k4 = 6 ∨ k4 = 7 ∨ k4 = 8 ∨ k4 = 9 ∨ k4 = 10 ∨ k4 = 11 ∨ k4 = 12 ∨ k4 = 13 ∨ k4 = 14 ∨ k4 = 15 by omega) with rfl | rfl | rfl | rfl | rfl | rfl | rfl | rfl | rfl | rfl | rfl | rfl | rfl | rfl | rfl | rfl
    · go_wp2
      go_ret
      exact ⟨_, q4, rfl, by have y0 : (({ data := #[108, 101, 116, 32] } : ByteArray)).size = 4 := rfl; have y1 : (({ data := #[32, 61, 32] } : ByteArray)).size = 3 := rfl; have y2 : (({ data := #[59] } : ByteArray)).size = 1 := rfl; simp only [ByteArray.size_append, y0, y1, y2]; omega, HC4.out, HG4.out⟩
    · go_wp2
      go_ret
      exact ⟨_, q4, rfl, by have y0 : (({ data := #[108, 101, 116, 32] } : ByteArray)).size = 4 := rfl; have y1 : (({ data := #[32, 61, 32] } : ByteArray)).size = 3 := rfl; have y2 : (({ data := #[59] } : ByteArray)).size = 1 := rfl; simp only [ByteArray.size_append, y0, y1, y2]; omega, HC4.out, HG4.out⟩
    · go_wp2
      go_ret
      exact ⟨_, q4, rfl, by have y0 : (({ data := #[108, 101, 116, 32] } : ByteArray)).size = 4 := rfl; have y1 : (({ data := #[32, 61, 32] } : ByteArray)).size = 3 := rfl; have y2 : (({ data := #[59] } : ByteArray)).size = 1 := rfl; simp only [ByteArray.size_append, y0, y1, y2]; omega, HC4.out, HG4.out⟩
    · go_wp2_with fail
      refine (pick_new S hS g _ 100 [{ data := #[102] }, { data := #[103] }] _ HC4.out (by simp) (by simp) (by intro x hx; simp only [List.mem_cons, List.not_mem_nil, or_false] at hx; rcases hx with rfl | rfl <;> decide)).mono ?_
      rintro e w5 ⟨x5, q5, rfl, z5, hc, hg⟩
      have HC5 := hidI hc
      have HG5 := hidI (grown_trans HG4.out hg)
      clear hc hg
      go_wp2
      go_ret
      exact ⟨_, q5, rfl, by have y0 : (({ data := #[102, 117, 110, 99, 116, 105, 111, 110, 32] } : ByteArray)).size = 9 := rfl; have y1 : (({ data := #[40, 41, 32, 123, 32, 114, 101, 116, 117, 114, 110, 32] } : ByteArray)).size = 12 := rfl; have y2 : (({ data := #[59, 32, 125] } : ByteArray)).size = 3 := rfl; simp only [ByteArray.size_append, y0, y1, y2]; omega, HC5.out, HG5.out⟩
    · go_wp2
      go_ret
      exact ⟨_, q4, rfl, by have y0 : (({ data := #[32, 61, 32] } : ByteArray)).size = 3 := rfl; have y1 : (({ data := #[59] } : ByteArray)).size = 1 := rfl; simp only [ByteArray.size_append, y0, y1]; omega, HC4.out, HG4.out⟩
    · go_wp2
      go_ret
      exact ⟨_, q4, rfl, by have y0 : (({ data := #[112, 114, 105, 110, 116, 40] } : ByteArray)).size = 6 := rfl; have y1 : (({ data := #[41, 59] } : ByteArray)).size = 2 := rfl; simp only [ByteArray.size_append, y0, y1]; omega, HC4.out, HG4.out⟩
    · go_wp2
      go_ret
      exact ⟨_, q4, rfl, by have y0 : (({ data := #[112, 114, 105, 110, 116, 40] } : ByteArray)).size = 6 := rfl; have y1 : (({ data := #[41, 59] } : ByteArray)).size = 2 := rfl; simp only [ByteArray.size_append, y0, y1]; omega, HC4.out, HG4.out⟩
    · go_wp2
      go_ret
      exact ⟨_, q4, rfl, by have y0 : (({ data := #[116, 104, 114, 111, 119, 32] } : ByteArray)).size = 6 := rfl; have y1 : (({ data := #[59] } : ByteArray)).size = 1 := rfl; simp only [ByteArray.size_append, y0, y1]; omega, HC4.out, HG4.out⟩
    · go_wp2_with fail
      refine (pick_new S hS g _ 100 [{ data := #[] }, { data := #[32, 97, 115, 32, 120] }, { data := #[32, 97, 115, 32, 98, 44, 32, 103] }] _ HC4.out (by simp) (by simp) (by intro x hx; simp only [List.mem_cons, List.not_mem_nil, or_false] at hx; rcases hx with rfl | rfl | rfl <;> decide)).mono ?_
      rintro e w5 ⟨x5, q5, rfl, z5, hc, hg⟩
      have HC5 := hidI hc
      have HG5 := hidI (grown_trans HG4.out hg)
      clear hc hg
      go_wp2
      go_ret
      exact ⟨_, q5, rfl, by have y0 : (({ data := #[105, 109, 112, 111, 114, 116, 32, 123, 32] } : ByteArray)).size = 9 := rfl; have y1 : (({ data := #[32, 125, 32, 102, 114, 111, 109, 32, 34] } : ByteArray)).size = 9 := rfl; have y2 : (({ data := #[34, 59] } : ByteArray)).size = 2 := rfl; simp only [ByteArray.size_append, y0, y1, y2]; omega, HC5.out, HG5.out⟩
    · go_wp2
      go_ret
      exact ⟨_, q4, rfl, by have y0 : (({ data := #[105, 109, 112, 111, 114, 116, 32, 42, 32, 97, 115, 32, 110, 32, 102, 114, 111, 109, 32, 34] } : ByteArray)).size = 20 := rfl; have y1 : (({ data := #[34, 59] } : ByteArray)).size = 2 := rfl; simp only [ByteArray.size_append, y0, y1]; omega, HC4.out, HG4.out⟩
    · go_wp2
      go_ret
      exact ⟨_, q4, rfl, by have y0 : (({ data := #[105, 109, 112, 111, 114, 116, 32, 100, 32, 102, 114, 111, 109, 32, 34] } : ByteArray)).size = 15 := rfl; have y1 : (({ data := #[34, 59] } : ByteArray)).size = 2 := rfl; simp only [ByteArray.size_append, y0, y1]; omega, HC4.out, HG4.out⟩
    · go_wp2_with fail
      refine (pick_new S hS g _ 100 [{ data := #[] }, { data := #[32, 97, 115, 32, 121] }, { data := #[32, 97, 115, 32, 100, 101, 102, 97, 117, 108, 116] }] _ HC4.out (by simp) (by simp) (by intro x hx; simp only [List.mem_cons, List.not_mem_nil, or_false] at hx; rcases hx with rfl | rfl | rfl <;> decide)).mono ?_
      rintro e w5 ⟨x5, q5, rfl, z5, hc, hg⟩
      have HC5 := hidI hc
      have HG5 := hidI (grown_trans HG4.out hg)
      clear hc hg
      go_wp2
      go_ret
      exact ⟨_, q5, rfl, by have y0 : (({ data := #[101, 120, 112, 111, 114, 116, 32, 123, 32] } : ByteArray)).size = 9 := rfl; have y1 : (({ data := #[32, 125, 59] } : ByteArray)).size = 3 := rfl; simp only [ByteArray.size_append, y0, y1]; omega, HC5.out, HG5.out⟩
    · go_wp2_with fail
      refine (pick_new S hS g _ 100 [{ data := #[] }, { data := #[32, 97, 115, 32, 121] }, { data := #[44, 32, 100, 101, 102, 97, 117, 108, 116] }] _ HC4.out (by simp) (by simp) (by intro x hx; simp only [List.mem_cons, List.not_mem_nil, or_false] at hx; rcases hx with rfl | rfl | rfl <;> decide)).mono ?_
      rintro e w5 ⟨x5, q5, rfl, z5, hc, hg⟩
      have HC5 := hidI hc
      have HG5 := hidI (grown_trans HG4.out hg)
      clear hc hg
      go_wp2
      go_ret
      exact ⟨_, q5, rfl, by have y0 : (({ data := #[101, 120, 112, 111, 114, 116, 32, 123, 32] } : ByteArray)).size = 9 := rfl; have y1 : (({ data := #[32, 125, 32, 102, 114, 111, 109, 32, 34] } : ByteArray)).size = 9 := rfl; have y2 : (({ data := #[34, 59] } : ByteArray)).size = 2 := rfl; simp only [ByteArray.size_append, y0, y1, y2]; omega, HC5.out, HG5.out⟩
    · go_wp2
      go_ret
      exact ⟨_, q4, rfl, by have y0 : (({ data := #[101, 120, 112, 111, 114, 116, 32, 42, 32, 102, 114, 111, 109, 32, 34] } : ByteArray)).size = 15 := rfl; have y1 : (({ data := #[34, 59] } : ByteArray)).size = 2 := rfl; simp only [ByteArray.size_append, y0, y1]; omega, HC4.out, HG4.out⟩
    · go_wp2
      go_ret
      exact ⟨_, q4, rfl, by have y0 : (({ data := #[101, 120, 112, 111, 114, 116, 32, 100, 101, 102, 97, 117, 108, 116, 32] } : ByteArray)).size = 15 := rfl; have y1 : (({ data := #[59] } : ByteArray)).size = 1 := rfl; simp only [ByteArray.size_append, y0, y1]; omega, HC4.out, HG4.out⟩
    · go_wp2_with fail
      refine (pick_new S hS g _ 900 [({ data := #[108, 101, 116, 32] } : ByteArray) ++ x1 ++ ({ data := #[32, 61, 32] } : ByteArray) ++ x2 ++ ({ data := #[59] } : ByteArray), ({ data := #[102, 117, 110, 99, 116, 105, 111, 110, 32, 102, 40, 41, 32, 123, 32, 114, 101, 116, 117, 114, 110, 32] } : ByteArray) ++ x2 ++ ({ data := #[59, 32, 125] } : ByteArray), ({ data := #[108, 101, 116, 32, 122, 32, 61, 32, 49, 59] } : ByteArray)] _ HC4.out (by simp) (by simp) (by intro x hx; simp only [List.mem_cons, List.not_mem_nil, or_false] at hx; have y0 : (({ data := #[108, 101, 116, 32] } : ByteArray)).size = 4 := rfl; have y1 : (({ data := #[32, 61, 32] } : ByteArray)).size = 3 := rfl; have y2 : (({ data := #[59] } : ByteArray)).size = 1 := rfl; have y3 : (({ data := #[102, 117, 110, 99, 116, 105, 111, 110, 32, 102, 40, 41, 32, 123, 32, 114, 101, 116, 117, 114, 110, 32] } : ByteArray)).size = 22 := rfl; have y4 : (({ data := #[59, 32, 125] } : ByteArray)).size = 3 := rfl; have y5 : (({ data := #[108, 101, 116, 32, 122, 32, 61, 32, 49, 59] } : ByteArray)).size = 10 := rfl; rcases hx with rfl | rfl | rfl <;> simp only [ByteArray.size_append, y0, y1, y2, y3, y4, y5] <;> omega)).mono ?_
      rintro e w5 ⟨x5, q5, rfl, z5, hc, hg⟩
      have HC5 := hidI hc
      have HG5 := hidI (grown_trans HG4.out hg)
      clear hc hg
      go_wp2
      go_ret
      exact ⟨_, q5, rfl, by have y0 : (({ data := #[101, 120, 112, 111, 114, 116, 32] } : ByteArray)).size = 7 := rfl; simp only [ByteArray.size_append, y0]; omega, HC5.out, HG5.out⟩
  | true =>
    rcases (show k4 = 0 ∨ k4 = 1 ∨ k4 = 2 ∨ k4 = 3 ∨ k4 = 4 ∨ k4 = 5 ∨ k4 = 6 ∨ k4 = 7 ∨ k4 = 8 ∨ k4 = 9 ∨ k4 = 10 ∨ k4 = 11 ∨ k4 = 12 ∨ k4 = 13 ∨ k4 = 14 ∨ k4 = 15 by omega) with rfl | rfl | rfl | rfl | rfl | rfl | rfl | rfl | rfl | rfl | rfl | rfl | rfl | rfl | rfl | rfl
    · go_wp2
      go_ret
      exact ⟨_, q4, rfl, by have y0 : (({ data := #[108, 101, 116, 32] } : ByteArray)).size = 4 := rfl; have y1 : (({ data := #[32, 61, 32] } : ByteArray)).size = 3 := rfl; have y2 : (({ data := #[59] } : ByteArray)).size = 1 := rfl; simp only [ByteArray.size_append, y0, y1, y2]; omega, HC4.out, HG4.out⟩
    · go_wp2
      go_ret
      exact ⟨_, q4, rfl, by have y0 : (({ data := #[108, 101, 116, 32] } : ByteArray)).size = 4 := rfl; have y1 : (({ data := #[32, 61, 32] } : ByteArray)).size = 3 := rfl; have y2 : (({ data := #[59] } : ByteArray)).size = 1 := rfl; simp only [ByteArray.size_append, y0, y1, y2]; omega, HC4.out, HG4.out⟩
    · go_wp2
      go_ret
      exact ⟨_, q4, rfl, by have y0 : (({ data := #[108, 101, 116, 32] } : ByteArray)).size = 4 := rfl; have y1 : (({ data := #[32, 61, 32] } : ByteArray)).size = 3 := rfl; have y2 : (({ data := #[59] } : ByteArray)).size = 1 := rfl; simp only [ByteArray.size_append, y0, y1, y2]; omega, HC4.out, HG4.out⟩
    · go_wp2_with fail
      refine (pick_new S hS g _ 100 [{ data := #[102] }, { data := #[103] }] _ HC4.out (by simp) (by simp) (by intro x hx; simp only [List.mem_cons, List.not_mem_nil, or_false] at hx; rcases hx with rfl | rfl <;> decide)).mono ?_
      rintro e w5 ⟨x5, q5, rfl, z5, hc, hg⟩
      have HC5 := hidI hc
      have HG5 := hidI (grown_trans HG4.out hg)
      clear hc hg
      go_wp2
      go_ret
      exact ⟨_, q5, rfl, by have y0 : (({ data := #[102, 117, 110, 99, 116, 105, 111, 110, 32] } : ByteArray)).size = 9 := rfl; have y1 : (({ data := #[40, 41, 32, 123, 32, 114, 101, 116, 117, 114, 110, 32] } : ByteArray)).size = 12 := rfl; have y2 : (({ data := #[59, 32, 125] } : ByteArray)).size = 3 := rfl; simp only [ByteArray.size_append, y0, y1, y2]; omega, HC5.out, HG5.out⟩
    · go_wp2
      go_ret
      exact ⟨_, q4, rfl, by have y0 : (({ data := #[32, 61, 32] } : ByteArray)).size = 3 := rfl; have y1 : (({ data := #[59] } : ByteArray)).size = 1 := rfl; simp only [ByteArray.size_append, y0, y1]; omega, HC4.out, HG4.out⟩
    · go_wp2
      go_ret
      exact ⟨_, q4, rfl, by have y0 : (({ data := #[112, 114, 105, 110, 116, 40] } : ByteArray)).size = 6 := rfl; have y1 : (({ data := #[41, 59] } : ByteArray)).size = 2 := rfl; simp only [ByteArray.size_append, y0, y1]; omega, HC4.out, HG4.out⟩
    · go_wp2
      go_ret
      exact ⟨_, q4, rfl, by have y0 : (({ data := #[112, 114, 105, 110, 116, 40] } : ByteArray)).size = 6 := rfl; have y1 : (({ data := #[41, 59] } : ByteArray)).size = 2 := rfl; simp only [ByteArray.size_append, y0, y1]; omega, HC4.out, HG4.out⟩
    · go_wp2_with fail
      refine (l1Once_any S hS g _ 2 _ HC4.out (by omega)).mono ?_
      rintro e w5 ⟨rfl, hc, hg⟩
      obtain ⟨q5, hq⟩ : ∃ q', (bw S q4 2).2 = q' := ⟨_, rfl⟩
      rw [hq] at hc
      have HC5 := hidI hc
      have HG5 := hidI (grown_trans HG4.out hg)
      clear hc hg hq
      generalize ((bw S q4 2).1 == 0) = b
      cases b with
      | false =>
        go_wp2
        go_ret
        exact ⟨_, q5, rfl, by have y0 : (({ data := #[116, 104, 114, 111, 119, 32] } : ByteArray)).size = 6 := rfl; have y1 : (({ data := #[59] } : ByteArray)).size = 1 := rfl; simp only [ByteArray.size_append, y0, y1]; omega, HC5.out, HG5.out⟩
      | true =>
        go_wp2
        go_ret
        exact ⟨_, q5, rfl, by have y0 : (({ data := #[102, 97, 105, 108, 32] } : ByteArray)).size = 5 := rfl; have y1 : (({ data := #[59] } : ByteArray)).size = 1 := rfl; simp only [ByteArray.size_append, y0, y1]; omega, HC5.out, HG5.out⟩
    · go_wp2
      go_ret
      exact ⟨_, q4, rfl, by have y0 : (({ data := #[108, 101, 116, 32] } : ByteArray)).size = 4 := rfl; have y1 : (({ data := #[32, 61, 32] } : ByteArray)).size = 3 := rfl; have y2 : (({ data := #[59] } : ByteArray)).size = 1 := rfl; simp only [ByteArray.size_append, y0, y1, y2]; omega, HC4.out, HG4.out⟩
    · go_wp2
      go_ret
      exact ⟨_, q4, rfl, by have y0 : (({ data := #[108, 101, 116, 32] } : ByteArray)).size = 4 := rfl; have y1 : (({ data := #[32, 61, 32] } : ByteArray)).size = 3 := rfl; have y2 : (({ data := #[59] } : ByteArray)).size = 1 := rfl; simp only [ByteArray.size_append, y0, y1, y2]; omega, HC4.out, HG4.out⟩
    · go_wp2
      go_ret
      exact ⟨_, q4, rfl, by have y0 : (({ data := #[108, 101, 116, 32] } : ByteArray)).size = 4 := rfl; have y1 : (({ data := #[32, 61, 32] } : ByteArray)).size = 3 := rfl; have y2 : (({ data := #[59] } : ByteArray)).size = 1 := rfl; simp only [ByteArray.size_append, y0, y1, y2]; omega, HC4.out, HG4.out⟩
    · go_wp2_with fail
      refine (pick_new S hS g _ 100 [{ data := #[102] }, { data := #[103] }] _ HC4.out (by simp) (by simp) (by intro x hx; simp only [List.mem_cons, List.not_mem_nil, or_false] at hx; rcases hx with rfl | rfl <;> decide)).mono ?_
      rintro e w5 ⟨x5, q5, rfl, z5, hc, hg⟩
      have HC5 := hidI hc
      have HG5 := hidI (grown_trans HG4.out hg)
      clear hc hg
      go_wp2
      go_ret
      exact ⟨_, q5, rfl, by have y0 : (({ data := #[102, 117, 110, 99, 116, 105, 111, 110, 32] } : ByteArray)).size = 9 := rfl; have y1 : (({ data := #[40, 41, 32, 123, 32, 114, 101, 116, 117, 114, 110, 32] } : ByteArray)).size = 12 := rfl; have y2 : (({ data := #[59, 32, 125] } : ByteArray)).size = 3 := rfl; simp only [ByteArray.size_append, y0, y1, y2]; omega, HC5.out, HG5.out⟩
    · go_wp2
      go_ret
      exact ⟨_, q4, rfl, by have y0 : (({ data := #[32, 61, 32] } : ByteArray)).size = 3 := rfl; have y1 : (({ data := #[59] } : ByteArray)).size = 1 := rfl; simp only [ByteArray.size_append, y0, y1]; omega, HC4.out, HG4.out⟩
    · go_wp2
      go_ret
      exact ⟨_, q4, rfl, by have y0 : (({ data := #[112, 114, 105, 110, 116, 40] } : ByteArray)).size = 6 := rfl; have y1 : (({ data := #[41, 59] } : ByteArray)).size = 2 := rfl; simp only [ByteArray.size_append, y0, y1]; omega, HC4.out, HG4.out⟩
    · go_wp2
      go_ret
      exact ⟨_, q4, rfl, by have y0 : (({ data := #[112, 114, 105, 110, 116, 40] } : ByteArray)).size = 6 := rfl; have y1 : (({ data := #[41, 59] } : ByteArray)).size = 2 := rfl; simp only [ByteArray.size_append, y0, y1]; omega, HC4.out, HG4.out⟩
    · go_wp2_with fail
      refine (l1Once_any S hS g _ 2 _ HC4.out (by omega)).mono ?_
      rintro e w5 ⟨rfl, hc, hg⟩
      obtain ⟨q5, hq⟩ : ∃ q', (bw S q4 2).2 = q' := ⟨_, rfl⟩
      rw [hq] at hc
      have HC5 := hidI hc
      have HG5 := hidI (grown_trans HG4.out hg)
      clear hc hg hq
      generalize ((bw S q4 2).1 == 0) = b
      cases b with
      | false =>
        go_wp2
        go_ret
        exact ⟨_, q5, rfl, by have y0 : (({ data := #[116, 104, 114, 111, 119, 32] } : ByteArray)).size = 6 := rfl; have y1 : (({ data := #[59] } : ByteArray)).size = 1 := rfl; simp only [ByteArray.size_append, y0, y1]; omega, HC5.out, HG5.out⟩
      | true =>
        go_wp2
        go_ret
        exact ⟨_, q5, rfl, by have y0 : (({ data := #[102, 97, 105, 108, 32] } : ByteArray)).size = 5 := rfl; have y1 : (({ data := #[59] } : ByteArray)).size = 1 := rfl; simp only [ByteArray.size_append, y0, y1]; omega, HC5.out, HG5.out⟩
end Go.Proofs.Ytcmpakdfebeklaa
namespace Go.Proofs.Ytcmpakdfebeklaa
open Go.RowKit Go.PlainAid

end Go.Proofs.Ytcmpakdfebeklaa
namespace Go.Proofs.Ytcmpakdfebeklaa
open Go.RowKit Go.PlainAid

def TxAt (S : Src) (y : Int) (T : List Int × (Nat × Int)) (acc : List Int) (n : Nat) (q : Nat × Int) : Prop := acc ++ (txGo S y n q).1 = T.1 ∧ (txGo S y n q).2 = T.2
theorem txAt_next {S : Src} {y : Int} {T : List Int × (Nat × Int)} {acc : List Int} {n : Nat} {q : Nat × Int} (h : TxAt S y T acc (n + 1) q) : TxAt S y T (acc ++ [chr y (cb S q).1]) n (cb S q).2 := by
  obtain ⟨a, b⟩ := h
  rw [txGo] at a b
  exact ⟨by rw [List.append_assoc]; exact a, b⟩
theorem txAt_end {S : Src} {y : Int} {T : List Int × (Nat × Int)} {acc : List Int} {q : Nat × Int} (h : TxAt S y T acc 0 q) : acc = T.1 ∧ q = T.2 := by
  obtain ⟨a, b⟩ := h
  rw [txGo] at a b
  exact ⟨by simpa using a, b⟩

set_option maxHeartbeats 1600000 in
theorem l1Text_any (S : Src) (hS : S.ok) (g : Nat) (q : Nat × Int) (most : Int) (w : World) (hc : CurW 99 S w g q) (hm0 : 0 ≤ most) (hm1 : most ≤ 1000) :
    Calls Try.prog 103 #[.pointer (some ⟨g, 0, none⟩), .int .i64 most] w fun e w' => e = .returned (.string (strOfNums (tx S q most).1)) ∧ CurW 99 S w' g (tx S q most).2 ∧ w.grownBy w' (some g) := by
  obtain ⟨i0, hi, hz0, hz1, hz2⟩ := info_parts Try.infoByte
  have hgw := curW_lt hc
  have hbn := bw_bd S (bw S q 4).2 (most + 1) (by omega)
  have HT : Hid (tx S q most = txGo S (bw S q 4).1 (bw S (bw S q 4).2 (most + 1)).1.toNat (bw S (bw S q 4).2 (most + 1)).2) := rfl
  go_enter Try.func103, Try.ntmps103
  go_wp2_with fail
  refine (l1Below_any S hS g q 4 _ (curW_below hc ((Below.refl w.heap.size w).alloc (Nat.le_refl _) _) hgw) (by omega)).mono ?_
  rintro e w1 ⟨rfl, hc1, hg1⟩
  go_wp2_with fail
  refine (l1Below_any S hS g _ (most + 1) _ hc1 (by omega)).mono ?_
  rintro e w2 ⟨rfl, hc2, hg2⟩
  have hown : OwnB w2 w.heap.size 5 (.slice (some ⟨w.heap.size, 0, none⟩) 0 0) 0 [] := by
    have h0 : OwnB (w.alloc (.cells #[] 5)) w.heap.size 5 (.slice (some ⟨w.heap.size, 0, none⟩) 0 0) 0 [] := World.ownsRow_lit w #[] 0 (Nat.le_refl _) (by unfold maxLen; omega) rfl
    exact ownB_grown (ownB_grown h0 hg1 hgw) hg2 hgw
  have hgr : w.grownBy w2 (some g) := grown_trans (grown_trans (grown_below (World.grownBy.refl w _) ((Below.refl w.heap.size w).alloc (Nat.le_refl _) (.cells #[] 5)) (Nat.le_refl _)) hg1) hg2
  obtain ⟨m0, hm0e⟩ : ∃ m : Nat, (bw S (bw S q 4).2 (most + 1)).1 = m := ⟨(bw S (bw S q 4).2 (most + 1)).1.toNat, by omega⟩
  rw [hm0e]
  have HST : Hid (TxAt S (bw S q 4).1 (tx S q most) [] m0 (bw S (bw S q 4).2 (most + 1)).2) := by
    show TxAt _ _ _ _ _ _
    have e := HT.out
    rw [hm0e, Int.toNat_natCast] at e
    rw [e]
    exact ⟨rfl, rfl⟩
  have hm0b : m0 ≤ 1000 := by omega
  clear hm0e HT hbn hc hc1 hg1 hg2
  go_wp2
  go_loopw [5, 7, 8] (fun v n _ wr => ∃ (k : Nat) (acc : List Int) (m : Nat) (p : Nat × Int), n = .int .i64 m ∧ k + m ≤ 1000 ∧ TxAt S (bw S q 4).1 (tx S q most) acc m p ∧ OwnB wr w.heap.size 5 v k acc ∧ CurW 99 S wr g p ∧ w.grownBy wr (some g)) (fun _ n _ _ => (intOf n).toNat)
  case atStart => exact ⟨0, [], m0, _, rfl, by omega, HST.out, hown, hc2, hgr⟩
  case round =>
    obtain ⟨k, acc, m, p, rfl, hkm, hat, hownr, hcr, hgrr⟩ := hrel
    have HAT := hat
    clear hat hown hc2 hgr
    match m, hkm, HAT with
    | 0, hkm, HAT =>
      obtain ⟨e1, e2⟩ := txAt_end HAT
      have HE1 : Hid (acc = (tx S q most).1) := e1
      have HE2 : Hid (p = (tx S q most).2) := e2
      clear e1 e2 HAT
      rw [HE1.out] at hownr
      have hst := run_string_own (P := Try.prog) (src := 28) (dst := 9) Try.underlying28 Try.underlying5 Try.underlying9 hownr
      go_wp2
      go_ret
      exact ⟨rfl, by rw [← HE2.out]; exact hcr, hgrr⟩
    | m + 1, hkm, HAT0 =>
      have HAT : Hid (TxAt S (bw S q 4).1 (tx S q most) acc (m + 1) p) := HAT0
      clear HAT0
      have hcb := cb_bd S p
      by_cases h1 : (bw S q 4).1 = 1
      · have q1 : ((bw S q 4).1 == 1) = true := by simpa using h1
        have q2 : ((bw S q 4).1 == 2) = false := by rw [h1]; rfl
        have HCH : Hid (chr (bw S q 4).1 (cb S p).1 = (cb S p).1 % 2) := by show chr _ _ = _; rw [chr, if_pos h1]
        clear h1
        go_wp2_with (first | (go_at_call 66; refine (l1Byte_any S hS g p _ hcr).mono ?_; rintro e w3 ⟨rfl, hc3, hg3⟩; have hown3 := ownB_grown hownr hg3 hgw; have hsz3 := Nat.le_trans hgrr.size hg3.size) | (at_builtin; refine app_byte w3 rfl _ _ 28 rfl w.heap.size 5 i0 Try.underlying28 hi hz0 hz1 hz2 _ k acc (by rfl) hown3 ((cb S p).1 % 2) (by rfl) (by omega) hsz3 ?_))
        intro v' w4 hown4 hb4
        go_wp2
        go_roundw
        case rel => exact ⟨k + 1, acc ++ [(cb S p).1 % 2], m, (cb S p).2, by go_num, by omega, by rw [← HCH.out]; exact txAt_next HAT.out, hown4, curW_below hc3 hb4 hgw, grown_below (grown_trans hgrr hg3) hb4 (Nat.le_refl _)⟩
        case measure => simp [intOf]
      · have q1 : ((bw S q 4).1 == 1) = false := by simpa using h1
        by_cases h2 : (bw S q 4).1 = 2
        · have q2 : ((bw S q 4).1 == 2) = true := by simpa using h2
          have HCH : Hid (chr (bw S q 4).1 (cb S p).1 = 97 + (cb S p).1 % 4) := by show chr _ _ = _; rw [chr, if_neg h1, if_pos h2]
          clear h1 h2
          go_wp2_with (first | (go_at_call 66; refine (l1Byte_any S hS g p _ hcr).mono ?_; rintro e w3 ⟨rfl, hc3, hg3⟩; have hown3 := ownB_grown hownr hg3 hgw; have hsz3 := Nat.le_trans hgrr.size hg3.size) | (at_builtin; refine app_byte w3 rfl _ _ 28 rfl w.heap.size 5 i0 Try.underlying28 hi hz0 hz1 hz2 _ k acc (by rfl) hown3 (97 + (cb S p).1 % 4) (by rfl) (by omega) hsz3 ?_))
          intro v' w4 hown4 hb4
          go_wp2
          go_roundw
          case rel => exact ⟨k + 1, acc ++ [97 + (cb S p).1 % 4], m, (cb S p).2, by go_num, by omega, by rw [← HCH.out]; exact txAt_next HAT.out, hown4, curW_below hc3 hb4 hgw, grown_below (grown_trans hgrr hg3) hb4 (Nat.le_refl _)⟩
          case measure => simp [intOf]
        · have q2 : ((bw S q 4).1 == 2) = false := by simpa using h2
          have HCH : Hid (chr (bw S q 4).1 (cb S p).1 = (cb S p).1) := by show chr _ _ = _; rw [chr, if_neg h1, if_neg h2]
          clear h1 h2
          go_wp2_with (first | (go_at_call 66; refine (l1Byte_any S hS g p _ hcr).mono ?_; rintro e w3 ⟨rfl, hc3, hg3⟩; have hown3 := ownB_grown hownr hg3 hgw; have hsz3 := Nat.le_trans hgrr.size hg3.size) | (at_builtin; refine app_byte w3 rfl _ _ 28 rfl w.heap.size 5 i0 Try.underlying28 hi hz0 hz1 hz2 _ k acc (by rfl) hown3 ((cb S p).1) (by rfl) (by omega) hsz3 ?_))
          intro v' w4 hown4 hb4
          go_wp2
          go_roundw
          case rel => exact ⟨k + 1, acc ++ [(cb S p).1], m, (cb S p).2, by go_num, by omega, by rw [← HCH.out]; exact txAt_next HAT.out, hown4, curW_below hc3 hb4 hgw, grown_below (grown_trans hgrr hg3) hb4 (Nat.le_refl _)⟩
          case measure => simp [intOf]
end Go.Proofs.Ytcmpakdfebeklaa
namespace Go.Proofs.Ytcmpakdfebeklaa
open Go.RowKit Go.PlainAid

theorem spoil_e {S : Src} {q : Nat × Int} {s : ByteArray} (h : s.size = 0) : spoil S q s = (strOfNums (tx S q 3).1, (tx S q 3).2) := by rw [spoil, if_pos h]
theorem spoil_0 {S : Src} {q : Nat × Int} {s : ByteArray} {k : Nat} (h : s.size ≠ 0) (hk : (bw S q s.size).1 = k) (hm : (bw S (bw S q s.size).2 4).1 = 0) : spoil S q s = (s.extract 0 k ++ s.extract (k + 1) s.size, (bw S (bw S q s.size).2 4).2) := by
  rw [spoil, if_neg h, if_pos hm, hk]; rfl
theorem spoil_1 {S : Src} {q : Nat × Int} {s : ByteArray} {k : Nat} (h : s.size ≠ 0) (hk : (bw S q s.size).1 = k) (hm : (bw S (bw S q s.size).2 4).1 = 1) : spoil S q s = (s.extract 0 k ++ strOfNums [(cb S (bw S (bw S q s.size).2 4).2).1] ++ s.extract k s.size, (cb S (bw S (bw S q s.size).2 4).2).2) := by
  rw [spoil, if_neg h, if_neg (by omega), if_pos hm, hk]; rfl
theorem spoil_2 {S : Src} {q : Nat × Int} {s : ByteArray} {k : Nat} (h : s.size ≠ 0) (hk : (bw S q s.size).1 = k) (hm : (bw S (bw S q s.size).2 4).1 = 2) : spoil S q s = (s.extract 0 k, (bw S (bw S q s.size).2 4).2) := by
  rw [spoil, if_neg h, if_neg (by omega), if_neg (by omega), if_pos hm, hk]; rfl
theorem spoil_3 {S : Src} {q : Nat × Int} {s : ByteArray} {k : Nat} (h : s.size ≠ 0) (hk : (bw S q s.size).1 = k) (h0 : (bw S (bw S q s.size).2 4).1 ≠ 0) (h1 : (bw S (bw S q s.size).2 4).1 ≠ 1) (h2 : (bw S (bw S q s.size).2 4).1 ≠ 2) :
    spoil S q s = (s.extract 0 k ++ strOfNums [IntKind.u8.wrap (bits .xor .i64 (bt s k) (1 + (bw S (bw S (bw S q s.size).2 4).2 255).1))] ++ s.extract (k + 1) s.size, (bw S (bw S (bw S q s.size).2 4).2 255).2) := by
  rw [spoil, if_neg h, if_neg h0, if_neg h1, if_neg h2, hk]; rfl

set_option maxHeartbeats 3200000 in
theorem l1Spoil_any (S : Src) (hS : S.ok) (g : Nat) (q : Nat × Int) (s : ByteArray) (w : World) (hc : CurW 99 S w g q) (hs : s.size ≤ 100000) :
    Calls Try.prog 87 #[.pointer (some ⟨g, 0, none⟩), .string s] w fun e w' => e = .returned (.string (spoil S q s).1) ∧ CurW 99 S w' g (spoil S q s).2 ∧ w.grownBy w' (some g) := by
  by_cases h0 : s.size = 0
  · have HS : Hid (spoil S q s = (strOfNums (tx S q 3).1, (tx S q 3).2)) := spoil_e h0
    have hq : ((s.size : Int) == 0) = true := by rw [h0]; rfl
    clear h0
    go_enter Try.func87, Try.ntmps87
    go_wp2_with fail
    refine (l1Text_any S hS g q 3 _ hc (by omega) (by omega)).mono ?_
    rintro e w1 ⟨rfl, hc1, hg1⟩
    go_wp2
    go_ret
    exact ⟨ret_str (by rw [HS.out]), by rw [HS.out]; exact hc1, hg1⟩
  · have hq : ((s.size : Int) == 0) = false := beq_eq_false_iff_ne.2 (by omega)
    have hbk := bw_bd S q s.size (by omega)
    obtain ⟨k, hk⟩ : ∃ k : Nat, (bw S q s.size).1 = k := ⟨(bw S q s.size).1.toNat, by omega⟩
    have HK : Hid ((bw S q s.size).1 = k) := hk
    have hks : k < s.size := by omega
    have hbm := bw_bd S (bw S q s.size).2 4 (by omega)
    have hb := get_bt s
    have hb0 := bt_nonneg s k
    have hb1 := bt_le s k
    have e1 : IntKind.i64.wrap ((k : Int) + 1) = (k : Int) + 1 := IntWalk.i64_in _ ⟨by omega, by omega⟩
    have e2 : IntKind.i64.wrap (bt s k) = bt s k := IntWalk.i64_in _ ⟨by omega, by omega⟩
    have l1 : (0 : Int) ≤ (k : Int) := by omega
    have l2 : (k : Int) ≤ s.size := by omega
    have l3 : (0 : Int) ≤ (k : Int) + 1 := by omega
    have l4 : (k : Int) + 1 ≤ s.size := by omega
    have z1 : (s.extract 0 k).size ≤ 100000 := by simp; omega
    have z2 : (s.extract (k + 1) s.size).size ≤ 100000 := by simp; omega
    have z3 : (s.extract k s.size).size ≤ 100000 := by simp; omega
    have hst := fun (w : World) (x : Int) => run_string_one (P := Try.prog) (src := 28) (dst := 9) Try.underlying28 Try.underlying5 Try.underlying9 w x
    have hone := fun x => strOfNums_size [x]
    have y1 : ¬ (9223372036854775807 < min k s.size + 1) := by omega
    have y2 : ¬ (9223372036854775807 < min k s.size + 1 + (s.size - k)) := by omega
    have y3 : ¬ (9223372036854775807 < min k s.size + 1 + (s.size - (k + 1))) := by omega
    clear hbk
    by_cases m0 : (bw S (bw S q s.size).2 4).1 = 0
    · have HS : Hid (spoil S q s = (s.extract 0 k ++ s.extract (k + 1) s.size, (bw S (bw S q s.size).2 4).2)) := spoil_0 h0 hk m0
      have q0 : ((bw S (bw S q s.size).2 4).1 == 0) = true := by simpa using m0
      clear hk m0 h0
      go_enter Try.func87, Try.ntmps87
      go_wp2_with fail
      refine (l1Below_any S hS g q s.size _ hc (by omega)).mono ?_
      rintro e w1 ⟨rfl, hc1, hg1⟩
      rw [HK.out]
      go_wp2_with fail
      refine (l1Below_any S hS g _ 4 _ hc1 (by omega)).mono ?_
      rintro e w2 ⟨rfl, hc2, hg2⟩
      go_wp2
      go_quiet (fail)
      go_wp2
      go_ret
      exact ⟨ret_str (by rw [HS.out]), by rw [HS.out]; exact curW_drewN hc2 _, grown_drewN (grown_trans hg1 hg2) _⟩
    · have q0 : ((bw S (bw S q s.size).2 4).1 == 0) = false := by simpa using m0
      by_cases m1 : (bw S (bw S q s.size).2 4).1 = 1
      · have HS : Hid (spoil S q s = (s.extract 0 k ++ strOfNums [(cb S (bw S (bw S q s.size).2 4).2).1] ++ s.extract k s.size, (cb S (bw S (bw S q s.size).2 4).2).2)) := spoil_1 h0 hk m1
        have q1 : ((bw S (bw S q s.size).2 4).1 == 1) = true := by simpa using m1
        have hcb := cb_bd S (bw S (bw S q s.size).2 4).2
        have e3 : IntKind.u8.wrap (cb S (bw S (bw S q s.size).2 4).2).1 = (cb S (bw S (bw S q s.size).2 4).2).1 := IntWalk.u8_in _ hcb
        have z4 : (s.extract 0 k ++ strOfNums [(cb S (bw S (bw S q s.size).2 4).2).1]).size ≤ 100001 := by rw [ByteArray.size_append, strOfNums_size]; simp; omega
        clear hk m0 m1 h0
        go_enter Try.func87, Try.ntmps87
        go_wp2_with fail
        refine (l1Below_any S hS g q s.size _ hc (by omega)).mono ?_
        rintro e w1 ⟨rfl, hc1, hg1⟩
        rw [HK.out]
        go_wp2_with fail
        refine (l1Below_any S hS g _ 4 _ hc1 (by omega)).mono ?_
        rintro e w2 ⟨rfl, hc2, hg2⟩
        go_wp2
        have hcd : CurW 99 S w2.drew g (bw S (bw S q s.size).2 4).2 := curW_kept hc2 fun _ _ => rfl
        have hgd : w.grownBy w2.drew (some g) := grown_drewN (grown_trans hg1 hg2) 1
        have hgs := curW_lt hcd
        go_region_law (go_simp; go_wp2_with (go_at_call 66; refine (l1Byte_any S hS g _ _ hcd).mono ?_; rintro e w3 ⟨rfl, hc3, hg3⟩))
        all_goals
          go_wp2
          go_ret
          refine ⟨ret_str (by rw [HS.out]), ?_, grown_below (grown_trans hgd hg3) ((Below.refl w3.heap.size w3).alloc (Nat.le_refl _) _) (Nat.le_trans hgd.size hg3.size)⟩
          rw [HS.out]
          exact curW_below hc3 ((Below.refl w3.heap.size w3).alloc (Nat.le_refl _) _) (Nat.lt_of_lt_of_le hgs hg3.size)
      · have q1 : ((bw S (bw S q s.size).2 4).1 == 1) = false := by simpa using m1
        by_cases m2 : (bw S (bw S q s.size).2 4).1 = 2
        · have HS : Hid (spoil S q s = (s.extract 0 k, (bw S (bw S q s.size).2 4).2)) := spoil_2 h0 hk m2
          have q2 : ((bw S (bw S q s.size).2 4).1 == 2) = true := by simpa using m2
          clear hk m0 m1 m2 h0
          go_enter Try.func87, Try.ntmps87
          go_wp2_with fail
          refine (l1Below_any S hS g q s.size _ hc (by omega)).mono ?_
          rintro e w1 ⟨rfl, hc1, hg1⟩
          rw [HK.out]
          go_wp2_with fail
          refine (l1Below_any S hS g _ 4 _ hc1 (by omega)).mono ?_
          rintro e w2 ⟨rfl, hc2, hg2⟩
          go_wp2
          go_ret
          exact ⟨ret_str (by rw [HS.out]), by rw [HS.out]; exact hc2, grown_trans hg1 hg2⟩
        · have q2 : ((bw S (bw S q s.size).2 4).1 == 2) = false := by simpa using m2
          have HS : Hid (spoil S q s = (s.extract 0 k ++ strOfNums [IntKind.u8.wrap (bits .xor .i64 (bt s k) (1 + (bw S (bw S (bw S q s.size).2 4).2 255).1))] ++ s.extract (k + 1) s.size, (bw S (bw S (bw S q s.size).2 4).2 255).2)) := spoil_3 h0 hk m0 m1 m2
          have hcb := bw_bd S (bw S (bw S q s.size).2 4).2 255 (by omega)
          have e3 : IntKind.i64.wrap (1 + (bw S (bw S (bw S q s.size).2 4).2 255).1) = 1 + (bw S (bw S (bw S q s.size).2 4).2 255).1 := IntWalk.i64_in _ ⟨by omega, by omega⟩
          have z4 : (s.extract 0 k ++ strOfNums [IntKind.u8.wrap (bits .xor .i64 (bt s k) (1 + (bw S (bw S (bw S q s.size).2 4).2 255).1))]).size ≤ 100001 := by rw [ByteArray.size_append, strOfNums_size]; simp; omega
          clear hk m0 m1 m2 h0
          go_enter Try.func87, Try.ntmps87
          go_wp2_with fail
          refine (l1Below_any S hS g q s.size _ hc (by omega)).mono ?_
          rintro e w1 ⟨rfl, hc1, hg1⟩
          rw [HK.out]
          go_wp2_with fail
          refine (l1Below_any S hS g _ 4 _ hc1 (by omega)).mono ?_
          rintro e w2 ⟨rfl, hc2, hg2⟩
          go_wp2
          have hcd : CurW 99 S w2.drew g (bw S (bw S q s.size).2 4).2 := curW_kept hc2 fun _ _ => rfl
          have hgd : w.grownBy w2.drew (some g) := grown_drewN (grown_trans hg1 hg2) 1
          have hgs := curW_lt hcd
          go_region_law (go_simp; go_wp2_with (go_at_call 34; refine (l1Below_any S hS g _ 255 _ hcd (by omega)).mono ?_; rintro e w3 ⟨rfl, hc3, hg3⟩))
          all_goals
            go_wp2
            go_ret
            refine ⟨ret_str (by rw [HS.out]), ?_, grown_below (grown_trans hgd hg3) ((Below.refl w3.heap.size w3).alloc (Nat.le_refl _) _) (Nat.le_trans hgd.size hg3.size)⟩
            rw [HS.out]
            exact curW_below hc3 ((Below.refl w3.heap.size w3).alloc (Nat.le_refl _) _) (Nat.lt_of_lt_of_le hgs hg3.size)

end Go.Proofs.Ytcmpakdfebeklaa
namespace Go.Proofs.Ytcmpakdfebeklaa
open Go.RowKit Go.PlainAid

theorem spoil_le (S : Src) (q : Nat × Int) (s : ByteArray) : (spoil S q s).1.size ≤ s.size + 4 := by
  have h3 := tx_len S q 3 (by omega)
  unfold spoil
  split
  · simp only [strOfNums_size]; omega
  · split
    · simp only [ByteArray.size_append, ByteArray.size_extract]; omega
    · split
      · simp only [ByteArray.size_append, ByteArray.size_extract, strOfNums_size, List.length_cons, List.length_nil]; omega
      · split
        · simp only [ByteArray.size_extract]; omega
        · simp only [ByteArray.size_append, ByteArray.size_extract, strOfNums_size, List.length_cons, List.length_nil]; omega
theorem l1Size_some (S : Src) (hS : S.len ≤ 9223372036854775807) (most : Int) (h0 : 2 ≤ most) (h1 : most ≤ 1000) (w : World) :
    Calls Try.prog 38 #[.slice S.a S.len S.cap, .int .i64 most] w fun e w' => (∃ r : Nat, e = .returned (.int .i64 (r : Int)) ∧ (r : Int) ≤ most) ∧ w' = w := by
  go_enter Try.func38, Try.ntmps38
  by_cases h : most < 2 + (S.len : Int) / 20
  · go_wp2
    go_ret
    exact ⟨⟨most.toNat, by rw [Int.toNat_of_nonneg (by omega)]; rfl, by omega⟩, rfl⟩
  · go_wp2
    go_ret
    exact ⟨⟨(2 + (S.len : Int) / 20).toNat, by rw [Int.toNat_of_nonneg (by omega)]; rfl, by omega⟩, rfl⟩
set_option maxRecDepth 100000 in
set_option maxHeartbeats 6400000 in
theorem l4Text_some (S : Src) (hS : S.ok) (g : Nat) (most : Nat) (hm : most ≤ 10) (scr : Bool) (q0 : Nat × Int) (w0 : World) (hc : CurW 99 S w0 g q0) :
    Calls Try.prog 67 #[.pointer (some ⟨g, 0, none⟩), .int .i64 (most : Int), .bool scr] w0 (StrOut S g 20000 w0) := by
  have HC0 := hidI hc
  have HG0 : Hid (w0.grownBy w0 (some g)) := ⟨rfl, rfl, rfl, Nat.le_refl _, fun _ _ _ => rfl⟩
  clear hc
  go_enter Try.func67, Try.ntmps67
  go_wp2_with fail
  refine (l1Below_any S hS g q0 ((most : Int) + 1) _ HC0.out (by omega)).mono ?_
  rintro e w1 ⟨rfl, hc, hg⟩
  have hbd := bw_bd S q0 ((most : Int) + 1) (by omega)
  obtain ⟨k1, hk⟩ : ∃ k : Nat, (bw S q0 ((most : Int) + 1)).1 = k := ⟨(bw S q0 ((most : Int) + 1)).1.toNat, by omega⟩
  obtain ⟨q1, hq⟩ : ∃ q', (bw S q0 ((most : Int) + 1)).2 = q' := ⟨_, rfl⟩
  rw [hk] at hbd ⊢
  rw [hq] at hc
  have HC1 := hidI hc
  have HG1 := hidI (grown_trans HG0.out hg)
  have kb : k1 ≤ 10 := by omega
  clear hc hg hbd hk hq
  go_wp2
  go_loopg [7, 8] k1 (fun k sv nv wr => ∃ (x : ByteArray) (q : Nat × Int), nv = .int .i64 (k : Int) ∧ sv = .string x ∧ k ≤ 10 ∧ x.size + 1501 * k ≤ 15010 ∧ CurW 99 S wr g q ∧ w0.grownBy wr (some g))
  case atStart => exact ⟨_, q1, rfl, rfl, kb, by have : ({ data := #[] } : ByteArray).size = 0 := rfl; omega, HC1.out, HG1.out⟩
  case round =>
    obtain ⟨x, q, rfl, rfl, hk, hx, hcr, hgr⟩ := hrel
    clear HC1 HG1
    have HC1 := hidI hcr
    have HG1 := hidI hgr
    clear hcr hgr
    by_cases hpos : 0 < gk
    · have hpi : 0 < (gk : Int) := by omega
      go_wp2_with fail
      refine (l4Line_some S hS g scr q _ HC1.out).mono ?_
      rintro e w2 ⟨x2, q2, rfl, z2, hc, hg⟩
      have HC2 := hidI hc
      have HG2 := hidI (grown_trans HG1.out hg)
      clear hc hg
      have hz : (x ++ x2 ++ ({ data := #[10] } : ByteArray)).size = x.size + x2.size + 1 := by rw [ByteArray.size_append, ByteArray.size_append]; rfl
      have hz1 : (x ++ x2).size = x.size + x2.size := ByteArray.size_append
      have ek : (gk : Int) - 1 = ((gk - 1 : Nat) : Int) := by omega
      go_wp2
      go_roundg (gk - 1)
      case rel => exact ⟨_, q2, rfl, rfl, by omega, by omega, HC2.out, HG2.out⟩
      case measure => omega
    · have hpi : ¬ 0 < (gk : Int) := by omega
      go_wp2_with fail
      refine (l1Once_any S hS g _ 6 _ HC1.out (by omega)).mono ?_
      rintro e w2 ⟨rfl, hc, hg⟩
      obtain ⟨q2, hq⟩ : ∃ q', (bw S q 6).2 = q' := ⟨_, rfl⟩
      rw [hq] at hc
      have HC2 := hidI hc
      have HG2 := hidI (grown_trans HG1.out hg)
      clear hc hg hq
      generalize ((bw S q 6).1 == 0) = b
      cases b with
      | true =>
        go_wp2_with fail
        refine (l1Spoil_any S hS g q2 x _ HC2.out (by omega)).mono ?_
        rintro e w3 ⟨rfl, hc, hg⟩
        have hs := spoil_le S q2 x
        have HC3 := hidI hc
        have HG3 := hidI (grown_trans HG2.out hg)
        clear hc hg
        generalize spoil S q2 x = y at *
        go_wp2
        go_ret
        exact ⟨y.1, y.2, rfl, by omega, HC3.out, HG3.out⟩
      | false =>
        go_wp2_with fail
        refine (l1Once_any S hS g _ 15 _ HC2.out (by omega)).mono ?_
        rintro e w3 ⟨rfl, hc, hg⟩
        obtain ⟨q3, hq⟩ : ∃ q', (bw S q2 15).2 = q' := ⟨_, rfl⟩
        rw [hq] at hc
        have HC3 := hidI hc
        have HG3 := hidI (grown_trans HG2.out hg)
        clear hc hg hq
        generalize ((bw S q2 15).1 == 0) = b
        cases b with
        | true =>
          go_wp2_with fail
          refine (pick_new S hS g _ 100 [{ data := #[105, 109, 112, 111, 114, 116, 32, 100, 101, 102, 97, 117, 108, 116, 32, 102, 114, 111, 109, 32, 34, 120, 34, 59] }, { data := #[101, 120, 112, 111, 114, 116, 32, 123, 32, 100, 101, 102, 97, 117, 108, 116, 32, 125, 59] }, { data := #[105, 109, 112, 111, 114, 116, 32, 123, 32, 100, 101, 102, 97, 117, 108, 116, 32, 125, 32, 102, 114, 111, 109, 32, 34, 120, 34, 59] }, { data := #[108, 101, 116, 32, 108, 101, 116, 32, 61, 32, 49, 59] }, { data := #[112, 114, 105, 110, 116, 40, 49, 59] }, { data := #[97, 32, 61, 32, 59] }, { data := #[101, 120, 112, 111, 114, 116] }, { data := #[102, 97, 105, 108, 32, 49, 59] }, { data := #[108, 101, 116, 32, 117, 110, 100, 101, 102, 32, 61, 32, 49, 59] }, { data := #[105, 109, 112, 111, 114, 116, 32, 123, 32, 97, 32, 97, 115, 32, 100, 101, 102, 97, 117, 108, 116, 32, 125, 32, 102, 114, 111, 109, 32, 34, 120, 34, 59] }, { data := #[112, 114, 105, 110, 116, 40, 40, 40, 40, 40, 40, 40, 40, 40, 40, 40, 40, 40, 40, 40, 40, 40, 40, 40, 40, 40, 40, 49, 41, 41, 41, 41, 41, 41, 41, 41, 41, 41, 41, 41, 41, 41, 41, 41, 41, 41, 41, 41, 41, 41, 59] }] _ HC3.out (by simp) (by simp) (by intro x hx; simp only [List.mem_cons, List.not_mem_nil, or_false] at hx; rcases hx with rfl | rfl | rfl | rfl | rfl | rfl | rfl | rfl | rfl | rfl | rfl <;> decide)).mono ?_
          rintro e w4 ⟨x4, q4, rfl, z4, hc, hg⟩
          have HC4 := hidI hc
          have HG4 := hidI (grown_trans HG3.out hg)
          clear hc hg
          have hz : (x ++ x4).size = x.size + x4.size := ByteArray.size_append
          go_wp2
          go_ret
          exact ⟨_, q4, rfl, by omega, HC4.out, HG4.out⟩
        | false =>
          go_wp2
          go_ret
          exact ⟨x, q3, rfl, by omega, HC3.out, HG3.out⟩
end Go.Proofs.Ytcmpakdfebeklaa
namespace Go.Proofs.Ytcmpakdfebeklaa
open Go.RowKit Go.PlainAid

def OkEp (N : Nat) (x : Ep) : Prop := x.name.size ≤ N ∧ x.loc.size ≤ N ∧ x.spec.size ≤ N
def OkEx (N : Nat) (x : Ex) : Prop := x.name.size ≤ N ∧ x.field.size ≤ N ∧ 0 ≤ x.num ∧ x.num ≤ 1000000
structure BS (N : Nat) (q : PS) : Prop where
  rq : ∀ x ∈ q.rq, x.size ≤ N
  im : ∀ x ∈ q.im, x.spec.size ≤ N ∧ x.first.size ≤ N ∧ x.loc.size ≤ N
  ep : ∀ x ∈ q.ep, OkEp N x
  la : ∀ x ∈ q.la, OkEp N x
  st : ∀ x ∈ q.st, x.name.size ≤ N
  ex : ∀ x ∈ q.ex, OkEx N x
def BT (N : Nat) (ts : List Tk) : Prop := ∀ t ∈ ts, t.text.size ≤ N ∧ 0 ≤ t.num ∧ t.num ≤ 1000000
theorem tok_bt {s : ByteArray} {scr : Bool} {a e : Nat} {t : Tk} (h : Tok s scr a t e) : t.text.size ≤ s.size ∧ 0 ≤ t.num ∧ t.num ≤ 1000000 := by
  cases h using Tok.elim with
  | name _ _ => exact ⟨by simp only [ByteArray.size_extract]; omega, by simp, by simp⟩
  | num h he =>
    refine ⟨Nat.zero_le _, ?_, he.2.2.2.2.1⟩
    have := dval_mono (s := s) (a := a) 0 (e - a) (fun j hj => by
      have := he.1.2.2.1 (a + j) (by omega) (by omega)
      rw [digB_iff] at this
      exact this.1) (Nat.zero_le _)
    rw [he.2.2.2.1]
    exact this.2
  | str _ _ => exact ⟨by simp only [ByteArray.size_extract]; omega, by simp, by simp⟩
  | sign _ => exact ⟨by simp only [ByteArray.size_extract]; omega, by simp, by simp⟩
theorem lx_bt {s : ByteArray} {scr : Bool} {a n : Nat} {r : Except Nat (List Tk)} (h : Lx s scr a n r) : ∀ ts, r = .ok ts → BT s.size ts := by
  induction h using Lx.ind with
  | done => intro ts k; cases k; intro t ht; cases ht
  | bad _ _ => intro ts k; cases k
  | @tok a n e b t r h hn ht hs hr ih =>
    intro ts k
    cases r with
    | error p => cases k
    | ok l =>
      cases k
      intro u hu
      rcases List.mem_cons.1 hu with rfl | hu
      · exact tok_bt ht
      · exact ih l rfl u hu
theorem at_bt {N : Nat} {C : Cx} (hC : BT N C.ts) (i : Nat) : (tokAt C i).text.size ≤ N ∧ 0 ≤ (tokAt C i).num ∧ (tokAt C i).num ≤ 1000000 := by
  by_cases hi : i < C.ts.length
  · have e : tokAt C i = C.ts[i] := by simp [tokAt, List.getD, List.getElem?_eq_getElem hi]
    rw [e]
    exact hC _ (List.getElem_mem hi)
  · rw [tokAt_none (by omega)]
    exact ⟨Nat.zero_le _, by simp, by simp⟩
theorem adv_bs {N : Nat} {q : PS} (h : BS N q) : BS N (adv q) := ⟨h.rq, h.im, h.ep, h.la, h.st, h.ex⟩
theorem tokP_bs {N : Nat} {C : Cx} {k : Int} {x : ByteArray} {q q' : PS} (h : tokP C k x q = .ok q') (hq : BS N q) : BS N q' := by
  obtain ⟨rfl, _⟩ := tokP_ok h
  exact adv_bs hq
theorem nameP_bs {N : Nat} {C : Cx} (hC : BT N C.ts) {o : Bool} {q : PS} {y : PS × ByteArray} (h : nameP C o q = .ok y) (hq : BS N q) : BS N y.1 ∧ y.2.size ≤ N := by
  obtain ⟨rfl, _⟩ := nameP_ok h
  exact ⟨adv_bs hq, (at_bt hC _).1⟩
theorem addEx_bs {N : Nat} {C : Cx} {x : Ex} {q q' : PS} (h : addEx C x q = .ok q') (hq : BS N q) (hx : OkEx N x) : BS N q' := by
  obtain ⟨rfl, _⟩ := addEx_ok h
  refine ⟨hq.rq, hq.im, hq.ep, hq.la, hq.st, fun y hy => ?_⟩
  rcases List.mem_append.1 hy with hy | hy
  · exact hq.ex y hy
  · rw [List.mem_singleton] at hy
    rw [hy]
    exact hx
theorem ex_name {N : Nat} {k l r : Int} {n f : ByteArray} (hn : n.size ≤ N) (hf : f.size ≤ N) : OkEx N ⟨k, 0, n, f, l, r⟩ := ⟨hn, hf, Int.le_refl _, by simp⟩
theorem tailP_bs {N : Nat} {C : Cx} {n : ByteArray} {q q' : PS} (h : tailP C n q = .ok q') (hq : BS N q) (hn : n.size ≤ N) : BS N q' := by
  unfold tailP at h
  split at h
  · obtain ⟨a, h1, h2⟩ := bd_eq_ok h
    obtain ⟨b, h3, h4⟩ := bd_eq_ok h1
    exact addEx_bs h2 (tokP_bs h4 (tokP_bs h3 hq)) (ex_name hn (Nat.zero_le _))
  · exact addEx_bs h hq (ex_name hn (Nat.zero_le _))
theorem memP_bs {N : Nat} {C : Cx} {n f : ByteArray} {q q' : PS} (h : memP C n f q = .ok q') (hq : BS N q) (hn : n.size ≤ N) (hf : f.size ≤ N) : BS N q' := by
  unfold memP at h
  split at h
  · obtain ⟨a, h1, h2⟩ := bd_eq_ok h
    obtain ⟨b, h3, h4⟩ := bd_eq_ok h1
    exact addEx_bs h2 (tokP_bs h4 (tokP_bs h3 hq)) (ex_name hn hf)
  · exact addEx_bs h hq (ex_name hn hf)
theorem ev_bs {N : Nat} {C : Cx} (hC : BT N C.ts) (hN : 8 ≤ N) (f : Nat) : ∀ (nt : NT) (d : Nat) (q q' : PS), ev C f nt d q = .ok q' → BS N q → BS N q' := by
  induction f with
  | zero => intro nt d q q' h; cases nt using NT.elim <;> cases h
  | succ f ih =>
    intro nt d q q' h hq
    cases nt using NT.elim with
    | sum =>
      rw [ev] at h
      obtain ⟨a, h1, h2⟩ := bd_eq_ok h
      exact ih _ _ _ _ h2 (ih _ _ _ _ h1 hq)
    | prod =>
      rw [ev] at h
      obtain ⟨a, h1, h2⟩ := bd_eq_ok h
      exact ih _ _ _ _ h2 (ih _ _ _ _ h1 hq)
    | sumT =>
      rw [ev] at h
      split at h
      · obtain ⟨a, h1, h2⟩ := bd_eq_ok h
        obtain ⟨b, h3, h4⟩ := bd_eq_ok h1
        exact ih _ _ _ _ h2 (addEx_bs h4 (ih _ _ _ _ h3 (adv_bs hq)) (ex_name (Nat.zero_le _) (Nat.zero_le _)))
      · cases h
        exact hq
    | prodT =>
      rw [ev] at h
      split at h
      · obtain ⟨a, h1, h2⟩ := bd_eq_ok h
        obtain ⟨b, h3, h4⟩ := bd_eq_ok h1
        exact ih _ _ _ _ h2 (addEx_bs h4 (ih _ _ _ _ h3 (adv_bs hq)) (ex_name (Nat.zero_le _) (Nat.zero_le _)))
      · cases h
        exact hq
    | part =>
      rw [ev] at h
      split at h
      · exact addEx_bs h (adv_bs hq) ⟨Nat.zero_le _, Nat.zero_le _, (at_bt hC _).2⟩
      · split at h
        · split at h
          · cases h
          · obtain ⟨a, h1, h2⟩ := bd_eq_ok h
            exact tokP_bs h2 (ih _ _ _ _ h1 (adv_bs hq))
        · split at h
          · exact tailP_bs h (adv_bs hq) (Nat.le_trans (show 5 ≤ 8 by omega) hN)
          · obtain ⟨a, h1, h2⟩ := bd_eq_ok h
            obtain ⟨b1, b2⟩ := nameP_bs hC h1 hq
            split at h2
            · obtain ⟨b, h3, h4⟩ := bd_eq_ok h2
              obtain ⟨c1, c2⟩ := nameP_bs hC h3 (adv_bs b1)
              exact memP_bs h4 c1 b2 c2
            · exact tailP_bs h2 b1 b2
theorem pE_bs {N : Nat} {C : Cx} (hC : BT N C.ts) (hN : 8 ≤ N) {nt : NT} {d : Nat} {q q' : PS} (h : pE C nt d q = .ok q') (hq : BS N q) : BS N q' := ev_bs hC hN _ _ _ _ _ h hq
theorem specP_bs {N : Nat} {C : Cx} (hC : BT N C.ts) {q : PS} {a : PS × ByteArray} (h : specP C q = .ok a) (hq : BS N q) : BS N a.1 ∧ a.2.size ≤ N := by
  unfold specP at h
  split at h
  · split at h
    · cases h
      exact ⟨adv_bs hq, (at_bt hC _).1⟩
    · split at h
      · cases h
      · cases h
        refine ⟨⟨fun x hx => ?_, hq.im, hq.ep, hq.la, hq.st, hq.ex⟩, (at_bt hC _).1⟩
        rcases List.mem_append.1 hx with hx | hx
        · exact hq.rq x hx
        · rw [List.mem_singleton] at hx
          rw [hx]
          exact (at_bt hC _).1
  · cases h
theorem addSt_bs {N : Nat} {C : Cx} {k : Int} {n : ByteArray} {q q' : PS} (h : addSt C k n q = .ok q') (hq : BS N q) (hn : n.size ≤ N) : BS N q' := by
  unfold addSt at h
  split at h
  · cases h
  · cases h
    refine ⟨hq.rq, hq.im, hq.ep, hq.la, fun x hx => ?_, hq.ex⟩
    rcases List.mem_append.1 hx with hx | hx
    · exact hq.st x hx
    · rw [List.mem_singleton] at hx
      rw [hx]
      exact hn
theorem addIm_bs {N : Nat} {C : Cx} {y : Im} {q q' : PS} (h : addIm C y q = .ok q') (hq : BS N q) (hy : y.spec.size ≤ N ∧ y.first.size ≤ N ∧ y.loc.size ≤ N) : BS N q' := by
  unfold addIm at h
  split at h
  · cases h
  · cases h
    refine ⟨hq.rq, fun x hx => ?_, hq.ep, hq.la, hq.st, hq.ex⟩
    rcases List.mem_append.1 hx with hx | hx
    · exact hq.im x hx
    · rw [List.mem_singleton] at hx
      rw [hx]
      exact hy
theorem mem_more {α : Type} {P : α → Prop} {l : List α} {y : α} (h : ∀ x ∈ l, P x) (hy : P y) : ∀ x ∈ l ++ [y], P x := fun x hx => by
  rcases List.mem_append.1 hx with hx | hx
  · exact h x hx
  · rw [List.mem_singleton] at hx
    rw [hx]
    exact hy
theorem addEp_bs {N : Nat} {C : Cx} {y : Ep} {q q' : PS} (h : addEp C y q = .ok q') (hq : BS N q) (hy : OkEp N y) : BS N q' := by
  unfold addEp at h
  split at h
  · cases h
  · split at h
    · cases h
      exact ⟨hq.rq, hq.im, hq.ep, mem_more hq.la hy, hq.st, hq.ex⟩
    · cases h
      exact ⟨hq.rq, hq.im, mem_more hq.ep hy, hq.la, hq.st, hq.ex⟩
theorem addAll_okE {α : Type} {f : α → PS → PR} (l : List α) : ∀ (x : PR) (q' : PS), addAll f l x = .ok q' → ∃ q, x = .ok q ∧ True := by
  induction l with
  | nil => intro x q' h; exact ⟨q', h, trivial⟩
  | cons a l ih =>
    intro x q' h
    obtain ⟨b, h1, _⟩ := ih _ _ h
    obtain ⟨c, h3, _⟩ := bd_eq_ok h1
    exact ⟨c, h3, trivial⟩
theorem addAll_bs {α : Type} {N : Nat} {f : α → PS → PR} (l : List α) (hf : ∀ a ∈ l, ∀ q q', f a q = .ok q' → BS N q → BS N q') : ∀ (q q' : PS), addAll f l (.ok q) = .ok q' → BS N q → BS N q' := by
  induction l with
  | nil => intro q q' h hq; cases h; exact hq
  | cons a l ih =>
    intro q q' h hq
    have h' : addAll f l (f a q) = .ok q' := h
    cases hfa : f a q with
    | error e =>
      rw [hfa] at h'
      obtain ⟨c, h1, _⟩ := addAll_okE l _ _ h'
      cases h1
    | ok b =>
      rw [hfa] at h'
      exact ih (fun x hx => hf x (List.mem_cons_of_mem _ hx)) b q' h' (hf a (List.mem_cons_self ..) q b hfa hq)
theorem asP_bs {N : Nat} {C : Cx} (hC : BT N C.ts) {exp : Bool} {a b : PS × ByteArray} (h : asP C exp a = .ok b) (hq : BS N a.1) (ha : a.2.size ≤ N) : BS N b.1 ∧ b.2.size ≤ N := by
  unfold asP at h
  split at h
  · exact nameP_bs hC h (adv_bs hq)
  · split at h
    · cases h
    · cases h
      exact ⟨hq, ha⟩
theorem listG_bs {N : Nat} {C : Cx} (hC : BT N C.ts) {exp : Bool} (f : Nat) : ∀ (q : PS) (acc : List Ep) (a : PS × List Ep), listG C exp f q acc = .ok a → BS N q → (∀ x ∈ acc, OkEp N x) → BS N a.1 ∧ ∀ x ∈ a.2, OkEp N x := by
  induction f with
  | zero => intro q acc a h; cases h
  | succ f ih =>
    intro q acc a h hq hacc
    rw [listG] at h
    obtain ⟨b, h1, h2⟩ := bd_eq_ok h
    obtain ⟨c, h3, h4⟩ := bd_eq_ok h2
    obtain ⟨b1, b2⟩ := nameP_bs hC h1 hq
    obtain ⟨c1, c2⟩ := asP_bs hC h3 b1 b2
    have hm : ∀ x ∈ acc ++ [(⟨0, c.2, b.2, sNone⟩ : Ep)], OkEp N x := mem_more hacc ⟨c2, b2, Nat.zero_le _⟩
    split at h4
    · exact ih _ _ _ h4 (adv_bs c1) hm
    · obtain ⟨d, h5, h6⟩ := bd_eq_ok h4
      cases h6
      exact ⟨tokP_bs h5 c1, hm⟩
theorem listP_bs {N : Nat} {C : Cx} (hC : BT N C.ts) {exp : Bool} {q : PS} {a : PS × List Ep} (h : listP C exp q = .ok a) (hq : BS N q) : BS N a.1 ∧ ∀ x ∈ a.2, OkEp N x := by
  obtain ⟨b, h1, h2⟩ := bd_eq_ok h
  exact listG_bs hC _ _ _ _ h2 (tokP_bs h1 hq) fun x hx => by cases hx
theorem semi_bs {N : Nat} {C : Cx} (hC : BT N C.ts) {x : PR} {b : PS × ByteArray} (h : semiN C (tailS C x) = .ok b) : ∃ q, x = .ok q ∧ (BS N q → BS N b.1 ∧ b.2.size ≤ N) := by
  obtain ⟨a, h1, h2⟩ := bd_eq_ok h
  obtain ⟨c, h3, h4⟩ := bd_eq_ok h2
  obtain ⟨d, h5, h6⟩ := bd_eq_ok h1
  obtain ⟨e, h7, h8⟩ := bd_eq_ok h5
  cases h4
  refine ⟨e, h7, fun hq => ?_⟩
  obtain ⟨k1, k2⟩ := specP_bs hC h6 (tokP_bs h8 hq)
  exact ⟨tokP_bs h3 k1, k2⟩
theorem importP_bs {N : Nat} {C : Cx} (hC : BT N C.ts) (hN : 8 ≤ N) {q q' : PS} (h : importP C q = .ok q') (hq : BS N q) : BS N q' := by
  obtain ⟨q1, h1, h2⟩ := bd_eq_ok h
  have e1 := tokP_bs h1 hq
  split at h2
  · obtain ⟨a, h3, h4⟩ := bd_eq_ok h2
    obtain ⟨b, h5, h6⟩ := bd_eq_ok h4
    obtain ⟨l1, l2⟩ := listP_bs hC h3 e1
    obtain ⟨d, h9, h10⟩ := semi_bs hC h5
    cases h9
    obtain ⟨k1, k2⟩ := h10 l1
    exact addAll_bs _ (fun x hx p p' hp hb => addIm_bs hp hb ⟨k2, (l2 x hx).2.1, (l2 x hx).1⟩) _ _ h6 k1
  · split at h2
    · obtain ⟨a, h3, h4⟩ := bd_eq_ok h2
      obtain ⟨b, h5, h6⟩ := bd_eq_ok h4
      obtain ⟨c, h7, h8⟩ := bd_eq_ok h3
      obtain ⟨d, h9, h10⟩ := bd_eq_ok h7
      obtain ⟨n1, n2⟩ := nameP_bs hC h8 (tokP_bs h10 (tokP_bs h9 e1))
      obtain ⟨f, h11, h12⟩ := semi_bs hC h5
      cases h11
      obtain ⟨k1, k2⟩ := h12 n1
      exact addIm_bs h6 k1 ⟨k2, Nat.le_trans (show 1 ≤ 8 by omega) hN, n2⟩
    · split at h2
      · obtain ⟨a, h3, h4⟩ := bd_eq_ok h2
        obtain ⟨b, h5, h6⟩ := bd_eq_ok h4
        obtain ⟨n1, n2⟩ := nameP_bs hC h3 e1
        obtain ⟨f, h11, h12⟩ := semi_bs hC h5
        cases h11
        obtain ⟨k1, k2⟩ := h12 n1
        exact addIm_bs h6 k1 ⟨k2, Nat.le_trans (show 7 ≤ 8 by omega) hN, n2⟩
      · obtain ⟨a, h3, h4⟩ := bd_eq_ok h2
        exact tokP_bs h4 (specP_bs hC h3 e1).1
theorem letP_bs {N : Nat} {C : Cx} (hC : BT N C.ts) (hN : 8 ≤ N) {q : PS} {a : PS × ByteArray} (h : letP C q = .ok a) (hq : BS N q) : BS N a.1 ∧ a.2.size ≤ N := by
  obtain ⟨b, h1, h2⟩ := bd_eq_ok h
  obtain ⟨z, h1b, h2b⟩ := bd_eq_ok h2
  cases h2b
  obtain ⟨c, h3, h4⟩ := bd_eq_ok h1
  obtain ⟨d, h5, h6⟩ := bd_eq_ok h1b
  obtain ⟨f, h7, h8⟩ := bd_eq_ok h5
  obtain ⟨g, h9, h10⟩ := bd_eq_ok h7
  obtain ⟨n1, n2⟩ := nameP_bs hC h4 (tokP_bs h3 hq)
  exact ⟨addSt_bs h6 (tokP_bs h8 (pE_bs hC hN h10 (tokP_bs (show tokP C 4 cEq b.1 = .ok g from h9) n1))) n2, n2⟩
theorem fnP_bs {N : Nat} {C : Cx} (hC : BT N C.ts) (hN : 8 ≤ N) {q : PS} {a : PS × ByteArray} (h : fnP C q = .ok a) (hq : BS N q) : BS N a.1 ∧ a.2.size ≤ N := by
  obtain ⟨b, h1, h2⟩ := bd_eq_ok h
  obtain ⟨z, h1b, h2b⟩ := bd_eq_ok h2
  cases h2b
  obtain ⟨c, h3, h4⟩ := bd_eq_ok h1
  obtain ⟨d, h5, h6⟩ := bd_eq_ok h1b
  obtain ⟨f, h7, h8⟩ := bd_eq_ok h5
  obtain ⟨g, h9, h10⟩ := bd_eq_ok h7
  obtain ⟨i, h11, h12⟩ := bd_eq_ok h9
  obtain ⟨j, h13, h14⟩ := bd_eq_ok h11
  obtain ⟨k, h15, h16⟩ := bd_eq_ok h13
  obtain ⟨l, h17, h18⟩ := bd_eq_ok h15
  obtain ⟨n1, n2⟩ := nameP_bs hC h4 (tokP_bs h3 hq)
  exact ⟨addSt_bs h6 (tokP_bs h8 (tokP_bs h10 (pE_bs hC hN h12 (tokP_bs h14 (tokP_bs h16 (tokP_bs h18 (tokP_bs (show tokP C 4 cOpen b.1 = .ok l from h17) n1))))))) n2, n2⟩
theorem exportP_bs {N : Nat} {C : Cx} (hC : BT N C.ts) (hN : 8 ≤ N) {q q' : PS} (h : exportP C q = .ok q') (hq : BS N q) : BS N q' := by
  obtain ⟨q1, h1, h2⟩ := bd_eq_ok h
  have e1 := tokP_bs h1 hq
  split at h2
  · obtain ⟨a, h3, h4⟩ := bd_eq_ok h2
    obtain ⟨l1, l2⟩ := listP_bs hC h3 e1
    split at h4
    · obtain ⟨b, h5, h6⟩ := bd_eq_ok h4
      exact addAll_bs (f := fun e => addEp C (expLoc e)) _ (fun x hx p p' hp hb => addEp_bs (y := expLoc x) hp hb ⟨(l2 x hx).1, (l2 x hx).2.1, Nat.zero_le _⟩) _ _ h6 (tokP_bs h5 l1)
    · obtain ⟨b, h5, h6⟩ := bd_eq_ok h4
      obtain ⟨d, h9, h10⟩ := semi_bs hC h5
      cases h9
      obtain ⟨k1, k2⟩ := h10 l1
      exact addAll_bs (f := fun e => addEp C (expFrom b.2 e)) _ (fun x hx p p' hp hb => addEp_bs (y := expFrom b.2 x) hp hb ⟨(l2 x hx).1, (l2 x hx).2.1, k2⟩) _ _ h6 k1
  · split at h2
    · obtain ⟨b, h5, h6⟩ := bd_eq_ok h2
      obtain ⟨d, h9, h10⟩ := semi_bs hC h5
      obtain ⟨k1, k2⟩ := h10 (tokP_bs h9 e1)
      exact addEp_bs h6 k1 ⟨Nat.zero_le _, Nat.zero_le _, k2⟩
    · split at h2
      · obtain ⟨a, h3, h4⟩ := bd_eq_ok h2
        obtain ⟨b, h5, h6⟩ := bd_eq_ok h3
        obtain ⟨c, h7, h8⟩ := bd_eq_ok h5
        obtain ⟨d, h9, h10⟩ := bd_eq_ok h7
        exact addEp_bs h4 (addSt_bs h6 (tokP_bs h8 (pE_bs hC hN h10 (tokP_bs h9 e1))) hN) ⟨Nat.le_trans (show 7 ≤ 8 by omega) hN, hN, Nat.zero_le _⟩
      · split at h2
        · obtain ⟨a, h3, h4⟩ := bd_eq_ok h2
          obtain ⟨k1, k2⟩ := letP_bs hC hN h3 e1
          exact addEp_bs h4 k1 ⟨k2, k2, Nat.zero_le _⟩
        · split at h2
          · obtain ⟨a, h3, h4⟩ := bd_eq_ok h2
            obtain ⟨k1, k2⟩ := fnP_bs hC hN h3 e1
            exact addEp_bs h4 k1 ⟨k2, k2, Nat.zero_le _⟩
          · cases h2
theorem stmt_bs {N : Nat} {C : Cx} (hC : BT N C.ts) (hN : 8 ≤ N) {s : ByteArray} {k : Int} {q q' : PS} (h : bd (bd (bd (tokP C 1 s q) (pE C .sum 0)) (tokP C 4 cSemi)) (addSt C k sNone) = .ok q') (hq : BS N q) : BS N q' := by
  obtain ⟨a, h1, h2⟩ := bd_eq_ok h
  obtain ⟨b, h3, h4⟩ := bd_eq_ok h1
  obtain ⟨c, h5, h6⟩ := bd_eq_ok h3
  exact addSt_bs h2 (tokP_bs h4 (pE_bs hC hN h6 (tokP_bs h5 hq))) (Nat.zero_le _)
theorem itemP_bs {N : Nat} {C : Cx} (hC : BT N C.ts) (hN : 8 ≤ N) {q q' : PS} (h : itemP C q = .ok q') (hq : BS N q) : BS N q' := by
  unfold itemP at h
  split at h
  · exact importP_bs hC hN h hq
  · split at h
    · exact exportP_bs hC hN h hq
    · split at h
      · obtain ⟨a, h1, h2⟩ := bd_eq_ok h
        cases h2
        exact (letP_bs hC hN h1 hq).1
      · split at h
        · obtain ⟨a, h1, h2⟩ := bd_eq_ok h
          cases h2
          exact (fnP_bs hC hN h1 hq).1
        · split at h
          · obtain ⟨a, h1, h2⟩ := bd_eq_ok h
            obtain ⟨b, h3, h4⟩ := bd_eq_ok h1
            obtain ⟨c, h5, h6⟩ := bd_eq_ok h3
            obtain ⟨d, h7, h8⟩ := bd_eq_ok h5
            obtain ⟨e, h9, h10⟩ := bd_eq_ok h7
            exact addSt_bs h2 (tokP_bs h4 (tokP_bs h6 (pE_bs hC hN h8 (tokP_bs h10 (tokP_bs h9 hq))))) (Nat.zero_le _)
          · split at h
            · exact stmt_bs hC hN h hq
            · split at h
              · exact stmt_bs hC hN h hq
              · obtain ⟨a, h1, h2⟩ := bd_eq_ok h
                obtain ⟨b, h3, h4⟩ := bd_eq_ok h2
                obtain ⟨c, h5, h6⟩ := bd_eq_ok h3
                obtain ⟨d, h7, h8⟩ := bd_eq_ok h5
                obtain ⟨n1, n2⟩ := nameP_bs hC h1 hq
                exact addSt_bs h4 (tokP_bs h6 (pE_bs hC hN h8 (tokP_bs h7 n1))) n2
theorem itemsG_bs {N : Nat} {C : Cx} (hC : BT N C.ts) (hN : 8 ≤ N) (f : Nat) : ∀ (q q' : PS), itemsG C f q = .ok q' → BS N q → BS N q' := by
  induction f with
  | zero => intro q q' h; cases h
  | succ f ih =>
    intro q q' h hq
    rw [itemsG] at h
    split at h
    · obtain ⟨a, h1, h2⟩ := bd_eq_ok h
      exact ih _ _ h2 (itemP_bs hC hN h1 hq)
    · cases h
      exact hq
theorem parse_bs {s : ByteArray} {scr : Bool} {q : PS} {N : Nat} (h : ParseR s scr (.ok q)) (hs : s.size ≤ N) (hN : 8 ≤ N) : BS N q := by
  obtain ⟨r, ⟨a, _, hl⟩, e⟩ := h
  cases r with
  | error p => cases e
  | ok ts =>
    refine itemsG_bs (C := ⟨ts, s.size, scr⟩) (fun t ht => ?_) hN _ _ _ e.symm ⟨?_, ?_, ?_, ?_, ?_, ?_⟩
    · have := lx_bt hl ts rfl t ht
      exact ⟨Nat.le_trans this.1 hs, this.2⟩
    all_goals (intro x hx; cases hx)
end Go.Proofs.Ytcmpakdfebeklaa
namespace Go.Proofs.Ytcmpakdfebeklaa
open Go.RowKit Go.PlainAid

abbrev dN : List UInt8 := [42, 100, 101, 102, 97, 117, 108, 116]
def FairS (st : List Sm) : Prop := ∀ s ∈ st, s.name.toList = dN → s.kind = 1
def FairT (ts : List Tk) : Prop := ∀ t ∈ ts, t.kind = 1 → t.text.toList ≠ dN
theorem tok_fair {s : ByteArray} {scr : Bool} {a e : Nat} {t : Tk} (ha : a < s.size) (h : Tok s scr a t e) : t.kind = 1 → t.text.toList ≠ dN := by
  have he := (tok_end ha h).1
  have he2 := (tok_end ha h).2.1
  cases h using Tok.elim with
  | name h1 _ =>
    intro _ k
    have k0 : bt (s.extract a e) 0 = 42 := by
      rw [bt_list, ← Lib.toList_data, k]
      rfl
    have hx : bt (s.extract a e) 0 = bt s a := by
      rw [bt_list, bt_list, ByteArray.data_extract]
      simp only [List.getD, List.getElem?_map, Array.getElem?_toList, Array.getElem?_extract]
      rw [if_pos (by have : s.data.size = s.size := rfl; omega), Nat.add_zero]
    rw [← hx, k0] at h1
    cases scr <;> revert h1 <;> decide
  | num _ _ => intro k; cases k
  | str _ _ => intro k; cases k
  | sign _ => intro k; cases k
theorem lx_fair {s : ByteArray} {scr : Bool} {a n : Nat} {r : Except Nat (List Tk)} (h : Lx s scr a n r) : ∀ ts, r = .ok ts → FairT ts := by
  induction h using Lx.ind with
  | done => intro ts k; cases k; intro t ht; cases ht
  | bad _ _ => intro ts k; cases k
  | @tok a n e b t r h hn ht hs hr ih =>
    intro ts k
    cases r with
    | error p => cases k
    | ok l =>
      cases k
      intro u hu
      rcases List.mem_cons.1 hu with rfl | hu
      · exact tok_fair h ht
      · exact ih l rfl u hu
theorem plain_fair {C : Cx} (hC : FairT C.ts) {i : Nat} {o : Bool} (h : plainB C i o = true) : (tokAt C i).text.toList ≠ dN := by
  have hi := plain_lt h
  have e : tokAt C i = C.ts[i] := by simp [tokAt, List.getD, List.getElem?_eq_getElem hi]
  simp only [plainB, Bool.and_eq_true, beq_iff_eq] at h
  rw [e] at h ⊢
  exact hC _ (List.getElem_mem hi) h.1
theorem nameP_fair {C : Cx} (hC : FairT C.ts) {o : Bool} {q : PS} {y : PS × ByteArray} (h : nameP C o q = .ok y) : y.2.toList ≠ dN ∧ y.1.st = q.st := by
  obtain ⟨rfl, hp⟩ := nameP_ok h
  exact ⟨plain_fair hC hp, rfl⟩
theorem tokP_st {C : Cx} {k : Int} {x : ByteArray} {q q' : PS} (h : tokP C k x q = .ok q') : q'.st = q.st := by
  obtain ⟨rfl, _⟩ := tokP_ok h
  rfl
theorem addEx_st {C : Cx} {x : Ex} {q q' : PS} (h : addEx C x q = .ok q') : q'.st = q.st := by
  obtain ⟨rfl, _⟩ := addEx_ok h
  rfl
theorem tailP_st {C : Cx} {n : ByteArray} {q q' : PS} (h : tailP C n q = .ok q') : q'.st = q.st := by
  unfold tailP at h
  split at h
  · obtain ⟨a, h1, h2⟩ := bd_eq_ok h
    obtain ⟨b, h3, h4⟩ := bd_eq_ok h1
    rw [addEx_st h2, tokP_st h4, tokP_st h3]
  · exact addEx_st h
theorem memP_st {C : Cx} {n f : ByteArray} {q q' : PS} (h : memP C n f q = .ok q') : q'.st = q.st := by
  unfold memP at h
  split at h
  · obtain ⟨a, h1, h2⟩ := bd_eq_ok h
    obtain ⟨b, h3, h4⟩ := bd_eq_ok h1
    rw [addEx_st h2, tokP_st h4, tokP_st h3]
  · exact addEx_st h
theorem nameP_st {C : Cx} {o : Bool} {q : PS} {y : PS × ByteArray} (h : nameP C o q = .ok y) : y.1.st = q.st := by
  obtain ⟨rfl, _⟩ := nameP_ok h
  rfl
theorem ev_st {C : Cx} (f : Nat) : ∀ (nt : NT) (d : Nat) (q q' : PS), ev C f nt d q = .ok q' → q'.st = q.st := by
  induction f with
  | zero => intro nt d q q' h; cases nt using NT.elim <;> cases h
  | succ f ih =>
    intro nt d q q' h
    cases nt using NT.elim with
    | sum =>
      rw [ev] at h
      obtain ⟨a, h1, h2⟩ := bd_eq_ok h
      exact (ih _ _ _ _ h2).trans (ih _ _ _ _ h1)
    | prod =>
      rw [ev] at h
      obtain ⟨a, h1, h2⟩ := bd_eq_ok h
      exact (ih _ _ _ _ h2).trans (ih _ _ _ _ h1)
    | sumT =>
      rw [ev] at h
      split at h
      · obtain ⟨a, h1, h2⟩ := bd_eq_ok h
        obtain ⟨b, h3, h4⟩ := bd_eq_ok h1
        exact (ih _ _ _ _ h2).trans ((addEx_st h4).trans (show b.st = (adv q).st from ih _ _ _ _ h3))
      · cases h; rfl
    | prodT =>
      rw [ev] at h
      split at h
      · obtain ⟨a, h1, h2⟩ := bd_eq_ok h
        obtain ⟨b, h3, h4⟩ := bd_eq_ok h1
        exact (ih _ _ _ _ h2).trans ((addEx_st h4).trans (show b.st = (adv q).st from ih _ _ _ _ h3))
      · cases h; rfl
    | part =>
      rw [ev] at h
      split at h
      · exact (show q'.st = (adv q).st from addEx_st h)
      · split at h
        · split at h
          · cases h
          · obtain ⟨a, h1, h2⟩ := bd_eq_ok h
            exact (tokP_st h2).trans (show a.st = (adv q).st from ih _ _ _ _ h1)
        · split at h
          · exact (show q'.st = (adv q).st from tailP_st h)
          · obtain ⟨a, h1, h2⟩ := bd_eq_ok h
            split at h2
            · obtain ⟨b, h3, h4⟩ := bd_eq_ok h2
              exact (memP_st h4).trans ((show b.1.st = (adv a.1).st from nameP_st h3).trans (nameP_st h1))
            · exact (tailP_st h2).trans (nameP_st h1)
theorem pE_st {C : Cx} {nt : NT} {d : Nat} {q q' : PS} (h : pE C nt d q = .ok q') : q'.st = q.st := ev_st _ _ _ _ _ h
theorem specP_st {C : Cx} {q : PS} {a : PS × ByteArray} (h : specP C q = .ok a) : a.1.st = q.st := by
  unfold specP at h
  split at h
  · split at h
    · cases h; rfl
    · split at h
      · cases h
      · cases h; rfl
  · cases h
theorem addSt_fair {C : Cx} {k : Int} {n : ByteArray} {q q' : PS} (h : addSt C k n q = .ok q') (hq : FairS q.st) (hn : n.toList = dN → k = 1) : FairS q'.st := by
  unfold addSt at h
  split at h
  · cases h
  · cases h
    intro s hs
    rcases List.mem_append.1 hs with hs | hs
    · exact hq s hs
    · rw [List.mem_singleton] at hs
      rw [hs]
      exact hn
theorem addIm_st {C : Cx} {y : Im} {q q' : PS} (h : addIm C y q = .ok q') : q'.st = q.st := by
  unfold addIm at h
  split at h
  · cases h
  · cases h; rfl
theorem addEp_st {C : Cx} {y : Ep} {q q' : PS} (h : addEp C y q = .ok q') : q'.st = q.st := by
  unfold addEp at h
  split at h
  · cases h
  · split at h
    · cases h; rfl
    · cases h; rfl
theorem addAll_st {α : Type} {f : α → PS → PR} (hf : ∀ a q q', f a q = .ok q' → q'.st = q.st) (l : List α) : ∀ (x : PR) (q' : PS), addAll f l x = .ok q' → ∃ q, x = .ok q ∧ q'.st = q.st := by
  induction l with
  | nil => intro x q' h; exact ⟨q', h, rfl⟩
  | cons a l ih =>
    intro x q' h
    obtain ⟨b, h1, h2⟩ := ih _ _ h
    obtain ⟨c, h3, h4⟩ := bd_eq_ok h1
    exact ⟨c, h3, h2.trans (hf _ _ _ h4)⟩
theorem asP_st {C : Cx} {exp : Bool} {a b : PS × ByteArray} (h : asP C exp a = .ok b) : b.1.st = a.1.st := by
  unfold asP at h
  split at h
  · exact (show b.1.st = (adv a.1).st from nameP_st h)
  · split at h
    · cases h
    · cases h; rfl
theorem listG_st {C : Cx} {exp : Bool} (f : Nat) : ∀ (q : PS) (acc : List Ep) (a : PS × List Ep), listG C exp f q acc = .ok a → a.1.st = q.st := by
  induction f with
  | zero => intro q acc a h; cases h
  | succ f ih =>
    intro q acc a h
    rw [listG] at h
    obtain ⟨b, h1, h2⟩ := bd_eq_ok h
    obtain ⟨c, h3, h4⟩ := bd_eq_ok h2
    have e1 := nameP_st h1
    have e2 := asP_st h3
    split at h4
    · exact (ih _ _ _ h4).trans (e2.trans e1)
    · obtain ⟨d, h5, h6⟩ := bd_eq_ok h4
      cases h6
      exact (tokP_st h5).trans (e2.trans e1)
theorem listP_st {C : Cx} {exp : Bool} {q : PS} {a : PS × List Ep} (h : listP C exp q = .ok a) : a.1.st = q.st := by
  obtain ⟨b, h1, h2⟩ := bd_eq_ok h
  exact (listG_st _ _ _ _ h2).trans (tokP_st h1)
theorem semi_st {C : Cx} {x : PR} {b : PS × ByteArray} (h : semiN C (tailS C x) = .ok b) : ∃ q, x = .ok q ∧ b.1.st = q.st := by
  obtain ⟨a, h1, h2⟩ := bd_eq_ok h
  obtain ⟨c, h3, h4⟩ := bd_eq_ok h2
  obtain ⟨d, h5, h6⟩ := bd_eq_ok h1
  obtain ⟨e, h7, h8⟩ := bd_eq_ok h5
  cases h4
  exact ⟨e, h7, (tokP_st h3).trans ((specP_st h6).trans (tokP_st h8))⟩
theorem importP_st {C : Cx} {q q' : PS} (h : importP C q = .ok q') : q'.st = q.st := by
  obtain ⟨q1, h1, h2⟩ := bd_eq_ok h
  have e1 := tokP_st h1
  split at h2
  · obtain ⟨a, h3, h4⟩ := bd_eq_ok h2
    obtain ⟨b, h5, h6⟩ := bd_eq_ok h4
    obtain ⟨d, h9, h10⟩ := semi_st h5
    obtain ⟨f, h11, h12⟩ := addAll_st (fun _ _ _ h => addIm_st h) _ _ _ h6
    cases h9
    cases h11
    exact h12.trans (h10.trans ((listP_st h3).trans e1))
  · split at h2
    · obtain ⟨a, h3, h4⟩ := bd_eq_ok h2
      obtain ⟨b, h5, h6⟩ := bd_eq_ok h4
      obtain ⟨c, h7, h8⟩ := bd_eq_ok h3
      obtain ⟨d, h9, h10⟩ := bd_eq_ok h7
      obtain ⟨f, h11, h12⟩ := semi_st h5
      cases h11
      exact (addIm_st h6).trans (h12.trans ((nameP_st h8).trans ((tokP_st h10).trans ((tokP_st h9).trans e1))))
    · split at h2
      · obtain ⟨a, h3, h4⟩ := bd_eq_ok h2
        obtain ⟨b, h5, h6⟩ := bd_eq_ok h4
        obtain ⟨f, h11, h12⟩ := semi_st h5
        cases h11
        exact (addIm_st h6).trans (h12.trans ((nameP_st h3).trans e1))
      · obtain ⟨a, h3, h4⟩ := bd_eq_ok h2
        exact (tokP_st h4).trans ((specP_st h3).trans e1)
theorem letP_fair {C : Cx} {q : PS} {a : PS × ByteArray} (h : letP C q = .ok a) (hq : FairS q.st) : FairS a.1.st := by
  obtain ⟨b, h1, h2⟩ := withN_le h
  obtain ⟨c, h3, h4⟩ := bd_eq_ok h1
  obtain ⟨d, h5, h6⟩ := bd_eq_ok h2
  obtain ⟨f, h7, h8⟩ := bd_eq_ok h5
  obtain ⟨g, h9, h10⟩ := bd_eq_ok h7
  refine addSt_fair h6 ?_ (fun _ => rfl)
  rw [tokP_st h8, pE_st h10, tokP_st (show tokP C 4 cEq b.1 = .ok g from h9), nameP_st h4, tokP_st h3]
  exact hq
theorem fnP_fair {C : Cx} (hC : FairT C.ts) {q : PS} {a : PS × ByteArray} (h : fnP C q = .ok a) (hq : FairS q.st) : FairS a.1.st := by
  obtain ⟨b, h1, h2⟩ := withN_le h
  obtain ⟨c, h3, h4⟩ := bd_eq_ok h1
  obtain ⟨d, h5, h6⟩ := bd_eq_ok h2
  obtain ⟨f, h7, h8⟩ := bd_eq_ok h5
  obtain ⟨g, h9, h10⟩ := bd_eq_ok h7
  obtain ⟨i, h11, h12⟩ := bd_eq_ok h9
  obtain ⟨j, h13, h14⟩ := bd_eq_ok h11
  obtain ⟨k, h15, h16⟩ := bd_eq_ok h13
  obtain ⟨l, h17, h18⟩ := bd_eq_ok h15
  refine addSt_fair h6 ?_ (fun hn => absurd hn (nameP_fair hC h4).1)
  rw [tokP_st h8, tokP_st h10, pE_st h12, tokP_st h14, tokP_st h16, tokP_st h18, tokP_st (show tokP C 4 cOpen b.1 = .ok l from h17), nameP_st h4, tokP_st h3]
  exact hq
theorem exportP_fair {C : Cx} (hC : FairT C.ts) {q q' : PS} (h : exportP C q = .ok q') (hq : FairS q.st) : FairS q'.st := by
  obtain ⟨q1, h1, h2⟩ := bd_eq_ok h
  have e1 := tokP_st h1
  rw [← e1] at hq
  split at h2
  · obtain ⟨a, h3, h4⟩ := bd_eq_ok h2
    have e2 := listP_st h3
    split at h4
    · obtain ⟨b, h5, h6⟩ := bd_eq_ok h4
      obtain ⟨f, h11, h12⟩ := addAll_st (fun _ _ _ h => addEp_st h) _ _ _ h6
      have e4 := tokP_st h5
      cases h11
      rw [h12, e4, e2]
      exact hq
    · obtain ⟨b, h5, h6⟩ := bd_eq_ok h4
      obtain ⟨d, h9, h10⟩ := semi_st h5
      obtain ⟨f, h11, h12⟩ := addAll_st (fun _ _ _ h => addEp_st h) _ _ _ h6
      cases h9
      cases h11
      rw [h12, h10, e2]
      exact hq
  · split at h2
    · obtain ⟨b, h5, h6⟩ := bd_eq_ok h2
      obtain ⟨d, h9, h10⟩ := semi_st h5
      rw [addEp_st h6, h10, tokP_st h9]
      exact hq
    · split at h2
      · obtain ⟨a, h3, h4⟩ := bd_eq_ok h2
        obtain ⟨b, h5, h6⟩ := bd_eq_ok h3
        obtain ⟨c, h7, h8⟩ := bd_eq_ok h5
        obtain ⟨d, h9, h10⟩ := bd_eq_ok h7
        rw [addEp_st h4]
        refine addSt_fair h6 ?_ (fun _ => rfl)
        rw [tokP_st h8, pE_st h10, tokP_st h9]
        exact hq
      · split at h2
        · obtain ⟨a, h3, h4⟩ := bd_eq_ok h2
          rw [addEp_st h4]
          exact letP_fair h3 hq
        · split at h2
          · obtain ⟨a, h3, h4⟩ := bd_eq_ok h2
            rw [addEp_st h4]
            exact fnP_fair hC h3 hq
          · cases h2
theorem none_not {k : Int} (h : sNone.toList = dN) : k = 1 := by
  rw [Lib.toList_data] at h
  cases h
theorem stmt_fair {C : Cx} {s : ByteArray} {k : Int} {q q' : PS} (h : bd (bd (bd (tokP C 1 s q) (pE C .sum 0)) (tokP C 4 cSemi)) (addSt C k sNone) = .ok q') (hq : FairS q.st) : FairS q'.st := by
  obtain ⟨a, h1, h2⟩ := bd_eq_ok h
  obtain ⟨b, h3, h4⟩ := bd_eq_ok h1
  obtain ⟨c, h5, h6⟩ := bd_eq_ok h3
  refine addSt_fair h2 ?_ none_not
  rw [tokP_st h4, pE_st h6, tokP_st h5]
  exact hq
theorem itemP_fair {C : Cx} (hC : FairT C.ts) {q q' : PS} (h : itemP C q = .ok q') (hq : FairS q.st) : FairS q'.st := by
  unfold itemP at h
  split at h
  · rw [importP_st h]; exact hq
  · split at h
    · exact exportP_fair hC h hq
    · split at h
      · obtain ⟨a, h1, h2⟩ := bd_eq_ok h
        cases h2
        exact letP_fair h1 hq
      · split at h
        · obtain ⟨a, h1, h2⟩ := bd_eq_ok h
          cases h2
          exact fnP_fair hC h1 hq
        · split at h
          · obtain ⟨a, h1, h2⟩ := bd_eq_ok h
            obtain ⟨b, h3, h4⟩ := bd_eq_ok h1
            obtain ⟨c, h5, h6⟩ := bd_eq_ok h3
            obtain ⟨d, h7, h8⟩ := bd_eq_ok h5
            obtain ⟨e, h9, h10⟩ := bd_eq_ok h7
            refine addSt_fair h2 ?_ none_not
            rw [tokP_st h4, tokP_st h6, pE_st h8, tokP_st h10, tokP_st h9]
            exact hq
          · split at h
            · exact stmt_fair h hq
            · split at h
              · exact stmt_fair h hq
              · obtain ⟨a, h1, h2⟩ := bd_eq_ok h
                obtain ⟨b, h3, h4⟩ := bd_eq_ok h2
                obtain ⟨c, h5, h6⟩ := bd_eq_ok h3
                obtain ⟨d, h7, h8⟩ := bd_eq_ok h5
                refine addSt_fair h4 ?_ (fun hn => absurd hn (nameP_fair hC h1).1)
                rw [tokP_st h6, pE_st h8, tokP_st h7, nameP_st h1]
                exact hq
theorem itemsG_fair {C : Cx} (hC : FairT C.ts) (f : Nat) : ∀ (q q' : PS), itemsG C f q = .ok q' → FairS q.st → FairS q'.st := by
  induction f with
  | zero => intro q q' h; cases h
  | succ f ih =>
    intro q q' h hq
    rw [itemsG] at h
    split at h
    · obtain ⟨a, h1, h2⟩ := bd_eq_ok h
      exact ih _ _ h2 (itemP_fair hC h1 hq)
    · cases h
      exact hq
theorem parse_fair {s : ByteArray} {scr : Bool} {q : PS} (h : ParseR s scr (.ok q)) : FairS q.st := by
  obtain ⟨r, ⟨a, _, hl⟩, e⟩ := h
  cases r with
  | error p => cases e
  | ok ts => exact itemsG_fair (lx_fair hl ts rfl) _ _ _ e.symm (fun s hs => by cases hs)
end Go.Proofs.Ytcmpakdfebeklaa
