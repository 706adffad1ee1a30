/-
  What impl.isOneOf, impl.nameEnd, impl.commentEnd, impl.numberToken and impl.quotedToken answer: the walks.
-/
import Derived.Test.YticdggnnpjachaaGreatCaImplLexMath
import Derived.Test.YticdggnnpjachaaGreatCaReadDecImpl
import Derived.Test.YticdggnnpjachaaGreatCaShelf
import Derived.Test.YticdggnnpjachaaGreatCaSpecLex
namespace Go.Proofs.YticdggnnpjachaaGreat
open Go.RowKit Go.PlainAid

theorem blanks_any (c : Int) (w : World) (h0 : 0 ≤ c) (h1 : c ≤ 255) :
    Calls Tryz.prog 79 #[.string { data := #[9, 10, 13, 32] }, .int .u8 c] w fun e w' => e = .returned (.bool (blankB c)) ∧ w' = w := by
  have HV : Hid (decide (0 ≤ Lib.indexByte [9, 10, 13, 32] c.toNat.toUInt8) = blankB c) := blank_one c h0 h1
  go_enter Tryz.func79, Tryz.ntmps79
  go_wp2_with fail
  refine (Tryz.strings_IndexByte _ _ _).mono ?_
  rintro e w' ⟨rfl, rfl⟩
  go_wp2
  go_ret
  exact ⟨ret_bool HV.out, rfl⟩
theorem signs_any (c : Int) (w : World) (h0 : 0 ≤ c) (h1 : c ≤ 255) :
    Calls Tryz.prog 79 #[.string { data := #[123, 125, 40, 41, 44, 59, 61, 46, 42, 43, 45] }, .int .u8 c] w fun e w' => e = .returned (.bool (sgnB c)) ∧ w' = w := by
  have HV : Hid (decide (0 ≤ Lib.indexByte [123, 125, 40, 41, 44, 59, 61, 46, 42, 43, 45] c.toNat.toUInt8) = sgnB c) := sign_one c h0 h1
  go_enter Tryz.func79, Tryz.ntmps79
  go_wp2_with fail
  refine (Tryz.strings_IndexByte _ _ _).mono ?_
  rintro e w' ⟨rfl, rfl⟩
  go_wp2
  go_ret
  exact ⟨ret_bool HV.out, rfl⟩

theorem cloneL_any (s : ByteArray) (w : World) (h : s.size ≤ 281474976710656) :
    Calls Tryz.prog 85 #[.string s] w fun e w' => e = .returned (.string s) ∧ Below w.heap.size w w' := by
  go_enter Tryz.func85, Tryz.ntmps85
  go_wp2_with fail
  refine (Tryz.stringslite_Clone _ _ h).mono ?_
  rintro e w' ⟨rfl, hb⟩
  go_wp2
  go_ret
  exact ⟨rfl, hb⟩

set_option maxHeartbeats 1600000 in
theorem nameEnd_any (s : ByteArray) (a : Nat) (scr : Bool) (w : World) (ha : a ≤ s.size) (hs : s.size ≤ 4294967296) :
    Calls Tryz.prog 84 #[.string s, .int .i64 a, .bool scr] w fun e w' => ∃ n : Nat, e = .returned (.int .i64 n) ∧ RunEnd (worB scr) s a n ∧ w' = w := by
  have hb := get_bt s
  go_enter Tryz.func84, Tryz.ntmps84
  go_wp2
  go_loop [1] (fun i => ∃ k : Nat, a ≤ k ∧ k ≤ s.size ∧ i = .int .i64 k ∧ ∀ j, a ≤ j → j < k → worB scr (bt s j) = true) (fun i => (s.size - intOf i).toNat)
  case atStart => exact ⟨a, Nat.le_refl _, ha, rfl, fun j h1 h2 => by omega⟩
  case round =>
    obtain ⟨k, hk1, hk2, rfl, hok⟩ := hrel
    have HOK : Hid (∀ j, a ≤ j → j < k → worB scr (bt s j) = true) := hok
    clear hok
    by_cases hlt : k < s.size
    · have hb0 := bt_nonneg s k
      have hb1 := bt_le s k
      cases hl : worB scr (bt s k) with
      | true =>
        have HX : Hid (∀ j, a ≤ j → j < k + 1 → worB scr (bt s j) = true) := run_next HOK.out hl
        go_wp2_with (first | (go_at_call 83; refine (isNameByte_any _ _ _ hb0 hb1).mono ?_; rintro e w' ⟨rfl, rfl⟩))
        go_round
        case rel => exact ⟨k + 1, by omega, by omega, by go_num, HX.out⟩
        case measure => simp [intOf]; omega
      | false =>
        have HE : Hid (RunEnd (worB scr) s a k) := ⟨hk1, hk2, HOK.out, fun _ => hl⟩
        go_wp2_with (first | (go_at_call 83; refine (isNameByte_any _ _ _ hb0 hb1).mono ?_; rintro e w' ⟨rfl, rfl⟩))
        go_ret
        exact ⟨k, rfl, HE.out, rfl⟩
    · have HE : Hid (RunEnd (worB scr) s a k) := ⟨hk1, hk2, HOK.out, fun h => absurd h hlt⟩
      go_wp2
      go_ret
      exact ⟨k, rfl, HE.out, rfl⟩

theorem commentEnd_any (s : ByteArray) (a : Nat) (w : World) (ha : a ≤ s.size) (hs : s.size ≤ 4294967296) :
    Calls Tryz.prog 81 #[.string s, .int .i64 a] w fun e w' => ∃ n : Nat, e = .returned (.int .i64 n) ∧ RunEnd notNl s a n ∧ w' = w := by
  obtain ⟨o, ho⟩ : ∃ o, Lib.indexByte (s.extract a s.size).data.toList (10 : Int).toNat.toUInt8 = o := ⟨_, rfl⟩
  have hge := Lib.indexByte_ge (s.extract a s.size).data.toList (10 : Int).toNat.toUInt8
  rw [ho] at hge
  by_cases h0 : 0 ≤ o
  · obtain ⟨n, hn, hr, hlt⟩ := comment_yes h0 ho
    have HN : Hid ((a : Int) + o = n) := hn
    have HR : Hid (RunEnd notNl s a n) := hr
    have hbd : (a : Int) + o ≤ 4294967296 := by omega
    clear hn hr
    go_enter Tryz.func81, Tryz.ntmps81
    go_wp2_with fail
    refine (Tryz.strings_IndexByte _ _ _).mono ?_
    rintro e w' ⟨rfl, rfl⟩
    rw [ho]
    go_wp2
    go_ret
    exact ⟨n, ret_int HN.out, HR.out, rfl⟩
  · have HR : Hid (RunEnd notNl s a s.size) := comment_no ha (by rw [ho]; exact h0)
    go_enter Tryz.func81, Tryz.ntmps81
    go_wp2_with fail
    refine (Tryz.strings_IndexByte _ _ _).mono ?_
    rintro e w' ⟨rfl, rfl⟩
    rw [ho]
    go_wp2
    go_ret
    exact ⟨s.size, rfl, HR.out, rfl⟩

def TokHere (s : ByteArray) (scr : Bool) (a : Nat) (v : Value) (z : Int) : Prop :=
  (∃ (t : Tk) (n : Nat), v = tkV t ∧ z = n ∧ Tok s scr a t n) ∨ (z = a ∧ (∃ k x y u, v = .agg #[.int .i64 k, .string x, .int .i64 y, .int .i64 u]) ∧ ∀ t n, ¬ Tok s scr a t n)

set_option maxHeartbeats 3200000 in
theorem numberToken_any (s : ByteArray) (a : Nat) (scr : Bool) (w : World) (ha : a < s.size) (hd : digB (bt s a) = true) (hs : s.size ≤ 4294967296) :
    Calls Tryz.prog 86 #[.string s, .int .i64 a, .bool scr] w fun e w' => ∃ v z, e = .returned (.tuple #[v, .int .i64 z]) ∧ TokHere s scr a v z ∧ Below w.heap.size w w' := by
  have HD : Hid (digB (bt s a) = true) := hd
  go_enter Tryz.func86, Tryz.ntmps86
  go_wp2_with fail
  refine (nameEnd_any _ _ _ _ (by omega) hs).mono ?_
  rintro e w' ⟨n, rfl, hr, rfl⟩
  have HR : Hid (RunEnd (worB scr) s a n) := hr
  have hr1 : a ≤ n := hr.1
  have hr2 : n ≤ s.size := hr.2.1
  clear hr
  go_wp2_with fail
  refine (readDec_impl _ _ (by rw [size_piece _ _ _ hr2]; omega)).mono ?_
  rintro e w' ⟨rfl, rfl⟩
  by_cases hp : RdP (s.extract a n)
  · rw [rdOk_yes hp]
    by_cases hv : rdV (s.extract a n) ≤ 1000000
    · have HN : Hid (NumAt s a scr (rdV (s.extract a n)) n) := num_yes ha HD.out HR.out hp hv
      obtain ⟨x, hx⟩ : ∃ x, rdV (s.extract a n) = x := ⟨_, rfl⟩
      rw [hx] at hv HN ⊢
      have q1 : decide (1000000 < x) = false := decide_eq_false (by omega)
      go_wp2
      refine bodyPost_ret (results_cell_row_tmp rfl _ _ w.heap.size 111 _ (0, 0) _ rfl (heap_alloc_new w _) Tryz.underlying111 rfl (by kernel_rfl)) rfl ?_
      exact ⟨_, _, rfl, .inl ⟨⟨2, { data := #[] }, x, a⟩, n, rfl, rfl, .num HD.out HN.out⟩, (Below.refl _ _).alloc (Nat.le_refl _) _⟩
    · have HN : Hid (∀ t e, ¬ Tok s scr a t e) := tok_no_num HD.out (num_no ha HD.out HR.out (.inr (by omega)))
      obtain ⟨x, hx⟩ : ∃ x, rdV (s.extract a n) = x := ⟨_, rfl⟩
      rw [hx] at hv ⊢
      have q1 : decide (1000000 < x) = true := decide_eq_true (by omega)
      go_wp2
      refine bodyPost_ret (results_cell_row_tmp rfl _ _ w.heap.size 111 _ (0, 0) _ rfl (heap_alloc_new w _) Tryz.underlying111 rfl (by kernel_rfl)) rfl ?_
      exact ⟨_, _, rfl, .inr ⟨rfl, ⟨_, _, _, _, rfl⟩, HN.out⟩, (Below.refl _ _).alloc (Nat.le_refl _) _⟩
  · have HN : Hid (∀ t e, ¬ Tok s scr a t e) := tok_no_num HD.out (num_no ha HD.out HR.out (.inl hp))
    rw [rdOk_no hp]
    obtain ⟨x, hx⟩ : ∃ x, rdV (s.extract a n) = x := ⟨_, rfl⟩
    rw [hx]
    go_wp2
    refine bodyPost_ret (results_cell_row_tmp rfl _ _ w.heap.size 111 _ (0, 0) _ rfl (heap_alloc_new w _) Tryz.underlying111 rfl (by kernel_rfl)) rfl ?_
    exact ⟨_, _, rfl, .inr ⟨rfl, ⟨_, _, _, _, rfl⟩, HN.out⟩, (Below.refl _ _).alloc (Nat.le_refl _) _⟩

theorem alloc_size' (w : World) (o : Obj) : (w.alloc o).heap.size = w.heap.size + 1 := by show (w.heap.push _).size = _; simp
theorem cells_kept {w w1 : World} {v0 v1 v2 v3 : Value} {e : TypeId} (h : Below (w.alloc (.cells #[v0, v1, v2, v3] e)).heap.size (w.alloc (.cells #[v0, v1, v2, v3] e)) w1) :
    w1.cell? ⟨w.heap.size, 0, none⟩ = some v0 ∧ w1.cell? ⟨w.heap.size, 1, none⟩ = some v1 ∧ w1.cell? ⟨w.heap.size, 2, none⟩ = some v2 ∧ w1.cell? ⟨w.heap.size, 3, none⟩ = some v3
    ∧ w1.frozen? ⟨w.heap.size, 0, none⟩ = false ∧ w1.frozen? ⟨w.heap.size, 1, none⟩ = false ∧ w1.frozen? ⟨w.heap.size, 2, none⟩ = false ∧ w1.frozen? ⟨w.heap.size, 3, none⟩ = false := by
  have hlt : w.heap.size < (w.alloc (.cells #[v0, v1, v2, v3] e)).heap.size := by show _ < (w.heap.push _).size; simp
  rw [h.cell hlt, h.cell hlt, h.cell hlt, h.cell hlt, h.frozen hlt, h.frozen hlt, h.frozen hlt, h.frozen hlt]
  simp

theorem put_cell {w : World} {b i : Nat} {cs : Array Value} {u : Value} {t : TypeId} (h : w.heap[b]? = some (.cells cs t (0, 0))) : (w.setCell ⟨b, i, none⟩ u).heap[b]? = some (.cells (cs.setIfInBounds i u) t (0, 0)) := by
  simp only [World.setCell, Array.getElem?_modify]
  rw [if_pos trivial, h]
  rfl
theorem put_four {w : World} {b : Nat} {v0 v1 v2 v3 x0 x1 x2 x3 : Value} {t : TypeId} (h : w.heap[b]? = some (.cells #[v0, v1, v2, v3] t (0, 0))) :
    ((((w.setCell ⟨b, 0, none⟩ x0).setCell ⟨b, 1, none⟩ x1).setCell ⟨b, 2, none⟩ x2).setCell ⟨b, 3, none⟩ x3).heap[b]? = some (.cells #[x0, x1, x2, x3] t (0, 0)) :=
  put_cell (put_cell (put_cell (put_cell h)))

set_option maxHeartbeats 3200000 in
theorem quotedToken_any (s : ByteArray) (a : Nat) (scr : Bool) (w : World) (ha : a < s.size) (hd : bt s a = 34) (hs : s.size ≤ 4294967296) :
    Calls Tryz.prog 87 #[.string s, .int .i64 a] w fun e w' => ∃ v z, e = .returned (.tuple #[v, .int .i64 z]) ∧ TokHere s scr a v z ∧ Below w.heap.size w w' := by
  have HD : Hid (bt s a = 34) := hd
  have hb := get_bt s
  obtain ⟨a1, ha1⟩ : ∃ a1, a1 = a + 1 := ⟨_, rfl⟩
  have ea : (a : Int) + 1 = (a1 : Int) := by omega
  have HA1 : Hid (a1 = a + 1) := ha1
  have hx1 : a1 ≤ s.size := by omega
  clear hd ha1
  go_enter Tryz.func87, Tryz.ntmps87
  go_wp2
  go_loop [7] (fun i => ∃ k : Nat, a < k ∧ k ≤ s.size ∧ i = .int .i64 k ∧ ∀ j, a < j → j < k → InStr (bt s j)) (fun i => (s.size - intOf i).toNat)
  case atStart => exact ⟨a1, by omega, by omega, rfl, fun j h1 h2 => by omega⟩
  case round =>
    obtain ⟨k, hk1, hk2, rfl, hok⟩ := hrel
    have hx2 : a1 ≤ k := by omega
    have HOK : Hid (∀ j, a < j → j < k → InStr (bt s j)) := hok
    clear hok
    by_cases hlt : k < s.size
    · have hb0 := bt_nonneg s k
      have hb1 := bt_le s k
      cases hst : strB (bt s k) with
      | true =>
        have HX : Hid (∀ j, a < j → j < k + 1 → InStr (bt s j)) := fun j h1 h2 => by
          by_cases e : j = k
          · rw [e]; exact of_decide_eq_true hst
          · exact HOK.out j h1 (by omega)
        go_wp2_with (first | (go_at_call 143; refine (isStrByte_any _ _ hb0 hb1).mono ?_; rintro e w' ⟨rfl, rfl⟩))
        go_round
        case rel => exact ⟨k + 1, by omega, by omega, by go_num, HX.out⟩
        case measure => simp [intOf]; omega
      | false =>
        have HNI : Hid (¬ InStr (bt s k)) := of_decide_eq_false hst
        have q0 : ((k : Int) == (s.size : Int)) = false := beq_eq_false_iff_ne.2 (by omega)
        by_cases h34 : bt s k = 34
        · by_cases hl : k ≤ a + 41
          · have HE : Hid (StrAt s a (k + 1)) := ⟨by omega, by omega, by omega, by rw [Nat.add_sub_cancel]; exact h34, fun j h1 h2 => HOK.out j h1 (by omega)⟩
            have q1 : (bt s k != 34) = false := by rw [h34]; rfl
            have q2 : decide ((40 : Int) < (k : Int) - (a1 : Int)) = false := decide_eq_false (by omega)
            clear h34
            go_wp2_with (first | (go_at_call 85; refine (cloneL_any _ _ (by rw [size_piece _ _ _ hk2]; omega)).mono ?_; rintro e w1 ⟨rfl, hb1'⟩; have hcell := cells_kept hb1'; obtain ⟨hc0, hc1, hc2, hc3, hf0, hf1, hf2, hf3⟩ := hcell) | (go_at_call 143; refine (isStrByte_any _ _ hb0 hb1).mono ?_; rintro e w' ⟨rfl, rfl⟩))
            refine bodyPost_ret (results_cell_row_tmp rfl _ _ w.heap.size 111 _ (0, 0) _ rfl (put_four ((hb1'.block _ (by rw [alloc_size']; omega)).trans (heap_alloc_new w _))) Tryz.underlying111 rfl (by kernel_rfl)) rfl ?_
            exact ⟨_, _, rfl, .inl ⟨⟨3, s.extract (a + 1) (k + 1 - 1), 0, a⟩, k + 1, by rw [HA1.out]; rfl, by omega, .str HD.out HE.out⟩, (((((Below.refl _ _).alloc (Nat.le_refl _) _).trans (hb1'.mono (by rw [alloc_size']; omega))).setCell (Nat.le_refl _) _).setCell (Nat.le_refl _) _).setCell (Nat.le_refl _) _ |>.setCell (Nat.le_refl _) _⟩
          · have HN : Hid (∀ t e, ¬ Tok s scr a t e) := tok_no_str HD.out (str_no_end HOK.out (.inr (by omega)))
            have q1 : (bt s k != 34) = false := by rw [h34]; rfl
            have q2 : decide ((40 : Int) < (k : Int) - (a1 : Int)) = true := decide_eq_true (by omega)
            clear h34
            go_wp2_with (first | (go_at_call 143; refine (isStrByte_any _ _ hb0 hb1).mono ?_; rintro e w' ⟨rfl, rfl⟩))
            refine bodyPost_ret (results_cell_row_tmp rfl _ _ w.heap.size 111 _ (0, 0) _ rfl (heap_alloc_new w _) Tryz.underlying111 rfl (by kernel_rfl)) rfl ?_
            exact ⟨_, _, rfl, .inr ⟨rfl, ⟨_, _, _, _, rfl⟩, HN.out⟩, (Below.refl _ _).alloc (Nat.le_refl _) _⟩
        · have HN : Hid (∀ t e, ¬ Tok s scr a t e) := tok_no_str HD.out (str_no_byte hk1 HOK.out h34 HNI.out)
          have q1 : (bt s k != 34) = true := bne_iff_ne.2 h34
          clear h34
          go_wp2_with (first | (go_at_call 143; refine (isStrByte_any _ _ hb0 hb1).mono ?_; rintro e w' ⟨rfl, rfl⟩))
          refine bodyPost_ret (results_cell_row_tmp rfl _ _ w.heap.size 111 _ (0, 0) _ rfl (heap_alloc_new w _) Tryz.underlying111 rfl (by kernel_rfl)) rfl ?_
          exact ⟨_, _, rfl, .inr ⟨rfl, ⟨_, _, _, _, rfl⟩, HN.out⟩, (Below.refl _ _).alloc (Nat.le_refl _) _⟩
    · have HN : Hid (∀ t e, ¬ Tok s scr a t e) := tok_no_str HD.out (str_no_end HOK.out (.inl (by omega)))
      have q0 : ((k : Int) == (s.size : Int)) = true := beq_iff_eq.2 (by omega)
      go_wp2
      refine bodyPost_ret (results_cell_row_tmp rfl _ _ w.heap.size 111 _ (0, 0) _ rfl (heap_alloc_new w _) Tryz.underlying111 rfl (by kernel_rfl)) rfl ?_
      exact ⟨_, _, rfl, .inr ⟨rfl, ⟨_, _, _, _, rfl⟩, HN.out⟩, (Below.refl _ _).alloc (Nat.le_refl _) _⟩
end Go.Proofs.YticdggnnpjachaaGreat
