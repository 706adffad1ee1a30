/-
  What spec.l3Token and spec.Lex answer: the walks.
-/
import Derived.Test.YtkplighmefigcaaSpecLexC
import Derived.Laws.Rows
import Derived.Laws.ResultCell
namespace Go.Proofs.Ytkplighmefigcaa
open Go.RowKit Go.PlainAid

theorem results_cell_row_tmp {P : Program} {fn : Func} {p u : Tmp} {ty : TypeId} (h : fn.results = #[.cell p ty, .tmp u]) (tmps : Array Value) (w : World) (g : Nat) (t : TypeId) (cs : Array Value) (fr : Nat × Nat) (d : TypeDesc)
    (hp : tmps.getD p undef = .pointer (some ⟨g, 0, none⟩)) (hg : w.heap[g]? = some (.cells cs t fr))
    (hu : P.underlying ty = some d) (hd : (match d with | .struct _ | .array _ _ => true | _ => false) = true) (hi : (P.info? ty).map (·.size) = some cs.size) :
    (results fn tmps).run P w = .ok (.tuple #[.agg cs, tmps.getD u undef]) w := by
  rw [results_cell_tmp h, hp]
  simp [asAddr, Result.andThen, run_loadVar_row w g t ty cs fr d hg hu hd hi]
def tkV (t : Tk) : Value := .agg #[.int .i64 t.kind, .string t.text, .int .i64 t.num, .int .i64 t.pos]
def TokOut (s : ByteArray) (scr : Bool) (a : Nat) (v : Value) (z : Int) : Prop :=
  (∃ (t : Tk) (n : Nat), v = tkV t ∧ z = n ∧ Tok s scr a t n) ∨ (z = -1 ∧ (∃ k x y u, v = .agg #[.int .i64 k, .string x, .int .i64 y, .int .i64 u]) ∧ ∀ t n, ¬ Tok s scr a t n)
theorem tokOut_no {s : ByteArray} {scr : Bool} {a : Nat} {k y u : Int} {x : ByteArray} (h : ∀ t n, ¬ Tok s scr a t n) : TokOut s scr a (.agg #[.int .i64 k, .string x, .int .i64 y, .int .i64 u]) (-1) := .inr ⟨rfl, ⟨k, x, y, u, rfl⟩, h⟩
theorem tok_no_num {s : ByteArray} {scr : Bool} {a : Nat} (hd : digB (bt s a) = true) (h : ∀ n e, ¬ NumAt s a scr n e) : ∀ t n, ¬ Tok s scr a t n := by
  intro t n ht
  cases ht using Tok.elim with
  | name h' _ => rw [(let_dig h').1] at hd; cases hd
  | num _ he => exact h _ _ he
  | str h' _ => exact (dig_str hd).1 h'
  | sign h' => exact (dig_str hd).2 h'
theorem tok_no_str {s : ByteArray} {scr : Bool} {a : Nat} (hd : bt s a = 34) (h : ∀ e, ¬ StrAt s a e) : ∀ t n, ¬ Tok s scr a t n := by
  intro t n ht
  cases ht using Tok.elim with
  | name h' _ => exact (let_dig h').2.1 hd
  | num h' _ => exact (dig_str h').1 hd
  | str _ he => exact h _ he
  | sign h' => rw [hd] at h'; unfold Sign at h'; omega
theorem tok_no {s : ByteArray} {scr : Bool} {a : Nat} (h1 : letB (bt s a) scr = false) (h2 : digB (bt s a) = false) (h3 : bt s a ≠ 34) (h4 : ¬ Sign (bt s a)) : ∀ t n, ¬ Tok s scr a t n := by
  intro t n ht
  cases ht using Tok.elim with
  | name h' _ => rw [h1] at h'; cases h'
  | num h' _ => rw [h2] at h'; cases h'
  | str h' _ => exact h3 h'
  | sign h' => exact h4 h'

set_option maxHeartbeats 3200000 in
theorem token_spec (s : ByteArray) (a : Nat) (scr : Bool) (w : World) (ha : a < s.size) (hs : s.size ≤ 4294967296) :
    Calls Try.prog 12 #[.string s, .int .i64 a, .bool scr] w fun e w' => ∃ v z, e = .returned (.tuple #[v, .int .i64 z]) ∧ TokOut s scr a v z ∧ Below w.heap.size w w' := by
  have hb := get_bt s
  have hb0 := bt_nonneg s a
  have hb1 := bt_le s a
  cases hl : letB (bt s a) scr with
  | true =>
    have HL : Hid (letB (bt s a) scr = true) := hl
    go_enter Try.func12, Try.ntmps12
    go_wp2_with fail
    refine (letter_spec _ _ _ hb0 hb1).mono ?_
    rintro e w' ⟨rfl, rfl⟩
    go_wp2_with fail
    refine (word_spec _ _ _ _ (by omega) hs).mono ?_
    rintro e w' ⟨n, rfl, hr, rfl⟩
    have HR : Hid (RunEnd (worB scr) s a n) := hr
    have hr1 : a ≤ n := hr.1
    have hr2 : n ≤ s.size := hr.2.1
    clear hr
    go_wp2
    refine bodyPost_ret (results_cell_row_tmp rfl _ _ w.heap.size 31 _ (0, 0) _ rfl (heap_alloc_new w _) Try.underlying31 rfl (by kernel_rfl)) rfl ?_
    exact ⟨_, _, rfl, .inl ⟨⟨1, s.extract a n, 0, a⟩, n, rfl, rfl, .name HL.out HR.out⟩, (Below.refl _ _).alloc (Nat.le_refl _) _⟩
  | false =>
    cases hd : digB (bt s a) with
    | true =>
      have HD : Hid (digB (bt s a) = true) := hd
      go_enter Try.func12, Try.ntmps12
      go_wp2_with fail
      refine (letter_spec _ _ _ hb0 hb1).mono ?_
      rintro e w' ⟨rfl, rfl⟩
      go_wp2_with fail
      refine (digit_spec _ _ hb0 hb1).mono ?_
      rintro e w' ⟨rfl, rfl⟩
      go_wp2_with fail
      refine (num_spec _ _ _ _ ha HD.out hs).mono ?_
      rintro e w' ⟨n, z, rfl, hn, rfl⟩
      rcases hn with ⟨m, rfl, hm⟩ | ⟨rfl, rfl, hm⟩
      · have HM : Hid (NumAt s a scr n m) := hm
        clear hm
        go_wp2
        refine bodyPost_ret (results_cell_row_tmp rfl _ _ w.heap.size 31 _ (0, 0) _ rfl (heap_alloc_new w _) Try.underlying31 rfl (by kernel_rfl)) rfl ?_
        exact ⟨_, _, rfl, .inl ⟨⟨2, { data := #[] }, n, a⟩, m, rfl, rfl, .num HD.out HM.out⟩, (Below.refl _ _).alloc (Nat.le_refl _) _⟩
      · have HM : Hid (∀ n m, ¬ NumAt s a scr n m) := hm
        clear hm
        go_wp2
        refine bodyPost_ret (results_cell_row_tmp rfl _ _ w.heap.size 31 _ (0, 0) _ rfl (heap_alloc_new w _) Try.underlying31 rfl (by kernel_rfl)) rfl ?_
        exact ⟨_, _, rfl, tokOut_no (tok_no_num HD.out HM.out), (Below.refl _ _).alloc (Nat.le_refl _) _⟩
    | false =>
      by_cases h34 : bt s a = 34
      · have H34 : Hid (bt s a = 34) := h34
        have q34 : (bt s a == 34) = true := by simpa using h34
        clear h34
        go_enter Try.func12, Try.ntmps12
        go_wp2_with fail
        refine (letter_spec _ _ _ hb0 hb1).mono ?_
        rintro e w' ⟨rfl, rfl⟩
        go_wp2_with fail
        refine (digit_spec _ _ hb0 hb1).mono ?_
        rintro e w' ⟨rfl, rfl⟩
        go_wp2_with fail
        refine (str_spec _ _ _ ha hs).mono ?_
        rintro e w' ⟨z, rfl, hn, rfl⟩
        rcases hn with ⟨n, rfl, hm⟩ | ⟨rfl, hm⟩
        · obtain ⟨m, rfl⟩ : ∃ m, n = m + 1 := ⟨n - 1, by have := hm.1; omega⟩
          have HM : Hid (StrAt s a (m + 1)) := hm
          have hm1 : a + 1 ≤ m := by have := hm.1; omega
          have hm2 : m + 1 ≤ s.size := hm.2.1
          have ez : ((m + 1 : Nat) : Int) = (m : Int) + 1 := by omega
          obtain ⟨a1, ha1⟩ : ∃ a1, a1 = a + 1 := ⟨_, rfl⟩
          have ea : (a : Int) + 1 = (a1 : Int) := by omega
          have HA1 : Hid (a1 = a + 1) := ha1
          have hx1 : a1 ≤ m := by omega
          have hx2 : m ≤ s.size := by omega
          clear hm ha1 hm1
          go_wp2
          refine bodyPost_ret (results_cell_row_tmp rfl _ _ w.heap.size 31 _ (0, 0) _ rfl (heap_alloc_new w _) Try.underlying31 rfl (by kernel_rfl)) rfl ?_
          exact ⟨_, _, rfl, .inl ⟨⟨3, s.extract (a + 1) (m + 1 - 1), 0, a⟩, m + 1, by rw [HA1.out]; rfl, by omega, .str H34.out HM.out⟩, (Below.refl _ _).alloc (Nat.le_refl _) _⟩
        · have HM : Hid (∀ n, ¬ StrAt s a n) := hm
          clear hm
          go_wp2
          refine bodyPost_ret (results_cell_row_tmp rfl _ _ w.heap.size 31 _ (0, 0) _ rfl (heap_alloc_new w _) Try.underlying31 rfl (by kernel_rfl)) rfl ?_
          exact ⟨_, _, rfl, tokOut_no (tok_no_str H34.out HM.out), (Below.refl _ _).alloc (Nat.le_refl _) _⟩
      · have q34 : (bt s a == 34) = false := by simpa using h34
        by_cases hsg : Sign (bt s a)
        · have HS : Hid (Sign (bt s a)) := hsg
          have hsb : signB (bt s a) = true := decide_eq_true hsg
          obtain ⟨a1, ha1⟩ : ∃ a1, a1 = a + 1 := ⟨_, rfl⟩
          have ea : (a : Int) + 1 = (a1 : Int) := by omega
          have HA1 : Hid (a1 = a + 1) := ha1
          have hx1 : a ≤ a1 := by omega
          have hx2 : a1 ≤ s.size := by omega
          clear hsg h34 ha1
          go_enter Try.func12, Try.ntmps12
          go_wp2_with fail
          refine (letter_spec _ _ _ hb0 hb1).mono ?_
          rintro e w' ⟨rfl, rfl⟩
          go_wp2_with fail
          refine (digit_spec _ _ hb0 hb1).mono ?_
          rintro e w' ⟨rfl, rfl⟩
          go_wp2_with fail
          refine (sign_spec _ _).mono ?_
          rintro e w' ⟨rfl, rfl⟩
          go_wp2
          refine bodyPost_ret (results_cell_row_tmp rfl _ _ w.heap.size 31 _ (0, 0) _ rfl (heap_alloc_new w _) Try.underlying31 rfl (by kernel_rfl)) rfl ?_
          exact ⟨_, _, rfl, .inl ⟨⟨4, s.extract a (a + 1), 0, a⟩, a + 1, by rw [HA1.out]; rfl, by rw [HA1.out], .sign HS.out⟩, (Below.refl _ _).alloc (Nat.le_refl _) _⟩
        · have HN : Hid (∀ t n, ¬ Tok s scr a t n) := tok_no hl hd h34 hsg
          have hsb : signB (bt s a) = false := decide_eq_false hsg
          clear hsg h34
          go_enter Try.func12, Try.ntmps12
          go_wp2_with fail
          refine (letter_spec _ _ _ hb0 hb1).mono ?_
          rintro e w' ⟨rfl, rfl⟩
          go_wp2_with fail
          refine (digit_spec _ _ hb0 hb1).mono ?_
          rintro e w' ⟨rfl, rfl⟩
          go_wp2_with fail
          refine (sign_spec _ _).mono ?_
          rintro e w' ⟨rfl, rfl⟩
          go_wp2
          refine bodyPost_ret (results_cell_row_tmp rfl _ _ w.heap.size 31 _ (0, 0) _ rfl (heap_alloc_new w _) Try.underlying31 rfl (by kernel_rfl)) rfl ?_
          exact ⟨_, _, rfl, tokOut_no HN.out, (Below.refl _ _).alloc (Nat.le_refl _) _⟩
end Go.Proofs.Ytkplighmefigcaa
