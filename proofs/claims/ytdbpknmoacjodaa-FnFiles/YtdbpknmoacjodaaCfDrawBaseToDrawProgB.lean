/-
  What the cursor's functions of the specification tell, and what they leave of it: l1New, l1Byte, l1Below, l1Once: the walks.
  What spec.l1Pick tells: one of the texts, none of them long: the walk.
  Tokens of a text, as plain relations: where a run of bytes ends, which token stands at a place, what is passed over, and that each of these is one alone. No program is spoken of.
  What spec's parts of Lex answer: l3Letter, l3Digit, l3Sign, l3Word, l3Num, l3Str, l3Skip: the walks.
  What impl.Dec and spec.Dec answer, at every number: the walks.
  Programs, as plain functions: what a row of tokens means. No program is spoken of.
  Texts of programs, as plain functions. No program is spoken of.
  An expression that is used once: the texts of all statements' expressions are together no longer than what all expressions cost. No program is spoken of.
  What the specification's draws of programs tell: some text, not a long one: the walks.
  What the specification's draw of an item tells: some text, not a long one: the walk.
-/
import Derived.Test.YtdbpknmoacjodaaProg
import Derived.Deep.QuietTactic
import Derived.BigQuiet
import Derived.Test.YtdbpknmoacjodaaCfDrawMath
namespace Go.Proofs.Ytdbpknmoacjodaa
open Go.RowKit Go.PlainAid

theorem curW_drewN {T : TypeId} {S : Src} {w : World} {g : Nat} {q : Nat × Int} (h : CurW T S w g q) (n : Nat) : CurW T S (w.drewN n) g q := curW_kept h fun _ _ => rfl

set_option maxHeartbeats 1600000 in
theorem l1Byte_any (S : Src) (hS : S.ok) (g : Nat) (q : Nat × Int) (w : World) (hc : CurW 201 S w g q) :
    Calls Try.prog 149 #[.pointer (some ⟨g, 0, none⟩)] w fun e w' => e = .returned (.int .i64 (cb S q).1) ∧ CurW 201 S w' g (cb S q).2 ∧ w.grownBy w' (some g) := by
  obtain ⟨i, h⟩ := q
  obtain ⟨hc0, hc1, hc2, hf1, hf2⟩ := curW_cells hc
  have hlen := hS.1
  have hbh := bh_is
  have hbx := bx_is
  simp only at hc1 hc2
  by_cases hi : i < S.len
  · obtain ⟨b, off, ha, hb, hcell⟩ := hc.2.2.2 i hi
    have hbg : b < g := Nat.lt_of_lt_of_le hb hc.2.1
    have hz := hS.2 i
    rw [ha] at hc0
    have HA := cb_yes (h := h) hi
    have hx := and255 (bits .xor .i64 (bh h / 8589934592) (bh h / 35184372088832))
    rw [bx_is] at hx
    have HC : Hid (CurW 201 S w g (i, h)) := hc
    have HA' : Hid (cb S (i, h) = (bits .and .i64 (bx h + S.Z i) 255, (i + 1, bh h))) := HA
    clear hc HA
    go_enter Try.func149, Try.ntmps149
    go_wp2
    go_quiet (fail)
    go_wp2
    go_quiet (fail)
    go_wp2
    go_quiet (fail)
    go_wp2
    go_ret
    refine ⟨ret_int (by rw [HA'.out]), ?_, grown_setCell (grown_drewN (grown_setCell (World.grownBy.refl _ _) _) _) _⟩
    rw [HA'.out]
    exact curW_i (curW_drewN (curW_h HC.out _) _) (i + 1) (by omega)
  · have HC : Hid (CurW 201 S w g (i, h)) := hc
    have HA' : Hid (cb S (i, h) = (bx h, (i, bh h))) := cb_no hi
    clear hc
    go_enter Try.func149, Try.ntmps149
    go_wp2
    go_quiet (fail)
    go_wp2
    go_quiet (fail)
    go_wp2
    go_ret
    exact ⟨ret_int (by rw [HA'.out]), by rw [HA'.out]; exact curW_drewN (curW_drewN (curW_h HC.out _) _) _, grown_drewN (grown_drewN (grown_setCell (World.grownBy.refl _ _) _) _) _⟩

theorem bw_le {S : Src} {q : Nat × Int} {n : Int} (h : n ≤ 0) : bw S q n = (0, q) := by rw [bw, if_pos h]
theorem bw_mid {S : Src} {q : Nat × Int} {n : Int} (h : ¬ n ≤ 0) (k : n ≤ 256) : bw S q n = ((cb S q).1 % n, (cb S q).2) := by rw [bw, if_neg h, if_pos k]
theorem bw_big {S : Src} {q : Nat × Int} {n : Int} (h : ¬ n ≤ 0) (k : ¬ n ≤ 256) : bw S q n = (((cb S q).1 * 16777216 + (cb S (cb S q).2).1 * 65536 + (cb S (cb S (cb S q).2).2).1 * 256 + (cb S (cb S (cb S (cb S q).2).2).2).1) % n, (cb S (cb S (cb S (cb S q).2).2).2).2) := by rw [bw, if_neg h, if_neg k]

set_option maxHeartbeats 1600000 in
theorem l1Below_any (S : Src) (hS : S.ok) (g : Nat) (q : Nat × Int) (n : Int) (w : World) (hc : CurW 201 S w g q) (_ : n ≤ 9223372036854775807) :
    Calls Try.prog 146 #[.pointer (some ⟨g, 0, none⟩), .int .i64 n] w fun e w' => e = .returned (.int .i64 (bw S q n).1) ∧ CurW 201 S w' g (bw S q n).2 ∧ w.grownBy w' (some g) := by
  by_cases h0 : n ≤ 0
  · rw [bw_le h0]
    go_enter Try.func146, Try.ntmps146
    go_wp2
    go_ret
    exact ⟨rfl, hc, World.grownBy.refl _ _⟩
  · by_cases h1 : n ≤ 256
    · rw [bw_mid h0 h1]
      have hb := cb_bd S q
      go_enter Try.func146, Try.ntmps146
      go_wp2_with fail
      refine (l1Byte_any S hS g q _ hc).mono ?_
      rintro e w1 ⟨rfl, hc1, hg1⟩
      go_wp2
      go_ret
      exact ⟨rfl, hc1, hg1⟩
    · rw [bw_big h0 h1]
      have hb1 := cb_bd S q
      have hb2 := cb_bd S (cb S q).2
      have hb3 := cb_bd S (cb S (cb S q).2).2
      have hb4 := cb_bd S (cb S (cb S (cb S q).2).2).2
      go_enter Try.func146, Try.ntmps146
      go_wp2_with fail
      refine (l1Byte_any S hS g q _ hc).mono ?_
      rintro e w1 ⟨rfl, hc1, hg1⟩
      go_wp2_with fail
      refine (l1Byte_any S hS g _ _ hc1).mono ?_
      rintro e w2 ⟨rfl, hc2, hg2⟩
      go_wp2_with fail
      refine (l1Byte_any S hS g _ _ hc2).mono ?_
      rintro e w3 ⟨rfl, hc3, hg3⟩
      go_wp2_with fail
      refine (l1Byte_any S hS g _ _ hc3).mono ?_
      rintro e w4 ⟨rfl, hc4, hg4⟩
      go_wp2
      go_ret
      exact ⟨rfl, hc4, grown_trans (grown_trans (grown_trans hg1 hg2) hg3) hg4⟩

set_option maxHeartbeats 800000 in
theorem l1Once_any (S : Src) (hS : S.ok) (g : Nat) (q : Nat × Int) (n : Int) (w : World) (hc : CurW 201 S w g q) (hn : n ≤ 9223372036854775807) :
    Calls Try.prog 86 #[.pointer (some ⟨g, 0, none⟩), .int .i64 n] w fun e w' => e = .returned (.bool ((bw S q n).1 == 0)) ∧ CurW 201 S w' g (bw S q n).2 ∧ w.grownBy w' (some g) := by
  go_enter Try.func86, Try.ntmps86
  go_wp2_with fail
  refine (l1Below_any S hS g q n _ hc hn).mono ?_
  rintro e w1 ⟨rfl, hc1, hg1⟩
  go_wp2
  go_ret
  exact ⟨rfl, hc1, hg1⟩

theorem and30 (y : Int) : 0 ≤ bits .and .i64 y 1073741823 ∧ bits .and .i64 y 1073741823 ≤ 1073741823 := by
  have e : bits .and .i64 y 1073741823 = IntKind.i64.wrap (((BitVec.ofInt 64 y &&& BitVec.ofInt 64 1073741823).toNat : Nat) : Int) := rfl
  have h : (BitVec.ofInt 64 y &&& BitVec.ofInt 64 1073741823).toNat ≤ 1073741823 := by
    rw [BitVec.toNat_and]
    exact Nat.and_le_right
  rw [e, IntKind.wrap_i64]
  omega
theorem newH_bd (S : Src) (hS : S.ok) (k : Nat) : 0 ≤ newH S k ∧ newH S k ≤ 1073741823 := by
  cases k with
  | zero => have := hS.1; simp only [newH]; omega
  | succ k => exact and30 _

set_option maxHeartbeats 1600000 in
set_option maxRecDepth 100000 in
theorem l1New_any (S : Src) (hS : S.ok) (w : World) (hc : CodeW S w) (hl : S.lim ≤ w.heap.size) :
    Calls Try.prog 83 #[.slice S.a S.len S.cap] w fun e w' => e = .returned (.pointer (some ⟨w.heap.size, 0, none⟩)) ∧ CurW 201 S w' w.heap.size (start S) ∧ Below w.heap.size w w' := by
  have hlen := hS.1
  by_cases h0 : 0 < S.len
  · obtain ⟨b, off, ha, hb, hcell⟩ := hc 0 h0
    have hcells : ∀ j, j < S.len → w.cell? ⟨b, off + j, none⟩ = some (.int .u8 (S.Z j)) := by
      intro j hj
      obtain ⟨b', off', ha', hb', hcell'⟩ := hc j hj
      rw [ha] at ha'
      simp only [Option.some.injEq, Addr.mk.injEq, and_true] at ha'
      rw [ha'.1, ha'.2]
      exact hcell'
    rw [ha]
    go_enter Try.func83, Try.ntmps83
    go_wp2
    go_loop [3, 4] (fun h i => ∃ k : Nat, k ≤ S.len ∧ k ≤ 4000 ∧ i = .int .i64 k ∧ h = .int .i64 (newH S k)) (fun _ i => (4000 - intOf i).toNat)
    case atStart => exact ⟨0, by omega, by omega, rfl, rfl⟩
    case round =>
      obtain ⟨k, hk, hk4, rfl, rfl⟩ := hrel
      have hn := newH_bd S hS k
      have hz := hS.2 k
      by_cases hlt : k < S.len ∧ k < 4000
      · obtain ⟨hl1, hl2⟩ := hlt
        have hck := hcells k hl1
        clear hcells
        go_wp2
        go_round
        case rel => exact ⟨k + 1, by omega, by omega, by go_num, rfl⟩
        case measure => simp [intOf]; omega
      · have HS : Hid (start S = (0, newH S k)) := by
          show start S = _
          rw [start, show min S.len 4000 = k from by omega]
        clear hcells
        by_cases hks : k < S.len
        all_goals
          go_wp2
          go_ret
          refine ⟨rfl, ?_, (Below.refl _ _).alloc (Nat.le_refl _) _⟩
          rw [HS.out]
          refine ⟨?_, hl, by simp, codeW_below hc ((Below.refl w.heap.size w).alloc (Nat.le_refl _) _) hl⟩
          rw [heap_alloc_new, ha]
          rfl
  · have HS : Hid (start S = (0, newH S 0)) := by
      show start S = _
      rw [start, show min S.len 4000 = 0 from by omega]
    go_enter Try.func83, Try.ntmps83
    go_wp2
    go_loop [3, 4] (fun h i => i = .int .i64 0 ∧ h = .int .i64 (newH S 0)) (fun _ _ => 0)
    case atStart => exact ⟨rfl, rfl⟩
    case round =>
      obtain ⟨rfl, rfl⟩ := hrel
      go_wp2
      go_ret
      refine ⟨rfl, ?_, (Below.refl _ _).alloc (Nat.le_refl _) _⟩
      rw [HS.out]
      refine ⟨?_, hl, by simp, codeW_below hc ((Below.refl w.heap.size w).alloc (Nat.le_refl _) _) hl⟩
      rw [heap_alloc_new]
      rfl
end Go.Proofs.Ytdbpknmoacjodaa
namespace Go.Proofs.Ytdbpknmoacjodaa
open Go.RowKit Go.PlainAid

set_option maxHeartbeats 800000 in
theorem l1Pick_le (S : Src) (hS : S.ok) (g : Nat) (q : Nat × Int) (b m N : Nat) (w : World) (hc : CurW 201 S w g q) (hm : 1 ≤ m) (hm2 : m ≤ 1000)
    (hbw : b < w.heap.size) (hbg : b ≠ g) (hcell : ∀ j, j < m → ∃ x, w.cell? ⟨b, j, none⟩ = some (.string x) ∧ x.size ≤ N) :
    Calls Try.prog 151 #[.pointer (some ⟨g, 0, none⟩), .slice (some ⟨b, 0, none⟩) m m] w fun e w' => ∃ x q', e = .returned (.string x) ∧ x.size ≤ N ∧ CurW 201 S w' g q' ∧ w.grownBy w' (some g) := by
  have hbd := bw_bd S q m (by omega)
  go_enter Try.func151, Try.ntmps151
  go_wp2_with fail
  refine (l1Below_any S hS g q m _ hc (by omega)).mono ?_
  rintro e w1 ⟨rfl, hc1, hg1⟩
  obtain ⟨x, hx, hxs⟩ := hcell (bw S q m).1.toNat (by omega)
  have hcl : w1.cell? ⟨b, (bw S q m).1.toNat, none⟩ = some (.string x) := by
    rw [← hx]
    exact World.cell?_of_block (w := w) (a := ⟨b, _, none⟩) (hg1.block b hbw (by simpa using hbg))
  have HC : Hid (CurW 201 S w1 g (bw S q m).2) := hc1
  clear hcell hc hc1
  go_wp2
  go_ret
  exact ⟨x, _, rfl, hxs, HC.out, hg1⟩
theorem l1Pick_some (S : Src) (hS : S.ok) (g : Nat) (q : Nat × Int) (b m : Nat) (w : World) (hc : CurW 201 S w g q) (hm : 1 ≤ m) (hm2 : m ≤ 1000)
    (hbw : b < w.heap.size) (hbg : b ≠ g) (hcell : ∀ j, j < m → ∃ x, w.cell? ⟨b, j, none⟩ = some (.string x) ∧ x.size ≤ 100) :
    Calls Try.prog 151 #[.pointer (some ⟨g, 0, none⟩), .slice (some ⟨b, 0, none⟩) m m] w fun e w' => ∃ x q', e = .returned (.string x) ∧ x.size ≤ 100 ∧ CurW 201 S w' g q' ∧ w.grownBy w' (some g) := l1Pick_le S hS g q b m 100 w hc hm hm2 hbw hbg hcell
end Go.Proofs.Ytdbpknmoacjodaa
namespace Go.Proofs.Ytdbpknmoacjodaa
open Go.RowKit Go.PlainAid

def letB (c : Int) (scr : Bool) : Bool := decide (97 ≤ c ∧ c ≤ 122) || decide (65 ≤ c ∧ c ≤ 90) || decide (c = 95) || (scr && decide (c = 36))
def digB (c : Int) : Bool := decide (48 ≤ c ∧ c ≤ 57)
def worB (scr : Bool) (c : Int) : Bool := letB c scr || digB c
def notNl (c : Int) : Bool := decide (c ≠ 10)
abbrev Blank (c : Int) : Prop := c = 9 ∨ c = 10 ∨ c = 13 ∨ c = 32
abbrev Sign (c : Int) : Prop := c = 123 ∨ c = 125 ∨ c = 40 ∨ c = 41 ∨ c = 44 ∨ c = 59 ∨ c = 61 ∨ c = 46 ∨ c = 42 ∨ c = 43 ∨ c = 45
abbrev InStr (c : Int) : Prop := 32 ≤ c ∧ c ≤ 126 ∧ c ≠ 34 ∧ c ≠ 92
theorem letB_iff {c : Int} {scr : Bool} : letB c scr = true ↔ (97 ≤ c ∧ c ≤ 122) ∨ (65 ≤ c ∧ c ≤ 90) ∨ c = 95 ∨ (scr = true ∧ c = 36) := by simp [letB, or_assoc]
theorem digB_iff {c : Int} : digB c = true ↔ 48 ≤ c ∧ c ≤ 57 := by simp [digB]

def RunEnd (p : Int → Bool) (s : ByteArray) (a e : Nat) : Prop := a ≤ e ∧ e ≤ s.size ∧ (∀ j, a ≤ j → j < e → p (bt s j) = true) ∧ (e < s.size → p (bt s e) = false)
theorem runEnd_one {p : Int → Bool} {s : ByteArray} {a e1 e2 : Nat} (h1 : RunEnd p s a e1) (h2 : RunEnd p s a e2) : e1 = e2 := by
  obtain ⟨a1, b1, c1, d1⟩ := h1
  obtain ⟨a2, b2, c2, d2⟩ := h2
  rcases Nat.lt_trichotomy e1 e2 with h | h | h
  · have := c2 e1 a1 h
    rw [d1 (by omega)] at this
    cases this
  · exact h
  · have := c1 e2 a2 h
    rw [d2 (by omega)] at this
    cases this
def dval (s : ByteArray) (a : Nat) : Nat → Int
  | 0 => 0
  | k + 1 => dval s a k * 10 + (bt s (a + k) - 48)
def NumAt (s : ByteArray) (a : Nat) (scr : Bool) (n : Int) (e : Nat) : Prop :=
  RunEnd digB s a e ∧ a < e ∧ (e = a + 1 ∨ bt s a ≠ 48) ∧ n = dval s a (e - a) ∧ n ≤ 1000000 ∧ (e < s.size → letB (bt s e) scr = false)
theorem numAt_one {s : ByteArray} {a : Nat} {scr : Bool} {n1 n2 : Int} {e1 e2 : Nat} (h1 : NumAt s a scr n1 e1) (h2 : NumAt s a scr n2 e2) : n1 = n2 ∧ e1 = e2 := by
  have he := runEnd_one h1.1 h2.1
  subst he
  exact ⟨h1.2.2.2.1.trans h2.2.2.2.1.symm, rfl⟩
theorem dval_mono {s : ByteArray} {a : Nat} (k m : Nat) (hd : ∀ j, j < m → 48 ≤ bt s (a + j)) (hk : k ≤ m) : 0 ≤ dval s a k ∧ dval s a k ≤ dval s a m := by
  have h0 : ∀ m, (∀ j, j < m → 48 ≤ bt s (a + j)) → 0 ≤ dval s a m := by
    intro m
    induction m with
    | zero => intro _; exact Int.le_refl _
    | succ m ih =>
      intro h
      have h1 := ih (fun j hj => h j (by omega))
      have h2 := h m (by omega)
      show 0 ≤ dval s a m * 10 + (bt s (a + m) - 48)
      omega
  induction m with
  | zero =>
    obtain rfl : k = 0 := by omega
    exact ⟨Int.le_refl _, Int.le_refl _⟩
  | succ m ih =>
    by_cases e : k = m + 1
    · subst e
      exact ⟨h0 _ hd, Int.le_refl _⟩
    · obtain ⟨h1, h2⟩ := ih (fun j hj => hd j (by omega)) (by omega)
      have h3 := hd m (by omega)
      refine ⟨h1, ?_⟩
      show _ ≤ dval s a m * 10 + (bt s (a + m) - 48)
      omega
def StrAt (s : ByteArray) (a e : Nat) : Prop := a + 2 ≤ e ∧ e ≤ s.size ∧ e ≤ a + 42 ∧ bt s (e - 1) = 34 ∧ ∀ j, a < j → j + 1 < e → InStr (bt s j)
theorem strAt_one {s : ByteArray} {a e1 e2 : Nat} (h1 : StrAt s a e1) (h2 : StrAt s a e2) : e1 = e2 := by
  obtain ⟨a1, b1, c1, d1, f1⟩ := h1
  obtain ⟨a2, b2, c2, d2, f2⟩ := h2
  rcases Nat.lt_trichotomy e1 e2 with h | h | h
  · exact absurd d1 (f2 (e1 - 1) (by omega) (by omega)).2.2.1
  · exact h
  · exact absurd d2 (f1 (e2 - 1) (by omega) (by omega)).2.2.1

structure Tk where
  kind : Int
  text : ByteArray
  num : Int
  pos : Nat
def Tok (s : ByteArray) (scr : Bool) (a : Nat) (t : Tk) (e : Nat) : Prop :=
  (letB (bt s a) scr = true ∧ RunEnd (worB scr) s a e ∧ t = ⟨1, s.extract a e, 0, a⟩) ∨ (∃ n, digB (bt s a) = true ∧ NumAt s a scr n e ∧ t = ⟨2, { data := #[] }, n, a⟩) ∨ (bt s a = 34 ∧ StrAt s a e ∧ t = ⟨3, s.extract (a + 1) (e - 1), 0, a⟩) ∨ (Sign (bt s a) ∧ t = ⟨4, s.extract a (a + 1), 0, a⟩ ∧ e = a + 1)
theorem Tok.name {s : ByteArray} {scr : Bool} {a e : Nat} (h : letB (bt s a) scr = true) (he : RunEnd (worB scr) s a e) : Tok s scr a ⟨1, s.extract a e, 0, a⟩ e := .inl ⟨h, he, rfl⟩
theorem Tok.num {s : ByteArray} {scr : Bool} {a e : Nat} {n : Int} (h : digB (bt s a) = true) (he : NumAt s a scr n e) : Tok s scr a ⟨2, { data := #[] }, n, a⟩ e := .inr (.inl ⟨n, h, he, rfl⟩)
theorem Tok.str {s : ByteArray} {scr : Bool} {a e : Nat} (h : bt s a = 34) (he : StrAt s a e) : Tok s scr a ⟨3, s.extract (a + 1) (e - 1), 0, a⟩ e := .inr (.inr (.inl ⟨h, he, rfl⟩))
theorem Tok.sign {s : ByteArray} {scr : Bool} {a : Nat} (h : Sign (bt s a)) : Tok s scr a ⟨4, s.extract a (a + 1), 0, a⟩ (a + 1) := .inr (.inr (.inr ⟨h, rfl, rfl⟩))
theorem Tok.elim {s : ByteArray} {scr : Bool} {a : Nat} {motive : (t : Tk) → (e : Nat) → Tok s scr a t e → Prop} {t : Tk} {e : Nat} (h : Tok s scr a t e) (name : ∀ {e : Nat} (h : letB (bt s a) scr = true) (he : RunEnd (worB scr) s a e), motive _ e (.name h he)) (num : ∀ {n : Int} {e : Nat} (h : digB (bt s a) = true) (he : NumAt s a scr n e), motive _ e (.num h he)) (str : ∀ {e : Nat} (h : bt s a = 34) (he : StrAt s a e), motive _ e (.str h he)) (sign : ∀ (h : Sign (bt s a)), motive _ _ (.sign h)) : motive t e h := by
  rcases h with ⟨h1, h2, rfl⟩ | ⟨n, h1, h2, rfl⟩ | ⟨h1, h2, rfl⟩ | ⟨h1, rfl, rfl⟩
  · exact name h1 h2
  · exact num h1 h2
  · exact str h1 h2
  · exact sign h1
theorem let_dig {c : Int} {scr : Bool} (h : letB c scr = true) : digB c = false ∧ c ≠ 34 ∧ ¬ Sign c := by
  rw [letB_iff] at h
  refine ⟨decide_eq_false (by omega), by omega, by unfold Sign; omega⟩
theorem dig_str {c : Int} (h : digB c = true) : c ≠ 34 ∧ ¬ Sign c := by
  rw [digB_iff] at h
  exact ⟨by omega, by unfold Sign; omega⟩
theorem tok_one {s : ByteArray} {scr : Bool} {a : Nat} {t1 t2 : Tk} {e1 e2 : Nat} (h1 : Tok s scr a t1 e1) (h2 : Tok s scr a t2 e2) : t1 = t2 ∧ e1 = e2 := by
  cases h1 using Tok.elim with
  | name h he =>
    have hd := let_dig h
    cases h2 using Tok.elim with
    | name h' he' => have := runEnd_one he he'; subst this; exact ⟨rfl, rfl⟩
    | num h' he' => rw [hd.1] at h'; cases h'
    | str h' he' => exact absurd h' hd.2.1
    | sign h' => exact absurd h' hd.2.2
  | num h he =>
    have hd := dig_str h
    cases h2 using Tok.elim with
    | name h' he' => rw [(let_dig h').1] at h; cases h
    | num h' he' => obtain ⟨rfl, rfl⟩ := numAt_one he he'; exact ⟨rfl, rfl⟩
    | str h' he' => exact absurd h' hd.1
    | sign h' => exact absurd h' hd.2
  | str h he =>
    cases h2 using Tok.elim with
    | name h' he' => exact absurd h (let_dig h').2.1
    | num h' he' => exact absurd h (dig_str h').1
    | str h' he' => have := strAt_one he he'; subst this; exact ⟨rfl, rfl⟩
    | sign h' => rw [h] at h'; unfold Sign at h'; omega
  | sign h =>
    cases h2 using Tok.elim with
    | name h' he' => exact absurd h (let_dig h').2.2
    | num h' he' => exact absurd h (dig_str h').2
    | str h' he' => rw [h'] at h; unfold Sign at h; omega
    | sign h' => exact ⟨rfl, rfl⟩
theorem tok_end {s : ByteArray} {scr : Bool} {a : Nat} {t : Tk} {e : Nat} (ha : a < s.size) (h : Tok s scr a t e) : a < e ∧ e ≤ s.size ∧ t.pos = a := by
  cases h using Tok.elim with
  | name h he =>
    refine ⟨?_, he.2.1, rfl⟩
    rcases Nat.lt_or_ge a e with k | k
    · exact k
    · have e1 : e = a := by have := he.1; omega
      subst e1
      have := he.2.2.2 ha
      simp [worB, h] at this
  | num h he => exact ⟨he.2.1, he.1.2.1, rfl⟩
  | str h he => exact ⟨by have := he.1; omega, he.2.1, rfl⟩
  | sign h => exact ⟨by omega, by omega, rfl⟩

abbrev Slashes (s : ByteArray) (a : Nat) : Prop := bt s a = 47 ∧ a + 1 < s.size ∧ bt s (a + 1) = 47
def SkipK (s : ByteArray) (P : Nat → Nat → Prop) : Prop := P s.size s.size ∧ (∀ a, a < s.size → ¬ Blank (bt s a) → ¬ Slashes s a → P a a) ∧ (∀ a b, a < s.size → Blank (bt s a) → P (a + 1) b → P a b) ∧ ∀ a c b, a < s.size → Slashes s a → RunEnd notNl s a c → P c b → P a b
def Skip (s : ByteArray) (a b : Nat) : Prop := ∀ P, SkipK s P → P a b
theorem Skip.done {s : ByteArray} : Skip s s.size s.size := fun _ k => k.1
theorem Skip.stop {s : ByteArray} {a : Nat} (h : a < s.size) (h1 : ¬ Blank (bt s a)) (h2 : ¬ Slashes s a) : Skip s a a := fun _ k => k.2.1 a h h1 h2
theorem Skip.blank {s : ByteArray} {a b : Nat} (h : a < s.size) (h1 : Blank (bt s a)) (r : Skip s (a + 1) b) : Skip s a b := fun P k => k.2.2.1 a b h h1 (r P k)
theorem Skip.comment {s : ByteArray} {a c b : Nat} (h : a < s.size) (h1 : Slashes s a) (hc : RunEnd notNl s a c) (r : Skip s c b) : Skip s a b := fun P k => k.2.2.2 a c b h h1 hc (r P k)
theorem Skip.ind {s : ByteArray} {motive : (a b : Nat) → Skip s a b → Prop} {a b : Nat} (h : Skip s a b) (done : motive _ _ .done) (stop : ∀ {a : Nat} (h : a < s.size) (h1 : ¬ Blank (bt s a)) (h2 : ¬ Slashes s a), motive a a (.stop h h1 h2)) (blank : ∀ {a b : Nat} (h : a < s.size) (h1 : Blank (bt s a)) (r : Skip s (a + 1) b), motive _ _ r → motive a b (.blank h h1 r)) (comment : ∀ {a c b : Nat} (h : a < s.size) (h1 : Slashes s a) (hc : RunEnd notNl s a c) (r : Skip s c b), motive _ _ r → motive a b (.comment h h1 hc r)) : motive a b h :=
  (h (fun a b => ∃ k, motive a b k) ⟨⟨_, done⟩, fun _ h h1 h2 => ⟨_, stop h h1 h2⟩, fun _ _ h h1 ⟨r, k⟩ => ⟨_, blank h h1 r k⟩, fun _ _ _ h h1 hc ⟨r, k⟩ => ⟨_, comment h h1 hc r k⟩⟩).2
theorem Skip.elim {s : ByteArray} {motive : (a b : Nat) → Skip s a b → Prop} {a b : Nat} (h : Skip s a b) (done : motive _ _ .done) (stop : ∀ {a : Nat} (h : a < s.size) (h1 : ¬ Blank (bt s a)) (h2 : ¬ Slashes s a), motive a a (.stop h h1 h2)) (blank : ∀ {a b : Nat} (h : a < s.size) (h1 : Blank (bt s a)) (r : Skip s (a + 1) b), motive a b (.blank h h1 r)) (comment : ∀ {a c b : Nat} (h : a < s.size) (h1 : Slashes s a) (hc : RunEnd notNl s a c) (r : Skip s c b), motive a b (.comment h h1 hc r)) : motive a b h :=
  h.ind done stop (fun h h1 r _ => blank h h1 r) (fun h h1 hc r _ => comment h h1 hc r)
theorem slash_blank {s : ByteArray} {a : Nat} (h : Slashes s a) : ¬ Blank (bt s a) := by rw [h.1]; unfold Blank; omega
theorem skip_one {s : ByteArray} {a b1 b2 : Nat} (h1 : Skip s a b1) : Skip s a b2 → b1 = b2 := by
  induction h1 using Skip.ind with
  | done =>
    intro h2
    generalize hx : s.size = x at h2
    cases h2 using Skip.elim with
    | done => rfl
    | stop h _ _ => omega
    | blank h _ _ => omega
    | comment h _ _ _ => omega
  | stop h k1 k2 =>
    intro h2
    cases h2 using Skip.elim with
    | done => rfl
    | stop _ _ _ => rfl
    | blank _ k _ => exact absurd k k1
    | comment _ k _ _ => exact absurd k k2
  | blank h k _ ih =>
    intro h2
    cases h2 using Skip.elim with
    | done => exact absurd h (Nat.lt_irrefl _)
    | stop _ k1 _ => exact absurd k k1
    | blank _ _ r => exact ih r
    | comment _ k1 _ _ => exact absurd k (slash_blank k1)
  | comment h k hc _ ih =>
    intro h2
    cases h2 using Skip.elim with
    | done => exact absurd h (Nat.lt_irrefl _)
    | stop _ _ k2 => exact absurd k k2
    | blank _ k1 _ => exact absurd k1 (slash_blank k)
    | comment _ _ hc' r => have := runEnd_one hc hc'; subst this; exact ih r
theorem skip_bd {s : ByteArray} {a b : Nat} (h : Skip s a b) : a ≤ b ∧ b ≤ s.size := by
  induction h using Skip.ind with
  | done => exact ⟨Nat.le_refl _, Nat.le_refl _⟩
  | stop h _ _ => exact ⟨Nat.le_refl _, by omega⟩
  | blank h _ _ ih => exact ⟨by omega, ih.2⟩
  | comment h _ hc _ ih => exact ⟨by have := hc.1; omega, ih.2⟩

def LxK (s : ByteArray) (scr : Bool) (P : Nat → Nat → Except Nat (List Tk) → Prop) : Prop := (∀ n, P s.size n (.ok [])) ∧ (∀ a n, a < s.size → (4000 ≤ n ∨ ∀ t e, ¬ Tok s scr a t e) → P a n (.error a)) ∧ ∀ a n e b t r, a < s.size → n < 4000 → Tok s scr a t e → Skip s e b → P b (n + 1) r → P a n (r.map (t :: ·))
def Lx (s : ByteArray) (scr : Bool) (a n : Nat) (r : Except Nat (List Tk)) : Prop := ∀ P, LxK s scr P → P a n r
theorem Lx.done {s : ByteArray} {scr : Bool} {n : Nat} : Lx s scr s.size n (.ok []) := fun _ k => k.1 n
theorem Lx.bad {s : ByteArray} {scr : Bool} {a n : Nat} (h : a < s.size) (h1 : 4000 ≤ n ∨ ∀ t e, ¬ Tok s scr a t e) : Lx s scr a n (.error a) := fun _ k => k.2.1 a n h h1
theorem Lx.tok {s : ByteArray} {scr : Bool} {a n e b : Nat} {t : Tk} {r : Except Nat (List Tk)} (h : a < s.size) (hn : n < 4000) (ht : Tok s scr a t e) (hs : Skip s e b) (hr : Lx s scr b (n + 1) r) : Lx s scr a n (r.map (t :: ·)) := fun P k => k.2.2 a n e b t r h hn ht hs (hr P k)
theorem Lx.ind {s : ByteArray} {scr : Bool} {motive : (a n : Nat) → (r : Except Nat (List Tk)) → Lx s scr a n r → Prop} {a n : Nat} {r : Except Nat (List Tk)} (h : Lx s scr a n r) (done : ∀ {n : Nat}, motive _ n _ .done) (bad : ∀ {a n : Nat} (h : a < s.size) (h1 : 4000 ≤ n ∨ ∀ t e, ¬ Tok s scr a t e), motive a n _ (.bad h h1)) (tok : ∀ {a n e b : Nat} {t : Tk} {r : Except Nat (List Tk)} (h : a < s.size) (hn : n < 4000) (ht : Tok s scr a t e) (hs : Skip s e b) (hr : Lx s scr b (n + 1) r), motive _ _ _ hr → motive a n _ (.tok h hn ht hs hr)) : motive a n r h :=
  (h (fun a n r => ∃ k, motive a n r k) ⟨fun _ => ⟨_, done⟩, fun _ _ h h1 => ⟨_, bad h h1⟩, fun _ _ _ _ _ _ h hn ht hs ⟨hr, k⟩ => ⟨_, tok h hn ht hs hr k⟩⟩).2
theorem Lx.elim {s : ByteArray} {scr : Bool} {motive : (a n : Nat) → (r : Except Nat (List Tk)) → Lx s scr a n r → Prop} {a n : Nat} {r : Except Nat (List Tk)} (h : Lx s scr a n r) (done : ∀ {n : Nat}, motive _ n _ .done) (bad : ∀ {a n : Nat} (h : a < s.size) (h1 : 4000 ≤ n ∨ ∀ t e, ¬ Tok s scr a t e), motive a n _ (.bad h h1)) (tok : ∀ {a n e b : Nat} {t : Tk} {r : Except Nat (List Tk)} (h : a < s.size) (hn : n < 4000) (ht : Tok s scr a t e) (hs : Skip s e b) (hr : Lx s scr b (n + 1) r), motive a n _ (.tok h hn ht hs hr)) : motive a n r h :=
  h.ind done bad (fun h hn ht hs hr _ => tok h hn ht hs hr)
theorem lx_one {s : ByteArray} {scr : Bool} {a n : Nat} {r1 r2 : Except Nat (List Tk)} (h1 : Lx s scr a n r1) : Lx s scr a n r2 → r1 = r2 := by
  induction h1 using Lx.ind generalizing r2 with
  | done =>
    intro h2
    generalize hx : s.size = x at h2
    cases h2 using Lx.elim with
    | done => rfl
    | bad h _ => omega
    | tok h _ _ _ _ => omega
  | bad h k =>
    intro h2
    cases h2 using Lx.elim with
    | done => exact absurd h (Nat.lt_irrefl _)
    | bad _ _ => rfl
    | tok _ hn ht _ _ => exact k.elim (fun k => by omega) fun k => absurd ht (k _ _)
  | tok h hn ht hs _ ih =>
    intro h2
    cases h2 using Lx.elim with
    | done => exact absurd h (Nat.lt_irrefl _)
    | bad _ k => exact k.elim (fun k => by omega) fun k => absurd ht (k _ _)
    | tok _ _ ht' hs' r =>
      obtain ⟨rfl, rfl⟩ := tok_one ht ht'
      have := skip_one hs hs'
      subst this
      rw [ih r]
def LexR (s : ByteArray) (scr : Bool) (r : Except Nat (List Tk)) : Prop := ∃ a, Skip s 0 a ∧ Lx s scr a 0 r
theorem lexR_one {s : ByteArray} {scr : Bool} {r1 r2 : Except Nat (List Tk)} (h1 : LexR s scr r1) (h2 : LexR s scr r2) : r1 = r2 := by
  obtain ⟨a, s1, l1⟩ := h1
  obtain ⟨b, s2, l2⟩ := h2
  have := skip_one s1 s2
  subst this
  exact lx_one l1 l2
end Go.Proofs.Ytdbpknmoacjodaa
namespace Go.Proofs.Ytdbpknmoacjodaa
open Go.RowKit Go.PlainAid

theorem letB_no {c : Int} {scr : Bool} (h : ¬ ((97 ≤ c ∧ c ≤ 122) ∨ (65 ≤ c ∧ c ≤ 90) ∨ c = 95 ∨ (scr = true ∧ c = 36))) : letB c scr = false := by
  rw [Bool.eq_false_iff]
  exact fun k => h (letB_iff.1 k)
theorem digB_no {c : Int} (h : ¬ (48 ≤ c ∧ c ≤ 57)) : digB c = false := decide_eq_false h

set_option maxHeartbeats 1600000 in
theorem letter_spec (c : Int) (scr : Bool) (w : World) (h0 : 0 ≤ c) (h1 : c ≤ 255) :
    Calls Try.prog 190 #[.int .u8 c, .bool scr] w fun e w' => e = .returned (.bool (letB c scr)) ∧ w' = w := by
  by_cases a1 : 97 ≤ c
  · by_cases a2 : c ≤ 122
    · skip
      have d1 : decide (97 ≤ c) = true := decide_eq_true (by omega)
      have d2 : decide (c ≤ 122) = true := decide_eq_true (by omega)
      have HV : Hid (letB c scr = true) := letB_iff.2 (by first | omega | (simp; omega))
      go_enter Try.func190, Try.ntmps190
      go_wp2
      go_ret
      exact ⟨ret_bool HV.out.symm, rfl⟩
    · skip
      cases scr with
      | true =>
        have d1 : decide (97 ≤ c) = true := decide_eq_true (by omega)
        have d2 : decide (c ≤ 122) = false := decide_eq_false (by omega)
        have d3 : decide (65 ≤ c) = true := decide_eq_true (by omega)
        have d4 : decide (c ≤ 90) = false := decide_eq_false (by omega)
        have e1 : (c == 95) = false := beq_eq_false_iff_ne.2 (by omega)
        have e2 : (c == 36) = false := beq_eq_false_iff_ne.2 (by omega)
        have HV : Hid (letB c true = false) := letB_no (by first | omega | (simp; omega))
        go_enter Try.func190, Try.ntmps190
        go_wp2
        go_ret
        exact ⟨ret_bool HV.out.symm, rfl⟩
      | false =>
        have d1 : decide (97 ≤ c) = true := decide_eq_true (by omega)
        have d2 : decide (c ≤ 122) = false := decide_eq_false (by omega)
        have d3 : decide (65 ≤ c) = true := decide_eq_true (by omega)
        have d4 : decide (c ≤ 90) = false := decide_eq_false (by omega)
        have e1 : (c == 95) = false := beq_eq_false_iff_ne.2 (by omega)
        have e2 : (c == 36) = false := beq_eq_false_iff_ne.2 (by omega)
        have HV : Hid (letB c false = false) := letB_no (by first | omega | (simp; omega))
        go_enter Try.func190, Try.ntmps190
        go_wp2
        go_ret
        exact ⟨ret_bool HV.out.symm, rfl⟩
  · by_cases a3 : 65 ≤ c
    · by_cases a4 : c ≤ 90
      · skip
        have d1 : decide (97 ≤ c) = false := decide_eq_false (by omega)
        have d3 : decide (65 ≤ c) = true := decide_eq_true (by omega)
        have d4 : decide (c ≤ 90) = true := decide_eq_true (by omega)
        have HV : Hid (letB c scr = true) := letB_iff.2 (by first | omega | (simp; omega))
        go_enter Try.func190, Try.ntmps190
        go_wp2
        go_ret
        exact ⟨ret_bool HV.out.symm, rfl⟩
      · by_cases a5 : c = 95
        · skip
          have d1 : decide (97 ≤ c) = false := decide_eq_false (by omega)
          have d3 : decide (65 ≤ c) = true := decide_eq_true (by omega)
          have d4 : decide (c ≤ 90) = false := decide_eq_false (by omega)
          have e1 : (c == 95) = true := beq_iff_eq.2 (by omega)
          have HV : Hid (letB c scr = true) := letB_iff.2 (by first | omega | (simp; omega))
          clear a5
          go_enter Try.func190, Try.ntmps190
          go_wp2
          go_ret
          exact ⟨ret_bool HV.out.symm, rfl⟩
        · skip
          cases scr with
          | true =>
            have d1 : decide (97 ≤ c) = false := decide_eq_false (by omega)
            have d3 : decide (65 ≤ c) = true := decide_eq_true (by omega)
            have d4 : decide (c ≤ 90) = false := decide_eq_false (by omega)
            have e1 : (c == 95) = false := beq_eq_false_iff_ne.2 (by omega)
            have e2 : (c == 36) = false := beq_eq_false_iff_ne.2 (by omega)
            have HV : Hid (letB c true = false) := letB_no (by first | omega | (simp; omega))
            go_enter Try.func190, Try.ntmps190
            go_wp2
            go_ret
            exact ⟨ret_bool HV.out.symm, rfl⟩
          | false =>
            have d1 : decide (97 ≤ c) = false := decide_eq_false (by omega)
            have d3 : decide (65 ≤ c) = true := decide_eq_true (by omega)
            have d4 : decide (c ≤ 90) = false := decide_eq_false (by omega)
            have e1 : (c == 95) = false := beq_eq_false_iff_ne.2 (by omega)
            have e2 : (c == 36) = false := beq_eq_false_iff_ne.2 (by omega)
            have HV : Hid (letB c false = false) := letB_no (by first | omega | (simp; omega))
            go_enter Try.func190, Try.ntmps190
            go_wp2
            go_ret
            exact ⟨ret_bool HV.out.symm, rfl⟩
    · by_cases a6 : c = 36
      · skip
        cases scr with
        | true =>
          have d1 : decide (97 ≤ c) = false := decide_eq_false (by omega)
          have d3 : decide (65 ≤ c) = false := decide_eq_false (by omega)
          have e1 : (c == 95) = false := beq_eq_false_iff_ne.2 (by omega)
          have e2 : (c == 36) = true := beq_iff_eq.2 (by omega)
          have HV : Hid (letB c true = true) := letB_iff.2 (by first | omega | (simp; omega))
          clear a6
          go_enter Try.func190, Try.ntmps190
          go_wp2
          go_ret
          exact ⟨ret_bool HV.out.symm, rfl⟩
        | false =>
          have d1 : decide (97 ≤ c) = false := decide_eq_false (by omega)
          have d3 : decide (65 ≤ c) = false := decide_eq_false (by omega)
          have e1 : (c == 95) = false := beq_eq_false_iff_ne.2 (by omega)
          have e2 : (c == 36) = true := beq_iff_eq.2 (by omega)
          have HV : Hid (letB c false = false) := letB_no (by first | omega | (simp; omega))
          clear a6
          go_enter Try.func190, Try.ntmps190
          go_wp2
          go_ret
          exact ⟨ret_bool HV.out.symm, rfl⟩
      · skip
        cases scr with
        | true =>
          have d1 : decide (97 ≤ c) = false := decide_eq_false (by omega)
          have d3 : decide (65 ≤ c) = false := decide_eq_false (by omega)
          have e1 : (c == 95) = false := beq_eq_false_iff_ne.2 (by omega)
          have e2 : (c == 36) = false := beq_eq_false_iff_ne.2 (by omega)
          have HV : Hid (letB c true = false) := letB_no (by first | omega | (simp; omega))
          go_enter Try.func190, Try.ntmps190
          go_wp2
          go_ret
          exact ⟨ret_bool HV.out.symm, rfl⟩
        | false =>
          have d1 : decide (97 ≤ c) = false := decide_eq_false (by omega)
          have d3 : decide (65 ≤ c) = false := decide_eq_false (by omega)
          have e1 : (c == 95) = false := beq_eq_false_iff_ne.2 (by omega)
          have e2 : (c == 36) = false := beq_eq_false_iff_ne.2 (by omega)
          have HV : Hid (letB c false = false) := letB_no (by first | omega | (simp; omega))
          go_enter Try.func190, Try.ntmps190
          go_wp2
          go_ret
          exact ⟨ret_bool HV.out.symm, rfl⟩

theorem digit_spec (c : Int) (w : World) (h0 : 0 ≤ c) (h1 : c ≤ 255) :
    Calls Try.prog 192 #[.int .u8 c] w fun e w' => e = .returned (.bool (digB c)) ∧ w' = w := by
  by_cases a1 : 48 ≤ c
  · have d1 : decide (48 ≤ c) = true := decide_eq_true a1
    by_cases a2 : c ≤ 57
    · have d2 : decide (c ≤ 57) = true := decide_eq_true a2
      have HV : Hid (digB c = true) := digB_iff.2 ⟨a1, a2⟩
      go_enter Try.func192, Try.ntmps192
      go_wp2
      go_ret
      exact ⟨ret_bool HV.out.symm, rfl⟩
    · have d2 : decide (c ≤ 57) = false := decide_eq_false a2
      have HV : Hid (digB c = false) := digB_no (by omega)
      go_enter Try.func192, Try.ntmps192
      go_wp2
      go_ret
      exact ⟨ret_bool HV.out.symm, rfl⟩
  · have d1 : decide (48 ≤ c) = false := decide_eq_false a1
    have HV : Hid (digB c = false) := digB_no (by omega)
    go_enter Try.func192, Try.ntmps192
    go_wp2
    go_ret
    exact ⟨ret_bool HV.out.symm, rfl⟩

def signS : ByteArray := { data := #[123, 125, 40, 41, 44, 59, 61, 46, 42, 43, 45] }
theorem signS_at (k : Nat) (h : k < 11) : Sign (bt signS k) := by
  have : ∀ k : Fin 11, Sign (bt signS k.val) := by decide
  exact this ⟨k, h⟩
theorem signS_all (c : Int) (h : Sign c) : ∃ k, k < 11 ∧ bt signS k = c := by
  rcases h with rfl | rfl | rfl | rfl | rfl | rfl | rfl | rfl | rfl | rfl | rfl
  · exact ⟨0, by decide⟩
  · exact ⟨1, by decide⟩
  · exact ⟨2, by decide⟩
  · exact ⟨3, by decide⟩
  · exact ⟨4, by decide⟩
  · exact ⟨5, by decide⟩
  · exact ⟨6, by decide⟩
  · exact ⟨7, by decide⟩
  · exact ⟨8, by decide⟩
  · exact ⟨9, by decide⟩
  · exact ⟨10, by decide⟩
def signB (c : Int) : Bool := decide (Sign c)
set_option maxHeartbeats 800000 in
theorem sign_spec (c : Int) (w : World) :
    Calls Try.prog 195 #[.int .u8 c] w fun e w' => e = .returned (.bool (signB c)) ∧ w' = w := by
  have hb := get_bt signS
  have hsz : signS.size = 11 := rfl
  obtain ⟨S, hS⟩ : ∃ S, signS = S := ⟨_, rfl⟩
  have HS : Hid (signS = S) := hS
  rw [hS] at hb hsz
  go_enter Try.func195, Try.ntmps195
  go_wp2
  rw [show ({ data := #[123, 125, 40, 41, 44, 59, 61, 46, 42, 43, 45] } : ByteArray) = S from hS]
  clear hS
  go_loop [4] (fun i => ∃ k : Nat, k ≤ 11 ∧ i = .int .i64 k ∧ ∀ j, j < k → bt S j ≠ c) (fun i => (11 - intOf i).toNat)
  case atStart => exact ⟨0, by omega, rfl, fun j hj => absurd hj (Nat.not_lt_zero j)⟩
  case round =>
    obtain ⟨k, hk, rfl, hno⟩ := hrel
    have HNO : Hid (∀ j, j < k → bt S j ≠ c) := hno
    clear hno
    by_cases hlt : k < 11
    · by_cases hc : bt S k = c
      · have hq : (bt S k == c) = true := by simpa using hc
        have HV : Hid (signB c = true) := decide_eq_true (by rw [← hc, ← HS.out]; exact signS_at k hlt)
        clear hc
        go_wp2
        go_ret
        exact ⟨ret_bool HV.out.symm, rfl⟩
      · have hq : (bt S k == c) = false := by simpa using hc
        have HX : Hid (∀ j, j < k + 1 → bt S j ≠ c) := fun j hj => by
          by_cases e : j = k
          · rw [e]; exact hc
          · exact HNO.out j (by omega)
        clear hc
        go_wp2
        go_round
        case rel => exact ⟨k + 1, by omega, by go_num, HX.out⟩
        case measure => simp [intOf]; omega
    · have HV : Hid (signB c = false) := decide_eq_false (fun h => by
        obtain ⟨j, hj, e⟩ := signS_all c h
        rw [HS.out] at e
        exact HNO.out j (by omega) e)
      go_wp2
      go_ret
      exact ⟨ret_bool HV.out.symm, rfl⟩
end Go.Proofs.Ytdbpknmoacjodaa
namespace Go.Proofs.Ytdbpknmoacjodaa
open Go.RowKit Go.PlainAid

theorem Try.infoByte : (Try.prog.info? 5).map (fun i => (i.zero, i.size, i.bytes)) = some (some (.int .u8 0), 1, 1) := by kernel_rfl

theorem u64_back (m : Int) (h0 : 0 < m) (h1 : m ≤ 9223372036854775808) : IntKind.u64.wrap (-IntKind.u64.wrap (-m)) = m := by
  rw [IntKind.wrap_u64, IntKind.wrap_u64]; omega

theorem neg_tmod (q : Int) (h : 0 ≤ q) : (-q).tmod 10 = -(q % 10) := by rw [Int.neg_tmod, Int.tmod_eq_emod_of_nonneg h]
theorem neg_tdiv (q : Int) (h : 0 ≤ q) : (-q).tdiv 10 = -(q / 10) := by rw [Int.neg_tdiv, Int.tdiv_eq_ediv_of_nonneg h]

set_option maxRecDepth 100000 in
set_option maxHeartbeats 800000 in
theorem dec_spec_pos (n : Int) (w : World) (h0 : 0 < n) (h1 : n ≤ 9223372036854775807) :
    Calls Try.prog 148 #[.int .i64 n] w fun e w' => e = .returned (.string (strOfNums (dgk n (dcn n)))) ∧ Below w.heap.size w w' := by
  have hd := dcn_facts n (by omega) (by omega)
  have hd1 : dcn n ≤ 20 := hd.2.1
  have hd0 : 1 ≤ dcn n := hd.1
  have hne : (n == 0) = false := by simp; omega
  have hlt0 : ¬ n < 0 := by omega
  clear hd
  go_enter Try.func148, Try.ntmps148
  go_wp2
  go_loopw [0, 3, 5] (fun a o _ wr => ∃ k : Nat, k ≤ dcn n ∧ a = .int .i64 (n / 10 ^ k) ∧ o = .string (strOfNums (dgk n k)) ∧ Below w.heap.size w wr) (fun a _ _ _ => (intOf a).toNat)
  case atStart => exact ⟨0, by omega, by simp, rfl, Below.refl _ _⟩
  case round =>
    obtain ⟨k, hk, rfl, rfl, hbel⟩ := hrel
    have hb := tenth_bd n k (by omega)
    have hi := some_iff n (by omega) (by omega) k
    have hsz : (strOfNums (dgk n k)).size ≤ 20 := by rw [strOfNums_size, dgk_length]; omega
    by_cases hz : n / 10 ^ k = 0
    · have hk2 : ¬ (k < dcn n) := fun h => hi.2 h hz
      have hz' : (n / 10 ^ k != 0) = false := by simpa using hz
      clear hi hz
      go_wp2
      go_ret
      exact ⟨ret_str (by rw [show dcn n = k from by omega]), hbel⟩
    · have hk2 := hi.1 hz
      have hz' : (n / 10 ^ k != 0) = true := by simpa using hz
      have hz2 : 0 < n / 10 ^ k := by omega
      clear hi hz
      have hst := fun (w : World) (x : Int) => run_string_one (P := Try.prog) (src := 59) (dst := 9) Try.underlying59 Try.underlying5 Try.underlying9 w x
      have hone := fun x => strOfNums_size [x]
      go_wp2
      go_roundw
      case rel => exact ⟨k + 1, by omega, by rw [tenth], by rw [strOfNums_cons]; rfl, hbel.alloc hbel.size _⟩
      case measure => simp [intOf]; omega

set_option maxRecDepth 100000 in
set_option maxHeartbeats 800000 in
theorem dec_spec_neg (m : Int) (w : World) (h0 : 0 < m) (h1 : m ≤ 9223372036854775808) :
    Calls Try.prog 148 #[.int .i64 (-m)] w fun e w' => e = .returned (.string (strOfNums (45 :: dgk m (dcn m)))) ∧ Below w.heap.size w w' := by
  have hd := dcn_facts m (by omega) (by omega)
  have hd1 : dcn m ≤ 20 := hd.2.1
  have hd0 : 1 ≤ dcn m := hd.1
  have hne : (-m == 0) = false := by simp; omega
  clear hd
  go_enter Try.func148, Try.ntmps148
  go_wp2
  go_loopw [0, 3, 5] (fun a o _ wr => ∃ k : Nat, k ≤ dcn m ∧ a = .int .i64 (-(m / 10 ^ k)) ∧ o = .string (strOfNums (dgk m k)) ∧ Below w.heap.size w wr) (fun a _ _ _ => (-(intOf a)).toNat)
  case atStart => exact ⟨0, by omega, by simp, rfl, Below.refl _ _⟩
  case round =>
    obtain ⟨k, hk, rfl, rfl, hbel⟩ := hrel
    have hb := tenth_bd m k (by omega)
    have hi := some_iff m (by omega) (by omega) k
    have hsz : (strOfNums (dgk m k)).size ≤ 20 := by rw [strOfNums_size, dgk_length]; omega
    by_cases hz : m / 10 ^ k = 0
    · have hk2 : ¬ (k < dcn m) := fun h => hi.2 h hz
      have hz' : (-(m / 10 ^ k) != 0) = false := by simpa using hz
      have hmin : (strOfNums [45]).size = 1 := strOfNums_size [45]
      clear hi hz
      go_wp2
      go_ret
      exact ⟨ret_str (by rw [show dcn m = k from by omega]; exact strOfNums_cons 45 _), hbel⟩
    · have hk2 := hi.1 hz
      have hz' : (-(m / 10 ^ k) != 0) = true := by simpa using hz
      have hz2 : 0 < m / 10 ^ k := by omega
      clear hi hz
      have e1 := neg_tmod (m / 10 ^ k) hb.1
      have e2 := neg_tdiv (m / 10 ^ k) hb.1
      have hst := fun (w : World) (x : Int) => run_string_one (P := Try.prog) (src := 59) (dst := 9) Try.underlying59 Try.underlying5 Try.underlying9 w x
      have hone := fun x => strOfNums_size [x]
      by_cases hd : 0 < m / 10 ^ k % 10
      · go_wp2
        go_roundw
        case rel => exact ⟨k + 1, by omega, by rw [tenth], by rw [strOfNums_cons]; rfl, hbel.alloc hbel.size _⟩
        case measure => simp [intOf]; omega
      · go_wp2
        go_roundw
        case rel => exact ⟨k + 1, by omega, by rw [tenth], by rw [strOfNums_cons, show 48 + -(m / 10 ^ k % 10) = 48 + m / 10 ^ k % 10 from by omega]; rfl, hbel.alloc hbel.size _⟩
        case measure => simp [intOf]; omega

theorem dec_spec (n : Int) (w : World) (hb : -9223372036854775808 ≤ n ∧ n ≤ 9223372036854775807) :
    Calls Try.prog 148 #[.int .i64 n] w fun e w' => e = .returned (.string (strOfNums (decL n))) ∧ Below w.heap.size w w' := by
  by_cases h : 0 < n
  · rw [decL_pos (by omega)]
    exact dec_spec_pos n w h hb.2
  · by_cases hz : n = 0
    · subst hz
      have HV : Hid (decL 0 = [48]) := by show decL 0 = [48]; decide
      go_enter Try.func148, Try.ntmps148
      go_wp2
      go_ret
      exact ⟨ret_str (by rw [HV.out]; rfl), Below.refl _ _⟩
    · obtain ⟨m, rfl⟩ : ∃ m, n = -m := ⟨-n, by omega⟩
      rw [decL_neg (by omega), Int.neg_neg]
      exact dec_spec_neg m w (by omega) (by omega)
end Go.Proofs.Ytdbpknmoacjodaa
namespace Go.Proofs.Ytdbpknmoacjodaa
open Go.RowKit Go.PlainAid

structure Ex where
  kind : Int
  num : Int
  name : ByteArray
  field : ByteArray
  l : Int
  r : Int
structure Sm where
  kind : Int
  name : ByteArray
  expr : Int
structure Im where
  spec : ByteArray
  first : ByteArray
  loc : ByteArray
structure Ep where
  kind : Int
  name : ByteArray
  loc : ByteArray
  spec : ByteArray
structure Cx where
  ts : List Tk
  fin : Nat
  scr : Bool
structure PS where
  pos : Nat
  rq : List ByteArray
  im : List Im
  ep : List Ep
  st : List Sm
  ex : List Ex
  la : List Ep
abbrev PR := Except Nat PS

abbrev sImport : ByteArray := { data := #[105, 109, 112, 111, 114, 116] }
abbrev sExport : ByteArray := { data := #[101, 120, 112, 111, 114, 116] }
abbrev sDefault : ByteArray := { data := #[100, 101, 102, 97, 117, 108, 116] }
abbrev sLet : ByteArray := { data := #[108, 101, 116] }
abbrev sFunction : ByteArray := { data := #[102, 117, 110, 99, 116, 105, 111, 110] }
abbrev sReturn : ByteArray := { data := #[114, 101, 116, 117, 114, 110] }
abbrev sPrint : ByteArray := { data := #[112, 114, 105, 110, 116] }
abbrev sThrow : ByteArray := { data := #[116, 104, 114, 111, 119] }
abbrev sFail : ByteArray := { data := #[102, 97, 105, 108] }
abbrev sUndef : ByteArray := { data := #[117, 110, 100, 101, 102] }
abbrev sAs : ByteArray := { data := #[97, 115] }
abbrev sFrom : ByteArray := { data := #[102, 114, 111, 109] }
abbrev sDefName : ByteArray := { data := #[42, 100, 101, 102, 97, 117, 108, 116] }
abbrev cOpen : ByteArray := { data := #[40] }
abbrev cShut : ByteArray := { data := #[41] }
abbrev cStar : ByteArray := { data := #[42] }
abbrev cPlus : ByteArray := { data := #[43] }
abbrev cComma : ByteArray := { data := #[44] }
abbrev cMinus : ByteArray := { data := #[45] }
abbrev cPoint : ByteArray := { data := #[46] }
abbrev cSemi : ByteArray := { data := #[59] }
abbrev cEq : ByteArray := { data := #[61] }
abbrev cLeft : ByteArray := { data := #[123] }
abbrev cRight : ByteArray := { data := #[125] }

def bd {α β : Type} (x : Except Nat α) (f : α → Except Nat β) : Except Nat β :=
  match x with
  | .ok a => f a
  | .error e => .error e
theorem bd_ok {α β : Type} (a : α) (f : α → Except Nat β) : bd (.ok a) f = f a := rfl
theorem bd_error {α β : Type} (e : Nat) (f : α → Except Nat β) : bd (.error e) f = .error e := rfl
theorem bd_bd {α β γ : Type} (x : Except Nat α) (f : α → Except Nat β) (g : β → Except Nat γ) : bd (bd x f) g = bd x fun a => bd (f a) g := by cases x <;> rfl
theorem bd_congr {α β : Type} {x : Except Nat α} {f g : α → Except Nat β} (h : ∀ a, x = .ok a → f a = g a) : bd x f = bd x g := by
  cases x with
  | ok a => exact h a rfl
  | error e => rfl
theorem bd_eq_ok {α β : Type} {x : Except Nat α} {f : α → Except Nat β} {b : β} (h : bd x f = .ok b) : ∃ a, x = .ok a ∧ f a = .ok b := by
  cases x with
  | ok a => exact ⟨a, rfl, h⟩
  | error e => cases h

def tokAt (C : Cx) (i : Nat) : Tk := C.ts.getD i ⟨0, sNone, 0, C.fin⟩
def here (C : Cx) (i : Nat) : Nat := (tokAt C i).pos
def isT (C : Cx) (i : Nat) (k : Int) (x : ByteArray) : Bool := ((tokAt C i).kind == k) && ((tokAt C i).text.toList == x.toList)
def adv (q : PS) : PS := { q with pos := q.pos + 1 }
def tokP (C : Cx) (k : Int) (x : ByteArray) (q : PS) : PR := if isT C q.pos k x then .ok (adv q) else .error (here C q.pos)
def resB (x : ByteArray) (scr : Bool) : Bool :=
  x.toList == [105, 109, 112, 111, 114, 116] || x.toList == [101, 120, 112, 111, 114, 116] || x.toList == [100, 101, 102, 97, 117, 108, 116] || x.toList == [108, 101, 116] || x.toList == [102, 117, 110, 99, 116, 105, 111, 110] || x.toList == [114, 101, 116, 117, 114, 110] || x.toList == [112, 114, 105, 110, 116] || x.toList == [116, 104, 114, 111, 119]
    || ((x.toList == [102, 97, 105, 108] || x.toList == [117, 110, 100, 101, 102]) && scr)
def plainB (C : Cx) (i : Nat) (o : Bool) : Bool := ((tokAt C i).kind == 1) && (!resB (tokAt C i).text C.scr || (o && ((tokAt C i).text.toList == [100, 101, 102, 97, 117, 108, 116])))
def nameP (C : Cx) (o : Bool) (q : PS) : Except Nat (PS × ByteArray) := if plainB C q.pos o then .ok (adv q, (tokAt C q.pos).text) else .error (here C q.pos)
def hasS (l : List ByteArray) (x : ByteArray) : Bool := l.any fun y => y.toList == x.toList
def specP (C : Cx) (q : PS) : Except Nat (PS × ByteArray) :=
  if (tokAt C q.pos).kind == 3 then
    if hasS q.rq (tokAt C q.pos).text then .ok (adv q, (tokAt C q.pos).text)
    else if 40 ≤ q.rq.length then .error (here C q.pos)
    else .ok ({ adv q with rq := q.rq ++ [(tokAt C q.pos).text] }, (tokAt C q.pos).text)
  else .error (here C q.pos)
def addIm (C : Cx) (x : Im) (q : PS) : PR := if 40 ≤ q.im.length then .error (here C (q.pos - 1)) else .ok { q with im := q.im ++ [x] }
def addEp (C : Cx) (x : Ep) (q : PS) : PR :=
  if 40 ≤ q.ep.length + q.la.length then .error (here C (q.pos - 1))
  else if x.loc.toList == [42, 100, 101, 102, 97, 117, 108, 116] then .ok { q with la := q.la ++ [x] } else .ok { q with ep := q.ep ++ [x] }
def addSt (C : Cx) (k : Int) (n : ByteArray) (q : PS) : PR := if 80 ≤ q.st.length then .error (here C (q.pos - 1)) else .ok { q with st := q.st ++ [⟨k, n, (q.ex.length : Int) - 1⟩] }
def addEx (C : Cx) (x : Ex) (q : PS) : PR := if 300 ≤ q.ex.length then .error (here C (q.pos - 1)) else .ok { q with ex := q.ex ++ [x] }
def tailP (C : Cx) (n : ByteArray) (q : PS) : PR :=
  if isT C q.pos 4 cOpen then bd (bd (tokP C 4 cOpen q) (tokP C 4 cShut)) (addEx C ⟨3, 0, n, sNone, 0, 0⟩) else addEx C ⟨2, 0, n, sNone, 0, 0⟩ q
def memP (C : Cx) (n f : ByteArray) (q : PS) : PR :=
  if isT C q.pos 4 cOpen then bd (bd (tokP C 4 cOpen q) (tokP C 4 cShut)) (addEx C ⟨5, 0, n, f, 0, 0⟩) else addEx C ⟨4, 0, n, f, 0, 0⟩ q

abbrev NT : Type := Option (Option (Option (Option Unit)))
abbrev NT.sum : NT := none
abbrev NT.sumT : NT := some none
abbrev NT.prod : NT := some (some none)
abbrev NT.prodT : NT := some (some (some none))
abbrev NT.part : NT := some (some (some (some ())))
theorem NT.elim {motive : NT → Prop} (nt : NT) (sum : motive .sum) (sumT : motive .sumT) (prod : motive .prod) (prodT : motive .prodT) (part : motive .part) : motive nt :=
  match nt with
  | none => sum
  | some none => sumT
  | some (some none) => prod
  | some (some (some none)) => prodT
  | some (some (some (some ()))) => part
def kindPM (C : Cx) (i : Nat) : Int := if isT C i 4 cMinus then 7 else 6
def ev (C : Cx) : Nat → NT → Nat → PS → PR
  | 0, _, _, _ => .error 0
  | f + 1, none, d, q => bd (ev C f .prod d q) (ev C f .sumT d)
  | f + 1, some none, d, q =>
    if isT C q.pos 4 cPlus || isT C q.pos 4 cMinus then
      bd (bd (ev C f .prod d (adv q)) fun q' => addEx C ⟨kindPM C q.pos, 0, sNone, sNone, (q.ex.length : Int) - 1, (q'.ex.length : Int) - 1⟩ q') (ev C f .sumT d)
    else .ok q
  | f + 1, some (some none), d, q => bd (ev C f .part d q) (ev C f .prodT d)
  | f + 1, some (some (some none)), d, q =>
    if isT C q.pos 4 cStar then
      bd (bd (ev C f .part d (adv q)) fun q' => addEx C ⟨8, 0, sNone, sNone, (q.ex.length : Int) - 1, (q'.ex.length : Int) - 1⟩ q') (ev C f .prodT d)
    else .ok q
  | f + 1, some (some (some (some ()))), d, q =>
    if (tokAt C q.pos).kind == 2 then addEx C ⟨1, (tokAt C q.pos).num, sNone, sNone, 0, 0⟩ (adv q)
    else if isT C q.pos 4 cOpen then
      if 20 ≤ d then .error (here C q.pos) else bd (ev C f .sum (d + 1) (adv q)) (tokP C 4 cShut)
    else if C.scr && isT C q.pos 1 sUndef then tailP C sUndef (adv q)
    else bd (nameP C false q) fun x => if isT C x.1.pos 4 cPoint then bd (nameP C true (adv x.1)) fun y => memP C x.2 y.2 y.1 else tailP C x.2 x.1
def nd (C : Cx) (nt : NT) (q : PS) : Nat :=
  5 * (C.ts.length - q.pos) + match nt with
    | .sum => 3
    | .prod => 2
    | _ => 1
def pE (C : Cx) (nt : NT) (d : Nat) (q : PS) : PR := ev C (nd C nt q) nt d q

theorem tokAt_none {C : Cx} {i : Nat} (h : C.ts.length ≤ i) : tokAt C i = ⟨0, sNone, 0, C.fin⟩ := by simp [tokAt, List.getD, List.getElem?_eq_none h]
theorem isT_lt {C : Cx} {i : Nat} {k : Int} {x : ByteArray} (h : isT C i k x = true) (hk : k ≠ 0) : i < C.ts.length := by
  rcases Nat.lt_or_ge i C.ts.length with g | g
  · exact g
  · simp only [isT, tokAt_none g, Bool.and_eq_true, beq_iff_eq] at h
    exact absurd h.1.symm hk
theorem kind_lt {C : Cx} {i : Nat} {k : Int} (h : ((tokAt C i).kind == k) = true) (hk : k ≠ 0) : i < C.ts.length := by
  rcases Nat.lt_or_ge i C.ts.length with g | g
  · exact g
  · simp only [tokAt_none g, beq_iff_eq] at h
    exact absurd h.symm hk
theorem plain_lt {C : Cx} {i : Nat} {o : Bool} (h : plainB C i o = true) : i < C.ts.length := by
  simp only [plainB, Bool.and_eq_true] at h
  exact kind_lt h.1 (by decide)
theorem tokP_ok {C : Cx} {k : Int} {x : ByteArray} {q q' : PS} (h : tokP C k x q = .ok q') : q' = adv q ∧ isT C q.pos k x = true := by
  unfold tokP at h
  split at h
  · next g => exact ⟨by cases h; rfl, g⟩
  · cases h
theorem nameP_ok {C : Cx} {o : Bool} {q : PS} {y : PS × ByteArray} (h : nameP C o q = .ok y) : y = (adv q, (tokAt C q.pos).text) ∧ plainB C q.pos o = true := by
  unfold nameP at h
  split at h
  · next g => exact ⟨by cases h; rfl, g⟩
  · cases h
theorem addEx_ok {C : Cx} {x : Ex} {q q' : PS} (h : addEx C x q = .ok q') : q' = { q with ex := q.ex ++ [x] } ∧ q.ex.length < 300 := by
  unfold addEx at h
  split at h
  · cases h
  · cases h
    exact ⟨rfl, by omega⟩
theorem adv_pos (q : PS) : (adv q).pos = q.pos + 1 := rfl
theorem tailP_pos {C : Cx} {n : ByteArray} {q q' : PS} (h : tailP C n q = .ok q') : q.pos ≤ q'.pos := by
  unfold tailP at h
  split at h
  · obtain ⟨a, h1, h2⟩ := bd_eq_ok h
    obtain ⟨b, h3, h4⟩ := bd_eq_ok h1
    obtain ⟨rfl, _⟩ := tokP_ok h3
    obtain ⟨rfl, _⟩ := tokP_ok h4
    obtain ⟨rfl, _⟩ := addEx_ok h2
    show q.pos ≤ q.pos + 1 + 1
    omega
  · obtain ⟨rfl, _⟩ := addEx_ok h
    exact Nat.le_refl _
theorem memP_pos {C : Cx} {n f : ByteArray} {q q' : PS} (h : memP C n f q = .ok q') : q.pos ≤ q'.pos := by
  unfold memP at h
  split at h
  · obtain ⟨a, h1, h2⟩ := bd_eq_ok h
    obtain ⟨b, h3, h4⟩ := bd_eq_ok h1
    obtain ⟨rfl, _⟩ := tokP_ok h3
    obtain ⟨rfl, _⟩ := tokP_ok h4
    obtain ⟨rfl, _⟩ := addEx_ok h2
    show q.pos ≤ q.pos + 1 + 1
    omega
  · obtain ⟨rfl, _⟩ := addEx_ok h
    exact Nat.le_refl _
theorem ev_pos {C : Cx} (f : Nat) : ∀ (nt : NT) (d : Nat) (q q' : PS), ev C f nt d q = .ok q' → q.pos ≤ q'.pos := by
  induction f with
  | zero => intro nt d q q' h; cases nt using NT.elim <;> cases h
  | succ f ih =>
    intro nt d q q' h
    cases nt using NT.elim with
    | sum =>
      rw [ev] at h
      obtain ⟨a, h1, h2⟩ := bd_eq_ok h
      exact Nat.le_trans (ih _ _ _ _ h1) (ih _ _ _ _ h2)
    | prod =>
      rw [ev] at h
      obtain ⟨a, h1, h2⟩ := bd_eq_ok h
      exact Nat.le_trans (ih _ _ _ _ h1) (ih _ _ _ _ h2)
    | sumT =>
      rw [ev] at h
      split at h
      · obtain ⟨a, h1, h2⟩ := bd_eq_ok h
        obtain ⟨b, h3, h4⟩ := bd_eq_ok h1
        obtain ⟨rfl, _⟩ := addEx_ok h4
        have e1 := ih _ _ _ _ h3
        have e2 := ih _ _ _ _ h2
        rw [adv_pos] at e1
        exact Nat.le_trans (by omega : q.pos ≤ b.pos) e2
      · cases h
        exact Nat.le_refl _
    | prodT =>
      rw [ev] at h
      split at h
      · obtain ⟨a, h1, h2⟩ := bd_eq_ok h
        obtain ⟨b, h3, h4⟩ := bd_eq_ok h1
        obtain ⟨rfl, _⟩ := addEx_ok h4
        have e1 := ih _ _ _ _ h3
        have e2 := ih _ _ _ _ h2
        rw [adv_pos] at e1
        exact Nat.le_trans (by omega : q.pos ≤ b.pos) e2
      · cases h
        exact Nat.le_refl _
    | part =>
      rw [ev] at h
      split at h
      · obtain ⟨rfl, _⟩ := addEx_ok h
        show q.pos ≤ q.pos + 1
        omega
      · split at h
        · split at h
          · cases h
          · obtain ⟨a, h1, h2⟩ := bd_eq_ok h
            obtain ⟨rfl, _⟩ := tokP_ok h2
            have e1 := ih _ _ _ _ h1
            rw [adv_pos] at e1 ⊢
            omega
        · split at h
          · have := tailP_pos h
            rw [adv_pos] at this
            omega
          · obtain ⟨y, h1, h2⟩ := bd_eq_ok h
            obtain ⟨rfl, _⟩ := nameP_ok h1
            simp only at h2
            split at h2
            · obtain ⟨z, h3, h4⟩ := bd_eq_ok h2
              obtain ⟨rfl, _⟩ := nameP_ok h3
              have := memP_pos h4
              simp only [adv_pos] at this
              omega
            · have := tailP_pos h2
              rw [adv_pos] at this
              omega
theorem ev_enough {C : Cx} (f : Nat) : ∀ (g : Nat) (nt : NT) (d : Nat) (q : PS), nd C nt q ≤ f → nd C nt q ≤ g → ev C f nt d q = ev C g nt d q := by
  induction f with
  | zero => intro g nt d q h; unfold nd at h; cases nt using NT.elim <;> simp at h
  | succ f ih =>
    intro g nt d q h1 h2
    obtain ⟨g, rfl⟩ : ∃ g', g = g' + 1 := by
      match g with
      | 0 => unfold nd at h2; cases nt using NT.elim <;> simp at h2
      | g + 1 => exact ⟨g, rfl⟩
    cases nt using NT.elim with
    | sum =>
      simp only [nd] at h1 h2
      rw [ev, ev, ih g .prod d q (by simp only [nd]; omega) (by simp only [nd]; omega)]
      refine bd_congr fun a ha => ?_
      have := ev_pos _ _ _ _ _ ha
      exact ih g .sumT d a (by simp only [nd]; omega) (by simp only [nd]; omega)
    | prod =>
      simp only [nd] at h1 h2
      rw [ev, ev, ih g .part d q (by simp only [nd]; omega) (by simp only [nd]; omega)]
      refine bd_congr fun a ha => ?_
      have := ev_pos _ _ _ _ _ ha
      exact ih g .prodT d a (by simp only [nd]; omega) (by simp only [nd]; omega)
    | sumT =>
      simp only [nd] at h1 h2
      rw [ev, ev]
      split
      · next hs =>
        have hlt : q.pos < C.ts.length := by
          rw [Bool.or_eq_true] at hs
          exact hs.elim (fun k => isT_lt k (by decide)) fun k => isT_lt k (by decide)
        rw [ih g .prod d (adv q) (by simp only [nd, adv_pos]; omega) (by simp only [nd, adv_pos]; omega)]
        refine bd_congr fun a ha => ?_
        obtain ⟨b, h3, h4⟩ := bd_eq_ok ha
        obtain ⟨rfl, _⟩ := addEx_ok h4
        have := ev_pos _ _ _ _ _ h3
        rw [adv_pos] at this
        exact ih g .sumT d _ (by simp only [nd]; omega) (by simp only [nd]; omega)
      · rfl
    | prodT =>
      simp only [nd] at h1 h2
      rw [ev, ev]
      split
      · next hs =>
        have hlt : q.pos < C.ts.length := isT_lt hs (by decide)
        rw [ih g .part d (adv q) (by simp only [nd, adv_pos]; omega) (by simp only [nd, adv_pos]; omega)]
        refine bd_congr fun a ha => ?_
        obtain ⟨b, h3, h4⟩ := bd_eq_ok ha
        obtain ⟨rfl, _⟩ := addEx_ok h4
        have := ev_pos _ _ _ _ _ h3
        rw [adv_pos] at this
        exact ih g .prodT d _ (by simp only [nd]; omega) (by simp only [nd]; omega)
      · rfl
    | part =>
      simp only [nd] at h1 h2
      rw [ev, ev]
      split
      · rfl
      · split
        · next hs =>
          have hlt : q.pos < C.ts.length := isT_lt hs (by decide)
          split
          · rfl
          · rw [ih g .sum (d + 1) (adv q) (by simp only [nd, adv_pos]; omega) (by simp only [nd, adv_pos]; omega)]
        · rfl
theorem ev_pE {C : Cx} {f d : Nat} {nt : NT} {q : PS} (h : nd C nt q ≤ f) : ev C f nt d q = pE C nt d q := ev_enough f _ nt d q h (Nat.le_refl _)
theorem pE_pos {C : Cx} {nt : NT} {d : Nat} {q q' : PS} (h : pE C nt d q = .ok q') : q.pos ≤ q'.pos := ev_pos _ _ _ _ _ h
theorem pE_succ {C : Cx} {nt : NT} {d : Nat} {q : PS} : pE C nt d q = ev C (nd C nt q + 1) nt d q := (ev_pE (Nat.le_succ _)).symm

theorem pE_sum (C : Cx) (d : Nat) (q : PS) : pE C .sum d q = bd (pE C .prod d q) (pE C .sumT d) := by
  rw [pE_succ, ev, ev_pE (by simp only [nd]; omega)]
  refine bd_congr fun a ha => ?_
  have := pE_pos ha
  exact ev_pE (by simp only [nd]; omega)
theorem pE_prod (C : Cx) (d : Nat) (q : PS) : pE C .prod d q = bd (pE C .part d q) (pE C .prodT d) := by
  rw [pE_succ, ev, ev_pE (by simp only [nd]; omega)]
  refine bd_congr fun a ha => ?_
  have := pE_pos ha
  exact ev_pE (by simp only [nd]; omega)
theorem pE_sumT (C : Cx) (d : Nat) (q : PS) : pE C .sumT d q =
    if isT C q.pos 4 cPlus || isT C q.pos 4 cMinus then
      bd (bd (pE C .prod d (adv q)) fun q' => addEx C ⟨kindPM C q.pos, 0, sNone, sNone, (q.ex.length : Int) - 1, (q'.ex.length : Int) - 1⟩ q') (pE C .sumT d)
    else .ok q := by
  rw [pE_succ, ev]
  split
  · next hs =>
    have hlt : q.pos < C.ts.length := by
      rw [Bool.or_eq_true] at hs
      exact hs.elim (fun k => isT_lt k (by decide)) fun k => isT_lt k (by decide)
    rw [ev_pE (by simp only [nd, adv_pos]; omega)]
    refine bd_congr fun a ha => ?_
    obtain ⟨b, h3, h4⟩ := bd_eq_ok ha
    obtain ⟨rfl, _⟩ := addEx_ok h4
    have := pE_pos h3
    rw [adv_pos] at this
    exact ev_pE (by simp only [nd]; omega)
  · rfl
theorem pE_prodT (C : Cx) (d : Nat) (q : PS) : pE C .prodT d q =
    if isT C q.pos 4 cStar then
      bd (bd (pE C .part d (adv q)) fun q' => addEx C ⟨8, 0, sNone, sNone, (q.ex.length : Int) - 1, (q'.ex.length : Int) - 1⟩ q') (pE C .prodT d)
    else .ok q := by
  rw [pE_succ, ev]
  split
  · next hs =>
    have hlt : q.pos < C.ts.length := isT_lt hs (by decide)
    rw [ev_pE (by simp only [nd, adv_pos]; omega)]
    refine bd_congr fun a ha => ?_
    obtain ⟨b, h3, h4⟩ := bd_eq_ok ha
    obtain ⟨rfl, _⟩ := addEx_ok h4
    have := pE_pos h3
    rw [adv_pos] at this
    exact ev_pE (by simp only [nd]; omega)
  · rfl
theorem pE_part (C : Cx) (d : Nat) (q : PS) : pE C .part d q =
    if (tokAt C q.pos).kind == 2 then addEx C ⟨1, (tokAt C q.pos).num, sNone, sNone, 0, 0⟩ (adv q)
    else if isT C q.pos 4 cOpen then
      if 20 ≤ d then .error (here C q.pos) else bd (pE C .sum (d + 1) (adv q)) (tokP C 4 cShut)
    else if C.scr && isT C q.pos 1 sUndef then tailP C sUndef (adv q)
    else bd (nameP C false q) fun x => if isT C x.1.pos 4 cPoint then bd (nameP C true (adv x.1)) fun y => memP C x.2 y.2 y.1 else tailP C x.2 x.1 := by
  rw [pE_succ, ev]
  split
  · rfl
  · split
    · next hs =>
      have hlt : q.pos < C.ts.length := isT_lt hs (by decide)
      split
      · rfl
      · rw [ev_pE (by simp only [nd, adv_pos]; omega)]
    · rfl
end Go.Proofs.Ytdbpknmoacjodaa
namespace Go.Proofs.Ytdbpknmoacjodaa
open Go.RowKit Go.PlainAid

structure Md where
  rq : List ByteArray
  im : List Im
  ep : List Ep
  st : List Sm
  ex : List Ex
def mdOf (q : PS) : Md := ⟨q.rq, q.im, q.ep ++ q.la, q.st, q.ex⟩
def sumK (k : Int) : Bool := k == 6 || k == 7
def twoK (k : Int) : Bool := k == 6 || k == 7 || k == 8
def exNo : Ex := ⟨0, 0, sNone, sNone, 0, 0⟩
abbrev cParens : ByteArray := { data := #[40, 41] }
abbrev tPlus : ByteArray := { data := #[32, 43, 32] }
abbrev tMinus : ByteArray := { data := #[32, 45, 32] }
abbrev tStar : ByteArray := { data := #[32, 42, 32] }
def sideT (b : Bool) (t : ByteArray) : ByteArray := if b then cOpen ++ t ++ cShut else t
def prE (ex : List Ex) : Nat → Nat → ByteArray
  | 0, _ => sNone
  | f + 1, i =>
    let x := ex.getD i exNo
    if x.kind == 1 then strOfNums (decL x.num)
    else if x.kind == 2 then x.name
    else if x.kind == 3 then x.name ++ cParens
    else if x.kind == 4 then x.name ++ cPoint ++ x.field
    else if x.kind == 5 then x.name ++ cPoint ++ x.field ++ cParens
    else if x.kind == 6 then prE ex f x.l.toNat ++ tPlus ++ sideT (sumK (ex.getD x.r.toNat exNo).kind) (prE ex f x.r.toNat)
    else if x.kind == 7 then prE ex f x.l.toNat ++ tMinus ++ sideT (sumK (ex.getD x.r.toNat exNo).kind) (prE ex f x.r.toNat)
    else if x.kind == 8 then sideT (sumK (ex.getD x.l.toNat exNo).kind) (prE ex f x.l.toNat) ++ tStar ++ sideT (twoK (ex.getD x.r.toNat exNo).kind) (prE ex f x.r.toNat)
    else sNone
def prX (ex : List Ex) (i : Nat) : ByteArray := prE ex (i + 1) i
def Ahead (ex : List Ex) : Prop := ∀ (i : Nat) (x : Ex), ex[i]? = some x → twoK x.kind = true → 0 ≤ x.l ∧ x.l < (i : Int) ∧ 0 ≤ x.r ∧ x.r < (i : Int)
theorem two_of {k : Int} (h : (k == 6) = true ∨ (k == 7) = true ∨ (k == 8) = true) : twoK k = true := by
  unfold twoK
  rcases h with h | h | h <;> simp [h]
theorem ahead_at {ex : List Ex} (h : Ahead ex) {i : Nat} (hk : twoK (ex.getD i exNo).kind = true) : 0 ≤ (ex.getD i exNo).l ∧ (ex.getD i exNo).l < (i : Int) ∧ 0 ≤ (ex.getD i exNo).r ∧ (ex.getD i exNo).r < (i : Int) := by
  by_cases hi : i < ex.length
  · have e : ex.getD i exNo = ex[i] := by simp [List.getD, List.getElem?_eq_getElem hi]
    rw [e] at hk ⊢
    exact h i _ (List.getElem?_eq_getElem hi) hk
  · have e : ex.getD i exNo = exNo := by simp [List.getD, List.getElem?_eq_none (by omega : ex.length ≤ i)]
    rw [e] at hk
    exact absurd hk (by decide)
theorem prE_enough {ex : List Ex} (h : Ahead ex) (f : Nat) : ∀ (g i : Nat), i < f → i < g → prE ex f i = prE ex g i := by
  induction f with
  | zero => intro g i hi; omega
  | succ f ih =>
    intro g i h1 h2
    obtain ⟨g, rfl⟩ : ∃ g', g = g' + 1 := ⟨g - 1, by omega⟩
    rw [prE, prE]
    have ha := fun hk => ahead_at h (i := i) hk
    generalize ex.getD i exNo = x at ha ⊢
    have hs : ∀ hk : twoK x.kind = true, prE ex f x.l.toNat = prE ex g x.l.toNat ∧ prE ex f x.r.toNat = prE ex g x.r.toNat := fun hk => by
      have := ha hk
      exact ⟨ih g _ (by omega) (by omega), ih g _ (by omega) (by omega)⟩
    by_cases k6 : (x.kind == 6) = true
    · rw [(hs (two_of (.inl k6))).1, (hs (two_of (.inl k6))).2]
    · by_cases k7 : (x.kind == 7) = true
      · rw [(hs (two_of (.inr (.inl k7)))).1, (hs (two_of (.inr (.inl k7)))).2]
      · by_cases k8 : (x.kind == 8) = true
        · rw [(hs (two_of (.inr (.inr k8)))).1, (hs (two_of (.inr (.inr k8)))).2]
        · simp only [k6, k7, k8, Bool.false_eq_true, ↓reduceIte]
theorem prX_step {ex : List Ex} (h : Ahead ex) (i : Nat) : prX ex i =
    if (ex.getD i exNo).kind == 1 then strOfNums (decL (ex.getD i exNo).num)
    else if (ex.getD i exNo).kind == 2 then (ex.getD i exNo).name
    else if (ex.getD i exNo).kind == 3 then (ex.getD i exNo).name ++ cParens
    else if (ex.getD i exNo).kind == 4 then (ex.getD i exNo).name ++ cPoint ++ (ex.getD i exNo).field
    else if (ex.getD i exNo).kind == 5 then (ex.getD i exNo).name ++ cPoint ++ (ex.getD i exNo).field ++ cParens
    else if (ex.getD i exNo).kind == 6 then prX ex (ex.getD i exNo).l.toNat ++ tPlus ++ sideT (sumK (ex.getD (ex.getD i exNo).r.toNat exNo).kind) (prX ex (ex.getD i exNo).r.toNat)
    else if (ex.getD i exNo).kind == 7 then prX ex (ex.getD i exNo).l.toNat ++ tMinus ++ sideT (sumK (ex.getD (ex.getD i exNo).r.toNat exNo).kind) (prX ex (ex.getD i exNo).r.toNat)
    else if (ex.getD i exNo).kind == 8 then sideT (sumK (ex.getD (ex.getD i exNo).l.toNat exNo).kind) (prX ex (ex.getD i exNo).l.toNat) ++ tStar ++ sideT (twoK (ex.getD (ex.getD i exNo).r.toNat exNo).kind) (prX ex (ex.getD i exNo).r.toNat)
    else sNone := by
  rw [prX, prE]
  have ha := fun hk => ahead_at h (i := i) hk
  generalize ex.getD i exNo = x at ha ⊢
  have hs : ∀ hk : twoK x.kind = true, prE ex i x.l.toNat = prX ex x.l.toNat ∧ prE ex i x.r.toNat = prX ex x.r.toNat := fun hk => by
    have := ha hk
    exact ⟨prE_enough h _ _ _ (by omega) (by omega), prE_enough h _ _ _ (by omega) (by omega)⟩
  by_cases k6 : (x.kind == 6) = true
  · rw [(hs (two_of (.inl k6))).1, (hs (two_of (.inl k6))).2]
  · by_cases k7 : (x.kind == 7) = true
    · rw [(hs (two_of (.inr (.inl k7)))).1, (hs (two_of (.inr (.inl k7)))).2]
    · by_cases k8 : (x.kind == 8) = true
      · rw [(hs (two_of (.inr (.inr k8)))).1, (hs (two_of (.inr (.inr k8)))).2]
      · simp only [k6, k7, k8, Bool.false_eq_true, ↓reduceIte]

def usesE (ex : List Ex) (k : Int) : Nat := (ex.map fun x => if twoK x.kind then (if x.l == k then 1 else 0) + (if x.r == k then 1 else 0) else 0).sum
def usesS (st : List Sm) (k : Int) : Nat := (st.map fun s => if s.expr == k then 1 else 0).sum
structure Tree (m : Md) : Prop where
  ahead : Ahead m.ex
  stm : ∀ s ∈ m.st, 0 ≤ s.expr ∧ s.expr < (m.ex.length : Int)
  once : ∀ k, k < m.ex.length → usesE m.ex (k : Int) + usesS m.st (k : Int) = 1
end Go.Proofs.Ytdbpknmoacjodaa
namespace Go.Proofs.Ytdbpknmoacjodaa
open Go.RowKit Go.PlainAid

def sm (k : Nat) (f : Nat → Nat) : Nat := ((List.range k).map f).sum
theorem sm_zero (f : Nat → Nat) : sm 0 f = 0 := rfl
theorem sm_succ (k : Nat) (f : Nat → Nat) : sm (k + 1) f = sm k f + f k := by
  unfold sm
  rw [List.range_succ, List.map_append, List.sum_append]
  simp
theorem sm_add (k : Nat) (f g : Nat → Nat) : sm k (fun j => f j + g j) = sm k f + sm k g := by
  induction k with
  | zero => rfl
  | succ k ih => rw [sm_succ, sm_succ, sm_succ, ih]; omega
theorem sm_congr {k : Nat} {f g : Nat → Nat} (h : ∀ j, j < k → f j = g j) : sm k f = sm k g := by
  induction k with
  | zero => rfl
  | succ k ih => rw [sm_succ, sm_succ, ih fun j hj => h j (by omega), h k (by omega)]
theorem sm_none (k : Nat) : sm k (fun _ => 0) = 0 := by
  induction k with
  | zero => rfl
  | succ k ih => rw [sm_succ, ih]
theorem sm_one (f : Nat → Nat) (k : Nat) (l : Int) (h0 : 0 ≤ l) (h : l < (k : Int)) : sm k (fun j => (if l == (j : Int) then 1 else 0) * f j) = f l.toNat := by
  induction k with
  | zero => omega
  | succ k ih =>
    rw [sm_succ]
    by_cases e : l = (k : Int)
    · have e1 : sm k (fun j => (if l == (j : Int) then 1 else 0) * f j) = 0 := (sm_congr (g := fun _ => 0) fun j hj => by rw [if_neg (by rw [beq_iff_eq]; omega)]; omega).trans (sm_none k)
      rw [e1, if_pos (by rw [beq_iff_eq]; exact e), show l.toNat = k from by omega]
      omega
    · rw [ih (by omega), if_neg (by rw [beq_iff_eq]; exact e)]
      omega
def u1 (x : Ex) (k : Int) : Nat := if twoK x.kind then (if x.l == k then 1 else 0) + (if x.r == k then 1 else 0) else 0
theorem usesE_drop {ex : List Ex} {i : Nat} (hi : i < ex.length) (k : Int) : usesE (ex.drop i) k = u1 ex[i] k + usesE (ex.drop (i + 1)) k := by
  rw [List.drop_eq_getElem_cons hi, usesE, List.map_cons, List.sum_cons]
  rfl
theorem usesE_end {ex : List Ex} {i : Nat} (hi : ex.length ≤ i) (k : Int) : usesE (ex.drop i) k = 0 := by rw [List.drop_eq_nil_of_le hi]; rfl
theorem usesE_from {ex : List Ex} (h : Ahead ex) (k : Nat) (hk : k < ex.length) : ∀ d j, j + d = k + 1 → usesE (ex.drop j) (k : Int) = usesE (ex.drop (k + 1)) (k : Int) := by
  intro d
  induction d with
  | zero => intro j hj; rw [show j = k + 1 from by omega]
  | succ d ih =>
    intro j hj
    rw [usesE_drop (by omega), ih (j + 1) (by omega)]
    have : u1 ex[j] (k : Int) = 0 := by
      unfold u1
      split
      · next ht =>
        have := h j _ (List.getElem?_eq_getElem (by omega)) ht
        rw [if_neg (by rw [beq_iff_eq]; omega), if_neg (by rw [beq_iff_eq]; omega)]
      · rfl
    omega
def wt (ex : List Ex) (i : Nat) : Nat := (prX ex i).size
def cost (x : Ex) : Nat := x.name.size + x.field.size + 40
theorem side_size (b : Bool) (t : ByteArray) : (sideT b t).size ≤ t.size + 2 := by
  unfold sideT
  split
  · rw [ByteArray.size_append, ByteArray.size_append]
    show 1 + t.size + 1 ≤ t.size + 2
    omega
  · omega
theorem dec_size (n : Int) (h0 : -9223372036854775808 ≤ n) (h1 : n ≤ 9223372036854775807) : (strOfNums (decL n)).size ≤ 21 := by
  rw [strOfNums_size]
  by_cases h : n < 0
  · rw [decL_neg h, List.length_cons, dgk_length]
    have := (dcn_facts (-n) (by omega) (by omega)).2.1
    omega
  · rw [decL_pos (by omega), dgk_length]
    have := (dcn_facts n (by omega) (by omega)).2.1
    omega
theorem wt_step {ex : List Ex} (h : Ahead ex) (i : Nat) (hn : -9223372036854775808 ≤ (ex.getD i exNo).num ∧ (ex.getD i exNo).num ≤ 9223372036854775807) :
    wt ex i ≤ cost (ex.getD i exNo) + if twoK (ex.getD i exNo).kind then wt ex (ex.getD i exNo).l.toNat + wt ex (ex.getD i exNo).r.toNat else 0 := by
  unfold wt
  rw [prX_step h]
  generalize ex.getD i exNo = x at hn ⊢
  unfold cost
  by_cases k1 : (x.kind == 1) = true
  · rw [if_pos k1]
    have := dec_size x.num hn.1 hn.2
    omega
  · rw [if_neg k1]
    by_cases k2 : (x.kind == 2) = true
    · rw [if_pos k2]; omega
    · rw [if_neg k2]
      by_cases k3 : (x.kind == 3) = true
      · rw [if_pos k3, ByteArray.size_append]
        have : cParens.size = 2 := rfl
        omega
      · rw [if_neg k3]
        by_cases k4 : (x.kind == 4) = true
        · rw [if_pos k4, ByteArray.size_append, ByteArray.size_append]
          have : cPoint.size = 1 := rfl
          omega
        · rw [if_neg k4]
          by_cases k5 : (x.kind == 5) = true
          · rw [if_pos k5, ByteArray.size_append, ByteArray.size_append, ByteArray.size_append]
            have : cPoint.size = 1 := rfl
            have : cParens.size = 2 := rfl
            omega
          · rw [if_neg k5]
            by_cases k6 : (x.kind == 6) = true
            · rw [if_pos k6, if_pos (two_of (.inl k6)), ByteArray.size_append, ByteArray.size_append]
              have := side_size (sumK (ex.getD x.r.toNat exNo).kind) (prX ex x.r.toNat)
              have : tPlus.size = 3 := rfl
              omega
            · rw [if_neg k6]
              by_cases k7 : (x.kind == 7) = true
              · rw [if_pos k7, if_pos (two_of (.inr (.inl k7))), ByteArray.size_append, ByteArray.size_append]
                have := side_size (sumK (ex.getD x.r.toNat exNo).kind) (prX ex x.r.toNat)
                have : tMinus.size = 3 := rfl
                omega
              · rw [if_neg k7]
                by_cases k8 : (x.kind == 8) = true
                · rw [if_pos k8, if_pos (two_of (.inr (.inr k8))), ByteArray.size_append, ByteArray.size_append]
                  have := side_size (sumK (ex.getD x.l.toNat exNo).kind) (prX ex x.l.toNat)
                  have := side_size (twoK (ex.getD x.r.toNat exNo).kind) (prX ex x.r.toNat)
                  have : tStar.size = 3 := rfl
                  omega
                · rw [if_neg k8]
                  show 0 ≤ _
                  omega
def Nums (ex : List Ex) : Prop := ∀ x ∈ ex, -9223372036854775808 ≤ x.num ∧ x.num ≤ 9223372036854775807
theorem getD_at {ex : List Ex} {i : Nat} (hi : i < ex.length) : ex.getD i exNo = ex[i] := by simp [List.getD, List.getElem?_eq_getElem hi]
theorem stm_sum (f : Nat → Nat) (n : Nat) : ∀ st : List Sm, (∀ s ∈ st, 0 ≤ s.expr ∧ s.expr < (n : Int)) → (st.map fun s => f s.expr.toNat).sum = sm n (fun j => usesS st (j : Int) * f j) := by
  intro st
  induction st with
  | nil => intro _; show 0 = _; rw [← sm_none n]; exact sm_congr fun j _ => by simp [usesS]
  | cons s st ih =>
    intro h
    rw [List.map_cons, List.sum_cons, ih fun x hx => h x (List.mem_cons_of_mem _ hx)]
    have h1 := h s List.mem_cons_self
    rw [← sm_one f n s.expr h1.1 h1.2, ← sm_add]
    refine sm_congr fun j _ => ?_
    simp only [usesS, List.map_cons, List.sum_cons]
    rw [Nat.add_mul]
theorem tree_down {m : Md} (t : Tree m) (hn : Nums m.ex) : ∀ d k, k + d = m.ex.length →
    (m.st.map fun s => wt m.ex s.expr.toNat).sum ≤ sm k (fun j => (usesS m.st (j : Int) + usesE (m.ex.drop k) (j : Int)) * wt m.ex j) + ((m.ex.drop k).map cost).sum := by
  intro d
  induction d with
  | zero =>
    intro k hk
    have : k = m.ex.length := by omega
    subst this
    rw [stm_sum _ _ _ t.stm]
    refine Nat.le_trans (Nat.le_of_eq ?_) (Nat.le_add_right _ _)
    refine sm_congr fun j _ => ?_
    rw [usesE_end (Nat.le_refl _), Nat.add_zero]
  | succ d ih =>
    intro k hk
    have hlt : k < m.ex.length := by omega
    refine Nat.le_trans (ih (k + 1) (by omega)) ?_
    have h1 : usesS m.st (k : Int) + usesE (m.ex.drop (k + 1)) (k : Int) = 1 := by
      have := t.once k hlt
      rw [← usesE_from t.ahead k hlt (k + 1) 0 (by omega), List.drop_zero]
      omega
    rw [sm_succ, h1, Nat.one_mul, List.drop_eq_getElem_cons hlt, List.map_cons, List.sum_cons]
    have h2 := wt_step t.ahead k (by rw [getD_at hlt]; exact hn _ (List.getElem_mem hlt))
    rw [getD_at hlt] at h2
    have h3 : sm k (fun j => (usesS m.st (j : Int) + usesE (m.ex.drop k) (j : Int)) * wt m.ex j) = sm k (fun j => (usesS m.st (j : Int) + usesE (m.ex.drop (k + 1)) (j : Int)) * wt m.ex j) + if twoK m.ex[k].kind then wt m.ex m.ex[k].l.toNat + wt m.ex m.ex[k].r.toNat else 0 := by
      have e : ∀ j : Nat, (usesS m.st (j : Int) + usesE (m.ex.drop k) (j : Int)) * wt m.ex j = (usesS m.st (j : Int) + usesE (m.ex.drop (k + 1)) (j : Int)) * wt m.ex j + u1 m.ex[k] (j : Int) * wt m.ex j := fun j => by
        rw [usesE_drop hlt, ← Nat.add_mul]
        congr 1
        omega
      rw [sm_congr fun j _ => e j, sm_add]
      congr 1
      split
      · next ht =>
        have ha := t.ahead k _ (List.getElem?_eq_getElem hlt) ht
        rw [← sm_one (wt m.ex) k _ ha.1 ha.2.1, ← sm_one (wt m.ex) k _ ha.2.2.1 ha.2.2.2, ← sm_add]
        refine sm_congr fun j _ => ?_
        rw [u1, if_pos ht, Nat.add_mul]
      · next ht =>
        rw [← sm_none k]
        refine sm_congr fun j _ => ?_
        rw [u1, if_neg ht, Nat.zero_mul]
    have h4 : usesE (m.ex[k] :: m.ex.drop (k + 1)) = usesE (m.ex.drop k) := by rw [← List.drop_eq_getElem_cons hlt]
    rw [h4, h3]
    omega
theorem tree_total {m : Md} (t : Tree m) (hn : Nums m.ex) : (m.st.map fun s => wt m.ex s.expr.toNat).sum ≤ (m.ex.map cost).sum := by
  have := tree_down t hn m.ex.length 0 (by omega)
  rw [sm_zero, Nat.zero_add, List.drop_zero] at this
  exact this
end Go.Proofs.Ytdbpknmoacjodaa
namespace Go.Proofs.Ytdbpknmoacjodaa
open Go.RowKit Go.PlainAid

def StrOut (S : Src) (g N : Nat) (w : World) (e : Ending) (w' : World) : Prop := ∃ x q', e = .returned (.string x) ∧ x.size ≤ N ∧ CurW 201 S w' g q' ∧ w.grownBy w' (some g)
theorem grown_alloc (w : World) (o : Obj) (r : Option Nat) : w.grownBy (w.alloc o) r := ⟨rfl, rfl, rfl, by rw [alloc_size]; omega, fun k hk _ => heap_alloc_old w o hk⟩
theorem cur_alloc {S : Src} {w : World} {g : Nat} {q : Nat × Int} (h : CurW 201 S w g q) (o : Obj) : CurW 201 S (w.alloc o) g q := curW_below h ((Below.refl w.heap.size w).alloc (Nat.le_refl _) _) (curW_lt h)
theorem pick_new (S : Src) (hS : S.ok) (g : Nat) (q : Nat × Int) (N : Nat) (l : List ByteArray) (w : World) (hc : CurW 201 S w g q) (h1 : 1 ≤ l.length) (h2 : l.length ≤ 1000) (hl : ∀ x ∈ l, x.size ≤ N) :
    Calls Try.prog 151 #[.pointer (some ⟨g, 0, none⟩), .slice (some ⟨w.heap.size, 0, none⟩) l.length l.length] (w.alloc (.cells (l.map Value.string).toArray 9)) (StrOut S g N w) := by
  have hg := curW_lt hc
  refine (l1Pick_le S hS g q w.heap.size l.length N _ (cur_alloc hc _) h1 h2 (by rw [alloc_size]; omega) (by omega) ?_).mono ?_
  · intro j hj
    rw [World.cell?_alloc_new]
    refine ⟨l[j], ?_, hl _ (List.getElem_mem hj)⟩
    simp [List.getElem?_eq_getElem hj]
  · rintro e w' ⟨x, q', rfl, hx, hcx, hgx⟩
    exact ⟨x, q', rfl, hx, hcx, grown_trans (grown_alloc w _ _) hgx⟩
set_option maxRecDepth 100000 in
set_option maxHeartbeats 6400000 in
theorem l4Expr_step (S : Src) (hS : S.ok) (g : Nat) (scr : Bool) (d N : Nat) (hd : d ≤ 2) (hN : N ≤ 100000) (ih : 0 < d → ∀ (q : Nat × Int) (w : World), CurW 201 S w g q → Calls Try.prog 209 #[.pointer (some ⟨g, 0, none⟩), .int .i64 ((d : Int) - 1), .bool scr] w (StrOut S g N w))
    (q0 : Nat × Int) (w0 : World) (hc : CurW 201 S w0 g q0) : Calls Try.prog 209 #[.pointer (some ⟨g, 0, none⟩), .int .i64 (d : Int), .bool scr] w0 (StrOut S g (2 * N + 110) w0) := by
  have HC0 := hidI hc
  have HG0 : Hid (w0.grownBy w0 (some g)) := ⟨rfl, rfl, rfl, Nat.le_refl _, fun _ _ _ => rfl⟩
  have IH := hidI ih
  clear hc ih
  go_enter Try.func209, Try.ntmps209
  go_wp2_with fail
  refine (pick_new S hS g _ 100 [{ data := #[97] }, { data := #[98] }, { data := #[120] }, { data := #[102] }, { data := #[103] }, { data := #[110] }, { data := #[100] }] _ HC0.out (by simp) (by simp) (by intro x hx; simp only [List.mem_cons, List.not_mem_nil, or_false] at hx; rcases hx with rfl | rfl | rfl | rfl | rfl | rfl | rfl <;> decide)).mono ?_
  rintro e w1 ⟨x1, q1, rfl, z1, hc, hg⟩
  have HC1 := hidI hc
  have HG1 := hidI (grown_trans HG0.out hg)
  clear hc hg
  go_wp2_with fail
  refine (l1Below_any S hS g _ 9 _ HC1.out (by omega)).mono ?_
  rintro e w2 ⟨rfl, hc, hg⟩
  have hbd := bw_bd S q1 9 (by omega)
  obtain ⟨k2, hk⟩ : ∃ k : Nat, (bw S q1 9).1 = k := ⟨(bw S q1 9).1.toNat, by omega⟩
  obtain ⟨q2, hq⟩ : ∃ q', (bw S q1 9).2 = q' := ⟨_, rfl⟩
  rw [hk] at hbd ⊢
  rw [hq] at hc
  have HC2 := hidI hc
  have HG2 := hidI (grown_trans HG1.out hg)
  clear hc hg
  have kb2 : k2 < 9 := by omega
  clear hbd hk hq
  have TAIL : True := trivial
  clear TAIL
  rcases (show k2 = 0 ∨ k2 = 1 ∨ k2 = 2 ∨ k2 = 3 ∨ k2 = 4 ∨ k2 = 5 ∨ k2 = 6 ∨ k2 = 7 ∨ k2 = 8 by omega) with rfl | rfl | rfl | rfl | rfl | rfl | rfl | rfl | rfl
  · go_wp2_with fail
    refine (l1Below_any S hS g _ 9 _ HC2.out (by omega)).mono ?_
    rintro e w3 ⟨rfl, hc, hg⟩
    have hbd := bw_bd S q2 9 (by omega)
    obtain ⟨k3, hk⟩ : ∃ k : Nat, (bw S q2 9).1 = k := ⟨(bw S q2 9).1.toNat, by omega⟩
    obtain ⟨q3, hq⟩ : ∃ q', (bw S q2 9).2 = q' := ⟨_, rfl⟩
    rw [hk] at hbd ⊢
    rw [hq] at hc
    have HC3 := hidI hc
    have HG3 := hidI (grown_trans HG2.out hg)
    clear hc hg
    have kb3 : k3 < 9 := by omega
    clear hbd hk hq
    go_wp2_with fail
    refine (dec_spec (k3 : Int) _ (by omega)).mono ?_
    rintro e w4 ⟨rfl, hb⟩
    have HC4 := hidI (curW_below HC3.out hb (curW_lt HC3.out))
    have HG4 := hidI (grown_below HG3.out hb HG3.out.size)
    have hz := dec_size (k3 : Int) (by omega) (by omega)
    clear hb
    go_wp2
    go_ret
    exact ⟨_, q3, rfl, by omega, HC4.out, HG4.out⟩
  · go_wp2_with fail
    refine (l1Below_any S hS g _ 9 _ HC2.out (by omega)).mono ?_
    rintro e w3 ⟨rfl, hc, hg⟩
    have hbd := bw_bd S q2 9 (by omega)
    obtain ⟨k3, hk⟩ : ∃ k : Nat, (bw S q2 9).1 = k := ⟨(bw S q2 9).1.toNat, by omega⟩
    obtain ⟨q3, hq⟩ : ∃ q', (bw S q2 9).2 = q' := ⟨_, rfl⟩
    rw [hk] at hbd ⊢
    rw [hq] at hc
    have HC3 := hidI hc
    have HG3 := hidI (grown_trans HG2.out hg)
    clear hc hg
    have kb3 : k3 < 9 := by omega
    clear hbd hk hq
    go_wp2_with fail
    refine (dec_spec (k3 : Int) _ (by omega)).mono ?_
    rintro e w4 ⟨rfl, hb⟩
    have HC4 := hidI (curW_below HC3.out hb (curW_lt HC3.out))
    have HG4 := hidI (grown_below HG3.out hb HG3.out.size)
    have hz := dec_size (k3 : Int) (by omega) (by omega)
    clear hb
    go_wp2
    go_ret
    exact ⟨_, q3, rfl, by omega, HC4.out, HG4.out⟩
  · go_wp2
    go_ret
    exact ⟨_, q2, rfl, by have y0 : (({ data := #[32, 40, 32, 41] } : ByteArray)).size = 4 := rfl; simp only [ByteArray.size_append, y0]; omega, HC2.out, HG2.out⟩
  · go_wp2
    go_ret
    exact ⟨_, q2, rfl, by have y0 : (({ data := #[110, 32, 46, 32] } : ByteArray)).size = 4 := rfl; simp only [ByteArray.size_append, y0]; omega, HC2.out, HG2.out⟩
  · go_wp2
    go_ret
    exact ⟨_, q2, rfl, by have y0 : (({ data := #[110, 32, 46, 32, 102, 32, 40, 32, 41] } : ByteArray)).size = 9 := rfl; omega, HC2.out, HG2.out⟩
  · by_cases hd0 : 0 < d
    · go_wp2_with fail
      refine (IH.out hd0 q2 _ HC2.out).mono ?_
      rintro e w3 ⟨x3, q3, rfl, z3, hc, hg⟩
      have HC3 := hidI hc
      have HG3 := hidI (grown_trans HG2.out hg)
      clear hc hg
      go_wp2_with fail
      refine (pick_new S hS g _ 100 [{ data := #[43] }, { data := #[45] }, { data := #[42] }] _ HC3.out (by simp) (by simp) (by intro x hx; simp only [List.mem_cons, List.not_mem_nil, or_false] at hx; rcases hx with rfl | rfl | rfl <;> decide)).mono ?_
      rintro e w4 ⟨x4, q4, rfl, z4, hc, hg⟩
      have HC4 := hidI hc
      have HG4 := hidI (grown_trans HG3.out hg)
      clear hc hg
      go_wp2_with fail
      refine (IH.out hd0 q4 _ HC4.out).mono ?_
      rintro e w5 ⟨x5, q5, rfl, z5, hc, hg⟩
      have HC5 := hidI hc
      have HG5 := hidI (grown_trans HG4.out hg)
      clear hc hg
      go_wp2
      go_ret
      exact ⟨_, q5, rfl, by have y0 : (({ data := #[32] } : ByteArray)).size = 1 := rfl; simp only [ByteArray.size_append, y0]; omega, HC5.out, HG5.out⟩
    · have hdz : ¬ 0 < (d : Int) := by omega
      cases scr with
      | false =>
        go_wp2
        go_ret
        exact ⟨_, q2, rfl, by omega, HC2.out, HG2.out⟩
      | true =>
        go_wp2_with fail
        refine (l1Once_any S hS g _ 8 _ HC2.out (by omega)).mono ?_
        rintro e w3 ⟨rfl, hc, hg⟩
        obtain ⟨q3, hq⟩ : ∃ q', (bw S q2 8).2 = q' := ⟨_, rfl⟩
        rw [hq] at hc
        have HC3 := hidI hc
        have HG3 := hidI (grown_trans HG2.out hg)
        clear hc hg hq
        generalize ((bw S q2 8).1 == 0) = b
        cases b with
        | false =>
          go_wp2
          go_ret
          exact ⟨_, q3, rfl, by omega, HC3.out, HG3.out⟩
        | true =>
          go_wp2_with fail
          refine (pick_new S hS g _ 100 [{ data := #[117, 110, 100, 101, 102] }, { data := #[117, 110, 100, 101, 102, 32, 40, 32, 41] }, { data := #[97, 36, 49] }, { data := #[120, 36] }] _ HC3.out (by simp) (by simp) (by intro x hx; simp only [List.mem_cons, List.not_mem_nil, or_false] at hx; rcases hx with rfl | rfl | rfl | rfl <;> decide)).mono ?_
          rintro e w4 ⟨x4, q4, rfl, z4, hc, hg⟩
          have HC4 := hidI hc
          have HG4 := hidI (grown_trans HG3.out hg)
          clear hc hg
          go_wp2
          go_ret
          exact ⟨_, q4, rfl, by omega, HC4.out, HG4.out⟩
  · by_cases hd0 : 0 < d
    · go_wp2_with fail
      refine (IH.out hd0 q2 _ HC2.out).mono ?_
      rintro e w3 ⟨x3, q3, rfl, z3, hc, hg⟩
      have HC3 := hidI hc
      have HG3 := hidI (grown_trans HG2.out hg)
      clear hc hg
      go_wp2_with fail
      refine (pick_new S hS g _ 100 [{ data := #[43] }, { data := #[45] }, { data := #[42] }] _ HC3.out (by simp) (by simp) (by intro x hx; simp only [List.mem_cons, List.not_mem_nil, or_false] at hx; rcases hx with rfl | rfl | rfl <;> decide)).mono ?_
      rintro e w4 ⟨x4, q4, rfl, z4, hc, hg⟩
      have HC4 := hidI hc
      have HG4 := hidI (grown_trans HG3.out hg)
      clear hc hg
      go_wp2_with fail
      refine (IH.out hd0 q4 _ HC4.out).mono ?_
      rintro e w5 ⟨x5, q5, rfl, z5, hc, hg⟩
      have HC5 := hidI hc
      have HG5 := hidI (grown_trans HG4.out hg)
      clear hc hg
      go_wp2
      go_ret
      exact ⟨_, q5, rfl, by have y0 : (({ data := #[32] } : ByteArray)).size = 1 := rfl; simp only [ByteArray.size_append, y0]; omega, HC5.out, HG5.out⟩
    · have hdz : ¬ 0 < (d : Int) := by omega
      cases scr with
      | false =>
        go_wp2
        go_ret
        exact ⟨_, q2, rfl, by omega, HC2.out, HG2.out⟩
      | true =>
        go_wp2_with fail
        refine (l1Once_any S hS g _ 8 _ HC2.out (by omega)).mono ?_
        rintro e w3 ⟨rfl, hc, hg⟩
        obtain ⟨q3, hq⟩ : ∃ q', (bw S q2 8).2 = q' := ⟨_, rfl⟩
        rw [hq] at hc
        have HC3 := hidI hc
        have HG3 := hidI (grown_trans HG2.out hg)
        clear hc hg hq
        generalize ((bw S q2 8).1 == 0) = b
        cases b with
        | false =>
          go_wp2
          go_ret
          exact ⟨_, q3, rfl, by omega, HC3.out, HG3.out⟩
        | true =>
          go_wp2_with fail
          refine (pick_new S hS g _ 100 [{ data := #[117, 110, 100, 101, 102] }, { data := #[117, 110, 100, 101, 102, 32, 40, 32, 41] }, { data := #[97, 36, 49] }, { data := #[120, 36] }] _ HC3.out (by simp) (by simp) (by intro x hx; simp only [List.mem_cons, List.not_mem_nil, or_false] at hx; rcases hx with rfl | rfl | rfl | rfl <;> decide)).mono ?_
          rintro e w4 ⟨x4, q4, rfl, z4, hc, hg⟩
          have HC4 := hidI hc
          have HG4 := hidI (grown_trans HG3.out hg)
          clear hc hg
          go_wp2
          go_ret
          exact ⟨_, q4, rfl, by omega, HC4.out, HG4.out⟩
  · by_cases hd0 : 0 < d
    · go_wp2_with fail
      refine (IH.out hd0 q2 _ HC2.out).mono ?_
      rintro e w3 ⟨x3, q3, rfl, z3, hc, hg⟩
      have HC3 := hidI hc
      have HG3 := hidI (grown_trans HG2.out hg)
      clear hc hg
      go_wp2
      go_ret
      exact ⟨_, q3, rfl, by have y0 : (({ data := #[40, 32] } : ByteArray)).size = 2 := rfl; have y1 : (({ data := #[32, 41] } : ByteArray)).size = 2 := rfl; simp only [ByteArray.size_append, y0, y1]; omega, HC3.out, HG3.out⟩
    · have hdz : ¬ 0 < (d : Int) := by omega
      cases scr with
      | false =>
        go_wp2
        go_ret
        exact ⟨_, q2, rfl, by omega, HC2.out, HG2.out⟩
      | true =>
        go_wp2_with fail
        refine (l1Once_any S hS g _ 8 _ HC2.out (by omega)).mono ?_
        rintro e w3 ⟨rfl, hc, hg⟩
        obtain ⟨q3, hq⟩ : ∃ q', (bw S q2 8).2 = q' := ⟨_, rfl⟩
        rw [hq] at hc
        have HC3 := hidI hc
        have HG3 := hidI (grown_trans HG2.out hg)
        clear hc hg hq
        generalize ((bw S q2 8).1 == 0) = b
        cases b with
        | false =>
          go_wp2
          go_ret
          exact ⟨_, q3, rfl, by omega, HC3.out, HG3.out⟩
        | true =>
          go_wp2_with fail
          refine (pick_new S hS g _ 100 [{ data := #[117, 110, 100, 101, 102] }, { data := #[117, 110, 100, 101, 102, 32, 40, 32, 41] }, { data := #[97, 36, 49] }, { data := #[120, 36] }] _ HC3.out (by simp) (by simp) (by intro x hx; simp only [List.mem_cons, List.not_mem_nil, or_false] at hx; rcases hx with rfl | rfl | rfl | rfl <;> decide)).mono ?_
          rintro e w4 ⟨x4, q4, rfl, z4, hc, hg⟩
          have HC4 := hidI hc
          have HG4 := hidI (grown_trans HG3.out hg)
          clear hc hg
          go_wp2
          go_ret
          exact ⟨_, q4, rfl, by omega, HC4.out, HG4.out⟩
  · cases scr with
    | false =>
      go_wp2
      go_ret
      exact ⟨_, q2, rfl, by omega, HC2.out, HG2.out⟩
    | true =>
      go_wp2_with fail
      refine (l1Once_any S hS g _ 8 _ HC2.out (by omega)).mono ?_
      rintro e w3 ⟨rfl, hc, hg⟩
      obtain ⟨q3, hq⟩ : ∃ q', (bw S q2 8).2 = q' := ⟨_, rfl⟩
      rw [hq] at hc
      have HC3 := hidI hc
      have HG3 := hidI (grown_trans HG2.out hg)
      clear hc hg hq
      generalize ((bw S q2 8).1 == 0) = b
      cases b with
      | false =>
        go_wp2
        go_ret
        exact ⟨_, q3, rfl, by omega, HC3.out, HG3.out⟩
      | true =>
        go_wp2_with fail
        refine (pick_new S hS g _ 100 [{ data := #[117, 110, 100, 101, 102] }, { data := #[117, 110, 100, 101, 102, 32, 40, 32, 41] }, { data := #[97, 36, 49] }, { data := #[120, 36] }] _ HC3.out (by simp) (by simp) (by intro x hx; simp only [List.mem_cons, List.not_mem_nil, or_false] at hx; rcases hx with rfl | rfl | rfl | rfl <;> decide)).mono ?_
        rintro e w4 ⟨x4, q4, rfl, z4, hc, hg⟩
        have HC4 := hidI hc
        have HG4 := hidI (grown_trans HG3.out hg)
        clear hc hg
        go_wp2
        go_ret
        exact ⟨_, q4, rfl, by omega, HC4.out, HG4.out⟩
theorem l4Expr_some (S : Src) (hS : S.ok) (g : Nat) (scr : Bool) (q : Nat × Int) (w : World) (hc : CurW 201 S w g q) : Calls Try.prog 209 #[.pointer (some ⟨g, 0, none⟩), .int .i64 2, .bool scr] w (StrOut S g 770 w) := by
  have h0 : ∀ (q : Nat × Int) (w : World), CurW 201 S w g q → Calls Try.prog 209 #[.pointer (some ⟨g, 0, none⟩), .int .i64 0, .bool scr] w (StrOut S g 110 w) := fun q w hc => l4Expr_step S hS g scr 0 0 (by omega) (by omega) (fun h => absurd h (Nat.lt_irrefl 0)) q w hc
  have h1 : ∀ (q : Nat × Int) (w : World), CurW 201 S w g q → Calls Try.prog 209 #[.pointer (some ⟨g, 0, none⟩), .int .i64 1, .bool scr] w (StrOut S g 330 w) := fun q w hc => l4Expr_step S hS g scr 1 110 (by omega) (by omega) (fun _ => h0) q w hc
  exact l4Expr_step S hS g scr 2 330 (by omega) (by omega) (fun _ => h1) q w hc
end Go.Proofs.Ytdbpknmoacjodaa
namespace Go.Proofs.Ytdbpknmoacjodaa
open Go.RowKit Go.PlainAid

set_option maxRecDepth 100000 in
set_option maxHeartbeats 12800000 in
theorem l4Line_some (S : Src) (hS : S.ok) (g : Nat) (scr : Bool) (q0 : Nat × Int) (w0 : World) (hc : CurW 201 S w0 g q0) : Calls Try.prog 185 #[.pointer (some ⟨g, 0, none⟩), .bool scr] w0 (StrOut S g 1500 w0) := by
  have HC0 := hidI hc
  have HG0 : Hid (w0.grownBy w0 (some g)) := ⟨rfl, rfl, rfl, Nat.le_refl _, fun _ _ _ => rfl⟩
  clear hc
  go_enter Try.func185, Try.ntmps185
  go_wp2_with fail
  refine (pick_new S hS g _ 100 [{ data := #[97] }, { data := #[98] }, { data := #[120] }, { data := #[102] }, { data := #[103] }] _ HC0.out (by simp) (by simp) (by intro x hx; simp only [List.mem_cons, List.not_mem_nil, or_false] at hx; rcases hx with rfl | rfl | rfl | rfl | rfl <;> decide)).mono ?_
  rintro e w1 ⟨x1, q1, rfl, z1, hc, hg⟩
  have HC1 := hidI hc
  have HG1 := hidI (grown_trans HG0.out hg)
  clear hc hg
  go_wp2_with fail
  refine (l4Expr_some S hS g scr q1 _ HC1.out).mono ?_
  rintro e w2 ⟨x2, q2, rfl, z2, hc, hg⟩
  have HC2 := hidI hc
  have HG2 := hidI (grown_trans HG1.out hg)
  clear hc hg
  go_wp2_with fail
  refine (pick_new S hS g _ 100 [{ data := #[46, 47, 98] }, { data := #[46, 47, 99] }, { data := #[46, 47, 97] }, { data := #[120] }, { data := #[46, 47, 100] }] _ HC2.out (by simp) (by simp) (by intro x hx; simp only [List.mem_cons, List.not_mem_nil, or_false] at hx; rcases hx with rfl | rfl | rfl | rfl | rfl <;> decide)).mono ?_
  rintro e w3 ⟨x3, q3, rfl, z3, hc, hg⟩
  have HC3 := hidI hc
  have HG3 := hidI (grown_trans HG2.out hg)
  clear hc hg
  go_wp2_with fail
  refine (l1Below_any S hS g _ 16 _ HC3.out (by omega)).mono ?_
  rintro e w4 ⟨rfl, hc, hg⟩
  have hbd := bw_bd S q3 16 (by omega)
  obtain ⟨k4, hk⟩ : ∃ k : Nat, (bw S q3 16).1 = k := ⟨(bw S q3 16).1.toNat, by omega⟩
  obtain ⟨q4, hq⟩ : ∃ q', (bw S q3 16).2 = q' := ⟨_, rfl⟩
  rw [hk] at hbd ⊢
  rw [hq] at hc
  have HC4 := hidI hc
  have HG4 := hidI (grown_trans HG3.out hg)
  clear hc hg
  have kb4 : k4 < 16 := by omega
  clear hbd hk hq
  cases scr with
  | false =>
    rcases (show k4 = 0 ∨ k4 = 1 ∨ k4 = 2 ∨ k4 = 3 ∨ k4 = 4 ∨ k4 = 5 ∨ k4 = 6 ∨ k4 = 7 ∨ k4 = 8 ∨ k4 = 9 ∨ k4 = 10 ∨ k4 = 11 ∨ k4 = 12 ∨ k4 = 13 ∨ k4 = 14 ∨ k4 = 15 by omega) with rfl | rfl | rfl | rfl | rfl | rfl | rfl | rfl | rfl | rfl | rfl | rfl | rfl | rfl | rfl | rfl
    · go_wp2
      go_ret
      exact ⟨_, q4, rfl, by have y0 : (({ data := #[108, 101, 116, 32] } : ByteArray)).size = 4 := rfl; have y1 : (({ data := #[32, 61, 32] } : ByteArray)).size = 3 := rfl; have y2 : (({ data := #[59] } : ByteArray)).size = 1 := rfl; simp only [ByteArray.size_append, y0, y1, y2]; omega, HC4.out, HG4.out⟩
    · go_wp2
      go_ret
      exact ⟨_, q4, rfl, by have y0 : (({ data := #[108, 101, 116, 32] } : ByteArray)).size = 4 := rfl; have y1 : (({ data := #[32, 61, 32] } : ByteArray)).size = 3 := rfl; have y2 : (({ data := #[59] } : ByteArray)).size = 1 := rfl; simp only [ByteArray.size_append, y0, y1, y2]; omega, HC4.out, HG4.out⟩
    · go_wp2
      go_ret
      exact ⟨_, q4, rfl, by have y0 : (({ data := #[108, 101, 116, 32] } : ByteArray)).size = 4 := rfl; have y1 : (({ data := #[32, 61, 32] } : ByteArray)).size = 3 := rfl; have y2 : (({ data := #[59] } : ByteArray)).size = 1 := rfl; simp only [ByteArray.size_append, y0, y1, y2]; omega, HC4.out, HG4.out⟩
    · go_wp2_with fail
      refine (pick_new S hS g _ 100 [{ data := #[102] }, { data := #[103] }] _ HC4.out (by simp) (by simp) (by intro x hx; simp only [List.mem_cons, List.not_mem_nil, or_false] at hx; rcases hx with rfl | rfl <;> decide)).mono ?_
      rintro e w5 ⟨x5, q5, rfl, z5, hc, hg⟩
      have HC5 := hidI hc
      have HG5 := hidI (grown_trans HG4.out hg)
      clear hc hg
      go_wp2
      go_ret
      exact ⟨_, q5, rfl, by have y0 : (({ data := #[102, 117, 110, 99, 116, 105, 111, 110, 32] } : ByteArray)).size = 9 := rfl; have y1 : (({ data := #[40, 41, 32, 123, 32, 114, 101, 116, 117, 114, 110, 32] } : ByteArray)).size = 12 := rfl; have y2 : (({ data := #[59, 32, 125] } : ByteArray)).size = 3 := rfl; simp only [ByteArray.size_append, y0, y1, y2]; omega, HC5.out, HG5.out⟩
    · go_wp2
      go_ret
      exact ⟨_, q4, rfl, by have y0 : (({ data := #[32, 61, 32] } : ByteArray)).size = 3 := rfl; have y1 : (({ data := #[59] } : ByteArray)).size = 1 := rfl; simp only [ByteArray.size_append, y0, y1]; omega, HC4.out, HG4.out⟩
    · go_wp2
      go_ret
      exact ⟨_, q4, rfl, by have y0 : (({ data := #[112, 114, 105, 110, 116, 40] } : ByteArray)).size = 6 := rfl; have y1 : (({ data := #[41, 59] } : ByteArray)).size = 2 := rfl; simp only [ByteArray.size_append, y0, y1]; omega, HC4.out, HG4.out⟩
    · go_wp2
      go_ret
      exact ⟨_, q4, rfl, by have y0 : (({ data := #[112, 114, 105, 110, 116, 40] } : ByteArray)).size = 6 := rfl; have y1 : (({ data := #[41, 59] } : ByteArray)).size = 2 := rfl; simp only [ByteArray.size_append, y0, y1]; omega, HC4.out, HG4.out⟩
    · go_wp2
      go_ret
      exact ⟨_, q4, rfl, by have y0 : (({ data := #[116, 104, 114, 111, 119, 32] } : ByteArray)).size = 6 := rfl; have y1 : (({ data := #[59] } : ByteArray)).size = 1 := rfl; simp only [ByteArray.size_append, y0, y1]; omega, HC4.out, HG4.out⟩
    · go_wp2_with fail
      refine (pick_new S hS g _ 100 [{ data := #[] }, { data := #[32, 97, 115, 32, 120] }, { data := #[32, 97, 115, 32, 98, 44, 32, 103] }] _ HC4.out (by simp) (by simp) (by intro x hx; simp only [List.mem_cons, List.not_mem_nil, or_false] at hx; rcases hx with rfl | rfl | rfl <;> decide)).mono ?_
      rintro e w5 ⟨x5, q5, rfl, z5, hc, hg⟩
      have HC5 := hidI hc
      have HG5 := hidI (grown_trans HG4.out hg)
      clear hc hg
      go_wp2
      go_ret
      exact ⟨_, q5, rfl, by have y0 : (({ data := #[105, 109, 112, 111, 114, 116, 32, 123, 32] } : ByteArray)).size = 9 := rfl; have y1 : (({ data := #[32, 125, 32, 102, 114, 111, 109, 32, 34] } : ByteArray)).size = 9 := rfl; have y2 : (({ data := #[34, 59] } : ByteArray)).size = 2 := rfl; simp only [ByteArray.size_append, y0, y1, y2]; omega, HC5.out, HG5.out⟩
    · go_wp2
      go_ret
      exact ⟨_, q4, rfl, by have y0 : (({ data := #[105, 109, 112, 111, 114, 116, 32, 42, 32, 97, 115, 32, 110, 32, 102, 114, 111, 109, 32, 34] } : ByteArray)).size = 20 := rfl; have y1 : (({ data := #[34, 59] } : ByteArray)).size = 2 := rfl; simp only [ByteArray.size_append, y0, y1]; omega, HC4.out, HG4.out⟩
    · go_wp2
      go_ret
      exact ⟨_, q4, rfl, by have y0 : (({ data := #[105, 109, 112, 111, 114, 116, 32, 100, 32, 102, 114, 111, 109, 32, 34] } : ByteArray)).size = 15 := rfl; have y1 : (({ data := #[34, 59] } : ByteArray)).size = 2 := rfl; simp only [ByteArray.size_append, y0, y1]; omega, HC4.out, HG4.out⟩
    · go_wp2_with fail
      refine (pick_new S hS g _ 100 [{ data := #[] }, { data := #[32, 97, 115, 32, 121] }, { data := #[32, 97, 115, 32, 100, 101, 102, 97, 117, 108, 116] }] _ HC4.out (by simp) (by simp) (by intro x hx; simp only [List.mem_cons, List.not_mem_nil, or_false] at hx; rcases hx with rfl | rfl | rfl <;> decide)).mono ?_
      rintro e w5 ⟨x5, q5, rfl, z5, hc, hg⟩
      have HC5 := hidI hc
      have HG5 := hidI (grown_trans HG4.out hg)
      clear hc hg
      go_wp2
      go_ret
      exact ⟨_, q5, rfl, by have y0 : (({ data := #[101, 120, 112, 111, 114, 116, 32, 123, 32] } : ByteArray)).size = 9 := rfl; have y1 : (({ data := #[32, 125, 59] } : ByteArray)).size = 3 := rfl; simp only [ByteArray.size_append, y0, y1]; omega, HC5.out, HG5.out⟩
    · go_wp2_with fail
      refine (pick_new S hS g _ 100 [{ data := #[] }, { data := #[32, 97, 115, 32, 121] }, { data := #[44, 32, 100, 101, 102, 97, 117, 108, 116] }] _ HC4.out (by simp) (by simp) (by intro x hx; simp only [List.mem_cons, List.not_mem_nil, or_false] at hx; rcases hx with rfl | rfl | rfl <;> decide)).mono ?_
      rintro e w5 ⟨x5, q5, rfl, z5, hc, hg⟩
      have HC5 := hidI hc
      have HG5 := hidI (grown_trans HG4.out hg)
      clear hc hg
      go_wp2
      go_ret
      exact ⟨_, q5, rfl, by have y0 : (({ data := #[101, 120, 112, 111, 114, 116, 32, 123, 32] } : ByteArray)).size = 9 := rfl; have y1 : (({ data := #[32, 125, 32, 102, 114, 111, 109, 32, 34] } : ByteArray)).size = 9 := rfl; have y2 : (({ data := #[34, 59] } : ByteArray)).size = 2 := rfl; simp only [ByteArray.size_append, y0, y1, y2]; omega, HC5.out, HG5.out⟩
    · go_wp2
      go_ret
      exact ⟨_, q4, rfl, by have y0 : (({ data := #[101, 120, 112, 111, 114, 116, 32, 42, 32, 102, 114, 111, 109, 32, 34] } : ByteArray)).size = 15 := rfl; have y1 : (({ data := #[34, 59] } : ByteArray)).size = 2 := rfl; simp only [ByteArray.size_append, y0, y1]; omega, HC4.out, HG4.out⟩
    · go_wp2
      go_ret
      exact ⟨_, q4, rfl, by have y0 : (({ data := #[101, 120, 112, 111, 114, 116, 32, 100, 101, 102, 97, 117, 108, 116, 32] } : ByteArray)).size = 15 := rfl; have y1 : (({ data := #[59] } : ByteArray)).size = 1 := rfl; simp only [ByteArray.size_append, y0, y1]; omega, HC4.out, HG4.out⟩
    · go_wp2_with fail
      refine (pick_new S hS g _ 900 [({ data := #[108, 101, 116, 32] } : ByteArray) ++ x1 ++ ({ data := #[32, 61, 32] } : ByteArray) ++ x2 ++ ({ data := #[59] } : ByteArray), ({ data := #[102, 117, 110, 99, 116, 105, 111, 110, 32, 102, 40, 41, 32, 123, 32, 114, 101, 116, 117, 114, 110, 32] } : ByteArray) ++ x2 ++ ({ data := #[59, 32, 125] } : ByteArray), ({ data := #[108, 101, 116, 32, 122, 32, 61, 32, 49, 59] } : ByteArray)] _ HC4.out (by simp) (by simp) (by intro x hx; simp only [List.mem_cons, List.not_mem_nil, or_false] at hx; have y0 : (({ data := #[108, 101, 116, 32] } : ByteArray)).size = 4 := rfl; have y1 : (({ data := #[32, 61, 32] } : ByteArray)).size = 3 := rfl; have y2 : (({ data := #[59] } : ByteArray)).size = 1 := rfl; have y3 : (({ data := #[102, 117, 110, 99, 116, 105, 111, 110, 32, 102, 40, 41, 32, 123, 32, 114, 101, 116, 117, 114, 110, 32] } : ByteArray)).size = 22 := rfl; have y4 : (({ data := #[59, 32, 125] } : ByteArray)).size = 3 := rfl; have y5 : (({ data := #[108, 101, 116, 32, 122, 32, 61, 32, 49, 59] } : ByteArray)).size = 10 := rfl; rcases hx with rfl | rfl | rfl <;> simp only [ByteArray.size_append, y0, y1, y2, y3, y4, y5] <;> omega)).mono ?_
      rintro e w5 ⟨x5, q5, rfl, z5, hc, hg⟩
      have HC5 := hidI hc
      have HG5 := hidI (grown_trans HG4.out hg)
      clear hc hg
      go_wp2
      go_ret
      exact ⟨_, q5, rfl, by have y0 : (({ data := #[101, 120, 112, 111, 114, 116, 32] } : ByteArray)).size = 7 := rfl; simp only [ByteArray.size_append, y0]; omega, HC5.out, HG5.out⟩
  | true =>
    rcases (show k4 = 0 ∨ k4 = 1 ∨ k4 = 2 ∨ k4 = 3 ∨ k4 = 4 ∨ k4 = 5 ∨ k4 = 6 ∨ k4 = 7 ∨ k4 = 8 ∨ k4 = 9 ∨ k4 = 10 ∨ k4 = 11 ∨ k4 = 12 ∨ k4 = 13 ∨ k4 = 14 ∨ k4 = 15 by omega) with rfl | rfl | rfl | rfl | rfl | rfl | rfl | rfl | rfl | rfl | rfl | rfl | rfl | rfl | rfl | rfl
    · go_wp2
      go_ret
      exact ⟨_, q4, rfl, by have y0 : (({ data := #[108, 101, 116, 32] } : ByteArray)).size = 4 := rfl; have y1 : (({ data := #[32, 61, 32] } : ByteArray)).size = 3 := rfl; have y2 : (({ data := #[59] } : ByteArray)).size = 1 := rfl; simp only [ByteArray.size_append, y0, y1, y2]; omega, HC4.out, HG4.out⟩
    · go_wp2
      go_ret
      exact ⟨_, q4, rfl, by have y0 : (({ data := #[108, 101, 116, 32] } : ByteArray)).size = 4 := rfl; have y1 : (({ data := #[32, 61, 32] } : ByteArray)).size = 3 := rfl; have y2 : (({ data := #[59] } : ByteArray)).size = 1 := rfl; simp only [ByteArray.size_append, y0, y1, y2]; omega, HC4.out, HG4.out⟩
    · go_wp2
      go_ret
      exact ⟨_, q4, rfl, by have y0 : (({ data := #[108, 101, 116, 32] } : ByteArray)).size = 4 := rfl; have y1 : (({ data := #[32, 61, 32] } : ByteArray)).size = 3 := rfl; have y2 : (({ data := #[59] } : ByteArray)).size = 1 := rfl; simp only [ByteArray.size_append, y0, y1, y2]; omega, HC4.out, HG4.out⟩
    · go_wp2_with fail
      refine (pick_new S hS g _ 100 [{ data := #[102] }, { data := #[103] }] _ HC4.out (by simp) (by simp) (by intro x hx; simp only [List.mem_cons, List.not_mem_nil, or_false] at hx; rcases hx with rfl | rfl <;> decide)).mono ?_
      rintro e w5 ⟨x5, q5, rfl, z5, hc, hg⟩
      have HC5 := hidI hc
      have HG5 := hidI (grown_trans HG4.out hg)
      clear hc hg
      go_wp2
      go_ret
      exact ⟨_, q5, rfl, by have y0 : (({ data := #[102, 117, 110, 99, 116, 105, 111, 110, 32] } : ByteArray)).size = 9 := rfl; have y1 : (({ data := #[40, 41, 32, 123, 32, 114, 101, 116, 117, 114, 110, 32] } : ByteArray)).size = 12 := rfl; have y2 : (({ data := #[59, 32, 125] } : ByteArray)).size = 3 := rfl; simp only [ByteArray.size_append, y0, y1, y2]; omega, HC5.out, HG5.out⟩
    · go_wp2
      go_ret
      exact ⟨_, q4, rfl, by have y0 : (({ data := #[32, 61, 32] } : ByteArray)).size = 3 := rfl; have y1 : (({ data := #[59] } : ByteArray)).size = 1 := rfl; simp only [ByteArray.size_append, y0, y1]; omega, HC4.out, HG4.out⟩
    · go_wp2
      go_ret
      exact ⟨_, q4, rfl, by have y0 : (({ data := #[112, 114, 105, 110, 116, 40] } : ByteArray)).size = 6 := rfl; have y1 : (({ data := #[41, 59] } : ByteArray)).size = 2 := rfl; simp only [ByteArray.size_append, y0, y1]; omega, HC4.out, HG4.out⟩
    · go_wp2
      go_ret
      exact ⟨_, q4, rfl, by have y0 : (({ data := #[112, 114, 105, 110, 116, 40] } : ByteArray)).size = 6 := rfl; have y1 : (({ data := #[41, 59] } : ByteArray)).size = 2 := rfl; simp only [ByteArray.size_append, y0, y1]; omega, HC4.out, HG4.out⟩
    · go_wp2_with fail
      refine (l1Once_any S hS g _ 2 _ HC4.out (by omega)).mono ?_
      rintro e w5 ⟨rfl, hc, hg⟩
      obtain ⟨q5, hq⟩ : ∃ q', (bw S q4 2).2 = q' := ⟨_, rfl⟩
      rw [hq] at hc
      have HC5 := hidI hc
      have HG5 := hidI (grown_trans HG4.out hg)
      clear hc hg hq
      generalize ((bw S q4 2).1 == 0) = b
      cases b with
      | false =>
        go_wp2
        go_ret
        exact ⟨_, q5, rfl, by have y0 : (({ data := #[116, 104, 114, 111, 119, 32] } : ByteArray)).size = 6 := rfl; have y1 : (({ data := #[59] } : ByteArray)).size = 1 := rfl; simp only [ByteArray.size_append, y0, y1]; omega, HC5.out, HG5.out⟩
      | true =>
        go_wp2
        go_ret
        exact ⟨_, q5, rfl, by have y0 : (({ data := #[102, 97, 105, 108, 32] } : ByteArray)).size = 5 := rfl; have y1 : (({ data := #[59] } : ByteArray)).size = 1 := rfl; simp only [ByteArray.size_append, y0, y1]; omega, HC5.out, HG5.out⟩
    · go_wp2
      go_ret
      exact ⟨_, q4, rfl, by have y0 : (({ data := #[108, 101, 116, 32] } : ByteArray)).size = 4 := rfl; have y1 : (({ data := #[32, 61, 32] } : ByteArray)).size = 3 := rfl; have y2 : (({ data := #[59] } : ByteArray)).size = 1 := rfl; simp only [ByteArray.size_append, y0, y1, y2]; omega, HC4.out, HG4.out⟩
    · go_wp2
      go_ret
      exact ⟨_, q4, rfl, by have y0 : (({ data := #[108, 101, 116, 32] } : ByteArray)).size = 4 := rfl; have y1 : (({ data := #[32, 61, 32] } : ByteArray)).size = 3 := rfl; have y2 : (({ data := #[59] } : ByteArray)).size = 1 := rfl; simp only [ByteArray.size_append, y0, y1, y2]; omega, HC4.out, HG4.out⟩
    · go_wp2
      go_ret
      exact ⟨_, q4, rfl, by have y0 : (({ data := #[108, 101, 116, 32] } : ByteArray)).size = 4 := rfl; have y1 : (({ data := #[32, 61, 32] } : ByteArray)).size = 3 := rfl; have y2 : (({ data := #[59] } : ByteArray)).size = 1 := rfl; simp only [ByteArray.size_append, y0, y1, y2]; omega, HC4.out, HG4.out⟩
    · go_wp2_with fail
      refine (pick_new S hS g _ 100 [{ data := #[102] }, { data := #[103] }] _ HC4.out (by simp) (by simp) (by intro x hx; simp only [List.mem_cons, List.not_mem_nil, or_false] at hx; rcases hx with rfl | rfl <;> decide)).mono ?_
      rintro e w5 ⟨x5, q5, rfl, z5, hc, hg⟩
      have HC5 := hidI hc
      have HG5 := hidI (grown_trans HG4.out hg)
      clear hc hg
      go_wp2
      go_ret
      exact ⟨_, q5, rfl, by have y0 : (({ data := #[102, 117, 110, 99, 116, 105, 111, 110, 32] } : ByteArray)).size = 9 := rfl; have y1 : (({ data := #[40, 41, 32, 123, 32, 114, 101, 116, 117, 114, 110, 32] } : ByteArray)).size = 12 := rfl; have y2 : (({ data := #[59, 32, 125] } : ByteArray)).size = 3 := rfl; simp only [ByteArray.size_append, y0, y1, y2]; omega, HC5.out, HG5.out⟩
    · go_wp2
      go_ret
      exact ⟨_, q4, rfl, by have y0 : (({ data := #[32, 61, 32] } : ByteArray)).size = 3 := rfl; have y1 : (({ data := #[59] } : ByteArray)).size = 1 := rfl; simp only [ByteArray.size_append, y0, y1]; omega, HC4.out, HG4.out⟩
    · go_wp2
      go_ret
      exact ⟨_, q4, rfl, by have y0 : (({ data := #[112, 114, 105, 110, 116, 40] } : ByteArray)).size = 6 := rfl; have y1 : (({ data := #[41, 59] } : ByteArray)).size = 2 := rfl; simp only [ByteArray.size_append, y0, y1]; omega, HC4.out, HG4.out⟩
    · go_wp2
      go_ret
      exact ⟨_, q4, rfl, by have y0 : (({ data := #[112, 114, 105, 110, 116, 40] } : ByteArray)).size = 6 := rfl; have y1 : (({ data := #[41, 59] } : ByteArray)).size = 2 := rfl; simp only [ByteArray.size_append, y0, y1]; omega, HC4.out, HG4.out⟩
    · go_wp2_with fail
      refine (l1Once_any S hS g _ 2 _ HC4.out (by omega)).mono ?_
      rintro e w5 ⟨rfl, hc, hg⟩
      obtain ⟨q5, hq⟩ : ∃ q', (bw S q4 2).2 = q' := ⟨_, rfl⟩
      rw [hq] at hc
      have HC5 := hidI hc
      have HG5 := hidI (grown_trans HG4.out hg)
      clear hc hg hq
      generalize ((bw S q4 2).1 == 0) = b
      cases b with
      | false =>
        go_wp2
        go_ret
        exact ⟨_, q5, rfl, by have y0 : (({ data := #[116, 104, 114, 111, 119, 32] } : ByteArray)).size = 6 := rfl; have y1 : (({ data := #[59] } : ByteArray)).size = 1 := rfl; simp only [ByteArray.size_append, y0, y1]; omega, HC5.out, HG5.out⟩
      | true =>
        go_wp2
        go_ret
        exact ⟨_, q5, rfl, by have y0 : (({ data := #[102, 97, 105, 108, 32] } : ByteArray)).size = 5 := rfl; have y1 : (({ data := #[59] } : ByteArray)).size = 1 := rfl; simp only [ByteArray.size_append, y0, y1]; omega, HC5.out, HG5.out⟩
end Go.Proofs.Ytdbpknmoacjodaa
