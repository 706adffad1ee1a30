/-
  Plain facts on texts as lists of numbers. No program is spoken of.
  Tokens of a text, as plain relations: where a run of bytes ends, which token stands at a place, what is passed over, and that each of these is one alone. No program is spoken of.
  Programs, as plain functions: what a row of tokens means. No program is spoken of.
-/
import Derived.Lib.Strings
import Derived.Test.YticdggnnpjachaaGreatCaStr
namespace Go.Proofs.YticdggnnpjachaaGreat
open Go.RowKit Go.PlainAid

theorem strOfNums_back (l : List Int) (h : ∀ x ∈ l, 0 ≤ x ∧ x ≤ 255) : (strOfNums l).data.toList.map (fun b => (b.toNat : Int)) = l := by
  rw [strOfNums_data, List.map_map]
  conv => rhs; rw [← List.map_id l]
  apply List.map_congr_left
  intro x hx
  have := h x hx
  simp only [Function.comp, id, UInt8.toNat_ofNat']
  omega
theorem strOfNums_inj {a b : List Int} (ha : ∀ x ∈ a, 0 ≤ x ∧ x ≤ 255) (hb : ∀ x ∈ b, 0 ≤ x ∧ x ≤ 255) (h : strOfNums a = strOfNums b) : a = b := by
  rw [← strOfNums_back a ha, ← strOfNums_back b hb, h]

def bsl (s : ByteArray) : Nat → Nat → List Int
  | _, 0 => []
  | i, m + 1 => bt s i :: bsl s (i + 1) m
theorem bsl_length (s : ByteArray) (i m : Nat) : (bsl s i m).length = m := by
  induction m generalizing i with
  | zero => rfl
  | succ m ih => simp [bsl, ih]
theorem bsl_bd (s : ByteArray) (i m : Nat) : ∀ x ∈ bsl s i m, 0 ≤ x ∧ x ≤ 255 := by
  induction m generalizing i with
  | zero => simp [bsl]
  | succ m ih =>
    intro x hx
    simp only [bsl, List.mem_cons] at hx
    rcases hx with rfl | hx
    · exact ⟨bt_nonneg s i, bt_le s i⟩
    · exact ih (i + 1) x hx
theorem ofNat_bt (s : ByteArray) (i : Nat) (h : i < s.data.toList.length) : UInt8.ofNat (bt s i).toNat = s.data.toList[i] := by
  have hs : i < s.size := by simpa using h
  rw [← get_bt s i hs, Int.toNat_natCast, UInt8.ofNat_toNat]
  rfl
theorem bsl_data (s : ByteArray) (i m : Nat) (h : i + m ≤ s.size) : (bsl s i m).map (fun n => UInt8.ofNat n.toNat) = (s.data.toList.drop i).take m := by
  induction m generalizing i with
  | zero => simp [bsl]
  | succ m ih =>
    have hl : i < s.data.toList.length := by rw [Array.length_toList]; exact Nat.lt_of_lt_of_le (show i < i + (m + 1) by omega) h
    rw [bsl, List.map_cons, ih (i + 1) (by omega), List.drop_eq_getElem_cons hl, List.take_succ_cons, ofNat_bt s i hl]
theorem extract_bsl (s : ByteArray) (k : Nat) (h : k ≤ s.size) : s.extract 0 k = strOfNums (bsl s 0 k) := by
  have e : (s.extract 0 k).data.toList = (strOfNums (bsl s 0 k)).data.toList := by
    rw [Lib.extract_data, strOfNums_data, bsl_data s 0 k (by omega), Nat.sub_zero]
  have e2 : (s.extract 0 k).data = (strOfNums (bsl s 0 k)).data := by
    rw [← Array.toArray_toList (xs := (s.extract 0 k).data), e, Array.toArray_toList]
  have cl : ∀ a b : ByteArray, a.data = b.data → a = b := by rintro ⟨a⟩ ⟨b⟩ h; cases h; rfl
  exact cl _ _ e2
theorem bytes_ext {a b : ByteArray} (h : a.data.toList = b.data.toList) : a = b := by
  obtain ⟨⟨a⟩⟩ := a
  obtain ⟨⟨b⟩⟩ := b
  simp only at h
  rw [h]
theorem toList_eq_iff (a b : ByteArray) : (a.toList == b.toList) = true ↔ a = b := by
  rw [beq_iff_eq, Lib.toList_data, Lib.toList_data]
  exact ⟨bytes_ext, fun h => by rw [h]⟩
theorem toList_ne {a b : ByteArray} (h : a ≠ b) : (a.toList == b.toList) = false := by
  rw [Bool.eq_false_iff]
  exact fun k => h ((toList_eq_iff a b).1 k)
theorem bsl_snoc (s : ByteArray) (i m : Nat) : bsl s i (m + 1) = bsl s i m ++ [bt s (i + m)] := by
  induction m generalizing i with
  | zero => simp [bsl]
  | succ m ih =>
    rw [bsl, ih (i + 1), bsl, show i + 1 + m = i + (m + 1) from by omega]
    rfl
theorem bsl_at (s : ByteArray) (i m k : Nat) (h : k < m) : (bsl s i m)[k]? = some (bt s (i + k)) := by
  induction m generalizing i k with
  | zero => omega
  | succ m ih =>
    match k with
    | 0 => simp [bsl]
    | k + 1 => rw [bsl, List.getElem?_cons_succ, ih (i + 1) k (by omega), show i + 1 + k = i + (k + 1) from by omega]
theorem all_bsl (s : ByteArray) : s = strOfNums (bsl s 0 s.size) := by
  rw [← extract_bsl s s.size (Nat.le_refl _)]
  refine bytes_ext ?_
  rw [Lib.extract_data, List.drop_zero, Nat.sub_zero, List.take_of_length_le]
  rw [Array.length_toList]
  exact Nat.le_refl _
theorem bt_list (s : ByteArray) (k : Nat) : bt s k = (s.data.toList.map (fun b => (b.toNat : Int))).getD k 0 := by
  unfold bt
  by_cases h : k < s.size
  · rw [dif_pos h]
    have hl : k < s.data.toList.length := by rw [Array.length_toList]; exact h
    simp only [List.getD, List.getElem?_map, List.getElem?_eq_getElem hl, Option.map_some, Option.getD_some]
    rfl
  · rw [dif_neg h]
    have hl : s.data.toList.length ≤ k := by rw [Array.length_toList]; exact Nat.le_of_not_lt h
    simp [List.getD, List.getElem?_eq_none hl]
theorem append_list (a b : ByteArray) : (a ++ b).data.toList = a.data.toList ++ b.data.toList := by
  obtain ⟨⟨a⟩⟩ := a
  obtain ⟨⟨b⟩⟩ := b
  rw [ByteArray.mk_append_mk]
end Go.Proofs.YticdggnnpjachaaGreat
namespace Go.Proofs.YticdggnnpjachaaGreat
open Go.RowKit Go.PlainAid

def letB (c : Int) (scr : Bool) : Bool := decide (97 ≤ c ∧ c ≤ 122) || decide (65 ≤ c ∧ c ≤ 90) || decide (c = 95) || (scr && decide (c = 36))
def digB (c : Int) : Bool := decide (48 ≤ c ∧ c ≤ 57)
def worB (scr : Bool) (c : Int) : Bool := letB c scr || digB c
def notNl (c : Int) : Bool := decide (c ≠ 10)
abbrev Blank (c : Int) : Prop := c = 9 ∨ c = 10 ∨ c = 13 ∨ c = 32
abbrev Sign (c : Int) : Prop := c = 123 ∨ c = 125 ∨ c = 40 ∨ c = 41 ∨ c = 44 ∨ c = 59 ∨ c = 61 ∨ c = 46 ∨ c = 42 ∨ c = 43 ∨ c = 45
abbrev InStr (c : Int) : Prop := 32 ≤ c ∧ c ≤ 126 ∧ c ≠ 34 ∧ c ≠ 92
theorem letB_iff {c : Int} {scr : Bool} : letB c scr = true ↔ (97 ≤ c ∧ c ≤ 122) ∨ (65 ≤ c ∧ c ≤ 90) ∨ c = 95 ∨ (scr = true ∧ c = 36) := by simp [letB, or_assoc]
theorem digB_iff {c : Int} : digB c = true ↔ 48 ≤ c ∧ c ≤ 57 := by simp [digB]

def RunEnd (p : Int → Bool) (s : ByteArray) (a e : Nat) : Prop := a ≤ e ∧ e ≤ s.size ∧ (∀ j, a ≤ j → j < e → p (bt s j) = true) ∧ (e < s.size → p (bt s e) = false)
theorem runEnd_one {p : Int → Bool} {s : ByteArray} {a e1 e2 : Nat} (h1 : RunEnd p s a e1) (h2 : RunEnd p s a e2) : e1 = e2 := by
  obtain ⟨a1, b1, c1, d1⟩ := h1
  obtain ⟨a2, b2, c2, d2⟩ := h2
  rcases Nat.lt_trichotomy e1 e2 with h | h | h
  · have := c2 e1 a1 h
    rw [d1 (by omega)] at this
    cases this
  · exact h
  · have := c1 e2 a2 h
    rw [d2 (by omega)] at this
    cases this
def dval (s : ByteArray) (a : Nat) : Nat → Int
  | 0 => 0
  | k + 1 => dval s a k * 10 + (bt s (a + k) - 48)
def NumAt (s : ByteArray) (a : Nat) (scr : Bool) (n : Int) (e : Nat) : Prop :=
  RunEnd digB s a e ∧ a < e ∧ (e = a + 1 ∨ bt s a ≠ 48) ∧ n = dval s a (e - a) ∧ n ≤ 1000000 ∧ (e < s.size → letB (bt s e) scr = false)
theorem numAt_one {s : ByteArray} {a : Nat} {scr : Bool} {n1 n2 : Int} {e1 e2 : Nat} (h1 : NumAt s a scr n1 e1) (h2 : NumAt s a scr n2 e2) : n1 = n2 ∧ e1 = e2 := by
  have he := runEnd_one h1.1 h2.1
  subst he
  exact ⟨h1.2.2.2.1.trans h2.2.2.2.1.symm, rfl⟩
theorem dval_mono {s : ByteArray} {a : Nat} (k m : Nat) (hd : ∀ j, j < m → 48 ≤ bt s (a + j)) (hk : k ≤ m) : 0 ≤ dval s a k ∧ dval s a k ≤ dval s a m := by
  have h0 : ∀ m, (∀ j, j < m → 48 ≤ bt s (a + j)) → 0 ≤ dval s a m := by
    intro m
    induction m with
    | zero => intro _; exact Int.le_refl _
    | succ m ih =>
      intro h
      have h1 := ih (fun j hj => h j (by omega))
      have h2 := h m (by omega)
      show 0 ≤ dval s a m * 10 + (bt s (a + m) - 48)
      omega
  induction m with
  | zero =>
    obtain rfl : k = 0 := by omega
    exact ⟨Int.le_refl _, Int.le_refl _⟩
  | succ m ih =>
    by_cases e : k = m + 1
    · subst e
      exact ⟨h0 _ hd, Int.le_refl _⟩
    · obtain ⟨h1, h2⟩ := ih (fun j hj => hd j (by omega)) (by omega)
      have h3 := hd m (by omega)
      refine ⟨h1, ?_⟩
      show _ ≤ dval s a m * 10 + (bt s (a + m) - 48)
      omega
def StrAt (s : ByteArray) (a e : Nat) : Prop := a + 2 ≤ e ∧ e ≤ s.size ∧ e ≤ a + 42 ∧ bt s (e - 1) = 34 ∧ ∀ j, a < j → j + 1 < e → InStr (bt s j)
theorem strAt_one {s : ByteArray} {a e1 e2 : Nat} (h1 : StrAt s a e1) (h2 : StrAt s a e2) : e1 = e2 := by
  obtain ⟨a1, b1, c1, d1, f1⟩ := h1
  obtain ⟨a2, b2, c2, d2, f2⟩ := h2
  rcases Nat.lt_trichotomy e1 e2 with h | h | h
  · exact absurd d1 (f2 (e1 - 1) (by omega) (by omega)).2.2.1
  · exact h
  · exact absurd d2 (f1 (e2 - 1) (by omega) (by omega)).2.2.1

structure Tk where
  kind : Int
  text : ByteArray
  num : Int
  pos : Nat
def Tok (s : ByteArray) (scr : Bool) (a : Nat) (t : Tk) (e : Nat) : Prop :=
  (letB (bt s a) scr = true ∧ RunEnd (worB scr) s a e ∧ t = ⟨1, s.extract a e, 0, a⟩) ∨ (∃ n, digB (bt s a) = true ∧ NumAt s a scr n e ∧ t = ⟨2, { data := #[] }, n, a⟩) ∨ (bt s a = 34 ∧ StrAt s a e ∧ t = ⟨3, s.extract (a + 1) (e - 1), 0, a⟩) ∨ (Sign (bt s a) ∧ t = ⟨4, s.extract a (a + 1), 0, a⟩ ∧ e = a + 1)
theorem Tok.name {s : ByteArray} {scr : Bool} {a e : Nat} (h : letB (bt s a) scr = true) (he : RunEnd (worB scr) s a e) : Tok s scr a ⟨1, s.extract a e, 0, a⟩ e := .inl ⟨h, he, rfl⟩
theorem Tok.num {s : ByteArray} {scr : Bool} {a e : Nat} {n : Int} (h : digB (bt s a) = true) (he : NumAt s a scr n e) : Tok s scr a ⟨2, { data := #[] }, n, a⟩ e := .inr (.inl ⟨n, h, he, rfl⟩)
theorem Tok.str {s : ByteArray} {scr : Bool} {a e : Nat} (h : bt s a = 34) (he : StrAt s a e) : Tok s scr a ⟨3, s.extract (a + 1) (e - 1), 0, a⟩ e := .inr (.inr (.inl ⟨h, he, rfl⟩))
theorem Tok.sign {s : ByteArray} {scr : Bool} {a : Nat} (h : Sign (bt s a)) : Tok s scr a ⟨4, s.extract a (a + 1), 0, a⟩ (a + 1) := .inr (.inr (.inr ⟨h, rfl, rfl⟩))
theorem Tok.elim {s : ByteArray} {scr : Bool} {a : Nat} {motive : (t : Tk) → (e : Nat) → Tok s scr a t e → Prop} {t : Tk} {e : Nat} (h : Tok s scr a t e) (name : ∀ {e : Nat} (h : letB (bt s a) scr = true) (he : RunEnd (worB scr) s a e), motive _ e (.name h he)) (num : ∀ {n : Int} {e : Nat} (h : digB (bt s a) = true) (he : NumAt s a scr n e), motive _ e (.num h he)) (str : ∀ {e : Nat} (h : bt s a = 34) (he : StrAt s a e), motive _ e (.str h he)) (sign : ∀ (h : Sign (bt s a)), motive _ _ (.sign h)) : motive t e h := by
  rcases h with ⟨h1, h2, rfl⟩ | ⟨n, h1, h2, rfl⟩ | ⟨h1, h2, rfl⟩ | ⟨h1, rfl, rfl⟩
  · exact name h1 h2
  · exact num h1 h2
  · exact str h1 h2
  · exact sign h1
theorem let_dig {c : Int} {scr : Bool} (h : letB c scr = true) : digB c = false ∧ c ≠ 34 ∧ ¬ Sign c := by
  rw [letB_iff] at h
  refine ⟨decide_eq_false (by omega), by omega, by unfold Sign; omega⟩
theorem dig_str {c : Int} (h : digB c = true) : c ≠ 34 ∧ ¬ Sign c := by
  rw [digB_iff] at h
  exact ⟨by omega, by unfold Sign; omega⟩
theorem tok_one {s : ByteArray} {scr : Bool} {a : Nat} {t1 t2 : Tk} {e1 e2 : Nat} (h1 : Tok s scr a t1 e1) (h2 : Tok s scr a t2 e2) : t1 = t2 ∧ e1 = e2 := by
  cases h1 using Tok.elim with
  | name h he =>
    have hd := let_dig h
    cases h2 using Tok.elim with
    | name h' he' => have := runEnd_one he he'; subst this; exact ⟨rfl, rfl⟩
    | num h' he' => rw [hd.1] at h'; cases h'
    | str h' he' => exact absurd h' hd.2.1
    | sign h' => exact absurd h' hd.2.2
  | num h he =>
    have hd := dig_str h
    cases h2 using Tok.elim with
    | name h' he' => rw [(let_dig h').1] at h; cases h
    | num h' he' => obtain ⟨rfl, rfl⟩ := numAt_one he he'; exact ⟨rfl, rfl⟩
    | str h' he' => exact absurd h' hd.1
    | sign h' => exact absurd h' hd.2
  | str h he =>
    cases h2 using Tok.elim with
    | name h' he' => exact absurd h (let_dig h').2.1
    | num h' he' => exact absurd h (dig_str h').1
    | str h' he' => have := strAt_one he he'; subst this; exact ⟨rfl, rfl⟩
    | sign h' => rw [h] at h'; unfold Sign at h'; omega
  | sign h =>
    cases h2 using Tok.elim with
    | name h' he' => exact absurd h (let_dig h').2.2
    | num h' he' => exact absurd h (dig_str h').2
    | str h' he' => rw [h'] at h; unfold Sign at h; omega
    | sign h' => exact ⟨rfl, rfl⟩
theorem tok_end {s : ByteArray} {scr : Bool} {a : Nat} {t : Tk} {e : Nat} (ha : a < s.size) (h : Tok s scr a t e) : a < e ∧ e ≤ s.size ∧ t.pos = a := by
  cases h using Tok.elim with
  | name h he =>
    refine ⟨?_, he.2.1, rfl⟩
    rcases Nat.lt_or_ge a e with k | k
    · exact k
    · have e1 : e = a := by have := he.1; omega
      subst e1
      have := he.2.2.2 ha
      simp [worB, h] at this
  | num h he => exact ⟨he.2.1, he.1.2.1, rfl⟩
  | str h he => exact ⟨by have := he.1; omega, he.2.1, rfl⟩
  | sign h => exact ⟨by omega, by omega, rfl⟩

abbrev Slashes (s : ByteArray) (a : Nat) : Prop := bt s a = 47 ∧ a + 1 < s.size ∧ bt s (a + 1) = 47
def SkipK (s : ByteArray) (P : Nat → Nat → Prop) : Prop := P s.size s.size ∧ (∀ a, a < s.size → ¬ Blank (bt s a) → ¬ Slashes s a → P a a) ∧ (∀ a b, a < s.size → Blank (bt s a) → P (a + 1) b → P a b) ∧ ∀ a c b, a < s.size → Slashes s a → RunEnd notNl s a c → P c b → P a b
def Skip (s : ByteArray) (a b : Nat) : Prop := ∀ P, SkipK s P → P a b
theorem Skip.done {s : ByteArray} : Skip s s.size s.size := fun _ k => k.1
theorem Skip.stop {s : ByteArray} {a : Nat} (h : a < s.size) (h1 : ¬ Blank (bt s a)) (h2 : ¬ Slashes s a) : Skip s a a := fun _ k => k.2.1 a h h1 h2
theorem Skip.blank {s : ByteArray} {a b : Nat} (h : a < s.size) (h1 : Blank (bt s a)) (r : Skip s (a + 1) b) : Skip s a b := fun P k => k.2.2.1 a b h h1 (r P k)
theorem Skip.comment {s : ByteArray} {a c b : Nat} (h : a < s.size) (h1 : Slashes s a) (hc : RunEnd notNl s a c) (r : Skip s c b) : Skip s a b := fun P k => k.2.2.2 a c b h h1 hc (r P k)
theorem Skip.ind {s : ByteArray} {motive : (a b : Nat) → Skip s a b → Prop} {a b : Nat} (h : Skip s a b) (done : motive _ _ .done) (stop : ∀ {a : Nat} (h : a < s.size) (h1 : ¬ Blank (bt s a)) (h2 : ¬ Slashes s a), motive a a (.stop h h1 h2)) (blank : ∀ {a b : Nat} (h : a < s.size) (h1 : Blank (bt s a)) (r : Skip s (a + 1) b), motive _ _ r → motive a b (.blank h h1 r)) (comment : ∀ {a c b : Nat} (h : a < s.size) (h1 : Slashes s a) (hc : RunEnd notNl s a c) (r : Skip s c b), motive _ _ r → motive a b (.comment h h1 hc r)) : motive a b h :=
  (h (fun a b => ∃ k, motive a b k) ⟨⟨_, done⟩, fun _ h h1 h2 => ⟨_, stop h h1 h2⟩, fun _ _ h h1 ⟨r, k⟩ => ⟨_, blank h h1 r k⟩, fun _ _ _ h h1 hc ⟨r, k⟩ => ⟨_, comment h h1 hc r k⟩⟩).2
theorem Skip.elim {s : ByteArray} {motive : (a b : Nat) → Skip s a b → Prop} {a b : Nat} (h : Skip s a b) (done : motive _ _ .done) (stop : ∀ {a : Nat} (h : a < s.size) (h1 : ¬ Blank (bt s a)) (h2 : ¬ Slashes s a), motive a a (.stop h h1 h2)) (blank : ∀ {a b : Nat} (h : a < s.size) (h1 : Blank (bt s a)) (r : Skip s (a + 1) b), motive a b (.blank h h1 r)) (comment : ∀ {a c b : Nat} (h : a < s.size) (h1 : Slashes s a) (hc : RunEnd notNl s a c) (r : Skip s c b), motive a b (.comment h h1 hc r)) : motive a b h :=
  h.ind done stop (fun h h1 r _ => blank h h1 r) (fun h h1 hc r _ => comment h h1 hc r)
theorem slash_blank {s : ByteArray} {a : Nat} (h : Slashes s a) : ¬ Blank (bt s a) := by rw [h.1]; unfold Blank; omega
theorem skip_one {s : ByteArray} {a b1 b2 : Nat} (h1 : Skip s a b1) : Skip s a b2 → b1 = b2 := by
  induction h1 using Skip.ind with
  | done =>
    intro h2
    generalize hx : s.size = x at h2
    cases h2 using Skip.elim with
    | done => rfl
    | stop h _ _ => omega
    | blank h _ _ => omega
    | comment h _ _ _ => omega
  | stop h k1 k2 =>
    intro h2
    cases h2 using Skip.elim with
    | done => rfl
    | stop _ _ _ => rfl
    | blank _ k _ => exact absurd k k1
    | comment _ k _ _ => exact absurd k k2
  | blank h k _ ih =>
    intro h2
    cases h2 using Skip.elim with
    | done => exact absurd h (Nat.lt_irrefl _)
    | stop _ k1 _ => exact absurd k k1
    | blank _ _ r => exact ih r
    | comment _ k1 _ _ => exact absurd k (slash_blank k1)
  | comment h k hc _ ih =>
    intro h2
    cases h2 using Skip.elim with
    | done => exact absurd h (Nat.lt_irrefl _)
    | stop _ _ k2 => exact absurd k k2
    | blank _ k1 _ => exact absurd k1 (slash_blank k)
    | comment _ _ hc' r => have := runEnd_one hc hc'; subst this; exact ih r
theorem skip_bd {s : ByteArray} {a b : Nat} (h : Skip s a b) : a ≤ b ∧ b ≤ s.size := by
  induction h using Skip.ind with
  | done => exact ⟨Nat.le_refl _, Nat.le_refl _⟩
  | stop h _ _ => exact ⟨Nat.le_refl _, by omega⟩
  | blank h _ _ ih => exact ⟨by omega, ih.2⟩
  | comment h _ hc _ ih => exact ⟨by have := hc.1; omega, ih.2⟩

def LxK (s : ByteArray) (scr : Bool) (P : Nat → Nat → Except Nat (List Tk) → Prop) : Prop := (∀ n, P s.size n (.ok [])) ∧ (∀ a n, a < s.size → (4000 ≤ n ∨ ∀ t e, ¬ Tok s scr a t e) → P a n (.error a)) ∧ ∀ a n e b t r, a < s.size → n < 4000 → Tok s scr a t e → Skip s e b → P b (n + 1) r → P a n (r.map (t :: ·))
def Lx (s : ByteArray) (scr : Bool) (a n : Nat) (r : Except Nat (List Tk)) : Prop := ∀ P, LxK s scr P → P a n r
theorem Lx.done {s : ByteArray} {scr : Bool} {n : Nat} : Lx s scr s.size n (.ok []) := fun _ k => k.1 n
theorem Lx.bad {s : ByteArray} {scr : Bool} {a n : Nat} (h : a < s.size) (h1 : 4000 ≤ n ∨ ∀ t e, ¬ Tok s scr a t e) : Lx s scr a n (.error a) := fun _ k => k.2.1 a n h h1
theorem Lx.tok {s : ByteArray} {scr : Bool} {a n e b : Nat} {t : Tk} {r : Except Nat (List Tk)} (h : a < s.size) (hn : n < 4000) (ht : Tok s scr a t e) (hs : Skip s e b) (hr : Lx s scr b (n + 1) r) : Lx s scr a n (r.map (t :: ·)) := fun P k => k.2.2 a n e b t r h hn ht hs (hr P k)
theorem Lx.ind {s : ByteArray} {scr : Bool} {motive : (a n : Nat) → (r : Except Nat (List Tk)) → Lx s scr a n r → Prop} {a n : Nat} {r : Except Nat (List Tk)} (h : Lx s scr a n r) (done : ∀ {n : Nat}, motive _ n _ .done) (bad : ∀ {a n : Nat} (h : a < s.size) (h1 : 4000 ≤ n ∨ ∀ t e, ¬ Tok s scr a t e), motive a n _ (.bad h h1)) (tok : ∀ {a n e b : Nat} {t : Tk} {r : Except Nat (List Tk)} (h : a < s.size) (hn : n < 4000) (ht : Tok s scr a t e) (hs : Skip s e b) (hr : Lx s scr b (n + 1) r), motive _ _ _ hr → motive a n _ (.tok h hn ht hs hr)) : motive a n r h :=
  (h (fun a n r => ∃ k, motive a n r k) ⟨fun _ => ⟨_, done⟩, fun _ _ h h1 => ⟨_, bad h h1⟩, fun _ _ _ _ _ _ h hn ht hs ⟨hr, k⟩ => ⟨_, tok h hn ht hs hr k⟩⟩).2
theorem Lx.elim {s : ByteArray} {scr : Bool} {motive : (a n : Nat) → (r : Except Nat (List Tk)) → Lx s scr a n r → Prop} {a n : Nat} {r : Except Nat (List Tk)} (h : Lx s scr a n r) (done : ∀ {n : Nat}, motive _ n _ .done) (bad : ∀ {a n : Nat} (h : a < s.size) (h1 : 4000 ≤ n ∨ ∀ t e, ¬ Tok s scr a t e), motive a n _ (.bad h h1)) (tok : ∀ {a n e b : Nat} {t : Tk} {r : Except Nat (List Tk)} (h : a < s.size) (hn : n < 4000) (ht : Tok s scr a t e) (hs : Skip s e b) (hr : Lx s scr b (n + 1) r), motive a n _ (.tok h hn ht hs hr)) : motive a n r h :=
  h.ind done bad (fun h hn ht hs hr _ => tok h hn ht hs hr)
theorem lx_one {s : ByteArray} {scr : Bool} {a n : Nat} {r1 r2 : Except Nat (List Tk)} (h1 : Lx s scr a n r1) : Lx s scr a n r2 → r1 = r2 := by
  induction h1 using Lx.ind generalizing r2 with
  | done =>
    intro h2
    generalize hx : s.size = x at h2
    cases h2 using Lx.elim with
    | done => rfl
    | bad h _ => omega
    | tok h _ _ _ _ => omega
  | bad h k =>
    intro h2
    cases h2 using Lx.elim with
    | done => exact absurd h (Nat.lt_irrefl _)
    | bad _ _ => rfl
    | tok _ hn ht _ _ => exact k.elim (fun k => by omega) fun k => absurd ht (k _ _)
  | tok h hn ht hs _ ih =>
    intro h2
    cases h2 using Lx.elim with
    | done => exact absurd h (Nat.lt_irrefl _)
    | bad _ k => exact k.elim (fun k => by omega) fun k => absurd ht (k _ _)
    | tok _ _ ht' hs' r =>
      obtain ⟨rfl, rfl⟩ := tok_one ht ht'
      have := skip_one hs hs'
      subst this
      rw [ih r]
def LexR (s : ByteArray) (scr : Bool) (r : Except Nat (List Tk)) : Prop := ∃ a, Skip s 0 a ∧ Lx s scr a 0 r
theorem lexR_one {s : ByteArray} {scr : Bool} {r1 r2 : Except Nat (List Tk)} (h1 : LexR s scr r1) (h2 : LexR s scr r2) : r1 = r2 := by
  obtain ⟨a, s1, l1⟩ := h1
  obtain ⟨b, s2, l2⟩ := h2
  have := skip_one s1 s2
  subst this
  exact lx_one l1 l2
end Go.Proofs.YticdggnnpjachaaGreat
namespace Go.Proofs.YticdggnnpjachaaGreat
open Go.RowKit Go.PlainAid

structure Ex where
  kind : Int
  num : Int
  name : ByteArray
  field : ByteArray
  l : Int
  r : Int
structure Sm where
  kind : Int
  name : ByteArray
  expr : Int
structure Im where
  spec : ByteArray
  first : ByteArray
  loc : ByteArray
structure Ep where
  kind : Int
  name : ByteArray
  loc : ByteArray
  spec : ByteArray
structure Cx where
  ts : List Tk
  fin : Nat
  scr : Bool
structure PS where
  pos : Nat
  rq : List ByteArray
  im : List Im
  ep : List Ep
  st : List Sm
  ex : List Ex
  la : List Ep
abbrev PR := Except Nat PS

abbrev sNone : ByteArray := { data := #[] }
abbrev sImport : ByteArray := { data := #[105, 109, 112, 111, 114, 116] }
abbrev sExport : ByteArray := { data := #[101, 120, 112, 111, 114, 116] }
abbrev sDefault : ByteArray := { data := #[100, 101, 102, 97, 117, 108, 116] }
abbrev sLet : ByteArray := { data := #[108, 101, 116] }
abbrev sFunction : ByteArray := { data := #[102, 117, 110, 99, 116, 105, 111, 110] }
abbrev sReturn : ByteArray := { data := #[114, 101, 116, 117, 114, 110] }
abbrev sPrint : ByteArray := { data := #[112, 114, 105, 110, 116] }
abbrev sThrow : ByteArray := { data := #[116, 104, 114, 111, 119] }
abbrev sFail : ByteArray := { data := #[102, 97, 105, 108] }
abbrev sUndef : ByteArray := { data := #[117, 110, 100, 101, 102] }
abbrev sAs : ByteArray := { data := #[97, 115] }
abbrev sFrom : ByteArray := { data := #[102, 114, 111, 109] }
abbrev sDefName : ByteArray := { data := #[42, 100, 101, 102, 97, 117, 108, 116] }
abbrev cOpen : ByteArray := { data := #[40] }
abbrev cShut : ByteArray := { data := #[41] }
abbrev cStar : ByteArray := { data := #[42] }
abbrev cPlus : ByteArray := { data := #[43] }
abbrev cComma : ByteArray := { data := #[44] }
abbrev cMinus : ByteArray := { data := #[45] }
abbrev cPoint : ByteArray := { data := #[46] }
abbrev cSemi : ByteArray := { data := #[59] }
abbrev cEq : ByteArray := { data := #[61] }
abbrev cLeft : ByteArray := { data := #[123] }
abbrev cRight : ByteArray := { data := #[125] }

def bd {α β : Type} (x : Except Nat α) (f : α → Except Nat β) : Except Nat β :=
  match x with
  | .ok a => f a
  | .error e => .error e
theorem bd_ok {α β : Type} (a : α) (f : α → Except Nat β) : bd (.ok a) f = f a := rfl
theorem bd_error {α β : Type} (e : Nat) (f : α → Except Nat β) : bd (.error e) f = .error e := rfl
theorem bd_bd {α β γ : Type} (x : Except Nat α) (f : α → Except Nat β) (g : β → Except Nat γ) : bd (bd x f) g = bd x fun a => bd (f a) g := by cases x <;> rfl
theorem bd_congr {α β : Type} {x : Except Nat α} {f g : α → Except Nat β} (h : ∀ a, x = .ok a → f a = g a) : bd x f = bd x g := by
  cases x with
  | ok a => exact h a rfl
  | error e => rfl
theorem bd_eq_ok {α β : Type} {x : Except Nat α} {f : α → Except Nat β} {b : β} (h : bd x f = .ok b) : ∃ a, x = .ok a ∧ f a = .ok b := by
  cases x with
  | ok a => exact ⟨a, rfl, h⟩
  | error e => cases h

def tokAt (C : Cx) (i : Nat) : Tk := C.ts.getD i ⟨0, sNone, 0, C.fin⟩
def here (C : Cx) (i : Nat) : Nat := (tokAt C i).pos
def isT (C : Cx) (i : Nat) (k : Int) (x : ByteArray) : Bool := ((tokAt C i).kind == k) && ((tokAt C i).text.toList == x.toList)
def adv (q : PS) : PS := { q with pos := q.pos + 1 }
def tokP (C : Cx) (k : Int) (x : ByteArray) (q : PS) : PR := if isT C q.pos k x then .ok (adv q) else .error (here C q.pos)
def resB (x : ByteArray) (scr : Bool) : Bool :=
  x.toList == [105, 109, 112, 111, 114, 116] || x.toList == [101, 120, 112, 111, 114, 116] || x.toList == [100, 101, 102, 97, 117, 108, 116] || x.toList == [108, 101, 116] || x.toList == [102, 117, 110, 99, 116, 105, 111, 110] || x.toList == [114, 101, 116, 117, 114, 110] || x.toList == [112, 114, 105, 110, 116] || x.toList == [116, 104, 114, 111, 119]
    || ((x.toList == [102, 97, 105, 108] || x.toList == [117, 110, 100, 101, 102]) && scr)
def plainB (C : Cx) (i : Nat) (o : Bool) : Bool := ((tokAt C i).kind == 1) && (!resB (tokAt C i).text C.scr || (o && ((tokAt C i).text.toList == [100, 101, 102, 97, 117, 108, 116])))
def nameP (C : Cx) (o : Bool) (q : PS) : Except Nat (PS × ByteArray) := if plainB C q.pos o then .ok (adv q, (tokAt C q.pos).text) else .error (here C q.pos)
def hasS (l : List ByteArray) (x : ByteArray) : Bool := l.any fun y => y.toList == x.toList
def specP (C : Cx) (q : PS) : Except Nat (PS × ByteArray) :=
  if (tokAt C q.pos).kind == 3 then
    if hasS q.rq (tokAt C q.pos).text then .ok (adv q, (tokAt C q.pos).text)
    else if 40 ≤ q.rq.length then .error (here C q.pos)
    else .ok ({ adv q with rq := q.rq ++ [(tokAt C q.pos).text] }, (tokAt C q.pos).text)
  else .error (here C q.pos)
def addIm (C : Cx) (x : Im) (q : PS) : PR := if 40 ≤ q.im.length then .error (here C (q.pos - 1)) else .ok { q with im := q.im ++ [x] }
def addEp (C : Cx) (x : Ep) (q : PS) : PR :=
  if 40 ≤ q.ep.length + q.la.length then .error (here C (q.pos - 1))
  else if x.loc.toList == [42, 100, 101, 102, 97, 117, 108, 116] then .ok { q with la := q.la ++ [x] } else .ok { q with ep := q.ep ++ [x] }
def addSt (C : Cx) (k : Int) (n : ByteArray) (q : PS) : PR := if 80 ≤ q.st.length then .error (here C (q.pos - 1)) else .ok { q with st := q.st ++ [⟨k, n, (q.ex.length : Int) - 1⟩] }
def addEx (C : Cx) (x : Ex) (q : PS) : PR := if 300 ≤ q.ex.length then .error (here C (q.pos - 1)) else .ok { q with ex := q.ex ++ [x] }
def tailP (C : Cx) (n : ByteArray) (q : PS) : PR :=
  if isT C q.pos 4 cOpen then bd (bd (tokP C 4 cOpen q) (tokP C 4 cShut)) (addEx C ⟨3, 0, n, sNone, 0, 0⟩) else addEx C ⟨2, 0, n, sNone, 0, 0⟩ q
def memP (C : Cx) (n f : ByteArray) (q : PS) : PR :=
  if isT C q.pos 4 cOpen then bd (bd (tokP C 4 cOpen q) (tokP C 4 cShut)) (addEx C ⟨5, 0, n, f, 0, 0⟩) else addEx C ⟨4, 0, n, f, 0, 0⟩ q

abbrev NT : Type := Option (Option (Option (Option Unit)))
abbrev NT.sum : NT := none
abbrev NT.sumT : NT := some none
abbrev NT.prod : NT := some (some none)
abbrev NT.prodT : NT := some (some (some none))
abbrev NT.part : NT := some (some (some (some ())))
theorem NT.elim {motive : NT → Prop} (nt : NT) (sum : motive .sum) (sumT : motive .sumT) (prod : motive .prod) (prodT : motive .prodT) (part : motive .part) : motive nt :=
  match nt with
  | none => sum
  | some none => sumT
  | some (some none) => prod
  | some (some (some none)) => prodT
  | some (some (some (some ()))) => part
def kindPM (C : Cx) (i : Nat) : Int := if isT C i 4 cMinus then 7 else 6
def ev (C : Cx) : Nat → NT → Nat → PS → PR
  | 0, _, _, _ => .error 0
  | f + 1, none, d, q => bd (ev C f .prod d q) (ev C f .sumT d)
  | f + 1, some none, d, q =>
    if isT C q.pos 4 cPlus || isT C q.pos 4 cMinus then
      bd (bd (ev C f .prod d (adv q)) fun q' => addEx C ⟨kindPM C q.pos, 0, sNone, sNone, (q.ex.length : Int) - 1, (q'.ex.length : Int) - 1⟩ q') (ev C f .sumT d)
    else .ok q
  | f + 1, some (some none), d, q => bd (ev C f .part d q) (ev C f .prodT d)
  | f + 1, some (some (some none)), d, q =>
    if isT C q.pos 4 cStar then
      bd (bd (ev C f .part d (adv q)) fun q' => addEx C ⟨8, 0, sNone, sNone, (q.ex.length : Int) - 1, (q'.ex.length : Int) - 1⟩ q') (ev C f .prodT d)
    else .ok q
  | f + 1, some (some (some (some ()))), d, q =>
    if (tokAt C q.pos).kind == 2 then addEx C ⟨1, (tokAt C q.pos).num, sNone, sNone, 0, 0⟩ (adv q)
    else if isT C q.pos 4 cOpen then
      if 20 ≤ d then .error (here C q.pos) else bd (ev C f .sum (d + 1) (adv q)) (tokP C 4 cShut)
    else if C.scr && isT C q.pos 1 sUndef then tailP C sUndef (adv q)
    else bd (nameP C false q) fun x => if isT C x.1.pos 4 cPoint then bd (nameP C true (adv x.1)) fun y => memP C x.2 y.2 y.1 else tailP C x.2 x.1
def nd (C : Cx) (nt : NT) (q : PS) : Nat :=
  5 * (C.ts.length - q.pos) + match nt with
    | .sum => 3
    | .prod => 2
    | _ => 1
def pE (C : Cx) (nt : NT) (d : Nat) (q : PS) : PR := ev C (nd C nt q) nt d q

theorem tokAt_none {C : Cx} {i : Nat} (h : C.ts.length ≤ i) : tokAt C i = ⟨0, sNone, 0, C.fin⟩ := by simp [tokAt, List.getD, List.getElem?_eq_none h]
theorem isT_lt {C : Cx} {i : Nat} {k : Int} {x : ByteArray} (h : isT C i k x = true) (hk : k ≠ 0) : i < C.ts.length := by
  rcases Nat.lt_or_ge i C.ts.length with g | g
  · exact g
  · simp only [isT, tokAt_none g, Bool.and_eq_true, beq_iff_eq] at h
    exact absurd h.1.symm hk
theorem kind_lt {C : Cx} {i : Nat} {k : Int} (h : ((tokAt C i).kind == k) = true) (hk : k ≠ 0) : i < C.ts.length := by
  rcases Nat.lt_or_ge i C.ts.length with g | g
  · exact g
  · simp only [tokAt_none g, beq_iff_eq] at h
    exact absurd h.symm hk
theorem plain_lt {C : Cx} {i : Nat} {o : Bool} (h : plainB C i o = true) : i < C.ts.length := by
  simp only [plainB, Bool.and_eq_true] at h
  exact kind_lt h.1 (by decide)
theorem tokP_ok {C : Cx} {k : Int} {x : ByteArray} {q q' : PS} (h : tokP C k x q = .ok q') : q' = adv q ∧ isT C q.pos k x = true := by
  unfold tokP at h
  split at h
  · next g => exact ⟨by cases h; rfl, g⟩
  · cases h
theorem nameP_ok {C : Cx} {o : Bool} {q : PS} {y : PS × ByteArray} (h : nameP C o q = .ok y) : y = (adv q, (tokAt C q.pos).text) ∧ plainB C q.pos o = true := by
  unfold nameP at h
  split at h
  · next g => exact ⟨by cases h; rfl, g⟩
  · cases h
theorem addEx_ok {C : Cx} {x : Ex} {q q' : PS} (h : addEx C x q = .ok q') : q' = { q with ex := q.ex ++ [x] } ∧ q.ex.length < 300 := by
  unfold addEx at h
  split at h
  · cases h
  · cases h
    exact ⟨rfl, by omega⟩
theorem adv_pos (q : PS) : (adv q).pos = q.pos + 1 := rfl
theorem tailP_pos {C : Cx} {n : ByteArray} {q q' : PS} (h : tailP C n q = .ok q') : q.pos ≤ q'.pos := by
  unfold tailP at h
  split at h
  · obtain ⟨a, h1, h2⟩ := bd_eq_ok h
    obtain ⟨b, h3, h4⟩ := bd_eq_ok h1
    obtain ⟨rfl, _⟩ := tokP_ok h3
    obtain ⟨rfl, _⟩ := tokP_ok h4
    obtain ⟨rfl, _⟩ := addEx_ok h2
    show q.pos ≤ q.pos + 1 + 1
    omega
  · obtain ⟨rfl, _⟩ := addEx_ok h
    exact Nat.le_refl _
theorem memP_pos {C : Cx} {n f : ByteArray} {q q' : PS} (h : memP C n f q = .ok q') : q.pos ≤ q'.pos := by
  unfold memP at h
  split at h
  · obtain ⟨a, h1, h2⟩ := bd_eq_ok h
    obtain ⟨b, h3, h4⟩ := bd_eq_ok h1
    obtain ⟨rfl, _⟩ := tokP_ok h3
    obtain ⟨rfl, _⟩ := tokP_ok h4
    obtain ⟨rfl, _⟩ := addEx_ok h2
    show q.pos ≤ q.pos + 1 + 1
    omega
  · obtain ⟨rfl, _⟩ := addEx_ok h
    exact Nat.le_refl _
theorem ev_pos {C : Cx} (f : Nat) : ∀ (nt : NT) (d : Nat) (q q' : PS), ev C f nt d q = .ok q' → q.pos ≤ q'.pos := by
  induction f with
  | zero => intro nt d q q' h; cases nt using NT.elim <;> cases h
  | succ f ih =>
    intro nt d q q' h
    cases nt using NT.elim with
    | sum =>
      rw [ev] at h
      obtain ⟨a, h1, h2⟩ := bd_eq_ok h
      exact Nat.le_trans (ih _ _ _ _ h1) (ih _ _ _ _ h2)
    | prod =>
      rw [ev] at h
      obtain ⟨a, h1, h2⟩ := bd_eq_ok h
      exact Nat.le_trans (ih _ _ _ _ h1) (ih _ _ _ _ h2)
    | sumT =>
      rw [ev] at h
      split at h
      · obtain ⟨a, h1, h2⟩ := bd_eq_ok h
        obtain ⟨b, h3, h4⟩ := bd_eq_ok h1
        obtain ⟨rfl, _⟩ := addEx_ok h4
        have e1 := ih _ _ _ _ h3
        have e2 := ih _ _ _ _ h2
        rw [adv_pos] at e1
        exact Nat.le_trans (by omega : q.pos ≤ b.pos) e2
      · cases h
        exact Nat.le_refl _
    | prodT =>
      rw [ev] at h
      split at h
      · obtain ⟨a, h1, h2⟩ := bd_eq_ok h
        obtain ⟨b, h3, h4⟩ := bd_eq_ok h1
        obtain ⟨rfl, _⟩ := addEx_ok h4
        have e1 := ih _ _ _ _ h3
        have e2 := ih _ _ _ _ h2
        rw [adv_pos] at e1
        exact Nat.le_trans (by omega : q.pos ≤ b.pos) e2
      · cases h
        exact Nat.le_refl _
    | part =>
      rw [ev] at h
      split at h
      · obtain ⟨rfl, _⟩ := addEx_ok h
        show q.pos ≤ q.pos + 1
        omega
      · split at h
        · split at h
          · cases h
          · obtain ⟨a, h1, h2⟩ := bd_eq_ok h
            obtain ⟨rfl, _⟩ := tokP_ok h2
            have e1 := ih _ _ _ _ h1
            rw [adv_pos] at e1 ⊢
            omega
        · split at h
          · have := tailP_pos h
            rw [adv_pos] at this
            omega
          · obtain ⟨y, h1, h2⟩ := bd_eq_ok h
            obtain ⟨rfl, _⟩ := nameP_ok h1
            simp only at h2
            split at h2
            · obtain ⟨z, h3, h4⟩ := bd_eq_ok h2
              obtain ⟨rfl, _⟩ := nameP_ok h3
              have := memP_pos h4
              simp only [adv_pos] at this
              omega
            · have := tailP_pos h2
              rw [adv_pos] at this
              omega
theorem ev_enough {C : Cx} (f : Nat) : ∀ (g : Nat) (nt : NT) (d : Nat) (q : PS), nd C nt q ≤ f → nd C nt q ≤ g → ev C f nt d q = ev C g nt d q := by
  induction f with
  | zero => intro g nt d q h; unfold nd at h; cases nt using NT.elim <;> simp at h
  | succ f ih =>
    intro g nt d q h1 h2
    obtain ⟨g, rfl⟩ : ∃ g', g = g' + 1 := by
      match g with
      | 0 => unfold nd at h2; cases nt using NT.elim <;> simp at h2
      | g + 1 => exact ⟨g, rfl⟩
    cases nt using NT.elim with
    | sum =>
      simp only [nd] at h1 h2
      rw [ev, ev, ih g .prod d q (by simp only [nd]; omega) (by simp only [nd]; omega)]
      refine bd_congr fun a ha => ?_
      have := ev_pos _ _ _ _ _ ha
      exact ih g .sumT d a (by simp only [nd]; omega) (by simp only [nd]; omega)
    | prod =>
      simp only [nd] at h1 h2
      rw [ev, ev, ih g .part d q (by simp only [nd]; omega) (by simp only [nd]; omega)]
      refine bd_congr fun a ha => ?_
      have := ev_pos _ _ _ _ _ ha
      exact ih g .prodT d a (by simp only [nd]; omega) (by simp only [nd]; omega)
    | sumT =>
      simp only [nd] at h1 h2
      rw [ev, ev]
      split
      · next hs =>
        have hlt : q.pos < C.ts.length := by
          rw [Bool.or_eq_true] at hs
          exact hs.elim (fun k => isT_lt k (by decide)) fun k => isT_lt k (by decide)
        rw [ih g .prod d (adv q) (by simp only [nd, adv_pos]; omega) (by simp only [nd, adv_pos]; omega)]
        refine bd_congr fun a ha => ?_
        obtain ⟨b, h3, h4⟩ := bd_eq_ok ha
        obtain ⟨rfl, _⟩ := addEx_ok h4
        have := ev_pos _ _ _ _ _ h3
        rw [adv_pos] at this
        exact ih g .sumT d _ (by simp only [nd]; omega) (by simp only [nd]; omega)
      · rfl
    | prodT =>
      simp only [nd] at h1 h2
      rw [ev, ev]
      split
      · next hs =>
        have hlt : q.pos < C.ts.length := isT_lt hs (by decide)
        rw [ih g .part d (adv q) (by simp only [nd, adv_pos]; omega) (by simp only [nd, adv_pos]; omega)]
        refine bd_congr fun a ha => ?_
        obtain ⟨b, h3, h4⟩ := bd_eq_ok ha
        obtain ⟨rfl, _⟩ := addEx_ok h4
        have := ev_pos _ _ _ _ _ h3
        rw [adv_pos] at this
        exact ih g .prodT d _ (by simp only [nd]; omega) (by simp only [nd]; omega)
      · rfl
    | part =>
      simp only [nd] at h1 h2
      rw [ev, ev]
      split
      · rfl
      · split
        · next hs =>
          have hlt : q.pos < C.ts.length := isT_lt hs (by decide)
          split
          · rfl
          · rw [ih g .sum (d + 1) (adv q) (by simp only [nd, adv_pos]; omega) (by simp only [nd, adv_pos]; omega)]
        · rfl
theorem ev_pE {C : Cx} {f d : Nat} {nt : NT} {q : PS} (h : nd C nt q ≤ f) : ev C f nt d q = pE C nt d q := ev_enough f _ nt d q h (Nat.le_refl _)
theorem pE_pos {C : Cx} {nt : NT} {d : Nat} {q q' : PS} (h : pE C nt d q = .ok q') : q.pos ≤ q'.pos := ev_pos _ _ _ _ _ h
theorem pE_succ {C : Cx} {nt : NT} {d : Nat} {q : PS} : pE C nt d q = ev C (nd C nt q + 1) nt d q := (ev_pE (Nat.le_succ _)).symm

theorem pE_sum (C : Cx) (d : Nat) (q : PS) : pE C .sum d q = bd (pE C .prod d q) (pE C .sumT d) := by
  rw [pE_succ, ev, ev_pE (by simp only [nd]; omega)]
  refine bd_congr fun a ha => ?_
  have := pE_pos ha
  exact ev_pE (by simp only [nd]; omega)
theorem pE_prod (C : Cx) (d : Nat) (q : PS) : pE C .prod d q = bd (pE C .part d q) (pE C .prodT d) := by
  rw [pE_succ, ev, ev_pE (by simp only [nd]; omega)]
  refine bd_congr fun a ha => ?_
  have := pE_pos ha
  exact ev_pE (by simp only [nd]; omega)
theorem pE_sumT (C : Cx) (d : Nat) (q : PS) : pE C .sumT d q =
    if isT C q.pos 4 cPlus || isT C q.pos 4 cMinus then
      bd (bd (pE C .prod d (adv q)) fun q' => addEx C ⟨kindPM C q.pos, 0, sNone, sNone, (q.ex.length : Int) - 1, (q'.ex.length : Int) - 1⟩ q') (pE C .sumT d)
    else .ok q := by
  rw [pE_succ, ev]
  split
  · next hs =>
    have hlt : q.pos < C.ts.length := by
      rw [Bool.or_eq_true] at hs
      exact hs.elim (fun k => isT_lt k (by decide)) fun k => isT_lt k (by decide)
    rw [ev_pE (by simp only [nd, adv_pos]; omega)]
    refine bd_congr fun a ha => ?_
    obtain ⟨b, h3, h4⟩ := bd_eq_ok ha
    obtain ⟨rfl, _⟩ := addEx_ok h4
    have := pE_pos h3
    rw [adv_pos] at this
    exact ev_pE (by simp only [nd]; omega)
  · rfl
theorem pE_prodT (C : Cx) (d : Nat) (q : PS) : pE C .prodT d q =
    if isT C q.pos 4 cStar then
      bd (bd (pE C .part d (adv q)) fun q' => addEx C ⟨8, 0, sNone, sNone, (q.ex.length : Int) - 1, (q'.ex.length : Int) - 1⟩ q') (pE C .prodT d)
    else .ok q := by
  rw [pE_succ, ev]
  split
  · next hs =>
    have hlt : q.pos < C.ts.length := isT_lt hs (by decide)
    rw [ev_pE (by simp only [nd, adv_pos]; omega)]
    refine bd_congr fun a ha => ?_
    obtain ⟨b, h3, h4⟩ := bd_eq_ok ha
    obtain ⟨rfl, _⟩ := addEx_ok h4
    have := pE_pos h3
    rw [adv_pos] at this
    exact ev_pE (by simp only [nd]; omega)
  · rfl
theorem pE_part (C : Cx) (d : Nat) (q : PS) : pE C .part d q =
    if (tokAt C q.pos).kind == 2 then addEx C ⟨1, (tokAt C q.pos).num, sNone, sNone, 0, 0⟩ (adv q)
    else if isT C q.pos 4 cOpen then
      if 20 ≤ d then .error (here C q.pos) else bd (pE C .sum (d + 1) (adv q)) (tokP C 4 cShut)
    else if C.scr && isT C q.pos 1 sUndef then tailP C sUndef (adv q)
    else bd (nameP C false q) fun x => if isT C x.1.pos 4 cPoint then bd (nameP C true (adv x.1)) fun y => memP C x.2 y.2 y.1 else tailP C x.2 x.1 := by
  rw [pE_succ, ev]
  split
  · rfl
  · split
    · next hs =>
      have hlt : q.pos < C.ts.length := isT_lt hs (by decide)
      split
      · rfl
      · rw [ev_pE (by simp only [nd, adv_pos]; omega)]
    · rfl
end Go.Proofs.YticdggnnpjachaaGreat
