/-
  Tokens of a text, as plain relations: where a run of bytes ends, which token stands at a place, what is passed over, and that each of these is one alone. No program is spoken of.
-/
import Derived.Test.YtkplighmefigcaaBytes
namespace Go.Proofs.Ytkplighmefigcaa
open Go.RowKit Go.PlainAid

def letB (c : Int) (scr : Bool) : Bool := decide (97 ≤ c ∧ c ≤ 122) || decide (65 ≤ c ∧ c ≤ 90) || decide (c = 95) || (scr && decide (c = 36))
def digB (c : Int) : Bool := decide (48 ≤ c ∧ c ≤ 57)
def worB (scr : Bool) (c : Int) : Bool := letB c scr || digB c
def notNl (c : Int) : Bool := decide (c ≠ 10)
abbrev Blank (c : Int) : Prop := c = 9 ∨ c = 10 ∨ c = 13 ∨ c = 32
abbrev Sign (c : Int) : Prop := c = 123 ∨ c = 125 ∨ c = 40 ∨ c = 41 ∨ c = 44 ∨ c = 59 ∨ c = 61 ∨ c = 46 ∨ c = 42 ∨ c = 43 ∨ c = 45
abbrev InStr (c : Int) : Prop := 32 ≤ c ∧ c ≤ 126 ∧ c ≠ 34 ∧ c ≠ 92
theorem letB_iff {c : Int} {scr : Bool} : letB c scr = true ↔ (97 ≤ c ∧ c ≤ 122) ∨ (65 ≤ c ∧ c ≤ 90) ∨ c = 95 ∨ (scr = true ∧ c = 36) := by simp [letB, or_assoc]
theorem digB_iff {c : Int} : digB c = true ↔ 48 ≤ c ∧ c ≤ 57 := by simp [digB]

def RunEnd (p : Int → Bool) (s : ByteArray) (a e : Nat) : Prop := a ≤ e ∧ e ≤ s.size ∧ (∀ j, a ≤ j → j < e → p (bt s j) = true) ∧ (e < s.size → p (bt s e) = false)
theorem runEnd_one {p : Int → Bool} {s : ByteArray} {a e1 e2 : Nat} (h1 : RunEnd p s a e1) (h2 : RunEnd p s a e2) : e1 = e2 := by
  obtain ⟨a1, b1, c1, d1⟩ := h1
  obtain ⟨a2, b2, c2, d2⟩ := h2
  rcases Nat.lt_trichotomy e1 e2 with h | h | h
  · have := c2 e1 a1 h
    rw [d1 (by omega)] at this
    cases this
  · exact h
  · have := c1 e2 a2 h
    rw [d2 (by omega)] at this
    cases this
def dval (s : ByteArray) (a : Nat) : Nat → Int
  | 0 => 0
  | k + 1 => dval s a k * 10 + (bt s (a + k) - 48)
def NumAt (s : ByteArray) (a : Nat) (scr : Bool) (n : Int) (e : Nat) : Prop :=
  RunEnd digB s a e ∧ a < e ∧ (e = a + 1 ∨ bt s a ≠ 48) ∧ n = dval s a (e - a) ∧ n ≤ 1000000 ∧ (e < s.size → letB (bt s e) scr = false)
theorem numAt_one {s : ByteArray} {a : Nat} {scr : Bool} {n1 n2 : Int} {e1 e2 : Nat} (h1 : NumAt s a scr n1 e1) (h2 : NumAt s a scr n2 e2) : n1 = n2 ∧ e1 = e2 := by
  have he := runEnd_one h1.1 h2.1
  subst he
  exact ⟨h1.2.2.2.1.trans h2.2.2.2.1.symm, rfl⟩
theorem dval_mono {s : ByteArray} {a : Nat} (k m : Nat) (hd : ∀ j, j < m → 48 ≤ bt s (a + j)) (hk : k ≤ m) : 0 ≤ dval s a k ∧ dval s a k ≤ dval s a m := by
  have h0 : ∀ m, (∀ j, j < m → 48 ≤ bt s (a + j)) → 0 ≤ dval s a m := by
    intro m
    induction m with
    | zero => intro _; exact Int.le_refl _
    | succ m ih =>
      intro h
      have h1 := ih (fun j hj => h j (by omega))
      have h2 := h m (by omega)
      show 0 ≤ dval s a m * 10 + (bt s (a + m) - 48)
      omega
  induction m with
  | zero =>
    obtain rfl : k = 0 := by omega
    exact ⟨Int.le_refl _, Int.le_refl _⟩
  | succ m ih =>
    by_cases e : k = m + 1
    · subst e
      exact ⟨h0 _ hd, Int.le_refl _⟩
    · obtain ⟨h1, h2⟩ := ih (fun j hj => hd j (by omega)) (by omega)
      have h3 := hd m (by omega)
      refine ⟨h1, ?_⟩
      show _ ≤ dval s a m * 10 + (bt s (a + m) - 48)
      omega
def StrAt (s : ByteArray) (a e : Nat) : Prop := a + 2 ≤ e ∧ e ≤ s.size ∧ e ≤ a + 42 ∧ bt s (e - 1) = 34 ∧ ∀ j, a < j → j + 1 < e → InStr (bt s j)
theorem strAt_one {s : ByteArray} {a e1 e2 : Nat} (h1 : StrAt s a e1) (h2 : StrAt s a e2) : e1 = e2 := by
  obtain ⟨a1, b1, c1, d1, f1⟩ := h1
  obtain ⟨a2, b2, c2, d2, f2⟩ := h2
  rcases Nat.lt_trichotomy e1 e2 with h | h | h
  · exact absurd d1 (f2 (e1 - 1) (by omega) (by omega)).2.2.1
  · exact h
  · exact absurd d2 (f1 (e2 - 1) (by omega) (by omega)).2.2.1

structure Tk where
  kind : Int
  text : ByteArray
  num : Int
  pos : Nat
def Tok (s : ByteArray) (scr : Bool) (a : Nat) (t : Tk) (e : Nat) : Prop :=
  (letB (bt s a) scr = true ∧ RunEnd (worB scr) s a e ∧ t = ⟨1, s.extract a e, 0, a⟩) ∨ (∃ n, digB (bt s a) = true ∧ NumAt s a scr n e ∧ t = ⟨2, { data := #[] }, n, a⟩) ∨ (bt s a = 34 ∧ StrAt s a e ∧ t = ⟨3, s.extract (a + 1) (e - 1), 0, a⟩) ∨ (Sign (bt s a) ∧ t = ⟨4, s.extract a (a + 1), 0, a⟩ ∧ e = a + 1)
theorem Tok.name {s : ByteArray} {scr : Bool} {a e : Nat} (h : letB (bt s a) scr = true) (he : RunEnd (worB scr) s a e) : Tok s scr a ⟨1, s.extract a e, 0, a⟩ e := .inl ⟨h, he, rfl⟩
theorem Tok.num {s : ByteArray} {scr : Bool} {a e : Nat} {n : Int} (h : digB (bt s a) = true) (he : NumAt s a scr n e) : Tok s scr a ⟨2, { data := #[] }, n, a⟩ e := .inr (.inl ⟨n, h, he, rfl⟩)
theorem Tok.str {s : ByteArray} {scr : Bool} {a e : Nat} (h : bt s a = 34) (he : StrAt s a e) : Tok s scr a ⟨3, s.extract (a + 1) (e - 1), 0, a⟩ e := .inr (.inr (.inl ⟨h, he, rfl⟩))
theorem Tok.sign {s : ByteArray} {scr : Bool} {a : Nat} (h : Sign (bt s a)) : Tok s scr a ⟨4, s.extract a (a + 1), 0, a⟩ (a + 1) := .inr (.inr (.inr ⟨h, rfl, rfl⟩))
theorem Tok.elim {s : ByteArray} {scr : Bool} {a : Nat} {motive : (t : Tk) → (e : Nat) → Tok s scr a t e → Prop} {t : Tk} {e : Nat} (h : Tok s scr a t e) (name : ∀ {e : Nat} (h : letB (bt s a) scr = true) (he : RunEnd (worB scr) s a e), motive _ e (.name h he)) (num : ∀ {n : Int} {e : Nat} (h : digB (bt s a) = true) (he : NumAt s a scr n e), motive _ e (.num h he)) (str : ∀ {e : Nat} (h : bt s a = 34) (he : StrAt s a e), motive _ e (.str h he)) (sign : ∀ (h : Sign (bt s a)), motive _ _ (.sign h)) : motive t e h := by
  rcases h with ⟨h1, h2, rfl⟩ | ⟨n, h1, h2, rfl⟩ | ⟨h1, h2, rfl⟩ | ⟨h1, rfl, rfl⟩
  · exact name h1 h2
  · exact num h1 h2
  · exact str h1 h2
  · exact sign h1
theorem let_dig {c : Int} {scr : Bool} (h : letB c scr = true) : digB c = false ∧ c ≠ 34 ∧ ¬ Sign c := by
  rw [letB_iff] at h
  refine ⟨decide_eq_false (by omega), by omega, by unfold Sign; omega⟩
theorem dig_str {c : Int} (h : digB c = true) : c ≠ 34 ∧ ¬ Sign c := by
  rw [digB_iff] at h
  exact ⟨by omega, by unfold Sign; omega⟩
theorem tok_one {s : ByteArray} {scr : Bool} {a : Nat} {t1 t2 : Tk} {e1 e2 : Nat} (h1 : Tok s scr a t1 e1) (h2 : Tok s scr a t2 e2) : t1 = t2 ∧ e1 = e2 := by
  cases h1 using Tok.elim with
  | name h he =>
    have hd := let_dig h
    cases h2 using Tok.elim with
    | name h' he' => have := runEnd_one he he'; subst this; exact ⟨rfl, rfl⟩
    | num h' he' => rw [hd.1] at h'; cases h'
    | str h' he' => exact absurd h' hd.2.1
    | sign h' => exact absurd h' hd.2.2
  | num h he =>
    have hd := dig_str h
    cases h2 using Tok.elim with
    | name h' he' => rw [(let_dig h').1] at h; cases h
    | num h' he' => obtain ⟨rfl, rfl⟩ := numAt_one he he'; exact ⟨rfl, rfl⟩
    | str h' he' => exact absurd h' hd.1
    | sign h' => exact absurd h' hd.2
  | str h he =>
    cases h2 using Tok.elim with
    | name h' he' => exact absurd h (let_dig h').2.1
    | num h' he' => exact absurd h (dig_str h').1
    | str h' he' => have := strAt_one he he'; subst this; exact ⟨rfl, rfl⟩
    | sign h' => rw [h] at h'; unfold Sign at h'; omega
  | sign h =>
    cases h2 using Tok.elim with
    | name h' he' => exact absurd h (let_dig h').2.2
    | num h' he' => exact absurd h (dig_str h').2
    | str h' he' => rw [h'] at h; unfold Sign at h; omega
    | sign h' => exact ⟨rfl, rfl⟩
theorem tok_end {s : ByteArray} {scr : Bool} {a : Nat} {t : Tk} {e : Nat} (ha : a < s.size) (h : Tok s scr a t e) : a < e ∧ e ≤ s.size ∧ t.pos = a := by
  cases h using Tok.elim with
  | name h he =>
    refine ⟨?_, he.2.1, rfl⟩
    rcases Nat.lt_or_ge a e with k | k
    · exact k
    · have e1 : e = a := by have := he.1; omega
      subst e1
      have := he.2.2.2 ha
      simp [worB, h] at this
  | num h he => exact ⟨he.2.1, he.1.2.1, rfl⟩
  | str h he => exact ⟨by have := he.1; omega, he.2.1, rfl⟩
  | sign h => exact ⟨by omega, by omega, rfl⟩

abbrev Slashes (s : ByteArray) (a : Nat) : Prop := bt s a = 47 ∧ a + 1 < s.size ∧ bt s (a + 1) = 47
def SkipK (s : ByteArray) (P : Nat → Nat → Prop) : Prop := P s.size s.size ∧ (∀ a, a < s.size → ¬ Blank (bt s a) → ¬ Slashes s a → P a a) ∧ (∀ a b, a < s.size → Blank (bt s a) → P (a + 1) b → P a b) ∧ ∀ a c b, a < s.size → Slashes s a → RunEnd notNl s a c → P c b → P a b
def Skip (s : ByteArray) (a b : Nat) : Prop := ∀ P, SkipK s P → P a b
theorem Skip.done {s : ByteArray} : Skip s s.size s.size := fun _ k => k.1
theorem Skip.stop {s : ByteArray} {a : Nat} (h : a < s.size) (h1 : ¬ Blank (bt s a)) (h2 : ¬ Slashes s a) : Skip s a a := fun _ k => k.2.1 a h h1 h2
theorem Skip.blank {s : ByteArray} {a b : Nat} (h : a < s.size) (h1 : Blank (bt s a)) (r : Skip s (a + 1) b) : Skip s a b := fun P k => k.2.2.1 a b h h1 (r P k)
theorem Skip.comment {s : ByteArray} {a c b : Nat} (h : a < s.size) (h1 : Slashes s a) (hc : RunEnd notNl s a c) (r : Skip s c b) : Skip s a b := fun P k => k.2.2.2 a c b h h1 hc (r P k)
theorem Skip.ind {s : ByteArray} {motive : (a b : Nat) → Skip s a b → Prop} {a b : Nat} (h : Skip s a b) (done : motive _ _ .done) (stop : ∀ {a : Nat} (h : a < s.size) (h1 : ¬ Blank (bt s a)) (h2 : ¬ Slashes s a), motive a a (.stop h h1 h2)) (blank : ∀ {a b : Nat} (h : a < s.size) (h1 : Blank (bt s a)) (r : Skip s (a + 1) b), motive _ _ r → motive a b (.blank h h1 r)) (comment : ∀ {a c b : Nat} (h : a < s.size) (h1 : Slashes s a) (hc : RunEnd notNl s a c) (r : Skip s c b), motive _ _ r → motive a b (.comment h h1 hc r)) : motive a b h :=
  (h (fun a b => ∃ k, motive a b k) ⟨⟨_, done⟩, fun _ h h1 h2 => ⟨_, stop h h1 h2⟩, fun _ _ h h1 ⟨r, k⟩ => ⟨_, blank h h1 r k⟩, fun _ _ _ h h1 hc ⟨r, k⟩ => ⟨_, comment h h1 hc r k⟩⟩).2
theorem Skip.elim {s : ByteArray} {motive : (a b : Nat) → Skip s a b → Prop} {a b : Nat} (h : Skip s a b) (done : motive _ _ .done) (stop : ∀ {a : Nat} (h : a < s.size) (h1 : ¬ Blank (bt s a)) (h2 : ¬ Slashes s a), motive a a (.stop h h1 h2)) (blank : ∀ {a b : Nat} (h : a < s.size) (h1 : Blank (bt s a)) (r : Skip s (a + 1) b), motive a b (.blank h h1 r)) (comment : ∀ {a c b : Nat} (h : a < s.size) (h1 : Slashes s a) (hc : RunEnd notNl s a c) (r : Skip s c b), motive a b (.comment h h1 hc r)) : motive a b h :=
  h.ind done stop (fun h h1 r _ => blank h h1 r) (fun h h1 hc r _ => comment h h1 hc r)
theorem slash_blank {s : ByteArray} {a : Nat} (h : Slashes s a) : ¬ Blank (bt s a) := by rw [h.1]; unfold Blank; omega
theorem skip_one {s : ByteArray} {a b1 b2 : Nat} (h1 : Skip s a b1) : Skip s a b2 → b1 = b2 := by
  induction h1 using Skip.ind with
  | done =>
    intro h2
    generalize hx : s.size = x at h2
    cases h2 using Skip.elim with
    | done => rfl
    | stop h _ _ => omega
    | blank h _ _ => omega
    | comment h _ _ _ => omega
  | stop h k1 k2 =>
    intro h2
    cases h2 using Skip.elim with
    | done => rfl
    | stop _ _ _ => rfl
    | blank _ k _ => exact absurd k k1
    | comment _ k _ _ => exact absurd k k2
  | blank h k _ ih =>
    intro h2
    cases h2 using Skip.elim with
    | done => exact absurd h (Nat.lt_irrefl _)
    | stop _ k1 _ => exact absurd k k1
    | blank _ _ r => exact ih r
    | comment _ k1 _ _ => exact absurd k (slash_blank k1)
  | comment h k hc _ ih =>
    intro h2
    cases h2 using Skip.elim with
    | done => exact absurd h (Nat.lt_irrefl _)
    | stop _ _ k2 => exact absurd k k2
    | blank _ k1 _ => exact absurd k1 (slash_blank k)
    | comment _ _ hc' r => have := runEnd_one hc hc'; subst this; exact ih r
theorem skip_bd {s : ByteArray} {a b : Nat} (h : Skip s a b) : a ≤ b ∧ b ≤ s.size := by
  induction h using Skip.ind with
  | done => exact ⟨Nat.le_refl _, Nat.le_refl _⟩
  | stop h _ _ => exact ⟨Nat.le_refl _, by omega⟩
  | blank h _ _ ih => exact ⟨by omega, ih.2⟩
  | comment h _ hc _ ih => exact ⟨by have := hc.1; omega, ih.2⟩

def LxK (s : ByteArray) (scr : Bool) (P : Nat → Nat → Except Nat (List Tk) → Prop) : Prop := (∀ n, P s.size n (.ok [])) ∧ (∀ a n, a < s.size → (4000 ≤ n ∨ ∀ t e, ¬ Tok s scr a t e) → P a n (.error a)) ∧ ∀ a n e b t r, a < s.size → n < 4000 → Tok s scr a t e → Skip s e b → P b (n + 1) r → P a n (r.map (t :: ·))
def Lx (s : ByteArray) (scr : Bool) (a n : Nat) (r : Except Nat (List Tk)) : Prop := ∀ P, LxK s scr P → P a n r
theorem Lx.done {s : ByteArray} {scr : Bool} {n : Nat} : Lx s scr s.size n (.ok []) := fun _ k => k.1 n
theorem Lx.bad {s : ByteArray} {scr : Bool} {a n : Nat} (h : a < s.size) (h1 : 4000 ≤ n ∨ ∀ t e, ¬ Tok s scr a t e) : Lx s scr a n (.error a) := fun _ k => k.2.1 a n h h1
theorem Lx.tok {s : ByteArray} {scr : Bool} {a n e b : Nat} {t : Tk} {r : Except Nat (List Tk)} (h : a < s.size) (hn : n < 4000) (ht : Tok s scr a t e) (hs : Skip s e b) (hr : Lx s scr b (n + 1) r) : Lx s scr a n (r.map (t :: ·)) := fun P k => k.2.2 a n e b t r h hn ht hs (hr P k)
theorem Lx.ind {s : ByteArray} {scr : Bool} {motive : (a n : Nat) → (r : Except Nat (List Tk)) → Lx s scr a n r → Prop} {a n : Nat} {r : Except Nat (List Tk)} (h : Lx s scr a n r) (done : ∀ {n : Nat}, motive _ n _ .done) (bad : ∀ {a n : Nat} (h : a < s.size) (h1 : 4000 ≤ n ∨ ∀ t e, ¬ Tok s scr a t e), motive a n _ (.bad h h1)) (tok : ∀ {a n e b : Nat} {t : Tk} {r : Except Nat (List Tk)} (h : a < s.size) (hn : n < 4000) (ht : Tok s scr a t e) (hs : Skip s e b) (hr : Lx s scr b (n + 1) r), motive _ _ _ hr → motive a n _ (.tok h hn ht hs hr)) : motive a n r h :=
  (h (fun a n r => ∃ k, motive a n r k) ⟨fun _ => ⟨_, done⟩, fun _ _ h h1 => ⟨_, bad h h1⟩, fun _ _ _ _ _ _ h hn ht hs ⟨hr, k⟩ => ⟨_, tok h hn ht hs hr k⟩⟩).2
theorem Lx.elim {s : ByteArray} {scr : Bool} {motive : (a n : Nat) → (r : Except Nat (List Tk)) → Lx s scr a n r → Prop} {a n : Nat} {r : Except Nat (List Tk)} (h : Lx s scr a n r) (done : ∀ {n : Nat}, motive _ n _ .done) (bad : ∀ {a n : Nat} (h : a < s.size) (h1 : 4000 ≤ n ∨ ∀ t e, ¬ Tok s scr a t e), motive a n _ (.bad h h1)) (tok : ∀ {a n e b : Nat} {t : Tk} {r : Except Nat (List Tk)} (h : a < s.size) (hn : n < 4000) (ht : Tok s scr a t e) (hs : Skip s e b) (hr : Lx s scr b (n + 1) r), motive a n _ (.tok h hn ht hs hr)) : motive a n r h :=
  h.ind done bad (fun h hn ht hs hr _ => tok h hn ht hs hr)
theorem lx_one {s : ByteArray} {scr : Bool} {a n : Nat} {r1 r2 : Except Nat (List Tk)} (h1 : Lx s scr a n r1) : Lx s scr a n r2 → r1 = r2 := by
  induction h1 using Lx.ind generalizing r2 with
  | done =>
    intro h2
    generalize hx : s.size = x at h2
    cases h2 using Lx.elim with
    | done => rfl
    | bad h _ => omega
    | tok h _ _ _ _ => omega
  | bad h k =>
    intro h2
    cases h2 using Lx.elim with
    | done => exact absurd h (Nat.lt_irrefl _)
    | bad _ _ => rfl
    | tok _ hn ht _ _ => exact k.elim (fun k => by omega) fun k => absurd ht (k _ _)
  | tok h hn ht hs _ ih =>
    intro h2
    cases h2 using Lx.elim with
    | done => exact absurd h (Nat.lt_irrefl _)
    | bad _ k => exact k.elim (fun k => by omega) fun k => absurd ht (k _ _)
    | tok _ _ ht' hs' r =>
      obtain ⟨rfl, rfl⟩ := tok_one ht ht'
      have := skip_one hs hs'
      subst this
      rw [ih r]
def LexR (s : ByteArray) (scr : Bool) (r : Except Nat (List Tk)) : Prop := ∃ a, Skip s 0 a ∧ Lx s scr a 0 r
theorem lexR_one {s : ByteArray} {scr : Bool} {r1 r2 : Except Nat (List Tk)} (h1 : LexR s scr r1) (h2 : LexR s scr r2) : r1 = r2 := by
  obtain ⟨a, s1, l1⟩ := h1
  obtain ⟨b, s2, l2⟩ := h2
  have := skip_one s1 s2
  subst this
  exact lx_one l1 l2
end Go.Proofs.Ytkplighmefigcaa
