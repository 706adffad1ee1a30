/-
  Tokens of a text with blanks ahead of it and a comment behind it: the same, two places on; and what is known of tokens in order. No program is spoken of.
-/
import Derived.Test.YtcmpakdfebeklaaLexLen
import Derived.Test.YtcmpakdfebeklaaImplLexMath
namespace Go.Proofs.Ytcmpakdfebeklaa
open Go.RowKit Go.PlainAid

def wrapS (s : ByteArray) : ByteArray := ({ data := #[32, 10] } : ByteArray) ++ s ++ ({ data := #[32, 10, 47, 47, 32, 101, 110, 100] } : ByteArray)
theorem wrap_list (s : ByteArray) : (wrapS s).data.toList = [32, 10] ++ (s.data.toList ++ [32, 10, 47, 47, 32, 101, 110, 100]) := by
  rw [wrapS, append_list, append_list, List.append_assoc]
theorem len_data (s : ByteArray) : s.data.toList.length = s.size := Array.length_toList
theorem wrap_size (s : ByteArray) : (wrapS s).size = s.size + 10 := by
  rw [← len_data, wrap_list]
  simp only [List.length_append, List.length_cons, List.length_nil, len_data]
  omega
theorem wrap_in (s : ByteArray) (j : Nat) (h : j < s.size) : bt (wrapS s) (j + 2) = bt s j := by
  rw [bt_list, bt_list, wrap_list, List.map_append, List.map_append]
  have hl := len_data s
  simp only [List.getD]
  rw [List.getElem?_append_right (by simp), List.getElem?_append_left (by simp; omega)]
  simp
theorem wrap_post (s : ByteArray) (i : Nat) : bt (wrapS s) (s.size + 2 + i) = ([32, 10, 47, 47, 32, 101, 110, 100] : List Int).getD i 0 := by
  rw [bt_list, wrap_list, List.map_append, List.map_append]
  have hl := len_data s
  simp only [List.getD]
  rw [List.getElem?_append_right (by simp; omega), List.getElem?_append_right (by simp; omega)]
  simp only [List.length_map, List.length_cons, List.length_nil, hl, show s.size + 2 + i - (0 + 1 + 1) - s.size = i from by omega]
  rfl
theorem wrap_0 (s : ByteArray) : bt (wrapS s) 0 = 32 := by rw [bt_list, wrap_list]; rfl
theorem wrap_1 (s : ByteArray) : bt (wrapS s) 1 = 10 := by rw [bt_list, wrap_list]; rfl
theorem wrap_piece (s : ByteArray) (a e : Nat) (he : e ≤ s.size) : (wrapS s).extract (a + 2) (e + 2) = s.extract a e := by
  apply bytes_ext
  rw [Lib.extract_data, Lib.extract_data, wrap_list, Nat.add_sub_add_right]
  have hl := len_data s
  simp only [List.cons_append, List.nil_append, List.drop_succ_cons]
  rcases Nat.lt_or_ge s.size a with h | h
  · rw [show e - a = 0 from by omega]; simp
  · rw [List.drop_append_of_le_length (by omega), List.take_append_of_le_length (by rw [List.length_drop]; omega)]

theorem wrap_at (s : ByteArray) : bt (wrapS s) (s.size + 2) = 32 := wrap_post s 0
theorem run_wrap {p : Int → Bool} {s : ByteArray} {a e : Nat} (hp : p 32 = false) (h : RunEnd p s a e) : RunEnd p (wrapS s) (a + 2) (e + 2) := by
  obtain ⟨h1, h2, h3, h4⟩ := h
  refine ⟨by omega, by rw [wrap_size]; omega, fun j g1 g2 => ?_, fun _ => ?_⟩
  · obtain ⟨i, rfl⟩ : ∃ i, j = i + 2 := ⟨j - 2, by omega⟩
    rw [wrap_in s i (by omega)]
    exact h3 i (by omega) (by omega)
  · rcases Nat.lt_or_ge e s.size with g | g
    · rw [wrap_in s e g]; exact h4 g
    · obtain rfl : e = s.size := by omega
      rw [wrap_at]; exact hp
theorem dval_wrap {s : ByteArray} {a k : Nat} (h : a + k ≤ s.size) : dval (wrapS s) (a + 2) k = dval s a k := by
  induction k with
  | zero => rfl
  | succ k ih => rw [dval, dval, ih (by omega), show a + 2 + k = (a + k) + 2 from by omega, wrap_in s (a + k) (by omega)]
def shiftT (t : Tk) : Tk := ⟨t.kind, t.text, t.num, t.pos + 2⟩
theorem tok_wrap {s : ByteArray} {scr : Bool} {a e : Nat} {t : Tk} (ha : a < s.size) (h : Tok s scr a t e) : Tok (wrapS s) scr (a + 2) (shiftT t) (e + 2) := by
  cases h using Tok.elim with
  | name h he =>
    have := Tok.name (s := wrapS s) (scr := scr) (a := a + 2) (e := e + 2) (by rw [wrap_in s a ha]; exact h) (run_wrap (by cases scr <;> rfl) he)
    rw [wrap_piece s a e he.2.1] at this
    exact this
  | @num n _ h he =>
    obtain ⟨h1, h2, h3, h4, h5, h6⟩ := he
    refine Tok.num (s := wrapS s) (scr := scr) (a := a + 2) (e := e + 2) (n := n) (by rw [wrap_in s a ha]; exact h) ⟨run_wrap rfl h1, by omega, ?_, ?_, h5, fun _ => ?_⟩
    · rw [wrap_in s a ha]
      rcases h3 with g | g
      · left; omega
      · exact .inr g
    · rw [show e + 2 - (a + 2) = e - a from by omega, dval_wrap (by have := h1.2.1; omega)]
      exact h4
    · rcases Nat.lt_or_ge e s.size with g | g
      · rw [wrap_in s e g]; exact h6 g
      · obtain rfl : e = s.size := by have := h1.2.1; omega
        rw [wrap_at]; cases scr <;> rfl
  | str h he =>
    obtain ⟨h1, h2, h3, h4, h5⟩ := he
    have := Tok.str (s := wrapS s) (scr := scr) (a := a + 2) (e := e + 2) (by rw [wrap_in s a ha]; exact h) ⟨by omega, by rw [wrap_size]; omega, by omega, by rw [show e + 2 - 1 = (e - 1) + 2 from by omega, wrap_in s (e - 1) (by omega)]; exact h4, fun j g1 g2 => by
      obtain ⟨i, rfl⟩ : ∃ i, j = i + 2 := ⟨j - 2, by omega⟩
      rw [wrap_in s i (by omega)]
      exact h5 i (by omega) (by omega)⟩
    rw [show e + 2 - 1 = (e - 1) + 2 from by omega, show a + 2 + 1 = (a + 1) + 2 from by omega, wrap_piece s (a + 1) (e - 1) (by omega)] at this
    exact this
  | sign h =>
    have := Tok.sign (s := wrapS s) (scr := scr) (a := a + 2) (by rw [wrap_in s a ha]; exact h)
    rw [show a + 2 + 1 = (a + 1) + 2 from by omega, wrap_piece s a (a + 1) (by omega)] at this
    exact this

def shiftP (s : ByteArray) (b : Nat) : Nat := if b < s.size then b + 2 else s.size + 10
theorem skip_tail3 (s : ByteArray) : Skip (wrapS s) (s.size + 3) (s.size + 10) := by
  have hsz := wrap_size s
  have p1 : bt (wrapS s) (s.size + 3) = 10 := wrap_post s 1
  have p2 : bt (wrapS s) (s.size + 4) = 47 := wrap_post s 2
  have p3 : bt (wrapS s) (s.size + 5) = 47 := wrap_post s 3
  have p4 : bt (wrapS s) (s.size + 6) = 32 := wrap_post s 4
  have p5 : bt (wrapS s) (s.size + 7) = 101 := wrap_post s 5
  have p6 : bt (wrapS s) (s.size + 8) = 110 := wrap_post s 6
  have p7 : bt (wrapS s) (s.size + 9) = 100 := wrap_post s 7
  refine .blank (by omega) (by rw [p1]; exact .inr (.inl rfl)) ?_
  refine .comment (c := s.size + 10) (by omega) ⟨p2, by omega, p3⟩ ⟨by omega, by omega, fun j h1 h2 => ?_, fun h => by omega⟩ ?_
  · obtain h | h | h | h | h | h : j = s.size + 4 ∨ j = s.size + 5 ∨ j = s.size + 6 ∨ j = s.size + 7 ∨ j = s.size + 8 ∨ j = s.size + 9 := by omega
    · rw [h, p2]; rfl
    · rw [h, p3]; rfl
    · rw [h, p4]; rfl
    · rw [h, p5]; rfl
    · rw [h, p6]; rfl
    · rw [h, p7]; rfl
  · rw [← hsz]; exact .done
theorem skip_wrap {s : ByteArray} {a b : Nat} (h : Skip s a b) : Skip (wrapS s) (a + 2) (shiftP s b) := by
  have hsz := wrap_size s
  induction h using Skip.ind with
  | done =>
    rw [shiftP, if_neg (Nat.lt_irrefl _)]
    exact .blank (by omega) (by rw [wrap_at]; exact .inr (.inr (.inr rfl))) (skip_tail3 s)
  | @stop a h h1 h2 =>
    rw [shiftP, if_pos h]
    refine .stop (by omega) (by rw [wrap_in s a h]; exact h1) fun k => ?_
    obtain ⟨k1, k2, k3⟩ := k
    rw [wrap_in s a h] at k1
    rcases Nat.lt_or_ge (a + 1) s.size with g | g
    · rw [show a + 2 + 1 = (a + 1) + 2 from by omega, wrap_in s (a + 1) g] at k3
      exact h2 ⟨k1, g, k3⟩
    · rw [show a + 2 + 1 = s.size + 2 from by omega, wrap_at] at k3
      omega
  | @blank a b h h1 _ ih =>
    refine .blank (by omega) (by rw [wrap_in s a h]; exact h1) ?_
    rw [show a + 2 + 1 = a + 1 + 2 from by omega]
    exact ih
  | @comment a c b h h1 hc r ih =>
    obtain ⟨k1, k2, k3⟩ := h1
    have hs2 : Slashes (wrapS s) (a + 2) := ⟨by rw [wrap_in s a h]; exact k1, by omega, by rw [show a + 2 + 1 = (a + 1) + 2 from by omega, wrap_in s (a + 1) k2]; exact k3⟩
    obtain ⟨c1, c2, c3, c4⟩ := hc
    rcases Nat.lt_or_ge c s.size with g | g
    · refine .comment (by omega) hs2 (c := c + 2) ⟨by omega, by omega, fun j g1 g2 => ?_, fun _ => by rw [wrap_in s c g]; exact c4 g⟩ ih
      obtain ⟨i, rfl⟩ : ∃ i, j = i + 2 := ⟨j - 2, by omega⟩
      rw [wrap_in s i (by omega)]
      exact c3 i (by omega) (by omega)
    · obtain rfl : c = s.size := by omega
      have hb : b = s.size := by have := skip_bd r; omega
      rw [shiftP, if_neg (by omega)]
      refine .comment (by omega) hs2 (c := s.size + 3) ⟨by omega, by omega, fun j g1 g2 => ?_, fun _ => ?_⟩ (skip_tail3 s)
      · obtain ⟨i, rfl⟩ : ∃ i, j = i + 2 := ⟨j - 2, by omega⟩
        rcases Nat.lt_or_ge i s.size with q | q
        · rw [wrap_in s i q]; exact c3 i (by omega) q
        · rw [show i = s.size from by omega, wrap_at]; rfl
      · have p1 : bt (wrapS s) (s.size + 3) = 10 := wrap_post s 1
        rw [p1]; rfl
theorem lx_wrap {s : ByteArray} {scr : Bool} {a n : Nat} {r : Except Nat (List Tk)} (h : Lx s scr a n r) : ∀ ts, r = .ok ts → Lx (wrapS s) scr (shiftP s a) n (.ok (ts.map shiftT)) := by
  induction h using Lx.ind with
  | done =>
    intro ts hr
    cases hr
    rw [shiftP, if_neg (Nat.lt_irrefl _), ← wrap_size]
    exact .done
  | bad _ _ => intro ts hr; cases hr
  | @tok a n e b t r h hn ht hs hr ih =>
    intro ts hts
    cases r with
    | error p => simp [Except.map] at hts
    | ok l =>
      simp only [Except.map, Except.ok.injEq] at hts
      subst hts
      have h2 := ih l rfl
      rw [shiftP, if_pos h]
      have := Lx.tok (s := wrapS s) (scr := scr) (a := a + 2) (n := n) (by rw [wrap_size]; omega) hn (tok_wrap h ht) (skip_wrap hs) h2
      simpa [Except.map] using this
theorem lexR_wrap {s : ByteArray} {scr : Bool} {ts : List Tk} (h : LexR s scr (.ok ts)) : LexR (wrapS s) scr (.ok (ts.map shiftT)) := by
  obtain ⟨a, h1, h2⟩ := h
  refine ⟨_, ?_, lx_wrap h2 ts rfl⟩
  have hsz := wrap_size s
  exact .blank (by omega) (by rw [wrap_0]; exact .inr (.inr (.inr rfl))) (.blank (by omega) (by rw [wrap_1]; exact .inr (.inl rfl)) (skip_wrap h1))

theorem lx_error {s : ByteArray} {scr : Bool} {a n : Nat} {r : Except Nat (List Tk)} (h : Lx s scr a n r) : ∀ p, r = .error p → p < s.size := by
  induction h using Lx.ind with
  | done => intro p hr; cases hr
  | bad h _ => intro p hr; cases hr; exact h
  | @tok a n e b t r h hn ht hs hr ih =>
    intro p hp
    cases r with
    | error q => simp only [Except.map, Except.error.injEq] at hp; exact ih p (by rw [hp])
    | ok l => simp [Except.map] at hp
theorem lexR_error {s : ByteArray} {scr : Bool} {p : Nat} (h : LexR s scr (.error p)) : p < s.size := by
  obtain ⟨a, _, hl⟩ := h
  exact lx_error hl p rfl
theorem lx_all {s : ByteArray} {scr : Bool} {a n : Nat} {r : Except Nat (List Tk)} (h : Lx s scr a n r) :
    ∀ ts, r = .ok ts → (∀ (j : Nat) (t : Tk), ts[j]? = some t → a ≤ t.pos ∧ t.pos < s.size ∧ ∃ e, Tok s scr t.pos t e) ∧ ∀ (j : Nat) (t u : Tk), ts[j]? = some t → ts[j + 1]? = some u → t.pos < u.pos := by
  induction h using Lx.ind with
  | done => intro ts hr; cases hr; simp
  | bad _ _ => intro ts hr; cases hr
  | @tok a n e b t r h hn ht hs hr ih =>
    intro ts hts
    cases r with
    | error q => simp [Except.map] at hts
    | ok l =>
      simp only [Except.map, Except.ok.injEq] at hts
      subst hts
      obtain ⟨i1, i2⟩ := ih l rfl
      obtain ⟨e1, e2, e3⟩ := tok_end h ht
      have e4 := skip_bd hs
      refine ⟨fun j u hj => ?_, fun j u v hu hv => ?_⟩
      · match j, hj with
        | 0, hj =>
          simp only [List.getElem?_cons_zero, Option.some.injEq] at hj
          subst hj
          exact ⟨by omega, by omega, e, by rw [e3]; exact ht⟩
        | j + 1, hj =>
          obtain ⟨k1, k2, k3⟩ := i1 j u hj
          exact ⟨by omega, k2, k3⟩
      · match j, hu, hv with
        | 0, hu, hv =>
          simp only [List.getElem?_cons_zero, Option.some.injEq] at hu
          subst hu
          have := (i1 0 v hv).1
          omega
        | j + 1, hu, hv => exact i2 j u v hu hv
def beginB (a s : ByteArray) : Bool := decide (a.size ≤ s.size) && ((s.extract 0 a.size).toList == a.toList)
theorem beg_of {s : ByteArray} {p e : Nat} (h : e ≤ s.size) (hp : p ≤ e) : beginB (s.extract p e) (s.extract p s.size) = true := by
  have hl := len_data s
  have h1 : (s.extract p e).size = e - p := by rw [ByteArray.size_extract]; omega
  have h2 : (s.extract p s.size).size = s.size - p := by rw [ByteArray.size_extract]; omega
  rw [beginB, h1, h2, decide_eq_true (by omega), Bool.true_and, toList_eq_iff]
  apply bytes_ext
  rw [Lib.extract_data, Lib.extract_data, Lib.extract_data, List.drop_zero, Nat.sub_zero, List.take_take]
  congr 1
  omega
theorem name_begins {s : ByteArray} {scr : Bool} {t : Tk} {e : Nat} (h : Tok s scr t.pos t e) (hk : t.kind = 1) : beginB t.text (s.extract t.pos s.size) = true := by
  generalize hp : t.pos = p at h
  cases h using Tok.elim with
  | name h he => exact beg_of he.2.1 he.1
  | num _ _ => simp at hk
  | str _ _ => simp at hk
  | sign _ => simp at hk
theorem str_begins {s : ByteArray} {scr : Bool} {t : Tk} {e : Nat} (h : Tok s scr t.pos t e) (hk : t.kind = 3) : beginB (({ data := #[34] } : ByteArray) ++ t.text ++ ({ data := #[34] } : ByteArray)) (s.extract t.pos s.size) = true := by
  generalize hp : t.pos = p at h
  cases h using Tok.elim with
  | name _ _ => simp at hk
  | num _ _ => simp at hk
  | sign _ => simp at hk
  | str h he =>
    obtain ⟨h1, h2, h3, h4, h5⟩ := he
    have hl := len_data s
    have : ({ data := #[34] } : ByteArray) ++ s.extract (p + 1) (e - 1) ++ ({ data := #[34] } : ByteArray) = s.extract p e := by
      apply bytes_ext
      rw [append_list, append_list, Lib.extract_data, Lib.extract_data]
      have g1 := (byte_is s p 34 (by decide)).2 ⟨by omega, h⟩
      have g2 := (byte_is s (e - 1) 34 (by decide)).2 ⟨by omega, h4⟩
      obtain ⟨m, hm⟩ : ∃ m, m = e - 1 - (p + 1) := ⟨_, rfl⟩
      have hp1 : p < s.data.toList.length := by omega
      rw [← hm, show e - p = m + 1 + 1 from by omega, List.drop_eq_getElem_cons hp1, List.take_succ_cons, List.take_add_one, List.getElem?_drop, show p + 1 + m = e - 1 from by omega, g2]
      rw [List.getElem?_eq_getElem hp1, Option.some.injEq] at g1
      rw [g1]
      rfl
    rw [this]
    exact beg_of h2 (by omega)
end Go.Proofs.Ytcmpakdfebeklaa
