/-
  Texts made of tokens and of what is passed over between them, and that Lex tells these tokens of them. No program is spoken of.
-/
import Derived.Test.YtkplighmefigcaaLexMath
import Derived.Test.YtkplighmefigcaaDecMath
namespace Go.Proofs.Ytkplighmefigcaa
open Go.RowKit Go.PlainAid

structure Tn where
  kind : Int
  text : ByteArray
  num : Int
def stpT (t : Tk) : Tn := ⟨t.kind, t.text, t.num⟩
def ib (b : UInt8) : Int := (b.toNat : Int)
def renT (t : Tn) : List UInt8 := if t.kind == 2 then (strOfNums (decL t.num)).data.toList else if t.kind == 3 then 34 :: (t.text.data.toList ++ [34]) else t.text.data.toList
def GoodT (scr : Bool) (t : Tn) : Prop :=
  (∃ x c cs, x.data.toList = c :: cs ∧ letB (ib c) scr = true ∧ (∀ b ∈ cs, worB scr (ib b) = true) ∧ t = ⟨1, x, 0⟩) ∨ (∃ n, 0 ≤ n ∧ n ≤ 1000000 ∧ t = ⟨2, { data := #[] }, n⟩) ∨ (∃ x : ByteArray, x.size ≤ 40 ∧ (∀ b ∈ x.data.toList, InStr (ib b)) ∧ t = ⟨3, x, 0⟩) ∨ (∃ (x : ByteArray) (c : UInt8), x.data.toList = [c] ∧ Sign (ib c) ∧ t = ⟨4, x, 0⟩)
theorem GoodT.name {scr : Bool} {x : ByteArray} {c : UInt8} {cs : List UInt8} (hx : x.data.toList = c :: cs) (h : letB (ib c) scr = true) (hs : ∀ b ∈ cs, worB scr (ib b) = true) : GoodT scr ⟨1, x, 0⟩ := .inl ⟨x, c, cs, hx, h, hs, rfl⟩
theorem GoodT.num {scr : Bool} {n : Int} (h0 : 0 ≤ n) (h1 : n ≤ 1000000) : GoodT scr ⟨2, { data := #[] }, n⟩ := .inr (.inl ⟨n, h0, h1, rfl⟩)
theorem GoodT.str {scr : Bool} {x : ByteArray} (h0 : x.size ≤ 40) (hs : ∀ b ∈ x.data.toList, InStr (ib b)) : GoodT scr ⟨3, x, 0⟩ := .inr (.inr (.inl ⟨x, h0, hs, rfl⟩))
theorem GoodT.sign {scr : Bool} {x : ByteArray} {c : UInt8} (hx : x.data.toList = [c]) (h : Sign (ib c)) : GoodT scr ⟨4, x, 0⟩ := .inr (.inr (.inr ⟨x, c, hx, h, rfl⟩))
theorem GoodT.elim {scr : Bool} {motive : (t : Tn) → GoodT scr t → Prop} {t : Tn} (h : GoodT scr t) (name : ∀ {x : ByteArray} {c : UInt8} {cs : List UInt8} (hx : x.data.toList = c :: cs) (h : letB (ib c) scr = true) (hs : ∀ b ∈ cs, worB scr (ib b) = true), motive _ (.name hx h hs)) (num : ∀ {n : Int} (h0 : 0 ≤ n) (h1 : n ≤ 1000000), motive _ (.num h0 h1)) (str : ∀ {x : ByteArray} (h0 : x.size ≤ 40) (hs : ∀ b ∈ x.data.toList, InStr (ib b)), motive _ (.str h0 hs)) (sign : ∀ {x : ByteArray} {c : UInt8} (hx : x.data.toList = [c]) (h : Sign (ib c)), motive _ (.sign hx h)) : motive t h := by
  rcases h with ⟨x, c, cs, h1, h2, h3, rfl⟩ | ⟨n, h1, h2, rfl⟩ | ⟨x, h1, h2, rfl⟩ | ⟨x, c, h1, h2, rfl⟩
  · exact name h1 h2 h3
  · exact num h1 h2
  · exact str h1 h2
  · exact sign h1 h2
def wordy (t : Tn) : Bool := t.kind == 1 || t.kind == 2
abbrev Pc := Tn ⊕ List UInt8
def txtP : List Pc → List UInt8
  | [] => []
  | .inl t :: l => renT t ++ txtP l
  | .inr x :: l => x ++ txtP l
def tksP : List Pc → List Tn
  | [] => []
  | .inl t :: l => t :: tksP l
  | .inr _ :: l => tksP l
theorem txtP_app (a b : List Pc) : txtP (a ++ b) = txtP a ++ txtP b := by
  induction a with
  | nil => rfl
  | cons p l ih => cases p <;> simp [txtP, ih]
theorem tksP_app (a b : List Pc) : tksP (a ++ b) = tksP a ++ tksP b := by
  induction a with
  | nil => rfl
  | cons p l ih => cases p <;> simp [tksP, ih]
abbrev sp1 : List UInt8 := [32]
abbrev nl1 : List UInt8 := [10]
abbrev cm1 : List UInt8 := [32, 47, 47, 32, 120, 10]
def SepOk (x : List UInt8) : Prop := x = sp1 ∨ x = nl1 ∨ x = cm1
def adj (w : Bool) : List Pc → Prop
  | [] => True
  | .inr _ :: l => adj false l
  | .inl t :: l => (w = true → wordy t = false) ∧ adj (wordy t) l
theorem adj_false {w : Bool} {l : List Pc} (h : adj w l) : adj false l := by
  cases l with
  | nil => trivial
  | cons p l => cases p with
    | inl t => exact ⟨(fun h => by cases h), h.2⟩
    | inr x => exact h
theorem adj_app {a b : List Pc} (hb : ∀ w, adj w b) : ∀ w, adj w a → adj w (a ++ b) := by
  induction a with
  | nil => intro w _; exact hb w
  | cons p l ih =>
    intro w h
    cases p with
    | inl t => exact ⟨h.1, ih _ h.2⟩
    | inr x => exact ih _ h
theorem adj_sign {t : Tn} {b : List Pc} (ht : wordy t = false) (hb : adj false b) : ∀ w, adj w (.inl t :: b) := fun w => ⟨fun _ => ht, by rw [ht]; exact hb⟩
theorem adj_sep {x : List UInt8} {b : List Pc} (hb : adj false b) : ∀ w, adj w (.inr x :: b) := fun _ => hb
def GoodP (scr : Bool) (l : List Pc) : Prop := ∀ p ∈ l, match p with
  | .inl t => GoodT scr t
  | .inr x => SepOk x
theorem GoodP.app {scr : Bool} {a b : List Pc} (ha : GoodP scr a) (hb : GoodP scr b) : GoodP scr (a ++ b) := fun p hp => (List.mem_append.1 hp).elim (ha p) (hb p)

theorem bt_ib (s : ByteArray) (k : Nat) : bt s k = ib (s.data.toList.getD k 0) := by
  rw [bt_list]
  simp only [List.getD, List.getElem?_map]
  cases s.data.toList[k]? <;> rfl
theorem size_list (s : ByteArray) : s.data.toList.length = s.size := Array.length_toList
theorem bt_mid {s : ByteArray} {pre x post : List UInt8} (h : s.data.toList = pre ++ (x ++ post)) {i : Nat} (hi : i < x.length) : bt s (pre.length + i) = ib x[i] := by
  rw [bt_ib, h]
  simp only [List.getD]
  rw [List.getElem?_append_right (by omega), List.getElem?_append_left (by omega), Nat.add_sub_cancel_left, List.getElem?_eq_getElem hi]
  rfl
theorem bt_post {s : ByteArray} {pre x : List UInt8} {c : UInt8} {cs : List UInt8} (h : s.data.toList = pre ++ (x ++ c :: cs)) : bt s (pre.length + x.length) = ib c := by
  rw [bt_ib, h]
  simp only [List.getD]
  rw [List.getElem?_append_right (by omega), List.getElem?_append_right (by omega), Nat.add_sub_cancel_left, Nat.sub_self]
  rfl
theorem mid_size {s : ByteArray} {pre x post : List UInt8} (h : s.data.toList = pre ++ (x ++ post)) : s.size = pre.length + x.length + post.length := by
  rw [← size_list, h, List.length_append, List.length_append]
  omega
theorem mid_extract {s : ByteArray} {pre x post : List UInt8} (h : s.data.toList = pre ++ (x ++ post)) {y : ByteArray} (hy : y.data.toList = x) : s.extract pre.length (pre.length + x.length) = y := by
  apply bytes_ext
  rw [Lib.extract_data, h, hy, List.drop_append_of_le_length (Nat.le_refl _), List.drop_eq_nil_of_le (Nat.le_refl _), List.nil_append, Nat.add_sub_cancel_left, List.take_append_of_le_length (Nat.le_refl _), List.take_of_length_le (Nat.le_refl _)]
def NextOk (scr : Bool) (post : List UInt8) : Prop := ∀ c cs, post = c :: cs → worB scr (ib c) = false
theorem run_mid {s : ByteArray} {pre x post : List UInt8} (h : s.data.toList = pre ++ (x ++ post)) {p : Int → Bool} (hx : ∀ b ∈ x, p (ib b) = true) (hp : ∀ c cs, post = c :: cs → p (ib c) = false) : RunEnd p s pre.length (pre.length + x.length) := by
  have hz := mid_size h
  refine ⟨by omega, by omega, fun j h1 h2 => ?_, fun h1 => ?_⟩
  · obtain ⟨i, rfl⟩ : ∃ i, j = pre.length + i := ⟨j - pre.length, by omega⟩
    have hi : i < x.length := by omega
    rw [bt_mid h hi]
    exact hx _ (List.getElem_mem hi)
  · cases post with
    | nil => rw [List.length_nil] at hz; omega
    | cons c cs => rw [bt_post h]; exact hp c cs rfl

theorem dec_data {n : Int} (h0 : 0 ≤ n) : (strOfNums (decL n)).data.toList = (dgk n (dcn n)).map fun k => UInt8.ofNat k.toNat := by rw [strOfNums_data, decL_pos h0]
theorem dec_at {n : Int} (h0 : 0 ≤ n) {i : Nat} (hi : i < ((strOfNums (decL n)).data.toList).length) : ib ((strOfNums (decL n)).data.toList)[i] = 48 + n / 10 ^ (dcn n - 1 - i) % 10 := by
  have e := dec_data h0
  have hl : ((strOfNums (decL n)).data.toList).length = dcn n := by rw [e, List.length_map, dgk_length]
  have h1 : ((strOfNums (decL n)).data.toList)[i]? = some (UInt8.ofNat (48 + n / 10 ^ (dcn n - 1 - i) % 10).toNat) := by
    rw [e, List.getElem?_map]
    have := dgk_at n (dcn n) (dcn n - 1 - i) (by omega)
    rw [show dcn n - 1 - (dcn n - 1 - i) = i from by omega] at this
    rw [this]
    rfl
  rw [List.getElem?_eq_getElem hi] at h1
  rw [Option.some.inj h1]
  unfold ib
  rw [UInt8.toNat_ofNat']
  omega
theorem dval_dec {s : ByteArray} {a c : Nat} {n : Int} (h0 : 0 ≤ n) (hn : n < 10 ^ c) (h : ∀ i, i < c → bt s (a + i) = 48 + n / 10 ^ (c - 1 - i) % 10) : ∀ k, k ≤ c → dval s a k = n / 10 ^ (c - k) := by
  intro k
  induction k with
  | zero => intro _; rw [dval, Nat.sub_zero, Int.ediv_eq_zero_of_lt h0 hn]
  | succ k ih =>
    intro hk
    rw [dval, ih (by omega), h k (by omega), show c - (k + 1) = c - 1 - k from by omega, show c - k = (c - 1 - k) + 1 from by omega, ← tenth]
    omega
theorem num_mid {s : ByteArray} {pre post : List UInt8} {scr : Bool} {n : Int} (h0 : 0 ≤ n) (h1 : n ≤ 1000000) (h : s.data.toList = pre ++ ((strOfNums (decL n)).data.toList ++ post)) (hp : NextOk scr post) : NumAt s pre.length scr n (pre.length + ((strOfNums (decL n)).data.toList).length) ∧ digB (bt s pre.length) = true := by
  have hl : ((strOfNums (decL n)).data.toList).length = dcn n := by rw [dec_data h0, List.length_map, dgk_length]
  obtain ⟨a1, a2, a3, a4⟩ := dcn_facts n h0 (by omega)
  have hb : ∀ i, i < dcn n → bt s (pre.length + i) = 48 + n / 10 ^ (dcn n - 1 - i) % 10 := fun i hi => by
    rw [bt_mid h (by omega), dec_at h0]
  have hd : ∀ b ∈ (strOfNums (decL n)).data.toList, digB (ib b) = true := by
    intro b hb
    obtain ⟨i, hi, rfl⟩ := List.getElem_of_mem hb
    rw [dec_at h0, digB_iff]
    omega
  have hz := mid_size h
  refine ⟨⟨run_mid h hd fun c cs e => ?_, by omega, ?_, ?_, h1, fun hlt => ?_⟩, ?_⟩
  · have := hp c cs e
    simp only [worB, Bool.or_eq_false_iff] at this
    exact this.2
  · rcases a4 with a4 | a4
    · left; rw [hl, a4]
    · right
      have := hb 0 (by omega)
      rw [Nat.add_zero, Nat.sub_zero] at this
      rw [this]
      have e1 : 1 ≤ n / 10 ^ (dcn n - 1) := by rw [Int.le_ediv_iff_mul_le (pow10_pos _), Int.one_mul]; exact a4
      have e2 : n / 10 ^ (dcn n - 1) < 10 := by
        rw [Int.ediv_lt_iff_lt_mul (pow10_pos _), Int.mul_comm, ← pow10, show dcn n - 1 + 1 = dcn n from by omega]
        exact a3
      omega
  · rw [Nat.add_sub_cancel_left, hl, dval_dec h0 a3 hb _ (Nat.le_refl _), Nat.sub_self, Int.pow_zero, Int.ediv_one]
  · cases post with
    | nil => rw [List.length_nil] at hz; omega
    | cons c cs =>
      rw [bt_post h]
      have := hp c cs rfl
      simp only [worB, Bool.or_eq_false_iff] at this
      exact this.1
  · have := hb 0 (by omega)
    rw [Nat.add_zero] at this
    rw [this, digB_iff]
    omega
theorem tok_mid {s : ByteArray} {pre post : List UInt8} {scr : Bool} {t : Tn} (ht : GoodT scr t) (h : s.data.toList = pre ++ (renT t ++ post)) (hp : wordy t = true → NextOk scr post) :
    Tok s scr pre.length ⟨t.kind, t.text, t.num, pre.length⟩ (pre.length + (renT t).length) ∧ pre.length < s.size ∧ ¬ Blank (bt s pre.length) ∧ ¬ Slashes s pre.length := by
  have hz := mid_size h
  cases ht using GoodT.elim with
  | @name x c cs hx hc hs =>
    have hr : renT ⟨1, x, 0⟩ = c :: cs := hx
    rw [hr] at h hz ⊢
    have h0 : bt s pre.length = ib c := by have := bt_mid h (i := 0) (by simp); simpa using this
    have hw : ∀ b ∈ c :: cs, worB scr (ib b) = true := by
      intro b hb
      rcases List.mem_cons.1 hb with rfl | hb
      · unfold worB; rw [hc]; rfl
      · exact hs b hb
    have := Tok.name (s := s) (scr := scr) (a := pre.length) (by rw [h0]; exact hc) (run_mid h hw (hp rfl))
    rw [mid_extract h hx] at this
    rw [letB_iff] at hc
    refine ⟨this, by simp at hz; omega, ?_, fun k => ?_⟩
    · rw [h0]; unfold Blank; omega
    · have := k.1; rw [h0] at this; omega
  | @num n h0 h1 =>
    have hr : renT ⟨2, { data := #[] }, n⟩ = (strOfNums (decL n)).data.toList := rfl
    rw [hr] at h hz ⊢
    obtain ⟨h2, h3⟩ := num_mid h0 h1 h (hp rfl)
    have := Tok.num (s := s) (scr := scr) (a := pre.length) h3 h2
    rw [digB_iff] at h3
    refine ⟨this, by have := h2.1.2.1; have := h2.2.1; omega, by unfold Blank; omega, fun k => by have := k.1; omega⟩
  | @str x h0 hs =>
    have hr : renT ⟨3, x, 0⟩ = 34 :: (x.data.toList ++ [34]) := rfl
    rw [hr] at h hz ⊢
    have hl := size_list x
    have b0 : bt s pre.length = 34 := by have := bt_mid h (i := 0) (by simp); simpa [ib] using this
    have e1 : (34 :: (x.data.toList ++ [34]) : List UInt8).length = x.size + 2 := by simp [hl]
    rw [e1] at hz ⊢
    have h' : s.data.toList = (pre ++ [34]) ++ (x.data.toList ++ ([34] ++ post)) := by rw [h]; simp
    have hj : ∀ i, (hi : i < x.data.toList.length) → bt s (pre.length + 1 + i) = ib x.data.toList[i] := fun i hi => by
      have := bt_mid h' (i := i) hi
      rw [List.length_append] at this
      exact this
    have hx : s.extract (pre.length + 1) (pre.length + (x.size + 2) - 1) = x := by
      have := mid_extract h' (y := x) rfl
      rw [List.length_append, hl] at this
      rw [show pre.length + (x.size + 2) - 1 = pre.length + [(34 : UInt8)].length + x.size from by simp; omega]
      exact this
    have he : bt s (pre.length + (x.size + 2) - 1) = 34 := by
      have := bt_post (s := s) (pre := pre ++ [34]) (x := x.data.toList) (c := 34) (cs := post) (by rw [h']; simp)
      rw [List.length_append, hl] at this
      rw [show pre.length + (x.size + 2) - 1 = pre.length + [(34 : UInt8)].length + x.size from by simp; omega]
      exact this
    have := Tok.str (s := s) (scr := scr) (a := pre.length) (e := pre.length + (x.size + 2)) b0 ⟨by omega, by omega, by omega, he, fun j g1 g2 => by
      obtain ⟨i, rfl⟩ : ∃ i, j = pre.length + 1 + i := ⟨j - pre.length - 1, by omega⟩
      rw [hj i (by omega)]
      exact hs _ (List.getElem_mem _)⟩
    rw [hx] at this
    refine ⟨this, by omega, by rw [b0]; unfold Blank; omega, fun k => by have := k.1; omega⟩
  | @sign x c hx hc =>
    have hr : renT ⟨4, x, 0⟩ = [c] := hx
    rw [hr] at h hz ⊢
    have h0 : bt s pre.length = ib c := by have := bt_mid h (i := 0) (by simp); simpa using this
    have := Tok.sign (s := s) (scr := scr) (a := pre.length) (by rw [h0]; exact hc)
    have e := mid_extract h hx
    simp only [List.length_cons, List.length_nil, Nat.zero_add] at e hz
    rw [e] at this
    refine ⟨this, by omega, ?_, fun k => ?_⟩
    · rw [h0]; unfold Sign at hc; unfold Blank; omega
    · have := k.1; rw [h0] at this; unfold Sign at hc; omega
theorem skip_sep {s : ByteArray} {pre x post : List UInt8} (hx : SepOk x) (h : s.data.toList = pre ++ (x ++ post)) {b : Nat} (hs : Skip s (pre.length + x.length) b) : Skip s pre.length b := by
  have hz := mid_size h
  rcases hx with rfl | rfl | rfl
  · have h0 : bt s pre.length = 32 := by have := bt_mid h (i := 0) (by simp); simpa [ib] using this
    simp at hz hs
    exact .blank (by omega) (by rw [h0]; exact .inr (.inr (.inr rfl))) hs
  · have h0 : bt s pre.length = 10 := by have := bt_mid h (i := 0) (by simp); simpa [ib] using this
    simp at hz hs
    exact .blank (by omega) (by rw [h0]; exact .inr (.inl rfl)) hs
  · have h0 : bt s pre.length = 32 := by have := bt_mid h (i := 0) (by simp); simpa [ib] using this
    have h1 : bt s (pre.length + 1) = 47 := by have := bt_mid h (i := 1) (by simp); simpa [ib] using this
    have h2 : bt s (pre.length + 2) = 47 := by have := bt_mid h (i := 2) (by simp); simpa [ib] using this
    have h3 : bt s (pre.length + 3) = 32 := by have := bt_mid h (i := 3) (by simp); simpa [ib] using this
    have h4 : bt s (pre.length + 4) = 120 := by have := bt_mid h (i := 4) (by simp); simpa [ib] using this
    have h5 : bt s (pre.length + 5) = 10 := by have := bt_mid h (i := 5) (by simp); simpa [ib] using this
    simp at hz hs
    refine .blank (by omega) (by rw [h0]; exact .inr (.inr (.inr rfl))) ?_
    refine .comment (c := pre.length + 5) (by omega) ⟨h1, by omega, h2⟩ ⟨by omega, by omega, fun j g1 g2 => ?_, fun _ => by rw [h5]; rfl⟩ ?_
    · obtain k | k | k | k : j = pre.length + 1 ∨ j = pre.length + 2 ∨ j = pre.length + 3 ∨ j = pre.length + 4 := by omega
      · rw [k, h1]; rfl
      · rw [k, h2]; rfl
      · rw [k, h3]; rfl
      · rw [k, h4]; rfl
    · exact .blank (by omega) (by rw [h5]; exact .inr (.inl rfl)) hs
theorem next_ok {scr : Bool} {l : List Pc} (hg : GoodP scr l) (ha : adj true l) : NextOk scr (txtP l) := by
  intro c cs e
  cases l with
  | nil => cases e
  | cons p l =>
    cases p with
    | inr x =>
      have hx : SepOk x := hg (.inr x) (List.mem_cons_self ..)
      simp only [txtP] at e
      rcases hx with rfl | rfl | rfl <;> simp only [List.cons_append] at e <;> cases e <;> cases scr <;> rfl
    | inl t =>
      have ht : GoodT scr t := hg (.inl t) (List.mem_cons_self ..)
      have hw := ha.1 rfl
      simp only [txtP] at e
      cases ht using GoodT.elim with
      | name _ _ _ => cases hw
      | num _ _ => cases hw
      | str _ _ => simp [renT] at e; rw [← e.1]; cases scr <;> rfl
      | @sign x c' hx hc =>
        have hr : renT ⟨4, x, 0⟩ = [c'] := hx
        rw [hr] at e
        simp at e
        rw [← e.1]
        simp only [worB, Bool.or_eq_false_iff]
        have h1 : letB (ib c') scr = false := by
          cases hl : letB (ib c') scr with
          | false => rfl
          | true => exact absurd hc (let_dig hl).2.2
        have h2 : digB (ib c') = false := by
          cases hl : digB (ib c') with
          | false => rfl
          | true => exact absurd hc (dig_str hl).2
        exact ⟨h1, h2⟩
theorem lex_from {scr : Bool} {s : ByteArray} (P : List Pc) : ∀ (w : Bool) (pre : List UInt8) (n : Nat), s.data.toList = pre ++ txtP P → GoodP scr P → adj w P → n + (tksP P).length ≤ 4000 →
    ∃ b ts, Skip s pre.length b ∧ Lx s scr b n (.ok ts) ∧ ts.map stpT = tksP P := by
  induction P with
  | nil =>
    intro w pre n h _ _ _
    have hz : s.size = pre.length := by rw [← size_list, h]; simp [txtP]
    refine ⟨pre.length, [], ?_, ?_, rfl⟩
    · rw [← hz]; exact .done
    · rw [← hz]; exact .done
  | cons p l ih =>
    intro w pre n h hg ha hn
    have hg' : GoodP scr l := fun q hq => hg q (List.mem_cons_of_mem _ hq)
    cases p with
    | inr x =>
      have hx : SepOk x := hg (.inr x) (List.mem_cons_self ..)
      simp only [txtP] at h
      obtain ⟨b, ts, h1, h2, h3⟩ := ih false (pre ++ x) n (by rw [h, List.append_assoc]) hg' ha hn
      rw [List.length_append] at h1
      exact ⟨b, ts, skip_sep hx h h1, h2, h3⟩
    | inl t =>
      have ht : GoodT scr t := hg (.inl t) (List.mem_cons_self ..)
      simp only [txtP] at h
      simp only [tksP, List.length_cons] at hn
      obtain ⟨b, ts, h1, h2, h3⟩ := ih (wordy t) (pre ++ renT t) (n + 1) (by rw [h, List.append_assoc]) hg' ha.2 (by omega)
      obtain ⟨k1, k2, k3, k4⟩ := tok_mid ht h fun hw => next_ok hg' (by have := ha.2; rw [hw] at this; exact this)
      rw [List.length_append] at h1
      refine ⟨pre.length, _, .stop k2 k3 k4, .tok (r := .ok ts) k2 (by omega) k1 h1 h2, ?_⟩
      simp only [List.map_cons, h3, tksP]
      rfl
theorem lex_text {scr : Bool} {s : ByteArray} {P : List Pc} (h : s.data.toList = txtP P) (hg : GoodP scr P) (ha : adj false P) (hn : (tksP P).length ≤ 4000) : ∃ ts, LexR s scr (.ok ts) ∧ ts.map stpT = tksP P := by
  obtain ⟨b, ts, h1, h2, h3⟩ := lex_from P false [] 0 (by rw [h]; rfl) hg ha (by omega)
  exact ⟨ts, ⟨b, h1, h2⟩, h3⟩

theorem tok_good {s : ByteArray} {scr : Bool} {a e : Nat} {t : Tk} (ha : a < s.size) (h : Tok s scr a t e) : GoodT scr (stpT t) := by
  have hcut : ∀ e, a ≤ e → e ≤ s.size → ∀ b ∈ (s.extract a e).data.toList, ∃ j, a ≤ j ∧ j < e ∧ ib b = bt s j := by
    intro e h1 h2 b hb
    rw [Lib.extract_data] at hb
    obtain ⟨i, hi, rfl⟩ := List.getElem_of_mem hb
    rw [List.length_take, List.length_drop, size_list] at hi
    refine ⟨a + i, by omega, by omega, ?_⟩
    rw [bt_ib, List.getElem_take, List.getElem_drop]
    simp only [List.getD]
    rw [List.getElem?_eq_getElem (by rw [size_list]; omega)]
    rfl
  have he := tok_end ha h
  cases h using Tok.elim with
  | name h he' =>
    have hl : (s.extract a e).data.toList = s.data.toList[a]'(by rw [size_list]; exact ha) :: ((s.data.toList.drop (a + 1)).take (e - a - 1)) := by
      rw [Lib.extract_data, List.drop_eq_getElem_cons (by rw [size_list]; exact ha), show e - a = (e - a - 1) + 1 from by omega, List.take_succ_cons]
      rfl
    have hb : ib (s.data.toList[a]'(by rw [size_list]; exact ha)) = bt s a := by
      rw [bt_ib]
      simp only [List.getD]
      rw [List.getElem?_eq_getElem (by rw [size_list]; exact ha)]
      rfl
    refine GoodT.name hl (by rw [hb]; exact h) fun b hb => ?_
    obtain ⟨j, j1, j2, j3⟩ := hcut e (by omega) he.2.1 b (by rw [hl]; exact List.mem_cons_of_mem _ hb)
    rw [j3]
    exact he'.2.2.1 j j1 j2
  | @num n _ h he' =>
    refine GoodT.num ?_ he'.2.2.2.2.1
    rw [he'.2.2.2.1]
    refine (dval_mono (e - a) (e - a) (fun j hj => ?_) (Nat.le_refl _)).1
    have := he'.1.2.2.1 (a + j) (by omega) (by omega)
    rw [digB_iff] at this
    exact this.1
  | str h he' =>
    obtain ⟨h1, h2, h3, h4, h5⟩ := he'
    refine GoodT.str ?_ fun b hb => ?_
    · rw [← size_list, Lib.extract_data, List.length_take, List.length_drop, size_list]
      omega
    · rw [Lib.extract_data] at hb
      obtain ⟨i, hi, rfl⟩ := List.getElem_of_mem hb
      rw [List.length_take, List.length_drop, size_list] at hi
      have := h5 (a + 1 + i) (by omega) (by omega)
      rw [bt_ib] at this
      simp only [List.getD] at this
      rw [List.getElem?_eq_getElem (by rw [size_list]; omega)] at this
      rw [List.getElem_take, List.getElem_drop]
      exact this
  | sign h =>
    have hl : (s.extract a (a + 1)).data.toList = [s.data.toList[a]'(by rw [size_list]; exact ha)] := by
      rw [Lib.extract_data, List.drop_eq_getElem_cons (by rw [size_list]; exact ha), Nat.add_sub_cancel_left, List.take_succ_cons]
      rfl
    have hb : ib (s.data.toList[a]'(by rw [size_list]; exact ha)) = bt s a := by
      rw [bt_ib]
      simp only [List.getD]
      rw [List.getElem?_eq_getElem (by rw [size_list]; exact ha)]
      rfl
    exact GoodT.sign hl (by rw [hb]; exact h)
theorem lx_good {s : ByteArray} {scr : Bool} {a n : Nat} {r : Except Nat (List Tk)} (h : Lx s scr a n r) : ∀ ts, r = .ok ts → ∀ t ∈ ts, GoodT scr (stpT t) := by
  induction h using Lx.ind with
  | done => intro ts hr t ht; cases hr; cases ht
  | bad _ _ => intro ts hr; cases hr
  | @tok a n e b t r h hn ht hs hr ih =>
    intro ts hts u hu
    cases r with
    | error p => simp [Except.map] at hts
    | ok l =>
      simp only [Except.map, Except.ok.injEq] at hts
      subst hts
      rcases List.mem_cons.1 hu with rfl | hu
      · exact tok_good h ht
      · exact ih l rfl u hu
end Go.Proofs.Ytkplighmefigcaa
