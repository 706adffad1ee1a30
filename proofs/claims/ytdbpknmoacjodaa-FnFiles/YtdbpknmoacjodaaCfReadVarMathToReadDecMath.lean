/-
  Plain facts on what bytes of seven bits say, and on which of them are just the bytes of a number. No program is spoken of.
  Plain facts on decimal digits. No program is spoken of.
  Plain facts on which texts are decimal numbers of at most nine digits, and of which. No program is spoken of.
-/
import Derived.Lib.EndianBits
import Derived.Test.YtdbpknmoacjodaaCfAidToBytes
namespace Go.Proofs.Ytdbpknmoacjodaa
open Go.RowKit Go.PlainAid

def hvm (s : ByteArray) : Nat → Nat → Int
  | _, 0 => 0
  | i, m + 1 => bt s i % 128 + 128 * hvm s (i + 1) m
theorem hvm_nonneg (s : ByteArray) (i m : Nat) : 0 ≤ hvm s i m := by
  induction m generalizing i with
  | zero => simp [hvm]
  | succ m ih => have := ih (i + 1); simp only [hvm]; omega
theorem pow7 (k : Nat) : (2 : Int) ^ (7 * (k + 1)) = 128 * 2 ^ (7 * k) := by
  rw [show 7 * (k + 1) = 7 + 7 * k from by omega, Int.pow_add]; rfl
theorem pow7_pos (k : Nat) : (0 : Int) < 2 ^ (7 * k) := Int.pow_pos (by omega)
theorem hvm_lt (s : ByteArray) (i m : Nat) : hvm s i m < 2 ^ (7 * m) := by
  induction m generalizing i with
  | zero => simp [hvm]
  | succ m ih =>
    have := ih (i + 1)
    have h0 := bt_nonneg s i
    rw [pow7]
    simp only [hvm]
    omega
theorem hvm_snoc (s : ByteArray) (i m : Nat) : hvm s i (m + 1) = hvm s i m + bt s (i + m) % 128 * 2 ^ (7 * m) := by
  induction m generalizing i with
  | zero => simp [hvm]
  | succ m ih =>
    rw [hvm, ih (i + 1), hvm, pow7, show i + 1 + m = i + (m + 1) from by omega, Int.mul_add]
    have : bt s (i + (m + 1)) % 128 * (128 * 2 ^ (7 * m)) = 128 * (bt s (i + (m + 1)) % 128 * 2 ^ (7 * m)) := by
      rw [← Int.mul_assoc, Int.mul_comm _ 128, Int.mul_assoc]
    omega
def rv (s : ByteArray) (k : Nat) : Int := hvm s 0 k
theorem rv_zero (s : ByteArray) : rv s 0 = 0 := rfl
theorem rv_succ (s : ByteArray) (k : Nat) : rv s (k + 1) = rv s k + bt s k % 128 * 2 ^ (7 * k) := by
  have := hvm_snoc s 0 k
  rwa [Nat.zero_add] at this
theorem pow7_le (k : Nat) (h : k ≤ 7) : (2 : Int) ^ (7 * k) ≤ 562949953421312 := by
  match k, h with
  | 0, _ => decide
  | 1, _ => decide
  | 2, _ => decide
  | 3, _ => decide
  | 4, _ => decide
  | 5, _ => decide
  | 6, _ => decide
  | 7, _ => decide
theorem hvm_bd (s : ByteArray) (i k : Nat) (h : k ≤ 7) : 0 ≤ hvm s i k ∧ hvm s i k ≤ 562949953421311 := by
  have h1 := hvm_lt s i k
  have h2 := pow7_le k h
  exact ⟨hvm_nonneg s i k, by omega⟩
theorem rv_bd (s : ByteArray) (k : Nat) (h : k ≤ 7) : 0 ≤ rv s k ∧ rv s k ≤ 562949953421311 := hvm_bd s 0 k h
theorem term_bd (s : ByteArray) (k : Nat) (h : k < 7) : 0 ≤ bt s k % 128 * 2 ^ (7 * k) ∧ bt s k % 128 * 2 ^ (7 * k) ≤ 562949953421311 := by
  have h1 := rv_succ s k
  have h2 := rv_bd s (k + 1) (by omega)
  have h3 := rv_bd s k (by omega)
  have h4 : 0 ≤ bt s k % 128 * 2 ^ (7 * k) := Int.mul_nonneg (by omega) (Int.le_of_lt (pow7_pos k))
  omega
theorem or_term (s : ByteArray) (k : Nat) (h : k < 7) : bits .or .i64 (rv s k) (wrap64 (bt s k % 128 * 2 ^ (7 * k))) = rv s (k + 1) := by
  have h1 := term_bd s k h
  have h2 := rv_bd s k (by omega)
  rw [IntWalk.wrap64_in _ ⟨by omega, by omega⟩, rv_succ]
  refine bits_join_low .i64 63 (by decide) (fun n a b => by rw [IntKind.wrap_i64]; omega) (7 * k) _ _ h2.1 (hvm_lt s 0 k) (by omega) h1.1 ?_ (by omega)
  rw [Int.mul_comm]
  exact Int.mul_emod_right _ _

def Can (s : ByteArray) : Nat → Nat → Prop
  | _, 0 => False
  | i, 1 => bt s i < 128
  | i, m + 2 => 128 ≤ bt s i ∧ Can s (i + 1) (m + 1) ∧ (m = 0 → bt s (i + 1) ≠ 0)
theorem can_iff (s : ByteArray) (i m : Nat) : Can s i (m + 1) ↔ (∀ j, j < m → 128 ≤ bt s (i + j)) ∧ bt s (i + m) < 128 ∧ (m = 0 ∨ bt s (i + m) ≠ 0) := by
  induction m generalizing i with
  | zero => simp [Can]
  | succ m ih =>
    rw [Can, ih (i + 1)]
    constructor
    · rintro ⟨h0, ⟨h1, h2, h3⟩, h4⟩
      refine ⟨?_, ?_, ?_⟩
      · intro j hj
        cases j with
        | zero => exact h0
        | succ j => have := h1 j (by omega); rwa [show i + 1 + j = i + (j + 1) from by omega] at this
      · rwa [show i + 1 + m = i + (m + 1) from by omega] at h2
      · right
        rw [show i + (m + 1) = i + 1 + m from by omega]
        rcases h3 with rfl | h3
        · exact h4 rfl
        · exact h3
    · rintro ⟨h1, h2, h3⟩
      rw [show i + (m + 1) = i + 1 + m from by omega] at h2 h3
      refine ⟨h1 0 (by omega), ⟨?_, h2, ?_⟩, ?_⟩
      · intro j hj
        have := h1 (j + 1) (by omega)
        rwa [show i + (j + 1) = i + 1 + j from by omega] at this
      · rcases h3 with h3 | h3
        · omega
        · exact .inr h3
      · rintro rfl
        rcases h3 with h3 | h3
        · omega
        · exact h3
theorem can_pos (s : ByteArray) (i m : Nat) (h : Can s i (m + 1)) (hz : m = 0 → bt s i ≠ 0) : 1 ≤ hvm s i (m + 1) := by
  induction m generalizing i with
  | zero =>
    have := hz rfl
    have h0 := bt_nonneg s i
    simp only [Can] at h
    simp only [hvm]
    omega
  | succ m ih =>
    obtain ⟨h0, h1, h2⟩ := h
    have := ih (i + 1) h1 h2
    rw [hvm]
    have := bt_nonneg s i
    omega
theorem vl_can (s : ByteArray) (i m f : Nat) (hf : m ≤ f) (h : Can s i (m + 1)) : vl f (hvm s i (m + 1)) = bsl s i (m + 1) := by
  induction m generalizing i f with
  | zero =>
    simp only [Can] at h
    have h0 := bt_nonneg s i
    simp only [hvm, bsl]
    rw [vl_small _ _ (by omega)]
    congr 1
    omega
  | succ m ih =>
    obtain ⟨h0, h1, h2⟩ := h
    have hp := can_pos s (i + 1) m h1 h2
    have hb := bt_le s i
    match f, hf with
    | f + 1, hf =>
      rw [hvm, vl_more _ _ (by omega), bsl, ← ih (i + 1) f (by omega) h1]
      congr 1
      · omega
      · congr 1
        omega
theorem can_of_vl (s : ByteArray) (i m f : Nat) (hf : m ≤ f) (h : vl f (hvm s i (m + 1)) = bsl s i (m + 1)) : Can s i (m + 1) := by
  induction m generalizing i f with
  | zero =>
    have h0 := bt_nonneg s i
    simp only [hvm, bsl] at h
    rw [vl_small _ _ (by omega)] at h
    simp only [List.cons.injEq, and_true] at h
    simp only [Can]
    omega
  | succ m ih =>
    match f, hf with
    | f + 1, hf =>
      have h0 := bt_nonneg s i
      by_cases hq : hvm s i (m + 2) < 128
      · rw [vl_small _ _ hq] at h
        have := congrArg List.length h
        rw [bsl_length] at this
        simp at this
      · rw [vl_more _ _ hq, bsl, List.cons.injEq] at h
        obtain ⟨e1, e2⟩ := h
        rw [hvm] at e1 e2 hq
        rw [show (bt s i % 128 + 128 * hvm s (i + 1) (m + 1)) / 128 = hvm s (i + 1) (m + 1) from by omega] at e2
        refine ⟨by omega, ih (i + 1) f (by omega) e2, ?_⟩
        rintro rfl hz
        simp only [hvm, hz] at hq
        omega
theorem vl_bd (f : Nat) (q : Int) (h0 : 0 ≤ q) (h1 : q < 2 ^ (7 * (f + 1))) : ∀ x ∈ vl f q, 0 ≤ x ∧ x ≤ 255 := by
  induction f generalizing q with
  | zero =>
    intro x hx
    simp only [vl, List.mem_singleton] at hx
    subst hx
    have : (2 : Int) ^ (7 * (0 + 1)) = 128 := by decide
    omega
  | succ f ih =>
    intro x hx
    by_cases hq : q < 128
    · rw [vl_small _ _ hq] at hx
      simp only [List.mem_singleton] at hx
      omega
    · rw [vl_more _ _ hq, List.mem_cons] at hx
      rcases hx with rfl | hx
      · omega
      · rw [pow7] at h1
        exact ih (q / 128) (by omega) (by omega) x hx
theorem same_iff (s : ByteArray) (k : Nat) (hk : k < 7) (hs : k + 1 ≤ s.size) : strOfNums (varL (rv s (k + 1))) = s.extract 0 (k + 1) ↔ Can s 0 (k + 1) := by
  have hb := rv_bd s (k + 1) (by omega)
  rw [varL_yes hb.1 hb.2, extract_bsl s (k + 1) hs]
  constructor
  · intro h
    refine can_of_vl s 0 k 6 (by omega) (strOfNums_inj ?_ (bsl_bd s 0 _) h)
    have hp : (2 : Int) ^ (7 * (6 + 1)) = 562949953421312 := by decide
    exact vl_bd 6 (rv s (k + 1)) hb.1 (by omega)
  · intro h
    exact congrArg strOfNums (vl_can s 0 k 6 (by omega) h)

def rvGo (s : ByteArray) : Nat → Nat → Int × Int
  | 0, _ => (0, 0)
  | f + 1, i => if i < s.size then (if 128 ≤ bt s i then rvGo s f (i + 1) else if bt s i = 0 ∧ 0 < i then (0, 0) else (rv s (i + 1), (i : Int) + 1)) else (0, 0)
def rvAns (s : ByteArray) : Int × Int := rvGo s 7 0
theorem rvGo_on (s : ByteArray) (i : Nat) (hi : i < 7) (hs : i < s.size) (hb : 128 ≤ bt s i) : rvGo s (7 - i) i = rvGo s (7 - (i + 1)) (i + 1) := by
  rw [show 7 - i = (7 - (i + 1)) + 1 from by omega, rvGo, if_pos hs, if_pos hb]
theorem rvGo_none (s : ByteArray) (i : Nat) (hi : i < 7) (hs : i < s.size) (hb : ¬ 128 ≤ bt s i) (hz : bt s i = 0 ∧ 0 < i) : rvGo s (7 - i) i = (0, 0) := by
  rw [show 7 - i = (7 - (i + 1)) + 1 from by omega, rvGo, if_pos hs, if_neg hb, if_pos hz]
theorem rvGo_is (s : ByteArray) (i : Nat) (hi : i < 7) (hs : i < s.size) (hb : ¬ 128 ≤ bt s i) (hz : ¬ (bt s i = 0 ∧ 0 < i)) : rvGo s (7 - i) i = (rv s (i + 1), (i : Int) + 1) := by
  rw [show 7 - i = (7 - (i + 1)) + 1 from by omega, rvGo, if_pos hs, if_neg hb, if_neg hz]
theorem rvGo_end (s : ByteArray) (i : Nat) (h : ¬ (i < s.size ∧ i < 7)) : rvGo s (7 - i) i = (0, 0) := by
  by_cases hi : i < 7
  · rw [show 7 - i = (7 - (i + 1)) + 1 from by omega, rvGo, if_neg (fun k => h ⟨k, hi⟩)]
  · rw [show 7 - i = 0 from by omega, rvGo]
end Go.Proofs.Ytdbpknmoacjodaa
namespace Go.Proofs.Ytdbpknmoacjodaa
open Go.RowKit Go.PlainAid

theorem pow10_pos (k : Nat) : (0 : Int) < 10 ^ k := Int.pow_pos (by omega)
theorem pow10 (k : Nat) : (10 : Int) ^ (k + 1) = 10 ^ k * 10 := Int.pow_succ _ _
theorem pow10_mono {a b : Nat} (h : a ≤ b) : (10 : Int) ^ a ≤ 10 ^ b := by
  induction b with
  | zero =>
    obtain rfl : a = 0 := by omega
    exact Int.le_refl _
  | succ b ih =>
    by_cases e : a = b + 1
    · rw [e]; exact Int.le_refl _
    · have := ih (by omega)
      have := pow10_pos b
      rw [pow10]
      omega
theorem tenth (n : Int) (k : Nat) : n / 10 ^ k / 10 = n / 10 ^ (k + 1) := by
  rw [pow10, Int.ediv_ediv_of_nonneg (Int.le_of_lt (pow10_pos k))]
theorem tenth_bd (n : Int) (k : Nat) (h : 0 ≤ n) : 0 ≤ n / 10 ^ k ∧ n / 10 ^ k ≤ n :=
  ⟨Int.ediv_nonneg h (Int.le_of_lt (pow10_pos k)), Int.ediv_le_self _ h⟩

def dc : Nat → Int → Nat
  | 0, _ => 1
  | f + 1, q => if q < 10 then 1 else dc f (q / 10) + 1
theorem dc_facts (f : Nat) (q : Int) (h0 : 0 ≤ q) (h : q < 10 ^ (f + 1)) : 1 ≤ dc f q ∧ dc f q ≤ f + 1 ∧ q < 10 ^ dc f q ∧ (dc f q = 1 ∨ 10 ^ (dc f q - 1) ≤ q) := by
  induction f generalizing q with
  | zero => simpa [dc] using h
  | succ f ih =>
    unfold dc
    by_cases hq : q < 10
    · rw [if_pos hq]
      exact ⟨by omega, by omega, by simpa using hq, .inl rfl⟩
    · rw [if_neg hq]
      obtain ⟨a, b, c, d⟩ := ih (q / 10) (by omega) (by rw [pow10] at h; omega)
      refine ⟨by omega, by omega, ?_, .inr ?_⟩
      · rw [pow10]; omega
      · rw [Nat.add_sub_cancel]
        rcases d with d | d
        · rw [d]
          show (10 : Int) ^ 1 ≤ q
          rw [show (10 : Int) ^ 1 = 10 from by decide]
          omega
        · rw [show dc f (q / 10) = (dc f (q / 10) - 1) + 1 from by omega, pow10]
          omega
def dcn (m : Int) : Nat := dc 19 m
theorem dcn_facts (m : Int) (h0 : 0 ≤ m) (h : m ≤ 18446744073709551615) : 1 ≤ dcn m ∧ dcn m ≤ 20 ∧ m < 10 ^ dcn m ∧ (dcn m = 1 ∨ 10 ^ (dcn m - 1) ≤ m) :=
  dc_facts 19 m h0 (by rw [show (10 : Int) ^ (19 + 1) = 100000000000000000000 by decide]; omega)
theorem more_iff (m : Int) (h0 : 0 ≤ m) (h : m ≤ 18446744073709551615) (k : Nat) : 10 ≤ m / 10 ^ k ↔ k + 1 < dcn m := by
  obtain ⟨a, b, c, d⟩ := dcn_facts m h0 h
  rw [Int.le_ediv_iff_mul_le (pow10_pos k), Int.mul_comm, ← pow10]
  constructor
  · intro hk
    rcases Nat.lt_or_ge (k + 1) (dcn m) with e | e
    · exact e
    · have := pow10_mono e
      omega
  · intro hk
    have := pow10_mono (show k + 1 ≤ dcn m - 1 by omega)
    omega
theorem some_iff (m : Int) (h0 : 1 ≤ m) (h : m ≤ 18446744073709551615) (k : Nat) : m / 10 ^ k ≠ 0 ↔ k < dcn m := by
  obtain ⟨a, b, c, d⟩ := dcn_facts m (by omega) h
  have hb := tenth_bd m k (by omega)
  have : m / 10 ^ k ≠ 0 ↔ 1 ≤ m / 10 ^ k := by omega
  rw [this, Int.le_ediv_iff_mul_le (pow10_pos k), Int.one_mul]
  constructor
  · intro hk
    rcases Nat.lt_or_ge k (dcn m) with e | e
    · exact e
    · have := pow10_mono e
      omega
  · intro hk
    have := pow10_mono (show k ≤ dcn m - 1 by omega)
    rcases d with d | d
    · obtain rfl : k = 0 := by omega
      simpa using h0
    · omega

def dgk (m : Int) : Nat → List Int
  | 0 => []
  | k + 1 => (48 + m / 10 ^ k % 10) :: dgk m k
theorem dgk_length (m : Int) (k : Nat) : (dgk m k).length = k := by
  induction k with
  | zero => rfl
  | succ k ih => simp [dgk, ih]
theorem dgk_at (m : Int) (c k : Nat) (h : k < c) : (dgk m c)[c - 1 - k]? = some (48 + m / 10 ^ k % 10) := by
  induction c with
  | zero => omega
  | succ c ih =>
    by_cases e : k = c
    · subst e
      rw [show k + 1 - 1 - k = 0 from by omega]
      rfl
    · rw [show c + 1 - 1 - k = (c - 1 - k) + 1 from by omega, dgk, List.getElem?_cons_succ]
      exact ih (by omega)
theorem dgk_bd (m : Int) (k : Nat) : ∀ x ∈ dgk m k, 48 ≤ x ∧ x ≤ 57 := by
  induction k with
  | zero => simp [dgk]
  | succ k ih =>
    intro x hx
    simp only [dgk, List.mem_cons] at hx
    rcases hx with rfl | hx
    · omega
    · exact ih x hx
def absI (n : Int) : Int := if n < 0 then -n else n
theorem absI_neg {n : Int} (h : n < 0) : absI n = -n := by simp [absI, h]
theorem absI_pos {n : Int} (h : 0 ≤ n) : absI n = n := by rw [absI, if_neg (by omega)]
def decL (n : Int) : List Int := (if n < 0 then [45] else []) ++ dgk (absI n) (dcn (absI n))
theorem decL_neg {n : Int} (h : n < 0) : decL n = 45 :: dgk (-n) (dcn (-n)) := by simp [decL, h, absI]
theorem decL_pos {n : Int} (h : 0 ≤ n) : decL n = dgk n (dcn n) := by
  have : ¬ n < 0 := by omega
  simp [decL, this, absI]
theorem decL_bd (n : Int) : ∀ x ∈ decL n, 0 ≤ x ∧ x ≤ 255 := by
  intro x hx
  simp only [decL, List.mem_append] at hx
  rcases hx with hx | hx
  · split at hx
    · simp at hx; omega
    · simp at hx
  · have := dgk_bd _ _ x hx
    omega
theorem fillBack_full (L : List Int) : fillBack L L.length = L := by simp [fillBack]
theorem fillBack_head (x : Int) (L : List Int) : (fillBack (x :: L) L.length).set 0 x = x :: L := by
  simp [fillBack]
theorem back_at (p : List Int) (m : Int) (c k : Nat) (h : k < c) : (p ++ dgk m c)[(p ++ dgk m c).length - 1 - k]? = some (48 + m / 10 ^ k % 10) := by
  rw [List.length_append, dgk_length, List.getElem?_append_right (by omega), show p.length + c - 1 - k - p.length = c - 1 - k from by omega]
  exact dgk_at m c k h
end Go.Proofs.Ytdbpknmoacjodaa
namespace Go.Proofs.Ytdbpknmoacjodaa
open Go.RowKit Go.PlainAid

theorem ten_first (m d : Int) (h0 : 0 ≤ d) (h1 : d ≤ 9) (k : Nat) : (m * 10 + d) / 10 ^ (k + 1) = m / 10 ^ k := by
  rw [Int.pow_succ, Int.mul_comm (10 ^ k) 10, ← Int.ediv_ediv_of_nonneg (by omega), show (m * 10 + d) / 10 = m from by omega]
theorem dgk_snoc (m d : Int) (h0 : 0 ≤ d) (h1 : d ≤ 9) (k : Nat) : dgk (m * 10 + d) (k + 1) = dgk m k ++ [48 + d] := by
  induction k with
  | zero =>
    simp only [dgk, Int.pow_zero, Int.ediv_one, List.nil_append]
    rw [show (m * 10 + d) % 10 = d from by omega]
  | succ k ih =>
    rw [dgk, ih, dgk, List.cons_append, ten_first m d h0 h1]

abbrev isDig (c : Int) : Prop := 48 ≤ c ∧ c ≤ 57
def dv (s : ByteArray) (p : Nat) : Nat → Int
  | 0 => 0
  | k + 1 => dv s p k * 10 + (bt s (p + k) - 48)
theorem dv_bd (s : ByteArray) (p k : Nat) (h : ∀ j, j < k → isDig (bt s (p + j))) : 0 ≤ dv s p k ∧ dv s p k < 10 ^ k := by
  induction k with
  | zero => simp [dv]
  | succ k ih =>
    obtain ⟨a, b⟩ := ih (fun j hj => h j (by omega))
    have c := h k (by omega)
    unfold isDig at c
    rw [dv, pow10]
    omega
theorem dv_low (s : ByteArray) (p k : Nat) (h : ∀ j, j < k + 1 → isDig (bt s (p + j))) (h0 : bt s p ≠ 48) : 10 ^ k ≤ dv s p (k + 1) := by
  induction k with
  | zero =>
    have c := h 0 (by omega)
    unfold isDig at c
    rw [Nat.add_zero] at c
    simp only [dv, Nat.add_zero]
    rw [show (10 : Int) ^ 0 = 1 from rfl]
    omega
  | succ k ih =>
    have a := ih (fun j hj => h j (by omega))
    have c := h (k + 1) (by omega)
    unfold isDig at c
    rw [dv, pow10]
    omega
theorem dgk_dv (s : ByteArray) (p k : Nat) (h : ∀ j, j < k → isDig (bt s (p + j))) : dgk (dv s p k) k = bsl s p k := by
  induction k with
  | zero => rfl
  | succ k ih =>
    have c := h k (by omega)
    unfold isDig at c
    rw [dv, dgk_snoc _ _ (by omega) (by omega), ih (fun j hj => h j (by omega)), bsl_snoc]
    congr 2
    omega
theorem dcn_unique (m : Int) (L : Nat) (h0 : 0 ≤ m) (h1 : m ≤ 18446744073709551615) (hL : 1 ≤ L) (hlo : L = 1 ∨ 10 ^ (L - 1) ≤ m) (hhi : m < 10 ^ L) : dcn m = L := by
  obtain ⟨a, b, c, d⟩ := dcn_facts m h0 h1
  rcases Nat.lt_trichotomy (dcn m) L with e | e | e
  · have := pow10_mono (show dcn m ≤ L - 1 by omega)
    omega
  · exact e
  · have := pow10_mono (show L ≤ dcn m - 1 by omega)
    omega
theorem pow10_le (k : Nat) (h : k ≤ 9) : (10 : Int) ^ k ≤ 1000000000 := by
  have := pow10_mono h
  have e : (10 : Int) ^ 9 = 1000000000 := by decide
  omega

def pfx (s : ByteArray) : Nat := if bt s 0 = 45 then 1 else 0
theorem pfx_le (s : ByteArray) : pfx s ≤ s.size := by
  unfold pfx
  split
  · rename_i h
    rcases Nat.eq_zero_or_pos s.size with e | e
    · rw [bt_end s (by omega)] at h
      omega
    · omega
  · omega
abbrev RdP (s : ByteArray) : Prop :=
  1 ≤ s.size - pfx s ∧ s.size - pfx s ≤ 9 ∧ (∀ j, j < s.size - pfx s → isDig (bt s (pfx s + j))) ∧ (bt s (pfx s) ≠ 48 ∨ (pfx s = 0 ∧ s.size = 1))
def rdOk (s : ByteArray) : Bool := decide (RdP s)
def rdV (s : ByteArray) : Int := if rdOk s then (if pfx s = 1 then -dv s 1 (s.size - 1) else dv s 0 s.size) else 0
theorem rdOk_yes {s : ByteArray} (h : RdP s) : rdOk s = true := decide_eq_true h
theorem rdOk_no {s : ByteArray} (h : ¬ RdP s) : rdOk s = false := decide_eq_false h
theorem rdV_no {s : ByteArray} (h : ¬ RdP s) : rdV s = 0 := by rw [rdV, rdOk_no h]; rfl

def spV (s : ByteArray) : Nat → Int
  | 0 => 0
  | k + 1 => if isDig (bt s k) then spV s k * 10 + (bt s k - 48) else spV s k
def spK (s : ByteArray) : Nat → Int
  | 0 => 0
  | k + 1 => if isDig (bt s k) then spK s k + 1 else spK s k
theorem spK_bd (s : ByteArray) (k : Nat) : 0 ≤ spK s k ∧ spK s k ≤ k := by
  induction k with
  | zero => simp [spK]
  | succ k ih =>
    simp only [spK]
    split <;> omega
theorem spV_bd (s : ByteArray) (k : Nat) : 0 ≤ spV s k ∧ spV s k < 10 ^ k := by
  induction k with
  | zero => simp [spV]
  | succ k ih =>
    have := pow10_pos k
    simp only [spV, pow10]
    split
    · rename_i h
      unfold isDig at h
      omega
    · omega
theorem sp_on (s : ByteArray) (p k : Nat) (h : ∀ j, j < k → isDig (bt s (p + j))) (hv : spV s p = 0) (hk : spK s p = 0) : spV s (p + k) = dv s p k ∧ spK s (p + k) = k := by
  induction k with
  | zero => exact ⟨hv, hk⟩
  | succ k ih =>
    obtain ⟨a, b⟩ := ih (fun j hj => h j (by omega))
    have c := h k (by omega)
    rw [show p + (k + 1) = (p + k) + 1 from by omega, spV, spK, if_pos c, if_pos c, a, b, dv]
    exact ⟨rfl, by omega⟩
theorem sp_first {s : ByteArray} (h : bt s 0 = 45) : spV s 1 = 0 ∧ spK s 1 = 0 := by
  have : ¬ isDig (bt s 0) := by rw [h]; decide
  simp [spV, spK, this]
def spN (s : ByteArray) : Int := if bt s 0 = 45 then -spV s s.size else spV s s.size
theorem lead (m : Int) (h0 : 1 ≤ m) (h1 : m ≤ 18446744073709551615) : 48 + m / 10 ^ (dcn m - 1) % 10 ≠ 48 := by
  obtain ⟨a, b, c, d⟩ := dcn_facts m (by omega) h1
  have e : m / 10 ^ (dcn m - 1) < 10 := by
    rw [Int.ediv_lt_iff_lt_mul (pow10_pos _), Int.mul_comm, ← pow10, show dcn m - 1 + 1 = dcn m from by omega]
    exact c
  have f : 1 ≤ m / 10 ^ (dcn m - 1) := by
    rw [Int.le_ediv_iff_mul_le (pow10_pos _), Int.one_mul]
    rcases d with d | d
    · rw [d]; simpa using h0
    · exact d
  omega
theorem spN_of (s : ByteArray) (h : RdP s) : spN s = rdV s ∧ spK s s.size ≤ 9 ∧ s.size ≤ 10 ∧ decL (spN s) = bsl s 0 s.size := by
  have hok := rdOk_yes h
  obtain ⟨h1, h9, hd, hz⟩ := h
  have hp := pfx_le s
  by_cases hm : bt s 0 = 45
  · have ep : pfx s = 1 := by simp [pfx, hm]
    rw [ep] at h1 h9 hd hz hp
    have hf := sp_first hm
    obtain ⟨a, b⟩ := sp_on s 1 (s.size - 1) hd hf.1 hf.2
    rw [show 1 + (s.size - 1) = s.size from by omega] at a b
    have hn : bt s 1 ≠ 48 := by omega
    have hlo := dv_low s 1 (s.size - 1 - 1) (fun j hj => hd j (by omega)) hn
    rw [show s.size - 1 - 1 + 1 = s.size - 1 from by omega] at hlo
    have hbd := dv_bd s 1 (s.size - 1) hd
    have hle := pow10_le (s.size - 1) h9
    have hpos := pow10_pos (s.size - 1 - 1)
    have hc := dcn_unique (dv s 1 (s.size - 1)) (s.size - 1) (by omega) (by omega) h1 (.inr hlo) hbd.2
    have en : spN s = -dv s 1 (s.size - 1) := by rw [spN, if_pos hm, a]
    refine ⟨?_, by omega, by omega, ?_⟩
    · rw [en, rdV, if_pos hok, if_pos ep]
    · rw [en, decL_neg (by omega), Int.neg_neg, hc, dgk_dv s 1 _ hd]
      have : s.size = (s.size - 1) + 1 := by omega
      rw [this, bsl, hm]
      rfl
  · have ep : pfx s = 0 := by simp [pfx, hm]
    rw [ep] at h1 h9 hd hz hp
    rw [Nat.sub_zero] at h1 h9 hd
    obtain ⟨a, b⟩ := sp_on s 0 s.size hd rfl rfl
    rw [Nat.zero_add] at a b
    have hbd := dv_bd s 0 s.size hd
    have hle := pow10_le s.size h9
    have en : spN s = dv s 0 s.size := by rw [spN, if_neg hm, a]
    have hc : dcn (dv s 0 s.size) = s.size := by
      refine dcn_unique _ _ hbd.1 (by omega) h1 ?_ hbd.2
      rcases hz with hz | ⟨_, hz⟩
      · right
        have := dv_low s 0 (s.size - 1) (fun j hj => hd j (by omega)) hz
        rwa [show s.size - 1 + 1 = s.size from by omega] at this
      · exact .inl hz
    refine ⟨?_, by omega, by omega, ?_⟩
    · rw [en, rdV, if_pos hok, if_neg (by omega)]
    · rw [en, decL_pos hbd.1, hc, dgk_dv s 0 _ hd]
theorem dig_of_eq {s : ByteArray} {p k : Nat} {m : Int} (h : bsl s p k = dgk m k) : ∀ j, j < k → isDig (bt s (p + j)) := by
  intro j hj
  have h1 := bsl_at s p k j hj
  rw [h] at h1
  have := dgk_bd m k _ (List.mem_of_getElem? h1)
  exact this
theorem head_of_eq {s : ByteArray} {p k : Nat} {m : Int} (hk : 1 ≤ k) (h : bsl s p k = dgk m k) : bt s p = 48 + m / 10 ^ (k - 1) % 10 := by
  have h1 := bsl_at s p k 0 (by omega)
  have h2 := dgk_at m k (k - 1) (by omega)
  rw [show k - 1 - (k - 1) = 0 from by omega, ← h, h1] at h2
  simpa using h2
theorem rdP_of (s : ByteArray) (hs : s.size ≤ 10) (hk : spK s s.size ≤ 9) (h : decL (spN s) = bsl s 0 s.size) : RdP s := by
  have hv := spV_bd s s.size
  have hv10 : spV s s.size < 10000000000 := by
    have := pow10_mono hs
    have e : (10 : Int) ^ 10 = 10000000000 := by decide
    omega
  by_cases hm : bt s 0 = 45
  · have ep : pfx s = 1 := by simp [pfx, hm]
    have hp := pfx_le s
    have en : spN s = -spV s s.size := by rw [spN, if_pos hm]
    have hsz : s.size = (s.size - 1) + 1 := by omega
    by_cases hz : spV s s.size = 0
    · exfalso
      rw [en, hz, hsz, bsl, hm] at h
      rw [show decL (-0) = [48] from by decide] at h
      simp at h
    · rw [en, decL_neg (by omega), Int.neg_neg, hsz, bsl, hm] at h
      rw [← hsz] at h
      simp only [List.cons.injEq, true_and, Nat.zero_add] at h
      have hl := congrArg List.length h
      rw [dgk_length, bsl_length] at hl
      obtain ⟨a, b, c, d⟩ := dcn_facts (spV s s.size) (by omega) (by omega)
      rw [hl] at h
      have hd := dig_of_eq h.symm
      have hf := sp_first hm
      obtain ⟨_, k2⟩ := sp_on s 1 (s.size - 1) hd hf.1 hf.2
      rw [show 1 + (s.size - 1) = s.size from by omega] at k2
      have hh := head_of_eq (by omega) h.symm
      have hlead := lead (spV s s.size) (by omega) (by omega)
      rw [hl] at hlead
      unfold RdP
      rw [ep]
      exact ⟨by omega, by omega, hd, .inl (by omega)⟩
  · have ep : pfx s = 0 := by simp [pfx, hm]
    have en : spN s = spV s s.size := by rw [spN, if_neg hm]
    rw [en, decL_pos (by omega)] at h
    have hl := congrArg List.length h
    rw [dgk_length, bsl_length] at hl
    obtain ⟨a, b, c, d⟩ := dcn_facts (spV s s.size) (by omega) (by omega)
    rw [hl] at h
    have hd := dig_of_eq h.symm
    obtain ⟨k1, k2⟩ := sp_on s 0 s.size hd rfl rfl
    rw [Nat.zero_add] at k1 k2
    unfold RdP
    rw [ep, Nat.sub_zero]
    refine ⟨by omega, by omega, hd, ?_⟩
    by_cases hz : spV s s.size = 0
    · right
      refine ⟨rfl, ?_⟩
      rw [← hl, hz]
      decide
    · left
      have hh := head_of_eq (by omega) h.symm
      have hlead := lead (spV s s.size) (by omega) (by omega)
      rw [hl] at hlead
      omega
theorem same_dec (s : ByteArray) (hs : s.size ≤ 10) (hk : spK s s.size ≤ 9) : strOfNums (decL (spN s)) = s ↔ RdP s := by
  constructor
  · intro h
    refine rdP_of s hs hk (strOfNums_inj (decL_bd _) (bsl_bd s 0 _) ?_)
    rw [h]
    exact all_bsl s
  · intro h
    rw [(spN_of s h).2.2.2]
    exact (all_bsl s).symm
end Go.Proofs.Ytdbpknmoacjodaa
