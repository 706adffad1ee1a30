/-
  Whole numbers as floats of 64 bits: what is written of a number near 0 is read as it; a far one stays far. No program is spoken of.
-/
import Derived.Laws.ComplexArith
namespace Go.Proofs.Ytdbpknmoacjodaa
open Ieee

def RepD (d : Datum) (n : Int) : Prop := ∃ q : Nat, d = .number (decide (n < 0)) (n.natAbs * 2 ^ q) (-(q : Int))
def FarD (d : Datum) (n : Int) : Prop := ∃ (K : Nat) (p : Int), d = .number (decide (n < 0)) K p ∧ 2 ^ 52 ≤ K ∧ 1 ≤ p
theorem dbl_least : double.leastPlace = -1074 := by decide
theorem dbl_binade : double.binade = 2 ^ 52 := rfl
theorem dbl_weight : double.signWeight = 2 ^ 63 := rfl
theorem dbl_inf : double.infRung = 2047 * 2 ^ 52 := rfl
theorem dbl_read (w : Nat) : double.read w = if w % 2 ^ 63 < 2 ^ 52 then .number (w / 2 ^ 63 % 2 == 1) (w % 2 ^ 63) (-1074) else if w % 2 ^ 63 < 2047 * 2 ^ 52 then .number (w / 2 ^ 63 % 2 == 1) (2 ^ 52 + w % 2 ^ 63 % 2 ^ 52) (-1074 + (w % 2 ^ 63 / 2 ^ 52 - 1 : Nat)) else if w % 2 ^ 63 = 2047 * 2 ^ 52 then .infinity (w / 2 ^ 63 % 2 == 1) else .nan (w / 2 ^ 63 % 2 == 1) (w % 2 ^ 63 - 2047 * 2 ^ 52) := rfl
theorem dbl_read_word {neg : Bool} {r k : Nat} (h1 : 2 ^ 52 ≤ r) (h2 : r < 2047 * 2 ^ 52) (hk : r / 2 ^ 52 = k + 1) :
    double.read (double.word neg r) = .number neg (2 ^ 52 + r % 2 ^ 52) (-1074 + (k : Int)) := by
  have hlt : r < 2 ^ 63 := by omega
  have e1 : double.word neg r % 2 ^ 63 = r := by
    rw [Format.word, dbl_weight]
    cases neg
    · rw [if_neg (by decide)]; omega
    · rw [if_pos rfl]; omega
  have e2 : (double.word neg r / 2 ^ 63 % 2 == 1) = neg := by
    rw [Format.word, dbl_weight]
    cases neg
    · rw [if_neg (by decide)]
      have : r / 2 ^ 63 = 0 := by omega
      rw [this]; rfl
    · rw [if_pos rfl]
      have : (2 ^ 63 + r) / 2 ^ 63 = 1 := by omega
      rw [this]; rfl
  rw [dbl_read, e1, e2, if_neg (by omega), if_pos h2, hk]
  rfl
theorem cut_none {way : Toward} {neg : Bool} (n : Nat) (hw : way = .even ∨ way = .zero) : way.cut neg n 0 = n := by
  have e : (1 <<< min 0 (n.log2 + 2) : Nat) = 1 := by rw [Nat.zero_min]; rfl
  rcases hw with rfl | rfl
  · simp only [Toward.cut, e, Nat.div_one, Nat.mod_one]
    rfl
  · simp only [Toward.cut, e, Nat.div_one]
    rfl
theorem rep_zero (q : Nat) (h : (q : Int) = 1074) : double.read (floatOfInt .f64 0) = .number (decide ((0 : Int) < 0)) ((0 : Int).natAbs * 2 ^ q) (-(q : Int)) := by
  rw [h, Int.natAbs_zero, Nat.zero_mul]
  rfl
theorem dbl_near {neg : Bool} {mag : Nat} {l : Int} (h0 : mag ≠ 0) (hl : max ((0 : Int) + (mag.log2 : Int) - 52) (-1074) = l) :
    double.nearest neg mag 0 = double.word neg (min ((l - -1074).toNat * 2 ^ 52 + Toward.even.cut neg (mag <<< (0 - l).toNat) (l - 0).toNat) (2047 * 2 ^ 52)) := by
  rw [Format.nearest, if_neg h0]
  subst hl
  rfl
theorem near_read {n : Int} (h : n.natAbs < 2 ^ 53) : RepD (double.read (floatOfInt .f64 n)) n := by
  by_cases h0 : n.natAbs = 0
  · have e : n = 0 := by omega
    subst e
    exact ⟨1074, rep_zero 1074 rfl⟩
  · have e0 : n.natAbs.log2 < 53 := (Nat.log2_lt h0).2 h
    obtain ⟨e, he⟩ : ∃ e, e = n.natAbs.log2 := ⟨_, rfl⟩
    have l1 : 2 ^ e ≤ n.natAbs := by rw [he]; exact Nat.log2_self_le h0
    have l2 : n.natAbs < 2 ^ (e + 1) := by rw [he]; exact Nat.lt_log2_self
    rw [← he] at e0
    have k1 : 2 ^ 52 ≤ n.natAbs * 2 ^ (52 - e) := by
      have : 2 ^ e * 2 ^ (52 - e) = 2 ^ 52 := by rw [← Nat.pow_add]; congr 1; omega
      rw [← this]; exact Nat.mul_le_mul_right _ l1
    have k2 : n.natAbs * 2 ^ (52 - e) < 2 ^ 53 := by
      have : 2 ^ (e + 1) * 2 ^ (52 - e) = 2 ^ 53 := by rw [← Nat.pow_add]; congr 1; omega
      rw [← this]; exact Nat.mul_lt_mul_of_pos_right l2 (Nat.two_pow_pos _)
    have hn : floatOfInt .f64 n = double.word (decide (n < 0)) ((e + 1022) * 2 ^ 52 + n.natAbs * 2 ^ (52 - e)) := by
      show double.nearest (decide (n < 0)) n.natAbs 0 = _
      rw [dbl_near h0 (l := (e : Int) - 52) (by rw [← he]; omega)]
      have t1 : ((0 : Int) - ((e : Int) - 52)).toNat = 52 - e := by omega
      have t2 : ((e : Int) - 52 - 0).toNat = 0 := by omega
      have t3 : ((e : Int) - 52 - -1074).toNat = e + 1022 := by omega
      rw [t1, t2, t3, cut_none _ (.inl rfl), Nat.shiftLeft_eq, Nat.min_eq_left (by omega)]
    refine ⟨52 - e, ?_⟩
    rw [hn]
    have := dbl_read_word (neg := decide (n < 0)) (r := (e + 1022) * 2 ^ 52 + n.natAbs * 2 ^ (52 - e)) (k := e + 1022) (by omega) (by omega) (by omega)
    rw [this]
    have m1 : 2 ^ 52 + ((e + 1022) * 2 ^ 52 + n.natAbs * 2 ^ (52 - e)) % 2 ^ 52 = n.natAbs * 2 ^ (52 - e) := by omega
    have m2 : (-1074 : Int) + ((e + 1022 : Nat) : Int) = -((52 - e : Nat) : Int) := by omega
    rw [m1, m2]
theorem far_read {n : Int} (h1 : 2 ^ 53 ≤ n.natAbs) (h2 : n.natAbs < 2 ^ 64) : FarD (double.read (floatOfInt .f64 n)) n := by
  have h0 : n.natAbs ≠ 0 := by omega
  obtain ⟨e, he⟩ : ∃ e, e = n.natAbs.log2 := ⟨_, rfl⟩
  have e0 : e < 64 := by rw [he]; exact (Nat.log2_lt h0).2 h2
  have e1 : 53 ≤ e := by rw [he]; exact (Nat.le_log2 h0).2 h1
  have l1 : 2 ^ e ≤ n.natAbs := by rw [he]; exact Nat.log2_self_le h0
  have l2 : n.natAbs < 2 ^ (e + 1) := by rw [he]; exact Nat.lt_log2_self
  obtain ⟨c, hc⟩ : ∃ c, c = Toward.even.cut (decide (n < 0)) n.natAbs (e - 52) := ⟨_, rfl⟩
  have cb : 2 ^ 52 ≤ c ∧ c ≤ 2 ^ 53 := by
    have g1 : (1 <<< min (e - 52) (n.natAbs.log2 + 2) : Nat) = 2 ^ (e - 52) := by
      rw [← he, Nat.min_eq_left (by omega), Nat.shiftLeft_eq, Nat.one_mul]
    have p1 : 2 ^ 52 * 2 ^ (e - 52) = 2 ^ e := by rw [← Nat.pow_add]; congr 1; omega
    have p2 : 2 ^ 53 * 2 ^ (e - 52) = 2 ^ (e + 1) := by rw [← Nat.pow_add]; congr 1; omega
    have q1 : 2 ^ 52 ≤ n.natAbs / 2 ^ (e - 52) := (Nat.le_div_iff_mul_le (Nat.two_pow_pos _)).2 (by rw [p1]; exact l1)
    have q2 : n.natAbs / 2 ^ (e - 52) < 2 ^ 53 := (Nat.div_lt_iff_lt_mul (Nat.two_pow_pos _)).2 (by rw [p2]; exact l2)
    rw [hc]
    simp only [Toward.cut, g1]
    refine ⟨Nat.le_trans q1 (Nat.le_add_right _ _), ?_⟩
    have := Bool.toNat_le (decide (2 ^ (e - 52) < 2 * (n.natAbs % 2 ^ (e - 52))) || (2 ^ (e - 52) == 2 * (n.natAbs % 2 ^ (e - 52)) && n.natAbs / 2 ^ (e - 52) % 2 == 1))
    omega
  have hn : floatOfInt .f64 n = double.word (decide (n < 0)) ((e + 1022) * 2 ^ 52 + c) := by
    show double.nearest (decide (n < 0)) n.natAbs 0 = _
    rw [dbl_near h0 (l := (e : Int) - 52) (by rw [← he]; omega)]
    have t1 : ((0 : Int) - ((e : Int) - 52)).toNat = 0 := by omega
    have t2 : ((e : Int) - 52 - 0).toNat = e - 52 := by omega
    have t3 : ((e : Int) - 52 - -1074).toNat = e + 1022 := by omega
    rw [t1, t2, t3, Nat.shiftLeft_zero, ← hc, Nat.min_eq_left (by omega)]
  rw [hn]
  obtain ⟨c1, c2⟩ := cb
  clear hn hc
  by_cases hh : c = 2 ^ 53
  · subst hh
    have := dbl_read_word (neg := decide (n < 0)) (r := (e + 1022) * 2 ^ 52 + 2 ^ 53) (k := e + 1023) (by omega) (by omega) (by omega)
    rw [this]
    exact ⟨_, _, rfl, Nat.le_add_right _ _, by omega⟩
  · have := dbl_read_word (neg := decide (n < 0)) (r := (e + 1022) * 2 ^ 52 + c) (k := e + 1022) (by omega) (by omega) (by omega)
    rw [this]
    exact ⟨_, _, rfl, Nat.le_add_right _ _, by omega⟩
theorem signed_of (n : Int) (m : Nat) (u : Nat) : signed (decide (n < 0)) (n.natAbs * 2 ^ m) u = n * 2 ^ (m + u) := by
  rw [signed, Nat.shiftLeft_eq, Nat.mul_assoc, ← Nat.pow_add]
  by_cases h : n < 0
  · rw [if_pos (decide_eq_true h), Int.natCast_mul]
    have : (n.natAbs : Int) = -n := by omega
    rw [this, Int.neg_mul, Int.neg_neg]
    simp
  · rw [if_neg (by rw [decide_eq_false h]; decide), Int.natCast_mul]
    have : (n.natAbs : Int) = n := by omega
    rw [this]
    simp
theorem cmp_mul {a b c : Int} (h : 0 < c) : compare (a * c) (b * c) = compare a b := by
  rcases Int.lt_trichotomy a b with k | k | k
  · rw [Int.compare_eq_lt.2 k, Int.compare_eq_lt.2 (Int.mul_lt_mul_of_pos_right k h)]
  · rw [k]; simp
  · rw [Int.compare_eq_gt.2 k, Int.compare_eq_gt.2 (Int.mul_lt_mul_of_pos_right k h)]
theorem two_pos (q : Nat) : (0 : Int) < 2 ^ q := Int.pow_pos (by decide)
theorem rep_order {d d' : Datum} {a b : Int} (h : RepD d a) (h' : RepD d' b) : d.order d' = some (compare a b) := by
  obtain ⟨q, rfl⟩ := h
  obtain ⟨r, rfl⟩ := h'
  simp only [Datum.order]
  rw [signed_of, signed_of]
  have e1 : q + (-(q : Int) - min (-(q : Int)) (-(r : Int))).toNat = max q r := by omega
  have e2 : r + (-(r : Int) - min (-(q : Int)) (-(r : Int))).toNat = max q r := by omega
  rw [e1, e2, cmp_mul (two_pos _)]
theorem far_order {d d' : Datum} {a b : Int} (h : FarD d a) (h' : RepD d' b) (hb : b.natAbs < 2 ^ 52) : d.order d' = some (if a < 0 then .lt else .gt) := by
  obtain ⟨K, p, rfl, hk, hp⟩ := h
  obtain ⟨r, rfl⟩ := h'
  simp only [Datum.order]
  rw [signed_of]
  have e1 : min p (-(r : Int)) = -(r : Int) := by omega
  rw [e1]
  obtain ⟨u, hu⟩ : ∃ u : Nat, (p - -(r : Int)).toNat = r + u := ⟨p.toNat, by omega⟩
  have e2 : r + (-(r : Int) - -(r : Int)).toNat = r := by omega
  rw [hu, e2]
  have big : b.natAbs * 2 ^ r < K <<< (r + u) := by
    rw [Nat.shiftLeft_eq]
    refine Nat.lt_of_lt_of_le (Nat.mul_lt_mul_of_pos_right (Nat.lt_of_lt_of_le hb hk) (Nat.two_pow_pos _)) ?_
    exact Nat.mul_le_mul_left _ (Nat.pow_le_pow_right (by decide) (by omega))
  have ab : (b * 2 ^ r).natAbs = b.natAbs * 2 ^ r := by
    rw [Int.natAbs_mul, Int.natAbs_pow]; rfl
  obtain ⟨z, hz⟩ : ∃ z, z = b * 2 ^ r := ⟨_, rfl⟩
  rw [← ab, ← hz] at big
  rw [← hz, signed]
  obtain ⟨y, hy⟩ : ∃ y, y = K <<< (r + u) := ⟨_, rfl⟩
  rw [← hy] at big ⊢
  by_cases hs : a < 0
  · rw [if_pos (decide_eq_true hs), if_pos hs, Int.compare_eq_lt.2 (by omega)]
  · rw [if_neg (by rw [decide_eq_false hs]; decide), if_neg hs, Int.compare_eq_gt.2 (by omega)]
theorem rep_int {d : Datum} {n : Int} (h : RepD d n) (hn : n.natAbs ≠ 0) : d.toInt .zero = some n := by
  obtain ⟨q, rfl⟩ := h
  simp only [Datum.toInt, Datum.integral]
  have t1 : (-(q : Int)).toNat = 0 := by omega
  have t2 : (-(-(q : Int))).toNat = q := by omega
  rw [t1, t2, Nat.shiftLeft_zero]
  have l : q ≤ (n.natAbs * 2 ^ q).log2 := (Nat.le_log2 (Nat.mul_ne_zero hn (Nat.pos_iff_ne_zero.1 (Nat.two_pow_pos _)))).2 (Nat.le_mul_of_pos_left _ (Nat.pos_of_ne_zero hn))
  have c : Toward.zero.cut (decide (n < 0)) (n.natAbs * 2 ^ q) q = n.natAbs := by
    simp only [Toward.cut]
    rw [Nat.min_eq_left (by omega), Nat.shiftLeft_eq, Nat.one_mul, Nat.mul_div_cancel _ (Nat.two_pow_pos _)]
    rfl
  rw [c, signed, Nat.shiftLeft_zero]
  by_cases hs : n < 0
  · rw [if_pos (decide_eq_true hs)]; congr 1; omega
  · rw [if_neg (by rw [decide_eq_false hs]; decide)]; congr 1; omega
theorem dbl_order {n m : Int} (hn : n.natAbs < 2 ^ 64) (hm : m.natAbs < 2 ^ 52) : FloatKind.f64.format.order (floatOfInt .f64 n) (floatOfInt .f64 m) = some (compare n m) := by
  show (double.read _).order (double.read _) = _
  have rm : RepD (double.read (floatOfInt .f64 m)) m := near_read (by omega)
  by_cases h : n.natAbs < 2 ^ 53
  · exact rep_order (near_read h) rm
  · rw [far_order (far_read (by omega) hn) rm hm]
    by_cases h0 : n < 0
    · rw [if_pos h0, Int.compare_eq_lt.2 (by omega)]
    · rw [if_neg h0, Int.compare_eq_gt.2 (by omega)]
theorem dbl_geq {n m : Int} (hn : n.natAbs < 2 ^ 64) (hm : m.natAbs < 2 ^ 52) {c : Nat} (hc : floatOfInt .f64 m = c) : (FloatKind.f64.format.order (floatOfInt .f64 n) c == some .gt || FloatKind.f64.format.order (floatOfInt .f64 n) c == some .eq) = decide (m ≤ n) := by
  rw [← hc, dbl_order hn hm]
  rcases Int.lt_trichotomy n m with k | k | k
  · rw [Int.compare_eq_lt.2 k, decide_eq_false (by omega)]; rfl
  · rw [k, decide_eq_true (Int.le_refl _)]; simp
  · rw [Int.compare_eq_gt.2 k, decide_eq_true (by omega)]; rfl
theorem dbl_leq {n m : Int} (hn : n.natAbs < 2 ^ 64) (hm : m.natAbs < 2 ^ 52) {c : Nat} (hc : floatOfInt .f64 m = c) : (FloatKind.f64.format.order (floatOfInt .f64 n) c == some .lt || FloatKind.f64.format.order (floatOfInt .f64 n) c == some .eq) = decide (n ≤ m) := by
  rw [← hc, dbl_order hn hm]
  rcases Int.lt_trichotomy n m with k | k | k
  · rw [Int.compare_eq_lt.2 k, decide_eq_true (by omega)]; rfl
  · rw [k, decide_eq_true (Int.le_refl _)]; simp
  · rw [Int.compare_eq_gt.2 k, decide_eq_false (by omega)]; rfl
theorem dbl_int {n : Int} (h : n.natAbs ≤ 1000000) : floatToIntVal .f64 (floatOfInt .f64 n) .i64 = some n := by
  have e : (FloatKind.f64.decode (floatOfInt .f64 n)).toInt .zero = some n := by
    show (double.read _).toInt .zero = _
    by_cases h0 : n.natAbs = 0
    · have : n = 0 := by omega
      subst this
      rfl
    · exact rep_int (near_read (by omega)) h0
  unfold floatToIntVal
  rw [e]
  show (if IntKind.i64.min ≤ n ∧ n ≤ IntKind.i64.max then some n else none) = some n
  refine if_pos ?_
  have a : IntKind.i64.min = -9223372036854775808 := rfl
  have b : IntKind.i64.max = 9223372036854775807 := rfl
  rw [a, b]
  omega
theorem dbl_one : floatOfInt .f64 1 = 4607182418800017408 := rfl
theorem dbl_low : floatOfInt .f64 (-1000000) = 13920209183539462144 := rfl
theorem dbl_high : floatOfInt .f64 1000000 = 4696837146684686336 := rfl
end Go.Proofs.Ytdbpknmoacjodaa
