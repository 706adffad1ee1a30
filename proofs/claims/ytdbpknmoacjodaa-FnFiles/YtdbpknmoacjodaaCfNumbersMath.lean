/-
  What is made of a number or a text is read as it, whatever stands behind: the plain facts. No program is spoken of.
-/
import Derived.Test.YtdbpknmoacjodaaCfReadVarMathToReadDecMath
import Derived.Test.YtdbpknmoacjodaaCfUnhexMath
namespace Go.Proofs.Ytdbpknmoacjodaa
open Go.RowKit Go.PlainAid

theorem bt_made (l : List Int) (hl : ∀ x ∈ l, 0 ≤ x ∧ x ≤ 255) (t : ByteArray) (k : Nat) (x : Int) (h : l[k]? = some x) : bt (strOfNums l ++ t) k = x := by
  rw [bt_list, append_list, List.map_append, strOfNums_back l hl]
  have hk := (List.getElem?_eq_some_iff.1 h).1
  rw [List.getD, List.getElem?_append_left hk, h]
  rfl
theorem bt_made' (l : List Int) (hl : ∀ x ∈ l, 0 ≤ x ∧ x ≤ 255) (k : Nat) (x : Int) (h : l[k]? = some x) : bt (strOfNums l) k = x := by
  rw [bt_list, strOfNums_back l hl, List.getD, h]
  rfl
theorem bsl_made (l : List Int) (hl : ∀ x ∈ l, 0 ≤ x ∧ x ≤ 255) (t : ByteArray) : bsl (strOfNums l ++ t) 0 l.length = l := by
  apply List.ext_getElem?
  intro k
  by_cases hk : k < l.length
  · rw [bsl_at _ 0 _ k hk, Nat.zero_add, bt_made l hl t k _ (List.getElem?_eq_getElem hk), List.getElem?_eq_getElem hk]
  · rw [List.getElem?_eq_none (by rw [bsl_length]; omega), List.getElem?_eq_none (by omega)]
theorem bsl_made' (l : List Int) (hl : ∀ x ∈ l, 0 ≤ x ∧ x ≤ 255) : bsl (strOfNums l) 0 l.length = l := by
  apply List.ext_getElem?
  intro k
  by_cases hk : k < l.length
  · rw [bsl_at _ 0 _ k hk, Nat.zero_add, bt_made' l hl k _ (List.getElem?_eq_getElem hk), List.getElem?_eq_getElem hk]
  · rw [List.getElem?_eq_none (by rw [bsl_length]; omega), List.getElem?_eq_none (by omega)]

/-! Var -/
theorem hvm_of_vl (s : ByteArray) (i f m : Nat) (q : Int) (h0 : 0 ≤ q) (h : bsl s i m = vl f q) : hvm s i m = if q < 2 ^ (7 * (f + 1)) then q else hvm s i m := by
  split
  · rename_i hq
    induction f generalizing i m q with
    | zero =>
      rw [vl] at h
      match m, h with
      | 1, h =>
        simp only [bsl, List.cons.injEq, and_true] at h
        have e : (2 : Int) ^ (7 * (0 + 1)) = 128 := by decide
        simp only [hvm, h]
        omega
      | 0, h => simp [bsl] at h
      | m + 2, h => simp [bsl] at h
    | succ f ih =>
      by_cases k : q < 128
      · rw [vl_small _ _ k] at h
        match m, h with
        | 1, h =>
          simp only [bsl, List.cons.injEq, and_true] at h
          simp only [hvm, h]
          omega
        | 0, h => simp [bsl] at h
        | m + 2, h => simp [bsl] at h
      · rw [vl_more _ _ k] at h
        match m, h with
        | 0, h => simp [bsl] at h
        | m + 1, h =>
          rw [bsl, List.cons.injEq] at h
          rw [hvm, h.1, ih (i + 1) m (q / 128) (by omega) h.2 (by rw [pow7] at hq; omega)]
          omega
  · rfl
theorem rvAns_of_can {s : ByteArray} {m : Nat} (h : Can s 0 (m + 1)) (hm : m < 7) (hs : m + 1 ≤ s.size) : rvAns s = (rv s (m + 1), (m : Int) + 1) := by
  have hc := h
  rw [can_iff] at hc
  simp only [Nat.zero_add] at hc
  have on : ∀ i, i ≤ m → rvGo s (7 - i) i = rvAns s := by
    intro i
    induction i with
    | zero => intro _; rfl
    | succ i ih =>
      intro hi
      rw [← rvGo_on s i (by omega) (by omega) (hc.1 i (by omega))]
      exact ih (by omega)
  rw [← on m (Nat.le_refl _)]
  exact rvGo_is s m hm (by omega) (by omega) (by omega)
theorem readVar_var (n : Int) (t : ByteArray) (h0 : 0 ≤ n) (h1 : n ≤ 562949953421311) : rvAns (strOfNums (vl 6 n) ++ t) = (n, ((vl 6 n).length : Int)) := by
  have hp : (2 : Int) ^ (7 * (6 + 1)) = 562949953421312 := by decide
  have hb := vl_bd 6 n h0 (by omega)
  have hl := vl_length 6 n
  have hbs := bsl_made (vl 6 n) hb t
  have hv := hvm_of_vl _ 0 6 _ n h0 hbs
  rw [if_pos (by omega)] at hv
  obtain ⟨m, hm⟩ : ∃ m, (vl 6 n).length = m + 1 := ⟨(vl 6 n).length - 1, by omega⟩
  rw [hm] at hbs hv ⊢
  have hc : Can (strOfNums (vl 6 n) ++ t) 0 (m + 1) := can_of_vl _ 0 m 6 (by omega) (by rw [hv, hbs])
  rw [rvAns_of_can hc (by omega) (by rw [ByteArray.size_append, strOfNums_size]; omega), rv, hv]
  simp
theorem rvAns_cases (s : ByteArray) : rvAns s = (0, 0) ∨ ∃ m, m < 7 ∧ m + 1 ≤ s.size ∧ rvAns s = (rv s (m + 1), (m : Int) + 1) ∧ strOfNums (varL (rv s (m + 1))) = s.extract 0 (m + 1) := by
  have go : ∀ f i, i + f = 7 → (∀ j, j < i → 128 ≤ bt s j) → rvGo s f i = (0, 0) ∨ ∃ m, m < 7 ∧ m + 1 ≤ s.size ∧ rvGo s f i = (rv s (m + 1), (m : Int) + 1) ∧ Can s 0 (m + 1) := by
    intro f
    induction f with
    | zero => intro i _ _; exact .inl rfl
    | succ f ih =>
      intro i hi ha
      rw [rvGo]
      by_cases hs : i < s.size
      · rw [if_pos hs]
        by_cases hb : 128 ≤ bt s i
        · rw [if_pos hb]
          refine ih (i + 1) (by omega) (fun j hj => ?_)
          by_cases e : j = i
          · rw [e]; exact hb
          · exact ha j (by omega)
        · rw [if_neg hb]
          by_cases hz : bt s i = 0 ∧ 0 < i
          · rw [if_pos hz]; exact .inl rfl
          · rw [if_neg hz]
            refine .inr ⟨i, by omega, by omega, rfl, ?_⟩
            rw [can_iff]
            simp only [Nat.zero_add]
            exact ⟨ha, by omega, by omega⟩
      · rw [if_neg hs]; exact .inl rfl
  rcases go 7 0 rfl (fun j hj => by omega) with h | ⟨m, h1, h2, h3, h4⟩
  · exact .inl h
  · exact .inr ⟨m, h1, h2, h3, (same_iff s m h1 h2).2 h4⟩

/-! Fixed -/
theorem dl_bd (n : Int) (k : Nat) : ∀ x ∈ dl n k, 0 ≤ x ∧ x ≤ 255 := by
  induction k with
  | zero => simp [dl]
  | succ k ih =>
    intro x hx
    simp only [dl, List.mem_cons] at hx
    rcases hx with rfl | hx
    · omega
    · exact ih x hx
theorem rfix_made (n : Int) (t : ByteArray) (hf : n / 2 ^ (8 * 7) = 0) (k : Nat) (hk : k ≤ 7) : rfix (strOfNums (dl n 7) ++ t) k = n / 2 ^ (8 * (7 - k)) := by
  induction k with
  | zero => rw [rfix]; exact hf.symm
  | succ k ih =>
    rw [rfix, ih (by omega), bt_made _ (dl_bd n 7) t k _ (dl_at n 7 k (by omega)), show 7 - 1 - k = 7 - (k + 1) from by omega, show 7 - k = (7 - (k + 1)) + 1 from by omega, ← shr8]
    omega
theorem readFixed_fixed (n : Int) (t : ByteArray) (hf : n / 2 ^ (8 * 7) = 0) : rfOk (strOfNums (dl n 7) ++ t) 7 = true ∧ rfV (strOfNums (dl n 7) ++ t) 7 = n := by
  have hs : (7 : Int) ≤ ((strOfNums (dl n 7) ++ t).size : Nat) := by rw [ByteArray.size_append, strOfNums_size, dl_length]; omega
  refine ⟨rfOk_yes (by omega) (by omega) hs, ?_⟩
  rw [rfV_yes (by omega) (by omega) hs]
  show rfix _ 7 = n
  rw [rfix_made n t hf 7 (by omega)]
  simp

/-! Dec -/
theorem dv_made (s : ByteArray) (p k : Nat) (m : Int) (h0 : 0 ≤ m) (h : m < 10 ^ k) (hb : ∀ j, j < k → bt s (p + j) = 48 + m / 10 ^ (k - 1 - j) % 10) (j : Nat) (hj : j ≤ k) : dv s p j = m / 10 ^ (k - j) := by
  induction j with
  | zero => rw [dv, Nat.sub_zero]; exact (Int.ediv_eq_zero_of_lt h0 h).symm
  | succ j ih =>
    rw [dv, ih (by omega), hb j (by omega), show k - 1 - j = k - (j + 1) from by omega, show k - j = (k - (j + 1)) + 1 from by omega, ← tenth]
    omega
theorem dgk_at' (m : Int) (c j : Nat) (h : j < c) : (dgk m c)[j]? = some (48 + m / 10 ^ (c - 1 - j) % 10) := by
  have := dgk_at m c (c - 1 - j) (by omega)
  rwa [show c - 1 - (c - 1 - j) = j from by omega] at this
theorem dcn_small (m : Int) (h0 : 0 ≤ m) (h1 : m ≤ 18446744073709551615) : dcn m ≤ 9 ↔ m < 1000000000 := by
  obtain ⟨a, b, c, d⟩ := dcn_facts m h0 h1
  have e : (10 : Int) ^ 9 = 1000000000 := by decide
  constructor
  · intro h
    have := pow10_mono h
    omega
  · intro h
    rcases Nat.lt_or_ge 9 (dcn m) with k | k
    · have := pow10_mono (show 9 ≤ dcn m - 1 by omega)
      omega
    · exact k
theorem readDec_dec (n : Int) (hb : -9223372036854775808 ≤ n ∧ n ≤ 9223372036854775807) : rdOk (strOfNums (decL n)) = decide (-1000000000 < n ∧ n < 1000000000) ∧ (-1000000000 < n ∧ n < 1000000000 → rdV (strOfNums (decL n)) = n) := by
  have hbd := decL_bd n
  have hall := bsl_made' (decL n) hbd
  have hsz : (strOfNums (decL n)).size = (decL n).length := strOfNums_size _
  by_cases hn : n < 0
  · obtain ⟨m, rfl⟩ : ∃ m, n = -m := ⟨-n, by omega⟩
    have hd : decL (-m) = 45 :: dgk m (dcn m) := by rw [decL_neg hn, Int.neg_neg]
    obtain ⟨a, b, c, d⟩ := dcn_facts m (by omega) (by omega)
    have hsm := dcn_small m (by omega) (by omega)
    have hlen : (decL (-m)).length = dcn m + 1 := by rw [hd, List.length_cons, dgk_length]
    have h45 : bt (strOfNums (decL (-m))) 0 = 45 := bt_made' _ hbd 0 45 (by rw [hd]; rfl)
    have ep : pfx (strOfNums (decL (-m))) = 1 := by simp [pfx, h45]
    have hdig : ∀ j, j < dcn m → bt (strOfNums (decL (-m))) (1 + j) = 48 + m / 10 ^ (dcn m - 1 - j) % 10 := by
      intro j hj
      refine bt_made' _ hbd (1 + j) _ ?_
      rw [hd, Nat.add_comm, List.getElem?_cons_succ]
      exact dgk_at' m (dcn m) j hj
    have hL : (strOfNums (decL (-m))).size - pfx (strOfNums (decL (-m))) = dcn m := by rw [hsz, hlen, ep]; omega
    have hlead := lead m (by omega) (by omega)
    have iff : RdP (strOfNums (decL (-m))) ↔ (-1000000000 < -m ∧ -m < 1000000000) := by
      unfold RdP
      rw [hL, ep]
      constructor
      · intro h
        have := hsm.1 h.2.1
        omega
      · intro h
        refine ⟨a, hsm.2 (by omega), fun j hj => ?_, .inl ?_⟩
        · rw [hdig j hj]; unfold isDig; omega
        · have := hdig 0 (by omega)
          rw [Nat.add_zero, Nat.sub_zero] at this
          rw [this]
          exact hlead
    refine ⟨by unfold rdOk; exact decide_eq_decide.2 iff, fun h => ?_⟩
    have hv := dv_made _ 1 (dcn m) m (by omega) c hdig (dcn m) (Nat.le_refl _)
    rw [Nat.sub_self, Int.pow_zero, Int.ediv_one] at hv
    rw [rdV, if_pos (rdOk_yes (iff.2 h)), if_pos ep, show (strOfNums (decL (-m))).size - 1 = dcn m from by rw [hsz, hlen]; omega, hv]
  · have hd : decL n = dgk n (dcn n) := decL_pos (by omega)
    obtain ⟨a, b, c, d⟩ := dcn_facts n (by omega) (by omega)
    have hsm := dcn_small n (by omega) (by omega)
    have hlen : (decL n).length = dcn n := by rw [hd, dgk_length]
    have hdig : ∀ j, j < dcn n → bt (strOfNums (decL n)) (0 + j) = 48 + n / 10 ^ (dcn n - 1 - j) % 10 := by
      intro j hj
      refine bt_made' _ hbd (0 + j) _ ?_
      rw [hd, Nat.zero_add]
      exact dgk_at' n (dcn n) j hj
    have hne : bt (strOfNums (decL n)) 0 ≠ 45 := by
      have := hdig 0 (by omega)
      rw [Nat.zero_add] at this
      rw [this]
      omega
    have ep : pfx (strOfNums (decL n)) = 0 := by simp [pfx, hne]
    have hL : (strOfNums (decL n)).size - pfx (strOfNums (decL n)) = dcn n := by rw [hsz, hlen, ep]; omega
    have iff : RdP (strOfNums (decL n)) ↔ (-1000000000 < n ∧ n < 1000000000) := by
      unfold RdP
      rw [hL, ep]
      constructor
      · intro h
        have := hsm.1 h.2.1
        omega
      · intro h
        refine ⟨a, hsm.2 (by omega), fun j hj => ?_, ?_⟩
        · rw [hdig j hj]; unfold isDig; omega
        · by_cases hz : n = 0
          · right
            refine ⟨rfl, ?_⟩
            rw [hsz, hlen, hz]
            decide
          · left
            have := hdig 0 (by omega)
            rw [Nat.zero_add, Nat.sub_zero] at this
            rw [this]
            exact lead n (by omega) (by omega)
    refine ⟨by unfold rdOk; exact decide_eq_decide.2 iff, fun h => ?_⟩
    have hv := dv_made _ 0 (dcn n) n (by omega) c hdig (dcn n) (Nat.le_refl _)
    rw [Nat.sub_self, Int.pow_zero, Int.ediv_one] at hv
    rw [rdV, if_pos (rdOk_yes (iff.2 h)), if_neg (by omega), hsz, hlen, hv]

/-! Hex -/
theorem hexL_bd (t : ByteArray) (k : Nat) : ∀ x ∈ hexL t k, 0 ≤ x ∧ x ≤ 255 := by
  induction k with
  | zero => simp [hexL]
  | succ k ih =>
    intro x hx
    simp only [hexL, List.mem_append, List.mem_cons, List.not_mem_nil, or_false] at hx
    rcases hx with hx | rfl | rfl
    · exact ih x hx
    · exact hexd_bd _
    · exact hexd_bd _
theorem unhex_hex (t : ByteArray) : unhexOk (strOfNums (hexL t t.size)) = true ∧ strOfNums (unhexL (strOfNums (hexL t t.size))) = t := by
  have hbd := hexL_bd t t.size
  have hsz : (strOfNums (hexL t t.size)).size = 2 * t.size := by rw [strOfNums_size, hexL_length]
  have hpair : ∀ k, k < t.size → hexv (bt (strOfNums (hexL t t.size)) (2 * k)) = bt t k / 16 ∧ hexv (bt (strOfNums (hexL t t.size)) (2 * k + 1)) = bt t k % 16 := by
    intro k hk
    have b0 := bt_nonneg t k
    have b1 := bt_le t k
    rw [bt_made' _ hbd _ _ (hexL_hi t t.size k hk), bt_made' _ hbd _ _ (hexL_lo t t.size k hk), hexv_of _ (by omega), hexv_of _ (by omega)]
    exact ⟨by omega, by omega⟩
  have hun : ∀ n, n ≤ t.size → unL (strOfNums (hexL t t.size)) n = bsl t 0 n ∧ unOk (strOfNums (hexL t t.size)) n = true := by
    intro n
    induction n with
    | zero => intro _; exact ⟨rfl, rfl⟩
    | succ n ih =>
      intro hn
      obtain ⟨a, b⟩ := ih (by omega)
      obtain ⟨p1, p2⟩ := hpair n (by omega)
      have b0 := bt_nonneg t n
      rw [unL, unOk, a, b, bsl_snoc, Nat.zero_add, pairV, p1, p2, pairOk_iff.2 ⟨by omega, by omega⟩]
      refine ⟨?_, rfl⟩
      congr 2
      omega
  have hh : (strOfNums (hexL t t.size)).size / 2 = t.size := by omega
  have hok : unhexOk (strOfNums (hexL t t.size)) = true := unhexOk_yes (by omega) (by rw [hh]; exact (hun _ (Nat.le_refl _)).2)
  refine ⟨hok, ?_⟩
  rw [unhexL_yes hok, hh, (hun _ (Nat.le_refl _)).1]
  exact (all_bsl t).symm
end Go.Proofs.Ytdbpknmoacjodaa
namespace Go.Proofs.Ytdbpknmoacjodaa
open Go.RowKit Go.PlainAid

def varAt1 (s : ByteArray) (a : Int) : Option (Int × Int) := if 0 ≤ a ∧ a ≤ s.size then (if (rvAns (s.extract a.toNat s.size)).2 = 0 then none else some ((rvAns (s.extract a.toNat s.size)).1, a + (rvAns (s.extract a.toNat s.size)).2)) else none
theorem varAt1_off {s : ByteArray} {a : Int} (h : ¬ (0 ≤ a ∧ a ≤ s.size)) : varAt1 s a = none := by rw [varAt1, if_neg h]
theorem varAt1_no {s : ByteArray} {a : Nat} (h : a ≤ s.size) (h0 : (rvAns (s.extract a s.size)).2 = 0) : varAt1 s a = none := by
  rw [varAt1, if_pos ⟨by omega, by omega⟩, Int.toNat_natCast, if_pos h0]
theorem varAt1_yes {s : ByteArray} {a : Nat} (h : a ≤ s.size) (h0 : (rvAns (s.extract a s.size)).2 ≠ 0) : varAt1 s a = some ((rvAns (s.extract a s.size)).1, (a : Int) + (rvAns (s.extract a s.size)).2) := by
  rw [varAt1, if_pos ⟨by omega, by omega⟩, Int.toNat_natCast, if_neg h0]
theorem rvAns_bd (s : ByteArray) : 0 ≤ (rvAns s).1 ∧ (rvAns s).1 ≤ 562949953421311 ∧ 0 ≤ (rvAns s).2 ∧ (rvAns s).2 ≤ 7 ∧ (rvAns s).2 ≤ s.size := by
  rcases rvAns_cases s with h | ⟨m, h1, h2, h3, _⟩
  · rw [h]; simp
  · rw [h3]
    have := rv_bd s (m + 1) (by omega)
    simp only
    omega
def takeS (s : ByteArray) (a : Int) : ByteArray × Int := match varAt1 s a with
  | none => ({ data := #[] }, -1)
  | some r => if (s.size : Int) - r.2 < r.1 then ({ data := #[] }, -1) else (s.extract r.2.toNat (r.2 + r.1).toNat, r.2 + r.1)
theorem varAt1_bd {s : ByteArray} {a x k : Int} (h : varAt1 s a = some (x, k)) : 0 ≤ x ∧ x ≤ 562949953421311 ∧ 0 ≤ k ∧ k ≤ s.size := by
  unfold varAt1 at h
  split at h
  · next hin =>
    split at h
    · cases h
    · have := rvAns_bd (s.extract a.toNat s.size)
      rw [ByteArray.size_extract] at this
      simp only [Option.some.injEq, Prod.mk.injEq] at h
      omega
  · cases h
def readTo (s : ByteArray) : Nat → Int → List Fl → Option (List Fl)
  | 0, _, out => some out
  | k + 1, a, out => if (takeS s (takeS s a).2).2 < 0 then none else readTo s k (takeS s (takeS s a).2).2 (out ++ [((takeS s a).1, (takeS s (takeS s a).2).1)])
def readS (s : ByteArray) : List Fl × Bool := match varAt1 s 1 with
  | none => ([], false)
  | some r => if 8 < r.1 then ([], false) else match readTo s r.1.toNat r.2 [] with
    | none => ([], false)
    | some F => if (showS F.length (ptOf F) (txOf F)).toList == s.toList then (F, true) else ([], false)
theorem readTo_len {s : ByteArray} {F : List Fl} : ∀ (n : Nat) (a : Int) (out : List Fl), readTo s n a out = some F → F.length = out.length + n := by
  intro n
  induction n with
  | zero => intro a out h; rw [readTo] at h; cases h; rfl
  | succ n ih =>
    intro a out h
    rw [readTo] at h
    split at h
    · cases h
    · have := ih _ _ h
      rw [List.length_append, List.length_singleton] at this
      omega
theorem readS_len (s : ByteArray) : (readS s).1.length ≤ 8 := by
  unfold readS
  split
  · exact Nat.zero_le _
  · split
    · exact Nat.zero_le _
    · split
      · exact Nat.zero_le _
      · rename_i F hF
        split
        · have := readTo_len _ _ _ hF
          rw [List.length_nil] at this
          show F.length ≤ 8
          omega
        · exact Nat.zero_le _
theorem takeS_bd (s : ByteArray) (a : Int) : -1 ≤ (takeS s a).2 ∧ (takeS s a).2 ≤ s.size ∧ (takeS s a).1.size ≤ s.size := by
  unfold takeS
  cases hv : varAt1 s a with
  | none => exact ⟨Int.le_refl _, by simp only; omega, Nat.zero_le _⟩
  | some r =>
    obtain ⟨x, k⟩ := r
    obtain ⟨h0, h1, h2, h3⟩ := varAt1_bd hv
    simp only
    split
    · exact ⟨Int.le_refl _, by simp only; omega, Nat.zero_le _⟩
    · refine ⟨by simp only; omega, by simp only; omega, ?_⟩
      simp only [ByteArray.size_extract]
      omega
theorem takeS_off (s : ByteArray) : takeS s (-1) = ({ data := #[] }, -1) := by
  unfold takeS
  rw [varAt1_off (by omega)]
def keepP (q : ByteArray) (x : Fl) : Bool := !(x.1.toList == q.toList)
def dropL (fs : List Fl) (q : ByteArray) : List Fl := fs.filter (keepP q)
def dropS (len : Nat) (Pt Tx : Nat → ByteArray) (q : ByteArray) : List Fl × Bool := if filesB len Pt Tx then (dropL (flsOf len Pt Tx) q, decide ((dropL (flsOf len Pt Tx) q).length < len)) else ([], false)
def putStep (x : Fl) (st : Bool × List Fl) (y : Fl) : Bool × List Fl :=
  if y.1.toList == x.1.toList then (if !st.1 && !(Op.bytesLess y.1.toList x.1.toList) then (true, st.2 ++ [x]) else st)
  else (if !st.1 && !(Op.bytesLess y.1.toList x.1.toList) then (true, st.2 ++ [x] ++ [y]) else (st.1, st.2 ++ [y]))
def putFs (fs : List Fl) (x : Fl) : List Fl := if (fs.foldl (putStep x) (false, [])).1 then (fs.foldl (putStep x) (false, [])).2 else (fs.foldl (putStep x) (false, [])).2 ++ [x]
def putS (len : Nat) (Pt Tx : Nat → ByteArray) (x : Fl) : List Fl × Bool :=
  if filesB len Pt Tx then (if filesB (putFs (flsOf len Pt Tx) x).length (ptOf (putFs (flsOf len Pt Tx) x)) (txOf (putFs (flsOf len Pt Tx) x)) then (putFs (flsOf len Pt Tx) x, true) else (flsOf len Pt Tx, false)) else ([], false)
theorem putStep_len (x : Fl) (st : Bool × List Fl) (y : Fl) : (putStep x st y).2.length ≤ st.2.length + 2 := by
  unfold putStep
  split
  · split <;> simp
  · split <;> simp
def chA (lb : Nat) (Pb Tb : Nat → ByteArray) (out : List ByteArray) (x : Fl) : List ByteArray := if !(findS lb Pb Tb x.1).2 || !((findS lb Pb Tb x.1).1.toList == x.2.toList) then putT out x.1 else out
def chB (la : Nat) (Pa Ta : Nat → ByteArray) (out : List ByteArray) (x : Fl) : List ByteArray := if !(findS la Pa Ta x.1).2 then putT out x.1 else out
def changedS (la : Nat) (Pa Ta : Nat → ByteArray) (lb : Nat) (Pb Tb : Nat → ByteArray) : List ByteArray :=
  if filesB la Pa Ta && filesB lb Pb Tb then (flsOf lb Pb Tb).foldl (chB la Pa Ta) ((flsOf la Pa Ta).foldl (chA lb Pb Tb) []) else []
end Go.Proofs.Ytdbpknmoacjodaa
namespace Go.Proofs.Ytdbpknmoacjodaa
open Go.RowKit Go.PlainAid

theorem less_trans : ∀ a b c : List UInt8, Op.bytesLess a b = true → Op.bytesLess b c = true → Op.bytesLess a c = true := by
  intro a
  induction a with
  | nil => intro b c h1 h2; cases b with
    | nil => simp [Op.bytesLess] at h1
    | cons y b => cases c with
      | nil => simp [Op.bytesLess] at h2
      | cons z c => rfl
  | cons x a ih =>
    intro b c h1 h2
    cases b with
    | nil => simp [Op.bytesLess] at h1
    | cons y b => cases c with
      | nil => simp [Op.bytesLess] at h2
      | cons z c =>
        simp only [Op.bytesLess, Bool.or_eq_true, Bool.and_eq_true, decide_eq_true_eq, beq_iff_eq] at h1 h2 ⊢
        rcases h1 with h1 | ⟨rfl, h1⟩
        · rcases h2 with h2 | ⟨rfl, h2⟩
          · exact .inl (UInt8.lt_trans h1 h2)
          · exact .inl h1
        · rcases h2 with h2 | ⟨rfl, h2⟩
          · exact .inl h2
          · exact .inr ⟨rfl, ih b c h1 h2⟩
theorem less_irr : ∀ a : List UInt8, Op.bytesLess a a = false := by
  intro a
  induction a with
  | nil => rfl
  | cons x a ih => simp [Op.bytesLess, ih]
theorem less_ne {a b : ByteArray} (h : Op.bytesLess a.toList b.toList = true) : a ≠ b := by
  rintro rfl
  rw [less_irr] at h
  cases h
theorem ris_of {P : Nat → ByteArray} {len : Nat} (h : ∀ k, 0 < k → k < len → Op.bytesLess (P (k - 1)).toList (P k).toList = true) : ∀ i j, i < j → j < len → Op.bytesLess (P i).toList (P j).toList = true := by
  intro i j
  induction j with
  | zero => intro h1; omega
  | succ j ih =>
    intro h1 h2
    have h3 := h (j + 1) (by omega) h2
    rw [Nat.add_sub_cancel] at h3
    rcases Nat.lt_or_ge i j with g | g
    · exact less_trans _ _ _ (ih g (by omega)) h3
    · have : i = j := by omega
      subst this
      exact h3
theorem less_pre : ∀ a b : List UInt8, Op.bytesLess (a ++ b) a = false := by
  intro a b
  induction a with
  | nil => cases b <;> rfl
  | cons x a ih => simp [Op.bytesLess, ih]
end Go.Proofs.Ytdbpknmoacjodaa
namespace Go.Proofs.Ytdbpknmoacjodaa
open Go.RowKit Go.PlainAid

theorem cut_right (a b : ByteArray) : (a ++ b).extract a.size (a ++ b).size = b := by
  apply ByteArray.ext
  apply Array.toList_inj.1
  rw [Lib.extract_data, ByteArray.data_append, Array.toList_append, List.drop_append_of_le_length (by rw [Array.length_toList]; exact Nat.le_refl _), List.drop_of_length_le (by rw [Array.length_toList]; exact Nat.le_refl _), List.nil_append, List.take_of_length_le]
  rw [ByteArray.size_append, Array.length_toList, Nat.add_sub_cancel_left]
  exact Nat.le_refl _
theorem cut_mid (a b c : ByteArray) : (a ++ (b ++ c)).extract a.size (a.size + b.size) = b := by
  apply ByteArray.ext
  apply Array.toList_inj.1
  rw [Lib.extract_data, ByteArray.data_append, Array.toList_append, List.drop_append_of_le_length (by rw [Array.length_toList]; exact Nat.le_refl _), List.drop_of_length_le (by rw [Array.length_toList]; exact Nat.le_refl _), List.nil_append, Nat.add_sub_cancel_left, ByteArray.data_append, Array.toList_append, List.take_append_of_le_length (by rw [Array.length_toList]; exact Nat.le_refl _), List.take_of_length_le]
  rw [Array.length_toList]
  exact Nat.le_refl _
theorem var_at (a t : ByteArray) (n : Nat) (h1 : n ≤ 562949953421311) : varAt1 (a ++ (strOfNums (varL n) ++ t)) a.size = some ((n : Int), ((a ++ strOfNums (varL n)).size : Int)) := by
  have e := readVar_var (n : Int) t (by omega) (by omega)
  have hl := (vl_length 6 (n : Int)).1
  rw [varL_yes (by omega) (by omega)]
  have h2 : (rvAns ((a ++ (strOfNums (vl 6 n) ++ t)).extract a.size (a ++ (strOfNums (vl 6 n) ++ t)).size)) = ((n : Int), ((vl 6 n).length : Int)) := by rw [cut_right, e]
  rw [varAt1_yes (by rw [ByteArray.size_append]; omega) (by rw [h2]; simp only; omega), h2, ByteArray.size_append, strOfNums_size]
  simp
theorem take_at (a p t : ByteArray) (h1 : p.size ≤ 562949953421311) : takeS (a ++ (pieceS p ++ t)) a.size = (p, ((a ++ pieceS p).size : Int)) := by
  have e : a ++ (pieceS p ++ t) = a ++ (strOfNums (varL (p.size : Int)) ++ (p ++ t)) := by unfold pieceS; simp only [ByteArray.append_assoc]
  have e2 : a ++ (pieceS p ++ t) = (a ++ strOfNums (varL (p.size : Int))) ++ (p ++ t) := by rw [e]; simp only [ByteArray.append_assoc]
  have h := var_at a (p ++ t) p.size h1
  rw [← e] at h
  unfold takeS
  rw [h]
  simp only
  have hs : (a ++ (pieceS p ++ t)).size = (a ++ strOfNums (varL (p.size : Int))).size + (p.size + t.size) := by rw [e2, ByteArray.size_append, ByteArray.size_append (a := p)]
  rw [if_neg (by omega), Int.toNat_natCast, show (((a ++ strOfNums (varL (p.size : Int))).size : Int) + (p.size : Int)).toNat = (a ++ strOfNums (varL (p.size : Int))).size + p.size from by omega, e2, cut_mid]
  congr 1
  rw [show a ++ pieceS p = (a ++ strOfNums (varL (p.size : Int))) ++ p from by unfold pieceS; simp only [ByteArray.append_assoc], ByteArray.size_append (b := p)]
  omega
theorem showTo_more (h : ByteArray) (Pt Tx : Nat → ByteArray) (k n : Nat) : ∃ t, showTo h Pt Tx (k + n) = showTo h Pt Tx k ++ t := by
  induction n with
  | zero => exact ⟨{ data := #[] }, (ByteArray.append_empty ..).symm⟩
  | succ n ih =>
    obtain ⟨t, ht⟩ := ih
    exact ⟨t ++ (pieceS (Pt (k + n)) ++ pieceS (Tx (k + n))), by rw [← Nat.add_assoc, showTo, ht]; simp only [ByteArray.append_assoc]⟩
theorem flsOf_succ (k : Nat) (Pt Tx : Nat → ByteArray) : flsOf (k + 1) Pt Tx = flsOf k Pt Tx ++ [(Pt k, Tx k)] := by
  unfold flsOf
  rw [List.range_succ, List.map_append]
  rfl
theorem readTo_show {h : ByteArray} {Pt Tx : Nat → ByteArray} {len : Nat} (hsm : ∀ j, j < len → (Pt j).size ≤ 562949953421311 ∧ (Tx j).size ≤ 562949953421311) : ∀ (n k : Nat), k + n = len → readTo (showTo h Pt Tx len) n ((showTo h Pt Tx k).size : Int) (flsOf k Pt Tx) = some (flsOf len Pt Tx) := by
  intro n
  induction n with
  | zero => intro k hk; rw [Nat.add_zero] at hk; subst hk; rfl
  | succ n ih =>
    intro k hk
    obtain ⟨t, ht⟩ := showTo_more h Pt Tx (k + 1) n
    rw [show k + 1 + n = len from by omega] at ht
    have h1 := hsm k (by omega)
    have e1 : showTo h Pt Tx len = showTo h Pt Tx k ++ (pieceS (Pt k) ++ (pieceS (Tx k) ++ t)) := by rw [ht, showTo]; simp only [ByteArray.append_assoc]
    have e2 : showTo h Pt Tx len = (showTo h Pt Tx k ++ pieceS (Pt k)) ++ (pieceS (Tx k) ++ t) := by rw [e1]; simp only [ByteArray.append_assoc]
    have t1 := take_at (showTo h Pt Tx k) (Pt k) (pieceS (Tx k) ++ t) h1.1
    rw [← e1] at t1
    have t2 := take_at (showTo h Pt Tx k ++ pieceS (Pt k)) (Tx k) t h1.2
    rw [← e2] at t2
    rw [readTo, t1]
    simp only
    rw [t2]
    simp only
    rw [if_neg (by omega), ← flsOf_succ]
    have := ih (k + 1) (by omega)
    rw [showTo] at this
    exact this
theorem ptOf_fls {len : Nat} {Pt Tx : Nat → ByteArray} {j : Nat} (h : j < len) : ptOf (flsOf len Pt Tx) j = Pt j := by
  unfold ptOf
  simp only [List.getD]
  rw [flsOf_at h]
  rfl
theorem txOf_fls {len : Nat} {Pt Tx : Nat → ByteArray} {j : Nat} (h : j < len) : txOf (flsOf len Pt Tx) j = Tx j := by
  unfold txOf
  simp only [List.getD]
  rw [flsOf_at h]
  rfl
theorem filesB_congr {len : Nat} {P T P' T' : Nat → ByteArray} (hp : ∀ j, j < len → P j = P' j) (ht : ∀ j, j < len → T j = T' j) : filesB len P T = filesB len P' T' := by
  unfold filesB
  refine decide_eq_decide.2 ⟨fun h => ⟨h.1, fun k hk => ?_⟩, fun h => ⟨h.1, fun k hk => ?_⟩⟩
  · have := h.2 k hk
    rw [hp k hk, ht k hk] at this
    exact ⟨this.1, fun h0 => by rw [← hp (k - 1) (by omega)]; exact this.2 h0⟩
  · have := h.2 k hk
    rw [← hp k hk, ← ht k hk] at this
    exact ⟨this.1, fun h0 => by rw [hp (k - 1) (by omega)]; exact this.2 h0⟩
theorem showTo_congr {h : ByteArray} {P T P' T' : Nat → ByteArray} : ∀ k, (∀ j, j < k → P j = P' j ∧ T j = T' j) → showTo h P T k = showTo h P' T' k := by
  intro k
  induction k with
  | zero => intro _; rfl
  | succ k ih => intro hk; rw [showTo, showTo, ih fun j hj => hk j (by omega), (hk k (by omega)).1, (hk k (by omega)).2]
theorem showS_congr {len : Nat} {P T P' T' : Nat → ByteArray} (hk : ∀ j, j < len → P j = P' j ∧ T j = T' j) : showS len P T = showS len P' T' := by
  unfold showS
  rw [filesB_congr (fun j hj => (hk j hj).1) (fun j hj => (hk j hj).2), showTo_congr len hk]
theorem read_show {len : Nat} {Pt Tx : Nat → ByteArray} (hb : filesB len Pt Tx = true) : readS (showS len Pt Tx) = (flsOf len Pt Tx, true) := by
  have hs := files_small hb
  have e : showS len Pt Tx = showTo (headF len) Pt Tx len := by rw [showS, if_pos hb]
  obtain ⟨t, ht⟩ := showTo_more (headF len) Pt Tx 0 len
  rw [Nat.zero_add] at ht
  have e1 : showTo (headF len) Pt Tx len = ({ data := #[102] } : ByteArray) ++ (strOfNums (varL (len : Int)) ++ t) := by rw [ht, showTo, headF]; simp only [ByteArray.append_assoc]
  have v := var_at ({ data := #[102] } : ByteArray) t len (by omega)
  rw [← e1] at v
  have v' : varAt1 (showTo (headF len) Pt Tx len) 1 = some ((len : Int), ((headF len).size : Int)) := v
  have r := readTo_show (h := headF len) (Pt := Pt) (Tx := Tx) (len := len) (fun j hj => by have := hs.2 j hj; omega) len 0 (by omega)
  have r' : readTo (showTo (headF len) Pt Tx len) len ((headF len).size : Int) [] = some (flsOf len Pt Tx) := r
  unfold readS
  rw [e, v']
  simp only
  rw [if_neg (by omega), Int.toNat_natCast, r']
  simp only
  rw [if_pos]
  rw [flsOf_len, showS_congr (P' := Pt) (T' := Tx) (fun j hj => ⟨ptOf_fls hj, txOf_fls hj⟩), e]
  exact beq_self_eq_true _
theorem read_none_show {len : Nat} {Pt Tx : Nat → ByteArray} (hb : filesB len Pt Tx = false) : readS (showS len Pt Tx) = ([], false) := by
  unfold showS
  rw [hb]
  have : varAt1 (if false = true then showTo (headF len) Pt Tx len else ({ data := #[] } : ByteArray)) 1 = none := varAt1_off (by rw [if_neg (by decide)]; show ¬ (0 ≤ (1 : Int) ∧ (1 : Int) ≤ ((0 : Nat) : Int)); omega)
  unfold readS
  rw [this]
theorem show_read {s : ByteArray} (h : (readS s).2 = true) : showS (readS s).1.length (ptOf (readS s).1) (txOf (readS s).1) = s := by
  unfold readS at h ⊢
  split at h
  · cases h
  · next r hr =>
    split at h
    · cases h
    · next h8 =>
      rw [if_neg h8]
      split at h
      · cases h
      · next F hF =>
        split at h
        · next he => rw [if_pos he]; exact (toList_eq_iff _ _).1 he
        · cases h

def Ris (fs : List Fl) : Prop := fs.Pairwise fun x y => Op.bytesLess x.1.toList y.1.toList = true
theorem fls_ris {fs : List Fl} (h : filesB fs.length (ptOf fs) (txOf fs) = true) : Ris fs := by
  have h1 := (filesB_iff.1 h).2
  unfold Ris
  rw [List.pairwise_iff_getElem]
  intro i j hi hj hij
  have := ris_of (P := ptOf fs) (len := fs.length) (fun k h0 hk => (h1 k hk).2 h0) i j hij hj
  unfold ptOf at this
  simp only [List.getD] at this
  rw [List.getElem?_eq_getElem hi, List.getElem?_eq_getElem hj] at this
  exact this
theorem filesB_fls (len : Nat) (Pt Tx : Nat → ByteArray) : filesB (flsOf len Pt Tx).length (ptOf (flsOf len Pt Tx)) (txOf (flsOf len Pt Tx)) = filesB len Pt Tx := by
  rw [flsOf_len]
  exact filesB_congr (fun j hj => ptOf_fls hj) (fun j hj => txOf_fls hj)
def Ahd (x : Fl) (A : List Fl) : Prop := ∀ y ∈ A, Op.bytesLess y.1.toList x.1.toList = true
def Bhd (x : Fl) (B : List Fl) : Prop := ∀ y ∈ B, Op.bytesLess x.1.toList y.1.toList = true
theorem beq_no {a b : ByteArray} (h : a ≠ b) : (a.toList == b.toList) = false := by
  cases e : a.toList == b.toList with
  | false => rfl
  | true => exact absurd ((toList_eq_iff _ _).1 e) h
theorem put_ahd (x : Fl) : ∀ (A : List Fl), Ahd x A → ∀ out, A.foldl (putStep x) (false, out) = (false, out ++ A) := by
  intro A
  induction A with
  | nil => intro _ out; simp
  | cons y A ih =>
    intro h out
    have hy := h y (by simp)
    have e : putStep x (false, out) y = (false, out ++ [y]) := by
      unfold putStep
      rw [beq_no (less_ne hy), hy]
      rfl
    rw [List.foldl_cons, e, ih (fun z hz => h z (by simp [hz]))]
    simp
theorem less_not {a b : ByteArray} (h : Op.bytesLess a.toList b.toList = true) : Op.bytesLess b.toList a.toList = false := by
  cases e : Op.bytesLess b.toList a.toList with
  | false => rfl
  | true => have := less_trans _ _ _ h e; rw [less_irr] at this; cases this
theorem put_bhd (x : Fl) : ∀ (B : List Fl), Bhd x B → ∀ out, B.foldl (putStep x) (true, out) = (true, out ++ B) := by
  intro B
  induction B with
  | nil => intro _ out; simp
  | cons y B ih =>
    intro h out
    have hy := h y (by simp)
    have e : putStep x (true, out) y = (true, out ++ [y]) := by
      unfold putStep
      rw [beq_no (less_ne hy).symm]
      rfl
    rw [List.foldl_cons, e, ih (fun z hz => h z (by simp [hz]))]
    simp
theorem less_tri : ∀ a b : List UInt8, Op.bytesLess a b = true ∨ a = b ∨ Op.bytesLess b a = true := by
  intro a
  induction a with
  | nil => intro b; cases b with
    | nil => exact .inr (.inl rfl)
    | cons y b => exact .inl rfl
  | cons x a ih =>
    intro b
    cases b with
    | nil => exact .inr (.inr rfl)
    | cons y b =>
      simp only [Op.bytesLess, Bool.or_eq_true, Bool.and_eq_true, decide_eq_true_eq, beq_iff_eq]
      rcases Nat.lt_trichotomy x.toNat y.toNat with h | h | h
      · exact .inl (.inl h)
      · have e := UInt8.toNat_inj.1 h
        subst e
        rcases ih b with h | h | h
        · exact .inl (.inr ⟨rfl, h⟩)
        · exact .inr (.inl (by rw [h]))
        · exact .inr (.inr (.inr ⟨rfl, h⟩))
      · exact .inr (.inr (.inl h))
theorem part_at (x : Fl) : ∀ fs : List Fl, Ris fs → ∃ A M B, fs = A ++ (M ++ B) ∧ Ahd x A ∧ Bhd x B ∧ (M = [] ∨ ∃ t, M = [(x.1, t)]) := by
  intro fs
  induction fs with
  | nil => intro _; exact ⟨[], [], [], rfl, (fun y hy => by cases hy), (fun y hy => by cases hy), .inl rfl⟩
  | cons y fs ih =>
    intro h
    obtain ⟨h1, h2⟩ := List.pairwise_cons.1 h
    rcases less_tri y.1.toList x.1.toList with g | g | g
    · obtain ⟨A, M, B, e, hA, hB, hM⟩ := ih h2
      refine ⟨y :: A, M, B, by rw [e]; rfl, fun z hz => ?_, hB, hM⟩
      rcases List.mem_cons.1 hz with rfl | hz
      · exact g
      · exact hA z hz
    · have e : y.1 = x.1 := (toList_eq_iff _ _).1 (by rw [g]; exact beq_self_eq_true _)
      exact ⟨[], [y], fs, rfl, (fun z hz => by cases hz), (fun z hz => by rw [← e]; exact h1 z hz), .inr ⟨y.2, by rw [← e]⟩⟩
    · refine ⟨[], [], y :: fs, rfl, (fun z hz => by cases hz), (fun z hz => ?_), .inl rfl⟩
      rcases List.mem_cons.1 hz with rfl | hz
      · exact g
      · exact less_trans _ _ _ g (h1 z hz)
theorem put_part {x : Fl} {A M B : List Fl} (hA : Ahd x A) (hB : Bhd x B) (hM : M = [] ∨ ∃ t, M = [(x.1, t)]) : putFs (A ++ (M ++ B)) x = A ++ x :: B := by
  have key : (A ++ (M ++ B)).foldl (putStep x) (false, []) = (true, A ++ x :: B) ∨ (M = [] ∧ B = [] ∧ (A ++ (M ++ B)).foldl (putStep x) (false, []) = (false, A)) := by
    rw [List.foldl_append, put_ahd x A hA, List.nil_append]
    rcases hM with rfl | ⟨t, rfl⟩
    · rw [List.nil_append]
      cases B with
      | nil => exact .inr ⟨rfl, rfl, rfl⟩
      | cons y B =>
        have hy := hB y (by simp)
        refine .inl ?_
        have e : putStep x (false, A) y = (true, A ++ [x] ++ [y]) := by
          unfold putStep
          rw [beq_no (less_ne hy).symm, less_not hy]
          rfl
        rw [List.foldl_cons, e, put_bhd x B fun z hz => hB z (by simp [hz])]
        simp
    · refine .inl ?_
      have e : putStep x (false, A) (x.1, t) = (true, A ++ [x]) := by
        unfold putStep
        simp only [beq_self_eq_true, if_true, less_irr]
        rfl
      rw [List.singleton_append, List.foldl_cons, e, put_bhd x B hB]
      simp
  unfold putFs
  rcases key with h | ⟨rfl, rfl, h⟩
  · rw [h]; rfl
  · rw [h]; rfl

def findF (fs : List Fl) (q : ByteArray) : ByteArray × Bool := findS fs.length (ptOf fs) (txOf fs) q
theorem ptOf_at {fs : List Fl} {j : Nat} (h : j < fs.length) : ptOf fs j = fs[j].1 ∧ txOf fs j = fs[j].2 := by
  unfold ptOf txOf
  simp only [List.getD]
  rw [List.getElem?_eq_getElem h]
  exact ⟨rfl, rfl⟩
theorem find_in {fs : List Fl} (hb : filesB fs.length (ptOf fs) (txOf fs) = true) {y : Fl} (hy : y ∈ fs) : findF fs y.1 = (y.2, true) := by
  obtain ⟨k, hk, rfl⟩ := List.getElem_of_mem hy
  have hr := fls_ris hb
  unfold Ris at hr
  rw [List.pairwise_iff_getElem] at hr
  unfold findF
  rw [findS_at hb hk (ptOf_at hk).1 (fun j hj => ?_), (ptOf_at hk).2]
  rw [(ptOf_at (Nat.lt_trans hj hk)).1]
  exact less_ne (hr j k (Nat.lt_trans hj hk) hk hj)
theorem find_out {fs : List Fl} {q : ByteArray} (h : ∀ y ∈ fs, y.1 ≠ q) : findF fs q = ({ data := #[] }, false) := by
  unfold findF
  refine findS_none fun j hj => ?_
  rw [(ptOf_at hj).1]
  exact h _ (List.getElem_mem hj)
theorem findF_fls (len : Nat) (Pt Tx : Nat → ByteArray) (q : ByteArray) : findF (flsOf len Pt Tx) q = findS len Pt Tx q := by
  unfold findF findS
  rw [filesB_fls, flsOf_len]
  split
  · have : ∀ k, k ≤ len → findTo (ptOf (flsOf len Pt Tx)) (txOf (flsOf len Pt Tx)) q k = findTo Pt Tx q k := by
      intro k
      induction k with
      | zero => intro _; rfl
      | succ k ih => intro hk; rw [findTo, findTo, ih (by omega), ptOf_fls (by omega), txOf_fls (by omega)]
    exact this len (Nat.le_refl _)
  · rfl
theorem drop_all {x : Fl} {A B : List Fl} (hA : Ahd x A) (hB : Bhd x B) : dropL (A ++ x :: B) x.1 = A ++ B := by
  unfold dropL
  rw [List.filter_append, List.filter_cons, if_neg (by simp [keepP])]
  congr 1
  · refine List.filter_eq_self.2 fun y hy => ?_
    unfold keepP
    rw [beq_no (less_ne (hA y hy))]
    rfl
  · refine List.filter_eq_self.2 fun y hy => ?_
    unfold keepP
    rw [beq_no (less_ne (hB y hy)).symm]
    rfl
theorem chA_same {b : List Fl} (hb : filesB b.length (ptOf b) (txOf b) = true) : ∀ (A : List Fl) (out : List ByteArray), (∀ y ∈ A, y ∈ b) → A.foldl (chA b.length (ptOf b) (txOf b)) out = out := by
  intro A
  induction A with
  | nil => intro _ _; rfl
  | cons y A ih =>
    intro out h
    have e : chA b.length (ptOf b) (txOf b) out y = out := by
      have := find_in hb (h y (by simp))
      unfold findF at this
      unfold chA
      rw [this]
      simp
    rw [List.foldl_cons, e, ih out fun z hz => h z (by simp [hz])]
theorem chB_same {a : List Fl} (ha : filesB a.length (ptOf a) (txOf a) = true) : ∀ (B : List Fl) (out : List ByteArray), (∀ y ∈ B, y ∈ a) → B.foldl (chB a.length (ptOf a) (txOf a)) out = out := by
  intro B
  induction B with
  | nil => intro _ _; rfl
  | cons y B ih =>
    intro out h
    have e : chB a.length (ptOf a) (txOf a) out y = out := by
      have := find_in ha (h y (by simp))
      unfold findF at this
      unfold chB
      rw [this]
      rfl
    rw [List.foldl_cons, e, ih out fun z hz => h z (by simp [hz])]
def changedF (a b : List Fl) : List ByteArray := b.foldl (chB a.length (ptOf a) (txOf a)) (a.foldl (chA b.length (ptOf b) (txOf b)) [])
theorem put_all {a : List Fl} {x : Fl} (ha : filesB a.length (ptOf a) (txOf a) = true) (hb : filesB (putFs a x).length (ptOf (putFs a x)) (txOf (putFs a x)) = true) :
    findF (putFs a x) x.1 = (x.2, true) ∧ (dropL (putFs a x) x.1).length + 1 = (putFs a x).length ∧
    ((findF a x.1).2 = true ∧ (findF a x.1).1 = x.2 → changedF a (putFs a x) = []) ∧ (¬ ((findF a x.1).2 = true ∧ (findF a x.1).1 = x.2) → changedF a (putFs a x) = [x.1]) ∧
    ((findF a x.1).2 = false → dropL (putFs a x) x.1 = a) := by
  obtain ⟨A, M, B, rfl, hA, hB, hM⟩ := part_at x a (fls_ris ha)
  have e := put_part hA hB hM
  rw [e] at hb ⊢
  have hx : x ∈ A ++ x :: B := by simp
  have f1 := find_in hb hx
  have d1 := drop_all hA hB
  have inA : ∀ y ∈ A, y ∈ A ++ x :: B := fun y hy => by simp [hy]
  have inB : ∀ y ∈ B, y ∈ A ++ x :: B := fun y hy => by simp [hy]
  have inA' : ∀ y ∈ A, y ∈ A ++ (M ++ B) := fun y hy => by simp [hy]
  have inB' : ∀ y ∈ B, y ∈ A ++ (M ++ B) := fun y hy => by simp [hy]
  refine ⟨f1, by rw [d1]; simp only [List.length_append, List.length_cons]; omega, ?_⟩
  unfold findF at f1
  rcases hM with rfl | ⟨t, rfl⟩
  · have g : findF (A ++ ([] ++ B)) x.1 = ({ data := #[] }, false) := find_out fun y hy => by
      simp only [List.nil_append, List.mem_append] at hy
      rcases hy with hy | hy
      · exact less_ne (hA y hy)
      · exact (less_ne (hB y hy)).symm
    rw [g]
    refine ⟨fun h => (by cases h.1), fun _ => ?_, fun _ => by rw [d1]; rfl⟩
    unfold findF at g
    unfold changedF
    have h0 : (A ++ ([] ++ B)).foldl (chA (A ++ x :: B).length (ptOf (A ++ x :: B)) (txOf (A ++ x :: B))) [] = [] := by rw [List.foldl_append, chA_same hb A _ inA, List.nil_append, chA_same hb B _ inB]
    rw [h0]
    rw [List.nil_append] at ha g inA' inB' ⊢
    rw [List.foldl_append, List.foldl_cons, chB_same ha A _ inA']
    have : chB (A ++ B).length (ptOf (A ++ B)) (txOf (A ++ B)) [] x = [x.1] := by
      unfold chB
      rw [g]
      rfl
    rw [this, chB_same ha B _ inB']
  · have g : findF (A ++ ([(x.1, t)] ++ B)) x.1 = (t, true) := find_in (y := (x.1, t)) ha (by simp)
    rw [g]
    unfold findF at g
    have hc : changedF (A ++ ([(x.1, t)] ++ B)) (A ++ x :: B) = if t = x.2 then [] else [x.1] := by
      unfold changedF
      have hi : chA (A ++ x :: B).length (ptOf (A ++ x :: B)) (txOf (A ++ x :: B)) [] (x.1, t) = if t = x.2 then [] else [x.1] := by
        unfold chA
        rw [f1]
        by_cases ht : t = x.2
        · subst ht; simp
        · rw [if_neg ht, if_pos]
          · rfl
          · rw [beq_no (Ne.symm ht)]; rfl
      have h0 : (A ++ ([(x.1, t)] ++ B)).foldl (chA (A ++ x :: B).length (ptOf (A ++ x :: B)) (txOf (A ++ x :: B))) [] = if t = x.2 then [] else [x.1] := by rw [List.foldl_append, chA_same hb A _ inA, List.singleton_append, List.foldl_cons, hi, chA_same hb B _ inB]
      rw [h0]
      rw [List.singleton_append] at ha g inA' inB' ⊢
      rw [List.foldl_append, List.foldl_cons, chB_same ha A _ inA']
      have : ∀ out, chB (A ++ (x.1, t) :: B).length (ptOf (A ++ (x.1, t) :: B)) (txOf (A ++ (x.1, t) :: B)) out x = out := fun out => by
        unfold chB
        rw [g]
        rfl
      rw [this, chB_same ha B _ inB']
    rw [hc]
    refine ⟨fun h => if_pos h.2, fun h => if_neg fun k => h ⟨rfl, k⟩, fun h => (by cases h)⟩
end Go.Proofs.Ytdbpknmoacjodaa
namespace Go.Proofs.Ytdbpknmoacjodaa
open Go.RowKit Go.PlainAid

theorem cut_part (s : ByteArray) {u n : Nat} (_ : u + n ≤ s.size) : s = s.extract 0 u ++ (s.extract u (u + n) ++ s.extract (u + n) s.size) := by
  apply bytes_ext
  rw [append_list, append_list, Lib.extract_data, Lib.extract_data, Lib.extract_data]
  have hl : s.data.toList.length = s.size := by rw [Array.length_toList]; rfl
  rw [List.drop_zero, Nat.sub_zero, Nat.add_sub_cancel_left, List.take_of_length_le (l := s.data.toList.drop (u + n)) (by rw [List.length_drop, hl]; exact Nat.le_refl _), ← List.drop_drop, List.take_append_drop, List.take_append_drop]
theorem cut_two (s : ByteArray) {u : Nat} (_ : u ≤ s.size) : s = s.extract 0 u ++ s.extract u s.size := by
  apply bytes_ext
  rw [append_list, Lib.extract_data, Lib.extract_data]
  have hl : s.data.toList.length = s.size := by rw [Array.length_toList]; rfl
  rw [List.drop_zero, Nat.sub_zero, List.take_of_length_le (l := s.data.toList.drop u) (by rw [List.length_drop, hl]; exact Nat.le_refl _), List.take_append_drop]
theorem rv_split {s : ByteArray} (h : (rvAns s).2 ≠ 0) : strOfNums (varL (rvAns s).1) = s.extract 0 (rvAns s).2.toNat := by
  rcases rvAns_cases s with e | ⟨m, h1, h2, h3, h4⟩
  · rw [e] at h; exact absurd rfl h
  · rw [h3]
    simp only
    rw [h4, show ((m : Int) + 1).toNat = m + 1 from by omega]
def rp (s : ByteArray) : Option (ByteArray × ByteArray) :=
  if (rvAns s).2 = 0 ∨ (s.size : Int) - (rvAns s).2 < (rvAns s).1 then none else some (s.extract (rvAns s).2.toNat ((rvAns s).2 + (rvAns s).1).toNat, s.extract ((rvAns s).2 + (rvAns s).1).toNat s.size)
theorem rp_split {s t r : ByteArray} (h : rp s = some (t, r)) : s = pieceS t ++ r := by
  unfold rp at h
  split at h
  · cases h
  · next hn =>
    have hb := rvAns_bd s
    have hu : (rvAns s).2 ≠ 0 := fun e => hn (.inl e)
    have hle : ¬ (s.size : Int) - (rvAns s).2 < (rvAns s).1 := fun e => hn (.inr e)
    have e1 := rv_split hu
    obtain ⟨u, hu'⟩ : ∃ u : Nat, (rvAns s).2 = (u : Int) := ⟨(rvAns s).2.toNat, by omega⟩
    obtain ⟨n, hn'⟩ : ∃ n : Nat, (rvAns s).1 = (n : Int) := ⟨(rvAns s).1.toNat, by omega⟩
    rw [hu', hn'] at h e1 hle
    rw [show ((u : Int) + (n : Int)).toNat = u + n from by omega, Int.toNat_natCast] at h
    rw [Int.toNat_natCast] at e1
    cases h
    have hsz : (s.extract u (u + n)).size = n := by rw [ByteArray.size_extract]; omega
    unfold pieceS
    rw [hsz, e1, ByteArray.append_assoc]
    exact cut_part s (by omega)
theorem rp_made (t r : ByteArray) (h : t.size ≤ 562949953421311) : rp (pieceS t ++ r) = some (t, r) := by
  have e := readVar_var (t.size : Int) (t ++ r) (by omega) (by omega)
  have e0 : pieceS t ++ r = strOfNums (vl 6 (t.size : Int)) ++ (t ++ r) := by unfold pieceS; rw [varL_yes (by omega) (by omega), ByteArray.append_assoc]
  have hl := (vl_length 6 (t.size : Int)).1
  have hs : (strOfNums (vl 6 (t.size : Int))).size = (vl 6 (t.size : Int)).length := strOfNums_size _
  unfold rp
  rw [e0, e]
  simp only
  rw [if_neg (by
    rw [ByteArray.size_append, ByteArray.size_append, hs]
    omega)]
  rw [Int.toNat_natCast, show (((vl 6 (t.size : Int)).length : Int) + (t.size : Int)).toNat = (vl 6 (t.size : Int)).length + t.size from by omega, ← hs, cut_mid]
  have e3 : strOfNums (vl 6 (t.size : Int)) ++ (t ++ r) = (strOfNums (vl 6 (t.size : Int)) ++ t) ++ r := by rw [ByteArray.append_assoc]
  rw [e3, show (strOfNums (vl 6 (t.size : Int))).size + t.size = (strOfNums (vl 6 (t.size : Int)) ++ t).size from by rw [ByteArray.size_append], cut_right]
theorem rp_none : rp ({ data := #[] } : ByteArray) = none := by
  unfold rp
  rw [if_pos]
  refine .inl ?_
  have := rvAns_bd ({ data := #[] } : ByteArray)
  have h0 : (({ data := #[] } : ByteArray).size : Int) = 0 := rfl
  omega
theorem rp_size {s t r : ByteArray} (h : rp s = some (t, r)) : t.size ≤ s.size ∧ r.size ≤ s.size := by
  have e := congrArg ByteArray.size (rp_split h)
  unfold pieceS at e
  rw [ByteArray.size_append, ByteArray.size_append] at e
  omega
def rf (s : ByteArray) : Option (Fl × ByteArray) := match rp s with
  | none => none
  | some (p, r) => match rp r with
    | none => none
    | some (t, r2) => some ((p, t), r2)
theorem rf_split {s r : ByteArray} {x : Fl} (h : rf s = some (x, r)) : s = pieceS x.1 ++ (pieceS x.2 ++ r) := by
  unfold rf at h
  split at h
  · cases h
  · next p r1 h1 =>
    split at h
    · cases h
    · next t r2 h2 =>
      cases h
      rw [rp_split h1, rp_split h2]
theorem rf_made (x : Fl) (r : ByteArray) (h1 : x.1.size ≤ 562949953421311) (h2 : x.2.size ≤ 562949953421311) : rf (pieceS x.1 ++ (pieceS x.2 ++ r)) = some (x, r) := by
  unfold rf
  rw [rp_made _ _ h1]
  simp only
  rw [rp_made _ _ h2]
theorem rf_size {s r : ByteArray} {x : Fl} (h : rf s = some (x, r)) : x.1.size ≤ s.size ∧ x.2.size ≤ s.size ∧ r.size ≤ s.size := by
  have e := congrArg ByteArray.size (rf_split h)
  unfold pieceS at e
  rw [ByteArray.size_append, ByteArray.size_append, ByteArray.size_append, ByteArray.size_append] at e
  omega
def rdTo : Nat → ByteArray → List Fl → Option (List Fl × ByteArray)
  | 0, r, out => some (out, r)
  | k + 1, r, out => match rf r with
    | none => none
    | some (x, r1) => rdTo k r1 (out ++ [x])
def catF : List Fl → ByteArray
  | [] => { data := #[] }
  | x :: F => pieceS x.1 ++ (pieceS x.2 ++ catF F)
theorem rdTo_split : ∀ (n : Nat) (r : ByteArray) (out F : List Fl) (r' : ByteArray), rdTo n r out = some (F, r') → ∃ G, F = out ++ G ∧ G.length = n ∧ r = catF G ++ r' := by
  intro n
  induction n with
  | zero =>
    intro r out F r' h
    rw [rdTo] at h
    cases h
    exact ⟨[], by simp, rfl, (ByteArray.empty_append ..).symm⟩
  | succ n ih =>
    intro r out F r' h
    rw [rdTo] at h
    split at h
    · cases h
    · next x r1 h1 =>
      obtain ⟨G, e1, e2, e3⟩ := ih _ _ _ _ h
      refine ⟨x :: G, by rw [e1]; simp, by rw [List.length_cons, e2], ?_⟩
      rw [rf_split h1, e3, catF]
      simp only [ByteArray.append_assoc]
theorem rdTo_made : ∀ (F out : List Fl), (∀ y ∈ F, y.1.size ≤ 562949953421311 ∧ y.2.size ≤ 562949953421311) → rdTo F.length (catF F) out = some (out ++ F, { data := #[] }) := by
  intro F
  induction F with
  | nil => intro out _; rw [List.append_nil]; rfl
  | cons x F ih =>
    intro out h
    have hx := h x (by simp)
    rw [List.length_cons, rdTo, catF, rf_made x _ hx.1 hx.2]
    simp only
    rw [ih _ fun y hy => h y (by simp [hy])]
    simp
theorem ptOf_app {out F : List Fl} {j : Nat} (h : j < out.length) : ptOf (out ++ F) j = ptOf out j ∧ txOf (out ++ F) j = txOf out j := by
  have h2 : j < (out ++ F).length := by rw [List.length_append]; omega
  rw [(ptOf_at h2).1, (ptOf_at h2).2, (ptOf_at h).1, (ptOf_at h).2, List.getElem_append_left h]
  exact ⟨rfl, rfl⟩
theorem show_snoc (hd : ByteArray) (out : List Fl) (x : Fl) : showTo hd (ptOf (out ++ [x])) (txOf (out ++ [x])) (out.length + 1) = showTo hd (ptOf out) (txOf out) out.length ++ pieceS x.1 ++ pieceS x.2 := by
  have h2 : out.length < (out ++ [x]).length := by rw [List.length_append]; exact Nat.lt_succ_self _
  rw [showTo, showTo_congr (P' := ptOf out) (T' := txOf out) out.length (fun j hj => ptOf_app hj), (ptOf_at h2).1, (ptOf_at h2).2]
  simp
theorem show_cat (hd : ByteArray) : ∀ (F out : List Fl), showTo hd (ptOf (out ++ F)) (txOf (out ++ F)) (out ++ F).length = showTo hd (ptOf out) (txOf out) out.length ++ catF F := by
  intro F
  induction F with
  | nil => intro out; rw [List.append_nil, catF]; exact (ByteArray.append_empty ..).symm
  | cons x F ih =>
    intro out
    have e := ih (out ++ [x])
    rw [show (out ++ [x]) ++ F = out ++ x :: F from by simp] at e
    rw [e, List.length_append, List.length_singleton, show_snoc, catF]
    simp only [ByteArray.append_assoc]
theorem show_all (hd : ByteArray) (F : List Fl) : showTo hd (ptOf F) (txOf F) F.length = hd ++ catF F := by
  have e := show_cat hd F []
  rw [List.nil_append] at e
  rw [e]
  rfl
def readI (s : ByteArray) : Option (List Fl) :=
  if Lib.hasPrefix s.data.toList [102] then
    (if (rvAns (s.extract 1 s.size)).2 = 0 ∨ 8 < (rvAns (s.extract 1 s.size)).1 then none
     else match rdTo (rvAns (s.extract 1 s.size)).1.toNat ((s.extract 1 s.size).extract (rvAns (s.extract 1 s.size)).2.toNat (s.extract 1 s.size).size) [] with
      | none => none
      | some (F, r) => if r.size = 0 ∧ filesB F.length (ptOf F) (txOf F) = true then some F else none)
  else none
theorem pre_iff {s : ByteArray} : Lib.hasPrefix s.data.toList [102] = true ↔ ∃ r, s = ({ data := #[102] } : ByteArray) ++ r := by
  constructor
  · intro h
    unfold Lib.hasPrefix at h
    obtain ⟨l, hl⟩ := List.isPrefixOf_iff_prefix.1 h
    refine ⟨⟨l.toArray⟩, bytes_ext ?_⟩
    rw [append_list, ← hl]
  · rintro ⟨r, rfl⟩
    unfold Lib.hasPrefix
    refine List.isPrefixOf_iff_prefix.2 ⟨r.data.toList, ?_⟩
    rw [append_list]
theorem pre_cut (r : ByteArray) : (({ data := #[102] } : ByteArray) ++ r).extract 1 (({ data := #[102] } : ByteArray) ++ r).size = r := cut_right ({ data := #[102] } : ByteArray) r
theorem readI_some {s : ByteArray} {F : List Fl} (h : readI s = some F) : filesB F.length (ptOf F) (txOf F) = true ∧ s = showS F.length (ptOf F) (txOf F) := by
  unfold readI at h
  split at h
  · next hp =>
    obtain ⟨r, rfl⟩ := pre_iff.1 hp
    rw [pre_cut] at h
    split at h
    · cases h
    · next hn =>
      have hu : (rvAns r).2 ≠ 0 := fun e => hn (.inl e)
      have h8 : ¬ 8 < (rvAns r).1 := fun e => hn (.inr e)
      have hb := rvAns_bd r
      split at h
      · cases h
      · next F' r' hr =>
        split at h
        · next hz =>
          cases h
          refine ⟨hz.2, ?_⟩
          obtain ⟨G, e1, e2, e3⟩ := rdTo_split _ _ _ _ _ hr
          rw [List.nil_append] at e1
          subst e1
          have er : r' = { data := #[] } := ByteArray.size_eq_zero_iff.1 hz.1
          rw [er] at e3
          have e4 : catF F ++ ({ data := #[] } : ByteArray) = catF F := ByteArray.append_empty ..
          rw [e4] at e3
          rw [showS, if_pos hz.2, show_all, headF, e2, ← e3]
          rw [show (((rvAns r).1.toNat : Nat) : Int) = (rvAns r).1 from by omega, rv_split hu, ByteArray.append_assoc, ← cut_two r (by omega)]
        · cases h
  · cases h
theorem readI_made {F : List Fl} (hb : filesB F.length (ptOf F) (txOf F) = true) : readI (showS F.length (ptOf F) (txOf F)) = some F := by
  have hs := files_small hb
  have hF : ∀ y ∈ F, y.1.size ≤ 562949953421311 ∧ y.2.size ≤ 562949953421311 := fun y hy => by
    obtain ⟨j, hj, rfl⟩ := List.getElem_of_mem hy
    have := hs.2 j hj
    rw [(ptOf_at hj).1, (ptOf_at hj).2] at this
    omega
  have e : showS F.length (ptOf F) (txOf F) = ({ data := #[102] } : ByteArray) ++ (strOfNums (varL (F.length : Int)) ++ catF F) := by rw [showS, if_pos hb, show_all, headF, ByteArray.append_assoc]
  have hv := readVar_var (F.length : Int) (catF F) (by omega) (by omega)
  rw [← varL_yes (by omega) (by omega)] at hv
  have hl := (vl_length 6 (F.length : Int)).1
  unfold readI
  rw [e, if_pos (pre_iff.2 ⟨_, rfl⟩), pre_cut, hv]
  simp only
  rw [if_neg (by rw [varL_yes (by omega) (by omega)]; omega), Int.toNat_natCast, Int.toNat_natCast]
  rw [show (varL (F.length : Int)).length = (strOfNums (varL (F.length : Int))).size from (strOfNums_size _).symm, cut_right, rdTo_made F [] hF, List.nil_append]
  simp only
  rw [if_pos ⟨rfl, hb⟩]
theorem readS_no {s : ByteArray} (h : (readS s).2 = false) : (readS s).1 = [] := by
  unfold readS at h ⊢
  cases hv : varAt1 s 1 with
  | none => rfl
  | some r =>
    rw [hv] at h
    simp only at h ⊢
    by_cases h8 : 8 < r.1
    · rw [if_pos h8]
    · rw [if_neg h8] at h ⊢
      cases hF : readTo s r.1.toNat r.2 [] with
      | none => rfl
      | some F =>
        rw [hF] at h
        simp only at h ⊢
        split at h
        · cases h
        · next he => rw [if_neg he]
theorem readS_is (s : ByteArray) : readS s = match readI s with
    | none => ([], false)
    | some F => (F, true) := by
  cases h : readI s with
  | some F =>
    obtain ⟨h1, h2⟩ := readI_some h
    simp only
    rw [h2, read_show h1]
    congr 1
    apply List.ext_getElem?
    intro j
    rcases Nat.lt_or_ge j F.length with h | h
    · rw [flsOf_at h, List.getElem?_eq_getElem h, (ptOf_at h).1, (ptOf_at h).2]
    · rw [List.getElem?_eq_none (by rw [flsOf_len]; exact h), List.getElem?_eq_none h]
  | none =>
    simp only
    cases h2 : (readS s).2 with
    | false => exact Prod.ext (readS_no h2) h2
    | true =>
      exfalso
      have e := show_read h2
      cases hb : filesB (readS s).1.length (ptOf (readS s).1) (txOf (readS s).1) with
      | true =>
        have := readI_made hb
        rw [e, h] at this
        cases this
      | false =>
        have e2 := read_none_show hb
        rw [e] at e2
        rw [e2] at h2
        cases h2
end Go.Proofs.Ytdbpknmoacjodaa
