/-
  What is made of a number or a text is read as it, whatever stands behind: the plain facts. No program is spoken of.
-/
import Derived.Test.YtdbpknmoacjodaaCfReadVarMathToReadDecMath
import Derived.Test.YtdbpknmoacjodaaCfUnhexMath
namespace Go.Proofs.Ytdbpknmoacjodaa
open Go.RowKit Go.PlainAid

theorem bt_made (l : List Int) (hl : ∀ x ∈ l, 0 ≤ x ∧ x ≤ 255) (t : ByteArray) (k : Nat) (x : Int) (h : l[k]? = some x) : bt (strOfNums l ++ t) k = x := by
  rw [bt_list, append_list, List.map_append, strOfNums_back l hl]
  have hk := (List.getElem?_eq_some_iff.1 h).1
  rw [List.getD, List.getElem?_append_left hk, h]
  rfl
theorem bt_made' (l : List Int) (hl : ∀ x ∈ l, 0 ≤ x ∧ x ≤ 255) (k : Nat) (x : Int) (h : l[k]? = some x) : bt (strOfNums l) k = x := by
  rw [bt_list, strOfNums_back l hl, List.getD, h]
  rfl
theorem bsl_made (l : List Int) (hl : ∀ x ∈ l, 0 ≤ x ∧ x ≤ 255) (t : ByteArray) : bsl (strOfNums l ++ t) 0 l.length = l := by
  apply List.ext_getElem?
  intro k
  by_cases hk : k < l.length
  · rw [bsl_at _ 0 _ k hk, Nat.zero_add, bt_made l hl t k _ (List.getElem?_eq_getElem hk), List.getElem?_eq_getElem hk]
  · rw [List.getElem?_eq_none (by rw [bsl_length]; omega), List.getElem?_eq_none (by omega)]
theorem bsl_made' (l : List Int) (hl : ∀ x ∈ l, 0 ≤ x ∧ x ≤ 255) : bsl (strOfNums l) 0 l.length = l := by
  apply List.ext_getElem?
  intro k
  by_cases hk : k < l.length
  · rw [bsl_at _ 0 _ k hk, Nat.zero_add, bt_made' l hl k _ (List.getElem?_eq_getElem hk), List.getElem?_eq_getElem hk]
  · rw [List.getElem?_eq_none (by rw [bsl_length]; omega), List.getElem?_eq_none (by omega)]

/-! Var -/
theorem hvm_of_vl (s : ByteArray) (i f m : Nat) (q : Int) (h0 : 0 ≤ q) (h : bsl s i m = vl f q) : hvm s i m = if q < 2 ^ (7 * (f + 1)) then q else hvm s i m := by
  split
  · rename_i hq
    induction f generalizing i m q with
    | zero =>
      rw [vl] at h
      match m, h with
      | 1, h =>
        simp only [bsl, List.cons.injEq, and_true] at h
        have e : (2 : Int) ^ (7 * (0 + 1)) = 128 := by decide
        simp only [hvm, h]
        omega
      | 0, h => simp [bsl] at h
      | m + 2, h => simp [bsl] at h
    | succ f ih =>
      by_cases k : q < 128
      · rw [vl_small _ _ k] at h
        match m, h with
        | 1, h =>
          simp only [bsl, List.cons.injEq, and_true] at h
          simp only [hvm, h]
          omega
        | 0, h => simp [bsl] at h
        | m + 2, h => simp [bsl] at h
      · rw [vl_more _ _ k] at h
        match m, h with
        | 0, h => simp [bsl] at h
        | m + 1, h =>
          rw [bsl, List.cons.injEq] at h
          rw [hvm, h.1, ih (i + 1) m (q / 128) (by omega) h.2 (by rw [pow7] at hq; omega)]
          omega
  · rfl
theorem rvAns_of_can {s : ByteArray} {m : Nat} (h : Can s 0 (m + 1)) (hm : m < 7) (hs : m + 1 ≤ s.size) : rvAns s = (rv s (m + 1), (m : Int) + 1) := by
  have hc := h
  rw [can_iff] at hc
  simp only [Nat.zero_add] at hc
  have on : ∀ i, i ≤ m → rvGo s (7 - i) i = rvAns s := by
    intro i
    induction i with
    | zero => intro _; rfl
    | succ i ih =>
      intro hi
      rw [← rvGo_on s i (by omega) (by omega) (hc.1 i (by omega))]
      exact ih (by omega)
  rw [← on m (Nat.le_refl _)]
  exact rvGo_is s m hm (by omega) (by omega) (by omega)
theorem readVar_var (n : Int) (t : ByteArray) (h0 : 0 ≤ n) (h1 : n ≤ 562949953421311) : rvAns (strOfNums (vl 6 n) ++ t) = (n, ((vl 6 n).length : Int)) := by
  have hp : (2 : Int) ^ (7 * (6 + 1)) = 562949953421312 := by decide
  have hb := vl_bd 6 n h0 (by omega)
  have hl := vl_length 6 n
  have hbs := bsl_made (vl 6 n) hb t
  have hv := hvm_of_vl _ 0 6 _ n h0 hbs
  rw [if_pos (by omega)] at hv
  obtain ⟨m, hm⟩ : ∃ m, (vl 6 n).length = m + 1 := ⟨(vl 6 n).length - 1, by omega⟩
  rw [hm] at hbs hv ⊢
  have hc : Can (strOfNums (vl 6 n) ++ t) 0 (m + 1) := can_of_vl _ 0 m 6 (by omega) (by rw [hv, hbs])
  rw [rvAns_of_can hc (by omega) (by rw [ByteArray.size_append, strOfNums_size]; omega), rv, hv]
  simp
theorem rvAns_cases (s : ByteArray) : rvAns s = (0, 0) ∨ ∃ m, m < 7 ∧ m + 1 ≤ s.size ∧ rvAns s = (rv s (m + 1), (m : Int) + 1) ∧ strOfNums (varL (rv s (m + 1))) = s.extract 0 (m + 1) := by
  have go : ∀ f i, i + f = 7 → (∀ j, j < i → 128 ≤ bt s j) → rvGo s f i = (0, 0) ∨ ∃ m, m < 7 ∧ m + 1 ≤ s.size ∧ rvGo s f i = (rv s (m + 1), (m : Int) + 1) ∧ Can s 0 (m + 1) := by
    intro f
    induction f with
    | zero => intro i _ _; exact .inl rfl
    | succ f ih =>
      intro i hi ha
      rw [rvGo]
      by_cases hs : i < s.size
      · rw [if_pos hs]
        by_cases hb : 128 ≤ bt s i
        · rw [if_pos hb]
          refine ih (i + 1) (by omega) (fun j hj => ?_)
          by_cases e : j = i
          · rw [e]; exact hb
          · exact ha j (by omega)
        · rw [if_neg hb]
          by_cases hz : bt s i = 0 ∧ 0 < i
          · rw [if_pos hz]; exact .inl rfl
          · rw [if_neg hz]
            refine .inr ⟨i, by omega, by omega, rfl, ?_⟩
            rw [can_iff]
            simp only [Nat.zero_add]
            exact ⟨ha, by omega, by omega⟩
      · rw [if_neg hs]; exact .inl rfl
  rcases go 7 0 rfl (fun j hj => by omega) with h | ⟨m, h1, h2, h3, h4⟩
  · exact .inl h
  · exact .inr ⟨m, h1, h2, h3, (same_iff s m h1 h2).2 h4⟩

/-! Fixed -/
theorem dl_bd (n : Int) (k : Nat) : ∀ x ∈ dl n k, 0 ≤ x ∧ x ≤ 255 := by
  induction k with
  | zero => simp [dl]
  | succ k ih =>
    intro x hx
    simp only [dl, List.mem_cons] at hx
    rcases hx with rfl | hx
    · omega
    · exact ih x hx
theorem rfix_made (n : Int) (t : ByteArray) (hf : n / 2 ^ (8 * 7) = 0) (k : Nat) (hk : k ≤ 7) : rfix (strOfNums (dl n 7) ++ t) k = n / 2 ^ (8 * (7 - k)) := by
  induction k with
  | zero => rw [rfix]; exact hf.symm
  | succ k ih =>
    rw [rfix, ih (by omega), bt_made _ (dl_bd n 7) t k _ (dl_at n 7 k (by omega)), show 7 - 1 - k = 7 - (k + 1) from by omega, show 7 - k = (7 - (k + 1)) + 1 from by omega, ← shr8]
    omega
theorem readFixed_fixed (n : Int) (t : ByteArray) (hf : n / 2 ^ (8 * 7) = 0) : rfOk (strOfNums (dl n 7) ++ t) 7 = true ∧ rfV (strOfNums (dl n 7) ++ t) 7 = n := by
  have hs : (7 : Int) ≤ ((strOfNums (dl n 7) ++ t).size : Nat) := by rw [ByteArray.size_append, strOfNums_size, dl_length]; omega
  refine ⟨rfOk_yes (by omega) (by omega) hs, ?_⟩
  rw [rfV_yes (by omega) (by omega) hs]
  show rfix _ 7 = n
  rw [rfix_made n t hf 7 (by omega)]
  simp

/-! Dec -/
theorem dv_made (s : ByteArray) (p k : Nat) (m : Int) (h0 : 0 ≤ m) (h : m < 10 ^ k) (hb : ∀ j, j < k → bt s (p + j) = 48 + m / 10 ^ (k - 1 - j) % 10) (j : Nat) (hj : j ≤ k) : dv s p j = m / 10 ^ (k - j) := by
  induction j with
  | zero => rw [dv, Nat.sub_zero]; exact (Int.ediv_eq_zero_of_lt h0 h).symm
  | succ j ih =>
    rw [dv, ih (by omega), hb j (by omega), show k - 1 - j = k - (j + 1) from by omega, show k - j = (k - (j + 1)) + 1 from by omega, ← tenth]
    omega
theorem dgk_at' (m : Int) (c j : Nat) (h : j < c) : (dgk m c)[j]? = some (48 + m / 10 ^ (c - 1 - j) % 10) := by
  have := dgk_at m c (c - 1 - j) (by omega)
  rwa [show c - 1 - (c - 1 - j) = j from by omega] at this
theorem dcn_small (m : Int) (h0 : 0 ≤ m) (h1 : m ≤ 18446744073709551615) : dcn m ≤ 9 ↔ m < 1000000000 := by
  obtain ⟨a, b, c, d⟩ := dcn_facts m h0 h1
  have e : (10 : Int) ^ 9 = 1000000000 := by decide
  constructor
  · intro h
    have := pow10_mono h
    omega
  · intro h
    rcases Nat.lt_or_ge 9 (dcn m) with k | k
    · have := pow10_mono (show 9 ≤ dcn m - 1 by omega)
      omega
    · exact k
theorem readDec_dec (n : Int) (hb : -9223372036854775808 ≤ n ∧ n ≤ 9223372036854775807) : rdOk (strOfNums (decL n)) = decide (-1000000000 < n ∧ n < 1000000000) ∧ (-1000000000 < n ∧ n < 1000000000 → rdV (strOfNums (decL n)) = n) := by
  have hbd := decL_bd n
  have hall := bsl_made' (decL n) hbd
  have hsz : (strOfNums (decL n)).size = (decL n).length := strOfNums_size _
  by_cases hn : n < 0
  · obtain ⟨m, rfl⟩ : ∃ m, n = -m := ⟨-n, by omega⟩
    have hd : decL (-m) = 45 :: dgk m (dcn m) := by rw [decL_neg hn, Int.neg_neg]
    obtain ⟨a, b, c, d⟩ := dcn_facts m (by omega) (by omega)
    have hsm := dcn_small m (by omega) (by omega)
    have hlen : (decL (-m)).length = dcn m + 1 := by rw [hd, List.length_cons, dgk_length]
    have h45 : bt (strOfNums (decL (-m))) 0 = 45 := bt_made' _ hbd 0 45 (by rw [hd]; rfl)
    have ep : pfx (strOfNums (decL (-m))) = 1 := by simp [pfx, h45]
    have hdig : ∀ j, j < dcn m → bt (strOfNums (decL (-m))) (1 + j) = 48 + m / 10 ^ (dcn m - 1 - j) % 10 := by
      intro j hj
      refine bt_made' _ hbd (1 + j) _ ?_
      rw [hd, Nat.add_comm, List.getElem?_cons_succ]
      exact dgk_at' m (dcn m) j hj
    have hL : (strOfNums (decL (-m))).size - pfx (strOfNums (decL (-m))) = dcn m := by rw [hsz, hlen, ep]; omega
    have hlead := lead m (by omega) (by omega)
    have iff : RdP (strOfNums (decL (-m))) ↔ (-1000000000 < -m ∧ -m < 1000000000) := by
      unfold RdP
      rw [hL, ep]
      constructor
      · intro h
        have := hsm.1 h.2.1
        omega
      · intro h
        refine ⟨a, hsm.2 (by omega), fun j hj => ?_, .inl ?_⟩
        · rw [hdig j hj]; unfold isDig; omega
        · have := hdig 0 (by omega)
          rw [Nat.add_zero, Nat.sub_zero] at this
          rw [this]
          exact hlead
    refine ⟨by unfold rdOk; exact decide_eq_decide.2 iff, fun h => ?_⟩
    have hv := dv_made _ 1 (dcn m) m (by omega) c hdig (dcn m) (Nat.le_refl _)
    rw [Nat.sub_self, Int.pow_zero, Int.ediv_one] at hv
    rw [rdV, if_pos (rdOk_yes (iff.2 h)), if_pos ep, show (strOfNums (decL (-m))).size - 1 = dcn m from by rw [hsz, hlen]; omega, hv]
  · have hd : decL n = dgk n (dcn n) := decL_pos (by omega)
    obtain ⟨a, b, c, d⟩ := dcn_facts n (by omega) (by omega)
    have hsm := dcn_small n (by omega) (by omega)
    have hlen : (decL n).length = dcn n := by rw [hd, dgk_length]
    have hdig : ∀ j, j < dcn n → bt (strOfNums (decL n)) (0 + j) = 48 + n / 10 ^ (dcn n - 1 - j) % 10 := by
      intro j hj
      refine bt_made' _ hbd (0 + j) _ ?_
      rw [hd, Nat.zero_add]
      exact dgk_at' n (dcn n) j hj
    have hne : bt (strOfNums (decL n)) 0 ≠ 45 := by
      have := hdig 0 (by omega)
      rw [Nat.zero_add] at this
      rw [this]
      omega
    have ep : pfx (strOfNums (decL n)) = 0 := by simp [pfx, hne]
    have hL : (strOfNums (decL n)).size - pfx (strOfNums (decL n)) = dcn n := by rw [hsz, hlen, ep]; omega
    have iff : RdP (strOfNums (decL n)) ↔ (-1000000000 < n ∧ n < 1000000000) := by
      unfold RdP
      rw [hL, ep]
      constructor
      · intro h
        have := hsm.1 h.2.1
        omega
      · intro h
        refine ⟨a, hsm.2 (by omega), fun j hj => ?_, ?_⟩
        · rw [hdig j hj]; unfold isDig; omega
        · by_cases hz : n = 0
          · right
            refine ⟨rfl, ?_⟩
            rw [hsz, hlen, hz]
            decide
          · left
            have := hdig 0 (by omega)
            rw [Nat.zero_add, Nat.sub_zero] at this
            rw [this]
            exact lead n (by omega) (by omega)
    refine ⟨by unfold rdOk; exact decide_eq_decide.2 iff, fun h => ?_⟩
    have hv := dv_made _ 0 (dcn n) n (by omega) c hdig (dcn n) (Nat.le_refl _)
    rw [Nat.sub_self, Int.pow_zero, Int.ediv_one] at hv
    rw [rdV, if_pos (rdOk_yes (iff.2 h)), if_neg (by omega), hsz, hlen, hv]

/-! Hex -/
theorem hexL_bd (t : ByteArray) (k : Nat) : ∀ x ∈ hexL t k, 0 ≤ x ∧ x ≤ 255 := by
  induction k with
  | zero => simp [hexL]
  | succ k ih =>
    intro x hx
    simp only [hexL, List.mem_append, List.mem_cons, List.not_mem_nil, or_false] at hx
    rcases hx with hx | rfl | rfl
    · exact ih x hx
    · exact hexd_bd _
    · exact hexd_bd _
theorem unhex_hex (t : ByteArray) : unhexOk (strOfNums (hexL t t.size)) = true ∧ strOfNums (unhexL (strOfNums (hexL t t.size))) = t := by
  have hbd := hexL_bd t t.size
  have hsz : (strOfNums (hexL t t.size)).size = 2 * t.size := by rw [strOfNums_size, hexL_length]
  have hpair : ∀ k, k < t.size → hexv (bt (strOfNums (hexL t t.size)) (2 * k)) = bt t k / 16 ∧ hexv (bt (strOfNums (hexL t t.size)) (2 * k + 1)) = bt t k % 16 := by
    intro k hk
    have b0 := bt_nonneg t k
    have b1 := bt_le t k
    rw [bt_made' _ hbd _ _ (hexL_hi t t.size k hk), bt_made' _ hbd _ _ (hexL_lo t t.size k hk), hexv_of _ (by omega), hexv_of _ (by omega)]
    exact ⟨by omega, by omega⟩
  have hun : ∀ n, n ≤ t.size → unL (strOfNums (hexL t t.size)) n = bsl t 0 n ∧ unOk (strOfNums (hexL t t.size)) n = true := by
    intro n
    induction n with
    | zero => intro _; exact ⟨rfl, rfl⟩
    | succ n ih =>
      intro hn
      obtain ⟨a, b⟩ := ih (by omega)
      obtain ⟨p1, p2⟩ := hpair n (by omega)
      have b0 := bt_nonneg t n
      rw [unL, unOk, a, b, bsl_snoc, Nat.zero_add, pairV, p1, p2, pairOk_iff.2 ⟨by omega, by omega⟩]
      refine ⟨?_, rfl⟩
      congr 2
      omega
  have hh : (strOfNums (hexL t t.size)).size / 2 = t.size := by omega
  have hok : unhexOk (strOfNums (hexL t t.size)) = true := unhexOk_yes (by omega) (by rw [hh]; exact (hun _ (Nat.le_refl _)).2)
  refine ⟨hok, ?_⟩
  rw [unhexL_yes hok, hh, (hun _ (Nat.le_refl _)).1]
  exact (all_bsl t).symm
end Go.Proofs.Ytdbpknmoacjodaa
