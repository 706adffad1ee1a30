/-
  Files read piece by piece, each from what stands behind the one ahead of it, as plain functions: they tell what is told of places. No program is spoken of.
-/
import Derived.Test.YtdbpknmoacjodaaCfFilesMathToFilesLaw
namespace Go.Proofs.Ytdbpknmoacjodaa
open Go.RowKit Go.PlainAid

theorem cut_part (s : ByteArray) {u n : Nat} (_ : u + n ≤ s.size) : s = s.extract 0 u ++ (s.extract u (u + n) ++ s.extract (u + n) s.size) := by
  apply bytes_ext
  rw [append_list, append_list, Lib.extract_data, Lib.extract_data, Lib.extract_data]
  have hl : s.data.toList.length = s.size := by rw [Array.length_toList]; rfl
  rw [List.drop_zero, Nat.sub_zero, Nat.add_sub_cancel_left, List.take_of_length_le (l := s.data.toList.drop (u + n)) (by rw [List.length_drop, hl]; exact Nat.le_refl _), ← List.drop_drop, List.take_append_drop, List.take_append_drop]
theorem cut_two (s : ByteArray) {u : Nat} (_ : u ≤ s.size) : s = s.extract 0 u ++ s.extract u s.size := by
  apply bytes_ext
  rw [append_list, Lib.extract_data, Lib.extract_data]
  have hl : s.data.toList.length = s.size := by rw [Array.length_toList]; rfl
  rw [List.drop_zero, Nat.sub_zero, List.take_of_length_le (l := s.data.toList.drop u) (by rw [List.length_drop, hl]; exact Nat.le_refl _), List.take_append_drop]
theorem rv_split {s : ByteArray} (h : (rvAns s).2 ≠ 0) : strOfNums (varL (rvAns s).1) = s.extract 0 (rvAns s).2.toNat := by
  rcases rvAns_cases s with e | ⟨m, h1, h2, h3, h4⟩
  · rw [e] at h; exact absurd rfl h
  · rw [h3]
    simp only
    rw [h4, show ((m : Int) + 1).toNat = m + 1 from by omega]
def rp (s : ByteArray) : Option (ByteArray × ByteArray) :=
  if (rvAns s).2 = 0 ∨ (s.size : Int) - (rvAns s).2 < (rvAns s).1 then none else some (s.extract (rvAns s).2.toNat ((rvAns s).2 + (rvAns s).1).toNat, s.extract ((rvAns s).2 + (rvAns s).1).toNat s.size)
theorem rp_split {s t r : ByteArray} (h : rp s = some (t, r)) : s = pieceS t ++ r := by
  unfold rp at h
  split at h
  · cases h
  · next hn =>
    have hb := rvAns_bd s
    have hu : (rvAns s).2 ≠ 0 := fun e => hn (.inl e)
    have hle : ¬ (s.size : Int) - (rvAns s).2 < (rvAns s).1 := fun e => hn (.inr e)
    have e1 := rv_split hu
    obtain ⟨u, hu'⟩ : ∃ u : Nat, (rvAns s).2 = (u : Int) := ⟨(rvAns s).2.toNat, by omega⟩
    obtain ⟨n, hn'⟩ : ∃ n : Nat, (rvAns s).1 = (n : Int) := ⟨(rvAns s).1.toNat, by omega⟩
    rw [hu', hn'] at h e1 hle
    rw [show ((u : Int) + (n : Int)).toNat = u + n from by omega, Int.toNat_natCast] at h
    rw [Int.toNat_natCast] at e1
    cases h
    have hsz : (s.extract u (u + n)).size = n := by rw [ByteArray.size_extract]; omega
    unfold pieceS
    rw [hsz, e1, ByteArray.append_assoc]
    exact cut_part s (by omega)
theorem rp_made (t r : ByteArray) (h : t.size ≤ 562949953421311) : rp (pieceS t ++ r) = some (t, r) := by
  have e := readVar_var (t.size : Int) (t ++ r) (by omega) (by omega)
  have e0 : pieceS t ++ r = strOfNums (vl 6 (t.size : Int)) ++ (t ++ r) := by unfold pieceS; rw [varL_yes (by omega) (by omega), ByteArray.append_assoc]
  have hl := (vl_length 6 (t.size : Int)).1
  have hs : (strOfNums (vl 6 (t.size : Int))).size = (vl 6 (t.size : Int)).length := strOfNums_size _
  unfold rp
  rw [e0, e]
  simp only
  rw [if_neg (by
    rw [ByteArray.size_append, ByteArray.size_append, hs]
    omega)]
  rw [Int.toNat_natCast, show (((vl 6 (t.size : Int)).length : Int) + (t.size : Int)).toNat = (vl 6 (t.size : Int)).length + t.size from by omega, ← hs, cut_mid]
  have e3 : strOfNums (vl 6 (t.size : Int)) ++ (t ++ r) = (strOfNums (vl 6 (t.size : Int)) ++ t) ++ r := by rw [ByteArray.append_assoc]
  rw [e3, show (strOfNums (vl 6 (t.size : Int))).size + t.size = (strOfNums (vl 6 (t.size : Int)) ++ t).size from by rw [ByteArray.size_append], cut_right]
theorem rp_none : rp ({ data := #[] } : ByteArray) = none := by
  unfold rp
  rw [if_pos]
  refine .inl ?_
  have := rvAns_bd ({ data := #[] } : ByteArray)
  have h0 : (({ data := #[] } : ByteArray).size : Int) = 0 := rfl
  omega
theorem rp_size {s t r : ByteArray} (h : rp s = some (t, r)) : t.size ≤ s.size ∧ r.size ≤ s.size := by
  have e := congrArg ByteArray.size (rp_split h)
  unfold pieceS at e
  rw [ByteArray.size_append, ByteArray.size_append] at e
  omega
def rf (s : ByteArray) : Option (Fl × ByteArray) := match rp s with
  | none => none
  | some (p, r) => match rp r with
    | none => none
    | some (t, r2) => some ((p, t), r2)
theorem rf_split {s r : ByteArray} {x : Fl} (h : rf s = some (x, r)) : s = pieceS x.1 ++ (pieceS x.2 ++ r) := by
  unfold rf at h
  split at h
  · cases h
  · next p r1 h1 =>
    split at h
    · cases h
    · next t r2 h2 =>
      cases h
      rw [rp_split h1, rp_split h2]
theorem rf_made (x : Fl) (r : ByteArray) (h1 : x.1.size ≤ 562949953421311) (h2 : x.2.size ≤ 562949953421311) : rf (pieceS x.1 ++ (pieceS x.2 ++ r)) = some (x, r) := by
  unfold rf
  rw [rp_made _ _ h1]
  simp only
  rw [rp_made _ _ h2]
theorem rf_size {s r : ByteArray} {x : Fl} (h : rf s = some (x, r)) : x.1.size ≤ s.size ∧ x.2.size ≤ s.size ∧ r.size ≤ s.size := by
  have e := congrArg ByteArray.size (rf_split h)
  unfold pieceS at e
  rw [ByteArray.size_append, ByteArray.size_append, ByteArray.size_append, ByteArray.size_append] at e
  omega
def rdTo : Nat → ByteArray → List Fl → Option (List Fl × ByteArray)
  | 0, r, out => some (out, r)
  | k + 1, r, out => match rf r with
    | none => none
    | some (x, r1) => rdTo k r1 (out ++ [x])
def catF : List Fl → ByteArray
  | [] => { data := #[] }
  | x :: F => pieceS x.1 ++ (pieceS x.2 ++ catF F)
theorem rdTo_split : ∀ (n : Nat) (r : ByteArray) (out F : List Fl) (r' : ByteArray), rdTo n r out = some (F, r') → ∃ G, F = out ++ G ∧ G.length = n ∧ r = catF G ++ r' := by
  intro n
  induction n with
  | zero =>
    intro r out F r' h
    rw [rdTo] at h
    cases h
    exact ⟨[], by simp, rfl, (ByteArray.empty_append ..).symm⟩
  | succ n ih =>
    intro r out F r' h
    rw [rdTo] at h
    split at h
    · cases h
    · next x r1 h1 =>
      obtain ⟨G, e1, e2, e3⟩ := ih _ _ _ _ h
      refine ⟨x :: G, by rw [e1]; simp, by rw [List.length_cons, e2], ?_⟩
      rw [rf_split h1, e3, catF]
      simp only [ByteArray.append_assoc]
theorem rdTo_made : ∀ (F out : List Fl), (∀ y ∈ F, y.1.size ≤ 562949953421311 ∧ y.2.size ≤ 562949953421311) → rdTo F.length (catF F) out = some (out ++ F, { data := #[] }) := by
  intro F
  induction F with
  | nil => intro out _; rw [List.append_nil]; rfl
  | cons x F ih =>
    intro out h
    have hx := h x (by simp)
    rw [List.length_cons, rdTo, catF, rf_made x _ hx.1 hx.2]
    simp only
    rw [ih _ fun y hy => h y (by simp [hy])]
    simp
theorem ptOf_app {out F : List Fl} {j : Nat} (h : j < out.length) : ptOf (out ++ F) j = ptOf out j ∧ txOf (out ++ F) j = txOf out j := by
  have h2 : j < (out ++ F).length := by rw [List.length_append]; omega
  rw [(ptOf_at h2).1, (ptOf_at h2).2, (ptOf_at h).1, (ptOf_at h).2, List.getElem_append_left h]
  exact ⟨rfl, rfl⟩
theorem show_snoc (hd : ByteArray) (out : List Fl) (x : Fl) : showTo hd (ptOf (out ++ [x])) (txOf (out ++ [x])) (out.length + 1) = showTo hd (ptOf out) (txOf out) out.length ++ pieceS x.1 ++ pieceS x.2 := by
  have h2 : out.length < (out ++ [x]).length := by rw [List.length_append]; exact Nat.lt_succ_self _
  rw [showTo, showTo_congr (P' := ptOf out) (T' := txOf out) out.length (fun j hj => ptOf_app hj), (ptOf_at h2).1, (ptOf_at h2).2]
  simp
theorem show_cat (hd : ByteArray) : ∀ (F out : List Fl), showTo hd (ptOf (out ++ F)) (txOf (out ++ F)) (out ++ F).length = showTo hd (ptOf out) (txOf out) out.length ++ catF F := by
  intro F
  induction F with
  | nil => intro out; rw [List.append_nil, catF]; exact (ByteArray.append_empty ..).symm
  | cons x F ih =>
    intro out
    have e := ih (out ++ [x])
    rw [show (out ++ [x]) ++ F = out ++ x :: F from by simp] at e
    rw [e, List.length_append, List.length_singleton, show_snoc, catF]
    simp only [ByteArray.append_assoc]
theorem show_all (hd : ByteArray) (F : List Fl) : showTo hd (ptOf F) (txOf F) F.length = hd ++ catF F := by
  have e := show_cat hd F []
  rw [List.nil_append] at e
  rw [e]
  rfl
def readI (s : ByteArray) : Option (List Fl) :=
  if Lib.hasPrefix s.data.toList [102] then
    (if (rvAns (s.extract 1 s.size)).2 = 0 ∨ 8 < (rvAns (s.extract 1 s.size)).1 then none
     else match rdTo (rvAns (s.extract 1 s.size)).1.toNat ((s.extract 1 s.size).extract (rvAns (s.extract 1 s.size)).2.toNat (s.extract 1 s.size).size) [] with
      | none => none
      | some (F, r) => if r.size = 0 ∧ filesB F.length (ptOf F) (txOf F) = true then some F else none)
  else none
theorem pre_iff {s : ByteArray} : Lib.hasPrefix s.data.toList [102] = true ↔ ∃ r, s = ({ data := #[102] } : ByteArray) ++ r := by
  constructor
  · intro h
    unfold Lib.hasPrefix at h
    obtain ⟨l, hl⟩ := List.isPrefixOf_iff_prefix.1 h
    refine ⟨⟨l.toArray⟩, bytes_ext ?_⟩
    rw [append_list, ← hl]
  · rintro ⟨r, rfl⟩
    unfold Lib.hasPrefix
    refine List.isPrefixOf_iff_prefix.2 ⟨r.data.toList, ?_⟩
    rw [append_list]
theorem pre_cut (r : ByteArray) : (({ data := #[102] } : ByteArray) ++ r).extract 1 (({ data := #[102] } : ByteArray) ++ r).size = r := cut_right ({ data := #[102] } : ByteArray) r
theorem readI_some {s : ByteArray} {F : List Fl} (h : readI s = some F) : filesB F.length (ptOf F) (txOf F) = true ∧ s = showS F.length (ptOf F) (txOf F) := by
  unfold readI at h
  split at h
  · next hp =>
    obtain ⟨r, rfl⟩ := pre_iff.1 hp
    rw [pre_cut] at h
    split at h
    · cases h
    · next hn =>
      have hu : (rvAns r).2 ≠ 0 := fun e => hn (.inl e)
      have h8 : ¬ 8 < (rvAns r).1 := fun e => hn (.inr e)
      have hb := rvAns_bd r
      split at h
      · cases h
      · next F' r' hr =>
        split at h
        · next hz =>
          cases h
          refine ⟨hz.2, ?_⟩
          obtain ⟨G, e1, e2, e3⟩ := rdTo_split _ _ _ _ _ hr
          rw [List.nil_append] at e1
          subst e1
          have er : r' = { data := #[] } := ByteArray.size_eq_zero_iff.1 hz.1
          rw [er] at e3
          have e4 : catF F ++ ({ data := #[] } : ByteArray) = catF F := ByteArray.append_empty ..
          rw [e4] at e3
          rw [showS, if_pos hz.2, show_all, headF, e2, ← e3]
          rw [show (((rvAns r).1.toNat : Nat) : Int) = (rvAns r).1 from by omega, rv_split hu, ByteArray.append_assoc, ← cut_two r (by omega)]
        · cases h
  · cases h
theorem readI_made {F : List Fl} (hb : filesB F.length (ptOf F) (txOf F) = true) : readI (showS F.length (ptOf F) (txOf F)) = some F := by
  have hs := files_small hb
  have hF : ∀ y ∈ F, y.1.size ≤ 562949953421311 ∧ y.2.size ≤ 562949953421311 := fun y hy => by
    obtain ⟨j, hj, rfl⟩ := List.getElem_of_mem hy
    have := hs.2 j hj
    rw [(ptOf_at hj).1, (ptOf_at hj).2] at this
    omega
  have e : showS F.length (ptOf F) (txOf F) = ({ data := #[102] } : ByteArray) ++ (strOfNums (varL (F.length : Int)) ++ catF F) := by rw [showS, if_pos hb, show_all, headF, ByteArray.append_assoc]
  have hv := readVar_var (F.length : Int) (catF F) (by omega) (by omega)
  rw [← varL_yes (by omega) (by omega)] at hv
  have hl := (vl_length 6 (F.length : Int)).1
  unfold readI
  rw [e, if_pos (pre_iff.2 ⟨_, rfl⟩), pre_cut, hv]
  simp only
  rw [if_neg (by rw [varL_yes (by omega) (by omega)]; omega), Int.toNat_natCast, Int.toNat_natCast]
  rw [show (varL (F.length : Int)).length = (strOfNums (varL (F.length : Int))).size from (strOfNums_size _).symm, cut_right, rdTo_made F [] hF, List.nil_append]
  simp only
  rw [if_pos ⟨rfl, hb⟩]
theorem readS_no {s : ByteArray} (h : (readS s).2 = false) : (readS s).1 = [] := by
  unfold readS at h ⊢
  cases hv : varAt1 s 1 with
  | none => rfl
  | some r =>
    rw [hv] at h
    simp only at h ⊢
    by_cases h8 : 8 < r.1
    · rw [if_pos h8]
    · rw [if_neg h8] at h ⊢
      cases hF : readTo s r.1.toNat r.2 [] with
      | none => rfl
      | some F =>
        rw [hF] at h
        simp only at h ⊢
        split at h
        · cases h
        · next he => rw [if_neg he]
theorem readS_is (s : ByteArray) : readS s = match readI s with
    | none => ([], false)
    | some F => (F, true) := by
  cases h : readI s with
  | some F =>
    obtain ⟨h1, h2⟩ := readI_some h
    simp only
    rw [h2, read_show h1]
    congr 1
    apply List.ext_getElem?
    intro j
    rcases Nat.lt_or_ge j F.length with h | h
    · rw [flsOf_at h, List.getElem?_eq_getElem h, (ptOf_at h).1, (ptOf_at h).2]
    · rw [List.getElem?_eq_none (by rw [flsOf_len]; exact h), List.getElem?_eq_none h]
  | none =>
    simp only
    cases h2 : (readS s).2 with
    | false => exact Prod.ext (readS_no h2) h2
    | true =>
      exfalso
      have e := show_read h2
      cases hb : filesB (readS s).1.length (ptOf (readS s).1) (txOf (readS s).1) with
      | true =>
        have := readI_made hb
        rw [e, h] at this
        cases this
      | false =>
        have e2 := read_none_show hb
        rw [e] at e2
        rw [e2] at h2
        cases h2
end Go.Proofs.Ytdbpknmoacjodaa
