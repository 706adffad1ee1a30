/-
  What impl's folderFor and Resolve answer: the walks.
  What is cleaned twice is cleaned once, and what Clean tells is empty just where there is no path: the plain facts. No program is spoken of.
  What holds of the directories that a path is in: each begins it, is smaller than the one ahead of it, and is clean; the last one is the first directory of all. No program is spoken of.
  The directories that a clean path is in, one behind the other: each is what stands ahead of the last / of the one ahead of it. No program is spoken of.
-/
import Derived.Lib.LastIndexByte
import Derived.Test.YtemfbibeoibpeaaClImplPartsToImplClean
import Derived.Test.YtemfbibeoibpeaaClProbeDrawToCandLaw
namespace Go.Proofs.Ytemfbibeoibpeaa
open Go.RowKit Go.PlainAid

theorem prefix_beg (s p : ByteArray) : Lib.hasPrefix s.data.toList p.data.toList = begB p s := by
  unfold begB Lib.hasPrefix
  rw [Lib.toList_data, Lib.toList_data, Lib.extract_data, List.drop_zero, Nat.sub_zero]
  have hp : p.data.toList.length = p.size := by rw [Array.length_toList]; rfl
  have hs : s.data.toList.length = s.size := by rw [Array.length_toList]; rfl
  rw [Bool.eq_iff_iff, List.isPrefixOf_iff_prefix, Bool.and_eq_true, decide_eq_true_eq, beq_iff_eq, List.prefix_iff_eq_take, hp]
  constructor
  · intro h
    have := congrArg List.length h
    rw [List.length_take, hp, hs] at this
    exact ⟨by omega, h.symm⟩
  · exact fun h => h.2.symm
theorem last_dir (f : ByteArray) (k : Nat) (hk : k ≤ f.size) : Lib.lastIdx f 47 k + 1 = (dirTo f k : Int) := by
  induction k with
  | zero => rfl
  | succ k ih =>
    have hlt : k < f.size := by omega
    have hb : bt f k = ((f.data[k]!).toNat : Int) := by
      have h2 : k < f.data.size := hlt
      rw [← get_bt f k hlt, getElem!_pos f.data k h2]
      rfl
    unfold Lib.lastIdx dirTo
    rw [← hb]
    split
    · rfl
    · exact ih (by omega)
def folderS (f sp : ByteArray) : ByteArray :=
  if begB { data := #[47] } sp = true then { data := #[] } else if begB { data := #[46, 47] } sp = true ∨ begB { data := #[46, 46, 47] } sp = true then f.extract 0 (dirTo f f.size) else { data := #[47, 108, 105, 98, 47] }
theorem resolve_folder (f sp : ByteArray) (hp : pathB f = true) : resolveS f sp = cleanS (folderS f sp ++ sp) := by
  unfold resolveS folderS
  rw [if_neg (by rw [hp]; simp)]
  by_cases h1 : begB { data := #[47] } sp = true
  · rw [if_pos h1, if_pos h1]
    congr 1
  · rw [if_neg h1, if_neg h1]
    by_cases h2 : begB { data := #[46, 47] } sp = true ∨ begB { data := #[46, 46, 47] } sp = true
    · rw [if_pos h2, if_neg (fun k => by rw [k.1, k.2] at h2; simp at h2)]
    · rw [if_neg h2, if_pos ⟨by simpa using fun k => h2 (.inl k), by simpa using fun k => h2 (.inr k)⟩]
theorem folder_size (f sp : ByteArray) (hp : pathB f = true) : (folderS f sp).size ≤ 40 := by
  have h2 : f.size ≤ 40 := (pathB_iff.1 hp).2.1
  unfold folderS
  split
  · exact Nat.zero_le _
  · split
    · rw [ByteArray.size_extract]; omega
    · decide

theorem folderFor_any (f sp : ByteArray) (w : World) (hp : pathB f = true) (_ : sp.size ≤ 1048576) :
    Calls Try.prog 76 #[.string f, .string sp] w fun e w' => e = .returned (.string (folderS f sp)) ∧ w' = w := by
  have hf2 : f.size ≤ 40 := (pathB_iff.1 hp).2.1
  have hf1 : 1 ≤ f.size := (pathB_iff.1 hp).1
  have E0 : bt f 0 = 47 := (pathB_iff.1 hp).2.2.1
  have hd := dirTo_bd f E0 f.size hf1
  obtain ⟨d, hdd⟩ : ∃ d, dirTo f f.size = d := ⟨_, rfl⟩
  have hla : Lib.lastIndexByte f 47 = (d : Int) - 1 := by
    have := last_dir f f.size (Nat.le_refl _)
    rw [hdd] at this
    show Lib.lastIdx f 47 f.size = _
    omega
  rw [hdd] at hd
  have e1 := prefix_beg sp { data := #[47] }
  have e2 := prefix_beg sp { data := #[46, 47] }
  have e3 := prefix_beg sp { data := #[46, 46, 47] }
  obtain ⟨b1, hb1⟩ : ∃ b, begB { data := #[47] } sp = b := ⟨_, rfl⟩
  obtain ⟨b2, hb2⟩ : ∃ b, begB { data := #[46, 47] } sp = b := ⟨_, rfl⟩
  obtain ⟨b3, hb3⟩ : ∃ b, begB { data := #[46, 46, 47] } sp = b := ⟨_, rfl⟩
  rw [hb1] at e1
  rw [hb2] at e2
  rw [hb3] at e3
  have HV : Hid (folderS f sp = if b1 = true then { data := #[] } else if b2 = true ∨ b3 = true then f.extract 0 d else { data := #[47, 108, 105, 98, 47] }) := by
    show folderS f sp = _
    rw [folderS, hb1, hb2, hb3, hdd]
  have H1 : Hid (Lib.hasPrefix sp.data.toList (ByteArray.mk #[47]).data.toList = b1) := e1
  have H2 : Hid (Lib.hasPrefix sp.data.toList (ByteArray.mk #[46, 47]).data.toList = b2) := e2
  have H3 : Hid (Lib.hasPrefix sp.data.toList (ByteArray.mk #[46, 46, 47]).data.toList = b3) := e3
  have HL : Hid (Lib.lastIndexByte f 47 = (d : Int) - 1) := hla
  clear e1 e2 e3 hb1 hb2 hb3 hla hdd E0
  obtain ⟨hd1, hd2⟩ := hd
  cases b1 with
  | true =>
    go_enter Try.func76, Try.ntmps76
    go_wp2_with fail
    refine (Try.strings_HasPrefix _ _ _).mono ?_
    rintro e w' ⟨rfl, rfl⟩
    rw [H1.out]
    go_wp2
    go_ret
    exact ⟨ret_str (by rw [HV.out]; rfl), rfl⟩
  | false =>
    cases b2 with
    | true =>
      go_enter Try.func76, Try.ntmps76
      go_wp2_with fail
      refine (Try.strings_HasPrefix _ _ _).mono ?_
      rintro e w' ⟨rfl, rfl⟩
      rw [H1.out]
      go_wp2_with fail
      refine (Try.strings_HasPrefix _ _ _).mono ?_
      rintro e w' ⟨rfl, rfl⟩
      rw [H2.out]
      go_wp2_with fail
      refine (Try.strings_LastIndexByte _ _ (by omega) _).mono ?_
      rintro e w' ⟨rfl, rfl⟩
      rw [HL.out]
      go_wp2
      go_ret
      exact ⟨ret_str (by rw [HV.out]; rfl), rfl⟩
    | false =>
      cases b3 with
      | true =>
        go_enter Try.func76, Try.ntmps76
        go_wp2_with fail
        refine (Try.strings_HasPrefix _ _ _).mono ?_
        rintro e w' ⟨rfl, rfl⟩
        rw [H1.out]
        go_wp2_with fail
        refine (Try.strings_HasPrefix _ _ _).mono ?_
        rintro e w' ⟨rfl, rfl⟩
        rw [H2.out]
        go_wp2_with fail
        refine (Try.strings_HasPrefix _ _ _).mono ?_
        rintro e w' ⟨rfl, rfl⟩
        rw [H3.out]
        go_wp2_with fail
        refine (Try.strings_LastIndexByte _ _ (by omega) _).mono ?_
        rintro e w' ⟨rfl, rfl⟩
        rw [HL.out]
        go_wp2
        go_ret
        exact ⟨ret_str (by rw [HV.out]; rfl), rfl⟩
      | false =>
        go_enter Try.func76, Try.ntmps76
        go_wp2_with fail
        refine (Try.strings_HasPrefix _ _ _).mono ?_
        rintro e w' ⟨rfl, rfl⟩
        rw [H1.out]
        go_wp2_with fail
        refine (Try.strings_HasPrefix _ _ _).mono ?_
        rintro e w' ⟨rfl, rfl⟩
        rw [H2.out]
        go_wp2_with fail
        refine (Try.strings_HasPrefix _ _ _).mono ?_
        rintro e w' ⟨rfl, rfl⟩
        rw [H3.out]
        go_wp2
        go_ret
        exact ⟨ret_str (by rw [HV.out]; rfl), rfl⟩

theorem resolve_impl (f sp : ByteArray) (w : World) (hf : f.size ≤ 9223372036854775807) (hsp : sp.size ≤ 1048576) :
    Calls Try.prog 64 #[.string f, .string sp] w fun e w' => e = .returned (.string (resolveS f sp)) ∧ Below w.heap.size w w' := by
  by_cases hp : pathB f = true
  · have HR : Hid (resolveS f sp = cleanS (folderS f sp ++ sp)) := resolve_folder f sp hp
    have HP : Hid (pathB f = true) := hp
    have hfs := folder_size f sp hp
    go_enter Try.func64, Try.ntmps64
    go_wp2_with fail
    refine (isPath_any _ _ hf).mono ?_
    rintro e w' ⟨rfl, rfl⟩
    go_wp2_with fail
    refine (folderFor_any _ _ _ HP.out hsp).mono ?_
    rintro e w' ⟨rfl, rfl⟩
    go_wp2_with fail
    refine (clean_impl _ _ (by rw [ByteArray.size_append]; omega)).mono ?_
    rintro e w1 ⟨rfl, hb1⟩
    go_wp2
    go_ret
    exact ⟨ret_str HR.out.symm, hb1⟩
  · have hp' : pathB f = false := by simpa using hp
    have HR : Hid (resolveS f sp = { data := #[] }) := by show resolveS f sp = _; rw [resolveS, if_pos hp']
    clear hp
    go_enter Try.func64, Try.ntmps64
    go_wp2_with fail
    refine (isPath_any _ _ hf).mono ?_
    rintro e w' ⟨rfl, rfl⟩
    go_wp2
    go_ret
    exact ⟨ret_str HR.out.symm, Below.refl _ _⟩
end Go.Proofs.Ytemfbibeoibpeaa
namespace Go.Proofs.Ytemfbibeoibpeaa
open Go.RowKit Go.PlainAid

theorem bt_append (a b : ByteArray) (k : Nat) : bt (a ++ b) k = if k < a.size then bt a k else bt b (k - a.size) := by
  have hl : (a.data.toList.map (fun b => (b.toNat : Int))).length = a.size := by rw [List.length_map, Array.length_toList]; rfl
  rw [bt_list, append_list, List.map_append, List.getD]
  split
  · rename_i h
    rw [List.getElem?_append_left (by omega), bt_list a, List.getD]
  · rename_i h
    rw [List.getElem?_append_right (by omega), hl, bt_list b, List.getD]
theorem extract_mid (a b c : ByteArray) : (a ++ b ++ c).extract a.size (a.size + b.size) = b := by
  refine bytes_ext ?_
  have ha : a.data.toList.length = a.size := by rw [Array.length_toList]; rfl
  have hb : b.data.toList.length = b.size := by rw [Array.length_toList]; rfl
  rw [Lib.extract_data, append_list, append_list, List.append_assoc, List.drop_left' ha, show a.size + b.size - a.size = b.data.toList.length from by omega, List.take_left' rfl]
theorem bt_extract (s : ByteArray) (f k j : Nat) (h : f + j < k) : bt (s.extract f k) j = bt s (f + j) := by
  rw [bt_list, bt_list, Lib.extract_data, List.map_take, List.map_drop, List.getD, List.getD, List.getElem?_take, if_pos (by omega), List.getElem?_drop]

def Good (p : ByteArray) : Prop := p.toList.isEmpty = false ∧ (p.toList == [46]) = false ∧ (p.toList == [46, 46]) = false ∧ ∀ j, j < p.size → okc (bt p j) ∧ bt p j ≠ 47
def tot : List ByteArray → Nat
  | [] => 0
  | x :: l => x.size + 1 + tot l
theorem tot_append (a b : List ByteArray) : tot (a ++ b) = tot a + tot b := by
  induction a with
  | nil => simp [tot]
  | cons x a ih => simp only [List.cons_append, tot, ih]; omega
theorem tot_dropLast (l : List ByteArray) : tot l.dropLast ≤ tot l := by
  rcases List.eq_nil_or_concat l with rfl | ⟨a, x, rfl⟩
  · simp [tot]
  · rw [List.concat_eq_append, List.dropLast_concat, tot_append]
    omega
theorem clTo_inv (s : ByteArray) (hs : PathP s) (k : Nat) (hk : k ≤ s.size) :
    1 ≤ (clTo s (k + 1)).1 ∧ (clTo s (k + 1)).1 ≤ k + 1 ∧ tot (clTo s (k + 1)).2 + 1 ≤ (clTo s (k + 1)).1 ∧ (∀ j, (clTo s (k + 1)).1 ≤ j → j < k + 1 → bt s j ≠ 47) ∧ ∀ x ∈ (clTo s (k + 1)).2, Good x := by
  induction k with
  | zero =>
    have e : clTo s (0 + 1) = (0 + 1, upd (s.extract (clTo s 0).1 0) (clTo s 0).2) := clTo_part (fun h => h.2 hs.2.2.1)
    have hz : (s.extract 0 0).toList.isEmpty = true := by rw [Lib.toList_data, Lib.extract_data]; simp
    rw [e, clTo, upd_empty hz]
    exact ⟨by omega, by omega, by simp [tot], fun j h1 h2 => by omega, by simp⟩
  | succ k ih =>
    obtain ⟨i1, i2, i3, i4, i5⟩ := ih (by omega)
    by_cases h : k + 1 < s.size ∧ bt s (k + 1) ≠ 47
    · rw [clTo_on h.1 h.2]
      refine ⟨i1, by omega, i3, fun j h1 h2 => ?_, i5⟩
      by_cases e : j = k + 1
      · rw [e]; exact h.2
      · exact i4 j h1 (by omega)
    · rw [clTo_part h]
      generalize hst : clTo s (k + 1) = st at *
      obtain ⟨fr, xs⟩ := st
      simp only at i1 i2 i3 i4 i5 ⊢
      have hsz : (s.extract fr (k + 1)).size = k + 1 - fr := by rw [ByteArray.size_extract]; omega
      refine ⟨by omega, by omega, ?_, fun j h1 h2 => by omega, ?_⟩
      · unfold upd
        split
        · omega
        · split
          · rw [tot_append]; simp only [tot]; omega
          · have := tot_dropLast xs; omega
      · intro x hx
        unfold upd at hx
        split at hx
        · exact i5 x hx
        · rename_i hn
          split at hx
          · rename_i h46
            simp only [List.mem_append, List.mem_singleton] at hx
            rcases hx with hx | rfl
            · exact i5 x hx
            · have hn1 : (s.extract fr (k + 1)).toList.isEmpty = false := by
                rcases hx : (s.extract fr (k + 1)).toList.isEmpty with _ | _
                · rfl
                · exact absurd (.inl hx) hn
              have hn2 : ((s.extract fr (k + 1)).toList == [46]) = false := by
                rcases hx : ((s.extract fr (k + 1)).toList == [46]) with _ | _
                · rfl
                · exact absurd (.inr hx) hn
              refine ⟨hn1, hn2, h46, fun j hj => ?_⟩
              rw [hsz] at hj
              rw [bt_extract s fr (k + 1) j (by omega)]
              exact ⟨hs.2.2.2 _ (by omega), i4 _ (by omega) (by omega)⟩
          · exact i5 x ((List.dropLast_sublist xs).subset hx)

theorem bytes_assoc (a b c : ByteArray) : a ++ b ++ c = a ++ (b ++ c) := by
  refine bytes_ext ?_
  rw [append_list, append_list, append_list, append_list, List.append_assoc]
theorem joinTo_pre (l : List ByteArray) (m n : Nat) (h : m ≤ n) : ∃ r, joinTo l n = joinTo l m ++ r := by
  induction n with
  | zero =>
    obtain rfl : m = 0 := by omega
    exact ⟨{ data := #[] }, rfl⟩
  | succ n ih =>
    by_cases e : m = n + 1
    · subst e
      refine ⟨{ data := #[] }, bytes_ext ?_⟩
      rw [append_list]
      simp
    · obtain ⟨r, hr⟩ := ih (by omega)
      exact ⟨r ++ ({ data := #[47] } ++ l.getD n { data := #[] }), by rw [joinTo, hr, bytes_assoc, bytes_assoc]⟩
theorem one47 : ({ data := #[47] } : ByteArray).size = 1 := rfl
theorem bt_one47 : bt { data := #[47] } 0 = 47 := by decide
theorem joinTo_next (l : List ByteArray) (m : Nat) : (joinTo l (m + 1)).size = (joinTo l m).size + 1 + (l.getD m { data := #[] }).size := by
  rw [joinTo, ByteArray.size_append, ByteArray.size_append, one47]
theorem joinTo_mono (l : List ByteArray) (m n : Nat) (h : m ≤ n) : (joinTo l m).size ≤ (joinTo l n).size := by
  obtain ⟨r, hr⟩ := joinTo_pre l m n h
  rw [hr, ByteArray.size_append]
  omega
theorem join_slash (l : List ByteArray) (m n : Nat) (h : m < n) : bt (joinTo l n) (joinTo l m).size = 47 := by
  obtain ⟨r, hr⟩ := joinTo_pre l (m + 1) n h
  rw [hr, joinTo, bt_append, if_pos (by rw [ByteArray.size_append, ByteArray.size_append, one47]; omega), bt_append, if_pos (by rw [ByteArray.size_append, one47]; omega), bt_append, if_neg (by omega), Nat.sub_self, bt_one47]
theorem join_part (l : List ByteArray) (m n : Nat) (h : m < n) (j : Nat) (hj : j < (l.getD m { data := #[] }).size) : bt (joinTo l n) ((joinTo l m).size + 1 + j) = bt (l.getD m { data := #[] }) j := by
  obtain ⟨r, hr⟩ := joinTo_pre l (m + 1) n h
  rw [hr, joinTo, bt_append, if_pos (by rw [ByteArray.size_append, ByteArray.size_append, one47]; omega), bt_append, if_neg (by rw [ByteArray.size_append, one47]; omega), ByteArray.size_append, one47]
  congr 1
  omega
theorem join_extract (l : List ByteArray) (m n : Nat) (h : m < n) : (joinTo l n).extract ((joinTo l m).size + 1) (joinTo l (m + 1)).size = l.getD m { data := #[] } := by
  obtain ⟨r, hr⟩ := joinTo_pre l (m + 1) n h
  have e := extract_mid (joinTo l m ++ { data := #[47] }) (l.getD m { data := #[] }) r
  rw [ByteArray.size_append, one47] at e
  rw [hr, joinTo_next, joinTo]
  exact e
theorem clTo_join (l : List ByteArray) (hl : ∀ x ∈ l, Good x) (hn : 1 ≤ l.length) (m : Nat) (hm : m ≤ l.length) :
    clTo (joinTo l l.length) ((joinTo l m).size + 1) = ((joinTo l m).size + 1, l.take m) := by
  induction m with
  | zero =>
    have h0 : (joinTo l 0).size = 0 := rfl
    have hs := join_slash l 0 l.length (by omega)
    rw [h0] at hs ⊢
    have e : clTo (joinTo l l.length) (0 + 1) = (0 + 1, upd ((joinTo l l.length).extract (clTo (joinTo l l.length) 0).1 0) (clTo (joinTo l l.length) 0).2) := clTo_part (fun h => h.2 hs)
    have hz : ((joinTo l l.length).extract 0 0).toList.isEmpty = true := by rw [Lib.toList_data, Lib.extract_data]; simp
    rw [e, clTo, upd_empty hz, List.take_zero]
  | succ m ih =>
    have ih := ih (by omega)
    have hmem : l.getD m { data := #[] } ∈ l := by
      have e : l.getD m { data := #[] } = l[m] := by simp [List.getD, List.getElem?_eq_getElem (show m < l.length by omega)]
      rw [e]
      exact List.getElem_mem _
    have hg := hl _ hmem
    have hmono := joinTo_mono l (m + 1) l.length hm
    have hnx := joinTo_next l m
    have go : ∀ i, i ≤ (l.getD m { data := #[] }).size → clTo (joinTo l l.length) ((joinTo l m).size + 1 + i) = ((joinTo l m).size + 1, l.take m) := by
      intro i
      induction i with
      | zero => intro _; exact ih
      | succ i ihi =>
        intro hi
        rw [show (joinTo l m).size + 1 + (i + 1) = ((joinTo l m).size + 1 + i) + 1 from by omega, clTo_on (by omega) (by rw [join_part l m l.length (by omega) i (by omega)]; exact (hg.2.2.2 i (by omega)).2)]
        exact ihi (by omega)
    have hlast := go _ (Nat.le_refl _)
    rw [← hnx] at hlast
    have hend : ¬ ((joinTo l (m + 1)).size < (joinTo l l.length).size ∧ bt (joinTo l l.length) (joinTo l (m + 1)).size ≠ 47) := by
      rintro ⟨h1, h2⟩
      by_cases e : m + 1 = l.length
      · rw [e] at h1; omega
      · exact h2 (join_slash l (m + 1) l.length (by omega))
    rw [clTo_part hend, hlast]
    simp only
    rw [join_extract l m l.length (by omega), upd_name hg.1 hg.2.1 hg.2.2.1]
    congr 1
    rw [List.take_add_one]
    congr 1
    simp [List.getD, List.getElem?_eq_getElem (show m < l.length by omega)]
theorem parts_join (l : List ByteArray) (hl : ∀ x ∈ l, Good x) (hn : 1 ≤ l.length) : parts (joinTo l l.length) = l := by
  rw [parts, clTo_join l hl hn l.length (Nat.le_refl _), List.take_length]

theorem join_size (l : List ByteArray) (k : Nat) (hk : k ≤ l.length) : (joinTo l k).size = tot (l.take k) := by
  induction k with
  | zero => simp [tot, joinTo, ByteArray.size]
  | succ k ih =>
    rw [joinTo_next, ih (by omega), List.take_add_one, tot_append, List.getElem?_eq_getElem (show k < l.length by omega)]
    simp only [Option.toList_some, tot, List.getD, List.getElem?_eq_getElem (show k < l.length by omega), Option.getD_some]
    omega
theorem join_ok (l : List ByteArray) (hl : ∀ x ∈ l, Good x) (k : Nat) (hk : k ≤ l.length) : ∀ j, j < (joinTo l k).size → okc (bt (joinTo l k) j) := by
  induction k with
  | zero => intro j hj; exact absurd hj (Nat.not_lt_zero j)
  | succ k ih =>
    intro j hj
    have hmem : l.getD k { data := #[] } ∈ l := by
      have e : l.getD k { data := #[] } = l[k] := by simp [List.getD, List.getElem?_eq_getElem (show k < l.length by omega)]
      rw [e]
      exact List.getElem_mem _
    rw [joinTo_next] at hj
    rw [joinTo, bt_append]
    split
    · rw [bt_append]
      split
      · rename_i h; exact ih (by omega) j h
      · rename_i h1 h2
        rw [ByteArray.size_append, one47] at h1
        rw [show j - (joinTo l k).size = 0 from by omega, bt_one47]
        decide
    · rename_i h
      rw [ByteArray.size_append, one47] at h ⊢
      exact ((hl _ hmem).2.2.2 _ (by omega)).1
theorem cleanS_path (s : ByteArray) (h : pathB s = true) (hp : ¬ (parts s).length = 0) : pathB (joinTo (parts s) (parts s).length) = true ∧ ∀ x ∈ parts s, Good x := by
  have hP := pathB_iff.1 h
  obtain ⟨i1, i2, i3, _, i5⟩ := clTo_inv s hP s.size (Nat.le_refl _)
  have hz := join_size (parts s) _ (Nat.le_refl _)
  rw [List.take_length] at hz
  have h0 := join_slash (parts s) 0 (parts s).length (by omega)
  have hmono := joinTo_mono (parts s) 1 (parts s).length (by omega)
  rw [joinTo_next] at hmono
  refine ⟨pathB_yes ⟨by omega, ?_, h0, join_ok _ i5 _ (Nat.le_refl _)⟩, i5⟩
  have : tot (parts s) + 1 ≤ s.size + 1 := Nat.le_trans i3 i2
  have := hP.2.1
  omega
theorem ext_empty (s : ByteArray) (k : Nat) : (s.extract k k).toList.isEmpty = true := by rw [Lib.toList_data, Lib.extract_data]; simp
theorem cleanS_root_root : cleanS { data := #[47] } = { data := #[47] } := by
  have hp : pathB { data := #[47] } = true := by decide
  refine cleanS_root hp ?_
  have e1 : clTo { data := #[47] } 1 = (1, []) := by
    rw [clTo_part (k := 0) (fun h => h.2 bt_one47), clTo, upd_empty (ext_empty _ 0)]
  have e2 : clTo { data := #[47] } 2 = (2, []) := by
    rw [clTo_part (k := 1) (fun h => absurd h.1 (by decide)), e1, upd_empty (ext_empty _ 1)]
  show (clTo { data := #[47] } 2).2.length = 0
  rw [e2]
  rfl
theorem cleanS_empty : cleanS { data := #[] } = { data := #[] } := cleanS_no (by decide)
theorem cleanS_twice (s : ByteArray) : cleanS (cleanS s) = cleanS s := by
  by_cases h : pathB s = true
  · by_cases hp : (parts s).length = 0
    · rw [cleanS_root h hp, cleanS_root_root]
    · obtain ⟨h1, h2⟩ := cleanS_path s h hp
      rw [cleanS_yes h hp, cleanS_yes h1 (by rw [parts_join _ h2 (by omega)]; exact hp), parts_join _ h2 (by omega)]
  · have h' : pathB s = false := by simpa using h
    rw [cleanS_no h', cleanS_empty]
theorem cleanS_some (s : ByteArray) : (cleanS s).toList.isEmpty = !pathB s := by
  by_cases h : pathB s = true
  · rw [h]
    by_cases hp : (parts s).length = 0
    · rw [cleanS_root h hp, Lib.toList_data]; rfl
    · have h1 := (pathB_iff.1 (cleanS_path s h hp).1).1
      rw [cleanS_yes h hp, Lib.toList_data]
      rcases hx : (joinTo (parts s) (parts s).length).data.toList with _ | ⟨a, r⟩
      · exfalso
        have e : (joinTo (parts s) (parts s).length).data.toList.length = (joinTo (parts s) (parts s).length).size := by rw [Array.length_toList]; rfl
        rw [hx] at e
        simp only [List.length_nil] at e
        omega
      · rfl
  · have h' : pathB s = false := by simpa using h
    rw [cleanS_no h', h', Lib.toList_data]; rfl
end Go.Proofs.Ytemfbibeoibpeaa
namespace Go.Proofs.Ytemfbibeoibpeaa
open Go.RowKit Go.PlainAid

theorem joinTo_take (l : List ByteArray) (m : Nat) : ∀ k, k ≤ m → joinTo (l.take m) k = joinTo l k := by
  intro k
  induction k with
  | zero => intro _; rfl
  | succ k ih =>
    intro hk
    rw [joinTo, joinTo, ih (by omega)]
    have e : (l.take m).getD k { data := #[] } = l.getD k { data := #[] } := by
      rw [List.getD_eq_getElem?_getD, List.getD_eq_getElem?_getD, List.getElem?_take_of_lt (by omega)]
    rw [e]
theorem good_some {p : ByteArray} (h : Good p) : 1 ≤ p.size := by
  have h0 := h.1
  rcases Nat.lt_or_ge 0 p.size with k | k
  · exact k
  · obtain ⟨⟨l⟩⟩ := p
    cases l with
    | nil => rw [Lib.toList_data] at h0; simp at h0
    | cons a l => simp [ByteArray.size] at k
theorem slash_at (l : List ByteArray) (hl : ∀ x ∈ l, Good x) : ∀ n, n ≤ l.length → ∀ k, k < (joinTo l n).size → bt (joinTo l n) k = 47 → ∃ m, m < n ∧ k = (joinTo l m).size := by
  intro n
  induction n with
  | zero =>
    intro _ k hk _
    have : (joinTo l 0).size = 0 := rfl
    omega
  | succ n ih =>
    intro hn k hk h
    rw [joinTo_next] at hk
    rcases Nat.lt_trichotomy k (joinTo l n).size with g | g | g
    · obtain ⟨r, e⟩ := joinTo_pre l n (n + 1) (by omega)
      rw [e, bt_append, if_pos g] at h
      obtain ⟨m, hm, hk'⟩ := ih (by omega) k g h
      exact ⟨m, by omega, hk'⟩
    · exact ⟨n, by omega, g⟩
    · have e := join_part l n (n + 1) (by omega) (k - (joinTo l n).size - 1) (by omega)
      rw [show (joinTo l n).size + 1 + (k - (joinTo l n).size - 1) = k from by omega] at e
      have hmem : l.getD n { data := #[] } ∈ l := by
        rw [List.getD_eq_getElem?_getD, List.getElem?_eq_getElem (by omega)]
        exact List.getElem_mem _
      exact absurd (e.symm.trans h) ((hl _ hmem).2.2.2 _ (by omega)).2
theorem join_ext (l : List ByteArray) (m n : Nat) (h : m ≤ n) : (joinTo l n).extract 0 (joinTo l m).size = joinTo l m := by
  obtain ⟨r, e⟩ := joinTo_pre l m n h
  rw [e]
  apply ByteArray.ext
  apply Array.ext'
  rw [Lib.extract_data]
  have e2 : (joinTo l m ++ r).data.toList = (joinTo l m).data.toList ++ r.data.toList := by simp
  have e3 : (joinTo l m).size = (joinTo l m).data.toList.length := by rw [Array.length_toList]; rfl
  rw [e2, e3]
  simp
theorem join_first (l : List ByteArray) (hl : ∀ x ∈ l, Good x) (m : Nat) (h1 : 1 ≤ m) (h : m ≤ l.length) : 2 ≤ (joinTo l m).size := by
  have e : (joinTo l 1).size = (joinTo l 0).size + 1 + (l.getD 0 { data := #[] }).size := joinTo_next l 0
  have h0 : (joinTo l 0).size = 0 := rfl
  have hm := joinTo_mono l 1 m h1
  have hmem : l.getD 0 { data := #[] } ∈ l := by
    rw [List.getD_eq_getElem?_getD, List.getElem?_eq_getElem (by omega)]
    exact List.getElem_mem _
  have := good_some (hl _ hmem)
  omega
theorem join_clean_self (l : List ByteArray) (hl : ∀ x ∈ l, Good x) (m : Nat) (h1 : 1 ≤ m) (h : m ≤ l.length) (hz : (joinTo l m).size ≤ 40) : cleanS (joinTo l m) = joinTo l m := by
  have hl' : ∀ x ∈ l.take m, Good x := fun x hx => hl x (List.mem_of_mem_take hx)
  have hlen : (l.take m).length = m := by simp; omega
  have e : joinTo (l.take m) (l.take m).length = joinTo l m := by rw [hlen]; exact joinTo_take l m m (Nat.le_refl _)
  have hp : parts (joinTo l m) = l.take m := by rw [← e]; exact parts_join _ hl' (by omega)
  have h2 := join_first l hl m h1 h
  have hpath : pathB (joinTo l m) = true := pathB_yes ⟨by omega, hz, join_slash l 0 m (by omega), join_ok l hl m h⟩
  rw [cleanS_yes hpath (by rw [hp, hlen]; omega), hp, e]
def UpOk (c x : ByteArray) : Prop := x.size < c.size ∧ (c.extract 0 x.size).toList = x.toList ∧ cleanS x = x
theorem ext_size (c : ByteArray) (k : Nat) (h : k ≤ c.size) : (c.extract 0 k).size = k := by simp [ByteArray.size_extract]; omega
theorem upTo_all (l : List ByteArray) (hl : ∀ x ∈ l, Good x) (n : Nat) (hn : n ≤ l.length) (hz : (joinTo l n).size ≤ 40) : ∀ k, k < (joinTo l n).size →
    (∀ x ∈ upTo (joinTo l n) k, UpOk (joinTo l n) x ∧ 2 ≤ x.size ∧ x.size ≤ k) ∧ (upTo (joinTo l n) k).Pairwise (fun a b => b.size < a.size) := by
  intro k
  induction k with
  | zero => intro _; exact ⟨fun x hx => by simp [upTo] at hx, List.Pairwise.nil⟩
  | succ k ih =>
    intro hk
    obtain ⟨i1, i2⟩ := ih (by omega)
    by_cases h : bt (joinTo l n) (k + 1) = 47
    · rw [upTo_yes h]
      obtain ⟨m, hm, e⟩ := slash_at l hl n hn (k + 1) hk h
      have h1 : 1 ≤ m := by
        rcases Nat.lt_or_ge 0 m with g | g
        · exact g
        · obtain rfl : m = 0 := by omega
          have : (joinTo l 0).size = 0 := rfl
          omega
      have e2 : (joinTo l n).extract 0 (k + 1) = joinTo l m := by rw [e]; exact join_ext l m n (by omega)
      have h2 := join_first l hl m h1 (by omega)
      refine ⟨fun x hx => ?_, List.Pairwise.cons (fun x hx => ?_) i2⟩
      · rcases List.mem_cons.1 hx with rfl | hx
        · refine ⟨⟨?_, ?_, ?_⟩, ?_, ?_⟩
          · rw [e2]; omega
          · rw [ext_size _ _ (by omega)]
          · rw [e2]; exact join_clean_self l hl m h1 (by omega) (by omega)
          · rw [e2]; exact h2
          · rw [e2]; omega
        · obtain ⟨a, b, c⟩ := i1 x hx
          exact ⟨a, b, by omega⟩
      · have := (i1 x hx).2.2
        rw [e2]
        omega
    · rw [upTo_no h]
      exact ⟨fun x hx => ⟨(i1 x hx).1, (i1 x hx).2.1, by have := (i1 x hx).2.2; omega⟩, i2⟩
theorem up_none (p : ByteArray) (h : (cleanS p).size ≤ 1) : upL p = [] := by
  rw [upL, upC, if_neg (by omega), show (cleanS p).size - 1 = 0 from by omega]
  rfl
theorem up_some (p : ByteArray) (h : 1 < (cleanS p).size) : ∃ xs, upL p = xs ++ [{ data := #[47] }] ∧ (∀ x ∈ upL p, UpOk (cleanS p) x) ∧ (upL p).Pairwise (fun a b => b.size < a.size) := by
  have e : upL p = upTo (cleanS p) ((cleanS p).size - 1) ++ [{ data := #[47] }] := by rw [upL, upC, if_pos h]
  by_cases hp : pathB p = true
  · by_cases h0 : (parts p).length = 0
    · rw [cleanS_root hp h0, one47] at h
      omega
    · obtain ⟨k1, k2⟩ := cleanS_path p hp h0
      have ec := cleanS_yes hp h0
      have hz := (pathB_iff.1 k1).2.1
      have hs := join_slash (parts p) 0 (parts p).length (by omega)
      obtain ⟨a1, a2⟩ := upTo_all (parts p) k2 (parts p).length (Nat.le_refl _) hz ((cleanS p).size - 1) (by rw [ec] at h ⊢; omega)
      rw [← ec] at a1 a2 hs
      refine ⟨_, e, fun x hx => ?_, ?_⟩
      · rw [e] at hx
        rcases List.mem_append.1 hx with hx | hx
        · exact (a1 x hx).1
        · obtain rfl := List.mem_singleton.1 hx
          refine ⟨h, ?_, cleanS_root_root⟩
          have h1 : (cleanS p).extract 0 ({ data := #[47] } : ByteArray).size = { data := #[47] } := by
            apply ByteArray.ext
            apply Array.ext'
            have hs0 : bt (cleanS p) 0 = 47 := hs
            rw [Lib.extract_data, one47]
            have hb := (byte_at (cleanS p) 0).2 ⟨by omega, hs0⟩
            cases hd : (cleanS p).data.toList with
            | nil => rw [hd] at hb; simp at hb
            | cons a t =>
              rw [hd] at hb
              simp at hb
              rw [hb]
              rfl
          rw [h1]
      · rw [e]
        refine List.pairwise_append.2 ⟨a2, List.pairwise_singleton _ _, fun a ha b hb => ?_⟩
        obtain rfl := List.mem_singleton.1 hb
        have := (a1 a ha).2.1
        rw [one47]
        omega
  · have h' : pathB p = false := by simpa using hp
    rw [cleanS_no h'] at h
    have : ({ data := #[] } : ByteArray).size = 0 := rfl
    omega
end Go.Proofs.Ytemfbibeoibpeaa
namespace Go.Proofs.Ytemfbibeoibpeaa
open Go.RowKit Go.PlainAid

def faC (c : ByteArray) : ByteArray := c.extract 0 (max (dirTo c c.size - 1) 1)
def Sh (c : ByteArray) : Prop := c.size = 0 ∨ (bt c 0 = 47 ∧ (1 < c.size → bt c 1 ≠ 47))
theorem upTo_last (c : ByteArray) : ∀ k, upTo c k = if dirTo c (k + 1) ≤ 1 then [] else c.extract 0 (dirTo c (k + 1) - 1) :: upTo c (dirTo c (k + 1) - 2) := by
  intro k
  induction k with
  | zero =>
    rw [if_pos]
    · rfl
    · unfold dirTo
      split
      · omega
      · exact Nat.zero_le _
  | succ k ih =>
    by_cases h : bt c (k + 1) = 47
    · rw [upTo_yes h, dirTo_yes h, if_neg (by omega)]
      rfl
    · rw [upTo_no h, dirTo_no h]
      exact ih
theorem upTo_extract (c : ByteArray) (m : Nat) (hm : m ≤ c.size) : ∀ k, k < m → upTo (c.extract 0 m) k = upTo c k := by
  intro k
  induction k with
  | zero => intro _; rfl
  | succ k ih =>
    intro hk
    have e : bt (c.extract 0 m) (k + 1) = bt c (k + 1) := by rw [bt_extract _ _ _ _ (by omega), Nat.zero_add]
    have e2 : (c.extract 0 m).extract 0 (k + 1) = c.extract 0 (k + 1) := by
      apply ByteArray.ext
      apply Array.ext'
      rw [Lib.extract_data, Lib.extract_data, Lib.extract_data]
      simp [List.take_take]
      omega
    by_cases h : bt c (k + 1) = 47
    · rw [upTo_yes h, upTo_yes (e.trans h), e2, ih (by omega)]
    · rw [upTo_no h, upTo_no (by rw [e]; exact h), ih (by omega)]
theorem root_of {c : ByteArray} (h1 : c.size = 1) (h : bt c 0 = 47) : c = { data := #[47] } := by
  obtain ⟨⟨l⟩⟩ := c
  match l, h1, h with
  | [x], _, h =>
    have hx : x = 47 := by
      have h2 : ((x.toNat : Nat) : Int) = 47 := h
      apply UInt8.toNat_inj.1
      show x.toNat = 47
      omega
    rw [hx]
theorem upC_none {c : ByteArray} (h : c.size ≤ 1) : upC c = [] := by
  rw [upC, if_neg (by omega), show c.size - 1 = 0 from by omega]
  rfl
theorem dirTo_at (c : ByteArray) : ∀ k, 1 ≤ dirTo c k → bt c (dirTo c k - 1) = 47 := by
  intro k
  induction k with
  | zero => intro h; exact absurd h (by unfold dirTo; omega)
  | succ k ih =>
    intro h
    by_cases g : bt c k = 47
    · rw [dirTo_yes g]; exact g
    · rw [dirTo_no g] at h ⊢; exact ih h
theorem upC_step {c : ByteArray} (h : Sh c) (h1 : 1 < c.size) : upC c = faC c :: upC (faC c) ∧ Sh (faC c) ∧ (faC c).size < c.size ∧ 1 ≤ (faC c).size := by
  rcases h with h | ⟨h0, h2⟩
  · omega
  have h2 := h2 h1
  obtain ⟨d1, d2⟩ := dirTo_bd c h0 c.size (by omega)
  have da := dirTo_at c c.size d1
  have ul := upTo_last c (c.size - 1)
  rw [show c.size - 1 + 1 = c.size from by omega] at ul
  generalize hd : dirTo c c.size = d at d1 d2 da ul
  have hne : d ≠ 2 := fun e => by rw [e] at da; exact h2 da
  have hf : faC c = c.extract 0 (max (d - 1) 1) := by rw [faC, hd]
  by_cases d3 : d = 1
  · subst d3
    have e : faC c = { data := #[47] } := root_of (by rw [hf, ext_size _ _ (by omega)]; rfl) (by rw [hf, bt_extract _ _ _ _ (by omega)]; exact h0)
    rw [if_pos (by omega)] at ul
    rw [e, upC_none (Nat.le_of_eq one47), upC, ul, if_pos h1]
    exact ⟨rfl, .inr ⟨bt_one47, fun k => absurd k (by rw [one47]; omega)⟩, by rw [one47]; omega, Nat.le_of_eq one47.symm⟩
  · have hf : faC c = c.extract 0 (d - 1) := by rw [hf, Nat.max_eq_left (by omega)]
    have hs : (faC c).size = d - 1 := by rw [hf, ext_size _ _ (by omega)]
    rw [if_neg (by omega)] at ul
    refine ⟨?_, .inr ⟨?_, fun _ => ?_⟩, by omega, by omega⟩
    · rw [upC, ul, if_pos h1, upC, hs, if_pos (by omega), show d - 1 - 1 = d - 2 from by omega, hf, upTo_extract c (d - 1) (by omega) (d - 2) (by omega)]
      rfl
    · rw [hf, bt_extract _ _ _ _ (by omega)]; exact h0
    · rw [hf, bt_extract _ _ _ _ (by omega)]; exact h2
theorem clean_shape (p : ByteArray) : Sh (cleanS p) := by
  by_cases hp : pathB p = true
  · by_cases h0 : (parts p).length = 0
    · rw [cleanS_root hp h0]
      exact .inr ⟨bt_one47, fun k => absurd k (by rw [one47]; omega)⟩
    · obtain ⟨k1, k2⟩ := cleanS_path p hp h0
      have hs := join_slash (parts p) 0 (parts p).length (by omega)
      rw [cleanS_yes hp h0]
      refine .inr ⟨hs, fun h1 h => ?_⟩
      obtain ⟨m, hm, e⟩ := slash_at (parts p) k2 (parts p).length (Nat.le_refl _) 1 h1 h
      rcases Nat.eq_zero_or_pos m with g | g
      · subst g
        have : (joinTo (parts p) 0).size = 0 := rfl
        omega
      · have := join_first (parts p) k2 m g (by omega)
        omega
  · rw [cleanS_no (by simpa using hp)]
    exact .inl rfl
end Go.Proofs.Ytemfbibeoibpeaa
