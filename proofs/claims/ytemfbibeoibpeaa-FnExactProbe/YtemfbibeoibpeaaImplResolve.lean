/-
  What impl's folderFor and Resolve answer: the walks.
-/
import Derived.Test.YtemfbibeoibpeaaImplClean
import Derived.Test.YtemfbibeoibpeaaSpecResolve
import Derived.Lib.LastIndexByte
namespace Go.Proofs.Ytemfbibeoibpeaa
open Go.RowKit Go.PlainAid

theorem prefix_beg (s p : ByteArray) : Lib.hasPrefix s.data.toList p.data.toList = begB p s := by
  unfold begB Lib.hasPrefix
  rw [Lib.toList_data, Lib.toList_data, Lib.extract_data, List.drop_zero, Nat.sub_zero]
  have hp : p.data.toList.length = p.size := by rw [Array.length_toList]; rfl
  have hs : s.data.toList.length = s.size := by rw [Array.length_toList]; rfl
  rw [Bool.eq_iff_iff, List.isPrefixOf_iff_prefix, Bool.and_eq_true, decide_eq_true_eq, beq_iff_eq, List.prefix_iff_eq_take, hp]
  constructor
  · intro h
    have := congrArg List.length h
    rw [List.length_take, hp, hs] at this
    exact ⟨by omega, h.symm⟩
  · exact fun h => h.2.symm
theorem last_dir (f : ByteArray) (k : Nat) (hk : k ≤ f.size) : Lib.lastIdx f 47 k + 1 = (dirTo f k : Int) := by
  induction k with
  | zero => rfl
  | succ k ih =>
    have hlt : k < f.size := by omega
    have hb : bt f k = ((f.data[k]!).toNat : Int) := by
      have h2 : k < f.data.size := hlt
      rw [← get_bt f k hlt, getElem!_pos f.data k h2]
      rfl
    unfold Lib.lastIdx dirTo
    rw [← hb]
    split
    · rfl
    · exact ih (by omega)
def folderS (f sp : ByteArray) : ByteArray :=
  if begB { data := #[47] } sp = true then { data := #[] } else if begB { data := #[46, 47] } sp = true ∨ begB { data := #[46, 46, 47] } sp = true then f.extract 0 (dirTo f f.size) else { data := #[47, 108, 105, 98, 47] }
theorem resolve_folder (f sp : ByteArray) (hp : pathB f = true) : resolveS f sp = cleanS (folderS f sp ++ sp) := by
  unfold resolveS folderS
  rw [if_neg (by rw [hp]; simp)]
  by_cases h1 : begB { data := #[47] } sp = true
  · rw [if_pos h1, if_pos h1]
    congr 1
  · rw [if_neg h1, if_neg h1]
    by_cases h2 : begB { data := #[46, 47] } sp = true ∨ begB { data := #[46, 46, 47] } sp = true
    · rw [if_pos h2, if_neg (fun k => by rw [k.1, k.2] at h2; simp at h2)]
    · rw [if_neg h2, if_pos ⟨by simpa using fun k => h2 (.inl k), by simpa using fun k => h2 (.inr k)⟩]
theorem folder_size (f sp : ByteArray) (hp : pathB f = true) : (folderS f sp).size ≤ 40 := by
  have h2 : f.size ≤ 40 := (pathB_iff.1 hp).2.1
  unfold folderS
  split
  · exact Nat.zero_le _
  · split
    · rw [ByteArray.size_extract]; omega
    · decide

theorem folderFor_any (f sp : ByteArray) (w : World) (hp : pathB f = true) (_ : sp.size ≤ 1048576) :
    Calls Try.prog 76 #[.string f, .string sp] w fun e w' => e = .returned (.string (folderS f sp)) ∧ w' = w := by
  have hf2 : f.size ≤ 40 := (pathB_iff.1 hp).2.1
  have hf1 : 1 ≤ f.size := (pathB_iff.1 hp).1
  have E0 : bt f 0 = 47 := (pathB_iff.1 hp).2.2.1
  have hd := dirTo_bd f E0 f.size hf1
  obtain ⟨d, hdd⟩ : ∃ d, dirTo f f.size = d := ⟨_, rfl⟩
  have hla : Lib.lastIndexByte f 47 = (d : Int) - 1 := by
    have := last_dir f f.size (Nat.le_refl _)
    rw [hdd] at this
    show Lib.lastIdx f 47 f.size = _
    omega
  rw [hdd] at hd
  have e1 := prefix_beg sp { data := #[47] }
  have e2 := prefix_beg sp { data := #[46, 47] }
  have e3 := prefix_beg sp { data := #[46, 46, 47] }
  obtain ⟨b1, hb1⟩ : ∃ b, begB { data := #[47] } sp = b := ⟨_, rfl⟩
  obtain ⟨b2, hb2⟩ : ∃ b, begB { data := #[46, 47] } sp = b := ⟨_, rfl⟩
  obtain ⟨b3, hb3⟩ : ∃ b, begB { data := #[46, 46, 47] } sp = b := ⟨_, rfl⟩
  rw [hb1] at e1
  rw [hb2] at e2
  rw [hb3] at e3
  have HV : Hid (folderS f sp = if b1 = true then { data := #[] } else if b2 = true ∨ b3 = true then f.extract 0 d else { data := #[47, 108, 105, 98, 47] }) := by
    show folderS f sp = _
    rw [folderS, hb1, hb2, hb3, hdd]
  have H1 : Hid (Lib.hasPrefix sp.data.toList (ByteArray.mk #[47]).data.toList = b1) := e1
  have H2 : Hid (Lib.hasPrefix sp.data.toList (ByteArray.mk #[46, 47]).data.toList = b2) := e2
  have H3 : Hid (Lib.hasPrefix sp.data.toList (ByteArray.mk #[46, 46, 47]).data.toList = b3) := e3
  have HL : Hid (Lib.lastIndexByte f 47 = (d : Int) - 1) := hla
  clear e1 e2 e3 hb1 hb2 hb3 hla hdd E0
  obtain ⟨hd1, hd2⟩ := hd
  cases b1 with
  | true =>
    go_enter Try.func76, Try.ntmps76
    go_wp2_with fail
    refine (Try.strings_HasPrefix _ _ _).mono ?_
    rintro e w' ⟨rfl, rfl⟩
    rw [H1.out]
    go_wp2
    go_ret
    exact ⟨ret_str (by rw [HV.out]; rfl), rfl⟩
  | false =>
    cases b2 with
    | true =>
      go_enter Try.func76, Try.ntmps76
      go_wp2_with fail
      refine (Try.strings_HasPrefix _ _ _).mono ?_
      rintro e w' ⟨rfl, rfl⟩
      rw [H1.out]
      go_wp2_with fail
      refine (Try.strings_HasPrefix _ _ _).mono ?_
      rintro e w' ⟨rfl, rfl⟩
      rw [H2.out]
      go_wp2_with fail
      refine (Try.strings_LastIndexByte _ _ (by omega) _).mono ?_
      rintro e w' ⟨rfl, rfl⟩
      rw [HL.out]
      go_wp2
      go_ret
      exact ⟨ret_str (by rw [HV.out]; rfl), rfl⟩
    | false =>
      cases b3 with
      | true =>
        go_enter Try.func76, Try.ntmps76
        go_wp2_with fail
        refine (Try.strings_HasPrefix _ _ _).mono ?_
        rintro e w' ⟨rfl, rfl⟩
        rw [H1.out]
        go_wp2_with fail
        refine (Try.strings_HasPrefix _ _ _).mono ?_
        rintro e w' ⟨rfl, rfl⟩
        rw [H2.out]
        go_wp2_with fail
        refine (Try.strings_HasPrefix _ _ _).mono ?_
        rintro e w' ⟨rfl, rfl⟩
        rw [H3.out]
        go_wp2_with fail
        refine (Try.strings_LastIndexByte _ _ (by omega) _).mono ?_
        rintro e w' ⟨rfl, rfl⟩
        rw [HL.out]
        go_wp2
        go_ret
        exact ⟨ret_str (by rw [HV.out]; rfl), rfl⟩
      | false =>
        go_enter Try.func76, Try.ntmps76
        go_wp2_with fail
        refine (Try.strings_HasPrefix _ _ _).mono ?_
        rintro e w' ⟨rfl, rfl⟩
        rw [H1.out]
        go_wp2_with fail
        refine (Try.strings_HasPrefix _ _ _).mono ?_
        rintro e w' ⟨rfl, rfl⟩
        rw [H2.out]
        go_wp2_with fail
        refine (Try.strings_HasPrefix _ _ _).mono ?_
        rintro e w' ⟨rfl, rfl⟩
        rw [H3.out]
        go_wp2
        go_ret
        exact ⟨ret_str (by rw [HV.out]; rfl), rfl⟩

theorem resolve_impl (f sp : ByteArray) (w : World) (hf : f.size ≤ 9223372036854775807) (hsp : sp.size ≤ 1048576) :
    Calls Try.prog 64 #[.string f, .string sp] w fun e w' => e = .returned (.string (resolveS f sp)) ∧ Below w.heap.size w w' := by
  by_cases hp : pathB f = true
  · have HR : Hid (resolveS f sp = cleanS (folderS f sp ++ sp)) := resolve_folder f sp hp
    have HP : Hid (pathB f = true) := hp
    have hfs := folder_size f sp hp
    go_enter Try.func64, Try.ntmps64
    go_wp2_with fail
    refine (isPath_any _ _ hf).mono ?_
    rintro e w' ⟨rfl, rfl⟩
    go_wp2_with fail
    refine (folderFor_any _ _ _ HP.out hsp).mono ?_
    rintro e w' ⟨rfl, rfl⟩
    go_wp2_with fail
    refine (clean_impl _ _ (by rw [ByteArray.size_append]; omega)).mono ?_
    rintro e w1 ⟨rfl, hb1⟩
    go_wp2
    go_ret
    exact ⟨ret_str HR.out.symm, hb1⟩
  · have hp' : pathB f = false := by simpa using hp
    have HR : Hid (resolveS f sp = { data := #[] }) := by show resolveS f sp = _; rw [resolveS, if_pos hp']
    clear hp
    go_enter Try.func64, Try.ntmps64
    go_wp2_with fail
    refine (isPath_any _ _ hf).mono ?_
    rintro e w' ⟨rfl, rfl⟩
    go_wp2
    go_ret
    exact ⟨ret_str HR.out.symm, Below.refl _ _⟩
end Go.Proofs.Ytemfbibeoibpeaa
