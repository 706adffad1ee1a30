/-
  What impl.Clean, impl.folderFor and impl.Resolve answer: the walks.
-/
import Derived.Test.YtemfbibeoibpeaaImplParts
namespace Go.Proofs.Ytemfbibeoibpeaa
open Go.RowKit Go.PlainAid

theorem clean_impl (s : ByteArray) (w : World) (hs : s.size ≤ 9223372036854775807) :
    Calls Try.prog 48 #[.string s] w fun e w' => e = .returned (.string (cleanS s)) ∧ Below w.heap.size w w' := by
  by_cases hp : pathB s = true
  · have HP : Hid (pathB s = true) := hp
    have hl2 : s.size ≤ 40 := (pathB_iff.1 hp).2.1
    obtain ⟨J, hJ⟩ : ∃ J, Lib.join ((parts s).map (·.data.toList)) [47] = J := ⟨_, rfl⟩
    have HV : Hid (({ data := #[47] } : ByteArray) ++ ⟨J.toArray⟩ = cleanS s) := by have := join_clean hp; rw [hJ] at this; exact this
    have hjl : J.length ≤ 2000 := by rw [← hJ]; exact parts_join_len s hp
    have HJ : Hid (Lib.join ((parts s).map (·.data.toList)) [47] = J) := hJ
    have hpl : (parts s).length ≤ 41 := by have := parts_len s; omega
    have hjs : ({ data := J.toArray } : ByteArray).size ≤ 2000 := hjl
    clear hJ
    go_enter Try.func48, Try.ntmps48
    go_wp2_with fail
    refine (isPath_any _ _ hs).mono ?_
    rintro e w' ⟨rfl, rfl⟩
    go_wp2_with fail
    refine (keptParts_any _ _ HP.out).mono ?_
    rintro e w1 ⟨g, n, cap, rfl, hown, hb1⟩
    have HN : Hid (n = (parts s).length) := ownS_len hown
    go_wp2_with fail
    refine (Calls.mono (R := fun e w2 => e = .returned (.string { data := J.toArray }) ∧ Below w1.heap.size w1 w2) ?_ ?_)
    · have hj := Try.strings_Join g 0 cap (parts s) { data := #[47] } w1
        (fun j x hx => by
          have hjl : j < (parts s).length := by
            rcases Nat.lt_or_ge j (parts s).length with k | k
            · exact k
            · rw [List.getElem?_eq_none k] at hx; cases hx
          rw [Nat.zero_add, ownS_cell hown j (by rw [HN.out]; exact hjl)]
          simp [List.getD, hx])
        (by
          rcases hown.1.2 with ⟨h', _⟩ | ⟨g', cap', cur, h', _, hg, _⟩
          · simp at h'
          · simp only [Value.slice.injEq, Option.some.injEq, Addr.mk.injEq, and_true, true_and] at h'
            obtain ⟨rfl, rfl⟩ := h'
            exact (Array.getElem?_eq_some_iff.1 hg).1)
        (by omega) (by rw [← HN.out]; exact (ownS_cap hown).1)
        (by show (Lib.join ((parts s).map (·.data.toList)) [47]).length ≤ _; rw [HJ.out]; omega)
      rw [← HN.out] at hj
      refine hj.mono ?_
      rintro e w2 ⟨rfl, hb⟩
      exact ⟨ret_str (by show ByteArray.mk (Lib.join ((parts s).map (·.data.toList)) [47]).toArray = _; rw [HJ.out]), hb⟩
    · rintro e w2 ⟨rfl, hb2⟩
      go_wp2
      go_ret
      exact ⟨ret_str HV.out, hb1.trans (hb2.mono hb1.size)⟩
  · have hp' : pathB s = false := by simpa using hp
    have HV : Hid (cleanS s = { data := #[] }) := cleanS_no hp'
    clear hp
    go_enter Try.func48, Try.ntmps48
    go_wp2_with fail
    refine (isPath_any _ _ hs).mono ?_
    rintro e w' ⟨rfl, rfl⟩
    go_wp2
    go_ret
    exact ⟨ret_str HV.out.symm, Below.refl _ _⟩
end Go.Proofs.Ytemfbibeoibpeaa
