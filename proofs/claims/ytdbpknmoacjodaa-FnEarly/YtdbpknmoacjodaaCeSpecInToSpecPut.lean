/-
  What spec.l6In answers of a row of texts of the call's own: the walk.
  What spec.l8Put answers: the walk.
-/
import Derived.Test.YtdbpknmoacjodaaCeRowStrToLessMath
import Derived.Test.YtdbpknmoacjodaaCeSpecClean
namespace Go.Proofs.Ytdbpknmoacjodaa
open Go.RowKit Go.PlainAid

set_option maxRecDepth 100000 in
theorem l6In_own (g n cap base : Nat) (xs : List ByteArray) (s : ByteArray) (w : World) (ho : OwnS w base 9 g n cap xs) (hn : n ≤ 10000000) :
    Calls Try.prog 106 #[.slice (some ⟨g, 0, none⟩) n cap, .string s] w fun e w' => e = .returned (.bool (inT xs s)) ∧ w' = w := by
  have hl := ownS_len ho
  have hg := (ownS_blk ho).2
  go_enter Try.func106, Try.ntmps106
  go_wp2
  go_loop [5] (fun i => ∃ k : Nat, k ≤ n ∧ i = .int .i64 k ∧ ∀ (j : Nat) (x : ByteArray), j < k → xs[j]? = some x → (x.toList == s.toList) = false) (fun i => (n - intOf i).toNat)
  case atStart => exact ⟨0, by omega, rfl, fun j x hj => by omega⟩
  case round =>
    obtain ⟨k, hk, rfl, hno⟩ := hrel
    have HNO := hidU hno
    clear hno
    by_cases hlt : k < n
    · obtain ⟨x, hx⟩ : ∃ x, xs[k]? = some x := ⟨_, List.getElem?_eq_getElem (by omega)⟩
      have c0 := ownS_cell ho k hlt
      rw [List.getD, hx] at c0
      simp only [Option.getD_some] at c0
      cases hq : x.toList == s.toList with
      | true =>
        have HV : Hid (inT xs s = true) := inT_yes hx hq
        clear hx
        go_wp2
        go_ret
        exact ⟨ret_bool HV.out.symm, rfl⟩
      | false =>
        have HX : Hid (∀ (j : Nat) (y : ByteArray), j < k + 1 → xs[j]? = some y → (y.toList == s.toList) = false) := fun j y hj hy => by
          by_cases e : j = k
          · subst e
            rw [hx] at hy
            cases hy
            exact hq
          · exact HNO.out j y (by omega) hy
        clear hx
        go_wp2
        go_round
        case rel => exact ⟨k + 1, by omega, by go_num, HX.out⟩
        case measure => simp [intOf]; omega
    · have HV : Hid (inT xs s = false) := inT_no fun j x hx => HNO.out j x (by have := (List.getElem?_eq_some_iff.1 hx).1; omega) hx
      go_wp2
      go_ret
      exact ⟨ret_bool HV.out.symm, rfl⟩
end Go.Proofs.Ytdbpknmoacjodaa
namespace Go.Proofs.Ytdbpknmoacjodaa
open Go.RowKit Go.PlainAid

end Go.Proofs.Ytdbpknmoacjodaa
