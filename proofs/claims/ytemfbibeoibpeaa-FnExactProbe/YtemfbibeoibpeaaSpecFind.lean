/-
  What spec.Find answers: the walk.
-/
import Derived.Test.YtemfbibeoibpeaaSpecFiles
namespace Go.Proofs.Ytemfbibeoibpeaa
open Go.RowKit Go.PlainAid

set_option maxRecDepth 100000 in
set_option maxHeartbeats 1600000 in
theorem find_specC (g len cap : Nat) (Pt Tx : Nat → ByteArray) (q : ByteArray) (w : World) (hf : FilesAt w (some ⟨g, 0, none⟩) g 0 len Pt Tx) (hl : len ≤ 1048576) (hp : ∀ j, j < len → (Pt j).size ≤ 1048576) (ht : ∀ j, j < len → (Tx j).size ≤ 1048576) :
    Calls Try.prog 19 #[.slice (some ⟨g, 0, none⟩) len cap, .string q] w fun e w' => e = .returned (.tuple #[.string (findS len Pt Tx q).1, .bool (findS len Pt Tx q).2]) ∧ Below w.heap.size w w' := by
  cases hfb : filesB len Pt Tx with
  | false =>
    have HV : Hid (findS len Pt Tx q = ({ data := #[] }, false)) := findS_bad hfb
    go_enter Try.func19, Try.ntmps19
    go_wp2_with fail
    refine (filesOk_specC g len cap Pt Tx _ hf hl hp ht).mono ?_
    rintro e w1 ⟨rfl, hb1⟩
    go_wp2
    go_ret2
    exact ⟨ret_str_bool (by rw [HV.out]) (by rw [HV.out]), hb1⟩
  | true =>
    go_enter Try.func19, Try.ntmps19
    go_wp2_with fail
    refine (filesOk_specC g len cap Pt Tx _ hf hl hp ht).mono ?_
    rintro e w1 ⟨rfl, hb1⟩
    have hf' := hf.later hb1
    go_wp2
    go_loop [6] (fun i => ∃ k : Nat, k ≤ len ∧ i = .int .i64 k ∧ (∀ j, j < k → Pt j ≠ q)) (fun i => (len - intOf i).toNat)
    case atStart => exact ⟨0, by omega, rfl, fun j hj => absurd hj (Nat.not_lt_zero j)⟩
    case round =>
      obtain ⟨k, hk, rfl, hno⟩ := hrel
      have HNO : Hid (∀ j, j < k → Pt j ≠ q) := hno
      clear hno
      by_cases hlt : k < len
      · have c0 := hf'.path k hlt
        have c1 := hf'.text k hlt
        rw [Nat.zero_add] at c0 c1
        by_cases hpq : Pt k = q
        · have hq : ((Pt k).toList == q.toList) = true := (toList_eq_iff _ _).2 hpq
          have HV : Hid (findS len Pt Tx q = (Tx k, true)) := findS_at hfb hlt hpq HNO.out
          clear hpq
          go_wp2
          go_ret2
          exact ⟨ret_str_bool (by rw [HV.out]) (by rw [HV.out]), hb1⟩
        · have hq : ((Pt k).toList == q.toList) = false := toList_ne hpq
          have HX : Hid (∀ j, j < k + 1 → Pt j ≠ q) := fun j hj => by
            by_cases e : j = k
            · rw [e]; exact hpq
            · exact HNO.out j (by omega)
          clear hpq
          go_wp2
          go_round
          case rel => exact ⟨k + 1, by omega, by go_num, HX.out⟩
          case measure => simp [intOf]; omega
      · have HV : Hid (findS len Pt Tx q = ({ data := #[] }, false)) := findS_none (fun j hj => HNO.out j (by omega))
        go_wp2
        go_ret2
        exact ⟨ret_str_bool (by rw [HV.out]) (by rw [HV.out]), hb1⟩
theorem find_spec (g len : Nat) (Pt Tx : Nat → ByteArray) (q : ByteArray) (w : World) (hf : FilesAt w (some ⟨g, 0, none⟩) g 0 len Pt Tx) (hl : len ≤ 1048576) (hp : ∀ j, j < len → (Pt j).size ≤ 1048576) (ht : ∀ j, j < len → (Tx j).size ≤ 1048576) :
    Calls Try.prog 19 #[.slice (some ⟨g, 0, none⟩) len len, .string q] w fun e w' => e = .returned (.tuple #[.string (findS len Pt Tx q).1, .bool (findS len Pt Tx q).2]) ∧ Below w.heap.size w w' := find_specC g len len Pt Tx q w hf hl hp ht
end Go.Proofs.Ytemfbibeoibpeaa
