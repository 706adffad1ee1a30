/-
  What spec.Probe answers: the walk.
-/
import Derived.Test.YtemfbibeoibpeaaSpecCand
import Derived.Test.YtemfbibeoibpeaaSpecFind
namespace Go.Proofs.Ytemfbibeoibpeaa
open Go.RowKit Go.PlainAid

def probeL (len : Nat) (Pt Tx : Nat → ByteArray) : List ByteArray → ByteArray × Bool
  | [] => ({ data := #[] }, false)
  | c :: l => if (findS len Pt Tx c).2 then (c, true) else probeL len Pt Tx l
def probeS (len : Nat) (Pt Tx : Nat → ByteArray) (f sp : ByteArray) : ByteArray × Bool := probeL len Pt Tx (candS f sp)
theorem probeL_skip {len : Nat} {Pt Tx : Nat → ByteArray} (l : List ByteArray) : ∀ k, (∀ (j : Nat) (x : ByteArray), j < k → l[j]? = some x → (findS len Pt Tx x).2 = false) → probeL len Pt Tx l = probeL len Pt Tx (l.drop k) := by
  induction l with
  | nil => intro k _; simp
  | cons c l ih =>
    intro k h
    cases k with
    | zero => rfl
    | succ k =>
      rw [probeL, h 0 c (by omega) rfl, List.drop_succ_cons]
      exact ih k fun j x hj hx => h (j + 1) x (by omega) hx
theorem probeL_at {len : Nat} {Pt Tx : Nat → ByteArray} {l : List ByteArray} {k : Nat} {x : ByteArray} (h : ∀ (j : Nat) (x : ByteArray), j < k → l[j]? = some x → (findS len Pt Tx x).2 = false) (hx : l[k]? = some x) (hf : (findS len Pt Tx x).2 = true) : probeL len Pt Tx l = (x, true) := by
  obtain ⟨hk, rfl⟩ := List.getElem?_eq_some_iff.1 hx
  rw [probeL_skip l k h, List.drop_eq_getElem_cons hk, probeL, if_pos hf]
theorem probeL_none {len : Nat} {Pt Tx : Nat → ByteArray} {l : List ByteArray} (h : ∀ (j : Nat) (x : ByteArray), j < l.length → l[j]? = some x → (findS len Pt Tx x).2 = false) : probeL len Pt Tx l = ({ data := #[] }, false) := by
  rw [probeL_skip l l.length h, List.drop_eq_nil_of_le (Nat.le_refl _)]
  rfl
theorem candS_len (f sp : ByteArray) : (candS f sp).length ≤ 6003 := by
  unfold candS
  split
  · have := candF_len (baseC f sp)
    have := baseC_len f sp
    omega
  · exact Nat.zero_le _
set_option maxRecDepth 100000 in
set_option maxHeartbeats 3200000 in
theorem probe_spec (g len : Nat) (Pt Tx : Nat → ByteArray) (f sp : ByteArray) (w : World) (hf : FilesAt w (some ⟨g, 0, none⟩) g 0 len Pt Tx) (hl : len ≤ 1048576) (hp : ∀ j, j < len → (Pt j).size ≤ 1048576) (ht : ∀ j, j < len → (Tx j).size ≤ 1048576) (hf1 : f.size ≤ 1048576) (hs1 : sp.size ≤ 1048576) :
    Calls Try.prog 25 #[.slice (some ⟨g, 0, none⟩) len len, .string f, .string sp] w fun e w' => e = .returned (.tuple #[.string (probeS len Pt Tx f sp).1, .bool (probeS len Pt Tx f sp).2]) ∧ Below w.heap.size w w' := by
  go_enter Try.func25, Try.ntmps25
  go_wp2_with fail
  refine (cand_spec f sp w hf1 hs1).mono ?_
  rintro e w1 ⟨gc, nc, capc, rfl, ho, hb1⟩
  have O1 := hidU ho
  have B1 := hidU hb1
  have F1 := hidU (hf.later hb1)
  have HN := hidU (ownS_len ho)
  have hnc : nc ≤ 6003 := by rw [ownS_len ho]; exact candS_len f sp
  clear ho hb1 hf
  have HP : Hid (probeS len Pt Tx f sp = probeL len Pt Tx (candS f sp)) := rfl
  generalize candS f sp = cs at O1 HN HP
  go_wp2
  go_loopw [9, 10, 11] (fun i _ _ wr => ∃ k : Nat, k ≤ nc ∧ i = .int .i64 k ∧ (∀ (j : Nat) (x : ByteArray), j < k → cs[j]? = some x → (findS len Pt Tx x).2 = false) ∧ Below w1.heap.size w1 wr) (fun i _ _ _ => (nc - intOf i).toNat)
  case atStart => exact ⟨0, by omega, rfl, fun j x hj => by omega, Below.refl _ _⟩
  case round =>
    obtain ⟨k, hk, rfl, hno, hb⟩ := hrel
    have HNO := hidU hno
    have B2 := hidU hb
    clear hno
    by_cases hlt : k < nc
    · obtain ⟨x, hx⟩ : ∃ x, cs[k]? = some x := ⟨_, List.getElem?_eq_getElem (by rw [← HN.out]; exact hlt)⟩
      have hoo := ownS_later O1.out hb
      have c0 := ownS_cell hoo k hlt
      rw [List.getD, hx] at c0
      simp only [Option.getD_some] at c0
      have hgw := (ownS_blk hoo).2
      clear hoo
      cases hq : (findS len Pt Tx x).2 with
      | true =>
        have HV : Hid (probeS len Pt Tx f sp = (x, true)) := HP.out.trans (probeL_at HNO.out hx hq)
        clear hx
        go_wp2_with fail
        refine (find_spec g len Pt Tx x _ (F1.out.later hb) hl hp ht).mono ?_
        rintro e w2 ⟨rfl, hb2⟩
        have c2 := (hb2.cell hgw).trans c0
        have B3 := hidU (B1.out.trans ((B2.out.trans (hb2.mono B2.out.size)).mono B1.out.size))
        rw [hq]
        clear hb hb2 c0
        go_wp2
        go_ret2
        exact ⟨ret_str_bool (by rw [HV.out]) (by rw [HV.out]), B3.out⟩
      | false =>
        have HX : Hid (∀ (j : Nat) (y : ByteArray), j < k + 1 → cs[j]? = some y → (findS len Pt Tx y).2 = false) := fun j y hj hy => by
          by_cases e : j = k
          · subst e
            rw [hx] at hy
            cases hy
            exact hq
          · exact HNO.out j y (by omega) hy
        clear hx
        go_wp2_with fail
        refine (find_spec g len Pt Tx x _ (F1.out.later hb) hl hp ht).mono ?_
        rintro e w2 ⟨rfl, hb2⟩
        have B3 := hidU (B2.out.trans (hb2.mono B2.out.size))
        rw [hq]
        clear hb hb2 c0
        go_wp2
        go_roundw
        case rel => exact ⟨k + 1, hlt, by go_num, HX.out, B3.out⟩
        case measure => simp [intOf]; omega
    · have HV : Hid (probeS len Pt Tx f sp = ({ data := #[] }, false)) := HP.out.trans (probeL_none fun j x hj hx => HNO.out j x (by have := HN.out; omega) hx)
      go_wp2
      go_ret2
      exact ⟨ret_str_bool (by rw [HV.out]) (by rw [HV.out]), B1.out.trans (B2.out.mono B1.out.size)⟩
end Go.Proofs.Ytemfbibeoibpeaa
