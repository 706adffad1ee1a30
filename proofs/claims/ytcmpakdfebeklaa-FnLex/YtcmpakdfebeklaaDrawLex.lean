/-
  What spec.DrawLex tells: some text, not a long one, and some flag: the walk.
-/
import Derived.Test.YtcmpakdfebeklaaDrawPick
namespace Go.Proofs.Ytcmpakdfebeklaa
open Go.RowKit Go.PlainAid

set_option maxRecDepth 100000 in
set_option maxHeartbeats 1600000 in
theorem drawLex_some (S : Src) (hS : S.ok) (w : World) (hc : CodeW S w) (hl : S.lim ≤ w.heap.size) :
    Calls Try.prog 12 #[.slice S.a S.len S.cap] w fun e w' => ∃ f b, e = .returned (.tuple #[.string f, .bool b]) ∧ f.size ≤ 3000 ∧ Below w.heap.size w w' := by
  go_enter Try.func12, Try.ntmps12
  go_wp2_with fail
  refine (l1New_any S hS _ hc hl).mono ?_
  rintro e w1 ⟨rfl, hc1, hb1⟩
  go_wp2_with fail
  refine (l1Below_any S hS _ _ 14 _ hc1 (by omega)).mono ?_
  rintro e w2 ⟨rfl, hc2, hg2⟩
  have hbd := bw_bd S (start S) 14 (by omega)
  have b2 := below_grown hb1 hg2 (Nat.le_refl _) hb1.size
  clear hg2
  obtain ⟨k0, hk0⟩ : ∃ k0 : Nat, (bw S (start S) 14).1 = k0 := ⟨(bw S (start S) 14).1.toNat, by omega⟩
  obtain ⟨q0, hq0⟩ : ∃ q0, (bw S (start S) 14).2 = q0 := ⟨_, rfl⟩
  rw [hk0] at hbd ⊢
  rw [hq0] at hc2
  have hk13 : k0 ≤ 13 := by omega
  clear hbd hk0 hq0 hc1
  go_wp2
  go_loopw [5, 6] (fun sv nv wr => ∃ (k : Nat) (x : ByteArray) (q : Nat × Int), nv = .int .i64 k ∧ sv = .string x ∧ k ≤ 13 ∧ x.size + 200 * k ≤ 2600 ∧ CurW 99 S wr w.heap.size q ∧ Below w.heap.size w wr) (fun _ nv _ => (intOf nv).toNat)
  case atStart => exact ⟨k0, _, q0, rfl, rfl, hk13, by have : ({ data := #[] } : ByteArray).size = 0 := rfl; omega, hc2, b2⟩
  case round =>
    obtain ⟨k, x, q, rfl, rfl, hk, hx, hcr, hbr⟩ := hrel
    by_cases hpos : 0 < k
    · have hcl := curW_lt hcr
      go_wp2_with fail
      refine (l1Pick_some S hS w.heap.size q wr.heap.size 34 _ (curW_below hcr ((Below.refl wr.heap.size wr).alloc (Nat.le_refl _) _) hcl) (by omega) (by omega) (by simp) (by omega) ?_).mono ?_
      · intro j hj
        rw [World.cell?_alloc_new]
        match j, hj with
        | 0, _ | 1, _ | 2, _ | 3, _ | 4, _ | 5, _ | 6, _ | 7, _ | 8, _ | 9, _ | 10, _ | 11, _ | 12, _ | 13, _ | 14, _ | 15, _ | 16, _ | 17, _ | 18, _ | 19, _ | 20, _ | 21, _ | 22, _ | 23, _ | 24, _ | 25, _ | 26, _ | 27, _ | 28, _ | 29, _ | 30, _ | 31, _ | 32, _ | 33, _ => exact ⟨_, rfl, by decide⟩
        | j + 34, hj => omega
      rintro e w3 ⟨y, q3, rfl, hys, hc3, hg3⟩
      have b3 := below_grown (hbr.alloc hbr.size _) hg3 (Nat.le_refl _) (by simp; have := hbr.size; omega)
      have hcl3 := curW_lt hc3
      clear hg3
      go_wp2_with fail
      refine (l1Pick_some S hS w.heap.size q3 w3.heap.size 3 _ (curW_below hc3 ((Below.refl w3.heap.size w3).alloc (Nat.le_refl _) _) hcl3) (by omega) (by omega) (by simp) (by omega) ?_).mono ?_
      · intro j hj
        rw [World.cell?_alloc_new]
        match j, hj with
        | 0, _ | 1, _ | 2, _ => exact ⟨_, rfl, by decide⟩
        | j + 3, hj => omega
      rintro e w4 ⟨z, q4, rfl, hzs, hc4, hg4⟩
      have b4 := below_grown (b3.alloc b3.size _) hg4 (Nat.le_refl _) (by simp; have := b3.size; omega)
      have hsz1 : (x ++ y).size = x.size + y.size := ByteArray.size_append
      have hsz2 : (x ++ y ++ z).size = x.size + y.size + z.size := by rw [ByteArray.size_append, hsz1]
      clear hg4
      go_wp2
      go_roundw
      case rel => exact ⟨k - 1, x ++ y ++ z, q4, by go_num, rfl, by omega, by omega, hc4, b4⟩
      case measure => simp [intOf]; omega
    · go_wp2_with fail
      refine (l1Once_any S hS w.heap.size q 2 _ hcr (by omega)).mono ?_
      rintro e w3 ⟨rfl, hc3, hg3⟩
      have b3 := below_grown hbr hg3 (Nat.le_refl _) hbr.size
      go_wp2
      go_ret2
      exact ⟨x, _, rfl, by omega, b3⟩
end Go.Proofs.Ytcmpakdfebeklaa
