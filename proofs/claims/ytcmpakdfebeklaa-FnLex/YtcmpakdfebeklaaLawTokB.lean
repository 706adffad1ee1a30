/-
  What laws.markTokenS and laws.heldTokenS answer: the walks.
-/
import Derived.Test.YtcmpakdfebeklaaLawTok
namespace Go.Proofs.Ytcmpakdfebeklaa
open Go.RowKit Go.PlainAid Go.Sort

theorem place_ne (g i j : Nat) (h : i ≠ j) : (⟨g, i, none⟩ : Addr) ≠ ⟨g, j, none⟩ := by
  intro e
  simp only [Addr.mk.injEq, and_true, true_and] at e
  exact h e
theorem OwnM.three {w W : World} {base g n cap k : Nat} {e : TypeId} (h : OwnM w base e g n cap k) (hk : k < n) (hb : Below (w.setCell ⟨g, k * 4, none⟩ (.int .i64 (1 + 4 * (k : Int)))).heap.size (w.setCell ⟨g, k * 4, none⟩ (.int .i64 (1 + 4 * (k : Int)))) W) (z2 z3 : Int) (e2 : z2 = 3 + 4 * (k : Int)) (e3 : z3 = 4 + 4 * (k : Int)) :
    OwnM (((W.setCell ⟨g, k * 4 + 1, none⟩ (.string (mtS (2 + 4 * k)))).setCell ⟨g, k * 4 + 2, none⟩ (.int .i64 z2)).setCell ⟨g, k * 4 + 3, none⟩ (.int .i64 z3)) base e g n cap (k + 1) := by
  subst e2 e3
  obtain ⟨v0, hv0⟩ := h.has (k * 4) (by omega)
  have h1 := h.put (k * 4) (Nat.le_refl _) (.int .i64 (1 + 4 * (k : Int)))
  have c0 := World.cell?_setCell_same w ⟨g, k * 4, none⟩ (.int .i64 (1 + 4 * (k : Int))) hv0
  have h2 := h1.later hb
  have c0' := (hb.cell h1.lt.1).trans c0
  have h3 := h2.put (k * 4 + 1) (by omega) (.string (mtS (2 + 4 * k)))
  have h4 := h3.put (k * 4 + 2) (by omega) (.int .i64 (3 + 4 * (k : Int)))
  have h5 := h4.put (k * 4 + 3) (by omega) (.int .i64 (4 + 4 * (k : Int)))
  obtain ⟨v1, hv1⟩ := h2.has (k * 4 + 1) (by omega)
  obtain ⟨v2, hv2⟩ := h3.has (k * 4 + 2) (by omega)
  obtain ⟨v3, hv3⟩ := h4.has (k * 4 + 3) (by omega)
  refine h5.next hk ?_ ?_ ?_ ?_
  · rw [World.cell?_setCell_other _ _ _ _ (place_ne g _ _ (by omega)), World.cell?_setCell_other _ _ _ _ (place_ne g _ _ (by omega)), World.cell?_setCell_other _ _ _ _ (place_ne g _ _ (by omega))]
    exact c0'
  · rw [World.cell?_setCell_other _ _ _ _ (place_ne g _ _ (by omega)), World.cell?_setCell_other _ _ _ _ (place_ne g _ _ (by omega))]
    exact World.cell?_setCell_same _ _ _ hv1
  · rw [World.cell?_setCell_other _ _ _ _ (place_ne g _ _ (by omega))]
    exact World.cell?_setCell_same _ _ _ hv2
  · exact World.cell?_setCell_same _ _ _ hv3

theorem markText_at2 (k : Nat) (w : World) (h : k ≤ 4000) : Calls Try.prog 32 #[.int .i64 (1 + 4 * (k : Int) + 1)] w fun e w' => e = .returned (.string (mtS (2 + 4 * k))) ∧ Below w.heap.size w w' := by
  rw [show 1 + 4 * (k : Int) + 1 = 2 + 4 * (k : Int) from by omega]
  exact markText_at k w h
set_option maxHeartbeats 3200000 in
theorem markTokenS_any (B g n cap : Nat) (w : World) (hown : OwnM w B 33 g n cap 0) (hn : n ≤ 4000) :
    Calls Try.prog 9 #[.slice (some ⟨g, 0, none⟩) n cap, .int .i64 1] w fun e w' => e = .returned (.int .i64 (1 + 4 * (n : Int))) ∧ OwnM w' B 33 g n cap n ∧ Below B w w' := by
  go_enter Try.func9, Try.ntmps9
  go_wp2
  go_loopw [1, 5] (fun q i wr => ∃ k : Nat, k ≤ n ∧ i = .int .i64 k ∧ q = .int .i64 (1 + 4 * (k : Int)) ∧ OwnM wr B 33 g n cap k ∧ Below B w wr) (fun _ i _ => (n - intOf i).toNat)
  case atStart => exact ⟨0, by omega, rfl, rfl, hown, Below.refl _ _⟩
  case round =>
    obtain ⟨k, hk, rfl, rfl, ho, hb⟩ := hrel
    by_cases hlt : k < n
    · have hge := ho.lt.2
      obtain ⟨v0, hv0⟩ := ho.has (k * 4) (by omega)
      have hf0 := ho.free (k * 4)
      have HO : Hid (OwnM wr B 33 g n cap k) := ho
      have hP := ho.put (k * 4) (Nat.le_refl _) (.int .i64 (1 + 4 * (k : Int)))
      go_wp2_with fail
      refine (markText_at2 k _ (by omega)).mono ?_
      rintro e w2 ⟨rfl, hb2⟩
      have HT := fun z2 z3 e2 e3 => HO.out.three hlt hb2 z2 z3 e2 e3
      have hown2 := hP.later hb2
      have hbB : Below B w w2 := (hb.setCell hge _).trans (hb2.mono (by have := ho.lt; simp [World.setCell]; omega))
      obtain ⟨v1, hv1⟩ := hown2.has (k * 4 + 1) (by omega)
      obtain ⟨v2, hv2⟩ := hown2.has (k * 4 + 2) (by omega)
      obtain ⟨v3, hv3⟩ := hown2.has (k * 4 + 3) (by omega)
      have hf1 := hown2.free (k * 4 + 1)
      have hf2 := hown2.free (k * 4 + 2)
      have hf3 := hown2.free (k * 4 + 3)
      clear hown2 hP hv0 hf0
      go_wp2
      go_roundw
      case rel => exact ⟨k + 1, by omega, by go_num, by go_num, HT _ _ (by omega) (by omega), ((hbB.setCell hge _).setCell hge _).setCell hge _⟩
      case measure => simp [intOf]; omega
    · obtain rfl : k = n := by omega
      go_wp2
      go_ret
      exact ⟨rfl, ho, hb⟩
theorem markTokenS_nil (w : World) :
    Calls Try.prog 9 #[.slice none 0 0, .int .i64 1] w fun e w' => e = .returned (.int .i64 1) ∧ Below w.heap.size w w' := by
  go_enter Try.func9, Try.ntmps9
  go_wp2
  go_loopw [1, 5] (fun q i wr => i = .int .i64 0 ∧ q = .int .i64 1 ∧ wr = w) (fun _ _ _ => 0)
  case atStart => exact ⟨rfl, rfl, rfl⟩
  case round =>
    obtain ⟨rfl, rfl, rfl⟩ := hrel
    go_wp2
    go_ret
    exact ⟨rfl, Below.refl _ _⟩

theorem OwnM.cells {w : World} {base g n cap k : Nat} {e : TypeId} (h : OwnM w base e g n cap k) (hk : k ≤ n) (j : Nat) (hj : j < k) :
    w.cell? ⟨g, j * 4, none⟩ = some (.int .i64 (1 + 4 * (j : Int))) ∧ w.cell? ⟨g, j * 4 + 1, none⟩ = some (.string (mtS (2 + 4 * j))) ∧ w.cell? ⟨g, j * 4 + 2, none⟩ = some (.int .i64 (3 + 4 * (j : Int))) ∧ w.cell? ⟨g, j * 4 + 3, none⟩ = some (.int .i64 (4 + 4 * (j : Int))) := by
  obtain ⟨xs, h1, h2⟩ := h
  have h3 := h2 j hj
  rw [h1.cellAt _ (by omega), h1.cellAt _ (by omega), h1.cellAt _ (by omega), h1.cellAt _ (by omega)]
  exact h3

set_option maxHeartbeats 3200000 in
theorem heldTokenS_any (B g n cap : Nat) (w : World) (hown : OwnM w B 33 g n cap n) (hn : n ≤ 4000) :
    Calls Try.prog 10 #[.slice (some ⟨g, 0, none⟩) n cap, .int .i64 1] w fun e w' => e = .returned (.int .i64 (1 + 4 * (n : Int))) ∧ Below w.heap.size w w' := by
  go_enter Try.func10, Try.ntmps10
  go_wp2
  go_loopw [1, 5] (fun q i wr => ∃ k : Nat, k ≤ n ∧ i = .int .i64 k ∧ q = .int .i64 (1 + 4 * (k : Int)) ∧ Below w.heap.size w wr) (fun _ i _ => (n - intOf i).toNat)
  case atStart => exact ⟨0, by omega, rfl, rfl, Below.refl _ _⟩
  case round =>
    obtain ⟨k, hk, rfl, rfl, hb⟩ := hrel
    by_cases hlt : k < n
    · have ho := hown.later hb
      have hglt := ho.lt.1
      obtain ⟨c0, c1, c2, c3⟩ := ho.cells (Nat.le_refl _) k hlt
      clear ho
      have cQ : ∀ d os, Calls Try.prog 32 #[.int .i64 (1 + 4 * (k : Int) + 1)] (grow (redrawn wr d) os) fun e w'' => e = .returned (.string (mtS (2 + 4 * k))) ∧ ∃ p : Regrown, w'' = grow (redrawn wr p.d) p.os :=
        fun d os => Calls.regrown_of (markText_at2 k _ (by omega))
      go_wp2_with fail
      have k1 := cell_regrown c1
      refine wp_region_quiet_below (by kernel_rfl) (by kernel_rfl) ?_
      repeat (go_big_quiet_step (exact cQ _ _))
      refine wpQuiet_nil ?_
      intro w2 hw'
      obtain ⟨⟨dq, osq⟩, hw''⟩ := hw'
      subst hw''
      have hb2 := below_regrown wr dq osq
      have hb3 := hb.trans (hb2.mono hb.size)
      have d2 := (hb2.cell hglt).trans c2
      have d3 := (hb2.cell hglt).trans c3
      rw [show 3 + 4 * (k : Int) = 1 + 4 * (k : Int) + 1 + 1 from by omega] at d2
      rw [show 4 + 4 * (k : Int) = 1 + 4 * (k : Int) + 1 + 1 + 1 from by omega] at d3
      clear c0 c1 c2 c3
      go_wp2
      go_roundw
      case rel => exact ⟨k + 1, by omega, by go_num, by go_num, hb3⟩
      case measure => simp [intOf]; omega
    · obtain rfl : k = n := by omega
      go_wp2
      go_ret
      exact ⟨rfl, hb⟩
theorem heldTokenS_nil (w : World) :
    Calls Try.prog 10 #[.slice none 0 0, .int .i64 1] w fun e w' => e = .returned (.int .i64 1) ∧ Below w.heap.size w w' := by
  go_enter Try.func10, Try.ntmps10
  go_wp2
  go_loopw [1, 5] (fun q i wr => i = .int .i64 0 ∧ q = .int .i64 1 ∧ wr = w) (fun _ _ _ => 0)
  case atStart => exact ⟨rfl, rfl, rfl⟩
  case round =>
    obtain ⟨rfl, rfl, rfl⟩ := hrel
    go_wp2
    go_ret
    exact ⟨rfl, Below.refl _ _⟩
end Go.Proofs.Ytcmpakdfebeklaa
