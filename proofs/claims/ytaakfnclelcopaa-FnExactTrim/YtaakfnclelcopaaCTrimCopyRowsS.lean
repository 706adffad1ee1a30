/-
  What impl.copyRows answers of a row of texts: the walk.
-/
import Derived.Test.YtaakfnclelcopaaCTrimSpecTrimToEncMod
import Derived.Laws.MakeOwn
namespace Go.Proofs.Ytaakfnclelcopaa
open Go.RowKit Go.PlainAid Go.Sort

theorem Try.infoCS : (Try.prog.info? 9).map (fun i => (i.zero, i.size, i.bytes)) = some (some (.string { data := #[] }), 1, 16) := by kernel_rfl
set_option maxRecDepth 100000 in
set_option maxHeartbeats 1600000 in
theorem copyRowsS_any (a : Option Addr) (cap : Nat) (xs : List ByteArray) (w : World) (hr : RowAt w a stE.f 1 xs) (hl : xs.length ≤ 8000000) (hs : ∀ x ∈ xs, x.size ≤ 281474976710656) :
    Calls Try.prog 73 #[.slice a xs.length cap, .func (.func 75) #[] #[]] w fun e w' => ∃ g' cap', e = .returned (.slice (some ⟨g', 0, none⟩) xs.length cap') ∧ OwnE stE w' w.heap.size 9 g' xs.length cap' xs ∧ Below w.heap.size w w' := by
  obtain ⟨i0, hi, hz0, hz1, hz2⟩ := info_parts Try.infoCS
  have HF := hidI hr
  have HS := hidI hs
  clear hr hs
  obtain ⟨n, hn⟩ : ∃ n, n = xs.length := ⟨_, rfl⟩
  rw [← hn] at hl ⊢
  have HN := hidI hn
  clear hn
  obtain ⟨w1, hmk, ho1, hg1⟩ := run_make_own w w.heap.size 22 9 i0 _ 1 Try.underlying22 hi hz0 hz1 .i64 .i64 n (by rw [hz2]; omega) (by unfold maxLen; omega) (Nat.le_refl _)
  have O1 : Hid (OwnE stE w1 w.heap.size 9 w.heap.size 0 n []) := ⟨ho1, rfl⟩
  have B1 : Hid (Below w.heap.size w w1) := ⟨hg1.os, hg1.tape, hg1.output, hg1.size, fun k hk => hg1.block k hk (by simp)⟩
  clear ho1 hg1
  go_enter Try.func73, Try.ntmps73
  go_wp2
  go_loopw [13, 5, 7] (fun i o _ wr => ∃ (k g' cap' : Nat), k ≤ n ∧ i = .int .i64 k ∧ o = .slice (some ⟨g', 0, none⟩) k cap' ∧ Hid (OwnE stE wr w.heap.size 9 g' k cap' (xs.take k)) ∧ Hid (Below w.heap.size w wr)) (fun i _ _ _ => (n - intOf i).toNat)
  case atStart => exact ⟨0, w.heap.size, n, Nat.zero_le _, rfl, rfl, O1, B1⟩
  case round =>
    obtain ⟨k, g', cap', hk, rfl, rfl, HO, HB⟩ := hrel
    by_cases hlt : k < n
    · obtain ⟨x, hx⟩ : ∃ x, xs[k]? = some x := ⟨_, List.getElem?_eq_getElem (by rw [← HN.out]; exact hlt)⟩
      obtain ⟨b, off, rfl, hc⟩ := (HF.out.later HB.out).get hx
      have c0 := hc 0 _ rfl
      simp only [Nat.add_zero, Nat.mul_one] at c0
      have HX := hidI (take_snoc hx)
      have hxs := HS.out x (List.mem_of_getElem? hx)
      clear hc hx O1 B1 hmk
      go_wp2_with (first
        | (go_at_call 75; refine (cloneP_any _ _ hxs).mono ?_; rintro e w3 ⟨rfl, hb3⟩; have O3 := hidI (HO.out.later hb3); have B3 := hidI (HB.out.trans (hb3.mono HB.out.size)); clear hb3)
        | (at_builtin; refine app_G stE _ rfl _ _ 22 rfl w.heap.size 9 i0 _ 16 Try.underlying22 hi hz0 hz1 hz2 rfl (by decide) g' k cap' _ (by rfl) (O3.out.later ((Below.refl _ _).alloc (Nat.le_refl _) _)) w3.heap.size x (by rfl) (by exact heap_alloc_new _ _) (by omega) ?_; intro g4 cap4 w4 ho4 hg4 hat4))
      go_roundw
      case rel => exact ⟨k + 1, g4, cap4, hlt, by go_num, rfl, by rw [HX.out]; exact hidI ho4, hidI ((B3.out.alloc B3.out.size _).grown hg4 (B3.out.alloc B3.out.size _).size (fun j hj => by cases hj; exact O3.out.blk.1))⟩
      case measure => simp [intOf]; omega
    · obtain rfl : k = n := by omega
      have O2 := HO.out
      rw [HN.out, List.take_length, ← HN.out] at O2
      have O3 := hidI O2
      clear O2 HO
      go_wp2
      go_ret
      exact ⟨g', cap', rfl, O3.out, HB.out⟩
end Go.Proofs.Ytaakfnclelcopaa
