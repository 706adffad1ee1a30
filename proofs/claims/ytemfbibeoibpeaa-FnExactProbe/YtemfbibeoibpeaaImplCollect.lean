/-
  slices.AppendSeq and slices.Collect of an iterator of texts that has its contract: the walk.
-/
import Derived.Test.YtemfbibeoibpeaaSepLoop
import Derived.Test.YtemfbibeoibpeaaOutRow
import Derived.Shelf.Abstract
import Derived.Shelf.RegionOpen
import Derived.TacticsInMore
import Derived.LoopNIn
import Derived.LoopIn
import Derived.RangeFuncBound
namespace Go.Proofs.Ytemfbibeoibpeaa
open Go.RowKit Go.PlainAid Go.Shelf

attribute [local go_sem] Oper.semAt_some

theorem out_row {W : World} {base : Nat} {v : Value} {xs : List ByteArray} (h : W.ownsRow base 9 1 v xs.length (xs.map Value.string)) : ∃ a n cap, v = .slice a n cap ∧ OutS W base a n cap xs := by
  have h0 := h
  rcases h.2 with ⟨rfl, h1⟩ | ⟨g, cap, cur, rfl, _⟩
  · obtain rfl : xs = [] := List.eq_nil_of_length_eq_zero h1
    exact ⟨none, 0, 0, rfl, OutS.nil _ _ _ _⟩
  · exact ⟨_, _, _, rfl, OutS.own ⟨h0, rfl⟩⟩
set_option maxRecDepth 100000 in
set_option maxHeartbeats 2000000 in
theorem appendSeq_any (gf : Nat) (lb : Array Value) (xs : List ByteArray) (H : World → Prop) (B : Nat → Prop) (hseq : SeqC Try.prog gf lb xs H B) (eg : ∀ args w, (callFunc gf args).run Try.prog w = .ok (.enter gf args) w) (w : World)
    (hH : ∀ W, (∀ k, B k → W.heap[k]? = w.heap[k]?) → H W) (hB : ∀ k, B k → k < w.heap.size) (hlen : xs.length ≤ 100000) :
    Calls Try.prog 46 #[.slice none 0 0, .func (.func gf) #[] lb] w fun e w' => ∃ a n cap, e = .returned (.slice a n cap) ∧ OutS w' w.heap.size a n cap xs ∧ Below w.heap.size w w' := by
  obtain ⟨i0, hi, hz0, hz1, hz2⟩ := info_parts Try.infoStr
  refine (callsIn_wide (n := 3)).1 ?_
  refine callsIn_of_wp_marks Try.func46 rfl trivial ?_ rfl
  simp only [Try.ntmps46, List.size_toArray, List.length_cons, List.length_nil, Nat.reduceAdd, Nat.reduceSub, Array.replicate_succ, Array.replicate_zero, List.push_toArray, List.append_toArray, List.nil_append, List.cons_append]
  gi_wp2
  have b0 := Boxed.new w 25 (.slice none 0 0)
  refine wpIn_range_sep (gf := gf) (lb := lb) rfl eg hseq (fun W hW => hH W (fun k hk => (hW k hk).trans (Below.heap_alloc _ _ _ (hB k hk)))) (fun k hk => by have := hB k hk; simp; omega) rfl
    (fun pre C W => ∃ v, Boxed W w.heap.size 25 v ∧ W.ownsRow w.heap.size 9 1 v pre.length (pre.map Value.string) ∧ C = fun k => k = w.heap.size ∨ v.ownBlock = some k)
    (fun _ _ _ _ => False) ?loc (fun _ _ _ _ _ h _ => h) (fun k => k = w.heap.size ∨ (Value.slice none 0 0).ownBlock = some k) ?apart ?inside ⟨_, b0, World.ownsRow_nil _ _ _ _, rfl⟩
    (fun x => { tmps := #[.slice none 0 0, .func (.func gf) #[] lb, .pointer (some ⟨w.heap.size, 0, none⟩), undef, .slice none 0 0, .string x, .func (.func gf) #[] lb, .string x, undef, undef, undef, undef, undef], defers := [] }) ?assign ?body ?done ?stop
  case loc =>
    rintro pre C W W' ⟨v, h1, h2, rfl⟩ hs
    exact ⟨v, (hs _ (.inl rfl)).trans h1, ownsRow_loc h2 (fun g hg => hs g (.inr hg)), rfl⟩
  case apart =>
    rintro k hk (h | h)
    · have := hB k hk; omega
    · cases h
  case inside =>
    rintro k (h | h)
    · simp; omega
    · cases h
  case assign =>
    intro l m x W K hK
    gi_wp2
    exact hK
  case body =>
    rintro l m pre x rest C1 W hx hfr ⟨v, hv, hrow, rfl⟩
    have hc := hv.cell
    have hpl : pre.length + 1 ≤ 100000 := by rw [hx] at hlen; simp at hlen; omega
    have hsz : w.heap.size ≤ W.heap.size := by have := hfr.size; simp at this; omega
    clear hx
    gi_wp2_with (gi_at_builtin; refine wpListIn_append_at _ rfl _ _ 25 rfl w.heap.size 9 i0 (.string { data := #[] }) 1 16 Try.underlying25 hi hz0 hz1 hz2 rfl (by decide) _ _ _ rfl (hrow.alloc _) ⟨W.heap.size, 0, none⟩ 1 1 [.string x] rfl rfl (cell_one_new _ _ _) (by simp [Value.oneCell']) (by unfold maxLen; omega) (by omega) (by simp; omega) ?_; intro v' w1 hown' hgrow hat; obtain ⟨g', cap', rfl⟩ := ownsRow_succ hown'; obtain ⟨hv1, hv2, hr2, hf2⟩ := boxed_grown hv (by decide) hrow hsz (Nat.le_refl _) hown' hgrow hat; have hc1 := hv1.cell; have hf1 := hv1.frozen)
    exact ⟨_, hf2, _, hv2, by simpa using hr2, rfl⟩
  case done =>
    rintro D C1 W hD hfr hnD ⟨v, hv, hrow, rfl⟩ hK
    have hc := hv.cell
    gi_wp2
    refine ⟨by simp, .inl ⟨_, _, rfl, run_takeDeferred hK, ?_⟩⟩
    refine ⟨_, results_tmp rfl _ _ _, ?_⟩
    obtain ⟨a, n, cap, rfl, ho⟩ := out_row (ownsRow_putObj hrow (.deferred none) hK rfl)
    have hb : Below w.heap.size w W := ((Below.refl _ w).alloc (Nat.le_refl _) _).trans (hfr.old (by simp) (by
      rintro k (h | h)
      · omega
      · cases h))
    exact ⟨a, n, cap, rfl, ho, hb.trans (belowK_b (w := w) (Nat.le_refl _) W D _ _ (by simp at hD; omega) hK rfl rfl)⟩
  case stop =>
    rintro D c pre C1 W _ _ _ _ h _
    exact h.elim
set_option maxHeartbeats 1600000 in
theorem collect_any (gf : Nat) (lb : Array Value) (xs : List ByteArray) (H : World → Prop) (B : Nat → Prop) (hseq : SeqC Try.prog gf lb xs H B) (eg : ∀ args w, (callFunc gf args).run Try.prog w = .ok (.enter gf args) w) (w : World)
    (hH : ∀ W, (∀ k, B k → W.heap[k]? = w.heap[k]?) → H W) (hB : ∀ k, B k → k < w.heap.size) (hlen : xs.length ≤ 100000) :
    Calls Try.prog 32 #[.func (.func gf) #[] lb] w fun e w' => ∃ a n cap, e = .returned (.slice a n cap) ∧ OutS w' w.heap.size a n cap xs ∧ Below w.heap.size w w' := by
  go_enter Try.func32, Try.ntmps32
  go_wp2_with fail
  refine (appendSeq_any gf lb xs H B hseq eg _ hH hB hlen).mono ?_
  rintro e w1 ⟨a, n, cap, rfl, ho, hb⟩
  go_wp2
  go_ret
  exact ⟨a, n, cap, rfl, ho, hb⟩
end Go.Proofs.Ytemfbibeoibpeaa
