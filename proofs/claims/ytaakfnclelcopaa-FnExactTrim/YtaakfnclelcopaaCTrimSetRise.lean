/-
  The texts of a set, in their order, in a row of their own: the walks.
-/
import Derived.Test.YtaakfnclelcopaaCTrimSetMem
import Derived.Test.YtaakfnclelcopaaCTrimSetMath
import Derived.Test.YtaakfnclelcopaaCTrimIter
import Derived.Test.YtaakfnclelcopaaCTrimUseLawToSpecUses
import Derived.Test.YtaakfnclelcopaaCTrimSepLoop
import Derived.Laws.MakeOwn
import Derived.TacticsInMore
namespace Go.Proofs.Ytaakfnclelcopaa
open Go.RowKit Go.PlainAid

theorem SetW.keys {w : World} {b : Nat} {L : List ByteArray} (h : SetW w b L) : (strKeys (setD L)).Nodup ∧ ∀ s : ByteArray, s.data.toList ∈ strKeys (setD L) ↔ s ∈ L := by
  obtain ⟨es, he, hp, _⟩ := World.ownsMap.entries h Try.keyedS
  obtain ⟨es', he', hk⟩ := World.ownsMap.keysOf h
  obtain rfl : es = es' := by rw [he] at he'; simpa using he'
  have hs : ∀ p ∈ es, ∃ x, p.1 = .string x := fun p hm => by
    obtain ⟨v, hv⟩ := hk p hm
    obtain ⟨x, _, hx, _⟩ := Maps.keyOf_str Try.underlying9 hv
    exact ⟨x, hx⟩
  have hh := setD_has L
  rw [he] at hh ⊢
  constructor
  · show (es.map fun p => strOf p.1).Nodup
    refine List.pairwise_map.2 (hp.imp_of_mem fun {p q} hp' hq' hne e => hne ?_)
    obtain ⟨a, ha⟩ := hs p hp'
    obtain ⟨c, hc⟩ := hs q hq'
    rw [ha, hc] at e ⊢
    exact congrArg _ e
  · intro s
    rw [← inT_mem, ← hh s, Maps.has_eq, List.any_eq_true]
    show _ ∈ (es.map fun p => strOf p.1) ↔ _
    rw [List.mem_map]
    constructor
    · rintro ⟨p, hm, e⟩
      obtain ⟨x, hx⟩ := hs p hm
      rw [hx] at e
      exact ⟨p, hm, by rw [hx]; simpa [Lit.sameKey, strOf, strL] using e⟩
    · rintro ⟨p, hm, e⟩
      obtain ⟨x, hx⟩ := hs p hm
      rw [hx] at e
      exact ⟨p, hm, by rw [hx]; simpa [Lit.sameKey, strOf, strL] using e⟩
theorem outS_of {W : World} {base : Nat} {v : Value} {k : Nat} {xs : List ByteArray} (hk : k = xs.length) (h : W.ownsRow base 9 1 v k (xs.map Value.string)) : ∃ a n cap, v = .slice a n cap ∧ OutS W base a n cap xs := by
  have h0 := h
  subst hk
  rcases h.2 with ⟨rfl, h1⟩ | ⟨g, cap, cur, rfl, _⟩
  · obtain rfl : xs = [] := List.eq_nil_of_length_eq_zero h1
    exact ⟨none, 0, 0, rfl, rfl, fun h => absurd h (by decide)⟩
  · exact ⟨_, _, _, rfl, rfl, fun _ => ⟨g, rfl, h0, rfl⟩⟩
set_option maxRecDepth 100000 in
set_option maxHeartbeats 2000000 in
theorem rising_any (b : Nat) (L l : List ByteArray) (w : World) (h : SetW w b L) (hl : RisT l) (hm : ∀ s, s ∈ L ↔ s ∈ l) (hn : L.length ≤ 8000000) :
    Calls Try.prog 74 #[.map (some b)] w fun e w' => ∃ a n cap, e = .returned (.slice a n cap) ∧ OutS w' w.heap.size a n cap l ∧ Below w.heap.size w w' := by
  obtain ⟨hk1, hk2⟩ := h.keys
  have hsz := World.ownsMap.size_le h
  have cS := Try.slices_Sorted_keys_91_92 b _ _ _ w h (by unfold maxLen; omega) (by omega)
  have cK := Try.maps_Keys_92 (some b) w
  clear h
  have hfK : Fence.wide.fn 92 := trivial
  have hfS : Fence.wide.fn 91 := trivial
  refine (callsIn_wide (n := 6)).1 ?_
  refine callsIn_of_wp Try.func74 rfl trivial ?_ rfl
  simp only [Try.ntmps74, List.size_toArray, List.length_cons, List.length_nil, Nat.reduceAdd, Nat.reduceSub, Array.replicate_succ, Array.replicate_zero, List.push_toArray, List.append_toArray, List.nil_append, List.cons_append]
  gi_wp2_with (first
    | (gi_at_call 92; refine cK.mono ?_; rintro e w' ⟨rfl, rfl⟩)
    | (gi_at_call 91; refine cS.mono ?_; rintro e w' ⟨v, ss, rfl, hS, hrow, hnil, hb⟩))
  have hlen : ss.length = l.length := by
    have e := congrArg List.length (ris_sorted hS hk1 hl fun s => (hk2 s).trans (hm s))
    simpa using e
  rw [ris_sorted hS hk1 hl fun s => (hk2 s).trans (hm s)] at hrow
  obtain ⟨a, n, cap, rfl, ho⟩ := outS_of hlen hrow
  go_ret
  refine ⟨a, n, cap, rfl, ⟨ho.1, fun h0 => ?_⟩, ((Below.refl _ w).alloc (Nat.le_refl _) _).trans (hb.mono (by simp))⟩
  obtain ⟨g, hg, h1⟩ := ho.2 h0
  exact ⟨g, hg, ownS_low h1 (by rw [alloc_size]; omega)⟩
end Go.Proofs.Ytaakfnclelcopaa
