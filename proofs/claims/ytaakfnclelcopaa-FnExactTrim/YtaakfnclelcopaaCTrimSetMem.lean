/-
  impl's set of texts in memory: made, put into, asked.
-/
import Derived.Test.YtaakfnclelcopaaCTrimUseMemToOutRow
import Derived.Maps.OwnSet
import Derived.StringKeys
import Derived.Carry
namespace Go.Proofs.Ytaakfnclelcopaa
open Go.RowKit Go.PlainAid
open Go.Maps (Keyed)

def strL (s : ByteArray) : Lit := .string s.data.toList
def setD (L : List ByteArray) : DataW Unit := Maps.setOf (.agg []) (L.map strL)
theorem setD_put (L : List ByteArray) (s : ByteArray) : (setD L).put (strL s) (.agg []) = setD (L ++ [s]) := by
  unfold setD
  rw [List.map_append, List.map_cons, List.map_nil, Maps.setOf_snoc]
theorem strL_key (L : List ByteArray) : ∀ x ∈ L.map strL, WideAt.IsKeyLit x := by
  intro x hx
  obtain ⟨s, _, rfl⟩ := List.mem_map.1 hx
  trivial
theorem setD_has (L : List ByteArray) (s : ByteArray) : Maps.has (setD L) (strL s) = inT L s := by
  unfold setD
  rw [Maps.has_setOf _ _ _ (strL_key L), inT, List.any_map]
  refine congrArg (List.any L) (funext fun y => ?_)
  simp [strL, Lit.sameKey, ByteArray.toList_eq]
theorem Try.keyedS : Keyed Try.prog 9 := Maps.string_keyed Try.underlying9
theorem Try.zeroU (w : World) : (zeroValue 113).run Try.prog w = .ok (.agg #[]) w := by kernel_rfl
def SetW (w : World) (b : Nat) (L : List ByteArray) : Prop := w.ownsMap Try.prog 9 unitElem b L.length (setD L)
theorem SetW.lt {w : World} {b : Nat} {L : List ByteArray} (h : SetW w b L) : b < w.heap.size := World.ownsMap.lt h
theorem SetW.kept {w w' : World} {b : Nat} {L : List ByteArray} (h : SetW w b L) (hb : w'.heap[b]? = w.heap[b]?) : SetW w' b L := by
  obtain ⟨es, clock, h1, h2⟩ := h
  exact ⟨es, clock, hb.trans h1, h2⟩
theorem SetW.none (w : World) : SetW (w.alloc (.map #[] 0)) w.heap.size [] := World.ownsMap_made w _ _ _
theorem key_str {s : ByteArray} (hs : s.size ≤ maxLen) : keyOf Try.prog 9 (.string s) = some (strL s) := WideMaps.keyOf_string_mk Try.underlying9 hs
theorem SetW.look {w : World} {b : Nat} {L : List ByteArray} (h : SetW w b L) {s : ByteArray} (hs : s.size ≤ maxLen) : (Instr.lookup 62 (.map (some b)) (.string s) true).run Try.prog w = .ok (.tuple #[.agg #[], .bool (inT L s)]) w := by
  obtain ⟨v, ps, h1, h2⟩ := World.ownsMap.look_ok h Try.keyedS Try.underlying62 (Try.zeroU w) unitElem_mk (key_str hs)
  obtain ⟨rfl, _⟩ := unitElem_inv h2
  rw [setD_has] at h1
  exact h1
theorem SetW.store {w : World} {b : Nat} {L : List ByteArray} (h : SetW w b L) {s : ByteArray} (hs : s.size ≤ maxLen) (hn : L.length < maxLen) : ∃ w', (Instr.mapUpdate 62 (.map (some b)) (.string s) (.agg #[])).run Try.prog w = .ok () w' ∧ SetW w' b (L ++ [s]) ∧ w.grownBy w' (some b) := by
  obtain ⟨w', h1, h2, h3⟩ := World.ownsMap.update h Try.keyedS Try.underlying62 hn (key_str hs) unitElem_mk
  refine ⟨w', h1, ?_, h3⟩
  rw [setD_put] at h2
  unfold SetW
  rw [List.length_append]
  exact h2
set_option maxRecDepth 100000 in
set_option maxHeartbeats 1600000 in
theorem put_any (b : Nat) (L : List ByteArray) (s : ByteArray) (w : World) (h : SetW w b L) (hs : s.size ≤ maxLen) (hn : L.length < maxLen) :
    Calls Try.prog 71 #[.map (some b), .string s] w fun e w' => (∃ v, e = .returned v) ∧ SetW w' b (L ++ [s]) ∧ w.grownBy w' (some b) := by
  obtain ⟨w1, h1, h2, h3⟩ := h.store hs hn
  clear h
  go_enter Try.func71, Try.ntmps71
  go_wp2
  refine bodyPost_end (results_none rfl _ _ _) rfl ?_
  exact ⟨⟨_, rfl⟩, h2, h3⟩
set_option maxRecDepth 100000 in
set_option maxHeartbeats 1600000 in
theorem hasS_any (b : Nat) (L : List ByteArray) (s : ByteArray) (w : World) (h : SetW w b L) (hs : s.size ≤ maxLen) :
    Calls Try.prog 48 #[.map (some b), .string s] w fun e w' => e = .returned (.bool (inT L s)) ∧ Below w.heap.size w w' := by
  have hl := h.look hs
  generalize inT L s = c at hl ⊢
  clear h
  have HB : Hid (Below w.heap.size w (w.alloc (.cells #[] 113))) := (Below.refl _ _).alloc (Nat.le_refl _) _
  go_enter Try.func48, Try.ntmps48
  go_wp2
  go_ret
  exact ⟨rfl, HB.out⟩
set_option maxRecDepth 100000 in
set_option maxHeartbeats 1600000 in
theorem newNameSet_any (w : World) : Calls Try.prog 47 #[] w fun e w' => ∃ b, e = .returned (.agg #[.map (some b)]) ∧ SetW w' b [] ∧ Below w.heap.size w w' ∧ w.heap.size ≤ b := by
  have hmm := @run_makeMap Try.prog
  go_enter Try.func47, Try.ntmps47
  go_wp2
  refine bodyPost_ret (results_cell_row rfl _ _ w.heap.size 64 #[.map (some (w.heap.size + 1))] (0, 0) _ rfl ?_ Try.underlying64 rfl (by kernel_rfl)) rfl ?_
  · exact (heap_alloc_old _ _ (by rw [alloc_size]; omega)).trans (heap_alloc_new _ _)
  refine ⟨_, rfl, ?_, ?_, ?_⟩
  · have := SetW.none (w.alloc (.cells #[.map (some (w.heap.size + 1))] 64))
    rw [alloc_size] at this
    exact this
  · exact ((Below.refl _ _).alloc (Nat.le_refl _) _).alloc (by rw [alloc_size]; omega) _
  · omega
end Go.Proofs.Ytaakfnclelcopaa
