/-
  A map that counts, by a key of any comparable kind: what a look, an entry and a store do. No program is spoken of.
-/
import Derived.Maps.Own
import Derived.Maps.RangeRun
import Derived.WideKeyEntry
import Derived.Test.YtdbpknmoacjodaaCeDrawBaseToDrawProgA
namespace Go.Proofs.Ytdbpknmoacjodaa
open Go.ChangeShapes Go.WideShapes Go.MapKept Go.ChangeMaps
open Go.Maps (Keyed)
open Go.WideElems (findIdx_born findIdx_arr modify_last set_self)

def CntE {α : Type} [DecidableEq α] (mk : α → Value) (L : List α) (es : Array MapEntry) (clock : Nat) : Prop :=
  Stamped es clock ∧ ∃ ks : List α, es.toList.map (·.key) = ks.map mk ∧ es.toList.map (·.val) = ks.map (fun x => .int .i64 (L.count x : Nat)) ∧ ∀ x, x ∈ ks ↔ x ∈ L
section
variable {α : Type} [DecidableEq α] {P : Program} {t k e : TypeId} {mk : α → Value} {L : List α} {es : Array MapEntry} {clock b : Nat} {w : World} {x : α} {l : Lit}
theorem cntE_none (mk : α → Value) : CntE mk [] #[] 0 := ⟨stamped_empty 0, [], rfl, rfl, fun _ => Iff.rfl⟩
theorem cntE_get (h : CntE mk L es clock) {j : Nat} {y : MapEntry} (hj : es.toList[j]? = some y) : ∃ z, z ∈ L ∧ y.key = mk z ∧ y.val = .int .i64 (L.count z : Nat) := by
  obtain ⟨_, ks, h1, h2, h3⟩ := h
  have e1 := congrArg (·[j]?) h1
  have e2 := congrArg (·[j]?) h2
  simp only [List.getElem?_map, hj, Option.map_some] at e1 e2
  cases hk : ks[j]? with
  | none => rw [hk] at e1; cases e1
  | some z =>
    rw [hk] at e1 e2
    simp only [Option.map_some, Option.some.injEq] at e1 e2
    exact ⟨z, (h3 z).1 (List.mem_of_getElem? hk), e1, e2⟩
theorem cntE_has (h : CntE mk L es clock) (hx : x ∈ L) : ∃ y ∈ es.toList, y.key = mk x ∧ y.val = .int .i64 (L.count x : Nat) := by
  obtain ⟨_, ks, h1, h2, h3⟩ := h
  obtain ⟨j, hj, hjx⟩ := List.mem_iff_getElem.1 ((h3 x).2 hx)
  have e1 := congrArg (·[j]?) h1
  have e2 := congrArg (·[j]?) h2
  simp only [List.getElem?_map, List.getElem?_eq_getElem hj, hjx, Option.map_some] at e1 e2
  cases hy : es.toList[j]? with
  | none => rw [hy] at e1; cases e1
  | some y =>
    rw [hy] at e1 e2
    simp only [Option.map_some, Option.some.injEq] at e1 e2
    exact ⟨y, List.mem_of_getElem? hy, e1, e2⟩
theorem cntE_keys (h : CntE mk L es clock) (hL : ∀ z ∈ L, ∃ l, keyOf P k (mk z) = some l) : ∀ y ∈ es.toList, ∃ l, keyOf P k y.key = some l := by
  intro y hy
  obtain ⟨j, hj, rfl⟩ := List.mem_iff_getElem.1 hy
  obtain ⟨z, hz, e1, _⟩ := cntE_get h (List.getElem?_eq_getElem hj)
  rw [e1]
  exact hL z hz
theorem cnt_find (K : Keyed P k) (hi : ∀ a b, mk a = mk b → a = b) (h : CntE mk L es clock) (hL : ∀ z ∈ L, ∃ l, keyOf P k (mk z) = some l) (hx : keyOf P k (mk x) = some l) (w : World) :
    ((Instr.findKey k (mk x) es.toList).run P w = .ok none w ∧ x ∉ L ∧ ∀ y ∈ es.toList, y.key ≠ mk x) ∨ ∃ j y, (Instr.findKey k (mk x) es.toList).run P w = .ok (some (j, .int .i64 (L.count x : Nat))) w ∧ es.toList[j]? = some y ∧ y.key = mk x ∧ y.val = .int .i64 (L.count x : Nat) ∧ x ∈ L := by
  rcases K.find w hx es.toList (cntE_keys h hL) with ⟨h1, h2⟩ | ⟨j, y, h1, h2, h3⟩
  · refine .inl ⟨h1, fun hm => ?_, h2⟩
    obtain ⟨y, hy, e, _⟩ := cntE_has h hm
    exact h2 y hy e
  · obtain ⟨z, hz, e1, e2⟩ := cntE_get h h2
    rw [h3] at e1
    obtain rfl := hi _ _ e1
    rw [e2] at h1
    exact .inr ⟨j, y, h1, h2, h3, e2, hz⟩
theorem cnt_look (K : Keyed P k) (ht : P.underlying t = some (.map k e)) (hz : (zeroValue e).run P w = .ok (.int .i64 0) w) (hi : ∀ a b, mk a = mk b → a = b) (h : CntE mk L es clock) (hL : ∀ z ∈ L, ∃ l, keyOf P k (mk z) = some l) (hx : keyOf P k (mk x) = some l) (hb : w.heap[b]? = some (.map es clock)) :
    (Instr.lookup t (.map (some b)) (mk x) false).run P w = .ok (.int .i64 (L.count x : Nat)) w := by
  rcases cnt_find K hi h hL hx w with ⟨h1, h2, _⟩ | ⟨j, y, h1, _⟩
  · rw [List.count_eq_zero_of_not_mem h2]
    simp [Instr.lookup, run_underlying ht, MapKept.run_getObj_map hb, K.check w _ hx, h1, hz, Result.andThen]
  · simp [Instr.lookup, run_underlying ht, MapKept.run_getObj_map hb, K.check w _ hx, h1, Result.andThen]
theorem count_pos_gen (L : List α) (x : α) : 0 < L.count x ↔ x ∈ L := List.count_pos_iff
theorem count_le_gen (L : List α) (x : α) : L.count x ≤ L.length := List.count_le_length
theorem count_append_gen (l1 l2 : List α) (x : α) : (l1 ++ l2).count x = l1.count x + l2.count x := List.count_append
theorem count_more (L : List α) (x y : α) : (L ++ [x]).count y = L.count y + if x = y then 1 else 0 := by
  rw [List.count_append, List.count_singleton]
  by_cases h : x = y <;> simp [h]
theorem cnt_entry (K : Keyed P k) (ht : P.underlying t = some (.map k e)) (hz : ∀ u : World, (zeroValue e).run P u = .ok (.int .i64 0) u) (hi : ∀ a b, mk a = mk b → a = b) (h : CntE mk L es clock) (hL : ∀ z ∈ L, ∃ l, keyOf P k (mk z) = some l) (hx : keyOf P k (mk x) = some l) (hb : w.heap[b]? = some (.map es clock)) :
    ∃ (v0 : Value) (st : Nat) (es1 : Array MapEntry) (clock1 : Nat), (Instr.mapEntry t (.map (some b)) (mk x)).run P w = .ok (.tuple #[v0, goInt st]) (setBlock w b (.map es1 clock1)) ∧
      (∀ w2 : World, w2.heap[b]? = some (.map es1 clock1) → (Instr.lookup t (.map (some b)) (mk x) false).run P w2 = .ok (.int .i64 (L.count x : Nat)) w2) ∧
      ∃ es' clock', CntE mk (L ++ [x]) es' clock' ∧ ∀ w2 : World, w2.heap[b]? = some (.map es1 clock1) → (Instr.entryStore t (.map (some b)) (goInt st) (.int .i64 ((L.count x : Nat) + 1 : Int))).run P w2 = .ok () (setBlock w2 b (.map es' clock')) := by
  have hst := h.1
  obtain ⟨s1, s2, _⟩ := h.1
  rcases cnt_find K hi h hL hx w with ⟨h1, h2, h3⟩ | ⟨j, y, h1, h2, h3, h4, h5⟩
  · have c0 := List.count_eq_zero_of_not_mem h2
    refine ⟨.int .i64 0, clock, es.push ⟨mk x, .int .i64 0, clock⟩, clock + 1, ?_, ?_, es.push ⟨mk x, .int .i64 1, clock⟩, clock + 1, ?_, ?_⟩
    · simp [Instr.mapEntry, run_underlying ht, MapKept.run_getObj_map hb, K.check w false hx, h1, hz, MapKept.run_setObj_map _ hb, Result.andThen, setBlock]
    · intro w2 hw2
      rcases K.find w2 hx (es.push ⟨mk x, .int .i64 0, clock⟩).toList (fun y hy => by
        rw [Array.toList_push, List.mem_append, List.mem_singleton] at hy
        rcases hy with hy | rfl
        · exact cntE_keys h hL y hy
        · exact ⟨_, hx⟩) with ⟨_, k2⟩ | ⟨j, y, k1, k2, k3⟩
      · exact absurd rfl (k2 ⟨mk x, .int .i64 0, clock⟩ (by simp))
      · have hy := List.mem_of_getElem? k2
        rw [Array.toList_push, List.mem_append, List.mem_singleton] at hy
        rcases hy with hy | rfl
        · exact absurd k3 (h3 y hy)
        · rw [Array.toList_push] at k1
          rw [c0]
          simp [Instr.lookup, run_underlying ht, MapKept.run_getObj_map hw2, K.check w2 _ hx, k1, Result.andThen]
    · refine ⟨stamped_push hst h3, ?_⟩
      obtain ⟨_, ks, k1, k2, k3⟩ := h
      refine ⟨ks ++ [x], ?_, ?_, fun z => ?_⟩
      · rw [Array.toList_push, List.map_append, List.map_append, k1]
        rfl
      · rw [Array.toList_push, List.map_append, List.map_append, k2]
        have e1 : ks.map (fun z => Value.int .i64 ((L ++ [x]).count z : Nat)) = ks.map (fun z => Value.int .i64 (L.count z : Nat)) := List.map_congr_left fun z hz' => by
          have hne : ¬ x = z := fun e => h2 (by rw [e]; exact (k3 z).1 hz')
          rw [count_more, if_neg hne]
          rfl
        rw [e1]
        simp [c0]
      · rw [List.mem_append, List.mem_append, k3]
    · intro w2 hw2
      have hidx : (es.push ⟨mk x, .int .i64 0, clock⟩).findIdx? (fun e => ((e.born : Nat) : Int) == ((clock : Nat) : Int)) = some es.size := by
        rw [findIdx_arr]
        exact findIdx_born (l := (es.push ⟨mk x, .int .i64 0, clock⟩).toList) (j := es.size) (e0 := ⟨mk x, .int .i64 0, clock⟩) (by
          simp only [Array.toList_push, List.map_append, List.map_cons, List.map_nil]
          refine List.nodup_append.2 ⟨s2, by simp, fun a ha c hc e1 => ?_⟩
          simp only [List.mem_singleton] at hc
          obtain ⟨x, hx, rfl⟩ := List.mem_map.1 ha
          have := s1 x hx
          omega) (by simp)
      have hmod : (es.push ⟨mk x, .int .i64 0, clock⟩).modify es.size (fun e => { e with val := .int .i64 1 }) = es.push ⟨mk x, .int .i64 1, clock⟩ := by
        apply Array.ext'
        rw [Array.toList_modify, Array.toList_push, Array.toList_push, ← Array.length_toList, modify_last]
      rw [c0]
      simp [Instr.entryStore, MapKept.run_getObj_map hw2, asInt, asIntOf, goInt, hidx, hmod, MapKept.run_setObj_map _ hw2, Result.andThen, setBlock]
  · have hj : es[j]? = some y := by simpa using h2
    have hsame : es.modify j (fun e => { e with key := mk x }) = es := by
      apply Array.ext'
      rw [Array.toList_modify, modify_eq_set _ _ _ _ h2]
      have : ({ y with key := mk x } : MapEntry) = y := by rw [← h3]
      rw [this]
      exact set_self _ _ _ h2
    refine ⟨y.val, y.born, es, clock, ?_, fun w2 hw2 => cnt_look K ht (hz w2) hi h hL hx hw2, es.modify j (fun e' => { e' with val := .int .i64 ((L.count x : Nat) + 1 : Int) }), clock, ?_, ?_⟩
    · simp [Instr.mapEntry, run_underlying ht, MapKept.run_getObj_map hb, K.check w false hx, h1, hj, h3, K.stays w hx, hsame, MapKept.run_setObj_map _ hb, Result.andThen, setBlock, h4]
    · refine ⟨stamped_modify hst j _ (fun _ _ => rfl) (fun _ _ _ => rfl), ?_⟩
      obtain ⟨_, ks, k1, k2, k3⟩ := h
      have hnd : ks.Nodup := by
        have := hst.2.2
        rw [k1] at this
        exact (List.pairwise_map.1 this).imp fun hne e => hne (by rw [e])
      have hjk : ks[j]? = some x := by
        have e1 := congrArg (·[j]?) k1
        simp only [List.getElem?_map, h2, Option.map_some] at e1
        cases hk : ks[j]? with
        | none => rw [hk] at e1; cases e1
        | some z =>
          rw [hk] at e1
          simp only [Option.map_some, Option.some.injEq, h3] at e1
          rw [hi _ _ e1]
      refine ⟨ks, ?_, ?_, fun z => ?_⟩
      · rw [← k1]
        exact modify_keys j (fun e' => { e' with val := .int .i64 ((L.count x : Nat) + 1 : Int) }) (fun _ _ => rfl)
      · rw [Array.toList_modify, modify_eq_set _ _ _ _ h2, List.map_set, k2]
        refine List.ext_getElem? fun i => ?_
        rw [List.getElem?_set, List.getElem?_map, List.getElem?_map]
        by_cases e : j = i
        · subst e
          have hlt : j < (ks.map fun x => Value.int .i64 (L.count x : Nat)).length := by rw [List.length_map]; exact (List.getElem?_eq_some_iff.1 hjk).1
          rw [if_pos rfl, if_pos hlt, hjk]
          simp
        · rw [if_neg e]
          cases hk : ks[i]? with
          | none => rfl
          | some z =>
            have hne : x ≠ z := fun e2 => by
              obtain ⟨ha, hA⟩ := List.getElem?_eq_some_iff.1 hjk
              obtain ⟨hb', hB⟩ := List.getElem?_eq_some_iff.1 hk
              exact e ((List.getElem_inj hnd).1 (by rw [hA, hB, e2]))
            simp [hne]
      · rw [k3, List.mem_append, List.mem_singleton]
        exact ⟨.inl, fun hz' => hz'.elim id (fun e => e ▸ h5)⟩
    · intro w2 hw2
      have hidx : es.findIdx? (fun e => ((e.born : Nat) : Int) == ((y.born : Nat) : Int)) = some j := by
        rw [findIdx_arr]
        exact findIdx_born s2 h2
      simp [Instr.entryStore, MapKept.run_getObj_map hw2, asInt, asIntOf, goInt, hidx, MapKept.run_setObj_map _ hw2, Result.andThen, setBlock]
end
end Go.Proofs.Ytdbpknmoacjodaa
