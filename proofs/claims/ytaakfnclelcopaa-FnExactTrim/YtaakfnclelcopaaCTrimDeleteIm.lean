/-
  What slices.IndexFunc and slices.DeleteFunc answer at imports whose names a set lacks: the walks.
-/
import Derived.Test.YtaakfnclelcopaaCTrimUsedInToImplTold
import Derived.Laws.CopyRow
import Derived.Laws.Tables
namespace Go.Proofs.Ytaakfnclelcopaa
open Go.RowKit Go.PlainAid Go.Sort

def keepI (U : List ByteArray) (l : List Im) : List Im := l.filter fun x => inT U x.loc
theorem keepI_snoc {U : List ByteArray} {l : List Im} {j : Nat} {x : Im} (h : l[j]? = some x) : keepI U (l.take (j + 1)) = keepI U (l.take j) ++ if inT U x.loc = true then [x] else [] := by
  rw [take_snoc h]
  unfold keepI
  rw [List.filter_append]
  congr 1
  cases hx : inT U x.loc <;> simp [hx]
set_option maxRecDepth 100000 in
set_option maxHeartbeats 1600000 in
theorem lacks_any (x : Im) (u gq : Nat) (U : List ByteArray) (w : World) (hu : SetW w u U) (hq : w.heap[gq]? = some (.cells #[.map (some u)] 64 (0, 0))) (hs : x.loc.size ≤ maxLen) :
    Calls Try.prog 58 #[.agg #[.string x.spec, .string x.first, .string x.loc], .pointer (some ⟨gq, 0, none⟩)] w fun e w' => e = .returned (.bool (!inT U x.loc)) ∧ Below w.heap.size w w' := by
  obtain ⟨w0, hw0⟩ : ∃ w0, w0 = w.alloc (.cells #[.string x.spec, .string x.first, .string x.loc] 78) := ⟨_, rfl⟩
  have HB : Hid (Below w.heap.size w w0) := by rw [hw0]; exact (Below.refl _ _).alloc (Nat.le_refl _) _
  have hq' : (w.alloc (.cells #[.string x.spec, .string x.first, .string x.loc] 78)).cell? ⟨gq, 0, none⟩ = some (.map (some u)) := by rw [← hw0]; exact Boxed.cell (blk_later hq HB.out)
  have U0 := hidI (hu.kept (HB.out.block u hu.lt))
  clear hu hq
  go_enter Try.func58, Try.ntmps58
  go_wp2_with fail
  rw [← hw0]
  refine (hasS_any u U x.loc w0 U0.out hs).mono ?_
  rintro e w1 ⟨rfl, hb⟩
  go_wp2
  go_ret
  exact ⟨rfl, HB.out.trans (hb.mono HB.out.size)⟩
theorem im_set (l : List Im) : ∀ (i : Nat) (x : Im), i < l.length → (((l.flatMap imL).set (i * 3) (.string x.spec)).set (i * 3 + 1) (.string x.first)).set (i * 3 + 2) (.string x.loc) = (l.set i x).flatMap imL := by
  induction l with
  | nil => intro i x h; cases h
  | cons y l ih =>
    intro i x h
    cases i with
    | zero => rfl
    | succ i =>
      have e := ih i x (by simpa using h)
      rw [List.flatMap_cons, List.set_cons_succ, List.flatMap_cons, ← e]
      rw [show (i + 1) * 3 = i * 3 + 1 + 1 + 1 from by omega]
      rfl
theorem ownI_set {w : World} {base g n cap : Nat} {e : TypeId} {l : List Im} (h : OwnE imE w base e g n cap l) {i : Nat} (hi : i < n) (x : Im) : OwnE imE (((w.setCell ⟨g, i * 3, none⟩ (.string x.spec)).setCell ⟨g, i * 3 + 1, none⟩ (.string x.first)).setCell ⟨g, i * 3 + 2, none⟩ (.string x.loc)) base e g n cap (l.set i x) := by
  have h1 := (((h.1.stored (i * 3) (.string x.spec)).1.stored (i * 3 + 1) (.string x.first)).1.stored (i * 3 + 2) (.string x.loc)).1
  have e2 : (((l.flatMap imE.f).set (i * 3) (.string x.spec)).set (i * 3 + 1) (.string x.first)).set (i * 3 + 2) (.string x.loc) = (l.set i x).flatMap imE.f := im_set l i x (by rw [← h.2]; exact hi)
  rw [e2] at h1
  exact ⟨h1, by rw [List.length_set]; exact h.2⟩
theorem run_clear_E {P : Program} {α : Type} (E : Enc α) (w : World) (t e ty : TypeId) (z : Value) (ht : P.underlying t = some (.slice e)) (hv : ∀ w, (zeroValue e).run P w = .ok z w) (hz : z.cells.size = E.m) (hone : ∀ v ∈ z.cells.toList, v.oneCell' = true) {base g n cap : Nat} {l : List α} (h : OwnE E w base e g n cap l) (i c : Nat) (hi : i < n) :
    ∃ w', (Builtin.clear_ #[t] ty #[.slice (some ⟨g, i * E.m, none⟩) (n - i) c]).run P w = .ok (.tuple #[]) w' ∧ OwnE E w' base e g i cap (l.take i) ∧ w.grownBy w' (some g) := by
  rcases h.1.2 with ⟨h', _⟩ | ⟨g', cap', cur, h', hb, hg, hnc, hcm, hcs, htake⟩
  · simp at h'
  · simp only [Value.slice.injEq, Option.some.injEq, Addr.mk.injEq, and_true, true_and] at h'
    obtain ⟨rfl, rfl⟩ := h'
    have hmul : i * E.m + (n - i) * E.m = n * E.m := by rw [← Nat.add_mul]; congr 1; omega
    have hmn : n * E.m ≤ cap * E.m := Nat.mul_le_mul_right _ hnc
    have him : i * E.m ≤ n * E.m := Nat.mul_le_mul_right _ (by omega)
    have hzl : (Builtin.zeroCells z.cells (n - i)).toList.length = (n - i) * E.m := by rw [Array.length_toList]; simp [Builtin.zeroCells, hz]
    have hzo : ∀ v ∈ (Builtin.zeroCells z.cells (n - i)).toList, v.oneCell' = true := by
      intro v hv'
      simp only [Builtin.zeroCells, Array.toList_map, List.mem_map] at hv'
      obtain ⟨j, _, rfl⟩ := hv'
      refine hone _ ?_
      have hlt : j % z.cells.size < z.cells.size := Nat.mod_lt _ (by rw [hz]; exact E.pos)
      rw [getElem!_pos z.cells _ hlt]
      exact Array.getElem_mem_toList ..
    have hst := run_storeCells_at (P := P) g (i * E.m) e (Builtin.zeroCells z.cells (n - i)).toList 0 cur w hg (by rw [hzl, hcs]; omega) hzo
    rw [Nat.add_zero] at hst
    obtain ⟨m, hm⟩ : ∃ m, n - i = m + 1 := ⟨n - i - 1, by omega⟩
    have e3 : ((l.take i).flatMap E.f).length = i * E.m := by rw [flatE_len, List.length_take, ← h.2]; congr 1; omega
    refine ⟨w.setRow g (cur.toList.take (i * E.m) ++ (Builtin.zeroCells z.cells (n - i)).toList ++ cur.toList.drop (i * E.m + (Builtin.zeroCells z.cells (n - i)).toList.length)).toArray, ?_, ⟨?_, ?_⟩, ?_⟩
    · rw [hm] at hst ⊢
      simp only [Builtin.clear_, Sem.run_bind, Sem.run_pure, Result.andThen_ok, run_underlying ht, hv, hst, List.getElem?_toArray, List.getElem?_cons_zero]
    · refine ⟨e3, .inr ⟨g, cap, _, rfl, hb, setRow_heap w g cur _ e (0, 0) hg, by omega, hcm, ?_, ?_⟩⟩
      · rw [List.size_toArray, List.length_append, List.length_append, hzl, List.length_take, List.length_drop, Array.length_toList, hcs]
        omega
      · rw [List.append_assoc, List.take_append_of_le_length (by rw [List.length_take, Array.length_toList, hcs]; omega), List.take_of_length_le (by rw [List.length_take]; omega)]
        have e1 : cur.toList.take (i * E.m) = (cur.toList.take (n * E.m)).take (i * E.m) := by rw [List.take_take, Nat.min_eq_left him]
        rw [e1, htake]
        have e2 : l.flatMap E.f = (l.take i).flatMap E.f ++ (l.drop i).flatMap E.f := by rw [← List.flatMap_append, List.take_append_drop]
        rw [e2, List.take_append_of_le_length (by omega), List.take_of_length_le (by omega)]
    · rw [List.length_take, ← h.2]
      omega
    · exact ⟨rfl, rfl, rfl, by rw [setRow_size]; exact Nat.le_refl _, fun k hk hne => setRow_other w g k _ fun e => hne (by rw [e])⟩
theorem ownI_has {w : World} {base g n cap : Nat} {e : TypeId} {l : List Im} (h : OwnE imE w base e g n cap l) {j : Nat} {x : Im} (hj : l[j]? = some x) : w.cell? ⟨g, j * 3, none⟩ = some (.string x.spec) ∧ w.cell? ⟨g, j * 3 + 1, none⟩ = some (.string x.first) ∧ w.cell? ⟨g, j * 3 + 2, none⟩ = some (.string x.loc) := by
  have hl : j < n := by rw [h.2]; exact (List.getElem?_eq_some_iff.1 hj).1
  have hc := h.1.1
  have at' : ∀ i v, i < 3 → (imE.f x)[i]? = some v → w.cell? ⟨g, j * 3 + i, none⟩ = some v := fun i v hi hv => by
    have hlt : j * 3 + i < n * imE.m := by show j * 3 + i < n * 3; omega
    rw [h.1.cellAt _ hlt]
    exact flatE_at imE l hj hv
  exact ⟨at' 0 _ (by decide) rfl, at' 1 _ (by decide) rfl, at' 2 _ (by decide) rfl⟩
set_option maxRecDepth 100000 in
set_option maxHeartbeats 1600000 in
theorem indexI_any (base g n cap gq u : Nat) (l : List Im) (U : List ByteArray) (w : World) (ho : OwnE imE w base 78 g n cap l) (hu : SetW w u U) (hq : w.heap[gq]? = some (.cells #[.map (some u)] 64 (0, 0))) (hn : n ≤ 1048576) (hs : ∀ x ∈ l, x.loc.size ≤ maxLen) :
    Calls Try.prog 90 #[.slice (some ⟨g, 0, none⟩) n cap, .func (.func 58) #[] #[.pointer (some ⟨gq, 0, none⟩)]] w fun e w' => (∃ k : Int, e = .returned (.int .i64 k) ∧ ((k = -1 ∧ keepI U l = l) ∨ ∃ i : Nat, k = (i : Int) ∧ i < n ∧ keepI U (l.take (i + 1)) = l.take i)) ∧ Below w.heap.size w w' := by
  have HO := hidI ho
  have HQ := hidI hq
  have HU := hidI hu
  have HN := hidI ho.2
  have HS := hidI hs
  clear ho hq hu hs
  go_enter Try.func90, Try.ntmps90
  go_wp2
  go_loopw [8, 5] (fun i _ wr => ∃ j : Nat, j ≤ n ∧ i = .int .i64 j ∧ Hid (keepI U (l.take j) = l.take j) ∧ Hid (Below w.heap.size w wr)) (fun i _ _ => (n - intOf i).toNat)
  case atStart => exact ⟨0, Nat.zero_le _, rfl, hidI rfl, hidI (Below.refl _ _)⟩
  case round =>
    obtain ⟨j, hj, rfl, HK, B⟩ := hrel
    by_cases hlt : j < n
    · obtain ⟨x, hx⟩ : ∃ x, l[j]? = some x := ⟨_, List.getElem?_eq_getElem (by rw [← HN.out]; exact hlt)⟩
      obtain ⟨c0, c1, c2⟩ := ownI_has (HO.out.later B.out) hx
      have HKS := hidI (keepI_snoc (U := U) hx)
      have HT := hidI (take_snoc hx)
      have hxs := HS.out x (List.mem_of_getElem? hx)
      clear hx
      go_wp2_with fail
      refine (lacks_any x u gq U wr (HU.out.kept (B.out.block u HU.out.lt)) (blk_later HQ.out B.out) hxs).mono ?_
      rintro e w2 ⟨rfl, hb2⟩
      have B2 := hidI (B.out.trans (hb2.mono B.out.size))
      clear hb2
      cases hp : inT U x.loc with
      | false =>
        go_wp2
        go_ret
        refine ⟨⟨(j : Int), rfl, .inr ⟨j, rfl, hlt, ?_⟩⟩, B2.out⟩
        rw [HKS.out, hp, if_neg (by decide), List.append_nil, HK.out]
      | true =>
        have HX : Hid (keepI U (l.take (j + 1)) = l.take (j + 1)) := by
          show _ = _
          rw [HKS.out, hp, if_pos rfl, HK.out, HT.out]
        go_wp2
        go_roundw
        case rel => exact ⟨j + 1, hlt, by go_num, HX, B2⟩
        case measure => simp [intOf]; omega
    · have HX : Hid (keepI U l = l) := by
        have h := HK.out
        rw [List.take_of_length_le (by rw [← HN.out]; omega)] at h
        exact h
      go_wp2
      go_ret
      exact ⟨⟨-1, rfl, .inl ⟨rfl, HX.out⟩⟩, B.out⟩
structure DelI (base : Nat) (w wr : World) (g n cap gq u : Nat) (l : List Im) (U : List ByteArray) (i j : Nat) (R : List Im) : Prop where
  own : OwnE imE wr base 78 g n cap R
  set : SetW wr u U
  box : wr.heap[gq]? = some (.cells #[.map (some u)] 64 (0, 0))
  bel : Below base w wr
  head : R.take i = keepI U (l.take j)
  tail : ∀ k, j ≤ k → R[k]? = l[k]?
section
variable {base g n cap gq u i j : Nat} {w wr W : World} {l R : List Im} {U : List ByteArray} {x : Im}
theorem DelI.later (h : DelI base w wr g n cap gq u l U i j R) (hw : base ≤ wr.heap.size) (hb : Below wr.heap.size wr W) : DelI base w W g n cap gq u l U i j R :=
  ⟨h.own.later hb, h.set.kept (hb.block u h.set.lt), blk_later h.box hb, h.bel.trans (hb.mono hw), h.head, h.tail⟩
theorem DelI.skip (h : DelI base w wr g n cap gq u l U i j R) (hx : l[j]? = some x) (hp : inT U x.loc = false) : DelI base w wr g n cap gq u l U i (j + 1) R :=
  ⟨h.own, h.set, h.box, h.bel, by rw [h.head, keepI_snoc hx, hp, if_neg (by decide), List.append_nil], fun k hk => h.tail k (by omega)⟩
theorem DelI.put (h : DelI base w wr g n cap gq u l U i j R) (hx : l[j]? = some x) (hp : inT U x.loc = true) (hij : i < j) (hjn : j < n) : DelI base w (((wr.setCell ⟨g, i * 3, none⟩ (.string x.spec)).setCell ⟨g, i * 3 + 1, none⟩ (.string x.first)).setCell ⟨g, i * 3 + 2, none⟩ (.string x.loc)) g n cap gq u l U (i + 1) (j + 1) (R.set i x) := by
  have hl := h.own.2
  have hsm : ∀ k, k ≠ g → (((wr.setCell ⟨g, i * 3, none⟩ (.string x.spec)).setCell ⟨g, i * 3 + 1, none⟩ (.string x.first)).setCell ⟨g, i * 3 + 2, none⟩ (.string x.loc)).heap[k]? = wr.heap[k]? := fun k hk => by
    rw [Below.heap_setCell _ ⟨g, i * 3 + 2, none⟩ _ k hk, Below.heap_setCell _ ⟨g, i * 3 + 1, none⟩ _ k hk, Below.heap_setCell _ ⟨g, i * 3, none⟩ _ k hk]
  obtain ⟨cur, hcur⟩ : ∃ cur, wr.heap[g]? = some (.cells cur 78 (0, 0)) := by
    rcases h.own.1.2 with ⟨h', _⟩ | ⟨g', cap', cur, h', hb, hg, _⟩
    · simp at h'
    · simp only [Value.slice.injEq, Option.some.injEq, Addr.mk.injEq, and_true, true_and] at h'
      obtain ⟨rfl, _⟩ := h'
      exact ⟨cur, hg⟩
  have hug : u ≠ g := fun e => by
    obtain ⟨es, clock, h1, _⟩ := h.set
    rw [e, hcur] at h1
    cases h1
  have hqg : gq ≠ g := fun e => by
    have h1 := h.box
    rw [e, hcur] at h1
    exact absurd (Option.some.inj h1) (by simp)
  refine ⟨ownI_set h.own (by omega) x, h.set.kept (hsm u hug), (hsm gq hqg).trans h.box, ((h.bel.setCell (p := ⟨g, i * 3, none⟩) h.own.blk.1 _).setCell (p := ⟨g, i * 3 + 1, none⟩) h.own.blk.1 _).setCell (p := ⟨g, i * 3 + 2, none⟩) h.own.blk.1 _, ?_, fun k hk => ?_⟩
  · rw [keepI_snoc hx, hp, if_pos rfl, ← h.head]
    have e : (R.set i x)[i]? = some x := by rw [List.getElem?_set, if_pos rfl, if_pos (by omega)]
    rw [take_snoc e, List.take_set_of_le (Nat.le_refl _)]
  · rw [List.getElem?_set, if_neg (by omega)]
    exact h.tail k (by omega)
end
set_option maxRecDepth 100000 in
set_option maxHeartbeats 3200000 in
theorem deleteI_any (base g n cap gq u : Nat) (l : List Im) (U : List ByteArray) (w : World) (ho : OwnE imE w base 78 g n cap l) (hu : SetW w u U) (hq : w.heap[gq]? = some (.cells #[.map (some u)] 64 (0, 0))) (hbs : base ≤ w.heap.size) (hn : n ≤ 1048576) (hs : ∀ x ∈ l, x.loc.size ≤ maxLen) :
    Calls Try.prog 57 #[.slice (some ⟨g, 0, none⟩) n cap, .func (.func 58) #[] #[.pointer (some ⟨gq, 0, none⟩)]] w fun e w' => ∃ m, e = .returned (.slice (some ⟨g, 0, none⟩) m cap) ∧ OwnE imE w' base 78 g m cap (keepI U l) ∧ Below base w w' ∧ ∀ k, k < w.heap.size → k ≠ g → w'.heap[k]? = w.heap[k]? := by
  have HO := hidI ho
  have HQ := hidI hq
  have HU := hidI hu
  have HN := hidI ho.2
  have HS := hidI hs
  have hcap : n ≤ cap := ho.cap
  clear ho hq hu hs
  go_enter Try.func57, Try.ntmps57
  go_wp2_with fail
  refine (indexI_any base g n cap gq u l U _ HO.out HU.out HQ.out hn HS.out).mono ?_
  rintro e w1 ⟨⟨k, rfl, hk⟩, hb1⟩
  rcases hk with ⟨rfl, hd⟩ | ⟨i, rfl, hi, hd⟩
  · have O1 := hidI (HO.out.later hb1)
    have HD := hidI hd
    have B1 := hidI (hb1.mono hbs)
    have B0 := hidI hb1
    clear hd hb1
    go_wp2
    go_ret
    exact ⟨n, rfl, by rw [HD.out]; exact O1.out, B1.out, fun k hk _ => B0.out.block k hk⟩
  · have D1 : Hid (DelI base w w1 g n cap gq u l U i (i + 1) l) := ⟨HO.out.later hb1, HU.out.kept (hb1.block u HU.out.lt), blk_later HQ.out hb1, hb1.mono hbs, hd.symm, fun _ _ => rfl⟩
    have K1 : Hid (∀ k, k < w.heap.size → k ≠ g → w1.heap[k]? = w.heap[k]?) := fun k hk _ => hb1.block k hk
    have hne1 : ((i : Int) == -1) = false := beq_eq_false_iff_ne.2 (by omega)
    clear hd hb1 HO HQ HU
    go_wp2
    go_loopw [5, 6, 7] (fun si sj _ wr => ∃ (i j : Nat) (R : List Im), si = .int .i64 i ∧ sj = .int .i64 j ∧ i < j ∧ j ≤ n ∧ Hid (DelI base w wr g n cap gq u l U i j R) ∧ Hid (∀ k, k < w.heap.size → k ≠ g → wr.heap[k]? = w.heap[k]?)) (fun _ sj _ _ => (n - intOf sj).toNat)
    case atStart => exact ⟨i, i + 1, l, rfl, by go_num, by omega, by omega, D1, K1⟩
    case round =>
      clear D1 hne1 hi K1
      obtain ⟨i, j, R, rfl, rfl, hij, hjn, D, KK⟩ := hrel
      have hw : base ≤ wr.heap.size := Nat.le_trans hbs D.out.bel.size
      have hws : Hid (w.heap.size ≤ wr.heap.size) := D.out.bel.size
      by_cases hlt : j < n
      · obtain ⟨x, hx⟩ : ∃ x, l[j]? = some x := ⟨_, List.getElem?_eq_getElem (by rw [← HN.out]; exact hlt)⟩
        obtain ⟨c0, c1, c2⟩ := ownI_has D.out.own ((D.out.tail j (Nat.le_refl _)).trans hx)
        have HX := hidI hx
        have hxs := HS.out x (List.mem_of_getElem? hx)
        clear hx
        obtain ⟨W2, hW2⟩ : ∃ W2, W2 = wr.alloc (.cells #[.string x.spec, .string x.first, .string x.loc] 78) := ⟨_, rfl⟩
        have A1 : Hid (Below wr.heap.size wr W2) := by rw [hW2]; exact (Below.refl _ _).alloc (Nat.le_refl _) _
        have D2 := hidI (D.out.later hw A1.out)
        have X2 : Hid (W2.heap[wr.heap.size]? = some (.cells #[.string x.spec, .string x.first, .string x.loc] 78 (0, 0))) := by rw [hW2]; exact heap_alloc_new wr _
        have K2 : Hid (∀ k, k < w.heap.size → k ≠ g → W2.heap[k]? = w.heap[k]?) := fun k hk hg => (A1.out.block k (Nat.lt_of_lt_of_le hk hws.out)).trans (KK.out k hk hg)
        have S2 : Hid (w.heap.size ≤ W2.heap.size) := Nat.le_trans hws.out A1.out.size
        have hw2 : Hid (base ≤ W2.heap.size) := Nat.le_trans hw A1.out.size
        clear D KK A1 hws
        go_wp2_with fail
        rw [← hW2]
        refine (lacks_any x u gq U W2 D2.out.set D2.out.box hxs).mono ?_
        rintro e w2 ⟨rfl, hb2⟩
        have D3 := hidI (D2.out.later hw2.out hb2)
        have X3 := hidI (blk_later X2.out hb2)
        have K3 : Hid (∀ k, k < w.heap.size → k ≠ g → w2.heap[k]? = w.heap[k]?) := fun k hk hg => (hb2.block k (Nat.lt_of_lt_of_le hk S2.out)).trans (K2.out k hk hg)
        clear hb2 D2 X2 c0 c1 c2 hw2 hW2 K2 S2
        have b0 : w2.cell? ⟨wr.heap.size, 0, none⟩ = some (.string x.spec) := by simp [World.cell?, X3.out]
        have b1 : w2.cell? ⟨wr.heap.size, 1, none⟩ = some (.string x.first) := by simp [World.cell?, X3.out]
        have b2 : w2.cell? ⟨wr.heap.size, 2, none⟩ = some (.string x.loc) := by simp [World.cell?, X3.out]
        cases hp : inT U x.loc with
        | false =>
          have D4 := hidI (D3.out.skip HX.out hp)
          go_wp2
          go_roundw
          case rel => exact ⟨i, j + 1, R, rfl, by go_num, by omega, by omega, D4, K3⟩
          case measure => simp [intOf]; omega
        | true =>
          have D4 := hidI (D3.out.put HX.out hp hij hlt)
          obtain ⟨y, hy⟩ : ∃ y, R[i]? = some y := ⟨_, List.getElem?_eq_getElem (by rw [← D3.out.own.2]; omega)⟩
          obtain ⟨e0, e1, e2⟩ := ownI_has D3.out.own hy
          have f0 : w2.frozen? ⟨g, i * 3, none⟩ = false := D3.out.own.1.frozenAt _
          have f1 : w2.frozen? ⟨g, i * 3 + 1, none⟩ = false := D3.out.own.1.frozenAt _
          have f2 : w2.frozen? ⟨g, i * 3 + 2, none⟩ = false := D3.out.own.1.frozenAt _
          have K4 : Hid (∀ k, k < w.heap.size → k ≠ g → (((w2.setCell ⟨g, i * 3, none⟩ (.string x.spec)).setCell ⟨g, i * 3 + 1, none⟩ (.string x.first)).setCell ⟨g, i * 3 + 2, none⟩ (.string x.loc)).heap[k]? = w.heap[k]?) := fun k hk hg => by
            rw [Below.heap_setCell _ ⟨g, i * 3 + 2, none⟩ _ k hg, Below.heap_setCell _ ⟨g, i * 3 + 1, none⟩ _ k hg, Below.heap_setCell _ ⟨g, i * 3, none⟩ _ k hg]
            exact K3.out k hk hg
          clear D3 hy K3
          go_wp2
          go_roundw
          case rel => exact ⟨i + 1, j + 1, _, by go_num, by go_num, by omega, by omega, D4, K4⟩
          case measure => simp [intOf]; omega
      · obtain rfl : j = n := by omega
        have HE : Hid (R.take i = keepI U l) := by
          show _ = _
          rw [D.out.head, List.take_of_length_le (by rw [← HN.out]; exact Nat.le_refl _)]
        have hci : ¬ cap = i := by omega
        have hic : (i : Int) ≤ (cap : Int) := by omega
        obtain ⟨w3, hcl, ho3, hg3⟩ := run_clear_E (P := Try.prog) imE wr 31 78 0 _ Try.underlying31 Try.zeroValue78 rfl (by intro v hv; simp [Value.cells] at hv; rcases hv with rfl | rfl | rfl <;> rfl) D.out.own i (cap - i) hij
        have hcl' : ∀ ty, (Builtin.clear_ #[31] ty #[.slice (some ⟨g, i * 3, none⟩) (j - i) (cap - i)]).run Try.prog wr = .ok (.tuple #[]) w3 := fun ty => hcl
        have O3 := hidI ho3
        have B3 := hidI (D.out.bel.grown hg3 hw (fun k hk => by cases hk; exact D.out.own.blk.1))
        have K3 : Hid (∀ k, k < w.heap.size → k ≠ g → w3.heap[k]? = w.heap[k]?) := fun k hk hg => (hg3.block k (Nat.lt_of_lt_of_le hk hws.out) fun e => hg (Option.some.inj e)).trans (KK.out k hk hg)
        clear hcl ho3 hg3 D KK hws
        go_wp2
        go_ret
        exact ⟨i, rfl, by rw [← HE.out]; exact O3.out, B3.out, K3.out⟩
end Go.Proofs.Ytaakfnclelcopaa
