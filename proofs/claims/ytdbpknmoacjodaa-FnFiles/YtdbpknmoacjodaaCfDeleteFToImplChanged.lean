/-
  What slices.IndexFunc and slices.DeleteFunc answer at files of a path, and impl.DropFile: the walks.
  What impl.DropFile answers: the walk.
  Two files alike. No program is spoken of.
  What slices.Index and slices.Contains answer at files, and impl.missingFrom, the model's == of files handed in: the walks.
  What impl.putRow answers at texts: the walk.
  What impl.Changed answers: the walk.
-/
import Derived.Laws.CopyRow
import Derived.Test.YtdbpknmoacjodaaCfCopyFilesToImplPutFile
namespace Go.Proofs.Ytdbpknmoacjodaa
open Go.RowKit Go.PlainAid Go.Sort

theorem boxF2_later {w W : World} {gx : Nat} {o : Obj} (h : w.heap[gx]? = some o) (hb : Below w.heap.size w W) : W.heap[gx]? = some o := (hb.block gx (Array.getElem?_eq_some_iff.1 h).1).trans h
theorem isPathF_any (p t q : ByteArray) (gq : Nat) (w : World) (hq : w.cell? ⟨gq, 0, none⟩ = some (.string q)) :
    Calls Try.prog 73 #[.agg #[.string p, .string t], .pointer (some ⟨gq, 0, none⟩)] w fun e w' => e = .returned (.bool (p.toList == q.toList)) ∧ Below w.heap.size w w' := by
  have hq' : (w.alloc (.cells #[.string p, .string t] 52)).cell? ⟨gq, 0, none⟩ = some (.string q) := by
    have hlt := World.block_lt_of_cell? w _ hq
    rw [((Below.refl w.heap.size w).alloc (Nat.le_refl _) _).cell hlt]
    exact hq
  go_enter Try.func73, Try.ntmps73
  go_wp2
  go_ret
  exact ⟨rfl, (Below.refl _ _).alloc (Nat.le_refl _) _⟩
theorem keep_part {fs : List Fl} {q : ByteArray} {k : Nat} (h : ∀ j, j < k → ∀ x, fs[j]? = some x → (x.1.toList == q.toList) = false) : dropL (fs.take k) q = fs.take k := by
  unfold dropL
  refine List.filter_eq_self.2 fun y hy => ?_
  obtain ⟨j, hj, rfl⟩ := List.getElem_of_mem hy
  rw [List.length_take] at hj
  have e : (fs.take k)[j]? = fs[j]? := List.getElem?_take_of_lt (by omega)
  unfold keepP
  rw [h j (by omega) _ (e.symm.trans (List.getElem?_eq_getElem (by rw [List.length_take]; omega)))]
  rfl
theorem keep_snoc {fs : List Fl} {q : ByteArray} {j : Nat} {x : Fl} (h : fs[j]? = some x) : dropL (fs.take (j + 1)) q = dropL (fs.take j) q ++ if (x.1.toList == q.toList) = true then [] else [x] := by
  rw [take_snoc h]
  unfold dropL
  rw [List.filter_append]
  congr 1
  cases hx : (x.1.toList == q.toList) <;> simp [keepP, hx]
theorem fl_set (fs : List Fl) : ∀ (i : Nat) (x : Fl), i < fs.length → ((fs.flatMap flL).set (i * 2) (.string x.1)).set (i * 2 + 1) (.string x.2) = (fs.set i x).flatMap flL := by
  induction fs with
  | nil => intro i x h; cases h
  | cons y fs ih =>
    intro i x h
    cases i with
    | zero => rfl
    | succ i =>
      have e := ih i x (by simpa using h)
      rw [List.flatMap_cons, List.set_cons_succ, List.flatMap_cons, ← e]
      rw [show (i + 1) * 2 = i * 2 + 1 + 1 from by omega]
      rfl
theorem ownFl_set {w : World} {base g n cap : Nat} {e : TypeId} {fs : List Fl} (h : OwnFl w base e g n cap fs) {i : Nat} (hi : i < n) (x : Fl) : OwnFl ((w.setCell ⟨g, i * 2, none⟩ (.string x.1)).setCell ⟨g, i * 2 + 1, none⟩ (.string x.2)) base e g n cap (fs.set i x) := by
  have h1 := ((h.1.stored (i * 2) (.string x.1)).1.stored (i * 2 + 1) (.string x.2)).1
  rw [fl_set fs i x (by rw [← h.2]; exact hi)] at h1
  exact ⟨h1, by rw [List.length_set]; exact h.2⟩
theorem run_clear_fl {P : Program} (w : World) (t e ty : TypeId) (z : Value) (ht : P.underlying t = some (.slice e)) (hv : ∀ w, (zeroValue e).run P w = .ok z w) (hz : z.cells.size = 2) (hone : ∀ v ∈ z.cells.toList, v.oneCell' = true) {base g n cap : Nat} {fs : List Fl} (h : OwnFl w base e g n cap fs) (i c : Nat) (hi : i < n) :
    ∃ w', (Builtin.clear_ #[t] ty #[.slice (some ⟨g, i * 2, none⟩) (n - i) c]).run P w = .ok (.tuple #[]) w' ∧ OwnFl w' base e g i cap (fs.take i) ∧ w.grownBy w' (some g) := by
  rcases h.1.2 with ⟨h', _⟩ | ⟨g', cap', cur, h', hb, hg, hnc, hcm, hcs, htake⟩
  · simp at h'
  · simp only [Value.slice.injEq, Option.some.injEq, Addr.mk.injEq, and_true, true_and] at h'
    obtain ⟨rfl, rfl⟩ := h'
    have hzl : (Builtin.zeroCells z.cells (n - i)).toList.length = (n - i) * 2 := by rw [Array.length_toList, zero_len, hz]
    have hzo : ∀ v ∈ (Builtin.zeroCells z.cells (n - i)).toList, v.oneCell' = true := by
      intro v hv'
      simp only [Builtin.zeroCells, Array.toList_map, List.mem_map] at hv'
      obtain ⟨j, _, rfl⟩ := hv'
      refine hone _ ?_
      have hlt : j % z.cells.size < z.cells.size := Nat.mod_lt _ (by omega)
      rw [getElem!_pos z.cells _ hlt]
      exact Array.getElem_mem_toList ..
    have hst := run_storeCells_at (P := P) g (i * 2) e (Builtin.zeroCells z.cells (n - i)).toList 0 cur w hg (by rw [hzl, hcs]; omega) hzo
    rw [Nat.add_zero] at hst
    obtain ⟨m, hm⟩ : ∃ m, n - i = m + 1 := ⟨n - i - 1, by omega⟩
    refine ⟨w.setRow g (cur.toList.take (i * 2) ++ (Builtin.zeroCells z.cells (n - i)).toList ++ cur.toList.drop (i * 2 + (Builtin.zeroCells z.cells (n - i)).toList.length)).toArray, ?_, ⟨?_, ?_⟩, ?_⟩
    · rw [hm] at hst ⊢
      simp only [Builtin.clear_, Sem.run_bind, Sem.run_pure, Result.andThen_ok, run_underlying ht, hv, hst, List.getElem?_toArray, List.getElem?_cons_zero]
    · refine ⟨by rw [fl_flat_len, List.length_take, ← h.2]; omega, .inr ⟨g, cap, _, rfl, hb, setRow_heap w g cur _ e (0, 0) hg, by omega, hcm, ?_, ?_⟩⟩
      · rw [List.size_toArray, List.length_append, List.length_append, hzl, List.length_take, List.length_drop, Array.length_toList, hcs]
        omega
      · rw [List.append_assoc, List.take_append_of_le_length (by rw [List.length_take, Array.length_toList, hcs]; omega), List.take_of_length_le (by rw [List.length_take]; omega)]
        have e1 : cur.toList.take (i * 2) = (cur.toList.take (n * 2)).take (i * 2) := by rw [List.take_take, Nat.min_eq_left (by omega)]
        rw [e1, htake]
        have e2 : fs.flatMap flL = (fs.take i).flatMap flL ++ (fs.drop i).flatMap flL := by rw [← List.flatMap_append, List.take_append_drop]
        have e3 : ((fs.take i).flatMap flL).length = i * 2 := by rw [fl_flat_len, List.length_take, ← h.2]; omega
        rw [e2, List.take_append_of_le_length (by omega), List.take_of_length_le (by omega)]
    · rw [List.length_take, ← h.2]
      omega
    · exact ⟨rfl, rfl, rfl, by rw [setRow_size]; exact Nat.le_refl _, fun k hk hne => setRow_other w g k _ fun e => hne (by rw [e])⟩
set_option maxRecDepth 100000 in
set_option maxHeartbeats 1600000 in
theorem indexF_any (base g n cap gq : Nat) (fs : List Fl) (q : ByteArray) (w : World) (ho : OwnFl w base 52 g n cap fs) (hq : w.heap[gq]? = some (.cells #[.string q] 9 (0, 0))) (hn : n ≤ 1000) :
    Calls Try.prog 139 #[.slice (some ⟨g, 0, none⟩) n cap, .func (.func 73) #[] #[.pointer (some ⟨gq, 0, none⟩)]] w fun e w' => (∃ k : Int, e = .returned (.int .i64 k) ∧ ((k = -1 ∧ dropL fs q = fs) ∨ ∃ i : Nat, k = (i : Int) ∧ i < n ∧ dropL (fs.take (i + 1)) q = fs.take i)) ∧ Below w.heap.size w w' := by
  have HO := hidU ho
  have HQ := hidU hq
  have HN := hidU ho.2
  clear ho hq
  go_enter Try.func139, Try.ntmps139
  go_wp2
  go_loopw [8, 5] (fun i _ wr => ∃ j : Nat, j ≤ n ∧ i = .int .i64 j ∧ Hid (dropL (fs.take j) q = fs.take j) ∧ Hid (Below w.heap.size w wr)) (fun i _ _ => (n - intOf i).toNat)
  case atStart => exact ⟨0, Nat.zero_le _, rfl, hidU rfl, hidU (Below.refl _ _)⟩
  case round =>
    obtain ⟨j, hj, rfl, HK, B⟩ := hrel
    by_cases hlt : j < n
    · obtain ⟨x, hx⟩ : ∃ x, fs[j]? = some x := ⟨_, List.getElem?_eq_getElem (by rw [← HN.out]; exact hlt)⟩
      obtain ⟨c0, c1⟩ := ownFl_has (ownFl_later HO.out B.out) hx
      have HQ2 := hidU ((B.out.block gq (Array.getElem?_eq_some_iff.1 HQ.out).1).trans HQ.out)
      have q0 : wr.cell? ⟨gq, 0, none⟩ = some (.string q) := by simp [World.cell?, HQ2.out]
      have HS := hidU (keep_snoc (q := q) hx)
      have HT := hidU (take_snoc hx)
      clear hx
      obtain ⟨p, t⟩ := x
      go_wp2_with fail
      refine (isPathF_any p t q gq _ q0).mono ?_
      rintro e w2 ⟨rfl, hb2⟩
      have B2 := hidU (B.out.trans (hb2.mono B.out.size))
      clear hb2
      cases hp : (p.toList == q.toList) with
      | true =>
        go_wp2
        go_ret
        refine ⟨⟨(j : Int), rfl, .inr ⟨j, rfl, hlt, ?_⟩⟩, B2.out⟩
        rw [HS.out, if_pos hp, List.append_nil, HK.out]
      | false =>
        have HX : Hid (dropL (fs.take (j + 1)) q = fs.take (j + 1)) := by
          show _ = _
          rw [HS.out, if_neg (by show ¬ (p.toList == q.toList) = true; rw [hp]; simp), HK.out, HT.out]
        go_wp2
        go_roundw
        case rel => exact ⟨j + 1, hlt, by go_num, HX, B2⟩
        case measure => simp [intOf]; omega
    · have HX : Hid (dropL fs q = fs) := by
        have h := HK.out
        rw [List.take_of_length_le (by rw [← HN.out]; omega)] at h
        exact h
      go_wp2
      go_ret
      exact ⟨⟨-1, rfl, .inl ⟨rfl, HX.out⟩⟩, B.out⟩
structure DelW (base : Nat) (w wr : World) (g n cap gq : Nat) (fs : List Fl) (q : ByteArray) (i j : Nat) (R : List Fl) : Prop where
  own : OwnFl wr base 52 g n cap R
  box : wr.heap[gq]? = some (.cells #[.string q] 9 (0, 0))
  bel : Below base w wr
  head : R.take i = dropL (fs.take j) q
  tail : ∀ k, j ≤ k → R[k]? = fs[k]?
theorem DelW.later {base g n cap gq i j : Nat} {w wr W : World} {fs R : List Fl} {q : ByteArray} (h : DelW base w wr g n cap gq fs q i j R) (hw : base ≤ wr.heap.size) (hb : Below wr.heap.size wr W) : DelW base w W g n cap gq fs q i j R :=
  ⟨ownFl_later h.own hb, (hb.block gq (Array.getElem?_eq_some_iff.1 h.box).1).trans h.box, h.bel.trans (hb.mono hw), h.head, h.tail⟩
theorem DelW.skip {base g n cap gq i j : Nat} {w wr : World} {fs R : List Fl} {q : ByteArray} {x : Fl} (h : DelW base w wr g n cap gq fs q i j R) (hx : fs[j]? = some x) (hp : (x.1.toList == q.toList) = true) : DelW base w wr g n cap gq fs q i (j + 1) R :=
  ⟨h.own, h.box, h.bel, by rw [h.head, keep_snoc hx, if_pos hp, List.append_nil], fun k hk => h.tail k (by omega)⟩
theorem DelW.put {base g n cap gq i j : Nat} {w wr : World} {fs R : List Fl} {q : ByteArray} {x : Fl} (h : DelW base w wr g n cap gq fs q i j R) (hx : fs[j]? = some x) (hp : (x.1.toList == q.toList) = false) (hij : i < j) (hjn : j < n) (hne : gq ≠ g) : DelW base w ((wr.setCell ⟨g, i * 2, none⟩ (.string x.1)).setCell ⟨g, i * 2 + 1, none⟩ (.string x.2)) g n cap gq fs q (i + 1) (j + 1) (R.set i x) := by
  have hl := h.own.2
  refine ⟨ownFl_set h.own (by omega) x, ?_, (h.bel.setCell (p := ⟨g, i * 2, none⟩) (ownFl_blk h.own).1 _).setCell (p := ⟨g, i * 2 + 1, none⟩) (ownFl_blk h.own).1 _, ?_, fun k hk => ?_⟩
  · rw [Below.heap_setCell _ ⟨g, i * 2 + 1, none⟩ _ gq hne, Below.heap_setCell _ ⟨g, i * 2, none⟩ _ gq hne]
    exact h.box
  · rw [keep_snoc hx, if_neg (by rw [hp]; simp), ← h.head]
    have e : (R.set i x)[i]? = some x := by rw [List.getElem?_set, if_pos rfl, if_pos (by omega)]
    rw [take_snoc e, List.take_set_of_le (Nat.le_refl _)]
  · rw [List.getElem?_set, if_neg (by omega)]
    exact h.tail k (by omega)
set_option maxRecDepth 100000 in
set_option maxHeartbeats 3200000 in
theorem deleteF_any (base g n cap gq : Nat) (fs : List Fl) (q : ByteArray) (w : World) (ho : OwnFl w base 52 g n cap fs) (hq : w.heap[gq]? = some (.cells #[.string q] 9 (0, 0))) (hne : gq ≠ g) (hbs : base ≤ w.heap.size) (hn : n ≤ 1000) :
    Calls Try.prog 72 #[.slice (some ⟨g, 0, none⟩) n cap, .func (.func 73) #[] #[.pointer (some ⟨gq, 0, none⟩)]] w fun e w' => ∃ m, e = .returned (.slice (some ⟨g, 0, none⟩) m cap) ∧ OwnFl w' base 52 g m cap (dropL fs q) ∧ Below base w w' := by
  have HO := hidU ho
  have HQ := hidU hq
  have HN := hidU ho.2
  have hcap : n ≤ cap := ownFl_cap ho
  clear ho hq
  go_enter Try.func72, Try.ntmps72
  go_wp2_with fail
  refine (indexF_any base g n cap gq fs q _ HO.out HQ.out hn).mono ?_
  rintro e w1 ⟨⟨k, rfl, hk⟩, hb1⟩
  rcases hk with ⟨rfl, hd⟩ | ⟨i, rfl, hi, hd⟩
  · have O1 := hidU (ownFl_later HO.out hb1)
    have HD := hidU hd
    have B1 := hidU (hb1.mono hbs)
    clear hd hb1
    go_wp2
    go_ret
    exact ⟨n, rfl, by rw [HD.out]; exact O1.out, B1.out⟩
  · have D1 : Hid (DelW base w w1 g n cap gq fs q i (i + 1) fs) := ⟨ownFl_later HO.out hb1, (hb1.block gq (Array.getElem?_eq_some_iff.1 HQ.out).1).trans HQ.out, hb1.mono hbs, hd.symm, fun _ _ => rfl⟩
    have hne1 : ((i : Int) == -1) = false := beq_eq_false_iff_ne.2 (by omega)
    clear hd hb1 HO HQ
    go_wp2
    go_loopw [5, 6, 7] (fun si sj _ wr => ∃ (i j : Nat) (R : List Fl), si = .int .i64 i ∧ sj = .int .i64 j ∧ i < j ∧ j ≤ n ∧ Hid (DelW base w wr g n cap gq fs q i j R)) (fun _ sj _ _ => (n - intOf sj).toNat)
    case atStart => exact ⟨i, i + 1, fs, rfl, by go_num, by omega, by omega, D1⟩
    case round =>
      clear D1 hne1 hi
      obtain ⟨i, j, R, rfl, rfl, hij, hjn, D⟩ := hrel
      have hw : base ≤ wr.heap.size := Nat.le_trans hbs D.out.bel.size
      by_cases hlt : j < n
      · obtain ⟨x, hx⟩ : ∃ x, fs[j]? = some x := ⟨_, List.getElem?_eq_getElem (by rw [← HN.out]; exact hlt)⟩
        obtain ⟨c0, c1⟩ := ownFl_has D.out.own ((D.out.tail j (Nat.le_refl _)).trans hx)
        have HX := hidU hx
        clear hx
        obtain ⟨p, t⟩ := x
        have A1 : Hid (Below wr.heap.size wr (wr.alloc (.cells #[.string p, .string t] 52))) := (Below.refl _ _).alloc (Nat.le_refl _) _
        have D2 := hidU (D.out.later hw A1.out)
        have X2 : Hid ((wr.alloc (.cells #[.string p, .string t] 52)).heap[wr.heap.size]? = some (.cells #[.string p, .string t] 52 (0, 0))) := heap_alloc_new wr _
        have hg2 : Hid (g < wr.heap.size) := (ownFl_blk D.out.own).2
        have q0 : (wr.alloc (.cells #[.string p, .string t] 52)).cell? ⟨gq, 0, none⟩ = some (.string q) := by simp [World.cell?, D2.out.box]
        have hw2 : Hid (base ≤ (wr.alloc (.cells #[.string p, .string t] 52)).heap.size) := Nat.le_trans hw A1.out.size
        clear D
        go_wp2_with fail
        refine (isPathF_any p t q gq _ q0).mono ?_
        rintro e w2 ⟨rfl, hb2⟩
        have D3 := hidU (D2.out.later hw2.out hb2)
        have X3 := hidU (boxF2_later X2.out hb2)
        clear hb2 D2 X2 q0 c0 c1 A1 hw2
        have b0 : w2.cell? ⟨wr.heap.size, 0, none⟩ = some (.string p) := by simp [World.cell?, X3.out]
        have b1 : w2.cell? ⟨wr.heap.size, 1, none⟩ = some (.string t) := by simp [World.cell?, X3.out]
        cases hp : (p.toList == q.toList) with
        | true =>
          have D4 := hidU (D3.out.skip HX.out hp)
          go_wp2
          go_roundw
          case rel => exact ⟨i, j + 1, R, rfl, by go_num, by omega, by omega, D4⟩
          case measure => simp [intOf]; omega
        | false =>
          have D4 := hidU (D3.out.put HX.out hp hij hlt hne)
          obtain ⟨y, hy⟩ : ∃ y, R[i]? = some y := ⟨_, List.getElem?_eq_getElem (by rw [← D3.out.own.2]; omega)⟩
          obtain ⟨e0, e1⟩ := ownFl_has D3.out.own hy
          have f0 : w2.frozen? ⟨g, i * 2, none⟩ = false := D3.out.own.1.frozenAt _
          have f1 : w2.frozen? ⟨g, i * 2 + 1, none⟩ = false := D3.out.own.1.frozenAt _
          clear D3 hy
          go_wp2
          go_roundw
          case rel => exact ⟨i + 1, j + 1, _, by go_num, by go_num, by omega, by omega, D4⟩
          case measure => simp [intOf]; omega
      · obtain rfl : j = n := by omega
        have HE : Hid (R.take i = dropL fs q) := by
          show _ = _
          rw [D.out.head, List.take_of_length_le (by rw [← HN.out]; exact Nat.le_refl _)]
        have hci : ¬ cap = i := by omega
        have hic : (i : Int) ≤ (cap : Int) := by omega
        obtain ⟨w3, hcl, ho3, hg3⟩ := run_clear_fl (P := Try.prog) wr 48 52 0 _ Try.underlying48 Try.zeroValue52 rfl (by intro v hv; simp [Value.cells] at hv; rcases hv with rfl | rfl <;> rfl) D.out.own i (cap - i) hij
        have hcl' : ∀ ty, (Builtin.clear_ #[48] ty #[.slice (some ⟨g, i * 2, none⟩) (j - i) (cap - i)]).run Try.prog wr = .ok (.tuple #[]) w3 := fun ty => hcl
        have O3 := hidU ho3
        have B3 := hidU (D.out.bel.grown hg3 hw (fun k hk => by cases hk; exact (ownFl_blk D.out.own).1))
        clear hcl ho3 hg3 D
        go_wp2
        go_ret
        exact ⟨i, rfl, by rw [← HE.out]; exact O3.out, B3.out⟩
end Go.Proofs.Ytdbpknmoacjodaa
namespace Go.Proofs.Ytdbpknmoacjodaa
open Go.RowKit Go.PlainAid Go.Sort

set_option maxRecDepth 100000 in
set_option maxHeartbeats 1600000 in
theorem dropFile_implC (g len cap : Nat) (Pt Tx : Nat → ByteArray) (q : ByteArray) (w : World) (hf : FilesAt w (some ⟨g, 0, none⟩) g 0 len Pt Tx) (hl : len ≤ 1048576) (hp : ∀ j, j < len → (Pt j).size ≤ 1048576) (ht : ∀ j, j < len → (Tx j).size ≤ 1048576) (_ : q.size ≤ 1048576) :
    Calls Try.prog 26 #[.slice (some ⟨g, 0, none⟩) len cap, .string q] w fun e w' => ∃ a n c, e = .returned (.tuple #[.slice a n c, .bool (dropS len Pt Tx q).2]) ∧ OutF w' w.heap.size a n c (dropS len Pt Tx q).1 ∧ Below w.heap.size w w' := by
  have X0 : Hid ((w.alloc (.cells #[.string q] 9)).heap[w.heap.size]? = some (.cells #[.string q] 9 (0, 0))) := heap_alloc_new w _
  have A0 : Hid (Below w.heap.size w (w.alloc (.cells #[.string q] 9))) := (Below.refl _ _).alloc (Nat.le_refl _) _
  have HF := hidU hf
  have HP := hidU hp
  have HT := hidU ht
  clear hf hp ht
  cases hfb : filesB len Pt Tx with
  | false =>
    have HV : Hid (dropS len Pt Tx q = ([], false)) := by show dropS len Pt Tx q = _; rw [dropS, hfb]; rfl
    go_enter Try.func26, Try.ntmps26
    go_wp2_with fail
    refine (filesOk_implA _ g len cap Pt Tx _ (HF.out.later A0.out) hl HP.out HT.out).mono ?_
    rintro e w1 ⟨rfl, hb1⟩
    rw [hfb]
    have B1 := hidU (A0.out.trans (hb1.mono A0.out.size))
    clear hb1
    go_wp2
    go_ret2
    exact ⟨none, 0, 0, by rw [HV.out]; rfl, by rw [HV.out]; exact OutF.nil _ _ _ _, B1.out⟩
  | true =>
    have hl8 : len ≤ 8 := (filesB_iff.1 hfb).1
    have HV : Hid (dropS len Pt Tx q = (dropL (flsOf len Pt Tx) q, decide ((dropL (flsOf len Pt Tx) q).length < len))) := by show dropS len Pt Tx q = _; rw [dropS, hfb]; rfl
    go_enter Try.func26, Try.ntmps26
    go_wp2_with fail
    refine (filesOk_implA _ g len cap Pt Tx _ (HF.out.later A0.out) hl HP.out HT.out).mono ?_
    rintro e w1 ⟨rfl, hb1⟩
    rw [hfb]
    have B1 := hidU (A0.out.trans (hb1.mono A0.out.size))
    have X1 := hidU (boxF2_later X0.out hb1)
    clear hb1 X0 A0
    go_wp2_with fail
    refine (copyFiles_any _ g len cap Pt Tx _ (HF.out.later B1.out) (by omega) HP.out HT.out).mono ?_
    rintro e w2 ⟨g2, cap2, rfl, ho2, hb2⟩
    have B2 := hidU (B1.out.trans (hb2.mono B1.out.size))
    have X2 := hidU (boxF2_later X1.out hb2)
    have hne : Hid (w.heap.size ≠ g2) := by
      have h1 := (Array.getElem?_eq_some_iff.1 X1.out).1
      have h2 := (ownFl_blk ho2).1
      show _ ≠ _
      omega
    have O2 := hidU (ownFl_low ho2 B1.out.size)
    clear hb2 ho2 X1
    go_wp2_with fail
    refine (deleteF_any w.heap.size g2 len cap2 w.heap.size _ q _ O2.out X2.out hne.out B2.out.size (by omega)).mono ?_
    rintro e w3 ⟨m, rfl, ho3, hb3⟩
    have O3 := hidU ho3
    have B3 := hidU (B2.out.trans hb3)
    have HM : Hid (dropS len Pt Tx q = (dropL (flsOf len Pt Tx) q, decide (m < len))) := by
      show _ = _
      rw [HV.out, ho3.2]
    clear ho3 hb3 O2 X2 hne HV
    go_wp2
    go_ret2
    exact ⟨_, m, cap2, by rw [HM.out]; rfl, by rw [HM.out]; exact OutF.own O3.out, B3.out⟩
theorem dropFile_impl (g len : Nat) (Pt Tx : Nat → ByteArray) (q : ByteArray) (w : World) (hf : FilesAt w (some ⟨g, 0, none⟩) g 0 len Pt Tx) (hl : len ≤ 1048576) (hp : ∀ j, j < len → (Pt j).size ≤ 1048576) (ht : ∀ j, j < len → (Tx j).size ≤ 1048576) (hq : q.size ≤ 1048576) :
    Calls Try.prog 26 #[.slice (some ⟨g, 0, none⟩) len len, .string q] w fun e w' => ∃ a n c, e = .returned (.tuple #[.slice a n c, .bool (dropS len Pt Tx q).2]) ∧ OutF w' w.heap.size a n c (dropS len Pt Tx q).1 ∧ Below w.heap.size w w' := dropFile_implC g len len Pt Tx q w hf hl hp ht hq
end Go.Proofs.Ytdbpknmoacjodaa
namespace Go.Proofs.Ytdbpknmoacjodaa
open Go.RowKit Go.PlainAid

def eqF (p t q u : ByteArray) : Bool := (p.toList == q.toList) && (t.toList == u.toList)
theorem eqF_iff {p t q u : ByteArray} : eqF p t q u = true ↔ p = q ∧ t = u := by
  unfold eqF
  rw [Bool.and_eq_true, toList_eq_iff, toList_eq_iff]
def hasF (fs : List Fl) (x : Fl) : Bool := fs.any fun y => eqF x.1 x.2 y.1 y.2
theorem hasF_iff {fs : List Fl} {x : Fl} : hasF fs x = true ↔ x ∈ fs := by
  unfold hasF
  rw [List.any_eq_true]
  constructor
  · rintro ⟨y, hy, h⟩
    obtain ⟨h1, h2⟩ := eqF_iff.1 h
    have : x = y := Prod.ext h1 h2
    rw [this]
    exact hy
  · intro h
    exact ⟨x, h, eqF_iff.2 ⟨rfl, rfl⟩⟩
def missL (l wanted : List Fl) : List Fl := wanted.filter fun x => !hasF l x
def RisT (xs : List ByteArray) : Prop := xs.Pairwise fun x y => lessT x y = true
theorem lessT_trans {a b c : ByteArray} (h : lessT a b = true) (k : lessT b c = true) : lessT a c = true := less_trans _ _ _ h k
theorem lessT_ne {a b : ByteArray} (h : lessT a b = true) : a ≠ b := less_ne h
theorem lessT_tri (a b : ByteArray) : lessT a b = true ∨ a = b ∨ lessT b a = true := by
  rcases less_tri a.toList b.toList with h | h | h
  · exact .inl h
  · exact .inr (.inl ((toList_eq_iff _ _).1 (by rw [h]; exact beq_self_eq_true _)))
  · exact .inr (.inr h)
theorem inT_iff {l : List ByteArray} {s : ByteArray} : inT l s = true ↔ s ∈ l := by
  constructor
  · intro h
    obtain ⟨x, hx, e⟩ := List.any_eq_true.1 h
    rw [← (toList_eq_iff _ _).1 e]
    exact hx
  · intro h
    exact List.any_eq_true.2 ⟨s, h, (toList_eq_iff _ _).2 rfl⟩
theorem insT_in (s : ByteArray) : ∀ (l : List ByteArray) (x : ByteArray), x ∈ insT s l ↔ x = s ∨ x ∈ l := by
  intro l
  induction l with
  | nil => intro x; simp [insT]
  | cons y l ih =>
    intro x
    rw [insT]
    split
    · simp
    · rw [List.mem_cons, ih x, List.mem_cons]
      constructor
      · rintro (h | h | h)
        · exact .inr (.inl h)
        · exact .inl h
        · exact .inr (.inr h)
      · rintro (h | h | h)
        · exact .inr (.inl h)
        · exact .inl h
        · exact .inr (.inr h)
theorem putT_in {l : List ByteArray} {s x : ByteArray} : x ∈ putT l s ↔ x = s ∨ x ∈ l := by
  unfold putT
  split
  · next h =>
    constructor
    · exact .inr
    · rintro (rfl | h')
      · exact inT_iff.1 h
      · exact h'
  · exact insT_in s l x
theorem insT_ris (s : ByteArray) : ∀ l : List ByteArray, RisT l → s ∉ l → RisT (insT s l) := by
  intro l
  induction l with
  | nil => intro _ _; exact List.pairwise_cons.2 ⟨fun y hy => (by cases hy), List.Pairwise.nil⟩
  | cons y l ih =>
    intro h hs
    obtain ⟨h1, h2⟩ := List.pairwise_cons.1 h
    rw [insT]
    split
    · next hl =>
      refine List.pairwise_cons.2 ⟨fun z hz => ?_, h⟩
      rcases List.mem_cons.1 hz with rfl | hz
      · exact hl
      · exact lessT_trans hl (h1 z hz)
    · next hl =>
      refine List.pairwise_cons.2 ⟨fun z hz => ?_, ih h2 fun e => hs (List.mem_cons_of_mem _ e)⟩
      rcases (insT_in s l z).1 hz with rfl | hz
      · rcases lessT_tri y z with g | g | g
        · exact g
        · exact absurd (by rw [g]; simp) hs
        · exact absurd g hl
      · exact h1 z hz
theorem putT_ris {l : List ByteArray} (s : ByteArray) (h : RisT l) : RisT (putT l s) := by
  unfold putT
  split
  · exact h
  · next hn => exact insT_ris s l h fun e => hn (inT_iff.2 e)
theorem insT_at (s : ByteArray) : ∀ A B : List ByteArray, (∀ y ∈ A, lessT y s = true) → (∀ y ∈ B, lessT s y = true) → insT s (A ++ B) = A ++ s :: B := by
  intro A
  induction A with
  | nil =>
    intro B _ hB
    cases B with
    | nil => rfl
    | cons y B => rw [List.nil_append, insT, if_pos (hB y (by simp))]; rfl
  | cons y A ih =>
    intro B hA hB
    have h1 : lessT s y = false := less_not (hA y (by simp))
    rw [List.cons_append, insT, h1, ih B (fun z hz => hA z (by simp [hz])) hB]
    rfl
theorem putT_has {l : List ByteArray} {s : ByteArray} (h : s ∈ l) : putT l s = l := by
  unfold putT
  rw [if_pos (inT_iff.2 h)]
theorem chA_is {b : List Fl} (hb : filesB b.length (ptOf b) (txOf b) = true) (out : List ByteArray) (x : Fl) : chA b.length (ptOf b) (txOf b) out x = if hasF b x then out else putT out x.1 := by
  unfold chA
  cases h : hasF b x with
  | true =>
    have := find_in hb (hasF_iff.1 h)
    unfold findF at this
    rw [this]
    simp
  | false =>
    have hn : x ∉ b := fun e => by rw [hasF_iff.2 e] at h; cases h
    by_cases hy : ∃ y ∈ b, y.1 = x.1
    · obtain ⟨y, hy, e⟩ := hy
      have hf := find_in hb hy
      unfold findF at hf
      rw [e] at hf
      rw [hf]
      have h2 : y.2 ≠ x.2 := fun e2 => hn (by rw [← Prod.ext e e2]; exact hy)
      rw [beq_no h2]
      rfl
    · have hf := find_out (fs := b) (q := x.1) (fun y h1 h2 => hy ⟨y, h1, h2⟩)
      unfold findF at hf
      rw [hf]
      rfl
theorem foldA {b : List Fl} (hb : filesB b.length (ptOf b) (txOf b) = true) : ∀ (a : List Fl) (out : List ByteArray), a.foldl (chA b.length (ptOf b) (txOf b)) out = ((missL b a).map Prod.fst).foldl putT out := by
  intro a
  induction a with
  | nil => intro _; rfl
  | cons x a ih =>
    intro out
    rw [List.foldl_cons, chA_is hb, ih]
    unfold missL
    rw [List.filter_cons]
    cases h : hasF b x
    · rfl
    · rfl
theorem fold_in : ∀ (l out : List ByteArray) (x : ByteArray), x ∈ l.foldl putT out ↔ x ∈ l ∨ x ∈ out := by
  intro l
  induction l with
  | nil => intro out x; simp
  | cons y l ih =>
    intro out x
    rw [List.foldl_cons, ih, putT_in, List.mem_cons]
    constructor
    · rintro (h | h | h)
      · exact .inl (.inr h)
      · exact .inl (.inl h)
      · exact .inr h
    · rintro ((h | h) | h)
      · exact .inr (.inl h)
      · exact .inl h
      · exact .inr (.inr h)
theorem foldB {a : List Fl} (ha : filesB a.length (ptOf a) (txOf a) = true) : ∀ (l : List Fl) (out : List ByteArray), (∀ y ∈ l, hasF a y = false → (∃ z ∈ a, z.1 = y.1) → y.1 ∈ out) → l.foldl (chB a.length (ptOf a) (txOf a)) out = ((missL a l).map Prod.fst).foldl putT out := by
  intro l
  induction l with
  | nil => intro _ _; rfl
  | cons x l ih =>
    intro out h
    rw [List.foldl_cons]
    unfold missL at ih ⊢
    rw [List.filter_cons]
    have e : chB a.length (ptOf a) (txOf a) out x = if hasF a x then out else putT out x.1 := by
      unfold chB
      by_cases hy : ∃ z ∈ a, z.1 = x.1
      · obtain ⟨z, hz, e1⟩ := hy
        have hf := find_in ha hz
        unfold findF at hf
        rw [e1] at hf
        rw [hf]
        cases hx : hasF a x with
        | true => rfl
        | false => exact (putT_has (h x (by simp) hx ⟨z, hz, e1⟩)).symm
      · have hf := find_out (fs := a) (q := x.1) (fun y h1 h2 => hy ⟨y, h1, h2⟩)
        unfold findF at hf
        have hx : hasF a x = false := by
          cases hx : hasF a x with
          | false => rfl
          | true => exact absurd ⟨x, hasF_iff.1 hx, rfl⟩ hy
        rw [hf, hx]
        rfl
    rw [e]
    cases hx : hasF a x with
    | true =>
      exact ih out fun y hy h1 h2 => h y (by simp [hy]) h1 h2
    | false =>
      exact ih (putT out x.1) fun y hy h1 h2 => putT_in.2 (.inr (h y (by simp [hy]) h1 h2))
theorem changed_same {a b : List Fl} (ha : filesB a.length (ptOf a) (txOf a) = true) (hb : filesB b.length (ptOf b) (txOf b) = true) : changedF a b = ((missL b a ++ missL a b).map Prod.fst).foldl putT [] := by
  unfold changedF
  rw [foldA hb, foldB ha, List.map_append, List.foldl_append]
  intro y hy h1 h2
  obtain ⟨z, hz, e⟩ := h2
  refine (fold_in _ _ _).2 (.inl (List.mem_map.2 ⟨z, ?_, e⟩))
  refine List.mem_filter.2 ⟨hz, ?_⟩
  cases h3 : hasF b z with
  | false => rfl
  | true =>
    have f1 := find_in hb (hasF_iff.1 h3)
    have f2 := find_in hb hy
    rw [e, f2] at f1
    have : y = z := Prod.ext e.symm (congrArg Prod.fst f1)
    rw [this, hasF_iff.2 hz] at h1
    cases h1
end Go.Proofs.Ytdbpknmoacjodaa
namespace Go.Proofs.Ytdbpknmoacjodaa
open Go.RowKit Go.PlainAid Go.Sort

def EqlC : Prop := ∀ (p t q u : ByteArray) (W : World), Sem.run Try.prog (binOp .eql 52 (.agg #[.string p, .string t]) (.agg #[.string q, .string u])) W = .ok (.bool (eqF p t q u)) W
def GrdC : Prop := ∀ (op : BinOp) (a b : Operand) (p t q u : ByteArray) (W : World), Sem.run Try.prog (eqGuard op 52 a b (.agg #[.string p, .string t]) (.agg #[.string q, .string u])) W = .ok () W
theorem boxM_later {w W : World} {gx : Nat} {o : Obj} (h : w.heap[gx]? = some o) (hb : Below w.heap.size w W) : W.heap[gx]? = some o := (hb.block gx (Array.getElem?_eq_some_iff.1 h).1).trans h
theorem has_snoc {len k : Nat} {Pt Tx : Nat → ByteArray} {x : Fl} (h : k < len) : hasF ((flsOf len Pt Tx).take (k + 1)) x = (hasF ((flsOf len Pt Tx).take k) x || eqF x.1 x.2 (Pt k) (Tx k)) := by
  rw [take_snoc (flsOf_at h)]
  unfold hasF
  rw [List.any_append]
  simp
theorem has_more {fs : List Fl} {x : Fl} {k : Nat} (h : hasF (fs.take k) x = true) : hasF fs x = true := hasF_iff.2 (List.mem_of_mem_take (hasF_iff.1 h))
set_option maxRecDepth 100000 in
set_option maxHeartbeats 1600000 in
theorem indexEq_with (heq : EqlC) (hgd : GrdC) (g len cap : Nat) (Pt Tx : Nat → ByteArray) (p t : ByteArray) (w : World) (hf : FilesAt w (some ⟨g, 0, none⟩) g 0 len Pt Tx) (hl : len ≤ 1000) :
    Calls Try.prog 186 #[.slice (some ⟨g, 0, none⟩) len cap, .agg #[.string p, .string t]] w fun e w' => (∃ k : Int, e = .returned (.int .i64 k) ∧ decide (0 ≤ k) = hasF (flsOf len Pt Tx) (p, t)) ∧ Below w.heap.size w w' := by
  have HF := hidU hf
  have X0 : Hid ((w.alloc (.cells #[.string p, .string t] 52)).heap[w.heap.size]? = some (.cells #[.string p, .string t] 52 (0, 0))) := heap_alloc_new w _
  have A0 : Hid (Below w.heap.size w (w.alloc (.cells #[.string p, .string t] 52))) := (Below.refl _ _).alloc (Nat.le_refl _) _
  unfold EqlC at heq
  unfold GrdC at hgd
  clear hf
  go_enter Try.func186, Try.ntmps186
  go_wp2
  go_loopw [8, 5] (fun i _ wr => ∃ k : Nat, k ≤ len ∧ i = .int .i64 k ∧ Hid (hasF ((flsOf len Pt Tx).take k) (p, t) = false) ∧ Hid (wr.heap[w.heap.size]? = some (.cells #[.string p, .string t] 52 (0, 0))) ∧ Hid (Below w.heap.size w wr)) (fun i _ _ => (len - intOf i).toNat)
  case atStart => exact ⟨0, Nat.zero_le _, rfl, hidU rfl, X0, A0⟩
  case round =>
    obtain ⟨k, hk, rfl, HN, X, B⟩ := hrel
    clear X0 A0
    by_cases hlt : k < len
    · have hf' := HF.out.later B.out
      have c0 := hf'.path k hlt
      have c1 := hf'.text k hlt
      rw [Nat.zero_add] at c0 c1
      have b0 : wr.cell? ⟨w.heap.size, 0, none⟩ = some (.string p) := by simp [World.cell?, X.out]
      have b1 : wr.cell? ⟨w.heap.size, 1, none⟩ = some (.string t) := by simp [World.cell?, X.out]
      have HS := hidU (has_snoc (Pt := Pt) (Tx := Tx) (x := (p, t)) hlt)
      clear hf'
      cases he : eqF p t (Pt k) (Tx k) with
      | true =>
        have HV : Hid (hasF (flsOf len Pt Tx) (p, t) = true) := has_more (k := k + 1) (by rw [HS.out]; show (_ || eqF p t (Pt k) (Tx k)) = true; rw [he, Bool.or_true])
        go_wp2
        go_region
        all_goals
          go_wp2
          go_ret
          exact ⟨⟨(k : Int), rfl, by rw [HV.out]; exact decide_eq_true (by omega)⟩, B.out.drew⟩
      | false =>
        have HX : Hid (hasF ((flsOf len Pt Tx).take (k + 1)) (p, t) = false) := by show _ = _; rw [HS.out, HN.out]; exact he
        go_wp2
        go_region
        all_goals
          go_wp2
          go_roundw
          case rel => exact ⟨k + 1, hlt, by go_num, HX, X, hidU B.out.drew⟩
          case measure => simp [intOf]; omega
    · have HV : Hid (hasF (flsOf len Pt Tx) (p, t) = false) := by
        have h := HN.out
        rw [List.take_of_length_le (by rw [flsOf_len]; omega)] at h
        exact h
      go_wp2
      go_ret
      exact ⟨⟨-1, rfl, by rw [HV.out]; rfl⟩, B.out⟩
set_option maxRecDepth 100000 in
theorem contains_with (heq : EqlC) (hgd : GrdC) (g len cap : Nat) (Pt Tx : Nat → ByteArray) (p t : ByteArray) (w : World) (hf : FilesAt w (some ⟨g, 0, none⟩) g 0 len Pt Tx) (hl : len ≤ 1000) :
    Calls Try.prog 154 #[.slice (some ⟨g, 0, none⟩) len cap, .agg #[.string p, .string t]] w fun e w' => e = .returned (.bool (hasF (flsOf len Pt Tx) (p, t))) ∧ Below w.heap.size w w' := by
  have A0 : Hid (Below w.heap.size w (w.alloc (.cells #[.string p, .string t] 52))) := (Below.refl _ _).alloc (Nat.le_refl _) _
  have F0 := hidU (hf.later A0.out)
  clear hf
  go_enter Try.func154, Try.ntmps154
  go_wp2_with fail
  refine (indexEq_with heq hgd g len cap Pt Tx p t _ F0.out hl).mono ?_
  rintro e w1 ⟨⟨k, rfl, hk⟩, hb1⟩
  have HK := hidU hk
  have B1 := hidU (A0.out.trans (hb1.mono A0.out.size))
  clear hk hb1
  go_wp2
  go_ret
  exact ⟨ret_bool HK.out, B1.out⟩
theorem miss_snoc {L : List Fl} {len k : Nat} {Pt Tx : Nat → ByteArray} (h : k < len) : missL L ((flsOf len Pt Tx).take (k + 1)) = missL L ((flsOf len Pt Tx).take k) ++ if hasF L (Pt k, Tx k) then [] else [(Pt k, Tx k)] := by
  rw [take_snoc (flsOf_at h)]
  unfold missL
  rw [List.filter_append]
  congr 1
  cases hx : hasF L (Pt k, Tx k) <;> simp [hx]
theorem missL_len (L l : List Fl) : (missL L l).length ≤ l.length := List.length_filter_le _ _
set_option maxRecDepth 100000 in
set_option maxHeartbeats 1600000 in
theorem missing_with (heq : EqlC) (hgd : GrdC) (g1 l1 c1 : Nat) (P1 T1 : Nat → ByteArray) (g2 l2 c2 : Nat) (P2 T2 : Nat → ByteArray) (w : World) (hf1 : FilesAt w (some ⟨g1, 0, none⟩) g1 0 l1 P1 T1) (hf2 : FilesAt w (some ⟨g2, 0, none⟩) g2 0 l2 P2 T2) (hl1 : l1 ≤ 1000) (hl2 : l2 ≤ 1000) :
    Calls Try.prog 94 #[.slice (some ⟨g1, 0, none⟩) l1 c1, .slice (some ⟨g2, 0, none⟩) l2 c2] w fun e w' => ∃ g n cap, e = .returned (.slice (some ⟨g, 0, none⟩) n cap) ∧ OwnFl w' w.heap.size 52 g n cap (missL (flsOf l1 P1 T1) (flsOf l2 P2 T2)) ∧ Below w.heap.size w w' := by
  obtain ⟨i0, hi, hz0, hz1, hz2⟩ := info_parts Try.infoFile
  have H1 := hidU hf1
  have H2 := hidU hf2
  have HQ := hidU (heq)
  have HG := hidU (hgd)
  have O0 := hidU (ownFl_nil w 52)
  have B0 : Hid (Below w.heap.size w (w.alloc (.cells #[] 52))) := (Below.refl _ _).alloc (Nat.le_refl _) _
  clear hf1 hf2 heq hgd
  go_enter Try.func94, Try.ntmps94
  go_wp2
  go_loopw [11, 5, 7] (fun i o _ wr => ∃ (k g n cap : Nat), k ≤ l2 ∧ i = .int .i64 k ∧ o = .slice (some ⟨g, 0, none⟩) n cap ∧ Hid (OwnFl wr w.heap.size 52 g n cap (missL (flsOf l1 P1 T1) ((flsOf l2 P2 T2).take k))) ∧ Hid (Below w.heap.size w wr)) (fun i _ _ _ => (l2 - intOf i).toNat)
  case atStart => exact ⟨0, w.heap.size, 0, 0, Nat.zero_le _, rfl, rfl, O0, B0⟩
  case round =>
    clear O0 B0
    obtain ⟨k, g, n, cap, hk, rfl, rfl, O, B⟩ := hrel
    by_cases hlt : k < l2
    · have hf' := H2.out.later B.out
      have x0 := hf'.path k hlt
      have x1 := hf'.text k hlt
      rw [Nat.zero_add] at x0 x1
      have hn : n ≤ 1000 := by
        rw [O.out.2]
        refine Nat.le_trans (missL_len _ _) ?_
        rw [List.length_take, flsOf_len]
        omega
      have W0 : Hid (PutW w (wr.alloc (.cells #[.string (P2 k), .string (T2 k)] 52)) 52 g n cap (missL (flsOf l1 P1 T1) ((flsOf l2 P2 T2).take k)) wr.heap.size (P2 k, T2 k)) := ⟨ownFl_later O.out ((Below.refl _ _).alloc (Nat.le_refl _) _), heap_alloc_new wr _, Nat.ne_of_lt (ownFl_blk O.out).2, B.out.alloc B.out.size _⟩
      have HS := hidU (miss_snoc (L := flsOf l1 P1 T1) (Pt := P2) (Tx := T2) hlt)
      have F1 := hidU (H1.out.later W0.out.bel)
      clear hf' O B
      go_wp2_with fail
      refine (contains_with HQ.out HG.out g1 l1 c1 P1 T1 (P2 k) (T2 k) _ F1.out hl1).mono ?_
      rintro e w2 ⟨rfl, hb2⟩
      have W2 := hidU (W0.out.later hb2)
      obtain ⟨b0, b1, b2⟩ := W2.out.cells
      clear hb2 W0 F1 x0 x1
      cases hh : hasF (flsOf l1 P1 T1) (P2 k, T2 k) with
      | true =>
        have HE : Hid (missL (flsOf l1 P1 T1) ((flsOf l2 P2 T2).take (k + 1)) = missL (flsOf l1 P1 T1) ((flsOf l2 P2 T2).take k)) := by show _ = _; rw [HS.out, hh]; simp
        go_wp2
        go_roundw
        case rel => exact ⟨k + 1, g, n, cap, hlt, by go_num, rfl, hidU (by rw [HE.out]; exact W2.out.out), hidU W2.out.bel⟩
        case measure => simp [intOf]; omega
      | false =>
        have HE : Hid (missL (flsOf l1 P1 T1) ((flsOf l2 P2 T2).take (k + 1)) = missL (flsOf l1 P1 T1) ((flsOf l2 P2 T2).take k) ++ [(P2 k, T2 k)]) := by show _ = _; rw [HS.out, hh]; rfl
        go_wp2_with (at_builtin; refine app_file w2 rfl _ _ 48 rfl w.heap.size 52 i0 _ Try.underlying48 hi hz0 hz1 hz2 rfl g n cap _ (by rfl) W2.out.out (P2 k, T2 k) (by rfl) (by omega) ?_; intro g3 cap3 w3 ho3 hg3 hat3)
        go_roundw
        case rel => exact ⟨k + 1, g3, n + 1, cap3, hlt, by go_num, rfl, hidU (by rw [HE.out]; exact ho3), hidU (W2.out.bel.grown hg3 W2.out.bel.size (fun j hj => by cases hj; exact (ownFl_blk W2.out.out).1))⟩
        case measure => simp [intOf]; omega
    · have HE : Hid ((flsOf l2 P2 T2).take k = flsOf l2 P2 T2) := List.take_of_length_le (by rw [flsOf_len]; omega)
      go_wp2
      go_ret
      exact ⟨g, n, cap, rfl, by have := O.out; rw [HE.out] at this; exact this, B.out⟩
end Go.Proofs.Ytdbpknmoacjodaa
namespace Go.Proofs.Ytdbpknmoacjodaa
open Go.RowKit Go.PlainAid Go.Sort

theorem addS_at (b o j : Nat) : (⟨b, o, none⟩ : Addr).add j = ⟨b, o + j, none⟩ := by simp [Addr.add]
def tOf (xs : List ByteArray) (j : Nat) : ByteArray := xs.getD j { data := #[] }
theorem tOf_at {xs : List ByteArray} {j : Nat} (h : j < xs.length) : xs[j]? = some (tOf xs j) := by simp [tOf, List.getD, List.getElem?_eq_getElem h]
theorem rowS_part {w : World} {g : Nat} {xs : List ByteArray} (hf : TextsAt w (some ⟨g, 0, none⟩) g xs.length (tOf xs)) (ad : Addr) (k n cap : Nat) (hk : k + n ≤ xs.length) (had : 0 < n → ad = ⟨g, k, none⟩) : (RowV.mk ad n cap (((xs.drop k).take n).map Value.string)).At w 1 := by
  have hlen : ((xs.drop k).take n).length = n := by rw [List.length_take, List.length_drop]; omega
  refine ⟨by rw [List.length_map, hlen, Nat.mul_one], fun j u hj => ?_, fun u hu => ?_⟩
  · have hjn : j < n := by
      have := (List.getElem?_eq_some_iff.1 hj).1
      rw [List.length_map, hlen] at this
      exact this
    rw [had (by omega), addS_at]
    rw [List.getElem?_map, List.getElem?_take_of_lt hjn, List.getElem?_drop, tOf_at (by omega)] at hj
    cases hj
    exact hf.cell (k + j) (by omega)
  · obtain ⟨x, _, rfl⟩ := List.mem_map.1 hu
    rfl
theorem rowS_box {w : World} {gx : Nat} {e : TypeId} {p : ByteArray} (h : w.heap[gx]? = some (.cells #[.string p] e (0, 0))) : (RowV.mk ⟨gx, 0, none⟩ 1 1 [.string p]).At w 1 := by
  refine ⟨rfl, fun j u hj => ?_, fun u hu => by simp at hu; rw [hu]; rfl⟩
  rw [addS_at, Nat.zero_add]
  match j, hj with
  | 0, hj => cases hj; simp [World.cell?, h]
theorem ris_monoT {xs : List ByteArray} (h : RisT xs) (q : ByteArray) : Mono xs.length (tOf xs) q := by
  intro a b hab hbl hl
  rcases Nat.eq_or_lt_of_le hab with rfl | hlt
  · exact hl
  · unfold RisT at h
    rw [List.pairwise_iff_getElem] at h
    have h1 := h a b (by omega) hbl hlt
    have ea : tOf xs a = xs[a] := by simp [tOf, List.getD, List.getElem?_eq_getElem (show a < xs.length by omega)]
    have eb : tOf xs b = xs[b] := by simp [tOf, List.getD, List.getElem?_eq_getElem hbl]
    rw [ea]
    rw [eb] at hl
    exact lessT_trans h1 hl
theorem putT_found {xs : List ByteArray} {p : ByteArray} {k : Nat} {b : Bool} (hr : RisT xs) (h : FoundAt xs.length (tOf xs) p k b) : putT xs p = xs.take k ++ p :: xs.drop (if b then k + 1 else k) := by
  obtain ⟨hk, h1, h2, h3⟩ := h
  have et : ∀ j, (hj : j < xs.length) → tOf xs j = xs[j] := fun j hj => by simp [tOf, List.getD, List.getElem?_eq_getElem hj]
  have rs := hr
  unfold RisT at rs
  rw [List.pairwise_iff_getElem] at rs
  cases b with
  | true =>
    obtain ⟨hkl, hpk⟩ := h3.1 rfl
    rw [et k hkl] at hpk
    have hin : p ∈ xs := by rw [← hpk]; exact List.getElem_mem hkl
    rw [putT_has hin]
    simp only [if_true]
    rw [← hpk, ← List.drop_eq_getElem_cons hkl, List.take_append_drop]
  | false =>
    have hne : ∀ j, (hj : j < xs.length) → xs[j] ≠ p := fun j hj e => by
      rcases Nat.lt_or_ge j k with hjk | hjk
      · have := h1 j hjk
        rw [et j hj, e] at this
        exact lessT_ne this rfl
      · rcases Nat.eq_or_lt_of_le hjk with rfl | hlt
        · have := h3.2 ⟨hj, by rw [et k hj]; exact e⟩
          cases this
        · have h4 := rs k j (by omega) hj hlt
          have h5 := h2 k (Nat.le_refl _) (by omega)
          rw [et k (by omega), ← e, h4] at h5
          cases h5
    have hni : p ∉ xs := fun e => by
      obtain ⟨j, hj, e⟩ := List.getElem_of_mem e
      exact hne j hj e
    unfold putT
    rw [if_neg (fun e => hni (inT_iff.1 e))]
    have hd := insT_at p (xs.take k) (xs.drop k) (fun y hy => by
      obtain ⟨j, hj, rfl⟩ := List.getElem_of_mem hy
      rw [List.length_take] at hj
      rw [List.getElem_take]
      have := h1 j (by omega)
      rw [et j (by omega)] at this
      exact this) (fun y hy => by
      obtain ⟨j, hj, rfl⟩ := List.getElem_of_mem hy
      rw [List.length_drop] at hj
      rw [List.getElem_drop]
      have h5 := h2 (k + j) (by omega) (by omega)
      rw [et (k + j) (by omega)] at h5
      rcases lessT_tri xs[k + j] p with g | g | g
      · rw [g] at h5; cases h5
      · exact absurd g (hne (k + j) (by omega))
      · exact g)
    rw [List.take_append_drop] at hd
    exact hd
theorem cat3S_rows {W : World} {size : Nat} {r1 r2 r3 : RowV} (h1 : r1.At W size) (h2 : r2.At W size) (h3 : r3.At W size) : ∀ r ∈ [r1, r2, r3], r.At W size := by
  intro r hr
  rcases List.mem_cons.1 hr with rfl | hr
  · exact h1
  · rcases List.mem_cons.1 hr with rfl | hr
    · exact h2
    · rcases List.mem_cons.1 hr with rfl | hr
      · exact h3
      · cases hr
theorem ownV_s {w : World} {base n g cap : Nat} {e : TypeId} {vs : List Value} {xs : List ByteArray} (h : w.ownsRow base e 1 (.slice (some ⟨g, 0, none⟩) n cap) n vs) (hv : vs = xs.map Value.string) : OwnS w base e g n cap xs := by
  subst hv
  refine ⟨h, ?_⟩
  have := h.1
  rw [List.length_map, Nat.mul_one] at this
  omega
theorem concat_putS (g cap : Nat) (xs : List ByteArray) (p : ByteArray) (k m nb cb : Nat) (ad : Addr) (w : World) (hf : TextsAt w (some ⟨g, 0, none⟩) g xs.length (tOf xs)) (hl : xs.length ≤ 100) (hk : k ≤ xs.length) (hm : m + nb = xs.length) (had : 0 < nb → ad = ⟨g, m, none⟩) :
    Calls Try.prog 156 #[.slice (some ⟨w.heap.size + 1, 0, none⟩) 3 3] ((w.alloc (.cells #[.string p] 9)).alloc (.cells #[.slice (some ⟨g, 0, none⟩) k cap, .slice (some ⟨w.heap.size, 0, none⟩) 1 1, .slice (some ad) nb cb] 22)) fun e w' => ∃ g' n cap', e = .returned (.slice (some ⟨g', 0, none⟩) n cap') ∧ OwnS w' w.heap.size 9 g' n cap' (xs.take k ++ p :: xs.drop m) ∧ Below w.heap.size w w' := by
  have e1 : (w.alloc (.cells #[.string p] 9)).heap.size = w.heap.size + 1 := by show (w.heap.push _).size = _; simp
  have hb1 : Below w.heap.size w (w.alloc (.cells #[.string p] 9)) := (Below.refl _ _).alloc (Nat.le_refl _) _
  have hb2 : Below w.heap.size w ((w.alloc (.cells #[.string p] 9)).alloc (.cells #[.slice (some ⟨g, 0, none⟩) k cap, .slice (some ⟨w.heap.size, 0, none⟩) 1 1, .slice (some ad) nb cb] 22)) := hb1.alloc (by omega) _
  have hx : ((w.alloc (.cells #[.string p] 9)).alloc (.cells #[.slice (some ⟨g, 0, none⟩) k cap, .slice (some ⟨w.heap.size, 0, none⟩) 1 1, .slice (some ad) nb cb] 22)).heap[w.heap.size]? = some (.cells #[.string p] 9 (0, 0)) := (heap_alloc_old _ _ (by omega)).trans (heap_alloc_new w _)
  have hg := heap_alloc_new (w.alloc (.cells #[.string p] 9)) (.cells #[.slice (some ⟨g, 0, none⟩) k cap, .slice (some ⟨w.heap.size, 0, none⟩) 1 1, .slice (some ad) nb cb] 22)
  rw [e1] at hg
  have hrows := cat3S_rows (rowS_part (hf.later hb2) ⟨g, 0, none⟩ 0 k cap (by omega) (fun _ => rfl)) (rowS_box hx) (rowS_part (hf.later hb2) ad m nb cb (by omega) had)
  refine (concatS_any (w.heap.size + 1) _ _ hg hrows (by show 3 ≤ 1000; omega) (by show k + (1 + (nb + 0)) ≤ 1000; omega)).mono ?_
  rintro e w' ⟨v, rfl, ho, hb, hv⟩
  obtain ⟨g', cap', rfl⟩ := hv (by show 0 < k + (1 + (nb + 0)); omega)
  have hb' := hb2.trans (hb.mono hb2.size)
  refine ⟨g', _, cap', rfl, ownS_low (ownV_s ho ?_) hb2.size, hb'⟩
  show (((xs.drop 0).take k).map Value.string) ++ ([.string p] ++ (((xs.drop m).take nb).map Value.string ++ [])) = _
  rw [List.map_append, List.map_cons, List.append_nil, List.drop_zero, List.take_of_length_le (l := xs.drop m) (by rw [List.length_drop]; omega)]
  rfl
set_option maxRecDepth 100000 in
set_option maxHeartbeats 3200000 in
theorem putRowS_any (g cap : Nat) (xs : List ByteArray) (p : ByteArray) (w : World) (hf : TextsAt w (some ⟨g, 0, none⟩) g xs.length (tOf xs)) (hr : RisT xs) (hl : xs.length ≤ 100) (hcap : xs.length ≤ cap) :
    Calls Try.prog 95 #[.slice (some ⟨g, 0, none⟩) xs.length cap, .string p, .func (.func 96) #[] #[]] w fun e w' => ∃ g' n cap', e = .returned (.slice (some ⟨g', 0, none⟩) n cap') ∧ OwnS w' w.heap.size 9 g' n cap' (putT xs p) ∧ Below w.heap.size w w' := by
  have HR := hidU hr
  have HF := hidU hf
  obtain ⟨len, hlen⟩ : ∃ len, xs.length = len := ⟨_, rfl⟩
  have HL := hidU hlen
  rw [hlen] at hl hcap ⊢
  clear hf hr hlen
  go_enter Try.func95, Try.ntmps95
  go_wp2_with fail
  have hsr := searchS_any g xs.length cap (tOf xs) p w HF.out (by rw [HL.out]; omega) (ris_monoT HR.out p)
  rw [HL.out] at hsr
  refine hsr.mono ?_
  rintro e w1 ⟨k, b, rfl, hfa, hb1⟩
  clear hsr
  have hkl : k ≤ len := hfa.1
  have FB := hidU hfa.2.2.2
  rw [← HL.out] at hfa
  have FA := hidU (putT_found HR.out hfa)
  have B1 := hidU hb1
  have F1 := hidU (HF.out.later B1.out)
  clear hfa hb1
  have hkc : (k : Int) ≤ (cap : Int) := by omega
  cases b with
  | false =>
    have FA2 : Hid (putT xs p = xs.take k ++ p :: xs.drop k) := FA.out
    clear FA FB HR HF
    go_wp2_with fail
    · have hz : ¬ 0 < len - k := by omega
      refine (concat_putS g _ xs p k k (len - k) _ _ w1 F1.out (by rw [HL.out]; omega) (by rw [HL.out]; omega) (by rw [HL.out]; omega) (fun h => absurd h hz)).mono ?_
      rintro e w3 ⟨g3, n3, cap3, rfl, ho3, hb3⟩
      have O3 := hidU (ownS_low ho3 B1.out.size)
      have B3 := hidU (B1.out.trans (hb3.mono B1.out.size))
      clear ho3 hb3
      go_wp2
      go_ret
      exact ⟨g3, n3, cap3, rfl, by rw [FA2.out]; exact O3.out, B3.out⟩
    · refine (concat_putS g _ xs p k k (len - k) _ _ w1 F1.out (by rw [HL.out]; omega) (by rw [HL.out]; omega) (by rw [HL.out]; omega) (fun _ => rfl)).mono ?_
      rintro e w3 ⟨g3, n3, cap3, rfl, ho3, hb3⟩
      have O3 := hidU (ownS_low ho3 B1.out.size)
      have B3 := hidU (B1.out.trans (hb3.mono B1.out.size))
      clear ho3 hb3
      go_wp2
      go_ret
      exact ⟨g3, n3, cap3, rfl, by rw [FA2.out]; exact O3.out, B3.out⟩
  | true =>
    have FA2 : Hid (putT xs p = xs.take k ++ p :: xs.drop (k + 1)) := FA.out
    have hk1 : k < len := (FB.out.1 rfl).1
    have hcn : ¬ cap = k := by omega
    have hc1 : (1 : Int) ≤ ((cap - k : Nat) : Int) := by omega
    have hc2 : (1 : Int) ≤ ((len - k : Nat) : Int) := by omega
    clear FA FB HR HF
    go_wp2_with fail
    · have hz : ¬ 0 < len - k - 1 := by omega
      refine (concat_putS g _ xs p k (k + 1) (len - k - 1) _ _ w1 F1.out (by rw [HL.out]; omega) (by rw [HL.out]; omega) (by rw [HL.out]; omega) (fun h => absurd h hz)).mono ?_
      rintro e w3 ⟨g3, n3, cap3, rfl, ho3, hb3⟩
      have O3 := hidU (ownS_low ho3 B1.out.size)
      have B3 := hidU (B1.out.trans (hb3.mono B1.out.size))
      clear ho3 hb3
      go_wp2
      go_ret
      exact ⟨g3, n3, cap3, rfl, by rw [FA2.out]; exact O3.out, B3.out⟩
    · refine (concat_putS g _ xs p k (k + 1) (len - k - 1) _ _ w1 F1.out (by rw [HL.out]; omega) (by rw [HL.out]; omega) (by rw [HL.out]; omega) (fun _ => rfl)).mono ?_
      rintro e w3 ⟨g3, n3, cap3, rfl, ho3, hb3⟩
      have O3 := hidU (ownS_low ho3 B1.out.size)
      have B3 := hidU (B1.out.trans (hb3.mono B1.out.size))
      clear ho3 hb3
      go_wp2
      go_ret
      exact ⟨g3, n3, cap3, rfl, by rw [FA2.out]; exact O3.out, B3.out⟩
end Go.Proofs.Ytdbpknmoacjodaa
namespace Go.Proofs.Ytdbpknmoacjodaa
open Go.RowKit Go.PlainAid Go.Sort

theorem cat2_rows {W : World} {size : Nat} {r1 r2 : RowV} (h1 : r1.At W size) (h2 : r2.At W size) : ∀ r ∈ [r1, r2], r.At W size := by
  intro r hr
  rcases List.mem_cons.1 hr with rfl | hr
  · exact h1
  · rcases List.mem_cons.1 hr with rfl | hr
    · exact h2
    · cases hr
theorem ownFl_row {w : World} {base g n cap : Nat} {e : TypeId} {fs : List Fl} (h : OwnFl w base e g n cap fs) : (RowV.mk ⟨g, 0, none⟩ n cap (fs.flatMap flL)).At w 2 := by
  refine ⟨by rw [fl_flat_len, h.2], fun j u hj => h.1.cells (g := g) rfl j u hj, fl_one⟩
theorem ownV_out {w : World} {base n : Nat} {v : Value} {vs : List Value} {fs : List Fl} (h : w.ownsRow base 52 2 v n vs) (hv : vs = fs.flatMap flL) : ∃ a cap, v = .slice a n cap ∧ OutF w base a n cap fs := by
  subst hv
  have hl : n = fs.length := by
    have := h.1
    rw [fl_flat_len] at this
    omega
  rcases h.2 with ⟨rfl, rfl⟩ | ⟨g, cap, cur, rfl, hr⟩
  · refine ⟨none, 0, rfl, hl, fun h => absurd h (Nat.lt_irrefl _)⟩
  · exact ⟨some ⟨g, 0, none⟩, cap, rfl, hl, fun _ => ⟨g, rfl, ⟨h.1, .inr ⟨g, cap, cur, rfl, hr⟩⟩, hl⟩⟩
def pathsTo (L : List Fl) (k : Nat) : List ByteArray := ((L.take k).map Prod.fst).foldl putT []
theorem pathsTo_snoc {L : List Fl} {k : Nat} {x : Fl} (h : L[k]? = some x) : pathsTo L (k + 1) = putT (pathsTo L k) x.1 := by
  unfold pathsTo
  rw [take_snoc h, List.map_append, List.foldl_append]
  rfl
theorem pathsTo_ris (L : List Fl) : ∀ k, RisT (pathsTo L k) := by
  intro k
  induction k with
  | zero => exact List.Pairwise.nil
  | succ k ih =>
    rcases Nat.lt_or_ge k L.length with h | h
    · rw [pathsTo_snoc (List.getElem?_eq_getElem h)]
      exact putT_ris _ ih
    · have e : pathsTo L (k + 1) = pathsTo L k := by unfold pathsTo; rw [List.take_of_length_le (by omega), List.take_of_length_le h]
      rw [e]
      exact ih
theorem pathsTo_len (L : List Fl) : ∀ k, (pathsTo L k).length ≤ k := by
  intro k
  induction k with
  | zero => exact Nat.le_refl _
  | succ k ih =>
    rcases Nat.lt_or_ge k L.length with h | h
    · rw [pathsTo_snoc (List.getElem?_eq_getElem h)]
      exact Nat.le_trans (putT_len _ _) (by omega)
    · have e : pathsTo L (k + 1) = pathsTo L k := by unfold pathsTo; rw [List.take_of_length_le (by omega), List.take_of_length_le h]
      rw [e]
      omega
theorem ownS_nil (w : World) (e : TypeId) : OwnS (w.alloc (.cells #[] e)) w.heap.size e w.heap.size 0 0 [] := ⟨World.ownsRow_lit w #[] 0 (Nat.le_refl _) (by unfold maxLen; omega) rfl, rfl⟩
theorem ownS_tOf {w : World} {base g n cap : Nat} {e : TypeId} {xs : List ByteArray} (h : OwnS w base e g n cap xs) : TextsAt w (some ⟨g, 0, none⟩) g xs.length (tOf xs) := by
  have := ownS_texts h
  rw [h.2] at this
  exact this
theorem miss_mem {l a : List Fl} {x : Fl} (h : x ∈ missL l a) : x ∈ a := (List.mem_filter.1 h).1
theorem concat_two (g1 n1 c1 g2 n2 c2 base : Nat) (F1 F2 : List Fl) (w : World) (h1 : OwnFl w base 52 g1 n1 c1 F1) (h2 : OwnFl w base 52 g2 n2 c2 F2) (hn1 : n1 ≤ 100) (hn2 : n2 ≤ 100) :
    Calls Try.prog 93 #[.slice (some ⟨w.heap.size, 0, none⟩) 2 2] (w.alloc (.cells #[.slice (some ⟨g1, 0, none⟩) n1 c1, .slice (some ⟨g2, 0, none⟩) n2 c2] 48)) fun e w' => ∃ a n cap, e = .returned (.slice a n cap) ∧ OutF w' w.heap.size a n cap (F1 ++ F2) ∧ Below w.heap.size w w' := by
  have hb : Below w.heap.size w (w.alloc (.cells #[.slice (some ⟨g1, 0, none⟩) n1 c1, .slice (some ⟨g2, 0, none⟩) n2 c2] 48)) := (Below.refl _ _).alloc (Nat.le_refl _) _
  have hg := heap_alloc_new w (.cells #[.slice (some ⟨g1, 0, none⟩) n1 c1, .slice (some ⟨g2, 0, none⟩) n2 c2] 48)
  refine (concatF_any w.heap.size [RowV.mk ⟨g1, 0, none⟩ n1 c1 (F1.flatMap flL), RowV.mk ⟨g2, 0, none⟩ n2 c2 (F2.flatMap flL)] _ hg (cat2_rows (ownFl_row (ownFl_later h1 hb)) (ownFl_row (ownFl_later h2 hb))) (by show 2 ≤ 1000; omega) (by show n1 + (n2 + 0) ≤ 1000; omega)).mono ?_
  rintro e w' ⟨v, rfl, ho, hb', _⟩
  obtain ⟨a, cap, rfl, hout⟩ := ownV_out (fs := F1 ++ F2) ho (by rw [List.flatMap_append]; show F1.flatMap flL ++ (F2.flatMap flL ++ []) = _; rw [List.append_nil])
  refine ⟨a, _, cap, rfl, ⟨hout.1, fun h0 => ?_⟩, hb.trans (hb'.mono hb.size)⟩
  obtain ⟨g, e, h3⟩ := hout.2 h0
  exact ⟨g, e, ownFl_low h3 hb.size⟩
set_option maxRecDepth 100000 in
set_option maxHeartbeats 3200000 in
theorem changed_with (heq : EqlC) (hgd : GrdC) (g1 l1 c1 : Nat) (P1 T1 : Nat → ByteArray) (g2 l2 c2 : Nat) (P2 T2 : Nat → ByteArray) (w : World) (hf1 : FilesAt w (some ⟨g1, 0, none⟩) g1 0 l1 P1 T1) (hf2 : FilesAt w (some ⟨g2, 0, none⟩) g2 0 l2 P2 T2) (hl1 : l1 ≤ 1048576) (hl2 : l2 ≤ 1048576) (hp1 : ∀ j, j < l1 → (P1 j).size ≤ 1048576) (ht1 : ∀ j, j < l1 → (T1 j).size ≤ 1048576) (hp2 : ∀ j, j < l2 → (P2 j).size ≤ 1048576) (ht2 : ∀ j, j < l2 → (T2 j).size ≤ 1048576) :
    Calls Try.prog 38 #[.slice (some ⟨g1, 0, none⟩) l1 c1, .slice (some ⟨g2, 0, none⟩) l2 c2] w fun e w' => ∃ a n c, e = .returned (.slice a n c) ∧ OutS w' w.heap.size a n c (changedS l1 P1 T1 l2 P2 T2) ∧ Below w.heap.size w w' := by
  have H1 := hidU hf1
  have H2 := hidU hf2
  have HQ := hidU heq
  have HG := hidU hgd
  have HP1 := hidU hp1
  have HT1 := hidU ht1
  have HP2 := hidU hp2
  have HT2 := hidU ht2
  clear hf1 hf2 heq hgd hp1 ht1 hp2 ht2
  cases hb1 : filesB l1 P1 T1 with
  | false =>
    have HV : Hid (changedS l1 P1 T1 l2 P2 T2 = []) := by show _ = _; rw [changedS, hb1]; rfl
    go_enter Try.func38, Try.ntmps38
    go_wp2_with fail
    refine (filesOk_implA _ g1 l1 c1 P1 T1 _ H1.out hl1 HP1.out HT1.out).mono ?_
    rintro e w1 ⟨rfl, hb⟩
    rw [hb1]
    go_wp2
    go_ret
    exact ⟨none, 0, 0, rfl, by rw [HV.out]; exact OutS.nil _ _ _ _, hb⟩
  | true =>
    cases hb2 : filesB l2 P2 T2 with
    | false =>
      have HV : Hid (changedS l1 P1 T1 l2 P2 T2 = []) := by show _ = _; rw [changedS, hb1, hb2]; rfl
      go_enter Try.func38, Try.ntmps38
      go_wp2_with fail
      refine (filesOk_implA _ g1 l1 c1 P1 T1 _ H1.out hl1 HP1.out HT1.out).mono ?_
      rintro e w1 ⟨rfl, hb⟩
      rw [hb1]
      have B1 := hidU hb
      clear hb
      go_wp2_with fail
      refine (filesOk_implA _ g2 l2 c2 P2 T2 _ (H2.out.later B1.out) hl2 HP2.out HT2.out).mono ?_
      rintro e w2 ⟨rfl, hb⟩
      rw [hb2]
      have B2 := hidU (B1.out.trans (hb.mono B1.out.size))
      clear hb
      go_wp2
      go_ret
      exact ⟨none, 0, 0, rfl, by rw [HV.out]; exact OutS.nil _ _ _ _, B2.out⟩
    | true =>
      have hs1 : l1 ≤ 8 := (filesB_iff.1 hb1).1
      have hs2 : l2 ≤ 8 := (filesB_iff.1 hb2).1
      obtain ⟨L, hL⟩ : ∃ L, missL (flsOf l2 P2 T2) (flsOf l1 P1 T1) ++ missL (flsOf l1 P1 T1) (flsOf l2 P2 T2) = L := ⟨_, rfl⟩
      have HV : Hid (changedS l1 P1 T1 l2 P2 T2 = pathsTo L L.length) := by
        show _ = _
        have e := changed_same (a := flsOf l1 P1 T1) (b := flsOf l2 P2 T2) (by rw [filesB_fls]; exact hb1) (by rw [filesB_fls]; exact hb2)
        unfold pathsTo
        rw [List.take_of_length_le (Nat.le_refl _), ← hL, ← e]
        unfold changedF changedS
        rw [hb1, hb2]
        have hA : ∀ out x, chA l2 P2 T2 out x = chA (flsOf l2 P2 T2).length (ptOf (flsOf l2 P2 T2)) (txOf (flsOf l2 P2 T2)) out x := fun out x => by
          have := findF_fls l2 P2 T2 x.1
          unfold findF at this
          unfold chA
          rw [this]
        have hB : ∀ out x, chB l1 P1 T1 out x = chB (flsOf l1 P1 T1).length (ptOf (flsOf l1 P1 T1)) (txOf (flsOf l1 P1 T1)) out x := fun out x => by
          have := findF_fls l1 P1 T1 x.1
          unfold findF at this
          unfold chB
          rw [this]
        rw [show chA l2 P2 T2 = chA (flsOf l2 P2 T2).length (ptOf (flsOf l2 P2 T2)) (txOf (flsOf l2 P2 T2)) from funext fun o => funext fun x => hA o x, show chB l1 P1 T1 = chB (flsOf l1 P1 T1).length (ptOf (flsOf l1 P1 T1)) (txOf (flsOf l1 P1 T1)) from funext fun o => funext fun x => hB o x]
        rfl
      have HSz : Hid (∀ x ∈ L, x.1.size ≤ 1048576) := by
        show ∀ x ∈ L, _
        intro x hx
        rw [← hL] at hx
        rcases List.mem_append.1 hx with hx | hx
        · obtain ⟨j, hj, rfl⟩ := fls_in (miss_mem hx)
          exact HP1.out j hj
        · obtain ⟨j, hj, rfl⟩ := fls_in (miss_mem hx)
          exact HP2.out j hj
      have HLn : Hid (L.length ≤ 16) := by
        show _ ≤ _
        rw [← hL, List.length_append]
        have h1 := missL_len (flsOf l2 P2 T2) (flsOf l1 P1 T1)
        have h2 := missL_len (flsOf l1 P1 T1) (flsOf l2 P2 T2)
        rw [flsOf_len] at h1 h2
        omega
      have HL := hidU hL
      clear hL
      go_enter Try.func38, Try.ntmps38
      go_wp2_with fail
      refine (filesOk_implA _ g1 l1 c1 P1 T1 _ H1.out hl1 HP1.out HT1.out).mono ?_
      rintro e w1 ⟨rfl, hb⟩
      rw [hb1]
      have B1 := hidU hb
      clear hb
      go_wp2_with fail
      refine (filesOk_implA _ g2 l2 c2 P2 T2 _ (H2.out.later B1.out) hl2 HP2.out HT2.out).mono ?_
      rintro e w2 ⟨rfl, hb⟩
      rw [hb2]
      have B2 := hidU (B1.out.trans (hb.mono B1.out.size))
      have O2 := hidU (ownS_nil w2 9)
      have A2 : Hid (Below w2.heap.size w2 (w2.alloc (.cells #[] 9))) := (Below.refl _ _).alloc (Nat.le_refl _) _
      have B2a := hidU (B2.out.trans (A2.out.mono B2.out.size))
      clear hb B1
      go_wp2_with fail
      refine (missing_with HQ.out HG.out g2 l2 c2 P2 T2 g1 l1 c1 P1 T1 _ (H2.out.later B2a.out) (H1.out.later B2a.out) (by omega) (by omega)).mono ?_
      rintro e w3 ⟨g3, n3, c3, rfl, ho3, hb3⟩
      have O3 := hidU ho3
      have B3 := hidU (B2a.out.trans (hb3.mono B2a.out.size))
      have S3 := hidU (ownS_later O2.out hb3)
      have hn3 : n3 ≤ 8 := by
        rw [ho3.2]
        refine Nat.le_trans (missL_len _ _) ?_
        rw [flsOf_len]
        exact hs1
      clear ho3 hb3 O2 A2 B2a
      go_wp2_with fail
      refine (missing_with HQ.out HG.out g1 l1 c1 P1 T1 g2 l2 c2 P2 T2 _ (H1.out.later B3.out) (H2.out.later B3.out) (by omega) (by omega)).mono ?_
      rintro e w4 ⟨g4, n4, c4, rfl, ho4, hb4⟩
      have B4 := hidU (B3.out.trans (hb4.mono B3.out.size))
      have O4 := hidU (ownFl_low ho4 B3.out.size)
      have O3' := hidU (ownFl_low (ownFl_later O3.out hb4) (Nat.le_trans B2.out.size (by rw [show (w2.alloc (.cells #[] 9)).heap.size = w2.heap.size + 1 from by show (w2.heap.push _).size = _; simp]; omega)))
      have S4 := hidU (ownS_later S3.out hb4)
      have hn4 : n4 ≤ 8 := by
        rw [ho4.2]
        refine Nat.le_trans (missL_len _ _) ?_
        rw [flsOf_len]
        exact hs2
      clear ho4 hb4 O3 S3 B3
      go_wp2_with fail
      refine (concat_two g3 n3 c3 g4 n4 c4 w.heap.size _ _ w4 O3'.out O4.out (by omega) (by omega)).mono ?_
      rintro e w5 ⟨a5, n5, c5, rfl, ho5, hb5⟩
      rw [HL.out] at ho5
      have O5 := hidU ho5
      have N5 := hidU ho5.1
      have hn5 : n5 ≤ 16 := by rw [ho5.1]; exact HLn.out
      have B5 := hidU (B4.out.trans (hb5.mono B4.out.size))
      have S5 := hidU (ownS_low (ownS_later S4.out hb5) B2.out.size)
      clear ho5 hb5 O3' O4 S4 B4
      go_wp2
      go_loopw [26, 5, 7] (fun i o _ wr => ∃ (k g n cap : Nat), k ≤ n5 ∧ i = .int .i64 k ∧ o = .slice (some ⟨g, 0, none⟩) n cap ∧ Hid (OwnS wr w.heap.size 9 g n cap (pathsTo L k)) ∧ Hid (OutF wr w4.heap.size a5 n5 c5 L) ∧ Hid (Below w.heap.size w wr)) (fun i _ _ _ => (n5 - intOf i).toNat)
      case atStart => exact ⟨0, _, 0, 0, Nat.zero_le _, rfl, rfl, S5, O5, B5⟩
      case round =>
        clear S5 O5 B5 B2
        obtain ⟨k, g, n, cap, hk, rfl, rfl, S, O, B⟩ := hrel
        by_cases hlt : k < n5
        · obtain ⟨x, hx⟩ : ∃ x, L[k]? = some x := ⟨_, List.getElem?_eq_getElem (by rw [← N5.out]; exact hlt)⟩
          obtain ⟨gl, ea, hl⟩ := O.out.2 (by omega)
          subst ea
          obtain ⟨x0, x1⟩ := ownFl_has hl hx
          have hxs := HSz.out x (List.mem_of_getElem? hx)
          have HX := hidU (pathsTo_snoc hx)
          have hlg : Hid (gl < wr.heap.size) := (ownFl_blk hl).2
          obtain ⟨p, t⟩ := x
          simp only at x0 x1 hxs HX
          have A1 : Hid (Below wr.heap.size wr (wr.alloc (.cells #[.string p, .string t] 52))) := (Below.refl _ _).alloc (Nat.le_refl _) _
          have hps := pathsTo_len L k
          have HR := hidU (pathsTo_ris L k)
          obtain ⟨xs, hxe⟩ : ∃ xs, pathsTo L k = xs := ⟨_, rfl⟩
          rw [hxe] at S hps HR HX
          obtain rfl : n = xs.length := S.out.2
          have hcap : xs.length ≤ cap := (ownS_cap S.out).1
          clear hx hl hxe
          go_wp2_with fail
          refine (clone_any _ _ (by omega)).mono ?_
          rintro e w6 ⟨rfl, hb6⟩
          have C6 := hidU (A1.out.trans (hb6.mono A1.out.size))
          have B6 := hidU (B.out.trans (C6.out.mono B.out.size))
          have S6 := hidU (ownS_later S.out C6.out)
          have O6 := hidU (O.out.later C6.out)
          clear hb6 A1 S O B C6 x0 x1
          go_wp2_with fail
          refine (putRowS_any g cap xs p _ (ownS_tOf S6.out) HR.out (by omega) hcap).mono ?_
          rintro e w7 ⟨g7, n7, cap7, rfl, ho7, hb7⟩
          have B7 := hidU (B6.out.trans (hb7.mono B6.out.size))
          have O7 := hidU (O6.out.later hb7)
          have S7 := hidU (ownS_low ho7 B6.out.size)
          clear ho7 hb7 O6 S6 B6
          go_wp2
          go_roundw
          case rel => exact ⟨k + 1, g7, n7, cap7, hlt, by go_num, rfl, hidU (by rw [HX.out]; exact S7.out), O7, B7⟩
          case measure => simp [intOf]; omega
        · have HE : Hid (k = L.length) := by
            show _ = _
            have := N5.out
            omega
          go_wp2
          go_ret
          exact ⟨_, n, cap, rfl, by rw [HV.out, ← HE.out]; exact OutS.own S.out, B.out⟩
end Go.Proofs.Ytdbpknmoacjodaa
