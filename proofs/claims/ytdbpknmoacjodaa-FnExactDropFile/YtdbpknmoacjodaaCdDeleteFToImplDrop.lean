/-
  What slices.IndexFunc and slices.DeleteFunc answer at files of a path, and impl.DropFile: the walks.
  What impl.DropFile answers: the walk.
-/
import Derived.Laws.CopyRow
import Derived.Test.YtdbpknmoacjodaaCdCopyFiles
import Derived.Test.YtdbpknmoacjodaaCdOutRow
namespace Go.Proofs.Ytdbpknmoacjodaa
open Go.RowKit Go.PlainAid Go.Sort

theorem boxF2_later {w W : World} {gx : Nat} {o : Obj} (h : w.heap[gx]? = some o) (hb : Below w.heap.size w W) : W.heap[gx]? = some o := (hb.block gx (Array.getElem?_eq_some_iff.1 h).1).trans h
theorem isPathF_any (p t q : ByteArray) (gq : Nat) (w : World) (hq : w.cell? ⟨gq, 0, none⟩ = some (.string q)) :
    Calls Try.prog 73 #[.agg #[.string p, .string t], .pointer (some ⟨gq, 0, none⟩)] w fun e w' => e = .returned (.bool (p.toList == q.toList)) ∧ Below w.heap.size w w' := by
  have hq' : (w.alloc (.cells #[.string p, .string t] 52)).cell? ⟨gq, 0, none⟩ = some (.string q) := by
    have hlt := World.block_lt_of_cell? w _ hq
    rw [((Below.refl w.heap.size w).alloc (Nat.le_refl _) _).cell hlt]
    exact hq
  go_enter Try.func73, Try.ntmps73
  go_wp2
  go_ret
  exact ⟨rfl, (Below.refl _ _).alloc (Nat.le_refl _) _⟩
theorem keep_part {fs : List Fl} {q : ByteArray} {k : Nat} (h : ∀ j, j < k → ∀ x, fs[j]? = some x → (x.1.toList == q.toList) = false) : dropL (fs.take k) q = fs.take k := by
  unfold dropL
  refine List.filter_eq_self.2 fun y hy => ?_
  obtain ⟨j, hj, rfl⟩ := List.getElem_of_mem hy
  rw [List.length_take] at hj
  have e : (fs.take k)[j]? = fs[j]? := List.getElem?_take_of_lt (by omega)
  unfold keepP
  rw [h j (by omega) _ (e.symm.trans (List.getElem?_eq_getElem (by rw [List.length_take]; omega)))]
  rfl
theorem keep_snoc {fs : List Fl} {q : ByteArray} {j : Nat} {x : Fl} (h : fs[j]? = some x) : dropL (fs.take (j + 1)) q = dropL (fs.take j) q ++ if (x.1.toList == q.toList) = true then [] else [x] := by
  rw [take_snoc h]
  unfold dropL
  rw [List.filter_append]
  congr 1
  cases hx : (x.1.toList == q.toList) <;> simp [keepP, hx]
theorem fl_set (fs : List Fl) : ∀ (i : Nat) (x : Fl), i < fs.length → ((fs.flatMap flL).set (i * 2) (.string x.1)).set (i * 2 + 1) (.string x.2) = (fs.set i x).flatMap flL := by
  induction fs with
  | nil => intro i x h; cases h
  | cons y fs ih =>
    intro i x h
    cases i with
    | zero => rfl
    | succ i =>
      have e := ih i x (by simpa using h)
      rw [List.flatMap_cons, List.set_cons_succ, List.flatMap_cons, ← e]
      rw [show (i + 1) * 2 = i * 2 + 1 + 1 from by omega]
      rfl
theorem ownFl_set {w : World} {base g n cap : Nat} {e : TypeId} {fs : List Fl} (h : OwnFl w base e g n cap fs) {i : Nat} (hi : i < n) (x : Fl) : OwnFl ((w.setCell ⟨g, i * 2, none⟩ (.string x.1)).setCell ⟨g, i * 2 + 1, none⟩ (.string x.2)) base e g n cap (fs.set i x) := by
  have h1 := ((h.1.stored (i * 2) (.string x.1)).1.stored (i * 2 + 1) (.string x.2)).1
  rw [fl_set fs i x (by rw [← h.2]; exact hi)] at h1
  exact ⟨h1, by rw [List.length_set]; exact h.2⟩
theorem run_clear_fl {P : Program} (w : World) (t e ty : TypeId) (z : Value) (ht : P.underlying t = some (.slice e)) (hv : ∀ w, (zeroValue e).run P w = .ok z w) (hz : z.cells.size = 2) (hone : ∀ v ∈ z.cells.toList, v.oneCell' = true) {base g n cap : Nat} {fs : List Fl} (h : OwnFl w base e g n cap fs) (i c : Nat) (hi : i < n) :
    ∃ w', (Builtin.clear_ #[t] ty #[.slice (some ⟨g, i * 2, none⟩) (n - i) c]).run P w = .ok (.tuple #[]) w' ∧ OwnFl w' base e g i cap (fs.take i) ∧ w.grownBy w' (some g) := by
  rcases h.1.2 with ⟨h', _⟩ | ⟨g', cap', cur, h', hb, hg, hnc, hcm, hcs, htake⟩
  · simp at h'
  · simp only [Value.slice.injEq, Option.some.injEq, Addr.mk.injEq, and_true, true_and] at h'
    obtain ⟨rfl, rfl⟩ := h'
    have hzl : (Builtin.zeroCells z.cells (n - i)).toList.length = (n - i) * 2 := by rw [Array.length_toList, zero_len, hz]
    have hzo : ∀ v ∈ (Builtin.zeroCells z.cells (n - i)).toList, v.oneCell' = true := by
      intro v hv'
      simp only [Builtin.zeroCells, Array.toList_map, List.mem_map] at hv'
      obtain ⟨j, _, rfl⟩ := hv'
      refine hone _ ?_
      have hlt : j % z.cells.size < z.cells.size := Nat.mod_lt _ (by omega)
      rw [getElem!_pos z.cells _ hlt]
      exact Array.getElem_mem_toList ..
    have hst := run_storeCells_at (P := P) g (i * 2) e (Builtin.zeroCells z.cells (n - i)).toList 0 cur w hg (by rw [hzl, hcs]; omega) hzo
    rw [Nat.add_zero] at hst
    obtain ⟨m, hm⟩ : ∃ m, n - i = m + 1 := ⟨n - i - 1, by omega⟩
    refine ⟨w.setRow g (cur.toList.take (i * 2) ++ (Builtin.zeroCells z.cells (n - i)).toList ++ cur.toList.drop (i * 2 + (Builtin.zeroCells z.cells (n - i)).toList.length)).toArray, ?_, ⟨?_, ?_⟩, ?_⟩
    · rw [hm] at hst ⊢
      simp only [Builtin.clear_, Sem.run_bind, Sem.run_pure, Result.andThen_ok, run_underlying ht, hv, hst, List.getElem?_toArray, List.getElem?_cons_zero]
    · refine ⟨by rw [fl_flat_len, List.length_take, ← h.2]; omega, .inr ⟨g, cap, _, rfl, hb, setRow_heap w g cur _ e (0, 0) hg, by omega, hcm, ?_, ?_⟩⟩
      · rw [List.size_toArray, List.length_append, List.length_append, hzl, List.length_take, List.length_drop, Array.length_toList, hcs]
        omega
      · rw [List.append_assoc, List.take_append_of_le_length (by rw [List.length_take, Array.length_toList, hcs]; omega), List.take_of_length_le (by rw [List.length_take]; omega)]
        have e1 : cur.toList.take (i * 2) = (cur.toList.take (n * 2)).take (i * 2) := by rw [List.take_take, Nat.min_eq_left (by omega)]
        rw [e1, htake]
        have e2 : fs.flatMap flL = (fs.take i).flatMap flL ++ (fs.drop i).flatMap flL := by rw [← List.flatMap_append, List.take_append_drop]
        have e3 : ((fs.take i).flatMap flL).length = i * 2 := by rw [fl_flat_len, List.length_take, ← h.2]; omega
        rw [e2, List.take_append_of_le_length (by omega), List.take_of_length_le (by omega)]
    · rw [List.length_take, ← h.2]
      omega
    · exact ⟨rfl, rfl, rfl, by rw [setRow_size]; exact Nat.le_refl _, fun k hk hne => setRow_other w g k _ fun e => hne (by rw [e])⟩
set_option maxRecDepth 100000 in
set_option maxHeartbeats 1600000 in
theorem indexF_any (base g n cap gq : Nat) (fs : List Fl) (q : ByteArray) (w : World) (ho : OwnFl w base 52 g n cap fs) (hq : w.heap[gq]? = some (.cells #[.string q] 9 (0, 0))) (hn : n ≤ 1000) :
    Calls Try.prog 139 #[.slice (some ⟨g, 0, none⟩) n cap, .func (.func 73) #[] #[.pointer (some ⟨gq, 0, none⟩)]] w fun e w' => (∃ k : Int, e = .returned (.int .i64 k) ∧ ((k = -1 ∧ dropL fs q = fs) ∨ ∃ i : Nat, k = (i : Int) ∧ i < n ∧ dropL (fs.take (i + 1)) q = fs.take i)) ∧ Below w.heap.size w w' := by
  have HO := hidU ho
  have HQ := hidU hq
  have HN := hidU ho.2
  clear ho hq
  go_enter Try.func139, Try.ntmps139
  go_wp2
  go_loopw [8, 5] (fun i _ wr => ∃ j : Nat, j ≤ n ∧ i = .int .i64 j ∧ Hid (dropL (fs.take j) q = fs.take j) ∧ Hid (Below w.heap.size w wr)) (fun i _ _ => (n - intOf i).toNat)
  case atStart => exact ⟨0, Nat.zero_le _, rfl, hidU rfl, hidU (Below.refl _ _)⟩
  case round =>
    obtain ⟨j, hj, rfl, HK, B⟩ := hrel
    by_cases hlt : j < n
    · obtain ⟨x, hx⟩ : ∃ x, fs[j]? = some x := ⟨_, List.getElem?_eq_getElem (by rw [← HN.out]; exact hlt)⟩
      obtain ⟨c0, c1⟩ := ownFl_has (ownFl_later HO.out B.out) hx
      have HQ2 := hidU ((B.out.block gq (Array.getElem?_eq_some_iff.1 HQ.out).1).trans HQ.out)
      have q0 : wr.cell? ⟨gq, 0, none⟩ = some (.string q) := by simp [World.cell?, HQ2.out]
      have HS := hidU (keep_snoc (q := q) hx)
      have HT := hidU (take_snoc hx)
      clear hx
      obtain ⟨p, t⟩ := x
      go_wp2_with fail
      refine (isPathF_any p t q gq _ q0).mono ?_
      rintro e w2 ⟨rfl, hb2⟩
      have B2 := hidU (B.out.trans (hb2.mono B.out.size))
      clear hb2
      cases hp : (p.toList == q.toList) with
      | true =>
        go_wp2
        go_ret
        refine ⟨⟨(j : Int), rfl, .inr ⟨j, rfl, hlt, ?_⟩⟩, B2.out⟩
        rw [HS.out, if_pos hp, List.append_nil, HK.out]
      | false =>
        have HX : Hid (dropL (fs.take (j + 1)) q = fs.take (j + 1)) := by
          show _ = _
          rw [HS.out, if_neg (by show ¬ (p.toList == q.toList) = true; rw [hp]; simp), HK.out, HT.out]
        go_wp2
        go_roundw
        case rel => exact ⟨j + 1, hlt, by go_num, HX, B2⟩
        case measure => simp [intOf]; omega
    · have HX : Hid (dropL fs q = fs) := by
        have h := HK.out
        rw [List.take_of_length_le (by rw [← HN.out]; omega)] at h
        exact h
      go_wp2
      go_ret
      exact ⟨⟨-1, rfl, .inl ⟨rfl, HX.out⟩⟩, B.out⟩
structure DelW (base : Nat) (w wr : World) (g n cap gq : Nat) (fs : List Fl) (q : ByteArray) (i j : Nat) (R : List Fl) : Prop where
  own : OwnFl wr base 52 g n cap R
  box : wr.heap[gq]? = some (.cells #[.string q] 9 (0, 0))
  bel : Below base w wr
  head : R.take i = dropL (fs.take j) q
  tail : ∀ k, j ≤ k → R[k]? = fs[k]?
theorem DelW.later {base g n cap gq i j : Nat} {w wr W : World} {fs R : List Fl} {q : ByteArray} (h : DelW base w wr g n cap gq fs q i j R) (hw : base ≤ wr.heap.size) (hb : Below wr.heap.size wr W) : DelW base w W g n cap gq fs q i j R :=
  ⟨ownFl_later h.own hb, (hb.block gq (Array.getElem?_eq_some_iff.1 h.box).1).trans h.box, h.bel.trans (hb.mono hw), h.head, h.tail⟩
theorem DelW.skip {base g n cap gq i j : Nat} {w wr : World} {fs R : List Fl} {q : ByteArray} {x : Fl} (h : DelW base w wr g n cap gq fs q i j R) (hx : fs[j]? = some x) (hp : (x.1.toList == q.toList) = true) : DelW base w wr g n cap gq fs q i (j + 1) R :=
  ⟨h.own, h.box, h.bel, by rw [h.head, keep_snoc hx, if_pos hp, List.append_nil], fun k hk => h.tail k (by omega)⟩
theorem DelW.put {base g n cap gq i j : Nat} {w wr : World} {fs R : List Fl} {q : ByteArray} {x : Fl} (h : DelW base w wr g n cap gq fs q i j R) (hx : fs[j]? = some x) (hp : (x.1.toList == q.toList) = false) (hij : i < j) (hjn : j < n) (hne : gq ≠ g) : DelW base w ((wr.setCell ⟨g, i * 2, none⟩ (.string x.1)).setCell ⟨g, i * 2 + 1, none⟩ (.string x.2)) g n cap gq fs q (i + 1) (j + 1) (R.set i x) := by
  have hl := h.own.2
  refine ⟨ownFl_set h.own (by omega) x, ?_, (h.bel.setCell (p := ⟨g, i * 2, none⟩) (ownFl_blk h.own).1 _).setCell (p := ⟨g, i * 2 + 1, none⟩) (ownFl_blk h.own).1 _, ?_, fun k hk => ?_⟩
  · rw [Below.heap_setCell _ ⟨g, i * 2 + 1, none⟩ _ gq hne, Below.heap_setCell _ ⟨g, i * 2, none⟩ _ gq hne]
    exact h.box
  · rw [keep_snoc hx, if_neg (by rw [hp]; simp), ← h.head]
    have e : (R.set i x)[i]? = some x := by rw [List.getElem?_set, if_pos rfl, if_pos (by omega)]
    rw [take_snoc e, List.take_set_of_le (Nat.le_refl _)]
  · rw [List.getElem?_set, if_neg (by omega)]
    exact h.tail k (by omega)
set_option maxRecDepth 100000 in
set_option maxHeartbeats 3200000 in
theorem deleteF_any (base g n cap gq : Nat) (fs : List Fl) (q : ByteArray) (w : World) (ho : OwnFl w base 52 g n cap fs) (hq : w.heap[gq]? = some (.cells #[.string q] 9 (0, 0))) (hne : gq ≠ g) (hbs : base ≤ w.heap.size) (hn : n ≤ 1000) :
    Calls Try.prog 72 #[.slice (some ⟨g, 0, none⟩) n cap, .func (.func 73) #[] #[.pointer (some ⟨gq, 0, none⟩)]] w fun e w' => ∃ m, e = .returned (.slice (some ⟨g, 0, none⟩) m cap) ∧ OwnFl w' base 52 g m cap (dropL fs q) ∧ Below base w w' := by
  have HO := hidU ho
  have HQ := hidU hq
  have HN := hidU ho.2
  have hcap : n ≤ cap := ownFl_cap ho
  clear ho hq
  go_enter Try.func72, Try.ntmps72
  go_wp2_with fail
  refine (indexF_any base g n cap gq fs q _ HO.out HQ.out hn).mono ?_
  rintro e w1 ⟨⟨k, rfl, hk⟩, hb1⟩
  rcases hk with ⟨rfl, hd⟩ | ⟨i, rfl, hi, hd⟩
  · have O1 := hidU (ownFl_later HO.out hb1)
    have HD := hidU hd
    have B1 := hidU (hb1.mono hbs)
    clear hd hb1
    go_wp2
    go_ret
    exact ⟨n, rfl, by rw [HD.out]; exact O1.out, B1.out⟩
  · have D1 : Hid (DelW base w w1 g n cap gq fs q i (i + 1) fs) := ⟨ownFl_later HO.out hb1, (hb1.block gq (Array.getElem?_eq_some_iff.1 HQ.out).1).trans HQ.out, hb1.mono hbs, hd.symm, fun _ _ => rfl⟩
    have hne1 : ((i : Int) == -1) = false := beq_eq_false_iff_ne.2 (by omega)
    clear hd hb1 HO HQ
    go_wp2
    go_loopw [5, 6, 7] (fun si sj _ wr => ∃ (i j : Nat) (R : List Fl), si = .int .i64 i ∧ sj = .int .i64 j ∧ i < j ∧ j ≤ n ∧ Hid (DelW base w wr g n cap gq fs q i j R)) (fun _ sj _ _ => (n - intOf sj).toNat)
    case atStart => exact ⟨i, i + 1, fs, rfl, by go_num, by omega, by omega, D1⟩
    case round =>
      clear D1 hne1 hi
      obtain ⟨i, j, R, rfl, rfl, hij, hjn, D⟩ := hrel
      have hw : base ≤ wr.heap.size := Nat.le_trans hbs D.out.bel.size
      by_cases hlt : j < n
      · obtain ⟨x, hx⟩ : ∃ x, fs[j]? = some x := ⟨_, List.getElem?_eq_getElem (by rw [← HN.out]; exact hlt)⟩
        obtain ⟨c0, c1⟩ := ownFl_has D.out.own ((D.out.tail j (Nat.le_refl _)).trans hx)
        have HX := hidU hx
        clear hx
        obtain ⟨p, t⟩ := x
        have A1 : Hid (Below wr.heap.size wr (wr.alloc (.cells #[.string p, .string t] 52))) := (Below.refl _ _).alloc (Nat.le_refl _) _
        have D2 := hidU (D.out.later hw A1.out)
        have X2 : Hid ((wr.alloc (.cells #[.string p, .string t] 52)).heap[wr.heap.size]? = some (.cells #[.string p, .string t] 52 (0, 0))) := heap_alloc_new wr _
        have hg2 : Hid (g < wr.heap.size) := (ownFl_blk D.out.own).2
        have q0 : (wr.alloc (.cells #[.string p, .string t] 52)).cell? ⟨gq, 0, none⟩ = some (.string q) := by simp [World.cell?, D2.out.box]
        have hw2 : Hid (base ≤ (wr.alloc (.cells #[.string p, .string t] 52)).heap.size) := Nat.le_trans hw A1.out.size
        clear D
        go_wp2_with fail
        refine (isPathF_any p t q gq _ q0).mono ?_
        rintro e w2 ⟨rfl, hb2⟩
        have D3 := hidU (D2.out.later hw2.out hb2)
        have X3 := hidU (boxF2_later X2.out hb2)
        clear hb2 D2 X2 q0 c0 c1 A1 hw2
        have b0 : w2.cell? ⟨wr.heap.size, 0, none⟩ = some (.string p) := by simp [World.cell?, X3.out]
        have b1 : w2.cell? ⟨wr.heap.size, 1, none⟩ = some (.string t) := by simp [World.cell?, X3.out]
        cases hp : (p.toList == q.toList) with
        | true =>
          have D4 := hidU (D3.out.skip HX.out hp)
          go_wp2
          go_roundw
          case rel => exact ⟨i, j + 1, R, rfl, by go_num, by omega, by omega, D4⟩
          case measure => simp [intOf]; omega
        | false =>
          have D4 := hidU (D3.out.put HX.out hp hij hlt hne)
          obtain ⟨y, hy⟩ : ∃ y, R[i]? = some y := ⟨_, List.getElem?_eq_getElem (by rw [← D3.out.own.2]; omega)⟩
          obtain ⟨e0, e1⟩ := ownFl_has D3.out.own hy
          have f0 : w2.frozen? ⟨g, i * 2, none⟩ = false := D3.out.own.1.frozenAt _
          have f1 : w2.frozen? ⟨g, i * 2 + 1, none⟩ = false := D3.out.own.1.frozenAt _
          clear D3 hy
          go_wp2
          go_roundw
          case rel => exact ⟨i + 1, j + 1, _, by go_num, by go_num, by omega, by omega, D4⟩
          case measure => simp [intOf]; omega
      · obtain rfl : j = n := by omega
        have HE : Hid (R.take i = dropL fs q) := by
          show _ = _
          rw [D.out.head, List.take_of_length_le (by rw [← HN.out]; exact Nat.le_refl _)]
        have hci : ¬ cap = i := by omega
        have hic : (i : Int) ≤ (cap : Int) := by omega
        obtain ⟨w3, hcl, ho3, hg3⟩ := run_clear_fl (P := Try.prog) wr 48 52 0 _ Try.underlying48 Try.zeroValue52 rfl (by intro v hv; simp [Value.cells] at hv; rcases hv with rfl | rfl <;> rfl) D.out.own i (cap - i) hij
        have hcl' : ∀ ty, (Builtin.clear_ #[48] ty #[.slice (some ⟨g, i * 2, none⟩) (j - i) (cap - i)]).run Try.prog wr = .ok (.tuple #[]) w3 := fun ty => hcl
        have O3 := hidU ho3
        have B3 := hidU (D.out.bel.grown hg3 hw (fun k hk => by cases hk; exact (ownFl_blk D.out.own).1))
        clear hcl ho3 hg3 D
        go_wp2
        go_ret
        exact ⟨i, rfl, by rw [← HE.out]; exact O3.out, B3.out⟩
end Go.Proofs.Ytdbpknmoacjodaa
namespace Go.Proofs.Ytdbpknmoacjodaa
open Go.RowKit Go.PlainAid Go.Sort

set_option maxRecDepth 100000 in
set_option maxHeartbeats 1600000 in
theorem dropFile_implC (g len cap : Nat) (Pt Tx : Nat → ByteArray) (q : ByteArray) (w : World) (hf : FilesAt w (some ⟨g, 0, none⟩) g 0 len Pt Tx) (hl : len ≤ 1048576) (hp : ∀ j, j < len → (Pt j).size ≤ 1048576) (ht : ∀ j, j < len → (Tx j).size ≤ 1048576) (_ : q.size ≤ 1048576) :
    Calls Try.prog 26 #[.slice (some ⟨g, 0, none⟩) len cap, .string q] w fun e w' => ∃ a n c, e = .returned (.tuple #[.slice a n c, .bool (dropS len Pt Tx q).2]) ∧ OutF w' w.heap.size a n c (dropS len Pt Tx q).1 ∧ Below w.heap.size w w' := by
  have X0 : Hid ((w.alloc (.cells #[.string q] 9)).heap[w.heap.size]? = some (.cells #[.string q] 9 (0, 0))) := heap_alloc_new w _
  have A0 : Hid (Below w.heap.size w (w.alloc (.cells #[.string q] 9))) := (Below.refl _ _).alloc (Nat.le_refl _) _
  have HF := hidU hf
  have HP := hidU hp
  have HT := hidU ht
  clear hf hp ht
  cases hfb : filesB len Pt Tx with
  | false =>
    have HV : Hid (dropS len Pt Tx q = ([], false)) := by show dropS len Pt Tx q = _; rw [dropS, hfb]; rfl
    go_enter Try.func26, Try.ntmps26
    go_wp2_with fail
    refine (filesOk_implA _ g len cap Pt Tx _ (HF.out.later A0.out) hl HP.out HT.out).mono ?_
    rintro e w1 ⟨rfl, hb1⟩
    rw [hfb]
    have B1 := hidU (A0.out.trans (hb1.mono A0.out.size))
    clear hb1
    go_wp2
    go_ret2
    exact ⟨none, 0, 0, by rw [HV.out]; rfl, by rw [HV.out]; exact OutF.nil _ _ _ _, B1.out⟩
  | true =>
    have hl8 : len ≤ 8 := (filesB_iff.1 hfb).1
    have HV : Hid (dropS len Pt Tx q = (dropL (flsOf len Pt Tx) q, decide ((dropL (flsOf len Pt Tx) q).length < len))) := by show dropS len Pt Tx q = _; rw [dropS, hfb]; rfl
    go_enter Try.func26, Try.ntmps26
    go_wp2_with fail
    refine (filesOk_implA _ g len cap Pt Tx _ (HF.out.later A0.out) hl HP.out HT.out).mono ?_
    rintro e w1 ⟨rfl, hb1⟩
    rw [hfb]
    have B1 := hidU (A0.out.trans (hb1.mono A0.out.size))
    have X1 := hidU (boxF2_later X0.out hb1)
    clear hb1 X0 A0
    go_wp2_with fail
    refine (copyFiles_any _ g len cap Pt Tx _ (HF.out.later B1.out) (by omega) HP.out HT.out).mono ?_
    rintro e w2 ⟨g2, cap2, rfl, ho2, hb2⟩
    have B2 := hidU (B1.out.trans (hb2.mono B1.out.size))
    have X2 := hidU (boxF2_later X1.out hb2)
    have hne : Hid (w.heap.size ≠ g2) := by
      have h1 := (Array.getElem?_eq_some_iff.1 X1.out).1
      have h2 := (ownFl_blk ho2).1
      show _ ≠ _
      omega
    have O2 := hidU (ownFl_low ho2 B1.out.size)
    clear hb2 ho2 X1
    go_wp2_with fail
    refine (deleteF_any w.heap.size g2 len cap2 w.heap.size _ q _ O2.out X2.out hne.out B2.out.size (by omega)).mono ?_
    rintro e w3 ⟨m, rfl, ho3, hb3⟩
    have O3 := hidU ho3
    have B3 := hidU (B2.out.trans hb3)
    have HM : Hid (dropS len Pt Tx q = (dropL (flsOf len Pt Tx) q, decide (m < len))) := by
      show _ = _
      rw [HV.out, ho3.2]
    clear ho3 hb3 O2 X2 hne HV
    go_wp2
    go_ret2
    exact ⟨_, m, cap2, by rw [HM.out]; rfl, by rw [HM.out]; exact OutF.own O3.out, B3.out⟩
theorem dropFile_impl (g len : Nat) (Pt Tx : Nat → ByteArray) (q : ByteArray) (w : World) (hf : FilesAt w (some ⟨g, 0, none⟩) g 0 len Pt Tx) (hl : len ≤ 1048576) (hp : ∀ j, j < len → (Pt j).size ≤ 1048576) (ht : ∀ j, j < len → (Tx j).size ≤ 1048576) (hq : q.size ≤ 1048576) :
    Calls Try.prog 26 #[.slice (some ⟨g, 0, none⟩) len len, .string q] w fun e w' => ∃ a n c, e = .returned (.tuple #[.slice a n c, .bool (dropS len Pt Tx q).2]) ∧ OutF w' w.heap.size a n c (dropS len Pt Tx q).1 ∧ Below w.heap.size w w' := dropFile_implC g len len Pt Tx q w hf hl hp ht hq
end Go.Proofs.Ytdbpknmoacjodaa
