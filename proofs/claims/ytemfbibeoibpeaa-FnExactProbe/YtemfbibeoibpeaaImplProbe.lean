/-
  What impl.Probe answers: the walk.
-/
import Derived.Test.YtemfbibeoibpeaaImplCand
import Derived.Test.YtemfbibeoibpeaaImplFiles
import Derived.Test.YtemfbibeoibpeaaSpecProbe
namespace Go.Proofs.Ytemfbibeoibpeaa
open Go.RowKit Go.PlainAid Go.Shelf

attribute [local go_sem] Oper.semAt_some

theorem Fr.setCell {C C' : Nat → Prop} {W W' : World} (h : Fr C W C' W') {p : Addr} (hp : C' p.block) (v : Value) : Fr C W C' (W'.setCell p v) :=
  ⟨h.os, h.tape, h.output, by show _ ≤ (W'.heap.modify _ _).size; rw [Array.size_modify]; exact h.size,
   fun k hk hc => (Below.heap_setCell W' p v k (fun e => (h.sub _ hp).elim (fun h1 => hc (e ▸ h1)) (fun h1 => by omega))).trans (h.same k hk hc), h.sub,
   fun k hk => by show _ < (W'.heap.modify _ _).size; rw [Array.size_modify]; exact h.lt k hk⟩
theorem boxed_put {V : World} {b D : Nat} {t : TypeId} {v : Value} (h : Boxed V b t v) (hne : b ≠ D) (o : Obj) : Boxed (V.putObj D o) b t v := (World.putObj_heap_other hne).trans h
theorem results_cells {P : Program} {fn : Func} {p q : Tmp} {t1 t2 : TypeId} (h : fn.results = #[.cell p t1, .cell q t2]) (tmps : Array Value) (w : World) {a b : Addr} {x y : Value} (hp : tmps.getD p undef = .pointer (some a)) (hq : tmps.getD q undef = .pointer (some b))
    (h1 : (loadVar t1 a).run P w = .ok x w) (h2 : (loadVar t2 b).run P w = .ok y w) : (results fn tmps).run P w = .ok (.tuple #[x, y]) w := by
  have hp' : tmps[p]?.getD undef = .pointer (some a) := by simpa using hp
  have hq' : tmps[q]?.getD undef = .pointer (some b) := by simpa using hq
  simp only [results, h]
  simp [Sem.run_bind, Result.andThen, asAddr, hp', hq', h1, h2]
theorem load_string {w : World} {b : Nat} {v : Value} (h : Boxed w b 9 v) : (loadVar 9 ⟨b, 0, none⟩).run Try.prog w = .ok v w := by
  have hc := h.cell
  simp [loadVar, isAgg, underlying, Sem.run_bind, Result.andThen, go_sem, Try.underlying9, hc]
theorem load_bool {w : World} {b : Nat} {v : Value} (h : Boxed w b 4 v) : (loadVar 4 ⟨b, 0, none⟩).run Try.prog w = .ok v w := by
  have hc := h.cell
  simp [loadVar, isAgg, underlying, Sem.run_bind, Result.andThen, go_sem, Try.underlying4, hc]
set_option maxRecDepth 100000 in
set_option maxHeartbeats 2000000 in
theorem probe_implC (g len cap : Nat) (Pt Tx : Nat → ByteArray) (f sp : ByteArray) (w : World) (hf : FilesAt w (some ⟨g, 0, none⟩) g 0 len Pt Tx) (hl : len ≤ 1048576) (hp : ∀ j, j < len → (Pt j).size ≤ 1048576) (ht : ∀ j, j < len → (Tx j).size ≤ 1048576) (hf1 : f.size ≤ 1048576) (hs1 : sp.size ≤ 1048576) :
    Calls Try.prog 17 #[.slice (some ⟨g, 0, none⟩) len cap, .string f, .string sp] w fun e w' => e = .returned (.tuple #[.string (probeS len Pt Tx f sp).1, .bool (probeS len Pt Tx f sp).2]) ∧ Below w.heap.size w w' := by
  refine (callsIn_wide (n := 3)).1 ?_
  refine callsIn_of_wp_marks Try.func17 rfl trivial ?_ rfl
  simp only [Try.ntmps17, List.size_toArray, List.length_cons, List.length_nil, Nat.reduceAdd, Nat.reduceSub, Array.replicate_succ, Array.replicate_zero, List.push_toArray, List.append_toArray, List.nil_append, List.cons_append]
  obtain ⟨W0, hW0⟩ : ∃ W0, ((w.alloc (.cells #[.slice (some ⟨g, 0, none⟩) len cap] 30)).alloc (.cells #[.string { data := #[] }] 9)).alloc (.cells #[.bool false] 4) = W0 := ⟨_, rfl⟩
  have b0 : Below w.heap.size w W0 := by rw [← hW0]; exact (((Below.refl _ _).alloc (Nat.le_refl _) _).alloc (by simp) _).alloc (by simp; omega) _
  have HZ : Hid (W0.heap.size = w.heap.size + 3) := by show _ = _; rw [← hW0]; simp
  have bl0 : Boxed W0 w.heap.size 30 (.slice (some ⟨g, 0, none⟩) len cap) := by rw [← hW0]; exact ((Boxed.new w _ _).alloc _).alloc _
  have br0 : Boxed W0 (w.heap.size + 1) 9 (.string { data := #[] }) := by
    rw [← hW0]
    have := Boxed.new (w.alloc (.cells #[.slice (some ⟨g, 0, none⟩) len cap] 30)) 9 (.string { data := #[] })
    rw [World.size_alloc] at this
    exact this.alloc _
  have bo0 : Boxed W0 (w.heap.size + 1 + 1) 4 (.bool false) := by
    rw [← hW0]
    have := Boxed.new ((w.alloc (.cells #[.slice (some ⟨g, 0, none⟩) len cap] 30)).alloc (.cells #[.string { data := #[] }] 9)) 4 (.bool false)
    rw [World.size_alloc, World.size_alloc] at this
    exact this
  gi_wp2
  refine ⟨trivial, (callsIn_wide.2 (candidates_any f sp _)).mono ?_⟩
  rintro e w' ⟨rfl, rfl⟩
  obtain ⟨bf3, bs3⟩ := boxed_two W0 9 (.string f) (.string sp)
  obtain ⟨w3, hw3⟩ : ∃ w3, (W0.alloc (.cells #[.string f] 9)).alloc (.cells #[.string sp] 9) = w3 := ⟨_, rfl⟩
  rw [hw3] at bf3 bs3
  have b3 : Below W0.heap.size W0 w3 := by rw [← hw3]; exact ((Below.refl _ _).alloc (Nat.le_refl _) _).alloc (by simp) _
  have hbw : Below w.heap.size w w3 := b0.trans (b3.mono b0.size)
  have bl3 : Boxed w3 w.heap.size 30 (.slice (some ⟨g, 0, none⟩) len cap) := (b3.block _ bl0.lt).trans bl0
  have br3 : Boxed w3 (w.heap.size + 1) 9 (.string { data := #[] }) := (b3.block _ br0.lt).trans br0
  have bo3 : Boxed w3 (w.heap.size + 1 + 1) 4 (.bool false) := (b3.block _ bo0.lt).trans bo0
  have HW3 : Hid (w3.heap.size = W0.heap.size + 2) := by show _ = _; rw [← hw3]; simp
  rw [hw3]
  clear hW0 hw3 bl0 br0 bo0
  have HF := hidU hf
  have HP := hidU hp
  have HT := hidU ht
  clear hf hp ht b3
  gi_wp2
  refine wpIn_range_sep (gf := 51) rfl enters_cand (cand_seq f sp W0.heap.size (W0.heap.size + 1) hf1 hs1) (fun V hV => ⟨(hV _ (.inl rfl)).trans bf3, (hV _ (.inr rfl)).trans bs3⟩) (fun k hk => by rw [HW3.out]; omega) rfl
    (fun pre C V => C = (fun k => k = w.heap.size + 1 ∨ k = w.heap.size + 1 + 1) ∧ Boxed V (w.heap.size + 1) 9 (.string { data := #[] }) ∧ Boxed V (w.heap.size + 1 + 1) 4 (.bool false) ∧ ∀ x ∈ pre, (findS len Pt Tx x).2 = false)
    (fun c pre C V => c = .ret ∧ C = (fun k => k = w.heap.size + 1 ∨ k = w.heap.size + 1 + 1) ∧ ∃ q x, pre = q ++ [x] ∧ Boxed V (w.heap.size + 1) 9 (.string x) ∧ Boxed V (w.heap.size + 1 + 1) 4 (.bool true) ∧ (∀ y ∈ q, (findS len Pt Tx y).2 = false) ∧ (findS len Pt Tx x).2 = true)
    ?loc ?locx (fun k => k = w.heap.size + 1 ∨ k = w.heap.size + 1 + 1) ?apart ?inside ⟨rfl, br3, bo3, fun x hx => by cases hx⟩
    (fun x => { tmps := #[.slice (some ⟨g, 0, none⟩) len cap, .string f, .string sp, .pointer (some ⟨w.heap.size, 0, none⟩), undef, undef, .pointer (some ⟨w.heap.size + 1, 0, none⟩), .pointer (some ⟨w.heap.size + 1 + 1, 0, none⟩), .string x, undef, undef, .string f, .string sp, .func (.func 51) #[] #[.pointer (some ⟨W0.heap.size, 0, none⟩), .pointer (some ⟨W0.heap.size + 1, 0, none⟩)], .string x, undef, undef, undef, undef, undef, undef, undef, undef], defers := [] }) ?assign ?body ?done ?stop
  case loc =>
    rintro pre C V V' ⟨rfl, h1, h2, h3⟩ hs
    exact ⟨rfl, (hs _ (.inl rfl)).trans h1, (hs _ (.inr rfl)).trans h2, h3⟩
  case locx =>
    rintro c pre C V V' ⟨hc, rfl, q, x, h0, h1, h2, h3, h4⟩ hs
    exact ⟨hc, rfl, q, x, h0, (hs _ (.inl rfl)).trans h1, (hs _ (.inr rfl)).trans h2, h3, h4⟩
  case apart =>
    have := HZ.out
    rintro k hk h
    omega
  case inside =>
    have := HZ.out
    have := HW3.out
    rintro k h
    omega
  case assign =>
    intro l m x W K hK
    gi_wp2
    exact hK
  case body =>
    rintro l m pre x rest C1 V hx hfr ⟨rfl, hbr, hbo, hno⟩
    have blV : Boxed V w.heap.size 30 (.slice (some ⟨g, 0, none⟩) len cap) := (hfr.same _ bl3.lt (by omega)).trans bl3
    have hcl := blV.cell
    have HFV : Hid (FilesAt V (some ⟨g, 0, none⟩) g 0 len Pt Tx) := HF.out.later (hbw.trans (hfr.old hbw.size (by rintro k (h | h) <;> omega)))
    have hlt := hfr.lt
    clear hx
    gi_wp2
    refine wide_callR (find_implC g len cap Pt Tx x _ HFV.out hl HP.out HT.out) ?_
    rintro e V1 ⟨rfl, hb1⟩
    have br1 : Boxed V1 (w.heap.size + 1) 9 (.string { data := #[] }) := (hb1.block _ hbr.lt).trans hbr
    have bo1 : Boxed V1 (w.heap.size + 1 + 1) 4 (.bool false) := (hb1.block _ hbo.lt).trans hbo
    have fr1 := Fr.below hlt hb1
    obtain ⟨r2, hr2⟩ : ∃ r2, (findS len Pt Tx x).2 = r2 := ⟨_, rfl⟩
    generalize (findS len Pt Tx x).1 = r1
    rw [hr2]
    have HR2 := hidU hr2
    have HNO := hidU hno
    clear hr2 hno
    cases r2 with
    | true =>
      have c1 := br1.cell
      have z1 := br1.frozen
      have br2 := br1.set (.string x)
      have bo2 := bo1.other (B' := w.heap.size + 1) (by omega) (.string x)
      have c2 := bo2.cell
      have z2 := bo2.frozen
      gi_wp2
      exact ⟨_, (fr1.setCell (p := ⟨w.heap.size + 1, 0, none⟩) (.inl rfl) (.string x)).setCell (p := ⟨w.heap.size + 1 + 1, 0, none⟩) (.inr rfl) (.bool true), rfl, rfl, pre, x, rfl, br2.other (B' := w.heap.size + 1 + 1) (by omega) _, bo2.set _, HNO.out, HR2.out⟩
    | false =>
      gi_wp2
      refine ⟨_, fr1, rfl, br1, bo1, fun y hy => ?_⟩
      rcases List.mem_append.1 hy with h | h
      · exact HNO.out y h
      · rw [List.mem_singleton.1 h]; exact HR2.out
  case done =>
    rintro D C1 V hD hfr hnD ⟨rfl, hbr, hbo, hno⟩ hK
    have HV : Hid (probeS len Pt Tx f sp = ({ data := #[] }, false)) := probeL_none fun j x _ hx => hno x (List.mem_of_getElem? hx)
    have c1 := hbr.cell
    have z1 := hbr.frozen
    have br2 := hbr.set (.string { data := #[] })
    have bo2 := hbo.other (B' := w.heap.size + 1) (by omega) (.string { data := #[] })
    have c2 := bo2.cell
    have z2 := bo2.frozen
    have br4 := br2.other (B' := w.heap.size + 1 + 1) (by omega) (.bool false)
    have bo4 := bo2.set (.bool false)
    have fr4 := (hfr.setCell (p := ⟨w.heap.size + 1, 0, none⟩) (.inl rfl) (.string { data := #[] })).setCell (p := ⟨w.heap.size + 1 + 1, 0, none⟩) (.inr rfl) (.bool false)
    clear hno
    gi_wp2
    have hK4 := ((Below.heap_setCell (V.setCell ⟨w.heap.size + 1, 0, none⟩ (.string { data := #[] })) ⟨w.heap.size + 1 + 1, 0, none⟩ (.bool false) D (fun h => hnD (.inr h))).trans (Below.heap_setCell V ⟨w.heap.size + 1, 0, none⟩ (.string { data := #[] }) D (fun h => hnD (.inl h)))).trans hK
    refine ⟨by simp, .inl ⟨_, _, rfl, run_takeDeferred hK4, ?_⟩⟩
    exact ⟨_, results_cells rfl _ _ rfl rfl (load_string (boxed_put br4 (fun h => hnD (.inl h.symm)) _)) (load_bool (boxed_put bo4 (fun h => hnD (.inr h.symm)) _)), by rw [HV.out], hbw.trans ((fr4.put hD _).old hbw.size (by rintro k (h | h) <;> omega))⟩
  case stop =>
    rintro D c pre C1 V hD hpre hfr hnD ⟨rfl, rfl, q, x, rfl, hbr, hbo, hno, hyes⟩ hK
    gi_wp2
    refine ⟨by simp, .inl ⟨_, _, rfl, run_takeDeferred hK, ?_⟩⟩
    have hv : probeS len Pt Tx f sp = (x, true) := by
      obtain ⟨rst, hrst⟩ := hpre
      refine probeL_at (k := q.length) (fun j y hj hy => ?_) ?_ hyes
      · rw [← hrst, List.append_assoc, List.getElem?_append_left hj] at hy
        exact hno y (List.mem_of_getElem? hy)
      · rw [← hrst, List.append_assoc, List.getElem?_append_right (Nat.le_refl _), Nat.sub_self]
        rfl
    exact ⟨_, results_cells rfl _ _ rfl rfl (load_string (boxed_put hbr (fun h => hnD (.inl h.symm)) _)) (load_bool (boxed_put hbo (fun h => hnD (.inr h.symm)) _)), by rw [hv], hbw.trans ((hfr.put hD _).old hbw.size (by rintro k (h | h) <;> omega))⟩
theorem probe_impl (g len : Nat) (Pt Tx : Nat → ByteArray) (f sp : ByteArray) (w : World) (hf : FilesAt w (some ⟨g, 0, none⟩) g 0 len Pt Tx) (hl : len ≤ 1048576) (hp : ∀ j, j < len → (Pt j).size ≤ 1048576) (ht : ∀ j, j < len → (Tx j).size ≤ 1048576) (hf1 : f.size ≤ 1048576) (hs1 : sp.size ≤ 1048576) :
    Calls Try.prog 17 #[.slice (some ⟨g, 0, none⟩) len len, .string f, .string sp] w fun e w' => e = .returned (.tuple #[.string (probeS len Pt Tx f sp).1, .bool (probeS len Pt Tx f sp).2]) ∧ Below w.heap.size w w' := probe_implC g len len Pt Tx f sp w hf hl hp ht hf1 hs1
end Go.Proofs.Ytemfbibeoibpeaa
