/-
  What spec.l14Copy answers, in whatever order it copies the five rows: the walk.
-/
import Derived.Test.YtaakfnclelcopaaCTrimOrderInv
import Derived.Test.YtaakfnclelcopaaCTrimStepRows
import Derived.Test.YtaakfnclelcopaaCTrimMdAside
namespace Go.Proofs.Ytaakfnclelcopaa
open Go.RowKit Go.PlainAid Go.Sort

structure Chn (e : TypeId) (size B gx f : Nat) (src : Rw) (n : Nat) (xs : List Value) (i : Nat) (D : Nat → Bool) (T : Nat → Option Value) (w : World) : Prop where
  b0 : D i = true → D (i + 3) = false → ∃ g, T (i + 3) = some (.slice (some ⟨g, 0, none⟩) 0 0) ∧ OwnR w B e size ⟨some ⟨g, 0, none⟩, 0⟩ 0 []
  b1 : D (i + 1) = true → T (i + 4) = some (.pointer (some ⟨gx, f, none⟩))
  b2 : D (i + 2) = true → T (i + 5) = some (.slice src.a n src.cap)
  b3 : D (i + 3) = true → ∃ r, T (i + 6) = some (.slice r.a n r.cap) ∧ OwnR w B e size r n xs
  q2 : D (i + 2) = true → D (i + 1) = true
  q3 : D (i + 3) = true → D i = true ∧ D (i + 2) = true
section
variable {e : TypeId} {size B gx f n i io : Nat} {src : Rw} {xs : List Value} {D D' : Nat → Bool} {T T' : Nat → Option Value} {w w' : World}
theorem Chn.other (h : Chn e size B gx f src n xs i D T w) (hD : ∀ j, j ≠ io → D' j = D j) (hT : ∀ k, k ≠ io + 3 → T' k = T k) (hio : io < i ∨ i + 3 < io) (hk : ∀ k cur, B ≤ k → k < w.heap.size → w.heap[k]? = some (.cells cur e (0, 0)) → w'.heap[k]? = w.heap[k]?) : Chn e size B gx f src n xs i D' T' w' := by
  have kp : ∀ {r : Rw} {n : Nat} {xs : List Value}, OwnR w B e size r n xs → OwnR w' B e size r n xs := fun ho => ho.keep fun k g => by
    obtain ⟨h1, h2, cur, h3⟩ := ho.typed g
    exact hk k cur h1 h2 h3
  have d0 := hD i (by omega)
  have d1 := hD (i + 1) (by omega)
  have d2 := hD (i + 2) (by omega)
  have d3 := hD (i + 3) (by omega)
  have t0 := hT (i + 3) (by omega)
  have t1 := hT (i + 4) (by omega)
  have t2 := hT (i + 5) (by omega)
  have t3 := hT (i + 6) (by omega)
  refine ⟨fun a b => ?_, fun a => ?_, fun a => ?_, fun a => ?_, fun a => ?_, fun a => ?_⟩
  · obtain ⟨g, h1, h2⟩ := h.b0 (d0 ▸ a) (d3 ▸ b)
    exact ⟨g, t0.trans h1, kp h2⟩
  · exact t1.trans (h.b1 (d1 ▸ a))
  · exact t2.trans (h.b2 (d2 ▸ a))
  · obtain ⟨r, h1, h2⟩ := h.b3 (d3 ▸ a)
    exact ⟨r, t3.trans h1, kp h2⟩
  · rw [d1]; exact h.q2 (d2 ▸ a)
  · rw [d0, d2]; exact h.q3 (d3 ▸ a)
theorem Chn.s0 (h : Chn e size B gx f src n xs i D T w) (hD : ∀ j, j ≠ i → D' j = D j) (hi : D' i = true) (hT : ∀ k, k ≠ i + 3 → T' k = T k) (hv : T' (i + 3) = some (.slice (some ⟨w.heap.size, 0, none⟩) 0 0)) (ho : OwnR (w.alloc (.cells #[] e)) B e size ⟨some ⟨w.heap.size, 0, none⟩, 0⟩ 0 []) : Chn e size B gx f src n xs i D' T' (w.alloc (.cells #[] e)) := by
  have d1 := hD (i + 1) (by omega)
  have d2 := hD (i + 2) (by omega)
  have d3 := hD (i + 3) (by omega)
  refine ⟨fun _ _ => ⟨_, hv, ho⟩, fun a => (hT (i + 4) (by omega)).trans (h.b1 (d1 ▸ a)), fun a => (hT (i + 5) (by omega)).trans (h.b2 (d2 ▸ a)), fun a => ?_, fun a => by rw [d1]; exact h.q2 (d2 ▸ a), fun a => ⟨hi, by rw [d2]; exact (h.q3 (d3 ▸ a)).2⟩⟩
  obtain ⟨r, h1, h2⟩ := h.b3 (d3 ▸ a)
  exact ⟨r, (hT (i + 6) (by omega)).trans h1, h2.alloc _⟩
theorem Chn.s1 (h : Chn e size B gx f src n xs i D T w) (hD : ∀ j, j ≠ i + 1 → D' j = D j) (hi : D' (i + 1) = true) (hT : ∀ k, k ≠ i + 4 → T' k = T k) (hv : T' (i + 4) = some (.pointer (some ⟨gx, f, none⟩))) : Chn e size B gx f src n xs i D' T' w := by
  have d0 := hD i (by omega)
  have d2 := hD (i + 2) (by omega)
  have d3 := hD (i + 3) (by omega)
  refine ⟨fun a b => ?_, fun _ => hv, fun a => (hT (i + 5) (by omega)).trans (h.b2 (d2 ▸ a)), fun a => ?_, fun _ => hi, fun a => by rw [d0, d2]; exact h.q3 (d3 ▸ a)⟩
  · obtain ⟨g, h1, h2⟩ := h.b0 (d0 ▸ a) (d3 ▸ b)
    exact ⟨g, (hT (i + 3) (by omega)).trans h1, h2⟩
  · obtain ⟨r, h1, h2⟩ := h.b3 (d3 ▸ a)
    exact ⟨r, (hT (i + 6) (by omega)).trans h1, h2⟩
theorem Chn.s2 (h : Chn e size B gx f src n xs i D T w) (hD : ∀ j, j ≠ i + 2 → D' j = D j) (hi : D' (i + 2) = true) (hT : ∀ k, k ≠ i + 5 → T' k = T k) (hv : T' (i + 5) = some (.slice src.a n src.cap)) (hd : D (i + 1) = true) : Chn e size B gx f src n xs i D' T' w := by
  have d0 := hD i (by omega)
  have d1 := hD (i + 1) (by omega)
  have d3 := hD (i + 3) (by omega)
  refine ⟨fun a b => ?_, fun a => (hT (i + 4) (by omega)).trans (h.b1 (d1 ▸ a)), fun _ => hv, fun a => ?_, fun _ => d1.trans hd, fun a => ⟨by rw [d0]; exact (h.q3 (d3 ▸ a)).1, hi⟩⟩
  · obtain ⟨g, h1, h2⟩ := h.b0 (d0 ▸ a) (d3 ▸ b)
    exact ⟨g, (hT (i + 3) (by omega)).trans h1, h2⟩
  · obtain ⟨r, h1, h2⟩ := h.b3 (d3 ▸ a)
    exact ⟨r, (hT (i + 6) (by omega)).trans h1, h2⟩
theorem Chn.s3 (h : Chn e size B gx f src n xs i D T w) (hD : ∀ j, j ≠ i + 3 → D' j = D j) (hi : D' (i + 3) = true) (hT : ∀ k, k ≠ i + 6 → T' k = T k) {r : Rw} (hv : T' (i + 6) = some (.slice r.a n r.cap)) (ho : OwnR w' B e size r n xs) (h0 : D i = true) (h2 : D (i + 2) = true) : Chn e size B gx f src n xs i D' T' w' := by
  have d0 := hD i (by omega)
  have d1 := hD (i + 1) (by omega)
  have d2 := hD (i + 2) (by omega)
  exact ⟨fun _ b => (by rw [hi] at b; cases b), fun a => (hT (i + 4) (by omega)).trans (h.b1 (d1 ▸ a)), fun a => (hT (i + 5) (by omega)).trans (h.b2 (d2 ▸ a)), fun _ => ⟨r, hv, ho⟩, fun a => by rw [d1]; exact h.q2 (d2 ▸ a), fun _ => ⟨by rw [d0]; exact h0, by rw [d2]; exact h2⟩⟩
end
theorem copyInfo0 : (Try.prog.info? 9).map (fun i => (i.zero.map fun z => z.cells.size, i.size, i.bytes)) = some (some 1, 1, 16) := by kernel_rfl
theorem copyInfo1 : (Try.prog.info? 78).map (fun i => (i.zero.map fun z => z.cells.size, i.size, i.bytes)) = some (some 3, 3, 48) := by kernel_rfl
theorem copyInfo2 : (Try.prog.info? 55).map (fun i => (i.zero.map fun z => z.cells.size, i.size, i.bytes)) = some (some 4, 4, 56) := by kernel_rfl
theorem copyInfo3 : (Try.prog.info? 53).map (fun i => (i.zero.map fun z => z.cells.size, i.size, i.bytes)) = some (some 3, 3, 32) := by kernel_rfl
theorem copyInfo4 : (Try.prog.info? 50).map (fun i => (i.zero.map fun z => z.cells.size, i.size, i.bytes)) = some (some 6, 6, 64) := by kernel_rfl

structure CpI (w0 : World) (gx gz : Nat) (S : Sv) (m : Md) (ds : List Deferred) (D : Nat → Bool) (a : Act) (w : World) : Prop where
  sz : a.tmps.size = 24
  df : a.defers = ds
  t1 : a.tmps[1]? = some (.pointer (some ⟨gx, 0, none⟩))
  t2 : a.tmps[2]? = some (.pointer (some ⟨gz, 0, none⟩))
  nb : D 21 = false → Below w0.heap.size w0 w
  c0 : D 21 = false → Chn 9 1 w0.heap.size gx 0 S.rq m.rq.length (m.rq.map .string) 0 D (fun k => a.tmps[k]?) w
  c1 : D 21 = false → Chn 78 3 w0.heap.size gx 1 S.im m.im.length (m.im.flatMap imL) 4 D (fun k => a.tmps[k]?) w
  c2 : D 21 = false → Chn 55 4 w0.heap.size gx 2 S.ep m.ep.length (m.ep.flatMap epL) 8 D (fun k => a.tmps[k]?) w
  c3 : D 21 = false → Chn 53 3 w0.heap.size gx 3 S.st m.st.length (m.st.flatMap smL) 12 D (fun k => a.tmps[k]?) w
  c4 : D 21 = false → Chn 50 6 w0.heap.size gx 4 S.ex m.ex.length (m.ex.flatMap exL) 16 D (fun k => a.tmps[k]?) w
  b20 : D 20 = true → D 21 = false → ∃ S', a.tmps[23]? = some (modD S' m) ∧ OwnMd w w0.heap.size S' m
  lt20 : D 20 = true → ∀ i, i < 20 → D i = true
  lt21 : D 21 = true → D 20 = true
  fin : D 21 = true → ∃ S' w1, w = ((((w1.setCell ⟨gz, 0, none⟩ (.slice S'.rq.a m.rq.length S'.rq.cap)).setCell ⟨gz, 1, none⟩ (.slice S'.im.a m.im.length S'.im.cap)).setCell ⟨gz, 2, none⟩ (.slice S'.ep.a m.ep.length S'.ep.cap)).setCell ⟨gz, 3, none⟩ (.slice S'.st.a m.st.length S'.st.cap)).setCell ⟨gz, 4, none⟩ (.slice S'.ex.a m.ex.length S'.ex.cap) ∧ OwnMd w1 w0.heap.size S' m ∧ Below w0.heap.size w0 w1
section
variable {w0 w w' : World} {gx gz : Nat} {S : Sv} {m : Md} {ds : List Deferred} {D : Nat → Bool} {a : Act}
theorem CpI.go (h : CpI w0 gx gz S m ds D a w) {i : Nat} (hi : i < 20) (hd : D i = false) (v : Value) (hb : Below w0.heap.size w0 w')
    (h0 : Chn 9 1 w0.heap.size gx 0 S.rq m.rq.length (m.rq.map .string) 0 (fun j => D j || decide (j = i)) (fun k => (a.put (some (i + 3)) v).tmps[k]?) w')
    (h1 : Chn 78 3 w0.heap.size gx 1 S.im m.im.length (m.im.flatMap imL) 4 (fun j => D j || decide (j = i)) (fun k => (a.put (some (i + 3)) v).tmps[k]?) w')
    (h2 : Chn 55 4 w0.heap.size gx 2 S.ep m.ep.length (m.ep.flatMap epL) 8 (fun j => D j || decide (j = i)) (fun k => (a.put (some (i + 3)) v).tmps[k]?) w')
    (h3 : Chn 53 3 w0.heap.size gx 3 S.st m.st.length (m.st.flatMap smL) 12 (fun j => D j || decide (j = i)) (fun k => (a.put (some (i + 3)) v).tmps[k]?) w')
    (h4 : Chn 50 6 w0.heap.size gx 4 S.ex m.ex.length (m.ex.flatMap exL) 16 (fun j => D j || decide (j = i)) (fun k => (a.put (some (i + 3)) v).tmps[k]?) w')
    : CpI w0 gx gz S m ds (fun j => D j || decide (j = i)) (a.put (some (i + 3)) v) w' := by
  have h20 : D 20 = false := by
    cases h2 : D 20 with
    | false => rfl
    | true => exact absurd (h.lt20 h2 i hi) (by rw [hd]; decide)
  have h21 : D 21 = false := by
    cases h2 : D 21 with
    | false => rfl
    | true => exact absurd (h.lt21 h2) (by rw [h20]; decide)
  have e20 : (D 20 || decide (20 = i)) = false := by rw [h20, decide_eq_false (by omega)]; rfl
  have e21 : (D 21 || decide (21 = i)) = false := by rw [h21, decide_eq_false (by omega)]; rfl
  refine ⟨?_, h.df, ?_, ?_, fun _ => hb, fun _ => h0, fun _ => h1, fun _ => h2, fun _ => h3, fun _ => h4, fun k => ?_, fun k => ?_, fun k => ?_, fun k => ?_⟩
  · show (a.tmps.setIfInBounds _ _).size = 24
    rw [Array.size_setIfInBounds]; exact h.sz
  · show (a.tmps.setIfInBounds _ _)[1]? = _
    rw [Array.getElem?_setIfInBounds_ne (by omega)]; exact h.t1
  · show (a.tmps.setIfInBounds _ _)[2]? = _
    rw [Array.getElem?_setIfInBounds_ne (by omega)]; exact h.t2
  · exact absurd (e20.symm.trans k) (by decide)
  · exact absurd (e20.symm.trans k) (by decide)
  · exact absurd (e21.symm.trans k) (by decide)
  · exact absurd (e21.symm.trans k) (by decide)
theorem CpI.no21 (h : CpI w0 gx gz S m ds D a w) {i : Nat} (hi : i < 20) (hd : D i = false) : D 21 = false := by
  cases h2 : D 21 with
  | false => rfl
  | true => exact absurd (h.lt20 (h.lt21 h2) i hi) (by rw [hd]; decide)
theorem put_other (a : Act) (v : Value) {i k : Nat} (h : k ≠ i) : (a.put (some i) v).tmps[k]? = a.tmps[k]? := by
  show (a.tmps.setIfInBounds _ _)[k]? = _
  exact Array.getElem?_setIfInBounds_ne (fun e => h e.symm)
theorem put_self {a : Act} (v : Value) {i : Nat} (h : i < a.tmps.size) : (a.put (some i) v).tmps[i]? = some v := by
  show (a.tmps.setIfInBounds _ _)[i]? = _
  exact Array.getElem?_setIfInBounds_self_of_lt h
theorem or_other {D : Nat → Bool} {i : Nat} : ∀ j, j ≠ i → (D j || decide (j = i)) = D j := fun j h => by rw [decide_eq_false h, Bool.or_false]
theorem or_self {D : Nat → Bool} {i : Nat} : (D i || decide (i = i)) = true := by simp
theorem op_val {P : Program} {o : Oper} {a : Act} {w w' : World} {v : Value} {K : Act → World → Prop} {Q : Exit → Act → World → Prop} (hr : (execOp a.eval o).run P w = .ok (.value v) w') (h : K (a.put o.dst v) w') : o.wp P a w K Q := by
  unfold Oper.wp
  rw [hr]
  exact h
theorem old_alloc (w : World) (o : Obj) {k : Nat} (h : k < w.heap.size) : (w.alloc o).heap[k]? = w.heap[k]? := heap_alloc_old w o h
theorem CpI.s0 (h : CpI w0 gx gz S m ds D a w) (hd : D 0 = false) : CpI w0 gx gz S m ds (fun j => D j || decide (j = 0)) (a.put (some 3) (.slice (some ⟨w.heap.size, 0, none⟩) 0 0)) (w.alloc (.cells #[] 9)) := by
  have hn := h.no21 (by decide) hd
  have hb := h.nb hn
  exact h.go (i := 0) (by decide) hd _ (hb.alloc hb.size _) ((h.c0 hn).s0 or_other or_self (fun k hk => put_other a _ hk) (put_self _ (by rw [h.sz]; decide)) (World.ownsRow_lit w #[] 0 hb.size (by unfold maxLen; omega) rfl)) ((h.c1 hn).other or_other (fun k hk => put_other a _ hk) (by decide) (fun k _ _ hs _ => old_alloc w _ hs)) ((h.c2 hn).other or_other (fun k hk => put_other a _ hk) (by decide) (fun k _ _ hs _ => old_alloc w _ hs)) ((h.c3 hn).other or_other (fun k hk => put_other a _ hk) (by decide) (fun k _ _ hs _ => old_alloc w _ hs)) ((h.c4 hn).other or_other (fun k hk => put_other a _ hk) (by decide) (fun k _ _ hs _ => old_alloc w _ hs))
theorem CpI.s1 (h : CpI w0 gx gz S m ds D a w) (hd : D 1 = false) : CpI w0 gx gz S m ds (fun j => D j || decide (j = 1)) (a.put (some 4) (.pointer (some ⟨gx, 0, none⟩))) w := by
  have hn := h.no21 (by decide) hd
  exact h.go (i := 1) (by decide) hd _ (h.nb hn) ((h.c0 hn).s1 or_other or_self (fun k hk => put_other a _ hk) (put_self _ (by rw [h.sz]; decide))) ((h.c1 hn).other or_other (fun k hk => put_other a _ hk) (by decide) (fun _ _ _ _ _ => rfl)) ((h.c2 hn).other or_other (fun k hk => put_other a _ hk) (by decide) (fun _ _ _ _ _ => rfl)) ((h.c3 hn).other or_other (fun k hk => put_other a _ hk) (by decide) (fun _ _ _ _ _ => rfl)) ((h.c4 hn).other or_other (fun k hk => put_other a _ hk) (by decide) (fun _ _ _ _ _ => rfl))
theorem CpI.s2 (h : CpI w0 gx gz S m ds D a w) (hd : D 2 = false) (hp : D 1 = true) : CpI w0 gx gz S m ds (fun j => D j || decide (j = 2)) (a.put (some 5) (.slice S.rq.a m.rq.length S.rq.cap)) w := by
  have hn := h.no21 (by decide) hd
  exact h.go (i := 2) (by decide) hd _ (h.nb hn) ((h.c0 hn).s2 or_other or_self (fun k hk => put_other a _ hk) (put_self _ (by rw [h.sz]; decide)) hp) ((h.c1 hn).other or_other (fun k hk => put_other a _ hk) (by decide) (fun _ _ _ _ _ => rfl)) ((h.c2 hn).other or_other (fun k hk => put_other a _ hk) (by decide) (fun _ _ _ _ _ => rfl)) ((h.c3 hn).other or_other (fun k hk => put_other a _ hk) (by decide) (fun _ _ _ _ _ => rfl)) ((h.c4 hn).other or_other (fun k hk => put_other a _ hk) (by decide) (fun _ _ _ _ _ => rfl))
theorem CpI.s3 (h : CpI w0 gx gz S m ds D a w) (hd : D 3 = false) (h0 : D 0 = true) (h2 : D 2 = true) {g : Nat} {r : Rw} (hg0 : OwnR w w0.heap.size 9 1 ⟨some ⟨g, 0, none⟩, 0⟩ 0 []) (ho : OwnR w' w0.heap.size 9 1 r m.rq.length (m.rq.map .string)) (hg : w.grownBy w' (some g)) : CpI w0 gx gz S m ds (fun j => D j || decide (j = 3)) (a.put (some 6) (.slice r.a m.rq.length r.cap)) w' := by
  have hn := h.no21 (by decide) hd
  obtain ⟨_, _, cu, hcu⟩ := hg0.typed (k := g) rfl
  have hk : ∀ (e : TypeId), e ≠ 9 → ∀ (k : Nat) (cur : Array Value), w0.heap.size ≤ k → k < w.heap.size → w.heap[k]? = some (.cells cur e (0, 0)) → w'.heap[k]? = w.heap[k]? := fun e he k cur _ h2 h3 => hg.block k h2 fun ek => by
    have : k = g := Option.some.inj ek
    rw [this, hcu] at h3
    simp only [Option.some.injEq, Obj.cells.injEq] at h3
    exact he h3.2.1.symm
  have hb : Below w0.heap.size w0 w' := (h.nb hn).grown hg (h.nb hn).size fun j ej => by
    have : j = g := (Option.some.inj ej).symm
    rw [this]
    exact (hg0.typed (k := g) rfl).1
  exact h.go (i := 3) (by decide) hd _ hb ((h.c0 hn).s3 or_other or_self (fun k hk => put_other a _ hk) (put_self _ (by rw [h.sz]; decide)) ho h0 h2) ((h.c1 hn).other or_other (fun k hk => put_other a _ hk) (by decide) (hk _ (by decide))) ((h.c2 hn).other or_other (fun k hk => put_other a _ hk) (by decide) (hk _ (by decide))) ((h.c3 hn).other or_other (fun k hk => put_other a _ hk) (by decide) (hk _ (by decide))) ((h.c4 hn).other or_other (fun k hk => put_other a _ hk) (by decide) (hk _ (by decide)))
theorem CpI.s4 (h : CpI w0 gx gz S m ds D a w) (hd : D 4 = false) : CpI w0 gx gz S m ds (fun j => D j || decide (j = 4)) (a.put (some 7) (.slice (some ⟨w.heap.size, 0, none⟩) 0 0)) (w.alloc (.cells #[] 78)) := by
  have hn := h.no21 (by decide) hd
  have hb := h.nb hn
  exact h.go (i := 4) (by decide) hd _ (hb.alloc hb.size _) ((h.c0 hn).other or_other (fun k hk => put_other a _ hk) (by decide) (fun k _ _ hs _ => old_alloc w _ hs)) ((h.c1 hn).s0 or_other or_self (fun k hk => put_other a _ hk) (put_self _ (by rw [h.sz]; decide)) (World.ownsRow_lit w #[] 0 hb.size (by unfold maxLen; omega) rfl)) ((h.c2 hn).other or_other (fun k hk => put_other a _ hk) (by decide) (fun k _ _ hs _ => old_alloc w _ hs)) ((h.c3 hn).other or_other (fun k hk => put_other a _ hk) (by decide) (fun k _ _ hs _ => old_alloc w _ hs)) ((h.c4 hn).other or_other (fun k hk => put_other a _ hk) (by decide) (fun k _ _ hs _ => old_alloc w _ hs))
theorem CpI.s5 (h : CpI w0 gx gz S m ds D a w) (hd : D 5 = false) : CpI w0 gx gz S m ds (fun j => D j || decide (j = 5)) (a.put (some 8) (.pointer (some ⟨gx, 1, none⟩))) w := by
  have hn := h.no21 (by decide) hd
  exact h.go (i := 5) (by decide) hd _ (h.nb hn) ((h.c0 hn).other or_other (fun k hk => put_other a _ hk) (by decide) (fun _ _ _ _ _ => rfl)) ((h.c1 hn).s1 or_other or_self (fun k hk => put_other a _ hk) (put_self _ (by rw [h.sz]; decide))) ((h.c2 hn).other or_other (fun k hk => put_other a _ hk) (by decide) (fun _ _ _ _ _ => rfl)) ((h.c3 hn).other or_other (fun k hk => put_other a _ hk) (by decide) (fun _ _ _ _ _ => rfl)) ((h.c4 hn).other or_other (fun k hk => put_other a _ hk) (by decide) (fun _ _ _ _ _ => rfl))
theorem CpI.s6 (h : CpI w0 gx gz S m ds D a w) (hd : D 6 = false) (hp : D 5 = true) : CpI w0 gx gz S m ds (fun j => D j || decide (j = 6)) (a.put (some 9) (.slice S.im.a m.im.length S.im.cap)) w := by
  have hn := h.no21 (by decide) hd
  exact h.go (i := 6) (by decide) hd _ (h.nb hn) ((h.c0 hn).other or_other (fun k hk => put_other a _ hk) (by decide) (fun _ _ _ _ _ => rfl)) ((h.c1 hn).s2 or_other or_self (fun k hk => put_other a _ hk) (put_self _ (by rw [h.sz]; decide)) hp) ((h.c2 hn).other or_other (fun k hk => put_other a _ hk) (by decide) (fun _ _ _ _ _ => rfl)) ((h.c3 hn).other or_other (fun k hk => put_other a _ hk) (by decide) (fun _ _ _ _ _ => rfl)) ((h.c4 hn).other or_other (fun k hk => put_other a _ hk) (by decide) (fun _ _ _ _ _ => rfl))
theorem CpI.s7 (h : CpI w0 gx gz S m ds D a w) (hd : D 7 = false) (h0 : D 4 = true) (h2 : D 6 = true) {g : Nat} {r : Rw} (hg0 : OwnR w w0.heap.size 78 3 ⟨some ⟨g, 0, none⟩, 0⟩ 0 []) (ho : OwnR w' w0.heap.size 78 3 r m.im.length (m.im.flatMap imL)) (hg : w.grownBy w' (some g)) : CpI w0 gx gz S m ds (fun j => D j || decide (j = 7)) (a.put (some 10) (.slice r.a m.im.length r.cap)) w' := by
  have hn := h.no21 (by decide) hd
  obtain ⟨_, _, cu, hcu⟩ := hg0.typed (k := g) rfl
  have hk : ∀ (e : TypeId), e ≠ 78 → ∀ (k : Nat) (cur : Array Value), w0.heap.size ≤ k → k < w.heap.size → w.heap[k]? = some (.cells cur e (0, 0)) → w'.heap[k]? = w.heap[k]? := fun e he k cur _ h2 h3 => hg.block k h2 fun ek => by
    have : k = g := Option.some.inj ek
    rw [this, hcu] at h3
    simp only [Option.some.injEq, Obj.cells.injEq] at h3
    exact he h3.2.1.symm
  have hb : Below w0.heap.size w0 w' := (h.nb hn).grown hg (h.nb hn).size fun j ej => by
    have : j = g := (Option.some.inj ej).symm
    rw [this]
    exact (hg0.typed (k := g) rfl).1
  exact h.go (i := 7) (by decide) hd _ hb ((h.c0 hn).other or_other (fun k hk => put_other a _ hk) (by decide) (hk _ (by decide))) ((h.c1 hn).s3 or_other or_self (fun k hk => put_other a _ hk) (put_self _ (by rw [h.sz]; decide)) ho h0 h2) ((h.c2 hn).other or_other (fun k hk => put_other a _ hk) (by decide) (hk _ (by decide))) ((h.c3 hn).other or_other (fun k hk => put_other a _ hk) (by decide) (hk _ (by decide))) ((h.c4 hn).other or_other (fun k hk => put_other a _ hk) (by decide) (hk _ (by decide)))
theorem CpI.s8 (h : CpI w0 gx gz S m ds D a w) (hd : D 8 = false) : CpI w0 gx gz S m ds (fun j => D j || decide (j = 8)) (a.put (some 11) (.slice (some ⟨w.heap.size, 0, none⟩) 0 0)) (w.alloc (.cells #[] 55)) := by
  have hn := h.no21 (by decide) hd
  have hb := h.nb hn
  exact h.go (i := 8) (by decide) hd _ (hb.alloc hb.size _) ((h.c0 hn).other or_other (fun k hk => put_other a _ hk) (by decide) (fun k _ _ hs _ => old_alloc w _ hs)) ((h.c1 hn).other or_other (fun k hk => put_other a _ hk) (by decide) (fun k _ _ hs _ => old_alloc w _ hs)) ((h.c2 hn).s0 or_other or_self (fun k hk => put_other a _ hk) (put_self _ (by rw [h.sz]; decide)) (World.ownsRow_lit w #[] 0 hb.size (by unfold maxLen; omega) rfl)) ((h.c3 hn).other or_other (fun k hk => put_other a _ hk) (by decide) (fun k _ _ hs _ => old_alloc w _ hs)) ((h.c4 hn).other or_other (fun k hk => put_other a _ hk) (by decide) (fun k _ _ hs _ => old_alloc w _ hs))
theorem CpI.s9 (h : CpI w0 gx gz S m ds D a w) (hd : D 9 = false) : CpI w0 gx gz S m ds (fun j => D j || decide (j = 9)) (a.put (some 12) (.pointer (some ⟨gx, 2, none⟩))) w := by
  have hn := h.no21 (by decide) hd
  exact h.go (i := 9) (by decide) hd _ (h.nb hn) ((h.c0 hn).other or_other (fun k hk => put_other a _ hk) (by decide) (fun _ _ _ _ _ => rfl)) ((h.c1 hn).other or_other (fun k hk => put_other a _ hk) (by decide) (fun _ _ _ _ _ => rfl)) ((h.c2 hn).s1 or_other or_self (fun k hk => put_other a _ hk) (put_self _ (by rw [h.sz]; decide))) ((h.c3 hn).other or_other (fun k hk => put_other a _ hk) (by decide) (fun _ _ _ _ _ => rfl)) ((h.c4 hn).other or_other (fun k hk => put_other a _ hk) (by decide) (fun _ _ _ _ _ => rfl))
theorem CpI.s10 (h : CpI w0 gx gz S m ds D a w) (hd : D 10 = false) (hp : D 9 = true) : CpI w0 gx gz S m ds (fun j => D j || decide (j = 10)) (a.put (some 13) (.slice S.ep.a m.ep.length S.ep.cap)) w := by
  have hn := h.no21 (by decide) hd
  exact h.go (i := 10) (by decide) hd _ (h.nb hn) ((h.c0 hn).other or_other (fun k hk => put_other a _ hk) (by decide) (fun _ _ _ _ _ => rfl)) ((h.c1 hn).other or_other (fun k hk => put_other a _ hk) (by decide) (fun _ _ _ _ _ => rfl)) ((h.c2 hn).s2 or_other or_self (fun k hk => put_other a _ hk) (put_self _ (by rw [h.sz]; decide)) hp) ((h.c3 hn).other or_other (fun k hk => put_other a _ hk) (by decide) (fun _ _ _ _ _ => rfl)) ((h.c4 hn).other or_other (fun k hk => put_other a _ hk) (by decide) (fun _ _ _ _ _ => rfl))
theorem CpI.s11 (h : CpI w0 gx gz S m ds D a w) (hd : D 11 = false) (h0 : D 8 = true) (h2 : D 10 = true) {g : Nat} {r : Rw} (hg0 : OwnR w w0.heap.size 55 4 ⟨some ⟨g, 0, none⟩, 0⟩ 0 []) (ho : OwnR w' w0.heap.size 55 4 r m.ep.length (m.ep.flatMap epL)) (hg : w.grownBy w' (some g)) : CpI w0 gx gz S m ds (fun j => D j || decide (j = 11)) (a.put (some 14) (.slice r.a m.ep.length r.cap)) w' := by
  have hn := h.no21 (by decide) hd
  obtain ⟨_, _, cu, hcu⟩ := hg0.typed (k := g) rfl
  have hk : ∀ (e : TypeId), e ≠ 55 → ∀ (k : Nat) (cur : Array Value), w0.heap.size ≤ k → k < w.heap.size → w.heap[k]? = some (.cells cur e (0, 0)) → w'.heap[k]? = w.heap[k]? := fun e he k cur _ h2 h3 => hg.block k h2 fun ek => by
    have : k = g := Option.some.inj ek
    rw [this, hcu] at h3
    simp only [Option.some.injEq, Obj.cells.injEq] at h3
    exact he h3.2.1.symm
  have hb : Below w0.heap.size w0 w' := (h.nb hn).grown hg (h.nb hn).size fun j ej => by
    have : j = g := (Option.some.inj ej).symm
    rw [this]
    exact (hg0.typed (k := g) rfl).1
  exact h.go (i := 11) (by decide) hd _ hb ((h.c0 hn).other or_other (fun k hk => put_other a _ hk) (by decide) (hk _ (by decide))) ((h.c1 hn).other or_other (fun k hk => put_other a _ hk) (by decide) (hk _ (by decide))) ((h.c2 hn).s3 or_other or_self (fun k hk => put_other a _ hk) (put_self _ (by rw [h.sz]; decide)) ho h0 h2) ((h.c3 hn).other or_other (fun k hk => put_other a _ hk) (by decide) (hk _ (by decide))) ((h.c4 hn).other or_other (fun k hk => put_other a _ hk) (by decide) (hk _ (by decide)))
theorem CpI.s12 (h : CpI w0 gx gz S m ds D a w) (hd : D 12 = false) : CpI w0 gx gz S m ds (fun j => D j || decide (j = 12)) (a.put (some 15) (.slice (some ⟨w.heap.size, 0, none⟩) 0 0)) (w.alloc (.cells #[] 53)) := by
  have hn := h.no21 (by decide) hd
  have hb := h.nb hn
  exact h.go (i := 12) (by decide) hd _ (hb.alloc hb.size _) ((h.c0 hn).other or_other (fun k hk => put_other a _ hk) (by decide) (fun k _ _ hs _ => old_alloc w _ hs)) ((h.c1 hn).other or_other (fun k hk => put_other a _ hk) (by decide) (fun k _ _ hs _ => old_alloc w _ hs)) ((h.c2 hn).other or_other (fun k hk => put_other a _ hk) (by decide) (fun k _ _ hs _ => old_alloc w _ hs)) ((h.c3 hn).s0 or_other or_self (fun k hk => put_other a _ hk) (put_self _ (by rw [h.sz]; decide)) (World.ownsRow_lit w #[] 0 hb.size (by unfold maxLen; omega) rfl)) ((h.c4 hn).other or_other (fun k hk => put_other a _ hk) (by decide) (fun k _ _ hs _ => old_alloc w _ hs))
theorem CpI.s13 (h : CpI w0 gx gz S m ds D a w) (hd : D 13 = false) : CpI w0 gx gz S m ds (fun j => D j || decide (j = 13)) (a.put (some 16) (.pointer (some ⟨gx, 3, none⟩))) w := by
  have hn := h.no21 (by decide) hd
  exact h.go (i := 13) (by decide) hd _ (h.nb hn) ((h.c0 hn).other or_other (fun k hk => put_other a _ hk) (by decide) (fun _ _ _ _ _ => rfl)) ((h.c1 hn).other or_other (fun k hk => put_other a _ hk) (by decide) (fun _ _ _ _ _ => rfl)) ((h.c2 hn).other or_other (fun k hk => put_other a _ hk) (by decide) (fun _ _ _ _ _ => rfl)) ((h.c3 hn).s1 or_other or_self (fun k hk => put_other a _ hk) (put_self _ (by rw [h.sz]; decide))) ((h.c4 hn).other or_other (fun k hk => put_other a _ hk) (by decide) (fun _ _ _ _ _ => rfl))
theorem CpI.s14 (h : CpI w0 gx gz S m ds D a w) (hd : D 14 = false) (hp : D 13 = true) : CpI w0 gx gz S m ds (fun j => D j || decide (j = 14)) (a.put (some 17) (.slice S.st.a m.st.length S.st.cap)) w := by
  have hn := h.no21 (by decide) hd
  exact h.go (i := 14) (by decide) hd _ (h.nb hn) ((h.c0 hn).other or_other (fun k hk => put_other a _ hk) (by decide) (fun _ _ _ _ _ => rfl)) ((h.c1 hn).other or_other (fun k hk => put_other a _ hk) (by decide) (fun _ _ _ _ _ => rfl)) ((h.c2 hn).other or_other (fun k hk => put_other a _ hk) (by decide) (fun _ _ _ _ _ => rfl)) ((h.c3 hn).s2 or_other or_self (fun k hk => put_other a _ hk) (put_self _ (by rw [h.sz]; decide)) hp) ((h.c4 hn).other or_other (fun k hk => put_other a _ hk) (by decide) (fun _ _ _ _ _ => rfl))
theorem CpI.s15 (h : CpI w0 gx gz S m ds D a w) (hd : D 15 = false) (h0 : D 12 = true) (h2 : D 14 = true) {g : Nat} {r : Rw} (hg0 : OwnR w w0.heap.size 53 3 ⟨some ⟨g, 0, none⟩, 0⟩ 0 []) (ho : OwnR w' w0.heap.size 53 3 r m.st.length (m.st.flatMap smL)) (hg : w.grownBy w' (some g)) : CpI w0 gx gz S m ds (fun j => D j || decide (j = 15)) (a.put (some 18) (.slice r.a m.st.length r.cap)) w' := by
  have hn := h.no21 (by decide) hd
  obtain ⟨_, _, cu, hcu⟩ := hg0.typed (k := g) rfl
  have hk : ∀ (e : TypeId), e ≠ 53 → ∀ (k : Nat) (cur : Array Value), w0.heap.size ≤ k → k < w.heap.size → w.heap[k]? = some (.cells cur e (0, 0)) → w'.heap[k]? = w.heap[k]? := fun e he k cur _ h2 h3 => hg.block k h2 fun ek => by
    have : k = g := Option.some.inj ek
    rw [this, hcu] at h3
    simp only [Option.some.injEq, Obj.cells.injEq] at h3
    exact he h3.2.1.symm
  have hb : Below w0.heap.size w0 w' := (h.nb hn).grown hg (h.nb hn).size fun j ej => by
    have : j = g := (Option.some.inj ej).symm
    rw [this]
    exact (hg0.typed (k := g) rfl).1
  exact h.go (i := 15) (by decide) hd _ hb ((h.c0 hn).other or_other (fun k hk => put_other a _ hk) (by decide) (hk _ (by decide))) ((h.c1 hn).other or_other (fun k hk => put_other a _ hk) (by decide) (hk _ (by decide))) ((h.c2 hn).other or_other (fun k hk => put_other a _ hk) (by decide) (hk _ (by decide))) ((h.c3 hn).s3 or_other or_self (fun k hk => put_other a _ hk) (put_self _ (by rw [h.sz]; decide)) ho h0 h2) ((h.c4 hn).other or_other (fun k hk => put_other a _ hk) (by decide) (hk _ (by decide)))
theorem CpI.s16 (h : CpI w0 gx gz S m ds D a w) (hd : D 16 = false) : CpI w0 gx gz S m ds (fun j => D j || decide (j = 16)) (a.put (some 19) (.slice (some ⟨w.heap.size, 0, none⟩) 0 0)) (w.alloc (.cells #[] 50)) := by
  have hn := h.no21 (by decide) hd
  have hb := h.nb hn
  exact h.go (i := 16) (by decide) hd _ (hb.alloc hb.size _) ((h.c0 hn).other or_other (fun k hk => put_other a _ hk) (by decide) (fun k _ _ hs _ => old_alloc w _ hs)) ((h.c1 hn).other or_other (fun k hk => put_other a _ hk) (by decide) (fun k _ _ hs _ => old_alloc w _ hs)) ((h.c2 hn).other or_other (fun k hk => put_other a _ hk) (by decide) (fun k _ _ hs _ => old_alloc w _ hs)) ((h.c3 hn).other or_other (fun k hk => put_other a _ hk) (by decide) (fun k _ _ hs _ => old_alloc w _ hs)) ((h.c4 hn).s0 or_other or_self (fun k hk => put_other a _ hk) (put_self _ (by rw [h.sz]; decide)) (World.ownsRow_lit w #[] 0 hb.size (by unfold maxLen; omega) rfl))
theorem CpI.s17 (h : CpI w0 gx gz S m ds D a w) (hd : D 17 = false) : CpI w0 gx gz S m ds (fun j => D j || decide (j = 17)) (a.put (some 20) (.pointer (some ⟨gx, 4, none⟩))) w := by
  have hn := h.no21 (by decide) hd
  exact h.go (i := 17) (by decide) hd _ (h.nb hn) ((h.c0 hn).other or_other (fun k hk => put_other a _ hk) (by decide) (fun _ _ _ _ _ => rfl)) ((h.c1 hn).other or_other (fun k hk => put_other a _ hk) (by decide) (fun _ _ _ _ _ => rfl)) ((h.c2 hn).other or_other (fun k hk => put_other a _ hk) (by decide) (fun _ _ _ _ _ => rfl)) ((h.c3 hn).other or_other (fun k hk => put_other a _ hk) (by decide) (fun _ _ _ _ _ => rfl)) ((h.c4 hn).s1 or_other or_self (fun k hk => put_other a _ hk) (put_self _ (by rw [h.sz]; decide)))
theorem CpI.s18 (h : CpI w0 gx gz S m ds D a w) (hd : D 18 = false) (hp : D 17 = true) : CpI w0 gx gz S m ds (fun j => D j || decide (j = 18)) (a.put (some 21) (.slice S.ex.a m.ex.length S.ex.cap)) w := by
  have hn := h.no21 (by decide) hd
  exact h.go (i := 18) (by decide) hd _ (h.nb hn) ((h.c0 hn).other or_other (fun k hk => put_other a _ hk) (by decide) (fun _ _ _ _ _ => rfl)) ((h.c1 hn).other or_other (fun k hk => put_other a _ hk) (by decide) (fun _ _ _ _ _ => rfl)) ((h.c2 hn).other or_other (fun k hk => put_other a _ hk) (by decide) (fun _ _ _ _ _ => rfl)) ((h.c3 hn).other or_other (fun k hk => put_other a _ hk) (by decide) (fun _ _ _ _ _ => rfl)) ((h.c4 hn).s2 or_other or_self (fun k hk => put_other a _ hk) (put_self _ (by rw [h.sz]; decide)) hp)
theorem CpI.s19 (h : CpI w0 gx gz S m ds D a w) (hd : D 19 = false) (h0 : D 16 = true) (h2 : D 18 = true) {g : Nat} {r : Rw} (hg0 : OwnR w w0.heap.size 50 6 ⟨some ⟨g, 0, none⟩, 0⟩ 0 []) (ho : OwnR w' w0.heap.size 50 6 r m.ex.length (m.ex.flatMap exL)) (hg : w.grownBy w' (some g)) : CpI w0 gx gz S m ds (fun j => D j || decide (j = 19)) (a.put (some 22) (.slice r.a m.ex.length r.cap)) w' := by
  have hn := h.no21 (by decide) hd
  obtain ⟨_, _, cu, hcu⟩ := hg0.typed (k := g) rfl
  have hk : ∀ (e : TypeId), e ≠ 50 → ∀ (k : Nat) (cur : Array Value), w0.heap.size ≤ k → k < w.heap.size → w.heap[k]? = some (.cells cur e (0, 0)) → w'.heap[k]? = w.heap[k]? := fun e he k cur _ h2 h3 => hg.block k h2 fun ek => by
    have : k = g := Option.some.inj ek
    rw [this, hcu] at h3
    simp only [Option.some.injEq, Obj.cells.injEq] at h3
    exact he h3.2.1.symm
  have hb : Below w0.heap.size w0 w' := (h.nb hn).grown hg (h.nb hn).size fun j ej => by
    have : j = g := (Option.some.inj ej).symm
    rw [this]
    exact (hg0.typed (k := g) rfl).1
  exact h.go (i := 19) (by decide) hd _ hb ((h.c0 hn).other or_other (fun k hk => put_other a _ hk) (by decide) (hk _ (by decide))) ((h.c1 hn).other or_other (fun k hk => put_other a _ hk) (by decide) (hk _ (by decide))) ((h.c2 hn).other or_other (fun k hk => put_other a _ hk) (by decide) (hk _ (by decide))) ((h.c3 hn).other or_other (fun k hk => put_other a _ hk) (by decide) (hk _ (by decide))) ((h.c4 hn).s3 or_other or_self (fun k hk => put_other a _ hk) (put_self _ (by rw [h.sz]; decide)) ho h0 h2)
theorem CpI.s20 (h : CpI w0 gx gz S m ds D a w) (hd : D 20 = false) (h3 : D 3 = true) (h7 : D 7 = true) (h11 : D 11 = true) (h15 : D 15 = true) (h19 : D 19 = true) {S' : Sv} (ho : OwnMd w w0.heap.size S' m) : CpI w0 gx gz S m ds (fun j => D j || decide (j = 20)) (a.put (some 23) (modD S' m)) w := by
  have h21 : D 21 = false := by
    cases h2 : D 21 with
    | false => rfl
    | true => exact absurd (h.lt21 h2) (by rw [hd]; decide)
  have e21 : (D 21 || decide (21 = 20)) = false := by rw [h21]; rfl
  refine ⟨?_, h.df, ?_, ?_, fun _ => h.nb h21, ?_, ?_, ?_, ?_, ?_, fun _ _ => ⟨S', put_self _ (by rw [h.sz]; decide), ho⟩, fun _ i hi => ?_, fun k => ?_, fun k => ?_⟩
  · show (a.tmps.setIfInBounds _ _).size = 24
    rw [Array.size_setIfInBounds]; exact h.sz
  · exact (put_other a _ (by decide)).trans h.t1
  · exact (put_other a _ (by decide)).trans h.t2
  · exact fun _ => (h.c0 h21).other (io := 20) or_other (fun k hk => put_other a _ hk) (by decide) (fun _ _ _ _ _ => rfl)
  · exact fun _ => (h.c1 h21).other (io := 20) or_other (fun k hk => put_other a _ hk) (by decide) (fun _ _ _ _ _ => rfl)
  · exact fun _ => (h.c2 h21).other (io := 20) or_other (fun k hk => put_other a _ hk) (by decide) (fun _ _ _ _ _ => rfl)
  · exact fun _ => (h.c3 h21).other (io := 20) or_other (fun k hk => put_other a _ hk) (by decide) (fun _ _ _ _ _ => rfl)
  · exact fun _ => (h.c4 h21).other (io := 20) or_other (fun k hk => put_other a _ hk) (by decide) (fun _ _ _ _ _ => rfl)
  · rw [or_other i (by omega)]
    have q0 := (h.c0 h21).q3 h3
    have q1 := (h.c1 h21).q3 h7
    have q2 := (h.c2 h21).q3 h11
    have q3 := (h.c3 h21).q3 h15
    have q4 := (h.c4 h21).q3 h19
    have p0 := (h.c0 h21).q2 q0.2
    have p1 := (h.c1 h21).q2 q1.2
    have p2 := (h.c2 h21).q2 q2.2
    have p3 := (h.c3 h21).q2 q3.2
    have p4 := (h.c4 h21).q2 q4.2
    obtain rfl | rfl | rfl | rfl | rfl | rfl | rfl | rfl | rfl | rfl | rfl | rfl | rfl | rfl | rfl | rfl | rfl | rfl | rfl | rfl : i = 0 ∨ i = 1 ∨ i = 2 ∨ i = 3 ∨ i = 4 ∨ i = 5 ∨ i = 6 ∨ i = 7 ∨ i = 8 ∨ i = 9 ∨ i = 10 ∨ i = 11 ∨ i = 12 ∨ i = 13 ∨ i = 14 ∨ i = 15 ∨ i = 16 ∨ i = 17 ∨ i = 18 ∨ i = 19 := by omega
    · exact q0.1
    · exact p0
    · exact q0.2
    · exact h3
    · exact q1.1
    · exact p1
    · exact q1.2
    · exact h7
    · exact q2.1
    · exact p2
    · exact q2.2
    · exact h11
    · exact q3.1
    · exact p3
    · exact q3.2
    · exact h15
    · exact q4.1
    · exact p4
    · exact q4.2
    · exact h19
  · exact absurd (e21.symm.trans k) (by decide)
  · exact absurd (e21.symm.trans k) (by decide)
theorem CpI.s21 (h : CpI w0 gx gz S m ds D a w) (h20 : D 20 = true) {S' : Sv} (ho : OwnMd w w0.heap.size S' m) (hb : Below w0.heap.size w0 w) : CpI w0 gx gz S m ds (fun j => D j || decide (j = 21)) a (((((w.setCell ⟨gz, 0, none⟩ (.slice S'.rq.a m.rq.length S'.rq.cap)).setCell ⟨gz, 1, none⟩ (.slice S'.im.a m.im.length S'.im.cap)).setCell ⟨gz, 2, none⟩ (.slice S'.ep.a m.ep.length S'.ep.cap)).setCell ⟨gz, 3, none⟩ (.slice S'.st.a m.st.length S'.st.cap)).setCell ⟨gz, 4, none⟩ (.slice S'.ex.a m.ex.length S'.ex.cap)) := by
  have no : ∀ {p : Prop}, (D 21 || decide (21 = 21)) = false → p := fun k => by simp at k
  exact ⟨h.sz, h.df, h.t1, h.t2, fun k => no k, fun k => no k, fun k => no k, fun k => no k, fun k => no k, fun k => no k, fun _ k => no k, fun _ i hi => by rw [or_other i (by omega)]; exact h.lt20 h20 i hi, fun _ => by rw [or_other 20 (by decide)]; exact h20, fun _ => ⟨S', w, rfl, ho, hb⟩⟩
end
end Go.Proofs.Ytaakfnclelcopaa
