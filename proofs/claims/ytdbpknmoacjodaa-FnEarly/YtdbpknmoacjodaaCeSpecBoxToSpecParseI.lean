/-
  Boxes of a program under way, through calls and stores. No program is spoken of but for the numbers of its types.
  A row of pairs of names beside a program under way. No program is spoken of but for the numbers of its types.
  What spec's l4Tail answers: the walk.
  What spec's l4List answers: the walk.
  What spec's l4Part answers, if l4Sum answers so behind it: the walks.
  What spec's l4Part answers where no number and no bracket stands, in a script: the walks.
  What spec's l4Part answers where no number and no bracket stands: the walks.
-/
import Derived.Deep.Cut
import Derived.Test.YtdbpknmoacjodaaCeDrawModMemToSpecParseE
import Derived.Deep.DeepCutAuto
namespace Go.Proofs.Ytdbpknmoacjodaa
open Go.RowKit Go.PlainAid

abbrev set12 (w : World) (b : Nat) (x0 x1 x2 x3 x4 x5 x6 x7 x8 x9 x10 x11 : Value) : World :=
  ((((((((((((w.setCell ⟨b, 0, none⟩ x0).setCell ⟨b, 1, none⟩ x1).setCell ⟨b, 2, none⟩ x2).setCell ⟨b, 3, none⟩ x3).setCell ⟨b, 4, none⟩ x4).setCell ⟨b, 5, none⟩ x5).setCell ⟨b, 6, none⟩ x6).setCell ⟨b, 7, none⟩ x7).setCell ⟨b, 8, none⟩ x8).setCell ⟨b, 9, none⟩ x9).setCell ⟨b, 10, none⟩ x10).setCell ⟨b, 11, none⟩ x11)
theorem setCell_size (w : World) (a : Addr) (u : Value) : (w.setCell a u).heap.size = w.heap.size := by show (w.heap.modify _ _).size = _; simp
theorem set12_size (w : World) (b : Nat) (x0 x1 x2 x3 x4 x5 x6 x7 x8 x9 x10 x11 : Value) : (set12 w b x0 x1 x2 x3 x4 x5 x6 x7 x8 x9 x10 x11).heap.size = w.heap.size := by
  unfold set12
  simp only [setCell_size]
theorem set12_other {w : World} {b k : Nat} (h : k ≠ b) (x0 x1 x2 x3 x4 x5 x6 x7 x8 x9 x10 x11 : Value) : (set12 w b x0 x1 x2 x3 x4 x5 x6 x7 x8 x9 x10 x11).heap[k]? = w.heap[k]? := by
  unfold set12
  rw [pother h, pother h, pother h, pother h, pother h, pother h, pother h, pother h, pother h, pother h, pother h, pother h]
structure Bx (gt : Nat) (S : Sv) (w : World) (b : Nat) (cs : Array Value) : Prop where
  heap : w.heap[b]? = some (.cells cs 164 (0, 0))
  free : ¬ S.has b
  ne : b ≠ gt
theorem Bx.lt {gt b : Nat} {S : Sv} {w : World} {cs : Array Value} (h : Bx gt S w b cs) : b < w.heap.size := (Array.getElem?_eq_some_iff.1 h.heap).1
theorem Bx.stp {gt b : Nat} {S S' : Sv} {w w' : World} {cs : Array Value} (h : Bx gt S w b cs) (k : Stp S w S' w') : Bx gt S' w' b cs :=
  ⟨(k.block b h.lt h.free).trans h.heap, fun g => (k.sub b g).elim h.free fun g' => by have := h.lt; omega, h.ne⟩
theorem Bx.below {gt b : Nat} {S : Sv} {w w' : World} {cs : Array Value} (h : Bx gt S w b cs) (k : Below w.heap.size w w') : Bx gt S w' b cs := ⟨(k.block b h.lt).trans h.heap, h.free, h.ne⟩
theorem Bx.alloc {gt b : Nat} {S : Sv} {w : World} {cs : Array Value} (h : Bx gt S w b cs) (o : Obj) : Bx gt S (w.alloc o) b cs := h.below ((Below.refl _ _).alloc (Nat.le_refl _) _)
theorem Bx.new {C : Cx} {gt cap base : Nat} {S : Sv} {q : PS} {w : World} (h : Mem C gt cap base S q w) (cs : Array Value) : Bx gt S (w.alloc (.cells cs 164 (0, 0))) w.heap.size cs :=
  ⟨heap_alloc_new w _, fun g => by have := (h.own.has g).2; omega, by have := (ownT_lt h.tok).1; omega⟩
theorem Bx.set {gt b : Nat} {S : Sv} {w : World} {cs : Array Value} (h : Bx gt S w b cs) (i : Nat) (u : Value) : Bx gt S (w.setCell ⟨b, i, none⟩ u) b (cs.setIfInBounds i u) := ⟨pcell h.heap, h.free, h.ne⟩
theorem Bx.set_other {gt b c : Nat} {S : Sv} {w : World} {cs : Array Value} (h : Bx gt S w b cs) (hc : b ≠ c) (i : Nat) (u : Value) : Bx gt S (w.setCell ⟨c, i, none⟩ u) b cs := ⟨(pother hc).trans h.heap, h.free, h.ne⟩
theorem Bx.put {gt b : Nat} {S : Sv} {w : World} {v0 v1 v2 v3 v4 v5 v6 v7 v8 v9 v10 v11 : Value} (h : Bx gt S w b #[v0, v1, v2, v3, v4, v5, v6, v7, v8, v9, v10, v11]) (x0 x1 x2 x3 x4 x5 x6 x7 x8 x9 x10 x11 : Value) :
    Bx gt S (set12 w b x0 x1 x2 x3 x4 x5 x6 x7 x8 x9 x10 x11) b #[x0, x1, x2, x3, x4, x5, x6, x7, x8, x9, x10, x11] := ⟨put12 h.heap, h.free, h.ne⟩
theorem Bx.other {gt b c : Nat} {S : Sv} {w : World} {cs : Array Value} (h : Bx gt S w b cs) (hc : b ≠ c) (x0 x1 x2 x3 x4 x5 x6 x7 x8 x9 x10 x11 : Value) : Bx gt S (set12 w c x0 x1 x2 x3 x4 x5 x6 x7 x8 x9 x10 x11) b cs := ⟨(set12_other hc _ _ _ _ _ _ _ _ _ _ _ _).trans h.heap, h.free, h.ne⟩
theorem Bx.at1 {gt b : Nat} {S : Sv} {w : World} {v0 v1 v2 v3 v4 v5 v6 v7 v8 v9 v10 v11 : Value} (h : Bx gt S w b #[v0, v1, v2, v3, v4, v5, v6, v7, v8, v9, v10, v11]) (u : Value) : Bx gt S (w.setCell ⟨b, 1, none⟩ u) b #[v0, u, v2, v3, v4, v5, v6, v7, v8, v9, v10, v11] := by simpa using h.set 1 u
theorem Bx.at11 {gt b : Nat} {S : Sv} {w : World} {v0 v1 v2 v3 v4 v5 v6 v7 v8 v9 v10 v11 : Value} (h : Bx gt S w b #[v0, v1, v2, v3, v4, v5, v6, v7, v8, v9, v10, v11]) (u : Value) : Bx gt S (w.setCell ⟨b, 11, none⟩ u) b #[v0, v1, v2, v3, v4, v5, v6, v7, v8, v9, v10, u] := by simpa using h.set 11 u
theorem Bx.box {gt b : Nat} {S : Sv} {w : World} {v0 v1 v2 v3 v4 v5 v6 v7 v8 v9 v10 v11 : Value} (h : Bx gt S w b #[v0, v1, v2, v3, v4, v5, v6, v7, v8, v9, v10, v11]) : Box w b v0 v1 v2 v3 v4 v5 v6 v7 v8 v9 v10 v11 := box_of h.heap
theorem Mem.set {C : Cx} {gt cap base b : Nat} {S : Sv} {q : PS} {w : World} (h : Mem C gt cap base S q w) {cs : Array Value} (hb : Bx gt S w b cs) (i : Nat) (u : Value) : Mem C gt cap base S q (w.setCell ⟨b, i, none⟩ u) :=
  ⟨h.own.keep fun k g => pother (b := k) fun e => hb.free (by rw [← e]; exact g), h.inv, ownT_keep h.tok (pother hb.ne.symm), h.few, by rw [setCell_size]; exact h.base⟩
theorem Mem.put {C : Cx} {gt cap base b : Nat} {S : Sv} {q : PS} {w : World} (h : Mem C gt cap base S q w) {cs : Array Value} (hb : Bx gt S w b cs) (x0 x1 x2 x3 x4 x5 x6 x7 x8 x9 x10 x11 : Value) : Mem C gt cap base S q (set12 w b x0 x1 x2 x3 x4 x5 x6 x7 x8 x9 x10 x11) :=
  ⟨h.own.keep fun k g => set12_other (k := k) (fun e => hb.free (by rw [← e]; exact g)) _ _ _ _ _ _ _ _ _ _ _ _, h.inv, ownT_keep h.tok (set12_other hb.ne.symm _ _ _ _ _ _ _ _ _ _ _ _), h.few, by rw [set12_size]; exact h.base⟩

structure SB (B : Nat) (S : Sv) (w : World) (S' : Sv) (w' : World) : Prop where
  os : w'.os = w.os
  tape : w'.tape = w.tape
  output : w'.output = w.output
  size : w.heap.size ≤ w'.heap.size
  low : B ≤ w.heap.size
  block : ∀ k, k < B → ¬ S.has k → w'.heap[k]? = w.heap[k]?
  sub : ∀ k, S'.has k → S.has k ∨ B ≤ k
theorem SB.start {S : Sv} {w w' : World} (h : Below w.heap.size w w') : SB w.heap.size S w S w' := ⟨h.os, h.tape, h.output, h.size, Nat.le_refl _, fun k hk _ => h.block k hk, fun _ g => .inl g⟩
theorem SB.step {B : Nat} {S S1 S2 : Sv} {w w1 w2 : World} (h : SB B S w S1 w1) (k : Stp S1 w1 S2 w2) : SB B S w S2 w2 :=
  ⟨k.os.trans h.os, k.tape.trans h.tape, k.output.trans h.output, Nat.le_trans h.size k.size, h.low,
    fun i hi hn => (k.block i (by have := h.size; have := h.low; omega) fun g => (h.sub i g).elim hn fun g' => by omega).trans (h.block i hi hn),
    fun i hi => (k.sub i hi).elim (h.sub i) fun g => .inr (by have := h.size; have := h.low; omega)⟩
theorem SB.below {B : Nat} {S S1 : Sv} {w w1 w2 : World} (h : SB B S w S1 w1) (k : Below w1.heap.size w1 w2) : SB B S w S1 w2 := h.step (Stp.below k)
theorem SB.alloc {B : Nat} {S S1 : Sv} {w w1 : World} (h : SB B S w S1 w1) (o : Obj) : SB B S w S1 (w1.alloc o) := h.below ((Below.refl _ _).alloc (Nat.le_refl _) _)
theorem SB.set {B : Nat} {S S1 : Sv} {w w1 : World} (h : SB B S w S1 w1) {b : Nat} (hb : B ≤ b) (i : Nat) (u : Value) : SB B S w S1 (w1.setCell ⟨b, i, none⟩ u) :=
  ⟨h.os, h.tape, h.output, by rw [setCell_size]; exact h.size, h.low, fun k hk hn => (pother (by omega)).trans (h.block k hk hn), h.sub⟩
theorem SB.put {B : Nat} {S S1 : Sv} {w w1 : World} (h : SB B S w S1 w1) {b : Nat} (hb : B ≤ b) (x0 x1 x2 x3 x4 x5 x6 x7 x8 x9 x10 x11 : Value) : SB B S w S1 (set12 w1 b x0 x1 x2 x3 x4 x5 x6 x7 x8 x9 x10 x11) :=
  (((((((((((h.set hb 0 x0).set hb 1 x1).set hb 2 x2).set hb 3 x3).set hb 4 x4).set hb 5 x5).set hb 6 x6).set hb 7 x7).set hb 8 x8).set hb 9 x9).set hb 10 x10).set hb 11 x11
theorem SB.done {S S1 : Sv} {w w1 : World} (h : SB w.heap.size S w S1 w1) : Stp S w S1 w1 := ⟨h.os, h.tape, h.output, h.size, h.block, h.sub⟩
theorem world_any {P : Program} {code : Code} {Q : Exit → Act → World → Prop} {a : Act} {w0 : World} {R : World → Prop} (h0 : R w0) (h : ∀ W, R W → Code.wp P code Q a W) : Code.wp P code Q a w0 := h w0 h0
theorem Mem.two {C : Cx} {gt cap base : Nat} {S : Sv} {q : PS} {w w1 : World} {ca cb : Array Value} (h : Mem C gt cap base S q w) (hb : Below ((w.alloc (.cells ca 164 (0, 0))).alloc (.cells cb 164 (0, 0))).heap.size ((w.alloc (.cells ca 164 (0, 0))).alloc (.cells cb 164 (0, 0))) w1) :
    Bx gt S w1 w.heap.size ca ∧ Bx gt S w1 (w.heap.size + 1) cb ∧ Mem C gt cap base S q w1 ∧ SB w.heap.size S w S w1 :=
  ⟨((Bx.new h _).alloc _).below hb, by have := (Bx.new (h.alloc (.cells ca 164 (0, 0))) cb).below hb; rw [alloc_size] at this; exact this, h.later (two_below hb), SB.start (two_below hb)⟩
theorem Mem.two2 {C : Cx} {gt cap base : Nat} {S S1 : Sv} {q : PS} {w w1 : World} {ca cb : Array Value} (h : Mem C gt cap base S q w) (s : Stp S ((w.alloc (.cells ca 164 (0, 0))).alloc (.cells cb 164 (0, 0))) S1 w1) :
    Bx gt S1 w1 w.heap.size ca ∧ Bx gt S1 w1 (w.heap.size + 1) cb ∧ SB w.heap.size S w S1 w1 :=
  ⟨((Bx.new h _).alloc _).stp s, by have := (Bx.new (h.alloc (.cells ca 164 (0, 0))) cb).stp s; rw [alloc_size] at this; exact this, (SB.start (below2 w _ _)).step s⟩
theorem Bx.boxC {gt b : Nat} {S : Sv} {w : World} {v0 v1 v2 v3 v4 v5 v6 v7 v8 v9 v10 v11 : Value} (h : Bx gt S w b #[v0, v1, v2, v3, v4, v5, v6, v7, v8, v9, v10, v11]) : w.cell? ⟨b, 0, none⟩ = some v0 ∧ w.cell? ⟨b, 1, none⟩ = some v1 ∧ w.cell? ⟨b, 2, none⟩ = some v2 ∧ w.cell? ⟨b, 3, none⟩ = some v3 ∧ w.cell? ⟨b, 4, none⟩ = some v4 ∧ w.cell? ⟨b, 5, none⟩ = some v5 ∧ w.cell? ⟨b, 6, none⟩ = some v6 ∧ w.cell? ⟨b, 7, none⟩ = some v7 ∧ w.cell? ⟨b, 8, none⟩ = some v8 ∧ w.cell? ⟨b, 9, none⟩ = some v9 ∧ w.cell? ⟨b, 10, none⟩ = some v10 ∧ w.cell? ⟨b, 11, none⟩ = some v11 ∧ ∀ i, w.frozen? ⟨b, i, none⟩ = false :=
  have k := h.box
  ⟨k.c0, k.c1, k.c2, k.c3, k.c4, k.c5, k.c6, k.c7, k.c8, k.c9, k.c10, k.c11, k.fz⟩
theorem Bx.ret {gt b : Nat} {S : Sv} {w : World} {v0 v1 v2 v3 v4 v5 v6 v7 v8 v9 v10 v11 : Value} (h : Bx gt S w b #[v0, v1, v2, v3, v4, v5, v6, v7, v8, v9, v10, v11]) {fn : Func} {p : Tmp} {tmps : Array Value} {R : Ending → World → Prop} (hr : fn.results = #[.cell p 164]) (hp : tmps.getD p undef = .pointer (some ⟨b, 0, none⟩)) (hR : R (.returned (.agg #[v0, v1, v2, v3, v4, v5, v6, v7, v8, v9, v10, v11])) w) : bodyPost Try.prog fn R .ret { tmps := tmps, defers := [] } w :=
  bodyPost_ret (results_cell_row hr _ _ b 164 _ (0, 0) _ hp h.heap Try.underlying164 rfl (by kernel_rfl)) rfl hR
structure Fm (C : Cx) (gt cap base : Nat) (S0 : Sv) (w0 : World) (S : Sv) (q : PS) (bs : List (Nat × Array Value)) (w : World) : Prop where
  x : ∀ b ∈ bs, Bx gt S w b.1 b.2
  d : bs.Pairwise fun a b => a.1 ≠ b.1
  g : ∀ b ∈ bs, w0.heap.size ≤ b.1
  m : Mem C gt cap base S q w
  t : SB w0.heap.size S0 w0 S w
section
variable {C : Cx} {gt cap base b b0 b1 b2 b3 : Nat} {S0 S S1 : Sv} {w0 w w1 : World} {q q1 : PS} {bs l1 : List (Nat × Array Value)} {cs c0 c1 c2 c3 : Array Value} {v0 v1 v2 v3 v4 v5 v6 v7 v8 v9 v10 v11 : Value}
theorem Fm.x0 (F : Fm C gt cap base S0 w0 S q ((b0, c0) :: bs) w) : Bx gt S w b0 c0 := F.x _ (List.mem_cons_self ..)
theorem Fm.x1 (F : Fm C gt cap base S0 w0 S q ((b0, c0) :: (b1, c1) :: bs) w) : Bx gt S w b1 c1 := F.x (b1, c1) (by simp)
theorem Fm.x2 (F : Fm C gt cap base S0 w0 S q ((b0, c0) :: (b1, c1) :: (b2, c2) :: bs) w) : Bx gt S w b2 c2 := F.x (b2, c2) (by simp)
theorem Fm.x3 (F : Fm C gt cap base S0 w0 S q ((b0, c0) :: (b1, c1) :: (b2, c2) :: (b3, c3) :: bs) w) : Bx gt S w b3 c3 := F.x (b3, c3) (by simp)
theorem Fm.below (F : Fm C gt cap base S0 w0 S q bs w) (k : Below w.heap.size w w1) : Fm C gt cap base S0 w0 S q bs w1 := ⟨fun b h => (F.x b h).below k, F.d, F.g, F.m.later k, F.t.below k⟩
theorem Fm.stp (F : Fm C gt cap base S0 w0 S q bs w) (m : Mem C gt cap base S1 q1 w1) (k : Stp S w S1 w1) : Fm C gt cap base S0 w0 S1 q1 bs w1 := ⟨fun b h => (F.x b h).stp k, F.d, F.g, m, F.t.step k⟩
theorem Fm.alloc (F : Fm C gt cap base S0 w0 S q bs w) (o : Obj) : Fm C gt cap base S0 w0 S q bs (w.alloc o) := F.below ((Below.refl _ _).alloc (Nat.le_refl _) _)
theorem Fm.adv (F : Fm C gt cap base S0 w0 S q bs w) (h : q.pos < C.ts.length) : Fm C gt cap base S0 w0 S (adv q) bs w := ⟨F.x, F.d, F.g, F.m.adv h, F.t⟩
theorem Fm.new (F : Fm C gt cap base S0 w0 S q bs w) (cs : Array Value) : Fm C gt cap base S0 w0 S q (bs ++ [(w.heap.size, cs)]) (w.alloc (.cells cs 164 (0, 0))) := by
  refine ⟨fun b h => ?_, ?_, fun b h => ?_, F.m.alloc _, F.t.alloc _⟩
  · rcases List.mem_append.1 h with h | h
    · exact (F.x b h).alloc _
    · rw [List.mem_singleton.1 h]; exact Bx.new F.m cs
  · refine List.pairwise_append.2 ⟨F.d, List.pairwise_singleton _ _, fun a ha b hb => ?_⟩
    rw [List.mem_singleton.1 hb]
    exact Nat.ne_of_lt (F.x a ha).lt
  · rcases List.mem_append.1 h with h | h
    · exact F.g b h
    · rw [List.mem_singleton.1 h]; exact F.t.size
theorem Fm.new2 (F : Fm C gt cap base S0 w0 S q [(b0, c0), (b1, c1)] w) (cs : Array Value) : Fm C gt cap base S0 w0 S q [(b0, c0), (b1, c1), (w.heap.size, cs)] (w.alloc (.cells cs 164 (0, 0))) := F.new cs
theorem Fm.new3 (F : Fm C gt cap base S0 w0 S q [(b0, c0), (b1, c1), (b2, c2)] w) (cs : Array Value) : Fm C gt cap base S0 w0 S q [(b0, c0), (b1, c1), (b2, c2), (w.heap.size, cs)] (w.alloc (.cells cs 164 (0, 0))) := F.new cs
theorem Fm.turn (F : Fm C gt cap base S0 w0 S q (l1 ++ (b, cs) :: bs) w) (hb : Bx gt S w1 b c0) (ho : ∀ k, k ≠ b → ∀ c, Bx gt S w k c → Bx gt S w1 k c) (hm : Mem C gt cap base S q w1) (ht : SB w0.heap.size S0 w0 S w1) : Fm C gt cap base S0 w0 S q (l1 ++ (b, c0) :: bs) w1 := by
  obtain ⟨d1, d2, d3⟩ := List.pairwise_append.1 F.d
  obtain ⟨d4, d5⟩ := List.pairwise_cons.1 d2
  refine ⟨fun a h => ?_, List.pairwise_append.2 ⟨d1, List.pairwise_cons.2 ⟨d4, d5⟩, fun a ha c hc => ?_⟩, fun a h => ?_, hm, ht⟩
  · rcases List.mem_append.1 h with h | h
    · exact ho _ (d3 a h _ (List.mem_cons_self ..)) _ (F.x a (List.mem_append_left _ h))
    · rcases List.mem_cons.1 h with h | h
      · rw [h]; exact hb
      · exact ho _ (d4 a h).symm _ (F.x a (List.mem_append_right _ (List.mem_cons_of_mem _ h)))
  · rcases List.mem_cons.1 hc with h | h
    · rw [h]; exact d3 a ha (b, cs) (List.mem_cons_self ..)
    · exact d3 a ha c (List.mem_cons_of_mem _ h)
  · rcases List.mem_append.1 h with h | h
    · exact F.g a (List.mem_append_left _ h)
    · rcases List.mem_cons.1 h with h | h
      · rw [h]; exact F.g (b, cs) (List.mem_append_right _ (List.mem_cons_self ..))
      · exact F.g a (List.mem_append_right _ (List.mem_cons_of_mem _ h))
theorem Fm.put (F : Fm C gt cap base S0 w0 S q (l1 ++ (b, #[v0, v1, v2, v3, v4, v5, v6, v7, v8, v9, v10, v11]) :: bs) w) (x0 x1 x2 x3 x4 x5 x6 x7 x8 x9 x10 x11 : Value) : Fm C gt cap base S0 w0 S q (l1 ++ (b, #[x0, x1, x2, x3, x4, x5, x6, x7, x8, x9, x10, x11]) :: bs) (set12 w b x0 x1 x2 x3 x4 x5 x6 x7 x8 x9 x10 x11) :=
  have h : Bx gt S w b #[v0, v1, v2, v3, v4, v5, v6, v7, v8, v9, v10, v11] := F.x (b, _) (List.mem_append_right _ (List.mem_cons_self ..))
  F.turn (h.put _ _ _ _ _ _ _ _ _ _ _ _) (fun _ hk _ h1 => h1.other hk _ _ _ _ _ _ _ _ _ _ _ _) (F.m.put h _ _ _ _ _ _ _ _ _ _ _ _) (F.t.put (F.g (b, _) (List.mem_append_right _ (List.mem_cons_self ..))) _ _ _ _ _ _ _ _ _ _ _ _)
theorem Fm.put0 (F : Fm C gt cap base S0 w0 S q ((b, #[v0, v1, v2, v3, v4, v5, v6, v7, v8, v9, v10, v11]) :: bs) w) (x0 x1 x2 x3 x4 x5 x6 x7 x8 x9 x10 x11 : Value) : Fm C gt cap base S0 w0 S q ((b, #[x0, x1, x2, x3, x4, x5, x6, x7, x8, x9, x10, x11]) :: bs) (set12 w b x0 x1 x2 x3 x4 x5 x6 x7 x8 x9 x10 x11) := Fm.put (l1 := []) F _ _ _ _ _ _ _ _ _ _ _ _
theorem Fm.put1 (F : Fm C gt cap base S0 w0 S q ((b0, c0) :: (b, #[v0, v1, v2, v3, v4, v5, v6, v7, v8, v9, v10, v11]) :: bs) w) (x0 x1 x2 x3 x4 x5 x6 x7 x8 x9 x10 x11 : Value) : Fm C gt cap base S0 w0 S q ((b0, c0) :: (b, #[x0, x1, x2, x3, x4, x5, x6, x7, x8, x9, x10, x11]) :: bs) (set12 w b x0 x1 x2 x3 x4 x5 x6 x7 x8 x9 x10 x11) := Fm.put (l1 := [(b0, c0)]) F _ _ _ _ _ _ _ _ _ _ _ _
theorem Fm.put2 (F : Fm C gt cap base S0 w0 S q ((b0, c0) :: (b1, c1) :: (b, #[v0, v1, v2, v3, v4, v5, v6, v7, v8, v9, v10, v11]) :: bs) w) (x0 x1 x2 x3 x4 x5 x6 x7 x8 x9 x10 x11 : Value) : Fm C gt cap base S0 w0 S q ((b0, c0) :: (b1, c1) :: (b, #[x0, x1, x2, x3, x4, x5, x6, x7, x8, x9, x10, x11]) :: bs) (set12 w b x0 x1 x2 x3 x4 x5 x6 x7 x8 x9 x10 x11) := Fm.put (l1 := [(b0, c0), (b1, c1)]) F _ _ _ _ _ _ _ _ _ _ _ _
theorem Fm.put3 (F : Fm C gt cap base S0 w0 S q ((b0, c0) :: (b1, c1) :: (b2, c2) :: (b, #[v0, v1, v2, v3, v4, v5, v6, v7, v8, v9, v10, v11]) :: bs) w) (x0 x1 x2 x3 x4 x5 x6 x7 x8 x9 x10 x11 : Value) : Fm C gt cap base S0 w0 S q ((b0, c0) :: (b1, c1) :: (b2, c2) :: (b, #[x0, x1, x2, x3, x4, x5, x6, x7, x8, x9, x10, x11]) :: bs) (set12 w b x0 x1 x2 x3 x4 x5 x6 x7 x8 x9 x10 x11) := Fm.put (l1 := [(b0, c0), (b1, c1), (b2, c2)]) F _ _ _ _ _ _ _ _ _ _ _ _
theorem Fm.set0_1 (F : Fm C gt cap base S0 w0 S q ((b, #[v0, v1, v2, v3, v4, v5, v6, v7, v8, v9, v10, v11]) :: bs) w) (u : Value) : Fm C gt cap base S0 w0 S q ((b, #[v0, u, v2, v3, v4, v5, v6, v7, v8, v9, v10, v11]) :: bs) (w.setCell ⟨b, 1, none⟩ u) :=
  have h : Bx gt S w b #[v0, v1, v2, v3, v4, v5, v6, v7, v8, v9, v10, v11] := F.x (b, _) (by simp)
  Fm.turn (l1 := []) F (h.at1 u) (fun _ hk _ h1 => h1.set_other hk 1 u) (F.m.set h 1 u) (F.t.set (F.g (b, #[v0, v1, v2, v3, v4, v5, v6, v7, v8, v9, v10, v11]) (by simp)) 1 u)
theorem Fm.set0_11 (F : Fm C gt cap base S0 w0 S q ((b, #[v0, v1, v2, v3, v4, v5, v6, v7, v8, v9, v10, v11]) :: bs) w) (u : Value) : Fm C gt cap base S0 w0 S q ((b, #[v0, v1, v2, v3, v4, v5, v6, v7, v8, v9, v10, u]) :: bs) (w.setCell ⟨b, 11, none⟩ u) :=
  have h : Bx gt S w b #[v0, v1, v2, v3, v4, v5, v6, v7, v8, v9, v10, v11] := F.x (b, _) (by simp)
  Fm.turn (l1 := []) F (h.at11 u) (fun _ hk _ h1 => h1.set_other hk 11 u) (F.m.set h 11 u) (F.t.set (F.g (b, #[v0, v1, v2, v3, v4, v5, v6, v7, v8, v9, v10, v11]) (by simp)) 11 u)
theorem Fm.set2_1 (F : Fm C gt cap base S0 w0 S q ((b0, c0) :: (b1, c1) :: (b, #[v0, v1, v2, v3, v4, v5, v6, v7, v8, v9, v10, v11]) :: bs) w) (u : Value) : Fm C gt cap base S0 w0 S q ((b0, c0) :: (b1, c1) :: (b, #[v0, u, v2, v3, v4, v5, v6, v7, v8, v9, v10, v11]) :: bs) (w.setCell ⟨b, 1, none⟩ u) :=
  have h : Bx gt S w b #[v0, v1, v2, v3, v4, v5, v6, v7, v8, v9, v10, v11] := F.x (b, _) (by simp)
  Fm.turn (l1 := [(b0, c0), (b1, c1)]) F (h.at1 u) (fun _ hk _ h1 => h1.set_other hk 1 u) (F.m.set h 1 u) (F.t.set (F.g (b, #[v0, v1, v2, v3, v4, v5, v6, v7, v8, v9, v10, v11]) (by simp)) 1 u)
theorem Fm.of2 (x0 : Bx gt S w b0 c0) (x1 : Bx gt S w b1 c1) (m : Mem C gt cap base S q w) (t : SB w0.heap.size S0 w0 S w) (h : b0 ≠ b1) (g0 : w0.heap.size ≤ b0) (g1 : w0.heap.size ≤ b1) : Fm C gt cap base S0 w0 S q [(b0, c0), (b1, c1)] w := by
  refine ⟨fun b hb => ?_, by simp [h], fun b hb => ?_, m, t⟩
  · simp at hb
    rcases hb with rfl | rfl
    · exact x0
    · exact x1
  · simp at hb
    rcases hb with rfl | rfl
    · exact g0
    · exact g1
theorem Fm.cut {P : Program} {code : Code} {Q : Exit → Act → World → Prop} {a : Act} (F : Fm C gt cap base S0 w0 S q bs w) (h : ∀ W, Fm C gt cap base S0 w0 S q bs W → Code.wp P code Q a W) : Code.wp P code Q a w := h w F
theorem Fm.cutR {P : Program} {code : Code} {Q : Exit → Act → World → Prop} {a : Act} {RW : World → Prop} (F : Fm C gt cap base S0 w0 S q bs w) (r : RW w) (h : ∀ W, Fm C gt cap base S0 w0 S q bs W → RW W → Code.wp P code Q a W) : Code.wp P code Q a w := h w F r
theorem Mem.fm {ca cb : Array Value} (h : Mem C gt cap base S q w) (hb : Below ((w.alloc (.cells ca 164 (0, 0))).alloc (.cells cb 164 (0, 0))).heap.size ((w.alloc (.cells ca 164 (0, 0))).alloc (.cells cb 164 (0, 0))) w1) : Fm C gt cap base S w S q [(w.heap.size, ca), (w.heap.size + 1, cb)] w1 :=
  have ⟨h1, h2, h3, h4⟩ := h.two hb
  Fm.of2 h1 h2 h3 h4 (by omega) (by omega) (by omega)
theorem Mem.fm2 {ca cb : Array Value} (h : Mem C gt cap base S q w) (m : Mem C gt cap base S1 q1 w1) (s : Stp S ((w.alloc (.cells ca 164 (0, 0))).alloc (.cells cb 164 (0, 0))) S1 w1) : Fm C gt cap base S w S1 q1 [(w.heap.size, ca), (w.heap.size + 1, cb)] w1 :=
  have ⟨h1, h2, h3⟩ := h.two2 s
  Fm.of2 h1 h2 m h3 (by omega) (by omega) (by omega)
end
theorem out_done {C : Cx} {gt cap base : Nat} {y : PR} {d : Nat} {S S' : Sv} {w w' : World} {q' : PS} {z' : Int} {v : Value} (hv : v = pv C gt cap S' q' z' d) (hi : Is y q' z') (hm : Mem C gt cap base S' q' w') (hs : SB w.heap.size S w S' w') : Out C gt cap base y d S w (.returned v) w' :=
  ⟨S', q', z', by rw [hv], hi, hm, hs.done⟩
theorem Fm.done {C : Cx} {gt cap base : Nat} {y : PR} {d : Nat} {S S' : Sv} {w w' : World} {q' : PS} {z' : Int} {v : Value} {bs : List (Nat × Array Value)} (F : Fm C gt cap base S w S' q' bs w') (hv : v = pv C gt cap S' q' z' d) (hi : Is y q' z') : Out C gt cap base y d S w (.returned v) w' := out_done hv hi F.m F.t
end Go.Proofs.Ytdbpknmoacjodaa
namespace Go.Proofs.Ytdbpknmoacjodaa
open Go.RowKit Go.PlainAid

structure Row (S : Sv) (w : World) (base B : Nat) (r : Rw) (l : List Ep) : Prop where
  own : OwnR w base 79 4 r l.length (l.flatMap epL)
  free : ∀ k, r.blk = some k → ¬ S.has k
  new : ∀ k, r.blk = some k → B ≤ k
  addr : ∃ g, r.a = some ⟨g, 0, none⟩
theorem Row.ne {gt b : Nat} {S : Sv} {w : World} {base B : Nat} {r : Rw} {l : List Ep} {cs : Array Value} (h : Row S w base B r l) (hb : Bx gt S w b cs) : ∀ k, r.blk = some k → k ≠ b := by
  rintro k hk rfl
  obtain ⟨_, _, c, g⟩ := h.own.typed hk
  rw [hb.heap] at g
  simp only [Option.some.injEq, Obj.cells.injEq] at g
  exact absurd g.2.1 (by decide)
theorem Row.stp {S S' : Sv} {w w' : World} {base B : Nat} {r : Rw} {l : List Ep} (h : Row S w base B r l) (s : Stp S w S' w') : Row S' w' base B r l :=
  ⟨h.own.keep fun k hk => s.block k (h.own.typed hk).2.1 (h.free k hk), fun k hk g => (s.sub k g).elim (h.free k hk) fun g' => by have := (h.own.typed hk).2.1; omega, h.new, h.addr⟩
theorem Row.below {S : Sv} {w w' : World} {base B : Nat} {r : Rw} {l : List Ep} (h : Row S w base B r l) (s : Below w.heap.size w w') : Row S w' base B r l := h.stp (Stp.below s)
theorem Row.alloc {S : Sv} {w : World} {base B : Nat} {r : Rw} {l : List Ep} (h : Row S w base B r l) (o : Obj) : Row S (w.alloc o) base B r l := h.below ((Below.refl _ _).alloc (Nat.le_refl _) _)
theorem Row.drew {S : Sv} {w : World} {base B : Nat} {r : Rw} {l : List Ep} (h : Row S w base B r l) : Row S w.drew base B r l := ⟨h.own, h.free, h.new, h.addr⟩
theorem Row.set {gt b : Nat} {S : Sv} {w : World} {base B : Nat} {r : Rw} {l : List Ep} {cs : Array Value} (h : Row S w base B r l) (hb : Bx gt S w b cs) (i : Nat) (u : Value) : Row S (w.setCell ⟨b, i, none⟩ u) base B r l :=
  ⟨h.own.keep fun k hk => pother (h.ne hb k hk), h.free, h.new, h.addr⟩
theorem Row.put {gt b : Nat} {S : Sv} {w : World} {base B : Nat} {r : Rw} {l : List Ep} {cs : Array Value} (h : Row S w base B r l) (hb : Bx gt S w b cs) (x0 x1 x2 x3 x4 x5 x6 x7 x8 x9 x10 x11 : Value) : Row S (set12 w b x0 x1 x2 x3 x4 x5 x6 x7 x8 x9 x10 x11) base B r l :=
  ⟨h.own.keep fun k hk => set12_other (h.ne hb k hk) _ _ _ _ _ _ _ _ _ _ _ _, h.free, h.new, h.addr⟩
theorem Row.nil {C : Cx} {gt cap base B : Nat} {S : Sv} {q : PS} {w : World} (h : Mem C gt cap base S q w) (hB : B ≤ w.heap.size) : Row S (w.alloc (.cells #[] 79 (0, 0))) base B ⟨some ⟨w.heap.size, 0, none⟩, 0⟩ [] := by
  refine ⟨World.ownsRow_lit w #[] 0 h.base (by unfold maxLen; omega) rfl, fun k hk g => ?_, fun k hk => ?_, ⟨_, rfl⟩⟩
  · simp only [Rw.blk, Value.ownBlock, Option.some.injEq] at hk
    have := (h.own.has g).2
    omega
  · simp only [Rw.blk, Value.ownBlock, Option.some.injEq] at hk
    omega
theorem Row.grow {C : Cx} {gt cap base B : Nat} {S : Sv} {q : PS} {W w' : World} {r r' : Rw} {l : List Ep} {x : Ep} (h : Row S W base B r l) (hm : Mem C gt cap base S q W) (hB : B ≤ W.heap.size) (hg : W.grownBy w' r.blk) (hr : OwnR w' base 79 4 r' (l.length + 1) (l.flatMap epL ++ epL x)) (hat : r'.blk = r.blk ∨ r'.blk = some W.heap.size) :
    Row S w' base B r' (l ++ [x]) ∧ Mem C gt cap base S q w' := by
  refine ⟨⟨?_, fun k hk g => ?_, fun k hk => ?_, hr.addr.resolve_left (by omega)⟩, ?_⟩
  · have e : (l ++ [x]).length = l.length + 1 := by simp
    rw [e]
    simpa using hr
  · rcases hat with e | e
    · exact h.free k (by rw [← e]; exact hk) g
    · have h1 : W.heap.size = k := Option.some.inj (e.symm.trans hk)
      have := (hm.own.has g).2
      omega
  · rcases hat with e | e
    · exact h.new k (by rw [← e]; exact hk)
    · have h1 : W.heap.size = k := Option.some.inj (e.symm.trans hk)
      omega
  · have hkeep : ∀ k, k < W.heap.size → r.blk ≠ some k → w'.heap[k]? = W.heap[k]? := fun k hk hne => hg.block k hk fun e => hne e.symm
    refine ⟨hm.own.keep fun k hk => hkeep k (hm.own.has hk).2 fun e => h.free k e hk, hm.inv, ownT_keep hm.tok (hkeep gt (ownT_lt hm.tok).1 fun e => ?_), hm.few, Nat.le_trans hm.base hg.size⟩
    obtain ⟨_, _, c, g⟩ := h.own.typed e
    obtain ⟨c', g'⟩ := ownT_block hm.tok
    rw [g] at g'
    simp only [Option.some.injEq, Obj.cells.injEq] at g'
    exact absurd g'.2.1 (by decide)
theorem Row.bx {gt b : Nat} {S : Sv} {W w' : World} {base B : Nat} {r : Rw} {l : List Ep} {cs : Array Value} (h : Row S W base B r l) (hb : Bx gt S W b cs) (hg : W.grownBy w' r.blk) : Bx gt S w' b cs :=
  ⟨(hg.block b hb.lt fun e => h.ne hb b e.symm rfl).trans hb.heap, hb.free, hb.ne⟩
theorem Row.sb {S S0 : Sv} {w W w' : World} {base : Nat} {B : Nat} {r : Rw} {l : List Ep} (h : Row S W base B r l) (hs : SB B S0 w S W) (hg : W.grownBy w' r.blk) : SB B S0 w S w' :=
  ⟨hg.os.trans hs.os, hg.tape.trans hs.tape, hg.output.trans hs.output, Nat.le_trans hs.size hg.size, hs.low, fun k hk hn => (hg.block k (by have := hs.size; have := hs.low; omega) fun e => by have := h.new k e.symm; omega).trans (hs.block k hk hn), hs.sub⟩

theorem Mem.list3 {C : Cx} {gt cap base : Nat} {S S1 : Sv} {q : PS} {w w1 : World} {ca cb : Array Value} (h : Mem C gt cap base S q w) (s : Stp S (((w.alloc (.cells ca 164 (0, 0))).alloc (.cells cb 164 (0, 0))).alloc (.cells #[] 79 (0, 0))) S1 w1) :
    Bx gt S1 w1 w.heap.size ca ∧ Bx gt S1 w1 (w.heap.size + 1) cb ∧ Row S1 w1 base w.heap.size ⟨some ⟨w.heap.size + 1 + 1, 0, none⟩, 0⟩ [] ∧ SB w.heap.size S w S1 w1 := by
  refine ⟨(((Bx.new h _).alloc _).alloc _).stp s, ?_, ?_, (SB.start (below3 w _ _ _)).step s⟩
  · have := ((Bx.new (h.alloc (.cells ca 164 (0, 0))) cb).alloc (.cells #[] 79 (0, 0))).stp s
    rw [alloc_size] at this
    exact this
  · have := (Row.nil (B := w.heap.size) ((h.alloc (.cells ca 164 (0, 0))).alloc (.cells cb 164 (0, 0))) (below2 w _ _).size).stp s
    rw [size2] at this
    exact this
def Is3 (y : PRL) (q : PS) (z : Int) (l : List Ep) : Prop :=
  match y with
  | .ok a => q = a.1 ∧ z = -1 ∧ l = a.2
  | .error e => z = (e : Int)
def Out3 (C : Cx) (gt cap base : Nat) (y : PRL) (d : Nat) (S : Sv) (w : World) (e : Ending) (w' : World) : Prop :=
  ∃ S' q' z' r l, e = .returned (.tuple #[pv C gt cap S' q' z' d, .slice r.a l.length r.cap, .bool (anyB l)]) ∧ Is3 y q' z' l ∧ Mem C gt cap base S' q' w' ∧ Stp S w S' w' ∧ Row S' w' base w.heap.size r l ∧ l.length ≤ 4001
theorem anyB_add (l : List Ep) (x : Ep) : anyB (l ++ [x]) = (anyB l || (x.loc.toList == [100, 101, 102, 97, 117, 108, 116])) := by simp [anyB]
theorem results_cell_two {fn : Func} {p u v : Tmp} {ty : TypeId} (h : fn.results = #[.cell p ty, .tmp u, .tmp v]) (tmps : Array Value) (P : Program) (w : World) :
    (results fn tmps).run P w = ((asAddr (tmps.getD p undef)).run P w).andThen fun a w' => ((loadVar ty a).run P w').andThen fun x w'' => .ok (.tuple #[x, tmps.getD u undef, tmps.getD v undef]) w'' := by
  simp only [results, h]
  simp [Sem.run_bind, Result.andThen]
theorem results_cell_tmp2 {P : Program} {fn : Func} {p u v : Tmp} {ty : TypeId} (h : fn.results = #[.cell p ty, .tmp u, .tmp v]) (tmps : Array Value) (w : World) (g : Nat) (t : TypeId) (cs : Array Value) (fr : Nat × Nat) (d : TypeDesc)
    (hp : tmps.getD p undef = .pointer (some ⟨g, 0, none⟩)) (hg : w.heap[g]? = some (.cells cs t fr))
    (hu : P.underlying ty = some d) (hd : (match d with | .struct _ | .array _ _ => true | _ => false) = true) (hi : (P.info? ty).map (·.size) = some cs.size) :
    (results fn tmps).run P w = .ok (.tuple #[.agg cs, tmps.getD u undef, tmps.getD v undef]) w := by
  rw [results_cell_two h, hp]
  simp [asAddr, Result.andThen, run_loadVar_row w g t ty cs fr d hg hu hd hi]
end Go.Proofs.Ytdbpknmoacjodaa
namespace Go.Proofs.Ytdbpknmoacjodaa
open Go.RowKit Go.PlainAid

theorem pos_tok {C : Cx} {x : PR} {k : Int} {s : ByteArray} {q : PS} {z : Int} (h : Is (bd x (tokP C k s)) q z) : z < 0 → 1 ≤ q.pos := by
  intro hz
  obtain ⟨e, _⟩ := is_neg h hz
  obtain ⟨a, _, h2⟩ := bd_eq_ok e
  obtain ⟨rfl, _⟩ := tokP_ok h2
  simp [adv]
set_option maxRecDepth 100000 in
set_option maxHeartbeats 3200000 in
theorem l4Tail_spec (C : Cx) (gt cap base : Nat) (S : Sv) (q : PS) (d : Nat) (nm : ByteArray) (w : World) (hm : Mem C gt cap base S q w) (hp : 1 ≤ q.pos) :
    Calls Try.prog 216 #[pv C gt cap S q (-1) d, .string nm] w (Out C gt cap base (tailP C nm q) d S w) := by
  have HM := hidI hm
  have htok := hm.tok
  have hfew := hm.few
  clear hm
  cases hi : isT C q.pos 4 cOpen with
  | true =>
    have HV : Hid (tailP C nm q = bd (bd (bd (.ok q) (tokP C 4 cOpen)) (tokP C 4 cShut)) (addEx C ⟨3, 0, nm, sNone, 0, 0⟩)) := if_pos hi
    unfold pv
    go_enter Try.func216, Try.ntmps216
    go_wp2_with fail
    refine (is_spec C gt cap base S q (-1) d 4 cOpen _ (ownT_alloc (ownT_alloc htok _) _) hfew (by decide)).mono ?_
    rintro e w1 ⟨rfl, hb1⟩
    rw [hi]
    have F := HM.out.fm hb1
    clear htok
    have ab := F.x0.boxC
    go_wp2_with fail
    refine (l4Sign_spec C gt cap base (.ok q) S q (-1) d cOpen _ (is_ok q) F.m).mono ?_
    rintro e w2 ⟨S2, q2, z2, rfl, hi2, m2, s2⟩
    replace F := F.stp m2 s2
    clear ab
    go_wp2_with fail
    refine (l4Sign_spec C gt cap base _ S2 q2 z2 d cShut _ hi2.out F.m).mono ?_
    rintro e w3 ⟨S3, q3, z3, rfl, hi3, m3, s3⟩
    replace F := F.stp m3 s3
    have ab := F.x0.boxC
    unfold pv
    go_wp2_with fail
    refine (l4Add_spec C gt cap base _ S3 q3 z3 d ⟨3, 0, nm, sNone, 0, 0⟩ _ hi3.out (F.put0 _ _ _ _ _ _ _ _ _ _ _ _).m (pos_tok hi3.out)).mono ?_
    rintro e w4 ⟨S4, q4, z4, rfl, hi4, m4, s4⟩
    replace F := (F.put0 _ _ _ _ _ _ _ _ _ _ _ _).stp m4 s4
    clear ab
    have bb := F.x1.boxC
    unfold pv
    go_wp2
    refine (F.x1.put _ _ _ _ _ _ _ _ _ _ _ _).ret rfl rfl ?_
    rw [HV.out]
    exact (F.put1 _ _ _ _ _ _ _ _ _ _ _ _).done rfl hi4.out
  | false =>
    have HV : Hid (tailP C nm q = bd (.ok q) (addEx C ⟨2, 0, nm, sNone, 0, 0⟩)) := by show tailP C nm q = _; rw [tailP, hi]; rfl
    unfold pv
    go_enter Try.func216, Try.ntmps216
    go_wp2_with fail
    refine (is_spec C gt cap base S q (-1) d 4 cOpen _ (ownT_alloc (ownT_alloc htok _) _) hfew (by decide)).mono ?_
    rintro e w1 ⟨rfl, hb1⟩
    rw [hi]
    have F := HM.out.fm hb1
    clear htok
    have ab := F.x0.boxC
    go_wp2_with fail
    refine (l4Add_spec C gt cap base (.ok q) S q (-1) d ⟨2, 0, nm, sNone, 0, 0⟩ _ (is_ok q) F.m (fun _ => hp)).mono ?_
    rintro e w2 ⟨S2, q2, z2, rfl, hi2, m2, s2⟩
    replace F := F.stp m2 s2
    clear ab
    have bb := F.x1.boxC
    unfold pv
    go_wp2
    refine (F.x1.put _ _ _ _ _ _ _ _ _ _ _ _).ret rfl rfl ?_
    rw [HV.out]
    exact (F.put1 _ _ _ _ _ _ _ _ _ _ _ _).done rfl hi2.out
end Go.Proofs.Ytdbpknmoacjodaa
namespace Go.Proofs.Ytdbpknmoacjodaa
open Go.RowKit Go.PlainAid

theorem list_end {C : Cx} {exp : Bool} {l : List Ep} {Y : PRN} {n3 n5 : ByteArray} {q3 q5 q6 : PS} {z3 z5 z6 : Int} (h3 : Is2 Y q3 z3 n3) (h5 : Is2 (bd Y (asP C exp)) q5 z5 n5) (hc : (decide (z5 < 0) && isT C q5.pos 4 cComma) = false) (h6 : Is (bd (fstP (bd Y (asP C exp))) (tokP C 4 cRight)) q6 z6) :
    Is3 (bd Y fun a => bd (asP C exp a) fun b => if isT C b.1.pos 4 cComma then listL C exp (adv b.1) (l ++ [⟨0, b.2, a.2, sNone⟩]) else bd (tokP C 4 cRight b.1) fun q' => .ok (q', l ++ [⟨0, b.2, a.2, sNone⟩])) q6 z6 (l ++ [⟨0, n5, n3, sNone⟩]) := by
  cases Y with
  | error e => exact h6
  | ok a =>
    obtain ⟨_, _, rfl⟩ := h3
    rw [bd_ok] at h5 h6 ⊢
    cases hA : asP C exp a with
    | error e => rw [hA] at h6; exact h6
    | ok b =>
      rw [hA] at h5 h6
      obtain ⟨rfl, rfl, rfl⟩ := h5
      rw [Bool.and_eq_false_iff] at hc
      rw [bd_ok, hc.resolve_left (by decide)]
      have e : bd (fstP (.ok b)) (tokP C 4 cRight) = tokP C 4 cRight b.1 := rfl
      rw [e] at h6
      show Is3 (bd (tokP C 4 cRight b.1) _) _ _ _
      cases hT : tokP C 4 cRight b.1 with
      | error e => rw [hT] at h6; exact h6
      | ok c => rw [hT] at h6; exact ⟨h6.1, h6.2, rfl⟩
theorem list_next {C : Cx} {exp : Bool} {l : List Ep} {q2 q3 q5 : PS} {n3 n5 : ByteArray} {z3 z5 : Int} (h3 : Is2 (bd (.ok q2) (nameP C true)) q3 z3 n3) (h5 : Is2 (bd (bd (.ok q2) (nameP C true)) (asP C exp)) q5 z5 n5) (hz : z5 < 0) (hc : isT C q5.pos 4 cComma = true) :
    (bd (.ok q2) fun q => listL C exp q l) = (bd (.ok (adv q5)) fun q => listL C exp q (l ++ [⟨0, n5, n3, sNone⟩])) ∧ q2.pos + 1 ≤ q5.pos := by
  rw [bd_ok] at h3 h5 ⊢
  rw [bd_ok, listL_step]
  cases hY : nameP C true q2 with
  | error e => rw [hY] at h5; have : z5 = (e : Int) := h5; omega
  | ok a =>
    rw [hY] at h3 h5
    obtain ⟨_, _, rfl⟩ := h3
    rw [bd_ok] at h5 ⊢
    obtain ⟨rfl, _⟩ := nameP_ok hY
    cases hA : asP C exp (adv q2, (tokAt C q2.pos).text) with
    | error e => rw [hA] at h5; have : z5 = (e : Int) := h5; omega
    | ok b =>
      rw [hA] at h5
      obtain ⟨rfl, rfl, rfl⟩ := h5
      have := asP_ok hA
      rw [bd_ok, hc]
      exact ⟨rfl, this⟩
theorem list_stop {C : Cx} {exp : Bool} {x : PR} {q q6 : PS} {z z6 : Int} {l : List Ep} (hi : Is x q z) (hz : ¬ z < 0) (h6 : Is (bd x (tokP C 4 cRight)) q6 z6) : Is3 (bd x fun q => listL C exp q l) q6 z6 l := by
  obtain ⟨e, rfl, _⟩ := is_bad hi hz
  exact h6
theorem as_yes {C : Cx} {exp : Bool} {Y : PRN} {q3 q4 : PS} {z3 z4 : Int} {n3 n4 : ByteArray} (h3 : Is2 Y q3 z3 n3) (hb : (decide (z3 < 0) && isT C q3.pos 1 sAs) = true) (h4 : Is2 (bd (.ok (adv q3)) (nameP C exp)) q4 z4 n4) : Is2 (bd Y (asP C exp)) q4 z4 n4 := by
  rw [Bool.and_eq_true, decide_eq_true_eq] at hb
  cases Y with
  | error e => have : z3 = (e : Int) := h3; omega
  | ok a =>
    obtain ⟨rfl, _, _⟩ := h3
    rw [bd_ok, asP, if_pos hb.2]
    exact h4
theorem as_fail {C : Cx} {exp : Bool} {Y : PRN} {q3 : PS} {z3 : Int} {n3 : ByteArray} (h3 : Is2 Y q3 z3 n3) (hb : (decide (z3 < 0) && isT C q3.pos 1 sAs) = false) (hd : ((n3.toList == [100, 101, 102, 97, 117, 108, 116]) && !exp) = true) : Is2 (bd Y (asP C exp)) q3 (badOf C q3.pos z3) n3 := by
  cases Y with
  | error e =>
    have h : z3 = (e : Int) := h3
    show badOf C q3.pos z3 = (e : Int)
    rw [badOf, if_neg (by omega)]
    exact h
  | ok a =>
    obtain ⟨rfl, rfl, rfl⟩ := h3
    rw [Bool.and_eq_false_iff] at hb
    rw [bd_ok, asP, hb.resolve_left (by decide), hd]
    rfl
theorem as_plain {C : Cx} {exp : Bool} {Y : PRN} {q3 : PS} {z3 : Int} {n3 : ByteArray} (h3 : Is2 Y q3 z3 n3) (hb : (decide (z3 < 0) && isT C q3.pos 1 sAs) = false) (hd : ((n3.toList == [100, 101, 102, 97, 117, 108, 116]) && !exp) = false) : Is2 (bd Y (asP C exp)) q3 z3 n3 := by
  cases Y with
  | error e => exact h3
  | ok a =>
    obtain ⟨rfl, rfl, rfl⟩ := h3
    rw [Bool.and_eq_false_iff] at hb
    rw [bd_ok, asP, hb.resolve_left (by decide), hd]
    exact ⟨rfl, rfl, rfl⟩
set_option maxRecDepth 100000 in
set_option maxHeartbeats 6400000 in
theorem l4List_spec (C : Cx) (gt cap base : Nat) (S : Sv) (q : PS) (d : Nat) (exp : Bool) (w : World) (hm : Mem C gt cap base S q w) :
    Calls Try.prog 196 #[pv C gt cap S q (-1) d, .bool exp] w (Out3 C gt cap base (listP C exp q) d S w) := by
  obtain ⟨i0, hi, hz0, hz1, hz2⟩ := info_parts Try.infoExp
  have HM := hidI hm
  have hfew := hm.few
  clear hm
  unfold pv
  go_enter Try.func196, Try.ntmps196
  go_wp2_with fail
  refine (l4Sign_spec C gt cap base (.ok q) S q (-1) d cLeft _ (is_ok q) (((HM.out.alloc _).alloc _).alloc _)).mono ?_
  rintro e w1 ⟨S1, q1, z1, rfl, hi1, m1, s1⟩
  obtain ⟨X0, X1, R0, t1⟩ := HM.out.list3 s1
  have F := Fm.of2 X0 X1 m1 t1 (by omega) (by omega) (by omega)
  have hR := hidI R0
  clear m1 s1 X0 X1 R0 t1
  have ab := F.x0.boxC
  unfold pv
  go_wp2
  go_loopg [7, 8] (C.ts.length + 1) (fun k o an wr => ∃ (x' : PR) (S' : Sv) (q' : PS) (z' : Int) (r : Rw) (l : List Ep), Is x' q' z' ∧ bd x' (fun q => listL C exp q l) = listP C exp q ∧ (z' < 0 → C.ts.length - q'.pos < k) ∧ (l.length ≤ q'.pos ∨ l = []) ∧ o = .slice r.a l.length r.cap ∧ an = .bool (anyB l) ∧ Mem C gt cap base S' q' wr ∧ SB w.heap.size S w S' wr ∧ Bx gt S' wr w.heap.size #[.slice (some ⟨gt, 0, none⟩) C.ts.length cap, .int .i64 q'.pos, .int .i64 C.fin, .bool C.scr, .slice S'.rq.a q'.rq.length S'.rq.cap, .slice S'.im.a q'.im.length S'.im.cap, .slice S'.ep.a q'.ep.length S'.ep.cap, .slice S'.st.a q'.st.length S'.st.cap, .slice S'.ex.a q'.ex.length S'.ex.cap, .slice S'.la.a q'.la.length S'.la.cap, .int .i64 z', .int .i64 d] ∧ Bx gt S' wr (w.heap.size + 1) #[.slice none 0 0, .int .i64 0, .int .i64 0, .bool false, .slice none 0 0, .slice none 0 0, .slice none 0 0, .slice none 0 0, .slice none 0 0, .slice none 0 0, .int .i64 0, .int .i64 0] ∧ Row S' wr base w.heap.size r l)
  case atStart => exact ⟨_, S1, q1, z1, _, [], hi1.out, rfl, fun _ => by omega, .inr rfl, rfl, rfl, (F.put0 _ _ _ _ _ _ _ _ _ _ _ _).m, (F.put0 _ _ _ _ _ _ _ _ _ _ _ _).t, (F.put0 _ _ _ _ _ _ _ _ _ _ _ _).x0, (F.put0 _ _ _ _ _ _ _ _ _ _ _ _).x1, (hR.out.put F.x0 _ _ _ _ _ _ _ _ _ _ _ _)⟩
  case round =>
    obtain ⟨x2, S2, q2, z2, r, l, i2, e2, l2, n2, rfl, rfl, m2, t2, X0, X1, R0⟩ := hrel
    have F := Fm.of2 X0 X1 m2 t2 (by omega) (by omega) (by omega)
    have hi2 := hidI i2
    have he2 := hidI e2
    have hl2 := hidI l2
    have hR := hidI R0
    have hln : l.length ≤ 4000 := n2.elim (fun g => by have := m2.inv.pos; omega) (fun g => by rw [g]; simp)
    have HN2 := hidI n2
    clear X0 X1 i2 m2 t2 e2 l2 R0 n2
    by_cases hz : z2 < 0
    · skip
      obtain ⟨rfl, rfl⟩ := is_neg hi2.out hz
      have hlk := hl2.out hz
      have ab := F.x0.boxC
      go_wp2_with fail
      refine (l4Name_spec C gt cap base (.ok q2) S2 q2 (-1) d true _ (is_ok q2) F.m).mono ?_
      rintro e w3 ⟨S3, q3, z3, n3, rfl, hi3, m3, s3⟩
      replace hR := hidI (hR.out.stp s3)
      replace F := F.stp m3 s3
      clear ab
      have hlt2 : w.heap.size + 1 < w3.heap.size := F.x1.lt
      unfold pv
      go_upto_region 6 with fail
      refine (F.new2 _).cutR (RW := fun W => Row S3 W base w.heap.size r l) (hR.out.alloc _) ?_
      clear hR
      intro w4 F R0
      have hR := hidI R0
      clear R0
      have ab := F.x0.boxC
      have cb := F.x2.boxC
      go_upto_region 7 with fail
      refine (F.put0 _ _ _ _ _ _ _ _ _ _ _ _).cutR (RW := fun W => Row S3 W base w.heap.size r l) (hR.out.put F.x0 _ _ _ _ _ _ _ _ _ _ _ _) ?_
      clear ab cb
      clear hR
      intro w5 F R0
      have hR := hidI R0
      clear R0
      skip
      have ab := F.x0.boxC
      skip
      go_wp2_with fail
      refine (is_spec C gt cap base S3 q3 z3 d 1 sAs _ F.m.tok hfew (by decide)).mono ?_
      rintro e w6 ⟨rfl, hb6⟩
      replace hR := hidI (hR.out.below hb6)
      replace F := F.below hb6
      clear ab
      go_upto_if 28 with fail
      go_cut [11] (fun s11 wx => ∃ (S5 : Sv) (q5 : PS) (z5 : Int) (n5 : ByteArray), s11 = .string n5 ∧ Is2 (bd (bd (.ok q2) (nameP C true)) (asP C exp)) q5 z5 n5 ∧ Mem C gt cap base S5 q5 wx ∧ SB w.heap.size S w S5 wx ∧ Bx gt S5 wx w.heap.size #[.slice (some ⟨gt, 0, none⟩) C.ts.length cap, .int .i64 q5.pos, .int .i64 C.fin, .bool C.scr, .slice S5.rq.a q5.rq.length S5.rq.cap, .slice S5.im.a q5.im.length S5.im.cap, .slice S5.ep.a q5.ep.length S5.ep.cap, .slice S5.st.a q5.st.length S5.st.cap, .slice S5.ex.a q5.ex.length S5.ex.cap, .slice S5.la.a q5.la.length S5.la.cap, .int .i64 z5, .int .i64 d] ∧ Bx gt S5 wx (w.heap.size + 1) #[.slice none 0 0, .int .i64 0, .int .i64 0, .bool false, .slice none 0 0, .slice none 0 0, .slice none 0 0, .slice none 0 0, .slice none 0 0, .slice none 0 0, .int .i64 0, .int .i64 0] ∧ Row S5 wx base w.heap.size r l)
      case first =>
        cases hb : (decide (z3 < 0) && isT C q3.pos 1 sAs) with
        | true =>
          have hp3 : q3.pos < C.ts.length := by rw [Bool.and_eq_true] at hb; exact isT_lt hb.2 (by decide)
          have ab := F.x0.boxC
          have hz3 : z3 = -1 := by rw [Bool.and_eq_true, decide_eq_true_eq] at hb; exact (is_neg hi3.out.fst hb.1).2
          subst hz3
          go_wp2_with fail
          refine (l4Name_spec C gt cap base (.ok (adv q3)) S3 (adv q3) (-1) d exp _ (is_ok _) ((F.adv hp3).set0_1 _).m).mono ?_
          rintro e w7 ⟨S7, q7, z7, n7, rfl, hi7, m7, s7⟩
          replace hR := hidI ((hR.out.set F.x0 1 _).stp s7)
          replace F := (F.set0_1 _).stp m7 s7
          clear ab
          have hlt3 : w.heap.size + 1 < w7.heap.size := F.x1.lt
          have hlt3_2 : w3.heap.size < w7.heap.size := F.x2.lt
          unfold pv
          go_upto_region 11 with fail
          refine (F.new3 _).cutR (RW := fun W => Row S7 W base w.heap.size r l) (hR.out.alloc _) ?_
          clear hR
          intro w8 F R0
          have hR := hidI R0
          clear R0
          have ab := F.x0.boxC
          have db := F.x3.boxC
          go_wp2
          go_meet
          case rel => exact ⟨S7, q7, z7, n7, rfl, as_yes hi3.out hb hi7.out, (F.put0 _ _ _ _ _ _ _ _ _ _ _ _).m, (F.put0 _ _ _ _ _ _ _ _ _ _ _ _).t, (F.put0 _ _ _ _ _ _ _ _ _ _ _ _).x0, (F.put0 _ _ _ _ _ _ _ _ _ _ _ _).x1, (hR.out.put F.x0 _ _ _ _ _ _ _ _ _ _ _ _)⟩
        | false =>
          cases e3 : (n3.toList == [100, 101, 102, 97, 117, 108, 116]) with
          | true =>
            cases exp with
            | false =>
              have ab := F.x0.boxC
              go_wp2_with fail
              refine (fail_spec C gt cap base S3 q3 z3 d _ F.m.tok hfew).mono ?_
              rintro e w7 ⟨rfl, hb7⟩
              replace hR := hidI (hR.out.below hb7)
              replace F := F.below hb7
              clear ab
              have ab := F.x0.boxC
              unfold pv
              go_wp2
              go_meet
              case rel => exact ⟨S3, q3, (badOf C q3.pos z3), n3, rfl, as_fail hi3.out hb (by rw [e3]; rfl), (F.put0 _ _ _ _ _ _ _ _ _ _ _ _).m, (F.put0 _ _ _ _ _ _ _ _ _ _ _ _).t, (F.put0 _ _ _ _ _ _ _ _ _ _ _ _).x0, (F.put0 _ _ _ _ _ _ _ _ _ _ _ _).x1, (hR.out.put F.x0 _ _ _ _ _ _ _ _ _ _ _ _)⟩
            | true =>
              have ab := F.x0.boxC
              go_wp2
              go_meet
              case rel => exact ⟨S3, q3, z3, n3, rfl, as_plain hi3.out hb (by rw [e3]; rfl), F.m, F.t, F.x0, F.x1, hR.out⟩
          | false =>
            have ab := F.x0.boxC
            go_wp2
            go_meet
            case rel => exact ⟨S3, q3, z3, n3, rfl, as_plain hi3.out hb (by rw [e3]; rfl), F.m, F.t, F.x0, F.x1, hR.out⟩
      case rest =>
        obtain ⟨S5, q5, z5, n5, rfl, i5, m5, t5, X0, X1, R0⟩ := hcut
        clear hR
        have F := Fm.of2 X0 X1 m5 t5 (by omega) (by omega) (by omega)
        have hi5 := hidI i5
        have hR := hidI R0
        clear X0 X1 i5 m5 t5 R0
        go_upto_region 15 with fail
        go_cut [8] (fun s8 wx => s8 = .bool (anyB l || (n3.toList == [100, 101, 102, 97, 117, 108, 116])) ∧ wx = wc)
        case first =>
          cases ha : anyB l with
          | true =>
            go_wp2
            go_meet
            case rel => exact ⟨by rw [ha]; rfl, rfl⟩
          | false =>
            cases e3 : (n3.toList == [100, 101, 102, 97, 117, 108, 116]) with
            | true =>
              go_wp2
              go_meet
              case rel => exact ⟨by rw [ha, e3]; rfl, rfl⟩
            | false =>
              go_wp2
              go_meet
              case rel => exact ⟨by rw [ha, e3]; rfl, rfl⟩
        case rest =>
          obtain ⟨rfl, rfl⟩ := hcut
          have hown := fun o => hR.out.own.alloc o
          have hbs := F.m.base
          go_wp2_with (at_builtin; refine app_row _ rfl _ _ 33 rfl base 79 i0 _ 4 56 Try.underlying33 hi hz0 hz1 hz2 rfl (by decide) (by decide) r l.length _ (by rfl) (hown _) wc.heap.size (epL ⟨0, n5, n3, sNone⟩) (by rfl) (by exact heap_alloc_new wc _) rfl (by intro u hu; simp [epL] at hu; rcases hu with rfl | rfl | rfl | rfl <;> rfl) (by omega) (by rw [alloc_size]; omega) ?_)
          intro r' w6 hr hg hat
          obtain ⟨R6, m6⟩ := (hR.out.alloc _).grow (x := ⟨0, n5, n3, sNone⟩) (F.alloc _).m (by rw [alloc_size]; have := F.t.size; omega) hg hr (by rw [alloc_size]; exact hat)
          replace F := Fm.of2 ((hR.out.alloc _).bx (F.x0.alloc _) hg) ((hR.out.alloc _).bx (F.x1.alloc _) hg) m6 ((hR.out.alloc _).sb (F.t.alloc _) hg) (by omega) (by omega) (by omega)
          clear hR hr hg hat hown hbs m6
          have hR := hidI R6
          clear R6
          cases hc : (decide (z5 < 0) && isT C q5.pos 4 cComma) with
          | true =>
            have ab := F.x0.boxC
            go_wp2_with fail
            refine (is_spec C gt cap base S5 q5 z5 d 4 cComma _ F.m.tok hfew (by decide)).mono ?_
            rintro e w7 ⟨rfl, hb7⟩
            rw [hc]
            replace hR := hidI (hR.out.below hb7)
            replace F := F.below hb7
            clear ab
            rw [Bool.and_eq_true, decide_eq_true_eq] at hc
            obtain ⟨hz5, hc5⟩ := hc
            have hp5 : q5.pos < C.ts.length := isT_lt hc5 (by decide)
            obtain ⟨E5, P5⟩ := list_next (l := l) hi3.out hi5.out hz5 hc5
            have HE := hidI E5
            obtain rfl : z5 = -1 := (is_neg hi5.out.fst hz5).2
            have HLL : Hid ((l ++ [(⟨0, n5, n3, sNone⟩ : Ep)]).length ≤ q5.pos + 1 ∨ l ++ [(⟨0, n5, n3, sNone⟩ : Ep)] = []) := .inl (by simp only [List.length_append, List.length_singleton]; exact HN2.out.elim (fun g => by omega) (fun g => by rw [g]; simp))
            clear E5
            have ab := F.x0.boxC
            go_wp2
            go_roundg (gk - 1)
            case rel => exact ⟨.ok (adv q5), S5, adv q5, -1, r', l ++ [⟨0, n5, n3, sNone⟩], is_ok _, by rw [← he2.out]; exact HE.out.symm, fun _ => by rw [adv_pos]; omega, HLL.out, by simp, by rw [anyB_add], ((F.adv hp5).set0_1 _).m, (F.t.set (by omega) 1 _), (F.x0.at1 _), (F.x1.set_other (by omega) 1 _), (hR.out.set F.x0 1 _)⟩
            case measure => omega
          | false =>
            have ab := F.x0.boxC
            go_wp2_with fail
            refine (is_spec C gt cap base S5 q5 z5 d 4 cComma _ F.m.tok hfew (by decide)).mono ?_
            rintro e w7 ⟨rfl, hb7⟩
            rw [hc]
            replace hR := hidI (hR.out.below hb7)
            replace F := F.below hb7
            clear ab
            have ab := F.x0.boxC
            go_wp2_with fail
            refine (l4Sign_spec C gt cap base _ S5 q5 z5 d cRight _ hi5.out.fst F.m).mono ?_
            rintro e w8 ⟨S8, q8, z8, rfl, hi8, m8, s8⟩
            replace hR := hidI (hR.out.stp s8)
            replace F := F.stp m8 s8
            clear ab
            have bb := F.x1.boxC
            unfold pv
            go_wp2
            refine bodyPost_ret (results_cell_tmp2 rfl _ _ (w.heap.size + 1) 164 _ (0, 0) _ rfl ((F.x1.put _ _ _ _ _ _ _ _ _ _ _ _)).heap Try.underlying164 rfl (by kernel_rfl)) rfl ?_
            exact ⟨S8, q8, z8, r', l ++ [⟨0, n5, n3, sNone⟩], by simp [pv, anyB_add], by rw [← he2.out, bd_ok, listL_step]; exact list_end hi3.out hi5.out hc hi8.out, (F.put1 _ _ _ _ _ _ _ _ _ _ _ _).m, (F.put1 _ _ _ _ _ _ _ _ _ _ _ _).t.done, (hR.out.put F.x1 _ _ _ _ _ _ _ _ _ _ _ _), by simp; omega⟩
    · skip
      have ab := F.x0.boxC
      go_wp2_with fail
      refine (l4Sign_spec C gt cap base _ S2 q2 z2 d cRight _ hi2.out F.m).mono ?_
      rintro e w3 ⟨S3, q3, z3, rfl, hi3, m3, s3⟩
      replace hR := hidI (hR.out.stp s3)
      replace F := F.stp m3 s3
      clear ab
      have bb := F.x1.boxC
      unfold pv
      go_wp2
      refine bodyPost_ret (results_cell_tmp2 rfl _ _ (w.heap.size + 1) 164 _ (0, 0) _ rfl ((F.x1.put _ _ _ _ _ _ _ _ _ _ _ _)).heap Try.underlying164 rfl (by kernel_rfl)) rfl ?_
      exact ⟨S3, q3, z3, r, l, rfl, by rw [← he2.out]; exact list_stop hi2.out (by omega) hi3.out, (F.put1 _ _ _ _ _ _ _ _ _ _ _ _).m, (F.put1 _ _ _ _ _ _ _ _ _ _ _ _).t.done, (hR.out.put F.x1 _ _ _ _ _ _ _ _ _ _ _ _), by omega⟩
end Go.Proofs.Ytdbpknmoacjodaa
namespace Go.Proofs.Ytdbpknmoacjodaa
open Go.RowKit Go.PlainAid

def SumOK (C : Cx) (gt cap base m : Nat) : Prop := ∀ (x : PR) (S : Sv) (q : PS) (z : Int) (d : Nat) (w : World), Is x q z → Mem C gt cap base S q w → (z < 0 → C.ts.length - q.pos < m) → d ≤ 20 →
  Calls Try.prog 172 #[pv C gt cap S q z d] w (Out C gt cap base (bd x (pE C .sum d)) d S w)
theorem name_yes {C : Cx} {o : Bool} {q q1 : PS} {z1 : Int} {n1 : ByteArray} (h : Is2 (bd (.ok q) (nameP C o)) q1 z1 n1) (hp : plainB C q.pos o = true) : q1 = adv q ∧ z1 = -1 ∧ n1 = (tokAt C q.pos).text := by
  rw [bd_ok, nameP, if_pos hp] at h
  exact h
theorem name_no {C : Cx} {o : Bool} {q q1 : PS} {z1 : Int} {n1 : ByteArray} (h : Is2 (bd (.ok q) (nameP C o)) q1 z1 n1) (hp : plainB C q.pos o = false) : z1 = (here C q.pos : Int) := by
  rw [bd_ok, nameP, hp] at h
  exact h
theorem mem_bind {C : Cx} {n : ByteArray} {y : Except Nat (PS × ByteArray)} {q : PS} {z : Int} {f : ByteArray} (h : Is2 y q z f) (hi : (decide (z < 0) && isT C q.pos 4 cOpen) = true) : bd (bd (bd (fstP y) (tokP C 4 cOpen)) (tokP C 4 cShut)) (addEx C ⟨5, 0, n, f, 0, 0⟩) = bd y fun a => memP C n a.2 a.1 := by
  rw [Bool.and_eq_true, decide_eq_true_eq] at hi
  cases y with
  | ok a =>
    obtain ⟨rfl, _, rfl⟩ := h
    show _ = memP C n a.2 a.1
    rw [memP, if_pos hi.2]
    rfl
  | error e => rfl
theorem mem_bind' {C : Cx} {n : ByteArray} {y : Except Nat (PS × ByteArray)} {q : PS} {z : Int} {f : ByteArray} (h : Is2 y q z f) (hi : (decide (z < 0) && isT C q.pos 4 cOpen) = false) : bd (fstP y) (addEx C ⟨4, 0, n, f, 0, 0⟩) = bd y fun a => memP C n a.2 a.1 := by
  cases y with
  | ok a =>
    obtain ⟨rfl, rfl, rfl⟩ := h
    rw [Bool.and_eq_false_iff] at hi
    show _ = memP C n a.2 a.1
    rw [memP, hi.resolve_left (by decide)]
    rfl
  | error e => rfl
theorem pos_name {C : Cx} {o : Bool} {x : PR} {q : PS} {z : Int} {n : ByteArray} (h : Is2 (bd x (nameP C o)) q z n) : z < 0 → 1 ≤ q.pos := by
  intro hz
  cases hx : bd x (nameP C o) with
  | error e => rw [hx] at h; have : z = (e : Int) := h; omega
  | ok a =>
    rw [hx] at h
    obtain ⟨rfl, _, _⟩ := h
    obtain ⟨b, _, h2⟩ := bd_eq_ok hx
    obtain ⟨rfl, _⟩ := nameP_ok h2
    simp [adv]

set_option maxRecDepth 100000 in
set_option maxHeartbeats 6400000 in
theorem l4Part_num (C : Cx) (gt cap base : Nat) (S : Sv) (q : PS) (d : Nat) (w : World) (hm : Mem C gt cap base S q w) (h2 : ((tokAt C q.pos).kind == 2) = true) :
    Calls Try.prog 212 #[pv C gt cap S q (-1) d] w (Out C gt cap base (pE C .part d q) d S w) := by
  have HM := hidI hm
  have htok := hm.tok
  have hfew : C.ts.length ≤ 4000 := hm.few
  have hglt := (ownT_lt hm.tok).1
  clear hm
  have hp : q.pos < C.ts.length := kind_lt h2 (by decide)
  have HV : Hid (pE C .part d q = bd (.ok (adv q)) (addEx C ⟨1, (tokAt C q.pos).num, sNone, sNone, 0, 0⟩)) := by show pE C .part d q = _; rw [pE_part, if_pos h2]; rfl
  obtain ⟨c0, _, c2, _⟩ := htok.cells hp (d := ⟨0, sNone, 0, C.fin⟩)
  change _ = some (Value.int .i64 (tokAt C q.pos).kind) at c0
  change _ = some (Value.int .i64 (tokAt C q.pos).num) at c2
  have HM2 : Hid (Mem C gt cap base S (adv q) w) := HM.out.adv hp
  generalize (tokAt C q.pos).kind = kd at c0 h2
  have HN : Hid (∀ n, n = (tokAt C q.pos).num → pE C .part d q = bd (.ok (adv q)) (addEx C ⟨1, n, sNone, sNone, 0, 0⟩)) := fun n e => by rw [e]; exact HV.out
  generalize hnm : (tokAt C q.pos).num = nm at c2
  have HNM : Hid (nm = (tokAt C q.pos).num) := hnm.symm
  clear hnm HV htok
  unfold pv
  go_enter Try.func212, Try.ntmps212
  go_wp2_with fail
  refine (l4Add_spec C gt cap base (.ok (adv q)) S (adv q) (-1) d ⟨1, nm, sNone, sNone, 0, 0⟩ _ (is_ok _) ((HM2.out.alloc _).alloc _) (fun _ => by simp [adv])).mono ?_
  rintro e w1 ⟨S1, q1, z1, rfl, hi1, m1, s1⟩
  have F := HM2.out.fm2 m1 s1
  have bb := F.x1.boxC
  unfold pv
  go_wp2
  refine (F.x1.put _ _ _ _ _ _ _ _ _ _ _ _).ret rfl rfl ?_
  rw [HN.out nm HNM.out]
  exact (F.put1 _ _ _ _ _ _ _ _ _ _ _ _).done rfl hi1.out
set_option maxRecDepth 100000 in
set_option maxHeartbeats 6400000 in
theorem l4Part_deep (C : Cx) (gt cap base : Nat) (S : Sv) (q : PS) (d : Nat) (w : World) (hm : Mem C gt cap base S q w) (hk : ((tokAt C q.pos).kind == 2) = false) (ho : isT C q.pos 4 cOpen = true) (hd : 20 ≤ d) (hdd : d ≤ 20) :
    Calls Try.prog 212 #[pv C gt cap S q (-1) d] w (Out C gt cap base (pE C .part d q) d S w) := by
  have HM := hidI hm
  have htok := hm.tok
  have hfew : C.ts.length ≤ 4000 := hm.few
  have hglt := (ownT_lt hm.tok).1
  clear hm
  have hp : q.pos < C.ts.length := isT_lt ho (by decide)
  have HV : Hid (pE C .part d q = .error (here C q.pos)) := by show pE C .part d q = _; rw [pE_part, hk, ho]; simp [hd]
  have qd : decide ((20 : Int) ≤ (d : Int)) = true := decide_eq_true (by omega)
  obtain ⟨c0, _, _, _⟩ := htok.cells hp (d := ⟨0, sNone, 0, C.fin⟩)
  change _ = some (Value.int .i64 (tokAt C q.pos).kind) at c0
  generalize (tokAt C q.pos).kind = kd at c0 hk
  unfold pv
  go_enter Try.func212, Try.ntmps212
  go_wp2_with fail
  refine (is_spec C gt cap base S q (-1) d 4 cOpen _ (ownT_alloc (ownT_alloc htok _) _) hfew (by decide)).mono ?_
  rintro e w1 ⟨rfl, hb1⟩
  rw [ho]
  have F := HM.out.fm hb1
  have ab := F.x0.boxC
  go_wp2_with fail
  refine (fail_spec C gt cap base S q (-1) d _ F.m.tok hfew).mono ?_
  rintro e w2 ⟨rfl, hb2⟩
  replace F := F.below hb2
  clear ab
  have bb := F.x1.boxC
  unfold pv
  go_wp2
  refine (F.x1.put _ _ _ _ _ _ _ _ _ _ _ _).ret rfl rfl ?_
  rw [HV.out]
  exact (F.put1 _ _ _ _ _ _ _ _ _ _ _ _).done rfl (show Is (.error (here C q.pos)) q _ from rfl)
set_option maxRecDepth 100000 in
set_option maxHeartbeats 6400000 in
theorem l4Part_open (C : Cx) (gt cap base : Nat) (S : Sv) (q : PS) (d : Nat) (w : World) (hm : Mem C gt cap base S q w) (hk : ((tokAt C q.pos).kind == 2) = false) (ho : isT C q.pos 4 cOpen = true) (hd : d < 20) (hS : SumOK C gt cap base (C.ts.length - q.pos)) :
    Calls Try.prog 212 #[pv C gt cap S q (-1) d] w (Out C gt cap base (pE C .part d q) d S w) := by
  have HM := hidI hm
  have htok := hm.tok
  have hfew : C.ts.length ≤ 4000 := hm.few
  have hglt := (ownT_lt hm.tok).1
  clear hm
  have hp : q.pos < C.ts.length := isT_lt ho (by decide)
  have HV : Hid (pE C .part d q = bd (bd (.ok (adv q)) (pE C .sum (d + 1))) (tokP C 4 cShut)) := by show pE C .part d q = _; rw [pE_part, hk, ho, if_neg (by decide), if_pos rfl, if_neg (by omega)]; rfl
  have HS := hidI hS
  clear hS
  have qd : decide ((20 : Int) ≤ (d : Int)) = false := decide_eq_false (by omega)
  obtain ⟨c0, _, _, _⟩ := htok.cells hp (d := ⟨0, sNone, 0, C.fin⟩)
  change _ = some (Value.int .i64 (tokAt C q.pos).kind) at c0
  generalize (tokAt C q.pos).kind = kd at c0 hk
  unfold pv
  go_enter Try.func212, Try.ntmps212
  go_wp2_with fail
  refine (is_spec C gt cap base S q (-1) d 4 cOpen _ (ownT_alloc (ownT_alloc htok _) _) hfew (by decide)).mono ?_
  rintro e w1 ⟨rfl, hb1⟩
  rw [ho]
  have F := HM.out.fm hb1
  have ab := F.x0.boxC
  go_wp2_with fail
  refine (HS.out (.ok (adv q)) S (adv q) (-1) (d + 1) _ (is_ok _) (((F.adv hp).set0_1 _).set0_11 _).m (fun _ => by show C.ts.length - (q.pos + 1) < _; omega) (by omega)).mono ?_
  rintro e w2 ⟨S2, q2, z2, rfl, hi2, m2, s2⟩
  replace F := ((F.set0_1 _).set0_11 _).stp m2 s2
  clear ab
  go_wp2_with fail
  refine (l4Sign_spec C gt cap base _ S2 q2 z2 (d + 1) cShut _ hi2.out F.m).mono ?_
  rintro e w3 ⟨S3, q3, z3, rfl, hi3, m3, s3⟩
  replace F := F.stp m3 s3
  have ab := F.x0.boxC
  obtain ⟨D, hD⟩ : ∃ D : Nat, D = d + 1 := ⟨_, rfl⟩
  rw [← hD]
  have hd1 : (D : Int) - 1 = d := by omega
  have hd2 : D ≤ 20 := by omega
  clear hD hd qd
  unfold pv
  go_upto_region 11 with fail
  refine (F.put0 _ _ _ _ _ _ _ _ _ _ _ _).cut ?_
  clear ab
  intro w4 F
  have ab := F.x0.boxC
  have bb := F.x1.boxC
  go_wp2
  refine bodyPost_ret (results_cell_row rfl _ _ (w.heap.size + 1) 164 _ (0, 0) _ rfl (((F.x1.set_other (by omega) 11 _).put _ _ _ _ _ _ _ _ _ _ _ _)).heap Try.underlying164 rfl (by kernel_rfl)) rfl ?_
  rw [HV.out]
  exact out_done rfl hi3.out ((F.set0_11 _).put1 _ _ _ _ _ _ _ _ _ _ _ _).m ((F.set0_11 _).put1 _ _ _ _ _ _ _ _ _ _ _ _).t
end Go.Proofs.Ytdbpknmoacjodaa
namespace Go.Proofs.Ytdbpknmoacjodaa
open Go.RowKit Go.PlainAid

set_option maxRecDepth 100000 in
set_option maxHeartbeats 6400000 in
theorem l4Part_end_true (ts : List Tk) (fin : Nat) (gt cap base : Nat) (S : Sv) (q : PS) (d : Nat) (w : World) (hm : Mem (Cx.mk ts fin true) gt cap base S q w) (hp : ¬ q.pos < (Cx.mk ts fin true).ts.length) :
    Calls Try.prog 212 #[pv (Cx.mk ts fin true) gt cap S q (-1) d] w (Out (Cx.mk ts fin true) gt cap base (pE (Cx.mk ts fin true) .part d q) d S w) := by
  have HM := hidI hm
  have htok := hm.tok
  have hfew : (Cx.mk ts fin true).ts.length ≤ 4000 := hm.few
  have hglt := (ownT_lt hm.tok).1
  clear hm
  have hk : ((tokAt (Cx.mk ts fin true) q.pos).kind == 2) = false := by rw [tokAt_none (by omega)]; rfl
  have ho : isT (Cx.mk ts fin true) q.pos 4 cOpen = false := isT_end hp (by decide)
  have hu : isT (Cx.mk ts fin true) q.pos 1 sUndef = false := isT_end hp (by decide)
  have hn : plainB (Cx.mk ts fin true) q.pos false = false := plain_end hp
  have HV : Hid (pE (Cx.mk ts fin true) .part d q = .error (here (Cx.mk ts fin true) q.pos)) := by show pE (Cx.mk ts fin true) .part d q = _; rw [pE_part, hk, ho, hu, nameP, hn]; rfl
  have hp' : ¬ q.pos < ts.length := hp
  unfold pv
  go_enter Try.func212, Try.ntmps212
  go_wp2_with fail
  refine (is_spec (Cx.mk ts fin true) gt cap base S q (-1) d 4 cOpen _ (ownT_alloc (ownT_alloc htok _) _) hfew (by decide)).mono ?_
  rintro e w1 ⟨rfl, hb1⟩
  rw [ho]
  have F := HM.out.fm hb1
  have ab := F.x0.boxC
  go_wp2_with fail
  refine (is_spec (Cx.mk ts fin true) gt cap base S q (-1) d 1 sUndef _ F.m.tok hfew (by decide)).mono ?_
  rintro e w2 ⟨rfl, hb2⟩
  rw [hu]
  replace F := F.below hb2
  clear ab
  have ab := F.x0.boxC
  go_wp2_with fail
  refine (l4Name_spec (Cx.mk ts fin true) gt cap base (.ok q) S q (-1) d false _ (is_ok q) F.m).mono ?_
  rintro e w3 ⟨S3, q3, z3, n3, rfl, hi3, m3, s3⟩
  replace F := F.stp m3 s3
  clear ab
  obtain rfl := name_no hi3.out hn
  have dz : decide ((0 : Int) ≤ (here (Cx.mk ts fin true) q.pos : Int)) = true := decide_eq_true (by omega)
  have hlt2 : w.heap.size + 1 < w3.heap.size := F.x1.lt
  unfold pv
  go_upto_region 17 with fail
  refine (F.new2 _).cut ?_
  intro w4 F
  have bb := F.x1.boxC
  have cb := F.x2.boxC
  go_wp2
  refine (F.x1.put _ _ _ _ _ _ _ _ _ _ _ _).ret rfl rfl ?_
  rw [HV.out]
  exact (F.put1 _ _ _ _ _ _ _ _ _ _ _ _).done rfl (show Is (.error (here (Cx.mk ts fin true) q.pos)) q3 _ from rfl)
set_option maxRecDepth 100000 in
set_option maxHeartbeats 6400000 in
theorem l4Part_none_true (ts : List Tk) (fin : Nat) (gt cap base : Nat) (S : Sv) (q : PS) (d : Nat) (w : World) (hm : Mem (Cx.mk ts fin true) gt cap base S q w) (hk : ((tokAt (Cx.mk ts fin true) q.pos).kind == 2) = false) (ho : isT (Cx.mk ts fin true) q.pos 4 cOpen = false) (hp : q.pos < (Cx.mk ts fin true).ts.length) (hu : isT (Cx.mk ts fin true) q.pos 1 sUndef = false) (hn : plainB (Cx.mk ts fin true) q.pos false = false) :
    Calls Try.prog 212 #[pv (Cx.mk ts fin true) gt cap S q (-1) d] w (Out (Cx.mk ts fin true) gt cap base (pE (Cx.mk ts fin true) .part d q) d S w) := by
  have HM := hidI hm
  have htok := hm.tok
  have hfew : (Cx.mk ts fin true).ts.length ≤ 4000 := hm.few
  have hglt := (ownT_lt hm.tok).1
  clear hm
  have HV : Hid (pE (Cx.mk ts fin true) .part d q = .error (here (Cx.mk ts fin true) q.pos)) := by show pE (Cx.mk ts fin true) .part d q = _; rw [pE_part, hk, ho, hu, nameP, hn]; rfl
  have hp' : q.pos < ts.length := hp
  obtain ⟨c0, _, _, _⟩ := htok.cells hp (d := ⟨0, sNone, 0, (Cx.mk ts fin true).fin⟩)
  change _ = some (Value.int .i64 (tokAt (Cx.mk ts fin true) q.pos).kind) at c0
  generalize (tokAt (Cx.mk ts fin true) q.pos).kind = kd at c0 hk
  unfold pv
  go_enter Try.func212, Try.ntmps212
  go_wp2_with fail
  refine (is_spec (Cx.mk ts fin true) gt cap base S q (-1) d 4 cOpen _ (ownT_alloc (ownT_alloc htok _) _) hfew (by decide)).mono ?_
  rintro e w1 ⟨rfl, hb1⟩
  rw [ho]
  have F := HM.out.fm hb1
  have ab := F.x0.boxC
  go_wp2_with fail
  refine (is_spec (Cx.mk ts fin true) gt cap base S q (-1) d 1 sUndef _ F.m.tok hfew (by decide)).mono ?_
  rintro e w2 ⟨rfl, hb2⟩
  rw [hu]
  replace F := F.below hb2
  clear ab
  have ab := F.x0.boxC
  go_wp2_with fail
  refine (l4Name_spec (Cx.mk ts fin true) gt cap base (.ok q) S q (-1) d false _ (is_ok q) F.m).mono ?_
  rintro e w3 ⟨S3, q3, z3, n3, rfl, hi3, m3, s3⟩
  replace F := F.stp m3 s3
  clear ab
  obtain rfl := name_no hi3.out hn
  have dz : decide ((0 : Int) ≤ (here (Cx.mk ts fin true) q.pos : Int)) = true := decide_eq_true (by omega)
  have hlt2 : w.heap.size + 1 < w3.heap.size := F.x1.lt
  unfold pv
  go_upto_region 17 with fail
  refine (F.new2 _).cut ?_
  intro w4 F
  have bb := F.x1.boxC
  obtain ⟨c0, c1, c2, c3, c4, c5, c6, c7, c8, c9, c10, c11, cf⟩ := F.x2.box
  go_wp2
  refine (F.x1.put _ _ _ _ _ _ _ _ _ _ _ _).ret rfl rfl ?_
  rw [HV.out]
  exact (F.put1 _ _ _ _ _ _ _ _ _ _ _ _).done rfl (show Is (.error (here (Cx.mk ts fin true) q.pos)) q3 _ from rfl)
set_option maxRecDepth 100000 in
set_option maxHeartbeats 6400000 in
theorem l4Part_bad_true (ts : List Tk) (fin : Nat) (gt cap base : Nat) (S : Sv) (q : PS) (d : Nat) (w : World) (hm : Mem (Cx.mk ts fin true) gt cap base S q w) (e0 : Nat) :
    Calls Try.prog 212 #[pv (Cx.mk ts fin true) gt cap S q (e0 : Int) d] w (Out (Cx.mk ts fin true) gt cap base (.error e0) d S w) := by
  have HM := hidI hm
  have htok := hm.tok
  have hfew : (Cx.mk ts fin true).ts.length ≤ 4000 := hm.few
  have hglt := (ownT_lt hm.tok).1
  clear hm
  have hz : ¬ (e0 : Int) < 0 := by omega
  have hs : ∀ k s, (decide ((e0 : Int) < 0) && isT (Cx.mk ts fin true) q.pos k s) = false := fun k s => by rw [decide_eq_false hz]; rfl
  unfold pv
  go_enter Try.func212, Try.ntmps212
  go_wp2_with fail
  refine (is_spec (Cx.mk ts fin true) gt cap base S q (e0 : Int) d 4 cOpen _ (ownT_alloc (ownT_alloc htok _) _) hfew (by decide)).mono ?_
  rintro e w1 ⟨rfl, hb1⟩
  rw [hs]
  have F := HM.out.fm hb1
  have ab := F.x0.boxC
  go_wp2_with fail
  refine (is_spec (Cx.mk ts fin true) gt cap base S q (e0 : Int) d 1 sUndef _ F.m.tok hfew (by decide)).mono ?_
  rintro e w2 ⟨rfl, hb2⟩
  rw [hs]
  replace F := F.below hb2
  clear ab
  have ab := F.x0.boxC
  go_wp2_with fail
  refine (l4Name_spec (Cx.mk ts fin true) gt cap base (.error e0) S q (e0 : Int) d false _ (show Is (.error e0) q _ from rfl) F.m).mono ?_
  rintro e w3 ⟨S3, q3, z3, n3, rfl, hi3, m3, s3⟩
  replace F := F.stp m3 s3
  clear ab
  obtain rfl : z3 = (e0 : Int) := hi3.out
  have dz : decide ((0 : Int) ≤ (e0 : Int)) = true := decide_eq_true (by omega)
  have hlt2 : w.heap.size + 1 < w3.heap.size := F.x1.lt
  unfold pv
  go_upto_region 17 with fail
  refine (F.new2 _).cut ?_
  intro w4 F
  have bb := F.x1.boxC
  have cb := F.x2.boxC
  go_wp2
  refine (F.x1.put _ _ _ _ _ _ _ _ _ _ _ _).ret rfl rfl ?_
  exact (F.put1 _ _ _ _ _ _ _ _ _ _ _ _).done rfl (show Is (.error e0) q3 _ from rfl)
set_option maxRecDepth 100000 in
set_option maxHeartbeats 6400000 in
theorem l4Part_undef_true (ts : List Tk) (fin : Nat) (gt cap base : Nat) (S : Sv) (q : PS) (d : Nat) (w : World) (hm : Mem (Cx.mk ts fin true) gt cap base S q w) (hk : ((tokAt (Cx.mk ts fin true) q.pos).kind == 2) = false) (ho : isT (Cx.mk ts fin true) q.pos 4 cOpen = false) (hp : q.pos < (Cx.mk ts fin true).ts.length) (hu : isT (Cx.mk ts fin true) q.pos 1 sUndef = true) :
    Calls Try.prog 212 #[pv (Cx.mk ts fin true) gt cap S q (-1) d] w (Out (Cx.mk ts fin true) gt cap base (pE (Cx.mk ts fin true) .part d q) d S w) := by
  have HM := hidI hm
  have htok := hm.tok
  have hfew : (Cx.mk ts fin true).ts.length ≤ 4000 := hm.few
  have hglt := (ownT_lt hm.tok).1
  clear hm
  have HV : Hid (pE (Cx.mk ts fin true) .part d q = tailP (Cx.mk ts fin true) sUndef (adv q)) := by show pE (Cx.mk ts fin true) .part d q = _; rw [pE_part, hk, ho, hu]; rfl
  have hp' : q.pos < ts.length := hp
  obtain ⟨c0, _, _, _⟩ := htok.cells hp (d := ⟨0, sNone, 0, (Cx.mk ts fin true).fin⟩)
  change _ = some (Value.int .i64 (tokAt (Cx.mk ts fin true) q.pos).kind) at c0
  generalize (tokAt (Cx.mk ts fin true) q.pos).kind = kd at c0 hk
  unfold pv
  go_enter Try.func212, Try.ntmps212
  go_wp2_with fail
  refine (is_spec (Cx.mk ts fin true) gt cap base S q (-1) d 4 cOpen _ (ownT_alloc (ownT_alloc htok _) _) hfew (by decide)).mono ?_
  rintro e w1 ⟨rfl, hb1⟩
  rw [ho]
  have F := HM.out.fm hb1
  have ab := F.x0.boxC
  go_wp2_with fail
  refine (is_spec (Cx.mk ts fin true) gt cap base S q (-1) d 1 sUndef _ F.m.tok hfew (by decide)).mono ?_
  rintro e w2 ⟨rfl, hb2⟩
  rw [hu]
  replace F := F.below hb2
  clear ab
  have ab := F.x0.boxC
  go_wp2_with fail
  refine (l4Tail_spec (Cx.mk ts fin true) gt cap base S (adv q) d sUndef _ ((F.adv hp).set0_1 _).m (by simp [adv])).mono ?_
  rintro e w3 ⟨S3, q3, z3, rfl, hi3, m3, s3⟩
  replace F := (F.set0_1 _).stp m3 s3
  clear ab
  have bb := F.x1.boxC
  unfold pv
  go_wp2
  refine (F.x1.put _ _ _ _ _ _ _ _ _ _ _ _).ret rfl rfl ?_
  rw [HV.out]
  exact (F.put1 _ _ _ _ _ _ _ _ _ _ _ _).done rfl hi3.out
set_option maxRecDepth 100000 in
set_option maxHeartbeats 6400000 in
theorem l4Part_tail_true (ts : List Tk) (fin : Nat) (gt cap base : Nat) (S : Sv) (q : PS) (d : Nat) (w : World) (hm : Mem (Cx.mk ts fin true) gt cap base S q w) (hk : ((tokAt (Cx.mk ts fin true) q.pos).kind == 2) = false) (ho : isT (Cx.mk ts fin true) q.pos 4 cOpen = false) (hp : q.pos < (Cx.mk ts fin true).ts.length) (hu : isT (Cx.mk ts fin true) q.pos 1 sUndef = false) (hn : plainB (Cx.mk ts fin true) q.pos false = true) (hd : isT (Cx.mk ts fin true) (q.pos + 1) 4 cPoint = false) :
    Calls Try.prog 212 #[pv (Cx.mk ts fin true) gt cap S q (-1) d] w (Out (Cx.mk ts fin true) gt cap base (pE (Cx.mk ts fin true) .part d q) d S w) := by
  have HM := hidI hm
  have htok := hm.tok
  have hfew : (Cx.mk ts fin true).ts.length ≤ 4000 := hm.few
  have hglt := (ownT_lt hm.tok).1
  clear hm
  have HV : Hid (pE (Cx.mk ts fin true) .part d q = tailP (Cx.mk ts fin true) (tokAt (Cx.mk ts fin true) q.pos).text (adv q)) := by show pE (Cx.mk ts fin true) .part d q = _; rw [pE_part, hk, ho, hu, nameP, hn]; show (if isT (Cx.mk ts fin true) (adv q).pos 4 cPoint then _ else _) = _; rw [adv_pos, hd]; rfl
  have hp' : q.pos < ts.length := hp
  obtain ⟨c0, _, _, _⟩ := htok.cells hp (d := ⟨0, sNone, 0, (Cx.mk ts fin true).fin⟩)
  change _ = some (Value.int .i64 (tokAt (Cx.mk ts fin true) q.pos).kind) at c0
  generalize (tokAt (Cx.mk ts fin true) q.pos).kind = kd at c0 hk
  unfold pv
  go_enter Try.func212, Try.ntmps212
  go_wp2_with fail
  refine (is_spec (Cx.mk ts fin true) gt cap base S q (-1) d 4 cOpen _ (ownT_alloc (ownT_alloc htok _) _) hfew (by decide)).mono ?_
  rintro e w1 ⟨rfl, hb1⟩
  rw [ho]
  have F := HM.out.fm hb1
  have ab := F.x0.boxC
  go_wp2_with fail
  refine (is_spec (Cx.mk ts fin true) gt cap base S q (-1) d 1 sUndef _ F.m.tok hfew (by decide)).mono ?_
  rintro e w2 ⟨rfl, hb2⟩
  rw [hu]
  replace F := F.below hb2
  clear ab
  have ab := F.x0.boxC
  go_wp2_with fail
  refine (l4Name_spec (Cx.mk ts fin true) gt cap base (.ok q) S q (-1) d false _ (is_ok q) F.m).mono ?_
  rintro e w3 ⟨S3, q3, z3, n3, rfl, hi3, m3, s3⟩
  replace F := F.stp m3 s3
  clear ab
  obtain ⟨hq, rfl, hnm⟩ := name_yes hi3.out hn
  have HQ := hidI hq
  have HNM := hidI hnm
  have hqp : q3.pos = q.pos + 1 := by rw [hq]; rfl
  have hd' : isT (Cx.mk ts fin true) q3.pos 4 cPoint = false := by rw [hqp]; exact hd
  clear hq hnm hi3
  have hlt2 : w.heap.size + 1 < w3.heap.size := F.x1.lt
  unfold pv
  clear hqp
  go_wp2_with fail
  refine (is_spec (Cx.mk ts fin true) gt cap base S3 q3 (-1) d 4 cPoint _ (F.alloc _).m.tok hfew (by decide)).mono ?_
  rintro e w4 ⟨rfl, hb4⟩
  rw [hd']
  replace F := (F.new2 _).below hb4
  obtain ⟨c0, c1, c2, c3, c4, c5, c6, c7, c8, c9, c10, c11, cf⟩ := F.x2.box
  go_wp2_with fail
  refine (l4Tail_spec (Cx.mk ts fin true) gt cap base S3 q3 d n3 _ F.m (by rw [HQ.out]; simp [adv])).mono ?_
  rintro e w5 ⟨S5, q5, z5, rfl, hi5, m5, s5⟩
  replace F := F.stp m5 s5
  clear c0 c1 c2 c3 c4 c5 c6 c7 c8 c9 c10 c11 cf
  have bb := F.x1.boxC
  unfold pv
  go_wp2
  refine (F.x1.put _ _ _ _ _ _ _ _ _ _ _ _).ret rfl rfl ?_
  rw [HV.out, ← HQ.out, ← HNM.out]
  exact (F.put1 _ _ _ _ _ _ _ _ _ _ _ _).done rfl hi5.out
set_option maxRecDepth 100000 in
set_option maxHeartbeats 6400000 in
theorem l4Part_member_true (ts : List Tk) (fin : Nat) (gt cap base : Nat) (S : Sv) (q : PS) (d : Nat) (w : World) (hm : Mem (Cx.mk ts fin true) gt cap base S q w) (hk : ((tokAt (Cx.mk ts fin true) q.pos).kind == 2) = false) (ho : isT (Cx.mk ts fin true) q.pos 4 cOpen = false) (hp : q.pos < (Cx.mk ts fin true).ts.length) (hu : isT (Cx.mk ts fin true) q.pos 1 sUndef = false) (hn : plainB (Cx.mk ts fin true) q.pos false = true) (hd : isT (Cx.mk ts fin true) (q.pos + 1) 4 cPoint = true) :
    Calls Try.prog 212 #[pv (Cx.mk ts fin true) gt cap S q (-1) d] w (Out (Cx.mk ts fin true) gt cap base (pE (Cx.mk ts fin true) .part d q) d S w) := by
  have HM := hidI hm
  have htok := hm.tok
  have hfew : (Cx.mk ts fin true).ts.length ≤ 4000 := hm.few
  have hglt := (ownT_lt hm.tok).1
  clear hm
  have HV : Hid (pE (Cx.mk ts fin true) .part d q = bd (bd (.ok (adv (adv q))) (nameP (Cx.mk ts fin true) true)) fun y => memP (Cx.mk ts fin true) (tokAt (Cx.mk ts fin true) q.pos).text y.2 y.1) := by show pE (Cx.mk ts fin true) .part d q = _; rw [pE_part, hk, ho, hu, nameP, hn]; show (if isT (Cx.mk ts fin true) (adv q).pos 4 cPoint then _ else _) = _; rw [adv_pos, hd]; rfl
  have hp' : q.pos < ts.length := hp
  obtain ⟨c0, _, _, _⟩ := htok.cells hp (d := ⟨0, sNone, 0, (Cx.mk ts fin true).fin⟩)
  change _ = some (Value.int .i64 (tokAt (Cx.mk ts fin true) q.pos).kind) at c0
  generalize (tokAt (Cx.mk ts fin true) q.pos).kind = kd at c0 hk
  unfold pv
  go_enter Try.func212, Try.ntmps212
  go_wp2_with fail
  refine (is_spec (Cx.mk ts fin true) gt cap base S q (-1) d 4 cOpen _ (ownT_alloc (ownT_alloc htok _) _) hfew (by decide)).mono ?_
  rintro e w1 ⟨rfl, hb1⟩
  rw [ho]
  have F := HM.out.fm hb1
  have ab := F.x0.boxC
  go_wp2_with fail
  refine (is_spec (Cx.mk ts fin true) gt cap base S q (-1) d 1 sUndef _ F.m.tok hfew (by decide)).mono ?_
  rintro e w2 ⟨rfl, hb2⟩
  rw [hu]
  replace F := F.below hb2
  clear ab
  have ab := F.x0.boxC
  go_wp2_with fail
  refine (l4Name_spec (Cx.mk ts fin true) gt cap base (.ok q) S q (-1) d false _ (is_ok q) F.m).mono ?_
  rintro e w3 ⟨S3, q3, z3, n3, rfl, hi3, m3, s3⟩
  replace F := F.stp m3 s3
  clear ab
  obtain ⟨hq, rfl, hnm⟩ := name_yes hi3.out hn
  have HQ := hidI hq
  have HNM := hidI hnm
  have hqp : q3.pos = q.pos + 1 := by rw [hq]; rfl
  have hd' : isT (Cx.mk ts fin true) q3.pos 4 cPoint = true := by rw [hqp]; exact hd
  clear hq hnm hi3
  have hlt2 : w.heap.size + 1 < w3.heap.size := F.x1.lt
  unfold pv
  clear hqp
  go_wp2_with fail
  refine (is_spec (Cx.mk ts fin true) gt cap base S3 q3 (-1) d 4 cPoint _ (F.alloc _).m.tok hfew (by decide)).mono ?_
  rintro e w4 ⟨rfl, hb4⟩
  rw [hd']
  replace F := (F.new2 _).below hb4
  obtain ⟨c0, c1, c2, c3, c4, c5, c6, c7, c8, c9, c10, c11, cf⟩ := F.x2.box
  have hp2 : q3.pos < (Cx.mk ts fin true).ts.length := isT_lt hd' (by decide)
  have hp2' : q3.pos < ts.length := hp2
  go_wp2_with fail
  refine (l4Name_spec (Cx.mk ts fin true) gt cap base (.ok (adv q3)) S3 (adv q3) (-1) d true _ (is_ok _) ((F.adv hp2).set2_1 _).m).mono ?_
  rintro e w5 ⟨S5, q5, z5, n5, rfl, hi5, m5, s5⟩
  replace F := (F.set2_1 _).stp m5 s5
  clear c0 c1 c2 c3 c4 c5 c6 c7 c8 c9 c10 c11 cf
  have hlt3 : w.heap.size + 1 < w5.heap.size := F.x1.lt
  have hlt3_2 : w3.heap.size < w5.heap.size := F.x2.lt
  cases hc : (decide (z5 < 0) && isT (Cx.mk ts fin true) q5.pos 4 cOpen) with
  | true =>
    unfold pv
    go_wp2_with fail
    refine (is_spec (Cx.mk ts fin true) gt cap base S5 q5 z5 d 4 cOpen _ (F.alloc _).m.tok hfew (by decide)).mono ?_
    rintro e w6 ⟨rfl, hb6⟩
    rw [hc]
    replace F := (F.new3 _).below hb6
    have db := F.x3.boxC
    go_wp2_with fail
    refine (l4Sign_spec (Cx.mk ts fin true) gt cap base _ S5 q5 z5 d cOpen _ hi5.out.fst F.m).mono ?_
    rintro e w7 ⟨S7, q7, z7, rfl, hi7, m7, s7⟩
    replace F := F.stp m7 s7
    clear db
    go_wp2_with fail
    refine (l4Sign_spec (Cx.mk ts fin true) gt cap base _ S7 q7 z7 d cShut _ hi7.out F.m).mono ?_
    rintro e w8 ⟨S8, q8, z8, rfl, hi8, m8, s8⟩
    replace F := F.stp m8 s8
    have db := F.x3.boxC
    unfold pv
    go_wp2_with fail
    refine (l4Add_spec (Cx.mk ts fin true) gt cap base _ S8 q8 z8 d ⟨5, 0, n3, n5, 0, 0⟩ _ hi8.out (F.put3 _ _ _ _ _ _ _ _ _ _ _ _).m (pos_tok hi8.out)).mono ?_
    rintro e w9 ⟨S9, q9, z9, rfl, hi9, m9, s9⟩
    replace F := (F.put3 _ _ _ _ _ _ _ _ _ _ _ _).stp m9 s9
    clear db
    have bb := F.x1.boxC
    unfold pv
    go_wp2
    refine (F.x1.put _ _ _ _ _ _ _ _ _ _ _ _).ret rfl rfl ?_
    rw [HV.out, ← HQ.out, ← HNM.out, ← mem_bind hi5.out hc]
    exact (F.put1 _ _ _ _ _ _ _ _ _ _ _ _).done rfl hi9.out
  | false =>
    unfold pv
    go_wp2_with fail
    refine (is_spec (Cx.mk ts fin true) gt cap base S5 q5 z5 d 4 cOpen _ (F.alloc _).m.tok hfew (by decide)).mono ?_
    rintro e w6 ⟨rfl, hb6⟩
    rw [hc]
    replace F := (F.new3 _).below hb6
    have db := F.x3.boxC
    go_wp2_with fail
    refine (l4Add_spec (Cx.mk ts fin true) gt cap base _ S5 q5 z5 d ⟨4, 0, n3, n5, 0, 0⟩ _ hi5.out.fst F.m (pos_name hi5.out)).mono ?_
    rintro e w7 ⟨S7, q7, z7, rfl, hi7, m7, s7⟩
    replace F := F.stp m7 s7
    clear db
    have bb := F.x1.boxC
    unfold pv
    go_wp2
    refine (F.x1.put _ _ _ _ _ _ _ _ _ _ _ _).ret rfl rfl ?_
    rw [HV.out, ← HQ.out, ← HNM.out, ← mem_bind' hi5.out hc]
    exact (F.put1 _ _ _ _ _ _ _ _ _ _ _ _).done rfl hi7.out
end Go.Proofs.Ytdbpknmoacjodaa
namespace Go.Proofs.Ytdbpknmoacjodaa
open Go.RowKit Go.PlainAid

set_option maxRecDepth 100000 in
set_option maxHeartbeats 6400000 in
theorem l4Part_end_false (ts : List Tk) (fin : Nat) (gt cap base : Nat) (S : Sv) (q : PS) (d : Nat) (w : World) (hm : Mem (Cx.mk ts fin false) gt cap base S q w) (hp : ¬ q.pos < (Cx.mk ts fin false).ts.length) :
    Calls Try.prog 212 #[pv (Cx.mk ts fin false) gt cap S q (-1) d] w (Out (Cx.mk ts fin false) gt cap base (pE (Cx.mk ts fin false) .part d q) d S w) := by
  have HM := hidI hm
  have htok := hm.tok
  have hfew : (Cx.mk ts fin false).ts.length ≤ 4000 := hm.few
  have hglt := (ownT_lt hm.tok).1
  clear hm
  have hk : ((tokAt (Cx.mk ts fin false) q.pos).kind == 2) = false := by rw [tokAt_none (by omega)]; rfl
  have ho : isT (Cx.mk ts fin false) q.pos 4 cOpen = false := isT_end hp (by decide)
  have hu : isT (Cx.mk ts fin false) q.pos 1 sUndef = false := isT_end hp (by decide)
  have hn : plainB (Cx.mk ts fin false) q.pos false = false := plain_end hp
  have HV : Hid (pE (Cx.mk ts fin false) .part d q = .error (here (Cx.mk ts fin false) q.pos)) := by show pE (Cx.mk ts fin false) .part d q = _; rw [pE_part, hk, ho, nameP, hn]; rfl
  have hp' : ¬ q.pos < ts.length := hp
  unfold pv
  go_enter Try.func212, Try.ntmps212
  go_wp2_with fail
  refine (is_spec (Cx.mk ts fin false) gt cap base S q (-1) d 4 cOpen _ (ownT_alloc (ownT_alloc htok _) _) hfew (by decide)).mono ?_
  rintro e w1 ⟨rfl, hb1⟩
  rw [ho]
  have F := HM.out.fm hb1
  have ab := F.x0.boxC
  go_wp2_with fail
  refine (l4Name_spec (Cx.mk ts fin false) gt cap base (.ok q) S q (-1) d false _ (is_ok q) F.m).mono ?_
  rintro e w2 ⟨S2, q2, z2, n2, rfl, hi2, m2, s2⟩
  replace F := F.stp m2 s2
  clear ab
  obtain rfl := name_no hi2.out hn
  have dz : decide ((0 : Int) ≤ (here (Cx.mk ts fin false) q.pos : Int)) = true := decide_eq_true (by omega)
  have hlt2 : w.heap.size + 1 < w2.heap.size := F.x1.lt
  unfold pv
  go_upto_region 17 with fail
  refine (F.new2 _).cut ?_
  intro w3 F
  have bb := F.x1.boxC
  have cb := F.x2.boxC
  go_wp2
  refine (F.x1.put _ _ _ _ _ _ _ _ _ _ _ _).ret rfl rfl ?_
  rw [HV.out]
  exact (F.put1 _ _ _ _ _ _ _ _ _ _ _ _).done rfl (show Is (.error (here (Cx.mk ts fin false) q.pos)) q2 _ from rfl)
set_option maxRecDepth 100000 in
set_option maxHeartbeats 6400000 in
theorem l4Part_none_false (ts : List Tk) (fin : Nat) (gt cap base : Nat) (S : Sv) (q : PS) (d : Nat) (w : World) (hm : Mem (Cx.mk ts fin false) gt cap base S q w) (hk : ((tokAt (Cx.mk ts fin false) q.pos).kind == 2) = false) (ho : isT (Cx.mk ts fin false) q.pos 4 cOpen = false) (hp : q.pos < (Cx.mk ts fin false).ts.length) (hn : plainB (Cx.mk ts fin false) q.pos false = false) :
    Calls Try.prog 212 #[pv (Cx.mk ts fin false) gt cap S q (-1) d] w (Out (Cx.mk ts fin false) gt cap base (pE (Cx.mk ts fin false) .part d q) d S w) := by
  have HM := hidI hm
  have htok := hm.tok
  have hfew : (Cx.mk ts fin false).ts.length ≤ 4000 := hm.few
  have hglt := (ownT_lt hm.tok).1
  clear hm
  have HV : Hid (pE (Cx.mk ts fin false) .part d q = .error (here (Cx.mk ts fin false) q.pos)) := by show pE (Cx.mk ts fin false) .part d q = _; rw [pE_part, hk, ho, nameP, hn]; rfl
  have hp' : q.pos < ts.length := hp
  obtain ⟨c0, _, _, _⟩ := htok.cells hp (d := ⟨0, sNone, 0, (Cx.mk ts fin false).fin⟩)
  change _ = some (Value.int .i64 (tokAt (Cx.mk ts fin false) q.pos).kind) at c0
  generalize (tokAt (Cx.mk ts fin false) q.pos).kind = kd at c0 hk
  unfold pv
  go_enter Try.func212, Try.ntmps212
  go_wp2_with fail
  refine (is_spec (Cx.mk ts fin false) gt cap base S q (-1) d 4 cOpen _ (ownT_alloc (ownT_alloc htok _) _) hfew (by decide)).mono ?_
  rintro e w1 ⟨rfl, hb1⟩
  rw [ho]
  have F := HM.out.fm hb1
  have ab := F.x0.boxC
  go_wp2_with fail
  refine (l4Name_spec (Cx.mk ts fin false) gt cap base (.ok q) S q (-1) d false _ (is_ok q) F.m).mono ?_
  rintro e w2 ⟨S2, q2, z2, n2, rfl, hi2, m2, s2⟩
  replace F := F.stp m2 s2
  clear ab
  obtain rfl := name_no hi2.out hn
  have dz : decide ((0 : Int) ≤ (here (Cx.mk ts fin false) q.pos : Int)) = true := decide_eq_true (by omega)
  have hlt2 : w.heap.size + 1 < w2.heap.size := F.x1.lt
  unfold pv
  go_upto_region 17 with fail
  refine (F.new2 _).cut ?_
  intro w3 F
  have bb := F.x1.boxC
  obtain ⟨c0, c1, c2, c3, c4, c5, c6, c7, c8, c9, c10, c11, cf⟩ := F.x2.box
  go_wp2
  refine (F.x1.put _ _ _ _ _ _ _ _ _ _ _ _).ret rfl rfl ?_
  rw [HV.out]
  exact (F.put1 _ _ _ _ _ _ _ _ _ _ _ _).done rfl (show Is (.error (here (Cx.mk ts fin false) q.pos)) q2 _ from rfl)
set_option maxRecDepth 100000 in
set_option maxHeartbeats 6400000 in
theorem l4Part_bad_false (ts : List Tk) (fin : Nat) (gt cap base : Nat) (S : Sv) (q : PS) (d : Nat) (w : World) (hm : Mem (Cx.mk ts fin false) gt cap base S q w) (e0 : Nat) :
    Calls Try.prog 212 #[pv (Cx.mk ts fin false) gt cap S q (e0 : Int) d] w (Out (Cx.mk ts fin false) gt cap base (.error e0) d S w) := by
  have HM := hidI hm
  have htok := hm.tok
  have hfew : (Cx.mk ts fin false).ts.length ≤ 4000 := hm.few
  have hglt := (ownT_lt hm.tok).1
  clear hm
  have hz : ¬ (e0 : Int) < 0 := by omega
  have hs : ∀ k s, (decide ((e0 : Int) < 0) && isT (Cx.mk ts fin false) q.pos k s) = false := fun k s => by rw [decide_eq_false hz]; rfl
  unfold pv
  go_enter Try.func212, Try.ntmps212
  go_wp2_with fail
  refine (is_spec (Cx.mk ts fin false) gt cap base S q (e0 : Int) d 4 cOpen _ (ownT_alloc (ownT_alloc htok _) _) hfew (by decide)).mono ?_
  rintro e w1 ⟨rfl, hb1⟩
  rw [hs]
  have F := HM.out.fm hb1
  have ab := F.x0.boxC
  go_wp2_with fail
  refine (l4Name_spec (Cx.mk ts fin false) gt cap base (.error e0) S q (e0 : Int) d false _ (show Is (.error e0) q _ from rfl) F.m).mono ?_
  rintro e w2 ⟨S2, q2, z2, n2, rfl, hi2, m2, s2⟩
  replace F := F.stp m2 s2
  clear ab
  obtain rfl : z2 = (e0 : Int) := hi2.out
  have dz : decide ((0 : Int) ≤ (e0 : Int)) = true := decide_eq_true (by omega)
  have hlt2 : w.heap.size + 1 < w2.heap.size := F.x1.lt
  unfold pv
  go_upto_region 17 with fail
  refine (F.new2 _).cut ?_
  intro w3 F
  have bb := F.x1.boxC
  have cb := F.x2.boxC
  go_wp2
  refine (F.x1.put _ _ _ _ _ _ _ _ _ _ _ _).ret rfl rfl ?_
  exact (F.put1 _ _ _ _ _ _ _ _ _ _ _ _).done rfl (show Is (.error e0) q2 _ from rfl)
set_option maxRecDepth 100000 in
set_option maxHeartbeats 6400000 in
theorem l4Part_tail_false (ts : List Tk) (fin : Nat) (gt cap base : Nat) (S : Sv) (q : PS) (d : Nat) (w : World) (hm : Mem (Cx.mk ts fin false) gt cap base S q w) (hk : ((tokAt (Cx.mk ts fin false) q.pos).kind == 2) = false) (ho : isT (Cx.mk ts fin false) q.pos 4 cOpen = false) (hp : q.pos < (Cx.mk ts fin false).ts.length) (hn : plainB (Cx.mk ts fin false) q.pos false = true) (hd : isT (Cx.mk ts fin false) (q.pos + 1) 4 cPoint = false) :
    Calls Try.prog 212 #[pv (Cx.mk ts fin false) gt cap S q (-1) d] w (Out (Cx.mk ts fin false) gt cap base (pE (Cx.mk ts fin false) .part d q) d S w) := by
  have HM := hidI hm
  have htok := hm.tok
  have hfew : (Cx.mk ts fin false).ts.length ≤ 4000 := hm.few
  have hglt := (ownT_lt hm.tok).1
  clear hm
  have HV : Hid (pE (Cx.mk ts fin false) .part d q = tailP (Cx.mk ts fin false) (tokAt (Cx.mk ts fin false) q.pos).text (adv q)) := by show pE (Cx.mk ts fin false) .part d q = _; rw [pE_part, hk, ho, nameP, hn]; show (if isT (Cx.mk ts fin false) (adv q).pos 4 cPoint then _ else _) = _; rw [adv_pos, hd]; rfl
  have hp' : q.pos < ts.length := hp
  obtain ⟨c0, _, _, _⟩ := htok.cells hp (d := ⟨0, sNone, 0, (Cx.mk ts fin false).fin⟩)
  change _ = some (Value.int .i64 (tokAt (Cx.mk ts fin false) q.pos).kind) at c0
  generalize (tokAt (Cx.mk ts fin false) q.pos).kind = kd at c0 hk
  unfold pv
  go_enter Try.func212, Try.ntmps212
  go_wp2_with fail
  refine (is_spec (Cx.mk ts fin false) gt cap base S q (-1) d 4 cOpen _ (ownT_alloc (ownT_alloc htok _) _) hfew (by decide)).mono ?_
  rintro e w1 ⟨rfl, hb1⟩
  rw [ho]
  have F := HM.out.fm hb1
  have ab := F.x0.boxC
  go_wp2_with fail
  refine (l4Name_spec (Cx.mk ts fin false) gt cap base (.ok q) S q (-1) d false _ (is_ok q) F.m).mono ?_
  rintro e w2 ⟨S2, q2, z2, n2, rfl, hi2, m2, s2⟩
  replace F := F.stp m2 s2
  clear ab
  obtain ⟨hq, rfl, hnm⟩ := name_yes hi2.out hn
  have HQ := hidI hq
  have HNM := hidI hnm
  have hqp : q2.pos = q.pos + 1 := by rw [hq]; rfl
  have hd' : isT (Cx.mk ts fin false) q2.pos 4 cPoint = false := by rw [hqp]; exact hd
  clear hq hnm hi2
  have hlt2 : w.heap.size + 1 < w2.heap.size := F.x1.lt
  unfold pv
  clear hqp
  go_wp2_with fail
  refine (is_spec (Cx.mk ts fin false) gt cap base S2 q2 (-1) d 4 cPoint _ (F.alloc _).m.tok hfew (by decide)).mono ?_
  rintro e w3 ⟨rfl, hb3⟩
  rw [hd']
  replace F := (F.new2 _).below hb3
  obtain ⟨c0, c1, c2, c3, c4, c5, c6, c7, c8, c9, c10, c11, cf⟩ := F.x2.box
  go_wp2_with fail
  refine (l4Tail_spec (Cx.mk ts fin false) gt cap base S2 q2 d n2 _ F.m (by rw [HQ.out]; simp [adv])).mono ?_
  rintro e w4 ⟨S4, q4, z4, rfl, hi4, m4, s4⟩
  replace F := F.stp m4 s4
  clear c0 c1 c2 c3 c4 c5 c6 c7 c8 c9 c10 c11 cf
  have bb := F.x1.boxC
  unfold pv
  go_wp2
  refine (F.x1.put _ _ _ _ _ _ _ _ _ _ _ _).ret rfl rfl ?_
  rw [HV.out, ← HQ.out, ← HNM.out]
  exact (F.put1 _ _ _ _ _ _ _ _ _ _ _ _).done rfl hi4.out
set_option maxRecDepth 100000 in
set_option maxHeartbeats 6400000 in
theorem l4Part_member_false (ts : List Tk) (fin : Nat) (gt cap base : Nat) (S : Sv) (q : PS) (d : Nat) (w : World) (hm : Mem (Cx.mk ts fin false) gt cap base S q w) (hk : ((tokAt (Cx.mk ts fin false) q.pos).kind == 2) = false) (ho : isT (Cx.mk ts fin false) q.pos 4 cOpen = false) (hp : q.pos < (Cx.mk ts fin false).ts.length) (hn : plainB (Cx.mk ts fin false) q.pos false = true) (hd : isT (Cx.mk ts fin false) (q.pos + 1) 4 cPoint = true) :
    Calls Try.prog 212 #[pv (Cx.mk ts fin false) gt cap S q (-1) d] w (Out (Cx.mk ts fin false) gt cap base (pE (Cx.mk ts fin false) .part d q) d S w) := by
  have HM := hidI hm
  have htok := hm.tok
  have hfew : (Cx.mk ts fin false).ts.length ≤ 4000 := hm.few
  have hglt := (ownT_lt hm.tok).1
  clear hm
  have HV : Hid (pE (Cx.mk ts fin false) .part d q = bd (bd (.ok (adv (adv q))) (nameP (Cx.mk ts fin false) true)) fun y => memP (Cx.mk ts fin false) (tokAt (Cx.mk ts fin false) q.pos).text y.2 y.1) := by show pE (Cx.mk ts fin false) .part d q = _; rw [pE_part, hk, ho, nameP, hn]; show (if isT (Cx.mk ts fin false) (adv q).pos 4 cPoint then _ else _) = _; rw [adv_pos, hd]; rfl
  have hp' : q.pos < ts.length := hp
  obtain ⟨c0, _, _, _⟩ := htok.cells hp (d := ⟨0, sNone, 0, (Cx.mk ts fin false).fin⟩)
  change _ = some (Value.int .i64 (tokAt (Cx.mk ts fin false) q.pos).kind) at c0
  generalize (tokAt (Cx.mk ts fin false) q.pos).kind = kd at c0 hk
  unfold pv
  go_enter Try.func212, Try.ntmps212
  go_wp2_with fail
  refine (is_spec (Cx.mk ts fin false) gt cap base S q (-1) d 4 cOpen _ (ownT_alloc (ownT_alloc htok _) _) hfew (by decide)).mono ?_
  rintro e w1 ⟨rfl, hb1⟩
  rw [ho]
  have F := HM.out.fm hb1
  have ab := F.x0.boxC
  go_wp2_with fail
  refine (l4Name_spec (Cx.mk ts fin false) gt cap base (.ok q) S q (-1) d false _ (is_ok q) F.m).mono ?_
  rintro e w2 ⟨S2, q2, z2, n2, rfl, hi2, m2, s2⟩
  replace F := F.stp m2 s2
  clear ab
  obtain ⟨hq, rfl, hnm⟩ := name_yes hi2.out hn
  have HQ := hidI hq
  have HNM := hidI hnm
  have hqp : q2.pos = q.pos + 1 := by rw [hq]; rfl
  have hd' : isT (Cx.mk ts fin false) q2.pos 4 cPoint = true := by rw [hqp]; exact hd
  clear hq hnm hi2
  have hlt2 : w.heap.size + 1 < w2.heap.size := F.x1.lt
  unfold pv
  clear hqp
  go_wp2_with fail
  refine (is_spec (Cx.mk ts fin false) gt cap base S2 q2 (-1) d 4 cPoint _ (F.alloc _).m.tok hfew (by decide)).mono ?_
  rintro e w3 ⟨rfl, hb3⟩
  rw [hd']
  replace F := (F.new2 _).below hb3
  obtain ⟨c0, c1, c2, c3, c4, c5, c6, c7, c8, c9, c10, c11, cf⟩ := F.x2.box
  have hp2 : q2.pos < (Cx.mk ts fin false).ts.length := isT_lt hd' (by decide)
  have hp2' : q2.pos < ts.length := hp2
  go_wp2_with fail
  refine (l4Name_spec (Cx.mk ts fin false) gt cap base (.ok (adv q2)) S2 (adv q2) (-1) d true _ (is_ok _) ((F.adv hp2).set2_1 _).m).mono ?_
  rintro e w4 ⟨S4, q4, z4, n4, rfl, hi4, m4, s4⟩
  replace F := (F.set2_1 _).stp m4 s4
  clear c0 c1 c2 c3 c4 c5 c6 c7 c8 c9 c10 c11 cf
  have hlt3 : w.heap.size + 1 < w4.heap.size := F.x1.lt
  have hlt3_2 : w2.heap.size < w4.heap.size := F.x2.lt
  cases hc : (decide (z4 < 0) && isT (Cx.mk ts fin false) q4.pos 4 cOpen) with
  | true =>
    unfold pv
    go_wp2_with fail
    refine (is_spec (Cx.mk ts fin false) gt cap base S4 q4 z4 d 4 cOpen _ (F.alloc _).m.tok hfew (by decide)).mono ?_
    rintro e w5 ⟨rfl, hb5⟩
    rw [hc]
    replace F := (F.new3 _).below hb5
    have db := F.x3.boxC
    go_wp2_with fail
    refine (l4Sign_spec (Cx.mk ts fin false) gt cap base _ S4 q4 z4 d cOpen _ hi4.out.fst F.m).mono ?_
    rintro e w6 ⟨S6, q6, z6, rfl, hi6, m6, s6⟩
    replace F := F.stp m6 s6
    clear db
    go_wp2_with fail
    refine (l4Sign_spec (Cx.mk ts fin false) gt cap base _ S6 q6 z6 d cShut _ hi6.out F.m).mono ?_
    rintro e w7 ⟨S7, q7, z7, rfl, hi7, m7, s7⟩
    replace F := F.stp m7 s7
    have db := F.x3.boxC
    unfold pv
    go_wp2_with fail
    refine (l4Add_spec (Cx.mk ts fin false) gt cap base _ S7 q7 z7 d ⟨5, 0, n2, n4, 0, 0⟩ _ hi7.out (F.put3 _ _ _ _ _ _ _ _ _ _ _ _).m (pos_tok hi7.out)).mono ?_
    rintro e w8 ⟨S8, q8, z8, rfl, hi8, m8, s8⟩
    replace F := (F.put3 _ _ _ _ _ _ _ _ _ _ _ _).stp m8 s8
    clear db
    have bb := F.x1.boxC
    unfold pv
    go_wp2
    refine (F.x1.put _ _ _ _ _ _ _ _ _ _ _ _).ret rfl rfl ?_
    rw [HV.out, ← HQ.out, ← HNM.out, ← mem_bind hi4.out hc]
    exact (F.put1 _ _ _ _ _ _ _ _ _ _ _ _).done rfl hi8.out
  | false =>
    unfold pv
    go_wp2_with fail
    refine (is_spec (Cx.mk ts fin false) gt cap base S4 q4 z4 d 4 cOpen _ (F.alloc _).m.tok hfew (by decide)).mono ?_
    rintro e w5 ⟨rfl, hb5⟩
    rw [hc]
    replace F := (F.new3 _).below hb5
    have db := F.x3.boxC
    go_wp2_with fail
    refine (l4Add_spec (Cx.mk ts fin false) gt cap base _ S4 q4 z4 d ⟨4, 0, n2, n4, 0, 0⟩ _ hi4.out.fst F.m (pos_name hi4.out)).mono ?_
    rintro e w6 ⟨S6, q6, z6, rfl, hi6, m6, s6⟩
    replace F := F.stp m6 s6
    clear db
    have bb := F.x1.boxC
    unfold pv
    go_wp2
    refine (F.x1.put _ _ _ _ _ _ _ _ _ _ _ _).ret rfl rfl ?_
    rw [HV.out, ← HQ.out, ← HNM.out, ← mem_bind' hi4.out hc]
    exact (F.put1 _ _ _ _ _ _ _ _ _ _ _ _).done rfl hi6.out
end Go.Proofs.Ytdbpknmoacjodaa
