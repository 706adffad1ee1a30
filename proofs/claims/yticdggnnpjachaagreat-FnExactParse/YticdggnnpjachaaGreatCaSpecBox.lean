/-
  Boxes of a program under way, through calls and stores. No program is spoken of but for the numbers of its types.
-/
import Derived.Test.YticdggnnpjachaaGreatCaSpecParseAToSpecParseE
import Derived.Deep.Cut
namespace Go.Proofs.YticdggnnpjachaaGreat
open Go.RowKit Go.PlainAid

abbrev set12 (w : World) (b : Nat) (x0 x1 x2 x3 x4 x5 x6 x7 x8 x9 x10 x11 : Value) : World :=
  ((((((((((((w.setCell ⟨b, 0, none⟩ x0).setCell ⟨b, 1, none⟩ x1).setCell ⟨b, 2, none⟩ x2).setCell ⟨b, 3, none⟩ x3).setCell ⟨b, 4, none⟩ x4).setCell ⟨b, 5, none⟩ x5).setCell ⟨b, 6, none⟩ x6).setCell ⟨b, 7, none⟩ x7).setCell ⟨b, 8, none⟩ x8).setCell ⟨b, 9, none⟩ x9).setCell ⟨b, 10, none⟩ x10).setCell ⟨b, 11, none⟩ x11)
theorem setCell_size (w : World) (a : Addr) (u : Value) : (w.setCell a u).heap.size = w.heap.size := by show (w.heap.modify _ _).size = _; simp
theorem set12_size (w : World) (b : Nat) (x0 x1 x2 x3 x4 x5 x6 x7 x8 x9 x10 x11 : Value) : (set12 w b x0 x1 x2 x3 x4 x5 x6 x7 x8 x9 x10 x11).heap.size = w.heap.size := by
  unfold set12
  simp only [setCell_size]
theorem set12_other {w : World} {b k : Nat} (h : k ≠ b) (x0 x1 x2 x3 x4 x5 x6 x7 x8 x9 x10 x11 : Value) : (set12 w b x0 x1 x2 x3 x4 x5 x6 x7 x8 x9 x10 x11).heap[k]? = w.heap[k]? := by
  unfold set12
  rw [pother h, pother h, pother h, pother h, pother h, pother h, pother h, pother h, pother h, pother h, pother h, pother h]
structure Bx (gt : Nat) (S : Sv) (w : World) (b : Nat) (cs : Array Value) : Prop where
  heap : w.heap[b]? = some (.cells cs 53 (0, 0))
  free : ¬ S.has b
  ne : b ≠ gt
theorem Bx.lt {gt b : Nat} {S : Sv} {w : World} {cs : Array Value} (h : Bx gt S w b cs) : b < w.heap.size := (Array.getElem?_eq_some_iff.1 h.heap).1
theorem Bx.stp {gt b : Nat} {S S' : Sv} {w w' : World} {cs : Array Value} (h : Bx gt S w b cs) (k : Stp S w S' w') : Bx gt S' w' b cs :=
  ⟨(k.block b h.lt h.free).trans h.heap, fun g => (k.sub b g).elim h.free fun g' => by have := h.lt; omega, h.ne⟩
theorem Bx.below {gt b : Nat} {S : Sv} {w w' : World} {cs : Array Value} (h : Bx gt S w b cs) (k : Below w.heap.size w w') : Bx gt S w' b cs := ⟨(k.block b h.lt).trans h.heap, h.free, h.ne⟩
theorem Bx.alloc {gt b : Nat} {S : Sv} {w : World} {cs : Array Value} (h : Bx gt S w b cs) (o : Obj) : Bx gt S (w.alloc o) b cs := h.below ((Below.refl _ _).alloc (Nat.le_refl _) _)
theorem Bx.new {C : Cx} {gt cap base : Nat} {S : Sv} {q : PS} {w : World} (h : Mem C gt cap base S q w) (cs : Array Value) : Bx gt S (w.alloc (.cells cs 53 (0, 0))) w.heap.size cs :=
  ⟨heap_alloc_new w _, fun g => by have := (h.own.has g).2; omega, by have := (ownT_lt h.tok).1; omega⟩
theorem Bx.set {gt b : Nat} {S : Sv} {w : World} {cs : Array Value} (h : Bx gt S w b cs) (i : Nat) (u : Value) : Bx gt S (w.setCell ⟨b, i, none⟩ u) b (cs.setIfInBounds i u) := ⟨pcell h.heap, h.free, h.ne⟩
theorem Bx.set_other {gt b c : Nat} {S : Sv} {w : World} {cs : Array Value} (h : Bx gt S w b cs) (hc : b ≠ c) (i : Nat) (u : Value) : Bx gt S (w.setCell ⟨c, i, none⟩ u) b cs := ⟨(pother hc).trans h.heap, h.free, h.ne⟩
theorem Bx.put {gt b : Nat} {S : Sv} {w : World} {v0 v1 v2 v3 v4 v5 v6 v7 v8 v9 v10 v11 : Value} (h : Bx gt S w b #[v0, v1, v2, v3, v4, v5, v6, v7, v8, v9, v10, v11]) (x0 x1 x2 x3 x4 x5 x6 x7 x8 x9 x10 x11 : Value) :
    Bx gt S (set12 w b x0 x1 x2 x3 x4 x5 x6 x7 x8 x9 x10 x11) b #[x0, x1, x2, x3, x4, x5, x6, x7, x8, x9, x10, x11] := ⟨put12 h.heap, h.free, h.ne⟩
theorem Bx.other {gt b c : Nat} {S : Sv} {w : World} {cs : Array Value} (h : Bx gt S w b cs) (hc : b ≠ c) (x0 x1 x2 x3 x4 x5 x6 x7 x8 x9 x10 x11 : Value) : Bx gt S (set12 w c x0 x1 x2 x3 x4 x5 x6 x7 x8 x9 x10 x11) b cs := ⟨(set12_other hc _ _ _ _ _ _ _ _ _ _ _ _).trans h.heap, h.free, h.ne⟩
theorem Bx.at1 {gt b : Nat} {S : Sv} {w : World} {v0 v1 v2 v3 v4 v5 v6 v7 v8 v9 v10 v11 : Value} (h : Bx gt S w b #[v0, v1, v2, v3, v4, v5, v6, v7, v8, v9, v10, v11]) (u : Value) : Bx gt S (w.setCell ⟨b, 1, none⟩ u) b #[v0, u, v2, v3, v4, v5, v6, v7, v8, v9, v10, v11] := by simpa using h.set 1 u
theorem Bx.at11 {gt b : Nat} {S : Sv} {w : World} {v0 v1 v2 v3 v4 v5 v6 v7 v8 v9 v10 v11 : Value} (h : Bx gt S w b #[v0, v1, v2, v3, v4, v5, v6, v7, v8, v9, v10, v11]) (u : Value) : Bx gt S (w.setCell ⟨b, 11, none⟩ u) b #[v0, v1, v2, v3, v4, v5, v6, v7, v8, v9, v10, u] := by simpa using h.set 11 u
theorem Bx.box {gt b : Nat} {S : Sv} {w : World} {v0 v1 v2 v3 v4 v5 v6 v7 v8 v9 v10 v11 : Value} (h : Bx gt S w b #[v0, v1, v2, v3, v4, v5, v6, v7, v8, v9, v10, v11]) : Box w b v0 v1 v2 v3 v4 v5 v6 v7 v8 v9 v10 v11 := box_of h.heap
theorem Mem.set {C : Cx} {gt cap base b : Nat} {S : Sv} {q : PS} {w : World} (h : Mem C gt cap base S q w) {cs : Array Value} (hb : Bx gt S w b cs) (i : Nat) (u : Value) : Mem C gt cap base S q (w.setCell ⟨b, i, none⟩ u) :=
  ⟨h.own.keep fun k g => pother (b := k) fun e => hb.free (by rw [← e]; exact g), h.inv, ownT_keep h.tok (pother hb.ne.symm), h.few, by rw [setCell_size]; exact h.base⟩
theorem Mem.put {C : Cx} {gt cap base b : Nat} {S : Sv} {q : PS} {w : World} (h : Mem C gt cap base S q w) {cs : Array Value} (hb : Bx gt S w b cs) (x0 x1 x2 x3 x4 x5 x6 x7 x8 x9 x10 x11 : Value) : Mem C gt cap base S q (set12 w b x0 x1 x2 x3 x4 x5 x6 x7 x8 x9 x10 x11) :=
  ⟨h.own.keep fun k g => set12_other (k := k) (fun e => hb.free (by rw [← e]; exact g)) _ _ _ _ _ _ _ _ _ _ _ _, h.inv, ownT_keep h.tok (set12_other hb.ne.symm _ _ _ _ _ _ _ _ _ _ _ _), h.few, by rw [set12_size]; exact h.base⟩

structure SB (B : Nat) (S : Sv) (w : World) (S' : Sv) (w' : World) : Prop where
  os : w'.os = w.os
  tape : w'.tape = w.tape
  output : w'.output = w.output
  size : w.heap.size ≤ w'.heap.size
  low : B ≤ w.heap.size
  block : ∀ k, k < B → ¬ S.has k → w'.heap[k]? = w.heap[k]?
  sub : ∀ k, S'.has k → S.has k ∨ B ≤ k
theorem SB.start {S : Sv} {w w' : World} (h : Below w.heap.size w w') : SB w.heap.size S w S w' := ⟨h.os, h.tape, h.output, h.size, Nat.le_refl _, fun k hk _ => h.block k hk, fun _ g => .inl g⟩
theorem SB.step {B : Nat} {S S1 S2 : Sv} {w w1 w2 : World} (h : SB B S w S1 w1) (k : Stp S1 w1 S2 w2) : SB B S w S2 w2 :=
  ⟨k.os.trans h.os, k.tape.trans h.tape, k.output.trans h.output, Nat.le_trans h.size k.size, h.low,
    fun i hi hn => (k.block i (by have := h.size; have := h.low; omega) fun g => (h.sub i g).elim hn fun g' => by omega).trans (h.block i hi hn),
    fun i hi => (k.sub i hi).elim (h.sub i) fun g => .inr (by have := h.size; have := h.low; omega)⟩
theorem SB.below {B : Nat} {S S1 : Sv} {w w1 w2 : World} (h : SB B S w S1 w1) (k : Below w1.heap.size w1 w2) : SB B S w S1 w2 := h.step (Stp.below k)
theorem SB.alloc {B : Nat} {S S1 : Sv} {w w1 : World} (h : SB B S w S1 w1) (o : Obj) : SB B S w S1 (w1.alloc o) := h.below ((Below.refl _ _).alloc (Nat.le_refl _) _)
theorem SB.set {B : Nat} {S S1 : Sv} {w w1 : World} (h : SB B S w S1 w1) {b : Nat} (hb : B ≤ b) (i : Nat) (u : Value) : SB B S w S1 (w1.setCell ⟨b, i, none⟩ u) :=
  ⟨h.os, h.tape, h.output, by rw [setCell_size]; exact h.size, h.low, fun k hk hn => (pother (by omega)).trans (h.block k hk hn), h.sub⟩
theorem SB.put {B : Nat} {S S1 : Sv} {w w1 : World} (h : SB B S w S1 w1) {b : Nat} (hb : B ≤ b) (x0 x1 x2 x3 x4 x5 x6 x7 x8 x9 x10 x11 : Value) : SB B S w S1 (set12 w1 b x0 x1 x2 x3 x4 x5 x6 x7 x8 x9 x10 x11) :=
  (((((((((((h.set hb 0 x0).set hb 1 x1).set hb 2 x2).set hb 3 x3).set hb 4 x4).set hb 5 x5).set hb 6 x6).set hb 7 x7).set hb 8 x8).set hb 9 x9).set hb 10 x10).set hb 11 x11
theorem SB.done {S S1 : Sv} {w w1 : World} (h : SB w.heap.size S w S1 w1) : Stp S w S1 w1 := ⟨h.os, h.tape, h.output, h.size, h.block, h.sub⟩
theorem world_any {P : Program} {code : Code} {Q : Exit → Act → World → Prop} {a : Act} {w0 : World} {R : World → Prop} (h0 : R w0) (h : ∀ W, R W → Code.wp P code Q a W) : Code.wp P code Q a w0 := h w0 h0
theorem Mem.two {C : Cx} {gt cap base : Nat} {S : Sv} {q : PS} {w w1 : World} {ca cb : Array Value} (h : Mem C gt cap base S q w) (hb : Below ((w.alloc (.cells ca 53 (0, 0))).alloc (.cells cb 53 (0, 0))).heap.size ((w.alloc (.cells ca 53 (0, 0))).alloc (.cells cb 53 (0, 0))) w1) :
    Bx gt S w1 w.heap.size ca ∧ Bx gt S w1 (w.heap.size + 1) cb ∧ Mem C gt cap base S q w1 ∧ SB w.heap.size S w S w1 :=
  ⟨((Bx.new h _).alloc _).below hb, by have := (Bx.new (h.alloc (.cells ca 53 (0, 0))) cb).below hb; rw [alloc_size] at this; exact this, h.later (two_below hb), SB.start (two_below hb)⟩
theorem Mem.two2 {C : Cx} {gt cap base : Nat} {S S1 : Sv} {q : PS} {w w1 : World} {ca cb : Array Value} (h : Mem C gt cap base S q w) (s : Stp S ((w.alloc (.cells ca 53 (0, 0))).alloc (.cells cb 53 (0, 0))) S1 w1) :
    Bx gt S1 w1 w.heap.size ca ∧ Bx gt S1 w1 (w.heap.size + 1) cb ∧ SB w.heap.size S w S1 w1 :=
  ⟨((Bx.new h _).alloc _).stp s, by have := (Bx.new (h.alloc (.cells ca 53 (0, 0))) cb).stp s; rw [alloc_size] at this; exact this, (SB.start (below2 w _ _)).step s⟩
theorem out_done {C : Cx} {gt cap base : Nat} {y : PR} {d : Nat} {S S' : Sv} {w w' : World} {q' : PS} {z' : Int} {v : Value} (hv : v = pv C gt cap S' q' z' d) (hi : Is y q' z') (hm : Mem C gt cap base S' q' w') (hs : SB w.heap.size S w S' w') : Out C gt cap base y d S w (.returned v) w' :=
  ⟨S', q', z', by rw [hv], hi, hm, hs.done⟩
end Go.Proofs.YticdggnnpjachaaGreat
