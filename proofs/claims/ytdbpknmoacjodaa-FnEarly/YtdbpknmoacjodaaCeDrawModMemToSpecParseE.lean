/-
  The specification's draw of a program in memory. No program is spoken of but for the numbers of its types.
  A pick of a row just made, behind a draw, or of one that lies there. No program is spoken of but for the numbers of its types.
  What spec's l4Spec answers: the walk.
-/
import Derived.Test.YtdbpknmoacjodaaCeImplParseJToOddMath
namespace Go.Proofs.Ytdbpknmoacjodaa
open Go.RowKit Go.PlainAid Go.Sort

structure Drawn (k : Nat) (m : Md) : Prop where
  rq : m.rq.length ≤ 300 + k ∧ ∀ x ∈ m.rq, x.size ≤ 20000
  im : m.im.length ≤ 300 + k ∧ ∀ x ∈ m.im, x.spec.size ≤ 20000 ∧ x.first.size ≤ 20000 ∧ x.loc.size ≤ 20000
  ep : m.ep.length ≤ 300 + k ∧ ∀ x ∈ m.ep, OkEp 20000 x
  st : m.st.length ≤ 300 + k ∧ ∀ x ∈ m.st, x.name.size ≤ 20000
  ex : m.ex.length ≤ 300 + k ∧ ∀ x ∈ m.ex, OkEx 20000 x
  fair : FairS m.st
theorem OwnR.asideD {w w' : World} {b s n b2 s2 n2 : Nat} {e e2 : TypeId} {r r2 : Rw} {xs ys : List Value} (h : OwnR w b e s r n xs) (h2 : OwnR w b2 e2 s2 r2 n2 ys) (he : e ≠ e2) (g : w.grownBy w' r2.blk) : OwnR w' b e s r n xs :=
  h.keep fun k hk => g.block k (h.typed hk).2.1 fun e' => h.ne h2 he hk e'.symm
structure MM (S : Src) (g : Nat) (w0 : World) (b6 b7 : Nat) (V : Sv) (m : Md) (q : Nat × Int) (W : World) : Prop where
  r6 : W.heap[b6]? = some (.cells #[.slice none 0 0, .slice none 0 0, .slice none 0 0, .slice none 0 0, .slice none 0 0] 37 (0, 0))
  r7 : W.heap[b7]? = some (.cells #[.slice V.rq.a m.rq.length V.rq.cap, .slice V.im.a m.im.length V.im.cap, .slice V.ep.a m.ep.length V.ep.cap, .slice V.st.a m.st.length V.st.cap, .slice V.ex.a m.ex.length V.ex.cap] 37 (0, 0))
  own : OwnMd W w0.heap.size V m
  cur : CurW 201 S W g q
  gr : w0.grownBy W (some g)
  ge : w0.heap.size ≤ b6
  lt : b6 < b7
  gl : g < w0.heap.size
theorem OwnMd.grown {w w' : World} {base g : Nat} {V : Sv} {m : Md} (h : OwnMd w base V m) (hg : g < base) (k : w.grownBy w' (some g)) : OwnMd w' base V m := by
  have one : ∀ {e : TypeId} {size n : Nat} {r : Rw} {xs : List Value}, OwnR w base e size r n xs → OwnR w' base e size r n xs := fun h => h.keep fun j hj => k.block j (h.typed hj).2.1 (by have := (h.typed hj).1; simp; omega)
  exact ⟨one h.rq, one h.im, one h.ep, one h.st, one h.ex⟩
theorem MM.step {S : Src} {g : Nat} {w0 W W' : World} {b6 b7 : Nat} {V : Sv} {m : Md} {q q' : Nat × Int} (h : MM S g w0 b6 b7 V m q W) (hc : CurW 201 S W' g q') (hg : W.grownBy W' (some g)) : MM S g w0 b6 b7 V m q' W' :=
  ⟨(hg.block _ (Array.getElem?_eq_some_iff.1 h.r6).1 (by have := h.ge; have := h.gl; simp; omega)).trans h.r6, (hg.block _ (Array.getElem?_eq_some_iff.1 h.r7).1 (by have := h.ge; have := h.gl; have := h.lt; simp; omega)).trans h.r7, h.own.grown h.gl hg, hc, grown_trans h.gr hg, h.ge, h.lt, h.gl⟩
theorem MM.alloc {S : Src} {g : Nat} {w0 W : World} {b6 b7 : Nat} {V : Sv} {m : Md} {q : Nat × Int} (h : MM S g w0 b6 b7 V m q W) (o : Obj) : MM S g w0 b6 b7 V m q (W.alloc o) := h.step (cur_alloc h.cur o) (grown_alloc W o _)
theorem MM.drew {S : Src} {g : Nat} {w0 W : World} {b6 b7 : Nat} {V : Sv} {m : Md} {q : Nat × Int} (h : MM S g w0 b6 b7 V m q W) : MM S g w0 b6 b7 V m q W.drew := h.step (curW_kept h.cur fun _ _ => rfl) ⟨rfl, rfl, rfl, Nat.le_refl _, fun _ _ _ => rfl⟩
theorem MM.far_rq {S : Src} {g : Nat} {w0 W W' : World} {b6 b7 : Nat} {V : Sv} {m : Md} {q : Nat × Int} (h : MM S g w0 b6 b7 V m q W) (hg : W.grownBy W' V.rq.blk) : W'.heap[b7]? = some (.cells #[.slice V.rq.a m.rq.length V.rq.cap, .slice V.im.a m.im.length V.im.cap, .slice V.ep.a m.ep.length V.ep.cap, .slice V.st.a m.st.length V.st.cap, .slice V.ex.a m.ex.length V.ex.cap] 37 (0, 0)) :=
  (hg.block b7 (Array.getElem?_eq_some_iff.1 h.r7).1 fun e => by
    obtain ⟨_, _, cur, hc⟩ := h.own.rq.typed e.symm
    rw [h.r7] at hc
    simp only [Option.some.injEq, Obj.cells.injEq] at hc
    exact absurd hc.2.1 (by decide)).trans h.r7
theorem MM.app_rq {S : Src} {g : Nat} {w0 W W' : World} {b6 b7 : Nat} {V : Sv} {m : Md} {q : Nat × Int} {r' : Rw} {x : ByteArray} (h : MM S g w0 b6 b7 V m q W) (hr : OwnR W' w0.heap.size 9 1 r' (m.rq.length + 1) (m.rq.map Value.string ++ [Value.string x])) (hg : W.grownBy W' V.rq.blk) :
    MM S g w0 b6 b7 { V with rq := r' } { m with rq := m.rq ++ [x] } q (W'.setCell ⟨b7, 0, none⟩ (.slice r'.a (m.rq.length + 1) r'.cap)) := by
  have hz := h.gr.size
  have away : ∀ (k : Nat) (cs : Array Value) (t : TypeId), W.heap[k]? = some (.cells cs t (0, 0)) → t ≠ 9 → W'.heap[k]? = W.heap[k]? := fun k cs t hk ht => hg.block k (Array.getElem?_eq_some_iff.1 hk).1 fun e => by
    obtain ⟨_, _, cur, hc⟩ := h.own.rq.typed e.symm
    rw [hk] at hc
    simp only [Option.some.injEq, Obj.cells.injEq] at hc
    exact ht hc.2.1
  have h7 := (away _ _ _ h.r7 (by decide)).trans h.r7
  have keep : ∀ {e : TypeId} {size n : Nat} {r : Rw} (xs : List Value), OwnR W' w0.heap.size e size r n xs → e ≠ 37 → OwnR (W'.setCell ⟨b7, 0, none⟩ (.slice r'.a (m.rq.length + 1) r'.cap)) w0.heap.size e size r n xs := fun xs hx he => hx.keep fun k hk => pother fun e => by
    obtain ⟨_, _, cur, hc⟩ := hx.typed hk
    rw [e, h7] at hc
    simp only [Option.some.injEq, Obj.cells.injEq] at hc
    exact he hc.2.1.symm
  have hge := h.ge
  have hlt := h.lt
  have hgl := h.gl
  have grow : ∀ k, k < w0.heap.size → W'.heap[k]? = W.heap[k]? := fun k hk => by
    refine hg.block k (by omega) fun e => ?_
    have := (h.own.rq.typed e.symm).1
    omega
  refine ⟨(pother (by omega)).trans ((away _ _ _ h.r6 (by decide)).trans h.r6), (qcell h7).trans (by simp), ⟨(keep _ (by exact (by rw [List.map_append, List.length_append]; exact hr)) (by decide)), (keep _ (h.own.im.asideD h.own.rq (by decide) hg) (by decide)), (keep _ (h.own.ep.asideD h.own.rq (by decide) hg) (by decide)), (keep _ (h.own.st.asideD h.own.rq (by decide) hg) (by decide)), (keep _ (h.own.ex.asideD h.own.rq (by decide) hg) (by decide))⟩, ?_, ?_, h.ge, h.lt, h.gl⟩
  · exact curW_kept h.cur fun k hk => (pother (by omega)).trans (grow k (by omega))
  · refine ⟨hg.os.trans h.gr.os, hg.tape.trans h.gr.tape, hg.output.trans h.gr.output, ?_, fun k hk hne => (pother (by omega)).trans ((grow k hk).trans (h.gr.block k hk hne))⟩
    rw [World.size_setCell]
    exact Nat.le_trans h.gr.size hg.size
theorem MM.far_im {S : Src} {g : Nat} {w0 W W' : World} {b6 b7 : Nat} {V : Sv} {m : Md} {q : Nat × Int} (h : MM S g w0 b6 b7 V m q W) (hg : W.grownBy W' V.im.blk) : W'.heap[b7]? = some (.cells #[.slice V.rq.a m.rq.length V.rq.cap, .slice V.im.a m.im.length V.im.cap, .slice V.ep.a m.ep.length V.ep.cap, .slice V.st.a m.st.length V.st.cap, .slice V.ex.a m.ex.length V.ex.cap] 37 (0, 0)) :=
  (hg.block b7 (Array.getElem?_eq_some_iff.1 h.r7).1 fun e => by
    obtain ⟨_, _, cur, hc⟩ := h.own.im.typed e.symm
    rw [h.r7] at hc
    simp only [Option.some.injEq, Obj.cells.injEq] at hc
    exact absurd hc.2.1 (by decide)).trans h.r7
theorem MM.app_im {S : Src} {g : Nat} {w0 W W' : World} {b6 b7 : Nat} {V : Sv} {m : Md} {q : Nat × Int} {r' : Rw} {x : Im} (h : MM S g w0 b6 b7 V m q W) (hr : OwnR W' w0.heap.size 154 3 r' (m.im.length + 1) (m.im.flatMap imL ++ imL x)) (hg : W.grownBy W' V.im.blk) :
    MM S g w0 b6 b7 { V with im := r' } { m with im := m.im ++ [x] } q (W'.setCell ⟨b7, 1, none⟩ (.slice r'.a (m.im.length + 1) r'.cap)) := by
  have hz := h.gr.size
  have away : ∀ (k : Nat) (cs : Array Value) (t : TypeId), W.heap[k]? = some (.cells cs t (0, 0)) → t ≠ 154 → W'.heap[k]? = W.heap[k]? := fun k cs t hk ht => hg.block k (Array.getElem?_eq_some_iff.1 hk).1 fun e => by
    obtain ⟨_, _, cur, hc⟩ := h.own.im.typed e.symm
    rw [hk] at hc
    simp only [Option.some.injEq, Obj.cells.injEq] at hc
    exact ht hc.2.1
  have h7 := (away _ _ _ h.r7 (by decide)).trans h.r7
  have keep : ∀ {e : TypeId} {size n : Nat} {r : Rw} (xs : List Value), OwnR W' w0.heap.size e size r n xs → e ≠ 37 → OwnR (W'.setCell ⟨b7, 1, none⟩ (.slice r'.a (m.im.length + 1) r'.cap)) w0.heap.size e size r n xs := fun xs hx he => hx.keep fun k hk => pother fun e => by
    obtain ⟨_, _, cur, hc⟩ := hx.typed hk
    rw [e, h7] at hc
    simp only [Option.some.injEq, Obj.cells.injEq] at hc
    exact he hc.2.1.symm
  have hge := h.ge
  have hlt := h.lt
  have hgl := h.gl
  have grow : ∀ k, k < w0.heap.size → W'.heap[k]? = W.heap[k]? := fun k hk => by
    refine hg.block k (by omega) fun e => ?_
    have := (h.own.im.typed e.symm).1
    omega
  refine ⟨(pother (by omega)).trans ((away _ _ _ h.r6 (by decide)).trans h.r6), (qcell h7).trans (by simp), ⟨(keep _ (h.own.rq.asideD h.own.im (by decide) hg) (by decide)), (keep _ (by exact (by rw [List.flatMap_append, List.length_append]; simpa using hr)) (by decide)), (keep _ (h.own.ep.asideD h.own.im (by decide) hg) (by decide)), (keep _ (h.own.st.asideD h.own.im (by decide) hg) (by decide)), (keep _ (h.own.ex.asideD h.own.im (by decide) hg) (by decide))⟩, ?_, ?_, h.ge, h.lt, h.gl⟩
  · exact curW_kept h.cur fun k hk => (pother (by omega)).trans (grow k (by omega))
  · refine ⟨hg.os.trans h.gr.os, hg.tape.trans h.gr.tape, hg.output.trans h.gr.output, ?_, fun k hk hne => (pother (by omega)).trans ((grow k hk).trans (h.gr.block k hk hne))⟩
    rw [World.size_setCell]
    exact Nat.le_trans h.gr.size hg.size
theorem MM.far_ep {S : Src} {g : Nat} {w0 W W' : World} {b6 b7 : Nat} {V : Sv} {m : Md} {q : Nat × Int} (h : MM S g w0 b6 b7 V m q W) (hg : W.grownBy W' V.ep.blk) : W'.heap[b7]? = some (.cells #[.slice V.rq.a m.rq.length V.rq.cap, .slice V.im.a m.im.length V.im.cap, .slice V.ep.a m.ep.length V.ep.cap, .slice V.st.a m.st.length V.st.cap, .slice V.ex.a m.ex.length V.ex.cap] 37 (0, 0)) :=
  (hg.block b7 (Array.getElem?_eq_some_iff.1 h.r7).1 fun e => by
    obtain ⟨_, _, cur, hc⟩ := h.own.ep.typed e.symm
    rw [h.r7] at hc
    simp only [Option.some.injEq, Obj.cells.injEq] at hc
    exact absurd hc.2.1 (by decide)).trans h.r7
theorem MM.app_ep {S : Src} {g : Nat} {w0 W W' : World} {b6 b7 : Nat} {V : Sv} {m : Md} {q : Nat × Int} {r' : Rw} {x : Ep} (h : MM S g w0 b6 b7 V m q W) (hr : OwnR W' w0.heap.size 79 4 r' (m.ep.length + 1) (m.ep.flatMap epL ++ epL x)) (hg : W.grownBy W' V.ep.blk) :
    MM S g w0 b6 b7 { V with ep := r' } { m with ep := m.ep ++ [x] } q (W'.setCell ⟨b7, 2, none⟩ (.slice r'.a (m.ep.length + 1) r'.cap)) := by
  have hz := h.gr.size
  have away : ∀ (k : Nat) (cs : Array Value) (t : TypeId), W.heap[k]? = some (.cells cs t (0, 0)) → t ≠ 79 → W'.heap[k]? = W.heap[k]? := fun k cs t hk ht => hg.block k (Array.getElem?_eq_some_iff.1 hk).1 fun e => by
    obtain ⟨_, _, cur, hc⟩ := h.own.ep.typed e.symm
    rw [hk] at hc
    simp only [Option.some.injEq, Obj.cells.injEq] at hc
    exact ht hc.2.1
  have h7 := (away _ _ _ h.r7 (by decide)).trans h.r7
  have keep : ∀ {e : TypeId} {size n : Nat} {r : Rw} (xs : List Value), OwnR W' w0.heap.size e size r n xs → e ≠ 37 → OwnR (W'.setCell ⟨b7, 2, none⟩ (.slice r'.a (m.ep.length + 1) r'.cap)) w0.heap.size e size r n xs := fun xs hx he => hx.keep fun k hk => pother fun e => by
    obtain ⟨_, _, cur, hc⟩ := hx.typed hk
    rw [e, h7] at hc
    simp only [Option.some.injEq, Obj.cells.injEq] at hc
    exact he hc.2.1.symm
  have hge := h.ge
  have hlt := h.lt
  have hgl := h.gl
  have grow : ∀ k, k < w0.heap.size → W'.heap[k]? = W.heap[k]? := fun k hk => by
    refine hg.block k (by omega) fun e => ?_
    have := (h.own.ep.typed e.symm).1
    omega
  refine ⟨(pother (by omega)).trans ((away _ _ _ h.r6 (by decide)).trans h.r6), (qcell h7).trans (by simp), ⟨(keep _ (h.own.rq.asideD h.own.ep (by decide) hg) (by decide)), (keep _ (h.own.im.asideD h.own.ep (by decide) hg) (by decide)), (keep _ (by exact (by rw [List.flatMap_append, List.length_append]; simpa using hr)) (by decide)), (keep _ (h.own.st.asideD h.own.ep (by decide) hg) (by decide)), (keep _ (h.own.ex.asideD h.own.ep (by decide) hg) (by decide))⟩, ?_, ?_, h.ge, h.lt, h.gl⟩
  · exact curW_kept h.cur fun k hk => (pother (by omega)).trans (grow k (by omega))
  · refine ⟨hg.os.trans h.gr.os, hg.tape.trans h.gr.tape, hg.output.trans h.gr.output, ?_, fun k hk hne => (pother (by omega)).trans ((grow k hk).trans (h.gr.block k hk hne))⟩
    rw [World.size_setCell]
    exact Nat.le_trans h.gr.size hg.size
theorem MM.far_st {S : Src} {g : Nat} {w0 W W' : World} {b6 b7 : Nat} {V : Sv} {m : Md} {q : Nat × Int} (h : MM S g w0 b6 b7 V m q W) (hg : W.grownBy W' V.st.blk) : W'.heap[b7]? = some (.cells #[.slice V.rq.a m.rq.length V.rq.cap, .slice V.im.a m.im.length V.im.cap, .slice V.ep.a m.ep.length V.ep.cap, .slice V.st.a m.st.length V.st.cap, .slice V.ex.a m.ex.length V.ex.cap] 37 (0, 0)) :=
  (hg.block b7 (Array.getElem?_eq_some_iff.1 h.r7).1 fun e => by
    obtain ⟨_, _, cur, hc⟩ := h.own.st.typed e.symm
    rw [h.r7] at hc
    simp only [Option.some.injEq, Obj.cells.injEq] at hc
    exact absurd hc.2.1 (by decide)).trans h.r7
theorem MM.app_st {S : Src} {g : Nat} {w0 W W' : World} {b6 b7 : Nat} {V : Sv} {m : Md} {q : Nat × Int} {r' : Rw} {x : Sm} (h : MM S g w0 b6 b7 V m q W) (hr : OwnR W' w0.heap.size 159 3 r' (m.st.length + 1) (m.st.flatMap smL ++ smL x)) (hg : W.grownBy W' V.st.blk) :
    MM S g w0 b6 b7 { V with st := r' } { m with st := m.st ++ [x] } q (W'.setCell ⟨b7, 3, none⟩ (.slice r'.a (m.st.length + 1) r'.cap)) := by
  have hz := h.gr.size
  have away : ∀ (k : Nat) (cs : Array Value) (t : TypeId), W.heap[k]? = some (.cells cs t (0, 0)) → t ≠ 159 → W'.heap[k]? = W.heap[k]? := fun k cs t hk ht => hg.block k (Array.getElem?_eq_some_iff.1 hk).1 fun e => by
    obtain ⟨_, _, cur, hc⟩ := h.own.st.typed e.symm
    rw [hk] at hc
    simp only [Option.some.injEq, Obj.cells.injEq] at hc
    exact ht hc.2.1
  have h7 := (away _ _ _ h.r7 (by decide)).trans h.r7
  have keep : ∀ {e : TypeId} {size n : Nat} {r : Rw} (xs : List Value), OwnR W' w0.heap.size e size r n xs → e ≠ 37 → OwnR (W'.setCell ⟨b7, 3, none⟩ (.slice r'.a (m.st.length + 1) r'.cap)) w0.heap.size e size r n xs := fun xs hx he => hx.keep fun k hk => pother fun e => by
    obtain ⟨_, _, cur, hc⟩ := hx.typed hk
    rw [e, h7] at hc
    simp only [Option.some.injEq, Obj.cells.injEq] at hc
    exact he hc.2.1.symm
  have hge := h.ge
  have hlt := h.lt
  have hgl := h.gl
  have grow : ∀ k, k < w0.heap.size → W'.heap[k]? = W.heap[k]? := fun k hk => by
    refine hg.block k (by omega) fun e => ?_
    have := (h.own.st.typed e.symm).1
    omega
  refine ⟨(pother (by omega)).trans ((away _ _ _ h.r6 (by decide)).trans h.r6), (qcell h7).trans (by simp), ⟨(keep _ (h.own.rq.asideD h.own.st (by decide) hg) (by decide)), (keep _ (h.own.im.asideD h.own.st (by decide) hg) (by decide)), (keep _ (h.own.ep.asideD h.own.st (by decide) hg) (by decide)), (keep _ (by exact (by rw [List.flatMap_append, List.length_append]; simpa using hr)) (by decide)), (keep _ (h.own.ex.asideD h.own.st (by decide) hg) (by decide))⟩, ?_, ?_, h.ge, h.lt, h.gl⟩
  · exact curW_kept h.cur fun k hk => (pother (by omega)).trans (grow k (by omega))
  · refine ⟨hg.os.trans h.gr.os, hg.tape.trans h.gr.tape, hg.output.trans h.gr.output, ?_, fun k hk hne => (pother (by omega)).trans ((grow k hk).trans (h.gr.block k hk hne))⟩
    rw [World.size_setCell]
    exact Nat.le_trans h.gr.size hg.size
theorem MM.far_ex {S : Src} {g : Nat} {w0 W W' : World} {b6 b7 : Nat} {V : Sv} {m : Md} {q : Nat × Int} (h : MM S g w0 b6 b7 V m q W) (hg : W.grownBy W' V.ex.blk) : W'.heap[b7]? = some (.cells #[.slice V.rq.a m.rq.length V.rq.cap, .slice V.im.a m.im.length V.im.cap, .slice V.ep.a m.ep.length V.ep.cap, .slice V.st.a m.st.length V.st.cap, .slice V.ex.a m.ex.length V.ex.cap] 37 (0, 0)) :=
  (hg.block b7 (Array.getElem?_eq_some_iff.1 h.r7).1 fun e => by
    obtain ⟨_, _, cur, hc⟩ := h.own.ex.typed e.symm
    rw [h.r7] at hc
    simp only [Option.some.injEq, Obj.cells.injEq] at hc
    exact absurd hc.2.1 (by decide)).trans h.r7
theorem MM.app_ex {S : Src} {g : Nat} {w0 W W' : World} {b6 b7 : Nat} {V : Sv} {m : Md} {q : Nat × Int} {r' : Rw} {x : Ex} (h : MM S g w0 b6 b7 V m q W) (hr : OwnR W' w0.heap.size 96 6 r' (m.ex.length + 1) (m.ex.flatMap exL ++ exL x)) (hg : W.grownBy W' V.ex.blk) :
    MM S g w0 b6 b7 { V with ex := r' } { m with ex := m.ex ++ [x] } q (W'.setCell ⟨b7, 4, none⟩ (.slice r'.a (m.ex.length + 1) r'.cap)) := by
  have hz := h.gr.size
  have away : ∀ (k : Nat) (cs : Array Value) (t : TypeId), W.heap[k]? = some (.cells cs t (0, 0)) → t ≠ 96 → W'.heap[k]? = W.heap[k]? := fun k cs t hk ht => hg.block k (Array.getElem?_eq_some_iff.1 hk).1 fun e => by
    obtain ⟨_, _, cur, hc⟩ := h.own.ex.typed e.symm
    rw [hk] at hc
    simp only [Option.some.injEq, Obj.cells.injEq] at hc
    exact ht hc.2.1
  have h7 := (away _ _ _ h.r7 (by decide)).trans h.r7
  have keep : ∀ {e : TypeId} {size n : Nat} {r : Rw} (xs : List Value), OwnR W' w0.heap.size e size r n xs → e ≠ 37 → OwnR (W'.setCell ⟨b7, 4, none⟩ (.slice r'.a (m.ex.length + 1) r'.cap)) w0.heap.size e size r n xs := fun xs hx he => hx.keep fun k hk => pother fun e => by
    obtain ⟨_, _, cur, hc⟩ := hx.typed hk
    rw [e, h7] at hc
    simp only [Option.some.injEq, Obj.cells.injEq] at hc
    exact he hc.2.1.symm
  have hge := h.ge
  have hlt := h.lt
  have hgl := h.gl
  have grow : ∀ k, k < w0.heap.size → W'.heap[k]? = W.heap[k]? := fun k hk => by
    refine hg.block k (by omega) fun e => ?_
    have := (h.own.ex.typed e.symm).1
    omega
  refine ⟨(pother (by omega)).trans ((away _ _ _ h.r6 (by decide)).trans h.r6), (qcell h7).trans (by simp), ⟨(keep _ (h.own.rq.asideD h.own.ex (by decide) hg) (by decide)), (keep _ (h.own.im.asideD h.own.ex (by decide) hg) (by decide)), (keep _ (h.own.ep.asideD h.own.ex (by decide) hg) (by decide)), (keep _ (h.own.st.asideD h.own.ex (by decide) hg) (by decide)), (keep _ (by exact (by rw [List.flatMap_append, List.length_append]; simpa using hr)) (by decide))⟩, ?_, ?_, h.ge, h.lt, h.gl⟩
  · exact curW_kept h.cur fun k hk => (pother (by omega)).trans (grow k (by omega))
  · refine ⟨hg.os.trans h.gr.os, hg.tape.trans h.gr.tape, hg.output.trans h.gr.output, ?_, fun k hk hne => (pother (by omega)).trans ((grow k hk).trans (h.gr.block k hk hne))⟩
    rw [World.size_setCell]
    exact Nat.le_trans h.gr.size hg.size
theorem fair_more {l : List Sm} {x : Sm} (h : FairS l) (hx : x.name.toList ≠ dN) : FairS (l ++ [x]) := fun s hs => by
  rcases List.mem_append.1 hs with hs | hs
  · exact h s hs
  · rw [List.mem_singleton] at hs
    rw [hs]
    exact fun k => absurd k hx
theorem set_more {α : Type} {P : α → Prop} {l : List α} {k : Nat} {y : α} (h : ∀ x ∈ l, P x) (hy : P y) : ∀ x ∈ l.set k y, P x := fun x hx => by
  rcases List.mem_or_eq_of_mem_set hx with hx | hx
  · exact h x hx
  · rw [hx]
    exact hy
theorem q_not : (({ data := #[113] } : ByteArray)).toList ≠ dN := fun h => by
  rw [Lib.toList_data] at h
  cases h
theorem ex_set (v : Int) (l : List Ex) : ∀ (k : Nat) (x : Ex), l[k]? = some x → (l.flatMap exL).set (k * 6 + 1) (.int .i64 v) = (l.set k { x with num := v }).flatMap exL := by
  induction l with
  | nil => intro k x h; cases h
  | cons y l ih =>
    intro k x h
    cases k with
    | zero =>
      cases h
      rfl
    | succ k =>
      rw [List.set_cons_succ, List.flatMap_cons, List.flatMap_cons, ← ih k x h, List.set_append_right _ _ (by show 6 ≤ _; omega)]
      congr 2
      show (k + 1) * 6 + 1 - 6 = _
      omega
theorem MM.num {S : Src} {g : Nat} {w0 W : World} {b6 b7 ge : Nat} {V : Sv} {m : Md} {q : Nat × Int} {k : Nat} {x : Ex} (h : MM S g w0 b6 b7 V m q W) (hk : m.ex[k]? = some x) (ha : V.ex.a = some ⟨ge, 0, none⟩) (v : Int) :
    MM S g w0 b6 b7 V { m with ex := m.ex.set k { x with num := v } } q (W.setCell ⟨ge, k * 6 + 1, none⟩ (.int .i64 v)) := by
  have hb : V.ex.blk = some ge := by unfold Rw.blk; rw [ha]; rfl
  obtain ⟨hbase, hlt, cur, hcur⟩ := h.own.ex.typed hb
  have hge := h.ge
  have hgl := h.gl
  have ne : ∀ (j : Nat) (cs : Array Value) (t : TypeId), W.heap[j]? = some (.cells cs t (0, 0)) → t ≠ 96 → j ≠ ge := fun j cs t hj ht e => by
    rw [e, hcur] at hj
    simp only [Option.some.injEq, Obj.cells.injEq] at hj
    exact ht hj.2.1.symm
  have keep : ∀ {e : TypeId} {size n : Nat} {r : Rw} {xs : List Value}, OwnR W w0.heap.size e size r n xs → e ≠ 96 → OwnR (W.setCell ⟨ge, k * 6 + 1, none⟩ (.int .i64 v)) w0.heap.size e size r n xs := fun hx he => hx.keep fun j hj => pother (by
    obtain ⟨_, _, c, hc⟩ := hx.typed hj
    exact ne j _ _ hc he)
  have hrow : OwnR (W.setCell ⟨ge, k * 6 + 1, none⟩ (.int .i64 v)) w0.heap.size 96 6 V.ex m.ex.length ((m.ex.set k { x with num := v }).flatMap exL) := by
    have h1 := h.own.ex
    unfold OwnR at h1 ⊢
    rw [ha] at h1 ⊢
    rw [← ex_set v m.ex k x hk]
    exact (h1.stored (k * 6 + 1) (.int .i64 v)).1
  refine ⟨(pother (ne _ _ _ h.r6 (by decide))).trans h.r6, ?_, ⟨keep h.own.rq (by decide), keep h.own.im (by decide), keep h.own.ep (by decide), keep h.own.st (by decide), ?_⟩, ?_, ?_, h.ge, h.lt, h.gl⟩
  · rw [pother (ne _ _ _ h.r7 (by decide)), h.r7]
    simp
  · show OwnR _ _ _ _ _ (m.ex.set k _).length _
    rw [List.length_set]
    exact hrow
  · exact curW_kept h.cur fun j hj => pother (by omega)
  · have bl : Below 0 W (W.setCell ⟨ge, k * 6 + 1, none⟩ (.int .i64 v)) := (Below.refl 0 W).setCell (Nat.zero_le _) _
    refine ⟨bl.os.trans h.gr.os, bl.tape.trans h.gr.tape, bl.output.trans h.gr.output, ?_, fun j hj hne => (pother (by omega)).trans (h.gr.block j hj hne)⟩
    rw [World.size_setCell]
    exact h.gr.size
theorem MM.spot {S : Src} {g : Nat} {w0 W : World} {b6 b7 ge : Nat} {V : Sv} {m : Md} {q : Nat × Int} {k : Nat} (h : MM S g w0 b6 b7 V m q W) (hk : k < m.ex.length) (ha : V.ex.a = some ⟨ge, 0, none⟩) : W.cell? ⟨ge, k * 6 + 1, none⟩ = some (.int .i64 (m.ex.getD k exNo).num) ∧ W.frozen? ⟨ge, k * 6 + 1, none⟩ = false := by
  obtain ⟨g', hg, _, _, x1, _⟩ := h.own.expr hk
  rw [ha] at hg
  cases hg
  refine ⟨x1, ?_⟩
  have h1 := h.own.ex
  unfold OwnR at h1
  rw [ha] at h1
  exact h1.frozenAt _
end Go.Proofs.Ytdbpknmoacjodaa
namespace Go.Proofs.Ytdbpknmoacjodaa
open Go.RowKit Go.PlainAid

theorem pick_drew (S : Src) (hS : S.ok) (g : Nat) (q : Nat × Int) (N : Nat) (l : List ByteArray) (w : World) (hc : CurW 201 S w g q) (h1 : 1 ≤ l.length) (h2 : l.length ≤ 1000) (hl : ∀ x ∈ l, x.size ≤ N) :
    Calls Try.prog 151 #[.pointer (some ⟨g, 0, none⟩), .slice (some ⟨w.heap.size, 0, none⟩) l.length l.length] (w.alloc (.cells (l.map Value.string).toArray 9)).drew (StrOut S g N w) := by
  have hg := curW_lt hc
  have hlt : w.heap.size < (w.alloc (.cells (l.map Value.string).toArray 9)).heap.size := by rw [alloc_size]; omega
  refine (l1Pick_le S hS g q w.heap.size l.length N (w.alloc (.cells (l.map Value.string).toArray 9)).drew (curW_kept (cur_alloc hc _) fun _ _ => rfl) h1 h2 hlt (by omega) ?_).mono ?_
  · intro j hj
    show ∃ x, (w.alloc _).cell? _ = _ ∧ _
    rw [World.cell?_alloc_new]
    refine ⟨l[j], ?_, hl _ (List.getElem_mem hj)⟩
    simp [List.getElem?_eq_getElem hj]
  · rintro e w' ⟨x, q', rfl, hx, hcx, hgx⟩
    exact ⟨x, q', rfl, hx, hcx, grown_trans (grown_alloc w (.cells (l.map Value.string).toArray 9) _) ⟨hgx.os, hgx.tape, hgx.output, hgx.size, hgx.block⟩⟩
theorem pick_old (S : Src) (hS : S.ok) (g b : Nat) (q : Nat × Int) (N : Nat) (l : List ByteArray) (w : World) (hc : CurW 201 S w g q) (hb : w.heap[b]? = some (.cells (l.map Value.string).toArray 9 (0, 0))) (hbg : b ≠ g) (h1 : 1 ≤ l.length) (h2 : l.length ≤ 1000) (hl : ∀ x ∈ l, x.size ≤ N) :
    Calls Try.prog 151 #[.pointer (some ⟨g, 0, none⟩), .slice (some ⟨b, 0, none⟩) l.length l.length] w (StrOut S g N w) := by
  refine (l1Pick_le S hS g q b l.length N w hc h1 h2 (Array.getElem?_eq_some_iff.1 hb).1 hbg ?_).mono ?_
  · intro j hj
    refine ⟨l[j], ?_, hl _ (List.getElem_mem hj)⟩
    simp [World.cell?, hb, List.getElem?_eq_getElem hj]
  · rintro e w' ⟨x, q', rfl, hx, hcx, hgx⟩
    exact ⟨x, q', rfl, hx, hcx, hgx⟩
end Go.Proofs.Ytdbpknmoacjodaa
namespace Go.Proofs.Ytdbpknmoacjodaa
open Go.RowKit Go.PlainAid

theorem Try.infoString : (Try.prog.info? 9).map (fun i => (i.zero, i.size, i.bytes)) = some (some (.string { data := #[] }), 1, 16) := by kernel_rfl
theorem OwnR.addr {w : World} {base size n : Nat} {e : TypeId} {r : Rw} {xs : List Value} (h : OwnR w base e size r n xs) : n = 0 ∨ ∃ g, r.a = some ⟨g, 0, none⟩ := by
  rcases h.2 with ⟨_, hn⟩ | ⟨g, cap, cur, hv, _⟩
  · exact .inl hn
  · simp only [Value.slice.injEq] at hv
    exact .inr ⟨g, hv.1⟩
theorem OwnR.str {w : World} {base : Nat} {e : TypeId} {r : Rw} {l : List ByteArray} {g : Nat} (h : OwnR w base e 1 r l.length (l.map .string)) (hg : r.a = some ⟨g, 0, none⟩) {j : Nat} (hj : j < l.length) : w.cell? ⟨g, j, none⟩ = some (.string (l.getD j sNone)) := by
  unfold OwnR at h
  rw [hg] at h
  rw [h.cellAt j (by omega)]
  simp [List.getD, hj]
theorem OwnR.lt {w : World} {base size n : Nat} {e : TypeId} {r : Rw} {xs : List Value} {g : Nat} (h : OwnR w base e size r n xs) (hg : r.a = some ⟨g, 0, none⟩) : g < w.heap.size := (h.typed (k := g) (by simp [Rw.blk, hg, Value.ownBlock])).2.1
theorem hasS_yes {l : List ByteArray} {x : ByteArray} {j : Nat} (hj : j < l.length) (h : ((l.getD j sNone).toList == x.toList) = true) : hasS l x = true := by
  rw [hasS, List.any_eq_true]
  exact ⟨l[j], List.getElem_mem hj, by simpa [List.getD, hj] using h⟩
theorem hasS_no {l : List ByteArray} {x : ByteArray} (h : ∀ j, j < l.length → ((l.getD j sNone).toList == x.toList) = false) : hasS l x = false := by
  rw [Bool.eq_false_iff, hasS]
  intro k
  rw [List.any_eq_true] at k
  obtain ⟨y, hy, hk⟩ := k
  obtain ⟨j, hj, rfl⟩ := List.getElem_of_mem hy
  have := h j hj
  simp only [List.getD, List.getElem?_eq_getElem hj, Option.getD_some] at this
  rw [this] at hk
  cases hk
theorem spec_fail {C : Cx} {x : PR} {q : PS} {z : Int} (hx : Is x q z) (hi : (decide (z < 0) && ((tokAt C q.pos).kind == 3)) = false) : Is2 (bd x (specP C)) q (badOf C q.pos z) sNone := by
  unfold badOf
  by_cases hz : z < 0
  · obtain ⟨h1, h2⟩ := is_neg hx hz
    simp only [hz, decide_true, Bool.true_and] at hi
    rw [h1, bd_ok, specP, hi, if_pos hz]
    rfl
  · obtain ⟨e, h1, h2⟩ := is_bad hx hz
    rw [h1, bd_error, if_neg hz]
    exact h2

set_option maxRecDepth 100000 in
set_option maxHeartbeats 3200000 in
theorem l4Spec_no (C : Cx) (gt cap base : Nat) (x : PR) (S : Sv) (q : PS) (z : Int) (d : Nat) (w : World) (hx : Is x q z) (hm : Mem C gt cap base S q w) (hi : (decide (z < 0) && ((tokAt C q.pos).kind == 3)) = false) :
    Calls Try.prog 197 #[pv C gt cap S q z d] w (Out2 C gt cap base (bd x (specP C)) d S w) := by
  have HM := hidI hm
  have htok := hm.tok
  have hfew := hm.few
  have HY : Hid (Is2 (bd x (specP C)) q (badOf C q.pos z) sNone) := spec_fail hx hi
  clear hx hm
  by_cases hz : z < 0
  · have dz2 : decide (0 ≤ z) = false := decide_eq_false (by omega)
    simp only [hz, decide_true, Bool.true_and] at hi
    by_cases hp : q.pos < C.ts.length
    · obtain ⟨c0, _, _, _⟩ := htok.cells hp (d := ⟨0, sNone, 0, C.fin⟩)
      have hglt := (ownT_lt htok).1
      change _ = some (Value.int .i64 (tokAt C q.pos).kind) at c0
      generalize htk : tokAt C q.pos = t at c0 hi
      have e1' : (t.kind != 3) = true := by rw [bne, hi]; rfl
      clear htk
      unfold pv
      go_enter Try.func197, Try.ntmps197
      go_wp2_with fail
      refine (fail_spec C gt cap base S q z d _ (ownT_alloc (ownT_alloc htok _) _) hfew).mono ?_
      rintro e w2 ⟨rfl, hb2⟩
      have G3 : Hid (_ = _) := (two_new hb2).2
      obtain ⟨c0, c1, c2, c3, c4, c5, c6, c7, c8, c9, c10, c11, cf⟩ := box_of G3.out
      unfold pv
      go_wp2
      refine bodyPost_ret (results_cell_row_tmp rfl _ _ (w.heap.size + 1) 164 _ (0, 0) _ rfl (put12 G3.out) Try.underlying164 rfl (by kernel_rfl)) rfl ?_
      exact out2_below rfl HY.out HM.out (below12 (two_below hb2) (Nat.le_succ _) _ _ _ _ _ _ _ _ _ _ _ _)
    · unfold pv
      go_enter Try.func197, Try.ntmps197
      go_wp2_with fail
      refine (fail_spec C gt cap base S q z d _ (ownT_alloc (ownT_alloc htok _) _) hfew).mono ?_
      rintro e w2 ⟨rfl, hb2⟩
      have G3 : Hid (_ = _) := (two_new hb2).2
      obtain ⟨c0, c1, c2, c3, c4, c5, c6, c7, c8, c9, c10, c11, cf⟩ := box_of G3.out
      unfold pv
      go_wp2
      refine bodyPost_ret (results_cell_row_tmp rfl _ _ (w.heap.size + 1) 164 _ (0, 0) _ rfl (put12 G3.out) Try.underlying164 rfl (by kernel_rfl)) rfl ?_
      exact out2_below rfl HY.out HM.out (below12 (two_below hb2) (Nat.le_succ _) _ _ _ _ _ _ _ _ _ _ _ _)
  · have dz2 : decide (0 ≤ z) = true := decide_eq_true (by omega)
    unfold pv
    go_enter Try.func197, Try.ntmps197
    go_wp2_with fail
    refine (fail_spec C gt cap base S q z d _ (ownT_alloc (ownT_alloc htok _) _) hfew).mono ?_
    rintro e w2 ⟨rfl, hb2⟩
    have G3 : Hid (_ = _) := (two_new hb2).2
    obtain ⟨c0, c1, c2, c3, c4, c5, c6, c7, c8, c9, c10, c11, cf⟩ := box_of G3.out
    unfold pv
    go_wp2
    refine bodyPost_ret (results_cell_row_tmp rfl _ _ (w.heap.size + 1) 164 _ (0, 0) _ rfl (put12 G3.out) Try.underlying164 rfl (by kernel_rfl)) rfl ?_
    exact out2_below rfl HY.out HM.out (below12 (two_below hb2) (Nat.le_succ _) _ _ _ _ _ _ _ _ _ _ _ _)

def txt (C : Cx) (q : PS) : ByteArray := (tokAt C q.pos).text
theorem spec_found {C : Cx} {q : PS} (h3 : ((tokAt C q.pos).kind == 3) = true) (hh : hasS q.rq (txt C q) = true) : specP C q = .ok (adv q, txt C q) := by
  unfold txt at hh
  rw [specP, if_pos h3, if_pos hh]; rfl
theorem spec_full {C : Cx} {q : PS} (h3 : ((tokAt C q.pos).kind == 3) = true) (hh : hasS q.rq (txt C q) = false) (hn : 40 ≤ q.rq.length) : specP C q = .error (here C q.pos) := by
  unfold txt at hh
  rw [specP, if_pos h3, hh, if_pos hn]; rfl
theorem spec_new {C : Cx} {q : PS} (h3 : ((tokAt C q.pos).kind == 3) = true) (hh : hasS q.rq (txt C q) = false) (hn : ¬ 40 ≤ q.rq.length) : specP C q = .ok ({ adv q with rq := q.rq ++ [txt C q] }, txt C q) := by
  unfold txt at hh
  rw [specP, if_pos h3, hh, if_neg hn]; rfl
set_option maxRecDepth 100000 in
set_option maxHeartbeats 3200000 in
theorem l4Spec_yes (C : Cx) (gt cap base : Nat) (S : Sv) (q : PS) (d : Nat) (w : World) (hm : Mem C gt cap base S q w) (h3 : ((tokAt C q.pos).kind == 3) = true) (g : Nat) (hga : q.rq.length = 0 ∨ S.rq.a = some ⟨g, 0, none⟩) :
    Calls Try.prog 197 #[pv C gt cap S q (-1) d] w (Out2 C gt cap base (specP C q) d S w) := by
  obtain ⟨i0, hi, hz0, hz1, hz2⟩ := info_parts Try.infoString
  have HM := hidI hm
  have H3 := hidI h3
  have hp : q.pos < C.ts.length := kind_lt h3 (by decide)
  have hfew := hm.few
  have hrq := hm.inv.rq
  have hglt := (ownT_lt hm.tok).1
  obtain ⟨c0, c1, _, _⟩ := hm.tok.cells hp (d := ⟨0, sNone, 0, C.fin⟩)
  change _ = some (Value.int .i64 (tokAt C q.pos).kind) at c0
  change _ = some (Value.string (txt C q)) at c1
  generalize (tokAt C q.pos).kind = kd at c0 h3
  have e1' : (kd != 3) = false := by rw [bne, h3]; rfl
  have HGA := hidI hga
  obtain ⟨R, hR⟩ : ∃ R : Nat → ByteArray, ∀ j, R j = q.rq.getD j sNone := ⟨fun j => q.rq.getD j sNone, fun _ => rfl⟩
  have HR := hidI hR
  have HC : Hid (∀ j, j < q.rq.length → w.cell? ⟨g, j, none⟩ = some (.string (R j))) := fun j hj => by
    rcases hga with e | e
    · omega
    · rw [hR]; exact HM.out.own.rq.str e hj
  clear hR
  generalize htx : txt C q = tx at c1
  have HTX := hidI htx
  have hown := fun o1 o2 o3 => ((HM.out.own.rq.alloc o1).alloc o2).alloc o3
  clear htx hm hga
  unfold pv
  go_enter Try.func197, Try.ntmps197
  go_wp2
  go_loop [5] (fun i => ∃ k : Nat, k ≤ q.rq.length ∧ i = .int .i64 k ∧ ∀ j, j < k → ¬ (R j).toList = tx.toList) (fun i => (q.rq.length - intOf i).toNat)
  case atStart => exact ⟨0, Nat.zero_le _, rfl, fun j hj => absurd hj (Nat.not_lt_zero j)⟩
  case round =>
    obtain ⟨k, hk, rfl, hno⟩ := hrel
    have HNO := hidI hno
    clear hno
    by_cases hlt : k < q.rq.length
    · have ha : S.rq.a = some ⟨g, 0, none⟩ := HGA.out.elim (fun e => by omega) id
      have hck := HC.out k hlt
      have hg1 := HM.out.own.rq.lt ha
      cases he : ((R k).toList == tx.toList) with
      | true =>
        have HS : Hid (specP C q = .ok (adv q, tx)) := by
          show specP C q = .ok (adv q, tx)
          rw [← HTX.out]
          exact spec_found H3.out (hasS_yes hlt (by rw [← HR.out, HTX.out]; exact he))
        have HA := hidI ha
        go_wp2
        refine bodyPost_ret (results_cell_row_tmp rfl _ _ (w.heap.size + 1) 164 _ (0, 0) _ rfl (new2 w _ _) Try.underlying164 rfl (by kernel_rfl)) rfl ?_
        rw [HS.out]
        exact out2_below (q' := adv q) (z' := -1) (by rw [pv, HA.out]; rfl) ⟨rfl, rfl, rfl⟩ (HM.out.adv hp) (below2 w _ _)
      | false =>
        have HX : Hid (∀ j, j < k + 1 → ¬ (R j).toList = tx.toList) := fun j hj => by
          by_cases e : j = k
          · rw [e]; exact beq_eq_false_iff_ne.1 he
          · exact HNO.out j (by omega)
        go_wp2
        go_round
        case rel => exact ⟨k + 1, by omega, by go_num, HX.out⟩
        case measure => simp [intOf]; omega
    · have HN : Hid (hasS q.rq (txt C q) = false) := hasS_no fun j hj => by rw [HTX.out, ← HR.out]; exact beq_eq_false_iff_ne.2 (HNO.out j (by omega))
      by_cases hn : 40 ≤ q.rq.length
      · have qn : decide ((40 : Int) ≤ (q.rq.length : Int)) = true := decide_eq_true (by omega)
        have HS : Hid (specP C q = .error (here C q.pos)) := spec_full H3.out HN.out hn
        go_wp2_with fail
        refine (l4Full_spec C gt cap base S (adv q) (-1) d _ (((HM.out.adv hp).alloc _).alloc _) (by decide) (by simp [adv])).mono ?_
        rintro e w2 ⟨rfl, hb2⟩
        have G3 : Hid (_ = _) := (two_new hb2).2
        obtain ⟨b0, b1, b2, b3, b4, b5, b6, b7, b8, b9, b10, b11, bf⟩ := box_of G3.out
        have HB : Hid (Below w.heap.size w w2) := two_below hb2
        clear hb2
        unfold pv
        go_wp2
        refine bodyPost_ret (results_cell_row_tmp rfl _ _ (w.heap.size + 1) 164 _ (0, 0) _ rfl (put12 G3.out) Try.underlying164 rfl (by kernel_rfl)) rfl ?_
        rw [HS.out]
        exact out2_below (q' := adv q) (z' := (here C q.pos : Int)) rfl rfl (HM.out.adv hp) (below12 HB.out (Nat.le_succ _) _ _ _ _ _ _ _ _ _ _ _ _)
      · have qn : decide ((40 : Int) ≤ (q.rq.length : Int)) = false := decide_eq_false (by omega)
        have HS : Hid (specP C q = .ok ({ adv q with rq := q.rq ++ [tx] }, tx)) := by
          show specP C q = .ok ({ adv q with rq := q.rq ++ [tx] }, tx)
          rw [← HTX.out]
          exact spec_new H3.out HN.out hn
        go_wp2_with (at_builtin; refine app_row _ rfl _ _ 22 rfl base 9 i0 _ 1 16 Try.underlying22 hi hz0 hz1 hz2 rfl (by decide) (by decide) S.rq q.rq.length _ (by rfl) (hown _ _ _) (w.heap.size + 1 + 1) [.string tx] (by rfl) (by exact (new3 w _ _ _).2.2) rfl (by intro u hu; simp at hu; subst hu; rfl) (by omega) (by have := HM.out.base; rw [size3]; omega) ?_)
        intro r' w2 hr hg hat
        have HRR := hidI hr
        have HG := hidI hg
        have HAT := hidI hat
        have hne := fun b hb => wpos (W := w) HM.out.own (Nat.le_refl _) (r := S.rq.blk) (fun k e => .inl e) b hb
        have g1 := (hg.block w.heap.size (by rw [size3]; omega) (hne _ (Nat.le_refl _))).trans (new3 w _ _ _).1
        have g2 := (hg.block (w.heap.size + 1) (by rw [size3]; omega) (hne _ (by omega))).trans (new3 w _ _ _).2.1
        obtain ⟨a0, a1, a2, a3, a4, a5, a6, a7, a8, a9, a10, a11, af⟩ := box_of g1
        obtain ⟨b0, b1, b2, b3, b4, b5, b6, b7, b8, b9, b10, b11, bf⟩ := box_of g2
        have G2 := hidI g2
        clear g1 g2 hg hr hat hne hown
        go_wp2
        refine bodyPost_ret (results_cell_row_tmp rfl _ _ (w.heap.size + 1) 164 _ (0, 0) _ rfl (put12 ((pother (by omega)).trans G2.out)) Try.underlying164 rfl (by kernel_rfl)) rfl ?_
        obtain ⟨m', s'⟩ := (HM.out.adv hp).grow_rq (x := tx) (below3 w _ _ _) HG.out HRR.out (by rw [size3]; exact HAT.out) (((Off.refl _ _ _).set (b := w.heap.size) (Nat.le_refl _) (by rw [size3]; omega) _ _).set12 (b := w.heap.size + 1) (by omega) (by rw [size3]; omega) _ _ _ _ _ _ _ _ _ _ _ _) (by show q.rq.length < 40; omega)
        rw [HS.out]
        exact ⟨_, { adv q with rq := q.rq ++ [tx] }, -1, tx, by simp [pv, adv], ⟨rfl, rfl, rfl⟩, m', s'⟩
theorem l4Spec_spec (C : Cx) (gt cap base : Nat) (x : PR) (S : Sv) (q : PS) (z : Int) (d : Nat) (w : World) (hx : Is x q z) (hm : Mem C gt cap base S q w) :
    Calls Try.prog 197 #[pv C gt cap S q z d] w (Out2 C gt cap base (bd x (specP C)) d S w) := by
  cases hi : (decide (z < 0) && ((tokAt C q.pos).kind == 3)) with
  | false => exact l4Spec_no C gt cap base x S q z d w hx hm hi
  | true =>
    rw [Bool.and_eq_true, decide_eq_true_eq] at hi
    obtain ⟨rfl, rfl⟩ := is_neg hx hi.1
    rw [bd_ok]
    rcases hm.own.rq.addr with e | ⟨g, e⟩
    · exact l4Spec_yes C gt cap base S q d w hm hi.2 0 (.inl e)
    · exact l4Spec_yes C gt cap base S q d w hm hi.2 g (.inr e)
end Go.Proofs.Ytdbpknmoacjodaa
