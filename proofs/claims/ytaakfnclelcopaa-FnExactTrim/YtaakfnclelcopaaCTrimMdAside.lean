/-
  A program in memory beside a block that is written. No program is spoken of but for the numbers of its types.
-/
import Derived.Test.YtaakfnclelcopaaCTrimImplParseJToMdMem
import Derived.Laws.OwnMore
namespace Go.Proofs.Ytaakfnclelcopaa
open Go.RowKit Go.PlainAid Go.Sort

theorem OwnMd.low {w : World} {b b' : Nat} {S : Sv} {m : Md} (h : OwnMd w b S m) (hb : b' ≤ b) : OwnMd w b' S m := ⟨h.rq.low hb, h.im.low hb, h.ep.low hb, h.st.low hb, h.ex.low hb⟩
theorem OwnR.aside {w : World} {base size n c i : Nat} {e t : TypeId} {r : Rw} {xs : List Value} {u : Value} {cs : Array Value} (h : OwnR w base e size r n xs) (hc : w.heap[c]? = some (.cells cs t (0, 0))) (he : e ≠ t) : OwnR (w.setCell ⟨c, i, none⟩ u) base e size r n xs :=
  h.keep fun k g => heap_setCell_other w ⟨c, i, none⟩ k u fun eq => by
    obtain ⟨_, _, cur, hk⟩ := h.typed g
    simp only at eq
    rw [eq, hc] at hk
    simp only [Option.some.injEq, Obj.cells.injEq] at hk
    exact he hk.2.1.symm
theorem OwnMd.aside {w : World} {b c i : Nat} {S : Sv} {m : Md} {t : TypeId} {u : Value} {cs : Array Value} (h : OwnMd w b S m) (hc : w.heap[c]? = some (.cells cs t (0, 0))) (he : t ≠ 9 ∧ t ≠ 78 ∧ t ≠ 55 ∧ t ≠ 53 ∧ t ≠ 50) : OwnMd (w.setCell ⟨c, i, none⟩ u) b S m :=
  ⟨h.rq.aside hc he.1.symm, h.im.aside hc he.2.1.symm, h.ep.aside hc he.2.2.1.symm, h.st.aside hc he.2.2.2.1.symm, h.ex.aside hc he.2.2.2.2.symm⟩
theorem five_aside {w : World} {b g o : Nat} {S : Sv} {m : Md} {x0 x1 x2 x3 x4 : Value} (h : OwnMd w b S m) (hc : ∃ cur, w.heap[g]? = some (.cells cur 36 (0, 0))) :
    OwnMd (((((w.setCell ⟨g, o, none⟩ x0).setCell ⟨g, o + 1, none⟩ x1).setCell ⟨g, o + 2, none⟩ x2).setCell ⟨g, o + 3, none⟩ x3).setCell ⟨g, o + 4, none⟩ x4) b S m := by
  obtain ⟨cur, h0⟩ := hc
  have h1 := qcell (i := o) (u := x0) h0
  have h2 := qcell (i := o + 1) (u := x1) h1
  have h3 := qcell (i := o + 2) (u := x2) h2
  have h4 := qcell (i := o + 3) (u := x3) h3
  have he : (36 : TypeId) ≠ 9 ∧ (36 : TypeId) ≠ 78 ∧ (36 : TypeId) ≠ 55 ∧ (36 : TypeId) ≠ 53 ∧ (36 : TypeId) ≠ 50 := by decide
  exact ((((h.aside h0 he).aside h1 he).aside h2 he).aside h3 he).aside h4 he
theorem flat_setC {α : Type} {f : α → List Value} {m : Nat} (hf : ∀ x, (f x).length = m) (l : List α) : ∀ (k c : Nat) (x y : α) (v : Value), l[k]? = some x → c < m → f y = (f x).set c v → (l.flatMap f).set (k * m + c) v = (l.set k y).flatMap f := by
  induction l with
  | nil => intro k c x y v h; cases h
  | cons z l ih =>
    intro k c x y v h hc hy
    cases k with
    | zero =>
      cases h
      rw [List.set_cons_zero, List.flatMap_cons, List.flatMap_cons, Nat.zero_mul, Nat.zero_add, List.set_append_left _ _ (by rw [hf]; exact hc), hy]
    | succ k =>
      rw [List.set_cons_succ, List.flatMap_cons, List.flatMap_cons, List.set_append_right _ _ (by rw [hf, Nat.succ_mul]; omega), hf, show (k + 1) * m + c - m = k * m + c by rw [Nat.succ_mul]; omega, ih k c x y v h hc hy]
theorem OwnR.addrA {w : World} {base size n : Nat} {e : TypeId} {r : Rw} {xs : List Value} (h : OwnR w base e size r n xs) (hn : 0 < n) : ∃ g, r.a = some ⟨g, 0, none⟩ := by
  rcases h.nil_or with ⟨_, _, h0⟩ | h
  · omega
  · exact h
theorem OwnR.put {w : World} {base size n g : Nat} {e : TypeId} {r : Rw} {xs : List Value} (h : OwnR w base e size r n xs) (hg : r.a = some ⟨g, 0, none⟩) (j : Nat) (u : Value) : OwnR (w.setCell ⟨g, j, none⟩ u) base e size r n (xs.set j u) := by
  obtain ⟨a, cap⟩ := r
  simp only at hg
  subst hg
  exact (World.ownsRow.stored h j u).1
theorem OwnR.blkOf {r : Rw} {g : Nat} (hg : r.a = some ⟨g, 0, none⟩) : r.blk = some g := by rw [Rw.blk, hg]; rfl
theorem OwnR.free {w : World} {base size n g : Nat} {e : TypeId} {r : Rw} {xs : List Value} (h : OwnR w base e size r n xs) (hg : r.a = some ⟨g, 0, none⟩) (j : Nat) : w.frozen? ⟨g, j, none⟩ = false := by
  obtain ⟨_, _, cur, hk⟩ := h.typed (OwnR.blkOf hg)
  simp [World.frozen?, hk]
theorem OwnMd.put_im {w : World} {base i g : Nat} {S : Sv} {m : Md} {x : Im} (h : OwnMd w base S m) (hx : m.im[i]? = some x) (hg : S.im.a = some ⟨g, 0, none⟩) (s : ByteArray) : OwnMd (w.setCell ⟨g, i * 3, none⟩ (.string s)) base S { m with im := m.im.set i ⟨s, x.first, x.loc⟩ } := by
  obtain ⟨_, _, cur, hk⟩ := h.im.typed (OwnR.blkOf hg)
  refine ⟨h.rq.aside hk (by decide), ?_, h.ep.aside hk (by decide), h.st.aside hk (by decide), h.ex.aside hk (by decide)⟩
  have e := flat_setC (f := imL) (m := 3) (fun _ => rfl) m.im i 0 x ⟨s, x.first, x.loc⟩ (.string s) hx (by decide) rfl
  rw [Nat.add_zero] at e
  have := h.im.put hg (i * 3) (.string s)
  rw [e] at this
  show OwnR _ _ _ _ _ (m.im.set i _).length _
  rw [List.length_set]
  exact this
theorem OwnMd.put_ep {w : World} {base i g : Nat} {S : Sv} {m : Md} {x : Ep} (h : OwnMd w base S m) (hx : m.ep[i]? = some x) (hg : S.ep.a = some ⟨g, 0, none⟩) (s : ByteArray) : OwnMd (w.setCell ⟨g, i * 4 + 3, none⟩ (.string s)) base S { m with ep := m.ep.set i ⟨x.kind, x.name, x.loc, s⟩ } := by
  obtain ⟨_, _, cur, hk⟩ := h.ep.typed (OwnR.blkOf hg)
  refine ⟨h.rq.aside hk (by decide), h.im.aside hk (by decide), ?_, h.st.aside hk (by decide), h.ex.aside hk (by decide)⟩
  have e := flat_setC (f := epL) (m := 4) (fun _ => rfl) m.ep i 3 x ⟨x.kind, x.name, x.loc, s⟩ (.string s) hx (by decide) rfl
  have := h.ep.put hg (i * 4 + 3) (.string s)
  rw [e] at this
  show OwnR _ _ _ _ _ (m.ep.set i _).length _
  rw [List.length_set]
  exact this
end Go.Proofs.Ytaakfnclelcopaa
