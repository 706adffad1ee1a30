/-
  Rows that came in, and rows of the call's own that are filled cell by cell. No program is spoken of.
  What spec's l6In, l6Twice, l6Imp and l6Space answer: the walks.
  What importedName and importList of impl's parser answer: the walks.
-/
import Derived.Test.YtdbpknmoacjodaaCeSpecTwice
namespace Go.Proofs.Ytdbpknmoacjodaa
open Go.RowKit Go.PlainAid Go.Deep

theorem flat_lenC {α : Type} {f : α → List Value} {m : Nat} (hf : ∀ x, (f x).length = m) (l : List α) : (l.flatMap f).length = l.length * m := flat_len f m hf l

def OwnC (w : World) (base : Nat) (e : TypeId) (m g n : Nat) (cs : List Value) (c : Nat) : Prop :=
  ∃ xs, w.ownsRow base e m (.slice (some ⟨g, 0, none⟩) n n) n xs ∧ ∀ i, i < c → xs[i]? = cs[i]?
theorem OwnC.has {w : World} {base g n m c : Nat} {e : TypeId} {cs : List Value} (h : OwnC w base e m g n cs c) (j : Nat) (hj : j < n * m) : ∃ v, w.cell? ⟨g, j, none⟩ = some v := by
  obtain ⟨xs, h1, _⟩ := h
  have hl := h1.1
  rw [h1.cellAt j hj]
  exact ⟨_, List.getElem?_eq_getElem (by omega)⟩
theorem OwnC.free {w : World} {base g n m c : Nat} {e : TypeId} {cs : List Value} (h : OwnC w base e m g n cs c) (j : Nat) : w.frozen? ⟨g, j, none⟩ = false := by
  obtain ⟨xs, h1, _⟩ := h
  exact h1.frozenAt j
theorem OwnC.put {w : World} {base g n m c : Nat} {e : TypeId} {cs : List Value} (h : OwnC w base e m g n cs c) {v : Value} (hc : c < n * m) (hv : cs[c]? = some v) : OwnC (w.setCell ⟨g, c, none⟩ v) base e m g n cs (c + 1) := by
  obtain ⟨xs, h1, h2⟩ := h
  have hl := h1.1
  refine ⟨_, (h1.stored c v).1, fun j hj => ?_⟩
  by_cases e : j = c
  · rw [e, List.getElem?_set, if_pos rfl, if_pos (by omega), hv]
  · rw [List.getElem?_set, if_neg (by omega)]
    exact h2 j (by omega)
theorem OwnC.lt {w : World} {base g n m c : Nat} {e : TypeId} {cs : List Value} (h : OwnC w base e m g n cs c) : g < w.heap.size ∧ base ≤ g := by
  obtain ⟨xs, h1, _⟩ := h
  rcases h1.2 with ⟨h', _⟩ | ⟨g', cap', cur, h', hb, hg, _⟩
  · simp at h'
  · simp only [Value.slice.injEq, Option.some.injEq, Addr.mk.injEq, and_true, true_and] at h'
    obtain ⟨rfl, rfl⟩ := h'
    exact ⟨(Array.getElem?_eq_some_iff.1 hg).1, hb⟩
theorem OwnC.later {w w' : World} {base g n m c : Nat} {e : TypeId} {cs : List Value} (h : OwnC w base e m g n cs c) (hb : Below w.heap.size w w') : OwnC w' base e m g n cs c := by
  have hlt := h.lt.1
  obtain ⟨xs, h1, h2⟩ := h
  refine ⟨xs, ⟨h1.1, ?_⟩, h2⟩
  rcases h1.2 with k | ⟨g', cap', cur, hv, hbase, hg, hr⟩
  · exact .inl k
  · simp only [Value.slice.injEq, Option.some.injEq, Addr.mk.injEq, and_true, true_and] at hv
    obtain ⟨rfl, rfl⟩ := hv
    exact .inr ⟨g, n, cur, rfl, hbase, (hb.block g hlt).trans hg, hr⟩
theorem OwnC.all {w : World} {base g n m : Nat} {e : TypeId} {cs : List Value} (h : OwnC w base e m g n cs (n * m)) (hl : cs.length = n * m) : OwnR w base e m ⟨some ⟨g, 0, none⟩, n⟩ n cs := by
  obtain ⟨xs, h1, h2⟩ := h
  have hx : xs = cs := by
    apply List.ext_getElem?
    intro i
    by_cases hi : i < n * m
    · exact h2 i hi
    · have := h1.1
      rw [List.getElem?_eq_none (by omega), List.getElem?_eq_none (by omega)]
  rw [hx] at h1
  exact h1
def ToOut (w : World) (t : TypeId) (m n : Nat) (cs : List Value) (e : Ending) (w' : World) : Prop := ∃ g, e = .returned (.slice (some ⟨g, 0, none⟩) n n) ∧ OwnR w' w.heap.size t m ⟨some ⟨g, 0, none⟩, n⟩ n cs ∧ Below w.heap.size w w'

end Go.Proofs.Ytdbpknmoacjodaa
namespace Go.Proofs.Ytdbpknmoacjodaa
open Go.RowKit Go.PlainAid Go.Sort

theorem RowAt.of {α : Type} {f : α → List Value} {m : Nat} (hf : ∀ x, (f x).length = m) {w : World} {b0 : Nat} {e : TypeId} {r : Rw} {l : List α} (h : OwnR w b0 e m r l.length (l.flatMap f)) : RowAt w r.a f m l := by
  cases hl : l with
  | nil => exact .inl rfl
  | cons y t =>
    rw [← hl]
    obtain ⟨g, hg, _⟩ := OwnR.elem hf h (j := 0) (x := y) (by rw [hl]; rfl)
    refine .inr ⟨g, 0, hg, (h.typed (by rw [Rw.blk, hg]; rfl)).2.1, fun j x hj i v hv => ?_⟩
    obtain ⟨g', hg', hc⟩ := OwnR.elem hf h hj
    rw [hg] at hg'
    cases hg'
    obtain ⟨hi, _⟩ := List.getElem?_eq_some_iff.1 hv
    rw [Nat.zero_add, hc i (by rw [← hf x]; exact hi)]
    exact hv
theorem RowS.of {w : World} {base : Nat} {r : Rw} {l : List ByteArray} (h : OwnR w base 9 1 r l.length (l.map .string)) : RowS w r.a l := by
  refine RowAt.of (f := fun x => [Value.string x]) (fun _ => rfl) (b0 := base) (e := 9) ?_
  have e : (l.flatMap fun x => [Value.string x]) = l.map .string := by
    clear h
    induction l with
    | nil => rfl
    | cons x l ih => rw [List.flatMap_cons, List.map_cons, ih]; rfl
  rw [e]
  exact h
def ImpAt (l : List Im) (n : ByteArray) (z : Int) : Prop :=
  (z = -1 ∧ ∀ (j : Nat) (y : Im), l[j]? = some y → (y.loc.toList == n.toList) = false) ∨
  ∃ (k : Nat) (x : Im), z = k ∧ l[k]? = some x ∧ (x.loc.toList == n.toList) = true ∧ ∀ (j : Nat) (y : Im), j < k → l[j]? = some y → (y.loc.toList == n.toList) = false
def ImpOut (l : List Im) (n : ByteArray) (e : Ending) : Prop := ∃ z, e = .returned (.int .i64 z) ∧ ImpAt l n z
set_option maxRecDepth 100000 in
set_option maxHeartbeats 1600000 in
theorem l6Imp_spec (V : Sv) (m : Md) (n : ByteArray) (w : World) (hr : RowAt w V.im.a imL 3 m.im) (hl : m.im.length ≤ 1048576) :
    Calls Try.prog 163 #[modD V m, .string n] w fun e w' => ImpOut m.im n e ∧ Below w.heap.size w w' := by
  obtain ⟨a, ha⟩ : ∃ a, V.im.a = a := ⟨_, rfl⟩
  unfold modD
  rw [ha] at hr ⊢
  have HB : Hid (Below w.heap.size w (w.alloc (.cells #[.slice V.rq.a m.rq.length V.rq.cap, .slice a m.im.length V.im.cap, .slice V.ep.a m.ep.length V.ep.cap, .slice V.st.a m.st.length V.st.cap, .slice V.ex.a m.ex.length V.ex.cap] 37))) := (Below.refl _ _).alloc (Nat.le_refl _) _
  have HR := hidI (hr.later HB.out)
  clear hr ha
  go_enter Try.func163, Try.ntmps163
  go_wp2
  go_loop [5] (fun i => ∃ k : Nat, k ≤ m.im.length ∧ i = .int .i64 k ∧ (∀ (j : Nat) (y : Im), j < k → m.im[j]? = some y → (y.loc.toList == n.toList) = false)) (fun i => (m.im.length - intOf i).toNat)
  case atStart => exact ⟨0, by omega, rfl, fun j _ hj => absurd hj (Nat.not_lt_zero j)⟩
  case round =>
    obtain ⟨k, hk, rfl, hno⟩ := hrel
    have HNO := hidI hno
    clear hno
    by_cases hlt : k < m.im.length
    · obtain ⟨x, hx⟩ : ∃ x, m.im[k]? = some x := ⟨_, List.getElem?_eq_getElem hlt⟩
      obtain ⟨b, off, rfl, hc⟩ := HR.out.get hx
      have HX := hidI hx
      have c0 := hc 2 _ rfl
      clear hc hx
      cases hq : (x.loc.toList == n.toList) with
      | true =>
        have HV : Hid (ImpAt m.im n k) := .inr ⟨k, x, rfl, HX.out, hq, HNO.out⟩
        go_wp2
        go_ret
        exact ⟨⟨_, rfl, HV.out⟩, HB.out⟩
      | false =>
        have HY : Hid (∀ (j : Nat) (y : Im), j < k + 1 → m.im[j]? = some y → (y.loc.toList == n.toList) = false) := fun j y hj hy => by
          by_cases e : j = k
          · rw [e, HX.out] at hy
            cases hy
            exact hq
          · exact HNO.out j y (by omega) hy
        go_wp2
        go_round
        case rel => exact ⟨k + 1, by omega, by go_num, HY.out⟩
        case measure => simp [intOf]; omega
    · have HV : Hid (ImpAt m.im n (-1)) := .inl ⟨rfl, fun j y hy => HNO.out j y (by have := (List.getElem?_eq_some_iff.1 hy).1; omega) hy⟩
      go_wp2
      go_ret
      exact ⟨⟨_, rfl, HV.out⟩, HB.out⟩
set_option maxRecDepth 100000 in
set_option maxHeartbeats 1600000 in
theorem l6Space_spec (V : Sv) (m : Md) (n : ByteArray) (w : World) (hr : RowAt w V.im.a imL 3 m.im) (hl : m.im.length ≤ 1048576) :
    Calls Try.prog 107 #[modD V m, .string n] w fun e w' => e = .returned (.bool (spB m.im n)) ∧ Below w.heap.size w w' := by
  have HR := hidI hr
  clear hr
  have HB : Hid (Below w.heap.size w (w.alloc (.cells #[.slice V.rq.a m.rq.length V.rq.cap, .slice V.im.a m.im.length V.im.cap, .slice V.ep.a m.ep.length V.ep.cap, .slice V.st.a m.st.length V.st.cap, .slice V.ex.a m.ex.length V.ex.cap] 37))) := (Below.refl _ _).alloc (Nat.le_refl _) _
  unfold modD
  go_enter Try.func107, Try.ntmps107
  go_wp2_with fail
  refine (l6Imp_spec V m n _ (HR.out.later HB.out) hl).mono ?_
  rintro e w1 ⟨⟨z, rfl, hz⟩, hb⟩
  have HB1 := hidI (HB.out.trans (hb.mono (by rw [alloc_size]; omega)))
  obtain ⟨c0, c1, c2, c3, c4, cf⟩ := five_of ((hb.block w.heap.size (by rw [alloc_size]; omega)).trans (heap_alloc_new w _))
  have HZ := hidI hz
  clear hz hb
  rcases HZ.out with ⟨rfl, hno⟩ | ⟨k, x, rfl, hx, hq, hno⟩
  · have HV : Hid (spB m.im n = false) := spB_none hno
    clear hno
    go_wp2
    go_ret
    exact ⟨ret_bool HV.out.symm, HB1.out⟩
  · have HV : Hid (spB m.im n = (x.first.toList == [42])) := spB_at hx hq hno
    have hk := (List.getElem?_eq_some_iff.1 hx).1
    obtain ⟨b, off, ha, hc⟩ := (HR.out.later HB1.out).get hx
    have d0 := hc 1 _ rfl
    rw [ha] at c1
    clear hc hno hq hx ha HZ
    go_wp2
    go_ret
    exact ⟨ret_bool HV.out.symm, HB1.out⟩
end Go.Proofs.Ytdbpknmoacjodaa
namespace Go.Proofs.Ytdbpknmoacjodaa
open Go.RowKit Go.PlainAid Go.Sort

def toIm (e : Ep) : Im := ⟨sNone, e.loc, e.name⟩
def pairI (C : Cx) (exp : Bool) (q : PS) : Except Nat (PS × Ep) := bd (nameP C true q) fun a => bd (asP C exp a) fun b => .ok (b.1, ⟨0, b.2, a.2, sNone⟩)
theorem listL_pair (C : Cx) (exp : Bool) (q : PS) (acc : List Ep) : listL C exp q acc = bd (pairI C exp q) fun x =>
    if isT C x.1.pos 4 cComma then listL C exp (adv x.1) (acc ++ [x.2]) else bd (tokP C 4 cRight x.1) fun q' => .ok (q', acc ++ [x.2]) := by
  rw [listL_step, pairI, bd_bd]
  refine bd_congr fun a _ => ?_
  rw [bd_bd]
  rfl
theorem pair_as {C : Cx} {q : PS} {a : PS × ByteArray} (hn : nameP C true q = .ok a) (h : isT C a.1.pos 1 sAs = true) : pairI C false q = bd (nameP C false (adv a.1)) fun b => .ok (b.1, ⟨0, b.2, a.2, sNone⟩) := by
  rw [pairI, hn, bd_ok, asP, if_pos h]
theorem pair_word {C : Cx} {q : PS} {a : PS × ByteArray} (hn : nameP C true q = .ok a) (h : isT C a.1.pos 1 sAs = false) (hd : (a.2.toList == [100, 101, 102, 97, 117, 108, 116]) = true) : pairI C false q = .error (here C a.1.pos) := by
  rw [pairI, hn, bd_ok, asP, if_neg (by rw [h]; decide), if_pos (by rw [hd]; rfl)]
  rfl
theorem pair_alone {C : Cx} {q : PS} {a : PS × ByteArray} (hn : nameP C true q = .ok a) (h : isT C a.1.pos 1 sAs = false) (hd : (a.2.toList == [100, 101, 102, 97, 117, 108, 116]) = false) : pairI C false q = .ok (a.1, ⟨0, a.2, a.2, sNone⟩) := by
  rw [pairI, hn, bd_ok, asP, if_neg (by rw [h]; decide), if_neg (by rw [hd]; decide)]
  rfl
theorem three_of {w : World} {b : Nat} {t : TypeId} {v0 v1 v2 : Value} (h : w.heap[b]? = some (.cells #[v0, v1, v2] t (0, 0))) :
    w.cell? ⟨b, 0, none⟩ = some v0 ∧ w.cell? ⟨b, 1, none⟩ = some v1 ∧ w.cell? ⟨b, 2, none⟩ = some v2 ∧ ∀ i, w.frozen? ⟨b, i, none⟩ = false := by
  refine ⟨?_, ?_, ?_, fun i => ?_⟩ <;> simp [World.cell?, World.frozen?, h]
theorem put3 {w : World} {b : Nat} {v0 v1 v2 x0 x1 x2 : Value} {t : TypeId} (h : w.heap[b]? = some (.cells #[v0, v1, v2] t (0, 0))) :
    (((w.setCell ⟨b, 0, none⟩ x0).setCell ⟨b, 1, none⟩ x1).setCell ⟨b, 2, none⟩ x2).heap[b]? = some (.cells #[x0, x1, x2] t (0, 0)) := by
  have e := qcell (i := 2) (u := x2) (qcell (i := 1) (u := x1) (qcell (i := 0) (u := x0) h))
  rw [e]
  simp

end Go.Proofs.Ytdbpknmoacjodaa
