/-
  What spec's smallest readers of tokens answer: the walks.
  One of the six rows of a program under way grows by one element: what holds behind it. No program is spoken of but for the numbers of its types.
  What spec's readers of one token answer: l4Full, l4Sign, l4Word, l4Reserved, l4Plain, l4Name: the walks.
  Items of programs, as plain functions. No program is spoken of.
  What spec's l4Plain and l4Name answer: the walks.
  What spec's l4Add, l4Imp, l4Stmt and l4Exp answer: the walks.
  What spec's l4Spec answers: the walk.
-/
import Derived.Test.YticdggnnpjachaaGreatCaParseMem
import Derived.Test.YticdggnnpjachaaGreatCaSpecLexAll
namespace Go.Proofs.YticdggnnpjachaaGreat
open Go.RowKit Go.PlainAid
theorem hidI {p : Prop} (h : p) : Hid p := h

theorem OwnT.cells {w : World} {base g n cap : Nat} {e : TypeId} {ts : List Tk} (h : OwnT w base e g n cap ts) {j : Nat} (hj : j < n) {d : Tk} :
    w.cell? ⟨g, j * 4, none⟩ = some (.int .i64 (ts.getD j d).kind) ∧ w.cell? ⟨g, j * 4 + 1, none⟩ = some (.string (ts.getD j d).text) ∧ w.cell? ⟨g, j * 4 + 2, none⟩ = some (.int .i64 (ts.getD j d).num) ∧ w.cell? ⟨g, j * 4 + 3, none⟩ = some (.int .i64 (ts.getD j d).pos) := by
  have hl := h.2
  have key : ∀ (l : List Tk) (i c : Nat), c < 4 → i < l.length → (l.flatMap tkL)[i * 4 + c]? = (tkL (l.getD i d))[c]? := by
    intro l
    induction l with
    | nil => intro i c _ hi; simp at hi
    | cons x l ih =>
      intro i c hc hi
      match i with
      | 0 =>
        simp only [List.flatMap_cons, Nat.zero_mul, Nat.zero_add, List.getD_cons_zero]
        rw [List.getElem?_append_left (by simp [tkL]; omega)]
      | i + 1 =>
        simp only [List.flatMap_cons, List.getD_cons_succ]
        rw [List.getElem?_append_right (by simp [tkL]; omega)]
        have : (i + 1) * 4 + c - (tkL x).length = i * 4 + c := by simp [tkL]; omega
        rw [this]
        exact ih i c hc (by simpa using hi)
  have c0 := key ts j 0 (by omega) (by omega)
  have c1 := key ts j 1 (by omega) (by omega)
  have c2 := key ts j 2 (by omega) (by omega)
  have c3 := key ts j 3 (by omega) (by omega)
  rw [h.1.cellAt _ (by omega), h.1.cellAt _ (by omega), h.1.cellAt _ (by omega), h.1.cellAt _ (by omega)]
  exact ⟨c0, c1, c2, c3⟩

def pv (C : Cx) (gt cap : Nat) (S : Sv) (q : PS) (z : Int) (d : Nat) : Value :=
  .agg #[.slice (some ⟨gt, 0, none⟩) C.ts.length cap, .int .i64 q.pos, .int .i64 C.fin, .bool C.scr, .slice S.rq.a q.rq.length S.rq.cap, .slice S.im.a q.im.length S.im.cap, .slice S.ep.a q.ep.length S.ep.cap,
    .slice S.st.a q.st.length S.st.cap, .slice S.ex.a q.ex.length S.ex.cap, .slice S.la.a q.la.length S.la.cap, .int .i64 z, .int .i64 d]

theorem isT_kind {C : Cx} {i : Nat} {k : Int} {s : ByteArray} (h : ((tokAt C i).kind == k) = false) : isT C i k s = false := by rw [isT, h]; rfl
theorem isT_end {C : Cx} {i : Nat} {k : Int} {s : ByteArray} (h : ¬ i < C.ts.length) (hk : k ≠ 0) : isT C i k s = false := by
  rw [Bool.eq_false_iff]
  exact fun g => h (isT_lt g hk)
set_option maxRecDepth 100000 in
set_option maxHeartbeats 1600000 in
theorem is_spec (C : Cx) (gt cap base : Nat) (S : Sv) (q : PS) (z : Int) (d : Nat) (k : Int) (s : ByteArray) (w : World) (ht : OwnT w base 111 gt C.ts.length cap C.ts) (_ : C.ts.length ≤ 4000) (hk : k ≠ 0) :
    Calls Tryz.prog 69 #[pv C gt cap S q z d, .int .i64 k, .string s] w fun e w' => e = .returned (.bool (decide (z < 0) && isT C q.pos k s)) ∧ Below w.heap.size w w' := by
  unfold pv
  by_cases hz : z < 0
  · have dz : decide (z < 0) = true := decide_eq_true hz
    by_cases hp : q.pos < C.ts.length
    · obtain ⟨c0, c1, _, _⟩ := ht.cells hp (d := ⟨0, sNone, 0, C.fin⟩)
      have hglt := (ownT_lt ht).1
      change _ = some (Value.int .i64 (tokAt C q.pos).kind) at c0
      change _ = some (Value.string (tokAt C q.pos).text) at c1
      generalize htk : tokAt C q.pos = t at c0 c1
      cases e1 : (t.kind == k) with
      | true =>
        cases e2 : (t.text.toList == s.toList) with
        | true =>
          have HV : Hid (isT C q.pos k s = true) := by show isT C q.pos k s = true; simp only [isT, htk, e1, e2, Bool.and_self]
          clear htk
          go_enter Tryz.func69, Tryz.ntmps69
          go_wp2
          go_ret
          exact ⟨ret_bool (by rw [dz, HV.out]; rfl), (Below.refl _ _).alloc (Nat.le_refl _) _⟩
        | false =>
          have HV : Hid (isT C q.pos k s = false) := by show isT C q.pos k s = false; simp only [isT, htk, e1, e2, Bool.and_false]
          clear htk
          go_enter Tryz.func69, Tryz.ntmps69
          go_wp2
          go_ret
          exact ⟨ret_bool (by rw [dz, HV.out]; rfl), (Below.refl _ _).alloc (Nat.le_refl _) _⟩
      | false =>
        have HV : Hid (isT C q.pos k s = false) := isT_kind (by rw [htk]; exact e1)
        clear htk
        go_enter Tryz.func69, Tryz.ntmps69
        go_wp2
        go_ret
        exact ⟨ret_bool (by rw [dz, HV.out]; rfl), (Below.refl _ _).alloc (Nat.le_refl _) _⟩
    · have HV : Hid (isT C q.pos k s = false) := isT_end hp hk
      go_enter Tryz.func69, Tryz.ntmps69
      go_wp2
      go_ret
      exact ⟨ret_bool (by rw [dz, HV.out]; rfl), (Below.refl _ _).alloc (Nat.le_refl _) _⟩
  · have dz : decide (z < 0) = false := decide_eq_false hz
    go_enter Tryz.func69, Tryz.ntmps69
    go_wp2
    go_ret
    exact ⟨ret_bool rfl, (Below.refl _ _).alloc (Nat.le_refl _) _⟩

set_option maxRecDepth 100000 in
theorem here_spec (C : Cx) (gt cap base : Nat) (S : Sv) (q : PS) (z : Int) (d : Nat) (w : World) (ht : OwnT w base 111 gt C.ts.length cap C.ts) (_ : C.ts.length ≤ 4000) :
    Calls Tryz.prog 167 #[pv C gt cap S q z d] w fun e w' => e = .returned (.int .i64 (here C q.pos)) ∧ Below w.heap.size w w' := by
  unfold pv
  by_cases hp : q.pos < C.ts.length
  · obtain ⟨_, _, _, c3⟩ := ht.cells hp (d := ⟨0, sNone, 0, C.fin⟩)
    have hglt := (ownT_lt ht).1
    change _ = some (Value.int .i64 (here C q.pos)) at c3
    go_enter Tryz.func167, Tryz.ntmps167
    go_wp2
    go_ret
    exact ⟨rfl, (Below.refl _ _).alloc (Nat.le_refl _) _⟩
  · have HV : Hid (here C q.pos = C.fin) := by show here C q.pos = C.fin; rw [here, tokAt_none (by omega)]
    go_enter Tryz.func167, Tryz.ntmps167
    go_wp2
    go_ret
    exact ⟨ret_int (by rw [HV.out]), (Below.refl _ _).alloc (Nat.le_refl _) _⟩
def badOf (C : Cx) (i : Nat) (z : Int) : Int := if z < 0 then here C i else z
theorem ownT_alloc {w : World} {base g n cap : Nat} {e : TypeId} {ts : List Tk} (h : OwnT w base e g n cap ts) (o : Obj) : OwnT (w.alloc o) base e g n cap ts := ownT_later h ((Below.refl _ _).alloc (Nat.le_refl _) _)
theorem pcell {w : World} {b i : Nat} {cs : Array Value} {u : Value} {t : TypeId} (h : w.heap[b]? = some (.cells cs t (0, 0))) : (w.setCell ⟨b, i, none⟩ u).heap[b]? = some (.cells (cs.setIfInBounds i u) t (0, 0)) := by
  simp only [World.setCell, Array.getElem?_modify]
  rw [if_pos trivial, h]
  rfl
theorem pother {w : World} {b c i : Nat} {u : Value} (h : b ≠ c) : (w.setCell ⟨c, i, none⟩ u).heap[b]? = w.heap[b]? := Below.heap_setCell w ⟨c, i, none⟩ u b h
structure Box (w : World) (b : Nat) (v0 v1 v2 v3 v4 v5 v6 v7 v8 v9 v10 v11 : Value) : Prop where
  c0 : w.cell? ⟨b, 0, none⟩ = some v0
  c1 : w.cell? ⟨b, 1, none⟩ = some v1
  c2 : w.cell? ⟨b, 2, none⟩ = some v2
  c3 : w.cell? ⟨b, 3, none⟩ = some v3
  c4 : w.cell? ⟨b, 4, none⟩ = some v4
  c5 : w.cell? ⟨b, 5, none⟩ = some v5
  c6 : w.cell? ⟨b, 6, none⟩ = some v6
  c7 : w.cell? ⟨b, 7, none⟩ = some v7
  c8 : w.cell? ⟨b, 8, none⟩ = some v8
  c9 : w.cell? ⟨b, 9, none⟩ = some v9
  c10 : w.cell? ⟨b, 10, none⟩ = some v10
  c11 : w.cell? ⟨b, 11, none⟩ = some v11
  fz : ∀ i, w.frozen? ⟨b, i, none⟩ = false
theorem box_of {w : World} {b : Nat} {t : TypeId} {v0 v1 v2 v3 v4 v5 v6 v7 v8 v9 v10 v11 : Value} (h : w.heap[b]? = some (.cells #[v0, v1, v2, v3, v4, v5, v6, v7, v8, v9, v10, v11] t (0, 0))) : Box w b v0 v1 v2 v3 v4 v5 v6 v7 v8 v9 v10 v11 := by
  constructor <;> simp [World.cell?, World.frozen?, h]
theorem put12 {w : World} {b : Nat} {v0 v1 v2 v3 v4 v5 v6 v7 v8 v9 v10 v11 x0 x1 x2 x3 x4 x5 x6 x7 x8 x9 x10 x11 : Value} {t : TypeId} (h : w.heap[b]? = some (.cells #[v0, v1, v2, v3, v4, v5, v6, v7, v8, v9, v10, v11] t (0, 0))) :
    ((((((((((((w.setCell ⟨b, 0, none⟩ x0).setCell ⟨b, 1, none⟩ x1).setCell ⟨b, 2, none⟩ x2).setCell ⟨b, 3, none⟩ x3).setCell ⟨b, 4, none⟩ x4).setCell ⟨b, 5, none⟩ x5).setCell ⟨b, 6, none⟩ x6).setCell ⟨b, 7, none⟩ x7).setCell ⟨b, 8, none⟩ x8).setCell ⟨b, 9, none⟩ x9).setCell ⟨b, 10, none⟩ x10).setCell ⟨b, 11, none⟩ x11).heap[b]? = some (.cells #[x0, x1, x2, x3, x4, x5, x6, x7, x8, x9, x10, x11] t (0, 0)) :=
  by
  have e := pcell (i := 11) (u := x11) (pcell (i := 10) (u := x10) (pcell (i := 9) (u := x9) (pcell (i := 8) (u := x8) (pcell (i := 7) (u := x7) (pcell (i := 6) (u := x6) (pcell (i := 5) (u := x5) (pcell (i := 4) (u := x4) (pcell (i := 3) (u := x3) (pcell (i := 2) (u := x2) (pcell (i := 1) (u := x1) (pcell (i := 0) (u := x0) h)))))))))))
  rw [e]
  simp
theorem below12 {B : Nat} {a w : World} {b : Nat} (h : Below B a w) (hb : B ≤ b) (x0 x1 x2 x3 x4 x5 x6 x7 x8 x9 x10 x11 : Value) :
    Below B a ((((((((((((w.setCell ⟨b, 0, none⟩ x0).setCell ⟨b, 1, none⟩ x1).setCell ⟨b, 2, none⟩ x2).setCell ⟨b, 3, none⟩ x3).setCell ⟨b, 4, none⟩ x4).setCell ⟨b, 5, none⟩ x5).setCell ⟨b, 6, none⟩ x6).setCell ⟨b, 7, none⟩ x7).setCell ⟨b, 8, none⟩ x8).setCell ⟨b, 9, none⟩ x9).setCell ⟨b, 10, none⟩ x10).setCell ⟨b, 11, none⟩ x11) :=
  (((((((((((h.setCell hb _).setCell hb _).setCell hb _).setCell hb _).setCell hb _).setCell hb _).setCell hb _).setCell hb _).setCell hb _).setCell hb _).setCell hb _).setCell hb _
theorem below2 (w : World) (a b : Obj) : Below w.heap.size w ((w.alloc a).alloc b) := ((Below.refl _ _).alloc (Nat.le_refl _) _).alloc (by show _ ≤ (w.heap.push _).size; simp) _
theorem new2 (w : World) (a b : Obj) : ((w.alloc a).alloc b).heap[w.heap.size + 1]? = some b := by
  have e1 : (w.alloc a).heap.size = w.heap.size + 1 := by show (w.heap.push _).size = _; simp
  rw [← e1]
  exact heap_alloc_new _ b
theorem two_new {w w1 : World} {a b : Obj} (hb : Below ((w.alloc a).alloc b).heap.size ((w.alloc a).alloc b) w1) : w1.heap[w.heap.size]? = some a ∧ w1.heap[w.heap.size + 1]? = some b := by
  have e : ((w.alloc a).alloc b).heap.size = w.heap.size + 2 := by show ((w.heap.push _).push _).size = _; simp
  have e1 : (w.alloc a).heap.size = w.heap.size + 1 := by show (w.heap.push _).size = _; simp
  refine ⟨?_, ?_⟩
  · rw [hb.block _ (by omega), Below.heap_alloc _ _ _ (by omega)]
    exact heap_alloc_new w a
  · rw [hb.block _ (by omega), ← e1]
    exact heap_alloc_new _ b
theorem two_below {w w1 : World} {a b : Obj} (hb : Below ((w.alloc a).alloc b).heap.size ((w.alloc a).alloc b) w1) : Below w.heap.size w w1 := by
  have e1 : (w.alloc a).heap.size = w.heap.size + 1 := by show (w.heap.push _).size = _; simp
  have h0 : Below w.heap.size w ((w.alloc a).alloc b) := ((Below.refl _ _).alloc (Nat.le_refl _) _).alloc (by omega) _
  exact h0.trans (hb.mono h0.size)
set_option maxRecDepth 100000 in
set_option maxHeartbeats 1600000 in
theorem fail_spec (C : Cx) (gt cap base : Nat) (S : Sv) (q : PS) (z : Int) (d : Nat) (w : World) (ht : OwnT w base 111 gt C.ts.length cap C.ts) (hn : C.ts.length ≤ 4000) :
    Calls Tryz.prog 135 #[pv C gt cap S q z d] w fun e w' => e = .returned (pv C gt cap S q (badOf C q.pos z) d) ∧ Below w.heap.size w w' := by
  by_cases hz : z < 0
  · have HB : Hid (badOf C q.pos z = here C q.pos) := if_pos hz
    unfold pv
    go_enter Tryz.func135, Tryz.ntmps135
    go_wp2_with fail
    refine (here_spec C gt cap base S q z d _ (ownT_alloc (ownT_alloc ht _) _) hn).mono ?_
    rintro e w1 ⟨rfl, hb⟩
    obtain ⟨g1, g2⟩ := two_new hb
    obtain ⟨a0, a1, a2, a3, a4, a5, a6, a7, a8, a9, a10, a11, af⟩ := box_of g1
    obtain ⟨b0, b1, b2, b3, b4, b5, b6, b7, b8, b9, b10, b11, bf⟩ := box_of g2
    have G2 : Hid (_ = _) := g2
    clear g1 g2
    go_wp2
    refine bodyPost_ret (results_cell_row rfl _ _ (w.heap.size + 1) 53 _ (0, 0) _ rfl (put12 ((pother (by omega)).trans G2.out)) Tryz.underlying53 rfl (by kernel_rfl)) rfl ?_
    exact ⟨by rw [HB.out], below12 ((two_below hb).setCell (Nat.le_refl _) _) (Nat.le_succ _) _ _ _ _ _ _ _ _ _ _ _ _⟩
  · have HB : Hid (badOf C q.pos z = z) := if_neg hz
    unfold pv
    go_enter Tryz.func135, Tryz.ntmps135
    go_wp2
    refine bodyPost_ret (results_cell_row rfl _ _ (w.heap.size + 1) 53 _ (0, 0) _ rfl (new2 w _ _) Tryz.underlying53 rfl (by kernel_rfl)) rfl ?_
    exact ⟨by rw [HB.out], below2 w _ _⟩
end Go.Proofs.YticdggnnpjachaaGreat
namespace Go.Proofs.YticdggnnpjachaaGreat
open Go.RowKit Go.PlainAid

structure Inv (C : Cx) (q : PS) : Prop where
  pos : q.pos ≤ C.ts.length
  rq : q.rq.length ≤ 40
  im : q.im.length ≤ 40
  ep : q.ep.length + q.la.length ≤ 40
  st : q.st.length ≤ 80
  ex : q.ex.length ≤ 300
structure Mem (C : Cx) (gt cap base : Nat) (S : Sv) (q : PS) (w : World) : Prop where
  own : Own w base S q
  inv : Inv C q
  tok : OwnT w base 111 gt C.ts.length cap C.ts
  few : C.ts.length ≤ 4000
  base : base ≤ w.heap.size
theorem Mem.later {C : Cx} {gt cap base : Nat} {S : Sv} {q : PS} {w w' : World} (h : Mem C gt cap base S q w) (hb : Below w.heap.size w w') : Mem C gt cap base S q w' :=
  ⟨h.own.later hb, h.inv, ownT_later h.tok hb, h.few, Nat.le_trans h.base hb.size⟩
theorem Mem.alloc {C : Cx} {gt cap base : Nat} {S : Sv} {q : PS} {w : World} (h : Mem C gt cap base S q w) (o : Obj) : Mem C gt cap base S q (w.alloc o) := h.later ((Below.refl _ _).alloc (Nat.le_refl _) _)
theorem Own.to {w : World} {base : Nat} {S : Sv} {q q' : PS} (h : Own w base S q) (h1 : q'.rq = q.rq) (h2 : q'.im = q.im) (h3 : q'.ep = q.ep) (h4 : q'.st = q.st) (h5 : q'.ex = q.ex) (h6 : q'.la = q.la) : Own w base S q' :=
  ⟨by rw [h1]; exact h.rq, by rw [h2]; exact h.im, by rw [h3]; exact h.ep, by rw [h4]; exact h.st, by rw [h5]; exact h.ex, by rw [h6]; exact h.la, h.apart⟩
theorem Mem.adv {C : Cx} {gt cap base : Nat} {S : Sv} {q : PS} {w : World} (h : Mem C gt cap base S q w) (hl : q.pos < C.ts.length) : Mem C gt cap base S (adv q) w :=
  ⟨h.own.to rfl rfl rfl rfl rfl rfl, ⟨hl, h.inv.rq, h.inv.im, h.inv.ep, h.inv.st, h.inv.ex⟩, h.tok, h.few, h.base⟩
theorem OwnR.alloc {w : World} {base size n : Nat} {e : TypeId} {r : Rw} {xs : List Value} (h : OwnR w base e size r n xs) (o : Obj) : OwnR (w.alloc o) base e size r n xs :=
  h.keep fun k hk => Below.heap_alloc w o k (h.typed hk).2.1
theorem ownT_block {w : World} {base g n cap : Nat} {e : TypeId} {ts : List Tk} (h : OwnT w base e g n cap ts) : ∃ cur, w.heap[g]? = some (.cells cur e (0, 0)) := by
  rcases h.1.2 with ⟨h', _⟩ | ⟨g', cap', cur, h', hb, hg, hn, _⟩
  · simp at h'
  · simp only [Value.slice.injEq, Option.some.injEq, Addr.mk.injEq, and_true, true_and] at h'
    obtain ⟨rfl, rfl⟩ := h'
    exact ⟨cur, hg⟩
theorem ownT_keep {w w' : World} {base g n cap : Nat} {e : TypeId} {ts : List Tk} (h : OwnT w base e g n cap ts) (hk : w'.heap[g]? = w.heap[g]?) : OwnT w' base e g n cap ts := by
  refine ⟨⟨h.1.1, ?_⟩, h.2⟩
  rcases h.1.2 with k | ⟨g', cap', cur, hv, hbase, hg, hr⟩
  · exact .inl k
  · simp only [Value.slice.injEq, Option.some.injEq, Addr.mk.injEq, and_true, true_and] at hv
    obtain ⟨rfl, rfl⟩ := hv
    exact .inr ⟨g, cap, cur, rfl, hbase, hk.trans hg, hr⟩
theorem Mem.gt_free {C : Cx} {gt cap base : Nat} {S : Sv} {q : PS} {w : World} (h : Mem C gt cap base S q w) : ¬ S.has gt := by
  obtain ⟨cur, hg⟩ := ownT_block h.tok
  exact h.own.other hg (by decide) (by decide) (by decide) (by decide) (by decide)

structure Off (lo hi : Nat) (w w' : World) : Prop where
  os : w'.os = w.os
  tape : w'.tape = w.tape
  output : w'.output = w.output
  size : w.heap.size ≤ w'.heap.size
  block : ∀ k, k < lo ∨ hi ≤ k ∧ k < w.heap.size → w'.heap[k]? = w.heap[k]?
theorem Off.refl (lo hi : Nat) (w : World) : Off lo hi w w := ⟨rfl, rfl, rfl, Nat.le_refl _, fun _ _ => rfl⟩
theorem Off.set {lo hi : Nat} {w w' : World} (h : Off lo hi w w') {b : Nat} (h1 : lo ≤ b) (h2 : b < hi) (i : Nat) (u : Value) : Off lo hi w (w'.setCell ⟨b, i, none⟩ u) :=
  ⟨h.os, h.tape, h.output, by show _ ≤ (w'.heap.modify _ _).size; simp; exact h.size, fun k hk => (Below.heap_setCell w' ⟨b, i, none⟩ u k (by show k ≠ b; omega)).trans (h.block k hk)⟩
theorem Off.below {lo hi : Nat} {w w1 w2 : World} (h : Off lo hi w w1) (hb : Below w1.heap.size w1 w2) (hlo : lo ≤ w.heap.size) : Off lo hi w w2 :=
  ⟨hb.os.trans h.os, hb.tape.trans h.tape, hb.output.trans h.output, Nat.le_trans h.size hb.size, fun k hk => (hb.block k (by have := h.size; omega)).trans (h.block k hk)⟩
theorem Off.set12 {lo hi : Nat} {a w : World} (h : Off lo hi a w) {b : Nat} (h1 : lo ≤ b) (h2 : b < hi) (x0 x1 x2 x3 x4 x5 x6 x7 x8 x9 x10 x11 : Value) :
    Off lo hi a ((((((((((((w.setCell ⟨b, 0, none⟩ x0).setCell ⟨b, 1, none⟩ x1).setCell ⟨b, 2, none⟩ x2).setCell ⟨b, 3, none⟩ x3).setCell ⟨b, 4, none⟩ x4).setCell ⟨b, 5, none⟩ x5).setCell ⟨b, 6, none⟩ x6).setCell ⟨b, 7, none⟩ x7).setCell ⟨b, 8, none⟩ x8).setCell ⟨b, 9, none⟩ x9).setCell ⟨b, 10, none⟩ x10).setCell ⟨b, 11, none⟩ x11) :=
  (((((((((((h.set h1 h2 _ _).set h1 h2 _ _).set h1 h2 _ _).set h1 h2 _ _).set h1 h2 _ _).set h1 h2 _ _).set h1 h2 _ _).set h1 h2 _ _).set h1 h2 _ _).set h1 h2 _ _).set h1 h2 _ _).set h1 h2 _ _

theorem app_row {P : Program} (W : World) {ops : Array Oper} {rest : List Oper} {o : Oper} {a : Act} {Q : Exit → Act → World → Prop} (hgd : o.guard = none) (s x : Operand) (t : TypeId)
    (ho : o.op = .call { callee := .builtin .append, args := #[s, x], argTypes := #[t, t] })
    (base : Nat) (e : TypeId) (i : TypeInfo) (z : Value) (size bytes : Nat) (ht : P.underlying t = some (.slice e)) (hi : P.info? e = some i) (hz : i.zero = some z) (hsize : i.size = size) (hby : i.bytes = bytes) (hzs : z.cells.size = size) (hsz : 0 < size) (h100 : bytes ≤ 100)
    (r : Rw) (n : Nat) (xs : List Value) (hs : a.eval s = .slice r.a n r.cap) (hown : OwnR W base e size r n xs)
    (gx : Nat) (news : List Value) (hx : a.eval x = .slice (some ⟨gx, 0, none⟩) 1 1) (hg : W.heap[gx]? = some (.cells news.toArray e (0, 0))) (hl : news.length = size) (h1 : ∀ u ∈ news, u.oneCell' = true) (hn : n + 1 ≤ 1000000) (hbase : base ≤ W.heap.size)
    (h : ∀ r' w', OwnR w' base e size r' (n + 1) (xs ++ news) → W.grownBy w' r.blk → (r'.blk = r.blk ∨ r'.blk = some W.heap.size) → wpList P ops Q rest (a.put o.dst (.slice r'.a (n + 1) r'.cap)) w') :
    wpList P ops Q (o :: rest) a W := by
  refine wpList_append_own_at _ hgd s x t ho base e i z size bytes ht hi hz hsize hby hzs hsz _ n _ hs hown ⟨gx, 0, none⟩ 1 1 news hx (by omega) ?_ h1 ?_ ?_ hbase ?_
  · intro j u hj
    have : (⟨gx, 0, none⟩ : Addr).add j = ⟨gx, j, none⟩ := by simp [Addr.add]; exact fun h => h.symm
    rw [this]
    simp [World.cell?, hg, hj]
  · unfold maxLen; omega
  · have : (n + 1) * bytes ≤ 1000000 * 100 := Nat.mul_le_mul hn h100
    omega
  · intro v' w' k1 k2 k3 k4
    rcases k1.2 with ⟨hv, hn0⟩ | ⟨g', cap', cur, rfl, hrest⟩
    · omega
    · refine h ⟨some ⟨g', 0, none⟩, cap'⟩ w' k1 ?_ ?_
      · rw [← blk_any r n]; exact k2
      · rw [← blk_any r n, ← blk_any ⟨some ⟨g', 0, none⟩, cap'⟩ (n + 1)]; exact k4

theorem Mem.grow_rq {C : Cx} {gt cap base : Nat} {S : Sv} {q : PS} {w W w' wF : World} (hm : Mem C gt cap base S q w) (hW : Below w.heap.size w W) (hg : W.grownBy w' S.rq.blk) {r' : Rw} {x : ByteArray} (hr : OwnR w' base 9 1 r' (q.rq.length + 1) (q.rq.map .string ++ [.string x])) (hat : r'.blk = S.rq.blk ∨ r'.blk = some W.heap.size) (hoff : Off w.heap.size W.heap.size w' wF) (hn : q.rq.length < 40) :
    Mem C gt cap base { S with rq := r' } { q with rq := q.rq ++ [x] } wF ∧ Stp S w { S with rq := r' } wF := by
  have hsz := hW.size
  have hsz2 := hg.size
  have hkeep : ∀ k, k < w.heap.size → S.rq.blk ≠ some k → wF.heap[k]? = w.heap[k]? := fun k hk hne =>
    (hoff.block k (.inl hk)).trans ((hg.block k (by omega) fun e => hne e.symm).trans (hW.block k hk))
  have hnew : OwnR wF base 9 1 r' (q.rq.length + 1) (q.rq.map .string ++ [.string x]) := hr.keep fun k hk => hoff.block k (by
    rcases hat with e | e
    · rw [e] at hk
      exact .inl (hm.own.rq.typed hk).2.1
    · rw [e] at hk
      obtain rfl := Option.some.inj hk
      exact .inr ⟨Nat.le_refl _, (hr.typed e).2.1⟩)
  have hlen : (q.rq ++ [x]).length = q.rq.length + 1 := by simp
  refine ⟨⟨⟨by show OwnR wF base 9 1 r' (q.rq ++ [x]).length _; rw [hlen]; simpa using hnew, hm.own.im.keep fun k hk => hkeep k (hm.own.im.typed hk).2.1 (hm.own.im.ne hm.own.rq (by decide) hk), hm.own.ep.keep fun k hk => hkeep k (hm.own.ep.typed hk).2.1 (hm.own.ep.ne hm.own.rq (by decide) hk), hm.own.st.keep fun k hk => hkeep k (hm.own.st.typed hk).2.1 (hm.own.st.ne hm.own.rq (by decide) hk), hm.own.ex.keep fun k hk => hkeep k (hm.own.ex.typed hk).2.1 (hm.own.ex.ne hm.own.rq (by decide) hk), hm.own.la.keep fun k hk => hkeep k (hm.own.la.typed hk).2.1 (hm.own.la.ne hm.own.rq (by decide) hk), hm.own.apart⟩, ⟨hm.inv.pos, by simp; omega, hm.inv.im, hm.inv.ep, hm.inv.st, hm.inv.ex⟩, ownT_keep hm.tok (hkeep gt (ownT_lt hm.tok).1 fun e => hm.gt_free (.inl e)), hm.few, Nat.le_trans hm.base (by have := hoff.size; omega)⟩, ?_⟩
  refine ⟨hoff.os.trans (hg.os.trans hW.os), hoff.tape.trans (hg.tape.trans hW.tape), hoff.output.trans (hg.output.trans hW.output), Nat.le_trans (Nat.le_trans hsz hsz2) hoff.size, fun k hk hn => hkeep k hk fun e => hn (.inl e), fun k hk => ?_⟩
  rcases hk with h | h | h | h | h | h
  · exact hat.elim (fun e => .inl (.inl (e.symm.trans h))) fun e => .inr (by have : W.heap.size = k := Option.some.inj (e.symm.trans h); omega)
  · exact .inl (.inr (.inl h))
  · exact .inl (.inr (.inr (.inl h)))
  · exact .inl (.inr (.inr (.inr (.inl h))))
  · exact .inl (.inr (.inr (.inr (.inr (.inl h)))))
  · exact .inl (.inr (.inr (.inr (.inr (.inr h)))))
theorem Mem.grow_im {C : Cx} {gt cap base : Nat} {S : Sv} {q : PS} {w W w' wF : World} (hm : Mem C gt cap base S q w) (hW : Below w.heap.size w W) (hg : W.grownBy w' S.im.blk) {r' : Rw} {x : Im} (hr : OwnR w' base 100 3 r' (q.im.length + 1) (q.im.flatMap imL ++ imL x)) (hat : r'.blk = S.im.blk ∨ r'.blk = some W.heap.size) (hoff : Off w.heap.size W.heap.size w' wF) (hn : q.im.length < 40) :
    Mem C gt cap base { S with im := r' } { q with im := q.im ++ [x] } wF ∧ Stp S w { S with im := r' } wF := by
  have hsz := hW.size
  have hsz2 := hg.size
  have hkeep : ∀ k, k < w.heap.size → S.im.blk ≠ some k → wF.heap[k]? = w.heap[k]? := fun k hk hne =>
    (hoff.block k (.inl hk)).trans ((hg.block k (by omega) fun e => hne e.symm).trans (hW.block k hk))
  have hnew : OwnR wF base 100 3 r' (q.im.length + 1) (q.im.flatMap imL ++ imL x) := hr.keep fun k hk => hoff.block k (by
    rcases hat with e | e
    · rw [e] at hk
      exact .inl (hm.own.im.typed hk).2.1
    · rw [e] at hk
      obtain rfl := Option.some.inj hk
      exact .inr ⟨Nat.le_refl _, (hr.typed e).2.1⟩)
  have hlen : (q.im ++ [x]).length = q.im.length + 1 := by simp
  refine ⟨⟨⟨hm.own.rq.keep fun k hk => hkeep k (hm.own.rq.typed hk).2.1 (hm.own.rq.ne hm.own.im (by decide) hk), by show OwnR wF base 100 3 r' (q.im ++ [x]).length _; rw [hlen]; simpa using hnew, hm.own.ep.keep fun k hk => hkeep k (hm.own.ep.typed hk).2.1 (hm.own.ep.ne hm.own.im (by decide) hk), hm.own.st.keep fun k hk => hkeep k (hm.own.st.typed hk).2.1 (hm.own.st.ne hm.own.im (by decide) hk), hm.own.ex.keep fun k hk => hkeep k (hm.own.ex.typed hk).2.1 (hm.own.ex.ne hm.own.im (by decide) hk), hm.own.la.keep fun k hk => hkeep k (hm.own.la.typed hk).2.1 (hm.own.la.ne hm.own.im (by decide) hk), hm.own.apart⟩, ⟨hm.inv.pos, hm.inv.rq, by simp; omega, hm.inv.ep, hm.inv.st, hm.inv.ex⟩, ownT_keep hm.tok (hkeep gt (ownT_lt hm.tok).1 fun e => hm.gt_free (.inr (.inl e))), hm.few, Nat.le_trans hm.base (by have := hoff.size; omega)⟩, ?_⟩
  refine ⟨hoff.os.trans (hg.os.trans hW.os), hoff.tape.trans (hg.tape.trans hW.tape), hoff.output.trans (hg.output.trans hW.output), Nat.le_trans (Nat.le_trans hsz hsz2) hoff.size, fun k hk hn => hkeep k hk fun e => hn (.inr (.inl e)), fun k hk => ?_⟩
  rcases hk with h | h | h | h | h | h
  · exact .inl (.inl h)
  · exact hat.elim (fun e => .inl (.inr (.inl (e.symm.trans h)))) fun e => .inr (by have : W.heap.size = k := Option.some.inj (e.symm.trans h); omega)
  · exact .inl (.inr (.inr (.inl h)))
  · exact .inl (.inr (.inr (.inr (.inl h))))
  · exact .inl (.inr (.inr (.inr (.inr (.inl h)))))
  · exact .inl (.inr (.inr (.inr (.inr (.inr h)))))
theorem Mem.grow_ep {C : Cx} {gt cap base : Nat} {S : Sv} {q : PS} {w W w' wF : World} (hm : Mem C gt cap base S q w) (hW : Below w.heap.size w W) (hg : W.grownBy w' S.ep.blk) {r' : Rw} {x : Ep} (hr : OwnR w' base 102 4 r' (q.ep.length + 1) (q.ep.flatMap epL ++ epL x)) (hat : r'.blk = S.ep.blk ∨ r'.blk = some W.heap.size) (hoff : Off w.heap.size W.heap.size w' wF) (hn : q.ep.length + q.la.length < 40) :
    Mem C gt cap base { S with ep := r' } { q with ep := q.ep ++ [x] } wF ∧ Stp S w { S with ep := r' } wF := by
  have hsz := hW.size
  have hsz2 := hg.size
  have hkeep : ∀ k, k < w.heap.size → S.ep.blk ≠ some k → wF.heap[k]? = w.heap[k]? := fun k hk hne =>
    (hoff.block k (.inl hk)).trans ((hg.block k (by omega) fun e => hne e.symm).trans (hW.block k hk))
  have hnew : OwnR wF base 102 4 r' (q.ep.length + 1) (q.ep.flatMap epL ++ epL x) := hr.keep fun k hk => hoff.block k (by
    rcases hat with e | e
    · rw [e] at hk
      exact .inl (hm.own.ep.typed hk).2.1
    · rw [e] at hk
      obtain rfl := Option.some.inj hk
      exact .inr ⟨Nat.le_refl _, (hr.typed e).2.1⟩)
  have hlen : (q.ep ++ [x]).length = q.ep.length + 1 := by simp
  refine ⟨⟨⟨hm.own.rq.keep fun k hk => hkeep k (hm.own.rq.typed hk).2.1 (hm.own.rq.ne hm.own.ep (by decide) hk), hm.own.im.keep fun k hk => hkeep k (hm.own.im.typed hk).2.1 (hm.own.im.ne hm.own.ep (by decide) hk), by show OwnR wF base 102 4 r' (q.ep ++ [x]).length _; rw [hlen]; simpa using hnew, hm.own.st.keep fun k hk => hkeep k (hm.own.st.typed hk).2.1 (hm.own.st.ne hm.own.ep (by decide) hk), hm.own.ex.keep fun k hk => hkeep k (hm.own.ex.typed hk).2.1 (hm.own.ex.ne hm.own.ep (by decide) hk), hm.own.la.keep fun k hk => hkeep k (hm.own.la.typed hk).2.1 (fun e => hm.own.apart k e hk), fun k hk hl => hat.elim (fun e => hm.own.apart k (by rw [← e]; exact hk) hl) fun e => by have h1 := (hm.own.la.typed hl).2.1; have h2 : W.heap.size = k := Option.some.inj (e.symm.trans hk); omega⟩, ⟨hm.inv.pos, hm.inv.rq, hm.inv.im, by have := hm.inv.ep; simp; omega, hm.inv.st, hm.inv.ex⟩, ownT_keep hm.tok (hkeep gt (ownT_lt hm.tok).1 fun e => hm.gt_free (.inr (.inr (.inl e)))), hm.few, Nat.le_trans hm.base (by have := hoff.size; omega)⟩, ?_⟩
  refine ⟨hoff.os.trans (hg.os.trans hW.os), hoff.tape.trans (hg.tape.trans hW.tape), hoff.output.trans (hg.output.trans hW.output), Nat.le_trans (Nat.le_trans hsz hsz2) hoff.size, fun k hk hn => hkeep k hk fun e => hn (.inr (.inr (.inl e))), fun k hk => ?_⟩
  rcases hk with h | h | h | h | h | h
  · exact .inl (.inl h)
  · exact .inl (.inr (.inl h))
  · exact hat.elim (fun e => .inl (.inr (.inr (.inl (e.symm.trans h))))) fun e => .inr (by have : W.heap.size = k := Option.some.inj (e.symm.trans h); omega)
  · exact .inl (.inr (.inr (.inr (.inl h))))
  · exact .inl (.inr (.inr (.inr (.inr (.inl h)))))
  · exact .inl (.inr (.inr (.inr (.inr (.inr h)))))
theorem Mem.grow_st {C : Cx} {gt cap base : Nat} {S : Sv} {q : PS} {w W w' wF : World} (hm : Mem C gt cap base S q w) (hW : Below w.heap.size w W) (hg : W.grownBy w' S.st.blk) {r' : Rw} {x : Sm} (hr : OwnR w' base 106 3 r' (q.st.length + 1) (q.st.flatMap smL ++ smL x)) (hat : r'.blk = S.st.blk ∨ r'.blk = some W.heap.size) (hoff : Off w.heap.size W.heap.size w' wF) (hn : q.st.length < 80) :
    Mem C gt cap base { S with st := r' } { q with st := q.st ++ [x] } wF ∧ Stp S w { S with st := r' } wF := by
  have hsz := hW.size
  have hsz2 := hg.size
  have hkeep : ∀ k, k < w.heap.size → S.st.blk ≠ some k → wF.heap[k]? = w.heap[k]? := fun k hk hne =>
    (hoff.block k (.inl hk)).trans ((hg.block k (by omega) fun e => hne e.symm).trans (hW.block k hk))
  have hnew : OwnR wF base 106 3 r' (q.st.length + 1) (q.st.flatMap smL ++ smL x) := hr.keep fun k hk => hoff.block k (by
    rcases hat with e | e
    · rw [e] at hk
      exact .inl (hm.own.st.typed hk).2.1
    · rw [e] at hk
      obtain rfl := Option.some.inj hk
      exact .inr ⟨Nat.le_refl _, (hr.typed e).2.1⟩)
  have hlen : (q.st ++ [x]).length = q.st.length + 1 := by simp
  refine ⟨⟨⟨hm.own.rq.keep fun k hk => hkeep k (hm.own.rq.typed hk).2.1 (hm.own.rq.ne hm.own.st (by decide) hk), hm.own.im.keep fun k hk => hkeep k (hm.own.im.typed hk).2.1 (hm.own.im.ne hm.own.st (by decide) hk), hm.own.ep.keep fun k hk => hkeep k (hm.own.ep.typed hk).2.1 (hm.own.ep.ne hm.own.st (by decide) hk), by show OwnR wF base 106 3 r' (q.st ++ [x]).length _; rw [hlen]; simpa using hnew, hm.own.ex.keep fun k hk => hkeep k (hm.own.ex.typed hk).2.1 (hm.own.ex.ne hm.own.st (by decide) hk), hm.own.la.keep fun k hk => hkeep k (hm.own.la.typed hk).2.1 (hm.own.la.ne hm.own.st (by decide) hk), hm.own.apart⟩, ⟨hm.inv.pos, hm.inv.rq, hm.inv.im, hm.inv.ep, by simp; omega, hm.inv.ex⟩, ownT_keep hm.tok (hkeep gt (ownT_lt hm.tok).1 fun e => hm.gt_free (.inr (.inr (.inr (.inl e))))), hm.few, Nat.le_trans hm.base (by have := hoff.size; omega)⟩, ?_⟩
  refine ⟨hoff.os.trans (hg.os.trans hW.os), hoff.tape.trans (hg.tape.trans hW.tape), hoff.output.trans (hg.output.trans hW.output), Nat.le_trans (Nat.le_trans hsz hsz2) hoff.size, fun k hk hn => hkeep k hk fun e => hn (.inr (.inr (.inr (.inl e)))), fun k hk => ?_⟩
  rcases hk with h | h | h | h | h | h
  · exact .inl (.inl h)
  · exact .inl (.inr (.inl h))
  · exact .inl (.inr (.inr (.inl h)))
  · exact hat.elim (fun e => .inl (.inr (.inr (.inr (.inl (e.symm.trans h)))))) fun e => .inr (by have : W.heap.size = k := Option.some.inj (e.symm.trans h); omega)
  · exact .inl (.inr (.inr (.inr (.inr (.inl h)))))
  · exact .inl (.inr (.inr (.inr (.inr (.inr h)))))
theorem Mem.grow_ex {C : Cx} {gt cap base : Nat} {S : Sv} {q : PS} {w W w' wF : World} (hm : Mem C gt cap base S q w) (hW : Below w.heap.size w W) (hg : W.grownBy w' S.ex.blk) {r' : Rw} {x : Ex} (hr : OwnR w' base 108 6 r' (q.ex.length + 1) (q.ex.flatMap exL ++ exL x)) (hat : r'.blk = S.ex.blk ∨ r'.blk = some W.heap.size) (hoff : Off w.heap.size W.heap.size w' wF) (hn : q.ex.length < 300) :
    Mem C gt cap base { S with ex := r' } { q with ex := q.ex ++ [x] } wF ∧ Stp S w { S with ex := r' } wF := by
  have hsz := hW.size
  have hsz2 := hg.size
  have hkeep : ∀ k, k < w.heap.size → S.ex.blk ≠ some k → wF.heap[k]? = w.heap[k]? := fun k hk hne =>
    (hoff.block k (.inl hk)).trans ((hg.block k (by omega) fun e => hne e.symm).trans (hW.block k hk))
  have hnew : OwnR wF base 108 6 r' (q.ex.length + 1) (q.ex.flatMap exL ++ exL x) := hr.keep fun k hk => hoff.block k (by
    rcases hat with e | e
    · rw [e] at hk
      exact .inl (hm.own.ex.typed hk).2.1
    · rw [e] at hk
      obtain rfl := Option.some.inj hk
      exact .inr ⟨Nat.le_refl _, (hr.typed e).2.1⟩)
  have hlen : (q.ex ++ [x]).length = q.ex.length + 1 := by simp
  refine ⟨⟨⟨hm.own.rq.keep fun k hk => hkeep k (hm.own.rq.typed hk).2.1 (hm.own.rq.ne hm.own.ex (by decide) hk), hm.own.im.keep fun k hk => hkeep k (hm.own.im.typed hk).2.1 (hm.own.im.ne hm.own.ex (by decide) hk), hm.own.ep.keep fun k hk => hkeep k (hm.own.ep.typed hk).2.1 (hm.own.ep.ne hm.own.ex (by decide) hk), hm.own.st.keep fun k hk => hkeep k (hm.own.st.typed hk).2.1 (hm.own.st.ne hm.own.ex (by decide) hk), by show OwnR wF base 108 6 r' (q.ex ++ [x]).length _; rw [hlen]; simpa using hnew, hm.own.la.keep fun k hk => hkeep k (hm.own.la.typed hk).2.1 (hm.own.la.ne hm.own.ex (by decide) hk), hm.own.apart⟩, ⟨hm.inv.pos, hm.inv.rq, hm.inv.im, hm.inv.ep, hm.inv.st, by simp; omega⟩, ownT_keep hm.tok (hkeep gt (ownT_lt hm.tok).1 fun e => hm.gt_free (.inr (.inr (.inr (.inr (.inl e)))))), hm.few, Nat.le_trans hm.base (by have := hoff.size; omega)⟩, ?_⟩
  refine ⟨hoff.os.trans (hg.os.trans hW.os), hoff.tape.trans (hg.tape.trans hW.tape), hoff.output.trans (hg.output.trans hW.output), Nat.le_trans (Nat.le_trans hsz hsz2) hoff.size, fun k hk hn => hkeep k hk fun e => hn (.inr (.inr (.inr (.inr (.inl e))))), fun k hk => ?_⟩
  rcases hk with h | h | h | h | h | h
  · exact .inl (.inl h)
  · exact .inl (.inr (.inl h))
  · exact .inl (.inr (.inr (.inl h)))
  · exact .inl (.inr (.inr (.inr (.inl h))))
  · exact hat.elim (fun e => .inl (.inr (.inr (.inr (.inr (.inl (e.symm.trans h))))))) fun e => .inr (by have : W.heap.size = k := Option.some.inj (e.symm.trans h); omega)
  · exact .inl (.inr (.inr (.inr (.inr (.inr h)))))
theorem Mem.grow_la {C : Cx} {gt cap base : Nat} {S : Sv} {q : PS} {w W w' wF : World} (hm : Mem C gt cap base S q w) (hW : Below w.heap.size w W) (hg : W.grownBy w' S.la.blk) {r' : Rw} {x : Ep} (hr : OwnR w' base 102 4 r' (q.la.length + 1) (q.la.flatMap epL ++ epL x)) (hat : r'.blk = S.la.blk ∨ r'.blk = some W.heap.size) (hoff : Off w.heap.size W.heap.size w' wF) (hn : q.ep.length + q.la.length < 40) :
    Mem C gt cap base { S with la := r' } { q with la := q.la ++ [x] } wF ∧ Stp S w { S with la := r' } wF := by
  have hsz := hW.size
  have hsz2 := hg.size
  have hkeep : ∀ k, k < w.heap.size → S.la.blk ≠ some k → wF.heap[k]? = w.heap[k]? := fun k hk hne =>
    (hoff.block k (.inl hk)).trans ((hg.block k (by omega) fun e => hne e.symm).trans (hW.block k hk))
  have hnew : OwnR wF base 102 4 r' (q.la.length + 1) (q.la.flatMap epL ++ epL x) := hr.keep fun k hk => hoff.block k (by
    rcases hat with e | e
    · rw [e] at hk
      exact .inl (hm.own.la.typed hk).2.1
    · rw [e] at hk
      obtain rfl := Option.some.inj hk
      exact .inr ⟨Nat.le_refl _, (hr.typed e).2.1⟩)
  have hlen : (q.la ++ [x]).length = q.la.length + 1 := by simp
  refine ⟨⟨⟨hm.own.rq.keep fun k hk => hkeep k (hm.own.rq.typed hk).2.1 (hm.own.rq.ne hm.own.la (by decide) hk), hm.own.im.keep fun k hk => hkeep k (hm.own.im.typed hk).2.1 (hm.own.im.ne hm.own.la (by decide) hk), hm.own.ep.keep fun k hk => hkeep k (hm.own.ep.typed hk).2.1 (fun e => hm.own.apart k hk e), hm.own.st.keep fun k hk => hkeep k (hm.own.st.typed hk).2.1 (hm.own.st.ne hm.own.la (by decide) hk), hm.own.ex.keep fun k hk => hkeep k (hm.own.ex.typed hk).2.1 (hm.own.ex.ne hm.own.la (by decide) hk), by show OwnR wF base 102 4 r' (q.la ++ [x]).length _; rw [hlen]; simpa using hnew, fun k hk hl => hat.elim (fun e => hm.own.apart k hk (by rw [← e]; exact hl)) fun e => by have h1 := (hm.own.ep.typed hk).2.1; have h2 : W.heap.size = k := Option.some.inj (e.symm.trans hl); omega⟩, ⟨hm.inv.pos, hm.inv.rq, hm.inv.im, by have := hm.inv.ep; simp; omega, hm.inv.st, hm.inv.ex⟩, ownT_keep hm.tok (hkeep gt (ownT_lt hm.tok).1 fun e => hm.gt_free (.inr (.inr (.inr (.inr (.inr e)))))), hm.few, Nat.le_trans hm.base (by have := hoff.size; omega)⟩, ?_⟩
  refine ⟨hoff.os.trans (hg.os.trans hW.os), hoff.tape.trans (hg.tape.trans hW.tape), hoff.output.trans (hg.output.trans hW.output), Nat.le_trans (Nat.le_trans hsz hsz2) hoff.size, fun k hk hn => hkeep k hk fun e => hn (.inr (.inr (.inr (.inr (.inr e))))), fun k hk => ?_⟩
  rcases hk with h | h | h | h | h | h
  · exact .inl (.inl h)
  · exact .inl (.inr (.inl h))
  · exact .inl (.inr (.inr (.inl h)))
  · exact .inl (.inr (.inr (.inr (.inl h))))
  · exact .inl (.inr (.inr (.inr (.inr (.inl h)))))
  · exact hat.elim (fun e => .inl (.inr (.inr (.inr (.inr (.inr (e.symm.trans h))))))) fun e => .inr (by have : W.heap.size = k := Option.some.inj (e.symm.trans h); omega)
end Go.Proofs.YticdggnnpjachaaGreat
namespace Go.Proofs.YticdggnnpjachaaGreat
open Go.RowKit Go.PlainAid

def Is (x : PR) (q : PS) (z : Int) : Prop :=
  match x with
  | .ok q0 => q = q0 ∧ z = -1
  | .error e => z = (e : Int)
theorem is_ok (q : PS) : Is (.ok q) q (-1) := ⟨rfl, rfl⟩
theorem is_neg {x : PR} {q : PS} {z : Int} (h : Is x q z) (hz : z < 0) : x = .ok q ∧ z = -1 := by
  cases x with
  | ok q0 => obtain ⟨rfl, rfl⟩ := h; exact ⟨rfl, rfl⟩
  | error e => have : z = (e : Int) := h; omega
theorem is_bad {x : PR} {q : PS} {z : Int} (h : Is x q z) (hz : ¬ z < 0) : ∃ e, x = .error e ∧ z = (e : Int) := by
  cases x with
  | ok q0 => obtain ⟨rfl, rfl⟩ := h; exact absurd (by decide) hz
  | error e => exact ⟨e, rfl, h⟩
def Out (C : Cx) (gt cap base : Nat) (y : PR) (d : Nat) (S : Sv) (w : World) (e : Ending) (w' : World) : Prop :=
  ∃ S' q' z', e = .returned (pv C gt cap S' q' z' d) ∧ Is y q' z' ∧ Mem C gt cap base S' q' w' ∧ Stp S w S' w'
theorem out_below {C : Cx} {gt cap base : Nat} {y : PR} {d : Nat} {S : Sv} {w w' : World} {q' : PS} {z' : Int} {v : Value} (hv : v = pv C gt cap S q' z' d) (hi : Is y q' z') (hm : Mem C gt cap base S q' w) (hb : Below w.heap.size w w') : Out C gt cap base y d S w (.returned v) w' :=
  ⟨S, q', z', by rw [hv], hi, hm.later hb, Stp.below hb⟩

set_option maxRecDepth 100000 in
set_option maxHeartbeats 1600000 in
theorem l4Full_spec (C : Cx) (gt cap base : Nat) (S : Sv) (q : PS) (z : Int) (d : Nat) (w : World) (hm : Mem C gt cap base S q w) (hz : z < 0) (hp : 1 ≤ q.pos) :
    Calls Tryz.prog 138 #[pv C gt cap S q z d] w fun e w' => e = .returned (pv C gt cap S q (here C (q.pos - 1)) d) ∧ Below w.heap.size w w' := by
  obtain ⟨p, hp1⟩ : ∃ p, q.pos = p + 1 := ⟨q.pos - 1, by omega⟩
  have hlt : p < C.ts.length := by have := hm.inv.pos; omega
  have hfew := hm.few
  obtain ⟨_, _, _, c3⟩ := hm.tok.cells hlt (d := ⟨0, sNone, 0, C.fin⟩)
  have hglt := (ownT_lt hm.tok).1
  change _ = some (Value.int .i64 (here C p)) at c3
  rw [show q.pos - 1 = p from by omega]
  have hpi : (q.pos : Int) - 1 = p := by omega
  clear hp1
  unfold pv
  go_enter Tryz.func138, Tryz.ntmps138
  go_wp2
  refine bodyPost_ret (results_cell_row rfl _ _ (w.heap.size + 1) 53 _ (0, 0) _ rfl (new2 w _ _) Tryz.underlying53 rfl (by kernel_rfl)) rfl ?_
  exact ⟨rfl, below2 w _ _⟩

set_option maxRecDepth 100000 in
set_option maxHeartbeats 1600000 in
theorem l4Sign_spec (C : Cx) (gt cap base : Nat) (x : PR) (S : Sv) (q : PS) (z : Int) (d : Nat) (s : ByteArray) (w : World) (hx : Is x q z) (hm : Mem C gt cap base S q w) :
    Calls Tryz.prog 74 #[pv C gt cap S q z d, .string s] w (Out C gt cap base (bd x (tokP C 4 s)) d S w) := by
  have HM := hidI hm
  have htok := hm.tok
  have hfew := hm.few
  have HX := hidI hx
  clear hx hm
  cases hi : (decide (z < 0) && isT C q.pos 4 s) with
  | true =>
    have hlt : q.pos < C.ts.length := by rw [Bool.and_eq_true] at hi; exact isT_lt hi.2 (by decide)
    have HY : Hid (Is (bd x (tokP C 4 s)) (adv q) z) := by
      rw [Bool.and_eq_true, decide_eq_true_eq] at hi
      obtain ⟨h1, h2⟩ := is_neg HX.out hi.1
      show Is (bd x (tokP C 4 s)) (adv q) z
      rw [h1, bd_ok, tokP, if_pos hi.2]
      exact ⟨rfl, h2⟩
    unfold pv
    go_enter Tryz.func74, Tryz.ntmps74
    go_wp2_with fail
    refine (is_spec C gt cap base S q z d 4 s _ (ownT_alloc (ownT_alloc htok _) _) hfew (by decide)).mono ?_
    rintro e w1 ⟨rfl, hb⟩
    rw [hi]
    obtain ⟨g1, g2⟩ := two_new hb
    obtain ⟨a0, a1, a2, a3, a4, a5, a6, a7, a8, a9, a10, a11, af⟩ := box_of g1
    obtain ⟨b0, b1, b2, b3, b4, b5, b6, b7, b8, b9, b10, b11, bf⟩ := box_of g2
    have G2 := hidI g2
    clear g1 g2 hi
    go_wp2
    refine bodyPost_ret (results_cell_row rfl _ _ (w.heap.size + 1) 53 _ (0, 0) _ rfl (put12 ((pother (by omega)).trans G2.out)) Tryz.underlying53 rfl (by kernel_rfl)) rfl ?_
    exact out_below rfl HY.out (HM.out.adv hlt) (below12 ((two_below hb).setCell (Nat.le_refl _) _) (Nat.le_succ _) _ _ _ _ _ _ _ _ _ _ _ _)
  | false =>
    have HY : Hid (Is (bd x (tokP C 4 s)) q (badOf C q.pos z)) := by
      show Is (bd x (tokP C 4 s)) q (badOf C q.pos z)
      unfold badOf
      by_cases hz : z < 0
      · obtain ⟨h1, h2⟩ := is_neg HX.out hz
        simp only [hz, decide_true, Bool.true_and] at hi
        rw [h1, bd_ok, tokP, hi, if_pos hz]
        rfl
      · obtain ⟨e, h1, h2⟩ := is_bad HX.out hz
        rw [h1, bd_error, if_neg hz]
        exact h2
    unfold pv
    go_enter Tryz.func74, Tryz.ntmps74
    go_wp2_with fail
    refine (is_spec C gt cap base S q z d 4 s _ (ownT_alloc (ownT_alloc htok _) _) hfew (by decide)).mono ?_
    rintro e w1 ⟨rfl, hb⟩
    rw [hi]
    obtain ⟨g1, g2⟩ := two_new hb
    obtain ⟨a0, a1, a2, a3, a4, a5, a6, a7, a8, a9, a10, a11, af⟩ := box_of g1
    obtain ⟨b0, b1, b2, b3, b4, b5, b6, b7, b8, b9, b10, b11, bf⟩ := box_of g2
    have G2 := hidI g2
    have htok1 := ownT_later htok (two_below hb)
    clear g1 g2 hi
    go_wp2_with fail
    refine (fail_spec C gt cap base S q z d _ htok1 hfew).mono ?_
    rintro e w2 ⟨rfl, hb2⟩
    have G3 : Hid (_ = _) := (hb2.block _ (Nat.lt_of_lt_of_le (by simp) hb.size)).trans G2.out
    obtain ⟨c0, c1, c2, c3, c4, c5, c6, c7, c8, c9, c10, c11, cf⟩ := box_of G3.out
    have hbb := (two_below hb).trans (hb2.mono (two_below hb).size)
    clear a0 a1 a2 a3 a4 a5 a6 a7 a8 a9 a10 a11 b0 b1 b2 b3 b4 b5 b6 b7 b8 b9 b10 b11 af bf
    unfold pv
    go_wp2
    refine bodyPost_ret (results_cell_row rfl _ _ (w.heap.size + 1) 53 _ (0, 0) _ rfl (put12 G3.out) Tryz.underlying53 rfl (by kernel_rfl)) rfl ?_
    exact out_below rfl HY.out HM.out (below12 hbb (Nat.le_succ _) _ _ _ _ _ _ _ _ _ _ _ _)
-- GEN
set_option maxRecDepth 100000 in
set_option maxHeartbeats 1600000 in
theorem l4Word_spec (C : Cx) (gt cap base : Nat) (x : PR) (S : Sv) (q : PS) (z : Int) (d : Nat) (s : ByteArray) (w : World) (hx : Is x q z) (hm : Mem C gt cap base S q w) :
    Calls Tryz.prog 76 #[pv C gt cap S q z d, .string s] w (Out C gt cap base (bd x (tokP C 1 s)) d S w) := by
  have HM := hidI hm
  have htok := hm.tok
  have hfew := hm.few
  have HX := hidI hx
  clear hx hm
  cases hi : (decide (z < 0) && isT C q.pos 1 s) with
  | true =>
    have hlt : q.pos < C.ts.length := by rw [Bool.and_eq_true] at hi; exact isT_lt hi.2 (by decide)
    have HY : Hid (Is (bd x (tokP C 1 s)) (adv q) z) := by
      rw [Bool.and_eq_true, decide_eq_true_eq] at hi
      obtain ⟨h1, h2⟩ := is_neg HX.out hi.1
      show Is (bd x (tokP C 1 s)) (adv q) z
      rw [h1, bd_ok, tokP, if_pos hi.2]
      exact ⟨rfl, h2⟩
    unfold pv
    go_enter Tryz.func76, Tryz.ntmps76
    go_wp2_with fail
    refine (is_spec C gt cap base S q z d 1 s _ (ownT_alloc (ownT_alloc htok _) _) hfew (by decide)).mono ?_
    rintro e w1 ⟨rfl, hb⟩
    rw [hi]
    obtain ⟨g1, g2⟩ := two_new hb
    obtain ⟨a0, a1, a2, a3, a4, a5, a6, a7, a8, a9, a10, a11, af⟩ := box_of g1
    obtain ⟨b0, b1, b2, b3, b4, b5, b6, b7, b8, b9, b10, b11, bf⟩ := box_of g2
    have G2 := hidI g2
    clear g1 g2 hi
    go_wp2
    refine bodyPost_ret (results_cell_row rfl _ _ (w.heap.size + 1) 53 _ (0, 0) _ rfl (put12 ((pother (by omega)).trans G2.out)) Tryz.underlying53 rfl (by kernel_rfl)) rfl ?_
    exact out_below rfl HY.out (HM.out.adv hlt) (below12 ((two_below hb).setCell (Nat.le_refl _) _) (Nat.le_succ _) _ _ _ _ _ _ _ _ _ _ _ _)
  | false =>
    have HY : Hid (Is (bd x (tokP C 1 s)) q (badOf C q.pos z)) := by
      show Is (bd x (tokP C 1 s)) q (badOf C q.pos z)
      unfold badOf
      by_cases hz : z < 0
      · obtain ⟨h1, h2⟩ := is_neg HX.out hz
        simp only [hz, decide_true, Bool.true_and] at hi
        rw [h1, bd_ok, tokP, hi, if_pos hz]
        rfl
      · obtain ⟨e, h1, h2⟩ := is_bad HX.out hz
        rw [h1, bd_error, if_neg hz]
        exact h2
    unfold pv
    go_enter Tryz.func76, Tryz.ntmps76
    go_wp2_with fail
    refine (is_spec C gt cap base S q z d 1 s _ (ownT_alloc (ownT_alloc htok _) _) hfew (by decide)).mono ?_
    rintro e w1 ⟨rfl, hb⟩
    rw [hi]
    obtain ⟨g1, g2⟩ := two_new hb
    obtain ⟨a0, a1, a2, a3, a4, a5, a6, a7, a8, a9, a10, a11, af⟩ := box_of g1
    obtain ⟨b0, b1, b2, b3, b4, b5, b6, b7, b8, b9, b10, b11, bf⟩ := box_of g2
    have G2 := hidI g2
    have htok1 := ownT_later htok (two_below hb)
    clear g1 g2 hi
    go_wp2_with fail
    refine (fail_spec C gt cap base S q z d _ htok1 hfew).mono ?_
    rintro e w2 ⟨rfl, hb2⟩
    have G3 : Hid (_ = _) := (hb2.block _ (Nat.lt_of_lt_of_le (by simp) hb.size)).trans G2.out
    obtain ⟨c0, c1, c2, c3, c4, c5, c6, c7, c8, c9, c10, c11, cf⟩ := box_of G3.out
    have hbb := (two_below hb).trans (hb2.mono (two_below hb).size)
    clear a0 a1 a2 a3 a4 a5 a6 a7 a8 a9 a10 a11 b0 b1 b2 b3 b4 b5 b6 b7 b8 b9 b10 b11 af bf
    unfold pv
    go_wp2
    refine bodyPost_ret (results_cell_row rfl _ _ (w.heap.size + 1) 53 _ (0, 0) _ rfl (put12 G3.out) Tryz.underlying53 rfl (by kernel_rfl)) rfl ?_
    exact out_below rfl HY.out HM.out (below12 hbb (Nat.le_succ _) _ _ _ _ _ _ _ _ _ _ _ _)

set_option maxRecDepth 100000 in
set_option maxHeartbeats 3200000 in
theorem l4Reserved_spec (s : ByteArray) (scr : Bool) (w : World) :
    Calls Tryz.prog 166 #[.string s, .bool scr] w fun e w' => e = .returned (.bool (resB s scr)) ∧ w' = w := by
  cases e0 : (s.toList == [105, 109, 112, 111, 114, 116]) with
  | true =>
    have HV : Hid (resB s scr = true) := by show resB s scr = true; simp [resB, e0]
    go_enter Tryz.func166, Tryz.ntmps166
    go_wp2
    go_ret
    exact ⟨ret_bool HV.out.symm, rfl⟩
  | false =>
    cases e1 : (s.toList == [101, 120, 112, 111, 114, 116]) with
    | true =>
      have HV : Hid (resB s scr = true) := by show resB s scr = true; simp [resB, e0, e1]
      go_enter Tryz.func166, Tryz.ntmps166
      go_wp2
      go_ret
      exact ⟨ret_bool HV.out.symm, rfl⟩
    | false =>
      cases e2 : (s.toList == [100, 101, 102, 97, 117, 108, 116]) with
      | true =>
        have HV : Hid (resB s scr = true) := by show resB s scr = true; simp [resB, e0, e1, e2]
        go_enter Tryz.func166, Tryz.ntmps166
        go_wp2
        go_ret
        exact ⟨ret_bool HV.out.symm, rfl⟩
      | false =>
        cases e3 : (s.toList == [108, 101, 116]) with
        | true =>
          have HV : Hid (resB s scr = true) := by show resB s scr = true; simp [resB, e0, e1, e2, e3]
          go_enter Tryz.func166, Tryz.ntmps166
          go_wp2
          go_ret
          exact ⟨ret_bool HV.out.symm, rfl⟩
        | false =>
          cases e4 : (s.toList == [102, 117, 110, 99, 116, 105, 111, 110]) with
          | true =>
            have HV : Hid (resB s scr = true) := by show resB s scr = true; simp [resB, e0, e1, e2, e3, e4]
            go_enter Tryz.func166, Tryz.ntmps166
            go_wp2
            go_ret
            exact ⟨ret_bool HV.out.symm, rfl⟩
          | false =>
            cases e5 : (s.toList == [114, 101, 116, 117, 114, 110]) with
            | true =>
              have HV : Hid (resB s scr = true) := by show resB s scr = true; simp [resB, e0, e1, e2, e3, e4, e5]
              go_enter Tryz.func166, Tryz.ntmps166
              go_wp2
              go_ret
              exact ⟨ret_bool HV.out.symm, rfl⟩
            | false =>
              cases e6 : (s.toList == [112, 114, 105, 110, 116]) with
              | true =>
                have HV : Hid (resB s scr = true) := by show resB s scr = true; simp [resB, e0, e1, e2, e3, e4, e5, e6]
                go_enter Tryz.func166, Tryz.ntmps166
                go_wp2
                go_ret
                exact ⟨ret_bool HV.out.symm, rfl⟩
              | false =>
                cases e7 : (s.toList == [116, 104, 114, 111, 119]) with
                | true =>
                  have HV : Hid (resB s scr = true) := by show resB s scr = true; simp [resB, e0, e1, e2, e3, e4, e5, e6, e7]
                  go_enter Tryz.func166, Tryz.ntmps166
                  go_wp2
                  go_ret
                  exact ⟨ret_bool HV.out.symm, rfl⟩
                | false =>
                  cases e8 : (s.toList == [102, 97, 105, 108]) with
                  | true =>
                    have HV : Hid (resB s scr = scr) := by show resB s scr = scr; simp [resB, e0, e1, e2, e3, e4, e5, e6, e7, e8]
                    go_enter Tryz.func166, Tryz.ntmps166
                    go_wp2
                    go_ret
                    exact ⟨ret_bool HV.out.symm, rfl⟩
                  | false =>
                    cases e9 : (s.toList == [117, 110, 100, 101, 102]) with
                    | true =>
                      have HV : Hid (resB s scr = scr) := by show resB s scr = scr; simp [resB, e0, e1, e2, e3, e4, e5, e6, e7, e8, e9]
                      go_enter Tryz.func166, Tryz.ntmps166
                      go_wp2
                      go_ret
                      exact ⟨ret_bool HV.out.symm, rfl⟩
                    | false =>
                      have HV : Hid (resB s scr = false) := by show resB s scr = false; simp [resB, e0, e1, e2, e3, e4, e5, e6, e7, e8, e9]
                      go_enter Tryz.func166, Tryz.ntmps166
                      go_wp2
                      go_ret
                      exact ⟨ret_bool HV.out.symm, rfl⟩
end Go.Proofs.YticdggnnpjachaaGreat
namespace Go.Proofs.YticdggnnpjachaaGreat
open Go.RowKit Go.PlainAid

abbrev PRN := Except Nat (PS × ByteArray)
def fstP (y : PRN) : PR := bd y fun a => .ok a.1
def withN (y : PRN) (F : PR → ByteArray → PR) : PRN := bd y fun a => bd (F (.ok a.1) a.2) fun q => .ok (q, a.2)
def letP (C : Cx) (q : PS) : PRN := withN (bd (tokP C 1 sLet q) (nameP C false)) fun x n => bd (bd (bd (bd x (tokP C 4 cEq)) (pE C .sum 0)) (tokP C 4 cSemi)) (addSt C 1 n)
def fnP (C : Cx) (q : PS) : PRN :=
  withN (bd (tokP C 1 sFunction q) (nameP C false)) fun x n => bd (bd (bd (bd (bd (bd (bd (bd x (tokP C 4 cOpen)) (tokP C 4 cShut)) (tokP C 4 cLeft)) (tokP C 1 sReturn)) (pE C .sum 0)) (tokP C 4 cSemi)) (tokP C 4 cRight)) (addSt C 2 n)

def asP (C : Cx) (exp : Bool) (a : PS × ByteArray) : PRN :=
  if isT C a.1.pos 1 sAs then nameP C exp (adv a.1)
  else if (a.2.toList == [100, 101, 102, 97, 117, 108, 116]) && !exp then .error (here C a.1.pos) else .ok a
abbrev PRL := Except Nat (PS × List Ep)
def listG (C : Cx) (exp : Bool) : Nat → PS → List Ep → PRL
  | 0, _, _ => .error 0
  | f + 1, q, acc => bd (nameP C true q) fun a => bd (asP C exp a) fun b =>
    if isT C b.1.pos 4 cComma then listG C exp f (adv b.1) (acc ++ [⟨0, b.2, a.2, sNone⟩]) else bd (tokP C 4 cRight b.1) fun q' => .ok (q', acc ++ [⟨0, b.2, a.2, sNone⟩])
def listL (C : Cx) (exp : Bool) (q : PS) (acc : List Ep) : PRL := listG C exp (C.ts.length - q.pos + 1) q acc
def listP (C : Cx) (exp : Bool) (q : PS) : PRL := bd (tokP C 4 cLeft q) fun q' => listL C exp q' []
def anyB (l : List Ep) : Bool := l.any fun x => x.loc.toList == [100, 101, 102, 97, 117, 108, 116]
theorem asP_ok {C : Cx} {exp : Bool} {a b : PS × ByteArray} (h : asP C exp a = .ok b) : a.1.pos ≤ b.1.pos := by
  unfold asP at h
  split at h
  · obtain ⟨rfl, _⟩ := nameP_ok h
    show a.1.pos ≤ a.1.pos + 1 + 1
    omega
  · split at h
    · cases h
    · cases h
      exact Nat.le_refl _
theorem listG_enough {C : Cx} {exp : Bool} (f : Nat) : ∀ (g : Nat) (q : PS) (acc : List Ep), C.ts.length - q.pos < f → C.ts.length - q.pos < g → listG C exp f q acc = listG C exp g q acc := by
  induction f with
  | zero => intro g q acc h; omega
  | succ f ih =>
    intro g q acc h1 h2
    obtain ⟨g, rfl⟩ : ∃ g', g = g' + 1 := ⟨g - 1, by omega⟩
    rw [listG, listG]
    refine bd_congr fun a ha => bd_congr fun b hb => ?_
    split
    · next hc =>
      obtain ⟨rfl, hp⟩ := nameP_ok ha
      have h3 := asP_ok hb
      have h4 := isT_lt hc (by decide)
      have h5 := plain_lt hp
      simp only [adv_pos] at h3
      exact ih g _ _ (by rw [adv_pos]; omega) (by rw [adv_pos]; omega)
    · rfl
theorem listL_step (C : Cx) (exp : Bool) (q : PS) (acc : List Ep) : listL C exp q acc = bd (nameP C true q) fun a => bd (asP C exp a) fun b =>
    if isT C b.1.pos 4 cComma then listL C exp (adv b.1) (acc ++ [⟨0, b.2, a.2, sNone⟩]) else bd (tokP C 4 cRight b.1) fun q' => .ok (q', acc ++ [⟨0, b.2, a.2, sNone⟩]) := by
  rw [listL, listG]
  refine bd_congr fun a ha => bd_congr fun b hb => ?_
  split
  · next hc =>
    obtain ⟨rfl, hp⟩ := nameP_ok ha
    have h3 := asP_ok hb
    have h4 := isT_lt hc (by decide)
    have h5 := plain_lt hp
    simp only [adv_pos] at h3
    exact listG_enough _ _ _ _ (by rw [adv_pos]; omega) (by rw [adv_pos]; omega)
  · rfl

def addAll {α : Type} (f : α → PS → PR) : List α → PR → PR
  | [], x => x
  | a :: l, x => addAll f l (bd x (f a))
def impOf (s : ByteArray) (e : Ep) : Im := ⟨s, e.loc, e.name⟩
def tailS (C : Cx) (x : PR) : PRN := bd (bd x (tokP C 1 sFrom)) (specP C)
def semiN (C : Cx) (y : PRN) : PRN := bd y fun a => bd (tokP C 4 cSemi a.1) fun q => .ok (q, a.2)
def importP (C : Cx) (q : PS) : PR :=
  bd (tokP C 1 sImport q) fun q =>
    if isT C q.pos 4 cLeft then bd (listP C false q) fun a => bd (semiN C (tailS C (.ok a.1))) fun b => addAll (fun e => addIm C (impOf b.2 e)) a.2 (.ok b.1)
    else if isT C q.pos 4 cStar then bd (bd (bd (tokP C 4 cStar q) (tokP C 1 sAs)) (nameP C false)) fun a => bd (semiN C (tailS C (.ok a.1))) fun b => addIm C ⟨b.2, cStar, a.2⟩ b.1
    else if plainB C q.pos false then bd (nameP C false q) fun a => bd (semiN C (tailS C (.ok a.1))) fun b => addIm C ⟨b.2, sDefault, a.2⟩ b.1
    else bd (specP C q) fun a => tokP C 4 cSemi a.1
def expLoc (e : Ep) : Ep := ⟨1, e.name, e.loc, sNone⟩
def expFrom (s : ByteArray) (e : Ep) : Ep := ⟨2, e.name, e.loc, s⟩
def exportP (C : Cx) (q : PS) : PR :=
  bd (tokP C 1 sExport q) fun q =>
    if isT C q.pos 4 cLeft then bd (listP C true q) fun a =>
      if !anyB a.2 && !isT C a.1.pos 1 sFrom then bd (tokP C 4 cSemi a.1) fun q => addAll (fun e => addEp C (expLoc e)) a.2 (.ok q)
      else bd (semiN C (tailS C (.ok a.1))) fun b => addAll (fun e => addEp C (expFrom b.2 e)) a.2 (.ok b.1)
    else if isT C q.pos 4 cStar then bd (semiN C (tailS C (tokP C 4 cStar q))) fun b => addEp C ⟨3, sNone, sNone, b.2⟩ b.1
    else if isT C q.pos 1 sDefault then bd (bd (bd (bd (tokP C 1 sDefault q) (pE C .sum 0)) (tokP C 4 cSemi)) (addSt C 1 sDefName)) (addEp C ⟨1, sDefault, sDefName, sNone⟩)
    else if isT C q.pos 1 sLet then bd (letP C q) fun a => addEp C ⟨1, a.2, a.2, sNone⟩ a.1
    else if isT C q.pos 1 sFunction then bd (fnP C q) fun a => addEp C ⟨1, a.2, a.2, sNone⟩ a.1
    else .error (here C q.pos)
def itemP (C : Cx) (q : PS) : PR :=
  if !C.scr && isT C q.pos 1 sImport then importP C q
  else if !C.scr && isT C q.pos 1 sExport then exportP C q
  else if isT C q.pos 1 sLet then fstP (letP C q)
  else if isT C q.pos 1 sFunction then fstP (fnP C q)
  else if isT C q.pos 1 sPrint then bd (bd (bd (bd (bd (tokP C 1 sPrint q) (tokP C 4 cOpen)) (pE C .sum 0)) (tokP C 4 cShut)) (tokP C 4 cSemi)) (addSt C 4 sNone)
  else if isT C q.pos 1 sThrow then bd (bd (bd (tokP C 1 sThrow q) (pE C .sum 0)) (tokP C 4 cSemi)) (addSt C 5 sNone)
  else if C.scr && isT C q.pos 1 sFail then bd (bd (bd (tokP C 1 sFail q) (pE C .sum 0)) (tokP C 4 cSemi)) (addSt C 6 sNone)
  else bd (nameP C false q) fun a => bd (bd (bd (tokP C 4 cEq a.1) (pE C .sum 0)) (tokP C 4 cSemi)) (addSt C 3 a.2)
end Go.Proofs.YticdggnnpjachaaGreat
namespace Go.Proofs.YticdggnnpjachaaGreat
open Go.RowKit Go.PlainAid

theorem plain_kind {C : Cx} {i : Nat} {o : Bool} (h : ((tokAt C i).kind == 1) = false) : plainB C i o = false := by rw [plainB, h]; rfl
theorem plain_end {C : Cx} {i : Nat} {o : Bool} (h : ¬ i < C.ts.length) : plainB C i o = false := by
  rw [Bool.eq_false_iff]
  exact fun g => h (plain_lt g)
set_option maxRecDepth 100000 in
set_option maxHeartbeats 1600000 in
theorem l4Plain_spec (C : Cx) (gt cap base : Nat) (S : Sv) (q : PS) (z : Int) (d : Nat) (o : Bool) (w : World) (ht : OwnT w base 111 gt C.ts.length cap C.ts) (_ : C.ts.length ≤ 4000) :
    Calls Tryz.prog 133 #[pv C gt cap S q z d, .bool o] w fun e w' => e = .returned (.bool (decide (z < 0) && plainB C q.pos o)) ∧ Below w.heap.size w w' := by
  unfold pv
  by_cases hz : z < 0
  · have dz : decide (z < 0) = true := decide_eq_true hz
    have dz2 : decide (0 ≤ z) = false := decide_eq_false (by omega)
    by_cases hp : q.pos < C.ts.length
    · obtain ⟨c0, c1, _, _⟩ := ht.cells hp (d := ⟨0, sNone, 0, C.fin⟩)
      have hglt := (ownT_lt ht).1
      change _ = some (Value.int .i64 (tokAt C q.pos).kind) at c0
      change _ = some (Value.string (tokAt C q.pos).text) at c1
      generalize htk : tokAt C q.pos = t at c0 c1
      cases e1 : (t.kind == 1) with
      | true =>
        have e1' : (t.kind != 1) = false := by rw [bne, e1]; rfl
        cases e2 : resB t.text C.scr with
        | false =>
          have HV : Hid (plainB C q.pos o = true) := by show plainB C q.pos o = true; simp only [plainB, htk, e1, e2, Bool.not_false, Bool.true_or, Bool.and_self]
          clear htk
          go_enter Tryz.func133, Tryz.ntmps133
          go_wp2_with (first | (go_at_call 166; refine (l4Reserved_spec _ _ _).mono ?_; rintro e w' ⟨rfl, rfl⟩))
          go_ret
          exact ⟨ret_bool (by first | (rw [dz, HV.out]; rfl) | rfl), (Below.refl _ _).alloc (Nat.le_refl _) _⟩
        | true =>
          cases o with
          | true =>
            cases e3 : (t.text.toList == [100, 101, 102, 97, 117, 108, 116]) with
            | true =>
              have HV : Hid (plainB C q.pos true = true) := by show plainB C q.pos true = true; simp only [plainB, htk, e1, e2, e3, Bool.not_true, Bool.and_self, Bool.false_or]
              clear htk
              go_enter Tryz.func133, Tryz.ntmps133
              go_wp2_with (first | (go_at_call 166; refine (l4Reserved_spec _ _ _).mono ?_; rintro e w' ⟨rfl, rfl⟩))
              go_ret
              exact ⟨ret_bool (by first | (rw [dz, HV.out]; rfl) | rfl), (Below.refl _ _).alloc (Nat.le_refl _) _⟩
            | false =>
              have HV : Hid (plainB C q.pos true = false) := by show plainB C q.pos true = false; simp only [plainB, htk, e1, e2, e3, Bool.not_true, Bool.true_and, Bool.or_self]
              clear htk
              go_enter Tryz.func133, Tryz.ntmps133
              go_wp2_with (first | (go_at_call 166; refine (l4Reserved_spec _ _ _).mono ?_; rintro e w' ⟨rfl, rfl⟩))
              go_ret
              exact ⟨ret_bool (by first | (rw [dz, HV.out]; rfl) | rfl), (Below.refl _ _).alloc (Nat.le_refl _) _⟩
          | false =>
            have HV : Hid (plainB C q.pos false = false) := by show plainB C q.pos false = false; simp only [plainB, htk, e1, e2, Bool.not_true, Bool.false_and, Bool.or_self, Bool.and_false]
            clear htk
            go_enter Tryz.func133, Tryz.ntmps133
            go_wp2_with (first | (go_at_call 166; refine (l4Reserved_spec _ _ _).mono ?_; rintro e w' ⟨rfl, rfl⟩))
            go_ret
            exact ⟨ret_bool (by first | (rw [dz, HV.out]; rfl) | rfl), (Below.refl _ _).alloc (Nat.le_refl _) _⟩
      | false =>
        have e1' : (t.kind != 1) = true := by rw [bne, e1]; rfl
        have HV : Hid (plainB C q.pos o = false) := plain_kind (by rw [htk]; exact e1)
        clear htk
        go_enter Tryz.func133, Tryz.ntmps133
        go_wp2_with (first | (go_at_call 166; refine (l4Reserved_spec _ _ _).mono ?_; rintro e w' ⟨rfl, rfl⟩))
        go_ret
        exact ⟨ret_bool (by first | (rw [dz, HV.out]; rfl) | rfl), (Below.refl _ _).alloc (Nat.le_refl _) _⟩
    · have HV : Hid (plainB C q.pos o = false) := plain_end hp
      go_enter Tryz.func133, Tryz.ntmps133
      go_wp2_with (first | (go_at_call 166; refine (l4Reserved_spec _ _ _).mono ?_; rintro e w' ⟨rfl, rfl⟩))
      go_ret
      exact ⟨ret_bool (by first | (rw [dz, HV.out]; rfl) | rfl), (Below.refl _ _).alloc (Nat.le_refl _) _⟩
  · have dz : decide (z < 0) = false := decide_eq_false hz
    have dz2 : decide (0 ≤ z) = true := decide_eq_true (by omega)
    have HV : Hid (plainB C q.pos o = plainB C q.pos o) := rfl
    go_enter Tryz.func133, Tryz.ntmps133
    go_wp2_with (first | (go_at_call 166; refine (l4Reserved_spec _ _ _).mono ?_; rintro e w' ⟨rfl, rfl⟩))
    go_ret
    exact ⟨ret_bool (by first | (rw [dz, HV.out]; rfl) | rfl), (Below.refl _ _).alloc (Nat.le_refl _) _⟩

def Is2 (y : Except Nat (PS × ByteArray)) (q : PS) (z : Int) (n : ByteArray) : Prop :=
  match y with
  | .ok a => q = a.1 ∧ z = -1 ∧ n = a.2
  | .error e => z = (e : Int)
theorem Is2.fst {y : Except Nat (PS × ByteArray)} {q : PS} {z : Int} {n : ByteArray} (h : Is2 y q z n) : Is (fstP y) q z := by
  cases y with
  | ok a => exact ⟨h.1, h.2.1⟩
  | error e => exact h
theorem Is2.bind {y : Except Nat (PS × ByteArray)} {q : PS} {z : Int} {n : ByteArray} (h : Is2 y q z n) {β : Type} (F : PS → ByteArray → Except Nat β) : bd (fstP y) (fun q => F q n) = bd y fun a => F a.1 a.2 := by
  cases y with
  | ok a => obtain ⟨_, _, rfl⟩ := h; rfl
  | error e => rfl
def Out2 (C : Cx) (gt cap base : Nat) (y : Except Nat (PS × ByteArray)) (d : Nat) (S : Sv) (w : World) (e : Ending) (w' : World) : Prop :=
  ∃ S' q' z' n', e = .returned (.tuple #[pv C gt cap S' q' z' d, .string n']) ∧ Is2 y q' z' n' ∧ Mem C gt cap base S' q' w' ∧ Stp S w S' w'
theorem out2_below {C : Cx} {gt cap base : Nat} {y : Except Nat (PS × ByteArray)} {d : Nat} {S : Sv} {w w' : World} {q' : PS} {z' : Int} {n' : ByteArray} {v : Value} (hv : v = pv C gt cap S q' z' d) (hi : Is2 y q' z' n') (hm : Mem C gt cap base S q' w) (hb : Below w.heap.size w w') : Out2 C gt cap base y d S w (.returned (.tuple #[v, .string n'])) w' :=
  ⟨S, q', z', n', by rw [hv], hi, hm.later hb, Stp.below hb⟩

set_option maxRecDepth 100000 in
set_option maxHeartbeats 1600000 in
theorem l4Name_spec (C : Cx) (gt cap base : Nat) (x : PR) (S : Sv) (q : PS) (z : Int) (d : Nat) (o : Bool) (w : World) (hx : Is x q z) (hm : Mem C gt cap base S q w) :
    Calls Tryz.prog 78 #[pv C gt cap S q z d, .bool o] w (Out2 C gt cap base (bd x (nameP C o)) d S w) := by
  have HM := hidI hm
  have htok := hm.tok
  have hfew := hm.few
  have HX := hidI hx
  clear hx hm
  cases hi : (decide (z < 0) && plainB C q.pos o) with
  | true =>
    have hlt : q.pos < C.ts.length := by rw [Bool.and_eq_true] at hi; exact plain_lt hi.2
    have HY : Hid (Is2 (bd x (nameP C o)) (adv q) z (tokAt C q.pos).text) := by
      rw [Bool.and_eq_true, decide_eq_true_eq] at hi
      obtain ⟨h1, h2⟩ := is_neg HX.out hi.1
      show Is2 (bd x (nameP C o)) (adv q) z (tokAt C q.pos).text
      rw [h1, bd_ok, nameP, if_pos hi.2]
      exact ⟨rfl, h2, rfl⟩
    unfold pv
    go_enter Tryz.func78, Tryz.ntmps78
    go_wp2_with fail
    refine (l4Plain_spec C gt cap base S q z d o _ (ownT_alloc (ownT_alloc htok _) _) hfew).mono ?_
    rintro e w1 ⟨rfl, hb⟩
    rw [hi]
    obtain ⟨g1, g2⟩ := two_new hb
    obtain ⟨a0, a1, a2, a3, a4, a5, a6, a7, a8, a9, a10, a11, af⟩ := box_of g1
    obtain ⟨b0, b1, b2, b3, b4, b5, b6, b7, b8, b9, b10, b11, bf⟩ := box_of g2
    have htok1 := ownT_later htok (two_below hb)
    obtain ⟨_, c1, _, _⟩ := htok1.cells hlt (d := ⟨0, sNone, 0, C.fin⟩)
    change _ = some (Value.string (tokAt C q.pos).text) at c1
    have G2 := hidI g2
    clear g1 g2 hi
    go_wp2
    refine bodyPost_ret (results_cell_row_tmp rfl _ _ (w.heap.size + 1) 53 _ (0, 0) _ rfl (put12 ((pother (by omega)).trans G2.out)) Tryz.underlying53 rfl (by kernel_rfl)) rfl ?_
    exact out2_below rfl HY.out (HM.out.adv hlt) (below12 ((two_below hb).setCell (Nat.le_refl _) _) (Nat.le_succ _) _ _ _ _ _ _ _ _ _ _ _ _)
  | false =>
    have HY : Hid (Is2 (bd x (nameP C o)) q (badOf C q.pos z) sNone) := by
      show Is2 (bd x (nameP C o)) q (badOf C q.pos z) sNone
      unfold badOf
      by_cases hz : z < 0
      · obtain ⟨h1, h2⟩ := is_neg HX.out hz
        simp only [hz, decide_true, Bool.true_and] at hi
        rw [h1, bd_ok, nameP, hi, if_pos hz]
        rfl
      · obtain ⟨e, h1, h2⟩ := is_bad HX.out hz
        rw [h1, bd_error, if_neg hz]
        exact h2
    unfold pv
    go_enter Tryz.func78, Tryz.ntmps78
    go_wp2_with fail
    refine (l4Plain_spec C gt cap base S q z d o _ (ownT_alloc (ownT_alloc htok _) _) hfew).mono ?_
    rintro e w1 ⟨rfl, hb⟩
    rw [hi]
    obtain ⟨g1, g2⟩ := two_new hb
    obtain ⟨a0, a1, a2, a3, a4, a5, a6, a7, a8, a9, a10, a11, af⟩ := box_of g1
    have G2 := hidI g2
    have htok1 := ownT_later htok (two_below hb)
    clear g1 g2 hi
    go_wp2_with fail
    refine (fail_spec C gt cap base S q z d _ htok1 hfew).mono ?_
    rintro e w2 ⟨rfl, hb2⟩
    have G3 : Hid (_ = _) := (hb2.block _ (Nat.lt_of_lt_of_le (by simp) hb.size)).trans G2.out
    obtain ⟨c0, c1, c2, c3, c4, c5, c6, c7, c8, c9, c10, c11, cf⟩ := box_of G3.out
    have hbb := (two_below hb).trans (hb2.mono (two_below hb).size)
    clear a0 a1 a2 a3 a4 a5 a6 a7 a8 a9 a10 a11 af
    unfold pv
    go_wp2
    refine bodyPost_ret (results_cell_row_tmp rfl _ _ (w.heap.size + 1) 53 _ (0, 0) _ rfl (put12 G3.out) Tryz.underlying53 rfl (by kernel_rfl)) rfl ?_
    exact out2_below rfl HY.out HM.out (below12 hbb (Nat.le_succ _) _ _ _ _ _ _ _ _ _ _ _ _)
end Go.Proofs.YticdggnnpjachaaGreat
namespace Go.Proofs.YticdggnnpjachaaGreat
open Go.RowKit Go.PlainAid

theorem Tryz.infoImp : (Tryz.prog.info? 100).map (fun i => (i.zero, i.size, i.bytes)) = some (some (.agg #[.string { data := #[] }, .string { data := #[] }, .string { data := #[] }]), 3, 48) := by kernel_rfl
theorem Tryz.infoExp : (Tryz.prog.info? 102).map (fun i => (i.zero, i.size, i.bytes)) = some (some (.agg #[.int .i64 0, .string { data := #[] }, .string { data := #[] }, .string { data := #[] }]), 4, 56) := by kernel_rfl
theorem Tryz.infoStmt : (Tryz.prog.info? 106).map (fun i => (i.zero, i.size, i.bytes)) = some (some (.agg #[.int .i64 0, .string { data := #[] }, .int .i64 0]), 3, 32) := by kernel_rfl
theorem Tryz.infoExpr : (Tryz.prog.info? 108).map (fun i => (i.zero, i.size, i.bytes)) = some (some (.agg #[.int .i64 0, .int .i64 0, .string { data := #[] }, .string { data := #[] }, .int .i64 0, .int .i64 0]), 6, 64) := by kernel_rfl
def imV (x : Im) : Value := .agg #[.string x.spec, .string x.first, .string x.loc]
def epV (x : Ep) : Value := .agg #[.int .i64 x.kind, .string x.name, .string x.loc, .string x.spec]
def exV (x : Ex) : Value := .agg #[.int .i64 x.kind, .int .i64 x.num, .string x.name, .string x.field, .int .i64 x.l, .int .i64 x.r]
theorem below3 (w : World) (a b c : Obj) : Below w.heap.size w (((w.alloc a).alloc b).alloc c) := (below2 w a b).alloc (below2 w a b).size c
theorem below4 (w : World) (a b c d : Obj) : Below w.heap.size w ((((w.alloc a).alloc b).alloc c).alloc d) := (below3 w a b c).alloc (below3 w a b c).size d
theorem size2 (w : World) (a b : Obj) : ((w.alloc a).alloc b).heap.size = w.heap.size + 1 + 1 := by rw [alloc_size, alloc_size]
theorem size3 (w : World) (a b c : Obj) : (((w.alloc a).alloc b).alloc c).heap.size = w.heap.size + 1 + 1 + 1 := by rw [alloc_size, size2]
theorem size4 (w : World) (a b c d : Obj) : ((((w.alloc a).alloc b).alloc c).alloc d).heap.size = w.heap.size + 1 + 1 + 1 + 1 := by rw [alloc_size, size3]
theorem new3 (w : World) (a b c : Obj) : (((w.alloc a).alloc b).alloc c).heap[w.heap.size]? = some a ∧ (((w.alloc a).alloc b).alloc c).heap[w.heap.size + 1]? = some b ∧ (((w.alloc a).alloc b).alloc c).heap[w.heap.size + 1 + 1]? = some c := by
  refine ⟨?_, ?_, ?_⟩
  · rw [Below.heap_alloc _ _ _ (by rw [size2]; omega), Below.heap_alloc _ _ _ (by rw [alloc_size]; omega)]
    exact heap_alloc_new w a
  · rw [Below.heap_alloc _ _ _ (by rw [size2]; omega)]
    exact new2 w a b
  · rw [← size2 w a b]
    exact heap_alloc_new _ c
theorem new4 (w : World) (a b c d : Obj) : ((((w.alloc a).alloc b).alloc c).alloc d).heap[w.heap.size]? = some a ∧ ((((w.alloc a).alloc b).alloc c).alloc d).heap[w.heap.size + 1]? = some b ∧ ((((w.alloc a).alloc b).alloc c).alloc d).heap[w.heap.size + 1 + 1]? = some c ∧ ((((w.alloc a).alloc b).alloc c).alloc d).heap[w.heap.size + 1 + 1 + 1]? = some d := by
  obtain ⟨h1, h2, h3⟩ := new3 w a b c
  refine ⟨?_, ?_, ?_, ?_⟩
  · rw [Below.heap_alloc _ _ _ (by rw [size3]; omega)]
    exact h1
  · rw [Below.heap_alloc _ _ _ (by rw [size3]; omega)]
    exact h2
  · rw [Below.heap_alloc _ _ _ (by rw [size3]; omega)]
    exact h3
  · rw [← size3 w a b c]
    exact heap_alloc_new _ d
theorem three_below {w w1 : World} {a b c : Obj} (hb : Below (((w.alloc a).alloc b).alloc c).heap.size (((w.alloc a).alloc b).alloc c) w1) : Below w.heap.size w w1 := (below3 w a b c).trans (hb.mono (below3 w a b c).size)
theorem is_full {C : Cx} {x : PR} {q : PS} {z : Int} {f : PS → PR} (hx : Is x q z) (hz : z < 0) (hf : f q = .error (here C (q.pos - 1))) : Is (bd x f) q (here C (q.pos - 1)) := by
  obtain ⟨rfl, _⟩ := is_neg hx hz
  rw [bd_ok, hf]
  rfl
theorem is_stay {x : PR} {q : PS} {z : Int} {f : PS → PR} (hx : Is x q z) (hz : ¬ z < 0) : Is (bd x f) q z := by
  obtain ⟨e, rfl, h2⟩ := is_bad hx hz
  exact h2
theorem is_went {x : PR} {q q' : PS} {z : Int} {f : PS → PR} (hx : Is x q z) (hz : z < 0) (hf : f q = .ok q') : Is (bd x f) q' z := by
  obtain ⟨rfl, h2⟩ := is_neg hx hz
  rw [bd_ok, hf]
  exact ⟨rfl, h2⟩
theorem wpos {w W : World} {base : Nat} {S : Sv} {q : PS} (ho : Own w base S q) (_ : w.heap.size ≤ W.heap.size) {r : Option Nat} (hr : ∀ k, r = some k → S.has k) (b : Nat) (hb : w.heap.size ≤ b) : some b ≠ r := fun e => by have := (ho.has (hr b e.symm)).2; omega

set_option maxRecDepth 100000 in
set_option maxHeartbeats 3200000 in
theorem l4Add_spec (C : Cx) (gt cap base : Nat) (x : PR) (S : Sv) (q : PS) (z : Int) (d : Nat) (y : Ex) (w : World) (hx : Is x q z) (hm : Mem C gt cap base S q w) (hp : z < 0 → 1 ≤ q.pos) :
    Calls Tryz.prog 137 #[pv C gt cap S q z d, exV y] w (Out C gt cap base (bd x (addEx C y)) d S w) := by
  obtain ⟨i0, hi, hz0, hz1, hz2⟩ := info_parts Tryz.infoExpr
  have HM := hidI hm
  have HX := hidI hx
  have hlex : q.ex.length ≤ 300 := by have := hm.inv.ex; omega
  clear hx
  by_cases hz : z < 0
  · have dz : decide (0 ≤ z) = false := decide_eq_false (by omega)
    by_cases hn : 300 ≤ q.ex.length
    · have HY : Hid (Is (bd x (addEx C y)) q (here C (q.pos - 1))) := is_full HX.out hz (if_pos hn)
      have qn : decide ((300 : Int) ≤ (q.ex.length : Int)) = true := decide_eq_true (by omega)
      have hpos := hp hz
      clear hp hm
      unfold pv exV
      go_enter Tryz.func137, Tryz.ntmps137
      go_wp2_with fail
      refine (l4Full_spec C gt cap base S q z d _ (((HM.out.alloc _).alloc _).alloc _) hz hpos).mono ?_
      rintro e w2 ⟨rfl, hb2⟩
      have hbb : Below w.heap.size w w2 := three_below hb2
      have G3 : Hid (_ = _) := (hb2.block (w.heap.size + 1 + 1) (by rw [size3]; omega)).trans ((new3 w _ _ _).2.2)
      obtain ⟨c0, c1, c2, c3, c4, c5, c6, c7, c8, c9, c10, c11, cf⟩ := box_of G3.out
      clear hb2
      unfold pv
      go_wp2
      refine bodyPost_ret (results_cell_row rfl _ _ (w.heap.size + 1 + 1) 53 _ (0, 0) _ rfl (put12 G3.out) Tryz.underlying53 rfl (by kernel_rfl)) rfl ?_
      exact out_below rfl HY.out HM.out (below12 hbb (by omega) _ _ _ _ _ _ _ _ _ _ _ _)
    · have qn : decide ((300 : Int) ≤ (q.ex.length : Int)) = false := decide_eq_false (by omega)
      have HY : Hid (Is (bd x (addEx C y)) { q with ex := q.ex ++ [y] } z) := is_went HX.out hz (if_neg hn)
      have hown := fun o1 o2 o3 o4 => ((((HM.out.own.ex.alloc o1).alloc o2).alloc o3).alloc o4)
      clear hp hm
      unfold pv exV
      go_enter Tryz.func137, Tryz.ntmps137
      go_wp2_with (at_builtin; refine app_row _ rfl _ _ 26 rfl base 108 i0 _ 6 64 Tryz.underlying26 hi hz0 hz1 hz2 rfl (by decide) (by decide) S.ex q.ex.length _ (by rfl) (hown _ _ _ _) (w.heap.size + 1 + 1 + 1) (exL y) (by rfl) (by first | exact (new4 w _ _ _ _).2.2.2 | exact (new3 w _ _ _).2.2) rfl (by intro u hu; simp [exL] at hu; rcases hu with rfl | rfl | rfl | rfl | rfl | rfl <;> rfl) (by omega) (by have := HM.out.base; (first | rw [size4] | rw [size3]); omega) ?_)
      intro r' w2 hr hg hat
      have HR := hidI hr
      have HG := hidI hg
      have HAT := hidI hat
      have hne := fun b hb => wpos (W := w) HM.out.own (Nat.le_refl _) (r := S.ex.blk) (fun k e => .inr (.inr (.inr (.inr (.inl e))))) b hb
      have g1 := (hg.block w.heap.size (by (first | rw [size4] | rw [size3]); omega) (hne _ (Nat.le_refl _))).trans (by first | exact (new4 w _ _ _ _).1 | exact (new3 w _ _ _).1)
      have g2 := (hg.block (w.heap.size + 1 + 1) (by (first | rw [size4] | rw [size3]); omega) (hne _ (by omega))).trans (by first | exact (new4 w _ _ _ _).2.2.1 | exact (new3 w _ _ _).2.1)
      obtain ⟨a0, a1, a2, a3, a4, a5, a6, a7, a8, a9, a10, a11, af⟩ := box_of g1
      obtain ⟨b0, b1, b2, b3, b4, b5, b6, b7, b8, b9, b10, b11, bf⟩ := box_of g2
      have G2 := hidI g2
      clear g1 g2 hg hr hat hne hown
      go_wp2
      refine bodyPost_ret (results_cell_row rfl _ _ (w.heap.size + 1 + 1) 53 _ (0, 0) _ rfl (put12 ((pother (by omega)).trans G2.out)) Tryz.underlying53 rfl (by kernel_rfl)) rfl ?_
      obtain ⟨m', s'⟩ := HM.out.grow_ex (x := y) (below4 w _ _ _ _) HG.out HR.out (by (first | rw [size4] | rw [size3]); exact HAT.out) (((Off.refl _ _ _).set (b := w.heap.size) (Nat.le_refl _) (by (first | rw [size4] | rw [size3]); omega) _ _).set12 (b := w.heap.size + 1 + 1) (by omega) (by (first | rw [size4] | rw [size3]); omega) _ _ _ _ _ _ _ _ _ _ _ _) (by omega)
      exact ⟨_, { q with ex := q.ex ++ [y] }, z, by simp [pv], HY.out, m', s'⟩
  · have dz : decide (0 ≤ z) = true := decide_eq_true (by omega)
    have HY : Hid (Is (bd x (addEx C y)) q z) := is_stay HX.out hz
    clear hp hm
    unfold pv exV
    go_enter Tryz.func137, Tryz.ntmps137
    go_wp2
    refine bodyPost_ret (results_cell_row rfl _ _ (w.heap.size + 1 + 1) 53 _ (0, 0) _ rfl ((new3 w _ _ _).2.2) Tryz.underlying53 rfl (by kernel_rfl)) rfl ?_
    exact out_below rfl HY.out HM.out (below3 w _ _ _)
set_option maxRecDepth 100000 in
set_option maxHeartbeats 3200000 in
theorem l4Imp_spec (C : Cx) (gt cap base : Nat) (x : PR) (S : Sv) (q : PS) (z : Int) (d : Nat) (y : Im) (w : World) (hx : Is x q z) (hm : Mem C gt cap base S q w) (hp : z < 0 → 1 ≤ q.pos) :
    Calls Tryz.prog 132 #[pv C gt cap S q z d, imV y] w (Out C gt cap base (bd x (addIm C y)) d S w) := by
  obtain ⟨i0, hi, hz0, hz1, hz2⟩ := info_parts Tryz.infoImp
  have HM := hidI hm
  have HX := hidI hx
  have hlim : q.im.length ≤ 40 := by have := hm.inv.im; omega
  clear hx
  by_cases hz : z < 0
  · have dz : decide (0 ≤ z) = false := decide_eq_false (by omega)
    by_cases hn : 40 ≤ q.im.length
    · have HY : Hid (Is (bd x (addIm C y)) q (here C (q.pos - 1))) := is_full HX.out hz (if_pos hn)
      have qn : decide ((40 : Int) ≤ (q.im.length : Int)) = true := decide_eq_true (by omega)
      have hpos := hp hz
      clear hp hm
      unfold pv imV
      go_enter Tryz.func132, Tryz.ntmps132
      go_wp2_with fail
      refine (l4Full_spec C gt cap base S q z d _ (((HM.out.alloc _).alloc _).alloc _) hz hpos).mono ?_
      rintro e w2 ⟨rfl, hb2⟩
      have hbb : Below w.heap.size w w2 := three_below hb2
      have G3 : Hid (_ = _) := (hb2.block (w.heap.size + 1 + 1) (by rw [size3]; omega)).trans ((new3 w _ _ _).2.2)
      obtain ⟨c0, c1, c2, c3, c4, c5, c6, c7, c8, c9, c10, c11, cf⟩ := box_of G3.out
      clear hb2
      unfold pv
      go_wp2
      refine bodyPost_ret (results_cell_row rfl _ _ (w.heap.size + 1 + 1) 53 _ (0, 0) _ rfl (put12 G3.out) Tryz.underlying53 rfl (by kernel_rfl)) rfl ?_
      exact out_below rfl HY.out HM.out (below12 hbb (by omega) _ _ _ _ _ _ _ _ _ _ _ _)
    · have qn : decide ((40 : Int) ≤ (q.im.length : Int)) = false := decide_eq_false (by omega)
      have HY : Hid (Is (bd x (addIm C y)) { q with im := q.im ++ [y] } z) := is_went HX.out hz (if_neg hn)
      have hown := fun o1 o2 o3 o4 => ((((HM.out.own.im.alloc o1).alloc o2).alloc o3).alloc o4)
      clear hp hm
      unfold pv imV
      go_enter Tryz.func132, Tryz.ntmps132
      go_wp2_with (at_builtin; refine app_row _ rfl _ _ 23 rfl base 100 i0 _ 3 48 Tryz.underlying23 hi hz0 hz1 hz2 rfl (by decide) (by decide) S.im q.im.length _ (by rfl) (hown _ _ _ _) (w.heap.size + 1 + 1 + 1) (imL y) (by rfl) (by first | exact (new4 w _ _ _ _).2.2.2 | exact (new3 w _ _ _).2.2) rfl (by intro u hu; simp [imL] at hu; rcases hu with rfl | rfl | rfl <;> rfl) (by omega) (by have := HM.out.base; (first | rw [size4] | rw [size3]); omega) ?_)
      intro r' w2 hr hg hat
      have HR := hidI hr
      have HG := hidI hg
      have HAT := hidI hat
      have hne := fun b hb => wpos (W := w) HM.out.own (Nat.le_refl _) (r := S.im.blk) (fun k e => .inr (.inl e)) b hb
      have g1 := (hg.block w.heap.size (by (first | rw [size4] | rw [size3]); omega) (hne _ (Nat.le_refl _))).trans (by first | exact (new4 w _ _ _ _).1 | exact (new3 w _ _ _).1)
      have g2 := (hg.block (w.heap.size + 1 + 1) (by (first | rw [size4] | rw [size3]); omega) (hne _ (by omega))).trans (by first | exact (new4 w _ _ _ _).2.2.1 | exact (new3 w _ _ _).2.1)
      obtain ⟨a0, a1, a2, a3, a4, a5, a6, a7, a8, a9, a10, a11, af⟩ := box_of g1
      obtain ⟨b0, b1, b2, b3, b4, b5, b6, b7, b8, b9, b10, b11, bf⟩ := box_of g2
      have G2 := hidI g2
      clear g1 g2 hg hr hat hne hown
      go_wp2
      refine bodyPost_ret (results_cell_row rfl _ _ (w.heap.size + 1 + 1) 53 _ (0, 0) _ rfl (put12 ((pother (by omega)).trans G2.out)) Tryz.underlying53 rfl (by kernel_rfl)) rfl ?_
      obtain ⟨m', s'⟩ := HM.out.grow_im (x := y) (below4 w _ _ _ _) HG.out HR.out (by (first | rw [size4] | rw [size3]); exact HAT.out) (((Off.refl _ _ _).set (b := w.heap.size) (Nat.le_refl _) (by (first | rw [size4] | rw [size3]); omega) _ _).set12 (b := w.heap.size + 1 + 1) (by omega) (by (first | rw [size4] | rw [size3]); omega) _ _ _ _ _ _ _ _ _ _ _ _) (by omega)
      exact ⟨_, { q with im := q.im ++ [y] }, z, by simp [pv], HY.out, m', s'⟩
  · have dz : decide (0 ≤ z) = true := decide_eq_true (by omega)
    have HY : Hid (Is (bd x (addIm C y)) q z) := is_stay HX.out hz
    clear hp hm
    unfold pv imV
    go_enter Tryz.func132, Tryz.ntmps132
    go_wp2
    refine bodyPost_ret (results_cell_row rfl _ _ (w.heap.size + 1 + 1) 53 _ (0, 0) _ rfl ((new3 w _ _ _).2.2) Tryz.underlying53 rfl (by kernel_rfl)) rfl ?_
    exact out_below rfl HY.out HM.out (below3 w _ _ _)
set_option maxRecDepth 100000 in
set_option maxHeartbeats 3200000 in
theorem l4Exp_spec (C : Cx) (gt cap base : Nat) (x : PR) (S : Sv) (q : PS) (z : Int) (d : Nat) (y : Ep) (w : World) (hx : Is x q z) (hm : Mem C gt cap base S q w) (hp : z < 0 → 1 ≤ q.pos) :
    Calls Tryz.prog 134 #[pv C gt cap S q z d, epV y] w (Out C gt cap base (bd x (addEp C y)) d S w) := by
  obtain ⟨i0, hi, hz0, hz1, hz2⟩ := info_parts Tryz.infoExp
  have HM := hidI hm
  have HX := hidI hx
  have hlep : q.ep.length ≤ 40 := by have := hm.inv.ep; omega
  have hlla : q.la.length ≤ 40 := by have := hm.inv.ep; omega
  clear hx
  by_cases hz : z < 0
  · have dz : decide (0 ≤ z) = false := decide_eq_false (by omega)
    by_cases hn : 40 ≤ q.ep.length + q.la.length
    · have HY : Hid (Is (bd x (addEp C y)) q (here C (q.pos - 1))) := is_full HX.out hz (if_pos hn)
      have qn : decide ((40 : Int) ≤ (q.ep.length : Int) + (q.la.length : Int)) = true := decide_eq_true (by omega)
      have hpos := hp hz
      clear hp hm
      unfold pv epV
      go_enter Tryz.func134, Tryz.ntmps134
      go_wp2_with fail
      refine (l4Full_spec C gt cap base S q z d _ (((HM.out.alloc _).alloc _).alloc _) hz hpos).mono ?_
      rintro e w2 ⟨rfl, hb2⟩
      have hbb : Below w.heap.size w w2 := three_below hb2
      have G3 : Hid (_ = _) := (hb2.block (w.heap.size + 1 + 1) (by rw [size3]; omega)).trans ((new3 w _ _ _).2.2)
      obtain ⟨c0, c1, c2, c3, c4, c5, c6, c7, c8, c9, c10, c11, cf⟩ := box_of G3.out
      clear hb2
      unfold pv
      go_wp2
      refine bodyPost_ret (results_cell_row rfl _ _ (w.heap.size + 1 + 1) 53 _ (0, 0) _ rfl (put12 G3.out) Tryz.underlying53 rfl (by kernel_rfl)) rfl ?_
      exact out_below rfl HY.out HM.out (below12 hbb (by omega) _ _ _ _ _ _ _ _ _ _ _ _)
    · have qn : decide ((40 : Int) ≤ (q.ep.length : Int) + (q.la.length : Int)) = false := decide_eq_false (by omega)
      cases hd : (y.loc.toList == [42, 100, 101, 102, 97, 117, 108, 116]) with
      | true =>
        have HY : Hid (Is (bd x (addEp C y)) { q with la := q.la ++ [y] } z) := is_went HX.out hz (by rw [addEp, if_neg hn, if_pos hd])
        have hown := fun o1 o2 o3 o4 => ((((HM.out.own.la.alloc o1).alloc o2).alloc o3).alloc o4)
        clear hp hm
        unfold pv epV
        go_enter Tryz.func134, Tryz.ntmps134
        go_wp2_with (at_builtin; refine app_row _ rfl _ _ 24 rfl base 102 i0 _ 4 56 Tryz.underlying24 hi hz0 hz1 hz2 rfl (by decide) (by decide) S.la q.la.length _ (by rfl) (hown _ _ _ _) (w.heap.size + 1 + 1 + 1) (epL y) (by rfl) (by first | exact (new4 w _ _ _ _).2.2.2 | exact (new3 w _ _ _).2.2) rfl (by intro u hu; simp [epL] at hu; rcases hu with rfl | rfl | rfl | rfl <;> rfl) (by omega) (by have := HM.out.base; (first | rw [size4] | rw [size3]); omega) ?_)
        intro r' w2 hr hg hat
        have HR := hidI hr
        have HG := hidI hg
        have HAT := hidI hat
        have hne := fun b hb => wpos (W := w) HM.out.own (Nat.le_refl _) (r := S.la.blk) (fun k e => .inr (.inr (.inr (.inr (.inr e))))) b hb
        have g1 := (hg.block w.heap.size (by (first | rw [size4] | rw [size3]); omega) (hne _ (Nat.le_refl _))).trans (by first | exact (new4 w _ _ _ _).1 | exact (new3 w _ _ _).1)
        have g2 := (hg.block (w.heap.size + 1 + 1) (by (first | rw [size4] | rw [size3]); omega) (hne _ (by omega))).trans (by first | exact (new4 w _ _ _ _).2.2.1 | exact (new3 w _ _ _).2.1)
        obtain ⟨a0, a1, a2, a3, a4, a5, a6, a7, a8, a9, a10, a11, af⟩ := box_of g1
        obtain ⟨b0, b1, b2, b3, b4, b5, b6, b7, b8, b9, b10, b11, bf⟩ := box_of g2
        have G2 := hidI g2
        clear g1 g2 hg hr hat hne hown
        go_wp2
        refine bodyPost_ret (results_cell_row rfl _ _ (w.heap.size + 1 + 1) 53 _ (0, 0) _ rfl (put12 ((pother (by omega)).trans G2.out)) Tryz.underlying53 rfl (by kernel_rfl)) rfl ?_
        obtain ⟨m', s'⟩ := HM.out.grow_la (x := y) (below4 w _ _ _ _) HG.out HR.out (by (first | rw [size4] | rw [size3]); exact HAT.out) (((Off.refl _ _ _).set (b := w.heap.size) (Nat.le_refl _) (by (first | rw [size4] | rw [size3]); omega) _ _).set12 (b := w.heap.size + 1 + 1) (by omega) (by (first | rw [size4] | rw [size3]); omega) _ _ _ _ _ _ _ _ _ _ _ _) (by omega)
        exact ⟨_, { q with la := q.la ++ [y] }, z, by simp [pv], HY.out, m', s'⟩
      | false =>
        have HY : Hid (Is (bd x (addEp C y)) { q with ep := q.ep ++ [y] } z) := is_went HX.out hz (by rw [addEp, if_neg hn, hd]; rfl)
        have hown := fun o1 o2 o3 o4 => ((((HM.out.own.ep.alloc o1).alloc o2).alloc o3).alloc o4)
        clear hp hm
        unfold pv epV
        go_enter Tryz.func134, Tryz.ntmps134
        go_wp2_with (at_builtin; refine app_row _ rfl _ _ 24 rfl base 102 i0 _ 4 56 Tryz.underlying24 hi hz0 hz1 hz2 rfl (by decide) (by decide) S.ep q.ep.length _ (by rfl) (hown _ _ _ _) (w.heap.size + 1 + 1 + 1) (epL y) (by rfl) (by first | exact (new4 w _ _ _ _).2.2.2 | exact (new3 w _ _ _).2.2) rfl (by intro u hu; simp [epL] at hu; rcases hu with rfl | rfl | rfl | rfl <;> rfl) (by omega) (by have := HM.out.base; (first | rw [size4] | rw [size3]); omega) ?_)
        intro r' w2 hr hg hat
        have HR := hidI hr
        have HG := hidI hg
        have HAT := hidI hat
        have hne := fun b hb => wpos (W := w) HM.out.own (Nat.le_refl _) (r := S.ep.blk) (fun k e => .inr (.inr (.inl e))) b hb
        have g1 := (hg.block w.heap.size (by (first | rw [size4] | rw [size3]); omega) (hne _ (Nat.le_refl _))).trans (by first | exact (new4 w _ _ _ _).1 | exact (new3 w _ _ _).1)
        have g2 := (hg.block (w.heap.size + 1 + 1) (by (first | rw [size4] | rw [size3]); omega) (hne _ (by omega))).trans (by first | exact (new4 w _ _ _ _).2.2.1 | exact (new3 w _ _ _).2.1)
        obtain ⟨a0, a1, a2, a3, a4, a5, a6, a7, a8, a9, a10, a11, af⟩ := box_of g1
        obtain ⟨b0, b1, b2, b3, b4, b5, b6, b7, b8, b9, b10, b11, bf⟩ := box_of g2
        have G2 := hidI g2
        clear g1 g2 hg hr hat hne hown
        go_wp2
        refine bodyPost_ret (results_cell_row rfl _ _ (w.heap.size + 1 + 1) 53 _ (0, 0) _ rfl (put12 ((pother (by omega)).trans G2.out)) Tryz.underlying53 rfl (by kernel_rfl)) rfl ?_
        obtain ⟨m', s'⟩ := HM.out.grow_ep (x := y) (below4 w _ _ _ _) HG.out HR.out (by (first | rw [size4] | rw [size3]); exact HAT.out) (((Off.refl _ _ _).set (b := w.heap.size) (Nat.le_refl _) (by (first | rw [size4] | rw [size3]); omega) _ _).set12 (b := w.heap.size + 1 + 1) (by omega) (by (first | rw [size4] | rw [size3]); omega) _ _ _ _ _ _ _ _ _ _ _ _) (by omega)
        exact ⟨_, { q with ep := q.ep ++ [y] }, z, by simp [pv], HY.out, m', s'⟩
  · have dz : decide (0 ≤ z) = true := decide_eq_true (by omega)
    have HY : Hid (Is (bd x (addEp C y)) q z) := is_stay HX.out hz
    clear hp hm
    unfold pv epV
    go_enter Tryz.func134, Tryz.ntmps134
    go_wp2
    refine bodyPost_ret (results_cell_row rfl _ _ (w.heap.size + 1 + 1) 53 _ (0, 0) _ rfl ((new3 w _ _ _).2.2) Tryz.underlying53 rfl (by kernel_rfl)) rfl ?_
    exact out_below rfl HY.out HM.out (below3 w _ _ _)
set_option maxRecDepth 100000 in
set_option maxHeartbeats 3200000 in
theorem l4Stmt_spec (C : Cx) (gt cap base : Nat) (x : PR) (S : Sv) (q : PS) (z : Int) (d : Nat) (k : Int) (nm : ByteArray) (w : World) (hx : Is x q z) (hm : Mem C gt cap base S q w) (hp : z < 0 → 1 ≤ q.pos) :
    Calls Tryz.prog 77 #[pv C gt cap S q z d, .int .i64 k, .string nm] w (Out C gt cap base (bd x (addSt C k nm)) d S w) := by
  obtain ⟨i0, hi, hz0, hz1, hz2⟩ := info_parts Tryz.infoStmt
  have HM := hidI hm
  have HX := hidI hx
  have hlex : q.ex.length ≤ 300 := by have := hm.inv.ex; omega
  have hlst : q.st.length ≤ 80 := by have := hm.inv.st; omega
  clear hx
  by_cases hz : z < 0
  · have dz : decide (0 ≤ z) = false := decide_eq_false (by omega)
    by_cases hn : 80 ≤ q.st.length
    · have HY : Hid (Is (bd x (addSt C k nm)) q (here C (q.pos - 1))) := is_full HX.out hz (if_pos hn)
      have qn : decide ((80 : Int) ≤ (q.st.length : Int)) = true := decide_eq_true (by omega)
      have hpos := hp hz
      clear hp hm
      unfold pv
      go_enter Tryz.func77, Tryz.ntmps77
      go_wp2_with fail
      refine (l4Full_spec C gt cap base S q z d _ ((HM.out.alloc _).alloc _) hz hpos).mono ?_
      rintro e w2 ⟨rfl, hb2⟩
      have hbb : Below w.heap.size w w2 := two_below hb2
      have G3 : Hid (_ = _) := (hb2.block (w.heap.size + 1) (by rw [size2]; omega)).trans (new2 w _ _)
      obtain ⟨c0, c1, c2, c3, c4, c5, c6, c7, c8, c9, c10, c11, cf⟩ := box_of G3.out
      clear hb2
      unfold pv
      go_wp2
      refine bodyPost_ret (results_cell_row rfl _ _ (w.heap.size + 1) 53 _ (0, 0) _ rfl (put12 G3.out) Tryz.underlying53 rfl (by kernel_rfl)) rfl ?_
      exact out_below rfl HY.out HM.out (below12 hbb (by omega) _ _ _ _ _ _ _ _ _ _ _ _)
    · have qn : decide ((80 : Int) ≤ (q.st.length : Int)) = false := decide_eq_false (by omega)
      have HY : Hid (Is (bd x (addSt C k nm)) { q with st := q.st ++ [⟨k, nm, (q.ex.length : Int) - 1⟩] } z) := is_went HX.out hz (if_neg hn)
      have hown := fun o1 o2 o3 => (((HM.out.own.st.alloc o1).alloc o2).alloc o3)
      clear hp hm
      unfold pv
      go_enter Tryz.func77, Tryz.ntmps77
      go_wp2_with (at_builtin; refine app_row _ rfl _ _ 25 rfl base 106 i0 _ 3 32 Tryz.underlying25 hi hz0 hz1 hz2 rfl (by decide) (by decide) S.st q.st.length _ (by rfl) (hown _ _ _) (w.heap.size + 1 + 1) (smL ⟨k, nm, (q.ex.length : Int) - 1⟩) (by rfl) (by first | exact (new4 w _ _ _ _).2.2.2 | exact (new3 w _ _ _).2.2) rfl (by intro u hu; simp [smL] at hu; rcases hu with rfl | rfl | rfl <;> rfl) (by omega) (by have := HM.out.base; (first | rw [size4] | rw [size3]); omega) ?_)
      intro r' w2 hr hg hat
      have HR := hidI hr
      have HG := hidI hg
      have HAT := hidI hat
      have hne := fun b hb => wpos (W := w) HM.out.own (Nat.le_refl _) (r := S.st.blk) (fun k e => .inr (.inr (.inr (.inl e)))) b hb
      have g1 := (hg.block w.heap.size (by (first | rw [size4] | rw [size3]); omega) (hne _ (Nat.le_refl _))).trans (by first | exact (new4 w _ _ _ _).1 | exact (new3 w _ _ _).1)
      have g2 := (hg.block (w.heap.size + 1) (by (first | rw [size4] | rw [size3]); omega) (hne _ (by omega))).trans (by first | exact (new4 w _ _ _ _).2.2.1 | exact (new3 w _ _ _).2.1)
      obtain ⟨a0, a1, a2, a3, a4, a5, a6, a7, a8, a9, a10, a11, af⟩ := box_of g1
      obtain ⟨b0, b1, b2, b3, b4, b5, b6, b7, b8, b9, b10, b11, bf⟩ := box_of g2
      have G2 := hidI g2
      clear g1 g2 hg hr hat hne hown
      go_wp2
      refine bodyPost_ret (results_cell_row rfl _ _ (w.heap.size + 1) 53 _ (0, 0) _ rfl (put12 ((pother (by omega)).trans G2.out)) Tryz.underlying53 rfl (by kernel_rfl)) rfl ?_
      obtain ⟨m', s'⟩ := HM.out.grow_st (x := ⟨k, nm, (q.ex.length : Int) - 1⟩) (below3 w _ _ _) HG.out HR.out (by (first | rw [size4] | rw [size3]); exact HAT.out) (((Off.refl _ _ _).set (b := w.heap.size) (Nat.le_refl _) (by (first | rw [size4] | rw [size3]); omega) _ _).set12 (b := w.heap.size + 1) (by omega) (by (first | rw [size4] | rw [size3]); omega) _ _ _ _ _ _ _ _ _ _ _ _) (by omega)
      exact ⟨_, { q with st := q.st ++ [⟨k, nm, (q.ex.length : Int) - 1⟩] }, z, by simp [pv], HY.out, m', s'⟩
  · have dz : decide (0 ≤ z) = true := decide_eq_true (by omega)
    have HY : Hid (Is (bd x (addSt C k nm)) q z) := is_stay HX.out hz
    clear hp hm
    unfold pv
    go_enter Tryz.func77, Tryz.ntmps77
    go_wp2
    refine bodyPost_ret (results_cell_row rfl _ _ (w.heap.size + 1) 53 _ (0, 0) _ rfl (new2 w _ _) Tryz.underlying53 rfl (by kernel_rfl)) rfl ?_
    exact out_below rfl HY.out HM.out (below2 w _ _)
end Go.Proofs.YticdggnnpjachaaGreat
namespace Go.Proofs.YticdggnnpjachaaGreat
open Go.RowKit Go.PlainAid

theorem Tryz.infoString : (Tryz.prog.info? 9).map (fun i => (i.zero, i.size, i.bytes)) = some (some (.string { data := #[] }), 1, 16) := by kernel_rfl
theorem OwnR.addr {w : World} {base size n : Nat} {e : TypeId} {r : Rw} {xs : List Value} (h : OwnR w base e size r n xs) : n = 0 ∨ ∃ g, r.a = some ⟨g, 0, none⟩ := by
  rcases h.2 with ⟨_, hn⟩ | ⟨g, cap, cur, hv, _⟩
  · exact .inl hn
  · simp only [Value.slice.injEq] at hv
    exact .inr ⟨g, hv.1⟩
theorem OwnR.str {w : World} {base : Nat} {e : TypeId} {r : Rw} {l : List ByteArray} {g : Nat} (h : OwnR w base e 1 r l.length (l.map .string)) (hg : r.a = some ⟨g, 0, none⟩) {j : Nat} (hj : j < l.length) : w.cell? ⟨g, j, none⟩ = some (.string (l.getD j sNone)) := by
  unfold OwnR at h
  rw [hg] at h
  rw [h.cellAt j (by omega)]
  simp [List.getD, hj]
theorem OwnR.lt {w : World} {base size n : Nat} {e : TypeId} {r : Rw} {xs : List Value} {g : Nat} (h : OwnR w base e size r n xs) (hg : r.a = some ⟨g, 0, none⟩) : g < w.heap.size := (h.typed (k := g) (by simp [Rw.blk, hg, Value.ownBlock])).2.1
theorem hasS_yes {l : List ByteArray} {x : ByteArray} {j : Nat} (hj : j < l.length) (h : ((l.getD j sNone).toList == x.toList) = true) : hasS l x = true := by
  rw [hasS, List.any_eq_true]
  exact ⟨l[j], List.getElem_mem hj, by simpa [List.getD, hj] using h⟩
theorem hasS_no {l : List ByteArray} {x : ByteArray} (h : ∀ j, j < l.length → ((l.getD j sNone).toList == x.toList) = false) : hasS l x = false := by
  rw [Bool.eq_false_iff, hasS]
  intro k
  rw [List.any_eq_true] at k
  obtain ⟨y, hy, hk⟩ := k
  obtain ⟨j, hj, rfl⟩ := List.getElem_of_mem hy
  have := h j hj
  simp only [List.getD, List.getElem?_eq_getElem hj, Option.getD_some] at this
  rw [this] at hk
  cases hk
theorem spec_fail {C : Cx} {x : PR} {q : PS} {z : Int} (hx : Is x q z) (hi : (decide (z < 0) && ((tokAt C q.pos).kind == 3)) = false) : Is2 (bd x (specP C)) q (badOf C q.pos z) sNone := by
  unfold badOf
  by_cases hz : z < 0
  · obtain ⟨h1, h2⟩ := is_neg hx hz
    simp only [hz, decide_true, Bool.true_and] at hi
    rw [h1, bd_ok, specP, hi, if_pos hz]
    rfl
  · obtain ⟨e, h1, h2⟩ := is_bad hx hz
    rw [h1, bd_error, if_neg hz]
    exact h2

set_option maxRecDepth 100000 in
set_option maxHeartbeats 3200000 in
theorem l4Spec_no (C : Cx) (gt cap base : Nat) (x : PR) (S : Sv) (q : PS) (z : Int) (d : Nat) (w : World) (hx : Is x q z) (hm : Mem C gt cap base S q w) (hi : (decide (z < 0) && ((tokAt C q.pos).kind == 3)) = false) :
    Calls Tryz.prog 131 #[pv C gt cap S q z d] w (Out2 C gt cap base (bd x (specP C)) d S w) := by
  have HM := hidI hm
  have htok := hm.tok
  have hfew := hm.few
  have HY : Hid (Is2 (bd x (specP C)) q (badOf C q.pos z) sNone) := spec_fail hx hi
  clear hx hm
  by_cases hz : z < 0
  · have dz2 : decide (0 ≤ z) = false := decide_eq_false (by omega)
    simp only [hz, decide_true, Bool.true_and] at hi
    by_cases hp : q.pos < C.ts.length
    · obtain ⟨c0, _, _, _⟩ := htok.cells hp (d := ⟨0, sNone, 0, C.fin⟩)
      have hglt := (ownT_lt htok).1
      change _ = some (Value.int .i64 (tokAt C q.pos).kind) at c0
      generalize htk : tokAt C q.pos = t at c0 hi
      have e1' : (t.kind != 3) = true := by rw [bne, hi]; rfl
      clear htk
      unfold pv
      go_enter Tryz.func131, Tryz.ntmps131
      go_wp2_with fail
      refine (fail_spec C gt cap base S q z d _ (ownT_alloc (ownT_alloc htok _) _) hfew).mono ?_
      rintro e w2 ⟨rfl, hb2⟩
      have G3 : Hid (_ = _) := (two_new hb2).2
      obtain ⟨c0, c1, c2, c3, c4, c5, c6, c7, c8, c9, c10, c11, cf⟩ := box_of G3.out
      unfold pv
      go_wp2
      refine bodyPost_ret (results_cell_row_tmp rfl _ _ (w.heap.size + 1) 53 _ (0, 0) _ rfl (put12 G3.out) Tryz.underlying53 rfl (by kernel_rfl)) rfl ?_
      exact out2_below rfl HY.out HM.out (below12 (two_below hb2) (Nat.le_succ _) _ _ _ _ _ _ _ _ _ _ _ _)
    · unfold pv
      go_enter Tryz.func131, Tryz.ntmps131
      go_wp2_with fail
      refine (fail_spec C gt cap base S q z d _ (ownT_alloc (ownT_alloc htok _) _) hfew).mono ?_
      rintro e w2 ⟨rfl, hb2⟩
      have G3 : Hid (_ = _) := (two_new hb2).2
      obtain ⟨c0, c1, c2, c3, c4, c5, c6, c7, c8, c9, c10, c11, cf⟩ := box_of G3.out
      unfold pv
      go_wp2
      refine bodyPost_ret (results_cell_row_tmp rfl _ _ (w.heap.size + 1) 53 _ (0, 0) _ rfl (put12 G3.out) Tryz.underlying53 rfl (by kernel_rfl)) rfl ?_
      exact out2_below rfl HY.out HM.out (below12 (two_below hb2) (Nat.le_succ _) _ _ _ _ _ _ _ _ _ _ _ _)
  · have dz2 : decide (0 ≤ z) = true := decide_eq_true (by omega)
    unfold pv
    go_enter Tryz.func131, Tryz.ntmps131
    go_wp2_with fail
    refine (fail_spec C gt cap base S q z d _ (ownT_alloc (ownT_alloc htok _) _) hfew).mono ?_
    rintro e w2 ⟨rfl, hb2⟩
    have G3 : Hid (_ = _) := (two_new hb2).2
    obtain ⟨c0, c1, c2, c3, c4, c5, c6, c7, c8, c9, c10, c11, cf⟩ := box_of G3.out
    unfold pv
    go_wp2
    refine bodyPost_ret (results_cell_row_tmp rfl _ _ (w.heap.size + 1) 53 _ (0, 0) _ rfl (put12 G3.out) Tryz.underlying53 rfl (by kernel_rfl)) rfl ?_
    exact out2_below rfl HY.out HM.out (below12 (two_below hb2) (Nat.le_succ _) _ _ _ _ _ _ _ _ _ _ _ _)

def txt (C : Cx) (q : PS) : ByteArray := (tokAt C q.pos).text
theorem spec_found {C : Cx} {q : PS} (h3 : ((tokAt C q.pos).kind == 3) = true) (hh : hasS q.rq (txt C q) = true) : specP C q = .ok (adv q, txt C q) := by
  unfold txt at hh
  rw [specP, if_pos h3, if_pos hh]; rfl
theorem spec_full {C : Cx} {q : PS} (h3 : ((tokAt C q.pos).kind == 3) = true) (hh : hasS q.rq (txt C q) = false) (hn : 40 ≤ q.rq.length) : specP C q = .error (here C q.pos) := by
  unfold txt at hh
  rw [specP, if_pos h3, hh, if_pos hn]; rfl
theorem spec_new {C : Cx} {q : PS} (h3 : ((tokAt C q.pos).kind == 3) = true) (hh : hasS q.rq (txt C q) = false) (hn : ¬ 40 ≤ q.rq.length) : specP C q = .ok ({ adv q with rq := q.rq ++ [txt C q] }, txt C q) := by
  unfold txt at hh
  rw [specP, if_pos h3, hh, if_neg hn]; rfl
set_option maxRecDepth 100000 in
set_option maxHeartbeats 3200000 in
theorem l4Spec_yes (C : Cx) (gt cap base : Nat) (S : Sv) (q : PS) (d : Nat) (w : World) (hm : Mem C gt cap base S q w) (h3 : ((tokAt C q.pos).kind == 3) = true) (g : Nat) (hga : q.rq.length = 0 ∨ S.rq.a = some ⟨g, 0, none⟩) :
    Calls Tryz.prog 131 #[pv C gt cap S q (-1) d] w (Out2 C gt cap base (specP C q) d S w) := by
  obtain ⟨i0, hi, hz0, hz1, hz2⟩ := info_parts Tryz.infoString
  have HM := hidI hm
  have H3 := hidI h3
  have hp : q.pos < C.ts.length := kind_lt h3 (by decide)
  have hfew := hm.few
  have hrq := hm.inv.rq
  have hglt := (ownT_lt hm.tok).1
  obtain ⟨c0, c1, _, _⟩ := hm.tok.cells hp (d := ⟨0, sNone, 0, C.fin⟩)
  change _ = some (Value.int .i64 (tokAt C q.pos).kind) at c0
  change _ = some (Value.string (txt C q)) at c1
  generalize (tokAt C q.pos).kind = kd at c0 h3
  have e1' : (kd != 3) = false := by rw [bne, h3]; rfl
  have HGA := hidI hga
  obtain ⟨R, hR⟩ : ∃ R : Nat → ByteArray, ∀ j, R j = q.rq.getD j sNone := ⟨fun j => q.rq.getD j sNone, fun _ => rfl⟩
  have HR := hidI hR
  have HC : Hid (∀ j, j < q.rq.length → w.cell? ⟨g, j, none⟩ = some (.string (R j))) := fun j hj => by
    rcases hga with e | e
    · omega
    · rw [hR]; exact HM.out.own.rq.str e hj
  clear hR
  generalize htx : txt C q = tx at c1
  have HTX := hidI htx
  have hown := fun o1 o2 o3 => ((HM.out.own.rq.alloc o1).alloc o2).alloc o3
  clear htx hm hga
  unfold pv
  go_enter Tryz.func131, Tryz.ntmps131
  go_wp2
  go_loop [5] (fun i => ∃ k : Nat, k ≤ q.rq.length ∧ i = .int .i64 k ∧ ∀ j, j < k → ¬ (R j).toList = tx.toList) (fun i => (q.rq.length - intOf i).toNat)
  case atStart => exact ⟨0, Nat.zero_le _, rfl, fun j hj => absurd hj (Nat.not_lt_zero j)⟩
  case round =>
    obtain ⟨k, hk, rfl, hno⟩ := hrel
    have HNO := hidI hno
    clear hno
    by_cases hlt : k < q.rq.length
    · have ha : S.rq.a = some ⟨g, 0, none⟩ := HGA.out.elim (fun e => by omega) id
      have hck := HC.out k hlt
      have hg1 := HM.out.own.rq.lt ha
      cases he : ((R k).toList == tx.toList) with
      | true =>
        have HS : Hid (specP C q = .ok (adv q, tx)) := by
          show specP C q = .ok (adv q, tx)
          rw [← HTX.out]
          exact spec_found H3.out (hasS_yes hlt (by rw [← HR.out, HTX.out]; exact he))
        have HA := hidI ha
        go_wp2
        refine bodyPost_ret (results_cell_row_tmp rfl _ _ (w.heap.size + 1) 53 _ (0, 0) _ rfl (new2 w _ _) Tryz.underlying53 rfl (by kernel_rfl)) rfl ?_
        rw [HS.out]
        exact out2_below (q' := adv q) (z' := -1) (by rw [pv, HA.out]; rfl) ⟨rfl, rfl, rfl⟩ (HM.out.adv hp) (below2 w _ _)
      | false =>
        have HX : Hid (∀ j, j < k + 1 → ¬ (R j).toList = tx.toList) := fun j hj => by
          by_cases e : j = k
          · rw [e]; exact beq_eq_false_iff_ne.1 he
          · exact HNO.out j (by omega)
        go_wp2
        go_round
        case rel => exact ⟨k + 1, by omega, by go_num, HX.out⟩
        case measure => simp [intOf]; omega
    · have HN : Hid (hasS q.rq (txt C q) = false) := hasS_no fun j hj => by rw [HTX.out, ← HR.out]; exact beq_eq_false_iff_ne.2 (HNO.out j (by omega))
      by_cases hn : 40 ≤ q.rq.length
      · have qn : decide ((40 : Int) ≤ (q.rq.length : Int)) = true := decide_eq_true (by omega)
        have HS : Hid (specP C q = .error (here C q.pos)) := spec_full H3.out HN.out hn
        go_wp2_with fail
        refine (l4Full_spec C gt cap base S (adv q) (-1) d _ (((HM.out.adv hp).alloc _).alloc _) (by decide) (by simp [adv])).mono ?_
        rintro e w2 ⟨rfl, hb2⟩
        have G3 : Hid (_ = _) := (two_new hb2).2
        obtain ⟨b0, b1, b2, b3, b4, b5, b6, b7, b8, b9, b10, b11, bf⟩ := box_of G3.out
        have HB : Hid (Below w.heap.size w w2) := two_below hb2
        clear hb2
        unfold pv
        go_wp2
        refine bodyPost_ret (results_cell_row_tmp rfl _ _ (w.heap.size + 1) 53 _ (0, 0) _ rfl (put12 G3.out) Tryz.underlying53 rfl (by kernel_rfl)) rfl ?_
        rw [HS.out]
        exact out2_below (q' := adv q) (z' := (here C q.pos : Int)) rfl rfl (HM.out.adv hp) (below12 HB.out (Nat.le_succ _) _ _ _ _ _ _ _ _ _ _ _ _)
      · have qn : decide ((40 : Int) ≤ (q.rq.length : Int)) = false := decide_eq_false (by omega)
        have HS : Hid (specP C q = .ok ({ adv q with rq := q.rq ++ [tx] }, tx)) := by
          show specP C q = .ok ({ adv q with rq := q.rq ++ [tx] }, tx)
          rw [← HTX.out]
          exact spec_new H3.out HN.out hn
        go_wp2_with (at_builtin; refine app_row _ rfl _ _ 22 rfl base 9 i0 _ 1 16 Tryz.underlying22 hi hz0 hz1 hz2 rfl (by decide) (by decide) S.rq q.rq.length _ (by rfl) (hown _ _ _) (w.heap.size + 1 + 1) [.string tx] (by rfl) (by exact (new3 w _ _ _).2.2) rfl (by intro u hu; simp at hu; subst hu; rfl) (by omega) (by have := HM.out.base; rw [size3]; omega) ?_)
        intro r' w2 hr hg hat
        have HRR := hidI hr
        have HG := hidI hg
        have HAT := hidI hat
        have hne := fun b hb => wpos (W := w) HM.out.own (Nat.le_refl _) (r := S.rq.blk) (fun k e => .inl e) b hb
        have g1 := (hg.block w.heap.size (by rw [size3]; omega) (hne _ (Nat.le_refl _))).trans (new3 w _ _ _).1
        have g2 := (hg.block (w.heap.size + 1) (by rw [size3]; omega) (hne _ (by omega))).trans (new3 w _ _ _).2.1
        obtain ⟨a0, a1, a2, a3, a4, a5, a6, a7, a8, a9, a10, a11, af⟩ := box_of g1
        obtain ⟨b0, b1, b2, b3, b4, b5, b6, b7, b8, b9, b10, b11, bf⟩ := box_of g2
        have G2 := hidI g2
        clear g1 g2 hg hr hat hne hown
        go_wp2
        refine bodyPost_ret (results_cell_row_tmp rfl _ _ (w.heap.size + 1) 53 _ (0, 0) _ rfl (put12 ((pother (by omega)).trans G2.out)) Tryz.underlying53 rfl (by kernel_rfl)) rfl ?_
        obtain ⟨m', s'⟩ := (HM.out.adv hp).grow_rq (x := tx) (below3 w _ _ _) HG.out HRR.out (by rw [size3]; exact HAT.out) (((Off.refl _ _ _).set (b := w.heap.size) (Nat.le_refl _) (by rw [size3]; omega) _ _).set12 (b := w.heap.size + 1) (by omega) (by rw [size3]; omega) _ _ _ _ _ _ _ _ _ _ _ _) (by show q.rq.length < 40; omega)
        rw [HS.out]
        exact ⟨_, { adv q with rq := q.rq ++ [tx] }, -1, tx, by simp [pv, adv], ⟨rfl, rfl, rfl⟩, m', s'⟩
theorem l4Spec_spec (C : Cx) (gt cap base : Nat) (x : PR) (S : Sv) (q : PS) (z : Int) (d : Nat) (w : World) (hx : Is x q z) (hm : Mem C gt cap base S q w) :
    Calls Tryz.prog 131 #[pv C gt cap S q z d] w (Out2 C gt cap base (bd x (specP C)) d S w) := by
  cases hi : (decide (z < 0) && ((tokAt C q.pos).kind == 3)) with
  | false => exact l4Spec_no C gt cap base x S q z d w hx hm hi
  | true =>
    rw [Bool.and_eq_true, decide_eq_true_eq] at hi
    obtain ⟨rfl, rfl⟩ := is_neg hx hi.1
    rw [bd_ok]
    rcases hm.own.rq.addr with e | ⟨g, e⟩
    · exact l4Spec_yes C gt cap base S q d w hm hi.2 0 (.inl e)
    · exact l4Spec_yes C gt cap base S q d w hm hi.2 g (.inr e)
end Go.Proofs.YticdggnnpjachaaGreat
