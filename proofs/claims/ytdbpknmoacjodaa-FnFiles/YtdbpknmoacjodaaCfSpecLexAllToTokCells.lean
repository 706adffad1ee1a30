/-
  What spec.Lex answers: the walk.
  The cells of a token that lies in a row. No program is spoken of.
-/
import Derived.Test.YtdbpknmoacjodaaCfSpecLex
import Derived.Test.YtdbpknmoacjodaaCfParseMemToModMem
namespace Go.Proofs.Ytdbpknmoacjodaa
open Go.RowKit Go.PlainAid

theorem Try.infoTok : (Try.prog.info? 223).map (fun i => (i.zero, i.size, i.bytes)) = some (some (.agg #[.int .i64 0, .string { data := #[] }, .int .i64 0, .int .i64 0]), 4, 40) := by kernel_rfl
def LexOut (s : ByteArray) (scr : Bool) (w : World) (e : Ending) (w' : World) : Prop :=
  ∃ r, LexR s scr r ∧ match r with
    | .ok ts => ∃ g n cap, e = .returned (.tuple #[.slice (some ⟨g, 0, none⟩) n cap, .int .i64 (-1)]) ∧ OwnT w' w.heap.size 223 g n cap ts
    | .error p => ∃ g cap, e = .returned (.tuple #[.slice (some ⟨g, 0, none⟩) 0 cap, .int .i64 p]) ∧ OwnT w' w.heap.size 223 g 0 cap []
theorem lex_error {s : ByteArray} {scr : Bool} {k n : Nat} {ts : List Tk} (h : ∀ r, Lx s scr k n r → LexR s scr (r.map (ts ++ ·))) (hk : k < s.size) (hb : 4000 ≤ n ∨ ∀ t e, ¬ Tok s scr k t e) : LexR s scr (.error k) := h _ (.bad hk hb)
theorem lex_done {s : ByteArray} {scr : Bool} {k n : Nat} {ts : List Tk} (h : ∀ r, Lx s scr k n r → LexR s scr (r.map (ts ++ ·))) (hk : k = s.size) : LexR s scr (.ok ts) := by
  subst hk
  have := h _ .done
  simpa [Except.map] using this
theorem lex_next {s : ByteArray} {scr : Bool} {k n e b : Nat} {t : Tk} {ts : List Tk} (h : ∀ r, Lx s scr k n r → LexR s scr (r.map (ts ++ ·))) (hk : k < s.size) (hn : n < 4000) (ht : Tok s scr k t e) (hs : Skip s e b) :
    ∀ r, Lx s scr b (n + 1) r → LexR s scr (r.map ((ts ++ [t]) ++ ·)) := by
  intro r hr
  have := h _ (.tok hk hn ht hs hr)
  cases r <;> simpa [Except.map] using this

theorem ownT_nil2 {w : World} {o : Obj} {e : TypeId} {base : Nat} (hb : base ≤ w.heap.size) : OwnT ((w.alloc o).alloc (.cells #[] e)) base e (w.heap.size + 1) 0 0 [] := by
  have := ownT_nil (w.alloc o) e base (by rw [alloc_size]; omega)
  rw [alloc_size] at this
  exact this

set_option maxRecDepth 100000 in
set_option maxHeartbeats 3200000 in
theorem lex_spec (s : ByteArray) (scr : Bool) (w : World) (hs : s.size ≤ 4294967296) :
    Calls Try.prog 108 #[.string s, .bool scr] w fun e w' => LexOut s scr w e w' ∧ Below w.heap.size w w' := by
  obtain ⟨i0, hi, hz0, hz1, hz2⟩ := info_parts Try.infoTok
  go_enter Try.func108, Try.ntmps108
  go_wp2_with fail
  refine (skip_spec _ 0 _ (Nat.zero_le _) hs).mono ?_
  rintro e w' ⟨k0, rfl, hsk, rfl⟩
  have HSK : Hid (Skip s 0 k0) := hsk
  have hk0 := (skip_bd hsk).2
  clear hsk
  go_wp2
  go_loopw [6, 7, 8, 9] (fun o i _ _ wr => ∃ (k n g cap : Nat) (ts : List Tk), k ≤ s.size ∧ n ≤ 4000 ∧ i = .int .i64 k ∧ o = .slice (some ⟨g, 0, none⟩) n cap ∧ OwnT wr w.heap.size 223 g n cap ts ∧ (∀ r, Lx s scr k n r → LexR s scr (r.map (ts ++ ·))) ∧ Below w.heap.size w wr) (fun _ i _ _ _ => (s.size - intOf i).toNat)
  case atStart => exact ⟨k0, 0, w.heap.size, 0, [], hk0, by omega, rfl, rfl, ownT_nil w _ _ (Nat.le_refl _), fun r hr => ⟨k0, HSK.out, by cases r <;> simpa [Except.map] using hr⟩, (Below.refl _ _).alloc (Nat.le_refl _) _⟩
  case round =>
    obtain ⟨k, n, g, cap, ts, hk, hn, rfl, rfl, hown, hlx, hb⟩ := hrel
    have HLX : Hid (∀ r, Lx s scr k n r → LexR s scr (r.map (ts ++ ·))) := hlx
    have hcp := ownT_lt hown
    clear hlx
    by_cases hlt : k < s.size
    · go_wp2_with fail
      refine (token_spec _ _ _ _ hlt hs).mono ?_
      rintro e w1 ⟨v, z, rfl, hout, hb1⟩
      have hb2 := hb.trans (hb1.mono hb.size)
      have hown1 := ownT_later hown hb1
      rcases hout with ⟨⟨kd, tx, nm, ps⟩, m, rfl, rfl, ht⟩ | ⟨rfl, ⟨c1, c2, c3, c4, rfl⟩, hno⟩
      · have HT : Hid (Tok s scr k ⟨kd, tx, nm, ps⟩ m) := ht
        have hm1 := (tok_end hlt ht).1
        have hm2 := (tok_end hlt ht).2.1
        clear ht
        by_cases hn4 : n < 4000
        · have q4 : decide ((4000 : Int) ≤ (n : Int)) = false := decide_eq_false (by omega)
          obtain ⟨W, hW⟩ : ∃ W, W = w1.alloc (.cells #[.int .i64 kd, .string tx, .int .i64 nm, .int .i64 ps] 223) := ⟨_, rfl⟩
          have HW : Hid (W = w1.alloc (.cells #[.int .i64 kd, .string tx, .int .i64 nm, .int .i64 ps] 223)) := hW
          have hbW : Below w.heap.size w W := by rw [hW]; exact hb2.alloc hb2.size _
          have hownW : OwnT W w.heap.size 223 g n cap ts := by rw [hW]; exact ownT_later hown1 ((Below.refl _ _).alloc (Nat.le_refl _) _)
          have hszW := hbW.size
          have HGX : Hid (w1.heap.size + 1 = W.heap.size) := by show _ = _; rw [hW, alloc_size]
          clear hW
          simp only [tkV]
          go_wp2_with (first | (at_builtin; rw [← HW.out]; refine app_tok W rfl _ _ 160 rfl w.heap.size 223 i0 _ Try.underlying160 hi hz0 hz1 hz2 rfl g n cap ts (by rfl) hownW ⟨kd, tx, nm, ps⟩ (w1.heap.size + 1) HGX.out (by rfl) (by omega) hszW ?_))
          intro g2 cap2 w2 hown2 hb3
          have hb4 := hbW.trans hb3
          go_wp2_with fail
          refine (skip_spec _ m _ hm2 hs).mono ?_
          rintro e w3 ⟨b, rfl, hsk, rfl⟩
          have HX : Hid (∀ r, Lx s scr b (n + 1) r → LexR s scr (r.map ((ts ++ [⟨kd, tx, nm, ps⟩]) ++ ·))) := lex_next HLX.out hlt hn4 HT.out hsk
          have hs1 := (skip_bd hsk).1
          have hs2 := (skip_bd hsk).2
          clear hsk
          go_wp2
          go_roundw
          case rel => exact ⟨b, n + 1, g2, cap2, ts ++ [⟨kd, tx, nm, ps⟩], hs2, by omega, rfl, rfl, hown2, HX.out, hb4⟩
          case measure => simp [intOf]; omega
        · have q4 : decide ((4000 : Int) ≤ (n : Int)) = true := decide_eq_true (by omega)
          have HE : Hid (LexR s scr (.error k)) := lex_error HLX.out hlt (.inl (by omega))
          simp only [tkV]
          go_wp2
          go_ret2
          exact ⟨⟨_, HE.out, _, _, rfl, ownT_nil2 hb2.size⟩, (hb2.alloc hb2.size _).alloc (by rw [alloc_size]; have := hb2.size; omega) _⟩
      · have HE : Hid (LexR s scr (.error k)) := lex_error HLX.out hlt (.inr hno)
        go_wp2
        go_ret2
        exact ⟨⟨_, HE.out, _, _, rfl, ownT_nil2 hb2.size⟩, (hb2.alloc hb2.size _).alloc (by rw [alloc_size]; have := hb2.size; omega) _⟩
    · have HE : Hid (LexR s scr (.ok ts)) := lex_done HLX.out (by omega)
      go_wp2
      go_ret2
      exact ⟨⟨_, HE.out, g, n, cap, rfl, hown⟩, hb⟩
end Go.Proofs.Ytdbpknmoacjodaa
namespace Go.Proofs.Ytdbpknmoacjodaa
open Go.RowKit Go.PlainAid

theorem OwnT.cells {w : World} {base g n cap : Nat} {e : TypeId} {ts : List Tk} (h : OwnT w base e g n cap ts) {j : Nat} (hj : j < n) {d : Tk} :
    w.cell? ⟨g, j * 4, none⟩ = some (.int .i64 (ts.getD j d).kind) ∧ w.cell? ⟨g, j * 4 + 1, none⟩ = some (.string (ts.getD j d).text) ∧ w.cell? ⟨g, j * 4 + 2, none⟩ = some (.int .i64 (ts.getD j d).num) ∧ w.cell? ⟨g, j * 4 + 3, none⟩ = some (.int .i64 (ts.getD j d).pos) := by
  have hl := h.2
  have key : ∀ (l : List Tk) (i c : Nat), c < 4 → i < l.length → (l.flatMap tkL)[i * 4 + c]? = (tkL (l.getD i d))[c]? := by
    intro l
    induction l with
    | nil => intro i c _ hi; simp at hi
    | cons x l ih =>
      intro i c hc hi
      match i with
      | 0 =>
        simp only [List.flatMap_cons, Nat.zero_mul, Nat.zero_add, List.getD_cons_zero]
        rw [List.getElem?_append_left (by simp [tkL]; omega)]
      | i + 1 =>
        simp only [List.flatMap_cons, List.getD_cons_succ]
        rw [List.getElem?_append_right (by simp [tkL]; omega)]
        have : (i + 1) * 4 + c - (tkL x).length = i * 4 + c := by simp [tkL]; omega
        rw [this]
        exact ih i c hc (by simpa using hi)
  have c0 := key ts j 0 (by omega) (by omega)
  have c1 := key ts j 1 (by omega) (by omega)
  have c2 := key ts j 2 (by omega) (by omega)
  have c3 := key ts j 3 (by omega) (by omega)
  rw [h.1.cellAt _ (by omega), h.1.cellAt _ (by omega), h.1.cellAt _ (by omega), h.1.cellAt _ (by omega)]
  exact ⟨c0, c1, c2, c3⟩
end Go.Proofs.Ytdbpknmoacjodaa
namespace Go.Proofs.Ytdbpknmoacjodaa
open Go.RowKit Go.PlainAid

def pv (C : Cx) (gt cap : Nat) (S : Sv) (q : PS) (z : Int) (d : Nat) : Value :=
  .agg #[.slice (some ⟨gt, 0, none⟩) C.ts.length cap, .int .i64 q.pos, .int .i64 C.fin, .bool C.scr, .slice S.rq.a q.rq.length S.rq.cap, .slice S.im.a q.im.length S.im.cap, .slice S.ep.a q.ep.length S.ep.cap,
    .slice S.st.a q.st.length S.st.cap, .slice S.ex.a q.ex.length S.ex.cap, .slice S.la.a q.la.length S.la.cap, .int .i64 z, .int .i64 d]

theorem isT_kind {C : Cx} {i : Nat} {k : Int} {s : ByteArray} (h : ((tokAt C i).kind == k) = false) : isT C i k s = false := by rw [isT, h]; rfl
theorem isT_end {C : Cx} {i : Nat} {k : Int} {s : ByteArray} (h : ¬ i < C.ts.length) (hk : k ≠ 0) : isT C i k s = false := by
  rw [Bool.eq_false_iff]
  exact fun g => h (isT_lt g hk)
set_option maxRecDepth 100000 in
set_option maxHeartbeats 1600000 in
theorem is_spec (C : Cx) (gt cap base : Nat) (S : Sv) (q : PS) (z : Int) (d : Nat) (k : Int) (s : ByteArray) (w : World) (ht : OwnT w base 223 gt C.ts.length cap C.ts) (_ : C.ts.length ≤ 4000) (hk : k ≠ 0) :
    Calls Try.prog 166 #[pv C gt cap S q z d, .int .i64 k, .string s] w fun e w' => e = .returned (.bool (decide (z < 0) && isT C q.pos k s)) ∧ Below w.heap.size w w' := by
  unfold pv
  by_cases hz : z < 0
  · have dz : decide (z < 0) = true := decide_eq_true hz
    by_cases hp : q.pos < C.ts.length
    · obtain ⟨c0, c1, _, _⟩ := ht.cells hp (d := ⟨0, sNone, 0, C.fin⟩)
      have hglt := (ownT_lt ht).1
      change _ = some (Value.int .i64 (tokAt C q.pos).kind) at c0
      change _ = some (Value.string (tokAt C q.pos).text) at c1
      generalize htk : tokAt C q.pos = t at c0 c1
      cases e1 : (t.kind == k) with
      | true =>
        cases e2 : (t.text.toList == s.toList) with
        | true =>
          have HV : Hid (isT C q.pos k s = true) := by show isT C q.pos k s = true; simp only [isT, htk, e1, e2, Bool.and_self]
          clear htk
          go_enter Try.func166, Try.ntmps166
          go_wp2
          go_ret
          exact ⟨ret_bool (by rw [dz, HV.out]; rfl), (Below.refl _ _).alloc (Nat.le_refl _) _⟩
        | false =>
          have HV : Hid (isT C q.pos k s = false) := by show isT C q.pos k s = false; simp only [isT, htk, e1, e2, Bool.and_false]
          clear htk
          go_enter Try.func166, Try.ntmps166
          go_wp2
          go_ret
          exact ⟨ret_bool (by rw [dz, HV.out]; rfl), (Below.refl _ _).alloc (Nat.le_refl _) _⟩
      | false =>
        have HV : Hid (isT C q.pos k s = false) := isT_kind (by rw [htk]; exact e1)
        clear htk
        go_enter Try.func166, Try.ntmps166
        go_wp2
        go_ret
        exact ⟨ret_bool (by rw [dz, HV.out]; rfl), (Below.refl _ _).alloc (Nat.le_refl _) _⟩
    · have HV : Hid (isT C q.pos k s = false) := isT_end hp hk
      go_enter Try.func166, Try.ntmps166
      go_wp2
      go_ret
      exact ⟨ret_bool (by rw [dz, HV.out]; rfl), (Below.refl _ _).alloc (Nat.le_refl _) _⟩
  · have dz : decide (z < 0) = false := decide_eq_false hz
    go_enter Try.func166, Try.ntmps166
    go_wp2
    go_ret
    exact ⟨ret_bool rfl, (Below.refl _ _).alloc (Nat.le_refl _) _⟩

set_option maxRecDepth 100000 in
theorem here_spec (C : Cx) (gt cap base : Nat) (S : Sv) (q : PS) (z : Int) (d : Nat) (w : World) (ht : OwnT w base 223 gt C.ts.length cap C.ts) (_ : C.ts.length ≤ 4000) :
    Calls Try.prog 211 #[pv C gt cap S q z d] w fun e w' => e = .returned (.int .i64 (here C q.pos)) ∧ Below w.heap.size w w' := by
  unfold pv
  by_cases hp : q.pos < C.ts.length
  · obtain ⟨_, _, _, c3⟩ := ht.cells hp (d := ⟨0, sNone, 0, C.fin⟩)
    have hglt := (ownT_lt ht).1
    change _ = some (Value.int .i64 (here C q.pos)) at c3
    go_enter Try.func211, Try.ntmps211
    go_wp2
    go_ret
    exact ⟨rfl, (Below.refl _ _).alloc (Nat.le_refl _) _⟩
  · have HV : Hid (here C q.pos = C.fin) := by show here C q.pos = C.fin; rw [here, tokAt_none (by omega)]
    go_enter Try.func211, Try.ntmps211
    go_wp2
    go_ret
    exact ⟨ret_int (by rw [HV.out]), (Below.refl _ _).alloc (Nat.le_refl _) _⟩
def badOf (C : Cx) (i : Nat) (z : Int) : Int := if z < 0 then here C i else z
theorem ownT_alloc {w : World} {base g n cap : Nat} {e : TypeId} {ts : List Tk} (h : OwnT w base e g n cap ts) (o : Obj) : OwnT (w.alloc o) base e g n cap ts := ownT_later h ((Below.refl _ _).alloc (Nat.le_refl _) _)
theorem pcell {w : World} {b i : Nat} {cs : Array Value} {u : Value} {t : TypeId} (h : w.heap[b]? = some (.cells cs t (0, 0))) : (w.setCell ⟨b, i, none⟩ u).heap[b]? = some (.cells (cs.setIfInBounds i u) t (0, 0)) := by
  simp only [World.setCell, Array.getElem?_modify]
  rw [if_pos trivial, h]
  rfl
theorem pother {w : World} {b c i : Nat} {u : Value} (h : b ≠ c) : (w.setCell ⟨c, i, none⟩ u).heap[b]? = w.heap[b]? := Below.heap_setCell w ⟨c, i, none⟩ u b h
structure Box (w : World) (b : Nat) (v0 v1 v2 v3 v4 v5 v6 v7 v8 v9 v10 v11 : Value) : Prop where
  c0 : w.cell? ⟨b, 0, none⟩ = some v0
  c1 : w.cell? ⟨b, 1, none⟩ = some v1
  c2 : w.cell? ⟨b, 2, none⟩ = some v2
  c3 : w.cell? ⟨b, 3, none⟩ = some v3
  c4 : w.cell? ⟨b, 4, none⟩ = some v4
  c5 : w.cell? ⟨b, 5, none⟩ = some v5
  c6 : w.cell? ⟨b, 6, none⟩ = some v6
  c7 : w.cell? ⟨b, 7, none⟩ = some v7
  c8 : w.cell? ⟨b, 8, none⟩ = some v8
  c9 : w.cell? ⟨b, 9, none⟩ = some v9
  c10 : w.cell? ⟨b, 10, none⟩ = some v10
  c11 : w.cell? ⟨b, 11, none⟩ = some v11
  fz : ∀ i, w.frozen? ⟨b, i, none⟩ = false
theorem box_of {w : World} {b : Nat} {t : TypeId} {v0 v1 v2 v3 v4 v5 v6 v7 v8 v9 v10 v11 : Value} (h : w.heap[b]? = some (.cells #[v0, v1, v2, v3, v4, v5, v6, v7, v8, v9, v10, v11] t (0, 0))) : Box w b v0 v1 v2 v3 v4 v5 v6 v7 v8 v9 v10 v11 := by
  constructor <;> simp [World.cell?, World.frozen?, h]
theorem put12 {w : World} {b : Nat} {v0 v1 v2 v3 v4 v5 v6 v7 v8 v9 v10 v11 x0 x1 x2 x3 x4 x5 x6 x7 x8 x9 x10 x11 : Value} {t : TypeId} (h : w.heap[b]? = some (.cells #[v0, v1, v2, v3, v4, v5, v6, v7, v8, v9, v10, v11] t (0, 0))) :
    ((((((((((((w.setCell ⟨b, 0, none⟩ x0).setCell ⟨b, 1, none⟩ x1).setCell ⟨b, 2, none⟩ x2).setCell ⟨b, 3, none⟩ x3).setCell ⟨b, 4, none⟩ x4).setCell ⟨b, 5, none⟩ x5).setCell ⟨b, 6, none⟩ x6).setCell ⟨b, 7, none⟩ x7).setCell ⟨b, 8, none⟩ x8).setCell ⟨b, 9, none⟩ x9).setCell ⟨b, 10, none⟩ x10).setCell ⟨b, 11, none⟩ x11).heap[b]? = some (.cells #[x0, x1, x2, x3, x4, x5, x6, x7, x8, x9, x10, x11] t (0, 0)) :=
  by
  have e := pcell (i := 11) (u := x11) (pcell (i := 10) (u := x10) (pcell (i := 9) (u := x9) (pcell (i := 8) (u := x8) (pcell (i := 7) (u := x7) (pcell (i := 6) (u := x6) (pcell (i := 5) (u := x5) (pcell (i := 4) (u := x4) (pcell (i := 3) (u := x3) (pcell (i := 2) (u := x2) (pcell (i := 1) (u := x1) (pcell (i := 0) (u := x0) h)))))))))))
  rw [e]
  simp
theorem below12 {B : Nat} {a w : World} {b : Nat} (h : Below B a w) (hb : B ≤ b) (x0 x1 x2 x3 x4 x5 x6 x7 x8 x9 x10 x11 : Value) :
    Below B a ((((((((((((w.setCell ⟨b, 0, none⟩ x0).setCell ⟨b, 1, none⟩ x1).setCell ⟨b, 2, none⟩ x2).setCell ⟨b, 3, none⟩ x3).setCell ⟨b, 4, none⟩ x4).setCell ⟨b, 5, none⟩ x5).setCell ⟨b, 6, none⟩ x6).setCell ⟨b, 7, none⟩ x7).setCell ⟨b, 8, none⟩ x8).setCell ⟨b, 9, none⟩ x9).setCell ⟨b, 10, none⟩ x10).setCell ⟨b, 11, none⟩ x11) :=
  (((((((((((h.setCell hb _).setCell hb _).setCell hb _).setCell hb _).setCell hb _).setCell hb _).setCell hb _).setCell hb _).setCell hb _).setCell hb _).setCell hb _).setCell hb _
theorem below2 (w : World) (a b : Obj) : Below w.heap.size w ((w.alloc a).alloc b) := ((Below.refl _ _).alloc (Nat.le_refl _) _).alloc (by show _ ≤ (w.heap.push _).size; simp) _
theorem new2 (w : World) (a b : Obj) : ((w.alloc a).alloc b).heap[w.heap.size + 1]? = some b := by
  have e1 : (w.alloc a).heap.size = w.heap.size + 1 := by show (w.heap.push _).size = _; simp
  rw [← e1]
  exact heap_alloc_new _ b
theorem two_new {w w1 : World} {a b : Obj} (hb : Below ((w.alloc a).alloc b).heap.size ((w.alloc a).alloc b) w1) : w1.heap[w.heap.size]? = some a ∧ w1.heap[w.heap.size + 1]? = some b := by
  have e : ((w.alloc a).alloc b).heap.size = w.heap.size + 2 := by show ((w.heap.push _).push _).size = _; simp
  have e1 : (w.alloc a).heap.size = w.heap.size + 1 := by show (w.heap.push _).size = _; simp
  refine ⟨?_, ?_⟩
  · rw [hb.block _ (by omega), Below.heap_alloc _ _ _ (by omega)]
    exact heap_alloc_new w a
  · rw [hb.block _ (by omega), ← e1]
    exact heap_alloc_new _ b
theorem two_below {w w1 : World} {a b : Obj} (hb : Below ((w.alloc a).alloc b).heap.size ((w.alloc a).alloc b) w1) : Below w.heap.size w w1 := by
  have e1 : (w.alloc a).heap.size = w.heap.size + 1 := by show (w.heap.push _).size = _; simp
  have h0 : Below w.heap.size w ((w.alloc a).alloc b) := ((Below.refl _ _).alloc (Nat.le_refl _) _).alloc (by omega) _
  exact h0.trans (hb.mono h0.size)
set_option maxRecDepth 100000 in
set_option maxHeartbeats 1600000 in
theorem fail_spec (C : Cx) (gt cap base : Nat) (S : Sv) (q : PS) (z : Int) (d : Nat) (w : World) (ht : OwnT w base 223 gt C.ts.length cap C.ts) (hn : C.ts.length ≤ 4000) :
    Calls Try.prog 201 #[pv C gt cap S q z d] w fun e w' => e = .returned (pv C gt cap S q (badOf C q.pos z) d) ∧ Below w.heap.size w w' := by
  by_cases hz : z < 0
  · have HB : Hid (badOf C q.pos z = here C q.pos) := if_pos hz
    unfold pv
    go_enter Try.func201, Try.ntmps201
    go_wp2_with fail
    refine (here_spec C gt cap base S q z d _ (ownT_alloc (ownT_alloc ht _) _) hn).mono ?_
    rintro e w1 ⟨rfl, hb⟩
    obtain ⟨g1, g2⟩ := two_new hb
    obtain ⟨a0, a1, a2, a3, a4, a5, a6, a7, a8, a9, a10, a11, af⟩ := box_of g1
    obtain ⟨b0, b1, b2, b3, b4, b5, b6, b7, b8, b9, b10, b11, bf⟩ := box_of g2
    have G2 : Hid (_ = _) := g2
    clear g1 g2
    go_wp2
    refine bodyPost_ret (results_cell_row rfl _ _ (w.heap.size + 1) 164 _ (0, 0) _ rfl (put12 ((pother (by omega)).trans G2.out)) Try.underlying164 rfl (by kernel_rfl)) rfl ?_
    exact ⟨by rw [HB.out], below12 ((two_below hb).setCell (Nat.le_refl _) _) (Nat.le_succ _) _ _ _ _ _ _ _ _ _ _ _ _⟩
  · have HB : Hid (badOf C q.pos z = z) := if_neg hz
    unfold pv
    go_enter Try.func201, Try.ntmps201
    go_wp2
    refine bodyPost_ret (results_cell_row rfl _ _ (w.heap.size + 1) 164 _ (0, 0) _ rfl (new2 w _ _) Try.underlying164 rfl (by kernel_rfl)) rfl ?_
    exact ⟨by rw [HB.out], below2 w _ _⟩
end Go.Proofs.Ytdbpknmoacjodaa
namespace Go.Proofs.Ytdbpknmoacjodaa
open Go.RowKit Go.PlainAid

theorem run_field0 (a c d : Int) (b : ByteArray) (w : World) : (Instr.field 223 (.agg #[.int .i64 a, .string b, .int .i64 c, .int .i64 d]) 0).run Try.prog w = .ok (.int .i64 a) w := by kernel_rfl
theorem run_field1 (a c d : Int) (b : ByteArray) (w : World) : (Instr.field 223 (.agg #[.int .i64 a, .string b, .int .i64 c, .int .i64 d]) 1).run Try.prog w = .ok (.string b) w := by kernel_rfl
theorem run_field2 (a c d : Int) (b : ByteArray) (w : World) : (Instr.field 223 (.agg #[.int .i64 a, .string b, .int .i64 c, .int .i64 d]) 2).run Try.prog w = .ok (.int .i64 c) w := by kernel_rfl
theorem run_field3 (a c d : Int) (b : ByteArray) (w : World) : (Instr.field 223 (.agg #[.int .i64 a, .string b, .int .i64 c, .int .i64 d]) 3).run Try.prog w = .ok (.int .i64 d) w := by kernel_rfl
end Go.Proofs.Ytdbpknmoacjodaa
namespace Go.Proofs.Ytdbpknmoacjodaa
open Go.RowKit Go.PlainAid

end Go.Proofs.Ytdbpknmoacjodaa
namespace Go.Proofs.Ytdbpknmoacjodaa
open Go.RowKit Go.PlainAid Go.Sort

theorem name_no_res {C : Cx} {q : PS} (h : resB (tokAt C q.pos).text C.scr = true) : nameP C false q = .error (here C q.pos) := by
  have : plainB C q.pos false = false := by rw [plainB, h]; simp
  rw [nameP, this]; rfl
theorem name_no_kind {C : Cx} {o : Bool} {q : PS} (h : ((tokAt C q.pos).kind == 1) = false) : nameP C o q = .error (here C q.pos) := by
  have : plainB C q.pos o = false := by rw [plainB, h]; rfl
  rw [nameP, this]; rfl
theorem name_is {C : Cx} {q : PS} (h : ((tokAt C q.pos).kind == 1) = true) (h2 : resB (tokAt C q.pos).text C.scr = false) : nameP C false q = .ok (adv q, (tokAt C q.pos).text) := by
  have : plainB C q.pos false = true := by rw [plainB, h, h2]; rfl
  rw [nameP, this]; rfl
theorem name_def {C : Cx} {q : PS} (h : isT C q.pos 1 sDefault = true) : nameP C true q = .ok (adv q, (tokAt C q.pos).text) := by
  have h' := h
  simp only [isT, Bool.and_eq_true] at h'
  have h2 : ((tokAt C q.pos).text.toList == [100, 101, 102, 97, 117, 108, 116]) = true := by
    have e : sDefault.toList = [100, 101, 102, 97, 117, 108, 116] := by simp
    rw [← e]; exact h'.2
  have : plainB C q.pos true = true := by rw [plainB, h'.1, h2]; simp
  rw [nameP, this]; rfl
theorem name_other {C : Cx} {q : PS} (h : isT C q.pos 1 sDefault = false) : nameP C true q = nameP C false q := by
  have e : sDefault.toList = [100, 101, 102, 97, 117, 108, 116] := by simp
  have : plainB C q.pos true = plainB C q.pos false := by
    simp only [isT, e] at h
    simp only [plainB]
    cases h1 : ((tokAt C q.pos).kind == 1) with
    | false => rfl
    | true =>
      rw [h1, Bool.true_and] at h
      rw [h]
      simp
  rw [nameP, nameP, this]
end Go.Proofs.Ytdbpknmoacjodaa
namespace Go.Proofs.Ytdbpknmoacjodaa
open Go.RowKit Go.PlainAid Go.Sort

end Go.Proofs.Ytdbpknmoacjodaa
