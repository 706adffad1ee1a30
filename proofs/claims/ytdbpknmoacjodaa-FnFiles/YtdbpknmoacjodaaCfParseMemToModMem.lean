/-
  A program under way in memory: its six rows, what a step leaves as it was. No program is spoken of but for the numbers of its types.
  One of the six rows of a program under way grows by one element: what holds behind it. No program is spoken of but for the numbers of its types.
  Items of programs, as plain functions. No program is spoken of.
  A whole program, as a plain function of its tokens: items one behind the other. No program is spoken of.
  A text has at most 4000 tokens. No program is spoken of.
  A program in memory, as Parse hands it back. No program is spoken of but for the numbers of its types.
-/
import Derived.Test.YtdbpknmoacjodaaCfSpecReadFilesToMarkRow
namespace Go.Proofs.Ytdbpknmoacjodaa
open Go.RowKit Go.PlainAid

def imL (x : Im) : List Value := [.string x.spec, .string x.first, .string x.loc]
def epL (x : Ep) : List Value := [.int .i64 x.kind, .string x.name, .string x.loc, .string x.spec]
def smL (x : Sm) : List Value := [.int .i64 x.kind, .string x.name, .int .i64 x.expr]
def exL (x : Ex) : List Value := [.int .i64 x.kind, .int .i64 x.num, .string x.name, .string x.field, .int .i64 x.l, .int .i64 x.r]
structure Rw where
  a : Option Addr
  cap : Nat
structure Sv where
  rq : Rw
  im : Rw
  ep : Rw
  st : Rw
  ex : Rw
  la : Rw
def Rw.blk (r : Rw) : Option Nat := (Value.slice r.a 0 r.cap).ownBlock
def Sv.has (S : Sv) (k : Nat) : Prop := S.rq.blk = some k ∨ S.im.blk = some k ∨ S.ep.blk = some k ∨ S.st.blk = some k ∨ S.ex.blk = some k ∨ S.la.blk = some k
def OwnR (w : World) (base : Nat) (e : TypeId) (size : Nat) (r : Rw) (n : Nat) (xs : List Value) : Prop := w.ownsRow base e size (.slice r.a n r.cap) n xs
theorem blk_any (r : Rw) (n : Nat) : (Value.slice r.a n r.cap).ownBlock = r.blk := by
  unfold Rw.blk Value.ownBlock
  cases r.a <;> rfl
structure Own (w : World) (base : Nat) (S : Sv) (q : PS) : Prop where
  rq : OwnR w base 9 1 S.rq q.rq.length (q.rq.map .string)
  im : OwnR w base 154 3 S.im q.im.length (q.im.flatMap imL)
  ep : OwnR w base 79 4 S.ep q.ep.length (q.ep.flatMap epL)
  st : OwnR w base 159 3 S.st q.st.length (q.st.flatMap smL)
  ex : OwnR w base 96 6 S.ex q.ex.length (q.ex.flatMap exL)
  la : OwnR w base 79 4 S.la q.la.length (q.la.flatMap epL)
  apart : ∀ k, S.ep.blk = some k → S.la.blk ≠ some k

theorem OwnR.typed {w : World} {base size n : Nat} {e : TypeId} {r : Rw} {xs : List Value} (h : OwnR w base e size r n xs) {k : Nat} (hk : r.blk = some k) : base ≤ k ∧ k < w.heap.size ∧ ∃ cur, w.heap[k]? = some (.cells cur e (0, 0)) := by
  rcases h.2 with ⟨hv, _⟩ | ⟨g, cap, cur, hv, hb, hg, _⟩
  · rw [← blk_any r n, hv] at hk
    simp [Value.ownBlock] at hk
  · rw [← blk_any r n, hv] at hk
    simp only [Value.ownBlock, Option.some.injEq] at hk
    subst hk
    exact ⟨hb, (Array.getElem?_eq_some_iff.1 hg).1, cur, hg⟩
theorem OwnR.ne {w : World} {b1 b2 s1 s2 n1 n2 : Nat} {e1 e2 : TypeId} {r1 r2 : Rw} {x1 x2 : List Value} (h1 : OwnR w b1 e1 s1 r1 n1 x1) (h2 : OwnR w b2 e2 s2 r2 n2 x2) (he : e1 ≠ e2) {k : Nat} (hk : r1.blk = some k) : r2.blk ≠ some k := by
  intro h
  obtain ⟨_, _, c1, g1⟩ := h1.typed hk
  obtain ⟨_, _, c2, g2⟩ := h2.typed h
  rw [g1] at g2
  simp only [Option.some.injEq, Obj.cells.injEq] at g2
  exact he g2.2.1
theorem OwnR.keep {w w' : World} {base size n : Nat} {e : TypeId} {r : Rw} {xs : List Value} (h : OwnR w base e size r n xs) (hk : ∀ k, r.blk = some k → w'.heap[k]? = w.heap[k]?) : OwnR w' base e size r n xs := by
  refine ⟨h.1, ?_⟩
  rcases h.2 with hv | ⟨g, cap, cur, hv, hb, hg, rest⟩
  · exact .inl hv
  · refine .inr ⟨g, cap, cur, hv, hb, ?_, rest⟩
    rw [hk g (by rw [← blk_any r n, hv]; rfl)]
    exact hg
theorem Own.keep {w w' : World} {base : Nat} {S : Sv} {q : PS} (h : Own w base S q) (hk : ∀ k, S.has k → w'.heap[k]? = w.heap[k]?) : Own w' base S q :=
  ⟨h.rq.keep fun k e => hk k (.inl e), h.im.keep fun k e => hk k (.inr (.inl e)), h.ep.keep fun k e => hk k (.inr (.inr (.inl e))), h.st.keep fun k e => hk k (.inr (.inr (.inr (.inl e)))),
    h.ex.keep fun k e => hk k (.inr (.inr (.inr (.inr (.inl e))))), h.la.keep fun k e => hk k (.inr (.inr (.inr (.inr (.inr e))))), h.apart⟩
theorem Own.has {w : World} {base : Nat} {S : Sv} {q : PS} (h : Own w base S q) {k : Nat} (hk : S.has k) : base ≤ k ∧ k < w.heap.size := by
  rcases hk with e | e | e | e | e | e
  · exact ⟨(h.rq.typed e).1, (h.rq.typed e).2.1⟩
  · exact ⟨(h.im.typed e).1, (h.im.typed e).2.1⟩
  · exact ⟨(h.ep.typed e).1, (h.ep.typed e).2.1⟩
  · exact ⟨(h.st.typed e).1, (h.st.typed e).2.1⟩
  · exact ⟨(h.ex.typed e).1, (h.ex.typed e).2.1⟩
  · exact ⟨(h.la.typed e).1, (h.la.typed e).2.1⟩
theorem Own.later {w w' : World} {base : Nat} {S : Sv} {q : PS} (h : Own w base S q) (hb : Below w.heap.size w w') : Own w' base S q := h.keep fun k e => hb.block k (h.has e).2
theorem Own.other {w : World} {base : Nat} {S : Sv} {q : PS} (h : Own w base S q) {k : Nat} {cur : Array Value} {e : TypeId} {z : Nat × Nat} (hg : w.heap[k]? = some (.cells cur e z)) (h1 : e ≠ 9) (h2 : e ≠ 154) (h3 : e ≠ 79) (h4 : e ≠ 159) (h5 : e ≠ 96) : ¬ S.has k := by
  rintro (g | g | g | g | g | g)
  · obtain ⟨_, _, c, e'⟩ := h.rq.typed g
    rw [hg] at e'
    simp only [Option.some.injEq, Obj.cells.injEq] at e'
    exact h1 e'.2.1
  · obtain ⟨_, _, c, e'⟩ := h.im.typed g
    rw [hg] at e'
    simp only [Option.some.injEq, Obj.cells.injEq] at e'
    exact h2 e'.2.1
  · obtain ⟨_, _, c, e'⟩ := h.ep.typed g
    rw [hg] at e'
    simp only [Option.some.injEq, Obj.cells.injEq] at e'
    exact h3 e'.2.1
  · obtain ⟨_, _, c, e'⟩ := h.st.typed g
    rw [hg] at e'
    simp only [Option.some.injEq, Obj.cells.injEq] at e'
    exact h4 e'.2.1
  · obtain ⟨_, _, c, e'⟩ := h.ex.typed g
    rw [hg] at e'
    simp only [Option.some.injEq, Obj.cells.injEq] at e'
    exact h5 e'.2.1
  · obtain ⟨_, _, c, e'⟩ := h.la.typed g
    rw [hg] at e'
    simp only [Option.some.injEq, Obj.cells.injEq] at e'
    exact h3 e'.2.1

structure Stp (S : Sv) (w : World) (S' : Sv) (w' : World) : Prop where
  os : w'.os = w.os
  tape : w'.tape = w.tape
  output : w'.output = w.output
  size : w.heap.size ≤ w'.heap.size
  block : ∀ k, k < w.heap.size → ¬ S.has k → w'.heap[k]? = w.heap[k]?
  sub : ∀ k, S'.has k → S.has k ∨ w.heap.size ≤ k
theorem Stp.refl (S : Sv) (w : World) : Stp S w S w := ⟨rfl, rfl, rfl, Nat.le_refl _, fun _ _ _ => rfl, fun _ h => .inl h⟩
theorem Stp.trans {S S1 S2 : Sv} {w w1 w2 : World} (h : Stp S w S1 w1) (k : Stp S1 w1 S2 w2) : Stp S w S2 w2 :=
  ⟨k.os.trans h.os, k.tape.trans h.tape, k.output.trans h.output, Nat.le_trans h.size k.size,
    fun i hi hn => (k.block i (Nat.lt_of_lt_of_le hi h.size) fun g => (h.sub i g).elim hn fun g' => by omega).trans (h.block i hi hn),
    fun i hi => (k.sub i hi).elim (h.sub i) fun g => .inr (Nat.le_trans h.size g)⟩
theorem Stp.below {S : Sv} {w w' : World} (h : Below w.heap.size w w') : Stp S w S w' := ⟨h.os, h.tape, h.output, h.size, fun k hk _ => h.block k hk, fun _ g => .inl g⟩
theorem Stp.under {S S' : Sv} {w w' : World} {base : Nat} {q : PS} (h : Stp S w S' w') (hb : base ≤ w.heap.size) (ho : Own w base S q) : Below base w w' :=
  ⟨h.os, h.tape, h.output, h.size, fun k hk => h.block k (by omega) fun g => by have := (ho.has g).1; omega⟩
theorem Stp.grown {S S' : Sv} {w w' : World} {row : Option Nat} (hg : w.grownBy w' row) (hr : ∀ k, row = some k → S.has k) (hs : ∀ k, S'.has k → S.has k ∨ w.heap.size ≤ k) : Stp S w S' w' :=
  ⟨hg.os, hg.tape, hg.output, hg.size, fun k hk hn => hg.block k hk fun e => hn (hr k e.symm), hs⟩
end Go.Proofs.Ytdbpknmoacjodaa
namespace Go.Proofs.Ytdbpknmoacjodaa
open Go.RowKit Go.PlainAid

structure Inv (C : Cx) (q : PS) : Prop where
  pos : q.pos ≤ C.ts.length
  rq : q.rq.length ≤ 40
  im : q.im.length ≤ 40
  ep : q.ep.length + q.la.length ≤ 40
  st : q.st.length ≤ 80
  ex : q.ex.length ≤ 300
structure Mem (C : Cx) (gt cap base : Nat) (S : Sv) (q : PS) (w : World) : Prop where
  own : Own w base S q
  inv : Inv C q
  tok : OwnT w base 223 gt C.ts.length cap C.ts
  few : C.ts.length ≤ 4000
  base : base ≤ w.heap.size
theorem Mem.later {C : Cx} {gt cap base : Nat} {S : Sv} {q : PS} {w w' : World} (h : Mem C gt cap base S q w) (hb : Below w.heap.size w w') : Mem C gt cap base S q w' :=
  ⟨h.own.later hb, h.inv, ownT_later h.tok hb, h.few, Nat.le_trans h.base hb.size⟩
theorem Mem.alloc {C : Cx} {gt cap base : Nat} {S : Sv} {q : PS} {w : World} (h : Mem C gt cap base S q w) (o : Obj) : Mem C gt cap base S q (w.alloc o) := h.later ((Below.refl _ _).alloc (Nat.le_refl _) _)
theorem Own.to {w : World} {base : Nat} {S : Sv} {q q' : PS} (h : Own w base S q) (h1 : q'.rq = q.rq) (h2 : q'.im = q.im) (h3 : q'.ep = q.ep) (h4 : q'.st = q.st) (h5 : q'.ex = q.ex) (h6 : q'.la = q.la) : Own w base S q' :=
  ⟨by rw [h1]; exact h.rq, by rw [h2]; exact h.im, by rw [h3]; exact h.ep, by rw [h4]; exact h.st, by rw [h5]; exact h.ex, by rw [h6]; exact h.la, h.apart⟩
theorem Mem.adv {C : Cx} {gt cap base : Nat} {S : Sv} {q : PS} {w : World} (h : Mem C gt cap base S q w) (hl : q.pos < C.ts.length) : Mem C gt cap base S (adv q) w :=
  ⟨h.own.to rfl rfl rfl rfl rfl rfl, ⟨hl, h.inv.rq, h.inv.im, h.inv.ep, h.inv.st, h.inv.ex⟩, h.tok, h.few, h.base⟩
theorem OwnR.alloc {w : World} {base size n : Nat} {e : TypeId} {r : Rw} {xs : List Value} (h : OwnR w base e size r n xs) (o : Obj) : OwnR (w.alloc o) base e size r n xs :=
  h.keep fun k hk => Below.heap_alloc w o k (h.typed hk).2.1
theorem ownT_block {w : World} {base g n cap : Nat} {e : TypeId} {ts : List Tk} (h : OwnT w base e g n cap ts) : ∃ cur, w.heap[g]? = some (.cells cur e (0, 0)) := by
  rcases h.1.2 with ⟨h', _⟩ | ⟨g', cap', cur, h', hb, hg, hn, _⟩
  · simp at h'
  · simp only [Value.slice.injEq, Option.some.injEq, Addr.mk.injEq, and_true, true_and] at h'
    obtain ⟨rfl, rfl⟩ := h'
    exact ⟨cur, hg⟩
theorem ownT_keep {w w' : World} {base g n cap : Nat} {e : TypeId} {ts : List Tk} (h : OwnT w base e g n cap ts) (hk : w'.heap[g]? = w.heap[g]?) : OwnT w' base e g n cap ts := by
  refine ⟨⟨h.1.1, ?_⟩, h.2⟩
  rcases h.1.2 with k | ⟨g', cap', cur, hv, hbase, hg, hr⟩
  · exact .inl k
  · simp only [Value.slice.injEq, Option.some.injEq, Addr.mk.injEq, and_true, true_and] at hv
    obtain ⟨rfl, rfl⟩ := hv
    exact .inr ⟨g, cap, cur, rfl, hbase, hk.trans hg, hr⟩
theorem Mem.gt_free {C : Cx} {gt cap base : Nat} {S : Sv} {q : PS} {w : World} (h : Mem C gt cap base S q w) : ¬ S.has gt := by
  obtain ⟨cur, hg⟩ := ownT_block h.tok
  exact h.own.other hg (by decide) (by decide) (by decide) (by decide) (by decide)

structure Off (lo hi : Nat) (w w' : World) : Prop where
  os : w'.os = w.os
  tape : w'.tape = w.tape
  output : w'.output = w.output
  size : w.heap.size ≤ w'.heap.size
  block : ∀ k, k < lo ∨ hi ≤ k ∧ k < w.heap.size → w'.heap[k]? = w.heap[k]?
theorem Off.refl (lo hi : Nat) (w : World) : Off lo hi w w := ⟨rfl, rfl, rfl, Nat.le_refl _, fun _ _ => rfl⟩
theorem Off.set {lo hi : Nat} {w w' : World} (h : Off lo hi w w') {b : Nat} (h1 : lo ≤ b) (h2 : b < hi) (i : Nat) (u : Value) : Off lo hi w (w'.setCell ⟨b, i, none⟩ u) :=
  ⟨h.os, h.tape, h.output, by show _ ≤ (w'.heap.modify _ _).size; simp; exact h.size, fun k hk => (Below.heap_setCell w' ⟨b, i, none⟩ u k (by show k ≠ b; omega)).trans (h.block k hk)⟩
theorem Off.below {lo hi : Nat} {w w1 w2 : World} (h : Off lo hi w w1) (hb : Below w1.heap.size w1 w2) (hlo : lo ≤ w.heap.size) : Off lo hi w w2 :=
  ⟨hb.os.trans h.os, hb.tape.trans h.tape, hb.output.trans h.output, Nat.le_trans h.size hb.size, fun k hk => (hb.block k (by have := h.size; omega)).trans (h.block k hk)⟩
theorem Off.set12 {lo hi : Nat} {a w : World} (h : Off lo hi a w) {b : Nat} (h1 : lo ≤ b) (h2 : b < hi) (x0 x1 x2 x3 x4 x5 x6 x7 x8 x9 x10 x11 : Value) :
    Off lo hi a ((((((((((((w.setCell ⟨b, 0, none⟩ x0).setCell ⟨b, 1, none⟩ x1).setCell ⟨b, 2, none⟩ x2).setCell ⟨b, 3, none⟩ x3).setCell ⟨b, 4, none⟩ x4).setCell ⟨b, 5, none⟩ x5).setCell ⟨b, 6, none⟩ x6).setCell ⟨b, 7, none⟩ x7).setCell ⟨b, 8, none⟩ x8).setCell ⟨b, 9, none⟩ x9).setCell ⟨b, 10, none⟩ x10).setCell ⟨b, 11, none⟩ x11) :=
  (((((((((((h.set h1 h2 _ _).set h1 h2 _ _).set h1 h2 _ _).set h1 h2 _ _).set h1 h2 _ _).set h1 h2 _ _).set h1 h2 _ _).set h1 h2 _ _).set h1 h2 _ _).set h1 h2 _ _).set h1 h2 _ _).set h1 h2 _ _

theorem app_row {P : Program} (W : World) {ops : Array Oper} {rest : List Oper} {o : Oper} {a : Act} {Q : Exit → Act → World → Prop} (hgd : o.guard = none) (s x : Operand) (t : TypeId)
    (ho : o.op = .call { callee := .builtin .append, args := #[s, x], argTypes := #[t, t] })
    (base : Nat) (e : TypeId) (i : TypeInfo) (z : Value) (size bytes : Nat) (ht : P.underlying t = some (.slice e)) (hi : P.info? e = some i) (hz : i.zero = some z) (hsize : i.size = size) (hby : i.bytes = bytes) (hzs : z.cells.size = size) (hsz : 0 < size) (h100 : bytes ≤ 100)
    (r : Rw) (n : Nat) (xs : List Value) (hs : a.eval s = .slice r.a n r.cap) (hown : OwnR W base e size r n xs)
    (gx : Nat) (news : List Value) (hx : a.eval x = .slice (some ⟨gx, 0, none⟩) 1 1) (hg : W.heap[gx]? = some (.cells news.toArray e (0, 0))) (hl : news.length = size) (h1 : ∀ u ∈ news, u.oneCell' = true) (hn : n + 1 ≤ 4000000) (hbase : base ≤ W.heap.size)
    (h : ∀ r' w', OwnR w' base e size r' (n + 1) (xs ++ news) → W.grownBy w' r.blk → (r'.blk = r.blk ∨ r'.blk = some W.heap.size) → wpList P ops Q rest (a.put o.dst (.slice r'.a (n + 1) r'.cap)) w') :
    wpList P ops Q (o :: rest) a W := by
  refine wpList_append_own_at _ hgd s x t ho base e i z size bytes ht hi hz hsize hby hzs hsz _ n _ hs hown ⟨gx, 0, none⟩ 1 1 news hx (by omega) ?_ h1 ?_ ?_ hbase ?_
  · intro j u hj
    have : (⟨gx, 0, none⟩ : Addr).add j = ⟨gx, j, none⟩ := by simp [Addr.add]; exact fun h => h.symm
    rw [this]
    simp [World.cell?, hg, hj]
  · unfold maxLen; omega
  · have : (n + 1) * bytes ≤ 4000000 * 100 := Nat.mul_le_mul hn h100
    omega
  · intro v' w' k1 k2 k3 k4
    rcases k1.2 with ⟨hv, hn0⟩ | ⟨g', cap', cur, rfl, hrest⟩
    · omega
    · refine h ⟨some ⟨g', 0, none⟩, cap'⟩ w' k1 ?_ ?_
      · rw [← blk_any r n]; exact k2
      · rw [← blk_any r n, ← blk_any ⟨some ⟨g', 0, none⟩, cap'⟩ (n + 1)]; exact k4

theorem Mem.grow_rq {C : Cx} {gt cap base : Nat} {S : Sv} {q : PS} {w W w' wF : World} (hm : Mem C gt cap base S q w) (hW : Below w.heap.size w W) (hg : W.grownBy w' S.rq.blk) {r' : Rw} {x : ByteArray} (hr : OwnR w' base 9 1 r' (q.rq.length + 1) (q.rq.map .string ++ [.string x])) (hat : r'.blk = S.rq.blk ∨ r'.blk = some W.heap.size) (hoff : Off w.heap.size W.heap.size w' wF) (hn : q.rq.length < 40) :
    Mem C gt cap base { S with rq := r' } { q with rq := q.rq ++ [x] } wF ∧ Stp S w { S with rq := r' } wF := by
  have hsz := hW.size
  have hsz2 := hg.size
  have hkeep : ∀ k, k < w.heap.size → S.rq.blk ≠ some k → wF.heap[k]? = w.heap[k]? := fun k hk hne =>
    (hoff.block k (.inl hk)).trans ((hg.block k (by omega) fun e => hne e.symm).trans (hW.block k hk))
  have hnew : OwnR wF base 9 1 r' (q.rq.length + 1) (q.rq.map .string ++ [.string x]) := hr.keep fun k hk => hoff.block k (by
    rcases hat with e | e
    · rw [e] at hk
      exact .inl (hm.own.rq.typed hk).2.1
    · rw [e] at hk
      obtain rfl := Option.some.inj hk
      exact .inr ⟨Nat.le_refl _, (hr.typed e).2.1⟩)
  have hlen : (q.rq ++ [x]).length = q.rq.length + 1 := by simp
  refine ⟨⟨⟨by show OwnR wF base 9 1 r' (q.rq ++ [x]).length _; rw [hlen]; simpa using hnew, hm.own.im.keep fun k hk => hkeep k (hm.own.im.typed hk).2.1 (hm.own.im.ne hm.own.rq (by decide) hk), hm.own.ep.keep fun k hk => hkeep k (hm.own.ep.typed hk).2.1 (hm.own.ep.ne hm.own.rq (by decide) hk), hm.own.st.keep fun k hk => hkeep k (hm.own.st.typed hk).2.1 (hm.own.st.ne hm.own.rq (by decide) hk), hm.own.ex.keep fun k hk => hkeep k (hm.own.ex.typed hk).2.1 (hm.own.ex.ne hm.own.rq (by decide) hk), hm.own.la.keep fun k hk => hkeep k (hm.own.la.typed hk).2.1 (hm.own.la.ne hm.own.rq (by decide) hk), hm.own.apart⟩, ⟨hm.inv.pos, by simp; omega, hm.inv.im, hm.inv.ep, hm.inv.st, hm.inv.ex⟩, ownT_keep hm.tok (hkeep gt (ownT_lt hm.tok).1 fun e => hm.gt_free (.inl e)), hm.few, Nat.le_trans hm.base (by have := hoff.size; omega)⟩, ?_⟩
  refine ⟨hoff.os.trans (hg.os.trans hW.os), hoff.tape.trans (hg.tape.trans hW.tape), hoff.output.trans (hg.output.trans hW.output), Nat.le_trans (Nat.le_trans hsz hsz2) hoff.size, fun k hk hn => hkeep k hk fun e => hn (.inl e), fun k hk => ?_⟩
  rcases hk with h | h | h | h | h | h
  · exact hat.elim (fun e => .inl (.inl (e.symm.trans h))) fun e => .inr (by have : W.heap.size = k := Option.some.inj (e.symm.trans h); omega)
  · exact .inl (.inr (.inl h))
  · exact .inl (.inr (.inr (.inl h)))
  · exact .inl (.inr (.inr (.inr (.inl h))))
  · exact .inl (.inr (.inr (.inr (.inr (.inl h)))))
  · exact .inl (.inr (.inr (.inr (.inr (.inr h)))))
theorem Mem.grow_im {C : Cx} {gt cap base : Nat} {S : Sv} {q : PS} {w W w' wF : World} (hm : Mem C gt cap base S q w) (hW : Below w.heap.size w W) (hg : W.grownBy w' S.im.blk) {r' : Rw} {x : Im} (hr : OwnR w' base 154 3 r' (q.im.length + 1) (q.im.flatMap imL ++ imL x)) (hat : r'.blk = S.im.blk ∨ r'.blk = some W.heap.size) (hoff : Off w.heap.size W.heap.size w' wF) (hn : q.im.length < 40) :
    Mem C gt cap base { S with im := r' } { q with im := q.im ++ [x] } wF ∧ Stp S w { S with im := r' } wF := by
  have hsz := hW.size
  have hsz2 := hg.size
  have hkeep : ∀ k, k < w.heap.size → S.im.blk ≠ some k → wF.heap[k]? = w.heap[k]? := fun k hk hne =>
    (hoff.block k (.inl hk)).trans ((hg.block k (by omega) fun e => hne e.symm).trans (hW.block k hk))
  have hnew : OwnR wF base 154 3 r' (q.im.length + 1) (q.im.flatMap imL ++ imL x) := hr.keep fun k hk => hoff.block k (by
    rcases hat with e | e
    · rw [e] at hk
      exact .inl (hm.own.im.typed hk).2.1
    · rw [e] at hk
      obtain rfl := Option.some.inj hk
      exact .inr ⟨Nat.le_refl _, (hr.typed e).2.1⟩)
  have hlen : (q.im ++ [x]).length = q.im.length + 1 := by simp
  refine ⟨⟨⟨hm.own.rq.keep fun k hk => hkeep k (hm.own.rq.typed hk).2.1 (hm.own.rq.ne hm.own.im (by decide) hk), by show OwnR wF base 154 3 r' (q.im ++ [x]).length _; rw [hlen]; simpa using hnew, hm.own.ep.keep fun k hk => hkeep k (hm.own.ep.typed hk).2.1 (hm.own.ep.ne hm.own.im (by decide) hk), hm.own.st.keep fun k hk => hkeep k (hm.own.st.typed hk).2.1 (hm.own.st.ne hm.own.im (by decide) hk), hm.own.ex.keep fun k hk => hkeep k (hm.own.ex.typed hk).2.1 (hm.own.ex.ne hm.own.im (by decide) hk), hm.own.la.keep fun k hk => hkeep k (hm.own.la.typed hk).2.1 (hm.own.la.ne hm.own.im (by decide) hk), hm.own.apart⟩, ⟨hm.inv.pos, hm.inv.rq, by simp; omega, hm.inv.ep, hm.inv.st, hm.inv.ex⟩, ownT_keep hm.tok (hkeep gt (ownT_lt hm.tok).1 fun e => hm.gt_free (.inr (.inl e))), hm.few, Nat.le_trans hm.base (by have := hoff.size; omega)⟩, ?_⟩
  refine ⟨hoff.os.trans (hg.os.trans hW.os), hoff.tape.trans (hg.tape.trans hW.tape), hoff.output.trans (hg.output.trans hW.output), Nat.le_trans (Nat.le_trans hsz hsz2) hoff.size, fun k hk hn => hkeep k hk fun e => hn (.inr (.inl e)), fun k hk => ?_⟩
  rcases hk with h | h | h | h | h | h
  · exact .inl (.inl h)
  · exact hat.elim (fun e => .inl (.inr (.inl (e.symm.trans h)))) fun e => .inr (by have : W.heap.size = k := Option.some.inj (e.symm.trans h); omega)
  · exact .inl (.inr (.inr (.inl h)))
  · exact .inl (.inr (.inr (.inr (.inl h))))
  · exact .inl (.inr (.inr (.inr (.inr (.inl h)))))
  · exact .inl (.inr (.inr (.inr (.inr (.inr h)))))
theorem Mem.grow_ep {C : Cx} {gt cap base : Nat} {S : Sv} {q : PS} {w W w' wF : World} (hm : Mem C gt cap base S q w) (hW : Below w.heap.size w W) (hg : W.grownBy w' S.ep.blk) {r' : Rw} {x : Ep} (hr : OwnR w' base 79 4 r' (q.ep.length + 1) (q.ep.flatMap epL ++ epL x)) (hat : r'.blk = S.ep.blk ∨ r'.blk = some W.heap.size) (hoff : Off w.heap.size W.heap.size w' wF) (hn : q.ep.length + q.la.length < 40) :
    Mem C gt cap base { S with ep := r' } { q with ep := q.ep ++ [x] } wF ∧ Stp S w { S with ep := r' } wF := by
  have hsz := hW.size
  have hsz2 := hg.size
  have hkeep : ∀ k, k < w.heap.size → S.ep.blk ≠ some k → wF.heap[k]? = w.heap[k]? := fun k hk hne =>
    (hoff.block k (.inl hk)).trans ((hg.block k (by omega) fun e => hne e.symm).trans (hW.block k hk))
  have hnew : OwnR wF base 79 4 r' (q.ep.length + 1) (q.ep.flatMap epL ++ epL x) := hr.keep fun k hk => hoff.block k (by
    rcases hat with e | e
    · rw [e] at hk
      exact .inl (hm.own.ep.typed hk).2.1
    · rw [e] at hk
      obtain rfl := Option.some.inj hk
      exact .inr ⟨Nat.le_refl _, (hr.typed e).2.1⟩)
  have hlen : (q.ep ++ [x]).length = q.ep.length + 1 := by simp
  refine ⟨⟨⟨hm.own.rq.keep fun k hk => hkeep k (hm.own.rq.typed hk).2.1 (hm.own.rq.ne hm.own.ep (by decide) hk), hm.own.im.keep fun k hk => hkeep k (hm.own.im.typed hk).2.1 (hm.own.im.ne hm.own.ep (by decide) hk), by show OwnR wF base 79 4 r' (q.ep ++ [x]).length _; rw [hlen]; simpa using hnew, hm.own.st.keep fun k hk => hkeep k (hm.own.st.typed hk).2.1 (hm.own.st.ne hm.own.ep (by decide) hk), hm.own.ex.keep fun k hk => hkeep k (hm.own.ex.typed hk).2.1 (hm.own.ex.ne hm.own.ep (by decide) hk), hm.own.la.keep fun k hk => hkeep k (hm.own.la.typed hk).2.1 (fun e => hm.own.apart k e hk), fun k hk hl => hat.elim (fun e => hm.own.apart k (by rw [← e]; exact hk) hl) fun e => by have h1 := (hm.own.la.typed hl).2.1; have h2 : W.heap.size = k := Option.some.inj (e.symm.trans hk); omega⟩, ⟨hm.inv.pos, hm.inv.rq, hm.inv.im, by have := hm.inv.ep; simp; omega, hm.inv.st, hm.inv.ex⟩, ownT_keep hm.tok (hkeep gt (ownT_lt hm.tok).1 fun e => hm.gt_free (.inr (.inr (.inl e)))), hm.few, Nat.le_trans hm.base (by have := hoff.size; omega)⟩, ?_⟩
  refine ⟨hoff.os.trans (hg.os.trans hW.os), hoff.tape.trans (hg.tape.trans hW.tape), hoff.output.trans (hg.output.trans hW.output), Nat.le_trans (Nat.le_trans hsz hsz2) hoff.size, fun k hk hn => hkeep k hk fun e => hn (.inr (.inr (.inl e))), fun k hk => ?_⟩
  rcases hk with h | h | h | h | h | h
  · exact .inl (.inl h)
  · exact .inl (.inr (.inl h))
  · exact hat.elim (fun e => .inl (.inr (.inr (.inl (e.symm.trans h))))) fun e => .inr (by have : W.heap.size = k := Option.some.inj (e.symm.trans h); omega)
  · exact .inl (.inr (.inr (.inr (.inl h))))
  · exact .inl (.inr (.inr (.inr (.inr (.inl h)))))
  · exact .inl (.inr (.inr (.inr (.inr (.inr h)))))
theorem Mem.grow_st {C : Cx} {gt cap base : Nat} {S : Sv} {q : PS} {w W w' wF : World} (hm : Mem C gt cap base S q w) (hW : Below w.heap.size w W) (hg : W.grownBy w' S.st.blk) {r' : Rw} {x : Sm} (hr : OwnR w' base 159 3 r' (q.st.length + 1) (q.st.flatMap smL ++ smL x)) (hat : r'.blk = S.st.blk ∨ r'.blk = some W.heap.size) (hoff : Off w.heap.size W.heap.size w' wF) (hn : q.st.length < 80) :
    Mem C gt cap base { S with st := r' } { q with st := q.st ++ [x] } wF ∧ Stp S w { S with st := r' } wF := by
  have hsz := hW.size
  have hsz2 := hg.size
  have hkeep : ∀ k, k < w.heap.size → S.st.blk ≠ some k → wF.heap[k]? = w.heap[k]? := fun k hk hne =>
    (hoff.block k (.inl hk)).trans ((hg.block k (by omega) fun e => hne e.symm).trans (hW.block k hk))
  have hnew : OwnR wF base 159 3 r' (q.st.length + 1) (q.st.flatMap smL ++ smL x) := hr.keep fun k hk => hoff.block k (by
    rcases hat with e | e
    · rw [e] at hk
      exact .inl (hm.own.st.typed hk).2.1
    · rw [e] at hk
      obtain rfl := Option.some.inj hk
      exact .inr ⟨Nat.le_refl _, (hr.typed e).2.1⟩)
  have hlen : (q.st ++ [x]).length = q.st.length + 1 := by simp
  refine ⟨⟨⟨hm.own.rq.keep fun k hk => hkeep k (hm.own.rq.typed hk).2.1 (hm.own.rq.ne hm.own.st (by decide) hk), hm.own.im.keep fun k hk => hkeep k (hm.own.im.typed hk).2.1 (hm.own.im.ne hm.own.st (by decide) hk), hm.own.ep.keep fun k hk => hkeep k (hm.own.ep.typed hk).2.1 (hm.own.ep.ne hm.own.st (by decide) hk), by show OwnR wF base 159 3 r' (q.st ++ [x]).length _; rw [hlen]; simpa using hnew, hm.own.ex.keep fun k hk => hkeep k (hm.own.ex.typed hk).2.1 (hm.own.ex.ne hm.own.st (by decide) hk), hm.own.la.keep fun k hk => hkeep k (hm.own.la.typed hk).2.1 (hm.own.la.ne hm.own.st (by decide) hk), hm.own.apart⟩, ⟨hm.inv.pos, hm.inv.rq, hm.inv.im, hm.inv.ep, by simp; omega, hm.inv.ex⟩, ownT_keep hm.tok (hkeep gt (ownT_lt hm.tok).1 fun e => hm.gt_free (.inr (.inr (.inr (.inl e))))), hm.few, Nat.le_trans hm.base (by have := hoff.size; omega)⟩, ?_⟩
  refine ⟨hoff.os.trans (hg.os.trans hW.os), hoff.tape.trans (hg.tape.trans hW.tape), hoff.output.trans (hg.output.trans hW.output), Nat.le_trans (Nat.le_trans hsz hsz2) hoff.size, fun k hk hn => hkeep k hk fun e => hn (.inr (.inr (.inr (.inl e)))), fun k hk => ?_⟩
  rcases hk with h | h | h | h | h | h
  · exact .inl (.inl h)
  · exact .inl (.inr (.inl h))
  · exact .inl (.inr (.inr (.inl h)))
  · exact hat.elim (fun e => .inl (.inr (.inr (.inr (.inl (e.symm.trans h)))))) fun e => .inr (by have : W.heap.size = k := Option.some.inj (e.symm.trans h); omega)
  · exact .inl (.inr (.inr (.inr (.inr (.inl h)))))
  · exact .inl (.inr (.inr (.inr (.inr (.inr h)))))
theorem Mem.grow_ex {C : Cx} {gt cap base : Nat} {S : Sv} {q : PS} {w W w' wF : World} (hm : Mem C gt cap base S q w) (hW : Below w.heap.size w W) (hg : W.grownBy w' S.ex.blk) {r' : Rw} {x : Ex} (hr : OwnR w' base 96 6 r' (q.ex.length + 1) (q.ex.flatMap exL ++ exL x)) (hat : r'.blk = S.ex.blk ∨ r'.blk = some W.heap.size) (hoff : Off w.heap.size W.heap.size w' wF) (hn : q.ex.length < 300) :
    Mem C gt cap base { S with ex := r' } { q with ex := q.ex ++ [x] } wF ∧ Stp S w { S with ex := r' } wF := by
  have hsz := hW.size
  have hsz2 := hg.size
  have hkeep : ∀ k, k < w.heap.size → S.ex.blk ≠ some k → wF.heap[k]? = w.heap[k]? := fun k hk hne =>
    (hoff.block k (.inl hk)).trans ((hg.block k (by omega) fun e => hne e.symm).trans (hW.block k hk))
  have hnew : OwnR wF base 96 6 r' (q.ex.length + 1) (q.ex.flatMap exL ++ exL x) := hr.keep fun k hk => hoff.block k (by
    rcases hat with e | e
    · rw [e] at hk
      exact .inl (hm.own.ex.typed hk).2.1
    · rw [e] at hk
      obtain rfl := Option.some.inj hk
      exact .inr ⟨Nat.le_refl _, (hr.typed e).2.1⟩)
  have hlen : (q.ex ++ [x]).length = q.ex.length + 1 := by simp
  refine ⟨⟨⟨hm.own.rq.keep fun k hk => hkeep k (hm.own.rq.typed hk).2.1 (hm.own.rq.ne hm.own.ex (by decide) hk), hm.own.im.keep fun k hk => hkeep k (hm.own.im.typed hk).2.1 (hm.own.im.ne hm.own.ex (by decide) hk), hm.own.ep.keep fun k hk => hkeep k (hm.own.ep.typed hk).2.1 (hm.own.ep.ne hm.own.ex (by decide) hk), hm.own.st.keep fun k hk => hkeep k (hm.own.st.typed hk).2.1 (hm.own.st.ne hm.own.ex (by decide) hk), by show OwnR wF base 96 6 r' (q.ex ++ [x]).length _; rw [hlen]; simpa using hnew, hm.own.la.keep fun k hk => hkeep k (hm.own.la.typed hk).2.1 (hm.own.la.ne hm.own.ex (by decide) hk), hm.own.apart⟩, ⟨hm.inv.pos, hm.inv.rq, hm.inv.im, hm.inv.ep, hm.inv.st, by simp; omega⟩, ownT_keep hm.tok (hkeep gt (ownT_lt hm.tok).1 fun e => hm.gt_free (.inr (.inr (.inr (.inr (.inl e)))))), hm.few, Nat.le_trans hm.base (by have := hoff.size; omega)⟩, ?_⟩
  refine ⟨hoff.os.trans (hg.os.trans hW.os), hoff.tape.trans (hg.tape.trans hW.tape), hoff.output.trans (hg.output.trans hW.output), Nat.le_trans (Nat.le_trans hsz hsz2) hoff.size, fun k hk hn => hkeep k hk fun e => hn (.inr (.inr (.inr (.inr (.inl e))))), fun k hk => ?_⟩
  rcases hk with h | h | h | h | h | h
  · exact .inl (.inl h)
  · exact .inl (.inr (.inl h))
  · exact .inl (.inr (.inr (.inl h)))
  · exact .inl (.inr (.inr (.inr (.inl h))))
  · exact hat.elim (fun e => .inl (.inr (.inr (.inr (.inr (.inl (e.symm.trans h))))))) fun e => .inr (by have : W.heap.size = k := Option.some.inj (e.symm.trans h); omega)
  · exact .inl (.inr (.inr (.inr (.inr (.inr h)))))
theorem Mem.grow_la {C : Cx} {gt cap base : Nat} {S : Sv} {q : PS} {w W w' wF : World} (hm : Mem C gt cap base S q w) (hW : Below w.heap.size w W) (hg : W.grownBy w' S.la.blk) {r' : Rw} {x : Ep} (hr : OwnR w' base 79 4 r' (q.la.length + 1) (q.la.flatMap epL ++ epL x)) (hat : r'.blk = S.la.blk ∨ r'.blk = some W.heap.size) (hoff : Off w.heap.size W.heap.size w' wF) (hn : q.ep.length + q.la.length < 40) :
    Mem C gt cap base { S with la := r' } { q with la := q.la ++ [x] } wF ∧ Stp S w { S with la := r' } wF := by
  have hsz := hW.size
  have hsz2 := hg.size
  have hkeep : ∀ k, k < w.heap.size → S.la.blk ≠ some k → wF.heap[k]? = w.heap[k]? := fun k hk hne =>
    (hoff.block k (.inl hk)).trans ((hg.block k (by omega) fun e => hne e.symm).trans (hW.block k hk))
  have hnew : OwnR wF base 79 4 r' (q.la.length + 1) (q.la.flatMap epL ++ epL x) := hr.keep fun k hk => hoff.block k (by
    rcases hat with e | e
    · rw [e] at hk
      exact .inl (hm.own.la.typed hk).2.1
    · rw [e] at hk
      obtain rfl := Option.some.inj hk
      exact .inr ⟨Nat.le_refl _, (hr.typed e).2.1⟩)
  have hlen : (q.la ++ [x]).length = q.la.length + 1 := by simp
  refine ⟨⟨⟨hm.own.rq.keep fun k hk => hkeep k (hm.own.rq.typed hk).2.1 (hm.own.rq.ne hm.own.la (by decide) hk), hm.own.im.keep fun k hk => hkeep k (hm.own.im.typed hk).2.1 (hm.own.im.ne hm.own.la (by decide) hk), hm.own.ep.keep fun k hk => hkeep k (hm.own.ep.typed hk).2.1 (fun e => hm.own.apart k hk e), hm.own.st.keep fun k hk => hkeep k (hm.own.st.typed hk).2.1 (hm.own.st.ne hm.own.la (by decide) hk), hm.own.ex.keep fun k hk => hkeep k (hm.own.ex.typed hk).2.1 (hm.own.ex.ne hm.own.la (by decide) hk), by show OwnR wF base 79 4 r' (q.la ++ [x]).length _; rw [hlen]; simpa using hnew, fun k hk hl => hat.elim (fun e => hm.own.apart k hk (by rw [← e]; exact hl)) fun e => by have h1 := (hm.own.ep.typed hk).2.1; have h2 : W.heap.size = k := Option.some.inj (e.symm.trans hl); omega⟩, ⟨hm.inv.pos, hm.inv.rq, hm.inv.im, by have := hm.inv.ep; simp; omega, hm.inv.st, hm.inv.ex⟩, ownT_keep hm.tok (hkeep gt (ownT_lt hm.tok).1 fun e => hm.gt_free (.inr (.inr (.inr (.inr (.inr e)))))), hm.few, Nat.le_trans hm.base (by have := hoff.size; omega)⟩, ?_⟩
  refine ⟨hoff.os.trans (hg.os.trans hW.os), hoff.tape.trans (hg.tape.trans hW.tape), hoff.output.trans (hg.output.trans hW.output), Nat.le_trans (Nat.le_trans hsz hsz2) hoff.size, fun k hk hn => hkeep k hk fun e => hn (.inr (.inr (.inr (.inr (.inr e))))), fun k hk => ?_⟩
  rcases hk with h | h | h | h | h | h
  · exact .inl (.inl h)
  · exact .inl (.inr (.inl h))
  · exact .inl (.inr (.inr (.inl h)))
  · exact .inl (.inr (.inr (.inr (.inl h))))
  · exact .inl (.inr (.inr (.inr (.inr (.inl h)))))
  · exact hat.elim (fun e => .inl (.inr (.inr (.inr (.inr (.inr (e.symm.trans h))))))) fun e => .inr (by have : W.heap.size = k := Option.some.inj (e.symm.trans h); omega)
end Go.Proofs.Ytdbpknmoacjodaa
namespace Go.Proofs.Ytdbpknmoacjodaa
open Go.RowKit Go.PlainAid

abbrev PRN := Except Nat (PS × ByteArray)
def fstP (y : PRN) : PR := bd y fun a => .ok a.1
def withN (y : PRN) (F : PR → ByteArray → PR) : PRN := bd y fun a => bd (F (.ok a.1) a.2) fun q => .ok (q, a.2)
def letP (C : Cx) (q : PS) : PRN := withN (bd (tokP C 1 sLet q) (nameP C false)) fun x n => bd (bd (bd (bd x (tokP C 4 cEq)) (pE C .sum 0)) (tokP C 4 cSemi)) (addSt C 1 n)
def fnP (C : Cx) (q : PS) : PRN :=
  withN (bd (tokP C 1 sFunction q) (nameP C false)) fun x n => bd (bd (bd (bd (bd (bd (bd (bd x (tokP C 4 cOpen)) (tokP C 4 cShut)) (tokP C 4 cLeft)) (tokP C 1 sReturn)) (pE C .sum 0)) (tokP C 4 cSemi)) (tokP C 4 cRight)) (addSt C 2 n)

def asP (C : Cx) (exp : Bool) (a : PS × ByteArray) : PRN :=
  if isT C a.1.pos 1 sAs then nameP C exp (adv a.1)
  else if (a.2.toList == [100, 101, 102, 97, 117, 108, 116]) && !exp then .error (here C a.1.pos) else .ok a
abbrev PRL := Except Nat (PS × List Ep)
def listG (C : Cx) (exp : Bool) : Nat → PS → List Ep → PRL
  | 0, _, _ => .error 0
  | f + 1, q, acc => bd (nameP C true q) fun a => bd (asP C exp a) fun b =>
    if isT C b.1.pos 4 cComma then listG C exp f (adv b.1) (acc ++ [⟨0, b.2, a.2, sNone⟩]) else bd (tokP C 4 cRight b.1) fun q' => .ok (q', acc ++ [⟨0, b.2, a.2, sNone⟩])
def listL (C : Cx) (exp : Bool) (q : PS) (acc : List Ep) : PRL := listG C exp (C.ts.length - q.pos + 1) q acc
def listP (C : Cx) (exp : Bool) (q : PS) : PRL := bd (tokP C 4 cLeft q) fun q' => listL C exp q' []
def anyB (l : List Ep) : Bool := l.any fun x => x.loc.toList == [100, 101, 102, 97, 117, 108, 116]
theorem asP_ok {C : Cx} {exp : Bool} {a b : PS × ByteArray} (h : asP C exp a = .ok b) : a.1.pos ≤ b.1.pos := by
  unfold asP at h
  split at h
  · obtain ⟨rfl, _⟩ := nameP_ok h
    show a.1.pos ≤ a.1.pos + 1 + 1
    omega
  · split at h
    · cases h
    · cases h
      exact Nat.le_refl _
theorem listG_enough {C : Cx} {exp : Bool} (f : Nat) : ∀ (g : Nat) (q : PS) (acc : List Ep), C.ts.length - q.pos < f → C.ts.length - q.pos < g → listG C exp f q acc = listG C exp g q acc := by
  induction f with
  | zero => intro g q acc h; omega
  | succ f ih =>
    intro g q acc h1 h2
    obtain ⟨g, rfl⟩ : ∃ g', g = g' + 1 := ⟨g - 1, by omega⟩
    rw [listG, listG]
    refine bd_congr fun a ha => bd_congr fun b hb => ?_
    split
    · next hc =>
      obtain ⟨rfl, hp⟩ := nameP_ok ha
      have h3 := asP_ok hb
      have h4 := isT_lt hc (by decide)
      have h5 := plain_lt hp
      simp only [adv_pos] at h3
      exact ih g _ _ (by rw [adv_pos]; omega) (by rw [adv_pos]; omega)
    · rfl
theorem listL_step (C : Cx) (exp : Bool) (q : PS) (acc : List Ep) : listL C exp q acc = bd (nameP C true q) fun a => bd (asP C exp a) fun b =>
    if isT C b.1.pos 4 cComma then listL C exp (adv b.1) (acc ++ [⟨0, b.2, a.2, sNone⟩]) else bd (tokP C 4 cRight b.1) fun q' => .ok (q', acc ++ [⟨0, b.2, a.2, sNone⟩]) := by
  rw [listL, listG]
  refine bd_congr fun a ha => bd_congr fun b hb => ?_
  split
  · next hc =>
    obtain ⟨rfl, hp⟩ := nameP_ok ha
    have h3 := asP_ok hb
    have h4 := isT_lt hc (by decide)
    have h5 := plain_lt hp
    simp only [adv_pos] at h3
    exact listG_enough _ _ _ _ (by rw [adv_pos]; omega) (by rw [adv_pos]; omega)
  · rfl

def addAll {α : Type} (f : α → PS → PR) : List α → PR → PR
  | [], x => x
  | a :: l, x => addAll f l (bd x (f a))
def impOf (s : ByteArray) (e : Ep) : Im := ⟨s, e.loc, e.name⟩
def tailS (C : Cx) (x : PR) : PRN := bd (bd x (tokP C 1 sFrom)) (specP C)
def semiN (C : Cx) (y : PRN) : PRN := bd y fun a => bd (tokP C 4 cSemi a.1) fun q => .ok (q, a.2)
def importP (C : Cx) (q : PS) : PR :=
  bd (tokP C 1 sImport q) fun q =>
    if isT C q.pos 4 cLeft then bd (listP C false q) fun a => bd (semiN C (tailS C (.ok a.1))) fun b => addAll (fun e => addIm C (impOf b.2 e)) a.2 (.ok b.1)
    else if isT C q.pos 4 cStar then bd (bd (bd (tokP C 4 cStar q) (tokP C 1 sAs)) (nameP C false)) fun a => bd (semiN C (tailS C (.ok a.1))) fun b => addIm C ⟨b.2, cStar, a.2⟩ b.1
    else if plainB C q.pos false then bd (nameP C false q) fun a => bd (semiN C (tailS C (.ok a.1))) fun b => addIm C ⟨b.2, sDefault, a.2⟩ b.1
    else bd (specP C q) fun a => tokP C 4 cSemi a.1
def expLoc (e : Ep) : Ep := ⟨1, e.name, e.loc, sNone⟩
def expFrom (s : ByteArray) (e : Ep) : Ep := ⟨2, e.name, e.loc, s⟩
def exportP (C : Cx) (q : PS) : PR :=
  bd (tokP C 1 sExport q) fun q =>
    if isT C q.pos 4 cLeft then bd (listP C true q) fun a =>
      if !anyB a.2 && !isT C a.1.pos 1 sFrom then bd (tokP C 4 cSemi a.1) fun q => addAll (fun e => addEp C (expLoc e)) a.2 (.ok q)
      else bd (semiN C (tailS C (.ok a.1))) fun b => addAll (fun e => addEp C (expFrom b.2 e)) a.2 (.ok b.1)
    else if isT C q.pos 4 cStar then bd (semiN C (tailS C (tokP C 4 cStar q))) fun b => addEp C ⟨3, sNone, sNone, b.2⟩ b.1
    else if isT C q.pos 1 sDefault then bd (bd (bd (bd (tokP C 1 sDefault q) (pE C .sum 0)) (tokP C 4 cSemi)) (addSt C 1 sDefName)) (addEp C ⟨1, sDefault, sDefName, sNone⟩)
    else if isT C q.pos 1 sLet then bd (letP C q) fun a => addEp C ⟨1, a.2, a.2, sNone⟩ a.1
    else if isT C q.pos 1 sFunction then bd (fnP C q) fun a => addEp C ⟨1, a.2, a.2, sNone⟩ a.1
    else .error (here C q.pos)
def itemP (C : Cx) (q : PS) : PR :=
  if !C.scr && isT C q.pos 1 sImport then importP C q
  else if !C.scr && isT C q.pos 1 sExport then exportP C q
  else if isT C q.pos 1 sLet then fstP (letP C q)
  else if isT C q.pos 1 sFunction then fstP (fnP C q)
  else if isT C q.pos 1 sPrint then bd (bd (bd (bd (bd (tokP C 1 sPrint q) (tokP C 4 cOpen)) (pE C .sum 0)) (tokP C 4 cShut)) (tokP C 4 cSemi)) (addSt C 4 sNone)
  else if isT C q.pos 1 sThrow then bd (bd (bd (tokP C 1 sThrow q) (pE C .sum 0)) (tokP C 4 cSemi)) (addSt C 5 sNone)
  else if C.scr && isT C q.pos 1 sFail then bd (bd (bd (tokP C 1 sFail q) (pE C .sum 0)) (tokP C 4 cSemi)) (addSt C 6 sNone)
  else bd (nameP C false q) fun a => bd (bd (bd (tokP C 4 cEq a.1) (pE C .sum 0)) (tokP C 4 cSemi)) (addSt C 3 a.2)
end Go.Proofs.Ytdbpknmoacjodaa
namespace Go.Proofs.Ytdbpknmoacjodaa
open Go.RowKit Go.PlainAid

theorem tokP_le {C : Cx} {k : Int} {s : ByteArray} {q q' : PS} (h : tokP C k s q = .ok q') : q.pos + 1 = q'.pos := by
  obtain ⟨rfl, _⟩ := tokP_ok h
  rfl
theorem nameP_le {C : Cx} {o : Bool} {q : PS} {a : PS × ByteArray} (h : nameP C o q = .ok a) : q.pos + 1 = a.1.pos := by
  obtain ⟨rfl, _⟩ := nameP_ok h
  rfl
theorem specP_le {C : Cx} {q : PS} {a : PS × ByteArray} (h : specP C q = .ok a) : q.pos + 1 = a.1.pos := by
  unfold specP at h
  split at h
  · split at h
    · cases h; rfl
    · split at h
      · cases h
      · cases h; rfl
  · cases h
theorem addSt_le {C : Cx} {k : Int} {n : ByteArray} {q q' : PS} (h : addSt C k n q = .ok q') : q.pos = q'.pos := by
  unfold addSt at h
  split at h
  · cases h
  · cases h; rfl
theorem addIm_le {C : Cx} {y : Im} {q q' : PS} (h : addIm C y q = .ok q') : q.pos = q'.pos := by
  unfold addIm at h
  split at h
  · cases h
  · cases h; rfl
theorem addEp_le {C : Cx} {y : Ep} {q q' : PS} (h : addEp C y q = .ok q') : q.pos = q'.pos := by
  unfold addEp at h
  split at h
  · cases h
  · split at h
    · cases h; rfl
    · cases h; rfl
theorem addAll_le {α : Type} {f : α → PS → PR} (hf : ∀ a q q', f a q = .ok q' → q.pos = q'.pos) (l : List α) : ∀ (x : PR) (q' : PS), addAll f l x = .ok q' → ∃ q, x = .ok q ∧ q.pos = q'.pos := by
  induction l with
  | nil => intro x q' h; exact ⟨q', h, rfl⟩
  | cons a l ih =>
    intro x q' h
    obtain ⟨b, h1, h2⟩ := ih _ _ h
    obtain ⟨c, h3, h4⟩ := bd_eq_ok h1
    exact ⟨c, h3, (hf _ _ _ h4).trans h2⟩
theorem listL_le {C : Cx} {exp : Bool} (m : Nat) : ∀ (q : PS) (acc : List Ep) (a : PS × List Ep), C.ts.length - q.pos < m → listL C exp q acc = .ok a → q.pos ≤ a.1.pos := by
  induction m with
  | zero => intro q acc a h; omega
  | succ m ih =>
    intro q acc a hm h
    rw [listL_step] at h
    obtain ⟨b, h1, h2⟩ := bd_eq_ok h
    obtain ⟨c, h3, h4⟩ := bd_eq_ok h2
    have e1 := nameP_le h1
    have e2 := asP_ok h3
    split at h4
    · next hc =>
      have e3 := isT_lt hc (by decide)
      have := ih _ _ _ (by rw [adv_pos]; omega) h4
      rw [adv_pos] at this
      omega
    · obtain ⟨d, h5, h6⟩ := bd_eq_ok h4
      have e3 := tokP_le h5
      cases h6
      show q.pos ≤ d.pos
      omega
theorem semi_le {C : Cx} {x : PR} {b : PS × ByteArray} (h : semiN C (tailS C x) = .ok b) : ∃ q, x = .ok q ∧ q.pos ≤ b.1.pos := by
  obtain ⟨a, h1, h2⟩ := bd_eq_ok h
  obtain ⟨c, h3, h4⟩ := bd_eq_ok h2
  obtain ⟨d, h5, h6⟩ := bd_eq_ok h1
  obtain ⟨e, h7, h8⟩ := bd_eq_ok h5
  have e1 := tokP_le h3
  have e2 := specP_le h6
  have e3 := tokP_le h8
  cases h4
  exact ⟨e, h7, by show e.pos ≤ c.pos; omega⟩
theorem importP_pos {C : Cx} {q q' : PS} (h : importP C q = .ok q') : q.pos < q'.pos := by
  obtain ⟨q1, h1, h2⟩ := bd_eq_ok h
  have e1 := tokP_le h1
  split at h2
  · obtain ⟨a, h3, h4⟩ := bd_eq_ok h2
    obtain ⟨b, h5, h6⟩ := bd_eq_ok h4
    obtain ⟨c, h7, h8⟩ := bd_eq_ok h3
    obtain ⟨d, h9, h10⟩ := semi_le h5
    obtain ⟨f, h11, h12⟩ := addAll_le (fun _ _ _ h => addIm_le h) _ _ _ h6
    have e2 := tokP_le h7
    have e3 := listL_le _ _ _ _ (Nat.lt_succ_self _) h8
    cases h9
    cases h11
    omega
  · split at h2
    · obtain ⟨a, h3, h4⟩ := bd_eq_ok h2
      obtain ⟨b, h5, h6⟩ := bd_eq_ok h4
      obtain ⟨c, h7, h8⟩ := bd_eq_ok h3
      obtain ⟨d, h9, h10⟩ := bd_eq_ok h7
      obtain ⟨f, h11, h12⟩ := semi_le h5
      have e2 := addIm_le h6
      have e3 := nameP_le h8
      have e4 := tokP_le h9
      have e5 := tokP_le h10
      cases h11
      omega
    · split at h2
      · obtain ⟨a, h3, h4⟩ := bd_eq_ok h2
        obtain ⟨b, h5, h6⟩ := bd_eq_ok h4
        obtain ⟨f, h11, h12⟩ := semi_le h5
        have e2 := addIm_le h6
        have e3 := nameP_le h3
        cases h11
        omega
      · obtain ⟨a, h3, h4⟩ := bd_eq_ok h2
        have e2 := specP_le h3
        have e3 := tokP_le h4
        omega
theorem withN_le {y : PRN} {F : PR → ByteArray → PR} {a : PS × ByteArray} (h : withN y F = .ok a) : ∃ b, y = .ok b ∧ F (.ok b.1) b.2 = .ok a.1 := by
  obtain ⟨b, h1, h2⟩ := bd_eq_ok h
  obtain ⟨c, h3, h4⟩ := bd_eq_ok h2
  cases h4
  exact ⟨b, h1, h3⟩
theorem letP_pos {C : Cx} {q : PS} {a : PS × ByteArray} (h : letP C q = .ok a) : q.pos < a.1.pos := by
  obtain ⟨b, h1, h2⟩ := withN_le h
  obtain ⟨c, h3, h4⟩ := bd_eq_ok h1
  obtain ⟨d, h5, h6⟩ := bd_eq_ok h2
  obtain ⟨f, h7, h8⟩ := bd_eq_ok h5
  obtain ⟨g, h9, h10⟩ := bd_eq_ok h7
  have e1 := tokP_le h3
  have e2 := nameP_le h4
  have e3 := tokP_le (show tokP C 4 cEq b.1 = .ok g from h9)
  have e4 := pE_pos h10
  have e5 := tokP_le h8
  have e6 := addSt_le h6
  omega
theorem fnP_pos {C : Cx} {q : PS} {a : PS × ByteArray} (h : fnP C q = .ok a) : q.pos < a.1.pos := by
  obtain ⟨b, h1, h2⟩ := withN_le h
  obtain ⟨c, h3, h4⟩ := bd_eq_ok h1
  obtain ⟨d, h5, h6⟩ := bd_eq_ok h2
  obtain ⟨f, h7, h8⟩ := bd_eq_ok h5
  obtain ⟨g, h9, h10⟩ := bd_eq_ok h7
  obtain ⟨i, h11, h12⟩ := bd_eq_ok h9
  obtain ⟨j, h13, h14⟩ := bd_eq_ok h11
  obtain ⟨k, h15, h16⟩ := bd_eq_ok h13
  obtain ⟨l, h17, h18⟩ := bd_eq_ok h15
  have e1 := tokP_le h3
  have e2 := nameP_le h4
  have e3 := tokP_le (show tokP C 4 cOpen b.1 = .ok l from h17)
  have e4 := tokP_le h18
  have e5 := tokP_le h16
  have e6 := tokP_le h14
  have e7 := pE_pos h12
  have e8 := tokP_le h10
  have e9 := tokP_le h8
  have e10 := addSt_le h6
  omega
theorem exportP_pos {C : Cx} {q q' : PS} (h : exportP C q = .ok q') : q.pos < q'.pos := by
  obtain ⟨q1, h1, h2⟩ := bd_eq_ok h
  have e1 := tokP_le h1
  split at h2
  · obtain ⟨a, h3, h4⟩ := bd_eq_ok h2
    obtain ⟨c, h7, h8⟩ := bd_eq_ok h3
    have e2 := tokP_le h7
    have e3 := listL_le _ _ _ _ (Nat.lt_succ_self _) h8
    split at h4
    · obtain ⟨b, h5, h6⟩ := bd_eq_ok h4
      obtain ⟨f, h11, h12⟩ := addAll_le (fun _ _ _ h => addEp_le h) _ _ _ h6
      have e4 := tokP_le h5
      cases h11
      omega
    · obtain ⟨b, h5, h6⟩ := bd_eq_ok h4
      obtain ⟨d, h9, h10⟩ := semi_le h5
      obtain ⟨f, h11, h12⟩ := addAll_le (fun _ _ _ h => addEp_le h) _ _ _ h6
      cases h9
      cases h11
      omega
  · split at h2
    · obtain ⟨b, h5, h6⟩ := bd_eq_ok h2
      obtain ⟨d, h9, h10⟩ := semi_le h5
      have e2 := tokP_le h9
      have e3 := addEp_le h6
      omega
    · split at h2
      · obtain ⟨a, h3, h4⟩ := bd_eq_ok h2
        obtain ⟨b, h5, h6⟩ := bd_eq_ok h3
        obtain ⟨c, h7, h8⟩ := bd_eq_ok h5
        obtain ⟨d, h9, h10⟩ := bd_eq_ok h7
        have e2 := tokP_le h9
        have e3 := pE_pos h10
        have e4 := tokP_le h8
        have e5 := addSt_le h6
        have e6 := addEp_le h4
        omega
      · split at h2
        · obtain ⟨a, h3, h4⟩ := bd_eq_ok h2
          have e2 := letP_pos h3
          have e3 := addEp_le h4
          omega
        · split at h2
          · obtain ⟨a, h3, h4⟩ := bd_eq_ok h2
            have e2 := fnP_pos h3
            have e3 := addEp_le h4
            omega
          · cases h2
theorem stmt_pos {C : Cx} {s : ByteArray} {k : Int} {n : ByteArray} {q q' : PS} (h : bd (bd (bd (tokP C 1 s q) (pE C .sum 0)) (tokP C 4 cSemi)) (addSt C k n) = .ok q') : q.pos < q'.pos := by
  obtain ⟨a, h1, h2⟩ := bd_eq_ok h
  obtain ⟨b, h3, h4⟩ := bd_eq_ok h1
  obtain ⟨c, h5, h6⟩ := bd_eq_ok h3
  have e1 := tokP_le h5
  have e2 := pE_pos h6
  have e3 := tokP_le h4
  have e4 := addSt_le h2
  omega
theorem itemP_pos {C : Cx} {q q' : PS} (h : itemP C q = .ok q') : q.pos < q'.pos := by
  unfold itemP at h
  split at h
  · exact importP_pos h
  · split at h
    · exact exportP_pos h
    · split at h
      · obtain ⟨a, h1, h2⟩ := bd_eq_ok h
        cases h2
        exact letP_pos h1
      · split at h
        · obtain ⟨a, h1, h2⟩ := bd_eq_ok h
          cases h2
          exact fnP_pos h1
        · split at h
          · obtain ⟨a, h1, h2⟩ := bd_eq_ok h
            obtain ⟨b, h3, h4⟩ := bd_eq_ok h1
            obtain ⟨c, h5, h6⟩ := bd_eq_ok h3
            obtain ⟨d, h7, h8⟩ := bd_eq_ok h5
            obtain ⟨e, h9, h10⟩ := bd_eq_ok h7
            have e1 := tokP_le h9
            have e2 := tokP_le h10
            have e3 := pE_pos h8
            have e4 := tokP_le h6
            have e5 := tokP_le h4
            have e6 := addSt_le h2
            omega
          · split at h
            · exact stmt_pos h
            · split at h
              · exact stmt_pos h
              · obtain ⟨a, h1, h2⟩ := bd_eq_ok h
                obtain ⟨b, h3, h4⟩ := bd_eq_ok h2
                obtain ⟨c, h5, h6⟩ := bd_eq_ok h3
                obtain ⟨d, h7, h8⟩ := bd_eq_ok h5
                have e1 := nameP_le h1
                have e2 := tokP_le h7
                have e3 := pE_pos h8
                have e4 := tokP_le h6
                have e5 := addSt_le h4
                omega
def itemsG (C : Cx) : Nat → PS → PR
  | 0, _ => .error 0
  | f + 1, q => if q.pos < C.ts.length then bd (itemP C q) (itemsG C f) else .ok q
def itemsP (C : Cx) (q : PS) : PR := itemsG C (C.ts.length - q.pos + 1) q
theorem itemsG_enough {C : Cx} (f : Nat) : ∀ (g : Nat) (q : PS), C.ts.length - q.pos < f → C.ts.length - q.pos < g → itemsG C f q = itemsG C g q := by
  induction f with
  | zero => intro g q h; omega
  | succ f ih =>
    intro g q h1 h2
    obtain ⟨g, rfl⟩ : ∃ g', g = g' + 1 := ⟨g - 1, by omega⟩
    rw [itemsG, itemsG]
    split
    · refine bd_congr fun a ha => ?_
      have := itemP_pos ha
      exact ih g a (by omega) (by omega)
    · rfl
theorem itemsP_step (C : Cx) (q : PS) : itemsP C q = if q.pos < C.ts.length then bd (itemP C q) (itemsP C) else .ok q := by
  rw [itemsP, itemsG]
  split
  · refine bd_congr fun a ha => ?_
    have := itemP_pos ha
    exact itemsG_enough _ _ _ (by omega) (by omega)
  · rfl
def startP : PS := ⟨0, [], [], [], [], [], []⟩
def ParseR (s : ByteArray) (scr : Bool) (y : PR) : Prop := ∃ r, LexR s scr r ∧ y = match r with
  | .error p => .error p
  | .ok ts => itemsP ⟨ts, s.size, scr⟩ startP
theorem parseR_one {s : ByteArray} {scr : Bool} {y1 y2 : PR} (h1 : ParseR s scr y1) (h2 : ParseR s scr y2) : y1 = y2 := by
  obtain ⟨r1, l1, rfl⟩ := h1
  obtain ⟨r2, l2, rfl⟩ := h2
  obtain rfl := lexR_one l1 l2
  rfl
end Go.Proofs.Ytdbpknmoacjodaa
namespace Go.Proofs.Ytdbpknmoacjodaa
open Go.RowKit Go.PlainAid

theorem lx_len {s : ByteArray} {scr : Bool} {a n : Nat} {r : Except Nat (List Tk)} (h : Lx s scr a n r) : ∀ ts, r = .ok ts → n ≤ 4000 → ts.length + n ≤ 4000 := by
  induction h using Lx.ind with
  | done => intro ts hr hn; cases hr; simpa using hn
  | bad _ _ => intro ts hr hn; cases hr
  | @tok a n e b t r h hn ht hs hr ih =>
    intro ts hts _
    cases r with
    | error p => simp [Except.map] at hts
    | ok l =>
      simp only [Except.map, Except.ok.injEq] at hts
      subst hts
      have := ih l rfl (by omega)
      simp only [List.length_cons]
      omega
theorem lexR_len {s : ByteArray} {scr : Bool} {ts : List Tk} (h : LexR s scr (.ok ts)) : ts.length ≤ 4000 := by
  obtain ⟨a, _, hl⟩ := h
  have := lx_len hl ts rfl (by omega)
  omega
end Go.Proofs.Ytdbpknmoacjodaa
namespace Go.Proofs.Ytdbpknmoacjodaa
open Go.RowKit Go.PlainAid

def R0 : Rw := ⟨none, 0⟩
def S0 : Sv := ⟨R0, R0, R0, R0, R0, R0⟩
theorem own_nil (w : World) (base size : Nat) (e : TypeId) : OwnR w base e size R0 0 [] := World.ownsRow_nil w base e size
theorem own_start (w : World) (base : Nat) : Own w base S0 startP :=
  ⟨own_nil _ _ _ _, own_nil _ _ _ _, own_nil _ _ _ _, own_nil _ _ _ _, own_nil _ _ _ _, own_nil _ _ _ _, fun k h => by simp [S0, R0, Rw.blk, Value.ownBlock] at h⟩
theorem mem_start {w : World} {base g cap : Nat} {ts : List Tk} {n : Nat} {scr : Bool} (h : OwnT w base 223 g ts.length cap ts) (hl : ts.length ≤ 4000) (hb : base ≤ w.heap.size) : Mem ⟨ts, n, scr⟩ g cap base S0 startP w :=
  ⟨own_start _ _, ⟨Nat.zero_le _, Nat.zero_le _, Nat.zero_le _, Nat.zero_le _, Nat.zero_le _, Nat.zero_le _⟩, h, hl, hb⟩
structure OwnMod (w : World) (base : Nat) (S : Sv) (q : PS) : Prop where
  rq : OwnR w base 9 1 S.rq q.rq.length (q.rq.map .string)
  im : OwnR w base 154 3 S.im q.im.length (q.im.flatMap imL)
  ep : OwnR w base 79 4 S.ep (q.ep ++ q.la).length ((q.ep ++ q.la).flatMap epL)
  st : OwnR w base 159 3 S.st q.st.length (q.st.flatMap smL)
  ex : OwnR w base 96 6 S.ex q.ex.length (q.ex.flatMap exL)
  inv : q.rq.length ≤ 40 ∧ q.im.length ≤ 40 ∧ q.ep.length + q.la.length ≤ 40 ∧ q.st.length ≤ 80 ∧ q.ex.length ≤ 300
def modV (S : Sv) (q : PS) : Value := .agg #[.slice S.rq.a q.rq.length S.rq.cap, .slice S.im.a q.im.length S.im.cap, .slice S.ep.a (q.ep ++ q.la).length S.ep.cap, .slice S.st.a q.st.length S.st.cap, .slice S.ex.a q.ex.length S.ex.cap]
def ParseOut (s : ByteArray) (scr : Bool) (w : World) (e : Ending) (w' : World) : Prop :=
  ∃ y, ParseR s scr y ∧ match y with
    | .ok q => ∃ S, e = .returned (.tuple #[modV S q, .int .i64 (-1)]) ∧ OwnMod w' w.heap.size S q
    | .error p => e = .returned (.tuple #[.agg #[.slice none 0 0, .slice none 0 0, .slice none 0 0, .slice none 0 0, .slice none 0 0], .int .i64 p])
theorem OwnR.low {w : World} {base base' size n : Nat} {e : TypeId} {r : Rw} {xs : List Value} (h : OwnR w base e size r n xs) (hb : base' ≤ base) : OwnR w base' e size r n xs := by
  refine ⟨h.1, ?_⟩
  rcases h.2 with hv | ⟨g, cap, cur, hv, h1, rest⟩
  · exact .inl hv
  · exact .inr ⟨g, cap, cur, hv, Nat.le_trans hb h1, rest⟩
theorem OwnR.nil_or {w : World} {base size n : Nat} {e : TypeId} {r : Rw} {xs : List Value} (h : OwnR w base e size r n xs) : (r.a = none ∧ r.cap = 0 ∧ n = 0) ∨ ∃ g, r.a = some ⟨g, 0, none⟩ := by
  rcases h.2 with ⟨hv, hn⟩ | ⟨g, cap, cur, hv, _⟩
  · simp only [Value.slice.injEq] at hv
    exact .inl ⟨hv.1, hv.2.2, hn⟩
  · simp only [Value.slice.injEq] at hv
    exact .inr ⟨g, hv.1⟩
theorem app_rows {P : Program} (W : World) {ops : Array Oper} {rest : List Oper} {o : Oper} {a : Act} {Q : Exit → Act → World → Prop} (hgd : o.guard = none) (s x : Operand) (t : TypeId)
    (ho : o.op = .call { callee := .builtin .append, args := #[s, x], argTypes := #[t, t] })
    (base : Nat) (e : TypeId) (i : TypeInfo) (z : Value) (size bytes : Nat) (ht : P.underlying t = some (.slice e)) (hi : P.info? e = some i) (hz : i.zero = some z) (hsize : i.size = size) (hby : i.bytes = bytes) (hzs : z.cells.size = size) (hsz : 0 < size) (h100 : bytes ≤ 100)
    (r : Rw) (n : Nat) (xs : List Value) (hs : a.eval s = .slice r.a n r.cap) (hown : OwnR W base e size r n xs)
    (gx m c base2 : Nat) (news : List Value) (hx : a.eval x = .slice (some ⟨gx, 0, none⟩) m c) (hg : OwnR W base2 e size ⟨some ⟨gx, 0, none⟩, c⟩ m news) (h1 : ∀ u ∈ news, u.oneCell' = true) (hn : n + m ≤ 4000000) (hbase : base ≤ W.heap.size)
    (h : ∀ r' w', OwnR w' base e size r' (n + m) (xs ++ news) → W.grownBy w' r.blk → (r'.blk = r.blk ∨ r'.blk = some W.heap.size) → wpList P ops Q rest (a.put o.dst (.slice r'.a (n + m : Nat) r'.cap)) w') :
    wpList P ops Q (o :: rest) a W := by
  refine wpList_append_own_at _ hgd s x t ho base e i z size bytes ht hi hz hsize hby hzs hsz _ n _ hs hown ⟨gx, 0, none⟩ m c news hx hg.1 ?_ h1 ?_ ?_ hbase ?_
  · intro j u hj
    have e1 : (⟨gx, 0, none⟩ : Addr).add j = ⟨gx, j, none⟩ := by simp [Addr.add]; exact fun h => h.symm
    have hlt : j < news.length := (List.getElem?_eq_some_iff.1 hj).1
    rw [e1, World.ownsRow.cellAt hg j (by rw [← hg.1]; exact hlt)]
    exact hj
  · unfold maxLen; omega
  · have : (n + m) * bytes ≤ 4000000 * 100 := Nat.mul_le_mul hn h100
    omega
  · intro v' w' k1 k2 k3 k4
    rcases k1.2 with ⟨hv, hn0⟩ | ⟨g', cap', cur, rfl, hrest⟩
    · subst hv
      have := h ⟨none, 0⟩ w' (by rw [hn0] at k1 ⊢; exact k1) (by rw [← blk_any r n]; exact k2) (by rw [← blk_any r n]; exact k4)
      rw [hn0] at this
      exact this
    · refine h ⟨some ⟨g', 0, none⟩, cap'⟩ w' k1 ?_ ?_
      · rw [← blk_any r n]; exact k2
      · rw [← blk_any r n, ← blk_any ⟨some ⟨g', 0, none⟩, cap'⟩ (n + m)]; exact k4
theorem app_nil {P : Program} (W : World) {ops : Array Oper} {rest : List Oper} {o : Oper} {a : Act} {Q : Exit → Act → World → Prop} (hgd : o.guard = none) (s x : Operand) (t : TypeId)
    (ho : o.op = .call { callee := .builtin .append, args := #[s, x], argTypes := #[t, t] })
    (e : TypeId) (i : TypeInfo) (ht : P.underlying t = some (.slice e)) (hi : P.info? e = some i) (base size n : Nat)
    (r : Rw) (xs : List Value) (hs : a.eval s = .slice r.a n r.cap) (hown : OwnR W base e size r n xs) (hx : a.eval x = .slice none 0 0)
    (h : wpList P ops Q rest (a.put o.dst (.slice r.a n r.cap)) W) : wpList P ops Q (o :: rest) a W := by
  have hr : (Builtin.append_ #[t, t] o.type #[.slice r.a n r.cap, .slice none 0 0]).run P W = .ok (.slice r.a n r.cap) W := by
    rcases hown.2 with ⟨hv, _⟩ | ⟨g, cap, cur, hv, _, _, hn, _⟩
    · rw [hv]
      simp [Builtin.append_, run_underlying ht, sizeOf, typeInfo, hi, Builtin.lenOf, Builtin.firstCells]
    · rw [hv]
      simp [Builtin.append_, run_underlying ht, sizeOf, typeInfo, hi, Builtin.lenOf, Builtin.firstCells, loadCells, hn, storeCells]
  refine wpList_plain hgd fun K hK => ?_
  unfold Oper.wp execOp
  simp only [ho, resolve, invoke, builtin, Sem.run_bind, Sem.run_pure, Result.andThen_ok, List.map_toArray, List.map_cons, List.map_nil, hs, hx, hr]
  exact hK _ _ h
theorem eps_one (l : List Ep) : ∀ u ∈ l.flatMap epL, u.oneCell' = true := by
  intro u hu
  rw [List.mem_flatMap] at hu
  obtain ⟨x, _, hx⟩ := hu
  simp [epL] at hx
  rcases hx with rfl | rfl | rfl | rfl <;> rfl
theorem Mem.whole {C : Cx} {gt cap base b B : Nat} {S : Sv} {q : PS} {W w' wF : World} {r' : Rw} (hm : Mem C gt cap base S q W) (hg : W.grownBy w' S.ep.blk) (hr : OwnR w' base 79 4 r' (q.ep.length + q.la.length) (q.ep.flatMap epL ++ q.la.flatMap epL)) (hat : r'.blk = S.ep.blk ∨ r'.blk = some W.heap.size) (hB : B < base) (hb : b < W.heap.size) (hfree : ¬ S.has b)
    (hF : ∀ k, k ≠ B → k ≠ b → wF.heap[k]? = w'.heap[k]?) : OwnMod wF B { S with ep := r' } q := by
  have hlen : (q.ep ++ q.la).length = q.ep.length + q.la.length := by simp
  have hk : ∀ (r : Rw) (e : TypeId) (size n : Nat) (xs : List Value), OwnR W base e size r n xs → e ≠ 79 → (∀ k, r.blk = some k → S.has k) → OwnR wF B e size r n xs := fun r e size n xs h he hs =>
    ((h.keep fun k g => (hF k (by have := (h.typed g).1; omega) (fun eq => hfree (by rw [← eq]; exact hs k g))).trans (hg.block k (h.typed g).2.1 fun e' => (h.ne hm.own.ep he g) e'.symm)).low (by omega))
  refine ⟨hk _ _ _ _ _ hm.own.rq (by decide) fun k g => .inl g, hk _ _ _ _ _ hm.own.im (by decide) fun k g => .inr (.inl g), ?_, hk _ _ _ _ _ hm.own.st (by decide) fun k g => .inr (.inr (.inr (.inl g))), hk _ _ _ _ _ hm.own.ex (by decide) fun k g => .inr (.inr (.inr (.inr (.inl g)))), hm.inv.rq, hm.inv.im, hm.inv.ep, hm.inv.st, hm.inv.ex⟩
  rw [hlen, List.flatMap_append]
  refine (hr.keep fun k g => hF k (by have := (hr.typed g).1; omega) ?_).low (by omega)
  rcases hat with e | e
  · intro eq
    exact hfree (by rw [← eq]; exact .inr (.inr (.inl (by rw [← e]; exact g))))
  · have : W.heap.size = k := Option.some.inj (e.symm.trans g)
    omega
theorem Mem.whole0 {C : Cx} {gt cap base b B : Nat} {S : Sv} {q : PS} {W wF : World} (hm : Mem C gt cap base S q W) (hl : q.la = []) (hB : B < base) (hfree : ¬ S.has b)
    (hF : ∀ k, k ≠ B → k ≠ b → wF.heap[k]? = W.heap[k]?) : OwnMod wF B S q := by
  have hk : ∀ (r : Rw) (e : TypeId) (size n : Nat) (xs : List Value), OwnR W base e size r n xs → (∀ k, r.blk = some k → S.has k) → OwnR wF B e size r n xs := fun r e size n xs h hs =>
    ((h.keep fun k g => hF k (by have := (h.typed g).1; omega) (fun eq => hfree (by rw [← eq]; exact hs k g))).low (by omega))
  refine ⟨hk _ _ _ _ _ hm.own.rq fun k g => .inl g, hk _ _ _ _ _ hm.own.im fun k g => .inr (.inl g), ?_, hk _ _ _ _ _ hm.own.st fun k g => .inr (.inr (.inr (.inl g))), hk _ _ _ _ _ hm.own.ex fun k g => .inr (.inr (.inr (.inr (.inl g)))), hm.inv.rq, hm.inv.im, hm.inv.ep, hm.inv.st, hm.inv.ex⟩
  rw [hl, List.append_nil]
  exact hk _ _ _ _ _ hm.own.ep fun k g => .inr (.inr (.inl g))
theorem five_of {w : World} {b : Nat} {t : TypeId} {v0 v1 v2 v3 v4 : Value} (h : w.heap[b]? = some (.cells #[v0, v1, v2, v3, v4] t (0, 0))) :
    w.cell? ⟨b, 0, none⟩ = some v0 ∧ w.cell? ⟨b, 1, none⟩ = some v1 ∧ w.cell? ⟨b, 2, none⟩ = some v2 ∧ w.cell? ⟨b, 3, none⟩ = some v3 ∧ w.cell? ⟨b, 4, none⟩ = some v4 ∧ ∀ i, w.frozen? ⟨b, i, none⟩ = false := by
  refine ⟨?_, ?_, ?_, ?_, ?_, fun i => ?_⟩ <;> simp [World.cell?, World.frozen?, h]
theorem qcell {w : World} {b i : Nat} {cs : Array Value} {u : Value} {t : TypeId} (h : w.heap[b]? = some (.cells cs t (0, 0))) : (w.setCell ⟨b, i, none⟩ u).heap[b]? = some (.cells (cs.setIfInBounds i u) t (0, 0)) := by
  simp only [World.setCell, Array.getElem?_modify]
  rw [if_pos trivial, h]
  rfl
theorem put5 {w : World} {b : Nat} {v0 v1 v2 v3 v4 x0 x1 x2 x3 x4 : Value} {t : TypeId} (h : w.heap[b]? = some (.cells #[v0, v1, v2, v3, v4] t (0, 0))) :
    (((((w.setCell ⟨b, 0, none⟩ x0).setCell ⟨b, 1, none⟩ x1).setCell ⟨b, 2, none⟩ x2).setCell ⟨b, 3, none⟩ x3).setCell ⟨b, 4, none⟩ x4).heap[b]? = some (.cells #[x0, x1, x2, x3, x4] t (0, 0)) := by
  have e := qcell (i := 4) (u := x4) (qcell (i := 3) (u := x3) (qcell (i := 2) (u := x2) (qcell (i := 1) (u := x1) (qcell (i := 0) (u := x0) h))))
  rw [e]
  simp
theorem below5 {B : Nat} {a w : World} {b : Nat} (h : Below B a w) (hb : B ≤ b) (x0 x1 x2 x3 x4 : Value) : Below B a (((((w.setCell ⟨b, 0, none⟩ x0).setCell ⟨b, 1, none⟩ x1).setCell ⟨b, 2, none⟩ x2).setCell ⟨b, 3, none⟩ x3).setCell ⟨b, 4, none⟩ x4) :=
  ((((h.setCell hb _).setCell hb _).setCell hb _).setCell hb _).setCell hb _
end Go.Proofs.Ytdbpknmoacjodaa
namespace Go.Proofs.Ytdbpknmoacjodaa
open Go.RowKit Go.PlainAid

structure Box10 (w : World) (b : Nat) (v0 v1 v2 v3 v4 v5 v6 v7 v8 v9 : Value) : Prop where
  c0 : w.cell? ⟨b, 0, none⟩ = some v0
  c1 : w.cell? ⟨b, 1, none⟩ = some v1
  c2 : w.cell? ⟨b, 2, none⟩ = some v2
  c3 : w.cell? ⟨b, 3, none⟩ = some v3
  c4 : w.cell? ⟨b, 4, none⟩ = some v4
  c5 : w.cell? ⟨b, 5, none⟩ = some v5
  c6 : w.cell? ⟨b, 6, none⟩ = some v6
  c7 : w.cell? ⟨b, 7, none⟩ = some v7
  c8 : w.cell? ⟨b, 8, none⟩ = some v8
  c9 : w.cell? ⟨b, 9, none⟩ = some v9
  fz : ∀ i, w.frozen? ⟨b, i, none⟩ = false
theorem box10_of {w : World} {b : Nat} {t : TypeId} {v0 v1 v2 v3 v4 v5 v6 v7 v8 v9 : Value} (h : w.heap[b]? = some (.cells #[v0, v1, v2, v3, v4, v5, v6, v7, v8, v9] t (0, 0))) : Box10 w b v0 v1 v2 v3 v4 v5 v6 v7 v8 v9 := by
  constructor <;> simp [World.cell?, World.frozen?, h]
structure IS (gp : Nat) (S : Sv) (w : World) (S' : Sv) (w' : World) : Prop where
  os : w'.os = w.os
  tape : w'.tape = w.tape
  output : w'.output = w.output
  size : w.heap.size ≤ w'.heap.size
  block : ∀ k, k < w.heap.size → ¬ S.has k → k ≠ gp → w'.heap[k]? = w.heap[k]?
  sub : ∀ k, S'.has k → S.has k ∨ w.heap.size ≤ k
theorem IS.refl (gp : Nat) (S : Sv) (w : World) : IS gp S w S w := ⟨rfl, rfl, rfl, Nat.le_refl _, fun _ _ _ _ => rfl, fun _ h => .inl h⟩
theorem IS.trans {gp : Nat} {S S1 S2 : Sv} {w w1 w2 : World} (h : IS gp S w S1 w1) (k : IS gp S1 w1 S2 w2) : IS gp S w S2 w2 :=
  ⟨k.os.trans h.os, k.tape.trans h.tape, k.output.trans h.output, Nat.le_trans h.size k.size,
    fun i hi hn hg => (k.block i (Nat.lt_of_lt_of_le hi h.size) (fun g => (h.sub i g).elim hn fun g' => by omega) hg).trans (h.block i hi hn hg),
    fun i hi => (k.sub i hi).elim (h.sub i) fun g => .inr (Nat.le_trans h.size g)⟩
theorem IS.below {gp : Nat} {S : Sv} {w w' : World} (h : Below w.heap.size w w') : IS gp S w S w' := ⟨h.os, h.tape, h.output, h.size, fun k hk _ _ => h.block k hk, fun _ g => .inl g⟩
theorem IS.set {gp : Nat} {S S1 : Sv} {w w1 : World} (h : IS gp S w S1 w1) (i : Nat) (u : Value) : IS gp S w S1 (w1.setCell ⟨gp, i, none⟩ u) :=
  ⟨h.os, h.tape, h.output, by show _ ≤ (w1.heap.modify _ _).size; simp; exact h.size, fun k hk hn hg => (Below.heap_setCell w1 ⟨gp, i, none⟩ u k hg).trans (h.block k hk hn hg), h.sub⟩
theorem IS.under {gp : Nat} {S S' : Sv} {w w' : World} {base : Nat} {q : PS} (h : IS gp S w S' w') (hb : base ≤ w.heap.size) (ho : Own w base S q) (hg : base ≤ gp) : Below base w w' :=
  ⟨h.os, h.tape, h.output, h.size, fun k hk => h.block k (by omega) (fun g => by have := (ho.has g).1; omega) (by omega)⟩

theorem four_of {w : World} {b : Nat} {t : TypeId} {v0 v1 v2 v3 : Value} (h : w.heap[b]? = some (.cells #[v0, v1, v2, v3] t (0, 0))) :
    w.cell? ⟨b, 0, none⟩ = some v0 ∧ w.cell? ⟨b, 1, none⟩ = some v1 ∧ w.cell? ⟨b, 2, none⟩ = some v2 ∧ w.cell? ⟨b, 3, none⟩ = some v3 ∧ ∀ i, w.frozen? ⟨b, i, none⟩ = false := by
  refine ⟨?_, ?_, ?_, ?_, fun i => ?_⟩ <;> simp [World.cell?, World.frozen?, h]
theorem put4 {w : World} {b : Nat} {v0 v1 v2 v3 x0 x1 x2 x3 : Value} {t : TypeId} (h : w.heap[b]? = some (.cells #[v0, v1, v2, v3] t (0, 0))) :
    ((((w.setCell ⟨b, 0, none⟩ x0).setCell ⟨b, 1, none⟩ x1).setCell ⟨b, 2, none⟩ x2).setCell ⟨b, 3, none⟩ x3).heap[b]? = some (.cells #[x0, x1, x2, x3] t (0, 0)) := by
  have e := qcell (i := 3) (u := x3) (qcell (i := 2) (u := x2) (qcell (i := 1) (u := x1) (qcell (i := 0) (u := x0) h)))
  rw [e]
  simp
theorem below4s {B : Nat} {a w : World} {b : Nat} (h : Below B a w) (hb : B ≤ b) (x0 x1 x2 x3 : Value) : Below B a ((((w.setCell ⟨b, 0, none⟩ x0).setCell ⟨b, 1, none⟩ x1).setCell ⟨b, 2, none⟩ x2).setCell ⟨b, 3, none⟩ x3) := (((h.setCell hb _).setCell hb _).setCell hb _).setCell hb _
theorem below_drewN {B : Nat} {a w : World} (h : Below B a w) (n : Nat) : Below B a (w.drewN n) := ⟨h.os, h.tape, h.output, h.size, h.block⟩
theorem IS.new {gp b : Nat} {S S1 : Sv} {w w1 : World} (h : IS gp S w S1 w1) (hb : w.heap.size ≤ b) (i : Nat) (u : Value) : IS gp S w S1 (w1.setCell ⟨b, i, none⟩ u) :=
  ⟨h.os, h.tape, h.output, by show _ ≤ (w1.heap.modify _ _).size; simp; exact h.size, fun k hk hn hg => (Below.heap_setCell w1 ⟨b, i, none⟩ u k (by show k ≠ b; omega)).trans (h.block k hk hn hg), h.sub⟩
theorem IS.scratch {gp b : Nat} {S S1 : Sv} {w w1 : World} (h : IS gp S w S1 w1) (hb : w.heap.size ≤ b) (x0 x1 x2 x3 : Value) : IS gp S w S1 ((((w1.setCell ⟨b, 0, none⟩ x0).setCell ⟨b, 1, none⟩ x1).setCell ⟨b, 2, none⟩ x2).setCell ⟨b, 3, none⟩ x3) :=
  (((h.new hb _ _).new hb _ _).new hb _ _).new hb _ _
theorem alloc_keep {w : World} {b : Nat} {o o' : Obj} (h : w.heap[b]? = some o) : (w.alloc o').heap[b]? = some o := (Below.heap_alloc w o' b (Array.getElem?_eq_some_iff.1 h).1).trans h
theorem IS.alloc {gp : Nat} {S S1 : Sv} {w w1 : World} (h : IS gp S w S1 w1) (o : Obj) : IS gp S w S1 (w1.alloc o) := h.trans (IS.below ((Below.refl _ _).alloc (Nat.le_refl _) _))
end Go.Proofs.Ytdbpknmoacjodaa
