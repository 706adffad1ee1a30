/-
  What the laws' helpers over rows lean on. No program is spoken of.
  Rows of the call's own that are marked cell by cell. No program is spoken of.
  What the laws' markers of lists answer: the walks.
  What the laws' askers of marked lists answer: the walks.
  Rows beside a row that is marked. No program is spoken of but for the numbers of its types.
  What the laws' marker and asker of programs answer, from any mark on: the walks.
  Paths, and what Clean makes of them, as plain functions; a row of texts in memory. No program is spoken of.
  The directories that a path is in, as a plain function. No program is spoken of.
  Rows of texts of the call's own, one beside another; whether a text is in a row. No program is spoken of.
  A text put into a row that rises, as a plain function. No program is spoken of.
  What a program declares, as plain functions. No program is spoken of.
  What is used, as plain functions. No program is spoken of.
  The row of the type byte.
  What spec.l1In answers.
  What spec.l2Path and spec.Clean answer, at every text: the walks.
  What spec.l6In answers of a row of texts of the call's own: the walk.
  What spec.l8Put answers: the walk.
-/
import Derived.Laws.OwnMore
import Derived.Test.YtdbpknmoacjodaaCsSrcModToLawMark
namespace Go.Proofs.Ytdbpknmoacjodaa
open Go.RowKit Go.PlainAid Go.Sort

theorem rowsome {α : Type} {l : List α} {j : Nat} (h : j < l.length) : ∃ x, l[j]? = some x := ⟨_, List.getElem?_eq_getElem h⟩
end Go.Proofs.Ytdbpknmoacjodaa
namespace Go.Proofs.Ytdbpknmoacjodaa
open Go.RowKit Go.PlainAid Go.Sort

def FK (kd : Nat → Bool) (m k i : Nat) : Value := if kd (i % m) then .string (mtS (k + i)) else .int .i64 ((k + i : Nat) : Int)
theorem fk_s {kd : Nat → Bool} {m k i c q : Nat} (hc : i % m = c) (hk : kd c = true) (hq : q = k + i) : FK kd m k i = .string (mtS q) := by rw [FK, hc, hk, hq]; rfl
theorem fk_i {kd : Nat → Bool} {m k i c q : Nat} (hc : i % m = c) (hk : kd c = false) (hq : q = k + i) : FK kd m k i = .int .i64 (q : Int) := by rw [FK, hc, hk, hq]; rfl
def OwnG (w : World) (base : Nat) (e : TypeId) (size : Nat) (r : Rw) (n : Nat) (F : Nat → Value) (c : Nat) : Prop := ∃ xs, OwnR w base e size r n xs ∧ ∀ i, i < c → xs[i]? = some (F i)
theorem OwnG.start {w : World} {base size n : Nat} {e : TypeId} {r : Rw} {xs : List Value} (h : OwnR w base e size r n xs) (F : Nat → Value) : OwnG w base e size r n F 0 := ⟨xs, h, fun i hi => absurd hi (Nat.not_lt_zero i)⟩
theorem OwnG.keep {w w' : World} {base size n c : Nat} {e : TypeId} {r : Rw} {F : Nat → Value} (h : OwnG w base e size r n F c) (hk : ∀ k, r.blk = some k → w'.heap[k]? = w.heap[k]?) : OwnG w' base e size r n F c := by
  obtain ⟨xs, h1, h2⟩ := h
  exact ⟨xs, h1.keep hk, h2⟩
theorem OwnG.typed {w : World} {base size n c : Nat} {e : TypeId} {r : Rw} {F : Nat → Value} (h : OwnG w base e size r n F c) {k : Nat} (hk : r.blk = some k) : base ≤ k ∧ k < w.heap.size ∧ ∃ cur, w.heap[k]? = some (.cells cur e (0, 0)) := by
  obtain ⟨xs, h1, _⟩ := h
  exact h1.typed hk
theorem OwnG.later {w w' : World} {base size n c : Nat} {e : TypeId} {r : Rw} {F : Nat → Value} (h : OwnG w base e size r n F c) (hb : Below w.heap.size w w') : OwnG w' base e size r n F c := h.keep fun k g => hb.block k (h.typed g).2.1
theorem OwnR.at {w : World} {base size n g : Nat} {e : TypeId} {r : Rw} {xs : List Value} (h : OwnR w base e size r n xs) (hg : r.a = some ⟨g, 0, none⟩) : w.ownsRow base e size (.slice (some ⟨g, 0, none⟩) n r.cap) n xs := by
  unfold OwnR at h
  rw [hg] at h
  exact h
theorem OwnG.has {w : World} {base size n c g : Nat} {e : TypeId} {r : Rw} {F : Nat → Value} (h : OwnG w base e size r n F c) (hg : r.a = some ⟨g, 0, none⟩) (i : Nat) (hi : i < n * size) : ∃ v, w.cell? ⟨g, i, none⟩ = some v := by
  obtain ⟨xs, h1, _⟩ := h
  rw [(h1.at hg).cellAt i hi]
  exact ⟨_, List.getElem?_eq_getElem (by rw [h1.1]; exact hi)⟩
theorem OwnG.cell {w : World} {base size n c g : Nat} {e : TypeId} {r : Rw} {F : Nat → Value} (h : OwnG w base e size r n F c) (hg : r.a = some ⟨g, 0, none⟩) (i : Nat) (hi : i < n * size) (hc : i < c) : w.cell? ⟨g, i, none⟩ = some (F i) := by
  obtain ⟨xs, h1, h2⟩ := h
  rw [(h1.at hg).cellAt i hi]
  exact h2 i hc
theorem OwnG.free {w : World} {base size n c g : Nat} {e : TypeId} {r : Rw} {F : Nat → Value} (h : OwnG w base e size r n F c) (hg : r.a = some ⟨g, 0, none⟩) (i : Nat) : w.frozen? ⟨g, i, none⟩ = false := by
  obtain ⟨xs, h1, _⟩ := h
  exact (h1.at hg).frozenAt i
theorem blk_of {r : Rw} {g : Nat} (hg : r.a = some ⟨g, 0, none⟩) : r.blk = some g := by rw [Rw.blk, hg]; rfl
theorem OwnG.put {w : World} {base size n c g : Nat} {e : TypeId} {r : Rw} {F : Nat → Value} (h : OwnG w base e size r n F c) (hg : r.a = some ⟨g, 0, none⟩) (hc : c < n * size) {v : Value} (hv : F c = v) : OwnG (w.setCell ⟨g, c, none⟩ v) base e size r n F (c + 1) := by
  subst hv
  obtain ⟨xs, h1, h2⟩ := h
  have hl := h1.1
  refine ⟨xs.set c (F c), ?_, fun i hi => ?_⟩
  · unfold OwnR
    rw [hg]
    exact ((h1.at hg).stored c (F c)).1
  · by_cases e : i = c
    · subst e
      exact List.getElem?_set_self (by omega)
    · rw [List.getElem?_set_ne (by omega)]
      exact h2 i (by omega)
theorem gb_refl (w : World) (b : Option Nat) : w.grownBy w b := ⟨rfl, rfl, rfl, Nat.le_refl _, fun _ _ _ => rfl⟩
theorem gb_trans {w w1 w2 : World} {b : Option Nat} (h : w.grownBy w1 b) (k : w1.grownBy w2 b) : w.grownBy w2 b :=
  ⟨k.os.trans h.os, k.tape.trans h.tape, k.output.trans h.output, Nat.le_trans h.size k.size, fun i hi hn => (k.block i (Nat.lt_of_lt_of_le hi h.size) hn).trans (h.block i hi hn)⟩
theorem gb_below {w w1 w2 : World} {b : Option Nat} (h : w.grownBy w1 b) (k : Below w1.heap.size w1 w2) : w.grownBy w2 b :=
  gb_trans h ⟨k.os, k.tape, k.output, k.size, fun i hi _ => k.block i hi⟩
theorem gb_set {w w1 : World} {g i : Nat} {u : Value} {b : Option Nat} (h : w.grownBy w1 b) (hb : b = some g) : w.grownBy (w1.setCell ⟨g, i, none⟩ u) b :=
  gb_trans h ⟨rfl, rfl, rfl, by show _ ≤ (w1.heap.modify _ _).size; simp, fun k _ hn => Below.heap_setCell w1 ⟨g, i, none⟩ u k (fun e => hn (by rw [hb, e]))⟩
end Go.Proofs.Ytdbpknmoacjodaa
namespace Go.Proofs.Ytdbpknmoacjodaa
open Go.RowKit Go.PlainAid Go.Sort

end Go.Proofs.Ytdbpknmoacjodaa
namespace Go.Proofs.Ytdbpknmoacjodaa
open Go.RowKit Go.PlainAid Go.Sort

end Go.Proofs.Ytdbpknmoacjodaa
namespace Go.Proofs.Ytdbpknmoacjodaa
open Go.RowKit Go.PlainAid Go.Sort

theorem str_flat (l : List ByteArray) : (l.flatMap fun x => [Value.string x]) = l.map .string := by
  induction l with
  | nil => rfl
  | cons x l ih => rw [List.flatMap_cons, ih]; rfl
theorem alloc_keepL {w : World} {b : Nat} {o o' : Obj} (h : w.heap[b]? = some o) : (w.alloc o').heap[b]? = some o := (Below.heap_alloc w o' b (Array.getElem?_eq_some_iff.1 h).1).trans h
theorem box2 (w : World) (a b : Obj) : ((w.alloc a).alloc b).heap[w.heap.size]? = some a ∧ ((w.alloc a).alloc b).heap[w.heap.size + 1]? = some b := by
  refine ⟨(Below.heap_alloc (w.alloc a) b _ (by rw [alloc_size]; omega)).trans (heap_alloc_new w _), ?_⟩
  have := heap_alloc_new (w.alloc a) b
  rw [alloc_size] at this
  exact this
theorem OwnR.asideL {w w' : World} {b s n b2 s2 n2 : Nat} {e e2 : TypeId} {r r2 : Rw} {xs ys : List Value} (h : OwnR w b e s r n xs) (h2 : OwnR w b2 e2 s2 r2 n2 ys) (he : e ≠ e2) (g : w.grownBy w' r2.blk) : OwnR w' b e s r n xs :=
  h.keep fun k hk => g.block k (h.typed hk).2.1 fun e' => h.ne h2 he hk e'.symm
theorem OwnG.aside {w w' : World} {b s n c b2 s2 n2 : Nat} {e e2 : TypeId} {r r2 : Rw} {F : Nat → Value} {ys : List Value} (h : OwnG w b e s r n F c) (h2 : OwnR w b2 e2 s2 r2 n2 ys) (he : e ≠ e2) (g : w.grownBy w' r2.blk) : OwnG w' b e s r n F c := by
  obtain ⟨xs, h1, h3⟩ := h
  exact ⟨xs, h1.asideL h2 he g, h3⟩
theorem gb_box {w w' : World} {b s n k : Nat} {e : TypeId} {r : Rw} {ys : List Value} {o : Obj} (h2 : OwnR w b e s r n ys) (hk : w.heap[k]? = some o) (hn : ∀ cur, o ≠ .cells cur e (0, 0)) (g : w.grownBy w' r.blk) : w'.heap[k]? = some o :=
  (g.block k (Array.getElem?_eq_some_iff.1 hk).1 fun e' => by
    obtain ⟨_, _, cur, h3⟩ := h2.typed e'.symm
    rw [hk] at h3
    exact hn cur (Option.some.inj h3)).trans hk
theorem gb_under {w w' : World} {b s n : Nat} {e : TypeId} {r : Rw} {ys : List Value} (h2 : OwnR w b e s r n ys) (hb : b ≤ w.heap.size) (g : w.grownBy w' r.blk) : Below b w w' :=
  ⟨g.os, g.tape, g.output, g.size, fun k hk => g.block k (by omega) fun e' => by have := (h2.typed e'.symm).1; omega⟩
end Go.Proofs.Ytdbpknmoacjodaa
namespace Go.Proofs.Ytdbpknmoacjodaa
open Go.RowKit Go.PlainAid Go.Sort

def kM (m : Md) (k : Nat) : Nat → Nat
  | 0 => k
  | 1 => k + m.rq.length
  | 2 => k + m.rq.length + m.im.length * 3
  | 3 => k + m.rq.length + m.im.length * 3 + m.ep.length * 4
  | 4 => k + m.rq.length + m.im.length * 3 + m.ep.length * 4 + m.st.length * 3
  | _ => k + m.rq.length + m.im.length * 3 + m.ep.length * 4 + m.st.length * 3 + m.ex.length * 6
structure MdMk (w : World) (base : Nat) (S : Sv) (m : Md) (k : Nat) : Prop where
  rq : OwnG w base 9 1 S.rq m.rq.length (FK (fun _ => true) 1 (kM m k 0)) (m.rq.length)
  im : OwnG w base 154 3 S.im m.im.length (FK (fun _ => true) 3 (kM m k 1)) (m.im.length * 3)
  ep : OwnG w base 79 4 S.ep m.ep.length (FK (fun i => !decide (i = 0)) 4 (kM m k 2)) (m.ep.length * 4)
  st : OwnG w base 159 3 S.st m.st.length (FK (fun i => decide (i = 1)) 3 (kM m k 3)) (m.st.length * 3)
  ex : OwnG w base 96 6 S.ex m.ex.length (FK (fun i => decide (i = 2) || decide (i = 3)) 6 (kM m k 4)) (m.ex.length * 6)
theorem MdMk.later {w w' : World} {base k : Nat} {S : Sv} {m : Md} (h : MdMk w base S m k) (hb : Below w.heap.size w w') : MdMk w' base S m k := ⟨h.rq.later hb, h.im.later hb, h.ep.later hb, h.st.later hb, h.ex.later hb⟩
def MdHas (S : Sv) (k : Nat) : Prop := S.rq.blk = some k ∨ S.im.blk = some k ∨ S.ep.blk = some k ∨ S.st.blk = some k ∨ S.ex.blk = some k
theorem OwnMd.in {w : World} {b k : Nat} {S : Sv} {m : Md} (h : OwnMd w b S m) (hk : MdHas S k) : b ≤ k ∧ k < w.heap.size ∧ ∃ cs t, w.heap[k]? = some (.cells cs t (0, 0)) ∧ (t = 9 ∨ t = 154 ∨ t = 79 ∨ t = 159 ∨ t = 96) := by
  rcases hk with e | e | e | e | e
  · obtain ⟨a, b, c, d⟩ := h.rq.typed e; exact ⟨a, b, c, _, d, .inl rfl⟩
  · obtain ⟨a, b, c, d⟩ := h.im.typed e; exact ⟨a, b, c, _, d, .inr (.inl rfl)⟩
  · obtain ⟨a, b, c, d⟩ := h.ep.typed e; exact ⟨a, b, c, _, d, .inr (.inr (.inl rfl))⟩
  · obtain ⟨a, b, c, d⟩ := h.st.typed e; exact ⟨a, b, c, _, d, .inr (.inr (.inr (.inl rfl)))⟩
  · obtain ⟨a, b, c, d⟩ := h.ex.typed e; exact ⟨a, b, c, _, d, .inr (.inr (.inr (.inr rfl)))⟩
theorem OwnMd.keepB {w w' : World} {b : Nat} {S : Sv} {m : Md} (h : OwnMd w b S m) (hk : ∀ k, b ≤ k → k < w.heap.size → MdHas S k → w'.heap[k]? = w.heap[k]?) : OwnMd w' b S m :=
  ⟨h.rq.keep fun k e => hk k (h.rq.typed e).1 (h.rq.typed e).2.1 (.inl e), h.im.keep fun k e => hk k (h.im.typed e).1 (h.im.typed e).2.1 (.inr (.inl e)), h.ep.keep fun k e => hk k (h.ep.typed e).1 (h.ep.typed e).2.1 (.inr (.inr (.inl e))), h.st.keep fun k e => hk k (h.st.typed e).1 (h.st.typed e).2.1 (.inr (.inr (.inr (.inl e)))), h.ex.keep fun k e => hk k (h.ex.typed e).1 (h.ex.typed e).2.1 (.inr (.inr (.inr (.inr e))))⟩
theorem OwnMd.not {w : World} {b k : Nat} {S : Sv} {m : Md} {cs : Array Value} {t : TypeId} (h : OwnMd w b S m) (hk : w.heap[k]? = some (.cells cs t (0, 0))) (ht : ¬ (t = 9 ∨ t = 154 ∨ t = 79 ∨ t = 159 ∨ t = 96)) : ¬ MdHas S k := fun e => by
  obtain ⟨_, _, cs', t', h1, h2⟩ := h.in e
  rw [hk] at h1
  simp only [Option.some.injEq, Obj.cells.injEq] at h1
  exact ht (h1.2.1 ▸ h2)
structure KM (m : Md) (k : Nat) : Prop where
  pos : 0 < k
  rq : m.rq.length ≤ 1048576
  im : m.im.length ≤ 1048576
  ep : m.ep.length ≤ 1048576
  st : m.st.length ≤ 1048576
  ex : m.ex.length ≤ 1048576
  all : kM m k 5 ≤ 7900000
theorem KM.at {m : Md} {k : Nat} (h : KM m k) : kM m k 0 = k ∧ kM m k 0 + m.rq.length = kM m k 1 ∧ kM m k 1 + m.im.length * 3 = kM m k 2 ∧ kM m k 2 + m.ep.length * 4 = kM m k 3 ∧ kM m k 3 + m.st.length * 3 = kM m k 4 ∧ kM m k 4 + m.ex.length * 6 = kM m k 5 ∧ 0 < kM m k 0 ∧ 0 < kM m k 1 ∧ 0 < kM m k 2 ∧ 0 < kM m k 3 ∧ 0 < kM m k 4 ∧ kM m k 5 ≤ 7900000 := by
  have h1 := h.pos
  refine ⟨rfl, rfl, rfl, rfl, rfl, rfl, ?_, ?_, ?_, ?_, ?_, h.all⟩ <;> simp only [kM] <;> omega
end Go.Proofs.Ytdbpknmoacjodaa
namespace Go.Proofs.Ytdbpknmoacjodaa
open Go.RowKit Go.PlainAid

abbrev okc (c : Int) : Prop := (97 ≤ c ∧ c ≤ 122) ∨ (48 ≤ c ∧ c ≤ 57) ∨ c = 46 ∨ c = 95 ∨ c = 45 ∨ c = 47
abbrev PathP (s : ByteArray) : Prop := 1 ≤ s.size ∧ s.size ≤ 40 ∧ bt s 0 = 47 ∧ ∀ j, j < s.size → okc (bt s j)
def pathB (s : ByteArray) : Bool := decide (PathP s)
theorem pathB_yes {s : ByteArray} (h : PathP s) : pathB s = true := decide_eq_true h
theorem pathB_no {s : ByteArray} (h : ¬ PathP s) : pathB s = false := decide_eq_false h
theorem pathB_iff {s : ByteArray} : pathB s = true ↔ PathP s := decide_eq_true_iff

def upd (p : ByteArray) (l : List ByteArray) : List ByteArray :=
  if p.toList.isEmpty = true ∨ (p.toList == [46]) = true then l else if (p.toList == [46, 46]) = false then l ++ [p] else l.dropLast
def clStep (s : ByteArray) (i : Nat) (st : Nat × List ByteArray) : Nat × List ByteArray :=
  if i < s.size ∧ bt s i ≠ 47 then st else (i + 1, upd (s.extract st.1 i) st.2)
def clTo (s : ByteArray) : Nat → Nat × List ByteArray
  | 0 => (0, [])
  | k + 1 => clStep s k (clTo s k)
theorem upd_len (p : ByteArray) (l : List ByteArray) : (upd p l).length ≤ l.length + 1 := by
  unfold upd
  split
  · omega
  · split
    · simp
    · simp; omega
theorem clTo_bd (s : ByteArray) (k : Nat) : (clTo s k).1 ≤ k ∧ (clTo s k).2.length ≤ k := by
  induction k with
  | zero => simp [clTo]
  | succ k ih =>
    have h := upd_len (s.extract (clTo s k).1 k) (clTo s k).2
    unfold clTo clStep
    split
    · omega
    · simp only; omega
theorem clTo_on {s : ByteArray} {k : Nat} (h1 : k < s.size) (h2 : bt s k ≠ 47) : clTo s (k + 1) = clTo s k := by rw [clTo, clStep, if_pos ⟨h1, h2⟩]
theorem clTo_part {s : ByteArray} {k : Nat} (h : ¬ (k < s.size ∧ bt s k ≠ 47)) : clTo s (k + 1) = (k + 1, upd (s.extract (clTo s k).1 k) (clTo s k).2) := by rw [clTo, clStep, if_neg h]
theorem upd_empty {p : ByteArray} {l : List ByteArray} (h : p.toList.isEmpty = true) : upd p l = l := by rw [upd, if_pos (.inl h)]
theorem upd_point {p : ByteArray} {l : List ByteArray} (h : (p.toList == [46]) = true) : upd p l = l := by rw [upd, if_pos (.inr h)]
theorem upd_name {p : ByteArray} {l : List ByteArray} (h0 : p.toList.isEmpty = false) (h1 : (p.toList == [46]) = false) (h2 : (p.toList == [46, 46]) = false) : upd p l = l ++ [p] := by
  rw [upd, if_neg (by rw [h0, h1]; simp), if_pos h2]
theorem upd_up {p : ByteArray} {l : List ByteArray} (h0 : p.toList.isEmpty = false) (h1 : (p.toList == [46]) = false) (h2 : (p.toList == [46, 46]) = true) : upd p l = l.dropLast := by
  rw [upd, if_neg (by rw [h0, h1]; simp), if_neg (by rw [h2]; simp)]
def parts (s : ByteArray) : List ByteArray := (clTo s (s.size + 1)).2
def joinTo (l : List ByteArray) : Nat → ByteArray
  | 0 => { data := #[] }
  | k + 1 => joinTo l k ++ { data := #[47] } ++ l.getD k { data := #[] }
def cleanS (s : ByteArray) : ByteArray := if pathB s then (if (parts s).length = 0 then { data := #[47] } else joinTo (parts s) (parts s).length) else { data := #[] }
theorem cleanS_no {s : ByteArray} (h : pathB s = false) : cleanS s = { data := #[] } := by rw [cleanS, h]; rfl
theorem cleanS_root {s : ByteArray} (h : pathB s = true) (hp : (parts s).length = 0) : cleanS s = { data := #[47] } := by rw [cleanS, h, if_pos rfl, if_pos hp]
theorem cleanS_yes {s : ByteArray} (h : pathB s = true) (hp : ¬ (parts s).length = 0) : cleanS s = joinTo (parts s) (parts s).length := by rw [cleanS, h, if_pos rfl, if_neg hp]
theorem upd_sizes (p : ByteArray) (l : List ByteArray) (B : Nat) (hp : p.size ≤ B) (hl : ∀ x ∈ l, x.size ≤ B) : ∀ x ∈ upd p l, x.size ≤ B := by
  intro x hx
  unfold upd at hx
  split at hx
  · exact hl x hx
  · split at hx
    · simp only [List.mem_append, List.mem_singleton] at hx
      rcases hx with hx | rfl
      · exact hl x hx
      · exact hp
    · exact hl x ((List.dropLast_sublist l).subset hx)
theorem clTo_sizes (s : ByteArray) (k : Nat) : ∀ x ∈ (clTo s k).2, x.size ≤ s.size := by
  induction k with
  | zero => simp [clTo]
  | succ k ih =>
    unfold clTo clStep
    split
    · exact ih
    · exact upd_sizes _ _ _ (by rw [ByteArray.size_extract]; omega) ih
theorem getD_size (s : ByteArray) (l : List ByteArray) (h : ∀ x ∈ l, x.size ≤ s.size) (k : Nat) : (l.getD k { data := #[] }).size ≤ s.size := by
  by_cases hk : k < l.length
  · have e : l.getD k { data := #[] } = l[k] := by simp [List.getD, List.getElem?_eq_getElem hk]
    rw [e]
    exact h _ (List.getElem_mem hk)
  · have e : l.getD k { data := #[] } = { data := #[] } := by simp [List.getD, List.getElem?_eq_none (Nat.le_of_not_lt hk)]
    rw [e]
    exact Nat.zero_le _
theorem joinTo_size (s : ByteArray) (l : List ByteArray) (h : ∀ x ∈ l, x.size ≤ s.size) (k : Nat) : (joinTo l k).size ≤ k * (s.size + 1) := by
  induction k with
  | zero => exact Nat.zero_le _
  | succ k ih =>
    have := getD_size s l h k
    rw [joinTo, ByteArray.size_append, ByteArray.size_append, Nat.succ_mul]
    have e : ({ data := #[47] } : ByteArray).size = 1 := rfl
    omega

def OwnS (w : World) (base : Nat) (e : TypeId) (g n cap : Nat) (xs : List ByteArray) : Prop := w.ownsRow base e 1 (.slice (some ⟨g, 0, none⟩) n cap) n (xs.map Value.string) ∧ n = xs.length
theorem ownS_len {w : World} {base g n cap : Nat} {e : TypeId} {xs : List ByteArray} (h : OwnS w base e g n cap xs) : n = xs.length := h.2
theorem ownS_cap {w : World} {base g n cap : Nat} {e : TypeId} {xs : List ByteArray} (h : OwnS w base e g n cap xs) : n ≤ cap ∧ cap ≤ 9223372036854775807 ∧ base ≤ g := by
  rcases h.1.2 with ⟨h', _⟩ | ⟨g', cap', cur, h', hb, _, hn, hm, _⟩
  · simp at h'
  · simp only [Value.slice.injEq, Option.some.injEq, Addr.mk.injEq, and_true, true_and] at h'
    obtain ⟨rfl, rfl⟩ := h'
    unfold maxLen at hm
    exact ⟨hn, by omega, hb⟩
theorem ownS_cell {w : World} {base g n cap : Nat} {e : TypeId} {xs : List ByteArray} (h : OwnS w base e g n cap xs) (j : Nat) (hj : j < n) : w.cell? ⟨g, j, none⟩ = some (.string (xs.getD j { data := #[] })) := by
  have hl := h.2
  rw [h.1.cellAt j (by omega)]
  simp [List.getD, List.getElem?_eq_getElem (show j < xs.length by omega)]
theorem ownS_pop {w : World} {base g n cap : Nat} {e : TypeId} {xs : List ByteArray} (h : OwnS w base e g (n + 1) cap xs) : OwnS w base e g n cap xs.dropLast := by
  obtain ⟨⟨hl, hc⟩, hn⟩ := h
  rw [List.length_map] at hl
  refine ⟨⟨by rw [List.length_map, List.length_dropLast]; omega, ?_⟩, by rw [List.length_dropLast]; omega⟩
  rcases hc with ⟨h', _⟩ | ⟨g', cap', cur, h', hb, hg, hnc, hm, hcs, ht⟩
  · simp at h'
  · simp only [Value.slice.injEq, Option.some.injEq, Addr.mk.injEq, and_true, true_and] at h'
    obtain ⟨rfl, rfl⟩ := h'
    refine .inr ⟨g, cap, cur, rfl, hb, hg, by omega, hm, hcs, ?_⟩
    rw [List.map_dropLast, ← ht, List.dropLast_eq_take, List.length_take, List.take_take]
    congr 1
    have : cur.toList.length = cap := by rw [Array.length_toList, hcs, Nat.mul_one]
    omega
theorem app_str {P : Program} (w : World) {ops : Array Oper} {rest : List Oper} {o : Oper} {a : Act} {Q : Exit → Act → World → Prop} (hgd : o.guard = none) (s x : Operand) (t : TypeId)
    (ho : o.op = .call { callee := .builtin .append, args := #[s, x], argTypes := #[t, t] })
    (base : Nat) (e : TypeId) (i : TypeInfo) (z : Value) (ht : P.underlying t = some (.slice e)) (hi : P.info? e = some i) (hz : i.zero = some z) (hsize : i.size = 1) (hby : i.bytes = 16) (hzs : z.cells.size = 1)
    (g n cap : Nat) (xs : List ByteArray) (hs : a.eval s = .slice (some ⟨g, 0, none⟩) n cap) (hown : OwnS w base e g n cap xs)
    (b : ByteArray) (hx : a.eval x = .slice (some ⟨w.heap.size, 0, none⟩) 1 1) (hn : n + 1 ≤ 100000000) (hbase : base ≤ w.heap.size)
    (h : ∀ g' cap' w', OwnS w' base e g' (n + 1) cap' (xs ++ [b]) → Below base w w' → wpList P ops Q rest (a.put o.dst (.slice (some ⟨g', 0, none⟩) (n + 1) cap')) w') :
    wpList P ops Q (o :: rest) a (w.alloc (.cells #[.string b] e)) := by
  refine wpList_append_own _ hgd s x t ho base e i z 1 16 ht hi hz hsize hby hzs (by decide) _ n _ hs (hown.1.alloc _) ⟨w.heap.size, 0, none⟩ 1 1 [.string b] hx rfl ?_ ?_ ?_ ?_ ?_ ?_
  · intro j u hj
    match j, hj with
    | 0, hj =>
      simp at hj
      subst hj
      simp [Addr.add]
  · intro u hu
    simp at hu
    subst hu
    rfl
  · unfold maxLen; omega
  · omega
  · simp; omega
  · intro v' w' h1 h2 h3
    have hb : Below base w w' := ((Below.refl base w).alloc hbase _).grown h2 (by simp; omega) (own_block_ge hown.1)
    rcases h1.2 with ⟨hv, _⟩ | ⟨g', cap', cur, rfl, hrest⟩
    · have := (h3.1 hv).1
      simp at this
    · refine h g' cap' w' ⟨?_, by rw [List.length_append]; have := hown.2; simp; omega⟩ hb
      rw [List.map_append]
      exact h1
theorem ownS_later {w W : World} {base g n cap : Nat} {e : TypeId} {xs : List ByteArray} (h : OwnS w base e g n cap xs) (hb : Below w.heap.size w W) : OwnS W base e g n cap xs := by
  refine ⟨⟨h.1.1, ?_⟩, h.2⟩
  rcases h.1.2 with k | ⟨g', cap', cur, hv, hbase, hg, hn, hm, hcs, ht⟩
  · exact .inl k
  · have hlt : g' < w.heap.size := by
      rcases Nat.lt_or_ge g' w.heap.size with k | k
      · exact k
      · rw [Array.getElem?_eq_none k] at hg
        cases hg
    exact .inr ⟨g', cap', cur, hv, hbase, (hb.block g' hlt).trans hg, hn, hm, hcs, ht⟩
def begB (a s : ByteArray) : Bool := decide (a.size ≤ s.size) && ((s.extract 0 a.size).toList == a.toList)
end Go.Proofs.Ytdbpknmoacjodaa
namespace Go.Proofs.Ytdbpknmoacjodaa
open Go.RowKit Go.PlainAid

def upTo (c : ByteArray) : Nat → List ByteArray
  | 0 => []
  | k + 1 => (if bt c (k + 1) = 47 then [c.extract 0 (k + 1)] else []) ++ upTo c k
def upC (c : ByteArray) : List ByteArray := upTo c (c.size - 1) ++ if 1 < c.size then [{ data := #[47] }] else []
def upL (p : ByteArray) : List ByteArray := upC (cleanS p)
theorem upTo_yes {c : ByteArray} {k : Nat} (h : bt c (k + 1) = 47) : upTo c (k + 1) = c.extract 0 (k + 1) :: upTo c k := by rw [upTo, if_pos h]; rfl
theorem upTo_no {c : ByteArray} {k : Nat} (h : bt c (k + 1) ≠ 47) : upTo c (k + 1) = upTo c k := by rw [upTo, if_neg h]; rfl
theorem upTo_len (c : ByteArray) (k : Nat) : (upTo c k).length ≤ k := by
  induction k with
  | zero => exact Nat.le_refl _
  | succ k ih =>
    rw [upTo, List.length_append]
    split
    · simp; omega
    · simp; omega
theorem world_anyU {P : Program} {code : Code} {Q : Exit → Act → World → Prop} {a : Act} {w0 : World} {R : World → Prop} (h0 : R w0) (h : ∀ W, R W → Code.wp P code Q a W) : Code.wp P code Q a w0 := h w0 h0
theorem hidU {p : Prop} (h : p) : Hid p := h
end Go.Proofs.Ytdbpknmoacjodaa
namespace Go.Proofs.Ytdbpknmoacjodaa
open Go.RowKit Go.PlainAid

theorem ownS_blk {w : World} {base g n cap : Nat} {e : TypeId} {xs : List ByteArray} (h : OwnS w base e g n cap xs) : base ≤ g ∧ g < w.heap.size := by
  rcases h.1.2 with ⟨h', _⟩ | ⟨g', cap', cur, h', hb, hg, _⟩
  · simp at h'
  · simp only [Value.slice.injEq, Option.some.injEq, Addr.mk.injEq, and_true, true_and] at h'
    obtain ⟨rfl, rfl⟩ := h'
    exact ⟨hb, (Array.getElem?_eq_some_iff.1 hg).1⟩
theorem ownS_keep {w W : World} {base g n cap : Nat} {e : TypeId} {xs : List ByteArray} (h : OwnS w base e g n cap xs) (hk : W.heap[g]? = w.heap[g]?) : OwnS W base e g n cap xs := by
  refine ⟨⟨h.1.1, ?_⟩, h.2⟩
  rcases h.1.2 with ⟨h', _⟩ | ⟨g', cap', cur, h', hbs, hg, hr⟩
  · simp at h'
  · simp only [Value.slice.injEq, Option.some.injEq, Addr.mk.injEq, and_true, true_and] at h'
    obtain ⟨rfl, rfl⟩ := h'
    exact .inr ⟨g, cap, cur, rfl, hbs, hk.trans hg, hr⟩
theorem ownS_low {w : World} {base b g n cap : Nat} {e : TypeId} {xs : List ByteArray} (h : OwnS w base e g n cap xs) (hb : b ≤ base) : OwnS w b e g n cap xs := by
  refine ⟨⟨h.1.1, ?_⟩, h.2⟩
  rcases h.1.2 with ⟨h', _⟩ | ⟨g', cap', cur, h', hbs, hg, hr⟩
  · simp at h'
  · exact .inr ⟨g', cap', cur, h', Nat.le_trans hb hbs, hg, hr⟩
theorem app_strG {P : Program} (w : World) {ops : Array Oper} {rest : List Oper} {o : Oper} {a : Act} {Q : Exit → Act → World → Prop} (hgd : o.guard = none) (s x : Operand) (t : TypeId)
    (ho : o.op = .call { callee := .builtin .append, args := #[s, x], argTypes := #[t, t] })
    (base : Nat) (e : TypeId) (i : TypeInfo) (z : Value) (ht : P.underlying t = some (.slice e)) (hi : P.info? e = some i) (hz : i.zero = some z) (hsize : i.size = 1) (hby : i.bytes = 16) (hzs : z.cells.size = 1)
    (g n cap : Nat) (xs : List ByteArray) (hs : a.eval s = .slice (some ⟨g, 0, none⟩) n cap) (hown : OwnS w base e g n cap xs)
    (b : ByteArray) (hx : a.eval x = .slice (some ⟨w.heap.size, 0, none⟩) 1 1) (hn : n + 1 ≤ 100000000)
    (h : ∀ g' cap' w', OwnS w' base e g' (n + 1) cap' (xs ++ [b]) → w.grownBy w' (some g) → (g' = g ∨ w.heap.size < g') → wpList P ops Q rest (a.put o.dst (.slice (some ⟨g', 0, none⟩) (n + 1) cap')) w') :
    wpList P ops Q (o :: rest) a (w.alloc (.cells #[.string b] e)) := by
  obtain ⟨hb0, hb1⟩ := ownS_blk hown
  refine wpList_append_own_at _ hgd s x t ho base e i z 1 16 ht hi hz hsize hby hzs (by decide) _ n _ hs (hown.1.alloc _) ⟨w.heap.size, 0, none⟩ 1 1 [.string b] hx rfl ?_ ?_ ?_ ?_ ?_ ?_
  · intro j u hj
    match j, hj with
    | 0, hj =>
      simp at hj
      subst hj
      simp [Addr.add]
  · intro u hu
    simp at hu
    subst hu
    rfl
  · unfold maxLen; omega
  · omega
  · simp; omega
  · intro v' w' k1 k2 k3 k4
    rcases k1.2 with ⟨hv, hn0⟩ | ⟨g', cap', cur, rfl, hrest⟩
    · omega
    · refine h g' cap' w' ⟨by rw [List.map_append]; exact k1, by rw [List.length_append]; have := hown.2; simp; omega⟩ ?_ ?_
      · have k2' : (w.alloc (.cells #[.string b] e)).grownBy w' (some g) := k2
        have hsz : (w.alloc (.cells #[.string b] e)).heap.size = w.heap.size + 1 := by show (w.heap.push _).size = _; simp
        exact ⟨k2'.os, k2'.tape, k2'.output, by have := k2'.size; omega, fun k hk hne => (k2'.block k (by omega) hne).trans (heap_alloc_old w _ hk)⟩
      · have k4' : some g' = some g ∨ some g' = some (w.alloc (.cells #[.string b] e)).heap.size := k4
        rcases k4' with k | k
        · exact .inl (Option.some.inj k)
        · right
          have := Option.some.inj k
          rw [this]
          show w.heap.size < (w.heap.push _).size
          simp
def inT (l : List ByteArray) (s : ByteArray) : Bool := l.any fun y => y.toList == s.toList
theorem inT_yes {l : List ByteArray} {s : ByteArray} {j : Nat} {x : ByteArray} (hx : l[j]? = some x) (h : (x.toList == s.toList) = true) : inT l s = true := List.any_eq_true.2 ⟨x, List.mem_of_getElem? hx, h⟩
theorem inT_no {l : List ByteArray} {s : ByteArray} (h : ∀ (j : Nat) (x : ByteArray), l[j]? = some x → (x.toList == s.toList) = false) : inT l s = false := by
  unfold inT
  rw [List.any_eq_false]
  intro x hx
  obtain ⟨j, hj, rfl⟩ := List.getElem_of_mem hx
  rw [h j _ (List.getElem?_eq_getElem hj)]
  decide
end Go.Proofs.Ytdbpknmoacjodaa
namespace Go.Proofs.Ytdbpknmoacjodaa
open Go.RowKit Go.PlainAid

def lessT (s x : ByteArray) : Bool := Op.bytesLess s.toList x.toList
def insT (s : ByteArray) : List ByteArray → List ByteArray
  | [] => [s]
  | x :: l => if lessT s x then s :: x :: l else x :: insT s l
def putT (l : List ByteArray) (s : ByteArray) : List ByteArray := if inT l s then l else insT s l
theorem insT_none {s : ByteArray} (l : List ByteArray) (h : ∀ x ∈ l, lessT s x = false) : insT s l = l ++ [s] := by
  induction l with
  | nil => rfl
  | cons x l ih => rw [insT, h x (by simp), ih fun y hy => h y (by simp [hy])]; rfl
theorem insT_more {s y : ByteArray} (l : List ByteArray) (h : ∃ x ∈ l, lessT s x = true) : insT s (l ++ [y]) = insT s l ++ [y] := by
  induction l with
  | nil => obtain ⟨x, hx, _⟩ := h; cases hx
  | cons x l ih =>
    rw [List.cons_append, insT, insT]
    split
    · rfl
    · next hn =>
      rw [ih, List.cons_append]
      obtain ⟨z, hz, hl⟩ := h
      rcases List.mem_cons.1 hz with rfl | hz
      · exact absurd hl hn
      · exact ⟨z, hz, hl⟩
theorem insT_here {s y : ByteArray} (l : List ByteArray) (h : ∀ x ∈ l, lessT s x = false) (hy : lessT s y = true) : insT s (l ++ [y]) = l ++ [s] ++ [y] := by
  induction l with
  | nil => rw [List.nil_append, insT, if_pos hy]; rfl
  | cons x l ih => rw [List.cons_append, insT, h x (by simp), ih fun z hz => h z (by simp [hz])]; rfl
theorem insT_len (s : ByteArray) (l : List ByteArray) : (insT s l).length = l.length + 1 := by
  induction l with
  | nil => rfl
  | cons x l ih =>
    rw [insT]
    split
    · simp
    · rw [List.length_cons, ih, List.length_cons]
theorem putT_len (l : List ByteArray) (s : ByteArray) : (putT l s).length ≤ l.length + 1 := by
  unfold putT
  split
  · omega
  · rw [insT_len]; exact Nat.le_refl _
def underT (s : ByteArray) (b : Bool) (l : List ByteArray) : List ByteArray := if b then insT s l else l
def PutAt (s : ByteArray) (b : Bool) (l : List ByteArray) : Prop := if b then ∃ x ∈ l, lessT s x = true else ∀ x ∈ l, lessT s x = false
theorem put_was {s y : ByteArray} {l : List ByteArray} (h : PutAt s true l) : underT s true (l ++ [y]) = underT s true l ++ [y] ∧ PutAt s true (l ++ [y]) := by
  obtain ⟨x, hx, hl⟩ := h
  exact ⟨insT_more l ⟨x, hx, hl⟩, x, List.mem_append_left _ hx, hl⟩
theorem put_now {s y : ByteArray} {l : List ByteArray} (h : PutAt s false l) (hy : lessT s y = true) : underT s true (l ++ [y]) = underT s false l ++ [s] ++ [y] ∧ PutAt s true (l ++ [y]) := ⟨insT_here l h hy, y, by simp, hy⟩
theorem put_not {s y : ByteArray} {l : List ByteArray} (h : PutAt s false l) (hy : lessT s y = false) : underT s false (l ++ [y]) = underT s false l ++ [y] ∧ PutAt s false (l ++ [y]) := by
  refine ⟨rfl, fun x hx => ?_⟩
  rcases List.mem_append.1 hx with hx | hx
  · exact h x hx
  · rw [List.mem_singleton] at hx
    rw [hx]
    exact hy
theorem put_end {s : ByteArray} {l : List ByteArray} (h : PutAt s false l) : insT s l = underT s false l ++ [s] := insT_none l h
end Go.Proofs.Ytdbpknmoacjodaa
namespace Go.Proofs.Ytdbpknmoacjodaa
open Go.RowKit Go.PlainAid

abbrev dN : List UInt8 := [42, 100, 101, 102, 97, 117, 108, 116]
def decB (s : Sm) : Bool := (s.kind == 1 || s.kind == 2) && !(s.name.toList == dN)
def stN (l : List Sm) : List ByteArray := (l.filter decB).map (·.name)
def imN (l : List Im) : List ByteArray := l.map (·.loc)
def declS (m : Md) : List ByteArray := stN m.st ++ imN m.im
end Go.Proofs.Ytdbpknmoacjodaa
namespace Go.Proofs.Ytdbpknmoacjodaa
open Go.RowKit Go.PlainAid

def namedB (k : Int) : Bool := k == 2 || k == 3 || k == 4 || k == 5
def putIf {α : Type} (p : α → Bool) (f : α → ByteArray) (l : List α) (acc : List ByteArray) : List ByteArray := l.foldl (fun acc x => if p x = true then putT acc (f x) else acc) acc
theorem putIf_nil {α : Type} (p : α → Bool) (f : α → ByteArray) (acc : List ByteArray) : putIf p f [] acc = acc := rfl
theorem putIf_snoc {α : Type} {p : α → Bool} {f : α → ByteArray} {l : List α} {j : Nat} {x : α} (h : l[j]? = some x) (acc : List ByteArray) : putIf p f (l.take (j + 1)) acc = if p x = true then putT (putIf p f (l.take j) acc) (f x) else putIf p f (l.take j) acc := by
  obtain ⟨hj, rfl⟩ := List.getElem?_eq_some_iff.1 h
  rw [putIf, List.take_succ_eq_append_getElem hj, List.foldl_append]
  rfl
theorem putIf_len {α : Type} (p : α → Bool) (f : α → ByteArray) (l : List α) : ∀ acc : List ByteArray, (putIf p f l acc).length ≤ acc.length + l.length := by
  induction l with
  | nil => intro acc; exact Nat.le_refl _
  | cons x l ih =>
    intro acc
    show (putIf p f l (if p x = true then putT acc (f x) else acc)).length ≤ _
    refine Nat.le_trans (ih _) ?_
    rw [List.length_cons]
    split
    · have := putT_len acc (f x); omega
    · omega
def useEx (m : Md) : List ByteArray := putIf (fun x => namedB x.kind) (fun x => x.name) m.ex []
def useSt (m : Md) : List ByteArray := putIf (fun x => x.kind == 3) (fun x => x.name) m.st (useEx m)
def useAll (m : Md) : List ByteArray := putIf (fun x => x.kind == 1) (fun x => x.loc) m.ep (useSt m)
def unusedL (m : Md) : List ByteArray := putIf (fun x => !inT (useAll m) x.loc) (fun x => x.loc) m.im []
def trimMd (m : Md) : Md := { m with im := m.im.filter fun x => !inT (unusedL m) x.loc }
theorem use_len (m : Md) : (useAll m).length ≤ m.ex.length + m.st.length + m.ep.length := by
  have a := putIf_len (fun x : Ex => namedB x.kind) (fun x => x.name) m.ex []
  have b := putIf_len (fun x : Sm => x.kind == 3) (fun x => x.name) m.st (useEx m)
  have c := putIf_len (fun x : Ep => x.kind == 1) (fun x => x.loc) m.ep (useSt m)
  have e1 : (useEx m).length ≤ 0 + m.ex.length := a
  have e2 : (useSt m).length ≤ (useEx m).length + m.st.length := b
  have e3 : (useAll m).length ≤ (useSt m).length + m.ep.length := c
  omega
theorem unused_len (m : Md) : (unusedL m).length ≤ m.im.length := by
  have a := putIf_len (fun x : Im => !inT (useAll m) x.loc) (fun x => x.loc) m.im []
  have e : (unusedL m).length ≤ 0 + m.im.length := a
  omega
def frEx (m : Md) : List ByteArray := putIf (fun x => (x.kind == 2 || x.kind == 3) && !inT (declS m) x.name) (fun x => x.name) m.ex []
def freeL (m : Md) : List ByteArray := putIf (fun x => x.kind == 3 && !inT (declS m) x.name) (fun x => x.name) m.st (frEx m)
theorem free_len (m : Md) : (freeL m).length ≤ m.ex.length + m.st.length := by
  have a := putIf_len (fun x : Ex => (x.kind == 2 || x.kind == 3) && !inT (declS m) x.name) (fun x => x.name) m.ex []
  have b := putIf_len (fun x : Sm => x.kind == 3 && !inT (declS m) x.name) (fun x => x.name) m.st (frEx m)
  have e1 : (frEx m).length ≤ 0 + m.ex.length := a
  have e2 : (freeL m).length ≤ (frEx m).length + m.st.length := b
  omega
theorem take_onD {α : Type} {l : List α} {j : Nat} {x : α} (h : l[j]? = some x) : l.take (j + 1) = l.take j ++ [x] := by
  obtain ⟨hj, rfl⟩ := List.getElem?_eq_some_iff.1 h
  exact List.take_succ_eq_append_getElem hj
theorem stN_next {l : List Sm} {j : Nat} {x : Sm} (h : l[j]? = some x) : stN (l.take (j + 1)) = if decB x = true then stN (l.take j) ++ [x.name] else stN (l.take j) := by
  rw [take_onD h, stN, stN, List.filter_append]
  cases hd : decB x <;> simp [hd]
theorem stN_len (l : List Sm) : (stN l).length ≤ l.length := by rw [stN, List.length_map]; exact List.length_filter_le _ _
theorem fil_next {α : Type} (p : α → Bool) {l : List α} {j : Nat} {x : α} (h : l[j]? = some x) : (l.take (j + 1)).filter p = if p x = true then (l.take j).filter p ++ [x] else (l.take j).filter p := by
  rw [take_onD h, List.filter_append]
  cases hd : p x <;> simp [hd]
theorem imN_next {l : List Im} {j : Nat} {x : Im} (ns : List ByteArray) (h : l[j]? = some x) : ns ++ imN (l.take (j + 1)) = ns ++ imN (l.take j) ++ [x.loc] := by
  rw [take_onD h, imN, imN, List.map_append, List.append_assoc]
  rfl
end Go.Proofs.Ytdbpknmoacjodaa
namespace Go.Proofs.Ytdbpknmoacjodaa
open Go.RowKit Go.PlainAid

theorem Try.infoByte : (Try.prog.info? 5).map (fun i => (i.zero, i.size, i.bytes)) = some (some (.int .u8 0), 1, 1) := by kernel_rfl
end Go.Proofs.Ytdbpknmoacjodaa
namespace Go.Proofs.Ytdbpknmoacjodaa
open Go.RowKit Go.PlainAid

theorem l1In_any (a b c : Int) (w : World) :
    Calls Try.prog 120 #[.int .i64 a, .int .i64 b, .int .i64 c] w fun e w' => e = .returned (.bool (inB a b c)) ∧ w' = w := by
  by_cases h1 : b ≤ a
  · by_cases h2 : a ≤ c
    · go_enter Try.func120, Try.ntmps120
      go_wp2
      go_ret
      exact ⟨ret_bool (inB_yes h1 h2).symm, rfl⟩
    · go_enter Try.func120, Try.ntmps120
      go_wp2
      go_ret
      exact ⟨ret_bool (inB_no (by omega)).symm, rfl⟩
  · go_enter Try.func120, Try.ntmps120
    go_wp2
    go_ret
    exact ⟨ret_bool (inB_no (by omega)).symm, rfl⟩
end Go.Proofs.Ytdbpknmoacjodaa
namespace Go.Proofs.Ytdbpknmoacjodaa
open Go.RowKit Go.PlainAid

set_option maxRecDepth 100000 in
set_option maxHeartbeats 3200000 in
theorem l2Path_any (s : ByteArray) (w : World) (_ : s.size ≤ 9223372036854775807) :
    Calls Try.prog 143 #[.string s] w fun e w' => e = .returned (.bool (pathB s)) ∧ w' = w := by
  by_cases hl : 1 ≤ s.size ∧ s.size ≤ 40
  · obtain ⟨hl1, hl2⟩ := hl
    have hin := inB_yes (a := s.size) (b := 1) (c := 40) (by omega) (by omega)
    have hb := get_bt s
    by_cases h47 : (bt s 0 == 47) = true
    · have e47 : bt s 0 = 47 := by simpa using h47
      have E47 : Hid (bt s 0 = 47) := e47
      have hne : (bt s 0 != 47) = false := by simpa using e47
      clear e47
      go_enter Try.func143, Try.ntmps143
      go_wp2_with (go_at_call 120; refine (l1In_any _ _ _ _).mono ?_; rintro e w' ⟨rfl, rfl⟩)
      go_loop [3, 4] (fun i _ => ∃ k : Nat, k ≤ s.size ∧ i = .int .i64 k ∧ ∀ j, j < k → okc (bt s j)) (fun i _ => (s.size - intOf i).toNat)
      case atStart => exact ⟨0, by omega, rfl, fun j hj => by omega⟩
      case round =>
        obtain ⟨k, hk, rfl, hok⟩ := hrel
        have HOK : Hid (∀ j, j < k → okc (bt s j)) := hok
        clear hok
        by_cases hlt : k < s.size
        · have hb0 := bt_nonneg s k
          have hb1 := bt_le s k
          by_cases hc : okc (bt s k)
          · have HN : Hid (∀ j, j < k + 1 → okc (bt s j)) := fun j hj => by
              by_cases e : j = k
              · rw [e]; exact hc
              · exact HOK.out j (by omega)
            have hcases : (97 ≤ bt s k ∧ bt s k ≤ 122) ∨ (48 ≤ bt s k ∧ bt s k ≤ 57) ∨ bt s k = 46 ∨ bt s k = 95 ∨ bt s k = 45 ∨ bt s k = 47 := hc
            clear hc
            rcases hcases with ⟨a, b⟩ | ⟨a, b⟩ | a | a | a | a
            all_goals
              go_wp2
              go_round
              case rel => exact ⟨k + 1, by omega, by go_num, HN.out⟩
              case measure => simp [intOf]; omega
          · have HN : Hid (¬ PathP s) := fun h => hc (h.2.2.2 k hlt)
            have hcases : ¬ (97 ≤ bt s k ∧ bt s k ≤ 122) ∧ ¬ (48 ≤ bt s k ∧ bt s k ≤ 57) ∧ bt s k ≠ 46 ∧ bt s k ≠ 95 ∧ bt s k ≠ 45 ∧ bt s k ≠ 47 := by
              unfold okc at hc; omega
            obtain ⟨c1, c2, c3, c4, c5, c6⟩ := hcases
            have d3 : (bt s k == 46) = false := beq_eq_false_iff_ne.2 c3
            have d4 : (bt s k == 95) = false := beq_eq_false_iff_ne.2 c4
            have d5 : (bt s k == 45) = false := beq_eq_false_iff_ne.2 c5
            have d6 : (bt s k == 47) = false := beq_eq_false_iff_ne.2 c6
            clear hc c3 c4 c5 c6
            by_cases g1 : 97 ≤ bt s k
            · have g2 : 122 < bt s k := by omega
              have q1 : decide (bt s k ≤ 122) = false := decide_eq_false (by omega)
              have q2 : decide (bt s k ≤ 57) = false := decide_eq_false (by omega)
              clear c1 c2
              go_wp2
              go_ret
              exact ⟨ret_bool (pathB_no HN.out).symm, rfl⟩
            · by_cases g3 : 48 ≤ bt s k
              · have g4 : 57 < bt s k := by omega
                have q2 : decide (bt s k ≤ 57) = false := decide_eq_false (by omega)
                clear c1 c2
                go_wp2
                go_ret
                exact ⟨ret_bool (pathB_no HN.out).symm, rfl⟩
              · clear c1 c2
                go_wp2
                go_ret
                exact ⟨ret_bool (pathB_no HN.out).symm, rfl⟩
        · have HY : Hid (PathP s) := ⟨hl1, hl2, E47.out, fun j hj => HOK.out j (by omega)⟩
          go_wp2
          go_ret
          exact ⟨ret_bool (pathB_yes HY.out).symm, rfl⟩
    · have HN : Hid (¬ PathP s) := fun h => h47 (by rw [h.2.2.1]; rfl)
      have hne : (bt s 0 != 47) = true := by simpa using h47
      clear h47
      go_enter Try.func143, Try.ntmps143
      go_wp2_with (go_at_call 120; refine (l1In_any _ _ _ _).mono ?_; rintro e w' ⟨rfl, rfl⟩)
      go_ret
      exact ⟨ret_bool (pathB_no HN.out).symm, rfl⟩
  · have HN : Hid (¬ PathP s) := fun h => hl ⟨h.1, h.2.1⟩
    have hin := inB_no (a := s.size) (b := 1) (c := 40) (by omega)
    go_enter Try.func143, Try.ntmps143
    go_wp2_with (go_at_call 120; refine (l1In_any _ _ _ _).mono ?_; rintro e w' ⟨rfl, rfl⟩)
    go_ret
    exact ⟨ret_bool (pathB_no HN.out).symm, rfl⟩
theorem Try.infoStr : (Try.prog.info? 9).map (fun i => (i.zero, i.size, i.bytes)) = some (some (.string { data := #[] }), 1, 16) := by kernel_rfl

theorem size_lit1 (c : UInt8) : ({ data := #[c] } : ByteArray).size = 1 := rfl

set_option maxRecDepth 100000 in
set_option maxHeartbeats 3200000 in
theorem clean_spec (s : ByteArray) (w : World) (hs : s.size ≤ 9223372036854775807) :
    Calls Try.prog 82 #[.string s] w fun e w' => e = .returned (.string (cleanS s)) ∧ Below w.heap.size w w' := by
  obtain ⟨i0, hi, hz0, hz1, hz2⟩ := info_parts Try.infoStr
  by_cases hp : pathB s = true
  · have hl1 : 1 ≤ s.size := (pathB_iff.1 hp).1
    have hl2 : s.size ≤ 40 := (pathB_iff.1 hp).2.1
    have HP : Hid (pathB s = true) := hp
    have hb := get_bt s
    go_enter Try.func82, Try.ntmps82
    go_wp2_with (go_at_call 143; refine (l2Path_any _ _ hs).mono ?_; rintro e w' ⟨rfl, rfl⟩)
    go_loopw [3, 4, 5, 6] (fun l f i _ wr => ∃ (k n g cap : Nat) (xs : List ByteArray) (fr : Nat), k ≤ s.size + 1 ∧ i = .int .i64 k ∧ f = .int .i64 fr ∧ l = .slice (some ⟨g, 0, none⟩) n cap ∧ clTo s k = (fr, xs) ∧ OwnS wr w'.heap.size 9 g n cap xs ∧ Below w'.heap.size w' wr) (fun _ _ i _ _ => (s.size + 1 - intOf i).toNat)
    case atStart => exact ⟨0, 0, w'.heap.size, 0, [], 0, by omega, rfl, rfl, rfl, rfl, ⟨World.ownsRow_lit w' #[] 0 (Nat.le_refl _) (by unfold maxLen; omega) rfl, rfl⟩, (Below.refl _ _).alloc (Nat.le_refl _) _⟩
    case round =>
      obtain ⟨k, n, g, cap, xs, fr, hk, rfl, rfl, rfl, hto, hown, hbel⟩ := hrel
      have HT : Hid (clTo s k = (fr, xs)) := hto
      have hbd := clTo_bd s k
      rw [hto] at hbd
      simp only at hbd
      have hn := ownS_len hown
      have hcp := ownS_cap hown
      have hn42 : n ≤ 42 := by omega
      have HLEN : Hid (n = xs.length) := hn
      clear hto hn
      have hfr : fr ≤ k := hbd.1
      clear hbd
      have hsz := hbel.size
      by_cases hks : k ≤ s.size
      · by_cases hc : k < s.size ∧ bt s k ≠ 47
        · obtain ⟨hc1, hc2⟩ := hc
          have HN : Hid (clTo s (k + 1) = (fr, xs)) := (clTo_on hc1 hc2).trans HT.out
          have hq : (bt s k != 47) = true := by simpa using hc2
          clear hc2
          go_wp2
          go_roundw
          case rel => exact ⟨k + 1, n, g, cap, xs, fr, by omega, by go_num, rfl, rfl, HN.out, hown, hbel⟩
          case measure => simp [intOf]; omega
        · have HN : Hid (clTo s (k + 1) = (k + 1, upd (s.extract fr k) xs)) := by
            have := clTo_part hc
            rw [HT.out] at this
            exact this
          by_cases hk1 : k < s.size
          · have hq : (bt s k != 47) = false := by
              have : bt s k = 47 := by
                rcases Classical.em (bt s k = 47) with e | e
                · exact e
                · exact absurd ⟨hk1, e⟩ hc
              simp [this]
            clear hc
            by_cases p0 : (s.extract fr k).toList.isEmpty = true
            · have HU : Hid (clTo s (k + 1) = (k + 1, xs)) := by have := HN.out; rw [upd_empty p0] at this; exact this
              go_wp2
              go_roundw
              case rel => exact ⟨k + 1, n, g, cap, xs, k + 1, by omega, by go_num, by go_num, rfl, HU.out, hown, hbel⟩
              case measure => simp [intOf]; omega
            · have p0' : (s.extract fr k).toList.isEmpty = false := by simpa using p0
              clear p0
              by_cases p1 : ((s.extract fr k).toList == [46]) = true
              · have HU : Hid (clTo s (k + 1) = (k + 1, xs)) := by have := HN.out; rw [upd_point p1] at this; exact this
                go_wp2
                go_roundw
                case rel => exact ⟨k + 1, n, g, cap, xs, k + 1, by omega, by go_num, by go_num, rfl, HU.out, hown, hbel⟩
                case measure => simp [intOf]; omega
              · have p1' : ((s.extract fr k).toList == [46]) = false := by simpa using p1
                clear p1
                by_cases p2 : ((s.extract fr k).toList == [46, 46]) = true
                · have HU : Hid (clTo s (k + 1) = (k + 1, xs.dropLast)) := by have := HN.out; rw [upd_up p0' p1' p2] at this; exact this
                  match n, hown, HLEN, hn42, hcp with
                  | 0, hown, HLEN, hn42, hcp =>
                    have HD : Hid (xs.dropLast = xs) := by
                      show xs.dropLast = xs
                      have := HLEN.out
                      have e : xs = [] := List.length_eq_zero_iff.1 this.symm
                      rw [e]; rfl
                    go_wp2
                    go_roundw
                    case rel => exact ⟨k + 1, 0, g, cap, xs, k + 1, by omega, by go_num, by go_num, rfl, by rw [HU.out, HD.out], hown, hbel⟩
                    case measure => simp [intOf]; omega
                  | n + 1, hown, HLEN, hn42, hcp =>
                    have hpop := ownS_pop hown
                    have hc1 : n ≤ cap := by omega
                    go_wp2
                    go_roundw
                    case rel => exact ⟨k + 1, n, g, cap, xs.dropLast, k + 1, by omega, by go_num, by go_num, rfl, HU.out, hpop, hbel⟩
                    case measure => simp [intOf]; omega
                · have p2' : ((s.extract fr k).toList == [46, 46]) = false := by simpa using p2
                  clear p2
                  have HU : Hid (clTo s (k + 1) = (k + 1, xs ++ [s.extract fr k])) := by have := HN.out; rw [upd_name p0' p1' p2'] at this; exact this
                  go_wp2_with (first | (at_builtin; refine app_str wr rfl _ _ 22 rfl w'.heap.size 9 i0 _ Try.underlying22 hi hz0 hz1 hz2 rfl g n cap xs (by rfl) hown (s.extract fr k) (by rfl) (by omega) hsz ?_))
                  intro g' cap' w2 hown2 hb2
                  go_wp2
                  go_roundw
                  case rel => exact ⟨k + 1, n + 1, g', cap', xs ++ [s.extract fr k], k + 1, by omega, by go_num, by go_num, rfl, HU.out, hown2, hbel.trans hb2⟩
                  case measure => simp [intOf]; omega
          · clear hc
            by_cases p0 : (s.extract fr k).toList.isEmpty = true
            · have HU : Hid (clTo s (k + 1) = (k + 1, xs)) := by have := HN.out; rw [upd_empty p0] at this; exact this
              go_wp2
              go_roundw
              case rel => exact ⟨k + 1, n, g, cap, xs, k + 1, by omega, by go_num, by go_num, rfl, HU.out, hown, hbel⟩
              case measure => simp [intOf]; omega
            · have p0' : (s.extract fr k).toList.isEmpty = false := by simpa using p0
              clear p0
              by_cases p1 : ((s.extract fr k).toList == [46]) = true
              · have HU : Hid (clTo s (k + 1) = (k + 1, xs)) := by have := HN.out; rw [upd_point p1] at this; exact this
                go_wp2
                go_roundw
                case rel => exact ⟨k + 1, n, g, cap, xs, k + 1, by omega, by go_num, by go_num, rfl, HU.out, hown, hbel⟩
                case measure => simp [intOf]; omega
              · have p1' : ((s.extract fr k).toList == [46]) = false := by simpa using p1
                clear p1
                by_cases p2 : ((s.extract fr k).toList == [46, 46]) = true
                · have HU : Hid (clTo s (k + 1) = (k + 1, xs.dropLast)) := by have := HN.out; rw [upd_up p0' p1' p2] at this; exact this
                  match n, hown, HLEN, hn42, hcp with
                  | 0, hown, HLEN, hn42, hcp =>
                    have HD : Hid (xs.dropLast = xs) := by
                      show xs.dropLast = xs
                      have := HLEN.out
                      have e : xs = [] := List.length_eq_zero_iff.1 this.symm
                      rw [e]; rfl
                    go_wp2
                    go_roundw
                    case rel => exact ⟨k + 1, 0, g, cap, xs, k + 1, by omega, by go_num, by go_num, rfl, by rw [HU.out, HD.out], hown, hbel⟩
                    case measure => simp [intOf]; omega
                  | n + 1, hown, HLEN, hn42, hcp =>
                    have hpop := ownS_pop hown
                    have hc1 : n ≤ cap := by omega
                    go_wp2
                    go_roundw
                    case rel => exact ⟨k + 1, n, g, cap, xs.dropLast, k + 1, by omega, by go_num, by go_num, rfl, HU.out, hpop, hbel⟩
                    case measure => simp [intOf]; omega
                · have p2' : ((s.extract fr k).toList == [46, 46]) = false := by simpa using p2
                  clear p2
                  have HU : Hid (clTo s (k + 1) = (k + 1, xs ++ [s.extract fr k])) := by have := HN.out; rw [upd_name p0' p1' p2'] at this; exact this
                  go_wp2_with (first | (at_builtin; refine app_str wr rfl _ _ 22 rfl w'.heap.size 9 i0 _ Try.underlying22 hi hz0 hz1 hz2 rfl g n cap xs (by rfl) hown (s.extract fr k) (by rfl) (by omega) hsz ?_))
                  intro g' cap' w2 hown2 hb2
                  go_wp2
                  go_roundw
                  case rel => exact ⟨k + 1, n + 1, g', cap', xs ++ [s.extract fr k], k + 1, by omega, by go_num, by go_num, rfl, HU.out, hown2, hbel.trans hb2⟩
                  case measure => simp [intOf]; omega
      · obtain rfl : k = s.size + 1 := by omega
        have HPT : Hid (parts s = xs) := by show (clTo s (s.size + 1)).2 = xs; rw [HT.out]
        have hxs : ∀ x ∈ xs, x.size ≤ s.size := by
          have := clTo_sizes s (s.size + 1)
          rw [HT.out] at this
          exact this
        have HX : Hid (∀ x ∈ xs, x.size ≤ s.size) := hxs
        clear hxs
        by_cases hn0 : n = 0
        · have HE : Hid (cleanS s = { data := #[47] }) := cleanS_root HP.out (by rw [HPT.out, ← HLEN.out]; exact hn0)
          have hq : ((n : Int) == 0) = true := by rw [hn0]; rfl
          clear hn0
          go_wp2
          go_ret
          exact ⟨ret_str HE.out.symm, hbel⟩
        · have HE : Hid (cleanS s = joinTo xs n) := by
            have := cleanS_yes HP.out (by rw [HPT.out, ← HLEN.out]; exact hn0)
            rw [HPT.out, ← HLEN.out] at this
            exact this
          have hq : ((n : Int) == 0) = false := beq_eq_false_iff_ne.2 (by omega)
          go_wp2
          go_loop [7, 8] (fun o i => ∃ j : Nat, j ≤ n ∧ i = .int .i64 j ∧ o = .string (joinTo xs j)) (fun _ i => (n - intOf i).toNat)
          case atStart => exact ⟨0, by omega, rfl, rfl⟩
          case round =>
            obtain ⟨j, hj, rfl, rfl⟩ := hrel
            by_cases hlt : j < n
            · have hcell := ownS_cell hown j hlt
              have hjs : (joinTo xs j).size ≤ 2000 := by
                have h1 := joinTo_size s xs HX.out j
                have h2 : j * (s.size + 1) ≤ 42 * 41 := Nat.mul_le_mul (by omega) (by omega)
                omega
              have hgs : (xs[j]?.getD { data := #[] }).size ≤ 40 := by
                have := getD_size s xs HX.out j
                rw [List.getD_eq_getElem?_getD] at this
                omega
              have hjs2 : (joinTo xs j ++ { data := #[47] }).size ≤ 2001 := by rw [ByteArray.size_append, size_lit1]; omega
              have HJ : Hid (joinTo xs (j + 1) = joinTo xs j ++ { data := #[47] } ++ xs.getD j { data := #[] }) := rfl
              go_wp2
              go_round
              case rel => exact ⟨j + 1, by omega, by go_num, by rw [HJ.out, List.getD_eq_getElem?_getD]⟩
              case measure => simp [intOf]; omega
            · have hjn : j = n := by omega
              have HE2 : Hid (cleanS s = joinTo xs j) := by show cleanS s = _; rw [HE.out, hjn]
              clear hjn
              go_wp2
              go_ret
              exact ⟨ret_str HE2.out.symm, hbel⟩
  · have hp' : pathB s = false := by simpa using hp
    have HV : Hid (cleanS s = { data := #[] }) := cleanS_no hp'
    clear hp
    go_enter Try.func82, Try.ntmps82
    go_wp2_with (go_at_call 143; refine (l2Path_any _ _ hs).mono ?_; rintro e w' ⟨rfl, rfl⟩)
    go_ret
    exact ⟨ret_str HV.out.symm, Below.refl _ _⟩
end Go.Proofs.Ytdbpknmoacjodaa
namespace Go.Proofs.Ytdbpknmoacjodaa
open Go.RowKit Go.PlainAid

set_option maxRecDepth 100000 in
theorem l6In_own (g n cap base : Nat) (xs : List ByteArray) (s : ByteArray) (w : World) (ho : OwnS w base 9 g n cap xs) (hn : n ≤ 10000000) :
    Calls Try.prog 106 #[.slice (some ⟨g, 0, none⟩) n cap, .string s] w fun e w' => e = .returned (.bool (inT xs s)) ∧ w' = w := by
  have hl := ownS_len ho
  have hg := (ownS_blk ho).2
  go_enter Try.func106, Try.ntmps106
  go_wp2
  go_loop [5] (fun i => ∃ k : Nat, k ≤ n ∧ i = .int .i64 k ∧ ∀ (j : Nat) (x : ByteArray), j < k → xs[j]? = some x → (x.toList == s.toList) = false) (fun i => (n - intOf i).toNat)
  case atStart => exact ⟨0, by omega, rfl, fun j x hj => by omega⟩
  case round =>
    obtain ⟨k, hk, rfl, hno⟩ := hrel
    have HNO := hidU hno
    clear hno
    by_cases hlt : k < n
    · obtain ⟨x, hx⟩ : ∃ x, xs[k]? = some x := ⟨_, List.getElem?_eq_getElem (by omega)⟩
      have c0 := ownS_cell ho k hlt
      rw [List.getD, hx] at c0
      simp only [Option.getD_some] at c0
      cases hq : x.toList == s.toList with
      | true =>
        have HV : Hid (inT xs s = true) := inT_yes hx hq
        clear hx
        go_wp2
        go_ret
        exact ⟨ret_bool HV.out.symm, rfl⟩
      | false =>
        have HX : Hid (∀ (j : Nat) (y : ByteArray), j < k + 1 → xs[j]? = some y → (y.toList == s.toList) = false) := fun j y hj hy => by
          by_cases e : j = k
          · subst e
            rw [hx] at hy
            cases hy
            exact hq
          · exact HNO.out j y (by omega) hy
        clear hx
        go_wp2
        go_round
        case rel => exact ⟨k + 1, by omega, by go_num, HX.out⟩
        case measure => simp [intOf]; omega
    · have HV : Hid (inT xs s = false) := inT_no fun j x hx => HNO.out j x (by have := (List.getElem?_eq_some_iff.1 hx).1; omega) hx
      go_wp2
      go_ret
      exact ⟨ret_bool HV.out.symm, rfl⟩
end Go.Proofs.Ytdbpknmoacjodaa
namespace Go.Proofs.Ytdbpknmoacjodaa
open Go.RowKit Go.PlainAid

end Go.Proofs.Ytdbpknmoacjodaa
