/-
  What passSigns of impl's parser answers: the walk.
  'append' of one element onto a row of the call's own, as one step of a region that draws its order. No program is spoken of.
  What spec's readers of one token answer: l4Full, l4Sign, l4Word, l4Reserved, l4Plain, l4Name: the walks.
  What spec's l4Plain and l4Name answer: the walks.
  What spec's l4Add, l4Imp, l4Stmt and l4Exp answer: the walks.
  What addExpr of impl's parser answers where there is room: the walk.
  A row of impl's parser grows by one element; what addImp answers where there is room: the walk.
-/
import Derived.Deep.LoopGhost
import Derived.Test.YtaakfnclelcopaaCTrimImplParseCToImplParseD
namespace Go.Proofs.Ytaakfnclelcopaa
open Go.RowKit Go.PlainAid Go.Sort

def signsP (C : Cx) (s : ByteArray) : Nat → Nat → PS → PR
  | 0, _, q => .ok q
  | n + 1, k, q => bd (tokP C 4 (s.extract k (k + 1)) q) (signsP C s n (k + 1))
theorem tok_fail {C : Cx} {k : Int} {x : ByteArray} {q : PS} (h : isT C q.pos k x = false) : tokP C k x q = .error (here C q.pos) := by rw [tokP, h]; rfl
theorem tok_pass {C : Cx} {k : Int} {x : ByteArray} {q : PS} (h : isT C q.pos k x = true) : tokP C k x q = .ok (adv q) := if_pos h
end Go.Proofs.Ytaakfnclelcopaa
namespace Go.Proofs.Ytaakfnclelcopaa
open Go.RowKit Go.PlainAid

theorem step_row {P : Program} {ops : Array Oper} {o : Oper} {a : Act} {W : World} {K : Act → World → Prop} {Q : Exit → Act → World → Prop} {E : Prop} (hgd : o.guard = none) (s x : Operand) (t : TypeId)
    (ho : o.op = .call { callee := .builtin .append, args := #[s, x], argTypes := #[t, t] })
    (base : Nat) (e : TypeId) (i : TypeInfo) (z : Value) (size bytes : Nat) (ht : P.underlying t = some (.slice e)) (hi : P.info? e = some i) (hz : i.zero = some z) (hsize : i.size = size) (hby : i.bytes = bytes) (hzs : z.cells.size = size) (hsz : 0 < size) (h100 : bytes ≤ 100)
    (r : Rw) (n : Nat) (xs : List Value) (hs : a.eval s = .slice r.a n r.cap) (hown : OwnR W base e size r n xs)
    (gx : Nat) (news : List Value) (hx : a.eval x = .slice (some ⟨gx, 0, none⟩) 1 1) (hg : W.heap[gx]? = some (.cells news.toArray e (0, 0))) (hl : news.length = size) (h1 : ∀ u ∈ news, u.oneCell' = true) (hn : n + 1 ≤ 4000000) (hbase : base ≤ W.heap.size)
    (h : ∀ r' w', OwnR w' base e size r' (n + 1) (xs ++ news) → W.grownBy w' r.blk → (r'.blk = r.blk ∨ r'.blk = some W.heap.size) → K (a.put o.dst (.slice r'.a (n + 1) r'.cap)) w') :
    if Region.wanted o (yielded ops a.tmps) = true then Oper.wp P o a W K Q else E := by
  have hw : Region.wanted o (yielded ops a.tmps) = true := by simp [Region.wanted, hgd]
  rw [if_pos hw]
  obtain ⟨v', w', hr, h2, h3, _, h5⟩ := run_append_own_at (P := P) W base t o.type e i z size bytes ht hi hz hsize hby hzs hsz _ n xs hown ⟨gx, 0, none⟩ 1 1 news (by omega) (by
    intro j u hj
    have e1 : (⟨gx, 0, none⟩ : Addr).add j = ⟨gx, j, none⟩ := by simp [Addr.add]; exact fun h => h.symm
    rw [e1]
    simp [World.cell?, hg, hj]) h1 (by unfold maxLen; omega) (by have : (n + 1) * bytes ≤ 4000000 * 100 := Nat.mul_le_mul hn h100; omega) hbase
  unfold Oper.wp execOp
  simp only [ho, resolve, invoke, builtin, Sem.run_bind, Sem.run_pure, Result.andThen_ok, List.map_toArray, List.map_cons, List.map_nil, hs, hx, hr]
  rcases h2.2 with ⟨hv, hn0⟩ | ⟨g', cap', cur, rfl, hrest⟩
  · omega
  · refine h ⟨some ⟨g', 0, none⟩, cap'⟩ w' h2 ?_ ?_
    · rw [← blk_any r n]; exact h3
    · rw [← blk_any r n, ← blk_any ⟨some ⟨g', 0, none⟩, cap'⟩ (n + 1)]; exact h5
end Go.Proofs.Ytaakfnclelcopaa
namespace Go.Proofs.Ytaakfnclelcopaa
open Go.RowKit Go.PlainAid

def Is (x : PR) (q : PS) (z : Int) : Prop :=
  match x with
  | .ok q0 => q = q0 ∧ z = -1
  | .error e => z = (e : Int)
theorem is_ok (q : PS) : Is (.ok q) q (-1) := ⟨rfl, rfl⟩
theorem is_neg {x : PR} {q : PS} {z : Int} (h : Is x q z) (hz : z < 0) : x = .ok q ∧ z = -1 := by
  cases x with
  | ok q0 => obtain ⟨rfl, rfl⟩ := h; exact ⟨rfl, rfl⟩
  | error e => have : z = (e : Int) := h; omega
theorem is_bad {x : PR} {q : PS} {z : Int} (h : Is x q z) (hz : ¬ z < 0) : ∃ e, x = .error e ∧ z = (e : Int) := by
  cases x with
  | ok q0 => obtain ⟨rfl, rfl⟩ := h; exact absurd (by decide) hz
  | error e => exact ⟨e, rfl, h⟩
end Go.Proofs.Ytaakfnclelcopaa
namespace Go.Proofs.Ytaakfnclelcopaa
open Go.RowKit Go.PlainAid

theorem plain_kind {C : Cx} {i : Nat} {o : Bool} (h : ((tokAt C i).kind == 1) = false) : plainB C i o = false := by rw [plainB, h]; rfl
theorem plain_end {C : Cx} {i : Nat} {o : Bool} (h : ¬ i < C.ts.length) : plainB C i o = false := by
  rw [Bool.eq_false_iff]
  exact fun g => h (plain_lt g)
def Is2 (y : Except Nat (PS × ByteArray)) (q : PS) (z : Int) (n : ByteArray) : Prop :=
  match y with
  | .ok a => q = a.1 ∧ z = -1 ∧ n = a.2
  | .error e => z = (e : Int)
theorem Is2.fst {y : Except Nat (PS × ByteArray)} {q : PS} {z : Int} {n : ByteArray} (h : Is2 y q z n) : Is (fstP y) q z := by
  cases y with
  | ok a => exact ⟨h.1, h.2.1⟩
  | error e => exact h
theorem Is2.bind {y : Except Nat (PS × ByteArray)} {q : PS} {z : Int} {n : ByteArray} (h : Is2 y q z n) {β : Type} (F : PS → ByteArray → Except Nat β) : bd (fstP y) (fun q => F q n) = bd y fun a => F a.1 a.2 := by
  cases y with
  | ok a => obtain ⟨_, _, rfl⟩ := h; rfl
  | error e => rfl
end Go.Proofs.Ytaakfnclelcopaa
namespace Go.Proofs.Ytaakfnclelcopaa
open Go.RowKit Go.PlainAid

theorem Try.infoImp : (Try.prog.info? 78).map (fun i => (i.zero, i.size, i.bytes)) = some (some (.agg #[.string { data := #[] }, .string { data := #[] }, .string { data := #[] }]), 3, 48) := by kernel_rfl
theorem Try.infoExp : (Try.prog.info? 55).map (fun i => (i.zero, i.size, i.bytes)) = some (some (.agg #[.int .i64 0, .string { data := #[] }, .string { data := #[] }, .string { data := #[] }]), 4, 56) := by kernel_rfl
theorem Try.infoStmt : (Try.prog.info? 53).map (fun i => (i.zero, i.size, i.bytes)) = some (some (.agg #[.int .i64 0, .string { data := #[] }, .int .i64 0]), 3, 32) := by kernel_rfl
theorem Try.infoExpr : (Try.prog.info? 50).map (fun i => (i.zero, i.size, i.bytes)) = some (some (.agg #[.int .i64 0, .int .i64 0, .string { data := #[] }, .string { data := #[] }, .int .i64 0, .int .i64 0]), 6, 64) := by kernel_rfl
def imV (x : Im) : Value := .agg #[.string x.spec, .string x.first, .string x.loc]
def epV (x : Ep) : Value := .agg #[.int .i64 x.kind, .string x.name, .string x.loc, .string x.spec]
def exV (x : Ex) : Value := .agg #[.int .i64 x.kind, .int .i64 x.num, .string x.name, .string x.field, .int .i64 x.l, .int .i64 x.r]
theorem below3 (w : World) (a b c : Obj) : Below w.heap.size w (((w.alloc a).alloc b).alloc c) := (below2 w a b).alloc (below2 w a b).size c
theorem below4 (w : World) (a b c d : Obj) : Below w.heap.size w ((((w.alloc a).alloc b).alloc c).alloc d) := (below3 w a b c).alloc (below3 w a b c).size d
theorem size2 (w : World) (a b : Obj) : ((w.alloc a).alloc b).heap.size = w.heap.size + 1 + 1 := by rw [alloc_size, alloc_size]
theorem size3 (w : World) (a b c : Obj) : (((w.alloc a).alloc b).alloc c).heap.size = w.heap.size + 1 + 1 + 1 := by rw [alloc_size, size2]
theorem size4 (w : World) (a b c d : Obj) : ((((w.alloc a).alloc b).alloc c).alloc d).heap.size = w.heap.size + 1 + 1 + 1 + 1 := by rw [alloc_size, size3]
theorem new3 (w : World) (a b c : Obj) : (((w.alloc a).alloc b).alloc c).heap[w.heap.size]? = some a ∧ (((w.alloc a).alloc b).alloc c).heap[w.heap.size + 1]? = some b ∧ (((w.alloc a).alloc b).alloc c).heap[w.heap.size + 1 + 1]? = some c := by
  refine ⟨?_, ?_, ?_⟩
  · rw [Below.heap_alloc _ _ _ (by rw [size2]; omega), Below.heap_alloc _ _ _ (by rw [alloc_size]; omega)]
    exact heap_alloc_new w a
  · rw [Below.heap_alloc _ _ _ (by rw [size2]; omega)]
    exact new2 w a b
  · rw [← size2 w a b]
    exact heap_alloc_new _ c
theorem new4 (w : World) (a b c d : Obj) : ((((w.alloc a).alloc b).alloc c).alloc d).heap[w.heap.size]? = some a ∧ ((((w.alloc a).alloc b).alloc c).alloc d).heap[w.heap.size + 1]? = some b ∧ ((((w.alloc a).alloc b).alloc c).alloc d).heap[w.heap.size + 1 + 1]? = some c ∧ ((((w.alloc a).alloc b).alloc c).alloc d).heap[w.heap.size + 1 + 1 + 1]? = some d := by
  obtain ⟨h1, h2, h3⟩ := new3 w a b c
  refine ⟨?_, ?_, ?_, ?_⟩
  · rw [Below.heap_alloc _ _ _ (by rw [size3]; omega)]
    exact h1
  · rw [Below.heap_alloc _ _ _ (by rw [size3]; omega)]
    exact h2
  · rw [Below.heap_alloc _ _ _ (by rw [size3]; omega)]
    exact h3
  · rw [← size3 w a b c]
    exact heap_alloc_new _ d
theorem three_below {w w1 : World} {a b c : Obj} (hb : Below (((w.alloc a).alloc b).alloc c).heap.size (((w.alloc a).alloc b).alloc c) w1) : Below w.heap.size w w1 := (below3 w a b c).trans (hb.mono (below3 w a b c).size)
theorem is_full {C : Cx} {x : PR} {q : PS} {z : Int} {f : PS → PR} (hx : Is x q z) (hz : z < 0) (hf : f q = .error (here C (q.pos - 1))) : Is (bd x f) q (here C (q.pos - 1)) := by
  obtain ⟨rfl, _⟩ := is_neg hx hz
  rw [bd_ok, hf]
  rfl
theorem is_stay {x : PR} {q : PS} {z : Int} {f : PS → PR} (hx : Is x q z) (hz : ¬ z < 0) : Is (bd x f) q z := by
  obtain ⟨e, rfl, h2⟩ := is_bad hx hz
  exact h2
theorem is_went {x : PR} {q q' : PS} {z : Int} {f : PS → PR} (hx : Is x q z) (hz : z < 0) (hf : f q = .ok q') : Is (bd x f) q' z := by
  obtain ⟨rfl, h2⟩ := is_neg hx hz
  rw [bd_ok, hf]
  exact ⟨rfl, h2⟩
theorem wpos {w W : World} {base : Nat} {S : Sv} {q : PS} (ho : Own w base S q) (_ : w.heap.size ≤ W.heap.size) {r : Option Nat} (hr : ∀ k, r = some k → S.has k) (b : Nat) (hb : w.heap.size ≤ b) : some b ≠ r := fun e => by have := (ho.has (hr b e.symm)).2; omega

end Go.Proofs.Ytaakfnclelcopaa
namespace Go.Proofs.Ytaakfnclelcopaa
open Go.RowKit Go.PlainAid Go.Sort

theorem OwnR.drew {w : World} {base size n : Nat} {e : TypeId} {r : Rw} {xs : List Value} (h : OwnR w base e size r n xs) : OwnR w.drew base e size r n xs := h
theorem ex_ones (x : Ex) : ∀ u ∈ exL x, u.oneCell' = true := by
  intro u hu
  simp [exL] at hu
  rcases hu with rfl | rfl | rfl | rfl | rfl | rfl <;> rfl
end Go.Proofs.Ytaakfnclelcopaa
namespace Go.Proofs.Ytaakfnclelcopaa
open Go.RowKit Go.PlainAid Go.Sort

theorem im_ones (x : Im) : ∀ u ∈ imL x, u.oneCell' = true := by
  intro u hu
  simp [imL] at hu
  rcases hu with rfl | rfl | rfl <;> rfl
end Go.Proofs.Ytaakfnclelcopaa
