/-
  A range over a function, where the iterator and the loop's body each hold blocks of their own: who holds what, how an iterator of texts is said, the statement's law. No program is spoken of.
-/
import Derived.RangeFuncNested
import Derived.RangeFuncLeaves
import Derived.Maps.AppendAt
import Derived.OwnWalkIn
namespace Go.Proofs.Ytdbpknmoacjodaa
open Go.RowKit

structure Hd (C : Nat → Prop) (W : World) (C' : Nat → Prop) (W' : World) : Prop where
  os : W'.os = W.os
  tape : W'.tape = W.tape
  output : W'.output = W.output
  size : W.heap.size ≤ W'.heap.size
  same : ∀ k, k < W.heap.size → ¬ C k → W'.heap[k]? = W.heap[k]?
  sub : ∀ k, C' k → C k ∨ W.heap.size ≤ k
  lt : ∀ k, C' k → k < W'.heap.size

theorem Hd.refl {C : Nat → Prop} {W : World} (h : ∀ k, C k → k < W.heap.size) : Hd C W C W := ⟨rfl, rfl, rfl, Nat.le_refl _, fun _ _ _ => rfl, fun _ h => .inl h, h⟩
theorem Hd.trans {C C1 C2 : Nat → Prop} {W W1 W2 : World} (h : Hd C W C1 W1) (k : Hd C1 W1 C2 W2) : Hd C W C2 W2 :=
  ⟨k.os.trans h.os, k.tape.trans h.tape, k.output.trans h.output, Nat.le_trans h.size k.size,
   fun i hi hc => (k.same i (Nat.lt_of_lt_of_le hi h.size) (fun h1 => (h.sub i h1).elim hc (fun h2 => by omega))).trans (h.same i hi hc),
   fun i hi => (k.sub i hi).elim (fun h1 => h.sub i h1) (fun h1 => .inr (Nat.le_trans h.size h1)), k.lt⟩
theorem Hd.below {C : Nat → Prop} {W W' : World} (h : ∀ k, C k → k < W.heap.size) (b : Below W.heap.size W W') : Hd C W C W' :=
  ⟨b.os, b.tape, b.output, b.size, fun k hk _ => b.block k hk, fun _ h => .inl h, fun k hk => Nat.lt_of_lt_of_le (h k hk) b.size⟩
theorem Hd.old {C C' : Nat → Prop} {W W' : World} (h : Hd C W C' W') {n : Nat} (hn : n ≤ W.heap.size) (hc : ∀ k, C k → n ≤ k) : Below n W W' :=
  ⟨h.os, h.tape, h.output, h.size, fun k hk => h.same k (by omega) (fun h1 => by have := hc k h1; omega)⟩
def Loc {β : Type} (J : β → (Nat → Prop) → World → Prop) : Prop := ∀ pre C W W', J pre C W → (∀ k, C k → W'.heap[k]? = W.heap[k]?) → J pre C W'

theorem Hd.put {C C' : Nat → Prop} {W W' : World} (h : Hd C W C' W') {l : Nat} (hl : W.heap.size ≤ l) (o : Obj) : Hd C W C' (W'.putObj l o) :=
  ⟨h.os, h.tape, h.output, by rw [World.putObj_size]; exact h.size, fun k hk hc => (World.putObj_heap_other (by omega)).trans (h.same k hk hc), h.sub, fun k hk => by rw [World.putObj_size]; exact h.lt k hk⟩
theorem Hd.inner {C C1 D D1 : Nat → Prop} {W w W' : World} (b : Below W.heap.size W w) (hs : ∀ k, D k → C k ∨ W.heap.size ≤ k) (h : Hd D w D1 W') (h1 : ∀ k, C1 k → D1 k) : Hd C W C1 W' :=
  ⟨h.os.trans b.os, h.tape.trans b.tape, h.output.trans b.output, Nat.le_trans b.size h.size,
   fun k hk hc => (h.same k (Nat.lt_of_lt_of_le hk b.size) (fun hd => (hs k hd).elim hc (fun h2 => by omega))).trans (b.block k hk),
   fun k hk => (h.sub k (h1 k hk)).elim (hs k) (fun h2 => .inr (Nat.le_trans b.size h2)), fun k hk => h.lt k (h1 k hk)⟩
theorem Hd.more {C C' R : Nat → Prop} {W W' : World} (h : Hd C W C' W') (hR : ∀ k, R k → k < W.heap.size) : Hd (fun k => C k ∨ R k) W (fun k => C' k ∨ R k) W' :=
  ⟨h.os, h.tape, h.output, h.size, fun k hk hc => h.same k hk (fun h1 => hc (.inl h1)), fun k hk => hk.elim (fun h1 => (h.sub k h1).elim (fun h2 => .inl (.inl h2)) .inr) (fun h1 => .inl (.inr h1)), fun k hk => hk.elim (h.lt k) (fun h1 => Nat.lt_of_lt_of_le (hR k h1) h.size)⟩
theorem Hd.congr {C C' D D' : Nat → Prop} {W W' : World} (h : Hd C W C' W') (e : ∀ k, C k ↔ D k) (e' : ∀ k, C' k ↔ D' k) : Hd D W D' W' := by
  obtain rfl : C = D := funext fun k => propext (e k)
  obtain rfl : C' = D' := funext fun k => propext (e' k)
  exact h

theorem wpListIn_append_at {F : Fence} {n : Nat} {P : Program} (w : World) {ops : Array Oper} {rest : List Oper} {o : Oper} {a : Act} {Q : Exit → Act → World → Prop}
    (hg : o.guard = none) (s x : Operand) (t : TypeId) (hop : o.op = Op.call { callee := Callee.builtin Builtin.append, args := #[s, x], argTypes := #[t, t] })
    (base : Nat) (e : TypeId) (i : TypeInfo) (z : Value) (size bytes : Nat) (h1 : P.underlying t = some (.slice e)) (h2 : P.info? e = some i) (h3 : i.zero = some z) (h4 : i.size = size) (h5 : i.bytes = bytes) (h6 : z.cells.size = size) (h7 : 0 < size)
    (v : Value) (k : Nat) (xs : List Value) (hs : a.eval s = v) (hown : w.ownsRow base e size v k xs) (ad : Addr) (m c : Nat) (news : List Value) (hx : a.eval x = .slice (some ad) m c) (hn : news.length = m * size)
    (hc : ∀ j u, news[j]? = some u → w.cell? (ad.add j) = some u) (h1c : ∀ u ∈ news, u.oneCell' = true) (b1 : k + m ≤ maxLen) (b2 : (k + m) * bytes ≤ 140737488355328) (b3 : base ≤ w.heap.size)
    (hK : ∀ v' w', w'.ownsRow base e size v' (k + m) (xs ++ news) → w.grownBy w' v.ownBlock → (v'.ownBlock = v.ownBlock ∨ v'.ownBlock = some w.heap.size) → wpListIn F n P ops Q rest (a.put o.dst v') w') :
    wpListIn F n P ops Q (o :: rest) a w := by
  refine wpListIn_plain hg fun K hK' => ?_
  obtain ⟨v', w', hrun, r1, r2, _, r4⟩ := run_append_own_at (P := P) w base t o.type e i z size bytes h1 h2 h3 h4 h5 h6 h7 v k xs hown ad m c news hn hc h1c b1 b2 b3
  unfold Oper.wpIn
  refine ⟨?_, ?_⟩
  · simp [Oper.about, hop, resolve, Target.leads, Sem.run_pure]
  · rw [Oper.semAt_plain F _ _ (by rw [hop]; intro c hc'; cases hc')]
    simp [execOp, hop, resolve, invoke, builtin, hs, hx, hrun, Result.andThen]
    exact hK' _ _ (hK v' w' r1 r2 r4)

theorem boxed_grown {W w1 : World} {n₀ b : Nat} {t e : TypeId} {v v' : Value} {k m : Nat} {xs ys : List Value} {tmp : Obj}
    (hv : Boxed W b t v) (hte : t ≠ e) (hrow : W.ownsRow n₀ e 1 v k xs) (hn₀ : n₀ ≤ W.heap.size) (hb : n₀ ≤ b)
    (hown' : w1.ownsRow n₀ e 1 v' m ys) (hgrow : (W.alloc tmp).grownBy w1 v.ownBlock) (hat : v'.ownBlock = v.ownBlock ∨ v'.ownBlock = some (W.alloc tmp).heap.size) :
    Boxed w1 b t v ∧ Boxed (w1.setCell ⟨b, 0, none⟩ v') b t v' ∧ (w1.setCell ⟨b, 0, none⟩ v').ownsRow n₀ e 1 v' m ys ∧
      Hd (fun k => k = b ∨ v.ownBlock = some k) W (fun k => k = b ∨ v'.ownBlock = some k) (w1.setCell ⟨b, 0, none⟩ v') := by
  obtain ⟨h1, h2, h3, h4, h5⟩ := hv.appended hte hrow hn₀ hb hown' hgrow
  refine ⟨h1, h2, h3, h5.os, h5.tape, h5.output, h5.size, fun i hi hc => ?_, fun i hi => ?_, fun i hi => ?_⟩
  · have hne : i ≠ b := fun h => hc (.inl h)
    refine (Below.heap_setCell w1 ⟨b, 0, none⟩ v' i hne).trans ((hgrow.block i (by rw [World.size_alloc]; omega) (fun h => hc (.inr h.symm))).trans (Below.heap_alloc W tmp i hi))
  · rcases hi with h | h
    · exact .inl (.inl h)
    · rcases hat with h' | h'
      · exact .inl (.inr (h'.symm.trans h))
      · right
        rw [h'] at h
        have := Option.some.inj h
        rw [World.size_alloc] at this
        omega
  · rcases hi with h | h
    · exact h ▸ h2.lt
    · exact (h3.lt i h).2
theorem ownsRow_loc {W W' : World} {base : Nat} {e : TypeId} {size : Nat} {v : Value} {k : Nat} {xs : List Value} (h : W.ownsRow base e size v k xs) (hs : ∀ g, v.ownBlock = some g → W'.heap[g]? = W.heap[g]?) : W'.ownsRow base e size v k xs := by
  refine ⟨h.1, ?_⟩
  rcases h.2 with hn | ⟨g, cap, cur, rfl, hb, hgg, rest⟩
  · exact .inl hn
  · exact .inr ⟨g, cap, cur, rfl, hb, (hs g rfl).trans hgg, rest⟩

def SeqC (P : Program) (gf : Nat) (lb : Array Value) (xs : List ByteArray) (H : World → Prop) (B : Nat → Prop) : Prop :=
  ∀ (n l : Nat) (J Jx : List ByteArray → (Nat → Prop) → World → Prop) (C : Nat → Prop) (W : World), H W → (∀ k, B k → ¬ C k) → Loc J → Loc Jx → (∀ k, C k → k < W.heap.size) → J [] C W →
    (∀ (m : Nat) (pre : List ByteArray) (x : ByteArray) (rest : List ByteArray) (C1 : Nat → Prop) (W1 : World), xs = pre ++ x :: rest → Hd C W C1 W1 → J pre C1 W1 → YieldAt Fence.wide m P l #[.string x] W1 fun e W' =>
      ∃ C', Hd C1 W1 C' W' ∧ ((e = .returned (.bool true) ∧ J (pre ++ [x]) C' W') ∨ (e = .returned (.bool false) ∧ Jx (pre ++ [x]) C' W'))) →
    CallsIn Fence.wide n P gf (#[.func (.yield l) #[] #[]] ++ lb) W fun e W' => (∃ v, e = .returned v) ∧ ∃ C', Hd C W C' W' ∧ (J xs C' W' ∨ ∃ pre, pre <+: xs ∧ Jx pre C' W')

theorem wide_ok {n : Nat} : Fence.wide.depth.isSome = true → 1 ≤ n := fun h => (by cases h)
theorem wide_call {n k : Nat} {P : Program} {f : FuncId} {args : Array Value} {w : World} {R R' : Ending → World → Prop} (h : Calls P f args w R) (hr : ∀ e w', R e w' → R' e w') : Fence.wide.fn f ∧ (Fence.wide.depth.isSome = true → 1 ≤ k) ∧ CallsIn Fence.wide n P f args w R' := ⟨trivial, wide_ok, (callsIn_wide.2 h).mono hr⟩

def sepPost (I : List ByteArray → (Nat → Prop) → World → Prop) (Ix : Code → List ByteArray → (Nat → Prop) → World → Prop) (xs : List ByteArray) (C : Nat → Prop) (W : World) : Exit → Act → World → Prop
  | .normal, _, W' => ∃ C', Hd C W C' W' ∧ I xs C' W'
  | .ret, _, W' => ∃ C', Hd C W C' W' ∧ Ix .ret xs C' W'
  | .exit id, _, W' => ∃ C', Hd C W C' W' ∧ Ix (.exit id) xs C' W'
  | .goto t, _, W' => ∃ C', Hd C W C' W' ∧ Ix (.goto t) xs C' W'
  | .panic _, _, _ => False
  | .outgrown, _, _ => False

theorem put_same {W : World} {l : Nat} {o : Obj} {C : Nat → Prop} (h : ¬ C l) : ∀ k, C k → (W.putObj l o).heap[k]? = W.heap[k]? := fun _ hk => World.putObj_heap_other (fun e => h (e ▸ hk))

set_option maxHeartbeats 1600000 in
theorem wpIn_range_sep {P : Program} {n : Nat} {g : Operand} {ps : Array Tmp} {assign body : Code} {Q : Exit → Act → World → Prop} {a : Act} {w : World}
    {gf : Nat} {lb : Array Value} (hg : a.eval g = .func (.func gf) #[] lb) (eg : ∀ args w, (callFunc gf args).run P w = .ok (.enter gf args) w)
    {xs : List ByteArray} {H : World → Prop} {B : Nat → Prop} (hseq : SeqC P gf lb xs H B) (hH : ∀ W, (∀ k, B k → W.heap[k]? = w.heap[k]?) → H W) (hBw : ∀ k, B k → k < w.heap.size) (hps : ps.size = 1)
    (I : List ByteArray → (Nat → Prop) → World → Prop) (Ix : Code → List ByteArray → (Nat → Prop) → World → Prop) (hI : Loc I) (hIx : ∀ c, Loc (Ix c)) (C : Nat → Prop) (hBC : ∀ k, B k → ¬ C k) (hC : ∀ k, C k → k < w.heap.size) (h0 : I [] C w) (a₁ : ByteArray → Act)
    (hassign : ∀ (l m : Nat) (x : ByteArray) (W : World) (K : Act → World → Prop), K (a₁ x) W →
      assign.wpIn (Fence.wide.inRound l) m P (Exit.then K (fun _ _ _ => False)) { tmps := (ps.zip #[Value.string x]).foldl (fun t (p, v) => t.setIfInBounds p v) a.tmps, defers := [] } W)
    (hbody : ∀ (l m : Nat) (pre : List ByteArray) (x : ByteArray) (rest : List ByteArray) (C1 : Nat → Prop) (W : World), xs = pre ++ x :: rest → Hd C w C1 W → I pre C1 W → body.wpIn (Fence.wide.inRound l) m P (sepPost I Ix (pre ++ [x]) C1 W) (a₁ x) W)
    (hdone : ∀ (D : Nat) (C1 : Nat → Prop) (W : World), w.heap.size ≤ D → Hd C w C1 W → ¬ C1 D → I xs C1 W → W.heap[D]? = some (.deferred (some [])) → Q .normal { a with defers := { target := .collected D, args := #[] } :: a.defers } W)
    (hstop : ∀ (D : Nat) (c : Code) (pre : List ByteArray) (C1 : Nat → Prop) (W : World), w.heap.size ≤ D → pre <+: xs → Hd C w C1 W → ¬ C1 D → Ix c pre C1 W → W.heap[D]? = some (.deferred (some [])) → c.wpIn Fence.wide n P Q { a with defers := { target := .collected D, args := #[] } :: a.defers } W) :
    (Code.rangeFunc g ps assign body).wpIn Fence.wide n P Q a w := by
  refine wpIn_rangeFunc ?_
  intro fn hfn
  show ∃ l mark, _
  obtain ⟨rec, hrec⟩ : ∃ rec : LoopState → Option Code → Loop, rec = fun st pe => { state := st, pending := pe, fn, tmps := a.tmps, params := ps, assign, body, defers := w.heap.size } := ⟨_, rfl⟩
  obtain ⟨W1, hW1⟩ : ∃ W1, (w.alloc (.deferred (some []))).alloc (.loop (rec .ready none)) = W1 := ⟨_, rfl⟩
  have hL1 : W1.heap[w.heap.size + 1]? = some (.loop (rec .ready none)) := by
    rw [← hW1]; have := World.alloc_heap_new (w.alloc (.deferred (some []))) (.loop (rec .ready none)); rwa [World.size_alloc] at this
  have hK1 : W1.heap[w.heap.size]? = some (.deferred (some [])) := by
    rw [← hW1]; exact (Below.heap_alloc _ _ _ (by simp)).trans (World.alloc_heap_new w _)
  have hsz1 : W1.heap.size = w.heap.size + 2 := by rw [← hW1]; simp
  have hb1 : Below w.heap.size w W1 := by
    rw [← hW1]; exact ((Below.refl _ w).alloc (Nat.le_refl _) _).alloc (by simp) _
  obtain ⟨D, hD⟩ : ∃ D, w.heap.size = D := ⟨_, rfl⟩
  obtain ⟨l, hl0⟩ : ∃ l, w.heap.size + 1 = l := ⟨_, rfl⟩
  have hCD : ¬ C D := fun h => by have := hC D h; omega
  have hCl : ¬ C l := fun h => by have := hC l h; omega
  -- what the iterator sees of the body: what it holds, the record and the block for deferred calls
  have hfr : ∀ C1 W, ¬ C1 D → ¬ C1 l → Hd (fun k => C k ∨ k = D ∨ k = l) W1 (fun k => C1 k ∨ k = D ∨ k = l) W → Hd C w C1 W := fun C1 W h1 h2 h =>
    ⟨h.os.trans hb1.os, h.tape.trans hb1.tape, h.output.trans hb1.output, Nat.le_trans hb1.size h.size,
     fun k hk hc => (h.same k (by omega) (fun h3 => h3.elim hc (fun h4 => by omega))).trans (hb1.block k hk),
     fun k hk => (h.sub k (.inl hk)).elim (fun h3 => h3.elim .inl (fun h4 => h4.elim (fun h5 => absurd (h5 ▸ hk) h1) (fun h5 => absurd (h5 ▸ hk) h2))) (fun h3 => .inr (by omega)),
     fun k hk => h.lt k (.inl hk)⟩
  refine ⟨w.heap.size + 1, [{ target := .collected w.heap.size, args := #[] }], W1, { target := .fn (.func gf) lb, args := #[.func (.yield (w.heap.size + 1)) #[] #[]] }, W1, gf,
    #[.func (.yield (w.heap.size + 1)) #[] #[]] ++ lb, W1, ?_, ?_, ?_, ?_, fun h => (by cases h), ?_⟩
  · rw [← hW1, hrec]; exact run_enterLoop_outer _ _ _ _ _
  · simp only [resolve, hg]
    simp [go_sem]
  · intro f' _; trivial
  · simp [invoke, go_sem, eg]
  · rw [hl0] at hL1 ⊢
    rw [hD] at hK1 ⊢
    refine (hseq (n - 1) l
      (fun pre Cx W => ∃ C1, Cx = (fun k => C1 k ∨ k = D ∨ k = l) ∧ ¬ C1 D ∧ ¬ C1 l ∧ I pre C1 W ∧ W.heap[l]? = some (.loop (rec .ready none)) ∧ W.heap[D]? = some (.deferred (some [])))
      (fun pre Cx W => ∃ C1 c, Cx = (fun k => C1 k ∨ k = D ∨ k = l) ∧ ¬ C1 D ∧ ¬ C1 l ∧ Ix c pre C1 W ∧ W.heap[l]? = some (.loop (rec .done (some c))) ∧ W.heap[D]? = some (.deferred (some [])))
      (fun k => C k ∨ k = D ∨ k = l) W1 (hH W1 (fun k hk => hb1.block k (by have := hBw k hk; omega))) ?_ ?_ ?_ ?_ ?_ ?_).mono ?_
    · intro k hk h
      have := hBw k hk
      rcases h with h | h | h
      · exact hBC k hk h
      · omega
      · omega
    · rintro pre Cx W W' ⟨C1, rfl, h1, h2, h3, h4, h5⟩ hs
      exact ⟨C1, rfl, h1, h2, hI _ _ _ _ h3 (fun k hk => hs k (.inl hk)), (hs l (.inr (.inr rfl))).trans h4, (hs D (.inr (.inl rfl))).trans h5⟩
    · rintro pre Cx W W' ⟨C1, c, rfl, h1, h2, h3, h4, h5⟩ hs
      exact ⟨C1, c, rfl, h1, h2, hIx c _ _ _ _ h3 (fun k hk => hs k (.inl hk)), (hs l (.inr (.inr rfl))).trans h4, (hs D (.inr (.inl rfl))).trans h5⟩
    · rintro k (h | h | h)
      · have := hC k h; omega
      · omega
      · omega
    · exact ⟨C, rfl, hCD, hCl, hI _ _ _ _ h0 (fun k hk => hb1.block k (by have := hC k hk; omega)), hL1, hK1⟩
    · -- one round
      rintro m pre x rest Cx W hx hfx ⟨C1, rfl, h1, h2, hi, hl, hk⟩
      have hF := hfr C1 W h1 h2 hfx
      have hlt : l < W.heap.size := (Array.getElem?_eq_some_iff.1 hl).1
      have hDl : D < W.heap.size := (Array.getElem?_eq_some_iff.1 hk).1
      have hy := run_yield (P := P) (args := #[Value.string x]) hl (by rw [hrec]; exact hps.symm)
      rw [hrec] at hy
      refine ⟨fn, _, assign, body, hy, roundIn_of_wpIn hfn (hassign l m x W _ ⟨_, run_beginRound hl (by rw [hrec]), ?_⟩)⟩
      clear hy
      obtain ⟨W2, hW2⟩ : ∃ W2, W.putObj l (.loop { rec .ready none with state := .busy }) = W2 := ⟨_, rfl⟩
      have hl2 : W2.heap[l]? = some (.loop { rec .ready none with state := .busy }) := by rw [← hW2]; exact World.putObj_heap_same hlt
      have hk2 : W2.heap[D]? = some (.deferred (some [])) := by rw [← hW2]; exact (World.putObj_heap_other (by omega)).trans hk
      have hs2 : W2.heap.size = W.heap.size := by rw [← hW2]; simp
      have ho2 : ∀ k, k ≠ l → W2.heap[k]? = W.heap[k]? := fun j hj => by rw [← hW2]; exact World.putObj_heap_other hj
      have hF2 : Hd C w C1 W2 := ⟨by rw [← hF.os, ← hW2]; rfl, by rw [← hF.tape, ← hW2]; rfl, by rw [← hF.output, ← hW2]; rfl, by rw [hs2]; exact hF.size, fun k hk hc => (ho2 k (by omega)).trans (hF.same k hk hc), hF.sub, fun k hk => by rw [hs2]; exact hF.lt k hk⟩
      have hos : W2.os = W.os ∧ W2.tape = W.tape ∧ W2.output = W.output := by rw [← hW2]; exact ⟨rfl, rfl, rfl⟩
      rw [hW2]
      refine wpIn_mono (hbody l m pre x rest C1 W2 hx hF2 (hI _ _ _ _ hi (fun k hk => ho2 k (fun e => h2 (e ▸ hk))))) ?_
      have fin : ∀ (jump : Option Code) (C' : Nat → Prop) (W3 : World), Hd C1 W2 C' W3 → ∃ W4,
          (Instr.endRound l jump).run P W3 = .ok (.bool jump.isNone) W4 ∧ (∀ k, k ≠ l → W4.heap[k]? = W3.heap[k]?) ∧ W4.heap[l]? = some (.loop (rec (if jump.isNone then .ready else .done) jump)) ∧ W4.heap[D]? = some (.deferred (some [])) ∧ ¬ C' D ∧ ¬ C' l ∧ Hd (fun k => C1 k ∨ k = D ∨ k = l) W (fun k => C' k ∨ k = D ∨ k = l) W4 := fun jump C' W3 hf => by
        have hl3 := (hf.same l (by omega) h2).trans hl2
        have hk3 := (hf.same D (by omega) h1).trans hk2
        have := run_endRound (P := P) jump hl3
        have hl3s : l < W3.heap.size := (Array.getElem?_eq_some_iff.1 hl3).1
        have hD3s : D < W3.heap.size := (Array.getElem?_eq_some_iff.1 hk3).1
        refine ⟨_, this, fun k hk => World.putObj_heap_other hk, ?_, (World.putObj_heap_other (by omega)).trans hk3, fun h => (hf.sub D h).elim h1 (fun h => by omega), fun h => (hf.sub l h).elim h2 (fun h => by omega), ?_⟩
        · rw [hrec]; exact World.putObj_heap_same hl3s
        · refine ⟨hf.os.trans hos.1, hf.tape.trans hos.2.1, hf.output.trans hos.2.2, by rw [World.putObj_size]; have := hf.size; omega, fun k hk hc => ?_, fun k hk => ?_, fun k hk => ?_⟩
          · exact (World.putObj_heap_other (fun e => hc (.inr (.inr e)))).trans ((hf.same k (by omega) (fun h => hc (.inl h))).trans (ho2 k (fun e => hc (.inr (.inr e)))))
          · rcases hk with h | h | h
            · exact (hf.sub k h).elim (fun h => .inl (.inl h)) (fun h => .inr (by omega))
            · exact .inl (.inr (.inl h))
            · exact .inl (.inr (.inr h))
          · rw [World.putObj_size]
            rcases hk with h | h | h
            · exact hf.lt k h
            · omega
            · omega
      rintro e a3 W3 hp
      cases e with
      | normal =>
        obtain ⟨C', hf, hi3⟩ := hp
        obtain ⟨W4, hr, ho, h4, h5, h6, h7, h8⟩ := fin none C' W3 hf
        exact ⟨_, _, hr, _, h8, .inl ⟨rfl, C', rfl, h6, h7, hI _ _ _ _ hi3 (fun k hk => ho k (fun e => h7 (e ▸ hk))), h4, h5⟩⟩
      | ret =>
        obtain ⟨C', hf, hi3⟩ := hp
        obtain ⟨W4, hr, ho, h4, h5, h6, h7, h8⟩ := fin (some .ret) C' W3 hf
        exact ⟨_, _, hr, _, h8, .inr ⟨rfl, C', .ret, rfl, h6, h7, hIx _ _ _ _ _ hi3 (fun k hk => ho k (fun e => h7 (e ▸ hk))), h4, h5⟩⟩
      | exit id =>
        obtain ⟨C', hf, hi3⟩ := hp
        obtain ⟨W4, hr, ho, h4, h5, h6, h7, h8⟩ := fin (some (.exit id)) C' W3 hf
        exact ⟨_, _, hr, _, h8, .inr ⟨rfl, C', .exit id, rfl, h6, h7, hIx _ _ _ _ _ hi3 (fun k hk => ho k (fun e => h7 (e ▸ hk))), h4, h5⟩⟩
      | goto t =>
        obtain ⟨C', hf, hi3⟩ := hp
        obtain ⟨W4, hr, ho, h4, h5, h6, h7, h8⟩ := fin (some (.goto t)) C' W3 hf
        exact ⟨_, _, hr, _, h8, .inr ⟨rfl, C', .goto t, rfl, h6, h7, hIx _ _ _ _ _ hi3 (fun k hk => ho k (fun e => h7 (e ▸ hk))), h4, h5⟩⟩
      | panic ch => exact hp.elim
      | outgrown => exact hp.elim
    · -- behind the iterator
      have fin : ∀ (C1 : Nat → Prop) (W : World) (o : Obj), ¬ C1 l → Hd C w C1 W → Hd C w C1 (W.putObj l o) := fun C1 W o hn h =>
        ⟨h.os, h.tape, h.output, by rw [World.putObj_size]; exact h.size, fun k hk hc => (World.putObj_heap_other (by omega)).trans (h.same k hk hc), h.sub, fun k hk => by rw [World.putObj_size]; exact h.lt k hk⟩
      rintro e W2 ⟨⟨v, rfl⟩, Cx, hfx, (⟨C1, rfl, h1, h2, hi, hl, hk⟩ | ⟨pre, hp, C1, c, rfl, h1, h2, hi, hl, hk⟩)⟩
      · have hF := hfr C1 W2 h1 h2 hfx
        exact ⟨none, _, by have := run_endLoop (P := P) hl (by rw [hrec]; simp); rw [hrec] at this; exact this, hdone D C1 _ (by omega) (fin _ _ _ h2 hF) h1 (hI _ _ _ _ hi (put_same h2)) ((World.putObj_heap_other (by omega)).trans hk)⟩
      · have hF := hfr C1 W2 h1 h2 hfx
        exact ⟨some c, _, by have := run_endLoop (P := P) hl (by rw [hrec]; simp); rw [hrec] at this; exact this, hstop D c pre C1 _ (by omega) hp (fin _ _ _ h2 hF) h1 (hIx c _ _ _ _ hi (put_same h2)) ((World.putObj_heap_other (by omega)).trans hk)⟩

theorem yield_or {e : Ending} {A B : Prop} (h : (e = .returned (.bool true) ∧ A) ∨ (e = .returned (.bool false) ∧ B)) : ∃ b, e = .returned (.bool b) ∧ ((b = true ∧ A) ∨ (b = false ∧ B)) := by
  rcases h with ⟨h1, h2⟩ | ⟨h1, h2⟩
  · exact ⟨true, h1, .inl ⟨rfl, h2⟩⟩
  · exact ⟨false, h1, .inr ⟨rfl, h2⟩⟩
theorem wide_callR {n k l : Nat} {P : Program} {f : FuncId} {args : Array Value} {w : World} {R R' : Ending → World → Prop} (h : Calls P f args w R) (hr : ∀ e w', R e w' → R' e w') : (Fence.wide.inRound l).fn f ∧ ((Fence.wide.inRound l).depth.isSome = true → 1 ≤ k) ∧ CallsIn (Fence.wide.inRound l) n P f args w R' := ⟨trivial, fun h => (by cases h), CallsIn.inRound l ((callsIn_wide.2 h).mono hr)⟩
theorem round_in {n l l' : Nat} {P : Program} {f : FuncId} {tmps : Array Value} {assign body : Code} {w : World} {R : Ending → World → Prop} (h : RoundIn Fence.wide n P l f tmps assign body w R) : RoundIn (Fence.wide.inRound l') n P l f tmps assign body w R := h
end Go.Proofs.Ytdbpknmoacjodaa
