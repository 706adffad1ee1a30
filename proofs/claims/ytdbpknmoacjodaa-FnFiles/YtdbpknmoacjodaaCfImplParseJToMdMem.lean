/-
  What slices.Index and slices.Contains answer over a row of texts, and strings.Clone: the walks.
  What request of impl's parser answers: the walks.
  What nameOrCall of impl's parser answers: the walk.
  What part of impl's parser answers: the walk.
  What product and sum of impl's parser answer: the walks.
  What statement of impl's parser answers: the walk.
  What the small items of impl's parser, itemWord and exportLast answer: the walks.
  Rows beside impl's parser: lists of names under way. No program is spoken of but for the numbers of its types.
  A program in memory, of any size. No program is spoken of but for the numbers of its types.
-/
import Derived.Test.YtdbpknmoacjodaaCfImplParseHToImplParseI
import Derived.Test.YtdbpknmoacjodaaCfShelf
namespace Go.Proofs.Ytdbpknmoacjodaa
open Go.RowKit Go.PlainAid Go.Sort

set_option maxRecDepth 100000 in
theorem cloneP_any (s : ByteArray) (w : World) (h : s.size ≤ 281474976710656) :
    Calls Try.prog 92 #[.string s] w fun e w' => e = .returned (.string s) ∧ Below w.heap.size w w' := by
  go_enter Try.func92, Try.ntmps92
  go_wp2_with fail
  refine (Try.stringslite_Clone _ _ h).mono ?_
  rintro e w1 ⟨rfl, hb⟩
  go_wp2
  go_ret
  exact ⟨rfl, hb⟩
theorem OwnR.text {w : World} {base n : Nat} {r : Rw} {l : List ByteArray} (h : OwnR w base 9 1 r n (l.map .string)) {j : Nat} (hj : j < n) : ∃ g, r.a = some ⟨g, 0, none⟩ ∧ w.cell? ⟨g, j, none⟩ = some (.string (l.getD j sNone)) := by
  rcases h.2 with ⟨_, hn⟩ | ⟨g, cap, cur, hv, _⟩
  · omega
  · simp only [Value.slice.injEq] at hv
    have h' := h
    unfold OwnR at h'
    rw [hv.1, hv.2.2] at h'
    have hl : l.length = n := by have := h.1; simpa using this
    refine ⟨g, hv.1, ?_⟩
    rw [World.ownsRow.cellAt h' j (by omega)]
    simp only [List.getElem?_map, List.getD]
    rw [List.getElem?_eq_getElem (by omega)]
    rfl
theorem hasS_drop {l : List ByteArray} {x : ByteArray} {j : Nat} (hj : j < l.length) : hasS (l.drop j) x = ((l.getD j sNone).toList == x.toList || hasS (l.drop (j + 1)) x) := by
  rw [List.drop_eq_getElem_cons hj]
  simp only [hasS, List.any_cons, List.getD, List.getElem?_eq_getElem hj, Option.getD_some]
end Go.Proofs.Ytdbpknmoacjodaa
namespace Go.Proofs.Ytdbpknmoacjodaa
open Go.RowKit Go.PlainAid Go.Sort

theorem Try.infoText : (Try.prog.info? 9).map (fun i => (i.zero, i.size, i.bytes)) = some (some (.string { data := #[] }), 1, 16) := by kernel_rfl
def Sized (C : Cx) : Prop := ∀ i, (tokAt C i).text.size ≤ 281474976710656
theorem str_ones (x : ByteArray) : ∀ u ∈ [Value.string x], u.oneCell' = true := by
  intro u hu
  simp at hu
  rw [hu]
  rfl
end Go.Proofs.Ytdbpknmoacjodaa
namespace Go.Proofs.Ytdbpknmoacjodaa
open Go.RowKit Go.PlainAid Go.Sort

theorem bdO {α β : Type} {Y : Except Nat β} {x : Except Nat α} {f : α → Except Nat β} {a : α} (h : Y = bd x f) (hx : x = .ok a) : Y = f a := by rw [h, hx]; rfl
theorem bdE {α β : Type} {Y : Except Nat β} {x : Except Nat α} {f : α → Except Nat β} {p : Nat} (h : Y = bd x f) (hx : x = .error p) : Y = .error p := by rw [h, hx]; rfl
theorem bd_pure {α : Type} (x : Except Nat α) : bd x .ok = x := by cases x <;> rfl
abbrev cCall : ByteArray := { data := #[40, 41, 123] }
abbrev cShutSemi : ByteArray := { data := #[41, 59] }
abbrev cSemiRight : ByteArray := { data := #[59, 125] }
theorem signs_one (C : Cx) (b : UInt8) (q : PS) : signsP C { data := #[b] } 1 0 q = tokP C 4 { data := #[b] } q := by
  have e : ({ data := #[b] } : ByteArray).extract 0 (0 + 1) = { data := #[b] } := by simp [ByteArray.extract, ByteArray.copySlice]
  rw [signsP, e]
  exact bd_pure _
theorem signs_two (C : Cx) (b c : UInt8) (q : PS) : signsP C { data := #[b, c] } 2 0 q = bd (tokP C 4 { data := #[b] } q) (tokP C 4 { data := #[c] }) := by
  have e : ({ data := #[b, c] } : ByteArray).extract 0 (0 + 1) = { data := #[b] } := by simp [ByteArray.extract, ByteArray.copySlice]
  have e2 : ({ data := #[b, c] } : ByteArray).extract (0 + 1) (0 + 1 + 1) = { data := #[c] } := by simp [ByteArray.extract, ByteArray.copySlice]
  rw [signsP, e]
  refine bd_congr fun a _ => ?_
  rw [signsP, e2]
  exact bd_pure _
theorem signs_three (C : Cx) (b c d : UInt8) (q : PS) : signsP C { data := #[b, c, d] } 3 0 q = bd (tokP C 4 { data := #[b] } q) fun a => bd (tokP C 4 { data := #[c] } a) (tokP C 4 { data := #[d] }) := by
  have e : ({ data := #[b, c, d] } : ByteArray).extract 0 (0 + 1) = { data := #[b] } := by simp [ByteArray.extract, ByteArray.copySlice]
  have e2 : ({ data := #[b, c, d] } : ByteArray).extract (0 + 1) (0 + 1 + 1) = { data := #[c] } := by simp [ByteArray.extract, ByteArray.copySlice]
  have e3 : ({ data := #[b, c, d] } : ByteArray).extract (0 + 1 + 1) (0 + 1 + 1 + 1) = { data := #[d] } := by simp [ByteArray.extract, ByteArray.copySlice]
  rw [signsP, e]
  refine bd_congr fun a _ => ?_
  rw [signsP, e2]
  refine bd_congr fun a _ => ?_
  rw [signsP, e3]
  exact bd_pure _
structure Six (w : World) (b : Nat) (v0 v1 v2 v3 v4 v5 : Value) : Prop where
  c0 : w.cell? ⟨b, 0, none⟩ = some v0
  c1 : w.cell? ⟨b, 1, none⟩ = some v1
  c2 : w.cell? ⟨b, 2, none⟩ = some v2
  c3 : w.cell? ⟨b, 3, none⟩ = some v3
  c4 : w.cell? ⟨b, 4, none⟩ = some v4
  c5 : w.cell? ⟨b, 5, none⟩ = some v5
  fz : ∀ i, w.frozen? ⟨b, i, none⟩ = false
theorem six_of {w : World} {b : Nat} {t : TypeId} {v0 v1 v2 v3 v4 v5 : Value} (h : w.heap[b]? = some (.cells #[v0, v1, v2, v3, v4, v5] t (0, 0))) : Six w b v0 v1 v2 v3 v4 v5 := by
  constructor <;> simp [World.cell?, World.frozen?, h]
theorem IS.from {gp : Nat} {S S' : Sv} {w w' : World} {o : Obj} (s : IS gp S (w.alloc o) S' w') : IS gp S w S' w' := (IS.below ((Below.refl _ _).alloc (Nat.le_refl _) _)).trans s
def nameI (C : Cx) (x : Ex) (call : Int) (q : PS) : PR := if isT C q.pos 4 cOpen then bd (tokP C 4 cShut (adv q)) (addEx C ⟨call, x.num, x.name, x.field, x.l, x.r⟩) else addEx C x q

end Go.Proofs.Ytdbpknmoacjodaa
namespace Go.Proofs.Ytdbpknmoacjodaa
open Go.RowKit Go.PlainAid Go.Sort

def exI (q : PS) : Value := .int .i64 ((q.ex.length : Int) - 1)
theorem tail_is (C : Cx) (n : ByteArray) (q : PS) : tailP C n q = nameI C ⟨2, 0, n, sNone, 0, 0⟩ 3 q := by
  unfold tailP nameI
  cases hi : isT C q.pos 4 cOpen with
  | true => rw [tok_pass hi]; rfl
  | false => rfl
theorem mem_is (C : Cx) (n f : ByteArray) (q : PS) : memP C n f q = nameI C ⟨4, 0, n, f, 0, 0⟩ 5 q := by
  unfold memP nameI
  cases hi : isT C q.pos 4 cOpen with
  | true => rw [tok_pass hi]; rfl
  | false => rfl
theorem text_is {x y : ByteArray} (h : (x.toList == y.toList) = true) : x = y := by
  rw [beq_iff_eq, Lib.toList_data, Lib.toList_data] at h
  cases x
  cases y
  simp only at h
  rw [Array.toList_inj.1 h]
theorem isT_text {C : Cx} {i : Nat} {k : Int} {x : ByteArray} (h : isT C i k x = true) : (tokAt C i).text = x := by
  simp only [isT, Bool.and_eq_true] at h
  exact text_is h.2
theorem isT_kindT {C : Cx} {i : Nat} {k : Int} {x : ByteArray} (h : isT C i k x = true) : ((tokAt C i).kind == k) = true := by
  simp only [isT, Bool.and_eq_true] at h
  exact h.1
theorem part_num {C : Cx} {d : Nat} {q : PS} (h : ((tokAt C q.pos).kind == 2) = true) : pE C .part d q = addEx C ⟨1, (tokAt C q.pos).num, sNone, sNone, 0, 0⟩ (adv q) := by rw [pE_part, h]; rfl
theorem part_deep {C : Cx} {d : Nat} {q : PS} (h : ((tokAt C q.pos).kind == 2) = false) (h1 : isT C q.pos 4 cOpen = true) (hd : 20 ≤ d) : pE C .part d q = .error (here C q.pos) := by rw [pE_part, h, h1, if_neg (by decide), if_pos rfl, if_pos hd]
theorem part_open {C : Cx} {d : Nat} {q : PS} (h : ((tokAt C q.pos).kind == 2) = false) (h1 : isT C q.pos 4 cOpen = true) (hd : ¬ 20 ≤ d) : pE C .part d q = bd (pE C .sum (d + 1) (adv q)) (tokP C 4 cShut) := by rw [pE_part, h, h1, if_neg (by decide), if_pos rfl, if_neg hd]
theorem part_undef {C : Cx} {d : Nat} {q : PS} (h : ((tokAt C q.pos).kind == 2) = false) (h1 : isT C q.pos 4 cOpen = false) (h2 : C.scr = true) (h3 : isT C q.pos 1 sUndef = true) : pE C .part d q = nameI C ⟨2, 0, sUndef, sNone, 0, 0⟩ 3 (adv q) := by
  rw [pE_part, h, h1, h2, h3, if_neg (by decide), if_neg (by decide), if_pos (by decide), tail_is]
theorem part_name {C : Cx} {d : Nat} {q : PS} (h : ((tokAt C q.pos).kind == 2) = false) (h1 : isT C q.pos 4 cOpen = false) (h2 : (C.scr && isT C q.pos 1 sUndef) = false) :
    pE C .part d q = bd (nameP C false q) fun x => if isT C x.1.pos 4 cPoint then bd (nameP C true (adv x.1)) fun y => nameI C ⟨4, 0, x.2, y.2, 0, 0⟩ 5 y.1 else nameI C ⟨2, 0, x.2, sNone, 0, 0⟩ 3 x.1 := by
  rw [pE_part, h, h1, h2, if_neg (by decide), if_neg (by decide), if_neg (by decide)]
  simp only [tail_is, mem_is]

end Go.Proofs.Ytdbpknmoacjodaa
namespace Go.Proofs.Ytdbpknmoacjodaa
open Go.RowKit Go.PlainAid Go.Sort

theorem prodT_no {C : Cx} {d : Nat} {q : PS} (h : isT C q.pos 4 cStar = false) : pE C .prodT d q = .ok q := by rw [pE_prodT, if_neg (by rw [h]; decide)]
theorem prodT_yes {C : Cx} {d : Nat} {q : PS} (h : isT C q.pos 4 cStar = true) : pE C .prodT d q = bd (pE C .part d (adv q)) fun a => bd (addEx C ⟨8, 0, sNone, sNone, (q.ex.length : Int) - 1, (a.ex.length : Int) - 1⟩ a) (pE C .prodT d) := by rw [pE_prodT, if_pos h, bd_bd]
theorem sumT_no {C : Cx} {d : Nat} {q : PS} (h : isT C q.pos 4 cMinus = false) (h2 : isT C q.pos 4 cPlus = false) : pE C .sumT d q = .ok q := by rw [pE_sumT, if_neg (by rw [h, h2]; decide)]
theorem sumT_minus {C : Cx} {d : Nat} {q : PS} (h : isT C q.pos 4 cMinus = true) : pE C .sumT d q = bd (pE C .prod d (adv q)) fun a => bd (addEx C ⟨7, 0, sNone, sNone, (q.ex.length : Int) - 1, (a.ex.length : Int) - 1⟩ a) (pE C .sumT d) := by
  rw [pE_sumT, if_pos (by rw [h]; exact Bool.or_true _), bd_bd, kindPM, if_pos h]
theorem sumT_plus {C : Cx} {d : Nat} {q : PS} (h : isT C q.pos 4 cMinus = false) (h2 : isT C q.pos 4 cPlus = true) : pE C .sumT d q = bd (pE C .prod d (adv q)) fun a => bd (addEx C ⟨6, 0, sNone, sNone, (q.ex.length : Int) - 1, (a.ex.length : Int) - 1⟩ a) (pE C .sumT d) := by
  rw [pE_sumT, if_pos (by rw [h2]; rfl), bd_bd, kindPM, if_neg (by rw [h]; decide)]

end Go.Proofs.Ytdbpknmoacjodaa
namespace Go.Proofs.Ytdbpknmoacjodaa
open Go.RowKit Go.PlainAid Go.Sort

theorem signsP_ok {C : Cx} {s : ByteArray} (n : Nat) : ∀ {k : Nat} {q b : PS}, signsP C s n k q = .ok b → b = { q with pos := q.pos + n } := by
  induction n with
  | zero => intro k q b h; cases h; rfl
  | succ n ih =>
    intro k q b h
    rw [signsP] at h
    obtain ⟨a, h1, h2⟩ := bd_eq_ok h
    rw [ih h2, (tokP_ok h1).1]
    show ({ q with pos := q.pos + 1 + n } : PS) = _
    congr 1
    omega
theorem sm_ones (x : Sm) : ∀ u ∈ smL x, u.oneCell' = true := by
  intro u hu
  simp [smL] at hu
  rcases hu with rfl | rfl | rfl <;> rfl
def stmtI (C : Cx) (k : Int) (n s : ByteArray) (q : PS) : PR := bd (pE C .sum 0 q) fun a => bd (signsP C s s.size 0 a) fun b => addSt C k n b
end Go.Proofs.Ytdbpknmoacjodaa
namespace Go.Proofs.Ytdbpknmoacjodaa
open Go.RowKit Go.PlainAid Go.Sort

def letJ (C : Cx) (k : Int) (q : PS) : PR := bd (nameP C false q) fun a => bd (tokP C 4 cEq a.1) fun b => stmtI C k a.2 cSemi b
def fnI (C : Cx) (q : PS) : PR := bd (nameP C false q) fun a => bd (signsP C cCall cCall.size 0 a.1) fun b => bd (tokP C 1 sReturn b) fun c => stmtI C 2 a.2 cSemiRight c
def printI (C : Cx) (q : PS) : PR := bd (tokP C 4 cOpen q) fun a => stmtI C 4 sNone cShutSemi a

def itemWordI (C : Cx) (i : Nat) : ByteArray := if (tokAt C i).kind == 1 then (tokAt C i).text else sNone
theorem OwnR.stmtName {w : World} {base : Nat} {r : Rw} {l : List Sm} {x : Sm} (h : OwnR w base 159 3 r (l ++ [x]).length ((l ++ [x]).flatMap smL)) : ∃ g, r.a = some ⟨g, 0, none⟩ ∧ w.cell? ⟨g, l.length * 3 + 1, none⟩ = some (.string x.name) := by
  rcases h.2 with ⟨_, hn⟩ | ⟨g, cap, cur, hv, _⟩
  · simp at hn
  · simp only [Value.slice.injEq] at hv
    have h' := h
    unfold OwnR at h'
    rw [hv.1, hv.2.2] at h'
    refine ⟨g, hv.1, ?_⟩
    rw [World.ownsRow.cellAt h' _ (by simp; omega)]
    have hl : ∀ l : List Sm, (l.flatMap smL).length = l.length * 3 := by
      intro l
      induction l with
      | nil => rfl
      | cons y l ih => simp [List.flatMap_cons, smL, ih] at ih ⊢; omega
    rw [List.flatMap_append, List.getElem?_append_right (by rw [hl]; omega), hl]
    simp [smL]
end Go.Proofs.Ytdbpknmoacjodaa
namespace Go.Proofs.Ytdbpknmoacjodaa
open Go.RowKit Go.PlainAid Go.Sort

def Fr (e : TypeId) (size : Nat) (w : World) (b : Nat) (r : Rw) (n : Nat) (xs : List Value) (S : Sv) : Prop := OwnR w b e size r n xs ∧ ∀ k, r.blk = some k → ¬ S.has k
theorem Fr.low {size b b' n : Nat} {S : Sv} {w : World} {e : TypeId} {r : Rw} {xs : List Value} (f : Fr e size w b r n xs S) (hb : b' ≤ b) : Fr e size w b' r n xs S := ⟨f.1.low hb, f.2⟩
theorem Fr.later {size b n : Nat} {S : Sv} {w w' : World} {e : TypeId} {r : Rw} {xs : List Value} (f : Fr e size w b r n xs S) (hb : Below w.heap.size w w') : Fr e size w' b r n xs S := ⟨f.1.keep fun k g => hb.block k (f.1.typed g).2.1, f.2⟩
theorem IS.aside {gp : Nat} {S S1 : Sv} {w W w2 : World} {b : Option Nat} (s : IS gp S w S1 W) (hg : W.grownBy w2 b) (hb : ∀ k, b = some k → w.heap.size ≤ k) : IS gp S w S1 w2 :=
  ⟨hg.os.trans s.os, hg.tape.trans s.tape, hg.output.trans s.output, Nat.le_trans s.size hg.size, fun k hk hn hg' => (hg.block k (Nat.lt_of_lt_of_le hk s.size) fun e => by have := hb k e.symm; omega).trans (s.block k hk hn hg'), s.sub⟩
theorem flat_len {α : Type} (f : α → List Value) (m : Nat) (hf : ∀ x, (f x).length = m) (l : List α) : (l.flatMap f).length = l.length * m := by
  induction l with
  | nil => simp
  | cons y l ih => rw [List.flatMap_cons, List.length_append, hf, ih, List.length_cons, Nat.succ_mul]; omega
theorem flat_get {α : Type} (f : α → List Value) (m : Nat) (hf : ∀ x, (f x).length = m) : ∀ (l : List α) (j i : Nat) (x : α), l[j]? = some x → i < m → (l.flatMap f)[j * m + i]? = (f x)[i]? := by
  intro l
  induction l with
  | nil => intro j i x h; simp at h
  | cons y l ih =>
    intro j i x h hi
    rw [List.flatMap_cons]
    match j with
    | 0 =>
      simp only [List.getElem?_cons_zero, Option.some.injEq] at h
      subst h
      rw [Nat.zero_mul, Nat.zero_add, List.getElem?_append_left (by rw [hf]; exact hi)]
    | j + 1 =>
      simp only [List.getElem?_cons_succ] at h
      rw [List.getElem?_append_right (by rw [hf, Nat.succ_mul]; omega), hf, ← ih j i x h hi]
      congr 1
      rw [Nat.succ_mul]
      omega
theorem OwnR.elem {α : Type} {f : α → List Value} {m : Nat} (hf : ∀ x, (f x).length = m) {w : World} {base : Nat} {e : TypeId} {r : Rw} {l : List α} (h : OwnR w base e m r l.length (l.flatMap f)) {j : Nat} {x : α} (hj : l[j]? = some x) : ∃ g, r.a = some ⟨g, 0, none⟩ ∧ ∀ i, i < m → w.cell? ⟨g, j * m + i, none⟩ = (f x)[i]? := by
  have hlt : j < l.length := (List.getElem?_eq_some_iff.1 hj).1
  rcases h.2 with ⟨_, hn⟩ | ⟨g, cap, cur, hv, _⟩
  · omega
  · simp only [Value.slice.injEq] at hv
    have h' := h
    unfold OwnR at h'
    rw [hv.1, hv.2.2] at h'
    refine ⟨g, hv.1, fun i hi => ?_⟩
    have hb : j * m + i < l.length * m := by
      have := Nat.mul_le_mul_right m hlt
      rw [Nat.succ_mul] at this
      omega
    rw [World.ownsRow.cellAt h' _ hb]
    exact flat_get f m hf l j i x hj hi
end Go.Proofs.Ytdbpknmoacjodaa
namespace Go.Proofs.Ytdbpknmoacjodaa
open Go.RowKit Go.PlainAid Go.Sort

structure OwnMd (w : World) (base : Nat) (S : Sv) (m : Md) : Prop where
  rq : OwnR w base 9 1 S.rq m.rq.length (m.rq.map .string)
  im : OwnR w base 154 3 S.im m.im.length (m.im.flatMap imL)
  ep : OwnR w base 79 4 S.ep m.ep.length (m.ep.flatMap epL)
  st : OwnR w base 159 3 S.st m.st.length (m.st.flatMap smL)
  ex : OwnR w base 96 6 S.ex m.ex.length (m.ex.flatMap exL)
theorem OwnMod.md {w : World} {base : Nat} {S : Sv} {q : PS} (h : OwnMod w base S q) : OwnMd w base S (mdOf q) := ⟨h.rq, h.im, h.ep, h.st, h.ex⟩
theorem OwnMd.later {w w' : World} {base : Nat} {S : Sv} {m : Md} (h : OwnMd w base S m) (hb : Below w.heap.size w w') : OwnMd w' base S m :=
  ⟨h.rq.keep fun k g => hb.block k (h.rq.typed g).2.1, h.im.keep fun k g => hb.block k (h.im.typed g).2.1, h.ep.keep fun k g => hb.block k (h.ep.typed g).2.1, h.st.keep fun k g => hb.block k (h.st.typed g).2.1, h.ex.keep fun k g => hb.block k (h.ex.typed g).2.1⟩
theorem OwnMd.alloc {w : World} {base : Nat} {S : Sv} {m : Md} (h : OwnMd w base S m) (o : Obj) : OwnMd (w.alloc o) base S m := h.later ((Below.refl _ _).alloc (Nat.le_refl _) _)
def modD (S : Sv) (m : Md) : Value := .agg #[.slice S.rq.a m.rq.length S.rq.cap, .slice S.im.a m.im.length S.im.cap, .slice S.ep.a m.ep.length S.ep.cap, .slice S.st.a m.st.length S.st.cap, .slice S.ex.a m.ex.length S.ex.cap]
theorem OwnMd.expr {w : World} {base : Nat} {S : Sv} {m : Md} (h : OwnMd w base S m) {i : Nat} (hi : i < m.ex.length) : ∃ g, S.ex.a = some ⟨g, 0, none⟩ ∧ g < w.heap.size ∧ w.cell? ⟨g, i * 6, none⟩ = some (.int .i64 (m.ex.getD i exNo).kind) ∧ w.cell? ⟨g, i * 6 + 1, none⟩ = some (.int .i64 (m.ex.getD i exNo).num) ∧ w.cell? ⟨g, i * 6 + 2, none⟩ = some (.string (m.ex.getD i exNo).name) ∧ w.cell? ⟨g, i * 6 + 3, none⟩ = some (.string (m.ex.getD i exNo).field) ∧ w.cell? ⟨g, i * 6 + 4, none⟩ = some (.int .i64 (m.ex.getD i exNo).l) ∧ w.cell? ⟨g, i * 6 + 5, none⟩ = some (.int .i64 (m.ex.getD i exNo).r) := by
  obtain ⟨g, hg, hc⟩ := OwnR.elem (f := exL) (m := 6) (fun _ => rfl) h.ex (List.getElem?_eq_getElem hi)
  rw [getD_at hi]
  exact ⟨g, hg, (h.ex.typed (by rw [Rw.blk, hg]; rfl)).2.1, hc 0 (by omega), hc 1 (by omega), hc 2 (by omega), hc 3 (by omega), hc 4 (by omega), hc 5 (by omega)⟩
end Go.Proofs.Ytdbpknmoacjodaa
namespace Go.Proofs.Ytdbpknmoacjodaa
open Go.RowKit Go.PlainAid Go.Sort

def boxD (S : Sv) (m : Md) : Obj := .cells #[.slice S.rq.a m.rq.length S.rq.cap, .slice S.im.a m.im.length S.im.cap, .slice S.ep.a m.ep.length S.ep.cap, .slice S.st.a m.st.length S.st.cap, .slice S.ex.a m.ex.length S.ex.cap] 37
def box0 : Obj := .cells #[.slice none 0 0, .slice none 0 0, .slice none 0 0, .slice none 0 0, .slice none 0 0] 37
theorem below_al {w w' : World} {o : Obj} (h : Below (w.alloc o).heap.size (w.alloc o) w') : Below w.heap.size w w' := ((Below.refl _ _).alloc (Nat.le_refl _) _).trans (h.mono (by rw [alloc_size]; omega))
theorem blk_later {w w' : World} {k : Nat} {o : Obj} (h : w.heap[k]? = some o) (hb : Below w.heap.size w w') : w'.heap[k]? = some o := (hb.block k (Array.getElem?_eq_some_iff.1 h).1).trans h
end Go.Proofs.Ytdbpknmoacjodaa
