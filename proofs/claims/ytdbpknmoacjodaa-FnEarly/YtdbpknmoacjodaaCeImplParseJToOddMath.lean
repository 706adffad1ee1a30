/-
  What slices.Index and slices.Contains answer over a row of texts, and strings.Clone: the walks.
  What request of impl's parser answers: the walks.
  What nameOrCall of impl's parser answers: the walk.
  What part of impl's parser answers: the walk.
  What product and sum of impl's parser answer: the walks.
  What statement of impl's parser answers: the walk.
  What the small items of impl's parser, itemWord and exportLast answer: the walks.
  Rows beside impl's parser: lists of names under way. No program is spoken of but for the numbers of its types.
  A program in memory, of any size. No program is spoken of but for the numbers of its types.
  A program that was read has no name longer than its text, and no number that is great. No program is spoken of.
  What a program declares, as plain functions. No program is spoken of.
  What each step of reading keeps, the whole reading keeps; so a program that was read has no request twice. No program is spoken of.
  A program that was read has no statement of DefaultName that is no let. No program is spoken of.
-/
import Derived.Test.YtdbpknmoacjodaaCeImplParseHToImplParseI
import Derived.Test.YtdbpknmoacjodaaCeShelf
namespace Go.Proofs.Ytdbpknmoacjodaa
open Go.RowKit Go.PlainAid Go.Sort

set_option maxRecDepth 100000 in
theorem cloneP_any (s : ByteArray) (w : World) (h : s.size ≤ 281474976710656) :
    Calls Try.prog 92 #[.string s] w fun e w' => e = .returned (.string s) ∧ Below w.heap.size w w' := by
  go_enter Try.func92, Try.ntmps92
  go_wp2_with fail
  refine (Try.stringslite_Clone _ _ h).mono ?_
  rintro e w1 ⟨rfl, hb⟩
  go_wp2
  go_ret
  exact ⟨rfl, hb⟩
theorem OwnR.text {w : World} {base n : Nat} {r : Rw} {l : List ByteArray} (h : OwnR w base 9 1 r n (l.map .string)) {j : Nat} (hj : j < n) : ∃ g, r.a = some ⟨g, 0, none⟩ ∧ w.cell? ⟨g, j, none⟩ = some (.string (l.getD j sNone)) := by
  rcases h.2 with ⟨_, hn⟩ | ⟨g, cap, cur, hv, _⟩
  · omega
  · simp only [Value.slice.injEq] at hv
    have h' := h
    unfold OwnR at h'
    rw [hv.1, hv.2.2] at h'
    have hl : l.length = n := by have := h.1; simpa using this
    refine ⟨g, hv.1, ?_⟩
    rw [World.ownsRow.cellAt h' j (by omega)]
    simp only [List.getElem?_map, List.getD]
    rw [List.getElem?_eq_getElem (by omega)]
    rfl
theorem hasS_drop {l : List ByteArray} {x : ByteArray} {j : Nat} (hj : j < l.length) : hasS (l.drop j) x = ((l.getD j sNone).toList == x.toList || hasS (l.drop (j + 1)) x) := by
  rw [List.drop_eq_getElem_cons hj]
  simp only [hasS, List.any_cons, List.getD, List.getElem?_eq_getElem hj, Option.getD_some]
end Go.Proofs.Ytdbpknmoacjodaa
namespace Go.Proofs.Ytdbpknmoacjodaa
open Go.RowKit Go.PlainAid Go.Sort

theorem Try.infoText : (Try.prog.info? 9).map (fun i => (i.zero, i.size, i.bytes)) = some (some (.string { data := #[] }), 1, 16) := by kernel_rfl
def Sized (C : Cx) : Prop := ∀ i, (tokAt C i).text.size ≤ 281474976710656
theorem str_ones (x : ByteArray) : ∀ u ∈ [Value.string x], u.oneCell' = true := by
  intro u hu
  simp at hu
  rw [hu]
  rfl
end Go.Proofs.Ytdbpknmoacjodaa
namespace Go.Proofs.Ytdbpknmoacjodaa
open Go.RowKit Go.PlainAid Go.Sort

theorem bdO {α β : Type} {Y : Except Nat β} {x : Except Nat α} {f : α → Except Nat β} {a : α} (h : Y = bd x f) (hx : x = .ok a) : Y = f a := by rw [h, hx]; rfl
theorem bdE {α β : Type} {Y : Except Nat β} {x : Except Nat α} {f : α → Except Nat β} {p : Nat} (h : Y = bd x f) (hx : x = .error p) : Y = .error p := by rw [h, hx]; rfl
theorem bd_pure {α : Type} (x : Except Nat α) : bd x .ok = x := by cases x <;> rfl
abbrev cCall : ByteArray := { data := #[40, 41, 123] }
abbrev cShutSemi : ByteArray := { data := #[41, 59] }
abbrev cSemiRight : ByteArray := { data := #[59, 125] }
theorem signs_one (C : Cx) (b : UInt8) (q : PS) : signsP C { data := #[b] } 1 0 q = tokP C 4 { data := #[b] } q := by
  have e : ({ data := #[b] } : ByteArray).extract 0 (0 + 1) = { data := #[b] } := by simp [ByteArray.extract, ByteArray.copySlice]
  rw [signsP, e]
  exact bd_pure _
theorem signs_two (C : Cx) (b c : UInt8) (q : PS) : signsP C { data := #[b, c] } 2 0 q = bd (tokP C 4 { data := #[b] } q) (tokP C 4 { data := #[c] }) := by
  have e : ({ data := #[b, c] } : ByteArray).extract 0 (0 + 1) = { data := #[b] } := by simp [ByteArray.extract, ByteArray.copySlice]
  have e2 : ({ data := #[b, c] } : ByteArray).extract (0 + 1) (0 + 1 + 1) = { data := #[c] } := by simp [ByteArray.extract, ByteArray.copySlice]
  rw [signsP, e]
  refine bd_congr fun a _ => ?_
  rw [signsP, e2]
  exact bd_pure _
theorem signs_three (C : Cx) (b c d : UInt8) (q : PS) : signsP C { data := #[b, c, d] } 3 0 q = bd (tokP C 4 { data := #[b] } q) fun a => bd (tokP C 4 { data := #[c] } a) (tokP C 4 { data := #[d] }) := by
  have e : ({ data := #[b, c, d] } : ByteArray).extract 0 (0 + 1) = { data := #[b] } := by simp [ByteArray.extract, ByteArray.copySlice]
  have e2 : ({ data := #[b, c, d] } : ByteArray).extract (0 + 1) (0 + 1 + 1) = { data := #[c] } := by simp [ByteArray.extract, ByteArray.copySlice]
  have e3 : ({ data := #[b, c, d] } : ByteArray).extract (0 + 1 + 1) (0 + 1 + 1 + 1) = { data := #[d] } := by simp [ByteArray.extract, ByteArray.copySlice]
  rw [signsP, e]
  refine bd_congr fun a _ => ?_
  rw [signsP, e2]
  refine bd_congr fun a _ => ?_
  rw [signsP, e3]
  exact bd_pure _
structure Six (w : World) (b : Nat) (v0 v1 v2 v3 v4 v5 : Value) : Prop where
  c0 : w.cell? ⟨b, 0, none⟩ = some v0
  c1 : w.cell? ⟨b, 1, none⟩ = some v1
  c2 : w.cell? ⟨b, 2, none⟩ = some v2
  c3 : w.cell? ⟨b, 3, none⟩ = some v3
  c4 : w.cell? ⟨b, 4, none⟩ = some v4
  c5 : w.cell? ⟨b, 5, none⟩ = some v5
  fz : ∀ i, w.frozen? ⟨b, i, none⟩ = false
theorem six_of {w : World} {b : Nat} {t : TypeId} {v0 v1 v2 v3 v4 v5 : Value} (h : w.heap[b]? = some (.cells #[v0, v1, v2, v3, v4, v5] t (0, 0))) : Six w b v0 v1 v2 v3 v4 v5 := by
  constructor <;> simp [World.cell?, World.frozen?, h]
theorem IS.from {gp : Nat} {S S' : Sv} {w w' : World} {o : Obj} (s : IS gp S (w.alloc o) S' w') : IS gp S w S' w' := (IS.below ((Below.refl _ _).alloc (Nat.le_refl _) _)).trans s
def nameI (C : Cx) (x : Ex) (call : Int) (q : PS) : PR := if isT C q.pos 4 cOpen then bd (tokP C 4 cShut (adv q)) (addEx C ⟨call, x.num, x.name, x.field, x.l, x.r⟩) else addEx C x q

end Go.Proofs.Ytdbpknmoacjodaa
namespace Go.Proofs.Ytdbpknmoacjodaa
open Go.RowKit Go.PlainAid Go.Sort

def exI (q : PS) : Value := .int .i64 ((q.ex.length : Int) - 1)
theorem tail_is (C : Cx) (n : ByteArray) (q : PS) : tailP C n q = nameI C ⟨2, 0, n, sNone, 0, 0⟩ 3 q := by
  unfold tailP nameI
  cases hi : isT C q.pos 4 cOpen with
  | true => rw [tok_pass hi]; rfl
  | false => rfl
theorem mem_is (C : Cx) (n f : ByteArray) (q : PS) : memP C n f q = nameI C ⟨4, 0, n, f, 0, 0⟩ 5 q := by
  unfold memP nameI
  cases hi : isT C q.pos 4 cOpen with
  | true => rw [tok_pass hi]; rfl
  | false => rfl
theorem text_is {x y : ByteArray} (h : (x.toList == y.toList) = true) : x = y := by
  rw [beq_iff_eq, Lib.toList_data, Lib.toList_data] at h
  cases x
  cases y
  simp only at h
  rw [Array.toList_inj.1 h]
theorem isT_text {C : Cx} {i : Nat} {k : Int} {x : ByteArray} (h : isT C i k x = true) : (tokAt C i).text = x := by
  simp only [isT, Bool.and_eq_true] at h
  exact text_is h.2
theorem isT_kindT {C : Cx} {i : Nat} {k : Int} {x : ByteArray} (h : isT C i k x = true) : ((tokAt C i).kind == k) = true := by
  simp only [isT, Bool.and_eq_true] at h
  exact h.1
theorem part_num {C : Cx} {d : Nat} {q : PS} (h : ((tokAt C q.pos).kind == 2) = true) : pE C .part d q = addEx C ⟨1, (tokAt C q.pos).num, sNone, sNone, 0, 0⟩ (adv q) := by rw [pE_part, h]; rfl
theorem part_deep {C : Cx} {d : Nat} {q : PS} (h : ((tokAt C q.pos).kind == 2) = false) (h1 : isT C q.pos 4 cOpen = true) (hd : 20 ≤ d) : pE C .part d q = .error (here C q.pos) := by rw [pE_part, h, h1, if_neg (by decide), if_pos rfl, if_pos hd]
theorem part_open {C : Cx} {d : Nat} {q : PS} (h : ((tokAt C q.pos).kind == 2) = false) (h1 : isT C q.pos 4 cOpen = true) (hd : ¬ 20 ≤ d) : pE C .part d q = bd (pE C .sum (d + 1) (adv q)) (tokP C 4 cShut) := by rw [pE_part, h, h1, if_neg (by decide), if_pos rfl, if_neg hd]
theorem part_undef {C : Cx} {d : Nat} {q : PS} (h : ((tokAt C q.pos).kind == 2) = false) (h1 : isT C q.pos 4 cOpen = false) (h2 : C.scr = true) (h3 : isT C q.pos 1 sUndef = true) : pE C .part d q = nameI C ⟨2, 0, sUndef, sNone, 0, 0⟩ 3 (adv q) := by
  rw [pE_part, h, h1, h2, h3, if_neg (by decide), if_neg (by decide), if_pos (by decide), tail_is]
theorem part_name {C : Cx} {d : Nat} {q : PS} (h : ((tokAt C q.pos).kind == 2) = false) (h1 : isT C q.pos 4 cOpen = false) (h2 : (C.scr && isT C q.pos 1 sUndef) = false) :
    pE C .part d q = bd (nameP C false q) fun x => if isT C x.1.pos 4 cPoint then bd (nameP C true (adv x.1)) fun y => nameI C ⟨4, 0, x.2, y.2, 0, 0⟩ 5 y.1 else nameI C ⟨2, 0, x.2, sNone, 0, 0⟩ 3 x.1 := by
  rw [pE_part, h, h1, h2, if_neg (by decide), if_neg (by decide), if_neg (by decide)]
  simp only [tail_is, mem_is]

end Go.Proofs.Ytdbpknmoacjodaa
namespace Go.Proofs.Ytdbpknmoacjodaa
open Go.RowKit Go.PlainAid Go.Sort

theorem prodT_no {C : Cx} {d : Nat} {q : PS} (h : isT C q.pos 4 cStar = false) : pE C .prodT d q = .ok q := by rw [pE_prodT, if_neg (by rw [h]; decide)]
theorem prodT_yes {C : Cx} {d : Nat} {q : PS} (h : isT C q.pos 4 cStar = true) : pE C .prodT d q = bd (pE C .part d (adv q)) fun a => bd (addEx C ⟨8, 0, sNone, sNone, (q.ex.length : Int) - 1, (a.ex.length : Int) - 1⟩ a) (pE C .prodT d) := by rw [pE_prodT, if_pos h, bd_bd]
theorem sumT_no {C : Cx} {d : Nat} {q : PS} (h : isT C q.pos 4 cMinus = false) (h2 : isT C q.pos 4 cPlus = false) : pE C .sumT d q = .ok q := by rw [pE_sumT, if_neg (by rw [h, h2]; decide)]
theorem sumT_minus {C : Cx} {d : Nat} {q : PS} (h : isT C q.pos 4 cMinus = true) : pE C .sumT d q = bd (pE C .prod d (adv q)) fun a => bd (addEx C ⟨7, 0, sNone, sNone, (q.ex.length : Int) - 1, (a.ex.length : Int) - 1⟩ a) (pE C .sumT d) := by
  rw [pE_sumT, if_pos (by rw [h]; exact Bool.or_true _), bd_bd, kindPM, if_pos h]
theorem sumT_plus {C : Cx} {d : Nat} {q : PS} (h : isT C q.pos 4 cMinus = false) (h2 : isT C q.pos 4 cPlus = true) : pE C .sumT d q = bd (pE C .prod d (adv q)) fun a => bd (addEx C ⟨6, 0, sNone, sNone, (q.ex.length : Int) - 1, (a.ex.length : Int) - 1⟩ a) (pE C .sumT d) := by
  rw [pE_sumT, if_pos (by rw [h2]; rfl), bd_bd, kindPM, if_neg (by rw [h]; decide)]

end Go.Proofs.Ytdbpknmoacjodaa
namespace Go.Proofs.Ytdbpknmoacjodaa
open Go.RowKit Go.PlainAid Go.Sort

theorem signsP_ok {C : Cx} {s : ByteArray} (n : Nat) : ∀ {k : Nat} {q b : PS}, signsP C s n k q = .ok b → b = { q with pos := q.pos + n } := by
  induction n with
  | zero => intro k q b h; cases h; rfl
  | succ n ih =>
    intro k q b h
    rw [signsP] at h
    obtain ⟨a, h1, h2⟩ := bd_eq_ok h
    rw [ih h2, (tokP_ok h1).1]
    show ({ q with pos := q.pos + 1 + n } : PS) = _
    congr 1
    omega
theorem sm_ones (x : Sm) : ∀ u ∈ smL x, u.oneCell' = true := by
  intro u hu
  simp [smL] at hu
  rcases hu with rfl | rfl | rfl <;> rfl
def stmtI (C : Cx) (k : Int) (n s : ByteArray) (q : PS) : PR := bd (pE C .sum 0 q) fun a => bd (signsP C s s.size 0 a) fun b => addSt C k n b
end Go.Proofs.Ytdbpknmoacjodaa
namespace Go.Proofs.Ytdbpknmoacjodaa
open Go.RowKit Go.PlainAid Go.Sort

def letJ (C : Cx) (k : Int) (q : PS) : PR := bd (nameP C false q) fun a => bd (tokP C 4 cEq a.1) fun b => stmtI C k a.2 cSemi b
def fnI (C : Cx) (q : PS) : PR := bd (nameP C false q) fun a => bd (signsP C cCall cCall.size 0 a.1) fun b => bd (tokP C 1 sReturn b) fun c => stmtI C 2 a.2 cSemiRight c
def printI (C : Cx) (q : PS) : PR := bd (tokP C 4 cOpen q) fun a => stmtI C 4 sNone cShutSemi a

def itemWordI (C : Cx) (i : Nat) : ByteArray := if (tokAt C i).kind == 1 then (tokAt C i).text else sNone
theorem OwnR.stmtName {w : World} {base : Nat} {r : Rw} {l : List Sm} {x : Sm} (h : OwnR w base 159 3 r (l ++ [x]).length ((l ++ [x]).flatMap smL)) : ∃ g, r.a = some ⟨g, 0, none⟩ ∧ w.cell? ⟨g, l.length * 3 + 1, none⟩ = some (.string x.name) := by
  rcases h.2 with ⟨_, hn⟩ | ⟨g, cap, cur, hv, _⟩
  · simp at hn
  · simp only [Value.slice.injEq] at hv
    have h' := h
    unfold OwnR at h'
    rw [hv.1, hv.2.2] at h'
    refine ⟨g, hv.1, ?_⟩
    rw [World.ownsRow.cellAt h' _ (by simp; omega)]
    have hl : ∀ l : List Sm, (l.flatMap smL).length = l.length * 3 := by
      intro l
      induction l with
      | nil => rfl
      | cons y l ih => simp [List.flatMap_cons, smL, ih] at ih ⊢; omega
    rw [List.flatMap_append, List.getElem?_append_right (by rw [hl]; omega), hl]
    simp [smL]
end Go.Proofs.Ytdbpknmoacjodaa
namespace Go.Proofs.Ytdbpknmoacjodaa
open Go.RowKit Go.PlainAid Go.Sort

def Fr (e : TypeId) (size : Nat) (w : World) (b : Nat) (r : Rw) (n : Nat) (xs : List Value) (S : Sv) : Prop := OwnR w b e size r n xs ∧ ∀ k, r.blk = some k → ¬ S.has k
theorem Fr.low {size b b' n : Nat} {S : Sv} {w : World} {e : TypeId} {r : Rw} {xs : List Value} (f : Fr e size w b r n xs S) (hb : b' ≤ b) : Fr e size w b' r n xs S := ⟨f.1.low hb, f.2⟩
theorem Fr.later {size b n : Nat} {S : Sv} {w w' : World} {e : TypeId} {r : Rw} {xs : List Value} (f : Fr e size w b r n xs S) (hb : Below w.heap.size w w') : Fr e size w' b r n xs S := ⟨f.1.keep fun k g => hb.block k (f.1.typed g).2.1, f.2⟩
theorem IS.aside {gp : Nat} {S S1 : Sv} {w W w2 : World} {b : Option Nat} (s : IS gp S w S1 W) (hg : W.grownBy w2 b) (hb : ∀ k, b = some k → w.heap.size ≤ k) : IS gp S w S1 w2 :=
  ⟨hg.os.trans s.os, hg.tape.trans s.tape, hg.output.trans s.output, Nat.le_trans s.size hg.size, fun k hk hn hg' => (hg.block k (Nat.lt_of_lt_of_le hk s.size) fun e => by have := hb k e.symm; omega).trans (s.block k hk hn hg'), s.sub⟩
theorem flat_len {α : Type} (f : α → List Value) (m : Nat) (hf : ∀ x, (f x).length = m) (l : List α) : (l.flatMap f).length = l.length * m := by
  induction l with
  | nil => simp
  | cons y l ih => rw [List.flatMap_cons, List.length_append, hf, ih, List.length_cons, Nat.succ_mul]; omega
theorem flat_get {α : Type} (f : α → List Value) (m : Nat) (hf : ∀ x, (f x).length = m) : ∀ (l : List α) (j i : Nat) (x : α), l[j]? = some x → i < m → (l.flatMap f)[j * m + i]? = (f x)[i]? := by
  intro l
  induction l with
  | nil => intro j i x h; simp at h
  | cons y l ih =>
    intro j i x h hi
    rw [List.flatMap_cons]
    match j with
    | 0 =>
      simp only [List.getElem?_cons_zero, Option.some.injEq] at h
      subst h
      rw [Nat.zero_mul, Nat.zero_add, List.getElem?_append_left (by rw [hf]; exact hi)]
    | j + 1 =>
      simp only [List.getElem?_cons_succ] at h
      rw [List.getElem?_append_right (by rw [hf, Nat.succ_mul]; omega), hf, ← ih j i x h hi]
      congr 1
      rw [Nat.succ_mul]
      omega
theorem OwnR.elem {α : Type} {f : α → List Value} {m : Nat} (hf : ∀ x, (f x).length = m) {w : World} {base : Nat} {e : TypeId} {r : Rw} {l : List α} (h : OwnR w base e m r l.length (l.flatMap f)) {j : Nat} {x : α} (hj : l[j]? = some x) : ∃ g, r.a = some ⟨g, 0, none⟩ ∧ ∀ i, i < m → w.cell? ⟨g, j * m + i, none⟩ = (f x)[i]? := by
  have hlt : j < l.length := (List.getElem?_eq_some_iff.1 hj).1
  rcases h.2 with ⟨_, hn⟩ | ⟨g, cap, cur, hv, _⟩
  · omega
  · simp only [Value.slice.injEq] at hv
    have h' := h
    unfold OwnR at h'
    rw [hv.1, hv.2.2] at h'
    refine ⟨g, hv.1, fun i hi => ?_⟩
    have hb : j * m + i < l.length * m := by
      have := Nat.mul_le_mul_right m hlt
      rw [Nat.succ_mul] at this
      omega
    rw [World.ownsRow.cellAt h' _ hb]
    exact flat_get f m hf l j i x hj hi
end Go.Proofs.Ytdbpknmoacjodaa
namespace Go.Proofs.Ytdbpknmoacjodaa
open Go.RowKit Go.PlainAid Go.Sort

structure OwnMd (w : World) (base : Nat) (S : Sv) (m : Md) : Prop where
  rq : OwnR w base 9 1 S.rq m.rq.length (m.rq.map .string)
  im : OwnR w base 154 3 S.im m.im.length (m.im.flatMap imL)
  ep : OwnR w base 79 4 S.ep m.ep.length (m.ep.flatMap epL)
  st : OwnR w base 159 3 S.st m.st.length (m.st.flatMap smL)
  ex : OwnR w base 96 6 S.ex m.ex.length (m.ex.flatMap exL)
theorem OwnMod.md {w : World} {base : Nat} {S : Sv} {q : PS} (h : OwnMod w base S q) : OwnMd w base S (mdOf q) := ⟨h.rq, h.im, h.ep, h.st, h.ex⟩
theorem OwnMd.later {w w' : World} {base : Nat} {S : Sv} {m : Md} (h : OwnMd w base S m) (hb : Below w.heap.size w w') : OwnMd w' base S m :=
  ⟨h.rq.keep fun k g => hb.block k (h.rq.typed g).2.1, h.im.keep fun k g => hb.block k (h.im.typed g).2.1, h.ep.keep fun k g => hb.block k (h.ep.typed g).2.1, h.st.keep fun k g => hb.block k (h.st.typed g).2.1, h.ex.keep fun k g => hb.block k (h.ex.typed g).2.1⟩
theorem OwnMd.alloc {w : World} {base : Nat} {S : Sv} {m : Md} (h : OwnMd w base S m) (o : Obj) : OwnMd (w.alloc o) base S m := h.later ((Below.refl _ _).alloc (Nat.le_refl _) _)
def modD (S : Sv) (m : Md) : Value := .agg #[.slice S.rq.a m.rq.length S.rq.cap, .slice S.im.a m.im.length S.im.cap, .slice S.ep.a m.ep.length S.ep.cap, .slice S.st.a m.st.length S.st.cap, .slice S.ex.a m.ex.length S.ex.cap]
theorem OwnMd.expr {w : World} {base : Nat} {S : Sv} {m : Md} (h : OwnMd w base S m) {i : Nat} (hi : i < m.ex.length) : ∃ g, S.ex.a = some ⟨g, 0, none⟩ ∧ g < w.heap.size ∧ w.cell? ⟨g, i * 6, none⟩ = some (.int .i64 (m.ex.getD i exNo).kind) ∧ w.cell? ⟨g, i * 6 + 1, none⟩ = some (.int .i64 (m.ex.getD i exNo).num) ∧ w.cell? ⟨g, i * 6 + 2, none⟩ = some (.string (m.ex.getD i exNo).name) ∧ w.cell? ⟨g, i * 6 + 3, none⟩ = some (.string (m.ex.getD i exNo).field) ∧ w.cell? ⟨g, i * 6 + 4, none⟩ = some (.int .i64 (m.ex.getD i exNo).l) ∧ w.cell? ⟨g, i * 6 + 5, none⟩ = some (.int .i64 (m.ex.getD i exNo).r) := by
  obtain ⟨g, hg, hc⟩ := OwnR.elem (f := exL) (m := 6) (fun _ => rfl) h.ex (List.getElem?_eq_getElem hi)
  rw [getD_at hi]
  exact ⟨g, hg, (h.ex.typed (by rw [Rw.blk, hg]; rfl)).2.1, hc 0 (by omega), hc 1 (by omega), hc 2 (by omega), hc 3 (by omega), hc 4 (by omega), hc 5 (by omega)⟩
end Go.Proofs.Ytdbpknmoacjodaa
namespace Go.Proofs.Ytdbpknmoacjodaa
open Go.RowKit Go.PlainAid

def OkEp (N : Nat) (x : Ep) : Prop := x.name.size ≤ N ∧ x.loc.size ≤ N ∧ x.spec.size ≤ N
def OkEx (N : Nat) (x : Ex) : Prop := x.name.size ≤ N ∧ x.field.size ≤ N ∧ 0 ≤ x.num ∧ x.num ≤ 1000000
structure BS (N : Nat) (q : PS) : Prop where
  rq : ∀ x ∈ q.rq, x.size ≤ N
  im : ∀ x ∈ q.im, x.spec.size ≤ N ∧ x.first.size ≤ N ∧ x.loc.size ≤ N
  ep : ∀ x ∈ q.ep, OkEp N x
  la : ∀ x ∈ q.la, OkEp N x
  st : ∀ x ∈ q.st, x.name.size ≤ N
  ex : ∀ x ∈ q.ex, OkEx N x
def BT (N : Nat) (ts : List Tk) : Prop := ∀ t ∈ ts, t.text.size ≤ N ∧ 0 ≤ t.num ∧ t.num ≤ 1000000
theorem tok_bt {s : ByteArray} {scr : Bool} {a e : Nat} {t : Tk} (h : Tok s scr a t e) : t.text.size ≤ s.size ∧ 0 ≤ t.num ∧ t.num ≤ 1000000 := by
  cases h using Tok.elim with
  | name _ _ => exact ⟨by simp only [ByteArray.size_extract]; omega, by simp, by simp⟩
  | num h he =>
    refine ⟨Nat.zero_le _, ?_, he.2.2.2.2.1⟩
    have := dval_mono (s := s) (a := a) 0 (e - a) (fun j hj => by
      have := he.1.2.2.1 (a + j) (by omega) (by omega)
      rw [digB_iff] at this
      exact this.1) (Nat.zero_le _)
    rw [he.2.2.2.1]
    exact this.2
  | str _ _ => exact ⟨by simp only [ByteArray.size_extract]; omega, by simp, by simp⟩
  | sign _ => exact ⟨by simp only [ByteArray.size_extract]; omega, by simp, by simp⟩
theorem lx_bt {s : ByteArray} {scr : Bool} {a n : Nat} {r : Except Nat (List Tk)} (h : Lx s scr a n r) : ∀ ts, r = .ok ts → BT s.size ts := by
  induction h using Lx.ind with
  | done => intro ts k; cases k; intro t ht; cases ht
  | bad _ _ => intro ts k; cases k
  | @tok a n e b t r h hn ht hs hr ih =>
    intro ts k
    cases r with
    | error p => cases k
    | ok l =>
      cases k
      intro u hu
      rcases List.mem_cons.1 hu with rfl | hu
      · exact tok_bt ht
      · exact ih l rfl u hu
theorem at_bt {N : Nat} {C : Cx} (hC : BT N C.ts) (i : Nat) : (tokAt C i).text.size ≤ N ∧ 0 ≤ (tokAt C i).num ∧ (tokAt C i).num ≤ 1000000 := by
  by_cases hi : i < C.ts.length
  · have e : tokAt C i = C.ts[i] := by simp [tokAt, List.getD, List.getElem?_eq_getElem hi]
    rw [e]
    exact hC _ (List.getElem_mem hi)
  · rw [tokAt_none (by omega)]
    exact ⟨Nat.zero_le _, by simp, by simp⟩
theorem adv_bs {N : Nat} {q : PS} (h : BS N q) : BS N (adv q) := ⟨h.rq, h.im, h.ep, h.la, h.st, h.ex⟩
theorem tokP_bs {N : Nat} {C : Cx} {k : Int} {x : ByteArray} {q q' : PS} (h : tokP C k x q = .ok q') (hq : BS N q) : BS N q' := by
  obtain ⟨rfl, _⟩ := tokP_ok h
  exact adv_bs hq
theorem nameP_bs {N : Nat} {C : Cx} (hC : BT N C.ts) {o : Bool} {q : PS} {y : PS × ByteArray} (h : nameP C o q = .ok y) (hq : BS N q) : BS N y.1 ∧ y.2.size ≤ N := by
  obtain ⟨rfl, _⟩ := nameP_ok h
  exact ⟨adv_bs hq, (at_bt hC _).1⟩
theorem addEx_bs {N : Nat} {C : Cx} {x : Ex} {q q' : PS} (h : addEx C x q = .ok q') (hq : BS N q) (hx : OkEx N x) : BS N q' := by
  obtain ⟨rfl, _⟩ := addEx_ok h
  refine ⟨hq.rq, hq.im, hq.ep, hq.la, hq.st, fun y hy => ?_⟩
  rcases List.mem_append.1 hy with hy | hy
  · exact hq.ex y hy
  · rw [List.mem_singleton] at hy
    rw [hy]
    exact hx
theorem ex_name {N : Nat} {k l r : Int} {n f : ByteArray} (hn : n.size ≤ N) (hf : f.size ≤ N) : OkEx N ⟨k, 0, n, f, l, r⟩ := ⟨hn, hf, Int.le_refl _, by simp⟩
theorem tailP_bs {N : Nat} {C : Cx} {n : ByteArray} {q q' : PS} (h : tailP C n q = .ok q') (hq : BS N q) (hn : n.size ≤ N) : BS N q' := by
  unfold tailP at h
  split at h
  · obtain ⟨a, h1, h2⟩ := bd_eq_ok h
    obtain ⟨b, h3, h4⟩ := bd_eq_ok h1
    exact addEx_bs h2 (tokP_bs h4 (tokP_bs h3 hq)) (ex_name hn (Nat.zero_le _))
  · exact addEx_bs h hq (ex_name hn (Nat.zero_le _))
theorem memP_bs {N : Nat} {C : Cx} {n f : ByteArray} {q q' : PS} (h : memP C n f q = .ok q') (hq : BS N q) (hn : n.size ≤ N) (hf : f.size ≤ N) : BS N q' := by
  unfold memP at h
  split at h
  · obtain ⟨a, h1, h2⟩ := bd_eq_ok h
    obtain ⟨b, h3, h4⟩ := bd_eq_ok h1
    exact addEx_bs h2 (tokP_bs h4 (tokP_bs h3 hq)) (ex_name hn hf)
  · exact addEx_bs h hq (ex_name hn hf)
theorem ev_bs {N : Nat} {C : Cx} (hC : BT N C.ts) (hN : 8 ≤ N) (f : Nat) : ∀ (nt : NT) (d : Nat) (q q' : PS), ev C f nt d q = .ok q' → BS N q → BS N q' := by
  induction f with
  | zero => intro nt d q q' h; cases nt using NT.elim <;> cases h
  | succ f ih =>
    intro nt d q q' h hq
    cases nt using NT.elim with
    | sum =>
      rw [ev] at h
      obtain ⟨a, h1, h2⟩ := bd_eq_ok h
      exact ih _ _ _ _ h2 (ih _ _ _ _ h1 hq)
    | prod =>
      rw [ev] at h
      obtain ⟨a, h1, h2⟩ := bd_eq_ok h
      exact ih _ _ _ _ h2 (ih _ _ _ _ h1 hq)
    | sumT =>
      rw [ev] at h
      split at h
      · obtain ⟨a, h1, h2⟩ := bd_eq_ok h
        obtain ⟨b, h3, h4⟩ := bd_eq_ok h1
        exact ih _ _ _ _ h2 (addEx_bs h4 (ih _ _ _ _ h3 (adv_bs hq)) (ex_name (Nat.zero_le _) (Nat.zero_le _)))
      · cases h
        exact hq
    | prodT =>
      rw [ev] at h
      split at h
      · obtain ⟨a, h1, h2⟩ := bd_eq_ok h
        obtain ⟨b, h3, h4⟩ := bd_eq_ok h1
        exact ih _ _ _ _ h2 (addEx_bs h4 (ih _ _ _ _ h3 (adv_bs hq)) (ex_name (Nat.zero_le _) (Nat.zero_le _)))
      · cases h
        exact hq
    | part =>
      rw [ev] at h
      split at h
      · exact addEx_bs h (adv_bs hq) ⟨Nat.zero_le _, Nat.zero_le _, (at_bt hC _).2⟩
      · split at h
        · split at h
          · cases h
          · obtain ⟨a, h1, h2⟩ := bd_eq_ok h
            exact tokP_bs h2 (ih _ _ _ _ h1 (adv_bs hq))
        · split at h
          · exact tailP_bs h (adv_bs hq) (Nat.le_trans (show 5 ≤ 8 by omega) hN)
          · obtain ⟨a, h1, h2⟩ := bd_eq_ok h
            obtain ⟨b1, b2⟩ := nameP_bs hC h1 hq
            split at h2
            · obtain ⟨b, h3, h4⟩ := bd_eq_ok h2
              obtain ⟨c1, c2⟩ := nameP_bs hC h3 (adv_bs b1)
              exact memP_bs h4 c1 b2 c2
            · exact tailP_bs h2 b1 b2
theorem pE_bs {N : Nat} {C : Cx} (hC : BT N C.ts) (hN : 8 ≤ N) {nt : NT} {d : Nat} {q q' : PS} (h : pE C nt d q = .ok q') (hq : BS N q) : BS N q' := ev_bs hC hN _ _ _ _ _ h hq
theorem specP_bs {N : Nat} {C : Cx} (hC : BT N C.ts) {q : PS} {a : PS × ByteArray} (h : specP C q = .ok a) (hq : BS N q) : BS N a.1 ∧ a.2.size ≤ N := by
  unfold specP at h
  split at h
  · split at h
    · cases h
      exact ⟨adv_bs hq, (at_bt hC _).1⟩
    · split at h
      · cases h
      · cases h
        refine ⟨⟨fun x hx => ?_, hq.im, hq.ep, hq.la, hq.st, hq.ex⟩, (at_bt hC _).1⟩
        rcases List.mem_append.1 hx with hx | hx
        · exact hq.rq x hx
        · rw [List.mem_singleton] at hx
          rw [hx]
          exact (at_bt hC _).1
  · cases h
theorem addSt_bs {N : Nat} {C : Cx} {k : Int} {n : ByteArray} {q q' : PS} (h : addSt C k n q = .ok q') (hq : BS N q) (hn : n.size ≤ N) : BS N q' := by
  unfold addSt at h
  split at h
  · cases h
  · cases h
    refine ⟨hq.rq, hq.im, hq.ep, hq.la, fun x hx => ?_, hq.ex⟩
    rcases List.mem_append.1 hx with hx | hx
    · exact hq.st x hx
    · rw [List.mem_singleton] at hx
      rw [hx]
      exact hn
theorem addIm_bs {N : Nat} {C : Cx} {y : Im} {q q' : PS} (h : addIm C y q = .ok q') (hq : BS N q) (hy : y.spec.size ≤ N ∧ y.first.size ≤ N ∧ y.loc.size ≤ N) : BS N q' := by
  unfold addIm at h
  split at h
  · cases h
  · cases h
    refine ⟨hq.rq, fun x hx => ?_, hq.ep, hq.la, hq.st, hq.ex⟩
    rcases List.mem_append.1 hx with hx | hx
    · exact hq.im x hx
    · rw [List.mem_singleton] at hx
      rw [hx]
      exact hy
theorem mem_more {α : Type} {P : α → Prop} {l : List α} {y : α} (h : ∀ x ∈ l, P x) (hy : P y) : ∀ x ∈ l ++ [y], P x := fun x hx => by
  rcases List.mem_append.1 hx with hx | hx
  · exact h x hx
  · rw [List.mem_singleton] at hx
    rw [hx]
    exact hy
theorem addEp_bs {N : Nat} {C : Cx} {y : Ep} {q q' : PS} (h : addEp C y q = .ok q') (hq : BS N q) (hy : OkEp N y) : BS N q' := by
  unfold addEp at h
  split at h
  · cases h
  · split at h
    · cases h
      exact ⟨hq.rq, hq.im, hq.ep, mem_more hq.la hy, hq.st, hq.ex⟩
    · cases h
      exact ⟨hq.rq, hq.im, mem_more hq.ep hy, hq.la, hq.st, hq.ex⟩
theorem addAll_okE {α : Type} {f : α → PS → PR} (l : List α) : ∀ (x : PR) (q' : PS), addAll f l x = .ok q' → ∃ q, x = .ok q ∧ True := by
  induction l with
  | nil => intro x q' h; exact ⟨q', h, trivial⟩
  | cons a l ih =>
    intro x q' h
    obtain ⟨b, h1, _⟩ := ih _ _ h
    obtain ⟨c, h3, _⟩ := bd_eq_ok h1
    exact ⟨c, h3, trivial⟩
theorem addAll_bs {α : Type} {N : Nat} {f : α → PS → PR} (l : List α) (hf : ∀ a ∈ l, ∀ q q', f a q = .ok q' → BS N q → BS N q') : ∀ (q q' : PS), addAll f l (.ok q) = .ok q' → BS N q → BS N q' := by
  induction l with
  | nil => intro q q' h hq; cases h; exact hq
  | cons a l ih =>
    intro q q' h hq
    have h' : addAll f l (f a q) = .ok q' := h
    cases hfa : f a q with
    | error e =>
      rw [hfa] at h'
      obtain ⟨c, h1, _⟩ := addAll_okE l _ _ h'
      cases h1
    | ok b =>
      rw [hfa] at h'
      exact ih (fun x hx => hf x (List.mem_cons_of_mem _ hx)) b q' h' (hf a (List.mem_cons_self ..) q b hfa hq)
theorem asP_bs {N : Nat} {C : Cx} (hC : BT N C.ts) {exp : Bool} {a b : PS × ByteArray} (h : asP C exp a = .ok b) (hq : BS N a.1) (ha : a.2.size ≤ N) : BS N b.1 ∧ b.2.size ≤ N := by
  unfold asP at h
  split at h
  · exact nameP_bs hC h (adv_bs hq)
  · split at h
    · cases h
    · cases h
      exact ⟨hq, ha⟩
theorem listG_bs {N : Nat} {C : Cx} (hC : BT N C.ts) {exp : Bool} (f : Nat) : ∀ (q : PS) (acc : List Ep) (a : PS × List Ep), listG C exp f q acc = .ok a → BS N q → (∀ x ∈ acc, OkEp N x) → BS N a.1 ∧ ∀ x ∈ a.2, OkEp N x := by
  induction f with
  | zero => intro q acc a h; cases h
  | succ f ih =>
    intro q acc a h hq hacc
    rw [listG] at h
    obtain ⟨b, h1, h2⟩ := bd_eq_ok h
    obtain ⟨c, h3, h4⟩ := bd_eq_ok h2
    obtain ⟨b1, b2⟩ := nameP_bs hC h1 hq
    obtain ⟨c1, c2⟩ := asP_bs hC h3 b1 b2
    have hm : ∀ x ∈ acc ++ [(⟨0, c.2, b.2, sNone⟩ : Ep)], OkEp N x := mem_more hacc ⟨c2, b2, Nat.zero_le _⟩
    split at h4
    · exact ih _ _ _ h4 (adv_bs c1) hm
    · obtain ⟨d, h5, h6⟩ := bd_eq_ok h4
      cases h6
      exact ⟨tokP_bs h5 c1, hm⟩
theorem listP_bs {N : Nat} {C : Cx} (hC : BT N C.ts) {exp : Bool} {q : PS} {a : PS × List Ep} (h : listP C exp q = .ok a) (hq : BS N q) : BS N a.1 ∧ ∀ x ∈ a.2, OkEp N x := by
  obtain ⟨b, h1, h2⟩ := bd_eq_ok h
  exact listG_bs hC _ _ _ _ h2 (tokP_bs h1 hq) fun x hx => by cases hx
theorem semi_bs {N : Nat} {C : Cx} (hC : BT N C.ts) {x : PR} {b : PS × ByteArray} (h : semiN C (tailS C x) = .ok b) : ∃ q, x = .ok q ∧ (BS N q → BS N b.1 ∧ b.2.size ≤ N) := by
  obtain ⟨a, h1, h2⟩ := bd_eq_ok h
  obtain ⟨c, h3, h4⟩ := bd_eq_ok h2
  obtain ⟨d, h5, h6⟩ := bd_eq_ok h1
  obtain ⟨e, h7, h8⟩ := bd_eq_ok h5
  cases h4
  refine ⟨e, h7, fun hq => ?_⟩
  obtain ⟨k1, k2⟩ := specP_bs hC h6 (tokP_bs h8 hq)
  exact ⟨tokP_bs h3 k1, k2⟩
theorem importP_bs {N : Nat} {C : Cx} (hC : BT N C.ts) (hN : 8 ≤ N) {q q' : PS} (h : importP C q = .ok q') (hq : BS N q) : BS N q' := by
  obtain ⟨q1, h1, h2⟩ := bd_eq_ok h
  have e1 := tokP_bs h1 hq
  split at h2
  · obtain ⟨a, h3, h4⟩ := bd_eq_ok h2
    obtain ⟨b, h5, h6⟩ := bd_eq_ok h4
    obtain ⟨l1, l2⟩ := listP_bs hC h3 e1
    obtain ⟨d, h9, h10⟩ := semi_bs hC h5
    cases h9
    obtain ⟨k1, k2⟩ := h10 l1
    exact addAll_bs _ (fun x hx p p' hp hb => addIm_bs hp hb ⟨k2, (l2 x hx).2.1, (l2 x hx).1⟩) _ _ h6 k1
  · split at h2
    · obtain ⟨a, h3, h4⟩ := bd_eq_ok h2
      obtain ⟨b, h5, h6⟩ := bd_eq_ok h4
      obtain ⟨c, h7, h8⟩ := bd_eq_ok h3
      obtain ⟨d, h9, h10⟩ := bd_eq_ok h7
      obtain ⟨n1, n2⟩ := nameP_bs hC h8 (tokP_bs h10 (tokP_bs h9 e1))
      obtain ⟨f, h11, h12⟩ := semi_bs hC h5
      cases h11
      obtain ⟨k1, k2⟩ := h12 n1
      exact addIm_bs h6 k1 ⟨k2, Nat.le_trans (show 1 ≤ 8 by omega) hN, n2⟩
    · split at h2
      · obtain ⟨a, h3, h4⟩ := bd_eq_ok h2
        obtain ⟨b, h5, h6⟩ := bd_eq_ok h4
        obtain ⟨n1, n2⟩ := nameP_bs hC h3 e1
        obtain ⟨f, h11, h12⟩ := semi_bs hC h5
        cases h11
        obtain ⟨k1, k2⟩ := h12 n1
        exact addIm_bs h6 k1 ⟨k2, Nat.le_trans (show 7 ≤ 8 by omega) hN, n2⟩
      · obtain ⟨a, h3, h4⟩ := bd_eq_ok h2
        exact tokP_bs h4 (specP_bs hC h3 e1).1
theorem letP_bs {N : Nat} {C : Cx} (hC : BT N C.ts) (hN : 8 ≤ N) {q : PS} {a : PS × ByteArray} (h : letP C q = .ok a) (hq : BS N q) : BS N a.1 ∧ a.2.size ≤ N := by
  obtain ⟨b, h1, h2⟩ := bd_eq_ok h
  obtain ⟨z, h1b, h2b⟩ := bd_eq_ok h2
  cases h2b
  obtain ⟨c, h3, h4⟩ := bd_eq_ok h1
  obtain ⟨d, h5, h6⟩ := bd_eq_ok h1b
  obtain ⟨f, h7, h8⟩ := bd_eq_ok h5
  obtain ⟨g, h9, h10⟩ := bd_eq_ok h7
  obtain ⟨n1, n2⟩ := nameP_bs hC h4 (tokP_bs h3 hq)
  exact ⟨addSt_bs h6 (tokP_bs h8 (pE_bs hC hN h10 (tokP_bs (show tokP C 4 cEq b.1 = .ok g from h9) n1))) n2, n2⟩
theorem fnP_bs {N : Nat} {C : Cx} (hC : BT N C.ts) (hN : 8 ≤ N) {q : PS} {a : PS × ByteArray} (h : fnP C q = .ok a) (hq : BS N q) : BS N a.1 ∧ a.2.size ≤ N := by
  obtain ⟨b, h1, h2⟩ := bd_eq_ok h
  obtain ⟨z, h1b, h2b⟩ := bd_eq_ok h2
  cases h2b
  obtain ⟨c, h3, h4⟩ := bd_eq_ok h1
  obtain ⟨d, h5, h6⟩ := bd_eq_ok h1b
  obtain ⟨f, h7, h8⟩ := bd_eq_ok h5
  obtain ⟨g, h9, h10⟩ := bd_eq_ok h7
  obtain ⟨i, h11, h12⟩ := bd_eq_ok h9
  obtain ⟨j, h13, h14⟩ := bd_eq_ok h11
  obtain ⟨k, h15, h16⟩ := bd_eq_ok h13
  obtain ⟨l, h17, h18⟩ := bd_eq_ok h15
  obtain ⟨n1, n2⟩ := nameP_bs hC h4 (tokP_bs h3 hq)
  exact ⟨addSt_bs h6 (tokP_bs h8 (tokP_bs h10 (pE_bs hC hN h12 (tokP_bs h14 (tokP_bs h16 (tokP_bs h18 (tokP_bs (show tokP C 4 cOpen b.1 = .ok l from h17) n1))))))) n2, n2⟩
theorem exportP_bs {N : Nat} {C : Cx} (hC : BT N C.ts) (hN : 8 ≤ N) {q q' : PS} (h : exportP C q = .ok q') (hq : BS N q) : BS N q' := by
  obtain ⟨q1, h1, h2⟩ := bd_eq_ok h
  have e1 := tokP_bs h1 hq
  split at h2
  · obtain ⟨a, h3, h4⟩ := bd_eq_ok h2
    obtain ⟨l1, l2⟩ := listP_bs hC h3 e1
    split at h4
    · obtain ⟨b, h5, h6⟩ := bd_eq_ok h4
      exact addAll_bs (f := fun e => addEp C (expLoc e)) _ (fun x hx p p' hp hb => addEp_bs (y := expLoc x) hp hb ⟨(l2 x hx).1, (l2 x hx).2.1, Nat.zero_le _⟩) _ _ h6 (tokP_bs h5 l1)
    · obtain ⟨b, h5, h6⟩ := bd_eq_ok h4
      obtain ⟨d, h9, h10⟩ := semi_bs hC h5
      cases h9
      obtain ⟨k1, k2⟩ := h10 l1
      exact addAll_bs (f := fun e => addEp C (expFrom b.2 e)) _ (fun x hx p p' hp hb => addEp_bs (y := expFrom b.2 x) hp hb ⟨(l2 x hx).1, (l2 x hx).2.1, k2⟩) _ _ h6 k1
  · split at h2
    · obtain ⟨b, h5, h6⟩ := bd_eq_ok h2
      obtain ⟨d, h9, h10⟩ := semi_bs hC h5
      obtain ⟨k1, k2⟩ := h10 (tokP_bs h9 e1)
      exact addEp_bs h6 k1 ⟨Nat.zero_le _, Nat.zero_le _, k2⟩
    · split at h2
      · obtain ⟨a, h3, h4⟩ := bd_eq_ok h2
        obtain ⟨b, h5, h6⟩ := bd_eq_ok h3
        obtain ⟨c, h7, h8⟩ := bd_eq_ok h5
        obtain ⟨d, h9, h10⟩ := bd_eq_ok h7
        exact addEp_bs h4 (addSt_bs h6 (tokP_bs h8 (pE_bs hC hN h10 (tokP_bs h9 e1))) hN) ⟨Nat.le_trans (show 7 ≤ 8 by omega) hN, hN, Nat.zero_le _⟩
      · split at h2
        · obtain ⟨a, h3, h4⟩ := bd_eq_ok h2
          obtain ⟨k1, k2⟩ := letP_bs hC hN h3 e1
          exact addEp_bs h4 k1 ⟨k2, k2, Nat.zero_le _⟩
        · split at h2
          · obtain ⟨a, h3, h4⟩ := bd_eq_ok h2
            obtain ⟨k1, k2⟩ := fnP_bs hC hN h3 e1
            exact addEp_bs h4 k1 ⟨k2, k2, Nat.zero_le _⟩
          · cases h2
theorem stmt_bs {N : Nat} {C : Cx} (hC : BT N C.ts) (hN : 8 ≤ N) {s : ByteArray} {k : Int} {q q' : PS} (h : bd (bd (bd (tokP C 1 s q) (pE C .sum 0)) (tokP C 4 cSemi)) (addSt C k sNone) = .ok q') (hq : BS N q) : BS N q' := by
  obtain ⟨a, h1, h2⟩ := bd_eq_ok h
  obtain ⟨b, h3, h4⟩ := bd_eq_ok h1
  obtain ⟨c, h5, h6⟩ := bd_eq_ok h3
  exact addSt_bs h2 (tokP_bs h4 (pE_bs hC hN h6 (tokP_bs h5 hq))) (Nat.zero_le _)
theorem itemP_bs {N : Nat} {C : Cx} (hC : BT N C.ts) (hN : 8 ≤ N) {q q' : PS} (h : itemP C q = .ok q') (hq : BS N q) : BS N q' := by
  unfold itemP at h
  split at h
  · exact importP_bs hC hN h hq
  · split at h
    · exact exportP_bs hC hN h hq
    · split at h
      · obtain ⟨a, h1, h2⟩ := bd_eq_ok h
        cases h2
        exact (letP_bs hC hN h1 hq).1
      · split at h
        · obtain ⟨a, h1, h2⟩ := bd_eq_ok h
          cases h2
          exact (fnP_bs hC hN h1 hq).1
        · split at h
          · obtain ⟨a, h1, h2⟩ := bd_eq_ok h
            obtain ⟨b, h3, h4⟩ := bd_eq_ok h1
            obtain ⟨c, h5, h6⟩ := bd_eq_ok h3
            obtain ⟨d, h7, h8⟩ := bd_eq_ok h5
            obtain ⟨e, h9, h10⟩ := bd_eq_ok h7
            exact addSt_bs h2 (tokP_bs h4 (tokP_bs h6 (pE_bs hC hN h8 (tokP_bs h10 (tokP_bs h9 hq))))) (Nat.zero_le _)
          · split at h
            · exact stmt_bs hC hN h hq
            · split at h
              · exact stmt_bs hC hN h hq
              · obtain ⟨a, h1, h2⟩ := bd_eq_ok h
                obtain ⟨b, h3, h4⟩ := bd_eq_ok h2
                obtain ⟨c, h5, h6⟩ := bd_eq_ok h3
                obtain ⟨d, h7, h8⟩ := bd_eq_ok h5
                obtain ⟨n1, n2⟩ := nameP_bs hC h1 hq
                exact addSt_bs h4 (tokP_bs h6 (pE_bs hC hN h8 (tokP_bs h7 n1))) n2
theorem itemsG_bs {N : Nat} {C : Cx} (hC : BT N C.ts) (hN : 8 ≤ N) (f : Nat) : ∀ (q q' : PS), itemsG C f q = .ok q' → BS N q → BS N q' := by
  induction f with
  | zero => intro q q' h; cases h
  | succ f ih =>
    intro q q' h hq
    rw [itemsG] at h
    split at h
    · obtain ⟨a, h1, h2⟩ := bd_eq_ok h
      exact ih _ _ h2 (itemP_bs hC hN h1 hq)
    · cases h
      exact hq
theorem parse_bs {s : ByteArray} {scr : Bool} {q : PS} {N : Nat} (h : ParseR s scr (.ok q)) (hs : s.size ≤ N) (hN : 8 ≤ N) : BS N q := by
  obtain ⟨r, ⟨a, _, hl⟩, e⟩ := h
  cases r with
  | error p => cases e
  | ok ts =>
    refine itemsG_bs (C := ⟨ts, s.size, scr⟩) (fun t ht => ?_) hN _ _ _ e.symm ⟨?_, ?_, ?_, ?_, ?_, ?_⟩
    · have := lx_bt hl ts rfl t ht
      exact ⟨Nat.le_trans this.1 hs, this.2⟩
    all_goals (intro x hx; cases hx)
end Go.Proofs.Ytdbpknmoacjodaa
namespace Go.Proofs.Ytdbpknmoacjodaa
open Go.RowKit Go.PlainAid

abbrev dN : List UInt8 := [42, 100, 101, 102, 97, 117, 108, 116]
def decB (s : Sm) : Bool := (s.kind == 1 || s.kind == 2) && !(s.name.toList == dN)
def stN (l : List Sm) : List ByteArray := (l.filter decB).map (·.name)
def imN (l : List Im) : List ByteArray := l.map (·.loc)
def declS (m : Md) : List ByteArray := stN m.st ++ imN m.im
end Go.Proofs.Ytdbpknmoacjodaa
namespace Go.Proofs.Ytdbpknmoacjodaa
open Go.RowKit Go.PlainAid

def KG {α : Type} (R : PS → PS → Prop) (p : α → PS) (x : Except Nat α) (q : PS) : Prop := ∀ a, x = .ok a → R q (p a)
def StOk (C : Cx) (k : Int) (n : ByteArray) : Prop := n = sNone ∨ k = 1 ∨ ∃ i o, plainB C i o = true ∧ n = (tokAt C i).text
def EpFit (x : Ep) : Prop := x.kind = 1 → x.spec = sNone
structure Kept (C : Cx) (R : PS → PS → Prop) : Prop where
  rfl' : ∀ q, R q q
  tr : ∀ {a b c}, R a b → R b c → R a c
  adv : ∀ q, R q (adv q)
  ex : ∀ x q, KG R id (addEx C x q) q
  im : ∀ x q, KG R id (addIm C x q) q
  ep : ∀ x q, EpFit x → KG R id (addEp C x q) q
  sp : ∀ q, KG R Prod.fst (specP C q) q
  st : ∀ k n q, StOk C k n → KG R id (addSt C k n q) q
theorem KG.bd {C : Cx} {R : PS → PS → Prop} {α β : Type} (H : Kept C R) {p : α → PS} {r : β → PS} {x : Except Nat α} {f : α → Except Nat β} {q : PS} (h : KG R p x q) (k : ∀ a, x = .ok a → KG R r (f a) (p a)) : KG R r (bd x f) q := by
  intro b hb
  obtain ⟨a, h1, h2⟩ := bd_eq_ok hb
  exact H.tr (h a h1) (k a h1 b h2)
theorem KG.after {C : Cx} {R : PS → PS → Prop} (H : Kept C R) {α : Type} {r : α → PS} {y : Except Nat α} {q q' : PS} (h : R q q') (k : KG R r y q') : KG R r y q := fun b hb => H.tr h (k b hb)
theorem KG.ok {C : Cx} {R : PS → PS → Prop} (H : Kept C R) {α : Type} {p : α → PS} {a : α} : KG R p (.ok a) (p a) := fun b hb => by cases hb; exact H.rfl' _
theorem KG.err {R : PS → PS → Prop} {α : Type} {p : α → PS} {e : Nat} {q : PS} : KG R p (.error e) q := fun b hb => by cases hb
theorem kg_tok {C : Cx} {R : PS → PS → Prop} (H : Kept C R) (k : Int) (x : ByteArray) (q : PS) : KG R id (tokP C k x q) q := fun a h => by obtain ⟨rfl, _⟩ := tokP_ok h; exact H.adv q
theorem kg_name {C : Cx} {R : PS → PS → Prop} (H : Kept C R) (o : Bool) (q : PS) : KG R Prod.fst (nameP C o q) q := fun a h => by obtain ⟨rfl, _⟩ := nameP_ok h; exact H.adv q
theorem kg_tail {C : Cx} {R : PS → PS → Prop} (H : Kept C R) (n : ByteArray) (q : PS) : KG R id (tailP C n q) q := by
  unfold tailP
  split
  · exact .bd H (.bd H (kg_tok H _ _ _) fun _ _ => kg_tok H _ _ _) fun _ _ => H.ex _ _
  · exact H.ex _ _
theorem kg_mem {C : Cx} {R : PS → PS → Prop} (H : Kept C R) (n f : ByteArray) (q : PS) : KG R id (memP C n f q) q := by
  unfold memP
  split
  · exact .bd H (.bd H (kg_tok H _ _ _) fun _ _ => kg_tok H _ _ _) fun _ _ => H.ex _ _
  · exact H.ex _ _
theorem kg_ev {C : Cx} {R : PS → PS → Prop} (H : Kept C R) (f : Nat) : ∀ (nt : NT) (d : Nat) (q : PS), KG R id (ev C f nt d q) q := by
  induction f with
  | zero => intro nt d q; cases nt using NT.elim <;> exact .err
  | succ f ih =>
    intro nt d q
    cases nt using NT.elim <;> rw [ev]
    · exact .bd H (ih _ _ _) fun _ _ => ih _ _ _
    · split
      · exact .bd H (.bd H (.after H (H.adv q) (ih _ _ _)) fun _ _ => H.ex _ _) fun _ _ => ih _ _ _
      · exact .ok (p := id) H
    · exact .bd H (ih _ _ _) fun _ _ => ih _ _ _
    · split
      · exact .bd H (.bd H (.after H (H.adv q) (ih _ _ _)) fun _ _ => H.ex _ _) fun _ _ => ih _ _ _
      · exact .ok (p := id) H
    · split
      · exact .after H (H.adv q) (H.ex _ _)
      · split
        · split
          · exact .err
          · exact .bd H (.after H (H.adv q) (ih _ _ _)) fun _ _ => kg_tok H _ _ _
        · split
          · exact .after H (H.adv q) (kg_tail H _ _)
          · refine .bd H (kg_name H _ _) fun a _ => ?_
            split
            · exact .bd H (.after H (H.adv _) (kg_name H _ _)) fun _ _ => kg_mem H _ _ _
            · exact kg_tail H _ _
theorem kg_E {C : Cx} {R : PS → PS → Prop} (H : Kept C R) (nt : NT) (d : Nat) (q : PS) : KG R id (pE C nt d q) q := kg_ev H _ _ _ _
theorem kg_withN {C : Cx} {R : PS → PS → Prop} (H : Kept C R) {y : PRN} {F : PR → ByteArray → PR} {q : PS} (h : KG R Prod.fst y q) (k : ∀ a, y = .ok a → KG R id (F (.ok a.1) a.2) a.1) : KG R Prod.fst (withN y F) q :=
  .bd H h fun a ha => .bd (r := Prod.fst) H (k a ha) fun b _ => .ok (p := Prod.fst) (a := (b, a.2)) H
theorem kg_let {C : Cx} {R : PS → PS → Prop} (H : Kept C R) (q : PS) : KG R Prod.fst (letP C q) q :=
  kg_withN H (.bd H (kg_tok H _ _ _) fun _ _ => kg_name H _ _) fun _ _ => .bd H (.bd H (.bd H (.bd (p := id) H (.ok (p := id) H) fun _ _ => kg_tok H _ _ _) fun _ _ => kg_E H _ _ _) fun _ _ => kg_tok H _ _ _) fun _ _ => H.st _ _ _ (.inr (.inl rfl))
theorem name_ok {C : Cx} {k : Int} {o : Bool} {q : PS} {a : PS × ByteArray} (h : nameP C o q = .ok a) : StOk C k a.2 := by
  obtain ⟨rfl, hp⟩ := nameP_ok h
  exact .inr (.inr ⟨_, _, hp, rfl⟩)
theorem kg_fn {C : Cx} {R : PS → PS → Prop} (H : Kept C R) (q : PS) : KG R Prod.fst (fnP C q) q :=
  kg_withN H (.bd H (kg_tok H _ _ _) fun _ _ => kg_name H _ _) fun a ha => .bd H (.bd H (.bd H (.bd H (.bd H (.bd H (.bd H (.bd (p := id) H (.ok (p := id) H) fun _ _ => kg_tok H _ _ _) fun _ _ => kg_tok H _ _ _) fun _ _ => kg_tok H _ _ _) fun _ _ => kg_tok H _ _ _) fun _ _ => kg_E H _ _ _) fun _ _ => kg_tok H _ _ _) fun _ _ => kg_tok H _ _ _) fun _ _ => H.st _ _ _ (by
    obtain ⟨b, _, hb⟩ := bd_eq_ok ha
    exact name_ok hb)
theorem kg_as {C : Cx} {R : PS → PS → Prop} (H : Kept C R) (e : Bool) (a : PS × ByteArray) : KG R Prod.fst (asP C e a) a.1 := by
  unfold asP
  split
  · exact .after H (H.adv _) (kg_name H _ _)
  · split
    · exact .err
    · exact .ok (p := Prod.fst) H
theorem kg_listG {C : Cx} {R : PS → PS → Prop} (H : Kept C R) (e : Bool) (f : Nat) : ∀ (q : PS) (acc : List Ep), KG R Prod.fst (listG C e f q acc) q := by
  induction f with
  | zero => intro q acc; exact .err
  | succ f ih =>
    intro q acc
    rw [listG]
    refine .bd H (kg_name H _ _) fun a _ => .bd H (kg_as H _ _) fun b _ => ?_
    split
    · exact .after H (H.adv _) (ih _ _)
    · exact .bd (r := Prod.fst) H (kg_tok H _ _ _) fun c _ => .ok (p := Prod.fst) (a := (c, _)) H
theorem kg_list {C : Cx} {R : PS → PS → Prop} (H : Kept C R) (e : Bool) (q : PS) : KG R Prod.fst (listP C e q) q := .bd H (kg_tok H _ _ _) fun _ _ => kg_listG H _ _ _ _
theorem kg_semi {C : Cx} {R : PS → PS → Prop} (H : Kept C R) {x : PR} {q : PS} (h : KG R id x q) : KG R Prod.fst (semiN C (tailS C x)) q :=
  .bd H (.bd H (.bd H h fun _ _ => kg_tok H _ _ _) fun _ _ => H.sp _) fun a _ => .bd (r := Prod.fst) H (kg_tok H _ _ _) fun c _ => .ok (p := Prod.fst) (a := (c, a.2)) H
theorem kg_all {C : Cx} {R : PS → PS → Prop} (H : Kept C R) {α : Type} {f : α → PS → PR} (hf : ∀ a q, KG R id (f a q) q) (l : List α) : ∀ (x : PR) (q : PS), KG R id x q → KG R id (addAll f l x) q := by
  induction l with
  | nil => intro x q h; exact h
  | cons a l ih => intro x q h; exact ih _ _ (.bd H h fun _ _ => hf _ _)
theorem kg_import {C : Cx} {R : PS → PS → Prop} (H : Kept C R) (q : PS) : KG R id (importP C q) q := by
  refine .bd H (kg_tok H _ _ _) fun q1 _ => ?_
  split
  · exact .bd H (kg_list H _ _) fun a _ => .bd H (kg_semi H (.ok (p := id) H)) fun b _ => kg_all H (fun _ _ => H.im _ _) _ _ _ (.ok (p := id) H)
  · split
    · exact .bd H (.bd H (.bd H (kg_tok H _ _ _) fun _ _ => kg_tok H _ _ _) fun _ _ => kg_name H _ _) fun a _ => .bd H (kg_semi H (.ok (p := id) H)) fun _ _ => H.im _ _
    · split
      · exact .bd H (kg_name H _ _) fun a _ => .bd H (kg_semi H (.ok (p := id) H)) fun _ _ => H.im _ _
      · exact .bd H (H.sp _) fun _ _ => kg_tok H _ _ _
theorem kg_export {C : Cx} {R : PS → PS → Prop} (H : Kept C R) (q : PS) : KG R id (exportP C q) q := by
  refine .bd H (kg_tok H _ _ _) fun q1 _ => ?_
  split
  · refine .bd H (kg_list H _ _) fun a _ => ?_
    split
    · exact .bd H (kg_tok H _ _ _) fun _ _ => kg_all H (fun _ _ => H.ep _ _ (by first | exact fun _ => rfl | exact fun h => absurd (show (2 : Int) = 1 from h) (by decide) | exact fun h => absurd (show (3 : Int) = 1 from h) (by decide))) _ _ _ (.ok (p := id) H)
    · exact .bd H (kg_semi H (.ok (p := id) H)) fun _ _ => kg_all H (fun _ _ => H.ep _ _ (by first | exact fun _ => rfl | exact fun h => absurd (show (2 : Int) = 1 from h) (by decide) | exact fun h => absurd (show (3 : Int) = 1 from h) (by decide))) _ _ _ (.ok (p := id) H)
  · split
    · exact .bd H (kg_semi H (kg_tok H _ _ _)) fun _ _ => H.ep _ _ (by first | exact fun _ => rfl | exact fun h => absurd (show (2 : Int) = 1 from h) (by decide) | exact fun h => absurd (show (3 : Int) = 1 from h) (by decide))
    · split
      · exact .bd H (.bd H (.bd H (.bd H (kg_tok H _ _ _) fun _ _ => kg_E H _ _ _) fun _ _ => kg_tok H _ _ _) fun _ _ => H.st _ _ _ (.inr (.inl rfl))) fun _ _ => H.ep _ _ (by first | exact fun _ => rfl | exact fun h => absurd (show (2 : Int) = 1 from h) (by decide) | exact fun h => absurd (show (3 : Int) = 1 from h) (by decide))
      · split
        · exact .bd H (kg_let H _) fun _ _ => H.ep _ _ (by first | exact fun _ => rfl | exact fun h => absurd (show (2 : Int) = 1 from h) (by decide) | exact fun h => absurd (show (3 : Int) = 1 from h) (by decide))
        · split
          · exact .bd H (kg_fn H _) fun _ _ => H.ep _ _ (by first | exact fun _ => rfl | exact fun h => absurd (show (2 : Int) = 1 from h) (by decide) | exact fun h => absurd (show (3 : Int) = 1 from h) (by decide))
          · exact .err
theorem kg_stmt {C : Cx} {R : PS → PS → Prop} (H : Kept C R) (s : ByteArray) (k : Int) (q : PS) : KG R id (bd (bd (bd (tokP C 1 s q) (pE C .sum 0)) (tokP C 4 cSemi)) (addSt C k sNone)) q :=
  .bd H (.bd H (.bd H (kg_tok H _ _ _) fun _ _ => kg_E H _ _ _) fun _ _ => kg_tok H _ _ _) fun _ _ => H.st _ _ _ (.inl rfl)
theorem kg_item {C : Cx} {R : PS → PS → Prop} (H : Kept C R) (q : PS) : KG R id (itemP C q) q := by
  unfold itemP
  split
  · exact kg_import H q
  · split
    · exact kg_export H q
    · split
      · exact .bd H (kg_let H q) fun a _ => .ok (p := id) H
      · split
        · exact .bd H (kg_fn H q) fun a _ => .ok (p := id) H
        · split
          · exact .bd H (.bd H (.bd H (.bd H (.bd H (kg_tok H _ _ _) fun _ _ => kg_tok H _ _ _) fun _ _ => kg_E H _ _ _) fun _ _ => kg_tok H _ _ _) fun _ _ => kg_tok H _ _ _) fun _ _ => H.st _ _ _ (.inl rfl)
          · split
            · exact kg_stmt H _ _ _
            · split
              · exact kg_stmt H _ _ _
              · exact .bd H (kg_name H _ _) fun a ha => .bd H (.bd H (.bd H (kg_tok H _ _ _) fun _ _ => kg_E H _ _ _) fun _ _ => kg_tok H _ _ _) fun _ _ => H.st _ _ _ (name_ok ha)
theorem kg_items {C : Cx} {R : PS → PS → Prop} (H : Kept C R) (f : Nat) : ∀ q, KG R id (itemsG C f q) q := by
  induction f with
  | zero => intro q; exact .err
  | succ f ih =>
    intro q
    rw [itemsG]
    split
    · exact .bd H (kg_item H q) fun _ _ => ih _
    · exact .ok (p := id) H
theorem parse_kept {R : PS → PS → Prop} {s : ByteArray} {scr : Bool} {q : PS} (h : ParseR s scr (.ok q)) (H : ∀ ts, LexR s scr (.ok ts) → Kept ⟨ts, s.size, scr⟩ R) : R startP q := by
  obtain ⟨r, hr, e⟩ := h
  cases r with
  | error p => cases e
  | ok ts => exact kg_items (H ts hr) _ startP q e.symm
theorem hasS_not {l : List ByteArray} {x : ByteArray} (h : ¬ hasS l x = true) : x ∉ l := fun hm => h (List.any_eq_true.2 ⟨x, hm, beq_self_eq_true _⟩)
theorem parse_nd {s : ByteArray} {scr : Bool} {q : PS} (h : ParseR s scr (.ok q)) : q.rq.Nodup := by
  refine parse_kept (R := fun a b => a.rq.Nodup → b.rq.Nodup) h (fun ts _ => ?_) List.nodup_nil
  refine ⟨fun _ h => h, fun h k x => k (h x), fun _ h => h, ?_, ?_, ?_, ?_, ?_⟩
  · intro x q a h hn
    obtain ⟨rfl, _⟩ := addEx_ok h
    exact hn
  · intro x q a h hn
    unfold addIm at h
    split at h <;> cases h
    exact hn
  · intro x q _ a h hn
    unfold addEp at h
    split at h
    · cases h
    · split at h <;> cases h <;> exact hn
  · intro q a h hn
    unfold specP at h
    split at h
    · split at h
      · cases h; exact hn
      · next hh =>
        split at h <;> cases h
        show (q.rq ++ [_]).Nodup
        rw [List.nodup_append]
        refine ⟨hn, by simp, fun a ha b hb e => hasS_not hh ?_⟩
        rw [List.mem_singleton.1 hb] at e
        exact e ▸ ha
    · cases h
  · intro k n q _ a h hn
    unfold addSt at h
    split at h <;> cases h
    exact hn
theorem parse_eps {s : ByteArray} {scr : Bool} {q : PS} (h : ParseR s scr (.ok q)) : ∀ x ∈ q.ep ++ q.la, EpFit x := by
  refine parse_kept (R := fun a b => (∀ x ∈ a.ep ++ a.la, EpFit x) → ∀ x ∈ b.ep ++ b.la, EpFit x) h (fun ts _ => ?_) (fun x hx => by cases hx)
  refine ⟨fun _ h => h, fun h k x => k (h x), fun _ h => h, ?_, ?_, ?_, ?_, ?_⟩
  · intro x q a h hn
    obtain ⟨rfl, _⟩ := addEx_ok h
    exact hn
  · intro x q a h hn
    unfold addIm at h
    split at h <;> cases h
    exact hn
  · intro x q hx a h hn
    unfold addEp at h
    split at h
    · cases h
    · split at h <;> cases h
      all_goals
        intro y hy
        simp only [id, List.mem_append, List.mem_singleton] at hy hn
        rcases hy with hy | hy
        · first
          | exact hn y (.inl hy)
          | (rcases hy with hy | rfl
             · exact hn y (.inl hy)
             · exact hx)
        · first
          | exact hn y (.inr hy)
          | (rcases hy with hy | rfl
             · exact hn y (.inr hy)
             · exact hx)
  · intro q a h hn
    unfold specP at h
    split at h
    · split at h
      · cases h; exact hn
      · split at h <;> cases h
        exact hn
    · cases h
  · intro k n q _ a h hn
    unfold addSt at h
    split at h <;> cases h
    exact hn
end Go.Proofs.Ytdbpknmoacjodaa
namespace Go.Proofs.Ytdbpknmoacjodaa
open Go.RowKit Go.PlainAid

def FairS (st : List Sm) : Prop := ∀ s ∈ st, s.name.toList = dN → s.kind = 1
def FairT (ts : List Tk) : Prop := ∀ t ∈ ts, t.kind = 1 → t.text.toList ≠ dN
theorem tok_fair {s : ByteArray} {scr : Bool} {a e : Nat} {t : Tk} (ha : a < s.size) (h : Tok s scr a t e) : t.kind = 1 → t.text.toList ≠ dN := by
  have he := (tok_end ha h).1
  have he2 := (tok_end ha h).2.1
  cases h using Tok.elim with
  | name h1 _ =>
    intro _ k
    have k0 : bt (s.extract a e) 0 = 42 := by
      rw [bt_list, ← Lib.toList_data, k]
      rfl
    have hx : bt (s.extract a e) 0 = bt s a := by
      rw [bt_list, bt_list, ByteArray.data_extract]
      simp only [List.getD, List.getElem?_map, Array.getElem?_toList, Array.getElem?_extract]
      rw [if_pos (by have : s.data.size = s.size := rfl; omega), Nat.add_zero]
    rw [← hx, k0] at h1
    cases scr <;> revert h1 <;> decide
  | num _ _ => intro k; cases k
  | str _ _ => intro k; cases k
  | sign _ => intro k; cases k
theorem lx_fair {s : ByteArray} {scr : Bool} {a n : Nat} {r : Except Nat (List Tk)} (h : Lx s scr a n r) : ∀ ts, r = .ok ts → FairT ts := by
  induction h using Lx.ind with
  | done => intro ts k; cases k; intro t ht; cases ht
  | bad _ _ => intro ts k; cases k
  | @tok a n e b t r h hn ht hs hr ih =>
    intro ts k
    cases r with
    | error p => cases k
    | ok l =>
      cases k
      intro u hu
      rcases List.mem_cons.1 hu with rfl | hu
      · exact tok_fair h ht
      · exact ih l rfl u hu
theorem plain_fair {C : Cx} (hC : FairT C.ts) {i : Nat} {o : Bool} (h : plainB C i o = true) : (tokAt C i).text.toList ≠ dN := by
  have hi := plain_lt h
  have e : tokAt C i = C.ts[i] := by simp [tokAt, List.getD, List.getElem?_eq_getElem hi]
  simp only [plainB, Bool.and_eq_true, beq_iff_eq] at h
  rw [e] at h ⊢
  exact hC _ (List.getElem_mem hi) h.1
theorem none_not {k : Int} (h : sNone.toList = dN) : k = 1 := by
  rw [Lib.toList_data] at h
  cases h
theorem parse_fair {s : ByteArray} {scr : Bool} {q : PS} (h : ParseR s scr (.ok q)) : FairS q.st := by
  refine parse_kept (R := fun a b => FairS a.st → FairS b.st) h (fun ts hl => ?_) (fun s hs => by cases hs)
  obtain ⟨_, _, hl⟩ := hl
  have hC := lx_fair hl ts rfl
  refine ⟨fun _ h => h, fun h k x => k (h x), fun _ h => h, ?_, ?_, ?_, ?_, ?_⟩
  · intro x q a h hn
    obtain ⟨rfl, _⟩ := addEx_ok h
    exact hn
  · intro x q a h hn
    unfold addIm at h
    split at h <;> cases h
    exact hn
  · intro x q _ a h hn
    unfold addEp at h
    split at h
    · cases h
    · split at h <;> cases h <;> exact hn
  · intro q a h hn
    unfold specP at h
    split at h
    · split at h
      · cases h; exact hn
      · split at h <;> cases h
        exact hn
    · cases h
  · intro k n q hk a h hn
    unfold addSt at h
    split at h <;> cases h
    intro s hs
    rcases List.mem_append.1 hs with hs | hs
    · exact hn s hs
    · rw [List.mem_singleton.1 hs]
      intro hd
      rcases hk with rfl | hk | ⟨i, o, hp, rfl⟩
      · exact none_not hd
      · exact hk
      · exact absurd hd (plain_fair hC hp)
end Go.Proofs.Ytdbpknmoacjodaa
