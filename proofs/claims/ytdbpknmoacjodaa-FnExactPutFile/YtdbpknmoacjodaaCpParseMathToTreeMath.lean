/-
  Programs, as plain functions: what a row of tokens means. No program is spoken of.
  Texts of programs, as plain functions. No program is spoken of.
  An expression that is used once: the texts of all statements' expressions are together no longer than what all expressions cost. No program is spoken of.
-/
import Derived.Test.YtdbpknmoacjodaaCpSpecPutFileToMarkRow
namespace Go.Proofs.Ytdbpknmoacjodaa
open Go.RowKit Go.PlainAid

structure Ex where
  kind : Int
  num : Int
  name : ByteArray
  field : ByteArray
  l : Int
  r : Int
structure Sm where
  kind : Int
  name : ByteArray
  expr : Int
structure Im where
  spec : ByteArray
  first : ByteArray
  loc : ByteArray
structure Ep where
  kind : Int
  name : ByteArray
  loc : ByteArray
  spec : ByteArray
structure Cx where
  ts : List Tk
  fin : Nat
  scr : Bool
structure PS where
  pos : Nat
  rq : List ByteArray
  im : List Im
  ep : List Ep
  st : List Sm
  ex : List Ex
  la : List Ep
abbrev PR := Except Nat PS

abbrev sImport : ByteArray := { data := #[105, 109, 112, 111, 114, 116] }
abbrev sExport : ByteArray := { data := #[101, 120, 112, 111, 114, 116] }
abbrev sDefault : ByteArray := { data := #[100, 101, 102, 97, 117, 108, 116] }
abbrev sLet : ByteArray := { data := #[108, 101, 116] }
abbrev sFunction : ByteArray := { data := #[102, 117, 110, 99, 116, 105, 111, 110] }
abbrev sReturn : ByteArray := { data := #[114, 101, 116, 117, 114, 110] }
abbrev sPrint : ByteArray := { data := #[112, 114, 105, 110, 116] }
abbrev sThrow : ByteArray := { data := #[116, 104, 114, 111, 119] }
abbrev sFail : ByteArray := { data := #[102, 97, 105, 108] }
abbrev sUndef : ByteArray := { data := #[117, 110, 100, 101, 102] }
abbrev sAs : ByteArray := { data := #[97, 115] }
abbrev sFrom : ByteArray := { data := #[102, 114, 111, 109] }
abbrev sDefName : ByteArray := { data := #[42, 100, 101, 102, 97, 117, 108, 116] }
abbrev cOpen : ByteArray := { data := #[40] }
abbrev cShut : ByteArray := { data := #[41] }
abbrev cStar : ByteArray := { data := #[42] }
abbrev cPlus : ByteArray := { data := #[43] }
abbrev cComma : ByteArray := { data := #[44] }
abbrev cMinus : ByteArray := { data := #[45] }
abbrev cPoint : ByteArray := { data := #[46] }
abbrev cSemi : ByteArray := { data := #[59] }
abbrev cEq : ByteArray := { data := #[61] }
abbrev cLeft : ByteArray := { data := #[123] }
abbrev cRight : ByteArray := { data := #[125] }

def bd {α β : Type} (x : Except Nat α) (f : α → Except Nat β) : Except Nat β :=
  match x with
  | .ok a => f a
  | .error e => .error e
theorem bd_ok {α β : Type} (a : α) (f : α → Except Nat β) : bd (.ok a) f = f a := rfl
theorem bd_error {α β : Type} (e : Nat) (f : α → Except Nat β) : bd (.error e) f = .error e := rfl
theorem bd_bd {α β γ : Type} (x : Except Nat α) (f : α → Except Nat β) (g : β → Except Nat γ) : bd (bd x f) g = bd x fun a => bd (f a) g := by cases x <;> rfl
theorem bd_congr {α β : Type} {x : Except Nat α} {f g : α → Except Nat β} (h : ∀ a, x = .ok a → f a = g a) : bd x f = bd x g := by
  cases x with
  | ok a => exact h a rfl
  | error e => rfl
theorem bd_eq_ok {α β : Type} {x : Except Nat α} {f : α → Except Nat β} {b : β} (h : bd x f = .ok b) : ∃ a, x = .ok a ∧ f a = .ok b := by
  cases x with
  | ok a => exact ⟨a, rfl, h⟩
  | error e => cases h

def tokAt (C : Cx) (i : Nat) : Tk := C.ts.getD i ⟨0, sNone, 0, C.fin⟩
def here (C : Cx) (i : Nat) : Nat := (tokAt C i).pos
def isT (C : Cx) (i : Nat) (k : Int) (x : ByteArray) : Bool := ((tokAt C i).kind == k) && ((tokAt C i).text.toList == x.toList)
def adv (q : PS) : PS := { q with pos := q.pos + 1 }
def tokP (C : Cx) (k : Int) (x : ByteArray) (q : PS) : PR := if isT C q.pos k x then .ok (adv q) else .error (here C q.pos)
def resB (x : ByteArray) (scr : Bool) : Bool :=
  x.toList == [105, 109, 112, 111, 114, 116] || x.toList == [101, 120, 112, 111, 114, 116] || x.toList == [100, 101, 102, 97, 117, 108, 116] || x.toList == [108, 101, 116] || x.toList == [102, 117, 110, 99, 116, 105, 111, 110] || x.toList == [114, 101, 116, 117, 114, 110] || x.toList == [112, 114, 105, 110, 116] || x.toList == [116, 104, 114, 111, 119]
    || ((x.toList == [102, 97, 105, 108] || x.toList == [117, 110, 100, 101, 102]) && scr)
def plainB (C : Cx) (i : Nat) (o : Bool) : Bool := ((tokAt C i).kind == 1) && (!resB (tokAt C i).text C.scr || (o && ((tokAt C i).text.toList == [100, 101, 102, 97, 117, 108, 116])))
def nameP (C : Cx) (o : Bool) (q : PS) : Except Nat (PS × ByteArray) := if plainB C q.pos o then .ok (adv q, (tokAt C q.pos).text) else .error (here C q.pos)
def hasS (l : List ByteArray) (x : ByteArray) : Bool := l.any fun y => y.toList == x.toList
def specP (C : Cx) (q : PS) : Except Nat (PS × ByteArray) :=
  if (tokAt C q.pos).kind == 3 then
    if hasS q.rq (tokAt C q.pos).text then .ok (adv q, (tokAt C q.pos).text)
    else if 40 ≤ q.rq.length then .error (here C q.pos)
    else .ok ({ adv q with rq := q.rq ++ [(tokAt C q.pos).text] }, (tokAt C q.pos).text)
  else .error (here C q.pos)
def addIm (C : Cx) (x : Im) (q : PS) : PR := if 40 ≤ q.im.length then .error (here C (q.pos - 1)) else .ok { q with im := q.im ++ [x] }
def addEp (C : Cx) (x : Ep) (q : PS) : PR :=
  if 40 ≤ q.ep.length + q.la.length then .error (here C (q.pos - 1))
  else if x.loc.toList == [42, 100, 101, 102, 97, 117, 108, 116] then .ok { q with la := q.la ++ [x] } else .ok { q with ep := q.ep ++ [x] }
def addSt (C : Cx) (k : Int) (n : ByteArray) (q : PS) : PR := if 80 ≤ q.st.length then .error (here C (q.pos - 1)) else .ok { q with st := q.st ++ [⟨k, n, (q.ex.length : Int) - 1⟩] }
def addEx (C : Cx) (x : Ex) (q : PS) : PR := if 300 ≤ q.ex.length then .error (here C (q.pos - 1)) else .ok { q with ex := q.ex ++ [x] }
def tailP (C : Cx) (n : ByteArray) (q : PS) : PR :=
  if isT C q.pos 4 cOpen then bd (bd (tokP C 4 cOpen q) (tokP C 4 cShut)) (addEx C ⟨3, 0, n, sNone, 0, 0⟩) else addEx C ⟨2, 0, n, sNone, 0, 0⟩ q
def memP (C : Cx) (n f : ByteArray) (q : PS) : PR :=
  if isT C q.pos 4 cOpen then bd (bd (tokP C 4 cOpen q) (tokP C 4 cShut)) (addEx C ⟨5, 0, n, f, 0, 0⟩) else addEx C ⟨4, 0, n, f, 0, 0⟩ q

abbrev NT : Type := Option (Option (Option (Option Unit)))
abbrev NT.sum : NT := none
abbrev NT.sumT : NT := some none
abbrev NT.prod : NT := some (some none)
abbrev NT.prodT : NT := some (some (some none))
abbrev NT.part : NT := some (some (some (some ())))
theorem NT.elim {motive : NT → Prop} (nt : NT) (sum : motive .sum) (sumT : motive .sumT) (prod : motive .prod) (prodT : motive .prodT) (part : motive .part) : motive nt :=
  match nt with
  | none => sum
  | some none => sumT
  | some (some none) => prod
  | some (some (some none)) => prodT
  | some (some (some (some ()))) => part
def kindPM (C : Cx) (i : Nat) : Int := if isT C i 4 cMinus then 7 else 6
def ev (C : Cx) : Nat → NT → Nat → PS → PR
  | 0, _, _, _ => .error 0
  | f + 1, none, d, q => bd (ev C f .prod d q) (ev C f .sumT d)
  | f + 1, some none, d, q =>
    if isT C q.pos 4 cPlus || isT C q.pos 4 cMinus then
      bd (bd (ev C f .prod d (adv q)) fun q' => addEx C ⟨kindPM C q.pos, 0, sNone, sNone, (q.ex.length : Int) - 1, (q'.ex.length : Int) - 1⟩ q') (ev C f .sumT d)
    else .ok q
  | f + 1, some (some none), d, q => bd (ev C f .part d q) (ev C f .prodT d)
  | f + 1, some (some (some none)), d, q =>
    if isT C q.pos 4 cStar then
      bd (bd (ev C f .part d (adv q)) fun q' => addEx C ⟨8, 0, sNone, sNone, (q.ex.length : Int) - 1, (q'.ex.length : Int) - 1⟩ q') (ev C f .prodT d)
    else .ok q
  | f + 1, some (some (some (some ()))), d, q =>
    if (tokAt C q.pos).kind == 2 then addEx C ⟨1, (tokAt C q.pos).num, sNone, sNone, 0, 0⟩ (adv q)
    else if isT C q.pos 4 cOpen then
      if 20 ≤ d then .error (here C q.pos) else bd (ev C f .sum (d + 1) (adv q)) (tokP C 4 cShut)
    else if C.scr && isT C q.pos 1 sUndef then tailP C sUndef (adv q)
    else bd (nameP C false q) fun x => if isT C x.1.pos 4 cPoint then bd (nameP C true (adv x.1)) fun y => memP C x.2 y.2 y.1 else tailP C x.2 x.1
def nd (C : Cx) (nt : NT) (q : PS) : Nat :=
  5 * (C.ts.length - q.pos) + match nt with
    | .sum => 3
    | .prod => 2
    | _ => 1
def pE (C : Cx) (nt : NT) (d : Nat) (q : PS) : PR := ev C (nd C nt q) nt d q

theorem tokAt_none {C : Cx} {i : Nat} (h : C.ts.length ≤ i) : tokAt C i = ⟨0, sNone, 0, C.fin⟩ := by simp [tokAt, List.getD, List.getElem?_eq_none h]
theorem isT_lt {C : Cx} {i : Nat} {k : Int} {x : ByteArray} (h : isT C i k x = true) (hk : k ≠ 0) : i < C.ts.length := by
  rcases Nat.lt_or_ge i C.ts.length with g | g
  · exact g
  · simp only [isT, tokAt_none g, Bool.and_eq_true, beq_iff_eq] at h
    exact absurd h.1.symm hk
theorem kind_lt {C : Cx} {i : Nat} {k : Int} (h : ((tokAt C i).kind == k) = true) (hk : k ≠ 0) : i < C.ts.length := by
  rcases Nat.lt_or_ge i C.ts.length with g | g
  · exact g
  · simp only [tokAt_none g, beq_iff_eq] at h
    exact absurd h.symm hk
theorem plain_lt {C : Cx} {i : Nat} {o : Bool} (h : plainB C i o = true) : i < C.ts.length := by
  simp only [plainB, Bool.and_eq_true] at h
  exact kind_lt h.1 (by decide)
theorem tokP_ok {C : Cx} {k : Int} {x : ByteArray} {q q' : PS} (h : tokP C k x q = .ok q') : q' = adv q ∧ isT C q.pos k x = true := by
  unfold tokP at h
  split at h
  · next g => exact ⟨by cases h; rfl, g⟩
  · cases h
theorem nameP_ok {C : Cx} {o : Bool} {q : PS} {y : PS × ByteArray} (h : nameP C o q = .ok y) : y = (adv q, (tokAt C q.pos).text) ∧ plainB C q.pos o = true := by
  unfold nameP at h
  split at h
  · next g => exact ⟨by cases h; rfl, g⟩
  · cases h
theorem addEx_ok {C : Cx} {x : Ex} {q q' : PS} (h : addEx C x q = .ok q') : q' = { q with ex := q.ex ++ [x] } ∧ q.ex.length < 300 := by
  unfold addEx at h
  split at h
  · cases h
  · cases h
    exact ⟨rfl, by omega⟩
theorem adv_pos (q : PS) : (adv q).pos = q.pos + 1 := rfl
theorem tailP_pos {C : Cx} {n : ByteArray} {q q' : PS} (h : tailP C n q = .ok q') : q.pos ≤ q'.pos := by
  unfold tailP at h
  split at h
  · obtain ⟨a, h1, h2⟩ := bd_eq_ok h
    obtain ⟨b, h3, h4⟩ := bd_eq_ok h1
    obtain ⟨rfl, _⟩ := tokP_ok h3
    obtain ⟨rfl, _⟩ := tokP_ok h4
    obtain ⟨rfl, _⟩ := addEx_ok h2
    show q.pos ≤ q.pos + 1 + 1
    omega
  · obtain ⟨rfl, _⟩ := addEx_ok h
    exact Nat.le_refl _
theorem memP_pos {C : Cx} {n f : ByteArray} {q q' : PS} (h : memP C n f q = .ok q') : q.pos ≤ q'.pos := by
  unfold memP at h
  split at h
  · obtain ⟨a, h1, h2⟩ := bd_eq_ok h
    obtain ⟨b, h3, h4⟩ := bd_eq_ok h1
    obtain ⟨rfl, _⟩ := tokP_ok h3
    obtain ⟨rfl, _⟩ := tokP_ok h4
    obtain ⟨rfl, _⟩ := addEx_ok h2
    show q.pos ≤ q.pos + 1 + 1
    omega
  · obtain ⟨rfl, _⟩ := addEx_ok h
    exact Nat.le_refl _
theorem ev_pos {C : Cx} (f : Nat) : ∀ (nt : NT) (d : Nat) (q q' : PS), ev C f nt d q = .ok q' → q.pos ≤ q'.pos := by
  induction f with
  | zero => intro nt d q q' h; cases nt using NT.elim <;> cases h
  | succ f ih =>
    intro nt d q q' h
    cases nt using NT.elim with
    | sum =>
      rw [ev] at h
      obtain ⟨a, h1, h2⟩ := bd_eq_ok h
      exact Nat.le_trans (ih _ _ _ _ h1) (ih _ _ _ _ h2)
    | prod =>
      rw [ev] at h
      obtain ⟨a, h1, h2⟩ := bd_eq_ok h
      exact Nat.le_trans (ih _ _ _ _ h1) (ih _ _ _ _ h2)
    | sumT =>
      rw [ev] at h
      split at h
      · obtain ⟨a, h1, h2⟩ := bd_eq_ok h
        obtain ⟨b, h3, h4⟩ := bd_eq_ok h1
        obtain ⟨rfl, _⟩ := addEx_ok h4
        have e1 := ih _ _ _ _ h3
        have e2 := ih _ _ _ _ h2
        rw [adv_pos] at e1
        exact Nat.le_trans (by omega : q.pos ≤ b.pos) e2
      · cases h
        exact Nat.le_refl _
    | prodT =>
      rw [ev] at h
      split at h
      · obtain ⟨a, h1, h2⟩ := bd_eq_ok h
        obtain ⟨b, h3, h4⟩ := bd_eq_ok h1
        obtain ⟨rfl, _⟩ := addEx_ok h4
        have e1 := ih _ _ _ _ h3
        have e2 := ih _ _ _ _ h2
        rw [adv_pos] at e1
        exact Nat.le_trans (by omega : q.pos ≤ b.pos) e2
      · cases h
        exact Nat.le_refl _
    | part =>
      rw [ev] at h
      split at h
      · obtain ⟨rfl, _⟩ := addEx_ok h
        show q.pos ≤ q.pos + 1
        omega
      · split at h
        · split at h
          · cases h
          · obtain ⟨a, h1, h2⟩ := bd_eq_ok h
            obtain ⟨rfl, _⟩ := tokP_ok h2
            have e1 := ih _ _ _ _ h1
            rw [adv_pos] at e1 ⊢
            omega
        · split at h
          · have := tailP_pos h
            rw [adv_pos] at this
            omega
          · obtain ⟨y, h1, h2⟩ := bd_eq_ok h
            obtain ⟨rfl, _⟩ := nameP_ok h1
            simp only at h2
            split at h2
            · obtain ⟨z, h3, h4⟩ := bd_eq_ok h2
              obtain ⟨rfl, _⟩ := nameP_ok h3
              have := memP_pos h4
              simp only [adv_pos] at this
              omega
            · have := tailP_pos h2
              rw [adv_pos] at this
              omega
theorem ev_enough {C : Cx} (f : Nat) : ∀ (g : Nat) (nt : NT) (d : Nat) (q : PS), nd C nt q ≤ f → nd C nt q ≤ g → ev C f nt d q = ev C g nt d q := by
  induction f with
  | zero => intro g nt d q h; unfold nd at h; cases nt using NT.elim <;> simp at h
  | succ f ih =>
    intro g nt d q h1 h2
    obtain ⟨g, rfl⟩ : ∃ g', g = g' + 1 := by
      match g with
      | 0 => unfold nd at h2; cases nt using NT.elim <;> simp at h2
      | g + 1 => exact ⟨g, rfl⟩
    cases nt using NT.elim with
    | sum =>
      simp only [nd] at h1 h2
      rw [ev, ev, ih g .prod d q (by simp only [nd]; omega) (by simp only [nd]; omega)]
      refine bd_congr fun a ha => ?_
      have := ev_pos _ _ _ _ _ ha
      exact ih g .sumT d a (by simp only [nd]; omega) (by simp only [nd]; omega)
    | prod =>
      simp only [nd] at h1 h2
      rw [ev, ev, ih g .part d q (by simp only [nd]; omega) (by simp only [nd]; omega)]
      refine bd_congr fun a ha => ?_
      have := ev_pos _ _ _ _ _ ha
      exact ih g .prodT d a (by simp only [nd]; omega) (by simp only [nd]; omega)
    | sumT =>
      simp only [nd] at h1 h2
      rw [ev, ev]
      split
      · next hs =>
        have hlt : q.pos < C.ts.length := by
          rw [Bool.or_eq_true] at hs
          exact hs.elim (fun k => isT_lt k (by decide)) fun k => isT_lt k (by decide)
        rw [ih g .prod d (adv q) (by simp only [nd, adv_pos]; omega) (by simp only [nd, adv_pos]; omega)]
        refine bd_congr fun a ha => ?_
        obtain ⟨b, h3, h4⟩ := bd_eq_ok ha
        obtain ⟨rfl, _⟩ := addEx_ok h4
        have := ev_pos _ _ _ _ _ h3
        rw [adv_pos] at this
        exact ih g .sumT d _ (by simp only [nd]; omega) (by simp only [nd]; omega)
      · rfl
    | prodT =>
      simp only [nd] at h1 h2
      rw [ev, ev]
      split
      · next hs =>
        have hlt : q.pos < C.ts.length := isT_lt hs (by decide)
        rw [ih g .part d (adv q) (by simp only [nd, adv_pos]; omega) (by simp only [nd, adv_pos]; omega)]
        refine bd_congr fun a ha => ?_
        obtain ⟨b, h3, h4⟩ := bd_eq_ok ha
        obtain ⟨rfl, _⟩ := addEx_ok h4
        have := ev_pos _ _ _ _ _ h3
        rw [adv_pos] at this
        exact ih g .prodT d _ (by simp only [nd]; omega) (by simp only [nd]; omega)
      · rfl
    | part =>
      simp only [nd] at h1 h2
      rw [ev, ev]
      split
      · rfl
      · split
        · next hs =>
          have hlt : q.pos < C.ts.length := isT_lt hs (by decide)
          split
          · rfl
          · rw [ih g .sum (d + 1) (adv q) (by simp only [nd, adv_pos]; omega) (by simp only [nd, adv_pos]; omega)]
        · rfl
theorem ev_pE {C : Cx} {f d : Nat} {nt : NT} {q : PS} (h : nd C nt q ≤ f) : ev C f nt d q = pE C nt d q := ev_enough f _ nt d q h (Nat.le_refl _)
theorem pE_pos {C : Cx} {nt : NT} {d : Nat} {q q' : PS} (h : pE C nt d q = .ok q') : q.pos ≤ q'.pos := ev_pos _ _ _ _ _ h
theorem pE_succ {C : Cx} {nt : NT} {d : Nat} {q : PS} : pE C nt d q = ev C (nd C nt q + 1) nt d q := (ev_pE (Nat.le_succ _)).symm

theorem pE_sum (C : Cx) (d : Nat) (q : PS) : pE C .sum d q = bd (pE C .prod d q) (pE C .sumT d) := by
  rw [pE_succ, ev, ev_pE (by simp only [nd]; omega)]
  refine bd_congr fun a ha => ?_
  have := pE_pos ha
  exact ev_pE (by simp only [nd]; omega)
theorem pE_prod (C : Cx) (d : Nat) (q : PS) : pE C .prod d q = bd (pE C .part d q) (pE C .prodT d) := by
  rw [pE_succ, ev, ev_pE (by simp only [nd]; omega)]
  refine bd_congr fun a ha => ?_
  have := pE_pos ha
  exact ev_pE (by simp only [nd]; omega)
theorem pE_sumT (C : Cx) (d : Nat) (q : PS) : pE C .sumT d q =
    if isT C q.pos 4 cPlus || isT C q.pos 4 cMinus then
      bd (bd (pE C .prod d (adv q)) fun q' => addEx C ⟨kindPM C q.pos, 0, sNone, sNone, (q.ex.length : Int) - 1, (q'.ex.length : Int) - 1⟩ q') (pE C .sumT d)
    else .ok q := by
  rw [pE_succ, ev]
  split
  · next hs =>
    have hlt : q.pos < C.ts.length := by
      rw [Bool.or_eq_true] at hs
      exact hs.elim (fun k => isT_lt k (by decide)) fun k => isT_lt k (by decide)
    rw [ev_pE (by simp only [nd, adv_pos]; omega)]
    refine bd_congr fun a ha => ?_
    obtain ⟨b, h3, h4⟩ := bd_eq_ok ha
    obtain ⟨rfl, _⟩ := addEx_ok h4
    have := pE_pos h3
    rw [adv_pos] at this
    exact ev_pE (by simp only [nd]; omega)
  · rfl
theorem pE_prodT (C : Cx) (d : Nat) (q : PS) : pE C .prodT d q =
    if isT C q.pos 4 cStar then
      bd (bd (pE C .part d (adv q)) fun q' => addEx C ⟨8, 0, sNone, sNone, (q.ex.length : Int) - 1, (q'.ex.length : Int) - 1⟩ q') (pE C .prodT d)
    else .ok q := by
  rw [pE_succ, ev]
  split
  · next hs =>
    have hlt : q.pos < C.ts.length := isT_lt hs (by decide)
    rw [ev_pE (by simp only [nd, adv_pos]; omega)]
    refine bd_congr fun a ha => ?_
    obtain ⟨b, h3, h4⟩ := bd_eq_ok ha
    obtain ⟨rfl, _⟩ := addEx_ok h4
    have := pE_pos h3
    rw [adv_pos] at this
    exact ev_pE (by simp only [nd]; omega)
  · rfl
theorem pE_part (C : Cx) (d : Nat) (q : PS) : pE C .part d q =
    if (tokAt C q.pos).kind == 2 then addEx C ⟨1, (tokAt C q.pos).num, sNone, sNone, 0, 0⟩ (adv q)
    else if isT C q.pos 4 cOpen then
      if 20 ≤ d then .error (here C q.pos) else bd (pE C .sum (d + 1) (adv q)) (tokP C 4 cShut)
    else if C.scr && isT C q.pos 1 sUndef then tailP C sUndef (adv q)
    else bd (nameP C false q) fun x => if isT C x.1.pos 4 cPoint then bd (nameP C true (adv x.1)) fun y => memP C x.2 y.2 y.1 else tailP C x.2 x.1 := by
  rw [pE_succ, ev]
  split
  · rfl
  · split
    · next hs =>
      have hlt : q.pos < C.ts.length := isT_lt hs (by decide)
      split
      · rfl
      · rw [ev_pE (by simp only [nd, adv_pos]; omega)]
    · rfl
end Go.Proofs.Ytdbpknmoacjodaa
namespace Go.Proofs.Ytdbpknmoacjodaa
open Go.RowKit Go.PlainAid

structure Md where
  rq : List ByteArray
  im : List Im
  ep : List Ep
  st : List Sm
  ex : List Ex
def mdOf (q : PS) : Md := ⟨q.rq, q.im, q.ep ++ q.la, q.st, q.ex⟩
def sumK (k : Int) : Bool := k == 6 || k == 7
def twoK (k : Int) : Bool := k == 6 || k == 7 || k == 8
def exNo : Ex := ⟨0, 0, sNone, sNone, 0, 0⟩
abbrev cParens : ByteArray := { data := #[40, 41] }
abbrev tPlus : ByteArray := { data := #[32, 43, 32] }
abbrev tMinus : ByteArray := { data := #[32, 45, 32] }
abbrev tStar : ByteArray := { data := #[32, 42, 32] }
def sideT (b : Bool) (t : ByteArray) : ByteArray := if b then cOpen ++ t ++ cShut else t
def prE (ex : List Ex) : Nat → Nat → ByteArray
  | 0, _ => sNone
  | f + 1, i =>
    let x := ex.getD i exNo
    if x.kind == 1 then strOfNums (decL x.num)
    else if x.kind == 2 then x.name
    else if x.kind == 3 then x.name ++ cParens
    else if x.kind == 4 then x.name ++ cPoint ++ x.field
    else if x.kind == 5 then x.name ++ cPoint ++ x.field ++ cParens
    else if x.kind == 6 then prE ex f x.l.toNat ++ tPlus ++ sideT (sumK (ex.getD x.r.toNat exNo).kind) (prE ex f x.r.toNat)
    else if x.kind == 7 then prE ex f x.l.toNat ++ tMinus ++ sideT (sumK (ex.getD x.r.toNat exNo).kind) (prE ex f x.r.toNat)
    else if x.kind == 8 then sideT (sumK (ex.getD x.l.toNat exNo).kind) (prE ex f x.l.toNat) ++ tStar ++ sideT (twoK (ex.getD x.r.toNat exNo).kind) (prE ex f x.r.toNat)
    else sNone
def prX (ex : List Ex) (i : Nat) : ByteArray := prE ex (i + 1) i
def Ahead (ex : List Ex) : Prop := ∀ (i : Nat) (x : Ex), ex[i]? = some x → twoK x.kind = true → 0 ≤ x.l ∧ x.l < (i : Int) ∧ 0 ≤ x.r ∧ x.r < (i : Int)
theorem two_of {k : Int} (h : (k == 6) = true ∨ (k == 7) = true ∨ (k == 8) = true) : twoK k = true := by
  unfold twoK
  rcases h with h | h | h <;> simp [h]
theorem ahead_at {ex : List Ex} (h : Ahead ex) {i : Nat} (hk : twoK (ex.getD i exNo).kind = true) : 0 ≤ (ex.getD i exNo).l ∧ (ex.getD i exNo).l < (i : Int) ∧ 0 ≤ (ex.getD i exNo).r ∧ (ex.getD i exNo).r < (i : Int) := by
  by_cases hi : i < ex.length
  · have e : ex.getD i exNo = ex[i] := by simp [List.getD, List.getElem?_eq_getElem hi]
    rw [e] at hk ⊢
    exact h i _ (List.getElem?_eq_getElem hi) hk
  · have e : ex.getD i exNo = exNo := by simp [List.getD, List.getElem?_eq_none (by omega : ex.length ≤ i)]
    rw [e] at hk
    exact absurd hk (by decide)
theorem prE_enough {ex : List Ex} (h : Ahead ex) (f : Nat) : ∀ (g i : Nat), i < f → i < g → prE ex f i = prE ex g i := by
  induction f with
  | zero => intro g i hi; omega
  | succ f ih =>
    intro g i h1 h2
    obtain ⟨g, rfl⟩ : ∃ g', g = g' + 1 := ⟨g - 1, by omega⟩
    rw [prE, prE]
    have ha := fun hk => ahead_at h (i := i) hk
    generalize ex.getD i exNo = x at ha ⊢
    have hs : ∀ hk : twoK x.kind = true, prE ex f x.l.toNat = prE ex g x.l.toNat ∧ prE ex f x.r.toNat = prE ex g x.r.toNat := fun hk => by
      have := ha hk
      exact ⟨ih g _ (by omega) (by omega), ih g _ (by omega) (by omega)⟩
    by_cases k6 : (x.kind == 6) = true
    · rw [(hs (two_of (.inl k6))).1, (hs (two_of (.inl k6))).2]
    · by_cases k7 : (x.kind == 7) = true
      · rw [(hs (two_of (.inr (.inl k7)))).1, (hs (two_of (.inr (.inl k7)))).2]
      · by_cases k8 : (x.kind == 8) = true
        · rw [(hs (two_of (.inr (.inr k8)))).1, (hs (two_of (.inr (.inr k8)))).2]
        · simp only [k6, k7, k8, Bool.false_eq_true, ↓reduceIte]
theorem prX_step {ex : List Ex} (h : Ahead ex) (i : Nat) : prX ex i =
    if (ex.getD i exNo).kind == 1 then strOfNums (decL (ex.getD i exNo).num)
    else if (ex.getD i exNo).kind == 2 then (ex.getD i exNo).name
    else if (ex.getD i exNo).kind == 3 then (ex.getD i exNo).name ++ cParens
    else if (ex.getD i exNo).kind == 4 then (ex.getD i exNo).name ++ cPoint ++ (ex.getD i exNo).field
    else if (ex.getD i exNo).kind == 5 then (ex.getD i exNo).name ++ cPoint ++ (ex.getD i exNo).field ++ cParens
    else if (ex.getD i exNo).kind == 6 then prX ex (ex.getD i exNo).l.toNat ++ tPlus ++ sideT (sumK (ex.getD (ex.getD i exNo).r.toNat exNo).kind) (prX ex (ex.getD i exNo).r.toNat)
    else if (ex.getD i exNo).kind == 7 then prX ex (ex.getD i exNo).l.toNat ++ tMinus ++ sideT (sumK (ex.getD (ex.getD i exNo).r.toNat exNo).kind) (prX ex (ex.getD i exNo).r.toNat)
    else if (ex.getD i exNo).kind == 8 then sideT (sumK (ex.getD (ex.getD i exNo).l.toNat exNo).kind) (prX ex (ex.getD i exNo).l.toNat) ++ tStar ++ sideT (twoK (ex.getD (ex.getD i exNo).r.toNat exNo).kind) (prX ex (ex.getD i exNo).r.toNat)
    else sNone := by
  rw [prX, prE]
  have ha := fun hk => ahead_at h (i := i) hk
  generalize ex.getD i exNo = x at ha ⊢
  have hs : ∀ hk : twoK x.kind = true, prE ex i x.l.toNat = prX ex x.l.toNat ∧ prE ex i x.r.toNat = prX ex x.r.toNat := fun hk => by
    have := ha hk
    exact ⟨prE_enough h _ _ _ (by omega) (by omega), prE_enough h _ _ _ (by omega) (by omega)⟩
  by_cases k6 : (x.kind == 6) = true
  · rw [(hs (two_of (.inl k6))).1, (hs (two_of (.inl k6))).2]
  · by_cases k7 : (x.kind == 7) = true
    · rw [(hs (two_of (.inr (.inl k7)))).1, (hs (two_of (.inr (.inl k7)))).2]
    · by_cases k8 : (x.kind == 8) = true
      · rw [(hs (two_of (.inr (.inr k8)))).1, (hs (two_of (.inr (.inr k8)))).2]
      · simp only [k6, k7, k8, Bool.false_eq_true, ↓reduceIte]

def usesE (ex : List Ex) (k : Int) : Nat := (ex.map fun x => if twoK x.kind then (if x.l == k then 1 else 0) + (if x.r == k then 1 else 0) else 0).sum
def usesS (st : List Sm) (k : Int) : Nat := (st.map fun s => if s.expr == k then 1 else 0).sum
structure Tree (m : Md) : Prop where
  ahead : Ahead m.ex
  stm : ∀ s ∈ m.st, 0 ≤ s.expr ∧ s.expr < (m.ex.length : Int)
  once : ∀ k, k < m.ex.length → usesE m.ex (k : Int) + usesS m.st (k : Int) = 1
end Go.Proofs.Ytdbpknmoacjodaa
namespace Go.Proofs.Ytdbpknmoacjodaa
open Go.RowKit Go.PlainAid

def sm (k : Nat) (f : Nat → Nat) : Nat := ((List.range k).map f).sum
theorem sm_zero (f : Nat → Nat) : sm 0 f = 0 := rfl
theorem sm_succ (k : Nat) (f : Nat → Nat) : sm (k + 1) f = sm k f + f k := by
  unfold sm
  rw [List.range_succ, List.map_append, List.sum_append]
  simp
theorem sm_add (k : Nat) (f g : Nat → Nat) : sm k (fun j => f j + g j) = sm k f + sm k g := by
  induction k with
  | zero => rfl
  | succ k ih => rw [sm_succ, sm_succ, sm_succ, ih]; omega
theorem sm_congr {k : Nat} {f g : Nat → Nat} (h : ∀ j, j < k → f j = g j) : sm k f = sm k g := by
  induction k with
  | zero => rfl
  | succ k ih => rw [sm_succ, sm_succ, ih fun j hj => h j (by omega), h k (by omega)]
theorem sm_none (k : Nat) : sm k (fun _ => 0) = 0 := by
  induction k with
  | zero => rfl
  | succ k ih => rw [sm_succ, ih]
theorem sm_one (f : Nat → Nat) (k : Nat) (l : Int) (h0 : 0 ≤ l) (h : l < (k : Int)) : sm k (fun j => (if l == (j : Int) then 1 else 0) * f j) = f l.toNat := by
  induction k with
  | zero => omega
  | succ k ih =>
    rw [sm_succ]
    by_cases e : l = (k : Int)
    · have e1 : sm k (fun j => (if l == (j : Int) then 1 else 0) * f j) = 0 := (sm_congr (g := fun _ => 0) fun j hj => by rw [if_neg (by rw [beq_iff_eq]; omega)]; omega).trans (sm_none k)
      rw [e1, if_pos (by rw [beq_iff_eq]; exact e), show l.toNat = k from by omega]
      omega
    · rw [ih (by omega), if_neg (by rw [beq_iff_eq]; exact e)]
      omega
def u1 (x : Ex) (k : Int) : Nat := if twoK x.kind then (if x.l == k then 1 else 0) + (if x.r == k then 1 else 0) else 0
theorem usesE_drop {ex : List Ex} {i : Nat} (hi : i < ex.length) (k : Int) : usesE (ex.drop i) k = u1 ex[i] k + usesE (ex.drop (i + 1)) k := by
  rw [List.drop_eq_getElem_cons hi, usesE, List.map_cons, List.sum_cons]
  rfl
theorem usesE_end {ex : List Ex} {i : Nat} (hi : ex.length ≤ i) (k : Int) : usesE (ex.drop i) k = 0 := by rw [List.drop_eq_nil_of_le hi]; rfl
theorem usesE_from {ex : List Ex} (h : Ahead ex) (k : Nat) (hk : k < ex.length) : ∀ d j, j + d = k + 1 → usesE (ex.drop j) (k : Int) = usesE (ex.drop (k + 1)) (k : Int) := by
  intro d
  induction d with
  | zero => intro j hj; rw [show j = k + 1 from by omega]
  | succ d ih =>
    intro j hj
    rw [usesE_drop (by omega), ih (j + 1) (by omega)]
    have : u1 ex[j] (k : Int) = 0 := by
      unfold u1
      split
      · next ht =>
        have := h j _ (List.getElem?_eq_getElem (by omega)) ht
        rw [if_neg (by rw [beq_iff_eq]; omega), if_neg (by rw [beq_iff_eq]; omega)]
      · rfl
    omega
def wt (ex : List Ex) (i : Nat) : Nat := (prX ex i).size
def cost (x : Ex) : Nat := x.name.size + x.field.size + 40
theorem side_size (b : Bool) (t : ByteArray) : (sideT b t).size ≤ t.size + 2 := by
  unfold sideT
  split
  · rw [ByteArray.size_append, ByteArray.size_append]
    show 1 + t.size + 1 ≤ t.size + 2
    omega
  · omega
theorem dec_size (n : Int) (h0 : -9223372036854775808 ≤ n) (h1 : n ≤ 9223372036854775807) : (strOfNums (decL n)).size ≤ 21 := by
  rw [strOfNums_size]
  by_cases h : n < 0
  · rw [decL_neg h, List.length_cons, dgk_length]
    have := (dcn_facts (-n) (by omega) (by omega)).2.1
    omega
  · rw [decL_pos (by omega), dgk_length]
    have := (dcn_facts n (by omega) (by omega)).2.1
    omega
theorem wt_step {ex : List Ex} (h : Ahead ex) (i : Nat) (hn : -9223372036854775808 ≤ (ex.getD i exNo).num ∧ (ex.getD i exNo).num ≤ 9223372036854775807) :
    wt ex i ≤ cost (ex.getD i exNo) + if twoK (ex.getD i exNo).kind then wt ex (ex.getD i exNo).l.toNat + wt ex (ex.getD i exNo).r.toNat else 0 := by
  unfold wt
  rw [prX_step h]
  generalize ex.getD i exNo = x at hn ⊢
  unfold cost
  by_cases k1 : (x.kind == 1) = true
  · rw [if_pos k1]
    have := dec_size x.num hn.1 hn.2
    omega
  · rw [if_neg k1]
    by_cases k2 : (x.kind == 2) = true
    · rw [if_pos k2]; omega
    · rw [if_neg k2]
      by_cases k3 : (x.kind == 3) = true
      · rw [if_pos k3, ByteArray.size_append]
        have : cParens.size = 2 := rfl
        omega
      · rw [if_neg k3]
        by_cases k4 : (x.kind == 4) = true
        · rw [if_pos k4, ByteArray.size_append, ByteArray.size_append]
          have : cPoint.size = 1 := rfl
          omega
        · rw [if_neg k4]
          by_cases k5 : (x.kind == 5) = true
          · rw [if_pos k5, ByteArray.size_append, ByteArray.size_append, ByteArray.size_append]
            have : cPoint.size = 1 := rfl
            have : cParens.size = 2 := rfl
            omega
          · rw [if_neg k5]
            by_cases k6 : (x.kind == 6) = true
            · rw [if_pos k6, if_pos (two_of (.inl k6)), ByteArray.size_append, ByteArray.size_append]
              have := side_size (sumK (ex.getD x.r.toNat exNo).kind) (prX ex x.r.toNat)
              have : tPlus.size = 3 := rfl
              omega
            · rw [if_neg k6]
              by_cases k7 : (x.kind == 7) = true
              · rw [if_pos k7, if_pos (two_of (.inr (.inl k7))), ByteArray.size_append, ByteArray.size_append]
                have := side_size (sumK (ex.getD x.r.toNat exNo).kind) (prX ex x.r.toNat)
                have : tMinus.size = 3 := rfl
                omega
              · rw [if_neg k7]
                by_cases k8 : (x.kind == 8) = true
                · rw [if_pos k8, if_pos (two_of (.inr (.inr k8))), ByteArray.size_append, ByteArray.size_append]
                  have := side_size (sumK (ex.getD x.l.toNat exNo).kind) (prX ex x.l.toNat)
                  have := side_size (twoK (ex.getD x.r.toNat exNo).kind) (prX ex x.r.toNat)
                  have : tStar.size = 3 := rfl
                  omega
                · rw [if_neg k8]
                  show 0 ≤ _
                  omega
def Nums (ex : List Ex) : Prop := ∀ x ∈ ex, -9223372036854775808 ≤ x.num ∧ x.num ≤ 9223372036854775807
theorem getD_at {ex : List Ex} {i : Nat} (hi : i < ex.length) : ex.getD i exNo = ex[i] := by simp [List.getD, List.getElem?_eq_getElem hi]
theorem stm_sum (f : Nat → Nat) (n : Nat) : ∀ st : List Sm, (∀ s ∈ st, 0 ≤ s.expr ∧ s.expr < (n : Int)) → (st.map fun s => f s.expr.toNat).sum = sm n (fun j => usesS st (j : Int) * f j) := by
  intro st
  induction st with
  | nil => intro _; show 0 = _; rw [← sm_none n]; exact sm_congr fun j _ => by simp [usesS]
  | cons s st ih =>
    intro h
    rw [List.map_cons, List.sum_cons, ih fun x hx => h x (List.mem_cons_of_mem _ hx)]
    have h1 := h s List.mem_cons_self
    rw [← sm_one f n s.expr h1.1 h1.2, ← sm_add]
    refine sm_congr fun j _ => ?_
    simp only [usesS, List.map_cons, List.sum_cons]
    rw [Nat.add_mul]
theorem tree_down {m : Md} (t : Tree m) (hn : Nums m.ex) : ∀ d k, k + d = m.ex.length →
    (m.st.map fun s => wt m.ex s.expr.toNat).sum ≤ sm k (fun j => (usesS m.st (j : Int) + usesE (m.ex.drop k) (j : Int)) * wt m.ex j) + ((m.ex.drop k).map cost).sum := by
  intro d
  induction d with
  | zero =>
    intro k hk
    have : k = m.ex.length := by omega
    subst this
    rw [stm_sum _ _ _ t.stm]
    refine Nat.le_trans (Nat.le_of_eq ?_) (Nat.le_add_right _ _)
    refine sm_congr fun j _ => ?_
    rw [usesE_end (Nat.le_refl _), Nat.add_zero]
  | succ d ih =>
    intro k hk
    have hlt : k < m.ex.length := by omega
    refine Nat.le_trans (ih (k + 1) (by omega)) ?_
    have h1 : usesS m.st (k : Int) + usesE (m.ex.drop (k + 1)) (k : Int) = 1 := by
      have := t.once k hlt
      rw [← usesE_from t.ahead k hlt (k + 1) 0 (by omega), List.drop_zero]
      omega
    rw [sm_succ, h1, Nat.one_mul, List.drop_eq_getElem_cons hlt, List.map_cons, List.sum_cons]
    have h2 := wt_step t.ahead k (by rw [getD_at hlt]; exact hn _ (List.getElem_mem hlt))
    rw [getD_at hlt] at h2
    have h3 : sm k (fun j => (usesS m.st (j : Int) + usesE (m.ex.drop k) (j : Int)) * wt m.ex j) = sm k (fun j => (usesS m.st (j : Int) + usesE (m.ex.drop (k + 1)) (j : Int)) * wt m.ex j) + if twoK m.ex[k].kind then wt m.ex m.ex[k].l.toNat + wt m.ex m.ex[k].r.toNat else 0 := by
      have e : ∀ j : Nat, (usesS m.st (j : Int) + usesE (m.ex.drop k) (j : Int)) * wt m.ex j = (usesS m.st (j : Int) + usesE (m.ex.drop (k + 1)) (j : Int)) * wt m.ex j + u1 m.ex[k] (j : Int) * wt m.ex j := fun j => by
        rw [usesE_drop hlt, ← Nat.add_mul]
        congr 1
        omega
      rw [sm_congr fun j _ => e j, sm_add]
      congr 1
      split
      · next ht =>
        have ha := t.ahead k _ (List.getElem?_eq_getElem hlt) ht
        rw [← sm_one (wt m.ex) k _ ha.1 ha.2.1, ← sm_one (wt m.ex) k _ ha.2.2.1 ha.2.2.2, ← sm_add]
        refine sm_congr fun j _ => ?_
        rw [u1, if_pos ht, Nat.add_mul]
      · next ht =>
        rw [← sm_none k]
        refine sm_congr fun j _ => ?_
        rw [u1, if_neg ht, Nat.zero_mul]
    have h4 : usesE (m.ex[k] :: m.ex.drop (k + 1)) = usesE (m.ex.drop k) := by rw [← List.drop_eq_getElem_cons hlt]
    rw [h4, h3]
    omega
theorem tree_total {m : Md} (t : Tree m) (hn : Nums m.ex) : (m.st.map fun s => wt m.ex s.expr.toNat).sum ≤ (m.ex.map cost).sum := by
  have := tree_down t hn m.ex.length 0 (by omega)
  rw [sm_zero, Nat.zero_add, List.drop_zero] at this
  exact this
end Go.Proofs.Ytdbpknmoacjodaa
