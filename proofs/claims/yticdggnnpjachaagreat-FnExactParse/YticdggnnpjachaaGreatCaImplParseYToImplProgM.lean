/-
  The table of items of impl's parser: what is stored in it, what is looked up.
  What the items of impl's parser read is what the items of the document are. No program is spoken of.
  'append' of a row onto a row of the call's own, as one step of a region that draws its order; a program handed back. No program is spoken of but for the numbers of its types.
  What program of impl's parser answers: the walks.
  What program of impl's parser answers of a module: the walk.
-/
import Derived.Maps.Own
import Derived.Test.YticdggnnpjachaaGreatCaImplParseVToImplParseX
namespace Go.Proofs.YticdggnnpjachaaGreat
open Go.RowKit Go.PlainAid Go.Sort Go.Maps Go.ChangeMaps

def eM (gp : Nat) (k : ByteArray) (f b : Nat) : MapEntry := ⟨.string k, .func (.func f) #[.pointer (some ⟨gp, 0, none⟩)] #[], b⟩
def esS (gp : Nat) : Array MapEntry := #[eM gp sLet 144 0, eM gp sFunction 145 1, eM gp sPrint 146 2, eM gp sThrow 147 3, eM gp sFail 148 4]
def esM (gp : Nat) : Array MapEntry := #[eM gp sLet 144 0, eM gp sFunction 145 1, eM gp sPrint 146 2, eM gp sThrow 147 3, eM gp sImport 149 4, eM gp sExport 150 5]
theorem check_str (b : Bool) (k : ByteArray) (W : World) : (Instr.checkKey b 10000 9 (.string k)).run Tryz.prog W = .ok () W := by
  show (Instr.checkKey b (9999 + 1) 9 (.string k)).run Tryz.prog W = .ok () W
  rw [Instr.checkKey]
  simp [run_underlying Tryz.underlying9]
theorem find_str {k : ByteArray} {es : List MapEntry} {r : Option (Nat × Value)} (hf : Instr.findNow .string (.string k) es 0 = some r) (W : World) : (Instr.findKey 9 (.string k) es).run Tryz.prog W = .ok r W := by
  simp [Instr.findKey, run_underlying Tryz.underlying9, hf]
theorem update_ex {W w0 : World} {B g c : Nat} {es : Array MapEntry} {k : ByteArray} {v : Value} (hg : W.heap[g]? = some (.map es c)) (hf : Instr.findNow .string (.string k) es.toList 0 = some none) (hb : Below B w0 W) (hB : B ≤ g) :
    ∃ W', (Instr.mapUpdate 126 (.map (some g)) (.string k) v).run Tryz.prog W = .ok () W' ∧ W'.heap[g]? = some (.map (es.push ⟨.string k, v, c⟩) (c + 1)) ∧ Below B w0 W' := by
  refine ⟨setBlock W g (.map (es.push ⟨.string k, v, c⟩) (c + 1)), ?_, heap_setBlock_same hg _, ⟨hb.os, hb.tape, hb.output, by simpa [setBlock] using hb.size, fun i hi => (heap_setBlock_other hg _ (by omega)).trans (hb.block i hi)⟩⟩
  simp [Instr.mapUpdate, run_underlying Tryz.underlying126, MapKept.run_getObj_map hg, check_str, find_str hf, MapKept.run_setObj_map _ hg, Result.andThen, setBlock]
theorem look_hit {W : World} {g c i : Nat} {es : Array MapEntry} {k : ByteArray} {v : Value} (hg : W.heap[g]? = some (.map es c)) (hf : Instr.findNow .string (.string k) es.toList 0 = some (some (i, v))) :
    (Instr.lookup 126 (.map (some g)) (.string k) true).run Tryz.prog W = .ok (.tuple #[v, .bool true]) W := by
  simp [Instr.lookup, run_underlying Tryz.underlying126, MapKept.run_getObj_map hg, check_str, find_str hf, Result.andThen]
theorem look_miss {W : World} {g c : Nat} {es : Array MapEntry} {k : ByteArray} (hg : W.heap[g]? = some (.map es c)) (hf : Instr.findNow .string (.string k) es.toList 0 = some none) :
    ∃ v, (Instr.lookup 126 (.map (some g)) (.string k) true).run Tryz.prog W = .ok (.tuple #[v, .bool false]) W := by
  have hz : ∃ v, (zeroValue 1).run Tryz.prog W = .ok v W := ⟨.nilFunc, by kernel_rfl⟩
  obtain ⟨v, hz⟩ := hz
  exact ⟨v, by simp [Instr.lookup, run_underlying Tryz.underlying126, MapKept.run_getObj_map hg, check_str, find_str hf, Result.andThen, hz]⟩

set_option maxRecDepth 100000 in
set_option maxHeartbeats 1600000 in
theorem items_S (C : Cx) (gt cap base gp : Nat) (S : Sv) (q : PS) (w : World) (h : IM C gt cap base gp S q w) (hs : C.scr = true) :
    Calls Tryz.prog 88 #[.pointer (some ⟨gp, 0, none⟩)] w fun e w' => e = .returned (.map (some w.heap.size)) ∧ w'.heap[w.heap.size]? = some (.map (esS gp) 5) ∧ Below w.heap.size w w' := by
  have HH := hidI h
  have hmm := @run_makeMap Tryz.prog
  have hmf : ∀ (fn : Fn) (first cap : Array Value) (w : World), (Instr.makeFunc fn first cap).run Tryz.prog w = .ok (.func fn first cap) w := fun _ _ _ _ => rfl
  obtain ⟨W1, r1, g1, b1⟩ := update_ex (k := sLet) (v := .func (.func 144) #[.pointer (some ⟨gp, 0, none⟩)] #[]) (heap_alloc_new w (.map #[] 0)) rfl ((Below.refl w.heap.size w).alloc (Nat.le_refl _) _) (Nat.le_refl _)
  obtain ⟨W2, r2, g2, b2⟩ := update_ex (k := sFunction) (v := .func (.func 145) #[.pointer (some ⟨gp, 0, none⟩)] #[]) g1 rfl b1 (Nat.le_refl _)
  obtain ⟨W3, r3, g3, b3⟩ := update_ex (k := sPrint) (v := .func (.func 146) #[.pointer (some ⟨gp, 0, none⟩)] #[]) g2 rfl b2 (Nat.le_refl _)
  obtain ⟨W4, r4, g4, b4⟩ := update_ex (k := sThrow) (v := .func (.func 147) #[.pointer (some ⟨gp, 0, none⟩)] #[]) g3 rfl b3 (Nat.le_refl _)
  obtain ⟨W5, r5, g5, b5⟩ := update_ex (k := sFail) (v := .func (.func 148) #[.pointer (some ⟨gp, 0, none⟩)] #[]) g4 rfl b4 (Nat.le_refl _)
  have G := hidI g5
  have B := hidI b5
  obtain ⟨_, _, _, c3, _, _, _, _, _, _, cf⟩ := box10_of (HH.out.later b4).cells
  rw [hs] at c3
  clear h g1 b1 g2 b2 g3 b3 g4 b4 g5 b5
  go_enter Tryz.func88, Tryz.ntmps88
  go_wp2
  go_ret
  exact ⟨rfl, G.out, B.out⟩
theorem find_S0 (gp : Nat) : Instr.findNow .string (.string sLet) (esS gp).toList 0 = some (some (0, .func (.func 144) #[.pointer (some ⟨gp, 0, none⟩)] #[])) := by rfl
theorem find_S1 (gp : Nat) : Instr.findNow .string (.string sFunction) (esS gp).toList 0 = some (some (1, .func (.func 145) #[.pointer (some ⟨gp, 0, none⟩)] #[])) := by rfl
theorem find_S2 (gp : Nat) : Instr.findNow .string (.string sPrint) (esS gp).toList 0 = some (some (2, .func (.func 146) #[.pointer (some ⟨gp, 0, none⟩)] #[])) := by rfl
theorem find_S3 (gp : Nat) : Instr.findNow .string (.string sThrow) (esS gp).toList 0 = some (some (3, .func (.func 147) #[.pointer (some ⟨gp, 0, none⟩)] #[])) := by rfl
theorem find_S4 (gp : Nat) : Instr.findNow .string (.string sFail) (esS gp).toList 0 = some (some (4, .func (.func 148) #[.pointer (some ⟨gp, 0, none⟩)] #[])) := by rfl
theorem miss_S (gp : Nat) (x : ByteArray) (h0 : (x == sLet) = false) (h1 : (x == sFunction) = false) (h2 : (x == sPrint) = false) (h3 : (x == sThrow) = false) (h4 : (x == sFail) = false) : Instr.findNow .string (.string x) (esS gp).toList 0 = some none := by
  simp [esS, eM, Instr.findNow, Instr.sameNow, h0, h1, h2, h3, h4]

set_option maxRecDepth 100000 in
set_option maxHeartbeats 1600000 in
theorem items_M (C : Cx) (gt cap base gp : Nat) (S : Sv) (q : PS) (w : World) (h : IM C gt cap base gp S q w) (hs : C.scr = false) :
    Calls Tryz.prog 88 #[.pointer (some ⟨gp, 0, none⟩)] w fun e w' => e = .returned (.map (some w.heap.size)) ∧ w'.heap[w.heap.size]? = some (.map (esM gp) 6) ∧ Below w.heap.size w w' := by
  have HH := hidI h
  have hmm := @run_makeMap Tryz.prog
  have hmf : ∀ (fn : Fn) (first cap : Array Value) (w : World), (Instr.makeFunc fn first cap).run Tryz.prog w = .ok (.func fn first cap) w := fun _ _ _ _ => rfl
  obtain ⟨W1, r1, g1, b1⟩ := update_ex (k := sLet) (v := .func (.func 144) #[.pointer (some ⟨gp, 0, none⟩)] #[]) (heap_alloc_new w (.map #[] 0)) rfl ((Below.refl w.heap.size w).alloc (Nat.le_refl _) _) (Nat.le_refl _)
  obtain ⟨W2, r2, g2, b2⟩ := update_ex (k := sFunction) (v := .func (.func 145) #[.pointer (some ⟨gp, 0, none⟩)] #[]) g1 rfl b1 (Nat.le_refl _)
  obtain ⟨W3, r3, g3, b3⟩ := update_ex (k := sPrint) (v := .func (.func 146) #[.pointer (some ⟨gp, 0, none⟩)] #[]) g2 rfl b2 (Nat.le_refl _)
  obtain ⟨W4, r4, g4, b4⟩ := update_ex (k := sThrow) (v := .func (.func 147) #[.pointer (some ⟨gp, 0, none⟩)] #[]) g3 rfl b3 (Nat.le_refl _)
  obtain ⟨W5, r5, g5, b5⟩ := update_ex (k := sImport) (v := .func (.func 149) #[.pointer (some ⟨gp, 0, none⟩)] #[]) g4 rfl b4 (Nat.le_refl _)
  obtain ⟨W6, r6, g6, b6⟩ := update_ex (k := sExport) (v := .func (.func 150) #[.pointer (some ⟨gp, 0, none⟩)] #[]) g5 rfl b5 (Nat.le_refl _)
  have G := hidI g6
  have B := hidI b6
  obtain ⟨_, _, _, c3, _, _, _, _, _, _, cf⟩ := box10_of (HH.out.later b4).cells
  rw [hs] at c3
  clear h g1 b1 g2 b2 g3 b3 g4 b4 g5 b5 g6 b6
  go_enter Tryz.func88, Tryz.ntmps88
  go_wp2
  go_ret
  exact ⟨rfl, G.out, B.out⟩
theorem find_M0 (gp : Nat) : Instr.findNow .string (.string sLet) (esM gp).toList 0 = some (some (0, .func (.func 144) #[.pointer (some ⟨gp, 0, none⟩)] #[])) := by rfl
theorem find_M1 (gp : Nat) : Instr.findNow .string (.string sFunction) (esM gp).toList 0 = some (some (1, .func (.func 145) #[.pointer (some ⟨gp, 0, none⟩)] #[])) := by rfl
theorem find_M2 (gp : Nat) : Instr.findNow .string (.string sPrint) (esM gp).toList 0 = some (some (2, .func (.func 146) #[.pointer (some ⟨gp, 0, none⟩)] #[])) := by rfl
theorem find_M3 (gp : Nat) : Instr.findNow .string (.string sThrow) (esM gp).toList 0 = some (some (3, .func (.func 147) #[.pointer (some ⟨gp, 0, none⟩)] #[])) := by rfl
theorem find_M4 (gp : Nat) : Instr.findNow .string (.string sImport) (esM gp).toList 0 = some (some (4, .func (.func 149) #[.pointer (some ⟨gp, 0, none⟩)] #[])) := by rfl
theorem find_M5 (gp : Nat) : Instr.findNow .string (.string sExport) (esM gp).toList 0 = some (some (5, .func (.func 150) #[.pointer (some ⟨gp, 0, none⟩)] #[])) := by rfl
theorem miss_M (gp : Nat) (x : ByteArray) (h0 : (x == sLet) = false) (h1 : (x == sFunction) = false) (h2 : (x == sPrint) = false) (h3 : (x == sThrow) = false) (h4 : (x == sImport) = false) (h5 : (x == sExport) = false) : Instr.findNow .string (.string x) (esM gp).toList 0 = some none := by
  simp [esM, eM, Instr.findNow, Instr.sameNow, h0, h1, h2, h3, h4, h5]
end Go.Proofs.YticdggnnpjachaaGreat
namespace Go.Proofs.YticdggnnpjachaaGreat
open Go.RowKit Go.PlainAid Go.Sort

def itemI (C : Cx) (q : PS) : PR :=
  if isT C q.pos 1 sLet then letJ C 1 (adv q)
  else if isT C q.pos 1 sFunction then fnI C (adv q)
  else if isT C q.pos 1 sPrint then printI C (adv q)
  else if isT C q.pos 1 sThrow then stmtI C 5 sNone cSemi (adv q)
  else if C.scr && isT C q.pos 1 sFail then stmtI C 6 sNone cSemi (adv q)
  else if !C.scr && isT C q.pos 1 sImport then impItemI C (adv q)
  else if !C.scr && isT C q.pos 1 sExport then expItemI C (adv q)
  else letJ C 3 q
theorem stmt_semi (C : Cx) (k : Int) (n : ByteArray) (q : PS) : stmtI C k n cSemi q = bd (bd (bd (pE C .sum 0 q) (tokP C 4 cSemi)) (addSt C k n)) .ok := by
  rw [bd_pure, bd_bd, stmtI]
  refine bd_congr fun a _ => ?_
  rw [show signsP C cSemi cSemi.size 0 a = tokP C 4 cSemi a from signs_one C 59 a]
theorem stmt_semi' (C : Cx) (k : Int) (n : ByteArray) (q : PS) : bd (bd (pE C .sum 0 q) (tokP C 4 cSemi)) (addSt C k n) = stmtI C k n cSemi q := by rw [stmt_semi, bd_pure]
theorem stmt_two (C : Cx) (k : Int) (n : ByteArray) (q : PS) : bd (bd (bd (pE C .sum 0 q) (tokP C 4 cShut)) (tokP C 4 cSemi)) (addSt C k n) = stmtI C k n cShutSemi q := by
  rw [bd_bd, bd_bd, stmtI]
  refine bd_congr fun a _ => ?_
  rw [show signsP C cShutSemi cShutSemi.size 0 a = bd (tokP C 4 cShut a) (tokP C 4 cSemi) from signs_two C 41 59 a, bd_bd]
theorem stmt_right (C : Cx) (k : Int) (n : ByteArray) (q : PS) : bd (bd (bd (pE C .sum 0 q) (tokP C 4 cSemi)) (tokP C 4 cRight)) (addSt C k n) = stmtI C k n cSemiRight q := by
  rw [bd_bd, bd_bd, stmtI]
  refine bd_congr fun a _ => ?_
  rw [show signsP C cSemiRight cSemiRight.size 0 a = bd (tokP C 4 cSemi a) (tokP C 4 cRight) from signs_two C 59 125 a, bd_bd]
theorem letP_is {C : Cx} {q : PS} (h : isT C q.pos 1 sLet = true) : letP C q = bd (letJ C 1 (adv q)) fun a => .ok (a, (tokAt C (q.pos + 1)).text) := by
  rw [letP, withN, tok_pass h, bd_ok, letJ, bd_bd]
  refine bd_congr fun a ha => ?_
  rw [bd_bd, bd_ok, bd_bd, bd_bd, bd_bd]
  refine bd_congr fun b _ => ?_
  rw [← bd_bd, ← bd_bd, stmt_semi', (nameP_ok ha).1]
  rfl
theorem fnP_is {C : Cx} {q : PS} (h : isT C q.pos 1 sFunction = true) : fnP C q = bd (fnI C (adv q)) fun a => .ok (a, (tokAt C (q.pos + 1)).text) := by
  rw [fnP, withN, tok_pass h, bd_ok, fnI, bd_bd]
  refine bd_congr fun a ha => ?_
  rw [show signsP C cCall cCall.size 0 a.1 = bd (tokP C 4 cOpen a.1) fun a => bd (tokP C 4 cShut a) (tokP C 4 cLeft) from signs_three C 40 41 123 a.1, bd_bd, bd_bd, bd_ok]
  rw [(nameP_ok ha).1]
  simp only [bd_bd, ← stmt_right]
  rfl
theorem fst_is (x : PR) (n : ByteArray) : fstP (bd x fun a => .ok (a, n)) = x := by rw [fstP, bd_bd]; exact bd_pure x
theorem impFrom_is (C : Cx) (l : List Ep) (q : PS) : impFromI C l q = bd (semiN C (tailS C (.ok q))) fun b => addAll (fun e => addIm C (impOf b.2 e)) l (.ok b.1) := by
  rw [impFromI, semiN, tailS, bd_ok, bd_bd, bd_bd]
  refine bd_congr fun a _ => bd_congr fun b _ => ?_
  rw [bd_bd]
  rfl
theorem importP_is {C : Cx} {q : PS} (h : isT C q.pos 1 sImport = true) : importP C q = impItemI C (adv q) := by
  rw [importP, tok_pass h, bd_ok, impItemI]
  cases h1 : isT C (adv q).pos 4 cLeft with
  | true =>
    have hk : ((tokAt C (adv q).pos).kind == 3) = false := by
      have := isT_kindT h1
      rw [beq_iff_eq] at this
      rw [this]
      rfl
    rw [hk]
    simp only [Bool.false_eq_true, ↓reduceIte]
    rw [listP, tok_pass h1, bd_ok]
    refine bd_congr fun a _ => ?_
    rw [impFrom_is]
  | false =>
    cases h2 : isT C (adv q).pos 4 cStar with
    | true =>
      have hk : ((tokAt C (adv q).pos).kind == 3) = false := by
        have := isT_kindT h2
        rw [beq_iff_eq] at this
        rw [this]
        rfl
      rw [hk]
      simp only [Bool.false_eq_true, ↓reduceIte]
      rw [tok_pass h2, bd_ok, bd_bd]
      refine bd_congr fun a _ => bd_congr fun b _ => ?_
      rw [impFrom_is]
      rfl
    | false =>
      cases hp : plainB C (adv q).pos false with
      | true =>
        have hk : ((tokAt C (adv q).pos).kind == 3) = false := by
          have hp' := hp
          simp only [plainB, Bool.and_eq_true, beq_iff_eq] at hp'
          rw [hp'.1]
          rfl
        rw [hk]
        simp only [Bool.false_eq_true, ↓reduceIte]
        refine bd_congr fun a _ => ?_
        rw [impFrom_is]
        rfl
      | false =>
        cases hk : ((tokAt C (adv q).pos).kind == 3) with
        | true => simp only [Bool.false_eq_true, ↓reduceIte]
        | false =>
          simp only [Bool.false_eq_true, ↓reduceIte]
          rw [specP, hk, nameP, hp]
          rfl
theorem expLoc_is (C : Cx) (l : List Ep) (q : PS) (h : isT C q.pos 1 sFrom = false) (ha : anyB l = false) : expNamesI C l q = bd (tokP C 4 cSemi q) fun q => addAll (fun e => addEp C (expLoc e)) l (.ok q) := by rw [expNamesI, h, ha]; rfl
theorem expFrom_is (C : Cx) (l : List Ep) (q : PS) (h : (isT C q.pos 1 sFrom || anyB l) = true) : expNamesI C l q = bd (semiN C (tailS C (.ok q))) fun b => addAll (fun e => addEp C (expFrom b.2 e)) l (.ok b.1) := by
  rw [expNamesI, h, if_pos rfl, semiN, tailS, bd_ok, bd_bd, bd_bd]
  refine bd_congr fun a _ => bd_congr fun b _ => ?_
  rw [bd_bd]
  rfl
theorem exportP_is {C : Cx} {q : PS} (h : isT C q.pos 1 sExport = true) : exportP C q = expItemI C (adv q) := by
  rw [exportP, tok_pass h, bd_ok, expItemI]
  cases h1 : isT C (adv q).pos 4 cLeft with
  | true =>
    simp only [↓reduceIte]
    rw [listP, tok_pass h1, bd_ok]
    refine bd_congr fun a _ => ?_
    cases hi : isT C a.1.pos 1 sFrom with
    | true => rw [expFrom_is C a.2 a.1 (by rw [hi]; rfl), if_neg (by simp)]
    | false =>
      cases ha : anyB a.2 with
      | true => rw [expFrom_is C a.2 a.1 (by rw [ha]; simp), if_neg (by simp)]
      | false => rw [expLoc_is C a.2 a.1 hi ha, if_pos (by simp)]
  | false =>
    cases h2 : isT C (adv q).pos 4 cStar with
    | true =>
      simp only [Bool.false_eq_true, ↓reduceIte]
      rw [tok_pass h2, semiN, tailS, bd_ok, bd_bd, bd_bd]
      refine bd_congr fun a _ => bd_congr fun b _ => ?_
      rw [bd_bd]
      rfl
    | false =>
      cases h3 : isT C (adv q).pos 1 sDefault with
      | true =>
        simp only [Bool.false_eq_true, ↓reduceIte]
        rw [tok_pass h3, bd_ok, stmt_semi']
      | false =>
        cases h4 : isT C (adv q).pos 1 sLet with
        | true =>
          simp only [Bool.false_eq_true, ↓reduceIte]
          rw [letP_is h4, bd_bd]
          rfl
        | false =>
          cases h5 : isT C (adv q).pos 1 sFunction with
          | true =>
            simp only [Bool.false_eq_true, ↓reduceIte]
            rw [fnP_is h5, bd_bd]
            rfl
          | false => simp only [Bool.false_eq_true, ↓reduceIte]
theorem isT_other {C : Cx} {i : Nat} {x y : ByteArray} (h : isT C i 1 x = true) (hn : (x.toList == y.toList) = false) : isT C i 1 y = false := by
  have e := isT_text h
  rw [isT, e, hn]
  simp
theorem item_is (C : Cx) (q : PS) : itemI C q = itemP C q := by
  rw [itemI, itemP]
  cases h1 : isT C q.pos 1 sLet with
  | true =>
    rw [isT_other h1 (y := sImport) (by simp), isT_other h1 (y := sExport) (by simp)]
    simp only [Bool.false_eq_true, ↓reduceIte, Bool.and_false]
    rw [letP_is h1, fst_is]
  | false =>
    cases h2 : isT C q.pos 1 sFunction with
    | true =>
      rw [isT_other h2 (y := sImport) (by simp), isT_other h2 (y := sExport) (by simp)]
      simp only [Bool.false_eq_true, ↓reduceIte, Bool.and_false]
      rw [fnP_is h2, fst_is]
    | false =>
      cases h3 : isT C q.pos 1 sPrint with
      | true =>
        rw [isT_other h3 (y := sImport) (by simp), isT_other h3 (y := sExport) (by simp)]
        simp only [Bool.false_eq_true, ↓reduceIte, Bool.and_false]
        rw [tok_pass h3, bd_ok, printI, bd_bd, bd_bd, bd_bd]
        refine bd_congr fun a _ => ?_
        rw [← stmt_two, bd_bd, bd_bd]
      | false =>
        cases h4 : isT C q.pos 1 sThrow with
        | true =>
          rw [isT_other h4 (y := sImport) (by simp), isT_other h4 (y := sExport) (by simp)]
          simp only [Bool.false_eq_true, ↓reduceIte, Bool.and_false]
          rw [tok_pass h4, bd_ok, stmt_semi']
        | false =>
          cases hs : C.scr with
          | true =>
            cases h5 : isT C q.pos 1 sFail with
            | true =>
              simp only [Bool.false_eq_true, ↓reduceIte, Bool.not_true, Bool.false_and, Bool.and_self]
              rw [tok_pass h5, bd_ok, stmt_semi']
            | false =>
              simp only [Bool.false_eq_true, ↓reduceIte, Bool.not_true, Bool.false_and, Bool.and_false]
              rw [letJ]
              refine bd_congr fun a _ => ?_
              rw [bd_bd, bd_bd]
              refine bd_congr fun b _ => ?_
              rw [← bd_bd, stmt_semi']
          | false =>
            cases h6 : isT C q.pos 1 sImport with
            | true =>
              simp only [Bool.false_eq_true, ↓reduceIte, Bool.not_false, Bool.false_and, Bool.and_self]
              rw [importP_is h6]
            | false =>
              cases h7 : isT C q.pos 1 sExport with
              | true =>
                simp only [Bool.false_eq_true, ↓reduceIte, Bool.not_false, Bool.false_and, Bool.and_self, Bool.and_false]
                rw [exportP_is h7]
              | false =>
                simp only [Bool.false_eq_true, ↓reduceIte, Bool.not_false, Bool.false_and, Bool.and_false]
                rw [letJ]
                refine bd_congr fun a _ => ?_
                rw [bd_bd, bd_bd]
                refine bd_congr fun b _ => ?_
                rw [← bd_bd, stmt_semi']
end Go.Proofs.YticdggnnpjachaaGreat
namespace Go.Proofs.YticdggnnpjachaaGreat
open Go.RowKit Go.PlainAid

theorem step_rows {P : Program} {ops : Array Oper} {o : Oper} {a : Act} {W : World} {K : Act → World → Prop} {Q : Exit → Act → World → Prop} {E : Prop} (hgd : o.guard = none) (s x : Operand) (t : TypeId)
    (ho : o.op = .call { callee := .builtin .append, args := #[s, x], argTypes := #[t, t] })
    (base : Nat) (e : TypeId) (i : TypeInfo) (z : Value) (size bytes : Nat) (ht : P.underlying t = some (.slice e)) (hi : P.info? e = some i) (hz : i.zero = some z) (hsize : i.size = size) (hby : i.bytes = bytes) (hzs : z.cells.size = size) (hsz : 0 < size) (h100 : bytes ≤ 100)
    (r : Rw) (n : Nat) (xs : List Value) (hs : a.eval s = .slice r.a n r.cap) (hown : OwnR W base e size r n xs)
    (gx m c base2 : Nat) (news : List Value) (hx : a.eval x = .slice (some ⟨gx, 0, none⟩) m c) (hg : OwnR W base2 e size ⟨some ⟨gx, 0, none⟩, c⟩ m news) (h1 : ∀ u ∈ news, u.oneCell' = true) (hn : n + m ≤ 1000000) (hbase : base ≤ W.heap.size)
    (h : ∀ r' w', OwnR w' base e size r' (n + m) (xs ++ news) → W.grownBy w' r.blk → (r'.blk = r.blk ∨ r'.blk = some W.heap.size) → K (a.put o.dst (.slice r'.a (n + m : Nat) r'.cap)) w') :
    if Region.wanted o (yielded ops a.tmps) = true then Oper.wp P o a W K Q else E := by
  have hw : Region.wanted o (yielded ops a.tmps) = true := by simp [Region.wanted, hgd]
  rw [if_pos hw]
  obtain ⟨v', w', hr, h2, h3, _, h5⟩ := run_append_own_at (P := P) W base t o.type e i z size bytes ht hi hz hsize hby hzs hsz _ n xs hown ⟨gx, 0, none⟩ m c news hg.1 (by
    intro j u hj
    have e1 : (⟨gx, 0, none⟩ : Addr).add j = ⟨gx, j, none⟩ := by simp [Addr.add]; exact fun h => h.symm
    have hlt : j < news.length := (List.getElem?_eq_some_iff.1 hj).1
    rw [e1, World.ownsRow.cellAt hg j (by rw [← hg.1]; exact hlt)]
    exact hj) h1 (by unfold maxLen; omega) (by have : (n + m) * bytes ≤ 1000000 * 100 := Nat.mul_le_mul hn h100; omega) hbase
  unfold Oper.wp execOp
  simp only [ho, resolve, invoke, builtin, Sem.run_bind, Sem.run_pure, Result.andThen_ok, List.map_toArray, List.map_cons, List.map_nil, hs, hx, hr]
  rcases h2.2 with ⟨hv, hn0⟩ | ⟨g', cap', cur, rfl, hrest⟩
  · subst hv
    have := h ⟨none, 0⟩ w' (by rw [hn0] at h2 ⊢; exact h2) (by rw [← blk_any r n]; exact h3) (by rw [← blk_any r n]; exact h5)
    rw [hn0] at this
    exact this
  · refine h ⟨some ⟨g', 0, none⟩, cap'⟩ w' h2 ?_ ?_
    · rw [← blk_any r n]; exact h3
    · rw [← blk_any r n, ← blk_any ⟨some ⟨g', 0, none⟩, cap'⟩ (n + m)]; exact h5
theorem step_nil {P : Program} {ops : Array Oper} {o : Oper} {a : Act} {W : World} {K : Act → World → Prop} {Q : Exit → Act → World → Prop} {E : Prop} (hgd : o.guard = none) (s x : Operand) (t : TypeId)
    (ho : o.op = .call { callee := .builtin .append, args := #[s, x], argTypes := #[t, t] })
    (e : TypeId) (i : TypeInfo) (ht : P.underlying t = some (.slice e)) (hi : P.info? e = some i) (base size n : Nat)
    (r : Rw) (xs : List Value) (hs : a.eval s = .slice r.a n r.cap) (hown : OwnR W base e size r n xs) (hx : a.eval x = .slice none 0 0)
    (h : K (a.put o.dst (.slice r.a n r.cap)) W) : if Region.wanted o (yielded ops a.tmps) = true then Oper.wp P o a W K Q else E := by
  have hw : Region.wanted o (yielded ops a.tmps) = true := by simp [Region.wanted, hgd]
  rw [if_pos hw]
  have hr : (Builtin.append_ #[t, t] o.type #[.slice r.a n r.cap, .slice none 0 0]).run P W = .ok (.slice r.a n r.cap) W := by
    rcases hown.2 with ⟨hv, _⟩ | ⟨g, cap, cur, hv, _, _, hn, _⟩
    · rw [hv]
      simp [Builtin.append_, run_underlying ht, sizeOf, typeInfo, hi, Builtin.lenOf, Builtin.firstCells]
    · rw [hv]
      simp [Builtin.append_, run_underlying ht, sizeOf, typeInfo, hi, Builtin.lenOf, Builtin.firstCells, loadCells, hn, storeCells]
  unfold Oper.wp execOp
  simp only [ho, resolve, invoke, builtin, Sem.run_bind, Sem.run_pure, Result.andThen_ok, List.map_toArray, List.map_cons, List.map_nil, hs, hx, hr]
  exact h
theorem Mem.wholeI {C : Cx} {gt cap base b : Nat} {S : Sv} {q : PS} {W w' wF : World} {r' : Rw} (hm : Mem C gt cap base S q W) (hg : W.grownBy w' S.ep.blk) (hr : OwnR w' base 102 4 r' (q.ep.length + q.la.length) (q.ep.flatMap epL ++ q.la.flatMap epL)) (hat : r'.blk = S.ep.blk ∨ r'.blk = some W.heap.size) (hb : b < W.heap.size) (hfree : ¬ S.has b)
    (hF : ∀ k, k ≠ b → wF.heap[k]? = w'.heap[k]?) : OwnMod wF base { S with ep := r' } q := by
  have hlen : (q.ep ++ q.la).length = q.ep.length + q.la.length := by simp
  have hk : ∀ (r : Rw) (e : TypeId) (size n : Nat) (xs : List Value), OwnR W base e size r n xs → e ≠ 102 → (∀ k, r.blk = some k → S.has k) → OwnR wF base e size r n xs := fun r e size n xs h he hs =>
    h.keep fun k g => (hF k (fun eq => hfree (by rw [← eq]; exact hs k g))).trans (hg.block k (h.typed g).2.1 fun e' => (h.ne hm.own.ep he g) e'.symm)
  refine ⟨hk _ _ _ _ _ hm.own.rq (by decide) fun k g => .inl g, hk _ _ _ _ _ hm.own.im (by decide) fun k g => .inr (.inl g), ?_, hk _ _ _ _ _ hm.own.st (by decide) fun k g => .inr (.inr (.inr (.inl g))), hk _ _ _ _ _ hm.own.ex (by decide) fun k g => .inr (.inr (.inr (.inr (.inl g)))), hm.inv.rq, hm.inv.im, hm.inv.ep, hm.inv.st, hm.inv.ex⟩
  rw [hlen, List.flatMap_append]
  refine hr.keep fun k g => hF k ?_
  rcases hat with e | e
  · intro eq
    exact hfree (by rw [← eq]; exact .inr (.inr (.inl (by rw [← e]; exact g))))
  · have : W.heap.size = k := Option.some.inj (e.symm.trans g)
    omega
theorem Mem.wholeI0 {C : Cx} {gt cap base b : Nat} {S : Sv} {q : PS} {W wF : World} (hm : Mem C gt cap base S q W) (hl : q.la = []) (hfree : ¬ S.has b)
    (hF : ∀ k, k ≠ b → wF.heap[k]? = W.heap[k]?) : OwnMod wF base S q := by
  have hk : ∀ (r : Rw) (e : TypeId) (size n : Nat) (xs : List Value), OwnR W base e size r n xs → (∀ k, r.blk = some k → S.has k) → OwnR wF base e size r n xs := fun r e size n xs h hs =>
    h.keep fun k g => hF k (fun eq => hfree (by rw [← eq]; exact hs k g))
  refine ⟨hk _ _ _ _ _ hm.own.rq fun k g => .inl g, hk _ _ _ _ _ hm.own.im fun k g => .inr (.inl g), ?_, hk _ _ _ _ _ hm.own.st fun k g => .inr (.inr (.inr (.inl g))), hk _ _ _ _ _ hm.own.ex fun k g => .inr (.inr (.inr (.inr (.inl g)))), hm.inv.rq, hm.inv.im, hm.inv.ep, hm.inv.st, hm.inv.ex⟩
  rw [hl, List.append_nil]
  exact hk _ _ _ _ _ hm.own.ep fun k g => .inr (.inr (.inl g))
end Go.Proofs.YticdggnnpjachaaGreat
namespace Go.Proofs.YticdggnnpjachaaGreat
open Go.RowKit Go.PlainAid Go.Sort

theorem word_hit {C : Cx} {i : Nat} {k : ByteArray} (h : isT C i 1 k = true) : itemWordI C i = k := by
  rw [itemWordI, isT_kindT h, isT_text h]
  rfl
theorem word_miss {C : Cx} {i : Nat} {k : ByteArray} (h : isT C i 1 k = false) (hk : sNone ≠ k) : (itemWordI C i == k) = false := by
  rw [Bool.eq_false_iff]
  intro e
  rw [MapKept.bytes_beq] at e
  cases h1 : ((tokAt C i).kind == 1) with
  | false =>
    rw [itemWordI, h1] at e
    exact hk e
  | true =>
    rw [itemWordI, h1, if_pos rfl] at e
    rw [isT, h1, e] at h
    simp at h
theorem map_step {C : Cx} {gt cap base gp g c : Nat} {S S' : Sv} {q : PS} {W w' : World} {es : Array MapEntry} (h : IM C gt cap base gp S q W) (hg : W.heap[g]? = some (.map es c)) (s : IS gp S W S' w') : w'.heap[g]? = some (.map es c) := by
  refine (s.block g (Array.getElem?_eq_some_iff.1 hg).1 (fun k => ?_) (fun e => ?_)).trans hg
  · rcases k with k | k | k | k | k | k
    · obtain ⟨_, _, c, e⟩ := h.mem.own.rq.typed k
      rw [hg] at e; cases e
    · obtain ⟨_, _, c, e⟩ := h.mem.own.im.typed k
      rw [hg] at e; cases e
    · obtain ⟨_, _, c, e⟩ := h.mem.own.ep.typed k
      rw [hg] at e; cases e
    · obtain ⟨_, _, c, e⟩ := h.mem.own.st.typed k
      rw [hg] at e; cases e
    · obtain ⟨_, _, c, e⟩ := h.mem.own.ex.typed k
      rw [hg] at e; cases e
    · obtain ⟨_, _, c, e⟩ := h.mem.own.la.typed k
      rw [hg] at e; cases e
  · have := h.cells
    rw [← e, hg] at this
    cases this
theorem items_go {C : Cx} {q : PS} {y : PR} (hp : q.pos < C.ts.length) (hy : itemI C q = y) : itemsP C q = bd y (itemsP C) := by rw [itemsP_step, if_pos hp, ← item_is, hy]
theorem items_end {C : Cx} {q : PS} (hp : ¬ q.pos < C.ts.length) : itemsP C q = .ok q := by rw [itemsP_step, if_neg hp]
theorem item_pos {C : Cx} {q a : PS} {y : PR} (hy : itemI C q = y) (h : y = .ok a) : q.pos < a.pos := itemP_pos (by rw [← item_is, hy, h])
def PrOut (base gp : Nat) (y : PR) (w : World) (e : Ending) (w' : World) : Prop :=
  match y with
  | .ok q => e = .returned (.tuple #[]) ∧ ∃ S, OwnMod w' base S q ∧ (∃ v0 v1 v2 v3 v9, w'.heap[gp]? = some (.cells #[v0, v1, v2, v3, .slice S.rq.a q.rq.length S.rq.cap, .slice S.im.a q.im.length S.im.cap, .slice S.ep.a (q.ep ++ q.la).length S.ep.cap, .slice S.st.a q.st.length S.st.cap, .slice S.ex.a q.ex.length S.ex.cap, v9] 59 (0, 0))) ∧ Below base w w'
  | .error p => e = Pan p ∧ Below base w w'

set_option maxRecDepth 100000 in
set_option maxHeartbeats 3200000 in
theorem program_S (C : Cx) (gt cap base gp : Nat) (S : Sv) (q : PS) (w : World) (h : IM C gt cap base gp S q w) (hs : C.scr = true) :
    Calls Tryz.prog 24 #[.pointer (some ⟨gp, 0, none⟩)] w (PrOut base gp (itemsP C q) w) := by
  obtain ⟨i0, hi, hz0, hz1, hz2⟩ := info_parts Tryz.infoExp
  have HH := hidI h
  clear h
  go_enter Tryz.func24, Tryz.ntmps24
  go_wp2_with fail
  refine (items_S C gt cap base gp S q _ HH.out hs).mono ?_
  rintro e w1 ⟨rfl, hg, hb⟩
  have HM1 : Hid (IM C gt cap base gp S q w1) := HH.out.later hb
  have HS1 : Hid (IS gp S w S w1) := IS.below hb
  have HG1 := hidI hg
  clear hg hb
  go_wp2
  go_loopg [] (C.ts.length + 1) (fun k wr => ∃ (S' : Sv) (q' : PS), itemsP C q = itemsP C q' ∧ C.ts.length - q'.pos < k ∧ IM C gt cap base gp S' q' wr ∧ IS gp S w S' wr ∧ wr.heap[w.heap.size]? = some (.map (esS gp) 5))
  case atStart => exact ⟨S, q, rfl, by omega, HM1.out, HS1.out, HG1.out⟩
  case round =>
    obtain ⟨S', q', hy, hk, m', s', g'⟩ := hrel
    have HYr := hidI hy
    have HMr : Hid (IM C gt cap base gp S' q' wr) := m'
    have HSr : Hid (IS gp S w S' wr) := s'
    have HGr : Hid (wr.heap[w.heap.size]? = some (.map (esS gp) 5)) := g'
    obtain ⟨c0, c1, _, _, _, _, _, _, _, _, _⟩ := box10_of m'.cells
    have C0 := hidI c0
    have C1 := hidI c1
    have hpl := m'.mem.inv.pos
    have hfew := m'.mem.few
    clear hy m' s' g' c0 c1
    have k0 := cell_regrown C0.out
    have k1 := cell_regrown C1.out
    by_cases hp : q'.pos < C.ts.length
    · have hpi : ((q'.pos : Int) < (C.ts.length : Int)) := by omega
      go_wp2_with fail
      refine wp_region_quiet_below (by kernel_rfl) (by kernel_rfl) ?_
      repeat (go_big_quiet_step (fail))
      refine wpQuiet_nil ?_
      intro w2 hw'
      obtain ⟨⟨dq, osq⟩, hw''⟩ := hw'
      have HB2 : Hid (Below wr.heap.size wr w2) := by show Below _ _ _; rw [hw'']; exact below_regrown _ _ _
      clear hw'' k0 k1 C0 C1
      have HM2 : Hid (IM C gt cap base gp S' q' w2) := HMr.out.later HB2.out
      have HS2 : Hid (IS gp S w S' w2) := HSr.out.trans (IS.below HB2.out)
      have HG2 : Hid (w2.heap[w.heap.size]? = some (.map (esS gp) 5)) := map_step HMr.out HGr.out (IS.below HB2.out)
      go_wp2_with fail
      refine (itemWord_any C gt cap base gp S' q' _ HM2.out).mono ?_
      rintro e w3 ⟨rfl, hb⟩
      have HM3 : Hid (IM C gt cap base gp S' q' w3) := HM2.out.later hb
      have HS3 : Hid (IS gp S w S' w3) := HS2.out.trans (IS.below hb)
      have HG3 : Hid (w3.heap[w.heap.size]? = some (.map (esS gp) 5)) := map_step HM2.out HG2.out (IS.below hb)
      clear hb
      have hne : w.heap.size ≠ gp := by have := HH.out.lt; omega
      obtain ⟨c0, c1, c2, c3, c4, c5, c6, c7, c8, c9, cf⟩ := box10_of HM3.out.cells
      cases t0 : isT C q'.pos 1 sLet with
      | true =>
        have hit : itemI C q' = letJ C 1 (adv q') := by rw [itemI, t0]; rfl
        have HZ := hidI (HYr.out.trans (items_go hp hit))
        have HIT := hidI hit
        clear hit
        rw [word_hit t0]
        have rlk := look_hit HG3.out (find_S0 gp)
        go_wp2_with fail
        have HM4 : Hid (IM C gt cap base gp S' (adv q') (w3.setCell ⟨gp, 1, none⟩ (.int .i64 ((q'.pos : Int) + 1)))) := HM3.out.adv hp
        have HS4 : Hid (IS gp S w S' (w3.setCell ⟨gp, 1, none⟩ (.int .i64 ((q'.pos : Int) + 1)))) := HS3.out.set _ _
        have HG4 : Hid ((w3.setCell ⟨gp, 1, none⟩ (.int .i64 ((q'.pos : Int) + 1))).heap[w.heap.size]? = some (.map (esS gp) 5)) := (pother hne).trans HG3.out
        refine (letItem_any C gt cap base gp S' (adv q') _ HM4.out).mono ?_
        cases hn5 : letJ C 1 (adv q') with
        | error p =>
          rintro e w5 ⟨rfl, hb⟩
          have HB : Hid (Below base w w5) := (HH.out.back HS4.out).trans hb
          have HX : Hid (itemsP C q = .error p) := bdE HZ.out hn5
          unfold Pan
          go_wp2
          refine ⟨rfl, ?_⟩
          rw [HX.out]
          exact ⟨rfl, HB.out⟩
        | ok a5 =>
          rintro e w5 ⟨rfl, S5, m, s⟩
          have HG5 : Hid (w5.heap[w.heap.size]? = some (.map (esS gp) 5)) := map_step HM4.out HG4.out s
          have HM5 := hidI m
          have HS5 : Hid (IS gp S w S5 w5) := HS4.out.trans s
          clear m s
          have HY5 := hidI (bdO HZ.out hn5)
          have HP5 := hidI (item_pos HIT.out hn5)
          go_wp2
          go_roundg (gk - 1)
          case rel => exact ⟨S5, a5, HY5.out, by have := HP5.out; omega, HM5.out, HS5.out, HG5.out⟩
          case measure => omega
      | false =>
        cases t1 : isT C q'.pos 1 sFunction with
        | true =>
          have hit : itemI C q' = fnI C (adv q') := by rw [itemI, t0, t1]; simp only [Bool.false_eq_true, ↓reduceIte]
          have HZ := hidI (HYr.out.trans (items_go hp hit))
          have HIT := hidI hit
          clear hit
          rw [word_hit t1]
          have rlk := look_hit HG3.out (find_S1 gp)
          go_wp2_with fail
          have HM4 : Hid (IM C gt cap base gp S' (adv q') (w3.setCell ⟨gp, 1, none⟩ (.int .i64 ((q'.pos : Int) + 1)))) := HM3.out.adv hp
          have HS4 : Hid (IS gp S w S' (w3.setCell ⟨gp, 1, none⟩ (.int .i64 ((q'.pos : Int) + 1)))) := HS3.out.set _ _
          have HG4 : Hid ((w3.setCell ⟨gp, 1, none⟩ (.int .i64 ((q'.pos : Int) + 1))).heap[w.heap.size]? = some (.map (esS gp) 5)) := (pother hne).trans HG3.out
          refine (functionItem_any C gt cap base gp S' (adv q') _ HM4.out).mono ?_
          cases hn5 : fnI C (adv q') with
          | error p =>
            rintro e w5 ⟨rfl, hb⟩
            have HB : Hid (Below base w w5) := (HH.out.back HS4.out).trans hb
            have HX : Hid (itemsP C q = .error p) := bdE HZ.out hn5
            unfold Pan
            go_wp2
            refine ⟨rfl, ?_⟩
            rw [HX.out]
            exact ⟨rfl, HB.out⟩
          | ok a5 =>
            rintro e w5 ⟨rfl, S5, m, s⟩
            have HG5 : Hid (w5.heap[w.heap.size]? = some (.map (esS gp) 5)) := map_step HM4.out HG4.out s
            have HM5 := hidI m
            have HS5 : Hid (IS gp S w S5 w5) := HS4.out.trans s
            clear m s
            have HY5 := hidI (bdO HZ.out hn5)
            have HP5 := hidI (item_pos HIT.out hn5)
            go_wp2
            go_roundg (gk - 1)
            case rel => exact ⟨S5, a5, HY5.out, by have := HP5.out; omega, HM5.out, HS5.out, HG5.out⟩
            case measure => omega
        | false =>
          cases t2 : isT C q'.pos 1 sPrint with
          | true =>
            have hit : itemI C q' = printI C (adv q') := by rw [itemI, t0, t1, t2]; simp only [Bool.false_eq_true, ↓reduceIte]
            have HZ := hidI (HYr.out.trans (items_go hp hit))
            have HIT := hidI hit
            clear hit
            rw [word_hit t2]
            have rlk := look_hit HG3.out (find_S2 gp)
            go_wp2_with fail
            have HM4 : Hid (IM C gt cap base gp S' (adv q') (w3.setCell ⟨gp, 1, none⟩ (.int .i64 ((q'.pos : Int) + 1)))) := HM3.out.adv hp
            have HS4 : Hid (IS gp S w S' (w3.setCell ⟨gp, 1, none⟩ (.int .i64 ((q'.pos : Int) + 1)))) := HS3.out.set _ _
            have HG4 : Hid ((w3.setCell ⟨gp, 1, none⟩ (.int .i64 ((q'.pos : Int) + 1))).heap[w.heap.size]? = some (.map (esS gp) 5)) := (pother hne).trans HG3.out
            refine (printItem_any C gt cap base gp S' (adv q') _ HM4.out).mono ?_
            cases hn5 : printI C (adv q') with
            | error p =>
              rintro e w5 ⟨rfl, hb⟩
              have HB : Hid (Below base w w5) := (HH.out.back HS4.out).trans hb
              have HX : Hid (itemsP C q = .error p) := bdE HZ.out hn5
              unfold Pan
              go_wp2
              refine ⟨rfl, ?_⟩
              rw [HX.out]
              exact ⟨rfl, HB.out⟩
            | ok a5 =>
              rintro e w5 ⟨rfl, S5, m, s⟩
              have HG5 : Hid (w5.heap[w.heap.size]? = some (.map (esS gp) 5)) := map_step HM4.out HG4.out s
              have HM5 := hidI m
              have HS5 : Hid (IS gp S w S5 w5) := HS4.out.trans s
              clear m s
              have HY5 := hidI (bdO HZ.out hn5)
              have HP5 := hidI (item_pos HIT.out hn5)
              go_wp2
              go_roundg (gk - 1)
              case rel => exact ⟨S5, a5, HY5.out, by have := HP5.out; omega, HM5.out, HS5.out, HG5.out⟩
              case measure => omega
          | false =>
            cases t3 : isT C q'.pos 1 sThrow with
            | true =>
              have hit : itemI C q' = stmtI C 5 sNone cSemi (adv q') := by rw [itemI, t0, t1, t2, t3]; simp only [Bool.false_eq_true, ↓reduceIte]
              have HZ := hidI (HYr.out.trans (items_go hp hit))
              have HIT := hidI hit
              clear hit
              rw [word_hit t3]
              have rlk := look_hit HG3.out (find_S3 gp)
              go_wp2_with fail
              have HM4 : Hid (IM C gt cap base gp S' (adv q') (w3.setCell ⟨gp, 1, none⟩ (.int .i64 ((q'.pos : Int) + 1)))) := HM3.out.adv hp
              have HS4 : Hid (IS gp S w S' (w3.setCell ⟨gp, 1, none⟩ (.int .i64 ((q'.pos : Int) + 1)))) := HS3.out.set _ _
              have HG4 : Hid ((w3.setCell ⟨gp, 1, none⟩ (.int .i64 ((q'.pos : Int) + 1))).heap[w.heap.size]? = some (.map (esS gp) 5)) := (pother hne).trans HG3.out
              refine (throwItem_any C gt cap base gp S' (adv q') _ HM4.out).mono ?_
              cases hn5 : stmtI C 5 sNone cSemi (adv q') with
              | error p =>
                rintro e w5 ⟨rfl, hb⟩
                have HB : Hid (Below base w w5) := (HH.out.back HS4.out).trans hb
                have HX : Hid (itemsP C q = .error p) := bdE HZ.out hn5
                unfold Pan
                go_wp2
                refine ⟨rfl, ?_⟩
                rw [HX.out]
                exact ⟨rfl, HB.out⟩
              | ok a5 =>
                rintro e w5 ⟨rfl, S5, m, s⟩
                have HG5 : Hid (w5.heap[w.heap.size]? = some (.map (esS gp) 5)) := map_step HM4.out HG4.out s
                have HM5 := hidI m
                have HS5 : Hid (IS gp S w S5 w5) := HS4.out.trans s
                clear m s
                have HY5 := hidI (bdO HZ.out hn5)
                have HP5 := hidI (item_pos HIT.out hn5)
                go_wp2
                go_roundg (gk - 1)
                case rel => exact ⟨S5, a5, HY5.out, by have := HP5.out; omega, HM5.out, HS5.out, HG5.out⟩
                case measure => omega
            | false =>
              cases t4 : isT C q'.pos 1 sFail with
              | true =>
                have hit : itemI C q' = stmtI C 6 sNone cSemi (adv q') := by rw [itemI, t0, t1, t2, t3, t4, hs]; simp only [Bool.false_eq_true, ↓reduceIte, Bool.and_self]
                have HZ := hidI (HYr.out.trans (items_go hp hit))
                have HIT := hidI hit
                clear hit
                rw [word_hit t4]
                have rlk := look_hit HG3.out (find_S4 gp)
                go_wp2_with fail
                have HM4 : Hid (IM C gt cap base gp S' (adv q') (w3.setCell ⟨gp, 1, none⟩ (.int .i64 ((q'.pos : Int) + 1)))) := HM3.out.adv hp
                have HS4 : Hid (IS gp S w S' (w3.setCell ⟨gp, 1, none⟩ (.int .i64 ((q'.pos : Int) + 1)))) := HS3.out.set _ _
                have HG4 : Hid ((w3.setCell ⟨gp, 1, none⟩ (.int .i64 ((q'.pos : Int) + 1))).heap[w.heap.size]? = some (.map (esS gp) 5)) := (pother hne).trans HG3.out
                refine (failItem_any C gt cap base gp S' (adv q') _ HM4.out).mono ?_
                cases hn5 : stmtI C 6 sNone cSemi (adv q') with
                | error p =>
                  rintro e w5 ⟨rfl, hb⟩
                  have HB : Hid (Below base w w5) := (HH.out.back HS4.out).trans hb
                  have HX : Hid (itemsP C q = .error p) := bdE HZ.out hn5
                  unfold Pan
                  go_wp2
                  refine ⟨rfl, ?_⟩
                  rw [HX.out]
                  exact ⟨rfl, HB.out⟩
                | ok a5 =>
                  rintro e w5 ⟨rfl, S5, m, s⟩
                  have HG5 : Hid (w5.heap[w.heap.size]? = some (.map (esS gp) 5)) := map_step HM4.out HG4.out s
                  have HM5 := hidI m
                  have HS5 : Hid (IS gp S w S5 w5) := HS4.out.trans s
                  clear m s
                  have HY5 := hidI (bdO HZ.out hn5)
                  have HP5 := hidI (item_pos HIT.out hn5)
                  go_wp2
                  go_roundg (gk - 1)
                  case rel => exact ⟨S5, a5, HY5.out, by have := HP5.out; omega, HM5.out, HS5.out, HG5.out⟩
                  case measure => omega
              | false =>
                have hit : itemI C q' = letJ C 3 q' := by rw [itemI, t0, t1, t2, t3, t4, hs]; simp only [Bool.false_eq_true, ↓reduceIte, Bool.and_false, Bool.not_true, Bool.false_and]
                have HZ := hidI (HYr.out.trans (items_go hp hit))
                have HIT := hidI hit
                clear hit
                obtain ⟨vz, rlk⟩ := look_miss HG3.out (miss_S gp (itemWordI C q'.pos) (word_miss t0 (by decide)) (word_miss t1 (by decide)) (word_miss t2 (by decide)) (word_miss t3 (by decide)) (word_miss t4 (by decide)))
                go_wp2_with fail
                refine (setItem_any C gt cap base gp S' q' _ HM3.out).mono ?_
                cases hn5 : letJ C 3 q' with
                | error p =>
                  rintro e w5 ⟨rfl, hb⟩
                  have HB : Hid (Below base w w5) := (HH.out.back HS3.out).trans hb
                  have HX : Hid (itemsP C q = .error p) := bdE HZ.out hn5
                  unfold Pan
                  go_wp2
                  refine ⟨rfl, ?_⟩
                  rw [HX.out]
                  exact ⟨rfl, HB.out⟩
                | ok a5 =>
                  rintro e w5 ⟨rfl, S5, m, s⟩
                  have HG5 : Hid (w5.heap[w.heap.size]? = some (.map (esS gp) 5)) := map_step HM3.out HG3.out s
                  have HM5 := hidI m
                  have HS5 : Hid (IS gp S w S5 w5) := HS3.out.trans s
                  clear m s
                  have HY5 := hidI (bdO HZ.out hn5)
                  have HP5 := hidI (item_pos HIT.out hn5)
                  go_wp2
                  go_roundg (gk - 1)
                  case rel => exact ⟨S5, a5, HY5.out, by have := HP5.out; omega, HM5.out, HS5.out, HG5.out⟩
                  case measure => omega
    · have hpi : ¬ ((q'.pos : Int) < (C.ts.length : Int)) := by omega
      go_wp2_with fail
      refine wp_region_quiet_below (by kernel_rfl) (by kernel_rfl) ?_
      repeat (go_big_quiet_step (fail))
      refine wpQuiet_nil ?_
      intro w2 hw'
      obtain ⟨⟨dq, osq⟩, hw''⟩ := hw'
      have HB2 : Hid (Below wr.heap.size wr w2) := by show Below _ _ _; rw [hw'']; exact below_regrown _ _ _
      clear hw'' k0 k1 C0 C1
      have HM2 : Hid (IM C gt cap base gp S' q' w2) := HMr.out.later HB2.out
      have HS2 : Hid (IS gp S w S' w2) := HSr.out.trans (IS.below HB2.out)
      have HG2 : Hid (w2.heap[w.heap.size]? = some (.map (esS gp) 5)) := map_step HMr.out HGr.out (IS.below HB2.out)
      have HX := hidI (HYr.out.trans (items_end hp))
      obtain ⟨c0, c1, c2, c3, c4, c5, c6, c7, c8, c9, cf⟩ := box10_of HM2.out.cells
      have hown := HM2.out.mem.own.ep
      have hin := HM2.out.mem.inv.ep
      have hfree := HM2.out.free
      have HFREE := hidI hfree
      clear hfree
      have hlt := HM2.out.lt
      rcases HM2.out.mem.own.la.nil_or with ⟨ha, hc, hn⟩ | ⟨gl, ha⟩
      · have HN := hidI (List.eq_nil_of_length_eq_zero hn)
        rw [ha, hc, hn] at c9
        clear ha hc hn
        go_wp2_with fail
        go_region_law (first | (refine step_nil rfl (.tmp 41) (.tmp 45) 24 rfl 102 i0 Tryz.underlying24 hi base 4 q'.ep.length S'.ep _ (by rfl) (by exact hown) (by rfl) ?_))
        all_goals
          go_wp2
          go_end0
          rw [HX.out]
          refine ⟨rfl, S', HM2.out.mem.wholeI0 HN.out HFREE.out (fun k hk => pother hk), ⟨.slice (some ⟨gt, 0, none⟩) C.ts.length cap, .int .i64 q'.pos, .int .i64 C.fin, .bool C.scr, .slice S'.la.a q'.la.length S'.la.cap, (qcell HM2.out.cells).trans (by simp [HN.out])⟩, ?_⟩
          exact (HH.out.back (HS2.out.set _ _)).drew
      · have hla : OwnR w2 base 102 4 ⟨some ⟨gl, 0, none⟩, S'.la.cap⟩ q'.la.length (q'.la.flatMap epL) := by have := HM2.out.mem.own.la; unfold OwnR at this ⊢; rw [ha] at this; exact this
        rw [ha] at c9
        have hbs := HM2.out.mem.base
        have HNE : Hid (some gp ≠ S'.ep.blk) := fun e => HFREE.out (.inr (.inr (.inl e.symm)))
        go_wp2_with fail
        go_region_law (first | (refine step_rows rfl (.tmp 41) (.tmp 45) 24 rfl base 102 i0 _ 4 56 Tryz.underlying24 hi hz0 hz1 hz2 rfl (by decide) (by decide) S'.ep q'.ep.length _ (by rfl) (by exact hown) gl q'.la.length S'.la.cap base _ (by rfl) (by exact hla) (eps_one _) (by omega) (by exact hbs) ?_; intro r' wz hr hgr hat; have g2 := (hgr.block gp (by exact hlt) HNE.out).trans (by exact HM2.out.cells); obtain ⟨d0, d1, d2, d3, d4, d5, d6, d7, d8, d9, df⟩ := box10_of g2))
        all_goals
          have HR := hidI hr
          have HGR := hidI hgr
          have HAT := hidI hat
          have HG2 := hidI g2
          clear hr hgr hat g2 c0 c1 c2 c3 c4 c5 c6 c7 c8 c9 cf hown hla
          go_wp2
          go_end0
          rw [HX.out]
          refine ⟨rfl, { S' with ep := r' }, HM2.out.drew.mem.wholeI HGR.out HR.out HAT.out hlt HFREE.out (fun k hk => pother hk), ⟨.slice (some ⟨gt, 0, none⟩) C.ts.length cap, .int .i64 q'.pos, .int .i64 C.fin, .bool C.scr, .slice S'.la.a q'.la.length S'.la.cap, (qcell HG2.out).trans (by simp)⟩, ?_⟩
          exact ((HH.out.back HS2.out).trans ⟨HGR.out.os, HGR.out.tape, HGR.out.output, HGR.out.size, fun k hk => HGR.out.block k (show k < w2.heap.size by omega) (fun e => by have := (HM2.out.mem.own.ep.typed e.symm).1; omega)⟩).setCell HM2.out.ge _
end Go.Proofs.YticdggnnpjachaaGreat
namespace Go.Proofs.YticdggnnpjachaaGreat
open Go.RowKit Go.PlainAid Go.Sort

set_option maxRecDepth 100000 in
set_option maxHeartbeats 3200000 in
theorem program_M (C : Cx) (gt cap base gp : Nat) (S : Sv) (q : PS) (w : World) (h : IM C gt cap base gp S q w) (hC : Sized C) (hs : C.scr = false) :
    Calls Tryz.prog 24 #[.pointer (some ⟨gp, 0, none⟩)] w (PrOut base gp (itemsP C q) w) := by
  obtain ⟨i0, hi, hz0, hz1, hz2⟩ := info_parts Tryz.infoExp
  have HH := hidI h
  clear h
  go_enter Tryz.func24, Tryz.ntmps24
  go_wp2_with fail
  refine (items_M C gt cap base gp S q _ HH.out hs).mono ?_
  rintro e w1 ⟨rfl, hg, hb⟩
  have HM1 : Hid (IM C gt cap base gp S q w1) := HH.out.later hb
  have HS1 : Hid (IS gp S w S w1) := IS.below hb
  have HG1 := hidI hg
  clear hg hb
  go_wp2
  go_loopg [] (C.ts.length + 1) (fun k wr => ∃ (S' : Sv) (q' : PS), itemsP C q = itemsP C q' ∧ C.ts.length - q'.pos < k ∧ IM C gt cap base gp S' q' wr ∧ IS gp S w S' wr ∧ wr.heap[w.heap.size]? = some (.map (esM gp) 6))
  case atStart => exact ⟨S, q, rfl, by omega, HM1.out, HS1.out, HG1.out⟩
  case round =>
    obtain ⟨S', q', hy, hk, m', s', g'⟩ := hrel
    have HYr := hidI hy
    have HMr : Hid (IM C gt cap base gp S' q' wr) := m'
    have HSr : Hid (IS gp S w S' wr) := s'
    have HGr : Hid (wr.heap[w.heap.size]? = some (.map (esM gp) 6)) := g'
    obtain ⟨c0, c1, _, _, _, _, _, _, _, _, _⟩ := box10_of m'.cells
    have C0 := hidI c0
    have C1 := hidI c1
    have hpl := m'.mem.inv.pos
    have hfew := m'.mem.few
    clear hy m' s' g' c0 c1
    have k0 := cell_regrown C0.out
    have k1 := cell_regrown C1.out
    by_cases hp : q'.pos < C.ts.length
    · have hpi : ((q'.pos : Int) < (C.ts.length : Int)) := by omega
      go_wp2_with fail
      refine wp_region_quiet_below (by kernel_rfl) (by kernel_rfl) ?_
      repeat (go_big_quiet_step (fail))
      refine wpQuiet_nil ?_
      intro w2 hw'
      obtain ⟨⟨dq, osq⟩, hw''⟩ := hw'
      have HB2 : Hid (Below wr.heap.size wr w2) := by show Below _ _ _; rw [hw'']; exact below_regrown _ _ _
      clear hw'' k0 k1 C0 C1
      have HM2 : Hid (IM C gt cap base gp S' q' w2) := HMr.out.later HB2.out
      have HS2 : Hid (IS gp S w S' w2) := HSr.out.trans (IS.below HB2.out)
      have HG2 : Hid (w2.heap[w.heap.size]? = some (.map (esM gp) 6)) := map_step HMr.out HGr.out (IS.below HB2.out)
      go_wp2_with fail
      refine (itemWord_any C gt cap base gp S' q' _ HM2.out).mono ?_
      rintro e w3 ⟨rfl, hb⟩
      have HM3 : Hid (IM C gt cap base gp S' q' w3) := HM2.out.later hb
      have HS3 : Hid (IS gp S w S' w3) := HS2.out.trans (IS.below hb)
      have HG3 : Hid (w3.heap[w.heap.size]? = some (.map (esM gp) 6)) := map_step HM2.out HG2.out (IS.below hb)
      clear hb
      have hne : w.heap.size ≠ gp := by have := HH.out.lt; omega
      obtain ⟨c0, c1, c2, c3, c4, c5, c6, c7, c8, c9, cf⟩ := box10_of HM3.out.cells
      cases t0 : isT C q'.pos 1 sLet with
      | true =>
        have hit : itemI C q' = letJ C 1 (adv q') := by rw [itemI, t0]; rfl
        have HZ := hidI (HYr.out.trans (items_go hp hit))
        have HIT := hidI hit
        clear hit
        rw [word_hit t0]
        have rlk := look_hit HG3.out (find_M0 gp)
        go_wp2_with fail
        have HM4 : Hid (IM C gt cap base gp S' (adv q') (w3.setCell ⟨gp, 1, none⟩ (.int .i64 ((q'.pos : Int) + 1)))) := HM3.out.adv hp
        have HS4 : Hid (IS gp S w S' (w3.setCell ⟨gp, 1, none⟩ (.int .i64 ((q'.pos : Int) + 1)))) := HS3.out.set _ _
        have HG4 : Hid ((w3.setCell ⟨gp, 1, none⟩ (.int .i64 ((q'.pos : Int) + 1))).heap[w.heap.size]? = some (.map (esM gp) 6)) := (pother hne).trans HG3.out
        refine (letItem_any C gt cap base gp S' (adv q') _ HM4.out).mono ?_
        cases hn5 : letJ C 1 (adv q') with
        | error p =>
          rintro e w5 ⟨rfl, hb⟩
          have HB : Hid (Below base w w5) := (HH.out.back HS4.out).trans hb
          have HX : Hid (itemsP C q = .error p) := bdE HZ.out hn5
          unfold Pan
          go_wp2
          refine ⟨rfl, ?_⟩
          rw [HX.out]
          exact ⟨rfl, HB.out⟩
        | ok a5 =>
          rintro e w5 ⟨rfl, S5, m, s⟩
          have HG5 : Hid (w5.heap[w.heap.size]? = some (.map (esM gp) 6)) := map_step HM4.out HG4.out s
          have HM5 := hidI m
          have HS5 : Hid (IS gp S w S5 w5) := HS4.out.trans s
          clear m s
          have HY5 := hidI (bdO HZ.out hn5)
          have HP5 := hidI (item_pos HIT.out hn5)
          go_wp2
          go_roundg (gk - 1)
          case rel => exact ⟨S5, a5, HY5.out, by have := HP5.out; omega, HM5.out, HS5.out, HG5.out⟩
          case measure => omega
      | false =>
        cases t1 : isT C q'.pos 1 sFunction with
        | true =>
          have hit : itemI C q' = fnI C (adv q') := by rw [itemI, t0, t1]; simp only [Bool.false_eq_true, ↓reduceIte]
          have HZ := hidI (HYr.out.trans (items_go hp hit))
          have HIT := hidI hit
          clear hit
          rw [word_hit t1]
          have rlk := look_hit HG3.out (find_M1 gp)
          go_wp2_with fail
          have HM4 : Hid (IM C gt cap base gp S' (adv q') (w3.setCell ⟨gp, 1, none⟩ (.int .i64 ((q'.pos : Int) + 1)))) := HM3.out.adv hp
          have HS4 : Hid (IS gp S w S' (w3.setCell ⟨gp, 1, none⟩ (.int .i64 ((q'.pos : Int) + 1)))) := HS3.out.set _ _
          have HG4 : Hid ((w3.setCell ⟨gp, 1, none⟩ (.int .i64 ((q'.pos : Int) + 1))).heap[w.heap.size]? = some (.map (esM gp) 6)) := (pother hne).trans HG3.out
          refine (functionItem_any C gt cap base gp S' (adv q') _ HM4.out).mono ?_
          cases hn5 : fnI C (adv q') with
          | error p =>
            rintro e w5 ⟨rfl, hb⟩
            have HB : Hid (Below base w w5) := (HH.out.back HS4.out).trans hb
            have HX : Hid (itemsP C q = .error p) := bdE HZ.out hn5
            unfold Pan
            go_wp2
            refine ⟨rfl, ?_⟩
            rw [HX.out]
            exact ⟨rfl, HB.out⟩
          | ok a5 =>
            rintro e w5 ⟨rfl, S5, m, s⟩
            have HG5 : Hid (w5.heap[w.heap.size]? = some (.map (esM gp) 6)) := map_step HM4.out HG4.out s
            have HM5 := hidI m
            have HS5 : Hid (IS gp S w S5 w5) := HS4.out.trans s
            clear m s
            have HY5 := hidI (bdO HZ.out hn5)
            have HP5 := hidI (item_pos HIT.out hn5)
            go_wp2
            go_roundg (gk - 1)
            case rel => exact ⟨S5, a5, HY5.out, by have := HP5.out; omega, HM5.out, HS5.out, HG5.out⟩
            case measure => omega
        | false =>
          cases t2 : isT C q'.pos 1 sPrint with
          | true =>
            have hit : itemI C q' = printI C (adv q') := by rw [itemI, t0, t1, t2]; simp only [Bool.false_eq_true, ↓reduceIte]
            have HZ := hidI (HYr.out.trans (items_go hp hit))
            have HIT := hidI hit
            clear hit
            rw [word_hit t2]
            have rlk := look_hit HG3.out (find_M2 gp)
            go_wp2_with fail
            have HM4 : Hid (IM C gt cap base gp S' (adv q') (w3.setCell ⟨gp, 1, none⟩ (.int .i64 ((q'.pos : Int) + 1)))) := HM3.out.adv hp
            have HS4 : Hid (IS gp S w S' (w3.setCell ⟨gp, 1, none⟩ (.int .i64 ((q'.pos : Int) + 1)))) := HS3.out.set _ _
            have HG4 : Hid ((w3.setCell ⟨gp, 1, none⟩ (.int .i64 ((q'.pos : Int) + 1))).heap[w.heap.size]? = some (.map (esM gp) 6)) := (pother hne).trans HG3.out
            refine (printItem_any C gt cap base gp S' (adv q') _ HM4.out).mono ?_
            cases hn5 : printI C (adv q') with
            | error p =>
              rintro e w5 ⟨rfl, hb⟩
              have HB : Hid (Below base w w5) := (HH.out.back HS4.out).trans hb
              have HX : Hid (itemsP C q = .error p) := bdE HZ.out hn5
              unfold Pan
              go_wp2
              refine ⟨rfl, ?_⟩
              rw [HX.out]
              exact ⟨rfl, HB.out⟩
            | ok a5 =>
              rintro e w5 ⟨rfl, S5, m, s⟩
              have HG5 : Hid (w5.heap[w.heap.size]? = some (.map (esM gp) 6)) := map_step HM4.out HG4.out s
              have HM5 := hidI m
              have HS5 : Hid (IS gp S w S5 w5) := HS4.out.trans s
              clear m s
              have HY5 := hidI (bdO HZ.out hn5)
              have HP5 := hidI (item_pos HIT.out hn5)
              go_wp2
              go_roundg (gk - 1)
              case rel => exact ⟨S5, a5, HY5.out, by have := HP5.out; omega, HM5.out, HS5.out, HG5.out⟩
              case measure => omega
          | false =>
            cases t3 : isT C q'.pos 1 sThrow with
            | true =>
              have hit : itemI C q' = stmtI C 5 sNone cSemi (adv q') := by rw [itemI, t0, t1, t2, t3]; simp only [Bool.false_eq_true, ↓reduceIte]
              have HZ := hidI (HYr.out.trans (items_go hp hit))
              have HIT := hidI hit
              clear hit
              rw [word_hit t3]
              have rlk := look_hit HG3.out (find_M3 gp)
              go_wp2_with fail
              have HM4 : Hid (IM C gt cap base gp S' (adv q') (w3.setCell ⟨gp, 1, none⟩ (.int .i64 ((q'.pos : Int) + 1)))) := HM3.out.adv hp
              have HS4 : Hid (IS gp S w S' (w3.setCell ⟨gp, 1, none⟩ (.int .i64 ((q'.pos : Int) + 1)))) := HS3.out.set _ _
              have HG4 : Hid ((w3.setCell ⟨gp, 1, none⟩ (.int .i64 ((q'.pos : Int) + 1))).heap[w.heap.size]? = some (.map (esM gp) 6)) := (pother hne).trans HG3.out
              refine (throwItem_any C gt cap base gp S' (adv q') _ HM4.out).mono ?_
              cases hn5 : stmtI C 5 sNone cSemi (adv q') with
              | error p =>
                rintro e w5 ⟨rfl, hb⟩
                have HB : Hid (Below base w w5) := (HH.out.back HS4.out).trans hb
                have HX : Hid (itemsP C q = .error p) := bdE HZ.out hn5
                unfold Pan
                go_wp2
                refine ⟨rfl, ?_⟩
                rw [HX.out]
                exact ⟨rfl, HB.out⟩
              | ok a5 =>
                rintro e w5 ⟨rfl, S5, m, s⟩
                have HG5 : Hid (w5.heap[w.heap.size]? = some (.map (esM gp) 6)) := map_step HM4.out HG4.out s
                have HM5 := hidI m
                have HS5 : Hid (IS gp S w S5 w5) := HS4.out.trans s
                clear m s
                have HY5 := hidI (bdO HZ.out hn5)
                have HP5 := hidI (item_pos HIT.out hn5)
                go_wp2
                go_roundg (gk - 1)
                case rel => exact ⟨S5, a5, HY5.out, by have := HP5.out; omega, HM5.out, HS5.out, HG5.out⟩
                case measure => omega
            | false =>
              cases t4 : isT C q'.pos 1 sImport with
              | true =>
                have hit : itemI C q' = impItemI C (adv q') := by rw [itemI, t0, t1, t2, t3, t4, hs]; simp only [Bool.false_eq_true, ↓reduceIte, Bool.false_and, Bool.not_false, Bool.and_self]
                have HZ := hidI (HYr.out.trans (items_go hp hit))
                have HIT := hidI hit
                clear hit
                rw [word_hit t4]
                have rlk := look_hit HG3.out (find_M4 gp)
                go_wp2_with fail
                have HM4 : Hid (IM C gt cap base gp S' (adv q') (w3.setCell ⟨gp, 1, none⟩ (.int .i64 ((q'.pos : Int) + 1)))) := HM3.out.adv hp
                have HS4 : Hid (IS gp S w S' (w3.setCell ⟨gp, 1, none⟩ (.int .i64 ((q'.pos : Int) + 1)))) := HS3.out.set _ _
                have HG4 : Hid ((w3.setCell ⟨gp, 1, none⟩ (.int .i64 ((q'.pos : Int) + 1))).heap[w.heap.size]? = some (.map (esM gp) 6)) := (pother hne).trans HG3.out
                refine (importItem_any C gt cap base gp S' (adv q') _ HM4.out hC).mono ?_
                cases hn5 : impItemI C (adv q') with
                | error p =>
                  rintro e w5 ⟨rfl, hb⟩
                  have HB : Hid (Below base w w5) := (HH.out.back HS4.out).trans hb
                  have HX : Hid (itemsP C q = .error p) := bdE HZ.out hn5
                  unfold Pan
                  go_wp2
                  refine ⟨rfl, ?_⟩
                  rw [HX.out]
                  exact ⟨rfl, HB.out⟩
                | ok a5 =>
                  rintro e w5 ⟨rfl, S5, m, s⟩
                  have HG5 : Hid (w5.heap[w.heap.size]? = some (.map (esM gp) 6)) := map_step HM4.out HG4.out s
                  have HM5 := hidI m
                  have HS5 : Hid (IS gp S w S5 w5) := HS4.out.trans s
                  clear m s
                  have HY5 := hidI (bdO HZ.out hn5)
                  have HP5 := hidI (item_pos HIT.out hn5)
                  go_wp2
                  go_roundg (gk - 1)
                  case rel => exact ⟨S5, a5, HY5.out, by have := HP5.out; omega, HM5.out, HS5.out, HG5.out⟩
                  case measure => omega
              | false =>
                cases t5 : isT C q'.pos 1 sExport with
                | true =>
                  have hit : itemI C q' = expItemI C (adv q') := by rw [itemI, t0, t1, t2, t3, t4, t5, hs]; simp only [Bool.false_eq_true, ↓reduceIte, Bool.false_and, Bool.not_false, Bool.and_self, Bool.and_false]
                  have HZ := hidI (HYr.out.trans (items_go hp hit))
                  have HIT := hidI hit
                  clear hit
                  rw [word_hit t5]
                  have rlk := look_hit HG3.out (find_M5 gp)
                  go_wp2_with fail
                  have HM4 : Hid (IM C gt cap base gp S' (adv q') (w3.setCell ⟨gp, 1, none⟩ (.int .i64 ((q'.pos : Int) + 1)))) := HM3.out.adv hp
                  have HS4 : Hid (IS gp S w S' (w3.setCell ⟨gp, 1, none⟩ (.int .i64 ((q'.pos : Int) + 1)))) := HS3.out.set _ _
                  have HG4 : Hid ((w3.setCell ⟨gp, 1, none⟩ (.int .i64 ((q'.pos : Int) + 1))).heap[w.heap.size]? = some (.map (esM gp) 6)) := (pother hne).trans HG3.out
                  refine (exportItem_any C gt cap base gp S' (adv q') _ HM4.out hC).mono ?_
                  cases hn5 : expItemI C (adv q') with
                  | error p =>
                    rintro e w5 ⟨rfl, hb⟩
                    have HB : Hid (Below base w w5) := (HH.out.back HS4.out).trans hb
                    have HX : Hid (itemsP C q = .error p) := bdE HZ.out hn5
                    unfold Pan
                    go_wp2
                    refine ⟨rfl, ?_⟩
                    rw [HX.out]
                    exact ⟨rfl, HB.out⟩
                  | ok a5 =>
                    rintro e w5 ⟨rfl, S5, m, s⟩
                    have HG5 : Hid (w5.heap[w.heap.size]? = some (.map (esM gp) 6)) := map_step HM4.out HG4.out s
                    have HM5 := hidI m
                    have HS5 : Hid (IS gp S w S5 w5) := HS4.out.trans s
                    clear m s
                    have HY5 := hidI (bdO HZ.out hn5)
                    have HP5 := hidI (item_pos HIT.out hn5)
                    go_wp2
                    go_roundg (gk - 1)
                    case rel => exact ⟨S5, a5, HY5.out, by have := HP5.out; omega, HM5.out, HS5.out, HG5.out⟩
                    case measure => omega
                | false =>
                  have hit : itemI C q' = letJ C 3 q' := by rw [itemI, t0, t1, t2, t3, t4, t5, hs]; simp only [Bool.false_eq_true, ↓reduceIte, Bool.false_and, Bool.not_false, Bool.and_false]
                  have HZ := hidI (HYr.out.trans (items_go hp hit))
                  have HIT := hidI hit
                  clear hit
                  obtain ⟨vz, rlk⟩ := look_miss HG3.out (miss_M gp (itemWordI C q'.pos) (word_miss t0 (by decide)) (word_miss t1 (by decide)) (word_miss t2 (by decide)) (word_miss t3 (by decide)) (word_miss t4 (by decide)) (word_miss t5 (by decide)))
                  go_wp2_with fail
                  refine (setItem_any C gt cap base gp S' q' _ HM3.out).mono ?_
                  cases hn5 : letJ C 3 q' with
                  | error p =>
                    rintro e w5 ⟨rfl, hb⟩
                    have HB : Hid (Below base w w5) := (HH.out.back HS3.out).trans hb
                    have HX : Hid (itemsP C q = .error p) := bdE HZ.out hn5
                    unfold Pan
                    go_wp2
                    refine ⟨rfl, ?_⟩
                    rw [HX.out]
                    exact ⟨rfl, HB.out⟩
                  | ok a5 =>
                    rintro e w5 ⟨rfl, S5, m, s⟩
                    have HG5 : Hid (w5.heap[w.heap.size]? = some (.map (esM gp) 6)) := map_step HM3.out HG3.out s
                    have HM5 := hidI m
                    have HS5 : Hid (IS gp S w S5 w5) := HS3.out.trans s
                    clear m s
                    have HY5 := hidI (bdO HZ.out hn5)
                    have HP5 := hidI (item_pos HIT.out hn5)
                    go_wp2
                    go_roundg (gk - 1)
                    case rel => exact ⟨S5, a5, HY5.out, by have := HP5.out; omega, HM5.out, HS5.out, HG5.out⟩
                    case measure => omega
    · have hpi : ¬ ((q'.pos : Int) < (C.ts.length : Int)) := by omega
      go_wp2_with fail
      refine wp_region_quiet_below (by kernel_rfl) (by kernel_rfl) ?_
      repeat (go_big_quiet_step (fail))
      refine wpQuiet_nil ?_
      intro w2 hw'
      obtain ⟨⟨dq, osq⟩, hw''⟩ := hw'
      have HB2 : Hid (Below wr.heap.size wr w2) := by show Below _ _ _; rw [hw'']; exact below_regrown _ _ _
      clear hw'' k0 k1 C0 C1
      have HM2 : Hid (IM C gt cap base gp S' q' w2) := HMr.out.later HB2.out
      have HS2 : Hid (IS gp S w S' w2) := HSr.out.trans (IS.below HB2.out)
      have HG2 : Hid (w2.heap[w.heap.size]? = some (.map (esM gp) 6)) := map_step HMr.out HGr.out (IS.below HB2.out)
      have HX := hidI (HYr.out.trans (items_end hp))
      obtain ⟨c0, c1, c2, c3, c4, c5, c6, c7, c8, c9, cf⟩ := box10_of HM2.out.cells
      have hown := HM2.out.mem.own.ep
      have hin := HM2.out.mem.inv.ep
      have hfree := HM2.out.free
      have HFREE := hidI hfree
      clear hfree
      have hlt := HM2.out.lt
      rcases HM2.out.mem.own.la.nil_or with ⟨ha, hc, hn⟩ | ⟨gl, ha⟩
      · have HN := hidI (List.eq_nil_of_length_eq_zero hn)
        rw [ha, hc, hn] at c9
        clear ha hc hn
        go_wp2_with fail
        go_region_law (first | (refine step_nil rfl (.tmp 41) (.tmp 45) 24 rfl 102 i0 Tryz.underlying24 hi base 4 q'.ep.length S'.ep _ (by rfl) (by exact hown) (by rfl) ?_))
        all_goals
          go_wp2
          go_end0
          rw [HX.out]
          refine ⟨rfl, S', HM2.out.mem.wholeI0 HN.out HFREE.out (fun k hk => pother hk), ⟨.slice (some ⟨gt, 0, none⟩) C.ts.length cap, .int .i64 q'.pos, .int .i64 C.fin, .bool C.scr, .slice S'.la.a q'.la.length S'.la.cap, (qcell HM2.out.cells).trans (by simp [HN.out])⟩, ?_⟩
          exact (HH.out.back (HS2.out.set _ _)).drew
      · have hla : OwnR w2 base 102 4 ⟨some ⟨gl, 0, none⟩, S'.la.cap⟩ q'.la.length (q'.la.flatMap epL) := by have := HM2.out.mem.own.la; unfold OwnR at this ⊢; rw [ha] at this; exact this
        rw [ha] at c9
        have hbs := HM2.out.mem.base
        have HNE : Hid (some gp ≠ S'.ep.blk) := fun e => HFREE.out (.inr (.inr (.inl e.symm)))
        go_wp2_with fail
        go_region_law (first | (refine step_rows rfl (.tmp 41) (.tmp 45) 24 rfl base 102 i0 _ 4 56 Tryz.underlying24 hi hz0 hz1 hz2 rfl (by decide) (by decide) S'.ep q'.ep.length _ (by rfl) (by exact hown) gl q'.la.length S'.la.cap base _ (by rfl) (by exact hla) (eps_one _) (by omega) (by exact hbs) ?_; intro r' wz hr hgr hat; have g2 := (hgr.block gp (by exact hlt) HNE.out).trans (by exact HM2.out.cells); obtain ⟨d0, d1, d2, d3, d4, d5, d6, d7, d8, d9, df⟩ := box10_of g2))
        all_goals
          have HR := hidI hr
          have HGR := hidI hgr
          have HAT := hidI hat
          have HG2 := hidI g2
          clear hr hgr hat g2 c0 c1 c2 c3 c4 c5 c6 c7 c8 c9 cf hown hla
          go_wp2
          go_end0
          rw [HX.out]
          refine ⟨rfl, { S' with ep := r' }, HM2.out.drew.mem.wholeI HGR.out HR.out HAT.out hlt HFREE.out (fun k hk => pother hk), ⟨.slice (some ⟨gt, 0, none⟩) C.ts.length cap, .int .i64 q'.pos, .int .i64 C.fin, .bool C.scr, .slice S'.la.a q'.la.length S'.la.cap, (qcell HG2.out).trans (by simp)⟩, ?_⟩
          exact ((HH.out.back HS2.out).trans ⟨HGR.out.os, HGR.out.tape, HGR.out.output, HGR.out.size, fun k hk => HGR.out.block k (show k < w2.heap.size by omega) (fun e => by have := (HM2.out.mem.own.ep.typed e.symm).1; omega)⟩).setCell HM2.out.ge _
end Go.Proofs.YticdggnnpjachaaGreat
