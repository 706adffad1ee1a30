/-
  What impl's isSameMod answers: the walk.
  What l5Two, l5Sum, l5Side and l5Expr of the specification answer: the walks.
  What l5Expr of the specification answers of a product: the walk.
  What l5Expr of the specification answers, whole. No walk is here.
  What l5As, l5Quote, l5Imp, l5Exp and l5Stmt of the specification answer: the walks.
  How often expressions are used, counted in a row of numbers. No program is spoken of.
-/
import Derived.Laws.StructEq
import Derived.Test.YtdbpknmoacjodaaCeImplEarlySToSameSpec
namespace Go.Proofs.Ytdbpknmoacjodaa
open Go.RowKit Go.PlainAid Go.Sort

theorem neqIm (x y : Im) (w : World) : Sem.run Try.prog (binOp .neq 154 (.agg #[.string x.spec, .string x.first, .string x.loc]) (.agg #[.string y.spec, .string y.first, .string y.loc])) w = .ok (.bool (!eqIm x y)) w := by
  have uS := Try.underlying9
  have aS := Try.isAgg9
  have zS := Try.sizeOf9
  have uI := Try.underlying3
  have aI := Try.isAgg3
  have zI := Try.sizeOf3
  have hS : Try.prog.underlying 154 = some (.struct (Try.prog.fieldsOf 154)) := by kernel_rfl
  have hp : Try.prog.stoodInHeld 154 = false := by kernel_rfl
  rw [run_neq_struct, show (10000 : Nat) = 9999 + 1 from rfl, run_equalIn_agg w 9999 154 _ _ hS hp]
  simp only [Program.fieldsOf, Try.underlying154]
  go_simp
  by_cases h0 : x.spec.toList = y.spec.toList <;> by_cases h1 : x.first.toList = y.first.toList <;> by_cases h2 : x.loc.toList = y.loc.toList <;> simp [eqIm, h0, h1, h2]
theorem grdIm (op : BinOp) (a b : Operand) (x y : Im) (w : World) : Sem.run Try.prog (eqGuard op 154 a b (.agg #[.string x.spec, .string x.first, .string x.loc]) (.agg #[.string y.spec, .string y.first, .string y.loc])) w = .ok () w := run_eqGuard_agg w op 154 a b _ _ (by kernel_rfl)
theorem neqEp (x y : Ep) (w : World) : Sem.run Try.prog (binOp .neq 79 (.agg #[.int .i64 x.kind, .string x.name, .string x.loc, .string x.spec]) (.agg #[.int .i64 y.kind, .string y.name, .string y.loc, .string y.spec])) w = .ok (.bool (!eqEp x y)) w := by
  have uS := Try.underlying9
  have aS := Try.isAgg9
  have zS := Try.sizeOf9
  have uI := Try.underlying3
  have aI := Try.isAgg3
  have zI := Try.sizeOf3
  have hS : Try.prog.underlying 79 = some (.struct (Try.prog.fieldsOf 79)) := by kernel_rfl
  have hp : Try.prog.stoodInHeld 79 = false := by kernel_rfl
  rw [run_neq_struct, show (10000 : Nat) = 9999 + 1 from rfl, run_equalIn_agg w 9999 79 _ _ hS hp]
  simp only [Program.fieldsOf, Try.underlying79]
  go_simp
  by_cases h0 : x.kind = y.kind <;> by_cases h1 : x.name.toList = y.name.toList <;> by_cases h2 : x.loc.toList = y.loc.toList <;> by_cases h3 : x.spec.toList = y.spec.toList <;> simp [eqEp, h0, h1, h2, h3]
theorem grdEp (op : BinOp) (a b : Operand) (x y : Ep) (w : World) : Sem.run Try.prog (eqGuard op 79 a b (.agg #[.int .i64 x.kind, .string x.name, .string x.loc, .string x.spec]) (.agg #[.int .i64 y.kind, .string y.name, .string y.loc, .string y.spec])) w = .ok () w := run_eqGuard_agg w op 79 a b _ _ (by kernel_rfl)
theorem neqSm (x y : Sm) (w : World) : Sem.run Try.prog (binOp .neq 159 (.agg #[.int .i64 x.kind, .string x.name, .int .i64 x.expr]) (.agg #[.int .i64 y.kind, .string y.name, .int .i64 y.expr])) w = .ok (.bool (!eqSm x y)) w := by
  have uS := Try.underlying9
  have aS := Try.isAgg9
  have zS := Try.sizeOf9
  have uI := Try.underlying3
  have aI := Try.isAgg3
  have zI := Try.sizeOf3
  have hS : Try.prog.underlying 159 = some (.struct (Try.prog.fieldsOf 159)) := by kernel_rfl
  have hp : Try.prog.stoodInHeld 159 = false := by kernel_rfl
  rw [run_neq_struct, show (10000 : Nat) = 9999 + 1 from rfl, run_equalIn_agg w 9999 159 _ _ hS hp]
  simp only [Program.fieldsOf, Try.underlying159]
  go_simp
  by_cases h0 : x.kind = y.kind <;> by_cases h1 : x.name.toList = y.name.toList <;> by_cases h2 : x.expr = y.expr <;> simp [eqSm, h0, h1, h2]
theorem grdSm (op : BinOp) (a b : Operand) (x y : Sm) (w : World) : Sem.run Try.prog (eqGuard op 159 a b (.agg #[.int .i64 x.kind, .string x.name, .int .i64 x.expr]) (.agg #[.int .i64 y.kind, .string y.name, .int .i64 y.expr])) w = .ok () w := run_eqGuard_agg w op 159 a b _ _ (by kernel_rfl)
theorem neqEx (x y : Ex) (w : World) : Sem.run Try.prog (binOp .neq 96 (.agg #[.int .i64 x.kind, .int .i64 x.num, .string x.name, .string x.field, .int .i64 x.l, .int .i64 x.r]) (.agg #[.int .i64 y.kind, .int .i64 y.num, .string y.name, .string y.field, .int .i64 y.l, .int .i64 y.r])) w = .ok (.bool (!eqEx x y)) w := by
  have uS := Try.underlying9
  have aS := Try.isAgg9
  have zS := Try.sizeOf9
  have uI := Try.underlying3
  have aI := Try.isAgg3
  have zI := Try.sizeOf3
  have hS : Try.prog.underlying 96 = some (.struct (Try.prog.fieldsOf 96)) := by kernel_rfl
  have hp : Try.prog.stoodInHeld 96 = false := by kernel_rfl
  rw [run_neq_struct, show (10000 : Nat) = 9999 + 1 from rfl, run_equalIn_agg w 9999 96 _ _ hS hp]
  simp only [Program.fieldsOf, Try.underlying96]
  go_simp
  by_cases h0 : x.kind = y.kind <;> by_cases h1 : x.num = y.num <;> by_cases h2 : x.name.toList = y.name.toList <;> by_cases h3 : x.field.toList = y.field.toList <;> by_cases h4 : x.l = y.l <;> by_cases h5 : x.r = y.r <;> simp [eqEx, h0, h1, h2, h3, h4, h5]
theorem grdEx (op : BinOp) (a b : Operand) (x y : Ex) (w : World) : Sem.run Try.prog (eqGuard op 96 a b (.agg #[.int .i64 x.kind, .int .i64 x.num, .string x.name, .string x.field, .int .i64 x.l, .int .i64 x.r]) (.agg #[.int .i64 y.kind, .int .i64 y.num, .string y.name, .string y.field, .int .i64 y.l, .int .i64 y.r])) w = .ok () w := run_eqGuard_agg w op 96 a b _ _ (by kernel_rfl)
end Go.Proofs.Ytdbpknmoacjodaa
namespace Go.Proofs.Ytdbpknmoacjodaa
open Go.RowKit Go.PlainAid Go.Sort

set_option maxRecDepth 100000 in
set_option maxHeartbeats 12800000 in
theorem l5Two_any (k : Int) (w : World) : Calls Try.prog 119 #[.int .i64 k] w fun e w' => e = .returned (.bool (twoK k)) ∧ w' = w := by
  cases h6 : (k == 6) with
  | true =>
    have HV : Hid (twoK k = true) := by show _ = _; rw [twoK, h6]; rfl
    go_enter Try.func119, Try.ntmps119
    go_wp2
    go_ret
    exact ⟨ret_bool HV.out.symm, rfl⟩
  | false =>
    cases h7 : (k == 7) with
    | true =>
      have HV : Hid (twoK k = true) := by show _ = _; rw [twoK, h6, h7]; rfl
      go_enter Try.func119, Try.ntmps119
      go_wp2
      go_ret
      exact ⟨ret_bool HV.out.symm, rfl⟩
    | false =>
      have HV : Hid (twoK k = (k == 8)) := by show _ = _; rw [twoK, h6, h7]; simp
      go_enter Try.func119, Try.ntmps119
      go_wp2
      go_ret
      exact ⟨ret_bool HV.out.symm, rfl⟩
set_option maxRecDepth 100000 in
set_option maxHeartbeats 12800000 in
theorem l5Sum_any (base : Nat) (S : Sv) (m : Md) (i : Nat) (w : World) (h : OwnMd w base S m) (hi : i < m.ex.length) :
    Calls Try.prog 206 #[modD S m, .int .i64 i] w fun e w' => e = .returned (.bool (sumK (m.ex.getD i exNo).kind)) ∧ Below w.heap.size w w' := by
  obtain ⟨g, hg, hlt, c0, -, -, -, -, -⟩ := h.expr hi
  have hii : (i : Int) < (m.ex.length : Int) := by omega
  unfold modD
  rw [hg]
  generalize (m.ex.getD i exNo).kind = k at c0 ⊢
  clear h hg
  cases h6 : (k == 6) with
  | true =>
    have HV : Hid (sumK k = true) := by show _ = _; rw [sumK, h6]; rfl
    go_enter Try.func206, Try.ntmps206
    go_wp2
    go_ret
    exact ⟨ret_bool HV.out.symm, (Below.refl _ _).alloc (Nat.le_refl _) _⟩
  | false =>
    have HV : Hid (sumK k = (k == 7)) := by show _ = _; rw [sumK, h6]; simp
    go_enter Try.func206, Try.ntmps206
    go_wp2
    go_ret
    exact ⟨ret_bool HV.out.symm, (Below.refl _ _).alloc (Nat.le_refl _) _⟩
def ExprOK (base : Nat) (S : Sv) (m : Md) (n : Nat) : Prop := ∀ (i : Nat) (w : World), i < n → i < m.ex.length → OwnMd w base S m → wt m.ex i ≤ 1099511627776 →
  Calls Try.prog 177 #[modD S m, .int .i64 i] w fun e w' => e = .returned (.string (prX m.ex i)) ∧ Below w.heap.size w w'
set_option maxRecDepth 100000 in
set_option maxHeartbeats 12800000 in
theorem l5Side_of (base : Nat) (S : Sv) (m : Md) (n i : Nat) (b : Bool) (w : World) (he : ExprOK base S m n) (hn : i < n) (hi : i < m.ex.length) (h : OwnMd w base S m) (hw : wt m.ex i ≤ 1099511627776) :
    Calls Try.prog 205 #[modD S m, .int .i64 i, .bool b] w fun e w' => e = .returned (.string (sideT b (prX m.ex i))) ∧ Below w.heap.size w w' := by
  have HE := hidI he
  have HH := hidI h
  have HW := hidI hw
  unfold wt at hw
  clear he h
  unfold modD
  cases b with
  | true =>
    have HV : Hid (sideT true (prX m.ex i) = cOpen ++ prX m.ex i ++ cShut) := rfl
    go_enter Try.func205, Try.ntmps205
    go_wp2_with fail
    refine (HE.out i _ hn hi (HH.out.alloc _) HW.out).mono ?_
    rintro e w1 ⟨rfl, hb⟩
    have HB : Hid (Below w.heap.size w w1) := ((Below.refl _ _).alloc (Nat.le_refl _) _).trans (hb.mono (by rw [alloc_size]; omega))
    clear hb
    generalize ht : prX m.ex i = t at hw HV ⊢
    have HT := hidI ht
    clear ht
    go_wp2
    go_ret
    exact ⟨ret_str (by rw [HT.out]; exact HV.out.symm), HB.out⟩
  | false =>
    have HV : Hid (sideT false (prX m.ex i) = prX m.ex i) := rfl
    go_enter Try.func205, Try.ntmps205
    go_wp2_with fail
    refine (HE.out i _ hn hi (HH.out.alloc _) HW.out).mono ?_
    rintro e w1 ⟨rfl, hb⟩
    have HB : Hid (Below w.heap.size w w1) := ((Below.refl _ _).alloc (Nat.le_refl _) _).trans (hb.mono (by rw [alloc_size]; omega))
    clear hb
    go_wp2
    go_ret
    exact ⟨ret_str HV.out.symm, HB.out⟩
set_option maxRecDepth 100000 in
set_option maxHeartbeats 12800000 in
theorem l5Expr_1 (g : Nat) (S : Sv) (m : Md) (i : Nat) (k nu l r : Int) (nm fi : ByteArray) (w : World) (hex : S.ex.a = some ⟨g, 0, none⟩) (hi : i < m.ex.length) (hlt : g < w.heap.size) (c0 : w.cell? ⟨g, i * 6, none⟩ = some (.int .i64 k)) (c1 : w.cell? ⟨g, i * 6 + 1, none⟩ = some (.int .i64 nu)) (c2 : w.cell? ⟨g, i * 6 + 2, none⟩ = some (.string nm)) (c3 : w.cell? ⟨g, i * 6 + 3, none⟩ = some (.string fi)) (c4 : w.cell? ⟨g, i * 6 + 4, none⟩ = some (.int .i64 l)) (c5 : w.cell? ⟨g, i * 6 + 5, none⟩ = some (.int .i64 r)) (k1 : (k == 1) = true) (hnu : -9223372036854775808 ≤ nu ∧ nu ≤ 9223372036854775807) :
    Calls Try.prog 177 #[modD S m, .int .i64 i] w fun e w' => e = .returned (.string (strOfNums (decL nu))) ∧ Below w.heap.size w w' := by
  have hii : (i : Int) < (m.ex.length : Int) := by omega
  unfold modD
  rw [hex]
  clear hex
  go_enter Try.func177, Try.ntmps177
  go_wp2_with fail
  refine (dec_spec nu _ hnu).mono ?_
  rintro e w1 ⟨rfl, hb⟩
  have HB : Hid (Below w.heap.size w w1) := (below2 w _ _).trans (hb.mono (by rw [alloc_size, alloc_size]; omega))
  clear hb
  go_wp2
  go_ret
  exact ⟨rfl, HB.out⟩
set_option maxRecDepth 100000 in
set_option maxHeartbeats 12800000 in
theorem l5Expr_2 (g : Nat) (S : Sv) (m : Md) (i : Nat) (k nu l r : Int) (nm fi : ByteArray) (w : World) (hex : S.ex.a = some ⟨g, 0, none⟩) (hi : i < m.ex.length) (hlt : g < w.heap.size) (c0 : w.cell? ⟨g, i * 6, none⟩ = some (.int .i64 k)) (c1 : w.cell? ⟨g, i * 6 + 1, none⟩ = some (.int .i64 nu)) (c2 : w.cell? ⟨g, i * 6 + 2, none⟩ = some (.string nm)) (c3 : w.cell? ⟨g, i * 6 + 3, none⟩ = some (.string fi)) (c4 : w.cell? ⟨g, i * 6 + 4, none⟩ = some (.int .i64 l)) (c5 : w.cell? ⟨g, i * 6 + 5, none⟩ = some (.int .i64 r)) (k1 : (k == 1) = false) (k2 : (k == 2) = true) :
    Calls Try.prog 177 #[modD S m, .int .i64 i] w fun e w' => e = .returned (.string (nm)) ∧ Below w.heap.size w w' := by
  have hii : (i : Int) < (m.ex.length : Int) := by omega
  unfold modD
  rw [hex]
  clear hex
  go_enter Try.func177, Try.ntmps177
  go_wp2
  go_ret
  exact ⟨rfl, ((Below.refl _ _).alloc (Nat.le_refl _) _).alloc (by show _ ≤ (w.heap.push _).size; simp) _⟩
set_option maxRecDepth 100000 in
set_option maxHeartbeats 12800000 in
theorem l5Expr_3 (g : Nat) (S : Sv) (m : Md) (i : Nat) (k nu l r : Int) (nm fi : ByteArray) (w : World) (hex : S.ex.a = some ⟨g, 0, none⟩) (hi : i < m.ex.length) (hlt : g < w.heap.size) (c0 : w.cell? ⟨g, i * 6, none⟩ = some (.int .i64 k)) (c1 : w.cell? ⟨g, i * 6 + 1, none⟩ = some (.int .i64 nu)) (c2 : w.cell? ⟨g, i * 6 + 2, none⟩ = some (.string nm)) (c3 : w.cell? ⟨g, i * 6 + 3, none⟩ = some (.string fi)) (c4 : w.cell? ⟨g, i * 6 + 4, none⟩ = some (.int .i64 l)) (c5 : w.cell? ⟨g, i * 6 + 5, none⟩ = some (.int .i64 r)) (k1 : (k == 1) = false) (k2 : (k == 2) = false) (k3 : (k == 3) = true) (hsz : (nm ++ cParens).size ≤ 1099511627776) :
    Calls Try.prog 177 #[modD S m, .int .i64 i] w fun e w' => e = .returned (.string (nm ++ cParens)) ∧ Below w.heap.size w w' := by
  have hii : (i : Int) < (m.ex.length : Int) := by omega
  unfold modD
  rw [hex]
  clear hex
  simp only [ByteArray.size_append] at hsz
  have hp2 : cParens.size = 2 := rfl
  have hn2 : nm.size ≤ 1099511627776 := by omega
  clear hsz hp2
  go_enter Try.func177, Try.ntmps177
  go_wp2
  go_ret
  exact ⟨rfl, ((Below.refl _ _).alloc (Nat.le_refl _) _).alloc (by show _ ≤ (w.heap.push _).size; simp) _⟩
set_option maxRecDepth 100000 in
set_option maxHeartbeats 12800000 in
theorem l5Expr_4 (g : Nat) (S : Sv) (m : Md) (i : Nat) (k nu l r : Int) (nm fi : ByteArray) (w : World) (hex : S.ex.a = some ⟨g, 0, none⟩) (hi : i < m.ex.length) (hlt : g < w.heap.size) (c0 : w.cell? ⟨g, i * 6, none⟩ = some (.int .i64 k)) (c1 : w.cell? ⟨g, i * 6 + 1, none⟩ = some (.int .i64 nu)) (c2 : w.cell? ⟨g, i * 6 + 2, none⟩ = some (.string nm)) (c3 : w.cell? ⟨g, i * 6 + 3, none⟩ = some (.string fi)) (c4 : w.cell? ⟨g, i * 6 + 4, none⟩ = some (.int .i64 l)) (c5 : w.cell? ⟨g, i * 6 + 5, none⟩ = some (.int .i64 r)) (k1 : (k == 1) = false) (k2 : (k == 2) = false) (k3 : (k == 3) = false) (k4 : (k == 4) = true) (hsz : (nm ++ cPoint ++ fi).size ≤ 1099511627776) :
    Calls Try.prog 177 #[modD S m, .int .i64 i] w fun e w' => e = .returned (.string (nm ++ cPoint ++ fi)) ∧ Below w.heap.size w w' := by
  have hii : (i : Int) < (m.ex.length : Int) := by omega
  unfold modD
  rw [hex]
  clear hex
  simp only [ByteArray.size_append] at hsz
  have hp1 : cPoint.size = 1 := rfl
  have hn2 : nm.size ≤ 1099511627776 := by omega
  have hf2 : fi.size ≤ 1099511627776 := by omega
  clear hsz hp1
  go_enter Try.func177, Try.ntmps177
  go_wp2
  go_ret
  exact ⟨rfl, ((Below.refl _ _).alloc (Nat.le_refl _) _).alloc (by show _ ≤ (w.heap.push _).size; simp) _⟩
set_option maxRecDepth 100000 in
set_option maxHeartbeats 12800000 in
theorem l5Expr_5 (g : Nat) (S : Sv) (m : Md) (i : Nat) (k nu l r : Int) (nm fi : ByteArray) (w : World) (hex : S.ex.a = some ⟨g, 0, none⟩) (hi : i < m.ex.length) (hlt : g < w.heap.size) (c0 : w.cell? ⟨g, i * 6, none⟩ = some (.int .i64 k)) (c1 : w.cell? ⟨g, i * 6 + 1, none⟩ = some (.int .i64 nu)) (c2 : w.cell? ⟨g, i * 6 + 2, none⟩ = some (.string nm)) (c3 : w.cell? ⟨g, i * 6 + 3, none⟩ = some (.string fi)) (c4 : w.cell? ⟨g, i * 6 + 4, none⟩ = some (.int .i64 l)) (c5 : w.cell? ⟨g, i * 6 + 5, none⟩ = some (.int .i64 r)) (k1 : (k == 1) = false) (k2 : (k == 2) = false) (k3 : (k == 3) = false) (k4 : (k == 4) = false) (k5 : (k == 5) = true) (hsz : (nm ++ cPoint ++ fi ++ cParens).size ≤ 1099511627776) :
    Calls Try.prog 177 #[modD S m, .int .i64 i] w fun e w' => e = .returned (.string (nm ++ cPoint ++ fi ++ cParens)) ∧ Below w.heap.size w w' := by
  have hii : (i : Int) < (m.ex.length : Int) := by omega
  unfold modD
  rw [hex]
  clear hex
  simp only [ByteArray.size_append] at hsz
  have hp2 : cParens.size = 2 := rfl
  have hp1 : cPoint.size = 1 := rfl
  have hn2 : nm.size ≤ 1099511627776 := by omega
  have hf2 : fi.size ≤ 1099511627776 := by omega
  clear hsz hp2 hp1
  go_enter Try.func177, Try.ntmps177
  go_wp2
  go_ret
  exact ⟨rfl, ((Below.refl _ _).alloc (Nat.le_refl _) _).alloc (by show _ ≤ (w.heap.push _).size; simp) _⟩
set_option maxRecDepth 100000 in
set_option maxHeartbeats 12800000 in
theorem l5Expr_9 (g : Nat) (S : Sv) (m : Md) (i : Nat) (k nu l r : Int) (nm fi : ByteArray) (w : World) (hex : S.ex.a = some ⟨g, 0, none⟩) (hi : i < m.ex.length) (hlt : g < w.heap.size) (c0 : w.cell? ⟨g, i * 6, none⟩ = some (.int .i64 k)) (c1 : w.cell? ⟨g, i * 6 + 1, none⟩ = some (.int .i64 nu)) (c2 : w.cell? ⟨g, i * 6 + 2, none⟩ = some (.string nm)) (c3 : w.cell? ⟨g, i * 6 + 3, none⟩ = some (.string fi)) (c4 : w.cell? ⟨g, i * 6 + 4, none⟩ = some (.int .i64 l)) (c5 : w.cell? ⟨g, i * 6 + 5, none⟩ = some (.int .i64 r)) (k1 : (k == 1) = false) (k2 : (k == 2) = false) (k3 : (k == 3) = false) (k4 : (k == 4) = false) (k5 : (k == 5) = false) (k6 : (k == 6) = false) (k7 : (k == 7) = false) (k8 : (k == 8) = false) :
    Calls Try.prog 177 #[modD S m, .int .i64 i] w fun e w' => e = .returned (.string (sNone)) ∧ Below w.heap.size w w' := by
  have hii : (i : Int) < (m.ex.length : Int) := by omega
  unfold modD
  rw [hex]
  clear hex
  go_enter Try.func177, Try.ntmps177
  go_wp2
  go_ret
  exact ⟨rfl, ((Below.refl _ _).alloc (Nat.le_refl _) _).alloc (by show _ ≤ (w.heap.push _).size; simp) _⟩
set_option maxRecDepth 100000 in
set_option maxHeartbeats 12800000 in
theorem l5Expr_6 (base g : Nat) (S : Sv) (m : Md) (i ln rn : Nat) (k nu : Int) (nm fi : ByteArray) (w : World) (hex : S.ex.a = some ⟨g, 0, none⟩) (h : OwnMd w base S m) (hi : i < m.ex.length) (hlt : g < w.heap.size) (c0 : w.cell? ⟨g, i * 6, none⟩ = some (.int .i64 k)) (c1 : w.cell? ⟨g, i * 6 + 1, none⟩ = some (.int .i64 nu)) (c2 : w.cell? ⟨g, i * 6 + 2, none⟩ = some (.string nm)) (c3 : w.cell? ⟨g, i * 6 + 3, none⟩ = some (.string fi)) (c4 : w.cell? ⟨g, i * 6 + 4, none⟩ = some (.int .i64 (ln : Int))) (c5 : w.cell? ⟨g, i * 6 + 5, none⟩ = some (.int .i64 (rn : Int))) (k1 : (k == 1) = false) (k2 : (k == 2) = false) (k3 : (k == 3) = false) (k4 : (k == 4) = false) (k5 : (k == 5) = false) (k6 : (k == 6) = true) (hsz : (prX m.ex ln ++ tPlus ++ sideT (sumK (m.ex.getD rn exNo).kind) (prX m.ex rn)).size ≤ 1099511627776) (he : ExprOK base S m i) (hl : ln < i) (hr : rn < i) (hwl : wt m.ex ln ≤ 1099511627776) (hwr : wt m.ex rn ≤ 1099511627776) :
    Calls Try.prog 177 #[modD S m, .int .i64 i] w fun e w' => e = .returned (.string (prX m.ex ln ++ tPlus ++ sideT (sumK (m.ex.getD rn exNo).kind) (prX m.ex rn))) ∧ Below w.heap.size w w' := by
  have hii : (i : Int) < (m.ex.length : Int) := by omega
  have HA : Hid (OwnMd ((w.alloc (.cells #[.slice S.rq.a m.rq.length S.rq.cap, .slice S.im.a m.im.length S.im.cap, .slice S.ep.a m.ep.length S.ep.cap, .slice S.st.a m.st.length S.st.cap, .slice (some ⟨g, 0, none⟩) m.ex.length S.ex.cap] 37)).alloc (.cells #[.int .i64 k, .int .i64 nu, .string nm, .string fi, .int .i64 (ln : Int), .int .i64 (rn : Int)] 96)) base S m) := (h.alloc _).alloc _
  have HE := hidI he
  have HMV : Hid (modD S m = .agg #[.slice S.rq.a m.rq.length S.rq.cap, .slice S.im.a m.im.length S.im.cap, .slice S.ep.a m.ep.length S.ep.cap, .slice S.st.a m.st.length S.st.cap, .slice (some ⟨g, 0, none⟩) m.ex.length S.ex.cap]) := by show _ = _; rw [modD, hex]
  have hli : (ln : Int) < (m.ex.length : Int) := by omega
  have hri : (rn : Int) < (m.ex.length : Int) := by omega
  obtain ⟨g2, hg2, -, d0, -, -, -, -, -⟩ := h.expr (i := rn) (by omega)
  have eg : g2 = g := by have := hg2.symm.trans hex; simpa using this
  rw [eg] at d0
  obtain ⟨kr, hkr⟩ : ∃ kr, (m.ex.getD rn exNo).kind = kr := ⟨_, rfl⟩
  rw [hkr] at d0
  have HKR := hidI hkr
  obtain ⟨tl, htl⟩ : ∃ tl, prX m.ex ln = tl := ⟨_, rfl⟩
  obtain ⟨tr, htr⟩ : ∃ tr, sideT (sumK (m.ex.getD rn exNo).kind) (prX m.ex rn) = tr := ⟨_, rfl⟩
  rw [htl, htr] at hsz
  have HTL := hidI htl
  have HTR := hidI htr
  have cL : ∀ d os, Calls Try.prog 177 #[.agg #[.slice S.rq.a m.rq.length S.rq.cap, .slice S.im.a m.im.length S.im.cap, .slice S.ep.a m.ep.length S.ep.cap, .slice S.st.a m.st.length S.st.cap, .slice (some ⟨g, 0, none⟩) m.ex.length S.ex.cap], .int .i64 (ln : Int)] (grow (redrawn ((w.alloc (.cells #[.slice S.rq.a m.rq.length S.rq.cap, .slice S.im.a m.im.length S.im.cap, .slice S.ep.a m.ep.length S.ep.cap, .slice S.st.a m.st.length S.st.cap, .slice (some ⟨g, 0, none⟩) m.ex.length S.ex.cap] 37)).alloc (.cells #[.int .i64 k, .int .i64 nu, .string nm, .string fi, .int .i64 (ln : Int), .int .i64 (rn : Int)] 96)) d) os) fun e w'' => e = .returned (.string tl) ∧ ∃ p : Regrown, w'' = grow (redrawn ((w.alloc (.cells #[.slice S.rq.a m.rq.length S.rq.cap, .slice S.im.a m.im.length S.im.cap, .slice S.ep.a m.ep.length S.ep.cap, .slice S.st.a m.st.length S.st.cap, .slice (some ⟨g, 0, none⟩) m.ex.length S.ex.cap] 37)).alloc (.cells #[.int .i64 k, .int .i64 nu, .string nm, .string fi, .int .i64 (ln : Int), .int .i64 (rn : Int)] 96)) p.d) p.os := fun d os => Calls.regrown_of (by rw [← HMV.out, ← HTL.out]; exact HE.out ln _ (by omega) (by omega) (HA.out.later (below_regrown _ d os)) hwl)
  have cS : ∀ d os, Calls Try.prog 206 #[.agg #[.slice S.rq.a m.rq.length S.rq.cap, .slice S.im.a m.im.length S.im.cap, .slice S.ep.a m.ep.length S.ep.cap, .slice S.st.a m.st.length S.st.cap, .slice (some ⟨g, 0, none⟩) m.ex.length S.ex.cap], .int .i64 (rn : Int)] (grow (redrawn ((w.alloc (.cells #[.slice S.rq.a m.rq.length S.rq.cap, .slice S.im.a m.im.length S.im.cap, .slice S.ep.a m.ep.length S.ep.cap, .slice S.st.a m.st.length S.st.cap, .slice (some ⟨g, 0, none⟩) m.ex.length S.ex.cap] 37)).alloc (.cells #[.int .i64 k, .int .i64 nu, .string nm, .string fi, .int .i64 (ln : Int), .int .i64 (rn : Int)] 96)) d) os) fun e w'' => e = .returned (.bool (sumK kr)) ∧ ∃ p : Regrown, w'' = grow (redrawn ((w.alloc (.cells #[.slice S.rq.a m.rq.length S.rq.cap, .slice S.im.a m.im.length S.im.cap, .slice S.ep.a m.ep.length S.ep.cap, .slice S.st.a m.st.length S.st.cap, .slice (some ⟨g, 0, none⟩) m.ex.length S.ex.cap] 37)).alloc (.cells #[.int .i64 k, .int .i64 nu, .string nm, .string fi, .int .i64 (ln : Int), .int .i64 (rn : Int)] 96)) p.d) p.os := fun d os => Calls.regrown_of (by rw [← HMV.out, ← HKR.out]; exact l5Sum_any base S m rn _ (HA.out.later (below_regrown _ d os)) (by omega))
  have cR : ∀ d os, Calls Try.prog 205 #[.agg #[.slice S.rq.a m.rq.length S.rq.cap, .slice S.im.a m.im.length S.im.cap, .slice S.ep.a m.ep.length S.ep.cap, .slice S.st.a m.st.length S.st.cap, .slice (some ⟨g, 0, none⟩) m.ex.length S.ex.cap], .int .i64 (rn : Int), .bool (sumK kr)] (grow (redrawn ((w.alloc (.cells #[.slice S.rq.a m.rq.length S.rq.cap, .slice S.im.a m.im.length S.im.cap, .slice S.ep.a m.ep.length S.ep.cap, .slice S.st.a m.st.length S.st.cap, .slice (some ⟨g, 0, none⟩) m.ex.length S.ex.cap] 37)).alloc (.cells #[.int .i64 k, .int .i64 nu, .string nm, .string fi, .int .i64 (ln : Int), .int .i64 (rn : Int)] 96)) d) os) fun e w'' => e = .returned (.string tr) ∧ ∃ p : Regrown, w'' = grow (redrawn ((w.alloc (.cells #[.slice S.rq.a m.rq.length S.rq.cap, .slice S.im.a m.im.length S.im.cap, .slice S.ep.a m.ep.length S.ep.cap, .slice S.st.a m.st.length S.st.cap, .slice (some ⟨g, 0, none⟩) m.ex.length S.ex.cap] 37)).alloc (.cells #[.int .i64 k, .int .i64 nu, .string nm, .string fi, .int .i64 (ln : Int), .int .i64 (rn : Int)] 96)) p.d) p.os := fun d os => Calls.regrown_of (by rw [← HMV.out, ← HTR.out, HKR.out]; exact l5Side_of base S m i rn _ _ HE.out (by omega) (by omega) (HA.out.later (below_regrown _ d os)) hwr)
  have X : Hid (Six ((w.alloc (.cells #[.slice S.rq.a m.rq.length S.rq.cap, .slice S.im.a m.im.length S.im.cap, .slice S.ep.a m.ep.length S.ep.cap, .slice S.st.a m.st.length S.st.cap, .slice (some ⟨g, 0, none⟩) m.ex.length S.ex.cap] 37)).alloc (.cells #[.int .i64 k, .int .i64 nu, .string nm, .string fi, .int .i64 (ln : Int), .int .i64 (rn : Int)] 96)) (w.heap.size + 1) (.int .i64 k) (.int .i64 nu) (.string nm) (.string fi) (.int .i64 (ln : Int)) (.int .i64 (rn : Int))) := six_of (new2 w _ _)
  have Y := hidI (five_of (alloc_keep (o' := .cells #[.int .i64 k, .int .i64 nu, .string nm, .string fi, .int .i64 (ln : Int), .int .i64 (rn : Int)] 96) (heap_alloc_new w (.cells #[.slice S.rq.a m.rq.length S.rq.cap, .slice S.im.a m.im.length S.im.cap, .slice S.ep.a m.ep.length S.ep.cap, .slice S.st.a m.st.length S.st.cap, .slice (some ⟨g, 0, none⟩) m.ex.length S.ex.cap] 37))))
  have D0 : Hid (((w.alloc (.cells #[.slice S.rq.a m.rq.length S.rq.cap, .slice S.im.a m.im.length S.im.cap, .slice S.ep.a m.ep.length S.ep.cap, .slice S.st.a m.st.length S.st.cap, .slice (some ⟨g, 0, none⟩) m.ex.length S.ex.cap] 37)).alloc (.cells #[.int .i64 k, .int .i64 nu, .string nm, .string fi, .int .i64 (ln : Int), .int .i64 (rn : Int)] 96)).cell? ⟨g, rn * 6, none⟩ = some (.int .i64 kr)) := by show _ = _; rw [World.cell?_alloc_past _ _ _ (by rw [alloc_size]; omega), World.cell?_alloc_past _ _ _ hlt]; exact d0
  simp only [ByteArray.size_append] at hsz
  have hp3 : tPlus.size = 3 := rfl
  have hs1 : tl.size ≤ 1099511627776 := by omega
  have hs2 : tr.size ≤ 1099511627776 := by omega
  have HV : Hid ((prX m.ex ln ++ tPlus ++ sideT (sumK (m.ex.getD rn exNo).kind) (prX m.ex rn)) = tl ++ tPlus ++ tr) := by show _ = _; rw [HTL.out, HTR.out]
  unfold modD
  rw [hex]
  clear hex h HA HE HMV HTL HTR htl htr hkr HKR hg2 he hsz hp3 d0 eg
  go_enter Try.func177, Try.ntmps177
  go_wp2_with fail
  have x0 := cell_regrown X.out.c0
  have x4 := cell_regrown X.out.c4
  have x5 := cell_regrown X.out.c5
  have y0 := cell_regrown Y.out.1
  have y1 := cell_regrown Y.out.2.1
  have y2 := cell_regrown Y.out.2.2.1
  have y3 := cell_regrown Y.out.2.2.2.1
  have y4 := cell_regrown Y.out.2.2.2.2.1
  have e0 := cell_regrown D0.out
  refine wp_region_quiet_below (by kernel_rfl) (by kernel_rfl) ?_
  repeat (go_big_quiet_step (first | with_reducible exact cL _ _ | with_reducible exact cS _ _ | with_reducible exact cR _ _))
  refine wpQuiet_nil ?_
  intro w1 hw'
  obtain ⟨⟨dq, osq⟩, hw''⟩ := hw'
  have HB1 : Hid (Below w.heap.size w w1) := by show Below _ _ _; rw [hw'']; exact (below2 w _ _).trans ((below_regrown _ _ _).mono (by rw [alloc_size, alloc_size]; omega))
  clear hw''
  go_wp2
  go_ret
  exact ⟨ret_str HV.out.symm, HB1.out⟩
set_option maxRecDepth 100000 in
set_option maxHeartbeats 12800000 in
theorem l5Expr_7 (base g : Nat) (S : Sv) (m : Md) (i ln rn : Nat) (k nu : Int) (nm fi : ByteArray) (w : World) (hex : S.ex.a = some ⟨g, 0, none⟩) (h : OwnMd w base S m) (hi : i < m.ex.length) (hlt : g < w.heap.size) (c0 : w.cell? ⟨g, i * 6, none⟩ = some (.int .i64 k)) (c1 : w.cell? ⟨g, i * 6 + 1, none⟩ = some (.int .i64 nu)) (c2 : w.cell? ⟨g, i * 6 + 2, none⟩ = some (.string nm)) (c3 : w.cell? ⟨g, i * 6 + 3, none⟩ = some (.string fi)) (c4 : w.cell? ⟨g, i * 6 + 4, none⟩ = some (.int .i64 (ln : Int))) (c5 : w.cell? ⟨g, i * 6 + 5, none⟩ = some (.int .i64 (rn : Int))) (k1 : (k == 1) = false) (k2 : (k == 2) = false) (k3 : (k == 3) = false) (k4 : (k == 4) = false) (k5 : (k == 5) = false) (k6 : (k == 6) = false) (k7 : (k == 7) = true) (hsz : (prX m.ex ln ++ tMinus ++ sideT (sumK (m.ex.getD rn exNo).kind) (prX m.ex rn)).size ≤ 1099511627776) (he : ExprOK base S m i) (hl : ln < i) (hr : rn < i) (hwl : wt m.ex ln ≤ 1099511627776) (hwr : wt m.ex rn ≤ 1099511627776) :
    Calls Try.prog 177 #[modD S m, .int .i64 i] w fun e w' => e = .returned (.string (prX m.ex ln ++ tMinus ++ sideT (sumK (m.ex.getD rn exNo).kind) (prX m.ex rn))) ∧ Below w.heap.size w w' := by
  have hii : (i : Int) < (m.ex.length : Int) := by omega
  have HA : Hid (OwnMd ((w.alloc (.cells #[.slice S.rq.a m.rq.length S.rq.cap, .slice S.im.a m.im.length S.im.cap, .slice S.ep.a m.ep.length S.ep.cap, .slice S.st.a m.st.length S.st.cap, .slice (some ⟨g, 0, none⟩) m.ex.length S.ex.cap] 37)).alloc (.cells #[.int .i64 k, .int .i64 nu, .string nm, .string fi, .int .i64 (ln : Int), .int .i64 (rn : Int)] 96)) base S m) := (h.alloc _).alloc _
  have HE := hidI he
  have HMV : Hid (modD S m = .agg #[.slice S.rq.a m.rq.length S.rq.cap, .slice S.im.a m.im.length S.im.cap, .slice S.ep.a m.ep.length S.ep.cap, .slice S.st.a m.st.length S.st.cap, .slice (some ⟨g, 0, none⟩) m.ex.length S.ex.cap]) := by show _ = _; rw [modD, hex]
  have hli : (ln : Int) < (m.ex.length : Int) := by omega
  have hri : (rn : Int) < (m.ex.length : Int) := by omega
  obtain ⟨g2, hg2, -, d0, -, -, -, -, -⟩ := h.expr (i := rn) (by omega)
  have eg : g2 = g := by have := hg2.symm.trans hex; simpa using this
  rw [eg] at d0
  obtain ⟨kr, hkr⟩ : ∃ kr, (m.ex.getD rn exNo).kind = kr := ⟨_, rfl⟩
  rw [hkr] at d0
  have HKR := hidI hkr
  obtain ⟨tl, htl⟩ : ∃ tl, prX m.ex ln = tl := ⟨_, rfl⟩
  obtain ⟨tr, htr⟩ : ∃ tr, sideT (sumK (m.ex.getD rn exNo).kind) (prX m.ex rn) = tr := ⟨_, rfl⟩
  rw [htl, htr] at hsz
  have HTL := hidI htl
  have HTR := hidI htr
  have cL : ∀ d os, Calls Try.prog 177 #[.agg #[.slice S.rq.a m.rq.length S.rq.cap, .slice S.im.a m.im.length S.im.cap, .slice S.ep.a m.ep.length S.ep.cap, .slice S.st.a m.st.length S.st.cap, .slice (some ⟨g, 0, none⟩) m.ex.length S.ex.cap], .int .i64 (ln : Int)] (grow (redrawn ((w.alloc (.cells #[.slice S.rq.a m.rq.length S.rq.cap, .slice S.im.a m.im.length S.im.cap, .slice S.ep.a m.ep.length S.ep.cap, .slice S.st.a m.st.length S.st.cap, .slice (some ⟨g, 0, none⟩) m.ex.length S.ex.cap] 37)).alloc (.cells #[.int .i64 k, .int .i64 nu, .string nm, .string fi, .int .i64 (ln : Int), .int .i64 (rn : Int)] 96)) d) os) fun e w'' => e = .returned (.string tl) ∧ ∃ p : Regrown, w'' = grow (redrawn ((w.alloc (.cells #[.slice S.rq.a m.rq.length S.rq.cap, .slice S.im.a m.im.length S.im.cap, .slice S.ep.a m.ep.length S.ep.cap, .slice S.st.a m.st.length S.st.cap, .slice (some ⟨g, 0, none⟩) m.ex.length S.ex.cap] 37)).alloc (.cells #[.int .i64 k, .int .i64 nu, .string nm, .string fi, .int .i64 (ln : Int), .int .i64 (rn : Int)] 96)) p.d) p.os := fun d os => Calls.regrown_of (by rw [← HMV.out, ← HTL.out]; exact HE.out ln _ (by omega) (by omega) (HA.out.later (below_regrown _ d os)) hwl)
  have cS : ∀ d os, Calls Try.prog 206 #[.agg #[.slice S.rq.a m.rq.length S.rq.cap, .slice S.im.a m.im.length S.im.cap, .slice S.ep.a m.ep.length S.ep.cap, .slice S.st.a m.st.length S.st.cap, .slice (some ⟨g, 0, none⟩) m.ex.length S.ex.cap], .int .i64 (rn : Int)] (grow (redrawn ((w.alloc (.cells #[.slice S.rq.a m.rq.length S.rq.cap, .slice S.im.a m.im.length S.im.cap, .slice S.ep.a m.ep.length S.ep.cap, .slice S.st.a m.st.length S.st.cap, .slice (some ⟨g, 0, none⟩) m.ex.length S.ex.cap] 37)).alloc (.cells #[.int .i64 k, .int .i64 nu, .string nm, .string fi, .int .i64 (ln : Int), .int .i64 (rn : Int)] 96)) d) os) fun e w'' => e = .returned (.bool (sumK kr)) ∧ ∃ p : Regrown, w'' = grow (redrawn ((w.alloc (.cells #[.slice S.rq.a m.rq.length S.rq.cap, .slice S.im.a m.im.length S.im.cap, .slice S.ep.a m.ep.length S.ep.cap, .slice S.st.a m.st.length S.st.cap, .slice (some ⟨g, 0, none⟩) m.ex.length S.ex.cap] 37)).alloc (.cells #[.int .i64 k, .int .i64 nu, .string nm, .string fi, .int .i64 (ln : Int), .int .i64 (rn : Int)] 96)) p.d) p.os := fun d os => Calls.regrown_of (by rw [← HMV.out, ← HKR.out]; exact l5Sum_any base S m rn _ (HA.out.later (below_regrown _ d os)) (by omega))
  have cR : ∀ d os, Calls Try.prog 205 #[.agg #[.slice S.rq.a m.rq.length S.rq.cap, .slice S.im.a m.im.length S.im.cap, .slice S.ep.a m.ep.length S.ep.cap, .slice S.st.a m.st.length S.st.cap, .slice (some ⟨g, 0, none⟩) m.ex.length S.ex.cap], .int .i64 (rn : Int), .bool (sumK kr)] (grow (redrawn ((w.alloc (.cells #[.slice S.rq.a m.rq.length S.rq.cap, .slice S.im.a m.im.length S.im.cap, .slice S.ep.a m.ep.length S.ep.cap, .slice S.st.a m.st.length S.st.cap, .slice (some ⟨g, 0, none⟩) m.ex.length S.ex.cap] 37)).alloc (.cells #[.int .i64 k, .int .i64 nu, .string nm, .string fi, .int .i64 (ln : Int), .int .i64 (rn : Int)] 96)) d) os) fun e w'' => e = .returned (.string tr) ∧ ∃ p : Regrown, w'' = grow (redrawn ((w.alloc (.cells #[.slice S.rq.a m.rq.length S.rq.cap, .slice S.im.a m.im.length S.im.cap, .slice S.ep.a m.ep.length S.ep.cap, .slice S.st.a m.st.length S.st.cap, .slice (some ⟨g, 0, none⟩) m.ex.length S.ex.cap] 37)).alloc (.cells #[.int .i64 k, .int .i64 nu, .string nm, .string fi, .int .i64 (ln : Int), .int .i64 (rn : Int)] 96)) p.d) p.os := fun d os => Calls.regrown_of (by rw [← HMV.out, ← HTR.out, HKR.out]; exact l5Side_of base S m i rn _ _ HE.out (by omega) (by omega) (HA.out.later (below_regrown _ d os)) hwr)
  have X : Hid (Six ((w.alloc (.cells #[.slice S.rq.a m.rq.length S.rq.cap, .slice S.im.a m.im.length S.im.cap, .slice S.ep.a m.ep.length S.ep.cap, .slice S.st.a m.st.length S.st.cap, .slice (some ⟨g, 0, none⟩) m.ex.length S.ex.cap] 37)).alloc (.cells #[.int .i64 k, .int .i64 nu, .string nm, .string fi, .int .i64 (ln : Int), .int .i64 (rn : Int)] 96)) (w.heap.size + 1) (.int .i64 k) (.int .i64 nu) (.string nm) (.string fi) (.int .i64 (ln : Int)) (.int .i64 (rn : Int))) := six_of (new2 w _ _)
  have Y := hidI (five_of (alloc_keep (o' := .cells #[.int .i64 k, .int .i64 nu, .string nm, .string fi, .int .i64 (ln : Int), .int .i64 (rn : Int)] 96) (heap_alloc_new w (.cells #[.slice S.rq.a m.rq.length S.rq.cap, .slice S.im.a m.im.length S.im.cap, .slice S.ep.a m.ep.length S.ep.cap, .slice S.st.a m.st.length S.st.cap, .slice (some ⟨g, 0, none⟩) m.ex.length S.ex.cap] 37))))
  have D0 : Hid (((w.alloc (.cells #[.slice S.rq.a m.rq.length S.rq.cap, .slice S.im.a m.im.length S.im.cap, .slice S.ep.a m.ep.length S.ep.cap, .slice S.st.a m.st.length S.st.cap, .slice (some ⟨g, 0, none⟩) m.ex.length S.ex.cap] 37)).alloc (.cells #[.int .i64 k, .int .i64 nu, .string nm, .string fi, .int .i64 (ln : Int), .int .i64 (rn : Int)] 96)).cell? ⟨g, rn * 6, none⟩ = some (.int .i64 kr)) := by show _ = _; rw [World.cell?_alloc_past _ _ _ (by rw [alloc_size]; omega), World.cell?_alloc_past _ _ _ hlt]; exact d0
  simp only [ByteArray.size_append] at hsz
  have hp3 : tMinus.size = 3 := rfl
  have hs1 : tl.size ≤ 1099511627776 := by omega
  have hs2 : tr.size ≤ 1099511627776 := by omega
  have HV : Hid ((prX m.ex ln ++ tMinus ++ sideT (sumK (m.ex.getD rn exNo).kind) (prX m.ex rn)) = tl ++ tMinus ++ tr) := by show _ = _; rw [HTL.out, HTR.out]
  unfold modD
  rw [hex]
  clear hex h HA HE HMV HTL HTR htl htr hkr HKR hg2 he hsz hp3 d0 eg
  go_enter Try.func177, Try.ntmps177
  go_wp2_with fail
  have x0 := cell_regrown X.out.c0
  have x4 := cell_regrown X.out.c4
  have x5 := cell_regrown X.out.c5
  have y0 := cell_regrown Y.out.1
  have y1 := cell_regrown Y.out.2.1
  have y2 := cell_regrown Y.out.2.2.1
  have y3 := cell_regrown Y.out.2.2.2.1
  have y4 := cell_regrown Y.out.2.2.2.2.1
  have e0 := cell_regrown D0.out
  refine wp_region_quiet_below (by kernel_rfl) (by kernel_rfl) ?_
  repeat (go_big_quiet_step (first | with_reducible exact cL _ _ | with_reducible exact cS _ _ | with_reducible exact cR _ _))
  refine wpQuiet_nil ?_
  intro w1 hw'
  obtain ⟨⟨dq, osq⟩, hw''⟩ := hw'
  have HB1 : Hid (Below w.heap.size w w1) := by show Below _ _ _; rw [hw'']; exact (below2 w _ _).trans ((below_regrown _ _ _).mono (by rw [alloc_size, alloc_size]; omega))
  clear hw''
  go_wp2
  go_ret
  exact ⟨ret_str HV.out.symm, HB1.out⟩
end Go.Proofs.Ytdbpknmoacjodaa
namespace Go.Proofs.Ytdbpknmoacjodaa
open Go.RowKit Go.PlainAid Go.Sort

set_option maxRecDepth 100000 in
set_option maxHeartbeats 12800000 in
theorem l5Expr_8 (base g : Nat) (S : Sv) (m : Md) (i ln rn : Nat) (k nu : Int) (nm fi : ByteArray) (w : World) (hex : S.ex.a = some ⟨g, 0, none⟩) (h : OwnMd w base S m) (hi : i < m.ex.length) (hlt : g < w.heap.size) (c0 : w.cell? ⟨g, i * 6, none⟩ = some (.int .i64 k)) (c1 : w.cell? ⟨g, i * 6 + 1, none⟩ = some (.int .i64 nu)) (c2 : w.cell? ⟨g, i * 6 + 2, none⟩ = some (.string nm)) (c3 : w.cell? ⟨g, i * 6 + 3, none⟩ = some (.string fi)) (c4 : w.cell? ⟨g, i * 6 + 4, none⟩ = some (.int .i64 (ln : Int))) (c5 : w.cell? ⟨g, i * 6 + 5, none⟩ = some (.int .i64 (rn : Int))) (k1 : (k == 1) = false) (k2 : (k == 2) = false) (k3 : (k == 3) = false) (k4 : (k == 4) = false) (k5 : (k == 5) = false) (k6 : (k == 6) = false) (k7 : (k == 7) = false) (k8 : (k == 8) = true) (hsz : (sideT (sumK (m.ex.getD ln exNo).kind) (prX m.ex ln) ++ tStar ++ sideT (twoK (m.ex.getD rn exNo).kind) (prX m.ex rn)).size ≤ 1099511627776) (he : ExprOK base S m i) (hl : ln < i) (hr : rn < i) (hwl : wt m.ex ln ≤ 1099511627776) (hwr : wt m.ex rn ≤ 1099511627776) :
    Calls Try.prog 177 #[modD S m, .int .i64 i] w fun e w' => e = .returned (.string (sideT (sumK (m.ex.getD ln exNo).kind) (prX m.ex ln) ++ tStar ++ sideT (twoK (m.ex.getD rn exNo).kind) (prX m.ex rn))) ∧ Below w.heap.size w w' := by
  have hii : (i : Int) < (m.ex.length : Int) := by omega
  have HA : Hid (OwnMd ((w.alloc (.cells #[.slice S.rq.a m.rq.length S.rq.cap, .slice S.im.a m.im.length S.im.cap, .slice S.ep.a m.ep.length S.ep.cap, .slice S.st.a m.st.length S.st.cap, .slice (some ⟨g, 0, none⟩) m.ex.length S.ex.cap] 37)).alloc (.cells #[.int .i64 k, .int .i64 nu, .string nm, .string fi, .int .i64 (ln : Int), .int .i64 (rn : Int)] 96)) base S m) := (h.alloc _).alloc _
  have HE := hidI he
  have HMV : Hid (modD S m = .agg #[.slice S.rq.a m.rq.length S.rq.cap, .slice S.im.a m.im.length S.im.cap, .slice S.ep.a m.ep.length S.ep.cap, .slice S.st.a m.st.length S.st.cap, .slice (some ⟨g, 0, none⟩) m.ex.length S.ex.cap]) := by show _ = _; rw [modD, hex]
  have hli : (ln : Int) < (m.ex.length : Int) := by omega
  have hri : (rn : Int) < (m.ex.length : Int) := by omega
  obtain ⟨g2, hg2, -, d0, -, -, -, -, -⟩ := h.expr (i := rn) (by omega)
  have eg : g2 = g := by have := hg2.symm.trans hex; simpa using this
  rw [eg] at d0
  obtain ⟨kr, hkr⟩ : ∃ kr, (m.ex.getD rn exNo).kind = kr := ⟨_, rfl⟩
  rw [hkr] at d0
  have HKR := hidI hkr
  obtain ⟨tl, htl⟩ : ∃ tl, sideT (sumK (m.ex.getD ln exNo).kind) (prX m.ex ln) = tl := ⟨_, rfl⟩
  obtain ⟨tr, htr⟩ : ∃ tr, sideT (twoK (m.ex.getD rn exNo).kind) (prX m.ex rn) = tr := ⟨_, rfl⟩
  rw [htl, htr] at hsz
  have HTL := hidI htl
  have HTR := hidI htr
  obtain ⟨kl, hkl⟩ : ∃ kl, (m.ex.getD ln exNo).kind = kl := ⟨_, rfl⟩
  have cK : ∀ d os, Calls Try.prog 206 #[.agg #[.slice S.rq.a m.rq.length S.rq.cap, .slice S.im.a m.im.length S.im.cap, .slice S.ep.a m.ep.length S.ep.cap, .slice S.st.a m.st.length S.st.cap, .slice (some ⟨g, 0, none⟩) m.ex.length S.ex.cap], .int .i64 (ln : Int)] (grow (redrawn ((w.alloc (.cells #[.slice S.rq.a m.rq.length S.rq.cap, .slice S.im.a m.im.length S.im.cap, .slice S.ep.a m.ep.length S.ep.cap, .slice S.st.a m.st.length S.st.cap, .slice (some ⟨g, 0, none⟩) m.ex.length S.ex.cap] 37)).alloc (.cells #[.int .i64 k, .int .i64 nu, .string nm, .string fi, .int .i64 (ln : Int), .int .i64 (rn : Int)] 96)) d) os) fun e w'' => e = .returned (.bool (sumK kl)) ∧ ∃ p : Regrown, w'' = grow (redrawn ((w.alloc (.cells #[.slice S.rq.a m.rq.length S.rq.cap, .slice S.im.a m.im.length S.im.cap, .slice S.ep.a m.ep.length S.ep.cap, .slice S.st.a m.st.length S.st.cap, .slice (some ⟨g, 0, none⟩) m.ex.length S.ex.cap] 37)).alloc (.cells #[.int .i64 k, .int .i64 nu, .string nm, .string fi, .int .i64 (ln : Int), .int .i64 (rn : Int)] 96)) p.d) p.os := fun d os => Calls.regrown_of (by rw [← HMV.out, ← hkl]; exact l5Sum_any base S m ln _ (HA.out.later (below_regrown _ d os)) (by omega))
  have cL : ∀ d os, Calls Try.prog 205 #[.agg #[.slice S.rq.a m.rq.length S.rq.cap, .slice S.im.a m.im.length S.im.cap, .slice S.ep.a m.ep.length S.ep.cap, .slice S.st.a m.st.length S.st.cap, .slice (some ⟨g, 0, none⟩) m.ex.length S.ex.cap], .int .i64 (ln : Int), .bool (sumK kl)] (grow (redrawn ((w.alloc (.cells #[.slice S.rq.a m.rq.length S.rq.cap, .slice S.im.a m.im.length S.im.cap, .slice S.ep.a m.ep.length S.ep.cap, .slice S.st.a m.st.length S.st.cap, .slice (some ⟨g, 0, none⟩) m.ex.length S.ex.cap] 37)).alloc (.cells #[.int .i64 k, .int .i64 nu, .string nm, .string fi, .int .i64 (ln : Int), .int .i64 (rn : Int)] 96)) d) os) fun e w'' => e = .returned (.string tl) ∧ ∃ p : Regrown, w'' = grow (redrawn ((w.alloc (.cells #[.slice S.rq.a m.rq.length S.rq.cap, .slice S.im.a m.im.length S.im.cap, .slice S.ep.a m.ep.length S.ep.cap, .slice S.st.a m.st.length S.st.cap, .slice (some ⟨g, 0, none⟩) m.ex.length S.ex.cap] 37)).alloc (.cells #[.int .i64 k, .int .i64 nu, .string nm, .string fi, .int .i64 (ln : Int), .int .i64 (rn : Int)] 96)) p.d) p.os := fun d os => Calls.regrown_of (by rw [← HMV.out, ← HTL.out, hkl]; exact l5Side_of base S m i ln _ _ HE.out (by omega) (by omega) (HA.out.later (below_regrown _ d os)) hwl)
  have cS : ∀ d os, Calls Try.prog 119 #[.int .i64 kr] (grow (redrawn ((w.alloc (.cells #[.slice S.rq.a m.rq.length S.rq.cap, .slice S.im.a m.im.length S.im.cap, .slice S.ep.a m.ep.length S.ep.cap, .slice S.st.a m.st.length S.st.cap, .slice (some ⟨g, 0, none⟩) m.ex.length S.ex.cap] 37)).alloc (.cells #[.int .i64 k, .int .i64 nu, .string nm, .string fi, .int .i64 (ln : Int), .int .i64 (rn : Int)] 96)) d) os) fun e w'' => e = .returned (.bool (twoK kr)) ∧ ∃ p : Regrown, w'' = grow (redrawn ((w.alloc (.cells #[.slice S.rq.a m.rq.length S.rq.cap, .slice S.im.a m.im.length S.im.cap, .slice S.ep.a m.ep.length S.ep.cap, .slice S.st.a m.st.length S.st.cap, .slice (some ⟨g, 0, none⟩) m.ex.length S.ex.cap] 37)).alloc (.cells #[.int .i64 k, .int .i64 nu, .string nm, .string fi, .int .i64 (ln : Int), .int .i64 (rn : Int)] 96)) p.d) p.os := fun d os => Calls.regrown_of ((l5Two_any kr _).mono (by rintro e w' ⟨rfl, rfl⟩; exact ⟨rfl, Below.refl _ _⟩))
  have cR : ∀ d os, Calls Try.prog 205 #[.agg #[.slice S.rq.a m.rq.length S.rq.cap, .slice S.im.a m.im.length S.im.cap, .slice S.ep.a m.ep.length S.ep.cap, .slice S.st.a m.st.length S.st.cap, .slice (some ⟨g, 0, none⟩) m.ex.length S.ex.cap], .int .i64 (rn : Int), .bool (twoK kr)] (grow (redrawn ((w.alloc (.cells #[.slice S.rq.a m.rq.length S.rq.cap, .slice S.im.a m.im.length S.im.cap, .slice S.ep.a m.ep.length S.ep.cap, .slice S.st.a m.st.length S.st.cap, .slice (some ⟨g, 0, none⟩) m.ex.length S.ex.cap] 37)).alloc (.cells #[.int .i64 k, .int .i64 nu, .string nm, .string fi, .int .i64 (ln : Int), .int .i64 (rn : Int)] 96)) d) os) fun e w'' => e = .returned (.string tr) ∧ ∃ p : Regrown, w'' = grow (redrawn ((w.alloc (.cells #[.slice S.rq.a m.rq.length S.rq.cap, .slice S.im.a m.im.length S.im.cap, .slice S.ep.a m.ep.length S.ep.cap, .slice S.st.a m.st.length S.st.cap, .slice (some ⟨g, 0, none⟩) m.ex.length S.ex.cap] 37)).alloc (.cells #[.int .i64 k, .int .i64 nu, .string nm, .string fi, .int .i64 (ln : Int), .int .i64 (rn : Int)] 96)) p.d) p.os := fun d os => Calls.regrown_of (by rw [← HMV.out, ← HTR.out, HKR.out]; exact l5Side_of base S m i rn _ _ HE.out (by omega) (by omega) (HA.out.later (below_regrown _ d os)) hwr)
  have X : Hid (Six ((w.alloc (.cells #[.slice S.rq.a m.rq.length S.rq.cap, .slice S.im.a m.im.length S.im.cap, .slice S.ep.a m.ep.length S.ep.cap, .slice S.st.a m.st.length S.st.cap, .slice (some ⟨g, 0, none⟩) m.ex.length S.ex.cap] 37)).alloc (.cells #[.int .i64 k, .int .i64 nu, .string nm, .string fi, .int .i64 (ln : Int), .int .i64 (rn : Int)] 96)) (w.heap.size + 1) (.int .i64 k) (.int .i64 nu) (.string nm) (.string fi) (.int .i64 (ln : Int)) (.int .i64 (rn : Int))) := six_of (new2 w _ _)
  have Y := hidI (five_of (alloc_keep (o' := .cells #[.int .i64 k, .int .i64 nu, .string nm, .string fi, .int .i64 (ln : Int), .int .i64 (rn : Int)] 96) (heap_alloc_new w (.cells #[.slice S.rq.a m.rq.length S.rq.cap, .slice S.im.a m.im.length S.im.cap, .slice S.ep.a m.ep.length S.ep.cap, .slice S.st.a m.st.length S.st.cap, .slice (some ⟨g, 0, none⟩) m.ex.length S.ex.cap] 37))))
  have D0 : Hid (((w.alloc (.cells #[.slice S.rq.a m.rq.length S.rq.cap, .slice S.im.a m.im.length S.im.cap, .slice S.ep.a m.ep.length S.ep.cap, .slice S.st.a m.st.length S.st.cap, .slice (some ⟨g, 0, none⟩) m.ex.length S.ex.cap] 37)).alloc (.cells #[.int .i64 k, .int .i64 nu, .string nm, .string fi, .int .i64 (ln : Int), .int .i64 (rn : Int)] 96)).cell? ⟨g, rn * 6, none⟩ = some (.int .i64 kr)) := by show _ = _; rw [World.cell?_alloc_past _ _ _ (by rw [alloc_size]; omega), World.cell?_alloc_past _ _ _ hlt]; exact d0
  simp only [ByteArray.size_append] at hsz
  have hp3 : tStar.size = 3 := rfl
  have hs1 : tl.size ≤ 1099511627776 := by omega
  have hs2 : tr.size ≤ 1099511627776 := by omega
  have HV : Hid ((sideT (sumK (m.ex.getD ln exNo).kind) (prX m.ex ln) ++ tStar ++ sideT (twoK (m.ex.getD rn exNo).kind) (prX m.ex rn)) = tl ++ tStar ++ tr) := by show _ = _; rw [HTL.out, HTR.out]
  unfold modD
  rw [hex]
  clear hex h HA HE HMV HTL HTR htl htr hkr HKR hg2 he hsz hp3 d0 eg hkl
  go_enter Try.func177, Try.ntmps177
  go_wp2_with fail
  have x0 := cell_regrown X.out.c0
  have x4 := cell_regrown X.out.c4
  have x5 := cell_regrown X.out.c5
  have y0 := cell_regrown Y.out.1
  have y1 := cell_regrown Y.out.2.1
  have y2 := cell_regrown Y.out.2.2.1
  have y3 := cell_regrown Y.out.2.2.2.1
  have y4 := cell_regrown Y.out.2.2.2.2.1
  have e0 := cell_regrown D0.out
  refine wp_region_quiet_below (by kernel_rfl) (by kernel_rfl) ?_
  repeat (go_big_quiet_step (first | with_reducible exact cL _ _ | with_reducible exact cS _ _ | with_reducible exact cR _ _ | with_reducible exact cK _ _))
  refine wpQuiet_nil ?_
  intro w1 hw'
  obtain ⟨⟨dq, osq⟩, hw''⟩ := hw'
  have HB1 : Hid (Below w.heap.size w w1) := by show Below _ _ _; rw [hw'']; exact (below2 w _ _).trans ((below_regrown _ _ _).mono (by rw [alloc_size, alloc_size]; omega))
  clear hw''
  go_wp2
  go_ret
  exact ⟨ret_str HV.out.symm, HB1.out⟩
end Go.Proofs.Ytdbpknmoacjodaa
namespace Go.Proofs.Ytdbpknmoacjodaa
open Go.RowKit Go.PlainAid Go.Sort

theorem side_ge (b : Bool) (t : ByteArray) : t.size ≤ (sideT b t).size := by
  unfold sideT
  split
  · rw [ByteArray.size_append, ByteArray.size_append]
    omega
  · exact Nat.le_refl _
theorem l5Expr_all (base : Nat) (S : Sv) (m : Md) (hn : Nums m.ex) (ha : Ahead m.ex) (n : Nat) : ExprOK base S m n := by
  induction n with
  | zero => intro i w hi; omega
  | succ n ih =>
    intro i w hin hi h hw
    by_cases hlt : i < n
    · exact ih i w hlt hi h hw
    · have he : ExprOK base S m i := by
        have : i = n := by omega
        rw [this]
        exact ih
      obtain ⟨g, hex, hgl, c0, c1, c2, c3, c4, c5⟩ := h.expr hi
      have hnu := hn (m.ex.getD i exNo) (by rw [getD_at hi]; exact List.getElem_mem hi)
      have hah := ahead_at ha (i := i)
      unfold wt at hw
      rw [prX_step ha] at hw ⊢
      generalize m.ex.getD i exNo = x at *
      by_cases k1 : (x.kind == 1) = true
      · rw [if_pos k1]
        exact l5Expr_1 g S m i _ _ _ _ _ _ w hex hi hgl c0 c1 c2 c3 c4 c5  k1 hnu
      rw [if_neg k1] at hw ⊢
      by_cases k2 : (x.kind == 2) = true
      · rw [if_pos k2]
        exact l5Expr_2 g S m i _ _ _ _ _ _ w hex hi hgl c0 c1 c2 c3 c4 c5 (by simpa using k1) k2
      rw [if_neg k2] at hw ⊢
      by_cases k3 : (x.kind == 3) = true
      · rw [if_pos k3] at hw ⊢
        exact l5Expr_3 g S m i _ _ _ _ _ _ w hex hi hgl c0 c1 c2 c3 c4 c5 (by simpa using k1) (by simpa using k2) k3 hw
      rw [if_neg k3] at hw ⊢
      by_cases k4 : (x.kind == 4) = true
      · rw [if_pos k4] at hw ⊢
        exact l5Expr_4 g S m i _ _ _ _ _ _ w hex hi hgl c0 c1 c2 c3 c4 c5 (by simpa using k1) (by simpa using k2) (by simpa using k3) k4 hw
      rw [if_neg k4] at hw ⊢
      by_cases k5 : (x.kind == 5) = true
      · rw [if_pos k5] at hw ⊢
        exact l5Expr_5 g S m i _ _ _ _ _ _ w hex hi hgl c0 c1 c2 c3 c4 c5 (by simpa using k1) (by simpa using k2) (by simpa using k3) (by simpa using k4) k5 hw
      rw [if_neg k5] at hw ⊢
      by_cases k6 : (x.kind == 6) = true
      · rw [if_pos k6] at hw ⊢
        obtain ⟨h1, h2, h3, h4⟩ := hah (two_of (.inl k6))
        have hw2 := hw
        rw [ByteArray.size_append, ByteArray.size_append] at hw2
        have s2 := side_ge (sumK (m.ex.getD x.r.toNat exNo).kind) (prX m.ex x.r.toNat)
        exact l5Expr_6 base g S m i x.l.toNat x.r.toNat _ _ _ _ w hex h hi hgl c0 c1 c2 c3 (by rw [c4, Int.toNat_of_nonneg h1]) (by rw [c5, Int.toNat_of_nonneg h3]) (by simpa using k1) (by simpa using k2) (by simpa using k3) (by simpa using k4) (by simpa using k5) k6 hw he (by omega) (by omega) (by unfold wt; omega) (by unfold wt; omega)
      rw [if_neg k6] at hw ⊢
      by_cases k7 : (x.kind == 7) = true
      · rw [if_pos k7] at hw ⊢
        obtain ⟨h1, h2, h3, h4⟩ := hah (two_of (.inr (.inl k7)))
        have hw2 := hw
        rw [ByteArray.size_append, ByteArray.size_append] at hw2
        have s2 := side_ge (sumK (m.ex.getD x.r.toNat exNo).kind) (prX m.ex x.r.toNat)
        exact l5Expr_7 base g S m i x.l.toNat x.r.toNat _ _ _ _ w hex h hi hgl c0 c1 c2 c3 (by rw [c4, Int.toNat_of_nonneg h1]) (by rw [c5, Int.toNat_of_nonneg h3]) (by simpa using k1) (by simpa using k2) (by simpa using k3) (by simpa using k4) (by simpa using k5) (by simpa using k6) k7 hw he (by omega) (by omega) (by unfold wt; omega) (by unfold wt; omega)
      rw [if_neg k7] at hw ⊢
      by_cases k8 : (x.kind == 8) = true
      · rw [if_pos k8] at hw ⊢
        obtain ⟨h1, h2, h3, h4⟩ := hah (two_of (.inr (.inr k8)))
        have hw2 := hw
        rw [ByteArray.size_append, ByteArray.size_append] at hw2
        have s1 := side_ge (sumK (m.ex.getD x.l.toNat exNo).kind) (prX m.ex x.l.toNat)
        have s2 := side_ge (twoK (m.ex.getD x.r.toNat exNo).kind) (prX m.ex x.r.toNat)
        exact l5Expr_8 base g S m i x.l.toNat x.r.toNat _ _ _ _ w hex h hi hgl c0 c1 c2 c3 (by rw [c4, Int.toNat_of_nonneg h1]) (by rw [c5, Int.toNat_of_nonneg h3]) (by simpa using k1) (by simpa using k2) (by simpa using k3) (by simpa using k4) (by simpa using k5) (by simpa using k6) (by simpa using k7) k8 hw he (by omega) (by omega) (by unfold wt; omega) (by unfold wt; omega)
      rw [if_neg k8] at hw ⊢
      exact l5Expr_9 g S m i _ _ _ _ _ _ w hex hi hgl c0 c1 c2 c3 c4 c5 (by simpa using k1) (by simpa using k2) (by simpa using k3) (by simpa using k4) (by simpa using k5) (by simpa using k6) (by simpa using k7) (by simpa using k8)
theorem l5Expr_any (base : Nat) (S : Sv) (m : Md) (i : Nat) (w : World) (hn : Nums m.ex) (ha : Ahead m.ex) (hi : i < m.ex.length) (h : OwnMd w base S m) (hw : wt m.ex i ≤ 1099511627776) :
    Calls Try.prog 177 #[modD S m, .int .i64 i] w fun e w' => e = .returned (.string (prX m.ex i)) ∧ Below w.heap.size w w' := l5Expr_all base S m hn ha (i + 1) i w (Nat.lt_succ_self i) hi h hw
end Go.Proofs.Ytdbpknmoacjodaa
namespace Go.Proofs.Ytdbpknmoacjodaa
open Go.RowKit Go.PlainAid Go.Sort

set_option maxRecDepth 100000 in
set_option maxHeartbeats 3200000 in
theorem l5As_any (a b : ByteArray) (w : World) (ha : a.size ≤ 1099511627776) (hb : b.size ≤ 1099511627776) : Calls Try.prog 176 #[.string a, .string b] w fun e w' => e = .returned (.string (asT a b)) ∧ w' = w := by
  cases h : (a.toList == b.toList) with
  | true =>
    have HV : Hid (asT a b = a) := by show _ = _; rw [asT, h]; rfl
    go_enter Try.func176, Try.ntmps176
    go_wp2
    go_ret
    exact ⟨ret_str HV.out.symm, rfl⟩
  | false =>
    have HV : Hid (asT a b = a ++ ({ data := #[32, 97, 115, 32] } : ByteArray) ++ b) := by show _ = _; rw [asT, h]; rfl
    go_enter Try.func176, Try.ntmps176
    go_wp2
    go_ret
    exact ⟨ret_str HV.out.symm, rfl⟩
set_option maxRecDepth 100000 in
set_option maxHeartbeats 3200000 in
theorem l5Quote_any (s : ByteArray) (w : World) (hs : s.size ≤ 1099511627776) : Calls Try.prog 110 #[.string s] w fun e w' => e = .returned (.string (quoteT s)) ∧ w' = w := by
  have HV : Hid (quoteT s = ({ data := #[34] } : ByteArray) ++ s ++ ({ data := #[34] } : ByteArray)) := rfl
  go_enter Try.func110, Try.ntmps110
  go_wp2
  go_ret
  exact ⟨ret_str HV.out.symm, rfl⟩
theorem quote_size (s : ByteArray) : (quoteT s).size = s.size + 2 := by
  rw [quoteT, ByteArray.size_append, ByteArray.size_append]
  show 1 + s.size + 1 = _
  omega
theorem as_size (a b : ByteArray) : (asT a b).size ≤ a.size + b.size + 4 := by
  unfold asT
  split
  · omega
  · rw [ByteArray.size_append, ByteArray.size_append]
    show a.size + 4 + b.size ≤ _
    omega
set_option maxRecDepth 100000 in
set_option maxHeartbeats 3200000 in
theorem l5Imp_any (x : Im) (w : World) (h1 : x.spec.size ≤ 4294967296) (h2 : x.first.size ≤ 4294967296) (h3 : x.loc.size ≤ 4294967296) : Calls Try.prog 111 #[imV x] w fun e w' => e = .returned (.string (impT x)) ∧ Below w.heap.size w w' := by
  obtain ⟨qt, hqt⟩ : ∃ t, quoteT x.spec = t := ⟨_, rfl⟩
  obtain ⟨at', hat⟩ : ∃ t, asT x.first x.loc = t := ⟨_, rfl⟩
  have hq := quote_size x.spec
  have ha := as_size x.first x.loc
  rw [hqt] at hq
  rw [hat] at ha
  have hq2 : qt.size ≤ 8589934592 := by omega
  have ha2 : at'.size ≤ 17179869184 := by omega
  have QT := hidI hqt
  have AT := hidI hat
  have cQ : ∀ d os, Calls Try.prog 110 #[.string x.spec] (grow (redrawn (w.alloc (.cells #[.string x.spec, .string x.first, .string x.loc] 154)) d) os) fun e w'' => e = .returned (.string qt) ∧ ∃ p : Regrown, w'' = grow (redrawn (w.alloc (.cells #[.string x.spec, .string x.first, .string x.loc] 154)) p.d) p.os := fun d os => Calls.regrown_of (by rw [← hqt]; exact (l5Quote_any x.spec _ (by omega)).mono (by rintro e w' ⟨rfl, rfl⟩; exact ⟨rfl, Below.refl _ _⟩))
  have cA : ∀ d os, Calls Try.prog 176 #[.string x.first, .string x.loc] (grow (redrawn (w.alloc (.cells #[.string x.spec, .string x.first, .string x.loc] 154)) d) os) fun e w'' => e = .returned (.string at') ∧ ∃ p : Regrown, w'' = grow (redrawn (w.alloc (.cells #[.string x.spec, .string x.first, .string x.loc] 154)) p.d) p.os := fun d os => Calls.regrown_of (by rw [← hat]; exact (l5As_any x.first x.loc _ (by omega) (by omega)).mono (by rintro e w' ⟨rfl, rfl⟩; exact ⟨rfl, Below.refl _ _⟩))
  have X := hidI (three_of (heap_alloc_new w (.cells #[.string x.spec, .string x.first, .string x.loc] 154)))
  clear hqt hat hq ha
  unfold imV
  cases e1 : (x.first.toList == [42]) with
  | true =>
    have HV : Hid (impT x = ({ data := #[105, 109, 112, 111, 114, 116, 32, 42, 32, 97, 115, 32] } : ByteArray) ++ x.loc ++ ({ data := #[32, 102, 114, 111, 109, 32] } : ByteArray) ++ quoteT x.spec ++ ({ data := #[59, 10] } : ByteArray)) := by show _ = _; rw [impT, e1]; rfl
    go_enter Try.func111, Try.ntmps111
    go_wp2_with fail
    have y0 := cell_regrown X.out.1
    have y1 := cell_regrown X.out.2.1
    have y2 := cell_regrown X.out.2.2.1
    refine wp_region_quiet_below (by kernel_rfl) (by kernel_rfl) ?_
    repeat (go_big_quiet_step (first | with_reducible exact cQ _ _ | with_reducible exact cA _ _))
    refine wpQuiet_nil ?_
    intro w1 hw'
    obtain ⟨⟨dq, osq⟩, hw''⟩ := hw'
    have HB1 : Hid (Below w.heap.size w w1) := by show Below _ _ _; rw [hw'']; exact ((Below.refl _ _).alloc (Nat.le_refl _) _).trans ((below_regrown _ _ _).mono (by rw [alloc_size]; omega))
    clear hw''
    go_wp2
    go_ret
    exact ⟨ret_str (by rw [HV.out, QT.out]), HB1.out⟩
  | false =>
    cases e2 : (x.first.toList == [100, 101, 102, 97, 117, 108, 116]) with
    | true =>
      have HV : Hid (impT x = ({ data := #[105, 109, 112, 111, 114, 116, 32] } : ByteArray) ++ x.loc ++ ({ data := #[32, 102, 114, 111, 109, 32] } : ByteArray) ++ quoteT x.spec ++ ({ data := #[59, 10] } : ByteArray)) := by show _ = _; rw [impT, e1, e2]; rfl
      go_enter Try.func111, Try.ntmps111
      go_wp2_with fail
      have y0 := cell_regrown X.out.1
      have y1 := cell_regrown X.out.2.1
      have y2 := cell_regrown X.out.2.2.1
      refine wp_region_quiet_below (by kernel_rfl) (by kernel_rfl) ?_
      repeat (go_big_quiet_step (first | with_reducible exact cQ _ _ | with_reducible exact cA _ _))
      refine wpQuiet_nil ?_
      intro w1 hw'
      obtain ⟨⟨dq, osq⟩, hw''⟩ := hw'
      have HB1 : Hid (Below w.heap.size w w1) := by show Below _ _ _; rw [hw'']; exact ((Below.refl _ _).alloc (Nat.le_refl _) _).trans ((below_regrown _ _ _).mono (by rw [alloc_size]; omega))
      clear hw''
      go_wp2
      go_ret
      exact ⟨ret_str (by rw [HV.out, QT.out]), HB1.out⟩
    | false =>
      have HV : Hid (impT x = ({ data := #[105, 109, 112, 111, 114, 116, 32, 123, 32] } : ByteArray) ++ asT x.first x.loc ++ ({ data := #[32, 125, 32, 102, 114, 111, 109, 32] } : ByteArray) ++ quoteT x.spec ++ ({ data := #[59, 10] } : ByteArray)) := by show _ = _; rw [impT, e1, e2]; rfl
      go_enter Try.func111, Try.ntmps111
      go_wp2_with fail
      have y0 := cell_regrown X.out.1
      have y1 := cell_regrown X.out.2.1
      have y2 := cell_regrown X.out.2.2.1
      refine wp_region_quiet_below (by kernel_rfl) (by kernel_rfl) ?_
      repeat (go_big_quiet_step (first | with_reducible exact cQ _ _ | with_reducible exact cA _ _))
      refine wpQuiet_nil ?_
      intro w1 hw'
      obtain ⟨⟨dq, osq⟩, hw''⟩ := hw'
      have HB1 : Hid (Below w.heap.size w w1) := by show Below _ _ _; rw [hw'']; exact ((Below.refl _ _).alloc (Nat.le_refl _) _).trans ((below_regrown _ _ _).mono (by rw [alloc_size]; omega))
      clear hw''
      go_wp2
      go_ret
      exact ⟨ret_str (by rw [HV.out, QT.out, AT.out]), HB1.out⟩
set_option maxRecDepth 100000 in
set_option maxHeartbeats 3200000 in
theorem l5Exp_any (x : Ep) (w : World) (h1 : x.spec.size ≤ 4294967296) (h2 : x.name.size ≤ 4294967296) (h3 : x.loc.size ≤ 4294967296) : Calls Try.prog 112 #[epV x] w fun e w' => e = .returned (.string (expT x)) ∧ Below w.heap.size w w' := by
  obtain ⟨qt, hqt⟩ : ∃ t, quoteT x.spec = t := ⟨_, rfl⟩
  obtain ⟨at', hat⟩ : ∃ t, asT x.loc x.name = t := ⟨_, rfl⟩
  have hq := quote_size x.spec
  have ha := as_size x.loc x.name
  rw [hqt] at hq
  rw [hat] at ha
  have hq2 : qt.size ≤ 8589934592 := by omega
  have ha2 : at'.size ≤ 17179869184 := by omega
  have QT := hidI hqt
  have AT := hidI hat
  have cQ : ∀ d os, Calls Try.prog 110 #[.string x.spec] (grow (redrawn (w.alloc (.cells #[.int .i64 x.kind, .string x.name, .string x.loc, .string x.spec] 79)) d) os) fun e w'' => e = .returned (.string qt) ∧ ∃ p : Regrown, w'' = grow (redrawn (w.alloc (.cells #[.int .i64 x.kind, .string x.name, .string x.loc, .string x.spec] 79)) p.d) p.os := fun d os => Calls.regrown_of (by rw [← hqt]; exact (l5Quote_any x.spec _ (by omega)).mono (by rintro e w' ⟨rfl, rfl⟩; exact ⟨rfl, Below.refl _ _⟩))
  have cA : ∀ d os, Calls Try.prog 176 #[.string x.loc, .string x.name] (grow (redrawn (w.alloc (.cells #[.int .i64 x.kind, .string x.name, .string x.loc, .string x.spec] 79)) d) os) fun e w'' => e = .returned (.string at') ∧ ∃ p : Regrown, w'' = grow (redrawn (w.alloc (.cells #[.int .i64 x.kind, .string x.name, .string x.loc, .string x.spec] 79)) p.d) p.os := fun d os => Calls.regrown_of (by rw [← hat]; exact (l5As_any x.loc x.name _ (by omega) (by omega)).mono (by rintro e w' ⟨rfl, rfl⟩; exact ⟨rfl, Below.refl _ _⟩))
  have cQ1 : ∀ w : World, Calls Try.prog 110 #[.string x.spec] w fun e w' => e = .returned (.string qt) ∧ w' = w := fun w => by rw [← hqt]; exact l5Quote_any x.spec w (by omega)
  have cA1 : ∀ w : World, Calls Try.prog 176 #[.string x.loc, .string x.name] w fun e w' => e = .returned (.string at') ∧ w' = w := fun w => by rw [← hat]; exact l5As_any x.loc x.name w (by omega) (by omega)
  have X := hidI (four_of (heap_alloc_new w (.cells #[.int .i64 x.kind, .string x.name, .string x.loc, .string x.spec] 79)))
  clear hqt hat hq ha
  unfold epV
  cases e1 : (x.kind == 3) with
  | true =>
    have HV : Hid (expT x = ({ data := #[101, 120, 112, 111, 114, 116, 32, 42, 32, 102, 114, 111, 109, 32] } : ByteArray) ++ quoteT x.spec ++ ({ data := #[59, 10] } : ByteArray)) := by show _ = _; rw [expT, e1]; rfl
    go_enter Try.func112, Try.ntmps112
    go_wp2_with fail
    refine (cQ1 _).mono ?_
    rintro e w1 ⟨rfl, hw⟩
    rw [hw]
    clear hw w1
    go_wp2
    go_ret
    exact ⟨ret_str (by rw [HV.out, QT.out]), (Below.refl _ _).alloc (Nat.le_refl _) _⟩
  | false =>
    cases e2 : (x.kind == 2) with
    | true =>
      have HV : Hid (expT x = ({ data := #[101, 120, 112, 111, 114, 116, 32, 123, 32] } : ByteArray) ++ asT x.loc x.name ++ ({ data := #[32, 125, 32, 102, 114, 111, 109, 32] } : ByteArray) ++ quoteT x.spec ++ ({ data := #[59, 10] } : ByteArray)) := by show _ = _; rw [expT, e1, e2]; rfl
      go_enter Try.func112, Try.ntmps112
      go_wp2_with fail
      have y0 := cell_regrown X.out.1
      have y1 := cell_regrown X.out.2.1
      have y2 := cell_regrown X.out.2.2.1
      have y3 := cell_regrown X.out.2.2.2.1
      refine wp_region_quiet_below (by kernel_rfl) (by kernel_rfl) ?_
      repeat (go_big_quiet_step (first | with_reducible exact cQ _ _ | with_reducible exact cA _ _))
      refine wpQuiet_nil ?_
      intro w1 hw'
      obtain ⟨⟨dq, osq⟩, hw''⟩ := hw'
      have HB1 : Hid (Below w.heap.size w w1) := by show Below _ _ _; rw [hw'']; exact ((Below.refl _ _).alloc (Nat.le_refl _) _).trans ((below_regrown _ _ _).mono (by rw [alloc_size]; omega))
      clear hw''
      go_wp2
      go_ret
      exact ⟨ret_str (by rw [HV.out, QT.out, AT.out]), HB1.out⟩
    | false =>
      have HV : Hid (expT x = ({ data := #[101, 120, 112, 111, 114, 116, 32, 123, 32] } : ByteArray) ++ asT x.loc x.name ++ ({ data := #[32, 125, 59, 10] } : ByteArray)) := by show _ = _; rw [expT, e1, e2]; rfl
      go_enter Try.func112, Try.ntmps112
      go_wp2_with fail
      refine (cA1 _).mono ?_
      rintro e w1 ⟨rfl, hw⟩
      rw [hw]
      clear hw w1
      go_wp2
      go_ret
      exact ⟨ret_str (by rw [HV.out, AT.out]), (Below.refl _ _).alloc (Nat.le_refl _) _⟩
set_option maxRecDepth 100000 in
set_option maxHeartbeats 3200000 in
theorem l5Stmt_0 (base : Nat) (S : Sv) (m : Md) (k : Int) (n : ByteArray) (i : Nat) (w : World) (h : OwnMd w base S m) (hi : i < m.ex.length) (hn : Nums m.ex) (ha : Ahead m.ex) (hw : wt m.ex i ≤ 1099511627776) (_ : n.size ≤ 4294967296) (k1 : (k == 1) = true) (en : (n.toList == [42, 100, 101, 102, 97, 117, 108, 116]) = true) :
    Calls Try.prog 113 #[modD S m, .agg #[.int .i64 k, .string n, .int .i64 (i : Int)]] w fun e w' => e = .returned (.string (stmtT k n (prX m.ex i))) ∧ Below w.heap.size w w' := by
  have HH := hidI h
  have HV : Hid (stmtT k n (prX m.ex i) = ({ data := #[101, 120, 112, 111, 114, 116, 32, 100, 101, 102, 97, 117, 108, 116, 32] } : ByteArray) ++ prX m.ex i ++ ({ data := #[59, 10] } : ByteArray)) := by show _ = _; rw [stmtT, k1, en]; rfl
  have hsz := hw
  unfold wt at hsz
  have HX := hidI (And.intro (alloc_keep (o' := .cells #[.int .i64 k, .string n, .int .i64 (i : Int)] 159) (heap_alloc_new w (.cells #[.slice S.rq.a m.rq.length S.rq.cap, .slice S.im.a m.im.length S.im.cap, .slice S.ep.a m.ep.length S.ep.cap, .slice S.st.a m.st.length S.st.cap, .slice S.ex.a m.ex.length S.ex.cap] 37))) (new2 w (.cells #[.slice S.rq.a m.rq.length S.rq.cap, .slice S.im.a m.im.length S.im.cap, .slice S.ep.a m.ep.length S.ep.cap, .slice S.st.a m.st.length S.st.cap, .slice S.ex.a m.ex.length S.ex.cap] 37) (.cells #[.int .i64 k, .string n, .int .i64 (i : Int)] 159)))
  clear h
  unfold modD
  go_enter Try.func113, Try.ntmps113
  go_wp2_with fail
  refine (l5Expr_any base S m i _ hn ha hi ((HH.out.alloc _).alloc _) hw).mono ?_
  rintro e w1 ⟨rfl, hb⟩
  have HB : Hid (Below w.heap.size w w1) := (below2 w _ _).trans (hb.mono (by rw [alloc_size, alloc_size]; omega))
  have HX1 := hidI ((hb.block _ (by rw [alloc_size, alloc_size]; omega)).trans HX.out.2)
  obtain ⟨c0, c1, c2, cf⟩ := three_of HX1.out
  clear hb
  obtain ⟨t, ht⟩ : ∃ t, prX m.ex i = t := ⟨_, rfl⟩
  rw [ht] at hsz ⊢
  have HT := hidI ht
  clear ht
  go_wp2
  go_ret
  exact ⟨ret_str (by rw [HV.out, HT.out]), HB.out⟩
set_option maxRecDepth 100000 in
set_option maxHeartbeats 3200000 in
theorem l5Stmt_1 (base : Nat) (S : Sv) (m : Md) (k : Int) (n : ByteArray) (i : Nat) (w : World) (h : OwnMd w base S m) (hi : i < m.ex.length) (hn : Nums m.ex) (ha : Ahead m.ex) (hw : wt m.ex i ≤ 1099511627776) (hs : n.size ≤ 4294967296) (k1 : (k == 1) = true) (en : (n.toList == [42, 100, 101, 102, 97, 117, 108, 116]) = false) :
    Calls Try.prog 113 #[modD S m, .agg #[.int .i64 k, .string n, .int .i64 (i : Int)]] w fun e w' => e = .returned (.string (stmtT k n (prX m.ex i))) ∧ Below w.heap.size w w' := by
  have HH := hidI h
  have HV : Hid (stmtT k n (prX m.ex i) = ({ data := #[108, 101, 116, 32] } : ByteArray) ++ n ++ ({ data := #[32, 61, 32] } : ByteArray) ++ prX m.ex i ++ ({ data := #[59, 10] } : ByteArray)) := by show _ = _; rw [stmtT, k1, en]; rfl
  have hsz := hw
  unfold wt at hsz
  have HX := hidI (And.intro (alloc_keep (o' := .cells #[.int .i64 k, .string n, .int .i64 (i : Int)] 159) (heap_alloc_new w (.cells #[.slice S.rq.a m.rq.length S.rq.cap, .slice S.im.a m.im.length S.im.cap, .slice S.ep.a m.ep.length S.ep.cap, .slice S.st.a m.st.length S.st.cap, .slice S.ex.a m.ex.length S.ex.cap] 37))) (new2 w (.cells #[.slice S.rq.a m.rq.length S.rq.cap, .slice S.im.a m.im.length S.im.cap, .slice S.ep.a m.ep.length S.ep.cap, .slice S.st.a m.st.length S.st.cap, .slice S.ex.a m.ex.length S.ex.cap] 37) (.cells #[.int .i64 k, .string n, .int .i64 (i : Int)] 159)))
  clear h
  unfold modD
  go_enter Try.func113, Try.ntmps113
  go_wp2_with fail
  refine (l5Expr_any base S m i _ hn ha hi ((HH.out.alloc _).alloc _) hw).mono ?_
  rintro e w1 ⟨rfl, hb⟩
  have HB : Hid (Below w.heap.size w w1) := (below2 w _ _).trans (hb.mono (by rw [alloc_size, alloc_size]; omega))
  have HX1 := hidI ((hb.block _ (by rw [alloc_size, alloc_size]; omega)).trans HX.out.2)
  obtain ⟨c0, c1, c2, cf⟩ := three_of HX1.out
  clear hb
  obtain ⟨t, ht⟩ : ∃ t, prX m.ex i = t := ⟨_, rfl⟩
  rw [ht] at hsz ⊢
  have HT := hidI ht
  clear ht
  go_wp2
  go_ret
  exact ⟨ret_str (by rw [HV.out, HT.out]), HB.out⟩
set_option maxRecDepth 100000 in
set_option maxHeartbeats 3200000 in
theorem l5Stmt_2 (base : Nat) (S : Sv) (m : Md) (k : Int) (n : ByteArray) (i : Nat) (w : World) (h : OwnMd w base S m) (hi : i < m.ex.length) (hn : Nums m.ex) (ha : Ahead m.ex) (hw : wt m.ex i ≤ 1099511627776) (hs : n.size ≤ 4294967296) (k1 : (k == 1) = false) (k2 : (k == 2) = true) :
    Calls Try.prog 113 #[modD S m, .agg #[.int .i64 k, .string n, .int .i64 (i : Int)]] w fun e w' => e = .returned (.string (stmtT k n (prX m.ex i))) ∧ Below w.heap.size w w' := by
  have HH := hidI h
  have HV : Hid (stmtT k n (prX m.ex i) = ({ data := #[102, 117, 110, 99, 116, 105, 111, 110, 32] } : ByteArray) ++ n ++ ({ data := #[40, 41, 32, 123, 32, 114, 101, 116, 117, 114, 110, 32] } : ByteArray) ++ prX m.ex i ++ ({ data := #[59, 32, 125, 10] } : ByteArray)) := by show _ = _; rw [stmtT, k1, k2]; rfl
  have hsz := hw
  unfold wt at hsz
  have HX := hidI (And.intro (alloc_keep (o' := .cells #[.int .i64 k, .string n, .int .i64 (i : Int)] 159) (heap_alloc_new w (.cells #[.slice S.rq.a m.rq.length S.rq.cap, .slice S.im.a m.im.length S.im.cap, .slice S.ep.a m.ep.length S.ep.cap, .slice S.st.a m.st.length S.st.cap, .slice S.ex.a m.ex.length S.ex.cap] 37))) (new2 w (.cells #[.slice S.rq.a m.rq.length S.rq.cap, .slice S.im.a m.im.length S.im.cap, .slice S.ep.a m.ep.length S.ep.cap, .slice S.st.a m.st.length S.st.cap, .slice S.ex.a m.ex.length S.ex.cap] 37) (.cells #[.int .i64 k, .string n, .int .i64 (i : Int)] 159)))
  clear h
  unfold modD
  go_enter Try.func113, Try.ntmps113
  go_wp2_with fail
  refine (l5Expr_any base S m i _ hn ha hi ((HH.out.alloc _).alloc _) hw).mono ?_
  rintro e w1 ⟨rfl, hb⟩
  have HB : Hid (Below w.heap.size w w1) := (below2 w _ _).trans (hb.mono (by rw [alloc_size, alloc_size]; omega))
  have HX1 := hidI ((hb.block _ (by rw [alloc_size, alloc_size]; omega)).trans HX.out.2)
  obtain ⟨c0, c1, c2, cf⟩ := three_of HX1.out
  clear hb
  obtain ⟨t, ht⟩ : ∃ t, prX m.ex i = t := ⟨_, rfl⟩
  rw [ht] at hsz ⊢
  have HT := hidI ht
  clear ht
  go_wp2
  go_ret
  exact ⟨ret_str (by rw [HV.out, HT.out]), HB.out⟩
set_option maxRecDepth 100000 in
set_option maxHeartbeats 3200000 in
theorem l5Stmt_3 (base : Nat) (S : Sv) (m : Md) (k : Int) (n : ByteArray) (i : Nat) (w : World) (h : OwnMd w base S m) (hi : i < m.ex.length) (hn : Nums m.ex) (ha : Ahead m.ex) (hw : wt m.ex i ≤ 1099511627776) (hs : n.size ≤ 4294967296) (k1 : (k == 1) = false) (k2 : (k == 2) = false) (k3 : (k == 3) = true) :
    Calls Try.prog 113 #[modD S m, .agg #[.int .i64 k, .string n, .int .i64 (i : Int)]] w fun e w' => e = .returned (.string (stmtT k n (prX m.ex i))) ∧ Below w.heap.size w w' := by
  have HH := hidI h
  have HV : Hid (stmtT k n (prX m.ex i) = n ++ ({ data := #[32, 61, 32] } : ByteArray) ++ prX m.ex i ++ ({ data := #[59, 10] } : ByteArray)) := by show _ = _; rw [stmtT, k1, k2, k3]; rfl
  have hsz := hw
  unfold wt at hsz
  have HX := hidI (And.intro (alloc_keep (o' := .cells #[.int .i64 k, .string n, .int .i64 (i : Int)] 159) (heap_alloc_new w (.cells #[.slice S.rq.a m.rq.length S.rq.cap, .slice S.im.a m.im.length S.im.cap, .slice S.ep.a m.ep.length S.ep.cap, .slice S.st.a m.st.length S.st.cap, .slice S.ex.a m.ex.length S.ex.cap] 37))) (new2 w (.cells #[.slice S.rq.a m.rq.length S.rq.cap, .slice S.im.a m.im.length S.im.cap, .slice S.ep.a m.ep.length S.ep.cap, .slice S.st.a m.st.length S.st.cap, .slice S.ex.a m.ex.length S.ex.cap] 37) (.cells #[.int .i64 k, .string n, .int .i64 (i : Int)] 159)))
  clear h
  unfold modD
  go_enter Try.func113, Try.ntmps113
  go_wp2_with fail
  refine (l5Expr_any base S m i _ hn ha hi ((HH.out.alloc _).alloc _) hw).mono ?_
  rintro e w1 ⟨rfl, hb⟩
  have HB : Hid (Below w.heap.size w w1) := (below2 w _ _).trans (hb.mono (by rw [alloc_size, alloc_size]; omega))
  have HX1 := hidI ((hb.block _ (by rw [alloc_size, alloc_size]; omega)).trans HX.out.2)
  obtain ⟨c0, c1, c2, cf⟩ := three_of HX1.out
  clear hb
  obtain ⟨t, ht⟩ : ∃ t, prX m.ex i = t := ⟨_, rfl⟩
  rw [ht] at hsz ⊢
  have HT := hidI ht
  clear ht
  go_wp2
  go_ret
  exact ⟨ret_str (by rw [HV.out, HT.out]), HB.out⟩
set_option maxRecDepth 100000 in
set_option maxHeartbeats 3200000 in
theorem l5Stmt_4 (base : Nat) (S : Sv) (m : Md) (k : Int) (n : ByteArray) (i : Nat) (w : World) (h : OwnMd w base S m) (hi : i < m.ex.length) (hn : Nums m.ex) (ha : Ahead m.ex) (hw : wt m.ex i ≤ 1099511627776) (_ : n.size ≤ 4294967296) (k1 : (k == 1) = false) (k2 : (k == 2) = false) (k3 : (k == 3) = false) (k4 : (k == 4) = true) :
    Calls Try.prog 113 #[modD S m, .agg #[.int .i64 k, .string n, .int .i64 (i : Int)]] w fun e w' => e = .returned (.string (stmtT k n (prX m.ex i))) ∧ Below w.heap.size w w' := by
  have HH := hidI h
  have HV : Hid (stmtT k n (prX m.ex i) = ({ data := #[112, 114, 105, 110, 116, 40] } : ByteArray) ++ prX m.ex i ++ ({ data := #[41, 59, 10] } : ByteArray)) := by show _ = _; rw [stmtT, k1, k2, k3, k4]; rfl
  have hsz := hw
  unfold wt at hsz
  have HX := hidI (And.intro (alloc_keep (o' := .cells #[.int .i64 k, .string n, .int .i64 (i : Int)] 159) (heap_alloc_new w (.cells #[.slice S.rq.a m.rq.length S.rq.cap, .slice S.im.a m.im.length S.im.cap, .slice S.ep.a m.ep.length S.ep.cap, .slice S.st.a m.st.length S.st.cap, .slice S.ex.a m.ex.length S.ex.cap] 37))) (new2 w (.cells #[.slice S.rq.a m.rq.length S.rq.cap, .slice S.im.a m.im.length S.im.cap, .slice S.ep.a m.ep.length S.ep.cap, .slice S.st.a m.st.length S.st.cap, .slice S.ex.a m.ex.length S.ex.cap] 37) (.cells #[.int .i64 k, .string n, .int .i64 (i : Int)] 159)))
  clear h
  unfold modD
  go_enter Try.func113, Try.ntmps113
  go_wp2_with fail
  refine (l5Expr_any base S m i _ hn ha hi ((HH.out.alloc _).alloc _) hw).mono ?_
  rintro e w1 ⟨rfl, hb⟩
  have HB : Hid (Below w.heap.size w w1) := (below2 w _ _).trans (hb.mono (by rw [alloc_size, alloc_size]; omega))
  have HX1 := hidI ((hb.block _ (by rw [alloc_size, alloc_size]; omega)).trans HX.out.2)
  obtain ⟨c0, c1, c2, cf⟩ := three_of HX1.out
  clear hb
  obtain ⟨t, ht⟩ : ∃ t, prX m.ex i = t := ⟨_, rfl⟩
  rw [ht] at hsz ⊢
  have HT := hidI ht
  clear ht
  go_wp2
  go_ret
  exact ⟨ret_str (by rw [HV.out, HT.out]), HB.out⟩
set_option maxRecDepth 100000 in
set_option maxHeartbeats 3200000 in
theorem l5Stmt_5 (base : Nat) (S : Sv) (m : Md) (k : Int) (n : ByteArray) (i : Nat) (w : World) (h : OwnMd w base S m) (hi : i < m.ex.length) (hn : Nums m.ex) (ha : Ahead m.ex) (hw : wt m.ex i ≤ 1099511627776) (_ : n.size ≤ 4294967296) (k1 : (k == 1) = false) (k2 : (k == 2) = false) (k3 : (k == 3) = false) (k4 : (k == 4) = false) (k5 : (k == 5) = true) :
    Calls Try.prog 113 #[modD S m, .agg #[.int .i64 k, .string n, .int .i64 (i : Int)]] w fun e w' => e = .returned (.string (stmtT k n (prX m.ex i))) ∧ Below w.heap.size w w' := by
  have HH := hidI h
  have HV : Hid (stmtT k n (prX m.ex i) = ({ data := #[116, 104, 114, 111, 119, 32] } : ByteArray) ++ prX m.ex i ++ ({ data := #[59, 10] } : ByteArray)) := by show _ = _; rw [stmtT, k1, k2, k3, k4, k5]; rfl
  have hsz := hw
  unfold wt at hsz
  have HX := hidI (And.intro (alloc_keep (o' := .cells #[.int .i64 k, .string n, .int .i64 (i : Int)] 159) (heap_alloc_new w (.cells #[.slice S.rq.a m.rq.length S.rq.cap, .slice S.im.a m.im.length S.im.cap, .slice S.ep.a m.ep.length S.ep.cap, .slice S.st.a m.st.length S.st.cap, .slice S.ex.a m.ex.length S.ex.cap] 37))) (new2 w (.cells #[.slice S.rq.a m.rq.length S.rq.cap, .slice S.im.a m.im.length S.im.cap, .slice S.ep.a m.ep.length S.ep.cap, .slice S.st.a m.st.length S.st.cap, .slice S.ex.a m.ex.length S.ex.cap] 37) (.cells #[.int .i64 k, .string n, .int .i64 (i : Int)] 159)))
  clear h
  unfold modD
  go_enter Try.func113, Try.ntmps113
  go_wp2_with fail
  refine (l5Expr_any base S m i _ hn ha hi ((HH.out.alloc _).alloc _) hw).mono ?_
  rintro e w1 ⟨rfl, hb⟩
  have HB : Hid (Below w.heap.size w w1) := (below2 w _ _).trans (hb.mono (by rw [alloc_size, alloc_size]; omega))
  have HX1 := hidI ((hb.block _ (by rw [alloc_size, alloc_size]; omega)).trans HX.out.2)
  obtain ⟨c0, c1, c2, cf⟩ := three_of HX1.out
  clear hb
  obtain ⟨t, ht⟩ : ∃ t, prX m.ex i = t := ⟨_, rfl⟩
  rw [ht] at hsz ⊢
  have HT := hidI ht
  clear ht
  go_wp2
  go_ret
  exact ⟨ret_str (by rw [HV.out, HT.out]), HB.out⟩
set_option maxRecDepth 100000 in
set_option maxHeartbeats 3200000 in
theorem l5Stmt_6 (base : Nat) (S : Sv) (m : Md) (k : Int) (n : ByteArray) (i : Nat) (w : World) (h : OwnMd w base S m) (hi : i < m.ex.length) (hn : Nums m.ex) (ha : Ahead m.ex) (hw : wt m.ex i ≤ 1099511627776) (_ : n.size ≤ 4294967296) (k1 : (k == 1) = false) (k2 : (k == 2) = false) (k3 : (k == 3) = false) (k4 : (k == 4) = false) (k5 : (k == 5) = false) :
    Calls Try.prog 113 #[modD S m, .agg #[.int .i64 k, .string n, .int .i64 (i : Int)]] w fun e w' => e = .returned (.string (stmtT k n (prX m.ex i))) ∧ Below w.heap.size w w' := by
  have HH := hidI h
  have HV : Hid (stmtT k n (prX m.ex i) = ({ data := #[102, 97, 105, 108, 32] } : ByteArray) ++ prX m.ex i ++ ({ data := #[59, 10] } : ByteArray)) := by show _ = _; rw [stmtT, k1, k2, k3, k4, k5]; rfl
  have hsz := hw
  unfold wt at hsz
  have HX := hidI (And.intro (alloc_keep (o' := .cells #[.int .i64 k, .string n, .int .i64 (i : Int)] 159) (heap_alloc_new w (.cells #[.slice S.rq.a m.rq.length S.rq.cap, .slice S.im.a m.im.length S.im.cap, .slice S.ep.a m.ep.length S.ep.cap, .slice S.st.a m.st.length S.st.cap, .slice S.ex.a m.ex.length S.ex.cap] 37))) (new2 w (.cells #[.slice S.rq.a m.rq.length S.rq.cap, .slice S.im.a m.im.length S.im.cap, .slice S.ep.a m.ep.length S.ep.cap, .slice S.st.a m.st.length S.st.cap, .slice S.ex.a m.ex.length S.ex.cap] 37) (.cells #[.int .i64 k, .string n, .int .i64 (i : Int)] 159)))
  clear h
  unfold modD
  go_enter Try.func113, Try.ntmps113
  go_wp2_with fail
  refine (l5Expr_any base S m i _ hn ha hi ((HH.out.alloc _).alloc _) hw).mono ?_
  rintro e w1 ⟨rfl, hb⟩
  have HB : Hid (Below w.heap.size w w1) := (below2 w _ _).trans (hb.mono (by rw [alloc_size, alloc_size]; omega))
  have HX1 := hidI ((hb.block _ (by rw [alloc_size, alloc_size]; omega)).trans HX.out.2)
  obtain ⟨c0, c1, c2, cf⟩ := three_of HX1.out
  clear hb
  obtain ⟨t, ht⟩ : ∃ t, prX m.ex i = t := ⟨_, rfl⟩
  rw [ht] at hsz ⊢
  have HT := hidI ht
  clear ht
  go_wp2
  go_ret
  exact ⟨ret_str (by rw [HV.out, HT.out]), HB.out⟩
theorem l5Stmt_any (base : Nat) (S : Sv) (m : Md) (k : Int) (n : ByteArray) (i : Nat) (w : World) (h : OwnMd w base S m) (hi : i < m.ex.length) (hn : Nums m.ex) (ha : Ahead m.ex) (hw : wt m.ex i ≤ 1099511627776) (hs : n.size ≤ 4294967296) :
    Calls Try.prog 113 #[modD S m, .agg #[.int .i64 k, .string n, .int .i64 (i : Int)]] w fun e w' => e = .returned (.string (stmtT k n (prX m.ex i))) ∧ Below w.heap.size w w' := by
  cases k1 : (k == 1) with
  | true =>
    cases en : (n.toList == [42, 100, 101, 102, 97, 117, 108, 116]) with
    | true => exact l5Stmt_0 base S m k n i w h hi hn ha hw hs k1 en
    | false => exact l5Stmt_1 base S m k n i w h hi hn ha hw hs k1 en
  | false =>
    cases k2 : (k == 2) with
    | true => exact l5Stmt_2 base S m k n i w h hi hn ha hw hs k1 k2
    | false =>
      cases k3 : (k == 3) with
      | true => exact l5Stmt_3 base S m k n i w h hi hn ha hw hs k1 k2 k3
      | false =>
        cases k4 : (k == 4) with
        | true => exact l5Stmt_4 base S m k n i w h hi hn ha hw hs k1 k2 k3 k4
        | false =>
          cases k5 : (k == 5) with
          | true => exact l5Stmt_5 base S m k n i w h hi hn ha hw hs k1 k2 k3 k4 k5
          | false => exact l5Stmt_6 base S m k n i w h hi hn ha hw hs k1 k2 k3 k4 k5
end Go.Proofs.Ytdbpknmoacjodaa
namespace Go.Proofs.Ytdbpknmoacjodaa
open Go.RowKit Go.PlainAid Go.Sort

theorem usesE_app (a b : List Ex) (k : Int) : usesE (a ++ b) k = usesE a k + usesE b k := by simp [usesE]
theorem usesS_app (a b : List Sm) (k : Int) : usesS (a ++ b) k = usesS a k + usesS b k := by simp [usesS]
theorem usesE_take {ex : List Ex} {i : Nat} (hi : i < ex.length) (k : Int) : usesE (ex.take (i + 1)) k = usesE (ex.take i) k + u1 ex[i] k := by
  rw [List.take_succ_eq_append_getElem hi, usesE_app]
  simp [usesE, u1]
theorem usesS_take {st : List Sm} {i : Nat} (hi : i < st.length) (k : Int) : usesS (st.take (i + 1)) k = usesS (st.take i) k + if st[i].expr == k then 1 else 0 := by
  rw [List.take_succ_eq_append_getElem hi, usesS_app]
  simp [usesS]
theorem usesE_le (ex : List Ex) (k : Int) : usesE ex k ≤ 2 * ex.length := by
  induction ex with
  | nil => simp [usesE]
  | cons x l ih =>
    rw [show x :: l = [x] ++ l from rfl, usesE_app]
    have : usesE [x] k ≤ 2 := by
      simp only [usesE, List.map_cons, List.map_nil, List.sum_cons, List.sum_nil]
      split
      · split <;> split <;> omega
      · omega
    simp only [List.length_append, List.length_cons, List.length_nil]
    omega
theorem usesS_le (st : List Sm) (k : Int) : usesS st k ≤ st.length := by
  induction st with
  | nil => simp [usesS]
  | cons x l ih =>
    rw [show x :: l = [x] ++ l from rfl, usesS_app]
    have : usesS [x] k ≤ 1 := by
      simp only [usesS, List.map_cons, List.map_nil, List.sum_cons, List.sum_nil]
      split <;> omega
    simp only [List.length_append, List.length_cons, List.length_nil]
    omega
def rowN (n : Nat) (f : Nat → Nat) : List Value := (List.range n).map fun k => .int .i64 (f k : Int)
theorem rowN_len (n : Nat) (f : Nat → Nat) : (rowN n f).length = n := by simp [rowN]
theorem rowN_at {n : Nat} (f : Nat → Nat) {k : Nat} (hk : k < n) : (rowN n f)[k]? = some (.int .i64 (f k : Int)) := by
  unfold rowN
  rw [List.getElem?_map, List.getElem?_range hk]
  rfl
theorem rowN_set {n l : Nat} (f g : Nat → Nat) (v : Nat) (hv : g l = v) (h : ∀ k, k ≠ l → g k = f k) : (rowN n f).set l (.int .i64 (v : Int)) = rowN n g := by
  apply List.ext_getElem?
  intro k
  by_cases hk : k < n
  · by_cases e : k = l
    · subst e
      rw [List.getElem?_set_self (by rw [rowN_len]; exact hk), rowN_at g hk, hv]
    · rw [List.getElem?_set_ne (fun x => e x.symm), rowN_at f hk, rowN_at g hk, h k e]
  · rw [List.getElem?_eq_none (by rw [List.length_set, rowN_len]; omega), List.getElem?_eq_none (by rw [rowN_len]; omega)]
theorem rowN_congr {n : Nat} {f g : Nat → Nat} (h : ∀ k, k < n → f k = g k) : rowN n f = rowN n g := by
  unfold rowN
  refine List.map_congr_left fun k hk => ?_
  rw [h k (List.mem_range.1 hk)]
def plus (f : Nat → Nat) (l : Nat) : Nat → Nat := fun k => f k + if k = l then 1 else 0
theorem plus_at (f : Nat → Nat) (l : Nat) : plus f l l = f l + 1 := by simp [plus]
theorem plus_ne (f : Nat → Nat) {l k : Nat} (h : k ≠ l) : plus f l k = f k := by simp [plus, h]
theorem two_uses {ex : List Ex} {i : Nat} (hi : i < ex.length) (ht : twoK ex[i].kind = true) (h0 : 0 ≤ ex[i].l) (h1 : 0 ≤ ex[i].r) (k : Nat) : plus (plus (fun k => usesE (ex.take i) (k : Int)) ex[i].l.toNat) ex[i].r.toNat k = usesE (ex.take (i + 1)) (k : Int) := by
  rw [usesE_take hi, u1, if_pos ht]
  unfold plus
  have e1 : (ex[i].l == (k : Int)) = decide (k = ex[i].l.toNat) := by
    rw [Bool.eq_iff_iff, beq_iff_eq, decide_eq_true_iff]; omega
  have e2 : (ex[i].r == (k : Int)) = decide (k = ex[i].r.toNat) := by
    rw [Bool.eq_iff_iff, beq_iff_eq, decide_eq_true_iff]; omega
  rw [e1, e2]
  simp only [decide_eq_true_eq]
  omega
theorem not_uses {ex : List Ex} {i : Nat} (hi : i < ex.length) (ht : twoK ex[i].kind = false) (k : Nat) : usesE (ex.take i) (k : Int) = usesE (ex.take (i + 1)) (k : Int) := by
  rw [usesE_take hi, u1, if_neg (by rw [ht]; decide), Nat.add_zero]
theorem stm_uses {st : List Sm} {ex : List Ex} {i : Nat} (hi : i < st.length) (h0 : 0 ≤ st[i].expr) (k : Nat) : plus (fun k => usesE ex (k : Int) + usesS (st.take i) (k : Int)) st[i].expr.toNat k = usesE ex (k : Int) + usesS (st.take (i + 1)) (k : Int) := by
  rw [usesS_take hi]
  unfold plus
  have e1 : (st[i].expr == (k : Int)) = decide (k = st[i].expr.toNat) := by
    rw [Bool.eq_iff_iff, beq_iff_eq, decide_eq_true_iff]; omega
  rw [e1]
  simp only [decide_eq_true_eq]
  omega
def AheadTo (ex : List Ex) (n : Nat) : Prop := ∀ (i : Nat) (x : Ex), i < n → ex[i]? = some x → twoK x.kind = true → 0 ≤ x.l ∧ x.l < (i : Int) ∧ 0 ≤ x.r ∧ x.r < (i : Int)
theorem AheadTo.all {ex : List Ex} (h : AheadTo ex ex.length) : Ahead ex := fun i x hx => h i x (List.getElem?_eq_some_iff.1 hx).1 hx
theorem AheadTo.next {ex : List Ex} {i : Nat} (h : AheadTo ex i) (hi : i < ex.length) (hx : twoK ex[i].kind = true → 0 ≤ ex[i].l ∧ ex[i].l < (i : Int) ∧ 0 ≤ ex[i].r ∧ ex[i].r < (i : Int)) : AheadTo ex (i + 1) := by
  intro j x hj he ht
  by_cases e : j = i
  · subst e
    obtain ⟨_, rfl⟩ := List.getElem?_eq_some_iff.1 he
    exact hx ht
  · exact h j x (by omega) he ht
theorem AheadTo.not {ex : List Ex} {i : Nat} (hi : i < ex.length) (ht : twoK ex[i].kind = true) (hx : ¬ (0 ≤ ex[i].l ∧ ex[i].l < (i : Int) ∧ 0 ≤ ex[i].r ∧ ex[i].r < (i : Int))) : ¬ Ahead ex := fun h => hx (h i _ (List.getElem?_eq_getElem hi) ht)
end Go.Proofs.Ytdbpknmoacjodaa
