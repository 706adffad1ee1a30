/-
  What l5Two, l5Sum, l5Side and l5Expr of the specification answer: the walks.
  What importedName and importList of impl's parser answer: the walks.
-/
import Derived.Test.YtdbpknmoacjodaaCsUseLawToDecBoth
namespace Go.Proofs.Ytdbpknmoacjodaa
open Go.RowKit Go.PlainAid Go.Sort

set_option maxRecDepth 100000 in
set_option maxHeartbeats 12800000 in
theorem l5Two_any (k : Int) (w : World) : Calls Try.prog 119 #[.int .i64 k] w fun e w' => e = .returned (.bool (twoK k)) ∧ w' = w := by
  cases h6 : (k == 6) with
  | true =>
    have HV : Hid (twoK k = true) := by show _ = _; rw [twoK, h6]; rfl
    go_enter Try.func119, Try.ntmps119
    go_wp2
    go_ret
    exact ⟨ret_bool HV.out.symm, rfl⟩
  | false =>
    cases h7 : (k == 7) with
    | true =>
      have HV : Hid (twoK k = true) := by show _ = _; rw [twoK, h6, h7]; rfl
      go_enter Try.func119, Try.ntmps119
      go_wp2
      go_ret
      exact ⟨ret_bool HV.out.symm, rfl⟩
    | false =>
      have HV : Hid (twoK k = (k == 8)) := by show _ = _; rw [twoK, h6, h7]; simp
      go_enter Try.func119, Try.ntmps119
      go_wp2
      go_ret
      exact ⟨ret_bool HV.out.symm, rfl⟩
set_option maxRecDepth 100000 in
set_option maxHeartbeats 12800000 in
theorem l5Sum_any (base : Nat) (S : Sv) (m : Md) (i : Nat) (w : World) (h : OwnMd w base S m) (hi : i < m.ex.length) :
    Calls Try.prog 206 #[modD S m, .int .i64 i] w fun e w' => e = .returned (.bool (sumK (m.ex.getD i exNo).kind)) ∧ Below w.heap.size w w' := by
  obtain ⟨g, hg, hlt, c0, -, -, -, -, -⟩ := h.expr hi
  have hii : (i : Int) < (m.ex.length : Int) := by omega
  unfold modD
  rw [hg]
  generalize (m.ex.getD i exNo).kind = k at c0 ⊢
  clear h hg
  cases h6 : (k == 6) with
  | true =>
    have HV : Hid (sumK k = true) := by show _ = _; rw [sumK, h6]; rfl
    go_enter Try.func206, Try.ntmps206
    go_wp2
    go_ret
    exact ⟨ret_bool HV.out.symm, (Below.refl _ _).alloc (Nat.le_refl _) _⟩
  | false =>
    have HV : Hid (sumK k = (k == 7)) := by show _ = _; rw [sumK, h6]; simp
    go_enter Try.func206, Try.ntmps206
    go_wp2
    go_ret
    exact ⟨ret_bool HV.out.symm, (Below.refl _ _).alloc (Nat.le_refl _) _⟩
def ExprOK (base : Nat) (S : Sv) (m : Md) (n : Nat) : Prop := ∀ (i : Nat) (w : World), i < n → i < m.ex.length → OwnMd w base S m → wt m.ex i ≤ 1099511627776 →
  Calls Try.prog 177 #[modD S m, .int .i64 i] w fun e w' => e = .returned (.string (prX m.ex i)) ∧ Below w.heap.size w w'
set_option maxRecDepth 100000 in
set_option maxHeartbeats 12800000 in
theorem l5Side_of (base : Nat) (S : Sv) (m : Md) (n i : Nat) (b : Bool) (w : World) (he : ExprOK base S m n) (hn : i < n) (hi : i < m.ex.length) (h : OwnMd w base S m) (hw : wt m.ex i ≤ 1099511627776) :
    Calls Try.prog 205 #[modD S m, .int .i64 i, .bool b] w fun e w' => e = .returned (.string (sideT b (prX m.ex i))) ∧ Below w.heap.size w w' := by
  have HE := hidI he
  have HH := hidI h
  have HW := hidI hw
  unfold wt at hw
  clear he h
  unfold modD
  cases b with
  | true =>
    have HV : Hid (sideT true (prX m.ex i) = cOpen ++ prX m.ex i ++ cShut) := rfl
    go_enter Try.func205, Try.ntmps205
    go_wp2_with fail
    refine (HE.out i _ hn hi (HH.out.alloc _) HW.out).mono ?_
    rintro e w1 ⟨rfl, hb⟩
    have HB : Hid (Below w.heap.size w w1) := ((Below.refl _ _).alloc (Nat.le_refl _) _).trans (hb.mono (by rw [alloc_size]; omega))
    clear hb
    generalize ht : prX m.ex i = t at hw HV ⊢
    have HT := hidI ht
    clear ht
    go_wp2
    go_ret
    exact ⟨ret_str (by rw [HT.out]; exact HV.out.symm), HB.out⟩
  | false =>
    have HV : Hid (sideT false (prX m.ex i) = prX m.ex i) := rfl
    go_enter Try.func205, Try.ntmps205
    go_wp2_with fail
    refine (HE.out i _ hn hi (HH.out.alloc _) HW.out).mono ?_
    rintro e w1 ⟨rfl, hb⟩
    have HB : Hid (Below w.heap.size w w1) := ((Below.refl _ _).alloc (Nat.le_refl _) _).trans (hb.mono (by rw [alloc_size]; omega))
    clear hb
    go_wp2
    go_ret
    exact ⟨ret_str HV.out.symm, HB.out⟩
set_option maxRecDepth 100000 in
set_option maxHeartbeats 12800000 in
theorem l5Expr_1 (g : Nat) (S : Sv) (m : Md) (i : Nat) (k nu l r : Int) (nm fi : ByteArray) (w : World) (hex : S.ex.a = some ⟨g, 0, none⟩) (hi : i < m.ex.length) (hlt : g < w.heap.size) (c0 : w.cell? ⟨g, i * 6, none⟩ = some (.int .i64 k)) (c1 : w.cell? ⟨g, i * 6 + 1, none⟩ = some (.int .i64 nu)) (c2 : w.cell? ⟨g, i * 6 + 2, none⟩ = some (.string nm)) (c3 : w.cell? ⟨g, i * 6 + 3, none⟩ = some (.string fi)) (c4 : w.cell? ⟨g, i * 6 + 4, none⟩ = some (.int .i64 l)) (c5 : w.cell? ⟨g, i * 6 + 5, none⟩ = some (.int .i64 r)) (k1 : (k == 1) = true) (hnu : -9223372036854775808 ≤ nu ∧ nu ≤ 9223372036854775807) :
    Calls Try.prog 177 #[modD S m, .int .i64 i] w fun e w' => e = .returned (.string (strOfNums (decL nu))) ∧ Below w.heap.size w w' := by
  have hii : (i : Int) < (m.ex.length : Int) := by omega
  unfold modD
  rw [hex]
  clear hex
  go_enter Try.func177, Try.ntmps177
  go_wp2_with fail
  refine (dec_spec nu _ hnu).mono ?_
  rintro e w1 ⟨rfl, hb⟩
  have HB : Hid (Below w.heap.size w w1) := (below2 w _ _).trans (hb.mono (by rw [alloc_size, alloc_size]; omega))
  clear hb
  go_wp2
  go_ret
  exact ⟨rfl, HB.out⟩
set_option maxRecDepth 100000 in
set_option maxHeartbeats 12800000 in
theorem l5Expr_2 (g : Nat) (S : Sv) (m : Md) (i : Nat) (k nu l r : Int) (nm fi : ByteArray) (w : World) (hex : S.ex.a = some ⟨g, 0, none⟩) (hi : i < m.ex.length) (hlt : g < w.heap.size) (c0 : w.cell? ⟨g, i * 6, none⟩ = some (.int .i64 k)) (c1 : w.cell? ⟨g, i * 6 + 1, none⟩ = some (.int .i64 nu)) (c2 : w.cell? ⟨g, i * 6 + 2, none⟩ = some (.string nm)) (c3 : w.cell? ⟨g, i * 6 + 3, none⟩ = some (.string fi)) (c4 : w.cell? ⟨g, i * 6 + 4, none⟩ = some (.int .i64 l)) (c5 : w.cell? ⟨g, i * 6 + 5, none⟩ = some (.int .i64 r)) (k1 : (k == 1) = false) (k2 : (k == 2) = true) :
    Calls Try.prog 177 #[modD S m, .int .i64 i] w fun e w' => e = .returned (.string (nm)) ∧ Below w.heap.size w w' := by
  have hii : (i : Int) < (m.ex.length : Int) := by omega
  unfold modD
  rw [hex]
  clear hex
  go_enter Try.func177, Try.ntmps177
  go_wp2
  go_ret
  exact ⟨rfl, ((Below.refl _ _).alloc (Nat.le_refl _) _).alloc (by show _ ≤ (w.heap.push _).size; simp) _⟩
set_option maxRecDepth 100000 in
set_option maxHeartbeats 12800000 in
theorem l5Expr_3 (g : Nat) (S : Sv) (m : Md) (i : Nat) (k nu l r : Int) (nm fi : ByteArray) (w : World) (hex : S.ex.a = some ⟨g, 0, none⟩) (hi : i < m.ex.length) (hlt : g < w.heap.size) (c0 : w.cell? ⟨g, i * 6, none⟩ = some (.int .i64 k)) (c1 : w.cell? ⟨g, i * 6 + 1, none⟩ = some (.int .i64 nu)) (c2 : w.cell? ⟨g, i * 6 + 2, none⟩ = some (.string nm)) (c3 : w.cell? ⟨g, i * 6 + 3, none⟩ = some (.string fi)) (c4 : w.cell? ⟨g, i * 6 + 4, none⟩ = some (.int .i64 l)) (c5 : w.cell? ⟨g, i * 6 + 5, none⟩ = some (.int .i64 r)) (k1 : (k == 1) = false) (k2 : (k == 2) = false) (k3 : (k == 3) = true) (hsz : (nm ++ cParens).size ≤ 1099511627776) :
    Calls Try.prog 177 #[modD S m, .int .i64 i] w fun e w' => e = .returned (.string (nm ++ cParens)) ∧ Below w.heap.size w w' := by
  have hii : (i : Int) < (m.ex.length : Int) := by omega
  unfold modD
  rw [hex]
  clear hex
  simp only [ByteArray.size_append] at hsz
  have hp2 : cParens.size = 2 := rfl
  have hn2 : nm.size ≤ 1099511627776 := by omega
  clear hsz hp2
  go_enter Try.func177, Try.ntmps177
  go_wp2
  go_ret
  exact ⟨rfl, ((Below.refl _ _).alloc (Nat.le_refl _) _).alloc (by show _ ≤ (w.heap.push _).size; simp) _⟩
set_option maxRecDepth 100000 in
set_option maxHeartbeats 12800000 in
theorem l5Expr_4 (g : Nat) (S : Sv) (m : Md) (i : Nat) (k nu l r : Int) (nm fi : ByteArray) (w : World) (hex : S.ex.a = some ⟨g, 0, none⟩) (hi : i < m.ex.length) (hlt : g < w.heap.size) (c0 : w.cell? ⟨g, i * 6, none⟩ = some (.int .i64 k)) (c1 : w.cell? ⟨g, i * 6 + 1, none⟩ = some (.int .i64 nu)) (c2 : w.cell? ⟨g, i * 6 + 2, none⟩ = some (.string nm)) (c3 : w.cell? ⟨g, i * 6 + 3, none⟩ = some (.string fi)) (c4 : w.cell? ⟨g, i * 6 + 4, none⟩ = some (.int .i64 l)) (c5 : w.cell? ⟨g, i * 6 + 5, none⟩ = some (.int .i64 r)) (k1 : (k == 1) = false) (k2 : (k == 2) = false) (k3 : (k == 3) = false) (k4 : (k == 4) = true) (hsz : (nm ++ cPoint ++ fi).size ≤ 1099511627776) :
    Calls Try.prog 177 #[modD S m, .int .i64 i] w fun e w' => e = .returned (.string (nm ++ cPoint ++ fi)) ∧ Below w.heap.size w w' := by
  have hii : (i : Int) < (m.ex.length : Int) := by omega
  unfold modD
  rw [hex]
  clear hex
  simp only [ByteArray.size_append] at hsz
  have hp1 : cPoint.size = 1 := rfl
  have hn2 : nm.size ≤ 1099511627776 := by omega
  have hf2 : fi.size ≤ 1099511627776 := by omega
  clear hsz hp1
  go_enter Try.func177, Try.ntmps177
  go_wp2
  go_ret
  exact ⟨rfl, ((Below.refl _ _).alloc (Nat.le_refl _) _).alloc (by show _ ≤ (w.heap.push _).size; simp) _⟩
set_option maxRecDepth 100000 in
set_option maxHeartbeats 12800000 in
theorem l5Expr_5 (g : Nat) (S : Sv) (m : Md) (i : Nat) (k nu l r : Int) (nm fi : ByteArray) (w : World) (hex : S.ex.a = some ⟨g, 0, none⟩) (hi : i < m.ex.length) (hlt : g < w.heap.size) (c0 : w.cell? ⟨g, i * 6, none⟩ = some (.int .i64 k)) (c1 : w.cell? ⟨g, i * 6 + 1, none⟩ = some (.int .i64 nu)) (c2 : w.cell? ⟨g, i * 6 + 2, none⟩ = some (.string nm)) (c3 : w.cell? ⟨g, i * 6 + 3, none⟩ = some (.string fi)) (c4 : w.cell? ⟨g, i * 6 + 4, none⟩ = some (.int .i64 l)) (c5 : w.cell? ⟨g, i * 6 + 5, none⟩ = some (.int .i64 r)) (k1 : (k == 1) = false) (k2 : (k == 2) = false) (k3 : (k == 3) = false) (k4 : (k == 4) = false) (k5 : (k == 5) = true) (hsz : (nm ++ cPoint ++ fi ++ cParens).size ≤ 1099511627776) :
    Calls Try.prog 177 #[modD S m, .int .i64 i] w fun e w' => e = .returned (.string (nm ++ cPoint ++ fi ++ cParens)) ∧ Below w.heap.size w w' := by
  have hii : (i : Int) < (m.ex.length : Int) := by omega
  unfold modD
  rw [hex]
  clear hex
  simp only [ByteArray.size_append] at hsz
  have hp2 : cParens.size = 2 := rfl
  have hp1 : cPoint.size = 1 := rfl
  have hn2 : nm.size ≤ 1099511627776 := by omega
  have hf2 : fi.size ≤ 1099511627776 := by omega
  clear hsz hp2 hp1
  go_enter Try.func177, Try.ntmps177
  go_wp2
  go_ret
  exact ⟨rfl, ((Below.refl _ _).alloc (Nat.le_refl _) _).alloc (by show _ ≤ (w.heap.push _).size; simp) _⟩
set_option maxRecDepth 100000 in
set_option maxHeartbeats 12800000 in
theorem l5Expr_9 (g : Nat) (S : Sv) (m : Md) (i : Nat) (k nu l r : Int) (nm fi : ByteArray) (w : World) (hex : S.ex.a = some ⟨g, 0, none⟩) (hi : i < m.ex.length) (hlt : g < w.heap.size) (c0 : w.cell? ⟨g, i * 6, none⟩ = some (.int .i64 k)) (c1 : w.cell? ⟨g, i * 6 + 1, none⟩ = some (.int .i64 nu)) (c2 : w.cell? ⟨g, i * 6 + 2, none⟩ = some (.string nm)) (c3 : w.cell? ⟨g, i * 6 + 3, none⟩ = some (.string fi)) (c4 : w.cell? ⟨g, i * 6 + 4, none⟩ = some (.int .i64 l)) (c5 : w.cell? ⟨g, i * 6 + 5, none⟩ = some (.int .i64 r)) (k1 : (k == 1) = false) (k2 : (k == 2) = false) (k3 : (k == 3) = false) (k4 : (k == 4) = false) (k5 : (k == 5) = false) (k6 : (k == 6) = false) (k7 : (k == 7) = false) (k8 : (k == 8) = false) :
    Calls Try.prog 177 #[modD S m, .int .i64 i] w fun e w' => e = .returned (.string (sNone)) ∧ Below w.heap.size w w' := by
  have hii : (i : Int) < (m.ex.length : Int) := by omega
  unfold modD
  rw [hex]
  clear hex
  go_enter Try.func177, Try.ntmps177
  go_wp2
  go_ret
  exact ⟨rfl, ((Below.refl _ _).alloc (Nat.le_refl _) _).alloc (by show _ ≤ (w.heap.push _).size; simp) _⟩
set_option maxRecDepth 100000 in
set_option maxHeartbeats 12800000 in
theorem l5Expr_6 (base g : Nat) (S : Sv) (m : Md) (i ln rn : Nat) (k nu : Int) (nm fi : ByteArray) (w : World) (hex : S.ex.a = some ⟨g, 0, none⟩) (h : OwnMd w base S m) (hi : i < m.ex.length) (hlt : g < w.heap.size) (c0 : w.cell? ⟨g, i * 6, none⟩ = some (.int .i64 k)) (c1 : w.cell? ⟨g, i * 6 + 1, none⟩ = some (.int .i64 nu)) (c2 : w.cell? ⟨g, i * 6 + 2, none⟩ = some (.string nm)) (c3 : w.cell? ⟨g, i * 6 + 3, none⟩ = some (.string fi)) (c4 : w.cell? ⟨g, i * 6 + 4, none⟩ = some (.int .i64 (ln : Int))) (c5 : w.cell? ⟨g, i * 6 + 5, none⟩ = some (.int .i64 (rn : Int))) (k1 : (k == 1) = false) (k2 : (k == 2) = false) (k3 : (k == 3) = false) (k4 : (k == 4) = false) (k5 : (k == 5) = false) (k6 : (k == 6) = true) (hsz : (prX m.ex ln ++ tPlus ++ sideT (sumK (m.ex.getD rn exNo).kind) (prX m.ex rn)).size ≤ 1099511627776) (he : ExprOK base S m i) (hl : ln < i) (hr : rn < i) (hwl : wt m.ex ln ≤ 1099511627776) (hwr : wt m.ex rn ≤ 1099511627776) :
    Calls Try.prog 177 #[modD S m, .int .i64 i] w fun e w' => e = .returned (.string (prX m.ex ln ++ tPlus ++ sideT (sumK (m.ex.getD rn exNo).kind) (prX m.ex rn))) ∧ Below w.heap.size w w' := by
  have hii : (i : Int) < (m.ex.length : Int) := by omega
  have HA : Hid (OwnMd ((w.alloc (.cells #[.slice S.rq.a m.rq.length S.rq.cap, .slice S.im.a m.im.length S.im.cap, .slice S.ep.a m.ep.length S.ep.cap, .slice S.st.a m.st.length S.st.cap, .slice (some ⟨g, 0, none⟩) m.ex.length S.ex.cap] 37)).alloc (.cells #[.int .i64 k, .int .i64 nu, .string nm, .string fi, .int .i64 (ln : Int), .int .i64 (rn : Int)] 96)) base S m) := (h.alloc _).alloc _
  have HE := hidI he
  have HMV : Hid (modD S m = .agg #[.slice S.rq.a m.rq.length S.rq.cap, .slice S.im.a m.im.length S.im.cap, .slice S.ep.a m.ep.length S.ep.cap, .slice S.st.a m.st.length S.st.cap, .slice (some ⟨g, 0, none⟩) m.ex.length S.ex.cap]) := by show _ = _; rw [modD, hex]
  have hli : (ln : Int) < (m.ex.length : Int) := by omega
  have hri : (rn : Int) < (m.ex.length : Int) := by omega
  obtain ⟨g2, hg2, -, d0, -, -, -, -, -⟩ := h.expr (i := rn) (by omega)
  have eg : g2 = g := by have := hg2.symm.trans hex; simpa using this
  rw [eg] at d0
  obtain ⟨kr, hkr⟩ : ∃ kr, (m.ex.getD rn exNo).kind = kr := ⟨_, rfl⟩
  rw [hkr] at d0
  have HKR := hidI hkr
  obtain ⟨tl, htl⟩ : ∃ tl, prX m.ex ln = tl := ⟨_, rfl⟩
  obtain ⟨tr, htr⟩ : ∃ tr, sideT (sumK (m.ex.getD rn exNo).kind) (prX m.ex rn) = tr := ⟨_, rfl⟩
  rw [htl, htr] at hsz
  have HTL := hidI htl
  have HTR := hidI htr
  have cL : ∀ d os, Calls Try.prog 177 #[.agg #[.slice S.rq.a m.rq.length S.rq.cap, .slice S.im.a m.im.length S.im.cap, .slice S.ep.a m.ep.length S.ep.cap, .slice S.st.a m.st.length S.st.cap, .slice (some ⟨g, 0, none⟩) m.ex.length S.ex.cap], .int .i64 (ln : Int)] (grow (redrawn ((w.alloc (.cells #[.slice S.rq.a m.rq.length S.rq.cap, .slice S.im.a m.im.length S.im.cap, .slice S.ep.a m.ep.length S.ep.cap, .slice S.st.a m.st.length S.st.cap, .slice (some ⟨g, 0, none⟩) m.ex.length S.ex.cap] 37)).alloc (.cells #[.int .i64 k, .int .i64 nu, .string nm, .string fi, .int .i64 (ln : Int), .int .i64 (rn : Int)] 96)) d) os) fun e w'' => e = .returned (.string tl) ∧ ∃ p : Regrown, w'' = grow (redrawn ((w.alloc (.cells #[.slice S.rq.a m.rq.length S.rq.cap, .slice S.im.a m.im.length S.im.cap, .slice S.ep.a m.ep.length S.ep.cap, .slice S.st.a m.st.length S.st.cap, .slice (some ⟨g, 0, none⟩) m.ex.length S.ex.cap] 37)).alloc (.cells #[.int .i64 k, .int .i64 nu, .string nm, .string fi, .int .i64 (ln : Int), .int .i64 (rn : Int)] 96)) p.d) p.os := fun d os => Calls.regrown_of (by rw [← HMV.out, ← HTL.out]; exact HE.out ln _ (by omega) (by omega) (HA.out.later (below_regrown _ d os)) hwl)
  have cS : ∀ d os, Calls Try.prog 206 #[.agg #[.slice S.rq.a m.rq.length S.rq.cap, .slice S.im.a m.im.length S.im.cap, .slice S.ep.a m.ep.length S.ep.cap, .slice S.st.a m.st.length S.st.cap, .slice (some ⟨g, 0, none⟩) m.ex.length S.ex.cap], .int .i64 (rn : Int)] (grow (redrawn ((w.alloc (.cells #[.slice S.rq.a m.rq.length S.rq.cap, .slice S.im.a m.im.length S.im.cap, .slice S.ep.a m.ep.length S.ep.cap, .slice S.st.a m.st.length S.st.cap, .slice (some ⟨g, 0, none⟩) m.ex.length S.ex.cap] 37)).alloc (.cells #[.int .i64 k, .int .i64 nu, .string nm, .string fi, .int .i64 (ln : Int), .int .i64 (rn : Int)] 96)) d) os) fun e w'' => e = .returned (.bool (sumK kr)) ∧ ∃ p : Regrown, w'' = grow (redrawn ((w.alloc (.cells #[.slice S.rq.a m.rq.length S.rq.cap, .slice S.im.a m.im.length S.im.cap, .slice S.ep.a m.ep.length S.ep.cap, .slice S.st.a m.st.length S.st.cap, .slice (some ⟨g, 0, none⟩) m.ex.length S.ex.cap] 37)).alloc (.cells #[.int .i64 k, .int .i64 nu, .string nm, .string fi, .int .i64 (ln : Int), .int .i64 (rn : Int)] 96)) p.d) p.os := fun d os => Calls.regrown_of (by rw [← HMV.out, ← HKR.out]; exact l5Sum_any base S m rn _ (HA.out.later (below_regrown _ d os)) (by omega))
  have cR : ∀ d os, Calls Try.prog 205 #[.agg #[.slice S.rq.a m.rq.length S.rq.cap, .slice S.im.a m.im.length S.im.cap, .slice S.ep.a m.ep.length S.ep.cap, .slice S.st.a m.st.length S.st.cap, .slice (some ⟨g, 0, none⟩) m.ex.length S.ex.cap], .int .i64 (rn : Int), .bool (sumK kr)] (grow (redrawn ((w.alloc (.cells #[.slice S.rq.a m.rq.length S.rq.cap, .slice S.im.a m.im.length S.im.cap, .slice S.ep.a m.ep.length S.ep.cap, .slice S.st.a m.st.length S.st.cap, .slice (some ⟨g, 0, none⟩) m.ex.length S.ex.cap] 37)).alloc (.cells #[.int .i64 k, .int .i64 nu, .string nm, .string fi, .int .i64 (ln : Int), .int .i64 (rn : Int)] 96)) d) os) fun e w'' => e = .returned (.string tr) ∧ ∃ p : Regrown, w'' = grow (redrawn ((w.alloc (.cells #[.slice S.rq.a m.rq.length S.rq.cap, .slice S.im.a m.im.length S.im.cap, .slice S.ep.a m.ep.length S.ep.cap, .slice S.st.a m.st.length S.st.cap, .slice (some ⟨g, 0, none⟩) m.ex.length S.ex.cap] 37)).alloc (.cells #[.int .i64 k, .int .i64 nu, .string nm, .string fi, .int .i64 (ln : Int), .int .i64 (rn : Int)] 96)) p.d) p.os := fun d os => Calls.regrown_of (by rw [← HMV.out, ← HTR.out, HKR.out]; exact l5Side_of base S m i rn _ _ HE.out (by omega) (by omega) (HA.out.later (below_regrown _ d os)) hwr)
  have X : Hid (Six ((w.alloc (.cells #[.slice S.rq.a m.rq.length S.rq.cap, .slice S.im.a m.im.length S.im.cap, .slice S.ep.a m.ep.length S.ep.cap, .slice S.st.a m.st.length S.st.cap, .slice (some ⟨g, 0, none⟩) m.ex.length S.ex.cap] 37)).alloc (.cells #[.int .i64 k, .int .i64 nu, .string nm, .string fi, .int .i64 (ln : Int), .int .i64 (rn : Int)] 96)) (w.heap.size + 1) (.int .i64 k) (.int .i64 nu) (.string nm) (.string fi) (.int .i64 (ln : Int)) (.int .i64 (rn : Int))) := six_of (new2 w _ _)
  have Y := hidI (five_of (alloc_keep (o' := .cells #[.int .i64 k, .int .i64 nu, .string nm, .string fi, .int .i64 (ln : Int), .int .i64 (rn : Int)] 96) (heap_alloc_new w (.cells #[.slice S.rq.a m.rq.length S.rq.cap, .slice S.im.a m.im.length S.im.cap, .slice S.ep.a m.ep.length S.ep.cap, .slice S.st.a m.st.length S.st.cap, .slice (some ⟨g, 0, none⟩) m.ex.length S.ex.cap] 37))))
  have D0 : Hid (((w.alloc (.cells #[.slice S.rq.a m.rq.length S.rq.cap, .slice S.im.a m.im.length S.im.cap, .slice S.ep.a m.ep.length S.ep.cap, .slice S.st.a m.st.length S.st.cap, .slice (some ⟨g, 0, none⟩) m.ex.length S.ex.cap] 37)).alloc (.cells #[.int .i64 k, .int .i64 nu, .string nm, .string fi, .int .i64 (ln : Int), .int .i64 (rn : Int)] 96)).cell? ⟨g, rn * 6, none⟩ = some (.int .i64 kr)) := by show _ = _; rw [World.cell?_alloc_past _ _ _ (by rw [alloc_size]; omega), World.cell?_alloc_past _ _ _ hlt]; exact d0
  simp only [ByteArray.size_append] at hsz
  have hp3 : tPlus.size = 3 := rfl
  have hs1 : tl.size ≤ 1099511627776 := by omega
  have hs2 : tr.size ≤ 1099511627776 := by omega
  have HV : Hid ((prX m.ex ln ++ tPlus ++ sideT (sumK (m.ex.getD rn exNo).kind) (prX m.ex rn)) = tl ++ tPlus ++ tr) := by show _ = _; rw [HTL.out, HTR.out]
  unfold modD
  rw [hex]
  clear hex h HA HE HMV HTL HTR htl htr hkr HKR hg2 he hsz hp3 d0 eg
  go_enter Try.func177, Try.ntmps177
  go_wp2_with fail
  have x0 := cell_regrown X.out.c0
  have x4 := cell_regrown X.out.c4
  have x5 := cell_regrown X.out.c5
  have y0 := cell_regrown Y.out.1
  have y1 := cell_regrown Y.out.2.1
  have y2 := cell_regrown Y.out.2.2.1
  have y3 := cell_regrown Y.out.2.2.2.1
  have y4 := cell_regrown Y.out.2.2.2.2.1
  have e0 := cell_regrown D0.out
  refine wp_region_quiet_below (by kernel_rfl) (by kernel_rfl) ?_
  repeat (go_big_quiet_step (first | with_reducible exact cL _ _ | with_reducible exact cS _ _ | with_reducible exact cR _ _))
  refine wpQuiet_nil ?_
  intro w1 hw'
  obtain ⟨⟨dq, osq⟩, hw''⟩ := hw'
  have HB1 : Hid (Below w.heap.size w w1) := by show Below _ _ _; rw [hw'']; exact (below2 w _ _).trans ((below_regrown _ _ _).mono (by rw [alloc_size, alloc_size]; omega))
  clear hw''
  go_wp2
  go_ret
  exact ⟨ret_str HV.out.symm, HB1.out⟩
set_option maxRecDepth 100000 in
set_option maxHeartbeats 12800000 in
theorem l5Expr_7 (base g : Nat) (S : Sv) (m : Md) (i ln rn : Nat) (k nu : Int) (nm fi : ByteArray) (w : World) (hex : S.ex.a = some ⟨g, 0, none⟩) (h : OwnMd w base S m) (hi : i < m.ex.length) (hlt : g < w.heap.size) (c0 : w.cell? ⟨g, i * 6, none⟩ = some (.int .i64 k)) (c1 : w.cell? ⟨g, i * 6 + 1, none⟩ = some (.int .i64 nu)) (c2 : w.cell? ⟨g, i * 6 + 2, none⟩ = some (.string nm)) (c3 : w.cell? ⟨g, i * 6 + 3, none⟩ = some (.string fi)) (c4 : w.cell? ⟨g, i * 6 + 4, none⟩ = some (.int .i64 (ln : Int))) (c5 : w.cell? ⟨g, i * 6 + 5, none⟩ = some (.int .i64 (rn : Int))) (k1 : (k == 1) = false) (k2 : (k == 2) = false) (k3 : (k == 3) = false) (k4 : (k == 4) = false) (k5 : (k == 5) = false) (k6 : (k == 6) = false) (k7 : (k == 7) = true) (hsz : (prX m.ex ln ++ tMinus ++ sideT (sumK (m.ex.getD rn exNo).kind) (prX m.ex rn)).size ≤ 1099511627776) (he : ExprOK base S m i) (hl : ln < i) (hr : rn < i) (hwl : wt m.ex ln ≤ 1099511627776) (hwr : wt m.ex rn ≤ 1099511627776) :
    Calls Try.prog 177 #[modD S m, .int .i64 i] w fun e w' => e = .returned (.string (prX m.ex ln ++ tMinus ++ sideT (sumK (m.ex.getD rn exNo).kind) (prX m.ex rn))) ∧ Below w.heap.size w w' := by
  have hii : (i : Int) < (m.ex.length : Int) := by omega
  have HA : Hid (OwnMd ((w.alloc (.cells #[.slice S.rq.a m.rq.length S.rq.cap, .slice S.im.a m.im.length S.im.cap, .slice S.ep.a m.ep.length S.ep.cap, .slice S.st.a m.st.length S.st.cap, .slice (some ⟨g, 0, none⟩) m.ex.length S.ex.cap] 37)).alloc (.cells #[.int .i64 k, .int .i64 nu, .string nm, .string fi, .int .i64 (ln : Int), .int .i64 (rn : Int)] 96)) base S m) := (h.alloc _).alloc _
  have HE := hidI he
  have HMV : Hid (modD S m = .agg #[.slice S.rq.a m.rq.length S.rq.cap, .slice S.im.a m.im.length S.im.cap, .slice S.ep.a m.ep.length S.ep.cap, .slice S.st.a m.st.length S.st.cap, .slice (some ⟨g, 0, none⟩) m.ex.length S.ex.cap]) := by show _ = _; rw [modD, hex]
  have hli : (ln : Int) < (m.ex.length : Int) := by omega
  have hri : (rn : Int) < (m.ex.length : Int) := by omega
  obtain ⟨g2, hg2, -, d0, -, -, -, -, -⟩ := h.expr (i := rn) (by omega)
  have eg : g2 = g := by have := hg2.symm.trans hex; simpa using this
  rw [eg] at d0
  obtain ⟨kr, hkr⟩ : ∃ kr, (m.ex.getD rn exNo).kind = kr := ⟨_, rfl⟩
  rw [hkr] at d0
  have HKR := hidI hkr
  obtain ⟨tl, htl⟩ : ∃ tl, prX m.ex ln = tl := ⟨_, rfl⟩
  obtain ⟨tr, htr⟩ : ∃ tr, sideT (sumK (m.ex.getD rn exNo).kind) (prX m.ex rn) = tr := ⟨_, rfl⟩
  rw [htl, htr] at hsz
  have HTL := hidI htl
  have HTR := hidI htr
  have cL : ∀ d os, Calls Try.prog 177 #[.agg #[.slice S.rq.a m.rq.length S.rq.cap, .slice S.im.a m.im.length S.im.cap, .slice S.ep.a m.ep.length S.ep.cap, .slice S.st.a m.st.length S.st.cap, .slice (some ⟨g, 0, none⟩) m.ex.length S.ex.cap], .int .i64 (ln : Int)] (grow (redrawn ((w.alloc (.cells #[.slice S.rq.a m.rq.length S.rq.cap, .slice S.im.a m.im.length S.im.cap, .slice S.ep.a m.ep.length S.ep.cap, .slice S.st.a m.st.length S.st.cap, .slice (some ⟨g, 0, none⟩) m.ex.length S.ex.cap] 37)).alloc (.cells #[.int .i64 k, .int .i64 nu, .string nm, .string fi, .int .i64 (ln : Int), .int .i64 (rn : Int)] 96)) d) os) fun e w'' => e = .returned (.string tl) ∧ ∃ p : Regrown, w'' = grow (redrawn ((w.alloc (.cells #[.slice S.rq.a m.rq.length S.rq.cap, .slice S.im.a m.im.length S.im.cap, .slice S.ep.a m.ep.length S.ep.cap, .slice S.st.a m.st.length S.st.cap, .slice (some ⟨g, 0, none⟩) m.ex.length S.ex.cap] 37)).alloc (.cells #[.int .i64 k, .int .i64 nu, .string nm, .string fi, .int .i64 (ln : Int), .int .i64 (rn : Int)] 96)) p.d) p.os := fun d os => Calls.regrown_of (by rw [← HMV.out, ← HTL.out]; exact HE.out ln _ (by omega) (by omega) (HA.out.later (below_regrown _ d os)) hwl)
  have cS : ∀ d os, Calls Try.prog 206 #[.agg #[.slice S.rq.a m.rq.length S.rq.cap, .slice S.im.a m.im.length S.im.cap, .slice S.ep.a m.ep.length S.ep.cap, .slice S.st.a m.st.length S.st.cap, .slice (some ⟨g, 0, none⟩) m.ex.length S.ex.cap], .int .i64 (rn : Int)] (grow (redrawn ((w.alloc (.cells #[.slice S.rq.a m.rq.length S.rq.cap, .slice S.im.a m.im.length S.im.cap, .slice S.ep.a m.ep.length S.ep.cap, .slice S.st.a m.st.length S.st.cap, .slice (some ⟨g, 0, none⟩) m.ex.length S.ex.cap] 37)).alloc (.cells #[.int .i64 k, .int .i64 nu, .string nm, .string fi, .int .i64 (ln : Int), .int .i64 (rn : Int)] 96)) d) os) fun e w'' => e = .returned (.bool (sumK kr)) ∧ ∃ p : Regrown, w'' = grow (redrawn ((w.alloc (.cells #[.slice S.rq.a m.rq.length S.rq.cap, .slice S.im.a m.im.length S.im.cap, .slice S.ep.a m.ep.length S.ep.cap, .slice S.st.a m.st.length S.st.cap, .slice (some ⟨g, 0, none⟩) m.ex.length S.ex.cap] 37)).alloc (.cells #[.int .i64 k, .int .i64 nu, .string nm, .string fi, .int .i64 (ln : Int), .int .i64 (rn : Int)] 96)) p.d) p.os := fun d os => Calls.regrown_of (by rw [← HMV.out, ← HKR.out]; exact l5Sum_any base S m rn _ (HA.out.later (below_regrown _ d os)) (by omega))
  have cR : ∀ d os, Calls Try.prog 205 #[.agg #[.slice S.rq.a m.rq.length S.rq.cap, .slice S.im.a m.im.length S.im.cap, .slice S.ep.a m.ep.length S.ep.cap, .slice S.st.a m.st.length S.st.cap, .slice (some ⟨g, 0, none⟩) m.ex.length S.ex.cap], .int .i64 (rn : Int), .bool (sumK kr)] (grow (redrawn ((w.alloc (.cells #[.slice S.rq.a m.rq.length S.rq.cap, .slice S.im.a m.im.length S.im.cap, .slice S.ep.a m.ep.length S.ep.cap, .slice S.st.a m.st.length S.st.cap, .slice (some ⟨g, 0, none⟩) m.ex.length S.ex.cap] 37)).alloc (.cells #[.int .i64 k, .int .i64 nu, .string nm, .string fi, .int .i64 (ln : Int), .int .i64 (rn : Int)] 96)) d) os) fun e w'' => e = .returned (.string tr) ∧ ∃ p : Regrown, w'' = grow (redrawn ((w.alloc (.cells #[.slice S.rq.a m.rq.length S.rq.cap, .slice S.im.a m.im.length S.im.cap, .slice S.ep.a m.ep.length S.ep.cap, .slice S.st.a m.st.length S.st.cap, .slice (some ⟨g, 0, none⟩) m.ex.length S.ex.cap] 37)).alloc (.cells #[.int .i64 k, .int .i64 nu, .string nm, .string fi, .int .i64 (ln : Int), .int .i64 (rn : Int)] 96)) p.d) p.os := fun d os => Calls.regrown_of (by rw [← HMV.out, ← HTR.out, HKR.out]; exact l5Side_of base S m i rn _ _ HE.out (by omega) (by omega) (HA.out.later (below_regrown _ d os)) hwr)
  have X : Hid (Six ((w.alloc (.cells #[.slice S.rq.a m.rq.length S.rq.cap, .slice S.im.a m.im.length S.im.cap, .slice S.ep.a m.ep.length S.ep.cap, .slice S.st.a m.st.length S.st.cap, .slice (some ⟨g, 0, none⟩) m.ex.length S.ex.cap] 37)).alloc (.cells #[.int .i64 k, .int .i64 nu, .string nm, .string fi, .int .i64 (ln : Int), .int .i64 (rn : Int)] 96)) (w.heap.size + 1) (.int .i64 k) (.int .i64 nu) (.string nm) (.string fi) (.int .i64 (ln : Int)) (.int .i64 (rn : Int))) := six_of (new2 w _ _)
  have Y := hidI (five_of (alloc_keep (o' := .cells #[.int .i64 k, .int .i64 nu, .string nm, .string fi, .int .i64 (ln : Int), .int .i64 (rn : Int)] 96) (heap_alloc_new w (.cells #[.slice S.rq.a m.rq.length S.rq.cap, .slice S.im.a m.im.length S.im.cap, .slice S.ep.a m.ep.length S.ep.cap, .slice S.st.a m.st.length S.st.cap, .slice (some ⟨g, 0, none⟩) m.ex.length S.ex.cap] 37))))
  have D0 : Hid (((w.alloc (.cells #[.slice S.rq.a m.rq.length S.rq.cap, .slice S.im.a m.im.length S.im.cap, .slice S.ep.a m.ep.length S.ep.cap, .slice S.st.a m.st.length S.st.cap, .slice (some ⟨g, 0, none⟩) m.ex.length S.ex.cap] 37)).alloc (.cells #[.int .i64 k, .int .i64 nu, .string nm, .string fi, .int .i64 (ln : Int), .int .i64 (rn : Int)] 96)).cell? ⟨g, rn * 6, none⟩ = some (.int .i64 kr)) := by show _ = _; rw [World.cell?_alloc_past _ _ _ (by rw [alloc_size]; omega), World.cell?_alloc_past _ _ _ hlt]; exact d0
  simp only [ByteArray.size_append] at hsz
  have hp3 : tMinus.size = 3 := rfl
  have hs1 : tl.size ≤ 1099511627776 := by omega
  have hs2 : tr.size ≤ 1099511627776 := by omega
  have HV : Hid ((prX m.ex ln ++ tMinus ++ sideT (sumK (m.ex.getD rn exNo).kind) (prX m.ex rn)) = tl ++ tMinus ++ tr) := by show _ = _; rw [HTL.out, HTR.out]
  unfold modD
  rw [hex]
  clear hex h HA HE HMV HTL HTR htl htr hkr HKR hg2 he hsz hp3 d0 eg
  go_enter Try.func177, Try.ntmps177
  go_wp2_with fail
  have x0 := cell_regrown X.out.c0
  have x4 := cell_regrown X.out.c4
  have x5 := cell_regrown X.out.c5
  have y0 := cell_regrown Y.out.1
  have y1 := cell_regrown Y.out.2.1
  have y2 := cell_regrown Y.out.2.2.1
  have y3 := cell_regrown Y.out.2.2.2.1
  have y4 := cell_regrown Y.out.2.2.2.2.1
  have e0 := cell_regrown D0.out
  refine wp_region_quiet_below (by kernel_rfl) (by kernel_rfl) ?_
  repeat (go_big_quiet_step (first | with_reducible exact cL _ _ | with_reducible exact cS _ _ | with_reducible exact cR _ _))
  refine wpQuiet_nil ?_
  intro w1 hw'
  obtain ⟨⟨dq, osq⟩, hw''⟩ := hw'
  have HB1 : Hid (Below w.heap.size w w1) := by show Below _ _ _; rw [hw'']; exact (below2 w _ _).trans ((below_regrown _ _ _).mono (by rw [alloc_size, alloc_size]; omega))
  clear hw''
  go_wp2
  go_ret
  exact ⟨ret_str HV.out.symm, HB1.out⟩
end Go.Proofs.Ytdbpknmoacjodaa
namespace Go.Proofs.Ytdbpknmoacjodaa
open Go.RowKit Go.PlainAid Go.Sort

def toIm (e : Ep) : Im := ⟨sNone, e.loc, e.name⟩
def pairI (C : Cx) (exp : Bool) (q : PS) : Except Nat (PS × Ep) := bd (nameP C true q) fun a => bd (asP C exp a) fun b => .ok (b.1, ⟨0, b.2, a.2, sNone⟩)
theorem listL_pair (C : Cx) (exp : Bool) (q : PS) (acc : List Ep) : listL C exp q acc = bd (pairI C exp q) fun x =>
    if isT C x.1.pos 4 cComma then listL C exp (adv x.1) (acc ++ [x.2]) else bd (tokP C 4 cRight x.1) fun q' => .ok (q', acc ++ [x.2]) := by
  rw [listL_step, pairI, bd_bd]
  refine bd_congr fun a _ => ?_
  rw [bd_bd]
  rfl
theorem pair_as {C : Cx} {q : PS} {a : PS × ByteArray} (hn : nameP C true q = .ok a) (h : isT C a.1.pos 1 sAs = true) : pairI C false q = bd (nameP C false (adv a.1)) fun b => .ok (b.1, ⟨0, b.2, a.2, sNone⟩) := by
  rw [pairI, hn, bd_ok, asP, if_pos h]
theorem pair_word {C : Cx} {q : PS} {a : PS × ByteArray} (hn : nameP C true q = .ok a) (h : isT C a.1.pos 1 sAs = false) (hd : (a.2.toList == [100, 101, 102, 97, 117, 108, 116]) = true) : pairI C false q = .error (here C a.1.pos) := by
  rw [pairI, hn, bd_ok, asP, if_neg (by rw [h]; decide), if_pos (by rw [hd]; rfl)]
  rfl
theorem pair_alone {C : Cx} {q : PS} {a : PS × ByteArray} (hn : nameP C true q = .ok a) (h : isT C a.1.pos 1 sAs = false) (hd : (a.2.toList == [100, 101, 102, 97, 117, 108, 116]) = false) : pairI C false q = .ok (a.1, ⟨0, a.2, a.2, sNone⟩) := by
  rw [pairI, hn, bd_ok, asP, if_neg (by rw [h]; decide), if_neg (by rw [hd]; decide)]
  rfl
theorem three_of {w : World} {b : Nat} {t : TypeId} {v0 v1 v2 : Value} (h : w.heap[b]? = some (.cells #[v0, v1, v2] t (0, 0))) :
    w.cell? ⟨b, 0, none⟩ = some v0 ∧ w.cell? ⟨b, 1, none⟩ = some v1 ∧ w.cell? ⟨b, 2, none⟩ = some v2 ∧ ∀ i, w.frozen? ⟨b, i, none⟩ = false := by
  refine ⟨?_, ?_, ?_, fun i => ?_⟩ <;> simp [World.cell?, World.frozen?, h]
theorem put3 {w : World} {b : Nat} {v0 v1 v2 x0 x1 x2 : Value} {t : TypeId} (h : w.heap[b]? = some (.cells #[v0, v1, v2] t (0, 0))) :
    (((w.setCell ⟨b, 0, none⟩ x0).setCell ⟨b, 1, none⟩ x1).setCell ⟨b, 2, none⟩ x2).heap[b]? = some (.cells #[x0, x1, x2] t (0, 0)) := by
  have e := qcell (i := 2) (u := x2) (qcell (i := 1) (u := x1) (qcell (i := 0) (u := x0) h))
  rw [e]
  simp

end Go.Proofs.Ytdbpknmoacjodaa
