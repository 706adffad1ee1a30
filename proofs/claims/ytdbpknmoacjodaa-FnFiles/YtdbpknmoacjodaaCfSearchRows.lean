/-
  slices.BinarySearchFunc at rows of files by comparePaths and at rows of texts by strings.Compare: the walks.
-/
import Derived.Test.YtdbpknmoacjodaaCfImplFiles
import Derived.Test.YtdbpknmoacjodaaCfLawMarkPToLawStrP
namespace Go.Proofs.Ytdbpknmoacjodaa
open Go.RowKit Go.PlainAid Go.Sort

def cmpS (a b : ByteArray) : Int := Lib.compareBytes a.data.toList b.data.toList
theorem cmpL_neg : ∀ a b : List UInt8, decide (Lib.compareBytes a b < 0) = Op.bytesLess a b := by
  intro a
  induction a with
  | nil => intro b; cases b <;> simp [Lib.compareBytes, Op.bytesLess]
  | cons x a ih =>
    intro b
    cases b with
    | nil => simp [Lib.compareBytes, Op.bytesLess]
    | cons y b =>
      rw [Lib.compareBytes, Op.bytesLess]
      by_cases h1 : x < y
      · simp [h1]
      · by_cases h2 : y < x
        · have h3 : ¬ x = y := fun e => by subst e; exact h1 h2
          simp [h1, h2, h3]
        · have h3 : x = y := UInt8.le_antisymm (UInt8.not_lt.1 h2) (UInt8.not_lt.1 h1)
          rw [if_neg h1, if_neg h2, ih b]
          simp [h3]
theorem cmpL_zero : ∀ a b : List UInt8, Lib.compareBytes a b = 0 ↔ a = b := by
  intro a
  induction a with
  | nil => intro b; cases b <;> simp [Lib.compareBytes]
  | cons x a ih =>
    intro b
    cases b with
    | nil => simp [Lib.compareBytes]
    | cons y b =>
      rw [Lib.compareBytes]
      by_cases h1 : x < y
      · have h3 : ¬ x = y := fun e => by subst e; exact UInt8.lt_irrefl _ h1
        simp [h1, h3]
      · by_cases h2 : y < x
        · have h3 : ¬ x = y := fun e => by subst e; exact h1 h2
          simp [h1, h2, h3]
        · have h3 : x = y := UInt8.le_antisymm (UInt8.not_lt.1 h2) (UInt8.not_lt.1 h1)
          rw [if_neg h1, if_neg h2, ih b]
          simp [h3]
theorem cmpS_neg (a b : ByteArray) : decide (cmpS a b < 0) = lessT a b := by
  unfold cmpS lessT
  rw [cmpL_neg, Lib.toList_data, Lib.toList_data]
theorem cmpS_zero (a b : ByteArray) : cmpS a b = 0 ↔ a = b := by
  unfold cmpS
  rw [cmpL_zero]
  exact ⟨bytes_ext, fun h => by rw [h]⟩
def FoundAt (len : Nat) (Pt : Nat → ByteArray) (q : ByteArray) (k : Nat) (b : Bool) : Prop := k ≤ len ∧ (∀ j, j < k → lessT (Pt j) q = true) ∧ (∀ j, k ≤ j → j < len → lessT (Pt j) q = false) ∧ (b = true ↔ k < len ∧ Pt k = q)
def Mono (len : Nat) (Pt : Nat → ByteArray) (q : ByteArray) : Prop := ∀ a b, a ≤ b → b < len → lessT (Pt b) q = true → lessT (Pt a) q = true
theorem comparePaths_any (p t q u : ByteArray) (w : World) :
    Calls Try.prog 68 #[.agg #[.string p, .string t], .agg #[.string q, .string u]] w fun e w' => e = .returned (.int .i64 (cmpS p q)) ∧ Below w.heap.size w w' := by
  go_enter Try.func68, Try.ntmps68
  go_wp2_with fail
  refine (Try.strings_Compare _ _ _).mono ?_
  rintro e w1 ⟨rfl, rfl⟩
  go_wp2
  go_ret
  exact ⟨rfl, ((Below.refl _ _).alloc (Nat.le_refl _) _).alloc (by simp) _⟩
theorem compare_any (p q : ByteArray) (w : World) :
    Calls Try.prog 96 #[.string p, .string q] w fun e w' => e = .returned (.int .i64 (cmpS p q)) ∧ Below w.heap.size w w' := by
  refine (Try.strings_Compare _ _ _).mono ?_
  rintro e w1 ⟨rfl, rfl⟩
  exact ⟨rfl, Below.refl _ _⟩

set_option maxRecDepth 100000 in
set_option maxHeartbeats 3200000 in
theorem searchF_any (g len cap : Nat) (Pt Tx : Nat → ByteArray) (p t : ByteArray) (w : World) (hf : FilesAt w (some ⟨g, 0, none⟩) g 0 len Pt Tx) (hl : len ≤ 1000) (hm : Mono len Pt p) :
    Calls Try.prog 136 #[.slice (some ⟨g, 0, none⟩) len cap, .agg #[.string p, .string t], .func (.func 68) #[] #[]] w fun e w' => ∃ (k : Nat) (b : Bool), e = .returned (.tuple #[.int .i64 k, .bool b]) ∧ FoundAt len Pt p k b ∧ Below w.heap.size w w' := by
  have HF := hidU hf
  have HM := hidU hm
  have X0 : Hid ((w.alloc (.cells #[.string p, .string t] 52)).heap[w.heap.size]? = some (.cells #[.string p, .string t] 52 (0, 0))) := heap_alloc_new w _
  have A0 : Hid (Below w.heap.size w (w.alloc (.cells #[.string p, .string t] 52))) := (Below.refl _ _).alloc (Nat.le_refl _) _
  clear hf hm
  go_enter Try.func136, Try.ntmps136
  go_wp2
  go_loopw [9, 10, 11] (fun lo hi _ wr => ∃ i j : Nat, lo = .int .i64 i ∧ hi = .int .i64 j ∧ i ≤ j ∧ j ≤ len ∧ Hid (∀ t, t < i → lessT (Pt t) p = true) ∧ Hid (∀ t, j ≤ t → t < len → lessT (Pt t) p = false) ∧ Hid (wr.heap[w.heap.size]? = some (.cells #[.string p, .string t] 52 (0, 0))) ∧ Hid (Below w.heap.size w wr)) (fun lo hi _ _ => (intOf hi - intOf lo).toNat)
  case atStart => exact ⟨0, len, rfl, rfl, by omega, by omega, hidU (fun t ht => absurd ht (Nat.not_lt_zero t)), hidU (fun t h1 h2 => by omega), X0, A0⟩
  case round =>
    obtain ⟨i, j, rfl, rfl, hij, hjl, HA, HB, X, B⟩ := hrel
    clear X0 A0
    have b0 : wr.cell? ⟨w.heap.size, 0, none⟩ = some (.string p) := by simp [World.cell?, X.out]
    have b1 : wr.cell? ⟨w.heap.size, 1, none⟩ = some (.string t) := by simp [World.cell?, X.out]
    have hf' := hidU (HF.out.later B.out)
    by_cases hlt : i < j
    · obtain ⟨m, hm⟩ : ∃ m, m = (i + j) / 2 := ⟨_, rfl⟩
      have em : ((i : Int) + (j : Int)) / 2 = (m : Int) := by omega
      have hm1 : i ≤ m := by omega
      have hm2 : m < j := by omega
      clear hm
      have c0 := hf'.out.path m (by omega)
      have c1 := hf'.out.text m (by omega)
      rw [Nat.zero_add] at c0 c1
      have cQ : ∀ d os, Calls Try.prog 68 #[.agg #[.string (Pt m), .string (Tx m)], .agg #[.string p, .string t]] (grow (redrawn wr d) os) fun e w'' => e = .returned (.int .i64 (cmpS (Pt m) p)) ∧ ∃ p : Regrown, w'' = grow (redrawn wr p.d) p.os :=
        fun d os => Calls.regrown_of (comparePaths_any _ _ _ _ _)
      have HC := hidU (cmpS_neg (Pt m) p)
      have k0 := cell_regrown b0
      have k1 := cell_regrown b1
      have k2 := cell_regrown c0
      have k3 := cell_regrown c1
      clear b0 b1 c0 c1
      obtain ⟨c, hc⟩ : ∃ c, cmpS (Pt m) p = c := ⟨_, rfl⟩
      rw [hc] at cQ
      have HC2 : Hid (decide (c < 0) = lessT (Pt m) p) := by show _ = _; rw [← hc]; exact HC.out
      clear hc HC
      cases hless : decide (c < 0) with
      | true =>
        go_wp2
        refine wp_region_quiet_below (by kernel_rfl) (by kernel_rfl) ?_
        repeat (go_big_quiet_step (exact cQ _ _))
        refine wpQuiet_nil ?_
        intro _ hw'
        obtain ⟨⟨dq, osq⟩, hw''⟩ := hw'
        subst hw''
        have B2 := hidU (below_regrown wr dq osq)
        go_wp2
        go_roundw
        case rel => exact ⟨m + 1, j, by go_num, rfl, by omega, hjl, hidU (fun t ht => HM.out t m (by omega) (by omega) (by rw [← HC2.out]; exact hless)), HB, hidU ((B2.out.block _ (Array.getElem?_eq_some_iff.1 X.out).1).trans X.out), hidU (B.out.trans (B2.out.mono B.out.size))⟩
        case measure => simp [intOf]; omega
      | false =>
        go_wp2
        refine wp_region_quiet_below (by kernel_rfl) (by kernel_rfl) ?_
        repeat (go_big_quiet_step (exact cQ _ _))
        refine wpQuiet_nil ?_
        intro _ hw'
        obtain ⟨⟨dq, osq⟩, hw''⟩ := hw'
        subst hw''
        have B2 := hidU (below_regrown wr dq osq)
        go_wp2
        go_roundw
        case rel =>
          refine ⟨i, m, rfl, rfl, hm1, by omega, HA, hidU (fun t h1 h2 => ?_), hidU ((B2.out.block _ (Array.getElem?_eq_some_iff.1 X.out).1).trans X.out), hidU (B.out.trans (B2.out.mono B.out.size))⟩
          cases ht : lessT (Pt t) p with
          | false => rfl
          | true =>
            have := HM.out m t h1 h2 ht
            rw [← HC2.out, hless] at this
            cases this
        case measure => simp [intOf]; omega
    · obtain rfl : i = j := by omega
      by_cases hil : i < len
      · have hd : decide ((i : Int) < (len : Int)) = true := decide_eq_true (by omega)
        have c0 := hf'.out.path i hil
        have c1 := hf'.out.text i hil
        rw [Nat.zero_add] at c0 c1
        have cQ : ∀ d os, Calls Try.prog 68 #[.agg #[.string (Pt i), .string (Tx i)], .agg #[.string p, .string t]] (grow (redrawn wr d) os) fun e w'' => e = .returned (.int .i64 (cmpS (Pt i) p)) ∧ ∃ p : Regrown, w'' = grow (redrawn wr p.d) p.os :=
          fun d os => Calls.regrown_of (comparePaths_any _ _ _ _ _)
        have HC := hidU (cmpS_zero (Pt i) p)
        have k0 := cell_regrown b0
        have k1 := cell_regrown b1
        have k2 := cell_regrown c0
        have k3 := cell_regrown c1
        clear b0 b1 c0 c1
        obtain ⟨c, hc⟩ : ∃ c, cmpS (Pt i) p = c := ⟨_, rfl⟩
        rw [hc] at cQ
        have HC2 : Hid (c = 0 ↔ Pt i = p) := by show _ ↔ _; rw [← hc]; exact HC.out
        clear hc HC
        go_wp2
        refine wp_region_quiet_below (by kernel_rfl) (by kernel_rfl) ?_
        repeat (go_big_quiet_step (exact cQ _ _))
        refine wpQuiet_nil ?_
        intro _ hw'
        obtain ⟨⟨dq, osq⟩, hw''⟩ := hw'
        subst hw''
        have B2 := hidU (below_regrown wr dq osq)
        go_wp2
        go_ret2
        refine ⟨i, c == 0, rfl, ⟨hjl, HA.out, HB.out, ?_⟩, B.out.trans (B2.out.mono B.out.size)⟩
        rw [beq_iff_eq, HC2.out]
        exact ⟨fun h => ⟨hil, h⟩, fun h => h.2⟩
      · have hd : decide ((i : Int) < (len : Int)) = false := decide_eq_false (by omega)
        have k0 := cell_regrown b0
        have k1 := cell_regrown b1
        go_wp2
        refine wp_region_quiet_below (by kernel_rfl) (by kernel_rfl) ?_
        repeat (go_big_quiet_step (fail))
        refine wpQuiet_nil ?_
        intro _ hw'
        obtain ⟨⟨dq, osq⟩, hw''⟩ := hw'
        subst hw''
        have B2 := hidU (below_regrown wr dq osq)
        go_wp2
        go_ret2
        exact ⟨i, false, rfl, ⟨hjl, HA.out, HB.out, ⟨fun h => (by cases h), fun h => absurd h.1 hil⟩⟩, B.out.trans (B2.out.mono B.out.size)⟩

set_option maxRecDepth 100000 in
set_option maxHeartbeats 3200000 in
theorem searchS_any (g len cap : Nat) (Pt : Nat → ByteArray) (p : ByteArray) (w : World) (hf : TextsAt w (some ⟨g, 0, none⟩) g len Pt) (hl : len ≤ 1000) (hm : Mono len Pt p) :
    Calls Try.prog 155 #[.slice (some ⟨g, 0, none⟩) len cap, .string p, .func (.func 96) #[] #[]] w fun e w' => ∃ (k : Nat) (b : Bool), e = .returned (.tuple #[.int .i64 k, .bool b]) ∧ FoundAt len Pt p k b ∧ Below w.heap.size w w' := by
  have HF := hidU hf
  have HM := hidU hm
  clear hf hm
  go_enter Try.func155, Try.ntmps155
  go_wp2
  go_loopw [9, 10, 11] (fun lo hi _ wr => ∃ i j : Nat, lo = .int .i64 i ∧ hi = .int .i64 j ∧ i ≤ j ∧ j ≤ len ∧ Hid (∀ t, t < i → lessT (Pt t) p = true) ∧ Hid (∀ t, j ≤ t → t < len → lessT (Pt t) p = false) ∧ Hid (Below w.heap.size w wr)) (fun lo hi _ _ => (intOf hi - intOf lo).toNat)
  case atStart => exact ⟨0, len, rfl, rfl, by omega, by omega, hidU (fun t ht => absurd ht (Nat.not_lt_zero t)), hidU (fun t h1 h2 => by omega), hidU (Below.refl _ _)⟩
  case round =>
    obtain ⟨i, j, rfl, rfl, hij, hjl, HA, HB, B⟩ := hrel
    have hf' := hidU (HF.out.later B.out)
    by_cases hlt : i < j
    · obtain ⟨m, hm⟩ : ∃ m, m = (i + j) / 2 := ⟨_, rfl⟩
      have em : ((i : Int) + (j : Int)) / 2 = (m : Int) := by omega
      have hm1 : i ≤ m := by omega
      have hm2 : m < j := by omega
      clear hm
      have c0 := hf'.out.cell m (by omega)
      have HC := hidU (cmpS_neg (Pt m) p)
      go_wp2_with fail
      refine (compare_any _ _ _).mono ?_
      rintro e w2 ⟨rfl, hb2⟩
      have B2 := hidU hb2
      clear hb2
      obtain ⟨c, hc⟩ : ∃ c, cmpS (Pt m) p = c := ⟨_, rfl⟩
      rw [hc]
      have HC2 : Hid (decide (c < 0) = lessT (Pt m) p) := by show _ = _; rw [← hc]; exact HC.out
      clear hc HC
      cases hless : decide (c < 0) with
      | true =>
        go_wp2
        go_roundw
        case rel => exact ⟨m + 1, j, by go_num, rfl, by omega, hjl, hidU (fun t ht => HM.out t m (by omega) (by omega) (by rw [← HC2.out]; exact hless)), HB, hidU (B.out.trans (B2.out.mono B.out.size))⟩
        case measure => simp [intOf]; omega
      | false =>
        go_wp2
        go_roundw
        case rel =>
          refine ⟨i, m, rfl, rfl, hm1, by omega, HA, hidU (fun t h1 h2 => ?_), hidU (B.out.trans (B2.out.mono B.out.size))⟩
          cases ht : lessT (Pt t) p with
          | false => rfl
          | true =>
            have := HM.out m t h1 h2 ht
            rw [← HC2.out, hless] at this
            cases this
        case measure => simp [intOf]; omega
    · obtain rfl : i = j := by omega
      by_cases hil : i < len
      · have c0 := hf'.out.cell i hil
        have HC := hidU (cmpS_zero (Pt i) p)
        go_wp2_with fail
        refine (compare_any _ _ _).mono ?_
        rintro e w2 ⟨rfl, hb2⟩
        have B2 := hidU hb2
        clear hb2
        obtain ⟨c, hc⟩ : ∃ c, cmpS (Pt i) p = c := ⟨_, rfl⟩
        rw [hc]
        have HC2 : Hid (c = 0 ↔ Pt i = p) := by show _ ↔ _; rw [← hc]; exact HC.out
        clear hc HC
        go_wp2
        go_ret2
        refine ⟨i, c == 0, rfl, ⟨hjl, HA.out, HB.out, ?_⟩, B.out.trans (B2.out.mono B.out.size)⟩
        rw [beq_iff_eq, HC2.out]
        exact ⟨fun h => ⟨hil, h⟩, fun h => h.2⟩
      · go_wp2
        go_ret2
        exact ⟨i, false, rfl, ⟨hjl, HA.out, HB.out, ⟨fun h => (by cases h), fun h => absurd h.1 hil⟩⟩, B.out⟩
end Go.Proofs.Ytdbpknmoacjodaa
