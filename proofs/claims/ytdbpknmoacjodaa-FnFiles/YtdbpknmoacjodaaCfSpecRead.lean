/-
  What spec.l12Vars (of one) and spec.l12Take answer: the walks.
-/
import Derived.Test.YtdbpknmoacjodaaCfNumbersMath
import Derived.Test.YtdbpknmoacjodaaCfSpecFilesToSpecShow
namespace Go.Proofs.Ytdbpknmoacjodaa
open Go.RowKit Go.PlainAid

def VarsOut (s : ByteArray) (a : Int) (w : World) (e : Ending) (w' : World) : Prop := Below w.heap.size w w' ∧ ∃ g n cap, match varAt1 s a with
  | none => e = .returned (.tuple #[.slice (some ⟨g, 0, none⟩) n cap, .int .i64 (-1)])
  | some r => e = .returned (.tuple #[.slice (some ⟨g, 0, none⟩) 1 cap, .int .i64 r.2]) ∧ w'.cell? ⟨g, 0, none⟩ = some (.int .i64 r.1) ∧ g < w'.heap.size
theorem vars_none {s : ByteArray} {a : Int} {w w' : World} {g n cap : Nat} (h : varAt1 s a = none) (hb : Below w.heap.size w w') : VarsOut s a w (.returned (.tuple #[.slice (some ⟨g, 0, none⟩) n cap, .int .i64 (-1)])) w' := ⟨hb, g, n, cap, by rw [h]⟩
theorem vars_some {s : ByteArray} {a x k : Int} {w w' : World} {g cap : Nat} (h : varAt1 s a = some (x, k)) (hb : Below w.heap.size w w') (hc : w'.cell? ⟨g, 0, none⟩ = some (.int .i64 x)) (hg : g < w'.heap.size) : VarsOut s a w (.returned (.tuple #[.slice (some ⟨g, 0, none⟩) 1 cap, .int .i64 k])) w' := ⟨hb, g, 0, cap, by rw [h]; exact ⟨rfl, hc, hg⟩⟩
theorem Try.infoIntR : (Try.prog.info? 3).map (fun i => (i.zero, i.size, i.bytes)) = some (some (.int .i64 0), 1, 8) := by kernel_rfl
theorem owns_later {w W : World} {base g n cap : Nat} {e : TypeId} {size : Nat} {xs : List Value} (h : w.ownsRow base e size (.slice (some ⟨g, 0, none⟩) n cap) n xs) (hb : Below w.heap.size w W) : W.ownsRow base e size (.slice (some ⟨g, 0, none⟩) n cap) n xs := by
  refine ⟨h.1, ?_⟩
  rcases h.2 with ⟨h', _⟩ | ⟨g', cap', cur, h', hbs, hg, hr⟩
  · simp at h'
  · simp only [Value.slice.injEq, Option.some.injEq, Addr.mk.injEq, and_true, true_and] at h'
    obtain ⟨rfl, rfl⟩ := h'
    exact .inr ⟨g, cap, cur, rfl, hbs, (hb.block g (Array.getElem?_eq_some_iff.1 hg).1).trans hg, hr⟩
theorem app_int {P : Program} (w : World) {ops : Array Oper} {rest : List Oper} {o : Oper} {a : Act} {Q : Exit → Act → World → Prop} (hgd : o.guard = none) (s x : Operand) (t : TypeId)
    (ho : o.op = .call { callee := .builtin .append, args := #[s, x], argTypes := #[t, t] })
    (base : Nat) (e : TypeId) (i : TypeInfo) (z : Value) (ht : P.underlying t = some (.slice e)) (hi : P.info? e = some i) (hz : i.zero = some z) (hsize : i.size = 1) (hby : i.bytes = 8) (hzs : z.cells.size = 1)
    (g : Nat) (hs : a.eval s = .slice (some ⟨g, 0, none⟩) 0 0) (hown : w.ownsRow base e 1 (.slice (some ⟨g, 0, none⟩) 0 0) 0 [])
    (v : Int) (hx : a.eval x = .slice (some ⟨w.heap.size, 0, none⟩) 1 1) (hbase : base ≤ w.heap.size)
    (h : ∀ g' cap' w', w'.cell? ⟨g', 0, none⟩ = some (.int .i64 v) → g' < w'.heap.size → Below base w w' → wpList P ops Q rest (a.put o.dst (.slice (some ⟨g', 0, none⟩) 1 cap')) w') :
    wpList P ops Q (o :: rest) a (w.alloc (.cells #[.int .i64 v] e)) := by
  refine wpList_append_own _ hgd s x t ho base e i z 1 8 ht hi hz hsize hby hzs (by decide) _ 0 _ hs (hown.alloc _) ⟨w.heap.size, 0, none⟩ 1 1 [.int .i64 v] hx rfl ?_ ?_ ?_ ?_ ?_ ?_
  · intro j u hj
    match j, hj with
    | 0, hj =>
      simp at hj
      subst hj
      simp [Addr.add]
  · intro u hu
    simp at hu
    subst hu
    rfl
  · unfold maxLen; omega
  · omega
  · simp; omega
  · intro v' w' h1 h2 h3
    have hb : Below base w w' := ((Below.refl base w).alloc hbase _).grown h2 (by simp; omega) (own_block_ge hown)
    rcases h1.2 with ⟨hv, _⟩ | ⟨g', cap', cur, rfl, hrest⟩
    · have := (h3.1 hv).1
      simp at this
    · refine h g' cap' w' ?_ (Array.getElem?_eq_some_iff.1 hrest.2.1).1 hb
      have := h1.cellAt 0 (by omega)
      exact this
set_option maxRecDepth 100000 in
set_option maxHeartbeats 3200000 in
theorem l12Vars_one (s : ByteArray) (a : Int) (w : World) (hs : s.size ≤ 1048576) (ha0 : -1 ≤ a) (ha1 : a ≤ 2000000) :
    Calls Try.prog 88 #[.string s, .int .i64 a, .int .i64 1] w (VarsOut s a w) := by
  obtain ⟨i0, hi, hz0, hz1, hz2⟩ := info_parts Try.infoIntR
  have O0 : Hid ((w.alloc (.cells #[] 3)).ownsRow w.heap.size 3 1 (.slice (some ⟨w.heap.size, 0, none⟩) 0 0) 0 []) := World.ownsRow_lit w #[] 0 (Nat.le_refl _) (by unfold maxLen; omega) rfl
  have B0 : Hid (Below w.heap.size w (w.alloc (.cells #[] 3))) := (Below.refl _ _).alloc (Nat.le_refl _) _
  go_enter Try.func88, Try.ntmps88
  go_wp2
  go_loopw [1, 8, 9, 10, 11] (fun b o i _ _ wr => (b = .int .i64 a ∧ o = .slice (some ⟨w.heap.size, 0, none⟩) 0 0 ∧ i = .int .i64 0 ∧ wr = w.alloc (.cells #[] 3)) ∨ ∃ (x k : Int) (g cap : Nat), varAt1 s a = some (x, k) ∧ b = .int .i64 k ∧ o = .slice (some ⟨g, 0, none⟩) 1 cap ∧ i = .int .i64 1 ∧ wr.cell? ⟨g, 0, none⟩ = some (.int .i64 x) ∧ g < wr.heap.size ∧ Below w.heap.size w wr) (fun _ _ i _ _ _ => (1 - intOf i).toNat)
  case atStart => exact .inl ⟨rfl, rfl, rfl, rfl⟩
  case round =>
    rcases hrel with ⟨rfl, rfl, rfl, hwr⟩ | ⟨x, k, g, cap, hv, rfl, rfl, rfl, hc, hg, hb⟩
    · by_cases hin : 0 ≤ a ∧ a ≤ s.size
      · obtain ⟨n, rfl⟩ : ∃ n : Nat, a = (n : Int) := ⟨a.toNat, by omega⟩
        have hns : n ≤ s.size := by omega
        have q1 : decide ((n : Int) < 0) = false := decide_eq_false (by omega)
        have q2 : decide (s.size < n) = false := decide_eq_false (by omega)
        have q3 : decide ((s.size : Int) < (n : Int)) = false := decide_eq_false (by omega)
        have hxs : (s.extract n s.size).size ≤ 1048576 := by rw [ByteArray.size_extract]; omega
        have hbd := rvAns_bd (s.extract n s.size)
        have B1 : Hid (Below w.heap.size w wr) := by rw [hwr]; exact B0.out
        have O1 : Hid (wr.ownsRow w.heap.size 3 1 (.slice (some ⟨w.heap.size, 0, none⟩) 0 0) 0 []) := by rw [hwr]; exact O0.out
        clear hwr hin
        by_cases h0 : (rvAns (s.extract n s.size)).2 = 0
        · have HV := hidU (varAt1_no hns h0)
          have q4 : ((rvAns (s.extract n s.size)).2 == 0) = true := by rw [h0]; rfl
          clear h0
          go_wp2_with fail
          refine (readVar_spec (s.extract n s.size) _ (by omega)).mono ?_
          rintro e w1 ⟨rfl, hb1⟩
          go_wp2
          go_ret2
          exact vars_none HV.out (B1.out.trans (hb1.mono B1.out.size))
        · have HV := hidU (varAt1_yes hns h0)
          have q4 : ((rvAns (s.extract n s.size)).2 == 0) = false := beq_eq_false_iff_ne.2 h0
          clear h0
          go_wp2_with (first | (go_at_call 150; refine (readVar_spec (s.extract n s.size) _ (by omega)).mono ?_; rintro e w1 ⟨rfl, hb1⟩; have O2 := hidU (owns_later O1.out hb1); have B2 := hidU (B1.out.trans (hb1.mono B1.out.size)); clear hb1) | (at_builtin; refine app_int w1 rfl _ _ 86 rfl w.heap.size 3 i0 _ Try.underlying86 hi hz0 hz1 hz2 rfl w.heap.size (by rfl) O2.out _ (by rfl) B2.out.size ?_; intro g' cap' w3 hc3 hg3 hb3))
          go_roundw
          case rel => exact .inr ⟨_, _, g', cap', HV.out, rfl, rfl, rfl, hc3, hg3, B2.out.trans hb3⟩
          case measure => simp [intOf]
      · have HV := hidU (varAt1_off hin)
        have B1 : Hid (Below w.heap.size w wr) := by rw [hwr]; exact B0.out
        clear hwr
        by_cases h0 : a < 0
        · clear hin
          go_wp2
          go_ret2
          exact vars_none HV.out B1.out
        · have h1 : (s.size : Int) < a := by omega
          clear hin
          go_wp2
          go_ret2
          exact vars_none HV.out B1.out
    · have HV := hidU hv
      clear hv
      go_wp2
      go_ret2
      exact vars_some HV.out hb hc hg
end Go.Proofs.Ytdbpknmoacjodaa
namespace Go.Proofs.Ytdbpknmoacjodaa
open Go.RowKit Go.PlainAid Go.Sort

set_option maxRecDepth 100000 in
set_option maxHeartbeats 3200000 in
theorem l12Take_spec (s : ByteArray) (a : Int) (w : World) (hs : s.size ≤ 1048576) (ha0 : -1 ≤ a) (ha1 : a ≤ 2000000) :
    Calls Try.prog 89 #[.string s, .int .i64 a] w fun e w' => e = .returned (.tuple #[.string (takeS s a).1, .int .i64 (takeS s a).2]) ∧ Below w.heap.size w w' := by
  cases hv : varAt1 s a with
  | none =>
    have HV : Hid (takeS s a = ({ data := #[] }, -1)) := by show takeS s a = _; rw [takeS, hv]
    go_enter Try.func89, Try.ntmps89
    go_wp2_with fail
    refine (l12Vars_one s a w hs ha0 ha1).mono ?_
    rintro e w1 ⟨hb1, g, n, cap, hm⟩
    rw [hv] at hm
    obtain rfl := hm
    clear hv
    go_wp2
    go_ret2
    exact ⟨by show Ending.returned (.tuple #[.string { data := #[] }, .int .i64 (-1)]) = _; rw [HV.out], hb1⟩
  | some r =>
    obtain ⟨x, k⟩ := r
    obtain ⟨hx0, hx1, hk0, hk1⟩ := varAt1_bd hv
    obtain ⟨m, rfl⟩ : ∃ m : Nat, k = (m : Int) := ⟨k.toNat, by omega⟩
    obtain ⟨y, rfl⟩ : ∃ y : Nat, x = (y : Int) := ⟨x.toNat, by omega⟩
    by_cases hgt : (s.size : Int) - m < y
    · have HV : Hid (takeS s a = ({ data := #[] }, -1)) := by show takeS s a = _; rw [takeS, hv]; simp only; rw [if_pos hgt]
      have q2 : decide ((s.size : Int) - (m : Int) < (y : Int)) = true := decide_eq_true hgt
      go_enter Try.func89, Try.ntmps89
      go_wp2_with fail
      refine (l12Vars_one s a w hs ha0 ha1).mono ?_
      rintro e w1 ⟨hb1, g, n, cap, hm⟩
      rw [hv] at hm
      obtain ⟨rfl, hc, hg⟩ := hm
      simp only at hc
      clear hv
      go_wp2
      go_ret2
      exact ⟨by show Ending.returned (.tuple #[.string { data := #[] }, .int .i64 (-1)]) = _; rw [HV.out], hb1⟩
    · have HV : Hid (takeS s a = (s.extract m (m + y), ((m + y : Nat) : Int))) := by
        show takeS s a = _
        rw [takeS, hv]
        simp only
        rw [if_neg hgt, Int.toNat_natCast, show ((m : Int) + (y : Int)).toNat = m + y from by omega]
        rfl
      have q2 : decide ((s.size : Int) - (m : Int) < (y : Int)) = false := decide_eq_false hgt
      have hmy : m + y ≤ s.size := by omega
      go_enter Try.func89, Try.ntmps89
      go_wp2_with fail
      refine (l12Vars_one s a w hs ha0 ha1).mono ?_
      rintro e w1 ⟨hb1, g, n, cap, hm⟩
      rw [hv] at hm
      obtain ⟨rfl, hc, hg⟩ := hm
      simp only at hc
      have C0 := hidU hc
      clear hv
      obtain ⟨z, hz⟩ : ∃ z : Nat, z = m + y := ⟨_, rfl⟩
      have ez : (m : Int) + (y : Int) = (z : Int) := by omega
      have HZ := hidU hz
      have hzs : z ≤ s.size := by omega
      have hmz : m ≤ z := by omega
      rw [← hz] at HV
      clear hz hmy hgt
      go_wp2
      have k0 := cell_regrown C0.out
      refine wp_region_quiet_below (by kernel_rfl) (by kernel_rfl) ?_
      repeat (go_big_quiet_step (fail))
      refine wpQuiet_nil ?_
      intro _ hw'
      obtain ⟨⟨dq, osq⟩, hw''⟩ := hw'
      subst hw''
      have hbE := hb1.trans ((below_regrown w1 dq osq).mono hb1.size)
      go_wp2
      go_ret2
      exact ⟨by show Ending.returned (.tuple #[.string (s.extract m z), .int .i64 (z : Int)]) = _; rw [HV.out], hbE⟩
end Go.Proofs.Ytdbpknmoacjodaa
