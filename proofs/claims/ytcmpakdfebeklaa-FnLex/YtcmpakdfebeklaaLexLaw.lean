/-
  What laws.begins and laws.FnLex answer: the walks.
-/
import Derived.Test.YtcmpakdfebeklaaDrawLex
import Derived.Test.YtcmpakdfebeklaaLexShift
import Derived.Test.YtcmpakdfebeklaaImplLex
import Derived.Test.YtcmpakdfebeklaaBig
namespace Go.Proofs.Ytcmpakdfebeklaa
open Go.RowKit Go.PlainAid Go.Sort

theorem begins_any (a s : ByteArray) (w : World) (_ : a.size ≤ 4294967296) (_ : s.size ≤ 4294967296) :
    Calls Try.prog 13 #[.string a, .string s] w fun e w' => e = .returned (.bool (beginB a s)) ∧ w' = w := by
  by_cases h : a.size ≤ s.size
  · have HV : Hid (beginB a s = ((s.extract 0 a.size).toList == a.toList)) := by show beginB a s = _; rw [beginB, decide_eq_true h, Bool.true_and]
    go_enter Try.func13, Try.ntmps13
    go_wp2
    go_ret
    exact ⟨ret_bool HV.out.symm, rfl⟩
  · have HV : Hid (beginB a s = false) := by show beginB a s = _; rw [beginB, decide_eq_false h, Bool.false_and]
    go_enter Try.func13, Try.ntmps13
    go_wp2
    go_ret
    exact ⟨ret_bool HV.out.symm, rfl⟩

theorem lexR_all {s : ByteArray} {scr : Bool} {ts : List Tk} (h : LexR s scr (.ok ts)) (j : Nat) (hj : j < ts.length) :
    (ts.getD j tkNo).pos < s.size ∧ (∀ i, j = i + 1 → (ts.getD i tkNo).pos < (ts.getD j tkNo).pos) ∧ (ts.getD j tkNo).text.size ≤ s.size
    ∧ ((ts.getD j tkNo).kind = 1 → beginB (ts.getD j tkNo).text (s.extract (ts.getD j tkNo).pos s.size) = true)
    ∧ ((ts.getD j tkNo).kind = 3 → beginB (({ data := #[34] } : ByteArray) ++ (ts.getD j tkNo).text ++ ({ data := #[34] } : ByteArray)) (s.extract (ts.getD j tkNo).pos s.size) = true) := by
  obtain ⟨a, _, hl⟩ := h
  obtain ⟨h1, h2⟩ := lx_all hl ts rfl
  have hat : ∀ i, i < ts.length → ts[i]? = some (ts.getD i tkNo) := fun i hi => by simp [List.getD, List.getElem?_eq_getElem hi]
  obtain ⟨_, k2, e, k3⟩ := h1 j _ (hat j hj)
  refine ⟨k2, fun i hi => h2 i _ _ (hat i (by omega)) (by rw [← hi]; exact hat j hj), ?_, fun hk => name_begins k3 hk, fun hk => str_begins k3 hk⟩
  generalize ts.getD j tkNo = t at k3
  generalize hp : t.pos = p at k3
  cases k3 using Tok.elim with
  | name h he => rw [ByteArray.size_extract]; omega
  | num h he => exact Nat.zero_le _
  | str h he => rw [ByteArray.size_extract]; omega
  | sign h => rw [ByteArray.size_extract]; omega

set_option maxRecDepth 100000 in
set_option maxHeartbeats 6400000 in
theorem fnLex_any (S : Src) (hS : S.ok) (w : World) (hc : CodeW S w) (hl : S.lim ≤ w.heap.size) :
    Calls Try.prog 4 #[.slice S.a S.len S.cap] w fun e w' => e = .returned (.bool true) ∧ Below w.heap.size w w' := by
  have hbig : decide ((1048576 : Int) < S.len) = false := decide_eq_false (by have := hS.1; omega)
  have hlen : S.len ≤ 9223372036854775807 := by have := hS.1; omega
  go_enter Try.func4, Try.ntmps4
  go_wp2_with fail
  refine (big_any _ _ _ _ hlen).mono ?_
  rintro e w' ⟨rfl, rfl⟩
  rw [hbig]
  go_wp2_with fail
  refine (drawLex_some S hS _ hc hl).mono ?_
  rintro e w1 ⟨s, scr, rfl, hs, b1⟩
  clear hbig hlen hc hl
  go_wp2_with fail
  refine (lex_impl s scr _ (by omega)).mono ?_
  rintro e w2 ⟨⟨r1, hr1, hout1⟩, b2⟩
  have B2 := b1.trans (b2.mono b1.size)
  cases r1 with
  | error p =>
    have HR : Hid (LexR s scr (.error p)) := hr1
    have hp := lexR_error hr1
    obtain rfl := hout1
    clear hr1
    go_wp2_with fail
    refine (lex_spec s scr _ (by omega)).mono ?_
    rintro e w3 ⟨⟨r2, hr2, hout2⟩, b3⟩
    obtain rfl := lexR_one hr2 HR.out
    obtain ⟨g0, cap0, rfl, _⟩ := hout2
    have B3 := B2.trans (b3.mono B2.size)
    clear hr2
    go_wp2
    go_ret
    exact ⟨rfl, B3⟩
  | ok ts =>
    have HR : Hid (LexR s scr (.ok ts)) := hr1
    obtain ⟨g1, n, cap1, rfl, own1⟩ := hout1
    clear hr1
    go_wp2_with fail
    refine (lex_spec s scr _ (by omega)).mono ?_
    rintro e w3 ⟨⟨r2, hr2, hout2⟩, b3⟩
    obtain rfl := lexR_one hr2 HR.out
    obtain ⟨g0, n0, cap0, rfl, own0⟩ := hout2
    have B3 := B2.trans (b3.mono B2.size)
    have own3 := ownT_later own1 b3
    have HN : Hid (n = ts.length) := own1.2
    have hn : n ≤ 4000 := by rw [own1.2]; exact lexR_len HR.out
    have sh3 := ownT_shows own3
    clear hr2 own0 own1
    go_wp2
    go_loopw [9] (fun i wr => ∃ k : Nat, k ≤ n ∧ i = .int .i64 k ∧ Below w3.heap.size w3 wr) (fun i _ => (n - intOf i).toNat)
    case atStart => exact ⟨0, Nat.zero_le _, rfl, Below.refl _ _⟩
    case round =>
      obtain ⟨k, hk, rfl, hb⟩ := hrel
      by_cases hlt : k < n
      · have hglt := sh3.lt (by omega)
        have c0 : wr.cell? _ = _ := (sh3.later hb).c0 k hlt
        have c1 : wr.cell? _ = _ := (sh3.later hb).c1 k hlt
        have c3 : wr.cell? _ = _ := (sh3.later hb).c3 k hlt
        have hglw : g1 < wr.heap.size := Nat.lt_of_lt_of_le hglt hb.size
        obtain ⟨a1, a2, a3, a4, a5⟩ := lexR_all HR.out k (by rw [← HN.out]; exact hlt)
        have HP : Hid (∀ i, k = i + 1 → (ts.getD i tkNo).pos < (ts.getD k tkNo).pos) := a2
        clear a2
        generalize ts.getD k tkNo = t at a1 a3 a4 a5 HP c0 c1 c3
        obtain ⟨kd, tx, nm, ps⟩ := t
        simp only at a1 a3 a4 a5 HP c0 c1 c3
        have HA4 : Hid (kd = 1 → beginB tx (s.extract ps s.size) = true) := a4
        have HA5 : Hid (kd = 3 → beginB (({ data := #[34] } : ByteArray) ++ tx ++ ({ data := #[34] } : ByteArray)) (s.extract ps s.size) = true) := a5
        clear a4 a5
        have q1 : decide ((ps : Int) < 0) = false := decide_eq_false (by omega)
        have q2 : decide (s.size ≤ ps) = false := decide_eq_false (by omega)
        have hps : ps ≤ s.size := by omega
        have hsp : (s.extract ps s.size).size ≤ 4294967296 := by rw [ByteArray.size_extract]; omega
        by_cases hk0 : k = 0
        · have q3 : decide (0 < k) = false := decide_eq_false (by omega)
          have q3' : decide ((0 : Int) < (k : Int)) = false := decide_eq_false (by omega)
          clear hk0 HP
          go_wp2_with fail
          have k0 := cell_regrown c3
          refine wp_region_quiet_below (by kernel_rfl) (by kernel_rfl) ?_
          repeat (go_big_quiet_step (fail))
          refine wpQuiet_nil ?_
          intro _ hw'
          obtain ⟨⟨dq, osq⟩, hw''⟩ := hw'
          subst hw''
          have hb2 := below_regrown wr dq osq
          clear k0
          go_wp2_with fail
          have d0 := (hb2.cell hglw).trans c0
          have d1 := (hb2.cell hglw).trans c1
          have d3 := (hb2.cell hglw).trans c3
          have hb3 := hb.trans (hb2.mono hb.size)
          generalize grow (redrawn wr dq) osq = W at hb2 hb3 d0 d1 d3 ⊢
          clear hb2 c0 c1 c3 hb dq osq
          by_cases e1 : kd = 1
          · subst e1
            have hbg := HA4.out rfl
            have cQ : ∀ d os, Calls Try.prog 13 #[.string tx, .string (s.extract ps s.size)] (grow (redrawn W d) os) fun e w'' => e = .returned (.bool true) ∧ ∃ p : Regrown, w'' = grow (redrawn W p.d) p.os :=
              fun d os => Calls.regrown_of ((begins_any _ _ _ (by omega) hsp).mono fun e w' ⟨h1, h2⟩ => ⟨by rw [h1, hbg], by rw [h2]; exact Below.refl _ _⟩)
            have k0 := cell_regrown d0
            have k1 := cell_regrown d1
            have k2 := cell_regrown d3
            refine wp_region_quiet_below (by kernel_rfl) (by kernel_rfl) ?_
            repeat (go_big_quiet_step (exact cQ _ _))
            refine wpQuiet_nil ?_
            intro _ hw'
            obtain ⟨⟨dq, osq⟩, hw''⟩ := hw'
            subst hw''
            have hb4 := below_regrown W dq osq
            clear k0 k1 k2
            have hb5 := hb3.trans (hb4.mono hb3.size)
            go_wp2
            go_roundw
            case rel => exact ⟨k + 1, by omega, by go_num, hb5⟩
            case measure => simp [intOf]; omega
          · have e1' : (kd == 1) = false := beq_eq_false_iff_ne.2 e1
            clear e1
            by_cases e3 : kd = 3
            · subst e3
              have hbg := HA5.out rfl
              have hz : (({ data := #[34] } : ByteArray) ++ tx ++ ({ data := #[34] } : ByteArray)).size ≤ 4294967296 := by rw [ByteArray.size_append, ByteArray.size_append]; have : ({ data := #[34] } : ByteArray).size = 1 := rfl; omega
              have cQ : ∀ d os, Calls Try.prog 13 #[.string (({ data := #[34] } : ByteArray) ++ tx ++ ({ data := #[34] } : ByteArray)), .string (s.extract ps s.size)] (grow (redrawn W d) os) fun e w'' => e = .returned (.bool true) ∧ ∃ p : Regrown, w'' = grow (redrawn W p.d) p.os :=
                fun d os => Calls.regrown_of ((begins_any _ _ _ hz hsp).mono fun e w' ⟨h1, h2⟩ => ⟨by rw [h1, hbg], by rw [h2]; exact Below.refl _ _⟩)
              have k0 := cell_regrown d0
              have k1 := cell_regrown d1
              have k2 := cell_regrown d3
              refine wp_region_quiet_below (by kernel_rfl) (by kernel_rfl) ?_
              repeat (go_big_quiet_step (exact cQ _ _))
              refine wpQuiet_nil ?_
              intro _ hw'
              obtain ⟨⟨dq, osq⟩, hw''⟩ := hw'
              subst hw''
              have hb4 := below_regrown W dq osq
              clear k0 k1 k2
              have hb5 := hb3.trans (hb4.mono hb3.size)
              go_wp2
              go_roundw
              case rel => exact ⟨k + 1, by omega, by go_num, hb5⟩
              case measure => simp [intOf]; omega
            · have e3' : (kd == 3) = false := beq_eq_false_iff_ne.2 e3
              clear e3
              have k0 := cell_regrown d0
              have k1 := cell_regrown d1
              have k2 := cell_regrown d3
              refine wp_region_quiet_below (by kernel_rfl) (by kernel_rfl) ?_
              repeat (go_big_quiet_step (fail))
              refine wpQuiet_nil ?_
              intro _ hw'
              obtain ⟨⟨dq, osq⟩, hw''⟩ := hw'
              subst hw''
              have hb4 := below_regrown W dq osq
              clear k0 k1 k2
              have hb5 := hb3.trans (hb4.mono hb3.size)
              go_wp2
              go_roundw
              case rel => exact ⟨k + 1, by omega, by go_num, hb5⟩
              case measure => simp [intOf]; omega
        · obtain ⟨m, hm⟩ : ∃ m, k = m + 1 := ⟨k - 1, by omega⟩
          have p3 : wr.cell? _ = _ := (sh3.later hb).c3 m (by omega)
          have q3 : decide (0 < k) = true := decide_eq_true (by omega)
          have q3' : decide ((0 : Int) < (k : Int)) = true := decide_eq_true (by omega)
          have hlp := HP.out m hm
          generalize (ts.getD m tkNo).pos = pp at hlp p3
          have q4 : decide (ps ≤ pp) = false := decide_eq_false (by omega)
          have em : (k : Int) - 1 = (m : Int) := by omega
          have hmn : m < n := by omega
          clear hk0 HP hlp hm
          go_wp2_with fail
          have k0 := cell_regrown c3
          have k1 := cell_regrown p3
          refine wp_region_quiet_below (by kernel_rfl) (by kernel_rfl) ?_
          repeat (go_big_quiet_step (fail))
          refine wpQuiet_nil ?_
          intro _ hw'
          obtain ⟨⟨dq, osq⟩, hw''⟩ := hw'
          subst hw''
          have hb2 := below_regrown wr dq osq
          clear k0 k1
          go_wp2_with fail
          have d0 := (hb2.cell hglw).trans c0
          have d1 := (hb2.cell hglw).trans c1
          have d3 := (hb2.cell hglw).trans c3
          have hb3 := hb.trans (hb2.mono hb.size)
          generalize grow (redrawn wr dq) osq = W at hb2 hb3 d0 d1 d3 ⊢
          clear hb2 c0 c1 c3 hb dq osq
          by_cases e1 : kd = 1
          · subst e1
            have hbg := HA4.out rfl
            have cQ : ∀ d os, Calls Try.prog 13 #[.string tx, .string (s.extract ps s.size)] (grow (redrawn W d) os) fun e w'' => e = .returned (.bool true) ∧ ∃ p : Regrown, w'' = grow (redrawn W p.d) p.os :=
              fun d os => Calls.regrown_of ((begins_any _ _ _ (by omega) hsp).mono fun e w' ⟨h1, h2⟩ => ⟨by rw [h1, hbg], by rw [h2]; exact Below.refl _ _⟩)
            have k0 := cell_regrown d0
            have k1 := cell_regrown d1
            have k2 := cell_regrown d3
            refine wp_region_quiet_below (by kernel_rfl) (by kernel_rfl) ?_
            repeat (go_big_quiet_step (exact cQ _ _))
            refine wpQuiet_nil ?_
            intro _ hw'
            obtain ⟨⟨dq, osq⟩, hw''⟩ := hw'
            subst hw''
            have hb4 := below_regrown W dq osq
            clear k0 k1 k2
            have hb5 := hb3.trans (hb4.mono hb3.size)
            go_wp2
            go_roundw
            case rel => exact ⟨k + 1, by omega, by go_num, hb5⟩
            case measure => simp [intOf]; omega
          · have e1' : (kd == 1) = false := beq_eq_false_iff_ne.2 e1
            clear e1
            by_cases e3 : kd = 3
            · subst e3
              have hbg := HA5.out rfl
              have hz : (({ data := #[34] } : ByteArray) ++ tx ++ ({ data := #[34] } : ByteArray)).size ≤ 4294967296 := by rw [ByteArray.size_append, ByteArray.size_append]; have : ({ data := #[34] } : ByteArray).size = 1 := rfl; omega
              have cQ : ∀ d os, Calls Try.prog 13 #[.string (({ data := #[34] } : ByteArray) ++ tx ++ ({ data := #[34] } : ByteArray)), .string (s.extract ps s.size)] (grow (redrawn W d) os) fun e w'' => e = .returned (.bool true) ∧ ∃ p : Regrown, w'' = grow (redrawn W p.d) p.os :=
                fun d os => Calls.regrown_of ((begins_any _ _ _ hz hsp).mono fun e w' ⟨h1, h2⟩ => ⟨by rw [h1, hbg], by rw [h2]; exact Below.refl _ _⟩)
              have k0 := cell_regrown d0
              have k1 := cell_regrown d1
              have k2 := cell_regrown d3
              refine wp_region_quiet_below (by kernel_rfl) (by kernel_rfl) ?_
              repeat (go_big_quiet_step (exact cQ _ _))
              refine wpQuiet_nil ?_
              intro _ hw'
              obtain ⟨⟨dq, osq⟩, hw''⟩ := hw'
              subst hw''
              have hb4 := below_regrown W dq osq
              clear k0 k1 k2
              have hb5 := hb3.trans (hb4.mono hb3.size)
              go_wp2
              go_roundw
              case rel => exact ⟨k + 1, by omega, by go_num, hb5⟩
              case measure => simp [intOf]; omega
            · have e3' : (kd == 3) = false := beq_eq_false_iff_ne.2 e3
              clear e3
              have k0 := cell_regrown d0
              have k1 := cell_regrown d1
              have k2 := cell_regrown d3
              refine wp_region_quiet_below (by kernel_rfl) (by kernel_rfl) ?_
              repeat (go_big_quiet_step (fail))
              refine wpQuiet_nil ?_
              intro _ hw'
              obtain ⟨⟨dq, osq⟩, hw''⟩ := hw'
              subst hw''
              have hb4 := below_regrown W dq osq
              clear k0 k1 k2
              have hb5 := hb3.trans (hb4.mono hb3.size)
              go_wp2
              go_roundw
              case rel => exact ⟨k + 1, by omega, by go_num, hb5⟩
              case measure => simp [intOf]; omega
      · have own4 := ownT_later own3 hb
        have HW : Hid (LexR (wrapS s) scr (.ok (ts.map shiftT))) := lexR_wrap HR.out
        have hws : (wrapS s).size ≤ 4294967296 := by rw [wrap_size]; omega
        have hz1 : (({ data := #[32, 10] } : ByteArray) ++ s).size = s.size + 2 := by rw [ByteArray.size_append]; have : ({ data := #[32, 10] } : ByteArray).size = 2 := rfl; omega
        have hz2 : (({ data := #[32, 10] } : ByteArray) ++ s ++ ({ data := #[32, 10, 47, 47, 32, 101, 110, 100] } : ByteArray)).size = s.size + 10 := wrap_size s
        go_wp2_with fail
        refine (lex_impl (wrapS s) scr _ hws).mono ?_
        rintro e w5 ⟨⟨r5, hr5, hout5⟩, b5⟩
        obtain rfl := lexR_one hr5 HW.out
        obtain ⟨g5, n5, cap5, rfl, own5⟩ := hout5
        obtain rfl : n5 = n := by rw [own5.2, List.length_map]; exact HN.out.symm
        have B5 := (B3.trans (hb.mono B3.size)).trans (b5.mono (B3.trans (hb.mono B3.size)).size)
        have own6 := ownT_later own4 b5
        have shA := ownT_shows own6
        have shB := ownT_shows own5
        clear hr5 own3 own4 own5 own6 hb sh3
        go_wp2
        go_loopw [12] (fun i wr => ∃ k : Nat, k ≤ n5 ∧ i = .int .i64 k ∧ Below w5.heap.size w5 wr) (fun i _ => (n5 - intOf i).toNat)
        case atStart => exact ⟨0, Nat.zero_le _, rfl, Below.refl _ _⟩
        case round =>
          obtain ⟨k, hk, rfl, hb⟩ := hrel
          by_cases hlt : k < n5
          · have c0 : wr.cell? _ = _ := (shA.later hb).c0 k hlt
            have c1 : wr.cell? _ = _ := (shA.later hb).c1 k hlt
            have c2 : wr.cell? _ = _ := (shA.later hb).c2 k hlt
            have c3 : wr.cell? _ = _ := (shA.later hb).c3 k hlt
            have d0 : wr.cell? _ = _ := (shB.later hb).c0 k hlt
            have d1 : wr.cell? _ = _ := (shB.later hb).c1 k hlt
            have d2 : wr.cell? _ = _ := (shB.later hb).c2 k hlt
            have d3 : wr.cell? _ = _ := (shB.later hb).c3 k hlt
            have hm : (ts.map shiftT).getD k tkNo = shiftT (ts.getD k tkNo) := by simp [List.getD, List.getElem?_eq_getElem (show k < ts.length by rw [← HN.out]; exact hlt)]
            simp only [hm] at d0 d1 d2 d3
            obtain ⟨a1, _⟩ := lexR_all HR.out k (by rw [← HN.out]; exact hlt)
            generalize ts.getD k tkNo = t at a1 c0 c1 c2 c3 d0 d1 d2 d3
            obtain ⟨kd, tx, nm, ps⟩ := t
            simp only [shiftT] at a1 c0 c1 c2 c3 d0 d1 d2 d3
            rw [show ((ps + 2 : Nat) : Int) = (ps : Int) + 2 from by omega] at d3
            have hps : ps ≤ 3000 := by omega
            clear hm
            go_wp2_with fail
            have k0 := cell_regrown c0
            have k1 := cell_regrown c1
            have k2 := cell_regrown c2
            have k3 := cell_regrown c3
            have k4 := cell_regrown d0
            have k5 := cell_regrown d1
            have k6 := cell_regrown d2
            have k7 := cell_regrown d3
            refine wp_region_quiet_below (by kernel_rfl) (by kernel_rfl) ?_
            repeat (go_big_quiet_step (fail))
            refine wpQuiet_nil ?_
            intro _ hw'
            obtain ⟨⟨dq, osq⟩, hw''⟩ := hw'
            subst hw''
            have hb2 := below_regrown wr dq osq
            clear k0 k1 k2 k3 k4 k5 k6 k7
            have hb3 := hb.trans (hb2.mono hb.size)
            go_wp2
            go_roundw
            case rel => exact ⟨k + 1, by omega, by go_num, hb3⟩
            case measure => simp [intOf]; omega
          · have B6 := B5.trans (hb.mono B5.size)
            go_wp2
            go_ret
            exact ⟨rfl, B6⟩
end Go.Proofs.Ytcmpakdfebeklaa
