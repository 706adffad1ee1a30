/-
  laws.FnProbe returns true where what impl.Candidates and impl.Probe answer is what it should: the walk.
-/
import Derived.Test.YtemfbibeoibpeaaClOutRowToBig
namespace Go.Proofs.Ytemfbibeoibpeaa
open Go.RowKit Go.PlainAid Go.Sort

set_option maxRecDepth 100000 in
theorem has_no (a : Option Addr) (g n cap : Nat) (X : Nat → ByteArray) (s : ByteArray) (w : World) (ht : TextsAt w a g n X) (hn : n ≤ 1048576) (hx : ∀ j, j < n → ((X j).toList == s.toList) = false) :
    Calls Try.prog 20 #[.slice a n cap, .string s] w fun e w' => e = .returned (.bool false) ∧ Below w.heap.size w w' := by
  have HX := hidU hx
  have HT := hidU ht
  clear hx ht
  go_enter Try.func20, Try.ntmps20
  go_wp2
  go_loop [5] (fun i => ∃ k : Nat, k ≤ n ∧ i = .int .i64 k) (fun i => (n - intOf i).toNat)
  case atStart => exact ⟨0, by omega, rfl⟩
  case round =>
    obtain ⟨k, hk, rfl⟩ := hrel
    by_cases hlt : k < n
    · obtain rfl := HT.out.addr (by omega)
      have hg := HT.out.lt (by omega)
      have c0 := HT.out.cell k hlt
      have hq := HX.out k hlt
      go_wp2
      go_round
      case rel => exact ⟨k + 1, by omega, by go_num⟩
      case measure => simp [intOf]; omega
    · go_wp2
      go_ret
      exact ⟨rfl, Below.refl _ _⟩
theorem path_slash {x : ByteArray} (h : pathB x = true) : x.toList.isEmpty = false ∧ 1 ≤ x.size ∧ bt x 0 = 47 := by
  have hP := pathB_iff.1 h
  refine ⟨?_, hP.1, hP.2.2.1⟩
  obtain ⟨⟨l⟩⟩ := x
  cases l with
  | nil => have := hP.1; simp [ByteArray.size] at this
  | cons a l => rw [Lib.toList_data]; rfl
theorem inT_none {l : List ByteArray} {x : ByteArray} {i j : Nat} {y : ByteArray} (h : inT (l.take j) x = false) (hi : i < j) (hy : l[i]? = some y) : (y.toList == x.toList) = false := by
  cases hq : y.toList == x.toList with
  | false => rfl
  | true =>
    have : inT (l.take j) x = true := inT_yes (by rw [List.getElem?_take_of_lt hi]; exact hy) hq
    rw [h] at this
    cases this
set_option maxRecDepth 100000 in
set_option maxHeartbeats 6400000 in
theorem fnProbe_any (S : Src) (hS : S.ok) (w : World) (hc : CodeW S w) (hl : S.lim ≤ w.heap.size)
    (hi : ∀ (f sp : ByteArray) (w : World), f.size ≤ 1048576 → sp.size ≤ 1048576 → Calls Try.prog 16 #[.string f, .string sp] w fun e w' => ∃ a n cap, e = .returned (.slice a n cap) ∧ OutS w' w.heap.size a n cap (candS f sp) ∧ Below w.heap.size w w')
    (hj : ∀ (g len cap : Nat) (Pt Tx : Nat → ByteArray) (f sp : ByteArray) (w : World), FilesAt w (some ⟨g, 0, none⟩) g 0 len Pt Tx → len ≤ 1048576 → (∀ j, j < len → (Pt j).size ≤ 1048576) → (∀ j, j < len → (Tx j).size ≤ 1048576) → f.size ≤ 1048576 → sp.size ≤ 1048576 →
      Calls Try.prog 17 #[.slice (some ⟨g, 0, none⟩) len cap, .string f, .string sp] w fun e w' => e = .returned (.tuple #[.string (probeS len Pt Tx f sp).1, .bool (probeS len Pt Tx f sp).2]) ∧ Below w.heap.size w w') :
    Calls Try.prog 4 #[.slice S.a S.len S.cap] w fun e w' => e = .returned (.bool true) ∧ Below w.heap.size w w' := by
  have hlen : S.len ≤ 1048576 := hS.1
  have hbig : decide ((1048576 : Int) < S.len) = false := by simp; omega
  have HI := hidU hi
  have HJ := hidU hj
  clear hi hj
  go_enter Try.func4, Try.ntmps4
  go_wp2_with fail
  refine (big_any _ _ _ _ (by omega)).mono ?_
  rintro e w' ⟨rfl, rfl⟩
  go_wp2_with fail
  refine (drawProbe_some S hS _ hc hl).mono ?_
  rintro e w1 ⟨g, len, cap, fs, f, sp, rfl, own1, hln, hfew, hfs, hsp, b1⟩
  have B1 := hidU b1
  have F1 := hidU (ownFl_files own1)
  have hlf := own1.2
  obtain ⟨Pt, hPt⟩ : ∃ Pt, Pt = ptOf fs := ⟨_, rfl⟩
  obtain ⟨Tx, hTx⟩ : ∃ Tx, Tx = txOf fs := ⟨_, rfl⟩
  have HP : Hid (∀ j, j < len → (Pt j).size ≤ 1048576) := fun j hj => by
    have h := hfew fs[j] (List.getElem_mem (by omega))
    rw [hPt, ptOf, List.getD_eq_getElem?_getD, List.getElem?_eq_getElem (by omega)]
    exact Nat.le_trans h.1 (by omega)
  have HT : Hid (∀ j, j < len → (Tx j).size ≤ 1048576) := fun j hj => by
    have h := hfew fs[j] (List.getElem_mem (by omega))
    rw [hTx, txOf, List.getD_eq_getElem?_getD, List.getElem?_eq_getElem (by omega)]
    exact Nat.le_trans h.2 (by omega)
  rw [← hPt, ← hTx] at F1
  clear b1 own1 hfew hlf hPt hTx
  go_wp2_with fail
  refine (HI.out f sp _ (by omega) (by omega)).mono ?_
  rintro e w2 ⟨a2, n, cap2, rfl, own2, b2⟩
  have O2 := hidU own2
  have F2 := hidU (F1.out.later b2)
  have B2 := hidU (B1.out.trans (b2.mono B1.out.size))
  have HN := hidU own2.1
  have hn : n ≤ 10000 := by rw [own2.1]; exact Nat.le_trans (candS_len f sp) (by omega)
  have HCAP : Hid (0 < n → n ≤ cap2 ∧ cap2 ≤ 9223372036854775807) := fun h0 => by
    obtain ⟨g', _, ho⟩ := own2.2 h0
    exact ⟨(ownS_cap ho).1, (ownS_cap ho).2.1⟩
  clear own2 b2 B1 F1
  obtain ⟨pr, hpr⟩ : ∃ pr, pr = probeS len Pt Tx f sp := ⟨_, rfl⟩
  have HPR := hidU hpr
  clear hpr
  go_wp2_with fail
  refine (HJ.out g len cap Pt Tx f sp _ F2.out (by omega) HP.out HT.out (by omega) (by omega)).mono ?_
  rw [← HPR.out]
  rintro e w3 ⟨rfl, b3⟩
  have O3 := hidU (O2.out.later b3)
  have F3 := hidU (F2.out.later b3)
  have B3 := hidU (B2.out.trans (b3.mono B2.out.size))
  clear b3 O2 F2 B2
  go_wp2_with fail
  refine (cand_spec f sp _ (by omega) (by omega)).mono ?_
  rintro e w4 ⟨g4, n4, cap4, rfl, own4, b4⟩
  have SH4 := hidU (ownS_texts own4)
  obtain rfl : n4 = n := by rw [own4.2, HN.out]
  obtain ⟨x4, t4⟩ := (O3.out.later b4).texts
  have T4 := hidU t4
  have F4 := hidU (F3.out.later b4)
  have B4 := hidU (B3.out.trans (b4.mono B3.out.size))
  clear own4 b4 O3 B3 F3 t4
  go_wp2_with fail
  refine (sameTexts_plain _ _ _ _ _ _ _ _ _ T4.out SH4.out (by omega)).mono ?_
  rintro e w5 ⟨rfl, b5⟩
  have T5 := hidU (T4.out.later b5)
  have F5 := hidU (F4.out.later b5)
  have B5 := hidU (B4.out.trans (b5.mono B4.out.size))
  clear b5 T4 B4 SH4 F4
  go_wp2
  go_loopg [9] n4 (fun k i wr => ∃ j : Nat, i = .int .i64 j ∧ j + k = n4 ∧ Below w5.heap.size w5 wr ∧ ∀ (i : Nat) (x : ByteArray), i < j → (candS f sp)[i]? = some x → (findS len Pt Tx x).2 = false)
  case atStart => exact ⟨0, rfl, by omega, Below.refl _ _, fun i x h => by omega⟩
  case round =>
    obtain ⟨j, rfl, hj, hb, hno⟩ := hrel
    have HB := hidU hb
    have HNO := hidU hno
    clear hb hno
    by_cases hlt : j < n4
    · have hlti : (j : Int) < (n4 : Int) := by omega
      obtain ⟨j1, hj1⟩ : ∃ j1, j1 = j + 1 := ⟨_, rfl⟩
      have ej : (j : Int) + 1 = (j1 : Int) := by omega
      have HJ1 := hidU hj1
      clear hj1
      have hjl : j < (candS f sp).length := by rw [← HN.out]; exact hlt
      obtain ⟨x, hxx⟩ : ∃ x, (candS f sp)[j]? = some x := ⟨_, List.getElem?_eq_getElem hjl⟩
      have HXX := hidU hxx
      obtain ⟨hpx, hin⟩ := candS_ok f sp j x hxx
      have HIN := hidU hin
      have e0 : (candS f sp).getD j { data := #[] } = x := by rw [List.getD_eq_getElem?_getD, hxx]; rfl
      obtain rfl := T5.out.addr (by omega)
      have T6 := hidU (T5.out.later HB.out)
      have C0 : wr.cell? ⟨x4, j, none⟩ = some (.string x) := by
        have e := T6.out.cell j hlt
        simp only [e0] at e
        exact e
      have hx4 := T6.out.lt (by omega)
      obtain ⟨hx0, hx1, hx47⟩ := path_slash hpx
      clear hxx hin hpx e0 hjl
      obtain ⟨ff, hff⟩ : ∃ ff, ff = findS len Pt Tx x := ⟨_, rfl⟩
      have HFF := hidU hff
      clear hff
      go_wp2_with fail
      refine (find_specC g len cap Pt Tx x _ (F5.out.later HB.out) (by omega) HP.out HT.out).mono ?_
      rw [← HFF.out]
      rintro e w6 ⟨rfl, b6⟩
      have T7 := hidU (T6.out.later b6)
      have B6 := hidU (HB.out.trans (b6.mono HB.out.size))
      clear b6 T6 HB C0 hx4
      have C1 : Hid (w6.cell? ⟨x4, j, none⟩ = some (.string x)) := by
        show _ = _
        have e := T7.out.cell j hlt
        have e0 : (candS f sp).getD j { data := #[] } = x := by rw [List.getD_eq_getElem?_getD, HXX.out]; rfl
        simp only [e0] at e
        exact e
      have hx6 := T7.out.lt (by omega)
      have hgb := get_bt x
      obtain ⟨hcp1, hcp2⟩ := HCAP.out (by omega)
      have hjc : (j : Int) ≤ (cap2 : Int) := by omega
      have q47 : (bt x 0 != 47) = false := by simp [hx47]
      have q47' : (bt x 0 == 47) = true := by simp [hx47]
      have HU : Hid (∀ i, i < j → (((candS f sp).getD i { data := #[] }).toList == x.toList) = false) := fun i hi => by
        have hil : i < (candS f sp).length := by have := HN.out; omega
        rw [List.getD_eq_getElem?_getD, List.getElem?_eq_getElem hil]
        exact inT_none HIN.out hi (List.getElem?_eq_getElem hil)
      have cH : ∀ d os, Calls Try.prog 20 #[.slice (some ⟨x4, 0, none⟩) j cap2, .string x] (grow (redrawn w6 d) os) fun e w'' => e = .returned (.bool false) ∧ ∃ p : Regrown, w'' = grow (redrawn w6 p.d) p.os :=
        fun d os => Calls.regrown_of (has_no _ x4 j cap2 _ x _ ⟨fun _ => rfl, fun _ => (T7.out.later (below_regrown w6 d os)).lt (by omega), fun i hi => (T7.out.later (below_regrown w6 d os)).cell i (by omega)⟩ (by omega) (fun i hi => HU.out i hi))
      clear hx47
      go_wp2
      have k0 := cell_regrown C1.out
      refine wp_region_quiet_below (by kernel_rfl) (by kernel_rfl) ?_
      repeat (go_big_quiet_step (first | with_reducible exact cH _ _))
      refine wpQuiet_nil ?_
      intro w7 hw'
      obtain ⟨⟨dq, osq⟩, hw''⟩ := hw'
      have hb7 : Below w6.heap.size w6 w7 := by rw [hw'']; exact below_regrown w6 dq osq
      have B7 := hidU (B6.out.trans (hb7.mono B6.out.size))
      have C7 : w7.cell? ⟨x4, j, none⟩ = some (.string x) := by rw [hb7.cell hx6]; exact C1.out
      have hx7 : x4 < w7.heap.size := Nat.lt_of_lt_of_le hx6 hb7.size
      clear hw'' k0 cH hb7
      cases hf2 : ff.2 with
      | true =>
        have HE : Hid (pr = (x, true)) := by
          show _ = _
          rw [HPR.out]
          exact probeL_at HNO.out HXX.out (by rw [← HFF.out]; exact hf2)
        have hsame : (x.toList == x.toList) = true := by simp
        rw [HE.out]
        go_wp2
        go_ret
        exact ⟨rfl, B5.out.trans (B7.out.mono B5.out.size)⟩
      | false =>
        go_wp2
        go_roundg (gk - 1)
        case rel =>
          refine ⟨j1, rfl, by have := HJ1.out; omega, B7.out, fun i y hi hy => ?_⟩
          have := HJ1.out
          rcases Nat.lt_or_ge i j with h | h
          · exact HNO.out i y h hy
          · obtain rfl : i = j := by omega
            rw [HXX.out] at hy
            obtain rfl := Option.some.inj hy
            rw [← HFF.out]
            exact hf2
        case measure => omega
    · have hlti : ¬ (j : Int) < (n4 : Int) := by omega
      have e : pr = ({ data := #[] }, false) := by
        rw [HPR.out]
        exact probeL_none fun i x hi hx => HNO.out i x (by have := HN.out; omega) hx
      subst e
      go_wp2
      go_ret
      exact ⟨rfl, B5.out.trans (HB.out.mono B5.out.size)⟩
end Go.Proofs.Ytemfbibeoibpeaa
