/-
  What impl's Rule.isFor, Rule.put, ruleFor and MapSpec answer, the model's != of rules handed in: the walks.
-/
import Derived.Test.YtllhnofobkgjgaaMapLast
import Derived.Test.YtllhnofobkgjgaaImplRules
import Derived.Test.YtllhnofobkgjgaaSpecMap
import Derived.Test.YtllhnofobkgjgaaShelf
namespace Go.Proofs.Ytllhnofobkgjgaa
open Go.RowKit Go.PlainAid Go.Sort

theorem begM (s p : ByteArray) : Lib.hasPrefix s.data.toList p.data.toList = begB p s := (Lib.hasPrefix_raw s p).symm
set_option maxHeartbeats 1600000 in
theorem isFor_any (p t s : ByteArray) (w : World) (h0 : 0 < p.size) (hp : p.size ≤ 1048576) :
    Calls Try.prog 22 #[.agg #[.string p, .string t], .string s] w fun e w' => e = .returned (.bool (hitB p s)) ∧ Below w.heap.size w w' := by
  have HB : Hid (Below w.heap.size w (w.alloc (.cells #[.string p, .string t] 34))) := (Below.refl _ _).alloc (Nat.le_refl _) _
  have H1 : Hid (Lib.hasSuffix p.data.toList [47] = (bt p (p.size - 1) == 47)) := last_byte h0
  have H2 : Hid (Lib.hasPrefix s.data.toList p.data.toList = begB p s) := begM s p
  have HV : Hid (hitB p s = ((p.toList == s.toList) || ((bt p (p.size - 1) == 47) && begB p s))) := rfl
  clear h0
  generalize hitB p s = v at HV
  generalize (bt p (p.size - 1) == 47) = b1 at HV H1
  generalize begB p s = b2 at HV H2
  cases e1 : (p.toList == s.toList) with
  | true =>
    rw [e1] at HV
    go_enter Try.func22, Try.ntmps22
    go_wp2
    go_ret
    exact ⟨ret_bool HV.out.symm, HB.out⟩
  | false =>
    rw [e1] at HV
    go_enter Try.func22, Try.ntmps22
    go_wp2_with fail
    refine (Try.strings_HasSuffix _ _ _ (by omega)).mono ?_
    rintro e w' ⟨rfl, rfl⟩
    rw [H1.out]
    cases b1 with
    | false =>
      go_wp2
      go_ret
      exact ⟨ret_bool HV.out.symm, HB.out⟩
    | true =>
      go_wp2_with fail
      refine (Try.strings_HasPrefix _ _ _).mono ?_
      rintro e w' ⟨rfl, rfl⟩
      rw [H2.out]
      go_wp2
      go_ret
      exact ⟨ret_bool HV.out.symm, HB.out⟩
set_option maxHeartbeats 1600000 in
theorem put_any (p t s : ByteArray) (w : World) (h : p.size ≤ s.size) (hs : s.size ≤ 1048576) (ht : t.size ≤ 1048576) :
    Calls Try.prog 19 #[.agg #[.string p, .string t], .string s] w fun e w' => e = .returned (.string (t ++ s.extract p.size s.size)) ∧ Below w.heap.size w w' := by
  have HB : Hid (Below w.heap.size w (w.alloc (.cells #[.string p, .string t] 34))) := (Below.refl _ _).alloc (Nat.le_refl _) _
  go_enter Try.func19, Try.ntmps19
  go_wp2
  go_quiet (fail)
  go_wp2
  go_ret
  exact ⟨rfl, below_redrawn HB.out⟩
theorem qcellR {w : World} {b i : Nat} {cs : Array Value} {u : Value} {t : TypeId} (h : w.heap[b]? = some (.cells cs t (0, 0))) : (w.setCell ⟨b, i, none⟩ u).heap[b]? = some (.cells (cs.setIfInBounds i u) t (0, 0)) := by
  simp only [World.setCell, Array.getElem?_modify]
  rw [if_pos trivial, h]
  rfl
theorem put2R {w : World} {b : Nat} {v0 v1 x0 x1 : Value} {t : TypeId} (h : w.heap[b]? = some (.cells #[v0, v1] t (0, 0))) : ((w.setCell ⟨b, 0, none⟩ x0).setCell ⟨b, 1, none⟩ x1).heap[b]? = some (.cells #[x0, x1] t (0, 0)) := by
  have e := qcellR (i := 1) (u := x1) (qcellR (i := 0) (u := x0) h)
  rw [e]
  simp
theorem potherR {w : World} {b c i : Nat} {u : Value} (h : b ≠ c) : (w.setCell ⟨c, i, none⟩ u).heap[b]? = w.heap[b]? := Below.heap_setCell w ⟨c, i, none⟩ u b h
theorem rule_cells {w : World} {b : Nat} {e : TypeId} {v0 v1 : Value} (h : w.heap[b]? = some (.cells #[v0, v1] e (0, 0))) : w.cell? ⟨b, 0, none⟩ = some v0 ∧ w.cell? ⟨b, 1, none⟩ = some v1 := by
  constructor <;> simp [World.cell?, h]
theorem rule_free {w : World} {b : Nat} {e : TypeId} {v0 v1 : Value} (h : w.heap[b]? = some (.cells #[v0, v1] e (0, 0))) : w.cell? ⟨b, 0, none⟩ = some v0 ∧ w.cell? ⟨b, 1, none⟩ = some v1 ∧ w.frozen? ⟨b, 0, none⟩ = false ∧ w.frozen? ⟨b, 1, none⟩ = false := by
  refine ⟨?_, ?_, ?_, ?_⟩ <;> simp [World.cell?, World.frozen?, h]
theorem rule_later {w W : World} {gx : Nat} {o : Obj} (h : w.heap[gx]? = some o) (hb : Below w.heap.size w W) : W.heap[gx]? = some o := (hb.block gx (Array.getElem?_eq_some_iff.1 h).1).trans h
def ruleF (len : Nat) (Pt Tx : Nat → ByteArray) (s : ByteArray) : ByteArray × ByteArray := match rulesB len Pt Tx with
  | true => ruleAt Pt Tx (bestTo Pt s len)
  | false => ruleAt Pt Tx none
set_option maxRecDepth 100000 in
set_option maxHeartbeats 1600000 in
theorem ruleFor_any (a : Option Addr) (g len cap : Nat) (Pt Tx : Nat → ByteArray) (s : ByteArray) (w : World) (hf : FilesAt w a g 0 len Pt Tx) (hl : len ≤ 1048576) (hp : ∀ j, j < len → (Pt j).size ≤ 1048576) (ht : ∀ j, j < len → (Tx j).size ≤ 1048576) :
    Calls Try.prog 18 #[.slice a len cap, .string s] w fun e w' => e = .returned (.agg #[.string (ruleF len Pt Tx s).1, .string (ruleF len Pt Tx s).2]) ∧ Below w.heap.size w w' := by
  obtain ⟨W, hW⟩ : ∃ W, W = (w.alloc (.cells #[.string { data := #[] }, .string { data := #[] }] 34)).alloc (.cells #[.string { data := #[] }, .string { data := #[] }] 34) := ⟨_, rfl⟩
  have HW := hidU hW
  have e1 : (w.alloc (.cells #[.string { data := #[] }, .string { data := #[] }] 34)).heap.size = w.heap.size + 1 := by show (w.heap.push _).size = _; simp
  have B0 : Hid (Below w.heap.size w W) := by
    show Below _ _ _
    rw [hW]
    exact ((Below.refl _ _).alloc (Nat.le_refl _) _).alloc (by rw [e1]; omega) _
  have G4 : Hid (W.heap[w.heap.size]? = some (.cells #[.string { data := #[] }, .string { data := #[] }] 34 (0, 0))) := by
    show _ = _
    rw [hW, heap_alloc_old _ _ (by rw [e1]; omega)]
    exact heap_alloc_new w _
  have G5 : Hid (W.heap[w.heap.size + 1]? = some (.cells #[.string { data := #[] }, .string { data := #[] }] 34 (0, 0))) := by
    show _ = _
    rw [hW]
    exact heap_alloc2_new w _ _
  clear hW
  have HF := hidU hf
  have HP := hidU hp
  have HT := hidU ht
  clear hf hp ht
  go_enter Try.func18, Try.ntmps18
  go_wp2_with fail
  rw [← HW.out]
  clear e1
  refine (rulesOk_implA a g len cap Pt Tx _ (HF.out.later B0.out) hl HP.out HT.out).mono ?_
  rintro e w1 ⟨rfl, hb1⟩
  have B1 := hidU (B0.out.trans (hb1.mono B0.out.size))
  have X4 := hidU (rule_later G4.out hb1)
  have X5 := hidU (rule_later G5.out hb1)
  clear hb1 G4 G5 B0 HW
  cases hrb : rulesB len Pt Tx with
  | false =>
    have HV : Hid (ruleF len Pt Tx s = ({ data := #[] }, { data := #[] })) := by show _ = _; rw [ruleF, hrb]; rfl
    obtain ⟨c0, c1⟩ := rule_cells X5.out
    obtain ⟨d0, d1, z0, z1⟩ := rule_free X4.out
    go_wp2
    refine bodyPost_ret (results_cell_row rfl _ _ w.heap.size 34 _ (0, 0) _ rfl (put2R X4.out) Try.underlying34 rfl (by kernel_rfl)) rfl ?_
    exact ⟨by rw [HV.out], (B1.out.setCell (Nat.le_refl _) _).setCell (Nat.le_refl _) _⟩
  | true =>
    have HV : Hid (ruleF len Pt Tx s = ruleAt Pt Tx (bestTo Pt s len)) := by show _ = _; rw [ruleF, hrb]
    have HR := hidU hrb
    clear hrb
    go_wp2
    go_loopw [15, 7] (fun i _ wr => ∃ k : Nat, k ≤ len ∧ i = .int .i64 k ∧ Hid (wr.heap[w.heap.size]? = some (.cells #[.string { data := #[] }, .string { data := #[] }] 34 (0, 0))) ∧ Hid (wr.heap[w.heap.size + 1]? = some (.cells #[.string (ruleAt Pt Tx (bestTo Pt s k)).1, .string (ruleAt Pt Tx (bestTo Pt s k)).2] 34 (0, 0))) ∧ Hid (Below w.heap.size w wr)) (fun i _ _ => (len - intOf i).toNat)
    case atStart => exact ⟨0, Nat.zero_le _, rfl, X4, X5, B1⟩
    case round =>
      obtain ⟨k, hk, rfl, Y4, Y5, B⟩ := hrel
      clear X4 X5 B1
      by_cases hlt : k < len
      · obtain rfl := HF.out.addr (by omega)
        have hf' := HF.out.later B.out
        have c0 := hf'.path k hlt
        have c1 := hf'.text k hlt
        rw [Nat.zero_add] at c0 c1
        have hpk := HP.out k hlt
        clear hf'
        go_wp2_with fail
        refine (isFor_any _ _ _ _ (rule_long HR.out hlt) hpk).mono ?_
        rintro e w2 ⟨rfl, hb2⟩
        obtain ⟨b0, b1, hb3⟩ := box_cells hb2
        have B2 := hidU (B.out.trans (hb3.mono B.out.size))
        have Z4 := hidU (rule_later Y4.out hb3)
        have Z5 := hidU (rule_later Y5.out hb3)
        clear hb2 hb3 Y4 Y5 c0 c1
        cases hh : hitB (Pt k) s with
        | true =>
          have HX : Hid (bestTo Pt s (k + 1) = some k) := best_last HR.out hlt hh
          obtain ⟨d0, d1, z0, z1⟩ := rule_free Z5.out
          go_wp2
          go_roundw
          case rel =>
            refine ⟨k + 1, hlt, by go_num, ?_, ?_, hidU ((B2.out.setCell (by show _ ≤ w.heap.size + 1; omega) _).setCell (by show _ ≤ w.heap.size + 1; omega) _)⟩
            · exact (potherR (by omega)).trans ((potherR (by omega)).trans Z4.out)
            · show _ = _
              rw [HX.out]
              exact put2R Z5.out
          case measure => simp [intOf]; omega
        | false =>
          have HX : Hid (bestTo Pt s (k + 1) = bestTo Pt s k) := bestTo_no hh
          go_wp2
          go_roundw
          case rel =>
            refine ⟨k + 1, hlt, by go_num, Z4, ?_, B2⟩
            show _ = _
            rw [HX.out]
            exact Z5.out
          case measure => simp [intOf]; omega
      · obtain rfl : k = len := by omega
        obtain ⟨c0, c1⟩ := rule_cells Y5.out
        obtain ⟨d0, d1, z0, z1⟩ := rule_free Y4.out
        go_wp2
        refine bodyPost_ret (results_cell_row rfl _ _ w.heap.size 34 _ (0, 0) _ rfl (put2R Y4.out) Try.underlying34 rfl (by kernel_rfl)) rfl ?_
        exact ⟨by rw [HV.out], (B.out.setCell (Nat.le_refl _) _).setCell (Nat.le_refl _) _⟩
theorem mapS_cases (len : Nat) (Pt Tx : Nat → ByteArray) (s : ByteArray) (ht : ∀ j, j < len → (Tx j).size ≤ 1048576) :
    (ruleF len Pt Tx s = ({ data := #[] }, { data := #[] }) ∧ mapS len Pt Tx s = s) ∨ ∃ p t, ruleF len Pt Tx s = (p, t) ∧ p.toList.isEmpty = false ∧ p.size ≤ s.size ∧ t.size ≤ 1048576 ∧ (40 < (t.size : Int) + s.size - p.size → mapS len Pt Tx s = s) ∧ (¬ 40 < (t.size : Int) + s.size - p.size → mapS len Pt Tx s = t ++ s.extract p.size s.size) := by
  cases hr : rulesB len Pt Tx with
  | false => exact .inl ⟨by rw [ruleF, hr]; rfl, mapS_no hr⟩
  | true =>
    cases hb : bestTo Pt s len with
    | none => exact .inl ⟨by rw [ruleF, hr, hb]; rfl, mapS_none hb⟩
    | some b =>
      obtain ⟨h1, h2⟩ := bestTo_is hb
      have h3 := ((rulesB_iff.1 hr).2 b h1).1
      rw [ruleB, Bool.and_eq_true, Bool.and_eq_true, Bool.not_eq_true'] at h3
      exact .inr ⟨Pt b, Tx b, by rw [ruleF, hr, hb]; rfl, h3.1.1, hit_size h2, ht b h1, fun h => mapS_far hb h, fun h => mapS_yes hr hb h⟩
def NeqR : Prop := ∀ (p t q u : ByteArray) (W : World), Sem.run Try.prog (binOp .neq 34 (.agg #[.string p, .string t]) (.agg #[.string q, .string u])) W = .ok (.bool (!((p.toList == q.toList) && (t.toList == u.toList)))) W
def GrdR : Prop := ∀ (op : BinOp) (a b : Operand) (p t q u : ByteArray) (W : World), Sem.run Try.prog (eqGuard op 34 a b (.agg #[.string p, .string t]) (.agg #[.string q, .string u])) W = .ok () W
theorem cloneM_any (s : ByteArray) (w : World) (h : s.size ≤ 281474976710656) :
    Calls Try.prog 20 #[.string s] w fun e w' => e = .returned (.string s) ∧ Below w.heap.size w w' := by
  go_enter Try.func20, Try.ntmps20
  go_wp2_with fail
  refine (Try.stringslite_Clone _ _ h).mono ?_
  rintro e w1 ⟨rfl, hb1⟩
  go_wp2
  go_ret
  exact ⟨rfl, hb1⟩
set_option maxRecDepth 100000 in
set_option maxHeartbeats 1600000 in
theorem mapSpec_with (hne : NeqR) (hgd : GrdR) (a : Option Addr) (g len cap : Nat) (Pt Tx : Nat → ByteArray) (s : ByteArray) (w : World) (hf : FilesAt w a g 0 len Pt Tx) (hl : len ≤ 1048576) (hp : ∀ j, j < len → (Pt j).size ≤ 1048576) (ht : ∀ j, j < len → (Tx j).size ≤ 1048576) (hs : s.size ≤ 1048576) :
    Calls Try.prog 11 #[.slice a len cap, .string s] w fun e w' => e = .returned (.string (mapS len Pt Tx s)) ∧ Below w.heap.size w w' := by
  unfold NeqR at hne
  unfold GrdR at hgd
  have C := mapS_cases len Pt Tx s ht
  have HF := hidU (ruleFor_any a g len cap Pt Tx s w hf hl hp ht)
  clear hf hp ht
  generalize mapS len Pt Tx s = v at C
  rcases C with ⟨e1, hv⟩ | ⟨p, t, e1, he, hps, hts, h1, h2⟩
  · have HV := hidU hv
    rw [e1] at HF
    clear e1 hv
    go_enter Try.func11, Try.ntmps11
    go_wp2_with fail
    refine HF.out.mono ?_
    rintro e w1 ⟨rfl, hb1⟩
    have hb2 := hb1.alloc hb1.size (.cells #[.string { data := #[] }, .string { data := #[] }] 34)
    go_wp2_with fail
    refine (cloneM_any _ _ (by omega)).mono ?_
    rintro e w2 ⟨rfl, hb3⟩
    go_wp2
    go_ret
    exact ⟨ret_str HV.out.symm, hb2.trans (hb3.mono hb2.size)⟩
  · rw [e1] at HF
    clear e1
    by_cases hfar : 40 < (t.size : Int) + s.size - p.size
    · have HV := hidU (h1 hfar)
      clear h1 h2
      go_enter Try.func11, Try.ntmps11
      go_wp2_with fail
      refine HF.out.mono ?_
      rintro e w1 ⟨rfl, hb1⟩
      have hb2 := hidU (hb1.alloc hb1.size (.cells #[.string p, .string t] 34))
      go_wp2_with fail
      refine (put_any _ _ _ _ hps (by omega) hts).mono ?_
      rintro e w2 ⟨rfl, hb3⟩
      have hb4 := hidU (hb2.out.trans (hb3.mono hb2.out.size))
      clear hb3
      obtain ⟨y, hy⟩ : ∃ y, t ++ s.extract p.size s.size = y := ⟨_, rfl⟩
      have hz : ¬ (y.size : Int) ≤ 40 := by rw [← hy, ByteArray.size_append, ByteArray.size_extract]; omega
      rw [hy]
      clear hy
      go_wp2_with fail
      refine (cloneM_any _ _ (by omega)).mono ?_
      rintro e w3 ⟨rfl, hb5⟩
      go_wp2
      go_ret
      exact ⟨ret_str HV.out.symm, hb4.out.trans (hb5.mono hb4.out.size)⟩
    · have HV := hidU (h2 hfar)
      clear h1 h2
      go_enter Try.func11, Try.ntmps11
      go_wp2_with fail
      refine HF.out.mono ?_
      rintro e w1 ⟨rfl, hb1⟩
      have hb2 := hidU (hb1.alloc hb1.size (.cells #[.string p, .string t] 34))
      go_wp2_with fail
      refine (put_any _ _ _ _ hps (by omega) hts).mono ?_
      rintro e w2 ⟨rfl, hb3⟩
      have hb4 := hidU (hb2.out.trans (hb3.mono hb2.out.size))
      clear hb3
      obtain ⟨y, hy⟩ : ∃ y, t ++ s.extract p.size s.size = y := ⟨_, rfl⟩
      have hz : (y.size : Int) ≤ 40 := by rw [← hy, ByteArray.size_append, ByteArray.size_extract]; omega
      rw [hy]
      have HY := hidU hy
      clear hy
      go_wp2_with fail
      refine (cloneM_any _ _ (by omega)).mono ?_
      rintro e w3 ⟨rfl, hb5⟩
      go_wp2
      go_ret
      exact ⟨ret_str (by rw [HV.out, HY.out]), hb4.out.trans (hb5.mono hb4.out.size)⟩
end Go.Proofs.Ytllhnofobkgjgaa
