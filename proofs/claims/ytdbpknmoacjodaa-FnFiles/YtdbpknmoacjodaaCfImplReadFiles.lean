/-
  What impl.readPiece, impl.readFile and impl.ReadFiles answer: the walks.
-/
import Derived.Test.YtdbpknmoacjodaaCfImplFiles
import Derived.Test.YtdbpknmoacjodaaCfLawMarkPToLawStrP
namespace Go.Proofs.Ytdbpknmoacjodaa
open Go.RowKit Go.PlainAid Go.Sort

def rpO (s : ByteArray) : ByteArray × ByteArray × Bool := match rp s with
  | none => ({ data := #[] }, { data := #[] }, false)
  | some x => (x.1, x.2, true)
theorem ret_three {a b c d : ByteArray} {x y : Bool} (h : (a, b, x) = (c, d, y)) : Ending.returned (.tuple #[.string a, .string b, .bool x]) = .returned (.tuple #[.string c, .string d, .bool y]) := by cases h; rfl
set_option maxRecDepth 100000 in
set_option maxHeartbeats 1600000 in
theorem readPiece_any (s : ByteArray) (w : World) (hs : s.size ≤ 1048576) :
    Calls Try.prog 141 #[.string s] w fun e w' => e = .returned (.tuple #[.string (rpO s).1, .string (rpO s).2.1, .bool (rpO s).2.2]) ∧ Below w.heap.size w w' := by
  have hb := rvAns_bd s
  obtain ⟨u, hu⟩ : ∃ u : Nat, (rvAns s).2 = (u : Int) := ⟨(rvAns s).2.toNat, by omega⟩
  obtain ⟨n, hn⟩ : ∃ n : Nat, (rvAns s).1 = (n : Int) := ⟨(rvAns s).1.toNat, by omega⟩
  have hus : u ≤ s.size := by omega
  have hnb : n ≤ 562949953421311 := by omega
  have HA : Hid (rvAns s = ((n : Int), (u : Int))) := Prod.ext hn hu
  have hq : wrap64 ((s.size : Int) - (u : Int)) = (s.size : Int) - (u : Int) := by unfold wrap64; omega
  clear hb hu hn
  by_cases h0 : u = 0
  · subst h0
    have HV : Hid (rpO s = ({ data := #[] }, { data := #[] }, false)) := by
      show _ = _
      unfold rpO rp
      rw [HA.out, if_pos (.inl rfl)]
    go_enter Try.func141, Try.ntmps141
    go_wp2_with fail
    refine (readVar_impl s _ (by omega)).mono ?_
    rintro e w1 ⟨rfl, rfl⟩
    rw [HA.out]
    go_wp2
    go_ret3
    exact ⟨ret_three (by rw [HV.out]), Below.refl _ _⟩
  · by_cases hc : s.size < u + n
    · have HV : Hid (rpO s = ({ data := #[] }, { data := #[] }, false)) := by
        show _ = _
        unfold rpO rp
        rw [HA.out, if_pos (.inr (by simp only; omega))]
      have g0 : ((u : Int) == 0) = false := beq_eq_false_iff_ne.2 (by omega)
      have g1 : decide ((s.size : Int) - (u : Int) < (n : Int)) = true := decide_eq_true (by omega)
      go_enter Try.func141, Try.ntmps141
      go_wp2_with fail
      refine (readVar_impl s _ (by omega)).mono ?_
      rintro e w1 ⟨rfl, rfl⟩
      rw [HA.out]
      go_wp2
      go_ret3
      exact ⟨ret_three (by rw [HV.out]), Below.refl _ _⟩
    · have HV : Hid (rpO s = (s.extract u (u + n), s.extract (u + n) s.size, true)) := by
        show _ = _
        unfold rpO rp
        rw [HA.out, if_neg (by simp only; omega)]
        simp only
        rw [show ((u : Int) + (n : Int)).toNat = u + n from by omega, Int.toNat_natCast]
      have g0 : ((u : Int) == 0) = false := beq_eq_false_iff_ne.2 (by omega)
      have g1 : decide ((s.size : Int) - (u : Int) < (n : Int)) = false := decide_eq_false (by omega)
      obtain ⟨m, hm⟩ : ∃ m, m = u + n := ⟨_, rfl⟩
      have em : (u : Int) + (n : Int) = (m : Int) := by omega
      have hm1 : m ≤ s.size := by omega
      have hm2 : u ≤ m := by omega
      have hm3 : (m : Int) ≤ (s.size : Int) := by omega
      have hm4 : (u : Int) ≤ (m : Int) := by omega
      rw [← hm] at HV
      have hsz : (s.extract u m).size ≤ 281474976710656 := by rw [ByteArray.size_extract]; omega
      clear hm hc
      go_enter Try.func141, Try.ntmps141
      go_wp2_with fail
      refine (readVar_impl s _ (by omega)).mono ?_
      rintro e w1 ⟨rfl, rfl⟩
      rw [HA.out]
      have cC : ∀ d os, Calls Try.prog 92 #[.string (s.extract u m)] (grow (redrawn w1 d) os) fun e w'' => e = .returned (.string (s.extract u m)) ∧ ∃ p : Regrown, w'' = grow (redrawn w1 p.d) p.os := fun d os => Calls.regrown_of (clone_any _ _ hsz)
      go_wp2
      refine wp_region_quiet_below (by kernel_rfl) (by kernel_rfl) ?_
      repeat (go_big_quiet_step (with_reducible exact cC _ _))
      refine wpQuiet_nil ?_
      intro _ hw'
      obtain ⟨⟨dq, osq⟩, hw''⟩ := hw'
      subst hw''
      have B2 := hidU (below_regrown w1 dq osq)
      go_wp2
      go_ret3
      exact ⟨ret_three (by rw [HV.out]), B2.out⟩
theorem results_cell_tt0 {fn : Func} {p u v : Tmp} {ty : TypeId} (h : fn.results = #[.cell p ty, .tmp u, .tmp v]) (tmps : Array Value) (P : Program) (w : World) :
    (results fn tmps).run P w =
      ((asAddr (tmps.getD p undef)).run P w).andThen fun a w₁ => ((loadVar ty a).run P w₁).andThen fun x w₂ => .ok (.tuple #[x, tmps.getD u undef, tmps.getD v undef]) w₂ := by
  simp only [results, h]
  simp [Sem.run_bind, Result.andThen]
theorem results_cell_tt {P : Program} {fn : Func} {p u v : Tmp} {ty : TypeId} (h : fn.results = #[.cell p ty, .tmp u, .tmp v]) (tmps : Array Value) (w : World) (g : Nat) (t : TypeId) (cs : Array Value) (fr : Nat × Nat) (d : TypeDesc)
    (hp : tmps.getD p undef = .pointer (some ⟨g, 0, none⟩)) (hg : w.heap[g]? = some (.cells cs t fr))
    (hu : P.underlying ty = some d) (hd : (match d with | .struct _ | .array _ _ => true | _ => false) = true) (hi : (P.info? ty).map (·.size) = some cs.size) :
    (results fn tmps).run P w = .ok (.tuple #[.agg cs, tmps.getD u undef, tmps.getD v undef]) w := by
  rw [results_cell_tt0 h, hp]
  simp [asAddr, Result.andThen, run_loadVar_row w g t ty cs fr d hg hu hd hi]
theorem rpO_size (s : ByteArray) : (rpO s).1.size ≤ s.size ∧ (rpO s).2.1.size ≤ s.size := by
  unfold rpO
  cases h : rp s with
  | none => exact ⟨Nat.zero_le _, Nat.zero_le _⟩
  | some x => exact rp_size (t := x.1) (r := x.2) h
def rfO (s : ByteArray) : ByteArray × ByteArray × ByteArray × Bool := ((rpO s).1, rpO (rpO s).2.1)
theorem rfO_none {s : ByteArray} (h : rf s = none) : (rfO s).2.2.2 = false := by
  unfold rf at h
  unfold rfO
  cases h1 : rp s with
  | none =>
    have e : rpO s = ({ data := #[] }, { data := #[] }, false) := by unfold rpO; rw [h1]
    rw [e]
    show (rpO ({ data := #[] } : ByteArray)).2.2 = false
    unfold rpO
    rw [rp_none]
  | some x =>
    rw [h1] at h
    simp only at h
    have e : rpO s = (x.1, x.2, true) := by unfold rpO; rw [h1]
    rw [e]
    show (rpO x.2).2.2 = false
    cases h2 : rp x.2 with
    | none => unfold rpO; rw [h2]
    | some y =>
      rw [h2] at h
      cases h
theorem rfO_some {s r : ByteArray} {x : Fl} (h : rf s = some (x, r)) : rfO s = (x.1, x.2, r, true) := by
  unfold rf at h
  unfold rfO
  cases h1 : rp s with
  | none => rw [h1] at h; cases h
  | some y =>
    rw [h1] at h
    simp only at h
    have e : rpO s = (y.1, y.2, true) := by unfold rpO; rw [h1]
    rw [e]
    simp only
    cases h2 : rp y.2 with
    | none => rw [h2] at h; cases h
    | some z =>
      rw [h2] at h
      simp only [Option.some.injEq, Prod.mk.injEq] at h
      obtain ⟨rfl, rfl⟩ := h
      have e2 : rpO y.2 = (z.1, z.2, true) := by unfold rpO; rw [h2]
      rw [e2]
set_option maxRecDepth 100000 in
set_option maxHeartbeats 1600000 in
theorem readFile_any (s : ByteArray) (w : World) (hs : s.size ≤ 1048576) :
    Calls Try.prog 77 #[.string s] w fun e w' => e = .returned (.tuple #[.agg #[.string (rfO s).1, .string (rfO s).2.1], .string (rfO s).2.2.1, .bool (rfO s).2.2.2]) ∧ Below w.heap.size w w' := by
  have X0 : Hid ((w.alloc (.cells #[.string { data := #[] }, .string { data := #[] }] 52)).heap[w.heap.size]? = some (.cells #[.string { data := #[] }, .string { data := #[] }] 52 (0, 0))) := heap_alloc_new w _
  have A0 : Hid (Below w.heap.size w (w.alloc (.cells #[.string { data := #[] }, .string { data := #[] }] 52))) := (Below.refl _ _).alloc (Nat.le_refl _) _
  have hz := (rpO_size s).2
  have HR : Hid (rfO s = ((rpO s).1, rpO (rpO s).2.1)) := rfl
  obtain ⟨p, r, o, hpr⟩ : ∃ p r o, rpO s = (p, r, o) := ⟨_, _, _, rfl⟩
  have HP := hidU hpr
  rw [hpr] at hz
  simp only at hz
  obtain ⟨t, r2, o2, hpr2⟩ : ∃ t r2 o2, rpO r = (t, r2, o2) := ⟨_, _, _, rfl⟩
  have HP2 := hidU hpr2
  have HV : Hid (rfO s = (p, t, r2, o2)) := by show _ = _; rw [HR.out, hpr]; simp only; rw [hpr2]
  clear hpr hpr2 HR
  go_enter Try.func77, Try.ntmps77
  go_wp2_with fail
  refine (readPiece_any s _ hs).mono ?_
  rintro e w1 ⟨rfl, hb1⟩
  rw [HP.out]
  have B1 := hidU (A0.out.trans (hb1.mono A0.out.size))
  have X1 : Hid (w1.heap[w.heap.size]? = some (.cells #[.string { data := #[] }, .string { data := #[] }] 52 (0, 0))) := (hb1.block _ (Array.getElem?_eq_some_iff.1 X0.out).1).trans X0.out
  clear hb1 X0 A0
  go_wp2_with fail
  refine (readPiece_any r _ (by omega)).mono ?_
  rintro e w2 ⟨rfl, hb2⟩
  rw [HP2.out]
  have B2 := hidU (B1.out.trans (hb2.mono B1.out.size))
  have X2 : Hid (w2.heap[w.heap.size]? = some (.cells #[.string { data := #[] }, .string { data := #[] }] 52 (0, 0))) := (hb2.block _ (Array.getElem?_eq_some_iff.1 X1.out).1).trans X1.out
  clear hb2 X1 B1
  have c0 : w2.cell? ⟨w.heap.size, 0, none⟩ = some (.string { data := #[] }) := by simp [World.cell?, X2.out]
  have c1 : w2.cell? ⟨w.heap.size, 1, none⟩ = some (.string { data := #[] }) := by simp [World.cell?, X2.out]
  have f0 : w2.frozen? ⟨w.heap.size, 0, none⟩ = false := by simp [World.frozen?, X2.out]
  have f1 : w2.frozen? ⟨w.heap.size, 1, none⟩ = false := by simp [World.frozen?, X2.out]
  have X3 : Hid (((w2.setCell ⟨w.heap.size, 0, none⟩ (.string p)).setCell ⟨w.heap.size, 1, none⟩ (.string t)).heap[w.heap.size]? = some (.cells #[.string p, .string t] 52 (0, 0))) := heap_setCell_same _ _ 1 _ _ _ (heap_setCell_same _ _ 0 _ _ _ X2.out)
  have B3 : Hid (Below w.heap.size w ((w2.setCell ⟨w.heap.size, 0, none⟩ (.string p)).setCell ⟨w.heap.size, 1, none⟩ (.string t))) := (B2.out.setCell (p := ⟨w.heap.size, 0, none⟩) (Nat.le_refl _) _).setCell (p := ⟨w.heap.size, 1, none⟩) (Nat.le_refl _) _
  go_wp2
  refine bodyPost_ret (results_cell_tt rfl _ _ w.heap.size 52 _ (0, 0) _ rfl X3.out Try.underlying52 rfl (by kernel_rfl)) rfl ?_
  exact ⟨by rw [HV.out]; rfl, B3.out⟩
def cutP (s : ByteArray) : ByteArray := if Lib.hasPrefix s.data.toList [102] then s.extract 1 s.size else s
theorem pre_size {s : ByteArray} (h : Lib.hasPrefix s.data.toList [102] = true) : 1 ≤ s.size := by
  obtain ⟨r, rfl⟩ := pre_iff.1 h
  rw [ByteArray.size_append]
  show 1 ≤ 1 + _
  omega
set_option maxRecDepth 100000 in
theorem cutPrefix_any (s : ByteArray) (w : World) (hs : s.size ≤ 1048576) :
    Calls Try.prog 75 #[.string s, .string { data := #[102] }] w fun e w' => e = .returned (.tuple #[.string (cutP s), .bool (Lib.hasPrefix s.data.toList [102])]) ∧ w' = w := by
  have key : Calls Try.prog 140 #[.string s, .string { data := #[102] }] w fun e w' => e = .returned (.tuple #[.string (cutP s), .bool (Lib.hasPrefix s.data.toList [102])]) ∧ w' = w := by
    cases hp : Lib.hasPrefix s.data.toList [102] with
    | true =>
      have h1 := pre_size hp
      have HV : Hid (cutP s = s.extract 1 s.size) := by show _ = _; unfold cutP; rw [hp]; rfl
      have HP := hidU hp
      clear hp
      go_enter Try.func140, Try.ntmps140
      go_wp2_with fail
      refine (Try.stringslite_HasPrefix _ _ _).mono ?_
      rintro e w1 ⟨rfl, rfl⟩
      rw [show Lib.hasPrefix s.data.toList ({ data := #[102] } : ByteArray).data.toList = true from HP.out]
      go_wp2
      go_ret2
      exact ⟨by rw [HV.out]; rfl, rfl⟩
    | false =>
      have HV : Hid (cutP s = s) := by show _ = _; unfold cutP; rw [hp]; rfl
      have HP := hidU hp
      clear hp
      go_enter Try.func140, Try.ntmps140
      go_wp2_with fail
      refine (Try.stringslite_HasPrefix _ _ _).mono ?_
      rintro e w1 ⟨rfl, rfl⟩
      rw [show Lib.hasPrefix s.data.toList ({ data := #[102] } : ByteArray).data.toList = false from HP.out]
      go_wp2
      go_ret2
      exact ⟨by rw [HV.out]; rfl, rfl⟩
  go_enter Try.func75, Try.ntmps75
  go_wp2_with fail
  refine key.mono ?_
  rintro e w1 ⟨rfl, rfl⟩
  go_wp2
  go_ret2
  exact ⟨rfl, rfl⟩
theorem app_fileG {P : Program} (W : World) {ops : Array Oper} {rest : List Oper} {o : Oper} {a : Act} {Q : Exit → Act → World → Prop} (hgd : o.guard = none) (s x : Operand) (t : TypeId)
    (ho : o.op = .call { callee := .builtin .append, args := #[s, x], argTypes := #[t, t] })
    (base : Nat) (e : TypeId) (i : TypeInfo) (z : Value) (ht : P.underlying t = some (.slice e)) (hi : P.info? e = some i) (hz : i.zero = some z) (hsize : i.size = 2) (hby : i.bytes = 32) (hzs : z.cells.size = 2)
    (g n cap : Nat) (fs : List Fl) (hs : a.eval s = .slice (some ⟨g, 0, none⟩) n cap) (hown : OwnFl W base e g n cap fs)
    (gx : Nat) (b : Fl) (hx : a.eval x = .slice (some ⟨gx, 0, none⟩) 1 1) (hg : W.heap[gx]? = some (.cells #[.string b.1, .string b.2] e (0, 0))) (hn : n + 1 ≤ 1000000) (hbase : base ≤ W.heap.size)
    (h : ∀ g' cap' w', OwnFl w' base e g' (n + 1) cap' (fs ++ [b]) → W.grownBy w' (some g) → wpList P ops Q rest (a.put o.dst (.slice (some ⟨g', 0, none⟩) (n + 1) cap')) w') :
    wpList P ops Q (o :: rest) a W := by
  refine wpList_append_own_at _ hgd s x t ho base e i z 2 32 ht hi hz hsize hby hzs (by decide) _ n _ hs hown.1 ⟨gx, 0, none⟩ 1 1 (flL b) hx rfl ?_ ?_ ?_ ?_ hbase ?_
  · intro j u hj
    have e1 : (⟨gx, 0, none⟩ : Addr).add j = ⟨gx, j, none⟩ := by simp [Addr.add]; exact fun h => h.symm
    rw [e1]
    match j, hj with
    | 0, hj => cases hj; simp [World.cell?, hg]
    | 1, hj => cases hj; simp [World.cell?, hg]
  · intro u hu
    simp [flL] at hu
    rcases hu with rfl | rfl <;> rfl
  · unfold maxLen; omega
  · omega
  · intro v' w' k1 k2 k3 k4
    rcases k1.2 with ⟨hv, hn0⟩ | ⟨g', cap', cur, rfl, hrest⟩
    · omega
    · exact h g' cap' w' ⟨by rw [List.flatMap_append]; simpa using k1, by rw [List.length_append]; have := hown.2; simp; omega⟩ k2
theorem alloc_two_new (w : World) (o1 o2 : Obj) : ((w.alloc o1).alloc o2).heap[w.heap.size + 1]? = some o2 := by
  have h := heap_alloc_new (w.alloc o1) o2
  rw [show (w.alloc o1).heap.size = w.heap.size + 1 from by show (w.heap.push _).size = _; simp] at h
  exact h
theorem rdTo_stop {r : ByteArray} {out : List Fl} {k : Nat} (h : rf r = none) : rdTo (k + 1) r out = none := by
  rw [rdTo, h]
theorem rdTo_more {r r1 : ByteArray} {x : Fl} {out : List Fl} {k : Nat} (h : rf r = some (x, r1)) : rdTo (k + 1) r out = rdTo k r1 (out ++ [x]) := by
  rw [rdTo, h]
def SzF (out : List Fl) : Prop := ∀ y ∈ out, y.1.size ≤ 1048576 ∧ y.2.size ≤ 1048576
theorem readI_pre {s : ByteArray} (h : Lib.hasPrefix s.data.toList [102] = false) : readI s = none := by unfold readI; rw [h]; rfl
theorem readI_bad {s : ByteArray} (h : Lib.hasPrefix s.data.toList [102] = true) (h2 : (rvAns (s.extract 1 s.size)).2 = 0 ∨ 8 < (rvAns (s.extract 1 s.size)).1) : readI s = none := by unfold readI; rw [h, if_pos rfl, if_pos h2]
def endI : Option (List Fl × ByteArray) → Option (List Fl)
  | none => none
  | some x => if x.2.size = 0 ∧ filesB x.1.length (ptOf x.1) (txOf x.1) = true then some x.1 else none
theorem readI_go {s : ByteArray} {n u : Nat} (h : Lib.hasPrefix s.data.toList [102] = true) (h2 : rvAns (s.extract 1 s.size) = ((n : Int), (u : Int))) (h3 : u ≠ 0) (h4 : n ≤ 8) : readI s = endI (rdTo n ((s.extract 1 s.size).extract u (s.extract 1 s.size).size) []) := by
  unfold readI
  rw [h, if_pos rfl, h2]
  simp only
  rw [if_neg (by omega), Int.toNat_natCast, Int.toNat_natCast]
  cases rdTo n ((s.extract 1 s.size).extract u (s.extract 1 s.size).size) [] <;> rfl
set_option maxRecDepth 100000 in
set_option maxHeartbeats 3200000 in
theorem readFiles_impl (s : ByteArray) (w : World) (hs : s.size ≤ 1048576) :
    Calls Try.prog 29 #[.string s] w fun e w' => ∃ a n cap, e = .returned (.tuple #[.slice a n cap, .bool (readS s).2]) ∧ OutF w' w.heap.size a n cap (readS s).1 ∧ Below w.heap.size w w' := by
  obtain ⟨i0, hi, hz0, hz1, hz2⟩ := info_parts Try.infoFile
  have HNO : Hid (readI s = none → readS s = ([], false)) := fun h => by rw [readS_is, h]
  have HYES : Hid (∀ F, readI s = some F → readS s = (F, true)) := fun F h => by rw [readS_is, h]
  cases hp : Lib.hasPrefix s.data.toList [102] with
  | false =>
    have HC : Hid (cutP s = s) := by show _ = _; unfold cutP; rw [hp]; rfl
    have HV : Hid (readS s = ([], false)) := HNO.out (readI_pre hp)
    have hb := rvAns_bd s
    obtain ⟨cn, cu, hcu⟩ : ∃ cn cu, rvAns s = (cn, cu) := ⟨_, _, rfl⟩
    have HCU := hidU hcu
    have HP := hidU hp
    clear hb hcu hp
    go_enter Try.func29, Try.ntmps29
    go_wp2_with fail
    refine (cutPrefix_any s _ hs).mono ?_
    rintro e w1 ⟨rfl, rfl⟩
    rw [HC.out, HP.out]
    go_wp2_with fail
    refine (readVar_impl s _ (by omega)).mono ?_
    rintro e w2 ⟨rfl, rfl⟩
    rw [HCU.out]
    go_wp2
    go_ret2
    exact ⟨none, 0, 0, by rw [HV.out]; rfl, by rw [HV.out]; exact OutF.nil _ _ _ _, Below.refl _ _⟩
  | true =>
    have h1 := pre_size hp
    obtain ⟨q, hq⟩ : ∃ q, s.extract 1 s.size = q := ⟨_, rfl⟩
    have hqs : q.size ≤ 1048576 := by rw [← hq, ByteArray.size_extract]; omega
    have HC : Hid (cutP s = q) := by show _ = _; unfold cutP; rw [hp, ← hq]; rfl
    have hb := rvAns_bd q
    obtain ⟨u, hu⟩ : ∃ u : Nat, (rvAns q).2 = (u : Int) := ⟨(rvAns q).2.toNat, by omega⟩
    obtain ⟨n, hn⟩ : ∃ n : Nat, (rvAns q).1 = (n : Int) := ⟨(rvAns q).1.toNat, by omega⟩
    have hus : u ≤ q.size := by omega
    have HA : Hid (rvAns q = ((n : Int), (u : Int))) := Prod.ext hn hu
    have HP := hidU hp
    have HQ := hidU hq
    clear hb hu hn hp hq
    by_cases hbad : u = 0 ∨ 8 < n
    · have HV : Hid (readS s = ([], false)) := HNO.out (readI_bad HP.out (by rw [HQ.out, HA.out]; simp only; omega))
      have g : (((u : Int) == 0) || decide ((8 : Int) < (n : Int))) = true := by
        rcases hbad with h | h
        · subst h; rfl
        · rw [decide_eq_true (show (8 : Int) < (n : Int) by omega), Bool.or_true]
      go_enter Try.func29, Try.ntmps29
      go_wp2_with fail
      refine (cutPrefix_any s _ hs).mono ?_
      rintro e w1 ⟨rfl, rfl⟩
      rw [HC.out, HP.out]
      go_wp2_with fail
      refine (readVar_impl q _ (by omega)).mono ?_
      rintro e w2 ⟨rfl, rfl⟩
      rw [HA.out]
      rcases hbad with h0 | h8
      · subst h0
        go_wp2
        go_ret2
        exact ⟨none, 0, 0, by rw [HV.out]; rfl, by rw [HV.out]; exact OutF.nil _ _ _ _, Below.refl _ _⟩
      · by_cases h0 : u = 0
        · subst h0
          go_wp2
          go_ret2
          exact ⟨none, 0, 0, by rw [HV.out]; rfl, by rw [HV.out]; exact OutF.nil _ _ _ _, Below.refl _ _⟩
        · have g0 : ((u : Int) == 0) = false := beq_eq_false_iff_ne.2 (by omega)
          have g1 : decide ((8 : Int) < (n : Int)) = true := decide_eq_true (by omega)
          clear g
          go_wp2
          go_ret2
          exact ⟨none, 0, 0, by rw [HV.out]; rfl, by rw [HV.out]; exact OutF.nil _ _ _ _, Below.refl _ _⟩
    · have h0 : u ≠ 0 := fun e => hbad (.inl e)
      have hn8 : n ≤ 8 := by omega
      have g0 : ((u : Int) == 0) = false := beq_eq_false_iff_ne.2 (by omega)
      have g1 : decide ((8 : Int) < (n : Int)) = false := decide_eq_false (by omega)
      obtain ⟨r0, hr0⟩ : ∃ r0, q.extract u q.size = r0 := ⟨_, rfl⟩
      have hrs : r0.size ≤ 1048576 := by rw [← hr0, ByteArray.size_extract]; omega
      have HGO := hidU (readI_go HP.out (by rw [HQ.out]; exact HA.out) h0 hn8)
      rw [HQ.out, hr0] at HGO
      have HR0 := hidU hr0
      have O2 := hidU (ownFl_nil w 52)
      have B2 : Hid (Below w.heap.size w (w.alloc (.cells #[] 52))) := (Below.refl _ _).alloc (Nat.le_refl _) _
      have hui : (u : Int) ≤ (q.size : Int) := by omega
      clear hr0 hbad
      go_enter Try.func29, Try.ntmps29
      go_wp2_with fail
      refine (cutPrefix_any s _ hs).mono ?_
      rintro e w1 ⟨rfl, rfl⟩
      rw [HC.out, HP.out]
      go_wp2_with fail
      refine (readVar_impl q _ (by omega)).mono ?_
      rintro e w2 ⟨rfl, rfl⟩
      rw [HA.out]
      go_wp2
      rw [HR0.out]
      go_loopw [37, 4, 8, 9, 10, 11] (fun i rest o _ _ _ wr => ∃ (k g cap : Nat) (r : ByteArray) (out : List Fl), k ≤ n ∧ i = .int .i64 k ∧ rest = .string r ∧ o = .slice (some ⟨g, 0, none⟩) k cap ∧ r.size ≤ 1048576 ∧ Hid (SzF out) ∧ Hid (rdTo n r0 [] = rdTo (n - k) r out) ∧ Hid (OwnFl wr w2.heap.size 52 g k cap out) ∧ Hid (Below w2.heap.size w2 wr)) (fun i _ _ _ _ _ _ => (n - intOf i).toNat)
      case atStart => exact ⟨0, _, 0, r0, [], Nat.zero_le _, rfl, rfl, rfl, hrs, hidU (fun y hy => by cases hy), hidU rfl, O2, B2⟩
      case round =>
        clear O2 B2
        obtain ⟨k, g, cap, r, out, hk, rfl, rfl, rfl, hr, SZ, RD, O, B⟩ := hrel
        by_cases hlt : k < n
        · obtain ⟨m, hm⟩ : ∃ m, n - k = m + 1 := ⟨n - k - 1, by omega⟩
          cases hrf : rf r with
          | none =>
            have HV : Hid (readS s = ([], false)) := HNO.out (by rw [HGO.out, RD.out, hm, rdTo_stop hrf]; rfl)
            have HO := hidU (rfO_none hrf)
            obtain ⟨x1, x2, x3, x4, hx⟩ : ∃ x1 x2 x3 x4, rfO r = (x1, x2, x3, x4) := ⟨_, _, _, _, rfl⟩
            rw [hx] at HO
            obtain rfl : x4 = false := HO.out
            have HX := hidU hx
            clear hx hm hrf
            go_wp2_with fail
            refine (readFile_any r _ hr).mono ?_
            rintro e w3 ⟨rfl, hb3⟩
            rw [HX.out]
            have B3 := hidU (B.out.trans (hb3.mono B.out.size))
            have B4 : Hid (Below w2.heap.size w2 (w3.alloc (.cells #[.string x1, .string x2] 52))) := B3.out.alloc B3.out.size _
            clear hb3
            go_wp2
            go_ret2
            exact ⟨none, 0, 0, by rw [HV.out]; rfl, by rw [HV.out]; exact OutF.nil _ _ _ _, B4.out⟩
          | some y =>
            obtain ⟨⟨p, t⟩, r1⟩ := y
            have HX := hidU (rfO_some hrf)
            have hsz := rf_size hrf
            simp only at hsz
            have RD2 : Hid (rdTo n r0 [] = rdTo (n - (k + 1)) r1 (out ++ [(p, t)])) := by
              show _ = _
              rw [RD.out, hm, rdTo_more hrf, show n - (k + 1) = m from by omega]
            have SZ2 : Hid (SzF (out ++ [(p, t)])) := by
              show SzF _
              intro z hz
              rcases List.mem_append.1 hz with hz | hz
              · exact SZ.out z hz
              · rw [List.mem_singleton.1 hz]
                exact ⟨by show p.size ≤ _; omega, by show t.size ≤ _; omega⟩
            have hr1 : r1.size ≤ 1048576 := by omega
            clear hrf hm RD SZ hsz
            go_wp2_with fail
            refine (readFile_any r _ hr).mono ?_
            rintro e w3 ⟨rfl, hb3⟩
            rw [HX.out]
            have B3 := hidU (B.out.trans (hb3.mono B.out.size))
            have O3 := hidU (ownFl_later O.out hb3)
            have A3 : Hid (Below w3.heap.size w3 ((w3.alloc (.cells #[.string p, .string t] 52)).alloc (.cells #[.string p, .string t] 52))) := ((Below.refl _ _).alloc (Nat.le_refl _) _).alloc (by rw [show (w3.alloc (.cells #[.string p, .string t] 52)).heap.size = w3.heap.size + 1 from by show (w3.heap.push _).size = _; simp]; omega) _
            have O4 := hidU (ownFl_later O3.out A3.out)
            have B4 := hidU (B3.out.trans (A3.out.mono B3.out.size))
            clear hb3 O B O3 B3 A3
            go_wp2_with (at_builtin; refine app_fileG _ rfl _ _ 48 rfl w2.heap.size 52 i0 _ Try.underlying48 hi hz0 hz1 hz2 rfl g k cap _ (by rfl) O4.out (w3.heap.size + 1) (p, t) (by rfl) (by exact alloc_two_new _ _ _) (by omega) B4.out.size ?_; intro g5 cap5 w5 ho5 hg5)
            go_roundw
            case rel => exact ⟨k + 1, g5, cap5, r1, out ++ [(p, t)], hlt, by go_num, rfl, rfl, hr1, SZ2, RD2, hidU ho5, hidU (B4.out.grown hg5 B4.out.size (fun j hj => by cases hj; exact (ownFl_blk O4.out).1))⟩
            case measure => simp [intOf]; omega
        · obtain rfl : k = n := by omega
          have RD2 : Hid (rdTo k r0 [] = some (out, r)) := by show _ = _; rw [RD.out, Nat.sub_self]; rfl
          have HN := hidU O.out.2
          have HE : Hid (readI s = if r.size = 0 ∧ filesB k (ptOf out) (txOf out) = true then some out else none) := by
            show _ = _
            rw [HGO.out, RD2.out, endI, HN.out]
          have F3 := hidU (ownFl_files O.out)
          have HS : Hid (∀ j, j < k → (ptOf out j).size ≤ 1048576 ∧ (txOf out j).size ≤ 1048576) := by
            show ∀ j, j < k → _
            intro j hj
            have hj' : j < out.length := by rw [← HN.out]; exact hj
            rw [(ptOf_at hj').1, (ptOf_at hj').2]
            exact SZ.out _ (List.getElem_mem hj')
          clear RD RD2 HGO SZ
          by_cases hz : r.size = 0
          · have er : r = { data := #[] } := ByteArray.size_eq_zero_iff.1 hz
            subst er
            have e0 : (({ data := #[] } : ByteArray).toList.isEmpty) = true := by rw [Lib.toList_data]; rfl
            have e1 : (!(({ data := #[] } : ByteArray).toList.isEmpty)) = false := by rw [e0]; rfl
            go_wp2_with fail
            refine (filesOk_implA _ g k cap _ _ _ F3.out (by omega) (fun j hj => (HS.out j hj).1) (fun j hj => (HS.out j hj).2)).mono ?_
            rintro e w3 ⟨rfl, hb3⟩
            have B3 := hidU (B.out.trans (hb3.mono B.out.size))
            have O3 := hidU (ownFl_later O.out hb3)
            clear hb3
            cases hfb : filesB k (ptOf out) (txOf out) with
            | false =>
              have HV : Hid (readS s = ([], false)) := HNO.out (by rw [HE.out, hfb, if_neg (fun h => by cases h.2)])
              go_wp2
              go_ret2
              exact ⟨none, 0, 0, by rw [HV.out]; rfl, by rw [HV.out]; exact OutF.nil _ _ _ _, B3.out⟩
            | true =>
              have HV : Hid (readS s = (out, true)) := HYES.out out (by rw [HE.out, hfb, if_pos ⟨rfl, rfl⟩])
              go_wp2
              go_ret2
              exact ⟨_, k, cap, by rw [HV.out]; rfl, by rw [HV.out]; exact OutF.own O3.out, B3.out⟩
          · have HV : Hid (readS s = ([], false)) := HNO.out (by rw [HE.out, if_neg (fun h => hz h.1)])
            have e0 : r.toList.isEmpty = false := by
              cases h : r.toList with
              | nil =>
                exfalso
                apply hz
                rw [Lib.toList_data] at h
                show r.data.size = 0
                rw [← Array.length_toList, h]
                rfl
              | cons x l => rfl
            have e1 : (!r.toList.isEmpty) = true := by rw [e0]; rfl
            go_wp2
            go_ret2
            exact ⟨none, 0, 0, by rw [HV.out]; rfl, by rw [HV.out]; exact OutF.nil _ _ _ _, B.out⟩
end Go.Proofs.Ytdbpknmoacjodaa
namespace Go.Proofs.Ytdbpknmoacjodaa
open Go.RowKit Go.PlainAid Go.Sort

def cmpS (a b : ByteArray) : Int := Lib.compareBytes a.data.toList b.data.toList
theorem cmpL_neg : ∀ a b : List UInt8, decide (Lib.compareBytes a b < 0) = Op.bytesLess a b := by
  intro a
  induction a with
  | nil => intro b; cases b <;> simp [Lib.compareBytes, Op.bytesLess]
  | cons x a ih =>
    intro b
    cases b with
    | nil => simp [Lib.compareBytes, Op.bytesLess]
    | cons y b =>
      rw [Lib.compareBytes, Op.bytesLess]
      by_cases h1 : x < y
      · simp [h1]
      · by_cases h2 : y < x
        · have h3 : ¬ x = y := fun e => by subst e; exact h1 h2
          simp [h1, h2, h3]
        · have h3 : x = y := UInt8.le_antisymm (UInt8.not_lt.1 h2) (UInt8.not_lt.1 h1)
          rw [if_neg h1, if_neg h2, ih b]
          simp [h3]
theorem cmpL_zero : ∀ a b : List UInt8, Lib.compareBytes a b = 0 ↔ a = b := by
  intro a
  induction a with
  | nil => intro b; cases b <;> simp [Lib.compareBytes]
  | cons x a ih =>
    intro b
    cases b with
    | nil => simp [Lib.compareBytes]
    | cons y b =>
      rw [Lib.compareBytes]
      by_cases h1 : x < y
      · have h3 : ¬ x = y := fun e => by subst e; exact UInt8.lt_irrefl _ h1
        simp [h1, h3]
      · by_cases h2 : y < x
        · have h3 : ¬ x = y := fun e => by subst e; exact h1 h2
          simp [h1, h2, h3]
        · have h3 : x = y := UInt8.le_antisymm (UInt8.not_lt.1 h2) (UInt8.not_lt.1 h1)
          rw [if_neg h1, if_neg h2, ih b]
          simp [h3]
theorem cmpS_neg (a b : ByteArray) : decide (cmpS a b < 0) = lessT a b := by
  unfold cmpS lessT
  rw [cmpL_neg, Lib.toList_data, Lib.toList_data]
theorem cmpS_zero (a b : ByteArray) : cmpS a b = 0 ↔ a = b := by
  unfold cmpS
  rw [cmpL_zero]
  exact ⟨bytes_ext, fun h => by rw [h]⟩
def FoundAt (len : Nat) (Pt : Nat → ByteArray) (q : ByteArray) (k : Nat) (b : Bool) : Prop := k ≤ len ∧ (∀ j, j < k → lessT (Pt j) q = true) ∧ (∀ j, k ≤ j → j < len → lessT (Pt j) q = false) ∧ (b = true ↔ k < len ∧ Pt k = q)
def Mono (len : Nat) (Pt : Nat → ByteArray) (q : ByteArray) : Prop := ∀ a b, a ≤ b → b < len → lessT (Pt b) q = true → lessT (Pt a) q = true
theorem comparePaths_any (p t q u : ByteArray) (w : World) :
    Calls Try.prog 68 #[.agg #[.string p, .string t], .agg #[.string q, .string u]] w fun e w' => e = .returned (.int .i64 (cmpS p q)) ∧ Below w.heap.size w w' := by
  go_enter Try.func68, Try.ntmps68
  go_wp2_with fail
  refine (Try.strings_Compare _ _ _).mono ?_
  rintro e w1 ⟨rfl, rfl⟩
  go_wp2
  go_ret
  exact ⟨rfl, ((Below.refl _ _).alloc (Nat.le_refl _) _).alloc (by simp) _⟩
theorem compare_any (p q : ByteArray) (w : World) :
    Calls Try.prog 96 #[.string p, .string q] w fun e w' => e = .returned (.int .i64 (cmpS p q)) ∧ Below w.heap.size w w' := by
  refine (Try.strings_Compare _ _ _).mono ?_
  rintro e w1 ⟨rfl, rfl⟩
  exact ⟨rfl, Below.refl _ _⟩

set_option maxRecDepth 100000 in
set_option maxHeartbeats 3200000 in
theorem searchF_any (g len cap : Nat) (Pt Tx : Nat → ByteArray) (p t : ByteArray) (w : World) (hf : FilesAt w (some ⟨g, 0, none⟩) g 0 len Pt Tx) (hl : len ≤ 1000) (hm : Mono len Pt p) :
    Calls Try.prog 136 #[.slice (some ⟨g, 0, none⟩) len cap, .agg #[.string p, .string t], .func (.func 68) #[] #[]] w fun e w' => ∃ (k : Nat) (b : Bool), e = .returned (.tuple #[.int .i64 k, .bool b]) ∧ FoundAt len Pt p k b ∧ Below w.heap.size w w' := by
  have HF := hidU hf
  have HM := hidU hm
  have X0 : Hid ((w.alloc (.cells #[.string p, .string t] 52)).heap[w.heap.size]? = some (.cells #[.string p, .string t] 52 (0, 0))) := heap_alloc_new w _
  have A0 : Hid (Below w.heap.size w (w.alloc (.cells #[.string p, .string t] 52))) := (Below.refl _ _).alloc (Nat.le_refl _) _
  clear hf hm
  go_enter Try.func136, Try.ntmps136
  go_wp2
  go_loopw [9, 10, 11] (fun lo hi _ wr => ∃ i j : Nat, lo = .int .i64 i ∧ hi = .int .i64 j ∧ i ≤ j ∧ j ≤ len ∧ Hid (∀ t, t < i → lessT (Pt t) p = true) ∧ Hid (∀ t, j ≤ t → t < len → lessT (Pt t) p = false) ∧ Hid (wr.heap[w.heap.size]? = some (.cells #[.string p, .string t] 52 (0, 0))) ∧ Hid (Below w.heap.size w wr)) (fun lo hi _ _ => (intOf hi - intOf lo).toNat)
  case atStart => exact ⟨0, len, rfl, rfl, by omega, by omega, hidU (fun t ht => absurd ht (Nat.not_lt_zero t)), hidU (fun t h1 h2 => by omega), X0, A0⟩
  case round =>
    obtain ⟨i, j, rfl, rfl, hij, hjl, HA, HB, X, B⟩ := hrel
    clear X0 A0
    have b0 : wr.cell? ⟨w.heap.size, 0, none⟩ = some (.string p) := by simp [World.cell?, X.out]
    have b1 : wr.cell? ⟨w.heap.size, 1, none⟩ = some (.string t) := by simp [World.cell?, X.out]
    have hf' := hidU (HF.out.later B.out)
    by_cases hlt : i < j
    · obtain ⟨m, hm⟩ : ∃ m, m = (i + j) / 2 := ⟨_, rfl⟩
      have em : ((i : Int) + (j : Int)) / 2 = (m : Int) := by omega
      have hm1 : i ≤ m := by omega
      have hm2 : m < j := by omega
      clear hm
      have c0 := hf'.out.path m (by omega)
      have c1 := hf'.out.text m (by omega)
      rw [Nat.zero_add] at c0 c1
      have cQ : ∀ d os, Calls Try.prog 68 #[.agg #[.string (Pt m), .string (Tx m)], .agg #[.string p, .string t]] (grow (redrawn wr d) os) fun e w'' => e = .returned (.int .i64 (cmpS (Pt m) p)) ∧ ∃ p : Regrown, w'' = grow (redrawn wr p.d) p.os :=
        fun d os => Calls.regrown_of (comparePaths_any _ _ _ _ _)
      have HC := hidU (cmpS_neg (Pt m) p)
      have k0 := cell_regrown b0
      have k1 := cell_regrown b1
      have k2 := cell_regrown c0
      have k3 := cell_regrown c1
      clear b0 b1 c0 c1
      obtain ⟨c, hc⟩ : ∃ c, cmpS (Pt m) p = c := ⟨_, rfl⟩
      rw [hc] at cQ
      have HC2 : Hid (decide (c < 0) = lessT (Pt m) p) := by show _ = _; rw [← hc]; exact HC.out
      clear hc HC
      cases hless : decide (c < 0) with
      | true =>
        go_wp2
        refine wp_region_quiet_below (by kernel_rfl) (by kernel_rfl) ?_
        repeat (go_big_quiet_step (exact cQ _ _))
        refine wpQuiet_nil ?_
        intro _ hw'
        obtain ⟨⟨dq, osq⟩, hw''⟩ := hw'
        subst hw''
        have B2 := hidU (below_regrown wr dq osq)
        go_wp2
        go_roundw
        case rel => exact ⟨m + 1, j, by go_num, rfl, by omega, hjl, hidU (fun t ht => HM.out t m (by omega) (by omega) (by rw [← HC2.out]; exact hless)), HB, hidU ((B2.out.block _ (Array.getElem?_eq_some_iff.1 X.out).1).trans X.out), hidU (B.out.trans (B2.out.mono B.out.size))⟩
        case measure => simp [intOf]; omega
      | false =>
        go_wp2
        refine wp_region_quiet_below (by kernel_rfl) (by kernel_rfl) ?_
        repeat (go_big_quiet_step (exact cQ _ _))
        refine wpQuiet_nil ?_
        intro _ hw'
        obtain ⟨⟨dq, osq⟩, hw''⟩ := hw'
        subst hw''
        have B2 := hidU (below_regrown wr dq osq)
        go_wp2
        go_roundw
        case rel =>
          refine ⟨i, m, rfl, rfl, hm1, by omega, HA, hidU (fun t h1 h2 => ?_), hidU ((B2.out.block _ (Array.getElem?_eq_some_iff.1 X.out).1).trans X.out), hidU (B.out.trans (B2.out.mono B.out.size))⟩
          cases ht : lessT (Pt t) p with
          | false => rfl
          | true =>
            have := HM.out m t h1 h2 ht
            rw [← HC2.out, hless] at this
            cases this
        case measure => simp [intOf]; omega
    · obtain rfl : i = j := by omega
      by_cases hil : i < len
      · have hd : decide ((i : Int) < (len : Int)) = true := decide_eq_true (by omega)
        have c0 := hf'.out.path i hil
        have c1 := hf'.out.text i hil
        rw [Nat.zero_add] at c0 c1
        have cQ : ∀ d os, Calls Try.prog 68 #[.agg #[.string (Pt i), .string (Tx i)], .agg #[.string p, .string t]] (grow (redrawn wr d) os) fun e w'' => e = .returned (.int .i64 (cmpS (Pt i) p)) ∧ ∃ p : Regrown, w'' = grow (redrawn wr p.d) p.os :=
          fun d os => Calls.regrown_of (comparePaths_any _ _ _ _ _)
        have HC := hidU (cmpS_zero (Pt i) p)
        have k0 := cell_regrown b0
        have k1 := cell_regrown b1
        have k2 := cell_regrown c0
        have k3 := cell_regrown c1
        clear b0 b1 c0 c1
        obtain ⟨c, hc⟩ : ∃ c, cmpS (Pt i) p = c := ⟨_, rfl⟩
        rw [hc] at cQ
        have HC2 : Hid (c = 0 ↔ Pt i = p) := by show _ ↔ _; rw [← hc]; exact HC.out
        clear hc HC
        go_wp2
        refine wp_region_quiet_below (by kernel_rfl) (by kernel_rfl) ?_
        repeat (go_big_quiet_step (exact cQ _ _))
        refine wpQuiet_nil ?_
        intro _ hw'
        obtain ⟨⟨dq, osq⟩, hw''⟩ := hw'
        subst hw''
        have B2 := hidU (below_regrown wr dq osq)
        go_wp2
        go_ret2
        refine ⟨i, c == 0, rfl, ⟨hjl, HA.out, HB.out, ?_⟩, B.out.trans (B2.out.mono B.out.size)⟩
        rw [beq_iff_eq, HC2.out]
        exact ⟨fun h => ⟨hil, h⟩, fun h => h.2⟩
      · have hd : decide ((i : Int) < (len : Int)) = false := decide_eq_false (by omega)
        have k0 := cell_regrown b0
        have k1 := cell_regrown b1
        go_wp2
        refine wp_region_quiet_below (by kernel_rfl) (by kernel_rfl) ?_
        repeat (go_big_quiet_step (fail))
        refine wpQuiet_nil ?_
        intro _ hw'
        obtain ⟨⟨dq, osq⟩, hw''⟩ := hw'
        subst hw''
        have B2 := hidU (below_regrown wr dq osq)
        go_wp2
        go_ret2
        exact ⟨i, false, rfl, ⟨hjl, HA.out, HB.out, ⟨fun h => (by cases h), fun h => absurd h.1 hil⟩⟩, B.out.trans (B2.out.mono B.out.size)⟩

set_option maxRecDepth 100000 in
set_option maxHeartbeats 3200000 in
theorem searchS_any (g len cap : Nat) (Pt : Nat → ByteArray) (p : ByteArray) (w : World) (hf : TextsAt w (some ⟨g, 0, none⟩) g len Pt) (hl : len ≤ 1000) (hm : Mono len Pt p) :
    Calls Try.prog 155 #[.slice (some ⟨g, 0, none⟩) len cap, .string p, .func (.func 96) #[] #[]] w fun e w' => ∃ (k : Nat) (b : Bool), e = .returned (.tuple #[.int .i64 k, .bool b]) ∧ FoundAt len Pt p k b ∧ Below w.heap.size w w' := by
  have HF := hidU hf
  have HM := hidU hm
  clear hf hm
  go_enter Try.func155, Try.ntmps155
  go_wp2
  go_loopw [9, 10, 11] (fun lo hi _ wr => ∃ i j : Nat, lo = .int .i64 i ∧ hi = .int .i64 j ∧ i ≤ j ∧ j ≤ len ∧ Hid (∀ t, t < i → lessT (Pt t) p = true) ∧ Hid (∀ t, j ≤ t → t < len → lessT (Pt t) p = false) ∧ Hid (Below w.heap.size w wr)) (fun lo hi _ _ => (intOf hi - intOf lo).toNat)
  case atStart => exact ⟨0, len, rfl, rfl, by omega, by omega, hidU (fun t ht => absurd ht (Nat.not_lt_zero t)), hidU (fun t h1 h2 => by omega), hidU (Below.refl _ _)⟩
  case round =>
    obtain ⟨i, j, rfl, rfl, hij, hjl, HA, HB, B⟩ := hrel
    have hf' := hidU (HF.out.later B.out)
    by_cases hlt : i < j
    · obtain ⟨m, hm⟩ : ∃ m, m = (i + j) / 2 := ⟨_, rfl⟩
      have em : ((i : Int) + (j : Int)) / 2 = (m : Int) := by omega
      have hm1 : i ≤ m := by omega
      have hm2 : m < j := by omega
      clear hm
      have c0 := hf'.out.cell m (by omega)
      have HC := hidU (cmpS_neg (Pt m) p)
      go_wp2_with fail
      refine (compare_any _ _ _).mono ?_
      rintro e w2 ⟨rfl, hb2⟩
      have B2 := hidU hb2
      clear hb2
      obtain ⟨c, hc⟩ : ∃ c, cmpS (Pt m) p = c := ⟨_, rfl⟩
      rw [hc]
      have HC2 : Hid (decide (c < 0) = lessT (Pt m) p) := by show _ = _; rw [← hc]; exact HC.out
      clear hc HC
      cases hless : decide (c < 0) with
      | true =>
        go_wp2
        go_roundw
        case rel => exact ⟨m + 1, j, by go_num, rfl, by omega, hjl, hidU (fun t ht => HM.out t m (by omega) (by omega) (by rw [← HC2.out]; exact hless)), HB, hidU (B.out.trans (B2.out.mono B.out.size))⟩
        case measure => simp [intOf]; omega
      | false =>
        go_wp2
        go_roundw
        case rel =>
          refine ⟨i, m, rfl, rfl, hm1, by omega, HA, hidU (fun t h1 h2 => ?_), hidU (B.out.trans (B2.out.mono B.out.size))⟩
          cases ht : lessT (Pt t) p with
          | false => rfl
          | true =>
            have := HM.out m t h1 h2 ht
            rw [← HC2.out, hless] at this
            cases this
        case measure => simp [intOf]; omega
    · obtain rfl : i = j := by omega
      by_cases hil : i < len
      · have c0 := hf'.out.cell i hil
        have HC := hidU (cmpS_zero (Pt i) p)
        go_wp2_with fail
        refine (compare_any _ _ _).mono ?_
        rintro e w2 ⟨rfl, hb2⟩
        have B2 := hidU hb2
        clear hb2
        obtain ⟨c, hc⟩ : ∃ c, cmpS (Pt i) p = c := ⟨_, rfl⟩
        rw [hc]
        have HC2 : Hid (c = 0 ↔ Pt i = p) := by show _ ↔ _; rw [← hc]; exact HC.out
        clear hc HC
        go_wp2
        go_ret2
        refine ⟨i, c == 0, rfl, ⟨hjl, HA.out, HB.out, ?_⟩, B.out.trans (B2.out.mono B.out.size)⟩
        rw [beq_iff_eq, HC2.out]
        exact ⟨fun h => ⟨hil, h⟩, fun h => h.2⟩
      · go_wp2
        go_ret2
        exact ⟨i, false, rfl, ⟨hjl, HA.out, HB.out, ⟨fun h => (by cases h), fun h => absurd h.1 hil⟩⟩, B.out⟩
end Go.Proofs.Ytdbpknmoacjodaa
