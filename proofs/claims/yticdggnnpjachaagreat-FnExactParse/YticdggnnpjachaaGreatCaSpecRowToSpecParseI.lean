/-
  A row of pairs of names beside a program under way. No program is spoken of but for the numbers of its types.
  What spec's l4Tail answers: the walk.
  What spec's l4List answers: the walk.
  What spec's l4Part answers, if l4Sum answers so behind it: the walks.
  What spec's l4Part answers where no number and no bracket stands, in a script: the walks.
  What spec's l4Part answers where no number and no bracket stands: the walks.
-/
import Derived.Deep.DeepCutAuto
import Derived.Deep.LoopGhost
import Derived.Test.YticdggnnpjachaaGreatCaSpecBox
namespace Go.Proofs.YticdggnnpjachaaGreat
open Go.RowKit Go.PlainAid

structure Row (S : Sv) (w : World) (base B : Nat) (r : Rw) (l : List Ep) : Prop where
  own : OwnR w base 102 4 r l.length (l.flatMap epL)
  free : ∀ k, r.blk = some k → ¬ S.has k
  new : ∀ k, r.blk = some k → B ≤ k
  addr : ∃ g, r.a = some ⟨g, 0, none⟩
theorem Row.ne {gt b : Nat} {S : Sv} {w : World} {base B : Nat} {r : Rw} {l : List Ep} {cs : Array Value} (h : Row S w base B r l) (hb : Bx gt S w b cs) : ∀ k, r.blk = some k → k ≠ b := by
  rintro k hk rfl
  obtain ⟨_, _, c, g⟩ := h.own.typed hk
  rw [hb.heap] at g
  simp only [Option.some.injEq, Obj.cells.injEq] at g
  exact absurd g.2.1 (by decide)
theorem Row.stp {S S' : Sv} {w w' : World} {base B : Nat} {r : Rw} {l : List Ep} (h : Row S w base B r l) (s : Stp S w S' w') : Row S' w' base B r l :=
  ⟨h.own.keep fun k hk => s.block k (h.own.typed hk).2.1 (h.free k hk), fun k hk g => (s.sub k g).elim (h.free k hk) fun g' => by have := (h.own.typed hk).2.1; omega, h.new, h.addr⟩
theorem Row.below {S : Sv} {w w' : World} {base B : Nat} {r : Rw} {l : List Ep} (h : Row S w base B r l) (s : Below w.heap.size w w') : Row S w' base B r l := h.stp (Stp.below s)
theorem Row.alloc {S : Sv} {w : World} {base B : Nat} {r : Rw} {l : List Ep} (h : Row S w base B r l) (o : Obj) : Row S (w.alloc o) base B r l := h.below ((Below.refl _ _).alloc (Nat.le_refl _) _)
theorem Row.drew {S : Sv} {w : World} {base B : Nat} {r : Rw} {l : List Ep} (h : Row S w base B r l) : Row S w.drew base B r l := ⟨h.own, h.free, h.new, h.addr⟩
theorem Row.set {gt b : Nat} {S : Sv} {w : World} {base B : Nat} {r : Rw} {l : List Ep} {cs : Array Value} (h : Row S w base B r l) (hb : Bx gt S w b cs) (i : Nat) (u : Value) : Row S (w.setCell ⟨b, i, none⟩ u) base B r l :=
  ⟨h.own.keep fun k hk => pother (h.ne hb k hk), h.free, h.new, h.addr⟩
theorem Row.put {gt b : Nat} {S : Sv} {w : World} {base B : Nat} {r : Rw} {l : List Ep} {cs : Array Value} (h : Row S w base B r l) (hb : Bx gt S w b cs) (x0 x1 x2 x3 x4 x5 x6 x7 x8 x9 x10 x11 : Value) : Row S (set12 w b x0 x1 x2 x3 x4 x5 x6 x7 x8 x9 x10 x11) base B r l :=
  ⟨h.own.keep fun k hk => set12_other (h.ne hb k hk) _ _ _ _ _ _ _ _ _ _ _ _, h.free, h.new, h.addr⟩
theorem Row.nil {C : Cx} {gt cap base B : Nat} {S : Sv} {q : PS} {w : World} (h : Mem C gt cap base S q w) (hB : B ≤ w.heap.size) : Row S (w.alloc (.cells #[] 102 (0, 0))) base B ⟨some ⟨w.heap.size, 0, none⟩, 0⟩ [] := by
  refine ⟨World.ownsRow_lit w #[] 0 h.base (by unfold maxLen; omega) rfl, fun k hk g => ?_, fun k hk => ?_, ⟨_, rfl⟩⟩
  · simp only [Rw.blk, Value.ownBlock, Option.some.injEq] at hk
    have := (h.own.has g).2
    omega
  · simp only [Rw.blk, Value.ownBlock, Option.some.injEq] at hk
    omega
theorem Row.grow {C : Cx} {gt cap base B : Nat} {S : Sv} {q : PS} {W w' : World} {r r' : Rw} {l : List Ep} {x : Ep} (h : Row S W base B r l) (hm : Mem C gt cap base S q W) (hB : B ≤ W.heap.size) (hg : W.grownBy w' r.blk) (hr : OwnR w' base 102 4 r' (l.length + 1) (l.flatMap epL ++ epL x)) (hat : r'.blk = r.blk ∨ r'.blk = some W.heap.size) :
    Row S w' base B r' (l ++ [x]) ∧ Mem C gt cap base S q w' := by
  refine ⟨⟨?_, fun k hk g => ?_, fun k hk => ?_, hr.addr.resolve_left (by omega)⟩, ?_⟩
  · have e : (l ++ [x]).length = l.length + 1 := by simp
    rw [e]
    simpa using hr
  · rcases hat with e | e
    · exact h.free k (by rw [← e]; exact hk) g
    · have h1 : W.heap.size = k := Option.some.inj (e.symm.trans hk)
      have := (hm.own.has g).2
      omega
  · rcases hat with e | e
    · exact h.new k (by rw [← e]; exact hk)
    · have h1 : W.heap.size = k := Option.some.inj (e.symm.trans hk)
      omega
  · have hkeep : ∀ k, k < W.heap.size → r.blk ≠ some k → w'.heap[k]? = W.heap[k]? := fun k hk hne => hg.block k hk fun e => hne e.symm
    refine ⟨hm.own.keep fun k hk => hkeep k (hm.own.has hk).2 fun e => h.free k e hk, hm.inv, ownT_keep hm.tok (hkeep gt (ownT_lt hm.tok).1 fun e => ?_), hm.few, Nat.le_trans hm.base hg.size⟩
    obtain ⟨_, _, c, g⟩ := h.own.typed e
    obtain ⟨c', g'⟩ := ownT_block hm.tok
    rw [g] at g'
    simp only [Option.some.injEq, Obj.cells.injEq] at g'
    exact absurd g'.2.1 (by decide)
theorem Row.bx {gt b : Nat} {S : Sv} {W w' : World} {base B : Nat} {r : Rw} {l : List Ep} {cs : Array Value} (h : Row S W base B r l) (hb : Bx gt S W b cs) (hg : W.grownBy w' r.blk) : Bx gt S w' b cs :=
  ⟨(hg.block b hb.lt fun e => h.ne hb b e.symm rfl).trans hb.heap, hb.free, hb.ne⟩
theorem Row.sb {S S0 : Sv} {w W w' : World} {base : Nat} {B : Nat} {r : Rw} {l : List Ep} (h : Row S W base B r l) (hs : SB B S0 w S W) (hg : W.grownBy w' r.blk) : SB B S0 w S w' :=
  ⟨hg.os.trans hs.os, hg.tape.trans hs.tape, hg.output.trans hs.output, Nat.le_trans hs.size hg.size, hs.low, fun k hk hn => (hg.block k (by have := hs.size; have := hs.low; omega) fun e => by have := h.new k e.symm; omega).trans (hs.block k hk hn), hs.sub⟩

theorem Mem.list3 {C : Cx} {gt cap base : Nat} {S S1 : Sv} {q : PS} {w w1 : World} {ca cb : Array Value} (h : Mem C gt cap base S q w) (s : Stp S (((w.alloc (.cells ca 53 (0, 0))).alloc (.cells cb 53 (0, 0))).alloc (.cells #[] 102 (0, 0))) S1 w1) :
    Bx gt S1 w1 w.heap.size ca ∧ Bx gt S1 w1 (w.heap.size + 1) cb ∧ Row S1 w1 base w.heap.size ⟨some ⟨w.heap.size + 1 + 1, 0, none⟩, 0⟩ [] ∧ SB w.heap.size S w S1 w1 := by
  refine ⟨(((Bx.new h _).alloc _).alloc _).stp s, ?_, ?_, (SB.start (below3 w _ _ _)).step s⟩
  · have := ((Bx.new (h.alloc (.cells ca 53 (0, 0))) cb).alloc (.cells #[] 102 (0, 0))).stp s
    rw [alloc_size] at this
    exact this
  · have := (Row.nil (B := w.heap.size) ((h.alloc (.cells ca 53 (0, 0))).alloc (.cells cb 53 (0, 0))) (below2 w _ _).size).stp s
    rw [size2] at this
    exact this
def Is3 (y : PRL) (q : PS) (z : Int) (l : List Ep) : Prop :=
  match y with
  | .ok a => q = a.1 ∧ z = -1 ∧ l = a.2
  | .error e => z = (e : Int)
def Out3 (C : Cx) (gt cap base : Nat) (y : PRL) (d : Nat) (S : Sv) (w : World) (e : Ending) (w' : World) : Prop :=
  ∃ S' q' z' r l, e = .returned (.tuple #[pv C gt cap S' q' z' d, .slice r.a l.length r.cap, .bool (anyB l)]) ∧ Is3 y q' z' l ∧ Mem C gt cap base S' q' w' ∧ Stp S w S' w' ∧ Row S' w' base w.heap.size r l ∧ l.length ≤ 4001
theorem anyB_add (l : List Ep) (x : Ep) : anyB (l ++ [x]) = (anyB l || (x.loc.toList == [100, 101, 102, 97, 117, 108, 116])) := by simp [anyB]
theorem results_cell_two {fn : Func} {p u v : Tmp} {ty : TypeId} (h : fn.results = #[.cell p ty, .tmp u, .tmp v]) (tmps : Array Value) (P : Program) (w : World) :
    (results fn tmps).run P w = ((asAddr (tmps.getD p undef)).run P w).andThen fun a w' => ((loadVar ty a).run P w').andThen fun x w'' => .ok (.tuple #[x, tmps.getD u undef, tmps.getD v undef]) w'' := by
  simp only [results, h]
  simp [Sem.run_bind, Result.andThen]
theorem results_cell_tmp2 {P : Program} {fn : Func} {p u v : Tmp} {ty : TypeId} (h : fn.results = #[.cell p ty, .tmp u, .tmp v]) (tmps : Array Value) (w : World) (g : Nat) (t : TypeId) (cs : Array Value) (fr : Nat × Nat) (d : TypeDesc)
    (hp : tmps.getD p undef = .pointer (some ⟨g, 0, none⟩)) (hg : w.heap[g]? = some (.cells cs t fr))
    (hu : P.underlying ty = some d) (hd : (match d with | .struct _ | .array _ _ => true | _ => false) = true) (hi : (P.info? ty).map (·.size) = some cs.size) :
    (results fn tmps).run P w = .ok (.tuple #[.agg cs, tmps.getD u undef, tmps.getD v undef]) w := by
  rw [results_cell_two h, hp]
  simp [asAddr, Result.andThen, run_loadVar_row w g t ty cs fr d hg hu hd hi]
end Go.Proofs.YticdggnnpjachaaGreat
namespace Go.Proofs.YticdggnnpjachaaGreat
open Go.RowKit Go.PlainAid

theorem pos_tok {C : Cx} {x : PR} {k : Int} {s : ByteArray} {q : PS} {z : Int} (h : Is (bd x (tokP C k s)) q z) : z < 0 → 1 ≤ q.pos := by
  intro hz
  obtain ⟨e, _⟩ := is_neg h hz
  obtain ⟨a, _, h2⟩ := bd_eq_ok e
  obtain ⟨rfl, _⟩ := tokP_ok h2
  simp [adv]
set_option maxRecDepth 100000 in
set_option maxHeartbeats 3200000 in
theorem l4Tail_spec (C : Cx) (gt cap base : Nat) (S : Sv) (q : PS) (d : Nat) (nm : ByteArray) (w : World) (hm : Mem C gt cap base S q w) (hp : 1 ≤ q.pos) :
    Calls Tryz.prog 191 #[pv C gt cap S q (-1) d, .string nm] w (Out C gt cap base (tailP C nm q) d S w) := by
  have HM := hidI hm
  have htok := hm.tok
  have hfew := hm.few
  clear hm
  cases hi : isT C q.pos 4 cOpen with
  | true =>
    have HV : Hid (tailP C nm q = bd (bd (bd (.ok q) (tokP C 4 cOpen)) (tokP C 4 cShut)) (addEx C ⟨3, 0, nm, sNone, 0, 0⟩)) := if_pos hi
    unfold pv
    go_enter Tryz.func191, Tryz.ntmps191
    go_wp2_with fail
    refine (is_spec C gt cap base S q (-1) d 4 cOpen _ (ownT_alloc (ownT_alloc htok _) _) hfew (by decide)).mono ?_
    rintro e w1 ⟨rfl, hb1⟩
    rw [hi]
    obtain ⟨X0, X1, m1, t1⟩ := HM.out.two hb1
    have hX0 := hidI X0
    have hX1 := hidI X1
    have hm1 := hidI m1
    have ht1 := hidI t1
    clear X0 X1 m1 t1 hb1
    clear htok
    obtain ⟨a0, a1, a2, a3, a4, a5, a6, a7, a8, a9, a10, a11, af⟩ := hX0.out.box
    go_wp2_with fail
    refine (l4Sign_spec C gt cap base (.ok q) S q (-1) d cOpen _ (is_ok q) hm1.out).mono ?_
    rintro e w2 ⟨S2, q2, z2, rfl, i2, m2, s2⟩
    replace hX0 := hidI (hX0.out.stp s2)
    replace hX1 := hidI (hX1.out.stp s2)
    have ht2 := hidI (ht1.out.step s2)
    clear ht1
    have hm2 := hidI m2
    have hi2 := hidI i2
    clear i2 m2 s2 hm1
    clear a0 a1 a2 a3 a4 a5 a6 a7 a8 a9 a10 a11 af
    go_wp2_with fail
    refine (l4Sign_spec C gt cap base _ S2 q2 z2 d cShut _ hi2.out hm2.out).mono ?_
    rintro e w3 ⟨S3, q3, z3, rfl, i3, m3, s3⟩
    replace hX0 := hidI (hX0.out.stp s3)
    replace hX1 := hidI (hX1.out.stp s3)
    have ht3 := hidI (ht2.out.step s3)
    clear ht2
    have hm3 := hidI m3
    have hi3 := hidI i3
    clear i3 m3 s3 hm2
    obtain ⟨a0, a1, a2, a3, a4, a5, a6, a7, a8, a9, a10, a11, af⟩ := hX0.out.box
    unfold pv
    go_wp2_with fail
    refine (l4Add_spec C gt cap base _ S3 q3 z3 d ⟨3, 0, nm, sNone, 0, 0⟩ _ hi3.out (hm3.out.put hX0.out _ _ _ _ _ _ _ _ _ _ _ _) (pos_tok hi3.out)).mono ?_
    rintro e w4 ⟨S4, q4, z4, rfl, i4, m4, s4⟩
    replace hX0 := hidI ((hX0.out.put _ _ _ _ _ _ _ _ _ _ _ _).stp s4)
    replace hX1 := hidI ((hX1.out.other (by omega) _ _ _ _ _ _ _ _ _ _ _ _).stp s4)
    have ht4 : Hid (SB w.heap.size S w S4 w4) := (ht3.out.put (by omega) _ _ _ _ _ _ _ _ _ _ _ _).step s4
    clear ht3
    have hm4 := hidI m4
    have hi4 := hidI i4
    clear i4 m4 s4 hm3
    clear a0 a1 a2 a3 a4 a5 a6 a7 a8 a9 a10 a11 af
    obtain ⟨b0, b1, b2, b3, b4, b5, b6, b7, b8, b9, b10, b11, bf⟩ := hX1.out.box
    unfold pv
    go_wp2
    refine bodyPost_ret (results_cell_row rfl _ _ (w.heap.size + 1) 53 _ (0, 0) _ rfl ((hX1.out.put _ _ _ _ _ _ _ _ _ _ _ _)).heap Tryz.underlying53 rfl (by kernel_rfl)) rfl ?_
    rw [HV.out]
    exact out_done rfl hi4.out (hm4.out.put hX1.out _ _ _ _ _ _ _ _ _ _ _ _) (ht4.out.put (by omega) _ _ _ _ _ _ _ _ _ _ _ _)
  | false =>
    have HV : Hid (tailP C nm q = bd (.ok q) (addEx C ⟨2, 0, nm, sNone, 0, 0⟩)) := by show tailP C nm q = _; rw [tailP, hi]; rfl
    unfold pv
    go_enter Tryz.func191, Tryz.ntmps191
    go_wp2_with fail
    refine (is_spec C gt cap base S q (-1) d 4 cOpen _ (ownT_alloc (ownT_alloc htok _) _) hfew (by decide)).mono ?_
    rintro e w1 ⟨rfl, hb1⟩
    rw [hi]
    obtain ⟨X0, X1, m1, t1⟩ := HM.out.two hb1
    have hX0 := hidI X0
    have hX1 := hidI X1
    have hm1 := hidI m1
    have ht1 := hidI t1
    clear X0 X1 m1 t1 hb1
    clear htok
    obtain ⟨a0, a1, a2, a3, a4, a5, a6, a7, a8, a9, a10, a11, af⟩ := hX0.out.box
    go_wp2_with fail
    refine (l4Add_spec C gt cap base (.ok q) S q (-1) d ⟨2, 0, nm, sNone, 0, 0⟩ _ (is_ok q) hm1.out (fun _ => hp)).mono ?_
    rintro e w2 ⟨S2, q2, z2, rfl, i2, m2, s2⟩
    replace hX0 := hidI (hX0.out.stp s2)
    replace hX1 := hidI (hX1.out.stp s2)
    have ht2 := hidI (ht1.out.step s2)
    clear ht1
    have hm2 := hidI m2
    have hi2 := hidI i2
    clear i2 m2 s2 hm1
    clear a0 a1 a2 a3 a4 a5 a6 a7 a8 a9 a10 a11 af
    obtain ⟨b0, b1, b2, b3, b4, b5, b6, b7, b8, b9, b10, b11, bf⟩ := hX1.out.box
    unfold pv
    go_wp2
    refine bodyPost_ret (results_cell_row rfl _ _ (w.heap.size + 1) 53 _ (0, 0) _ rfl ((hX1.out.put _ _ _ _ _ _ _ _ _ _ _ _)).heap Tryz.underlying53 rfl (by kernel_rfl)) rfl ?_
    rw [HV.out]
    exact out_done rfl hi2.out (hm2.out.put hX1.out _ _ _ _ _ _ _ _ _ _ _ _) (ht2.out.put (by omega) _ _ _ _ _ _ _ _ _ _ _ _)
end Go.Proofs.YticdggnnpjachaaGreat
namespace Go.Proofs.YticdggnnpjachaaGreat
open Go.RowKit Go.PlainAid

theorem list_end {C : Cx} {exp : Bool} {l : List Ep} {Y : PRN} {n3 n5 : ByteArray} {q3 q5 q6 : PS} {z3 z5 z6 : Int} (h3 : Is2 Y q3 z3 n3) (h5 : Is2 (bd Y (asP C exp)) q5 z5 n5) (hc : (decide (z5 < 0) && isT C q5.pos 4 cComma) = false) (h6 : Is (bd (fstP (bd Y (asP C exp))) (tokP C 4 cRight)) q6 z6) :
    Is3 (bd Y fun a => bd (asP C exp a) fun b => if isT C b.1.pos 4 cComma then listL C exp (adv b.1) (l ++ [⟨0, b.2, a.2, sNone⟩]) else bd (tokP C 4 cRight b.1) fun q' => .ok (q', l ++ [⟨0, b.2, a.2, sNone⟩])) q6 z6 (l ++ [⟨0, n5, n3, sNone⟩]) := by
  cases Y with
  | error e => exact h6
  | ok a =>
    obtain ⟨_, _, rfl⟩ := h3
    rw [bd_ok] at h5 h6 ⊢
    cases hA : asP C exp a with
    | error e => rw [hA] at h6; exact h6
    | ok b =>
      rw [hA] at h5 h6
      obtain ⟨rfl, rfl, rfl⟩ := h5
      rw [Bool.and_eq_false_iff] at hc
      rw [bd_ok, hc.resolve_left (by decide)]
      have e : bd (fstP (.ok b)) (tokP C 4 cRight) = tokP C 4 cRight b.1 := rfl
      rw [e] at h6
      show Is3 (bd (tokP C 4 cRight b.1) _) _ _ _
      cases hT : tokP C 4 cRight b.1 with
      | error e => rw [hT] at h6; exact h6
      | ok c => rw [hT] at h6; exact ⟨h6.1, h6.2, rfl⟩
theorem list_next {C : Cx} {exp : Bool} {l : List Ep} {q2 q3 q5 : PS} {n3 n5 : ByteArray} {z3 z5 : Int} (h3 : Is2 (bd (.ok q2) (nameP C true)) q3 z3 n3) (h5 : Is2 (bd (bd (.ok q2) (nameP C true)) (asP C exp)) q5 z5 n5) (hz : z5 < 0) (hc : isT C q5.pos 4 cComma = true) :
    (bd (.ok q2) fun q => listL C exp q l) = (bd (.ok (adv q5)) fun q => listL C exp q (l ++ [⟨0, n5, n3, sNone⟩])) ∧ q2.pos + 1 ≤ q5.pos := by
  rw [bd_ok] at h3 h5 ⊢
  rw [bd_ok, listL_step]
  cases hY : nameP C true q2 with
  | error e => rw [hY] at h5; have : z5 = (e : Int) := h5; omega
  | ok a =>
    rw [hY] at h3 h5
    obtain ⟨_, _, rfl⟩ := h3
    rw [bd_ok] at h5 ⊢
    obtain ⟨rfl, _⟩ := nameP_ok hY
    cases hA : asP C exp (adv q2, (tokAt C q2.pos).text) with
    | error e => rw [hA] at h5; have : z5 = (e : Int) := h5; omega
    | ok b =>
      rw [hA] at h5
      obtain ⟨rfl, rfl, rfl⟩ := h5
      have := asP_ok hA
      rw [bd_ok, hc]
      exact ⟨rfl, this⟩
theorem list_stop {C : Cx} {exp : Bool} {x : PR} {q q6 : PS} {z z6 : Int} {l : List Ep} (hi : Is x q z) (hz : ¬ z < 0) (h6 : Is (bd x (tokP C 4 cRight)) q6 z6) : Is3 (bd x fun q => listL C exp q l) q6 z6 l := by
  obtain ⟨e, rfl, _⟩ := is_bad hi hz
  exact h6
theorem as_yes {C : Cx} {exp : Bool} {Y : PRN} {q3 q4 : PS} {z3 z4 : Int} {n3 n4 : ByteArray} (h3 : Is2 Y q3 z3 n3) (hb : (decide (z3 < 0) && isT C q3.pos 1 sAs) = true) (h4 : Is2 (bd (.ok (adv q3)) (nameP C exp)) q4 z4 n4) : Is2 (bd Y (asP C exp)) q4 z4 n4 := by
  rw [Bool.and_eq_true, decide_eq_true_eq] at hb
  cases Y with
  | error e => have : z3 = (e : Int) := h3; omega
  | ok a =>
    obtain ⟨rfl, _, _⟩ := h3
    rw [bd_ok, asP, if_pos hb.2]
    exact h4
theorem as_fail {C : Cx} {exp : Bool} {Y : PRN} {q3 : PS} {z3 : Int} {n3 : ByteArray} (h3 : Is2 Y q3 z3 n3) (hb : (decide (z3 < 0) && isT C q3.pos 1 sAs) = false) (hd : ((n3.toList == [100, 101, 102, 97, 117, 108, 116]) && !exp) = true) : Is2 (bd Y (asP C exp)) q3 (badOf C q3.pos z3) n3 := by
  cases Y with
  | error e =>
    have h : z3 = (e : Int) := h3
    show badOf C q3.pos z3 = (e : Int)
    rw [badOf, if_neg (by omega)]
    exact h
  | ok a =>
    obtain ⟨rfl, rfl, rfl⟩ := h3
    rw [Bool.and_eq_false_iff] at hb
    rw [bd_ok, asP, hb.resolve_left (by decide), hd]
    rfl
theorem as_plain {C : Cx} {exp : Bool} {Y : PRN} {q3 : PS} {z3 : Int} {n3 : ByteArray} (h3 : Is2 Y q3 z3 n3) (hb : (decide (z3 < 0) && isT C q3.pos 1 sAs) = false) (hd : ((n3.toList == [100, 101, 102, 97, 117, 108, 116]) && !exp) = false) : Is2 (bd Y (asP C exp)) q3 z3 n3 := by
  cases Y with
  | error e => exact h3
  | ok a =>
    obtain ⟨rfl, rfl, rfl⟩ := h3
    rw [Bool.and_eq_false_iff] at hb
    rw [bd_ok, asP, hb.resolve_left (by decide), hd]
    exact ⟨rfl, rfl, rfl⟩
set_option maxRecDepth 100000 in
set_option maxHeartbeats 6400000 in
theorem l4List_spec (C : Cx) (gt cap base : Nat) (S : Sv) (q : PS) (d : Nat) (exp : Bool) (w : World) (hm : Mem C gt cap base S q w) :
    Calls Tryz.prog 130 #[pv C gt cap S q (-1) d, .bool exp] w (Out3 C gt cap base (listP C exp q) d S w) := by
  obtain ⟨i0, hi, hz0, hz1, hz2⟩ := info_parts Tryz.infoExp
  have HM := hidI hm
  have hfew := hm.few
  clear hm
  unfold pv
  go_enter Tryz.func130, Tryz.ntmps130
  go_wp2_with fail
  refine (l4Sign_spec C gt cap base (.ok q) S q (-1) d cLeft _ (is_ok q) (((HM.out.alloc _).alloc _).alloc _)).mono ?_
  rintro e w1 ⟨S1, q1, z1, rfl, i1, m1, s1⟩
  obtain ⟨X0, X1, R0, t1⟩ := HM.out.list3 s1
  have hX0 := hidI X0
  have hX1 := hidI X1
  have hR := hidI R0
  have ht1 := hidI t1
  have hm1 := hidI m1
  have hi1 := hidI i1
  clear i1 m1 s1 X0 X1 R0 t1
  obtain ⟨a0, a1, a2, a3, a4, a5, a6, a7, a8, a9, a10, a11, af⟩ := hX0.out.box
  unfold pv
  go_wp2
  go_loopg [7, 8] (C.ts.length + 1) (fun k o an wr => ∃ (x' : PR) (S' : Sv) (q' : PS) (z' : Int) (r : Rw) (l : List Ep), Is x' q' z' ∧ bd x' (fun q => listL C exp q l) = listP C exp q ∧ (z' < 0 → C.ts.length - q'.pos < k) ∧ (l.length ≤ q'.pos ∨ l = []) ∧ o = .slice r.a l.length r.cap ∧ an = .bool (anyB l) ∧ Mem C gt cap base S' q' wr ∧ SB w.heap.size S w S' wr ∧ Bx gt S' wr w.heap.size #[.slice (some ⟨gt, 0, none⟩) C.ts.length cap, .int .i64 q'.pos, .int .i64 C.fin, .bool C.scr, .slice S'.rq.a q'.rq.length S'.rq.cap, .slice S'.im.a q'.im.length S'.im.cap, .slice S'.ep.a q'.ep.length S'.ep.cap, .slice S'.st.a q'.st.length S'.st.cap, .slice S'.ex.a q'.ex.length S'.ex.cap, .slice S'.la.a q'.la.length S'.la.cap, .int .i64 z', .int .i64 d] ∧ Bx gt S' wr (w.heap.size + 1) #[.slice none 0 0, .int .i64 0, .int .i64 0, .bool false, .slice none 0 0, .slice none 0 0, .slice none 0 0, .slice none 0 0, .slice none 0 0, .slice none 0 0, .int .i64 0, .int .i64 0] ∧ Row S' wr base w.heap.size r l)
  case atStart => exact ⟨_, S1, q1, z1, _, [], hi1.out, rfl, fun _ => by omega, .inr rfl, rfl, rfl, (hm1.out.put hX0.out _ _ _ _ _ _ _ _ _ _ _ _), (ht1.out.put (by omega) _ _ _ _ _ _ _ _ _ _ _ _), (hX0.out.put _ _ _ _ _ _ _ _ _ _ _ _), (hX1.out.other (by omega) _ _ _ _ _ _ _ _ _ _ _ _), (hR.out.put hX0.out _ _ _ _ _ _ _ _ _ _ _ _)⟩
  case round =>
    obtain ⟨x2, S2, q2, z2, r, l, i2, e2, l2, n2, rfl, rfl, m2, t2, X0, X1, R0⟩ := hrel
    have hX0 := hidI X0
    have hX1 := hidI X1
    have hm2 := hidI m2
    have ht2 := hidI t2
    have hi2 := hidI i2
    have he2 := hidI e2
    have hl2 := hidI l2
    have hR := hidI R0
    have hln : l.length ≤ 4000 := n2.elim (fun g => by have := m2.inv.pos; omega) (fun g => by rw [g]; simp)
    have HN2 := hidI n2
    clear X0 X1 i2 m2 t2 e2 l2 R0 n2
    by_cases hz : z2 < 0
    · skip
      obtain ⟨rfl, rfl⟩ := is_neg hi2.out hz
      have hlk := hl2.out hz
      obtain ⟨a0, a1, a2, a3, a4, a5, a6, a7, a8, a9, a10, a11, af⟩ := hX0.out.box
      go_wp2_with fail
      refine (l4Name_spec C gt cap base (.ok q2) S2 q2 (-1) d true _ (is_ok q2) hm2.out).mono ?_
      rintro e w3 ⟨S3, q3, z3, n3, rfl, i3, m3, s3⟩
      replace hX0 := hidI (hX0.out.stp s3)
      replace hX1 := hidI (hX1.out.stp s3)
      have ht3 := hidI (ht2.out.step s3)
      have hRn : Hid (Row S3 w3 base w.heap.size r l) := hR.out.stp s3
      clear hR
      have hR := hidI hRn
      clear hRn
      clear ht2
      have hm3 := hidI m3
      have hi3 := hidI i3
      clear i3 m3 s3 hm2
      clear a0 a1 a2 a3 a4 a5 a6 a7 a8 a9 a10 a11 af
      have hlt2 : w.heap.size + 1 < w3.heap.size := hX1.out.lt
      unfold pv
      go_upto_region 6 with fail
      refine world_any (R := fun W => Bx gt S3 W (w.heap.size) _ ∧ Bx gt S3 W (w.heap.size + 1) _ ∧ Bx gt S3 W (w3.heap.size) _ ∧ Row S3 W base w.heap.size r l ∧ Mem C gt cap base S3 q3 W ∧ SB w.heap.size S w S3 W) ⟨(hX0.out.alloc _), (hX1.out.alloc _), (Bx.new hm3.out _), (hR.out.alloc _), (hm3.out.alloc _), (ht3.out.alloc _)⟩ ?_
      clear hX0 hX1 ht3 hm3
      clear hR
      rintro w4 ⟨X0, X1, X2, R0, m4, t4⟩
      have hR := hidI R0
      clear R0
      have hX0 := hidI X0
      have hX1 := hidI X1
      have hX2 := hidI X2
      have hm4 := hidI m4
      have ht4 := hidI t4
      clear m4 t4 X0 X1 X2
      obtain ⟨a0, a1, a2, a3, a4, a5, a6, a7, a8, a9, a10, a11, af⟩ := hX0.out.box
      obtain ⟨c0, c1, c2, c3, c4, c5, c6, c7, c8, c9, c10, c11, cf⟩ := hX2.out.box
      go_upto_region 7 with fail
      refine world_any (R := fun W => Bx gt S3 W (w.heap.size) _ ∧ Bx gt S3 W (w.heap.size + 1) _ ∧ Bx gt S3 W (w3.heap.size) _ ∧ Row S3 W base w.heap.size r l ∧ Mem C gt cap base S3 q3 W ∧ SB w.heap.size S w S3 W) ⟨(hX0.out.put _ _ _ _ _ _ _ _ _ _ _ _), (hX1.out.other (by omega) _ _ _ _ _ _ _ _ _ _ _ _), (hX2.out.other (by omega) _ _ _ _ _ _ _ _ _ _ _ _), (hR.out.put hX0.out _ _ _ _ _ _ _ _ _ _ _ _), (hm4.out.put hX0.out _ _ _ _ _ _ _ _ _ _ _ _), (ht4.out.put (by omega) _ _ _ _ _ _ _ _ _ _ _ _)⟩ ?_
      clear a0 a1 a2 a3 a4 a5 a6 a7 a8 a9 a10 a11 af c0 c1 c2 c3 c4 c5 c6 c7 c8 c9 c10 c11 cf
      clear hX0 hX1 hX2 ht4 hm4
      clear hR
      rintro w5 ⟨X0, X1, X2, R0, m5, t5⟩
      have hR := hidI R0
      clear R0
      have hX0 := hidI X0
      have hX1 := hidI X1
      have hX2 := hidI X2
      have hm5 := hidI m5
      have ht5 := hidI t5
      clear m5 t5 X0 X1 X2
      skip
      obtain ⟨a0, a1, a2, a3, a4, a5, a6, a7, a8, a9, a10, a11, af⟩ := hX0.out.box
      skip
      go_wp2_with fail
      refine (is_spec C gt cap base S3 q3 z3 d 1 sAs _ hm5.out.tok hfew (by decide)).mono ?_
      rintro e w6 ⟨rfl, hb6⟩
      replace hX0 := hidI (hX0.out.below hb6)
      replace hX1 := hidI (hX1.out.below hb6)
      replace hX2 := hidI (hX2.out.below hb6)
      have ht6 := hidI (ht5.out.below hb6)
      have hm6 := hidI (hm5.out.later hb6)
      have hRn : Hid (Row S3 w6 base w.heap.size r l) := hR.out.below hb6
      clear hR
      have hR := hidI hRn
      clear hRn
      clear hb6 ht5 hm5
      clear a0 a1 a2 a3 a4 a5 a6 a7 a8 a9 a10 a11 af
      go_upto_if 28 with fail
      go_cut [11] (fun s11 wx => ∃ (S5 : Sv) (q5 : PS) (z5 : Int) (n5 : ByteArray), s11 = .string n5 ∧ Is2 (bd (bd (.ok q2) (nameP C true)) (asP C exp)) q5 z5 n5 ∧ Mem C gt cap base S5 q5 wx ∧ SB w.heap.size S w S5 wx ∧ Bx gt S5 wx w.heap.size #[.slice (some ⟨gt, 0, none⟩) C.ts.length cap, .int .i64 q5.pos, .int .i64 C.fin, .bool C.scr, .slice S5.rq.a q5.rq.length S5.rq.cap, .slice S5.im.a q5.im.length S5.im.cap, .slice S5.ep.a q5.ep.length S5.ep.cap, .slice S5.st.a q5.st.length S5.st.cap, .slice S5.ex.a q5.ex.length S5.ex.cap, .slice S5.la.a q5.la.length S5.la.cap, .int .i64 z5, .int .i64 d] ∧ Bx gt S5 wx (w.heap.size + 1) #[.slice none 0 0, .int .i64 0, .int .i64 0, .bool false, .slice none 0 0, .slice none 0 0, .slice none 0 0, .slice none 0 0, .slice none 0 0, .slice none 0 0, .int .i64 0, .int .i64 0] ∧ Row S5 wx base w.heap.size r l)
      case first =>
        cases hb : (decide (z3 < 0) && isT C q3.pos 1 sAs) with
        | true =>
          have hp3 : q3.pos < C.ts.length := by rw [Bool.and_eq_true] at hb; exact isT_lt hb.2 (by decide)
          obtain ⟨a0, a1, a2, a3, a4, a5, a6, a7, a8, a9, a10, a11, af⟩ := hX0.out.box
          have hz3 : z3 = -1 := by rw [Bool.and_eq_true, decide_eq_true_eq] at hb; exact (is_neg hi3.out.fst hb.1).2
          subst hz3
          go_wp2_with fail
          refine (l4Name_spec C gt cap base (.ok (adv q3)) S3 (adv q3) (-1) d exp _ (is_ok _) ((hm6.out.adv hp3).set hX0.out 1 _)).mono ?_
          rintro e w7 ⟨S7, q7, z7, n7, rfl, i7, m7, s7⟩
          have hX0n : Hid (Bx gt S7 w7 _ _) := (hX0.out.at1 _).stp s7
          have hX1n : Hid (Bx gt S7 w7 _ _) := (hX1.out.set_other (by omega) 1 _).stp s7
          have hX2n : Hid (Bx gt S7 w7 _ _) := (hX2.out.set_other (by omega) 1 _).stp s7
          have ht7 : Hid (SB w.heap.size S w S7 w7) := (ht6.out.set (by omega) 1 _).step s7
          replace hR := hidI ((hR.out.set hX0.out 1 _).stp s7)
          clear hX0 hX1 hX2 ht6
          have hX0 := hidI hX0n
          have hX1 := hidI hX1n
          have hX2 := hidI hX2n
          clear hX0n hX1n hX2n
          have hm7 := hidI m7
          have hi7 := hidI i7
          clear i7 m7 s7 hm6
          clear a0 a1 a2 a3 a4 a5 a6 a7 a8 a9 a10 a11 af
          have hlt3 : w.heap.size + 1 < w7.heap.size := hX1.out.lt
          have hlt3_2 : w3.heap.size < w7.heap.size := hX2.out.lt
          unfold pv
          go_upto_region 11 with fail
          refine world_any (R := fun W => Bx gt S7 W (w.heap.size) _ ∧ Bx gt S7 W (w.heap.size + 1) _ ∧ Bx gt S7 W (w3.heap.size) _ ∧ Bx gt S7 W (w7.heap.size) _ ∧ Row S7 W base w.heap.size r l ∧ Mem C gt cap base S7 q7 W ∧ SB w.heap.size S w S7 W) ⟨(hX0.out.alloc _), (hX1.out.alloc _), (hX2.out.alloc _), (Bx.new hm7.out _), (hR.out.alloc _), (hm7.out.alloc _), (ht7.out.alloc _)⟩ ?_
          clear hX0 hX1 hX2 ht7 hm7
          clear hR
          rintro w8 ⟨X0, X1, X2, X3, R0, m8, t8⟩
          have hR := hidI R0
          clear R0
          have hX0 := hidI X0
          have hX1 := hidI X1
          have hX2 := hidI X2
          have hX3 := hidI X3
          have hm8 := hidI m8
          have ht8 := hidI t8
          clear m8 t8 X0 X1 X2 X3
          obtain ⟨a0, a1, a2, a3, a4, a5, a6, a7, a8, a9, a10, a11, af⟩ := hX0.out.box
          obtain ⟨d0, d1, d2, d3, d4, d5, d6, d7, d8, d9, d10, d11, df⟩ := hX3.out.box
          go_wp2
          go_meet
          case rel => exact ⟨S7, q7, z7, n7, rfl, as_yes hi3.out hb hi7.out, (hm8.out.put hX0.out _ _ _ _ _ _ _ _ _ _ _ _), (ht8.out.put (by omega) _ _ _ _ _ _ _ _ _ _ _ _), (hX0.out.put _ _ _ _ _ _ _ _ _ _ _ _), (hX1.out.other (by omega) _ _ _ _ _ _ _ _ _ _ _ _), (hR.out.put hX0.out _ _ _ _ _ _ _ _ _ _ _ _)⟩
        | false =>
          cases e3 : (n3.toList == [100, 101, 102, 97, 117, 108, 116]) with
          | true =>
            cases exp with
            | false =>
              obtain ⟨a0, a1, a2, a3, a4, a5, a6, a7, a8, a9, a10, a11, af⟩ := hX0.out.box
              go_wp2_with fail
              refine (fail_spec C gt cap base S3 q3 z3 d _ hm6.out.tok hfew).mono ?_
              rintro e w7 ⟨rfl, hb7⟩
              replace hX0 := hidI (hX0.out.below hb7)
              replace hX1 := hidI (hX1.out.below hb7)
              replace hX2 := hidI (hX2.out.below hb7)
              have ht7 := hidI (ht6.out.below hb7)
              have hm7 := hidI (hm6.out.later hb7)
              have hRn : Hid (Row S3 w7 base w.heap.size r l) := hR.out.below hb7
              clear hR
              have hR := hidI hRn
              clear hRn
              clear hb7 ht6 hm6
              clear a0 a1 a2 a3 a4 a5 a6 a7 a8 a9 a10 a11 af
              obtain ⟨a0, a1, a2, a3, a4, a5, a6, a7, a8, a9, a10, a11, af⟩ := hX0.out.box
              unfold pv
              go_wp2
              go_meet
              case rel => exact ⟨S3, q3, (badOf C q3.pos z3), n3, rfl, as_fail hi3.out hb (by rw [e3]; rfl), (hm7.out.put hX0.out _ _ _ _ _ _ _ _ _ _ _ _), (ht7.out.put (by omega) _ _ _ _ _ _ _ _ _ _ _ _), (hX0.out.put _ _ _ _ _ _ _ _ _ _ _ _), (hX1.out.other (by omega) _ _ _ _ _ _ _ _ _ _ _ _), (hR.out.put hX0.out _ _ _ _ _ _ _ _ _ _ _ _)⟩
            | true =>
              obtain ⟨a0, a1, a2, a3, a4, a5, a6, a7, a8, a9, a10, a11, af⟩ := hX0.out.box
              go_wp2
              go_meet
              case rel => exact ⟨S3, q3, z3, n3, rfl, as_plain hi3.out hb (by rw [e3]; rfl), hm6.out, ht6.out, hX0.out, hX1.out, hR.out⟩
          | false =>
            obtain ⟨a0, a1, a2, a3, a4, a5, a6, a7, a8, a9, a10, a11, af⟩ := hX0.out.box
            go_wp2
            go_meet
            case rel => exact ⟨S3, q3, z3, n3, rfl, as_plain hi3.out hb (by rw [e3]; rfl), hm6.out, ht6.out, hX0.out, hX1.out, hR.out⟩
      case rest =>
        obtain ⟨S5, q5, z5, n5, rfl, i5, m5, t5, X0, X1, R0⟩ := hcut
        clear hX0 hX1 hX2 hR hm6 ht6
        have hX0 := hidI X0
        have hX1 := hidI X1
        have hm5 := hidI m5
        have ht5 := hidI t5
        have hi5 := hidI i5
        have hR := hidI R0
        clear X0 X1 i5 m5 t5 R0
        go_upto_region 15 with fail
        go_cut [8] (fun s8 wx => s8 = .bool (anyB l || (n3.toList == [100, 101, 102, 97, 117, 108, 116])) ∧ wx = wc)
        case first =>
          cases ha : anyB l with
          | true =>
            go_wp2
            go_meet
            case rel => exact ⟨by rw [ha]; rfl, rfl⟩
          | false =>
            cases e3 : (n3.toList == [100, 101, 102, 97, 117, 108, 116]) with
            | true =>
              go_wp2
              go_meet
              case rel => exact ⟨by rw [ha, e3]; rfl, rfl⟩
            | false =>
              go_wp2
              go_meet
              case rel => exact ⟨by rw [ha, e3]; rfl, rfl⟩
        case rest =>
          obtain ⟨rfl, rfl⟩ := hcut
          have hown := fun o => hR.out.own.alloc o
          have hbs := hm5.out.base
          go_wp2_with (at_builtin; refine app_row _ rfl _ _ 24 rfl base 102 i0 _ 4 56 Tryz.underlying24 hi hz0 hz1 hz2 rfl (by decide) (by decide) r l.length _ (by rfl) (hown _) wc.heap.size (epL ⟨0, n5, n3, sNone⟩) (by rfl) (by exact heap_alloc_new wc _) rfl (by intro u hu; simp [epL] at hu; rcases hu with rfl | rfl | rfl | rfl <;> rfl) (by omega) (by rw [alloc_size]; omega) ?_)
          intro r' w6 hr hg hat
          obtain ⟨R6, m6⟩ := (hR.out.alloc _).grow (x := ⟨0, n5, n3, sNone⟩) (hm5.out.alloc _) (by rw [alloc_size]; have := ht5.out.size; omega) hg hr (by rw [alloc_size]; exact hat)
          have hX0n : Hid (Bx gt S5 w6 _ _) := (hR.out.alloc _).bx (hX0.out.alloc _) hg
          have hX1n : Hid (Bx gt S5 w6 _ _) := (hR.out.alloc _).bx (hX1.out.alloc _) hg
          have ht6 : Hid (SB w.heap.size S w S5 w6) := (hR.out.alloc _).sb (ht5.out.alloc _) hg
          have hm6 := hidI m6
          clear hX0 hX1 hR hr hg hat hown hbs hm5 ht5 m6
          have hX0 := hidI hX0n
          have hX1 := hidI hX1n
          have hR := hidI R6
          clear hX0n hX1n R6
          cases hc : (decide (z5 < 0) && isT C q5.pos 4 cComma) with
          | true =>
            obtain ⟨a0, a1, a2, a3, a4, a5, a6, a7, a8, a9, a10, a11, af⟩ := hX0.out.box
            go_wp2_with fail
            refine (is_spec C gt cap base S5 q5 z5 d 4 cComma _ hm6.out.tok hfew (by decide)).mono ?_
            rintro e w7 ⟨rfl, hb7⟩
            rw [hc]
            replace hX0 := hidI (hX0.out.below hb7)
            replace hX1 := hidI (hX1.out.below hb7)
            have ht7 := hidI (ht6.out.below hb7)
            have hm7 := hidI (hm6.out.later hb7)
            have hRn : Hid (Row S5 w7 base w.heap.size r' (l ++ [⟨0, n5, n3, sNone⟩])) := hR.out.below hb7
            clear hR
            have hR := hidI hRn
            clear hRn
            clear hb7 ht6 hm6
            clear a0 a1 a2 a3 a4 a5 a6 a7 a8 a9 a10 a11 af
            rw [Bool.and_eq_true, decide_eq_true_eq] at hc
            obtain ⟨hz5, hc5⟩ := hc
            have hp5 : q5.pos < C.ts.length := isT_lt hc5 (by decide)
            obtain ⟨E5, P5⟩ := list_next (l := l) hi3.out hi5.out hz5 hc5
            have HE := hidI E5
            obtain rfl : z5 = -1 := (is_neg hi5.out.fst hz5).2
            have HLL : Hid ((l ++ [(⟨0, n5, n3, sNone⟩ : Ep)]).length ≤ q5.pos + 1 ∨ l ++ [(⟨0, n5, n3, sNone⟩ : Ep)] = []) := .inl (by simp only [List.length_append, List.length_singleton]; exact HN2.out.elim (fun g => by omega) (fun g => by rw [g]; simp))
            clear E5
            obtain ⟨a0, a1, a2, a3, a4, a5, a6, a7, a8, a9, a10, a11, af⟩ := hX0.out.box
            go_wp2
            go_roundg (gk - 1)
            case rel => exact ⟨.ok (adv q5), S5, adv q5, -1, r', l ++ [⟨0, n5, n3, sNone⟩], is_ok _, by rw [← he2.out]; exact HE.out.symm, fun _ => by rw [adv_pos]; omega, HLL.out, by simp, by rw [anyB_add], ((hm7.out.adv hp5).set hX0.out 1 _), (ht7.out.set (by omega) 1 _), (hX0.out.at1 _), (hX1.out.set_other (by omega) 1 _), (hR.out.set hX0.out 1 _)⟩
            case measure => omega
          | false =>
            obtain ⟨a0, a1, a2, a3, a4, a5, a6, a7, a8, a9, a10, a11, af⟩ := hX0.out.box
            go_wp2_with fail
            refine (is_spec C gt cap base S5 q5 z5 d 4 cComma _ hm6.out.tok hfew (by decide)).mono ?_
            rintro e w7 ⟨rfl, hb7⟩
            rw [hc]
            replace hX0 := hidI (hX0.out.below hb7)
            replace hX1 := hidI (hX1.out.below hb7)
            have ht7 := hidI (ht6.out.below hb7)
            have hm7 := hidI (hm6.out.later hb7)
            have hRn : Hid (Row S5 w7 base w.heap.size r' (l ++ [⟨0, n5, n3, sNone⟩])) := hR.out.below hb7
            clear hR
            have hR := hidI hRn
            clear hRn
            clear hb7 ht6 hm6
            clear a0 a1 a2 a3 a4 a5 a6 a7 a8 a9 a10 a11 af
            obtain ⟨a0, a1, a2, a3, a4, a5, a6, a7, a8, a9, a10, a11, af⟩ := hX0.out.box
            go_wp2_with fail
            refine (l4Sign_spec C gt cap base _ S5 q5 z5 d cRight _ hi5.out.fst hm7.out).mono ?_
            rintro e w8 ⟨S8, q8, z8, rfl, i8, m8, s8⟩
            replace hX0 := hidI (hX0.out.stp s8)
            replace hX1 := hidI (hX1.out.stp s8)
            have ht8 := hidI (ht7.out.step s8)
            have hRn : Hid (Row S8 w8 base w.heap.size r' (l ++ [⟨0, n5, n3, sNone⟩])) := hR.out.stp s8
            clear hR
            have hR := hidI hRn
            clear hRn
            clear ht7
            have hm8 := hidI m8
            have hi8 := hidI i8
            clear i8 m8 s8 hm7
            clear a0 a1 a2 a3 a4 a5 a6 a7 a8 a9 a10 a11 af
            obtain ⟨b0, b1, b2, b3, b4, b5, b6, b7, b8, b9, b10, b11, bf⟩ := hX1.out.box
            unfold pv
            go_wp2
            refine bodyPost_ret (results_cell_tmp2 rfl _ _ (w.heap.size + 1) 53 _ (0, 0) _ rfl ((hX1.out.put _ _ _ _ _ _ _ _ _ _ _ _)).heap Tryz.underlying53 rfl (by kernel_rfl)) rfl ?_
            exact ⟨S8, q8, z8, r', l ++ [⟨0, n5, n3, sNone⟩], by simp [pv, anyB_add], by rw [← he2.out, bd_ok, listL_step]; exact list_end hi3.out hi5.out hc hi8.out, (hm8.out.put hX1.out _ _ _ _ _ _ _ _ _ _ _ _), ((ht8.out.put (by omega) _ _ _ _ _ _ _ _ _ _ _ _)).done, (hR.out.put hX1.out _ _ _ _ _ _ _ _ _ _ _ _), by simp; omega⟩
    · skip
      obtain ⟨a0, a1, a2, a3, a4, a5, a6, a7, a8, a9, a10, a11, af⟩ := hX0.out.box
      go_wp2_with fail
      refine (l4Sign_spec C gt cap base _ S2 q2 z2 d cRight _ hi2.out hm2.out).mono ?_
      rintro e w3 ⟨S3, q3, z3, rfl, i3, m3, s3⟩
      replace hX0 := hidI (hX0.out.stp s3)
      replace hX1 := hidI (hX1.out.stp s3)
      have ht3 := hidI (ht2.out.step s3)
      have hRn : Hid (Row S3 w3 base w.heap.size r l) := hR.out.stp s3
      clear hR
      have hR := hidI hRn
      clear hRn
      clear ht2
      have hm3 := hidI m3
      have hi3 := hidI i3
      clear i3 m3 s3 hm2
      clear a0 a1 a2 a3 a4 a5 a6 a7 a8 a9 a10 a11 af
      obtain ⟨b0, b1, b2, b3, b4, b5, b6, b7, b8, b9, b10, b11, bf⟩ := hX1.out.box
      unfold pv
      go_wp2
      refine bodyPost_ret (results_cell_tmp2 rfl _ _ (w.heap.size + 1) 53 _ (0, 0) _ rfl ((hX1.out.put _ _ _ _ _ _ _ _ _ _ _ _)).heap Tryz.underlying53 rfl (by kernel_rfl)) rfl ?_
      exact ⟨S3, q3, z3, r, l, rfl, by rw [← he2.out]; exact list_stop hi2.out (by omega) hi3.out, (hm3.out.put hX1.out _ _ _ _ _ _ _ _ _ _ _ _), ((ht3.out.put (by omega) _ _ _ _ _ _ _ _ _ _ _ _)).done, (hR.out.put hX1.out _ _ _ _ _ _ _ _ _ _ _ _), by omega⟩
end Go.Proofs.YticdggnnpjachaaGreat
namespace Go.Proofs.YticdggnnpjachaaGreat
open Go.RowKit Go.PlainAid

def SumOK (C : Cx) (gt cap base m : Nat) : Prop := ∀ (x : PR) (S : Sv) (q : PS) (z : Int) (d : Nat) (w : World), Is x q z → Mem C gt cap base S q w → (z < 0 → C.ts.length - q.pos < m) → d ≤ 20 →
  Calls Tryz.prog 75 #[pv C gt cap S q z d] w (Out C gt cap base (bd x (pE C .sum d)) d S w)
theorem name_yes {C : Cx} {o : Bool} {q q1 : PS} {z1 : Int} {n1 : ByteArray} (h : Is2 (bd (.ok q) (nameP C o)) q1 z1 n1) (hp : plainB C q.pos o = true) : q1 = adv q ∧ z1 = -1 ∧ n1 = (tokAt C q.pos).text := by
  rw [bd_ok, nameP, if_pos hp] at h
  exact h
theorem name_no {C : Cx} {o : Bool} {q q1 : PS} {z1 : Int} {n1 : ByteArray} (h : Is2 (bd (.ok q) (nameP C o)) q1 z1 n1) (hp : plainB C q.pos o = false) : z1 = (here C q.pos : Int) := by
  rw [bd_ok, nameP, hp] at h
  exact h
theorem mem_bind {C : Cx} {n : ByteArray} {y : Except Nat (PS × ByteArray)} {q : PS} {z : Int} {f : ByteArray} (h : Is2 y q z f) (hi : (decide (z < 0) && isT C q.pos 4 cOpen) = true) : bd (bd (bd (fstP y) (tokP C 4 cOpen)) (tokP C 4 cShut)) (addEx C ⟨5, 0, n, f, 0, 0⟩) = bd y fun a => memP C n a.2 a.1 := by
  rw [Bool.and_eq_true, decide_eq_true_eq] at hi
  cases y with
  | ok a =>
    obtain ⟨rfl, _, rfl⟩ := h
    show _ = memP C n a.2 a.1
    rw [memP, if_pos hi.2]
    rfl
  | error e => rfl
theorem mem_bind' {C : Cx} {n : ByteArray} {y : Except Nat (PS × ByteArray)} {q : PS} {z : Int} {f : ByteArray} (h : Is2 y q z f) (hi : (decide (z < 0) && isT C q.pos 4 cOpen) = false) : bd (fstP y) (addEx C ⟨4, 0, n, f, 0, 0⟩) = bd y fun a => memP C n a.2 a.1 := by
  cases y with
  | ok a =>
    obtain ⟨rfl, rfl, rfl⟩ := h
    rw [Bool.and_eq_false_iff] at hi
    show _ = memP C n a.2 a.1
    rw [memP, hi.resolve_left (by decide)]
    rfl
  | error e => rfl
theorem pos_name {C : Cx} {o : Bool} {x : PR} {q : PS} {z : Int} {n : ByteArray} (h : Is2 (bd x (nameP C o)) q z n) : z < 0 → 1 ≤ q.pos := by
  intro hz
  cases hx : bd x (nameP C o) with
  | error e => rw [hx] at h; have : z = (e : Int) := h; omega
  | ok a =>
    rw [hx] at h
    obtain ⟨rfl, _, _⟩ := h
    obtain ⟨b, _, h2⟩ := bd_eq_ok hx
    obtain ⟨rfl, _⟩ := nameP_ok h2
    simp [adv]

set_option maxRecDepth 100000 in
set_option maxHeartbeats 6400000 in
theorem l4Part_num (C : Cx) (gt cap base : Nat) (S : Sv) (q : PS) (d : Nat) (w : World) (hm : Mem C gt cap base S q w) (h2 : ((tokAt C q.pos).kind == 2) = true) :
    Calls Tryz.prog 168 #[pv C gt cap S q (-1) d] w (Out C gt cap base (pE C .part d q) d S w) := by
  have HM := hidI hm
  have htok := hm.tok
  have hfew : C.ts.length ≤ 4000 := hm.few
  have hglt := (ownT_lt hm.tok).1
  clear hm
  have hp : q.pos < C.ts.length := kind_lt h2 (by decide)
  have HV : Hid (pE C .part d q = bd (.ok (adv q)) (addEx C ⟨1, (tokAt C q.pos).num, sNone, sNone, 0, 0⟩)) := by show pE C .part d q = _; rw [pE_part, if_pos h2]; rfl
  obtain ⟨c0, _, c2, _⟩ := htok.cells hp (d := ⟨0, sNone, 0, C.fin⟩)
  change _ = some (Value.int .i64 (tokAt C q.pos).kind) at c0
  change _ = some (Value.int .i64 (tokAt C q.pos).num) at c2
  have HM2 : Hid (Mem C gt cap base S (adv q) w) := HM.out.adv hp
  generalize (tokAt C q.pos).kind = kd at c0 h2
  have HN : Hid (∀ n, n = (tokAt C q.pos).num → pE C .part d q = bd (.ok (adv q)) (addEx C ⟨1, n, sNone, sNone, 0, 0⟩)) := fun n e => by rw [e]; exact HV.out
  generalize hnm : (tokAt C q.pos).num = nm at c2
  have HNM : Hid (nm = (tokAt C q.pos).num) := hnm.symm
  clear hnm HV htok
  unfold pv
  go_enter Tryz.func168, Tryz.ntmps168
  go_wp2_with fail
  refine (l4Add_spec C gt cap base (.ok (adv q)) S (adv q) (-1) d ⟨1, nm, sNone, sNone, 0, 0⟩ _ (is_ok _) ((HM2.out.alloc _).alloc _) (fun _ => by simp [adv])).mono ?_
  rintro e w1 ⟨S1, q1, z1, rfl, i1, m1, s1⟩
  obtain ⟨X0, X1, t1⟩ := HM2.out.two2 s1
  have hX1 := hidI X1
  have hm1 := hidI m1
  have ht1 := hidI t1
  have hi1 := hidI i1
  clear X0 X1 i1 m1 t1 s1
  obtain ⟨b0, b1, b2, b3, b4, b5, b6, b7, b8, b9, b10, b11, bf⟩ := hX1.out.box
  unfold pv
  go_wp2
  refine bodyPost_ret (results_cell_row rfl _ _ (w.heap.size + 1) 53 _ (0, 0) _ rfl ((hX1.out.put _ _ _ _ _ _ _ _ _ _ _ _)).heap Tryz.underlying53 rfl (by kernel_rfl)) rfl ?_
  rw [HN.out nm HNM.out]
  exact out_done rfl hi1.out (hm1.out.put hX1.out _ _ _ _ _ _ _ _ _ _ _ _) (ht1.out.put (by omega) _ _ _ _ _ _ _ _ _ _ _ _)
set_option maxRecDepth 100000 in
set_option maxHeartbeats 6400000 in
theorem l4Part_deep (C : Cx) (gt cap base : Nat) (S : Sv) (q : PS) (d : Nat) (w : World) (hm : Mem C gt cap base S q w) (hk : ((tokAt C q.pos).kind == 2) = false) (ho : isT C q.pos 4 cOpen = true) (hd : 20 ≤ d) (hdd : d ≤ 20) :
    Calls Tryz.prog 168 #[pv C gt cap S q (-1) d] w (Out C gt cap base (pE C .part d q) d S w) := by
  have HM := hidI hm
  have htok := hm.tok
  have hfew : C.ts.length ≤ 4000 := hm.few
  have hglt := (ownT_lt hm.tok).1
  clear hm
  have hp : q.pos < C.ts.length := isT_lt ho (by decide)
  have HV : Hid (pE C .part d q = .error (here C q.pos)) := by show pE C .part d q = _; rw [pE_part, hk, ho]; simp [hd]
  have qd : decide ((20 : Int) ≤ (d : Int)) = true := decide_eq_true (by omega)
  obtain ⟨c0, _, _, _⟩ := htok.cells hp (d := ⟨0, sNone, 0, C.fin⟩)
  change _ = some (Value.int .i64 (tokAt C q.pos).kind) at c0
  generalize (tokAt C q.pos).kind = kd at c0 hk
  unfold pv
  go_enter Tryz.func168, Tryz.ntmps168
  go_wp2_with fail
  refine (is_spec C gt cap base S q (-1) d 4 cOpen _ (ownT_alloc (ownT_alloc htok _) _) hfew (by decide)).mono ?_
  rintro e w1 ⟨rfl, hb1⟩
  rw [ho]
  obtain ⟨X0, X1, m1, t1⟩ := HM.out.two hb1
  have hX0 := hidI X0
  have hX1 := hidI X1
  have hm1 := hidI m1
  have ht1 := hidI t1
  clear X0 X1 m1 t1 hb1
  obtain ⟨a0, a1, a2, a3, a4, a5, a6, a7, a8, a9, a10, a11, af⟩ := hX0.out.box
  go_wp2_with fail
  refine (fail_spec C gt cap base S q (-1) d _ hm1.out.tok hfew).mono ?_
  rintro e w2 ⟨rfl, hb2⟩
  replace hX0 := hidI (hX0.out.below hb2)
  replace hX1 := hidI (hX1.out.below hb2)
  have ht2 := hidI (ht1.out.below hb2)
  have hm2 := hidI (hm1.out.later hb2)
  clear hb2 ht1 hm1
  clear a0 a1 a2 a3 a4 a5 a6 a7 a8 a9 a10 a11 af
  obtain ⟨b0, b1, b2, b3, b4, b5, b6, b7, b8, b9, b10, b11, bf⟩ := hX1.out.box
  unfold pv
  go_wp2
  refine bodyPost_ret (results_cell_row rfl _ _ (w.heap.size + 1) 53 _ (0, 0) _ rfl ((hX1.out.put _ _ _ _ _ _ _ _ _ _ _ _)).heap Tryz.underlying53 rfl (by kernel_rfl)) rfl ?_
  rw [HV.out]
  exact out_done rfl (show Is (.error (here C q.pos)) q _ from rfl) (hm2.out.put hX1.out _ _ _ _ _ _ _ _ _ _ _ _) (ht2.out.put (by omega) _ _ _ _ _ _ _ _ _ _ _ _)
set_option maxRecDepth 100000 in
set_option maxHeartbeats 6400000 in
theorem l4Part_open (C : Cx) (gt cap base : Nat) (S : Sv) (q : PS) (d : Nat) (w : World) (hm : Mem C gt cap base S q w) (hk : ((tokAt C q.pos).kind == 2) = false) (ho : isT C q.pos 4 cOpen = true) (hd : d < 20) (hS : SumOK C gt cap base (C.ts.length - q.pos)) :
    Calls Tryz.prog 168 #[pv C gt cap S q (-1) d] w (Out C gt cap base (pE C .part d q) d S w) := by
  have HM := hidI hm
  have htok := hm.tok
  have hfew : C.ts.length ≤ 4000 := hm.few
  have hglt := (ownT_lt hm.tok).1
  clear hm
  have hp : q.pos < C.ts.length := isT_lt ho (by decide)
  have HV : Hid (pE C .part d q = bd (bd (.ok (adv q)) (pE C .sum (d + 1))) (tokP C 4 cShut)) := by show pE C .part d q = _; rw [pE_part, hk, ho, if_neg (by decide), if_pos rfl, if_neg (by omega)]; rfl
  have HS := hidI hS
  clear hS
  have qd : decide ((20 : Int) ≤ (d : Int)) = false := decide_eq_false (by omega)
  obtain ⟨c0, _, _, _⟩ := htok.cells hp (d := ⟨0, sNone, 0, C.fin⟩)
  change _ = some (Value.int .i64 (tokAt C q.pos).kind) at c0
  generalize (tokAt C q.pos).kind = kd at c0 hk
  unfold pv
  go_enter Tryz.func168, Tryz.ntmps168
  go_wp2_with fail
  refine (is_spec C gt cap base S q (-1) d 4 cOpen _ (ownT_alloc (ownT_alloc htok _) _) hfew (by decide)).mono ?_
  rintro e w1 ⟨rfl, hb1⟩
  rw [ho]
  obtain ⟨X0, X1, m1, t1⟩ := HM.out.two hb1
  have hX0 := hidI X0
  have hX1 := hidI X1
  have hm1 := hidI m1
  have ht1 := hidI t1
  clear X0 X1 m1 t1 hb1
  obtain ⟨a0, a1, a2, a3, a4, a5, a6, a7, a8, a9, a10, a11, af⟩ := hX0.out.box
  go_wp2_with fail
  refine (HS.out (.ok (adv q)) S (adv q) (-1) (d + 1) _ (is_ok _) (((hm1.out.adv hp).set hX0.out 1 _).set (hX0.out.at1 _) 11 _) (fun _ => by show C.ts.length - (q.pos + 1) < _; omega) (by omega)).mono ?_
  rintro e w2 ⟨S2, q2, z2, rfl, i2, m2, s2⟩
  replace hX0 := hidI (((hX0.out.at1 _).at11 _).stp s2)
  replace hX1 := hidI (((hX1.out.set_other (by omega) 1 _).set_other (by omega) 11 _).stp s2)
  have ht2 : Hid (SB w.heap.size S w S2 w2) := ((ht1.out.set (by omega) 1 _).set (by omega) 11 _).step s2
  clear ht1
  have hm2 := hidI m2
  have hi2 := hidI i2
  clear i2 m2 s2 hm1
  clear a0 a1 a2 a3 a4 a5 a6 a7 a8 a9 a10 a11 af
  go_wp2_with fail
  refine (l4Sign_spec C gt cap base _ S2 q2 z2 (d + 1) cShut _ hi2.out hm2.out).mono ?_
  rintro e w3 ⟨S3, q3, z3, rfl, i3, m3, s3⟩
  replace hX0 := hidI (hX0.out.stp s3)
  replace hX1 := hidI (hX1.out.stp s3)
  have ht3 := hidI (ht2.out.step s3)
  clear ht2
  have hm3 := hidI m3
  have hi3 := hidI i3
  clear i3 m3 s3 hm2
  obtain ⟨a0, a1, a2, a3, a4, a5, a6, a7, a8, a9, a10, a11, af⟩ := hX0.out.box
  obtain ⟨D, hD⟩ : ∃ D : Nat, D = d + 1 := ⟨_, rfl⟩
  rw [← hD]
  have hd1 : (D : Int) - 1 = d := by omega
  have hd2 : D ≤ 20 := by omega
  clear hD hd qd
  unfold pv
  go_upto_region 11 with fail
  refine world_any (R := fun W => Bx gt S3 W (w.heap.size) _ ∧ Bx gt S3 W (w.heap.size + 1) _ ∧ Mem C gt cap base S3 q3 W ∧ SB w.heap.size S w S3 W) ⟨(hX0.out.put _ _ _ _ _ _ _ _ _ _ _ _), (hX1.out.other (by omega) _ _ _ _ _ _ _ _ _ _ _ _), (hm3.out.put hX0.out _ _ _ _ _ _ _ _ _ _ _ _), (ht3.out.put (by omega) _ _ _ _ _ _ _ _ _ _ _ _)⟩ ?_
  clear a0 a1 a2 a3 a4 a5 a6 a7 a8 a9 a10 a11 af
  clear hX0 hX1 ht3 hm3
  rintro w4 ⟨X0, X1, m4, t4⟩
  have hX0 := hidI X0
  have hX1 := hidI X1
  have hm4 := hidI m4
  have ht4 := hidI t4
  clear m4 t4 X0 X1
  obtain ⟨a0, a1, a2, a3, a4, a5, a6, a7, a8, a9, a10, a11, af⟩ := hX0.out.box
  obtain ⟨b0, b1, b2, b3, b4, b5, b6, b7, b8, b9, b10, b11, bf⟩ := hX1.out.box
  go_wp2
  refine bodyPost_ret (results_cell_row rfl _ _ (w.heap.size + 1) 53 _ (0, 0) _ rfl (((hX1.out.set_other (by omega) 11 _).put _ _ _ _ _ _ _ _ _ _ _ _)).heap Tryz.underlying53 rfl (by kernel_rfl)) rfl ?_
  rw [HV.out]
  exact out_done rfl hi3.out ((hm4.out.set hX0.out 11 _).put (hX1.out.set_other (by omega) 11 _) _ _ _ _ _ _ _ _ _ _ _ _) ((ht4.out.set (by omega) 11 _).put (by omega) _ _ _ _ _ _ _ _ _ _ _ _)
end Go.Proofs.YticdggnnpjachaaGreat
namespace Go.Proofs.YticdggnnpjachaaGreat
open Go.RowKit Go.PlainAid

set_option maxRecDepth 100000 in
set_option maxHeartbeats 6400000 in
theorem l4Part_end_true (ts : List Tk) (fin : Nat) (gt cap base : Nat) (S : Sv) (q : PS) (d : Nat) (w : World) (hm : Mem (Cx.mk ts fin true) gt cap base S q w) (hp : ¬ q.pos < (Cx.mk ts fin true).ts.length) :
    Calls Tryz.prog 168 #[pv (Cx.mk ts fin true) gt cap S q (-1) d] w (Out (Cx.mk ts fin true) gt cap base (pE (Cx.mk ts fin true) .part d q) d S w) := by
  have HM := hidI hm
  have htok := hm.tok
  have hfew : (Cx.mk ts fin true).ts.length ≤ 4000 := hm.few
  have hglt := (ownT_lt hm.tok).1
  clear hm
  have hk : ((tokAt (Cx.mk ts fin true) q.pos).kind == 2) = false := by rw [tokAt_none (by omega)]; rfl
  have ho : isT (Cx.mk ts fin true) q.pos 4 cOpen = false := isT_end hp (by decide)
  have hu : isT (Cx.mk ts fin true) q.pos 1 sUndef = false := isT_end hp (by decide)
  have hn : plainB (Cx.mk ts fin true) q.pos false = false := plain_end hp
  have HV : Hid (pE (Cx.mk ts fin true) .part d q = .error (here (Cx.mk ts fin true) q.pos)) := by show pE (Cx.mk ts fin true) .part d q = _; rw [pE_part, hk, ho, hu, nameP, hn]; rfl
  have hp' : ¬ q.pos < ts.length := hp
  unfold pv
  go_enter Tryz.func168, Tryz.ntmps168
  go_wp2_with fail
  refine (is_spec (Cx.mk ts fin true) gt cap base S q (-1) d 4 cOpen _ (ownT_alloc (ownT_alloc htok _) _) hfew (by decide)).mono ?_
  rintro e w1 ⟨rfl, hb1⟩
  rw [ho]
  obtain ⟨X0, X1, m1, t1⟩ := HM.out.two hb1
  have hX0 := hidI X0
  have hX1 := hidI X1
  have hm1 := hidI m1
  have ht1 := hidI t1
  clear X0 X1 m1 t1 hb1
  obtain ⟨a0, a1, a2, a3, a4, a5, a6, a7, a8, a9, a10, a11, af⟩ := hX0.out.box
  go_wp2_with fail
  refine (is_spec (Cx.mk ts fin true) gt cap base S q (-1) d 1 sUndef _ hm1.out.tok hfew (by decide)).mono ?_
  rintro e w2 ⟨rfl, hb2⟩
  rw [hu]
  replace hX0 := hidI (hX0.out.below hb2)
  replace hX1 := hidI (hX1.out.below hb2)
  have ht2 := hidI (ht1.out.below hb2)
  have hm2 := hidI (hm1.out.later hb2)
  clear hb2 ht1 hm1
  clear a0 a1 a2 a3 a4 a5 a6 a7 a8 a9 a10 a11 af
  obtain ⟨a0, a1, a2, a3, a4, a5, a6, a7, a8, a9, a10, a11, af⟩ := hX0.out.box
  go_wp2_with fail
  refine (l4Name_spec (Cx.mk ts fin true) gt cap base (.ok q) S q (-1) d false _ (is_ok q) hm2.out).mono ?_
  rintro e w3 ⟨S3, q3, z3, n3, rfl, i3, m3, s3⟩
  replace hX0 := hidI (hX0.out.stp s3)
  replace hX1 := hidI (hX1.out.stp s3)
  have ht3 := hidI (ht2.out.step s3)
  clear ht2
  have hm3 := hidI m3
  have hi3 := hidI i3
  clear i3 m3 s3 hm2
  clear a0 a1 a2 a3 a4 a5 a6 a7 a8 a9 a10 a11 af
  obtain rfl := name_no hi3.out hn
  have dz : decide ((0 : Int) ≤ (here (Cx.mk ts fin true) q.pos : Int)) = true := decide_eq_true (by omega)
  have hlt2 : w.heap.size + 1 < w3.heap.size := hX1.out.lt
  unfold pv
  go_upto_region 17 with fail
  refine world_any (R := fun W => Bx gt S3 W (w.heap.size) _ ∧ Bx gt S3 W (w.heap.size + 1) _ ∧ Bx gt S3 W (w3.heap.size) _ ∧ Mem (Cx.mk ts fin true) gt cap base S3 q3 W ∧ SB w.heap.size S w S3 W) ⟨(hX0.out.alloc _), (hX1.out.alloc _), (Bx.new hm3.out _), (hm3.out.alloc _), (ht3.out.alloc _)⟩ ?_
  clear hX0 hX1 ht3 hm3
  rintro w4 ⟨X0, X1, X2, m4, t4⟩
  have hX0 := hidI X0
  have hX1 := hidI X1
  have hX2 := hidI X2
  have hm4 := hidI m4
  have ht4 := hidI t4
  clear m4 t4 X0 X1 X2
  obtain ⟨b0, b1, b2, b3, b4, b5, b6, b7, b8, b9, b10, b11, bf⟩ := hX1.out.box
  obtain ⟨c0, c1, c2, c3, c4, c5, c6, c7, c8, c9, c10, c11, cf⟩ := hX2.out.box
  go_wp2
  refine bodyPost_ret (results_cell_row rfl _ _ (w.heap.size + 1) 53 _ (0, 0) _ rfl ((hX1.out.put _ _ _ _ _ _ _ _ _ _ _ _)).heap Tryz.underlying53 rfl (by kernel_rfl)) rfl ?_
  rw [HV.out]
  exact out_done rfl (show Is (.error (here (Cx.mk ts fin true) q.pos)) q3 _ from rfl) (hm4.out.put hX1.out _ _ _ _ _ _ _ _ _ _ _ _) (ht4.out.put (by omega) _ _ _ _ _ _ _ _ _ _ _ _)
set_option maxRecDepth 100000 in
set_option maxHeartbeats 6400000 in
theorem l4Part_none_true (ts : List Tk) (fin : Nat) (gt cap base : Nat) (S : Sv) (q : PS) (d : Nat) (w : World) (hm : Mem (Cx.mk ts fin true) gt cap base S q w) (hk : ((tokAt (Cx.mk ts fin true) q.pos).kind == 2) = false) (ho : isT (Cx.mk ts fin true) q.pos 4 cOpen = false) (hp : q.pos < (Cx.mk ts fin true).ts.length) (hu : isT (Cx.mk ts fin true) q.pos 1 sUndef = false) (hn : plainB (Cx.mk ts fin true) q.pos false = false) :
    Calls Tryz.prog 168 #[pv (Cx.mk ts fin true) gt cap S q (-1) d] w (Out (Cx.mk ts fin true) gt cap base (pE (Cx.mk ts fin true) .part d q) d S w) := by
  have HM := hidI hm
  have htok := hm.tok
  have hfew : (Cx.mk ts fin true).ts.length ≤ 4000 := hm.few
  have hglt := (ownT_lt hm.tok).1
  clear hm
  have HV : Hid (pE (Cx.mk ts fin true) .part d q = .error (here (Cx.mk ts fin true) q.pos)) := by show pE (Cx.mk ts fin true) .part d q = _; rw [pE_part, hk, ho, hu, nameP, hn]; rfl
  have hp' : q.pos < ts.length := hp
  obtain ⟨c0, _, _, _⟩ := htok.cells hp (d := ⟨0, sNone, 0, (Cx.mk ts fin true).fin⟩)
  change _ = some (Value.int .i64 (tokAt (Cx.mk ts fin true) q.pos).kind) at c0
  generalize (tokAt (Cx.mk ts fin true) q.pos).kind = kd at c0 hk
  unfold pv
  go_enter Tryz.func168, Tryz.ntmps168
  go_wp2_with fail
  refine (is_spec (Cx.mk ts fin true) gt cap base S q (-1) d 4 cOpen _ (ownT_alloc (ownT_alloc htok _) _) hfew (by decide)).mono ?_
  rintro e w1 ⟨rfl, hb1⟩
  rw [ho]
  obtain ⟨X0, X1, m1, t1⟩ := HM.out.two hb1
  have hX0 := hidI X0
  have hX1 := hidI X1
  have hm1 := hidI m1
  have ht1 := hidI t1
  clear X0 X1 m1 t1 hb1
  obtain ⟨a0, a1, a2, a3, a4, a5, a6, a7, a8, a9, a10, a11, af⟩ := hX0.out.box
  go_wp2_with fail
  refine (is_spec (Cx.mk ts fin true) gt cap base S q (-1) d 1 sUndef _ hm1.out.tok hfew (by decide)).mono ?_
  rintro e w2 ⟨rfl, hb2⟩
  rw [hu]
  replace hX0 := hidI (hX0.out.below hb2)
  replace hX1 := hidI (hX1.out.below hb2)
  have ht2 := hidI (ht1.out.below hb2)
  have hm2 := hidI (hm1.out.later hb2)
  clear hb2 ht1 hm1
  clear a0 a1 a2 a3 a4 a5 a6 a7 a8 a9 a10 a11 af
  obtain ⟨a0, a1, a2, a3, a4, a5, a6, a7, a8, a9, a10, a11, af⟩ := hX0.out.box
  go_wp2_with fail
  refine (l4Name_spec (Cx.mk ts fin true) gt cap base (.ok q) S q (-1) d false _ (is_ok q) hm2.out).mono ?_
  rintro e w3 ⟨S3, q3, z3, n3, rfl, i3, m3, s3⟩
  replace hX0 := hidI (hX0.out.stp s3)
  replace hX1 := hidI (hX1.out.stp s3)
  have ht3 := hidI (ht2.out.step s3)
  clear ht2
  have hm3 := hidI m3
  have hi3 := hidI i3
  clear i3 m3 s3 hm2
  clear a0 a1 a2 a3 a4 a5 a6 a7 a8 a9 a10 a11 af
  obtain rfl := name_no hi3.out hn
  have dz : decide ((0 : Int) ≤ (here (Cx.mk ts fin true) q.pos : Int)) = true := decide_eq_true (by omega)
  have hlt2 : w.heap.size + 1 < w3.heap.size := hX1.out.lt
  unfold pv
  go_upto_region 17 with fail
  refine world_any (R := fun W => Bx gt S3 W (w.heap.size) _ ∧ Bx gt S3 W (w.heap.size + 1) _ ∧ Bx gt S3 W (w3.heap.size) _ ∧ Mem (Cx.mk ts fin true) gt cap base S3 q3 W ∧ SB w.heap.size S w S3 W) ⟨(hX0.out.alloc _), (hX1.out.alloc _), (Bx.new hm3.out _), (hm3.out.alloc _), (ht3.out.alloc _)⟩ ?_
  clear hX0 hX1 ht3 hm3
  rintro w4 ⟨X0, X1, X2, m4, t4⟩
  have hX0 := hidI X0
  have hX1 := hidI X1
  have hX2 := hidI X2
  have hm4 := hidI m4
  have ht4 := hidI t4
  clear m4 t4 X0 X1 X2
  obtain ⟨b0, b1, b2, b3, b4, b5, b6, b7, b8, b9, b10, b11, bf⟩ := hX1.out.box
  obtain ⟨c0, c1, c2, c3, c4, c5, c6, c7, c8, c9, c10, c11, cf⟩ := hX2.out.box
  go_wp2
  refine bodyPost_ret (results_cell_row rfl _ _ (w.heap.size + 1) 53 _ (0, 0) _ rfl ((hX1.out.put _ _ _ _ _ _ _ _ _ _ _ _)).heap Tryz.underlying53 rfl (by kernel_rfl)) rfl ?_
  rw [HV.out]
  exact out_done rfl (show Is (.error (here (Cx.mk ts fin true) q.pos)) q3 _ from rfl) (hm4.out.put hX1.out _ _ _ _ _ _ _ _ _ _ _ _) (ht4.out.put (by omega) _ _ _ _ _ _ _ _ _ _ _ _)
set_option maxRecDepth 100000 in
set_option maxHeartbeats 6400000 in
theorem l4Part_bad_true (ts : List Tk) (fin : Nat) (gt cap base : Nat) (S : Sv) (q : PS) (d : Nat) (w : World) (hm : Mem (Cx.mk ts fin true) gt cap base S q w) (e0 : Nat) :
    Calls Tryz.prog 168 #[pv (Cx.mk ts fin true) gt cap S q (e0 : Int) d] w (Out (Cx.mk ts fin true) gt cap base (.error e0) d S w) := by
  have HM := hidI hm
  have htok := hm.tok
  have hfew : (Cx.mk ts fin true).ts.length ≤ 4000 := hm.few
  have hglt := (ownT_lt hm.tok).1
  clear hm
  have hz : ¬ (e0 : Int) < 0 := by omega
  have hs : ∀ k s, (decide ((e0 : Int) < 0) && isT (Cx.mk ts fin true) q.pos k s) = false := fun k s => by rw [decide_eq_false hz]; rfl
  unfold pv
  go_enter Tryz.func168, Tryz.ntmps168
  go_wp2_with fail
  refine (is_spec (Cx.mk ts fin true) gt cap base S q (e0 : Int) d 4 cOpen _ (ownT_alloc (ownT_alloc htok _) _) hfew (by decide)).mono ?_
  rintro e w1 ⟨rfl, hb1⟩
  rw [hs]
  obtain ⟨X0, X1, m1, t1⟩ := HM.out.two hb1
  have hX0 := hidI X0
  have hX1 := hidI X1
  have hm1 := hidI m1
  have ht1 := hidI t1
  clear X0 X1 m1 t1 hb1
  obtain ⟨a0, a1, a2, a3, a4, a5, a6, a7, a8, a9, a10, a11, af⟩ := hX0.out.box
  go_wp2_with fail
  refine (is_spec (Cx.mk ts fin true) gt cap base S q (e0 : Int) d 1 sUndef _ hm1.out.tok hfew (by decide)).mono ?_
  rintro e w2 ⟨rfl, hb2⟩
  rw [hs]
  replace hX0 := hidI (hX0.out.below hb2)
  replace hX1 := hidI (hX1.out.below hb2)
  have ht2 := hidI (ht1.out.below hb2)
  have hm2 := hidI (hm1.out.later hb2)
  clear hb2 ht1 hm1
  clear a0 a1 a2 a3 a4 a5 a6 a7 a8 a9 a10 a11 af
  obtain ⟨a0, a1, a2, a3, a4, a5, a6, a7, a8, a9, a10, a11, af⟩ := hX0.out.box
  go_wp2_with fail
  refine (l4Name_spec (Cx.mk ts fin true) gt cap base (.error e0) S q (e0 : Int) d false _ (show Is (.error e0) q _ from rfl) hm2.out).mono ?_
  rintro e w3 ⟨S3, q3, z3, n3, rfl, i3, m3, s3⟩
  replace hX0 := hidI (hX0.out.stp s3)
  replace hX1 := hidI (hX1.out.stp s3)
  have ht3 := hidI (ht2.out.step s3)
  clear ht2
  have hm3 := hidI m3
  have hi3 := hidI i3
  clear i3 m3 s3 hm2
  clear a0 a1 a2 a3 a4 a5 a6 a7 a8 a9 a10 a11 af
  obtain rfl : z3 = (e0 : Int) := hi3.out
  have dz : decide ((0 : Int) ≤ (e0 : Int)) = true := decide_eq_true (by omega)
  have hlt2 : w.heap.size + 1 < w3.heap.size := hX1.out.lt
  unfold pv
  go_upto_region 17 with fail
  refine world_any (R := fun W => Bx gt S3 W (w.heap.size) _ ∧ Bx gt S3 W (w.heap.size + 1) _ ∧ Bx gt S3 W (w3.heap.size) _ ∧ Mem (Cx.mk ts fin true) gt cap base S3 q3 W ∧ SB w.heap.size S w S3 W) ⟨(hX0.out.alloc _), (hX1.out.alloc _), (Bx.new hm3.out _), (hm3.out.alloc _), (ht3.out.alloc _)⟩ ?_
  clear hX0 hX1 ht3 hm3
  rintro w4 ⟨X0, X1, X2, m4, t4⟩
  have hX0 := hidI X0
  have hX1 := hidI X1
  have hX2 := hidI X2
  have hm4 := hidI m4
  have ht4 := hidI t4
  clear m4 t4 X0 X1 X2
  obtain ⟨b0, b1, b2, b3, b4, b5, b6, b7, b8, b9, b10, b11, bf⟩ := hX1.out.box
  obtain ⟨c0, c1, c2, c3, c4, c5, c6, c7, c8, c9, c10, c11, cf⟩ := hX2.out.box
  go_wp2
  refine bodyPost_ret (results_cell_row rfl _ _ (w.heap.size + 1) 53 _ (0, 0) _ rfl ((hX1.out.put _ _ _ _ _ _ _ _ _ _ _ _)).heap Tryz.underlying53 rfl (by kernel_rfl)) rfl ?_
  exact out_done rfl (show Is (.error e0) q3 _ from rfl) (hm4.out.put hX1.out _ _ _ _ _ _ _ _ _ _ _ _) (ht4.out.put (by omega) _ _ _ _ _ _ _ _ _ _ _ _)
set_option maxRecDepth 100000 in
set_option maxHeartbeats 6400000 in
theorem l4Part_undef_true (ts : List Tk) (fin : Nat) (gt cap base : Nat) (S : Sv) (q : PS) (d : Nat) (w : World) (hm : Mem (Cx.mk ts fin true) gt cap base S q w) (hk : ((tokAt (Cx.mk ts fin true) q.pos).kind == 2) = false) (ho : isT (Cx.mk ts fin true) q.pos 4 cOpen = false) (hp : q.pos < (Cx.mk ts fin true).ts.length) (hu : isT (Cx.mk ts fin true) q.pos 1 sUndef = true) :
    Calls Tryz.prog 168 #[pv (Cx.mk ts fin true) gt cap S q (-1) d] w (Out (Cx.mk ts fin true) gt cap base (pE (Cx.mk ts fin true) .part d q) d S w) := by
  have HM := hidI hm
  have htok := hm.tok
  have hfew : (Cx.mk ts fin true).ts.length ≤ 4000 := hm.few
  have hglt := (ownT_lt hm.tok).1
  clear hm
  have HV : Hid (pE (Cx.mk ts fin true) .part d q = tailP (Cx.mk ts fin true) sUndef (adv q)) := by show pE (Cx.mk ts fin true) .part d q = _; rw [pE_part, hk, ho, hu]; rfl
  have hp' : q.pos < ts.length := hp
  obtain ⟨c0, _, _, _⟩ := htok.cells hp (d := ⟨0, sNone, 0, (Cx.mk ts fin true).fin⟩)
  change _ = some (Value.int .i64 (tokAt (Cx.mk ts fin true) q.pos).kind) at c0
  generalize (tokAt (Cx.mk ts fin true) q.pos).kind = kd at c0 hk
  unfold pv
  go_enter Tryz.func168, Tryz.ntmps168
  go_wp2_with fail
  refine (is_spec (Cx.mk ts fin true) gt cap base S q (-1) d 4 cOpen _ (ownT_alloc (ownT_alloc htok _) _) hfew (by decide)).mono ?_
  rintro e w1 ⟨rfl, hb1⟩
  rw [ho]
  obtain ⟨X0, X1, m1, t1⟩ := HM.out.two hb1
  have hX0 := hidI X0
  have hX1 := hidI X1
  have hm1 := hidI m1
  have ht1 := hidI t1
  clear X0 X1 m1 t1 hb1
  obtain ⟨a0, a1, a2, a3, a4, a5, a6, a7, a8, a9, a10, a11, af⟩ := hX0.out.box
  go_wp2_with fail
  refine (is_spec (Cx.mk ts fin true) gt cap base S q (-1) d 1 sUndef _ hm1.out.tok hfew (by decide)).mono ?_
  rintro e w2 ⟨rfl, hb2⟩
  rw [hu]
  replace hX0 := hidI (hX0.out.below hb2)
  replace hX1 := hidI (hX1.out.below hb2)
  have ht2 := hidI (ht1.out.below hb2)
  have hm2 := hidI (hm1.out.later hb2)
  clear hb2 ht1 hm1
  clear a0 a1 a2 a3 a4 a5 a6 a7 a8 a9 a10 a11 af
  obtain ⟨a0, a1, a2, a3, a4, a5, a6, a7, a8, a9, a10, a11, af⟩ := hX0.out.box
  go_wp2_with fail
  refine (l4Tail_spec (Cx.mk ts fin true) gt cap base S (adv q) d sUndef _ ((hm2.out.adv hp).set hX0.out 1 _) (by simp [adv])).mono ?_
  rintro e w3 ⟨S3, q3, z3, rfl, i3, m3, s3⟩
  replace hX0 := hidI ((hX0.out.at1 _).stp s3)
  replace hX1 := hidI ((hX1.out.set_other (by omega) 1 _).stp s3)
  have ht3 : Hid (SB w.heap.size S w S3 w3) := (ht2.out.set (by omega) 1 _).step s3
  clear ht2
  have hm3 := hidI m3
  have hi3 := hidI i3
  clear i3 m3 s3 hm2
  clear a0 a1 a2 a3 a4 a5 a6 a7 a8 a9 a10 a11 af
  obtain ⟨b0, b1, b2, b3, b4, b5, b6, b7, b8, b9, b10, b11, bf⟩ := hX1.out.box
  unfold pv
  go_wp2
  refine bodyPost_ret (results_cell_row rfl _ _ (w.heap.size + 1) 53 _ (0, 0) _ rfl ((hX1.out.put _ _ _ _ _ _ _ _ _ _ _ _)).heap Tryz.underlying53 rfl (by kernel_rfl)) rfl ?_
  rw [HV.out]
  exact out_done rfl hi3.out (hm3.out.put hX1.out _ _ _ _ _ _ _ _ _ _ _ _) (ht3.out.put (by omega) _ _ _ _ _ _ _ _ _ _ _ _)
set_option maxRecDepth 100000 in
set_option maxHeartbeats 6400000 in
theorem l4Part_tail_true (ts : List Tk) (fin : Nat) (gt cap base : Nat) (S : Sv) (q : PS) (d : Nat) (w : World) (hm : Mem (Cx.mk ts fin true) gt cap base S q w) (hk : ((tokAt (Cx.mk ts fin true) q.pos).kind == 2) = false) (ho : isT (Cx.mk ts fin true) q.pos 4 cOpen = false) (hp : q.pos < (Cx.mk ts fin true).ts.length) (hu : isT (Cx.mk ts fin true) q.pos 1 sUndef = false) (hn : plainB (Cx.mk ts fin true) q.pos false = true) (hd : isT (Cx.mk ts fin true) (q.pos + 1) 4 cPoint = false) :
    Calls Tryz.prog 168 #[pv (Cx.mk ts fin true) gt cap S q (-1) d] w (Out (Cx.mk ts fin true) gt cap base (pE (Cx.mk ts fin true) .part d q) d S w) := by
  have HM := hidI hm
  have htok := hm.tok
  have hfew : (Cx.mk ts fin true).ts.length ≤ 4000 := hm.few
  have hglt := (ownT_lt hm.tok).1
  clear hm
  have HV : Hid (pE (Cx.mk ts fin true) .part d q = tailP (Cx.mk ts fin true) (tokAt (Cx.mk ts fin true) q.pos).text (adv q)) := by show pE (Cx.mk ts fin true) .part d q = _; rw [pE_part, hk, ho, hu, nameP, hn]; show (if isT (Cx.mk ts fin true) (adv q).pos 4 cPoint then _ else _) = _; rw [adv_pos, hd]; rfl
  have hp' : q.pos < ts.length := hp
  obtain ⟨c0, _, _, _⟩ := htok.cells hp (d := ⟨0, sNone, 0, (Cx.mk ts fin true).fin⟩)
  change _ = some (Value.int .i64 (tokAt (Cx.mk ts fin true) q.pos).kind) at c0
  generalize (tokAt (Cx.mk ts fin true) q.pos).kind = kd at c0 hk
  unfold pv
  go_enter Tryz.func168, Tryz.ntmps168
  go_wp2_with fail
  refine (is_spec (Cx.mk ts fin true) gt cap base S q (-1) d 4 cOpen _ (ownT_alloc (ownT_alloc htok _) _) hfew (by decide)).mono ?_
  rintro e w1 ⟨rfl, hb1⟩
  rw [ho]
  obtain ⟨X0, X1, m1, t1⟩ := HM.out.two hb1
  have hX0 := hidI X0
  have hX1 := hidI X1
  have hm1 := hidI m1
  have ht1 := hidI t1
  clear X0 X1 m1 t1 hb1
  obtain ⟨a0, a1, a2, a3, a4, a5, a6, a7, a8, a9, a10, a11, af⟩ := hX0.out.box
  go_wp2_with fail
  refine (is_spec (Cx.mk ts fin true) gt cap base S q (-1) d 1 sUndef _ hm1.out.tok hfew (by decide)).mono ?_
  rintro e w2 ⟨rfl, hb2⟩
  rw [hu]
  replace hX0 := hidI (hX0.out.below hb2)
  replace hX1 := hidI (hX1.out.below hb2)
  have ht2 := hidI (ht1.out.below hb2)
  have hm2 := hidI (hm1.out.later hb2)
  clear hb2 ht1 hm1
  clear a0 a1 a2 a3 a4 a5 a6 a7 a8 a9 a10 a11 af
  obtain ⟨a0, a1, a2, a3, a4, a5, a6, a7, a8, a9, a10, a11, af⟩ := hX0.out.box
  go_wp2_with fail
  refine (l4Name_spec (Cx.mk ts fin true) gt cap base (.ok q) S q (-1) d false _ (is_ok q) hm2.out).mono ?_
  rintro e w3 ⟨S3, q3, z3, n3, rfl, i3, m3, s3⟩
  replace hX0 := hidI (hX0.out.stp s3)
  replace hX1 := hidI (hX1.out.stp s3)
  have ht3 := hidI (ht2.out.step s3)
  clear ht2
  have hm3 := hidI m3
  have hi3 := hidI i3
  clear i3 m3 s3 hm2
  clear a0 a1 a2 a3 a4 a5 a6 a7 a8 a9 a10 a11 af
  obtain ⟨hq, rfl, hnm⟩ := name_yes hi3.out hn
  have HQ := hidI hq
  have HNM := hidI hnm
  have hqp : q3.pos = q.pos + 1 := by rw [hq]; rfl
  have hd' : isT (Cx.mk ts fin true) q3.pos 4 cPoint = false := by rw [hqp]; exact hd
  clear hq hnm hi3
  have hlt2 : w.heap.size + 1 < w3.heap.size := hX1.out.lt
  unfold pv
  clear hqp
  go_wp2_with fail
  refine (is_spec (Cx.mk ts fin true) gt cap base S3 q3 (-1) d 4 cPoint _ (hm3.out.alloc _).tok hfew (by decide)).mono ?_
  rintro e w4 ⟨rfl, hb4⟩
  rw [hd']
  replace hX0 := hidI ((hX0.out.alloc _).below hb4)
  replace hX1 := hidI ((hX1.out.alloc _).below hb4)
  replace hX2 := hidI ((Bx.new hm3.out _).below hb4)
  have ht4 : Hid (SB w.heap.size S w S3 w4) := (ht3.out.alloc _).below hb4
  have hm4 : Hid (Mem (Cx.mk ts fin true) gt cap base S3 q3 w4) := (hm3.out.alloc _).later hb4
  clear hb4 ht3 hm3
  obtain ⟨c0, c1, c2, c3, c4, c5, c6, c7, c8, c9, c10, c11, cf⟩ := hX2.out.box
  go_wp2_with fail
  refine (l4Tail_spec (Cx.mk ts fin true) gt cap base S3 q3 d n3 _ hm4.out (by rw [HQ.out]; simp [adv])).mono ?_
  rintro e w5 ⟨S5, q5, z5, rfl, i5, m5, s5⟩
  replace hX0 := hidI (hX0.out.stp s5)
  replace hX1 := hidI (hX1.out.stp s5)
  replace hX2 := hidI (hX2.out.stp s5)
  have ht5 := hidI (ht4.out.step s5)
  clear ht4
  have hm5 := hidI m5
  have hi5 := hidI i5
  clear i5 m5 s5 hm4
  clear c0 c1 c2 c3 c4 c5 c6 c7 c8 c9 c10 c11 cf
  obtain ⟨b0, b1, b2, b3, b4, b5, b6, b7, b8, b9, b10, b11, bf⟩ := hX1.out.box
  unfold pv
  go_wp2
  refine bodyPost_ret (results_cell_row rfl _ _ (w.heap.size + 1) 53 _ (0, 0) _ rfl ((hX1.out.put _ _ _ _ _ _ _ _ _ _ _ _)).heap Tryz.underlying53 rfl (by kernel_rfl)) rfl ?_
  rw [HV.out, ← HQ.out, ← HNM.out]
  exact out_done rfl hi5.out (hm5.out.put hX1.out _ _ _ _ _ _ _ _ _ _ _ _) (ht5.out.put (by omega) _ _ _ _ _ _ _ _ _ _ _ _)
set_option maxRecDepth 100000 in
set_option maxHeartbeats 6400000 in
theorem l4Part_member_true (ts : List Tk) (fin : Nat) (gt cap base : Nat) (S : Sv) (q : PS) (d : Nat) (w : World) (hm : Mem (Cx.mk ts fin true) gt cap base S q w) (hk : ((tokAt (Cx.mk ts fin true) q.pos).kind == 2) = false) (ho : isT (Cx.mk ts fin true) q.pos 4 cOpen = false) (hp : q.pos < (Cx.mk ts fin true).ts.length) (hu : isT (Cx.mk ts fin true) q.pos 1 sUndef = false) (hn : plainB (Cx.mk ts fin true) q.pos false = true) (hd : isT (Cx.mk ts fin true) (q.pos + 1) 4 cPoint = true) :
    Calls Tryz.prog 168 #[pv (Cx.mk ts fin true) gt cap S q (-1) d] w (Out (Cx.mk ts fin true) gt cap base (pE (Cx.mk ts fin true) .part d q) d S w) := by
  have HM := hidI hm
  have htok := hm.tok
  have hfew : (Cx.mk ts fin true).ts.length ≤ 4000 := hm.few
  have hglt := (ownT_lt hm.tok).1
  clear hm
  have HV : Hid (pE (Cx.mk ts fin true) .part d q = bd (bd (.ok (adv (adv q))) (nameP (Cx.mk ts fin true) true)) fun y => memP (Cx.mk ts fin true) (tokAt (Cx.mk ts fin true) q.pos).text y.2 y.1) := by show pE (Cx.mk ts fin true) .part d q = _; rw [pE_part, hk, ho, hu, nameP, hn]; show (if isT (Cx.mk ts fin true) (adv q).pos 4 cPoint then _ else _) = _; rw [adv_pos, hd]; rfl
  have hp' : q.pos < ts.length := hp
  obtain ⟨c0, _, _, _⟩ := htok.cells hp (d := ⟨0, sNone, 0, (Cx.mk ts fin true).fin⟩)
  change _ = some (Value.int .i64 (tokAt (Cx.mk ts fin true) q.pos).kind) at c0
  generalize (tokAt (Cx.mk ts fin true) q.pos).kind = kd at c0 hk
  unfold pv
  go_enter Tryz.func168, Tryz.ntmps168
  go_wp2_with fail
  refine (is_spec (Cx.mk ts fin true) gt cap base S q (-1) d 4 cOpen _ (ownT_alloc (ownT_alloc htok _) _) hfew (by decide)).mono ?_
  rintro e w1 ⟨rfl, hb1⟩
  rw [ho]
  obtain ⟨X0, X1, m1, t1⟩ := HM.out.two hb1
  have hX0 := hidI X0
  have hX1 := hidI X1
  have hm1 := hidI m1
  have ht1 := hidI t1
  clear X0 X1 m1 t1 hb1
  obtain ⟨a0, a1, a2, a3, a4, a5, a6, a7, a8, a9, a10, a11, af⟩ := hX0.out.box
  go_wp2_with fail
  refine (is_spec (Cx.mk ts fin true) gt cap base S q (-1) d 1 sUndef _ hm1.out.tok hfew (by decide)).mono ?_
  rintro e w2 ⟨rfl, hb2⟩
  rw [hu]
  replace hX0 := hidI (hX0.out.below hb2)
  replace hX1 := hidI (hX1.out.below hb2)
  have ht2 := hidI (ht1.out.below hb2)
  have hm2 := hidI (hm1.out.later hb2)
  clear hb2 ht1 hm1
  clear a0 a1 a2 a3 a4 a5 a6 a7 a8 a9 a10 a11 af
  obtain ⟨a0, a1, a2, a3, a4, a5, a6, a7, a8, a9, a10, a11, af⟩ := hX0.out.box
  go_wp2_with fail
  refine (l4Name_spec (Cx.mk ts fin true) gt cap base (.ok q) S q (-1) d false _ (is_ok q) hm2.out).mono ?_
  rintro e w3 ⟨S3, q3, z3, n3, rfl, i3, m3, s3⟩
  replace hX0 := hidI (hX0.out.stp s3)
  replace hX1 := hidI (hX1.out.stp s3)
  have ht3 := hidI (ht2.out.step s3)
  clear ht2
  have hm3 := hidI m3
  have hi3 := hidI i3
  clear i3 m3 s3 hm2
  clear a0 a1 a2 a3 a4 a5 a6 a7 a8 a9 a10 a11 af
  obtain ⟨hq, rfl, hnm⟩ := name_yes hi3.out hn
  have HQ := hidI hq
  have HNM := hidI hnm
  have hqp : q3.pos = q.pos + 1 := by rw [hq]; rfl
  have hd' : isT (Cx.mk ts fin true) q3.pos 4 cPoint = true := by rw [hqp]; exact hd
  clear hq hnm hi3
  have hlt2 : w.heap.size + 1 < w3.heap.size := hX1.out.lt
  unfold pv
  clear hqp
  go_wp2_with fail
  refine (is_spec (Cx.mk ts fin true) gt cap base S3 q3 (-1) d 4 cPoint _ (hm3.out.alloc _).tok hfew (by decide)).mono ?_
  rintro e w4 ⟨rfl, hb4⟩
  rw [hd']
  replace hX0 := hidI ((hX0.out.alloc _).below hb4)
  replace hX1 := hidI ((hX1.out.alloc _).below hb4)
  replace hX2 := hidI ((Bx.new hm3.out _).below hb4)
  have ht4 : Hid (SB w.heap.size S w S3 w4) := (ht3.out.alloc _).below hb4
  have hm4 : Hid (Mem (Cx.mk ts fin true) gt cap base S3 q3 w4) := (hm3.out.alloc _).later hb4
  clear hb4 ht3 hm3
  obtain ⟨c0, c1, c2, c3, c4, c5, c6, c7, c8, c9, c10, c11, cf⟩ := hX2.out.box
  have hp2 : q3.pos < (Cx.mk ts fin true).ts.length := isT_lt hd' (by decide)
  have hp2' : q3.pos < ts.length := hp2
  go_wp2_with fail
  refine (l4Name_spec (Cx.mk ts fin true) gt cap base (.ok (adv q3)) S3 (adv q3) (-1) d true _ (is_ok _) ((hm4.out.adv hp2).set hX2.out 1 _)).mono ?_
  rintro e w5 ⟨S5, q5, z5, n5, rfl, i5, m5, s5⟩
  replace hX0 := hidI ((hX0.out.set_other (by omega) 1 _).stp s5)
  replace hX1 := hidI ((hX1.out.set_other (by omega) 1 _).stp s5)
  replace hX2 := hidI ((hX2.out.at1 _).stp s5)
  have ht5 : Hid (SB w.heap.size S w S5 w5) := (ht4.out.set (by omega) 1 _).step s5
  clear ht4
  have hm5 := hidI m5
  have hi5 := hidI i5
  clear i5 m5 s5 hm4
  clear c0 c1 c2 c3 c4 c5 c6 c7 c8 c9 c10 c11 cf
  have hlt3 : w.heap.size + 1 < w5.heap.size := hX1.out.lt
  have hlt3_2 : w3.heap.size < w5.heap.size := hX2.out.lt
  cases hc : (decide (z5 < 0) && isT (Cx.mk ts fin true) q5.pos 4 cOpen) with
  | true =>
    unfold pv
    go_wp2_with fail
    refine (is_spec (Cx.mk ts fin true) gt cap base S5 q5 z5 d 4 cOpen _ (hm5.out.alloc _).tok hfew (by decide)).mono ?_
    rintro e w6 ⟨rfl, hb6⟩
    rw [hc]
    replace hX0 := hidI ((hX0.out.alloc _).below hb6)
    replace hX1 := hidI ((hX1.out.alloc _).below hb6)
    replace hX2 := hidI ((hX2.out.alloc _).below hb6)
    replace hX3 := hidI ((Bx.new hm5.out _).below hb6)
    have ht6 : Hid (SB w.heap.size S w S5 w6) := (ht5.out.alloc _).below hb6
    have hm6 : Hid (Mem (Cx.mk ts fin true) gt cap base S5 q5 w6) := (hm5.out.alloc _).later hb6
    clear hb6 ht5 hm5
    obtain ⟨d0, d1, d2, d3, d4, d5, d6, d7, d8, d9, d10, d11, df⟩ := hX3.out.box
    go_wp2_with fail
    refine (l4Sign_spec (Cx.mk ts fin true) gt cap base _ S5 q5 z5 d cOpen _ hi5.out.fst hm6.out).mono ?_
    rintro e w7 ⟨S7, q7, z7, rfl, i7, m7, s7⟩
    replace hX0 := hidI (hX0.out.stp s7)
    replace hX1 := hidI (hX1.out.stp s7)
    replace hX2 := hidI (hX2.out.stp s7)
    replace hX3 := hidI (hX3.out.stp s7)
    have ht7 := hidI (ht6.out.step s7)
    clear ht6
    have hm7 := hidI m7
    have hi7 := hidI i7
    clear i7 m7 s7 hm6
    clear d0 d1 d2 d3 d4 d5 d6 d7 d8 d9 d10 d11 df
    go_wp2_with fail
    refine (l4Sign_spec (Cx.mk ts fin true) gt cap base _ S7 q7 z7 d cShut _ hi7.out hm7.out).mono ?_
    rintro e w8 ⟨S8, q8, z8, rfl, i8, m8, s8⟩
    replace hX0 := hidI (hX0.out.stp s8)
    replace hX1 := hidI (hX1.out.stp s8)
    replace hX2 := hidI (hX2.out.stp s8)
    replace hX3 := hidI (hX3.out.stp s8)
    have ht8 := hidI (ht7.out.step s8)
    clear ht7
    have hm8 := hidI m8
    have hi8 := hidI i8
    clear i8 m8 s8 hm7
    obtain ⟨d0, d1, d2, d3, d4, d5, d6, d7, d8, d9, d10, d11, df⟩ := hX3.out.box
    unfold pv
    go_wp2_with fail
    refine (l4Add_spec (Cx.mk ts fin true) gt cap base _ S8 q8 z8 d ⟨5, 0, n3, n5, 0, 0⟩ _ hi8.out (hm8.out.put hX3.out _ _ _ _ _ _ _ _ _ _ _ _) (pos_tok hi8.out)).mono ?_
    rintro e w9 ⟨S9, q9, z9, rfl, i9, m9, s9⟩
    replace hX0 := hidI ((hX0.out.other (by omega) _ _ _ _ _ _ _ _ _ _ _ _).stp s9)
    replace hX1 := hidI ((hX1.out.other (by omega) _ _ _ _ _ _ _ _ _ _ _ _).stp s9)
    replace hX2 := hidI ((hX2.out.other (by omega) _ _ _ _ _ _ _ _ _ _ _ _).stp s9)
    replace hX3 := hidI ((hX3.out.put _ _ _ _ _ _ _ _ _ _ _ _).stp s9)
    have ht9 : Hid (SB w.heap.size S w S9 w9) := (ht8.out.put (by omega) _ _ _ _ _ _ _ _ _ _ _ _).step s9
    clear ht8
    have hm9 := hidI m9
    have hi9 := hidI i9
    clear i9 m9 s9 hm8
    clear d0 d1 d2 d3 d4 d5 d6 d7 d8 d9 d10 d11 df
    obtain ⟨b0, b1, b2, b3, b4, b5, b6, b7, b8, b9, b10, b11, bf⟩ := hX1.out.box
    unfold pv
    go_wp2
    refine bodyPost_ret (results_cell_row rfl _ _ (w.heap.size + 1) 53 _ (0, 0) _ rfl ((hX1.out.put _ _ _ _ _ _ _ _ _ _ _ _)).heap Tryz.underlying53 rfl (by kernel_rfl)) rfl ?_
    rw [HV.out, ← HQ.out, ← HNM.out, ← mem_bind hi5.out hc]
    exact out_done rfl hi9.out (hm9.out.put hX1.out _ _ _ _ _ _ _ _ _ _ _ _) (ht9.out.put (by omega) _ _ _ _ _ _ _ _ _ _ _ _)
  | false =>
    unfold pv
    go_wp2_with fail
    refine (is_spec (Cx.mk ts fin true) gt cap base S5 q5 z5 d 4 cOpen _ (hm5.out.alloc _).tok hfew (by decide)).mono ?_
    rintro e w6 ⟨rfl, hb6⟩
    rw [hc]
    replace hX0 := hidI ((hX0.out.alloc _).below hb6)
    replace hX1 := hidI ((hX1.out.alloc _).below hb6)
    replace hX2 := hidI ((hX2.out.alloc _).below hb6)
    replace hX3 := hidI ((Bx.new hm5.out _).below hb6)
    have ht6 : Hid (SB w.heap.size S w S5 w6) := (ht5.out.alloc _).below hb6
    have hm6 : Hid (Mem (Cx.mk ts fin true) gt cap base S5 q5 w6) := (hm5.out.alloc _).later hb6
    clear hb6 ht5 hm5
    obtain ⟨d0, d1, d2, d3, d4, d5, d6, d7, d8, d9, d10, d11, df⟩ := hX3.out.box
    go_wp2_with fail
    refine (l4Add_spec (Cx.mk ts fin true) gt cap base _ S5 q5 z5 d ⟨4, 0, n3, n5, 0, 0⟩ _ hi5.out.fst hm6.out (pos_name hi5.out)).mono ?_
    rintro e w7 ⟨S7, q7, z7, rfl, i7, m7, s7⟩
    replace hX0 := hidI (hX0.out.stp s7)
    replace hX1 := hidI (hX1.out.stp s7)
    replace hX2 := hidI (hX2.out.stp s7)
    replace hX3 := hidI (hX3.out.stp s7)
    have ht7 := hidI (ht6.out.step s7)
    clear ht6
    have hm7 := hidI m7
    have hi7 := hidI i7
    clear i7 m7 s7 hm6
    clear d0 d1 d2 d3 d4 d5 d6 d7 d8 d9 d10 d11 df
    obtain ⟨b0, b1, b2, b3, b4, b5, b6, b7, b8, b9, b10, b11, bf⟩ := hX1.out.box
    unfold pv
    go_wp2
    refine bodyPost_ret (results_cell_row rfl _ _ (w.heap.size + 1) 53 _ (0, 0) _ rfl ((hX1.out.put _ _ _ _ _ _ _ _ _ _ _ _)).heap Tryz.underlying53 rfl (by kernel_rfl)) rfl ?_
    rw [HV.out, ← HQ.out, ← HNM.out, ← mem_bind' hi5.out hc]
    exact out_done rfl hi7.out (hm7.out.put hX1.out _ _ _ _ _ _ _ _ _ _ _ _) (ht7.out.put (by omega) _ _ _ _ _ _ _ _ _ _ _ _)
end Go.Proofs.YticdggnnpjachaaGreat
namespace Go.Proofs.YticdggnnpjachaaGreat
open Go.RowKit Go.PlainAid

set_option maxRecDepth 100000 in
set_option maxHeartbeats 6400000 in
theorem l4Part_end_false (ts : List Tk) (fin : Nat) (gt cap base : Nat) (S : Sv) (q : PS) (d : Nat) (w : World) (hm : Mem (Cx.mk ts fin false) gt cap base S q w) (hp : ¬ q.pos < (Cx.mk ts fin false).ts.length) :
    Calls Tryz.prog 168 #[pv (Cx.mk ts fin false) gt cap S q (-1) d] w (Out (Cx.mk ts fin false) gt cap base (pE (Cx.mk ts fin false) .part d q) d S w) := by
  have HM := hidI hm
  have htok := hm.tok
  have hfew : (Cx.mk ts fin false).ts.length ≤ 4000 := hm.few
  have hglt := (ownT_lt hm.tok).1
  clear hm
  have hk : ((tokAt (Cx.mk ts fin false) q.pos).kind == 2) = false := by rw [tokAt_none (by omega)]; rfl
  have ho : isT (Cx.mk ts fin false) q.pos 4 cOpen = false := isT_end hp (by decide)
  have hu : isT (Cx.mk ts fin false) q.pos 1 sUndef = false := isT_end hp (by decide)
  have hn : plainB (Cx.mk ts fin false) q.pos false = false := plain_end hp
  have HV : Hid (pE (Cx.mk ts fin false) .part d q = .error (here (Cx.mk ts fin false) q.pos)) := by show pE (Cx.mk ts fin false) .part d q = _; rw [pE_part, hk, ho, nameP, hn]; rfl
  have hp' : ¬ q.pos < ts.length := hp
  unfold pv
  go_enter Tryz.func168, Tryz.ntmps168
  go_wp2_with fail
  refine (is_spec (Cx.mk ts fin false) gt cap base S q (-1) d 4 cOpen _ (ownT_alloc (ownT_alloc htok _) _) hfew (by decide)).mono ?_
  rintro e w1 ⟨rfl, hb1⟩
  rw [ho]
  obtain ⟨X0, X1, m1, t1⟩ := HM.out.two hb1
  have hX0 := hidI X0
  have hX1 := hidI X1
  have hm1 := hidI m1
  have ht1 := hidI t1
  clear X0 X1 m1 t1 hb1
  obtain ⟨a0, a1, a2, a3, a4, a5, a6, a7, a8, a9, a10, a11, af⟩ := hX0.out.box
  go_wp2_with fail
  refine (l4Name_spec (Cx.mk ts fin false) gt cap base (.ok q) S q (-1) d false _ (is_ok q) hm1.out).mono ?_
  rintro e w2 ⟨S2, q2, z2, n2, rfl, i2, m2, s2⟩
  replace hX0 := hidI (hX0.out.stp s2)
  replace hX1 := hidI (hX1.out.stp s2)
  have ht2 := hidI (ht1.out.step s2)
  clear ht1
  have hm2 := hidI m2
  have hi2 := hidI i2
  clear i2 m2 s2 hm1
  clear a0 a1 a2 a3 a4 a5 a6 a7 a8 a9 a10 a11 af
  obtain rfl := name_no hi2.out hn
  have dz : decide ((0 : Int) ≤ (here (Cx.mk ts fin false) q.pos : Int)) = true := decide_eq_true (by omega)
  have hlt2 : w.heap.size + 1 < w2.heap.size := hX1.out.lt
  unfold pv
  go_upto_region 17 with fail
  refine world_any (R := fun W => Bx gt S2 W (w.heap.size) _ ∧ Bx gt S2 W (w.heap.size + 1) _ ∧ Bx gt S2 W (w2.heap.size) _ ∧ Mem (Cx.mk ts fin false) gt cap base S2 q2 W ∧ SB w.heap.size S w S2 W) ⟨(hX0.out.alloc _), (hX1.out.alloc _), (Bx.new hm2.out _), (hm2.out.alloc _), (ht2.out.alloc _)⟩ ?_
  clear hX0 hX1 ht2 hm2
  rintro w3 ⟨X0, X1, X2, m3, t3⟩
  have hX0 := hidI X0
  have hX1 := hidI X1
  have hX2 := hidI X2
  have hm3 := hidI m3
  have ht3 := hidI t3
  clear m3 t3 X0 X1 X2
  obtain ⟨b0, b1, b2, b3, b4, b5, b6, b7, b8, b9, b10, b11, bf⟩ := hX1.out.box
  obtain ⟨c0, c1, c2, c3, c4, c5, c6, c7, c8, c9, c10, c11, cf⟩ := hX2.out.box
  go_wp2
  refine bodyPost_ret (results_cell_row rfl _ _ (w.heap.size + 1) 53 _ (0, 0) _ rfl ((hX1.out.put _ _ _ _ _ _ _ _ _ _ _ _)).heap Tryz.underlying53 rfl (by kernel_rfl)) rfl ?_
  rw [HV.out]
  exact out_done rfl (show Is (.error (here (Cx.mk ts fin false) q.pos)) q2 _ from rfl) (hm3.out.put hX1.out _ _ _ _ _ _ _ _ _ _ _ _) (ht3.out.put (by omega) _ _ _ _ _ _ _ _ _ _ _ _)
set_option maxRecDepth 100000 in
set_option maxHeartbeats 6400000 in
theorem l4Part_none_false (ts : List Tk) (fin : Nat) (gt cap base : Nat) (S : Sv) (q : PS) (d : Nat) (w : World) (hm : Mem (Cx.mk ts fin false) gt cap base S q w) (hk : ((tokAt (Cx.mk ts fin false) q.pos).kind == 2) = false) (ho : isT (Cx.mk ts fin false) q.pos 4 cOpen = false) (hp : q.pos < (Cx.mk ts fin false).ts.length) (hn : plainB (Cx.mk ts fin false) q.pos false = false) :
    Calls Tryz.prog 168 #[pv (Cx.mk ts fin false) gt cap S q (-1) d] w (Out (Cx.mk ts fin false) gt cap base (pE (Cx.mk ts fin false) .part d q) d S w) := by
  have HM := hidI hm
  have htok := hm.tok
  have hfew : (Cx.mk ts fin false).ts.length ≤ 4000 := hm.few
  have hglt := (ownT_lt hm.tok).1
  clear hm
  have HV : Hid (pE (Cx.mk ts fin false) .part d q = .error (here (Cx.mk ts fin false) q.pos)) := by show pE (Cx.mk ts fin false) .part d q = _; rw [pE_part, hk, ho, nameP, hn]; rfl
  have hp' : q.pos < ts.length := hp
  obtain ⟨c0, _, _, _⟩ := htok.cells hp (d := ⟨0, sNone, 0, (Cx.mk ts fin false).fin⟩)
  change _ = some (Value.int .i64 (tokAt (Cx.mk ts fin false) q.pos).kind) at c0
  generalize (tokAt (Cx.mk ts fin false) q.pos).kind = kd at c0 hk
  unfold pv
  go_enter Tryz.func168, Tryz.ntmps168
  go_wp2_with fail
  refine (is_spec (Cx.mk ts fin false) gt cap base S q (-1) d 4 cOpen _ (ownT_alloc (ownT_alloc htok _) _) hfew (by decide)).mono ?_
  rintro e w1 ⟨rfl, hb1⟩
  rw [ho]
  obtain ⟨X0, X1, m1, t1⟩ := HM.out.two hb1
  have hX0 := hidI X0
  have hX1 := hidI X1
  have hm1 := hidI m1
  have ht1 := hidI t1
  clear X0 X1 m1 t1 hb1
  obtain ⟨a0, a1, a2, a3, a4, a5, a6, a7, a8, a9, a10, a11, af⟩ := hX0.out.box
  go_wp2_with fail
  refine (l4Name_spec (Cx.mk ts fin false) gt cap base (.ok q) S q (-1) d false _ (is_ok q) hm1.out).mono ?_
  rintro e w2 ⟨S2, q2, z2, n2, rfl, i2, m2, s2⟩
  replace hX0 := hidI (hX0.out.stp s2)
  replace hX1 := hidI (hX1.out.stp s2)
  have ht2 := hidI (ht1.out.step s2)
  clear ht1
  have hm2 := hidI m2
  have hi2 := hidI i2
  clear i2 m2 s2 hm1
  clear a0 a1 a2 a3 a4 a5 a6 a7 a8 a9 a10 a11 af
  obtain rfl := name_no hi2.out hn
  have dz : decide ((0 : Int) ≤ (here (Cx.mk ts fin false) q.pos : Int)) = true := decide_eq_true (by omega)
  have hlt2 : w.heap.size + 1 < w2.heap.size := hX1.out.lt
  unfold pv
  go_upto_region 17 with fail
  refine world_any (R := fun W => Bx gt S2 W (w.heap.size) _ ∧ Bx gt S2 W (w.heap.size + 1) _ ∧ Bx gt S2 W (w2.heap.size) _ ∧ Mem (Cx.mk ts fin false) gt cap base S2 q2 W ∧ SB w.heap.size S w S2 W) ⟨(hX0.out.alloc _), (hX1.out.alloc _), (Bx.new hm2.out _), (hm2.out.alloc _), (ht2.out.alloc _)⟩ ?_
  clear hX0 hX1 ht2 hm2
  rintro w3 ⟨X0, X1, X2, m3, t3⟩
  have hX0 := hidI X0
  have hX1 := hidI X1
  have hX2 := hidI X2
  have hm3 := hidI m3
  have ht3 := hidI t3
  clear m3 t3 X0 X1 X2
  obtain ⟨b0, b1, b2, b3, b4, b5, b6, b7, b8, b9, b10, b11, bf⟩ := hX1.out.box
  obtain ⟨c0, c1, c2, c3, c4, c5, c6, c7, c8, c9, c10, c11, cf⟩ := hX2.out.box
  go_wp2
  refine bodyPost_ret (results_cell_row rfl _ _ (w.heap.size + 1) 53 _ (0, 0) _ rfl ((hX1.out.put _ _ _ _ _ _ _ _ _ _ _ _)).heap Tryz.underlying53 rfl (by kernel_rfl)) rfl ?_
  rw [HV.out]
  exact out_done rfl (show Is (.error (here (Cx.mk ts fin false) q.pos)) q2 _ from rfl) (hm3.out.put hX1.out _ _ _ _ _ _ _ _ _ _ _ _) (ht3.out.put (by omega) _ _ _ _ _ _ _ _ _ _ _ _)
set_option maxRecDepth 100000 in
set_option maxHeartbeats 6400000 in
theorem l4Part_bad_false (ts : List Tk) (fin : Nat) (gt cap base : Nat) (S : Sv) (q : PS) (d : Nat) (w : World) (hm : Mem (Cx.mk ts fin false) gt cap base S q w) (e0 : Nat) :
    Calls Tryz.prog 168 #[pv (Cx.mk ts fin false) gt cap S q (e0 : Int) d] w (Out (Cx.mk ts fin false) gt cap base (.error e0) d S w) := by
  have HM := hidI hm
  have htok := hm.tok
  have hfew : (Cx.mk ts fin false).ts.length ≤ 4000 := hm.few
  have hglt := (ownT_lt hm.tok).1
  clear hm
  have hz : ¬ (e0 : Int) < 0 := by omega
  have hs : ∀ k s, (decide ((e0 : Int) < 0) && isT (Cx.mk ts fin false) q.pos k s) = false := fun k s => by rw [decide_eq_false hz]; rfl
  unfold pv
  go_enter Tryz.func168, Tryz.ntmps168
  go_wp2_with fail
  refine (is_spec (Cx.mk ts fin false) gt cap base S q (e0 : Int) d 4 cOpen _ (ownT_alloc (ownT_alloc htok _) _) hfew (by decide)).mono ?_
  rintro e w1 ⟨rfl, hb1⟩
  rw [hs]
  obtain ⟨X0, X1, m1, t1⟩ := HM.out.two hb1
  have hX0 := hidI X0
  have hX1 := hidI X1
  have hm1 := hidI m1
  have ht1 := hidI t1
  clear X0 X1 m1 t1 hb1
  obtain ⟨a0, a1, a2, a3, a4, a5, a6, a7, a8, a9, a10, a11, af⟩ := hX0.out.box
  go_wp2_with fail
  refine (l4Name_spec (Cx.mk ts fin false) gt cap base (.error e0) S q (e0 : Int) d false _ (show Is (.error e0) q _ from rfl) hm1.out).mono ?_
  rintro e w2 ⟨S2, q2, z2, n2, rfl, i2, m2, s2⟩
  replace hX0 := hidI (hX0.out.stp s2)
  replace hX1 := hidI (hX1.out.stp s2)
  have ht2 := hidI (ht1.out.step s2)
  clear ht1
  have hm2 := hidI m2
  have hi2 := hidI i2
  clear i2 m2 s2 hm1
  clear a0 a1 a2 a3 a4 a5 a6 a7 a8 a9 a10 a11 af
  obtain rfl : z2 = (e0 : Int) := hi2.out
  have dz : decide ((0 : Int) ≤ (e0 : Int)) = true := decide_eq_true (by omega)
  have hlt2 : w.heap.size + 1 < w2.heap.size := hX1.out.lt
  unfold pv
  go_upto_region 17 with fail
  refine world_any (R := fun W => Bx gt S2 W (w.heap.size) _ ∧ Bx gt S2 W (w.heap.size + 1) _ ∧ Bx gt S2 W (w2.heap.size) _ ∧ Mem (Cx.mk ts fin false) gt cap base S2 q2 W ∧ SB w.heap.size S w S2 W) ⟨(hX0.out.alloc _), (hX1.out.alloc _), (Bx.new hm2.out _), (hm2.out.alloc _), (ht2.out.alloc _)⟩ ?_
  clear hX0 hX1 ht2 hm2
  rintro w3 ⟨X0, X1, X2, m3, t3⟩
  have hX0 := hidI X0
  have hX1 := hidI X1
  have hX2 := hidI X2
  have hm3 := hidI m3
  have ht3 := hidI t3
  clear m3 t3 X0 X1 X2
  obtain ⟨b0, b1, b2, b3, b4, b5, b6, b7, b8, b9, b10, b11, bf⟩ := hX1.out.box
  obtain ⟨c0, c1, c2, c3, c4, c5, c6, c7, c8, c9, c10, c11, cf⟩ := hX2.out.box
  go_wp2
  refine bodyPost_ret (results_cell_row rfl _ _ (w.heap.size + 1) 53 _ (0, 0) _ rfl ((hX1.out.put _ _ _ _ _ _ _ _ _ _ _ _)).heap Tryz.underlying53 rfl (by kernel_rfl)) rfl ?_
  exact out_done rfl (show Is (.error e0) q2 _ from rfl) (hm3.out.put hX1.out _ _ _ _ _ _ _ _ _ _ _ _) (ht3.out.put (by omega) _ _ _ _ _ _ _ _ _ _ _ _)
set_option maxRecDepth 100000 in
set_option maxHeartbeats 6400000 in
theorem l4Part_tail_false (ts : List Tk) (fin : Nat) (gt cap base : Nat) (S : Sv) (q : PS) (d : Nat) (w : World) (hm : Mem (Cx.mk ts fin false) gt cap base S q w) (hk : ((tokAt (Cx.mk ts fin false) q.pos).kind == 2) = false) (ho : isT (Cx.mk ts fin false) q.pos 4 cOpen = false) (hp : q.pos < (Cx.mk ts fin false).ts.length) (hn : plainB (Cx.mk ts fin false) q.pos false = true) (hd : isT (Cx.mk ts fin false) (q.pos + 1) 4 cPoint = false) :
    Calls Tryz.prog 168 #[pv (Cx.mk ts fin false) gt cap S q (-1) d] w (Out (Cx.mk ts fin false) gt cap base (pE (Cx.mk ts fin false) .part d q) d S w) := by
  have HM := hidI hm
  have htok := hm.tok
  have hfew : (Cx.mk ts fin false).ts.length ≤ 4000 := hm.few
  have hglt := (ownT_lt hm.tok).1
  clear hm
  have HV : Hid (pE (Cx.mk ts fin false) .part d q = tailP (Cx.mk ts fin false) (tokAt (Cx.mk ts fin false) q.pos).text (adv q)) := by show pE (Cx.mk ts fin false) .part d q = _; rw [pE_part, hk, ho, nameP, hn]; show (if isT (Cx.mk ts fin false) (adv q).pos 4 cPoint then _ else _) = _; rw [adv_pos, hd]; rfl
  have hp' : q.pos < ts.length := hp
  obtain ⟨c0, _, _, _⟩ := htok.cells hp (d := ⟨0, sNone, 0, (Cx.mk ts fin false).fin⟩)
  change _ = some (Value.int .i64 (tokAt (Cx.mk ts fin false) q.pos).kind) at c0
  generalize (tokAt (Cx.mk ts fin false) q.pos).kind = kd at c0 hk
  unfold pv
  go_enter Tryz.func168, Tryz.ntmps168
  go_wp2_with fail
  refine (is_spec (Cx.mk ts fin false) gt cap base S q (-1) d 4 cOpen _ (ownT_alloc (ownT_alloc htok _) _) hfew (by decide)).mono ?_
  rintro e w1 ⟨rfl, hb1⟩
  rw [ho]
  obtain ⟨X0, X1, m1, t1⟩ := HM.out.two hb1
  have hX0 := hidI X0
  have hX1 := hidI X1
  have hm1 := hidI m1
  have ht1 := hidI t1
  clear X0 X1 m1 t1 hb1
  obtain ⟨a0, a1, a2, a3, a4, a5, a6, a7, a8, a9, a10, a11, af⟩ := hX0.out.box
  go_wp2_with fail
  refine (l4Name_spec (Cx.mk ts fin false) gt cap base (.ok q) S q (-1) d false _ (is_ok q) hm1.out).mono ?_
  rintro e w2 ⟨S2, q2, z2, n2, rfl, i2, m2, s2⟩
  replace hX0 := hidI (hX0.out.stp s2)
  replace hX1 := hidI (hX1.out.stp s2)
  have ht2 := hidI (ht1.out.step s2)
  clear ht1
  have hm2 := hidI m2
  have hi2 := hidI i2
  clear i2 m2 s2 hm1
  clear a0 a1 a2 a3 a4 a5 a6 a7 a8 a9 a10 a11 af
  obtain ⟨hq, rfl, hnm⟩ := name_yes hi2.out hn
  have HQ := hidI hq
  have HNM := hidI hnm
  have hqp : q2.pos = q.pos + 1 := by rw [hq]; rfl
  have hd' : isT (Cx.mk ts fin false) q2.pos 4 cPoint = false := by rw [hqp]; exact hd
  clear hq hnm hi2
  have hlt2 : w.heap.size + 1 < w2.heap.size := hX1.out.lt
  unfold pv
  clear hqp
  go_wp2_with fail
  refine (is_spec (Cx.mk ts fin false) gt cap base S2 q2 (-1) d 4 cPoint _ (hm2.out.alloc _).tok hfew (by decide)).mono ?_
  rintro e w3 ⟨rfl, hb3⟩
  rw [hd']
  replace hX0 := hidI ((hX0.out.alloc _).below hb3)
  replace hX1 := hidI ((hX1.out.alloc _).below hb3)
  replace hX2 := hidI ((Bx.new hm2.out _).below hb3)
  have ht3 : Hid (SB w.heap.size S w S2 w3) := (ht2.out.alloc _).below hb3
  have hm3 : Hid (Mem (Cx.mk ts fin false) gt cap base S2 q2 w3) := (hm2.out.alloc _).later hb3
  clear hb3 ht2 hm2
  obtain ⟨c0, c1, c2, c3, c4, c5, c6, c7, c8, c9, c10, c11, cf⟩ := hX2.out.box
  go_wp2_with fail
  refine (l4Tail_spec (Cx.mk ts fin false) gt cap base S2 q2 d n2 _ hm3.out (by rw [HQ.out]; simp [adv])).mono ?_
  rintro e w4 ⟨S4, q4, z4, rfl, i4, m4, s4⟩
  replace hX0 := hidI (hX0.out.stp s4)
  replace hX1 := hidI (hX1.out.stp s4)
  replace hX2 := hidI (hX2.out.stp s4)
  have ht4 := hidI (ht3.out.step s4)
  clear ht3
  have hm4 := hidI m4
  have hi4 := hidI i4
  clear i4 m4 s4 hm3
  clear c0 c1 c2 c3 c4 c5 c6 c7 c8 c9 c10 c11 cf
  obtain ⟨b0, b1, b2, b3, b4, b5, b6, b7, b8, b9, b10, b11, bf⟩ := hX1.out.box
  unfold pv
  go_wp2
  refine bodyPost_ret (results_cell_row rfl _ _ (w.heap.size + 1) 53 _ (0, 0) _ rfl ((hX1.out.put _ _ _ _ _ _ _ _ _ _ _ _)).heap Tryz.underlying53 rfl (by kernel_rfl)) rfl ?_
  rw [HV.out, ← HQ.out, ← HNM.out]
  exact out_done rfl hi4.out (hm4.out.put hX1.out _ _ _ _ _ _ _ _ _ _ _ _) (ht4.out.put (by omega) _ _ _ _ _ _ _ _ _ _ _ _)
set_option maxRecDepth 100000 in
set_option maxHeartbeats 6400000 in
theorem l4Part_member_false (ts : List Tk) (fin : Nat) (gt cap base : Nat) (S : Sv) (q : PS) (d : Nat) (w : World) (hm : Mem (Cx.mk ts fin false) gt cap base S q w) (hk : ((tokAt (Cx.mk ts fin false) q.pos).kind == 2) = false) (ho : isT (Cx.mk ts fin false) q.pos 4 cOpen = false) (hp : q.pos < (Cx.mk ts fin false).ts.length) (hn : plainB (Cx.mk ts fin false) q.pos false = true) (hd : isT (Cx.mk ts fin false) (q.pos + 1) 4 cPoint = true) :
    Calls Tryz.prog 168 #[pv (Cx.mk ts fin false) gt cap S q (-1) d] w (Out (Cx.mk ts fin false) gt cap base (pE (Cx.mk ts fin false) .part d q) d S w) := by
  have HM := hidI hm
  have htok := hm.tok
  have hfew : (Cx.mk ts fin false).ts.length ≤ 4000 := hm.few
  have hglt := (ownT_lt hm.tok).1
  clear hm
  have HV : Hid (pE (Cx.mk ts fin false) .part d q = bd (bd (.ok (adv (adv q))) (nameP (Cx.mk ts fin false) true)) fun y => memP (Cx.mk ts fin false) (tokAt (Cx.mk ts fin false) q.pos).text y.2 y.1) := by show pE (Cx.mk ts fin false) .part d q = _; rw [pE_part, hk, ho, nameP, hn]; show (if isT (Cx.mk ts fin false) (adv q).pos 4 cPoint then _ else _) = _; rw [adv_pos, hd]; rfl
  have hp' : q.pos < ts.length := hp
  obtain ⟨c0, _, _, _⟩ := htok.cells hp (d := ⟨0, sNone, 0, (Cx.mk ts fin false).fin⟩)
  change _ = some (Value.int .i64 (tokAt (Cx.mk ts fin false) q.pos).kind) at c0
  generalize (tokAt (Cx.mk ts fin false) q.pos).kind = kd at c0 hk
  unfold pv
  go_enter Tryz.func168, Tryz.ntmps168
  go_wp2_with fail
  refine (is_spec (Cx.mk ts fin false) gt cap base S q (-1) d 4 cOpen _ (ownT_alloc (ownT_alloc htok _) _) hfew (by decide)).mono ?_
  rintro e w1 ⟨rfl, hb1⟩
  rw [ho]
  obtain ⟨X0, X1, m1, t1⟩ := HM.out.two hb1
  have hX0 := hidI X0
  have hX1 := hidI X1
  have hm1 := hidI m1
  have ht1 := hidI t1
  clear X0 X1 m1 t1 hb1
  obtain ⟨a0, a1, a2, a3, a4, a5, a6, a7, a8, a9, a10, a11, af⟩ := hX0.out.box
  go_wp2_with fail
  refine (l4Name_spec (Cx.mk ts fin false) gt cap base (.ok q) S q (-1) d false _ (is_ok q) hm1.out).mono ?_
  rintro e w2 ⟨S2, q2, z2, n2, rfl, i2, m2, s2⟩
  replace hX0 := hidI (hX0.out.stp s2)
  replace hX1 := hidI (hX1.out.stp s2)
  have ht2 := hidI (ht1.out.step s2)
  clear ht1
  have hm2 := hidI m2
  have hi2 := hidI i2
  clear i2 m2 s2 hm1
  clear a0 a1 a2 a3 a4 a5 a6 a7 a8 a9 a10 a11 af
  obtain ⟨hq, rfl, hnm⟩ := name_yes hi2.out hn
  have HQ := hidI hq
  have HNM := hidI hnm
  have hqp : q2.pos = q.pos + 1 := by rw [hq]; rfl
  have hd' : isT (Cx.mk ts fin false) q2.pos 4 cPoint = true := by rw [hqp]; exact hd
  clear hq hnm hi2
  have hlt2 : w.heap.size + 1 < w2.heap.size := hX1.out.lt
  unfold pv
  clear hqp
  go_wp2_with fail
  refine (is_spec (Cx.mk ts fin false) gt cap base S2 q2 (-1) d 4 cPoint _ (hm2.out.alloc _).tok hfew (by decide)).mono ?_
  rintro e w3 ⟨rfl, hb3⟩
  rw [hd']
  replace hX0 := hidI ((hX0.out.alloc _).below hb3)
  replace hX1 := hidI ((hX1.out.alloc _).below hb3)
  replace hX2 := hidI ((Bx.new hm2.out _).below hb3)
  have ht3 : Hid (SB w.heap.size S w S2 w3) := (ht2.out.alloc _).below hb3
  have hm3 : Hid (Mem (Cx.mk ts fin false) gt cap base S2 q2 w3) := (hm2.out.alloc _).later hb3
  clear hb3 ht2 hm2
  obtain ⟨c0, c1, c2, c3, c4, c5, c6, c7, c8, c9, c10, c11, cf⟩ := hX2.out.box
  have hp2 : q2.pos < (Cx.mk ts fin false).ts.length := isT_lt hd' (by decide)
  have hp2' : q2.pos < ts.length := hp2
  go_wp2_with fail
  refine (l4Name_spec (Cx.mk ts fin false) gt cap base (.ok (adv q2)) S2 (adv q2) (-1) d true _ (is_ok _) ((hm3.out.adv hp2).set hX2.out 1 _)).mono ?_
  rintro e w4 ⟨S4, q4, z4, n4, rfl, i4, m4, s4⟩
  replace hX0 := hidI ((hX0.out.set_other (by omega) 1 _).stp s4)
  replace hX1 := hidI ((hX1.out.set_other (by omega) 1 _).stp s4)
  replace hX2 := hidI ((hX2.out.at1 _).stp s4)
  have ht4 : Hid (SB w.heap.size S w S4 w4) := (ht3.out.set (by omega) 1 _).step s4
  clear ht3
  have hm4 := hidI m4
  have hi4 := hidI i4
  clear i4 m4 s4 hm3
  clear c0 c1 c2 c3 c4 c5 c6 c7 c8 c9 c10 c11 cf
  have hlt3 : w.heap.size + 1 < w4.heap.size := hX1.out.lt
  have hlt3_2 : w2.heap.size < w4.heap.size := hX2.out.lt
  cases hc : (decide (z4 < 0) && isT (Cx.mk ts fin false) q4.pos 4 cOpen) with
  | true =>
    unfold pv
    go_wp2_with fail
    refine (is_spec (Cx.mk ts fin false) gt cap base S4 q4 z4 d 4 cOpen _ (hm4.out.alloc _).tok hfew (by decide)).mono ?_
    rintro e w5 ⟨rfl, hb5⟩
    rw [hc]
    replace hX0 := hidI ((hX0.out.alloc _).below hb5)
    replace hX1 := hidI ((hX1.out.alloc _).below hb5)
    replace hX2 := hidI ((hX2.out.alloc _).below hb5)
    replace hX3 := hidI ((Bx.new hm4.out _).below hb5)
    have ht5 : Hid (SB w.heap.size S w S4 w5) := (ht4.out.alloc _).below hb5
    have hm5 : Hid (Mem (Cx.mk ts fin false) gt cap base S4 q4 w5) := (hm4.out.alloc _).later hb5
    clear hb5 ht4 hm4
    obtain ⟨d0, d1, d2, d3, d4, d5, d6, d7, d8, d9, d10, d11, df⟩ := hX3.out.box
    go_wp2_with fail
    refine (l4Sign_spec (Cx.mk ts fin false) gt cap base _ S4 q4 z4 d cOpen _ hi4.out.fst hm5.out).mono ?_
    rintro e w6 ⟨S6, q6, z6, rfl, i6, m6, s6⟩
    replace hX0 := hidI (hX0.out.stp s6)
    replace hX1 := hidI (hX1.out.stp s6)
    replace hX2 := hidI (hX2.out.stp s6)
    replace hX3 := hidI (hX3.out.stp s6)
    have ht6 := hidI (ht5.out.step s6)
    clear ht5
    have hm6 := hidI m6
    have hi6 := hidI i6
    clear i6 m6 s6 hm5
    clear d0 d1 d2 d3 d4 d5 d6 d7 d8 d9 d10 d11 df
    go_wp2_with fail
    refine (l4Sign_spec (Cx.mk ts fin false) gt cap base _ S6 q6 z6 d cShut _ hi6.out hm6.out).mono ?_
    rintro e w7 ⟨S7, q7, z7, rfl, i7, m7, s7⟩
    replace hX0 := hidI (hX0.out.stp s7)
    replace hX1 := hidI (hX1.out.stp s7)
    replace hX2 := hidI (hX2.out.stp s7)
    replace hX3 := hidI (hX3.out.stp s7)
    have ht7 := hidI (ht6.out.step s7)
    clear ht6
    have hm7 := hidI m7
    have hi7 := hidI i7
    clear i7 m7 s7 hm6
    obtain ⟨d0, d1, d2, d3, d4, d5, d6, d7, d8, d9, d10, d11, df⟩ := hX3.out.box
    unfold pv
    go_wp2_with fail
    refine (l4Add_spec (Cx.mk ts fin false) gt cap base _ S7 q7 z7 d ⟨5, 0, n2, n4, 0, 0⟩ _ hi7.out (hm7.out.put hX3.out _ _ _ _ _ _ _ _ _ _ _ _) (pos_tok hi7.out)).mono ?_
    rintro e w8 ⟨S8, q8, z8, rfl, i8, m8, s8⟩
    replace hX0 := hidI ((hX0.out.other (by omega) _ _ _ _ _ _ _ _ _ _ _ _).stp s8)
    replace hX1 := hidI ((hX1.out.other (by omega) _ _ _ _ _ _ _ _ _ _ _ _).stp s8)
    replace hX2 := hidI ((hX2.out.other (by omega) _ _ _ _ _ _ _ _ _ _ _ _).stp s8)
    replace hX3 := hidI ((hX3.out.put _ _ _ _ _ _ _ _ _ _ _ _).stp s8)
    have ht8 : Hid (SB w.heap.size S w S8 w8) := (ht7.out.put (by omega) _ _ _ _ _ _ _ _ _ _ _ _).step s8
    clear ht7
    have hm8 := hidI m8
    have hi8 := hidI i8
    clear i8 m8 s8 hm7
    clear d0 d1 d2 d3 d4 d5 d6 d7 d8 d9 d10 d11 df
    obtain ⟨b0, b1, b2, b3, b4, b5, b6, b7, b8, b9, b10, b11, bf⟩ := hX1.out.box
    unfold pv
    go_wp2
    refine bodyPost_ret (results_cell_row rfl _ _ (w.heap.size + 1) 53 _ (0, 0) _ rfl ((hX1.out.put _ _ _ _ _ _ _ _ _ _ _ _)).heap Tryz.underlying53 rfl (by kernel_rfl)) rfl ?_
    rw [HV.out, ← HQ.out, ← HNM.out, ← mem_bind hi4.out hc]
    exact out_done rfl hi8.out (hm8.out.put hX1.out _ _ _ _ _ _ _ _ _ _ _ _) (ht8.out.put (by omega) _ _ _ _ _ _ _ _ _ _ _ _)
  | false =>
    unfold pv
    go_wp2_with fail
    refine (is_spec (Cx.mk ts fin false) gt cap base S4 q4 z4 d 4 cOpen _ (hm4.out.alloc _).tok hfew (by decide)).mono ?_
    rintro e w5 ⟨rfl, hb5⟩
    rw [hc]
    replace hX0 := hidI ((hX0.out.alloc _).below hb5)
    replace hX1 := hidI ((hX1.out.alloc _).below hb5)
    replace hX2 := hidI ((hX2.out.alloc _).below hb5)
    replace hX3 := hidI ((Bx.new hm4.out _).below hb5)
    have ht5 : Hid (SB w.heap.size S w S4 w5) := (ht4.out.alloc _).below hb5
    have hm5 : Hid (Mem (Cx.mk ts fin false) gt cap base S4 q4 w5) := (hm4.out.alloc _).later hb5
    clear hb5 ht4 hm4
    obtain ⟨d0, d1, d2, d3, d4, d5, d6, d7, d8, d9, d10, d11, df⟩ := hX3.out.box
    go_wp2_with fail
    refine (l4Add_spec (Cx.mk ts fin false) gt cap base _ S4 q4 z4 d ⟨4, 0, n2, n4, 0, 0⟩ _ hi4.out.fst hm5.out (pos_name hi4.out)).mono ?_
    rintro e w6 ⟨S6, q6, z6, rfl, i6, m6, s6⟩
    replace hX0 := hidI (hX0.out.stp s6)
    replace hX1 := hidI (hX1.out.stp s6)
    replace hX2 := hidI (hX2.out.stp s6)
    replace hX3 := hidI (hX3.out.stp s6)
    have ht6 := hidI (ht5.out.step s6)
    clear ht5
    have hm6 := hidI m6
    have hi6 := hidI i6
    clear i6 m6 s6 hm5
    clear d0 d1 d2 d3 d4 d5 d6 d7 d8 d9 d10 d11 df
    obtain ⟨b0, b1, b2, b3, b4, b5, b6, b7, b8, b9, b10, b11, bf⟩ := hX1.out.box
    unfold pv
    go_wp2
    refine bodyPost_ret (results_cell_row rfl _ _ (w.heap.size + 1) 53 _ (0, 0) _ rfl ((hX1.out.put _ _ _ _ _ _ _ _ _ _ _ _)).heap Tryz.underlying53 rfl (by kernel_rfl)) rfl ?_
    rw [HV.out, ← HQ.out, ← HNM.out, ← mem_bind' hi4.out hc]
    exact out_done rfl hi6.out (hm6.out.put hX1.out _ _ _ _ _ _ _ _ _ _ _ _) (ht6.out.put (by omega) _ _ _ _ _ _ _ _ _ _ _ _)
end Go.Proofs.YticdggnnpjachaaGreat
