/-
  What impl.Parse answers: the walk.
  What the laws' helpers over rows lean on. No program is spoken of.
  What the laws' comparers of lists answer where both show the same: the walks.
  What markText of the laws answers: the walk.
  Rows of the call's own that are marked cell by cell. No program is spoken of.
  What the laws' markers of lists answer: the walks.
-/
import Derived.Test.YticdggnnpjachaaGreatCaImplParseYToImplProgM
import Derived.Test.YticdggnnpjachaaGreatCaImplCatch
import Derived.Test.YticdggnnpjachaaGreatCaImplLex
namespace Go.Proofs.YticdggnnpjachaaGreat
open Go.RowKit Go.PlainAid Go.Sort

theorem ext_size (s : ByteArray) (a b : Nat) : (s.extract a b).size ≤ s.size := by
  rw [ByteArray.size_extract]
  omega
theorem tok_size {s : ByteArray} {scr : Bool} {a e : Nat} {t : Tk} (h : Tok s scr a t e) : t.text.size ≤ s.size := by
  cases h using Tok.elim with
  | name h he => exact ext_size _ _ _
  | num h he => exact Nat.zero_le _
  | str h he => exact ext_size _ _ _
  | sign h => exact ext_size _ _ _
theorem lx_size {s : ByteArray} {scr : Bool} {a n : Nat} {r : Except Nat (List Tk)} (h : Lx s scr a n r) : ∀ ts, r = .ok ts → ∀ t ∈ ts, t.text.size ≤ s.size := by
  induction h using Lx.ind with
  | done => intro ts hr; cases hr; intro t ht; cases ht
  | bad _ _ => intro ts hr; cases hr
  | @tok a n e b t r h hn ht hs hr ih =>
    intro ts hts
    cases r with
    | error p => simp [Except.map] at hts
    | ok l =>
      simp only [Except.map, Except.ok.injEq] at hts
      subst hts
      intro x hx
      rcases List.mem_cons.1 hx with rfl | hx
      · exact tok_size ht
      · exact ih l rfl x hx
theorem lexR_sized {s : ByteArray} {scr : Bool} {ts : List Tk} (h : LexR s scr (.ok ts)) (hs : s.size ≤ 4294967296) : Sized ⟨ts, s.size, scr⟩ := by
  obtain ⟨a, _, hl⟩ := h
  intro i
  by_cases hi : i < ts.length
  · have : tokAt ⟨ts, s.size, scr⟩ i ∈ ts := by
      rw [tokAt, List.getD, List.getElem?_eq_getElem hi]
      exact List.getElem_mem hi
    have := lx_size hl ts rfl _ this
    omega
  · rw [tokAt_none (by show ts.length ≤ i; omega)]
    exact Nat.zero_le _
theorem results_cells {P : Program} {fn : Func} {p u : Tmp} {ty tz : TypeId} (h : fn.results = #[.cell p ty, .cell u tz]) (tmps : Array Value) (w : World) (g g2 : Nat) (t t2 : TypeId) (cs : Array Value) (v : Value) (d : TypeDesc) (k : IntKind)
    (hp : tmps.getD p undef = .pointer (some ⟨g, 0, none⟩)) (hg : w.heap[g]? = some (.cells cs t (0, 0)))
    (hu : P.underlying ty = some d) (hd : (match d with | .struct _ | .array _ _ => true | _ => false) = true) (hi : (P.info? ty).map (·.size) = some cs.size)
    (hq : tmps.getD u undef = .pointer (some ⟨g2, 0, none⟩)) (hg2 : w.heap[g2]? = some (.cells #[v] t2 (0, 0))) (hz : P.underlying tz = some (.int k)) (hv : ∃ n, v = .int k n) :
    (results fn tmps).run P w = .ok (.tuple #[.agg cs, v]) w := by
  obtain ⟨n, rfl⟩ := hv
  have h1 := run_loadVar_row w g t ty cs (0, 0) d hg hu hd hi
  have h2 : (loadVar tz ⟨g2, 0, none⟩).run P w = .ok (.int k n) w := by
    have hc : w.cell? ⟨g2, 0, none⟩ = some (.int k n) := by simp [World.cell?, hg2]
    simp [go_sem, isAgg, run_underlying hz, hc]
  have e : (results fn tmps).run P w = ((asAddr (tmps.getD p undef)).run P w).andThen fun a w₁ => ((loadVar ty a).run P w₁).andThen fun v w₂ => ((asAddr (tmps.getD u undef)).run P w₂).andThen fun b w₃ => ((loadVar tz b).run P w₃).andThen fun x w₄ => .ok (.tuple #[v, x]) w₄ := by
    simp only [results, h]
    simp [Sem.run_bind, Result.andThen]
  rw [e, hp, hq]
  simp [asAddr, Result.andThen, h1, h2]
theorem set5_other {w : World} {b k : Nat} {x0 x1 x2 x3 x4 : Value} (h : k ≠ b) : (((((w.setCell ⟨b, 0, none⟩ x0).setCell ⟨b, 1, none⟩ x1).setCell ⟨b, 2, none⟩ x2).setCell ⟨b, 3, none⟩ x3).setCell ⟨b, 4, none⟩ x4).heap[k]? = w.heap[k]? := by
  rw [pother h, pother h, pother h, pother h, pother h]
theorem qone {w : World} {b : Nat} {u v : Value} {t : TypeId} (h : w.heap[b]? = some (.cells #[v] t (0, 0))) : (w.setCell ⟨b, 0, none⟩ u).heap[b]? = some (.cells #[u] t (0, 0)) := (qcell h).trans (by simp)
theorem OwnMod.keepI {w w' : World} {base : Nat} {S : Sv} {q : PS} (h : OwnMod w base S q) (hk : ∀ k, base ≤ k → w'.heap[k]? = w.heap[k]?) : OwnMod w' base S q :=
  ⟨h.rq.keep fun k g => hk k (h.rq.typed g).1, h.im.keep fun k g => hk k (h.im.typed g).1, h.ep.keep fun k g => hk k (h.ep.typed g).1, h.st.keep fun k g => hk k (h.st.typed g).1, h.ex.keep fun k g => hk k (h.ex.typed g).1, h.inv⟩
theorem OwnMod.lowI {w : World} {base base' : Nat} {S : Sv} {q : PS} (h : OwnMod w base S q) (hb : base' ≤ base) : OwnMod w base' S q := ⟨h.rq.low hb, h.im.low hb, h.ep.low hb, h.st.low hb, h.ex.low hb, h.inv⟩
theorem program_any (C : Cx) (gt cap base gp : Nat) (S : Sv) (q : PS) (w : World) (h : IM C gt cap base gp S q w) (hC : Sized C) :
    Calls Tryz.prog 24 #[.pointer (some ⟨gp, 0, none⟩)] w (PrOut base gp (itemsP C q) w) := by
  cases hs : C.scr with
  | true => exact program_S C gt cap base gp S q w h hs
  | false => exact program_M C gt cap base gp S q w h hC hs
set_option maxRecDepth 100000 in
set_option maxHeartbeats 3200000 in
theorem parse_impl (s : ByteArray) (scr : Bool) (w : World) (hs : s.size ≤ 4294967296) :
    Calls Tryz.prog 7 #[.string s, .bool scr] w fun e w' => ParseOut s scr w e w' ∧ Below w.heap.size w w' := by
  have hmf : ∀ (fn : Fn) (first cap : Array Value) (w : World), (Instr.makeFunc fn first cap).run Tryz.prog w = .ok (.func fn first cap) w := fun _ _ _ _ => rfl
  go_enter_defers Tryz.func7, Tryz.ntmps7
  go_wp2_with fail
  refine (lex_impl s scr _ hs).mono ?_
  rintro e w1 ⟨⟨r1, hr1, hout1⟩, b1⟩
  have hsz2 : ((w.alloc (.cells #[.slice none 0 0, .slice none 0 0, .slice none 0 0, .slice none 0 0, .slice none 0 0] 28)).alloc (.cells #[.int .i64 0] 3)).heap.size = w.heap.size + 1 + 1 := size2 w _ _
  have HB1 : Hid (Below w.heap.size w w1) := (below2 w _ _).trans (b1.mono (by rw [hsz2]; omega))
  have HGM : Hid (w1.heap[w.heap.size]? = some (.cells #[.slice none 0 0, .slice none 0 0, .slice none 0 0, .slice none 0 0, .slice none 0 0] 28 (0, 0))) := (b1.block _ (by rw [hsz2]; omega)).trans (alloc_keep (heap_alloc_new w _))
  have HGB : Hid (w1.heap[w.heap.size + 1]? = some (.cells #[.int .i64 0] 3 (0, 0))) := (b1.block _ (by rw [hsz2]; omega)).trans (new2 w _ _)
  have hlt1 : w.heap.size + 1 + 1 ≤ w1.heap.size := by have := b1.size; rw [hsz2] at this; exact this
  rw [hsz2] at b1
  obtain ⟨c0, c1, c2, c3, c4, cf⟩ := five_of HGM.out
  have d0 : w1.cell? ⟨w.heap.size + 1, 0, none⟩ = some (.int .i64 0) := by simp [World.cell?, HGB.out]
  have df : w1.frozen? ⟨w.heap.size + 1, 0, none⟩ = false := by simp [World.frozen?, HGB.out]
  cases r1 with
  | error p =>
    subst hout1
    have HY : Hid (ParseR s scr (.error p)) := ⟨_, hr1, rfl⟩
    have dz : decide ((0 : Int) ≤ (p : Int)) = true := decide_eq_true (by omega)
    clear hr1 b1 hsz2
    go_wp2
    exact ⟨_, results_cells rfl _ _ w.heap.size (w.heap.size + 1) 28 3 _ _ _ .i64 rfl ((pother (by omega)).trans (put5 HGM.out)) Tryz.underlying28 rfl (by kernel_rfl) rfl (qone ((set5_other (by omega)).trans HGB.out)) Tryz.underlying3 ⟨_, rfl⟩, ⟨_, HY.out, rfl⟩, (below5 HB1.out (Nat.le_refl _) _ _ _ _ _).setCell (Nat.le_succ _) _⟩
  | ok ts =>
    obtain ⟨g, n, cap, rfl, own0⟩ := hout1
    obtain rfl : n = ts.length := own0.2
    rw [hsz2] at own0
    have hlen := lexR_len hr1
    have HR := hidI hr1
    have HC : Hid (Sized ⟨ts, s.size, scr⟩) := lexR_sized hr1 hs
    have HM0 : Hid (Mem ⟨ts, s.size, scr⟩ g cap (w.heap.size + 1 + 1) S0 startP w1) := mem_start own0 hlen hlt1
    clear own0 hr1 b1 hsz2
    go_wp2_with fail
    have HIM : Hid (IM ⟨ts, s.size, scr⟩ g cap (w.heap.size + 1 + 1) w1.heap.size S0 startP (w1.alloc (.cells #[.slice (some ⟨g, 0, none⟩) ts.length cap, .int .i64 0, .int .i64 s.size, .bool scr, .slice none 0 0, .slice none 0 0, .slice none 0 0, .slice none 0 0, .slice none 0 0, .slice none 0 0] 59))) := ⟨HM0.out.alloc _, heap_alloc_new w1 _, hlt1⟩
    have HBa : Hid (Below (w.heap.size + 1 + 1) w1 (w1.alloc (.cells #[.slice (some ⟨g, 0, none⟩) ts.length cap, .int .i64 0, .int .i64 s.size, .bool scr, .slice none 0 0, .slice none 0 0, .slice none 0 0, .slice none 0 0, .slice none 0 0, .slice none 0 0] 59))) := (Below.refl _ _).alloc hlt1 _
    refine (program_any _ g cap _ _ S0 startP _ HIM.out HC.out).mono ?_
    cases hp : itemsP ⟨ts, s.size, scr⟩ startP with
    | error p =>
      rintro e w2 ⟨rfl, hb⟩
      have HY : Hid (ParseR s scr (.error p)) := ⟨_, HR.out, hp.symm⟩
      have HB2 : Hid (Below w.heap.size w w2) := HB1.out.trans ((HBa.out.trans hb).mono (by omega))
      have HGM2 : Hid (w2.heap[w.heap.size]? = some (.cells #[.slice none 0 0, .slice none 0 0, .slice none 0 0, .slice none 0 0, .slice none 0 0] 28 (0, 0))) := ((HBa.out.trans hb).block _ (by omega)).trans HGM.out
      have HGB2 : Hid (w2.heap[w.heap.size + 1]? = some (.cells #[.int .i64 0] 3 (0, 0))) := ((HBa.out.trans hb).block _ (by omega)).trans HGB.out
      clear hb
      unfold Pan
      go_wp2
      refine leaves_cons (f := 23) (args := #[.pointer (some ⟨w.heap.size, 0, none⟩), .pointer (some ⟨w.heap.size + 1, 0, none⟩)]) (by simp) (by simp [go_sem]) ?_
      refine (catch_place w.heap.size (w.heap.size + 1) p _ _ _ _ _ _ _ HGM2.out HGB2.out (by omega)).mono ?_
      rintro e u' w3 ⟨rfl, rfl, rfl⟩
      exact ⟨_, results_cells rfl _ _ w.heap.size (w.heap.size + 1) 28 3 _ _ _ .i64 rfl ((pother (by omega)).trans (put5 HGM2.out)) Tryz.underlying28 rfl (by kernel_rfl) rfl (qone ((set5_other (by omega)).trans HGB2.out)) Tryz.underlying3 ⟨_, rfl⟩, ⟨_, HY.out, rfl⟩, (below5 HB2.out (Nat.le_refl _) _ _ _ _ _).setCell (Nat.le_succ _) _⟩
    | ok q =>
      rintro e w2 ⟨rfl, S2, om, ⟨v0, v1, v2, v3, v9, hcl⟩, hb⟩
      have HY : Hid (ParseR s scr (.ok q)) := ⟨_, HR.out, hp.symm⟩
      have HB2 : Hid (Below w.heap.size w w2) := HB1.out.trans ((HBa.out.trans hb).mono (by omega))
      have HGM2 : Hid (w2.heap[w.heap.size]? = some (.cells #[.slice none 0 0, .slice none 0 0, .slice none 0 0, .slice none 0 0, .slice none 0 0] 28 (0, 0))) := ((HBa.out.trans hb).block _ (by omega)).trans HGM.out
      have HGB2 : Hid (w2.heap[w.heap.size + 1]? = some (.cells #[.int .i64 0] 3 (0, 0))) := ((HBa.out.trans hb).block _ (by omega)).trans HGB.out
      have HO := hidI om
      clear hb om c0 c1 c2 c3 c4 cf d0 df
      obtain ⟨b0, b1, b2, b3, b4, b5, b6, b7, b8, b9, bf⟩ := box10_of hcl
      clear hcl
      obtain ⟨c0, c1, c2, c3, c4, cf⟩ := five_of HGM2.out
      have d0 : w2.cell? ⟨w.heap.size + 1, 0, none⟩ = some (.int .i64 0) := by simp [World.cell?, HGB2.out]
      have df : w2.frozen? ⟨w.heap.size + 1, 0, none⟩ = false := by simp [World.frozen?, HGB2.out]
      go_wp2
      refine leaves_cons (f := 23) (args := #[.pointer (some ⟨w.heap.size, 0, none⟩), .pointer (some ⟨w.heap.size + 1, 0, none⟩)]) (by simp) (by simp [go_sem]) ?_
      refine (catch_idle w.heap.size (w.heap.size + 1) _).mono ?_
      rintro e u' w3 ⟨rfl, rfl, rfl⟩
      refine ⟨_, results_cells rfl _ _ w.heap.size (w.heap.size + 1) 28 3 _ _ _ .i64 rfl ((pother (by omega)).trans (put5 HGM2.out)) Tryz.underlying28 rfl (by kernel_rfl) rfl (qone ((set5_other (by omega)).trans HGB2.out)) Tryz.underlying3 ⟨_, rfl⟩, ⟨_, HY.out, S2, by simp [modV], ?_⟩, (below5 HB2.out (Nat.le_refl _) _ _ _ _ _).setCell (Nat.le_succ _) _⟩
      exact (HO.out.keepI fun k hk => (pother (by omega)).trans (set5_other (by omega))).lowI (by omega)
end Go.Proofs.YticdggnnpjachaaGreat
namespace Go.Proofs.YticdggnnpjachaaGreat
open Go.RowKit Go.PlainAid Go.Sort

theorem rowsome {α : Type} {l : List α} {j : Nat} (h : j < l.length) : ∃ x, l[j]? = some x := ⟨_, List.getElem?_eq_getElem h⟩
end Go.Proofs.YticdggnnpjachaaGreat
namespace Go.Proofs.YticdggnnpjachaaGreat
open Go.RowKit Go.PlainAid Go.Sort

set_option maxRecDepth 100000 in
set_option maxHeartbeats 3200000 in
theorem eqStringS_zero (a1 a2 : Option Addr) (c1 c2 : Nat) (w : World) : Calls Tryz.prog 25 #[.slice a1 0 c1, .slice a2 0 c2] w fun e w' => e = .returned (.bool true) ∧ Below w.heap.size w w' := by
  go_enter Tryz.func25, Tryz.ntmps25
  go_wp2
  go_loopg [5] 1 (fun k i wr => k = 1 ∧ i = .int .i64 0 ∧ wr = w)
  case atStart => exact ⟨rfl, rfl, rfl⟩
  case round =>
    obtain ⟨rfl, rfl, rfl⟩ := hrel
    go_wp2
    go_ret
    exact ⟨rfl, Below.refl _ _⟩
set_option maxRecDepth 100000 in
set_option maxHeartbeats 3200000 in
theorem eqStringS_row (b1 b2 g1 g2 : Nat) (r1 r2 : Rw) (l : List ByteArray) (w : World) (h1 : OwnR w b1 9 1 r1 l.length (l.flatMap (fun x => [Value.string x]))) (h2 : OwnR w b2 9 1 r2 l.length (l.flatMap (fun x => [Value.string x]))) (e1 : r1.a = some ⟨g1, 0, none⟩) (e2 : r2.a = some ⟨g2, 0, none⟩) (hl : l.length ≤ 4294967296) :
    Calls Tryz.prog 25 #[.slice (some ⟨g1, 0, none⟩) l.length r1.cap, .slice (some ⟨g2, 0, none⟩) l.length r2.cap] w fun e w' => e = .returned (.bool true) ∧ Below w.heap.size w w' := by
  have H1 := hidI h1
  have H2 := hidI h2
  have E1 := hidI e1
  have E2 := hidI e2
  clear h1 h2 e1 e2
  go_enter Tryz.func25, Tryz.ntmps25
  go_wp2
  go_loopg [5] l.length (fun k i wr => ∃ j : Nat, i = .int .i64 j ∧ j + k = l.length ∧ Below w.heap.size w wr)
  case atStart => exact ⟨0, rfl, by omega, Below.refl _ _⟩
  case round =>
    obtain ⟨j, rfl, hj, hb⟩ := hrel
    have HB := hidI hb
    clear hb
    by_cases hlt : j < l.length
    · have hlti : (j : Int) < (l.length : Int) := by omega
      obtain ⟨x, hx⟩ := rowsome hlt
      obtain ⟨g', ga, h1⟩ := OwnR.elem (f := (fun x => [Value.string x])) (m := 1) (fun _ => rfl) (H1.out.keep fun k g => HB.out.block k (H1.out.typed g).2.1) hx
      obtain rfl : g' = g1 := by have := ga.symm.trans E1.out; simpa using this
      obtain ⟨g', gb, h2⟩ := OwnR.elem (f := (fun x => [Value.string x])) (m := 1) (fun _ => rfl) (H2.out.keep fun k g => HB.out.block k (H2.out.typed g).2.1) hx
      obtain rfl : g' = g2 := by have := gb.symm.trans E2.out; simpa using this
      have C0 := hidI (h1 0 (by omega))
      have D0 := hidI (h2 0 (by omega))
      clear h1 h2 ga gb hx
      obtain ⟨j1, hj1⟩ : ∃ j1, j1 = j + 1 := ⟨_, rfl⟩
      have ej : (j : Int) + 1 = (j1 : Int) := by omega
      have HJ := hidI hj1
      clear hj1
      go_wp2
      have k0 := cell_regrown C0.out
      have l0 := cell_regrown D0.out
      simp only [Nat.add_zero, Nat.mul_one] at k0 l0
      refine wp_region_quiet_below (by kernel_rfl) (by kernel_rfl) ?_
      repeat (go_big_quiet_step (fail))
      refine wpQuiet_nil ?_
      intro w2 hw'
      obtain ⟨⟨dq, osq⟩, hw''⟩ := hw'
      have HB2 : Hid (Below w.heap.size w w2) := by show Below _ _ _; rw [hw'']; exact HB.out.trans ((below_regrown wr dq osq).mono HB.out.size)
      clear hw'' k0 l0 C0 D0
      go_wp2
      go_roundg (gk - 1)
      case rel => exact ⟨j1, rfl, by have := HJ.out; omega, HB2.out⟩
      case measure => omega
    · have hlti : ¬ (j : Int) < (l.length : Int) := by omega
      go_wp2
      go_ret
      exact ⟨rfl, HB.out⟩
theorem eqStringS_any (b1 b2 : Nat) (r1 r2 : Rw) (l : List ByteArray) (w : World) (h1 : OwnR w b1 9 1 r1 l.length (l.flatMap (fun x => [Value.string x]))) (h2 : OwnR w b2 9 1 r2 l.length (l.flatMap (fun x => [Value.string x]))) (hl : l.length ≤ 4294967296) :
    Calls Tryz.prog 25 #[.slice r1.a l.length r1.cap, .slice r2.a l.length r2.cap] w fun e w' => e = .returned (.bool true) ∧ Below w.heap.size w w' := by
  by_cases h0 : l.length = 0
  · rw [h0]
    exact eqStringS_zero _ _ _ _ w
  · rcases h1.nil_or with ⟨_, _, e⟩ | ⟨g1, e1⟩
    · exact absurd e h0
    · rcases h2.nil_or with ⟨_, _, e⟩ | ⟨g2, e2⟩
      · exact absurd e h0
      · rw [e1, e2]
        exact eqStringS_row b1 b2 g1 g2 r1 r2 l w h1 h2 e1 e2 hl
set_option maxRecDepth 100000 in
set_option maxHeartbeats 3200000 in
theorem eqImp_any (x : Im) (w : World) : Calls Tryz.prog 91 #[.agg #[.string x.spec, .string x.first, .string x.loc], .agg #[.string x.spec, .string x.first, .string x.loc]] w fun e w' => e = .returned (.bool true) ∧ Below w.heap.size w w' := by
  go_enter Tryz.func91, Tryz.ntmps91
  go_wp2
  go_ret
  exact ⟨rfl, ((Below.refl _ _).alloc (Nat.le_refl _) _).alloc (by show _ ≤ (w.heap.push _).size; simp) _⟩
set_option maxRecDepth 100000 in
set_option maxHeartbeats 3200000 in
theorem eqImpS_zero (a1 a2 : Option Addr) (c1 c2 : Nat) (w : World) : Calls Tryz.prog 26 #[.slice a1 0 c1, .slice a2 0 c2] w fun e w' => e = .returned (.bool true) ∧ Below w.heap.size w w' := by
  go_enter Tryz.func26, Tryz.ntmps26
  go_wp2
  go_loopg [5] 1 (fun k i wr => k = 1 ∧ i = .int .i64 0 ∧ wr = w)
  case atStart => exact ⟨rfl, rfl, rfl⟩
  case round =>
    obtain ⟨rfl, rfl, rfl⟩ := hrel
    go_wp2
    go_ret
    exact ⟨rfl, Below.refl _ _⟩
set_option maxRecDepth 100000 in
set_option maxHeartbeats 3200000 in
theorem eqImpS_row (b1 b2 g1 g2 : Nat) (r1 r2 : Rw) (l : List Im) (w : World) (h1 : OwnR w b1 100 3 r1 l.length (l.flatMap imL)) (h2 : OwnR w b2 100 3 r2 l.length (l.flatMap imL)) (e1 : r1.a = some ⟨g1, 0, none⟩) (e2 : r2.a = some ⟨g2, 0, none⟩) (hl : l.length ≤ 4294967296) :
    Calls Tryz.prog 26 #[.slice (some ⟨g1, 0, none⟩) l.length r1.cap, .slice (some ⟨g2, 0, none⟩) l.length r2.cap] w fun e w' => e = .returned (.bool true) ∧ Below w.heap.size w w' := by
  have H1 := hidI h1
  have H2 := hidI h2
  have E1 := hidI e1
  have E2 := hidI e2
  clear h1 h2 e1 e2
  go_enter Tryz.func26, Tryz.ntmps26
  go_wp2
  go_loopg [5] l.length (fun k i wr => ∃ j : Nat, i = .int .i64 j ∧ j + k = l.length ∧ Below w.heap.size w wr)
  case atStart => exact ⟨0, rfl, by omega, Below.refl _ _⟩
  case round =>
    obtain ⟨j, rfl, hj, hb⟩ := hrel
    have HB := hidI hb
    clear hb
    by_cases hlt : j < l.length
    · have hlti : (j : Int) < (l.length : Int) := by omega
      obtain ⟨x, hx⟩ := rowsome hlt
      obtain ⟨g', ga, h1⟩ := OwnR.elem (f := imL) (m := 3) (fun _ => rfl) (H1.out.keep fun k g => HB.out.block k (H1.out.typed g).2.1) hx
      obtain rfl : g' = g1 := by have := ga.symm.trans E1.out; simpa using this
      obtain ⟨g', gb, h2⟩ := OwnR.elem (f := imL) (m := 3) (fun _ => rfl) (H2.out.keep fun k g => HB.out.block k (H2.out.typed g).2.1) hx
      obtain rfl : g' = g2 := by have := gb.symm.trans E2.out; simpa using this
      have C0 := hidI (h1 0 (by omega))
      have D0 := hidI (h2 0 (by omega))
      have C1 := hidI (h1 1 (by omega))
      have D1 := hidI (h2 1 (by omega))
      have C2 := hidI (h1 2 (by omega))
      have D2 := hidI (h2 2 (by omega))
      clear h1 h2 ga gb hx
      have cQ : ∀ d os, Calls Tryz.prog 91 #[.agg #[.string x.spec, .string x.first, .string x.loc], .agg #[.string x.spec, .string x.first, .string x.loc]] (grow (redrawn wr d) os) fun e w'' => e = .returned (.bool true) ∧ ∃ p : Regrown, w'' = grow (redrawn wr p.d) p.os := fun d os => Calls.regrown_of (eqImp_any x _)
      obtain ⟨j1, hj1⟩ : ∃ j1, j1 = j + 1 := ⟨_, rfl⟩
      have ej : (j : Int) + 1 = (j1 : Int) := by omega
      have HJ := hidI hj1
      clear hj1
      go_wp2
      have k0 := cell_regrown C0.out
      have l0 := cell_regrown D0.out
      have k1 := cell_regrown C1.out
      have l1 := cell_regrown D1.out
      have k2 := cell_regrown C2.out
      have l2 := cell_regrown D2.out
      simp only [Nat.add_zero] at k0 l0
      refine wp_region_quiet_below (by kernel_rfl) (by kernel_rfl) ?_
      repeat (go_big_quiet_step (exact cQ _ _))
      refine wpQuiet_nil ?_
      intro w2 hw'
      obtain ⟨⟨dq, osq⟩, hw''⟩ := hw'
      have HB2 : Hid (Below w.heap.size w w2) := by show Below _ _ _; rw [hw'']; exact HB.out.trans ((below_regrown wr dq osq).mono HB.out.size)
      clear hw'' k0 l0 C0 D0 k1 l1 C1 D1 k2 l2 C2 D2 cQ
      go_wp2
      go_roundg (gk - 1)
      case rel => exact ⟨j1, rfl, by have := HJ.out; omega, HB2.out⟩
      case measure => omega
    · have hlti : ¬ (j : Int) < (l.length : Int) := by omega
      go_wp2
      go_ret
      exact ⟨rfl, HB.out⟩
theorem eqImpS_any (b1 b2 : Nat) (r1 r2 : Rw) (l : List Im) (w : World) (h1 : OwnR w b1 100 3 r1 l.length (l.flatMap imL)) (h2 : OwnR w b2 100 3 r2 l.length (l.flatMap imL)) (hl : l.length ≤ 4294967296) :
    Calls Tryz.prog 26 #[.slice r1.a l.length r1.cap, .slice r2.a l.length r2.cap] w fun e w' => e = .returned (.bool true) ∧ Below w.heap.size w w' := by
  by_cases h0 : l.length = 0
  · rw [h0]
    exact eqImpS_zero _ _ _ _ w
  · rcases h1.nil_or with ⟨_, _, e⟩ | ⟨g1, e1⟩
    · exact absurd e h0
    · rcases h2.nil_or with ⟨_, _, e⟩ | ⟨g2, e2⟩
      · exact absurd e h0
      · rw [e1, e2]
        exact eqImpS_row b1 b2 g1 g2 r1 r2 l w h1 h2 e1 e2 hl
set_option maxRecDepth 100000 in
set_option maxHeartbeats 3200000 in
theorem eqExp_any (x : Ep) (w : World) : Calls Tryz.prog 92 #[.agg #[.int .i64 x.kind, .string x.name, .string x.loc, .string x.spec], .agg #[.int .i64 x.kind, .string x.name, .string x.loc, .string x.spec]] w fun e w' => e = .returned (.bool true) ∧ Below w.heap.size w w' := by
  go_enter Tryz.func92, Tryz.ntmps92
  go_wp2
  go_ret
  exact ⟨rfl, ((Below.refl _ _).alloc (Nat.le_refl _) _).alloc (by show _ ≤ (w.heap.push _).size; simp) _⟩
set_option maxRecDepth 100000 in
set_option maxHeartbeats 3200000 in
theorem eqExpS_zero (a1 a2 : Option Addr) (c1 c2 : Nat) (w : World) : Calls Tryz.prog 27 #[.slice a1 0 c1, .slice a2 0 c2] w fun e w' => e = .returned (.bool true) ∧ Below w.heap.size w w' := by
  go_enter Tryz.func27, Tryz.ntmps27
  go_wp2
  go_loopg [5] 1 (fun k i wr => k = 1 ∧ i = .int .i64 0 ∧ wr = w)
  case atStart => exact ⟨rfl, rfl, rfl⟩
  case round =>
    obtain ⟨rfl, rfl, rfl⟩ := hrel
    go_wp2
    go_ret
    exact ⟨rfl, Below.refl _ _⟩
set_option maxRecDepth 100000 in
set_option maxHeartbeats 3200000 in
theorem eqExpS_row (b1 b2 g1 g2 : Nat) (r1 r2 : Rw) (l : List Ep) (w : World) (h1 : OwnR w b1 102 4 r1 l.length (l.flatMap epL)) (h2 : OwnR w b2 102 4 r2 l.length (l.flatMap epL)) (e1 : r1.a = some ⟨g1, 0, none⟩) (e2 : r2.a = some ⟨g2, 0, none⟩) (hl : l.length ≤ 4294967296) :
    Calls Tryz.prog 27 #[.slice (some ⟨g1, 0, none⟩) l.length r1.cap, .slice (some ⟨g2, 0, none⟩) l.length r2.cap] w fun e w' => e = .returned (.bool true) ∧ Below w.heap.size w w' := by
  have H1 := hidI h1
  have H2 := hidI h2
  have E1 := hidI e1
  have E2 := hidI e2
  clear h1 h2 e1 e2
  go_enter Tryz.func27, Tryz.ntmps27
  go_wp2
  go_loopg [5] l.length (fun k i wr => ∃ j : Nat, i = .int .i64 j ∧ j + k = l.length ∧ Below w.heap.size w wr)
  case atStart => exact ⟨0, rfl, by omega, Below.refl _ _⟩
  case round =>
    obtain ⟨j, rfl, hj, hb⟩ := hrel
    have HB := hidI hb
    clear hb
    by_cases hlt : j < l.length
    · have hlti : (j : Int) < (l.length : Int) := by omega
      obtain ⟨x, hx⟩ := rowsome hlt
      obtain ⟨g', ga, h1⟩ := OwnR.elem (f := epL) (m := 4) (fun _ => rfl) (H1.out.keep fun k g => HB.out.block k (H1.out.typed g).2.1) hx
      obtain rfl : g' = g1 := by have := ga.symm.trans E1.out; simpa using this
      obtain ⟨g', gb, h2⟩ := OwnR.elem (f := epL) (m := 4) (fun _ => rfl) (H2.out.keep fun k g => HB.out.block k (H2.out.typed g).2.1) hx
      obtain rfl : g' = g2 := by have := gb.symm.trans E2.out; simpa using this
      have C0 := hidI (h1 0 (by omega))
      have D0 := hidI (h2 0 (by omega))
      have C1 := hidI (h1 1 (by omega))
      have D1 := hidI (h2 1 (by omega))
      have C2 := hidI (h1 2 (by omega))
      have D2 := hidI (h2 2 (by omega))
      have C3 := hidI (h1 3 (by omega))
      have D3 := hidI (h2 3 (by omega))
      clear h1 h2 ga gb hx
      have cQ : ∀ d os, Calls Tryz.prog 92 #[.agg #[.int .i64 x.kind, .string x.name, .string x.loc, .string x.spec], .agg #[.int .i64 x.kind, .string x.name, .string x.loc, .string x.spec]] (grow (redrawn wr d) os) fun e w'' => e = .returned (.bool true) ∧ ∃ p : Regrown, w'' = grow (redrawn wr p.d) p.os := fun d os => Calls.regrown_of (eqExp_any x _)
      obtain ⟨j1, hj1⟩ : ∃ j1, j1 = j + 1 := ⟨_, rfl⟩
      have ej : (j : Int) + 1 = (j1 : Int) := by omega
      have HJ := hidI hj1
      clear hj1
      go_wp2
      have k0 := cell_regrown C0.out
      have l0 := cell_regrown D0.out
      have k1 := cell_regrown C1.out
      have l1 := cell_regrown D1.out
      have k2 := cell_regrown C2.out
      have l2 := cell_regrown D2.out
      have k3 := cell_regrown C3.out
      have l3 := cell_regrown D3.out
      simp only [Nat.add_zero] at k0 l0
      refine wp_region_quiet_below (by kernel_rfl) (by kernel_rfl) ?_
      repeat (go_big_quiet_step (exact cQ _ _))
      refine wpQuiet_nil ?_
      intro w2 hw'
      obtain ⟨⟨dq, osq⟩, hw''⟩ := hw'
      have HB2 : Hid (Below w.heap.size w w2) := by show Below _ _ _; rw [hw'']; exact HB.out.trans ((below_regrown wr dq osq).mono HB.out.size)
      clear hw'' k0 l0 C0 D0 k1 l1 C1 D1 k2 l2 C2 D2 k3 l3 C3 D3 cQ
      go_wp2
      go_roundg (gk - 1)
      case rel => exact ⟨j1, rfl, by have := HJ.out; omega, HB2.out⟩
      case measure => omega
    · have hlti : ¬ (j : Int) < (l.length : Int) := by omega
      go_wp2
      go_ret
      exact ⟨rfl, HB.out⟩
theorem eqExpS_any (b1 b2 : Nat) (r1 r2 : Rw) (l : List Ep) (w : World) (h1 : OwnR w b1 102 4 r1 l.length (l.flatMap epL)) (h2 : OwnR w b2 102 4 r2 l.length (l.flatMap epL)) (hl : l.length ≤ 4294967296) :
    Calls Tryz.prog 27 #[.slice r1.a l.length r1.cap, .slice r2.a l.length r2.cap] w fun e w' => e = .returned (.bool true) ∧ Below w.heap.size w w' := by
  by_cases h0 : l.length = 0
  · rw [h0]
    exact eqExpS_zero _ _ _ _ w
  · rcases h1.nil_or with ⟨_, _, e⟩ | ⟨g1, e1⟩
    · exact absurd e h0
    · rcases h2.nil_or with ⟨_, _, e⟩ | ⟨g2, e2⟩
      · exact absurd e h0
      · rw [e1, e2]
        exact eqExpS_row b1 b2 g1 g2 r1 r2 l w h1 h2 e1 e2 hl
set_option maxRecDepth 100000 in
set_option maxHeartbeats 3200000 in
theorem eqStmt_any (x : Sm) (w : World) : Calls Tryz.prog 93 #[.agg #[.int .i64 x.kind, .string x.name, .int .i64 x.expr], .agg #[.int .i64 x.kind, .string x.name, .int .i64 x.expr]] w fun e w' => e = .returned (.bool true) ∧ Below w.heap.size w w' := by
  go_enter Tryz.func93, Tryz.ntmps93
  go_wp2
  go_ret
  exact ⟨rfl, ((Below.refl _ _).alloc (Nat.le_refl _) _).alloc (by show _ ≤ (w.heap.push _).size; simp) _⟩
set_option maxRecDepth 100000 in
set_option maxHeartbeats 3200000 in
theorem eqStmtS_zero (a1 a2 : Option Addr) (c1 c2 : Nat) (w : World) : Calls Tryz.prog 28 #[.slice a1 0 c1, .slice a2 0 c2] w fun e w' => e = .returned (.bool true) ∧ Below w.heap.size w w' := by
  go_enter Tryz.func28, Tryz.ntmps28
  go_wp2
  go_loopg [5] 1 (fun k i wr => k = 1 ∧ i = .int .i64 0 ∧ wr = w)
  case atStart => exact ⟨rfl, rfl, rfl⟩
  case round =>
    obtain ⟨rfl, rfl, rfl⟩ := hrel
    go_wp2
    go_ret
    exact ⟨rfl, Below.refl _ _⟩
set_option maxRecDepth 100000 in
set_option maxHeartbeats 3200000 in
theorem eqStmtS_row (b1 b2 g1 g2 : Nat) (r1 r2 : Rw) (l : List Sm) (w : World) (h1 : OwnR w b1 106 3 r1 l.length (l.flatMap smL)) (h2 : OwnR w b2 106 3 r2 l.length (l.flatMap smL)) (e1 : r1.a = some ⟨g1, 0, none⟩) (e2 : r2.a = some ⟨g2, 0, none⟩) (hl : l.length ≤ 4294967296) :
    Calls Tryz.prog 28 #[.slice (some ⟨g1, 0, none⟩) l.length r1.cap, .slice (some ⟨g2, 0, none⟩) l.length r2.cap] w fun e w' => e = .returned (.bool true) ∧ Below w.heap.size w w' := by
  have H1 := hidI h1
  have H2 := hidI h2
  have E1 := hidI e1
  have E2 := hidI e2
  clear h1 h2 e1 e2
  go_enter Tryz.func28, Tryz.ntmps28
  go_wp2
  go_loopg [5] l.length (fun k i wr => ∃ j : Nat, i = .int .i64 j ∧ j + k = l.length ∧ Below w.heap.size w wr)
  case atStart => exact ⟨0, rfl, by omega, Below.refl _ _⟩
  case round =>
    obtain ⟨j, rfl, hj, hb⟩ := hrel
    have HB := hidI hb
    clear hb
    by_cases hlt : j < l.length
    · have hlti : (j : Int) < (l.length : Int) := by omega
      obtain ⟨x, hx⟩ := rowsome hlt
      obtain ⟨g', ga, h1⟩ := OwnR.elem (f := smL) (m := 3) (fun _ => rfl) (H1.out.keep fun k g => HB.out.block k (H1.out.typed g).2.1) hx
      obtain rfl : g' = g1 := by have := ga.symm.trans E1.out; simpa using this
      obtain ⟨g', gb, h2⟩ := OwnR.elem (f := smL) (m := 3) (fun _ => rfl) (H2.out.keep fun k g => HB.out.block k (H2.out.typed g).2.1) hx
      obtain rfl : g' = g2 := by have := gb.symm.trans E2.out; simpa using this
      have C0 := hidI (h1 0 (by omega))
      have D0 := hidI (h2 0 (by omega))
      have C1 := hidI (h1 1 (by omega))
      have D1 := hidI (h2 1 (by omega))
      have C2 := hidI (h1 2 (by omega))
      have D2 := hidI (h2 2 (by omega))
      clear h1 h2 ga gb hx
      have cQ : ∀ d os, Calls Tryz.prog 93 #[.agg #[.int .i64 x.kind, .string x.name, .int .i64 x.expr], .agg #[.int .i64 x.kind, .string x.name, .int .i64 x.expr]] (grow (redrawn wr d) os) fun e w'' => e = .returned (.bool true) ∧ ∃ p : Regrown, w'' = grow (redrawn wr p.d) p.os := fun d os => Calls.regrown_of (eqStmt_any x _)
      obtain ⟨j1, hj1⟩ : ∃ j1, j1 = j + 1 := ⟨_, rfl⟩
      have ej : (j : Int) + 1 = (j1 : Int) := by omega
      have HJ := hidI hj1
      clear hj1
      go_wp2
      have k0 := cell_regrown C0.out
      have l0 := cell_regrown D0.out
      have k1 := cell_regrown C1.out
      have l1 := cell_regrown D1.out
      have k2 := cell_regrown C2.out
      have l2 := cell_regrown D2.out
      simp only [Nat.add_zero] at k0 l0
      refine wp_region_quiet_below (by kernel_rfl) (by kernel_rfl) ?_
      repeat (go_big_quiet_step (exact cQ _ _))
      refine wpQuiet_nil ?_
      intro w2 hw'
      obtain ⟨⟨dq, osq⟩, hw''⟩ := hw'
      have HB2 : Hid (Below w.heap.size w w2) := by show Below _ _ _; rw [hw'']; exact HB.out.trans ((below_regrown wr dq osq).mono HB.out.size)
      clear hw'' k0 l0 C0 D0 k1 l1 C1 D1 k2 l2 C2 D2 cQ
      go_wp2
      go_roundg (gk - 1)
      case rel => exact ⟨j1, rfl, by have := HJ.out; omega, HB2.out⟩
      case measure => omega
    · have hlti : ¬ (j : Int) < (l.length : Int) := by omega
      go_wp2
      go_ret
      exact ⟨rfl, HB.out⟩
theorem eqStmtS_any (b1 b2 : Nat) (r1 r2 : Rw) (l : List Sm) (w : World) (h1 : OwnR w b1 106 3 r1 l.length (l.flatMap smL)) (h2 : OwnR w b2 106 3 r2 l.length (l.flatMap smL)) (hl : l.length ≤ 4294967296) :
    Calls Tryz.prog 28 #[.slice r1.a l.length r1.cap, .slice r2.a l.length r2.cap] w fun e w' => e = .returned (.bool true) ∧ Below w.heap.size w w' := by
  by_cases h0 : l.length = 0
  · rw [h0]
    exact eqStmtS_zero _ _ _ _ w
  · rcases h1.nil_or with ⟨_, _, e⟩ | ⟨g1, e1⟩
    · exact absurd e h0
    · rcases h2.nil_or with ⟨_, _, e⟩ | ⟨g2, e2⟩
      · exact absurd e h0
      · rw [e1, e2]
        exact eqStmtS_row b1 b2 g1 g2 r1 r2 l w h1 h2 e1 e2 hl
set_option maxRecDepth 100000 in
set_option maxHeartbeats 3200000 in
theorem eqExpr_any (x : Ex) (w : World) : Calls Tryz.prog 94 #[.agg #[.int .i64 x.kind, .int .i64 x.num, .string x.name, .string x.field, .int .i64 x.l, .int .i64 x.r], .agg #[.int .i64 x.kind, .int .i64 x.num, .string x.name, .string x.field, .int .i64 x.l, .int .i64 x.r]] w fun e w' => e = .returned (.bool true) ∧ Below w.heap.size w w' := by
  go_enter Tryz.func94, Tryz.ntmps94
  go_wp2
  go_ret
  exact ⟨rfl, ((Below.refl _ _).alloc (Nat.le_refl _) _).alloc (by show _ ≤ (w.heap.push _).size; simp) _⟩
set_option maxRecDepth 100000 in
set_option maxHeartbeats 3200000 in
theorem eqExprS_zero (a1 a2 : Option Addr) (c1 c2 : Nat) (w : World) : Calls Tryz.prog 29 #[.slice a1 0 c1, .slice a2 0 c2] w fun e w' => e = .returned (.bool true) ∧ Below w.heap.size w w' := by
  go_enter Tryz.func29, Tryz.ntmps29
  go_wp2
  go_loopg [5] 1 (fun k i wr => k = 1 ∧ i = .int .i64 0 ∧ wr = w)
  case atStart => exact ⟨rfl, rfl, rfl⟩
  case round =>
    obtain ⟨rfl, rfl, rfl⟩ := hrel
    go_wp2
    go_ret
    exact ⟨rfl, Below.refl _ _⟩
set_option maxRecDepth 100000 in
set_option maxHeartbeats 3200000 in
theorem eqExprS_row (b1 b2 g1 g2 : Nat) (r1 r2 : Rw) (l : List Ex) (w : World) (h1 : OwnR w b1 108 6 r1 l.length (l.flatMap exL)) (h2 : OwnR w b2 108 6 r2 l.length (l.flatMap exL)) (e1 : r1.a = some ⟨g1, 0, none⟩) (e2 : r2.a = some ⟨g2, 0, none⟩) (hl : l.length ≤ 4294967296) :
    Calls Tryz.prog 29 #[.slice (some ⟨g1, 0, none⟩) l.length r1.cap, .slice (some ⟨g2, 0, none⟩) l.length r2.cap] w fun e w' => e = .returned (.bool true) ∧ Below w.heap.size w w' := by
  have H1 := hidI h1
  have H2 := hidI h2
  have E1 := hidI e1
  have E2 := hidI e2
  clear h1 h2 e1 e2
  go_enter Tryz.func29, Tryz.ntmps29
  go_wp2
  go_loopg [5] l.length (fun k i wr => ∃ j : Nat, i = .int .i64 j ∧ j + k = l.length ∧ Below w.heap.size w wr)
  case atStart => exact ⟨0, rfl, by omega, Below.refl _ _⟩
  case round =>
    obtain ⟨j, rfl, hj, hb⟩ := hrel
    have HB := hidI hb
    clear hb
    by_cases hlt : j < l.length
    · have hlti : (j : Int) < (l.length : Int) := by omega
      obtain ⟨x, hx⟩ := rowsome hlt
      obtain ⟨g', ga, h1⟩ := OwnR.elem (f := exL) (m := 6) (fun _ => rfl) (H1.out.keep fun k g => HB.out.block k (H1.out.typed g).2.1) hx
      obtain rfl : g' = g1 := by have := ga.symm.trans E1.out; simpa using this
      obtain ⟨g', gb, h2⟩ := OwnR.elem (f := exL) (m := 6) (fun _ => rfl) (H2.out.keep fun k g => HB.out.block k (H2.out.typed g).2.1) hx
      obtain rfl : g' = g2 := by have := gb.symm.trans E2.out; simpa using this
      have C0 := hidI (h1 0 (by omega))
      have D0 := hidI (h2 0 (by omega))
      have C1 := hidI (h1 1 (by omega))
      have D1 := hidI (h2 1 (by omega))
      have C2 := hidI (h1 2 (by omega))
      have D2 := hidI (h2 2 (by omega))
      have C3 := hidI (h1 3 (by omega))
      have D3 := hidI (h2 3 (by omega))
      have C4 := hidI (h1 4 (by omega))
      have D4 := hidI (h2 4 (by omega))
      have C5 := hidI (h1 5 (by omega))
      have D5 := hidI (h2 5 (by omega))
      clear h1 h2 ga gb hx
      have cQ : ∀ d os, Calls Tryz.prog 94 #[.agg #[.int .i64 x.kind, .int .i64 x.num, .string x.name, .string x.field, .int .i64 x.l, .int .i64 x.r], .agg #[.int .i64 x.kind, .int .i64 x.num, .string x.name, .string x.field, .int .i64 x.l, .int .i64 x.r]] (grow (redrawn wr d) os) fun e w'' => e = .returned (.bool true) ∧ ∃ p : Regrown, w'' = grow (redrawn wr p.d) p.os := fun d os => Calls.regrown_of (eqExpr_any x _)
      obtain ⟨j1, hj1⟩ : ∃ j1, j1 = j + 1 := ⟨_, rfl⟩
      have ej : (j : Int) + 1 = (j1 : Int) := by omega
      have HJ := hidI hj1
      clear hj1
      go_wp2
      have k0 := cell_regrown C0.out
      have l0 := cell_regrown D0.out
      have k1 := cell_regrown C1.out
      have l1 := cell_regrown D1.out
      have k2 := cell_regrown C2.out
      have l2 := cell_regrown D2.out
      have k3 := cell_regrown C3.out
      have l3 := cell_regrown D3.out
      have k4 := cell_regrown C4.out
      have l4 := cell_regrown D4.out
      have k5 := cell_regrown C5.out
      have l5 := cell_regrown D5.out
      simp only [Nat.add_zero] at k0 l0
      refine wp_region_quiet_below (by kernel_rfl) (by kernel_rfl) ?_
      repeat (go_big_quiet_step (exact cQ _ _))
      refine wpQuiet_nil ?_
      intro w2 hw'
      obtain ⟨⟨dq, osq⟩, hw''⟩ := hw'
      have HB2 : Hid (Below w.heap.size w w2) := by show Below _ _ _; rw [hw'']; exact HB.out.trans ((below_regrown wr dq osq).mono HB.out.size)
      clear hw'' k0 l0 C0 D0 k1 l1 C1 D1 k2 l2 C2 D2 k3 l3 C3 D3 k4 l4 C4 D4 k5 l5 C5 D5 cQ
      go_wp2
      go_roundg (gk - 1)
      case rel => exact ⟨j1, rfl, by have := HJ.out; omega, HB2.out⟩
      case measure => omega
    · have hlti : ¬ (j : Int) < (l.length : Int) := by omega
      go_wp2
      go_ret
      exact ⟨rfl, HB.out⟩
theorem eqExprS_any (b1 b2 : Nat) (r1 r2 : Rw) (l : List Ex) (w : World) (h1 : OwnR w b1 108 6 r1 l.length (l.flatMap exL)) (h2 : OwnR w b2 108 6 r2 l.length (l.flatMap exL)) (hl : l.length ≤ 4294967296) :
    Calls Tryz.prog 29 #[.slice r1.a l.length r1.cap, .slice r2.a l.length r2.cap] w fun e w' => e = .returned (.bool true) ∧ Below w.heap.size w w' := by
  by_cases h0 : l.length = 0
  · rw [h0]
    exact eqExprS_zero _ _ _ _ w
  · rcases h1.nil_or with ⟨_, _, e⟩ | ⟨g1, e1⟩
    · exact absurd e h0
    · rcases h2.nil_or with ⟨_, _, e⟩ | ⟨g2, e2⟩
      · exact absurd e h0
      · rw [e1, e2]
        exact eqExprS_row b1 b2 g1 g2 r1 r2 l w h1 h2 e1 e2 hl
end Go.Proofs.YticdggnnpjachaaGreat
namespace Go.Proofs.YticdggnnpjachaaGreat
open Go.RowKit Go.PlainAid Go.Sort

def mdig : Nat → Nat → ByteArray → ByteArray
  | 0, _, o => o
  | f + 1, k, o => if k = 0 then o else mdig f (k / 10) (strOfNums [48 + (k : Int) % 10] ++ o)
def mtS (k : Nat) : ByteArray := { data := #[109] } ++ mdig k k { data := #[] }
theorem mdig_zero (f : Nat) (o : ByteArray) : mdig f 0 o = o := by cases f <;> rfl
theorem mdig_step {f k : Nat} {o : ByteArray} (h : k ≤ f) (hk : 0 < k) : ∃ f', k / 10 ≤ f' ∧ mdig f k o = mdig f' (k / 10) (strOfNums [48 + (k : Int) % 10] ++ o) := by
  match f, h with
  | 0, h => omega
  | f + 1, h => exact ⟨f, by omega, by rw [mdig, if_neg (by omega)]⟩
set_option maxHeartbeats 1600000 in
theorem markText_far (k0 : Nat) (w : World) (_ : 0 < k0) (h1 : k0 ≤ 8000000) :
    Calls Tryz.prog 95 #[.int .i64 k0] w fun e w' => e = .returned (.string (mtS k0)) ∧ Below w.heap.size w w' := by
  go_enter Tryz.func95, Tryz.ntmps95
  go_wp2
  go_loopw [0, 3] (fun i o wr => ∃ (k f m : Nat) (x : ByteArray), i = .int .i64 k ∧ o = .string x ∧ k ≤ f ∧ k ≤ 8000000 ∧ mdig f k x = mdig k0 k0 { data := #[] } ∧ x.size ≤ m ∧ k + m ≤ 8000000 ∧ Below w.heap.size w wr) (fun i _ _ => (intOf i).toNat)
  case atStart => exact ⟨k0, k0, 0, _, rfl, rfl, Nat.le_refl _, h1, rfl, Nat.le_refl _, by omega, Below.refl _ _⟩
  case round =>
    obtain ⟨k, f, m, x, rfl, rfl, hkf, hk1, hd, hx, hxm, hb⟩ := hrel
    have HD : Hid (mdig f k x = mdig k0 k0 { data := #[] }) := hd
    clear hd
    by_cases hk : 0 < k
    · obtain ⟨f', hf', hst⟩ := mdig_step (o := x) hkf hk
      have HN : Hid (mdig f' (k / 10) (strOfNums [48 + (k : Int) % 10] ++ x) = mdig k0 k0 { data := #[] }) := hst.symm.trans HD.out
      have hst := fun (w : World) (x : Int) => run_string_one (P := Tryz.prog) (src := 44) (dst := 9) Tryz.underlying44 Tryz.underlying5 Tryz.underlying9 w x
      have hone := fun x => strOfNums_size [x]
      have hdv : k / 10 + 1 ≤ k := by omega
      go_wp2
      go_roundw
      case rel => exact ⟨k / 10, f', m + 1, _, by go_num, rfl, hf', by omega, HN.out, by rw [ByteArray.size_append, hone]; simp; omega, by omega, hb.alloc hb.size _⟩
      case measure => simp [intOf]; omega
    · obtain rfl : k = 0 := by omega
      have HE : Hid (x = mdig k0 k0 { data := #[] }) := by have := HD.out; rw [mdig_zero] at this; exact this
      go_wp2
      go_ret
      exact ⟨ret_str (by rw [HE.out]; rfl), hb⟩
theorem markText_any (k0 : Nat) (w : World) (h0 : 0 < k0) (h1 : k0 ≤ 100000) :
    Calls Tryz.prog 95 #[.int .i64 k0] w fun e w' => e = .returned (.string (mtS k0)) ∧ Below w.heap.size w w' := markText_far k0 w h0 (by omega)
end Go.Proofs.YticdggnnpjachaaGreat
namespace Go.Proofs.YticdggnnpjachaaGreat
open Go.RowKit Go.PlainAid Go.Sort

def FK (kd : Nat → Bool) (m k i : Nat) : Value := if kd (i % m) then .string (mtS (k + i)) else .int .i64 ((k + i : Nat) : Int)
theorem fk_s {kd : Nat → Bool} {m k i c q : Nat} (hc : i % m = c) (hk : kd c = true) (hq : q = k + i) : FK kd m k i = .string (mtS q) := by rw [FK, hc, hk, hq]; rfl
theorem fk_i {kd : Nat → Bool} {m k i c q : Nat} (hc : i % m = c) (hk : kd c = false) (hq : q = k + i) : FK kd m k i = .int .i64 (q : Int) := by rw [FK, hc, hk, hq]; rfl
def OwnG (w : World) (base : Nat) (e : TypeId) (size : Nat) (r : Rw) (n : Nat) (F : Nat → Value) (c : Nat) : Prop := ∃ xs, OwnR w base e size r n xs ∧ ∀ i, i < c → xs[i]? = some (F i)
theorem OwnG.start {w : World} {base size n : Nat} {e : TypeId} {r : Rw} {xs : List Value} (h : OwnR w base e size r n xs) (F : Nat → Value) : OwnG w base e size r n F 0 := ⟨xs, h, fun i hi => absurd hi (Nat.not_lt_zero i)⟩
theorem OwnG.keep {w w' : World} {base size n c : Nat} {e : TypeId} {r : Rw} {F : Nat → Value} (h : OwnG w base e size r n F c) (hk : ∀ k, r.blk = some k → w'.heap[k]? = w.heap[k]?) : OwnG w' base e size r n F c := by
  obtain ⟨xs, h1, h2⟩ := h
  exact ⟨xs, h1.keep hk, h2⟩
theorem OwnG.typed {w : World} {base size n c : Nat} {e : TypeId} {r : Rw} {F : Nat → Value} (h : OwnG w base e size r n F c) {k : Nat} (hk : r.blk = some k) : base ≤ k ∧ k < w.heap.size ∧ ∃ cur, w.heap[k]? = some (.cells cur e (0, 0)) := by
  obtain ⟨xs, h1, _⟩ := h
  exact h1.typed hk
theorem OwnG.later {w w' : World} {base size n c : Nat} {e : TypeId} {r : Rw} {F : Nat → Value} (h : OwnG w base e size r n F c) (hb : Below w.heap.size w w') : OwnG w' base e size r n F c := h.keep fun k g => hb.block k (h.typed g).2.1
theorem OwnR.at {w : World} {base size n g : Nat} {e : TypeId} {r : Rw} {xs : List Value} (h : OwnR w base e size r n xs) (hg : r.a = some ⟨g, 0, none⟩) : w.ownsRow base e size (.slice (some ⟨g, 0, none⟩) n r.cap) n xs := by
  unfold OwnR at h
  rw [hg] at h
  exact h
theorem OwnG.has {w : World} {base size n c g : Nat} {e : TypeId} {r : Rw} {F : Nat → Value} (h : OwnG w base e size r n F c) (hg : r.a = some ⟨g, 0, none⟩) (i : Nat) (hi : i < n * size) : ∃ v, w.cell? ⟨g, i, none⟩ = some v := by
  obtain ⟨xs, h1, _⟩ := h
  rw [(h1.at hg).cellAt i hi]
  exact ⟨_, List.getElem?_eq_getElem (by rw [h1.1]; exact hi)⟩
theorem OwnG.cell {w : World} {base size n c g : Nat} {e : TypeId} {r : Rw} {F : Nat → Value} (h : OwnG w base e size r n F c) (hg : r.a = some ⟨g, 0, none⟩) (i : Nat) (hi : i < n * size) (hc : i < c) : w.cell? ⟨g, i, none⟩ = some (F i) := by
  obtain ⟨xs, h1, h2⟩ := h
  rw [(h1.at hg).cellAt i hi]
  exact h2 i hc
theorem OwnG.free {w : World} {base size n c g : Nat} {e : TypeId} {r : Rw} {F : Nat → Value} (h : OwnG w base e size r n F c) (hg : r.a = some ⟨g, 0, none⟩) (i : Nat) : w.frozen? ⟨g, i, none⟩ = false := by
  obtain ⟨xs, h1, _⟩ := h
  exact (h1.at hg).frozenAt i
theorem blk_of {r : Rw} {g : Nat} (hg : r.a = some ⟨g, 0, none⟩) : r.blk = some g := by rw [Rw.blk, hg]; rfl
theorem OwnG.put {w : World} {base size n c g : Nat} {e : TypeId} {r : Rw} {F : Nat → Value} (h : OwnG w base e size r n F c) (hg : r.a = some ⟨g, 0, none⟩) (hc : c < n * size) {v : Value} (hv : F c = v) : OwnG (w.setCell ⟨g, c, none⟩ v) base e size r n F (c + 1) := by
  subst hv
  obtain ⟨xs, h1, h2⟩ := h
  have hl := h1.1
  refine ⟨xs.set c (F c), ?_, fun i hi => ?_⟩
  · unfold OwnR
    rw [hg]
    exact ((h1.at hg).stored c (F c)).1
  · by_cases e : i = c
    · subst e
      exact List.getElem?_set_self (by omega)
    · rw [List.getElem?_set_ne (by omega)]
      exact h2 i (by omega)
theorem gb_refl (w : World) (b : Option Nat) : w.grownBy w b := ⟨rfl, rfl, rfl, Nat.le_refl _, fun _ _ _ => rfl⟩
theorem gb_trans {w w1 w2 : World} {b : Option Nat} (h : w.grownBy w1 b) (k : w1.grownBy w2 b) : w.grownBy w2 b :=
  ⟨k.os.trans h.os, k.tape.trans h.tape, k.output.trans h.output, Nat.le_trans h.size k.size, fun i hi hn => (k.block i (Nat.lt_of_lt_of_le hi h.size) hn).trans (h.block i hi hn)⟩
theorem gb_below {w w1 w2 : World} {b : Option Nat} (h : w.grownBy w1 b) (k : Below w1.heap.size w1 w2) : w.grownBy w2 b :=
  gb_trans h ⟨k.os, k.tape, k.output, k.size, fun i hi _ => k.block i hi⟩
theorem gb_set {w w1 : World} {g i : Nat} {u : Value} {b : Option Nat} (h : w.grownBy w1 b) (hb : b = some g) : w.grownBy (w1.setCell ⟨g, i, none⟩ u) b :=
  gb_trans h ⟨rfl, rfl, rfl, by show _ ≤ (w1.heap.modify _ _).size; simp, fun k _ hn => Below.heap_setCell w1 ⟨g, i, none⟩ u k (fun e => hn (by rw [hb, e]))⟩
end Go.Proofs.YticdggnnpjachaaGreat
namespace Go.Proofs.YticdggnnpjachaaGreat
open Go.RowKit Go.PlainAid Go.Sort

set_option maxRecDepth 100000 in
set_option maxHeartbeats 3200000 in
theorem markStringS_zero (a1 : Option Addr) (c1 k0 : Nat) (w : World) : Calls Tryz.prog 30 #[.slice a1 0 c1, .int .i64 k0] w fun e w' => e = .returned (.int .i64 k0) ∧ w' = w := by
  go_enter Tryz.func30, Tryz.ntmps30
  go_wp2
  go_loopg [1, 5] 1 (fun k q i wr => k = 1 ∧ q = .int .i64 k0 ∧ i = .int .i64 0 ∧ wr = w)
  case atStart => exact ⟨rfl, rfl, rfl, rfl⟩
  case round =>
    obtain ⟨rfl, rfl, rfl, rfl⟩ := hrel
    go_wp2
    go_ret
    exact ⟨rfl, rfl⟩
set_option maxRecDepth 100000 in
set_option maxHeartbeats 3200000 in
theorem markStringS_row (base g n k0 : Nat) (r : Rw) (w : World) (h1 : OwnG w base 9 1 r n (FK (fun _ => true) 1 k0) 0) (e1 : r.a = some ⟨g, 0, none⟩) (hn : n ≤ 4000) (hk0 : 0 < k0) (hk : k0 ≤ 50000) :
    Calls Tryz.prog 30 #[.slice (some ⟨g, 0, none⟩) n r.cap, .int .i64 k0] w fun e w' => e = .returned (.int .i64 ((k0 + n : Nat) : Int)) ∧ OwnG w' base 9 1 r n (FK (fun _ => true) 1 k0) (n) ∧ w.grownBy w' r.blk := by
  have H1 := hidI h1
  have E1 := hidI e1
  clear h1 e1
  go_enter Tryz.func30, Tryz.ntmps30
  go_wp2
  go_loopg [1, 5] n (fun k q i wr => ∃ j : Nat, i = .int .i64 j ∧ j + k = n ∧ q = .int .i64 ((k0 + j : Nat) : Int) ∧ OwnG wr base 9 1 r n (FK (fun _ => true) 1 k0) (j) ∧ w.grownBy wr r.blk)
  case atStart => exact ⟨0, rfl, by omega, by simp, by exact H1.out, gb_refl _ _⟩
  case round =>
    obtain ⟨j, rfl, hj, hq, ho, hg⟩ := hrel
    have HOr := hidI ho
    have HGr := hidI hg
    clear ho hg
    by_cases hlt : j < n
    · have hlti : (j : Int) < (n : Int) := by omega
      obtain ⟨q0, hq0⟩ : ∃ q0 : Nat, q0 = k0 + (j) := ⟨_, rfl⟩
      rw [← hq0] at hq
      subst hq
      obtain ⟨q1, hq1⟩ : ∃ q1 : Nat, q1 = q0 + 1 := ⟨_, rfl⟩
      have eq1 : (q0 : Int) + 1 = (q1 : Int) := by omega
      have HF0 : Hid (FK (fun _ => true) 1 k0 (j) = .string (mtS q0)) := fk_s (c := 0) (by omega) (by decide) (by omega)
      have HQ : Hid (q1 = k0 + (j + 1)) := by show q1 = _; omega
      have hqb : q1 ≤ 99000 := by omega
      have hq0p : 0 < q0 := by omega
      have HQB0 : Hid (0 < q0 ∧ q0 ≤ 100000) := ⟨by omega, by omega⟩
      obtain ⟨j1, hj1⟩ : ∃ j1, j1 = j + 1 := ⟨_, rfl⟩
      have ej : (j : Int) + 1 = (j1 : Int) := by omega
      have HJ := hidI hj1
      clear hj1 hq0 hq1
      obtain ⟨vr0, hvr0⟩ := HOr.out.has E1.out (j) (by omega)
      have hfr0 := HOr.out.free E1.out (j)
      go_wp2_with fail
      refine (markText_any q0 _ HQB0.out.1 HQB0.out.2).mono ?_
      rintro e w0 ⟨rfl, hb0⟩
      have HO0 := hidI (HOr.out.later hb0)
      have HG0 := hidI (gb_below HGr.out hb0)
      clear hb0
      obtain ⟨vt0_0, hvt0_0⟩ := HO0.out.has E1.out (j) (by omega)
      have hft0_0 := HO0.out.free E1.out (j)
      have HO0x : Hid (OwnG (w0.setCell ⟨g, j, none⟩ (.string (mtS q0))) base 9 1 r n (FK (fun _ => true) 1 k0) (j + 1)) := HO0.out.put E1.out (by omega) HF0.out
      have HG0x : Hid (w.grownBy (w0.setCell ⟨g, j, none⟩ (.string (mtS q0))) r.blk) := gb_set HG0.out (blk_of E1.out)
      go_wp2
      go_roundg (gk - 1)
      case rel => exact ⟨j1, rfl, by have := HJ.out; omega, by have := HJ.out; have := HQ.out; rw [show q1 = k0 + j1 from by omega], by have := HO0x.out; rw [show j1 = j + 1 from by have := HJ.out; omega]; exact this, HG0x.out⟩
      case measure => omega
    · have hlti : ¬ (j : Int) < (n : Int) := by omega
      obtain rfl : j = n := by omega
      subst hq
      go_wp2
      go_ret
      exact ⟨rfl, HOr.out, HGr.out⟩
theorem markStringS_any (base n k0 : Nat) (r : Rw) (w : World) (h1 : OwnG w base 9 1 r n (FK (fun _ => true) 1 k0) 0) (hn : n ≤ 4000) (hk0 : 0 < k0) (hk : k0 ≤ 50000) :
    Calls Tryz.prog 30 #[.slice r.a n r.cap, .int .i64 k0] w fun e w' => e = .returned (.int .i64 ((k0 + n : Nat) : Int)) ∧ OwnG w' base 9 1 r n (FK (fun _ => true) 1 k0) (n) ∧ w.grownBy w' r.blk := by
  by_cases h0 : n = 0
  · subst h0
    refine (markStringS_zero _ _ k0 w).mono ?_
    rintro e w1 ⟨rfl, rfl⟩
    exact ⟨by simp, by exact h1, gb_refl _ _⟩
  · obtain ⟨xs, h2, h3⟩ := h1
    rcases h2.nil_or with ⟨_, _, e⟩ | ⟨g, e1⟩
    · exact absurd e h0
    · rw [e1]
      exact markStringS_row base g n k0 r w ⟨xs, h2, h3⟩ e1 hn hk0 hk
set_option maxRecDepth 100000 in
set_option maxHeartbeats 3200000 in
theorem markImpS_zero (a1 : Option Addr) (c1 k0 : Nat) (w : World) : Calls Tryz.prog 31 #[.slice a1 0 c1, .int .i64 k0] w fun e w' => e = .returned (.int .i64 k0) ∧ w' = w := by
  go_enter Tryz.func31, Tryz.ntmps31
  go_wp2
  go_loopg [1, 5] 1 (fun k q i wr => k = 1 ∧ q = .int .i64 k0 ∧ i = .int .i64 0 ∧ wr = w)
  case atStart => exact ⟨rfl, rfl, rfl, rfl⟩
  case round =>
    obtain ⟨rfl, rfl, rfl, rfl⟩ := hrel
    go_wp2
    go_ret
    exact ⟨rfl, rfl⟩
set_option maxRecDepth 100000 in
set_option maxHeartbeats 3200000 in
theorem markImpS_row (base g n k0 : Nat) (r : Rw) (w : World) (h1 : OwnG w base 100 3 r n (FK (fun _ => true) 3 k0) 0) (e1 : r.a = some ⟨g, 0, none⟩) (hn : n ≤ 4000) (hk0 : 0 < k0) (hk : k0 ≤ 50000) :
    Calls Tryz.prog 31 #[.slice (some ⟨g, 0, none⟩) n r.cap, .int .i64 k0] w fun e w' => e = .returned (.int .i64 ((k0 + n * 3 : Nat) : Int)) ∧ OwnG w' base 100 3 r n (FK (fun _ => true) 3 k0) (n * 3) ∧ w.grownBy w' r.blk := by
  have H1 := hidI h1
  have E1 := hidI e1
  clear h1 e1
  go_enter Tryz.func31, Tryz.ntmps31
  go_wp2
  go_loopg [1, 5] n (fun k q i wr => ∃ j : Nat, i = .int .i64 j ∧ j + k = n ∧ q = .int .i64 ((k0 + j * 3 : Nat) : Int) ∧ OwnG wr base 100 3 r n (FK (fun _ => true) 3 k0) (j * 3) ∧ w.grownBy wr r.blk)
  case atStart => exact ⟨0, rfl, by omega, by simp, by rw [Nat.zero_mul]; exact H1.out, gb_refl _ _⟩
  case round =>
    obtain ⟨j, rfl, hj, hq, ho, hg⟩ := hrel
    have HOr := hidI ho
    have HGr := hidI hg
    clear ho hg
    by_cases hlt : j < n
    · have hlti : (j : Int) < (n : Int) := by omega
      obtain ⟨q0, hq0⟩ : ∃ q0 : Nat, q0 = k0 + (j * 3) := ⟨_, rfl⟩
      rw [← hq0] at hq
      subst hq
      obtain ⟨q1, hq1⟩ : ∃ q1 : Nat, q1 = q0 + 1 := ⟨_, rfl⟩
      have eq1 : (q0 : Int) + 1 = (q1 : Int) := by omega
      obtain ⟨q2, hq2⟩ : ∃ q2 : Nat, q2 = q1 + 1 := ⟨_, rfl⟩
      have eq2 : (q1 : Int) + 1 = (q2 : Int) := by omega
      obtain ⟨q3, hq3⟩ : ∃ q3 : Nat, q3 = q2 + 1 := ⟨_, rfl⟩
      have eq3 : (q2 : Int) + 1 = (q3 : Int) := by omega
      have HF0 : Hid (FK (fun _ => true) 3 k0 (j * 3) = .string (mtS q0)) := fk_s (c := 0) (by omega) (by decide) (by omega)
      have HF1 : Hid (FK (fun _ => true) 3 k0 (j * 3 + 1) = .string (mtS q1)) := fk_s (c := 1) (by omega) (by decide) (by omega)
      have HF2 : Hid (FK (fun _ => true) 3 k0 (j * 3 + 2) = .string (mtS q2)) := fk_s (c := 2) (by omega) (by decide) (by omega)
      have HQ : Hid (q3 = k0 + (j * 3 + 3)) := by show q3 = _; omega
      have hqb : q3 ≤ 99000 := by omega
      have hq0p : 0 < q0 := by omega
      have HQB0 : Hid (0 < q0 ∧ q0 ≤ 100000) := ⟨by omega, by omega⟩
      have HQB1 : Hid (0 < q1 ∧ q1 ≤ 100000) := ⟨by omega, by omega⟩
      have HQB2 : Hid (0 < q2 ∧ q2 ≤ 100000) := ⟨by omega, by omega⟩
      obtain ⟨j1, hj1⟩ : ∃ j1, j1 = j + 1 := ⟨_, rfl⟩
      have ej : (j : Int) + 1 = (j1 : Int) := by omega
      have HJ := hidI hj1
      clear hj1 hq0 hq1 hq2 hq3
      obtain ⟨vr0, hvr0⟩ := HOr.out.has E1.out (j * 3) (by omega)
      have hfr0 := HOr.out.free E1.out (j * 3)
      obtain ⟨vr1, hvr1⟩ := HOr.out.has E1.out (j * 3 + 1) (by omega)
      have hfr1 := HOr.out.free E1.out (j * 3 + 1)
      obtain ⟨vr2, hvr2⟩ := HOr.out.has E1.out (j * 3 + 2) (by omega)
      have hfr2 := HOr.out.free E1.out (j * 3 + 2)
      go_wp2_with fail
      refine (markText_any q0 _ HQB0.out.1 HQB0.out.2).mono ?_
      rintro e w0 ⟨rfl, hb0⟩
      have HO0 := hidI (HOr.out.later hb0)
      have HG0 := hidI (gb_below HGr.out hb0)
      clear hb0
      obtain ⟨vt0_0, hvt0_0⟩ := HO0.out.has E1.out (j * 3) (by omega)
      have hft0_0 := HO0.out.free E1.out (j * 3)
      obtain ⟨vt0_1, hvt0_1⟩ := HO0.out.has E1.out (j * 3 + 1) (by omega)
      have hft0_1 := HO0.out.free E1.out (j * 3 + 1)
      obtain ⟨vt0_2, hvt0_2⟩ := HO0.out.has E1.out (j * 3 + 2) (by omega)
      have hft0_2 := HO0.out.free E1.out (j * 3 + 2)
      have HO0x : Hid (OwnG (w0.setCell ⟨g, j * 3, none⟩ (.string (mtS q0))) base 100 3 r n (FK (fun _ => true) 3 k0) (j * 3 + 1)) := HO0.out.put E1.out (by omega) HF0.out
      have HG0x : Hid (w.grownBy (w0.setCell ⟨g, j * 3, none⟩ (.string (mtS q0))) r.blk) := gb_set HG0.out (blk_of E1.out)
      go_wp2_with fail
      refine (markText_any q1 _ HQB1.out.1 HQB1.out.2).mono ?_
      rintro e w1 ⟨rfl, hb1⟩
      have HO1 := hidI (HO0x.out.later hb1)
      have HG1 := hidI (gb_below HG0x.out hb1)
      clear hb1
      obtain ⟨vt1_1, hvt1_1⟩ := HO1.out.has E1.out (j * 3 + 1) (by omega)
      have hft1_1 := HO1.out.free E1.out (j * 3 + 1)
      obtain ⟨vt1_2, hvt1_2⟩ := HO1.out.has E1.out (j * 3 + 2) (by omega)
      have hft1_2 := HO1.out.free E1.out (j * 3 + 2)
      have HO1x : Hid (OwnG (w1.setCell ⟨g, j * 3 + 1, none⟩ (.string (mtS q1))) base 100 3 r n (FK (fun _ => true) 3 k0) (j * 3 + 1 + 1)) := HO1.out.put E1.out (by omega) HF1.out
      have HG1x : Hid (w.grownBy (w1.setCell ⟨g, j * 3 + 1, none⟩ (.string (mtS q1))) r.blk) := gb_set HG1.out (blk_of E1.out)
      go_wp2_with fail
      refine (markText_any q2 _ HQB2.out.1 HQB2.out.2).mono ?_
      rintro e w2 ⟨rfl, hb2⟩
      have HO2 := hidI (HO1x.out.later hb2)
      have HG2 := hidI (gb_below HG1x.out hb2)
      clear hb2
      obtain ⟨vt2_2, hvt2_2⟩ := HO2.out.has E1.out (j * 3 + 2) (by omega)
      have hft2_2 := HO2.out.free E1.out (j * 3 + 2)
      have HO2x : Hid (OwnG (w2.setCell ⟨g, j * 3 + 2, none⟩ (.string (mtS q2))) base 100 3 r n (FK (fun _ => true) 3 k0) (j * 3 + 2 + 1)) := HO2.out.put E1.out (by omega) HF2.out
      have HG2x : Hid (w.grownBy (w2.setCell ⟨g, j * 3 + 2, none⟩ (.string (mtS q2))) r.blk) := gb_set HG2.out (blk_of E1.out)
      go_wp2
      go_roundg (gk - 1)
      case rel => exact ⟨j1, rfl, by have := HJ.out; omega, by have := HJ.out; have := HQ.out; rw [show q3 = k0 + j1 * 3 from by omega], by have := HO2x.out; rw [show j1 * 3 = j * 3 + 2 + 1 from by have := HJ.out; omega]; exact this, HG2x.out⟩
      case measure => omega
    · have hlti : ¬ (j : Int) < (n : Int) := by omega
      obtain rfl : j = n := by omega
      subst hq
      go_wp2
      go_ret
      exact ⟨rfl, HOr.out, HGr.out⟩
theorem markImpS_any (base n k0 : Nat) (r : Rw) (w : World) (h1 : OwnG w base 100 3 r n (FK (fun _ => true) 3 k0) 0) (hn : n ≤ 4000) (hk0 : 0 < k0) (hk : k0 ≤ 50000) :
    Calls Tryz.prog 31 #[.slice r.a n r.cap, .int .i64 k0] w fun e w' => e = .returned (.int .i64 ((k0 + n * 3 : Nat) : Int)) ∧ OwnG w' base 100 3 r n (FK (fun _ => true) 3 k0) (n * 3) ∧ w.grownBy w' r.blk := by
  by_cases h0 : n = 0
  · subst h0
    refine (markImpS_zero _ _ k0 w).mono ?_
    rintro e w1 ⟨rfl, rfl⟩
    exact ⟨by simp, by rw [Nat.zero_mul]; exact h1, gb_refl _ _⟩
  · obtain ⟨xs, h2, h3⟩ := h1
    rcases h2.nil_or with ⟨_, _, e⟩ | ⟨g, e1⟩
    · exact absurd e h0
    · rw [e1]
      exact markImpS_row base g n k0 r w ⟨xs, h2, h3⟩ e1 hn hk0 hk
set_option maxRecDepth 100000 in
set_option maxHeartbeats 3200000 in
theorem markExpS_zero (a1 : Option Addr) (c1 k0 : Nat) (w : World) : Calls Tryz.prog 32 #[.slice a1 0 c1, .int .i64 k0] w fun e w' => e = .returned (.int .i64 k0) ∧ w' = w := by
  go_enter Tryz.func32, Tryz.ntmps32
  go_wp2
  go_loopg [1, 5] 1 (fun k q i wr => k = 1 ∧ q = .int .i64 k0 ∧ i = .int .i64 0 ∧ wr = w)
  case atStart => exact ⟨rfl, rfl, rfl, rfl⟩
  case round =>
    obtain ⟨rfl, rfl, rfl, rfl⟩ := hrel
    go_wp2
    go_ret
    exact ⟨rfl, rfl⟩
set_option maxRecDepth 100000 in
set_option maxHeartbeats 3200000 in
theorem markExpS_row (base g n k0 : Nat) (r : Rw) (w : World) (h1 : OwnG w base 102 4 r n (FK (fun i => !decide (i = 0)) 4 k0) 0) (e1 : r.a = some ⟨g, 0, none⟩) (hn : n ≤ 4000) (hk0 : 0 < k0) (hk : k0 ≤ 50000) :
    Calls Tryz.prog 32 #[.slice (some ⟨g, 0, none⟩) n r.cap, .int .i64 k0] w fun e w' => e = .returned (.int .i64 ((k0 + n * 4 : Nat) : Int)) ∧ OwnG w' base 102 4 r n (FK (fun i => !decide (i = 0)) 4 k0) (n * 4) ∧ w.grownBy w' r.blk := by
  have H1 := hidI h1
  have E1 := hidI e1
  clear h1 e1
  go_enter Tryz.func32, Tryz.ntmps32
  go_wp2
  go_loopg [1, 5] n (fun k q i wr => ∃ j : Nat, i = .int .i64 j ∧ j + k = n ∧ q = .int .i64 ((k0 + j * 4 : Nat) : Int) ∧ OwnG wr base 102 4 r n (FK (fun i => !decide (i = 0)) 4 k0) (j * 4) ∧ w.grownBy wr r.blk)
  case atStart => exact ⟨0, rfl, by omega, by simp, by rw [Nat.zero_mul]; exact H1.out, gb_refl _ _⟩
  case round =>
    obtain ⟨j, rfl, hj, hq, ho, hg⟩ := hrel
    have HOr := hidI ho
    have HGr := hidI hg
    clear ho hg
    by_cases hlt : j < n
    · have hlti : (j : Int) < (n : Int) := by omega
      obtain ⟨q0, hq0⟩ : ∃ q0 : Nat, q0 = k0 + (j * 4) := ⟨_, rfl⟩
      rw [← hq0] at hq
      subst hq
      obtain ⟨q1, hq1⟩ : ∃ q1 : Nat, q1 = q0 + 1 := ⟨_, rfl⟩
      have eq1 : (q0 : Int) + 1 = (q1 : Int) := by omega
      obtain ⟨q2, hq2⟩ : ∃ q2 : Nat, q2 = q1 + 1 := ⟨_, rfl⟩
      have eq2 : (q1 : Int) + 1 = (q2 : Int) := by omega
      obtain ⟨q3, hq3⟩ : ∃ q3 : Nat, q3 = q2 + 1 := ⟨_, rfl⟩
      have eq3 : (q2 : Int) + 1 = (q3 : Int) := by omega
      obtain ⟨q4, hq4⟩ : ∃ q4 : Nat, q4 = q3 + 1 := ⟨_, rfl⟩
      have eq4 : (q3 : Int) + 1 = (q4 : Int) := by omega
      have HF0 : Hid (FK (fun i => !decide (i = 0)) 4 k0 (j * 4) = .int .i64 (q0 : Int)) := fk_i (c := 0) (by omega) (by decide) (by omega)
      have HF1 : Hid (FK (fun i => !decide (i = 0)) 4 k0 (j * 4 + 1) = .string (mtS q1)) := fk_s (c := 1) (by omega) (by decide) (by omega)
      have HF2 : Hid (FK (fun i => !decide (i = 0)) 4 k0 (j * 4 + 2) = .string (mtS q2)) := fk_s (c := 2) (by omega) (by decide) (by omega)
      have HF3 : Hid (FK (fun i => !decide (i = 0)) 4 k0 (j * 4 + 3) = .string (mtS q3)) := fk_s (c := 3) (by omega) (by decide) (by omega)
      have HQ : Hid (q4 = k0 + (j * 4 + 4)) := by show q4 = _; omega
      have hqb : q4 ≤ 99000 := by omega
      have hq0p : 0 < q0 := by omega
      have HQB1 : Hid (0 < q1 ∧ q1 ≤ 100000) := ⟨by omega, by omega⟩
      have HQB2 : Hid (0 < q2 ∧ q2 ≤ 100000) := ⟨by omega, by omega⟩
      have HQB3 : Hid (0 < q3 ∧ q3 ≤ 100000) := ⟨by omega, by omega⟩
      obtain ⟨j1, hj1⟩ : ∃ j1, j1 = j + 1 := ⟨_, rfl⟩
      have ej : (j : Int) + 1 = (j1 : Int) := by omega
      have HJ := hidI hj1
      clear hj1 hq0 hq1 hq2 hq3 hq4
      obtain ⟨vr0, hvr0⟩ := HOr.out.has E1.out (j * 4) (by omega)
      have hfr0 := HOr.out.free E1.out (j * 4)
      obtain ⟨vr1, hvr1⟩ := HOr.out.has E1.out (j * 4 + 1) (by omega)
      have hfr1 := HOr.out.free E1.out (j * 4 + 1)
      obtain ⟨vr2, hvr2⟩ := HOr.out.has E1.out (j * 4 + 2) (by omega)
      have hfr2 := HOr.out.free E1.out (j * 4 + 2)
      obtain ⟨vr3, hvr3⟩ := HOr.out.has E1.out (j * 4 + 3) (by omega)
      have hfr3 := HOr.out.free E1.out (j * 4 + 3)
      have HO0x : Hid (OwnG (wr.setCell ⟨g, j * 4, none⟩ (.int .i64 (q0 : Int))) base 102 4 r n (FK (fun i => !decide (i = 0)) 4 k0) (j * 4 + 1)) := HOr.out.put E1.out (by omega) HF0.out
      have HG0x : Hid (w.grownBy (wr.setCell ⟨g, j * 4, none⟩ (.int .i64 (q0 : Int))) r.blk) := gb_set HGr.out (blk_of E1.out)
      go_wp2_with fail
      refine (markText_any q1 _ HQB1.out.1 HQB1.out.2).mono ?_
      rintro e w1 ⟨rfl, hb1⟩
      have HO1 := hidI (HO0x.out.later hb1)
      have HG1 := hidI (gb_below HG0x.out hb1)
      clear hb1
      obtain ⟨vt1_1, hvt1_1⟩ := HO1.out.has E1.out (j * 4 + 1) (by omega)
      have hft1_1 := HO1.out.free E1.out (j * 4 + 1)
      obtain ⟨vt1_2, hvt1_2⟩ := HO1.out.has E1.out (j * 4 + 2) (by omega)
      have hft1_2 := HO1.out.free E1.out (j * 4 + 2)
      obtain ⟨vt1_3, hvt1_3⟩ := HO1.out.has E1.out (j * 4 + 3) (by omega)
      have hft1_3 := HO1.out.free E1.out (j * 4 + 3)
      have HO1x : Hid (OwnG (w1.setCell ⟨g, j * 4 + 1, none⟩ (.string (mtS q1))) base 102 4 r n (FK (fun i => !decide (i = 0)) 4 k0) (j * 4 + 1 + 1)) := HO1.out.put E1.out (by omega) HF1.out
      have HG1x : Hid (w.grownBy (w1.setCell ⟨g, j * 4 + 1, none⟩ (.string (mtS q1))) r.blk) := gb_set HG1.out (blk_of E1.out)
      go_wp2_with fail
      refine (markText_any q2 _ HQB2.out.1 HQB2.out.2).mono ?_
      rintro e w2 ⟨rfl, hb2⟩
      have HO2 := hidI (HO1x.out.later hb2)
      have HG2 := hidI (gb_below HG1x.out hb2)
      clear hb2
      obtain ⟨vt2_2, hvt2_2⟩ := HO2.out.has E1.out (j * 4 + 2) (by omega)
      have hft2_2 := HO2.out.free E1.out (j * 4 + 2)
      obtain ⟨vt2_3, hvt2_3⟩ := HO2.out.has E1.out (j * 4 + 3) (by omega)
      have hft2_3 := HO2.out.free E1.out (j * 4 + 3)
      have HO2x : Hid (OwnG (w2.setCell ⟨g, j * 4 + 2, none⟩ (.string (mtS q2))) base 102 4 r n (FK (fun i => !decide (i = 0)) 4 k0) (j * 4 + 2 + 1)) := HO2.out.put E1.out (by omega) HF2.out
      have HG2x : Hid (w.grownBy (w2.setCell ⟨g, j * 4 + 2, none⟩ (.string (mtS q2))) r.blk) := gb_set HG2.out (blk_of E1.out)
      go_wp2_with fail
      refine (markText_any q3 _ HQB3.out.1 HQB3.out.2).mono ?_
      rintro e w3 ⟨rfl, hb3⟩
      have HO3 := hidI (HO2x.out.later hb3)
      have HG3 := hidI (gb_below HG2x.out hb3)
      clear hb3
      obtain ⟨vt3_3, hvt3_3⟩ := HO3.out.has E1.out (j * 4 + 3) (by omega)
      have hft3_3 := HO3.out.free E1.out (j * 4 + 3)
      have HO3x : Hid (OwnG (w3.setCell ⟨g, j * 4 + 3, none⟩ (.string (mtS q3))) base 102 4 r n (FK (fun i => !decide (i = 0)) 4 k0) (j * 4 + 3 + 1)) := HO3.out.put E1.out (by omega) HF3.out
      have HG3x : Hid (w.grownBy (w3.setCell ⟨g, j * 4 + 3, none⟩ (.string (mtS q3))) r.blk) := gb_set HG3.out (blk_of E1.out)
      go_wp2
      go_roundg (gk - 1)
      case rel => exact ⟨j1, rfl, by have := HJ.out; omega, by have := HJ.out; have := HQ.out; rw [show q4 = k0 + j1 * 4 from by omega], by have := HO3x.out; rw [show j1 * 4 = j * 4 + 3 + 1 from by have := HJ.out; omega]; exact this, HG3x.out⟩
      case measure => omega
    · have hlti : ¬ (j : Int) < (n : Int) := by omega
      obtain rfl : j = n := by omega
      subst hq
      go_wp2
      go_ret
      exact ⟨rfl, HOr.out, HGr.out⟩
theorem markExpS_any (base n k0 : Nat) (r : Rw) (w : World) (h1 : OwnG w base 102 4 r n (FK (fun i => !decide (i = 0)) 4 k0) 0) (hn : n ≤ 4000) (hk0 : 0 < k0) (hk : k0 ≤ 50000) :
    Calls Tryz.prog 32 #[.slice r.a n r.cap, .int .i64 k0] w fun e w' => e = .returned (.int .i64 ((k0 + n * 4 : Nat) : Int)) ∧ OwnG w' base 102 4 r n (FK (fun i => !decide (i = 0)) 4 k0) (n * 4) ∧ w.grownBy w' r.blk := by
  by_cases h0 : n = 0
  · subst h0
    refine (markExpS_zero _ _ k0 w).mono ?_
    rintro e w1 ⟨rfl, rfl⟩
    exact ⟨by simp, by rw [Nat.zero_mul]; exact h1, gb_refl _ _⟩
  · obtain ⟨xs, h2, h3⟩ := h1
    rcases h2.nil_or with ⟨_, _, e⟩ | ⟨g, e1⟩
    · exact absurd e h0
    · rw [e1]
      exact markExpS_row base g n k0 r w ⟨xs, h2, h3⟩ e1 hn hk0 hk
set_option maxRecDepth 100000 in
set_option maxHeartbeats 3200000 in
theorem markStmtS_zero (a1 : Option Addr) (c1 k0 : Nat) (w : World) : Calls Tryz.prog 33 #[.slice a1 0 c1, .int .i64 k0] w fun e w' => e = .returned (.int .i64 k0) ∧ w' = w := by
  go_enter Tryz.func33, Tryz.ntmps33
  go_wp2
  go_loopg [1, 5] 1 (fun k q i wr => k = 1 ∧ q = .int .i64 k0 ∧ i = .int .i64 0 ∧ wr = w)
  case atStart => exact ⟨rfl, rfl, rfl, rfl⟩
  case round =>
    obtain ⟨rfl, rfl, rfl, rfl⟩ := hrel
    go_wp2
    go_ret
    exact ⟨rfl, rfl⟩
set_option maxRecDepth 100000 in
set_option maxHeartbeats 3200000 in
theorem markStmtS_row (base g n k0 : Nat) (r : Rw) (w : World) (h1 : OwnG w base 106 3 r n (FK (fun i => decide (i = 1)) 3 k0) 0) (e1 : r.a = some ⟨g, 0, none⟩) (hn : n ≤ 4000) (hk0 : 0 < k0) (hk : k0 ≤ 50000) :
    Calls Tryz.prog 33 #[.slice (some ⟨g, 0, none⟩) n r.cap, .int .i64 k0] w fun e w' => e = .returned (.int .i64 ((k0 + n * 3 : Nat) : Int)) ∧ OwnG w' base 106 3 r n (FK (fun i => decide (i = 1)) 3 k0) (n * 3) ∧ w.grownBy w' r.blk := by
  have H1 := hidI h1
  have E1 := hidI e1
  clear h1 e1
  go_enter Tryz.func33, Tryz.ntmps33
  go_wp2
  go_loopg [1, 5] n (fun k q i wr => ∃ j : Nat, i = .int .i64 j ∧ j + k = n ∧ q = .int .i64 ((k0 + j * 3 : Nat) : Int) ∧ OwnG wr base 106 3 r n (FK (fun i => decide (i = 1)) 3 k0) (j * 3) ∧ w.grownBy wr r.blk)
  case atStart => exact ⟨0, rfl, by omega, by simp, by rw [Nat.zero_mul]; exact H1.out, gb_refl _ _⟩
  case round =>
    obtain ⟨j, rfl, hj, hq, ho, hg⟩ := hrel
    have HOr := hidI ho
    have HGr := hidI hg
    clear ho hg
    by_cases hlt : j < n
    · have hlti : (j : Int) < (n : Int) := by omega
      obtain ⟨q0, hq0⟩ : ∃ q0 : Nat, q0 = k0 + (j * 3) := ⟨_, rfl⟩
      rw [← hq0] at hq
      subst hq
      obtain ⟨q1, hq1⟩ : ∃ q1 : Nat, q1 = q0 + 1 := ⟨_, rfl⟩
      have eq1 : (q0 : Int) + 1 = (q1 : Int) := by omega
      obtain ⟨q2, hq2⟩ : ∃ q2 : Nat, q2 = q1 + 1 := ⟨_, rfl⟩
      have eq2 : (q1 : Int) + 1 = (q2 : Int) := by omega
      obtain ⟨q3, hq3⟩ : ∃ q3 : Nat, q3 = q2 + 1 := ⟨_, rfl⟩
      have eq3 : (q2 : Int) + 1 = (q3 : Int) := by omega
      have HF0 : Hid (FK (fun i => decide (i = 1)) 3 k0 (j * 3) = .int .i64 (q0 : Int)) := fk_i (c := 0) (by omega) (by decide) (by omega)
      have HF1 : Hid (FK (fun i => decide (i = 1)) 3 k0 (j * 3 + 1) = .string (mtS q1)) := fk_s (c := 1) (by omega) (by decide) (by omega)
      have HF2 : Hid (FK (fun i => decide (i = 1)) 3 k0 (j * 3 + 2) = .int .i64 (q2 : Int)) := fk_i (c := 2) (by omega) (by decide) (by omega)
      have HQ : Hid (q3 = k0 + (j * 3 + 3)) := by show q3 = _; omega
      have hqb : q3 ≤ 99000 := by omega
      have hq0p : 0 < q0 := by omega
      have HQB1 : Hid (0 < q1 ∧ q1 ≤ 100000) := ⟨by omega, by omega⟩
      obtain ⟨j1, hj1⟩ : ∃ j1, j1 = j + 1 := ⟨_, rfl⟩
      have ej : (j : Int) + 1 = (j1 : Int) := by omega
      have HJ := hidI hj1
      clear hj1 hq0 hq1 hq2 hq3
      obtain ⟨vr0, hvr0⟩ := HOr.out.has E1.out (j * 3) (by omega)
      have hfr0 := HOr.out.free E1.out (j * 3)
      obtain ⟨vr1, hvr1⟩ := HOr.out.has E1.out (j * 3 + 1) (by omega)
      have hfr1 := HOr.out.free E1.out (j * 3 + 1)
      obtain ⟨vr2, hvr2⟩ := HOr.out.has E1.out (j * 3 + 2) (by omega)
      have hfr2 := HOr.out.free E1.out (j * 3 + 2)
      have HO0x : Hid (OwnG (wr.setCell ⟨g, j * 3, none⟩ (.int .i64 (q0 : Int))) base 106 3 r n (FK (fun i => decide (i = 1)) 3 k0) (j * 3 + 1)) := HOr.out.put E1.out (by omega) HF0.out
      have HG0x : Hid (w.grownBy (wr.setCell ⟨g, j * 3, none⟩ (.int .i64 (q0 : Int))) r.blk) := gb_set HGr.out (blk_of E1.out)
      go_wp2_with fail
      refine (markText_any q1 _ HQB1.out.1 HQB1.out.2).mono ?_
      rintro e w1 ⟨rfl, hb1⟩
      have HO1 := hidI (HO0x.out.later hb1)
      have HG1 := hidI (gb_below HG0x.out hb1)
      clear hb1
      obtain ⟨vt1_1, hvt1_1⟩ := HO1.out.has E1.out (j * 3 + 1) (by omega)
      have hft1_1 := HO1.out.free E1.out (j * 3 + 1)
      obtain ⟨vt1_2, hvt1_2⟩ := HO1.out.has E1.out (j * 3 + 2) (by omega)
      have hft1_2 := HO1.out.free E1.out (j * 3 + 2)
      have HO1x : Hid (OwnG (w1.setCell ⟨g, j * 3 + 1, none⟩ (.string (mtS q1))) base 106 3 r n (FK (fun i => decide (i = 1)) 3 k0) (j * 3 + 1 + 1)) := HO1.out.put E1.out (by omega) HF1.out
      have HG1x : Hid (w.grownBy (w1.setCell ⟨g, j * 3 + 1, none⟩ (.string (mtS q1))) r.blk) := gb_set HG1.out (blk_of E1.out)
      have HO2x : Hid (OwnG ((w1.setCell ⟨g, j * 3 + 1, none⟩ (.string (mtS q1))).setCell ⟨g, j * 3 + 2, none⟩ (.int .i64 (q2 : Int))) base 106 3 r n (FK (fun i => decide (i = 1)) 3 k0) (j * 3 + 2 + 1)) := HO1x.out.put E1.out (by omega) HF2.out
      have HG2x : Hid (w.grownBy ((w1.setCell ⟨g, j * 3 + 1, none⟩ (.string (mtS q1))).setCell ⟨g, j * 3 + 2, none⟩ (.int .i64 (q2 : Int))) r.blk) := gb_set HG1x.out (blk_of E1.out)
      go_wp2
      go_roundg (gk - 1)
      case rel => exact ⟨j1, rfl, by have := HJ.out; omega, by have := HJ.out; have := HQ.out; rw [show q3 = k0 + j1 * 3 from by omega], by have := HO2x.out; rw [show j1 * 3 = j * 3 + 2 + 1 from by have := HJ.out; omega]; exact this, HG2x.out⟩
      case measure => omega
    · have hlti : ¬ (j : Int) < (n : Int) := by omega
      obtain rfl : j = n := by omega
      subst hq
      go_wp2
      go_ret
      exact ⟨rfl, HOr.out, HGr.out⟩
theorem markStmtS_any (base n k0 : Nat) (r : Rw) (w : World) (h1 : OwnG w base 106 3 r n (FK (fun i => decide (i = 1)) 3 k0) 0) (hn : n ≤ 4000) (hk0 : 0 < k0) (hk : k0 ≤ 50000) :
    Calls Tryz.prog 33 #[.slice r.a n r.cap, .int .i64 k0] w fun e w' => e = .returned (.int .i64 ((k0 + n * 3 : Nat) : Int)) ∧ OwnG w' base 106 3 r n (FK (fun i => decide (i = 1)) 3 k0) (n * 3) ∧ w.grownBy w' r.blk := by
  by_cases h0 : n = 0
  · subst h0
    refine (markStmtS_zero _ _ k0 w).mono ?_
    rintro e w1 ⟨rfl, rfl⟩
    exact ⟨by simp, by rw [Nat.zero_mul]; exact h1, gb_refl _ _⟩
  · obtain ⟨xs, h2, h3⟩ := h1
    rcases h2.nil_or with ⟨_, _, e⟩ | ⟨g, e1⟩
    · exact absurd e h0
    · rw [e1]
      exact markStmtS_row base g n k0 r w ⟨xs, h2, h3⟩ e1 hn hk0 hk
set_option maxRecDepth 100000 in
set_option maxHeartbeats 3200000 in
theorem markExprS_zero (a1 : Option Addr) (c1 k0 : Nat) (w : World) : Calls Tryz.prog 34 #[.slice a1 0 c1, .int .i64 k0] w fun e w' => e = .returned (.int .i64 k0) ∧ w' = w := by
  go_enter Tryz.func34, Tryz.ntmps34
  go_wp2
  go_loopg [1, 5] 1 (fun k q i wr => k = 1 ∧ q = .int .i64 k0 ∧ i = .int .i64 0 ∧ wr = w)
  case atStart => exact ⟨rfl, rfl, rfl, rfl⟩
  case round =>
    obtain ⟨rfl, rfl, rfl, rfl⟩ := hrel
    go_wp2
    go_ret
    exact ⟨rfl, rfl⟩
set_option maxRecDepth 100000 in
set_option maxHeartbeats 3200000 in
theorem markExprS_row (base g n k0 : Nat) (r : Rw) (w : World) (h1 : OwnG w base 108 6 r n (FK (fun i => decide (i = 2) || decide (i = 3)) 6 k0) 0) (e1 : r.a = some ⟨g, 0, none⟩) (hn : n ≤ 4000) (hk0 : 0 < k0) (hk : k0 ≤ 50000) :
    Calls Tryz.prog 34 #[.slice (some ⟨g, 0, none⟩) n r.cap, .int .i64 k0] w fun e w' => e = .returned (.int .i64 ((k0 + n * 6 : Nat) : Int)) ∧ OwnG w' base 108 6 r n (FK (fun i => decide (i = 2) || decide (i = 3)) 6 k0) (n * 6) ∧ w.grownBy w' r.blk := by
  have H1 := hidI h1
  have E1 := hidI e1
  clear h1 e1
  go_enter Tryz.func34, Tryz.ntmps34
  go_wp2
  go_loopg [1, 5] n (fun k q i wr => ∃ j : Nat, i = .int .i64 j ∧ j + k = n ∧ q = .int .i64 ((k0 + j * 6 : Nat) : Int) ∧ OwnG wr base 108 6 r n (FK (fun i => decide (i = 2) || decide (i = 3)) 6 k0) (j * 6) ∧ w.grownBy wr r.blk)
  case atStart => exact ⟨0, rfl, by omega, by simp, by rw [Nat.zero_mul]; exact H1.out, gb_refl _ _⟩
  case round =>
    obtain ⟨j, rfl, hj, hq, ho, hg⟩ := hrel
    have HOr := hidI ho
    have HGr := hidI hg
    clear ho hg
    by_cases hlt : j < n
    · have hlti : (j : Int) < (n : Int) := by omega
      obtain ⟨q0, hq0⟩ : ∃ q0 : Nat, q0 = k0 + (j * 6) := ⟨_, rfl⟩
      rw [← hq0] at hq
      subst hq
      obtain ⟨q1, hq1⟩ : ∃ q1 : Nat, q1 = q0 + 1 := ⟨_, rfl⟩
      have eq1 : (q0 : Int) + 1 = (q1 : Int) := by omega
      obtain ⟨q2, hq2⟩ : ∃ q2 : Nat, q2 = q1 + 1 := ⟨_, rfl⟩
      have eq2 : (q1 : Int) + 1 = (q2 : Int) := by omega
      obtain ⟨q3, hq3⟩ : ∃ q3 : Nat, q3 = q2 + 1 := ⟨_, rfl⟩
      have eq3 : (q2 : Int) + 1 = (q3 : Int) := by omega
      obtain ⟨q4, hq4⟩ : ∃ q4 : Nat, q4 = q3 + 1 := ⟨_, rfl⟩
      have eq4 : (q3 : Int) + 1 = (q4 : Int) := by omega
      obtain ⟨q5, hq5⟩ : ∃ q5 : Nat, q5 = q4 + 1 := ⟨_, rfl⟩
      have eq5 : (q4 : Int) + 1 = (q5 : Int) := by omega
      obtain ⟨q6, hq6⟩ : ∃ q6 : Nat, q6 = q5 + 1 := ⟨_, rfl⟩
      have eq6 : (q5 : Int) + 1 = (q6 : Int) := by omega
      have HF0 : Hid (FK (fun i => decide (i = 2) || decide (i = 3)) 6 k0 (j * 6) = .int .i64 (q0 : Int)) := fk_i (c := 0) (by omega) (by decide) (by omega)
      have HF1 : Hid (FK (fun i => decide (i = 2) || decide (i = 3)) 6 k0 (j * 6 + 1) = .int .i64 (q1 : Int)) := fk_i (c := 1) (by omega) (by decide) (by omega)
      have HF2 : Hid (FK (fun i => decide (i = 2) || decide (i = 3)) 6 k0 (j * 6 + 2) = .string (mtS q2)) := fk_s (c := 2) (by omega) (by decide) (by omega)
      have HF3 : Hid (FK (fun i => decide (i = 2) || decide (i = 3)) 6 k0 (j * 6 + 3) = .string (mtS q3)) := fk_s (c := 3) (by omega) (by decide) (by omega)
      have HF4 : Hid (FK (fun i => decide (i = 2) || decide (i = 3)) 6 k0 (j * 6 + 4) = .int .i64 (q4 : Int)) := fk_i (c := 4) (by omega) (by decide) (by omega)
      have HF5 : Hid (FK (fun i => decide (i = 2) || decide (i = 3)) 6 k0 (j * 6 + 5) = .int .i64 (q5 : Int)) := fk_i (c := 5) (by omega) (by decide) (by omega)
      have HQ : Hid (q6 = k0 + (j * 6 + 6)) := by show q6 = _; omega
      have hqb : q6 ≤ 99000 := by omega
      have hq0p : 0 < q0 := by omega
      have HQB2 : Hid (0 < q2 ∧ q2 ≤ 100000) := ⟨by omega, by omega⟩
      have HQB3 : Hid (0 < q3 ∧ q3 ≤ 100000) := ⟨by omega, by omega⟩
      obtain ⟨j1, hj1⟩ : ∃ j1, j1 = j + 1 := ⟨_, rfl⟩
      have ej : (j : Int) + 1 = (j1 : Int) := by omega
      have HJ := hidI hj1
      clear hj1 hq0 hq1 hq2 hq3 hq4 hq5 hq6
      obtain ⟨vr0, hvr0⟩ := HOr.out.has E1.out (j * 6) (by omega)
      have hfr0 := HOr.out.free E1.out (j * 6)
      obtain ⟨vr1, hvr1⟩ := HOr.out.has E1.out (j * 6 + 1) (by omega)
      have hfr1 := HOr.out.free E1.out (j * 6 + 1)
      obtain ⟨vr2, hvr2⟩ := HOr.out.has E1.out (j * 6 + 2) (by omega)
      have hfr2 := HOr.out.free E1.out (j * 6 + 2)
      obtain ⟨vr3, hvr3⟩ := HOr.out.has E1.out (j * 6 + 3) (by omega)
      have hfr3 := HOr.out.free E1.out (j * 6 + 3)
      obtain ⟨vr4, hvr4⟩ := HOr.out.has E1.out (j * 6 + 4) (by omega)
      have hfr4 := HOr.out.free E1.out (j * 6 + 4)
      obtain ⟨vr5, hvr5⟩ := HOr.out.has E1.out (j * 6 + 5) (by omega)
      have hfr5 := HOr.out.free E1.out (j * 6 + 5)
      have HO0x : Hid (OwnG (wr.setCell ⟨g, j * 6, none⟩ (.int .i64 (q0 : Int))) base 108 6 r n (FK (fun i => decide (i = 2) || decide (i = 3)) 6 k0) (j * 6 + 1)) := HOr.out.put E1.out (by omega) HF0.out
      have HG0x : Hid (w.grownBy (wr.setCell ⟨g, j * 6, none⟩ (.int .i64 (q0 : Int))) r.blk) := gb_set HGr.out (blk_of E1.out)
      have HO1x : Hid (OwnG ((wr.setCell ⟨g, j * 6, none⟩ (.int .i64 (q0 : Int))).setCell ⟨g, j * 6 + 1, none⟩ (.int .i64 (q1 : Int))) base 108 6 r n (FK (fun i => decide (i = 2) || decide (i = 3)) 6 k0) (j * 6 + 1 + 1)) := HO0x.out.put E1.out (by omega) HF1.out
      have HG1x : Hid (w.grownBy ((wr.setCell ⟨g, j * 6, none⟩ (.int .i64 (q0 : Int))).setCell ⟨g, j * 6 + 1, none⟩ (.int .i64 (q1 : Int))) r.blk) := gb_set HG0x.out (blk_of E1.out)
      go_wp2_with fail
      refine (markText_any q2 _ HQB2.out.1 HQB2.out.2).mono ?_
      rintro e w2 ⟨rfl, hb2⟩
      have HO2 := hidI (HO1x.out.later hb2)
      have HG2 := hidI (gb_below HG1x.out hb2)
      clear hb2
      obtain ⟨vt2_2, hvt2_2⟩ := HO2.out.has E1.out (j * 6 + 2) (by omega)
      have hft2_2 := HO2.out.free E1.out (j * 6 + 2)
      obtain ⟨vt2_3, hvt2_3⟩ := HO2.out.has E1.out (j * 6 + 3) (by omega)
      have hft2_3 := HO2.out.free E1.out (j * 6 + 3)
      obtain ⟨vt2_4, hvt2_4⟩ := HO2.out.has E1.out (j * 6 + 4) (by omega)
      have hft2_4 := HO2.out.free E1.out (j * 6 + 4)
      obtain ⟨vt2_5, hvt2_5⟩ := HO2.out.has E1.out (j * 6 + 5) (by omega)
      have hft2_5 := HO2.out.free E1.out (j * 6 + 5)
      have HO2x : Hid (OwnG (w2.setCell ⟨g, j * 6 + 2, none⟩ (.string (mtS q2))) base 108 6 r n (FK (fun i => decide (i = 2) || decide (i = 3)) 6 k0) (j * 6 + 2 + 1)) := HO2.out.put E1.out (by omega) HF2.out
      have HG2x : Hid (w.grownBy (w2.setCell ⟨g, j * 6 + 2, none⟩ (.string (mtS q2))) r.blk) := gb_set HG2.out (blk_of E1.out)
      go_wp2_with fail
      refine (markText_any q3 _ HQB3.out.1 HQB3.out.2).mono ?_
      rintro e w3 ⟨rfl, hb3⟩
      have HO3 := hidI (HO2x.out.later hb3)
      have HG3 := hidI (gb_below HG2x.out hb3)
      clear hb3
      obtain ⟨vt3_3, hvt3_3⟩ := HO3.out.has E1.out (j * 6 + 3) (by omega)
      have hft3_3 := HO3.out.free E1.out (j * 6 + 3)
      obtain ⟨vt3_4, hvt3_4⟩ := HO3.out.has E1.out (j * 6 + 4) (by omega)
      have hft3_4 := HO3.out.free E1.out (j * 6 + 4)
      obtain ⟨vt3_5, hvt3_5⟩ := HO3.out.has E1.out (j * 6 + 5) (by omega)
      have hft3_5 := HO3.out.free E1.out (j * 6 + 5)
      have HO3x : Hid (OwnG (w3.setCell ⟨g, j * 6 + 3, none⟩ (.string (mtS q3))) base 108 6 r n (FK (fun i => decide (i = 2) || decide (i = 3)) 6 k0) (j * 6 + 3 + 1)) := HO3.out.put E1.out (by omega) HF3.out
      have HG3x : Hid (w.grownBy (w3.setCell ⟨g, j * 6 + 3, none⟩ (.string (mtS q3))) r.blk) := gb_set HG3.out (blk_of E1.out)
      have HO4x : Hid (OwnG ((w3.setCell ⟨g, j * 6 + 3, none⟩ (.string (mtS q3))).setCell ⟨g, j * 6 + 4, none⟩ (.int .i64 (q4 : Int))) base 108 6 r n (FK (fun i => decide (i = 2) || decide (i = 3)) 6 k0) (j * 6 + 4 + 1)) := HO3x.out.put E1.out (by omega) HF4.out
      have HG4x : Hid (w.grownBy ((w3.setCell ⟨g, j * 6 + 3, none⟩ (.string (mtS q3))).setCell ⟨g, j * 6 + 4, none⟩ (.int .i64 (q4 : Int))) r.blk) := gb_set HG3x.out (blk_of E1.out)
      have HO5x : Hid (OwnG (((w3.setCell ⟨g, j * 6 + 3, none⟩ (.string (mtS q3))).setCell ⟨g, j * 6 + 4, none⟩ (.int .i64 (q4 : Int))).setCell ⟨g, j * 6 + 5, none⟩ (.int .i64 (q5 : Int))) base 108 6 r n (FK (fun i => decide (i = 2) || decide (i = 3)) 6 k0) (j * 6 + 5 + 1)) := HO4x.out.put E1.out (by omega) HF5.out
      have HG5x : Hid (w.grownBy (((w3.setCell ⟨g, j * 6 + 3, none⟩ (.string (mtS q3))).setCell ⟨g, j * 6 + 4, none⟩ (.int .i64 (q4 : Int))).setCell ⟨g, j * 6 + 5, none⟩ (.int .i64 (q5 : Int))) r.blk) := gb_set HG4x.out (blk_of E1.out)
      go_wp2
      go_roundg (gk - 1)
      case rel => exact ⟨j1, rfl, by have := HJ.out; omega, by have := HJ.out; have := HQ.out; rw [show q6 = k0 + j1 * 6 from by omega], by have := HO5x.out; rw [show j1 * 6 = j * 6 + 5 + 1 from by have := HJ.out; omega]; exact this, HG5x.out⟩
      case measure => omega
    · have hlti : ¬ (j : Int) < (n : Int) := by omega
      obtain rfl : j = n := by omega
      subst hq
      go_wp2
      go_ret
      exact ⟨rfl, HOr.out, HGr.out⟩
theorem markExprS_any (base n k0 : Nat) (r : Rw) (w : World) (h1 : OwnG w base 108 6 r n (FK (fun i => decide (i = 2) || decide (i = 3)) 6 k0) 0) (hn : n ≤ 4000) (hk0 : 0 < k0) (hk : k0 ≤ 50000) :
    Calls Tryz.prog 34 #[.slice r.a n r.cap, .int .i64 k0] w fun e w' => e = .returned (.int .i64 ((k0 + n * 6 : Nat) : Int)) ∧ OwnG w' base 108 6 r n (FK (fun i => decide (i = 2) || decide (i = 3)) 6 k0) (n * 6) ∧ w.grownBy w' r.blk := by
  by_cases h0 : n = 0
  · subst h0
    refine (markExprS_zero _ _ k0 w).mono ?_
    rintro e w1 ⟨rfl, rfl⟩
    exact ⟨by simp, by rw [Nat.zero_mul]; exact h1, gb_refl _ _⟩
  · obtain ⟨xs, h2, h3⟩ := h1
    rcases h2.nil_or with ⟨_, _, e⟩ | ⟨g, e1⟩
    · exact absurd e h0
    · rw [e1]
      exact markExprS_row base g n k0 r w ⟨xs, h2, h3⟩ e1 hn hk0 hk
end Go.Proofs.YticdggnnpjachaaGreat
