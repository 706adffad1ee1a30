/-
  The map of impl.Early: what is known of its keys.
  The map of impl.Early: what a name has of a role, and one more of it.
-/
import Derived.DeepKeys4
import Derived.Test.YtdbpknmoacjodaaCeMapCount
import Derived.Test.YtdbpknmoacjodaaCeSrcRowToImplParseQ
namespace Go.Proofs.Ytdbpknmoacjodaa
open Go.ChangeShapes Go.WideShapes
open Go.Maps (Keyed)

abbrev mkK (p : Int × ByteArray) : Value := .agg #[.int .i64 p.1, .string p.2]
theorem mkK_inj (a b : Int × ByteArray) (h : mkK a = mkK b) : a = b := by
  simp only [mkK, Value.agg.injEq, Array.mk.injEq, List.cons.injEq, Value.int.injEq, Value.string.injEq, and_true, true_and] at h
  exact Prod.ext h.1 h.2
theorem Try.laidE : laidOutB Try.prog = true := by kernel_rfl
theorem Try.rowE : (213 : TypeId) < Try.prog.types.size := of_decide_eq_true (by kernel_rfl)
theorem Try.wideE : (match Try.prog.underlying 213 with | some (.array _ _) | some (.struct _) => true | _ => false) = true := by rw [Try.underlying213]
set_option maxRecDepth 100000 in
theorem Try.keyE : WideMaps.KeyLaw Try.prog 213 := deep_law_laid Try.laidE (m := 2) (by omega) Try.rowE (by kernel_rfl) Try.wideE
theorem Try.keyed : Keyed Try.prog 213 := Keyed.of_law Try.keyE
theorem Try.zeroI (w : World) : (zeroValue 3).run Try.prog w = .ok (.int .i64 0) w := by kernel_rfl
theorem Try.deepE : Try.prog.keyType 213 = true := by kernel_rfl
theorem Try.cellsE : Try.prog.cellsOf 213 = 2 := by kernel_rfl
theorem Try.cellsEI : Try.prog.cellsOf 3 = 1 := by kernel_rfl
theorem Try.cellsES : Try.prog.cellsOf 9 = 1 := by kernel_rfl
theorem Try.manyE : 2 ≤ Try.prog.types.size := of_decide_eq_true (by kernel_rfl)
theorem keyOf_mk (r : Int) (s : ByteArray) (hr : (Lit.int .i64 r).wf = true) (hs : s.size ≤ maxLen) : ∃ l, keyOf Try.prog 213 (mkK (r, s)) = some l := by
  obtain ⟨n, hn⟩ : ∃ n, Try.prog.types.size + 1 = n + 2 := ⟨Try.prog.types.size - 1, by have := Try.manyE; omega⟩
  unfold keyOf
  rw [Try.underlying213]
  simp only [Try.deepE, hn]
  simp [Value.formed, Try.underlying213, Try.cellsE, Try.cellsEI, Try.cellsES, Value.cells, Program.keyLits, Try.underlying3, Try.underlying9, hr, hs]
end Go.Proofs.Ytdbpknmoacjodaa
namespace Go.Proofs.Ytdbpknmoacjodaa
open Go.RowKit Go.PlainAid Go.Sort
open Go.ChangeMaps (setBlock)

def RoleOk (p : Int × ByteArray) : Prop := 1 ≤ p.1 ∧ p.1 ≤ 3 ∧ p.2.size ≤ maxLen
theorem RoleOk.key {p : Int × ByteArray} (h : RoleOk p) : ∃ l, keyOf Try.prog 213 (mkK p) = some l := keyOf_mk p.1 p.2 (WalkArith.wf_i64 (by have := h.1; have := h.2.1; omega)) h.2.2
def cnt (L : List (Int × ByteArray)) (p : Int × ByteArray) : Nat := @List.count (Int × ByteArray) instBEqOfDecidableEq p L
theorem cnt_pos {L : List (Int × ByteArray)} {p : Int × ByteArray} : 0 < cnt L p ↔ p ∈ L := count_pos_gen L p
theorem cnt_le (L : List (Int × ByteArray)) (p : Int × ByteArray) : cnt L p ≤ L.length := count_le_gen L p
def CntW (w : World) (b : Nat) (L : List (Int × ByteArray)) : Prop := ∃ es clock, w.heap[b]? = some (.map es clock) ∧ CntE mkK L es clock ∧ ∀ p ∈ L, RoleOk p
theorem CntW.lt {w : World} {b : Nat} {L : List (Int × ByteArray)} (h : CntW w b L) : b < w.heap.size := by
  obtain ⟨es, clock, hb, _⟩ := h
  exact (Array.getElem?_eq_some_iff.1 hb).1
theorem CntW.kept {w w' : World} {b : Nat} {L : List (Int × ByteArray)} (h : CntW w b L) (hb : w'.heap[b]? = w.heap[b]?) : CntW w' b L := by
  obtain ⟨es, clock, h1, h2⟩ := h
  exact ⟨es, clock, hb.trans h1, h2⟩
theorem CntW.look {w : World} {b : Nat} {L : List (Int × ByteArray)} (h : CntW w b L) {p : Int × ByteArray} (hp : RoleOk p) : (Instr.lookup 147 (.map (some b)) (.agg #[.int .i64 p.1, .string p.2]) false).run Try.prog w = .ok (.int .i64 (cnt L p : Nat)) w := by
  obtain ⟨es, clock, hb, hc, hL⟩ := h
  obtain ⟨l, hl⟩ := hp.key
  exact cnt_look Try.keyed Try.underlying147 (Try.zeroI w) mkK_inj hc (fun z hz => (hL z hz).key) hl hb
theorem CntW.bump {W : World} {b : Nat} {L : List (Int × ByteArray)} (h : CntW W b L) (p : Int × ByteArray) (hp : RoleOk p) :
    ∃ (c : Nat) (v0 : Value) (st : Nat) (Wa Wb : World), c ≤ L.length ∧ (Instr.lookup 147 (.map (some b)) (.agg #[.int .i64 p.1, .string p.2]) false).run Try.prog W.drew = .ok (.int .i64 (c : Int)) W.drew ∧
      (Instr.mapEntry 147 (.map (some b)) (.agg #[.int .i64 p.1, .string p.2])).run Try.prog W.drew = .ok (.tuple #[v0, .int .i64 (st : Int)]) Wa ∧
      (Instr.lookup 147 (.map (some b)) (.agg #[.int .i64 p.1, .string p.2]) false).run Try.prog Wa = .ok (.int .i64 (c : Int)) Wa ∧
      (Instr.entryStore 147 (.map (some b)) (.int .i64 (st : Int)) (.int .i64 ((c : Int) + 1))).run Try.prog Wa = .ok () Wb ∧
      CntW Wb b (L ++ [p]) ∧ W.grownBy Wb (some b) := by
  obtain ⟨es, clock, hb, hc, hL⟩ := h
  obtain ⟨l, hl⟩ := hp.key
  have hb' : W.drew.heap[b]? = some (.map es clock) := hb
  obtain ⟨v0, st, es1, clock1, h1, h2, es', clock', h3, h4⟩ := cnt_entry Try.keyed Try.underlying147 Try.zeroI mkK_inj hc (fun z hz => (hL z hz).key) hl hb'
  have e1 : (setBlock W.drew b (.map es1 clock1)).heap[b]? = some (.map es1 clock1) := (MapKept.heap_set hb').1
  have e2 : (setBlock (setBlock W.drew b (.map es1 clock1)) b (.map es' clock')).heap[b]? = some (.map es' clock') := (MapKept.heap_set e1).1
  have hg2 : W.grownBy (setBlock (setBlock W.drew b (.map es1 clock1)) b (.map es' clock')) (some b) := by
    refine ⟨rfl, rfl, rfl, by simp [setBlock], fun i _ hne => ?_⟩
    have hne' : i ≠ b := fun e => hne (by rw [e])
    exact ((MapKept.heap_set e1).2 i hne').trans ((MapKept.heap_set hb').2 i hne')
  refine ⟨cnt L p, v0, st, _, _, cnt_le L p, cnt_look Try.keyed Try.underlying147 (Try.zeroI _) mkK_inj hc (fun z hz => (hL z hz).key) hl hb', h1, h2 _ e1, h4 _ e1, ⟨es', clock', e2, h3, fun q hq => ?_⟩, hg2⟩
  rcases List.mem_append.1 hq with hq | hq
  · exact hL q hq
  · rw [List.mem_singleton.1 hq]
    exact hp
set_option maxRecDepth 100000 in
set_option maxHeartbeats 1600000 in
theorem has_any (b : Nat) (L : List (Int × ByteArray)) (r : Int) (n : ByteArray) (w : World) (h : CntW w b L) (hp : RoleOk (r, n)) :
    Calls Try.prog 160 #[.map (some b), .int .i64 r, .string n] w fun e w' => e = .returned (.bool (decide (0 < cnt L (r, n)))) ∧ w' = w := by
  have hl := h.look hp
  generalize cnt L (r, n) = c at hl ⊢
  clear h
  go_enter Try.func160, Try.ntmps160
  go_wp2
  go_ret
  exact ⟨rfl, rfl⟩
end Go.Proofs.Ytdbpknmoacjodaa
