/-
  The deferred closure of impl.Parse: of a frame that panics with a place, of one that returns: the walks.
-/
import Derived.Test.YticdggnnpjachaaGreatCaImplParseMem
import Derived.Defers
import Derived.Recover
namespace Go.Proofs.YticdggnnpjachaaGreat
open Go.RowKit Go.PlainAid

theorem run_assert_nil (w : World) : (Instr.typeAssert .nilIface 20 55 true).run Tryz.prog w = .ok (.tuple #[.int .i64 0, .bool false]) w := by kernel_rfl
theorem run_assert_place (p : Int) (w : World) : (Instr.typeAssert (.iface 55 (.int .i64 p)) 20 55 true).run Tryz.prog w = .ok (.tuple #[.int .i64 p, .bool true]) w := by kernel_rfl
set_option maxRecDepth 100000 in
set_option maxHeartbeats 1600000 in
theorem catch_idle (bm bb : Nat) (w : World) :
    CallsD Tryz.prog 23 #[.pointer (some ⟨bm, 0, none⟩), .pointer (some ⟨bb, 0, none⟩)] .returning w fun e u' w' => e = .returned (.tuple #[]) ∧ u' = .returning ∧ w' = w := by
  refine callsD_of_wpS Tryz.func23 rfl fun c₀ cs hu => ?_
  apply wpS_seq
  apply wpS_region
  simp [wpOpsS, go_sem, recoverD, hu, Tryz.ntmps23, Exit.thenS, run_assert_nil]
  apply wpS_seq
  apply wpS_region
  simp [wpOpsS, go_sem, Exit.thenS]
  refine wpS_cond (t := false) (by simp [Act.eval, Array.replicate]) ?_
  simp only [Bool.false_eq_true, if_false]
  refine wpS_of_wp (wp_skip ?_)
  cases c₀
  simp_all [bodyPostS, results, Tryz.results23]
set_option maxRecDepth 100000 in
set_option maxHeartbeats 1600000 in
theorem catch_place (bm bb : Nat) (p : Int) (v0 v1 v2 v3 v4 u : Value) (w : World) (hm : w.heap[bm]? = some (.cells #[v0, v1, v2, v3, v4] 28 (0, 0))) (hb : w.heap[bb]? = some (.cells #[u] 3 (0, 0))) (hne : bm ≠ bb) :
    CallsD Tryz.prog 23 #[.pointer (some ⟨bm, 0, none⟩), .pointer (some ⟨bb, 0, none⟩)] (.panicking [{ v := .iface 55 (.int .i64 p), recovered := false }]) w fun e u' w' =>
      e = .returned (.tuple #[]) ∧ u' = .panicking [{ v := .iface 55 (.int .i64 p), recovered := true }] ∧ w' = (((((w.setCell ⟨bm, 0, none⟩ (.slice none 0 0)).setCell ⟨bm, 1, none⟩ (.slice none 0 0)).setCell ⟨bm, 2, none⟩ (.slice none 0 0)).setCell ⟨bm, 3, none⟩ (.slice none 0 0)).setCell ⟨bm, 4, none⟩ (.slice none 0 0)).setCell ⟨bb, 0, none⟩ (.int .i64 p) := by
  obtain ⟨c0, c1, c2, c3, c4, cf⟩ := five_of hm
  have b0 : w.cell? ⟨bb, 0, none⟩ = some u := by simp [World.cell?, hb]
  have bf : w.frozen? ⟨bb, 0, none⟩ = false := by simp [World.frozen?, hb]
  refine callsD_of_wpS Tryz.func23 rfl fun c₀ cs hu => ?_
  apply wpS_seq
  apply wpS_region
  simp [wpOpsS, go_sem, recoverD, hu, Tryz.ntmps23, Exit.thenS, run_assert_place]
  apply wpS_seq
  apply wpS_region
  simp [wpOpsS, go_sem, Exit.thenS]
  refine wpS_cond (t := true) (by simp [Act.eval, Array.replicate]) ?_
  simp only [if_true]
  refine wpS_of_wp ?_
  go_wp2
  simp [bodyPostS, results, Tryz.results23]
end Go.Proofs.YticdggnnpjachaaGreat
