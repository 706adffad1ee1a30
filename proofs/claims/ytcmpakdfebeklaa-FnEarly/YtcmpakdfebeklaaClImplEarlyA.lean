/-
  The map of impl.Early: what is known of its keys.
-/
import Derived.Test.YtcmpakdfebeklaaClMapCount
import Derived.Test.YtcmpakdfebeklaaClDrawModToEarlyMath
import Derived.DeepKeys4
namespace Go.Proofs.Ytcmpakdfebeklaa
open Go.ChangeShapes Go.WideShapes
open Go.Maps (Keyed)

abbrev mkK (p : Int × ByteArray) : Value := .agg #[.int .i64 p.1, .string p.2]
theorem mkK_inj (a b : Int × ByteArray) (h : mkK a = mkK b) : a = b := by
  simp only [mkK, Value.agg.injEq, Array.mk.injEq, List.cons.injEq, Value.int.injEq, Value.string.injEq, and_true, true_and] at h
  exact Prod.ext h.1 h.2
theorem Try.laidE : laidOutB Try.prog = true := by kernel_rfl
theorem Try.rowE : (103 : TypeId) < Try.prog.types.size := of_decide_eq_true (by kernel_rfl)
theorem Try.wideE : (match Try.prog.underlying 103 with | some (.array _ _) | some (.struct _) => true | _ => false) = true := by rw [Try.underlying103]
set_option maxRecDepth 100000 in
theorem Try.keyE : WideMaps.KeyLaw Try.prog 103 := deep_law_laid Try.laidE (m := 2) (by omega) Try.rowE (by kernel_rfl) Try.wideE
theorem Try.keyed : Keyed Try.prog 103 := Keyed.of_law Try.keyE
theorem Try.zeroI (w : World) : (zeroValue 3).run Try.prog w = .ok (.int .i64 0) w := by kernel_rfl
theorem Try.deepE : Try.prog.keyType 103 = true := by kernel_rfl
theorem Try.cellsE : Try.prog.cellsOf 103 = 2 := by kernel_rfl
theorem Try.cellsEI : Try.prog.cellsOf 3 = 1 := by kernel_rfl
theorem Try.cellsES : Try.prog.cellsOf 9 = 1 := by kernel_rfl
theorem Try.manyE : 2 ≤ Try.prog.types.size := of_decide_eq_true (by kernel_rfl)
theorem keyOf_mk (r : Int) (s : ByteArray) (hr : (Lit.int .i64 r).wf = true) (hs : s.size ≤ maxLen) : ∃ l, keyOf Try.prog 103 (mkK (r, s)) = some l := by
  obtain ⟨n, hn⟩ : ∃ n, Try.prog.types.size + 1 = n + 2 := ⟨Try.prog.types.size - 1, by have := Try.manyE; omega⟩
  unfold keyOf
  rw [Try.underlying103]
  simp only [Try.deepE, hn]
  simp [Value.formed, Try.underlying103, Try.cellsE, Try.cellsEI, Try.cellsES, Value.cells, Program.keyLits, Try.underlying3, Try.underlying9, hr, hs]
end Go.Proofs.Ytcmpakdfebeklaa
