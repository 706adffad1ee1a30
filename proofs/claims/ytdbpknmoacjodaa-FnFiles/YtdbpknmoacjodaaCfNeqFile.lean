/-
  The model's != of two files that are alike. No program is spoken of but by a type's number.
-/
import Derived.Test.YtdbpknmoacjodaaProg
import Derived.Laws.StructEq
import Derived.WalkKit
namespace Go.Proofs.Ytdbpknmoacjodaa
open Go.RowKit

theorem neqFl (p t : ByteArray) (w : World) : Sem.run Try.prog (binOp .neq 52 (.agg #[.string p, .string t]) (.agg #[.string p, .string t])) w = .ok (.bool false) w := by
  have uS := Try.underlying9
  have aS := Try.isAgg9
  have zS := Try.sizeOf9
  have hS : Try.prog.underlying 52 = some (.struct (Try.prog.fieldsOf 52)) := by kernel_rfl
  have hp : Try.prog.stoodInHeld 52 = false := by kernel_rfl
  rw [run_neq_struct, show (10000 : Nat) = 9999 + 1 from rfl, run_equalIn_agg w 9999 52 _ _ hS hp]
  simp only [Program.fieldsOf, Try.underlying52]
  go_simp
theorem grdFl (op : BinOp) (a b : Operand) (p t : ByteArray) (w : World) : Sem.run Try.prog (eqGuard op 52 a b (.agg #[.string p, .string t]) (.agg #[.string p, .string t])) w = .ok () w := run_eqGuard_agg w op 52 a b _ _ (by kernel_rfl)
end Go.Proofs.Ytdbpknmoacjodaa
