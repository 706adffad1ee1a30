/-
  The model's != of two rules. No program is spoken of but by a type's number.
-/
import Derived.Test.YtllhnofobkgjgaaProg
import Derived.Laws.StructEq
import Derived.WalkKit
namespace Go.Proofs.Ytllhnofobkgjgaa
open Go.RowKit

theorem neqRl (p t q u : ByteArray) (w : World) : Sem.run Try.prog (binOp .neq 34 (.agg #[.string p, .string t]) (.agg #[.string q, .string u])) w = .ok (.bool (!((p.toList == q.toList) && (t.toList == u.toList)))) w := by
  have uS := Try.underlying9
  have aS := Try.isAgg9
  have zS := Try.sizeOf9
  have hS : Try.prog.underlying 34 = some (.struct (Try.prog.fieldsOf 34)) := by kernel_rfl
  have hp : Try.prog.stoodInHeld 34 = false := by kernel_rfl
  rw [run_neq_struct, show (10000 : Nat) = 9999 + 1 from rfl, run_equalIn_agg w 9999 34 _ _ hS hp]
  simp only [Program.fieldsOf, Try.underlying34]
  go_simp
  by_cases h0 : p.toList = q.toList <;> by_cases h1 : t.toList = u.toList <;> simp [h0, h1]
theorem grdRl (op : BinOp) (a b : Operand) (p t q u : ByteArray) (w : World) : Sem.run Try.prog (eqGuard op 34 a b (.agg #[.string p, .string t]) (.agg #[.string q, .string u])) w = .ok () w := run_eqGuard_agg w op 34 a b _ _ (by kernel_rfl)
end Go.Proofs.Ytllhnofobkgjgaa
