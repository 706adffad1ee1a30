/-
  The model's == of two files. No program is spoken of but by a type's number.
-/
import Derived.Test.YtdbpknmoacjodaaCfDeleteFToImplChanged
import Derived.Laws.StructEq
namespace Go.Proofs.Ytdbpknmoacjodaa
open Go.RowKit

theorem eqlFl (p t q u : ByteArray) (w : World) : Sem.run Try.prog (binOp .eql 52 (.agg #[.string p, .string t]) (.agg #[.string q, .string u])) w = .ok (.bool (eqF p t q u)) w := by
  have uS := Try.underlying9
  have aS := Try.isAgg9
  have zS := Try.sizeOf9
  have hS : Try.prog.underlying 52 = some (.struct (Try.prog.fieldsOf 52)) := by kernel_rfl
  have hp : Try.prog.stoodInHeld 52 = false := by kernel_rfl
  rw [run_eql_struct, show (10000 : Nat) = 9999 + 1 from rfl, run_equalIn_agg w 9999 52 _ _ hS hp]
  simp only [Program.fieldsOf, Try.underlying52]
  go_simp
  by_cases h0 : p.toList = q.toList <;> by_cases h1 : t.toList = u.toList <;> simp [eqF, h0, h1]
theorem grdEq (op : BinOp) (a b : Operand) (p t q u : ByteArray) (w : World) : Sem.run Try.prog (eqGuard op 52 a b (.agg #[.string p, .string t]) (.agg #[.string q, .string u])) w = .ok () w := run_eqGuard_agg w op 52 a b _ _ (by kernel_rfl)
end Go.Proofs.Ytdbpknmoacjodaa
