/-
  No cell of these rows narrows 'for every input' (looked for: loops, veiled, ifaces, maps, wideKeys, modest, calm, conditions, laid).
  DERIVED. THE GIVEN ROWS OF THIS SEAT. 3 by the template 'for every input the law returns true; each argument reads behind the call as it read before'; 0 by the template 'total and deterministic' (their statements: YticdggnnpjachaaGreatTotals.lean).
  GIVEN WITH THE SEED: the statements are not yours to turn. If you find one false, say at which input.
  Laid BY PROGRAM, IN A SANDBOX (cutbox-rows.mjs): the forced cells as the released guide's own fill.sh prints them over the translation d46a9faa525922a7… (all of the seat's roots in one cut). By AI agents, Wed Nov 11 2026. No macro, syntax, notation, axiom, sorry.
-/
import Derived.Test.YticdggnnpjachaaGreatChecked
import GoSem.Claim
import GoSem.ClaimJoined
import GoSem.ClaimMapViews
import Derived.JoinedTies
import Derived.KernelRfl
namespace Go.Proofs.YticdggnnpjachaaGreat
/- THE CELL 'sum', in the pinned program and in every row, IS THE sha256 OF THE DUMP (.gsa) THAT YticdggnnpjachaaGreatProg.lean LOADS. Nothing in Lean hashes anything: it is a label: what it is worth is what the hold of that sum in a sandbox is worth. -/
noncomputable def Tryz.pinned : Pinned := { name := "yticdggnnpjachaagreat", sum := "d46a9faa525922a7570c648c71185bc5a03e5812f1840a77e1624b9d617eb3b2", checked := Tryz.checked }
namespace Rows
def none {H : Type} : Left H := { results := [], args := [] }

/-- 'laws.FnExactParse': WHATEVER THE INPUT: true; the input reads as it did. -/
def fnExactParseSpec : ChangeSpec := { name := "fnExactParse", fn := fun _ => fun
  | [d1, d2] => { results := [.lit (.bool true)], args := [d1, d2] }
  | _ => none }
def fnExactParseRow : OpenClaim := { program := "yticdggnnpjachaagreat", sum := "d46a9faa525922a7570c648c71185bc5a03e5812f1840a77e1624b9d617eb3b2", func := "loop.example/g00777/laws.FnExactParse", spec := "fnExactParse", inPlace := ["internal/bytealg.IndexByteString"], unfollowed := true, recurses := true, apart := false }
def FnExactParseSaid : Prop := fnExactParseRow.holds Tryz.pinned (OpenSpec.ofChange fnExactParseSpec)

/-- ITS FALSE NEIGHBOUR: 'it returns false'. Refute it at one input. -/
def fnExactParseWrong : ChangeSpec := { name := "fnExactParse", fn := fun _ => fun
  | [d1, d2] => { results := [.lit (.bool false)], args := [d1, d2] }
  | _ => none }
def FnExactParseWrongFalsely : Prop := fnExactParseRow.holds Tryz.pinned (OpenSpec.ofChange fnExactParseWrong)

/-- 'laws.FnExactModOk': WHATEVER THE INPUT: true; the input reads as it did. -/
def fnExactModOkSpec : ChangeSpec := { name := "fnExactModOk", fn := fun _ => fun
  | [d1, d2] => { results := [.lit (.bool true)], args := [d1, d2] }
  | _ => none }
def fnExactModOkRow : OpenClaim := { program := "yticdggnnpjachaagreat", sum := "d46a9faa525922a7570c648c71185bc5a03e5812f1840a77e1624b9d617eb3b2", func := "loop.example/g00777/laws.FnExactModOk", spec := "fnExactModOk", inPlace := ["internal/abi.NoEscape", "internal/bytealg.IndexByteString"], unfollowed := true, recurses := true, apart := false }
def FnExactModOkSaid : Prop := fnExactModOkRow.holds Tryz.pinned (OpenSpec.ofChange fnExactModOkSpec)

/-- ITS FALSE NEIGHBOUR: 'it returns false'. Refute it at one input. -/
def fnExactModOkWrong : ChangeSpec := { name := "fnExactModOk", fn := fun _ => fun
  | [d1, d2] => { results := [.lit (.bool false)], args := [d1, d2] }
  | _ => none }
def FnExactModOkWrongFalsely : Prop := fnExactModOkRow.holds Tryz.pinned (OpenSpec.ofChange fnExactModOkWrong)

/-- 'laws.FnPrint': WHATEVER THE INPUT: true; the input reads as it did. -/
def fnPrintSpec : ChangeSpec := { name := "fnPrint", fn := fun _ => fun
  | [d] => { results := [.lit (.bool true)], args := [d] }
  | _ => none }
def fnPrintRow : OpenClaim := { program := "yticdggnnpjachaagreat", sum := "d46a9faa525922a7570c648c71185bc5a03e5812f1840a77e1624b9d617eb3b2", func := "loop.example/g00777/laws.FnPrint", spec := "fnPrint", inPlace := ["internal/abi.NoEscape", "internal/bytealg.IndexByteString"], unfollowed := true, recurses := true, apart := false }
def FnPrintSaid : Prop := fnPrintRow.holds Tryz.pinned (OpenSpec.ofChange fnPrintSpec)

/-- ITS FALSE NEIGHBOUR: 'it returns false'. Refute it at one input. -/
def fnPrintWrong : ChangeSpec := { name := "fnPrint", fn := fun _ => fun
  | [d] => { results := [.lit (.bool false)], args := [d] }
  | _ => none }
def FnPrintWrongFalsely : Prop := fnPrintRow.holds Tryz.pinned (OpenSpec.ofChange fnPrintWrong)

/- THE SECOND FORM. 'bulk': how many values and letters a reading holds, each counted each time it is reached (what is shared counts as often as it is met; a slice's spare places count too). A statement '..UptoSaid' is the law's where the arguments, and the package variables that the reading takes, are together of bulk at most 1048576: NARROWER than '..Said'. Prove '..Said' where nothing that the law and all that it calls make is longer than what came in: it says more and counts as full. Else prove '..UptoSaid'. A law counts once. -/
mutual
def uptoBulk {H : Type} : DataW H → Nat
  | .lit (.string bytes) => bytes.length + 1
  | .lit _ => 1
  | .nil => 1
  | .ptr d => uptoBulk d + 1
  | .slice elems spare => uptoBulkAll elems + uptoBulkAll spare + 1
  | .agg parts => uptoBulkAll parts + 1
  | .iface _ d => uptoBulk d + 1
  | .map entries => uptoBulkEntries entries + 1
  | .held _ => 1
def uptoBulkAll {H : Type} : List (DataW H) → Nat
  | [] => 0
  | d :: r => uptoBulk d + uptoBulkAll r
def uptoBulkEntries {H : Type} : List (Lit × DataW H) → Nat
  | [] => 0
  | x :: r => uptoBulkEntry x + uptoBulkEntries r
def uptoBulkEntry {H : Type} : Lit × DataW H → Nat
  | (.string bytes, d) => bytes.length + uptoBulk d + 1
  | (_, d) => uptoBulk d + 1
 end
def uptoSmall : (H : Type) → List (DataW H) → Bool := fun _ ds => decide (uptoBulkAll ds ≤ 1048576)
def OpenSpec.upto (s : _root_.Go.ChangeSpec) : _root_.Go.OpenSpec := { _root_.Go.OpenSpec.ofChange s with cond := some uptoSmall }

/-- 'laws.FnExactParse', WHERE WHAT IT READS IS OF BULK AT MOST 1048576: true; the input reads as it did. -/
def fnExactParseUptoRow : OpenClaim := { program := "yticdggnnpjachaagreat", sum := "d46a9faa525922a7570c648c71185bc5a03e5812f1840a77e1624b9d617eb3b2", func := "loop.example/g00777/laws.FnExactParse", spec := "fnExactParse", inPlace := ["internal/bytealg.IndexByteString"], unfollowed := true, recurses := true, apart := false, narrowed := true }
def FnExactParseUptoSaid : Prop := fnExactParseUptoRow.holds Tryz.pinned (OpenSpec.upto fnExactParseSpec)

/-- 'laws.FnExactModOk', WHERE WHAT IT READS IS OF BULK AT MOST 1048576: true; the input reads as it did. -/
def fnExactModOkUptoRow : OpenClaim := { program := "yticdggnnpjachaagreat", sum := "d46a9faa525922a7570c648c71185bc5a03e5812f1840a77e1624b9d617eb3b2", func := "loop.example/g00777/laws.FnExactModOk", spec := "fnExactModOk", inPlace := ["internal/abi.NoEscape", "internal/bytealg.IndexByteString"], unfollowed := true, recurses := true, apart := false, narrowed := true }
def FnExactModOkUptoSaid : Prop := fnExactModOkUptoRow.holds Tryz.pinned (OpenSpec.upto fnExactModOkSpec)

/-- 'laws.FnPrint', WHERE WHAT IT READS IS OF BULK AT MOST 1048576: true; the input reads as it did. -/
def fnPrintUptoRow : OpenClaim := { program := "yticdggnnpjachaagreat", sum := "d46a9faa525922a7570c648c71185bc5a03e5812f1840a77e1624b9d617eb3b2", func := "loop.example/g00777/laws.FnPrint", spec := "fnPrint", inPlace := ["internal/abi.NoEscape", "internal/bytealg.IndexByteString"], unfollowed := true, recurses := true, apart := false, narrowed := true }
def FnPrintUptoSaid : Prop := fnPrintUptoRow.holds Tryz.pinned (OpenSpec.upto fnPrintSpec)

end Rows
end Go.Proofs.YticdggnnpjachaaGreat
